import Derived.Test.YtiolfelekiopdaaGreatDoorKME
import Derived.Deep.QuietTactic
import Derived.BigQuiet
/- check: an expression that names something: checkRef. -/
namespace Go.Proofs.YtiolfelekiopdaaGreatDoor
open Go.RowKit Go.Maps
open Tp (Bs Th Sy Seen)

/- what a look leaves -/
def CkP (w : World) (res : Option (Nat × Nat)) (e : Ending) (w' : World) : Prop := Below w.heap.size w w' ∧ match res with
  | none => e = .returned (.tuple #[])
  | some er => Thrown w.heap.size er e w'
/- an expression's own block -/
def RefB (w : World) (b : Nat) (r : Tp.R) : Prop := ∃ (n : Int) (op : ByteArray) (lv rv : Option Addr) (aa : Option Addr) (ac : Nat), w.heap[b]? = some (.cells #[.int .i64 (r.code : Int), .int .i64 (r.pos : Int), .int .i64 n, .string (bs r.mod), .string (bs r.name), .string op, .pointer lv, .pointer rv, .slice aa r.args ac] 82 (0, 0))
def refRes (code pos args : Nat) (a : Nat) (bb : Int) (ee : Nat) : Option (Nat × Nat) := if ee ≠ 0 then some (ee, pos) else if Tp.kindOf (a, bb) ≠ code then some (1, pos) else if code = 6 ∧ (args : Int) ≠ bb then some (2, pos) else none
set_option maxRecDepth 100000 in
set_option maxHeartbeats 2000000 in
theorem checkRef_walk {w : World} {b x code pos args a ee : Nat} {bb n : Int} {md nm : Bs} {op : ByteArray} {lv rv aa : Option Addr} {ac : Nat} (hblk : w.heap[x]? = some (.cells #[.int .i64 (code : Int), .int .i64 (pos : Int), .int .i64 n, .string (bs md), .string (bs nm), .string op, .pointer lv, .pointer rv, .slice aa args ac] 82 (0, 0)))
    (hF : ∀ W, Below w.heap.size w W → Calls Tryz.prog 65 #[.string (bs md), .string (bs nm), .pointer (some ⟨b, 0, none⟩), .pointer (some ⟨b + 1, 0, none⟩)] W fun e w' => e = .returned (.tuple #[.agg #[.int .i64 (a : Int), .int .i64 bb], .int .i64 (ee : Int)]) ∧ Below W.heap.size W w') (hc : code < 1000) :
    Calls Tryz.prog 84 #[.pointer (some ⟨x, 0, none⟩), finderV b] w (CkP w (refRes code pos args a bb ee)) := by
  have hxl := lt_blk hblk
  have c3 : w.cell? ⟨x, 3, none⟩ = some (.string (bs md)) := (cell_blk hblk).trans rfl
  have c4 : w.cell? ⟨x, 4, none⟩ = some (.string (bs nm)) := (cell_blk hblk).trans rfl
  have HC : Hid (w.drew.cell? ⟨x, 3, none⟩ = some (.string (bs md)) ∧ w.drew.cell? ⟨x, 4, none⟩ = some (.string (bs nm))) := ⟨c3, c4⟩
  have HC' : Hid (∀ ob, (w.alloc ob).drew.cell? ⟨x, 3, none⟩ = some (.string (bs md)) ∧ (w.alloc ob).drew.cell? ⟨x, 4, none⟩ = some (.string (bs nm))) := fun ob => ⟨cell_alloc' c3 _, cell_alloc' c4 _⟩
  have HK := Lib.hid hblk
  have HF := Lib.hid hF
  have HCD := Lib.hid (show w.cell? ⟨x, 3, none⟩ = some (.string (bs md)) ∧ w.cell? ⟨x, 4, none⟩ = some (.string (bs nm)) from ⟨c3, c4⟩)
  clear hblk hF
  unfold finderV
  go_enter Tryz.func84, Tryz.ntmps84
  go_upto_region 0 with fail
  go_cut [4, 5] (fun s4 s5 wc => ∃ ib : Nat, s4 = .pointer (some ⟨ib, 0, none⟩) ∧ s5 = .int .i64 (ee : Int) ∧ Below w.heap.size w wc ∧ wc.heap[ib]? = some (.cells #[.int .i64 (a : Int), .int .i64 bb] 116 (0, 0)) ∧ w.heap.size ≤ ib)
  case first =>
    go_region_held3 (fun w' => w'.cell? ⟨x, 3, none⟩ = some (.string (bs md)) ∧ w'.cell? ⟨x, 4, none⟩ = some (.string (bs nm))) (with_reducible (first | exact HC4.out _ | exact HC3.out | exact HC.out | exact HC'.out _ | exact HCS.out _ _ | fail "KEEP")) (first | (go_at_call 65; first | (refine (HF.out w.drew ((Below.refl _ _).drew)).mono ?_; rintro e w2 ⟨rfl, hb2⟩; have HB2 : Hid (Below w.heap.size w w2) := ((Below.refl _ _).drew).trans hb2; have HC3 : Hid (w2.cell? ⟨x, 3, none⟩ = some (.string (bs md)) ∧ w2.cell? ⟨x, 4, none⟩ = some (.string (bs nm))) := ⟨(HB2.out.cell (p := ⟨x, 3, none⟩) hxl).trans HCD.out.1, (HB2.out.cell (p := ⟨x, 4, none⟩) hxl).trans HCD.out.2⟩; have HC4 : Hid (∀ ob, (w2.alloc ob).cell? ⟨x, 3, none⟩ = some (.string (bs md)) ∧ (w2.alloc ob).cell? ⟨x, 4, none⟩ = some (.string (bs nm))) := fun ob => ⟨cell_alloc' HC3.out.1 _, cell_alloc' HC3.out.2 _⟩; clear hb2) | (refine (HF.out (w.alloc _).drew (((Below.refl _ _).alloc (Nat.le_refl _) _).drew)).mono ?_; rintro e w2 ⟨rfl, hb2⟩; have HB2 : Hid (Below w.heap.size w w2) := (((Below.refl _ _).alloc (Nat.le_refl _) _).drew).trans (hb2.mono (by simp)); have HIB : Hid (w2.heap[w.heap.size]? = some (.cells #[.int .i64 0, .int .i64 0] 116 (0, 0))) := (hb2.block w.heap.size (by simp)).trans (new_blk w _); have kb0 : w2.cell? ⟨w.heap.size, 0, none⟩ = some (.int .i64 0) := (cell_blk HIB.out).trans rfl; have kb1 : w2.cell? ⟨w.heap.size, 1, none⟩ = some (.int .i64 0) := (cell_blk HIB.out).trans rfl; have zb0 : w2.frozen? ⟨w.heap.size, 0, none⟩ = false := frozen_blk HIB.out; have zb1 : w2.frozen? ⟨w.heap.size, 1, none⟩ = false := frozen_blk HIB.out; have HC3 : Hid (w2.cell? ⟨x, 3, none⟩ = some (.string (bs md)) ∧ w2.cell? ⟨x, 4, none⟩ = some (.string (bs nm))) := ⟨(HB2.out.cell (p := ⟨x, 3, none⟩) hxl).trans HCD.out.1, (HB2.out.cell (p := ⟨x, 4, none⟩) hxl).trans HCD.out.2⟩; have HCS : Hid (∀ u v, ((w2.setCell ⟨w.heap.size, 0, none⟩ u).setCell ⟨w.heap.size, 1, none⟩ v).cell? ⟨x, 3, none⟩ = some (.string (bs md)) ∧ ((w2.setCell ⟨w.heap.size, 0, none⟩ u).setCell ⟨w.heap.size, 1, none⟩ v).cell? ⟨x, 4, none⟩ = some (.string (bs nm))) := fun u v => ⟨by rw [World.cell?_setCell_far _ _ _ _ (by simp; omega), World.cell?_setCell_far _ _ _ _ (by simp; omega)]; exact HC3.out.1, by rw [World.cell?_setCell_far _ _ _ _ (by simp; omega), World.cell?_setCell_far _ _ _ _ (by simp; omega)]; exact HC3.out.2⟩; clear hb2)))
    · go_wp2_with fail
      go_meet
      case rel => exact ⟨w2.heap.size, rfl, rfl, HB2.out.alloc (by have := HB2.out.size; omega) _, new_blk _ _, HB2.out.size⟩
    · go_wp2_with fail
      go_meet
      case rel => exact ⟨w.heap.size, rfl, rfl, below_set (below_set HB2.out (Nat.le_refl _) 0 _) (Nat.le_refl _) 1 _, set_blk 1 _ (set_blk 0 _ HIB.out), Nat.le_refl _⟩
  case rest =>
    obtain ⟨ib, rfl, rfl, hbw, hib, hge⟩ := hcut
    have hsz := hbw.size
    have e0 := (hbw.block x hxl).trans HK.out
    have k0 : wc.cell? ⟨x, 0, none⟩ = some (.int .i64 (code : Int)) := (cell_blk e0).trans rfl
    have k1 : wc.cell? ⟨x, 1, none⟩ = some (.int .i64 (pos : Int)) := (cell_blk e0).trans rfl
    have k8 : wc.cell? ⟨x, 8, none⟩ = some (.slice aa args ac) := (cell_blk e0).trans rfl
    have i0 : wc.cell? ⟨ib, 0, none⟩ = some (.int .i64 (a : Int)) := (cell_blk hib).trans rfl
    have i1 : wc.cell? ⟨ib, 1, none⟩ = some (.int .i64 bb) := (cell_blk hib).trans rfl
    have hxl1 : x < wc.heap.size := by omega
    have hil1 : ib < wc.heap.size := lt_blk hib
    have HBW := Lib.hid hbw
    have HIB := Lib.hid hib
    have HE0 := Lib.hid e0
    clear hbw hib e0 c3 c4 HC HC' HF HCD HK
    by_cases hee : ee = 0
    · subst hee
      have hc' : (code : Int) < 1000 := by omega
      have HKI : Hid (wc.drew.cell? ⟨ib, 0, none⟩ = some (.int .i64 (a : Int)) ∧ wc.drew.cell? ⟨ib, 1, none⟩ = some (.int .i64 bb) ∧ wc.drew.cell? ⟨x, 0, none⟩ = some (.int .i64 (code : Int))) := ⟨i0, i1, k0⟩
      have HKI' : Hid (∀ W, Below wc.heap.size wc W → W.cell? ⟨ib, 0, none⟩ = some (.int .i64 (a : Int)) ∧ W.cell? ⟨ib, 1, none⟩ = some (.int .i64 bb) ∧ W.cell? ⟨x, 0, none⟩ = some (.int .i64 (code : Int))) := fun W hW => ⟨(hW.cell (p := ⟨ib, 0, none⟩) hil1).trans i0, (hW.cell (p := ⟨ib, 1, none⟩) hil1).trans i1, (hW.cell (p := ⟨x, 0, none⟩) hxl1).trans k0⟩
      obtain ⟨kd, hkd⟩ : ∃ kd, kd = Tp.kindOf (a, bb) := ⟨_, rfl⟩
      have HKA : Hid (Calls Tryz.prog 109 #[.agg #[.int .i64 (a : Int), .int .i64 bb]] wc.drew fun e w' => e = .returned (.int .i64 (kd : Int)) ∧ Below wc.heap.size wc w') := by
        rw [hkd]
        exact (kind_any a bb wc.drew).mono fun e w' q => ⟨q.1, ((Below.refl _ _).drew).trans q.2⟩
      have hkn : kd < 1000 := by rw [hkd]; unfold Tp.kindOf; split <;> (try split) <;> omega
      have HRES : Hid (refRes code pos args a bb 0 = if kd ≠ code then some (1, pos) else if code = 6 ∧ (args : Int) ≠ bb then some (2, pos) else none) := by unfold Hid refRes; rw [if_neg (by simp), hkd]
      clear hkd
      go_wp2_with fail
      go_region_held3 (fun w' => w'.cell? ⟨ib, 0, none⟩ = some (.int .i64 (a : Int)) ∧ w'.cell? ⟨ib, 1, none⟩ = some (.int .i64 bb) ∧ w'.cell? ⟨x, 0, none⟩ = some (.int .i64 (code : Int))) (with_reducible (first | exact HKI2.out | exact HKI.out | fail "KEEP")) (first | (go_at_call 109; refine HKA.out.mono ?_; rintro e w3 ⟨rfl, hb3⟩; have HB3 := Lib.hid hb3; have HKI2 := Lib.hid (HKI'.out w3 hb3); clear hb3))
      have hb3 := HB3.out
      have hsz3 := hb3.size
      have k1' : w3.cell? ⟨x, 1, none⟩ = some (.int .i64 (pos : Int)) := (hb3.cell (p := ⟨x, 1, none⟩) hxl1).trans k1
      have k8' : w3.cell? ⟨x, 8, none⟩ = some (.slice aa args ac) := (hb3.cell (p := ⟨x, 8, none⟩) hxl1).trans k8
      obtain ⟨j0, j1, j2⟩ := HKI2.out
      have hxl3 : x < w3.heap.size := by omega
      have hil3 : ib < w3.heap.size := by omega
      have HBW3 : Hid (Below w.heap.size w w3) := HBW.out.trans (hb3.mono hsz)
      have hszw : w.heap.size ≤ w3.heap.size := by omega
      clear hb3 i0 i1 k0 k1 k8 HKI HKI' HKA HB3 HKI2
      by_cases hkc : kd = code
      · subst hkc
        by_cases h6 : kd = 6
        · subst h6
          by_cases hab : (args : Int) = bb
          · subst hab
            have HR2 : Hid (refRes 6 pos args a (args : Int) 0 = none) := by unfold Hid; rw [HRES.out]; simp
            clear HRES
            go_wp2_with fail
            go_quiet (fail)
            go_wp2_with fail
            refine bodyPost_end (results_none rfl _ _ _) rfl ⟨below_drewN HBW3.out _, ?_⟩
            rw [HR2.out]
          · have hab' : ((args : Int) != bb) = true := by simpa using hab
            have HR2 : Hid (refRes 6 pos args a bb 0 = some (2, pos)) := by unfold Hid; rw [HRES.out]; simp [hab]
            clear HRES hab
            go_wp2_with fail
            go_quiet (fail)
            go_wp2_with fail
            refine (cthrow_any 2 pos _).mono ?_
            rintro e w4 ⟨ht, hb4⟩
            have HB4 : Hid (Below w.heap.size w w4) := (below_drewN HBW3.out _).trans (hb4.mono hszw)
            have HT4 := Lib.hid (ht.mono (B' := w.heap.size) hszw)
            obtain ⟨ab, q1, rfl, q2, q3⟩ := ht.out
            clear ht hb4 q1 q2 q3
            go_wp2_with fail
            refine ⟨rfl, HB4.out, ?_⟩
            rw [HR2.out]
            exact HT4.out
        · have h6' : ((kd : Int) == 6) = false := by simp; omega
          have HR2 : Hid (refRes kd pos args a bb 0 = none) := by unfold Hid; rw [HRES.out]; simp [h6]
          clear HRES h6
          go_wp2_with fail
          go_quiet (fail)
          go_wp2_with fail
          refine bodyPost_end (results_none rfl _ _ _) rfl ⟨below_drewN HBW3.out _, ?_⟩
          rw [HR2.out]
      · have hkc' : ((kd : Int) != (code : Int)) = true := by simp; omega
        have HR2 : Hid (refRes code pos args a bb 0 = some (1, pos)) := by unfold Hid; rw [HRES.out, if_pos hkc]
        clear HRES hkc
        go_wp2_with fail
        refine (cthrow_any 1 pos _).mono ?_
        rintro e w4 ⟨ht, hb4⟩
        have HB4 : Hid (Below w.heap.size w w4) := HBW3.out.trans (hb4.mono hszw)
        have HT4 := Lib.hid (ht.mono (B' := w.heap.size) hszw)
        obtain ⟨ab, q1, rfl, q2, q3⟩ := ht.out
        clear ht hb4 q1 q2 q3
        go_wp2_with fail
        refine ⟨rfl, HB4.out, ?_⟩
        rw [HR2.out]
        exact HT4.out
    · have hee' : ((ee : Int) != 0) = true := by simp; omega
      have HR2 : Hid (refRes code pos args a bb ee = some (ee, pos)) := by unfold Hid refRes; rw [if_pos hee]
      clear hee
      go_wp2_with fail
      refine (cthrow_any ee pos _).mono ?_
      rintro e w4 ⟨ht, hb4⟩
      have HB4 : Hid (Below w.heap.size w w4) := HBW.out.trans (hb4.mono hsz)
      have HT4 := Lib.hid (ht.mono (B' := w.heap.size) hsz)
      obtain ⟨ab, q1, rfl, q2, q3⟩ := ht.out
      clear ht hb4 q1 q2 q3
      go_wp2_with fail
      refine ⟨rfl, HB4.out, ?_⟩
      rw [HR2.out]
      exact HT4.out
theorem standV_err {S : Seen} {fs : Near} {md nm : Bs} {er : Nat} (h : Tp.standV S fs md nm = .error er) : er ≠ 0 := by
  unfold Tp.standV at h
  split at h
  · split at h
    · cases h; omega
    · split at h
      · cases h
      · cases h; omega
  · split at h
    · cases h
    · cases h; omega
theorem checkRef_post {w : World} {b : Nat} {S : Seen} {fs : Near} (h : Fnd w b S fs) (hfn : fs.length ≤ 1000) {x : Nat} {r : Tp.R} (hx : RefB w x r) (hl : r.mod.length ≤ 1000000) (hl2 : r.name.length ≤ 1000000) (hc : r.code < 1000) :
    Calls Tryz.prog 84 #[.pointer (some ⟨x, 0, none⟩), finderV b] w (CkP w (Tp.judgeP (Tp.standV S fs) r)) := by
  obtain ⟨n, op, lv, rv, aa, ac, hblk⟩ := hx
  obtain ⟨code, pos, md, nm, args⟩ := r
  simp only at hblk hl hl2 hc
  have hF := fun W (hW : Below w.heap.size w W) => finder1_post (h.on hW) hfn md nm hl hl2
  cases hst : Tp.standV S fs md nm with
  | error er =>
    rw [hst] at hF
    have := checkRef_walk (a := 0) (bb := 0) (ee := er) hblk hF hc
    have e1 : refRes code pos args 0 0 er = Tp.judgeP (Tp.standV S fs) ⟨code, pos, md, nm, args⟩ := by
      unfold refRes Tp.judgeP
      simp only [hst]
      rw [if_pos (standV_err hst)]
    rw [← e1]
    exact this
  | ok s =>
    obtain ⟨a, bb⟩ := s
    rw [hst] at hF
    have := checkRef_walk (a := a) (bb := bb) (ee := 0) hblk hF hc
    have e1 : refRes code pos args a bb 0 = Tp.judgeP (Tp.standV S fs) ⟨code, pos, md, nm, args⟩ := by
      unfold refRes Tp.judgeP
      simp only [hst]
      rw [if_neg (by simp)]
    rw [← e1]
    exact this
end Go.Proofs.YtiolfelekiopdaaGreatDoor
/- check: what a Set sets: checkPlace. -/
namespace Go.Proofs.YtiolfelekiopdaaGreatDoor
open Go.RowKit Go.Maps
open Tp (Bs Th Sy Seen)

theorem CkP.up {w W w' : World} {res : Option (Nat × Nat)} {e : Ending} (h : CkP W res e w') (k : Below w.heap.size w W) : CkP w res e w' := by
  obtain ⟨h1, h2⟩ := h
  refine ⟨k.trans (h1.mono k.size), ?_⟩
  cases res with
  | none => exact h2
  | some er => exact Thrown.mono h2 k.size
set_option maxRecDepth 100000 in
set_option maxHeartbeats 1000000 in
theorem checkPlace_post {w : World} {b : Nat} {S : Seen} {fs : Near} (h : Fnd w b S fs) (hfn : fs.length ≤ 1000) {code pos : Nat} {nm : Bs} {iv vv ta ea : Option Addr} {tn tc en ec : Nat} (hl : nm.length ≤ 1000000) :
    Calls Tryz.prog 63 #[.agg #[.int .i64 (code : Int), .int .i64 (pos : Int), .string (bs nm), .pointer iv, .pointer vv, .slice ta tn tc, .slice ea en ec], finderV b] w (CkP w (Tp.judgeP (Tp.standV S fs) ⟨if iv = none then 2 else 3, pos, [], nm, 0⟩)) := by
  have HC : Hid (∀ W x cd, Below w.heap.size w W → W.heap[x]? = some (.cells #[.int .i64 (cd : Nat), .int .i64 (pos : Int), .int .i64 0, .string ⟨#[]⟩, .string (bs nm), .string ⟨#[]⟩, .pointer none, .pointer none, .slice none 0 0] 82 (0, 0)) → cd < 1000 → Calls Tryz.prog 84 #[.pointer (some ⟨x, 0, none⟩), finderV b] W (CkP w (Tp.judgeP (Tp.standV S fs) ⟨cd, pos, [], nm, 0⟩))) := by
    intro W x cd hW hx hcd
    refine (checkRef_post (r := ⟨cd, pos, [], nm, 0⟩) (h.on hW) hfn ⟨0, ⟨#[]⟩, none, none, none, 0, hx⟩ (by simp) hl hcd).mono ?_
    intro e w' hq
    exact hq.up hW
  unfold finderV at HC ⊢
  clear h
  cases iv with
  | none =>
    rw [if_pos rfl]
    have HC2 := Lib.hid (fun W x => HC.out W x 2)
    clear HC
    generalize Tp.judgeP (Tp.standV S fs) ⟨2, pos, [], nm, 0⟩ = res at HC2 ⊢
    have hbe : ∀ o1 o2, Below w.heap.size w ((w.alloc o1).alloc o2) := fun o1 o2 => ((Below.refl _ _).alloc (Nat.le_refl _) _).alloc (by simp) _
    have HBE := Lib.hid hbe
    clear hbe
    go_enter Tryz.func63, Tryz.ntmps63
    go_wp2_with fail
    refine (HC2.out _ _ (HBE.out _ _) (by simpa using new_blk (w.alloc _) _) (by omega)).mono ?_
    intro e w' hq
    cases res with
    | none =>
      have HQ := Lib.hid hq
      obtain ⟨q1, q2⟩ := hq
      simp only at q2
      subst q2
      clear q1
      go_wp2_with fail
      exact bodyPost_end (results_none rfl _ _ _) rfl HQ.out
    | some er =>
      have HQ := Lib.hid hq
      obtain ⟨q1, q2⟩ := hq
      obtain ⟨ab, q3, rfl, q4, q5⟩ := q2.out
      clear q1 q2 q3 q4 q5
      go_wp2_with fail
      exact ⟨rfl, HQ.out⟩
  | some i0 =>
    rw [if_neg (by simp)]
    have HC2 := Lib.hid (fun W x => HC.out W x 3)
    clear HC
    generalize Tp.judgeP (Tp.standV S fs) ⟨3, pos, [], nm, 0⟩ = res at HC2 ⊢
    have hbe : ∀ o1 o2, Below w.heap.size w ((w.alloc o1).alloc o2) := fun o1 o2 => ((Below.refl _ _).alloc (Nat.le_refl _) _).alloc (by simp) _
    have HBE := Lib.hid hbe
    clear hbe
    go_enter Tryz.func63, Tryz.ntmps63
    go_wp2_with fail
    refine (HC2.out _ _ (HBE.out _ _) (by simpa using new_blk (w.alloc _) _) (by omega)).mono ?_
    intro e w' hq
    cases res with
    | none =>
      have HQ := Lib.hid hq
      obtain ⟨q1, q2⟩ := hq
      simp only at q2
      subst q2
      clear q1
      go_wp2_with fail
      exact bodyPost_end (results_none rfl _ _ _) rfl HQ.out
    | some er =>
      have HQ := Lib.hid hq
      obtain ⟨q1, q2⟩ := hq
      obtain ⟨ab, q3, rfl, q4, q5⟩ := q2.out
      clear q1 q2 q3 q4 q5
      go_wp2_with fail
      exact ⟨rfl, HQ.out⟩
end Go.Proofs.YtiolfelekiopdaaGreatDoor
