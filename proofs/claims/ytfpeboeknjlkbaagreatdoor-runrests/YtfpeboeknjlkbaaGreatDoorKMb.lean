import Derived.Test.YtfpeboeknjlkbaaGreatDoorKMa
import Derived.Deep.RegionHeld3
/- check: a procedure's own names: locals. -/
namespace Go.Proofs.YtfpeboeknjlkbaaGreatDoor
open Go.RowKit Go.Maps
open Tp (Bs Th)

theorem calls_dies {P : Program} {f : FuncId} {args : Array Value} {w : World} {R T : Ending → World → Prop} (h : Calls P f args w T) (hT : ∀ e w', T e w' → R e w') (_ : Hid False → R (.returned (.tuple #[])) w) : Calls P f args w R := h.mono hT
def AskTN (w : World) (o pn : Nat) (pa : Option Addr) (pl : Nat) (l : List Th) : Prop :=
  ∀ i, i < pn → ∃ (g : Nat) (x0 : Bs), pa = some ⟨g, 0, none⟩ ∧ g < w.heap.size ∧ w.cell? ⟨g, i, none⟩ = some (.string (bs x0)) ∧ x0.length ≤ 1000000 ∧ l[o + i]? = some (x0, pl, 0, -1)
theorem cell_box6 {w : World} {b : Nat} {v0 v1 v2 v3 v4 v5 : Value} {t : TypeId} (h : w.heap[b]? = some (.cells #[v0, v1, v2, v3, v4, v5] t (0, 0))) : w.cell? ⟨b, 0, none⟩ = some v0 ∧ w.cell? ⟨b, 1, none⟩ = some v1 ∧ w.cell? ⟨b, 2, none⟩ = some v2 ∧ w.cell? ⟨b, 3, none⟩ = some v3 ∧ w.cell? ⟨b, 4, none⟩ = some v4 ∧ w.cell? ⟨b, 5, none⟩ = some v5 :=
  ⟨(cell_blk h).trans rfl, (cell_blk h).trans rfl, (cell_blk h).trans rfl, (cell_blk h).trans rfl, (cell_blk h).trans rfl, (cell_blk h).trans rfl⟩
set_option maxRecDepth 100000 in
set_option maxHeartbeats 2000000 in
theorem locals_walk {w : World} {nm : Bs} {pl : Nat} {sn : Bool} {pn vn bn pc vc bc : Nat} {pa va ba : Option Addr} {l : List Th} (hG : AskTN w 0 pn pa pl l) (hP : AskTN w pn vn va pl l) (hl : l.length = pn + vn) (hgn : pn ≤ 1000) (hpn : vn ≤ 1000) :
    Calls Tryz.prog 84 #[.agg #[.string (bs nm), .int .i64 (pl : Int), .bool sn, .slice pa pn pc, .slice va vn vc, .slice ba bn bc]] w (MapP w l) := by
  obtain ⟨wm, hwm⟩ : ∃ wm, wm = w.alloc (.cells #[.string (bs nm), .int .i64 (pl : Int), .bool sn, .slice pa pn pc, .slice va vn vc, .slice ba bn bc] 73) := ⟨_, rfl⟩
  have hblk0 : wm.heap[w.heap.size]? = some (.cells #[.string (bs nm), .int .i64 (pl : Int), .bool sn, .slice pa pn pc, .slice va vn vc, .slice ba bn bc] 73 (0, 0)) := by rw [hwm]; exact new_blk _ _
  have hszm : wm.heap.size = w.heap.size + 1 := by rw [hwm]; simp
  have hbe : Below w.heap.size w (wm.alloc (.map #[] 0)) := by rw [hwm]; exact ((Below.refl _ _).alloc (Nat.le_refl _) _).alloc (by simp) _
  have htm := TM.zero wm l
  have hblk : (wm.alloc (.map #[] 0)).heap[w.heap.size]? = some (.cells #[.string (bs nm), .int .i64 (pl : Int), .bool sn, .slice pa pn pc, .slice va vn vc, .slice ba bn bc] 73 (0, 0)) := (Below.heap_alloc _ _ _ (by omega)).trans hblk0
  rw [hszm] at htm
  obtain ⟨k0, k1, k2, k3, k4, k5⟩ := cell_box6 hblk
  have hmm := @run_makeMap Tryz.prog
  have HG := Lib.hid hG
  have HP := Lib.hid hP
  have HL := Lib.hid hl
  have HK := Lib.hid hblk
  have HT := Lib.hid htm
  have HBE := Lib.hid hbe
  have HSM := Lib.hid hszm
  have hgn' : (pn : Int) ≤ 1000 := by omega
  have hpn' : (vn : Int) ≤ 1000 := by omega
  clear hG hP hl hblk htm hbe k0 k1 k2 k4 k5 hblk0
  go_enter Tryz.func84, Tryz.ntmps84
  go_wp2_with fail
  rw [← hwm]
  have hsz0 : w.heap.size + 2 ≤ (wm.alloc (.map #[] 0)).heap.size := by simp; omega
  generalize wm.alloc (.map #[] 0) = w0 at *
  clear hwm HSM hszm wm hmm
  go_loopg [12] pn (fun k vi wr => ∃ i : Nat, i ≤ pn ∧ k = pn - i ∧ vi = .int .i64 (i : Int) ∧ Hid (TM wr (w.heap.size + 1) l i) ∧ Hid (Ext (w.heap.size + 1) w0 wr))
  case atStart => exact ⟨0, by omega, by omega, rfl, HT, Ext.refl _ _⟩
  case round =>
    obtain ⟨i, hid, hk, rfl, HTM, HE⟩ := hrel
    have hsz := HE.out.size
    by_cases hlt : i < pn
    · have hlt' : (i : Int) < (pn : Int) := by omega
      obtain ⟨g, x0, hga, hgB, c0, hxl, hx⟩ := HG.out i hlt
      rw [Nat.zero_add] at hx
      subst hga
      have kc0 : wr.cell? ⟨g, i, none⟩ = some (.string (bs x0)) := HE.out.cell ((HBE.out.cell (p := ⟨g, i, none⟩) hgB).trans c0) (by simp; omega)
      have hlgr : g < wr.heap.size := by omega
      have HX := Lib.hid hx
      have HC1 : Hid (wr.drew.cell? ⟨w.heap.size, 1, none⟩ = some (.int .i64 (pl : Int))) := HE.out.cell (cell_box6 HK.out).2.1 (by simp)
      clear c0 hx
      by_cases hm : x0 ∈ (l.take i).map (·.1)
      · have HM := Lib.hid hm
        clear hm
        go_wp2_with fail
        go_region_held (fun w' => w'.cell? ⟨w.heap.size, 1, none⟩ = some (.int .i64 (pl : Int))) (with_reducible (first | exact hF.out.elim | exact HC2.out | exact HC1.out)) (first | (go_at_call 117; refine (number_any _).mono ?_; rintro e w2 ⟨rfl, hb2⟩; have HB2 : Hid (Below wr.heap.size wr w2) := ((Below.refl wr.heap.size wr).drew).trans hb2; have HC2 : Hid (w2.cell? ⟨w.heap.size, 1, none⟩ = some (.int .i64 (pl : Int))) := (hb2.cell (p := ⟨w.heap.size, 1, none⟩) (lt_of_cell HC1.out)).trans HC1.out; clear hb2) | (go_at_call 112; refine calls_dies (add_dup (x2 := 0) (x3 := -1) (HTM.out.on (HB2.out.block _ (by omega))) HM.out hxl) ?hT ?_; (case hT => (rintro e w3 ⟨ht, hb3⟩; have HD := Lib.hid (HTM.out.dup HX.out HM.out); have HB3 : Hid (Below w.heap.size w w3) := ((HBE.out.trans (ext_below HE.out (by omega) (by omega))).trans (HB2.out.mono (by omega))).trans (hb3.mono (by have := HB2.out.size; omega)); have HT3 := Lib.hid (ht.mono (B' := w.heap.size) (by have := HB2.out.size; omega)); obtain ⟨ab, q1, rfl, q2, q3⟩ := ht.out; refine ⟨rfl, HB3.out, ?_⟩; rw [HD.out]; exact HT3.out)); intro hF))
        exact hF.out.elim
      · have HM := Lib.hid hm
        clear hm
        go_wp2_with fail
        go_region_held3 (fun w' => w'.cell? ⟨w.heap.size, 1, none⟩ = some (.int .i64 (pl : Int))) (with_reducible (first | exact HC3.out | exact HC2.out | exact HC1.out)) (first | (go_at_call 117; refine (number_any _).mono ?_; rintro e w2 ⟨rfl, hb2⟩; have HB2 : Hid (Below wr.heap.size wr w2) := ((Below.refl wr.heap.size wr).drew).trans hb2; have HC2 : Hid (w2.cell? ⟨w.heap.size, 1, none⟩ = some (.int .i64 (pl : Int))) := (hb2.cell (p := ⟨w.heap.size, 1, none⟩) (lt_of_cell HC1.out)).trans HC1.out; clear hb2) | (go_at_call 112; refine (add_new (x2 := 0) (x3 := -1) (HTM.out.on (HB2.out.block _ (by omega))) HX.out (by omega) HM.out hxl).mono ?_; rintro e w3 ⟨rfl, ht, hb3⟩; have HT3 := Lib.hid ht; have HE3 : Hid (Ext (w.heap.size + 1) w0 w3) := (HE.out.trans (Ext.below HB2.out)).trans hb3; have HC3 : Hid (w3.cell? ⟨w.heap.size, 1, none⟩ = some (.int .i64 (pl : Int))) := hb3.cell HC2.out (by simp); clear ht hb3))
        go_wp2_with fail
        go_roundg (pn - (i + 1))
        case measure => omega
        case rel => exact ⟨i + 1, by omega, rfl, by go_num, HT3, HE3⟩
    · have hlt' : ¬ (i : Int) < (pn : Int) := by omega
      have hei : i = pn := by omega
      subst hei
      have k4 : wr.cell? ⟨w.heap.size, 4, none⟩ = some (.slice va vn vc) := HE.out.cell (cell_box6 HK.out).2.2.2.2.1 (by simp)
      have hltb : w.heap.size < wr.heap.size := by omega
      have HTM1 : Hid (TM wr (w.heap.size + 1) l (i + 0)) := HTM
      have HE1 := HE
      clear HTM HE HG k3 hsz HT
      go_wp2_with fail
      go_loopg [26] vn (fun k vi wr => ∃ j : Nat, j ≤ vn ∧ k = vn - j ∧ vi = .int .i64 (j : Int) ∧ Hid (TM wr (w.heap.size + 1) l (i + j)) ∧ Hid (Ext (w.heap.size + 1) w0 wr))
      case atStart => exact ⟨0, by omega, by omega, rfl, HTM1, HE1⟩
      case round =>
        obtain ⟨j, hjd, hk2, rfl, HTM, HE⟩ := hrel
        have hsz := HE.out.size
        clear HTM1 HE1 k4 hltb
        by_cases hlt2 : j < vn
        · have hlt2' : (j : Int) < (vn : Int) := by omega
          obtain ⟨g, x0, hga, hgB, c0, hxl, hx⟩ := HP.out j hlt2
          subst hga
          have kc0 : wr.cell? ⟨g, j, none⟩ = some (.string (bs x0)) := HE.out.cell ((HBE.out.cell (p := ⟨g, j, none⟩) hgB).trans c0) (by simp; omega)
          have hlgr : g < wr.heap.size := by omega
          have HX := Lib.hid hx
          have HC1 : Hid (wr.drew.cell? ⟨w.heap.size, 1, none⟩ = some (.int .i64 (pl : Int))) := HE.out.cell (cell_box6 HK.out).2.1 (by simp)
          clear c0 hx
          by_cases hm : x0 ∈ (l.take (i + j)).map (·.1)
          · have HM := Lib.hid hm
            clear hm
            go_wp2_with fail
            go_region_held (fun w' => w'.cell? ⟨w.heap.size, 1, none⟩ = some (.int .i64 (pl : Int))) (with_reducible (first | exact hF.out.elim | exact HC2.out | exact HC1.out)) (first | (go_at_call 117; refine (number_any _).mono ?_; rintro e w2 ⟨rfl, hb2⟩; have HB2 : Hid (Below wr.heap.size wr w2) := ((Below.refl wr.heap.size wr).drew).trans hb2; have HC2 : Hid (w2.cell? ⟨w.heap.size, 1, none⟩ = some (.int .i64 (pl : Int))) := (hb2.cell (p := ⟨w.heap.size, 1, none⟩) (lt_of_cell HC1.out)).trans HC1.out; clear hb2) | (go_at_call 112; refine calls_dies (add_dup (x2 := 0) (x3 := -1) (HTM.out.on (HB2.out.block _ (by omega))) HM.out hxl) ?hT ?_; (case hT => (rintro e w3 ⟨ht, hb3⟩; have HD := Lib.hid (HTM.out.dup HX.out HM.out); have HB3 : Hid (Below w.heap.size w w3) := ((HBE.out.trans (ext_below HE.out (by omega) (by omega))).trans (HB2.out.mono (by omega))).trans (hb3.mono (by have := HB2.out.size; omega)); have HT3 := Lib.hid (ht.mono (B' := w.heap.size) (by have := HB2.out.size; omega)); obtain ⟨ab, q1, rfl, q2, q3⟩ := ht.out; refine ⟨rfl, HB3.out, ?_⟩; rw [HD.out]; exact HT3.out)); intro hF))
            exact hF.out.elim
          · have HM := Lib.hid hm
            clear hm
            go_wp2_with fail
            go_region_held3 (fun w' => w'.cell? ⟨w.heap.size, 1, none⟩ = some (.int .i64 (pl : Int))) (with_reducible (first | exact HC3.out | exact HC2.out | exact HC1.out)) (first | (go_at_call 117; refine (number_any _).mono ?_; rintro e w2 ⟨rfl, hb2⟩; have HB2 : Hid (Below wr.heap.size wr w2) := ((Below.refl wr.heap.size wr).drew).trans hb2; have HC2 : Hid (w2.cell? ⟨w.heap.size, 1, none⟩ = some (.int .i64 (pl : Int))) := (hb2.cell (p := ⟨w.heap.size, 1, none⟩) (lt_of_cell HC1.out)).trans HC1.out; clear hb2) | (go_at_call 112; refine (add_new (x2 := 0) (x3 := -1) (HTM.out.on (HB2.out.block _ (by omega))) HX.out (by omega) HM.out hxl).mono ?_; rintro e w3 ⟨rfl, ht, hb3⟩; have HT3 : Hid (TM w3 (w.heap.size + 1) l (i + (j + 1))) := ht; have HE3 : Hid (Ext (w.heap.size + 1) w0 w3) := (HE.out.trans (Ext.below HB2.out)).trans hb3; have HC3 : Hid (w3.cell? ⟨w.heap.size, 1, none⟩ = some (.int .i64 (pl : Int))) := hb3.cell HC2.out (by simp); clear ht hb3))
            go_wp2_with fail
            go_roundg (vn - (j + 1))
            case measure => omega
            case rel => exact ⟨j + 1, by omega, rfl, by go_num, HT3, HE3⟩
        · have hlt2' : ¬ (j : Int) < (vn : Int) := by omega
          have hej : j = vn := by omega
          subst hej
          obtain ⟨f1, f2⟩ := HTM.out.fin (by have := HL.out; omega)
          have HF1 := Lib.hid f1
          have HF2 := Lib.hid f2
          have HB3 : Hid (Below w.heap.size w wr) := HBE.out.trans (ext_below HE.out (by omega) (by omega))
          clear f1 f2 HTM HE
          go_wp2_with fail
          go_ret
          refine ⟨HB3.out, ?_⟩
          rw [HF1.out]
          exact ⟨_, _, rfl, by omega, by omega, HF2.out⟩
end Go.Proofs.YtfpeboeknjlkbaaGreatDoor
/- check: what is imported, and what is seen of it: imported. -/
namespace Go.Proofs.YtfpeboeknjlkbaaGreatDoor
open Go.RowKit Go.Maps
open Tp (Bs Th Sy Seen)

/- block sb is a map of what others see -/
def SeenM (w : World) (sb n : Nat) (S : Seen) : Prop := ∃ f, MapV w sb n f ∧ ∀ k, match S k with
  | none => f k = none
  | some l => ∃ v, f k = some v ∧ SL w 0 v l ∧ l.length ≤ 1000
theorem MapV.blk {w : World} {b n : Nat} {f : Bs → Option Value} (h : MapV w b n f) : ∃ es c, w.heap[b]? = some (.map es c) := by
  obtain ⟨D, ⟨es, clock, h1, _⟩, _⟩ := h.own
  exact ⟨es, clock, h1⟩
theorem SL.ext {w w' : World} {B b : Nat} {v : Value} {l : List Sy} (h : SL w B v l) (k : Ext b w w') (hb : ∃ es c, w.heap[b]? = some (.map es c)) : SL w' B v l := by
  rcases h with q | ⟨g, cap, q1, q2, q3⟩
  · exact Or.inl q
  · obtain ⟨cur, r1, r2, r3⟩ := q3.b
    obtain ⟨es, c, hm⟩ := hb
    have hne : g ≠ b := fun e => by rw [e, hm] at r1; cases r1
    exact Or.inr ⟨g, cap, q1, q2, ⟨⟨cur, (k.block g (lt_blk r1) hne).trans r1, r2, r3⟩, q3.n, q3.m⟩⟩
theorem SL.shape {w : World} {B : Nat} {v : Value} {l : List Sy} (h : SL w B v l) : ∃ a c, v = .slice a l.length c := h.len
theorem SeenM.on {w w' : World} {sb n : Nat} {S : Seen} (h : SeenM w sb n S) (k : Below w.heap.size w w') : SeenM w' sb n S := by
  obtain ⟨f, h1, h2⟩ := h
  refine ⟨f, h1.on (k.block _ h1.lt), fun q => ?_⟩
  have := h2 q
  cases hq : S q with
  | none => rw [hq] at this; exact this
  | some l => rw [hq] at this; obtain ⟨v, a, b, c⟩ := this; exact ⟨v, a, b.on k, c⟩
theorem SeenM.lt {w : World} {sb n : Nat} {S : Seen} (h : SeenM w sb n S) : sb < w.heap.size := by
  obtain ⟨f, h1, _⟩ := h
  exact h1.lt
theorem SeenM.ext {w w' : World} {sb n b : Nat} {S : Seen} (h : SeenM w sb n S) (k : Ext b w w') (hb : ∃ es c, w.heap[b]? = some (.map es c)) (hne : sb ≠ b) : SeenM w' sb n S := by
  obtain ⟨f, h1, h2⟩ := h
  refine ⟨f, h1.on (k.block _ h1.lt hne), fun q => ?_⟩
  have := h2 q
  cases hq : S q with
  | none => rw [hq] at this; exact this
  | some l => rw [hq] at this; obtain ⟨v, a, b, c⟩ := this; exact ⟨v, a, b.ext k hb, c⟩
/- a map, or none -/
def SeenV (w : World) (sv : Value) (S : Seen) : Prop := (sv = .map none ∧ ∀ k, S k = none) ∨ ∃ sb n, sv = .map (some sb) ∧ SeenM w sb n S
theorem SeenV.on {w w' : World} {sv : Value} {S : Seen} (h : SeenV w sv S) (k : Below w.heap.size w w') : SeenV w' sv S := by
  rcases h with q | ⟨sb, n, h1, h2⟩
  · exact Or.inl q
  · exact Or.inr ⟨sb, n, h1, h2.on k⟩
theorem SeenM.look {w : World} {sb n : Nat} {S : Seen} (h : SeenM w sb n S) (l : Bs) (hl : l.length ≤ 1000000) (c : Bool) : ∃ v, (Instr.lookup 91 (.map (some sb)) (.string (bs l)) c).run Tryz.prog w = .ok (if c then .tuple #[v, .bool (S l).isSome] else v) w ∧ (∃ a n d, v = .slice a n d) ∧ SL w 0 v ((S l).getD []) ∧ ((S l).getD []).length ≤ 1000 := by
  obtain ⟨f, h1, h2⟩ := h
  have hr := h1.look (t := 91) Tryz.underlying91 (zeroSyms w) l hl c
  have := h2 l
  cases hq : S l with
  | none =>
    rw [hq] at this
    rw [this] at hr
    exact ⟨_, hr, ⟨none, 0, 0, rfl⟩, Or.inl ⟨rfl, rfl⟩, by simp⟩
  | some ll =>
    rw [hq] at this
    obtain ⟨v, a, b, d⟩ := this
    rw [a] at hr
    obtain ⟨a1, c1, hv⟩ := b.shape
    exact ⟨_, hr, ⟨_, _, _, hv⟩, b, d⟩
theorem SeenV.look {w : World} {sv : Value} {S : Seen} (h : SeenV w sv S) (l : Bs) (hl : l.length ≤ 1000000) (c : Bool) : ∃ v, (Instr.lookup 91 sv (.string (bs l)) c).run Tryz.prog w = .ok (if c then .tuple #[v, .bool (S l).isSome] else v) w ∧ (∃ a n d, v = .slice a n d) ∧ SL w 0 v ((S l).getD []) ∧ ((S l).getD []).length ≤ 1000 := by
  rcases h with ⟨rfl, hn⟩ | ⟨sb, n, rfl, h1⟩
  · have hr := nilmap_look w (t := 91) Tryz.underlying91 (zeroSyms w) l hl c
    rw [hn l]
    exact ⟨_, hr, ⟨none, 0, 0, rfl⟩, Or.inl ⟨rfl, rfl⟩, by simp⟩
  · exact h1.look l hl c
theorem SeenM.store {w w' : World} {sb n : Nat} {S : Seen} {f : Bs → Option Value} (hf : MapV w sb n f) (h : ∀ k, match S k with
  | none => f k = none
  | some l => ∃ v, f k = some v ∧ SL w 0 v l ∧ l.length ≤ 1000) {x : Bs} {v : Value} {l : List Sy} (hv : SL w 0 v l) (hl : l.length ≤ 1000) (h1 : MapV w' sb (n + 1) (updV f x v)) (h2 : Ext sb w w') : SeenM w' sb (n + 1) (fun k => if k = x then some l else S k) := by
  refine ⟨_, h1, fun k => ?_⟩
  by_cases hk : k = x
  · simp only [if_pos hk, updV]
    exact ⟨v, rfl, hv.ext h2 hf.blk, hl⟩
  · simp only [if_neg hk, updV]
    have := h k
    cases hq : S k with
    | none => rw [hq] at this; exact this
    | some ll => rw [hq] at this; obtain ⟨u, a, b, c⟩ := this; exact ⟨u, a, b.ext h2 hf.blk, c⟩
theorem wpList_mapUpdate_s (w : World) {ops : Array Oper} {rest : List Oper} {o : Oper} {a : Act} {Q : Exit → Act → World → Prop}
    (hg : o.guard = none) (m x v : Operand) (hop : o.op = Op.mapUpdate 91 m x v)
    (b n : Nat) (S : Seen) (hown : SeenM w b n S) (hn : n < 1000000) (l : Bs) (hl : l.length ≤ 1000000) (val : Value) (ll : List Sy) (hsl : SL w 0 val ll) (hll : ll.length ≤ 1000) (hm : a.eval m = .map (some b)) (hx : a.eval x = .string (bs l)) (hv : a.eval v = val)
    (hK : ∀ w', SeenM w' b (n + 1) (fun k => if k = l then some ll else S k) → Ext b w w' → w'.heap.size = w.heap.size → wpList Tryz.prog ops Q rest (a.put o.dst undef) w') :
    wpList Tryz.prog ops Q (o :: rest) a w := by
  obtain ⟨f, h1, h2⟩ := hown
  exact wpList_mapUpdate_v w hg m x v _ hop _ Tryz.underlying91 b n f h1 hn l hl val hm hx hv (fun w' q1 q2 q3 => hK w' (SeenM.store h1 h2 hsl hll q1 q2) q2 q3)
end Go.Proofs.YtfpeboeknjlkbaaGreatDoor
/- check: imported, walked. -/
namespace Go.Proofs.YtfpeboeknjlkbaaGreatDoor
open Go.RowKit Go.Maps
open Tp (Bs Th Sy Seen)

def impsAt (own : Bs) (S : Seen) (l : List Bs) (i : Nat) : Tp.Ck := Tp.imps own S (l.take i).reverse (l.drop i)
theorem impsAt_zero (own : Bs) (S : Seen) (l : List Bs) : impsAt own S l 0 = Tp.imps own S [] l := by simp [impsAt]
theorem impsAt_all (own : Bs) (S : Seen) (l : List Bs) : impsAt own S l l.length = none := by simp [impsAt, Tp.imps]
theorem impsAt_step (own : Bs) (S : Seen) {l : List Bs} {i : Nat} {x : Bs} (h : l[i]? = some x) : impsAt own S l i = if x = own ∨ x ∈ l.take i then some (10, none) else if S x = none then some (8, none) else impsAt own S l (i + 1) := by
  obtain ⟨hi, e⟩ := List.getElem?_eq_some_iff.1 h
  unfold impsAt
  rw [List.drop_eq_getElem_cons hi, e, Tp.imps, List.take_succ_eq_append_getElem hi, List.reverse_append, e]
  simp
/- what is seen of the first i -/
def upTo (S : Seen) (l : List Bs) (i : Nat) : Seen := fun k => if k ∈ l.take i then S k else none
theorem upTo_succ {S : Seen} {l : List Bs} {i : Nat} {x : Bs} {ll : List Sy} (h : l[i]? = some x) (hs : S x = some ll) : upTo S l (i + 1) = fun k => if k = x then some ll else upTo S l i k := by
  obtain ⟨hi, e⟩ := List.getElem?_eq_some_iff.1 h
  funext k
  unfold upTo
  rw [List.take_succ_eq_append_getElem hi, e]
  by_cases hk : k = x
  · rw [if_pos (by simp [hk]), if_pos hk, hk, hs]
  · rw [if_neg hk]
    have : k ∈ l.take i ++ [x] ↔ k ∈ l.take i := by simp [hk]
    by_cases hm : k ∈ l.take i
    · rw [if_pos (this.2 hm), if_pos hm]
    · rw [if_neg (fun q => hm (this.1 q)), if_neg hm]
def thrownE (en : Nat) : Ending := .panicked [{ v := .iface 46 (.int .i64 (en : Int)), recovered := false }]
def ImpP (w : World) (own : Bs) (is : List Bs) (S : Seen) (e : Ending) (w' : World) : Prop := Below w.heap.size w w' ∧ match Tp.imps own S [] is with
  | none => ∃ ob n, e = .returned (.map (some ob)) ∧ w.heap.size ≤ ob ∧ SeenM w' ob n (fun k => if k ∈ is then S k else none)
  | some er => e = thrownE er.1
def AskI (w : World) (inn : Nat) (ia : Option Addr) (is : List Bs) : Prop :=
  ∀ i, i < inn → ∃ (g : Nat) (x : Bs), ia = some ⟨g, 0, none⟩ ∧ g < w.heap.size ∧ w.cell? ⟨g, i, none⟩ = some (.string (bs x)) ∧ x.length ≤ 1000000 ∧ is[i]? = some x
theorem beq_bs (a b : Bs) : ((bs a).toList == (bs b).toList) = decide (a = b) := by rw [Bool.eq_iff_iff, decide_eq_true_iff, beq_iff_eq, bs_toList, bs_toList]
set_option maxRecDepth 100000 in
set_option maxHeartbeats 2000000 in
theorem imported_walk {w : World} {nm : Bs} {inn gn pn bn ic gc pc bc : Nat} {ia ga pa ba : Option Addr} {is : List Bs} {S : Seen} {sv : Value} (hI : AskI w inn ia is) (hl : is.length = inn) (hin : inn ≤ 1000) (hS : SeenV w sv S) :
    Calls Tryz.prog 80 #[.agg #[.string (bs nm), .slice ia inn ic, .slice ga gn gc, .slice pa pn pc, .slice ba bn bc], sv] w (ImpP w nm is S) := by
  obtain ⟨wm, hwm⟩ : ∃ wm, wm = w.alloc (.cells #[.string (bs nm), .slice ia inn ic, .slice ga gn gc, .slice pa pn pc, .slice ba bn bc] 32) := ⟨_, rfl⟩
  have hblk0 : wm.heap[w.heap.size]? = some (.cells #[.string (bs nm), .slice ia inn ic, .slice ga gn gc, .slice pa pn pc, .slice ba bn bc] 32 (0, 0)) := by rw [hwm]; exact new_blk _ _
  have hszm : wm.heap.size = w.heap.size + 1 := by rw [hwm]; simp
  have hbe : Below w.heap.size w (wm.alloc (.map #[] 0)) := by rw [hwm]; exact ((Below.refl _ _).alloc (Nat.le_refl _) _).alloc (by simp) _
  have hmv := MapV.made wm
  rw [hszm] at hmv
  have hsm : SeenM (wm.alloc (.map #[] 0)) (w.heap.size + 1) 0 (upTo S is 0) := ⟨_, hmv, fun k => by simp [upTo]⟩
  have hblk : (wm.alloc (.map #[] 0)).heap[w.heap.size]? = some (.cells #[.string (bs nm), .slice ia inn ic, .slice ga gn gc, .slice pa pn pc, .slice ba bn bc] 32 (0, 0)) := (Below.heap_alloc _ _ _ (by omega)).trans hblk0
  obtain ⟨k0, k1, k2, k3, k4⟩ := cell_box5' hblk
  have hmm := @run_makeMap Tryz.prog
  have HI := Lib.hid hI
  have HL := Lib.hid hl
  have HK := Lib.hid hblk
  have HSM := Lib.hid hsm
  have HMB := Lib.hid hmv.blk
  have HBE := Lib.hid hbe
  have HS : Hid (SeenV (wm.alloc (.map #[] 0)) sv S) := hS.on hbe
  have HSB : Hid (∀ sb, sv = .map (some sb) → sb < w.heap.size) := by
    rcases hS with ⟨rfl, _⟩ | ⟨sb, n, rfl, q⟩
    · intro sb e; cases e
    · intro sb' e; cases e; exact q.lt
  have hin' : (inn : Int) ≤ 1000 := by omega
  clear hI hl hblk hsm hmv hbe hS k0 k2 k3 k4 hblk0
  go_enter Tryz.func80, Tryz.ntmps80
  go_wp2_with fail
  rw [← hwm]
  have hsz0 : w.heap.size + 2 ≤ (wm.alloc (.map #[] 0)).heap.size := by simp; omega
  generalize wm.alloc (.map #[] 0) = w0 at *
  clear hwm hszm wm hmm
  go_loopg [16] inn (fun k vi wr => ∃ i : Nat, i ≤ inn ∧ k = inn - i ∧ vi = .int .i64 (i : Int) ∧ Hid (SeenM wr (w.heap.size + 1) i (upTo S is i)) ∧ Hid (Ext (w.heap.size + 1) w0 wr) ∧ Hid (Tp.imps nm S [] is = impsAt nm S is i ∧ ∀ k ∈ is.take i, S k ≠ none))
  case atStart => exact ⟨0, by omega, by omega, rfl, HSM, Ext.refl _ _, (impsAt_zero _ _ _).symm, by simp⟩
  case round =>
    obtain ⟨i, hid, hk, rfl, HTM, HE, HIM⟩ := hrel
    have hsz := HE.out.size
    by_cases hlt : i < inn
    · have hlt' : (i : Int) < (inn : Int) := by omega
      obtain ⟨g, x, hga, hgB, c0, hxl, hx⟩ := HI.out i hlt
      subst hga
      have kc0 : wr.cell? ⟨g, i, none⟩ = some (.string (bs x)) := HE.out.cell ((HBE.out.cell (p := ⟨g, i, none⟩) hgB).trans c0) (by simp; omega)
      have kn0 : wr.cell? ⟨w.heap.size, 0, none⟩ = some (.string (bs nm)) := HE.out.cell (cell_box5' HK.out).1 (by simp)
      have hlgr : g < wr.heap.size := by omega
      have hlwr : w.heap.size < wr.heap.size := by omega
      have HX := Lib.hid hx
      have HST := Lib.hid (impsAt_step nm S hx)
      obtain ⟨v1, hlook1, ⟨a1, n1, d1, hv1⟩, _, _⟩ := HTM.out.look x hxl true
      subst hv1
      have HB3 : Hid (Below w.heap.size w wr) := HBE.out.trans (ext_below HE.out (by omega) (by omega))
      have hah : (upTo S is i x).isSome = decide (x ∈ is.take i) := by
        unfold upTo
        by_cases hm : x ∈ is.take i
        · rw [if_pos hm, decide_eq_true hm]
          exact Option.isSome_iff_ne_none.2 (HIM.out.2 x hm)
        · rw [if_neg hm, decide_eq_false hm]; rfl
      rw [hah] at hlook1
      clear c0 hx hah
      by_cases hm : x ∈ is.take i
      · rw [decide_eq_true hm] at hlook1
        simp only [if_true] at hlook1
        have HD : Hid (Tp.imps nm S [] is = some (10, none)) := by unfold Hid; rw [HIM.out.1, HST.out, if_pos (Or.inr hm)]
        clear hm
        go_wp2_with fail
        refine ⟨rfl, HB3.out, ?_⟩
        rw [HD.out]
        rfl
      · rw [decide_eq_false hm] at hlook1
        simp only [if_true] at hlook1
        have heqb := beq_bs x nm
        by_cases hq : x = nm
        · rw [decide_eq_true hq] at heqb
          have HD : Hid (Tp.imps nm S [] is = some (10, none)) := by unfold Hid; rw [HIM.out.1, HST.out, if_pos (Or.inl hq)]
          clear hm hq
          go_wp2_with fail
          refine ⟨rfl, HB3.out, ?_⟩
          rw [HD.out]
          rfl
        · rw [decide_eq_false hq] at heqb
          have HS1 : Hid (SeenV wr sv S) := by
            have hs0 := HS.out
            rcases hs0 with q | ⟨sb, n, h1, h2⟩
            · exact Or.inl q
            · exact Or.inr ⟨sb, n, h1, h2.ext HE.out HMB.out (by have := HSB.out sb h1; omega)⟩
          obtain ⟨v2, hlook2, ⟨a2, n2, d2, hv2⟩, hsl2, hll2⟩ := HS1.out.look x hxl true
          subst hv2
          have HSL := Lib.hid hsl2
          have HLL := Lib.hid hll2
          have HNO : Hid (¬ (x = nm ∨ x ∈ is.take i)) := fun e => e.elim hq hm
          clear hsl2 hll2 hm hq
          cases hsx : S x with
          | none =>
            rw [hsx] at hlook2
            simp only [Option.isSome_none, if_true] at hlook2
            have HD : Hid (Tp.imps nm S [] is = some (8, none)) := by unfold Hid; rw [HIM.out.1, HST.out, if_neg HNO.out, if_pos hsx]
            clear hsx
            go_wp2_with fail
            refine ⟨rfl, HB3.out, ?_⟩
            rw [HD.out]
            rfl
          | some ll =>
            rw [hsx] at hlook2 HSL HLL
            simp only [Option.isSome_some, if_true] at hlook2
            have HSX := Lib.hid hsx
            clear hsx
            go_wp2_with (at_mapUpdate; refine wpList_mapUpdate_s _ rfl _ _ _ rfl (w.heap.size + 1) i (upTo S is i) HTM.out (by omega) x hxl (.slice a2 n2 d2) ll HSL.out HLL.out rfl rfl rfl ?_; intro w3 q1 q2 q3)
            have HT3 : Hid (SeenM w3 (w.heap.size + 1) (i + 1) (upTo S is (i + 1))) := by unfold Hid; rw [upTo_succ HX.out HSX.out]; exact q1
            have HE3 := Lib.hid (HE.out.trans q2)
            have HIM3 : Hid (Tp.imps nm S [] is = impsAt nm S is (i + 1) ∧ ∀ k ∈ is.take (i + 1), S k ≠ none) := by
              refine ⟨by rw [HIM.out.1, HST.out, if_neg HNO.out, if_neg (by rw [HSX.out]; simp)], fun k hk => ?_⟩
              obtain ⟨hi, e⟩ := List.getElem?_eq_some_iff.1 HX.out
              rw [List.take_succ_eq_append_getElem hi, e, List.mem_append] at hk
              rcases hk with hk | hk
              · exact HIM.out.2 k hk
              · rw [List.mem_singleton.1 hk, HSX.out]; simp
            clear q1 q2 q3
            go_wp2_with fail
            go_roundg (inn - (i + 1))
            case measure => omega
            case rel => exact ⟨i + 1, by omega, rfl, by go_num, HT3, HE3, HIM3⟩
    · have hlt' : ¬ (i : Int) < (inn : Int) := by omega
      have hei : i = is.length := by have := HL.out; omega
      have HF1 : Hid (Tp.imps nm S [] is = none) := by unfold Hid; rw [HIM.out.1, hei, impsAt_all]
      have HF2 : Hid (SeenM wr (w.heap.size + 1) i (fun k => if k ∈ is then S k else none)) := by
        have := HTM.out
        rw [hei] at this ⊢
        unfold upTo at this
        rw [List.take_length] at this
        exact this
      have HB3 : Hid (Below w.heap.size w wr) := HBE.out.trans (ext_below HE.out (by omega) (by omega))
      clear HTM HE HIM hei
      go_wp2_with fail
      go_ret
      refine ⟨HB3.out, ?_⟩
      rw [HF1.out]
      exact ⟨_, _, rfl, by omega, HF2.out⟩
end Go.Proofs.YtfpeboeknjlkbaaGreatDoor
/- check: what a name stands for: findSeen, finder. -/
namespace Go.Proofs.YtfpeboeknjlkbaaGreatDoor
open Go.RowKit Go.Maps
open Tp (Bs Th Sy Seen)

theorem fidx_of (l : List Sy) (n : Bs) : (∃ (k : Nat) (hk : k < l.length), fidx l n = (k : Int) ∧ Tp.findS l n = some l[k]) ∨ fidx l n = -1 ∧ Tp.findS l n = none := by
  unfold fidx Tp.findS
  cases h : l.findIdx? (fun s => s.1 == n) with
  | some k =>
    left
    have h' := h
    rw [List.findIdx?_eq_some_iff_getElem] at h'
    obtain ⟨hk, h1, h2⟩ := h'
    refine ⟨k, hk, rfl, ?_⟩
    rw [List.find?_eq_some_iff_getElem]
    exact ⟨by simpa using h1, k, hk, rfl, fun j hj => by simpa using h2 j hj⟩
  | none =>
    right
    refine ⟨rfl, ?_⟩
    rw [List.find?_eq_none]
    rw [List.findIdx?_eq_none_iff] at h
    intro x hx
    simpa using h x hx
def lookRes (r : Except Nat (Nat × Int)) : Value := match r with
  | .ok x => .tuple #[.agg #[.int .i64 (x.1 : Int), .int .i64 x.2], .int .i64 0]
  | .error e => .tuple #[.agg #[.int .i64 0, .int .i64 0], .int .i64 (e : Int)]
def seenRes (o : Option (List Sy)) (nm : Bs) : Except Nat (Nat × Int) := match o with
  | none => .error 5
  | some l => match Tp.findS l nm with
    | some s => .ok s.2
    | none => .error 7
set_option maxRecDepth 100000 in
set_option maxHeartbeats 1000000 in
theorem findSeen_post {w : World} {ob n : Nat} {S : Seen} (h : SeenM w ob n S) (md nm : Bs) (hl : md.length ≤ 1000000) :
    Calls Tryz.prog 116 #[.map (some ob), .string (bs md), .string (bs nm)] w fun e w' => e = .returned (lookRes (seenRes (S md) nm)) ∧ Below w.heap.size w w' := by
  have hal : ∀ ob', Below w.heap.size w (w.alloc ob') := fun ob' => (Below.refl _ _).alloc (Nat.le_refl _) _
  obtain ⟨w0, hw0⟩ : ∃ w0, w0 = w.alloc (.cells #[.int .i64 0, .int .i64 0] 194) := ⟨_, rfl⟩
  have hb0 : Below w.heap.size w w0 := by rw [hw0]; exact hal _
  have hk0 : w0.heap[w.heap.size]? = some (.cells #[.int .i64 0, .int .i64 0] 194 (0, 0)) := by rw [hw0]; exact new_blk _ _
  have hs0 : w.heap.size < w0.heap.size := by rw [hw0]; simp
  obtain ⟨v1, hlook1, ⟨a1, n1, d1, hv1⟩, hsl, hll⟩ := (h.on hb0).look md hl true
  subst hv1
  have c0 : w0.cell? ⟨w.heap.size, 0, none⟩ = some (.int .i64 0) := (cell_blk hk0).trans rfl
  have c1 : w0.cell? ⟨w.heap.size, 1, none⟩ = some (.int .i64 0) := (cell_blk hk0).trans rfl
  have z0 : w0.frozen? ⟨w.heap.size, 0, none⟩ = false := frozen_blk hk0
  have z1 : w0.frozen? ⟨w.heap.size, 1, none⟩ = false := frozen_blk hk0
  have HB0 := Lib.hid hb0
  have HK0 := Lib.hid hk0
  clear hal h hb0 hk0
  cases hS : S md with
  | none =>
    rw [hS] at hlook1
    simp only [Option.isSome_none, if_true] at hlook1
    clear hS hsl hll
    go_enter Tryz.func116, Tryz.ntmps116
    go_upto_region 1 with fail
    rw [← hw0]
    clear hw0
    go_wp2_with fail
    exact bodyPost_ret (v := .tuple #[.agg #[.int .i64 0, .int .i64 0], .int .i64 5]) (by simp [results, Tryz.results116, go_sem, c0, c1]) rfl ⟨rfl, HB0.out.trans (below_set (below_set (Below.refl _ _) (Nat.le_refl _) 0 _) (Nat.le_refl _) 1 _)⟩
  | some l =>
    rw [hS] at hlook1 hsl hll
    simp only [Option.isSome_some, if_true, Option.getD_some] at hlook1 hsl hll
    clear hS
    have hfp := find_post hsl hll nm
    have HSL := Lib.hid hsl
    have HFP := Lib.hid hfp
    obtain ⟨a9, c9, hv9⟩ := hsl.len
    cases hv9
    clear hsl hfp
    rcases fidx_of l nm with ⟨k, hk, hfi, hfs⟩ | ⟨hfi, hfs⟩
    · rw [hfi] at HFP
      have HRES : Hid (lookRes (seenRes (some l) nm) = .tuple #[.agg #[.int .i64 (l[k].2.1 : Int), .int .i64 l[k].2.2], .int .i64 0]) := by unfold Hid seenRes; simp only; rw [hfs]; rfl
      obtain ⟨g, hag, _, hgl, hcell⟩ := HSL.out.cell k hk
      subst hag
      have q1 : w0.cell? ⟨g, k * 3 + 1, none⟩ = some (.int .i64 (l[k].2.1 : Int)) := hcell 1 (by omega)
      have q2 : w0.cell? ⟨g, k * 3 + 2, none⟩ = some (.int .i64 l[k].2.2) := hcell 2 (by omega)
      have Q1 := Lib.hid q1
      have Q2 := Lib.hid q2
      have hkl : (k : Int) < (l.length : Int) := by omega
      have hll' : (l.length : Int) ≤ 1000 := by omega
      clear hcell hfi hfs q1 q2
      rw [HRES.out]
      clear HRES
      generalize l[k].2.1 = x1 at *
      generalize l[k].2.2 = x2 at *
      generalize l.length = ln at *
      go_enter Tryz.func116, Tryz.ntmps116
      go_upto_region 1 with fail
      rw [← hw0]
      clear hw0
      go_wp2_with fail
      refine HFP.out.mono ?_
      rintro e w3 ⟨rfl, hb3⟩
      have e3 := (hb3.block _ hs0).trans HK0.out
      have r1 : w3.cell? ⟨g, k * 3 + 1, none⟩ = some (.int .i64 (x1 : Int)) := (hb3.cell (p := ⟨g, _, none⟩) hgl).trans Q1.out
      have r2 : w3.cell? ⟨g, k * 3 + 2, none⟩ = some (.int .i64 x2) := (hb3.cell (p := ⟨g, _, none⟩) hgl).trans Q2.out
      have hgl3 : g < w3.heap.size := Nat.lt_of_lt_of_le hgl hb3.size
      have hs3 : w.heap.size < w3.heap.size := Nat.lt_of_lt_of_le hs0 hb3.size
      have s0 : w3.cell? ⟨w.heap.size, 0, none⟩ = some (.int .i64 0) := (cell_blk e3).trans rfl
      have s1 : w3.cell? ⟨w.heap.size, 1, none⟩ = some (.int .i64 0) := (cell_blk e3).trans rfl
      have t0 : w3.frozen? ⟨w.heap.size, 0, none⟩ = false := frozen_blk e3
      have t1 : w3.frozen? ⟨w.heap.size, 1, none⟩ = false := frozen_blk e3
      have HB3 : Hid (Below w.heap.size w w3) := HB0.out.trans (hb3.mono (by omega))
      clear e3 hb3 c0 c1 z0 z1
      go_wp2_with fail
      go_region
      go_wp2_with fail
      exact bodyPost_ret (v := .tuple #[.agg #[.int .i64 (x1 : Int), .int .i64 x2], .int .i64 0]) (by simp [results, Tryz.results116, go_sem, s0, s1]) rfl ⟨rfl, HB3.out.trans (below_set (below_set ((Below.refl _ _).drew) (Nat.le_refl _) 0 _) (Nat.le_refl _) 1 _)⟩
    · rw [hfi] at HFP
      have HRES : Hid (lookRes (seenRes (some l) nm) = .tuple #[.agg #[.int .i64 0, .int .i64 0], .int .i64 7]) := by unfold Hid seenRes; simp only; rw [hfs]; rfl
      clear hfi hfs HSL
      rw [HRES.out]
      clear HRES
      generalize l.length = ln at *
      go_enter Tryz.func116, Tryz.ntmps116
      go_upto_region 1 with fail
      rw [← hw0]
      clear hw0
      go_wp2_with fail
      refine HFP.out.mono ?_
      rintro e w3 ⟨rfl, hb3⟩
      have e3 := (hb3.block _ hs0).trans HK0.out
      have hs3 : w.heap.size < w3.heap.size := Nat.lt_of_lt_of_le hs0 hb3.size
      have s0 : w3.cell? ⟨w.heap.size, 0, none⟩ = some (.int .i64 0) := (cell_blk e3).trans rfl
      have s1 : w3.cell? ⟨w.heap.size, 1, none⟩ = some (.int .i64 0) := (cell_blk e3).trans rfl
      have t0 : w3.frozen? ⟨w.heap.size, 0, none⟩ = false := frozen_blk e3
      have t1 : w3.frozen? ⟨w.heap.size, 1, none⟩ = false := frozen_blk e3
      have HB3 : Hid (Below w.heap.size w w3) := HB0.out.trans (hb3.mono (by omega))
      clear e3 hb3 c0 c1 z0 z1
      go_wp2_with fail
      exact bodyPost_ret (v := .tuple #[.agg #[.int .i64 0, .int .i64 0], .int .i64 7]) (by simp [results, Tryz.results116, go_sem, s0, s1]) rfl ⟨rfl, HB3.out.trans (below_set (below_set (Below.refl _ _) (Nat.le_refl _) 0 _) (Nat.le_refl _) 1 _)⟩
end Go.Proofs.YtfpeboeknjlkbaaGreatDoor
