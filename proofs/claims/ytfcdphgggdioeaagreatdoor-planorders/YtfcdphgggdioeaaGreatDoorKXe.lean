import Derived.Test.YtfcdphgggdioeaaGreatDoorKXd
import Derived.Test.YtfcdphgggdioeaaGreatDoorKWa
/- The document's reader: ONEs. -/
namespace Go.Proofs.YtfcdphgggdioeaaGreatDoor
open Go.RowKit
open Tp (Tok hd tx at' stp X)
open Nr (Fl fine Sx tk tkS fl mu nm nu nms nex naft)
theorem RefPost.r {q : Rp} {ts : List Tok} {w : World} {pos : Nat} {y : List X × Sx} {e : Ending} {w' : World} (h : RefPost q ts w pos y e w') : RPost q ts w y e w' := by
  obtain ⟨b, code, m, n, la, aa, an, ac, left, args, h1, h2, h3, h4, h5, h6, h7, h8⟩ := h
  exact ⟨_, h1, h6, h7, h8⟩
theorem nex5 (g ones : Nat) (r : List Tok) : nex (g + 1) 5 ones 0 [] (r, fine) = if 10 < ones then some ([], (r, ((4 : Int), (at' r : Int))))
    else if (hd r).kind = 2 then some ([⟨1, at' r, (nu Tp.top (r, fine)).1, [], [], [], [], [], []⟩], (nu Tp.top (r, fine)).2)
    else if tx r = Tp.mMinus then (nex g 5 (ones + 1) 0 [] (stp r, fine)).map fun y => ([⟨4, at' r, 0, [], [], Tp.mMinus, y.1, [], []⟩], y.2)
    else if tx r = Tp.wNot then (nex g 5 (ones + 1) 0 [] (stp r, fine)).map fun y => ([⟨4, at' r, 0, [], [], Tp.wNot, y.1, [], []⟩], y.2)
    else if tx r = Tp.mLp then (nex g 0 (ones + 1) 0 [] (stp r, fine)).map fun y => (y.1, mu Tp.mRp y.2)
    else nex g 6 ones 0 [] (r, fine) := by
  rw [nex]; simp [fl]
theorem map_some' {α β : Type} {N : Option α} {F : α → β} {y : β} (h : N.map F = some y) : ∃ z, N = some z ∧ y = F z := by
  cases N with
  | none => cases h
  | some z => exact ⟨z, rfl, (Option.some.inj h).symm⟩
theorem four_ne (p : Nat) : ¬ (((4 : Int), (p : Int)) : Fl) = fine := Nr.flt_ne (4, p)
set_option maxRecDepth 100000 in
set_option maxHeartbeats 400000 in
theorem rone_deep {q : Rp} {ts : List Tok} {w : World} {r : List Tok} {ones : Nat} (h : RS w q ts r fine) (ho : ones ≤ 11) (hd10 : 10 < ones) :
    Calls Tryz.prog 127 #[.pointer (some ⟨q.rb, 0, none⟩), .int .i64 (ones : Int)] w fun e w' => RPost q ts w ([], (r, ((4 : Int), (at' r : Int)))) e w' := by
  go_enter Tryz.func127, Tryz.ntmps127
  go_wp2_with fail
  refine (rfails_any h 4).mono ?_
  rintro e w1 ⟨rfl, h1, hx1⟩
  rw [if_pos rfl] at h1
  have h1 : RS w1 q ts r ((4 : Int), (at' r : Int)) := h1
  go_wp2_with fail
  refine (rok_b h1 (four_ne _)).mono ?_
  rintro e w2 ⟨rfl, hb2⟩
  go_wp2_with fail
  exact bodyPost_ret (v := .pointer none) (by simp [results, Tryz.results127, go_sem]) rfl ⟨none, rfl, fun hf => absurd hf (four_ne _), h1.below hb2, hx1.trans (Ext.below hb2)⟩
set_option maxRecDepth 100000 in
set_option maxHeartbeats 4000000 in
theorem rone_post {q : Rp} {ts : List Tok} {g : Nat} (hL : LevR q ts g) (hO : OneR q ts g) (hR : RefR q ts g) : OneR q ts (g + 1) := by
  intro w r ones y h ho hy
  rw [nex5] at hy
  by_cases hd10 : 10 < ones
  · rw [if_pos hd10] at hy
    obtain rfl := Option.some.inj hy
    exact rone_deep h ho hd10
  rw [if_neg hd10] at hy
  have hpl := lt_of_cell h.c0
  have HWR : Hid (IntKind.i64.wrap ((ones : Int) + 1) = (ones : Int) + 1) := by show _ = _; unfold IntKind.wrap; simp [IntKind.bits, IntKind.signed]; omega
  have HL : Hid (∀ W r' z, RS W q ts r' fine → nex g 0 (ones + 1) 0 [] (r', fine) = some z → Calls Tryz.prog 94 #[.pointer (some ⟨q.rb, 0, none⟩), .int .i64 0, .int .i64 ((ones : Int) + 1)] W fun e w' => RPost q ts W z e w') :=
    fun W r' z hW hz => hL W r' 0 (ones + 1) z hW (by omega) (by omega) hz
  have HO : Hid (∀ W r' z, RS W q ts r' fine → nex g 5 (ones + 1) 0 [] (r', fine) = some z → Calls Tryz.prog 127 #[.pointer (some ⟨q.rb, 0, none⟩), .int .i64 (IntKind.i64.wrap ((ones : Int) + 1))] W fun e w' => RPost q ts W z e w') :=
    fun W r' z hW hz => by rw [HWR.out]; exact hO W r' (ones + 1) z hW (by omega) hz
  have HR : Hid (∀ W z, RS W q ts r fine → nex g 6 ones 0 [] (r, fine) = some z → Calls Tryz.prog 67 #[.pointer (some ⟨q.rb, 0, none⟩), .int .i64 (ones : Int)] W fun e w' => RPost q ts W z e w') :=
    fun W z hW hz => (hR W r ones z hW (by omega) hz).mono fun _ _ h => h.r
  clear hL hO hR
  obtain ⟨h1, h2, h3, h4⟩ := h.hd
  have hmem : hd r ∈ ts := List.mem_of_getElem? h1
  have hdg := h.dig _ hmem
  have hneq : ∀ m : List UInt8, (∃ c l, m = c :: l ∧ Tp.digit c = false) → tx r = m → ¬ (hd r).kind = 2 := fun m hm e hk => by
    obtain ⟨c, l, rfl, hc⟩ := hm
    have := (hdg hk).2 c (by simp only [tx] at e; rw [e]; simp)
    rw [hc] at this; cases this
  have HNE := Lib.hid hneq
  obtain ⟨i, hi⟩ : ∃ i, i = (ts.length - r.length) * 3 := ⟨_, rfl⟩
  obtain ⟨n, hn⟩ : ∃ n, n = r.length := ⟨_, rfl⟩
  obtain ⟨c, hc⟩ : ∃ c, c = q.cap - (ts.length - r.length) := ⟨_, rfl⟩
  have HC0 : Hid (∀ W, RS W q ts r fine → W.cell? ⟨q.rb, 0, none⟩ = some (.slice (some ⟨q.tb, i, none⟩) n c) ∧ W.cell? ⟨q.tb, i, none⟩ = some (.int .i64 (kd (hd r))) ∧ W.cell? ⟨q.tb, i + 1, none⟩ = some (.string (bs (tx r))) ∧ W.cell? ⟨q.tb, i + 2, none⟩ = some (.int .i64 (at' r : Int))) := fun W hW => by
    rw [hi, hn, hc]; exact ⟨hW.c0, (hW.toks _ _ h1).c0, (hW.toks _ _ h1).c1, (hW.toks _ _ h1).c2⟩
  have hn0 : (0 : Int) < n := by omega
  have hk2 : kd (hd r) = 2 ↔ (hd r).kind = 2 := by unfold kd; split <;> omega
  have HK2 := Lib.hid hk2
  have hd10' : ¬ (10 : Int) < (ones : Int) := by omega
  clear hi hn hc h1 h2 h3 h4 hneq hdg hmem hd10
  obtain ⟨kk, hkk⟩ : ∃ kk, kk = kd (hd r) := ⟨_, rfl⟩
  obtain ⟨pos, hpos⟩ : ∃ pos, pos = at' r := ⟨_, rfl⟩
  rw [← hkk, ← hpos] at HC0
  rw [← hkk] at hk2
  have HKK := Lib.hid hk2
  have HPO := Lib.hid hpos
  have HY := Lib.hid hy
  clear hkk hpos hk2 HK2 hy
  have hix0 : ∀ W : World, (Instr.index 214 (.agg #[.string ⟨#[45]⟩, .string ⟨#[110, 111, 116]⟩]) (.int .i64 0)).run Tryz.prog W = .ok (.string ⟨#[45]⟩) W := fun W => by kernel_rfl
  have hix1 : ∀ W : World, (Instr.index 214 (.agg #[.string ⟨#[45]⟩, .string ⟨#[110, 111, 116]⟩]) (.int .i64 1)).run Tryz.prog W = .ok (.string ⟨#[110, 111, 116]⟩) W := fun W => by kernel_rfl
  go_enter Tryz.func127, Tryz.ntmps127
  go_wp2_with fail
  refine (rok_f h).mono ?_
  rintro e w1 ⟨rfl, hb1⟩
  have hst1 := h.below hb1
  obtain ⟨d0, d1, d2, d3⟩ := HC0.out w1 hst1
  have b0 : Below w1.heap.size w1 (w1.alloc (Obj.cells #[.int .i64 kk, .string (bs (tx r)), .int .i64 (pos : Int)] 57)) := (Below.refl _ _).alloc (Nat.le_refl _) _
  have k0 := new_blk w1 (Obj.cells #[.int .i64 kk, .string (bs (tx r)), .int .i64 (pos : Int)] 57)
  obtain ⟨tb, htb⟩ : ∃ tb, tb = w1.heap.size := ⟨_, rfl⟩
  go_wp2_with fail
  have hst2 := hst1.below b0
  have hx2 : Ext q.rb w (w1.alloc (Obj.cells #[.int .i64 kk, .string (bs (tx r)), .int .i64 (pos : Int)] 57)) := (Ext.below hb1).trans (Ext.below b0)
  generalize w1.alloc (Obj.cells #[.int .i64 kk, .string (bs (tx r)), .int .i64 (pos : Int)] 57) = w2 at *
  have hsz1 := hb1.size
  rw [← htb] at k0 ⊢
  have hqt : q.rb < tb := by omega
  have hwt : w.heap.size ≤ tb := by omega
  clear d0 d1 d2 d3 hst1 hb1 b0 htb h hsz1
  go_loopg [23] 2 (fun k vi wr => ∃ j : Nat, j ≤ 2 ∧ k = 2 - j ∧ vi = .int .i64 (j : Int) ∧ RS wr q ts r fine ∧ Hid (wr.heap[tb]? = some (.cells #[.int .i64 kk, .string (bs (tx r)), .int .i64 (pos : Int)] 57 (0, 0))) ∧ Hid (Ext q.rb w wr) ∧ Hid (0 < j → ¬ tx r = Tp.mMinus) ∧ Hid (1 < j → ¬ tx r = Tp.wNot))
  case atStart => exact ⟨0, by omega, rfl, rfl, hst2, k0, hx2, fun h => absurd h (by omega), fun h => absurd h (by omega)⟩
  case round =>
    obtain ⟨j, hj2, hjk, rfl, hst, HK, HX, HM, HN⟩ := hrel
    clear hst2 k0 hx2
    match j, hj2 with
    | 0, _ =>
      go_wp2_with fail
      refine (rtake_s (s := (r, fine)) hst Tp.mMinus (by decide) _ rfl).mono ?_
      rintro e w4 ⟨rfl, hst4, hx4⟩
      have HK4 := Lib.hid ((hx4.block tb (lt_blk HK.out) (by omega)).trans HK.out)
      have HX4 := Lib.hid (HX.out.trans hx4)
      clear hst hx4 HK HX
      cases htk : tk Tp.mMinus (r, fine) with
      | false =>
        rw [tk_false htk] at hst4
        have hnt : ¬ tx r = Tp.mMinus := fun e => of_decide_eq_false htk ⟨rfl, e⟩
        have HNT := Lib.hid hnt
        clear htk hnt
        go_wp2_with fail
        go_roundg 1
        case measure => omega
        case rel => exact ⟨1, by omega, rfl, rfl, hst4, HK4, HX4, fun _ => HNT.out, fun h => absurd h (by omega)⟩
      | true =>
        obtain ⟨_, htx, hts⟩ := tk_true htk
        rw [hts] at hst4
        have htx : tx r = Tp.mMinus := htx
        have hk2 : ¬ (hd r).kind = 2 := HNE.out Tp.mMinus ⟨_, _, rfl, by decide⟩ htx
        have hy := HY.out
        rw [if_neg hk2, if_pos htx] at hy
        obtain ⟨z, hz, hyz⟩ := map_some' hy
        have hrx : RS w4 q ts (stp r) fine := hst4
        have HC := Lib.hid (HO.out w4.drew (stp r) z (hrx.below (below_drew w4)) hz)
        have HYZ := Lib.hid hyz
        have hsz4 := HX4.out.size
        have htl4 := lt_blk HK4.out
        have k2 : w4.cell? ⟨tb, 2, none⟩ = some (.int .i64 (pos : Int)) := cell_blk HK4.out
        clear hy hz hyz hst4 hk2 htx hts htk HM HN
        go_wp2_with fail
        go_region_law (refine step_wanted rfl ?_; go_simp; go_at_call 127; refine HC.out.mono ?_; rintro e w5 ⟨p5, rfl, hv5, hst5, hx5⟩; have HX5 := Lib.hid ((HX4.out.trans (Ext.below (below_drew w4))).trans hx5); have k5 : w5.cell? ⟨tb, 2, none⟩ = some (.int .i64 (pos : Int)) := ((((Ext.below (b := q.rb) (below_drew w4)).trans hx5).cell k2 (by simp; omega)) : _))
        all_goals
          have hsz5 := HX5.out.size
          have HV5 := Lib.hid hv5
          have HS5 := Lib.hid hst5
          have hal : Below w5.heap.size w5 (w5.alloc (.cells (xcells 4 pos 0 ⟨#[]⟩ ⟨#[]⟩ ⟨#[45]⟩ (.pointer p5) (.pointer none) (.slice none 0 0)) 108)) := (Below.refl _ _).alloc (Nat.le_refl _) _
          have HF : Hid (RPost q ts w y (.returned (.pointer (some ⟨w5.heap.size, 0, none⟩))) (w5.alloc (.cells (xcells 4 pos 0 ⟨#[]⟩ ⟨#[]⟩ ⟨#[45]⟩ (.pointer p5) (.pointer none) (.slice none 0 0)) 108))) := by
            rw [HYZ.out, ← HPO.out]
            refine ⟨_, rfl, fun hf => ?_, HS5.out.below hal, HX5.out.trans (Ext.below hal)⟩
            exact VX.node (op := Tp.mMinus) hsz5 (new_blk w5 _) (Or.inr ((VX.ext (b := q.rb) (Ext.below hal) (by simp; omega) (HV5.out hf)).base (by simp; omega))) (Or.inl ⟨rfl, rfl⟩) (Or.inl ⟨rfl, rfl⟩)
          clear hv5 hst5 hx5 hal
          go_wp2_with fail
          exact bodyPost_ret (v := .pointer (some ⟨w5.heap.size, 0, none⟩)) (by simp [results, Tryz.results127, go_sem]) rfl HF.out
    | 1, _ =>
      go_wp2_with fail
      refine (rtake_s (s := (r, fine)) hst Tp.wNot (by decide) _ rfl).mono ?_
      rintro e w4 ⟨rfl, hst4, hx4⟩
      have HK4 := Lib.hid ((hx4.block tb (lt_blk HK.out) (by omega)).trans HK.out)
      have HX4 := Lib.hid (HX.out.trans hx4)
      clear hst hx4 HK HX
      cases htk : tk Tp.wNot (r, fine) with
      | false =>
        rw [tk_false htk] at hst4
        have hnt : ¬ tx r = Tp.wNot := fun e => of_decide_eq_false htk ⟨rfl, e⟩
        have HNT := Lib.hid hnt
        clear htk hnt
        go_wp2_with fail
        go_roundg 0
        case measure => omega
        case rel => exact ⟨2, by omega, rfl, rfl, hst4, HK4, HX4, fun _ => HM.out (by omega), fun _ => HNT.out⟩
      | true =>
        obtain ⟨_, htx, hts⟩ := tk_true htk
        rw [hts] at hst4
        have htx : tx r = Tp.wNot := htx
        have hk2 : ¬ (hd r).kind = 2 := HNE.out Tp.wNot ⟨_, _, rfl, by decide⟩ htx
        have hy := HY.out
        rw [if_neg hk2, if_neg (by rw [htx]; decide), if_pos htx] at hy
        obtain ⟨z, hz, hyz⟩ := map_some' hy
        have hrx : RS w4 q ts (stp r) fine := hst4
        have HC := Lib.hid (HO.out w4.drew (stp r) z (hrx.below (below_drew w4)) hz)
        have HYZ := Lib.hid hyz
        have hsz4 := HX4.out.size
        have htl4 := lt_blk HK4.out
        have k2 : w4.cell? ⟨tb, 2, none⟩ = some (.int .i64 (pos : Int)) := cell_blk HK4.out
        clear hy hz hyz hst4 hk2 htx hts htk HM HN
        go_wp2_with fail
        go_region_law (refine step_wanted rfl ?_; go_simp; go_at_call 127; refine HC.out.mono ?_; rintro e w5 ⟨p5, rfl, hv5, hst5, hx5⟩; have HX5 := Lib.hid ((HX4.out.trans (Ext.below (below_drew w4))).trans hx5); have k5 : w5.cell? ⟨tb, 2, none⟩ = some (.int .i64 (pos : Int)) := ((((Ext.below (b := q.rb) (below_drew w4)).trans hx5).cell k2 (by simp; omega)) : _))
        all_goals
          have hsz5 := HX5.out.size
          have HV5 := Lib.hid hv5
          have HS5 := Lib.hid hst5
          have hal : Below w5.heap.size w5 (w5.alloc (.cells (xcells 4 pos 0 ⟨#[]⟩ ⟨#[]⟩ ⟨#[110, 111, 116]⟩ (.pointer p5) (.pointer none) (.slice none 0 0)) 108)) := (Below.refl _ _).alloc (Nat.le_refl _) _
          have HF : Hid (RPost q ts w y (.returned (.pointer (some ⟨w5.heap.size, 0, none⟩))) (w5.alloc (.cells (xcells 4 pos 0 ⟨#[]⟩ ⟨#[]⟩ ⟨#[110, 111, 116]⟩ (.pointer p5) (.pointer none) (.slice none 0 0)) 108))) := by
            rw [HYZ.out, ← HPO.out]
            refine ⟨_, rfl, fun hf => ?_, HS5.out.below hal, HX5.out.trans (Ext.below hal)⟩
            exact VX.node (op := Tp.wNot) hsz5 (new_blk w5 _) (Or.inr ((VX.ext (b := q.rb) (Ext.below hal) (by simp; omega) (HV5.out hf)).base (by simp; omega))) (Or.inl ⟨rfl, rfl⟩) (Or.inl ⟨rfl, rfl⟩)
          clear hv5 hst5 hx5 hal
          go_wp2_with fail
          exact bodyPost_ret (v := .pointer (some ⟨w5.heap.size, 0, none⟩)) (by simp [results, Tryz.results127, go_sem]) rfl HF.out
    | 2, _ =>
      have hm : ¬ tx r = Tp.mMinus := HM.out (by omega)
      have hn : ¬ tx r = Tp.wNot := HN.out (by omega)
      have HY2 : Hid ((if (hd r).kind = 2 then some (([⟨1, at' r, (nu Tp.top (r, fine)).1, [], [], [], [], [], []⟩] : List X), (nu Tp.top (r, fine)).2) else if tx r = Tp.mLp then (nex g 0 (ones + 1) 0 [] (stp r, fine)).map fun y => (y.1, mu Tp.mRp y.2) else nex g 6 ones 0 [] (r, fine)) = some y) := by
        have := HY.out
        rw [if_neg hm, if_neg hn] at this
        exact this
      clear hm hn HM HN HY hjk
      go_wp2_with fail
      refine (rtake_s (s := (r, fine)) hst Tp.mLp (by decide) _ rfl).mono ?_
      rintro e w4 ⟨rfl, hst4, hx4⟩
      have HK4 := Lib.hid ((hx4.block tb (lt_blk HK.out) (by omega)).trans HK.out)
      have HX4 := Lib.hid (HX.out.trans hx4)
      clear hst hx4 HK HX
      cases htk : tk Tp.mLp (r, fine) with
      | true =>
        obtain ⟨_, htx, hts⟩ := tk_true htk
        rw [hts] at hst4
        have htx : tx r = Tp.mLp := htx
        have hk2 : ¬ (hd r).kind = 2 := HNE.out Tp.mLp ⟨_, _, rfl, by decide⟩ htx
        have hy := HY2.out
        rw [if_neg hk2, if_pos htx] at hy
        obtain ⟨z, hz, hyz⟩ := map_some' hy
        have hrx : RS w4 q ts (stp r) fine := hst4
        have HC := Lib.hid (HL.out w4 (stp r) z hrx hz)
        have HYZ := Lib.hid hyz
        have hsz4 := HX4.out.size
        clear hy hz hyz hst4 hk2 htx hts htk HY2
        go_wp2_with fail
        refine HC.out.mono ?_
        rintro e w5 ⟨p5, rfl, hv5, hst5, hx5⟩
        have HX5 := Lib.hid (HX4.out.trans hx5)
        have HV5 := Lib.hid hv5
        clear hv5 hx5
        go_wp2_with fail
        refine (rmust_s hst5 Tp.mRp (by decide) _ rfl).mono ?_
        rintro e w6 ⟨rfl, hst6, hx6⟩
        have HF : Hid (RPost q ts w y (.returned (.pointer p5)) w6) := by
          rw [HYZ.out]
          exact ⟨_, rfl, fun hf => VX.ext hx6 hpl ((HV5.out (mu_fine hf)).base (by omega)), hst6, HX5.out.trans hx6⟩
        clear hst5 hst6 hx6
        go_wp2_with fail
        exact bodyPost_ret (v := .pointer p5) (by simp [results, Tryz.results127, go_sem]) rfl HF.out
      | false =>
        rw [tk_false htk] at hst4
        have hnt : ¬ tx r = Tp.mLp := fun e => of_decide_eq_false htk ⟨rfl, e⟩
        have hrx : RS w4 q ts r fine := hst4
        have htl4 := lt_blk HK4.out
        have k0 : w4.cell? ⟨tb, 0, none⟩ = some (.int .i64 kk) := cell_blk HK4.out
        have k2 : w4.cell? ⟨tb, 2, none⟩ = some (.int .i64 (pos : Int)) := cell_blk HK4.out
        have hy := HY2.out
        have hsz4 := HX4.out.size
        by_cases hk2 : (hd r).kind = 2
        · rw [if_pos hk2] at hy
          have HYZ : Hid (y = (([⟨1, at' r, (nu Tp.top (r, fine)).1, [], [], [], [], [], []⟩] : List X), (nu Tp.top (r, fine)).2)) := (Option.some.inj hy).symm
          have hkk : kk = 2 := HKK.out.2 hk2
          have HC := Lib.hid (rnumber_s (hrx.below (below_drew w4)) Tp.top (by decide))
          rw [show ((Tp.top : Nat) : Int) = 9223372036854775807 from rfl] at HC
          subst hkk
          clear hy hk2 hnt htk hst4 HY2 HKK
          generalize nu Tp.top (r, fine) = nn at *
          go_wp2_with fail
          go_region_law (refine step_wanted rfl ?_; go_simp; go_at_call 18; refine HC.out.mono ?_; rintro e w5 ⟨rfl, hst5, hx5⟩; have HX5 := Lib.hid ((HX4.out.trans (Ext.below (below_drew w4))).trans hx5); have k5 : w5.cell? ⟨tb, 2, none⟩ = some (.int .i64 (pos : Int)) := ((((Ext.below (b := q.rb) (below_drew w4)).trans hx5).cell k2 (by simp; omega)) : _))
          all_goals
            have hsz5 := HX5.out.size
            have HS5 := Lib.hid hst5
            have hal : Below w5.heap.size w5 (w5.alloc (.cells (xcells 1 pos nn.1 ⟨#[]⟩ ⟨#[]⟩ ⟨#[]⟩ (.pointer none) (.pointer none) (.slice none 0 0)) 108)) := (Below.refl _ _).alloc (Nat.le_refl _) _
            have HF : Hid (RPost q ts w y (.returned (.pointer (some ⟨w5.heap.size, 0, none⟩))) (w5.alloc (.cells (xcells 1 pos nn.1 ⟨#[]⟩ ⟨#[]⟩ ⟨#[]⟩ (.pointer none) (.pointer none) (.slice none 0 0)) 108))) := by
              rw [HYZ.out, ← HPO.out]
              refine ⟨_, rfl, fun hf => ?_, HS5.out.below hal, HX5.out.trans (Ext.below hal)⟩
              exact VX.node hsz5 (new_blk w5 _) (Or.inl ⟨rfl, rfl⟩) (Or.inl ⟨rfl, rfl⟩) (Or.inl ⟨rfl, rfl⟩)
            clear hst5 hx5 hal
            go_wp2_with fail
            exact bodyPost_ret (v := .pointer (some ⟨w5.heap.size, 0, none⟩)) (by simp [results, Tryz.results127, go_sem]) rfl HF.out
        · rw [if_neg hk2, if_neg hnt] at hy
          have hkk : (kk == 2) = false := by have := fun h => hk2 (HKK.out.1 h); simpa using this
          have HC := Lib.hid (HR.out w4 y hrx hy)
          clear hy hk2 hnt htk hst4 HY2 HKK
          go_wp2_with fail
          refine HC.out.mono ?_
          rintro e w5 ⟨p5, rfl, hv5, hst5, hx5⟩
          have HF : Hid (RPost q ts w y (.returned (.pointer p5)) w5) := ⟨_, rfl, fun hf => (hv5 hf).base (by omega), hst5, HX4.out.trans hx5⟩
          clear hv5 hst5 hx5
          go_wp2_with fail
          exact bodyPost_ret (v := .pointer p5) (by simp [results, Tryz.results127, go_sem]) rfl HF.out
/- all together, by gas -/
theorem expr_allR (q : Rp) (ts : List Tok) : ∀ g, LevR q ts g ∧ OneR q ts g ∧ RefR q ts g := by
  intro g
  induction g with
  | zero => exact ⟨fun _ _ _ _ _ _ _ _ h => (by cases h), fun _ _ _ _ _ _ h => (by cases h), fun _ _ _ _ _ _ h => (by cases h)⟩
  | succ g ih =>
    obtain ⟨h1, h2, h3⟩ := ih
    have hO := rone_post h1 h2 h3
    exact ⟨lev_post h1 hO, hO, ref_post h1⟩
end Go.Proofs.YtfcdphgggdioeaaGreatDoor
/- The document's reader: value, STMTs. -/
namespace Go.Proofs.YtfcdphgggdioeaaGreatDoor
open Go.RowKit
open Tp (Tok hd tx at' stp X S)
open Nr (Fl fine Sx tk tkS fl mu nm nu nms nex naft nval nsx)
theorem mu_len {w : World} {q : Rp} {ts : List Tok} {s : Sx} {m : List UInt8} (h : RX w q ts s) (hm : m ≠ []) (hf : (mu m s).2 = fine) : (mu m s).1.length + 1 ≤ s.1.length := by
  have hc : tx s.1 = m := mu_tx hf
  have hk : (hd s.1).kind ≠ 0 := fun hk => by have := h.txt _ (List.mem_of_getElem? h.hd.1) hk; simp only [tx] at hc; rw [hc] at this; exact hm this
  obtain ⟨y1, _, y3, _, _⟩ := h.stp_of hk
  have e : (mu m s).1 = stp s.1 := by unfold mu; rw [if_pos ⟨mu_fine hf, hc⟩]
  rw [e, y1]; omega
set_option maxRecDepth 100000 in
set_option maxHeartbeats 400000 in
theorem rvalue_s {w : World} {q : Rp} {ts : List Tok} {s : Sx} (h : RX w q ts s) (g : Nat) (y : List X × Sx) (hy : nval g s = some y) :
    Calls Tryz.prog 65 #[.pointer (some ⟨q.rb, 0, none⟩)] w fun e w' => RPost q ts w y e w' := by
  obtain ⟨r, b⟩ := s
  have h : RS w q ts r b := h
  unfold nval at hy
  by_cases hf : b = fine
  · subst hf
    rw [if_pos rfl] at hy
    have HC : Hid (∀ W, RS W q ts r fine → Calls Tryz.prog 94 #[.pointer (some ⟨q.rb, 0, none⟩), .int .i64 0, .int .i64 0] W fun e w' => RPost q ts W y e w') := fun W hW => (expr_allR q ts g).1 W r 0 0 y hW (by omega) (by omega) hy
    clear hy
    go_enter Tryz.func65, Tryz.ntmps65
    go_wp2_with fail
    refine (rok_f h).mono ?_
    rintro e w1 ⟨rfl, hb1⟩
    have h1 := h.below hb1
    have hsz := hb1.size
    go_wp2_with fail
    refine (HC.out w1 h1).mono ?_
    rintro e w2 ⟨p, rfl, hv, hst, hx⟩
    have HF : Hid (RPost q ts w y (.returned (.pointer p)) w2) := ⟨p, rfl, fun hf => (hv hf).base hsz, hst, (Ext.below hb1).trans hx⟩
    clear hv hst hx
    go_wp2_with fail
    exact bodyPost_ret (v := .pointer p) (by simp [results, Tryz.results65, go_sem]) rfl HF.out
  · rw [if_neg hf] at hy
    obtain rfl := Option.some.inj hy
    go_enter Tryz.func65, Tryz.ntmps65
    go_wp2_with fail
    refine (rok_b h hf).mono ?_
    rintro e w1 ⟨rfl, hb1⟩
    have HF : Hid (RPost q ts w ([], (r, b)) (.returned (.pointer none)) w1) := ⟨none, rfl, fun h => absurd h hf, h.below hb1, Ext.below hb1⟩
    go_wp2_with fail
    exact bodyPost_ret (v := .pointer none) (by simp [results, Tryz.results65, go_sem]) rfl HF.out
def SPost (q : Rp) (ts : List Tok) (w : World) (y : List S × Sx) (e : Ending) (w' : World) : Prop :=
  ∃ (aa : Option Addr) (an ac : Nat), e = .returned (.slice aa an ac) ∧ (y.2.2 = fine → VL w.heap.size y.1 (.slice aa an ac) w') ∧ RX w' q ts y.2 ∧ Ext q.rb w w'
def TPost (q : Rp) (ts : List Tok) (w : World) (y : List S × Sx) (e : Ending) (w' : World) : Prop :=
  ∃ (code pos : Int) (name : ByteArray) (ia va ta ea : Option Addr) (tn tc en ec : Nat), e = .returned (.agg (scells code pos name (.pointer ia) (.pointer va) (.slice ta tn tc) (.slice ea en ec))) ∧
    (y.2.2 = fine → VS w.heap.size y.1 (.agg (scells code pos name (.pointer ia) (.pointer va) (.slice ta tn tc) (.slice ea en ec))) w') ∧ RX w' q ts y.2 ∧ Ext q.rb w w'
def StsR (q : Rp) (ts : List Tok) (g : Nat) : Prop := ∀ (w : World) (r : List Tok) (deep : Nat) (y : List S × Sx), RS w q ts r fine → deep ≤ 11 → nsx g 0 deep 0 [] (r, fine) = some y →
  Calls Tryz.prog 21 #[.pointer (some ⟨q.rb, 0, none⟩), .int .i64 (deep : Int)] w fun e w' => SPost q ts w y e w'
def StR (q : Rp) (ts : List Tok) (g : Nat) : Prop := ∀ (w : World) (r : List Tok) (deep : Nat) (y : List S × Sx), RS w q ts r fine → deep ≤ 10 → nsx g 2 deep 0 [] (r, fine) = some y →
  Calls Tryz.prog 42 #[.pointer (some ⟨q.rb, 0, none⟩), .int .i64 (deep : Int)] w fun e w' => TPost q ts w y e w'
theorem StR.mono {q : Rp} {ts : List Tok} {f g : Nat} (h : StR q ts g) (hf : f ≤ g) : StR q ts f := fun w r deep y h1 h2 h3 => h w r deep y h1 h2 (Nr.mo_nsx 2 deep 0 [] (r, fine) f g hf y h3)
theorem nsx1_end {g deep a : Nat} {acc : List S} {s : Sx} {y : List S × Sx} (h : nsx g 1 deep a acc s = some y) (he : ¬ (s.2 = fine ∧ ¬ (tx s.1 = Tp.wEnd ∨ tx s.1 = Tp.wElsif ∨ tx s.1 = Tp.wElse))) : y = (acc, s) := by
  cases g with
  | zero => cases h
  | succ g =>
    rw [nsx, if_neg (by omega), if_pos rfl, if_neg he] at h
    exact (Option.some.inj h).symm
theorem nsx1_on {g deep a : Nat} {acc : List S} {r : List Tok} {y : List S × Sx} (h : nsx g 1 deep a acc (r, fine) = some y) (he : ¬ (tx r = Tp.wEnd ∨ tx r = Tp.wElsif ∨ tx r = Tp.wElse)) : ∃ g' z, g = g' + 1 ∧ nsx g' 2 deep 0 [] (r, fine) = some z ∧ nsx g' 1 deep 0 (acc ++ z.1) (mu Tp.mSemi z.2) = some y := by
  cases g with
  | zero => cases h
  | succ g =>
    rw [nsx, if_neg (by omega), if_pos rfl, if_pos ⟨rfl, he⟩] at h
    obtain ⟨z, h1, h2⟩ := bind_some' h
    exact ⟨g, z, rfl, h1, h2⟩
theorem VS.len1 {B : Nat} {l : List S} {v : Value} {w : World} (h : VS B l v w) : l.length = 1 := by
  obtain ⟨c, p, n, ia, va, ta, ea, tn, tc, en, ec, _, h2⟩ := h
  have := RepS.len _ _ h2
  simp [scells] at this
  omega
set_option maxRecDepth 100000 in
set_option maxHeartbeats 2000000 in
theorem rstmts_loop {q : Rp} {ts : List Tok} {g : Nat} (hT : StR q ts g) {w : World} {s0 : Sx} {deep : Nat} {y : List S × Sx} (h : RX w q ts s0) (hd : deep ≤ 10) (hy : nsx g 1 deep 0 [] s0 = some y) :
    Calls Tryz.prog 21 #[.pointer (some ⟨q.rb, 0, none⟩), .int .i64 (deep : Int)] w fun e w' => SPost q ts w y e w' := by
  obtain ⟨i3, hi3, hz30, hz31, hz32⟩ := info_parts Tryz.infoStmt
  have hpl := lt_of_cell h.c0
  have hlen := h.len
  have hl0 : s0.1.length ≤ 1000 := by have := h.hd.2.2.2; omega
  have HT : Hid (∀ g', g' ≤ g → ∀ W r' z, RS W q ts r' fine → nsx g' 2 deep 0 [] (r', fine) = some z → Calls Tryz.prog 42 #[.pointer (some ⟨q.rb, 0, none⟩), .int .i64 (deep : Int)] W fun e w' => TPost q ts W z e w') := fun g' hg W r' z hW hz => (hT.mono hg) W r' deep z hW hd hz
  have HY := Lib.hid hy
  have hdi : ¬ (10 : Int) < (deep : Int) := by omega
  clear hT hy
  go_enter Tryz.func21, Tryz.ntmps21
  go_wp2_with fail
  go_loopg [5] g (fun gk v wr => ∃ (l : List S) (cs : List Value) (s' : Sx) (aa : Option Addr) (nn ac : Nat), gk ≤ g ∧ v = .slice aa nn ac ∧ nn ≤ 1001 ∧ Hid (s'.2 = fine → nn + s'.1.length ≤ 1000) ∧ Hid (wr.ownsRow w.heap.size 97 7 (.slice aa nn ac) nn cs) ∧ Hid (s'.2 = fine → nn = l.length ∧ RepS wr (fun b => w.heap.size ≤ b ∧ (Value.slice aa nn ac).ownBlock ≠ some b) l cs) ∧ RX wr q ts s' ∧ Hid (Ext q.rb w wr) ∧ Hid (nsx gk 1 deep 0 l s' = some y))
  case atStart => exact ⟨[], [], s0, none, 0, 0, Nat.le_refl _, rfl, by omega, (fun _ => by omega), World.ownsRow_nil _ _ _ _, (fun _ => ⟨rfl, by rw [RepS]⟩), h, Ext.refl _ _, HY⟩
  case round =>
    obtain ⟨l, cs, ⟨r', b'⟩, aa, nn, ac, hgk, rfl, hnn, HLN, HO, HRP, hst, HX, HS⟩ := hrel
    clear h HY hl0
    have hst : RS wr q ts r' b' := hst
    have HEND : Hid (∀ W, Below wr.heap.size wr W → y = (l, (r', b')) → SPost q ts w y (.returned (.slice aa nn ac)) W) := fun W hW hy => by
      rw [hy]
      refine ⟨aa, nn, ac, rfl, fun hf => ?_, hst.below hW, HX.out.trans (Ext.below hW)⟩
      obtain ⟨e1, e2⟩ := HRP.out hf
      refine ⟨cs, e2.mono' (fun i hi hl => ⟨hW.block i hl, hi⟩), ?_⟩
      rw [← e1]
      exact owns_ext HO.out (Ext.below (b := q.rb) hW) hpl
    by_cases hf : b' = fine
    rotate_left
    · have HE := Lib.hid (nsx1_end HS.out (fun h => hf h.1))
      have HK := Lib.hid (rok_b hst hf)
      clear hf
      go_wp2_with fail
      refine HK.out.mono ?_
      rintro e w5 ⟨rfl, hb5⟩
      have HF := Lib.hid (HEND.out w5 hb5 HE.out)
      go_wp2_with fail
      exact bodyPost_ret (v := .slice aa nn ac) (by simp [results, Tryz.results21, go_sem]) rfl HF.out
    · subst hf
      have hln0 := HLN.out rfl
      have hrp0 := HRP.out rfl
      have HLN0 := Lib.hid hln0
      have HRP0 := Lib.hid hrp0
      clear hln0 hrp0
      have HK := Lib.hid (rok_f hst)
      go_wp2_with fail
      refine HK.out.mono ?_
      rintro e w5 ⟨rfl, hb5⟩
      have hst5 : RX w5 q ts (r', fine) := hst.below hb5
      clear HK
      go_wp2_with fail
      refine (rsee_s hst5 Tp.wEnd (by decide) _ rfl).mono ?_
      rintro e w6 ⟨rfl, hb6⟩
      have hb6' : Below wr.heap.size wr w6 := hb5.trans (hb6.mono hb5.size)
      cases h1 : tk Tp.wEnd (r', fine) with
      | true =>
        have HE := Lib.hid (nsx1_end HS.out (fun h => h.2 (Or.inl (tk_true h1).2.1)))
        have HF := Lib.hid (HEND.out w6 hb6' HE.out)
        clear h1
        go_wp2_with fail
        exact bodyPost_ret (v := .slice aa nn ac) (by simp [results, Tryz.results21, go_sem]) rfl HF.out
      | false =>
        have hst6 : RX w6 q ts (r', fine) := hst.below hb6'
        go_wp2_with fail
        refine (rsee_s hst6 Tp.wElse (by decide) _ rfl).mono ?_
        rintro e w7 ⟨rfl, hb7⟩
        have hb7' : Below wr.heap.size wr w7 := hb6'.trans (hb7.mono hb6'.size)
        cases h2 : tk Tp.wElse (r', fine) with
        | true =>
          have HE := Lib.hid (nsx1_end HS.out (fun h => h.2 (Or.inr (Or.inr (tk_true h2).2.1))))
          have HF := Lib.hid (HEND.out w7 hb7' HE.out)
          clear h1 h2
          go_wp2_with fail
          exact bodyPost_ret (v := .slice aa nn ac) (by simp [results, Tryz.results21, go_sem]) rfl HF.out
        | false =>
          have hst7 : RX w7 q ts (r', fine) := hst.below hb7'
          go_wp2_with fail
          refine (rsee_s hst7 Tp.wElsif (by decide) _ rfl).mono ?_
          rintro e w8 ⟨rfl, hb8⟩
          have hb8' : Below wr.heap.size wr w8 := hb7'.trans (hb8.mono hb7'.size)
          cases h3 : tk Tp.wElsif (r', fine) with
          | true =>
            have HE := Lib.hid (nsx1_end HS.out (fun h => h.2 (Or.inr (Or.inl (tk_true h3).2.1))))
            have HF := Lib.hid (HEND.out w8 hb8' HE.out)
            clear h1 h2 h3
            go_wp2_with fail
            exact bodyPost_ret (v := .slice aa nn ac) (by simp [results, Tryz.results21, go_sem]) rfl HF.out
          | false =>
            obtain ⟨g', z, hgg, hz, hyz⟩ := nsx1_on HS.out (fun h => by
              rcases h with h | h | h
              · exact of_decide_eq_false h1 ⟨rfl, h⟩
              · exact of_decide_eq_false h3 ⟨rfl, h⟩
              · exact of_decide_eq_false h2 ⟨rfl, h⟩)
            subst hgg
            have hst8 : RS w8 q ts r' fine := hst.below hb8'
            have HC := Lib.hid (HT.out g' (by omega) w8 r' z hst8 hz)
            have hln := HLN0.out
            have hzl := Nr.nsx_len g' 2 deep 0 [] (r', fine) r'.length (Nat.le_refl _) z hz
            obtain ⟨hnl, hrp⟩ := HRP0.out
            have HO8 := Lib.hid (owns_ext HO.out (Ext.below (b := q.rb) hb8') hpl)
            have HR8 := Lib.hid (hrp.mono' (w' := w8) (D' := fun b => w.heap.size ≤ b ∧ (Value.slice aa nn ac).ownBlock ≠ some b) (fun i hi hl => ⟨hb8'.block i hl, hi⟩))
            have HX8 := Lib.hid (HX.out.trans (Ext.below hb8'))
            have HYZ := Lib.hid hyz
            have HNL := Lib.hid hnl
            clear h1 h2 h3 HS hz hyz hnl hrp HRP HRP0 HLN0 HO HLN HEND hst hst5 hst6 hst7 hb5 hb6 hb6' hb7 hb7' hb8 hb8' HX
            go_wp2_with fail
            refine HC.out.mono ?_
            rintro e w9 ⟨code, pos, name, ia, va, ta, ea, tn, tc, en, ec, rfl, hv9, hst9, hx9⟩
            have HO9 := Lib.hid (owns_ext HO8.out hx9 hpl)
            have HR9 := Lib.hid (HR8.out.mono' (w' := w9) (D' := fun b => w.heap.size ≤ b ∧ (Value.slice aa nn ac).ownBlock ≠ some b) (fun i hi hl => ⟨hx9.block i hl (by omega), hi⟩))
            have HX9 := Lib.hid (HX8.out.trans hx9)
            have hsz8 := HX8.out.size
            have hsz9 := HX9.out.size
            have HV9 := Lib.hid hv9
            have HOL : Hid (∀ gq, (Value.slice aa nn ac).ownBlock = some gq → gq < w8.heap.size) := fun gq hgq => (HO8.out.lt gq hgq).2
            have hown9 := HO9.out
            clear hv9 hx9 HO8 HR8 HX8 hst8
            simp only [scells]
            go_wp2_with (at_builtin; refine wpList_append_where _ rfl _ _ 26 rfl w.heap.size 97 i3 (.agg #[.int .i64 0, .int .i64 0, .string ⟨#[]⟩, .pointer none, .pointer none, .slice none 0 0, .slice none 0 0]) 7 96 Tryz.underlying26 hi3 hz30 hz31 hz32 rfl (by decide) _ _ _ rfl (hown9.alloc _) ⟨w9.heap.size, 0, none⟩ 1 1 [.int .i64 code, .int .i64 pos, .string name, .pointer ia, .pointer va, .slice ta tn tc, .slice ea en ec] rfl rfl ?c1 ?c2 ?c3 ?c4 ?c5 ?_)
            case c1 => exact news7 w9 _ _ _ _ _ _ _ _
            case c2 => intro u hu; simp at hu; rcases hu with rfl | rfl | rfl | rfl | rfl | rfl | rfl <;> rfl
            case c3 => unfold maxLen; omega
            case c4 => omega
            case c5 => simp; omega
            · intro v' w10 hown10 hgrow10 hwhere10
              have hb10 : Below w.heap.size w9 w10 := ((Below.refl _ _).alloc hsz9 _).trans ((Below.refl _ _).grown hgrow10 (by simp; omega) (owns_row hown9))
              obtain ⟨na, nc, hvv⟩ := owns_shape hown10
              subst hvv
              have hst10 : RX w10 q ts z.2 := hst9.belowB hb10 hpl
              have HX10 := Lib.hid (HX9.out.trans' hb10)
              have HR10 : Hid (z.2.2 = fine → nn + 1 = (l ++ z.1).length ∧ RepS w10 (fun b => w.heap.size ≤ b ∧ (Value.slice na (nn + 1) nc).ownBlock ≠ some b) (l ++ z.1) (cs ++ [.int .i64 code, .int .i64 pos, .string name, .pointer ia, .pointer va, .slice ta tn tc, .slice ea en ec])) := fun hf => by
                have hv := HV9.out hf
                refine ⟨by rw [List.length_append, hv.len1, HNL.out], ?_⟩
                obtain ⟨c1, p1, n1, ia1, va1, ta1, ea1, tn1, tc1, en1, ec1, he1, hr1⟩ := hv
                have e2 : (scells (c1 : Int) (p1 : Int) (bs n1) (.pointer ia1) (.pointer va1) (.slice ta1 tn1 tc1) (.slice ea1 en1 ec1)).toList = [.int .i64 code, .int .i64 pos, .string name, .pointer ia, .pointer va, .slice ta tn tc, .slice ea en ec] := by
                  have := congrArg (fun v => match v with | Value.agg a => a.toList | _ => []) he1
                  simp only [scells] at this ⊢
                  exact this.symm
                rw [e2] at hr1
                have h2 : RepS w9 (fun b => w.heap.size ≤ b ∧ (Value.slice aa nn ac).ownBlock ≠ some b) z.1 [.int .i64 code, .int .i64 pos, .string name, .pointer ia, .pointer va, .slice ta tn tc, .slice ea en ec] := RepS.of_new hr1 hsz8 HOL.out
                have h3 := RepS.app _ _ _ _ (HR9.out.alloc (.cells #[.int .i64 code, .int .i64 pos, .string name, .pointer ia, .pointer va, .slice ta tn tc, .slice ea en ec] 97)) (h2.alloc (.cells #[.int .i64 code, .int .i64 pos, .string name, .pointer ia, .pointer va, .slice ta tn tc, .slice ea en ec] 97))
                exact h3.grown hgrow10 (by simpa using hwhere10)
              have HO10 := Lib.hid hown10
              clear hown9 hown10 hgrow10 hwhere10 hb10 hst9 HO9 HR9 HX9 HV9
              go_wp2_with fail
              refine (rmust_s hst10 Tp.mSemi (by decide) _ rfl).mono ?_
              rintro e w11 ⟨rfl, hst11, hx11⟩
              have HO11 := Lib.hid (owns_ext HO10.out hx11 hpl)
              have HX11 := Lib.hid (HX10.out.trans hx11)
              have HR11 : Hid ((mu Tp.mSemi z.2).2 = fine → nn + 1 = (l ++ z.1).length ∧ RepS w11 (fun b => w.heap.size ≤ b ∧ (Value.slice na (nn + 1) nc).ownBlock ≠ some b) (l ++ z.1) (cs ++ [.int .i64 code, .int .i64 pos, .string name, .pointer ia, .pointer va, .slice ta tn tc, .slice ea en ec])) := fun hf => by
                obtain ⟨e1, e2⟩ := HR10.out (mu_fine hf)
                exact ⟨e1, e2.mono' (fun i hi hl => ⟨hx11.block i hl (by omega), hi⟩)⟩
              have HLN : Hid ((mu Tp.mSemi z.2).2 = fine → nn + 1 + (mu Tp.mSemi z.2).1.length ≤ 1000) := fun hf => by
                have := mu_len hst10 (by decide) hf
                omega
              have hn1 : nn + 1 ≤ 1001 := by omega
              clear hst10 hx11 HO10 HR10 HX10 hln hzl
              go_wp2_with fail
              go_roundg g'
              case measure => omega
              case rel => exact ⟨l ++ z.1, _, _, na, nn + 1, nc, by omega, rfl, hn1, HLN, HO11, HR11, hst11, HX11, HYZ⟩
set_option maxRecDepth 100000 in
set_option maxHeartbeats 400000 in
theorem rstmts_deep {q : Rp} {ts : List Tok} {w : World} {r : List Tok} {deep : Nat} (h : RS w q ts r fine) (hd : 10 < deep) (hd2 : deep ≤ 11) :
    Calls Tryz.prog 21 #[.pointer (some ⟨q.rb, 0, none⟩), .int .i64 (deep : Int)] w fun e w' => SPost q ts w ([], (r, ((4 : Int), (at' r : Int)))) e w' := by
  go_enter Tryz.func21, Tryz.ntmps21
  go_wp2_with fail
  refine (rfails_any h 4).mono ?_
  rintro e w1 ⟨rfl, h1, hx1⟩
  rw [if_pos rfl] at h1
  have h1 : RS w1 q ts r ((4 : Int), (at' r : Int)) := h1
  have HX1 := Lib.hid hx1
  clear hx1
  go_wp2_with fail
  go_loopg [5] 0 (fun gk v wr => v = .slice none 0 0 ∧ RS wr q ts r ((4 : Int), (at' r : Int)) ∧ Hid (Ext q.rb w wr))
  case atStart => exact ⟨rfl, h1, HX1⟩
  case round =>
    obtain ⟨rfl, hst, HX⟩ := hrel
    go_wp2_with fail
    refine (rok_b hst (four_ne _)).mono ?_
    rintro e w2 ⟨rfl, hb2⟩
    have HF : Hid (SPost q ts w ([], (r, ((4 : Int), (at' r : Int)))) (.returned (.slice none 0 0)) w2) := ⟨none, 0, 0, rfl, fun hf => absurd hf (four_ne _), hst.below hb2, HX.out.trans (Ext.below hb2)⟩
    go_wp2_with fail
    exact bodyPost_ret (v := .slice none 0 0) (by simp [results, Tryz.results21, go_sem]) rfl HF.out
theorem rstmts_post {q : Rp} {ts : List Tok} {g : Nat} (hT : StR q ts g) : StsR q ts (g + 1) := by
  intro w r deep y h hd hy
  rw [nsx, if_pos rfl] at hy
  by_cases h10 : 10 < deep
  · rw [if_pos h10] at hy
    have e : fl 4 (r, fine) = (r, ((4 : Int), (at' r : Int))) := by simp [fl]
    rw [e] at hy
    rw [nsx1_end hy (fun h => four_ne _ h.1)]
    exact rstmts_deep h h10 hd
  · rw [if_neg h10] at hy
    exact rstmts_loop hT (s0 := (r, fine)) h (by omega) hy
end Go.Proofs.YtfcdphgggdioeaaGreatDoor
/- The document's reader: what stands behind an if. -/
namespace Go.Proofs.YtfcdphgggdioeaaGreatDoor
open Go.RowKit
open Tp (Tok hd tx at' stp X S)
open Nr (Fl fine Sx tk tkS fl mu nm nu nms nex naft nval nsx rs3 blk)
structure X2 (b c : Nat) (w w' : World) : Prop where
  os : w'.os = w.os
  tape : w'.tape = w.tape
  output : w'.output = w.output
  size : w.heap.size ≤ w'.heap.size
  block : ∀ k, k < w.heap.size → k ≠ b → k ≠ c → w'.heap[k]? = w.heap[k]?
theorem X2.of {b c : Nat} {w w' : World} (h : Ext b w w') : X2 b c w w' := ⟨h.os, h.tape, h.output, h.size, fun k h1 h2 _ => h.block k h1 h2⟩
theorem X2.ext {b c : Nat} {w w1 w2 : World} (h : X2 b c w w1) (k : Ext b w1 w2) : X2 b c w w2 := ⟨k.os.trans h.os, k.tape.trans h.tape, k.output.trans h.output, Nat.le_trans h.size k.size, fun i hi h1 h2 => (k.block i (Nat.lt_of_lt_of_le hi h.size) h1).trans (h.block i hi h1 h2)⟩
theorem X2.set {b c : Nat} {w w' : World} (h : X2 b c w w') (j : Nat) (u : Value) : X2 b c w (w'.setCell ⟨c, j, none⟩ u) :=
  ⟨h.os, h.tape, h.output, by simpa using h.size, fun k hk h1 h2 => by rw [Below.heap_setCell _ _ _ _ (by simpa using h2)]; exact h.block k hk h1 h2⟩
theorem X2.back {b c : Nat} {w0 w w' : World} (h : Ext b w0 w) (k : X2 b c w w') (hc : w0.heap.size ≤ c) : Ext b w0 w' :=
  ⟨k.os.trans h.os, k.tape.trans h.tape, k.output.trans h.output, Nat.le_trans h.size k.size, fun i hi h1 => (k.block i (Nat.lt_of_lt_of_le hi h.size) h1 (by omega)).trans (h.block i hi h1)⟩
theorem X2.far {b c d : Nat} {w0 w w' : World} (h : X2 b c w0 w) (k : X2 b d w w') (hd : w0.heap.size ≤ d) : X2 b c w0 w' :=
  ⟨k.os.trans h.os, k.tape.trans h.tape, k.output.trans h.output, Nat.le_trans h.size k.size, fun i hi h1 h2 => (k.block i (Nat.lt_of_lt_of_le hi h.size) h1 (by omega)).trans (h.block i hi h1 h2)⟩
theorem fld2 {w w1 : World} {q : Rp} {ts : List Tok} {s : Sx} {sb i : Nat} {v : Value} {cs : Array Value} {t : TypeId} (hst : RX w1 q ts s) (hx : X2 q.rb sb w w1) (hb : w1.heap[sb]? = some (.cells cs t (0, 0))) (hq : q.rb < sb) :
    RX (w1.setCell ⟨sb, i, none⟩ v) q ts s ∧ X2 q.rb sb w (w1.setCell ⟨sb, i, none⟩ v) ∧ (w1.setCell ⟨sb, i, none⟩ v).heap[sb]? = some (.cells (cs.setIfInBounds i v) t (0, 0)) :=
  ⟨hst.belowB (below_set (Below.refl _ _) (Nat.le_refl _) i v) hq, hx.set i v, set_blk i v hb⟩
def KPost (q : Rp) (ts : List Tok) (w : World) (sb a : Nat) (y : List S × Sx) (e : Ending) (w' : World) : Prop :=
  e = .returned (.tuple #[]) ∧ ∃ (va ta ea : Option Addr) (tn tc en ec : Nat), w'.heap[sb]? = some (.cells (scells 2 a ⟨#[]⟩ (.pointer none) (.pointer va) (.slice ta tn tc) (.slice ea en ec)) 97 (0, 0)) ∧
    (y.2.2 = fine → VS w.heap.size y.1 (.agg (scells 2 a ⟨#[]⟩ (.pointer none) (.pointer va) (.slice ta tn tc) (.slice ea en ec))) w') ∧ RX w' q ts y.2 ∧ X2 q.rb sb w w'
def RstR (q : Rp) (ts : List Tok) (g : Nat) : Prop := ∀ (w : World) (r : List Tok) (deep a sb : Nat) (c0 : Int) (y : List S × Sx), RS w q ts r fine → w.heap[sb]? = some (.cells (scells c0 a ⟨#[]⟩ (.pointer none) (.pointer none) (.slice none 0 0) (.slice none 0 0)) 97 (0, 0)) → q.rb < sb → deep ≤ 10 → nsx g 3 deep a [] (r, fine) = some y →
  Calls Tryz.prog 66 #[.pointer (some ⟨q.rb, 0, none⟩), .pointer (some ⟨sb, 0, none⟩), .int .i64 (deep : Int)] w fun e w' => KPost q ts w sb a y e w'
theorem nsx3 {g deep a : Nat} {r : List Tok} {y : List S × Sx} (h : nsx (g + 1) 3 deep a [] (r, fine) = some y) : ∃ x z, nval g (r, fine) = some x ∧ blk g deep (mu Tp.wThen x.2) = some z ∧ rs3 g deep a x.1 z.1 z.2 = some y := by
  rw [nsx, if_neg (by omega), if_neg (by omega), if_neg (by omega)] at h
  obtain ⟨x, h1, h2⟩ := bind_some' h
  obtain ⟨z, h3, h4⟩ := bind_some' h2
  exact ⟨x, z, h1, h3, h4⟩
theorem nsx0_deep {g d : Nat} {r : List Tok} {z : List S × Sx} (h : nsx g 0 d 0 [] (r, fine) = some z) (hf : z.2.2 = fine) : d ≤ 10 := by
  cases g with
  | zero => cases h
  | succ g =>
    rw [nsx, if_pos rfl] at h
    by_cases hd : 10 < d
    · rw [if_pos hd] at h
      have e : fl 4 (r, fine) = (r, ((4 : Int), (at' r : Int))) := by simp [fl]
      rw [e] at h
      rw [nsx1_end h (fun h => four_ne _ h.1)] at hf
      exact absurd hf (four_ne _)
    · omega
theorem atCells {W : World} {q : Rp} {ts : List Tok} {s : Sx} (h : RX W q ts s) : ∃ (i n c : Nat), W.cell? ⟨q.rb, 0, none⟩ = some (.slice (some ⟨q.tb, i, none⟩) n c) ∧ W.cell? ⟨q.tb, i + 2, none⟩ = some (.int .i64 (at' s.1 : Int)) ∧ (0 : Int) < n := by
  obtain ⟨h1, h2, h3, h4⟩ := h.hd
  exact ⟨(ts.length - s.1.length) * 3, s.1.length, q.cap - (ts.length - s.1.length), h.c0, (h.toks _ _ h1).c2, by omega⟩
theorem VX.move {B : Nat} {l : List X} {v : Value} {w w' : World} (h : VX B l v w) (hw : ∀ b, B ≤ b → b < w.heap.size → w'.heap[b]? = w.heap[b]?) : VX B l v w' := RepL.mono (fun b hb hl => ⟨hw b hb hl, hb⟩) (SizeOf.sizeOf l) l _ (Nat.le_refl _) h
theorem VO.move {B : Nat} {l : List S} {v : Value} {w w' : World} (h : VO B l v w) (hw : ∀ b, B ≤ b → b < w.heap.size → w'.heap[b]? = w.heap[b]?) : VO B l v w' := by
  obtain ⟨cs, h1, h2⟩ := h
  exact ⟨cs, h1.mono' (fun b hb hl => ⟨hw b hb hl, hb⟩), h2.mono (fun b hb hl => ⟨hw b hb hl, hb⟩)⟩
theorem VX.vp {B : Nat} {l : List X} {v : Value} {w : World} (h : VX B l v w) : VP B l v w := ⟨[v], rfl, h, by simp⟩
theorem VP.nil (B : Nat) (w : World) : VP B [] (.pointer none) w := ⟨[], rfl, by rw [RepL], by simp⟩
set_option maxRecDepth 100000 in
set_option maxHeartbeats 4000000 in
theorem rrest_post {q : Rp} {ts : List Tok} {g : Nat} (hS : StsR q ts g) (hK : RstR q ts g) : RstR q ts (g + 1) := by
  intro w r deep a sb c0 y h hk0 hqs hd hy
  obtain ⟨x, z, hx, hz, hyz⟩ := nsx3 hy
  have hpl := lt_of_cell h.c0
  have hsl := lt_blk hk0
  have hdi : (deep : Int) ≤ 10 := by omega
  have HS : Hid (∀ W r' z, RS W q ts r' fine → nsx g 0 (deep + 1) 0 [] (r', fine) = some z → Calls Tryz.prog 21 #[.pointer (some ⟨q.rb, 0, none⟩), .int .i64 ((deep : Int) + 1)] W fun e w' => SPost q ts W z e w') := fun W r' z hW hz => hS W r' (deep + 1) z hW (by omega) hz
  have HK : Hid (deep + 1 ≤ 10 → ∀ W r' a' sb' c' z, RS W q ts r' fine → W.heap[sb']? = some (.cells (scells c' a' ⟨#[]⟩ (.pointer none) (.pointer none) (.slice none 0 0) (.slice none 0 0)) 97 (0, 0)) → q.rb < sb' → nsx g 3 (deep + 1) a' [] (r', fine) = some z → Calls Tryz.prog 66 #[.pointer (some ⟨q.rb, 0, none⟩), .pointer (some ⟨sb', 0, none⟩), .int .i64 ((deep : Int) + 1)] W fun e w' => KPost q ts W sb' a' z e w') := fun hd1 W r' a' sb' c' z hW h1 h2 hz => hK W r' (deep + 1) a' sb' c' z hW h1 h2 hd1 hz
  have HV := Lib.hid (rvalue_s (s := (r, fine)) h g x hx)
  have HZ := Lib.hid hz
  have HY := Lib.hid hyz
  clear hS hK hy hx hz hyz
  go_enter Tryz.func66, Tryz.ntmps66
  go_wp2_with fail
  refine HV.out.mono ?_
  rintro e w1 ⟨p, rfl, hv1, hst1, hx1⟩
  have hk1 : w1.heap[sb]? = some (.cells #[.int .i64 c0, .int .i64 (a : Int), .string ⟨#[]⟩, .pointer none, .pointer none, .slice none 0 0, .slice none 0 0] 97 (0, 0)) := (hx1.block sb hsl (by omega)).trans hk0
  have c00 : w1.cell? ⟨sb, 0, none⟩ = some (.int .i64 c0) := cell_blk hk1
  have c04 : w1.cell? ⟨sb, 4, none⟩ = some (.pointer none) := cell_blk hk1
  have z00 : w1.frozen? ⟨sb, 0, none⟩ = false := frozen_blk hk1
  have z04 : w1.frozen? ⟨sb, 4, none⟩ = false := frozen_blk hk1
  obtain ⟨hst2a, hx2a, hk2a⟩ := fld2 (i := 0) (v := .int .i64 2) hst1 (X2.of hx1) hk1 hqs
  obtain ⟨hst2, hx2, hk2⟩ := fld2 (i := 4) (v := .pointer p) hst2a hx2a hk2a hqs
  have hk2 : ((w1.setCell ⟨sb, 0, none⟩ (.int .i64 2)).setCell ⟨sb, 4, none⟩ (.pointer p)).heap[sb]? = some (.cells #[.int .i64 2, .int .i64 (a : Int), .string ⟨#[]⟩, .pointer none, .pointer p, .slice none 0 0, .slice none 0 0] 97 (0, 0)) := hk2
  have HV2 : Hid (x.2.2 = fine → VX w.heap.size x.1 (.pointer p) ((w1.setCell ⟨sb, 0, none⟩ (.int .i64 2)).setCell ⟨sb, 4, none⟩ (.pointer p))) := fun hf => VX.ext (b := sb) (((Ext.refl sb w1).set 0 _).set 4 _) hsl (hv1 hf)
  clear hst1 hx1 hk1 hst2a hx2a hk2a hv1 HV h
  go_wp2_with fail
  clear c00 c04 z00 z04
  generalize (w1.setCell ⟨sb, 0, none⟩ (.int .i64 2)).setCell ⟨sb, 4, none⟩ (.pointer p) = w2 at *
  refine (rmust_s hst2 Tp.wThen (by decide) _ rfl).mono ?_
  rintro e w3 ⟨rfl, hst3, hx3⟩
  have hk3 := (hx3.block sb (lt_blk hk2) (by omega)).trans hk2
  have hx3' := hx2.ext hx3
  have HV3 : Hid (x.2.2 = fine → VX w.heap.size x.1 (.pointer p) w3) := fun hf => VX.ext hx3 hpl (HV2.out hf)
  have HMF : Hid ((mu Tp.wThen x.2).2 = fine → x.2.2 = fine) := fun hf => mu_fine hf
  clear hst2 hx2 hk2 hx3 HV2
  generalize mu Tp.wThen x.2 = s2 at *
  obtain ⟨r2, b2⟩ := s2
  have hst3 : RS w3 q ts r2 b2 := hst3
  by_cases hf2 : b2 = fine
  rotate_left
  · have hzz : z = ([], (r2, b2)) := by
      have := HZ.out
      unfold blk at this
      rw [if_neg hf2] at this
      exact (Option.some.inj this).symm
    have hyy : y = ([⟨2, a, [], [], x.1, [], []⟩], (r2, b2)) := by
      have := HY.out
      rw [hzz] at this
      unfold rs3 at this
      have t1 : ∀ m, tk m (r2, b2) = false := fun m => decide_eq_false (fun h => hf2 h.1)
      rw [t1, t1] at this
      exact (Option.some.inj this).symm
    have HT : Hid (∀ m, tk m (r2, b2) = false) := fun m => decide_eq_false (fun h => hf2 h.1)
    have HYY := Lib.hid hyy
    have HB := Lib.hid (rok_b hst3 hf2)
    have HNF := Lib.hid hf2
    clear hzz hyy hf2 HZ HY
    go_wp2_with fail
    refine HB.out.mono ?_
    rintro e w4 ⟨rfl, hb4⟩
    have hst4 : RX w4 q ts (r2, b2) := hst3.below hb4
    have hk4 := (hb4.block sb (lt_blk hk3)).trans hk3
    have hx4 := hx3'.ext (Ext.below hb4)
    obtain ⟨i, n, c, d0, d2, hn0⟩ := atCells hst4
    have hq4 := lt_of_cell d0
    clear HB hb4 hst3 hk3 hx3'
    go_wp2_with fail
    clear d0 d2
    refine (rtake_s hst4 Tp.wElsif (by decide) _ rfl).mono ?_
    rintro e w5 ⟨rfl, hst5, hx5⟩
    rw [HT.out]
    rw [tk_false (HT.out _)] at hst5
    have hk5 := (hx5.block sb (lt_blk hk4) (by omega)).trans hk4
    have hx5' := hx4.ext hx5
    clear hst4 hk4 hx4 hx5
    go_wp2_with fail
    refine (rtake_s hst5 Tp.wElse (by decide) _ rfl).mono ?_
    rintro e w6 ⟨rfl, hst6, hx6⟩
    rw [HT.out]
    rw [tk_false (HT.out _)] at hst6
    have HF : Hid (KPost q ts w sb a y (.returned (.tuple #[])) w6) := by
      rw [HYY.out]
      exact ⟨rfl, p, none, none, 0, 0, 0, 0, (hx6.block sb (lt_blk hk5) (by omega)).trans hk5, fun hf => absurd hf HNF.out, hst6, hx5'.ext hx6⟩
    clear hst5 hk5 hx5' hx6 hst6
    go_wp2_with fail
    exact bodyPost_end (results_none rfl _ _ _) rfl HF.out
  · subst hf2
    have hz : nsx g 0 (deep + 1) 0 [] (r2, fine) = some z := by
      have := HZ.out
      unfold blk at this
      rw [if_pos rfl] at this
      exact this
    have HXF : Hid (x.2.2 = fine) := HMF.out rfl
    have HD1 : Hid (z.2.2 = fine → deep + 1 ≤ 10) := fun hf => nsx0_deep hz hf
    have HC := Lib.hid (fun W hW => HS.out W r2 z hW hz)
    clear hz HZ
    go_wp2_with fail
    refine (rok_f hst3).mono ?_
    rintro e w4 ⟨rfl, hb4⟩
    have hst4 : RS w4 q ts r2 fine := hst3.below hb4
    have hk4 := (hb4.block sb (lt_blk hk3)).trans hk3
    have hx4 := hx3'.ext (Ext.below hb4)
    have HV4 := Lib.hid (VX.ext (b := q.rb) (Ext.below hb4) hpl (HV3.out HXF.out))
    have hsz4 := hx4.size
    clear hb4 hst3 hk3 hx3' HV3 HMF HXF
    go_wp2_with fail
    refine (HC.out w4 hst4).mono ?_
    rintro e w5 ⟨ta, tn, tc, rfl, hl5, hst5, hx5⟩
    have hk5 := (hx5.block sb (lt_blk hk4) (by omega)).trans hk4
    have hx5' := hx4.ext hx5
    have HV5 := Lib.hid (VX.ext hx5 hpl HV4.out)
    have c05 : w5.cell? ⟨sb, 5, none⟩ = some (.slice none 0 0) := cell_blk hk5
    have z05 : w5.frozen? ⟨sb, 5, none⟩ = false := frozen_blk hk5
    obtain ⟨hst6, hx6, hk6⟩ := fld2 (i := 5) (v := .slice ta tn tc) hst5 hx5' hk5 hqs
    have hk6 : (w5.setCell ⟨sb, 5, none⟩ (.slice ta tn tc)).heap[sb]? = some (.cells #[.int .i64 2, .int .i64 (a : Int), .string ⟨#[]⟩, .pointer none, .pointer p, .slice ta tn tc, .slice none 0 0] 97 (0, 0)) := hk6
    have HV6 := Lib.hid (VX.ext (b := sb) ((Ext.refl sb w5).set 5 (.slice ta tn tc)) hsl HV5.out)
    have HL6 : Hid (z.2.2 = fine → VO w.heap.size z.1 (.slice ta tn tc) (w5.setCell ⟨sb, 5, none⟩ (.slice ta tn tc))) := fun hf => VO.ext (b := sb) ((Ext.refl sb w5).set 5 _) hsl ((hl5 hf).vo.base hsz4)
    obtain ⟨i, n, c, d0, d2, hn0⟩ := atCells hst6
    have hq6 := lt_of_cell d0
    clear hst4 hk4 hx4 hst5 hx5 hx5' hk5 hl5 HV4 HV5 HC
    go_wp2_with fail
    clear c05 z05 d0 d2
    generalize w5.setCell ⟨sb, 5, none⟩ (.slice ta tn tc) = w6 at *
    refine (rtake_s hst6 Tp.wElsif (by decide) _ rfl).mono ?_
    rintro e w7 ⟨rfl, hst7, hx7⟩
    have hk7 := (hx7.block sb (lt_blk hk6) (by omega)).trans hk6
    have hx7' := hx6.ext hx7
    have HV7 := Lib.hid (VX.ext hx7 hpl HV6.out)
    have HL7 : Hid (z.2.2 = fine → VO w.heap.size z.1 (.slice ta tn tc) w7) := fun hf => VO.ext hx7 hpl (HL6.out hf)
    have hsz7 := hx7'.size
    have hlt7 := lt_blk hk7
    clear hst6 hx6 hk6 hx7 HV6 HL6
    cases hei : tk Tp.wElsif z.2 with
    | true =>
      obtain ⟨hzf, _, htS⟩ := tk_true hei
      rw [htS] at hst7
      have hst7 : RS w7 q ts (stp z.2.1) fine := hst7
      have hd1 := HD1.out hzf
      have hy2 := HY.out
      unfold rs3 at hy2
      rw [if_pos hei, htS] at hy2
      obtain ⟨u, hu, hyu⟩ := bind_some' hy2
      have HYU : Hid (y = ([⟨2, a, [], [], x.1, z.1, u.1⟩], u.2)) := (Option.some.inj hyu).symm
      have HZF := Lib.hid hzf
      have b0 : Below w7.heap.size w7 (w7.alloc (.cells (scells 0 (at' z.2.1) ⟨#[]⟩ (.pointer none) (.pointer none) (.slice none 0 0) (.slice none 0 0)) 97)) := (Below.refl _ _).alloc (Nat.le_refl _) _
      have k8 := new_blk w7 (.cells (scells 0 (at' z.2.1) ⟨#[]⟩ (.pointer none) (.pointer none) (.slice none 0 0) (.slice none 0 0)) 97)
      have hst8 := hst7.below b0
      have HC := Lib.hid (HK.out hd1 _ (stp z.2.1) (at' z.2.1) w7.heap.size 0 u hst8 k8 (by omega) hu)
      have hk8 := (b0.block sb hlt7).trans hk7
      have hx8 := hx7'.ext (Ext.below b0)
      have HV7' := Lib.hid HV7.out
      have HL7' := Lib.hid (HL7.out hzf)
      have HB0 : Hid (∀ i, i < w7.heap.size → (w7.alloc (.cells (scells 0 (at' z.2.1) ⟨#[]⟩ (.pointer none) (.pointer none) (.slice none 0 0) (.slice none 0 0)) 97)).heap[i]? = w7.heap[i]?) := fun i hi => b0.block i hi
      obtain ⟨xb, hxb⟩ : ∃ xb, xb = w7.heap.size := ⟨_, rfl⟩
      clear hei hzf htS hy2 hu hyu hst7 hk7 hx7' HV7 HL7 hd1 HY HD1
      go_wp2_with fail
      simp only [scells] at HC b0 k8 hk8 hx8 hst8 HB0
      generalize w7.alloc (.cells #[.int .i64 0, .int .i64 (at' z.2.1 : Int), .string ⟨#[]⟩, .pointer none, .pointer none, .slice none 0 0, .slice none 0 0] 97) = w8 at *
      have HXB := Lib.hid hxb
      rw [← hxb] at k8 HC ⊢
      have hwx : w.heap.size ≤ xb := by omega
      have hsx : sb < xb := by omega
      clear b0 hxb
      refine HC.out.mono ?_
      rintro e w9 ⟨rfl, va9, ta9, ea9, tn9, tc9, en9, ec9, hk9x, hv9, hst9, hx9⟩
      have hk9x : w9.heap[xb]? = some (.cells #[.int .i64 2, .int .i64 (at' z.2.1 : Int), .string ⟨#[]⟩, .pointer none, .pointer va9, .slice ta9 tn9 tc9, .slice ea9 en9 ec9] 97 (0, 0)) := hk9x
      have hk9 := (hx9.block sb (lt_blk hk8) (by omega) (by omega)).trans hk8
      have hx9' := hx8.far hx9 hwx
      have hsz8 := hx8.size
      have hx8l := lt_blk k8
      have HMV : Hid (∀ b, w.heap.size ≤ b → b < w7.heap.size → w9.heap[b]? = w7.heap[b]?) := fun b h1 h2 => by
        have := HXB.out
        exact (hx9.block b (by omega) (by omega) (by omega)).trans (HB0.out b h2)
      have HV9 := Lib.hid (VX.move HV7'.out HMV.out)
      have HL9 := Lib.hid (VO.move HL7'.out HMV.out)
      have HU9 : Hid (u.2.2 = fine → VS w.heap.size u.1 (.agg (scells (2 : Nat) (at' z.2.1 : Nat) (bs []) (.pointer none) (.pointer va9) (.slice ta9 tn9 tc9) (.slice ea9 en9 ec9))) w9) := fun hf => (hv9 hf).base hsz8
      have hsz9 := hx9'.size
      have e0 : w9.cell? ⟨xb, 0, none⟩ = some (.int .i64 2) := cell_blk hk9x
      have e1 : w9.cell? ⟨xb, 1, none⟩ = some (.int .i64 (at' z.2.1 : Int)) := cell_blk hk9x
      have e2 : w9.cell? ⟨xb, 2, none⟩ = some (.string ⟨#[]⟩) := cell_blk hk9x
      have e3 : w9.cell? ⟨xb, 3, none⟩ = some (.pointer none) := cell_blk hk9x
      have e4 : w9.cell? ⟨xb, 4, none⟩ = some (.pointer va9) := cell_blk hk9x
      have e5 : w9.cell? ⟨xb, 5, none⟩ = some (.slice ta9 tn9 tc9) := cell_blk hk9x
      have e6 : w9.cell? ⟨xb, 6, none⟩ = some (.slice ea9 en9 ec9) := cell_blk hk9x
      have c06 : w9.cell? ⟨sb, 6, none⟩ = some (.slice none 0 0) := cell_blk hk9
      have z06 : w9.frozen? ⟨sb, 6, none⟩ = false := frozen_blk hk9
      have b10 : Below w9.heap.size w9 (w9.alloc (.cells (scells (2 : Nat) (at' z.2.1 : Nat) (bs []) (.pointer none) (.pointer va9) (.slice ta9 tn9 tc9) (.slice ea9 en9 ec9)) 97)) := (Below.refl _ _).alloc (Nat.le_refl _) _
      have hst10 := hst9.below b10
      have hk10 := (b10.block sb (lt_blk hk9)).trans hk9
      obtain ⟨hst11, hx11, hk11⟩ := fld2 (i := 6) (v := .slice (some ⟨w9.heap.size, 0, none⟩) 1 1) hst10 (hx9'.ext (Ext.below b10)) hk10 hqs
      have HF : Hid (KPost q ts w sb a y (.returned (.tuple #[])) ((w9.alloc (.cells (scells (2 : Nat) (at' z.2.1 : Nat) (bs []) (.pointer none) (.pointer va9) (.slice ta9 tn9 tc9) (.slice ea9 en9 ec9)) 97)).setCell ⟨sb, 6, none⟩ (.slice (some ⟨w9.heap.size, 0, none⟩) 1 1))) := by
        rw [HYU.out]
        refine ⟨rfl, p, ta, some ⟨w9.heap.size, 0, none⟩, tn, tc, 1, 1, hk11, fun hf => ?_, hst11, hx11⟩
        have hmv : ∀ b, w.heap.size ≤ b → b < w9.heap.size → ((w9.alloc (.cells (scells (2 : Nat) (at' z.2.1 : Nat) (bs []) (.pointer none) (.pointer va9) (.slice ta9 tn9 tc9) (.slice ea9 en9 ec9)) 97)).setCell ⟨sb, 6, none⟩ (.slice (some ⟨w9.heap.size, 0, none⟩) 1 1)).heap[b]? = w9.heap[b]? := fun b h1 h2 => by
          rw [Below.heap_setCell _ _ _ _ (by simp; omega)]
          exact b10.block b h2
        have hu := HU9.out hf
        have ho := VO.one hu hsz9 hu.len1
        exact VS.mk' (name := []) (VP.nil _ _) (VX.move HV9.out hmv).vp (VO.move HL9.out hmv) (VO.ext (b := sb) ((Ext.refl sb _).set 6 _) hsl ho)
      have HF2 : Hid (KPost q ts w sb a y (.returned (.tuple #[])) ((w9.alloc (.cells #[.int .i64 2, .int .i64 (at' z.2.1 : Int), .string ⟨#[]⟩, .pointer none, .pointer va9, .slice ta9 tn9 tc9, .slice ea9 en9 ec9] 97)).setCell ⟨sb, 6, none⟩ (.slice (some ⟨w9.heap.size, 0, none⟩) 1 1))) := HF.out
      have hs9l := lt_blk hk9
      have hx9l := lt_blk hk9x
      rw [World.setCell_alloc_past _ _ _ _ hs9l] at HF2
      clear hk9x hv9 hst9 hx9 hx9' hst10 hst11 hx11 hk11 hk10 b10 HMV HV9 HL9 HU9 hk9 hk8 hst8 hx8 k8 HC HV7' HL7' HB0 HF
      go_wp2_with fail
      exact bodyPost_end (results_none rfl _ _ _) rfl HF2.out
    | false =>
      rw [tk_false hei] at hst7
      go_wp2_with fail
      refine (rtake_s hst7 Tp.wElse (by decide) _ rfl).mono ?_
      rintro e w8 ⟨rfl, hst8, hx8⟩
      have hk8 := (hx8.block sb (lt_blk hk7) (by omega)).trans hk7
      have hx8' := hx7'.ext hx8
      have HV8 := Lib.hid (VX.ext hx8 hpl HV7.out)
      have HL8 : Hid (z.2.2 = fine → VO w.heap.size z.1 (.slice ta tn tc) w8) := fun hf => VO.ext hx8 hpl (HL7.out hf)
      have hsz8 := hx8'.size
      clear hst7 hk7 hx7' hx8 HV7 HL7
      cases hel : tk Tp.wElse z.2 with
      | false =>
        rw [tk_false hel] at hst8
        have HYU : Hid (y = ([⟨2, a, [], [], x.1, z.1, []⟩], z.2)) := by
          have := HY.out
          unfold rs3 at this
          rw [if_neg (by rw [hei]; simp), if_neg (by rw [hel]; simp)] at this
          exact (Option.some.inj this).symm
        have HF : Hid (KPost q ts w sb a y (.returned (.tuple #[])) w8) := by
          rw [HYU.out]
          exact ⟨rfl, p, ta, none, tn, tc, 0, 0, hk8, fun hf => VS.mk' (name := []) (VP.nil _ _) HV8.out.vp (HL8.out hf) (VO.nil _ _), hst8, hx8'⟩
        clear hk8 hst8 hx8' hei hel
        go_wp2_with fail
        exact bodyPost_end (results_none rfl _ _ _) rfl HF.out
      | true =>
        obtain ⟨hzf, _, htS⟩ := tk_true hel
        rw [htS] at hst8
        have hst8 : RS w8 q ts (stp z.2.1) fine := hst8
        have hy2 := HY.out
        unfold rs3 at hy2
        rw [if_neg (by rw [hei]; simp), if_pos hel, htS] at hy2
        obtain ⟨u, hu, hyu⟩ := bind_some' hy2
        have HYU : Hid (y = ([⟨2, a, [], [], x.1, z.1, u.1⟩], u.2)) := (Option.some.inj hyu).symm
        have HC := Lib.hid (HS.out w8 (stp z.2.1) u hst8 hu)
        have HL8' := Lib.hid (HL8.out hzf)
        clear hei hel hzf htS hy2 hu hyu hst8 HY HL8
        go_wp2_with fail
        refine HC.out.mono ?_
        rintro e w9 ⟨ea, en, ec, rfl, hl9, hst9, hx9⟩
        have hk9 := (hx9.block sb (lt_blk hk8) (by omega)).trans hk8
        have hx9' := hx8'.ext hx9
        have HV9 := Lib.hid (VX.ext hx9 hpl HV8.out)
        have HL9 := Lib.hid (VO.ext hx9 hpl HL8'.out)
        have c06 : w9.cell? ⟨sb, 6, none⟩ = some (.slice none 0 0) := cell_blk hk9
        have z06 : w9.frozen? ⟨sb, 6, none⟩ = false := frozen_blk hk9
        obtain ⟨hst10, hx10, hk10⟩ := fld2 (i := 6) (v := .slice ea en ec) hst9 hx9' hk9 hqs
        have HF : Hid (KPost q ts w sb a y (.returned (.tuple #[])) (w9.setCell ⟨sb, 6, none⟩ (.slice ea en ec))) := by
          rw [HYU.out]
          refine ⟨rfl, p, ta, ea, tn, tc, en, ec, hk10, fun hf => ?_, hst10, hx10⟩
          exact VS.mk' (name := []) (VP.nil _ _) (VX.ext (b := sb) ((Ext.refl sb _).set 6 _) hsl HV9.out).vp (VO.ext (b := sb) ((Ext.refl sb _).set 6 _) hsl HL9.out) (VO.ext (b := sb) ((Ext.refl sb _).set 6 _) hsl ((hl9 hf).vo.base hsz8))
        clear hl9 hst9 hx9 hx9' hk9 hst10 hx10 hk10 HV9 HL9
        go_wp2_with fail
        exact bodyPost_end (results_none rfl _ _ _) rfl HF.out
end Go.Proofs.YtfcdphgggdioeaaGreatDoor
