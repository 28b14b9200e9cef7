import Derived.Test.YtkpapioaijmidaaGreatDoorKEx
/- The document's reader: ONEs. -/
namespace Go.Proofs.YtkpapioaijmidaaGreatDoor
open Go.RowKit
open Tp (Tok hd tx at' stp X)
open Nr (Fl fine Sx tk tkS fl mu nm nu nms nex naft)
theorem RefPost.r {q : Rp} {ts : List Tok} {w : World} {pos : Nat} {y : List X × Sx} {e : Ending} {w' : World} (h : RefPost q ts w pos y e w') : RPost q ts w y e w' := by
  obtain ⟨b, code, m, n, la, aa, an, ac, left, args, h1, h2, h3, h4, h5, h6, h7, h8⟩ := h
  exact ⟨_, h1, h6, h7, h8⟩
theorem nex5 (g ones : Nat) (r : List Tok) : nex (g + 1) 5 ones 0 [] (r, fine) = if 10 < ones then some ([], (r, ((4 : Int), (at' r : Int))))
    else if (hd r).kind = 2 then some ([⟨1, at' r, (nu Tp.top (r, fine)).1, [], [], [], [], [], []⟩], (nu Tp.top (r, fine)).2)
    else if tx r = Tp.mMinus then (nex g 5 (ones + 1) 0 [] (stp r, fine)).map fun y => ([⟨4, at' r, 0, [], [], Tp.mMinus, y.1, [], []⟩], y.2)
    else if tx r = Tp.wNot then (nex g 5 (ones + 1) 0 [] (stp r, fine)).map fun y => ([⟨4, at' r, 0, [], [], Tp.wNot, y.1, [], []⟩], y.2)
    else if tx r = Tp.mLp then (nex g 0 (ones + 1) 0 [] (stp r, fine)).map fun y => (y.1, mu Tp.mRp y.2)
    else nex g 6 ones 0 [] (r, fine) := by
  rw [nex]; simp [fl]
theorem map_some' {α β : Type} {N : Option α} {F : α → β} {y : β} (h : N.map F = some y) : ∃ z, N = some z ∧ y = F z := by
  cases N with
  | none => cases h
  | some z => exact ⟨z, rfl, (Option.some.inj h).symm⟩
theorem four_ne (p : Nat) : ¬ (((4 : Int), (p : Int)) : Fl) = fine := Nr.flt_ne (4, p)
set_option maxRecDepth 100000 in
set_option maxHeartbeats 400000 in
theorem rone_deep {q : Rp} {ts : List Tok} {w : World} {r : List Tok} {ones : Nat} (h : RS w q ts r fine) (ho : ones ≤ 11) (hd10 : 10 < ones) :
    Calls Tryz.prog 84 #[.pointer (some ⟨q.rb, 0, none⟩), .int .i64 (ones : Int)] w fun e w' => RPost q ts w ([], (r, ((4 : Int), (at' r : Int)))) e w' := by
  go_enter Tryz.func84, Tryz.ntmps84
  go_wp2_with fail
  refine (rfails_any h 4).mono ?_
  rintro e w1 ⟨rfl, h1, hx1⟩
  rw [if_pos rfl] at h1
  have h1 : RS w1 q ts r ((4 : Int), (at' r : Int)) := h1
  go_wp2_with fail
  refine (rok_b h1 (four_ne _)).mono ?_
  rintro e w2 ⟨rfl, hb2⟩
  go_wp2_with fail
  exact bodyPost_ret (v := .pointer none) (by simp [results, Tryz.results84, go_sem]) rfl ⟨none, rfl, fun hf => absurd hf (four_ne _), h1.below hb2, hx1.trans (Ext.below hb2)⟩
set_option maxRecDepth 100000 in
set_option maxHeartbeats 4000000 in
theorem rone_post {q : Rp} {ts : List Tok} {g : Nat} (hL : LevR q ts g) (hO : OneR q ts g) (hR : RefR q ts g) : OneR q ts (g + 1) := by
  intro w r ones y h ho hy
  rw [nex5] at hy
  by_cases hd10 : 10 < ones
  · rw [if_pos hd10] at hy
    obtain rfl := Option.some.inj hy
    exact rone_deep h ho hd10
  rw [if_neg hd10] at hy
  have hpl := lt_of_cell h.c0
  have HWR : Hid (IntKind.i64.wrap ((ones : Int) + 1) = (ones : Int) + 1) := by show _ = _; unfold IntKind.wrap; simp [IntKind.bits, IntKind.signed]; omega
  have HL : Hid (∀ W r' z, RS W q ts r' fine → nex g 0 (ones + 1) 0 [] (r', fine) = some z → Calls Tryz.prog 70 #[.pointer (some ⟨q.rb, 0, none⟩), .int .i64 0, .int .i64 ((ones : Int) + 1)] W fun e w' => RPost q ts W z e w') :=
    fun W r' z hW hz => hL W r' 0 (ones + 1) z hW (by omega) (by omega) hz
  have HO : Hid (∀ W r' z, RS W q ts r' fine → nex g 5 (ones + 1) 0 [] (r', fine) = some z → Calls Tryz.prog 84 #[.pointer (some ⟨q.rb, 0, none⟩), .int .i64 (IntKind.i64.wrap ((ones : Int) + 1))] W fun e w' => RPost q ts W z e w') :=
    fun W r' z hW hz => by rw [HWR.out]; exact hO W r' (ones + 1) z hW (by omega) hz
  have HR : Hid (∀ W z, RS W q ts r fine → nex g 6 ones 0 [] (r, fine) = some z → Calls Tryz.prog 55 #[.pointer (some ⟨q.rb, 0, none⟩), .int .i64 (ones : Int)] W fun e w' => RPost q ts W z e w') :=
    fun W z hW hz => (hR W r ones z hW (by omega) hz).mono fun _ _ h => h.r
  clear hL hO hR
  obtain ⟨h1, h2, h3, h4⟩ := h.hd
  have hmem : hd r ∈ ts := List.mem_of_getElem? h1
  have hdg := h.dig _ hmem
  have hneq : ∀ m : List UInt8, (∃ c l, m = c :: l ∧ Tp.digit c = false) → tx r = m → ¬ (hd r).kind = 2 := fun m hm e hk => by
    obtain ⟨c, l, rfl, hc⟩ := hm
    have := (hdg hk).2 c (by simp only [tx] at e; rw [e]; simp)
    rw [hc] at this; cases this
  have HNE := Lib.hid hneq
  obtain ⟨i, hi⟩ : ∃ i, i = (ts.length - r.length) * 3 := ⟨_, rfl⟩
  obtain ⟨n, hn⟩ : ∃ n, n = r.length := ⟨_, rfl⟩
  obtain ⟨c, hc⟩ : ∃ c, c = q.cap - (ts.length - r.length) := ⟨_, rfl⟩
  have HC0 : Hid (∀ W, RS W q ts r fine → W.cell? ⟨q.rb, 0, none⟩ = some (.slice (some ⟨q.tb, i, none⟩) n c) ∧ W.cell? ⟨q.tb, i, none⟩ = some (.int .i64 (kd (hd r))) ∧ W.cell? ⟨q.tb, i + 1, none⟩ = some (.string (bs (tx r))) ∧ W.cell? ⟨q.tb, i + 2, none⟩ = some (.int .i64 (at' r : Int))) := fun W hW => by
    rw [hi, hn, hc]; exact ⟨hW.c0, (hW.toks _ _ h1).c0, (hW.toks _ _ h1).c1, (hW.toks _ _ h1).c2⟩
  have hn0 : (0 : Int) < n := by omega
  have hk2 : kd (hd r) = 2 ↔ (hd r).kind = 2 := by unfold kd; split <;> omega
  have HK2 := Lib.hid hk2
  have hd10' : ¬ (10 : Int) < (ones : Int) := by omega
  clear hi hn hc h1 h2 h3 h4 hneq hdg hmem hd10
  obtain ⟨kk, hkk⟩ : ∃ kk, kk = kd (hd r) := ⟨_, rfl⟩
  obtain ⟨pos, hpos⟩ : ∃ pos, pos = at' r := ⟨_, rfl⟩
  rw [← hkk, ← hpos] at HC0
  rw [← hkk] at hk2
  have HKK := Lib.hid hk2
  have HPO := Lib.hid hpos
  have HY := Lib.hid hy
  clear hkk hpos hk2 HK2 hy
  have hix0 : ∀ W : World, (Instr.index 166 (.agg #[.string ⟨#[45]⟩, .string ⟨#[110, 111, 116]⟩]) (.int .i64 0)).run Tryz.prog W = .ok (.string ⟨#[45]⟩) W := fun W => by kernel_rfl
  have hix1 : ∀ W : World, (Instr.index 166 (.agg #[.string ⟨#[45]⟩, .string ⟨#[110, 111, 116]⟩]) (.int .i64 1)).run Tryz.prog W = .ok (.string ⟨#[110, 111, 116]⟩) W := fun W => by kernel_rfl
  go_enter Tryz.func84, Tryz.ntmps84
  go_wp2_with fail
  refine (rok_f h).mono ?_
  rintro e w1 ⟨rfl, hb1⟩
  have hst1 := h.below hb1
  obtain ⟨d0, d1, d2, d3⟩ := HC0.out w1 hst1
  have b0 : Below w1.heap.size w1 (w1.alloc (Obj.cells #[.int .i64 kk, .string (bs (tx r)), .int .i64 (pos : Int)] 57)) := (Below.refl _ _).alloc (Nat.le_refl _) _
  have k0 := new_blk w1 (Obj.cells #[.int .i64 kk, .string (bs (tx r)), .int .i64 (pos : Int)] 57)
  obtain ⟨tb, htb⟩ : ∃ tb, tb = w1.heap.size := ⟨_, rfl⟩
  go_wp2_with fail
  have hst2 := hst1.below b0
  have hx2 : Ext q.rb w (w1.alloc (Obj.cells #[.int .i64 kk, .string (bs (tx r)), .int .i64 (pos : Int)] 57)) := (Ext.below hb1).trans (Ext.below b0)
  generalize w1.alloc (Obj.cells #[.int .i64 kk, .string (bs (tx r)), .int .i64 (pos : Int)] 57) = w2 at *
  have hsz1 := hb1.size
  rw [← htb] at k0 ⊢
  have hqt : q.rb < tb := by omega
  have hwt : w.heap.size ≤ tb := by omega
  clear d0 d1 d2 d3 hst1 hb1 b0 htb h hsz1
  go_loopg [23] 2 (fun k vi wr => ∃ j : Nat, j ≤ 2 ∧ k = 2 - j ∧ vi = .int .i64 (j : Int) ∧ RS wr q ts r fine ∧ Hid (wr.heap[tb]? = some (.cells #[.int .i64 kk, .string (bs (tx r)), .int .i64 (pos : Int)] 57 (0, 0))) ∧ Hid (Ext q.rb w wr) ∧ Hid (0 < j → ¬ tx r = Tp.mMinus) ∧ Hid (1 < j → ¬ tx r = Tp.wNot))
  case atStart => exact ⟨0, by omega, rfl, rfl, hst2, k0, hx2, fun h => absurd h (by omega), fun h => absurd h (by omega)⟩
  case round =>
    obtain ⟨j, hj2, hjk, rfl, hst, HK, HX, HM, HN⟩ := hrel
    clear hst2 k0 hx2
    match j, hj2 with
    | 0, _ =>
      go_wp2_with fail
      refine (rtake_s (s := (r, fine)) hst Tp.mMinus (by decide) _ rfl).mono ?_
      rintro e w4 ⟨rfl, hst4, hx4⟩
      have HK4 := Lib.hid ((hx4.block tb (lt_blk HK.out) (by omega)).trans HK.out)
      have HX4 := Lib.hid (HX.out.trans hx4)
      clear hst hx4 HK HX
      cases htk : tk Tp.mMinus (r, fine) with
      | false =>
        rw [tk_false htk] at hst4
        have hnt : ¬ tx r = Tp.mMinus := fun e => of_decide_eq_false htk ⟨rfl, e⟩
        have HNT := Lib.hid hnt
        clear htk hnt
        go_wp2_with fail
        go_roundg 1
        case measure => omega
        case rel => exact ⟨1, by omega, rfl, rfl, hst4, HK4, HX4, fun _ => HNT.out, fun h => absurd h (by omega)⟩
      | true =>
        obtain ⟨_, htx, hts⟩ := tk_true htk
        rw [hts] at hst4
        have htx : tx r = Tp.mMinus := htx
        have hk2 : ¬ (hd r).kind = 2 := HNE.out Tp.mMinus ⟨_, _, rfl, by decide⟩ htx
        have hy := HY.out
        rw [if_neg hk2, if_pos htx] at hy
        obtain ⟨z, hz, hyz⟩ := map_some' hy
        have hrx : RS w4 q ts (stp r) fine := hst4
        have HC := Lib.hid (HO.out w4.drew (stp r) z (hrx.below (below_drew w4)) hz)
        have HYZ := Lib.hid hyz
        have hsz4 := HX4.out.size
        have htl4 := lt_blk HK4.out
        have k2 : w4.cell? ⟨tb, 2, none⟩ = some (.int .i64 (pos : Int)) := cell_blk HK4.out
        clear hy hz hyz hst4 hk2 htx hts htk HM HN
        go_wp2_with fail
        go_region_law (refine step_wanted rfl ?_; go_simp; go_at_call 84; refine HC.out.mono ?_; rintro e w5 ⟨p5, rfl, hv5, hst5, hx5⟩; have HX5 := Lib.hid ((HX4.out.trans (Ext.below (below_drew w4))).trans hx5); have k5 : w5.cell? ⟨tb, 2, none⟩ = some (.int .i64 (pos : Int)) := ((((Ext.below (b := q.rb) (below_drew w4)).trans hx5).cell k2 (by simp; omega)) : _))
        all_goals
          have hsz5 := HX5.out.size
          have HV5 := Lib.hid hv5
          have HS5 := Lib.hid hst5
          have hal : Below w5.heap.size w5 (w5.alloc (.cells (xcells 4 pos 0 ⟨#[]⟩ ⟨#[]⟩ ⟨#[45]⟩ (.pointer p5) (.pointer none) (.slice none 0 0)) 115)) := (Below.refl _ _).alloc (Nat.le_refl _) _
          have HF : Hid (RPost q ts w y (.returned (.pointer (some ⟨w5.heap.size, 0, none⟩))) (w5.alloc (.cells (xcells 4 pos 0 ⟨#[]⟩ ⟨#[]⟩ ⟨#[45]⟩ (.pointer p5) (.pointer none) (.slice none 0 0)) 115))) := by
            rw [HYZ.out, ← HPO.out]
            refine ⟨_, rfl, fun hf => ?_, HS5.out.below hal, HX5.out.trans (Ext.below hal)⟩
            exact VX.node (op := Tp.mMinus) hsz5 (new_blk w5 _) (Or.inr ((VX.ext (b := q.rb) (Ext.below hal) (by simp; omega) (HV5.out hf)).base (by simp; omega))) (Or.inl ⟨rfl, rfl⟩) (Or.inl ⟨rfl, rfl⟩)
          clear hv5 hst5 hx5 hal
          go_wp2_with fail
          exact bodyPost_ret (v := .pointer (some ⟨w5.heap.size, 0, none⟩)) (by simp [results, Tryz.results84, go_sem]) rfl HF.out
    | 1, _ =>
      go_wp2_with fail
      refine (rtake_s (s := (r, fine)) hst Tp.wNot (by decide) _ rfl).mono ?_
      rintro e w4 ⟨rfl, hst4, hx4⟩
      have HK4 := Lib.hid ((hx4.block tb (lt_blk HK.out) (by omega)).trans HK.out)
      have HX4 := Lib.hid (HX.out.trans hx4)
      clear hst hx4 HK HX
      cases htk : tk Tp.wNot (r, fine) with
      | false =>
        rw [tk_false htk] at hst4
        have hnt : ¬ tx r = Tp.wNot := fun e => of_decide_eq_false htk ⟨rfl, e⟩
        have HNT := Lib.hid hnt
        clear htk hnt
        go_wp2_with fail
        go_roundg 0
        case measure => omega
        case rel => exact ⟨2, by omega, rfl, rfl, hst4, HK4, HX4, fun _ => HM.out (by omega), fun _ => HNT.out⟩
      | true =>
        obtain ⟨_, htx, hts⟩ := tk_true htk
        rw [hts] at hst4
        have htx : tx r = Tp.wNot := htx
        have hk2 : ¬ (hd r).kind = 2 := HNE.out Tp.wNot ⟨_, _, rfl, by decide⟩ htx
        have hy := HY.out
        rw [if_neg hk2, if_neg (by rw [htx]; decide), if_pos htx] at hy
        obtain ⟨z, hz, hyz⟩ := map_some' hy
        have hrx : RS w4 q ts (stp r) fine := hst4
        have HC := Lib.hid (HO.out w4.drew (stp r) z (hrx.below (below_drew w4)) hz)
        have HYZ := Lib.hid hyz
        have hsz4 := HX4.out.size
        have htl4 := lt_blk HK4.out
        have k2 : w4.cell? ⟨tb, 2, none⟩ = some (.int .i64 (pos : Int)) := cell_blk HK4.out
        clear hy hz hyz hst4 hk2 htx hts htk HM HN
        go_wp2_with fail
        go_region_law (refine step_wanted rfl ?_; go_simp; go_at_call 84; refine HC.out.mono ?_; rintro e w5 ⟨p5, rfl, hv5, hst5, hx5⟩; have HX5 := Lib.hid ((HX4.out.trans (Ext.below (below_drew w4))).trans hx5); have k5 : w5.cell? ⟨tb, 2, none⟩ = some (.int .i64 (pos : Int)) := ((((Ext.below (b := q.rb) (below_drew w4)).trans hx5).cell k2 (by simp; omega)) : _))
        all_goals
          have hsz5 := HX5.out.size
          have HV5 := Lib.hid hv5
          have HS5 := Lib.hid hst5
          have hal : Below w5.heap.size w5 (w5.alloc (.cells (xcells 4 pos 0 ⟨#[]⟩ ⟨#[]⟩ ⟨#[110, 111, 116]⟩ (.pointer p5) (.pointer none) (.slice none 0 0)) 115)) := (Below.refl _ _).alloc (Nat.le_refl _) _
          have HF : Hid (RPost q ts w y (.returned (.pointer (some ⟨w5.heap.size, 0, none⟩))) (w5.alloc (.cells (xcells 4 pos 0 ⟨#[]⟩ ⟨#[]⟩ ⟨#[110, 111, 116]⟩ (.pointer p5) (.pointer none) (.slice none 0 0)) 115))) := by
            rw [HYZ.out, ← HPO.out]
            refine ⟨_, rfl, fun hf => ?_, HS5.out.below hal, HX5.out.trans (Ext.below hal)⟩
            exact VX.node (op := Tp.wNot) hsz5 (new_blk w5 _) (Or.inr ((VX.ext (b := q.rb) (Ext.below hal) (by simp; omega) (HV5.out hf)).base (by simp; omega))) (Or.inl ⟨rfl, rfl⟩) (Or.inl ⟨rfl, rfl⟩)
          clear hv5 hst5 hx5 hal
          go_wp2_with fail
          exact bodyPost_ret (v := .pointer (some ⟨w5.heap.size, 0, none⟩)) (by simp [results, Tryz.results84, go_sem]) rfl HF.out
    | 2, _ =>
      have hm : ¬ tx r = Tp.mMinus := HM.out (by omega)
      have hn : ¬ tx r = Tp.wNot := HN.out (by omega)
      have HY2 : Hid ((if (hd r).kind = 2 then some (([⟨1, at' r, (nu Tp.top (r, fine)).1, [], [], [], [], [], []⟩] : List X), (nu Tp.top (r, fine)).2) else if tx r = Tp.mLp then (nex g 0 (ones + 1) 0 [] (stp r, fine)).map fun y => (y.1, mu Tp.mRp y.2) else nex g 6 ones 0 [] (r, fine)) = some y) := by
        have := HY.out
        rw [if_neg hm, if_neg hn] at this
        exact this
      clear hm hn HM HN HY hjk
      go_wp2_with fail
      refine (rtake_s (s := (r, fine)) hst Tp.mLp (by decide) _ rfl).mono ?_
      rintro e w4 ⟨rfl, hst4, hx4⟩
      have HK4 := Lib.hid ((hx4.block tb (lt_blk HK.out) (by omega)).trans HK.out)
      have HX4 := Lib.hid (HX.out.trans hx4)
      clear hst hx4 HK HX
      cases htk : tk Tp.mLp (r, fine) with
      | true =>
        obtain ⟨_, htx, hts⟩ := tk_true htk
        rw [hts] at hst4
        have htx : tx r = Tp.mLp := htx
        have hk2 : ¬ (hd r).kind = 2 := HNE.out Tp.mLp ⟨_, _, rfl, by decide⟩ htx
        have hy := HY2.out
        rw [if_neg hk2, if_pos htx] at hy
        obtain ⟨z, hz, hyz⟩ := map_some' hy
        have hrx : RS w4 q ts (stp r) fine := hst4
        have HC := Lib.hid (HL.out w4 (stp r) z hrx hz)
        have HYZ := Lib.hid hyz
        have hsz4 := HX4.out.size
        clear hy hz hyz hst4 hk2 htx hts htk HY2
        go_wp2_with fail
        refine HC.out.mono ?_
        rintro e w5 ⟨p5, rfl, hv5, hst5, hx5⟩
        have HX5 := Lib.hid (HX4.out.trans hx5)
        have HV5 := Lib.hid hv5
        clear hv5 hx5
        go_wp2_with fail
        refine (rmust_s hst5 Tp.mRp (by decide) _ rfl).mono ?_
        rintro e w6 ⟨rfl, hst6, hx6⟩
        have HF : Hid (RPost q ts w y (.returned (.pointer p5)) w6) := by
          rw [HYZ.out]
          exact ⟨_, rfl, fun hf => VX.ext hx6 hpl ((HV5.out (mu_fine hf)).base (by omega)), hst6, HX5.out.trans hx6⟩
        clear hst5 hst6 hx6
        go_wp2_with fail
        exact bodyPost_ret (v := .pointer p5) (by simp [results, Tryz.results84, go_sem]) rfl HF.out
      | false =>
        rw [tk_false htk] at hst4
        have hnt : ¬ tx r = Tp.mLp := fun e => of_decide_eq_false htk ⟨rfl, e⟩
        have hrx : RS w4 q ts r fine := hst4
        have htl4 := lt_blk HK4.out
        have k0 : w4.cell? ⟨tb, 0, none⟩ = some (.int .i64 kk) := cell_blk HK4.out
        have k2 : w4.cell? ⟨tb, 2, none⟩ = some (.int .i64 (pos : Int)) := cell_blk HK4.out
        have hy := HY2.out
        have hsz4 := HX4.out.size
        by_cases hk2 : (hd r).kind = 2
        · rw [if_pos hk2] at hy
          have HYZ : Hid (y = (([⟨1, at' r, (nu Tp.top (r, fine)).1, [], [], [], [], [], []⟩] : List X), (nu Tp.top (r, fine)).2)) := (Option.some.inj hy).symm
          have hkk : kk = 2 := HKK.out.2 hk2
          have HC := Lib.hid (rnumber_s (hrx.below (below_drew w4)) Tp.top (by decide))
          rw [show ((Tp.top : Nat) : Int) = 9223372036854775807 from rfl] at HC
          subst hkk
          clear hy hk2 hnt htk hst4 HY2 HKK
          generalize nu Tp.top (r, fine) = nn at *
          go_wp2_with fail
          go_region_law (refine step_wanted rfl ?_; go_simp; go_at_call 16; refine HC.out.mono ?_; rintro e w5 ⟨rfl, hst5, hx5⟩; have HX5 := Lib.hid ((HX4.out.trans (Ext.below (below_drew w4))).trans hx5); have k5 : w5.cell? ⟨tb, 2, none⟩ = some (.int .i64 (pos : Int)) := ((((Ext.below (b := q.rb) (below_drew w4)).trans hx5).cell k2 (by simp; omega)) : _))
          all_goals
            have hsz5 := HX5.out.size
            have HS5 := Lib.hid hst5
            have hal : Below w5.heap.size w5 (w5.alloc (.cells (xcells 1 pos nn.1 ⟨#[]⟩ ⟨#[]⟩ ⟨#[]⟩ (.pointer none) (.pointer none) (.slice none 0 0)) 115)) := (Below.refl _ _).alloc (Nat.le_refl _) _
            have HF : Hid (RPost q ts w y (.returned (.pointer (some ⟨w5.heap.size, 0, none⟩))) (w5.alloc (.cells (xcells 1 pos nn.1 ⟨#[]⟩ ⟨#[]⟩ ⟨#[]⟩ (.pointer none) (.pointer none) (.slice none 0 0)) 115))) := by
              rw [HYZ.out, ← HPO.out]
              refine ⟨_, rfl, fun hf => ?_, HS5.out.below hal, HX5.out.trans (Ext.below hal)⟩
              exact VX.node hsz5 (new_blk w5 _) (Or.inl ⟨rfl, rfl⟩) (Or.inl ⟨rfl, rfl⟩) (Or.inl ⟨rfl, rfl⟩)
            clear hst5 hx5 hal
            go_wp2_with fail
            exact bodyPost_ret (v := .pointer (some ⟨w5.heap.size, 0, none⟩)) (by simp [results, Tryz.results84, go_sem]) rfl HF.out
        · rw [if_neg hk2, if_neg hnt] at hy
          have hkk : (kk == 2) = false := by have := fun h => hk2 (HKK.out.1 h); simpa using this
          have HC := Lib.hid (HR.out w4 y hrx hy)
          clear hy hk2 hnt htk hst4 HY2 HKK
          go_wp2_with fail
          refine HC.out.mono ?_
          rintro e w5 ⟨p5, rfl, hv5, hst5, hx5⟩
          have HF : Hid (RPost q ts w y (.returned (.pointer p5)) w5) := ⟨_, rfl, fun hf => (hv5 hf).base (by omega), hst5, HX4.out.trans hx5⟩
          clear hv5 hst5 hx5
          go_wp2_with fail
          exact bodyPost_ret (v := .pointer p5) (by simp [results, Tryz.results84, go_sem]) rfl HF.out
/- all together, by gas -/
theorem expr_allR (q : Rp) (ts : List Tok) : ∀ g, LevR q ts g ∧ OneR q ts g ∧ RefR q ts g := by
  intro g
  induction g with
  | zero => exact ⟨fun _ _ _ _ _ _ _ _ h => (by cases h), fun _ _ _ _ _ _ h => (by cases h), fun _ _ _ _ _ _ h => (by cases h)⟩
  | succ g ih =>
    obtain ⟨h1, h2, h3⟩ := ih
    have hO := rone_post h1 h2 h3
    exact ⟨lev_post h1 hO, hO, ref_post h1⟩
end Go.Proofs.YtkpapioaijmidaaGreatDoor
