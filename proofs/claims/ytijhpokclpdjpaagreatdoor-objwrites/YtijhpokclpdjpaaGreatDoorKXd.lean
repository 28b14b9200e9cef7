import Derived.Test.YtijhpokclpdjpaaGreatDoorKXc
/- The document's own Read: vars. -/
namespace Go.Proofs.YtijhpokclpdjpaaGreatDoor
open Go.RowKit
open Ob (Bs)
theorem news4 (w : World) (e : Nat) (v0 v1 v2 v3 : Value) : ∀ j u, [v0, v1, v2, v3][j]? = some u → (w.alloc (.cells #[v0, v1, v2, v3] e)).cell? ((⟨w.heap.size, 0, none⟩ : Addr).add j) = some u := by
  intro j u hj
  match j, hj with
  | 0, hj => simp at hj; subst hj; simp [Addr.add]
  | 1, hj => simp at hj; subst hj; simp [Addr.add]
  | 2, hj => simp at hj; subst hj; simp [Addr.add]
  | 3, hj => simp at hj; subst hj; simp [Addr.add]
theorem wp_cut {P : Program} {c : Code} {Q : Exit → Act → World → Prop} {a : Act} {w : World} (ww : World) (h : ∃ aa, c.wp P (fun e a' w' => e = .normal ∧ a' = aa ∧ w' = ww) a w ∧ Q .normal aa ww) : c.wp P Q a w := by
  obtain ⟨aa, h1, h2⟩ := h
  refine Code.wp_mono ?_ h1
  rintro e a' w' ⟨rfl, rfl, rfl⟩
  exact h2
theorem vars_seq {r s : Bs} {a : Int} {b : Bool} (hx : ∀ y r', (some r).bind Ob.txtT = some (y, r') → y = s) (hy : ∀ y' r', (((some r).bind Ob.txtT).map (·.2)).bind Ob.numT = some (y', r') → y' = a) (hz : ∀ y' r', (((((some r).bind Ob.txtT).map (·.2)).bind Ob.numT).map (·.2)).bind Ob.flagT = some (y', r') → y' = b) :
    (Ob.glT r).map (·.2) = ((((((some r).bind Ob.txtT).map (·.2)).bind Ob.numT).map (·.2)).bind Ob.flagT).map (·.2) ∧ ∀ w r', Ob.glT r = some (w, r') → w = ⟨s, 0, a, b⟩ := seq3 (fun x y z => (⟨x, 0, y, z⟩ : Ob.Gl)) hx hy hz
set_option maxRecDepth 100000 in
set_option maxHeartbeats 4000000 in
theorem read_vars {w0 W : World} {tvb ovb tb ob C : Nat} {A : World → Prop} {f0 f1 f2 f4 f5 f6 v : Value} {r : Bs} {xs : List Ob.Gl} (h : Rs w0 tvb ovb tb ob C A W [f0, f1, f2, v, f4, f5, f6] (some r)) (hK : Keeps tb ob C A) (hown : W.ownsRow C 54 4 v xs.length (cellsOf glC xs)) (hxl : xs.length ≤ 1000000) :
    Calls Tryz.prog 37 #[.pointer (some ⟨tvb, 0, none⟩), .pointer (some ⟨ovb, 0, none⟩)] W fun e w' => e = .returned (.tuple #[]) ∧ ((Ob.glT r = none ∧ Rs w0 tvb ovb tb ob C A w' [f0, f1, f2, v, f4, f5, f6] none ∧ w'.ownsRow C 54 4 v xs.length (cellsOf glC xs)) ∨ ∃ x v', Rs w0 tvb ovb tb ob C A w' [f0, f1, f2, v', f4, f5, f6] ((Ob.glT r).map (·.2)) ∧ w'.ownsRow C 54 4 v' (xs.length + 1) (cellsOf glC (xs ++ [x])) ∧ x.name.length ≤ 1000000 ∧ ∀ y r', Ob.glT r = some (y, r') → y = x) := by
  obtain ⟨va, vc, rfl⟩ := owns_shape hown
  obtain ⟨i3, hi3, hz30, hz31, hz32⟩ := info_parts Tryz.infoGlobal
  have HK := Lib.hid hK
  have HO := Lib.hid hown
  have HLT := Lib.hid (owns_lt hown)
  have HGE := Lib.hid (owns_row hown)
  have HR0 := Lib.hid h
  obtain ⟨p1, p2, p3, p4, p5⟩ := h.n1
  obtain ⟨q1, q2, q3, q4⟩ := h.l1
  have hCW := h.CC
  have t0 : W.cell? ⟨tvb, 0, none⟩ = some (.pointer (some ⟨tb, 0, none⟩)) := cell_blk h.kt
  have htv0 : tvb < W.heap.size := lt_of_cell t0
  have hxl' : (xs.length : Int) ≤ 1000000 := by omega
  have HC1 := Lib.hid (ttext_any h.tk)
  clear h hK hown
  go_enter Tryz.func37, Tryz.ntmps37
  go_wp2_with fail
  refine HC1.out.mono ?_
  rintro e W1 ⟨s1, rfl, hb1, hx1, htk1, hv1⟩
  have HR1 := Lib.hid (HR0.out.take HK.out hx1 htk1)
  have t1 : W1.cell? ⟨tvb, 0, none⟩ = some (.pointer (some ⟨tb, 0, none⟩)) := cell_blk HR1.out.kt
  have htv1 : tvb < W1.heap.size := lt_of_cell t1
  have HV1 := Lib.hid hv1
  have hs01 := hx1.size
  obtain ⟨xb, hxb⟩ : ∃ xb, xb = W1.heap.size := ⟨_, rfl⟩
  obtain ⟨W2, hW2⟩ : ∃ W2, W2 = W1.alloc (.cells #[.string (bs s1), .int .i64 0, .int .i64 0, .bool false] 54) := ⟨_, rfl⟩
  have hbA : Below W1.heap.size W1 W2 := by rw [hW2]; exact (Below.refl _ _).alloc (Nat.le_refl _) _
  have hk2 : W2.heap[xb]? = some (.cells #[.string (bs s1), .int .i64 0, .int .i64 0, .bool false] 54 (0, 0)) := by rw [hW2, hxb]; exact new_blk _ _
  have HR2 := Lib.hid (HR1.out.new HK.out hbA)
  have HKP2 : Hid (∀ g, C ≤ g → g < W.heap.size → W2.heap[g]? = W.heap[g]?) := fun g hg hl => (hbA.block g (by omega)).trans (hx1.block g hl (by omega))
  have hxbC : W.heap.size ≤ xb := by omega
  have HXB := Lib.hid hxbC
  have t2 : W2.cell? ⟨tvb, 0, none⟩ = some (.pointer (some ⟨tb, 0, none⟩)) := cell_blk HR2.out.kt
  have htv2 : tvb < W2.heap.size := lt_of_cell t2
  have htvx2 : tvb ≠ xb := by omega
  have htbx : tb ≠ xb := by omega
  have hxl2 : xb < W2.heap.size := lt_blk hk2
  have HC2 := Lib.hid (tnum_any HR2.out.tk)
  have HW2 := Lib.hid hW2
  clear hx1 htk1 hv1 HC1 HR1 t0 hW2
  go_wp2_with fail
  rw [← HW2.out, ← hxb]
  clear HW2 hbA hs01 htv0 t1 htv1
  clear hxb
  refine HC2.out.mono ?_
  rintro e W3 ⟨⟨s2, rfl, hx, htk, hv⟩, hI⟩
  clear hI
  have HV2 := Lib.hid hv
  have HRn := Lib.hid (HR2.out.take HK.out hx htk)
  have hkn : W3.heap[xb]? = some (.cells #[.string (bs s1), .int .i64 0, .int .i64 0, .bool false] 54 (0, 0)) := (hx.block xb hxl2 (by omega)).trans hk2
  have kc : W3.cell? ⟨xb, 2, none⟩ = some (.int .i64 0) := cell_blk hkn
  have kz : W3.frozen? ⟨xb, 2, none⟩ = false := frozen_blk hkn
  obtain ⟨W4, hW4⟩ : ∃ w, w = W3.setCell ⟨xb, 2, none⟩ (.int .i64 s2) := ⟨_, rfl⟩
  have hk4 : W4.heap[xb]? = some (.cells #[.string (bs s1), .int .i64 0, .int .i64 s2, .bool false] 54 (0, 0)) := by rw [hW4]; exact set_blk 2 (.int .i64 s2) hkn
  have HR4 : Hid (Rs w0 tvb ovb tb ob C A W4 [f0, f1, f2, (.slice va xs.length vc), f4, f5, f6] ((((some r).bind Ob.txtT).map (·.2)).bind Ob.numT |>.map (·.2))) := by rw [hW4]; exact HRn.out.grow HK.out (below_set (Below.refl _ _) (by omega) 2 _)
  have HKP4 : Hid (∀ g, C ≤ g → g < W.heap.size → W4.heap[g]? = W.heap[g]?) := fun g hg hl => by
    rw [hW4, Below.heap_setCell _ _ _ _ (by have := HXB.out; simp; omega)]
    exact (hx.block g (by have := HXB.out; omega) (by omega)).trans (HKP2.out g hg hl)
  obtain ⟨l, htb, hll, hlst⟩ := HR4.out.tk.c
  have HTB := Lib.hid htb
  have HLST := Lib.hid hlst
  have t4 : W4.cell? ⟨tvb, 0, none⟩ = some (.pointer (some ⟨tb, 0, none⟩)) := cell_blk HR4.out.kt
  have tn : W3.cell? ⟨tvb, 0, none⟩ = some (.pointer (some ⟨tb, 0, none⟩)) := cell_blk HRn.out.kt
  have tl : W4.cell? ⟨tb, 0, none⟩ = some (.string (bs l)) := cell_blk htb
  obtain ⟨lb, tb1⟩ : ∃ lb, W4.cell? ⟨tb, 1, none⟩ = some (.bool lb) := ⟨_, cell_blk htb⟩
  have tf : ∀ j, W4.frozen? ⟨tb, j, none⟩ = false := fun j => frozen_blk htb
  have htbl : tb < W4.heap.size := lt_blk htb
  have hxl4 : xb < W4.heap.size := lt_blk hk4
  have hxln : xb < W3.heap.size := lt_blk hkn
  have htvl4 : tvb < W4.heap.size := lt_of_cell t4
  have HWs := Lib.hid hW4
  clear hx htk hv HC2 HR2 hk2 t2 htv2 hxl2 HKP2 htb hlst HRn hkn
  go_upto_region 2 with fail
  rw [← hW4]
  clear hW4 HWs kc kz hxln tn
  cases l with
  | nil =>
    have HBAD : Hid (Ob.glT r = none) := by
      have := (vars_seq (b := false) HV1.out HV2.out (fun y' r' hy => by
        rcases hq : ((((some r).bind Ob.txtT).map (·.2)).bind Ob.numT |>.map (·.2)) with _ | r2
        · rw [hq] at hy; cases hy
        · have := HLST.out r2 hq
          rw [hq, this] at hy
          cases hy)).1
      rcases hq : ((((some r).bind Ob.txtT).map (·.2)).bind Ob.numT |>.map (·.2)) with _ | r2
      · rw [hq] at this
        rcases hg : Ob.glT r with _ | ⟨y, r'⟩
        · rfl
        · rw [hg] at this; cases this
      · have e2 := HLST.out r2 hq
        rw [hq, e2] at this
        rcases hg : Ob.glT r with _ | ⟨y, r'⟩
        · rfl
        · rw [hg] at this; cases this
    have hRF : Rs w0 tvb ovb tb ob C A (W4.setCell ⟨tb, 1, none⟩ (.bool true)) [f0, f1, f2, (.slice va xs.length vc), f4, f5, f6] none := HR4.out.take HK.out ((Ext.refl _ _).set 1 _) ⟨[], set_blk 1 (.bool true) HTB.out, by simp, fun r hr => by cases hr⟩
    have hOF : (W4.setCell ⟨tb, 1, none⟩ (.bool true)).ownsRow C 54 4 (.slice va xs.length vc) xs.length (cellsOf glC xs) := owns_keep (owns_keep HO.out (fun g hg hl _ => HKP4.out g hg hl)) (fun g hg _ _ => Below.heap_setCell _ _ _ _ (by simp; omega))
    have HRF := Lib.hid hRF
    have HOF := Lib.hid hOF
    have he2 : (bs ([] : Bs)) = ⟨#[]⟩ := rfl
    rw [he2] at tl
    clear hRF hOF HTB HLST he2
    go_wp2_with fail
    exact bodyPost_ret (results_none rfl _ _ _) rfl ⟨rfl, Or.inl ⟨HBAD.out, HRF.out, HOF.out⟩⟩
  | cons b l =>
    have hts := bs_toList (b :: l)
    have hsz := bs_size (b :: l)
    have hg0 : ∀ h, (bs (b :: l))[0]'h = b := fun _ => rfl
    have ex : (bs (b :: l)).extract 1 (l.length + 1) = bs l := by
      apply ByteArray.ext; simp [bs, ByteArray.data_extract]; try exact List.take_of_length_le (by simp)
    have hll' : ((b :: l).length : Int) ≤ 1000000 := by omega
    have hll1 : (1 : Int) ≤ ((b :: l).length : Int) := by simp; omega
    obtain ⟨sb, hsb⟩ : ∃ sb, decide (b.toNat = 1) = sb := ⟨_, rfl⟩
    have hbe : ((b.toNat : Int) == 1) = sb := by rw [← hsb, Bool.eq_iff_iff, beq_iff_eq, decide_eq_true_eq]; omega
    have HSB := Lib.hid hsb
    have kc : W4.cell? ⟨xb, 3, none⟩ = some (.bool false) := cell_blk hk4
    have kz : W4.frozen? ⟨xb, 3, none⟩ = false := frozen_blk hk4
    obtain ⟨W5, hW5⟩ : ∃ w, w = W4.setCell ⟨xb, 3, none⟩ (.bool sb) := ⟨_, rfl⟩
    have hk5 : W5.heap[xb]? = some (.cells #[.string (bs s1), .int .i64 0, .int .i64 s2, .bool sb] 54 (0, 0)) := by rw [hW5]; exact set_blk 3 (.bool sb) hk4
    have HR5 : Hid (Rs w0 tvb ovb tb ob C A W5 [f0, f1, f2, (.slice va xs.length vc), f4, f5, f6] ((((some r).bind Ob.txtT).map (·.2)).bind Ob.numT |>.map (·.2))) := by rw [hW5]; exact HR4.out.grow HK.out (below_set (Below.refl _ _) (by omega) 3 _)
    have HKP5 : Hid (∀ g, C ≤ g → g < W.heap.size → W5.heap[g]? = W.heap[g]?) := fun g hg hl => by
      rw [hW5, Below.heap_setCell _ _ _ _ (by have := HXB.out; simp; omega)]
      exact HKP4.out g hg hl
    have HTB5 : Hid (W5.heap[tb]? = W4.heap[tb]?) := by rw [hW5]; exact Below.heap_setCell _ _ _ _ (by simpa using htbx)
    have t5 : W5.cell? ⟨tvb, 0, none⟩ = some (.pointer (some ⟨tb, 0, none⟩)) := cell_blk HR5.out.kt
    have htb5 := HTB5.out.trans HTB.out
    have tl5 : W5.cell? ⟨tb, 0, none⟩ = some (.string (bs (b :: l))) := cell_blk htb5
    have tf5 : W5.frozen? ⟨tb, 0, none⟩ = false := frozen_blk htb5
    have HTB5' := Lib.hid htb5
    have htbl5 : tb < W5.heap.size := lt_blk htb5
    have htvl5 : tvb < W5.heap.size := lt_of_cell t5
    have hxl5 : xb < W5.heap.size := lt_blk hk5
    clear hsb htb5
    go_upto_region 5 with fail
    rw [← hW5]
    clear hW5 kc kz t4 tl tb1 tf htbl hxl4 htvl4 hk4 HR4 HKP4 HTB5 HTB
    obtain ⟨W6, hW6⟩ : ∃ w, w = (W5.setCell ⟨tb, 0, none⟩ (.string (bs l))).drew := ⟨_, rfl⟩
    have hex : Ext tb W5 W6 := by
      rw [hW6]
      exact ((Ext.refl tb W5).set 0 _).trans (Ext.below (below_drew _))
    have htk6 : Tk W6 tb ((((((some r).bind Ob.txtT).map (·.2)).bind Ob.numT).map (·.2)).bind Ob.flagT |>.map (·.2)) := by
      have hb6 : W6.heap[tb]? = some (.cells #[.string (bs l), .bool (((((some r).bind Ob.txtT).map (·.2)).bind Ob.numT).map (·.2)).isNone] 76 (0, 0)) := by rw [hW6]; exact set_blk 0 (.string (bs l)) HTB5'.out
      rcases hq : ((((some r).bind Ob.txtT).map (·.2)).bind Ob.numT |>.map (·.2)) with _ | r2
      · rw [hq] at hb6 ⊢
        exact ⟨l, hb6, by simp at hll; omega, fun r' hr' => by cases hr'⟩
      · have e2 := HLST.out r2 hq
        rw [hq] at hb6 ⊢
        subst e2
        exact ⟨l, hb6, by simp at hll; omega, fun r' hr' => by cases hr'; rfl⟩
    have HV3 : Hid (∀ y' r', (((((some r).bind Ob.txtT).map (·.2)).bind Ob.numT).map (·.2)).bind Ob.flagT = some (y', r') → y' = sb) := fun y' r' hy => by
      rcases hq : ((((some r).bind Ob.txtT).map (·.2)).bind Ob.numT |>.map (·.2)) with _ | r2
      · rw [hq] at hy; cases hy
      · have e2 := HLST.out r2 hq
        rw [hq] at hy
        subst e2
        cases hy
        exact HSB.out
    have HR6 := Lib.hid (HR5.out.take HK.out hex htk6)
    have hk6 : W6.heap[xb]? = some (.cells #[.string (bs s1), .int .i64 0, .int .i64 s2, .bool sb] 54 (0, 0)) := (hex.block xb hxl5 (Ne.symm htbx)).trans hk5
    have HKP6 : Hid (∀ g, C ≤ g → g < W.heap.size → W6.heap[g]? = W.heap[g]?) := fun g hg hl => (hex.block g (by have := HXB.out; omega) (by omega)).trans (HKP5.out g hg hl)
    have HW6 := Lib.hid hW6
    clear hex htk6 hW6
    apply wp_cut W6
    apply Exists.intro
    apply And.intro
    · rw [HW6.out]
      go_region
      all_goals exact ⟨rfl, rfl, rfl⟩
    clear HW6 t5 tl5 tf5 HTB5' htbl5 htvl5 hxl5 hk5 HR5 HKP5 HLST hts hsz hg0 ex hll hll' hll1 hbe
    have hxl6 : xb < W6.heap.size := lt_blk hk6
    have o0 : W6.cell? ⟨ovb, 0, none⟩ = some (.pointer (some ⟨ob, 0, none⟩)) := cell_blk HR6.out.ko
    have kv : W6.cell? ⟨ob, 3, none⟩ = some (.slice va xs.length vc) := cell_blk HR6.out.kb
    have zv : W6.frozen? ⟨ob, 3, none⟩ = false := frozen_blk HR6.out.kb
    have hobl : ob < W6.heap.size := lt_of_cell kv
    have hovl : ovb < W6.heap.size := lt_of_cell o0
    have hOW : W6.ownsRow C 54 4 (.slice va xs.length vc) xs.length (cellsOf glC xs) := owns_keep HO.out (fun g hg hl _ => HKP6.out g hg hl)
    have kva : ∀ o', (W6.alloc o').cell? ⟨ob, 3, none⟩ = some (.slice va xs.length vc) := fun o' => cell_alloc kv o'
    have oa : ∀ o', (W6.alloc o').cell? ⟨ovb, 0, none⟩ = some (.pointer (some ⟨ob, 0, none⟩)) := fun o' => cell_alloc o0 o'
    have hCL : C ≤ W6.heap.size := HR6.out.CC
    have x0 : W6.cell? ⟨xb, 0, none⟩ = some (.string (bs s1)) := cell_blk hk6
    have x1 : W6.cell? ⟨xb, 1, none⟩ = some (.int .i64 0) := cell_blk hk6
    have x2 : W6.cell? ⟨xb, 2, none⟩ = some (.int .i64 s2) := cell_blk hk6
    have x3 : W6.cell? ⟨xb, 3, none⟩ = some (.bool sb) := cell_blk hk6
    have HAP : Hid (∀ (v' : Value) (w10 : World), ((W6.alloc (.cells #[.string (bs s1), .int .i64 0, .int .i64 s2, .bool sb] 54)).drew).grownBy w10 (Value.slice va xs.length vc).ownBlock → Below C W6 w10) := fun v' w10 hg => by
      have hbb : Below W6.heap.size W6 (W6.alloc (.cells #[.string (bs s1), .int .i64 0, .int .i64 s2, .bool sb] 54)).drew := ((Below.refl _ _).alloc (Nat.le_refl _) _).drew
      exact (hbb.mono hCL).trans ((Below.refl _ _).grown hg (Nat.le_trans hCL hbb.size) HGE.out)
    go_wp2_with fail
    go_region_law (first | (refine step_append_where rfl (.tmp 36) (.tmp 38) 40 rfl C 54 i3 (.agg #[.string ⟨#[]⟩, .int .i64 0, .int .i64 0, .bool false]) 4 40 Tryz.underlying40 hi3 hz30 hz31 hz32 rfl (by decide) (.slice va xs.length vc) xs.length (cellsOf glC xs) (by simp [Act.eval]) (owns_below (ownsRow_alloc hOW _) (below_drew _)) ⟨W6.heap.size, 0, none⟩ 1 1 [.string (bs s1), .int .i64 0, .int .i64 s2, .bool sb] (by simp [Act.eval]) rfl (news4 W6 _ _ _ _ _) (by intro u hu; simp at hu; rcases hu with rfl | rfl | rfl | rfl <;> rfl) (by unfold maxLen; omega) (by omega) (Nat.le_trans hCL (by simp)) ?_; intro v' w10 hown10 hgrow10 hwhere10; have hb10 := HAP.out v' w10 hgrow10; have o10 : w10.cell? ⟨ovb, 0, none⟩ = some (.pointer (some ⟨ob, 0, none⟩)) := (hb10.cell (p := ⟨ovb, 0, none⟩) q2).trans o0; have k10 : w10.cell? ⟨ob, 3, none⟩ = some (.slice va xs.length vc) := (hb10.cell (p := ⟨ob, 3, none⟩) q4).trans kv; have z10 : w10.frozen? ⟨ob, 3, none⟩ = false := (hb10.frozen (p := ⟨ob, 3, none⟩) q4).trans zv; obtain ⟨na, nc, hvv⟩ := owns_shape hown10; subst hvv))
    all_goals
      have HRF := Lib.hid ((HR6.out.grow HK.out hb10).put HK.out 3 (.slice na (xs.length + 1) nc))
      have HOF : Hid ((w10.setCell ⟨ob, 3, none⟩ (.slice na (xs.length + 1) nc)).ownsRow C 54 4 (.slice na (xs.length + 1) nc) (xs.length + 1) (cellsOf glC xs ++ [.string (bs s1), .int .i64 0, .int .i64 s2, .bool sb])) := owns_keep hown10 (fun g hg _ _ => Below.heap_setCell _ _ _ _ (by simp; omega))
      clear hgrow10 hwhere10 hown10 hb10
      go_wp2_with fail
      refine bodyPost_end (results_none rfl _ _ _) rfl ⟨rfl, Or.inr ?_⟩
      obtain ⟨z1, z2⟩ := vars_seq HV1.out HV2.out HV3.out
      rw [z1]
      exact ⟨⟨s1, 0, s2, sb⟩, _, HRF.out, by rw [cellsOf_snoc]; exact HOF.out, hb1, z2⟩
end Go.Proofs.YtijhpokclpdjpaaGreatDoor
/- The document's own Read: names. -/
namespace Go.Proofs.YtijhpokclpdjpaaGreatDoor
open Go.RowKit
open Ob (Bs)
theorem news1 (w : World) (e : Nat) (v0 : Value) : ∀ j u, [v0][j]? = some u → (w.alloc (.cells #[v0] e)).cell? ((⟨w.heap.size, 0, none⟩ : Addr).add j) = some u := by
  intro j u hj
  match j, hj with
  | 0, hj => simp at hj; subst hj; simp [Addr.add]
set_option maxRecDepth 100000 in
set_option maxHeartbeats 8000000 in
theorem read_names {w0 W : World} {tvb ovb tb ob C : Nat} {A : World → Prop} {f0 f1 f2 f3 f4 f6 v : Value} {r : Bs} {xs : List Bs} (h : Rs w0 tvb ovb tb ob C A W [f0, f1, f2, f3, f4, v, f6] (some r)) (hK : Keeps tb ob C A) (hown : W.ownsRow C 9 1 v xs.length (cellsOf stC xs)) (hxl : xs.length ≤ 1000000) :
    Calls Tryz.prog 38 #[.pointer (some ⟨ovb, 0, none⟩), .pointer (some ⟨tvb, 0, none⟩)] W fun e w' => e = .returned (.tuple #[]) ∧ ∃ x v', Rs w0 tvb ovb tb ob C A w' [f0, f1, f2, f3, f4, v', f6] ((Ob.txtT r).map (·.2)) ∧ w'.ownsRow C 9 1 v' (xs.length + 1) (cellsOf stC (xs ++ [x])) ∧ x.length ≤ 1000000 ∧ ∀ y r', Ob.txtT r = some (y, r') → y = x := by
  obtain ⟨va, vc, rfl⟩ := owns_shape hown
  obtain ⟨i3, hi3, hz30, hz31, hz32⟩ := info_parts Tryz.infoString
  have HK := Lib.hid hK
  have HO := Lib.hid hown
  have HGE := Lib.hid (owns_row hown)
  have HLT := Lib.hid (owns_lt hown)
  have HR0 := Lib.hid h
  obtain ⟨p1, p2, p3, p4, p5⟩ := h.n1
  obtain ⟨q1, q2, q3, q4⟩ := h.l1
  have hCW := h.CC
  have t0 : W.cell? ⟨tvb, 0, none⟩ = some (.pointer (some ⟨tb, 0, none⟩)) := cell_blk h.kt
  have o0 : W.cell? ⟨ovb, 0, none⟩ = some (.pointer (some ⟨ob, 0, none⟩)) := cell_blk h.ko
  have kv : W.cell? ⟨ob, 5, none⟩ = some (.slice va xs.length vc) := cell_blk h.kb
  have zv : W.frozen? ⟨ob, 5, none⟩ = false := frozen_blk h.kb
  have hxl' : (xs.length : Int) ≤ 1000000 := by omega
  have HC1 := Lib.hid (ttext_any (h.tk.ext (below_drew W)))
  have HAP : Hid (∀ (s1 : Bs) (w9 : World), Ext tb W.drew w9 → Tk w9 tb (((some r).bind Ob.txtT).map (·.2)) → Rs w0 tvb ovb tb ob C A w9 [f0, f1, f2, f3, f4, .slice va xs.length vc, f6] (((some r).bind Ob.txtT).map (·.2)) ∧ w9.ownsRow C 9 1 (.slice va xs.length vc) xs.length (cellsOf stC xs)) := fun s1 w9 hx ht =>
    ⟨HR0.out.take HK.out ((Ext.below (below_drew W)).trans hx) ht, owns_keep HO.out (fun g hg hl _ => hx.block g hl (by omega))⟩
  have HGR : Hid (∀ (s1 : Bs) (w9 w10 : World), C ≤ w9.heap.size → (w9.alloc (.cells #[.string (bs s1)] 9)).grownBy w10 (Value.slice va xs.length vc).ownBlock → Below C w9 w10) := fun s1 w9 w10 hc hg =>
    ((Below.refl _ _).alloc hc _).trans ((Below.refl _ _).grown hg (by simp; omega) HGE.out)
  clear h hK hown
  go_enter Tryz.func38, Tryz.ntmps38
  go_wp2_with fail
  go_region_law (first | (refine step_wanted rfl ?_; go_simp; go_at_call 31; refine HC1.out.mono ?_; rintro e w9 ⟨s1, rfl, hb1, hx9, htk9, hv9⟩; obtain ⟨hR9, hO9⟩ := HAP.out s1 w9 hx9 htk9; have HV9 := Lib.hid hv9; have HR9 := Lib.hid hR9; have HO9 := Lib.hid hO9; have o9 : w9.cell? ⟨ovb, 0, none⟩ = some (.pointer (some ⟨ob, 0, none⟩)) := cell_blk hR9.ko; have k9 : w9.cell? ⟨ob, 5, none⟩ = some (.slice va xs.length vc) := cell_blk hR9.kb; have z9 : w9.frozen? ⟨ob, 5, none⟩ = false := frozen_blk hR9.kb; have o9a : ∀ o', (w9.alloc o').cell? ⟨ovb, 0, none⟩ = some (.pointer (some ⟨ob, 0, none⟩)) := fun o' => cell_alloc o9 o'; have k9a : ∀ o', (w9.alloc o').cell? ⟨ob, 5, none⟩ = some (.slice va xs.length vc) := fun o' => cell_alloc k9 o'; have hC9 := hR9.CC; clear hR9 hO9 hv9 hx9 htk9) | (refine step_append_where rfl (.tmp 6) (.tmp 9) 42 rfl C 9 i3 (.string ⟨#[]⟩) 1 16 Tryz.underlying42 hi3 hz30 hz31 hz32 rfl (by decide) (.slice va xs.length vc) xs.length (cellsOf stC xs) (by simp [Act.eval]) (ownsRow_alloc HO9.out _) ⟨w9.heap.size, 0, none⟩ 1 1 [.string (bs s1)] (by simp [Act.eval]) rfl (news1 w9 _ _) (by intro u hu; simp at hu; subst hu; rfl) (by unfold maxLen; omega) (by omega) (Nat.le_trans hC9 (by simp)) ?_; intro v' w10 hown10 hgrow10 hwhere10; have hb10 := HGR.out s1 w9 w10 hC9 hgrow10; have o10 : w10.cell? ⟨ovb, 0, none⟩ = some (.pointer (some ⟨ob, 0, none⟩)) := (hb10.cell (p := ⟨ovb, 0, none⟩) q2).trans o9; have k10 : w10.cell? ⟨ob, 5, none⟩ = some (.slice va xs.length vc) := (hb10.cell (p := ⟨ob, 5, none⟩) q4).trans k9; have z10 : w10.frozen? ⟨ob, 5, none⟩ = false := (hb10.frozen (p := ⟨ob, 5, none⟩) q4).trans z9; obtain ⟨na, nc, hvv⟩ := owns_shape hown10; subst hvv))
  all_goals
    have HRF := Lib.hid ((HR9.out.grow HK.out hb10).put HK.out 5 (.slice na (xs.length + 1) nc))
    have HOF : Hid ((w10.setCell ⟨ob, 5, none⟩ (.slice na (xs.length + 1) nc)).ownsRow C 9 1 (.slice na (xs.length + 1) nc) (xs.length + 1) (cellsOf stC xs ++ [.string (bs s1)])) := owns_keep hown10 (fun g hg _ _ => Below.heap_setCell _ _ _ _ (by simp; omega))
    clear hgrow10 hwhere10 hown10 hb10
    go_wp2_with fail
    refine bodyPost_end (results_none rfl _ _ _) rfl ⟨rfl, s1, _, HRF.out, by rw [cellsOf_snoc]; exact HOF.out, hb1, HV9.out⟩
end Go.Proofs.YtijhpokclpdjpaaGreatDoor
/- The document's own Read: the names of what is used. -/
namespace Go.Proofs.YtijhpokclpdjpaaGreatDoor
open Go.RowKit
open Ob (Bs)
structure Ru (w0 : World) (tvb tb xb C : Nat) (A : World → Prop) (W : World) (s1 s2 : Bs) (nv : Value) (st : Option Bs) : Prop where
  kt : W.heap[tvb]? = some (.cells #[.pointer (some ⟨tb, 0, none⟩)] 74 (0, 0))
  kx : W.heap[xb]? = some (.cells #[.string (bs s1), .string (bs s2), nv] 56 (0, 0))
  tk : Tk W tb st
  a : A W
  bel : Below w0.heap.size w0 W
  n1 : tvb ≠ tb ∧ tvb ≠ xb ∧ xb ≠ tb
  l1 : tvb < C ∧ tb < C ∧ xb < C
  g1 : w0.heap.size ≤ tb ∧ w0.heap.size ≤ xb ∧ w0.heap.size ≤ C
  CC : C ≤ W.heap.size
section
variable {w0 : World} {tvb tb xb C : Nat} {A : World → Prop} {W W' : World} {s1 s2 : Bs} {nv : Value} {st st' : Option Bs}
theorem Ru.take (h : Ru w0 tvb tb xb C A W s1 s2 nv st) (hK : Keeps tb xb C A) (hx : Ext tb W W') (ht : Tk W' tb st') : Ru w0 tvb tb xb C A W' s1 s2 nv st' := by
  obtain ⟨p1, p2, p3⟩ := h.n1
  obtain ⟨q1, q2, q3⟩ := h.l1
  have hC := h.CC
  exact ⟨(hx.block tvb (by omega) p1).trans h.kt, (hx.block xb (by omega) p3).trans h.kx, ht, hK W W' h.a hC (fun k hk h1 _ => hx.block k (by omega) h1), h.bel.trans (hx.toBelow h.g1.1 h.bel.size), h.n1, h.l1, h.g1, Nat.le_trans hC hx.size⟩
theorem Ru.grow (h : Ru w0 tvb tb xb C A W s1 s2 nv st) (hK : Keeps tb xb C A) (hx : Below C W W') : Ru w0 tvb tb xb C A W' s1 s2 nv st := by
  obtain ⟨q1, q2, q3⟩ := h.l1
  have hC := h.CC
  obtain ⟨l, t1, t2⟩ := h.tk.c
  exact ⟨(hx.block tvb q1).trans h.kt, (hx.block xb q3).trans h.kx, ⟨l, (hx.block tb q2).trans t1, t2⟩, hK W W' h.a hC (fun k hk _ _ => hx.block k hk), h.bel.trans (hx.mono h.g1.2.2), h.n1, h.l1, h.g1, Nat.le_trans hC hx.size⟩
theorem Ru.put (h : Ru w0 tvb tb xb C A W s1 s2 nv st) (hK : Keeps tb xb C A) (v : Value) : Ru w0 tvb tb xb C A (W.setCell ⟨xb, 2, none⟩ v) s1 s2 v st := by
  obtain ⟨p1, p2, p3⟩ := h.n1
  have hC := h.CC
  have e : ∀ k, k ≠ xb → (W.setCell ⟨xb, 2, none⟩ v).heap[k]? = W.heap[k]? := fun k hk => Below.heap_setCell _ _ _ _ (by simpa using hk)
  obtain ⟨l, t1, t2⟩ := h.tk.c
  exact ⟨(e _ p2).trans h.kt, set_blk 2 v h.kx, ⟨l, (e _ (Ne.symm p3)).trans t1, t2⟩, hK W _ h.a hC (fun k _ _ h2 => e k h2), h.bel.trans (below_set (Below.refl _ _) h.g1.2.1 2 v), h.n1, h.l1, h.g1, by simpa using hC⟩
end
theorem news1' (w : World) (e : Nat) (v0 : Value) : ∀ j u, [v0][j]? = some u → (w.alloc (.cells #[v0] e)).cell? ((⟨w.heap.size, 0, none⟩ : Addr).add j) = some u := by
  intro j u hj
  match j, hj with
  | 0, hj => simp at hj; subst hj; simp [Addr.add]
set_option maxRecDepth 100000 in
set_option maxHeartbeats 8000000 in
theorem read_unames {w0 W : World} {tvb tb xb C : Nat} {A : World → Prop} {s1 s2 : Bs} {v : Value} {r : Bs} {xs : List Bs} (h : Ru w0 tvb tb xb C A W s1 s2 v (some r)) (hK : Keeps tb xb C A) (hown : W.ownsRow C 9 1 v xs.length (cellsOf stC xs)) (hxl : xs.length ≤ 1000000) :
    Calls Tryz.prog 36 #[.pointer (some ⟨xb, 0, none⟩), .pointer (some ⟨tvb, 0, none⟩)] W fun e w' => e = .returned (.tuple #[]) ∧ ∃ x v', Ru w0 tvb tb xb C A w' s1 s2 v' ((Ob.txtT r).map (·.2)) ∧ w'.ownsRow C 9 1 v' (xs.length + 1) (cellsOf stC (xs ++ [x])) ∧ x.length ≤ 1000000 ∧ ∀ y r', Ob.txtT r = some (y, r') → y = x := by
  obtain ⟨va, vc, rfl⟩ := owns_shape hown
  obtain ⟨i3, hi3, hz30, hz31, hz32⟩ := info_parts Tryz.infoString
  have HK := Lib.hid hK
  have HO := Lib.hid hown
  have HGE := Lib.hid (owns_row hown)
  have HR0 := Lib.hid h
  obtain ⟨p1, p2, p3⟩ := h.n1
  obtain ⟨q1, q2, q3⟩ := h.l1
  have hCW := h.CC
  have t0 : W.cell? ⟨tvb, 0, none⟩ = some (.pointer (some ⟨tb, 0, none⟩)) := cell_blk h.kt
  have kv : W.cell? ⟨xb, 2, none⟩ = some (.slice va xs.length vc) := cell_blk h.kx
  have zv : W.frozen? ⟨xb, 2, none⟩ = false := frozen_blk h.kx
  have hxl' : (xs.length : Int) ≤ 1000000 := by omega
  have HC1 := Lib.hid (ttext_any (h.tk.ext (below_drew W)))
  have HAP : Hid (∀ (s : Bs) (w9 : World), Ext tb W.drew w9 → Tk w9 tb (((some r).bind Ob.txtT).map (·.2)) → Ru w0 tvb tb xb C A w9 s1 s2 (.slice va xs.length vc) (((some r).bind Ob.txtT).map (·.2)) ∧ w9.ownsRow C 9 1 (.slice va xs.length vc) xs.length (cellsOf stC xs)) := fun s w9 hx ht =>
    ⟨HR0.out.take HK.out ((Ext.below (below_drew W)).trans hx) ht, owns_keep HO.out (fun g hg hl _ => hx.block g hl (by omega))⟩
  have HGR : Hid (∀ (s : Bs) (w9 w10 : World), C ≤ w9.heap.size → (w9.alloc (.cells #[.string (bs s)] 9)).grownBy w10 (Value.slice va xs.length vc).ownBlock → Below C w9 w10) := fun s w9 w10 hc hg =>
    ((Below.refl _ _).alloc hc _).trans ((Below.refl _ _).grown hg (by simp; omega) HGE.out)
  clear h hK hown
  go_enter Tryz.func36, Tryz.ntmps36
  go_wp2_with fail
  go_region_law (first | (refine step_wanted rfl ?_; go_simp; go_at_call 31; refine HC1.out.mono ?_; rintro e w9 ⟨s, rfl, hb1, hx9, htk9, hv9⟩; obtain ⟨hR9, hO9⟩ := HAP.out s w9 hx9 htk9; have HV9 := Lib.hid hv9; have HR9 := Lib.hid hR9; have HO9 := Lib.hid hO9; have k9 : w9.cell? ⟨xb, 2, none⟩ = some (.slice va xs.length vc) := cell_blk hR9.kx; have z9 : w9.frozen? ⟨xb, 2, none⟩ = false := frozen_blk hR9.kx; have k9a : ∀ o', (w9.alloc o').cell? ⟨xb, 2, none⟩ = some (.slice va xs.length vc) := fun o' => cell_alloc k9 o'; have hC9 := hR9.CC; clear hR9 hO9 hv9 hx9 htk9) | (refine step_append_where rfl (.tmp 3) (.tmp 6) 42 rfl C 9 i3 (.string ⟨#[]⟩) 1 16 Tryz.underlying42 hi3 hz30 hz31 hz32 rfl (by decide) (.slice va xs.length vc) xs.length (cellsOf stC xs) (by simp [Act.eval]) (ownsRow_alloc HO9.out _) ⟨w9.heap.size, 0, none⟩ 1 1 [.string (bs s)] (by simp [Act.eval]) rfl (news1' w9 _ _) (by intro u hu; simp at hu; subst hu; rfl) (by unfold maxLen; omega) (by omega) (Nat.le_trans hC9 (by simp)) ?_; intro v' w10 hown10 hgrow10 hwhere10; have hb10 := HGR.out s w9 w10 hC9 hgrow10; have k10 : w10.cell? ⟨xb, 2, none⟩ = some (.slice va xs.length vc) := (hb10.cell (p := ⟨xb, 2, none⟩) q3).trans k9; have z10 : w10.frozen? ⟨xb, 2, none⟩ = false := (hb10.frozen (p := ⟨xb, 2, none⟩) q3).trans z9; obtain ⟨na, nc, hvv⟩ := owns_shape hown10; subst hvv))
  all_goals
    have HRF := Lib.hid ((HR9.out.grow HK.out hb10).put HK.out (.slice na (xs.length + 1) nc))
    have HOF : Hid ((w10.setCell ⟨xb, 2, none⟩ (.slice na (xs.length + 1) nc)).ownsRow C 9 1 (.slice na (xs.length + 1) nc) (xs.length + 1) (cellsOf stC xs ++ [.string (bs s)])) := owns_keep hown10 (fun g hg _ _ => Below.heap_setCell _ _ _ _ (by simp; omega))
    clear hgrow10 hwhere10 hown10 hb10
    go_wp2_with fail
    refine bodyPost_end (results_none rfl _ _ _) rfl ⟨rfl, s, _, HRF.out, by rw [cellsOf_snoc]; exact HOF.out, hb1, HV9.out⟩
end Go.Proofs.YtijhpokclpdjpaaGreatDoor
/- The document's own Read: what is used. -/
namespace Go.Proofs.YtijhpokclpdjpaaGreatDoor
open Go.RowKit
open Ob (Bs)
theorem listT_seq {st2 st3 st' : Option Bs} {n : Int} {ys : List Bs} (hv : ∀ y r, st2.bind Ob.numT = some (y, r) → y = n) (h3 : st3 = (st2.bind Ob.numT).map (·.2)) (hd : (st3.bind (Ob.repR Ob.txtT n.toNat)).map (·.2) = st') (hy : ∀ zs r, st3.bind (Ob.repR Ob.txtT n.toNat) = some (zs, r) → zs = ys) :
    (st2.bind (Ob.listT Ob.txtT)).map (·.2) = st' ∧ ∀ zs r, st2.bind (Ob.listT Ob.txtT) = some (zs, r) → zs = ys := by
  cases st2 with
  | none => subst h3; exact ⟨hd, fun zs r h => by cases h⟩
  | some l =>
    simp only [Option.bind_some] at *
    unfold Ob.listT
    rcases h1 : Ob.numT l with _ | ⟨m, r3⟩
    · rw [h1] at h3
      subst h3
      exact ⟨hd, fun zs r h => by cases h⟩
    · have e1 := hv m r3 h1
      rw [h1] at h3
      subst h3
      simp only [Option.map_some, Option.bind_some] at *
      rw [e1]
      exact ⟨hd, hy⟩
theorem uses_seq {r s t : Bs} {ns : List Bs} (hx : ∀ y r', (some r).bind Ob.txtT = some (y, r') → y = s) (hy : ∀ y' r', (((some r).bind Ob.txtT).map (·.2)).bind Ob.txtT = some (y', r') → y' = t) (hz : ∀ y' r', (((((some r).bind Ob.txtT).map (·.2)).bind Ob.txtT).map (·.2)).bind (Ob.listT Ob.txtT) = some (y', r') → y' = ns) :
    (Ob.useT r).map (·.2) = ((((((some r).bind Ob.txtT).map (·.2)).bind Ob.txtT).map (·.2)).bind (Ob.listT Ob.txtT)).map (·.2) ∧ ∀ w r', Ob.useT r = some (w, r') → w = ⟨s, t, ns⟩ := seq3 (fun x y z => (⟨x, y, z⟩ : Ob.Us)) hx hy hz
theorem cfUn (args : Array Value) (w : World) : (callFunc 36 args).run Tryz.prog w = .ok (.enter 36 args) w := by kernel_rfl
/- what holds of an object's use while its names are read -/
def Jn (w0 : World) (tvb tb xb C : Nat) (A : World → Prop) (s1 s2 : Bs) (s0 : Option Bs) (k : Nat) (st : Option Bs) (Y : World) : Prop :=
  ∃ ys nv, Ru w0 tvb tb xb C A Y s1 s2 nv st ∧ Y.ownsRow C 9 1 nv ys.length (cellsOf stC ys) ∧ Rel Ob.txtT s0 k st ys ∧ ∀ y ∈ ys, y.length ≤ 1000000
theorem times_names {w0 W : World} {tvb tb xb C : Nat} {A : World → Prop} {s1 s2 : Bs} {s0 : Option Bs} (h : Ru w0 tvb tb xb C A W s1 s2 (.slice none 0 0) s0) (hK : Keeps tb xb C A) (n : Int) (hn : Ob.I64 n) :
    Calls Tryz.prog 32 #[.pointer (some ⟨tb, 0, none⟩), .int .i64 n, .func (.func 36) #[] #[.pointer (some ⟨xb, 0, none⟩), .pointer (some ⟨tvb, 0, none⟩)]] W fun e w' => e = .returned (.tuple #[]) ∧ ∃ k st', Jn w0 tvb tb xb C A s1 s2 s0 k st' w' ∧ k ≤ n.toNat ∧ ∀ r, st' = some r → k = n.toNat := by
  have hs : ∀ r, s0 = some r → r.length ≤ 999999 := fun r hr => by
    obtain ⟨l, _, hl, he⟩ := h.tk.c
    rw [he r hr]; exact hl
  refine ttimes_any (J := Jn w0 tvb tb xb C A s1 s2 s0) n hn (st := s0) ⟨[], _, h, World.ownsRow_nil _ _ _ _, Rel.zero _ _, fun y hy => by cases hy⟩ (fun k st Y hJ => by obtain ⟨_, _, h1, _⟩ := hJ; exact h1.tk) cfUn ?_
  rintro k r Y ⟨ys, nv, h1, h2, h3, h4⟩
  refine (read_unames h1 hK h2 (h3.room (fun l x r hh => txtT_lt hh) hs)).mono ?_
  rintro e w' ⟨he, x, v', g1, g2, g3, g4⟩
  refine ⟨he, _, ys ++ [x], v', g1, by simpa using g2, h3.next (fun l x r hh => txtT_lt hh) hs x g4, fun y hy => ?_⟩
  rcases List.mem_append.1 hy with hy | hy
  · exact h4 y hy
  · rw [List.mem_singleton.1 hy]; exact g3
set_option maxRecDepth 100000 in
set_option maxHeartbeats 8000000 in
theorem read_uses {w0 W : World} {tvb ovb tb ob C : Nat} {A : World → Prop} {f0 f1 f3 f4 f5 f6 v : Value} {r : Bs} {xs : List Ob.Us} (h : Rs w0 tvb ovb tb ob C A W [f0, f1, v, f3, f4, f5, f6] (some r)) (hK : Keeps tb ob C A) (hown : VUL C xs v W) (hxl : xs.length ≤ 1000000) :
    Calls Tryz.prog 35 #[.pointer (some ⟨tvb, 0, none⟩), .pointer (some ⟨ovb, 0, none⟩)] W fun e w' => e = .returned (.tuple #[]) ∧ ∃ x v', Rs w0 tvb ovb tb ob C A w' [f0, f1, v', f3, f4, f5, f6] ((Ob.useT r).map (·.2)) ∧ VUL C (xs ++ [x]) v' w' ∧ (x.name.length ≤ 1000000 ∧ x.names.length ≤ 1000000 ∧ ∀ y ∈ x.names, y.length ≤ 1000000) ∧ ∀ y r', Ob.useT r = some (y, r') → y = x := by
  have hmf : ∀ (fn : Fn) (first cap : Array Value) (w : World), (Instr.makeFunc fn first cap).run Tryz.prog w = .ok (.func fn first cap) w := fun _ _ _ _ => rfl
  obtain ⟨ucs, hrep, hown⟩ := hown
  obtain ⟨va, vc, rfl⟩ := owns_shape hown
  obtain ⟨i3, hi3, hz30, hz31, hz32⟩ := info_parts Tryz.infoUse
  have HK := Lib.hid hK
  have HO := Lib.hid hown
  have HRP := Lib.hid hrep
  have HLT := Lib.hid (owns_lt hown)
  have HGE := Lib.hid (owns_row hown)
  have HR0 := Lib.hid h
  obtain ⟨p1, p2, p3, p4, p5⟩ := h.n1
  obtain ⟨q1, q2, q3, q4⟩ := h.l1
  have hCW := h.CC
  have t0 : W.cell? ⟨tvb, 0, none⟩ = some (.pointer (some ⟨tb, 0, none⟩)) := cell_blk h.kt
  have htv0 : tvb < W.heap.size := lt_of_cell t0
  have hxl' : (xs.length : Int) ≤ 1000000 := by omega
  have HC1 := Lib.hid (ttext_any h.tk)
  have HG1 := Lib.hid h.g1
  clear h hK hown hrep
  go_enter Tryz.func35, Tryz.ntmps35
  go_wp2_with fail
  refine HC1.out.mono ?_
  rintro e W1 ⟨s1, rfl, hb1, hx1, htk1, hv1⟩
  have HR1 := Lib.hid (HR0.out.take HK.out hx1 htk1)
  have t1 : W1.cell? ⟨tvb, 0, none⟩ = some (.pointer (some ⟨tb, 0, none⟩)) := cell_blk HR1.out.kt
  have htv1 : tvb < W1.heap.size := lt_of_cell t1
  have HV1 := Lib.hid hv1
  have hs01 := hx1.size
  obtain ⟨xb, hxb⟩ : ∃ xb, xb = W1.heap.size := ⟨_, rfl⟩
  obtain ⟨W2, hW2⟩ : ∃ W2, W2 = W1.alloc (.cells #[.string (bs s1), .string ⟨#[]⟩, .slice none 0 0] 56) := ⟨_, rfl⟩
  have hbA : Below W1.heap.size W1 W2 := by rw [hW2]; exact (Below.refl _ _).alloc (Nat.le_refl _) _
  have hk2 : W2.heap[xb]? = some (.cells #[.string (bs s1), .string ⟨#[]⟩, .slice none 0 0] 56 (0, 0)) := by rw [hW2, hxb]; exact new_blk _ _
  have HR2 := Lib.hid (HR1.out.new HK.out hbA)
  have HKP2 : Hid (∀ g, g < W.heap.size → g ≠ tb → W2.heap[g]? = W.heap[g]?) := fun g hl hg => (hbA.block g (by omega)).trans (hx1.block g hl hg)
  have hxbC : W.heap.size ≤ xb := by omega
  have HXB := Lib.hid hxbC
  have t2 : W2.cell? ⟨tvb, 0, none⟩ = some (.pointer (some ⟨tb, 0, none⟩)) := cell_blk HR2.out.kt
  have htv2 : tvb < W2.heap.size := lt_of_cell t2
  have htvx2 : tvb ≠ xb := by omega
  have htbx : tb ≠ xb := by omega
  have hxl2 : xb < W2.heap.size := lt_blk hk2
  have HC2 := Lib.hid (ttext_any HR2.out.tk)
  have HW2 := Lib.hid hW2
  clear hx1 htk1 hv1 HC1 HR1 t0 hW2
  go_wp2_with fail
  rw [← HW2.out, ← hxb]
  clear HW2 hbA hs01 htv0 t1 htv1
  clear hxb
  refine HC2.out.mono ?_
  rintro e W3 ⟨s2, rfl, hb2, hx, htk, hv⟩
  have HV2 := Lib.hid hv
  have HRn := Lib.hid (HR2.out.take HK.out hx htk)
  have hkn : W3.heap[xb]? = some (.cells #[.string (bs s1), .string ⟨#[]⟩, .slice none 0 0] 56 (0, 0)) := (hx.block xb hxl2 (by omega)).trans hk2
  have kc : W3.cell? ⟨xb, 1, none⟩ = some (.string ⟨#[]⟩) := cell_blk hkn
  have kz : W3.frozen? ⟨xb, 1, none⟩ = false := frozen_blk hkn
  obtain ⟨W4, hW4⟩ : ∃ w, w = W3.setCell ⟨xb, 1, none⟩ (.string (bs s2)) := ⟨_, rfl⟩
  have hk4 : W4.heap[xb]? = some (.cells #[.string (bs s1), .string (bs s2), .slice none 0 0] 56 (0, 0)) := by rw [hW4]; exact set_blk 1 (.string (bs s2)) hkn
  have HR4 : Hid (Rs w0 tvb ovb tb ob C A W4 [f0, f1, .slice va xs.length vc, f3, f4, f5, f6] ((((some r).bind Ob.txtT).map (·.2)).bind Ob.txtT |>.map (·.2))) := by rw [hW4]; exact HRn.out.grow HK.out (below_set (Below.refl _ _) (by omega) 1 _)
  have HKP4 : Hid (∀ g, g < W.heap.size → g ≠ tb → W4.heap[g]? = W.heap[g]?) := fun g hl hg => by
    rw [hW4, Below.heap_setCell _ _ _ _ (by have := HXB.out; simp; omega)]
    exact (hx.block g (by have := HXB.out; omega) hg).trans (HKP2.out g hl hg)
  obtain ⟨st2, hst2⟩ : ∃ st2, st2 = ((((some r).bind Ob.txtT).map (·.2)).bind Ob.txtT |>.map (·.2)) := ⟨_, rfl⟩
  rw [← hst2] at HR4
  have HST2 := Lib.hid hst2
  have t4 : W4.cell? ⟨tvb, 0, none⟩ = some (.pointer (some ⟨tb, 0, none⟩)) := cell_blk HR4.out.kt
  have tn : W3.cell? ⟨tvb, 0, none⟩ = some (.pointer (some ⟨tb, 0, none⟩)) := cell_blk HRn.out.kt
  have htv4 : tvb < W4.heap.size := lt_of_cell t4
  have hxln : xb < W3.heap.size := lt_blk hkn
  have hxl4 : xb < W4.heap.size := lt_blk hk4
  have HXL4 := Lib.hid hxl4
  have HK2 : Hid (Keeps tb xb W4.heap.size (fun Y => ∀ k, k < W.heap.size → k ≠ tb → Y.heap[k]? = W.heap[k]?)) := fun Y Y' hY _ hYY k hk hkt => (hYY k (by have := HXB.out; omega) hkt (by have := HXB.out; omega)).trans (hY k hk hkt)
  have HRU : Hid (Ru w0 tvb tb xb W4.heap.size (fun Y => ∀ k, k < W.heap.size → k ≠ tb → Y.heap[k]? = W.heap[k]?) W4.drew s1 s2 (.slice none 0 0) st2) :=
    ⟨HR4.out.kt, hk4, HR4.out.tk.ext (below_drew W4), HKP4.out, HR4.out.bel.drew, ⟨p1, htvx2, Ne.symm htbx⟩, ⟨htv4, HR4.out.tk.lt, hxl4⟩, ⟨HG1.out.1, by have := HG1.out.2.2; have := HXB.out; omega, by have := HG1.out.2.2; have := HR4.out.CC; omega⟩, Nat.le_refl _⟩
  have HC3 := Lib.hid (tnum_any HRU.out.tk)
  have HC4 : Hid (∀ (Y : World) (n : Int), Ru w0 tvb tb xb W4.heap.size (fun Y => ∀ k, k < W.heap.size → k ≠ tb → Y.heap[k]? = W.heap[k]?) Y s1 s2 (.slice none 0 0) ((st2.bind Ob.numT).map (·.2)) → Ob.I64 n → Calls Tryz.prog 32 #[.pointer (some ⟨tb, 0, none⟩), .int .i64 n, .func (.func 36) #[] #[.pointer (some ⟨xb, 0, none⟩), .pointer (some ⟨tvb, 0, none⟩)]] Y fun e w' => e = .returned (.tuple #[]) ∧ ∃ k st', Jn w0 tvb tb xb W4.heap.size (fun Y => ∀ k, k < W.heap.size → k ≠ tb → Y.heap[k]? = W.heap[k]?) s1 s2 ((st2.bind Ob.numT).map (·.2)) k st' w' ∧ k ≤ n.toNat ∧ ∀ r, st' = some r → k = n.toNat) := fun Y n hY hn => times_names hY HK2.out n hn
  have HS0 : Hid (W4.drew.cell? ⟨tvb, 0, none⟩ = some (.pointer (some ⟨tb, 0, none⟩))) := t4
  clear hx htk hv HC2 HR2 hk2 t2 htv2 hxl2 HKP2 HRn hkn hst2
  go_upto_region 2 with fail
  rw [← hW4]
  clear hW4 kc kz hxln tn
  go_region_held3 (fun Y => Y.cell? ⟨tvb, 0, none⟩ = some (.pointer (some ⟨tb, 0, none⟩))) (with_reducible (first | exact HS2.out | exact HS1.out | exact HS0.out)) (first | (go_at_call 33; refine HC3.out.mono ?_; rintro e W5 ⟨⟨n, rfl, hx5, htk5, hv5⟩, hI5⟩; have hn5 := hI5 n rfl; have hR5 := HRU.out.take HK2.out hx5 htk5; have HR5 := Lib.hid hR5; have HV5 := Lib.hid hv5; have HS1 : Hid (W5.cell? ⟨tvb, 0, none⟩ = some (.pointer (some ⟨tb, 0, none⟩))) := cell_blk hR5.kt; clear hx5 htk5 hv5 hI5 hR5) | (go_at_call 32; refine (HC4.out _ n HR5.out hn5).mono ?_; rintro e W6 ⟨rfl, k6, st6, hJ6, hk6, he6⟩; obtain ⟨ys, nv, hU6, hO6, hL6, hB6⟩ := hJ6; have HS2 : Hid (W6.cell? ⟨tvb, 0, none⟩ = some (.pointer (some ⟨tb, 0, none⟩))) := cell_blk hU6.kt; have HU6 := Lib.hid hU6; have HO6 := Lib.hid hO6; have HD6 := Lib.hid (hL6.done hk6 he6); have HL6 := Lib.hid hL6; have HB6 := Lib.hid hB6; clear hU6 hO6 hL6 hB6 hk6 he6))
  all_goals
    obtain ⟨na, nc, rfl⟩ := owns_shape HO6.out
    have hEX : Ext tb W W6 := ⟨HU6.out.bel.os.trans HR0.out.bel.os.symm, HU6.out.bel.tape.trans HR0.out.bel.tape.symm, HU6.out.bel.output.trans HR0.out.bel.output.symm, by have := HU6.out.CC; have := HXB.out; omega, fun k hk hne => HU6.out.a k hk hne⟩
    have HR6 := Lib.hid (HR0.out.take HK.out hEX HU6.out.tk)
    obtain ⟨z1, z2⟩ := listT_seq (st' := st6) (ys := ys) HV5.out rfl HD6.out.1 HD6.out.2
    rw [HST2.out] at z1 z2
    obtain ⟨u1, u2⟩ := uses_seq HV1.out HV2.out z2
    rw [z1] at u1
    have HU1 := Lib.hid u1
    have HU2 := Lib.hid u2
    have hkx : W6.heap[xb]? = some (.cells #[.string (bs s1), .string (bs s2), .slice na ys.length nc] 56 (0, 0)) := HU6.out.kx
    have HOW : Hid (W6.ownsRow C 56 3 (.slice va xs.length vc) xs.length ucs) := owns_keep HO.out (fun g hg hl _ => hEX.block g hl (by omega))
    have HRP6 : Hid (RepU W6 (fun b => C ≤ b ∧ (Value.slice va xs.length vc).ownBlock ≠ some b) xs ucs) := RepU.mono (fun b hb hl => ⟨hEX.block b hl (by omega), hb⟩) _ _ HRP.out
    have HW4W6 := Lib.hid HU6.out.CC
    clear u1 u2 z1 z2 hEX HD6 HV5 HR5 HC3 HC4 HRU HK2 HR4 HKP4 hk4 t4 htv4 HS0 HS1 HS2 HST2
    have o0 : W6.cell? ⟨ovb, 0, none⟩ = some (.pointer (some ⟨ob, 0, none⟩)) := cell_blk HR6.out.ko
    have kv : W6.cell? ⟨ob, 2, none⟩ = some (.slice va xs.length vc) := cell_blk HR6.out.kb
    have zv : W6.frozen? ⟨ob, 2, none⟩ = false := frozen_blk HR6.out.kb
    have hobl : ob < W6.heap.size := lt_of_cell kv
    have hovl : ovb < W6.heap.size := lt_of_cell o0
    have hxl6 : xb < W6.heap.size := lt_blk hkx
    have kva : ∀ o', (W6.alloc o').cell? ⟨ob, 2, none⟩ = some (.slice va xs.length vc) := fun o' => cell_alloc kv o'
    have oa : ∀ o', (W6.alloc o').cell? ⟨ovb, 0, none⟩ = some (.pointer (some ⟨ob, 0, none⟩)) := fun o' => cell_alloc o0 o'
    have hCL : C ≤ W6.heap.size := HR6.out.CC
    have x0 : W6.cell? ⟨xb, 0, none⟩ = some (.string (bs s1)) := cell_blk hkx
    have x1 : W6.cell? ⟨xb, 1, none⟩ = some (.string (bs s2)) := cell_blk hkx
    have x2 : W6.cell? ⟨xb, 2, none⟩ = some (.slice na ys.length nc) := cell_blk hkx
    have HAP : Hid (∀ (v' : Value) (w10 : World), ((W6.alloc (.cells #[.string (bs s1), .string (bs s2), .slice na ys.length nc] 56)).drew).grownBy w10 (Value.slice va xs.length vc).ownBlock → (∀ g, v'.ownBlock = some g → (Value.slice va xs.length vc).ownBlock = some g ∨ ((W6.alloc (.cells #[.string (bs s1), .string (bs s2), .slice na ys.length nc] 56)).drew).heap.size ≤ g) → Below C W6 w10 ∧ Exact (.slice va xs.length vc) v' W6 w10) := fun v' w10 hg hw => by
      have hbb : Below W6.heap.size W6 (W6.alloc (.cells #[.string (bs s1), .string (bs s2), .slice na ys.length nc] 56)).drew := ((Below.refl _ _).alloc (Nat.le_refl _) _).drew
      exact ⟨(hbb.mono hCL).trans ((Below.refl _ _).grown hg (Nat.le_trans hCL hbb.size) HGE.out), Exact.ahead hbb (Exact.of hg hw)⟩
    clear hkx hxl4 htvx2 htbx
    go_wp2_with fail
    go_region_law (first | (refine step_append_where rfl (.tmp 18) (.tmp 20) 39 rfl C 56 i3 (.agg #[.string ⟨#[]⟩, .string ⟨#[]⟩, .slice none 0 0]) 3 56 Tryz.underlying39 hi3 hz30 hz31 hz32 rfl (by decide) (.slice va xs.length vc) xs.length ucs (by simp [Act.eval]) (owns_below (ownsRow_alloc HOW.out _) (below_drew _)) ⟨W6.heap.size, 0, none⟩ 1 1 [.string (bs s1), .string (bs s2), .slice na ys.length nc] (by simp [Act.eval]) rfl (news3 W6 _ _ _ _) (by intro u hu; simp at hu; rcases hu with rfl | rfl | rfl <;> rfl) (by unfold maxLen; omega) (by omega) (Nat.le_trans hCL (by simp)) ?_; intro v' w10 hown10 hgrow10 hwhere10; obtain ⟨hb10, hex10⟩ := HAP.out v' w10 hgrow10 hwhere10; have o10 : w10.cell? ⟨ovb, 0, none⟩ = some (.pointer (some ⟨ob, 0, none⟩)) := (hb10.cell (p := ⟨ovb, 0, none⟩) q2).trans o0; have k10 : w10.cell? ⟨ob, 2, none⟩ = some (.slice va xs.length vc) := (hb10.cell (p := ⟨ob, 2, none⟩) q4).trans kv; have z10 : w10.frozen? ⟨ob, 2, none⟩ = false := (hb10.frozen (p := ⟨ob, 2, none⟩) q4).trans zv; obtain ⟨na2, nc2, hvv⟩ := owns_shape hown10; subst hvv))
    all_goals
      have HRF := Lib.hid ((HR6.out.grow HK.out hb10).put HK.out 2 (.slice na2 (xs.length + 1) nc2))
      have HVU : Hid (VUL C (xs ++ [(⟨s1, s2, ys⟩ : Ob.Us)]) (.slice na2 (xs.length + 1) nc2) (w10.setCell ⟨ob, 2, none⟩ (.slice na2 (xs.length + 1) nc2))) := (VUL.next (u := ⟨s1, s2, ys⟩) (fun g hg => by have := HLT.out g hg; have := HXL4.out; have := HXB.out; omega) (by have := HXB.out; have := HXL4.out; omega) ucs HRP6.out HO6.out hex10 hown10).ext ((Ext.refl ob w10).set 2 _) q4
      clear hgrow10 hwhere10 hown10 hb10 hex10
      go_wp2_with fail
      refine bodyPost_end (results_none rfl _ _ _) rfl ⟨rfl, ⟨s1, s2, ys⟩, _, by rw [HU1.out]; exact HRF.out, HVU.out, ⟨hb1, by have h1 := HL6.out.1; have h2 := HL6.out.2.1; show ys.length ≤ _; omega, HB6.out⟩, HU2.out⟩
end Go.Proofs.YtijhpokclpdjpaaGreatDoor
/- The document's own Read: each list. -/
namespace Go.Proofs.YtijhpokclpdjpaaGreatDoor
open Go.RowKit
open Ob (Bs)
theorem cfSyms (args : Array Value) (w : World) : (callFunc 34 args).run Tryz.prog w = .ok (.enter 34 args) w := by kernel_rfl
def JSyms (w0 : World) (tvb ovb tb ob C : Nat) (A : World → Prop) (f0 f2 f3 f4 f5 f6 : Value) (s0 : Option Bs) (k : Nat) (st : Option Bs) (Y : World) : Prop :=
  ∃ (xs : List Ob.Sm) (v : Value), Rs w0 tvb ovb tb ob C A Y [f0, v, f2, f3, f4, f5, f6] st ∧ Y.ownsRow C 52 3 v xs.length (cellsOf smC xs) ∧ Rel Ob.symT s0 k st xs ∧ ∀ x ∈ xs, x.name.length ≤ 1000000
theorem timesSyms {w0 W : World} {tvb ovb tb ob C : Nat} {A : World → Prop} {f0 f2 f3 f4 f5 f6 : Value} {s0 : Option Bs} (h : Rs w0 tvb ovb tb ob C A W [f0, .slice none 0 0, f2, f3, f4, f5, f6] s0) (hK : Keeps tb ob C A) (n : Int) (hn : Ob.I64 n) :
    Calls Tryz.prog 32 #[.pointer (some ⟨tb, 0, none⟩), .int .i64 n, .func (.func 34) #[] #[.pointer (some ⟨tvb, 0, none⟩), .pointer (some ⟨ovb, 0, none⟩)]] W fun e w' => e = .returned (.tuple #[]) ∧ ∃ k st', JSyms w0 tvb ovb tb ob C A f0 f2 f3 f4 f5 f6 s0 k st' w' ∧ k ≤ n.toNat ∧ ∀ r, st' = some r → k = n.toNat := by
  have hs : ∀ r, s0 = some r → r.length ≤ 999999 := fun r hr => by
    obtain ⟨l, _, hl, he⟩ := h.tk.c
    rw [he r hr]; exact hl
  refine ttimes_any (J := JSyms w0 tvb ovb tb ob C A f0 f2 f3 f4 f5 f6 s0) n hn (st := s0) ⟨[], _, h, World.ownsRow_nil _ _ _ _, Rel.zero _ _, fun y hy => by cases hy⟩ (fun k st Y hJ => by obtain ⟨_, _, h1, _⟩ := hJ; exact h1.tk) cfSyms ?_
  rintro k r Y ⟨xs, v, h1, h2, h3, h4⟩
  refine (read_syms h1 hK h2 (h3.room (fun l x r hh => symT_lt hh) hs)).mono ?_
  rintro e w' ⟨he, x, v', g1, g2, g3, g4⟩
  refine ⟨he, _, xs ++ [x], v', g1, by simpa using g2, h3.next (fun l x r hh => symT_lt hh) hs x g4, fun y hy => ?_⟩
  rcases List.mem_append.1 hy with hy | hy
  · exact h4 y hy
  · rw [List.mem_singleton.1 hy]; exact g3
theorem cfProcs (args : Array Value) (w : World) : (callFunc 39 args).run Tryz.prog w = .ok (.enter 39 args) w := by kernel_rfl
def JProcs (w0 : World) (tvb ovb tb ob C : Nat) (A : World → Prop) (f0 f1 f2 f3 f5 f6 : Value) (s0 : Option Bs) (k : Nat) (st : Option Bs) (Y : World) : Prop :=
  ∃ (xs : List Ob.En) (v : Value), Rs w0 tvb ovb tb ob C A Y [f0, f1, f2, f3, v, f5, f6] st ∧ Y.ownsRow C 47 3 v xs.length (cellsOf enC xs) ∧ Rel Ob.enT s0 k st xs ∧ ∀ x ∈ xs, Ob.I64 x.args
theorem timesProcs {w0 W : World} {tvb ovb tb ob C : Nat} {A : World → Prop} {f0 f1 f2 f3 f5 f6 : Value} {s0 : Option Bs} (h : Rs w0 tvb ovb tb ob C A W [f0, f1, f2, f3, .slice none 0 0, f5, f6] s0) (hK : Keeps tb ob C A) (n : Int) (hn : Ob.I64 n) :
    Calls Tryz.prog 32 #[.pointer (some ⟨tb, 0, none⟩), .int .i64 n, .func (.func 39) #[] #[.pointer (some ⟨tvb, 0, none⟩), .pointer (some ⟨ovb, 0, none⟩)]] W fun e w' => e = .returned (.tuple #[]) ∧ ∃ k st', JProcs w0 tvb ovb tb ob C A f0 f1 f2 f3 f5 f6 s0 k st' w' ∧ k ≤ n.toNat ∧ ∀ r, st' = some r → k = n.toNat := by
  have hs : ∀ r, s0 = some r → r.length ≤ 999999 := fun r hr => by
    obtain ⟨l, _, hl, he⟩ := h.tk.c
    rw [he r hr]; exact hl
  refine ttimes_any (J := JProcs w0 tvb ovb tb ob C A f0 f1 f2 f3 f5 f6 s0) n hn (st := s0) ⟨[], _, h, World.ownsRow_nil _ _ _ _, Rel.zero _ _, fun y hy => by cases hy⟩ (fun k st Y hJ => by obtain ⟨_, _, h1, _⟩ := hJ; exact h1.tk) cfProcs ?_
  rintro k r Y ⟨xs, v, h1, h2, h3, h4⟩
  refine (read_procs h1 hK h2 (h3.room (fun l x r hh => enT_lt hh) hs)).mono ?_
  rintro e w' ⟨he, x, v', g1, g2, g3, g4⟩
  refine ⟨he, _, xs ++ [x], v', g1, by simpa using g2, h3.next (fun l x r hh => enT_lt hh) hs x g4, fun y hy => ?_⟩
  rcases List.mem_append.1 hy with hy | hy
  · exact h4 y hy
  · rw [List.mem_singleton.1 hy]; exact g3
theorem cfCode (args : Array Value) (w : World) : (callFunc 40 args).run Tryz.prog w = .ok (.enter 40 args) w := by kernel_rfl
def JCode (w0 : World) (tvb ovb tb ob C : Nat) (A : World → Prop) (f0 f1 f2 f3 f4 f5 : Value) (s0 : Option Bs) (k : Nat) (st : Option Bs) (Y : World) : Prop :=
  ∃ (xs : List Ob.In) (v : Value), Rs w0 tvb ovb tb ob C A Y [f0, f1, f2, f3, f4, f5, v] st ∧ Y.ownsRow C 49 3 v xs.length (cellsOf inC xs) ∧ Rel Ob.inT s0 k st xs ∧ ∀ x ∈ xs, Ob.I64 x.a
theorem timesCode {w0 W : World} {tvb ovb tb ob C : Nat} {A : World → Prop} {f0 f1 f2 f3 f4 f5 : Value} {s0 : Option Bs} (h : Rs w0 tvb ovb tb ob C A W [f0, f1, f2, f3, f4, f5, .slice none 0 0] s0) (hK : Keeps tb ob C A) (n : Int) (hn : Ob.I64 n) :
    Calls Tryz.prog 32 #[.pointer (some ⟨tb, 0, none⟩), .int .i64 n, .func (.func 40) #[] #[.pointer (some ⟨tvb, 0, none⟩), .pointer (some ⟨ovb, 0, none⟩)]] W fun e w' => e = .returned (.tuple #[]) ∧ ∃ k st', JCode w0 tvb ovb tb ob C A f0 f1 f2 f3 f4 f5 s0 k st' w' ∧ k ≤ n.toNat ∧ ∀ r, st' = some r → k = n.toNat := by
  have hs : ∀ r, s0 = some r → r.length ≤ 999999 := fun r hr => by
    obtain ⟨l, _, hl, he⟩ := h.tk.c
    rw [he r hr]; exact hl
  refine ttimes_any (J := JCode w0 tvb ovb tb ob C A f0 f1 f2 f3 f4 f5 s0) n hn (st := s0) ⟨[], _, h, World.ownsRow_nil _ _ _ _, Rel.zero _ _, fun y hy => by cases hy⟩ (fun k st Y hJ => by obtain ⟨_, _, h1, _⟩ := hJ; exact h1.tk) cfCode ?_
  rintro k r Y ⟨xs, v, h1, h2, h3, h4⟩
  refine (read_code h1 hK h2 (h3.room (fun l x r hh => inT_lt hh) hs)).mono ?_
  rintro e w' ⟨he, x, v', g1, g2, g3, g4⟩
  refine ⟨he, _, xs ++ [x], v', g1, by simpa using g2, h3.next (fun l x r hh => inT_lt hh) hs x g4, fun y hy => ?_⟩
  rcases List.mem_append.1 hy with hy | hy
  · exact h4 y hy
  · rw [List.mem_singleton.1 hy]; exact g3
theorem cfNames (args : Array Value) (w : World) : (callFunc 38 args).run Tryz.prog w = .ok (.enter 38 args) w := by kernel_rfl
def JNames (w0 : World) (tvb ovb tb ob C : Nat) (A : World → Prop) (f0 f1 f2 f3 f4 f6 : Value) (s0 : Option Bs) (k : Nat) (st : Option Bs) (Y : World) : Prop :=
  ∃ (xs : List Bs) (v : Value), Rs w0 tvb ovb tb ob C A Y [f0, f1, f2, f3, f4, v, f6] st ∧ Y.ownsRow C 9 1 v xs.length (cellsOf stC xs) ∧ Rel Ob.txtT s0 k st xs ∧ ∀ x ∈ xs, x.length ≤ 1000000
theorem timesNames {w0 W : World} {tvb ovb tb ob C : Nat} {A : World → Prop} {f0 f1 f2 f3 f4 f6 : Value} {s0 : Option Bs} (h : Rs w0 tvb ovb tb ob C A W [f0, f1, f2, f3, f4, .slice none 0 0, f6] s0) (hK : Keeps tb ob C A) (n : Int) (hn : Ob.I64 n) :
    Calls Tryz.prog 32 #[.pointer (some ⟨tb, 0, none⟩), .int .i64 n, .func (.func 38) #[] #[.pointer (some ⟨ovb, 0, none⟩), .pointer (some ⟨tvb, 0, none⟩)]] W fun e w' => e = .returned (.tuple #[]) ∧ ∃ k st', JNames w0 tvb ovb tb ob C A f0 f1 f2 f3 f4 f6 s0 k st' w' ∧ k ≤ n.toNat ∧ ∀ r, st' = some r → k = n.toNat := by
  have hs : ∀ r, s0 = some r → r.length ≤ 999999 := fun r hr => by
    obtain ⟨l, _, hl, he⟩ := h.tk.c
    rw [he r hr]; exact hl
  refine ttimes_any (J := JNames w0 tvb ovb tb ob C A f0 f1 f2 f3 f4 f6 s0) n hn (st := s0) ⟨[], _, h, World.ownsRow_nil _ _ _ _, Rel.zero _ _, fun y hy => by cases hy⟩ (fun k st Y hJ => by obtain ⟨_, _, h1, _⟩ := hJ; exact h1.tk) cfNames ?_
  rintro k r Y ⟨xs, v, h1, h2, h3, h4⟩
  refine (read_names h1 hK h2 (h3.room (fun l x r hh => txtT_lt hh) hs)).mono ?_
  rintro e w' ⟨he, x, v', g1, g2, g3, g4⟩
  refine ⟨he, _, xs ++ [x], v', g1, by simpa using g2, h3.next (fun l x r hh => txtT_lt hh) hs x g4, fun y hy => ?_⟩
  rcases List.mem_append.1 hy with hy | hy
  · exact h4 y hy
  · rw [List.mem_singleton.1 hy]; exact g3
theorem cfVars (args : Array Value) (w : World) : (callFunc 37 args).run Tryz.prog w = .ok (.enter 37 args) w := by kernel_rfl
def JVars (w0 : World) (tvb ovb tb ob C : Nat) (A : World → Prop) (f0 f1 f2 f4 f5 f6 : Value) (s0 : Option Bs) (k : Nat) (st : Option Bs) (Y : World) : Prop :=
  ∃ (xs : List Ob.Gl) (v : Value), Rs w0 tvb ovb tb ob C A Y [f0, f1, f2, v, f4, f5, f6] st ∧ Y.ownsRow C 54 4 v xs.length (cellsOf glC xs) ∧ Rel Ob.glT s0 k st xs ∧ ∀ x ∈ xs, x.name.length ≤ 1000000
theorem timesVars {w0 W : World} {tvb ovb tb ob C : Nat} {A : World → Prop} {f0 f1 f2 f4 f5 f6 : Value} {s0 : Option Bs} (h : Rs w0 tvb ovb tb ob C A W [f0, f1, f2, .slice none 0 0, f4, f5, f6] s0) (hK : Keeps tb ob C A) (n : Int) (hn : Ob.I64 n) :
    Calls Tryz.prog 32 #[.pointer (some ⟨tb, 0, none⟩), .int .i64 n, .func (.func 37) #[] #[.pointer (some ⟨tvb, 0, none⟩), .pointer (some ⟨ovb, 0, none⟩)]] W fun e w' => e = .returned (.tuple #[]) ∧ ∃ k st', JVars w0 tvb ovb tb ob C A f0 f1 f2 f4 f5 f6 s0 k st' w' ∧ k ≤ n.toNat ∧ ∀ r, st' = some r → k = n.toNat := by
  have hs : ∀ r, s0 = some r → r.length ≤ 999999 := fun r hr => by
    obtain ⟨l, _, hl, he⟩ := h.tk.c
    rw [he r hr]; exact hl
  refine ttimes_any (J := JVars w0 tvb ovb tb ob C A f0 f1 f2 f4 f5 f6 s0) n hn (st := s0) ⟨[], _, h, World.ownsRow_nil _ _ _ _, Rel.zero _ _, fun y hy => by cases hy⟩ (fun k st Y hJ => by obtain ⟨_, _, h1, _⟩ := hJ; exact h1.tk) cfVars ?_
  rintro k r Y ⟨xs, v, h1, h2, h3, h4⟩
  refine (read_vars h1 hK h2 (h3.room (fun l x r hh => glT_lt hh) hs)).mono ?_
  rintro e w' ⟨he, ⟨hn0, g1, g2⟩ | ⟨x, v', g1, g2, g3, g4⟩⟩
  · exact ⟨he, none, xs, v, g1, g2, h3.bad (fun l x r hh => glT_lt hh) hs hn0, h4⟩
  · refine ⟨he, _, xs ++ [x], v', g1, by simpa using g2, h3.next (fun l x r hh => glT_lt hh) hs x g4, fun y hy => ?_⟩
    rcases List.mem_append.1 hy with hy | hy
    · exact h4 y hy
    · rw [List.mem_singleton.1 hy]; exact g3
theorem cfUses (args : Array Value) (w : World) : (callFunc 35 args).run Tryz.prog w = .ok (.enter 35 args) w := by kernel_rfl
def JUses (w0 : World) (tvb ovb tb ob C : Nat) (A : World → Prop) (f0 f1 f3 f4 f5 f6 : Value) (s0 : Option Bs) (k : Nat) (st : Option Bs) (Y : World) : Prop :=
  ∃ (xs : List Ob.Us) (v : Value), Rs w0 tvb ovb tb ob C A Y [f0, f1, v, f3, f4, f5, f6] st ∧ VUL C xs v Y ∧ Rel Ob.useT s0 k st xs ∧ ∀ x ∈ xs, x.name.length ≤ 1000000 ∧ x.names.length ≤ 1000000 ∧ ∀ y ∈ x.names, y.length ≤ 1000000
theorem timesUses {w0 W : World} {tvb ovb tb ob C : Nat} {A : World → Prop} {f0 f1 f3 f4 f5 f6 : Value} {s0 : Option Bs} (h : Rs w0 tvb ovb tb ob C A W [f0, f1, .slice none 0 0, f3, f4, f5, f6] s0) (hK : Keeps tb ob C A) (n : Int) (hn : Ob.I64 n) :
    Calls Tryz.prog 32 #[.pointer (some ⟨tb, 0, none⟩), .int .i64 n, .func (.func 35) #[] #[.pointer (some ⟨tvb, 0, none⟩), .pointer (some ⟨ovb, 0, none⟩)]] W fun e w' => e = .returned (.tuple #[]) ∧ ∃ k st', JUses w0 tvb ovb tb ob C A f0 f1 f3 f4 f5 f6 s0 k st' w' ∧ k ≤ n.toNat ∧ ∀ r, st' = some r → k = n.toNat := by
  have hs : ∀ r, s0 = some r → r.length ≤ 999999 := fun r hr => by
    obtain ⟨l, _, hl, he⟩ := h.tk.c
    rw [he r hr]; exact hl
  refine ttimes_any (J := JUses w0 tvb ovb tb ob C A f0 f1 f3 f4 f5 f6 s0) n hn (st := s0) ⟨[], _, h, ⟨[], rfl, World.ownsRow_nil _ _ _ _⟩, Rel.zero _ _, fun y hy => by cases hy⟩ (fun k st Y hJ => by obtain ⟨_, _, h1, _⟩ := hJ; exact h1.tk) cfUses ?_
  rintro k r Y ⟨xs, v, h1, h2, h3, h4⟩
  refine (read_uses h1 hK h2 (h3.room (fun l x r hh => useT_lt hh) hs)).mono ?_
  rintro e w' ⟨he, x, v', g1, g2, g3, g4⟩
  refine ⟨he, _, xs ++ [x], v', g1, g2, h3.next (fun l x r hh => useT_lt hh) hs x g4, fun y hy => ?_⟩
  rcases List.mem_append.1 hy with hy | hy
  · exact h4 y hy
  · rw [List.mem_singleton.1 hy]; exact g3
end Go.Proofs.YtijhpokclpdjpaaGreatDoor
