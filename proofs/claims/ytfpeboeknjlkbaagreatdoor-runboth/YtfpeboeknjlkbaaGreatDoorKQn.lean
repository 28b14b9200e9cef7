import Derived.Test.YtfpeboeknjlkbaaGreatDoorKQm
import Derived.Test.YtfpeboeknjlkbaaGreatDoorKQc
/- RunBoth: numbers obey. -/
namespace Go.Proofs.YtfpeboeknjlkbaaGreatDoor
open Go.RowKit Go.Maps
open Tp (Bs X S G Pr Pt Rs Rr Own)

set_option maxRecDepth 100000 in
theorem two_post (op : Bs) (a b v : Int) (ha : Tp.I64 a) (hb : Tp.I64 b) (hv : Tp.both op a b = some v) (w : World) : Calls Tryz.prog 10 #[.string (bs op), .int .i64 a, .int .i64 b] w fun e w' => e = .returned (.int .i64 v) ∧ Below w.heap.size w w' := by
  have h := both_any op a b ha hb w
  rw [hv] at h
  have HB : Hid (Calls Tryz.prog 11 #[.string (bs op), .int .i64 a, .int .i64 b] w fun e w' => Below w.heap.size w w' ∧ e = .returned (.tuple #[.int .i64 v, .bool true])) := h
  clear h hv ha hb
  generalize bs op = x at *
  go_enter Tryz.func10, Tryz.ntmps10
  go_wp2_with fail
  refine HB.out.mono ?_
  rintro e w1 ⟨hb1, rfl⟩
  have HB1 := Lib.hid hb1
  clear hb1
  go_wp2_with fail
  go_ret
  exact ⟨rfl, HB1.out⟩
def Two (op : ByteArray) (x y v : Int) : Prop := ∀ w, Calls Tryz.prog 10 #[.string op, .int .i64 x, .int .i64 y] w fun e w' => e = .returned (.int .i64 v) ∧ Below w.heap.size w w'
def Bth (op : ByteArray) (x y v : Int) (t : Bool) : Prop := ∀ w, Calls Tryz.prog 11 #[.string op, .int .i64 x, .int .i64 y] w fun e w' => e = .returned (.tuple #[.int .i64 v, .bool t]) ∧ Below w.heap.size w w'
set_option maxRecDepth 100000 in
set_option maxHeartbeats 4000000 in
theorem rb_post {w : World} {a b s m l q g le ge ne d r : Int} {ok : Bool} (HR : Hid (Calls Tryz.prog 9 #[] w fun e w' => e = .returned (.bool true) ∧ Below w.heap.size w w'))
    (H1 : Hid (Two ⟨#[43]⟩ a b s)) (H2 : Hid (Two ⟨#[45]⟩ s b a)) (H3 : Hid (Two ⟨#[43]⟩ b a s)) (H4 : Hid (Two ⟨#[42]⟩ a b m)) (H5 : Hid (Two ⟨#[42]⟩ b a m)) (H6 : Hid (Two ⟨#[60]⟩ a b l)) (H7 : Hid (Two ⟨#[61]⟩ a b q)) (H8 : Hid (Two ⟨#[62]⟩ a b g)) (H9 : Hid (Two ⟨#[60, 61]⟩ a b le)) (H10 : Hid (Two ⟨#[62, 61]⟩ a b ge)) (H11 : Hid (Two ⟨#[35]⟩ a b ne))
    (h1 : wrap64 (wrap64 (l + q) + g) = 1) (h2 : wrap64 (1 - g) = le) (h3 : wrap64 (1 - l) = ge) (h4 : wrap64 (1 - q) = ne)
    (HD : Hid (Bth ⟨#[100, 105, 118]⟩ a b d ok)) (HM : Hid (Bth ⟨#[109, 111, 100]⟩ a b r ok)) (hfin : b = 0 ∧ ok = false ∨ b ≠ 0 ∧ ok = true ∧ wrap64 (wrap64 (d * b) + r) = a ∧ (r = 0 ∨ (r < 0 ↔ b < 0)) ∧ ((0 < b ∧ r < b) ∨ (b < 0 ∧ b < r) ∨ r = 0)) :
    Calls Tryz.prog 3 #[.int .i64 a, .int .i64 b] w fun e w' => e = .returned (.bool true) ∧ Below w.heap.size w w' := by
  have HFIN := Lib.hid hfin
  clear hfin
  go_enter Tryz.func3, Tryz.ntmps3
  go_wp2_with fail
  refine HR.out.mono ?_
  rintro e w1 ⟨rfl, hb1⟩
  have HB := Lib.hid hb1
  clear hb1
  go_wp2_with fail
  refine (H1.out _).mono ?_
  rintro e w2 ⟨rfl, hb2⟩
  replace HB := Lib.hid (HB.out.trans (hb2.mono HB.out.size))
  clear hb2
  go_wp2_with fail
  refine (H2.out _).mono ?_
  rintro e w3 ⟨rfl, hb2⟩
  replace HB := Lib.hid (HB.out.trans (hb2.mono HB.out.size))
  clear hb2
  go_wp2_with fail
  refine (H1.out _).mono ?_
  rintro e w4 ⟨rfl, hb2⟩
  replace HB := Lib.hid (HB.out.trans (hb2.mono HB.out.size))
  clear hb2
  go_wp2_with fail
  refine (H3.out _).mono ?_
  rintro e w5 ⟨rfl, hb2⟩
  replace HB := Lib.hid (HB.out.trans (hb2.mono HB.out.size))
  clear hb2
  go_wp2_with fail
  refine (H4.out _).mono ?_
  rintro e w6 ⟨rfl, hb2⟩
  replace HB := Lib.hid (HB.out.trans (hb2.mono HB.out.size))
  clear hb2
  go_wp2_with fail
  refine (H5.out _).mono ?_
  rintro e w7 ⟨rfl, hb2⟩
  replace HB := Lib.hid (HB.out.trans (hb2.mono HB.out.size))
  clear hb2
  clear H1 H2 H3 H4 H5
  go_wp2_with fail
  refine (H6.out _).mono ?_
  rintro e w8 ⟨rfl, hb2⟩
  replace HB := Lib.hid (HB.out.trans (hb2.mono HB.out.size))
  clear hb2
  go_wp2_with fail
  refine (H7.out _).mono ?_
  rintro e w9 ⟨rfl, hb2⟩
  replace HB := Lib.hid (HB.out.trans (hb2.mono HB.out.size))
  clear hb2
  go_wp2_with fail
  refine (H8.out _).mono ?_
  rintro e w10 ⟨rfl, hb2⟩
  replace HB := Lib.hid (HB.out.trans (hb2.mono HB.out.size))
  clear hb2
  go_wp2_with fail
  refine (H9.out _).mono ?_
  rintro e w11 ⟨rfl, hb2⟩
  replace HB := Lib.hid (HB.out.trans (hb2.mono HB.out.size))
  clear hb2
  go_wp2_with fail
  refine (H8.out _).mono ?_
  rintro e w12 ⟨rfl, hb2⟩
  replace HB := Lib.hid (HB.out.trans (hb2.mono HB.out.size))
  clear hb2
  go_wp2_with fail
  refine (H10.out _).mono ?_
  rintro e w13 ⟨rfl, hb2⟩
  replace HB := Lib.hid (HB.out.trans (hb2.mono HB.out.size))
  clear hb2
  go_wp2_with fail
  refine (H6.out _).mono ?_
  rintro e w14 ⟨rfl, hb2⟩
  replace HB := Lib.hid (HB.out.trans (hb2.mono HB.out.size))
  clear hb2
  go_wp2_with fail
  refine (H11.out _).mono ?_
  rintro e w15 ⟨rfl, hb2⟩
  replace HB := Lib.hid (HB.out.trans (hb2.mono HB.out.size))
  clear hb2
  go_wp2_with fail
  refine (H7.out _).mono ?_
  rintro e w16 ⟨rfl, hb2⟩
  replace HB := Lib.hid (HB.out.trans (hb2.mono HB.out.size))
  clear hb2
  clear H6 H7 H8 H9 H10 H11
  go_wp2_with fail
  refine (HD.out _).mono ?_
  rintro e w17 ⟨rfl, hb2⟩
  replace HB := Lib.hid (HB.out.trans (hb2.mono HB.out.size))
  clear hb2
  go_wp2_with fail
  refine (HM.out _).mono ?_
  rintro e w18 ⟨rfl, hb2⟩
  replace HB := Lib.hid (HB.out.trans (hb2.mono HB.out.size))
  clear hb2
  clear HD HM h1 h2 h3 h4
  rcases HFIN.out with ⟨hb0, rfl⟩ | ⟨hb0, rfl, hq, hr, hs⟩
  · clear HFIN
    go_wp2_with fail
    go_ret
    exact ⟨rfl, HB.out⟩
  · clear HFIN
    rcases hs with ⟨p1, p2⟩ | ⟨p1, p2⟩ | p1
    · by_cases hr0 : r = 0
      · subst hr0
        have hq' : wrap64 (wrap64 (d * b)) = a := by rw [← hq]; simp
        clear hr p2
        have p3 : ¬ b < 0 := by omega
        go_wp2_with fail
        go_ret
        exact ⟨rfl, HB.out⟩
      · have p3 : ¬ b < 0 := by omega
        have p4 : ¬ r < 0 := by omega
        clear hr
        go_wp2_with fail
        go_ret
        exact ⟨rfl, HB.out⟩
    · by_cases hr0 : r = 0
      · subst hr0
        have hq' : wrap64 (wrap64 (d * b)) = a := by rw [← hq]; simp
        clear hr p2
        have p3 : ¬ 0 < b := by omega
        go_wp2_with fail
        go_ret
        exact ⟨rfl, HB.out⟩
      · have p3 : ¬ 0 < b := by omega
        have p4 : r < 0 := by omega
        clear hr
        go_wp2_with fail
        go_ret
        exact ⟨rfl, HB.out⟩
    · subst p1
      have hq' : wrap64 (wrap64 (d * b)) = a := by rw [← hq]; simp
      clear hr
      by_cases p3 : 0 < b
      · have p4 : ¬ b < 0 := by omega
        go_wp2_with fail
        go_ret
        exact ⟨rfl, HB.out⟩
      · have p4 : b < 0 := by omega
        go_wp2_with fail
        go_ret
        exact ⟨rfl, HB.out⟩
end Go.Proofs.YtfpeboeknjlkbaaGreatDoor
/- RunBoth: numbers obey: for all numbers. -/
namespace Go.Proofs.YtfpeboeknjlkbaaGreatDoor
open Go.RowKit Go.Maps
open Tp (Bs X S G Pr Pt Rs Rr Own)

theorem b01_le (p : Prop) [Decidable p] : 0 ≤ Tp.b01 p ∧ Tp.b01 p ≤ 1 := by unfold Tp.b01; split <;> omega
theorem runBoth_post {w : World} (hmk : Mk w) (hlv : Lv w) (a b : Int) (ha : Tp.I64 a) (hb : Tp.I64 b) : Calls Tryz.prog 3 #[.int .i64 a, .int .i64 b] w fun e w' => e = .returned (.bool true) ∧ Below w.heap.size w w' := by
  have h1 := b01_le (a < b)
  have h2 := b01_le (a = b)
  have h3 := b01_le (a > b)
  have h4 := Tp.both_one a b
  have h5 := Tp.both_le1 a b
  have h6 := Tp.both_ge1 a b
  have h7 := Tp.both_ne1 a b
  have hw : ∀ n : Int, -10 ≤ n → n ≤ 10 → wrap64 n = n := fun n l1 l2 => by rw [w64_wrap]; exact Tp.w64_id (by unfold Tp.I64; omega)
  have hd := both_any Tp.wDiv a b ha hb
  have hm := both_any Tp.wMod a b ha hb
  rw [Tp.both_div] at hd
  rw [Tp.both_mod] at hm
  have hgo : ∀ (d r : Int) (ok : Bool), Bth ⟨#[100, 105, 118]⟩ a b d ok → Bth ⟨#[109, 111, 100]⟩ a b r ok → (b = 0 ∧ ok = false ∨ b ≠ 0 ∧ ok = true ∧ wrap64 (wrap64 (d * b) + r) = a ∧ (r = 0 ∨ (r < 0 ↔ b < 0)) ∧ ((0 < b ∧ r < b) ∨ (b < 0 ∧ b < r) ∨ r = 0)) → Calls Tryz.prog 3 #[.int .i64 a, .int .i64 b] w fun e w' => e = .returned (.bool true) ∧ Below w.heap.size w w' := fun d r ok k1 k2 k3 =>
    rb_post (s := Tp.w64 (a + b)) (m := Tp.w64 (a * b)) (l := Tp.b01 (a < b)) (q := Tp.b01 (a = b)) (g := Tp.b01 (a > b)) (le := Tp.b01 (a ≤ b)) (ge := Tp.b01 (a ≥ b)) (ne := Tp.b01 (a ≠ b)) (ran_post hmk hlv)
      (fun w => two_post Tp.mPlus a b _ ha hb (Tp.both_plus a b) w)
      (fun w => two_post Tp.mMinus (Tp.w64 (a + b)) b a (Tp.w64_in _) hb (by rw [Tp.both_minus, Tp.both_back ha]) w)
      (fun w => two_post Tp.mPlus b a _ hb ha (by rw [Tp.both_plus, Int.add_comm]) w)
      (fun w => two_post Tp.mStar a b _ ha hb (Tp.both_star a b) w)
      (fun w => two_post Tp.mStar b a _ hb ha (by rw [Tp.both_star, Int.mul_comm]) w)
      (fun w => two_post Tp.mLt a b _ ha hb (Tp.both_lt a b) w)
      (fun w => two_post Tp.mEq a b _ ha hb (Tp.both_eq a b) w)
      (fun w => two_post Tp.mGt a b _ ha hb (Tp.both_gt a b) w)
      (fun w => two_post Tp.mLe a b _ ha hb (Tp.both_le a b) w)
      (fun w => two_post Tp.mGe a b _ ha hb (Tp.both_ge a b) w)
      (fun w => two_post Tp.mNe a b _ ha hb (Tp.both_ne a b) w)
      (by rw [hw (Tp.b01 (a < b) + Tp.b01 (a = b)) (by omega) (by omega), hw _ (by omega) (by omega)]; exact h4)
      (by rw [hw _ (by omega) (by omega)]; exact h5.symm) (by rw [hw _ (by omega) (by omega)]; exact h6.symm) (by rw [hw _ (by omega) (by omega)]; exact h7.symm)
      k1 k2 k3
  by_cases hz : b = 0
  · refine hgo 0 0 false (fun w => ?_) (fun w => ?_) (Or.inl ⟨hz, rfl⟩)
    · have := hd w; rw [if_pos hz] at this; exact this.mono fun e w' q => ⟨q.2, q.1⟩
    · have := hm w; rw [if_pos hz] at this; exact this.mono fun e w' q => ⟨q.2, q.1⟩
  · obtain ⟨r1, r2, r3⟩ := Tp.both_rest ha hz
    refine hgo (Tp.w64 (a.fdiv b)) (a.fmod b) true (fun w => ?_) (fun w => ?_) (Or.inr ⟨hz, rfl, ?_, r2, r3⟩)
    · have := hd w; rw [if_neg hz] at this; exact this.mono fun e w' q => ⟨q.2, q.1⟩
    · have := hm w; rw [if_neg hz] at this; exact this.mono fun e w' q => ⟨q.2, q.1⟩
    · rw [w64_wrap, w64_wrap]; exact r1
end Go.Proofs.YtfpeboeknjlkbaaGreatDoor
