import Derived.Test.YtkpapioaijmidaaGreatDoorKEC
import Derived.Test.YtkpapioaijmidaaGreatDoorKWh
/- The document's reader: tokens, what is cut off at a place. -/
namespace Go.Proofs.YtkpapioaijmidaaGreatDoor
open Go.RowKit
open Tp (Tok hd tx at' stp)
open Nr (Fl fine)
set_option maxRecDepth 100000 in
set_option maxHeartbeats 400000 in
theorem rlow_any (w : World) (c : UInt8) : Calls Tryz.prog 29 #[.int .u8 (c.toNat : Int)] w fun e w' => e = .returned (.bool (Tp.letter c)) ∧ w' = w := by
  have HR : Hid (Tp.letter c = (decide (97 ≤ c.toNat) && decide (c.toNat ≤ 122))) := by show _ = _; unfold Tp.letter; rw [Bool.decide_and]
  generalize Tp.letter c = r at *
  by_cases h1 : 97 ≤ c.toNat
  · have g1 : (97 : Int) ≤ (c.toNat : Int) := by omega
    by_cases h2 : c.toNat ≤ 122
    · have g2 : (c.toNat : Int) ≤ 122 := by omega
      go_enter Tryz.func29, Tryz.ntmps29
      go_wp2_with fail
      go_ret
      exact ⟨by rw [HR.out, decide_eq_true h1, decide_eq_true h2]; rfl, rfl⟩
    · have g2 : ¬ (c.toNat : Int) ≤ 122 := by omega
      go_enter Tryz.func29, Tryz.ntmps29
      go_wp2_with fail
      go_ret
      exact ⟨by rw [HR.out, decide_eq_true h1, decide_eq_false h2]; rfl, rfl⟩
  · have g1 : ¬ (97 : Int) ≤ (c.toNat : Int) := by omega
    go_enter Tryz.func29, Tryz.ntmps29
    go_wp2_with fail
    go_ret
    exact ⟨by rw [HR.out, decide_eq_false h1]; rfl, rfl⟩
set_option maxRecDepth 100000 in
set_option maxHeartbeats 400000 in
theorem rdig_any (w : World) (c : UInt8) : Calls Tryz.prog 30 #[.int .u8 (c.toNat : Int)] w fun e w' => e = .returned (.bool (Tp.digit c)) ∧ w' = w := by
  have HR : Hid (Tp.digit c = (decide (48 ≤ c.toNat) && decide (c.toNat ≤ 57))) := by show _ = _; unfold Tp.digit; rw [Bool.decide_and]
  generalize Tp.digit c = r at *
  by_cases h1 : 48 ≤ c.toNat
  · have g1 : (48 : Int) ≤ (c.toNat : Int) := by omega
    by_cases h2 : c.toNat ≤ 57
    · have g2 : (c.toNat : Int) ≤ 57 := by omega
      go_enter Tryz.func30, Tryz.ntmps30
      go_wp2_with fail
      go_ret
      exact ⟨by rw [HR.out, decide_eq_true h1, decide_eq_true h2]; rfl, rfl⟩
    · have g2 : ¬ (c.toNat : Int) ≤ 57 := by omega
      go_enter Tryz.func30, Tryz.ntmps30
      go_wp2_with fail
      go_ret
      exact ⟨by rw [HR.out, decide_eq_true h1, decide_eq_false h2]; rfl, rfl⟩
  · have g1 : ¬ (48 : Int) ≤ (c.toNat : Int) := by omega
    go_enter Tryz.func30, Tryz.ntmps30
    go_wp2_with fail
    go_ret
    exact ⟨by rw [HR.out, decide_eq_false h1]; rfl, rfl⟩
def markW : List UInt8 := [58, 61, 32, 60, 61, 32, 62, 61, 32, 35, 32, 61, 32, 60, 32, 62, 32, 43, 32, 45, 32, 42, 32, 40, 32, 41, 32, 91, 32, 93, 32, 44, 32, 59, 32, 58, 32, 46]
theorem mark_one (s : List UInt8) : oneB s markW = decide (s ∈ Tp.marks) := by
  have h := oneB_iff (s := s) (ws := Tp.marks) (y := markW) (by decide) (by decide)
  rw [Bool.eq_iff_iff, h, decide_eq_true_iff]
open Tp in
theorem rcut_mark {c : UInt8} {l : List UInt8} (h1 : letter c = false) (h2 : digit c = false) : Tp.cut (c :: l) = if 2 ≤ (c :: l).length ∧ (c :: l).take 2 ∈ marks then some (3, 2) else if [c] ∈ marks then some (3, 1) else none := by
  have e0 : Tp.cut (c :: l) = (marks.find? (fun m => m.isPrefixOf (c :: l))).map (fun m => (3, m.length)) := by
    show (if letter c = true then _ else if digit c = true then _ else _) = _
    rw [if_neg (by rw [h1]; simp), if_neg (by rw [h2]; simp)]
  rw [e0]
  clear e0
  cases l with
  | nil =>
    rw [if_neg (by simp)]
    by_cases hc : [c] ∈ marks
    · rw [if_pos hc]
      simp only [marks, List.mem_cons, List.not_mem_nil, or_false] at hc
      rcases hc with hc | hc | hc | hc | hc | hc | hc | hc | hc | hc | hc | hc | hc | hc | hc | hc | hc | hc <;> first | (exfalso; revert hc; simp [mSet, mLe, mGe]; done) | (cases hc; rfl)
    · rw [if_neg hc]
      have : marks.find? (fun m => m.isPrefixOf [c]) = none := by
        rw [List.find?_eq_none]
        intro m hm hp
        have hp := List.isPrefixOf_iff_prefix.1 hp
        have hl : m ≠ [] := (by decide : ∀ m ∈ marks, m ≠ []) m hm
        have : m = [c] := by
          obtain ⟨t, ht⟩ := hp
          cases m with
          | nil => exact absurd rfl hl
          | cons a m => simp at ht; simp [ht]
        exact hc (this ▸ hm)
      rw [this]; rfl
  | cons d t =>
    by_cases h3 : [c, d] ∈ marks
    · rw [if_pos ⟨by simp, by simpa using h3⟩]
      simp only [marks, List.mem_cons, List.not_mem_nil, or_false] at h3
      rcases h3 with hc | hc | hc | hc | hc | hc | hc | hc | hc | hc | hc | hc | hc | hc | hc | hc | hc | hc <;> first | (exfalso; revert hc; simp [mNe, mEq, mLt, mGt, mPlus, mMinus, mStar, mLp, mRp, mLb, mRb, mComma, mSemi, mColon, mDot]; done) | (cases hc; rfl)
    · rw [if_neg (fun h => h3 (by simpa using h.2))]
      have h58 : ¬ (c = 58 ∧ d = 61) := fun h => h3 (by rw [h.1, h.2]; decide)
      have h60 : ¬ (c = 60 ∧ d = 61) := fun h => h3 (by rw [h.1, h.2]; decide)
      have h62 : ¬ (c = 62 ∧ d = 61) := fun h => h3 (by rw [h.1, h.2]; decide)
      have hf : marks.find? (fun m => m.isPrefixOf (c :: d :: t)) = if [c] ∈ marks then some [c] else none := by
        have e3 : ∀ x : UInt8, ([x, 61] : List UInt8).isPrefixOf (c :: d :: t) = decide (c = x ∧ d = 61) := fun x => by
          rw [Bool.eq_iff_iff, decide_eq_true_iff]
          simp [List.isPrefixOf]
          constructor
          · rintro ⟨h, h'⟩; exact ⟨h.symm, h'.symm⟩
          · rintro ⟨h, h'⟩; exact ⟨h.symm, h'.symm⟩
        have e4 : marks.find? (fun m => m.isPrefixOf (c :: d :: t)) = [mNe, mEq, mLt, mGt, mPlus, mMinus, mStar, mLp, mRp, mLb, mRb, mComma, mSemi, mColon, mDot].find? (fun m => m.isPrefixOf (c :: d :: t)) := by
          show List.find? _ (mSet :: mLe :: mGe :: _) = _
          rw [List.find?_cons_of_neg (by rw [show mSet = [58, 61] from rfl, e3]; simpa using h58), List.find?_cons_of_neg (by rw [show mLe = [60, 61] from rfl, e3]; simpa using h60), List.find?_cons_of_neg (by rw [show mGe = [62, 61] from rfl, e3]; simpa using h62)]
        rw [e4]
        by_cases hc : [c] ∈ marks
        · rw [if_pos hc]
          simp only [marks, List.mem_cons, List.not_mem_nil, or_false] at hc
          rcases hc with hc | hc | hc | hc | hc | hc | hc | hc | hc | hc | hc | hc | hc | hc | hc | hc | hc | hc <;> first | (exfalso; revert hc; simp [mSet, mLe, mGe]; done) | (cases hc; rfl)
        · rw [if_neg hc, List.find?_eq_none]
          intro m hm hp
          have hp := List.isPrefixOf_iff_prefix.1 hp
          have hl : m.length = 1 := (by decide : ∀ m ∈ [mNe, mEq, mLt, mGt, mPlus, mMinus, mStar, mLp, mRp, mLb, mRb, mComma, mSemi, mColon, mDot], m.length = 1) m hm
          have : m = [c] := by
            obtain ⟨t', ht⟩ := hp
            cases m with
            | nil => simp at hl
            | cons a m =>
              simp at hl ht
              subst hl
              simp [ht.1]
          refine hc (this ▸ ?_)
          show m ∈ mSet :: mLe :: mGe :: _
          exact List.mem_cons_of_mem _ (List.mem_cons_of_mem _ (List.mem_cons_of_mem _ hm))
      rw [hf]
      by_cases hc : [c] ∈ marks
      · rw [if_pos hc, if_pos hc]; rfl
      · rw [if_neg hc, if_neg hc]; rfl
end Go.Proofs.YtkpapioaijmidaaGreatDoor
