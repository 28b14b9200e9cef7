import Derived.Test.YtkpapioaijmidaaGreatDoorKEm
import Derived.Test.YtkpapioaijmidaaGreatDoorKSha
/- The document's reader: oneOf. -/
namespace Go.Proofs.YtkpapioaijmidaaGreatDoor
open Go.RowKit
open Tp (Tok hd tx at' stp)
open Nr (Fl fine)
def oneB (s ws : List UInt8) : Bool := !s.isEmpty && (!(Lib.contains s [32]) && Lib.contains ([32] ++ ws ++ [32]) ([32] ++ s ++ [32]))
theorem contains_call (s t : List UInt8) (x y : ByteArray) (hx : x = bs s) (hy : y = bs t) (m : Int) (w : World) (hs : s.length < 1000000) (hm : w.cell? ⟨6, 0, none⟩ = some (.int .i64 m)) :
    Calls Tryz.prog 50 #[.string x, .string y] w fun e w' => e = .returned (.bool (Lib.contains s t)) ∧ w' = w := by
  subst hx; subst hy
  have hsz : (bs s).size < 4294967281 := by
    have : (bs s).size = s.length := by simp [bs, ByteArray.size]
    omega
  have := Go.Proofs.Any.strings_Contains Tryz.laysCt (bs s) (bs t) m w hsz hm
  have e1 : (bs s).data.toList = s := by simp [bs]
  have e2 : (bs t).data.toList = t := by simp [bs]
  rw [e1, e2] at this
  exact this

set_option maxRecDepth 100000 in
set_option maxHeartbeats 400000 in
theorem oneOf_any (s ws : List UInt8) (x y : ByteArray) (hx : Hid (x = bs s)) (hy : Hid (y = bs ws)) (m : Int) (w : World) (hs : s.length < 100001) (hw : ws.length < 1000) (hm : w.cell? ⟨6, 0, none⟩ = some (.int .i64 m)) :
    Calls Tryz.prog 31 #[.string x, .string y] w fun e w' => e = .returned (.bool (oneB s ws)) ∧ w' = w := by
  have hxl : x.toList = s := by rw [hx.out, bs_toList]
  have HS : Hid (s.length < 100001) := hs
  have HW : Hid (ws.length < 1000) := hw
  have HM : Hid (w.cell? ⟨6, 0, none⟩ = some (.int .i64 m)) := hm
  clear hs hw hm
  by_cases h0 : s = []
  · have e0 : oneB s ws = false := by simp [oneB, h0]
    rw [e0]
    have hne : x.toList = [] := by rw [hxl, h0]
    clear e0 h0 hxl
    go_enter Tryz.func31, Tryz.ntmps31
    go_wp2_with fail
    exact bodyPost_ret (v := .bool false) (by simp [results, Tryz.results31, go_sem]) rfl ⟨rfl, rfl⟩
  · have hne : ¬ x.toList = [] := by rw [hxl]; exact h0
    have e0 : oneB s ws = (!(Lib.contains s [32]) && Lib.contains ([32] ++ ws ++ [32]) ([32] ++ s ++ [32])) := by
      have : s.isEmpty = false := by simpa using h0
      simp only [oneB, this]; rfl
    rw [e0]
    clear e0 h0 hxl
    have H1 := contains_call s [32] x ⟨#[32]⟩ hx.out rfl m w (by have := HS.out; omega) HM.out
    cases hb : Lib.contains s [32]
    · rw [hb] at H1
      rw [Bool.not_false, Bool.true_and]
      have sx : x.size = s.length := by rw [hx.out]; simp [bs, ByteArray.size]
      have sy : y.size = ws.length := by rw [hy.out]; simp [bs, ByteArray.size]
      have k1 : ¬ 9223372036854775807 < 1 + y.size := by have := HW.out; omega
      have k2 : ¬ 9223372036854775807 < 1 + y.size + 1 := by have := HW.out; omega
      have k3 : ¬ 9223372036854775807 < 1 + x.size := by have := HS.out; omega
      have k4 : ¬ 9223372036854775807 < 1 + x.size + 1 := by have := HS.out; omega
      have ap : ∀ l : List UInt8, (ByteArray.mk #[32]) ++ bs l ++ (ByteArray.mk #[32]) = bs ([32] ++ l ++ [32]) := by
        intro l
        apply ByteArray.ext
        simp [bs, ByteArray.data_append]
      have H2 := contains_call ([32] ++ ws ++ [32]) ([32] ++ s ++ [32]) _ _ (ap ws) (ap s) m w (by have := HW.out; simp; omega) HM.out
      rw [← hx.out, ← hy.out] at H2
      obtain ⟨bb, hbb⟩ : ∃ bb, bb = Lib.contains ([32] ++ ws ++ [32]) ([32] ++ s ++ [32]) := ⟨_, rfl⟩
      rw [← hbb] at H2 ⊢
      clear hbb ap sx sy
      go_enter Tryz.func31, Tryz.ntmps31
      go_wp2_with fail
      refine H1.mono ?_
      rintro e w1 ⟨rfl, rfl⟩
      go_wp2_with fail
      refine H2.mono ?_
      rintro e w1 ⟨rfl, rfl⟩
      go_wp2_with fail
      exact bodyPost_ret (v := .bool bb) (by simp [results, Tryz.results31, go_sem, hne]) rfl ⟨rfl, rfl⟩
    · rw [hb] at H1
      rw [Bool.not_true, Bool.false_and]
      go_enter Tryz.func31, Tryz.ntmps31
      go_wp2_with fail
      refine H1.mono ?_
      rintro e w1 ⟨rfl, rfl⟩
      go_wp2_with fail
      exact bodyPost_ret (v := .bool false) (by simp [results, Tryz.results31, go_sem]) rfl ⟨rfl, rfl⟩

/- what oneOf says of words with blanks between -/
theorem contains_iff (l t : List UInt8) : Lib.contains l t = true ↔ t <:+: l := by
  unfold Lib.contains
  rw [decide_eq_true_iff]
  induction l with
  | nil =>
    unfold Lib.index
    cases t with
    | nil => simp
    | cons a b => simp
  | cons b l ih =>
    unfold Lib.index
    by_cases h : t.isPrefixOf (b :: l) = true
    · rw [if_pos h]
      simp only [Int.le_refl, true_iff]
      exact (List.isPrefixOf_iff_prefix.1 h).isInfix
    · rw [if_neg h, List.infix_cons_iff]
      have h' : ¬ t <+: b :: l := fun e => h (List.isPrefixOf_iff_prefix.2 e)
      by_cases e : Lib.index l t = -1
      · have e' : (Lib.index l t == -1) = true := by simpa using e
        rw [if_pos e']
        rw [e] at ih
        simp at ih
        simp [h', ih]
      · have e' : ¬ (Lib.index l t == -1) = true := by simpa using e
        rw [if_neg e']
        have lo : -1 ≤ Lib.index l t := by
          clear ih h h' e e'
          induction l with
          | nil => unfold Lib.index; split <;> simp
          | cons c l ih2 => unfold Lib.index; split; · simp
                            split; · simp
                            omega
        have : 0 ≤ Lib.index l t := by omega
        have i1 := ih.1 this
        simp [h', i1]
        omega
end Go.Proofs.YtkpapioaijmidaaGreatDoor
