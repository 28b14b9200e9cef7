/- Reading: how many, a text, a flag. -/
import Derived.Test.YtljnddcddclmeaaJ4
namespace Go.Proofs.Ytljnddcddclmeaa
open Go.RowKit
open Ob (Bs)

def VI (n : Int) (v : Value) (_ : World) : Prop := v = .int .i64 n
def VN (n : Nat) (v : Value) (_ : World) : Prop := v = .int .i64 (n : Int)
def VT (s : Bs) (v : Value) (_ : World) : Prop := v = .string (bs s)
def VB (b : Bool) (v : Value) (_ : World) : Prop := v = .bool b
theorem numI {w : World} {rb : Nat} {l : Bs} (h : Rst w rb l) :
    Calls Try.prog 88 #[.pointer (some ⟨rb, 0, none⟩)] w fun e w' => Rp rb w VI (Ob.numR l) e w' := number_any h
set_option maxRecDepth 100000 in
set_option maxHeartbeats 400000 in
theorem int_any {w : World} {rb : Nat} {l : Bs} (h : Rst w rb l) :
    Calls Try.prog 86 #[.pointer (some ⟨rb, 0, none⟩)] w fun e w' => Rp rb w VI (Ob.numR l) e w' := by
  have HC := Lib.hid (numI h)
  generalize Ob.numR l = res at *
  go_enter Try.func86, Try.ntmps86
  go_wp2_with fail
  refine HC.out.mono ?_
  intro e w1 hq
  rcases res with _ | ⟨x, r⟩
  · obtain ⟨rfl, hx⟩ := hq
    unfold thrown
    go_wp2_with fail
    exact ⟨rfl, rfl, hx⟩
  · obtain ⟨v, rfl, rfl, hst, hx⟩ := hq
    go_wp2_with fail
    go_ret
    exact ⟨_, rfl, rfl, hst, hx⟩
set_option maxRecDepth 100000 in
set_option maxHeartbeats 400000 in
theorem many_any {w : World} {rb : Nat} {l : Bs} (h : Rst w rb l) (most : Nat) (hm : most ≤ 1000000000000) :
    Calls Try.prog 85 #[.pointer (some ⟨rb, 0, none⟩), .int .i64 (most : Int)] w fun e w' => Rp rb w VN (Ob.manyR most l) e w' := by
  have HC := Lib.hid (numI h)
  have HM : Hid (Ob.manyR most l = (Ob.numR l).bind fun x => if 0 ≤ x.1 ∧ x.1 ≤ most then some (x.1.toNat, x.2) else none) := rfl
  generalize Ob.manyR most l = res2 at *
  generalize Ob.numR l = res at *
  have hm' : (most : Int) ≤ 1000000000000 := by omega
  go_enter Try.func85, Try.ntmps85
  go_wp2_with fail
  refine HC.out.mono ?_
  intro e w1 hq
  rcases res with _ | ⟨x, r⟩
  · obtain ⟨rfl, hx⟩ := hq
    unfold thrown
    go_wp2_with fail
    rw [HM.out]
    exact ⟨rfl, rfl, hx⟩
  · obtain ⟨v, rfl, rfl, hst, hx⟩ := hq
    by_cases h0 : x < 0
    · have HE : Hid (res2 = none) := by rw [HM.out]; show (if 0 ≤ x ∧ x ≤ (most : Int) then some (x.toNat, r) else none) = none; rw [if_neg (by omega)]
      clear HM
      go_wp2_with fail
      rw [HE.out]
      exact ⟨rfl, rfl, hx⟩
    · by_cases h1 : (most : Int) < x
      · have HE : Hid (res2 = none) := by rw [HM.out]; show (if 0 ≤ x ∧ x ≤ (most : Int) then some (x.toNat, r) else none) = none; rw [if_neg (by omega)]
        clear HM
        go_wp2_with fail
        rw [HE.out]
        exact ⟨rfl, rfl, hx⟩
      · have HE : Hid (res2 = some (x.toNat, r)) := by rw [HM.out]; show (if 0 ≤ x ∧ x ≤ (most : Int) then some (x.toNat, r) else none) = _; rw [if_pos (by omega)]
        have HX : Hid (x = (x.toNat : Int)) := by show _ = _; omega
        clear HM
        go_wp2_with fail
        go_ret
        rw [HE.out]
        exact ⟨_, rfl, congrArg (Value.int .i64) HX.out, hst, hx⟩
theorem many_le {most n : Nat} {l r : Bs} (he : Ob.manyR most l = some (n, r)) : n ≤ most := by
  unfold Ob.manyR at he
  rcases hn : Ob.numR l with _ | ⟨x, r'⟩
  · rw [hn] at he; simp at he
  · rw [hn] at he
    simp only [Option.bind_some] at he
    by_cases hx : 0 ≤ x ∧ x ≤ (most : Int)
    · rw [if_pos hx] at he
      cases he
      show x.toNat ≤ _
      omega
    · rw [if_neg hx] at he; cases he
set_option maxRecDepth 100000 in
set_option maxHeartbeats 400000 in
theorem text_any {w : World} {rb : Nat} {l : Bs} (h : Rst w rb l) :
    Calls Try.prog 62 #[.pointer (some ⟨rb, 0, none⟩)] w fun e w' => Rp rb w VT (Ob.txtR l) e w' := by
  have hl := h.n
  have hc := h.c
  have hs := bs_size l
  have HC := Lib.hid (many_any h l.length (by omega))
  have HM : Hid (Ob.txtR l = (Ob.manyR l.length l).bind fun x => Ob.takeR x.1 x.2) := rfl
  have HB : Hid (∀ n r, Ob.manyR l.length l = some (n, r) → n ≤ l.length) := fun n r he => many_le he
  generalize Ob.txtR l = res2 at *
  generalize Ob.manyR l.length l = res at *
  go_enter Try.func62, Try.ntmps62
  go_wp2_with fail
  refine HC.out.mono ?_
  intro e w1 hq
  rcases res with _ | ⟨x, r⟩
  · obtain ⟨rfl, hx⟩ := hq
    unfold thrown
    go_wp2_with fail
    rw [HM.out]
    exact ⟨rfl, rfl, hx⟩
  · obtain ⟨v, rfl, rfl, hst, hx⟩ := hq
    have hxl := HB.out x r rfl
    have HT := Lib.hid (take_any hst x (by omega))
    have HM' : Hid (res2 = Ob.takeR x r) := HM
    clear HB HC HM hc h
    generalize Ob.takeR x r = res3 at *
    go_wp2_with fail
    refine HT.out.mono ?_
    intro e w2 hq
    rcases res3 with _ | ⟨y, r2⟩
    · obtain ⟨rfl, hx2⟩ := hq
      unfold thrown
      go_wp2_with fail
      rw [HM'.out]
      exact ⟨rfl, rfl, hx.trans hx2⟩
    · obtain ⟨v, rfl, rfl, hst2, hx2⟩ := hq
      go_wp2_with fail
      go_ret
      rw [HM'.out]
      exact ⟨_, rfl, rfl, hst2, hx.trans hx2⟩
set_option maxRecDepth 100000 in
set_option maxHeartbeats 400000 in
theorem flag_any {w : World} {rb : Nat} {l : Bs} (h : Rst w rb l) :
    Calls Try.prog 87 #[.pointer (some ⟨rb, 0, none⟩)] w fun e w' => Rp rb w VB (Ob.flagR l) e w' := by
  cases l with
  | nil =>
    go_enter Try.func87, Try.ntmps87
    go_wp2_with fail
    refine (take1_nil h).mono ?_
    rintro e w1 ⟨rfl, hx⟩
    unfold thrown
    go_wp2_with fail
    exact ⟨rfl, rfl, hx⟩
  | cons b r =>
    have HF : Hid (Ob.flagR (b :: r) = some (!((bs [b]).toList == [0]), r)) := by
      unfold Ob.flagR
      rw [takeR_cons, bs_toList]
      show some (decide ([b] ≠ [0]), r) = _
      congr 2
      rw [Bool.eq_iff_iff]
      simp
    generalize Ob.flagR (b :: r) = res at *
    go_enter Try.func87, Try.ntmps87
    go_wp2_with fail
    refine (take1_cons h).mono ?_
    rintro e w1 ⟨rfl, hst, hx⟩
    go_wp2_with fail
    go_ret
    rw [HF.out]
    exact ⟨_, rfl, rfl, hst, hx⟩
end Go.Proofs.Ytljnddcddclmeaa
