/- Name, and the small ones of 6.1. -/
import Derived.Test.YtljnddcddclmeaaJ19
import Derived.Test.YtljnddcddclmeaaJ18
namespace Go.Proofs.Ytljnddcddclmeaa
open Go.RowKit
open Ob (Bs)

theorem bs_get (s : Bs) (i : Nat) (h : i < (bs s).size) (h' : i < s.length) : (bs s)[i]'h = s[i]'h' := by simp [bs, ByteArray.getElem_eq_getElem_data]
set_option maxRecDepth 100000 in
set_option maxHeartbeats 1000000 in
theorem name_any (w : World) (s : Bs) (hs : s.length ≤ 1000000000) :
    Calls Try.prog 49 #[.string (bs s)] w fun e w' => e = .returned (.bool (Ob.nameB s)) ∧ w' = w := by
  have hz := bs_size s
  have hs' : (s.length : Int) ≤ 1000000000 := by omega
  go_enter Try.func49, Try.ntmps49
  go_wp2_with fail
  go_loopg [8] s.length (fun k vi wr => ∃ i : Nat, i ≤ s.length ∧ k = s.length - i ∧ vi = .int .i64 (i : Int) ∧ Hid (∀ j (h : j < s.length), j < i → Ob.good j s[j] = true) ∧ wr = w)
  case atStart => exact ⟨0, by omega, by omega, rfl, fun j _ h => by omega, rfl⟩
  case round =>
    obtain ⟨i, hid, hk, rfl, HG, rfl⟩ := hrel
    by_cases hlt : i < s.length
    · have hlt' : (i : Int) < (s.length : Int) := by omega
      have hget := fun h => bs_get s i h hlt
      have HNX : Hid (Ob.good i s[i] = true → ∀ j (h : j < s.length), j < i + 1 → Ob.good j s[j] = true) := by
        intro e j h hj
        by_cases hji : j = i
        · subst hji; exact e
        · exact HG.out j h (by omega)
      have HBD : Hid (Ob.good i s[i] = false → Ob.nameB s = false) := by
        intro e
        unfold Ob.nameB
        rw [Bool.and_eq_false_iff]
        refine Or.inl (decide_eq_false fun hall => ?_)
        rw [hall i hlt] at e
        cases e
      have hgd : Ob.good i s[i] = ((decide (97 ≤ s[i].toNat) && decide (s[i].toNat ≤ 122)) || ((decide (48 ≤ s[i].toNat) && decide (s[i].toNat ≤ 57)) && !decide (i = 0))) := rfl
      have HGD := Lib.hid hgd
      clear hgd HG
      generalize Ob.good i s[i] = gd at *
      generalize s[i] = c at *
      have hcl := c.toNat_lt
      rcases (show c.toNat < 48 ∨ (48 ≤ c.toNat ∧ c.toNat ≤ 57) ∨ (57 < c.toNat ∧ c.toNat < 97) ∨ (97 ≤ c.toNat ∧ c.toNat ≤ 122) ∨ 122 < c.toNat by omega) with q | ⟨q1, q2⟩ | ⟨q1, q2⟩ | ⟨q1, q2⟩ | q
      · have g0 : (c.toNat : Int) < 97 := by omega
        have g1 : (c.toNat : Int) ≤ 122 := by omega
        have g2 : (c.toNat : Int) < 48 := by omega
        have g3 : (c.toNat : Int) ≤ 57 := by omega
        have gd1 : decide ((c.toNat : Int) ≤ 122) = true := decide_eq_true (by omega)
        have gd3 : decide ((c.toNat : Int) ≤ 57) = true := decide_eq_true (by omega)
        have HV : Hid (gd = false) := by
          show _ = _
          rw [HGD.out, decide_eq_false (p := 97 ≤ c.toNat) (by omega), decide_eq_true (p := c.toNat ≤ 122) (by omega), decide_eq_false (p := 48 ≤ c.toNat) (by omega), decide_eq_true (p := c.toNat ≤ 57) (by omega)]
          rfl
        have HF := Lib.hid (HBD.out HV.out)
        clear HNX HBD HV HGD
        go_wp2_with fail
        go_ret
        exact ⟨by rw [HF.out]; rfl, rfl⟩
      · by_cases hi0 : i = 0
        · have g0 : (c.toNat : Int) < 97 := by omega
          have g1 : (c.toNat : Int) ≤ 122 := by omega
          have g2 : (48 : Int) ≤ (c.toNat : Int) := by omega
          have g3 : (c.toNat : Int) ≤ 57 := by omega
          have gd1 : decide ((c.toNat : Int) ≤ 122) = true := decide_eq_true (by omega)
          have gd3 : decide ((c.toNat : Int) ≤ 57) = true := decide_eq_true (by omega)
          have gi : ((i : Int) == 0) = true := by simp; omega
          have HV : Hid (gd = false) := by
            show _ = _
            rw [HGD.out, decide_eq_false (p := 97 ≤ c.toNat) (by omega), decide_eq_true (p := c.toNat ≤ 122) (by omega), decide_eq_true (p := 48 ≤ c.toNat) (by omega), decide_eq_true (p := c.toNat ≤ 57) (by omega), decide_eq_true (p := i = 0) hi0]
            rfl
          have HF := Lib.hid (HBD.out HV.out)
          clear HNX HBD HV HGD hi0
          go_wp2_with fail
          go_ret
          exact ⟨by rw [HF.out]; rfl, rfl⟩
        · have g0 : (c.toNat : Int) < 97 := by omega
          have g1 : (c.toNat : Int) ≤ 122 := by omega
          have g2 : (48 : Int) ≤ (c.toNat : Int) := by omega
          have g3 : (c.toNat : Int) ≤ 57 := by omega
          have gd1 : decide ((c.toNat : Int) ≤ 122) = true := decide_eq_true (by omega)
          have gd3 : decide ((c.toNat : Int) ≤ 57) = true := decide_eq_true (by omega)
          have gi : ((i : Int) == 0) = false := by simp; omega
          have HV : Hid (gd = true) := by
            show _ = _
            rw [HGD.out, decide_eq_false (p := 97 ≤ c.toNat) (by omega), decide_eq_true (p := c.toNat ≤ 122) (by omega), decide_eq_true (p := 48 ≤ c.toNat) (by omega), decide_eq_true (p := c.toNat ≤ 57) (by omega), decide_eq_false (p := i = 0) hi0]
            rfl
          have HN := Lib.hid (HNX.out HV.out)
          clear HNX HBD HV HGD hi0
          go_wp2_with fail
          go_roundg (s.length - (i + 1))
          case measure => omega
          case rel => exact ⟨i + 1, by omega, rfl, by go_num, HN, rfl⟩
      · have g0 : (c.toNat : Int) < 97 := by omega
        have g1 : (c.toNat : Int) ≤ 122 := by omega
        have g2 : (48 : Int) ≤ (c.toNat : Int) := by omega
        have g3 : (57 : Int) < (c.toNat : Int) := by omega
        have gd1 : decide ((c.toNat : Int) ≤ 122) = true := decide_eq_true (by omega)
        have gd3 : decide ((c.toNat : Int) ≤ 57) = false := decide_eq_false (by omega)
        have HV : Hid (gd = false) := by
          show _ = _
          rw [HGD.out, decide_eq_false (p := 97 ≤ c.toNat) (by omega), decide_eq_true (p := c.toNat ≤ 122) (by omega), decide_eq_true (p := 48 ≤ c.toNat) (by omega), decide_eq_false (p := c.toNat ≤ 57) (by omega)]
          rfl
        have HF := Lib.hid (HBD.out HV.out)
        clear HNX HBD HV HGD
        go_wp2_with fail
        go_ret
        exact ⟨by rw [HF.out]; rfl, rfl⟩
      · have g0 : (97 : Int) ≤ (c.toNat : Int) := by omega
        have g1 : (c.toNat : Int) ≤ 122 := by omega
        have g2 : (48 : Int) ≤ (c.toNat : Int) := by omega
        have g3 : (57 : Int) < (c.toNat : Int) := by omega
        have gd1 : decide ((c.toNat : Int) ≤ 122) = true := decide_eq_true (by omega)
        have gd3 : decide ((c.toNat : Int) ≤ 57) = false := decide_eq_false (by omega)
        have HV : Hid (gd = true) := by
          show _ = _
          rw [HGD.out, decide_eq_true (p := 97 ≤ c.toNat) (by omega), decide_eq_true (p := c.toNat ≤ 122) (by omega), decide_eq_true (p := 48 ≤ c.toNat) (by omega), decide_eq_false (p := c.toNat ≤ 57) (by omega)]
          rfl
        have HN := Lib.hid (HNX.out HV.out)
        clear HNX HBD HV HGD
        go_wp2_with fail
        go_roundg (s.length - (i + 1))
        case measure => omega
        case rel => exact ⟨i + 1, by omega, rfl, by go_num, HN, rfl⟩
      · have g0 : (97 : Int) ≤ (c.toNat : Int) := by omega
        have g1 : (122 : Int) < (c.toNat : Int) := by omega
        have g2 : (48 : Int) ≤ (c.toNat : Int) := by omega
        have g3 : (57 : Int) < (c.toNat : Int) := by omega
        have gd1 : decide ((c.toNat : Int) ≤ 122) = false := decide_eq_false (by omega)
        have gd3 : decide ((c.toNat : Int) ≤ 57) = false := decide_eq_false (by omega)
        have HV : Hid (gd = false) := by
          show _ = _
          rw [HGD.out, decide_eq_true (p := 97 ≤ c.toNat) (by omega), decide_eq_false (p := c.toNat ≤ 122) (by omega), decide_eq_true (p := 48 ≤ c.toNat) (by omega), decide_eq_false (p := c.toNat ≤ 57) (by omega)]
          rfl
        have HF := Lib.hid (HBD.out HV.out)
        clear HNX HBD HV HGD
        go_wp2_with fail
        go_ret
        exact ⟨by rw [HF.out]; rfl, rfl⟩
    · have hlt' : ¬ (i : Int) < (s.length : Int) := by omega
      have HAL : Hid (decide (∀ i (h : i < s.length), Ob.good i s[i] = true) = true) := decide_eq_true fun j h => HG.out j h (by omega)
      have HNM : Hid (Ob.nameB s = (decide (1 ≤ s.length) && decide (s.length ≤ 10))) := by show _ = _; unfold Ob.nameB; rw [HAL.out, Bool.true_and]
      clear HAL HG
      by_cases h1 : 1 ≤ s.length
      · have h1' : (1 : Int) ≤ (s.length : Int) := by omega
        by_cases h2 : s.length ≤ 10
        · have h2' : (s.length : Int) ≤ 10 := by omega
          have HF : Hid (Ob.nameB s = true) := by rw [HNM.out]; exact (by rw [decide_eq_true h1, decide_eq_true h2]; rfl)
          go_wp2_with fail
          go_ret
          exact ⟨by rw [HF.out]; rfl, rfl⟩
        · have h2' : ¬ (s.length : Int) ≤ 10 := by omega
          have HF : Hid (Ob.nameB s = false) := by rw [HNM.out]; exact (by rw [decide_eq_true h1, decide_eq_false h2]; rfl)
          go_wp2_with fail
          go_ret
          exact ⟨by rw [HF.out]; rfl, rfl⟩
      · have h1' : ¬ (1 : Int) ≤ (s.length : Int) := by omega
        have HF : Hid (Ob.nameB s = false) := by rw [HNM.out]; exact (by rw [decide_eq_false h1]; rfl)
        go_wp2_with fail
        go_ret
        exact ⟨by rw [HF.out]; rfl, rfl⟩
set_option maxRecDepth 100000 in
set_option maxHeartbeats 400000 in
theorem len_any (w : World) (n : Int) : Calls Try.prog 74 #[.int .i64 n] w fun e w' => e = .returned (.bool (Ob.lenB n)) ∧ w' = w := by
  by_cases h1 : 0 ≤ n
  · by_cases h2 : n ≤ 30
    · have HF : Hid (Ob.lenB n = true) := by show _ = _; unfold Ob.lenB; rw [decide_eq_true h1, decide_eq_true h2]; rfl
      go_enter Try.func74, Try.ntmps74
      go_wp2_with fail
      go_ret
      exact ⟨by rw [HF.out]; rfl, rfl⟩
    · have HF : Hid (Ob.lenB n = false) := by show _ = _; unfold Ob.lenB; rw [decide_eq_true h1, decide_eq_false h2]; rfl
      have h2' : 30 < n := by omega
      go_enter Try.func74, Try.ntmps74
      go_wp2_with fail
      go_ret
      exact ⟨by rw [HF.out]; rfl, rfl⟩
  · have HF : Hid (Ob.lenB n = false) := by show _ = _; unfold Ob.lenB; rw [decide_eq_false h1]; rfl
    have h1' : n < 0 := by omega
    go_enter Try.func74, Try.ntmps74
    go_wp2_with fail
    go_ret
    exact ⟨by rw [HF.out]; rfl, rfl⟩
set_option maxRecDepth 100000 in
set_option maxHeartbeats 400000 in
theorem counts_any (w : World) (n : Int) (m : Nat) : Calls Try.prog 56 #[.int .i64 n, .int .i64 (m : Int)] w fun e w' => e = .returned (.bool (Ob.countsB n m)) ∧ w' = w := by
  by_cases h1 : 0 ≤ n
  · by_cases h2 : n < (m : Int)
    · have HF : Hid (Ob.countsB n m = true) := by show _ = _; unfold Ob.countsB; rw [decide_eq_true h1, decide_eq_true h2]; rfl
      go_enter Try.func56, Try.ntmps56
      go_wp2_with fail
      go_ret
      exact ⟨by rw [HF.out]; rfl, rfl⟩
    · have HF : Hid (Ob.countsB n m = false) := by show _ = _; unfold Ob.countsB; rw [decide_eq_true h1, decide_eq_false h2]; rfl
      have h2' : (m : Int) ≤ n := by omega
      go_enter Try.func56, Try.ntmps56
      go_wp2_with fail
      go_ret
      exact ⟨by rw [HF.out]; rfl, rfl⟩
  · have HF : Hid (Ob.countsB n m = false) := by show _ = _; unfold Ob.countsB; rw [decide_eq_false h1]; rfl
    have h1' : n < 0 := by omega
    go_enter Try.func56, Try.ntmps56
    go_wp2_with fail
    go_ret
    exact ⟨by rw [HF.out]; rfl, rfl⟩
end Go.Proofs.Ytljnddcddclmeaa
