import Derived.Test.YtkpapioaijmidaaGreatDoorKEe
import Derived.Test.YtkpapioaijmidaaGreatDoorKEf
/- The law's own: repeat; the texts. -/
namespace Go.Proofs.YtkpapioaijmidaaGreatDoor
open Go.RowKit
def rpt (s : ByteArray) : Nat → ByteArray
  | 0 => ⟨#[]⟩
  | n + 1 => rpt s n ++ s
theorem rpt_size (s : ByteArray) : ∀ n, (rpt s n).size = n * s.size := by
  intro n
  induction n with
  | zero => rw [rpt, Nat.zero_mul]; rfl
  | succ n ih => rw [rpt, ByteArray.size_append, ih, Nat.succ_mul]
theorem rpt_le {s : ByteArray} {n : Nat} (hn : n ≤ 400) (hs : s.size ≤ 100) : (rpt s n).size ≤ 40000 := by
  rw [rpt_size]
  exact Nat.le_trans (Nat.mul_le_mul hn hs) (by omega)
set_option maxRecDepth 100000 in
set_option maxHeartbeats 1000000 in
theorem repeat_any (s : ByteArray) (n : Nat) (hn : n ≤ 400) (hs : s.size ≤ 100) (w : World) : Calls Tryz.prog 4 #[.string s, .int .i64 (n : Int)] w fun e w' => e = .returned (.string (rpt s n)) ∧ w' = w := by
  have hni : (n : Int) ≤ 400 := by omega
  go_enter Tryz.func4, Tryz.ntmps4
  go_wp2_with fail
  go_loopg [5, 6] n (fun k vo vi wr => ∃ i : Nat, i ≤ n ∧ k = n - i ∧ vo = .string (rpt s i) ∧ vi = .int .i64 (i : Int) ∧ wr = w)
  case atStart => exact ⟨0, by omega, by omega, rfl, rfl, rfl⟩
  case round =>
    obtain ⟨i, hid, hk, rfl, rfl, hwr⟩ := hrel
    subst hwr
    by_cases hlt : i < n
    · have hlt' : (i : Int) < (n : Int) := by omega
      have hz := rpt_le (s := s) (n := i) (by omega) hs
      have hz2 : ¬ 9223372036854775807 < (rpt s i).size + s.size := by omega
      have HR : Hid (rpt s (i + 1) = rpt s i ++ s) := rfl
      generalize rpt s i = o at *
      go_wp2_with fail
      go_roundg (n - (i + 1))
      case measure => omega
      case rel => exact ⟨i + 1, by omega, rfl, by rw [HR.out], by go_num, rfl⟩
    · have hlt' : ¬ (i : Int) < (n : Int) := by omega
      have he : i = n := by omega
      subst he
      go_wp2_with fail
      go_ret
      exact ⟨rfl, rfl⟩
theorem idx8 (k : Nat) (h : k < 14) : ∃ y : ByteArray, y.size ≤ 20 ∧ ∀ w, (Instr.index 24 (.agg #[.string ⟨#[54]⟩, .string ⟨#[55]⟩, .string ⟨#[56]⟩, .string ⟨#[57]⟩, .string ⟨#[48]⟩, .string ⟨#[48, 48]⟩, .string ⟨#[]⟩, .string ⟨#[55, 120]⟩]) (.int .i64 ((k : Int).tmod 8))).run Tryz.prog w = .ok (.string y) w := by
  match k, h with
  | 0, _ => exact ⟨⟨#[54]⟩, by decide, fun w => by kernel_rfl⟩
  | 1, _ => exact ⟨⟨#[55]⟩, by decide, fun w => by kernel_rfl⟩
  | 2, _ => exact ⟨⟨#[56]⟩, by decide, fun w => by kernel_rfl⟩
  | 3, _ => exact ⟨⟨#[57]⟩, by decide, fun w => by kernel_rfl⟩
  | 4, _ => exact ⟨⟨#[48]⟩, by decide, fun w => by kernel_rfl⟩
  | 5, _ => exact ⟨⟨#[48, 48]⟩, by decide, fun w => by kernel_rfl⟩
  | 6, _ => exact ⟨⟨#[]⟩, by decide, fun w => by kernel_rfl⟩
  | 7, _ => exact ⟨⟨#[55, 120]⟩, by decide, fun w => by kernel_rfl⟩
  | 8, _ => exact ⟨⟨#[54]⟩, by decide, fun w => by kernel_rfl⟩
  | 9, _ => exact ⟨⟨#[55]⟩, by decide, fun w => by kernel_rfl⟩
  | 10, _ => exact ⟨⟨#[56]⟩, by decide, fun w => by kernel_rfl⟩
  | 11, _ => exact ⟨⟨#[57]⟩, by decide, fun w => by kernel_rfl⟩
  | 12, _ => exact ⟨⟨#[48]⟩, by decide, fun w => by kernel_rfl⟩
  | 13, _ => exact ⟨⟨#[48, 48]⟩, by decide, fun w => by kernel_rfl⟩
theorem idx7 (k : Nat) (h : k < 14) : ∃ y : ByteArray, y.size ≤ 20 ∧ ∀ w, (Instr.index 26 (.agg #[.string ⟨#[48]⟩, .string ⟨#[49]⟩, .string ⟨#[51, 48]⟩, .string ⟨#[51, 49]⟩, .string ⟨#[48, 48, 55]⟩, .string ⟨#[120]⟩, .string ⟨#[57, 57, 57, 57, 57, 57, 57, 57, 57, 57, 57, 57, 57, 57, 57, 57, 57, 57, 57, 57]⟩]) (.int .i64 ((k : Int).tmod 7))).run Tryz.prog w = .ok (.string y) w := by
  match k, h with
  | 0, _ => exact ⟨⟨#[48]⟩, by decide, fun w => by kernel_rfl⟩
  | 1, _ => exact ⟨⟨#[49]⟩, by decide, fun w => by kernel_rfl⟩
  | 2, _ => exact ⟨⟨#[51, 48]⟩, by decide, fun w => by kernel_rfl⟩
  | 3, _ => exact ⟨⟨#[51, 49]⟩, by decide, fun w => by kernel_rfl⟩
  | 4, _ => exact ⟨⟨#[48, 48, 55]⟩, by decide, fun w => by kernel_rfl⟩
  | 5, _ => exact ⟨⟨#[120]⟩, by decide, fun w => by kernel_rfl⟩
  | 6, _ => exact ⟨⟨#[57, 57, 57, 57, 57, 57, 57, 57, 57, 57, 57, 57, 57, 57, 57, 57, 57, 57, 57, 57]⟩, by decide, fun w => by kernel_rfl⟩
  | 7, _ => exact ⟨⟨#[48]⟩, by decide, fun w => by kernel_rfl⟩
  | 8, _ => exact ⟨⟨#[49]⟩, by decide, fun w => by kernel_rfl⟩
  | 9, _ => exact ⟨⟨#[51, 48]⟩, by decide, fun w => by kernel_rfl⟩
  | 10, _ => exact ⟨⟨#[51, 49]⟩, by decide, fun w => by kernel_rfl⟩
  | 11, _ => exact ⟨⟨#[48, 48, 55]⟩, by decide, fun w => by kernel_rfl⟩
  | 12, _ => exact ⟨⟨#[120]⟩, by decide, fun w => by kernel_rfl⟩
  | 13, _ => exact ⟨⟨#[57, 57, 57, 57, 57, 57, 57, 57, 57, 57, 57, 57, 57, 57, 57, 57, 57, 57, 57, 57]⟩, by decide, fun w => by kernel_rfl⟩
theorem wrap_small {z : Int} (h0 : 0 ≤ z) (h1 : z < 100000) : IntKind.i64.wrap z = z := by
  have e : z % (2 ^ 64 : Int) = z := Int.emod_eq_of_lt h0 (by omega)
  have h : IntKind.i64.wrap z = if (true && decide (z % (2 ^ 64 : Int) ≥ (2 ^ 63 : Int))) = true then z % (2 ^ 64 : Int) - (2 ^ 64 : Int) else z % (2 ^ 64 : Int) := rfl
  rw [h, e]
  have e2 : decide (z ≥ (2 ^ 63 : Int)) = false := decide_eq_false (by omega)
  rw [e2]
  rfl
theorem uk (n : Int) (b : Nat) (hb : 0 < b) (hb2 : b < 100) : ∃ k : Nat, k < b ∧ wrap64 ((IntKind.u64.wrap n).tmod (b : Int)) = (k : Int) ∧ IntKind.i64.wrap ((IntKind.u64.wrap n).tmod (b : Int)) = (k : Int) := by
  have h0 : 0 ≤ IntKind.u64.wrap n := by
    unfold IntKind.wrap
    simp [IntKind.signed, IntKind.bits]
    omega
  have h1 := Int.tmod_nonneg (b : Int) h0
  have h2 := Int.tmod_lt_of_pos (IntKind.u64.wrap n) (show (0 : Int) < (b : Int) by omega)
  obtain ⟨k, hk⟩ := Int.eq_ofNat_of_zero_le h1
  refine ⟨k, by omega, ?_, ?_⟩
  · rw [hk]
    unfold wrap64
    omega
  · rw [wrap_small h1 (by omega), hk]
end Go.Proofs.YtkpapioaijmidaaGreatDoor
