/- Bits. -/
import Derived.Test.YtljnddcddclmeaaJ3
import Derived.Laws.Bits64b
import Derived.Laws.BitsAllLaws
import Derived.Laws.DeepNot64
namespace Go.Proofs.Ytljnddcddclmeaa
open Go.RowKit
open Ob (Bs)
theorem and127 (x : Nat) (hx : x < 256) : Go.bits .and .u8 (x : Int) 127 = ((x % 128 : Nat) : Int) := by
  have h := u8_and_nat x 127 hx (by omega)
  rw [show (127 : Nat) = 2 ^ 7 - 1 from rfl, Nat.and_two_pow_sub_one_eq_mod] at h
  simpa using h
theorem and1 (x : Nat) (hx : x < 18446744073709551616) : Go.bits .and .u64 (x : Int) 1 = ((x % 2 : Nat) : Int) := by
  have h := bits_and_u64_nat x 1 hx (by omega)
  rw [show (1 : Nat) = 2 ^ 1 - 1 from rfl, Nat.and_two_pow_sub_one_eq_mod] at h
  simpa using h
theorem or128 (x : Nat) (hx : x < 256) : Go.bits .or .u8 (x : Int) 128 = ((x % 128 + 128 : Nat) : Int) := by
  have h := u8_or_nat x 128 hx (by omega)
  have e : ∀ y, y < 256 → y ||| 128 = y % 128 + 128 := by decide +kernel
  rw [e x hx] at h
  simpa using h
theorem not64 (n : Nat) (h : n < 18446744073709551616) : Go.bits .xor .u64 18446744073709551615 (n : Int) = ((18446744073709551615 - n : Nat) : Int) := by
  have h1 : (18446744073709551615 : Int) = ((18446744073709551615 : Nat) : Int) := rfl
  have h2 : Go.bits .xor .u64 18446744073709551615 (n : Int) = IntKind.u64.wrap ((BitVec.ofInt 64 18446744073709551615 ^^^ BitVec.ofInt 64 (n : Int)).toNat : Int) := rfl
  rw [h2, show BitVec.ofInt 64 18446744073709551615 = BitVec.allOnes 64 from rfl, BitVec.allOnes_xor, BitVec.toNat_not, BitVec.ofInt_natCast, BitVec.toNat_ofNat, Nat.mod_eq_of_lt (show n < 2 ^ 64 by omega), IntKind.wrap_u64]
  omega
theorem shl64 (m bits : Nat) : IntKind.u64.wrap ((m : Int) * 2 ^ min bits 64) = (((m <<< bits) % 18446744073709551616 : Nat) : Int) := by
  rw [IntKind.wrap_u64, Nat.shiftLeft_eq]
  by_cases h : bits ≤ 64
  · rw [Nat.min_eq_left h]
    simp
  · rw [Nat.min_eq_right (by omega)]
    have e : 2 ^ bits = 18446744073709551616 * 2 ^ (bits - 64) := by
      rw [show (18446744073709551616 : Nat) = 2 ^ 64 from rfl, ← Nat.pow_add]; congr 1; omega
    rw [e, Nat.mul_left_comm, Nat.mul_mod_right]
    omega
end Go.Proofs.Ytljnddcddclmeaa
