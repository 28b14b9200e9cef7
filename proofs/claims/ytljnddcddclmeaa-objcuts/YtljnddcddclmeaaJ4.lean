/- Reading: a number. -/
import Derived.Test.YtljnddcddclmeaaJ4a
namespace Go.Proofs.Ytljnddcddclmeaa
open Go.RowKit
open Ob (Bs)

theorem takeR_cons (b : UInt8) (l : Bs) : Ob.takeR 1 (b :: l) = some ([b], l) := by simp [Ob.takeR]
theorem take1_cons {w : World} {rb : Nat} {b : UInt8} {l : Bs} (h : Rst w rb (b :: l)) :
    Calls Try.prog 84 #[.pointer (some ⟨rb, 0, none⟩), .int .i64 1] w fun e w' => e = .returned (.string (bs [b])) ∧ Rst w' rb l ∧ Ext rb w w' := by
  refine (take_any h 1 (by omega)).mono ?_
  intro e w' hq
  rw [takeR_cons] at hq
  obtain ⟨v, rfl, rfl, h1, h2⟩ := hq
  exact ⟨rfl, h1, h2⟩
theorem take1_nil {w : World} {rb : Nat} (h : Rst w rb []) :
    Calls Try.prog 84 #[.pointer (some ⟨rb, 0, none⟩), .int .i64 1] w fun e w' => e = thrown ∧ Ext rb w w' := by
  refine (take_any h 1 (by omega)).mono ?_
  intro e w' hq
  exact hq
theorem zag_even (o : Nat) (h : o % 2 = 0) : ((o : Int) / 2) = Ob.zag o := by
  unfold Ob.zag
  rw [if_neg (by omega)]
  omega
theorem zag_odd (o : Nat) (ho : o < 18446744073709551616) (h : o % 2 = 1) : Go.bits .xor .i64 (-1) ((o : Int) / 2) = Ob.zag o := by
  have e : ((o : Int) / 2) = ((o / 2 : Nat) : Int) := by omega
  rw [e, i64_not _ (by omega)]
  unfold Ob.zag
  rw [if_pos h]
  omega
set_option maxRecDepth 100000 in
set_option maxHeartbeats 1000000 in
theorem number_any {w : World} {rb : Nat} {l : Bs} (h : Rst w rb l) :
    Calls Try.prog 88 #[.pointer (some ⟨rb, 0, none⟩)] w fun e w' => Rp rb w (fun n v _ => v = .int .i64 n) (Ob.numR l) e w' := by
  have hl := h.n
  go_enter Try.func88, Try.ntmps88
  go_wp2_with fail
  go_loopg [3, 4] l.length (fun k vu vb wr => ∃ (u bits : Nat) (r : Bs), k = r.length ∧ vu = .int .u64 (u : Int) ∧ vb = .int .i64 (bits : Int) ∧ u < 18446744073709551616 ∧ bits + 7 * r.length ≤ 7000000000 ∧ Ob.nu u bits r = Ob.nu 0 0 l ∧ Rst wr rb r ∧ Ext rb w wr)
  case atStart => exact ⟨0, 0, l, rfl, rfl, rfl, by omega, by omega, rfl, h, Ext.refl _ _⟩
  case round =>
    obtain ⟨u, bits, r, hk, rfl, rfl, hu, hbits, hspec, hst, hext⟩ := hrel
    have HS := Lib.hid hspec
    clear hspec h
    cases r with
    | nil =>
      go_wp2_with fail
      refine (take1_nil hst).mono ?_
      rintro e w1 ⟨rfl, hx1⟩
      unfold thrown
      go_wp2_with fail
      refine ⟨rfl, ?_⟩
      unfold Ob.numR
      rw [← HS.out]
      exact ⟨rfl, hext.trans hx1⟩
    | cons b r =>
      have hb := b.toNat_lt
      have e0 : ∀ h, (bs [b])[0]'h = b := fun _ => rfl
      have e1 : (bs [b]).size = 1 := rfl
      obtain ⟨m, hm⟩ : ∃ m, m = b.toNat % 128 := ⟨_, rfl⟩
      have hm1 : m < 128 := by omega
      have ea := and127 b.toNat (by omega)
      rw [← hm] at ea
      have ew : IntKind.u64.wrap (m : Int) = (m : Int) := by rw [IntKind.wrap_u64]; omega
      have es := shl64 m bits
      obtain ⟨sh, hsh⟩ : ∃ sh, sh = (m <<< bits) % 18446744073709551616 := ⟨_, rfl⟩
      rw [← hsh] at es
      have hshl : sh < 18446744073709551616 := by omega
      have eo := bits_or_u64_nat u sh hu hshl
      obtain ⟨o, ho⟩ : ∃ o, o = u ||| sh := ⟨_, rfl⟩
      rw [← ho] at eo
      have hol : o < 18446744073709551616 := by rw [ho]; exact Nat.or_lt_two_pow (n := 64) hu hshl
      have HO : Hid (o = Ob.orS u b.toNat bits) := by unfold Ob.orS; rw [← hm, ← hsh]; exact ho
      have HN : Hid (Ob.nu u bits (b :: r) = if b.toNat < 128 then some (o, r) else Ob.nu o (bits + 7) r) := by rw [HO.out]; rfl
      have hbits' : bits ≤ 7000000000 := by omega
      have hrl : bits + 7 + 7 * r.length ≤ 7000000000 := by simp at hbits; omega
      have hk' : gk = r.length + 1 := hk
      clear hm hsh ho hbits hk
      by_cases hlt : b.toNat < 128
      · have hlt' : (b.toNat : Int) < 128 := by omega
        obtain ⟨q, hq⟩ : ∃ q, q = o % 2 := ⟨_, rfl⟩
        have e2 := and1 o hol
        rw [← hq] at e2
        have HQ := Lib.hid hq
        have HR : Hid (Ob.numR l = some (Ob.zag o, r)) := by
          unfold Ob.numR
          rw [← HS.out, HN.out, if_pos hlt]; rfl
        clear hq HS HN HO hlt
        by_cases hq1 : q = 1
        · have HZ : Hid (Go.bits .xor .i64 (-1) ((o : Int) / 2) = Ob.zag o) := zag_odd o hol (by rw [← HQ.out]; exact hq1)
          subst hq1
          clear HQ
          go_wp2_with fail
          refine (take1_cons hst).mono ?_
          rintro e w1 ⟨rfl, hst1, hx1⟩
          go_wp2_with fail
          go_ret
          rw [HR.out]
          exact ⟨_, rfl, congrArg (Value.int .i64) HZ.out, hst1, hext.trans hx1⟩
        · have hq0 : q = 0 := by have := HQ.out; omega
          have HZ : Hid (((o : Int) / 2) = Ob.zag o) := zag_even o (by rw [← HQ.out]; exact hq0)
          subst hq0
          clear HQ hq1
          go_wp2_with fail
          refine (take1_cons hst).mono ?_
          rintro e w1 ⟨rfl, hst1, hx1⟩
          go_wp2_with fail
          go_ret
          rw [HR.out]
          exact ⟨_, rfl, congrArg (Value.int .i64) HZ.out, hst1, hext.trans hx1⟩
      · have hlt' : ¬ (b.toNat : Int) < 128 := by omega
        have HR : Hid (Ob.nu o (bits + 7) r = Ob.nu 0 0 l) := by rw [← HS.out]; unfold Hid; rw [HN.out, if_neg hlt]
        clear HS HN HO hlt
        go_wp2_with fail
        refine (take1_cons hst).mono ?_
        rintro e w1 ⟨rfl, hst1, hx1⟩
        go_wp2_with fail
        go_roundg r.length
        case measure => omega
        case rel => exact ⟨o, bits + 7, r, rfl, rfl, by go_num, hol, hrl, HR.out, hst1, hext.trans hx1⟩
end Go.Proofs.Ytljnddcddclmeaa
