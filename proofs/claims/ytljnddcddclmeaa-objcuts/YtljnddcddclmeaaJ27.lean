/- 6.1: what instructions may name. -/
import Derived.Test.YtljnddcddclmeaaJ26
namespace Go.Proofs.Ytljnddcddclmeaa
open Go.RowKit
open Ob (Bs)

theorem ne_beq {a b : Int} (h : a ≠ b) : (a == b) = false := by simpa using h
set_option maxRecDepth 100000 in
set_option maxHeartbeats 2000000 in
theorem choices_any {w : World} {b o : Nat} {O : Ob.O} {sa ua va pa na ca : Option Addr} {sc uc vc pc nc cc : Nat} (hV : OV w b o O sa ua va pa na ca sc uc vc pc nc cc) (op : Int) :
    Calls Try.prog 83 #[.pointer (some ⟨b, o, none⟩), .int .i64 op] w fun e w' => e = .returned (.int .i64 (Ob.choices O op : Int)) ∧ w' = w := by
  have c3 := hV.c3
  have c6 := hV.c6
  have hbl := lt_of_cell hV.c0
  clear hV
  by_cases h3 : op = 3
  · subst h3
    have HV : Hid (Ob.choices O 3 = 10) := by show _ = _; simp [Ob.choices]
    generalize Ob.choices O 3 = r at *
    go_enter Try.func83, Try.ntmps83
    go_wp2_with fail
    go_ret
    exact ⟨by rw [HV.out]; rfl, rfl⟩
  by_cases h4 : op = 4
  · subst h4
    have HV : Hid (Ob.choices O 4 = 10) := by show _ = _; simp [Ob.choices]
    generalize Ob.choices O 4 = r at *
    go_enter Try.func83, Try.ntmps83
    go_wp2_with fail
    go_ret
    exact ⟨by rw [HV.out]; rfl, rfl⟩
  by_cases h6 : op = 6
  · subst h6
    have HV : Hid (Ob.choices O 6 = O.vars.length) := by show _ = _; simp [Ob.choices]
    generalize Ob.choices O 6 = r at *
    go_enter Try.func83, Try.ntmps83
    go_wp2_with fail
    go_ret
    exact ⟨by rw [HV.out]; rfl, rfl⟩
  by_cases h8 : op = 8
  · subst h8
    have HV : Hid (Ob.choices O 8 = O.vars.length) := by show _ = _; simp [Ob.choices]
    generalize Ob.choices O 8 = r at *
    go_enter Try.func83, Try.ntmps83
    go_wp2_with fail
    go_ret
    exact ⟨by rw [HV.out]; rfl, rfl⟩
  by_cases h9 : op = 9
  · subst h9
    have HV : Hid (Ob.choices O 9 = 11) := by show _ = _; simp [Ob.choices]
    generalize Ob.choices O 9 = r at *
    go_enter Try.func83, Try.ntmps83
    go_wp2_with fail
    go_ret
    exact ⟨by rw [HV.out]; rfl, rfl⟩
  by_cases h12 : op = 12
  · subst h12
    have HV : Hid (Ob.choices O 12 = O.code.length) := by show _ = _; simp [Ob.choices]
    generalize Ob.choices O 12 = r at *
    go_enter Try.func83, Try.ntmps83
    go_wp2_with fail
    go_ret
    exact ⟨by rw [HV.out]; rfl, rfl⟩
  by_cases h13 : op = 13
  · subst h13
    have HV : Hid (Ob.choices O 13 = O.code.length) := by show _ = _; simp [Ob.choices]
    generalize Ob.choices O 13 = r at *
    go_enter Try.func83, Try.ntmps83
    go_wp2_with fail
    go_ret
    exact ⟨by rw [HV.out]; rfl, rfl⟩
  by_cases h2 : op = 2
  · subst h2
    have HV : Hid (Ob.choices O 2 = 1) := by show _ = _; simp [Ob.choices]
    generalize Ob.choices O 2 = r at *
    go_enter Try.func83, Try.ntmps83
    go_wp2_with fail
    go_ret
    exact ⟨by rw [HV.out]; rfl, rfl⟩
  by_cases h10 : op = 10
  · subst h10
    have HV : Hid (Ob.choices O 10 = 1) := by show _ = _; simp [Ob.choices]
    generalize Ob.choices O 10 = r at *
    go_enter Try.func83, Try.ntmps83
    go_wp2_with fail
    go_ret
    exact ⟨by rw [HV.out]; rfl, rfl⟩
  by_cases h11 : op = 11
  · subst h11
    have HV : Hid (Ob.choices O 11 = 1) := by show _ = _; simp [Ob.choices]
    generalize Ob.choices O 11 = r at *
    go_enter Try.func83, Try.ntmps83
    go_wp2_with fail
    go_ret
    exact ⟨by rw [HV.out]; rfl, rfl⟩
  by_cases h15 : op = 15
  · subst h15
    have HV : Hid (Ob.choices O 15 = 1) := by show _ = _; simp [Ob.choices]
    generalize Ob.choices O 15 = r at *
    go_enter Try.func83, Try.ntmps83
    go_wp2_with fail
    go_ret
    exact ⟨by rw [HV.out]; rfl, rfl⟩
  by_cases h16 : op = 16
  · subst h16
    have HV : Hid (Ob.choices O 16 = 1) := by show _ = _; simp [Ob.choices]
    generalize Ob.choices O 16 = r at *
    go_enter Try.func83, Try.ntmps83
    go_wp2_with fail
    go_ret
    exact ⟨by rw [HV.out]; rfl, rfl⟩
  by_cases h17 : op = 17
  · subst h17
    have HV : Hid (Ob.choices O 17 = 1) := by show _ = _; simp [Ob.choices]
    generalize Ob.choices O 17 = r at *
    go_enter Try.func83, Try.ntmps83
    go_wp2_with fail
    go_ret
    exact ⟨by rw [HV.out]; rfl, rfl⟩
  have HV : Hid (Ob.choices O op = 0) := by show _ = _; simp [Ob.choices, *]
  generalize Ob.choices O op = r at *
  replace h3 := ne_beq h3
  replace h4 := ne_beq h4
  replace h6 := ne_beq h6
  replace h8 := ne_beq h8
  replace h9 := ne_beq h9
  replace h12 := ne_beq h12
  replace h13 := ne_beq h13
  replace h2 := ne_beq h2
  replace h10 := ne_beq h10
  replace h11 := ne_beq h11
  replace h15 := ne_beq h15
  replace h16 := ne_beq h16
  replace h17 := ne_beq h17
  go_enter Try.func83, Try.ntmps83
  go_wp2_with fail
  go_ret
  exact ⟨by rw [HV.out]; rfl, rfl⟩
set_option maxRecDepth 100000 in
set_option maxHeartbeats 1000000 in
theorem reaches_any {w : World} {b o : Nat} {O : Ob.O} {sa ua va pa na ca : Option Addr} {sc uc vc pc nc cc : Nat} (hV : OV w b o O sa ua va pa na ca sc uc vc pc nc cc) (hu : O.uses.length ≤ 1000000) (x : Ob.In) (own : Nat) :
    Calls Try.prog 82 #[.pointer (some ⟨b, o, none⟩), .agg #[.int .i64 x.op, .int .i64 x.a, .int .i64 x.b], .int .i64 (own : Int)] w fun e w' => e = .returned (.bool (Ob.reachB O x own)) ∧ Below w.heap.size w w' := by
  have hbl := lt_of_cell hV.c0
  obtain ⟨w1, hw1⟩ : ∃ w1, w1 = w.alloc (.cells #[.int .i64 x.op, .int .i64 x.a, .int .i64 x.b] 45) := ⟨_, rfl⟩
  have hb0 : Below w.heap.size w w1 := by rw [hw1]; exact (Below.refl _ _).alloc (Nat.le_refl _) _
  have hblk : w1.heap[w.heap.size]? = some (.cells #[.int .i64 x.op, .int .i64 x.a, .int .i64 x.b] 45 (0, 0)) := by rw [hw1]; exact new_blk _ _
  have hsz : w.heap.size < w1.heap.size := lt_blk hblk
  have k0 : w1.cell? ⟨w.heap.size, 0, none⟩ = some (.int .i64 x.op) := cell_blk hblk
  have k1 : w1.cell? ⟨w.heap.size, 1, none⟩ = some (.int .i64 x.a) := cell_blk hblk
  have k2 : w1.cell? ⟨w.heap.size, 2, none⟩ = some (.int .i64 x.b) := cell_blk hblk
  have hV1 := hV.below hb0
  have u2 := hV1.c2
  have HB0 := Lib.hid hb0
  have HW1 := Lib.hid hw1
  have HU := Lib.hid hV1.u
  have hu' : (O.uses.length : Int) ≤ 1000000 := by omega
  clear hw1 hb0 hblk hV hV1
  by_cases hb : x.b = -1
  · have hbe : (x.b == -1) = true := by simp [hb]
    have HV : Hid (Ob.reachB O x own = Ob.countsB x.a own) := by show _ = _; unfold Ob.reachB; rw [if_pos hb]
    have HC := Lib.hid (counts_any w1 x.a own)
    generalize Ob.reachB O x own = r at *
    generalize Ob.countsB x.a own = d at *
    generalize x.a = xa at *
    generalize x.b = xb at *
    generalize x.op = xo at *
    clear hb
    go_enter Try.func82, Try.ntmps82
    go_wp2_with fail
    rw [← HW1.out]
    clear HW1
    refine HC.out.mono ?_
    rintro e wq ⟨rfl, hwq⟩
    rw [hwq]
    clear hwq
    go_wp2_with fail
    go_ret
    exact ⟨by rw [HV.out]; rfl, HB0.out⟩
  · have hbe : (x.b == -1) = false := by simpa using hb
    have HC1 : Hid (∀ W, Calls Try.prog 56 #[.int .i64 x.b, .int .i64 (O.uses.length : Int)] W fun e w' => e = .returned (.bool (Ob.countsB x.b O.uses.length)) ∧ w' = W) := fun W => counts_any W x.b O.uses.length
    by_cases hcb : Ob.countsB x.b O.uses.length = true
    · have hr : 0 ≤ x.b ∧ x.b < (O.uses.length : Int) := by
        simp only [Ob.countsB, Bool.and_eq_true, decide_eq_true_eq] at hcb; exact hcb
      obtain ⟨i, hi⟩ : ∃ i : Nat, x.b = (i : Int) := ⟨x.b.toNat, by omega⟩
      have hil : i < O.uses.length := by omega
      have HV : Hid (Ob.reachB O x own = Ob.countsB x.a O.uses[i].names.length) := by
        show _ = _
        unfold Ob.reachB
        rw [if_neg hb, hcb, Bool.true_and, hi, Int.toNat_natCast, List.getElem?_eq_getElem hil]
        rfl
      have e1 := hcb
      obtain ⟨ucs, hU1, hU2⟩ := HU.out
      obtain ⟨na', nc', q0, q1, q2, q3⟩ := RepN.get _ _ hU1 i hil
      obtain ⟨a0, c0', hsl0, _, hall⟩ := hU2
      cases hsl0
      obtain ⟨g, go, rfl, hg2⟩ := hall _ _ q2
      have e2 : w1.cell? ⟨g, go + i * 3 + 2, none⟩ = some (.slice na' O.uses[i].names.length nc') := hg2
      have hgl := lt_of_cell hg2
      have hil' : (i : Int) < (O.uses.length : Int) := by omega
      have hi0 : (0 : Int) ≤ (i : Int) := by omega
      generalize Ob.reachB O x own = r at *
      obtain ⟨d, hd⟩ : ∃ d, Ob.countsB x.a O.uses[i].names.length = d := ⟨_, rfl⟩
      rw [hd] at HV
      generalize O.uses[i].names.length = nn at *
      generalize x.a = xa at *
      generalize x.op = xo at *
      clear hb hcb hr hall HC1 q0 q1 q2 q3 hg2 hU1 HU
      rw [hi] at e1 k2 hbe HW1 ⊢
      clear hi
      cases d
      all_goals
        go_enter Try.func82, Try.ntmps82
        go_wp2_with fail
        rw [← HW1.out]
        clear HW1
        go_quiet ((go_at_call 56; exact Calls.quiet_of_same (counts_any _ _ _)))
        go_wp2_with fail
        go_ret
        exact ⟨by rw [HV.out]; rfl, HB0.out.trans ((below_drewN _ _).mono HB0.out.size)⟩
    · have hcf : Ob.countsB x.b O.uses.length = false := by simpa using hcb
      have HV : Hid (Ob.reachB O x own = false) := by
        show _ = _
        unfold Ob.reachB
        rw [if_neg hb, hcf, Bool.false_and]
      rw [hcf] at HC1
      generalize Ob.reachB O x own = r at *
      generalize x.a = xa at *
      generalize x.op = xo at *
      generalize x.b = xb at *
      clear hb hcb hcf HU
      go_enter Try.func82, Try.ntmps82
      go_wp2_with fail
      rw [← HW1.out]
      clear HW1
      go_quiet ((go_at_call 56; exact Calls.quiet_of_same (HC1.out _)))
      go_wp2_with fail
      go_ret
      exact ⟨by rw [HV.out]; rfl, HB0.out.trans ((below_drewN _ _).mono HB0.out.size)⟩
end Go.Proofs.Ytljnddcddclmeaa
