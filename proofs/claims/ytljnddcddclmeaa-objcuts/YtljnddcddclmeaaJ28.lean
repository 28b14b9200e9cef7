/- 6.1: an instruction. -/
import Derived.Test.YtljnddcddclmeaaJ27
namespace Go.Proofs.Ytljnddcddclmeaa
open Go.RowKit
open Ob (Bs)

set_option maxRecDepth 100000 in
set_option maxHeartbeats 4000000 in
theorem inst_r {w : World} {b o : Nat} {O : Ob.O} {sa ua va pa na ca : Option Addr} {sc uc vc pc nc cc : Nat} (hV : OV w b o O sa ua va pa na ca sc uc vc pc nc cc) (hu : O.uses.length ≤ 1000000) (x : Ob.In) :
    Calls Try.prog 61 #[.pointer (some ⟨b, o, none⟩), .agg #[.int .i64 x.op, .int .i64 x.a, .int .i64 x.b]] w fun e w' => e = .returned (.bool (Ob.instB O x)) ∧ Below w.heap.size w w' := by
  have hbl := lt_of_cell hV.c0
  obtain ⟨w1, hw1⟩ : ∃ w1, w1 = w.alloc (.cells #[.int .i64 x.op, .int .i64 x.a, .int .i64 x.b] 45) := ⟨_, rfl⟩
  have hb0 : Below w.heap.size w w1 := by rw [hw1]; exact (Below.refl _ _).alloc (Nat.le_refl _) _
  have hblk : w1.heap[w.heap.size]? = some (.cells #[.int .i64 x.op, .int .i64 x.a, .int .i64 x.b] 45 (0, 0)) := by rw [hw1]; exact new_blk _ _
  have hsz : w.heap.size < w1.heap.size := lt_blk hblk
  have hV1 := hV.below hb0
  have k0 : w1.cell? ⟨w.heap.size, 0, none⟩ = some (.int .i64 x.op) := cell_blk hblk
  have k1 : w1.cell? ⟨w.heap.size, 1, none⟩ = some (.int .i64 x.a) := cell_blk hblk
  have k2 : w1.cell? ⟨w.heap.size, 2, none⟩ = some (.int .i64 x.b) := cell_blk hblk
  have HK : Hid (∀ W, Below w1.heap.size w1 W → W.cell? ⟨w.heap.size, 0, none⟩ = some (.int .i64 x.op) ∧ W.cell? ⟨w.heap.size, 1, none⟩ = some (.int .i64 x.a) ∧ W.cell? ⟨w.heap.size, 2, none⟩ = some (.int .i64 x.b) ∧ W.cell? ⟨b, o + 3, none⟩ = some (.slice va O.vars.length vc) ∧ W.cell? ⟨b, o + 4, none⟩ = some (.slice pa O.procs.length pc)) :=
    fun W hW => ⟨(hW.cell (p := ⟨w.heap.size, 0, none⟩) hsz).trans k0, (hW.cell (p := ⟨w.heap.size, 1, none⟩) hsz).trans k1, (hW.cell (p := ⟨w.heap.size, 2, none⟩) hsz).trans k2, (hV1.below hW).c3, (hV1.below hW).c4⟩
  have HCR : Hid (∀ W own, Below w1.heap.size w1 W → Calls Try.prog 82 #[.pointer (some ⟨b, o, none⟩), .agg #[.int .i64 x.op, .int .i64 x.a, .int .i64 x.b], .int .i64 ((own : Nat) : Int)] W fun e w' => e = .returned (.bool (Ob.reachB O x own)) ∧ Below W.heap.size W w') := fun W own hW => reaches_any (hV1.below hW) hu x own
  have HV1 := Lib.hid hV1
  have HB0 := Lib.hid hb0
  have HW1 := Lib.hid hw1
  have hbl1 : b < w1.heap.size := Nat.lt_of_lt_of_le hbl hb0.size
  clear hw1 hb0 hblk hV hV1
  by_cases h5 : x.op = 5
  · have HV : Hid (Ob.instB O x = Ob.reachB O x O.vars.length) := by show _ = _; unfold Ob.instB; simp [h5]
    have HC := Lib.hid (fun W hW => HCR.out W O.vars.length hW)
    rw [h5] at HK HC HW1 k0 ⊢
    generalize Ob.instB O x = r at *
    generalize Ob.reachB O x O.vars.length = d at *
    clear HCR HV1 h5
    generalize x.a = xa at *
    generalize x.b = xb at *
    have HK1 := Lib.hid (HK.out _ (below_drew w1))
    obtain ⟨_, _, _, f3, f4⟩ := HK.out w1 (Below.refl _ _)
    go_enter Try.func61, Try.ntmps61
    go_wp2_with fail
    rw [← HW1.out]
    clear HW1
    go_region_held3 (fun w' => w'.cell? ⟨w.heap.size, 0, none⟩ = some (.int .i64 5) ∧ w'.cell? ⟨w.heap.size, 1, none⟩ = some (.int .i64 xa) ∧ w'.cell? ⟨w.heap.size, 2, none⟩ = some (.int .i64 xb) ∧ w'.cell? ⟨b, o + 3, none⟩ = some (.slice va O.vars.length vc) ∧ w'.cell? ⟨b, o + 4, none⟩ = some (.slice pa O.procs.length pc)) (with_reducible (first | exact HK2.out | exact HK1.out)) (first | (go_at_call 82; refine (HC.out _ (below_drew w1)).mono ?_; rintro e w2 ⟨rfl, hb2⟩; have HB2 : Hid (Below w1.heap.size w1 w2) := (below_drew w1).trans hb2; have HK2 := Lib.hid (HK.out _ HB2.out); clear hb2))
    go_wp2_with fail
    go_ret
    exact ⟨by rw [HV.out]; rfl, HB0.out.trans (HB2.out.mono HB0.out.size)⟩
  by_cases h7 : x.op = 7
  · have HV : Hid (Ob.instB O x = Ob.reachB O x O.vars.length) := by show _ = _; unfold Ob.instB; simp [h7]
    have HC := Lib.hid (fun W hW => HCR.out W O.vars.length hW)
    rw [h7] at HK HC HW1 k0 ⊢
    generalize Ob.instB O x = r at *
    generalize Ob.reachB O x O.vars.length = d at *
    clear HCR HV1 h7
    generalize x.a = xa at *
    generalize x.b = xb at *
    have HK1 := Lib.hid (HK.out _ (below_drew w1))
    obtain ⟨_, _, _, f3, f4⟩ := HK.out w1 (Below.refl _ _)
    go_enter Try.func61, Try.ntmps61
    go_wp2_with fail
    rw [← HW1.out]
    clear HW1
    go_region_held3 (fun w' => w'.cell? ⟨w.heap.size, 0, none⟩ = some (.int .i64 7) ∧ w'.cell? ⟨w.heap.size, 1, none⟩ = some (.int .i64 xa) ∧ w'.cell? ⟨w.heap.size, 2, none⟩ = some (.int .i64 xb) ∧ w'.cell? ⟨b, o + 3, none⟩ = some (.slice va O.vars.length vc) ∧ w'.cell? ⟨b, o + 4, none⟩ = some (.slice pa O.procs.length pc)) (with_reducible (first | exact HK2.out | exact HK1.out)) (first | (go_at_call 82; refine (HC.out _ (below_drew w1)).mono ?_; rintro e w2 ⟨rfl, hb2⟩; have HB2 : Hid (Below w1.heap.size w1 w2) := (below_drew w1).trans hb2; have HK2 := Lib.hid (HK.out _ HB2.out); clear hb2))
    go_wp2_with fail
    go_ret
    exact ⟨by rw [HV.out]; rfl, HB0.out.trans (HB2.out.mono HB0.out.size)⟩
  by_cases h14 : x.op = 14
  · have HV : Hid (Ob.instB O x = Ob.reachB O x O.procs.length) := by show _ = _; unfold Ob.instB; simp [h14]
    have HC := Lib.hid (fun W hW => HCR.out W O.procs.length hW)
    rw [h14] at HK HC HW1 k0 ⊢
    generalize Ob.instB O x = r at *
    generalize Ob.reachB O x O.procs.length = d at *
    clear HCR HV1 h14
    generalize x.a = xa at *
    generalize x.b = xb at *
    have HK1 := Lib.hid (HK.out _ (below_drew w1))
    obtain ⟨_, _, _, f3, f4⟩ := HK.out w1 (Below.refl _ _)
    go_enter Try.func61, Try.ntmps61
    go_wp2_with fail
    rw [← HW1.out]
    clear HW1
    go_region_held3 (fun w' => w'.cell? ⟨w.heap.size, 0, none⟩ = some (.int .i64 14) ∧ w'.cell? ⟨w.heap.size, 1, none⟩ = some (.int .i64 xa) ∧ w'.cell? ⟨w.heap.size, 2, none⟩ = some (.int .i64 xb) ∧ w'.cell? ⟨b, o + 3, none⟩ = some (.slice va O.vars.length vc) ∧ w'.cell? ⟨b, o + 4, none⟩ = some (.slice pa O.procs.length pc)) (with_reducible (first | exact HK2.out | exact HK1.out)) (first | (go_at_call 82; refine (HC.out _ (below_drew w1)).mono ?_; rintro e w2 ⟨rfl, hb2⟩; have HB2 : Hid (Below w1.heap.size w1 w2) := (below_drew w1).trans hb2; have HK2 := Lib.hid (HK.out _ HB2.out); clear hb2))
    go_wp2_with fail
    go_ret
    exact ⟨by rw [HV.out]; rfl, HB0.out.trans (HB2.out.mono HB0.out.size)⟩
  by_cases h1 : x.op = 1
  · have HK' := HK.out w1 (Below.refl _ _)
    by_cases hb : x.b = 0
    · have hbe : (x.b == 0) = true := by simp [hb]
      have HV : Hid (Ob.instB O x = true) := by show _ = _; unfold Ob.instB; simp [h1, hb]
      rw [h1] at HW1 k0 ⊢
      generalize Ob.instB O x = r at *
      clear HCR HV1 h1 hb HK HK'
      generalize x.a = xa at *
      generalize x.b = xb at *
      go_enter Try.func61, Try.ntmps61
      go_wp2_with fail
      go_ret
      rw [← HW1.out]
      exact ⟨by rw [HV.out]; rfl, HB0.out⟩
    · have hbe : (x.b == 0) = false := by simpa using hb
      have HV : Hid (Ob.instB O x = false) := by show _ = _; unfold Ob.instB; simp [h1, hb]
      rw [h1] at HW1 k0 ⊢
      generalize Ob.instB O x = r at *
      clear HCR HV1 h1 hb HK HK'
      generalize x.a = xa at *
      generalize x.b = xb at *
      go_enter Try.func61, Try.ntmps61
      go_wp2_with fail
      go_ret
      rw [← HW1.out]
      exact ⟨by rw [HV.out]; rfl, HB0.out⟩
  have HD : Hid (Ob.instB O x = (decide (x.b = 0) && Ob.countsB x.a (Ob.choices O x.op))) := by show _ = _; unfold Ob.instB; rw [if_neg (by omega), if_neg h14, if_neg h1]
  have q5 := ne_beq h5
  have q7 := ne_beq h7
  have q14 := ne_beq h14
  have q1 := ne_beq h1
  have HCC : Hid (∀ W, Below w1.heap.size w1 W → Calls Try.prog 83 #[.pointer (some ⟨b, o, none⟩), .int .i64 x.op] W fun e w' => e = .returned (.int .i64 (Ob.choices O x.op : Int)) ∧ w' = W) := fun W hW => choices_any (HV1.out.below hW) x.op
  generalize Ob.instB O x = r at *
  generalize Ob.choices O x.op = nch at *
  generalize x.a = xa at *
  generalize x.op = xo at *
  clear HCR HV1 HK h5 h7 h14 h1
  by_cases hb : x.b = 0
  · have hbe : (x.b == 0) = true := by simp [hb]
    obtain ⟨d, hd⟩ : ∃ d, Ob.countsB xa nch = d := ⟨_, rfl⟩
    have HV : Hid (r = d) := by show _ = _; rw [HD.out, hd, decide_eq_true hb, Bool.true_and]
    clear HD hb
    generalize x.b = xb at *
    cases d
    all_goals
      go_enter Try.func61, Try.ntmps61
      go_wp2_with fail
      rw [← HW1.out]
      clear HW1
      go_quiet ((first | (go_at_call 83; exact Calls.quiet_of_same (HCC.out _ (below_drewN _ _))) | (go_at_call 56; exact Calls.quiet_of_same (counts_any _ _ _))))
      go_wp2_with fail
      go_ret
      exact ⟨by rw [HV.out]; rfl, HB0.out.trans ((below_drewN _ _).mono HB0.out.size)⟩
  · have hbe : (x.b == 0) = false := by simpa using hb
    have HV : Hid (r = false) := by show _ = _; rw [HD.out, decide_eq_false hb, Bool.false_and]
    clear HD hb
    generalize x.b = xb at *
    go_enter Try.func61, Try.ntmps61
    go_wp2_with fail
    rw [← HW1.out]
    clear HW1
    go_quiet (fail)
    go_wp2_with fail
    go_ret
    exact ⟨by rw [HV.out]; rfl, HB0.out.trans ((below_drewN _ _).mono HB0.out.size)⟩
end Go.Proofs.Ytljnddcddclmeaa
