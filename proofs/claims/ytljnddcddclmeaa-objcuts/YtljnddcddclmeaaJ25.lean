/- 6.1: procedures. -/
import Derived.Test.YtljnddcddclmeaaJ24
namespace Go.Proofs.Ytljnddcddclmeaa
open Go.RowKit
open Ob (Bs)

theorem cfEnt (args : Array Value) (w : World) : (callFunc 55 args).run Try.prog w = .ok (.enter 55 args) w := by kernel_rfl
set_option maxRecDepth 100000 in
set_option maxHeartbeats 2000000 in
theorem ent_r {w : World} (x : Ob.En) {cb b o n cap : Nat} {a : Option Addr} (hcb : w.cell? ⟨cb, 0, none⟩ = some (.pointer (some ⟨b, o, none⟩))) (hnm : w.cell? ⟨b, o + 6, none⟩ = some (.slice a n cap)) :
    Calls Try.prog 55 #[.agg #[.int .i64 x.at', .int .i64 x.args, .int .i64 x.locals], .pointer (some ⟨cb, 0, none⟩)] w fun e w' => e = .returned (.bool (Ob.entB n x)) ∧ Below w.heap.size w w' := by
  have HR : Hid (Ob.entB n x = (Ob.countsB x.at' n && (decide (0 ≤ x.args) && (decide (x.args ≤ x.locals) && decide (x.locals ≤ 10))))) := rfl
  have HC : Hid (∀ W, Calls Try.prog 56 #[.int .i64 x.at', .int .i64 (n : Int)] W fun e w' => e = .returned (.bool (Ob.countsB x.at' n)) ∧ w' = W) := fun W => counts_any W x.at' n
  generalize Ob.entB n x = r at *
  generalize Ob.countsB x.at' n = b1 at *
  generalize x.at' = xa at *
  generalize x.args = xb at *
  generalize x.locals = xc at *
  have hcl := lt_of_cell hcb
  have hbl := lt_of_cell hnm
  obtain ⟨w1, hw1⟩ : ∃ w1, w1 = w.alloc (.cells #[.int .i64 xa, .int .i64 xb, .int .i64 xc] 35) := ⟨_, rfl⟩
  have hb0 : Below w.heap.size w w1 := by rw [hw1]; exact (Below.refl _ _).alloc (Nat.le_refl _) _
  have hblk : w1.heap[w.heap.size]? = some (.cells #[.int .i64 xa, .int .i64 xb, .int .i64 xc] 35 (0, 0)) := by rw [hw1]; exact new_blk _ _
  have hsz : w.heap.size < w1.heap.size := lt_blk hblk
  have k0 : w1.cell? ⟨w.heap.size, 0, none⟩ = some (.int .i64 xa) := cell_blk hblk
  have k1 : w1.cell? ⟨w.heap.size, 1, none⟩ = some (.int .i64 xb) := cell_blk hblk
  have k2 : w1.cell? ⟨w.heap.size, 2, none⟩ = some (.int .i64 xc) := cell_blk hblk
  have kc : w1.cell? ⟨cb, 0, none⟩ = some (.pointer (some ⟨b, o, none⟩)) := (hb0.cell (p := ⟨cb, 0, none⟩) hcl).trans hcb
  have kn : w1.cell? ⟨b, o + 6, none⟩ = some (.slice a n cap) := (hb0.cell (p := ⟨b, o + 6, none⟩) hbl).trans hnm
  have HB0 := Lib.hid hb0
  have HW1 := Lib.hid hw1
  clear hw1 hb0 hblk hcb hnm
  cases b1 with
  | false =>
    have HV : Hid (r = false) := by
      show _ = _
      rw [HR.out]
      simp [*]
    clear HR
    go_enter Try.func55, Try.ntmps55
    go_wp2_with fail
    rw [← HW1.out]
    clear HW1
    go_quiet ((go_at_call 56; exact Calls.quiet_of_same (HC.out _)))
    go_wp2_with fail
    go_ret
    exact ⟨by rw [HV.out]; rfl, HB0.out.trans ((below_drewN _ _).mono HB0.out.size)⟩
  | true =>
    by_cases h1 : 0 ≤ xb
    · have h1d : decide (0 ≤ xb) = true := decide_eq_true (by omega)
      by_cases h2 : xb ≤ xc
      · have h2d : decide (xb ≤ xc) = true := decide_eq_true (by omega)
        by_cases h3 : xc ≤ 10
        · have h3d : decide (xc ≤ 10) = true := decide_eq_true (by omega)
          have HV : Hid (r = true) := by
            show _ = _
            rw [HR.out]
            simp [*]
          clear HR
          go_enter Try.func55, Try.ntmps55
          go_wp2_with fail
          rw [← HW1.out]
          clear HW1
          go_quiet ((go_at_call 56; exact Calls.quiet_of_same (HC.out _)))
          go_wp2_with fail
          go_ret
          exact ⟨by rw [HV.out]; rfl, HB0.out.trans ((below_drewN _ _).mono HB0.out.size)⟩
        · have h3d : decide (xc ≤ 10) = false := decide_eq_false (by omega)
          have h3n : 10 < xc := by omega
          have HV : Hid (r = false) := by
            show _ = _
            rw [HR.out]
            simp [*]
          clear HR
          go_enter Try.func55, Try.ntmps55
          go_wp2_with fail
          rw [← HW1.out]
          clear HW1
          go_quiet ((go_at_call 56; exact Calls.quiet_of_same (HC.out _)))
          go_wp2_with fail
          go_ret
          exact ⟨by rw [HV.out]; rfl, HB0.out.trans ((below_drewN _ _).mono HB0.out.size)⟩
      · have h2d : decide (xb ≤ xc) = false := decide_eq_false (by omega)
        have h2n : xc < xb := by omega
        have HV : Hid (r = false) := by
          show _ = _
          rw [HR.out]
          simp [*]
        clear HR
        go_enter Try.func55, Try.ntmps55
        go_wp2_with fail
        rw [← HW1.out]
        clear HW1
        go_quiet ((go_at_call 56; exact Calls.quiet_of_same (HC.out _)))
        go_wp2_with fail
        go_ret
        exact ⟨by rw [HV.out]; rfl, HB0.out.trans ((below_drewN _ _).mono HB0.out.size)⟩
    · have h1d : decide (0 ≤ xb) = false := decide_eq_false (by omega)
      have h1n : xb < 0 := by omega
      have HV : Hid (r = false) := by
        show _ = _
        rw [HR.out]
        simp [*]
      clear HR
      go_enter Try.func55, Try.ntmps55
      go_wp2_with fail
      rw [← HW1.out]
      clear HW1
      go_quiet ((go_at_call 56; exact Calls.quiet_of_same (HC.out _)))
      go_wp2_with fail
      go_ret
      exact ⟨by rw [HV.out]; rfl, HB0.out.trans ((below_drewN _ _).mono HB0.out.size)⟩
end Go.Proofs.Ytljnddcddclmeaa
