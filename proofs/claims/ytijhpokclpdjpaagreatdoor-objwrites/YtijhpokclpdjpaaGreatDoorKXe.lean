import Derived.Test.YtijhpokclpdjpaaGreatDoorKXb
import Derived.Test.YtijhpokclpdjpaaGreatDoorKXc
import Derived.Test.YtijhpokclpdjpaaGreatDoorKJg
/- The document's own: rightInst. -/
namespace Go.Proofs.YtijhpokclpdjpaaGreatDoor
open Go.RowKit
open Ob (Bs)

set_option maxRecDepth 100000 in
set_option maxHeartbeats 400000 in
theorem rbelow_any (w : World) (n : Int) (many : Nat) : Calls Tryz.prog 65 #[.int .i64 n, .int .i64 (many : Int)] w fun e w' => e = .returned (.bool (Ob.countsB n many)) ∧ w' = w := by
  have HR : Hid (Ob.countsB n many = (decide (0 ≤ n) && decide (n < (many : Int)))) := rfl
  generalize Ob.countsB n many = r at *
  by_cases h1 : 0 ≤ n
  · by_cases h2 : n < (many : Int)
    · go_enter Tryz.func65, Tryz.ntmps65
      go_wp2_with fail
      go_ret
      exact ⟨by rw [HR.out, decide_eq_true h1, decide_eq_true h2]; rfl, rfl⟩
    · go_enter Tryz.func65, Tryz.ntmps65
      go_wp2_with fail
      go_ret
      exact ⟨by rw [HR.out, decide_eq_true h1, decide_eq_false (p := n < (many : Int)) (by omega)]; rfl, rfl⟩
  · go_enter Tryz.func65, Tryz.ntmps65
    go_wp2_with fail
    go_ret
    exact ⟨by rw [HR.out, decide_eq_false (p := 0 ≤ n) (by omega)]; rfl, rfl⟩

set_option maxRecDepth 100000 in
set_option maxHeartbeats 2000000 in
theorem rinst_1 {w : World} {b o : Nat} {O : Ob.O} {sa ua va pa na ca : Option Addr} {sc uc vc pc nc cc : Nat} (hV : OV w b o O sa ua va pa na ca sc uc vc pc nc cc) (hu : O.uses.length ≤ 1000000) (xo xa xb : Int) (ho1 : xo = 1):
    Calls Tryz.prog 28 #[.pointer (some ⟨b, o, none⟩), .agg #[.int .i64 xo, .int .i64 xa, .int .i64 xb]] w fun e w' => e = .returned (.bool (Ob.instB O ⟨xo, xa, xb⟩)) ∧ Below w.heap.size w w' := by
  have hbl := lt_of_cell hV.c0
  obtain ⟨w1, hw1⟩ : ∃ w1, w1 = w.alloc (.cells #[.int .i64 xo, .int .i64 xa, .int .i64 xb] 49) := ⟨_, rfl⟩
  have hb0 : Below w.heap.size w w1 := by rw [hw1]; exact (Below.refl _ _).alloc (Nat.le_refl _) _
  have hblk : w1.heap[w.heap.size]? = some (.cells #[.int .i64 xo, .int .i64 xa, .int .i64 xb] 49 (0, 0)) := by rw [hw1]; exact new_blk _ _
  have hsz : w.heap.size < w1.heap.size := lt_blk hblk
  have k0 : w1.cell? ⟨w.heap.size, 0, none⟩ = some (.int .i64 xo) := cell_blk hblk
  have k1 : w1.cell? ⟨w.heap.size, 1, none⟩ = some (.int .i64 xa) := cell_blk hblk
  have k2 : w1.cell? ⟨w.heap.size, 2, none⟩ = some (.int .i64 xb) := cell_blk hblk
  have hV1 := hV.below hb0
  have y2 := hV.c2
  have y3 := hV.c3
  have y4 := hV.c4
  have y6 := hV.c6
  have u2 := hV1.c2
  have u3 := hV1.c3
  have u4 := hV1.c4
  have u6 := hV1.c6
  have HB0 := Lib.hid hb0
  have HW1 := Lib.hid hw1
  have HU := Lib.hid hV1.u
  have hu' : (O.uses.length : Int) ≤ 1000000 := by omega
  clear hw1 hb0 hblk hV hV1
  have HCB : Hid (∀ (n : Int) (many : Nat), Calls Tryz.prog 65 #[.int .i64 n, .int .i64 (many : Int)] w1 fun e w' => e = .returned (.bool (Ob.countsB n many)) ∧ w' = w1) := fun n many => rbelow_any w1 n many
  obtain ⟨r, hr⟩ : ∃ r, Ob.instB O ⟨xo, xa, xb⟩ = r := ⟨_, rfl⟩
  rw [hr]
  · have HV : Hid (r = decide (xb = 0)) := by
      show _ = _
      rw [← hr, ho1]
      rfl
    rw [ho1] at k0 HW1 ⊢
    clear hr HCB ho1
    by_cases hb : xb = 0
    · have hbe : (xb == 0) = true := by simp [hb]
      have HV2 : Hid (r = true) := by show _ = _; rw [HV.out, decide_eq_true hb]
      clear hb HV
      go_enter Tryz.func28, Tryz.ntmps28
      go_wp2_with fail
      rw [← HW1.out]
      clear HW1
      go_wp2_with fail
      go_ret
      exact ⟨by rw [HV2.out]; rfl, HB0.out⟩
    · have hbe : (xb == 0) = false := by simpa using hb
      have HV2 : Hid (r = false) := by show _ = _; rw [HV.out, decide_eq_false hb]
      clear hb HV
      go_enter Tryz.func28, Tryz.ntmps28
      go_wp2_with fail
      rw [← HW1.out]
      clear HW1
      go_wp2_with fail
      go_ret
      exact ⟨by rw [HV2.out]; rfl, HB0.out⟩
set_option maxRecDepth 100000 in
set_option maxHeartbeats 2000000 in
theorem rinst_3 {w : World} {b o : Nat} {O : Ob.O} {sa ua va pa na ca : Option Addr} {sc uc vc pc nc cc : Nat} (hV : OV w b o O sa ua va pa na ca sc uc vc pc nc cc) (hu : O.uses.length ≤ 1000000) (xo xa xb : Int) (ho3 : xo = 3):
    Calls Tryz.prog 28 #[.pointer (some ⟨b, o, none⟩), .agg #[.int .i64 xo, .int .i64 xa, .int .i64 xb]] w fun e w' => e = .returned (.bool (Ob.instB O ⟨xo, xa, xb⟩)) ∧ Below w.heap.size w w' := by
  have hbl := lt_of_cell hV.c0
  obtain ⟨w1, hw1⟩ : ∃ w1, w1 = w.alloc (.cells #[.int .i64 xo, .int .i64 xa, .int .i64 xb] 49) := ⟨_, rfl⟩
  have hb0 : Below w.heap.size w w1 := by rw [hw1]; exact (Below.refl _ _).alloc (Nat.le_refl _) _
  have hblk : w1.heap[w.heap.size]? = some (.cells #[.int .i64 xo, .int .i64 xa, .int .i64 xb] 49 (0, 0)) := by rw [hw1]; exact new_blk _ _
  have hsz : w.heap.size < w1.heap.size := lt_blk hblk
  have k0 : w1.cell? ⟨w.heap.size, 0, none⟩ = some (.int .i64 xo) := cell_blk hblk
  have k1 : w1.cell? ⟨w.heap.size, 1, none⟩ = some (.int .i64 xa) := cell_blk hblk
  have k2 : w1.cell? ⟨w.heap.size, 2, none⟩ = some (.int .i64 xb) := cell_blk hblk
  have hV1 := hV.below hb0
  have y2 := hV.c2
  have y3 := hV.c3
  have y4 := hV.c4
  have y6 := hV.c6
  have u2 := hV1.c2
  have u3 := hV1.c3
  have u4 := hV1.c4
  have u6 := hV1.c6
  have HB0 := Lib.hid hb0
  have HW1 := Lib.hid hw1
  have HU := Lib.hid hV1.u
  have hu' : (O.uses.length : Int) ≤ 1000000 := by omega
  clear hw1 hb0 hblk hV hV1
  have HCB : Hid (∀ (n : Int) (many : Nat), Calls Tryz.prog 65 #[.int .i64 n, .int .i64 (many : Int)] w1 fun e w' => e = .returned (.bool (Ob.countsB n many)) ∧ w' = w1) := fun n many => rbelow_any w1 n many
  obtain ⟨r, hr⟩ : ∃ r, Ob.instB O ⟨xo, xa, xb⟩ = r := ⟨_, rfl⟩
  rw [hr]
  · have HV : Hid (r = (Ob.countsB xa 10 && decide (xb = 0))) := by
      show _ = _
      rw [← hr, ho3, Bool.and_comm]
      rfl
    have HC := Lib.hid (HCB.out xa 10)
    rw [ho3] at k0 HW1 ⊢
    clear hr HCB ho3
    generalize Ob.countsB xa 10 = d at *
    go_enter Tryz.func28, Tryz.ntmps28
    go_wp2_with fail
    rw [← HW1.out]
    clear HW1
    refine HC.out.mono ?_
    rintro e wq ⟨rfl, hwq⟩
    rw [hwq]
    clear hwq
    cases d
    · go_wp2_with fail
      go_ret
      exact ⟨by rw [HV.out]; rfl, HB0.out⟩
    · by_cases hb : xb = 0
      · have hbe : (xb == 0) = true := by simp [hb]
        have HV2 : Hid (r = true) := by show _ = _; rw [HV.out, decide_eq_true hb]; rfl
        clear hb HV
        go_wp2_with fail
        go_ret
        exact ⟨by rw [HV2.out]; rfl, HB0.out⟩
      · have hbe : (xb == 0) = false := by simpa using hb
        have HV2 : Hid (r = false) := by show _ = _; rw [HV.out, decide_eq_false hb]; rfl
        clear hb HV
        go_wp2_with fail
        go_ret
        exact ⟨by rw [HV2.out]; rfl, HB0.out⟩
set_option maxRecDepth 100000 in
set_option maxHeartbeats 2000000 in
theorem rinst_4 {w : World} {b o : Nat} {O : Ob.O} {sa ua va pa na ca : Option Addr} {sc uc vc pc nc cc : Nat} (hV : OV w b o O sa ua va pa na ca sc uc vc pc nc cc) (hu : O.uses.length ≤ 1000000) (xo xa xb : Int) (ho4 : xo = 4):
    Calls Tryz.prog 28 #[.pointer (some ⟨b, o, none⟩), .agg #[.int .i64 xo, .int .i64 xa, .int .i64 xb]] w fun e w' => e = .returned (.bool (Ob.instB O ⟨xo, xa, xb⟩)) ∧ Below w.heap.size w w' := by
  have hbl := lt_of_cell hV.c0
  obtain ⟨w1, hw1⟩ : ∃ w1, w1 = w.alloc (.cells #[.int .i64 xo, .int .i64 xa, .int .i64 xb] 49) := ⟨_, rfl⟩
  have hb0 : Below w.heap.size w w1 := by rw [hw1]; exact (Below.refl _ _).alloc (Nat.le_refl _) _
  have hblk : w1.heap[w.heap.size]? = some (.cells #[.int .i64 xo, .int .i64 xa, .int .i64 xb] 49 (0, 0)) := by rw [hw1]; exact new_blk _ _
  have hsz : w.heap.size < w1.heap.size := lt_blk hblk
  have k0 : w1.cell? ⟨w.heap.size, 0, none⟩ = some (.int .i64 xo) := cell_blk hblk
  have k1 : w1.cell? ⟨w.heap.size, 1, none⟩ = some (.int .i64 xa) := cell_blk hblk
  have k2 : w1.cell? ⟨w.heap.size, 2, none⟩ = some (.int .i64 xb) := cell_blk hblk
  have hV1 := hV.below hb0
  have y2 := hV.c2
  have y3 := hV.c3
  have y4 := hV.c4
  have y6 := hV.c6
  have u2 := hV1.c2
  have u3 := hV1.c3
  have u4 := hV1.c4
  have u6 := hV1.c6
  have HB0 := Lib.hid hb0
  have HW1 := Lib.hid hw1
  have HU := Lib.hid hV1.u
  have hu' : (O.uses.length : Int) ≤ 1000000 := by omega
  clear hw1 hb0 hblk hV hV1
  have HCB : Hid (∀ (n : Int) (many : Nat), Calls Tryz.prog 65 #[.int .i64 n, .int .i64 (many : Int)] w1 fun e w' => e = .returned (.bool (Ob.countsB n many)) ∧ w' = w1) := fun n many => rbelow_any w1 n many
  obtain ⟨r, hr⟩ : ∃ r, Ob.instB O ⟨xo, xa, xb⟩ = r := ⟨_, rfl⟩
  rw [hr]
  · have HV : Hid (r = (Ob.countsB xa 10 && decide (xb = 0))) := by
      show _ = _
      rw [← hr, ho4, Bool.and_comm]
      rfl
    have HC := Lib.hid (HCB.out xa 10)
    rw [ho4] at k0 HW1 ⊢
    clear hr HCB ho4
    generalize Ob.countsB xa 10 = d at *
    go_enter Tryz.func28, Tryz.ntmps28
    go_wp2_with fail
    rw [← HW1.out]
    clear HW1
    refine HC.out.mono ?_
    rintro e wq ⟨rfl, hwq⟩
    rw [hwq]
    clear hwq
    cases d
    · go_wp2_with fail
      go_ret
      exact ⟨by rw [HV.out]; rfl, HB0.out⟩
    · by_cases hb : xb = 0
      · have hbe : (xb == 0) = true := by simp [hb]
        have HV2 : Hid (r = true) := by show _ = _; rw [HV.out, decide_eq_true hb]; rfl
        clear hb HV
        go_wp2_with fail
        go_ret
        exact ⟨by rw [HV2.out]; rfl, HB0.out⟩
      · have hbe : (xb == 0) = false := by simpa using hb
        have HV2 : Hid (r = false) := by show _ = _; rw [HV.out, decide_eq_false hb]; rfl
        clear hb HV
        go_wp2_with fail
        go_ret
        exact ⟨by rw [HV2.out]; rfl, HB0.out⟩
set_option maxRecDepth 100000 in
set_option maxHeartbeats 2000000 in
theorem rinst_6 {w : World} {b o : Nat} {O : Ob.O} {sa ua va pa na ca : Option Addr} {sc uc vc pc nc cc : Nat} (hV : OV w b o O sa ua va pa na ca sc uc vc pc nc cc) (hu : O.uses.length ≤ 1000000) (xo xa xb : Int) (ho6 : xo = 6):
    Calls Tryz.prog 28 #[.pointer (some ⟨b, o, none⟩), .agg #[.int .i64 xo, .int .i64 xa, .int .i64 xb]] w fun e w' => e = .returned (.bool (Ob.instB O ⟨xo, xa, xb⟩)) ∧ Below w.heap.size w w' := by
  have hbl := lt_of_cell hV.c0
  obtain ⟨w1, hw1⟩ : ∃ w1, w1 = w.alloc (.cells #[.int .i64 xo, .int .i64 xa, .int .i64 xb] 49) := ⟨_, rfl⟩
  have hb0 : Below w.heap.size w w1 := by rw [hw1]; exact (Below.refl _ _).alloc (Nat.le_refl _) _
  have hblk : w1.heap[w.heap.size]? = some (.cells #[.int .i64 xo, .int .i64 xa, .int .i64 xb] 49 (0, 0)) := by rw [hw1]; exact new_blk _ _
  have hsz : w.heap.size < w1.heap.size := lt_blk hblk
  have k0 : w1.cell? ⟨w.heap.size, 0, none⟩ = some (.int .i64 xo) := cell_blk hblk
  have k1 : w1.cell? ⟨w.heap.size, 1, none⟩ = some (.int .i64 xa) := cell_blk hblk
  have k2 : w1.cell? ⟨w.heap.size, 2, none⟩ = some (.int .i64 xb) := cell_blk hblk
  have hV1 := hV.below hb0
  have y2 := hV.c2
  have y3 := hV.c3
  have y4 := hV.c4
  have y6 := hV.c6
  have u2 := hV1.c2
  have u3 := hV1.c3
  have u4 := hV1.c4
  have u6 := hV1.c6
  have HB0 := Lib.hid hb0
  have HW1 := Lib.hid hw1
  have HU := Lib.hid hV1.u
  have hu' : (O.uses.length : Int) ≤ 1000000 := by omega
  clear hw1 hb0 hblk hV hV1
  have HCB : Hid (∀ (n : Int) (many : Nat), Calls Tryz.prog 65 #[.int .i64 n, .int .i64 (many : Int)] w1 fun e w' => e = .returned (.bool (Ob.countsB n many)) ∧ w' = w1) := fun n many => rbelow_any w1 n many
  obtain ⟨r, hr⟩ : ∃ r, Ob.instB O ⟨xo, xa, xb⟩ = r := ⟨_, rfl⟩
  rw [hr]
  · have HV : Hid (r = (Ob.countsB xa O.vars.length && decide (xb = 0))) := by
      show _ = _
      rw [← hr, ho6, Bool.and_comm]
      rfl
    have HC := Lib.hid (HCB.out xa O.vars.length)
    rw [ho6] at k0 HW1 ⊢
    clear hr HCB ho6
    generalize Ob.countsB xa O.vars.length = d at *
    go_enter Tryz.func28, Tryz.ntmps28
    go_wp2_with fail
    rw [← HW1.out]
    clear HW1
    refine HC.out.mono ?_
    rintro e wq ⟨rfl, hwq⟩
    rw [hwq]
    clear hwq
    cases d
    · go_wp2_with fail
      go_ret
      exact ⟨by rw [HV.out]; rfl, HB0.out⟩
    · by_cases hb : xb = 0
      · have hbe : (xb == 0) = true := by simp [hb]
        have HV2 : Hid (r = true) := by show _ = _; rw [HV.out, decide_eq_true hb]; rfl
        clear hb HV
        go_wp2_with fail
        go_ret
        exact ⟨by rw [HV2.out]; rfl, HB0.out⟩
      · have hbe : (xb == 0) = false := by simpa using hb
        have HV2 : Hid (r = false) := by show _ = _; rw [HV.out, decide_eq_false hb]; rfl
        clear hb HV
        go_wp2_with fail
        go_ret
        exact ⟨by rw [HV2.out]; rfl, HB0.out⟩
set_option maxRecDepth 100000 in
set_option maxHeartbeats 2000000 in
theorem rinst_8 {w : World} {b o : Nat} {O : Ob.O} {sa ua va pa na ca : Option Addr} {sc uc vc pc nc cc : Nat} (hV : OV w b o O sa ua va pa na ca sc uc vc pc nc cc) (hu : O.uses.length ≤ 1000000) (xo xa xb : Int) (ho8 : xo = 8):
    Calls Tryz.prog 28 #[.pointer (some ⟨b, o, none⟩), .agg #[.int .i64 xo, .int .i64 xa, .int .i64 xb]] w fun e w' => e = .returned (.bool (Ob.instB O ⟨xo, xa, xb⟩)) ∧ Below w.heap.size w w' := by
  have hbl := lt_of_cell hV.c0
  obtain ⟨w1, hw1⟩ : ∃ w1, w1 = w.alloc (.cells #[.int .i64 xo, .int .i64 xa, .int .i64 xb] 49) := ⟨_, rfl⟩
  have hb0 : Below w.heap.size w w1 := by rw [hw1]; exact (Below.refl _ _).alloc (Nat.le_refl _) _
  have hblk : w1.heap[w.heap.size]? = some (.cells #[.int .i64 xo, .int .i64 xa, .int .i64 xb] 49 (0, 0)) := by rw [hw1]; exact new_blk _ _
  have hsz : w.heap.size < w1.heap.size := lt_blk hblk
  have k0 : w1.cell? ⟨w.heap.size, 0, none⟩ = some (.int .i64 xo) := cell_blk hblk
  have k1 : w1.cell? ⟨w.heap.size, 1, none⟩ = some (.int .i64 xa) := cell_blk hblk
  have k2 : w1.cell? ⟨w.heap.size, 2, none⟩ = some (.int .i64 xb) := cell_blk hblk
  have hV1 := hV.below hb0
  have y2 := hV.c2
  have y3 := hV.c3
  have y4 := hV.c4
  have y6 := hV.c6
  have u2 := hV1.c2
  have u3 := hV1.c3
  have u4 := hV1.c4
  have u6 := hV1.c6
  have HB0 := Lib.hid hb0
  have HW1 := Lib.hid hw1
  have HU := Lib.hid hV1.u
  have hu' : (O.uses.length : Int) ≤ 1000000 := by omega
  clear hw1 hb0 hblk hV hV1
  have HCB : Hid (∀ (n : Int) (many : Nat), Calls Tryz.prog 65 #[.int .i64 n, .int .i64 (many : Int)] w1 fun e w' => e = .returned (.bool (Ob.countsB n many)) ∧ w' = w1) := fun n many => rbelow_any w1 n many
  obtain ⟨r, hr⟩ : ∃ r, Ob.instB O ⟨xo, xa, xb⟩ = r := ⟨_, rfl⟩
  rw [hr]
  · have HV : Hid (r = (Ob.countsB xa O.vars.length && decide (xb = 0))) := by
      show _ = _
      rw [← hr, ho8, Bool.and_comm]
      rfl
    have HC := Lib.hid (HCB.out xa O.vars.length)
    rw [ho8] at k0 HW1 ⊢
    clear hr HCB ho8
    generalize Ob.countsB xa O.vars.length = d at *
    go_enter Tryz.func28, Tryz.ntmps28
    go_wp2_with fail
    rw [← HW1.out]
    clear HW1
    refine HC.out.mono ?_
    rintro e wq ⟨rfl, hwq⟩
    rw [hwq]
    clear hwq
    cases d
    · go_wp2_with fail
      go_ret
      exact ⟨by rw [HV.out]; rfl, HB0.out⟩
    · by_cases hb : xb = 0
      · have hbe : (xb == 0) = true := by simp [hb]
        have HV2 : Hid (r = true) := by show _ = _; rw [HV.out, decide_eq_true hb]; rfl
        clear hb HV
        go_wp2_with fail
        go_ret
        exact ⟨by rw [HV2.out]; rfl, HB0.out⟩
      · have hbe : (xb == 0) = false := by simpa using hb
        have HV2 : Hid (r = false) := by show _ = _; rw [HV.out, decide_eq_false hb]; rfl
        clear hb HV
        go_wp2_with fail
        go_ret
        exact ⟨by rw [HV2.out]; rfl, HB0.out⟩
set_option maxRecDepth 100000 in
set_option maxHeartbeats 2000000 in
theorem rinst_9 {w : World} {b o : Nat} {O : Ob.O} {sa ua va pa na ca : Option Addr} {sc uc vc pc nc cc : Nat} (hV : OV w b o O sa ua va pa na ca sc uc vc pc nc cc) (hu : O.uses.length ≤ 1000000) (xo xa xb : Int) (ho9 : xo = 9):
    Calls Tryz.prog 28 #[.pointer (some ⟨b, o, none⟩), .agg #[.int .i64 xo, .int .i64 xa, .int .i64 xb]] w fun e w' => e = .returned (.bool (Ob.instB O ⟨xo, xa, xb⟩)) ∧ Below w.heap.size w w' := by
  have hbl := lt_of_cell hV.c0
  obtain ⟨w1, hw1⟩ : ∃ w1, w1 = w.alloc (.cells #[.int .i64 xo, .int .i64 xa, .int .i64 xb] 49) := ⟨_, rfl⟩
  have hb0 : Below w.heap.size w w1 := by rw [hw1]; exact (Below.refl _ _).alloc (Nat.le_refl _) _
  have hblk : w1.heap[w.heap.size]? = some (.cells #[.int .i64 xo, .int .i64 xa, .int .i64 xb] 49 (0, 0)) := by rw [hw1]; exact new_blk _ _
  have hsz : w.heap.size < w1.heap.size := lt_blk hblk
  have k0 : w1.cell? ⟨w.heap.size, 0, none⟩ = some (.int .i64 xo) := cell_blk hblk
  have k1 : w1.cell? ⟨w.heap.size, 1, none⟩ = some (.int .i64 xa) := cell_blk hblk
  have k2 : w1.cell? ⟨w.heap.size, 2, none⟩ = some (.int .i64 xb) := cell_blk hblk
  have hV1 := hV.below hb0
  have y2 := hV.c2
  have y3 := hV.c3
  have y4 := hV.c4
  have y6 := hV.c6
  have u2 := hV1.c2
  have u3 := hV1.c3
  have u4 := hV1.c4
  have u6 := hV1.c6
  have HB0 := Lib.hid hb0
  have HW1 := Lib.hid hw1
  have HU := Lib.hid hV1.u
  have hu' : (O.uses.length : Int) ≤ 1000000 := by omega
  clear hw1 hb0 hblk hV hV1
  have HCB : Hid (∀ (n : Int) (many : Nat), Calls Tryz.prog 65 #[.int .i64 n, .int .i64 (many : Int)] w1 fun e w' => e = .returned (.bool (Ob.countsB n many)) ∧ w' = w1) := fun n many => rbelow_any w1 n many
  obtain ⟨r, hr⟩ : ∃ r, Ob.instB O ⟨xo, xa, xb⟩ = r := ⟨_, rfl⟩
  rw [hr]
  · have HV : Hid (r = (Ob.countsB xa 11 && decide (xb = 0))) := by
      show _ = _
      rw [← hr, ho9, Bool.and_comm]
      rfl
    have HC := Lib.hid (HCB.out xa 11)
    rw [ho9] at k0 HW1 ⊢
    clear hr HCB ho9
    generalize Ob.countsB xa 11 = d at *
    go_enter Tryz.func28, Tryz.ntmps28
    go_wp2_with fail
    rw [← HW1.out]
    clear HW1
    refine HC.out.mono ?_
    rintro e wq ⟨rfl, hwq⟩
    rw [hwq]
    clear hwq
    cases d
    · go_wp2_with fail
      go_ret
      exact ⟨by rw [HV.out]; rfl, HB0.out⟩
    · by_cases hb : xb = 0
      · have hbe : (xb == 0) = true := by simp [hb]
        have HV2 : Hid (r = true) := by show _ = _; rw [HV.out, decide_eq_true hb]; rfl
        clear hb HV
        go_wp2_with fail
        go_ret
        exact ⟨by rw [HV2.out]; rfl, HB0.out⟩
      · have hbe : (xb == 0) = false := by simpa using hb
        have HV2 : Hid (r = false) := by show _ = _; rw [HV.out, decide_eq_false hb]; rfl
        clear hb HV
        go_wp2_with fail
        go_ret
        exact ⟨by rw [HV2.out]; rfl, HB0.out⟩
set_option maxRecDepth 100000 in
set_option maxHeartbeats 2000000 in
theorem rinst_12 {w : World} {b o : Nat} {O : Ob.O} {sa ua va pa na ca : Option Addr} {sc uc vc pc nc cc : Nat} (hV : OV w b o O sa ua va pa na ca sc uc vc pc nc cc) (hu : O.uses.length ≤ 1000000) (xo xa xb : Int) (ho12 : xo = 12):
    Calls Tryz.prog 28 #[.pointer (some ⟨b, o, none⟩), .agg #[.int .i64 xo, .int .i64 xa, .int .i64 xb]] w fun e w' => e = .returned (.bool (Ob.instB O ⟨xo, xa, xb⟩)) ∧ Below w.heap.size w w' := by
  have hbl := lt_of_cell hV.c0
  obtain ⟨w1, hw1⟩ : ∃ w1, w1 = w.alloc (.cells #[.int .i64 xo, .int .i64 xa, .int .i64 xb] 49) := ⟨_, rfl⟩
  have hb0 : Below w.heap.size w w1 := by rw [hw1]; exact (Below.refl _ _).alloc (Nat.le_refl _) _
  have hblk : w1.heap[w.heap.size]? = some (.cells #[.int .i64 xo, .int .i64 xa, .int .i64 xb] 49 (0, 0)) := by rw [hw1]; exact new_blk _ _
  have hsz : w.heap.size < w1.heap.size := lt_blk hblk
  have k0 : w1.cell? ⟨w.heap.size, 0, none⟩ = some (.int .i64 xo) := cell_blk hblk
  have k1 : w1.cell? ⟨w.heap.size, 1, none⟩ = some (.int .i64 xa) := cell_blk hblk
  have k2 : w1.cell? ⟨w.heap.size, 2, none⟩ = some (.int .i64 xb) := cell_blk hblk
  have hV1 := hV.below hb0
  have y2 := hV.c2
  have y3 := hV.c3
  have y4 := hV.c4
  have y6 := hV.c6
  have u2 := hV1.c2
  have u3 := hV1.c3
  have u4 := hV1.c4
  have u6 := hV1.c6
  have HB0 := Lib.hid hb0
  have HW1 := Lib.hid hw1
  have HU := Lib.hid hV1.u
  have hu' : (O.uses.length : Int) ≤ 1000000 := by omega
  clear hw1 hb0 hblk hV hV1
  have HCB : Hid (∀ (n : Int) (many : Nat), Calls Tryz.prog 65 #[.int .i64 n, .int .i64 (many : Int)] w1 fun e w' => e = .returned (.bool (Ob.countsB n many)) ∧ w' = w1) := fun n many => rbelow_any w1 n many
  obtain ⟨r, hr⟩ : ∃ r, Ob.instB O ⟨xo, xa, xb⟩ = r := ⟨_, rfl⟩
  rw [hr]
  · have HV : Hid (r = (Ob.countsB xa O.code.length && decide (xb = 0))) := by
      show _ = _
      rw [← hr, ho12, Bool.and_comm]
      rfl
    have HC := Lib.hid (HCB.out xa O.code.length)
    rw [ho12] at k0 HW1 ⊢
    clear hr HCB ho12
    generalize Ob.countsB xa O.code.length = d at *
    go_enter Tryz.func28, Tryz.ntmps28
    go_wp2_with fail
    rw [← HW1.out]
    clear HW1
    refine HC.out.mono ?_
    rintro e wq ⟨rfl, hwq⟩
    rw [hwq]
    clear hwq
    cases d
    · go_wp2_with fail
      go_ret
      exact ⟨by rw [HV.out]; rfl, HB0.out⟩
    · by_cases hb : xb = 0
      · have hbe : (xb == 0) = true := by simp [hb]
        have HV2 : Hid (r = true) := by show _ = _; rw [HV.out, decide_eq_true hb]; rfl
        clear hb HV
        go_wp2_with fail
        go_ret
        exact ⟨by rw [HV2.out]; rfl, HB0.out⟩
      · have hbe : (xb == 0) = false := by simpa using hb
        have HV2 : Hid (r = false) := by show _ = _; rw [HV.out, decide_eq_false hb]; rfl
        clear hb HV
        go_wp2_with fail
        go_ret
        exact ⟨by rw [HV2.out]; rfl, HB0.out⟩
set_option maxRecDepth 100000 in
set_option maxHeartbeats 2000000 in
theorem rinst_13 {w : World} {b o : Nat} {O : Ob.O} {sa ua va pa na ca : Option Addr} {sc uc vc pc nc cc : Nat} (hV : OV w b o O sa ua va pa na ca sc uc vc pc nc cc) (hu : O.uses.length ≤ 1000000) (xo xa xb : Int) (ho13 : xo = 13):
    Calls Tryz.prog 28 #[.pointer (some ⟨b, o, none⟩), .agg #[.int .i64 xo, .int .i64 xa, .int .i64 xb]] w fun e w' => e = .returned (.bool (Ob.instB O ⟨xo, xa, xb⟩)) ∧ Below w.heap.size w w' := by
  have hbl := lt_of_cell hV.c0
  obtain ⟨w1, hw1⟩ : ∃ w1, w1 = w.alloc (.cells #[.int .i64 xo, .int .i64 xa, .int .i64 xb] 49) := ⟨_, rfl⟩
  have hb0 : Below w.heap.size w w1 := by rw [hw1]; exact (Below.refl _ _).alloc (Nat.le_refl _) _
  have hblk : w1.heap[w.heap.size]? = some (.cells #[.int .i64 xo, .int .i64 xa, .int .i64 xb] 49 (0, 0)) := by rw [hw1]; exact new_blk _ _
  have hsz : w.heap.size < w1.heap.size := lt_blk hblk
  have k0 : w1.cell? ⟨w.heap.size, 0, none⟩ = some (.int .i64 xo) := cell_blk hblk
  have k1 : w1.cell? ⟨w.heap.size, 1, none⟩ = some (.int .i64 xa) := cell_blk hblk
  have k2 : w1.cell? ⟨w.heap.size, 2, none⟩ = some (.int .i64 xb) := cell_blk hblk
  have hV1 := hV.below hb0
  have y2 := hV.c2
  have y3 := hV.c3
  have y4 := hV.c4
  have y6 := hV.c6
  have u2 := hV1.c2
  have u3 := hV1.c3
  have u4 := hV1.c4
  have u6 := hV1.c6
  have HB0 := Lib.hid hb0
  have HW1 := Lib.hid hw1
  have HU := Lib.hid hV1.u
  have hu' : (O.uses.length : Int) ≤ 1000000 := by omega
  clear hw1 hb0 hblk hV hV1
  have HCB : Hid (∀ (n : Int) (many : Nat), Calls Tryz.prog 65 #[.int .i64 n, .int .i64 (many : Int)] w1 fun e w' => e = .returned (.bool (Ob.countsB n many)) ∧ w' = w1) := fun n many => rbelow_any w1 n many
  obtain ⟨r, hr⟩ : ∃ r, Ob.instB O ⟨xo, xa, xb⟩ = r := ⟨_, rfl⟩
  rw [hr]
  · have HV : Hid (r = (Ob.countsB xa O.code.length && decide (xb = 0))) := by
      show _ = _
      rw [← hr, ho13, Bool.and_comm]
      rfl
    have HC := Lib.hid (HCB.out xa O.code.length)
    rw [ho13] at k0 HW1 ⊢
    clear hr HCB ho13
    generalize Ob.countsB xa O.code.length = d at *
    go_enter Tryz.func28, Tryz.ntmps28
    go_wp2_with fail
    rw [← HW1.out]
    clear HW1
    refine HC.out.mono ?_
    rintro e wq ⟨rfl, hwq⟩
    rw [hwq]
    clear hwq
    cases d
    · go_wp2_with fail
      go_ret
      exact ⟨by rw [HV.out]; rfl, HB0.out⟩
    · by_cases hb : xb = 0
      · have hbe : (xb == 0) = true := by simp [hb]
        have HV2 : Hid (r = true) := by show _ = _; rw [HV.out, decide_eq_true hb]; rfl
        clear hb HV
        go_wp2_with fail
        go_ret
        exact ⟨by rw [HV2.out]; rfl, HB0.out⟩
      · have hbe : (xb == 0) = false := by simpa using hb
        have HV2 : Hid (r = false) := by show _ = _; rw [HV.out, decide_eq_false hb]; rfl
        clear hb HV
        go_wp2_with fail
        go_ret
        exact ⟨by rw [HV2.out]; rfl, HB0.out⟩
set_option maxRecDepth 100000 in
set_option maxHeartbeats 2000000 in
theorem rinst_5 {w : World} {b o : Nat} {O : Ob.O} {sa ua va pa na ca : Option Addr} {sc uc vc pc nc cc : Nat} (hV : OV w b o O sa ua va pa na ca sc uc vc pc nc cc) (hu : O.uses.length ≤ 1000000) (xo xa xb : Int) (ho5 : xo = 5):
    Calls Tryz.prog 28 #[.pointer (some ⟨b, o, none⟩), .agg #[.int .i64 xo, .int .i64 xa, .int .i64 xb]] w fun e w' => e = .returned (.bool (Ob.instB O ⟨xo, xa, xb⟩)) ∧ Below w.heap.size w w' := by
  have hbl := lt_of_cell hV.c0
  obtain ⟨w1, hw1⟩ : ∃ w1, w1 = w.alloc (.cells #[.int .i64 xo, .int .i64 xa, .int .i64 xb] 49) := ⟨_, rfl⟩
  have hb0 : Below w.heap.size w w1 := by rw [hw1]; exact (Below.refl _ _).alloc (Nat.le_refl _) _
  have hblk : w1.heap[w.heap.size]? = some (.cells #[.int .i64 xo, .int .i64 xa, .int .i64 xb] 49 (0, 0)) := by rw [hw1]; exact new_blk _ _
  have hsz : w.heap.size < w1.heap.size := lt_blk hblk
  have k0 : w1.cell? ⟨w.heap.size, 0, none⟩ = some (.int .i64 xo) := cell_blk hblk
  have k1 : w1.cell? ⟨w.heap.size, 1, none⟩ = some (.int .i64 xa) := cell_blk hblk
  have k2 : w1.cell? ⟨w.heap.size, 2, none⟩ = some (.int .i64 xb) := cell_blk hblk
  have hV1 := hV.below hb0
  have y2 := hV.c2
  have y3 := hV.c3
  have y4 := hV.c4
  have y6 := hV.c6
  have u2 := hV1.c2
  have u3 := hV1.c3
  have u4 := hV1.c4
  have u6 := hV1.c6
  have HB0 := Lib.hid hb0
  have HW1 := Lib.hid hw1
  have HU := Lib.hid hV1.u
  have hu' : (O.uses.length : Int) ≤ 1000000 := by omega
  clear hw1 hb0 hblk hV hV1
  have HCB : Hid (∀ (n : Int) (many : Nat), Calls Tryz.prog 65 #[.int .i64 n, .int .i64 (many : Int)] w1 fun e w' => e = .returned (.bool (Ob.countsB n many)) ∧ w' = w1) := fun n many => rbelow_any w1 n many
  obtain ⟨r, hr⟩ : ∃ r, Ob.instB O ⟨xo, xa, xb⟩ = r := ⟨_, rfl⟩
  rw [hr]
  · have HV0 : Hid (r = Ob.reachB O ⟨5, xa, xb⟩ O.vars.length) := by
      show _ = _
      rw [← hr, ho5]
      rfl
    rw [ho5] at k0 HW1 ⊢
    clear hr ho5
    by_cases hb : xb = -1
    · have hbe : (xb == -1) = true := by simp [hb]
      have HV : Hid (r = Ob.countsB xa O.vars.length) := by show _ = _; rw [HV0.out]; unfold Ob.reachB; rw [if_pos hb]
      have HC := Lib.hid (HCB.out xa O.vars.length)
      clear HV0 hb HCB
      generalize Ob.countsB xa O.vars.length = d at *
      go_enter Tryz.func28, Tryz.ntmps28
      go_wp2_with fail
      rw [← HW1.out]
      clear HW1
      refine HC.out.mono ?_
      rintro e wq ⟨rfl, hwq⟩
      rw [hwq]
      clear hwq
      go_wp2_with fail
      go_ret
      exact ⟨by rw [HV.out]; rfl, HB0.out⟩
    · have hbe : (xb == -1) = false := by simpa using hb
      by_cases hcb : Ob.countsB xb O.uses.length = true
      · have hrr : 0 ≤ xb ∧ xb < (O.uses.length : Int) := by
          simp only [Ob.countsB, Bool.and_eq_true, decide_eq_true_eq] at hcb; exact hcb
        obtain ⟨i, hi⟩ : ∃ i : Nat, xb = (i : Int) := ⟨xb.toNat, by omega⟩
        have hil : i < O.uses.length := by omega
        have HV : Hid (r = Ob.countsB xa O.uses[i].names.length) := by
          show _ = _
          rw [HV0.out]
          unfold Ob.reachB
          rw [if_neg hb, hcb, Bool.true_and, hi, Int.toNat_natCast, List.getElem?_eq_getElem hil]
          rfl
        have e1 := hcb
        obtain ⟨ucs, hU1, hU2⟩ := HU.out
        obtain ⟨na', nc', q0, q1, q2, q3⟩ := RepN.get _ _ hU1 i hil
        obtain ⟨a0, c0', hsl0, _, hall⟩ := hU2
        cases hsl0
        obtain ⟨g, go, rfl, hg2⟩ := hall _ _ q2
        have e2 : w1.cell? ⟨g, go + i * 3 + 2, none⟩ = some (.slice na' O.uses[i].names.length nc') := hg2
        have hgl := lt_of_cell hg2
        have hil' : (i : Int) < (O.uses.length : Int) := by omega
        have hi0 : (0 : Int) ≤ (i : Int) := by omega
        obtain ⟨d, hd⟩ : ∃ d, Ob.countsB xa O.uses[i].names.length = d := ⟨_, rfl⟩
        rw [hd] at HV
        generalize O.uses[i].names.length = nn at *
        clear hb hcb hrr hall q0 q1 q2 q3 hg2 hU1 HU HCB HV0
        rw [hi] at e1 k2 hbe HW1 ⊢
        clear hi
        cases d
        all_goals
          go_enter Tryz.func28, Tryz.ntmps28
          go_wp2_with fail
          rw [← HW1.out]
          clear HW1
          go_quiet ((go_at_call 65; exact Calls.quiet_of_same (rbelow_any _ _ _)))
          go_wp2_with fail
          go_ret
          exact ⟨by rw [HV.out]; rfl, HB0.out.trans ((below_drewN _ _).mono HB0.out.size)⟩
      · have hcf : Ob.countsB xb O.uses.length = false := by simpa using hcb
        have HV : Hid (r = false) := by
          show _ = _
          rw [HV0.out]
          unfold Ob.reachB
          rw [if_neg hb, hcf]
          rfl
        have HC1 : Hid (∀ W, Calls Tryz.prog 65 #[.int .i64 xb, .int .i64 (O.uses.length : Int)] W fun e w' => e = .returned (.bool false) ∧ w' = W) := fun W => by have := rbelow_any W xb O.uses.length; rwa [hcf] at this
        clear HV0 hb hcb hcf HCB HU
        go_enter Tryz.func28, Tryz.ntmps28
        go_wp2_with fail
        rw [← HW1.out]
        clear HW1
        go_quiet ((go_at_call 65; exact Calls.quiet_of_same (HC1.out _)))
        go_wp2_with fail
        go_ret
        exact ⟨by rw [HV.out]; rfl, HB0.out.trans ((below_drewN _ _).mono HB0.out.size)⟩
set_option maxRecDepth 100000 in
set_option maxHeartbeats 2000000 in
theorem rinst_7 {w : World} {b o : Nat} {O : Ob.O} {sa ua va pa na ca : Option Addr} {sc uc vc pc nc cc : Nat} (hV : OV w b o O sa ua va pa na ca sc uc vc pc nc cc) (hu : O.uses.length ≤ 1000000) (xo xa xb : Int) (ho7 : xo = 7):
    Calls Tryz.prog 28 #[.pointer (some ⟨b, o, none⟩), .agg #[.int .i64 xo, .int .i64 xa, .int .i64 xb]] w fun e w' => e = .returned (.bool (Ob.instB O ⟨xo, xa, xb⟩)) ∧ Below w.heap.size w w' := by
  have hbl := lt_of_cell hV.c0
  obtain ⟨w1, hw1⟩ : ∃ w1, w1 = w.alloc (.cells #[.int .i64 xo, .int .i64 xa, .int .i64 xb] 49) := ⟨_, rfl⟩
  have hb0 : Below w.heap.size w w1 := by rw [hw1]; exact (Below.refl _ _).alloc (Nat.le_refl _) _
  have hblk : w1.heap[w.heap.size]? = some (.cells #[.int .i64 xo, .int .i64 xa, .int .i64 xb] 49 (0, 0)) := by rw [hw1]; exact new_blk _ _
  have hsz : w.heap.size < w1.heap.size := lt_blk hblk
  have k0 : w1.cell? ⟨w.heap.size, 0, none⟩ = some (.int .i64 xo) := cell_blk hblk
  have k1 : w1.cell? ⟨w.heap.size, 1, none⟩ = some (.int .i64 xa) := cell_blk hblk
  have k2 : w1.cell? ⟨w.heap.size, 2, none⟩ = some (.int .i64 xb) := cell_blk hblk
  have hV1 := hV.below hb0
  have y2 := hV.c2
  have y3 := hV.c3
  have y4 := hV.c4
  have y6 := hV.c6
  have u2 := hV1.c2
  have u3 := hV1.c3
  have u4 := hV1.c4
  have u6 := hV1.c6
  have HB0 := Lib.hid hb0
  have HW1 := Lib.hid hw1
  have HU := Lib.hid hV1.u
  have hu' : (O.uses.length : Int) ≤ 1000000 := by omega
  clear hw1 hb0 hblk hV hV1
  have HCB : Hid (∀ (n : Int) (many : Nat), Calls Tryz.prog 65 #[.int .i64 n, .int .i64 (many : Int)] w1 fun e w' => e = .returned (.bool (Ob.countsB n many)) ∧ w' = w1) := fun n many => rbelow_any w1 n many
  obtain ⟨r, hr⟩ : ∃ r, Ob.instB O ⟨xo, xa, xb⟩ = r := ⟨_, rfl⟩
  rw [hr]
  · have HV0 : Hid (r = Ob.reachB O ⟨7, xa, xb⟩ O.vars.length) := by
      show _ = _
      rw [← hr, ho7]
      rfl
    rw [ho7] at k0 HW1 ⊢
    clear hr ho7
    by_cases hb : xb = -1
    · have hbe : (xb == -1) = true := by simp [hb]
      have HV : Hid (r = Ob.countsB xa O.vars.length) := by show _ = _; rw [HV0.out]; unfold Ob.reachB; rw [if_pos hb]
      have HC := Lib.hid (HCB.out xa O.vars.length)
      clear HV0 hb HCB
      generalize Ob.countsB xa O.vars.length = d at *
      go_enter Tryz.func28, Tryz.ntmps28
      go_wp2_with fail
      rw [← HW1.out]
      clear HW1
      refine HC.out.mono ?_
      rintro e wq ⟨rfl, hwq⟩
      rw [hwq]
      clear hwq
      go_wp2_with fail
      go_ret
      exact ⟨by rw [HV.out]; rfl, HB0.out⟩
    · have hbe : (xb == -1) = false := by simpa using hb
      by_cases hcb : Ob.countsB xb O.uses.length = true
      · have hrr : 0 ≤ xb ∧ xb < (O.uses.length : Int) := by
          simp only [Ob.countsB, Bool.and_eq_true, decide_eq_true_eq] at hcb; exact hcb
        obtain ⟨i, hi⟩ : ∃ i : Nat, xb = (i : Int) := ⟨xb.toNat, by omega⟩
        have hil : i < O.uses.length := by omega
        have HV : Hid (r = Ob.countsB xa O.uses[i].names.length) := by
          show _ = _
          rw [HV0.out]
          unfold Ob.reachB
          rw [if_neg hb, hcb, Bool.true_and, hi, Int.toNat_natCast, List.getElem?_eq_getElem hil]
          rfl
        have e1 := hcb
        obtain ⟨ucs, hU1, hU2⟩ := HU.out
        obtain ⟨na', nc', q0, q1, q2, q3⟩ := RepN.get _ _ hU1 i hil
        obtain ⟨a0, c0', hsl0, _, hall⟩ := hU2
        cases hsl0
        obtain ⟨g, go, rfl, hg2⟩ := hall _ _ q2
        have e2 : w1.cell? ⟨g, go + i * 3 + 2, none⟩ = some (.slice na' O.uses[i].names.length nc') := hg2
        have hgl := lt_of_cell hg2
        have hil' : (i : Int) < (O.uses.length : Int) := by omega
        have hi0 : (0 : Int) ≤ (i : Int) := by omega
        obtain ⟨d, hd⟩ : ∃ d, Ob.countsB xa O.uses[i].names.length = d := ⟨_, rfl⟩
        rw [hd] at HV
        generalize O.uses[i].names.length = nn at *
        clear hb hcb hrr hall q0 q1 q2 q3 hg2 hU1 HU HCB HV0
        rw [hi] at e1 k2 hbe HW1 ⊢
        clear hi
        cases d
        all_goals
          go_enter Tryz.func28, Tryz.ntmps28
          go_wp2_with fail
          rw [← HW1.out]
          clear HW1
          go_quiet ((go_at_call 65; exact Calls.quiet_of_same (rbelow_any _ _ _)))
          go_wp2_with fail
          go_ret
          exact ⟨by rw [HV.out]; rfl, HB0.out.trans ((below_drewN _ _).mono HB0.out.size)⟩
      · have hcf : Ob.countsB xb O.uses.length = false := by simpa using hcb
        have HV : Hid (r = false) := by
          show _ = _
          rw [HV0.out]
          unfold Ob.reachB
          rw [if_neg hb, hcf]
          rfl
        have HC1 : Hid (∀ W, Calls Tryz.prog 65 #[.int .i64 xb, .int .i64 (O.uses.length : Int)] W fun e w' => e = .returned (.bool false) ∧ w' = W) := fun W => by have := rbelow_any W xb O.uses.length; rwa [hcf] at this
        clear HV0 hb hcb hcf HCB HU
        go_enter Tryz.func28, Tryz.ntmps28
        go_wp2_with fail
        rw [← HW1.out]
        clear HW1
        go_quiet ((go_at_call 65; exact Calls.quiet_of_same (HC1.out _)))
        go_wp2_with fail
        go_ret
        exact ⟨by rw [HV.out]; rfl, HB0.out.trans ((below_drewN _ _).mono HB0.out.size)⟩
set_option maxRecDepth 100000 in
set_option maxHeartbeats 2000000 in
theorem rinst_14 {w : World} {b o : Nat} {O : Ob.O} {sa ua va pa na ca : Option Addr} {sc uc vc pc nc cc : Nat} (hV : OV w b o O sa ua va pa na ca sc uc vc pc nc cc) (hu : O.uses.length ≤ 1000000) (xo xa xb : Int) (ho14 : xo = 14):
    Calls Tryz.prog 28 #[.pointer (some ⟨b, o, none⟩), .agg #[.int .i64 xo, .int .i64 xa, .int .i64 xb]] w fun e w' => e = .returned (.bool (Ob.instB O ⟨xo, xa, xb⟩)) ∧ Below w.heap.size w w' := by
  have hbl := lt_of_cell hV.c0
  obtain ⟨w1, hw1⟩ : ∃ w1, w1 = w.alloc (.cells #[.int .i64 xo, .int .i64 xa, .int .i64 xb] 49) := ⟨_, rfl⟩
  have hb0 : Below w.heap.size w w1 := by rw [hw1]; exact (Below.refl _ _).alloc (Nat.le_refl _) _
  have hblk : w1.heap[w.heap.size]? = some (.cells #[.int .i64 xo, .int .i64 xa, .int .i64 xb] 49 (0, 0)) := by rw [hw1]; exact new_blk _ _
  have hsz : w.heap.size < w1.heap.size := lt_blk hblk
  have k0 : w1.cell? ⟨w.heap.size, 0, none⟩ = some (.int .i64 xo) := cell_blk hblk
  have k1 : w1.cell? ⟨w.heap.size, 1, none⟩ = some (.int .i64 xa) := cell_blk hblk
  have k2 : w1.cell? ⟨w.heap.size, 2, none⟩ = some (.int .i64 xb) := cell_blk hblk
  have hV1 := hV.below hb0
  have y2 := hV.c2
  have y3 := hV.c3
  have y4 := hV.c4
  have y6 := hV.c6
  have u2 := hV1.c2
  have u3 := hV1.c3
  have u4 := hV1.c4
  have u6 := hV1.c6
  have HB0 := Lib.hid hb0
  have HW1 := Lib.hid hw1
  have HU := Lib.hid hV1.u
  have hu' : (O.uses.length : Int) ≤ 1000000 := by omega
  clear hw1 hb0 hblk hV hV1
  have HCB : Hid (∀ (n : Int) (many : Nat), Calls Tryz.prog 65 #[.int .i64 n, .int .i64 (many : Int)] w1 fun e w' => e = .returned (.bool (Ob.countsB n many)) ∧ w' = w1) := fun n many => rbelow_any w1 n many
  obtain ⟨r, hr⟩ : ∃ r, Ob.instB O ⟨xo, xa, xb⟩ = r := ⟨_, rfl⟩
  rw [hr]
  · have HV0 : Hid (r = Ob.reachB O ⟨14, xa, xb⟩ O.procs.length) := by
      show _ = _
      rw [← hr, ho14]
      rfl
    rw [ho14] at k0 HW1 ⊢
    clear hr ho14
    by_cases hb : xb = -1
    · have hbe : (xb == -1) = true := by simp [hb]
      have HV : Hid (r = Ob.countsB xa O.procs.length) := by show _ = _; rw [HV0.out]; unfold Ob.reachB; rw [if_pos hb]
      have HC := Lib.hid (HCB.out xa O.procs.length)
      clear HV0 hb HCB
      generalize Ob.countsB xa O.procs.length = d at *
      go_enter Tryz.func28, Tryz.ntmps28
      go_wp2_with fail
      rw [← HW1.out]
      clear HW1
      refine HC.out.mono ?_
      rintro e wq ⟨rfl, hwq⟩
      rw [hwq]
      clear hwq
      go_wp2_with fail
      go_ret
      exact ⟨by rw [HV.out]; rfl, HB0.out⟩
    · have hbe : (xb == -1) = false := by simpa using hb
      by_cases hcb : Ob.countsB xb O.uses.length = true
      · have hrr : 0 ≤ xb ∧ xb < (O.uses.length : Int) := by
          simp only [Ob.countsB, Bool.and_eq_true, decide_eq_true_eq] at hcb; exact hcb
        obtain ⟨i, hi⟩ : ∃ i : Nat, xb = (i : Int) := ⟨xb.toNat, by omega⟩
        have hil : i < O.uses.length := by omega
        have HV : Hid (r = Ob.countsB xa O.uses[i].names.length) := by
          show _ = _
          rw [HV0.out]
          unfold Ob.reachB
          rw [if_neg hb, hcb, Bool.true_and, hi, Int.toNat_natCast, List.getElem?_eq_getElem hil]
          rfl
        have e1 := hcb
        obtain ⟨ucs, hU1, hU2⟩ := HU.out
        obtain ⟨na', nc', q0, q1, q2, q3⟩ := RepN.get _ _ hU1 i hil
        obtain ⟨a0, c0', hsl0, _, hall⟩ := hU2
        cases hsl0
        obtain ⟨g, go, rfl, hg2⟩ := hall _ _ q2
        have e2 : w1.cell? ⟨g, go + i * 3 + 2, none⟩ = some (.slice na' O.uses[i].names.length nc') := hg2
        have hgl := lt_of_cell hg2
        have hil' : (i : Int) < (O.uses.length : Int) := by omega
        have hi0 : (0 : Int) ≤ (i : Int) := by omega
        obtain ⟨d, hd⟩ : ∃ d, Ob.countsB xa O.uses[i].names.length = d := ⟨_, rfl⟩
        rw [hd] at HV
        generalize O.uses[i].names.length = nn at *
        clear hb hcb hrr hall q0 q1 q2 q3 hg2 hU1 HU HCB HV0
        rw [hi] at e1 k2 hbe HW1 ⊢
        clear hi
        cases d
        all_goals
          go_enter Tryz.func28, Tryz.ntmps28
          go_wp2_with fail
          rw [← HW1.out]
          clear HW1
          go_quiet ((go_at_call 65; exact Calls.quiet_of_same (rbelow_any _ _ _)))
          go_wp2_with fail
          go_ret
          exact ⟨by rw [HV.out]; rfl, HB0.out.trans ((below_drewN _ _).mono HB0.out.size)⟩
      · have hcf : Ob.countsB xb O.uses.length = false := by simpa using hcb
        have HV : Hid (r = false) := by
          show _ = _
          rw [HV0.out]
          unfold Ob.reachB
          rw [if_neg hb, hcf]
          rfl
        have HC1 : Hid (∀ W, Calls Tryz.prog 65 #[.int .i64 xb, .int .i64 (O.uses.length : Int)] W fun e w' => e = .returned (.bool false) ∧ w' = W) := fun W => by have := rbelow_any W xb O.uses.length; rwa [hcf] at this
        clear HV0 hb hcb hcf HCB HU
        go_enter Tryz.func28, Tryz.ntmps28
        go_wp2_with fail
        rw [← HW1.out]
        clear HW1
        go_quiet ((go_at_call 65; exact Calls.quiet_of_same (HC1.out _)))
        go_wp2_with fail
        go_ret
        exact ⟨by rw [HV.out]; rfl, HB0.out.trans ((below_drewN _ _).mono HB0.out.size)⟩
set_option maxRecDepth 100000 in
set_option maxHeartbeats 2000000 in
theorem rinst_2 {w : World} {b o : Nat} {O : Ob.O} {sa ua va pa na ca : Option Addr} {sc uc vc pc nc cc : Nat} (hV : OV w b o O sa ua va pa na ca sc uc vc pc nc cc) (hu : O.uses.length ≤ 1000000) (xo xa xb : Int) (ho2 : xo = 2):
    Calls Tryz.prog 28 #[.pointer (some ⟨b, o, none⟩), .agg #[.int .i64 xo, .int .i64 xa, .int .i64 xb]] w fun e w' => e = .returned (.bool (Ob.instB O ⟨xo, xa, xb⟩)) ∧ Below w.heap.size w w' := by
  have hbl := lt_of_cell hV.c0
  obtain ⟨w1, hw1⟩ : ∃ w1, w1 = w.alloc (.cells #[.int .i64 xo, .int .i64 xa, .int .i64 xb] 49) := ⟨_, rfl⟩
  have hb0 : Below w.heap.size w w1 := by rw [hw1]; exact (Below.refl _ _).alloc (Nat.le_refl _) _
  have hblk : w1.heap[w.heap.size]? = some (.cells #[.int .i64 xo, .int .i64 xa, .int .i64 xb] 49 (0, 0)) := by rw [hw1]; exact new_blk _ _
  have hsz : w.heap.size < w1.heap.size := lt_blk hblk
  have k0 : w1.cell? ⟨w.heap.size, 0, none⟩ = some (.int .i64 xo) := cell_blk hblk
  have k1 : w1.cell? ⟨w.heap.size, 1, none⟩ = some (.int .i64 xa) := cell_blk hblk
  have k2 : w1.cell? ⟨w.heap.size, 2, none⟩ = some (.int .i64 xb) := cell_blk hblk
  have hV1 := hV.below hb0
  have y2 := hV.c2
  have y3 := hV.c3
  have y4 := hV.c4
  have y6 := hV.c6
  have u2 := hV1.c2
  have u3 := hV1.c3
  have u4 := hV1.c4
  have u6 := hV1.c6
  have HB0 := Lib.hid hb0
  have HW1 := Lib.hid hw1
  have HU := Lib.hid hV1.u
  have hu' : (O.uses.length : Int) ≤ 1000000 := by omega
  clear hw1 hb0 hblk hV hV1
  have HCB : Hid (∀ (n : Int) (many : Nat), Calls Tryz.prog 65 #[.int .i64 n, .int .i64 (many : Int)] w1 fun e w' => e = .returned (.bool (Ob.countsB n many)) ∧ w' = w1) := fun n many => rbelow_any w1 n many
  obtain ⟨r, hr⟩ : ∃ r, Ob.instB O ⟨xo, xa, xb⟩ = r := ⟨_, rfl⟩
  rw [hr]
  · have HV : Hid (r = (Ob.countsB xa 1 && decide (xb = 0))) := by
      show _ = _
      rw [← hr, ho2, Bool.and_comm]
      rfl
    have HC := Lib.hid (HCB.out xa 1)
    rw [ho2] at k0 HW1 ⊢
    clear hr HCB ho2
    generalize Ob.countsB xa 1 = d at *
    go_enter Tryz.func28, Tryz.ntmps28
    go_wp2_with fail
    rw [← HW1.out]
    clear HW1
    refine HC.out.mono ?_
    rintro e wq ⟨rfl, hwq⟩
    rw [hwq]
    clear hwq
    cases d
    · go_wp2_with fail
      go_ret
      exact ⟨by rw [HV.out]; rfl, HB0.out⟩
    · by_cases hb : xb = 0
      · have hbe : (xb == 0) = true := by simp [hb]
        have HV2 : Hid (r = true) := by show _ = _; rw [HV.out, decide_eq_true hb]; rfl
        clear hb HV
        go_wp2_with fail
        go_ret
        exact ⟨by rw [HV2.out]; rfl, HB0.out⟩
      · have hbe : (xb == 0) = false := by simpa using hb
        have HV2 : Hid (r = false) := by show _ = _; rw [HV.out, decide_eq_false hb]; rfl
        clear hb HV
        go_wp2_with fail
        go_ret
        exact ⟨by rw [HV2.out]; rfl, HB0.out⟩
set_option maxRecDepth 100000 in
set_option maxHeartbeats 2000000 in
theorem rinst_10 {w : World} {b o : Nat} {O : Ob.O} {sa ua va pa na ca : Option Addr} {sc uc vc pc nc cc : Nat} (hV : OV w b o O sa ua va pa na ca sc uc vc pc nc cc) (hu : O.uses.length ≤ 1000000) (xo xa xb : Int) (ho10 : xo = 10):
    Calls Tryz.prog 28 #[.pointer (some ⟨b, o, none⟩), .agg #[.int .i64 xo, .int .i64 xa, .int .i64 xb]] w fun e w' => e = .returned (.bool (Ob.instB O ⟨xo, xa, xb⟩)) ∧ Below w.heap.size w w' := by
  have hbl := lt_of_cell hV.c0
  obtain ⟨w1, hw1⟩ : ∃ w1, w1 = w.alloc (.cells #[.int .i64 xo, .int .i64 xa, .int .i64 xb] 49) := ⟨_, rfl⟩
  have hb0 : Below w.heap.size w w1 := by rw [hw1]; exact (Below.refl _ _).alloc (Nat.le_refl _) _
  have hblk : w1.heap[w.heap.size]? = some (.cells #[.int .i64 xo, .int .i64 xa, .int .i64 xb] 49 (0, 0)) := by rw [hw1]; exact new_blk _ _
  have hsz : w.heap.size < w1.heap.size := lt_blk hblk
  have k0 : w1.cell? ⟨w.heap.size, 0, none⟩ = some (.int .i64 xo) := cell_blk hblk
  have k1 : w1.cell? ⟨w.heap.size, 1, none⟩ = some (.int .i64 xa) := cell_blk hblk
  have k2 : w1.cell? ⟨w.heap.size, 2, none⟩ = some (.int .i64 xb) := cell_blk hblk
  have hV1 := hV.below hb0
  have y2 := hV.c2
  have y3 := hV.c3
  have y4 := hV.c4
  have y6 := hV.c6
  have u2 := hV1.c2
  have u3 := hV1.c3
  have u4 := hV1.c4
  have u6 := hV1.c6
  have HB0 := Lib.hid hb0
  have HW1 := Lib.hid hw1
  have HU := Lib.hid hV1.u
  have hu' : (O.uses.length : Int) ≤ 1000000 := by omega
  clear hw1 hb0 hblk hV hV1
  have HCB : Hid (∀ (n : Int) (many : Nat), Calls Tryz.prog 65 #[.int .i64 n, .int .i64 (many : Int)] w1 fun e w' => e = .returned (.bool (Ob.countsB n many)) ∧ w' = w1) := fun n many => rbelow_any w1 n many
  obtain ⟨r, hr⟩ : ∃ r, Ob.instB O ⟨xo, xa, xb⟩ = r := ⟨_, rfl⟩
  rw [hr]
  · have HV : Hid (r = (Ob.countsB xa 1 && decide (xb = 0))) := by
      show _ = _
      rw [← hr, ho10, Bool.and_comm]
      rfl
    have HC := Lib.hid (HCB.out xa 1)
    rw [ho10] at k0 HW1 ⊢
    clear hr HCB ho10
    generalize Ob.countsB xa 1 = d at *
    go_enter Tryz.func28, Tryz.ntmps28
    go_wp2_with fail
    rw [← HW1.out]
    clear HW1
    refine HC.out.mono ?_
    rintro e wq ⟨rfl, hwq⟩
    rw [hwq]
    clear hwq
    cases d
    · go_wp2_with fail
      go_ret
      exact ⟨by rw [HV.out]; rfl, HB0.out⟩
    · by_cases hb : xb = 0
      · have hbe : (xb == 0) = true := by simp [hb]
        have HV2 : Hid (r = true) := by show _ = _; rw [HV.out, decide_eq_true hb]; rfl
        clear hb HV
        go_wp2_with fail
        go_ret
        exact ⟨by rw [HV2.out]; rfl, HB0.out⟩
      · have hbe : (xb == 0) = false := by simpa using hb
        have HV2 : Hid (r = false) := by show _ = _; rw [HV.out, decide_eq_false hb]; rfl
        clear hb HV
        go_wp2_with fail
        go_ret
        exact ⟨by rw [HV2.out]; rfl, HB0.out⟩
set_option maxRecDepth 100000 in
set_option maxHeartbeats 2000000 in
theorem rinst_11 {w : World} {b o : Nat} {O : Ob.O} {sa ua va pa na ca : Option Addr} {sc uc vc pc nc cc : Nat} (hV : OV w b o O sa ua va pa na ca sc uc vc pc nc cc) (hu : O.uses.length ≤ 1000000) (xo xa xb : Int) (ho11 : xo = 11):
    Calls Tryz.prog 28 #[.pointer (some ⟨b, o, none⟩), .agg #[.int .i64 xo, .int .i64 xa, .int .i64 xb]] w fun e w' => e = .returned (.bool (Ob.instB O ⟨xo, xa, xb⟩)) ∧ Below w.heap.size w w' := by
  have hbl := lt_of_cell hV.c0
  obtain ⟨w1, hw1⟩ : ∃ w1, w1 = w.alloc (.cells #[.int .i64 xo, .int .i64 xa, .int .i64 xb] 49) := ⟨_, rfl⟩
  have hb0 : Below w.heap.size w w1 := by rw [hw1]; exact (Below.refl _ _).alloc (Nat.le_refl _) _
  have hblk : w1.heap[w.heap.size]? = some (.cells #[.int .i64 xo, .int .i64 xa, .int .i64 xb] 49 (0, 0)) := by rw [hw1]; exact new_blk _ _
  have hsz : w.heap.size < w1.heap.size := lt_blk hblk
  have k0 : w1.cell? ⟨w.heap.size, 0, none⟩ = some (.int .i64 xo) := cell_blk hblk
  have k1 : w1.cell? ⟨w.heap.size, 1, none⟩ = some (.int .i64 xa) := cell_blk hblk
  have k2 : w1.cell? ⟨w.heap.size, 2, none⟩ = some (.int .i64 xb) := cell_blk hblk
  have hV1 := hV.below hb0
  have y2 := hV.c2
  have y3 := hV.c3
  have y4 := hV.c4
  have y6 := hV.c6
  have u2 := hV1.c2
  have u3 := hV1.c3
  have u4 := hV1.c4
  have u6 := hV1.c6
  have HB0 := Lib.hid hb0
  have HW1 := Lib.hid hw1
  have HU := Lib.hid hV1.u
  have hu' : (O.uses.length : Int) ≤ 1000000 := by omega
  clear hw1 hb0 hblk hV hV1
  have HCB : Hid (∀ (n : Int) (many : Nat), Calls Tryz.prog 65 #[.int .i64 n, .int .i64 (many : Int)] w1 fun e w' => e = .returned (.bool (Ob.countsB n many)) ∧ w' = w1) := fun n many => rbelow_any w1 n many
  obtain ⟨r, hr⟩ : ∃ r, Ob.instB O ⟨xo, xa, xb⟩ = r := ⟨_, rfl⟩
  rw [hr]
  · have HV : Hid (r = (Ob.countsB xa 1 && decide (xb = 0))) := by
      show _ = _
      rw [← hr, ho11, Bool.and_comm]
      rfl
    have HC := Lib.hid (HCB.out xa 1)
    rw [ho11] at k0 HW1 ⊢
    clear hr HCB ho11
    generalize Ob.countsB xa 1 = d at *
    go_enter Tryz.func28, Tryz.ntmps28
    go_wp2_with fail
    rw [← HW1.out]
    clear HW1
    refine HC.out.mono ?_
    rintro e wq ⟨rfl, hwq⟩
    rw [hwq]
    clear hwq
    cases d
    · go_wp2_with fail
      go_ret
      exact ⟨by rw [HV.out]; rfl, HB0.out⟩
    · by_cases hb : xb = 0
      · have hbe : (xb == 0) = true := by simp [hb]
        have HV2 : Hid (r = true) := by show _ = _; rw [HV.out, decide_eq_true hb]; rfl
        clear hb HV
        go_wp2_with fail
        go_ret
        exact ⟨by rw [HV2.out]; rfl, HB0.out⟩
      · have hbe : (xb == 0) = false := by simpa using hb
        have HV2 : Hid (r = false) := by show _ = _; rw [HV.out, decide_eq_false hb]; rfl
        clear hb HV
        go_wp2_with fail
        go_ret
        exact ⟨by rw [HV2.out]; rfl, HB0.out⟩
set_option maxRecDepth 100000 in
set_option maxHeartbeats 2000000 in
theorem rinst_15 {w : World} {b o : Nat} {O : Ob.O} {sa ua va pa na ca : Option Addr} {sc uc vc pc nc cc : Nat} (hV : OV w b o O sa ua va pa na ca sc uc vc pc nc cc) (hu : O.uses.length ≤ 1000000) (xo xa xb : Int) (ho15 : xo = 15):
    Calls Tryz.prog 28 #[.pointer (some ⟨b, o, none⟩), .agg #[.int .i64 xo, .int .i64 xa, .int .i64 xb]] w fun e w' => e = .returned (.bool (Ob.instB O ⟨xo, xa, xb⟩)) ∧ Below w.heap.size w w' := by
  have hbl := lt_of_cell hV.c0
  obtain ⟨w1, hw1⟩ : ∃ w1, w1 = w.alloc (.cells #[.int .i64 xo, .int .i64 xa, .int .i64 xb] 49) := ⟨_, rfl⟩
  have hb0 : Below w.heap.size w w1 := by rw [hw1]; exact (Below.refl _ _).alloc (Nat.le_refl _) _
  have hblk : w1.heap[w.heap.size]? = some (.cells #[.int .i64 xo, .int .i64 xa, .int .i64 xb] 49 (0, 0)) := by rw [hw1]; exact new_blk _ _
  have hsz : w.heap.size < w1.heap.size := lt_blk hblk
  have k0 : w1.cell? ⟨w.heap.size, 0, none⟩ = some (.int .i64 xo) := cell_blk hblk
  have k1 : w1.cell? ⟨w.heap.size, 1, none⟩ = some (.int .i64 xa) := cell_blk hblk
  have k2 : w1.cell? ⟨w.heap.size, 2, none⟩ = some (.int .i64 xb) := cell_blk hblk
  have hV1 := hV.below hb0
  have y2 := hV.c2
  have y3 := hV.c3
  have y4 := hV.c4
  have y6 := hV.c6
  have u2 := hV1.c2
  have u3 := hV1.c3
  have u4 := hV1.c4
  have u6 := hV1.c6
  have HB0 := Lib.hid hb0
  have HW1 := Lib.hid hw1
  have HU := Lib.hid hV1.u
  have hu' : (O.uses.length : Int) ≤ 1000000 := by omega
  clear hw1 hb0 hblk hV hV1
  have HCB : Hid (∀ (n : Int) (many : Nat), Calls Tryz.prog 65 #[.int .i64 n, .int .i64 (many : Int)] w1 fun e w' => e = .returned (.bool (Ob.countsB n many)) ∧ w' = w1) := fun n many => rbelow_any w1 n many
  obtain ⟨r, hr⟩ : ∃ r, Ob.instB O ⟨xo, xa, xb⟩ = r := ⟨_, rfl⟩
  rw [hr]
  · have HV : Hid (r = (Ob.countsB xa 1 && decide (xb = 0))) := by
      show _ = _
      rw [← hr, ho15, Bool.and_comm]
      rfl
    have HC := Lib.hid (HCB.out xa 1)
    rw [ho15] at k0 HW1 ⊢
    clear hr HCB ho15
    generalize Ob.countsB xa 1 = d at *
    go_enter Tryz.func28, Tryz.ntmps28
    go_wp2_with fail
    rw [← HW1.out]
    clear HW1
    refine HC.out.mono ?_
    rintro e wq ⟨rfl, hwq⟩
    rw [hwq]
    clear hwq
    cases d
    · go_wp2_with fail
      go_ret
      exact ⟨by rw [HV.out]; rfl, HB0.out⟩
    · by_cases hb : xb = 0
      · have hbe : (xb == 0) = true := by simp [hb]
        have HV2 : Hid (r = true) := by show _ = _; rw [HV.out, decide_eq_true hb]; rfl
        clear hb HV
        go_wp2_with fail
        go_ret
        exact ⟨by rw [HV2.out]; rfl, HB0.out⟩
      · have hbe : (xb == 0) = false := by simpa using hb
        have HV2 : Hid (r = false) := by show _ = _; rw [HV.out, decide_eq_false hb]; rfl
        clear hb HV
        go_wp2_with fail
        go_ret
        exact ⟨by rw [HV2.out]; rfl, HB0.out⟩
set_option maxRecDepth 100000 in
set_option maxHeartbeats 2000000 in
theorem rinst_16 {w : World} {b o : Nat} {O : Ob.O} {sa ua va pa na ca : Option Addr} {sc uc vc pc nc cc : Nat} (hV : OV w b o O sa ua va pa na ca sc uc vc pc nc cc) (hu : O.uses.length ≤ 1000000) (xo xa xb : Int) (ho16 : xo = 16):
    Calls Tryz.prog 28 #[.pointer (some ⟨b, o, none⟩), .agg #[.int .i64 xo, .int .i64 xa, .int .i64 xb]] w fun e w' => e = .returned (.bool (Ob.instB O ⟨xo, xa, xb⟩)) ∧ Below w.heap.size w w' := by
  have hbl := lt_of_cell hV.c0
  obtain ⟨w1, hw1⟩ : ∃ w1, w1 = w.alloc (.cells #[.int .i64 xo, .int .i64 xa, .int .i64 xb] 49) := ⟨_, rfl⟩
  have hb0 : Below w.heap.size w w1 := by rw [hw1]; exact (Below.refl _ _).alloc (Nat.le_refl _) _
  have hblk : w1.heap[w.heap.size]? = some (.cells #[.int .i64 xo, .int .i64 xa, .int .i64 xb] 49 (0, 0)) := by rw [hw1]; exact new_blk _ _
  have hsz : w.heap.size < w1.heap.size := lt_blk hblk
  have k0 : w1.cell? ⟨w.heap.size, 0, none⟩ = some (.int .i64 xo) := cell_blk hblk
  have k1 : w1.cell? ⟨w.heap.size, 1, none⟩ = some (.int .i64 xa) := cell_blk hblk
  have k2 : w1.cell? ⟨w.heap.size, 2, none⟩ = some (.int .i64 xb) := cell_blk hblk
  have hV1 := hV.below hb0
  have y2 := hV.c2
  have y3 := hV.c3
  have y4 := hV.c4
  have y6 := hV.c6
  have u2 := hV1.c2
  have u3 := hV1.c3
  have u4 := hV1.c4
  have u6 := hV1.c6
  have HB0 := Lib.hid hb0
  have HW1 := Lib.hid hw1
  have HU := Lib.hid hV1.u
  have hu' : (O.uses.length : Int) ≤ 1000000 := by omega
  clear hw1 hb0 hblk hV hV1
  have HCB : Hid (∀ (n : Int) (many : Nat), Calls Tryz.prog 65 #[.int .i64 n, .int .i64 (many : Int)] w1 fun e w' => e = .returned (.bool (Ob.countsB n many)) ∧ w' = w1) := fun n many => rbelow_any w1 n many
  obtain ⟨r, hr⟩ : ∃ r, Ob.instB O ⟨xo, xa, xb⟩ = r := ⟨_, rfl⟩
  rw [hr]
  · have HV : Hid (r = (Ob.countsB xa 1 && decide (xb = 0))) := by
      show _ = _
      rw [← hr, ho16, Bool.and_comm]
      rfl
    have HC := Lib.hid (HCB.out xa 1)
    rw [ho16] at k0 HW1 ⊢
    clear hr HCB ho16
    generalize Ob.countsB xa 1 = d at *
    go_enter Tryz.func28, Tryz.ntmps28
    go_wp2_with fail
    rw [← HW1.out]
    clear HW1
    refine HC.out.mono ?_
    rintro e wq ⟨rfl, hwq⟩
    rw [hwq]
    clear hwq
    cases d
    · go_wp2_with fail
      go_ret
      exact ⟨by rw [HV.out]; rfl, HB0.out⟩
    · by_cases hb : xb = 0
      · have hbe : (xb == 0) = true := by simp [hb]
        have HV2 : Hid (r = true) := by show _ = _; rw [HV.out, decide_eq_true hb]; rfl
        clear hb HV
        go_wp2_with fail
        go_ret
        exact ⟨by rw [HV2.out]; rfl, HB0.out⟩
      · have hbe : (xb == 0) = false := by simpa using hb
        have HV2 : Hid (r = false) := by show _ = _; rw [HV.out, decide_eq_false hb]; rfl
        clear hb HV
        go_wp2_with fail
        go_ret
        exact ⟨by rw [HV2.out]; rfl, HB0.out⟩
set_option maxRecDepth 100000 in
set_option maxHeartbeats 2000000 in
theorem rinst_17 {w : World} {b o : Nat} {O : Ob.O} {sa ua va pa na ca : Option Addr} {sc uc vc pc nc cc : Nat} (hV : OV w b o O sa ua va pa na ca sc uc vc pc nc cc) (hu : O.uses.length ≤ 1000000) (xo xa xb : Int) (ho17 : xo = 17):
    Calls Tryz.prog 28 #[.pointer (some ⟨b, o, none⟩), .agg #[.int .i64 xo, .int .i64 xa, .int .i64 xb]] w fun e w' => e = .returned (.bool (Ob.instB O ⟨xo, xa, xb⟩)) ∧ Below w.heap.size w w' := by
  have hbl := lt_of_cell hV.c0
  obtain ⟨w1, hw1⟩ : ∃ w1, w1 = w.alloc (.cells #[.int .i64 xo, .int .i64 xa, .int .i64 xb] 49) := ⟨_, rfl⟩
  have hb0 : Below w.heap.size w w1 := by rw [hw1]; exact (Below.refl _ _).alloc (Nat.le_refl _) _
  have hblk : w1.heap[w.heap.size]? = some (.cells #[.int .i64 xo, .int .i64 xa, .int .i64 xb] 49 (0, 0)) := by rw [hw1]; exact new_blk _ _
  have hsz : w.heap.size < w1.heap.size := lt_blk hblk
  have k0 : w1.cell? ⟨w.heap.size, 0, none⟩ = some (.int .i64 xo) := cell_blk hblk
  have k1 : w1.cell? ⟨w.heap.size, 1, none⟩ = some (.int .i64 xa) := cell_blk hblk
  have k2 : w1.cell? ⟨w.heap.size, 2, none⟩ = some (.int .i64 xb) := cell_blk hblk
  have hV1 := hV.below hb0
  have y2 := hV.c2
  have y3 := hV.c3
  have y4 := hV.c4
  have y6 := hV.c6
  have u2 := hV1.c2
  have u3 := hV1.c3
  have u4 := hV1.c4
  have u6 := hV1.c6
  have HB0 := Lib.hid hb0
  have HW1 := Lib.hid hw1
  have HU := Lib.hid hV1.u
  have hu' : (O.uses.length : Int) ≤ 1000000 := by omega
  clear hw1 hb0 hblk hV hV1
  have HCB : Hid (∀ (n : Int) (many : Nat), Calls Tryz.prog 65 #[.int .i64 n, .int .i64 (many : Int)] w1 fun e w' => e = .returned (.bool (Ob.countsB n many)) ∧ w' = w1) := fun n many => rbelow_any w1 n many
  obtain ⟨r, hr⟩ : ∃ r, Ob.instB O ⟨xo, xa, xb⟩ = r := ⟨_, rfl⟩
  rw [hr]
  · have HV : Hid (r = (Ob.countsB xa 1 && decide (xb = 0))) := by
      show _ = _
      rw [← hr, ho17, Bool.and_comm]
      rfl
    have HC := Lib.hid (HCB.out xa 1)
    rw [ho17] at k0 HW1 ⊢
    clear hr HCB ho17
    generalize Ob.countsB xa 1 = d at *
    go_enter Tryz.func28, Tryz.ntmps28
    go_wp2_with fail
    rw [← HW1.out]
    clear HW1
    refine HC.out.mono ?_
    rintro e wq ⟨rfl, hwq⟩
    rw [hwq]
    clear hwq
    cases d
    · go_wp2_with fail
      go_ret
      exact ⟨by rw [HV.out]; rfl, HB0.out⟩
    · by_cases hb : xb = 0
      · have hbe : (xb == 0) = true := by simp [hb]
        have HV2 : Hid (r = true) := by show _ = _; rw [HV.out, decide_eq_true hb]; rfl
        clear hb HV
        go_wp2_with fail
        go_ret
        exact ⟨by rw [HV2.out]; rfl, HB0.out⟩
      · have hbe : (xb == 0) = false := by simpa using hb
        have HV2 : Hid (r = false) := by show _ = _; rw [HV.out, decide_eq_false hb]; rfl
        clear hb HV
        go_wp2_with fail
        go_ret
        exact ⟨by rw [HV2.out]; rfl, HB0.out⟩
set_option maxRecDepth 100000 in
set_option maxHeartbeats 2000000 in
theorem rinst_no {w : World} {b o : Nat} {O : Ob.O} {sa ua va pa na ca : Option Addr} {sc uc vc pc nc cc : Nat} (hV : OV w b o O sa ua va pa na ca sc uc vc pc nc cc) (hu : O.uses.length ≤ 1000000) (xo xa xb : Int) (ho1 : ¬ xo = 1) (ho2 : ¬ xo = 2) (ho3 : ¬ xo = 3) (ho4 : ¬ xo = 4) (ho5 : ¬ xo = 5) (ho6 : ¬ xo = 6) (ho7 : ¬ xo = 7) (ho8 : ¬ xo = 8) (ho9 : ¬ xo = 9) (ho10 : ¬ xo = 10) (ho11 : ¬ xo = 11) (ho12 : ¬ xo = 12) (ho13 : ¬ xo = 13) (ho14 : ¬ xo = 14) (ho15 : ¬ xo = 15) (ho16 : ¬ xo = 16) (ho17 : ¬ xo = 17):
    Calls Tryz.prog 28 #[.pointer (some ⟨b, o, none⟩), .agg #[.int .i64 xo, .int .i64 xa, .int .i64 xb]] w fun e w' => e = .returned (.bool (Ob.instB O ⟨xo, xa, xb⟩)) ∧ Below w.heap.size w w' := by
  have hbl := lt_of_cell hV.c0
  obtain ⟨w1, hw1⟩ : ∃ w1, w1 = w.alloc (.cells #[.int .i64 xo, .int .i64 xa, .int .i64 xb] 49) := ⟨_, rfl⟩
  have hb0 : Below w.heap.size w w1 := by rw [hw1]; exact (Below.refl _ _).alloc (Nat.le_refl _) _
  have hblk : w1.heap[w.heap.size]? = some (.cells #[.int .i64 xo, .int .i64 xa, .int .i64 xb] 49 (0, 0)) := by rw [hw1]; exact new_blk _ _
  have hsz : w.heap.size < w1.heap.size := lt_blk hblk
  have k0 : w1.cell? ⟨w.heap.size, 0, none⟩ = some (.int .i64 xo) := cell_blk hblk
  have k1 : w1.cell? ⟨w.heap.size, 1, none⟩ = some (.int .i64 xa) := cell_blk hblk
  have k2 : w1.cell? ⟨w.heap.size, 2, none⟩ = some (.int .i64 xb) := cell_blk hblk
  have hV1 := hV.below hb0
  have y2 := hV.c2
  have y3 := hV.c3
  have y4 := hV.c4
  have y6 := hV.c6
  have u2 := hV1.c2
  have u3 := hV1.c3
  have u4 := hV1.c4
  have u6 := hV1.c6
  have HB0 := Lib.hid hb0
  have HW1 := Lib.hid hw1
  have HU := Lib.hid hV1.u
  have hu' : (O.uses.length : Int) ≤ 1000000 := by omega
  clear hw1 hb0 hblk hV hV1
  have HCB : Hid (∀ (n : Int) (many : Nat), Calls Tryz.prog 65 #[.int .i64 n, .int .i64 (many : Int)] w1 fun e w' => e = .returned (.bool (Ob.countsB n many)) ∧ w' = w1) := fun n many => rbelow_any w1 n many
  obtain ⟨r, hr⟩ : ∃ r, Ob.instB O ⟨xo, xa, xb⟩ = r := ⟨_, rfl⟩
  rw [hr]
  have HV : Hid (r = (Ob.countsB xa 0 && decide (xb = 0))) := by
    show _ = _
    rw [← hr, Bool.and_comm]
    unfold Ob.instB
    simp only
    rw [if_neg (by omega), if_neg (by omega), if_neg (by omega)]
    congr 2
    unfold Ob.choices
    rw [if_neg (by omega), if_neg (by omega), if_neg (by omega), if_neg (by omega), if_neg (by omega)]
  have HC := Lib.hid (HCB.out xa 0)
  have hcz : Ob.countsB xa 0 = false := by
    rw [Bool.eq_false_iff]
    intro h
    simp only [Ob.countsB, Bool.and_eq_true, decide_eq_true_eq] at h
    omega
  rw [hcz] at HC HV
  clear hcz hr HCB
  have q1 := ne_beq ho1
  have q2 := ne_beq ho2
  have q3 := ne_beq ho3
  have q4 := ne_beq ho4
  have q5 := ne_beq ho5
  have q6 := ne_beq ho6
  have q7 := ne_beq ho7
  have q8 := ne_beq ho8
  have q9 := ne_beq ho9
  have q10 := ne_beq ho10
  have q11 := ne_beq ho11
  have q12 := ne_beq ho12
  have q13 := ne_beq ho13
  have q14 := ne_beq ho14
  have q15 := ne_beq ho15
  have q16 := ne_beq ho16
  have q17 := ne_beq ho17
  clear ho1 ho2 ho3 ho4 ho5 ho6 ho7 ho8 ho9 ho10 ho11 ho12 ho13 ho14 ho15 ho16 ho17
  go_enter Tryz.func28, Tryz.ntmps28
  go_wp2_with fail
  rw [← HW1.out]
  clear HW1
  refine HC.out.mono ?_
  rintro e wq ⟨rfl, hwq⟩
  rw [hwq]
  clear hwq
  go_wp2_with fail
  go_ret
  exact ⟨by rw [HV.out]; rfl, HB0.out⟩

theorem rinst_any {w : World} {b o : Nat} {O : Ob.O} {sa ua va pa na ca : Option Addr} {sc uc vc pc nc cc : Nat} (hV : OV w b o O sa ua va pa na ca sc uc vc pc nc cc) (hu : O.uses.length ≤ 1000000) (x : Ob.In) :
    Calls Tryz.prog 28 #[.pointer (some ⟨b, o, none⟩), .agg #[.int .i64 x.op, .int .i64 x.a, .int .i64 x.b]] w fun e w' => e = .returned (.bool (Ob.instB O x)) ∧ Below w.heap.size w w' := by
  by_cases h1 : x.op = 1
  · exact rinst_1 hV hu _ _ _ h1
  by_cases h2 : x.op = 2
  · exact rinst_2 hV hu _ _ _ h2
  by_cases h3 : x.op = 3
  · exact rinst_3 hV hu _ _ _ h3
  by_cases h4 : x.op = 4
  · exact rinst_4 hV hu _ _ _ h4
  by_cases h5 : x.op = 5
  · exact rinst_5 hV hu _ _ _ h5
  by_cases h6 : x.op = 6
  · exact rinst_6 hV hu _ _ _ h6
  by_cases h7 : x.op = 7
  · exact rinst_7 hV hu _ _ _ h7
  by_cases h8 : x.op = 8
  · exact rinst_8 hV hu _ _ _ h8
  by_cases h9 : x.op = 9
  · exact rinst_9 hV hu _ _ _ h9
  by_cases h10 : x.op = 10
  · exact rinst_10 hV hu _ _ _ h10
  by_cases h11 : x.op = 11
  · exact rinst_11 hV hu _ _ _ h11
  by_cases h12 : x.op = 12
  · exact rinst_12 hV hu _ _ _ h12
  by_cases h13 : x.op = 13
  · exact rinst_13 hV hu _ _ _ h13
  by_cases h14 : x.op = 14
  · exact rinst_14 hV hu _ _ _ h14
  by_cases h15 : x.op = 15
  · exact rinst_15 hV hu _ _ _ h15
  by_cases h16 : x.op = 16
  · exact rinst_16 hV hu _ _ _ h16
  by_cases h17 : x.op = 17
  · exact rinst_17 hV hu _ _ _ h17
  exact rinst_no hV hu _ _ _ h1 h2 h3 h4 h5 h6 h7 h8 h9 h10 h11 h12 h13 h14 h15 h16 h17
end Go.Proofs.YtijhpokclpdjpaaGreatDoor
