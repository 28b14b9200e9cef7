/- 6.1: what others see, variables, what is used. -/
import Derived.Test.YtljnddcddclmeaaJ21
namespace Go.Proofs.Ytljnddcddclmeaa
open Go.RowKit
open Ob (Bs)

set_option maxRecDepth 100000 in
set_option maxHeartbeats 1000000 in
theorem sym_r (w : World) (x : Ob.Sm) (hx : x.name.length ≤ 1000000000) :
    Calls Try.prog 51 #[.agg #[.string (bs x.name), .int .i64 x.len, .int .i64 x.args]] w fun e w' => e = .returned (.bool (Ob.symB x)) ∧ Below w.heap.size w w' := by
  have HC1 : Hid (∀ W, Below w.heap.size w W → Calls Try.prog 49 #[.string (bs x.name)] W fun e w' => e = .returned (.bool (Ob.nameB x.name)) ∧ w' = W) := fun W _ => name_any W x.name hx
  have HC2 : Hid (∀ W, Below w.heap.size w W → Calls Try.prog 74 #[.int .i64 x.len] W fun e w' => e = .returned (.bool (Ob.lenB x.len)) ∧ w' = W) := fun W _ => len_any W x.len
  have HR : Hid (Ob.symB x = (Ob.nameB x.name && (decide (-1 ≤ x.args) && (decide (x.args ≤ 10) && (Ob.lenB x.len && (decide (x.args < 0) || decide (x.len = 0))))))) := rfl
  generalize Ob.symB x = r at *
  generalize Ob.nameB x.name = b1 at *
  generalize Ob.lenB x.len = b2 at *
  generalize x.args = xa at *
  generalize x.len = xl at *
  have HB0 : Hid (Below w.heap.size w (w.alloc (.cells #[.string (bs x.name), .int .i64 xl, .int .i64 xa] 53))) := (Below.refl _ _).alloc (Nat.le_refl _) _
  cases b1 with
  | false =>
    have HV : Hid (r = false) := by
      show _ = _
      rw [HR.out]
      simp [*]
    clear HR
    go_enter Try.func51, Try.ntmps51
    go_wp2_with fail
    refine (HC1.out _ HB0.out).mono ?_
    rintro e wq ⟨rfl, rfl⟩
    go_wp2_with fail
    go_ret
    exact ⟨by rw [HV.out]; rfl, HB0.out⟩
  | true =>
    by_cases hc1 : -1 ≤ xa
    · have hc1_0 : decide (-1 ≤ xa) = true := decide_eq_true (by omega)
      by_cases hc2 : xa ≤ 10
      · have hc2_0 : decide (xa ≤ 10) = true := decide_eq_true (by omega)
        cases b2 with
        | false =>
          have HV : Hid (r = false) := by
            show _ = _
            rw [HR.out]
            simp [*]
          clear HR
          go_enter Try.func51, Try.ntmps51
          go_wp2_with fail
          refine (HC1.out _ HB0.out).mono ?_
          rintro e wq ⟨rfl, rfl⟩
          go_wp2_with fail
          refine (HC2.out _ HB0.out).mono ?_
          rintro e wq ⟨rfl, rfl⟩
          go_wp2_with fail
          go_ret
          exact ⟨by rw [HV.out]; rfl, HB0.out⟩
        | true =>
          by_cases ho0 : xa < 0
          · have ho0_0 : decide (xa < 0) = true := decide_eq_true (by omega)
            have HV : Hid (r = true) := by
              show _ = _
              rw [HR.out]
              simp [*]
            clear HR
            go_enter Try.func51, Try.ntmps51
            go_wp2_with fail
            refine (HC1.out _ HB0.out).mono ?_
            rintro e wq ⟨rfl, rfl⟩
            go_wp2_with fail
            refine (HC2.out _ HB0.out).mono ?_
            rintro e wq ⟨rfl, rfl⟩
            go_wp2_with fail
            go_ret
            exact ⟨by rw [HV.out]; rfl, HB0.out⟩
          · have ho0_0 : 0 ≤ xa := by omega
            have ho0_1 : decide (xa < 0) = false := decide_eq_false (by omega)
            by_cases ho1 : xl = 0
            · have ho1_0 : (xl == 0) = true := by simp [ho1]
              have HV : Hid (r = true) := by
                show _ = _
                rw [HR.out]
                simp [*]
              clear HR ho1
              go_enter Try.func51, Try.ntmps51
              go_wp2_with fail
              refine (HC1.out _ HB0.out).mono ?_
              rintro e wq ⟨rfl, rfl⟩
              go_wp2_with fail
              refine (HC2.out _ HB0.out).mono ?_
              rintro e wq ⟨rfl, rfl⟩
              go_wp2_with fail
              go_ret
              exact ⟨by rw [HV.out]; rfl, HB0.out⟩
            · have ho1_0 : (xl == 0) = false := by simp [ho1]
              have HV : Hid (r = false) := by
                show _ = _
                rw [HR.out]
                simp [*]
              clear HR
              go_enter Try.func51, Try.ntmps51
              go_wp2_with fail
              refine (HC1.out _ HB0.out).mono ?_
              rintro e wq ⟨rfl, rfl⟩
              go_wp2_with fail
              refine (HC2.out _ HB0.out).mono ?_
              rintro e wq ⟨rfl, rfl⟩
              go_wp2_with fail
              go_ret
              exact ⟨by rw [HV.out]; rfl, HB0.out⟩
      · have hc2_0 : 10 < xa := by omega
        have hc2_1 : decide (xa ≤ 10) = false := decide_eq_false (by omega)
        have HV : Hid (r = false) := by
          show _ = _
          rw [HR.out]
          simp [*]
        clear HR
        go_enter Try.func51, Try.ntmps51
        go_wp2_with fail
        refine (HC1.out _ HB0.out).mono ?_
        rintro e wq ⟨rfl, rfl⟩
        go_wp2_with fail
        go_ret
        exact ⟨by rw [HV.out]; rfl, HB0.out⟩
    · have hc1_0 : xa < -1 := by omega
      have hc1_1 : decide (-1 ≤ xa) = false := decide_eq_false (by omega)
      have HV : Hid (r = false) := by
        show _ = _
        rw [HR.out]
        simp [*]
      clear HR
      go_enter Try.func51, Try.ntmps51
      go_wp2_with fail
      refine (HC1.out _ HB0.out).mono ?_
      rintro e wq ⟨rfl, rfl⟩
      go_wp2_with fail
      go_ret
      exact ⟨by rw [HV.out]; rfl, HB0.out⟩
set_option maxRecDepth 100000 in
set_option maxHeartbeats 1000000 in
theorem var_r (w : World) (x : Ob.Gl) (hx : x.name.length ≤ 1000000000) :
    Calls Try.prog 54 #[.agg #[.string (bs x.name), .int .i64 x.at', .int .i64 x.len, .bool x.seen]] w fun e w' => e = .returned (.bool (Ob.varB x)) ∧ Below w.heap.size w w' := by
  have HC1 : Hid (∀ W, Below w.heap.size w W → Calls Try.prog 49 #[.string (bs x.name)] W fun e w' => e = .returned (.bool (Ob.nameB x.name)) ∧ w' = W) := fun W _ => name_any W x.name hx
  have HC2 : Hid (∀ W, Below w.heap.size w W → Calls Try.prog 74 #[.int .i64 x.len] W fun e w' => e = .returned (.bool (Ob.lenB x.len)) ∧ w' = W) := fun W _ => len_any W x.len
  have HR : Hid (Ob.varB x = (Ob.nameB x.name && (decide (x.at' = 0) && Ob.lenB x.len))) := rfl
  generalize Ob.varB x = r at *
  generalize Ob.nameB x.name = b1 at *
  generalize Ob.lenB x.len = b2 at *
  generalize x.at' = xa at *
  have HB0 : Hid (Below w.heap.size w (w.alloc (.cells #[.string (bs x.name), .int .i64 xa, .int .i64 x.len, .bool x.seen] 57))) := (Below.refl _ _).alloc (Nat.le_refl _) _
  cases b1 with
  | false =>
    have HV : Hid (r = false) := by
      show _ = _
      rw [HR.out]
      simp [*]
    clear HR
    go_enter Try.func54, Try.ntmps54
    go_wp2_with fail
    refine (HC1.out _ HB0.out).mono ?_
    rintro e wq ⟨rfl, rfl⟩
    go_wp2_with fail
    go_ret
    exact ⟨by rw [HV.out]; rfl, HB0.out⟩
  | true =>
    by_cases hc1 : xa = 0
    · have hc1_0 : (xa == 0) = true := by simp [hc1]
      cases b2 with
      | false =>
        have HV : Hid (r = false) := by
          show _ = _
          rw [HR.out]
          simp [*]
        clear HR hc1
        go_enter Try.func54, Try.ntmps54
        go_wp2_with fail
        refine (HC1.out _ HB0.out).mono ?_
        rintro e wq ⟨rfl, rfl⟩
        go_wp2_with fail
        refine (HC2.out _ HB0.out).mono ?_
        rintro e wq ⟨rfl, rfl⟩
        go_wp2_with fail
        go_ret
        exact ⟨by rw [HV.out]; rfl, HB0.out⟩
      | true =>
        have HV : Hid (r = true) := by
          show _ = _
          rw [HR.out]
          simp [*]
        clear HR hc1
        go_enter Try.func54, Try.ntmps54
        go_wp2_with fail
        refine (HC1.out _ HB0.out).mono ?_
        rintro e wq ⟨rfl, rfl⟩
        go_wp2_with fail
        refine (HC2.out _ HB0.out).mono ?_
        rintro e wq ⟨rfl, rfl⟩
        go_wp2_with fail
        go_ret
        exact ⟨by rw [HV.out]; rfl, HB0.out⟩
    · have hc1_0 : (xa == 0) = false := by simp [hc1]
      have HV : Hid (r = false) := by
        show _ = _
        rw [HR.out]
        simp [*]
      clear HR
      go_enter Try.func54, Try.ntmps54
      go_wp2_with fail
      refine (HC1.out _ HB0.out).mono ?_
      rintro e wq ⟨rfl, rfl⟩
      go_wp2_with fail
      go_ret
      exact ⟨by rw [HV.out]; rfl, HB0.out⟩
theorem cfName (args : Array Value) (w : World) : (callFunc 49 args).run Try.prog w = .ok (.enter 49 args) w := by kernel_rfl
set_option maxRecDepth 100000 in
set_option maxHeartbeats 1000000 in
theorem use_r {w : World} (x : Ob.Us) (na : Option Addr) (nc : Nat) (hS : Sl w (.slice na x.names.length nc) 1 x.names.length (cellsOf stC x.names)) (hx : x.name.length ≤ 1000000000) (hl : x.names.length ≤ 140737488355328) (hn : ∀ y ∈ x.names, y.length ≤ 1000000000) :
    Calls Try.prog 48 #[.agg #[.string (bs x.name), .string (bs x.need), .slice na x.names.length nc]] w fun e w' => e = .returned (.bool (Ob.useB x)) ∧ Below w.heap.size w w' := by
  have HC1 : Hid (∀ W, Below w.heap.size w W → Calls Try.prog 49 #[.string (bs x.name)] W fun e w' => e = .returned (.bool (Ob.nameB x.name)) ∧ w' = W) := fun W _ => name_any W x.name hx
  have HC2 : Hid (∀ W, Below w.heap.size w W → Calls Try.prog 58 #[.slice na x.names.length nc, .int .i64 100, .func (.func 49) #[] #[]] W fun e w' => e = .returned (.bool (Ob.allB Ob.nameB 100 x.names)) ∧ Below W.heap.size W w') := fun W hW => allStr (hS.below hW) hl 100 (by omega) cfName (fun W' y hy _ => (name_any W' y (hn y hy)).mono (fun e w' h => ⟨h.1, by rw [h.2]; exact Below.refl _ _⟩))
  have hsz := bs_size x.need
  have HR : Hid (Ob.useB x = (Ob.nameB x.name && (decide (x.need.length ≤ 4000) && Ob.allB Ob.nameB 100 x.names))) := rfl
  generalize Ob.useB x = r at *
  generalize Ob.nameB x.name = b1 at *
  generalize Ob.allB Ob.nameB 100 x.names = b2 at *
  clear hS hn
  have HB0 : Hid (Below w.heap.size w (w.alloc (.cells #[.string (bs x.name), .string (bs x.need), .slice na x.names.length nc] 61))) := (Below.refl _ _).alloc (Nat.le_refl _) _
  cases b1 with
  | false =>
    have HV : Hid (r = false) := by
      show _ = _
      rw [HR.out]
      simp [*]
    clear HR
    go_enter Try.func48, Try.ntmps48
    go_wp2_with fail
    refine (HC1.out _ HB0.out).mono ?_
    rintro e wq ⟨rfl, rfl⟩
    go_wp2_with fail
    go_ret
    exact ⟨by rw [HV.out]; rfl, HB0.out⟩
  | true =>
    by_cases hc1 : x.need.length ≤ 4000
    · have hc1_0 : ((bs x.need).size : Int) ≤ 4000 := by omega
      have hc1_1 : (x.need.length : Int) ≤ 4000 := by omega
      have hc1_2 : decide (x.need.length ≤ 4000) = true := decide_eq_true (by omega)
      cases b2 with
      | false =>
        have HV : Hid (r = false) := by
          show _ = _
          rw [HR.out]
          simp [*]
        clear HR
        go_enter Try.func48, Try.ntmps48
        go_wp2_with fail
        refine (HC1.out _ HB0.out).mono ?_
        rintro e wq ⟨rfl, rfl⟩
        go_wp2_with fail
        refine (HC2.out _ HB0.out).mono ?_
        rintro e wq1 ⟨rfl, hq1⟩
        have HB2 := Lib.hid (HB0.out.trans (hq1.mono HB0.out.size))
        clear hq1
        go_wp2_with fail
        go_ret
        exact ⟨by rw [HV.out]; rfl, HB2.out⟩
      | true =>
        have HV : Hid (r = true) := by
          show _ = _
          rw [HR.out]
          simp [*]
        clear HR
        go_enter Try.func48, Try.ntmps48
        go_wp2_with fail
        refine (HC1.out _ HB0.out).mono ?_
        rintro e wq ⟨rfl, rfl⟩
        go_wp2_with fail
        refine (HC2.out _ HB0.out).mono ?_
        rintro e wq1 ⟨rfl, hq1⟩
        have HB2 := Lib.hid (HB0.out.trans (hq1.mono HB0.out.size))
        clear hq1
        go_wp2_with fail
        go_ret
        exact ⟨by rw [HV.out]; rfl, HB2.out⟩
    · have hc1_0 : (4000 : Int) < (x.need.length : Int) := by omega
      have hc1_1 : decide (x.need.length ≤ 4000) = false := decide_eq_false (by omega)
      have HV : Hid (r = false) := by
        show _ = _
        rw [HR.out]
        simp [*]
      clear HR
      go_enter Try.func48, Try.ntmps48
      go_wp2_with fail
      refine (HC1.out _ HB0.out).mono ?_
      rintro e wq ⟨rfl, rfl⟩
      go_wp2_with fail
      go_ret
      exact ⟨by rw [HV.out]; rfl, HB0.out⟩
end Go.Proofs.Ytljnddcddclmeaa
