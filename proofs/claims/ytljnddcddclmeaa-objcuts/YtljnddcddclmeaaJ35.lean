/- Objects that are little enough. -/
import Derived.Test.YtljnddcddclmeaaJ34
import Derived.Laws.EntriesVeiled
namespace Go.Proofs.Ytljnddcddclmeaa
open Go.RowKit
open Ob (Bs)

def longB (s : Bs) : Bool := decide (40 < s.length)
def useL (u : Ob.Us) : Bool := longB u.name || (decide (110 < u.names.length) || (decide (4100 < u.need.length) || u.names.any longB))
def smallB (O : Ob.O) : Bool := !longB O.name && (decide (O.syms.length ≤ 30) && (decide (O.uses.length ≤ 10) && (decide (O.vars.length ≤ 15) && (decide (O.procs.length ≤ 15) && (decide (O.names.length ≤ 15) && (decide (O.code.length ≤ 80) && (!O.names.any longB && (!(O.syms.any fun x => longB x.name) && (!(O.vars.any fun x => longB x.name) && !O.uses.any useL)))))))))
theorem cf14 (args : Array Value) (w : World) : (callFunc 14 args).run Try.prog w = .ok (.enter 14 args) w := by kernel_rfl
theorem cf17 (args : Array Value) (w : World) : (callFunc 17 args).run Try.prog w = .ok (.enter 17 args) w := by kernel_rfl
theorem cf19 (args : Array Value) (w : World) : (callFunc 19 args).run Try.prog w = .ok (.enter 19 args) w := by kernel_rfl
theorem cf21 (args : Array Value) (w : World) : (callFunc 21 args).run Try.prog w = .ok (.enter 21 args) w := by kernel_rfl
set_option maxRecDepth 100000 in
set_option maxHeartbeats 400000 in
theorem long_any (w : World) (s : Bs) : Calls Try.prog 14 #[.string (bs s)] w fun e w' => e = .returned (.bool (longB s)) ∧ w' = w := by
  have hz := bs_size s
  by_cases h : 40 < s.length
  · have h' : (40 : Int) < (s.length : Int) := by omega
    have HV : Hid (longB s = true) := decide_eq_true h
    go_enter Try.func14, Try.ntmps14
    go_wp2_with fail
    go_ret
    exact ⟨by rw [HV.out]; rfl, rfl⟩
  · have h' : ¬ (40 : Int) < (s.length : Int) := by omega
    have h'' : decide ((40 : Int) < (s.length : Int)) = false := decide_eq_false h'
    have HV : Hid (longB s = false) := decide_eq_false h
    go_enter Try.func14, Try.ntmps14
    go_wp2_with fail
    go_ret
    exact ⟨by rw [HV.out]; rfl, rfl⟩
set_option maxRecDepth 100000 in
set_option maxHeartbeats 400000 in
theorem longSym {w : World} {fb : Nat} (hk : w.cell? ⟨fb, 0, none⟩ = some (.func (.func 14) #[] #[])) (x : Ob.Sm) : Calls Try.prog 17 #[.agg #[.string (bs x.name), .int .i64 x.len, .int .i64 x.args], .pointer (some ⟨fb, 0, none⟩)] w fun e w' => e = .returned (.bool (longB x.name)) ∧ Below w.heap.size w w' := by
  have hfl := lt_of_cell hk
  have HB0 : Hid (Below w.heap.size w (w.alloc (.cells #[.string (bs x.name), .int .i64 x.len, .int .i64 x.args] 53))) := (Below.refl _ _).alloc (Nat.le_refl _) _
  have HC := Lib.hid (fun W => long_any W x.name)
  generalize longB x.name = d at *
  go_enter Try.func17, Try.ntmps17
  go_wp2_with fail
  refine (HC.out _).mono ?_
  rintro e wq ⟨rfl, hwq⟩
  rw [hwq]
  clear hwq
  go_wp2_with fail
  go_ret
  exact ⟨rfl, HB0.out⟩
set_option maxRecDepth 100000 in
set_option maxHeartbeats 400000 in
theorem longGl {w : World} {fb : Nat} (hk : w.cell? ⟨fb, 0, none⟩ = some (.func (.func 14) #[] #[])) (x : Ob.Gl) : Calls Try.prog 19 #[.agg #[.string (bs x.name), .int .i64 x.at', .int .i64 x.len, .bool x.seen], .pointer (some ⟨fb, 0, none⟩)] w fun e w' => e = .returned (.bool (longB x.name)) ∧ Below w.heap.size w w' := by
  have hfl := lt_of_cell hk
  have HB0 : Hid (Below w.heap.size w (w.alloc (.cells #[.string (bs x.name), .int .i64 x.at', .int .i64 x.len, .bool x.seen] 57))) := (Below.refl _ _).alloc (Nat.le_refl _) _
  have HC := Lib.hid (fun W => long_any W x.name)
  generalize longB x.name = d at *
  go_enter Try.func19, Try.ntmps19
  go_wp2_with fail
  refine (HC.out _).mono ?_
  rintro e wq ⟨rfl, hwq⟩
  rw [hwq]
  clear hwq
  go_wp2_with fail
  go_ret
  exact ⟨rfl, HB0.out⟩
set_option maxRecDepth 100000 in
set_option maxHeartbeats 1000000 in
theorem longUs {w : World} {fb : Nat} (hk : w.cell? ⟨fb, 0, none⟩ = some (.func (.func 14) #[] #[])) (x : Ob.Us) {na : Option Addr} {nc : Nat} (hS : Sl w (.slice na x.names.length nc) 1 x.names.length (cellsOf stC x.names)) : Calls Try.prog 21 #[.agg #[.string (bs x.name), .string (bs x.need), .slice na x.names.length nc], .pointer (some ⟨fb, 0, none⟩)] w fun e w' => e = .returned (.bool (useL x)) ∧ Below w.heap.size w w' := by
  have hfl := lt_of_cell hk
  have hz := bs_size x.need
  have hb0 : Below w.heap.size w (w.alloc (.cells #[.string (bs x.name), .string (bs x.need), .slice na x.names.length nc] 61)) := (Below.refl _ _).alloc (Nat.le_refl _) _
  have HB0 := Lib.hid hb0
  have HC := Lib.hid (fun W => long_any W x.name)
  have HCN : Hid (x.names.length ≤ 1000000 → ∀ W, Below w.heap.size w W → Calls Try.prog 15 #[.slice na x.names.length nc, .func (.func 14) #[] #[]] W fun e w' => e = .returned (.bool (x.names.any longB)) ∧ Below W.heap.size W w') := fun hn W hW => containsStr0 (hS.below hW) hn cf14 (fun W' y _ _ => (long_any W' y).mono (fun e w' h => ⟨h.1, by rw [h.2]; exact Below.refl _ _⟩))
  have HR : Hid (useL x = (longB x.name || (decide (110 < x.names.length) || (decide (4100 < x.need.length) || x.names.any longB)))) := rfl
  generalize useL x = r at *
  generalize longB x.name = b1 at *
  generalize x.names.any longB = b2 at *
  clear hS hb0
  cases b1 with
  | true =>
    have HV : Hid (r = true) := by
      show _ = _
      rw [HR.out]
      simp [*]
    clear HR
    go_enter Try.func21, Try.ntmps21
    go_wp2_with fail
    refine (HC.out _).mono ?_
    rintro e wq ⟨rfl, hwq⟩
    rw [hwq]
    clear hwq
    go_wp2_with fail
    go_ret
    exact ⟨by rw [HV.out]; rfl, HB0.out⟩
  | false =>
    by_cases h1 : 110 < x.names.length
    · have h1' : (110 : Int) < (x.names.length : Int) := by omega
      have h1d : decide ((110 : Int) < (x.names.length : Int)) = true := decide_eq_true h1'
      have HV : Hid (r = true) := by
        show _ = _
        rw [HR.out]
        simp [*]
      clear HR
      go_enter Try.func21, Try.ntmps21
      go_wp2_with fail
      refine (HC.out _).mono ?_
      rintro e wq ⟨rfl, hwq⟩
      rw [hwq]
      clear hwq
      go_wp2_with fail
      go_ret
      exact ⟨by rw [HV.out]; rfl, HB0.out⟩
    · have h1' : (x.names.length : Int) ≤ 110 := by omega
      have h1d : decide ((110 : Int) < (x.names.length : Int)) = false := decide_eq_false (by omega)
      by_cases h2 : 4100 < x.need.length
      · have h2' : (4100 : Int) < (x.need.length : Int) := by omega
        have h2d : decide ((4100 : Int) < (x.need.length : Int)) = true := decide_eq_true h2'
        have HV : Hid (r = true) := by
          show _ = _
          rw [HR.out]
          simp [*]
        clear HR
        go_enter Try.func21, Try.ntmps21
        go_wp2_with fail
        refine (HC.out _).mono ?_
        rintro e wq ⟨rfl, hwq⟩
        rw [hwq]
        clear hwq
        go_wp2_with fail
        go_ret
        exact ⟨by rw [HV.out]; rfl, HB0.out⟩
      · have h2' : (x.need.length : Int) ≤ 4100 := by omega
        have h2d : decide ((4100 : Int) < (x.need.length : Int)) = false := decide_eq_false (by omega)
        cases b2 with
        | true =>
          have HV : Hid (r = true) := by
            show _ = _
            rw [HR.out]
            simp [*]
          clear HR
          go_enter Try.func21, Try.ntmps21
          go_wp2_with fail
          refine (HC.out _).mono ?_
          rintro e wq ⟨rfl, hwq⟩
          rw [hwq]
          clear hwq
          go_wp2_with fail
          refine (HCN.out (by omega) _ HB0.out).mono ?_
          rintro e w2 ⟨rfl, hb2⟩
          have HB2 := Lib.hid (HB0.out.trans (hb2.mono HB0.out.size))
          clear hb2
          go_wp2_with fail
          go_ret
          exact ⟨by rw [HV.out]; rfl, HB2.out⟩
        | false =>
          have HV : Hid (r = false) := by
            show _ = _
            rw [HR.out]
            simp [*]
          clear HR
          go_enter Try.func21, Try.ntmps21
          go_wp2_with fail
          refine (HC.out _).mono ?_
          rintro e wq ⟨rfl, hwq⟩
          rw [hwq]
          clear hwq
          go_wp2_with fail
          refine (HCN.out (by omega) _ HB0.out).mono ?_
          rintro e w2 ⟨rfl, hb2⟩
          have HB2 := Lib.hid (HB0.out.trans (hb2.mono HB0.out.size))
          clear hb2
          go_wp2_with fail
          go_ret
          exact ⟨by rw [HV.out]; rfl, HB2.out⟩
end Go.Proofs.Ytljnddcddclmeaa
