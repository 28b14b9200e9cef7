/- 6.1: all but procedures and code. -/
import Derived.Test.YtljnddcddclmeaaJ23
namespace Go.Proofs.Ytljnddcddclmeaa
open Go.RowKit
open Ob (Bs)

/- bounds of what is in memory -/
structure Bd (O : Ob.O) : Prop where
  nm : O.name.length ≤ 1000000000
  sl : O.syms.length ≤ 1000000
  s : ∀ x ∈ O.syms, x.name.length ≤ 1000000000
  ul : O.uses.length ≤ 1000000
  u : ∀ x ∈ O.uses, x.name.length ≤ 1000000000 ∧ x.names.length ≤ 1000000 ∧ ∀ y ∈ x.names, y.length ≤ 1000000000
  vl : O.vars.length ≤ 1000000
  v : ∀ x ∈ O.vars, x.name.length ≤ 1000000000
  pl : O.procs.length ≤ 1000000
  nl : O.names.length ≤ 1000000
  n : ∀ x ∈ O.names, x.length ≤ 1000000000
  cl : O.code.length ≤ 1000000
  c : ∀ x ∈ O.code, Ob.I64 x.a
theorem cfSym51 (args : Array Value) (w : World) : (callFunc 51 args).run Try.prog w = .ok (.enter 51 args) w := by kernel_rfl
theorem cfVar54 (args : Array Value) (w : World) : (callFunc 54 args).run Try.prog w = .ok (.enter 54 args) w := by kernel_rfl
set_option maxRecDepth 100000 in
set_option maxHeartbeats 2000000 in
theorem head_r {w : World} {b o : Nat} {O : Ob.O} {sa ua va pa na ca : Option Addr} {sc uc vc pc nc cc : Nat} (hV : OV w b o O sa ua va pa na ca sc uc vc pc nc cc) (hB : Bd O) :
    Calls Try.prog 26 #[.pointer (some ⟨b, o, none⟩)] w fun e w' => e = .returned (.bool (Ob.headB O)) ∧ Below w.heap.size w w' := by
  have hmf : ∀ (fn : Fn) (first cap : Array Value) (w : World), (Instr.makeFunc fn first cap).run Try.prog w = .ok (.func fn first cap) w := fun _ _ _ _ => rfl
  have hbl := lt_of_cell hV.c0
  obtain ⟨w1, hw1⟩ : ∃ w1, w1 = w.alloc (.cells #[.pointer (some ⟨b, o, none⟩)] 22) := ⟨_, rfl⟩
  have hb0 : Below w.heap.size w w1 := by rw [hw1]; exact (Below.refl _ _).alloc (Nat.le_refl _) _
  have hblk : w1.heap[w.heap.size]? = some (.cells #[.pointer (some ⟨b, o, none⟩)] 22 (0, 0)) := by rw [hw1]; exact new_blk _ _
  have hsz : w.heap.size < w1.heap.size := lt_blk hblk
  have kb : w1.cell? ⟨w.heap.size, 0, none⟩ = some (.pointer (some ⟨b, o, none⟩)) := cell_blk hblk
  have hV1 := hV.below hb0
  have HB0 := Lib.hid hb0
  have HW1 := Lib.hid hw1
  clear hw1
  have HK : Hid (∀ W, Below w1.heap.size w1 W → W.cell? ⟨w.heap.size, 0, none⟩ = some (.pointer (some ⟨b, o, none⟩)) ∧ W.cell? ⟨b, o, none⟩ = some (.string (bs O.name)) ∧ W.cell? ⟨b, o + 1, none⟩ = some (.slice sa O.syms.length sc) ∧ W.cell? ⟨b, o + 2, none⟩ = some (.slice ua O.uses.length uc) ∧ W.cell? ⟨b, o + 3, none⟩ = some (.slice va O.vars.length vc) ∧ b < W.heap.size ∧ w.heap.size < W.heap.size) :=
    fun W hW => ⟨(hW.cell (p := ⟨w.heap.size, 0, none⟩) hsz).trans kb, (hV1.below hW).c0, (hV1.below hW).c1, (hV1.below hW).c2, (hV1.below hW).c3, lt_of_cell (hV1.below hW).c0, Nat.lt_of_lt_of_le hsz hW.size⟩
  have HC1 : Hid (∀ W, Below w1.heap.size w1 W → Calls Try.prog 49 #[.string (bs O.name)] W fun e w' => e = .returned (.bool (Ob.nameB O.name)) ∧ w' = W) := fun W _ => name_any W O.name hB.nm
  have HC2 : Hid (∀ W, Below w1.heap.size w1 W → Calls Try.prog 50 #[.slice sa O.syms.length sc, .int .i64 20, .func (.func 51) #[] #[]] W fun e w' => e = .returned (.bool (Ob.allB Ob.symB 20 O.syms)) ∧ Below W.heap.size W w') :=
    fun W hW => allSym (hV1.below hW).s (by have := hB.sl; omega) 20 (by omega) cfSym51 (fun W' y hy _ => sym_r W' y (hB.s y hy))
  have HC3 : Hid (∀ W, Below w1.heap.size w1 W → Calls Try.prog 52 #[.slice ua O.uses.length uc, .int .i64 6, .func (.func 47) #[] #[.pointer (some ⟨w.heap.size, 0, none⟩)]] W fun e w' => e = .returned (.bool (Ob.allB (Ob.otherB O.name) 6 O.uses)) ∧ Below W.heap.size W w') :=
    fun W hW => by
      obtain ⟨ucs, hu1, hu2⟩ := (hV1.below hW).u
      exact allUs hu1 hu2 (by have := hB.ul; omega) 6 (by omega) cfOther (fun W' y na' nc' hy hW' hs => other_r y na' nc' O.name ((hW'.cell (p := ⟨w.heap.size, 0, none⟩) (show w.heap.size < W.heap.size by have := hW.size; omega)).trans ((hW.cell (p := ⟨w.heap.size, 0, none⟩) hsz).trans kb)) ((hV1.below hW).below hW').c0 hs (hB.u y hy).1 (by have := (hB.u y hy).2.1; omega) (hB.u y hy).2.2)
  have HC4 : Hid (∀ W, Below w1.heap.size w1 W → Calls Try.prog 53 #[.slice va O.vars.length vc, .int .i64 10, .func (.func 54) #[] #[]] W fun e w' => e = .returned (.bool (Ob.allB Ob.varB 10 O.vars)) ∧ Below W.heap.size W w') :=
    fun W hW => allGl (hV1.below hW).v (by have := hB.vl; omega) 10 (by omega) cfVar54 (fun W' y hy _ => var_r W' y (hB.v y hy))
  have HR : Hid (Ob.headB O = (Ob.nameB O.name && (Ob.allB Ob.symB 20 O.syms && (Ob.allB (Ob.otherB O.name) 6 O.uses && Ob.allB Ob.varB 10 O.vars)))) := rfl
  generalize Ob.headB O = r at *
  generalize Ob.nameB O.name = b1 at *
  generalize Ob.allB Ob.symB 20 O.syms = b2 at *
  generalize Ob.allB (Ob.otherB O.name) 6 O.uses = b3 at *
  generalize Ob.allB Ob.varB 10 O.vars = b4 at *
  have hc0 := hV.c0
  clear hB hV1 hblk hb0 kb hV
  cases b1 with
  | false =>
    have HV : Hid (r = false) := by
      show _ = _
      rw [HR.out]
      simp [*]
    clear HR
    obtain ⟨f0, f1, f2, f3, f4, f5, f6⟩ := HK.out w1 (Below.refl _ _)
    go_enter Try.func26, Try.ntmps26
    go_wp2_with fail
    rw [← HW1.out]
    clear HW1
    refine (HC1.out _ (Below.refl w1.heap.size w1)).mono ?_
    rintro e wq ⟨rfl, hwq⟩
    rw [hwq]
    clear hwq
    go_wp2_with fail
    go_ret
    exact ⟨by rw [HV.out]; rfl, HB0.out.trans ((Below.refl w1.heap.size w1).mono HB0.out.size)⟩
  | true =>
    cases b2 with
    | false =>
      have HV : Hid (r = false) := by
        show _ = _
        rw [HR.out]
        simp [*]
      clear HR
      obtain ⟨f0, f1, f2, f3, f4, f5, f6⟩ := HK.out w1 (Below.refl _ _)
      go_enter Try.func26, Try.ntmps26
      go_wp2_with fail
      rw [← HW1.out]
      clear HW1
      refine (HC1.out _ (Below.refl w1.heap.size w1)).mono ?_
      rintro e wq ⟨rfl, hwq⟩
      rw [hwq]
      clear hwq
      go_wp2_with fail
      refine (HC2.out _ (Below.refl w1.heap.size w1)).mono ?_
      rintro e wq1 ⟨rfl, hq1⟩
      have HQ1 : Hid (Below w1.heap.size w1 wq1) := (Below.refl w1.heap.size w1).trans (hq1.mono (Below.refl w1.heap.size w1).size)
      clear hq1 f0 f1 f2 f3 f4 f5 f6
      obtain ⟨f0, f1, f2, f3, f4, f5, f6⟩ := HK.out wq1 HQ1.out
      go_wp2_with fail
      go_ret
      exact ⟨by rw [HV.out]; rfl, HB0.out.trans (HQ1.out.mono HB0.out.size)⟩
    | true =>
      cases b3 with
      | false =>
        have HV : Hid (r = false) := by
          show _ = _
          rw [HR.out]
          simp [*]
        clear HR
        obtain ⟨f0, f1, f2, f3, f4, f5, f6⟩ := HK.out w1 (Below.refl _ _)
        go_enter Try.func26, Try.ntmps26
        go_wp2_with fail
        rw [← HW1.out]
        clear HW1
        refine (HC1.out _ (Below.refl w1.heap.size w1)).mono ?_
        rintro e wq ⟨rfl, hwq⟩
        rw [hwq]
        clear hwq
        go_wp2_with fail
        refine (HC2.out _ (Below.refl w1.heap.size w1)).mono ?_
        rintro e wq1 ⟨rfl, hq1⟩
        have HQ1 : Hid (Below w1.heap.size w1 wq1) := (Below.refl w1.heap.size w1).trans (hq1.mono (Below.refl w1.heap.size w1).size)
        clear hq1 f0 f1 f2 f3 f4 f5 f6
        obtain ⟨f0, f1, f2, f3, f4, f5, f6⟩ := HK.out wq1 HQ1.out
        go_wp2_with fail
        refine (HC3.out _ HQ1.out).mono ?_
        rintro e wq2 ⟨rfl, hq2⟩
        have HQ2 : Hid (Below w1.heap.size w1 wq2) := HQ1.out.trans (hq2.mono HQ1.out.size)
        clear hq2 f0 f1 f2 f3 f4 f5 f6
        obtain ⟨f0, f1, f2, f3, f4, f5, f6⟩ := HK.out wq2 HQ2.out
        go_wp2_with fail
        go_ret
        exact ⟨by rw [HV.out]; rfl, HB0.out.trans (HQ2.out.mono HB0.out.size)⟩
      | true =>
        cases b4 with
        | false =>
          have HV : Hid (r = false) := by
            show _ = _
            rw [HR.out]
            simp [*]
          clear HR
          obtain ⟨f0, f1, f2, f3, f4, f5, f6⟩ := HK.out w1 (Below.refl _ _)
          go_enter Try.func26, Try.ntmps26
          go_wp2_with fail
          rw [← HW1.out]
          clear HW1
          refine (HC1.out _ (Below.refl w1.heap.size w1)).mono ?_
          rintro e wq ⟨rfl, hwq⟩
          rw [hwq]
          clear hwq
          go_wp2_with fail
          refine (HC2.out _ (Below.refl w1.heap.size w1)).mono ?_
          rintro e wq1 ⟨rfl, hq1⟩
          have HQ1 : Hid (Below w1.heap.size w1 wq1) := (Below.refl w1.heap.size w1).trans (hq1.mono (Below.refl w1.heap.size w1).size)
          clear hq1 f0 f1 f2 f3 f4 f5 f6
          obtain ⟨f0, f1, f2, f3, f4, f5, f6⟩ := HK.out wq1 HQ1.out
          go_wp2_with fail
          refine (HC3.out _ HQ1.out).mono ?_
          rintro e wq2 ⟨rfl, hq2⟩
          have HQ2 : Hid (Below w1.heap.size w1 wq2) := HQ1.out.trans (hq2.mono HQ1.out.size)
          clear hq2 f0 f1 f2 f3 f4 f5 f6
          obtain ⟨f0, f1, f2, f3, f4, f5, f6⟩ := HK.out wq2 HQ2.out
          go_wp2_with fail
          refine (HC4.out _ HQ2.out).mono ?_
          rintro e wq3 ⟨rfl, hq3⟩
          have HQ3 : Hid (Below w1.heap.size w1 wq3) := HQ2.out.trans (hq3.mono HQ2.out.size)
          clear hq3 f0 f1 f2 f3 f4 f5 f6
          obtain ⟨f0, f1, f2, f3, f4, f5, f6⟩ := HK.out wq3 HQ3.out
          go_wp2_with fail
          go_ret
          exact ⟨by rw [HV.out]; rfl, HB0.out.trans (HQ3.out.mono HB0.out.size)⟩
        | true =>
          have HV : Hid (r = true) := by
            show _ = _
            rw [HR.out]
            simp [*]
          clear HR
          obtain ⟨f0, f1, f2, f3, f4, f5, f6⟩ := HK.out w1 (Below.refl _ _)
          go_enter Try.func26, Try.ntmps26
          go_wp2_with fail
          rw [← HW1.out]
          clear HW1
          refine (HC1.out _ (Below.refl w1.heap.size w1)).mono ?_
          rintro e wq ⟨rfl, hwq⟩
          rw [hwq]
          clear hwq
          go_wp2_with fail
          refine (HC2.out _ (Below.refl w1.heap.size w1)).mono ?_
          rintro e wq1 ⟨rfl, hq1⟩
          have HQ1 : Hid (Below w1.heap.size w1 wq1) := (Below.refl w1.heap.size w1).trans (hq1.mono (Below.refl w1.heap.size w1).size)
          clear hq1 f0 f1 f2 f3 f4 f5 f6
          obtain ⟨f0, f1, f2, f3, f4, f5, f6⟩ := HK.out wq1 HQ1.out
          go_wp2_with fail
          refine (HC3.out _ HQ1.out).mono ?_
          rintro e wq2 ⟨rfl, hq2⟩
          have HQ2 : Hid (Below w1.heap.size w1 wq2) := HQ1.out.trans (hq2.mono HQ1.out.size)
          clear hq2 f0 f1 f2 f3 f4 f5 f6
          obtain ⟨f0, f1, f2, f3, f4, f5, f6⟩ := HK.out wq2 HQ2.out
          go_wp2_with fail
          refine (HC4.out _ HQ2.out).mono ?_
          rintro e wq3 ⟨rfl, hq3⟩
          have HQ3 : Hid (Below w1.heap.size w1 wq3) := HQ2.out.trans (hq3.mono HQ2.out.size)
          clear hq3 f0 f1 f2 f3 f4 f5 f6
          obtain ⟨f0, f1, f2, f3, f4, f5, f6⟩ := HK.out wq3 HQ3.out
          go_wp2_with fail
          go_ret
          exact ⟨by rw [HV.out]; rfl, HB0.out.trans (HQ3.out.mono HB0.out.size)⟩
end Go.Proofs.Ytljnddcddclmeaa
