/- 6.1: code. -/
import Derived.Test.YtljnddcddclmeaaJ28
namespace Go.Proofs.Ytljnddcddclmeaa
open Go.RowKit
open Ob (Bs)

theorem cfInst (args : Array Value) (w : World) : (callFunc 60 args).run Try.prog w = .ok (.enter 60 args) w := by kernel_rfl
set_option maxRecDepth 100000 in
set_option maxHeartbeats 1000000 in
theorem instOf_r {w : World} {b o cb : Nat} {O : Ob.O} {sa ua va pa na ca : Option Addr} {sc uc vc pc nc cc : Nat} (hcb : w.cell? ⟨cb, 0, none⟩ = some (.pointer (some ⟨b, o, none⟩))) (hV : OV w b o O sa ua va pa na ca sc uc vc pc nc cc) (hu : O.uses.length ≤ 1000000) (x : Ob.In) :
    Calls Try.prog 60 #[.agg #[.int .i64 x.op, .int .i64 x.a, .int .i64 x.b], .pointer (some ⟨cb, 0, none⟩)] w fun e w' => e = .returned (.bool (Ob.instB O x)) ∧ Below w.heap.size w w' := by
  have hcl := lt_of_cell hcb
  have hb0 : Below w.heap.size w (w.alloc (.cells #[.int .i64 x.op, .int .i64 x.a, .int .i64 x.b] 45)) := (Below.refl _ _).alloc (Nat.le_refl _) _
  have HB0 := Lib.hid hb0
  have HC := Lib.hid (inst_r (hV.below hb0) hu x)
  clear hV hb0
  generalize Ob.instB O x = d at *
  go_enter Try.func60, Try.ntmps60
  go_wp2_with fail
  refine HC.out.mono ?_
  rintro e w1 ⟨rfl, h1⟩
  have HB := Lib.hid (HB0.out.trans (h1.mono HB0.out.size))
  clear h1
  go_wp2_with fail
  go_ret
  exact ⟨rfl, HB.out⟩
theorem lastB_eq {O : Ob.O} {k : Nat} {x : Ob.In} (h : O.code.length = k + 1) (hx : O.code[k]? = some x) : Ob.lastB O = (decide (x.op = 12) || (decide (x.op = 15) || decide (x.op = 17))) := by
  unfold Ob.lastB
  have e : O.code.getLast? = some x := by
    rw [List.getLast?_eq_getElem?, h]
    exact hx
  rw [e]
set_option maxRecDepth 100000 in
set_option maxHeartbeats 4000000 in
theorem code_r {w : World} {b o : Nat} {O : Ob.O} {sa ua va pa na ca : Option Addr} {sc uc vc pc nc cc : Nat} (hV : OV w b o O sa ua va pa na ca sc uc vc pc nc cc) (hB : Bd O) :
    Calls Try.prog 28 #[.pointer (some ⟨b, o, none⟩)] w fun e w' => e = .returned (.bool (Ob.codeB O)) ∧ Below w.heap.size w w' := by
  have hmf : ∀ (fn : Fn) (first cap : Array Value) (w : World), (Instr.makeFunc fn first cap).run Try.prog w = .ok (.func fn first cap) w := fun _ _ _ _ => rfl
  have hbl := lt_of_cell hV.c0
  obtain ⟨w1, hw1⟩ : ∃ w1, w1 = w.alloc (.cells #[.pointer (some ⟨b, o, none⟩)] 22) := ⟨_, rfl⟩
  have hb0 : Below w.heap.size w w1 := by rw [hw1]; exact (Below.refl _ _).alloc (Nat.le_refl _) _
  have hblk : w1.heap[w.heap.size]? = some (.cells #[.pointer (some ⟨b, o, none⟩)] 22 (0, 0)) := by rw [hw1]; exact new_blk _ _
  have hsz : w.heap.size < w1.heap.size := lt_blk hblk
  have kb : w1.cell? ⟨w.heap.size, 0, none⟩ = some (.pointer (some ⟨b, o, none⟩)) := cell_blk hblk
  have hV1 := hV.below hb0
  have HB0 := Lib.hid hb0
  have HW1 := Lib.hid hw1
  clear hw1
  have c6 := hV.c6
  have hbl1 : b < w1.heap.size := Nat.lt_of_lt_of_le hbl hb0.size
  have HK : Hid (∀ W, Below w1.heap.size w1 W → W.cell? ⟨w.heap.size, 0, none⟩ = some (.pointer (some ⟨b, o, none⟩)) ∧ W.cell? ⟨b, o + 6, none⟩ = some (.slice ca O.code.length cc)) :=
    fun W hW => ⟨(hW.cell (p := ⟨w.heap.size, 0, none⟩) hsz).trans kb, (hV1.below hW).c6⟩
  have HC1 : Hid (∀ W, Below w1.heap.size w1 W → Calls Try.prog 59 #[.slice ca O.code.length cc, .int .i64 4000, .func (.func 60) #[] #[.pointer (some ⟨w.heap.size, 0, none⟩)]] W fun e w' => e = .returned (.bool (Ob.allB (Ob.instB O) 4000 O.code)) ∧ Below W.heap.size W w') :=
    fun W hW => allIn (hV1.below hW).c (by have := hB.cl; omega) 4000 (by omega) cfInst (fun W' y hy hW' => instOf_r ((hW'.cell (p := ⟨w.heap.size, 0, none⟩) (show w.heap.size < W.heap.size by have := hW.size; omega)).trans ((hW.cell (p := ⟨w.heap.size, 0, none⟩) hsz).trans kb)) ((hV1.below hW).below hW') hB.ul y)
  have HCL := Lib.hid hV1.c
  have HR : Hid (Ob.codeB O = (Ob.allB (Ob.instB O) 4000 O.code && Ob.lastB O)) := rfl
  have hcl := hB.cl
  generalize Ob.codeB O = r at *
  generalize Ob.allB (Ob.instB O) 4000 O.code = b1 at *
  clear hB hV1 hblk hb0 hV
  by_cases h0 : O.code.length = 0
  · have h0' : ((O.code.length : Int) == 0) = true := by simp [h0]
    have HV : Hid (r = false) := by
      show _ = _
      rw [HR.out]
      have e : Ob.lastB O = false := by unfold Ob.lastB; rw [List.eq_nil_of_length_eq_zero h0]; rfl
      rw [e, Bool.and_false]
    clear HR HC1 HCL HK h0 HW1 kb
    go_enter Try.func28, Try.ntmps28
    go_wp2_with fail
    go_ret
    exact ⟨by rw [HV.out]; rfl, (Below.refl _ _).alloc (Nat.le_refl _) _⟩
  · have h0' : ((O.code.length : Int) == 0) = false := ne_beq (by omega)
    obtain ⟨k, hk⟩ : ∃ k, O.code.length = k + 1 := ⟨O.code.length - 1, by omega⟩
    have HL := Lib.hid (lastB_eq hk (List.getElem?_eq_getElem (show k < O.code.length by omega)))
    obtain ⟨g, go, rfl, hgl, hcell⟩ := HCL.out.at' inC_len (by omega) k (by omega)
    have e0 : w1.cell? ⟨g, go + k * 3, none⟩ = some (.int .i64 (O.code[k]'(show k < O.code.length by omega)).op) := hcell 0 _ rfl
    clear hcell HCL
    rw [HL.out] at HR
    clear HL
    generalize (O.code[k]'(show k < O.code.length by omega)).op = xo at *
    rw [hk] at h0' HK HC1 c6 hcl
    clear hk h0
    have hkc : (k : Int) ≤ 1000000 := by omega
    cases b1 with
    | false =>
      have HV : Hid (r = false) := HR
      clear HR
      go_enter Try.func28, Try.ntmps28
      go_wp2_with fail
      rw [← HW1.out]
      clear HW1
      refine (HC1.out _ (Below.refl _ _)).mono ?_
      rintro e w2 ⟨rfl, hb2⟩
      have HB2 := Lib.hid hb2
      clear hb2
      go_wp2_with fail
      go_ret
      exact ⟨by rw [HV.out]; rfl, HB0.out.trans (HB2.out.mono HB0.out.size)⟩
    | true =>
      have HV : Hid (r = (decide (xo = 12) || (decide (xo = 15) || decide (xo = 17)))) := HR
      clear HR
      by_cases h12 : xo = 12
      · have q : (xo == 12) = true := by simp [h12]
        have HX : Hid (r = true) := by show _ = _; rw [HV.out]; simp [h12]
        clear HV h12
        go_enter Try.func28, Try.ntmps28
        go_wp2_with fail
        rw [← HW1.out]
        clear HW1
        refine (HC1.out _ (Below.refl _ _)).mono ?_
        rintro e w2 ⟨rfl, hb2⟩
        have HB2 := Lib.hid hb2
        obtain ⟨f0, f1⟩ := HK.out w2 hb2
        have hz1 : w.heap.size < w2.heap.size := Nat.lt_of_lt_of_le hsz hb2.size
        have hz2 : b < w2.heap.size := Nat.lt_of_lt_of_le hbl1 hb2.size
        have hz3 : g < w2.heap.size := Nat.lt_of_lt_of_le hgl hb2.size
        have f2 : w2.cell? ⟨g, go + k * 3, none⟩ = some (.int .i64 xo) := (hb2.cell (p := ⟨g, go + k * 3, none⟩) hgl).trans e0
        clear hb2 e0 kb
        go_wp2_with fail
        go_quiet (fail)
        go_wp2_with fail
        go_ret
        exact ⟨by rw [HX.out]; rfl, HB0.out.trans ((HB2.out.trans ((below_drewN _ _).mono HB2.out.size)).mono HB0.out.size)⟩
      · have q12 := ne_beq h12
        by_cases h15 : xo = 15
        · have q : (xo == 15) = true := by simp [h15]
          have HX : Hid (r = true) := by show _ = _; rw [HV.out]; simp [h15]
          clear HV h15
          go_enter Try.func28, Try.ntmps28
          go_wp2_with fail
          rw [← HW1.out]
          clear HW1
          refine (HC1.out _ (Below.refl _ _)).mono ?_
          rintro e w2 ⟨rfl, hb2⟩
          have HB2 := Lib.hid hb2
          obtain ⟨f0, f1⟩ := HK.out w2 hb2
          have hz1 : w.heap.size < w2.heap.size := Nat.lt_of_lt_of_le hsz hb2.size
          have hz2 : b < w2.heap.size := Nat.lt_of_lt_of_le hbl1 hb2.size
          have hz3 : g < w2.heap.size := Nat.lt_of_lt_of_le hgl hb2.size
          have f2 : w2.cell? ⟨g, go + k * 3, none⟩ = some (.int .i64 xo) := (hb2.cell (p := ⟨g, go + k * 3, none⟩) hgl).trans e0
          clear hb2 e0 kb
          go_wp2_with fail
          go_quiet (fail)
          go_wp2_with fail
          go_ret
          exact ⟨by rw [HX.out]; rfl, HB0.out.trans ((HB2.out.trans ((below_drewN _ _).mono HB2.out.size)).mono HB0.out.size)⟩
        · have q15 := ne_beq h15
          by_cases h17 : xo = 17
          · have q : (xo == 17) = true := by simp [h17]
            have HX : Hid (r = true) := by show _ = _; rw [HV.out]; simp [h17]
            clear HV h17
            go_enter Try.func28, Try.ntmps28
            go_wp2_with fail
            rw [← HW1.out]
            clear HW1
            refine (HC1.out _ (Below.refl _ _)).mono ?_
            rintro e w2 ⟨rfl, hb2⟩
            have HB2 := Lib.hid hb2
            obtain ⟨f0, f1⟩ := HK.out w2 hb2
            have hz1 : w.heap.size < w2.heap.size := Nat.lt_of_lt_of_le hsz hb2.size
            have hz2 : b < w2.heap.size := Nat.lt_of_lt_of_le hbl1 hb2.size
            have hz3 : g < w2.heap.size := Nat.lt_of_lt_of_le hgl hb2.size
            have f2 : w2.cell? ⟨g, go + k * 3, none⟩ = some (.int .i64 xo) := (hb2.cell (p := ⟨g, go + k * 3, none⟩) hgl).trans e0
            clear hb2 e0 kb
            go_wp2_with fail
            go_quiet (fail)
            go_wp2_with fail
            go_ret
            exact ⟨by rw [HX.out]; rfl, HB0.out.trans ((HB2.out.trans ((below_drewN _ _).mono HB2.out.size)).mono HB0.out.size)⟩
          · have q17 := ne_beq h17
            have HX : Hid (r = false) := by show _ = _; rw [HV.out]; simp [h12, h15, h17]
            clear HV
            go_enter Try.func28, Try.ntmps28
            go_wp2_with fail
            rw [← HW1.out]
            clear HW1
            refine (HC1.out _ (Below.refl _ _)).mono ?_
            rintro e w2 ⟨rfl, hb2⟩
            have HB2 := Lib.hid hb2
            obtain ⟨f0, f1⟩ := HK.out w2 hb2
            have hz1 : w.heap.size < w2.heap.size := Nat.lt_of_lt_of_le hsz hb2.size
            have hz2 : b < w2.heap.size := Nat.lt_of_lt_of_le hbl1 hb2.size
            have hz3 : g < w2.heap.size := Nat.lt_of_lt_of_le hgl hb2.size
            have f2 : w2.cell? ⟨g, go + k * 3, none⟩ = some (.int .i64 xo) := (hb2.cell (p := ⟨g, go + k * 3, none⟩) hgl).trans e0
            clear hb2 e0 kb
            go_wp2_with fail
            go_quiet (fail)
            go_wp2_with fail
            go_ret
            exact ⟨by rw [HX.out]; rfl, HB0.out.trans ((HB2.out.trans ((below_drewN _ _).mono HB2.out.size)).mono HB0.out.size)⟩
end Go.Proofs.Ytljnddcddclmeaa
