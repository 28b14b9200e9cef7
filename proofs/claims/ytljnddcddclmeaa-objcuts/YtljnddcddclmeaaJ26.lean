/- 6.1: procedures, and their names. -/
import Derived.Test.YtljnddcddclmeaaJ25
namespace Go.Proofs.Ytljnddcddclmeaa
open Go.RowKit
open Ob (Bs)

/- an operation that yields is taken first: told by where it yields -/
theorem takeD {P : Program} {ops : Array Oper} {Q : Exit → Act → World → Prop} {md : Region.Mode} {S : World → Prop} {i : Nat} {d : Option Tmp} {v : Value} {fuel : Nat} {listed : Array Bool} {a : Act} {w : World} (hd : (ops[i]?).map (fun o => o.dst) = some d)
    (hs : Region.noSelect ops = true) (hf : Region.free md ops listed i = true) (hr : (Region.ready md ops listed).contains i = true)
    (hQ : ∀ c a w, Q (.panic c) (a.put d v) w → Q (.panic c) a w) (hy : ∀ oi, ops[i]? = some oi → YieldsIf P ops S oi v a) (hS : S w)
    (h : wpAnyH P md ops Q S fuel (listed.setIfInBounds i true) (a.put d v) w) : wpAnyH P md ops Q S (fuel + 1) listed a w := by
  rcases ho : ops[i]? with _ | oi
  · rw [ho] at hd; cases hd
  · rw [ho] at hd
    cases hd
    exact wpAnyH_take ho hs hf hr hQ (hy oi ho) hS h
set_option maxRecDepth 100000 in
set_option maxHeartbeats 16000000 in
theorem procs_r {w : World} {b o : Nat} {O : Ob.O} {sa ua va pa na ca : Option Addr} {sc uc vc pc nc cc : Nat} (hV : OV w b o O sa ua va pa na ca sc uc vc pc nc cc) (hB : Bd O) :
    Calls Try.prog 27 #[.pointer (some ⟨b, o, none⟩)] w fun e w' => e = .returned (.bool (Ob.procsB O)) ∧ Below w.heap.size w w' := by
  have hmf : ∀ (fn : Fn) (first cap : Array Value) (w : World), (Instr.makeFunc fn first cap).run Try.prog w = .ok (.func fn first cap) w := fun _ _ _ _ => rfl
  have hbl := lt_of_cell hV.c0
  obtain ⟨w1, hw1⟩ : ∃ w1, w1 = w.alloc (.cells #[.pointer (some ⟨b, o, none⟩)] 22) := ⟨_, rfl⟩
  have hb0 : Below w.heap.size w w1 := by rw [hw1]; exact (Below.refl _ _).alloc (Nat.le_refl _) _
  have hblk : w1.heap[w.heap.size]? = some (.cells #[.pointer (some ⟨b, o, none⟩)] 22 (0, 0)) := by rw [hw1]; exact new_blk _ _
  have hsz : w.heap.size < w1.heap.size := lt_blk hblk
  have kb : w1.cell? ⟨w.heap.size, 0, none⟩ = some (.pointer (some ⟨b, o, none⟩)) := cell_blk hblk
  have hV1 := hV.below hb0
  have HB0 := Lib.hid hb0
  have HW1 := Lib.hid hw1
  clear hw1
  have HK : Hid (∀ W, Below w1.heap.size w1 W → W.cell? ⟨w.heap.size, 0, none⟩ = some (.pointer (some ⟨b, o, none⟩)) ∧ W.cell? ⟨b, o + 4, none⟩ = some (.slice pa O.procs.length pc) ∧ W.cell? ⟨b, o + 5, none⟩ = some (.slice na O.names.length nc)) :=
    fun W hW => ⟨(hW.cell (p := ⟨w.heap.size, 0, none⟩) hsz).trans kb, (hV1.below hW).c4, (hV1.below hW).c5⟩
  have hbl1 : b < w1.heap.size := Nat.lt_of_lt_of_le hbl hb0.size
  have HC1 : Hid (∀ W, Below w1.heap.size w1 W → Calls Try.prog 57 #[.slice pa O.procs.length pc, .int .i64 10, .func (.func 55) #[] #[.pointer (some ⟨w.heap.size, 0, none⟩)]] W fun e w' => e = .returned (.bool (Ob.allB (Ob.entB O.code.length) 10 O.procs)) ∧ Below W.heap.size W w') :=
    fun W hW => allEn (hV1.below hW).p (by have := hB.pl; omega) 10 (by omega) cfEnt (fun W' y hy hW' => ent_r y ((hW'.cell (p := ⟨w.heap.size, 0, none⟩) (show w.heap.size < W.heap.size by have := hW.size; omega)).trans ((hW.cell (p := ⟨w.heap.size, 0, none⟩) hsz).trans kb)) ((hV1.below hW).below hW').c6)
  have HC2 : Hid (∀ W, Below w1.heap.size w1 W → Calls Try.prog 58 #[.slice na O.names.length nc, .int .i64 10, .func (.func 49) #[] #[]] W fun e w' => e = .returned (.bool (Ob.allB Ob.nameB 10 O.names)) ∧ Below W.heap.size W w') :=
    fun W hW => allStr (hV1.below hW).n (by have := hB.nl; omega) 10 (by omega) cfName (fun W' y hy _ => (name_any W' y (hB.n y hy)).mono (fun e w' h => ⟨h.1, by rw [h.2]; exact Below.refl _ _⟩))
  have HR : Hid (Ob.procsB O = (Ob.allB (Ob.entB O.code.length) 10 O.procs && (decide (O.names.length = O.procs.length) && Ob.allB Ob.nameB 10 O.names))) := rfl
  generalize Ob.procsB O = r at *
  generalize Ob.allB (Ob.entB O.code.length) 10 O.procs = b1 at *
  generalize Ob.allB Ob.nameB 10 O.names = b2 at *
  have HK1 := Lib.hid (HK.out _ (below_drew w1))
  have hc0 := hV.c0
  clear hB hV1 hblk hb0 hV
  cases b1 with
  | false =>
    have HV : Hid (r = false) := by
      show _ = _
      rw [HR.out]
      simp [*]
    clear HR
    go_enter Try.func27, Try.ntmps27
    go_wp2_with fail
    rw [← HW1.out]
    clear HW1
    refine wp_region_held_drew (S := (fun w' => w'.cell? ⟨w.heap.size, 0, none⟩ = some (.pointer (some ⟨b, o, none⟩)) ∧ w'.cell? ⟨b, o + 4, none⟩ = some (.slice pa O.procs.length pc) ∧ w'.cell? ⟨b, o + 5, none⟩ = some (.slice na O.names.length nc))) (by kernel_rfl) HK1.out (fun hHeld => ?_)
    refine takeD (i := 0) (d := some 5) (v := (.pointer (some ⟨b, o, none⟩))) (by kernel_rfl) (by kernel_rfl) (by kernel_rfl) (by kernel_rfl) (fun _ _ _ h => h) (fun oi ho => by cases ho; exact Or.inl ⟨by kernel_rfl, fun W hW => by go_simp⟩) hHeld ?_
    go_frame
    refine takeD (i := 1) (d := some 6) (v := (.pointer (some ⟨b, o, none⟩))) (by kernel_rfl) (by kernel_rfl) (by kernel_rfl) (by kernel_rfl) (fun _ _ _ h => h) (fun oi ho => by cases ho; exact Or.inl ⟨by kernel_rfl, fun W hW => by go_simp⟩) hHeld ?_
    go_frame
    refine takeD (i := 2) (d := some 7) (v := .pointer (some ⟨b, o + 4, none⟩)) (by kernel_rfl) (by kernel_rfl) (by kernel_rfl) (by kernel_rfl) (fun _ _ _ h => h) (fun oi ho => by cases ho; exact Or.inl ⟨by kernel_rfl, fun W hW => by go_simp⟩) hHeld ?_
    go_frame
    refine takeD (i := 3) (d := some 8) (v := .slice pa O.procs.length pc) (by kernel_rfl) (by kernel_rfl) (by kernel_rfl) (by kernel_rfl) (fun _ _ _ h => h) (fun oi ho => by cases ho; exact Or.inl ⟨by kernel_rfl, fun W hW => by go_simp⟩) hHeld ?_
    go_frame
    refine takeD (i := 4) (d := some 9) (v := .func (.func 55) #[] #[.pointer (some ⟨w.heap.size, 0, none⟩)]) (by kernel_rfl) (by kernel_rfl) (by kernel_rfl) (by kernel_rfl) (fun _ _ _ h => h) (fun oi ho => by cases ho; exact Or.inl ⟨by kernel_rfl, fun W hW => by go_simp⟩) hHeld ?_
    go_frame
    refine wpAnyH_ready (rs := [5]) (by kernel_rfl) (by simp) ?_
    refine AllReadyH.cons rfl (fun K hK => ?_) AllReadyH.nil
    go_simp
    refine (HC1.out _ (below_drew w1)).mono ?_
    rintro e w2 ⟨rfl, hb2⟩
    have HB2 : Hid (Below w1.heap.size w1 w2) := (below_drew w1).trans hb2
    have HK2 := Lib.hid (HK.out _ HB2.out)
    clear hb2
    go_frame
    refine hK.out _ _ HK2.out (fun hHeld => ?_)
    clear hK
    refine takeD (i := 6) (d := some 11) (v := .bool false) (by kernel_rfl) (by kernel_rfl) (by kernel_rfl) (by kernel_rfl) (fun _ _ _ h => h) (fun oi ho => by cases ho; exact Or.inl ⟨by kernel_rfl, fun W hW => by go_simp⟩) hHeld ?_
    go_frame
    refine takeD (i := 7) (d := some 12) (v := undef) (by kernel_rfl) (by kernel_rfl) (by kernel_rfl) (by kernel_rfl) (fun _ _ _ h => h) (fun oi ho => by cases ho; exact Or.inr ⟨by kernel_rfl, rfl⟩) hHeld ?_
    go_frame
    refine takeD (i := 8) (d := some 13) (v := undef) (by kernel_rfl) (by kernel_rfl) (by kernel_rfl) (by kernel_rfl) (fun _ _ _ h => h) (fun oi ho => by cases ho; exact Or.inr ⟨by kernel_rfl, rfl⟩) hHeld ?_
    go_frame
    refine takeD (i := 9) (d := some 14) (v := undef) (by kernel_rfl) (by kernel_rfl) (by kernel_rfl) (by kernel_rfl) (fun _ _ _ h => h) (fun oi ho => by cases ho; exact Or.inr ⟨by kernel_rfl, rfl⟩) hHeld ?_
    go_frame
    refine takeD (i := 10) (d := some 15) (v := undef) (by kernel_rfl) (by kernel_rfl) (by kernel_rfl) (by kernel_rfl) (fun _ _ _ h => h) (fun oi ho => by cases ho; exact Or.inr ⟨by kernel_rfl, rfl⟩) hHeld ?_
    go_frame
    refine takeD (i := 11) (d := some 16) (v := undef) (by kernel_rfl) (by kernel_rfl) (by kernel_rfl) (by kernel_rfl) (fun _ _ _ h => h) (fun oi ho => by cases ho; exact Or.inr ⟨by kernel_rfl, rfl⟩) hHeld ?_
    go_frame
    refine takeD (i := 12) (d := some 17) (v := undef) (by kernel_rfl) (by kernel_rfl) (by kernel_rfl) (by kernel_rfl) (fun _ _ _ h => h) (fun oi ho => by cases ho; exact Or.inr ⟨by kernel_rfl, rfl⟩) hHeld ?_
    go_frame
    refine takeD (i := 13) (d := some 18) (v := undef) (by kernel_rfl) (by kernel_rfl) (by kernel_rfl) (by kernel_rfl) (fun _ _ _ h => h) (fun oi ho => by cases ho; exact Or.inr ⟨by kernel_rfl, rfl⟩) hHeld ?_
    go_frame
    refine takeD (i := 14) (d := some 19) (v := undef) (by kernel_rfl) (by kernel_rfl) (by kernel_rfl) (by kernel_rfl) (fun _ _ _ h => h) (fun oi ho => by cases ho; exact Or.inr ⟨by kernel_rfl, rfl⟩) hHeld ?_
    go_frame
    refine takeD (i := 15) (d := some 20) (v := undef) (by kernel_rfl) (by kernel_rfl) (by kernel_rfl) (by kernel_rfl) (fun _ _ _ h => h) (fun oi ho => by cases ho; exact Or.inr ⟨by kernel_rfl, rfl⟩) hHeld ?_
    go_frame
    refine takeD (i := 16) (d := some 21) (v := undef) (by kernel_rfl) (by kernel_rfl) (by kernel_rfl) (by kernel_rfl) (fun _ _ _ h => h) (fun oi ho => by cases ho; exact Or.inr ⟨by kernel_rfl, rfl⟩) hHeld ?_
    go_frame
    refine takeD (i := 17) (d := some 22) (v := undef) (by kernel_rfl) (by kernel_rfl) (by kernel_rfl) (by kernel_rfl) (fun _ _ _ h => h) (fun oi ho => by cases ho; exact Or.inr ⟨by kernel_rfl, rfl⟩) hHeld ?_
    go_frame
    refine takeD (i := 18) (d := some 23) (v := .bool false) (by kernel_rfl) (by kernel_rfl) (by kernel_rfl) (by kernel_rfl) (fun _ _ _ h => h) (fun oi ho => by cases ho; exact Or.inl ⟨by kernel_rfl, fun W hW => by go_simp⟩) hHeld ?_
    go_frame
    refine takeD (i := 19) (d := some 24) (v := .bool false) (by kernel_rfl) (by kernel_rfl) (by kernel_rfl) (by kernel_rfl) (fun _ _ _ h => h) (fun oi ho => by cases ho; exact Or.inl ⟨by kernel_rfl, fun W hW => by go_simp⟩) hHeld ?_
    go_frame
    refine takeD (i := 20) (d := some 25) (v := undef) (by kernel_rfl) (by kernel_rfl) (by kernel_rfl) (by kernel_rfl) (fun _ _ _ h => h) (fun oi ho => by cases ho; exact Or.inr ⟨by kernel_rfl, rfl⟩) hHeld ?_
    go_frame
    refine takeD (i := 21) (d := some 26) (v := undef) (by kernel_rfl) (by kernel_rfl) (by kernel_rfl) (by kernel_rfl) (fun _ _ _ h => h) (fun oi ho => by cases ho; exact Or.inr ⟨by kernel_rfl, rfl⟩) hHeld ?_
    go_frame
    refine takeD (i := 22) (d := some 27) (v := undef) (by kernel_rfl) (by kernel_rfl) (by kernel_rfl) (by kernel_rfl) (fun _ _ _ h => h) (fun oi ho => by cases ho; exact Or.inr ⟨by kernel_rfl, rfl⟩) hHeld ?_
    go_frame
    refine takeD (i := 23) (d := some 28) (v := undef) (by kernel_rfl) (by kernel_rfl) (by kernel_rfl) (by kernel_rfl) (fun _ _ _ h => h) (fun oi ho => by cases ho; exact Or.inr ⟨by kernel_rfl, rfl⟩) hHeld ?_
    go_frame
    refine takeD (i := 24) (d := some 29) (v := undef) (by kernel_rfl) (by kernel_rfl) (by kernel_rfl) (by kernel_rfl) (fun _ _ _ h => h) (fun oi ho => by cases ho; exact Or.inr ⟨by kernel_rfl, rfl⟩) hHeld ?_
    go_frame
    refine takeD (i := 25) (d := some 30) (v := .bool false) (by kernel_rfl) (by kernel_rfl) (by kernel_rfl) (by kernel_rfl) (fun _ _ _ h => h) (fun oi ho => by cases ho; exact Or.inl ⟨by kernel_rfl, fun W hW => by go_simp⟩) hHeld ?_
    go_frame
    refine takeD (i := 26) (d := some 2) (v := .bool false) (by kernel_rfl) (by kernel_rfl) (by kernel_rfl) (by kernel_rfl) (fun _ _ _ h => h) (fun oi ho => by cases ho; exact Or.inl ⟨by kernel_rfl, fun W hW => by go_simp⟩) hHeld ?_
    go_frame
    refine wpAnyH_done (by kernel_rfl) ?_ _
    clear hHeld
    go_wp2_with fail
    go_ret
    exact ⟨by rw [HV.out]; rfl, HB0.out.trans (HB2.out.mono HB0.out.size)⟩
  | true =>
    by_cases hl : O.names.length = O.procs.length
    · have he : ((O.names.length : Int) == (O.procs.length : Int)) = true := by simp [hl]
      have HL := Lib.hid hl
      cases b2 with
      | false =>
        have HV : Hid (r = false) := by
          show _ = _
          rw [HR.out]
          simp [*]
        clear HR hl
        go_enter Try.func27, Try.ntmps27
        go_wp2_with fail
        rw [← HW1.out]
        clear HW1
        go_region_held3 (fun w' => w'.cell? ⟨w.heap.size, 0, none⟩ = some (.pointer (some ⟨b, o, none⟩)) ∧ w'.cell? ⟨b, o + 4, none⟩ = some (.slice pa O.procs.length pc) ∧ w'.cell? ⟨b, o + 5, none⟩ = some (.slice na O.names.length nc)) (with_reducible (first | exact HK3.out | exact HK2.out | exact HK1.out)) (first | (go_at_call 57; refine (HC1.out _ (below_drew w1)).mono ?_; rintro e w2 ⟨rfl, hb2⟩; have HB2 : Hid (Below w1.heap.size w1 w2) := (below_drew w1).trans hb2; have HK2 := Lib.hid (HK.out _ HB2.out); clear hb2) | (go_at_call 58; refine (HC2.out _ HB2.out).mono ?_; rintro e w3 ⟨rfl, hb3⟩; have HB3 : Hid (Below w1.heap.size w1 w3) := HB2.out.trans (hb3.mono HB2.out.size); have HK3 := Lib.hid (HK.out _ HB3.out); clear hb3))
        go_wp2_with fail
        go_ret
        exact ⟨by rw [HV.out]; rfl, HB0.out.trans (HB3.out.mono HB0.out.size)⟩
      | true =>
        have HV : Hid (r = true) := by
          show _ = _
          rw [HR.out]
          simp [*]
        clear HR hl
        go_enter Try.func27, Try.ntmps27
        go_wp2_with fail
        rw [← HW1.out]
        clear HW1
        go_region_held3 (fun w' => w'.cell? ⟨w.heap.size, 0, none⟩ = some (.pointer (some ⟨b, o, none⟩)) ∧ w'.cell? ⟨b, o + 4, none⟩ = some (.slice pa O.procs.length pc) ∧ w'.cell? ⟨b, o + 5, none⟩ = some (.slice na O.names.length nc)) (with_reducible (first | exact HK3.out | exact HK2.out | exact HK1.out)) (first | (go_at_call 57; refine (HC1.out _ (below_drew w1)).mono ?_; rintro e w2 ⟨rfl, hb2⟩; have HB2 : Hid (Below w1.heap.size w1 w2) := (below_drew w1).trans hb2; have HK2 := Lib.hid (HK.out _ HB2.out); clear hb2) | (go_at_call 58; refine (HC2.out _ HB2.out).mono ?_; rintro e w3 ⟨rfl, hb3⟩; have HB3 : Hid (Below w1.heap.size w1 w3) := HB2.out.trans (hb3.mono HB2.out.size); have HK3 := Lib.hid (HK.out _ HB3.out); clear hb3))
        go_wp2_with fail
        go_ret
        exact ⟨by rw [HV.out]; rfl, HB0.out.trans (HB3.out.mono HB0.out.size)⟩
    · have he : ((O.names.length : Int) == (O.procs.length : Int)) = false := by simp; omega
      have HV : Hid (r = false) := by
        show _ = _
        rw [HR.out]
        simp [*]
      clear HR
      go_enter Try.func27, Try.ntmps27
      go_wp2_with fail
      rw [← HW1.out]
      clear HW1
      refine wp_region_held_drew (S := (fun w' => w'.cell? ⟨w.heap.size, 0, none⟩ = some (.pointer (some ⟨b, o, none⟩)) ∧ w'.cell? ⟨b, o + 4, none⟩ = some (.slice pa O.procs.length pc) ∧ w'.cell? ⟨b, o + 5, none⟩ = some (.slice na O.names.length nc))) (by kernel_rfl) HK1.out (fun hHeld => ?_)
      refine takeD (i := 0) (d := some 5) (v := (.pointer (some ⟨b, o, none⟩))) (by kernel_rfl) (by kernel_rfl) (by kernel_rfl) (by kernel_rfl) (fun _ _ _ h => h) (fun oi ho => by cases ho; exact Or.inl ⟨by kernel_rfl, fun W hW => by go_simp⟩) hHeld ?_
      go_frame
      refine takeD (i := 1) (d := some 6) (v := (.pointer (some ⟨b, o, none⟩))) (by kernel_rfl) (by kernel_rfl) (by kernel_rfl) (by kernel_rfl) (fun _ _ _ h => h) (fun oi ho => by cases ho; exact Or.inl ⟨by kernel_rfl, fun W hW => by go_simp⟩) hHeld ?_
      go_frame
      refine takeD (i := 2) (d := some 7) (v := .pointer (some ⟨b, o + 4, none⟩)) (by kernel_rfl) (by kernel_rfl) (by kernel_rfl) (by kernel_rfl) (fun _ _ _ h => h) (fun oi ho => by cases ho; exact Or.inl ⟨by kernel_rfl, fun W hW => by go_simp⟩) hHeld ?_
      go_frame
      refine takeD (i := 3) (d := some 8) (v := .slice pa O.procs.length pc) (by kernel_rfl) (by kernel_rfl) (by kernel_rfl) (by kernel_rfl) (fun _ _ _ h => h) (fun oi ho => by cases ho; exact Or.inl ⟨by kernel_rfl, fun W hW => by go_simp⟩) hHeld ?_
      go_frame
      refine takeD (i := 4) (d := some 9) (v := .func (.func 55) #[] #[.pointer (some ⟨w.heap.size, 0, none⟩)]) (by kernel_rfl) (by kernel_rfl) (by kernel_rfl) (by kernel_rfl) (fun _ _ _ h => h) (fun oi ho => by cases ho; exact Or.inl ⟨by kernel_rfl, fun W hW => by go_simp⟩) hHeld ?_
      go_frame
      refine wpAnyH_ready (rs := [5]) (by kernel_rfl) (by simp) ?_
      refine AllReadyH.cons rfl (fun K hK => ?_) AllReadyH.nil
      go_simp
      refine (HC1.out _ (below_drew w1)).mono ?_
      rintro e w2 ⟨rfl, hb2⟩
      have HB2 : Hid (Below w1.heap.size w1 w2) := (below_drew w1).trans hb2
      have HK2 := Lib.hid (HK.out _ HB2.out)
      clear hb2
      go_frame
      refine hK.out _ _ HK2.out (fun hHeld => ?_)
      clear hK
      refine takeD (i := 6) (d := some 11) (v := .bool true) (by kernel_rfl) (by kernel_rfl) (by kernel_rfl) (by kernel_rfl) (fun _ _ _ h => h) (fun oi ho => by cases ho; exact Or.inl ⟨by kernel_rfl, fun W hW => by go_simp⟩) hHeld ?_
      go_frame
      refine takeD (i := 7) (d := some 12) (v := (.pointer (some ⟨b, o, none⟩))) (by kernel_rfl) (by kernel_rfl) (by kernel_rfl) (by kernel_rfl) (fun _ _ _ h => h) (fun oi ho => by cases ho; exact Or.inl ⟨by kernel_rfl, fun W hW => by go_simp⟩) hHeld ?_
      go_frame
      refine takeD (i := 8) (d := some 13) (v := (.pointer (some ⟨b, o, none⟩))) (by kernel_rfl) (by kernel_rfl) (by kernel_rfl) (by kernel_rfl) (fun _ _ _ h => h) (fun oi ho => by cases ho; exact Or.inl ⟨by kernel_rfl, fun W hW => by go_simp⟩) hHeld ?_
      go_frame
      refine takeD (i := 9) (d := some 14) (v := .pointer (some ⟨b, o + 5, none⟩)) (by kernel_rfl) (by kernel_rfl) (by kernel_rfl) (by kernel_rfl) (fun _ _ _ h => h) (fun oi ho => by cases ho; exact Or.inl ⟨by kernel_rfl, fun W hW => by go_simp⟩) hHeld ?_
      go_frame
      refine takeD (i := 10) (d := some 15) (v := .slice na O.names.length nc) (by kernel_rfl) (by kernel_rfl) (by kernel_rfl) (by kernel_rfl) (fun _ _ _ h => h) (fun oi ho => by cases ho; exact Or.inl ⟨by kernel_rfl, fun W hW => by go_simp⟩) hHeld ?_
      go_frame
      refine takeD (i := 11) (d := some 16) (v := .int .i64 (O.names.length : Int)) (by kernel_rfl) (by kernel_rfl) (by kernel_rfl) (by kernel_rfl) (fun _ _ _ h => h) (fun oi ho => by cases ho; exact Or.inl ⟨by kernel_rfl, fun W hW => by go_simp⟩) hHeld ?_
      go_frame
      refine takeD (i := 12) (d := some 17) (v := (.pointer (some ⟨b, o, none⟩))) (by kernel_rfl) (by kernel_rfl) (by kernel_rfl) (by kernel_rfl) (fun _ _ _ h => h) (fun oi ho => by cases ho; exact Or.inl ⟨by kernel_rfl, fun W hW => by go_simp⟩) hHeld ?_
      go_frame
      refine takeD (i := 13) (d := some 18) (v := (.pointer (some ⟨b, o, none⟩))) (by kernel_rfl) (by kernel_rfl) (by kernel_rfl) (by kernel_rfl) (fun _ _ _ h => h) (fun oi ho => by cases ho; exact Or.inl ⟨by kernel_rfl, fun W hW => by go_simp⟩) hHeld ?_
      go_frame
      refine takeD (i := 14) (d := some 19) (v := .pointer (some ⟨b, o + 4, none⟩)) (by kernel_rfl) (by kernel_rfl) (by kernel_rfl) (by kernel_rfl) (fun _ _ _ h => h) (fun oi ho => by cases ho; exact Or.inl ⟨by kernel_rfl, fun W hW => by go_simp⟩) hHeld ?_
      go_frame
      refine takeD (i := 15) (d := some 20) (v := .slice pa O.procs.length pc) (by kernel_rfl) (by kernel_rfl) (by kernel_rfl) (by kernel_rfl) (fun _ _ _ h => h) (fun oi ho => by cases ho; exact Or.inl ⟨by kernel_rfl, fun W hW => by go_simp⟩) hHeld ?_
      go_frame
      refine takeD (i := 16) (d := some 21) (v := .int .i64 (O.procs.length : Int)) (by kernel_rfl) (by kernel_rfl) (by kernel_rfl) (by kernel_rfl) (fun _ _ _ h => h) (fun oi ho => by cases ho; exact Or.inl ⟨by kernel_rfl, fun W hW => by go_simp⟩) hHeld ?_
      go_frame
      refine takeD (i := 17) (d := some 22) (v := .bool false) (by kernel_rfl) (by kernel_rfl) (by kernel_rfl) (by kernel_rfl) (fun _ _ _ h => h) (fun oi ho => by cases ho; exact Or.inl ⟨by kernel_rfl, fun W hW => by go_simp⟩) hHeld ?_
      go_frame
      refine takeD (i := 18) (d := some 23) (v := .bool false) (by kernel_rfl) (by kernel_rfl) (by kernel_rfl) (by kernel_rfl) (fun _ _ _ h => h) (fun oi ho => by cases ho; exact Or.inl ⟨by kernel_rfl, fun W hW => by go_simp⟩) hHeld ?_
      go_frame
      refine takeD (i := 19) (d := some 24) (v := .bool false) (by kernel_rfl) (by kernel_rfl) (by kernel_rfl) (by kernel_rfl) (fun _ _ _ h => h) (fun oi ho => by cases ho; exact Or.inl ⟨by kernel_rfl, fun W hW => by go_simp⟩) hHeld ?_
      go_frame
      refine takeD (i := 20) (d := some 25) (v := undef) (by kernel_rfl) (by kernel_rfl) (by kernel_rfl) (by kernel_rfl) (fun _ _ _ h => h) (fun oi ho => by cases ho; exact Or.inr ⟨by kernel_rfl, rfl⟩) hHeld ?_
      go_frame
      refine takeD (i := 21) (d := some 26) (v := undef) (by kernel_rfl) (by kernel_rfl) (by kernel_rfl) (by kernel_rfl) (fun _ _ _ h => h) (fun oi ho => by cases ho; exact Or.inr ⟨by kernel_rfl, rfl⟩) hHeld ?_
      go_frame
      refine takeD (i := 22) (d := some 27) (v := undef) (by kernel_rfl) (by kernel_rfl) (by kernel_rfl) (by kernel_rfl) (fun _ _ _ h => h) (fun oi ho => by cases ho; exact Or.inr ⟨by kernel_rfl, rfl⟩) hHeld ?_
      go_frame
      refine takeD (i := 23) (d := some 28) (v := undef) (by kernel_rfl) (by kernel_rfl) (by kernel_rfl) (by kernel_rfl) (fun _ _ _ h => h) (fun oi ho => by cases ho; exact Or.inr ⟨by kernel_rfl, rfl⟩) hHeld ?_
      go_frame
      refine takeD (i := 24) (d := some 29) (v := undef) (by kernel_rfl) (by kernel_rfl) (by kernel_rfl) (by kernel_rfl) (fun _ _ _ h => h) (fun oi ho => by cases ho; exact Or.inr ⟨by kernel_rfl, rfl⟩) hHeld ?_
      go_frame
      refine takeD (i := 25) (d := some 30) (v := .bool false) (by kernel_rfl) (by kernel_rfl) (by kernel_rfl) (by kernel_rfl) (fun _ _ _ h => h) (fun oi ho => by cases ho; exact Or.inl ⟨by kernel_rfl, fun W hW => by go_simp⟩) hHeld ?_
      go_frame
      refine takeD (i := 26) (d := some 2) (v := .bool false) (by kernel_rfl) (by kernel_rfl) (by kernel_rfl) (by kernel_rfl) (fun _ _ _ h => h) (fun oi ho => by cases ho; exact Or.inl ⟨by kernel_rfl, fun W hW => by go_simp⟩) hHeld ?_
      go_frame
      refine wpAnyH_done (by kernel_rfl) ?_ _
      clear hHeld
      go_wp2_with fail
      go_ret
      exact ⟨by rw [HV.out]; rfl, HB0.out.trans (HB2.out.mono HB0.out.size)⟩
end Go.Proofs.Ytljnddcddclmeaa
