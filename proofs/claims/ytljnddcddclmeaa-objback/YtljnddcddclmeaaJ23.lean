/- 6.1: what is used of others has another name. -/
import Derived.Test.YtljnddcddclmeaaJ22
namespace Go.Proofs.Ytljnddcddclmeaa
open Go.RowKit
open Ob (Bs)

theorem below_drewN (w : World) (q : Nat) : Below w.heap.size w (w.drewN q) := by
  refine ⟨?_, ?_, ?_, ?_, fun k _ => ?_⟩ <;> simp [World.drewN]
theorem cfOther (args : Array Value) (w : World) : (callFunc 47 args).run Try.prog w = .ok (.enter 47 args) w := by kernel_rfl
theorem bs_beq (a b : Bs) : ((bs a).toList == (bs b).toList) = decide (a = b) := by rw [bs_toList, bs_toList, Bool.eq_iff_iff]; simp
set_option maxRecDepth 100000 in
set_option maxHeartbeats 1000000 in
theorem other_r {w : World} (x : Ob.Us) (na : Option Addr) (nc : Nat) (nm : Bs) {cb b o : Nat} (hcb : w.cell? ⟨cb, 0, none⟩ = some (.pointer (some ⟨b, o, none⟩))) (hnm : w.cell? ⟨b, o, none⟩ = some (.string (bs nm))) (hS : Sl w (.slice na x.names.length nc) 1 x.names.length (cellsOf stC x.names)) (hx : x.name.length ≤ 1000000000) (hl : x.names.length ≤ 140737488355328) (hn : ∀ y ∈ x.names, y.length ≤ 1000000000) :
    Calls Try.prog 47 #[.agg #[.string (bs x.name), .string (bs x.need), .slice na x.names.length nc], .pointer (some ⟨cb, 0, none⟩)] w fun e w' => e = .returned (.bool (Ob.otherB nm x)) ∧ Below w.heap.size w w' := by
  have hcl := lt_of_cell hcb
  have hbl := lt_of_cell hnm
  obtain ⟨wm, hwm⟩ : ∃ wm, wm = w.alloc (.cells #[.string (bs x.name), .string (bs x.need), .slice na x.names.length nc] 61) := ⟨_, rfl⟩
  have hb0 : Below w.heap.size w wm := by rw [hwm]; exact (Below.refl _ _).alloc (Nat.le_refl _) _
  have hblk : wm.heap[w.heap.size]? = some (.cells #[.string (bs x.name), .string (bs x.need), .slice na x.names.length nc] 61 (0, 0)) := by rw [hwm]; exact new_blk _ _
  have hsz : w.heap.size < wm.heap.size := lt_blk hblk
  have k0 : wm.cell? ⟨w.heap.size, 0, none⟩ = some (.string (bs x.name)) := cell_blk hblk
  have k1 : wm.cell? ⟨w.heap.size, 1, none⟩ = some (.string (bs x.need)) := cell_blk hblk
  have k2 : wm.cell? ⟨w.heap.size, 2, none⟩ = some (.slice na x.names.length nc) := cell_blk hblk
  have kc : wm.cell? ⟨cb, 0, none⟩ = some (.pointer (some ⟨b, o, none⟩)) := (hb0.cell (p := ⟨cb, 0, none⟩) hcl).trans hcb
  have kn : wm.cell? ⟨b, o, none⟩ = some (.string (bs nm)) := (hb0.cell (p := ⟨b, o, none⟩) hbl).trans hnm
  have HB0 := Lib.hid hb0
  have hbq := bs_beq x.name nm
  by_cases he : x.name = nm
  · have heq : ((bs x.name).toList == (bs nm).toList) = true := by rw [hbq]; exact decide_eq_true he
    have HR : Hid (Ob.otherB nm x = false) := by show _ = _; unfold Ob.otherB; simp [he]
    generalize Ob.otherB nm x = r at *
    clear hbq he hb0 hblk hcb hnm hS hn
    go_enter Try.func47, Try.ntmps47
    go_wp2_with fail
    rw [← hwm]
    clear hwm
    go_quiet (fail)
    go_wp2_with fail
    go_ret
    exact ⟨by rw [HR.out]; rfl, HB0.out.trans ((below_drewN _ _).mono HB0.out.size)⟩
  · have heq : ((bs x.name).toList == (bs nm).toList) = false := by rw [hbq]; exact decide_eq_false he
    have HR : Hid (Ob.otherB nm x = Ob.useB x) := by show _ = _; unfold Ob.otherB; simp [he]
    have HC : Hid (∀ W, Below w.heap.size w W → Calls Try.prog 48 #[.agg #[.string (bs x.name), .string (bs x.need), .slice na x.names.length nc]] W fun e w' => e = .returned (.bool (Ob.useB x)) ∧ Below W.heap.size W w') := fun W hW => use_r x na nc (hS.below hW) hx hl hn
    generalize Ob.otherB nm x = r at *
    generalize Ob.useB x = d at *
    clear hbq he hb0 hblk hcb hnm hS hn
    have HK : Hid (∀ W, Below wm.heap.size wm W → W.cell? ⟨w.heap.size, 0, none⟩ = some (.string (bs x.name)) ∧ W.cell? ⟨w.heap.size, 1, none⟩ = some (.string (bs x.need)) ∧ W.cell? ⟨w.heap.size, 2, none⟩ = some (.slice na x.names.length nc) ∧ W.cell? ⟨cb, 0, none⟩ = some (.pointer (some ⟨b, o, none⟩)) ∧ W.cell? ⟨b, o, none⟩ = some (.string (bs nm))) :=
      fun W hW => ⟨(hW.cell (p := ⟨w.heap.size, 0, none⟩) hsz).trans k0, (hW.cell (p := ⟨w.heap.size, 1, none⟩) hsz).trans k1, (hW.cell (p := ⟨w.heap.size, 2, none⟩) hsz).trans k2, (hW.cell (p := ⟨cb, 0, none⟩) (lt_of_cell kc)).trans kc, (hW.cell (p := ⟨b, o, none⟩) (lt_of_cell kn)).trans kn⟩
    have HK1 := Lib.hid (HK.out _ (below_drew wm))
    go_enter Try.func47, Try.ntmps47
    go_wp2_with fail
    rw [← hwm]
    clear hwm
    go_region_held3 (fun w' => w'.cell? ⟨w.heap.size, 0, none⟩ = some (.string (bs x.name)) ∧ w'.cell? ⟨w.heap.size, 1, none⟩ = some (.string (bs x.need)) ∧ w'.cell? ⟨w.heap.size, 2, none⟩ = some (.slice na x.names.length nc) ∧ w'.cell? ⟨cb, 0, none⟩ = some (.pointer (some ⟨b, o, none⟩)) ∧ w'.cell? ⟨b, o, none⟩ = some (.string (bs nm))) (with_reducible (first | exact HK2.out | exact HK1.out)) (first | (go_at_call 48; refine (HC.out _ (HB0.out.trans ((below_drew wm).mono HB0.out.size))).mono ?_; rintro e w2 ⟨rfl, hb2⟩; have HB2 : Hid (Below wm.heap.size wm w2) := (below_drew wm).trans hb2; have HK2 := Lib.hid (HK.out _ HB2.out); clear hb2))
    go_wp2_with fail
    go_ret
    exact ⟨by rw [HR.out]; rfl, HB0.out.trans (HB2.out.mono HB0.out.size)⟩
end Go.Proofs.Ytljnddcddclmeaa
