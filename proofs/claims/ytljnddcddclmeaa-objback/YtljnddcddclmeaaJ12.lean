/- read: an object, or an error. -/
import Derived.Test.YtljnddcddclmeaaJ11
import Derived.Defers
import Derived.Recover
namespace Go.Proofs.Ytljnddcddclmeaa
open Go.RowKit
open Ob (Bs)

abbrev efv : Value := .iface 64 (.int .i64 3)
set_option maxRecDepth 100000 in
set_option maxHeartbeats 400000 in
theorem caught_at (w : World) :
    Calls Try.prog 40 #[.iface 64 (.int .i64 3)] w fun e w' => e = .returned (.iface 64 (.int .i64 3)) ∧ w' = w := by
  have hta : ∀ (w : World), (Instr.typeAssert (.iface 64 (.int .i64 3)) 20 64 true).run Try.prog w = .ok (.tuple #[.int .i64 3, .bool true]) w := fun w => by kernel_rfl
  go_enter Try.func40, Try.ntmps40
  go_wp2
  go_ret
  exact ⟨rfl, rfl⟩
set_option maxRecDepth 100000 in
set_option maxHeartbeats 800000 in
theorem late_panicking (mb eb : Nat) (older : List PanicEntry) (w : World) (c0 : (w.cell? ⟨mb, 0, none⟩).isSome = true) (z0 : w.frozen? ⟨mb, 0, none⟩ = false) (ce : (w.cell? ⟨eb, 0, none⟩).isSome = true) (ze : w.frozen? ⟨eb, 0, none⟩ = false) (hne : mb ≠ eb) :
    CallsD Try.prog 39 #[.pointer (some ⟨mb, 0, none⟩), .pointer (some ⟨eb, 0, none⟩)] (.panicking ({ v := .iface 64 (.int .i64 3), recovered := false } :: older)) w fun e u' w' =>
      e = .returned (.tuple #[]) ∧ u' = .panicking ({ v := .iface 64 (.int .i64 3), recovered := true } :: older) ∧ w' = (w.setCell ⟨mb, 0, none⟩ (.pointer none)).setCell ⟨eb, 0, none⟩ (.iface 64 (.int .i64 3)) := by
  refine callsD_of_wpS Try.func39 rfl fun c₀ cs hu => ?_
  apply wpS_seq
  apply wpS_region
  simp [wpOpsS, go_sem, recoverD, hu, Try.ntmps39, Exit.thenS]
  refine wpS_of_wp ?_
  rw [Option.isSome_iff_exists] at c0 ce
  obtain ⟨x0, k0⟩ := c0
  obtain ⟨xe, ke⟩ := ce
  have hne' : eb ≠ mb := fun e => hne e.symm
  generalize hQ : (fun (e : Exit) (a' : Act) (w' : World) => bodyPostS Try.prog _ _ _ _ e a' _ w') = Q
  show Code.wp Try.prog _ _ { tmps := #[.pointer (some ⟨mb, 0, none⟩), .pointer (some ⟨eb, 0, none⟩), .iface 64 (.int .i64 3), .iface 64 (.int .i64 3), undef, undef, undef, undef], defers := [] } w
  go_wp2_with fail
  refine (caught_at w).mono ?_
  rintro e w' ⟨rfl, rfl⟩
  go_wp2_with fail
  subst hQ
  simp [bodyPostS, results, Try.results39]
set_option maxRecDepth 100000 in
set_option maxHeartbeats 800000 in
theorem late_idle (m e : Addr) (w : World) :
    CallsD Try.prog 39 #[.pointer (some m), .pointer (some e)] .returning w fun e u' w' => e = .returned (.tuple #[]) ∧ u' = .returning ∧ w' = w := by
  refine callsD_of_wpS Try.func39 rfl fun c₀ cs hu => ?_
  apply wpS_seq
  apply wpS_region
  simp [wpOpsS, go_sem, recoverD, hu, Try.ntmps39, Exit.thenS]
  refine wpS_of_wp ?_
  generalize hQ : (fun (e : Exit) (a' : Act) (w' : World) => bodyPostS Try.prog _ _ _ _ e a' _ w') = Q
  show Code.wp Try.prog _ _ { tmps := #[.pointer (some m), .pointer (some e), .nilIface, .nilIface, undef, undef, undef, undef], defers := [] } w
  go_wp2_with fail
  subst hQ
  cases c₀
  simp_all [bodyPostS, results, Try.results39]
def ReadP (w : World) (l : Bs) (e : Ending) (w' : World) : Prop :=
  match Ob.obR l with
  | none => e = .returned (.tuple #[.pointer none, .iface 64 (.int .i64 3)])
  | some (O, _) => ∃ a, e = .returned (.tuple #[.pointer (some a), .nilIface]) ∧ VOb w.heap.size O (.pointer (some a)) w'
theorem VOb.keep {B : Nat} {O : Ob.O} {v : Value} {w w' : World} (h : VOb B O v w) (hk : ∀ b, B ≤ b → b < w.heap.size → w'.heap[b]? = w.heap[b]?) : VOb B O v w' := by
  obtain ⟨ob, C, sv, uv, vv, pv, nv, cv, h1, h2, h3, h4, h5, h6, h7⟩ := h
  exact ⟨ob, C, sv, uv, vv, pv, nv, cv, h1, h2, h3, (hk ob h2 (lt_blk h4)).trans h4, h5.mono (fun b hb hl => ⟨hk b hb.1 hl, hb⟩), h6.mono (fun b hb hl => ⟨hk b (by omega) hl, hb⟩), h7.mono (fun b hb hl => ⟨hk b (by omega) hl, hb⟩)⟩
theorem VOb.le {B B' : Nat} {O : Ob.O} {v : Value} {w : World} (h : VOb B O v w) (hB : B' ≤ B) : VOb B' O v w := by
  obtain ⟨ob, C, sv, uv, vv, pv, nv, cv, h1, h2, h3, h4, h5, h6, h7⟩ := h
  exact ⟨ob, C, sv, uv, vv, pv, nv, cv, h1, by omega, h3, h4, h5.mono (fun b hb hl => ⟨rfl, by omega, hb.2⟩), h6, h7⟩
set_option maxRecDepth 100000 in
set_option maxHeartbeats 2000000 in
theorem read_post (w : World) (l : Bs) (hl : l.length ≤ 1000000000) :
    Calls Try.prog 23 #[.string (bs l)] w fun e w' => Below w.heap.size w w' ∧ ReadP w l e w' := by
  have hmf : ∀ (fn : Fn) (first cap : Array Value) (w : World), (Instr.makeFunc fn first cap).run Try.prog w = .ok (.func fn first cap) w := fun _ _ _ _ => rfl
  obtain ⟨mb, hmb⟩ : ∃ mb, mb = w.heap.size := ⟨_, rfl⟩
  go_enter_defers Try.func23, Try.ntmps23
  go_wp2_with fail
  have hb0 : Below w.heap.size w (((w.alloc (.cells #[.pointer none] 22)).alloc (.cells #[.nilIface] 26)).alloc (.cells #[.string (bs l)] 81)) := (((Below.refl _ _).alloc (Nat.le_refl _) _).alloc (by simp) _).alloc (by simp; omega) _
  have hsz0 : (((w.alloc (.cells #[.pointer none] 22)).alloc (.cells #[.nilIface] 26)).alloc (.cells #[.string (bs l)] 81)).heap.size = w.heap.size + 3 := by simp
  have hbm : (((w.alloc (.cells #[.pointer none] 22)).alloc (.cells #[.nilIface] 26)).alloc (.cells #[.string (bs l)] 81)).heap[w.heap.size]? = some (.cells #[.pointer none] 22 (0, 0)) := (Below.heap_alloc _ _ _ (by simp; omega)).trans ((Below.heap_alloc _ _ _ (by simp)).trans (new_blk _ _))
  have hbe : (((w.alloc (.cells #[.pointer none] 22)).alloc (.cells #[.nilIface] 26)).alloc (.cells #[.string (bs l)] 81)).heap[w.heap.size + 1]? = some (.cells #[.nilIface] 26 (0, 0)) := by
    rw [Below.heap_alloc _ _ _ (by simp)]
    have := new_blk (w.alloc (.cells #[.pointer none] 22)) (.cells #[.nilIface] 26)
    simpa using this
  have hbr : (((w.alloc (.cells #[.pointer none] 22)).alloc (.cells #[.nilIface] 26)).alloc (.cells #[.string (bs l)] 81)).heap[w.heap.size + 1 + 1]? = some (.cells #[.string (bs l)] 81 (0, 0)) := by
    have := new_blk ((w.alloc (.cells #[.pointer none] 22)).alloc (.cells #[.nilIface] 26)) (.cells #[.string (bs l)] 81)
    simpa using this
  generalize ((w.alloc (.cells #[.pointer none] 22)).alloc (.cells #[.nilIface] 26)).alloc (.cells #[.string (bs l)] 81) = w1 at hb0 hsz0 hbm hbe hbr ⊢
  have hrst : Rst w1 (w.heap.size + 1 + 1) l := ⟨(cell_blk hbr).trans rfl, frozen_blk hbr, hl⟩
  have HB0 : Hid (Below mb w w1) := by rw [hmb]; exact hb0
  have HMB : Hid (w.heap.size = mb) := hmb.symm
  have hsz1 : w1.heap.size = mb + 3 := by omega
  rw [← hmb] at hbm hbe hbr hrst ⊢
  have HC := Lib.hid (object_any hrst)
  have HP : Hid (∀ e w', ReadP w l e w' ↔ (match Ob.obR l with
    | none => e = .returned (.tuple #[.pointer none, .iface 64 (.int .i64 3)])
    | some (O, _) => ∃ a, e = .returned (.tuple #[.pointer (some a), .nilIface]) ∧ VOb mb O (.pointer (some a)) w')) := by
    intro e w'; rw [hmb]; exact Iff.rfl
  clear hb0 hsz0 hmb hrst hbr
  generalize Ob.obR l = res at *
  refine HC.out.mono ?_
  intro e w6 hq
  rcases res with _ | ⟨O, r⟩
  · obtain ⟨rfl, hx⟩ := hq
    have e1 := (hx.block mb (by omega) (by omega)).trans hbm
    have e2 := (hx.block (mb + 1) (by omega) (by omega)).trans hbe
    have hb6 : Below mb w1 w6 := hx.toBelow (by omega) (by omega)
    have a2 : ((w6.setCell ⟨mb, 0, none⟩ (.pointer none)).setCell ⟨mb + 1, 0, none⟩ (.iface 64 (.int .i64 3))).heap[mb]? = some (.cells #[.pointer none] 22 (0, 0)) := (Below.heap_setCell _ _ _ _ (by simp)).trans (set_blk 0 (.pointer none) e1)
    have a3 : ((w6.setCell ⟨mb, 0, none⟩ (.pointer none)).setCell ⟨mb + 1, 0, none⟩ (.iface 64 (.int .i64 3))).heap[mb + 1]? = some (.cells #[.iface 64 (.int .i64 3)] 26 (0, 0)) := set_blk 0 (.iface 64 (.int .i64 3)) ((Below.heap_setCell _ _ _ _ (by simp)).trans e2)
    have hbd : Below mb w6 ((w6.setCell ⟨mb, 0, none⟩ (.pointer none)).setCell ⟨mb + 1, 0, none⟩ (.iface 64 (.int .i64 3))) := below_set (below_set (Below.refl _ _) (Nat.le_refl _) 0 _) (by simp) 0 _
    unfold thrown
    go_wp2_with fail
    refine leaves_cons (f := 39) (args := #[.pointer (some ⟨mb, 0, none⟩), .pointer (some ⟨mb + 1, 0, none⟩)]) (by simp) (by simp [go_sem]) ?_
    refine (late_panicking mb (mb + 1) [] w6 (by rw [cell_blk e1]; rfl) (frozen_blk e1) (by rw [cell_blk e2]; rfl) (frozen_blk e2) (by omega)).mono ?_
    rintro e u' w'' ⟨rfl, rfl, hw⟩
    rw [← hw] at a2 a3 hbd
    have k1 : w''.cell? ⟨mb, 0, none⟩ = some (.pointer none) := cell_blk a2
    have k2 : w''.cell? ⟨mb + 1, 0, none⟩ = some (.iface 64 (.int .i64 3)) := cell_blk a3
    have hfin : Below w.heap.size w w'' ∧ ReadP w l (.returned (.tuple #[.pointer none, .iface 64 (.int .i64 3)])) w'' := ⟨by rw [HMB.out]; exact (HB0.out.trans hb6).trans hbd, (HP.out _ _).2 rfl⟩
    clear hw
    simp [Leaves, settle, results, Try.results23, go_sem, k1, k2]
    exact hfin
  · obtain ⟨v, rfl, hv, hst, hx⟩ := hq
    have hv' := hv
    obtain ⟨ob, C, sv, uv, vv, pv, nv, cv, rfl, hobl, _⟩ := hv'
    have HV := Lib.hid hv
    have e1 := (hx.block mb (by omega) (by omega)).trans hbm
    have e2 := (hx.block (mb + 1) (by omega) (by omega)).trans hbe
    have hb6 : Below mb w1 w6 := hx.toBelow (by omega) (by omega)
    have y1 : w6.cell? ⟨mb, 0, none⟩ = some (.pointer none) := cell_blk e1
    have y2 : w6.cell? ⟨mb + 1, 0, none⟩ = some .nilIface := cell_blk e2
    have z1 : w6.frozen? ⟨mb, 0, none⟩ = false := frozen_blk e1
    have z2 : w6.frozen? ⟨mb + 1, 0, none⟩ = false := frozen_blk e2
    clear hv hst HC
    go_wp2_with fail
    have a2 : ((w6.setCell ⟨mb, 0, none⟩ (.pointer (some ⟨ob, 0, none⟩))).setCell ⟨mb + 1, 0, none⟩ .nilIface).heap[mb]? = some (.cells #[.pointer (some ⟨ob, 0, none⟩)] 22 (0, 0)) := (Below.heap_setCell _ _ _ _ (by simp)).trans (set_blk 0 _ e1)
    have a3 : ((w6.setCell ⟨mb, 0, none⟩ (.pointer (some ⟨ob, 0, none⟩))).setCell ⟨mb + 1, 0, none⟩ .nilIface).heap[mb + 1]? = some (.cells #[.nilIface] 26 (0, 0)) := set_blk 0 .nilIface ((Below.heap_setCell _ _ _ _ (by simp)).trans e2)
    have hbd : Below mb w6 ((w6.setCell ⟨mb, 0, none⟩ (.pointer (some ⟨ob, 0, none⟩))).setCell ⟨mb + 1, 0, none⟩ .nilIface) := below_set (below_set (Below.refl _ _) (Nat.le_refl _) 0 _) (by simp) 0 _
    have hvd : VOb mb O (.pointer (some ⟨ob, 0, none⟩)) ((w6.setCell ⟨mb, 0, none⟩ (.pointer (some ⟨ob, 0, none⟩))).setCell ⟨mb + 1, 0, none⟩ .nilIface) := (HV.out.keep (fun b hb _ => (Below.heap_setCell _ _ _ _ (by simp; omega)).trans (Below.heap_setCell _ _ _ _ (by simp; omega)))).le (by omega)
    generalize (w6.setCell ⟨mb, 0, none⟩ (.pointer (some ⟨ob, 0, none⟩))).setCell ⟨mb + 1, 0, none⟩ .nilIface = wd at *
    have k1 : wd.cell? ⟨mb, 0, none⟩ = some (.pointer (some ⟨ob, 0, none⟩)) := cell_blk a2
    have k2 : wd.cell? ⟨mb + 1, 0, none⟩ = some .nilIface := cell_blk a3
    have hfin : Below w.heap.size w wd ∧ ReadP w l (.returned (.tuple #[.pointer (some ⟨ob, 0, none⟩), .nilIface])) wd := ⟨by rw [HMB.out]; exact (HB0.out.trans hb6).trans hbd, (HP.out _ _).2 ⟨_, rfl, hvd⟩⟩
    refine leaves_cons (f := 39) (args := #[.pointer (some ⟨mb, 0, none⟩), .pointer (some ⟨mb + 1, 0, none⟩)]) (by simp) (by simp [go_sem]) ?_
    refine (late_idle ⟨mb, 0, none⟩ ⟨mb + 1, 0, none⟩ wd).mono ?_
    rintro e u' w'' ⟨rfl, rfl, rfl⟩
    simp [Leaves, settle, results, Try.results23, go_sem, k1, k2]
    exact hfin
end Go.Proofs.Ytljnddcddclmeaa
