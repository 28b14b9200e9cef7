import Derived.Test.YtiolfelekiopdaaGreatDoorKMH
import Derived.Defers
import Derived.Recover
/- check: caught, and what Check defers. -/
namespace Go.Proofs.YtiolfelekiopdaaGreatDoor
open Go.RowKit

set_option maxRecDepth 100000 in
set_option maxHeartbeats 400000 in
theorem ccaught_at (a : Option Addr) (w : World) :
    Calls Tryz.prog 30 #[.iface 91 (.pointer a)] w fun e w' => e = .returned (.iface 91 (.pointer a)) ∧ w' = w := by
  have hta : ∀ (a : Option Addr) (w : World), (Instr.typeAssert (.iface 91 (.pointer a)) 20 91 true).run Tryz.prog w = .ok (.tuple #[.pointer a, .bool true]) w := fun a w => by kernel_rfl
  go_enter Tryz.func30, Tryz.ntmps30
  go_wp2
  go_ret
  exact ⟨rfl, rfl⟩
set_option maxRecDepth 100000 in
set_option maxHeartbeats 400000 in
theorem ccaught_en (n : Int) (w : World) :
    Calls Tryz.prog 30 #[.iface 58 (.int .i64 n)] w fun e w' => e = .returned (.iface 58 (.int .i64 n)) ∧ w' = w := by
  have hta : ∀ (n : Int) (w : World), (Instr.typeAssert (.iface 58 (.int .i64 n)) 20 91 true).run Tryz.prog w = .ok (.tuple #[.pointer none, .bool false]) w := fun a w => by kernel_rfl
  have htb : ∀ (n : Int) (w : World), (Instr.typeAssert (.iface 58 (.int .i64 n)) 20 58 true).run Tryz.prog w = .ok (.tuple #[.int .i64 n, .bool true]) w := fun a w => by kernel_rfl
  go_enter Tryz.func30, Tryz.ntmps30
  go_wp2
  go_ret
  exact ⟨rfl, rfl⟩
set_option maxRecDepth 100000 in
set_option maxHeartbeats 800000 in
theorem clate_at (eb ab : Nat) (older : List PanicEntry) (w : World) {xe : Value} (ke : w.cell? ⟨eb, 0, none⟩ = some xe) (ze : w.frozen? ⟨eb, 0, none⟩ = false) :
    CallsD Tryz.prog 29 #[.pointer (some ⟨eb, 0, none⟩)] (.panicking ({ v := .iface 91 (.pointer (some ⟨ab, 0, none⟩)), recovered := false } :: older)) w fun e u' w' =>
      e = .returned (.tuple #[]) ∧ u' = .panicking ({ v := .iface 91 (.pointer (some ⟨ab, 0, none⟩)), recovered := true } :: older) ∧ w' = w.setCell ⟨eb, 0, none⟩ (.iface 91 (.pointer (some ⟨ab, 0, none⟩))) := by
  refine callsD_of_wpS Tryz.func29 rfl fun c₀ cs hu => ?_
  apply wpS_seq
  apply wpS_region
  simp [wpOpsS, go_sem, recoverD, hu, Tryz.ntmps29, Exit.thenS]
  refine wpS_of_wp ?_
  generalize hQ : (fun (e : Exit) (a' : Act) (w' : World) => bodyPostS Tryz.prog _ _ _ _ e a' _ w') = Q
  show Code.wp Tryz.prog _ _ { tmps := #[.pointer (some ⟨eb, 0, none⟩), .iface 91 (.pointer (some ⟨ab, 0, none⟩)), .iface 91 (.pointer (some ⟨ab, 0, none⟩)), undef, undef, undef, undef], defers := [] } w
  go_wp2_with fail
  refine (ccaught_at _ w).mono ?_
  rintro e w' ⟨rfl, rfl⟩
  go_wp2_with fail
  subst hQ
  simp [bodyPostS, results, Tryz.results29]
set_option maxRecDepth 100000 in
set_option maxHeartbeats 800000 in
theorem clate_en (eb : Nat) (n : Int) (older : List PanicEntry) (w : World) {xe : Value} (ke : w.cell? ⟨eb, 0, none⟩ = some xe) (ze : w.frozen? ⟨eb, 0, none⟩ = false) :
    CallsD Tryz.prog 29 #[.pointer (some ⟨eb, 0, none⟩)] (.panicking ({ v := .iface 58 (.int .i64 n), recovered := false } :: older)) w fun e u' w' =>
      e = .returned (.tuple #[]) ∧ u' = .panicking ({ v := .iface 58 (.int .i64 n), recovered := true } :: older) ∧ w' = w.setCell ⟨eb, 0, none⟩ (.iface 58 (.int .i64 n)) := by
  refine callsD_of_wpS Tryz.func29 rfl fun c₀ cs hu => ?_
  apply wpS_seq
  apply wpS_region
  simp [wpOpsS, go_sem, recoverD, hu, Tryz.ntmps29, Exit.thenS]
  refine wpS_of_wp ?_
  generalize hQ : (fun (e : Exit) (a' : Act) (w' : World) => bodyPostS Tryz.prog _ _ _ _ e a' _ w') = Q
  show Code.wp Tryz.prog _ _ { tmps := #[.pointer (some ⟨eb, 0, none⟩), .iface 58 (.int .i64 n), .iface 58 (.int .i64 n), undef, undef, undef, undef], defers := [] } w
  go_wp2_with fail
  refine (ccaught_en _ w).mono ?_
  rintro e w' ⟨rfl, rfl⟩
  go_wp2_with fail
  subst hQ
  simp [bodyPostS, results, Tryz.results29]
set_option maxRecDepth 100000 in
set_option maxHeartbeats 800000 in
theorem clate_idle (e : Addr) (w : World) :
    CallsD Tryz.prog 29 #[.pointer (some e)] .returning w fun e u' w' => e = .returned (.tuple #[]) ∧ u' = .returning ∧ w' = w := by
  refine callsD_of_wpS Tryz.func29 rfl fun c₀ cs hu => ?_
  apply wpS_seq
  apply wpS_region
  simp [wpOpsS, go_sem, recoverD, hu, Tryz.ntmps29, Exit.thenS]
  refine wpS_of_wp ?_
  generalize hQ : (fun (e : Exit) (a' : Act) (w' : World) => bodyPostS Tryz.prog _ _ _ _ e a' _ w') = Q
  show Code.wp Tryz.prog _ _ { tmps := #[.pointer (some e), .nilIface, .nilIface, undef, undef, undef, undef], defers := [] } w
  go_wp2_with fail
  subst hQ
  cases c₀
  simp_all [bodyPostS, results, Tryz.results29]
end Go.Proofs.YtiolfelekiopdaaGreatDoor
/- Check's frame when it dies: what it reads of it. -/
namespace Go.Proofs.YtiolfelekiopdaaGreatDoor
open Go.RowKit
open Tp (Bs Th Sy Seen X S)

def CheckP (w : World) (res : Tp.Ck) (e : Ending) (w' : World) : Prop := Below w.heap.size w w' ∧ match res with
  | none => e = .returned .nilIface
  | some (en, none) => e = .returned (.iface 58 (.int .i64 (en : Int)))
  | some (en, some pl) => ∃ ab, e = .returned (.iface 91 (.pointer (some ⟨ab, 0, none⟩))) ∧ w.heap.size ≤ ab ∧ w'.cell? ⟨ab, 0, none⟩ = some (.int .i64 (en : Int)) ∧ w'.cell? ⟨ab, 1, none⟩ = some (.int .i64 (pl : Int))
theorem leaves_tmps {P : Program} {fn : Func} {t1 t2 : Array Value} {R : Ending → World → Prop} (h : ∀ w v, (results fn t1).run P w = .ok v w → (results fn t2).run P w = .ok v w) : ∀ (ds : List Deferred) (u : FrameMode) (w : World), Leaves P fn t1 R ds u w → Leaves P fn t2 R ds u w := by
  intro ds
  induction ds with
  | nil =>
    intro u w hl
    cases u with
    | returning => obtain ⟨v, h1, h2⟩ := hl; exact ⟨v, h w v h1, h2⟩
    | panicking c => exact hl
    | run => exact hl
  | cons d ds ih =>
    intro u w hl
    unfold Leaves at hl ⊢
    obtain ⟨h1, fv, cap, f, args, h2, h3, h4⟩ := hl
    refine ⟨h1, fv, cap, f, args, h2, h3, CallsD.mono h4 ?_⟩
    intro e u' w' hq
    cases e with
    | returned v => exact ih _ _ hq
    | panicked c => exact ih _ _ hq
    | outgrown => exact hq
theorem check_res {t1 t2 : Array Value} (h : t1[4]? = t2[4]?) : results Tryz.f9 t1 = results Tryz.f9 t2 := by
  simp [results, Tryz.results9, h]
theorem hq_put {R : Ending → World → Prop} {d : Nat} (hd : d ≠ 4) (v : Value) (c : List PanicEntry) (a : Act) (w : World) (h : bodyPostD Tryz.prog Tryz.f9 R (.panic c) (a.put (some d) v) w) : bodyPostD Tryz.prog Tryz.f9 R (.panic c) a w := by
  unfold bodyPostD at h ⊢
  refine leaves_tmps (fun w u hv => ?_) _ _ _ h
  rw [← hv]
  rw [check_res]
  show a.tmps[4]? = (a.tmps.setIfInBounds d v)[4]?
  rw [Array.getElem?_setIfInBounds_ne hd]
def dfr (eb : Nat) : List Deferred := [{ target := Target.fn (Fn.func 29) #[.pointer (some ⟨eb, 0, none⟩)], args := #[] }]
theorem cdies_at {w wX : World} {res : Tp.Ck} {eb ab : Nat} {a : Act} (h4 : a.tmps[4]? = some (.pointer (some ⟨eb, 0, none⟩))) (hd : a.defers = dfr eb) (he : wX.heap[eb]? = some (.cells #[.nilIface] 31 (0, 0)))
    (hR : CheckP w res (.returned (.iface 91 (.pointer (some ⟨ab, 0, none⟩)))) (wX.setCell ⟨eb, 0, none⟩ (.iface 91 (.pointer (some ⟨ab, 0, none⟩))))) :
    bodyPostD Tryz.prog Tryz.f9 (CheckP w res) (.panic [{ v := .iface 91 (.pointer (some ⟨ab, 0, none⟩)), recovered := false }]) a wX := by
  show Leaves Tryz.prog Tryz.f9 a.tmps (CheckP w res) a.defers (.panicking _) wX
  rw [hd]
  unfold dfr
  refine leaves_cons (f := 29) (args := #[.pointer (some ⟨eb, 0, none⟩)]) (by simp) (by simp [go_sem]) ?_
  refine (clate_at eb ab [] wX ((cell_blk he).trans rfl) (frozen_blk he)).mono ?_
  rintro e u' w'' ⟨rfl, rfl, hw⟩
  have k : w''.cell? ⟨eb, 0, none⟩ = some (.iface 91 (.pointer (some ⟨ab, 0, none⟩))) := by rw [hw]; exact (cell_blk (set_blk 0 _ he)).trans rfl
  rw [← hw] at hR
  refine leaves_tmps (t1 := #[undef, undef, undef, undef, .pointer (some ⟨eb, 0, none⟩)]) (fun w u hv => by rw [← hv]; rw [check_res]; rw [h4]; rfl) _ _ _ ?_
  simp [Leaves, settle, results, Tryz.results9, go_sem, k]
  exact hR
theorem cdies_en {w wX : World} {res : Tp.Ck} {eb : Nat} {n : Int} {a : Act} (h4 : a.tmps[4]? = some (.pointer (some ⟨eb, 0, none⟩))) (hd : a.defers = dfr eb) (he : wX.heap[eb]? = some (.cells #[.nilIface] 31 (0, 0)))
    (hR : CheckP w res (.returned (.iface 58 (.int .i64 n))) (wX.setCell ⟨eb, 0, none⟩ (.iface 58 (.int .i64 n)))) :
    bodyPostD Tryz.prog Tryz.f9 (CheckP w res) (.panic [{ v := .iface 58 (.int .i64 n), recovered := false }]) a wX := by
  show Leaves Tryz.prog Tryz.f9 a.tmps (CheckP w res) a.defers (.panicking _) wX
  rw [hd]
  unfold dfr
  refine leaves_cons (f := 29) (args := #[.pointer (some ⟨eb, 0, none⟩)]) (by simp) (by simp [go_sem]) ?_
  refine (clate_en eb n [] wX ((cell_blk he).trans rfl) (frozen_blk he)).mono ?_
  rintro e u' w'' ⟨rfl, rfl, hw⟩
  have k : w''.cell? ⟨eb, 0, none⟩ = some (.iface 58 (.int .i64 n)) := by rw [hw]; exact (cell_blk (set_blk 0 _ he)).trans rfl
  rw [← hw] at hR
  refine leaves_tmps (t1 := #[undef, undef, undef, undef, .pointer (some ⟨eb, 0, none⟩)]) (fun w u hv => by rw [← hv]; rw [check_res]; rw [h4]; rfl) _ _ _ ?_
  simp [Leaves, settle, results, Tryz.results9, go_sem, k]
  exact hR
end Go.Proofs.YtiolfelekiopdaaGreatDoor
