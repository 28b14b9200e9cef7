import Derived.Test.YtijhpokclpdjpaaGreatDoorKJc
import Derived.Test.YtijhpokclpdjpaaGreatDoorKJf
import Derived.LaidEql
import Derived.RowKitTokens
import Derived.Stop.Asserts
import Derived.Laws.OwnMore
import Derived.Deep.CutRange
/- The Errno in an error: errors.As at a *Errno. -/
namespace Go.Proofs.YtijhpokclpdjpaaGreatDoor
open Go.RowKit Go.Extern.Stop Go.Stop Go.Extern

theorem rl_valueP (t : Addr) (w : World) : (ReflectliteValue.unpack (.iface 139 (.pointer (some t)))).run Tryz.prog w
    = .ok (.agg #[.pointer (some ⟨1, 139, none⟩), .pointer (some ⟨w.heap.size, 0, none⟩), .int .u64 150]) (w.alloc (.cells #[.pointer (some t)] 139)) := by kernel_rfl
theorem rl_valueE (n : Int) (w : World) : (ReflectliteValue.unpack (.iface 24 (.int .i64 n))).run Tryz.prog w
    = .ok (.agg #[.pointer (some ⟨1, 24, none⟩), .pointer (some ⟨w.heap.size, 0, none⟩), .int .u64 130]) (w.alloc (.cells #[.int .i64 n] 24)) := by kernel_rfl
theorem rl_typeP (a : Addr) (w : World) : (ReflectliteValue.methodAny (ReflectliteValue.valueError "reflectlite.Value.Type" 0) (fun t _ _ _ => ReflectliteType.toType t) #[.agg #[.pointer (some ⟨1, 139, none⟩), .pointer (some a), .int .u64 150]]).run Tryz.prog w
    = .ok (.iface 162 (.agg #[.pointer (some ⟨1, 139, none⟩)])) w := by kernel_rfl
theorem rl_kindP (w : World) : ((ReflectliteType.abiMethod fun t => (fun a : Nat => Value.int IntKind.u8 (a : Int)) <$> Rtype.kind t) #[.pointer (some ⟨1, 139, none⟩)]).run Tryz.prog w = .ok (.int .u8 22) w := by kernel_rfl
theorem rl_kindE (w : World) : ((ReflectliteType.abiMethod fun t => (fun a : Nat => Value.int IntKind.u8 (a : Int)) <$> Rtype.kind t) #[.pointer (some ⟨1, 24, none⟩)]).run Tryz.prog w = .ok (.int .u8 2) w := by kernel_rfl
theorem rlm (z : Sem Value) (f : TypeId → Addr → Nat → Nat → Sem Value) (v : Value) :
    ReflectliteValue.method z f #[v] = (do match ← ReflectliteValue.parts v with | none => z | some (t, a, fl) => f t a fl (fl % 32)) := rfl
theorem rl_partsP (a : Addr) (w : World) : (ReflectliteValue.parts (.agg #[.pointer (some ⟨1, 139, none⟩), .pointer (some a), .int .u64 150])).run Tryz.prog w = .ok (some (139, a, 150)) w := by kernel_rfl
theorem rl_isNil (a p : Addr) (W : World) (ha : W.cell? a = some (.pointer (some p))) :
    (ReflectliteValue.method (ReflectliteValue.valueError "reflectlite.Value.IsNil" 0) ReflectliteValue.isNil #[.agg #[.pointer (some ⟨1, 139, none⟩), .pointer (some a), .int .u64 150]]).run Tryz.prog W = .ok (.bool false) W := by
  rw [rlm]
  simp only [Sem.run_bind, rl_partsP, Result.andThen]
  simp [ReflectliteValue.isNil, loadVar, isAgg, underlying, Tryz.underlying139, ha, Result.andThen]
theorem rl_elem (w : World) : (ReflectliteType.method ReflectliteType.elem #[.agg #[.pointer (some ⟨1, 139, none⟩)]]).run Tryz.prog w = .ok (.iface 162 (.agg #[.pointer (some ⟨1, 24, none⟩)])) w := by kernel_rfl
theorem rl_implements (w : World) : (ReflectliteType.relation "Implements" ReflectliteType.implements_ #[.agg #[.pointer (some ⟨1, 24, none⟩)], .iface 162 (.agg #[.pointer (some ⟨1, 28, none⟩)])]).run Tryz.prog w = .ok (.bool true) w := by kernel_rfl
theorem rl_typeOfE (n : Int) (w : World) : (ReflectliteType.typeOf #[.iface 24 (.int .i64 n)]).run Tryz.prog w = .ok (.iface 162 (.agg #[.pointer (some ⟨1, 24, none⟩)])) w := by kernel_rfl
theorem rl_assignE (w : World) : (ReflectliteType.relation "AssignableTo" ReflectliteType.assignableTo #[.agg #[.pointer (some ⟨1, 24, none⟩)], .iface 162 (.agg #[.pointer (some ⟨1, 24, none⟩)])]).run Tryz.prog w = .ok (.bool true) w := by kernel_rfl
theorem rl_elemOf (w : World) : (Rtype.elem? 139).run Tryz.prog w = .ok (some 24) w := by kernel_rfl
theorem rl_mk (p : Addr) (w : World) : (ReflectliteValue.mk 24 p ReflectliteValue.flagAddr).run Tryz.prog w = .ok (.agg #[.pointer (some ⟨1, 24, none⟩), .pointer (some p), .int .u64 386]) w := by kernel_rfl
theorem rl_elemV (a p : Addr) (W : World) (ha : W.cell? a = some (.pointer (some p))) :
    (ReflectliteValue.method (ReflectliteValue.valueError "reflectlite.Value.Elem" 0) ReflectliteValue.elem #[.agg #[.pointer (some ⟨1, 139, none⟩), .pointer (some a), .int .u64 150]]).run Tryz.prog W
      = .ok (.agg #[.pointer (some ⟨1, 24, none⟩), .pointer (some p), .int .u64 386]) W := by
  rw [rlm]
  simp only [Sem.run_bind, rl_partsP, Result.andThen]
  simp [ReflectliteValue.elem, loadVar, isAgg, underlying, Tryz.underlying139, ha, Result.andThen, rl_elemOf, rl_mk]
theorem rl_partsA (a : Addr) (w : World) : (ReflectliteValue.parts (.agg #[.pointer (some ⟨1, 24, none⟩), .pointer (some a), .int .u64 386])).run Tryz.prog w = .ok (some (24, a, 386)) w := by kernel_rfl
theorem rl_partsE (a : Addr) (w : World) : (ReflectliteValue.parts (.agg #[.pointer (some ⟨1, 24, none⟩), .pointer (some a), .int .u64 130])).run Tryz.prog w = .ok (some (24, a, 130)) w := by kernel_rfl
theorem rl_direct (w : World) : (Rtype.directlyAssignable 24 24).run Tryz.prog w = .ok true w := by kernel_rfl
theorem rl_set (ta b : Addr) (n : Int) (old : Value) (W : World) (hb : W.cell? b = some (.int .i64 n)) (ht : W.cell? ta = some old) (hf : W.frozen? ta = false) :
    (ReflectliteValue.set #[.agg #[.pointer (some ⟨1, 24, none⟩), .pointer (some ta), .int .u64 386], .agg #[.pointer (some ⟨1, 24, none⟩), .pointer (some b), .int .u64 130]]).run Tryz.prog W
      = .ok (.tuple #[]) (W.setCell ta (.int .i64 n)) := by
  refine Eq.trans (congrArg (fun s : Sem Value => s.run Tryz.prog W) (show ReflectliteValue.set #[.agg #[.pointer (some ⟨1, 24, none⟩), .pointer (some ta), .int .u64 386], .agg #[.pointer (some ⟨1, 24, none⟩), .pointer (some b), .int .u64 130]] = (ReflectliteValue.parts (.agg #[.pointer (some ⟨1, 24, none⟩), .pointer (some ta), .int .u64 386]) >>= fun p => ReflectliteValue.parts (.agg #[.pointer (some ⟨1, 24, none⟩), .pointer (some b), .int .u64 130]) >>= fun q => _) from rfl)) ?_
  simp only [Sem.run_bind, rl_partsA, rl_partsE, Result.andThen]
  simp [ReflectliteValue.flagAddr, loadVar, isAgg, underlying, Tryz.underlying24, hb, Result.andThen, rl_direct, storeVar, Value.cells, storeCells, Addr.add]
  rw [run_store Tryz.prog W ta _ _ (by rfl)]
  simp [ht, hf]
end Go.Proofs.YtijhpokclpdjpaaGreatDoor
/- errors.As at a *Errno, walked; Tell. -/
namespace Go.Proofs.YtijhpokclpdjpaaGreatDoor
open Go.RowKit Go.Extern.Stop Go.Stop Go.Extern
theorem cell_alloc' {w : World} {a : Addr} {v : Value} (h : w.cell? a = some v) (ob : Obj) : (w.alloc ob).cell? a = some v := cell_alloc h ob
theorem ext_below {b B : Nat} {w w' : World} (h : Ext b w w') (hb : B ≤ b) (hB : B ≤ w.heap.size) : Below B w w' := h.toBelow hb hB

theorem me_Kind (h : Value) (w : World) : (Go.method 301 162 (.agg #[h]) "Kind").run Tryz.prog w = .ok (129, h) w := by kernel_rfl
theorem me_Elem (h : Value) (w : World) : (Go.method 301 162 (.agg #[h]) "Elem").run Tryz.prog w = .ok (141, .agg #[h]) w := by kernel_rfl
theorem me_Impl (h : Value) (w : World) : (Go.method 301 162 (.agg #[h]) "Implements").run Tryz.prog w = .ok (142, .agg #[h]) w := by kernel_rfl
theorem me_Assign (h : Value) (w : World) : (Go.method 301 162 (.agg #[h]) "AssignableTo").run Tryz.prog w = .ok (139, .agg #[h]) w := by kernel_rfl
set_option maxRecDepth 100000 in
set_option maxHeartbeats 4000000 in
theorem as_en (n : Int) (t : Addr) (old : Value) (w : World) (hg : w.cell? ⟨0, 0, none⟩ = some (.iface 162 (.agg #[.pointer (some ⟨1, 28, none⟩)]))) (ht0 : w.cell? t = some old) (hf0 : w.frozen? t = false) :
    Calls Tryz.prog 96 #[.iface 24 (.int .i64 n), .iface 139 (.pointer (some t))] w fun ev w' => ev = .returned (.bool true) ∧ w' = ((((w.alloc (.cells #[.pointer (some t)] 139)).alloc (.cells #[.pointer (some ⟨1, 139, none⟩), .pointer (some ⟨w.heap.size, 0, none⟩), .int .u64 150] 152)).alloc (.cells #[.pointer (some ⟨1, 139, none⟩), .pointer (some ⟨w.heap.size, 0, none⟩), .int .u64 150] 152)).alloc (.cells #[.int .i64 n] 24)).setCell t (.int .i64 n) := by
  have h6 := @run_callFunc_extern Tryz.prog 108 _ (fun args => ReflectliteValue.unpack (args.getD 0 (.tuple #[]))) Tryz.func108 (by kernel_rfl) (by kernel_rfl) (by kernel_rfl) (by kernel_rfl)
  have h7 := @run_callFunc_extern Tryz.prog 109 _ (ReflectliteValue.methodAny (ReflectliteValue.valueError "reflectlite.Value.Type" 0) (fun t _ _ _ => ReflectliteType.toType t)) Tryz.func109 (by kernel_rfl) (by kernel_rfl) (by kernel_rfl) (by kernel_rfl)
  have h8 := @run_callFunc_extern Tryz.prog 110 _ (ReflectliteValue.method (ReflectliteValue.valueError "reflectlite.Value.IsNil" 0) ReflectliteValue.isNil) Tryz.func110 (by kernel_rfl) (by kernel_rfl) (by kernel_rfl) (by kernel_rfl)
  have h27 := @run_callFunc_extern Tryz.prog 129 _ (ReflectliteType.abiMethod fun t => do pure (.int .u8 (← Rtype.kind t))) Tryz.func129 (by kernel_rfl) (by kernel_rfl) (by kernel_rfl) (by kernel_rfl)
  have h37 := @run_callFunc_extern Tryz.prog 141 _ (ReflectliteType.method ReflectliteType.elem) Tryz.func141 (by kernel_rfl) (by kernel_rfl) (by kernel_rfl) (by kernel_rfl)
  have h38 := @run_callFunc_extern Tryz.prog 142 _ (ReflectliteType.relation "Implements" ReflectliteType.implements_) Tryz.func142 (by kernel_rfl) (by kernel_rfl) (by kernel_rfl) (by kernel_rfl)
  have h10 := @run_callFunc_extern Tryz.prog 112 _ ReflectliteType.typeOf Tryz.func112 (by kernel_rfl) (by kernel_rfl) (by kernel_rfl) (by kernel_rfl)
  have h35 := @run_callFunc_extern Tryz.prog 139 _ (ReflectliteType.relation "AssignableTo" ReflectliteType.assignableTo) Tryz.func139 (by kernel_rfl) (by kernel_rfl) (by kernel_rfl) (by kernel_rfl)
  have h11 := @run_callFunc_extern Tryz.prog 113 _ (ReflectliteValue.method (ReflectliteValue.valueError "reflectlite.Value.Elem" 0) ReflectliteValue.elem) Tryz.func113 (by kernel_rfl) (by kernel_rfl) (by kernel_rfl) (by kernel_rfl)
  have h12 := @run_callFunc_extern Tryz.prog 114 _ ReflectliteValue.set Tryz.func114 (by kernel_rfl) (by kernel_rfl) (by kernel_rfl) (by kernel_rfl)
  have tO := rl_typeOfE
  have mA := me_Assign
  have a25 := rl_assignE
  have v25 := rl_valueE
  have f6 := rl_valueP
  have f7 := rl_typeP
  have mK := me_Kind
  have mE := me_Elem
  have mI := me_Impl
  have k27 := rl_kindP
  have k25 := rl_kindE
  have e27 := rl_elem
  have i25 := rl_implements
  have n8 := rl_isNil ⟨w.heap.size, 0, none⟩ t ((w.alloc (.cells #[.pointer (some t)] 139)).alloc (.cells #[.pointer (some ⟨1, 139, none⟩), .pointer (some ⟨w.heap.size, 0, none⟩), .int .u64 150] 152)) (by simp)
  have hlt : 0 < w.heap.size := lt_of_cell hg
  have hg2 : ((w.alloc (.cells #[.pointer (some t)] 139)).alloc (.cells #[.pointer (some ⟨1, 139, none⟩), .pointer (some ⟨w.heap.size, 0, none⟩), .int .u64 150] 152)).cell? ⟨0, 0, none⟩ = some (.iface 162 (.agg #[.pointer (some ⟨1, 28, none⟩)])) := by
    rw [World.cell?_alloc_lt _ _ ⟨0, 0, none⟩ (by simp <;> omega), World.cell?_alloc_lt _ _ ⟨0, 0, none⟩ hlt]; exact hg
  have htl : t.block < w.heap.size := World.block_lt_of_cell? _ _ ht0
  have el := rl_elemV ⟨w.heap.size, 0, none⟩ t (((w.alloc (.cells #[.pointer (some t)] 139)).alloc (.cells #[.pointer (some ⟨1, 139, none⟩), .pointer (some ⟨w.heap.size, 0, none⟩), .int .u64 150] 152)).alloc (.cells #[.pointer (some ⟨1, 139, none⟩), .pointer (some ⟨w.heap.size, 0, none⟩), .int .u64 150] 152)) (by rw [World.cell?_alloc_lt _ _ ⟨w.heap.size, 0, none⟩ (by simp; omega)]; simp)
  have st := rl_set t ⟨w.heap.size + 1 + 1 + 1, 0, none⟩ n old ((((w.alloc (.cells #[.pointer (some t)] 139)).alloc (.cells #[.pointer (some ⟨1, 139, none⟩), .pointer (some ⟨w.heap.size, 0, none⟩), .int .u64 150] 152)).alloc (.cells #[.pointer (some ⟨1, 139, none⟩), .pointer (some ⟨w.heap.size, 0, none⟩), .int .u64 150] 152)).alloc (.cells #[.int .i64 n] 24))
    (by rw [World.cell?_alloc_at _ _ _ _ (by simp)]; rfl)
    (by rw [World.cell?_alloc_lt _ _ t (by simp; omega), World.cell?_alloc_lt _ _ t (by simp; omega), World.cell?_alloc_lt _ _ t (by simp; omega), World.cell?_alloc_lt _ _ t htl]; exact ht0)
    (by rw [World.frozen?_alloc_old _ _ t (by simp; omega), World.frozen?_alloc_old _ _ t (by simp; omega), World.frozen?_alloc_old _ _ t (by simp; omega), World.frozen?_alloc_old _ _ t (Nat.ne_of_lt htl)]; exact hf0)
  go_enter Tryz.func96, Tryz.ntmps96
  go_wp2
  refine wp_loop_rounds 1 ?_
  rw [rounds_succ]
  go_wp2
  go_ret
  exact ⟨rfl, rfl⟩
/- Tell of what Check told -/
theorem ext_four (w : World) (t : Addr) (o1 o2 o3 o4 : Obj) (v : Value) : Ext t.block w (((((w.alloc o1).alloc o2).alloc o3).alloc o4).setCell t v) := by
  have h : Below w.heap.size w ((((w.alloc o1).alloc o2).alloc o3).alloc o4) := ((((Below.refl _ _).alloc (Nat.le_refl _) _).alloc (by simp) _).alloc (by simp; omega) _).alloc (by simp; omega) _
  refine ⟨h.os, h.tape, h.output, by simpa using h.size, fun k hk hb => ?_⟩
  rw [Below.heap_setCell _ _ _ _ hb]
  exact h.block k hk
set_option maxRecDepth 100000 in
set_option maxHeartbeats 1000000 in
theorem tell_en (n : Int) (w : World) (hg : w.cell? ⟨0, 0, none⟩ = some (.iface 162 (.agg #[.pointer (some ⟨1, 28, none⟩)]))) :
    Calls Tryz.prog 69 #[.iface 24 (.int .i64 n)] w fun e w' => e = .returned (.int .i64 n) ∧ Below w.heap.size w w' := by
  obtain ⟨w0, hw0⟩ : ∃ w0, w0 = w.alloc (.cells #[.int .i64 0] 24) := ⟨_, rfl⟩
  have hb0 : Below w.heap.size w w0 := by rw [hw0]; exact (Below.refl _ _).alloc (Nat.le_refl _) _
  have hk0 : w0.heap[w.heap.size]? = some (.cells #[.int .i64 0] 24 (0, 0)) := by rw [hw0]; exact new_blk _ _
  have hg0 : w0.cell? ⟨0, 0, none⟩ = some (.iface 162 (.agg #[.pointer (some ⟨1, 28, none⟩)])) := by rw [hw0]; exact cell_alloc' hg _
  have HA := Lib.hid (as_en n ⟨w.heap.size, 0, none⟩ (.int .i64 0) w0 hg0 ((cell_blk hk0).trans rfl) (frozen_blk hk0))
  have HB0 := Lib.hid hb0
  have HK0 := Lib.hid hk0
  clear hb0 hk0 hg0 hg
  go_enter Tryz.func69, Tryz.ntmps69
  go_upto_region 4 with fail
  rw [← hw0]
  clear hw0
  go_wp2_with fail
  refine HA.out.mono ?_
  rintro e w3 ⟨rfl, hw3⟩
  have hx : Ext w.heap.size w0 w3 := by rw [hw3]; exact ext_four w0 ⟨w.heap.size, 0, none⟩ _ _ _ _ _
  have hc : w3.cell? ⟨w.heap.size, 0, none⟩ = some (.int .i64 n) := by
    rw [hw3]
    exact World.cell?_setCell_same _ _ _ (cell_alloc' (cell_alloc' (cell_alloc' (cell_alloc' ((cell_blk HK0.out).trans rfl) _) _) _) _)
  have HB3 : Hid (Below w.heap.size w w3) := HB0.out.trans (ext_below hx (Nat.le_refl _) HB0.out.size)
  have hl3 : w.heap.size < w3.heap.size := lt_of_cell hc
  clear hw3 hx
  go_wp2_with fail
  go_ret
  exact ⟨rfl, HB3.out⟩
end Go.Proofs.YtijhpokclpdjpaaGreatDoor
/- The law's own: an error is this one, without a place. -/
namespace Go.Proofs.YtijhpokclpdjpaaGreatDoor
open Go.RowKit Go.Extern.Stop Go.Stop Go.Extern

/- what an error value tells: no error (0), or a bare Errno -/
def ErrV (v : Value) (n : Int) : Prop := (v = .nilIface ∧ n = 0) ∨ v = .iface 24 (.int .i64 n)
abbrev Hnd (w : World) : Prop := w.cell? ⟨0, 0, none⟩ = some (.iface 162 (.agg #[.pointer (some ⟨1, 28, none⟩)]))
set_option maxRecDepth 100000 in
set_option maxHeartbeats 400000 in
theorem tell_nil (w : World) : Calls Tryz.prog 69 #[.nilIface] w fun e w' => e = .returned (.int .i64 0) ∧ Below w.heap.size w w' := by
  go_enter Tryz.func69, Tryz.ntmps69
  go_wp2_with fail
  go_ret
  exact ⟨rfl, Below.refl _ _⟩
theorem ta_at (n : Int) (w : World) : (Instr.typeAssert (.iface 24 (.int .i64 n)) 28 111 true).run Tryz.prog w = .ok (.tuple #[.pointer none, .bool false]) w := by kernel_rfl
theorem ta_unwrap (n : Int) (w : World) : (Instr.typeAssert (.iface 24 (.int .i64 n)) 28 114 true).run Tryz.prog w = .ok (.tuple #[.nilIface, .bool false]) w := run_typeAssert_lacksB Tryz.underlying114 (by kernel_rfl) (by kernel_rfl) _ _ w
set_option maxRecDepth 100000 in
set_option maxHeartbeats 1000000 in
theorem place_nil (w : World) : Calls Tryz.prog 50 #[.nilIface] w fun e w' => e = .returned (.tuple #[.int .i64 0, .int .i64 (-1)]) ∧ Below w.heap.size w w' := by
  have HC := Lib.hid (tell_nil w)
  go_enter Tryz.func50, Tryz.ntmps50
  go_wp2_with fail
  refine HC.out.mono ?_
  rintro e w1 ⟨rfl, hb⟩
  have HB := Lib.hid hb
  clear hb
  go_wp2_with fail
  refine wp_loop_rounds 1 ?_
  rw [rounds_succ]
  go_wp2_with fail
  go_ret2
  exact ⟨rfl, HB.out⟩
set_option maxRecDepth 100000 in
set_option maxHeartbeats 1000000 in
theorem place_en (n : Int) (w : World) (hg : Hnd w) : Calls Tryz.prog 50 #[.iface 24 (.int .i64 n)] w fun e w' => e = .returned (.tuple #[.int .i64 n, .int .i64 (-1)]) ∧ Below w.heap.size w w' := by
  have HC := Lib.hid (tell_en n w hg)
  have h1 := ta_at n
  have h2 := ta_unwrap n
  clear hg
  go_enter Tryz.func50, Tryz.ntmps50
  go_wp2_with fail
  refine HC.out.mono ?_
  rintro e w1 ⟨rfl, hb⟩
  have HB := Lib.hid hb
  clear hb
  go_wp2_with fail
  refine wp_loop_rounds 1 ?_
  rw [rounds_succ]
  go_wp2_with fail
  go_ret2
  exact ⟨rfl, HB.out⟩
theorem place_any {v : Value} {n : Int} (hv : ErrV v n) (w : World) (hg : Hnd w) : Calls Tryz.prog 50 #[v] w fun e w' => e = .returned (.tuple #[.int .i64 n, .int .i64 (-1)]) ∧ Below w.heap.size w w' := by
  rcases hv with ⟨rfl, rfl⟩ | rfl
  · exact place_nil w
  · exact place_en n w hg
set_option maxRecDepth 100000 in
set_option maxHeartbeats 1000000 in
theorem Bare_any (n : Int) (w : World) : Calls Tryz.prog 22 #[.int .i64 n] w fun e w' => e = .returned (.agg #[.int .i64 n, .int .i64 (-1)]) ∧ Below w.heap.size w w' := by
  go_enter Tryz.func22, Tryz.ntmps22
  go_wp2_with fail
  exact bodyPost_ret (v := .agg #[.int .i64 n, .int .i64 (-1)]) (by simp [results, Tryz.results22, go_sem]) rfl ⟨rfl, (Below.refl _ _).alloc (Nat.le_refl _) _⟩
set_option maxRecDepth 100000 in
set_option maxHeartbeats 1000000 in
theorem is_any {v : Value} {n : Int} (hv : ErrV v n) (w : World) (hg : Hnd w) : Calls Tryz.prog 21 #[v, .agg #[.int .i64 n, .int .i64 (-1)]] w fun e w' => e = .returned (.bool true) ∧ Below w.heap.size w w' := by
  obtain ⟨w1, hw1⟩ : ∃ w1, w1 = w.alloc (.cells #[.int .i64 n, .int .i64 (-1)] 68) := ⟨_, rfl⟩
  have hb0 : Below w.heap.size w w1 := by rw [hw1]; exact (Below.refl _ _).alloc (Nat.le_refl _) _
  have hk : w1.heap[w.heap.size]? = some (.cells #[.int .i64 n, .int .i64 (-1)] 68 (0, 0)) := by rw [hw1]; exact new_blk _ _
  have hg1 : Hnd w1 := by rw [hw1]; exact cell_alloc' hg _
  have HC := Lib.hid (place_any hv w1 hg1)
  have HW1 := Lib.hid hw1
  have HB0 := Lib.hid hb0
  have HK := Lib.hid hk
  clear hw1 hb0 hk hg1 hg hv
  go_enter Tryz.func21, Tryz.ntmps21
  go_wp2_with fail
  rw [← HW1.out]
  refine HC.out.mono ?_
  rintro e w2 ⟨rfl, hb⟩
  have HB := Lib.hid (HB0.out.trans (hb.mono HB0.out.size))
  have hk2 := (hb.block w.heap.size (lt_blk HK.out)).trans HK.out
  have c0 : w2.cell? ⟨w.heap.size, 0, none⟩ = some (.int .i64 n) := cell_blk hk2
  have c1 : w2.cell? ⟨w.heap.size, 1, none⟩ = some (.int .i64 (-1)) := cell_blk hk2
  have hl2 : w.heap.size < w2.heap.size := lt_blk hk2
  clear hb hk2 HW1
  go_wp2_with fail
  go_ret
  exact ⟨rfl, HB.out⟩
set_option maxRecDepth 100000 in
set_option maxHeartbeats 1000000 in
theorem bare_any {v : Value} {n : Int} (hv : ErrV v n) (w : World) (hg : Hnd w) : Calls Tryz.prog 7 #[v, .int .i64 n] w fun e w' => e = .returned (.bool true) ∧ Below w.heap.size w w' := by
  have HC := Lib.hid (Bare_any n w)
  have HD : Hid (∀ W, Below w.heap.size w W → Calls Tryz.prog 21 #[v, .agg #[.int .i64 n, .int .i64 (-1)]] W fun e w' => e = .returned (.bool true) ∧ Below W.heap.size W w') := fun W hW => is_any hv W ((hW.cell (p := ⟨0, 0, none⟩) (lt_of_cell hg)).trans hg)
  clear hv hg
  go_enter Tryz.func7, Tryz.ntmps7
  go_wp2_with fail
  refine HC.out.mono ?_
  rintro e w1 ⟨rfl, hb⟩
  have HB := Lib.hid hb
  have HC2 := Lib.hid (HD.out w1 hb)
  clear hb
  go_wp2_with fail
  refine HC2.out.mono ?_
  rintro e w2 ⟨rfl, hb2⟩
  have HB2 := Lib.hid (HB.out.trans (hb2.mono HB.out.size))
  clear hb2
  go_wp2_with fail
  go_ret
  exact ⟨rfl, HB2.out⟩
end Go.Proofs.YtijhpokclpdjpaaGreatDoor
/- The law's own: the same texts, syms, variables, objects. -/
namespace Go.Proofs.YtijhpokclpdjpaaGreatDoor
open Go.RowKit
open Ob (Bs)
theorem drewN_cell (w : World) (n : Nat) (a : Addr) : (w.drewN n).cell? a = w.cell? a := by
  by_cases h : a.block < w.heap.size
  · exact (below_drewN w n).cell (p := a) h
  · have hs : ∀ W : World, ¬ a.block < W.heap.size → W.cell? a = none := fun W hW => by
      rcases hc : W.cell? a with _ | u
      · rfl
      · exact absurd (World.block_lt_of_cell? _ _ hc) hW
    rw [hs w h, hs _ (by simpa using h)]
set_option maxRecDepth 100000 in
set_option maxHeartbeats 1000000 in
theorem sameTexts_eq {w : World} {a b : Option Addr} {c d : Nat} {l : List Bs} (hA : Sl w (.slice a l.length c) 1 l.length (cellsOf stC l)) (hB : Sl w (.slice b l.length d) 1 l.length (cellsOf stC l)) (hn : l.length ≤ 1000000) :
    Calls Tryz.prog 44 #[.slice a l.length c, .slice b l.length d] w fun e w' => e = .returned (.bool true) ∧ ∃ m, w' = w.drewN m := by
  have hn' : (l.length : Int) ≤ 1000000 := by omega
  have HA := Lib.hid hA
  have HB := Lib.hid hB
  clear hA hB
  go_enter Tryz.func44, Tryz.ntmps44
  go_wp2_with fail
  go_loopg [5] l.length (fun k vi wr => ∃ i n : Nat, i ≤ l.length ∧ k = l.length - i ∧ vi = .int .i64 (i : Int) ∧ wr = w.drewN n)
  case atStart => exact ⟨0, 0, by omega, by omega, rfl, rfl⟩
  case round =>
    obtain ⟨i, n, hid, hk, rfl, hwr⟩ := hrel
    by_cases hlt : i < l.length
    · have hlt' : (i : Int) < (l.length : Int) := by omega
      obtain ⟨g, go, rfl, hgl, hcell⟩ := HA.out.at' stC_len (by omega) i hlt
      obtain ⟨g2, go2, rfl, hgl2, hcell2⟩ := HB.out.at' stC_len (by omega) i hlt
      have e0 : (w.drewN n).cell? ⟨g, go + i, none⟩ = some (.string (bs l[i])) := by have := hcell 0 _ rfl; rw [Nat.mul_one, Nat.add_zero] at this; exact (drewN_cell w n _).trans this
      have d0 : (w.drewN n).cell? ⟨g2, go2 + i, none⟩ = some (.string (bs l[i])) := by have := hcell2 0 _ rfl; rw [Nat.mul_one, Nat.add_zero] at this; exact (drewN_cell w n _).trans this
      rw [← hwr] at e0 d0
      have HWR := Lib.hid hwr
      clear hwr
      have hz1 : g < wr.heap.size := lt_of_cell e0
      have hz2 : g2 < wr.heap.size := lt_of_cell d0
      clear hcell hcell2
      generalize l[i] = x at *
      go_wp2_with fail
      go_quiet (fail)
      have HW2 : Hid (wr.drewN nq = w.drewN (n + nq)) := by show _ = _; rw [HWR.out, World.drewN_drewN]
      go_wp2_with fail
      go_roundg (l.length - (i + 1))
      case measure => omega
      case rel => exact ⟨i + 1, n + nq, by omega, rfl, by go_num, HW2.out⟩
    · have hlt' : ¬ (i : Int) < (l.length : Int) := by omega
      have HWR := Lib.hid hwr
      clear hwr
      go_wp2_with fail
      go_ret
      exact ⟨rfl, n, HWR.out⟩
set_option maxRecDepth 100000 in
set_option maxHeartbeats 1000000 in
theorem sameSyms_eq {w : World} {a b : Option Addr} {c d : Nat} {l : List Ob.Sm} (hA : Sl w (.slice a l.length c) 3 l.length (cellsOf smC l)) (hB : Sl w (.slice b l.length d) 3 l.length (cellsOf smC l)) (hn : l.length ≤ 1000000) :
    Calls Tryz.prog 42 #[.slice a l.length c, .slice b l.length d] w fun e w' => e = .returned (.bool true) ∧ ∃ m, w' = w.drewN m := by
  have hn' : (l.length : Int) ≤ 1000000 := by omega
  have HA := Lib.hid hA
  have HB := Lib.hid hB
  clear hA hB
  go_enter Tryz.func42, Tryz.ntmps42
  go_wp2_with fail
  go_loopg [5] l.length (fun k vi wr => ∃ i n : Nat, i ≤ l.length ∧ k = l.length - i ∧ vi = .int .i64 (i : Int) ∧ wr = w.drewN n)
  case atStart => exact ⟨0, 0, by omega, by omega, rfl, rfl⟩
  case round =>
    obtain ⟨i, n, hid, hk, rfl, hwr⟩ := hrel
    by_cases hlt : i < l.length
    · have hlt' : (i : Int) < (l.length : Int) := by omega
      obtain ⟨g, go, rfl, hgl, hcell⟩ := HA.out.at' smC_len (by omega) i hlt
      obtain ⟨g2, go2, rfl, hgl2, hcell2⟩ := HB.out.at' smC_len (by omega) i hlt
      have e0 : (w.drewN n).cell? ⟨g, go + i * 3, none⟩ = some (.string (bs l[i].name)) := (drewN_cell w n _).trans (hcell 0 _ rfl)
      have e1 : (w.drewN n).cell? ⟨g, go + i * 3 + 1, none⟩ = some (.int .i64 l[i].len) := (drewN_cell w n _).trans (hcell 1 _ rfl)
      have e2 : (w.drewN n).cell? ⟨g, go + i * 3 + 2, none⟩ = some (.int .i64 l[i].args) := (drewN_cell w n _).trans (hcell 2 _ rfl)
      have d0 : (w.drewN n).cell? ⟨g2, go2 + i * 3, none⟩ = some (.string (bs l[i].name)) := (drewN_cell w n _).trans (hcell2 0 _ rfl)
      have d1 : (w.drewN n).cell? ⟨g2, go2 + i * 3 + 1, none⟩ = some (.int .i64 l[i].len) := (drewN_cell w n _).trans (hcell2 1 _ rfl)
      have d2 : (w.drewN n).cell? ⟨g2, go2 + i * 3 + 2, none⟩ = some (.int .i64 l[i].args) := (drewN_cell w n _).trans (hcell2 2 _ rfl)
      rw [← hwr] at e0 d0 e1 d1 e2 d2
      have HWR := Lib.hid hwr
      clear hwr
      have hz1 : g < wr.heap.size := lt_of_cell e0
      have hz2 : g2 < wr.heap.size := lt_of_cell d0
      clear hcell hcell2
      generalize l[i] = x at *
      go_wp2_with fail
      go_quiet (fail)
      have HW2 : Hid (wr.drewN nq = w.drewN (n + nq)) := by show _ = _; rw [HWR.out, World.drewN_drewN]
      go_wp2_with fail
      go_roundg (l.length - (i + 1))
      case measure => omega
      case rel => exact ⟨i + 1, n + nq, by omega, rfl, by go_num, HW2.out⟩
    · have hlt' : ¬ (i : Int) < (l.length : Int) := by omega
      have HWR := Lib.hid hwr
      clear hwr
      go_wp2_with fail
      go_ret
      exact ⟨rfl, n, HWR.out⟩
set_option maxRecDepth 100000 in
set_option maxHeartbeats 1000000 in
theorem sameVars_eq {w : World} {a b : Option Addr} {c d : Nat} {l : List Ob.Gl} (hA : Sl w (.slice a l.length c) 4 l.length (cellsOf glC l)) (hB : Sl w (.slice b l.length d) 4 l.length (cellsOf glC l)) (hn : l.length ≤ 1000000) :
    Calls Tryz.prog 43 #[.slice a l.length c, .slice b l.length d] w fun e w' => e = .returned (.bool true) ∧ ∃ m, w' = w.drewN m := by
  have hn' : (l.length : Int) ≤ 1000000 := by omega
  have HA := Lib.hid hA
  have HB := Lib.hid hB
  clear hA hB
  go_enter Tryz.func43, Tryz.ntmps43
  go_wp2_with fail
  go_loopg [5] l.length (fun k vi wr => ∃ i n : Nat, i ≤ l.length ∧ k = l.length - i ∧ vi = .int .i64 (i : Int) ∧ wr = w.drewN n)
  case atStart => exact ⟨0, 0, by omega, by omega, rfl, rfl⟩
  case round =>
    obtain ⟨i, n, hid, hk, rfl, hwr⟩ := hrel
    by_cases hlt : i < l.length
    · have hlt' : (i : Int) < (l.length : Int) := by omega
      obtain ⟨g, go, rfl, hgl, hcell⟩ := HA.out.at' glC_len (by omega) i hlt
      obtain ⟨g2, go2, rfl, hgl2, hcell2⟩ := HB.out.at' glC_len (by omega) i hlt
      have e0 : (w.drewN n).cell? ⟨g, go + i * 4, none⟩ = some (.string (bs l[i].name)) := (drewN_cell w n _).trans (hcell 0 _ rfl)
      have e1 : (w.drewN n).cell? ⟨g, go + i * 4 + 1, none⟩ = some (.int .i64 l[i].at') := (drewN_cell w n _).trans (hcell 1 _ rfl)
      have e2 : (w.drewN n).cell? ⟨g, go + i * 4 + 2, none⟩ = some (.int .i64 l[i].len) := (drewN_cell w n _).trans (hcell 2 _ rfl)
      have e3 : (w.drewN n).cell? ⟨g, go + i * 4 + 3, none⟩ = some (.bool l[i].seen) := (drewN_cell w n _).trans (hcell 3 _ rfl)
      have d0 : (w.drewN n).cell? ⟨g2, go2 + i * 4, none⟩ = some (.string (bs l[i].name)) := (drewN_cell w n _).trans (hcell2 0 _ rfl)
      have d1 : (w.drewN n).cell? ⟨g2, go2 + i * 4 + 1, none⟩ = some (.int .i64 l[i].at') := (drewN_cell w n _).trans (hcell2 1 _ rfl)
      have d2 : (w.drewN n).cell? ⟨g2, go2 + i * 4 + 2, none⟩ = some (.int .i64 l[i].len) := (drewN_cell w n _).trans (hcell2 2 _ rfl)
      have d3 : (w.drewN n).cell? ⟨g2, go2 + i * 4 + 3, none⟩ = some (.bool l[i].seen) := (drewN_cell w n _).trans (hcell2 3 _ rfl)
      rw [← hwr] at e0 d0 e1 d1 e2 d2 e3 d3
      have HWR := Lib.hid hwr
      clear hwr
      have hz1 : g < wr.heap.size := lt_of_cell e0
      have hz2 : g2 < wr.heap.size := lt_of_cell d0
      clear hcell hcell2
      generalize l[i] = x at *
      go_wp2_with fail
      go_quiet (fail)
      have HW2 : Hid (wr.drewN nq = w.drewN (n + nq)) := by show _ = _; rw [HWR.out, World.drewN_drewN]
      go_wp2_with fail
      go_roundg (l.length - (i + 1))
      case measure => omega
      case rel => exact ⟨i + 1, n + nq, by omega, rfl, by go_num, HW2.out⟩
    · have hlt' : ¬ (i : Int) < (l.length : Int) := by omega
      have HWR := Lib.hid hwr
      clear hwr
      go_wp2_with fail
      go_ret
      exact ⟨rfl, n, HWR.out⟩
end Go.Proofs.YtijhpokclpdjpaaGreatDoor
/- The law's own: an object is little enough to be held. -/
namespace Go.Proofs.YtijhpokclpdjpaaGreatDoor
open Go.RowKit
open Ob (Bs)
theorem own_empty (w : World) (e : Nat) : (w.alloc (.cells #[] e)).ownsRow w.heap.size e 1 (.slice (some ⟨w.heap.size, 0, none⟩) 0 0) 0 [] :=
  ⟨rfl, Or.inr ⟨w.heap.size, 0, #[], rfl, Nat.le_refl _, new_blk _ _, Nat.le_refl _, by unfold maxLen; omega, rfl, rfl⟩⟩
theorem stC_one (l : List Bs) : ∀ u ∈ cellsOf stC l, u.oneCell' = true := by
  intro u hu
  unfold cellsOf at hu
  obtain ⟨y, hy, hu⟩ := List.mem_flatten.1 hu
  obtain ⟨x, _, rfl⟩ := List.mem_map.1 hy
  simp [stC] at hu
  subst hu
  rfl
theorem cellsOf_app {α : Type} (c : α → List Value) (a b : List α) : cellsOf c (a ++ b) = cellsOf c a ++ cellsOf c b := by simp [cellsOf]
theorem append_strs {w : World} {base : Nat} {v : Value} {l1 l2 : List Bs} {ad : Option Addr} {cap : Nat} (hown : w.ownsRow base 9 1 v l1.length (cellsOf stC l1)) (hsl : Sl w (.slice ad l2.length cap) 1 l2.length (cellsOf stC l2)) (hb : l1.length + l2.length ≤ 100000) (hbase : base ≤ w.heap.size) :
    ∃ v' w', (Builtin.append_ #[42, 42] 42 #[v, .slice ad l2.length cap]).run Tryz.prog w = .ok v' w' ∧ w'.ownsRow base 9 1 v' (l1.length + l2.length) (cellsOf stC (l1 ++ l2)) ∧ w.grownBy w' v.ownBlock := by
  obtain ⟨i3, hi3, hz30, hz31, hz32⟩ := info_parts Tryz.infoString
  obtain ⟨a', c', he, hlen, hall⟩ := hsl
  cases he
  cases l2 with
  | nil =>
    cases ad with
    | none =>
      refine ⟨v, w, ?_, by simpa [cellsOf] using hown, ⟨rfl, rfl, rfl, Nat.le_refl _, fun _ _ _ => rfl⟩⟩
      have ht := Tryz.underlying42
      rcases hown.2 with ⟨rfl, hn⟩ | ⟨g, cp, cur, rfl, _, _, hnc, _⟩
      · simp [Builtin.append_, run_underlying ht, sizeOf, typeInfo, hi3, Builtin.lenOf, Builtin.firstCells]
      · simp [Builtin.append_, run_underlying ht, sizeOf, typeInfo, hi3, Builtin.lenOf, Builtin.firstCells, hnc, storeCells]
    | some a =>
      obtain ⟨v', w', r1, r2, r3, _⟩ := run_append_where (P := Tryz.prog) w base 42 42 9 i3 (.string ⟨#[]⟩) 1 16 Tryz.underlying42 hi3 hz30 hz31 hz32 rfl (by decide) v l1.length _ hown a 0 cap [] rfl (fun j u hj => by simp at hj) (fun u hu => by cases hu) (by unfold maxLen; simp at hb; omega) (by simp at hb; omega) hbase
      exact ⟨v', w', r1, by simpa [cellsOf] using r2, r3⟩
  | cons x l2 =>
    obtain ⟨b, o, hao, h0⟩ := hall 0 (.string (bs x)) rfl
    subst hao
    obtain ⟨v', w', r1, r2, r3, _⟩ := run_append_where (P := Tryz.prog) w base 42 42 9 i3 (.string ⟨#[]⟩) 1 16 Tryz.underlying42 hi3 hz30 hz31 hz32 rfl (by decide) v l1.length _ hown ⟨b, o, none⟩ (x :: l2).length cap (cellsOf stC (x :: l2)) hlen (fun j u hj => by
      obtain ⟨b', o', e', hc⟩ := hall j u hj
      cases e'
      rw [Addr.add_lit]; exact hc) (stC_one _) (by unfold maxLen; omega) (by omega) hbase
    exact ⟨v', w', r1, by rw [cellsOf_app]; exact r2, r3⟩
theorem wpList_app_run {P : Program} {w : World} {ops : Array Oper} {rest : List Oper} {o : Oper} {a : Act} {Q : Exit → Act → World → Prop} (hgd : o.guard = none) (s x : Operand) (t : TypeId) (ho : o.op = .call { callee := .builtin .append, args := #[s, x], argTypes := #[t, t] }) {v v2 v' : Value} {w' : World} (hs : a.eval s = v) (hx : a.eval x = v2)
    (hr : (Builtin.append_ #[t, t] o.type #[v, v2]).run P w = .ok v' w') (h : wpList P ops Q rest (a.put o.dst v') w') : wpList P ops Q (o :: rest) a w := by
  refine wpList_plain hgd fun K hK => ?_
  unfold Oper.wp
  simp [execOp, ho, resolve, invoke, builtin, hs, hx, hr, Result.andThen]
  exact hK _ _ h
theorem step_app_run {P : Program} {ops : Array Oper} {o : Oper} {a : Act} {w : World} {K : Act → World → Prop} {Q : Exit → Act → World → Prop} {E : Prop} (hg : o.guard = none) (s x : Operand) (t : TypeId) (ho : o.op = .call { callee := .builtin .append, args := #[s, x], argTypes := #[t, t] }) {v v2 v' : Value} {w' : World} (hs : a.eval s = v) (hx : a.eval x = v2)
    (hr : (Builtin.append_ #[t, t] o.type #[v, v2]).run P w = .ok v' w') (hK : K (a.put o.dst v') w') : if Region.wanted o (yielded ops a.tmps) = true then Oper.wp P o a w K Q else E := by
  rw [if_pos (by simp [Region.wanted, hg])]
  unfold Oper.wp
  simp [execOp, ho, resolve, invoke, builtin, hs, hx, hr, Result.andThen]
  exact hK
set_option maxRecDepth 100000 in
set_option maxHeartbeats 400000 in
theorem small_nil (w : World) : Calls Tryz.prog 4 #[.pointer none] w fun e w' => e = .returned (.bool true) ∧ w' = w := by
  go_enter Tryz.func4, Tryz.ntmps4
  go_wp2_with fail
  go_ret
  exact ⟨rfl, rfl⟩
theorem append_strs1 {w : World} {base : Nat} {v : Value} {l1 : List Bs} (x : Bs) (hown : w.ownsRow base 9 1 v l1.length (cellsOf stC l1)) (hb : l1.length ≤ 10000) (hbase : base ≤ w.heap.size) :
    ∃ v' w', (Builtin.append_ #[42, 42] 42 #[v, .slice (some ⟨w.heap.size, 0, none⟩) 1 1]).run Tryz.prog (w.alloc (.cells #[.string (bs x)] 9)) = .ok v' w' ∧ w'.ownsRow base 9 1 v' (l1.length + 1) (cellsOf stC (l1 ++ [x])) ∧ Below base w w' := by
  have hbA : Below w.heap.size w (w.alloc (.cells #[.string (bs x)] 9)) := (Below.refl _ _).alloc (Nat.le_refl _) _
  have hsl : Sl (w.alloc (.cells #[.string (bs x)] 9)) (.slice (some ⟨w.heap.size, 0, none⟩) [x].length 1) 1 [x].length (cellsOf stC [x]) := ⟨_, _, rfl, rfl, fun j u hj => by
    match j, hj with
    | 0, hj => exact ⟨w.heap.size, 0, rfl, (cell_blk (new_blk w _)).trans hj⟩⟩
  obtain ⟨v', w', r1, r2, r3⟩ := append_strs (owns_below hown hbA) hsl (by simp; omega) (Nat.le_trans hbase hbA.size)
  exact ⟨v', w', r1, r2, (hbA.mono hbase).trans ((Below.refl _ _).grown r3 (Nat.le_trans hbase hbA.size) (owns_row hown))⟩
end Go.Proofs.YtijhpokclpdjpaaGreatDoor
/- The law's own: small, walked. -/
namespace Go.Proofs.YtijhpokclpdjpaaGreatDoor
open Go.RowKit
open Ob (Bs)
def SmP (w : World) (O : Ob.O) (e : Ending) (w' : World) : Prop := Below w.heap.size w w' ∧ ∃ s, e = .returned (.bool s) ∧ (s = true → Bd O)
theorem small_bd {O : Ob.O} (h0 : O.name.length ≤ 40) (h1 : O.syms.length ≤ 30) (h2 : O.uses.length ≤ 10) (h3 : O.vars.length ≤ 15) (h4 : O.procs.length ≤ 15) (h5 : O.names.length ≤ 15) (h6 : O.code.length ≤ 80)
    (hall : ∀ y ∈ O.names ++ O.syms.map (·.name) ++ O.vars.map (·.name) ++ (O.uses.map (fun u => u.name :: u.names)).flatten, y.length ≤ 40) (hu : ∀ u ∈ O.uses, u.names.length ≤ 110) (hI : ∀ x ∈ O.code, Ob.I64 x.a) : Bd O := by
  refine ⟨by omega, by omega, fun x hx => ?_, by omega, fun x hx => ⟨?_, ?_, fun y hy => ?_⟩, by omega, fun x hx => ?_, by omega, by omega, fun x hx => ?_, by omega, hI⟩
  · have := hall x.name (by simp; exact Or.inr (Or.inl ⟨x, hx, rfl⟩)); omega
  · have := hall x.name (List.mem_append_right _ (List.mem_flatten.2 ⟨_, List.mem_map.2 ⟨x, hx, rfl⟩, by simp⟩)); omega
  · have := hu x hx; omega
  · have := hall y (List.mem_append_right _ (List.mem_flatten.2 ⟨_, List.mem_map.2 ⟨x, hx, rfl⟩, by simp [hy]⟩)); omega
  · have := hall x.name (by simp; exact Or.inr (Or.inr (Or.inl ⟨x, hx, rfl⟩))); omega
  · have := hall x (by simp [hx]); omega
set_option maxRecDepth 100000 in
set_option maxHeartbeats 8000000 in
theorem small_any {w : World} {b o : Nat} {O : Ob.O} {sa ua va pa na ca : Option Addr} {sc uc vc pc nc cc : Nat} (hV : OV w b o O sa ua va pa na ca sc uc vc pc nc cc) (hI : ∀ x ∈ O.code, Ob.I64 x.a) :
    Calls Tryz.prog 4 #[.pointer (some ⟨b, o, none⟩)] w fun e w' => SmP w O e w' ∧ w.heap.size ≤ w'.heap.size := by
  have hbl := lt_of_cell hV.c0
  have c0 := hV.c0
  have c1 := hV.c1
  have c2 := hV.c2
  have c3 := hV.c3
  have c4 := hV.c4
  have c5 := hV.c5
  have c6 := hV.c6
  have hz := bs_size O.name
  have HK : Hid (∀ W, Below w.heap.size w W → OV W b o O sa ua va pa na ca sc uc vc pc nc cc) := fun W h => hV.below h
  have HI := Lib.hid hI
  have HV := Lib.hid hV
  have HNO : Hid (∀ W, Below w.heap.size w W → SmP w O (.returned (.bool false)) W) := fun W h => ⟨h, false, rfl, fun h => by cases h⟩
  have HYES : Hid (∀ W, Below w.heap.size w W → Bd O → SmP w O (.returned (.bool true)) W) := fun W h hb => ⟨h, true, rfl, fun _ => hb⟩
  generalize SmP w O = PP at *
  clear hV hI
  by_cases h0 : (O.name.length : Int) ≤ 40
  rotate_left
  · have h0g : decide ((40 : Int) < (O.name.length : Int)) = true := decide_eq_true (by omega)
    go_enter Tryz.func4, Tryz.ntmps4
    go_wp2_with fail
    go_ret
    exact ⟨HNO.out _ (Below.refl _ _), Nat.le_refl _⟩
  by_cases h1 : (O.syms.length : Int) ≤ 30
  rotate_left
  · have h1g : decide ((30 : Int) < (O.syms.length : Int)) = true := decide_eq_true (by omega)
    go_enter Tryz.func4, Tryz.ntmps4
    go_wp2_with fail
    go_ret
    exact ⟨HNO.out _ (Below.refl _ _), Nat.le_refl _⟩
  by_cases h2 : (O.uses.length : Int) ≤ 10
  rotate_left
  · have h2g : decide ((10 : Int) < (O.uses.length : Int)) = true := decide_eq_true (by omega)
    go_enter Tryz.func4, Tryz.ntmps4
    go_wp2_with fail
    go_ret
    exact ⟨HNO.out _ (Below.refl _ _), Nat.le_refl _⟩
  by_cases h3 : (O.vars.length : Int) ≤ 15
  rotate_left
  · have h3g : decide ((15 : Int) < (O.vars.length : Int)) = true := decide_eq_true (by omega)
    go_enter Tryz.func4, Tryz.ntmps4
    go_wp2_with fail
    go_ret
    exact ⟨HNO.out _ (Below.refl _ _), Nat.le_refl _⟩
  by_cases h4 : (O.procs.length : Int) ≤ 15
  rotate_left
  · have h4g : decide ((15 : Int) < (O.procs.length : Int)) = true := decide_eq_true (by omega)
    go_enter Tryz.func4, Tryz.ntmps4
    go_wp2_with fail
    go_ret
    exact ⟨HNO.out _ (Below.refl _ _), Nat.le_refl _⟩
  by_cases h5 : (O.names.length : Int) ≤ 15
  rotate_left
  · have h5g : decide ((15 : Int) < (O.names.length : Int)) = true := decide_eq_true (by omega)
    go_enter Tryz.func4, Tryz.ntmps4
    go_wp2_with fail
    go_ret
    exact ⟨HNO.out _ (Below.refl _ _), Nat.le_refl _⟩
  by_cases h6 : (O.code.length : Int) ≤ 80
  rotate_left
  · have h6g : decide ((80 : Int) < (O.code.length : Int)) = true := decide_eq_true (by omega)
    go_enter Tryz.func4, Tryz.ntmps4
    go_wp2_with fail
    go_ret
    exact ⟨HNO.out _ (Below.refl _ _), Nat.le_refl _⟩
  have HAP0 : Hid (∃ v' w', (Builtin.append_ #[42, 42] 42 #[.slice (some ⟨w.heap.size, 0, none⟩) 0 0, .slice na O.names.length nc]).run Tryz.prog (w.alloc (.cells #[] 9)) = .ok v' w' ∧ w'.ownsRow w.heap.size 9 1 v' O.names.length (cellsOf stC O.names) ∧ Below w.heap.size w w') := by
    have hbA : Below w.heap.size w (w.alloc (.cells #[] 9)) := (Below.refl _ _).alloc (Nat.le_refl _) _
    obtain ⟨v', w', r1, r2, r3⟩ := append_strs (l1 := []) (own_empty w 9) (HV.out.n.below hbA) (by simp; omega) hbA.size
    refine ⟨v', w', r1, by simpa using r2, hbA.trans ((Below.refl _ _).grown r3 hbA.size (fun g hg => ?_))⟩
    simp [Value.ownBlock] at hg
    omega
  obtain ⟨v1, w1, hrun1, hown1, hb1⟩ := HAP0.out
  obtain ⟨va1, vc1, rfl⟩ := owns_shape hown1
  have HO1 := Lib.hid hown1
  have HB1 := Lib.hid hb1
  have c5a : (w.alloc (.cells #[] 9)).cell? ⟨b, o + 5, none⟩ = some (.slice na O.names.length nc) := cell_alloc c5 _
  clear hown1 hb1 HAP0 HV
  go_enter Tryz.func4, Tryz.ntmps4
  go_upto_region 6 with (at_builtin; refine wpList_app_run rfl _ _ 42 rfl rfl rfl hrun1 ?_)

  have kk : w1.cell? ⟨b, o + 1, none⟩ = some (.slice sa O.syms.length sc) := (HK.out _ HB1.out).c1
  have hblr : b < w1.heap.size := lt_of_cell kk
  go_wp2_with fail
  clear kk hblr
  go_loopg [3, 4] O.syms.length (fun k vs vi wr => ∃ (i : Nat) (xs : List Bs), i ≤ O.syms.length ∧ k = O.syms.length - i ∧ vi = .int .i64 (i : Int) ∧ Hid (wr.ownsRow w.heap.size 9 1 vs xs.length (cellsOf stC xs)) ∧ Hid (xs = O.names ++ (O.syms.take i).map (·.name)) ∧ Hid (Below w.heap.size w wr))
  case atStart => exact ⟨0, O.names, by omega, by omega, rfl, HO1, by show _ = _; simp, HB1⟩
  case round =>
    obtain ⟨i, xs, hid, hk, rfl, HO, HX, HB⟩ := hrel
    have kk : wr.cell? ⟨b, o + 1, none⟩ = some (.slice sa O.syms.length sc) := (HK.out _ HB.out).c1
    have hblr : b < wr.heap.size := lt_of_cell kk
    obtain ⟨xa, xc, rfl⟩ := owns_shape HO.out
    by_cases hlt : i < O.syms.length
    · have hlt' : (i : Int) < (O.syms.length : Int) := by omega
      obtain ⟨g, go, rfl, hgl, hcell⟩ := (HK.out _ HB.out).s.at' smC_len (by omega) i hlt
      have e0 : wr.cell? ⟨g, go + i * 3, none⟩ = some (.string (bs O.syms[i].name)) := hcell 0 _ rfl
      have hxl : xs.length ≤ 1000 := by rw [HX.out]; simp; omega
      have HX2 : Hid (xs ++ [O.syms[i].name] = O.names ++ (O.syms.take (i + 1)).map (·.name)) := by show _ = _; rw [HX.out, List.take_succ_eq_append_getElem hlt, List.map_append, ← List.append_assoc]; rfl
      generalize O.syms[i].name = x at *
      obtain ⟨v2, w2, hrun2, hown2, hb2⟩ := append_strs1 x HO.out (by omega) HB.out.size
      have HO2 : Hid (w2.ownsRow w.heap.size 9 1 v2 (xs ++ [x]).length (cellsOf stC (xs ++ [x]))) := by rw [List.length_append]; exact hown2
      have HB2 : Hid (Below w.heap.size w w2) := HB.out.trans hb2
      obtain ⟨va2, vc2, rfl⟩ := owns_shape hown2
      clear hown2 hb2 hcell HX
      go_wp2_with (at_builtin; refine wpList_app_run rfl _ _ 42 rfl rfl rfl hrun2 ?_)
      go_roundg (O.syms.length - (i + 1))
      case measure => omega
      case rel => exact ⟨i + 1, xs ++ [x], by omega, rfl, by go_num, HO2, HX2, HB2⟩
    · have hlt' : ¬ (i : Int) < (O.syms.length : Int) := by omega
      have HX2 : Hid (xs = O.names ++ O.syms.map (·.name)) := by show _ = _; rw [HX.out, List.take_of_length_le (by omega)]
      clear HX hk
      have kk : wr.cell? ⟨b, o + 3, none⟩ = some (.slice va O.vars.length vc) := (HK.out _ HB.out).c3
      have hblr : b < wr.heap.size := lt_of_cell kk
      go_wp2_with fail
      clear kk hblr
      go_loopg [3, 5] O.vars.length (fun k vs vi wr => ∃ (i : Nat) (xs : List Bs), i ≤ O.vars.length ∧ k = O.vars.length - i ∧ vi = .int .i64 (i : Int) ∧ Hid (wr.ownsRow w.heap.size 9 1 vs xs.length (cellsOf stC xs)) ∧ Hid (xs = (O.names ++ O.syms.map (·.name)) ++ (O.vars.take i).map (·.name)) ∧ Hid (Below w.heap.size w wr))
      case atStart => exact ⟨0, xs, by omega, by omega, rfl, HO, by show _ = _; rw [HX2.out]; simp, HB⟩
      case round =>
        obtain ⟨i, xs, hid, hk, rfl, HO, HX, HB⟩ := hrel
        have kk : wr.cell? ⟨b, o + 3, none⟩ = some (.slice va O.vars.length vc) := (HK.out _ HB.out).c3
        have hblr : b < wr.heap.size := lt_of_cell kk
        obtain ⟨xa, xc, rfl⟩ := owns_shape HO.out
        by_cases hlt : i < O.vars.length
        · have hlt' : (i : Int) < (O.vars.length : Int) := by omega
          obtain ⟨g, go, rfl, hgl, hcell⟩ := (HK.out _ HB.out).v.at' glC_len (by omega) i hlt
          have e0 : wr.cell? ⟨g, go + i * 4, none⟩ = some (.string (bs O.vars[i].name)) := hcell 0 _ rfl
          have hxl : xs.length ≤ 1000 := by rw [HX.out]; simp; omega
          have HX2 : Hid (xs ++ [O.vars[i].name] = (O.names ++ O.syms.map (·.name)) ++ (O.vars.take (i + 1)).map (·.name)) := by show _ = _; rw [HX.out, List.take_succ_eq_append_getElem hlt, List.map_append, ← List.append_assoc]; rfl
          generalize O.vars[i].name = x at *
          obtain ⟨v2, w2, hrun2, hown2, hb2⟩ := append_strs1 x HO.out (by omega) HB.out.size
          have HO2 : Hid (w2.ownsRow w.heap.size 9 1 v2 (xs ++ [x]).length (cellsOf stC (xs ++ [x]))) := by rw [List.length_append]; exact hown2
          have HB2 : Hid (Below w.heap.size w w2) := HB.out.trans hb2
          obtain ⟨va2, vc2, rfl⟩ := owns_shape hown2
          clear hown2 hb2 hcell HX
          go_wp2_with (at_builtin; refine wpList_app_run rfl _ _ 42 rfl rfl rfl hrun2 ?_)
          go_roundg (O.vars.length - (i + 1))
          case measure => omega
          case rel => exact ⟨i + 1, xs ++ [x], by omega, rfl, by go_num, HO2, HX2, HB2⟩
        · have hlt' : ¬ (i : Int) < (O.vars.length : Int) := by omega
          have HX2 : Hid (xs = (O.names ++ O.syms.map (·.name)) ++ O.vars.map (·.name)) := by show _ = _; rw [HX.out, List.take_of_length_le (by omega)]
          clear HX hk
          have kk : wr.cell? ⟨b, o + 2, none⟩ = some (.slice ua O.uses.length uc) := (HK.out _ HB.out).c2
          have hblr : b < wr.heap.size := lt_of_cell kk
          have HXL : Hid (xs.length ≤ 60) := by show _ ≤ _; rw [HX2.out]; simp; omega
          go_wp2_with fail
          clear kk hblr
          go_loopg [3, 6] O.uses.length (fun k vs vi wr => ∃ (i : Nat) (xs : List Bs), i ≤ O.uses.length ∧ k = O.uses.length - i ∧ vi = .int .i64 (i : Int) ∧ Hid (wr.ownsRow w.heap.size 9 1 vs xs.length (cellsOf stC xs)) ∧ Hid (xs = (O.names ++ O.syms.map (·.name) ++ O.vars.map (·.name)) ++ ((O.uses.take i).map (fun u => u.name :: u.names)).flatten) ∧ Hid (xs.length ≤ 60 + 111 * i ∧ ∀ u ∈ O.uses.take i, u.names.length ≤ 110) ∧ Hid (Below w.heap.size w wr))
          case atStart => exact ⟨0, xs, by omega, by omega, rfl, HO, by show _ = _; rw [HX2.out]; simp, ⟨by have := HXL.out; omega, by simp⟩, HB⟩
          case round =>
            clear HXL HX2 HO HB
            obtain ⟨i, xs, hid, hk, rfl, HO, HX, HL, HB⟩ := hrel
            have kk : wr.cell? ⟨b, o + 2, none⟩ = some (.slice ua O.uses.length uc) := (HK.out _ HB.out).c2
            have hblr : b < wr.heap.size := lt_of_cell kk
            obtain ⟨xa, xc, rfl⟩ := owns_shape HO.out
            by_cases hlt : i < O.uses.length
            · have hlt' : (i : Int) < (O.uses.length : Int) := by omega
              obtain ⟨ucs, hU1, hU2⟩ := (HK.out w (Below.refl _ _)).u
              obtain ⟨na', nc', q0, q1, q2, q3⟩ := RepN.get _ _ hU1 i hlt
              obtain ⟨a0', c0', hsl0, _, hall⟩ := hU2
              cases hsl0
              obtain ⟨g, go, rfl, f0⟩ := hall _ _ q0
              obtain ⟨g', go', hgg, f1⟩ := hall _ _ q1
              cases hgg
              obtain ⟨g', go', hgg, f2⟩ := hall _ _ q2
              cases hgg
              have f1 : w.cell? ⟨g, go + i * 3 + 1, none⟩ = some (.string (bs O.uses[i].need)) := f1
              have f2 : w.cell? ⟨g, go + i * 3 + 2, none⟩ = some (.slice na' O.uses[i].names.length nc') := f2
              have hgw := lt_of_cell f0
              have HE : Hid (∀ W, Below w.heap.size w W → W.cell? ⟨g, go + i * 3, none⟩ = some (.string (bs O.uses[i].name)) ∧ W.cell? ⟨g, go + i * 3 + 1, none⟩ = some (.string (bs O.uses[i].need)) ∧ W.cell? ⟨g, go + i * 3 + 2, none⟩ = some (.slice na' O.uses[i].names.length nc')) := fun W h => ⟨(h.cell (p := ⟨g, go + i * 3, none⟩) hgw).trans f0, (h.cell (p := ⟨g, go + i * 3 + 1, none⟩) hgw).trans f1, (h.cell (p := ⟨g, go + i * 3 + 2, none⟩) hgw).trans f2⟩
              obtain ⟨e0, e1, e2⟩ := HE.out _ HB.out
              clear f0 f1 f2
              have hgl := lt_of_cell e0
              have hzn := bs_size O.uses[i].need
              have HX3 : Hid (xs ++ [O.uses[i].name] ++ O.uses[i].names = (O.names ++ O.syms.map (·.name) ++ O.vars.map (·.name)) ++ ((O.uses.take (i + 1)).map (fun u => u.name :: u.names)).flatten) := by show _ = _; rw [HX.out, List.take_succ_eq_append_getElem hlt, List.map_append, List.flatten_append]; simp
              have HL3 : Hid (O.uses[i].names.length ≤ 110 → ∀ u ∈ O.uses.take (i + 1), u.names.length ≤ 110) := fun hle u hu => by
                rw [List.take_succ_eq_append_getElem hlt] at hu
                rcases List.mem_append.1 hu with hu | hu
                · exact HL.out.2 u hu
                · rw [List.mem_singleton.1 hu]; exact hle
              generalize O.uses[i] = x at *
              clear q0 q1 q2 hU1 hall hgw
              by_cases h110 : (x.names.length : Int) ≤ 110
              rotate_left
              · have h110g : decide ((110 : Int) < (x.names.length : Int)) = true := decide_eq_true (by omega)
                have HFIN := Lib.hid (HNO.out _ HB.out)
                have HSZ := Lib.hid HB.out.size
                go_wp2_with fail
                go_ret
                exact ⟨HFIN.out, HSZ.out⟩
              · by_cases h41 : (x.need.length : Int) ≤ 4100
                rotate_left
                · have h110g : decide ((110 : Int) < (x.names.length : Int)) = false := decide_eq_false (by omega)
                  have h41g : decide ((4100 : Int) < (x.need.length : Int)) = true := decide_eq_true (by omega)
                  have HFIN := Lib.hid (HNO.out _ HB.out)
                  have HSZ := Lib.hid HB.out.size
                  go_wp2_with fail
                  go_ret
                  exact ⟨HFIN.out, HSZ.out⟩
                · have h110g : decide ((110 : Int) < (x.names.length : Int)) = false := decide_eq_false (by omega)
                  have h41g : decide ((4100 : Int) < (x.need.length : Int)) = false := decide_eq_false (by omega)
                  have hbA : Below wr.heap.size wr (wr.alloc (.cells #[.string (bs x.name)] 9)).drew := ((Below.refl _ _).alloc (Nat.le_refl _) _).drew
                  have hsl1 : Sl (wr.alloc (.cells #[.string (bs x.name)] 9)).drew (.slice (some ⟨wr.heap.size, 0, none⟩) [x.name].length 1) 1 [x.name].length (cellsOf stC [x.name]) := ⟨_, _, rfl, rfl, fun j u hj => by
                    match j, hj with
                    | 0, hj => exact ⟨wr.heap.size, 0, rfl, (cell_blk (new_blk wr _)).trans hj⟩⟩
                  have hl0 := HL.out.1
                  obtain ⟨v3, w3, hr3, ho3, hg3⟩ := append_strs (owns_below HO.out (hbA.mono (Nat.le_refl _))) hsl1 (by simp; omega) (Nat.le_trans HB.out.size hbA.size)
                  have hb3 : Below w.heap.size wr w3 := (hbA.mono HB.out.size).trans ((Below.refl _ _).grown hg3 (Nat.le_trans HB.out.size hbA.size) (owns_row HO.out))
                  have hb3w := HB.out.trans hb3
                  have ho3' : w3.ownsRow w.heap.size 9 1 v3 (xs ++ [x.name]).length (cellsOf stC (xs ++ [x.name])) := by rw [List.length_append]; exact ho3
                  obtain ⟨v4, w4, hr4, ho4, hg4⟩ := append_strs ho3' (q3.below hb3w) (by simp; omega) hb3w.size
                  have hb4 : Below w.heap.size w w4 := hb3w.trans ((Below.refl _ _).grown hg4 hb3w.size (owns_row ho3'))
                  have HO4 : Hid (w4.ownsRow w.heap.size 9 1 v4 (xs ++ [x.name] ++ x.names).length (cellsOf stC (xs ++ [x.name] ++ x.names))) := by rw [List.length_append]; exact ho4
                  have HB4 := Lib.hid hb4
                  have HLE : Hid ((xs ++ [x.name] ++ x.names).length ≤ 60 + 111 * (i + 1)) := by show _ ≤ _; simp; omega
                  have HL4 := Lib.hid (HL3.out (by omega))
                  obtain ⟨va3, vc3, rfl⟩ := owns_shape ho3'
                  obtain ⟨va4, vc4, rfl⟩ := owns_shape ho4
                  rw [show (xs ++ [x.name]).length + x.names.length = xs.length + 1 + x.names.length by simp] at HO4
                  have k3 : w3.cell? ⟨b, o + 2, none⟩ = some (.slice (some ⟨g, go, none⟩) O.uses.length uc) := (HK.out _ hb3w).c2
                  obtain ⟨e03, e13, e23⟩ := HE.out _ hb3w
                  have HR3 := Lib.hid hr3
                  have HR4 := Lib.hid hr4
                  have hb3l : b < w3.heap.size := lt_of_cell k3
                  clear hr3 hr4 ho3 ho3' ho4 hb4 hb3 hb3w hg3 hg4 hsl1 hbA HL3 HO HL hl0 q3
                  go_wp2_with fail
                  go_region_law (first | (refine step_app_run rfl (.tmp 141) (.tmp 150) 42 rfl (v := .slice xa xs.length xc) (v2 := .slice (some ⟨wr.heap.size, 0, none⟩) 1 1) (by simp [Act.eval, Act.put]) (by simp [Act.eval, Act.put]) HR3.out ?_) | (refine step_app_run rfl (.tmp 151) (.tmp 159) 42 rfl (v := .slice va3 (xs ++ [x.name]).length vc3) (v2 := .slice na' x.names.length nc') (by simp [Act.eval]) (by simp [Act.eval]) HR4.out ?_))
                  all_goals
                    go_wp2_with fail
                    go_roundg (O.uses.length - (i + 1))
                    case measure => omega
                    case rel => exact ⟨i + 1, xs ++ [x.name] ++ x.names, by omega, rfl, by go_num, HO4, HX3, ⟨HLE.out, HL4.out⟩, HB4⟩
            · have hlt' : ¬ (i : Int) < (O.uses.length : Int) := by omega
              have HX2 : Hid (xs = (O.names ++ O.syms.map (·.name) ++ O.vars.map (·.name)) ++ (O.uses.map (fun u => u.name :: u.names)).flatten) := by show _ = _; rw [HX.out, List.take_of_length_le (by omega)]
              have HU : Hid (∀ u ∈ O.uses, u.names.length ≤ 110) := by have h2 := HL.out.2; rw [List.take_of_length_le (by omega)] at h2; exact h2
              have HXL : Hid (xs.length ≤ 100000) := by have h2 := HL.out.1; show _ ≤ _; omega
              have HS := Lib.hid (Row.of_owns HO.out).sl
              have HFIN := Lib.hid (HNO.out _ HB.out)
              have HSZ := Lib.hid HB.out.size
              have hxl : (xs.length : Int) ≤ 100000 := by have := HXL.out; omega
              clear HX hk HL
              obtain ⟨wx, hwx⟩ : ∃ wx, wx = wr := ⟨_, rfl⟩
              subst hwx
              go_wp2_with fail
              clear kk hblr
              go_loopg [7] xs.length (fun k vi wr => ∃ (i : Nat), i ≤ xs.length ∧ k = xs.length - i ∧ vi = .int .i64 (i : Int) ∧ Hid (∀ y ∈ xs.take i, y.length ≤ 40) ∧ Hid (wr = wx))
              case atStart => exact ⟨0, by omega, by omega, rfl, by simp [Hid], rfl⟩
              case round =>
                obtain ⟨j, hjd, hjk, rfl, HJ, HW⟩ := hrel
                have hwe := HW.out
                subst hwe
                by_cases hjl : j < xs.length
                · have hjl' : (j : Int) < (xs.length : Int) := by omega
                  obtain ⟨gx, ox, rfl, hgxl, hcx⟩ := HS.out.at' stC_len (by omega) j hjl
                  have ex0 : wr.cell? ⟨gx, ox + j, none⟩ = some (.string (bs xs[j])) := by have := hcx 0 _ rfl; simpa using this
                  have hzx := bs_size xs[j]
                  have HJ2 : Hid (xs[j].length ≤ 40 → ∀ y ∈ xs.take (j + 1), y.length ≤ 40) := fun hle y hy => by
                    rw [List.take_succ_eq_append_getElem hjl] at hy
                    rcases List.mem_append.1 hy with hy | hy
                    · exact HJ.out y hy
                    · rw [List.mem_singleton.1 hy]; exact hle
                  clear hcx
                  generalize xs[j] = y at *
                  by_cases h40 : (y.length : Int) ≤ 40
                  · have h40g : decide ((40 : Int) < (y.length : Int)) = false := decide_eq_false (by omega)
                    go_wp2_with fail
                    go_roundg (xs.length - (j + 1))
                    case measure => omega
                    case rel => exact ⟨j + 1, by omega, rfl, by go_num, HJ2.out (by omega), rfl⟩
                  · have h40g : decide ((40 : Int) < (y.length : Int)) = true := decide_eq_true (by omega)
                    go_wp2_with fail
                    go_ret
                    exact ⟨HFIN.out, HSZ.out⟩
                · have hjl' : ¬ (j : Int) < (xs.length : Int) := by omega
                  have HJ3 : Hid (∀ y ∈ xs, y.length ≤ 40) := by have h2 := HJ.out; rw [List.take_of_length_le (by omega)] at h2; exact h2
                  go_wp2_with fail
                  go_ret
                  refine ⟨HYES.out _ HB.out ?_, HSZ.out⟩
                  have hall := HJ3.out
                  rw [HX2.out] at hall
                  exact small_bd (by omega) (by omega) (by omega) (by omega) (by omega) (by omega) (by omega) hall HU.out HI.out
end Go.Proofs.YtijhpokclpdjpaaGreatDoor
