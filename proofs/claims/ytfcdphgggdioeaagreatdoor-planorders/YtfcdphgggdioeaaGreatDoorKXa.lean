import Derived.Test.YtfcdphgggdioeaaGreatDoorKWa
import Derived.Test.YtfcdphgggdioeaaGreatDoorKGa
import Derived.Test.YtfcdphgggdioeaaGreatDoorKSha
import Derived.LaidEql
import Derived.RowKitTokens
import Derived.Stop.Asserts
import Derived.Lib.Hide
import Derived.Deep.Quiet
import Derived.Lib.QuietBelow
import Derived.Deep.CutRange
import Derived.Deep.DeepCutAuto
/- The Errno in an error: errors.As at a *Errno, Tell. -/
namespace Go.Proofs.YtfcdphgggdioeaaGreatDoor
open Go.RowKit Go.Extern.Stop Go.Stop Go.Extern

theorem ext_below {b B : Nat} {w w' : World} (h : Ext b w w') (hb : B ≤ b) (hs : B ≤ w.heap.size) : Below B w w' :=
  ⟨h.os, h.tape, h.output, h.size, fun k hk => h.block k (by omega) (by omega)⟩
theorem cell_alloc' {w : World} {a : Addr} {v : Value} (h : w.cell? a = some v) (ob : Obj) : (w.alloc ob).cell? a = some v := by
  rw [World.cell?_alloc_lt _ _ _ (World.block_lt_of_cell? _ _ h)]; exact h
theorem rl_valueP (t : Addr) (w : World) : (ReflectliteValue.unpack (.iface 177 (.pointer (some t)))).run Tryz.prog w
    = .ok (.agg #[.pointer (some ⟨9, 177, none⟩), .pointer (some ⟨w.heap.size, 0, none⟩), .int .u64 150]) (w.alloc (.cells #[.pointer (some t)] 177)) := by kernel_rfl
theorem rl_valueE (n : Int) (w : World) : (ReflectliteValue.unpack (.iface 29 (.int .i64 n))).run Tryz.prog w
    = .ok (.agg #[.pointer (some ⟨9, 29, none⟩), .pointer (some ⟨w.heap.size, 0, none⟩), .int .u64 130]) (w.alloc (.cells #[.int .i64 n] 29)) := by kernel_rfl
theorem rl_typeP (a : Addr) (w : World) : (ReflectliteValue.methodAny (ReflectliteValue.valueError "reflectlite.Value.Type" 0) (fun t _ _ _ => ReflectliteType.toType t) #[.agg #[.pointer (some ⟨9, 177, none⟩), .pointer (some a), .int .u64 150]]).run Tryz.prog w
    = .ok (.iface 183 (.agg #[.pointer (some ⟨9, 177, none⟩)])) w := by kernel_rfl
theorem rl_kindP (w : World) : ((ReflectliteType.abiMethod fun t => (fun a : Nat => Value.int IntKind.u8 (a : Int)) <$> Rtype.kind t) #[.pointer (some ⟨9, 177, none⟩)]).run Tryz.prog w = .ok (.int .u8 22) w := by kernel_rfl
theorem rl_kindE (w : World) : ((ReflectliteType.abiMethod fun t => (fun a : Nat => Value.int IntKind.u8 (a : Int)) <$> Rtype.kind t) #[.pointer (some ⟨9, 29, none⟩)]).run Tryz.prog w = .ok (.int .u8 2) w := by kernel_rfl
theorem rlm (z : Sem Value) (f : TypeId → Addr → Nat → Nat → Sem Value) (v : Value) :
    ReflectliteValue.method z f #[v] = (do match ← ReflectliteValue.parts v with | none => z | some (t, a, fl) => f t a fl (fl % 32)) := rfl
theorem rl_partsP (a : Addr) (w : World) : (ReflectliteValue.parts (.agg #[.pointer (some ⟨9, 177, none⟩), .pointer (some a), .int .u64 150])).run Tryz.prog w = .ok (some (177, a, 150)) w := by kernel_rfl
theorem rl_isNil (a p : Addr) (W : World) (ha : W.cell? a = some (.pointer (some p))) :
    (ReflectliteValue.method (ReflectliteValue.valueError "reflectlite.Value.IsNil" 0) ReflectliteValue.isNil #[.agg #[.pointer (some ⟨9, 177, none⟩), .pointer (some a), .int .u64 150]]).run Tryz.prog W = .ok (.bool false) W := by
  rw [rlm]
  simp only [Sem.run_bind, rl_partsP, Result.andThen]
  simp [ReflectliteValue.isNil, loadVar, isAgg, underlying, Tryz.underlying177, ha, Result.andThen]
theorem rl_elem (w : World) : (ReflectliteType.method ReflectliteType.elem #[.agg #[.pointer (some ⟨9, 177, none⟩)]]).run Tryz.prog w = .ok (.iface 183 (.agg #[.pointer (some ⟨9, 29, none⟩)])) w := by kernel_rfl
theorem rl_implements (w : World) : (ReflectliteType.relation "Implements" ReflectliteType.implements_ #[.agg #[.pointer (some ⟨9, 29, none⟩)], .iface 183 (.agg #[.pointer (some ⟨9, 37, none⟩)])]).run Tryz.prog w = .ok (.bool true) w := by kernel_rfl
theorem rl_typeOfE (n : Int) (w : World) : (ReflectliteType.typeOf #[.iface 29 (.int .i64 n)]).run Tryz.prog w = .ok (.iface 183 (.agg #[.pointer (some ⟨9, 29, none⟩)])) w := by kernel_rfl
theorem rl_typeOfA (v : Value) (w : World) : (ReflectliteType.typeOf #[.iface 136 v]).run Tryz.prog w = .ok (.iface 183 (.agg #[.pointer (some ⟨9, 136, none⟩)])) w := by kernel_rfl
theorem rl_assignE (w : World) : (ReflectliteType.relation "AssignableTo" ReflectliteType.assignableTo #[.agg #[.pointer (some ⟨9, 29, none⟩)], .iface 183 (.agg #[.pointer (some ⟨9, 29, none⟩)])]).run Tryz.prog w = .ok (.bool true) w := by kernel_rfl
theorem rl_assignA (w : World) : (ReflectliteType.relation "AssignableTo" ReflectliteType.assignableTo #[.agg #[.pointer (some ⟨9, 136, none⟩)], .iface 183 (.agg #[.pointer (some ⟨9, 29, none⟩)])]).run Tryz.prog w = .ok (.bool false) w := by kernel_rfl
theorem rl_elemOf (w : World) : (Rtype.elem? 177).run Tryz.prog w = .ok (some 29) w := by kernel_rfl
theorem rl_mk (p : Addr) (w : World) : (ReflectliteValue.mk 29 p ReflectliteValue.flagAddr).run Tryz.prog w = .ok (.agg #[.pointer (some ⟨9, 29, none⟩), .pointer (some p), .int .u64 386]) w := by kernel_rfl
theorem rl_elemV (a p : Addr) (W : World) (ha : W.cell? a = some (.pointer (some p))) :
    (ReflectliteValue.method (ReflectliteValue.valueError "reflectlite.Value.Elem" 0) ReflectliteValue.elem #[.agg #[.pointer (some ⟨9, 177, none⟩), .pointer (some a), .int .u64 150]]).run Tryz.prog W
      = .ok (.agg #[.pointer (some ⟨9, 29, none⟩), .pointer (some p), .int .u64 386]) W := by
  rw [rlm]
  simp only [Sem.run_bind, rl_partsP, Result.andThen]
  simp [ReflectliteValue.elem, loadVar, isAgg, underlying, Tryz.underlying177, ha, Result.andThen, rl_elemOf, rl_mk]
theorem rl_partsA (a : Addr) (w : World) : (ReflectliteValue.parts (.agg #[.pointer (some ⟨9, 29, none⟩), .pointer (some a), .int .u64 386])).run Tryz.prog w = .ok (some (29, a, 386)) w := by kernel_rfl
theorem rl_partsE (a : Addr) (w : World) : (ReflectliteValue.parts (.agg #[.pointer (some ⟨9, 29, none⟩), .pointer (some a), .int .u64 130])).run Tryz.prog w = .ok (some (29, a, 130)) w := by kernel_rfl
theorem rl_direct (w : World) : (Rtype.directlyAssignable 29 29).run Tryz.prog w = .ok true w := by kernel_rfl
theorem rl_set (ta b : Addr) (n : Int) (old : Value) (W : World) (hb : W.cell? b = some (.int .i64 n)) (ht : W.cell? ta = some old) (hf : W.frozen? ta = false) :
    (ReflectliteValue.set #[.agg #[.pointer (some ⟨9, 29, none⟩), .pointer (some ta), .int .u64 386], .agg #[.pointer (some ⟨9, 29, none⟩), .pointer (some b), .int .u64 130]]).run Tryz.prog W
      = .ok (.tuple #[]) (W.setCell ta (.int .i64 n)) := by
  refine Eq.trans (congrArg (fun s : Sem Value => s.run Tryz.prog W) (show ReflectliteValue.set #[.agg #[.pointer (some ⟨9, 29, none⟩), .pointer (some ta), .int .u64 386], .agg #[.pointer (some ⟨9, 29, none⟩), .pointer (some b), .int .u64 130]] = (ReflectliteValue.parts (.agg #[.pointer (some ⟨9, 29, none⟩), .pointer (some ta), .int .u64 386]) >>= fun p => ReflectliteValue.parts (.agg #[.pointer (some ⟨9, 29, none⟩), .pointer (some b), .int .u64 130]) >>= fun q => _) from rfl)) ?_
  simp only [Sem.run_bind, rl_partsA, rl_partsE, Result.andThen]
  simp [ReflectliteValue.flagAddr, loadVar, isAgg, underlying, Tryz.underlying29, hb, Result.andThen, rl_direct, storeVar, Value.cells, storeCells, Addr.add]
  rw [run_store Tryz.prog W ta _ _ (by rfl)]
  simp [ht, hf]
end Go.Proofs.YtfcdphgggdioeaaGreatDoor
/- errors.As at a *Errno, walked; Tell. -/
namespace Go.Proofs.YtfcdphgggdioeaaGreatDoor
open Go.RowKit Go.Extern.Stop Go.Stop Go.Extern

theorem me_Kind (h : Value) (w : World) : (Go.method 365 183 (.agg #[h]) "Kind").run Tryz.prog w = .ok (179, h) w := by kernel_rfl
theorem me_Elem (h : Value) (w : World) : (Go.method 365 183 (.agg #[h]) "Elem").run Tryz.prog w = .ok (197, .agg #[h]) w := by kernel_rfl
theorem me_Impl (h : Value) (w : World) : (Go.method 365 183 (.agg #[h]) "Implements").run Tryz.prog w = .ok (198, .agg #[h]) w := by kernel_rfl
theorem me_Assign (h : Value) (w : World) : (Go.method 365 183 (.agg #[h]) "AssignableTo").run Tryz.prog w = .ok (196, .agg #[h]) w := by kernel_rfl
theorem me_Unwrap (a : Option Addr) (w : World) : (Go.method 365 136 (.pointer a) "Unwrap").run Tryz.prog w = .ok (190, .pointer a) w := by kernel_rfl
set_option maxRecDepth 100000 in
set_option maxHeartbeats 400000 in
theorem unwrap_any (ab : Nat) (n : Int) (w : World) (h : w.cell? ⟨ab, 0, none⟩ = some (.int .i64 n)) (_hl : ab < w.heap.size) :
    Calls Tryz.prog 190 #[.pointer (some ⟨ab, 0, none⟩)] w fun e w' => e = .returned (.iface 29 (.int .i64 n)) ∧ w' = w := by
  go_enter Tryz.func190, Tryz.ntmps190
  go_wp2_with fail
  go_ret
  exact ⟨rfl, rfl⟩
set_option maxRecDepth 100000 in
set_option maxHeartbeats 4000000 in
theorem as_en (n : Int) (t : Addr) (old : Value) (w : World) (hg : w.cell? ⟨4, 0, none⟩ = some (.iface 183 (.agg #[.pointer (some ⟨9, 37, none⟩)]))) (ht0 : w.cell? t = some old) (hf0 : w.frozen? t = false) :
    Calls Tryz.prog 106 #[.iface 29 (.int .i64 n), .iface 177 (.pointer (some t))] w fun ev w' => ev = .returned (.bool true) ∧ w' = ((((w.alloc (.cells #[.pointer (some t)] 177)).alloc (.cells #[.pointer (some ⟨9, 177, none⟩), .pointer (some ⟨w.heap.size, 0, none⟩), .int .u64 150] 153)).alloc (.cells #[.pointer (some ⟨9, 177, none⟩), .pointer (some ⟨w.heap.size, 0, none⟩), .int .u64 150] 153)).alloc (.cells #[.int .i64 n] 29)).setCell t (.int .i64 n) := by
  have h6 := @run_callFunc_extern Tryz.prog 83 _ (fun args => ReflectliteValue.unpack (args.getD 0 (.tuple #[]))) Tryz.func83 (by kernel_rfl) (by kernel_rfl) (by kernel_rfl) (by kernel_rfl)
  have h7 := @run_callFunc_extern Tryz.prog 134 _ (ReflectliteValue.methodAny (ReflectliteValue.valueError "reflectlite.Value.Type" 0) (fun t _ _ _ => ReflectliteType.toType t)) Tryz.func134 (by kernel_rfl) (by kernel_rfl) (by kernel_rfl) (by kernel_rfl)
  have h8 := @run_callFunc_extern Tryz.prog 135 _ (ReflectliteValue.method (ReflectliteValue.valueError "reflectlite.Value.IsNil" 0) ReflectliteValue.isNil) Tryz.func135 (by kernel_rfl) (by kernel_rfl) (by kernel_rfl) (by kernel_rfl)
  have h27 := @run_callFunc_extern Tryz.prog 179 _ (ReflectliteType.abiMethod fun t => do pure (.int .u8 (← Rtype.kind t))) Tryz.func179 (by kernel_rfl) (by kernel_rfl) (by kernel_rfl) (by kernel_rfl)
  have h37 := @run_callFunc_extern Tryz.prog 197 _ (ReflectliteType.method ReflectliteType.elem) Tryz.func197 (by kernel_rfl) (by kernel_rfl) (by kernel_rfl) (by kernel_rfl)
  have h38 := @run_callFunc_extern Tryz.prog 198 _ (ReflectliteType.relation "Implements" ReflectliteType.implements_) Tryz.func198 (by kernel_rfl) (by kernel_rfl) (by kernel_rfl) (by kernel_rfl)
  have h10 := @run_callFunc_extern Tryz.prog 147 _ ReflectliteType.typeOf Tryz.func147 (by kernel_rfl) (by kernel_rfl) (by kernel_rfl) (by kernel_rfl)
  have h35 := @run_callFunc_extern Tryz.prog 196 _ (ReflectliteType.relation "AssignableTo" ReflectliteType.assignableTo) Tryz.func196 (by kernel_rfl) (by kernel_rfl) (by kernel_rfl) (by kernel_rfl)
  have h11 := @run_callFunc_extern Tryz.prog 148 _ (ReflectliteValue.method (ReflectliteValue.valueError "reflectlite.Value.Elem" 0) ReflectliteValue.elem) Tryz.func148 (by kernel_rfl) (by kernel_rfl) (by kernel_rfl) (by kernel_rfl)
  have h12 := @run_callFunc_extern Tryz.prog 149 _ ReflectliteValue.set Tryz.func149 (by kernel_rfl) (by kernel_rfl) (by kernel_rfl) (by kernel_rfl)
  have tO := rl_typeOfE
  have mA := me_Assign
  have a25 := rl_assignE
  have v25 := rl_valueE
  have f6 := rl_valueP
  have f7 := rl_typeP
  have mK := me_Kind
  have mE := me_Elem
  have mI := me_Impl
  have k27 := rl_kindP
  have k25 := rl_kindE
  have e27 := rl_elem
  have i25 := rl_implements
  have n8 := rl_isNil ⟨w.heap.size, 0, none⟩ t ((w.alloc (.cells #[.pointer (some t)] 177)).alloc (.cells #[.pointer (some ⟨9, 177, none⟩), .pointer (some ⟨w.heap.size, 0, none⟩), .int .u64 150] 153)) (by simp)
  have hlt : 4 < w.heap.size := lt_of_cell hg
  have hg2 : ((w.alloc (.cells #[.pointer (some t)] 177)).alloc (.cells #[.pointer (some ⟨9, 177, none⟩), .pointer (some ⟨w.heap.size, 0, none⟩), .int .u64 150] 153)).cell? ⟨4, 0, none⟩ = some (.iface 183 (.agg #[.pointer (some ⟨9, 37, none⟩)])) := by
    rw [World.cell?_alloc_lt _ _ ⟨4, 0, none⟩ (by simp <;> omega), World.cell?_alloc_lt _ _ ⟨4, 0, none⟩ hlt]; exact hg
  have htl : t.block < w.heap.size := World.block_lt_of_cell? _ _ ht0
  have el := rl_elemV ⟨w.heap.size, 0, none⟩ t (((w.alloc (.cells #[.pointer (some t)] 177)).alloc (.cells #[.pointer (some ⟨9, 177, none⟩), .pointer (some ⟨w.heap.size, 0, none⟩), .int .u64 150] 153)).alloc (.cells #[.pointer (some ⟨9, 177, none⟩), .pointer (some ⟨w.heap.size, 0, none⟩), .int .u64 150] 153)) (by rw [World.cell?_alloc_lt _ _ ⟨w.heap.size, 0, none⟩ (by simp; omega)]; simp)
  have st := rl_set t ⟨w.heap.size + 1 + 1 + 1, 0, none⟩ n old ((((w.alloc (.cells #[.pointer (some t)] 177)).alloc (.cells #[.pointer (some ⟨9, 177, none⟩), .pointer (some ⟨w.heap.size, 0, none⟩), .int .u64 150] 153)).alloc (.cells #[.pointer (some ⟨9, 177, none⟩), .pointer (some ⟨w.heap.size, 0, none⟩), .int .u64 150] 153)).alloc (.cells #[.int .i64 n] 29))
    (by rw [World.cell?_alloc_at _ _ _ _ (by simp)]; rfl)
    (by rw [World.cell?_alloc_lt _ _ t (by simp; omega), World.cell?_alloc_lt _ _ t (by simp; omega), World.cell?_alloc_lt _ _ t (by simp; omega), World.cell?_alloc_lt _ _ t htl]; exact ht0)
    (by rw [World.frozen?_alloc_old _ _ t (by simp; omega), World.frozen?_alloc_old _ _ t (by simp; omega), World.frozen?_alloc_old _ _ t (by simp; omega), World.frozen?_alloc_old _ _ t (Nat.ne_of_lt htl)]; exact hf0)
  go_enter Tryz.func106, Tryz.ntmps106
  go_wp2
  refine wp_loop_rounds 1 ?_
  rw [rounds_succ]
  go_wp2
  go_ret
  exact ⟨rfl, rfl⟩
theorem as_ta1 (a : Option Addr) (w : World) : (Instr.typeAssert (.iface 136 (.pointer a)) 37 221 true).run Tryz.prog w = .ok (.tuple #[.nilIface, .bool false]) w := run_typeAssert_lacksB Tryz.underlying221 (by kernel_rfl) (by kernel_rfl) _ _ w
theorem as_ta2 (a : Option Addr) (w : World) : (Instr.typeAssert (.iface 136 (.pointer a)) 37 139 true).run Tryz.prog w = .ok (.tuple #[.iface 136 (.pointer a), .bool true]) w := by kernel_rfl
set_option maxRecDepth 100000 in
set_option maxHeartbeats 4000000 in
theorem as_at (n : Int) (ab : Nat) (t : Addr) (old : Value) (w : World) (hg : w.cell? ⟨4, 0, none⟩ = some (.iface 183 (.agg #[.pointer (some ⟨9, 37, none⟩)]))) (ha : w.cell? ⟨ab, 0, none⟩ = some (.int .i64 n)) (ht0 : w.cell? t = some old) (hf0 : w.frozen? t = false) :
    Calls Tryz.prog 106 #[.iface 136 (.pointer (some ⟨ab, 0, none⟩)), .iface 177 (.pointer (some t))] w fun ev w' => ev = .returned (.bool true) ∧ w' = ((((w.alloc (.cells #[.pointer (some t)] 177)).alloc (.cells #[.pointer (some ⟨9, 177, none⟩), .pointer (some ⟨w.heap.size, 0, none⟩), .int .u64 150] 153)).alloc (.cells #[.pointer (some ⟨9, 177, none⟩), .pointer (some ⟨w.heap.size, 0, none⟩), .int .u64 150] 153)).alloc (.cells #[.int .i64 n] 29)).setCell t (.int .i64 n) := by
  have h6 := @run_callFunc_extern Tryz.prog 83 _ (fun args => ReflectliteValue.unpack (args.getD 0 (.tuple #[]))) Tryz.func83 (by kernel_rfl) (by kernel_rfl) (by kernel_rfl) (by kernel_rfl)
  have h7 := @run_callFunc_extern Tryz.prog 134 _ (ReflectliteValue.methodAny (ReflectliteValue.valueError "reflectlite.Value.Type" 0) (fun t _ _ _ => ReflectliteType.toType t)) Tryz.func134 (by kernel_rfl) (by kernel_rfl) (by kernel_rfl) (by kernel_rfl)
  have h8 := @run_callFunc_extern Tryz.prog 135 _ (ReflectliteValue.method (ReflectliteValue.valueError "reflectlite.Value.IsNil" 0) ReflectliteValue.isNil) Tryz.func135 (by kernel_rfl) (by kernel_rfl) (by kernel_rfl) (by kernel_rfl)
  have h27 := @run_callFunc_extern Tryz.prog 179 _ (ReflectliteType.abiMethod fun t => do pure (.int .u8 (← Rtype.kind t))) Tryz.func179 (by kernel_rfl) (by kernel_rfl) (by kernel_rfl) (by kernel_rfl)
  have h37 := @run_callFunc_extern Tryz.prog 197 _ (ReflectliteType.method ReflectliteType.elem) Tryz.func197 (by kernel_rfl) (by kernel_rfl) (by kernel_rfl) (by kernel_rfl)
  have h38 := @run_callFunc_extern Tryz.prog 198 _ (ReflectliteType.relation "Implements" ReflectliteType.implements_) Tryz.func198 (by kernel_rfl) (by kernel_rfl) (by kernel_rfl) (by kernel_rfl)
  have h10 := @run_callFunc_extern Tryz.prog 147 _ ReflectliteType.typeOf Tryz.func147 (by kernel_rfl) (by kernel_rfl) (by kernel_rfl) (by kernel_rfl)
  have h35 := @run_callFunc_extern Tryz.prog 196 _ (ReflectliteType.relation "AssignableTo" ReflectliteType.assignableTo) Tryz.func196 (by kernel_rfl) (by kernel_rfl) (by kernel_rfl) (by kernel_rfl)
  have h11 := @run_callFunc_extern Tryz.prog 148 _ (ReflectliteValue.method (ReflectliteValue.valueError "reflectlite.Value.Elem" 0) ReflectliteValue.elem) Tryz.func148 (by kernel_rfl) (by kernel_rfl) (by kernel_rfl) (by kernel_rfl)
  have h12 := @run_callFunc_extern Tryz.prog 149 _ ReflectliteValue.set Tryz.func149 (by kernel_rfl) (by kernel_rfl) (by kernel_rfl) (by kernel_rfl)
  have tO := rl_typeOfE
  have mA := me_Assign
  have a25 := rl_assignE
  have v25 := rl_valueE
  have f6 := rl_valueP
  have f7 := rl_typeP
  have mK := me_Kind
  have mE := me_Elem
  have mI := me_Impl
  have k27 := rl_kindP
  have k25 := rl_kindE
  have e27 := rl_elem
  have i25 := rl_implements
  have n8 := rl_isNil ⟨w.heap.size, 0, none⟩ t ((w.alloc (.cells #[.pointer (some t)] 177)).alloc (.cells #[.pointer (some ⟨9, 177, none⟩), .pointer (some ⟨w.heap.size, 0, none⟩), .int .u64 150] 153)) (by simp)
  have hlt : 4 < w.heap.size := lt_of_cell hg
  have hg2 : ((w.alloc (.cells #[.pointer (some t)] 177)).alloc (.cells #[.pointer (some ⟨9, 177, none⟩), .pointer (some ⟨w.heap.size, 0, none⟩), .int .u64 150] 153)).cell? ⟨4, 0, none⟩ = some (.iface 183 (.agg #[.pointer (some ⟨9, 37, none⟩)])) := by
    rw [World.cell?_alloc_lt _ _ ⟨4, 0, none⟩ (by simp <;> omega), World.cell?_alloc_lt _ _ ⟨4, 0, none⟩ hlt]; exact hg
  have htl : t.block < w.heap.size := World.block_lt_of_cell? _ _ ht0
  have el := rl_elemV ⟨w.heap.size, 0, none⟩ t (((w.alloc (.cells #[.pointer (some t)] 177)).alloc (.cells #[.pointer (some ⟨9, 177, none⟩), .pointer (some ⟨w.heap.size, 0, none⟩), .int .u64 150] 153)).alloc (.cells #[.pointer (some ⟨9, 177, none⟩), .pointer (some ⟨w.heap.size, 0, none⟩), .int .u64 150] 153)) (by rw [World.cell?_alloc_lt _ _ ⟨w.heap.size, 0, none⟩ (by simp; omega)]; simp)
  have st := rl_set t ⟨w.heap.size + 1 + 1 + 1, 0, none⟩ n old ((((w.alloc (.cells #[.pointer (some t)] 177)).alloc (.cells #[.pointer (some ⟨9, 177, none⟩), .pointer (some ⟨w.heap.size, 0, none⟩), .int .u64 150] 153)).alloc (.cells #[.pointer (some ⟨9, 177, none⟩), .pointer (some ⟨w.heap.size, 0, none⟩), .int .u64 150] 153)).alloc (.cells #[.int .i64 n] 29))
    (by rw [World.cell?_alloc_at _ _ _ _ (by simp)]; rfl)
    (by rw [World.cell?_alloc_lt _ _ t (by simp; omega), World.cell?_alloc_lt _ _ t (by simp; omega), World.cell?_alloc_lt _ _ t (by simp; omega), World.cell?_alloc_lt _ _ t htl]; exact ht0)
    (by rw [World.frozen?_alloc_old _ _ t (by simp; omega), World.frozen?_alloc_old _ _ t (by simp; omega), World.frozen?_alloc_old _ _ t (by simp; omega), World.frozen?_alloc_old _ _ t (Nat.ne_of_lt htl)]; exact hf0)
  have tA := rl_typeOfA
  have aA := rl_assignA
  have mU := me_Unwrap
  have ta1 := as_ta1
  have ta2 := as_ta2
  have ha3 : (((w.alloc (.cells #[.pointer (some t)] 177)).alloc (.cells #[.pointer (some ⟨9, 177, none⟩), .pointer (some ⟨w.heap.size, 0, none⟩), .int .u64 150] 153)).alloc (.cells #[.pointer (some ⟨9, 177, none⟩), .pointer (some ⟨w.heap.size, 0, none⟩), .int .u64 150] 153)).cell? ⟨ab, 0, none⟩ = some (.int .i64 n) := cell_alloc' (cell_alloc' (cell_alloc' ha _) _) _
  go_enter Tryz.func106, Tryz.ntmps106
  go_wp2
  refine wp_loop_rounds 2 ?_
  rw [rounds_succ]
  go_wp2_with (go_at_call 190; refine (unwrap_any ab n _ ?hx ?hy).mono ?_; (case hx => exact ha3); (case hy => exact lt_of_cell ha3); rintro e w9 ⟨rfl, rfl⟩)
  rw [rounds_succ]
  go_wp2
  go_ret
  exact ⟨rfl, rfl⟩
/- Tell of what Check told -/
theorem ext_four (w : World) (t : Addr) (o1 o2 o3 o4 : Obj) (v : Value) : Ext t.block w (((((w.alloc o1).alloc o2).alloc o3).alloc o4).setCell t v) := by
  have h : Below w.heap.size w ((((w.alloc o1).alloc o2).alloc o3).alloc o4) := ((((Below.refl _ _).alloc (Nat.le_refl _) _).alloc (by simp) _).alloc (by simp; omega) _).alloc (by simp; omega) _
  refine ⟨h.os, h.tape, h.output, by simpa using h.size, fun k hk hb => ?_⟩
  rw [Below.heap_setCell _ _ _ _ hb]
  exact h.block k hk
set_option maxRecDepth 100000 in
set_option maxHeartbeats 1000000 in
theorem tell_en (n : Int) (w : World) (hg : w.cell? ⟨4, 0, none⟩ = some (.iface 183 (.agg #[.pointer (some ⟨9, 37, none⟩)]))) :
    Calls Tryz.prog 72 #[.iface 29 (.int .i64 n)] w fun e w' => e = .returned (.int .i64 n) ∧ Below w.heap.size w w' := by
  obtain ⟨w0, hw0⟩ : ∃ w0, w0 = w.alloc (.cells #[.int .i64 0] 29) := ⟨_, rfl⟩
  have hb0 : Below w.heap.size w w0 := by rw [hw0]; exact (Below.refl _ _).alloc (Nat.le_refl _) _
  have hk0 : w0.heap[w.heap.size]? = some (.cells #[.int .i64 0] 29 (0, 0)) := by rw [hw0]; exact new_blk _ _
  have hg0 : w0.cell? ⟨4, 0, none⟩ = some (.iface 183 (.agg #[.pointer (some ⟨9, 37, none⟩)])) := by rw [hw0]; exact cell_alloc' hg _
  have HA := Lib.hid (as_en n ⟨w.heap.size, 0, none⟩ (.int .i64 0) w0 hg0 ((cell_blk hk0).trans rfl) (frozen_blk hk0))
  have HB0 := Lib.hid hb0
  have HK0 := Lib.hid hk0
  clear hb0 hk0 hg0 hg
  go_enter Tryz.func72, Tryz.ntmps72
  go_upto_region 4 with fail
  rw [← hw0]
  clear hw0
  go_wp2_with fail
  refine HA.out.mono ?_
  rintro e w3 ⟨rfl, hw3⟩
  have hx : Ext w.heap.size w0 w3 := by rw [hw3]; exact ext_four w0 ⟨w.heap.size, 0, none⟩ _ _ _ _ _
  have hc : w3.cell? ⟨w.heap.size, 0, none⟩ = some (.int .i64 n) := by
    rw [hw3]
    exact World.cell?_setCell_same _ _ _ (cell_alloc' (cell_alloc' (cell_alloc' (cell_alloc' ((cell_blk HK0.out).trans rfl) _) _) _) _)
  have HB3 : Hid (Below w.heap.size w w3) := HB0.out.trans (ext_below hx (Nat.le_refl _) HB0.out.size)
  have hl3 : w.heap.size < w3.heap.size := lt_of_cell hc
  clear hw3 hx
  go_wp2_with fail
  go_ret
  exact ⟨rfl, HB3.out⟩
set_option maxRecDepth 100000 in
set_option maxHeartbeats 1000000 in
theorem tell_at (n : Int) (ab : Nat) (w : World) (hg : w.cell? ⟨4, 0, none⟩ = some (.iface 183 (.agg #[.pointer (some ⟨9, 37, none⟩)]))) (ha : w.cell? ⟨ab, 0, none⟩ = some (.int .i64 n)) :
    Calls Tryz.prog 72 #[.iface 136 (.pointer (some ⟨ab, 0, none⟩))] w fun e w' => e = .returned (.int .i64 n) ∧ Below w.heap.size w w' := by
  obtain ⟨w0, hw0⟩ : ∃ w0, w0 = w.alloc (.cells #[.int .i64 0] 29) := ⟨_, rfl⟩
  have hb0 : Below w.heap.size w w0 := by rw [hw0]; exact (Below.refl _ _).alloc (Nat.le_refl _) _
  have hk0 : w0.heap[w.heap.size]? = some (.cells #[.int .i64 0] 29 (0, 0)) := by rw [hw0]; exact new_blk _ _
  have hg0 : w0.cell? ⟨4, 0, none⟩ = some (.iface 183 (.agg #[.pointer (some ⟨9, 37, none⟩)])) := by rw [hw0]; exact cell_alloc' hg _
  have ha0 : w0.cell? ⟨ab, 0, none⟩ = some (.int .i64 n) := by rw [hw0]; exact cell_alloc' ha _
  have HA := Lib.hid (as_at n ab ⟨w.heap.size, 0, none⟩ (.int .i64 0) w0 hg0 ha0 ((cell_blk hk0).trans rfl) (frozen_blk hk0))
  have HB0 := Lib.hid hb0
  have HK0 := Lib.hid hk0
  clear hb0 hk0 hg0 hg ha ha0
  go_enter Tryz.func72, Tryz.ntmps72
  go_upto_region 4 with fail
  rw [← hw0]
  clear hw0
  go_wp2_with fail
  refine HA.out.mono ?_
  rintro e w3 ⟨rfl, hw3⟩
  have hx : Ext w.heap.size w0 w3 := by rw [hw3]; exact ext_four w0 ⟨w.heap.size, 0, none⟩ _ _ _ _ _
  have hc : w3.cell? ⟨w.heap.size, 0, none⟩ = some (.int .i64 n) := by
    rw [hw3]
    exact World.cell?_setCell_same _ _ _ (cell_alloc' (cell_alloc' (cell_alloc' (cell_alloc' ((cell_blk HK0.out).trans rfl) _) _) _) _)
  have HB3 : Hid (Below w.heap.size w w3) := HB0.out.trans (ext_below hx (Nat.le_refl _) HB0.out.size)
  have hl3 : w.heap.size < w3.heap.size := lt_of_cell hc
  clear hw3 hx
  go_wp2_with fail
  go_ret
  exact ⟨rfl, HB3.out⟩
end Go.Proofs.YtfcdphgggdioeaaGreatDoor
/- EXPRs in memory: one of a list; the arguments. -/
namespace Go.Proofs.YtfcdphgggdioeaaGreatDoor
open Go.RowKit
open Tp (Tok hd tx at' stp X S G Pr)
theorem RepL.step' {w w' : World} {D : Nat → Prop} {l : List X} {vs : List Value} (h : RepL w D l vs) (k : Below w.heap.size w w') : RepL w' D l vs :=
  RepL.mono (fun b hb hl => ⟨k.block b hl, hb⟩) _ _ _ (Nat.le_refl _) h
theorem RepL.nth {w : World} {D : Nat → Prop} : ∀ (l : List X) (vs : List Value), RepL w D l vs → ∀ i (h : i < l.length), ∃ b, vs[i]? = some (.pointer (some ⟨b, 0, none⟩)) ∧ RepL w D [l[i]] [.pointer (some ⟨b, 0, none⟩)] := by
  intro l
  induction l with
  | nil => intro vs _ i h; simp at h
  | cons x l ih =>
    intro vs h i hi
    obtain ⟨code, pos, n, m, nm, op, le, ri, ar⟩ := x
    rw [RepL] at h
    obtain ⟨b, av, ls, rs, gs, vs', h1, h2, h3, h4, h5, h6, h7, h8, h9, h10⟩ := h
    subst h1
    cases i with
    | zero =>
      refine ⟨b, rfl, ?_⟩
      show RepL w D [⟨code, pos, n, m, nm, op, le, ri, ar⟩] _
      rw [RepL]
      exact ⟨b, av, ls, rs, gs, [], rfl, h2, h3, h4, h5, h6, h7, h8, h9, by rw [RepL]⟩
    | succ i =>
      obtain ⟨b', q1, q2⟩ := ih vs' h10 i (by simpa using hi)
      exact ⟨b', by simpa using q1, by simpa using q2⟩
/- the arguments' slice -/
def ArgsAt (w : World) (D : Nat → Prop) (av : Value) (gs : List Value) : Prop := gs = [] ∧ av = .slice none 0 0 ∨ ∃ g cap cur, av = .slice (some ⟨g, 0, none⟩) gs.length cap ∧ D g ∧ w.heap[g]? = some (.cells cur 95 (0, 0)) ∧ gs.length ≤ cap ∧ cap ≤ maxLen ∧ cur.size = cap ∧ cur.toList.take gs.length = gs
theorem ArgsAt.shape {w : World} {D : Nat → Prop} {av : Value} {gs : List Value} (h : ArgsAt w D av gs) : gs.length ≤ 9223372036854775807 ∧ ∃ a c, av = .slice a gs.length c ∧ ∀ i v, gs[i]? = some v → ∃ g : Nat, a = some ⟨g, 0, none⟩ ∧ g < w.heap.size ∧ w.cell? ⟨g, i, none⟩ = some v := by
  rcases h with ⟨rfl, rfl⟩ | ⟨g, cap, cur, rfl, h1, h2, h3, h4, h5, h6⟩
  · exact ⟨by simp, none, 0, rfl, fun i v h => by simp at h⟩
  · refine ⟨by unfold maxLen at h4; omega, _, _, rfl, fun i v hv => ⟨g, rfl, lt_blk h2, ?_⟩⟩
    have hi : i < gs.length := by rw [List.getElem?_eq_some_iff] at hv; exact hv.1
    rw [cell_blk h2, ← Array.getElem?_toList, ← hv]
    conv => rhs; rw [← h6]
    rw [List.getElem?_take_of_lt hi]
theorem RepL.headP {w : World} {D : Nat → Prop} {l : List X} {vs : List Value} (h : RepL w D l vs) : ∃ a, vs.headD (.pointer none) = .pointer a := by
  cases l with
  | nil => rw [RepL] at h; subst h; exact ⟨none, rfl⟩
  | cons x l =>
    obtain ⟨code, pos, n, m, nm, op, le, ri, ar⟩ := x
    rw [RepL] at h
    obtain ⟨b, av, ls, rs, gs, vs', h1, _⟩ := h
    subst h1
    exact ⟨_, rfl⟩
theorem RepL.unit {w : World} {D : Nat → Prop} {code pos n : Nat} {md nm op : List UInt8} {le ri ar : List X} {b : Nat} (h : RepL w D [⟨code, pos, n, md, nm, op, le, ri, ar⟩] [.pointer (some ⟨b, 0, none⟩)]) : ∃ (av : Value) (ls rs gs : List Value),
    w.heap[b]? = some (.cells #[.int .i64 (code : Int), .int .i64 (pos : Int), .int .i64 (n : Int), .string (bs md), .string (bs nm), .string (bs op), ls.headD (.pointer none), rs.headD (.pointer none), av] 108 (0, 0)) ∧ RepL w D le ls ∧ RepL w D ri rs ∧ RepL w D ar gs ∧ ArgsAt w D av gs := by
  rw [RepL] at h
  obtain ⟨b', av, ls, rs, gs, vs', h1, h2, h3, h4, h5, h6, h7, h8, h9, h10⟩ := h
  cases h1
  exact ⟨av, ls, rs, gs, h3, h4, h6, h8, h9⟩
theorem RepL.single {w : World} {D : Nat → Prop} {z : X} {ls : List Value} (h : RepL w D [z] ls) : ∃ b : Nat, ls = [.pointer (some ⟨b, 0, none⟩)] := by
  obtain ⟨code, pos, n, md, nm, op, le, ri, ar⟩ := z
  rw [RepL] at h
  obtain ⟨b', av, l2, rs, gs, vs', h1, h2, h3, h4, h5, h6, h7, h8, h9, h10⟩ := h
  rw [RepL] at h10
  subst h10
  exact ⟨b', h1⟩
end Go.Proofs.YtfcdphgggdioeaaGreatDoor
/- The law's own: the same statements. -/
namespace Go.Proofs.YtfcdphgggdioeaaGreatDoor
open Go.RowKit Go.Sort
open Tp (Tok hd tx at' stp X S G Pr)
theorem RepS.nth {w : World} {D : Nat → Prop} : ∀ (l : List S) (cs : List Value), RepS w D l cs → ∀ i (h : i < l.length), ∃ (tv ev : Value) (ls vs tcs ecs : List Value),
    (∀ j, j < 7 → cs[i * 7 + j]? = [.int .i64 (l[i].code : Int), .int .i64 (l[i].pos : Int), .string (bs l[i].name), ls.headD (.pointer none), vs.headD (.pointer none), tv, ev][j]?) ∧ RepL w D l[i].index ls ∧ ls.length ≤ 1 ∧ RepL w D l[i].value vs ∧ vs.length ≤ 1 ∧ RepS w D l[i].thn tcs ∧ OwnS w D tv l[i].thn.length tcs ∧ RepS w D l[i].els ecs ∧ OwnS w D ev l[i].els.length ecs := by
  intro l
  induction l with
  | nil => intro cs _ i h; simp at h
  | cons x l ih =>
    intro cs h i hi
    obtain ⟨code', pos', nm', ix', vl', th', el'⟩ := x
    rw [RepS] at h
    obtain ⟨tv, ev, ls, vs, tcs, ecs, cs', h1, h2, h3, h4, h5, h6, h7, h8, h9, h10⟩ := h
    subst h1
    cases i with
    | zero =>
      refine ⟨tv, ev, ls, vs, tcs, ecs, fun j hj => ?_, h2, h3, h4, h5, h6, h7, h8, h9⟩
      rw [Nat.zero_mul, Nat.zero_add, List.getElem?_append_left (by simpa using hj)]
      rfl
    | succ i =>
      obtain ⟨tv', ev', ls', vs', tcs', ecs', q1, q2⟩ := ih cs' h10 i (by simpa using hi)
      refine ⟨tv', ev', ls', vs', tcs', ecs', fun j hj => ?_, q2⟩
      rw [List.getElem?_append_right (by simp; omega)]
      have : (i + 1) * 7 + j - [Value.int .i64 (code' : Int), .int .i64 (pos' : Int), .string (bs nm'), ls.headD (.pointer none), vs.headD (.pointer none), tv, ev].length = i * 7 + j := by simp; omega
      rw [this]
      exact q1 j hj
theorem OwnS.at' {w : World} {D : Nat → Prop} {a : Option Addr} {n c : Nat} {cs : List Value} (h : OwnS w D (.slice a n c) n cs) (i : Nat) (hi : i < n) :
    ∃ g : Nat, a = some ⟨g, 0, none⟩ ∧ g < w.heap.size ∧ ∀ j, j < 7 → w.cell? ⟨g, i * 7 + j, none⟩ = cs[i * 7 + j]? := by
  rcases h with ⟨q, q'⟩ | ⟨g, cap, cur, q0, q1, q2, q3, q4, q5, q6⟩
  · omega
  · cases q0
    refine ⟨g, rfl, lt_blk q2, fun j hj => ?_⟩
    rw [cell_blk q2, ← Array.getElem?_toList, ← q6, List.getElem?_take_of_lt (by omega)]
theorem OwnS.long {w : World} {D : Nat → Prop} {v : Value} {n : Nat} {cs : List Value} (h : OwnS w D v n cs) : n ≤ 9223372036854775807 ∧ ∃ a c, v = .slice a n c := by
  rcases h with ⟨rfl, rfl⟩ | ⟨g, cap, cur, rfl, q1, q2, q3, q4, q5, q6⟩
  · exact ⟨by omega, none, 0, rfl⟩
  · exact ⟨by unfold maxLen at q4; omega, _, _, rfl⟩
/- what a round asks of two statements -/
theorem sizeS : ∀ (x : S), SizeOf.sizeOf x.thn < SizeOf.sizeOf x ∧ SizeOf.sizeOf x.els < SizeOf.sizeOf x := by
  intro x
  cases x
  simp only [S.mk.sizeOf_spec]
  omega
end Go.Proofs.YtfcdphgggdioeaaGreatDoor
/- The law's own: an error is this one, and where. -/
namespace Go.Proofs.YtfcdphgggdioeaaGreatDoor
open Go.RowKit Go.Extern.Stop Go.Stop Go.Extern

abbrev Hnd (w : World) : Prop := w.cell? ⟨4, 0, none⟩ = some (.iface 183 (.agg #[.pointer (some ⟨9, 37, none⟩)]))
/- what an error value tells: no error, or an At -/
def ErrA (w : World) (v : Value) (n p : Int) : Prop := (v = .nilIface ∧ n = 0 ∧ p = -1) ∨ ∃ ab : Nat, v = .iface 136 (.pointer (some ⟨ab, 0, none⟩)) ∧ w.cell? ⟨ab, 0, none⟩ = some (.int .i64 n) ∧ w.cell? ⟨ab, 1, none⟩ = some (.int .i64 p)
theorem ErrA.below {w w' : World} {v : Value} {n p : Int} (h : ErrA w v n p) (hb : Below w.heap.size w w') : ErrA w' v n p := by
  rcases h with h | ⟨ab, h1, h2, h3⟩
  · exact Or.inl h
  · exact Or.inr ⟨ab, h1, (hb.cell (p := ⟨ab, 0, none⟩) (lt_of_cell h2)).trans h2, (hb.cell (p := ⟨ab, 1, none⟩) (lt_of_cell h3)).trans h3⟩
set_option maxRecDepth 100000 in
set_option maxHeartbeats 400000 in
theorem tell_nil (w : World) : Calls Tryz.prog 72 #[.nilIface] w fun e w' => e = .returned (.int .i64 0) ∧ Below w.heap.size w w' := by
  go_enter Tryz.func72, Tryz.ntmps72
  go_wp2_with fail
  go_ret
  exact ⟨rfl, Below.refl _ _⟩
theorem ta_at (a : Option Addr) (w : World) : (Instr.typeAssert (.iface 136 (.pointer a)) 37 136 true).run Tryz.prog w = .ok (.tuple #[.pointer a, .bool true]) w := by kernel_rfl
set_option maxRecDepth 100000 in
set_option maxHeartbeats 1000000 in
theorem place_nil (w : World) : Calls Tryz.prog 46 #[.nilIface] w fun e w' => e = .returned (.tuple #[.int .i64 0, .int .i64 (-1)]) ∧ Below w.heap.size w w' := by
  have HC := Lib.hid (tell_nil w)
  go_enter Tryz.func46, Tryz.ntmps46
  go_wp2_with fail
  refine HC.out.mono ?_
  rintro e w1 ⟨rfl, hb⟩
  have HB := Lib.hid hb
  clear hb
  go_wp2_with fail
  refine wp_loop_rounds 1 ?_
  rw [rounds_succ]
  go_wp2_with fail
  go_ret2
  exact ⟨rfl, HB.out⟩
set_option maxRecDepth 100000 in
set_option maxHeartbeats 1000000 in
theorem place_at (n p : Int) (ab : Nat) (w : World) (hg : Hnd w) (h0 : w.cell? ⟨ab, 0, none⟩ = some (.int .i64 n)) (h1 : w.cell? ⟨ab, 1, none⟩ = some (.int .i64 p)) : Calls Tryz.prog 46 #[.iface 136 (.pointer (some ⟨ab, 0, none⟩))] w fun e w' => e = .returned (.tuple #[.int .i64 n, .int .i64 p]) ∧ Below w.heap.size w w' := by
  have HC := Lib.hid (tell_at n ab w hg h0)
  have ht := ta_at (some ⟨ab, 0, none⟩)
  clear hg
  go_enter Tryz.func46, Tryz.ntmps46
  go_wp2_with fail
  refine HC.out.mono ?_
  rintro e w1 ⟨rfl, hb⟩
  have c1 : w1.cell? ⟨ab, 1, none⟩ = some (.int .i64 p) := (hb.cell (p := ⟨ab, 1, none⟩) (lt_of_cell h1)).trans h1
  have hl1 := lt_of_cell c1
  have HB := Lib.hid hb
  clear hb h0 h1
  go_wp2_with fail
  refine wp_loop_rounds 1 ?_
  rw [rounds_succ]
  go_wp2_with fail
  go_region
  go_wp2_with fail
  go_ret2
  exact ⟨rfl, HB.out.drew⟩
theorem place_any {w : World} {v : Value} {n p : Int} (hv : ErrA w v n p) (hg : Hnd w) : Calls Tryz.prog 46 #[v] w fun e w' => e = .returned (.tuple #[.int .i64 n, .int .i64 p]) ∧ Below w.heap.size w w' := by
  rcases hv with ⟨rfl, rfl, rfl⟩ | ⟨ab, rfl, h0, h1⟩
  · exact place_nil w
  · exact place_at n p ab w hg h0 h1
end Go.Proofs.YtfcdphgggdioeaaGreatDoor
/- The document's own reader (package marquetryref) in memory: what its block, its tokens hold. -/
namespace Go.Proofs.YtfcdphgggdioeaaGreatDoor
open Go.RowKit
open Tp (Tok hd tx at' stp)
open Nr (Fl fine)
structure Rp where
  rb : Nat
  tb : Nat
  cap : Nat
def kd (t : Tok) : Int := if t.kind = 0 then 4 else (t.kind : Int)
/- a token's three cells, as the reference has them -/
structure RTok (w : World) (b i : Nat) (t : Tok) : Prop where
  c0 : w.cell? ⟨b, i * 3, none⟩ = some (.int .i64 (kd t))
  c1 : w.cell? ⟨b, i * 3 + 1, none⟩ = some (.string (bs t.text))
  c2 : w.cell? ⟨b, i * 3 + 2, none⟩ = some (.int .i64 (t.pos : Int))
/- what the reader reads of the program's variables: Fine, levels; what strings.Contains, strconv.ParseUint read -/
def rlv : List Value := [.string ⟨#[111, 114]⟩, .string ⟨#[97, 110, 100]⟩, .string ⟨#[61, 32, 35, 32, 60, 32, 60, 61, 32, 62, 32, 62, 61]⟩, .string ⟨#[43, 32, 45]⟩, .string ⟨#[42, 32, 100, 105, 118, 32, 109, 111, 100]⟩]
structure Gl (w : World) : Prop where
  f0 : w.cell? ⟨0, 0, none⟩ = some (.int .i64 0)
  f1 : w.cell? ⟨0, 1, none⟩ = some (.int .i64 (-1))
  ml : ∃ m : Int, w.cell? ⟨5, 0, none⟩ = some (.int .i64 m)
  lv : ∀ i, i < 5 → w.cell? ⟨3, i, none⟩ = some (rlv.getD i undef)
  er : ∃ ev, w.cell? ⟨2, 0, none⟩ = some ev ∧ (ev = .nilIface ∨ ∃ te pe, ev = .iface te pe)
def glb : List Nat := [0, 5, 3, 2]
theorem Gl.keep {w w' : World} (h : Gl w) (o : ∀ i ∈ glb, ∀ (j : Nat) (v : Value), w.cell? ⟨i, j, none⟩ = some v → w'.cell? ⟨i, j, none⟩ = some v) : Gl w' :=
  ⟨o _ (by simp [glb]) _ _ h.f0, o _ (by simp [glb]) _ _ h.f1, h.ml.imp fun _ x => o _ (by simp [glb]) _ _ x, fun i hi => o _ (by simp [glb]) _ _ (h.lv i hi), h.er.imp fun _ x => ⟨o _ (by simp [glb]) _ _ x.1, x.2⟩⟩
/- the reader's own block; r: the tokens to come; bad: what was wrong first -/
structure RS (w : World) (q : Rp) (ts r : List Tok) (bad : Fl) : Prop where
  c0 : w.cell? ⟨q.rb, 0, none⟩ = some (.slice (some ⟨q.tb, (ts.length - r.length) * 3, none⟩) r.length (q.cap - (ts.length - r.length)))
  c1 : w.cell? ⟨q.rb, 1, none⟩ = some (.int .i64 bad.1)
  c2 : w.cell? ⟨q.rb, 2, none⟩ = some (.int .i64 bad.2)
  fz : ∀ j, w.frozen? ⟨q.rb, j, none⟩ = false
  toks : ∀ i t, ts[i]? = some t → RTok w q.tb i t
  suf : ts.drop (ts.length - r.length) = r
  ne : r ≠ []
  len : ts.length ≤ 1000
  cp : ts.length ≤ q.cap
  last : ∀ t, ts.getLast? = some t → t.kind = 0
  apart : q.tb < q.rb
  tl : ∀ t, t ∈ ts → t.text.length ≤ 100000 ∧ t.pos ≤ 100000 ∧ t.kind ≤ 3
  txt : ∀ t, t ∈ ts → t.kind = 0 → t.text = []
  dig : ∀ t, t ∈ ts → t.kind = 2 → t.text ≠ [] ∧ ∀ c, c ∈ t.text → Tp.digit c = true
  gl : Gl w
  glt : ∀ i ∈ glb, i < q.rb
theorem RS.belowB {w w' : World} {q : Rp} {ts r : List Tok} {bad : Fl} {B : Nat} (h : RS w q ts r bad) (k : Below B w w') (hp : q.rb < B) : RS w' q ts r bad := by
  have e : ∀ i j, i < B → w'.cell? ⟨i, j, none⟩ = w.cell? ⟨i, j, none⟩ := fun i j hi => k.cell (p := ⟨i, j, none⟩) hi
  have ht : q.tb < B := by have := h.apart; omega
  exact ⟨(e _ 0 hp).trans h.c0, (e _ 1 hp).trans h.c1, (e _ 2 hp).trans h.c2, fun j => (k.frozen (p := ⟨q.rb, j, none⟩) hp).trans (h.fz j),
    fun i t hi => ⟨(e _ _ ht).trans (h.toks i t hi).c0, (e _ _ ht).trans (h.toks i t hi).c1, (e _ _ ht).trans (h.toks i t hi).c2⟩, h.suf, h.ne, h.len, h.cp, h.last, h.apart, h.tl, h.txt, h.dig, h.gl.keep fun i hi j v hv => (e _ _ (Nat.lt_trans (h.glt i hi) hp)).trans hv, h.glt⟩
theorem RS.below {w w' : World} {q : Rp} {ts r : List Tok} {bad : Fl} (h : RS w q ts r bad) (k : Below w.heap.size w w') : RS w' q ts r bad := h.belowB k (lt_of_cell h.c0)
theorem RS.hd {w : World} {q : Rp} {ts r : List Tok} {bad : Fl} (h : RS w q ts r bad) : ts[ts.length - r.length]? = some (hd r) ∧ ts.length - r.length < ts.length ∧ 0 < r.length ∧ r.length ≤ ts.length := by
  have h1 := h.suf
  have h2 := h.ne
  cases r with
  | nil => exact absurd rfl h2
  | cons t l =>
    have hl : (t :: l).length ≤ ts.length := by
      have := congrArg List.length h1
      simp only [List.length_drop] at this
      omega
    have h3 : (ts.drop (ts.length - (t :: l).length))[0]? = some t := by rw [h1]; rfl
    rw [List.getElem?_drop, Nat.add_zero] at h3
    refine ⟨by rw [h3]; rfl, ?_, by simp, hl⟩
    rw [List.getElem?_eq_some_iff] at h3
    exact h3.1
theorem RS.stp_of {w : World} {q : Rp} {ts r : List Tok} {bad : Fl} (h : RS w q ts r bad) (hk : (Tp.hd r).kind ≠ 0) : stp r = r.tail ∧ r.tail ≠ [] ∧ r.length = r.tail.length + 1 ∧ r.length ≤ ts.length ∧ ts.drop (ts.length - r.tail.length) = r.tail := by
  have h1 := h.suf
  have h2 := h.ne
  cases r with
  | nil => exact absurd rfl h2
  | cons t l =>
    have hl : (t :: l).length ≤ ts.length := by
      have := congrArg List.length h1
      simp only [List.length_drop] at this
      omega
    have hne : l ≠ [] := by
      intro e
      subst e
      have := h.last t (by
        have h4 := List.getLast?_drop (i := ts.length - [t].length) (l := ts)
        rw [h1, if_neg (by simp at hl ⊢; omega)] at h4
        rw [← h4]; rfl)
      exact hk this
    refine ⟨by simp [stp, hk], hne, by simp, hl, ?_⟩
    simp only [List.tail_cons]
    have e : ts.length - l.length = (ts.length - (t :: l).length) + 1 := by simp at hl ⊢; omega
    rw [e, ← List.drop_drop, h1]
    rfl
end Go.Proofs.YtfcdphgggdioeaaGreatDoor
/- The document's reader: ok, fails, see. -/
namespace Go.Proofs.YtfcdphgggdioeaaGreatDoor
open Go.RowKit
open Tp (Tok hd tx at' stp)
open Nr (Fl fine)

set_option maxRecDepth 100000 in
set_option maxHeartbeats 400000 in
theorem rok_raw (rb : Nat) (a b : Int) (w : World) (_hp : rb < w.heap.size) (_hg : 0 < w.heap.size)
    (c1 : w.cell? ⟨rb, 1, none⟩ = some (.int .i64 a)) (c2 : w.cell? ⟨rb, 2, none⟩ = some (.int .i64 b))
    (f0 : w.cell? ⟨0, 0, none⟩ = some (.int .i64 0)) (f1 : w.cell? ⟨0, 1, none⟩ = some (.int .i64 (-1))) :
    Calls Tryz.prog 13 #[.pointer (some ⟨rb, 0, none⟩)] w fun e w' => e = .returned (.bool (decide ((a, b) = fine))) ∧ Below w.heap.size w w' := by
  by_cases ha : a = 0
  · by_cases hb : b = -1
    · subst ha; subst hb
      go_enter Tryz.func13, Tryz.ntmps13
      go_wp2
      go_region
      go_wp2
      go_ret
      exact ⟨by simp [fine], ((Below.refl _ _)).drew⟩
    · subst ha
      have hd1 : decide (((0 : Int), b) = fine) = false := by simp [fine, hb]
      rw [hd1]
      go_enter Tryz.func13, Tryz.ntmps13
      go_wp2
      go_region
      go_wp2
      go_ret
      exact ⟨rfl, ((Below.refl _ _)).drew⟩
  · have hd1 : decide ((a, b) = fine) = false := by simp [fine, ha]
    rw [hd1]
    go_enter Tryz.func13, Tryz.ntmps13
    go_wp2
    go_region
    go_wp2
    go_ret
    exact ⟨rfl, ((Below.refl _ _)).drew⟩
theorem rok_any {w : World} {q : Rp} {ts r : List Tok} {bad : Fl} (h : RS w q ts r bad) :
    Calls Tryz.prog 13 #[.pointer (some ⟨q.rb, 0, none⟩)] w fun e w' => e = .returned (.bool (decide (bad = fine))) ∧ Below w.heap.size w w' :=
  rok_raw q.rb bad.1 bad.2 w (lt_of_cell h.c0) (lt_of_cell h.gl.f0) h.c1 h.c2 h.gl.f0 h.gl.f1

theorem RS.failed {w w2 : World} {q : Rp} {ts r : List Tok} {bad : Fl} (h : RS w q ts r bad) (hb : Below w.heap.size w w2) (e p : Int) :
    RS ((w2.setCell ⟨q.rb, 1, none⟩ (.int .i64 e)).setCell ⟨q.rb, 2, none⟩ (.int .i64 p)) q ts r (e, p) := by
  have h2 := h.below hb
  have n1 := h.apart
  have o : ∀ (i j : Nat) (v : Value), (i ≠ q.rb ∨ (j ≠ 1 ∧ j ≠ 2)) → w2.cell? ⟨i, j, none⟩ = some v → ((w2.setCell ⟨q.rb, 1, none⟩ (.int .i64 e)).setCell ⟨q.rb, 2, none⟩ (.int .i64 p)).cell? ⟨i, j, none⟩ = some v := by
    intro i j v hn hv
    rw [World.cell?_setCell_other _ ⟨q.rb, 2, none⟩ ⟨i, j, none⟩ _ (by simp <;> omega), World.cell?_setCell_other _ ⟨q.rb, 1, none⟩ ⟨i, j, none⟩ _ (by simp <;> omega)]
    exact hv
  refine ⟨o _ _ _ (by omega) h2.c0, ?_, ?_, fun j => by simpa using h2.fz j, fun i t ht => ⟨o _ _ _ (by omega) (h2.toks i t ht).c0, o _ _ _ (by omega) (h2.toks i t ht).c1, o _ _ _ (by omega) (h2.toks i t ht).c2⟩, h.suf, h.ne, h.len, h.cp, h.last, h.apart, h.tl, h.txt, h.dig, h2.gl.keep fun i hi j v hv => o _ _ _ (by have := h.glt i hi; omega) hv, h.glt⟩
  · rw [World.cell?_setCell_other _ ⟨q.rb, 2, none⟩ ⟨q.rb, 1, none⟩ _ (by simp)]
    exact World.cell?_setCell_same _ _ _ h2.c1
  · have c2 : (w2.setCell ⟨q.rb, 1, none⟩ (.int .i64 e)).cell? ⟨q.rb, 2, none⟩ = some (.int .i64 bad.2) := by
      rw [World.cell?_setCell_other _ ⟨q.rb, 1, none⟩ ⟨q.rb, 2, none⟩ _ (by simp)]
      exact h2.c2
    exact World.cell?_setCell_same _ _ _ c2

set_option maxRecDepth 100000 in
set_option maxHeartbeats 400000 in
theorem rfails_any {w : World} {q : Rp} {ts r : List Tok} {bad : Fl} (h : RS w q ts r bad) (en : Nat) :
    Calls Tryz.prog 17 #[.pointer (some ⟨q.rb, 0, none⟩), .int .i64 (en : Int)] w fun e w' => e = .returned (.tuple #[]) ∧ RS w' q ts r (if bad = fine then ((en : Int), (at' r : Int)) else bad) ∧ Ext q.rb w w' := by
  by_cases hf : bad = fine
  · have hd1 := decide_eq_true hf
    rw [if_pos hf]
    clear hf
    obtain ⟨h1, h2, h3, h4⟩ := h.hd
    obtain ⟨i, hi⟩ : ∃ i, i = ts.length - r.length := ⟨_, rfl⟩
    obtain ⟨n, hn⟩ : ∃ n, n = r.length := ⟨_, rfl⟩
    obtain ⟨k, hk⟩ : ∃ k, k = q.cap - i := ⟨_, rfl⟩
    have HC : Hid (∀ w', RS w' q ts r bad → w'.cell? ⟨q.rb, 0, none⟩ = some (.slice (some ⟨q.tb, i * 3, none⟩) n k) ∧ w'.cell? ⟨q.tb, i * 3 + 2, none⟩ = some (.int .i64 ((hd r).pos : Int))) := fun w' h' => by
      rw [hk, hi, hn]; exact ⟨h'.c0, (h'.toks _ _ h1).c2⟩
    have hn0 : (0 : Int) < n := by omega
    clear hi hn hk h1 h2 h3 h4
    go_enter Tryz.func17, Tryz.ntmps17
    go_wp2_with fail
    refine (rok_any h).mono ?_
    rintro e w1 ⟨rfl, hb1⟩
    rw [hd1]
    have h5 := h.below hb1
    obtain ⟨d1, d2⟩ := HC.out w1 h5
    have d3 := h5.fz 1
    have d4 := h5.fz 2
    have d5 := h5.c1
    have d6 := h5.c2
    go_wp2_with fail
    refine bodyPost_end (results_none rfl _ _ _) rfl ⟨rfl, h.failed hb1 _ _, ((Ext.below hb1).set 1 _).set 2 _⟩
  · have hd1 := decide_eq_false hf
    rw [if_neg hf]
    clear hf
    go_enter Tryz.func17, Tryz.ntmps17
    go_wp2_with fail
    refine (rok_any h).mono ?_
    rintro e w1 ⟨rfl, hb1⟩
    rw [hd1]
    go_wp2_with fail
    exact bodyPost_end (results_none rfl _ _ _) rfl ⟨rfl, h.below hb1, Ext.below hb1⟩

set_option maxRecDepth 100000 in
set_option maxHeartbeats 400000 in
theorem rsee_any {w : World} {q : Rp} {ts r : List Tok} {bad : Fl} (h : RS w q ts r bad) (m : List UInt8) (hm : m ≠ []) (x : ByteArray) (hx : Hid (x = bs m)) :
    Calls Tryz.prog 19 #[.pointer (some ⟨q.rb, 0, none⟩), .string x] w fun e w' => e = .returned (.bool (decide (bad = fine ∧ tx r = m))) ∧ Below w.heap.size w w' := by
  by_cases hf : bad = fine
  · have hd1 := decide_eq_true hf
    have e0 : decide (bad = fine ∧ tx r = m) = decide (tx r = m) := by simp [hf]
    rw [e0]
    clear e0 hf
    obtain ⟨h1, h2, h3, h4⟩ := h.hd
    have hmem : hd r ∈ ts := List.mem_of_getElem? h1
    have htx := h.txt _ hmem
    obtain ⟨i, hi⟩ : ∃ i, i = ts.length - r.length := ⟨_, rfl⟩
    obtain ⟨n, hn⟩ : ∃ n, n = r.length := ⟨_, rfl⟩
    obtain ⟨k, hk⟩ : ∃ k, k = q.cap - i := ⟨_, rfl⟩
    have HC : Hid (∀ w', RS w' q ts r bad → w'.cell? ⟨q.rb, 0, none⟩ = some (.slice (some ⟨q.tb, i * 3, none⟩) n k) ∧ w'.cell? ⟨q.tb, i * 3, none⟩ = some (.int .i64 (kd (hd r))) ∧ w'.cell? ⟨q.tb, i * 3 + 1, none⟩ = some (.string (bs (hd r).text))) := fun w' h' => by
      rw [hk, hi, hn]; exact ⟨h'.c0, (h'.toks _ _ h1).c0, (h'.toks _ _ h1).c1⟩
    have hn0 : (0 : Int) < n := by omega
    clear hi hn hk h1 h2 h3 h4
    by_cases hk0 : (hd r).kind = 0
    · have hk1 : kd (hd r) = 4 := by simp [kd, hk0]
      have e1 : decide (tx r = m) = false := by
        have := htx hk0
        simp only [tx, this]
        exact decide_eq_false (fun e => hm e.symm)
      rw [e1]
      rw [hk1] at HC
      clear e1 htx hk0
      go_enter Tryz.func19, Tryz.ntmps19
      go_wp2_with fail
      refine (rok_any h).mono ?_
      rintro e w1 ⟨rfl, hb1⟩
      rw [hd1]
      have h5 := h.below hb1
      obtain ⟨d1, d2, d3⟩ := HC.out w1 h5
      go_wp2_with fail
      go_ret
      exact ⟨rfl, hb1⟩
    · obtain ⟨kk, hkk⟩ : ∃ kk, kk = kd (hd r) := ⟨_, rfl⟩
      have hk1 : (kk != 4) = true := by
        have := (h.tl _ hmem).2.2
        rw [hkk]
        simp [kd, hk0]
        omega
      rw [← hkk] at HC
      have e2 : ((bs (hd r).text).toList == (bs m).toList) = decide (tx r = m) := by rw [Bool.eq_iff_iff, decide_eq_true_iff, beq_iff_eq, bs_toList, bs_toList]; rfl
      have e1 : x = bs m := hx
      subst e1
      have E2 : Hid (((bs (hd r).text).toList == (bs m).toList) = decide (tx r = m)) := e2
      clear e2 htx hk0 hkk
      go_enter Tryz.func19, Tryz.ntmps19
      go_wp2_with fail
      refine (rok_any h).mono ?_
      rintro e w1 ⟨rfl, hb1⟩
      rw [hd1]
      have h5 := h.below hb1
      obtain ⟨d1, d2, d3⟩ := HC.out w1 h5
      go_wp2_with fail
      go_ret
      refine ⟨?_, hb1⟩
      have e2 := E2.out
      simp [e2]
  · have hd1 := decide_eq_false hf
    have e0 : decide (bad = fine ∧ tx r = m) = false := by simp [hf]
    rw [e0]
    clear e0 hf
    go_enter Tryz.func19, Tryz.ntmps19
    go_wp2_with fail
    refine (rok_any h).mono ?_
    rintro e w1 ⟨rfl, hb1⟩
    rw [hd1]
    go_wp2_with fail
    go_ret
    exact ⟨rfl, hb1⟩
end Go.Proofs.YtfcdphgggdioeaaGreatDoor
/- The document's reader: take, must. -/
namespace Go.Proofs.YtfcdphgggdioeaaGreatDoor
open Go.RowKit
open Tp (Tok hd tx at' stp)
open Nr (Fl fine)

theorem RS.stepped {w w2 : World} {q : Rp} {ts r : List Tok} {bad : Fl} (h : RS w q ts r bad) (hk : (Tp.hd r).kind ≠ 0) (hb : Below w.heap.size w w2) {i n k : Nat}
    (hi : i = (ts.length - r.length) * 3 + 3) (hn : n = r.length - 1) (hc : k = q.cap - (ts.length - r.length) - 1) :
    RS (w2.setCell ⟨q.rb, 0, none⟩ (.slice (some ⟨q.tb, i, none⟩) n k)) q ts (stp r) bad := by
  have h2 := h.below hb
  have n1 := h.apart
  obtain ⟨h3, h4, h5, h6, h7⟩ := h.stp_of hk
  have o : ∀ (i' j : Nat) (v : Value), (i' ≠ q.rb ∨ j ≠ 0) → w2.cell? ⟨i', j, none⟩ = some v → (w2.setCell ⟨q.rb, 0, none⟩ (.slice (some ⟨q.tb, i, none⟩) n k)).cell? ⟨i', j, none⟩ = some v := by
    intro i' j v hn hv
    rw [World.cell?_setCell_other _ ⟨q.rb, 0, none⟩ ⟨i', j, none⟩ _ (by simp <;> omega)]
    exact hv
  rw [h3]
  refine ⟨?_, o _ _ _ (by omega) h2.c1, o _ _ _ (by omega) h2.c2, fun j => by simpa using h2.fz j, fun i t ht => ⟨o _ _ _ (by omega) (h2.toks i t ht).c0, o _ _ _ (by omega) (h2.toks i t ht).c1, o _ _ _ (by omega) (h2.toks i t ht).c2⟩, h7, h4, h.len, h.cp, h.last, h.apart, h.tl, h.txt, h.dig, h2.gl.keep fun i hi j v hv => o _ _ _ (by have := h.glt i hi; omega) hv, h.glt⟩
  have a1 : (ts.length - r.tail.length) * 3 = i := by omega
  have a2 : r.tail.length = n := by omega
  have a3 : q.cap - (ts.length - r.tail.length) = k := by omega
  rw [a3, a1, a2]
  exact World.cell?_setCell_same _ _ _ h2.c0

set_option maxRecDepth 100000 in
set_option maxHeartbeats 400000 in
theorem rtake_any {w : World} {q : Rp} {ts r : List Tok} {bad : Fl} (h : RS w q ts r bad) (m : List UInt8) (hm : m ≠ []) (x : ByteArray) (hx : Hid (x = bs m)) :
    Calls Tryz.prog 15 #[.pointer (some ⟨q.rb, 0, none⟩), .string x] w fun e w' => e = .returned (.bool (decide (bad = fine ∧ tx r = m))) ∧ RS w' q ts (if bad = fine ∧ tx r = m then stp r else r) bad ∧ Ext q.rb w w' := by
  by_cases hf : bad = fine ∧ tx r = m
  · have hd1 := decide_eq_true hf
    rw [if_pos hf, hd1]
    obtain ⟨h1, h2, h3, h4⟩ := h.hd
    have hmem : hd r ∈ ts := List.mem_of_getElem? h1
    have hk0 : (hd r).kind ≠ 0 := fun e => hm (hf.2.symm.trans (h.txt _ hmem e))
    have HK : Hid ((hd r).kind ≠ 0) := hk0
    obtain ⟨i, hi⟩ : ∃ i, i = (ts.length - r.length) * 3 := ⟨_, rfl⟩
    obtain ⟨n, hn⟩ : ∃ n, n = r.length := ⟨_, rfl⟩
    obtain ⟨k, hk⟩ : ∃ k, k = q.cap - (ts.length - r.length) := ⟨_, rfl⟩
    have HC : Hid (∀ w', RS w' q ts r bad → w'.cell? ⟨q.rb, 0, none⟩ = some (.slice (some ⟨q.tb, i, none⟩) n k)) := fun w' h' => by
      rw [hk, hi, hn]; exact h'.c0
    have hn0 : (2 : Int) ≤ n := by
      obtain ⟨_, y4, y5, _, _⟩ := h.stp_of hk0
      have : 0 < r.tail.length := List.length_pos_iff.2 y4
      omega
    have hk1 : (n : Int) ≤ k := by have := h.cp; omega
    have HI : Hid (i = (ts.length - r.length) * 3 ∧ n = r.length ∧ k = q.cap - (ts.length - r.length)) := ⟨hi, hn, hk⟩
    clear hi hn hk h1 h2 h3 h4 hf hk0
    go_enter Tryz.func15, Tryz.ntmps15
    go_wp2_with fail
    refine (rsee_any h m hm x hx).mono ?_
    rintro e w1 ⟨rfl, hb1⟩
    rw [hd1]
    have h5 := h.below hb1
    have d1 := HC.out w1 h5
    have d3 := h5.fz 0
    go_wp2_with fail
    refine bodyPost_ret (v := .bool true) (by simp [results, Tryz.results15, go_sem]) rfl ⟨rfl, h.stepped HK.out hb1 (by rw [HI.out.1]) (by rw [HI.out.2.1]) (by rw [HI.out.2.2]), (Ext.below hb1).set 0 _⟩
  · have hd1 := decide_eq_false hf
    rw [if_neg hf, hd1]
    clear hf
    go_enter Tryz.func15, Tryz.ntmps15
    go_wp2_with fail
    refine (rsee_any h m hm x hx).mono ?_
    rintro e w1 ⟨rfl, hb1⟩
    rw [hd1]
    go_wp2_with fail
    refine bodyPost_ret (v := .bool false) (by simp [results, Tryz.results15, go_sem]) rfl ⟨rfl, h.below hb1, Ext.below hb1⟩

set_option maxRecDepth 100000 in
set_option maxHeartbeats 400000 in
theorem rmust_any {w : World} {q : Rp} {ts r : List Tok} {bad : Fl} (h : RS w q ts r bad) (m : List UInt8) (hm : m ≠ []) (x : ByteArray) (hx : Hid (x = bs m)) :
    Calls Tryz.prog 12 #[.pointer (some ⟨q.rb, 0, none⟩), .string x] w fun e w' => e = .returned (.tuple #[]) ∧ RS w' q ts (if bad = fine ∧ tx r = m then stp r else r) (if bad = fine ∧ tx r ≠ m then (3, (at' r : Int)) else bad) ∧ Ext q.rb w w' := by
  by_cases hf : bad = fine ∧ tx r = m
  · have hd1 := decide_eq_true hf
    have H := rtake_any h m hm x hx
    have e1 : (if bad = fine ∧ tx r ≠ m then ((3 : Int), (at' r : Int)) else bad) = bad := if_neg fun e => e.2 hf.2
    rw [if_pos hf, hd1] at H
    rw [e1, if_pos hf]
    clear e1 hf
    go_enter Tryz.func12, Tryz.ntmps12
    go_wp2_with fail
    refine H.mono ?_
    rintro e w1 ⟨rfl, h1, hb1⟩
    go_wp2_with fail
    exact bodyPost_end (results_none rfl _ _ _) rfl ⟨rfl, h1, hb1⟩
  · have hd1 := decide_eq_false hf
    have H := rtake_any h m hm x hx
    rw [if_neg hf] at H ⊢
    have e1 : (if bad = fine ∧ tx r ≠ m then ((3 : Int), (at' r : Int)) else bad) = if bad = fine then (((3 : Nat) : Int), (at' r : Int)) else bad := by
      by_cases hb : bad = fine
      · have : tx r ≠ m := fun e => hf ⟨hb, e⟩
        rw [if_pos ⟨hb, this⟩, if_pos hb]; rfl
      · rw [if_neg hb, if_neg fun e => hb e.1]
    rw [hd1] at H
    rw [e1]
    obtain ⟨bd, hbd⟩ : ∃ bd, bd = if bad = fine then (((3 : Nat) : Int), (at' r : Int)) else bad := ⟨_, rfl⟩
    rw [← hbd]
    have HB : Hid (bd = if bad = fine then (((3 : Nat) : Int), (at' r : Int)) else bad) := hbd
    clear e1 hf hbd
    go_enter Tryz.func12, Tryz.ntmps12
    go_wp2_with fail
    refine H.mono ?_
    rintro e w1 ⟨rfl, h1, hb1⟩
    go_wp2_with fail
    refine (rfails_any h1 3).mono ?_
    rintro e w2 ⟨rfl, h2, hb2⟩
    rw [← HB.out] at h2
    go_wp2_with fail
    exact bodyPost_end (results_none rfl _ _ _) rfl ⟨rfl, h2, hb1.trans hb2⟩
end Go.Proofs.YtfcdphgggdioeaaGreatDoor
/- The document's reader: oneOf. -/
namespace Go.Proofs.YtfcdphgggdioeaaGreatDoor
open Go.RowKit
open Tp (Tok hd tx at' stp)
open Nr (Fl fine)
def oneB (s ws : List UInt8) : Bool := !s.isEmpty && (!(Lib.contains s [32]) && Lib.contains ([32] ++ ws ++ [32]) ([32] ++ s ++ [32]))
theorem contains_call (s t : List UInt8) (x y : ByteArray) (hx : x = bs s) (hy : y = bs t) (m : Int) (w : World) (hs : s.length < 1000000) (hm : w.cell? ⟨5, 0, none⟩ = some (.int .i64 m)) :
    Calls Tryz.prog 62 #[.string x, .string y] w fun e w' => e = .returned (.bool (Lib.contains s t)) ∧ w' = w := by
  subst hx; subst hy
  have hsz : (bs s).size < 4294967281 := by
    have : (bs s).size = s.length := by simp [bs, ByteArray.size]
    omega
  have := Go.Proofs.Any.strings_Contains Tryz.laysCt (bs s) (bs t) m w hsz hm
  have e1 : (bs s).data.toList = s := by simp [bs]
  have e2 : (bs t).data.toList = t := by simp [bs]
  rw [e1, e2] at this
  exact this

set_option maxRecDepth 100000 in
set_option maxHeartbeats 400000 in
theorem oneOf_any (s ws : List UInt8) (x y : ByteArray) (hx : Hid (x = bs s)) (hy : Hid (y = bs ws)) (m : Int) (w : World) (hs : s.length < 100001) (hw : ws.length < 1000) (hm : w.cell? ⟨5, 0, none⟩ = some (.int .i64 m)) :
    Calls Tryz.prog 40 #[.string x, .string y] w fun e w' => e = .returned (.bool (oneB s ws)) ∧ w' = w := by
  have hxl : x.toList = s := by rw [hx.out, bs_toList]
  have HS : Hid (s.length < 100001) := hs
  have HW : Hid (ws.length < 1000) := hw
  have HM : Hid (w.cell? ⟨5, 0, none⟩ = some (.int .i64 m)) := hm
  clear hs hw hm
  by_cases h0 : s = []
  · have e0 : oneB s ws = false := by simp [oneB, h0]
    rw [e0]
    have hne : x.toList = [] := by rw [hxl, h0]
    clear e0 h0 hxl
    go_enter Tryz.func40, Tryz.ntmps40
    go_wp2_with fail
    exact bodyPost_ret (v := .bool false) (by simp [results, Tryz.results40, go_sem]) rfl ⟨rfl, rfl⟩
  · have hne : ¬ x.toList = [] := by rw [hxl]; exact h0
    have e0 : oneB s ws = (!(Lib.contains s [32]) && Lib.contains ([32] ++ ws ++ [32]) ([32] ++ s ++ [32])) := by
      have : s.isEmpty = false := by simpa using h0
      simp only [oneB, this]; rfl
    rw [e0]
    clear e0 h0 hxl
    have H1 := contains_call s [32] x ⟨#[32]⟩ hx.out rfl m w (by have := HS.out; omega) HM.out
    cases hb : Lib.contains s [32]
    · rw [hb] at H1
      rw [Bool.not_false, Bool.true_and]
      have sx : x.size = s.length := by rw [hx.out]; simp [bs, ByteArray.size]
      have sy : y.size = ws.length := by rw [hy.out]; simp [bs, ByteArray.size]
      have k1 : ¬ 9223372036854775807 < 1 + y.size := by have := HW.out; omega
      have k2 : ¬ 9223372036854775807 < 1 + y.size + 1 := by have := HW.out; omega
      have k3 : ¬ 9223372036854775807 < 1 + x.size := by have := HS.out; omega
      have k4 : ¬ 9223372036854775807 < 1 + x.size + 1 := by have := HS.out; omega
      have ap : ∀ l : List UInt8, (ByteArray.mk #[32]) ++ bs l ++ (ByteArray.mk #[32]) = bs ([32] ++ l ++ [32]) := by
        intro l
        apply ByteArray.ext
        simp [bs, ByteArray.data_append]
      have H2 := contains_call ([32] ++ ws ++ [32]) ([32] ++ s ++ [32]) _ _ (ap ws) (ap s) m w (by have := HW.out; simp; omega) HM.out
      rw [← hx.out, ← hy.out] at H2
      obtain ⟨bb, hbb⟩ : ∃ bb, bb = Lib.contains ([32] ++ ws ++ [32]) ([32] ++ s ++ [32]) := ⟨_, rfl⟩
      rw [← hbb] at H2 ⊢
      clear hbb ap sx sy
      go_enter Tryz.func40, Tryz.ntmps40
      go_wp2_with fail
      refine H1.mono ?_
      rintro e w1 ⟨rfl, rfl⟩
      go_wp2_with fail
      refine H2.mono ?_
      rintro e w1 ⟨rfl, rfl⟩
      go_wp2_with fail
      exact bodyPost_ret (v := .bool bb) (by simp [results, Tryz.results40, go_sem, hne]) rfl ⟨rfl, rfl⟩
    · rw [hb] at H1
      rw [Bool.not_true, Bool.false_and]
      go_enter Tryz.func40, Tryz.ntmps40
      go_wp2_with fail
      refine H1.mono ?_
      rintro e w1 ⟨rfl, rfl⟩
      go_wp2_with fail
      exact bodyPost_ret (v := .bool false) (by simp [results, Tryz.results40, go_sem]) rfl ⟨rfl, rfl⟩

/- what oneOf says of words with blanks between -/
theorem contains_iff (l t : List UInt8) : Lib.contains l t = true ↔ t <:+: l := by
  unfold Lib.contains
  rw [decide_eq_true_iff]
  induction l with
  | nil =>
    unfold Lib.index
    cases t with
    | nil => simp
    | cons a b => simp
  | cons b l ih =>
    unfold Lib.index
    by_cases h : t.isPrefixOf (b :: l) = true
    · rw [if_pos h]
      simp only [Int.le_refl, true_iff]
      exact (List.isPrefixOf_iff_prefix.1 h).isInfix
    · rw [if_neg h, List.infix_cons_iff]
      have h' : ¬ t <+: b :: l := fun e => h (List.isPrefixOf_iff_prefix.2 e)
      by_cases e : Lib.index l t = -1
      · have e' : (Lib.index l t == -1) = true := by simpa using e
        rw [if_pos e']
        rw [e] at ih
        simp at ih
        simp [h', ih]
      · have e' : ¬ (Lib.index l t == -1) = true := by simpa using e
        rw [if_neg e']
        have lo : -1 ≤ Lib.index l t := by
          clear ih h h' e e'
          induction l with
          | nil => unfold Lib.index; split <;> simp
          | cons c l ih2 =>
            unfold Lib.index; split; · simp
            split; · simp
            omega
        have : 0 ≤ Lib.index l t := by omega
        have i1 := ih.1 this
        simp [h', i1]
        omega
end Go.Proofs.YtfcdphgggdioeaaGreatDoor
