import Derived.Test.YtibncofnnlbmcaaGreatDoorKMf
import Derived.Test.YtibncofnnlbmcaaGreatDoorKMb
import Derived.Test.YtibncofnnlbmcaaGreatDoorKWl
import Derived.Test.YtibncofnnlbmcaaGreatDoorKShb
import Derived.Stop.Asserts
import Derived.Lib.ConvBytes
/- errors.As at a *Errno, walked; Tell. -/
namespace Go.Proofs.YtibncofnnlbmcaaGreatDoor
open Go.RowKit Go.Extern.Stop Go.Stop Go.Extern

theorem me_Kind (h : Value) (w : World) : (Go.method 332 223 (.agg #[h]) "Kind").run Tryz.prog w = .ok (232, h) w := by kernel_rfl
theorem me_Elem (h : Value) (w : World) : (Go.method 332 223 (.agg #[h]) "Elem").run Tryz.prog w = .ok (245, .agg #[h]) w := by kernel_rfl
theorem me_Impl (h : Value) (w : World) : (Go.method 332 223 (.agg #[h]) "Implements").run Tryz.prog w = .ok (246, .agg #[h]) w := by kernel_rfl
theorem me_Assign (h : Value) (w : World) : (Go.method 332 223 (.agg #[h]) "AssignableTo").run Tryz.prog w = .ok (243, .agg #[h]) w := by kernel_rfl
theorem me_Unwrap (a : Option Addr) (w : World) : (Go.method 332 117 (.pointer a) "Unwrap").run Tryz.prog w = .ok (237, .pointer a) w := by kernel_rfl
set_option maxRecDepth 100000 in
set_option maxHeartbeats 400000 in
theorem unwrap_any (ab : Nat) (n : Int) (w : World) (h : w.cell? ⟨ab, 0, none⟩ = some (.int .i64 n)) (_hl : ab < w.heap.size) :
    Calls Tryz.prog 237 #[.pointer (some ⟨ab, 0, none⟩)] w fun e w' => e = .returned (.iface 44 (.int .i64 n)) ∧ w' = w := by
  go_enter Tryz.func237, Tryz.ntmps237
  go_wp2_with fail
  go_ret
  exact ⟨rfl, rfl⟩
set_option maxRecDepth 100000 in
set_option maxHeartbeats 4000000 in
theorem as_en (n : Int) (t : Addr) (old : Value) (w : World) (hg : w.cell? ⟨0, 0, none⟩ = some (.iface 223 (.agg #[.pointer (some ⟨7, 38, none⟩)]))) (ht0 : w.cell? t = some old) (hf0 : w.frozen? t = false) :
    Calls Tryz.prog 53 #[.iface 44 (.int .i64 n), .iface 113 (.pointer (some t))] w fun ev w' => ev = .returned (.bool true) ∧ w' = ((((w.alloc (.cells #[.pointer (some t)] 113)).alloc (.cells #[.pointer (some ⟨7, 113, none⟩), .pointer (some ⟨w.heap.size, 0, none⟩), .int .u64 150] 164)).alloc (.cells #[.pointer (some ⟨7, 113, none⟩), .pointer (some ⟨w.heap.size, 0, none⟩), .int .u64 150] 164)).alloc (.cells #[.int .i64 n] 44)).setCell t (.int .i64 n) := by
  have h6 := @run_callFunc_extern Tryz.prog 94 _ (fun args => ReflectliteValue.unpack (args.getD 0 (.tuple #[]))) Tryz.func94 (by kernel_rfl) (by kernel_rfl) (by kernel_rfl) (by kernel_rfl)
  have h7 := @run_callFunc_extern Tryz.prog 95 _ (ReflectliteValue.methodAny (ReflectliteValue.valueError "reflectlite.Value.Type" 0) (fun t _ _ _ => ReflectliteType.toType t)) Tryz.func95 (by kernel_rfl) (by kernel_rfl) (by kernel_rfl) (by kernel_rfl)
  have h8 := @run_callFunc_extern Tryz.prog 96 _ (ReflectliteValue.method (ReflectliteValue.valueError "reflectlite.Value.IsNil" 0) ReflectliteValue.isNil) Tryz.func96 (by kernel_rfl) (by kernel_rfl) (by kernel_rfl) (by kernel_rfl)
  have h27 := @run_callFunc_extern Tryz.prog 232 _ (ReflectliteType.abiMethod fun t => do pure (.int .u8 (← Rtype.kind t))) Tryz.func232 (by kernel_rfl) (by kernel_rfl) (by kernel_rfl) (by kernel_rfl)
  have h37 := @run_callFunc_extern Tryz.prog 245 _ (ReflectliteType.method ReflectliteType.elem) Tryz.func245 (by kernel_rfl) (by kernel_rfl) (by kernel_rfl) (by kernel_rfl)
  have h38 := @run_callFunc_extern Tryz.prog 246 _ (ReflectliteType.relation "Implements" ReflectliteType.implements_) Tryz.func246 (by kernel_rfl) (by kernel_rfl) (by kernel_rfl) (by kernel_rfl)
  have h10 := @run_callFunc_extern Tryz.prog 130 _ ReflectliteType.typeOf Tryz.func130 (by kernel_rfl) (by kernel_rfl) (by kernel_rfl) (by kernel_rfl)
  have h35 := @run_callFunc_extern Tryz.prog 243 _ (ReflectliteType.relation "AssignableTo" ReflectliteType.assignableTo) Tryz.func243 (by kernel_rfl) (by kernel_rfl) (by kernel_rfl) (by kernel_rfl)
  have h11 := @run_callFunc_extern Tryz.prog 131 _ (ReflectliteValue.method (ReflectliteValue.valueError "reflectlite.Value.Elem" 0) ReflectliteValue.elem) Tryz.func131 (by kernel_rfl) (by kernel_rfl) (by kernel_rfl) (by kernel_rfl)
  have h12 := @run_callFunc_extern Tryz.prog 132 _ ReflectliteValue.set Tryz.func132 (by kernel_rfl) (by kernel_rfl) (by kernel_rfl) (by kernel_rfl)
  have tO := rl_typeOfE
  have mA := me_Assign
  have a25 := rl_assignE
  have v25 := rl_valueE
  have f6 := rl_valueP
  have f7 := rl_typeP
  have mK := me_Kind
  have mE := me_Elem
  have mI := me_Impl
  have k27 := rl_kindP
  have k25 := rl_kindE
  have e27 := rl_elem
  have i25 := rl_implements
  have n8 := rl_isNil ⟨w.heap.size, 0, none⟩ t ((w.alloc (.cells #[.pointer (some t)] 113)).alloc (.cells #[.pointer (some ⟨7, 113, none⟩), .pointer (some ⟨w.heap.size, 0, none⟩), .int .u64 150] 164)) (by simp)
  have hlt : 0 < w.heap.size := lt_of_cell hg
  have hg2 : ((w.alloc (.cells #[.pointer (some t)] 113)).alloc (.cells #[.pointer (some ⟨7, 113, none⟩), .pointer (some ⟨w.heap.size, 0, none⟩), .int .u64 150] 164)).cell? ⟨0, 0, none⟩ = some (.iface 223 (.agg #[.pointer (some ⟨7, 38, none⟩)])) := by
    rw [World.cell?_alloc_lt _ _ ⟨0, 0, none⟩ (by simp <;> omega), World.cell?_alloc_lt _ _ ⟨0, 0, none⟩ hlt]; exact hg
  have htl : t.block < w.heap.size := World.block_lt_of_cell? _ _ ht0
  have el := rl_elemV ⟨w.heap.size, 0, none⟩ t (((w.alloc (.cells #[.pointer (some t)] 113)).alloc (.cells #[.pointer (some ⟨7, 113, none⟩), .pointer (some ⟨w.heap.size, 0, none⟩), .int .u64 150] 164)).alloc (.cells #[.pointer (some ⟨7, 113, none⟩), .pointer (some ⟨w.heap.size, 0, none⟩), .int .u64 150] 164)) (by rw [World.cell?_alloc_lt _ _ ⟨w.heap.size, 0, none⟩ (by simp; omega)]; simp)
  have st := rl_set t ⟨w.heap.size + 1 + 1 + 1, 0, none⟩ n old ((((w.alloc (.cells #[.pointer (some t)] 113)).alloc (.cells #[.pointer (some ⟨7, 113, none⟩), .pointer (some ⟨w.heap.size, 0, none⟩), .int .u64 150] 164)).alloc (.cells #[.pointer (some ⟨7, 113, none⟩), .pointer (some ⟨w.heap.size, 0, none⟩), .int .u64 150] 164)).alloc (.cells #[.int .i64 n] 44))
    (by rw [World.cell?_alloc_at _ _ _ _ (by simp)]; rfl)
    (by rw [World.cell?_alloc_lt _ _ t (by simp; omega), World.cell?_alloc_lt _ _ t (by simp; omega), World.cell?_alloc_lt _ _ t (by simp; omega), World.cell?_alloc_lt _ _ t htl]; exact ht0)
    (by rw [World.frozen?_alloc_old _ _ t (by simp; omega), World.frozen?_alloc_old _ _ t (by simp; omega), World.frozen?_alloc_old _ _ t (by simp; omega), World.frozen?_alloc_old _ _ t (Nat.ne_of_lt htl)]; exact hf0)
  go_enter Tryz.func53, Tryz.ntmps53
  go_wp2
  refine wp_loop_rounds 1 ?_
  rw [rounds_succ]
  go_wp2
  go_ret
  exact ⟨rfl, rfl⟩
theorem as_ta1 (a : Option Addr) (w : World) : (Instr.typeAssert (.iface 117 (.pointer a)) 38 228 true).run Tryz.prog w = .ok (.tuple #[.nilIface, .bool false]) w := run_typeAssert_lacksB Tryz.underlying228 (by kernel_rfl) (by kernel_rfl) _ _ w
theorem as_ta2 (a : Option Addr) (w : World) : (Instr.typeAssert (.iface 117 (.pointer a)) 38 231 true).run Tryz.prog w = .ok (.tuple #[.iface 117 (.pointer a), .bool true]) w := by kernel_rfl
set_option maxRecDepth 100000 in
set_option maxHeartbeats 4000000 in
theorem as_at (n : Int) (ab : Nat) (t : Addr) (old : Value) (w : World) (hg : w.cell? ⟨0, 0, none⟩ = some (.iface 223 (.agg #[.pointer (some ⟨7, 38, none⟩)]))) (ha : w.cell? ⟨ab, 0, none⟩ = some (.int .i64 n)) (ht0 : w.cell? t = some old) (hf0 : w.frozen? t = false) :
    Calls Tryz.prog 53 #[.iface 117 (.pointer (some ⟨ab, 0, none⟩)), .iface 113 (.pointer (some t))] w fun ev w' => ev = .returned (.bool true) ∧ w' = ((((w.alloc (.cells #[.pointer (some t)] 113)).alloc (.cells #[.pointer (some ⟨7, 113, none⟩), .pointer (some ⟨w.heap.size, 0, none⟩), .int .u64 150] 164)).alloc (.cells #[.pointer (some ⟨7, 113, none⟩), .pointer (some ⟨w.heap.size, 0, none⟩), .int .u64 150] 164)).alloc (.cells #[.int .i64 n] 44)).setCell t (.int .i64 n) := by
  have h6 := @run_callFunc_extern Tryz.prog 94 _ (fun args => ReflectliteValue.unpack (args.getD 0 (.tuple #[]))) Tryz.func94 (by kernel_rfl) (by kernel_rfl) (by kernel_rfl) (by kernel_rfl)
  have h7 := @run_callFunc_extern Tryz.prog 95 _ (ReflectliteValue.methodAny (ReflectliteValue.valueError "reflectlite.Value.Type" 0) (fun t _ _ _ => ReflectliteType.toType t)) Tryz.func95 (by kernel_rfl) (by kernel_rfl) (by kernel_rfl) (by kernel_rfl)
  have h8 := @run_callFunc_extern Tryz.prog 96 _ (ReflectliteValue.method (ReflectliteValue.valueError "reflectlite.Value.IsNil" 0) ReflectliteValue.isNil) Tryz.func96 (by kernel_rfl) (by kernel_rfl) (by kernel_rfl) (by kernel_rfl)
  have h27 := @run_callFunc_extern Tryz.prog 232 _ (ReflectliteType.abiMethod fun t => do pure (.int .u8 (← Rtype.kind t))) Tryz.func232 (by kernel_rfl) (by kernel_rfl) (by kernel_rfl) (by kernel_rfl)
  have h37 := @run_callFunc_extern Tryz.prog 245 _ (ReflectliteType.method ReflectliteType.elem) Tryz.func245 (by kernel_rfl) (by kernel_rfl) (by kernel_rfl) (by kernel_rfl)
  have h38 := @run_callFunc_extern Tryz.prog 246 _ (ReflectliteType.relation "Implements" ReflectliteType.implements_) Tryz.func246 (by kernel_rfl) (by kernel_rfl) (by kernel_rfl) (by kernel_rfl)
  have h10 := @run_callFunc_extern Tryz.prog 130 _ ReflectliteType.typeOf Tryz.func130 (by kernel_rfl) (by kernel_rfl) (by kernel_rfl) (by kernel_rfl)
  have h35 := @run_callFunc_extern Tryz.prog 243 _ (ReflectliteType.relation "AssignableTo" ReflectliteType.assignableTo) Tryz.func243 (by kernel_rfl) (by kernel_rfl) (by kernel_rfl) (by kernel_rfl)
  have h11 := @run_callFunc_extern Tryz.prog 131 _ (ReflectliteValue.method (ReflectliteValue.valueError "reflectlite.Value.Elem" 0) ReflectliteValue.elem) Tryz.func131 (by kernel_rfl) (by kernel_rfl) (by kernel_rfl) (by kernel_rfl)
  have h12 := @run_callFunc_extern Tryz.prog 132 _ ReflectliteValue.set Tryz.func132 (by kernel_rfl) (by kernel_rfl) (by kernel_rfl) (by kernel_rfl)
  have tO := rl_typeOfE
  have mA := me_Assign
  have a25 := rl_assignE
  have v25 := rl_valueE
  have f6 := rl_valueP
  have f7 := rl_typeP
  have mK := me_Kind
  have mE := me_Elem
  have mI := me_Impl
  have k27 := rl_kindP
  have k25 := rl_kindE
  have e27 := rl_elem
  have i25 := rl_implements
  have n8 := rl_isNil ⟨w.heap.size, 0, none⟩ t ((w.alloc (.cells #[.pointer (some t)] 113)).alloc (.cells #[.pointer (some ⟨7, 113, none⟩), .pointer (some ⟨w.heap.size, 0, none⟩), .int .u64 150] 164)) (by simp)
  have hlt : 0 < w.heap.size := lt_of_cell hg
  have hg2 : ((w.alloc (.cells #[.pointer (some t)] 113)).alloc (.cells #[.pointer (some ⟨7, 113, none⟩), .pointer (some ⟨w.heap.size, 0, none⟩), .int .u64 150] 164)).cell? ⟨0, 0, none⟩ = some (.iface 223 (.agg #[.pointer (some ⟨7, 38, none⟩)])) := by
    rw [World.cell?_alloc_lt _ _ ⟨0, 0, none⟩ (by simp <;> omega), World.cell?_alloc_lt _ _ ⟨0, 0, none⟩ hlt]; exact hg
  have htl : t.block < w.heap.size := World.block_lt_of_cell? _ _ ht0
  have el := rl_elemV ⟨w.heap.size, 0, none⟩ t (((w.alloc (.cells #[.pointer (some t)] 113)).alloc (.cells #[.pointer (some ⟨7, 113, none⟩), .pointer (some ⟨w.heap.size, 0, none⟩), .int .u64 150] 164)).alloc (.cells #[.pointer (some ⟨7, 113, none⟩), .pointer (some ⟨w.heap.size, 0, none⟩), .int .u64 150] 164)) (by rw [World.cell?_alloc_lt _ _ ⟨w.heap.size, 0, none⟩ (by simp; omega)]; simp)
  have st := rl_set t ⟨w.heap.size + 1 + 1 + 1, 0, none⟩ n old ((((w.alloc (.cells #[.pointer (some t)] 113)).alloc (.cells #[.pointer (some ⟨7, 113, none⟩), .pointer (some ⟨w.heap.size, 0, none⟩), .int .u64 150] 164)).alloc (.cells #[.pointer (some ⟨7, 113, none⟩), .pointer (some ⟨w.heap.size, 0, none⟩), .int .u64 150] 164)).alloc (.cells #[.int .i64 n] 44))
    (by rw [World.cell?_alloc_at _ _ _ _ (by simp)]; rfl)
    (by rw [World.cell?_alloc_lt _ _ t (by simp; omega), World.cell?_alloc_lt _ _ t (by simp; omega), World.cell?_alloc_lt _ _ t (by simp; omega), World.cell?_alloc_lt _ _ t htl]; exact ht0)
    (by rw [World.frozen?_alloc_old _ _ t (by simp; omega), World.frozen?_alloc_old _ _ t (by simp; omega), World.frozen?_alloc_old _ _ t (by simp; omega), World.frozen?_alloc_old _ _ t (Nat.ne_of_lt htl)]; exact hf0)
  have tA := rl_typeOfA
  have aA := rl_assignA
  have mU := me_Unwrap
  have ta1 := as_ta1
  have ta2 := as_ta2
  have ha3 : (((w.alloc (.cells #[.pointer (some t)] 113)).alloc (.cells #[.pointer (some ⟨7, 113, none⟩), .pointer (some ⟨w.heap.size, 0, none⟩), .int .u64 150] 164)).alloc (.cells #[.pointer (some ⟨7, 113, none⟩), .pointer (some ⟨w.heap.size, 0, none⟩), .int .u64 150] 164)).cell? ⟨ab, 0, none⟩ = some (.int .i64 n) := cell_alloc' (cell_alloc' (cell_alloc' ha _) _) _
  go_enter Tryz.func53, Tryz.ntmps53
  go_wp2
  refine wp_loop_rounds 2 ?_
  rw [rounds_succ]
  go_wp2_with (go_at_call 237; refine (unwrap_any ab n _ ?hx ?hy).mono ?_; (case hx => exact ha3); (case hy => exact lt_of_cell ha3); rintro e w9 ⟨rfl, rfl⟩)
  rw [rounds_succ]
  go_wp2
  go_ret
  exact ⟨rfl, rfl⟩
/- Tell of what Check told -/
theorem ext_four (w : World) (t : Addr) (o1 o2 o3 o4 : Obj) (v : Value) : Ext t.block w (((((w.alloc o1).alloc o2).alloc o3).alloc o4).setCell t v) := by
  have h : Below w.heap.size w ((((w.alloc o1).alloc o2).alloc o3).alloc o4) := ((((Below.refl _ _).alloc (Nat.le_refl _) _).alloc (by simp) _).alloc (by simp; omega) _).alloc (by simp; omega) _
  refine ⟨h.os, h.tape, h.output, by simpa using h.size, fun k hk hb => ?_⟩
  rw [Below.heap_setCell _ _ _ _ hb]
  exact h.block k hk
set_option maxRecDepth 100000 in
set_option maxHeartbeats 1000000 in
theorem tell_en (n : Int) (w : World) (hg : w.cell? ⟨0, 0, none⟩ = some (.iface 223 (.agg #[.pointer (some ⟨7, 38, none⟩)]))) :
    Calls Tryz.prog 25 #[.iface 44 (.int .i64 n)] w fun e w' => e = .returned (.int .i64 n) ∧ Below w.heap.size w w' := by
  obtain ⟨w0, hw0⟩ : ∃ w0, w0 = w.alloc (.cells #[.int .i64 0] 44) := ⟨_, rfl⟩
  have hb0 : Below w.heap.size w w0 := by rw [hw0]; exact (Below.refl _ _).alloc (Nat.le_refl _) _
  have hk0 : w0.heap[w.heap.size]? = some (.cells #[.int .i64 0] 44 (0, 0)) := by rw [hw0]; exact new_blk _ _
  have hg0 : w0.cell? ⟨0, 0, none⟩ = some (.iface 223 (.agg #[.pointer (some ⟨7, 38, none⟩)])) := by rw [hw0]; exact cell_alloc' hg _
  have HA := Lib.hid (as_en n ⟨w.heap.size, 0, none⟩ (.int .i64 0) w0 hg0 ((cell_blk hk0).trans rfl) (frozen_blk hk0))
  have HB0 := Lib.hid hb0
  have HK0 := Lib.hid hk0
  clear hb0 hk0 hg0 hg
  go_enter Tryz.func25, Tryz.ntmps25
  go_upto_region 4 with fail
  rw [← hw0]
  clear hw0
  go_wp2_with fail
  refine HA.out.mono ?_
  rintro e w3 ⟨rfl, hw3⟩
  have hx : Ext w.heap.size w0 w3 := by rw [hw3]; exact ext_four w0 ⟨w.heap.size, 0, none⟩ _ _ _ _ _
  have hc : w3.cell? ⟨w.heap.size, 0, none⟩ = some (.int .i64 n) := by
    rw [hw3]
    exact World.cell?_setCell_same _ _ _ (cell_alloc' (cell_alloc' (cell_alloc' (cell_alloc' ((cell_blk HK0.out).trans rfl) _) _) _) _)
  have HB3 : Hid (Below w.heap.size w w3) := HB0.out.trans (ext_below hx (Nat.le_refl _) HB0.out.size)
  have hl3 : w.heap.size < w3.heap.size := lt_of_cell hc
  clear hw3 hx
  go_wp2_with fail
  go_ret
  exact ⟨rfl, HB3.out⟩
set_option maxRecDepth 100000 in
set_option maxHeartbeats 1000000 in
theorem tell_at (n : Int) (ab : Nat) (w : World) (hg : w.cell? ⟨0, 0, none⟩ = some (.iface 223 (.agg #[.pointer (some ⟨7, 38, none⟩)]))) (ha : w.cell? ⟨ab, 0, none⟩ = some (.int .i64 n)) :
    Calls Tryz.prog 25 #[.iface 117 (.pointer (some ⟨ab, 0, none⟩))] w fun e w' => e = .returned (.int .i64 n) ∧ Below w.heap.size w w' := by
  obtain ⟨w0, hw0⟩ : ∃ w0, w0 = w.alloc (.cells #[.int .i64 0] 44) := ⟨_, rfl⟩
  have hb0 : Below w.heap.size w w0 := by rw [hw0]; exact (Below.refl _ _).alloc (Nat.le_refl _) _
  have hk0 : w0.heap[w.heap.size]? = some (.cells #[.int .i64 0] 44 (0, 0)) := by rw [hw0]; exact new_blk _ _
  have hg0 : w0.cell? ⟨0, 0, none⟩ = some (.iface 223 (.agg #[.pointer (some ⟨7, 38, none⟩)])) := by rw [hw0]; exact cell_alloc' hg _
  have ha0 : w0.cell? ⟨ab, 0, none⟩ = some (.int .i64 n) := by rw [hw0]; exact cell_alloc' ha _
  have HA := Lib.hid (as_at n ab ⟨w.heap.size, 0, none⟩ (.int .i64 0) w0 hg0 ha0 ((cell_blk hk0).trans rfl) (frozen_blk hk0))
  have HB0 := Lib.hid hb0
  have HK0 := Lib.hid hk0
  clear hb0 hk0 hg0 hg ha ha0
  go_enter Tryz.func25, Tryz.ntmps25
  go_upto_region 4 with fail
  rw [← hw0]
  clear hw0
  go_wp2_with fail
  refine HA.out.mono ?_
  rintro e w3 ⟨rfl, hw3⟩
  have hx : Ext w.heap.size w0 w3 := by rw [hw3]; exact ext_four w0 ⟨w.heap.size, 0, none⟩ _ _ _ _ _
  have hc : w3.cell? ⟨w.heap.size, 0, none⟩ = some (.int .i64 n) := by
    rw [hw3]
    exact World.cell?_setCell_same _ _ _ (cell_alloc' (cell_alloc' (cell_alloc' (cell_alloc' ((cell_blk HK0.out).trans rfl) _) _) _) _)
  have HB3 : Hid (Below w.heap.size w w3) := HB0.out.trans (ext_below hx (Nat.le_refl _) HB0.out.size)
  have hl3 : w.heap.size < w3.heap.size := lt_of_cell hc
  clear hw3 hx
  go_wp2_with fail
  go_ret
  exact ⟨rfl, HB3.out⟩
end Go.Proofs.YtibncofnnlbmcaaGreatDoor
/- What the program reads of its variables; texts that a slice holds. -/
namespace Go.Proofs.YtibncofnnlbmcaaGreatDoor
open Go.RowKit
open Tp (Bs Th Sy Seen X S G Pr)

def ErT (w : World) : Prop := w.cell? ⟨0, 0, none⟩ = some (.iface 223 (.agg #[.pointer (some ⟨7, 38, none⟩)]))
theorem ErT.below {w w' : World} {B : Nat} (h : ErT w) (k : Below B w w') (hB : 0 < B) : ErT w' := (k.cell (p := ⟨0, 0, none⟩) hB).trans h
/- what the program reads of its variables -/
structure VarsC (B : Nat) (w : World) : Prop where
  mks : Mk w
  lv : Lv w
  et : ErT w
  m : 1 < B
  l : 3 < B
  e : 0 < B
theorem VarsC.on {B : Nat} {w w' : World} (h : VarsC B w) (k : Below B w w') : VarsC B w' := ⟨h.mks.below k h.m, h.lv.below k h.l, h.et.below k h.e, h.m, h.l, h.e⟩
theorem VarsC.on' {B : Nat} {w w' : World} (h : VarsC B w) (hB : B ≤ w.heap.size) (k : Below w.heap.size w w') : VarsC B w' := h.on (k.mono hB)
/- texts that a slice holds -/
structure StrsAt (w : World) (ns : List (List UInt8)) (a : Option Addr) : Prop where
  c : ∀ i (h : i < ns.length), ∃ b o, a = some ⟨b, o, none⟩ ∧ b < w.heap.size ∧ w.cell? ⟨b, o + i, none⟩ = some (.string (bs ns[i]))
theorem StrsAt.on {w w' : World} {ns : List (List UInt8)} {a : Option Addr} (h : StrsAt w ns a) (k : Below w.heap.size w w') : StrsAt w' ns a :=
  ⟨fun i hi => by obtain ⟨b, o, h1, h2, h3⟩ := h.c i hi; exact ⟨b, o, h1, Nat.lt_of_lt_of_le h2 k.size, (k.cell (p := ⟨b, o + i, none⟩) h2).trans h3⟩⟩
end Go.Proofs.YtibncofnnlbmcaaGreatDoor
/- Writing what others see, without the module's writer: addLine. -/
namespace Go.Proofs.YtibncofnnlbmcaaGreatDoor
open Go.RowKit
variable {kk : Nat → Prop}
open Tp (Sy)

theorem dec_itoa : ∀ n : Nat, Tp.dec n = Lib.itoa (n : Int) := by
  intro n
  rw [Lib.itoa_nonneg]
  induction n using Nat.strongRecOn with
  | _ n ih =>
    rw [Tp.dec, Lib.decDigits]
    split
    · rfl
    · rw [ih (n / 10) (by omega)]
theorem itoa_post (w : World) (i : Nat) (hi : i < 100) : Calls Tryz.prog 109 #[.int .i64 (i : Int)] w fun e w' => e = .returned (.string (bs (Tp.dec i))) ∧ w' = w := by
  have h := Any.strconv_Itoa_small Tryz.laysItoa i hi w
  have e : Tp.dec i = Lib.decDigits i := by rw [dec_itoa, Lib.itoa_nonneg]
  rw [e]
  exact h
set_option maxRecDepth 100000 in
set_option maxHeartbeats 800000 in
theorem addLine_post {w : World} {B : Nat} {v : Value} {l : List UInt8} (h : Buf kk w B v l) (first : List UInt8) (ss : List (List UInt8)) (sb cs : Nat) (hs : w.heap[sb]? = some (.cells (ss.map fun s => Value.string (bs s)).toArray 9 (0, 0))) (hn : ss.length ≤ 1000) (hl : (l ++ Tp.wordsL first ss).length ≤ 1000000000) :
    Calls Tryz.prog 129 #[v, .string (bs first), .slice (some ⟨sb, 0, none⟩) ss.length cs] w (Wrote kk B w (l ++ Tp.wordsL first ss)) := by
  obtain ⟨ao, cap, hv⟩ := owns_shape h.1
  subst hv
  have hlf : l.length + first.length ≤ 1000000000 := by unfold Tp.wordsL at hl; simp only [List.length_append] at hl; omega
  have hln : ∀ i, i ≤ ss.length → (l ++ first ++ ((ss.take i).map fun s => (32 : UInt8) :: s).flatten).length + 1 ≤ 1000000000 := by
    intro i hi
    unfold Tp.wordsL at hl
    have e : (ss.map fun s => (32 : UInt8) :: s).flatten = ((ss.take i).map fun s => (32 : UInt8) :: s).flatten ++ ((ss.drop i).map fun s => (32 : UInt8) :: s).flatten := by
      conv => lhs; rw [← List.take_append_drop i ss, List.map_append, List.flatten_append]
    rw [e] at hl
    simp only [List.length_append, List.length_cons, List.length_nil] at hl ⊢
    omega
  have HLN := Lib.hid hln
  have HL := Lib.hid hl
  clear hln hl
  go_enter Tryz.func129, Tryz.ntmps129
  go_wp2_with (at_builtin; refine wpList_str rfl _ _ rfl h first rfl rfl ?c1 ?_)
  case c1 => omega
  intro v1 w1 hb1 hbel1
  have hs1 := hbel1.keeps hs (by decide)
  have HB1 := Lib.hid hb1
  have HBW1 := Lib.hid hbel1
  have HS1 := Lib.hid hs1
  clear hb1 hbel1 hs1 hs
  go_wp2_with fail
  go_loopg [0, 14] ss.length (fun k v vi wr => ∃ i : Nat, i ≤ ss.length ∧ k = ss.length - i ∧ vi = .int .i64 (i : Int) ∧ Hid (Buf kk wr B v (l ++ first ++ ((ss.take i).map fun s => (32 : UInt8) :: s).flatten)) ∧ Hid (Bw kk B w wr) ∧ Hid (wr.heap[sb]? = some (.cells (ss.map fun s => Value.string (bs s)).toArray 9 (0, 0))))
  case atStart => exact ⟨0, by omega, by omega, rfl, by unfold Hid; simpa using HB1.out, HBW1, HS1⟩
  case round =>
    obtain ⟨i, hid, hk, rfl, HB, HBW, HS⟩ := hrel
    clear HB1 HBW1 HS1
    have hbuf := HB.out
    obtain ⟨m, hm⟩ : ∃ m, m = l ++ first ++ ((ss.take i).map fun s => (32 : UInt8) :: s).flatten := ⟨_, rfl⟩
    rw [← hm] at hbuf
    have hml := HLN.out i hid
    rw [← hm] at hml
    have HM := Lib.hid hm
    clear hm HB
    obtain ⟨a1, c1, hv⟩ := owns_shape hbuf.1
    subst hv
    by_cases hlt : i < ss.length
    · have hlt' : (i : Int) < (ss.length : Int) := by omega
      have hcell : wr.cell? ⟨sb, i, none⟩ = some (.string (bs ss[i])) := by rw [cell_blk HS.out]; simp [hlt]
      have hlb := lt_blk HS.out
      have hml2 := HLN.out (i + 1) hlt
      have hnew : l ++ first ++ ((ss.take (i + 1)).map fun s => (32 : UInt8) :: s).flatten = m ++ [32] ++ ss[i] := by
        rw [List.take_succ_eq_append_getElem hlt, List.map_append, List.flatten_append, HM.out]
        simp
      rw [hnew] at hml2
      have HNEW := Lib.hid hnew
      clear hnew
      generalize ss[i] = x at hcell hml2 HNEW
      have hml3 : m.length + 1 + x.length ≤ 1000000000 := by simp only [List.length_append, List.length_cons, List.length_nil] at hml2; omega
      clear hml2
      go_wp2_with (at_builtin; refine wpList_byte rfl _ _ rfl hbuf 32 32 rfl rfl rfl ?c1 ?_)
      case c1 => omega
      intro v2 w2 hb2 hbel2
      have HS2 := Lib.hid (hbel2.keeps HS.out (by decide))
      have HBW2 := Lib.hid (HBW.out.trans hbel2)
      clear hbuf hbel2 HS HBW hcell
      go_wp2_with (at_builtin; refine wpList_str rfl _ _ rfl hb2 x rfl rfl ?c2 ?_)
      case c2 => simp only [List.length_append, List.length_cons, List.length_nil]; omega
      intro v3 w3 hb3 hbel3
      have HB3 : Hid (Buf kk w3 B v3 (l ++ first ++ ((ss.take (i + 1)).map fun s => (32 : UInt8) :: s).flatten)) := by unfold Hid; rw [HNEW.out]; simpa using hb3
      have HBW3 := Lib.hid (HBW2.out.trans hbel3)
      have HS3 := Lib.hid (hbel3.keeps HS2.out (by decide))
      clear hb2 hb3 hbel3 HS2 HBW2
      go_wp2_with fail
      go_roundg (ss.length - (i + 1))
      case measure => omega
      case rel => exact ⟨i + 1, by omega, rfl, by go_num, HB3, HBW3, HS3⟩
    · have hlt' : ¬ (i : Int) < (ss.length : Int) := by omega
      have e : i = ss.length := by omega
      go_wp2_with (at_builtin; refine wpList_byte rfl _ _ rfl hbuf 10 10 rfl rfl rfl ?c1 ?_)
      case c1 => omega
      intro v2 w2 hb2 hbel2
      have HB2 : Hid (Buf kk w2 B v2 (l ++ Tp.wordsL first ss)) := by
        unfold Hid Tp.wordsL
        rw [HM.out, e, List.take_length] at hb2
        simpa using hb2
      have HBW2 := Lib.hid (HBW.out.trans hbel2)
      clear hb2 hbel2 hbuf
      go_wp2_with fail
      go_ret
      exact ⟨_, rfl, HB2.out, HBW2.out⟩
end Go.Proofs.YtibncofnnlbmcaaGreatDoor
/- Writing what others see: addSym. -/
namespace Go.Proofs.YtibncofnnlbmcaaGreatDoor
open Go.RowKit
variable {kk : Nat → Prop}
open Tp (Sy)

theorem cell_box3 {w : World} {b : Nat} {v0 v1 v2 : Value} {t : TypeId} (h : w.heap[b]? = some (.cells #[v0, v1, v2] t (0, 0))) : w.cell? ⟨b, 0, none⟩ = some v0 ∧ w.cell? ⟨b, 1, none⟩ = some v1 ∧ w.cell? ⟨b, 2, none⟩ = some v2 :=
  ⟨(cell_blk h).trans rfl, (cell_blk h).trans rfl, (cell_blk h).trans rfl⟩
set_option maxRecDepth 100000 in
set_option maxHeartbeats 2000000 in
theorem addSym_post (s : Sy) (h1 : s.2.1 < 100) (h2 : s.2.2 < 100) (h3 : -1 ≤ s.2.2) {w : World} {B : Nat} {v : Value} {l : List UInt8} (hb : Buf kk w B v l) (hl : (l ++ Tp.lineOf s).length ≤ 1000000000) :
    Calls Tryz.prog 128 #[v, .agg #[.string (bs s.1), .int .i64 (s.2.1 : Int), .int .i64 s.2.2]] w (Wrote kk B w (l ++ Tp.lineOf s)) := by
  obtain ⟨nm, len, args⟩ := s
  simp only at h1 h2 h3 ⊢
  unfold Tp.lineOf at hl ⊢
  simp only at hl ⊢
  have hal : ∀ ob, Below w.heap.size w (w.alloc ob) := fun ob => (Below.refl _ _).alloc (Nat.le_refl _) _
  have hblk : (w.alloc (.cells #[.string (bs nm), .int .i64 (len : Int), .int .i64 args] 205)).heap[w.heap.size]? = some (.cells #[.string (bs nm), .int .i64 (len : Int), .int .i64 args] 205 (0, 0)) := new_blk _ _
  obtain ⟨k0, k1, k2⟩ := cell_box3 hblk
  by_cases ha : 0 ≤ args
  · rw [if_pos ha] at hl ⊢
    obtain ⟨an, rfl⟩ : ∃ an : Nat, args = an := ⟨args.toNat, by omega⟩
    have e : ((an : Int)).toNat = an := by simp
    rw [e] at hl ⊢
    have hit := fun W => itoa_post W an (by omega)
    obtain ⟨ds, hds⟩ : ∃ ds, ds = Tp.dec an := ⟨_, rfl⟩
    rw [← hds] at hl hit ⊢
    obtain ⟨mf, hmf⟩ : ∃ mf, mf = l ++ Tp.wordsL Tp.wProc [nm, ds] := ⟨_, rfl⟩
    rw [← hmf]
    have HMF := Lib.hid hmf
    have HL := Lib.hid hl
    have HI : Hid (∀ W, Calls Tryz.prog 109 #[.int .i64 (an : Int)] W fun e w' => e = .returned (.string (bs ds)) ∧ w' = W) := hit
    clear hit hmf hl hds e
    have hD : Below w.heap.size w ((w.alloc (.cells #[.string (bs nm), .int .i64 (len : Int), .int .i64 (an : Int)] 205)).alloc (.cells #[.string (bs nm), .string (bs ds)] 9)).drew := ((hal _).alloc (by simp) _).drew
    have hA := addLine_post (hb.below hD) Tp.wProc [nm, ds] (w.heap.size + 1) 2 (new_blk1 _ _ _) (by simp) HL.out
    have HA : Hid (Calls Tryz.prog 129 #[v, .string ⟨#[112, 114, 111, 99]⟩, .slice (some ⟨w.heap.size + 1, 0, none⟩) 2 2] ((w.alloc (.cells #[.string (bs nm), .int .i64 (len : Int), .int .i64 (an : Int)] 205)).alloc (.cells #[.string (bs nm), .string (bs ds)] 9)).drew (Wrote kk B ((w.alloc (.cells #[.string (bs nm), .int .i64 (len : Int), .int .i64 (an : Int)] 205)).alloc (.cells #[.string (bs nm), .string (bs ds)] 9)).drew mf)) := by rw [HMF.out]; exact hA
    have HBW : Hid (Bw kk B w ((w.alloc (.cells #[.string (bs nm), .int .i64 (len : Int), .int .i64 (an : Int)] 205)).alloc (.cells #[.string (bs nm), .string (bs ds)] 9)).drew) := Bw.of (kk := kk) hD hb.2
    have HK : Hid (((w.alloc (.cells #[.string (bs nm), .int .i64 (len : Int), .int .i64 (an : Int)] 205)).alloc (.cells #[.string (bs nm), .string (bs ds)] 9)).drew.heap[w.heap.size]? = some (.cells #[.string (bs nm), .int .i64 (len : Int), .int .i64 (an : Int)] 205 (0, 0))) := (Below.heap_alloc _ _ w.heap.size (by simp)).trans hblk
    obtain ⟨j0, j1, j2⟩ := cell_box3 HK.out
    clear hA hD hb hblk
    go_enter Tryz.func128, Tryz.ntmps128
    go_wp2_with fail
    go_region_held3 (fun w' => w'.cell? ⟨w.heap.size, 0, none⟩ = some (.string (bs nm)) ∧ w'.cell? ⟨w.heap.size, 2, none⟩ = some (.int .i64 (an : Int))) (first | (exact ⟨k0, k2⟩) | (exact ⟨j0, j2⟩) | (exact ⟨q0, q2⟩)) (first | (go_at_call 109; refine (HI.out _).mono ?_; rintro e w2 ⟨rfl, rfl⟩) | (go_at_call 129; refine HA.out.mono ?_; rintro e w3 ⟨v3, rfl, hbuf3, hbel3⟩; have hblk3 := hbel3.keeps HK.out (by decide); have HB3 := Lib.hid (HBW.out.trans hbel3); have HF3 := Lib.hid hbuf3; obtain ⟨q0, q1, q2⟩ := cell_box3 hblk3; clear hbuf3 hbel3))
    go_wp2_with fail
    go_ret
    exact ⟨_, rfl, HF3.out, HB3.out⟩

  · rw [if_neg ha] at hl ⊢
    by_cases h0 : 0 < len
    · rw [if_pos h0] at hl ⊢
      have h0' : (0 : Int) < (len : Int) := by omega
      have hit := fun W => itoa_post W len (by omega)
      obtain ⟨ds, hds⟩ : ∃ ds, ds = Tp.dec len := ⟨_, rfl⟩
      rw [← hds] at hl hit ⊢
      obtain ⟨mf, hmf⟩ : ∃ mf, mf = l ++ Tp.wordsL Tp.wArr [nm, ds] := ⟨_, rfl⟩
      rw [← hmf]
      have HMF := Lib.hid hmf
      have HL := Lib.hid hl
      have HI : Hid (∀ W, Calls Tryz.prog 109 #[.int .i64 (len : Int)] W fun e w' => e = .returned (.string (bs ds)) ∧ w' = W) := hit
      clear hit hmf hl hds
      have hD : Below w.heap.size w ((w.alloc (.cells #[.string (bs nm), .int .i64 (len : Int), .int .i64 args] 205)).alloc (.cells #[.string (bs nm), .string (bs ds)] 9)).drew := ((hal _).alloc (by simp) _).drew
      have hA := addLine_post (hb.below hD) Tp.wArr [nm, ds] (w.heap.size + 1) 2 (new_blk1 _ _ _) (by simp) HL.out
      have HA : Hid (Calls Tryz.prog 129 #[v, .string ⟨#[97, 114, 114, 97, 121]⟩, .slice (some ⟨w.heap.size + 1, 0, none⟩) 2 2] ((w.alloc (.cells #[.string (bs nm), .int .i64 (len : Int), .int .i64 args] 205)).alloc (.cells #[.string (bs nm), .string (bs ds)] 9)).drew (Wrote kk B ((w.alloc (.cells #[.string (bs nm), .int .i64 (len : Int), .int .i64 args] 205)).alloc (.cells #[.string (bs nm), .string (bs ds)] 9)).drew mf)) := by rw [HMF.out]; exact hA
      have HBW : Hid (Bw kk B w ((w.alloc (.cells #[.string (bs nm), .int .i64 (len : Int), .int .i64 args] 205)).alloc (.cells #[.string (bs nm), .string (bs ds)] 9)).drew) := Bw.of (kk := kk) hD hb.2
      have HK : Hid (((w.alloc (.cells #[.string (bs nm), .int .i64 (len : Int), .int .i64 args] 205)).alloc (.cells #[.string (bs nm), .string (bs ds)] 9)).drew.heap[w.heap.size]? = some (.cells #[.string (bs nm), .int .i64 (len : Int), .int .i64 args] 205 (0, 0))) := (Below.heap_alloc _ _ w.heap.size (by simp)).trans hblk
      obtain ⟨j0, j1, j2⟩ := cell_box3 HK.out
      clear hA hD hb hblk
      go_enter Tryz.func128, Tryz.ntmps128
      go_wp2_with fail
      go_region_held3 (fun w' => w'.cell? ⟨w.heap.size, 0, none⟩ = some (.string (bs nm)) ∧ w'.cell? ⟨w.heap.size, 1, none⟩ = some (.int .i64 (len : Int))) (first | (exact ⟨k0, k1⟩) | (exact ⟨j0, j1⟩) | (exact ⟨q0, q1⟩)) (first | (go_at_call 109; refine (HI.out _).mono ?_; rintro e w2 ⟨rfl, rfl⟩) | (go_at_call 129; refine HA.out.mono ?_; rintro e w3 ⟨v3, rfl, hbuf3, hbel3⟩; have hblk3 := hbel3.keeps HK.out (by decide); have HB3 := Lib.hid (HBW.out.trans hbel3); have HF3 := Lib.hid hbuf3; obtain ⟨q0, q1, q2⟩ := cell_box3 hblk3; clear hbuf3 hbel3))
      go_wp2_with fail
      go_ret
      exact ⟨_, rfl, HF3.out, HB3.out⟩

    · rw [if_neg h0] at hl ⊢
      have h0' : ¬ (0 : Int) < (len : Int) := by omega
      obtain ⟨mf, hmf⟩ : ∃ mf, mf = l ++ Tp.wordsL Tp.wInt [nm] := ⟨_, rfl⟩
      rw [← hmf]
      have hD : Below w.heap.size w ((w.alloc (.cells #[.string (bs nm), .int .i64 (len : Int), .int .i64 args] 205)).alloc (.cells #[.string (bs nm)] 9)) := (hal _).alloc (by simp) _
      have hA := addLine_post (hb.below hD) Tp.wInt [nm] (w.heap.size + 1) 1 (new_blk1 _ _ _) (by simp) hl
      rw [← hmf] at hA
      have HA : Hid (Calls Tryz.prog 129 #[v, .string ⟨#[105, 110, 116]⟩, .slice (some ⟨w.heap.size + 1, 0, none⟩) 1 1] ((w.alloc (.cells #[.string (bs nm), .int .i64 (len : Int), .int .i64 args] 205)).alloc (.cells #[.string (bs nm)] 9)) (Wrote kk B ((w.alloc (.cells #[.string (bs nm), .int .i64 (len : Int), .int .i64 args] 205)).alloc (.cells #[.string (bs nm)] 9)) mf)) := hA
      have HBW : Hid (Bw kk B w ((w.alloc (.cells #[.string (bs nm), .int .i64 (len : Int), .int .i64 args] 205)).alloc (.cells #[.string (bs nm)] 9))) := Bw.of (kk := kk) hD hb.2
      clear hA hD hb hblk hl hmf
      go_enter Tryz.func128, Tryz.ntmps128
      go_wp2_with fail
      refine HA.out.mono ?_
      rintro e w3 ⟨v3, rfl, hbuf3, hbel3⟩
      have HB3 := Lib.hid (HBW.out.trans hbel3)
      have HF3 := Lib.hid hbuf3
      clear hbuf3 hbel3
      go_wp2_with fail
      go_ret
      exact ⟨_, rfl, HF3.out, HB3.out⟩
end Go.Proofs.YtibncofnnlbmcaaGreatDoor
/- What is needed: Needs. -/
namespace Go.Proofs.YtibncofnnlbmcaaGreatDoor
open Go.RowKit Go.Sort
open Tp (Sy)

theorem conv_buf {kk : Nat → Prop} {w : World} {B : Nat} {v : Value} {l : List UInt8} (h : Buf kk w B v l) : (convert 81 9 v).run Tryz.prog w = .ok (.string (bs l)) w := by
  rcases h.own.2 with ⟨rfl, h2⟩ | ⟨g, cap, cur, rfl, h2, h3, h4, h5, h6, h7⟩
  · have e : l = [] := List.eq_nil_of_length_eq_zero h2
    subst e
    rw [run_convert_bytes_string w 81 9 5 none 0 0 Tryz.underlying81 Tryz.underlying5 Tryz.underlying9]
    rfl
  · refine run_convert_bytes_back w 81 9 5 ⟨g, 0, none⟩ cap l Tryz.underlying81 Tryz.underlying5 Tryz.underlying9 (fun j hj => ?_)
    have := h.own.cells (g := g) rfl j (.int .u8 (l[j].toNat : Int)) (by rw [u8s, List.getElem?_map, List.getElem?_eq_getElem hj]; rfl)
    simpa using this
theorem lineOf_len (s : Sy) (h : s.2.1 < 100 ∧ s.2.2 < 100 ∧ -1 ≤ s.2.2 ∧ s.1.length ≤ 100) : (Tp.lineOf s).length ≤ 200 := by
  have hd : ∀ n, n < 100 → (Tp.dec n).length ≤ 2 := by
    intro n hn
    rw [Tp.dec]
    split
    · simp
    · rw [Tp.dec_d (show n / 10 < 10 by omega)]; simp
  unfold Tp.lineOf
  split
  · have := hd s.2.2.toNat (by omega)
    simp [Tp.wordsL, Tp.wProc]; omega
  · split
    · have := hd s.2.1 h.1
      simp [Tp.wordsL, Tp.wArr]; omega
    · simp [Tp.wordsL, Tp.wInt]; omega
theorem need_at (l : List Sy) (n : List UInt8) : (∃ (k : Nat) (hk : k < l.length), fidx l n = (k : Int) ∧ Tp.needS l n = Tp.lineOf l[k]) ∨ fidx l n = -1 ∧ Tp.needS l n = Tp.wordsL [110, 111, 110, 101] [n] := by
  unfold fidx Tp.needS Tp.findS
  cases h : l.findIdx? (fun s => s.1 == n) with
  | some k =>
    left
    have h' := h
    rw [List.findIdx?_eq_some_iff_getElem] at h'
    obtain ⟨hk, h1, h2⟩ := h'
    refine ⟨k, hk, rfl, ?_⟩
    have : l.find? (fun s => s.1 == n) = some l[k] := by
      rw [List.find?_eq_some_iff_getElem]
      exact ⟨by simpa using h1, k, hk, rfl, fun j hj => by simpa using h2 j hj⟩
    rw [this]
  | none =>
    right
    have : l.find? (fun s => s.1 == n) = none := by
      rw [List.find?_eq_none]
      rw [List.findIdx?_eq_none_iff] at h
      intro x hx
      simpa using h x hx
    rw [this]
    exact ⟨rfl, rfl⟩
theorem need_len (l : List Sy) (n : List UInt8) (h : AllSmall l) (hn : n.length ≤ 100) : (Tp.needS l n).length ≤ 200 := by
  rcases need_at l n with ⟨k, hk, _, e⟩ | ⟨_, e⟩
  · rw [e]; exact lineOf_len _ (h _ (List.getElem_mem hk))
  · rw [e]; simp [Tp.wordsL]; omega
theorem needs_len (l : List Sy) (ns : List (List UInt8)) (h : AllSmall l) (hn : ∀ n ∈ ns, n.length ≤ 100) : (Tp.needsS l ns).length ≤ 200 * ns.length := by
  induction ns with
  | nil => simp [Tp.needsS]
  | cons n ns ih =>
    have h1 := need_len l n h (hn n (by simp))
    have h2 := ih (fun x hx => hn x (by simp [hx]))
    simp only [Tp.needsS, List.map_cons, List.flatten_cons, List.length_append, List.length_cons] at h2 ⊢
    omega
set_option maxRecDepth 100000 in
set_option maxHeartbeats 2000000 in
theorem needs_post {w : World} {B : Nat} {v : Value} {l : List Sy} (h : SL w B v l) (hs : AllSmall l) (hn : l.length ≤ 1000) {ns : List (List UInt8)} {na : Option Addr} {nc : Nat} (hns : StrsAt w ns na) (hnl : ∀ n ∈ ns, n.length ≤ 100) (hnn : ns.length ≤ 1000) :
    Calls Tryz.prog 92 #[v, .slice na ns.length nc] w fun e w' => e = .returned (.string (bs (Tp.needsS l ns))) ∧ Below w.heap.size w w' := by
  obtain ⟨a, c, rfl⟩ := h.len
  have hnn' : (ns.length : Int) ≤ 1000 := by omega
  have hln' : (l.length : Int) ≤ 1000 := by omega
  have HSL := Lib.hid h
  have HS := Lib.hid hs
  have HNS := Lib.hid hns
  have HNL := Lib.hid hnl
  have HF : Hid (∀ W, Below w.heap.size w W → ∀ n, Calls Tryz.prog 127 #[.slice a l.length c, .string (bs n)] W fun e w' => e = .returned (.int .i64 (fidx l n)) ∧ Below W.heap.size W w') := fun W hW n => find_post (h.on hW) hn n
  obtain ⟨nn, hnq⟩ : ∃ nn, nn = ns.length := ⟨_, rfl⟩
  rw [← hnq] at hnn' ⊢
  have HNQ := Lib.hid hnq
  obtain ⟨ln, hlq⟩ : ∃ ln, ln = l.length := ⟨_, rfl⟩
  rw [← hlq] at hln' HF ⊢
  have HLQ := Lib.hid hlq
  clear h hs hns hnl hnq hlq
  go_enter Tryz.func92, Tryz.ntmps92
  go_wp2_with fail
  go_loopg [5, 11] nn (fun k v vi wr => ∃ i : Nat, i ≤ nn ∧ k = nn - i ∧ vi = .int .i64 (i : Int) ∧ Hid (Buf (fun _ => False) wr w.heap.size v (Tp.needsS l (ns.take i))) ∧ Hid (Bw (fun _ => False) w.heap.size w wr))
  case atStart => exact ⟨0, by omega, by omega, rfl, Buf.nil _ _ (Nat.le_refl _) (fun k hk => hk.elim), Bw.refl _ _⟩
  case round =>
    obtain ⟨i, hid, hk, rfl, HB, HW⟩ := hrel
    by_cases hlt : i < nn
    · have hlt' : (i : Int) < (nn : Int) := by omega
      have hia : i < ns.length := by have := HNQ.out; omega
      obtain ⟨b, o, rfl, hbl, hcell⟩ := HNS.out.c i hia
      have kc : wr.cell? ⟨b, o + i, none⟩ = some (.string (bs ns[i])) := (HW.out.cell (p := ⟨b, o + i, none⟩) hbl).trans hcell
      have hlgr : b < wr.heap.size := by have := HW.out.size; omega
      have e1 : Tp.needsS l (ns.take (i + 1)) = Tp.needsS l (ns.take i) ++ Tp.needS l ns[i] := by
        unfold Tp.needsS
        rw [List.take_succ_eq_append_getElem hia, List.map_append, List.flatten_append]; simp
      have hpl := needs_len l (ns.take (i + 1)) HS.out (fun x hx => HNL.out x (List.mem_of_mem_take hx))
      have hlen : (Tp.needsS l (ns.take i) ++ Tp.needS l ns[i]).length ≤ 1000000000 := by rw [← e1]; simp only [List.length_take] at hpl; omega
      obtain ⟨m, hm⟩ : ∃ m, m = Tp.needsS l (ns.take i) := ⟨_, rfl⟩
      obtain ⟨m2, hm2⟩ : ∃ m2, m2 = Tp.needsS l (ns.take (i + 1)) := ⟨_, rfl⟩
      have hbuf := HB.out
      rw [← hm] at hbuf hlen e1
      rw [← hm2] at e1
      obtain ⟨a1, c1, hv⟩ := owns_shape hbuf.1
      subst hv
      have HFI := Lib.hid (HF.out wr HW.out.toBelow ns[i])
      have HBF := Lib.hid hbuf
      have HM2 := Lib.hid hm2
      have HE1 := Lib.hid e1
      have HLN := Lib.hid hlen
      clear hbuf HB hcell hpl hm hm2 e1 hlen
      generalize ns[i] = nm at *
      go_wp2_with fail
      refine HFI.out.mono ?_
      rintro e w3 ⟨rfl, h3⟩
      have HB3 := Lib.hid (HBF.out.below h3)
      have HW3 := Lib.hid (HW.out.trans (Bw.of h3 HBF.out.2))
      clear h3 kc
      rcases need_at l nm with ⟨k, hkl, hfi, hne⟩ | ⟨hfi, hne⟩
      · obtain ⟨g, hag, _, hgl, hc3⟩ := HSL.out.cell k hkl
        subst hag
        have hc := fun j (hj : j < 3) => (HW3.out.cell (p := ⟨g, k * 3 + j, none⟩) hgl).trans (hc3 j hj)
        have kc0 : w3.cell? ⟨g, k * 3, none⟩ = some (.string (bs l[k].1)) := hc 0 (by omega)
        have kc1 : w3.cell? ⟨g, k * 3 + 1, none⟩ = some (.int .i64 (l[k].2.1 : Int)) := hc 1 (by omega)
        have kc2 : w3.cell? ⟨g, k * 3 + 2, none⟩ = some (.int .i64 l[k].2.2) := hc 2 (by omega)
        have hlg3 : g < w3.heap.size := by have := HW3.out.size; omega
        have hsm := HS.out l[k] (List.getElem_mem hkl)
        have hkl' : (k : Int) < (ln : Int) := by have := HLQ.out; omega
        have hcall := addSym_post l[k] hsm.1 hsm.2.1 hsm.2.2.1 HB3.out (by rw [← hne]; exact HLN.out)
        rw [← hne, ← HE1.out] at hcall
        have HC : Hid (Calls Tryz.prog 128 #[.slice a1 m.length c1, .agg #[.string (bs l[k].1), .int .i64 (l[k].2.1 : Int), .int .i64 l[k].2.2]] w3 (Wrote (fun _ => False) w.heap.size w3 m2)) := hcall
        clear hcall hne hc hc3 hsm
        generalize l[k].1 = x0 at *
        generalize l[k].2.1 = x1 at *
        generalize l[k].2.2 = x2 at *
        rw [hfi]
        go_wp2_with fail
        refine HC.out.mono ?_
        rintro e w4 ⟨v4, rfl, hb4, hw4⟩
        have HB4 : Hid (Buf (fun _ => False) w4 w.heap.size v4 (Tp.needsS l (ns.take (i + 1)))) := by rw [← HM2.out]; exact hb4
        have HW4 := Lib.hid (HW3.out.trans hw4)
        clear hb4 hw4
        go_wp2_with fail
        go_roundg (nn - (i + 1))
        case measure => omega
        case rel => exact ⟨i + 1, by omega, rfl, by go_num, HB4, HW4⟩
      · have hcall := addLine_post (HB3.out.below ((Below.refl _ _).alloc (Nat.le_refl _) (.cells #[.string (bs nm)] 9))) [110, 111, 110, 101] [nm] w3.heap.size 1 (new_blk _ _) (by simp) (by rw [← hne]; exact HLN.out)
        rw [← hne, ← HE1.out] at hcall
        have HC : Hid (Calls Tryz.prog 129 #[.slice a1 m.length c1, .string ⟨#[110, 111, 110, 101]⟩, .slice (some ⟨w3.heap.size, 0, none⟩) 1 1] (w3.alloc (.cells #[.string (bs nm)] 9)) (Wrote (fun _ => False) w.heap.size (w3.alloc (.cells #[.string (bs nm)] 9)) m2)) := hcall
        have HWA := Lib.hid (HW3.out.trans (Bw.of ((Below.refl _ _).alloc (Nat.le_refl _) (.cells #[.string (bs nm)] 9)) HB3.out.2))
        clear hcall hne
        rw [hfi]
        go_wp2_with fail
        refine HC.out.mono ?_
        rintro e w4 ⟨v4, rfl, hb4, hw4⟩
        have HB4 : Hid (Buf (fun _ => False) w4 w.heap.size v4 (Tp.needsS l (ns.take (i + 1)))) := by rw [← HM2.out]; exact hb4
        have HW4 := Lib.hid (HWA.out.trans hw4)
        clear hb4 hw4
        go_wp2_with fail
        go_roundg (nn - (i + 1))
        case measure => omega
        case rel => exact ⟨i + 1, by omega, rfl, by go_num, HB4, HW4⟩
    · have hlt' : ¬ (i : Int) < (nn : Int) := by omega
      have e : i = ns.length := by have := HNQ.out; omega
      have hbuf := HB.out
      rw [e, List.take_length] at hbuf
      have hcv := conv_buf hbuf
      obtain ⟨a1, c1, hv⟩ := owns_shape hbuf.1
      subst hv
      have HBB := Lib.hid HW.out.toBelow
      clear hbuf HB HW
      go_wp2_with fail
      go_ret
      exact ⟨rfl, HBB.out⟩
end Go.Proofs.YtibncofnnlbmcaaGreatDoor
