import Derived.Test.YtadgeapgoggljaaDoorKWa
import Derived.Test.YtadgeapgoggljaaDoorKPb
import Derived.Test.YtadgeapgoggljaaDoorKWi
import Derived.KernelRfl
import Derived.Maps.OwnSet
import Derived.Maps.OwnOps
import Derived.StringKeys
import Derived.LaidEql
import Derived.RowKitTokens
import Derived.Stop.Asserts
/- A map whose keys are texts, by what it holds at each: its block, what is looked up, what is stored. -/
namespace Go.Proofs.YtadgeapgoggljaaDoor
open Go.RowKit Go.Maps
open Tp (Bs)

def heldV (v : Value) : Option (DataW Value × List MemPlace) := some (.held v, [])
theorem skey : Keyed Tryd.prog 9 := string_keyed Tryd.underlying9
/- block b is a map of at most n entries; at the text k it holds f k -/
structure MapV (w : World) (b n : Nat) (f : Bs → Option Value) : Prop where
  own : ∃ D, w.ownsMap Tryd.prog 9 heldV b n D ∧ ∀ s, Maps.has D (.string s) = (f s).isSome ∧ ∀ v, f s = some v → ∀ z, D.atKey (.string s) z = .held v
theorem MapV.made (w : World) : MapV (w.alloc (.map #[] 0)) w.heap.size 0 (fun _ => none) :=
  ⟨⟨.map [], World.ownsMap_made _ _ _ _, fun s => ⟨rfl, fun v h => by cases h⟩⟩⟩
theorem MapV.on {w w' : World} {b n : Nat} {f : Bs → Option Value} (h : MapV w b n f) (k : w'.heap[b]? = w.heap[b]?) : MapV w' b n f := by
  obtain ⟨D, ⟨es, clock, h1, h2⟩, h3⟩ := h.own
  exact ⟨⟨D, ⟨es, clock, k.trans h1, h2⟩, h3⟩⟩
theorem MapV.lt {w : World} {b n : Nat} {f : Bs → Option Value} (h : MapV w b n f) : b < w.heap.size := by
  obtain ⟨D, h1, _⟩ := h.own
  exact h1.lt
theorem skey_of (l : Bs) (hl : l.length ≤ 1000000) : keyOf Tryd.prog 9 (.string (bs l)) = some (.string l) := by
  have := Go.WideMaps.keyOf_string_mk (P := Tryd.prog) (k := 9) Tryd.underlying9 (s := bs l) (by simp [bs, ByteArray.size, maxLen]; omega)
  simpa [bs] using this
theorem MapV.look {w : World} {b n : Nat} {f : Bs → Option Value} (h : MapV w b n f) {t e : TypeId} (ht : Tryd.prog.underlying t = some (.map 9 e)) {z : Value} (hz : (zeroValue e).run Tryd.prog w = .ok z w) (l : Bs) (hl : l.length ≤ 1000000) (c : Bool) :
    (Instr.lookup t (.map (some b)) (.string (bs l)) c).run Tryd.prog w = .ok (if c then .tuple #[(f l).getD z, .bool (f l).isSome] else (f l).getD z) w := by
  obtain ⟨D, h1, h2⟩ := h.own
  obtain ⟨e1, e2⟩ := h2 l
  have key : ∀ v, heldV v = some (D.atKey (.string l) (.held z), ([] : List MemPlace)) → v = (f l).getD z := by
    intro v hv
    unfold heldV at hv
    simp only [Option.some.injEq, Prod.mk.injEq, and_true] at hv
    cases hf : f l with
    | none =>
      rw [hf] at e1
      rw [atKey_of_not_has e1] at hv
      injection hv
    | some u =>
      rw [e2 u hf] at hv
      injection hv
  have key' : ∀ v ps, heldV v = some (D.atKey (.string l) (.held z), ps) → v = (f l).getD z := by
    intro v ps hv
    refine key v ?_
    unfold heldV at hv ⊢
    simp only [Option.some.injEq, Prod.mk.injEq] at hv ⊢
    exact ⟨hv.1, trivial⟩
  cases c with
  | true =>
    obtain ⟨v, ps, r1, r2⟩ := h1.look_ok skey ht hz (zd := .held z) (zp := []) rfl (skey_of l hl)
    rw [r1, key' v ps r2, e1]
    rfl
  | false =>
    obtain ⟨v, ps, r1, r2⟩ := h1.lookup skey ht hz (zd := .held z) (zp := []) rfl (skey_of l hl)
    rw [r1, key' v ps r2]
    rfl
def updV (f : Bs → Option Value) (k : Bs) (v : Value) : Bs → Option Value := fun s => if s = k then some v else f s
theorem MapV.store {w : World} {b n : Nat} {f : Bs → Option Value} (h : MapV w b n f) {t e : TypeId} (ht : Tryd.prog.underlying t = some (.map 9 e)) (hn : n < 1000000) (l : Bs) (hl : l.length ≤ 1000000) (v : Value) :
    ∃ w', (Instr.mapUpdate t (.map (some b)) (.string (bs l)) v).run Tryd.prog w = .ok () w' ∧ MapV w' b (n + 1) (updV f l v) ∧ Ext b w w' ∧ w'.heap.size = w.heap.size := by
  obtain ⟨D, h1, h2⟩ := h.own
  obtain ⟨w', r1, r2, r3⟩ := h1.store skey ht (by unfold maxLen; omega) (skey_of l hl) (d := .held v) (ps := []) rfl
  have hm := h1.isMap
  refine ⟨w', r1, ⟨⟨_, r2, fun s => ?_⟩⟩, ?_, ?_⟩
  · by_cases hs : s = l
    · subst hs
      have hk : WideAt.IsKeyLit (.string s) := by simp [WideAt.IsKeyLit]
      refine ⟨by rw [has_put_same hm hk]; simp [updV], fun u hu z => ?_⟩
      rw [atKey_put_same hm hk]
      simp [updV] at hu
      rw [hu]
    · have hne : (Lit.string s) ≠ .string l := fun e => hs (by injection e)
      refine ⟨by rw [has_put_other hne, (h2 s).1]; simp [updV, hs], fun u hu z => ?_⟩
      rw [atKey_put_other hne]
      simp [updV, hs] at hu
      exact (h2 s).2 u hu z
  · have g := r3.grown
    exact ⟨g.os, g.tape, g.output, g.size, fun k hk hb => g.block k hk (fun e => hb (by injection e))⟩
  · obtain ⟨es, clock, es', clock', _, rfl⟩ := r3
    simp [ChangeMaps.setBlock]
end Go.Proofs.YtadgeapgoggljaaDoor
/- The Errno in an error: errors.As at a *Errno, Tell. -/
namespace Go.Proofs.YtadgeapgoggljaaDoor
open Go.RowKit Go.Extern.Stop Go.Stop Go.Extern

theorem ext_below {b B : Nat} {w w' : World} (h : Ext b w w') (hb : B ≤ b) (hs : B ≤ w.heap.size) : Below B w w' :=
  ⟨h.os, h.tape, h.output, h.size, fun k hk => h.block k (by omega) (by omega)⟩
theorem cell_alloc' {w : World} {a : Addr} {v : Value} (h : w.cell? a = some v) (ob : Obj) : (w.alloc ob).cell? a = some v := by
  rw [World.cell?_alloc_lt _ _ _ (World.block_lt_of_cell? _ _ h)]; exact h
theorem rl_valueP (t : Addr) (w : World) : (ReflectliteValue.unpack (.iface 55 (.pointer (some t)))).run Tryd.prog w
    = .ok (.agg #[.pointer (some ⟨3, 55, none⟩), .pointer (some ⟨w.heap.size, 0, none⟩), .int .u64 150]) (w.alloc (.cells #[.pointer (some t)] 55)) := by kernel_rfl
theorem rl_valueE (n : Int) (w : World) : (ReflectliteValue.unpack (.iface 39 (.int .i64 n))).run Tryd.prog w
    = .ok (.agg #[.pointer (some ⟨3, 39, none⟩), .pointer (some ⟨w.heap.size, 0, none⟩), .int .u64 130]) (w.alloc (.cells #[.int .i64 n] 39)) := by kernel_rfl
theorem rl_typeP (a : Addr) (w : World) : (ReflectliteValue.methodAny (ReflectliteValue.valueError "reflectlite.Value.Type" 0) (fun t _ _ _ => ReflectliteType.toType t) #[.agg #[.pointer (some ⟨3, 55, none⟩), .pointer (some a), .int .u64 150]]).run Tryd.prog w
    = .ok (.iface 110 (.agg #[.pointer (some ⟨3, 55, none⟩)])) w := by kernel_rfl
theorem rl_kindP (w : World) : ((ReflectliteType.abiMethod fun t => (fun a : Nat => Value.int IntKind.u8 (a : Int)) <$> Rtype.kind t) #[.pointer (some ⟨3, 55, none⟩)]).run Tryd.prog w = .ok (.int .u8 22) w := by kernel_rfl
theorem rl_kindE (w : World) : ((ReflectliteType.abiMethod fun t => (fun a : Nat => Value.int IntKind.u8 (a : Int)) <$> Rtype.kind t) #[.pointer (some ⟨3, 39, none⟩)]).run Tryd.prog w = .ok (.int .u8 2) w := by kernel_rfl
theorem rlm (z : Sem Value) (f : TypeId → Addr → Nat → Nat → Sem Value) (v : Value) :
    ReflectliteValue.method z f #[v] = (do match ← ReflectliteValue.parts v with | none => z | some (t, a, fl) => f t a fl (fl % 32)) := rfl
theorem rl_partsP (a : Addr) (w : World) : (ReflectliteValue.parts (.agg #[.pointer (some ⟨3, 55, none⟩), .pointer (some a), .int .u64 150])).run Tryd.prog w = .ok (some (55, a, 150)) w := by kernel_rfl
theorem rl_isNil (a p : Addr) (W : World) (ha : W.cell? a = some (.pointer (some p))) :
    (ReflectliteValue.method (ReflectliteValue.valueError "reflectlite.Value.IsNil" 0) ReflectliteValue.isNil #[.agg #[.pointer (some ⟨3, 55, none⟩), .pointer (some a), .int .u64 150]]).run Tryd.prog W = .ok (.bool false) W := by
  rw [rlm]
  simp only [Sem.run_bind, rl_partsP, Result.andThen]
  simp [ReflectliteValue.isNil, loadVar, isAgg, underlying, Tryd.underlying55, ha, Result.andThen]
theorem rl_elem (w : World) : (ReflectliteType.method ReflectliteType.elem #[.agg #[.pointer (some ⟨3, 55, none⟩)]]).run Tryd.prog w = .ok (.iface 110 (.agg #[.pointer (some ⟨3, 39, none⟩)])) w := by kernel_rfl
theorem rl_implements (w : World) : (ReflectliteType.relation "Implements" ReflectliteType.implements_ #[.agg #[.pointer (some ⟨3, 39, none⟩)], .iface 110 (.agg #[.pointer (some ⟨3, 28, none⟩)])]).run Tryd.prog w = .ok (.bool true) w := by kernel_rfl
theorem rl_typeOfE (n : Int) (w : World) : (ReflectliteType.typeOf #[.iface 39 (.int .i64 n)]).run Tryd.prog w = .ok (.iface 110 (.agg #[.pointer (some ⟨3, 39, none⟩)])) w := by kernel_rfl
theorem rl_assignE (w : World) : (ReflectliteType.relation "AssignableTo" ReflectliteType.assignableTo #[.agg #[.pointer (some ⟨3, 39, none⟩)], .iface 110 (.agg #[.pointer (some ⟨3, 39, none⟩)])]).run Tryd.prog w = .ok (.bool true) w := by kernel_rfl
theorem rl_elemOf (w : World) : (Rtype.elem? 55).run Tryd.prog w = .ok (some 39) w := by kernel_rfl
theorem rl_mk (p : Addr) (w : World) : (ReflectliteValue.mk 39 p ReflectliteValue.flagAddr).run Tryd.prog w = .ok (.agg #[.pointer (some ⟨3, 39, none⟩), .pointer (some p), .int .u64 386]) w := by kernel_rfl
theorem rl_elemV (a p : Addr) (W : World) (ha : W.cell? a = some (.pointer (some p))) :
    (ReflectliteValue.method (ReflectliteValue.valueError "reflectlite.Value.Elem" 0) ReflectliteValue.elem #[.agg #[.pointer (some ⟨3, 55, none⟩), .pointer (some a), .int .u64 150]]).run Tryd.prog W
      = .ok (.agg #[.pointer (some ⟨3, 39, none⟩), .pointer (some p), .int .u64 386]) W := by
  rw [rlm]
  simp only [Sem.run_bind, rl_partsP, Result.andThen]
  simp [ReflectliteValue.elem, loadVar, isAgg, underlying, Tryd.underlying55, ha, Result.andThen, rl_elemOf, rl_mk]
theorem rl_partsA (a : Addr) (w : World) : (ReflectliteValue.parts (.agg #[.pointer (some ⟨3, 39, none⟩), .pointer (some a), .int .u64 386])).run Tryd.prog w = .ok (some (39, a, 386)) w := by kernel_rfl
theorem rl_partsE (a : Addr) (w : World) : (ReflectliteValue.parts (.agg #[.pointer (some ⟨3, 39, none⟩), .pointer (some a), .int .u64 130])).run Tryd.prog w = .ok (some (39, a, 130)) w := by kernel_rfl
theorem rl_direct (w : World) : (Rtype.directlyAssignable 39 39).run Tryd.prog w = .ok true w := by kernel_rfl
theorem rl_set (ta b : Addr) (n : Int) (old : Value) (W : World) (hb : W.cell? b = some (.int .i64 n)) (ht : W.cell? ta = some old) (hf : W.frozen? ta = false) :
    (ReflectliteValue.set #[.agg #[.pointer (some ⟨3, 39, none⟩), .pointer (some ta), .int .u64 386], .agg #[.pointer (some ⟨3, 39, none⟩), .pointer (some b), .int .u64 130]]).run Tryd.prog W
      = .ok (.tuple #[]) (W.setCell ta (.int .i64 n)) := by
  refine Eq.trans (congrArg (fun s : Sem Value => s.run Tryd.prog W) (show ReflectliteValue.set #[.agg #[.pointer (some ⟨3, 39, none⟩), .pointer (some ta), .int .u64 386], .agg #[.pointer (some ⟨3, 39, none⟩), .pointer (some b), .int .u64 130]] = (ReflectliteValue.parts (.agg #[.pointer (some ⟨3, 39, none⟩), .pointer (some ta), .int .u64 386]) >>= fun p => ReflectliteValue.parts (.agg #[.pointer (some ⟨3, 39, none⟩), .pointer (some b), .int .u64 130]) >>= fun q => _) from rfl)) ?_
  simp only [Sem.run_bind, rl_partsA, rl_partsE, Result.andThen]
  simp [ReflectliteValue.flagAddr, loadVar, isAgg, underlying, Tryd.underlying39, hb, Result.andThen, rl_direct, storeVar, Value.cells, storeCells, Addr.add]
  rw [run_store Tryd.prog W ta _ _ (by rfl)]
  simp [ht, hf]
end Go.Proofs.YtadgeapgoggljaaDoor
/- errors.As at a *Errno, walked; Tell. -/
namespace Go.Proofs.YtadgeapgoggljaaDoor
open Go.RowKit Go.Extern.Stop Go.Stop Go.Extern

theorem me_Kind (h : Value) (w : World) : (Go.method 174 110 (.agg #[h]) "Kind").run Tryd.prog w = .ok (84, h) w := by kernel_rfl
theorem me_Elem (h : Value) (w : World) : (Go.method 174 110 (.agg #[h]) "Elem").run Tryd.prog w = .ok (103, .agg #[h]) w := by kernel_rfl
theorem me_Impl (h : Value) (w : World) : (Go.method 174 110 (.agg #[h]) "Implements").run Tryd.prog w = .ok (104, .agg #[h]) w := by kernel_rfl
theorem me_Assign (h : Value) (w : World) : (Go.method 174 110 (.agg #[h]) "AssignableTo").run Tryd.prog w = .ok (101, .agg #[h]) w := by kernel_rfl
set_option maxRecDepth 100000 in
set_option maxHeartbeats 4000000 in
theorem as_en (n : Int) (t : Addr) (old : Value) (w : World) (hg : w.cell? ⟨0, 0, none⟩ = some (.iface 110 (.agg #[.pointer (some ⟨3, 28, none⟩)]))) (ht0 : w.cell? t = some old) (hf0 : w.frozen? t = false) :
    Calls Tryd.prog 20 #[.iface 39 (.int .i64 n), .iface 55 (.pointer (some t))] w fun ev w' => ev = .returned (.bool true) ∧ w' = ((((w.alloc (.cells #[.pointer (some t)] 55)).alloc (.cells #[.pointer (some ⟨3, 55, none⟩), .pointer (some ⟨w.heap.size, 0, none⟩), .int .u64 150] 70)).alloc (.cells #[.pointer (some ⟨3, 55, none⟩), .pointer (some ⟨w.heap.size, 0, none⟩), .int .u64 150] 70)).alloc (.cells #[.int .i64 n] 39)).setCell t (.int .i64 n) := by
  have h6 := @run_callFunc_extern Tryd.prog 29 _ (fun args => ReflectliteValue.unpack (args.getD 0 (.tuple #[]))) Tryd.func29 (by kernel_rfl) (by kernel_rfl) (by kernel_rfl) (by kernel_rfl)
  have h7 := @run_callFunc_extern Tryd.prog 30 _ (ReflectliteValue.methodAny (ReflectliteValue.valueError "reflectlite.Value.Type" 0) (fun t _ _ _ => ReflectliteType.toType t)) Tryd.func30 (by kernel_rfl) (by kernel_rfl) (by kernel_rfl) (by kernel_rfl)
  have h8 := @run_callFunc_extern Tryd.prog 31 _ (ReflectliteValue.method (ReflectliteValue.valueError "reflectlite.Value.IsNil" 0) ReflectliteValue.isNil) Tryd.func31 (by kernel_rfl) (by kernel_rfl) (by kernel_rfl) (by kernel_rfl)
  have h27 := @run_callFunc_extern Tryd.prog 84 _ (ReflectliteType.abiMethod fun t => do pure (.int .u8 (← Rtype.kind t))) Tryd.func84 (by kernel_rfl) (by kernel_rfl) (by kernel_rfl) (by kernel_rfl)
  have h37 := @run_callFunc_extern Tryd.prog 103 _ (ReflectliteType.method ReflectliteType.elem) Tryd.func103 (by kernel_rfl) (by kernel_rfl) (by kernel_rfl) (by kernel_rfl)
  have h38 := @run_callFunc_extern Tryd.prog 104 _ (ReflectliteType.relation "Implements" ReflectliteType.implements_) Tryd.func104 (by kernel_rfl) (by kernel_rfl) (by kernel_rfl) (by kernel_rfl)
  have h10 := @run_callFunc_extern Tryd.prog 49 _ ReflectliteType.typeOf Tryd.func49 (by kernel_rfl) (by kernel_rfl) (by kernel_rfl) (by kernel_rfl)
  have h35 := @run_callFunc_extern Tryd.prog 101 _ (ReflectliteType.relation "AssignableTo" ReflectliteType.assignableTo) Tryd.func101 (by kernel_rfl) (by kernel_rfl) (by kernel_rfl) (by kernel_rfl)
  have h11 := @run_callFunc_extern Tryd.prog 50 _ (ReflectliteValue.method (ReflectliteValue.valueError "reflectlite.Value.Elem" 0) ReflectliteValue.elem) Tryd.func50 (by kernel_rfl) (by kernel_rfl) (by kernel_rfl) (by kernel_rfl)
  have h12 := @run_callFunc_extern Tryd.prog 51 _ ReflectliteValue.set Tryd.func51 (by kernel_rfl) (by kernel_rfl) (by kernel_rfl) (by kernel_rfl)
  have tO := rl_typeOfE
  have mA := me_Assign
  have a25 := rl_assignE
  have v25 := rl_valueE
  have f6 := rl_valueP
  have f7 := rl_typeP
  have mK := me_Kind
  have mE := me_Elem
  have mI := me_Impl
  have k27 := rl_kindP
  have k25 := rl_kindE
  have e27 := rl_elem
  have i25 := rl_implements
  have n8 := rl_isNil ⟨w.heap.size, 0, none⟩ t ((w.alloc (.cells #[.pointer (some t)] 55)).alloc (.cells #[.pointer (some ⟨3, 55, none⟩), .pointer (some ⟨w.heap.size, 0, none⟩), .int .u64 150] 70)) (by simp)
  have hlt : 0 < w.heap.size := lt_of_cell hg
  have hg2 : ((w.alloc (.cells #[.pointer (some t)] 55)).alloc (.cells #[.pointer (some ⟨3, 55, none⟩), .pointer (some ⟨w.heap.size, 0, none⟩), .int .u64 150] 70)).cell? ⟨0, 0, none⟩ = some (.iface 110 (.agg #[.pointer (some ⟨3, 28, none⟩)])) := by
    rw [World.cell?_alloc_lt _ _ ⟨0, 0, none⟩ (by simp <;> omega), World.cell?_alloc_lt _ _ ⟨0, 0, none⟩ hlt]; exact hg
  have htl : t.block < w.heap.size := World.block_lt_of_cell? _ _ ht0
  have el := rl_elemV ⟨w.heap.size, 0, none⟩ t (((w.alloc (.cells #[.pointer (some t)] 55)).alloc (.cells #[.pointer (some ⟨3, 55, none⟩), .pointer (some ⟨w.heap.size, 0, none⟩), .int .u64 150] 70)).alloc (.cells #[.pointer (some ⟨3, 55, none⟩), .pointer (some ⟨w.heap.size, 0, none⟩), .int .u64 150] 70)) (by rw [World.cell?_alloc_lt _ _ ⟨w.heap.size, 0, none⟩ (by simp; omega)]; simp)
  have st := rl_set t ⟨w.heap.size + 1 + 1 + 1, 0, none⟩ n old ((((w.alloc (.cells #[.pointer (some t)] 55)).alloc (.cells #[.pointer (some ⟨3, 55, none⟩), .pointer (some ⟨w.heap.size, 0, none⟩), .int .u64 150] 70)).alloc (.cells #[.pointer (some ⟨3, 55, none⟩), .pointer (some ⟨w.heap.size, 0, none⟩), .int .u64 150] 70)).alloc (.cells #[.int .i64 n] 39))
    (by rw [World.cell?_alloc_at _ _ _ _ (by simp)]; rfl)
    (by rw [World.cell?_alloc_lt _ _ t (by simp; omega), World.cell?_alloc_lt _ _ t (by simp; omega), World.cell?_alloc_lt _ _ t (by simp; omega), World.cell?_alloc_lt _ _ t htl]; exact ht0)
    (by rw [World.frozen?_alloc_old _ _ t (by simp; omega), World.frozen?_alloc_old _ _ t (by simp; omega), World.frozen?_alloc_old _ _ t (by simp; omega), World.frozen?_alloc_old _ _ t (Nat.ne_of_lt htl)]; exact hf0)
  go_enter Tryd.func20, Tryd.ntmps20
  go_wp2
  refine wp_loop_rounds 1 ?_
  rw [rounds_succ]
  go_wp2
  go_ret
  exact ⟨rfl, rfl⟩
/- Tell of what Check told -/
theorem ext_four (w : World) (t : Addr) (o1 o2 o3 o4 : Obj) (v : Value) : Ext t.block w (((((w.alloc o1).alloc o2).alloc o3).alloc o4).setCell t v) := by
  have h : Below w.heap.size w ((((w.alloc o1).alloc o2).alloc o3).alloc o4) := ((((Below.refl _ _).alloc (Nat.le_refl _) _).alloc (by simp) _).alloc (by simp; omega) _).alloc (by simp; omega) _
  refine ⟨h.os, h.tape, h.output, by simpa using h.size, fun k hk hb => ?_⟩
  rw [Below.heap_setCell _ _ _ _ hb]
  exact h.block k hk
set_option maxRecDepth 100000 in
set_option maxHeartbeats 1000000 in
theorem tell_en (n : Int) (w : World) (hg : w.cell? ⟨0, 0, none⟩ = some (.iface 110 (.agg #[.pointer (some ⟨3, 28, none⟩)]))) :
    Calls Tryd.prog 10 #[.iface 39 (.int .i64 n)] w fun e w' => e = .returned (.int .i64 n) ∧ Below w.heap.size w w' := by
  obtain ⟨w0, hw0⟩ : ∃ w0, w0 = w.alloc (.cells #[.int .i64 0] 39) := ⟨_, rfl⟩
  have hb0 : Below w.heap.size w w0 := by rw [hw0]; exact (Below.refl _ _).alloc (Nat.le_refl _) _
  have hk0 : w0.heap[w.heap.size]? = some (.cells #[.int .i64 0] 39 (0, 0)) := by rw [hw0]; exact new_blk _ _
  have hg0 : w0.cell? ⟨0, 0, none⟩ = some (.iface 110 (.agg #[.pointer (some ⟨3, 28, none⟩)])) := by rw [hw0]; exact cell_alloc' hg _
  have HA := Lib.hid (as_en n ⟨w.heap.size, 0, none⟩ (.int .i64 0) w0 hg0 ((cell_blk hk0).trans rfl) (frozen_blk hk0))
  have HB0 := Lib.hid hb0
  have HK0 := Lib.hid hk0
  clear hb0 hk0 hg0 hg
  go_enter Tryd.func10, Tryd.ntmps10
  go_upto_region 4 with fail
  rw [← hw0]
  clear hw0
  go_wp2_with fail
  refine HA.out.mono ?_
  rintro e w3 ⟨rfl, hw3⟩
  have hx : Ext w.heap.size w0 w3 := by rw [hw3]; exact ext_four w0 ⟨w.heap.size, 0, none⟩ _ _ _ _ _
  have hc : w3.cell? ⟨w.heap.size, 0, none⟩ = some (.int .i64 n) := by
    rw [hw3]
    exact World.cell?_setCell_same _ _ _ (cell_alloc' (cell_alloc' (cell_alloc' (cell_alloc' ((cell_blk HK0.out).trans rfl) _) _) _) _)
  have HB3 : Hid (Below w.heap.size w w3) := HB0.out.trans (ext_below hx (Nat.le_refl _) HB0.out.size)
  have hl3 : w.heap.size < w3.heap.size := lt_of_cell hc
  clear hw3 hx
  go_wp2_with fail
  go_ret
  exact ⟨rfl, HB3.out⟩
end Go.Proofs.YtadgeapgoggljaaDoor
/- What the program reads of its variables; texts that a slice holds. -/
namespace Go.Proofs.YtadgeapgoggljaaDoor
open Go.RowKit
open Tp (Bs)

def ErT (w : World) : Prop := w.cell? ⟨0, 0, none⟩ = some (.iface 110 (.agg #[.pointer (some ⟨3, 28, none⟩)]))
theorem ErT.below {w w' : World} {B : Nat} (h : ErT w) (k : Below B w w') (hB : 0 < B) : ErT w' := (k.cell (p := ⟨0, 0, none⟩) hB).trans h
/- what the program reads of its variables -/
structure VarsC (B : Nat) (w : World) : Prop where
  mks : Mk w
  lv : Lv w
  et : ErT w
  m : 1 < B
  l : 2 < B
  e : 0 < B
theorem VarsC.on {B : Nat} {w w' : World} (h : VarsC B w) (k : Below B w w') : VarsC B w' := ⟨h.mks.below k h.m, h.lv.below k h.l, h.et.below k h.e, h.m, h.l, h.e⟩
theorem VarsC.on' {B : Nat} {w w' : World} (h : VarsC B w) (hB : B ≤ w.heap.size) (k : Below w.heap.size w w') : VarsC B w' := h.on (k.mono hB)
/- texts that a slice holds -/
structure StrsAt (w : World) (ns : List (List UInt8)) (a : Option Addr) : Prop where
  c : ∀ i (h : i < ns.length), ∃ b o, a = some ⟨b, o, none⟩ ∧ b < w.heap.size ∧ w.cell? ⟨b, o + i, none⟩ = some (.string (bs ns[i]))
theorem StrsAt.on {w w' : World} {ns : List (List UInt8)} {a : Option Addr} (h : StrsAt w ns a) (k : Below w.heap.size w w') : StrsAt w' ns a :=
  ⟨fun i hi => by obtain ⟨b, o, h1, h2, h3⟩ := h.c i hi; exact ⟨b, o, h1, Nat.lt_of_lt_of_le h2 k.size, (k.cell (p := ⟨b, o + i, none⟩) h2).trans h3⟩⟩
end Go.Proofs.YtadgeapgoggljaaDoor
/- keep: texts are few, and short: short. -/
namespace Go.Proofs.YtadgeapgoggljaaDoor
open Go.RowKit
open Tp (Bs)

set_option maxRecDepth 100000 in
theorem long_post (n : List UInt8) (w : World) : Calls Tryd.prog 13 #[.string (bs n)] w fun e w' => e = .returned (.bool (decide (900 < n.length))) ∧ w' = w := by
  by_cases h : 900 < n.length
  · have hs : (900 : Int) < ((bs n).size : Int) := by rw [bs_size]; omega
    rw [decide_eq_true h]
    go_enter Tryd.func13, Tryd.ntmps13
    go_wp2_with fail
    go_ret
    exact ⟨by first | rfl | simp [hs], rfl⟩
  · have hs : ¬ (900 : Int) < ((bs n).size : Int) := by rw [bs_size]; omega
    rw [decide_eq_false h]
    go_enter Tryd.func13, Tryd.ntmps13
    go_wp2_with fail
    go_ret
    exact ⟨by first | rfl | (simp; omega), rfl⟩
set_option maxRecDepth 100000 in
set_option maxHeartbeats 1000000 in
theorem indexS_post {w : World} {ns : List (List UInt8)} {na : Option Addr} {nc : Nat} (hns : StrsAt w ns na) (hnn : ns.length ≤ 1000) :
    Calls Tryd.prog 19 #[.slice na ns.length nc, .func (.func 13) #[] #[]] w fun e w' => (∃ k : Int, e = .returned (.int .i64 k) ∧ ((0 ≤ k ∧ k ≤ 1000) ∨ k = -1 ∧ ∀ n ∈ ns, n.length ≤ 900)) ∧ w' = w := by
  have hnn' : (ns.length : Int) ≤ 1000 := by omega
  have HNS := Lib.hid hns
  obtain ⟨nn, hnq⟩ : ∃ nn, nn = ns.length := ⟨_, rfl⟩
  rw [← hnq] at hnn' ⊢
  have HNQ := Lib.hid hnq
  clear hns hnq
  go_enter Tryd.func19, Tryd.ntmps19
  go_wp2_with fail
  go_loopg [8] nn (fun k vi wr => ∃ i : Nat, i ≤ nn ∧ k = nn - i ∧ vi = .int .i64 (i : Int) ∧ Hid (∀ k (hk : k < ns.length), k < i → ns[k].length ≤ 900) ∧ wr = w)
  case atStart => exact ⟨0, by omega, by omega, rfl, fun k _ hk => by omega, rfl⟩
  case round =>
    obtain ⟨i, hid, hk, rfl, HI, rfl⟩ := hrel
    by_cases hlt : i < nn
    · have hlt' : (i : Int) < (nn : Int) := by omega
      have hia : i < ns.length := by have := HNQ.out; omega
      obtain ⟨b, o, rfl, hbl, hcell⟩ := HNS.out.c i hia
      have HF := Lib.hid (long_post ns[i] wr)
      have HNX : Hid (¬ 900 < ns[i].length → ∀ k (hk : k < ns.length), k < i + 1 → ns[k].length ≤ 900) := by
        intro hne k hk hlt
        by_cases e : k = i
        · subst e; omega
        · exact HI.out k hk (by omega)
      generalize ns[i] = x at *
      go_wp2_with fail
      refine HF.out.mono ?_
      rintro e w3 ⟨rfl, rfl⟩
      by_cases hx : 900 < x.length
      · rw [decide_eq_true hx]
        go_wp2_with fail
        go_ret
        exact ⟨⟨(i : Int), rfl, Or.inl ⟨by omega, by omega⟩⟩, rfl⟩
      · rw [decide_eq_false hx]
        have HI3 := Lib.hid (HNX.out hx)
        go_wp2_with fail
        go_roundg (nn - (i + 1))
        case measure => omega
        case rel => exact ⟨i + 1, by omega, rfl, by go_num, HI3, rfl⟩
    · have hlt' : ¬ (i : Int) < (nn : Int) := by omega
      have hall : ∀ n ∈ ns, n.length ≤ 900 := by
        intro n hn
        obtain ⟨k, hk, rfl⟩ := List.getElem_of_mem hn
        exact HI.out k hk (by have := HNQ.out; omega)
      go_wp2_with fail
      go_ret
      exact ⟨⟨-1, rfl, Or.inr ⟨rfl, hall⟩⟩, rfl⟩
set_option maxRecDepth 100000 in
theorem contF_post {w : World} {ns : List (List UInt8)} {na : Option Addr} {nc : Nat} (hns : StrsAt w ns na) (hnn : ns.length ≤ 1000) :
    Calls Tryd.prog 8 #[.slice na ns.length nc, .func (.func 13) #[] #[]] w fun e w' => (e = .returned (.bool true) ∨ e = .returned (.bool false) ∧ ∀ n ∈ ns, n.length ≤ 900) ∧ w' = w := by
  have HC := Lib.hid (indexS_post (nc := nc) hns hnn)
  clear hns
  generalize ns.length = nn at *
  go_enter Tryd.func8, Tryd.ntmps8
  go_wp2_with fail
  refine HC.out.mono ?_
  rintro e w1 ⟨⟨k, rfl, hk⟩, rfl⟩
  rcases hk with ⟨h1, h2⟩ | ⟨rfl, h2⟩
  · go_wp2_with fail
    go_ret
    exact ⟨Or.inl (by first | rfl | simp [h1]), rfl⟩
  · have H2 := Lib.hid h2
    go_wp2_with fail
    go_ret
    exact ⟨Or.inr ⟨rfl, H2.out⟩, rfl⟩
set_option maxRecDepth 100000 in
set_option maxHeartbeats 400000 in
theorem short_post {w : World} {ns : List (List UInt8)} {na : Option Addr} {nc : Nat} (hns : StrsAt w ns na) :
    Calls Tryd.prog 4 #[.slice na ns.length nc] w fun e w' => (e = .returned (.bool false) ∨ e = .returned (.bool true) ∧ ns.length ≤ 5 ∧ ∀ n ∈ ns, n.length ≤ 900) ∧ w' = w := by
  by_cases h5 : ns.length ≤ 5
  · have h5' : (ns.length : Int) ≤ 5 := by omega
    have HC := Lib.hid (contF_post (nc := nc) hns (by omega))
    have H5 := Lib.hid h5
    clear hns h5
    obtain ⟨nn, hnq⟩ : ∃ nn, nn = ns.length := ⟨_, rfl⟩
    rw [← hnq] at h5' HC ⊢
    have HNQ := Lib.hid hnq
    clear hnq
    go_enter Tryd.func4, Tryd.ntmps4
    go_wp2_with fail
    refine HC.out.mono ?_
    rintro e w1 ⟨hk, rfl⟩
    rcases hk with rfl | ⟨rfl, hall⟩
    · go_wp2_with fail
      go_ret
      exact ⟨Or.inl rfl, rfl⟩
    · have HALL := Lib.hid hall
      clear hall
      go_wp2_with fail
      go_ret
      exact ⟨Or.inr ⟨rfl, by rw [HNQ.out]; exact H5.out, HALL.out⟩, rfl⟩
  · have h5' : ¬ (ns.length : Int) ≤ 5 := by omega
    clear h5 hns
    generalize ns.length = nn at *
    go_enter Tryd.func4, Tryd.ntmps4
    go_wp2_with fail
    go_ret
    exact ⟨Or.inl rfl, rfl⟩
end Go.Proofs.YtadgeapgoggljaaDoor
