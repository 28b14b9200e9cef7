import Derived.Test.YtadgeapgoggljaaGreatDoorKWa
import Derived.Test.YtadgeapgoggljaaGreatDoorKPb
import Derived.Test.YtadgeapgoggljaaGreatDoorKWi
import Derived.Test.YtadgeapgoggljaaGreatDoorKSha
import Derived.Maps.OwnSet
import Derived.Maps.OwnOps
import Derived.StringKeys
import Derived.LaidEql
import Derived.RowKitTokens
import Derived.Stop.Asserts
/- A map whose keys are texts, by what it holds at each: its block, what is looked up, what is stored. -/
namespace Go.Proofs.YtadgeapgoggljaaGreatDoor
open Go.RowKit Go.Maps
open Tp (Bs)

def heldV (v : Value) : Option (DataW Value × List MemPlace) := some (.held v, [])
theorem skey : Keyed Tryz.prog 9 := string_keyed Tryz.underlying9
/- block b is a map of at most n entries; at the text k it holds f k -/
structure MapV (w : World) (b n : Nat) (f : Bs → Option Value) : Prop where
  own : ∃ D, w.ownsMap Tryz.prog 9 heldV b n D ∧ ∀ s, Maps.has D (.string s) = (f s).isSome ∧ ∀ v, f s = some v → ∀ z, D.atKey (.string s) z = .held v
theorem MapV.made (w : World) : MapV (w.alloc (.map #[] 0)) w.heap.size 0 (fun _ => none) :=
  ⟨⟨.map [], World.ownsMap_made _ _ _ _, fun s => ⟨rfl, fun v h => by cases h⟩⟩⟩
theorem MapV.on {w w' : World} {b n : Nat} {f : Bs → Option Value} (h : MapV w b n f) (k : w'.heap[b]? = w.heap[b]?) : MapV w' b n f := by
  obtain ⟨D, ⟨es, clock, h1, h2⟩, h3⟩ := h.own
  exact ⟨⟨D, ⟨es, clock, k.trans h1, h2⟩, h3⟩⟩
theorem MapV.lt {w : World} {b n : Nat} {f : Bs → Option Value} (h : MapV w b n f) : b < w.heap.size := by
  obtain ⟨D, h1, _⟩ := h.own
  exact h1.lt
theorem skey_of (l : Bs) (hl : l.length ≤ 1000000) : keyOf Tryz.prog 9 (.string (bs l)) = some (.string l) := by
  have := Go.WideMaps.keyOf_string_mk (P := Tryz.prog) (k := 9) Tryz.underlying9 (s := bs l) (by simp [bs, ByteArray.size, maxLen]; omega)
  simpa [bs] using this
theorem MapV.look {w : World} {b n : Nat} {f : Bs → Option Value} (h : MapV w b n f) {t e : TypeId} (ht : Tryz.prog.underlying t = some (.map 9 e)) {z : Value} (hz : (zeroValue e).run Tryz.prog w = .ok z w) (l : Bs) (hl : l.length ≤ 1000000) (c : Bool) :
    (Instr.lookup t (.map (some b)) (.string (bs l)) c).run Tryz.prog w = .ok (if c then .tuple #[(f l).getD z, .bool (f l).isSome] else (f l).getD z) w := by
  obtain ⟨D, h1, h2⟩ := h.own
  obtain ⟨e1, e2⟩ := h2 l
  have key : ∀ v, heldV v = some (D.atKey (.string l) (.held z), ([] : List MemPlace)) → v = (f l).getD z := by
    intro v hv
    unfold heldV at hv
    simp only [Option.some.injEq, Prod.mk.injEq, and_true] at hv
    cases hf : f l with
    | none =>
      rw [hf] at e1
      rw [atKey_of_not_has e1] at hv
      injection hv
    | some u =>
      rw [e2 u hf] at hv
      injection hv
  have key' : ∀ v ps, heldV v = some (D.atKey (.string l) (.held z), ps) → v = (f l).getD z := by
    intro v ps hv
    refine key v ?_
    unfold heldV at hv ⊢
    simp only [Option.some.injEq, Prod.mk.injEq] at hv ⊢
    exact ⟨hv.1, trivial⟩
  cases c with
  | true =>
    obtain ⟨v, ps, r1, r2⟩ := h1.look_ok skey ht hz (zd := .held z) (zp := []) rfl (skey_of l hl)
    rw [r1, key' v ps r2, e1]
    rfl
  | false =>
    obtain ⟨v, ps, r1, r2⟩ := h1.lookup skey ht hz (zd := .held z) (zp := []) rfl (skey_of l hl)
    rw [r1, key' v ps r2]
    rfl
theorem nilmap_look (w : World) {t e : TypeId} (ht : Tryz.prog.underlying t = some (.map 9 e)) {z : Value} (hz : (zeroValue e).run Tryz.prog w = .ok z w) (l : Bs) (hl : l.length ≤ 1000000) (c : Bool) :
    (Instr.lookup t (.map none) (.string (bs l)) c).run Tryz.prog w = .ok (if c then .tuple #[z, .bool false] else z) w := Maps.look_nil c skey ht hz (skey_of l hl)
def updV (f : Bs → Option Value) (k : Bs) (v : Value) : Bs → Option Value := fun s => if s = k then some v else f s
theorem MapV.store {w : World} {b n : Nat} {f : Bs → Option Value} (h : MapV w b n f) {t e : TypeId} (ht : Tryz.prog.underlying t = some (.map 9 e)) (hn : n < 1000000) (l : Bs) (hl : l.length ≤ 1000000) (v : Value) :
    ∃ w', (Instr.mapUpdate t (.map (some b)) (.string (bs l)) v).run Tryz.prog w = .ok () w' ∧ MapV w' b (n + 1) (updV f l v) ∧ Ext b w w' ∧ w'.heap.size = w.heap.size := by
  obtain ⟨D, h1, h2⟩ := h.own
  obtain ⟨w', r1, r2, r3⟩ := h1.store skey ht (by unfold maxLen; omega) (skey_of l hl) (d := .held v) (ps := []) rfl
  have hm := h1.isMap
  refine ⟨w', r1, ⟨⟨_, r2, fun s => ?_⟩⟩, ?_, ?_⟩
  · by_cases hs : s = l
    · subst hs
      have hk : WideAt.IsKeyLit (.string s) := by simp [WideAt.IsKeyLit]
      refine ⟨by rw [has_put_same hm hk]; simp [updV], fun u hu z => ?_⟩
      rw [atKey_put_same hm hk]
      simp [updV] at hu
      rw [hu]
    · have hne : (Lit.string s) ≠ .string l := fun e => hs (by injection e)
      refine ⟨by rw [has_put_other hne, (h2 s).1]; simp [updV, hs], fun u hu z => ?_⟩
      rw [atKey_put_other hne]
      simp [updV, hs] at hu
      exact (h2 s).2 u hu z
  · have g := r3.grown
    exact ⟨g.os, g.tape, g.output, g.size, fun k hk hb => g.block k hk (fun e => hb (by injection e))⟩
  · obtain ⟨es, clock, es', clock', _, rfl⟩ := r3
    simp [ChangeMaps.setBlock]
end Go.Proofs.YtadgeapgoggljaaGreatDoor
/- The Errno in an error: errors.As at a *Errno, Tell. -/
namespace Go.Proofs.YtadgeapgoggljaaGreatDoor
open Go.RowKit Go.Extern.Stop Go.Stop Go.Extern

theorem ext_below {b B : Nat} {w w' : World} (h : Ext b w w') (hb : B ≤ b) (hs : B ≤ w.heap.size) : Below B w w' :=
  ⟨h.os, h.tape, h.output, h.size, fun k hk => h.block k (by omega) (by omega)⟩
theorem cell_alloc' {w : World} {a : Addr} {v : Value} (h : w.cell? a = some v) (ob : Obj) : (w.alloc ob).cell? a = some v := by
  rw [World.cell?_alloc_lt _ _ _ (World.block_lt_of_cell? _ _ h)]; exact h
theorem rl_valueP (t : Addr) (w : World) : (ReflectliteValue.unpack (.iface 77 (.pointer (some t)))).run Tryz.prog w
    = .ok (.agg #[.pointer (some ⟨7, 77, none⟩), .pointer (some ⟨w.heap.size, 0, none⟩), .int .u64 150]) (w.alloc (.cells #[.pointer (some t)] 77)) := by kernel_rfl
theorem rl_valueE (n : Int) (w : World) : (ReflectliteValue.unpack (.iface 45 (.int .i64 n))).run Tryz.prog w
    = .ok (.agg #[.pointer (some ⟨7, 45, none⟩), .pointer (some ⟨w.heap.size, 0, none⟩), .int .u64 130]) (w.alloc (.cells #[.int .i64 n] 45)) := by kernel_rfl
theorem rl_typeP (a : Addr) (w : World) : (ReflectliteValue.methodAny (ReflectliteValue.valueError "reflectlite.Value.Type" 0) (fun t _ _ _ => ReflectliteType.toType t) #[.agg #[.pointer (some ⟨7, 77, none⟩), .pointer (some a), .int .u64 150]]).run Tryz.prog w
    = .ok (.iface 171 (.agg #[.pointer (some ⟨7, 77, none⟩)])) w := by kernel_rfl
theorem rl_kindP (w : World) : ((ReflectliteType.abiMethod fun t => (fun a : Nat => Value.int IntKind.u8 (a : Int)) <$> Rtype.kind t) #[.pointer (some ⟨7, 77, none⟩)]).run Tryz.prog w = .ok (.int .u8 22) w := by kernel_rfl
theorem rl_kindE (w : World) : ((ReflectliteType.abiMethod fun t => (fun a : Nat => Value.int IntKind.u8 (a : Int)) <$> Rtype.kind t) #[.pointer (some ⟨7, 45, none⟩)]).run Tryz.prog w = .ok (.int .u8 2) w := by kernel_rfl
theorem rlm (z : Sem Value) (f : TypeId → Addr → Nat → Nat → Sem Value) (v : Value) :
    ReflectliteValue.method z f #[v] = (do match ← ReflectliteValue.parts v with | none => z | some (t, a, fl) => f t a fl (fl % 32)) := rfl
theorem rl_partsP (a : Addr) (w : World) : (ReflectliteValue.parts (.agg #[.pointer (some ⟨7, 77, none⟩), .pointer (some a), .int .u64 150])).run Tryz.prog w = .ok (some (77, a, 150)) w := by kernel_rfl
theorem rl_isNil (a p : Addr) (W : World) (ha : W.cell? a = some (.pointer (some p))) :
    (ReflectliteValue.method (ReflectliteValue.valueError "reflectlite.Value.IsNil" 0) ReflectliteValue.isNil #[.agg #[.pointer (some ⟨7, 77, none⟩), .pointer (some a), .int .u64 150]]).run Tryz.prog W = .ok (.bool false) W := by
  rw [rlm]
  simp only [Sem.run_bind, rl_partsP, Result.andThen]
  simp [ReflectliteValue.isNil, loadVar, isAgg, underlying, Tryz.underlying77, ha, Result.andThen]
theorem rl_elem (w : World) : (ReflectliteType.method ReflectliteType.elem #[.agg #[.pointer (some ⟨7, 77, none⟩)]]).run Tryz.prog w = .ok (.iface 171 (.agg #[.pointer (some ⟨7, 45, none⟩)])) w := by kernel_rfl
theorem rl_implements (w : World) : (ReflectliteType.relation "Implements" ReflectliteType.implements_ #[.agg #[.pointer (some ⟨7, 45, none⟩)], .iface 171 (.agg #[.pointer (some ⟨7, 40, none⟩)])]).run Tryz.prog w = .ok (.bool true) w := by kernel_rfl
theorem rl_typeOfE (n : Int) (w : World) : (ReflectliteType.typeOf #[.iface 45 (.int .i64 n)]).run Tryz.prog w = .ok (.iface 171 (.agg #[.pointer (some ⟨7, 45, none⟩)])) w := by kernel_rfl
theorem rl_assignE (w : World) : (ReflectliteType.relation "AssignableTo" ReflectliteType.assignableTo #[.agg #[.pointer (some ⟨7, 45, none⟩)], .iface 171 (.agg #[.pointer (some ⟨7, 45, none⟩)])]).run Tryz.prog w = .ok (.bool true) w := by kernel_rfl
theorem rl_elemOf (w : World) : (Rtype.elem? 77).run Tryz.prog w = .ok (some 45) w := by kernel_rfl
theorem rl_mk (p : Addr) (w : World) : (ReflectliteValue.mk 45 p ReflectliteValue.flagAddr).run Tryz.prog w = .ok (.agg #[.pointer (some ⟨7, 45, none⟩), .pointer (some p), .int .u64 386]) w := by kernel_rfl
theorem rl_elemV (a p : Addr) (W : World) (ha : W.cell? a = some (.pointer (some p))) :
    (ReflectliteValue.method (ReflectliteValue.valueError "reflectlite.Value.Elem" 0) ReflectliteValue.elem #[.agg #[.pointer (some ⟨7, 77, none⟩), .pointer (some a), .int .u64 150]]).run Tryz.prog W
      = .ok (.agg #[.pointer (some ⟨7, 45, none⟩), .pointer (some p), .int .u64 386]) W := by
  rw [rlm]
  simp only [Sem.run_bind, rl_partsP, Result.andThen]
  simp [ReflectliteValue.elem, loadVar, isAgg, underlying, Tryz.underlying77, ha, Result.andThen, rl_elemOf, rl_mk]
theorem rl_partsA (a : Addr) (w : World) : (ReflectliteValue.parts (.agg #[.pointer (some ⟨7, 45, none⟩), .pointer (some a), .int .u64 386])).run Tryz.prog w = .ok (some (45, a, 386)) w := by kernel_rfl
theorem rl_partsE (a : Addr) (w : World) : (ReflectliteValue.parts (.agg #[.pointer (some ⟨7, 45, none⟩), .pointer (some a), .int .u64 130])).run Tryz.prog w = .ok (some (45, a, 130)) w := by kernel_rfl
theorem rl_direct (w : World) : (Rtype.directlyAssignable 45 45).run Tryz.prog w = .ok true w := by kernel_rfl
theorem rl_set (ta b : Addr) (n : Int) (old : Value) (W : World) (hb : W.cell? b = some (.int .i64 n)) (ht : W.cell? ta = some old) (hf : W.frozen? ta = false) :
    (ReflectliteValue.set #[.agg #[.pointer (some ⟨7, 45, none⟩), .pointer (some ta), .int .u64 386], .agg #[.pointer (some ⟨7, 45, none⟩), .pointer (some b), .int .u64 130]]).run Tryz.prog W
      = .ok (.tuple #[]) (W.setCell ta (.int .i64 n)) := by
  refine Eq.trans (congrArg (fun s : Sem Value => s.run Tryz.prog W) (show ReflectliteValue.set #[.agg #[.pointer (some ⟨7, 45, none⟩), .pointer (some ta), .int .u64 386], .agg #[.pointer (some ⟨7, 45, none⟩), .pointer (some b), .int .u64 130]] = (ReflectliteValue.parts (.agg #[.pointer (some ⟨7, 45, none⟩), .pointer (some ta), .int .u64 386]) >>= fun p => ReflectliteValue.parts (.agg #[.pointer (some ⟨7, 45, none⟩), .pointer (some b), .int .u64 130]) >>= fun q => _) from rfl)) ?_
  simp only [Sem.run_bind, rl_partsA, rl_partsE, Result.andThen]
  simp [ReflectliteValue.flagAddr, loadVar, isAgg, underlying, Tryz.underlying45, hb, Result.andThen, rl_direct, storeVar, Value.cells, storeCells, Addr.add]
  rw [run_store Tryz.prog W ta _ _ (by rfl)]
  simp [ht, hf]
end Go.Proofs.YtadgeapgoggljaaGreatDoor
/- errors.As at a *Errno, walked; Tell. -/
namespace Go.Proofs.YtadgeapgoggljaaGreatDoor
open Go.RowKit Go.Extern.Stop Go.Stop Go.Extern

theorem me_Kind (h : Value) (w : World) : (Go.method 244 171 (.agg #[h]) "Kind").run Tryz.prog w = .ok (148, h) w := by kernel_rfl
theorem me_Elem (h : Value) (w : World) : (Go.method 244 171 (.agg #[h]) "Elem").run Tryz.prog w = .ok (167, .agg #[h]) w := by kernel_rfl
theorem me_Impl (h : Value) (w : World) : (Go.method 244 171 (.agg #[h]) "Implements").run Tryz.prog w = .ok (168, .agg #[h]) w := by kernel_rfl
theorem me_Assign (h : Value) (w : World) : (Go.method 244 171 (.agg #[h]) "AssignableTo").run Tryz.prog w = .ok (165, .agg #[h]) w := by kernel_rfl
set_option maxRecDepth 100000 in
set_option maxHeartbeats 4000000 in
theorem as_en (n : Int) (t : Addr) (old : Value) (w : World) (hg : w.cell? ⟨0, 0, none⟩ = some (.iface 171 (.agg #[.pointer (some ⟨7, 40, none⟩)]))) (ht0 : w.cell? t = some old) (hf0 : w.frozen? t = false) :
    Calls Tryz.prog 33 #[.iface 45 (.int .i64 n), .iface 77 (.pointer (some t))] w fun ev w' => ev = .returned (.bool true) ∧ w' = ((((w.alloc (.cells #[.pointer (some t)] 77)).alloc (.cells #[.pointer (some ⟨7, 77, none⟩), .pointer (some ⟨w.heap.size, 0, none⟩), .int .u64 150] 130)).alloc (.cells #[.pointer (some ⟨7, 77, none⟩), .pointer (some ⟨w.heap.size, 0, none⟩), .int .u64 150] 130)).alloc (.cells #[.int .i64 n] 45)).setCell t (.int .i64 n) := by
  have h6 := @run_callFunc_extern Tryz.prog 69 _ (fun args => ReflectliteValue.unpack (args.getD 0 (.tuple #[]))) Tryz.func69 (by kernel_rfl) (by kernel_rfl) (by kernel_rfl) (by kernel_rfl)
  have h7 := @run_callFunc_extern Tryz.prog 70 _ (ReflectliteValue.methodAny (ReflectliteValue.valueError "reflectlite.Value.Type" 0) (fun t _ _ _ => ReflectliteType.toType t)) Tryz.func70 (by kernel_rfl) (by kernel_rfl) (by kernel_rfl) (by kernel_rfl)
  have h8 := @run_callFunc_extern Tryz.prog 71 _ (ReflectliteValue.method (ReflectliteValue.valueError "reflectlite.Value.IsNil" 0) ReflectliteValue.isNil) Tryz.func71 (by kernel_rfl) (by kernel_rfl) (by kernel_rfl) (by kernel_rfl)
  have h27 := @run_callFunc_extern Tryz.prog 148 _ (ReflectliteType.abiMethod fun t => do pure (.int .u8 (← Rtype.kind t))) Tryz.func148 (by kernel_rfl) (by kernel_rfl) (by kernel_rfl) (by kernel_rfl)
  have h37 := @run_callFunc_extern Tryz.prog 167 _ (ReflectliteType.method ReflectliteType.elem) Tryz.func167 (by kernel_rfl) (by kernel_rfl) (by kernel_rfl) (by kernel_rfl)
  have h38 := @run_callFunc_extern Tryz.prog 168 _ (ReflectliteType.relation "Implements" ReflectliteType.implements_) Tryz.func168 (by kernel_rfl) (by kernel_rfl) (by kernel_rfl) (by kernel_rfl)
  have h10 := @run_callFunc_extern Tryz.prog 95 _ ReflectliteType.typeOf Tryz.func95 (by kernel_rfl) (by kernel_rfl) (by kernel_rfl) (by kernel_rfl)
  have h35 := @run_callFunc_extern Tryz.prog 165 _ (ReflectliteType.relation "AssignableTo" ReflectliteType.assignableTo) Tryz.func165 (by kernel_rfl) (by kernel_rfl) (by kernel_rfl) (by kernel_rfl)
  have h11 := @run_callFunc_extern Tryz.prog 96 _ (ReflectliteValue.method (ReflectliteValue.valueError "reflectlite.Value.Elem" 0) ReflectliteValue.elem) Tryz.func96 (by kernel_rfl) (by kernel_rfl) (by kernel_rfl) (by kernel_rfl)
  have h12 := @run_callFunc_extern Tryz.prog 97 _ ReflectliteValue.set Tryz.func97 (by kernel_rfl) (by kernel_rfl) (by kernel_rfl) (by kernel_rfl)
  have tO := rl_typeOfE
  have mA := me_Assign
  have a25 := rl_assignE
  have v25 := rl_valueE
  have f6 := rl_valueP
  have f7 := rl_typeP
  have mK := me_Kind
  have mE := me_Elem
  have mI := me_Impl
  have k27 := rl_kindP
  have k25 := rl_kindE
  have e27 := rl_elem
  have i25 := rl_implements
  have n8 := rl_isNil ⟨w.heap.size, 0, none⟩ t ((w.alloc (.cells #[.pointer (some t)] 77)).alloc (.cells #[.pointer (some ⟨7, 77, none⟩), .pointer (some ⟨w.heap.size, 0, none⟩), .int .u64 150] 130)) (by simp)
  have hlt : 0 < w.heap.size := lt_of_cell hg
  have hg2 : ((w.alloc (.cells #[.pointer (some t)] 77)).alloc (.cells #[.pointer (some ⟨7, 77, none⟩), .pointer (some ⟨w.heap.size, 0, none⟩), .int .u64 150] 130)).cell? ⟨0, 0, none⟩ = some (.iface 171 (.agg #[.pointer (some ⟨7, 40, none⟩)])) := by
    rw [World.cell?_alloc_lt _ _ ⟨0, 0, none⟩ (by simp <;> omega), World.cell?_alloc_lt _ _ ⟨0, 0, none⟩ hlt]; exact hg
  have htl : t.block < w.heap.size := World.block_lt_of_cell? _ _ ht0
  have el := rl_elemV ⟨w.heap.size, 0, none⟩ t (((w.alloc (.cells #[.pointer (some t)] 77)).alloc (.cells #[.pointer (some ⟨7, 77, none⟩), .pointer (some ⟨w.heap.size, 0, none⟩), .int .u64 150] 130)).alloc (.cells #[.pointer (some ⟨7, 77, none⟩), .pointer (some ⟨w.heap.size, 0, none⟩), .int .u64 150] 130)) (by rw [World.cell?_alloc_lt _ _ ⟨w.heap.size, 0, none⟩ (by simp; omega)]; simp)
  have st := rl_set t ⟨w.heap.size + 1 + 1 + 1, 0, none⟩ n old ((((w.alloc (.cells #[.pointer (some t)] 77)).alloc (.cells #[.pointer (some ⟨7, 77, none⟩), .pointer (some ⟨w.heap.size, 0, none⟩), .int .u64 150] 130)).alloc (.cells #[.pointer (some ⟨7, 77, none⟩), .pointer (some ⟨w.heap.size, 0, none⟩), .int .u64 150] 130)).alloc (.cells #[.int .i64 n] 45))
    (by rw [World.cell?_alloc_at _ _ _ _ (by simp)]; rfl)
    (by rw [World.cell?_alloc_lt _ _ t (by simp; omega), World.cell?_alloc_lt _ _ t (by simp; omega), World.cell?_alloc_lt _ _ t (by simp; omega), World.cell?_alloc_lt _ _ t htl]; exact ht0)
    (by rw [World.frozen?_alloc_old _ _ t (by simp; omega), World.frozen?_alloc_old _ _ t (by simp; omega), World.frozen?_alloc_old _ _ t (by simp; omega), World.frozen?_alloc_old _ _ t (Nat.ne_of_lt htl)]; exact hf0)
  go_enter Tryz.func33, Tryz.ntmps33
  go_wp2
  refine wp_loop_rounds 1 ?_
  rw [rounds_succ]
  go_wp2
  go_ret
  exact ⟨rfl, rfl⟩
/- Tell of what Check told -/
theorem ext_four (w : World) (t : Addr) (o1 o2 o3 o4 : Obj) (v : Value) : Ext t.block w (((((w.alloc o1).alloc o2).alloc o3).alloc o4).setCell t v) := by
  have h : Below w.heap.size w ((((w.alloc o1).alloc o2).alloc o3).alloc o4) := ((((Below.refl _ _).alloc (Nat.le_refl _) _).alloc (by simp) _).alloc (by simp; omega) _).alloc (by simp; omega) _
  refine ⟨h.os, h.tape, h.output, by simpa using h.size, fun k hk hb => ?_⟩
  rw [Below.heap_setCell _ _ _ _ hb]
  exact h.block k hk
set_option maxRecDepth 100000 in
set_option maxHeartbeats 1000000 in
theorem tell_en (n : Int) (w : World) (hg : w.cell? ⟨0, 0, none⟩ = some (.iface 171 (.agg #[.pointer (some ⟨7, 40, none⟩)]))) :
    Calls Tryz.prog 15 #[.iface 45 (.int .i64 n)] w fun e w' => e = .returned (.int .i64 n) ∧ Below w.heap.size w w' := by
  obtain ⟨w0, hw0⟩ : ∃ w0, w0 = w.alloc (.cells #[.int .i64 0] 45) := ⟨_, rfl⟩
  have hb0 : Below w.heap.size w w0 := by rw [hw0]; exact (Below.refl _ _).alloc (Nat.le_refl _) _
  have hk0 : w0.heap[w.heap.size]? = some (.cells #[.int .i64 0] 45 (0, 0)) := by rw [hw0]; exact new_blk _ _
  have hg0 : w0.cell? ⟨0, 0, none⟩ = some (.iface 171 (.agg #[.pointer (some ⟨7, 40, none⟩)])) := by rw [hw0]; exact cell_alloc' hg _
  have HA := Lib.hid (as_en n ⟨w.heap.size, 0, none⟩ (.int .i64 0) w0 hg0 ((cell_blk hk0).trans rfl) (frozen_blk hk0))
  have HB0 := Lib.hid hb0
  have HK0 := Lib.hid hk0
  clear hb0 hk0 hg0 hg
  go_enter Tryz.func15, Tryz.ntmps15
  go_upto_region 4 with fail
  rw [← hw0]
  clear hw0
  go_wp2_with fail
  refine HA.out.mono ?_
  rintro e w3 ⟨rfl, hw3⟩
  have hx : Ext w.heap.size w0 w3 := by rw [hw3]; exact ext_four w0 ⟨w.heap.size, 0, none⟩ _ _ _ _ _
  have hc : w3.cell? ⟨w.heap.size, 0, none⟩ = some (.int .i64 n) := by
    rw [hw3]
    exact World.cell?_setCell_same _ _ _ (cell_alloc' (cell_alloc' (cell_alloc' (cell_alloc' ((cell_blk HK0.out).trans rfl) _) _) _) _)
  have HB3 : Hid (Below w.heap.size w w3) := HB0.out.trans (ext_below hx (Nat.le_refl _) HB0.out.size)
  have hl3 : w.heap.size < w3.heap.size := lt_of_cell hc
  clear hw3 hx
  go_wp2_with fail
  go_ret
  exact ⟨rfl, HB3.out⟩
end Go.Proofs.YtadgeapgoggljaaGreatDoor
/- What the program reads of its variables; texts that a slice holds. -/
namespace Go.Proofs.YtadgeapgoggljaaGreatDoor
open Go.RowKit
open Tp (Bs Sy X S G Pr)

def ErT (w : World) : Prop := w.cell? ⟨0, 0, none⟩ = some (.iface 171 (.agg #[.pointer (some ⟨7, 40, none⟩)]))
theorem ErT.below {w w' : World} {B : Nat} (h : ErT w) (k : Below B w w') (hB : 0 < B) : ErT w' := (k.cell (p := ⟨0, 0, none⟩) hB).trans h
/- what the program reads of its variables -/
structure VarsC (B : Nat) (w : World) : Prop where
  mks : Mk w
  lv : Lv w
  et : ErT w
  m : 1 < B
  l : 4 < B
  e : 0 < B
theorem VarsC.on {B : Nat} {w w' : World} (h : VarsC B w) (k : Below B w w') : VarsC B w' := ⟨h.mks.below k h.m, h.lv.below k h.l, h.et.below k h.e, h.m, h.l, h.e⟩
theorem VarsC.on' {B : Nat} {w w' : World} (h : VarsC B w) (hB : B ≤ w.heap.size) (k : Below w.heap.size w w') : VarsC B w' := h.on (k.mono hB)
/- texts that a slice holds -/
structure StrsAt (w : World) (ns : List (List UInt8)) (a : Option Addr) : Prop where
  c : ∀ i (h : i < ns.length), ∃ b o, a = some ⟨b, o, none⟩ ∧ b < w.heap.size ∧ w.cell? ⟨b, o + i, none⟩ = some (.string (bs ns[i]))
theorem StrsAt.on {w w' : World} {ns : List (List UInt8)} {a : Option Addr} (h : StrsAt w ns a) (k : Below w.heap.size w w') : StrsAt w' ns a :=
  ⟨fun i hi => by obtain ⟨b, o, h1, h2, h3⟩ := h.c i hi; exact ⟨b, o, h1, Nat.lt_of_lt_of_le h2 k.size, (k.cell (p := ⟨b, o + i, none⟩) h2).trans h3⟩⟩
end Go.Proofs.YtadgeapgoggljaaGreatDoor
/- keep: texts are few, and short: short. -/
namespace Go.Proofs.YtadgeapgoggljaaGreatDoor
open Go.RowKit
open Tp (Bs Sy)

set_option maxRecDepth 100000 in
theorem long_post (n : List UInt8) (w : World) : Calls Tryz.prog 12 #[.string (bs n)] w fun e w' => e = .returned (.bool (decide (900 < n.length))) ∧ w' = w := by
  by_cases h : 900 < n.length
  · have hs : (900 : Int) < ((bs n).size : Int) := by rw [bs_size]; omega
    rw [decide_eq_true h]
    go_enter Tryz.func12, Tryz.ntmps12
    go_wp2_with fail
    go_ret
    exact ⟨by first | rfl | simp [hs], rfl⟩
  · have hs : ¬ (900 : Int) < ((bs n).size : Int) := by rw [bs_size]; omega
    rw [decide_eq_false h]
    go_enter Tryz.func12, Tryz.ntmps12
    go_wp2_with fail
    go_ret
    exact ⟨by first | rfl | (simp; omega), rfl⟩
set_option maxRecDepth 100000 in
set_option maxHeartbeats 1000000 in
theorem indexS_post {w : World} {ns : List (List UInt8)} {na : Option Addr} {nc : Nat} (hns : StrsAt w ns na) (hnn : ns.length ≤ 1000) :
    Calls Tryz.prog 24 #[.slice na ns.length nc, .func (.func 12) #[] #[]] w fun e w' => (∃ k : Int, e = .returned (.int .i64 k) ∧ ((0 ≤ k ∧ k ≤ 1000) ∨ k = -1 ∧ ∀ n ∈ ns, n.length ≤ 900)) ∧ w' = w := by
  have hnn' : (ns.length : Int) ≤ 1000 := by omega
  have HNS := Lib.hid hns
  obtain ⟨nn, hnq⟩ : ∃ nn, nn = ns.length := ⟨_, rfl⟩
  rw [← hnq] at hnn' ⊢
  have HNQ := Lib.hid hnq
  clear hns hnq
  go_enter Tryz.func24, Tryz.ntmps24
  go_wp2_with fail
  go_loopg [8] nn (fun k vi wr => ∃ i : Nat, i ≤ nn ∧ k = nn - i ∧ vi = .int .i64 (i : Int) ∧ Hid (∀ k (hk : k < ns.length), k < i → ns[k].length ≤ 900) ∧ wr = w)
  case atStart => exact ⟨0, by omega, by omega, rfl, fun k _ hk => by omega, rfl⟩
  case round =>
    obtain ⟨i, hid, hk, rfl, HI, rfl⟩ := hrel
    by_cases hlt : i < nn
    · have hlt' : (i : Int) < (nn : Int) := by omega
      have hia : i < ns.length := by have := HNQ.out; omega
      obtain ⟨b, o, rfl, hbl, hcell⟩ := HNS.out.c i hia
      have HF := Lib.hid (long_post ns[i] wr)
      have HNX : Hid (¬ 900 < ns[i].length → ∀ k (hk : k < ns.length), k < i + 1 → ns[k].length ≤ 900) := by
        intro hne k hk hlt
        by_cases e : k = i
        · subst e; omega
        · exact HI.out k hk (by omega)
      generalize ns[i] = x at *
      go_wp2_with fail
      refine HF.out.mono ?_
      rintro e w3 ⟨rfl, rfl⟩
      by_cases hx : 900 < x.length
      · rw [decide_eq_true hx]
        go_wp2_with fail
        go_ret
        exact ⟨⟨(i : Int), rfl, Or.inl ⟨by omega, by omega⟩⟩, rfl⟩
      · rw [decide_eq_false hx]
        have HI3 := Lib.hid (HNX.out hx)
        go_wp2_with fail
        go_roundg (nn - (i + 1))
        case measure => omega
        case rel => exact ⟨i + 1, by omega, rfl, by go_num, HI3, rfl⟩
    · have hlt' : ¬ (i : Int) < (nn : Int) := by omega
      have hall : ∀ n ∈ ns, n.length ≤ 900 := by
        intro n hn
        obtain ⟨k, hk, rfl⟩ := List.getElem_of_mem hn
        exact HI.out k hk (by have := HNQ.out; omega)
      go_wp2_with fail
      go_ret
      exact ⟨⟨-1, rfl, Or.inr ⟨rfl, hall⟩⟩, rfl⟩
set_option maxRecDepth 100000 in
theorem contF_post {w : World} {ns : List (List UInt8)} {na : Option Addr} {nc : Nat} (hns : StrsAt w ns na) (hnn : ns.length ≤ 1000) :
    Calls Tryz.prog 11 #[.slice na ns.length nc, .func (.func 12) #[] #[]] w fun e w' => (e = .returned (.bool true) ∨ e = .returned (.bool false) ∧ ∀ n ∈ ns, n.length ≤ 900) ∧ w' = w := by
  have HC := Lib.hid (indexS_post (nc := nc) hns hnn)
  clear hns
  generalize ns.length = nn at *
  go_enter Tryz.func11, Tryz.ntmps11
  go_wp2_with fail
  refine HC.out.mono ?_
  rintro e w1 ⟨⟨k, rfl, hk⟩, rfl⟩
  rcases hk with ⟨h1, h2⟩ | ⟨rfl, h2⟩
  · go_wp2_with fail
    go_ret
    exact ⟨Or.inl (by first | rfl | simp [h1]), rfl⟩
  · have H2 := Lib.hid h2
    go_wp2_with fail
    go_ret
    exact ⟨Or.inr ⟨rfl, H2.out⟩, rfl⟩
set_option maxRecDepth 100000 in
set_option maxHeartbeats 400000 in
theorem short_post {w : World} {ns : List (List UInt8)} {na : Option Addr} {nc : Nat} (hns : StrsAt w ns na) :
    Calls Tryz.prog 4 #[.slice na ns.length nc] w fun e w' => (e = .returned (.bool false) ∨ e = .returned (.bool true) ∧ ns.length ≤ 5 ∧ ∀ n ∈ ns, n.length ≤ 900) ∧ w' = w := by
  by_cases h5 : ns.length ≤ 5
  · have h5' : (ns.length : Int) ≤ 5 := by omega
    have HC := Lib.hid (contF_post (nc := nc) hns (by omega))
    have H5 := Lib.hid h5
    clear hns h5
    obtain ⟨nn, hnq⟩ : ∃ nn, nn = ns.length := ⟨_, rfl⟩
    rw [← hnq] at h5' HC ⊢
    have HNQ := Lib.hid hnq
    clear hnq
    go_enter Tryz.func4, Tryz.ntmps4
    go_wp2_with fail
    refine HC.out.mono ?_
    rintro e w1 ⟨hk, rfl⟩
    rcases hk with rfl | ⟨rfl, hall⟩
    · go_wp2_with fail
      go_ret
      exact ⟨Or.inl rfl, rfl⟩
    · have HALL := Lib.hid hall
      clear hall
      go_wp2_with fail
      go_ret
      exact ⟨Or.inr ⟨rfl, by rw [HNQ.out]; exact H5.out, HALL.out⟩, rfl⟩
  · have h5' : ¬ (ns.length : Int) ≤ 5 := by omega
    clear h5 hns
    generalize ns.length = nn at *
    go_enter Tryz.func4, Tryz.ntmps4
    go_wp2_with fail
    go_ret
    exact ⟨Or.inl rfl, rfl⟩
end Go.Proofs.YtadgeapgoggljaaGreatDoor
/- Sorting Syms. -/
namespace Go.Proofs.YtadgeapgoggljaaGreatDoor
open Go.RowKit Go.Sort
open Tp (Sy)

def encSy (s : Sy) : List Value := [.string (bs s.1), .int .i64 (s.2.1 : Int), .int .i64 s.2.2]
def sycs (l : List Sy) : List Value := (l.map encSy).flatten
def cfS (x y : Sy) : Int := Lib.compareBytes x.1 y.1
def insS (l : List Sy) (a b : Nat) : List Sy := (Sort.insertionSort (ltOf cfS) l.toArray a b).toList
def srt (l : List Sy) : List Sy := insS l 0 l.length
theorem sycs_cons (s : Sy) (l : List Sy) : sycs (s :: l) = encSy s ++ sycs l := rfl
theorem sycs_app (l m : List Sy) : sycs (l ++ m) = sycs l ++ sycs m := by simp [sycs]
theorem sycs_len (l : List Sy) : (sycs l).length = l.length * 3 := by
  induction l with
  | nil => rfl
  | cons s l ih => rw [sycs_cons, List.length_append, ih]; simp [encSy]; omega
theorem sycs_get : ∀ (l : List Sy) (i : Nat) (h : i < l.length) (j : Nat), j < 3 → (sycs l)[i * 3 + j]? = (encSy l[i])[j]? := by
  intro l
  induction l with
  | nil => intro i h; simp at h
  | cons s l ih =>
    intro i h j hj
    rw [sycs_cons]
    cases i with
    | zero => rw [Nat.zero_mul, Nat.zero_add, List.getElem?_append_left (by simpa [encSy] using hj)]; rfl
    | succ i =>
      rw [List.getElem?_append_right (by simp [encSy]; omega)]
      have : (i + 1) * 3 + j - (encSy s).length = i * 3 + j := by simp [encSy]; omega
      rw [this, ih i (by simpa using h) j hj]
      rfl
theorem flat_sycs (d : Array Sy) : (flatK encSy 3 d).toList = sycs d.toList := by
  apply List.ext_getElem?
  intro t
  by_cases ht : t < d.size * 3
  · have hi : t / 3 < d.size := by omega
    have hj : t % 3 < 3 := Nat.mod_lt _ (by omega)
    have e : t = (t / 3) * 3 + t % 3 := by omega
    have h1 := sycs_get d.toList (t / 3) (by simpa using hi) (t % 3) hj
    rw [← e] at h1
    rw [h1, Array.getElem?_toList]
    rw [flatK]
    rw [Array.getElem?_map, Array.getElem?_range]
    simp only [ht, if_true, Option.map_some]
    rw [getElem!_pos d (t / 3) hi]
    rw [List.getElem?_eq_getElem (by simp [encSy]; omega), getElem!_pos _ _ (by simp [encSy]; omega)]
    simp
  · rw [List.getElem?_eq_none (by simp; omega), List.getElem?_eq_none (by rw [sycs_len]; simp; omega)]
/- a row of Syms in block g -/
structure SyRow (w : World) (g : Nat) (cap : Nat) (l : List Sy) : Prop where
  b : ∃ cur, w.heap[g]? = some (.cells cur 140 (0, 0)) ∧ cur.size = cap * 3 ∧ cur.toList.take (l.length * 3) = sycs l
  n : l.length ≤ cap
  m : cap ≤ maxLen
theorem SyRow.holds {w : World} {g cap : Nat} {l : List Sy} (h : SyRow w g cap l) : HoldsK encSy 3 w g 0 l.toArray := by
  obtain ⟨cur, h1, h2, h3⟩ := h.b
  intro j hj
  have hj' : j < l.length * 3 := by simpa using hj
  refine ⟨?_, frozen_blk h1⟩
  rw [cell_blk h1, Nat.zero_add, ← Array.getElem?_toList, ← List.getElem?_take_of_lt hj', h3]
  have e := flat_sycs l.toArray
  have e2 : (sycs l)[j]? = (flatK encSy 3 l.toArray).toList[j]? := by rw [e]
  rw [e2, Array.getElem?_toList, Array.getElem?_eq_getElem hj, getElem!_pos (flatK encSy 3 l.toArray) j hj]
  rfl
theorem SyRow.sorted {w : World} {g cap n : Nat} {l : List Sy} {d : Array Sy} {os : Array Obj} (h : SyRow w g cap l) (hs : d.size = l.length) : SyRow (sortWorldK encSy 3 w g 0 n d os) g cap d.toList ∧ w.grownBy (sortWorldK encSy 3 w g 0 n d os) (some g) := by
  obtain ⟨cur, h1, h2, h3⟩ := h.b
  have hg := lt_blk h1
  have hn := h.n
  have hF : (flatK encSy 3 d).size = d.size * 3 := size_flatK _ _ _
  refine ⟨⟨⟨putCells id 0 (flatK encSy 3 d) cur, ?_, by simp [putCells, h2], ?_⟩, by simpa [hs] using h.n, h.m⟩, ⟨rfl, rfl, rfl, by simp [sortWorldK, putRowK], fun k hk hne => ?_⟩⟩
  · unfold sortWorldK putRowK
    rw [heap_grow_old _ _ (by simpa using hg)]
    simp [putRow, mapBlock, Sort.ahead, Array.getElem?_modify, h1, onCells]
  · rw [← flat_sycs]
    apply List.ext_getElem?
    intro j
    by_cases hj : j < d.toList.length * 3
    · have hjF : j < (flatK encSy 3 d).size := by rw [hF]; simpa using hj
      have hjc : j < cur.size := by rw [h2]; simp at hj; omega
      rw [List.getElem?_take_of_lt hj, Array.getElem?_toList, Array.getElem?_toList, Array.getElem?_eq_getElem hjF]
      simp only [putCells, Array.getElem?_mapIdx, Array.getElem?_eq_getElem hjc, Option.map_some, Nat.zero_le, true_and, Nat.zero_add, if_pos hjF, Nat.sub_zero, id]
      rw [getElem!_pos (flatK encSy 3 d) j hjF]
    · rw [List.getElem?_take_eq_none (by omega), List.getElem?_eq_none (by simp at hj ⊢; omega)]
  · unfold sortWorldK putRowK
    rw [heap_grow_old _ _ (by simpa using hk)]
    have : g ≠ k := fun e => hne (by rw [e])
    simp [putRow, mapBlock, Sort.ahead, Array.getElem?_modify, this]
set_option maxHeartbeats 1000000 in
theorem ofCmp_post (x y : Sy) (W : World) : Calls Tryz.prog 74 #[.agg (encSy x).toArray, .agg (encSy y).toArray] W fun e w' => e = .returned (.int .i64 (cfS x y)) ∧ ∃ q os', w' = grow (W.drewN q) os' := by
  have hcon : ∀ W, Calls Tryz.prog 75 #[.string (bs x.1), .string (bs y.1)] W fun e w' => e = .returned (.int .i64 (cfS x y)) ∧ w' = W := by
    intro W
    have := Any.strings_Compare Tryz.laysCmp (bs x.1) (bs y.1) W
    rw [bs_back, bs_back] at this
    exact this
  generalize cfS x y = r at hcon ⊢
  have HC := Lib.hid hcon
  clear hcon
  unfold encSy
  go_enter Tryz.func74, Tryz.ntmps74
  go_wp2_with (go_at_call 75; refine (HC.out _).mono ?_; rintro e w' ⟨rfl, rfl⟩)
  go_ret
  exact ⟨rfl, 0, _, by rw [alloc_eq_grow, alloc_eq_grow, grow_grow]; rfl⟩
end Go.Proofs.YtadgeapgoggljaaGreatDoor
/- Sorting Syms: insertionSortCmpFunc, stableCmpFunc, SortStableFunc. -/
namespace Go.Proofs.YtadgeapgoggljaaGreatDoor
open Go.RowKit Go.Sort
open Tp (Sy)

theorem insInner_size {lt : Sy → Sy → Bool} (a : Nat) : ∀ (j : Nat) (d : Array Sy), (Sort.insInner lt a j d).size = d.size := by
  intro j
  induction j with
  | zero => intro d; rfl
  | succ j ih =>
    intro d
    rw [Sort.insInner]
    split
    · rw [ih]; simp [swp]
    · rfl
theorem insOuter_size {lt : Sy → Sy → Bool} (a b : Nat) : ∀ (k i : Nat) (d : Array Sy), b - i = k → (Sort.insOuter lt a b i d).size = d.size := by
  intro k
  induction k with
  | zero => intro i d h; rw [Sort.insOuter, if_neg (by omega)]
  | succ k ih =>
    intro i d h
    rw [Sort.insOuter]
    split
    · rw [ih (i + 1) _ (by omega), insInner_size]
    · rfl
theorem insS_len (l : List Sy) (a b : Nat) : (insS l a b).length = l.length := by
  unfold insS Sort.insertionSort
  rw [Array.length_toList, insOuter_size a b _ _ _ rfl]
  simp
theorem insS_none (l : List Sy) (a : Nat) : insS l a a = l := by
  unfold insS Sort.insertionSort
  rw [Sort.insOuter, if_neg (by omega)]
theorem srt_len (l : List Sy) : (srt l).length = l.length := insS_len _ _ _
theorem cmpLays (blk off size : Nat) (w : World) : CmpLays Tryz.prog 74 #[] encSy 3 cfS blk off size w := fun _ _ _ _ x y => ofCmp_post x y _
def fnCmp : Value := .func (.func 74) #[] #[]
theorem ins_post {w : World} {g cap : Nat} {l : List Sy} (h : SyRow w g cap l) (a b : Nat) (hab : a ≤ b) (hb : b ≤ l.length) (hsz : l.length ≤ 1000) :
    Calls Tryz.prog 110 #[.slice (some ⟨g, 0, none⟩) l.length cap, .int .i64 (a : Int), .int .i64 (b : Int), fnCmp] w fun e w' => e = .returned (.tuple #[]) ∧ SyRow w' g cap (insS l a b) ∧ w.grownBy w' (some g) := by
  have eg : ∀ args w, (callFunc 74 args).run Tryz.prog w = .ok (.enter 74 args) w := enters_of Tryz.func74 (by kernel_rfl) rfl
  have hg : g < w.heap.size := by obtain ⟨cur, h1, _⟩ := h.b; exact lt_blk h1
  have hc := AnyQ.insertionSortCmpFunc Tryz.laysIns 3 Tryz.isAgg140 Tryz.sizeOf140 encSy (fun _ => rfl) (fun x v hv => by simp [encSy] at hv; rcases hv with rfl | rfl | rfl <;> rfl) cfS 74 #[] g 0 cap a b l.toArray w eg (cmpLays _ _ _ _) h.holds hg hab (by simpa using hb) (by simp; omega)
  have e : (l.toArray).size = l.length := by simp
  rw [e] at hc
  refine hc.mono ?_
  rintro e w' ⟨rfl, n, os, rfl⟩
  have hs := h.sorted (d := Sort.insertionSort (ltOf cfS) l.toArray a b) (n := n) (os := os) (by rw [← Array.length_toList]; exact insS_len l a b)
  exact ⟨rfl, hs.1, hs.2⟩
set_option maxRecDepth 100000 in
set_option maxHeartbeats 1000000 in
theorem stable_small {w : World} {g cap : Nat} {l : List Sy} (h : SyRow w g cap l) (hn : l.length < 20) :
    Calls Tryz.prog 98 #[.slice (some ⟨g, 0, none⟩) l.length cap, .int .i64 (l.length : Int), fnCmp] w fun e w' => e = .returned (.tuple #[]) ∧ SyRow w' g cap (srt l) ∧ w.grownBy w' (some g) := by
  have hc := ins_post h 0 l.length (by omega) (Nat.le_refl _) (by omega)
  have HC : Hid (Calls Tryz.prog 110 #[.slice (some ⟨g, 0, none⟩) l.length cap, .int .i64 0, .int .i64 (l.length : Int), fnCmp] w fun e w' => e = .returned (.tuple #[]) ∧ SyRow w' g cap (srt l) ∧ w.grownBy w' (some g)) := hc
  have hn' : (l.length : Int) < 20 := by omega
  clear hc h
  generalize l.length = n at *
  unfold fnCmp at HC ⊢
  go_enter Tryz.func98, Tryz.ntmps98
  go_wp2_with fail
  refine wp_loop_rounds 1 ?_
  rw [rounds_succ]
  go_wp2_with fail
  refine HC.out.mono ?_
  rintro e w1 ⟨rfl, h1⟩
  have H1 := Lib.hid h1
  clear h1
  go_wp2_with fail
  refine wp_loop_rounds 1 ?_
  rw [rounds_succ]
  go_wp2_with fail
  go_end0
  exact ⟨rfl, H1.out⟩
end Go.Proofs.YtadgeapgoggljaaGreatDoor
/- Sorting Syms: SortStableFunc, all. -/
namespace Go.Proofs.YtadgeapgoggljaaGreatDoor
open Go.RowKit Go.Sort
open Tp (Sy)

set_option maxRecDepth 100000 in
set_option maxHeartbeats 1000000 in
theorem stable_20 {w : World} {g cap : Nat} {l : List Sy} (h : SyRow w g cap l) (hn : l.length = 20) :
    Calls Tryz.prog 98 #[.slice (some ⟨g, 0, none⟩) 20 cap, .int .i64 20, fnCmp] w fun e w' => e = .returned (.tuple #[]) ∧ SyRow w' g cap (srt l) ∧ w.grownBy w' (some g) := by
  have hc := ins_post h 0 20 (by omega) (by omega) (by omega)
  have e0 : insS l 0 20 = srt l := by unfold srt; rw [hn]
  rw [hn, e0] at hc
  have HC : Hid (Calls Tryz.prog 110 #[.slice (some ⟨g, 0, none⟩) 20 cap, .int .i64 0, .int .i64 20, fnCmp] w fun e w' => e = .returned (.tuple #[]) ∧ SyRow w' g cap (srt l) ∧ w.grownBy w' (some g)) := hc
  have hc2 : ∀ W, SyRow W g cap (srt l) → Calls Tryz.prog 110 #[.slice (some ⟨g, 0, none⟩) 20 cap, .int .i64 20, .int .i64 20, fnCmp] W fun e w' => e = .returned (.tuple #[]) ∧ SyRow w' g cap (srt l) ∧ W.grownBy w' (some g) := by
    intro W hW
    have := ins_post hW 20 20 (by omega) (by rw [srt_len]; omega) (by rw [srt_len]; omega)
    rw [insS_none, srt_len, hn] at this
    exact this
  have HC2 := Lib.hid hc2
  clear hc hc2 h
  unfold fnCmp at HC HC2 ⊢
  go_enter Tryz.func98, Tryz.ntmps98
  go_wp2_with fail
  refine wp_loop_rounds 2 ?_
  rw [rounds_succ]
  go_wp2_with fail
  refine HC.out.mono ?_
  rintro e w1 ⟨rfl, h1, h1g⟩
  have H1 := Lib.hid h1
  have G1 := Lib.hid h1g
  clear h1 h1g
  go_wp2_with fail
  rw [rounds_succ]
  go_wp2_with fail
  refine (HC2.out w1 H1.out).mono ?_
  rintro e w2 ⟨rfl, h2, h2g⟩
  have H2 := Lib.hid h2
  have G2 := Lib.hid (G1.out.trans h2g)
  clear h2 h2g
  go_wp2_with fail
  refine wp_loop_rounds 1 ?_
  rw [rounds_succ]
  go_wp2_with fail
  go_end0
  exact ⟨rfl, H2.out, G2.out⟩
set_option maxRecDepth 100000 in
theorem ins_nil (w : World) : Calls Tryz.prog 110 #[.slice none 0 0, .int .i64 0, .int .i64 0, fnCmp] w fun e w' => e = .returned (.tuple #[]) ∧ w' = w := by
  unfold fnCmp
  go_enter Tryz.func110, Tryz.ntmps110
  go_wp2_with fail
  refine wp_loop_rounds 1 ?_
  rw [rounds_succ]
  go_wp2_with fail
  go_end0
  exact ⟨rfl, rfl⟩
set_option maxRecDepth 100000 in
theorem stable_nil (w : World) : Calls Tryz.prog 98 #[.slice none 0 0, .int .i64 0, fnCmp] w fun e w' => e = .returned (.tuple #[]) ∧ w' = w := by
  have HC := Lib.hid (ins_nil w)
  unfold fnCmp at HC ⊢
  go_enter Tryz.func98, Tryz.ntmps98
  go_wp2_with fail
  refine wp_loop_rounds 1 ?_
  rw [rounds_succ]
  go_wp2_with fail
  refine HC.out.mono ?_
  rintro e w1 ⟨rfl, rfl⟩
  go_wp2_with fail
  refine wp_loop_rounds 1 ?_
  rw [rounds_succ]
  go_wp2_with fail
  go_end0
  exact ⟨rfl, rfl⟩
set_option maxRecDepth 100000 in
theorem sort_post {w : World} {g cap : Nat} {l : List Sy} (h : SyRow w g cap l) (hn : l.length ≤ 20) :
    Calls Tryz.prog 73 #[.slice (some ⟨g, 0, none⟩) l.length cap, fnCmp] w fun e w' => e = .returned (.tuple #[]) ∧ SyRow w' g cap (srt l) ∧ w.grownBy w' (some g) := by
  have hc : Calls Tryz.prog 98 #[.slice (some ⟨g, 0, none⟩) l.length cap, .int .i64 (l.length : Int), fnCmp] w fun e w' => e = .returned (.tuple #[]) ∧ SyRow w' g cap (srt l) ∧ w.grownBy w' (some g) := by
    by_cases h20 : l.length < 20
    · exact stable_small h h20
    · have e : l.length = 20 := by omega
      have := stable_20 h e
      rw [e]
      exact this
  have HC := Lib.hid hc
  clear hc h
  generalize l.length = n at *
  unfold fnCmp at HC ⊢
  go_enter Tryz.func73, Tryz.ntmps73
  go_wp2_with fail
  refine HC.out.mono ?_
  rintro e w1 ⟨rfl, h1⟩
  have H1 := Lib.hid h1
  clear h1
  go_wp2_with fail
  go_end0
  exact ⟨rfl, H1.out⟩
set_option maxRecDepth 100000 in
theorem sort_nil (w : World) : Calls Tryz.prog 73 #[.slice none 0 0, fnCmp] w fun e w' => e = .returned (.tuple #[]) ∧ w' = w := by
  have HC := Lib.hid (stable_nil w)
  unfold fnCmp at HC ⊢
  go_enter Tryz.func73, Tryz.ntmps73
  go_wp2_with fail
  refine HC.out.mono ?_
  rintro e w1 ⟨rfl, rfl⟩
  go_wp2_with fail
  go_end0
  exact ⟨rfl, rfl⟩
end Go.Proofs.YtadgeapgoggljaaGreatDoor
/- What others see of a module: Of. -/
namespace Go.Proofs.YtadgeapgoggljaaGreatDoor
open Go.RowKit Go.Sort
open Tp (Sy)

theorem Tryz.infoSym : (Tryz.prog.info? 140).map (fun i => (i.zero, i.size, i.bytes)) = some (some (.agg #[.string ⟨#[]⟩, .int .i64 0, .int .i64 0]), 3, 32) := by kernel_rfl
def AskOG (w : World) (gn : Nat) (ga : Option Addr) (xs : Nat → List Sy) : Prop :=
  ∀ i, i < gn → ∃ (g : Nat) (x0 : List UInt8) (x1 x2 : Nat) (x3 : Bool), ga = some ⟨g, 0, none⟩ ∧ g < w.heap.size ∧ w.cell? ⟨g, i * 4, none⟩ = some (.string (bs x0)) ∧ w.cell? ⟨g, i * 4 + 1, none⟩ = some (.int .i64 (x1 : Int)) ∧ w.cell? ⟨g, i * 4 + 2, none⟩ = some (.int .i64 (x2 : Int)) ∧ w.cell? ⟨g, i * 4 + 3, none⟩ = some (.bool x3) ∧
    xs (i + 1) = xs i ++ (if x3 then [(x0, x2, -1)] else [])
def AskOP (w : World) (pn : Nat) (pa : Option Addr) (xs : Nat → List Sy) : Prop :=
  ∀ i, i < pn → ∃ (g : Nat) (x0 : List UInt8) (x1 : Nat) (x2 : Bool) (y3 y4 y5 : Option Addr) (n3 n4 n5 c3 c4 c5 : Nat), pa = some ⟨g, 0, none⟩ ∧ g < w.heap.size ∧ w.cell? ⟨g, i * 6, none⟩ = some (.string (bs x0)) ∧ w.cell? ⟨g, i * 6 + 1, none⟩ = some (.int .i64 (x1 : Int)) ∧ w.cell? ⟨g, i * 6 + 2, none⟩ = some (.bool x2) ∧ w.cell? ⟨g, i * 6 + 3, none⟩ = some (.slice y3 n3 c3) ∧ w.cell? ⟨g, i * 6 + 4, none⟩ = some (.slice y4 n4 c4) ∧ w.cell? ⟨g, i * 6 + 5, none⟩ = some (.slice y5 n5 c5) ∧
    xs (i + 1) = xs i ++ (if x2 then [(x0, 0, (n3 : Int))] else [])
/- Syms that a slice holds, in blocks from B on -/
def SL (w : World) (B : Nat) (v : Value) (l : List Sy) : Prop := v = .slice none 0 0 ∧ l = [] ∨ ∃ g cap, v = .slice (some ⟨g, 0, none⟩) l.length cap ∧ B ≤ g ∧ SyRow w g cap l
theorem own_syrow {w : World} {base n : Nat} {v : Value} {l : List Sy} (h : w.ownsRow base 140 3 v n (sycs l)) : n = l.length ∧ SL w base v l := by
  have hn : n = l.length := by have := h.1; rw [sycs_len] at this; omega
  refine ⟨hn, ?_⟩
  rcases h.2 with ⟨rfl, h2⟩ | ⟨g, cap, cur, rfl, q1, q2, q3, q4, q5, q6⟩
  · exact Or.inl ⟨rfl, List.eq_nil_of_length_eq_zero (by omega)⟩
  · subst hn
    exact Or.inr ⟨g, cap, rfl, q1, ⟨⟨cur, q2, q5, q6⟩, q3, q4⟩⟩
theorem newsSy (w : World) (o : Obj) (v0 v1 v2 : Value) (t : TypeId) : ∀ (j : Nat) (u : Value), ([v0, v1, v2] : List Value)[j]? = some u → ((w.alloc o).alloc (.cells #[v0, v1, v2] t)).cell? ((⟨w.heap.size + 1, 0, none⟩ : Addr).add j) = some u := by
  intro j u hj
  rw [Addr.add_lit, cell_blk (new_blk1 _ _ _), Nat.zero_add]
  simpa using hj
end Go.Proofs.YtadgeapgoggljaaGreatDoor
/- What others see of a module: Of, walked. -/
namespace Go.Proofs.YtadgeapgoggljaaGreatDoor
open Go.RowKit Go.Sort
open Tp (Sy)

set_option maxRecDepth 100000 in
set_option maxHeartbeats 4000000 in
theorem of_walk {w : World} {nm : List UInt8} {inn gn pn bn ic gc pc bc : Nat} {ia ga pa ba : Option Addr} {mg mp : Nat → List Sy} (hg0 : mg 0 = []) (hG : AskOG w gn ga mg) (hp0 : mp 0 = mg gn) (hP : AskOP w pn pa mp) (hgl : ∀ i, (mg i).length ≤ 1000) (hpl : ∀ i, (mp i).length ≤ 1000) (hlast : (mp pn).length ≤ 20) (hgn : gn ≤ 1000000000) (hpn : pn ≤ 1000000000) :
    Calls Tryz.prog 34 #[.agg #[.string (bs nm), .slice ia inn ic, .slice ga gn gc, .slice pa pn pc, .slice ba bn bc]] w fun e w' => ∃ v, e = .returned v ∧ Below w.heap.size w w' ∧ SL w' w.heap.size v (srt (mp pn)) := by
  obtain ⟨i3, hi3, hz30, hz31, hz32⟩ := info_parts Tryz.infoSym
  have hblk : (w.alloc (.cells #[.string (bs nm), .slice ia inn ic, .slice ga gn gc, .slice pa pn pc, .slice ba bn bc] 38)).heap[w.heap.size]? = some (.cells #[.string (bs nm), .slice ia inn ic, .slice ga gn gc, .slice pa pn pc, .slice ba bn bc] 38 (0, 0)) := new_blk _ _
  obtain ⟨k0, k1, k2, k3, k4⟩ := cell_box5 hblk
  have HG0 := Lib.hid hg0
  have HG := Lib.hid hG
  have HP0 := Lib.hid hp0
  have HP := Lib.hid hP
  have HLA := Lib.hid hlast
  have HGL := Lib.hid hgl
  have HPL := Lib.hid hpl
  have HK := Lib.hid hblk
  have hgn' : (gn : Int) ≤ 1000000000 := by omega
  have hpn' : (pn : Int) ≤ 1000000000 := by omega
  clear hg0 hG hp0 hP hlast hgl hpl hblk k0 k1 k3 k4
  go_enter Tryz.func34, Tryz.ntmps34
  go_wp2_with fail
  go_loopg [3, 11] gn (fun k v vi wr => ∃ i : Nat, i ≤ gn ∧ k = gn - i ∧ vi = .int .i64 (i : Int) ∧ Hid (wr.ownsRow (w.heap.size + 1) 140 3 v (mg i).length (sycs (mg i))) ∧ Hid (Below (w.heap.size + 1) (w.alloc (.cells #[.string (bs nm), .slice ia inn ic, .slice ga gn gc, .slice pa pn pc, .slice ba bn bc] 38)) wr))
  case atStart => exact ⟨0, by omega, by omega, rfl, by unfold Hid; rw [HG0.out]; exact World.ownsRow_nil _ _ _ _, Below.refl _ _⟩
  case round =>
    obtain ⟨i, hid, hk, rfl, HO, HB⟩ := hrel
    have hown := HO.out
    have hml := HGL.out i
    have hsz := HB.out.size
    have hsz1 : (w.alloc (.cells #[.string (bs nm), .slice ia inn ic, .slice ga gn gc, .slice pa pn pc, .slice ba bn bc] 38)).heap.size = w.heap.size + 1 := by simp
    by_cases hlt : i < gn
    · have hlt' : (i : Int) < (gn : Int) := by omega
      obtain ⟨g, x0, x1, x2, x3, hga, hgB, c0, c1', c2, c3, hx⟩ := HG.out i hlt
      subst hga
      have hcell : ∀ (o : Nat) (u : Value), w.cell? ⟨g, o, none⟩ = some u → wr.cell? ⟨g, o, none⟩ = some u := fun o u h => (HB.out.cell (p := ⟨g, o, none⟩) (by simp; omega)).trans (cell_alloc h _)
      have kc0 := hcell _ _ c0
      have kc1 := hcell _ _ c1'
      have kc2 := hcell _ _ c2
      have kc3 := hcell _ _ c3
      have hlgr : g < wr.heap.size := by omega
      obtain ⟨a1, c1, hv⟩ := owns_shape hown
      subst hv
      clear c0 c1' c2 c3 hcell HO
      cases x3 with
      | true =>
        have hownA := (hown.alloc (.cells #[.string (bs x0), .int .i64 (x1 : Int), .int .i64 (x2 : Int), .bool true] 116)).alloc (.cells #[.string (bs x0), .int .i64 (x2 : Int), .int .i64 (-1)] 140)
        go_wp2_with (at_builtin; refine wpList_append_where _ rfl _ _ 53 rfl (w.heap.size + 1) 140 i3 (.agg #[.string ⟨#[]⟩, .int .i64 0, .int .i64 0]) 3 32 Tryz.underlying53 hi3 hz30 hz31 hz32 rfl (by decide) _ _ _ rfl hownA ⟨wr.heap.size + 1, 0, none⟩ 1 1 [.string (bs x0), .int .i64 (x2 : Int), .int .i64 (-1)] rfl rfl (newsSy wr _ _ _ _ _) (by intro u hu; simp at hu; rcases hu with rfl | rfl | rfl <;> rfl) (by unfold maxLen; omega) (by omega) (by simp; omega) ?_)
        intro v3 w3 hown3 hgrow3 _
        have HB3 := Lib.hid ((((HB.out.alloc (by omega) _).alloc (by simp; omega) _)).grown hgrow3 (by simp; omega) (fun k hk => (hownA.lt k hk).1))
        have HO3 : Hid (w3.ownsRow (w.heap.size + 1) 140 3 v3 (mg (i + 1)).length (sycs (mg (i + 1)))) := by
          unfold Hid
          rw [show mg (i + 1) = mg i ++ [(x0, x2, (-1))] by simpa using hx, sycs_app, List.length_append]
          exact hown3
        clear hown3 hgrow3 hownA hown
        go_wp2_with fail
        go_roundg (gn - (i + 1))
        case measure => omega
        case rel => exact ⟨i + 1, by omega, rfl, by go_num, HO3, HB3⟩

      | false =>
        have HB3 : ∀ ob, Below (w.heap.size + 1) _ (wr.alloc ob) := fun ob => HB.out.alloc (by omega) _
        have HO3 : ∀ ob, Hid ((wr.alloc ob).ownsRow (w.heap.size + 1) 140 3 (.slice a1 (mg i).length c1) (mg (i + 1)).length (sycs (mg (i + 1)))) := by
          intro ob
          unfold Hid
          rw [show mg (i + 1) = mg i by simpa using hx]
          exact hown.alloc ob
        have HB3' := Lib.hid HB3
        clear hown HB3
        go_wp2_with fail
        go_roundg (gn - (i + 1))
        case measure => omega
        case rel => exact ⟨i + 1, by omega, rfl, by go_num, HO3 _, HB3'.out _⟩

    · have hlt' : ¬ (i : Int) < (gn : Int) := by omega
      have hei : i = gn := by omega
      have HO2 : Hid (wr.ownsRow (w.heap.size + 1) 140 3 u3 (mp 0).length (sycs (mp 0))) := by unfold Hid; rw [HP0.out, ← hei]; exact hown
      have HB2 := HB
      have k3 : wr.cell? ⟨w.heap.size, 3, none⟩ = some (.slice pa pn pc) := (HB.out.cell (p := ⟨w.heap.size, 3, none⟩) (by simp)).trans (cell_box5 HK.out).2.2.2.1
      have hltb : w.heap.size < wr.heap.size := by omega
      clear HO hown HB HG HG0 hei hid hk hml hsz k2
      go_wp2_with fail
      go_loopg [3, 29] pn (fun k v vi wr => ∃ i : Nat, i ≤ pn ∧ k = pn - i ∧ vi = .int .i64 (i : Int) ∧ Hid (wr.ownsRow (w.heap.size + 1) 140 3 v (mp i).length (sycs (mp i))) ∧ Hid (Below (w.heap.size + 1) (w.alloc (.cells #[.string (bs nm), .slice ia inn ic, .slice ga gn gc, .slice pa pn pc, .slice ba bn bc] 38)) wr))
      case atStart => exact ⟨0, by omega, by omega, rfl, HO2, HB2⟩
      case round =>
        obtain ⟨j, hjd, hk2, rfl, HO, HB⟩ := hrel
        clear HO2 HB2 k3 hltb
        have hown := HO.out
        have hml := HPL.out j
        have hsz := HB.out.size
        by_cases hlt2 : j < pn
        · have hlt2' : (j : Int) < (pn : Int) := by omega
          obtain ⟨g, x0, x1, x2, y3, y4, y5, n3, n4, n5, d3, d4, d5, hpa, hgB, c0, c1', c2, c3, c4, c5, hx⟩ := HP.out j hlt2
          subst hpa
          have hcell : ∀ (o : Nat) (u : Value), w.cell? ⟨g, o, none⟩ = some u → wr.cell? ⟨g, o, none⟩ = some u := fun o u h => (HB.out.cell (p := ⟨g, o, none⟩) (by simp; omega)).trans (cell_alloc h _)
          have kc0 := hcell _ _ c0
          have kc1 := hcell _ _ c1'
          have kc2 := hcell _ _ c2
          have kc3 := hcell _ _ c3
          have kc4 := hcell _ _ c4
          have kc5 := hcell _ _ c5
          have hlgr : g < wr.heap.size := by omega
          obtain ⟨a1, c1, hv⟩ := owns_shape hown
          subst hv
          clear c0 c1' c2 c3 c4 c5 hcell HO
          cases x2 with
          | true =>
            have hownA := (hown.alloc (.cells #[.string (bs x0), .int .i64 (x1 : Int), .bool true, .slice y3 n3 d3, .slice y4 n4 d4, .slice y5 n5 d5] 119)).alloc (.cells #[.string (bs x0), .int .i64 0, .int .i64 (n3 : Int)] 140)
            go_wp2_with (at_builtin; refine wpList_append_where _ rfl _ _ 53 rfl (w.heap.size + 1) 140 i3 (.agg #[.string ⟨#[]⟩, .int .i64 0, .int .i64 0]) 3 32 Tryz.underlying53 hi3 hz30 hz31 hz32 rfl (by decide) _ _ _ rfl hownA ⟨wr.heap.size + 1, 0, none⟩ 1 1 [.string (bs x0), .int .i64 0, .int .i64 (n3 : Int)] rfl rfl (newsSy wr _ _ _ _ _) (by intro u hu; simp at hu; rcases hu with rfl | rfl | rfl <;> rfl) (by unfold maxLen; omega) (by omega) (by simp; omega) ?_)
            intro v3 w3 hown3 hgrow3 _
            have HB3 := Lib.hid ((((HB.out.alloc (by omega) _).alloc (by simp; omega) _)).grown hgrow3 (by simp; omega) (fun k hk => (hownA.lt k hk).1))
            have HO3 : Hid (w3.ownsRow (w.heap.size + 1) 140 3 v3 (mp (j + 1)).length (sycs (mp (j + 1)))) := by
              unfold Hid
              rw [show mp (j + 1) = mp j ++ [(x0, 0, (n3 : Int))] by simpa using hx, sycs_app, List.length_append]
              exact hown3
            clear hown3 hgrow3 hownA hown
            go_wp2_with fail
            go_roundg (pn - (j + 1))
            case measure => omega
            case rel => exact ⟨j + 1, by omega, rfl, by go_num, HO3, HB3⟩

          | false =>
            have HB3 : ∀ ob, Below (w.heap.size + 1) _ (wr.alloc ob) := fun ob => HB.out.alloc (by omega) _
            have HO3 : ∀ ob, Hid ((wr.alloc ob).ownsRow (w.heap.size + 1) 140 3 (.slice a1 (mp j).length c1) (mp (j + 1)).length (sycs (mp (j + 1)))) := by
              intro ob
              unfold Hid
              rw [show mp (j + 1) = mp j by simpa using hx]
              exact hown.alloc ob
            have HB3' := Lib.hid HB3
            clear hown HB3
            go_wp2_with fail
            go_roundg (pn - (j + 1))
            case measure => omega
            case rel => exact ⟨j + 1, by omega, rfl, by go_num, HO3 _, HB3'.out _⟩

        · have hlt2' : ¬ (j : Int) < (pn : Int) := by omega
          have hej : j = pn := by omega
          rw [hej] at hown
          obtain ⟨hln, hsl⟩ := own_syrow hown
          have HBF : Hid (Below w.heap.size w wr) := (((Below.refl w.heap.size w).alloc (Nat.le_refl _) _).trans (HB.out.mono (by omega)))
          rcases hsl with ⟨rfl, hnil⟩ | ⟨g, cap, rfl, hge, hrow⟩
          · have HS := Lib.hid (sort_nil wr)
            have hz0 : srt (mp pn) = [] := List.eq_nil_of_length_eq_zero (by rw [srt_len, hnil]; rfl)
            unfold fnCmp at HS
            clear hown HO HB HP HP0 hej hml hsz
            go_wp2_with fail
            refine HS.out.mono ?_
            rintro e w9 ⟨rfl, rfl⟩
            go_wp2_with fail
            go_ret
            exact ⟨_, rfl, HBF.out, Or.inl ⟨rfl, hz0⟩⟩
          · have HS := Lib.hid (sort_post hrow HLA.out)
            have HGE := Lib.hid hge
            unfold fnCmp at HS
            have hlr : (srt (mp pn)).length = (mp pn).length := srt_len _
            generalize (mp pn).length = ln at *
            clear hown HO HB HP HP0 hej hml hsz hrow hge
            go_wp2_with fail
            refine HS.out.mono ?_
            rintro e w9 ⟨rfl, h9, g9⟩
            have H9 := Lib.hid h9
            have G9 := Lib.hid g9
            clear h9 g9
            go_wp2_with fail
            go_ret
            refine ⟨.slice (some ⟨g, 0, none⟩) ln cap, rfl, HBF.out.trans ?_, Or.inr ⟨g, cap, by rw [hlr], by have := HGE.out; omega, H9.out⟩⟩
            exact (Below.refl w.heap.size wr).grown G9.out (by have := HBF.out.size; omega) (fun k hk => by cases hk; have := HGE.out; omega)
end Go.Proofs.YtadgeapgoggljaaGreatDoor
/- What others see of a module: Of's contract; how it is written: Print's. -/
namespace Go.Proofs.YtadgeapgoggljaaGreatDoor
open Go.RowKit Go.Sort
open Tp (Sy G Pr)

theorem filt_succ {α β : Type} (p : α → Bool) (f : α → β) (l : List α) (i : Nat) (h : i < l.length) : ((l.take (i + 1)).filter p).map f = ((l.take i).filter p).map f ++ (if p l[i] then [f l[i]] else []) := by
  rw [List.take_succ_eq_append_getElem h, List.filter_append, List.map_append]
  congr 1
  by_cases hp : p l[i] = true
  · simp [hp]
  · simp [hp]
theorem filt_len {α β : Type} (p : α → Bool) (f : α → β) (l : List α) : ((l.filter p).map f).length ≤ l.length := by
  rw [List.length_map]; exact List.length_filter_le _ _
def AllSmall (l : List Sy) : Prop := ∀ s ∈ l, s.2.1 < 100 ∧ s.2.2 < 100 ∧ -1 ≤ s.2.2 ∧ s.1.length ≤ 100
theorem of_post {m : Tp.M} (hgc : m.vars.length ≤ 10) (hpc : m.procs.length ≤ 10) {w : World} {ia ga pa ba : Option Addr} {ic gc pc bc : Nat} (h : MB w w.heap.size m ia ga pa ba ic gc pc bc) :
    Calls Tryz.prog 34 #[.agg (mcells (bs m.name) (.slice ia m.imports.length ic) (.slice ga m.vars.length gc) (.slice pa m.procs.length pc) (.slice ba m.body.length bc))] w fun e w' => ∃ v, e = .returned v ∧ Below w.heap.size w w' ∧ SL w' w.heap.size v (srt (Tp.symsOf m)) := by
  obtain ⟨nm, is, gs, ps, body⟩ := m
  obtain ⟨pcs, p1, p2⟩ := h.pr
  have hgl := h.gl
  simp only at hgl p1 p2 hgc hpc
  obtain ⟨mg, hmg⟩ : ∃ mg : Nat → List Sy, mg = fun i => ((gs.take i).filter (·.seen)).map Tp.syG := ⟨_, rfl⟩
  obtain ⟨mp, hmp⟩ : ∃ mp : Nat → List Sy, mp = fun i => mg gs.length ++ ((ps.take i).filter (·.seen)).map Tp.syP := ⟨_, rfl⟩
  have hlast : mp ps.length = Tp.symsOf ⟨nm, is, gs, ps, body⟩ := by rw [hmp, hmg]; simp [Tp.symsOf]
  have hg0 : mg 0 = [] := by rw [hmg]; simp
  have hp0 : mp 0 = mg gs.length := by rw [hmp]; simp
  have b1 : ∀ i, (mg i).length ≤ 10 := by
    intro i; rw [hmg]; have := filt_len (fun g : G => g.seen) Tp.syG (gs.take i); simp only [List.length_take] at this ⊢; omega
  have b2 : ∀ i, (mp i).length ≤ 20 := by
    intro i; rw [hmp]; have := filt_len (fun p : Pr => p.seen) Tp.syP (ps.take i); have := b1 gs.length; simp only [List.length_take, List.length_append] at *; omega
  rw [← hlast]
  refine of_walk (mg := mg) (mp := mp) (gn := gs.length) (pn := ps.length) hg0 ?_ hp0 ?_ (fun i => by have := b1 i; omega) (fun i => by have := b2 i; omega) (b2 _) (by omega) (by omega)
  · intro i hi
    obtain ⟨g, cap, q1, q2, q3, q4⟩ := row_cell hgl (by omega)
    cases q1
    have hc := fun j (hj : j < 4) => (q4 (i * 4 + j) (by omega)).trans (gcs_get gs i hi j hj)
    refine ⟨g, gs[i].name, gs[i].pos, gs[i].len, gs[i].seen, rfl, q3, hc 0 (by omega), hc 1 (by omega), hc 2 (by omega), hc 3 (by omega), ?_⟩
    rw [hmg]
    exact filt_succ (fun g : G => g.seen) Tp.syG gs i hi
  · intro i hi
    obtain ⟨g, cap, q1, q2, q3, q4⟩ := row_cell p2 (by omega)
    cases q1
    obtain ⟨pv, vv, bv, bcs', r1, r2, r3, r4, r5⟩ := repp_get ps pcs p1 i hi
    have hc := fun j (hj : j < 6) => (q4 (i * 6 + j) (by omega)).trans (r1 j hj)
    obtain ⟨y3, c3, rfl⟩ := r2.shape
    obtain ⟨y4, c4, rfl⟩ := r3.shape
    obtain ⟨y5, c5, rfl⟩ := r5.shape
    refine ⟨g, ps[i].name, ps[i].pos, ps[i].seen, y3, y4, y5, ps[i].params.length, ps[i].vars.length, ps[i].body.length, c3, c4, c5, rfl, q3, hc 0 (by omega), hc 1 (by omega), hc 2 (by omega), hc 3 (by omega), hc 4 (by omega), hc 5 (by omega), ?_⟩
    rw [hmp]
    simp only [List.append_assoc]
    congr 1
    exact filt_succ (fun p : Pr => p.seen) Tp.syP ps i hi
theorem SL.len {w : World} {B : Nat} {v : Value} {l : List Sy} (h : SL w B v l) : ∃ a c, v = .slice a l.length c := by
  rcases h with ⟨rfl, rfl⟩ | ⟨g, cap, rfl, _⟩
  · exact ⟨none, 0, rfl⟩
  · exact ⟨_, _, rfl⟩
theorem SL.cell {w : World} {B : Nat} {a : Option Addr} {n c : Nat} {l : List Sy} (h : SL w B (.slice a n c) l) (i : Nat) (hi : i < l.length) : ∃ g, a = some ⟨g, 0, none⟩ ∧ B ≤ g ∧ g < w.heap.size ∧ ∀ j, j < 3 → w.cell? ⟨g, i * 3 + j, none⟩ = (encSy l[i])[j]? := by
  rcases h with ⟨_, rfl⟩ | ⟨g, cap, q1, q2, q3⟩
  · simp at hi
  · cases q1
    obtain ⟨cur, r1, r2, r3⟩ := q3.b
    refine ⟨g, rfl, q2, lt_blk r1, fun j hj => ?_⟩
    rw [cell_blk r1, ← Array.getElem?_toList, ← sycs_get l i hi j hj, ← r3, List.getElem?_take_of_lt (by omega)]
theorem SL.on {w w' : World} {B : Nat} {v : Value} {l : List Sy} (h : SL w B v l) (k : Below w.heap.size w w') : SL w' B v l := by
  rcases h with q | ⟨g, cap, q1, q2, q3⟩
  · exact Or.inl q
  · obtain ⟨cur, r1, r2, r3⟩ := q3.b
    exact Or.inr ⟨g, cap, q1, q2, ⟨⟨cur, (k.block g (lt_blk r1)).trans r1, r2, r3⟩, q3.n, q3.m⟩⟩
end Go.Proofs.YtadgeapgoggljaaGreatDoor
