import Derived.Test.YtiolfelekiopdaaGreatDoorKWA
import Derived.Test.YtiolfelekiopdaaGreatDoorKPC
import Derived.Test.YtiolfelekiopdaaGreatDoorKWC
import Derived.Maps.OwnSet
import Derived.Maps.OwnOps
import Derived.StringKeys
import Derived.Lib.Hide
/- A map whose keys are texts, by what it holds at each: its block, what is looked up, what is stored. -/
namespace Go.Proofs.YtiolfelekiopdaaGreatDoor
open Go.RowKit Go.Maps
open Tp (Bs)

def heldV (v : Value) : Option (DataW Value × List MemPlace) := some (.held v, [])
theorem skey : Keyed Tryz.prog 9 := string_keyed Tryz.underlying9
/- block b is a map of at most n entries; at the text k it holds f k -/
structure MapV (w : World) (b n : Nat) (f : Bs → Option Value) : Prop where
  own : ∃ D, w.ownsMap Tryz.prog 9 heldV b n D ∧ ∀ s, Maps.has D (.string s) = (f s).isSome ∧ ∀ v, f s = some v → ∀ z, D.atKey (.string s) z = .held v
theorem MapV.made (w : World) : MapV (w.alloc (.map #[] 0)) w.heap.size 0 (fun _ => none) :=
  ⟨⟨.map [], World.ownsMap_made _ _ _ _, fun s => ⟨rfl, fun v h => by cases h⟩⟩⟩
theorem MapV.on {w w' : World} {b n : Nat} {f : Bs → Option Value} (h : MapV w b n f) (k : w'.heap[b]? = w.heap[b]?) : MapV w' b n f := by
  obtain ⟨D, ⟨es, clock, h1, h2⟩, h3⟩ := h.own
  exact ⟨⟨D, ⟨es, clock, k.trans h1, h2⟩, h3⟩⟩
theorem MapV.lt {w : World} {b n : Nat} {f : Bs → Option Value} (h : MapV w b n f) : b < w.heap.size := by
  obtain ⟨D, h1, _⟩ := h.own
  exact h1.lt
theorem MapV.mono {w : World} {b n n' : Nat} {f : Bs → Option Value} (h : MapV w b n f) (k : n ≤ n') : MapV w b n' f := by
  obtain ⟨D, h1, h2⟩ := h.own
  exact ⟨⟨D, h1.mono k, h2⟩⟩
theorem skey_of (l : Bs) (hl : l.length ≤ 1000000) : keyOf Tryz.prog 9 (.string (bs l)) = some (.string l) := by
  have := Go.WideMaps.keyOf_string_mk (P := Tryz.prog) (k := 9) Tryz.underlying9 (s := bs l) (by simp [bs, ByteArray.size, maxLen]; omega)
  simpa [bs] using this
theorem MapV.look {w : World} {b n : Nat} {f : Bs → Option Value} (h : MapV w b n f) {t e : TypeId} (ht : Tryz.prog.underlying t = some (.map 9 e)) {z : Value} (hz : (zeroValue e).run Tryz.prog w = .ok z w) (l : Bs) (hl : l.length ≤ 1000000) (c : Bool) :
    (Instr.lookup t (.map (some b)) (.string (bs l)) c).run Tryz.prog w = .ok (if c then .tuple #[(f l).getD z, .bool (f l).isSome] else (f l).getD z) w := by
  obtain ⟨D, h1, h2⟩ := h.own
  obtain ⟨e1, e2⟩ := h2 l
  have key : ∀ v, heldV v = some (D.atKey (.string l) (.held z), ([] : List MemPlace)) → v = (f l).getD z := by
    intro v hv
    unfold heldV at hv
    simp only [Option.some.injEq, Prod.mk.injEq, and_true] at hv
    cases hf : f l with
    | none =>
      rw [hf] at e1
      rw [atKey_of_not_has e1] at hv
      injection hv
    | some u =>
      rw [e2 u hf] at hv
      injection hv
  have key' : ∀ v ps, heldV v = some (D.atKey (.string l) (.held z), ps) → v = (f l).getD z := by
    intro v ps hv
    refine key v ?_
    unfold heldV at hv ⊢
    simp only [Option.some.injEq, Prod.mk.injEq] at hv ⊢
    exact ⟨hv.1, trivial⟩
  cases c with
  | true =>
    obtain ⟨v, ps, r1, r2⟩ := h1.look_ok skey ht hz (zd := .held z) (zp := []) rfl (skey_of l hl)
    rw [r1, key' v ps r2, e1]
    rfl
  | false =>
    obtain ⟨v, ps, r1, r2⟩ := h1.lookup skey ht hz (zd := .held z) (zp := []) rfl (skey_of l hl)
    rw [r1, key' v ps r2]
    rfl
theorem nilmap_look (w : World) {t e : TypeId} (ht : Tryz.prog.underlying t = some (.map 9 e)) {z : Value} (hz : (zeroValue e).run Tryz.prog w = .ok z w) (l : Bs) (hl : l.length ≤ 1000000) (c : Bool) :
    (Instr.lookup t (.map none) (.string (bs l)) c).run Tryz.prog w = .ok (if c then .tuple #[z, .bool false] else z) w := Maps.look_nil c skey ht hz (skey_of l hl)
def updV (f : Bs → Option Value) (k : Bs) (v : Value) : Bs → Option Value := fun s => if s = k then some v else f s
theorem MapV.store {w : World} {b n : Nat} {f : Bs → Option Value} (h : MapV w b n f) {t e : TypeId} (ht : Tryz.prog.underlying t = some (.map 9 e)) (hn : n < 1000000) (l : Bs) (hl : l.length ≤ 1000000) (v : Value) :
    ∃ w', (Instr.mapUpdate t (.map (some b)) (.string (bs l)) v).run Tryz.prog w = .ok () w' ∧ MapV w' b (n + 1) (updV f l v) ∧ Ext b w w' ∧ w'.heap.size = w.heap.size := by
  obtain ⟨D, h1, h2⟩ := h.own
  obtain ⟨w', r1, r2, r3⟩ := h1.store skey ht (by unfold maxLen; omega) (skey_of l hl) (d := .held v) (ps := []) rfl
  have hm := h1.isMap
  refine ⟨w', r1, ⟨⟨_, r2, fun s => ?_⟩⟩, ?_, ?_⟩
  · by_cases hs : s = l
    · subst hs
      have hk : WideAt.IsKeyLit (.string s) := by simp [WideAt.IsKeyLit]
      refine ⟨by rw [has_put_same hm hk]; simp [updV], fun u hu z => ?_⟩
      rw [atKey_put_same hm hk]
      simp [updV] at hu
      rw [hu]
    · have hne : (Lit.string s) ≠ .string l := fun e => hs (by injection e)
      refine ⟨by rw [has_put_other hne, (h2 s).1]; simp [updV, hs], fun u hu z => ?_⟩
      rw [atKey_put_other hne]
      simp [updV, hs] at hu
      exact (h2 s).2 u hu z
  · have g := r3.grown
    exact ⟨g.os, g.tape, g.output, g.size, fun k hk hb => g.block k hk (fun e => hb (by injection e))⟩
  · obtain ⟨es, clock, es', clock', _, rfl⟩ := r3
    simp [ChangeMaps.setBlock]
end Go.Proofs.YtiolfelekiopdaaGreatDoor
/- check's small functions: throw, kind, number, add. -/
namespace Go.Proofs.YtiolfelekiopdaaGreatDoor
open Go.RowKit Go.Maps
open Tp (Bs Th)

@[go_sem] theorem zeroTh (w : World) : (zeroValue 116).run Tryz.prog w = .ok (.agg #[.int .i64 0, .int .i64 0]) w := by kernel_rfl
@[go_sem] theorem zeroSyms (w : World) : (zeroValue 45).run Tryz.prog w = .ok (.slice none 0 0) w := by kernel_rfl
def thV (x : Nat × Int) : Value := .agg #[.int .i64 (x.1 : Int), .int .i64 x.2]

set_option maxRecDepth 100000 in
set_option maxHeartbeats 400000 in
theorem cthrow_any (en pl : Nat) (w : World) :
    Calls Tryz.prog 83 #[.int .i64 (en : Int), .int .i64 (pl : Int)] w fun e w' => Thrown w.heap.size (en, pl) e w' ∧ Below w.heap.size w w' := by
  go_enter Tryz.func83, Tryz.ntmps83
  go_wp2
  exact ⟨rfl, ⟨⟨w.heap.size, Nat.le_refl _, rfl, by simp [go_sem], by simp [go_sem]⟩⟩, (Below.refl _ _).alloc (Nat.le_refl _) _⟩
set_option maxRecDepth 100000 in
set_option maxHeartbeats 400000 in
theorem number_any (w : World) :
    Calls Tryz.prog 67 #[] w fun e w' => e = .returned (.agg #[.int .i64 0, .int .i64 (-1)]) ∧ Below w.heap.size w w' := by
  go_enter Tryz.func67, Tryz.ntmps67
  go_wp2
  exact bodyPost_ret (v := .agg #[.int .i64 0, .int .i64 (-1)]) (by simp [results, Tryz.results67, go_sem]) rfl ⟨rfl, (Below.refl _ _).alloc (Nat.le_refl _) _⟩
set_option maxRecDepth 100000 in
set_option maxHeartbeats 400000 in
theorem kind_any (a : Nat) (b : Int) (w : World) :
    Calls Tryz.prog 109 #[.agg #[.int .i64 (a : Int), .int .i64 b]] w fun e w' => e = .returned (.int .i64 (Tp.kindOf (a, b) : Int)) ∧ Below w.heap.size w w' := by
  have hbe : ∀ ob, Below w.heap.size w (w.alloc ob) := fun ob => (Below.refl _ _).alloc (Nat.le_refl _) _
  have HB := Lib.hid hbe
  clear hbe
  unfold Tp.kindOf
  by_cases h1 : 0 ≤ b
  · have h1' : b ≥ 0 := h1
    rw [if_pos h1]
    go_enter Tryz.func109, Tryz.ntmps109
    go_wp2
    go_ret
    exact ⟨rfl, HB.out _⟩
  · have h1' : ¬ b ≥ 0 := h1
    rw [if_neg h1]
    by_cases h2 : 0 < a
    · have h2' : (a : Int) > 0 := by omega
      rw [if_pos h2]
      go_enter Tryz.func109, Tryz.ntmps109
      go_wp2
      go_ret
      exact ⟨rfl, HB.out _⟩
    · have h2' : ¬ (a : Int) > 0 := by omega
      rw [if_neg h2]
      go_enter Tryz.func109, Tryz.ntmps109
      go_wp2
      go_ret
      exact ⟨rfl, HB.out _⟩
end Go.Proofs.YtiolfelekiopdaaGreatDoor
/- check: a name is laid beside those ahead of it: add. -/
namespace Go.Proofs.YtiolfelekiopdaaGreatDoor
open Go.RowKit Go.Maps
open Tp (Bs Th)

theorem wpList_mapUpdate_v (w : World) {ops : Array Oper} {rest : List Oper} {o : Oper} {a : Act} {Q : Exit → Act → World → Prop}
    (hg : o.guard = none) (m x v : Operand) (t : TypeId) (hop : o.op = Op.mapUpdate t m x v) (e : TypeId) (ht : Tryz.prog.underlying t = some (.map 9 e))
    (b n : Nat) (f : Bs → Option Value) (hown : MapV w b n f) (hn : n < 1000000) (l : Bs) (hl : l.length ≤ 1000000) (val : Value) (hm : a.eval m = .map (some b)) (hx : a.eval x = .string (bs l)) (hv : a.eval v = val)
    (hK : ∀ w', MapV w' b (n + 1) (updV f l val) → Ext b w w' → w'.heap.size = w.heap.size → wpList Tryz.prog ops Q rest (a.put o.dst undef) w') :
    wpList Tryz.prog ops Q (o :: rest) a w := by
  refine wpList_plain hg fun K' hK' => ?_
  obtain ⟨w', hrun, r1, r2, r3⟩ := hown.store ht hn l hl val
  unfold Oper.wp
  simp [execOp, hop, hm, hx, hv, hrun, Result.andThen]
  exact hK' _ _ (hK w' r1 r2 r3)
set_option maxRecDepth 100000 in
set_option maxHeartbeats 400000 in
theorem add_no {w : World} {lb n : Nat} {f : Bs → Option Value} (h : MapV w lb n f) (nm : Bs) (hl : nm.length ≤ 1000000) (x : Nat) (y : Int) (pl : Nat) {u : Value} (hu : f nm = some u) (h2 : ∃ c d, u = .agg #[.int .i64 c, .int .i64 d]) :
    Calls Tryz.prog 62 #[.map (some lb), .string (bs nm), .agg #[.int .i64 (x : Int), .int .i64 y], .int .i64 (pl : Int)] w fun e w' => Thrown w.heap.size (9, pl) e w' ∧ Below w.heap.size w w' := by
  obtain ⟨c, d, rfl⟩ := h2
  have hlook : ∀ ob, (Instr.lookup 70 (.map (some lb)) (.string (bs nm)) true).run Tryz.prog (w.alloc ob) = .ok (.tuple #[.agg #[.int .i64 c, .int .i64 d], .bool true]) (w.alloc ob) := by
    intro ob
    have := (h.on (w' := w.alloc ob) (Below.heap_alloc _ _ _ h.lt)).look (t := 70) Tryz.underlying70 (zeroTh _) nm hl true
    rw [hu] at this
    exact this
  have HB : Hid (∀ o1 o2, Below w.heap.size w ((w.alloc o1).alloc o2)) := fun o1 o2 => ((Below.refl _ _).alloc (Nat.le_refl _) _).alloc (by simp) _
  clear h hu
  go_enter Tryz.func62, Tryz.ntmps62
  go_wp2_with fail
  refine (cthrow_any 9 pl _).mono ?_
  rintro e w2 ⟨ht, hb2⟩
  obtain ⟨ab, h1, rfl, h2, h3⟩ := ht.out
  have hsz : w.heap.size ≤ ab := by simp at h1; omega
  have HT := Lib.hid h2
  have HT2 := Lib.hid h3
  have HB2 := Lib.hid ((HB.out _ _).trans (hb2.mono (by simp; omega)))
  clear h1 h2 h3 hb2 ht
  go_wp2_with fail
  exact ⟨rfl, ⟨⟨ab, hsz, rfl, HT.out, HT2.out⟩⟩, HB2.out⟩
set_option maxRecDepth 100000 in
set_option maxHeartbeats 400000 in
theorem add_ok {w : World} {lb n : Nat} {f : Bs → Option Value} (h : MapV w lb n f) (hn : n < 1000000) (nm : Bs) (hl : nm.length ≤ 1000000) (x : Nat) (y : Int) (pl : Nat) (hu : f nm = none) :
    Calls Tryz.prog 62 #[.map (some lb), .string (bs nm), .agg #[.int .i64 (x : Int), .int .i64 y], .int .i64 (pl : Int)] w fun e w' => e = .returned (.tuple #[]) ∧ MapV w' lb (n + 1) (updV f nm (thV (x, y))) ∧ Ext lb w w' := by
  have hlook : ∀ ob, (Instr.lookup 70 (.map (some lb)) (.string (bs nm)) true).run Tryz.prog (w.alloc ob) = .ok (.tuple #[.agg #[.int .i64 0, .int .i64 0], .bool false]) (w.alloc ob) := by
    intro ob
    have := (h.on (w' := w.alloc ob) (Below.heap_alloc _ _ _ h.lt)).look (t := 70) Tryz.underlying70 (zeroTh _) nm hl true
    rw [hu] at this
    exact this
  have HB : Hid (∀ o1 o2, Below w.heap.size w ((w.alloc o1).alloc o2)) := fun o1 o2 => ((Below.refl _ _).alloc (Nat.le_refl _) _).alloc (by simp) _
  have HM := Lib.hid h
  have hlt := h.lt
  clear h hu
  go_enter Tryz.func62, Tryz.ntmps62
  go_wp2_with (at_mapUpdate; refine wpList_mapUpdate_v _ rfl _ _ _ 70 rfl _ Tryz.underlying70 lb n f (HM.out.on ((HB.out _ _).block lb hlt)) hn nm hl (thV (x, y)) rfl rfl rfl ?_; intro w1 q1 q2 q3)
  exact bodyPost_end (results_none rfl _ _ _) rfl ⟨rfl, q1, (Ext.below (HB.out _ _)).trans q2⟩
end Go.Proofs.YtiolfelekiopdaaGreatDoor
