import Derived.Test.YtfcdphgggdioeaaGreatDoorKWa
import Derived.Test.YtfcdphgggdioeaaGreatDoorKPb
import Derived.Deep.QuietTactic
import Derived.BigQuiet
import Derived.Maps.OwnSet
import Derived.Maps.OwnOps
import Derived.StringKeys
/- A map whose keys are texts, by what it holds at each: its block, what is looked up, what is stored. -/
namespace Go.Proofs.YtfcdphgggdioeaaGreatDoor
open Go.RowKit Go.Maps
open Tp (Bs)

def heldV (v : Value) : Option (DataW Value × List MemPlace) := some (.held v, [])
theorem skey : Keyed Tryz.prog 9 := string_keyed Tryz.underlying9
/- block b is a map of at most n entries; at the text k it holds f k -/
structure MapV (w : World) (b n : Nat) (f : Bs → Option Value) : Prop where
  own : ∃ D, w.ownsMap Tryz.prog 9 heldV b n D ∧ ∀ s, Maps.has D (.string s) = (f s).isSome ∧ ∀ v, f s = some v → ∀ z, D.atKey (.string s) z = .held v
theorem MapV.made (w : World) : MapV (w.alloc (.map #[] 0)) w.heap.size 0 (fun _ => none) :=
  ⟨⟨.map [], World.ownsMap_made _ _ _ _, fun s => ⟨rfl, fun v h => by cases h⟩⟩⟩
theorem MapV.on {w w' : World} {b n : Nat} {f : Bs → Option Value} (h : MapV w b n f) (k : w'.heap[b]? = w.heap[b]?) : MapV w' b n f := by
  obtain ⟨D, ⟨es, clock, h1, h2⟩, h3⟩ := h.own
  exact ⟨⟨D, ⟨es, clock, k.trans h1, h2⟩, h3⟩⟩
theorem MapV.lt {w : World} {b n : Nat} {f : Bs → Option Value} (h : MapV w b n f) : b < w.heap.size := by
  obtain ⟨D, h1, _⟩ := h.own
  exact h1.lt
theorem skey_of (l : Bs) (hl : l.length ≤ 1000000) : keyOf Tryz.prog 9 (.string (bs l)) = some (.string l) := by
  have := Go.WideMaps.keyOf_string_mk (P := Tryz.prog) (k := 9) Tryz.underlying9 (s := bs l) (by simp [bs, ByteArray.size, maxLen]; omega)
  simpa [bs] using this
theorem MapV.look {w : World} {b n : Nat} {f : Bs → Option Value} (h : MapV w b n f) {t e : TypeId} (ht : Tryz.prog.underlying t = some (.map 9 e)) {z : Value} (hz : (zeroValue e).run Tryz.prog w = .ok z w) (l : Bs) (hl : l.length ≤ 1000000) (c : Bool) :
    (Instr.lookup t (.map (some b)) (.string (bs l)) c).run Tryz.prog w = .ok (if c then .tuple #[(f l).getD z, .bool (f l).isSome] else (f l).getD z) w := by
  obtain ⟨D, h1, h2⟩ := h.own
  obtain ⟨e1, e2⟩ := h2 l
  have key : ∀ v, heldV v = some (D.atKey (.string l) (.held z), ([] : List MemPlace)) → v = (f l).getD z := by
    intro v hv
    unfold heldV at hv
    simp only [Option.some.injEq, Prod.mk.injEq, and_true] at hv
    cases hf : f l with
    | none =>
      rw [hf] at e1
      rw [atKey_of_not_has e1] at hv
      injection hv
    | some u =>
      rw [e2 u hf] at hv
      injection hv
  have key' : ∀ v ps, heldV v = some (D.atKey (.string l) (.held z), ps) → v = (f l).getD z := by
    intro v ps hv
    refine key v ?_
    unfold heldV at hv ⊢
    simp only [Option.some.injEq, Prod.mk.injEq] at hv ⊢
    exact ⟨hv.1, trivial⟩
  cases c with
  | true =>
    obtain ⟨v, ps, r1, r2⟩ := h1.look_ok skey ht hz (zd := .held z) (zp := []) rfl (skey_of l hl)
    rw [r1, key' v ps r2, e1]
    rfl
  | false =>
    obtain ⟨v, ps, r1, r2⟩ := h1.lookup skey ht hz (zd := .held z) (zp := []) rfl (skey_of l hl)
    rw [r1, key' v ps r2]
    rfl
def updV (f : Bs → Option Value) (k : Bs) (v : Value) : Bs → Option Value := fun s => if s = k then some v else f s
theorem MapV.store {w : World} {b n : Nat} {f : Bs → Option Value} (h : MapV w b n f) {t e : TypeId} (ht : Tryz.prog.underlying t = some (.map 9 e)) (hn : n < 1000000) (l : Bs) (hl : l.length ≤ 1000000) (v : Value) :
    ∃ w', (Instr.mapUpdate t (.map (some b)) (.string (bs l)) v).run Tryz.prog w = .ok () w' ∧ MapV w' b (n + 1) (updV f l v) ∧ Ext b w w' ∧ w'.heap.size = w.heap.size := by
  obtain ⟨D, h1, h2⟩ := h.own
  obtain ⟨w', r1, r2, r3⟩ := h1.store skey ht (by unfold maxLen; omega) (skey_of l hl) (d := .held v) (ps := []) rfl
  have hm := h1.isMap
  refine ⟨w', r1, ⟨⟨_, r2, fun s => ?_⟩⟩, ?_, ?_⟩
  · by_cases hs : s = l
    · subst hs
      have hk : WideAt.IsKeyLit (.string s) := by simp [WideAt.IsKeyLit]
      refine ⟨by rw [has_put_same hm hk]; simp [updV], fun u hu z => ?_⟩
      rw [atKey_put_same hm hk]
      simp [updV] at hu
      rw [hu]
    · have hne : (Lit.string s) ≠ .string l := fun e => hs (by injection e)
      refine ⟨by rw [has_put_other hne, (h2 s).1]; simp [updV, hs], fun u hu z => ?_⟩
      rw [atKey_put_other hne]
      simp [updV, hs] at hu
      exact (h2 s).2 u hu z
  · have g := r3.grown
    exact ⟨g.os, g.tape, g.output, g.size, fun k hk hb => g.block k hk (fun e => hb (by injection e))⟩
  · obtain ⟨es, clock, es', clock', _, rfl⟩ := r3
    simp [ChangeMaps.setBlock]
end Go.Proofs.YtfcdphgggdioeaaGreatDoor
