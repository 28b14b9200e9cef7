/- Reading an object: what is there of it so far. -/
import Derived.Test.YtljnddcddclmeaaJ9
namespace Go.Proofs.Ytljnddcddclmeaa
open Go.RowKit
open Ob (Bs)

abbrev nl : Value := .slice none 0 0
structure Parts (w : World) (D : Nat → Prop) (ss : List Ob.Sm) (us : List Ob.Us) (vs : List Ob.Gl) (ns : List Bs) (sv uv vv nv : Value) : Prop where
  s : Row w D 53 3 sv ss.length (cellsOf smC ss)
  u : ∃ ucs, RepU w D us ucs ∧ Row w D 61 3 uv us.length ucs
  v : Row w D 57 4 vv vs.length (cellsOf glC vs)
  n : Row w D 9 1 nv ns.length (cellsOf stC ns)
theorem Parts.mono {w w' : World} {D D' : Nat → Prop} {ss : List Ob.Sm} {us : List Ob.Us} {vs : List Ob.Gl} {ns : List Bs} {sv uv vv nv : Value} (h : Parts w D ss us vs ns sv uv vv nv) (hw : ∀ b, D b → b < w.heap.size → w'.heap[b]? = w.heap[b]? ∧ D' b) : Parts w' D' ss us vs ns sv uv vv nv :=
  ⟨h.s.mono hw, let ⟨ucs, h1, h2⟩ := h.u; ⟨ucs, RepU.mono hw _ _ h1, h2.mono hw⟩, h.v.mono hw, h.n.mono hw⟩
structure OS (w0 w : World) (rb ob C : Nat) (r : Bs) (nm : Bs) (ss : List Ob.Sm) (us : List Ob.Us) (vs : List Ob.Gl) (ns : List Bs) (ps : List Ob.En) (sv uv vv pv nv : Value) : Prop where
  blk : w.heap[ob]? = some (.cells #[.string (bs nm), sv, uv, vv, pv, nv, nl] 42 (0, 0))
  pt : Parts w (fun b => w0.heap.size ≤ b ∧ b ≠ ob ∧ b < C) ss us vs ns sv uv vv nv
  po : w.ownsRow C 35 3 pv ps.length (cellsOf enC ps)
  rst : Rst w rb r
  ext : Ext rb w0 w
  rbl : rb < w0.heap.size
  obl : w0.heap.size ≤ ob
  obC : ob < C
  CC : C ≤ w.heap.size
theorem OS.start {w0 w1 : World} {rb : Nat} {r nm : Bs} (hr : rb < w0.heap.size) (h : Rst w1 rb r) (hx : Ext rb w0 w1) :
    OS w0 (w1.alloc (.cells #[.string (bs nm), nl, nl, nl, nl, nl, nl] 42)) rb w1.heap.size (w1.heap.size + 1) r nm [] [] [] [] [] nl nl nl nl nl :=
  have hb : Below w1.heap.size w1 (w1.alloc (.cells #[.string (bs nm), nl, nl, nl, nl, nl, nl] 42)) := (Below.refl _ _).alloc (Nat.le_refl _) _
  ⟨new_blk _ _, ⟨Or.inl ⟨rfl, rfl, rfl⟩, ⟨[], rfl, Or.inl ⟨rfl, rfl, rfl⟩⟩, Or.inl ⟨rfl, rfl, rfl⟩, Or.inl ⟨rfl, rfl, rfl⟩⟩, World.ownsRow_nil _ _ _ _, h.ext hb, hx.trans (Ext.below hb), hr, hx.size, by omega, by simp⟩
theorem OS.base {w0 w w' : World} {rb ob C i : Nat} {r r' nm : Bs} {ss : List Ob.Sm} {us : List Ob.Us} {vs : List Ob.Gl} {ns : List Bs} {sv uv vv nv x : Value}
    (h : OS w0 w rb ob C r nm ss us vs ns [] sv uv vv nl nv) (hx : Ext rb w w') (hr : Rst w' rb r') :
    Parts (w'.setCell ⟨ob, i, none⟩ x) (fun b => w0.heap.size ≤ b ∧ b ≠ ob ∧ b < w'.heap.size) ss us vs ns sv uv vv nv ∧ w'.heap[ob]? = some (.cells #[.string (bs nm), sv, uv, vv, nl, nv, nl] 42 (0, 0)) ∧ Rst (w'.setCell ⟨ob, i, none⟩ x) rb r' ∧ Ext rb w0 (w'.setCell ⟨ob, i, none⟩ x) ∧ ob < w'.heap.size := by
  have hob := lt_blk h.blk
  have hne : ob ≠ rb := by have := h.rbl; have := h.obl; omega
  have hss := hx.size
  refine ⟨h.pt.mono (fun b hb hl => ⟨?_, hb.1, hb.2.1, by omega⟩), (hx.block ob hob hne).trans h.blk, hr.other ((Ext.refl ob w').set i x) (Ne.symm hne), (h.ext.trans hx).new ((Ext.refl ob w').set i x) h.obl, by omega⟩
  rw [Below.heap_setCell _ _ _ _ (by simpa using hb.2.1)]
  exact hx.block b hl (by have := h.rbl; omega)
theorem row_new {w0 w w' : World} {ob i e k n : Nat} {x y : Value} {cs : List Value} (h : w'.ownsRow w.heap.size e k y n cs) (hob : ob < w.heap.size) (h0 : w0.heap.size ≤ w.heap.size) : Row (w'.setCell ⟨ob, i, none⟩ x) (fun b => w0.heap.size ≤ b ∧ b ≠ ob ∧ b < w'.heap.size) e k y n cs :=
  (Row.of_owns h).mono (fun b hb hl => ⟨Below.heap_setCell _ _ _ _ (by simp; omega), by omega, by omega, hl⟩)
theorem OS.setS {w0 w w' : World} {rb ob C : Nat} {r r' nm : Bs} {ss : List Ob.Sm} {sv : Value} (h : OS w0 w rb ob C r nm [] [] [] [] [] nl nl nl nl nl) (hx : Ext rb w w') (hr : Rst w' rb r') (ho : w'.ownsRow w.heap.size 53 3 sv ss.length (cellsOf smC ss)) :
    OS w0 (w'.setCell ⟨ob, 1, none⟩ sv) rb ob w'.heap.size r' nm ss [] [] [] [] sv nl nl nl nl := by
  obtain ⟨h1, h2, h3, h4, h5⟩ := h.base (i := 1) (x := sv) hx hr
  exact ⟨set_blk 1 sv h2, ⟨row_new ho (lt_blk h.blk) h.ext.size, h1.u, h1.v, h1.n⟩, World.ownsRow_nil _ _ _ _, h3, h4, h.rbl, h.obl, h5, by simp⟩
theorem OS.setU {w0 w w' : World} {rb ob C : Nat} {r r' nm : Bs} {ss : List Ob.Sm} {us : List Ob.Us} {sv uv : Value} (h : OS w0 w rb ob C r nm ss [] [] [] [] sv nl nl nl nl) (hx : Ext rb w w') (hr : Rst w' rb r') (ho : VUL w.heap.size us uv w') :
    OS w0 (w'.setCell ⟨ob, 2, none⟩ uv) rb ob w'.heap.size r' nm ss us [] [] [] sv uv nl nl nl := by
  obtain ⟨h1, h2, h3, h4, h5⟩ := h.base (i := 2) (x := uv) hx hr
  obtain ⟨ucs, q1, q2⟩ := ho
  have hob := lt_blk h.blk
  have h0 := h.ext.size
  exact ⟨set_blk 2 uv h2, ⟨h1.s, ⟨ucs, RepU.mono (fun b hb hl => ⟨Below.heap_setCell _ _ _ _ (by simp; omega), by omega, by omega, hl⟩) _ _ q1, row_new q2 hob h0⟩, h1.v, h1.n⟩, World.ownsRow_nil _ _ _ _, h3, h4, h.rbl, h.obl, h5, by simp⟩
theorem OS.setV {w0 w w' : World} {rb ob C : Nat} {r r' nm : Bs} {ss : List Ob.Sm} {us : List Ob.Us} {vs : List Ob.Gl} {sv uv vv : Value} (h : OS w0 w rb ob C r nm ss us [] [] [] sv uv nl nl nl) (hx : Ext rb w w') (hr : Rst w' rb r') (ho : w'.ownsRow w.heap.size 57 4 vv vs.length (cellsOf glC vs)) :
    OS w0 (w'.setCell ⟨ob, 3, none⟩ vv) rb ob w'.heap.size r' nm ss us vs [] [] sv uv vv nl nl := by
  obtain ⟨h1, h2, h3, h4, h5⟩ := h.base (i := 3) (x := vv) hx hr
  exact ⟨set_blk 3 vv h2, ⟨h1.s, h1.u, row_new ho (lt_blk h.blk) h.ext.size, h1.n⟩, World.ownsRow_nil _ _ _ _, h3, h4, h.rbl, h.obl, h5, by simp⟩
theorem OS.setN {w0 w w' : World} {rb ob C : Nat} {r r' nm : Bs} {ss : List Ob.Sm} {us : List Ob.Us} {vs : List Ob.Gl} {ns : List Bs} {sv uv vv nv : Value} (h : OS w0 w rb ob C r nm ss us vs [] [] sv uv vv nl nl) (hx : Ext rb w w') (hr : Rst w' rb r') (ho : w'.ownsRow w.heap.size 9 1 nv ns.length (cellsOf stC ns)) :
    OS w0 (w'.setCell ⟨ob, 5, none⟩ nv) rb ob w'.heap.size r' nm ss us vs ns [] sv uv vv nl nv := by
  obtain ⟨h1, h2, h3, h4, h5⟩ := h.base (i := 5) (x := nv) hx hr
  exact ⟨set_blk 5 nv h2, ⟨h1.s, h1.u, h1.v, row_new ho (lt_blk h.blk) h.ext.size⟩, World.ownsRow_nil _ _ _ _, h3, h4, h.rbl, h.obl, h5, by simp⟩
/- a procedure more: read at w', laid at w2, stored -/
theorem OS.read {w0 w w' : World} {rb ob C : Nat} {r r' nm : Bs} {ss : List Ob.Sm} {us : List Ob.Us} {vs : List Ob.Gl} {ns : List Bs} {ps : List Ob.En} {sv uv vv pv nv : Value} (h : OS w0 w rb ob C r nm ss us vs ns ps sv uv vv pv nv) (hx : Ext rb w w') (hr : Rst w' rb r') : OS w0 w' rb ob C r' nm ss us vs ns ps sv uv vv pv nv := by
  have hne : ob ≠ rb := by have := h.rbl; have := h.obl; omega
  have hC := h.obC
  exact ⟨(hx.block ob (lt_blk h.blk) hne).trans h.blk, h.pt.mono (fun b hb hl => ⟨hx.block b hl (by have := h.rbl; omega), hb⟩), owns_ext h.po hx (by have := h.rbl; have := h.obl; omega), hr, h.ext.trans hx, h.rbl, h.obl, hC, Nat.le_trans h.CC hx.size⟩
theorem OS.snoc {w0 w w' : World} {rb ob C : Nat} {r nm : Bs} {ss : List Ob.Sm} {us : List Ob.Us} {vs : List Ob.Gl} {ns : List Bs} {ps : List Ob.En} {sv uv vv pv pv' nv : Value} {x : Ob.En} (h : OS w0 w rb ob C r nm ss us vs ns ps sv uv vv pv nv) (hb : Below C w w') (ho : w'.ownsRow C 35 3 pv' (ps.length + 1) (cellsOf enC ps ++ enC x)) :
    OS w0 (w'.setCell ⟨ob, 4, none⟩ pv') rb ob C r nm ss us vs ns (ps ++ [x]) sv uv vv pv' nv := by
  have hne : ob ≠ rb := by have := h.rbl; have := h.obl; omega
  have hC := h.obC
  have h0 := h.obl
  have hr := h.rbl
  have hB : Below w0.heap.size w w' := hb.mono (by omega)
  refine ⟨set_blk 4 pv' ((hb.block ob hC).trans h.blk), h.pt.mono (fun b hb' hl => ⟨(Below.heap_setCell _ _ _ _ (by simpa using hb'.2.1)).trans (hb.block b hb'.2.2), hb'⟩), ?_, (h.rst.belowB hb (by omega)).other ((Ext.refl ob w').set 4 pv') (Ne.symm hne), (h.ext.trans' hB).new ((Ext.refl ob w').set 4 pv') h0, hr, h0, hC, by simpa using Nat.le_trans h.CC hb.size⟩
  rw [cellsOf_snoc, List.length_append]
  exact owns_keep ho (fun b h1 _ _ => Below.heap_setCell _ _ _ _ (by simp; omega))
end Go.Proofs.Ytljnddcddclmeaa
