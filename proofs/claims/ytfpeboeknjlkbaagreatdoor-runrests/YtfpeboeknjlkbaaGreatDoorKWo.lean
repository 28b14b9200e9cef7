import Derived.Test.YtfpeboeknjlkbaaGreatDoorKWn
import Derived.Test.YtfpeboeknjlkbaaGreatDoorKPc
import Derived.Lib.Hide
/- A module in memory, by its parts. -/
namespace Go.Proofs.YtfpeboeknjlkbaaGreatDoor
open Go.RowKit
open Tp (X S G Pr)

theorem bs_size (l : List UInt8) : (bs l).size = l.length := by simp [bs, ByteArray.size]
theorem bs_back (l : List UInt8) : (bs l).data.toList = l := by simp [bs]
theorem cell_box5 {w : World} {b : Nat} {v0 v1 v2 v3 v4 : Value} {t : TypeId} (h : w.heap[b]? = some (.cells #[v0, v1, v2, v3, v4] t (0, 0))) : w.cell? ⟨b, 0, none⟩ = some v0 ∧ w.cell? ⟨b, 1, none⟩ = some v1 ∧ w.cell? ⟨b, 2, none⟩ = some v2 ∧ w.cell? ⟨b, 3, none⟩ = some v3 ∧ w.cell? ⟨b, 4, none⟩ = some v4 :=
  ⟨(cell_blk h).trans rfl, (cell_blk h).trans rfl, (cell_blk h).trans rfl, (cell_blk h).trans rfl, (cell_blk h).trans rfl⟩
theorem gcs_get : ∀ (l : List G) (i : Nat) (h : i < l.length) (j : Nat), j < 4 → (gcs l)[i * 4 + j]? = (gcells (bs l[i].name) (l[i].pos : Int) (l[i].len : Int) l[i].seen).toList[j]? := by
  intro l
  induction l with
  | nil => intro i h; simp at h
  | cons g l ih =>
    intro i h j hj
    have e : gcs (g :: l) = (gcells (bs g.name) (g.pos : Int) (g.len : Int) g.seen).toList ++ gcs l := rfl
    rw [e]
    cases i with
    | zero => rw [Nat.zero_mul, Nat.zero_add, List.getElem?_append_left (by simpa [gcells] using hj)]; rfl
    | succ i =>
      rw [List.getElem?_append_right (by simp [gcells]; omega)]
      have : (i + 1) * 4 + j - (gcells (bs g.name) (g.pos : Int) (g.len : Int) g.seen).toList.length = i * 4 + j := by simp [gcells]; omega
      rw [this, ih i (by simpa using h) j hj]
      rfl
theorem repp_get {w : World} {D : Nat → Prop} : ∀ (l : List Pr) (cs : List Value), RepP w D l cs → ∀ (i : Nat) (h : i < l.length), ∃ (pv vv bv : Value) (bcs : List Value),
    (∀ j, j < 6 → cs[i * 6 + j]? = (pcells (bs l[i].name) (l[i].pos : Int) l[i].seen pv vv bv).toList[j]?) ∧ Row w D 9 1 pv l[i].params.length (strs l[i].params) ∧ Row w D 9 1 vv l[i].vars.length (strs l[i].vars) ∧ RepS w D l[i].body bcs ∧ OwnS w D bv l[i].body.length bcs := by
  intro l
  induction l with
  | nil => intro cs _ i h; simp at h
  | cons c l ih =>
    intro cs hr i h
    obtain ⟨pv, vv, bv, bcs, cs', h1, h2, h3, h4, h5, h6⟩ := hr
    subst h1
    cases i with
    | zero =>
      refine ⟨pv, vv, bv, bcs, fun j hj => ?_, h2, h3, h4, h5⟩
      rw [Nat.zero_mul, Nat.zero_add, List.getElem?_append_left (by simpa [pcells] using hj)]
      rfl
    | succ i =>
      obtain ⟨pv', vv', bv', bcs', q1, q2⟩ := ih cs' h6 i (by simpa using h)
      refine ⟨pv', vv', bv', bcs', fun j hj => ?_, q2⟩
      rw [List.getElem?_append_right (by simp [pcells]; omega)]
      have : (i + 1) * 6 + j - (pcells (bs c.name) (c.pos : Int) c.seen pv vv bv).toList.length = i * 6 + j := by simp [pcells]; omega
      rw [this, q1 j hj]
      rfl
theorem row_cell {w : World} {D : Nat → Prop} {e size n : Nat} {v : Value} {cs : List Value} (h : Row w D e size v n cs) (hn : 0 < n) : ∃ g cap, v = .slice (some ⟨g, 0, none⟩) n cap ∧ D g ∧ g < w.heap.size ∧ ∀ k, k < n * size → w.cell? ⟨g, k, none⟩ = cs[k]? := by
  rcases h with ⟨_, h2, _⟩ | ⟨g, cap, cur, h1, h2, h3, h4, h5, h6, h7⟩
  · omega
  · refine ⟨g, cap, h1, h2, lt_blk h3, fun k hk => ?_⟩
    rw [cell_blk h3, ← Array.getElem?_toList, ← h7, List.getElem?_take_of_lt hk]
theorem take_map_succ {α : Type} (f : α → List (List UInt8)) (l : List α) (i : Nat) (h : i < l.length) : ((l.take (i + 1)).map f).flatten.flatten = ((l.take i).map f).flatten.flatten ++ (f l[i]).flatten := by
  rw [List.take_succ_eq_append_getElem h, List.map_append, List.flatten_append, List.flatten_append]
  simp
theorem take_map_le {α : Type} (f : α → List (List UInt8)) (l : List α) (i : Nat) : ((l.take i).map f).flatten.flatten.length ≤ (l.map f).flatten.flatten.length := by
  conv => rhs; rw [← List.take_append_drop i l, List.map_append, List.flatten_append, List.flatten_append, List.length_append]
  omega
/- a module that lies below B -/
structure MB (w : World) (B : Nat) (m : Tp.M) (ia ga pa ba : Option Addr) (ic gc pc bc : Nat) : Prop where
  im : Row w (fun i => i < B) 9 1 (.slice ia m.imports.length ic) m.imports.length (strs m.imports)
  gl : Row w (fun i => i < B) 69 4 (.slice ga m.vars.length gc) m.vars.length (gcs m.vars)
  pr : ∃ pcs, RepP w (fun i => i < B) m.procs pcs ∧ Row w (fun i => i < B) 73 6 (.slice pa m.procs.length pc) m.procs.length pcs
  bd : ∃ bcs, RepS w (fun i => i < B) m.body bcs ∧ OwnS w (fun i => i < B) (.slice ba m.body.length bc) m.body.length bcs
theorem VM.mb {B : Nat} {m : Tp.M} {v : Value} {w : World} (h : VM B m v w) : ∃ ia ga pa ba ic gc pc bc, v = .agg (mcells (bs m.name) (.slice ia m.imports.length ic) (.slice ga m.vars.length gc) (.slice pa m.procs.length pc) (.slice ba m.body.length bc)) ∧ MB w w.heap.size m ia ga pa ba ic gc pc bc := by
  obtain ⟨ia, ga, pa, ba, ic, gc, pc, bc, pcs, bcs, h1, h2, h3, h4, h5, h6, h7⟩ := h
  refine ⟨ia, ga, pa, ba, ic, gc, pc, bc, h1, ⟨h2.mono fun _ _ hl => ⟨rfl, hl⟩, h3.mono fun _ _ hl => ⟨rfl, hl⟩, ⟨pcs, h4.mono (fun _ _ hl => ⟨rfl, hl⟩) _ _, h5.mono fun _ _ hl => ⟨rfl, hl⟩⟩, ⟨bcs, h6.mono' fun _ _ hl => ⟨rfl, hl⟩, h7.mono fun _ _ hl => ⟨rfl, hl⟩⟩⟩⟩
theorem MB.on {w w' : World} {B : Nat} {m : Tp.M} {ia ga pa ba : Option Addr} {ic gc pc bc : Nat} (h : MB w B m ia ga pa ba ic gc pc bc) (k : Below B w w') : MB w' B m ia ga pa ba ic gc pc bc := by
  have hk : ∀ b, b < B → b < w.heap.size → w'.heap[b]? = w.heap[b]? ∧ b < B := fun b hi _ => ⟨k.block b hi, hi⟩
  obtain ⟨pcs, p1, p2⟩ := h.pr
  obtain ⟨bcs, b1, b2⟩ := h.bd
  exact ⟨h.im.mono hk, h.gl.mono hk, ⟨pcs, p1.mono hk _ _, p2.mono hk⟩, ⟨bcs, b1.mono' hk, b2.mono hk⟩⟩
theorem MB.up {w w' : World} {m : Tp.M} {ia ga pa ba : Option Addr} {ic gc pc bc : Nat} (h : MB w w.heap.size m ia ga pa ba ic gc pc bc) (k : Below w.heap.size w w') : MB w' w'.heap.size m ia ga pa ba ic gc pc bc := by
  have hk : ∀ b, b < w.heap.size → b < w.heap.size → w'.heap[b]? = w.heap[b]? ∧ b < w'.heap.size := fun b hi _ => ⟨k.block b hi, Nat.lt_of_lt_of_le hi k.size⟩
  obtain ⟨pcs, p1, p2⟩ := h.pr
  obtain ⟨bcs, b1, b2⟩ := h.bd
  exact ⟨h.im.mono hk, h.gl.mono hk, ⟨pcs, p1.mono hk _ _, p2.mono hk⟩, ⟨bcs, b1.mono' hk, b2.mono hk⟩⟩
end Go.Proofs.YtfpeboeknjlkbaaGreatDoor
