import Derived.Test.YtkpapioaijmidaaGreatDoorKWa
import Derived.Test.YtkpapioaijmidaaGreatDoorKGa
/- The document's own reader (package marquetryref) in memory: what its block, its tokens hold. -/
namespace Go.Proofs.YtkpapioaijmidaaGreatDoor
open Go.RowKit
open Tp (Tok hd tx at' stp)
open Nr (Fl fine)
structure Rp where
  rb : Nat
  tb : Nat
  cap : Nat
def kd (t : Tok) : Int := if t.kind = 0 then 4 else (t.kind : Int)
/- a token's three cells, as the reference has them -/
structure RTok (w : World) (b i : Nat) (t : Tok) : Prop where
  c0 : w.cell? ⟨b, i * 3, none⟩ = some (.int .i64 (kd t))
  c1 : w.cell? ⟨b, i * 3 + 1, none⟩ = some (.string (bs t.text))
  c2 : w.cell? ⟨b, i * 3 + 2, none⟩ = some (.int .i64 (t.pos : Int))
/- what the reader reads of the program's variables: Fine, levels; what strings.Contains, strconv.ParseUint read -/
def rlv : List Value := [.string ⟨#[111, 114]⟩, .string ⟨#[97, 110, 100]⟩, .string ⟨#[61, 32, 35, 32, 60, 32, 60, 61, 32, 62, 32, 62, 61]⟩, .string ⟨#[43, 32, 45]⟩, .string ⟨#[42, 32, 100, 105, 118, 32, 109, 111, 100]⟩]
structure Gl (w : World) : Prop where
  f0 : w.cell? ⟨0, 0, none⟩ = some (.int .i64 0)
  f1 : w.cell? ⟨0, 1, none⟩ = some (.int .i64 (-1))
  ml : ∃ m : Int, w.cell? ⟨6, 0, none⟩ = some (.int .i64 m)
  lv : ∀ i, i < 5 → w.cell? ⟨5, i, none⟩ = some (rlv.getD i undef)
  er : ∃ ev, w.cell? ⟨4, 0, none⟩ = some ev ∧ (ev = .nilIface ∨ ∃ te pe, ev = .iface te pe)
def glb : List Nat := [0, 6, 5, 4]
theorem Gl.keep {w w' : World} (h : Gl w) (o : ∀ i ∈ glb, ∀ (j : Nat) (v : Value), w.cell? ⟨i, j, none⟩ = some v → w'.cell? ⟨i, j, none⟩ = some v) : Gl w' :=
  ⟨o _ (by simp [glb]) _ _ h.f0, o _ (by simp [glb]) _ _ h.f1, h.ml.imp fun _ x => o _ (by simp [glb]) _ _ x, fun i hi => o _ (by simp [glb]) _ _ (h.lv i hi), h.er.imp fun _ x => ⟨o _ (by simp [glb]) _ _ x.1, x.2⟩⟩
/- the reader's own block; r: the tokens to come; bad: what was wrong first -/
structure RS (w : World) (q : Rp) (ts r : List Tok) (bad : Fl) : Prop where
  c0 : w.cell? ⟨q.rb, 0, none⟩ = some (.slice (some ⟨q.tb, (ts.length - r.length) * 3, none⟩) r.length (q.cap - (ts.length - r.length)))
  c1 : w.cell? ⟨q.rb, 1, none⟩ = some (.int .i64 bad.1)
  c2 : w.cell? ⟨q.rb, 2, none⟩ = some (.int .i64 bad.2)
  fz : ∀ j, w.frozen? ⟨q.rb, j, none⟩ = false
  toks : ∀ i t, ts[i]? = some t → RTok w q.tb i t
  suf : ts.drop (ts.length - r.length) = r
  ne : r ≠ []
  len : ts.length ≤ 1000
  cp : ts.length ≤ q.cap
  last : ∀ t, ts.getLast? = some t → t.kind = 0
  apart : q.tb < q.rb
  tl : ∀ t, t ∈ ts → t.text.length ≤ 100000 ∧ t.pos ≤ 100000 ∧ t.kind ≤ 3
  txt : ∀ t, t ∈ ts → t.kind = 0 → t.text = []
  dig : ∀ t, t ∈ ts → t.kind = 2 → t.text ≠ [] ∧ ∀ c, c ∈ t.text → Tp.digit c = true
  gl : Gl w
  glt : ∀ i ∈ glb, i < q.rb
theorem RS.belowB {w w' : World} {q : Rp} {ts r : List Tok} {bad : Fl} {B : Nat} (h : RS w q ts r bad) (k : Below B w w') (hp : q.rb < B) : RS w' q ts r bad := by
  have e : ∀ i j, i < B → w'.cell? ⟨i, j, none⟩ = w.cell? ⟨i, j, none⟩ := fun i j hi => k.cell (p := ⟨i, j, none⟩) hi
  have ht : q.tb < B := by have := h.apart; omega
  exact ⟨(e _ 0 hp).trans h.c0, (e _ 1 hp).trans h.c1, (e _ 2 hp).trans h.c2, fun j => (k.frozen (p := ⟨q.rb, j, none⟩) hp).trans (h.fz j),
    fun i t hi => ⟨(e _ _ ht).trans (h.toks i t hi).c0, (e _ _ ht).trans (h.toks i t hi).c1, (e _ _ ht).trans (h.toks i t hi).c2⟩, h.suf, h.ne, h.len, h.cp, h.last, h.apart, h.tl, h.txt, h.dig, h.gl.keep fun i hi j v hv => (e _ _ (Nat.lt_trans (h.glt i hi) hp)).trans hv, h.glt⟩
theorem RS.below {w w' : World} {q : Rp} {ts r : List Tok} {bad : Fl} (h : RS w q ts r bad) (k : Below w.heap.size w w') : RS w' q ts r bad := h.belowB k (lt_of_cell h.c0)
theorem RS.hd {w : World} {q : Rp} {ts r : List Tok} {bad : Fl} (h : RS w q ts r bad) : ts[ts.length - r.length]? = some (hd r) ∧ ts.length - r.length < ts.length ∧ 0 < r.length ∧ r.length ≤ ts.length := by
  have h1 := h.suf
  have h2 := h.ne
  cases r with
  | nil => exact absurd rfl h2
  | cons t l =>
    have hl : (t :: l).length ≤ ts.length := by
      have := congrArg List.length h1
      simp only [List.length_drop] at this
      omega
    have h3 : (ts.drop (ts.length - (t :: l).length))[0]? = some t := by rw [h1]; rfl
    rw [List.getElem?_drop, Nat.add_zero] at h3
    refine ⟨by rw [h3]; rfl, ?_, by simp, hl⟩
    rw [List.getElem?_eq_some_iff] at h3
    exact h3.1
theorem RS.stp_of {w : World} {q : Rp} {ts r : List Tok} {bad : Fl} (h : RS w q ts r bad) (hk : (Tp.hd r).kind ≠ 0) : stp r = r.tail ∧ r.tail ≠ [] ∧ r.length = r.tail.length + 1 ∧ r.length ≤ ts.length ∧ ts.drop (ts.length - r.tail.length) = r.tail := by
  have h1 := h.suf
  have h2 := h.ne
  cases r with
  | nil => exact absurd rfl h2
  | cons t l =>
    have hl : (t :: l).length ≤ ts.length := by
      have := congrArg List.length h1
      simp only [List.length_drop] at this
      omega
    have hne : l ≠ [] := by
      intro e
      subst e
      have := h.last t (by
        have h4 := List.getLast?_drop (i := ts.length - [t].length) (l := ts)
        rw [h1, if_neg (by simp at hl ⊢; omega)] at h4
        rw [← h4]; rfl)
      exact hk this
    refine ⟨by simp [stp, hk], hne, by simp, hl, ?_⟩
    simp only [List.tail_cons]
    have e : ts.length - l.length = (ts.length - (t :: l).length) + 1 := by simp at hl ⊢; omega
    rw [e, ← List.drop_drop, h1]
    rfl
end Go.Proofs.YtkpapioaijmidaaGreatDoor
