import Derived.Test.YtijhpokclpdjpaaGreatDoorKXb
import Derived.Test.YtijhpokclpdjpaaGreatDoorKJc
import Derived.Test.YtijhpokclpdjpaaGreatDoorKJh
import Derived.Test.YtijhpokclpdjpaaGreatDoorKJe
import Derived.Maps.OwnSet
import Derived.Maps.OwnOps
/- The document's own Read: what is there while it reads. -/
namespace Go.Proofs.YtijhpokclpdjpaaGreatDoor
open Go.RowKit
open Ob (Bs)

/- what stands: two variables, the taker, the object's block; what was read ahead (A), below C -/
structure Rs (w0 : World) (tvb ovb tb ob C : Nat) (A : World → Prop) (W : World) (cs : List Value) (st : Option Bs) : Prop where
  kt : W.heap[tvb]? = some (.cells #[.pointer (some ⟨tb, 0, none⟩)] 74 (0, 0))
  ko : W.heap[ovb]? = some (.cells #[.pointer (some ⟨ob, 0, none⟩)] 22 (0, 0))
  kb : W.heap[ob]? = some (.cells cs.toArray 45 (0, 0))
  tk : Tk W tb st
  a : A W
  bel : Below w0.heap.size w0 W
  n1 : tvb ≠ tb ∧ tvb ≠ ob ∧ ovb ≠ tb ∧ ovb ≠ ob ∧ ob ≠ tb
  l1 : tvb < C ∧ ovb < C ∧ tb < C ∧ ob < C
  g1 : w0.heap.size ≤ tb ∧ w0.heap.size ≤ ob ∧ w0.heap.size ≤ C
  CC : C ≤ W.heap.size
/- what was read ahead stays, whatever is done elsewhere -/
def Keeps (tb ob C : Nat) (A : World → Prop) : Prop := ∀ W W', A W → C ≤ W.heap.size → (∀ k, k < C → k ≠ tb → k ≠ ob → W'.heap[k]? = W.heap[k]?) → A W'
section
variable {w0 : World} {tvb ovb tb ob C : Nat} {A : World → Prop} {W W' : World} {cs : List Value} {st st' : Option Bs}
theorem Rs.take (h : Rs w0 tvb ovb tb ob C A W cs st) (hK : Keeps tb ob C A) (hx : Ext tb W W') (ht : Tk W' tb st') : Rs w0 tvb ovb tb ob C A W' cs st' := by
  obtain ⟨p1, p2, p3, p4, p5⟩ := h.n1
  obtain ⟨q1, q2, q3, q4⟩ := h.l1
  have hC := h.CC
  exact ⟨(hx.block tvb (by omega) p1).trans h.kt, (hx.block ovb (by omega) p3).trans h.ko, (hx.block ob (by omega) p5).trans h.kb, ht, hK W W' h.a hC (fun k hk h1 _ => hx.block k (by omega) h1), h.bel.trans (hx.toBelow h.g1.1 h.bel.size), h.n1, h.l1, h.g1, Nat.le_trans hC hx.size⟩
theorem Rs.grow (h : Rs w0 tvb ovb tb ob C A W cs st) (hK : Keeps tb ob C A) (hx : Below C W W') : Rs w0 tvb ovb tb ob C A W' cs st := by
  obtain ⟨q1, q2, q3, q4⟩ := h.l1
  have hC := h.CC
  obtain ⟨l, t1, t2⟩ := h.tk.c
  exact ⟨(hx.block tvb q1).trans h.kt, (hx.block ovb q2).trans h.ko, (hx.block ob q4).trans h.kb, ⟨l, (hx.block tb q3).trans t1, t2⟩, hK W W' h.a hC (fun k hk _ _ => hx.block k hk), h.bel.trans (hx.mono h.g1.2.2), h.n1, h.l1, h.g1, Nat.le_trans hC hx.size⟩
theorem Rs.put (h : Rs w0 tvb ovb tb ob C A W cs st) (hK : Keeps tb ob C A) (j : Nat) (v : Value) : Rs w0 tvb ovb tb ob C A (W.setCell ⟨ob, j, none⟩ v) (cs.set j v) st := by
  obtain ⟨p1, p2, p3, p4, p5⟩ := h.n1
  have hC := h.CC
  have e : ∀ k, k ≠ ob → (W.setCell ⟨ob, j, none⟩ v).heap[k]? = W.heap[k]? := fun k hk => Below.heap_setCell _ _ _ _ (by simpa using hk)
  obtain ⟨l, t1, t2⟩ := h.tk.c
  refine ⟨(e _ p2).trans h.kt, (e _ p4).trans h.ko, ?_, ⟨l, (e _ (Ne.symm p5)).trans t1, t2⟩, hK W _ h.a hC (fun k _ _ h2 => e k h2), h.bel.trans (below_set (Below.refl _ _) h.g1.2.1 j v), h.n1, h.l1, h.g1, by simpa using hC⟩
  have := set_blk j v h.kb
  rw [this]
  simp
theorem Rs.new (h : Rs w0 tvb ovb tb ob C A W cs st) (hK : Keeps tb ob C A) (hx : Below W.heap.size W W') : Rs w0 tvb ovb tb ob C A W' cs st := h.grow hK (hx.mono h.CC)
end
/- what was read of so many: how it goes on -/
def Rel {α : Type} (one : Ob.Rd α) (s0 : Option Bs) (k : Nat) (st : Option Bs) (xs : List α) : Prop :=
  xs.length ≤ k ∧ k ≤ 1000000 ∧ (∀ r, st = some r → s0.bind (Ob.repR one k) = some (xs, r)) ∧ (st = none → ∀ n, k ≤ n → s0.bind (Ob.repR one n) = none)
theorem Rel.zero {α : Type} (one : Ob.Rd α) (s0 : Option Bs) : Rel one s0 0 s0 [] := ⟨by simp, by omega, fun r h => by rw [h]; rfl, fun h n _ => by rw [h]; rfl⟩
theorem repR_snoc {α : Type} (one : Ob.Rd α) : ∀ (k : Nat) (l : Bs), Ob.repR one (k + 1) l = (Ob.repR one k l).bind fun x => (one x.2).map fun y => (x.1 ++ [y.1], y.2) := by
  intro k
  induction k with
  | zero => intro l; show (one l).bind _ = (some ([], l)).bind _; rcases h : one l with _ | ⟨x, r⟩ <;> simp [Ob.repR, h]
  | succ k ih =>
    intro l
    show (one l).bind (fun x => (Ob.repR one (k + 1) x.2).map fun y => (x.1 :: y.1, y.2)) = ((one l).bind fun x => (Ob.repR one k x.2).map fun y => (x.1 :: y.1, y.2)).bind _
    rcases h : one l with _ | ⟨x, r⟩
    · rfl
    · simp only [Option.bind_some]
      rw [ih r]
      rcases h2 : Ob.repR one k r with _ | ⟨ys, r2⟩
      · rfl
      · simp only [Option.bind_some, Option.map_some]
        rcases h3 : one r2 with _ | ⟨y, r3⟩ <;> simp
theorem repR_more {α : Type} (one : Ob.Rd α) (l : Bs) (k : Nat) (h : Ob.repR one k l = none) : ∀ n, k ≤ n → Ob.repR one n l = none := by
  intro n hn
  induction n with
  | zero => have : k = 0 := by omega
            subst this; exact h
  | succ n ih =>
    by_cases hk : k ≤ n
    · rw [repR_snoc, ih hk]; rfl
    · have : k = n + 1 := by omega
      subst this; exact h
theorem rep_short {α : Type} {one : Ob.Rd α} (h1 : ∀ l x r, one l = some (x, r) → r.length < l.length) : ∀ (k : Nat) (l : Bs) (xs : List α) (r : Bs), Ob.repR one k l = some (xs, r) → k + r.length ≤ l.length := by
  intro k
  induction k with
  | zero => intro l xs r h; simp [Ob.repR] at h; rw [h.2]; omega
  | succ k ih =>
    intro l xs r h
    rw [repR_snoc] at h
    obtain ⟨⟨ys, r1⟩, h2, h3⟩ := bind_some' h
    obtain ⟨⟨y, r2⟩, h4, h5⟩ := map_some' h3
    cases h5
    have := ih _ _ _ h2
    have := h1 _ _ _ h4
    simp only at *
    omega
theorem Rel.next {α : Type} {one : Ob.Rd α} (h1 : ∀ l x r, one l = some (x, r) → r.length < l.length) {s0 : Option Bs} (hs : ∀ r, s0 = some r → r.length ≤ 999999) {k : Nat} {r : Bs} {xs : List α} (h : Rel one s0 k (some r) xs) (x : α) (hx : ∀ y r', one r = some (y, r') → y = x) : Rel one s0 (k + 1) ((one r).map (·.2)) (xs ++ [x]) := by
  obtain ⟨a1, a2, a3, a4⟩ := h
  have hb := a3 r rfl
  rcases s0 with _ | l
  · cases hb
  · have hb' : Ob.repR one k l = some (xs, r) := hb
    have hle := rep_short h1 k l xs r hb'
    have hl := hs l rfl
    refine ⟨by simp; omega, by omega, fun r' hr' => ?_, fun hn n hkn => ?_⟩
    · show Ob.repR one (k + 1) l = _
      rw [repR_snoc, hb']
      rcases ho : one r with _ | ⟨y, r2⟩
      · rw [ho] at hr'; cases hr'
      · rw [ho] at hr'
        cases hr'
        have := hx y r2 ho
        simp only [Option.bind_some, ho, Option.map_some]
        rw [this]
    · show Ob.repR one n l = none
      refine repR_more one l (k + 1) ?_ n hkn
      rw [repR_snoc, hb']
      rcases ho : one r with _ | ⟨y, r2⟩
      · simp [ho]
      · rw [ho] at hn; cases hn
theorem Rel.room {α : Type} {one : Ob.Rd α} (h1 : ∀ l x r, one l = some (x, r) → r.length < l.length) {s0 : Option Bs} (hs : ∀ r, s0 = some r → r.length ≤ 999999) {k : Nat} {r : Bs} {xs : List α} (h : Rel one s0 k (some r) xs) : xs.length ≤ 1000000 := by
  obtain ⟨a1, a2, a3, a4⟩ := h
  have hb := a3 r rfl
  rcases s0 with _ | l
  · cases hb
  · have hle := rep_short h1 k l xs r hb
    have hl := hs l rfl
    omega
theorem Rel.bad {α : Type} {one : Ob.Rd α} (h1 : ∀ l x r, one l = some (x, r) → r.length < l.length) {s0 : Option Bs} (hs : ∀ r, s0 = some r → r.length ≤ 999999) {k : Nat} {r : Bs} {xs : List α} (h : Rel one s0 k (some r) xs) (hn : one r = none) : Rel one s0 (k + 1) none xs := by
  obtain ⟨a1, a2, a3, a4⟩ := h
  have hb := a3 r rfl
  rcases s0 with _ | l
  · cases hb
  · have hb' : Ob.repR one k l = some (xs, r) := hb
    have hle := rep_short h1 k l xs r hb'
    have hl := hs l rfl
    refine ⟨by omega, by omega, fun r' hr' => (by cases hr'), fun _ n hkn => ?_⟩
    show Ob.repR one n l = none
    refine repR_more one l (k + 1) ?_ n hkn
    rw [repR_snoc, hb']
    simp [hn]
theorem Rel.done {α : Type} {one : Ob.Rd α} {s0 st : Option Bs} {k n : Nat} {xs : List α} (h : Rel one s0 k st xs) (hk : k ≤ n) (he : ∀ r, st = some r → k = n) : (s0.bind (Ob.repR one n)).map (·.2) = st ∧ ∀ ys r, s0.bind (Ob.repR one n) = some (ys, r) → ys = xs := by
  obtain ⟨a1, a2, a3, a4⟩ := h
  rcases st with _ | r
  · rw [a4 rfl n hk]; exact ⟨rfl, fun ys r h => by cases h⟩
  · obtain rfl := he r rfl
    rw [a3 r rfl]
    exact ⟨rfl, fun ys r' h => by cases h; rfl⟩
/- each takes a byte at least -/
theorem txtT_lt {l r s : Bs} (h : Ob.txtT l = some (s, r)) : r.length < l.length := by
  unfold Ob.txtT at h
  obtain ⟨⟨n, r1⟩, h1, h2⟩ := bind_some' h
  have := (numT_rng h1).2
  simp only at h2
  split at h2
  · cases h2; simp; omega
  · cases h2
theorem num3_lt {α : Type} {f : Int → Int → Int → α} {l r : Bs} {x : α} (h : ((Ob.numT l).bind fun x => (Ob.numT x.2).bind fun y => (Ob.numT y.2).map fun z => (f x.1 y.1 z.1, z.2)) = some (x, r)) : r.length < l.length := by
  obtain ⟨⟨a, r1⟩, h1, h⟩ := bind_some' h
  obtain ⟨⟨b, r2⟩, h2, h⟩ := bind_some' h
  obtain ⟨⟨c, r3⟩, h3, h⟩ := map_some' h
  cases h
  have := (numT_rng h1).2
  have := (numT_rng h2).2
  have := (numT_rng h3).2
  simp only at *
  omega
theorem enT_lt {l r : Bs} {x : Ob.En} (h : Ob.enT l = some (x, r)) : r.length < l.length := num3_lt (f := fun a b c => (⟨a, b, c⟩ : Ob.En)) h
theorem inT_lt {l r : Bs} {x : Ob.In} (h : Ob.inT l = some (x, r)) : r.length < l.length := num3_lt (f := fun a b c => (⟨a, b, c⟩ : Ob.In)) h
theorem symT_lt {l r : Bs} {x : Ob.Sm} (h : Ob.symT l = some (x, r)) : r.length < l.length := by
  unfold Ob.symT at h
  obtain ⟨⟨a, r1⟩, h1, h⟩ := bind_some' h
  obtain ⟨⟨b, r2⟩, h2, h⟩ := bind_some' h
  obtain ⟨⟨c, r3⟩, h3, h⟩ := map_some' h
  cases h
  have := txtT_lt h1
  have := (numT_rng h2).2
  have := (numT_rng h3).2
  simp only at *
  omega
theorem glT_lt {l r : Bs} {x : Ob.Gl} (h : Ob.glT l = some (x, r)) : r.length < l.length := by
  unfold Ob.glT at h
  obtain ⟨⟨a, r1⟩, h1, h⟩ := bind_some' h
  obtain ⟨⟨b, r2⟩, h2, h⟩ := bind_some' h
  obtain ⟨⟨c, r3⟩, h3, h⟩ := map_some' h
  cases h
  have := txtT_lt h1
  have := (numT_rng h2).2
  simp only at *
  cases r2 with
  | nil => simp [Ob.flagT] at h3
  | cons d r2 => simp [Ob.flagT] at h3; rw [← h3.2]; simp at *; omega
theorem listT_le {α : Type} {one : Ob.Rd α} (h1 : ∀ l x r, one l = some (x, r) → r.length < l.length) {l r : Bs} {xs : List α} (h : Ob.listT one l = some (xs, r)) : r.length < l.length := by
  unfold Ob.listT at h
  obtain ⟨⟨n, r1⟩, h2, h3⟩ := bind_some' h
  have := (numT_rng h2).2
  have := rep_short h1 _ _ _ _ h3
  simp only at *
  omega
theorem useT_lt {l r : Bs} {x : Ob.Us} (h : Ob.useT l = some (x, r)) : r.length < l.length := by
  unfold Ob.useT at h
  obtain ⟨⟨a, r1⟩, h1, h⟩ := bind_some' h
  obtain ⟨⟨b, r2⟩, h2, h⟩ := bind_some' h
  obtain ⟨⟨c, r3⟩, h3, h⟩ := map_some' h
  cases h
  have := txtT_lt h1
  have := txtT_lt h2
  have := listT_le (fun l x r hh => txtT_lt hh) h3
  simp only at *
  omega
end Go.Proofs.YtijhpokclpdjpaaGreatDoor
/- The document's own Read: three, one behind the other. -/
namespace Go.Proofs.YtijhpokclpdjpaaGreatDoor
open Go.RowKit
open Ob (Bs)
theorem seq3 {α β γ δ : Type} {p : Ob.Rd α} {q : Ob.Rd β} {s : Ob.Rd γ} (f : α → β → γ → δ) {r : Bs} {x : α} {y : β} {z : γ} (hx : ∀ y r', (some r).bind p = some (y, r') → y = x) (hy : ∀ y' r', (((some r).bind p).map (·.2)).bind q = some (y', r') → y' = y) (hz : ∀ y' r', (((((some r).bind p).map (·.2)).bind q).map (·.2)).bind s = some (y', r') → y' = z) :
    ((p r).bind fun x => (q x.2).bind fun y => (s y.2).map fun z => (f x.1 y.1 z.1, z.2)).map (·.2) = ((((((some r).bind p).map (·.2)).bind q).map (·.2)).bind s).map (·.2) ∧
      ∀ w r', ((p r).bind fun x => (q x.2).bind fun y => (s y.2).map fun z => (f x.1 y.1 z.1, z.2)) = some (w, r') → w = f x y z := by
  simp only [Option.bind_some] at *
  rcases h1 : p r with _ | ⟨a, r1⟩
  · exact ⟨rfl, fun w r' h => by cases h⟩
  · have e1 := hx a r1 h1
    rw [h1] at hy hz
    simp only [Option.map_some, Option.bind_some] at hy hz ⊢
    rcases h2 : q r1 with _ | ⟨b, r2⟩
    · exact ⟨rfl, fun w r' h => by cases h⟩
    · have e2 := hy b r2 h2
      rw [h2] at hz
      simp only [Option.map_some, Option.bind_some] at hz ⊢
      rcases h3 : s r2 with _ | ⟨c, r3⟩
      · exact ⟨rfl, fun w r' h => by cases h⟩
      · have e3 := hz c r3 h3
        refine ⟨rfl, fun w r' h => ?_⟩
        cases h
        rw [e1, e2, e3]
theorem syms_seq {r s : Bs} {a b : Int} (hx : ∀ y r', (some r).bind Ob.txtT = some (y, r') → y = s) (hy : ∀ y' r', (((some r).bind Ob.txtT).map (·.2)).bind Ob.numT = some (y', r') → y' = a) (hz : ∀ y' r', (((((some r).bind Ob.txtT).map (·.2)).bind Ob.numT).map (·.2)).bind Ob.numT = some (y', r') → y' = b) :
    (Ob.symT r).map (·.2) = ((((((some r).bind Ob.txtT).map (·.2)).bind Ob.numT).map (·.2)).bind Ob.numT).map (·.2) ∧ ∀ w r', Ob.symT r = some (w, r') → w = ⟨s, a, b⟩ := seq3 (fun x y z => (⟨x, y, z⟩ : Ob.Sm)) hx hy hz
theorem procs_seq {r : Bs} {s a b : Int} (hx : ∀ y r', (some r).bind Ob.numT = some (y, r') → y = s) (hy : ∀ y' r', (((some r).bind Ob.numT).map (·.2)).bind Ob.numT = some (y', r') → y' = a) (hz : ∀ y' r', (((((some r).bind Ob.numT).map (·.2)).bind Ob.numT).map (·.2)).bind Ob.numT = some (y', r') → y' = b) :
    (Ob.enT r).map (·.2) = ((((((some r).bind Ob.numT).map (·.2)).bind Ob.numT).map (·.2)).bind Ob.numT).map (·.2) ∧ ∀ w r', Ob.enT r = some (w, r') → w = ⟨s, a, b⟩ := seq3 (fun x y z => (⟨x, y, z⟩ : Ob.En)) hx hy hz
theorem code_seq {r : Bs} {s a b : Int} (hx : ∀ y r', (some r).bind Ob.numT = some (y, r') → y = s) (hy : ∀ y' r', (((some r).bind Ob.numT).map (·.2)).bind Ob.numT = some (y', r') → y' = a) (hz : ∀ y' r', (((((some r).bind Ob.numT).map (·.2)).bind Ob.numT).map (·.2)).bind Ob.numT = some (y', r') → y' = b) :
    (Ob.inT r).map (·.2) = ((((((some r).bind Ob.numT).map (·.2)).bind Ob.numT).map (·.2)).bind Ob.numT).map (·.2) ∧ ∀ w r', Ob.inT r = some (w, r') → w = ⟨s, a, b⟩ := seq3 (fun x y z => (⟨x, y, z⟩ : Ob.In)) hx hy hz
end Go.Proofs.YtijhpokclpdjpaaGreatDoor
/- The document's own Read: syms. -/
namespace Go.Proofs.YtijhpokclpdjpaaGreatDoor
open Go.RowKit
open Ob (Bs)
set_option maxRecDepth 100000 in
set_option maxHeartbeats 4000000 in
theorem read_syms {w0 W : World} {tvb ovb tb ob C : Nat} {A : World → Prop} {f0 f2 f3 f4 f5 f6 v : Value} {r : Bs} {xs : List Ob.Sm} (h : Rs w0 tvb ovb tb ob C A W [f0, v, f2, f3, f4, f5, f6] (some r)) (hK : Keeps tb ob C A) (hown : W.ownsRow C 52 3 v xs.length (cellsOf smC xs)) (hxl : xs.length ≤ 1000000) :
    Calls Tryz.prog 34 #[.pointer (some ⟨tvb, 0, none⟩), .pointer (some ⟨ovb, 0, none⟩)] W fun e w' => e = .returned (.tuple #[]) ∧ ∃ x v', Rs w0 tvb ovb tb ob C A w' [f0, v', f2, f3, f4, f5, f6] ((Ob.symT r).map (·.2)) ∧ w'.ownsRow C 52 3 v' (xs.length + 1) (cellsOf smC (xs ++ [x])) ∧ x.name.length ≤ 1000000 ∧ ∀ y r', Ob.symT r = some (y, r') → y = x := by
  obtain ⟨va, vc, rfl⟩ := owns_shape hown
  obtain ⟨i3, hi3, hz30, hz31, hz32⟩ := info_parts Tryz.infoSym
  have HK := Lib.hid hK
  have HO := Lib.hid hown
  have HLT := Lib.hid (owns_lt hown)
  have HGE := Lib.hid (owns_row hown)
  have HR0 := Lib.hid h
  obtain ⟨p1, p2, p3, p4, p5⟩ := h.n1
  obtain ⟨q1, q2, q3, q4⟩ := h.l1
  have hCW := h.CC
  have t0 : W.cell? ⟨tvb, 0, none⟩ = some (.pointer (some ⟨tb, 0, none⟩)) := cell_blk h.kt
  have htv0 : tvb < W.heap.size := lt_of_cell t0
  have HPN : Hid (p1 = p1) := rfl
  have hxl' : (xs.length : Int) ≤ 1000000 := by omega
  have HC1 := Lib.hid (ttext_any h.tk)
  clear h hK hown HPN
  go_enter Tryz.func34, Tryz.ntmps34
  go_wp2_with fail
  refine HC1.out.mono ?_
  rintro e W1 ⟨s1, rfl, hb1, hx1, htk1, hv1⟩
  obtain ⟨u1, hu1⟩ : ∃ u1, Value.string (bs s1) = u1 := ⟨_, rfl⟩
  have HR1 := Lib.hid (HR0.out.take HK.out hx1 htk1)
  have t1 : W1.cell? ⟨tvb, 0, none⟩ = some (.pointer (some ⟨tb, 0, none⟩)) := cell_blk HR1.out.kt
  have htv1 : tvb < W1.heap.size := lt_of_cell t1
  have HV1 := Lib.hid hv1
  have hs01 := hx1.size
  clear hu1
  obtain ⟨xb, hxb⟩ : ∃ xb, xb = W1.heap.size := ⟨_, rfl⟩
  obtain ⟨W2, hW2⟩ : ∃ W2, W2 = W1.alloc (.cells #[.string (bs s1), .int .i64 0, .int .i64 0] 52) := ⟨_, rfl⟩
  have hbA : Below W1.heap.size W1 W2 := by rw [hW2]; exact (Below.refl _ _).alloc (Nat.le_refl _) _
  have hk2 : W2.heap[xb]? = some (.cells #[.string (bs s1), .int .i64 0, .int .i64 0] 52 (0, 0)) := by rw [hW2, hxb]; exact new_blk _ _
  have HR2 := Lib.hid (HR1.out.new HK.out hbA)
  have HKP2 : Hid (∀ g, C ≤ g → g < W.heap.size → W2.heap[g]? = W.heap[g]?) := fun g hg hl => (hbA.block g (by omega)).trans (hx1.block g hl (by omega))
  have hxbC : W.heap.size ≤ xb := by omega
  have HXB := Lib.hid hxbC
  have t2 : W2.cell? ⟨tvb, 0, none⟩ = some (.pointer (some ⟨tb, 0, none⟩)) := cell_blk HR2.out.kt
  have htv2 : tvb < W2.heap.size := lt_of_cell t2
  have htvx2 : tvb ≠ xb := by omega
  have hxl2 : xb < W2.heap.size := lt_blk hk2
  have HC2 := Lib.hid (tnum_any HR2.out.tk)
  have HW2 := Lib.hid hW2
  clear hx1 htk1 hv1 HC1 HR1 t0 hW2
  go_wp2_with fail
  rw [← HW2.out, ← hxb]
  clear HW2 hbA hs01 htv0 t1 htv1
  clear hxb
  refine HC2.out.mono ?_
  rintro e W3 ⟨⟨s2, rfl, hx, htk, hv⟩, hI⟩
  have hb2 := hI s2 rfl
  clear hI
  have HV2 := Lib.hid hv
  have HRn := Lib.hid (HR2.out.take HK.out hx htk)
  have hkn : W3.heap[xb]? = some (.cells #[.string (bs s1), .int .i64 0, .int .i64 0] 52 (0, 0)) := (hx.block xb hxl2 (by omega)).trans hk2
  have kc : W3.cell? ⟨xb, 1, none⟩ = some (.int .i64 0) := cell_blk hkn
  have kz : W3.frozen? ⟨xb, 1, none⟩ = false := frozen_blk hkn
  obtain ⟨W4, hW4⟩ : ∃ w, w = W3.setCell ⟨xb, 1, none⟩ (.int .i64 s2) := ⟨_, rfl⟩
  have hk4 : W4.heap[xb]? = some (.cells #[.string (bs s1), .int .i64 s2, .int .i64 0] 52 (0, 0)) := by rw [hW4]; exact set_blk 1 (.int .i64 s2) hkn
  have HR4 : Hid (Rs w0 tvb ovb tb ob C A W4 [f0, (.slice va xs.length vc), f2, f3, f4, f5, f6] (((((some r).bind Ob.txtT).map (·.2)).bind Ob.numT).map (·.2))) := by rw [hW4]; exact HRn.out.grow HK.out (below_set (Below.refl _ _) (by omega) 1 _)
  have HKP4 : Hid (∀ g, C ≤ g → g < W.heap.size → W4.heap[g]? = W.heap[g]?) := fun g hg hl => by
    rw [hW4, Below.heap_setCell _ _ _ _ (by have := HXB.out; simp; omega)]
    exact (hx.block g (by have := HXB.out; omega) (by omega)).trans (HKP2.out g hg hl)
  have t4 : W4.cell? ⟨tvb, 0, none⟩ = some (.pointer (some ⟨tb, 0, none⟩)) := cell_blk HR4.out.kt
  have htv4 : tvb < W4.heap.size := lt_of_cell t4
  have hxl4 : xb < W4.heap.size := lt_blk hk4
  have hxln : xb < W3.heap.size := lt_blk hkn
  have tn : W3.cell? ⟨tvb, 0, none⟩ = some (.pointer (some ⟨tb, 0, none⟩)) := cell_blk HRn.out.kt
  have HWs := Lib.hid hW4
  clear hW4 hx htk hv HC2 HR2 HRn hk2 hkn t2 htv2 hxl2 HKP2
  have HC3 := Lib.hid (tnum_any HR4.out.tk)
  go_wp2_with fail
  rw [← HWs.out]
  clear HWs kc kz hxln tn
  refine HC3.out.mono ?_
  rintro e W5 ⟨⟨s3, rfl, hx, htk, hv⟩, hI⟩
  have hb3 := hI s3 rfl
  clear hI
  have HV3 := Lib.hid hv
  have HRn := Lib.hid (HR4.out.take HK.out hx htk)
  have hkn : W5.heap[xb]? = some (.cells #[.string (bs s1), .int .i64 s2, .int .i64 0] 52 (0, 0)) := (hx.block xb hxl4 (by omega)).trans hk4
  have kc : W5.cell? ⟨xb, 2, none⟩ = some (.int .i64 0) := cell_blk hkn
  have kz : W5.frozen? ⟨xb, 2, none⟩ = false := frozen_blk hkn
  obtain ⟨W6, hW6⟩ : ∃ w, w = W5.setCell ⟨xb, 2, none⟩ (.int .i64 s3) := ⟨_, rfl⟩
  have hk6 : W6.heap[xb]? = some (.cells #[.string (bs s1), .int .i64 s2, .int .i64 s3] 52 (0, 0)) := by rw [hW6]; exact set_blk 2 (.int .i64 s3) hkn
  have HR6 : Hid (Rs w0 tvb ovb tb ob C A W6 [f0, (.slice va xs.length vc), f2, f3, f4, f5, f6] (((((((some r).bind Ob.txtT).map (·.2)).bind Ob.numT).map (·.2)).bind Ob.numT).map (·.2))) := by rw [hW6]; exact HRn.out.grow HK.out (below_set (Below.refl _ _) (by omega) 2 _)
  have HKP6 : Hid (∀ g, C ≤ g → g < W.heap.size → W6.heap[g]? = W.heap[g]?) := fun g hg hl => by
    rw [hW6, Below.heap_setCell _ _ _ _ (by have := HXB.out; simp; omega)]
    exact (hx.block g (by have := HXB.out; omega) (by omega)).trans (HKP4.out g hg hl)
  have t6 : W6.cell? ⟨tvb, 0, none⟩ = some (.pointer (some ⟨tb, 0, none⟩)) := cell_blk HR6.out.kt
  have htv6 : tvb < W6.heap.size := lt_of_cell t6
  have hxl6 : xb < W6.heap.size := lt_blk hk6
  have hxln : xb < W5.heap.size := lt_blk hkn
  have tn : W5.cell? ⟨tvb, 0, none⟩ = some (.pointer (some ⟨tb, 0, none⟩)) := cell_blk HRn.out.kt
  have HWs := Lib.hid hW6
  clear hW6 hx htk hv HC3 HR4 HRn hk4 hkn t4 htv4 hxl4 HKP4
  have o0 : W6.cell? ⟨ovb, 0, none⟩ = some (.pointer (some ⟨ob, 0, none⟩)) := cell_blk HR6.out.ko
  have kv : W6.cell? ⟨ob, 1, none⟩ = some (.slice va xs.length vc) := cell_blk HR6.out.kb
  have zv : W6.frozen? ⟨ob, 1, none⟩ = false := frozen_blk HR6.out.kb
  have hobl : ob < W6.heap.size := lt_of_cell kv
  have hovl : ovb < W6.heap.size := lt_of_cell o0
  have hOW : W6.ownsRow C 52 3 (.slice va xs.length vc) xs.length (cellsOf smC xs) := owns_keep HO.out (fun g hg hl _ => HKP6.out g hg hl)
  have kva : ∀ o', (W6.alloc o').cell? ⟨ob, 1, none⟩ = some (.slice va xs.length vc) := fun o' => cell_alloc kv o'
  have hCL : C ≤ W6.heap.size := HR6.out.CC
  have hneO : ovb ≠ ob := p4
  have hneX : xb ≠ ob := by have := HXB.out; omega
  have HAP : Hid (∀ (v' : Value) (w10 : World), ((W6.alloc (.cells #[.string (bs s1), .int .i64 s2, .int .i64 s3] 52)).drew).grownBy w10 (Value.slice va xs.length vc).ownBlock → Below C W6 w10 ∧ (∀ k, k < W6.heap.size → (k = ovb ∨ k = xb) → w10.heap[k]? = W6.heap[k]?)) := fun v' w10 hg => by
    have hbb : Below W6.heap.size W6 (W6.alloc (.cells #[.string (bs s1), .int .i64 s2, .int .i64 s3] 52)).drew := ((Below.refl _ _).alloc (Nat.le_refl _) _).drew
    refine ⟨(hbb.mono hCL).trans ((Below.refl _ _).grown hg (Nat.le_trans hCL hbb.size) HGE.out), fun k hk hor => ?_⟩
    refine (hg.block k (Nat.lt_of_lt_of_le hk hbb.size) (fun e => ?_)).trans (hbb.block k hk)
    have g1 := HLT.out k e.symm
    have g2 := HGE.out k e.symm
    have g3 := HXB.out
    omega
  go_wp2_with fail
  rw [← HWs.out]
  clear HWs kc kz hxln tn
  have oa : ∀ o', (W6.alloc o').cell? ⟨ovb, 0, none⟩ = some (.pointer (some ⟨ob, 0, none⟩)) := fun o' => cell_alloc o0 o'
  have x0 : W6.cell? ⟨xb, 0, none⟩ = some (.string (bs s1)) := cell_blk hk6
  have x1 : W6.cell? ⟨xb, 1, none⟩ = some (.int .i64 s2) := cell_blk hk6
  have x2 : W6.cell? ⟨xb, 2, none⟩ = some (.int .i64 s3) := cell_blk hk6
  go_region_law (first | (refine step_append_where rfl (.tmp 16) (.tmp 18) 38 rfl C 52 i3 (.agg #[.string ⟨#[]⟩, .int .i64 0, .int .i64 0]) 3 32 Tryz.underlying38 hi3 hz30 hz31 hz32 rfl (by decide) (.slice va xs.length vc) xs.length (cellsOf smC xs) (by simp [Act.eval]) (owns_below (ownsRow_alloc hOW _) (below_drew _)) ⟨W6.heap.size, 0, none⟩ 1 1 [.string (bs s1), .int .i64 s2, .int .i64 s3] (by simp [Act.eval]) rfl (news3 W6 _ _ _ _) (by intro u hu; simp at hu; rcases hu with rfl | rfl | rfl <;> rfl) (by unfold maxLen; omega) (by omega) (Nat.le_trans hCL (by simp)) ?_; intro v' w10 hown10 hgrow10 hwhere10; obtain ⟨hb10, hpr10⟩ := HAP.out v' w10 hgrow10; have o10 : w10.cell? ⟨ovb, 0, none⟩ = some (.pointer (some ⟨ob, 0, none⟩)) := (hb10.cell (p := ⟨ovb, 0, none⟩) q2).trans o0; have k10 : w10.cell? ⟨ob, 1, none⟩ = some (.slice va xs.length vc) := (hb10.cell (p := ⟨ob, 1, none⟩) q4).trans kv; have z10 : w10.frozen? ⟨ob, 1, none⟩ = false := (hb10.frozen (p := ⟨ob, 1, none⟩) q4).trans zv; obtain ⟨na, nc, hvv⟩ := owns_shape hown10; subst hvv))
  all_goals
    have HRF := Lib.hid ((HR6.out.grow HK.out hb10).put HK.out 1 (.slice na (xs.length + 1) nc))
    have HOF : Hid ((w10.setCell ⟨ob, 1, none⟩ (.slice na (xs.length + 1) nc)).ownsRow C 52 3 (.slice na (xs.length + 1) nc) (xs.length + 1) (cellsOf smC xs ++ [.string (bs s1), .int .i64 s2, .int .i64 s3])) := owns_keep hown10 (fun g hg _ _ => Below.heap_setCell _ _ _ _ (by simp; omega))
    clear hgrow10 hwhere10 hown10 hpr10 hb10
    go_wp2_with fail
    refine bodyPost_end (results_none rfl _ _ _) rfl ⟨rfl, ?_⟩
    obtain ⟨z1, z2⟩ := syms_seq HV1.out HV2.out HV3.out
    rw [z1]
    exact ⟨⟨s1, s2, s3⟩, _, HRF.out, by rw [cellsOf_snoc]; exact HOF.out, hb1, z2⟩
end Go.Proofs.YtijhpokclpdjpaaGreatDoor
/- The document's own Read: procs. -/
namespace Go.Proofs.YtijhpokclpdjpaaGreatDoor
open Go.RowKit
open Ob (Bs)
set_option maxRecDepth 100000 in
set_option maxHeartbeats 4000000 in
theorem read_procs {w0 W : World} {tvb ovb tb ob C : Nat} {A : World → Prop} {f0 f1 f2 f3 f5 f6 v : Value} {r : Bs} {xs : List Ob.En} (h : Rs w0 tvb ovb tb ob C A W [f0, f1, f2, f3, v, f5, f6] (some r)) (hK : Keeps tb ob C A) (hown : W.ownsRow C 47 3 v xs.length (cellsOf enC xs)) (hxl : xs.length ≤ 1000000) :
    Calls Tryz.prog 39 #[.pointer (some ⟨tvb, 0, none⟩), .pointer (some ⟨ovb, 0, none⟩)] W fun e w' => e = .returned (.tuple #[]) ∧ ∃ x v', Rs w0 tvb ovb tb ob C A w' [f0, f1, f2, f3, v', f5, f6] ((Ob.enT r).map (·.2)) ∧ w'.ownsRow C 47 3 v' (xs.length + 1) (cellsOf enC (xs ++ [x])) ∧ Ob.I64 x.args ∧ ∀ y r', Ob.enT r = some (y, r') → y = x := by
  obtain ⟨va, vc, rfl⟩ := owns_shape hown
  obtain ⟨i3, hi3, hz30, hz31, hz32⟩ := info_parts Tryz.infoEntry
  have HK := Lib.hid hK
  have HO := Lib.hid hown
  have HLT := Lib.hid (owns_lt hown)
  have HGE := Lib.hid (owns_row hown)
  have HR0 := Lib.hid h
  obtain ⟨p1, p2, p3, p4, p5⟩ := h.n1
  obtain ⟨q1, q2, q3, q4⟩ := h.l1
  have hCW := h.CC
  have t0 : W.cell? ⟨tvb, 0, none⟩ = some (.pointer (some ⟨tb, 0, none⟩)) := cell_blk h.kt
  have htv0 : tvb < W.heap.size := lt_of_cell t0
  have HPN : Hid (p1 = p1) := rfl
  have hxl' : (xs.length : Int) ≤ 1000000 := by omega
  have HC1 := Lib.hid (tnum_any h.tk)
  clear h hK hown HPN
  go_enter Tryz.func39, Tryz.ntmps39
  go_wp2_with fail
  refine HC1.out.mono ?_
  rintro e W1 ⟨⟨s1, rfl, hx1, htk1, hv1⟩, hI1⟩
  have hb1 := hI1 s1 rfl
  clear hI1
  obtain ⟨u1, hu1⟩ : ∃ u1, Value.int .i64 s1 = u1 := ⟨_, rfl⟩
  have HR1 := Lib.hid (HR0.out.take HK.out hx1 htk1)
  have t1 : W1.cell? ⟨tvb, 0, none⟩ = some (.pointer (some ⟨tb, 0, none⟩)) := cell_blk HR1.out.kt
  have htv1 : tvb < W1.heap.size := lt_of_cell t1
  have HV1 := Lib.hid hv1
  have hs01 := hx1.size
  clear hu1
  obtain ⟨xb, hxb⟩ : ∃ xb, xb = W1.heap.size := ⟨_, rfl⟩
  obtain ⟨W2, hW2⟩ : ∃ W2, W2 = W1.alloc (.cells #[.int .i64 s1, .int .i64 0, .int .i64 0] 47) := ⟨_, rfl⟩
  have hbA : Below W1.heap.size W1 W2 := by rw [hW2]; exact (Below.refl _ _).alloc (Nat.le_refl _) _
  have hk2 : W2.heap[xb]? = some (.cells #[.int .i64 s1, .int .i64 0, .int .i64 0] 47 (0, 0)) := by rw [hW2, hxb]; exact new_blk _ _
  have HR2 := Lib.hid (HR1.out.new HK.out hbA)
  have HKP2 : Hid (∀ g, C ≤ g → g < W.heap.size → W2.heap[g]? = W.heap[g]?) := fun g hg hl => (hbA.block g (by omega)).trans (hx1.block g hl (by omega))
  have hxbC : W.heap.size ≤ xb := by omega
  have HXB := Lib.hid hxbC
  have t2 : W2.cell? ⟨tvb, 0, none⟩ = some (.pointer (some ⟨tb, 0, none⟩)) := cell_blk HR2.out.kt
  have htv2 : tvb < W2.heap.size := lt_of_cell t2
  have htvx2 : tvb ≠ xb := by omega
  have hxl2 : xb < W2.heap.size := lt_blk hk2
  have HC2 := Lib.hid (tnum_any HR2.out.tk)
  have HW2 := Lib.hid hW2
  clear hx1 htk1 hv1 HC1 HR1 t0 hW2
  go_wp2_with fail
  rw [← HW2.out, ← hxb]
  clear HW2 hbA hs01 htv0 t1 htv1
  clear hxb
  refine HC2.out.mono ?_
  rintro e W3 ⟨⟨s2, rfl, hx, htk, hv⟩, hI⟩
  have hb2 := hI s2 rfl
  clear hI
  have HV2 := Lib.hid hv
  have HRn := Lib.hid (HR2.out.take HK.out hx htk)
  have hkn : W3.heap[xb]? = some (.cells #[.int .i64 s1, .int .i64 0, .int .i64 0] 47 (0, 0)) := (hx.block xb hxl2 (by omega)).trans hk2
  have kc : W3.cell? ⟨xb, 1, none⟩ = some (.int .i64 0) := cell_blk hkn
  have kz : W3.frozen? ⟨xb, 1, none⟩ = false := frozen_blk hkn
  obtain ⟨W4, hW4⟩ : ∃ w, w = W3.setCell ⟨xb, 1, none⟩ (.int .i64 s2) := ⟨_, rfl⟩
  have hk4 : W4.heap[xb]? = some (.cells #[.int .i64 s1, .int .i64 s2, .int .i64 0] 47 (0, 0)) := by rw [hW4]; exact set_blk 1 (.int .i64 s2) hkn
  have HR4 : Hid (Rs w0 tvb ovb tb ob C A W4 [f0, f1, f2, f3, (.slice va xs.length vc), f5, f6] (((((some r).bind Ob.numT).map (·.2)).bind Ob.numT).map (·.2))) := by rw [hW4]; exact HRn.out.grow HK.out (below_set (Below.refl _ _) (by omega) 1 _)
  have HKP4 : Hid (∀ g, C ≤ g → g < W.heap.size → W4.heap[g]? = W.heap[g]?) := fun g hg hl => by
    rw [hW4, Below.heap_setCell _ _ _ _ (by have := HXB.out; simp; omega)]
    exact (hx.block g (by have := HXB.out; omega) (by omega)).trans (HKP2.out g hg hl)
  have t4 : W4.cell? ⟨tvb, 0, none⟩ = some (.pointer (some ⟨tb, 0, none⟩)) := cell_blk HR4.out.kt
  have htv4 : tvb < W4.heap.size := lt_of_cell t4
  have hxl4 : xb < W4.heap.size := lt_blk hk4
  have hxln : xb < W3.heap.size := lt_blk hkn
  have tn : W3.cell? ⟨tvb, 0, none⟩ = some (.pointer (some ⟨tb, 0, none⟩)) := cell_blk HRn.out.kt
  have HWs := Lib.hid hW4
  clear hW4 hx htk hv HC2 HR2 HRn hk2 hkn t2 htv2 hxl2 HKP2
  have HC3 := Lib.hid (tnum_any HR4.out.tk)
  go_wp2_with fail
  rw [← HWs.out]
  clear HWs kc kz hxln tn
  refine HC3.out.mono ?_
  rintro e W5 ⟨⟨s3, rfl, hx, htk, hv⟩, hI⟩
  have hb3 := hI s3 rfl
  clear hI
  have HV3 := Lib.hid hv
  have HRn := Lib.hid (HR4.out.take HK.out hx htk)
  have hkn : W5.heap[xb]? = some (.cells #[.int .i64 s1, .int .i64 s2, .int .i64 0] 47 (0, 0)) := (hx.block xb hxl4 (by omega)).trans hk4
  have kc : W5.cell? ⟨xb, 2, none⟩ = some (.int .i64 0) := cell_blk hkn
  have kz : W5.frozen? ⟨xb, 2, none⟩ = false := frozen_blk hkn
  obtain ⟨W6, hW6⟩ : ∃ w, w = W5.setCell ⟨xb, 2, none⟩ (.int .i64 s3) := ⟨_, rfl⟩
  have hk6 : W6.heap[xb]? = some (.cells #[.int .i64 s1, .int .i64 s2, .int .i64 s3] 47 (0, 0)) := by rw [hW6]; exact set_blk 2 (.int .i64 s3) hkn
  have HR6 : Hid (Rs w0 tvb ovb tb ob C A W6 [f0, f1, f2, f3, (.slice va xs.length vc), f5, f6] (((((((some r).bind Ob.numT).map (·.2)).bind Ob.numT).map (·.2)).bind Ob.numT).map (·.2))) := by rw [hW6]; exact HRn.out.grow HK.out (below_set (Below.refl _ _) (by omega) 2 _)
  have HKP6 : Hid (∀ g, C ≤ g → g < W.heap.size → W6.heap[g]? = W.heap[g]?) := fun g hg hl => by
    rw [hW6, Below.heap_setCell _ _ _ _ (by have := HXB.out; simp; omega)]
    exact (hx.block g (by have := HXB.out; omega) (by omega)).trans (HKP4.out g hg hl)
  have t6 : W6.cell? ⟨tvb, 0, none⟩ = some (.pointer (some ⟨tb, 0, none⟩)) := cell_blk HR6.out.kt
  have htv6 : tvb < W6.heap.size := lt_of_cell t6
  have hxl6 : xb < W6.heap.size := lt_blk hk6
  have hxln : xb < W5.heap.size := lt_blk hkn
  have tn : W5.cell? ⟨tvb, 0, none⟩ = some (.pointer (some ⟨tb, 0, none⟩)) := cell_blk HRn.out.kt
  have HWs := Lib.hid hW6
  clear hW6 hx htk hv HC3 HR4 HRn hk4 hkn t4 htv4 hxl4 HKP4
  have o0 : W6.cell? ⟨ovb, 0, none⟩ = some (.pointer (some ⟨ob, 0, none⟩)) := cell_blk HR6.out.ko
  have kv : W6.cell? ⟨ob, 4, none⟩ = some (.slice va xs.length vc) := cell_blk HR6.out.kb
  have zv : W6.frozen? ⟨ob, 4, none⟩ = false := frozen_blk HR6.out.kb
  have hobl : ob < W6.heap.size := lt_of_cell kv
  have hovl : ovb < W6.heap.size := lt_of_cell o0
  have hOW : W6.ownsRow C 47 3 (.slice va xs.length vc) xs.length (cellsOf enC xs) := owns_keep HO.out (fun g hg hl _ => HKP6.out g hg hl)
  have kva : ∀ o', (W6.alloc o').cell? ⟨ob, 4, none⟩ = some (.slice va xs.length vc) := fun o' => cell_alloc kv o'
  have hCL : C ≤ W6.heap.size := HR6.out.CC
  have hneO : ovb ≠ ob := p4
  have hneX : xb ≠ ob := by have := HXB.out; omega
  have HAP : Hid (∀ (v' : Value) (w10 : World), ((W6.alloc (.cells #[.int .i64 s1, .int .i64 s2, .int .i64 s3] 47)).drew).grownBy w10 (Value.slice va xs.length vc).ownBlock → Below C W6 w10 ∧ (∀ k, k < W6.heap.size → (k = ovb ∨ k = xb) → w10.heap[k]? = W6.heap[k]?)) := fun v' w10 hg => by
    have hbb : Below W6.heap.size W6 (W6.alloc (.cells #[.int .i64 s1, .int .i64 s2, .int .i64 s3] 47)).drew := ((Below.refl _ _).alloc (Nat.le_refl _) _).drew
    refine ⟨(hbb.mono hCL).trans ((Below.refl _ _).grown hg (Nat.le_trans hCL hbb.size) HGE.out), fun k hk hor => ?_⟩
    refine (hg.block k (Nat.lt_of_lt_of_le hk hbb.size) (fun e => ?_)).trans (hbb.block k hk)
    have g1 := HLT.out k e.symm
    have g2 := HGE.out k e.symm
    have g3 := HXB.out
    omega
  go_wp2_with fail
  rw [← HWs.out]
  clear HWs kc kz hxln tn
  have oa : ∀ o', (W6.alloc o').cell? ⟨ovb, 0, none⟩ = some (.pointer (some ⟨ob, 0, none⟩)) := fun o' => cell_alloc o0 o'
  have x0 : W6.cell? ⟨xb, 0, none⟩ = some (.int .i64 s1) := cell_blk hk6
  have x1 : W6.cell? ⟨xb, 1, none⟩ = some (.int .i64 s2) := cell_blk hk6
  have x2 : W6.cell? ⟨xb, 2, none⟩ = some (.int .i64 s3) := cell_blk hk6
  go_region_law (first | (refine step_append_where rfl (.tmp 16) (.tmp 18) 41 rfl C 47 i3 (.agg #[.int .i64 0, .int .i64 0, .int .i64 0]) 3 24 Tryz.underlying41 hi3 hz30 hz31 hz32 rfl (by decide) (.slice va xs.length vc) xs.length (cellsOf enC xs) (by simp [Act.eval]) (owns_below (ownsRow_alloc hOW _) (below_drew _)) ⟨W6.heap.size, 0, none⟩ 1 1 [.int .i64 s1, .int .i64 s2, .int .i64 s3] (by simp [Act.eval]) rfl (news3 W6 _ _ _ _) (by intro u hu; simp at hu; rcases hu with rfl | rfl | rfl <;> rfl) (by unfold maxLen; omega) (by omega) (Nat.le_trans hCL (by simp)) ?_; intro v' w10 hown10 hgrow10 hwhere10; obtain ⟨hb10, hpr10⟩ := HAP.out v' w10 hgrow10; have o10 : w10.cell? ⟨ovb, 0, none⟩ = some (.pointer (some ⟨ob, 0, none⟩)) := (hb10.cell (p := ⟨ovb, 0, none⟩) q2).trans o0; have k10 : w10.cell? ⟨ob, 4, none⟩ = some (.slice va xs.length vc) := (hb10.cell (p := ⟨ob, 4, none⟩) q4).trans kv; have z10 : w10.frozen? ⟨ob, 4, none⟩ = false := (hb10.frozen (p := ⟨ob, 4, none⟩) q4).trans zv; obtain ⟨na, nc, hvv⟩ := owns_shape hown10; subst hvv))
  all_goals
    have HRF := Lib.hid ((HR6.out.grow HK.out hb10).put HK.out 4 (.slice na (xs.length + 1) nc))
    have HOF : Hid ((w10.setCell ⟨ob, 4, none⟩ (.slice na (xs.length + 1) nc)).ownsRow C 47 3 (.slice na (xs.length + 1) nc) (xs.length + 1) (cellsOf enC xs ++ [.int .i64 s1, .int .i64 s2, .int .i64 s3])) := owns_keep hown10 (fun g hg _ _ => Below.heap_setCell _ _ _ _ (by simp; omega))
    clear hgrow10 hwhere10 hown10 hpr10 hb10
    go_wp2_with fail
    refine bodyPost_end (results_none rfl _ _ _) rfl ⟨rfl, ?_⟩
    obtain ⟨z1, z2⟩ := procs_seq HV1.out HV2.out HV3.out
    rw [z1]
    exact ⟨⟨s1, s2, s3⟩, _, HRF.out, by rw [cellsOf_snoc]; exact HOF.out, hb2, z2⟩
end Go.Proofs.YtijhpokclpdjpaaGreatDoor
/- The document's own Read: code. -/
namespace Go.Proofs.YtijhpokclpdjpaaGreatDoor
open Go.RowKit
open Ob (Bs)
set_option maxRecDepth 100000 in
set_option maxHeartbeats 4000000 in
theorem read_code {w0 W : World} {tvb ovb tb ob C : Nat} {A : World → Prop} {f0 f1 f2 f3 f4 f5 v : Value} {r : Bs} {xs : List Ob.In} (h : Rs w0 tvb ovb tb ob C A W [f0, f1, f2, f3, f4, f5, v] (some r)) (hK : Keeps tb ob C A) (hown : W.ownsRow C 49 3 v xs.length (cellsOf inC xs)) (hxl : xs.length ≤ 1000000) :
    Calls Tryz.prog 40 #[.pointer (some ⟨tvb, 0, none⟩), .pointer (some ⟨ovb, 0, none⟩)] W fun e w' => e = .returned (.tuple #[]) ∧ ∃ x v', Rs w0 tvb ovb tb ob C A w' [f0, f1, f2, f3, f4, f5, v'] ((Ob.inT r).map (·.2)) ∧ w'.ownsRow C 49 3 v' (xs.length + 1) (cellsOf inC (xs ++ [x])) ∧ Ob.I64 x.a ∧ ∀ y r', Ob.inT r = some (y, r') → y = x := by
  obtain ⟨va, vc, rfl⟩ := owns_shape hown
  obtain ⟨i3, hi3, hz30, hz31, hz32⟩ := info_parts Tryz.infoInst
  have HK := Lib.hid hK
  have HO := Lib.hid hown
  have HLT := Lib.hid (owns_lt hown)
  have HGE := Lib.hid (owns_row hown)
  have HR0 := Lib.hid h
  obtain ⟨p1, p2, p3, p4, p5⟩ := h.n1
  obtain ⟨q1, q2, q3, q4⟩ := h.l1
  have hCW := h.CC
  have t0 : W.cell? ⟨tvb, 0, none⟩ = some (.pointer (some ⟨tb, 0, none⟩)) := cell_blk h.kt
  have htv0 : tvb < W.heap.size := lt_of_cell t0
  have HPN : Hid (p1 = p1) := rfl
  have hxl' : (xs.length : Int) ≤ 1000000 := by omega
  have HC1 := Lib.hid (tnum_any h.tk)
  clear h hK hown HPN
  go_enter Tryz.func40, Tryz.ntmps40
  go_wp2_with fail
  refine HC1.out.mono ?_
  rintro e W1 ⟨⟨s1, rfl, hx1, htk1, hv1⟩, hI1⟩
  have hb1 := hI1 s1 rfl
  clear hI1
  obtain ⟨u1, hu1⟩ : ∃ u1, Value.int .i64 s1 = u1 := ⟨_, rfl⟩
  have HR1 := Lib.hid (HR0.out.take HK.out hx1 htk1)
  have t1 : W1.cell? ⟨tvb, 0, none⟩ = some (.pointer (some ⟨tb, 0, none⟩)) := cell_blk HR1.out.kt
  have htv1 : tvb < W1.heap.size := lt_of_cell t1
  have HV1 := Lib.hid hv1
  have hs01 := hx1.size
  clear hu1
  obtain ⟨xb, hxb⟩ : ∃ xb, xb = W1.heap.size := ⟨_, rfl⟩
  obtain ⟨W2, hW2⟩ : ∃ W2, W2 = W1.alloc (.cells #[.int .i64 s1, .int .i64 0, .int .i64 0] 49) := ⟨_, rfl⟩
  have hbA : Below W1.heap.size W1 W2 := by rw [hW2]; exact (Below.refl _ _).alloc (Nat.le_refl _) _
  have hk2 : W2.heap[xb]? = some (.cells #[.int .i64 s1, .int .i64 0, .int .i64 0] 49 (0, 0)) := by rw [hW2, hxb]; exact new_blk _ _
  have HR2 := Lib.hid (HR1.out.new HK.out hbA)
  have HKP2 : Hid (∀ g, C ≤ g → g < W.heap.size → W2.heap[g]? = W.heap[g]?) := fun g hg hl => (hbA.block g (by omega)).trans (hx1.block g hl (by omega))
  have hxbC : W.heap.size ≤ xb := by omega
  have HXB := Lib.hid hxbC
  have t2 : W2.cell? ⟨tvb, 0, none⟩ = some (.pointer (some ⟨tb, 0, none⟩)) := cell_blk HR2.out.kt
  have htv2 : tvb < W2.heap.size := lt_of_cell t2
  have htvx2 : tvb ≠ xb := by omega
  have hxl2 : xb < W2.heap.size := lt_blk hk2
  have HC2 := Lib.hid (tnum_any HR2.out.tk)
  have HW2 := Lib.hid hW2
  clear hx1 htk1 hv1 HC1 HR1 t0 hW2
  go_wp2_with fail
  rw [← HW2.out, ← hxb]
  clear HW2 hbA hs01 htv0 t1 htv1
  clear hxb
  refine HC2.out.mono ?_
  rintro e W3 ⟨⟨s2, rfl, hx, htk, hv⟩, hI⟩
  have hb2 := hI s2 rfl
  clear hI
  have HV2 := Lib.hid hv
  have HRn := Lib.hid (HR2.out.take HK.out hx htk)
  have hkn : W3.heap[xb]? = some (.cells #[.int .i64 s1, .int .i64 0, .int .i64 0] 49 (0, 0)) := (hx.block xb hxl2 (by omega)).trans hk2
  have kc : W3.cell? ⟨xb, 1, none⟩ = some (.int .i64 0) := cell_blk hkn
  have kz : W3.frozen? ⟨xb, 1, none⟩ = false := frozen_blk hkn
  obtain ⟨W4, hW4⟩ : ∃ w, w = W3.setCell ⟨xb, 1, none⟩ (.int .i64 s2) := ⟨_, rfl⟩
  have hk4 : W4.heap[xb]? = some (.cells #[.int .i64 s1, .int .i64 s2, .int .i64 0] 49 (0, 0)) := by rw [hW4]; exact set_blk 1 (.int .i64 s2) hkn
  have HR4 : Hid (Rs w0 tvb ovb tb ob C A W4 [f0, f1, f2, f3, f4, f5, (.slice va xs.length vc)] (((((some r).bind Ob.numT).map (·.2)).bind Ob.numT).map (·.2))) := by rw [hW4]; exact HRn.out.grow HK.out (below_set (Below.refl _ _) (by omega) 1 _)
  have HKP4 : Hid (∀ g, C ≤ g → g < W.heap.size → W4.heap[g]? = W.heap[g]?) := fun g hg hl => by
    rw [hW4, Below.heap_setCell _ _ _ _ (by have := HXB.out; simp; omega)]
    exact (hx.block g (by have := HXB.out; omega) (by omega)).trans (HKP2.out g hg hl)
  have t4 : W4.cell? ⟨tvb, 0, none⟩ = some (.pointer (some ⟨tb, 0, none⟩)) := cell_blk HR4.out.kt
  have htv4 : tvb < W4.heap.size := lt_of_cell t4
  have hxl4 : xb < W4.heap.size := lt_blk hk4
  have hxln : xb < W3.heap.size := lt_blk hkn
  have tn : W3.cell? ⟨tvb, 0, none⟩ = some (.pointer (some ⟨tb, 0, none⟩)) := cell_blk HRn.out.kt
  have HWs := Lib.hid hW4
  clear hW4 hx htk hv HC2 HR2 HRn hk2 hkn t2 htv2 hxl2 HKP2
  have HC3 := Lib.hid (tnum_any HR4.out.tk)
  go_wp2_with fail
  rw [← HWs.out]
  clear HWs kc kz hxln tn
  refine HC3.out.mono ?_
  rintro e W5 ⟨⟨s3, rfl, hx, htk, hv⟩, hI⟩
  have hb3 := hI s3 rfl
  clear hI
  have HV3 := Lib.hid hv
  have HRn := Lib.hid (HR4.out.take HK.out hx htk)
  have hkn : W5.heap[xb]? = some (.cells #[.int .i64 s1, .int .i64 s2, .int .i64 0] 49 (0, 0)) := (hx.block xb hxl4 (by omega)).trans hk4
  have kc : W5.cell? ⟨xb, 2, none⟩ = some (.int .i64 0) := cell_blk hkn
  have kz : W5.frozen? ⟨xb, 2, none⟩ = false := frozen_blk hkn
  obtain ⟨W6, hW6⟩ : ∃ w, w = W5.setCell ⟨xb, 2, none⟩ (.int .i64 s3) := ⟨_, rfl⟩
  have hk6 : W6.heap[xb]? = some (.cells #[.int .i64 s1, .int .i64 s2, .int .i64 s3] 49 (0, 0)) := by rw [hW6]; exact set_blk 2 (.int .i64 s3) hkn
  have HR6 : Hid (Rs w0 tvb ovb tb ob C A W6 [f0, f1, f2, f3, f4, f5, (.slice va xs.length vc)] (((((((some r).bind Ob.numT).map (·.2)).bind Ob.numT).map (·.2)).bind Ob.numT).map (·.2))) := by rw [hW6]; exact HRn.out.grow HK.out (below_set (Below.refl _ _) (by omega) 2 _)
  have HKP6 : Hid (∀ g, C ≤ g → g < W.heap.size → W6.heap[g]? = W.heap[g]?) := fun g hg hl => by
    rw [hW6, Below.heap_setCell _ _ _ _ (by have := HXB.out; simp; omega)]
    exact (hx.block g (by have := HXB.out; omega) (by omega)).trans (HKP4.out g hg hl)
  have t6 : W6.cell? ⟨tvb, 0, none⟩ = some (.pointer (some ⟨tb, 0, none⟩)) := cell_blk HR6.out.kt
  have htv6 : tvb < W6.heap.size := lt_of_cell t6
  have hxl6 : xb < W6.heap.size := lt_blk hk6
  have hxln : xb < W5.heap.size := lt_blk hkn
  have tn : W5.cell? ⟨tvb, 0, none⟩ = some (.pointer (some ⟨tb, 0, none⟩)) := cell_blk HRn.out.kt
  have HWs := Lib.hid hW6
  clear hW6 hx htk hv HC3 HR4 HRn hk4 hkn t4 htv4 hxl4 HKP4
  have o0 : W6.cell? ⟨ovb, 0, none⟩ = some (.pointer (some ⟨ob, 0, none⟩)) := cell_blk HR6.out.ko
  have kv : W6.cell? ⟨ob, 6, none⟩ = some (.slice va xs.length vc) := cell_blk HR6.out.kb
  have zv : W6.frozen? ⟨ob, 6, none⟩ = false := frozen_blk HR6.out.kb
  have hobl : ob < W6.heap.size := lt_of_cell kv
  have hovl : ovb < W6.heap.size := lt_of_cell o0
  have hOW : W6.ownsRow C 49 3 (.slice va xs.length vc) xs.length (cellsOf inC xs) := owns_keep HO.out (fun g hg hl _ => HKP6.out g hg hl)
  have kva : ∀ o', (W6.alloc o').cell? ⟨ob, 6, none⟩ = some (.slice va xs.length vc) := fun o' => cell_alloc kv o'
  have hCL : C ≤ W6.heap.size := HR6.out.CC
  have hneO : ovb ≠ ob := p4
  have hneX : xb ≠ ob := by have := HXB.out; omega
  have HAP : Hid (∀ (v' : Value) (w10 : World), ((W6.alloc (.cells #[.int .i64 s1, .int .i64 s2, .int .i64 s3] 49)).drew).grownBy w10 (Value.slice va xs.length vc).ownBlock → Below C W6 w10 ∧ (∀ k, k < W6.heap.size → (k = ovb ∨ k = xb) → w10.heap[k]? = W6.heap[k]?)) := fun v' w10 hg => by
    have hbb : Below W6.heap.size W6 (W6.alloc (.cells #[.int .i64 s1, .int .i64 s2, .int .i64 s3] 49)).drew := ((Below.refl _ _).alloc (Nat.le_refl _) _).drew
    refine ⟨(hbb.mono hCL).trans ((Below.refl _ _).grown hg (Nat.le_trans hCL hbb.size) HGE.out), fun k hk hor => ?_⟩
    refine (hg.block k (Nat.lt_of_lt_of_le hk hbb.size) (fun e => ?_)).trans (hbb.block k hk)
    have g1 := HLT.out k e.symm
    have g2 := HGE.out k e.symm
    have g3 := HXB.out
    omega
  go_wp2_with fail
  rw [← HWs.out]
  clear HWs kc kz hxln tn
  have oa : ∀ o', (W6.alloc o').cell? ⟨ovb, 0, none⟩ = some (.pointer (some ⟨ob, 0, none⟩)) := fun o' => cell_alloc o0 o'
  have x0 : W6.cell? ⟨xb, 0, none⟩ = some (.int .i64 s1) := cell_blk hk6
  have x1 : W6.cell? ⟨xb, 1, none⟩ = some (.int .i64 s2) := cell_blk hk6
  have x2 : W6.cell? ⟨xb, 2, none⟩ = some (.int .i64 s3) := cell_blk hk6
  go_region_law (first | (refine step_append_where rfl (.tmp 16) (.tmp 18) 43 rfl C 49 i3 (.agg #[.int .i64 0, .int .i64 0, .int .i64 0]) 3 24 Tryz.underlying43 hi3 hz30 hz31 hz32 rfl (by decide) (.slice va xs.length vc) xs.length (cellsOf inC xs) (by simp [Act.eval]) (owns_below (ownsRow_alloc hOW _) (below_drew _)) ⟨W6.heap.size, 0, none⟩ 1 1 [.int .i64 s1, .int .i64 s2, .int .i64 s3] (by simp [Act.eval]) rfl (news3 W6 _ _ _ _) (by intro u hu; simp at hu; rcases hu with rfl | rfl | rfl <;> rfl) (by unfold maxLen; omega) (by omega) (Nat.le_trans hCL (by simp)) ?_; intro v' w10 hown10 hgrow10 hwhere10; obtain ⟨hb10, hpr10⟩ := HAP.out v' w10 hgrow10; have o10 : w10.cell? ⟨ovb, 0, none⟩ = some (.pointer (some ⟨ob, 0, none⟩)) := (hb10.cell (p := ⟨ovb, 0, none⟩) q2).trans o0; have k10 : w10.cell? ⟨ob, 6, none⟩ = some (.slice va xs.length vc) := (hb10.cell (p := ⟨ob, 6, none⟩) q4).trans kv; have z10 : w10.frozen? ⟨ob, 6, none⟩ = false := (hb10.frozen (p := ⟨ob, 6, none⟩) q4).trans zv; obtain ⟨na, nc, hvv⟩ := owns_shape hown10; subst hvv))
  all_goals
    have HRF := Lib.hid ((HR6.out.grow HK.out hb10).put HK.out 6 (.slice na (xs.length + 1) nc))
    have HOF : Hid ((w10.setCell ⟨ob, 6, none⟩ (.slice na (xs.length + 1) nc)).ownsRow C 49 3 (.slice na (xs.length + 1) nc) (xs.length + 1) (cellsOf inC xs ++ [.int .i64 s1, .int .i64 s2, .int .i64 s3])) := owns_keep hown10 (fun g hg _ _ => Below.heap_setCell _ _ _ _ (by simp; omega))
    clear hgrow10 hwhere10 hown10 hpr10 hb10
    go_wp2_with fail
    refine bodyPost_end (results_none rfl _ _ _) rfl ⟨rfl, ?_⟩
    obtain ⟨z1, z2⟩ := code_seq HV1.out HV2.out HV3.out
    rw [z1]
    exact ⟨⟨s1, s2, s3⟩, _, HRF.out, by rw [cellsOf_snoc]; exact HOF.out, hb2, z2⟩
end Go.Proofs.YtijhpokclpdjpaaGreatDoor
/- The document's own Write: map[bool]string{..}, whatever comes up in between. -/
namespace Go.Proofs.YtijhpokclpdjpaaGreatDoor
open Go.RowKit Go.Maps
open Ob (Bs)

def heldV (v : Value) : Option (DataW Value × List MemPlace) := some (.held v, [])
theorem bkey : Keyed Tryz.prog 4 := bool_keyed Tryz.underlying4
theorem bkey_of (s : Bool) : keyOf Tryz.prog 4 (.bool s) = some (.bool s) := keyOf_bool_mk Tryz.underlying4 s
theorem held_inj {v : Value} {D : DataW Value} {ps : List MemPlace} {u : Value} (h : heldV v = some (D, ps)) (hD : D = .held u) : v = u := by
  unfold heldV at h
  simp only [Option.some.injEq, Prod.mk.injEq] at h
  rw [← h.1] at hD
  injection hD
theorem mkmap (W : World) : (Instr.makeMap 61 none).run Tryz.prog W = .ok (.map (some W.heap.size)) (W.alloc (.map #[] 0)) := by first | kernel_rfl | simp [go_sem]
/- block mb (from B on) is such a map, of c entries; k is there, with v -/
def GoodM (B c : Nat) (W : World) (mb : Nat) : Prop := B ≤ mb ∧ ∃ D, W.ownsMap Tryz.prog 4 heldV mb c D
def HasK (c : Nat) (k : Bool) (v : Value) (W : World) (mb : Nat) : Prop := ∃ D, W.ownsMap Tryz.prog 4 heldV mb c D ∧ ∀ z, D.atKey (.bool k) z = .held v
theorem GoodM.made {B : Nat} (W : World) (h : B ≤ W.heap.size) : GoodM B 0 (W.alloc (.map #[] 0)) W.heap.size := ⟨h, .map [], World.ownsMap_made _ _ _ _⟩
theorem GoodM.below {B c : Nat} {W W' : World} {mb : Nat} (h : GoodM B c W mb) (hb : Below W.heap.size W W') : GoodM B c W' mb := by
  obtain ⟨h0, D, h2⟩ := h
  have hl := h2.lt
  obtain ⟨es, clock, h3, h4⟩ := h2
  exact ⟨h0, D, es, clock, (hb.block mb hl).trans h3, h4⟩
theorem HasK.below {c : Nat} {k : Bool} {v : Value} {W W' : World} {mb : Nat} (h : HasK c k v W mb) (hb : Below W.heap.size W W') : HasK c k v W' mb := by
  obtain ⟨D, h2, h5⟩ := h
  have hl := h2.lt
  obtain ⟨es, clock, h3, h4⟩ := h2
  exact ⟨D, ⟨es, clock, (hb.block mb hl).trans h3, h4⟩, h5⟩
theorem HasK.look {c : Nat} {k : Bool} {v : Value} {W : World} {mb : Nat} (h : HasK c k v W mb) : (Instr.lookup 61 (.map (some mb)) (.bool k) false).run Tryz.prog W = .ok v W := by
  obtain ⟨D, h2, h5⟩ := h
  obtain ⟨u, ps, l1, l2⟩ := h2.lookup bkey Tryz.underlying61 (z := .string ⟨#[]⟩) (by kernel_rfl) (zd := .held (.string ⟨#[]⟩)) (zp := []) rfl (bkey_of k)
  rw [l1, held_inj l2 (h5 _)]
/- the world behind an insert -/
def pickW (r : Result Unit) (W : World) : World := match r with
  | .ok _ w' => w'
  | _ => W
noncomputable def insW (mb : Nat) (k : Bool) (v : Value) (W : World) : World := pickW ((Instr.mapUpdate 61 (.map (some mb)) (.bool k) v).run Tryz.prog W) W
theorem ins_any {W : World} {mb n : Nat} {D : DataW Value} (hn : n < 999) (h : W.ownsMap Tryz.prog 4 heldV mb n D) (k : Bool) (v : Value) :
    (Instr.mapUpdate 61 (.map (some mb)) (.bool k) v).run Tryz.prog W = .ok () (insW mb k v W) ∧ (insW mb k v W).ownsMap Tryz.prog 4 heldV mb (n + 1) (D.put (.bool k) (.held v)) ∧ (∀ B, B ≤ mb → B ≤ W.heap.size → Below B W (insW mb k v W)) := by
  obtain ⟨w8, r1, r2, r3⟩ := h.store (t := 61) bkey Tryz.underlying61 (by unfold maxLen; omega) (bkey_of k) (d := .held v) (ps := []) rfl
  have e : insW mb k v W = w8 := by unfold insW; rw [r1]; rfl
  have g8 := r3.grown
  rw [e]
  exact ⟨r1, r2, fun B hB hs => ⟨g8.os, g8.tape, g8.output, g8.size, fun i hi => g8.block i (by omega) (fun e => by injection e; omega)⟩⟩
theorem GoodM.run {B c : Nat} {W : World} {mb : Nat} (h : GoodM B c W mb) (hc : c < 999) (k : Bool) (v : Value) : (Instr.mapUpdate 61 (.map (some mb)) (.bool k) v).run Tryz.prog W = .ok () (insW mb k v W) := by
  obtain ⟨_, D, h2⟩ := h
  exact (ins_any hc h2 k v).1
theorem GoodM.ins {B c : Nat} {W : World} {mb : Nat} (h : GoodM B c W mb) (hc : c < 999) (k : Bool) (v : Value) : GoodM B (c + 1) (insW mb k v W) mb := by
  obtain ⟨h0, D, h2⟩ := h
  exact ⟨h0, _, (ins_any hc h2 k v).2.1⟩
theorem GoodM.bel {B c : Nat} {W W0 : World} {mb : Nat} (h : GoodM B c W mb) (hc : c < 999) (k : Bool) (v : Value) (hb : Below B W0 W) (hB : B ≤ W0.heap.size) : Below B W0 (insW mb k v W) := by
  obtain ⟨h0, D, h2⟩ := h
  exact hb.trans ((ins_any hc h2 k v).2.2 B h0 (Nat.le_trans hB hb.size))
theorem iskey (k : Bool) : WideAt.IsKeyLit (.bool k) := by cases k <;> simp [WideAt.IsKeyLit]
theorem GoodM.has {B c : Nat} {W : World} {mb : Nat} (h : GoodM B c W mb) (hc : c < 999) (k : Bool) (v : Value) : HasK (c + 1) k v (insW mb k v W) mb := by
  obtain ⟨h0, D, h2⟩ := h
  exact ⟨_, (ins_any hc h2 k v).2.1, fun z => atKey_put_same h2.isMap (iskey k) _ z⟩
theorem HasK.ins {c : Nat} {k k' : Bool} {v : Value} {W : World} {mb : Nat} (h : HasK c k v W mb) (hc : c < 999) (v' : Value) (hk : k ≠ k') : HasK (c + 1) k v (insW mb k' v' W) mb := by
  obtain ⟨D, h2, h5⟩ := h
  have hne : (Lit.bool k) ≠ .bool k' := fun e => hk (by injection e)
  exact ⟨_, (ins_any hc h2 k' v').2.1, fun z => (atKey_put_other hne _ z).trans (h5 z)⟩

end Go.Proofs.YtijhpokclpdjpaaGreatDoor
/- 6.1 as the document's own Right has it. -/
namespace Ob

def rsymB (s : Sm) : Bool := nameB s.name && ((decide (-1 ≤ s.args) && decide (s.args ≤ 10)) && (decide (0 ≤ s.len) && decide (s.len ≤ (if 0 ≤ s.args then 0 else 30))))
def ruseB (nm : Bs) (u : Us) : Bool := nameB u.name && (!decide (u.name = nm) && (u.names.all nameB && (decide (u.names.length ≤ 100) && decide (u.need.length ≤ 4000))))
def rglB (g : Gl) : Bool := nameB g.name && (decide (g.at' = 0) && (decide (0 ≤ g.len) && decide (g.len ≤ 30)))
def rentB (n : Nat) (e : En) : Bool := (decide (0 ≤ e.at') && decide (e.at' ≤ (n : Int) - 1)) && ((decide (0 ≤ e.args) && decide (e.args ≤ 10)) && (decide (e.args ≤ e.locals) && decide (e.locals ≤ 10)))
def rlastB (x : In) : Bool := decide (x.op = 12) || (decide (x.op = 15) || decide (x.op = 17))
def rcB (o : O) : List In → Bool
  | [] => true
  | x :: l => instB o x && ((!l.isEmpty || rlastB x) && rcB o l)
def rheadB (o : O) : Bool := (decide (1 ≤ (o.code.length : Int)) && decide ((o.code.length : Int) ≤ 4000)) && (nameB o.name && (o.names.all nameB && (decide (o.syms.length ≤ 20) && (decide (o.uses.length ≤ 6) && (decide (o.vars.length ≤ 10) && (decide (o.procs.length ≤ 10) && decide (o.names.length = o.procs.length)))))))
def refB (o : O) : Bool := rheadB o && (o.syms.all rsymB && (o.uses.all (ruseB o.name) && (o.vars.all rglB && (o.procs.all (rentB o.code.length) && rcB o o.code))))

theorem rcB_iff (o : O) : ∀ l : List In, rcB o l = true ↔ (∀ x ∈ l, instB o x = true) ∧ (∀ x, l.getLast? = some x → rlastB x = true) := by
  intro l
  induction l with
  | nil => simp [rcB]
  | cons x l ih =>
    simp only [rcB, Bool.and_eq_true, ih, List.mem_cons, forall_eq_or_imp]
    cases l with
    | nil => simp
    | cons y l =>
      simp
      constructor
      · rintro ⟨h1, h2, h3⟩; exact ⟨⟨h1, h2⟩, h3⟩
      · rintro ⟨⟨h1, h2⟩, h3⟩; exact ⟨h1, h2, h3⟩
theorem rsym_iff (s : Sm) : rsymB s = symB s := by
  rw [Bool.eq_iff_iff]
  unfold rsymB symB lenB
  simp only [Bool.and_eq_true, Bool.or_eq_true, decide_eq_true_eq]
  constructor
  · rintro ⟨h1, ⟨h2, h3⟩, h4, h5⟩
    split at h5
    · exact ⟨h1, h2, h3, ⟨h4, by omega⟩, Or.inr (by omega)⟩
    · exact ⟨h1, h2, h3, ⟨h4, by omega⟩, Or.inl (by omega)⟩
  · rintro ⟨h1, h2, h3, ⟨h4, h5⟩, h6⟩
    refine ⟨h1, ⟨h2, h3⟩, h4, ?_⟩
    split <;> omega
theorem all_iff {α : Type} (p : α → Bool) (most : Nat) (l : List α) : allB p most l = (decide (l.length ≤ most) && l.all p) := by
  unfold allB
  congr 1
  rw [Bool.eq_iff_iff]
  simp
theorem ruse_iff (nm : Bs) (u : Us) : ruseB nm u = otherB nm u := by
  rw [Bool.eq_iff_iff]
  unfold ruseB otherB useB
  rw [all_iff]
  simp only [Bool.and_eq_true, decide_eq_true_eq, Bool.not_eq_true', decide_eq_false_iff_not]
  constructor
  · rintro ⟨h1, h2, h3, h4, h5⟩; exact ⟨h2, h1, h5, h4, h3⟩
  · rintro ⟨h2, h1, h5, h4, h3⟩; exact ⟨h1, h2, h3, h4, h5⟩
theorem rent_iff (n : Nat) (e : En) : rentB n e = entB n e := by
  rw [Bool.eq_iff_iff]
  unfold rentB entB countsB
  simp only [Bool.and_eq_true, decide_eq_true_eq]
  omega
theorem refB_eq (o : O) : refB o = rightB o := by
  have e1 : o.syms.all rsymB = o.syms.all symB := by congr 1; funext s; exact rsym_iff s
  have e2 : o.uses.all (ruseB o.name) = o.uses.all (otherB o.name) := by congr 1; funext s; exact ruse_iff _ s
  have e3 : o.vars.all rglB = o.vars.all varB := rfl
  have e4 : o.procs.all (rentB o.code.length) = o.procs.all (entB o.code.length) := by congr 1; funext s; exact rent_iff _ s
  unfold refB rightB headB procsB codeB rheadB
  rw [e1, e2, e3, e4]
  simp only [all_iff]
  rw [Bool.eq_iff_iff]
  simp only [Bool.and_eq_true, decide_eq_true_eq, rcB_iff]
  have hl : (∀ x, o.code.getLast? = some x → rlastB x = true) ∧ 1 ≤ o.code.length ↔ lastB o = true := by
    unfold lastB
    rcases hc : o.code.getLast? with _ | x
    · have : o.code = [] := by simpa using hc
      rw [this]; simp
    · have h1 : 1 ≤ o.code.length := by
        cases hh : o.code with
        | nil => rw [hh] at hc; simp at hc
        | cons => simp
      constructor
      · rintro ⟨h, _⟩; exact h x rfl
      · intro h
        refine ⟨fun y hy => ?_, h1⟩
        cases hy
        exact h
  rw [List.all_eq_true (l := o.code)]
  constructor
  · rintro ⟨⟨⟨h1, h2⟩, h3, h4, h5, h6, h7, h8, h9⟩, h10, h11, h12, h13, h14, h15⟩
    exact ⟨⟨h3, ⟨h5, h10⟩, ⟨h6, h11⟩, ⟨h7, h12⟩⟩, ⟨⟨h8, h13⟩, h9, ⟨by omega, h4⟩⟩, ⟨⟨by omega, h14⟩, hl.1 ⟨h15, by omega⟩⟩⟩
  · rintro ⟨⟨h3, ⟨h5, h10⟩, ⟨h6, h11⟩, ⟨h7, h12⟩⟩, ⟨⟨h8, h13⟩, h9, ⟨_, h4⟩⟩, ⟨⟨h2, h14⟩, hla⟩⟩
    obtain ⟨h15, h1⟩ := hl.2 hla
    exact ⟨⟨⟨by omega, by omega⟩, h3, h4, h5, h6, h7, h8, h9⟩, h10, h11, h12, h13, h14, h15⟩
end Ob
