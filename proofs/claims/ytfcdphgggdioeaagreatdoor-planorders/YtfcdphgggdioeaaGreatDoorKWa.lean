import Derived.Test.YtfcdphgggdioeaaGreatDoorKPa
import Derived.Test.YtfcdphgggdioeaaGreatDoorRows
import Derived.WalkKit
import Derived.WalkSpells
import Derived.WalkLawsBesides
import Derived.RegionTactic
import Derived.ChangeAlike
import Derived.BigRegion
import Derived.Deep.QuietTactic
import Derived.BigQuiet
import Derived.Deep.LoopGhost
import Derived.Handy
import Derived.Deep.RegionWith
import Derived.RegionDies
import Derived.Deep.DeepCutAuto
import Derived.ArgAppend
import Derived.Deep.RegionHeld3
import Derived.Deep.RegionLawGrows
/- The parser in memory: what its block, its tokens hold; what a call of it leaves. -/
namespace Go.Proofs.YtfcdphgggdioeaaGreatDoor
open Go.RowKit
open Tp (Tok hd tx at' stp)

def bs (l : List UInt8) : ByteArray := ⟨l.toArray⟩
theorem bs_toList (l : List UInt8) : (bs l).toList = l := by
  rw [ByteArray.toList_eq]; simp [bs]
/- the parser's own block and what it leads to; r: the tokens to come -/
structure Ext (b : Nat) (w w' : World) : Prop where
  os : w'.os = w.os
  tape : w'.tape = w.tape
  output : w'.output = w.output
  size : w.heap.size ≤ w'.heap.size
  block : ∀ k, k < w.heap.size → k ≠ b → w'.heap[k]? = w.heap[k]?
theorem Ext.refl (b : Nat) (w : World) : Ext b w w := ⟨rfl, rfl, rfl, Nat.le_refl _, fun _ _ _ => rfl⟩
theorem Ext.trans {b : Nat} {w1 w2 w3 : World} (h : Ext b w1 w2) (k : Ext b w2 w3) : Ext b w1 w3 :=
  ⟨k.os.trans h.os, k.tape.trans h.tape, k.output.trans h.output, Nat.le_trans h.size k.size, fun i hi hb => (k.block i (Nat.lt_of_lt_of_le hi h.size) hb).trans (h.block i hi hb)⟩
theorem Ext.below {b : Nat} {w w' : World} (h : Below w.heap.size w w') : Ext b w w' := ⟨h.os, h.tape, h.output, h.size, fun k hk _ => h.block k hk⟩
theorem Ext.set {b : Nat} {w w' : World} (h : Ext b w w') (j : Nat) (u : Value) : Ext b w (w'.setCell ⟨b, j, none⟩ u) :=
  ⟨h.os, h.tape, h.output, by simpa using h.size, fun k hk hb => by rw [Below.heap_setCell _ _ _ _ (by simpa using hb)]; exact h.block k hk hb⟩
theorem Ext.cell {b : Nat} {w w' : World} (h : Ext b w w') {a : Addr} {v : Value} (hc : w.cell? a = some v) (hb : a.block ≠ b) : w'.cell? a = some v := by
  rw [World.cell?_of_block (w := w) (h.block a.block (World.block_lt_of_cell? _ _ hc) hb)]; exact hc
theorem lt_of_cell {w : World} {b j : Nat} {v : Value} (h : w.cell? ⟨b, j, none⟩ = some v) : b < w.heap.size := World.block_lt_of_cell? _ _ h
end Go.Proofs.YtfcdphgggdioeaaGreatDoor
/- Reading NAMES. -/
namespace Go.Proofs.YtfcdphgggdioeaaGreatDoor
open Go.RowKit
open Tp (Tok hd tx at' stp)

def strs (l : List (List UInt8)) : List Value := l.map fun s => .string (bs s)
theorem Tryz.infoString : (Tryz.prog.info? 9).map (fun i => (i.zero, i.size, i.bytes)) = some (some (.string ⟨#[]⟩), 1, 16) := by kernel_rfl
theorem owns_shape {w : World} {base e size n : Nat} {v : Value} {xs : List Value} (h : w.ownsRow base e size v n xs) : ∃ ao cap, v = .slice ao n cap := by
  rcases h.2 with ⟨rfl, rfl⟩ | ⟨g, cap, cur, rfl, _⟩
  · exact ⟨_, _, rfl⟩
  · exact ⟨_, _, rfl⟩
theorem owns_ext {w w' : World} {base e size n b : Nat} {v : Value} {xs : List Value} (h : w.ownsRow base e size v n xs) (k : Ext b w w') (hb : b < base) : w'.ownsRow base e size v n xs := by
  refine ⟨h.1, ?_⟩
  rcases h.2 with h1 | ⟨g, cap, cur, h1, h2, h3, h4⟩
  · exact Or.inl h1
  · refine Or.inr ⟨g, cap, cur, h1, h2, ?_, h4⟩
    have hg : g < w.heap.size := by rw [Array.getElem?_eq_some_iff] at h3; exact h3.1
    rw [k.block g hg (by omega)]; exact h3
theorem Ext.trans' {w w1 w2 : World} {b : Nat} (h : Ext b w w1) (hb : Below w.heap.size w1 w2) : Ext b w w2 :=
  ⟨hb.os.trans h.os, hb.tape.trans h.tape, hb.output.trans h.output, Nat.le_trans h.size hb.size, fun i hi hne => (hb.block i hi).trans (h.block i hi hne)⟩
theorem owns_row {w : World} {base e size n : Nat} {v : Value} {xs : List Value} (h : w.ownsRow base e size v n xs) : ∀ g, v.ownBlock = some g → base ≤ g := by
  intro g hg
  rcases h.2 with ⟨rfl, rfl⟩ | ⟨g', cap, cur, rfl, h2, _⟩
  · simp [Value.ownBlock] at hg
  · simp [Value.ownBlock] at hg; omega
end Go.Proofs.YtfcdphgggdioeaaGreatDoor
/- EXPRs in memory. -/
namespace Go.Proofs.YtfcdphgggdioeaaGreatDoor
open Go.RowKit
open Tp (Tok hd tx at' stp X)

/- the list's expressions lie behind these pointers, each in a block of its own of those that D tells -/
def RepL (w : World) (D : Nat → Prop) : List X → List Value → Prop
  | [], vs => vs = []
  | ⟨code, pos, n, mod, name, op, left, right, args⟩ :: xs, vs => ∃ (b : Nat) (av : Value) (ls rs gs vs' : List Value),
      vs = .pointer (some ⟨b, 0, none⟩) :: vs' ∧ D b ∧
      w.heap[b]? = some (.cells #[.int .i64 (code : Int), .int .i64 (pos : Int), .int .i64 (n : Int), .string (bs mod), .string (bs name), .string (bs op), ls.headD (.pointer none), rs.headD (.pointer none), av] 108 (0, 0)) ∧
      RepL w D left ls ∧ ls.length ≤ 1 ∧ RepL w D right rs ∧ rs.length ≤ 1 ∧ RepL w D args gs ∧ (gs = [] ∧ av = .slice none 0 0 ∨ ∃ g cap cur, av = .slice (some ⟨g, 0, none⟩) gs.length cap ∧ D g ∧ w.heap[g]? = some (.cells cur 95 (0, 0)) ∧ gs.length ≤ cap ∧ cap ≤ maxLen ∧ cur.size = cap ∧ cur.toList.take gs.length = gs) ∧
      RepL w D xs vs'
theorem RepL.mono {w w' : World} {D D' : Nat → Prop} (hw : ∀ b, D b → b < w.heap.size → w'.heap[b]? = w.heap[b]? ∧ D' b) : ∀ (n : Nat) (l : List X) (vs : List Value), SizeOf.sizeOf l ≤ n → RepL w D l vs → RepL w' D' l vs := by
  intro n
  induction n with
  | zero => intro l vs hl; cases l <;> simp at hl <;> omega
  | succ n ih =>
    intro l vs hl h
    cases l with
    | nil => rw [RepL] at h ⊢; exact h
    | cons x xs =>
      obtain ⟨code, pos, nn, mod, name, op, left, right, args⟩ := x
      rw [RepL] at h ⊢
      simp at hl
      obtain ⟨b, av, ls, rs, gs, vs', h1, h2, h3, h4, h5, h6, h7, h8, h9, h10⟩ := h
      have lt : ∀ {k : Nat} {o : Obj}, w.heap[k]? = some o → k < w.heap.size := fun hk => by rw [Array.getElem?_eq_some_iff] at hk; exact hk.1
      obtain ⟨e1, e2⟩ := hw b h2 (lt h3)
      refine ⟨b, av, ls, rs, gs, vs', h1, e2, e1.trans h3, ih _ _ (by omega) h4, h5, ih _ _ (by omega) h6, h7, ih _ _ (by omega) h8, ?_, ih _ _ (by omega) h10⟩
      rcases h9 with h9 | ⟨g, cap, cur, g1, g2, g3, g4⟩
      · exact Or.inl h9
      · obtain ⟨e3, e4⟩ := hw g g2 (lt g3)
        exact Or.inr ⟨g, cap, cur, g1, e4, e3.trans g3, g4⟩
theorem RepL.len {w : World} {D : Nat → Prop} : ∀ (l : List X) (vs : List Value), RepL w D l vs → vs.length = l.length := by
  intro l
  induction l with
  | nil => intro vs h; rw [RepL] at h; simp [h]
  | cons x xs ih =>
    intro vs h
    obtain ⟨code, pos, nn, mod, name, op, left, right, args⟩ := x
    rw [RepL] at h
    obtain ⟨b, av, ls, rs, gs, vs', h1, h2, h3, h4, h5, h6, h7, h8, h9, h10⟩ := h
    subst h1
    simp [ih _ h10]
theorem RepL.app {w : World} {D : Nat → Prop} : ∀ (l m : List X) (vs us : List Value), RepL w D l vs → RepL w D m us → RepL w D (l ++ m) (vs ++ us) := by
  intro l
  induction l with
  | nil => intro m vs us h k; rw [RepL] at h; subst h; exact k
  | cons x xs ih =>
    intro m vs us h k
    obtain ⟨code, pos, nn, mod, name, op, left, right, args⟩ := x
    rw [RepL] at h
    obtain ⟨b, av, ls, rs, gs, vs', h1, h2, h3, h4, h5, h6, h7, h8, h9, h10⟩ := h
    subst h1
    rw [List.cons_append, List.cons_append, RepL]
    exact ⟨b, av, ls, rs, gs, vs' ++ us, rfl, h2, h3, h4, h5, h6, h7, h8, h9, ih m vs' us h10 k⟩
/- of blocks from B on -/
def VX (B : Nat) (l : List X) (v : Value) (w : World) : Prop := RepL w (fun b => B ≤ b) l [v]
theorem RepL.ext {w w' : World} {D : Nat → Prop} {b : Nat} (k : Ext b w w') (hb : ¬ D b) {l : List X} {vs : List Value} (h : RepL w D l vs) : RepL w' D l vs :=
  RepL.mono (fun i hi hl => ⟨k.block i hl (fun e => hb (e ▸ hi)), hi⟩) (SizeOf.sizeOf l) l vs (Nat.le_refl _) h
theorem VX.ext {w w' : World} {B b : Nat} (k : Ext b w w') (hb : b < B) {l : List X} {v : Value} (h : VX B l v w) : VX B l v w' := RepL.ext k (by omega) h
theorem VX.base {w : World} {B B' : Nat} {l : List X} {v : Value} (h : VX B l v w) (hB : B' ≤ B) : VX B' l v w :=
  RepL.mono (fun _ hi _ => ⟨rfl, Nat.le_trans hB hi⟩) (SizeOf.sizeOf l) l [v] (Nat.le_refl _) h

end Go.Proofs.YtfcdphgggdioeaaGreatDoor
/- Reading what begins with a REF. -/
namespace Go.Proofs.YtfcdphgggdioeaaGreatDoor
open Go.RowKit
open Tp (Tok hd tx at' stp X)

theorem cell_blk {w : World} {b i : Nat} {cs : Array Value} {t : TypeId} (h : w.heap[b]? = some (.cells cs t (0, 0))) : w.cell? ⟨b, i, none⟩ = cs[i]? := by
  simp [World.cell?, h]
theorem frozen_blk {w : World} {b i : Nat} {cs : Array Value} {t : TypeId} (h : w.heap[b]? = some (.cells cs t (0, 0))) : w.frozen? ⟨b, i, none⟩ = false := by
  simp [World.frozen?, h]
theorem set_blk {w : World} {b : Nat} {cs : Array Value} {t : TypeId} (i : Nat) (v : Value) (h : w.heap[b]? = some (.cells cs t (0, 0))) : (w.setCell ⟨b, i, none⟩ v).heap[b]? = some (.cells (cs.setIfInBounds i v) t (0, 0)) := by
  exact heap_setCell_same w b i cs t v h
theorem lt_blk {w : World} {b : Nat} {ob : Obj} (h : w.heap[b]? = some ob) : b < w.heap.size := by rw [Array.getElem?_eq_some_iff] at h; exact h.1
theorem new_blk (w : World) (ob : Obj) : (w.alloc ob).heap[w.heap.size]? = some ob := by show (w.heap.push _)[w.heap.size]? = _; simp
/- an Expr's nine cells -/
def xcells (code pos n : Int) (mod name op : ByteArray) (lv rv av : Value) : Array Value := #[.int .i64 code, .int .i64 pos, .int .i64 n, .string mod, .string name, .string op, lv, rv, av]

def VA (B : Nat) (l : List X) (v : Value) (w : World) : Prop := ∃ vs, RepL w (fun b => B ≤ b ∧ v.ownBlock ≠ some b) l vs ∧ w.ownsRow B 95 1 v vs.length vs
theorem below_set {B b : Nat} {w w' : World} (h : Below B w w') (hb : B ≤ b) (i : Nat) (v : Value) : Below B w (w'.setCell ⟨b, i, none⟩ v) := h.setCell hb v
theorem VX.ptr {B : Nat} {l : List X} {v : Value} {w : World} (h : VX B l v w) : ∃ bb, v = .pointer (some ⟨bb, 0, none⟩) := by
  unfold VX at h
  cases l with
  | nil => rw [RepL] at h; simp at h
  | cons x xs =>
    obtain ⟨code, pos, nn, mod, name, op, left, right, args⟩ := x
    rw [RepL] at h
    obtain ⟨b, av, ls, rs, gs, vs', h1, _⟩ := h
    simp at h1
    exact ⟨b, h1.1⟩
theorem VA.base {w : World} {B B' : Nat} {l : List X} {v : Value} (h : VA B l v w) (hB : B' ≤ B) : VA B' l v w := by
  obtain ⟨vs, h1, h2⟩ := h
  refine ⟨vs, RepL.mono (fun _ hi _ => ⟨rfl, Nat.le_trans hB hi.1, hi.2⟩) (SizeOf.sizeOf l) l vs (Nat.le_refl _) h1, h2.1, ?_⟩
  rcases h2.2 with q | ⟨g, cap, cur, q1, q2, q3⟩
  · exact Or.inl q
  · exact Or.inr ⟨g, cap, cur, q1, Nat.le_trans hB q2, q3⟩
/- a new node over what was read -/
theorem VX.node {w : World} {B b : Nat} {code pos n : Nat} {mod name op : List UInt8} {left right args : List X} {lv rv av : Value} (hb : B ≤ b)
    (hblk : w.heap[b]? = some (.cells (xcells code pos n (bs mod) (bs name) (bs op) lv rv av) 108 (0, 0)))
    (hl : left = [] ∧ lv = .pointer none ∨ VX B left lv w) (hr : right = [] ∧ rv = .pointer none ∨ VX B right rv w) (ha : args = [] ∧ av = .slice none 0 0 ∨ VA B args av w) :
    VX B [⟨code, pos, n, mod, name, op, left, right, args⟩] (.pointer (some ⟨b, 0, none⟩)) w := by
  have side : ∀ (l : List X) (v : Value), (l = [] ∧ v = .pointer none ∨ VX B l v w) → ∃ ls : List Value, v = ls.headD (.pointer none) ∧ RepL w (fun b => B ≤ b) l ls ∧ ls.length ≤ 1 := by
    intro l v h
    rcases h with ⟨rfl, rfl⟩ | h
    · exact ⟨[], rfl, by rw [RepL], by simp⟩
    · exact ⟨[v], rfl, h, by simp⟩
  obtain ⟨ls, rfl, l1, l2⟩ := side left lv hl
  obtain ⟨rs, rfl, r1, r2⟩ := side right rv hr
  unfold VX
  rw [RepL]
  rcases ha with ⟨rfl, rfl⟩ | ⟨vs, a1, a2⟩
  · exact ⟨b, .slice none 0 0, ls, rs, [], [], rfl, hb, hblk, l1, l2, r1, r2, by rw [RepL], Or.inl ⟨rfl, rfl⟩, by rw [RepL]⟩
  · refine ⟨b, av, ls, rs, vs, [], rfl, hb, hblk, l1, l2, r1, r2, RepL.mono (fun _ hi _ => ⟨rfl, hi.1⟩) (SizeOf.sizeOf args) _ _ (Nat.le_refl _) a1, ?_, by rw [RepL]⟩
    rcases a2.2 with ⟨q1, q2⟩ | ⟨g, cap, cur, q1, q2, q3, q4, q5, q6, q7⟩
    · exact Or.inl ⟨List.eq_nil_of_length_eq_zero q2, q1⟩
    · exact Or.inr ⟨g, cap, cur, q1, q2, q3, q4, q5, by simpa using q6, by simpa using q7⟩
theorem below_drew (w : World) : Below w.heap.size w w.drew := (Below.refl _ _).drew
end Go.Proofs.YtfcdphgggdioeaaGreatDoor
/- append to a slice of one's own: where the new one lies. -/
namespace Go.Proofs.YtfcdphgggdioeaaGreatDoor
open Go.RowKit
open Tp (Tok hd tx at' stp X)

theorem run_append_where {P : Program} (w : World) (base : Nat) (t ty e : TypeId) (i : TypeInfo) (z : Value) (size bytes : Nat) (ht : P.underlying t = some (.slice e)) (hi : P.info? e = some i) (hz : i.zero = some z)
    (hsize : i.size = size) (hby : i.bytes = bytes) (hzs : z.cells.size = size) (hsz : 0 < size)
    (v : Value) (n : Nat) (xs : List Value) (hown : w.ownsRow base e size v n xs)
    (a : Addr) (m c : Nat) (news : List Value) (hl : news.length = m * size) (hnews : ∀ j u, news[j]? = some u → w.cell? (a.add j) = some u) (h1 : ∀ u ∈ news, u.oneCell' = true)
    (h63 : n + m ≤ maxLen) (hbytes : (n + m) * bytes ≤ 140737488355328) (hbase : base ≤ w.heap.size) :
    ∃ v' w', (Builtin.append_ #[t, t] ty #[v, .slice (some a) m c]).run P w = .ok v' w' ∧ w'.ownsRow base e size v' (n + m) (xs ++ news) ∧ w.grownBy w' v.ownBlock ∧
      (∀ g, v'.ownBlock = some g → v.ownBlock = some g ∨ w.heap.size ≤ g) := by
  obtain ⟨v', w', r1, r2, r3, _⟩ := run_append_own (P := P) w base t ty e i z size bytes ht hi hz hsize hby hzs hsz v n xs hown a m c news hl hnews h1 h63 hbytes hbase
  refine ⟨v', w', r1, r2, r3, ?_⟩
  rcases hown.2 with ⟨rfl, rfl⟩ | ⟨g, cap, cur, rfl, q1, q2, q3, q4, q5, q6⟩
  · have hx : xs = [] := List.eq_nil_of_length_eq_zero (by simpa using hown.1)
    subst hx
    obtain ⟨v2, w2, s1, s2, _⟩ := run_append_own (P := P) w w.heap.size t ty e i z size bytes ht hi hz hsize hby hzs hsz (.slice none 0 0) 0 [] (World.ownsRow_nil _ _ _ _) a m c news hl hnews h1 h63 hbytes (Nat.le_refl _)
    rw [r1] at s1
    cases s1
    intro g hg
    exact Or.inr (owns_row s2 g hg)
  · have hcell : ∀ j, j < cap * size → w.cell? ⟨g, j, none⟩ = cur[j]? := fun j _ => cell_blk q2
    by_cases hroom : n + m ≤ cap
    · have hle : n * size + news.length ≤ cap * size := by rw [hl, ← Nat.add_mul]; exact Nat.mul_le_mul_right _ hroom
      have s1 := run_append_room_cells (P := P) w t ty e i ht hi g 0 n cap a m c news (by rw [hsize]; exact hl) hnews h1 hroom
        (fun j hj => by rw [hsize, cell_blk q2, Nat.zero_add, Array.getElem?_eq_getElem (by omega)]; rfl) (fun j hj => frozen_blk q2)
      rw [r1] at s1
      cases s1
      intro g' hg
      exact Or.inl hg
    · obtain ⟨v2, w2, s1, s2, _⟩ := run_append_arg_grows (P := P) w t ty e i z size bytes ht hi hz hsize hby hzs hsz ⟨g, 0, none⟩ n cap xs hown.1
        (fun j u hj => by
          have hjl : j < xs.length := by rw [List.getElem?_eq_some_iff] at hj; exact hj.1
          rw [Addr.add_lit, cell_blk q2, Nat.zero_add, ← Array.getElem?_toList, ← hj, ← q6, List.getElem?_take_of_lt (by rw [← hown.1]; exact hjl)])
        a m c news hl hnews (by omega) h63 hbytes
      rw [r1] at s1
      cases s1
      intro g' hg
      exact Or.inr (owns_row s2 g' hg)
theorem wpList_append_where {P : Program} (w : World) {ops : Array Oper} {rest : List Oper} {o : Oper} {a : Act} {Q : Exit → Act → World → Prop} (hgd : o.guard = none) (s x : Operand) (t : TypeId)
    (ho : o.op = .call { callee := .builtin .append, args := #[s, x], argTypes := #[t, t] })
    (base : Nat) (e : TypeId) (i : TypeInfo) (z : Value) (size bytes : Nat) (ht : P.underlying t = some (.slice e)) (hi : P.info? e = some i) (hz : i.zero = some z)
    (hsize : i.size = size) (hby : i.bytes = bytes) (hzs : z.cells.size = size) (hsz : 0 < size)
    (v : Value) (n : Nat) (xs : List Value) (hs : a.eval s = v) (hown : w.ownsRow base e size v n xs)
    (ad : Addr) (m c : Nat) (news : List Value) (hx : a.eval x = .slice (some ad) m c) (hl : news.length = m * size) (hnews : ∀ j u, news[j]? = some u → w.cell? (ad.add j) = some u) (h1 : ∀ u ∈ news, u.oneCell' = true)
    (h63 : n + m ≤ maxLen) (hbytes : (n + m) * bytes ≤ 140737488355328) (hbase : base ≤ w.heap.size)
    (h : ∀ v' w', w'.ownsRow base e size v' (n + m) (xs ++ news) → w.grownBy w' v.ownBlock → (∀ g, v'.ownBlock = some g → v.ownBlock = some g ∨ w.heap.size ≤ g) → wpList P ops Q rest (a.put o.dst v') w') : wpList P ops Q (o :: rest) a w := by
  refine wpList_plain hgd fun K hK => ?_
  obtain ⟨v', w', r1, r2, r3, r4⟩ := run_append_where (P := P) w base t o.type e i z size bytes ht hi hz hsize hby hzs hsz v n xs hown ad m c news hl hnews h1 h63 hbytes hbase
  unfold Oper.wp
  simp [execOp, ho, resolve, invoke, builtin, hs, hx, r1, Result.andThen]
  exact hK _ _ (h v' w' r2 r3 r4)
end Go.Proofs.YtfcdphgggdioeaaGreatDoor
/- Reading arguments. -/
namespace Go.Proofs.YtfcdphgggdioeaaGreatDoor
open Go.RowKit
open Tp (Tok hd tx at' stp X)

theorem Tryz.infoPExpr : (Tryz.prog.info? 95).map (fun i => (i.zero, i.size, i.bytes)) = some (some (.pointer none), 1, 8) := by kernel_rfl
/- a tree beside a slice that grows -/
theorem RepL.grown {w w' : World} {B : Nat} {v v' : Value} {l : List X} {vs : List Value} (h : RepL w (fun b => B ≤ b ∧ v.ownBlock ≠ some b) l vs) (hg : w.grownBy w' v.ownBlock) (hv : ∀ g, v'.ownBlock = some g → v.ownBlock = some g ∨ w.heap.size ≤ g) :
    RepL w' (fun b => B ≤ b ∧ v'.ownBlock ≠ some b) l vs := by
  refine RepL.mono (fun b hb hl => ⟨hg.block b hl (fun e => hb.2 e.symm), hb.1, fun e => ?_⟩) (SizeOf.sizeOf l) l vs (Nat.le_refl _) h
  rcases hv b e with h1 | h1
  · exact hb.2 h1
  · omega
theorem VA.snoc {w w' : World} {B : Nat} {v v' u : Value} {l x : List X} {vs : List Value} (h : RepL w (fun b => B ≤ b ∧ v.ownBlock ≠ some b) l vs) (hx : RepL w (fun b => B ≤ b ∧ v.ownBlock ≠ some b) x [u])
    (hown : w'.ownsRow B 95 1 v' (vs.length + 1) (vs ++ [u])) (hg : w.grownBy w' v.ownBlock) (hv : ∀ g, v'.ownBlock = some g → v.ownBlock = some g ∨ w.heap.size ≤ g) :
    RepL w' (fun b => B ≤ b ∧ v'.ownBlock ≠ some b) (l ++ x) (vs ++ [u]) ∧ w'.ownsRow B 95 1 v' (vs ++ [u]).length (vs ++ [u]) :=
  ⟨RepL.app _ _ _ _ (h.grown hg hv) (hx.grown hg hv), by simpa using hown⟩
theorem RepL.of_new {w : World} {B C : Nat} {v : Value} {l : List X} {vs : List Value} (h : RepL w (fun b => C ≤ b) l vs) (hB : B ≤ C) (hv : ∀ g, v.ownBlock = some g → g < C) : RepL w (fun b => B ≤ b ∧ v.ownBlock ≠ some b) l vs :=
  RepL.mono (fun b hb _ => ⟨rfl, Nat.le_trans hB hb, fun e => by have := hv b e; omega⟩) (SizeOf.sizeOf l) l vs (Nat.le_refl _) h
theorem RepL.alloc {w : World} {D : Nat → Prop} {l : List X} {vs : List Value} (h : RepL w D l vs) (ob : Obj) : RepL (w.alloc ob) D l vs :=
  RepL.mono (fun b hb hl => ⟨Below.heap_alloc w ob b hl, hb⟩) (SizeOf.sizeOf l) l vs (Nat.le_refl _) h

end Go.Proofs.YtfcdphgggdioeaaGreatDoor
/- Reading a ONE: signs, brackets, REFs. -/
namespace Go.Proofs.YtfcdphgggdioeaaGreatDoor
open Go.RowKit
open Tp (Tok hd tx at' stp X)

theorem cell_alloc {w : World} {a : Addr} {v : Value} (h : w.cell? a = some v) (ob : Obj) : (w.alloc ob).cell? a = some v := (World.cell?_alloc_lt _ _ _ (World.block_lt_of_cell? _ _ h)).trans h
end Go.Proofs.YtfcdphgggdioeaaGreatDoor
/- STMTs in memory. -/
namespace Go.Proofs.YtfcdphgggdioeaaGreatDoor
open Go.RowKit
open Tp (Tok hd tx at' stp X S)

/- a slice of STMTs, by its cells -/
def OwnS (w : World) (D : Nat → Prop) (v : Value) (n : Nat) (cs : List Value) : Prop :=
  v = .slice none 0 0 ∧ n = 0 ∨ ∃ g cap cur, v = .slice (some ⟨g, 0, none⟩) n cap ∧ D g ∧ w.heap[g]? = some (.cells cur 97 (0, 0)) ∧ n ≤ cap ∧ cap ≤ maxLen ∧ cur.size = cap * 7 ∧ cur.toList.take (n * 7) = cs
def RepS (w : World) (D : Nat → Prop) : List S → List Value → Prop
  | [], cs => cs = []
  | ⟨code, pos, name, index, value, thn, els⟩ :: ss, cs => ∃ (tv ev : Value) (ls vs tcs ecs cs' : List Value),
      cs = [.int .i64 (code : Int), .int .i64 (pos : Int), .string (bs name), ls.headD (.pointer none), vs.headD (.pointer none), tv, ev] ++ cs' ∧
      RepL w D index ls ∧ ls.length ≤ 1 ∧ RepL w D value vs ∧ vs.length ≤ 1 ∧ RepS w D thn tcs ∧ OwnS w D tv thn.length tcs ∧ RepS w D els ecs ∧ OwnS w D ev els.length ecs ∧ RepS w D ss cs'
theorem OwnS.mono {w w' : World} {D D' : Nat → Prop} (hw : ∀ b, D b → b < w.heap.size → w'.heap[b]? = w.heap[b]? ∧ D' b) {v : Value} {n : Nat} {cs : List Value} (h : OwnS w D v n cs) : OwnS w' D' v n cs := by
  rcases h with h | ⟨g, cap, cur, h1, h2, h3, h4⟩
  · exact Or.inl h
  · obtain ⟨e1, e2⟩ := hw g h2 (lt_blk h3)
    exact Or.inr ⟨g, cap, cur, h1, e2, e1.trans h3, h4⟩
theorem RepS.mono {w w' : World} {D D' : Nat → Prop} (hw : ∀ b, D b → b < w.heap.size → w'.heap[b]? = w.heap[b]? ∧ D' b) : ∀ (n : Nat) (l : List S) (cs : List Value), SizeOf.sizeOf l ≤ n → RepS w D l cs → RepS w' D' l cs := by
  intro n
  induction n with
  | zero => intro l vs hl; cases l <;> simp at hl <;> omega
  | succ n ih =>
    intro l vs hl h
    cases l with
    | nil => rw [RepS] at h ⊢; exact h
    | cons x xs =>
      obtain ⟨code, pos, name, index, value, thn, els⟩ := x
      rw [RepS] at h ⊢
      simp at hl
      obtain ⟨tv, ev, ls, vs, tcs, ecs, cs', h1, h2, h3, h4, h5, h6, h7, h8, h9, h10⟩ := h
      exact ⟨tv, ev, ls, vs, tcs, ecs, cs', h1, RepL.mono hw _ _ _ (Nat.le_refl _) h2, h3, RepL.mono hw _ _ _ (Nat.le_refl _) h4, h5, ih _ _ (by omega) h6, h7.mono hw, ih _ _ (by omega) h8, h9.mono hw, ih _ _ (by omega) h10⟩
theorem RepS.mono' {w w' : World} {D D' : Nat → Prop} (hw : ∀ b, D b → b < w.heap.size → w'.heap[b]? = w.heap[b]? ∧ D' b) {l : List S} {cs : List Value} (h : RepS w D l cs) : RepS w' D' l cs := RepS.mono hw _ l cs (Nat.le_refl _) h
theorem RepS.len {w : World} {D : Nat → Prop} : ∀ (l : List S) (cs : List Value), RepS w D l cs → cs.length = l.length * 7 := by
  intro l
  induction l with
  | nil => intro vs h; rw [RepS] at h; simp [h]
  | cons x xs ih =>
    intro cs h
    obtain ⟨code, pos, name, index, value, thn, els⟩ := x
    rw [RepS] at h
    obtain ⟨tv, ev, ls, vs, tcs, ecs, cs', h1, h2, h3, h4, h5, h6, h7, h8, h9, h10⟩ := h
    subst h1
    simp [ih _ h10]; omega
theorem RepS.app {w : World} {D : Nat → Prop} : ∀ (l m : List S) (cs us : List Value), RepS w D l cs → RepS w D m us → RepS w D (l ++ m) (cs ++ us) := by
  intro l
  induction l with
  | nil => intro m cs us h k; rw [RepS] at h; subst h; exact k
  | cons x xs ih =>
    intro m cs us h k
    obtain ⟨code, pos, name, index, value, thn, els⟩ := x
    rw [RepS] at h
    obtain ⟨tv, ev, ls, vs, tcs, ecs, cs', h1, h2, h3, h4, h5, h6, h7, h8, h9, h10⟩ := h
    subst h1
    rw [List.cons_append, RepS]
    exact ⟨tv, ev, ls, vs, tcs, ecs, cs' ++ us, by simp, h2, h3, h4, h5, h6, h7, h8, h9, ih m cs' us h10 k⟩
/- one STMT, as a value -/
def scells (code pos : Int) (name : ByteArray) (iv vv tv ev : Value) : Array Value := #[.int .i64 code, .int .i64 pos, .string name, iv, vv, tv, ev]
def VS (B : Nat) (l : List S) (v : Value) (w : World) : Prop := ∃ (code pos : Nat) (name : List UInt8) (ia va ta ea : Option Addr) (tn tc en ec : Nat),
  v = .agg (scells code pos (bs name) (.pointer ia) (.pointer va) (.slice ta tn tc) (.slice ea en ec)) ∧ RepS w (fun b => B ≤ b) l (scells code pos (bs name) (.pointer ia) (.pointer va) (.slice ta tn tc) (.slice ea en ec)).toList
/- STMTs, as a slice -/
def VL (B : Nat) (l : List S) (v : Value) (w : World) : Prop := ∃ cs, RepS w (fun b => B ≤ b ∧ v.ownBlock ≠ some b) l cs ∧ w.ownsRow B 97 7 v l.length cs
theorem VS.ext {w w' : World} {B b : Nat} (k : Ext b w w') (hb : b < B) {l : List S} {v : Value} (h : VS B l v w) : VS B l v w' := by
  obtain ⟨c, p, n, ia, va, ta, ea, tn, tc, en, ec, h1, h2⟩ := h
  exact ⟨c, p, n, ia, va, ta, ea, tn, tc, en, ec, h1, h2.mono' (fun i hi hl => ⟨k.block i hl (by omega), hi⟩)⟩
theorem VS.base {w : World} {B B' : Nat} {l : List S} {v : Value} (h : VS B l v w) (hB : B' ≤ B) : VS B' l v w := by
  obtain ⟨c, p, n, ia, va, ta, ea, tn, tc, en, ec, h1, h2⟩ := h
  exact ⟨c, p, n, ia, va, ta, ea, tn, tc, en, ec, h1, h2.mono' (fun _ hi _ => ⟨rfl, Nat.le_trans hB hi⟩)⟩
theorem VL.ext {w w' : World} {B b : Nat} (k : Ext b w w') (hb : b < B) {l : List S} {v : Value} (h : VL B l v w) : VL B l v w' := by
  obtain ⟨cs, h1, h2⟩ := h
  exact ⟨cs, h1.mono' (fun i hi hl => ⟨k.block i hl (by omega), hi⟩), owns_ext h2 k hb⟩
theorem VL.base {w : World} {B B' : Nat} {l : List S} {v : Value} (h : VL B l v w) (hB : B' ≤ B) : VL B' l v w := by
  obtain ⟨cs, h1, h2⟩ := h
  refine ⟨cs, h1.mono' (fun _ hi _ => ⟨rfl, Nat.le_trans hB hi.1, hi.2⟩), h2.1, ?_⟩
  rcases h2.2 with q | ⟨g, cap, cur, q1, q2, q3⟩
  · exact Or.inl q
  · exact Or.inr ⟨g, cap, cur, q1, Nat.le_trans hB q2, q3⟩
theorem VL.shape {w : World} {B : Nat} {l : List S} {v : Value} (h : VL B l v w) : ∃ ao cap, v = .slice ao l.length cap := by
  obtain ⟨cs, _, h2⟩ := h
  exact owns_shape h2
theorem VL.own {w : World} {B : Nat} {l : List S} {v : Value} (h : VL B l v w) : ∃ cs, RepS w (fun b => B ≤ b) l cs ∧ OwnS w (fun b => B ≤ b) v l.length cs := by
  obtain ⟨cs, h1, h2⟩ := h
  refine ⟨cs, h1.mono' (fun _ hi _ => ⟨rfl, hi.1⟩), ?_⟩
  rcases h2.2 with q | ⟨g, cap, cur, q1, q2, q3⟩
  · exact Or.inl q
  · exact Or.inr ⟨g, cap, cur, q1, q2, q3⟩
/- a STMT over what was read -/
theorem VS.node {w : World} {B code pos : Nat} {name : List UInt8} {index value : List X} {thn els : List S} {iv vv tv ev : Value}
    (hi : index = [] ∧ iv = .pointer none ∨ VX B index iv w) (hv : value = [] ∧ vv = .pointer none ∨ VX B value vv w)
    (ht : thn = [] ∧ tv = .slice none 0 0 ∨ VL B thn tv w) (he : els = [] ∧ ev = .slice none 0 0 ∨ VL B els ev w) :
    VS B [⟨code, pos, name, index, value, thn, els⟩] (.agg (scells code pos (bs name) iv vv tv ev)) w := by
  have side : ∀ (l : List X) (v : Value), (l = [] ∧ v = .pointer none ∨ VX B l v w) → ∃ ls : List Value, v = ls.headD (.pointer none) ∧ RepL w (fun b => B ≤ b) l ls ∧ ls.length ≤ 1 := by
    intro l v h
    rcases h with ⟨rfl, rfl⟩ | h
    · exact ⟨[], rfl, by rw [RepL], by simp⟩
    · exact ⟨[v], rfl, h, by simp⟩
  have down : ∀ (l : List S) (v : Value), (l = [] ∧ v = .slice none 0 0 ∨ VL B l v w) → ∃ cs, RepS w (fun b => B ≤ b) l cs ∧ OwnS w (fun b => B ≤ b) v l.length cs := by
    intro l v h
    rcases h with ⟨rfl, rfl⟩ | h
    · exact ⟨[], by rw [RepS], Or.inl ⟨rfl, rfl⟩⟩
    · exact h.own
  have ptr : ∀ (l : List X) (v : Value), (l = [] ∧ v = .pointer none ∨ VX B l v w) → ∃ ia, v = .pointer ia := by
    intro l v h
    rcases h with ⟨rfl, rfl⟩ | h
    · exact ⟨_, rfl⟩
    · obtain ⟨bb, rfl⟩ := h.ptr; exact ⟨_, rfl⟩
  have slc : ∀ (l : List S) (v : Value), (l = [] ∧ v = .slice none 0 0 ∨ VL B l v w) → ∃ ta tn tc, v = .slice ta tn tc := by
    intro l v h
    rcases h with ⟨rfl, rfl⟩ | h
    · exact ⟨_, _, _, rfl⟩
    · obtain ⟨ao, cap, rfl⟩ := h.shape; exact ⟨_, _, _, rfl⟩
  obtain ⟨ia, rfl⟩ := ptr index iv hi
  obtain ⟨va, rfl⟩ := ptr value vv hv
  obtain ⟨ta, tn, tc, rfl⟩ := slc thn tv ht
  obtain ⟨ea, en, ec, rfl⟩ := slc els ev he
  obtain ⟨ls, l0, l1, l2⟩ := side index _ hi
  obtain ⟨vs, v0, v1, v2⟩ := side value _ hv
  obtain ⟨tcs, t1, t2⟩ := down thn _ ht
  obtain ⟨ecs, e1, e2⟩ := down els _ he
  refine ⟨code, pos, name, ia, va, ta, ea, tn, tc, en, ec, rfl, ?_⟩
  rw [RepS]
  exact ⟨_, _, ls, vs, tcs, ecs, [], by rw [← l0, ← v0]; simp [scells], l1, l2, v1, v2, t1, t2, e1, e2, by rw [RepS]⟩
theorem ext_set7 (w : World) (b : Nat) (v0 v1 v2 v3 v4 v5 v6 : Value) : Ext b w (((((((w.setCell ⟨b, 0, none⟩ v0).setCell ⟨b, 1, none⟩ v1).setCell ⟨b, 2, none⟩ v2).setCell ⟨b, 3, none⟩ v3).setCell ⟨b, 4, none⟩ v4).setCell ⟨b, 5, none⟩ v5).setCell ⟨b, 6, none⟩ v6) := ((((((((Ext.refl b w).set 0 v0).set 1 v1).set 2 v2).set 3 v3).set 4 v4).set 5 v5).set 6 v6)
theorem below_set7 (w : World) (b : Nat) (v0 v1 v2 v3 v4 v5 v6 : Value) : Below b w (((((((w.setCell ⟨b, 0, none⟩ v0).setCell ⟨b, 1, none⟩ v1).setCell ⟨b, 2, none⟩ v2).setCell ⟨b, 3, none⟩ v3).setCell ⟨b, 4, none⟩ v4).setCell ⟨b, 5, none⟩ v5).setCell ⟨b, 6, none⟩ v6) := (below_set (below_set (below_set (below_set (below_set (below_set (below_set (Below.refl b w) (Nat.le_refl _) 0 v0) (Nat.le_refl _) 1 v1) (Nat.le_refl _) 2 v2) (Nat.le_refl _) 3 v3) (Nat.le_refl _) 4 v4) (Nat.le_refl _) 5 v5) (Nat.le_refl _) 6 v6)
end Go.Proofs.YtfcdphgggdioeaaGreatDoor
/- Reading what is within while, if. -/
namespace Go.Proofs.YtfcdphgggdioeaaGreatDoor
open Go.RowKit
open Tp (Tok hd tx at' stp X S)

theorem new_blk1 (w : World) (a b : Obj) : ((w.alloc a).alloc b).heap[w.heap.size + 1]? = some b := by
  have h := new_blk (w.alloc a) b
  rw [show (w.alloc a).heap.size = w.heap.size + 1 by simp] at h
  exact h
end Go.Proofs.YtfcdphgggdioeaaGreatDoor
/- branch: from if or elsif on. -/
namespace Go.Proofs.YtfcdphgggdioeaaGreatDoor
open Go.RowKit
open Tp (Tok hd tx at' stp X S)

def VP (B : Nat) (l : List X) (v : Value) (w : World) : Prop := ∃ ls : List Value, v = ls.headD (.pointer none) ∧ RepL w (fun b => B ≤ b) l ls ∧ ls.length ≤ 1
def VO (B : Nat) (l : List S) (v : Value) (w : World) : Prop := ∃ cs, RepS w (fun b => B ≤ b) l cs ∧ OwnS w (fun b => B ≤ b) v l.length cs
theorem VO.ext {w w' : World} {B b : Nat} (k : Ext b w w') (hb : b < B) {l : List S} {v : Value} (h : VO B l v w) : VO B l v w' := by
  obtain ⟨cs, h1, h2⟩ := h
  have hw : ∀ i, B ≤ i → i < w.heap.size → w'.heap[i]? = w.heap[i]? ∧ B ≤ i := fun i hi hl => ⟨k.block i hl (by omega), hi⟩
  exact ⟨cs, h1.mono' hw, h2.mono hw⟩
theorem VO.base {w : World} {B B' : Nat} {l : List S} {v : Value} (h : VO B l v w) (hB : B' ≤ B) : VO B' l v w := by
  obtain ⟨cs, h1, h2⟩ := h
  have hw : ∀ i, B ≤ i → i < w.heap.size → w.heap[i]? = w.heap[i]? ∧ B' ≤ i := fun i hi _ => ⟨rfl, Nat.le_trans hB hi⟩
  exact ⟨cs, h1.mono' hw, h2.mono hw⟩
theorem VP.ptr {B : Nat} {l : List X} {v : Value} {w : World} (h : VP B l v w) : ∃ ia, v = .pointer ia := by
  obtain ⟨ls, h1, h2, h3⟩ := h
  cases l with
  | nil => rw [RepL] at h2; subst h2; exact ⟨none, h1⟩
  | cons x xs =>
    obtain ⟨code, pos, nn, mod, name, op, left, right, args⟩ := x
    rw [RepL] at h2
    obtain ⟨b, av, _, _, _, vs', q, _⟩ := h2
    subst q
    exact ⟨_, h1⟩
theorem VO.shape {B : Nat} {l : List S} {v : Value} {w : World} (h : VO B l v w) : ∃ ta tc, v = .slice ta l.length tc := by
  obtain ⟨cs, _, h2⟩ := h
  rcases h2 with ⟨rfl, h0⟩ | ⟨g, cap, cur, rfl, _⟩
  · rw [h0]; exact ⟨_, _, rfl⟩
  · exact ⟨_, _, rfl⟩
theorem VS.mk' {w : World} {B code pos : Nat} {name : List UInt8} {index value : List X} {thn els : List S} {iv vv tv ev : Value} (hi : VP B index iv w) (hv : VP B value vv w) (ht : VO B thn tv w) (he : VO B els ev w) :
    VS B [⟨code, pos, name, index, value, thn, els⟩] (.agg (scells code pos (bs name) iv vv tv ev)) w := by
  obtain ⟨ia, rfl⟩ := hi.ptr
  obtain ⟨va, rfl⟩ := hv.ptr
  obtain ⟨ta, tc, rfl⟩ := ht.shape
  obtain ⟨ea, ec, rfl⟩ := he.shape
  obtain ⟨ls, l0, l1, l2⟩ := hi
  obtain ⟨vs, v0, v1, v2⟩ := hv
  obtain ⟨tcs, t1, t2⟩ := ht
  obtain ⟨ecs, e1, e2⟩ := he
  refine ⟨code, pos, name, ia, va, ta, ea, _, tc, _, ec, rfl, ?_⟩
  rw [RepS]
  exact ⟨_, _, ls, vs, tcs, ecs, [], by rw [← l0, ← v0]; simp [scells], l1, l2, v1, v2, t1, t2, e1, e2, by rw [RepS]⟩
theorem VL.vo {w : World} {B : Nat} {l : List S} {v : Value} (h : VL B l v w) : VO B l v w := h.own
theorem VO.nil (B : Nat) (w : World) : VO B [] (.slice none 0 0) w := ⟨[], by rw [RepS], Or.inl ⟨rfl, rfl⟩⟩
/- one STMT in a slice of its own -/
theorem VO.one {w : World} {B code pos : Nat} {name : List UInt8} {s : List S} {ia va ta ea : Option Addr} {tn tc en ec : Nat} (h : VS B s (.agg (scells code pos (bs name) (.pointer ia) (.pointer va) (.slice ta tn tc) (.slice ea en ec))) w) (hB : B ≤ w.heap.size) (hs : s.length = 1) :
    VO B s (.slice (some ⟨w.heap.size, 0, none⟩) 1 1) (w.alloc (.cells (scells code pos (bs name) (.pointer ia) (.pointer va) (.slice ta tn tc) (.slice ea en ec)) 97)) := by
  obtain ⟨c', p', n', ia', va', ta', ea', tn', tc', en', ec', h1, h2⟩ := h
  rw [← Value.agg.inj h1] at h2
  refine ⟨_, h2.mono' (fun i hi hl => ⟨Below.heap_alloc _ _ _ hl, hi⟩), ?_⟩
  rw [hs]
  exact Or.inr ⟨w.heap.size, 1, _, rfl, hB, new_blk _ _, Nat.le_refl _, by unfold maxLen; omega, rfl, rfl⟩
end Go.Proofs.YtfcdphgggdioeaaGreatDoor
/- STMTs. -/
namespace Go.Proofs.YtfcdphgggdioeaaGreatDoor
open Go.RowKit
open Tp (Tok hd tx at' stp X S)

theorem Tryz.infoStmt : (Tryz.prog.info? 97).map (fun i => (i.zero, i.size, i.bytes)) = some (some (.agg #[.int .i64 0, .int .i64 0, .string ⟨#[]⟩, .pointer none, .pointer none, .slice none 0 0, .slice none 0 0]), 7, 96) := by kernel_rfl
theorem RepS.grown {w w' : World} {B : Nat} {v v' : Value} {l : List S} {cs : List Value} (h : RepS w (fun b => B ≤ b ∧ v.ownBlock ≠ some b) l cs) (hg : w.grownBy w' v.ownBlock) (hv : ∀ g, v'.ownBlock = some g → v.ownBlock = some g ∨ w.heap.size ≤ g) :
    RepS w' (fun b => B ≤ b ∧ v'.ownBlock ≠ some b) l cs := by
  refine h.mono' (fun b hb hl => ⟨hg.block b hl (fun e => hb.2 e.symm), hb.1, fun e => ?_⟩)
  rcases hv b e with h1 | h1
  · exact hb.2 h1
  · omega
theorem RepS.of_new {w : World} {B C : Nat} {v : Value} {l : List S} {cs : List Value} (h : RepS w (fun b => C ≤ b) l cs) (hB : B ≤ C) (hv : ∀ g, v.ownBlock = some g → g < C) : RepS w (fun b => B ≤ b ∧ v.ownBlock ≠ some b) l cs :=
  h.mono' (fun b hb _ => ⟨rfl, Nat.le_trans hB hb, fun e => by have := hv b e; omega⟩)
theorem RepS.alloc {w : World} {D : Nat → Prop} {l : List S} {cs : List Value} (h : RepS w D l cs) (ob : Obj) : RepS (w.alloc ob) D l cs :=
  h.mono' (fun b hb hl => ⟨Below.heap_alloc w ob b hl, hb⟩)
theorem news7 (w : World) (v0 v1 v2 v3 v4 v5 v6 : Value) (t : TypeId) : ∀ j u, [v0, v1, v2, v3, v4, v5, v6][j]? = some u → (w.alloc (.cells #[v0, v1, v2, v3, v4, v5, v6] t)).cell? ((⟨w.heap.size, 0, none⟩ : Addr).add j) = some u := by
  intro j u hj
  rw [Addr.add_lit, cell_blk (new_blk _ _), Nat.zero_add]
  simpa using hj

end Go.Proofs.YtfcdphgggdioeaaGreatDoor
/- A VAR. -/
namespace Go.Proofs.YtfcdphgggdioeaaGreatDoor
open Go.RowKit
open Tp (Tok hd tx at' stp X S G)

def gcells (name : ByteArray) (pos len : Int) (seen : Bool) : Array Value := #[.string name, .int .i64 pos, .int .i64 len, .bool seen]
end Go.Proofs.YtfcdphgggdioeaaGreatDoor
/- A PROC. -/
namespace Go.Proofs.YtfcdphgggdioeaaGreatDoor
open Go.RowKit
open Tp (Tok hd tx at' stp X S G Pr)

def pcells (name : ByteArray) (pos : Int) (seen : Bool) (ps vs bd : Value) : Array Value := #[.string name, .int .i64 pos, .bool seen, ps, vs, bd]
theorem owns_base {w : World} {base base' e size n : Nat} {v : Value} {xs : List Value} (h : w.ownsRow base e size v n xs) (hb : base' ≤ base) : w.ownsRow base' e size v n xs := by
  refine ⟨h.1, ?_⟩
  rcases h.2 with q | ⟨g, cap, cur, q1, q2, q3⟩
  · exact Or.inl q
  · exact Or.inr ⟨g, cap, cur, q1, Nat.le_trans hb q2, q3⟩
/- a PROC as a value -/
def VPr (B : Nat) (c : Pr) (v : Value) (w : World) : Prop := ∃ (pa va ba : Option Addr) (pc vc bc : Nat),
  v = .agg (pcells (bs c.name) (c.pos : Int) c.seen (.slice pa c.params.length pc) (.slice va c.vars.length vc) (.slice ba c.body.length bc)) ∧
  w.ownsRow B 9 1 (.slice pa c.params.length pc) c.params.length (strs c.params) ∧ w.ownsRow B 9 1 (.slice va c.vars.length vc) c.vars.length (strs c.vars) ∧ VO B c.body (.slice ba c.body.length bc) w
theorem ext_set6 (w : World) (b : Nat) (v0 v1 v2 v3 v4 v5 : Value) : Ext b w ((((((w.setCell ⟨b, 0, none⟩ v0).setCell ⟨b, 1, none⟩ v1).setCell ⟨b, 2, none⟩ v2).setCell ⟨b, 3, none⟩ v3).setCell ⟨b, 4, none⟩ v4).setCell ⟨b, 5, none⟩ v5) := (((((((Ext.refl b w).set 0 v0).set 1 v1).set 2 v2).set 3 v3).set 4 v4).set 5 v5)
theorem below_set6 (w : World) (b : Nat) (v0 v1 v2 v3 v4 v5 : Value) : Below b w ((((((w.setCell ⟨b, 0, none⟩ v0).setCell ⟨b, 1, none⟩ v1).setCell ⟨b, 2, none⟩ v2).setCell ⟨b, 3, none⟩ v3).setCell ⟨b, 4, none⟩ v4).setCell ⟨b, 5, none⟩ v5) := (below_set (below_set (below_set (below_set (below_set (below_set (Below.refl b w) (Nat.le_refl _) 0 v0) (Nat.le_refl _) 1 v1) (Nat.le_refl _) 2 v2) (Nat.le_refl _) 3 v3) (Nat.le_refl _) 4 v4) (Nat.le_refl _) 5 v5)
end Go.Proofs.YtfcdphgggdioeaaGreatDoor
/- A MODULE in memory. -/
namespace Go.Proofs.YtfcdphgggdioeaaGreatDoor
open Go.RowKit
open Tp (Tok hd tx at' stp X S G Pr)

/- append within a region that draws: where the new slice lies -/
theorem step_append_where {P : Program} {ops : Array Oper} {o : Oper} {a : Act} {w : World} {K : Act → World → Prop} {Q : Exit → Act → World → Prop} {E : Prop}
    (hg : o.guard = none) (s x : Operand) (t : TypeId) (hop : o.op = Op.call { callee := Callee.builtin Builtin.append, args := #[s, x], argTypes := #[t, t] })
    (base : Nat) (e : TypeId) (i : TypeInfo) (z : Value) (size bytes : Nat) (ht : P.underlying t = some (.slice e)) (hi : P.info? e = some i) (hz : i.zero = some z)
    (hsize : i.size = size) (hby : i.bytes = bytes) (hzs : z.cells.size = size) (hsz : 0 < size)
    (v : Value) (n : Nat) (xs : List Value) (hs : a.eval s = v) (hown : w.ownsRow base e size v n xs)
    (ad : Addr) (m c : Nat) (news : List Value) (hx : a.eval x = .slice (some ad) m c) (hl : news.length = m * size) (hnews : ∀ j u, news[j]? = some u → w.cell? (ad.add j) = some u) (h1 : ∀ u ∈ news, u.oneCell' = true)
    (h63 : n + m ≤ maxLen) (hbytes : (n + m) * bytes ≤ 140737488355328) (hbase : base ≤ w.heap.size)
    (hK : ∀ v' w', w'.ownsRow base e size v' (n + m) (xs ++ news) → w.grownBy w' v.ownBlock → (∀ g, v'.ownBlock = some g → v.ownBlock = some g ∨ w.heap.size ≤ g) → K (a.put o.dst v') w') :
    if Region.wanted o (yielded ops a.tmps) = true then Oper.wp P o a w K Q else E := by
  have hw : Region.wanted o (yielded ops a.tmps) = true := by simp [Region.wanted, hg]
  rw [if_pos hw]
  obtain ⟨v', w', r1, r2, r3, r4⟩ := run_append_where (P := P) w base t o.type e i z size bytes ht hi hz hsize hby hzs hsz v n xs hown ad m c news hl hnews h1 h63 hbytes hbase
  unfold Oper.wp
  simp [execOp, hop, resolve, invoke, builtin, hs, hx, r1, Result.andThen]
  exact hK v' w' r2 r3 r4

/- a row of cells, by the blocks that D tells -/
def Row (w : World) (D : Nat → Prop) (e size : Nat) (v : Value) (n : Nat) (cs : List Value) : Prop :=
  v = .slice none 0 0 ∧ n = 0 ∧ cs = [] ∨ ∃ g cap cur, v = .slice (some ⟨g, 0, none⟩) n cap ∧ D g ∧ w.heap[g]? = some (.cells cur e (0, 0)) ∧ n ≤ cap ∧ cap ≤ maxLen ∧ cur.size = cap * size ∧ cur.toList.take (n * size) = cs
theorem Row.mono {w w' : World} {D D' : Nat → Prop} (hw : ∀ b, D b → b < w.heap.size → w'.heap[b]? = w.heap[b]? ∧ D' b) {e size : Nat} {v : Value} {n : Nat} {cs : List Value} (h : Row w D e size v n cs) : Row w' D' e size v n cs := by
  rcases h with h | ⟨g, cap, cur, h1, h2, h3, h4⟩
  · exact Or.inl h
  · obtain ⟨e1, e2⟩ := hw g h2 (lt_blk h3)
    exact Or.inr ⟨g, cap, cur, h1, e2, e1.trans h3, h4⟩
theorem Row.of_owns {w : World} {base e size n : Nat} {v : Value} {cs : List Value} (h : w.ownsRow base e size v n cs) : Row w (fun b => base ≤ b ∧ v.ownBlock = some b) e size v n cs := by
  rcases h.2 with ⟨rfl, rfl⟩ | ⟨g, cap, cur, rfl, q1, q2, q3, q4, q5, q6⟩
  · exact Or.inl ⟨rfl, rfl, List.eq_nil_of_length_eq_zero (by simpa using h.1)⟩
  · exact Or.inr ⟨g, cap, cur, rfl, ⟨q1, rfl⟩, q2, q3, q4, q5, q6⟩
def RepP (w : World) (D : Nat → Prop) : List Pr → List Value → Prop
  | [], cs => cs = []
  | c :: l, cs => ∃ (pv vv bv : Value) (bcs cs' : List Value),
      cs = (pcells (bs c.name) (c.pos : Int) c.seen pv vv bv).toList ++ cs' ∧ Row w D 9 1 pv c.params.length (strs c.params) ∧ Row w D 9 1 vv c.vars.length (strs c.vars) ∧
      RepS w D c.body bcs ∧ OwnS w D bv c.body.length bcs ∧ RepP w D l cs'
theorem RepP.mono {w w' : World} {D D' : Nat → Prop} (hw : ∀ b, D b → b < w.heap.size → w'.heap[b]? = w.heap[b]? ∧ D' b) : ∀ (l : List Pr) (cs : List Value), RepP w D l cs → RepP w' D' l cs := by
  intro l
  induction l with
  | nil => intro cs h; exact h
  | cons c l ih =>
    intro cs h
    obtain ⟨pv, vv, bv, bcs, cs', h1, h2, h3, h4, h5, h6⟩ := h
    exact ⟨pv, vv, bv, bcs, cs', h1, h2.mono hw, h3.mono hw, h4.mono' hw, h5.mono hw, ih cs' h6⟩
theorem RepP.app {w : World} {D : Nat → Prop} : ∀ (l m : List Pr) (cs us : List Value), RepP w D l cs → RepP w D m us → RepP w D (l ++ m) (cs ++ us) := by
  intro l
  induction l with
  | nil => intro m cs us h k; rw [show cs = [] from h]; exact k
  | cons c l ih =>
    intro m cs us h k
    obtain ⟨pv, vv, bv, bcs, cs', h1, h2, h3, h4, h5, h6⟩ := h
    exact ⟨pv, vv, bv, bcs, cs' ++ us, by rw [h1, List.append_assoc], h2, h3, h4, h5, ih m cs' us h6 k⟩
def gcs (l : List G) : List Value := (l.map fun g => (gcells (bs g.name) (g.pos : Int) (g.len : Int) g.seen).toList).flatten
theorem gcs_app (l m : List G) : gcs (l ++ m) = gcs l ++ gcs m := by simp [gcs]
def mcells (name : ByteArray) (iv gv pv bv : Value) : Array Value := #[.string name, iv, gv, pv, bv]
/- a module that is being read, in its own block rb -/
structure MS (w : World) (rb : Nat) (nm : List UInt8) (is : List (List UInt8)) (gs : List G) (ps : List Pr) (iv gv pv : Value) (pcs : List Value) : Prop where
  blk : w.heap[rb]? = some (.cells (mcells (bs nm) iv gv pv (.slice none 0 0)) 28 (0, 0))
  im : Row w (fun b => rb < b ∧ gv.ownBlock ≠ some b ∧ pv.ownBlock ≠ some b) 9 1 iv is.length (strs is)
  gl : w.ownsRow (rb + 1) 59 4 gv gs.length (gcs gs)
  pl : w.ownsRow (rb + 1) 62 6 pv ps.length pcs
  ne : ∀ g, gv.ownBlock = some g → pv.ownBlock ≠ some g
  rp : RepP w (fun b => rb < b ∧ gv.ownBlock ≠ some b ∧ pv.ownBlock ≠ some b) ps pcs
theorem owns_keep {w w' : World} {base e size n : Nat} {v : Value} {xs : List Value} (h : w.ownsRow base e size v n xs) (hk : ∀ b, base ≤ b → b < w.heap.size → v.ownBlock = some b → w'.heap[b]? = w.heap[b]?) : w'.ownsRow base e size v n xs := by
  refine ⟨h.1, ?_⟩
  rcases h.2 with q | ⟨g, cap, cur, rfl, q1, q2, q3⟩
  · exact Or.inl q
  · exact Or.inr ⟨g, cap, cur, rfl, q1, (hk g q1 (lt_blk q2) rfl).trans q2, q3⟩
theorem MS.mono {w w' : World} {rb : Nat} {nm : List UInt8} {is : List (List UInt8)} {gs : List G} {ps : List Pr} {iv gv pv : Value} {pcs : List Value} (h : MS w rb nm is gs ps iv gv pv pcs) (hk : ∀ b, rb ≤ b → b < w.heap.size → w'.heap[b]? = w.heap[b]?) : MS w' rb nm is gs ps iv gv pv pcs :=
  ⟨(hk rb (Nat.le_refl _) (lt_blk h.blk)).trans h.blk, h.im.mono (fun b hb hl => ⟨hk b (by omega) hl, hb⟩), owns_keep h.gl (fun b h1 h2 _ => hk b (by omega) h2), owns_keep h.pl (fun b h1 h2 _ => hk b (by omega) h2), h.ne, RepP.mono (fun b hb hl => ⟨hk b (by omega) hl, hb⟩) _ _ h.rp⟩
theorem MS.ext {w w' : World} {rb pb : Nat} {nm : List UInt8} {is : List (List UInt8)} {gs : List G} {ps : List Pr} {iv gv pv : Value} {pcs : List Value} (h : MS w rb nm is gs ps iv gv pv pcs) (k : Ext pb w w') (hp : pb < rb) : MS w' rb nm is gs ps iv gv pv pcs :=
  h.mono (fun b h1 h2 => k.block b h2 (by omega))
theorem MS.below {w w' : World} {rb : Nat} {nm : List UInt8} {is : List (List UInt8)} {gs : List G} {ps : List Pr} {iv gv pv : Value} {pcs : List Value} (h : MS w rb nm is gs ps iv gv pv pcs) (k : Below w.heap.size w w') : MS w' rb nm is gs ps iv gv pv pcs :=
  h.mono (fun b _ h2 => k.block b h2)
/- behind an append to the variables, and its store -/
theorem MS.addG {w w5 : World} {rb : Nat} {nm : List UInt8} {is : List (List UInt8)} {gs : List G} {iv gv gv' : Value} {g : G} (h : MS w rb nm is gs [] iv gv (.slice none 0 0) [])
    (hown : w5.ownsRow (rb + 1) 59 4 gv' (gs.length + 1) (gcs gs ++ (gcells (bs g.name) (g.pos : Int) (g.len : Int) g.seen).toList)) (hgrow : w.grownBy w5 gv.ownBlock) (hw : ∀ b, gv'.ownBlock = some b → gv.ownBlock = some b ∨ w.heap.size ≤ b) :
    MS (w5.setCell ⟨rb, 2, none⟩ gv') rb nm is (gs ++ [g]) [] iv gv' (.slice none 0 0) [] := by
  have hrl := lt_blk h.blk
  have hr : gv.ownBlock ≠ some rb := fun e => by have := owns_row h.gl rb e; omega
  have hb5 : w5.heap[rb]? = w.heap[rb]? := hgrow.block rb hrl (fun e => hr e.symm)
  have hset := set_blk 2 gv' (hb5.trans h.blk)
  have hx : ∀ b, b ≠ rb → (w5.setCell ⟨rb, 2, none⟩ gv').heap[b]? = w5.heap[b]? := fun b hb => Below.heap_setCell _ _ _ _ (by simpa using hb)
  refine ⟨hset, ?_, ?_, World.ownsRow_nil _ _ _ _, fun b hb e => (by cases e), rfl⟩
  · refine h.im.mono (fun b hb hl => ⟨(hx b (by omega)).trans (hgrow.block b hl (fun e => hb.2.1 e.symm)), hb.1, fun e => ?_, hb.2.2⟩)
    rcases hw b e with q | q
    · exact hb.2.1 q
    · omega
  · rw [gcs_app, List.length_append]
    have : gcs [g] = (gcells (bs g.name) (g.pos : Int) (g.len : Int) g.seen).toList := by simp [gcs]
    rw [this]
    exact owns_keep hown (fun b h1 _ _ => hx b (by omega))
theorem MS.addP {w w5 : World} {rb : Nat} {nm : List UInt8} {is : List (List UInt8)} {gs : List G} {ps : List Pr} {iv gv pv pv' : Value} {pcs : List Value} {c : Pr} {us : List Value} (h : MS w rb nm is gs ps iv gv pv pcs)
    (hc : RepP w (fun b => rb < b ∧ gv.ownBlock ≠ some b ∧ pv.ownBlock ≠ some b) [c] us)
    (hown : w5.ownsRow (rb + 1) 62 6 pv' (ps.length + 1) (pcs ++ us)) (hgrow : w.grownBy w5 pv.ownBlock) (hw : ∀ b, pv'.ownBlock = some b → pv.ownBlock = some b ∨ w.heap.size ≤ b) :
    MS (w5.setCell ⟨rb, 3, none⟩ pv') rb nm is gs (ps ++ [c]) iv gv pv' (pcs ++ us) := by
  have hrl := lt_blk h.blk
  have hr : pv.ownBlock ≠ some rb := fun e => by have := owns_row h.pl rb e; omega
  have hb5 : w5.heap[rb]? = w.heap[rb]? := hgrow.block rb hrl (fun e => hr e.symm)
  have hset := set_blk 3 pv' (hb5.trans h.blk)
  have hx : ∀ b, b ≠ rb → (w5.setCell ⟨rb, 3, none⟩ pv').heap[b]? = w5.heap[b]? := fun b hb => Below.heap_setCell _ _ _ _ (by simpa using hb)
  have hD : ∀ b, (rb < b ∧ gv.ownBlock ≠ some b ∧ pv.ownBlock ≠ some b) → b < w.heap.size → (w5.setCell ⟨rb, 3, none⟩ pv').heap[b]? = w.heap[b]? ∧ (rb < b ∧ gv.ownBlock ≠ some b ∧ pv'.ownBlock ≠ some b) := fun b hb hl =>
    ⟨(hx b (by omega)).trans (hgrow.block b hl (fun e => hb.2.2 e.symm)), hb.1, hb.2.1, fun e => by
      rcases hw b e with q | q
      · exact hb.2.2 q
      · omega⟩
  refine ⟨hset, h.im.mono hD, ?_, ?_, fun b hb e => ?_, RepP.app _ _ _ _ (RepP.mono hD _ _ h.rp) (RepP.mono hD _ _ hc)⟩
  · exact owns_keep h.gl (fun b h1 h2 h3 => (hx b (by omega)).trans (hgrow.block b h2 (fun e => h.ne b h3 e.symm)))
  · rw [List.length_append]
    exact owns_keep hown (fun b h1 _ _ => hx b (by omega))
  · rcases hw b e with q | q
    · exact h.ne b hb q
    · have := (h.gl.lt b hb).2; omega
/- a module as a value -/
def VM (B : Nat) (m : Tp.M) (v : Value) (w : World) : Prop := ∃ (ia ga pa ba : Option Addr) (ic gc pc bc : Nat) (pcs bcs : List Value),
  v = .agg (mcells (bs m.name) (.slice ia m.imports.length ic) (.slice ga m.vars.length gc) (.slice pa m.procs.length pc) (.slice ba m.body.length bc)) ∧
  Row w (fun b => B ≤ b) 9 1 (.slice ia m.imports.length ic) m.imports.length (strs m.imports) ∧ Row w (fun b => B ≤ b) 59 4 (.slice ga m.vars.length gc) m.vars.length (gcs m.vars) ∧
  RepP w (fun b => B ≤ b) m.procs pcs ∧ Row w (fun b => B ≤ b) 62 6 (.slice pa m.procs.length pc) m.procs.length pcs ∧ RepS w (fun b => B ≤ b) m.body bcs ∧ OwnS w (fun b => B ≤ b) (.slice ba m.body.length bc) m.body.length bcs
theorem Row.shape {w : World} {D : Nat → Prop} {e size : Nat} {v : Value} {n : Nat} {cs : List Value} (h : Row w D e size v n cs) : ∃ a c, v = .slice a n c := by
  rcases h with ⟨rfl, rfl, _⟩ | ⟨g, cap, cur, rfl, _⟩
  · exact ⟨none, 0, rfl⟩
  · exact ⟨_, _, rfl⟩
theorem OwnS.shape {w : World} {D : Nat → Prop} {v : Value} {n : Nat} {cs : List Value} (h : OwnS w D v n cs) : ∃ a c, v = .slice a n c := by
  rcases h with ⟨rfl, rfl⟩ | ⟨g, cap, cur, rfl, _⟩
  · exact ⟨none, 0, rfl⟩
  · exact ⟨_, _, rfl⟩
end Go.Proofs.YtfcdphgggdioeaaGreatDoor
/- A MODULE is read. -/
namespace Go.Proofs.YtfcdphgggdioeaaGreatDoor
open Go.RowKit
open Tp (Tok hd tx at' stp X S G Pr)

theorem Tryz.infoGlobal : (Tryz.prog.info? 59).map (fun i => (i.zero, i.size, i.bytes)) = some (some (.agg #[.string ⟨#[]⟩, .int .i64 0, .int .i64 0, .bool false]), 4, 40) := by kernel_rfl
theorem Tryz.infoProc : (Tryz.prog.info? 62).map (fun i => (i.zero, i.size, i.bytes)) = some (some (.agg #[.string ⟨#[]⟩, .int .i64 0, .bool false, .slice none 0 0, .slice none 0 0, .slice none 0 0]), 6, 104) := by kernel_rfl
theorem news4 (w : World) (e : Nat) (v0 v1 v2 v3 : Value) : ∀ j u, [v0, v1, v2, v3][j]? = some u → (w.alloc (.cells #[v0, v1, v2, v3] e)).cell? ((⟨w.heap.size, 0, none⟩ : Addr).add j) = some u := by
  intro j u hj
  match j, hj with
  | 0, hj => simp at hj; subst hj; simp [Addr.add]
  | 1, hj => simp at hj; subst hj; simp [Addr.add]
  | 2, hj => simp at hj; subst hj; simp [Addr.add]
  | 3, hj => simp at hj; subst hj; simp [Addr.add]
theorem news6 (w : World) (e : Nat) (v0 v1 v2 v3 v4 v5 : Value) : ∀ j u, [v0, v1, v2, v3, v4, v5][j]? = some u → (w.alloc (.cells #[v0, v1, v2, v3, v4, v5] e)).cell? ((⟨w.heap.size, 0, none⟩ : Addr).add j) = some u := by
  intro j u hj
  match j, hj with
  | 0, hj => simp at hj; subst hj; simp [Addr.add]
  | 1, hj => simp at hj; subst hj; simp [Addr.add]
  | 2, hj => simp at hj; subst hj; simp [Addr.add]
  | 3, hj => simp at hj; subst hj; simp [Addr.add]
  | 4, hj => simp at hj; subst hj; simp [Addr.add]
  | 5, hj => simp at hj; subst hj; simp [Addr.add]
end Go.Proofs.YtfcdphgggdioeaaGreatDoor
/- A MODULE is read: the walk. -/
namespace Go.Proofs.YtfcdphgggdioeaaGreatDoor
open Go.RowKit
open Tp (Tok hd tx at' stp X S G Pr)

theorem gv_slice {w : World} {rb : Nat} {nm : List UInt8} {is : List (List UInt8)} {gs : List G} {ps : List Pr} {iv gv pv : Value} {pcs : List Value} (h : MS w rb nm is gs ps iv gv pv pcs) : (∃ a c, gv = .slice a gs.length c) ∧ (∃ a c, pv = .slice a ps.length c) ∧ (∃ a c, iv = .slice a is.length c) :=
  ⟨owns_shape h.gl, owns_shape h.pl, h.im.shape⟩
theorem MS.setI {w : World} {rb : Nat} {nm : List UInt8} {is : List (List UInt8)} {iv : Value} (h : MS w rb nm [] [] [] (.slice none 0 0) (.slice none 0 0) (.slice none 0 0) []) (hi : w.ownsRow (rb + 1) 9 1 iv is.length (strs is)) : MS (w.setCell ⟨rb, 1, none⟩ iv) rb nm is [] [] iv (.slice none 0 0) (.slice none 0 0) [] := by
  have hx : ∀ b, b ≠ rb → (w.setCell ⟨rb, 1, none⟩ iv).heap[b]? = w.heap[b]? := fun b hb => Below.heap_setCell _ _ _ _ (by simpa using hb)
  exact ⟨set_blk 1 iv h.blk, (Row.of_owns hi).mono (fun b hb _ => ⟨hx b (by omega), by omega, (by simp [Value.ownBlock]), (by simp [Value.ownBlock])⟩), World.ownsRow_nil _ _ _ _, World.ownsRow_nil _ _ _ _, fun b hb e => (by cases e), rfl⟩
theorem MS.newP {w w' : World} {rb C : Nat} {nm : List UInt8} {is : List (List UInt8)} {gs : List G} {ps : List Pr} {iv gv pv : Value} {pcs : List Value} {c : Pr} {pa va ba : Option Addr} {pc vc bc : Nat} (h : MS w rb nm is gs ps iv gv pv pcs) (hC : C = w.heap.size)
    (hv : w'.ownsRow C 9 1 (.slice pa c.params.length pc) c.params.length (strs c.params) ∧ w'.ownsRow C 9 1 (.slice va c.vars.length vc) c.vars.length (strs c.vars) ∧ VO C c.body (.slice ba c.body.length bc) w') :
    RepP w' (fun b => rb < b ∧ gv.ownBlock ≠ some b ∧ pv.ownBlock ≠ some b) [c] [.string (bs c.name), .int .i64 (c.pos : Int), .bool c.seen, .slice pa c.params.length pc, .slice va c.vars.length vc, .slice ba c.body.length bc] := by
  subst hC
  have hrl := lt_blk h.blk
  have hD : ∀ b, w.heap.size ≤ b → rb < b ∧ gv.ownBlock ≠ some b ∧ pv.ownBlock ≠ some b := fun b hb => ⟨by omega, fun e => by have := (h.gl.lt b e).2; omega, fun e => by have := (h.pl.lt b e).2; omega⟩
  obtain ⟨h1, h2, bcs, h3, h4⟩ := hv
  exact ⟨_, _, _, bcs, [], rfl, (Row.of_owns h1).mono (fun b hb _ => ⟨rfl, hD b hb.1⟩), (Row.of_owns h2).mono (fun b hb _ => ⟨rfl, hD b hb.1⟩), h3.mono' (fun b hb _ => ⟨rfl, hD b hb⟩), h4.mono (fun b hb _ => ⟨rfl, hD b hb⟩), rfl⟩
theorem below_set5 (w : World) (b : Nat) (v0 v1 v2 v3 v4 : Value) : Below b w (((((w.setCell ⟨b, 0, none⟩ v0).setCell ⟨b, 1, none⟩ v1).setCell ⟨b, 2, none⟩ v2).setCell ⟨b, 3, none⟩ v3).setCell ⟨b, 4, none⟩ v4) := (below_set (below_set (below_set (below_set (below_set (Below.refl b w) (Nat.le_refl _) 0 v0) (Nat.le_refl _) 1 v1) (Nat.le_refl _) 2 v2) (Nat.le_refl _) 3 v3) (Nat.le_refl _) 4 v4)
/- what is kept of it when its block is written -/
structure MK (w : World) (rb : Nat) (is : List (List UInt8)) (gs : List G) (ps : List Pr) (iv gv pv : Value) (pcs : List Value) : Prop where
  im : Row w (fun b => rb < b) 9 1 iv is.length (strs is)
  gl : Row w (fun b => rb < b) 59 4 gv gs.length (gcs gs)
  pl : Row w (fun b => rb < b) 62 6 pv ps.length pcs
  rp : RepP w (fun b => rb < b) ps pcs
theorem MS.keep {w : World} {rb : Nat} {nm : List UInt8} {is : List (List UInt8)} {gs : List G} {ps : List Pr} {iv gv pv : Value} {pcs : List Value} (h : MS w rb nm is gs ps iv gv pv pcs) : MK w rb is gs ps iv gv pv pcs :=
  ⟨h.im.mono (fun b hb _ => ⟨rfl, hb.1⟩), (Row.of_owns h.gl).mono (fun b hb _ => ⟨rfl, by omega⟩), (Row.of_owns h.pl).mono (fun b hb _ => ⟨rfl, by omega⟩), RepP.mono (fun b hb _ => ⟨rfl, hb.1⟩) _ _ h.rp⟩
theorem MK.mono {w w' : World} {rb : Nat} {is : List (List UInt8)} {gs : List G} {ps : List Pr} {iv gv pv : Value} {pcs : List Value} (h : MK w rb is gs ps iv gv pv pcs) (hk : ∀ b, rb < b → b < w.heap.size → w'.heap[b]? = w.heap[b]?) : MK w' rb is gs ps iv gv pv pcs :=
  ⟨h.im.mono (fun b hb hl => ⟨hk b hb hl, hb⟩), h.gl.mono (fun b hb hl => ⟨hk b hb hl, hb⟩), h.pl.mono (fun b hb hl => ⟨hk b hb hl, hb⟩), RepP.mono (fun b hb hl => ⟨hk b hb hl, hb⟩) _ _ h.rp⟩
theorem MK.ext {w w' : World} {rb pb : Nat} {is : List (List UInt8)} {gs : List G} {ps : List Pr} {iv gv pv : Value} {pcs : List Value} (h : MK w rb is gs ps iv gv pv pcs) (k : Ext pb w w') (hp : pb ≤ rb) : MK w' rb is gs ps iv gv pv pcs :=
  h.mono (fun b h1 h2 => k.block b h2 (by omega))
theorem MK.done {w : World} {rb B : Nat} {nm : List UInt8} {is : List (List UInt8)} {gs : List G} {ps : List Pr} {ia ga pa ba : Option Addr} {ic gc pc bc : Nat} {pcs : List Value} {bd : List S} (hB : B ≤ rb) (h : MK w rb is gs ps (.slice ia is.length ic) (.slice ga gs.length gc) (.slice pa ps.length pc) pcs) (hb : VO (rb + 1) bd (.slice ba bd.length bc) w) :
    VM B ⟨nm, is, gs, ps, bd⟩ (.agg (mcells (bs nm) (.slice ia is.length ic) (.slice ga gs.length gc) (.slice pa ps.length pc) (.slice ba bd.length bc))) w := by
  obtain ⟨bcs, b1, b2⟩ := hb
  exact ⟨ia, ga, pa, ba, ic, gc, pc, bc, pcs, bcs, rfl, h.im.mono (fun b hb _ => ⟨rfl, by omega⟩), h.gl.mono (fun b hb _ => ⟨rfl, by omega⟩), RepP.mono (fun b hb _ => ⟨rfl, by omega⟩) _ _ h.rp, h.pl.mono (fun b hb _ => ⟨rfl, by omega⟩), b1.mono' (fun b hb _ => ⟨rfl, by omega⟩), b2.mono (fun b hb _ => ⟨rfl, by omega⟩)⟩
theorem MS.grewG {w w' : World} {ob : Obj} {rb : Nat} {nm : List UInt8} {is : List (List UInt8)} {gs : List G} {ps : List Pr} {iv gv pv : Value} {pcs : List Value} (h : MS w rb nm is gs ps iv gv pv pcs) (hg : (w.alloc ob).grownBy w' gv.ownBlock) : w'.heap[rb]? = some (.cells (mcells (bs nm) iv gv pv (.slice none 0 0)) 28 (0, 0)) := by
  have hrl := lt_blk h.blk
  have hr : gv.ownBlock ≠ some rb := fun e => by have := owns_row h.gl rb e; omega
  exact (hg.block rb (by simp; omega) (fun e => hr e.symm)).trans ((Below.heap_alloc w ob rb hrl).trans h.blk)
theorem MS.grewP {w w' : World} {ob : Obj} {rb : Nat} {nm : List UInt8} {is : List (List UInt8)} {gs : List G} {ps : List Pr} {iv gv pv : Value} {pcs : List Value} (h : MS w rb nm is gs ps iv gv pv pcs) (hg : (w.alloc ob).grownBy w' pv.ownBlock) : w'.heap[rb]? = some (.cells (mcells (bs nm) iv gv pv (.slice none 0 0)) 28 (0, 0)) := by
  have hrl := lt_blk h.blk
  have hr : pv.ownBlock ≠ some rb := fun e => by have := owns_row h.pl rb e; omega
  exact (hg.block rb (by simp; omega) (fun e => hr e.symm)).trans ((Below.heap_alloc w ob rb hrl).trans h.blk)
theorem step_wanted {P : Program} {ops : Array Oper} {o : Oper} {a : Act} {w : World} {K : Act → World → Prop} {Q : Exit → Act → World → Prop} {E : Prop} (hg : o.guard = none) (h : Oper.wp P o a w K Q) : if Region.wanted o (yielded ops a.tmps) = true then Oper.wp P o a w K Q else E := by
  rw [if_pos (by simp [Region.wanted, hg])]; exact h
/- the tail: from begin on -/
end Go.Proofs.YtfcdphgggdioeaaGreatDoor
/- Bytes: the closures, and past. -/
namespace Go.Proofs.YtfcdphgggdioeaaGreatDoor
open Go.RowKit
open Tp (Tok hd tx at' stp)

def pastI (f : UInt8 → Bool) (l : List UInt8) (i : Nat) : Nat := i + ((l.drop i).takeWhile f).length
theorem pastI_yes {f : UInt8 → Bool} {l : List UInt8} {i : Nat} (h : i < l.length) (hf : f l[i] = true) : pastI f l (i + 1) = pastI f l i := by
  unfold pastI
  rw [List.drop_eq_getElem_cons h, List.takeWhile_cons, if_pos hf]
  simp; omega
theorem pastI_no {f : UInt8 → Bool} {l : List UInt8} {i : Nat} (h : i < l.length) (hf : f l[i] = false) : pastI f l i = i := by
  unfold pastI
  rw [List.drop_eq_getElem_cons h, List.takeWhile_cons, hf]
  simp
theorem pastI_end {f : UInt8 → Bool} {l : List UInt8} {i : Nat} (h : ¬ i < l.length) : pastI f l i = i := by
  unfold pastI
  rw [List.drop_eq_nil_of_le (by omega)]
  simp
theorem pastI_le {f : UInt8 → Bool} {l : List UInt8} {i : Nat} (h : i ≤ l.length) : i ≤ pastI f l i ∧ pastI f l i ≤ l.length := by
  unfold pastI
  have := (List.takeWhile_prefix f (l := l.drop i)).length_le
  simp at this
  omega
theorem blank_eq (c : UInt8) : Tp.blank c = (decide ((c.toNat : Int) = 32) || decide ((c.toNat : Int) = 10)) := by
  rw [Bool.eq_iff_iff]; simp [Tp.blank, ← UInt8.toNat_inj]; omega
end Go.Proofs.YtfcdphgggdioeaaGreatDoor
