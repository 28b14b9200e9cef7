import Derived.Test.YtfcdphgggdioeaaGreatDoorKWa
import Derived.Test.YtfcdphgggdioeaaGreatDoorKPb
import Derived.Laws.EntriesVeiled
import Derived.Lib.ConvBytes
import Derived.Defers
import Derived.Recover
import Derived.Lib.Hide
import Derived.Lib.AppendStr
import Derived.Lib.OthersKept
import Derived.Shelf.Strconv.AppendIntPublic10
/- The tokens of a text. -/
namespace Go.Proofs.YtfcdphgggdioeaaGreatDoor
open Go.RowKit
open Tp (Tok hd tx at' stp)

theorem cut_pos {l : List UInt8} {kd n : Nat} (h : Tp.cut l = some (kd, n)) : 1 ≤ n ∧ n ≤ l.length := by
  cases l with
  | nil => cases h
  | cons c t =>
    unfold Tp.cut at h
    by_cases h1 : Tp.letter c
    · simp only [h1, if_true, Option.some.injEq, Prod.mk.injEq] at h
      have := (List.takeWhile_prefix Tp.ld (l := c :: t)).length_le
      rw [List.takeWhile_cons, if_pos (by simp [Tp.ld, h1])] at h this
      simp at h this
      simp; omega
    · by_cases h2 : Tp.digit c
      · simp only [h1, h2, if_true, Bool.false_eq_true, if_false, Option.some.injEq, Prod.mk.injEq] at h
        have := (List.takeWhile_prefix Tp.digit (l := c :: t)).length_le
        rw [List.takeWhile_cons, if_pos h2] at h this
        simp at h this
        simp; omega
      · simp only [h1, h2, Bool.false_eq_true, if_false] at h
        rw [Option.map_eq_some_iff] at h
        obtain ⟨m, h3, h4⟩ := h
        have h5 := List.find?_some h3
        have h6 := (List.isPrefixOf_iff_prefix.1 h5).length_le
        have h7 : ∀ m, m ∈ Tp.marks → 1 ≤ m.length := by decide
        have := h7 m (List.mem_of_find?_eq_some h3)
        simp only [Prod.mk.injEq] at h4
        omega
def SC (cnt pos : Nat) (l : List UInt8) : Except Tp.Er (List Tok) := Tp.scan (l.length + 1) cnt pos l
theorem scan_fuel : ∀ (n : Nat) (l : List UInt8) (f cnt pos : Nat), l.length ≤ n → l.length < f → Tp.scan f cnt pos l = SC cnt pos l := by
  intro n
  induction n with
  | zero =>
    intro l f cnt pos h1 h2
    have : l = [] := List.eq_nil_of_length_eq_zero (by omega)
    subst this
    cases f with
    | zero => omega
    | succ f => rfl
  | succ n ih =>
    intro l f cnt pos h1 h2
    cases f with
    | zero => omega
    | succ f =>
      cases l with
      | nil => rfl
      | cons c t =>
        simp at h1 h2
        unfold SC
        rw [Tp.scan, Tp.scan]
        by_cases hb : Tp.blank c
        · simp only [hb, if_true]
          rw [ih t f _ _ (by omega) (by omega), ih t (c :: t).length _ _ (by omega) (by simp)]
        · simp only [hb, Bool.false_eq_true, if_false]
          cases hc : Tp.cut (c :: t) with
          | none => rfl
          | some v =>
            obtain ⟨kd, k⟩ := v
            have hp := cut_pos hc
            simp at hp
            simp only
            by_cases h6 : cnt = 600
            · simp only [h6, if_true]
            · simp only [h6, if_false]
              have hl : ((c :: t).drop k).length ≤ t.length := by simp; omega
              rw [ih ((c :: t).drop k) f _ _ (by omega) (by omega), ih ((c :: t).drop k) (c :: t).length _ _ (by omega) (by simp at hl ⊢; omega)]
def consT (t : Tok) : Except Tp.Er (List Tok) → Except Tp.Er (List Tok)
  | .error e => .error e
  | .ok l => .ok (t :: l)
def addT (a : List Tok) : Except Tp.Er (List Tok) → Except Tp.Er (List Tok)
  | .error e => .error e
  | .ok l => .ok (a ++ l)
theorem SC_nil (cnt pos : Nat) : SC cnt pos [] = .ok [⟨0, pos, []⟩] := rfl
theorem SC_blank {cnt pos : Nat} {c : UInt8} {t : List UInt8} (h : Tp.blank c = true) : SC cnt pos (c :: t) = SC cnt (pos + 1) t := by
  unfold SC
  rw [List.length_cons, Tp.scan]
  simp only [h, if_true]
theorem SC_none {cnt pos : Nat} {c : UInt8} {t : List UInt8} (h : Tp.blank c = false) (hc : Tp.cut (c :: t) = none) : SC cnt pos (c :: t) = .error (3, pos) := by
  unfold SC
  rw [List.length_cons, Tp.scan]
  simp only [h, Bool.false_eq_true, if_false, hc]
theorem SC_full {pos kd n : Nat} {c : UInt8} {t : List UInt8} (h : Tp.blank c = false) (hc : Tp.cut (c :: t) = some (kd, n)) : SC 600 pos (c :: t) = .error (4, pos) := by
  unfold SC
  rw [List.length_cons, Tp.scan]
  simp only [h, Bool.false_eq_true, if_false, hc, if_true]
theorem SC_tok {cnt pos kd n : Nat} {c : UInt8} {t : List UInt8} (h : Tp.blank c = false) (hc : Tp.cut (c :: t) = some (kd, n)) (h6 : cnt ≠ 600) : SC cnt pos (c :: t) = consT ⟨kd, pos, (c :: t).take n⟩ (SC (cnt + 1) (pos + n) ((c :: t).drop n)) := by
  have hp := cut_pos hc
  simp at hp
  conv => lhs; unfold SC
  rw [List.length_cons, Tp.scan]
  simp only [h, Bool.false_eq_true, if_false, hc, h6]
  rw [scan_fuel ((c :: t).drop n).length _ _ _ _ (Nat.le_refl _) (by simp; omega)]
  cases SC (cnt + 1) (pos + n) ((c :: t).drop n) <;> rfl
theorem addT_consT (a : List Tok) (t : Tok) (x : Except Tp.Er (List Tok)) : addT a (consT t x) = addT (a ++ [t]) x := by
  cases x with
  | error e => rfl
  | ok v => simp [addT, consT]
theorem cut_at (l : List UInt8) (i : Nat) (h : i < l.length) : Tp.cut (l.drop i) = if Tp.letter l[i] then some (1, pastI Tp.ld l i - i) else if Tp.digit l[i] then some (2, pastI Tp.digit l i - i) else (Tp.marks.find? (fun m => m.isPrefixOf (l.drop i))).map (fun m => (3, m.length)) := by
  unfold pastI
  rw [List.drop_eq_getElem_cons h]
  unfold Tp.cut
  simp only [Nat.add_sub_cancel_left]
end Go.Proofs.YtfcdphgggdioeaaGreatDoor
/- scan. -/
namespace Go.Proofs.YtfcdphgggdioeaaGreatDoor
open Go.RowKit
open Tp (Tok hd tx at' stp)

theorem below_bytes (w : World) (e : TypeId) (s : ByteArray) : Below w.heap.size w (Lib.bytesWorld w e s) :=
  ⟨by simp only [Lib.bytesWorld, World.freeze]; repeat (first | rfl | split), by simp only [Lib.bytesWorld, World.freeze]; repeat (first | rfl | split), by simp only [Lib.bytesWorld, World.freeze]; repeat (first | rfl | split), by rw [Lib.bytesWorld_size]; omega, fun k hk => Lib.bytesWorld_at_old w e s k hk⟩
theorem news3 (w : World) (v0 v1 v2 : Value) (t : TypeId) : ∀ j u, [v0, v1, v2][j]? = some u → (w.alloc (.cells #[v0, v1, v2] t)).cell? ((⟨w.heap.size, 0, none⟩ : Addr).add j) = some u := by
  intro j u hj
  rw [Addr.add_lit, cell_blk (new_blk _ _), Nat.zero_add]
  simpa using hj
theorem owns_below {w w' : World} {base e size n : Nat} {v : Value} {xs : List Value} (h : w.ownsRow base e size v n xs) (k : Below w.heap.size w w') : w'.ownsRow base e size v n xs := by
  refine ⟨h.1, ?_⟩
  rcases h.2 with h1 | ⟨g, cap, cur, h1, h2, h3, h4⟩
  · exact Or.inl h1
  · refine Or.inr ⟨g, cap, cur, h1, h2, ?_, h4⟩
    have hg : g < w.heap.size := by rw [Array.getElem?_eq_some_iff] at h3; exact h3.1
    rw [k.block g hg]; exact h3
end Go.Proofs.YtfcdphgggdioeaaGreatDoor
/- caught, and what Parse defers. -/
namespace Go.Proofs.YtfcdphgggdioeaaGreatDoor
open Go.RowKit
open Tp (Tok hd tx at' stp X S G Pr)

def m0 : Array Value := #[.string ⟨#[]⟩, .slice none 0 0, .slice none 0 0, .slice none 0 0, .slice none 0 0]
end Go.Proofs.YtfcdphgggdioeaaGreatDoor
/- Parse. -/
namespace Go.Proofs.YtfcdphgggdioeaaGreatDoor
open Go.RowKit
open Tp (Tok hd tx at' stp X S G Pr)

theorem Ext.toBelow {b B : Nat} {w w' : World} (h : Ext b w w') (hb : B ≤ b) (hB : B ≤ w.heap.size) : Below B w w' := ⟨h.os, h.tape, h.output, h.size, fun k hk => h.block k (by omega) (by omega)⟩
end Go.Proofs.YtfcdphgggdioeaaGreatDoor
/- A module in memory, by its parts. -/
namespace Go.Proofs.YtfcdphgggdioeaaGreatDoor
open Go.RowKit
open Tp (X S G Pr)

theorem bs_size (l : List UInt8) : (bs l).size = l.length := by simp [bs, ByteArray.size]
theorem bs_back (l : List UInt8) : (bs l).data.toList = l := by simp [bs]
theorem cell_box5 {w : World} {b : Nat} {v0 v1 v2 v3 v4 : Value} {t : TypeId} (h : w.heap[b]? = some (.cells #[v0, v1, v2, v3, v4] t (0, 0))) : w.cell? ⟨b, 0, none⟩ = some v0 ∧ w.cell? ⟨b, 1, none⟩ = some v1 ∧ w.cell? ⟨b, 2, none⟩ = some v2 ∧ w.cell? ⟨b, 3, none⟩ = some v3 ∧ w.cell? ⟨b, 4, none⟩ = some v4 :=
  ⟨(cell_blk h).trans rfl, (cell_blk h).trans rfl, (cell_blk h).trans rfl, (cell_blk h).trans rfl, (cell_blk h).trans rfl⟩
theorem gcs_get : ∀ (l : List G) (i : Nat) (h : i < l.length) (j : Nat), j < 4 → (gcs l)[i * 4 + j]? = (gcells (bs l[i].name) (l[i].pos : Int) (l[i].len : Int) l[i].seen).toList[j]? := by
  intro l
  induction l with
  | nil => intro i h; simp at h
  | cons g l ih =>
    intro i h j hj
    have e : gcs (g :: l) = (gcells (bs g.name) (g.pos : Int) (g.len : Int) g.seen).toList ++ gcs l := rfl
    rw [e]
    cases i with
    | zero => rw [Nat.zero_mul, Nat.zero_add, List.getElem?_append_left (by simpa [gcells] using hj)]; rfl
    | succ i =>
      rw [List.getElem?_append_right (by simp [gcells]; omega)]
      have : (i + 1) * 4 + j - (gcells (bs g.name) (g.pos : Int) (g.len : Int) g.seen).toList.length = i * 4 + j := by simp [gcells]; omega
      rw [this, ih i (by simpa using h) j hj]
      rfl
theorem repp_get {w : World} {D : Nat → Prop} : ∀ (l : List Pr) (cs : List Value), RepP w D l cs → ∀ (i : Nat) (h : i < l.length), ∃ (pv vv bv : Value) (bcs : List Value),
    (∀ j, j < 6 → cs[i * 6 + j]? = (pcells (bs l[i].name) (l[i].pos : Int) l[i].seen pv vv bv).toList[j]?) ∧ Row w D 9 1 pv l[i].params.length (strs l[i].params) ∧ Row w D 9 1 vv l[i].vars.length (strs l[i].vars) ∧ RepS w D l[i].body bcs ∧ OwnS w D bv l[i].body.length bcs := by
  intro l
  induction l with
  | nil => intro cs _ i h; simp at h
  | cons c l ih =>
    intro cs hr i h
    obtain ⟨pv, vv, bv, bcs, cs', h1, h2, h3, h4, h5, h6⟩ := hr
    subst h1
    cases i with
    | zero =>
      refine ⟨pv, vv, bv, bcs, fun j hj => ?_, h2, h3, h4, h5⟩
      rw [Nat.zero_mul, Nat.zero_add, List.getElem?_append_left (by simpa [pcells] using hj)]
      rfl
    | succ i =>
      obtain ⟨pv', vv', bv', bcs', q1, q2⟩ := ih cs' h6 i (by simpa using h)
      refine ⟨pv', vv', bv', bcs', fun j hj => ?_, q2⟩
      rw [List.getElem?_append_right (by simp [pcells]; omega)]
      have : (i + 1) * 6 + j - (pcells (bs c.name) (c.pos : Int) c.seen pv vv bv).toList.length = i * 6 + j := by simp [pcells]; omega
      rw [this, q1 j hj]
      rfl
theorem row_cell {w : World} {D : Nat → Prop} {e size n : Nat} {v : Value} {cs : List Value} (h : Row w D e size v n cs) (hn : 0 < n) : ∃ g cap, v = .slice (some ⟨g, 0, none⟩) n cap ∧ D g ∧ g < w.heap.size ∧ ∀ k, k < n * size → w.cell? ⟨g, k, none⟩ = cs[k]? := by
  rcases h with ⟨_, h2, _⟩ | ⟨g, cap, cur, h1, h2, h3, h4, h5, h6, h7⟩
  · omega
  · refine ⟨g, cap, h1, h2, lt_blk h3, fun k hk => ?_⟩
    rw [cell_blk h3, ← Array.getElem?_toList, ← h7, List.getElem?_take_of_lt hk]
/- a module that lies below B -/
structure MB (w : World) (B : Nat) (m : Tp.M) (ia ga pa ba : Option Addr) (ic gc pc bc : Nat) : Prop where
  im : Row w (fun i => i < B) 9 1 (.slice ia m.imports.length ic) m.imports.length (strs m.imports)
  gl : Row w (fun i => i < B) 59 4 (.slice ga m.vars.length gc) m.vars.length (gcs m.vars)
  pr : ∃ pcs, RepP w (fun i => i < B) m.procs pcs ∧ Row w (fun i => i < B) 62 6 (.slice pa m.procs.length pc) m.procs.length pcs
  bd : ∃ bcs, RepS w (fun i => i < B) m.body bcs ∧ OwnS w (fun i => i < B) (.slice ba m.body.length bc) m.body.length bcs
end Go.Proofs.YtfcdphgggdioeaaGreatDoor
/- append of a text to a slice of one's own: where the new one lies; strconv.AppendInt: nothing but the slice's own block is written. -/
namespace Go.Proofs.YtfcdphgggdioeaaGreatDoor
open Go.RowKit

/- what was written: the slice's own block, or new ones -/
structure Exact (v v' : Value) (w w' : World) : Prop where
  size : w.heap.size ≤ w'.heap.size
  block : ∀ k, k < w.heap.size → v.ownBlock ≠ some k → w'.heap[k]? = w.heap[k]?
  lies : ∀ g, v'.ownBlock = some g → v.ownBlock = some g ∨ w.heap.size ≤ g
theorem Exact.of {v v' : Value} {w w' : World} (h : w.grownBy w' v.ownBlock) (hw : ∀ g, v'.ownBlock = some g → v.ownBlock = some g ∨ w.heap.size ≤ g) : Exact v v' w w' :=
  ⟨h.size, fun k hk hn => h.block k hk (fun e => hn e.symm), hw⟩
theorem run_append_where_string {P : Program} (w : World) (base : Nat) (t u ty e : TypeId) (i : TypeInfo) (ht : P.underlying t = some (.slice e)) (hu : P.underlying u = some .string) (hi : P.info? e = some i) (hz : i.zero = some (.int .u8 0))
    (hsize : i.size = 1) (hby : i.bytes = 1) (v : Value) (n : Nat) (xs : List Value) (hown : w.ownsRow base e 1 v n xs) (s : ByteArray)
    (h63 : n + s.size ≤ maxLen) (hbytes : n + s.size ≤ 140737488355328) (hbase : base ≤ w.heap.size) :
    ∃ v' w', (Builtin.append_ #[t, u] ty #[v, .string s]).run P w = .ok v' w' ∧ w'.ownsRow base e 1 v' (n + s.size) (xs ++ Lib.strCells s) ∧ w.grownBy w' v.ownBlock ∧ Exact v v' w w' := by
  obtain ⟨v', w', r1, r2, r3, _⟩ := Lib.run_append_own_string (P := P) w base t u ty e i ht hu hi hz hsize hby v n xs hown s h63 hbytes hbase
  refine ⟨v', w', r1, r2, r3, Exact.of r3 ?_⟩
  rcases hown.2 with ⟨rfl, rfl⟩ | ⟨g, cap, cur, rfl, q1, q2, q3, q4, q5, q6⟩
  · have hx : xs = [] := List.eq_nil_of_length_eq_zero (by simpa using hown.1)
    subst hx
    obtain ⟨v2, w2, s1, s2, _⟩ := Lib.run_append_own_string (P := P) w w.heap.size t u ty e i ht hu hi hz hsize hby (.slice none 0 0) 0 [] (World.ownsRow_nil _ _ _ _) s h63 hbytes (Nat.le_refl _)
    rw [r1] at s1
    cases s1
    intro g hg
    exact Or.inr (owns_row s2 g hg)
  · by_cases hroom : n + s.size ≤ cap
    · have s1 := Lib.run_append_room_string (P := P) w t u ty e i ht hu hi hsize g n cap cur q2 s hroom (by omega)
      rw [r1] at s1
      cases s1
      intro g' hg
      exact Or.inl hg
    · have s1 := Lib.run_append_grow_string (P := P) w t u ty e i (.int .u8 0) ht hu hi hz ⟨g, 0, none⟩ n cap xs (by rw [hsize]; exact hown.1) (hown.cells (g := g) rfl) s (by omega) (by unfold maxLen at h63; omega) (by rw [hby]; exact growslice_fits (by omega) (by omega))
      rw [r1] at s1
      cases s1
      intro g' hg
      simp [Value.ownBlock] at hg
      exact Or.inr (by omega)
theorem wpList_append_where_string {P : Program} (w : World) {ops : Array Oper} {rest : List Oper} {o : Oper} {a : Act} {Q : Exit → Act → World → Prop} (hgd : o.guard = none) (sl x : Operand) (t u : TypeId)
    (ho : o.op = .call { callee := .builtin .append, args := #[sl, x], argTypes := #[t, u] })
    (base : Nat) (e : TypeId) (i : TypeInfo) (ht : P.underlying t = some (.slice e)) (hu : P.underlying u = some .string) (hi : P.info? e = some i) (hz : i.zero = some (.int .u8 0))
    (hsize : i.size = 1) (hby : i.bytes = 1)
    (v : Value) (n : Nat) (xs : List Value) (hs : a.eval sl = v) (hown : w.ownsRow base e 1 v n xs) (s : ByteArray) (hx : a.eval x = .string s)
    (h63 : n + s.size ≤ maxLen) (hbytes : n + s.size ≤ 140737488355328) (hbase : base ≤ w.heap.size)
    (h : ∀ v' w', w'.ownsRow base e 1 v' (n + s.size) (xs ++ Lib.strCells s) → w.grownBy w' v.ownBlock → Exact v v' w w' → wpList P ops Q rest (a.put o.dst v') w') : wpList P ops Q (o :: rest) a w := by
  refine wpList_plain hgd fun K hK => ?_
  obtain ⟨v', w', r1, r2, r3, r4⟩ := run_append_where_string (P := P) w base t u o.type e i ht hu hi hz hsize hby v n xs hown s h63 hbytes hbase
  unfold Oper.wp
  simp [execOp, ho, resolve, invoke, builtin, hs, hx, r1, Result.andThen]
  exact hK _ _ (h v' w' r2 r3 r4)
end Go.Proofs.YtfcdphgggdioeaaGreatDoor
/- Writing: star, addAll, addBlanks. -/
namespace Go.Proofs.YtfcdphgggdioeaaGreatDoor
open Go.RowKit

theorem Tryz.infoU8 : (Tryz.prog.info? 5).map (fun i => (i.zero, i.size, i.bytes)) = some (some (.int .u8 0), 1, 1) := by kernel_rfl
/- a text that is being written -/
def u8s (l : List UInt8) : List Value := l.map fun b => Value.int .u8 b.toNat
/- blocks that writing keeps besides -/
variable {kk : Nat → Prop}
structure Buf (kk : Nat → Prop) (w : World) (B : Nat) (v : Value) (l : List UInt8) : Prop where
  own : w.ownsRow B 5 1 v l.length (u8s l)
  le : B ≤ w.heap.size
  kp : ∀ k, kk k → k < w.heap.size ∧ v.ownBlock ≠ some k
theorem u8s_append (a b : List UInt8) : u8s (a ++ b) = u8s a ++ u8s b := by simp [u8s]
theorem Buf.nil (w : World) (B : Nat) (h : B ≤ w.heap.size) (hk : ∀ k, kk k → k < w.heap.size) : Buf kk w B (.slice none 0 0) [] := ⟨World.ownsRow_nil _ _ _ _, h, fun k h => ⟨hk k h, by simp [Value.ownBlock]⟩⟩
theorem Buf.below {w w' : World} {B : Nat} {v : Value} {l : List UInt8} (h : Buf kk w B v l) (k : Below w.heap.size w w') : Buf kk w' B v l := ⟨owns_below h.1 k, Nat.le_trans h.2 k.size, fun i hi => ⟨Nat.lt_of_lt_of_le (h.kp i hi).1 k.size, (h.kp i hi).2⟩⟩
/- what writing leaves: nothing below B has turned, nor what holds no bytes -/
structure Bw (kk : Nat → Prop) (B : Nat) (w w' : World) : Prop extends Below B w w' where
  oth : Lib.OthersKept 5 none w w'
  kp : ∀ k, kk k → k < w.heap.size → w'.heap[k]? = w.heap[k]?
theorem Bw.refl (B : Nat) (w : World) : Bw kk B w w := ⟨Below.refl _ _, Lib.OthersKept.refl _ _ _, fun _ _ _ => rfl⟩
theorem Bw.trans {B : Nat} {w1 w2 w3 : World} (h : Bw kk B w1 w2) (k : Bw kk B w2 w3) : Bw kk B w1 w3 := ⟨h.toBelow.trans k.toBelow, h.oth.trans k.oth, fun i hi hl => (k.kp i hi (Nat.lt_of_lt_of_le hl h.size)).trans (h.kp i hi hl)⟩
theorem Bw.of {B : Nat} {w w' : World} (h : Below w.heap.size w w') (hB : B ≤ w.heap.size) : Bw kk B w w' :=
  ⟨h.mono hB, fun k o hk _ _ => by rw [h.block k (Array.getElem?_eq_some_iff.1 hk).1]; exact hk, fun k _ hk => h.block k hk⟩
theorem Bw.keeps {B b : Nat} {w w' : World} {cs : Array Value} {t : TypeId} {q : Nat × Nat} (h : Bw kk B w w') (hb : w.heap[b]? = some (.cells cs t q)) (ht : t ≠ 5) : w'.heap[b]? = some (.cells cs t q) :=
  h.oth b _ hb (by simp) (fun c fz e => by cases e; exact ht rfl)
theorem Buf.grown {w w' : World} {B : Nat} {v : Value} {l : List UInt8} (h : Buf kk w B v l) (k : w.grownBy w' v.ownBlock) : Bw kk B w w' :=
  ⟨(Below.refl _ _).grown k h.2 (owns_row h.1), (Lib.OthersKept.refl _ _ _).grown k (fun g hg => by
    rcases h.1.2 with ⟨rfl, _⟩ | ⟨g', cap, cur, rfl, _, q2, _⟩
    · cases hg
    · cases hg; exact ⟨_, _, q2⟩), fun i hi hl => k.block i hl (fun e => (h.kp i hi).2 e.symm)⟩
theorem Buf.next {w w' : World} {B : Nat} {v v' : Value} {l l' : List UInt8} (h : Buf kk w B v l) (k : Exact v v' w w') (ho : w'.ownsRow B 5 1 v' l'.length (u8s l')) : Buf kk w' B v' l' :=
  ⟨ho, Nat.le_trans h.2 k.size, fun i hi => ⟨Nat.lt_of_lt_of_le (h.kp i hi).1 k.size, fun e => (k.lies i e).elim (h.kp i hi).2 (Nat.not_le.2 (h.kp i hi).1)⟩⟩
def Wrote (kk : Nat → Prop) (B : Nat) (w : World) (l : List UInt8) (e : Ending) (w' : World) : Prop := ∃ v', e = .returned v' ∧ Buf kk w' B v' l ∧ Bw kk B w w'
end Go.Proofs.YtfcdphgggdioeaaGreatDoor
/- Writing: one byte, a text; addRef. -/
namespace Go.Proofs.YtfcdphgggdioeaaGreatDoor
open Go.RowKit
variable {kk : Nat → Prop}

theorem wpList_str {ops : Array Oper} {rest : List Oper} {o : Oper} {a : Act} {Q : Exit → Act → World → Prop} (hgd : o.guard = none) (sl x : Operand)
    (ho : o.op = .call { callee := .builtin .append, args := #[sl, x], argTypes := #[146, 9] })
    {w : World} {B : Nat} {v : Value} {l : List UInt8} (hb : Buf kk w B v l) (s : List UInt8) (hs : a.eval sl = v) (hx : a.eval x = .string (bs s)) (hl : l.length + s.length ≤ 2000000000)
    (h : ∀ v' w', Buf kk w' B v' (l ++ s) → Bw kk B w w' → wpList Tryz.prog ops Q rest (a.put o.dst v') w') : wpList Tryz.prog ops Q (o :: rest) a w := by
  obtain ⟨i0, hi0, hz0, hz1, hz2⟩ := info_parts Tryz.infoU8
  refine wpList_append_where_string w hgd sl x 146 9 ho B 5 i0 Tryz.underlying146 Tryz.underlying9 hi0 hz0 hz1 hz2 v l.length (u8s l) hs hb.1 (bs s) hx (by rw [bs_size]; unfold maxLen; omega) (by rw [bs_size]; omega) hb.2 ?_
  intro v' w' h1 h2 h4
  refine h v' w' (hb.next h4 ?_) (hb.grown h2)
  rw [u8s_append, List.length_append, ← bs_size s]
  exact h1
theorem wpList_byte {ops : Array Oper} {rest : List Oper} {o : Oper} {a : Act} {Q : Exit → Act → World → Prop} (hgd : o.guard = none) (sl x : Operand)
    (ho : o.op = .call { callee := .builtin .append, args := #[sl, x], argTypes := #[146, 146] })
    {w : World} {B : Nat} {v : Value} {l : List UInt8} (hb : Buf kk w B v l) (c : UInt8) (n : Int) (hn : n = c.toNat) (hs : a.eval sl = v) (hx : a.eval x = .slice (some ⟨w.heap.size, 0, none⟩) 1 1) (hl : l.length + 1 ≤ 2000000000)
    (h : ∀ v' w', Buf kk w' B v' (l ++ [c]) → Bw kk B w w' → wpList Tryz.prog ops Q rest (a.put o.dst v') w') : wpList Tryz.prog ops Q (o :: rest) a (w.alloc (.cells #[.int .u8 n] 5)) := by
  subst hn
  obtain ⟨i0, hi0, hz0, hz1, hz2⟩ := info_parts Tryz.infoU8
  have hb1 : Buf kk (w.alloc (.cells #[.int .u8 (c.toNat : Int)] 5)) B v l := hb.below ((Below.refl _ _).alloc (Nat.le_refl _) _)
  refine wpList_append_where _ hgd sl x 146 ho B 5 i0 (.int .u8 0) 1 1 Tryz.underlying146 hi0 hz0 hz1 hz2 rfl (by decide) v l.length (u8s l) hs hb1.1 ⟨w.heap.size, 0, none⟩ 1 1 [.int .u8 (c.toNat : Int)] hx rfl ?c1 ?c2 ?c3 ?c4 ?c5 ?_
  case c1 =>
    intro j u hj
    rw [Addr.add_lit, cell_blk (new_blk _ _), Nat.zero_add]
    simpa using hj
  case c2 => intro u hu; simp at hu; subst hu; rfl
  case c3 => unfold maxLen; omega
  case c4 => omega
  case c5 => exact hb1.2
  intro v' w' h1 h2 h4
  have h3 := hb1.grown h2
  refine h v' w' (hb1.next (Exact.of h2 h4) ?_) ((Bw.of ((Below.refl _ _).alloc (Nat.le_refl _) _) hb.2).trans h3)
  rw [u8s_append, List.length_append]
  exact h1
end Go.Proofs.YtfcdphgggdioeaaGreatDoor
