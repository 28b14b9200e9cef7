import Derived.Test.YthkdefhngkangaaDoorKWL
import Derived.Test.YthkdefhngkangaaDoorKSh
/- Writing: star, addAll, addBlanks. -/
namespace Go.Proofs.YthkdefhngkangaaDoor
open Go.RowKit

theorem Tryd.infoU8 : (Tryd.prog.info? 5).map (fun i => (i.zero, i.size, i.bytes)) = some (some (.int .u8 0), 1, 1) := by kernel_rfl
/- a text that is being written -/
def u8s (l : List UInt8) : List Value := l.map fun b => Value.int .u8 b.toNat
/- blocks that writing keeps besides -/
variable {kk : Nat → Prop}
structure Buf (kk : Nat → Prop) (w : World) (B : Nat) (v : Value) (l : List UInt8) : Prop where
  own : w.ownsRow B 5 1 v l.length (u8s l)
  le : B ≤ w.heap.size
  kp : ∀ k, kk k → k < w.heap.size ∧ v.ownBlock ≠ some k
theorem u8s_bs (l : List UInt8) : Lib.strCells (bs l) = u8s l := rfl
theorem bs_size (l : List UInt8) : (bs l).size = l.length := by simp [bs, ByteArray.size]
theorem u8s_append (a b : List UInt8) : u8s (a ++ b) = u8s a ++ u8s b := by simp [u8s]
theorem Buf.nil (w : World) (B : Nat) (h : B ≤ w.heap.size) (hk : ∀ k, kk k → k < w.heap.size) : Buf kk w B (.slice none 0 0) [] := ⟨World.ownsRow_nil _ _ _ _, h, fun k h => ⟨hk k h, by simp [Value.ownBlock]⟩⟩
theorem Buf.below {w w' : World} {B : Nat} {v : Value} {l : List UInt8} (h : Buf kk w B v l) (k : Below w.heap.size w w') : Buf kk w' B v l := ⟨owns_below h.1 k, Nat.le_trans h.2 k.size, fun i hi => ⟨Nat.lt_of_lt_of_le (h.kp i hi).1 k.size, (h.kp i hi).2⟩⟩
/- what writing leaves: nothing below B has turned, nor what holds no bytes -/
structure Bw (kk : Nat → Prop) (B : Nat) (w w' : World) : Prop extends Below B w w' where
  oth : Lib.OthersKept 5 none w w'
  kp : ∀ k, kk k → k < w.heap.size → w'.heap[k]? = w.heap[k]?
theorem Bw.refl (B : Nat) (w : World) : Bw kk B w w := ⟨Below.refl _ _, Lib.OthersKept.refl _ _ _, fun _ _ _ => rfl⟩
theorem Bw.trans {B : Nat} {w1 w2 w3 : World} (h : Bw kk B w1 w2) (k : Bw kk B w2 w3) : Bw kk B w1 w3 := ⟨h.toBelow.trans k.toBelow, h.oth.trans k.oth, fun i hi hl => (k.kp i hi (Nat.lt_of_lt_of_le hl h.size)).trans (h.kp i hi hl)⟩
theorem Bw.of {B : Nat} {w w' : World} (h : Below w.heap.size w w') (hB : B ≤ w.heap.size) : Bw kk B w w' :=
  ⟨h.mono hB, fun k o hk _ _ => by rw [h.block k (Array.getElem?_eq_some_iff.1 hk).1]; exact hk, fun k _ hk => h.block k hk⟩
theorem Bw.keeps {B b : Nat} {w w' : World} {cs : Array Value} {t : TypeId} {q : Nat × Nat} (h : Bw kk B w w') (hb : w.heap[b]? = some (.cells cs t q)) (ht : t ≠ 5) : w'.heap[b]? = some (.cells cs t q) :=
  h.oth b _ hb (by simp) (fun c fz e => by cases e; exact ht rfl)
theorem Buf.grown {w w' : World} {B : Nat} {v : Value} {l : List UInt8} (h : Buf kk w B v l) (k : w.grownBy w' v.ownBlock) : Bw kk B w w' :=
  ⟨(Below.refl _ _).grown k h.2 (owns_row h.1), (Lib.OthersKept.refl _ _ _).grown k (fun g hg => by
    rcases h.1.2 with ⟨rfl, _⟩ | ⟨g', cap, cur, rfl, _, q2, _⟩
    · cases hg
    · cases hg; exact ⟨_, _, q2⟩), fun i hi hl => k.block i hl (fun e => (h.kp i hi).2 e.symm)⟩
theorem Buf.next {w w' : World} {B : Nat} {v v' : Value} {l l' : List UInt8} (h : Buf kk w B v l) (k : Exact v v' w w') (ho : w'.ownsRow B 5 1 v' l'.length (u8s l')) : Buf kk w' B v' l' :=
  ⟨ho, Nat.le_trans h.2 k.size, fun i hi => ⟨Nat.lt_of_lt_of_le (h.kp i hi).1 k.size, fun e => (k.lies i e).elim (h.kp i hi).2 (Nat.not_le.2 (h.kp i hi).1)⟩⟩
/- what is another type's block is not the text's -/
theorem Buf.other {w : World} {B sb : Nat} {v : Value} {l : List UInt8} {cs : Array Value} {t : TypeId} {q : Nat × Nat} (h : Buf kk w B v l) (hs : w.heap[sb]? = some (.cells cs t q)) (ht : t ≠ 5) : v.ownBlock ≠ some sb := by
  intro e
  rcases h.1.2 with ⟨rfl, _⟩ | ⟨g, cap, cur, rfl, h2, h3, _⟩
  · cases e
  · simp only [Value.ownBlock, Option.some.injEq] at e
    rw [e, hs] at h3
    simp at h3
    exact ht h3.2.1
def Wrote (kk : Nat → Prop) (B : Nat) (w : World) (l : List UInt8) (e : Ending) (w' : World) : Prop := ∃ v', e = .returned v' ∧ Buf kk w' B v' l ∧ Bw kk B w w'
theorem star_any (w : World) (b : Bool) : Calls Tryd.prog 68 #[.bool b] w fun e w' => e = .returned (.string (bs (Tp.star b).flatten)) ∧ w' = w := by
  cases b
  · go_enter Tryd.func68, Tryd.ntmps68
    go_wp2
    go_ret
    exact ⟨rfl, rfl⟩
  · go_enter Tryd.func68, Tryd.ntmps68
    go_wp2
    go_ret
    exact ⟨rfl, rfl⟩
def blanks (d : Nat) : List UInt8 := List.replicate (2 * d) 32
theorem blanks_succ (d : Nat) : blanks d ++ [32, 32] = blanks (d + 1) := by
  unfold blanks
  rw [show [(32 : UInt8), 32] = List.replicate 2 32 from rfl, List.replicate_append_replicate]
  rfl
set_option maxRecDepth 100000 in
set_option maxHeartbeats 400000 in
theorem addBlanks_post {w : World} {B : Nat} {v : Value} {l : List UInt8} (h : Buf kk w B v l) (d : Nat) (hd : d ≤ 1000) (hl : l.length ≤ 1000000000) :
    Calls Tryd.prog 81 #[v, .int .i64 (d : Int)] w (Wrote kk B w (l ++ blanks d)) := by
  obtain ⟨i0, hi0, hz0, hz1, hz2⟩ := info_parts Tryd.infoU8
  obtain ⟨ao, cap, hv⟩ := owns_shape h.1
  subst hv
  go_enter Tryd.func81, Tryd.ntmps81
  go_wp2_with fail
  go_loopg [0, 6] d (fun k v vi wr => ∃ i : Nat, i ≤ d ∧ k = d - i ∧ vi = .int .i64 (i : Int) ∧ Buf kk wr B v (l ++ blanks i) ∧ Bw kk B w wr)
  case atStart => exact ⟨0, by omega, by omega, rfl, by simpa [blanks] using h, Bw.refl _ _⟩
  case round =>
    obtain ⟨i, hid, hk, rfl, hbuf, hbel⟩ := hrel
    have hll : (l ++ blanks i).length = l.length + 2 * i := by simp [blanks]
    obtain ⟨m, hm⟩ : ∃ m, m = l ++ blanks i := ⟨_, rfl⟩
    rw [← hm] at hbuf hll
    obtain ⟨ao', cap', hv⟩ := owns_shape hbuf.1
    subst hv
    have HM : Hid (m = l ++ blanks i) := hm
    clear hm
    have hml : m.length ≤ 1000002000 := by omega
    clear hll
    by_cases hlt : i < d
    · have hlt' : (i : Int) < (d : Int) := by omega
      go_wp2_with (at_builtin; refine wpList_append_where_string _ rfl _ _ 62 9 rfl B 5 i0 Tryd.underlying62 Tryd.underlying9 hi0 hz0 hz1 hz2 _ _ _ rfl hbuf.1 (bs [32, 32]) rfl ?c1 ?c2 ?c3 ?_)
      case c1 => rw [bs_size]; unfold maxLen; simp; omega
      case c2 => rw [bs_size]; simp; omega
      case c3 => exact hbuf.2
      · intro v' w3 hown3 hgrow hex3
        have hb3 := hbuf.grown hgrow
        have HB : Hid (Buf kk w3 B v' (l ++ blanks (i + 1))) := by
          refine hbuf.next hex3 ?_
          rw [← blanks_succ, ← List.append_assoc, ← HM.out, u8s_append, List.length_append]
          exact hown3
        have HBB : Hid (Bw kk B w w3) := hbel.trans hb3
        clear hown3 hgrow hb3 hex3
        go_wp2_with fail
        go_roundg (d - (i + 1))
        case measure => omega
        case rel => exact ⟨i + 1, by omega, rfl, by go_num, HB.out, HBB.out⟩
    · have hlt' : ¬ (i : Int) < (d : Int) := by omega
      have e : i = d := by omega
      subst e
      go_wp2_with fail
      go_ret
      exact ⟨_, rfl, HM.out ▸ hbuf, hbel⟩
set_option maxRecDepth 100000 in
set_option maxHeartbeats 400000 in
theorem addAll_post {w : World} {B : Nat} {v : Value} {l : List UInt8} (h : Buf kk w B v l) (ss : List (List UInt8)) (sb cs : Nat) (hs : w.heap[sb]? = some (.cells (ss.map fun s => Value.string (bs s)).toArray 9 (0, 0))) (hn : ss.length ≤ 1000) (hl : (l ++ ss.flatten).length ≤ 1000000000) :
    Calls Tryd.prog 49 #[v, .slice (some ⟨sb, 0, none⟩) ss.length cs] w (Wrote kk B w (l ++ ss.flatten)) := by
  obtain ⟨i0, hi0, hz0, hz1, hz2⟩ := info_parts Tryd.infoU8
  obtain ⟨ao, cap, hv⟩ := owns_shape h.1
  subst hv
  go_enter Tryd.func49, Tryd.ntmps49
  go_wp2_with fail
  go_loopg [0, 9] ss.length (fun k v vi wr => ∃ i : Nat, i ≤ ss.length ∧ k = ss.length - i ∧ vi = .int .i64 (i : Int) ∧ Buf kk wr B v (l ++ (ss.take i).flatten) ∧ Bw kk B w wr ∧ wr.heap[sb]? = some (.cells (ss.map fun s => Value.string (bs s)).toArray 9 (0, 0)))
  case atStart => exact ⟨0, by omega, by omega, rfl, by simpa using h, Bw.refl _ _, hs⟩
  case round =>
    obtain ⟨i, hid, hk, rfl, hbuf, hbel, hsr⟩ := hrel
    have hsplit : (l ++ ss.flatten).length = (l ++ (ss.take i).flatten).length + (ss.drop i).flatten.length := by
      conv => lhs; rw [← List.take_append_drop i ss, List.flatten_append]
      rw [← List.append_assoc, List.length_append]
    obtain ⟨m, hm⟩ : ∃ m, m = l ++ (ss.take i).flatten := ⟨_, rfl⟩
    rw [← hm] at hbuf hsplit
    obtain ⟨ao', cap', hv⟩ := owns_shape hbuf.1
    subst hv
    have HM : Hid (m = l ++ (ss.take i).flatten) := hm
    clear hm
    by_cases hlt : i < ss.length
    · have hlt' : (i : Int) < (ss.length : Int) := by omega
      have hcell : wr.cell? ⟨sb, i, none⟩ = some (.string (bs ss[i])) := by
        rw [cell_blk hsr]; simp [hlt]
      have hsplit2 : (ss.drop i).flatten.length = ss[i].length + (ss.drop (i + 1)).flatten.length := by
        rw [List.drop_eq_getElem_cons hlt, List.flatten_cons, List.length_append]
      have hnew : l ++ (ss.take (i + 1)).flatten = (l ++ (ss.take i).flatten) ++ ss[i] := by
        rw [List.take_succ_eq_append_getElem hlt, List.flatten_append, List.append_assoc]; simp
      rw [← HM.out] at hnew
      generalize ss[i] = x at hcell hsplit2 hnew
      have HNEW : Hid (l ++ (ss.take (i + 1)).flatten = m ++ x) := hnew
      have HSR : Hid (wr.heap[sb]? = some (.cells (ss.map fun s => Value.string (bs s)).toArray 9 (0, 0))) := hsr
      clear hnew hsr hs
      go_wp2_with (at_builtin; refine wpList_append_where_string _ rfl _ _ 62 9 rfl B 5 i0 Tryd.underlying62 Tryd.underlying9 hi0 hz0 hz1 hz2 _ _ _ rfl hbuf.1 (bs x) rfl ?c1 ?c2 ?c3 ?_)
      case c1 => rw [bs_size]; unfold maxLen; omega
      case c2 => rw [bs_size]; omega
      case c3 => exact hbuf.2
      · intro v' w3 hown3 hgrow hex3
        have hb3 := hbuf.grown hgrow
        have HB : Hid (Buf kk w3 B v' (l ++ (ss.take (i + 1)).flatten)) := by
          refine hbuf.next hex3 ?_
          rw [HNEW.out, u8s_append, List.length_append, ← bs_size x]
          exact hown3
        have HBB : Hid (Bw kk B w w3) := hbel.trans hb3
        have hsbl : sb < wr.heap.size := by have := HSR.out; rw [Array.getElem?_eq_some_iff] at this; exact this.1
        have HS3 : Hid (w3.heap[sb]? = some (.cells (ss.map fun s => Value.string (bs s)).toArray 9 (0, 0))) := by
          unfold Hid
          rw [hgrow.block sb hsbl (fun e => hbuf.other HSR.out (by decide) e.symm)]
          exact HSR.out
        clear hown3 hgrow hb3 hex3 hbuf hcell
        go_wp2_with fail
        go_roundg (ss.length - (i + 1))
        case measure => omega
        case rel => exact ⟨i + 1, by omega, rfl, by go_num, HB.out, HBB.out, HS3.out⟩
    · have hlt' : ¬ (i : Int) < (ss.length : Int) := by omega
      have e : i = ss.length := by omega
      clear hsr hs hsplit hl
      go_wp2_with fail
      go_ret
      refine ⟨_, rfl, ?_, hbel⟩
      have := HM.out
      rw [e, List.take_length] at this
      rw [← this]
      exact hbuf
end Go.Proofs.YthkdefhngkangaaDoor
/- Writing: one byte, a text; addRef. -/
namespace Go.Proofs.YthkdefhngkangaaDoor
open Go.RowKit
variable {kk : Nat → Prop}

theorem wpList_str {ops : Array Oper} {rest : List Oper} {o : Oper} {a : Act} {Q : Exit → Act → World → Prop} (hgd : o.guard = none) (sl x : Operand)
    (ho : o.op = .call { callee := .builtin .append, args := #[sl, x], argTypes := #[62, 9] })
    {w : World} {B : Nat} {v : Value} {l : List UInt8} (hb : Buf kk w B v l) (s : List UInt8) (hs : a.eval sl = v) (hx : a.eval x = .string (bs s)) (hl : l.length + s.length ≤ 2000000000)
    (h : ∀ v' w', Buf kk w' B v' (l ++ s) → Bw kk B w w' → wpList Tryd.prog ops Q rest (a.put o.dst v') w') : wpList Tryd.prog ops Q (o :: rest) a w := by
  obtain ⟨i0, hi0, hz0, hz1, hz2⟩ := info_parts Tryd.infoU8
  refine wpList_append_where_string w hgd sl x 62 9 ho B 5 i0 Tryd.underlying62 Tryd.underlying9 hi0 hz0 hz1 hz2 v l.length (u8s l) hs hb.1 (bs s) hx (by rw [bs_size]; unfold maxLen; omega) (by rw [bs_size]; omega) hb.2 ?_
  intro v' w' h1 h2 h4
  refine h v' w' (hb.next h4 ?_) (hb.grown h2)
  rw [u8s_append, List.length_append, ← bs_size s]
  exact h1
theorem wpList_byte {ops : Array Oper} {rest : List Oper} {o : Oper} {a : Act} {Q : Exit → Act → World → Prop} (hgd : o.guard = none) (sl x : Operand)
    (ho : o.op = .call { callee := .builtin .append, args := #[sl, x], argTypes := #[62, 62] })
    {w : World} {B : Nat} {v : Value} {l : List UInt8} (hb : Buf kk w B v l) (c : UInt8) (n : Int) (hn : n = c.toNat) (hs : a.eval sl = v) (hx : a.eval x = .slice (some ⟨w.heap.size, 0, none⟩) 1 1) (hl : l.length + 1 ≤ 2000000000)
    (h : ∀ v' w', Buf kk w' B v' (l ++ [c]) → Bw kk B w w' → wpList Tryd.prog ops Q rest (a.put o.dst v') w') : wpList Tryd.prog ops Q (o :: rest) a (w.alloc (.cells #[.int .u8 n] 5)) := by
  subst hn
  obtain ⟨i0, hi0, hz0, hz1, hz2⟩ := info_parts Tryd.infoU8
  have hb1 : Buf kk (w.alloc (.cells #[.int .u8 (c.toNat : Int)] 5)) B v l := hb.below ((Below.refl _ _).alloc (Nat.le_refl _) _)
  refine wpList_append_where _ hgd sl x 62 ho B 5 i0 (.int .u8 0) 1 1 Tryd.underlying62 hi0 hz0 hz1 hz2 rfl (by decide) v l.length (u8s l) hs hb1.1 ⟨w.heap.size, 0, none⟩ 1 1 [.int .u8 (c.toNat : Int)] hx rfl ?c1 ?c2 ?c3 ?c4 ?c5 ?_
  case c1 =>
    intro j u hj
    rw [Addr.add_lit, cell_blk (new_blk _ _), Nat.zero_add]
    simpa using hj
  case c2 => intro u hu; simp at hu; subst hu; rfl
  case c3 => unfold maxLen; omega
  case c4 => omega
  case c5 => exact hb1.2
  intro v' w' h1 h2 h4
  have h3 := hb1.grown h2
  refine h v' w' (hb1.next (Exact.of h2 h4) ?_) ((Bw.of ((Below.refl _ _).alloc (Nat.le_refl _) _) hb.2).trans h3)
  rw [u8s_append, List.length_append]
  exact h1
set_option maxRecDepth 100000 in
set_option maxHeartbeats 400000 in
theorem addRef_post {w : World} {B : Nat} {v : Value} {l : List UInt8} (h : Buf kk w B v l) (xb : Nat) (m n : List UInt8) (h3 : w.cell? ⟨xb, 3, none⟩ = some (.string (bs m))) (h4 : w.cell? ⟨xb, 4, none⟩ = some (.string (bs n))) (hx : xb < B) (hl : l.length + m.length + n.length ≤ 1000000000) :
    Calls Tryd.prog 92 #[v, .pointer (some ⟨xb, 0, none⟩)] w (Wrote kk B w (l ++ (Tp.ref m n).flatten)) := by
  by_cases hm : m = []
  · subst hm
    have h3' : w.cell? ⟨xb, 3, none⟩ = some (.string ⟨#[]⟩) := h3
    clear h3
    go_enter Tryd.func92, Tryd.ntmps92
    go_wp2_with (at_builtin; refine wpList_str rfl _ _ rfl h n rfl rfl ?c1 ?_)
    case c1 => simp at hl; omega
    intro v' w' hb hbel
    have HB : Hid (Buf kk w' B v' (l ++ n)) := hb
    clear hb h
    go_wp2_with fail
    go_ret
    exact ⟨_, rfl, by simpa [Tp.ref] using HB.out, hbel⟩
  · have hm' : (bs m).toList.isEmpty = false := by rw [bs_toList]; simpa using hm
    go_enter Tryd.func92, Tryd.ntmps92
    go_wp2_with (at_builtin; refine wpList_str rfl _ _ rfl h m rfl rfl ?c1 ?_)
    case c1 => omega
    intro v1 w1 hb1 hbel1
    clear h
    go_wp2_with (at_builtin; refine wpList_byte rfl _ _ rfl hb1 46 46 rfl rfl rfl ?c1 ?_)
    case c1 => simp; omega
    intro v2 w2 hb2 hbel2
    have h4' : w2.cell? ⟨xb, 4, none⟩ = some (.string (bs n)) := ((hbel1.trans hbel2).cell (p := ⟨xb, 4, none⟩) hx).trans h4
    clear hb1 h3 h4
    go_wp2_with (at_builtin; refine wpList_str rfl _ _ rfl hb2 n rfl rfl ?c1 ?_)
    case c1 => simp; omega
    intro v3 w3 hb3 hbel3
    have HB : Hid (Buf kk w3 B v3 (l ++ m ++ [46] ++ n)) := by unfold Hid; simpa using hb3
    clear hb3 hb2
    go_wp2_with fail
    go_ret
    exact ⟨_, rfl, by simpa [Tp.ref, hm, Tp.mDot] using HB.out, (hbel1.trans hbel2).trans hbel3⟩
end Go.Proofs.YthkdefhngkangaaDoor
/- strconv's functions, of the library's shelf. -/
namespace Go.Proofs.YthkdefhngkangaaDoor
open Go.RowKit
variable {kk : Nat → Prop}
/- the table of strconv's -/
def Tab (B : Nat) (w : World) : Prop := Lib.TabBelow Tryd.prog B w "internal/strconv.uint64pow10" .u64 Lib.pow10Tab
theorem appendInt_post {w : World} {B : Nat} {v : Value} {l : List UInt8} (h : Buf kk w B v l) (ht : Tab B w) (i : Nat) (hi : i ≤ 9223372036854775807) (hl : l.length ≤ 2000000000) :
    Calls Tryd.prog 91 #[v, .int .i64 (i : Int), .int .i64 10] w (Wrote kk B w (l ++ Lib.itoa (i : Int))) := by
  refine (appInt Tryd.laysAI B l.length i hi v (u8s l) w h.1 h.2 (by omega) ht.here).mono ?_
  rintro e w' ⟨v', h1, h2, h3, h4, h5⟩
  refine ⟨v', h1, h.next h5 ?_, ⟨h3, h4, fun k hk hl => h5.block k hl (h.kp k hk).2⟩⟩
  rw [u8s_append, List.length_append, Lib.itoa_nonneg]
  exact h2
end Go.Proofs.YthkdefhngkangaaDoor
