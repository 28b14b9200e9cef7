import Derived.Test.YtfpeboeknjlkbaaGreatDoorKWa
import Derived.Test.YtfpeboeknjlkbaaGreatDoorKPe
import Derived.Test.YtfpeboeknjlkbaaGreatDoorKWc
import Derived.Test.YtfpeboeknjlkbaaGreatDoorKWo
import Derived.Test.YtfpeboeknjlkbaaGreatDoorKSha
import Derived.Maps.OwnSet
import Derived.Maps.OwnOps
import Derived.StringKeys
import Derived.Lib.Hide
/- A map whose keys are texts, by what it holds at each: its block, what is looked up, what is stored. -/
namespace Go.Proofs.YtfpeboeknjlkbaaGreatDoor
open Go.RowKit Go.Maps
open Tp (Bs)

def heldV (v : Value) : Option (DataW Value × List MemPlace) := some (.held v, [])
theorem skey : Keyed Tryz.prog 9 := string_keyed Tryz.underlying9
/- block b is a map of at most n entries; at the text k it holds f k -/
structure MapV (w : World) (b n : Nat) (f : Bs → Option Value) : Prop where
  own : ∃ D, w.ownsMap Tryz.prog 9 heldV b n D ∧ ∀ s, Maps.has D (.string s) = (f s).isSome ∧ ∀ v, f s = some v → ∀ z, D.atKey (.string s) z = .held v
theorem MapV.made (w : World) : MapV (w.alloc (.map #[] 0)) w.heap.size 0 (fun _ => none) :=
  ⟨⟨.map [], World.ownsMap_made _ _ _ _, fun s => ⟨rfl, fun v h => by cases h⟩⟩⟩
theorem MapV.on {w w' : World} {b n : Nat} {f : Bs → Option Value} (h : MapV w b n f) (k : w'.heap[b]? = w.heap[b]?) : MapV w' b n f := by
  obtain ⟨D, ⟨es, clock, h1, h2⟩, h3⟩ := h.own
  exact ⟨⟨D, ⟨es, clock, k.trans h1, h2⟩, h3⟩⟩
theorem MapV.lt {w : World} {b n : Nat} {f : Bs → Option Value} (h : MapV w b n f) : b < w.heap.size := by
  obtain ⟨D, h1, _⟩ := h.own
  exact h1.lt
theorem MapV.mono {w : World} {b n n' : Nat} {f : Bs → Option Value} (h : MapV w b n f) (k : n ≤ n') : MapV w b n' f := by
  obtain ⟨D, h1, h2⟩ := h.own
  exact ⟨⟨D, h1.mono k, h2⟩⟩
theorem skey_of (l : Bs) (hl : l.length ≤ 1000000) : keyOf Tryz.prog 9 (.string (bs l)) = some (.string l) := by
  have := Go.WideMaps.keyOf_string_mk (P := Tryz.prog) (k := 9) Tryz.underlying9 (s := bs l) (by simp [bs, ByteArray.size, maxLen]; omega)
  simpa [bs] using this
theorem MapV.look {w : World} {b n : Nat} {f : Bs → Option Value} (h : MapV w b n f) {t e : TypeId} (ht : Tryz.prog.underlying t = some (.map 9 e)) {z : Value} (hz : (zeroValue e).run Tryz.prog w = .ok z w) (l : Bs) (hl : l.length ≤ 1000000) (c : Bool) :
    (Instr.lookup t (.map (some b)) (.string (bs l)) c).run Tryz.prog w = .ok (if c then .tuple #[(f l).getD z, .bool (f l).isSome] else (f l).getD z) w := by
  obtain ⟨D, h1, h2⟩ := h.own
  obtain ⟨e1, e2⟩ := h2 l
  have key : ∀ v, heldV v = some (D.atKey (.string l) (.held z), ([] : List MemPlace)) → v = (f l).getD z := by
    intro v hv
    unfold heldV at hv
    simp only [Option.some.injEq, Prod.mk.injEq, and_true] at hv
    cases hf : f l with
    | none =>
      rw [hf] at e1
      rw [atKey_of_not_has e1] at hv
      injection hv
    | some u =>
      rw [e2 u hf] at hv
      injection hv
  have key' : ∀ v ps, heldV v = some (D.atKey (.string l) (.held z), ps) → v = (f l).getD z := by
    intro v ps hv
    refine key v ?_
    unfold heldV at hv ⊢
    simp only [Option.some.injEq, Prod.mk.injEq] at hv ⊢
    exact ⟨hv.1, trivial⟩
  cases c with
  | true =>
    obtain ⟨v, ps, r1, r2⟩ := h1.look_ok skey ht hz (zd := .held z) (zp := []) rfl (skey_of l hl)
    rw [r1, key' v ps r2, e1]
    rfl
  | false =>
    obtain ⟨v, ps, r1, r2⟩ := h1.lookup skey ht hz (zd := .held z) (zp := []) rfl (skey_of l hl)
    rw [r1, key' v ps r2]
    rfl
theorem nilmap_look (w : World) {t e : TypeId} (ht : Tryz.prog.underlying t = some (.map 9 e)) {z : Value} (hz : (zeroValue e).run Tryz.prog w = .ok z w) (l : Bs) (hl : l.length ≤ 1000000) (c : Bool) :
    (Instr.lookup t (.map none) (.string (bs l)) c).run Tryz.prog w = .ok (if c then .tuple #[z, .bool false] else z) w := Maps.look_nil c skey ht hz (skey_of l hl)
def updV (f : Bs → Option Value) (k : Bs) (v : Value) : Bs → Option Value := fun s => if s = k then some v else f s
theorem MapV.store {w : World} {b n : Nat} {f : Bs → Option Value} (h : MapV w b n f) {t e : TypeId} (ht : Tryz.prog.underlying t = some (.map 9 e)) (hn : n < 1000000) (l : Bs) (hl : l.length ≤ 1000000) (v : Value) :
    ∃ w', (Instr.mapUpdate t (.map (some b)) (.string (bs l)) v).run Tryz.prog w = .ok () w' ∧ MapV w' b (n + 1) (updV f l v) ∧ Ext b w w' ∧ w'.heap.size = w.heap.size := by
  obtain ⟨D, h1, h2⟩ := h.own
  obtain ⟨w', r1, r2, r3⟩ := h1.store skey ht (by unfold maxLen; omega) (skey_of l hl) (d := .held v) (ps := []) rfl
  have hm := h1.isMap
  refine ⟨w', r1, ⟨⟨_, r2, fun s => ?_⟩⟩, ?_, ?_⟩
  · by_cases hs : s = l
    · subst hs
      have hk : WideAt.IsKeyLit (.string s) := by simp [WideAt.IsKeyLit]
      refine ⟨by rw [has_put_same hm hk]; simp [updV], fun u hu z => ?_⟩
      rw [atKey_put_same hm hk]
      simp [updV] at hu
      rw [hu]
    · have hne : (Lit.string s) ≠ .string l := fun e => hs (by injection e)
      refine ⟨by rw [has_put_other hne, (h2 s).1]; simp [updV, hs], fun u hu z => ?_⟩
      rw [atKey_put_other hne]
      simp [updV, hs] at hu
      exact (h2 s).2 u hu z
  · have g := r3.grown
    exact ⟨g.os, g.tape, g.output, g.size, fun k hk hb => g.block k hk (fun e => hb (by injection e))⟩
  · obtain ⟨es, clock, es', clock', _, rfl⟩ := r3
    simp [ChangeMaps.setBlock]
end Go.Proofs.YtfpeboeknjlkbaaGreatDoor
/- check's small functions: throw, kind, number, add. -/
namespace Go.Proofs.YtfpeboeknjlkbaaGreatDoor
open Go.RowKit Go.Maps
open Tp (Bs Th)

@[go_sem] theorem zeroTh (w : World) : (zeroValue 194).run Tryz.prog w = .ok (.agg #[.int .i64 0, .int .i64 0]) w := by kernel_rfl
@[go_sem] theorem zeroSyms (w : World) : (zeroValue 150).run Tryz.prog w = .ok (.slice none 0 0) w := by kernel_rfl
def thV (x : Nat × Int) : Value := .agg #[.int .i64 (x.1 : Int), .int .i64 x.2]

set_option maxRecDepth 100000 in
set_option maxHeartbeats 400000 in
theorem cthrow_any (en pl : Nat) (w : World) :
    Calls Tryz.prog 145 #[.int .i64 (en : Int), .int .i64 (pl : Int)] w fun e w' => Thrown w.heap.size (en, pl) e w' ∧ Below w.heap.size w w' := by
  go_enter Tryz.func145, Tryz.ntmps145
  go_wp2
  exact ⟨rfl, ⟨⟨w.heap.size, Nat.le_refl _, rfl, by simp [go_sem], by simp [go_sem]⟩⟩, (Below.refl _ _).alloc (Nat.le_refl _) _⟩
set_option maxRecDepth 100000 in
set_option maxHeartbeats 400000 in
theorem number_any (w : World) :
    Calls Tryz.prog 117 #[] w fun e w' => e = .returned (.agg #[.int .i64 0, .int .i64 (-1)]) ∧ Below w.heap.size w w' := by
  go_enter Tryz.func117, Tryz.ntmps117
  go_wp2
  exact bodyPost_ret (v := .agg #[.int .i64 0, .int .i64 (-1)]) (by simp [results, Tryz.results117, go_sem]) rfl ⟨rfl, (Below.refl _ _).alloc (Nat.le_refl _) _⟩
set_option maxRecDepth 100000 in
set_option maxHeartbeats 400000 in
theorem kind_any (a : Nat) (b : Int) (w : World) :
    Calls Tryz.prog 166 #[.agg #[.int .i64 (a : Int), .int .i64 b]] w fun e w' => e = .returned (.int .i64 (Tp.kindOf (a, b) : Int)) ∧ Below w.heap.size w w' := by
  have hbe : ∀ ob, Below w.heap.size w (w.alloc ob) := fun ob => (Below.refl _ _).alloc (Nat.le_refl _) _
  have HB := Lib.hid hbe
  clear hbe
  unfold Tp.kindOf
  by_cases h1 : 0 ≤ b
  · have h1' : b ≥ 0 := h1
    rw [if_pos h1]
    go_enter Tryz.func166, Tryz.ntmps166
    go_wp2
    go_ret
    exact ⟨rfl, HB.out _⟩
  · have h1' : ¬ b ≥ 0 := h1
    rw [if_neg h1]
    by_cases h2 : 0 < a
    · have h2' : (a : Int) > 0 := by omega
      rw [if_pos h2]
      go_enter Tryz.func166, Tryz.ntmps166
      go_wp2
      go_ret
      exact ⟨rfl, HB.out _⟩
    · have h2' : ¬ (a : Int) > 0 := by omega
      rw [if_neg h2]
      go_enter Tryz.func166, Tryz.ntmps166
      go_wp2
      go_ret
      exact ⟨rfl, HB.out _⟩
end Go.Proofs.YtfpeboeknjlkbaaGreatDoor
/- Sorting Syms. -/
namespace Go.Proofs.YtfpeboeknjlkbaaGreatDoor
open Go.RowKit Go.Sort
open Tp (Sy)

def encSy (s : Sy) : List Value := [.string (bs s.1), .int .i64 (s.2.1 : Int), .int .i64 s.2.2]
def sycs (l : List Sy) : List Value := (l.map encSy).flatten
theorem sycs_cons (s : Sy) (l : List Sy) : sycs (s :: l) = encSy s ++ sycs l := rfl
theorem sycs_get : ∀ (l : List Sy) (i : Nat) (h : i < l.length) (j : Nat), j < 3 → (sycs l)[i * 3 + j]? = (encSy l[i])[j]? := by
  intro l
  induction l with
  | nil => intro i h; simp at h
  | cons s l ih =>
    intro i h j hj
    rw [sycs_cons]
    cases i with
    | zero => rw [Nat.zero_mul, Nat.zero_add, List.getElem?_append_left (by simpa [encSy] using hj)]; rfl
    | succ i =>
      rw [List.getElem?_append_right (by simp [encSy]; omega)]
      have : (i + 1) * 3 + j - (encSy s).length = i * 3 + j := by simp [encSy]; omega
      rw [this, ih i (by simpa using h) j hj]
      rfl
/- a row of Syms in block g -/
structure SyRow (w : World) (g : Nat) (cap : Nat) (l : List Sy) : Prop where
  b : ∃ cur, w.heap[g]? = some (.cells cur 203 (0, 0)) ∧ cur.size = cap * 3 ∧ cur.toList.take (l.length * 3) = sycs l
  n : l.length ≤ cap
  m : cap ≤ maxLen
end Go.Proofs.YtfpeboeknjlkbaaGreatDoor
/- What others see of a module: Of. -/
namespace Go.Proofs.YtfpeboeknjlkbaaGreatDoor
open Go.RowKit Go.Sort
open Tp (Sy)

/- Syms that a slice holds, in blocks from B on -/
def SL (w : World) (B : Nat) (v : Value) (l : List Sy) : Prop := v = .slice none 0 0 ∧ l = [] ∨ ∃ g cap, v = .slice (some ⟨g, 0, none⟩) l.length cap ∧ B ≤ g ∧ SyRow w g cap l
end Go.Proofs.YtfpeboeknjlkbaaGreatDoor
/- What others see of a module: Of's contract; how it is written: Print's. -/
namespace Go.Proofs.YtfpeboeknjlkbaaGreatDoor
open Go.RowKit Go.Sort
open Tp (Sy G Pr)

theorem SL.len {w : World} {B : Nat} {v : Value} {l : List Sy} (h : SL w B v l) : ∃ a c, v = .slice a l.length c := by
  rcases h with ⟨rfl, rfl⟩ | ⟨g, cap, rfl, _⟩
  · exact ⟨none, 0, rfl⟩
  · exact ⟨_, _, rfl⟩
theorem SL.cell {w : World} {B : Nat} {a : Option Addr} {n c : Nat} {l : List Sy} (h : SL w B (.slice a n c) l) (i : Nat) (hi : i < l.length) : ∃ g, a = some ⟨g, 0, none⟩ ∧ B ≤ g ∧ g < w.heap.size ∧ ∀ j, j < 3 → w.cell? ⟨g, i * 3 + j, none⟩ = (encSy l[i])[j]? := by
  rcases h with ⟨_, rfl⟩ | ⟨g, cap, q1, q2, q3⟩
  · simp at hi
  · cases q1
    obtain ⟨cur, r1, r2, r3⟩ := q3.b
    refine ⟨g, rfl, q2, lt_blk r1, fun j hj => ?_⟩
    rw [cell_blk r1, ← Array.getElem?_toList, ← sycs_get l i hi j hj, ← r3, List.getElem?_take_of_lt (by omega)]
theorem SL.on {w w' : World} {B : Nat} {v : Value} {l : List Sy} (h : SL w B v l) (k : Below w.heap.size w w') : SL w' B v l := by
  rcases h with q | ⟨g, cap, q1, q2, q3⟩
  · exact Or.inl q
  · obtain ⟨cur, r1, r2, r3⟩ := q3.b
    exact Or.inr ⟨g, cap, q1, q2, ⟨⟨cur, (k.block g (lt_blk r1)).trans r1, r2, r3⟩, q3.n, q3.m⟩⟩
end Go.Proofs.YtfpeboeknjlkbaaGreatDoor
/- Finding a Sym: Find. -/
namespace Go.Proofs.YtfpeboeknjlkbaaGreatDoor
open Go.RowKit Go.Sort
open Tp (Sy)

theorem bs_inj {a b : List UInt8} (h : bs a = bs b) : a = b := by
  have := congrArg (fun x : ByteArray => x.data.toList) h
  simpa [bs] using this
set_option maxRecDepth 100000 in
theorem find1_post (s : Sy) (n : List UInt8) (W : World) (bp : Nat) (hc : W.cell? ⟨bp, 0, none⟩ = some (.string (bs n))) :
    Calls Tryz.prog 163 #[.agg #[.string (bs s.1), .int .i64 (s.2.1 : Int), .int .i64 s.2.2], .pointer (some ⟨bp, 0, none⟩)] W fun e w' => e = .returned (.bool (decide (s.1 = n))) ∧ Below W.heap.size W w' := by
  obtain ⟨nm, x1, x2⟩ := s
  simp only
  have hlt := World.block_lt_of_cell? _ _ hc
  by_cases h : nm = n
  · subst h
    go_enter Tryz.func163, Tryz.ntmps163
    go_wp2_with fail
    go_ret
    exact ⟨by simp, (Below.refl _ _).alloc (Nat.le_refl _) _⟩
  · have hne : ¬ bs nm = bs n := fun e => h (bs_inj e)
    go_enter Tryz.func163, Tryz.ntmps163
    go_wp2_with fail
    go_ret
    exact ⟨by simp [h, bs_toList], (Below.refl _ _).alloc (Nat.le_refl _) _⟩
/- the number of the first that is called so, below 0: none -/
def fidx (l : List Sy) (n : List UInt8) : Int := match l.findIdx? (fun s => s.1 == n) with
  | some i => (i : Int)
  | none => -1
theorem fidx_at {l : List Sy} {n : List UInt8} {i : Nat} (hi : i < l.length) (h : l[i].1 = n) (hb : ∀ k (hk : k < i), l[k].1 ≠ n) : fidx l n = (i : Int) := by
  unfold fidx
  have : l.findIdx? (fun s => s.1 == n) = some i := by
    rw [List.findIdx?_eq_some_iff_getElem]
    exact ⟨hi, by simpa using h, fun j hj => by simpa using hb j hj⟩
  rw [this]
theorem fidx_no {l : List Sy} {n : List UInt8} (hb : ∀ k (hk : k < l.length), l[k].1 ≠ n) : fidx l n = -1 := by
  unfold fidx
  have : l.findIdx? (fun s => s.1 == n) = none := by
    rw [List.findIdx?_eq_none_iff]
    intro x hx
    obtain ⟨k, hk, rfl⟩ := List.getElem_of_mem hx
    simpa using hb k hk
  rw [this]
set_option maxRecDepth 100000 in
set_option maxHeartbeats 1000000 in
theorem index_post {w : World} {B : Nat} {v : Value} {l : List Sy} (h : SL w B v l) (hn : l.length ≤ 1000) (n : List UInt8) (bp : Nat) (hc : w.cell? ⟨bp, 0, none⟩ = some (.string (bs n))) :
    Calls Tryz.prog 162 #[v, .func (.func 163) #[] #[.pointer (some ⟨bp, 0, none⟩)]] w fun e w' => e = .returned (.int .i64 (fidx l n)) ∧ Below w.heap.size w w' := by
  obtain ⟨a, c, rfl⟩ := h.len
  have hn' : (l.length : Int) ≤ 1000 := by omega
  have hltp := World.block_lt_of_cell? _ _ hc
  have HSL := Lib.hid h
  have HC := Lib.hid hc
  obtain ⟨ln, hnl⟩ : ∃ ln, ln = l.length := ⟨_, rfl⟩
  rw [← hnl] at hn' ⊢
  have HN := Lib.hid hnl
  clear h hnl hc
  go_enter Tryz.func162, Tryz.ntmps162
  go_wp2_with fail
  go_loopg [8] ln (fun k vi wr => ∃ i : Nat, i ≤ ln ∧ k = ln - i ∧ vi = .int .i64 (i : Int) ∧ Hid (∀ k (hk : k < l.length), k < i → l[k].1 ≠ n) ∧ Hid (Below w.heap.size w wr))
  case atStart => exact ⟨0, by omega, by omega, rfl, fun k _ hk => by omega, Below.refl _ _⟩
  case round =>
    obtain ⟨i, hid, hk, rfl, HI, HW⟩ := hrel
    by_cases hlt : i < ln
    · have hlt' : (i : Int) < (ln : Int) := by omega
      have hia : i < l.length := by have := HN.out; omega
      obtain ⟨g, rfl, _, hgl, hcell⟩ := HSL.out.cell i hia
      have hc := fun j (hj : j < 3) => (HW.out.cell (p := ⟨g, i * 3 + j, none⟩) hgl).trans (hcell j hj)
      have kc0 : wr.cell? ⟨g, i * 3, none⟩ = some (.string (bs l[i].1)) := hc 0 (by omega)
      have kc1 : wr.cell? ⟨g, i * 3 + 1, none⟩ = some (.int .i64 (l[i].2.1 : Int)) := hc 1 (by omega)
      have kc2 : wr.cell? ⟨g, i * 3 + 2, none⟩ = some (.int .i64 l[i].2.2) := hc 2 (by omega)
      have hlgr : g < wr.heap.size := by have := HW.out.size; omega
      have HF := Lib.hid (find1_post l[i] n wr bp ((HW.out.cell (p := ⟨bp, 0, none⟩) hltp).trans HC.out))
      have HAT : Hid (l[i].1 = n → fidx l n = (i : Int)) := fun e => fidx_at hia e (fun k hk => HI.out k (by omega) hk)
      have HNX : Hid (¬ l[i].1 = n → ∀ k (hk : k < l.length), k < i + 1 → l[k].1 ≠ n) := by
        intro hne k hk hlt
        by_cases e : k = i
        · subst e; exact hne
        · exact HI.out k hk (by omega)
      clear hc hcell
      generalize l[i].1 = x0 at *
      generalize l[i].2.1 = x1 at *
      generalize l[i].2.2 = x2 at *
      go_wp2_with fail
      refine HF.out.mono ?_
      rintro e w3 ⟨rfl, h3⟩
      have HW3 := Lib.hid (HW.out.trans (h3.mono HW.out.size))
      clear h3
      by_cases hx : x0 = n
      · rw [decide_eq_true hx]
        have he := HAT.out hx
        go_wp2_with fail
        go_ret
        exact ⟨by first | rfl | (rw [he]; rfl), HW3.out⟩
      · rw [decide_eq_false hx]
        have HI3 := Lib.hid (HNX.out hx)
        go_wp2_with fail
        go_roundg (ln - (i + 1))
        case measure => omega
        case rel => exact ⟨i + 1, by omega, rfl, by go_num, HI3, HW3⟩
    · have hlt' : ¬ (i : Int) < (ln : Int) := by omega
      have he : fidx l n = -1 := fidx_no (fun k hk => HI.out k hk (by have := HN.out; omega))
      go_wp2_with fail
      go_ret
      exact ⟨by first | rfl | (rw [he]; rfl), HW.out⟩
set_option maxRecDepth 100000 in
theorem find_post {w : World} {B : Nat} {v : Value} {l : List Sy} (h : SL w B v l) (hn : l.length ≤ 1000) (n : List UInt8) :
    Calls Tryz.prog 137 #[v, .string (bs n)] w fun e w' => e = .returned (.int .i64 (fidx l n)) ∧ Below w.heap.size w w' := by
  have hmf : ∀ (fn : Fn) (first cap : Array Value) (w : World), (Instr.makeFunc fn first cap).run Tryz.prog w = .ok (.func fn first cap) w := fun _ _ _ _ => rfl
  have hal : Below w.heap.size w (w.alloc (.cells #[.string (bs n)] 9)) := (Below.refl _ _).alloc (Nat.le_refl _) _
  have HC := Lib.hid (index_post (h.on hal) hn n w.heap.size (cell_blk (new_blk _ _)))
  have HAL := Lib.hid hal
  obtain ⟨a, c, rfl⟩ := h.len
  clear h
  generalize l.length = ln at *
  go_enter Tryz.func137, Tryz.ntmps137
  go_wp2_with fail
  refine HC.out.mono ?_
  rintro e w1 ⟨rfl, h1⟩
  have H1 := Lib.hid (HAL.out.trans (h1.mono (by simp)))
  clear h1
  go_wp2_with fail
  go_ret
  exact ⟨rfl, H1.out⟩
end Go.Proofs.YtfpeboeknjlkbaaGreatDoor
/- check: a name is laid beside those ahead of it: add. -/
namespace Go.Proofs.YtfpeboeknjlkbaaGreatDoor
open Go.RowKit Go.Maps
open Tp (Bs Th)

theorem wpList_mapUpdate_v (w : World) {ops : Array Oper} {rest : List Oper} {o : Oper} {a : Act} {Q : Exit → Act → World → Prop}
    (hg : o.guard = none) (m x v : Operand) (t : TypeId) (hop : o.op = Op.mapUpdate t m x v) (e : TypeId) (ht : Tryz.prog.underlying t = some (.map 9 e))
    (b n : Nat) (f : Bs → Option Value) (hown : MapV w b n f) (hn : n < 1000000) (l : Bs) (hl : l.length ≤ 1000000) (val : Value) (hm : a.eval m = .map (some b)) (hx : a.eval x = .string (bs l)) (hv : a.eval v = val)
    (hK : ∀ w', MapV w' b (n + 1) (updV f l val) → Ext b w w' → w'.heap.size = w.heap.size → wpList Tryz.prog ops Q rest (a.put o.dst undef) w') :
    wpList Tryz.prog ops Q (o :: rest) a w := by
  refine wpList_plain hg fun K' hK' => ?_
  obtain ⟨w', hrun, r1, r2, r3⟩ := hown.store ht hn l hl val
  unfold Oper.wp
  simp [execOp, hop, hm, hx, hv, hrun, Result.andThen]
  exact hK' _ _ (hK w' r1 r2 r3)
set_option maxRecDepth 100000 in
set_option maxHeartbeats 400000 in
theorem add_no {w : World} {lb n : Nat} {f : Bs → Option Value} (h : MapV w lb n f) (nm : Bs) (hl : nm.length ≤ 1000000) (x : Nat) (y : Int) (pl : Nat) {u : Value} (hu : f nm = some u) (h2 : ∃ c d, u = .agg #[.int .i64 c, .int .i64 d]) :
    Calls Tryz.prog 112 #[.map (some lb), .string (bs nm), .agg #[.int .i64 (x : Int), .int .i64 y], .int .i64 (pl : Int)] w fun e w' => Thrown w.heap.size (9, pl) e w' ∧ Below w.heap.size w w' := by
  obtain ⟨c, d, rfl⟩ := h2
  have hlook : ∀ ob, (Instr.lookup 143 (.map (some lb)) (.string (bs nm)) true).run Tryz.prog (w.alloc ob) = .ok (.tuple #[.agg #[.int .i64 c, .int .i64 d], .bool true]) (w.alloc ob) := by
    intro ob
    have := (h.on (w' := w.alloc ob) (Below.heap_alloc _ _ _ h.lt)).look (t := 143) Tryz.underlying143 (zeroTh _) nm hl true
    rw [hu] at this
    exact this
  have HB : Hid (∀ o1 o2, Below w.heap.size w ((w.alloc o1).alloc o2)) := fun o1 o2 => ((Below.refl _ _).alloc (Nat.le_refl _) _).alloc (by simp) _
  clear h hu
  go_enter Tryz.func112, Tryz.ntmps112
  go_wp2_with fail
  refine (cthrow_any 9 pl _).mono ?_
  rintro e w2 ⟨ht, hb2⟩
  obtain ⟨ab, h1, rfl, h2, h3⟩ := ht.out
  have hsz : w.heap.size ≤ ab := by simp at h1; omega
  have HT := Lib.hid h2
  have HT2 := Lib.hid h3
  have HB2 := Lib.hid ((HB.out _ _).trans (hb2.mono (by simp; omega)))
  clear h1 h2 h3 hb2 ht
  go_wp2_with fail
  exact ⟨rfl, ⟨⟨ab, hsz, rfl, HT.out, HT2.out⟩⟩, HB2.out⟩
set_option maxRecDepth 100000 in
set_option maxHeartbeats 400000 in
theorem add_ok {w : World} {lb n : Nat} {f : Bs → Option Value} (h : MapV w lb n f) (hn : n < 1000000) (nm : Bs) (hl : nm.length ≤ 1000000) (x : Nat) (y : Int) (pl : Nat) (hu : f nm = none) :
    Calls Tryz.prog 112 #[.map (some lb), .string (bs nm), .agg #[.int .i64 (x : Int), .int .i64 y], .int .i64 (pl : Int)] w fun e w' => e = .returned (.tuple #[]) ∧ MapV w' lb (n + 1) (updV f nm (thV (x, y))) ∧ Ext lb w w' := by
  have hlook : ∀ ob, (Instr.lookup 143 (.map (some lb)) (.string (bs nm)) true).run Tryz.prog (w.alloc ob) = .ok (.tuple #[.agg #[.int .i64 0, .int .i64 0], .bool false]) (w.alloc ob) := by
    intro ob
    have := (h.on (w' := w.alloc ob) (Below.heap_alloc _ _ _ h.lt)).look (t := 143) Tryz.underlying143 (zeroTh _) nm hl true
    rw [hu] at this
    exact this
  have HB : Hid (∀ o1 o2, Below w.heap.size w ((w.alloc o1).alloc o2)) := fun o1 o2 => ((Below.refl _ _).alloc (Nat.le_refl _) _).alloc (by simp) _
  have HM := Lib.hid h
  have hlt := h.lt
  clear h hu
  go_enter Tryz.func112, Tryz.ntmps112
  go_wp2_with (at_mapUpdate; refine wpList_mapUpdate_v _ rfl _ _ _ 143 rfl _ Tryz.underlying143 lb n f (HM.out.on ((HB.out _ _).block lb hlt)) hn nm hl (thV (x, y)) rfl rfl rfl ?_; intro w1 q1 q2 q3)
  exact bodyPost_end (results_none rfl _ _ _) rfl ⟨rfl, q1, (Ext.below (HB.out _ _)).trans q2⟩
end Go.Proofs.YtfpeboeknjlkbaaGreatDoor
/- check: a module's own names: globals. -/
namespace Go.Proofs.YtfpeboeknjlkbaaGreatDoor
open Go.RowKit Go.Maps
open Tp (Bs Th)

/- the first i of these lie in the map gb, none of them twice -/
structure TM (w : World) (gb : Nat) (l : List Th) (i : Nat) : Prop where
  mp : MapV w gb i (fun k => (Tp.lkT (l.take i) k).map thV)
  tw : Tp.twP l 0 = Tp.twP l i
theorem TM.on {w w' : World} {gb i : Nat} {l : List Th} (h : TM w gb l i) (k : w'.heap[gb]? = w.heap[gb]?) : TM w' gb l i := ⟨h.mp.on k, h.tw⟩
theorem TM.zero (w : World) (l : List Th) : TM (w.alloc (.map #[] 0)) w.heap.size l 0 := by
  refine ⟨?_, rfl⟩
  have := MapV.made w
  have e : (fun k => (Tp.lkT (l.take 0) k).map thV) = fun _ => none := by funext k; simp [Tp.lkT]
  rw [e]
  exact this
theorem TM.dup {w : World} {gb i : Nat} {l : List Th} {x : Th} (h : TM w gb l i) (hx : l[i]? = some x) (hm : x.1 ∈ (l.take i).map (·.1)) : Tp.twP l 0 = some (9, x.2.1) := by
  rw [h.tw, Tp.twP]
  obtain ⟨hi, e⟩ := List.getElem?_eq_some_iff.1 hx
  rw [dif_pos hi, e, if_pos hm]
theorem TM.fin {w : World} {gb i : Nat} {l : List Th} (h : TM w gb l i) (hi : l.length ≤ i) : Tp.twP l 0 = none ∧ MapV w gb i (fun k => (Tp.lkT l k).map thV) := by
  refine ⟨by rw [h.tw, Tp.twP, dif_neg (by omega)], ?_⟩
  have := h.mp
  rw [List.take_of_length_le hi] at this
  exact this
theorem add_dup {w : World} {gb i : Nat} {l : List Th} {x0 : Bs} {x1 x2 : Nat} {x3 : Int} (h : TM w gb l i) (hm : x0 ∈ (l.take i).map (·.1)) (hl : x0.length ≤ 1000000) :
    Calls Tryz.prog 112 #[.map (some gb), .string (bs x0), .agg #[.int .i64 (x2 : Int), .int .i64 x3], .int .i64 (x1 : Int)] w fun e w' => Thrown w.heap.size (9, x1) e w' ∧ Below w.heap.size w w' := by
  have hs := Tp.lkT_some.2 hm
  obtain ⟨u, hu⟩ := Option.isSome_iff_exists.1 hs
  exact add_no h.mp x0 hl x2 x3 x1 (u := thV u) (by simp [hu]) ⟨_, _, rfl⟩
theorem add_new {w : World} {gb i : Nat} {l : List Th} {x0 : Bs} {x1 x2 : Nat} {x3 : Int} (h : TM w gb l i) (hx : l[i]? = some (x0, x1, x2, x3)) (hi : i < 1000000) (hm : ¬ x0 ∈ (l.take i).map (·.1)) (hl : x0.length ≤ 1000000) :
    Calls Tryz.prog 112 #[.map (some gb), .string (bs x0), .agg #[.int .i64 (x2 : Int), .int .i64 x3], .int .i64 (x1 : Int)] w fun e w' => e = .returned (.tuple #[]) ∧ TM w' gb l (i + 1) ∧ Ext gb w w' := by
  have hn : Tp.lkT (l.take i) x0 = none := by
    cases hq : Tp.lkT (l.take i) x0 with
    | none => rfl
    | some u => exact absurd (Tp.lkT_some.1 (by rw [hq]; rfl)) hm
  refine (add_ok h.mp hi x0 hl x2 x3 x1 (by simp [hn])).mono ?_
  rintro e w' ⟨h1, h2, h3⟩
  obtain ⟨hil, e1⟩ := List.getElem?_eq_some_iff.1 hx
  refine ⟨h1, ⟨?_, ?_⟩, h3⟩
  · have e2 : (fun k => (Tp.lkT (l.take (i + 1)) k).map thV) = updV (fun k => (Tp.lkT (l.take i) k).map thV) x0 (thV (x2, x3)) := by
      funext k
      rw [List.take_succ_eq_append_getElem hil, e1, Tp.lkT_snoc hm]
      unfold updV
      by_cases hk : k = x0
      · rw [if_pos hk, if_pos hk]; rfl
      · rw [if_neg hk, if_neg hk]
    rw [e2]
    exact h2
  · rw [h.tw, Tp.twP, dif_pos hil, e1, if_neg hm]
/- what a call leaves that lays names into a new map -/
def MapP (w : World) (l : List Th) (e : Ending) (w' : World) : Prop := Below w.heap.size w w' ∧ match Tp.twP l 0 with
  | none => ∃ gb n, e = .returned (.map (some gb)) ∧ w.heap.size ≤ gb ∧ n ≤ 1000000 ∧ MapV w' gb n (fun k => (Tp.lkT l k).map thV)
  | some er => Thrown w.heap.size er e w'
def AskTG (w : World) (gn : Nat) (ga : Option Addr) (l : List Th) : Prop :=
  ∀ i, i < gn → ∃ (g : Nat) (x0 : Bs) (x1 x2 : Nat) (x3 : Bool), ga = some ⟨g, 0, none⟩ ∧ g < w.heap.size ∧ w.cell? ⟨g, i * 4, none⟩ = some (.string (bs x0)) ∧ w.cell? ⟨g, i * 4 + 1, none⟩ = some (.int .i64 (x1 : Int)) ∧ w.cell? ⟨g, i * 4 + 2, none⟩ = some (.int .i64 (x2 : Int)) ∧ w.cell? ⟨g, i * 4 + 3, none⟩ = some (.bool x3) ∧ x0.length ≤ 1000000 ∧ l[i]? = some (x0, x1, x2, -1)
def AskTP (w : World) (gn pn : Nat) (pa : Option Addr) (l : List Th) : Prop :=
  ∀ i, i < pn → ∃ (g : Nat) (x0 : Bs) (x1 : Nat) (x2 : Bool) (y3 y4 y5 : Option Addr) (n3 n4 n5 c3 c4 c5 : Nat), pa = some ⟨g, 0, none⟩ ∧ g < w.heap.size ∧ w.cell? ⟨g, i * 6, none⟩ = some (.string (bs x0)) ∧ w.cell? ⟨g, i * 6 + 1, none⟩ = some (.int .i64 (x1 : Int)) ∧ w.cell? ⟨g, i * 6 + 2, none⟩ = some (.bool x2) ∧ w.cell? ⟨g, i * 6 + 3, none⟩ = some (.slice y3 n3 c3) ∧ w.cell? ⟨g, i * 6 + 4, none⟩ = some (.slice y4 n4 c4) ∧ w.cell? ⟨g, i * 6 + 5, none⟩ = some (.slice y5 n5 c5) ∧ x0.length ≤ 1000000 ∧ l[gn + i]? = some (x0, x1, 0, (n3 : Int))
theorem cell_box5' {w : World} {b : Nat} {v0 v1 v2 v3 v4 : Value} {t : TypeId} (h : w.heap[b]? = some (.cells #[v0, v1, v2, v3, v4] t (0, 0))) : w.cell? ⟨b, 0, none⟩ = some v0 ∧ w.cell? ⟨b, 1, none⟩ = some v1 ∧ w.cell? ⟨b, 2, none⟩ = some v2 ∧ w.cell? ⟨b, 3, none⟩ = some v3 ∧ w.cell? ⟨b, 4, none⟩ = some v4 :=
  ⟨(cell_blk h).trans rfl, (cell_blk h).trans rfl, (cell_blk h).trans rfl, (cell_blk h).trans rfl, (cell_blk h).trans rfl⟩
theorem ext_below {b B : Nat} {w w' : World} (h : Ext b w w') (hb : B ≤ b) (hs : B ≤ w.heap.size) : Below B w w' :=
  ⟨h.os, h.tape, h.output, h.size, fun k hk => h.block k (by omega) (by omega)⟩
theorem cell_alloc' {w : World} {a : Addr} {v : Value} (h : w.cell? a = some v) (ob : Obj) : (w.alloc ob).cell? a = some v := by
  rw [World.cell?_alloc_lt _ _ _ (World.block_lt_of_cell? _ _ h)]; exact h
set_option maxRecDepth 100000 in
set_option maxHeartbeats 2000000 in
theorem globals_walk {w : World} {nm : Bs} {inn gn pn bn ic gc pc bc : Nat} {ia ga pa ba : Option Addr} {l : List Th} (hG : AskTG w gn ga l) (hP : AskTP w gn pn pa l) (hl : l.length = gn + pn) (hgn : gn ≤ 1000) (hpn : pn ≤ 1000) :
    Calls Tryz.prog 81 #[.agg #[.string (bs nm), .slice ia inn ic, .slice ga gn gc, .slice pa pn pc, .slice ba bn bc]] w (MapP w l) := by
  obtain ⟨wm, hwm⟩ : ∃ wm, wm = w.alloc (.cells #[.string (bs nm), .slice ia inn ic, .slice ga gn gc, .slice pa pn pc, .slice ba bn bc] 32) := ⟨_, rfl⟩
  have hblk0 : wm.heap[w.heap.size]? = some (.cells #[.string (bs nm), .slice ia inn ic, .slice ga gn gc, .slice pa pn pc, .slice ba bn bc] 32 (0, 0)) := by rw [hwm]; exact new_blk _ _
  have hszm : wm.heap.size = w.heap.size + 1 := by rw [hwm]; simp
  have hbe : Below w.heap.size w (wm.alloc (.map #[] 0)) := by rw [hwm]; exact ((Below.refl _ _).alloc (Nat.le_refl _) _).alloc (by simp) _
  have htm := TM.zero wm l
  have hblk : (wm.alloc (.map #[] 0)).heap[w.heap.size]? = some (.cells #[.string (bs nm), .slice ia inn ic, .slice ga gn gc, .slice pa pn pc, .slice ba bn bc] 32 (0, 0)) := (Below.heap_alloc _ _ _ (by omega)).trans hblk0
  rw [hszm] at htm
  obtain ⟨k0, k1, k2, k3, k4⟩ := cell_box5' hblk
  have hmm := @run_makeMap Tryz.prog
  have HG := Lib.hid hG
  have HP := Lib.hid hP
  have HL := Lib.hid hl
  have HK := Lib.hid hblk
  have HT := Lib.hid htm
  have HBE := Lib.hid hbe
  have HSM := Lib.hid hszm
  have hgn' : (gn : Int) ≤ 1000 := by omega
  have hpn' : (pn : Int) ≤ 1000 := by omega
  clear hG hP hl hblk htm hbe k0 k1 k3 k4 hblk0
  go_enter Tryz.func81, Tryz.ntmps81
  go_wp2_with fail
  rw [← hwm]
  have hsz0 : w.heap.size + 2 ≤ (wm.alloc (.map #[] 0)).heap.size := by simp; omega
  have hs1 : (w.alloc (.cells #[.string (bs nm), .slice ia inn ic, .slice ga gn gc, .slice pa pn pc, .slice ba bn bc] 32)).heap.size = w.heap.size + 1 := by simp
  generalize wm.alloc (.map #[] 0) = w0 at *
  clear hwm HSM hszm wm hmm
  go_loopg [12] gn (fun k vi wr => ∃ i : Nat, i ≤ gn ∧ k = gn - i ∧ vi = .int .i64 (i : Int) ∧ Hid (TM wr (w.heap.size + 1) l i) ∧ Hid (Ext (w.heap.size + 1) w0 wr))
  case atStart => exact ⟨0, by omega, by omega, rfl, HT, Ext.refl _ _⟩
  case round =>
    obtain ⟨i, hid, hk, rfl, HTM, HE⟩ := hrel
    have hsz := HE.out.size
    by_cases hlt : i < gn
    · have hlt' : (i : Int) < (gn : Int) := by omega
      obtain ⟨g, x0, x1, x2, x3, hga, hgB, c0, c1', c2, c3, hxl, hx⟩ := HG.out i hlt
      subst hga
      have hcell : ∀ (o : Nat) (u : Value), w.cell? ⟨g, o, none⟩ = some u → wr.cell? ⟨g, o, none⟩ = some u := fun o u h => HE.out.cell ((HBE.out.cell (p := ⟨g, o, none⟩) hgB).trans h) (by simp; omega)
      have kc0 := hcell _ _ c0
      have kc1 := hcell _ _ c1'
      have kc2 := hcell _ _ c2
      have kc3 := hcell _ _ c3
      have hlgr : g < wr.heap.size := by omega
      have HX := Lib.hid hx
      have HTA : Hid (∀ ob, TM (wr.alloc ob) (w.heap.size + 1) l i) := fun ob => HTM.out.on (Below.heap_alloc _ _ _ (by omega))
      have HEA : Hid (∀ ob, Ext (w.heap.size + 1) w0 (wr.alloc ob)) := fun ob => HE.out.trans (Ext.below ((Below.refl _ _).alloc (Nat.le_refl _) _))
      clear c0 c1' c2 c3 hcell hx
      by_cases hm : x0 ∈ (l.take i).map (·.1)
      · have HM := Lib.hid hm
        clear hm
        go_wp2_with fail
        refine (add_dup (HTA.out _) HM.out hxl).mono ?_
        rintro e w3 ⟨ht, hb3⟩
        have HD := Lib.hid (HTM.out.dup HX.out HM.out)
        have HB3 : Hid (Below w.heap.size w w3) := (HBE.out.trans (ext_below (HEA.out _) (by omega) (by omega))).trans (hb3.mono (by simp; omega))
        have HT3 := Lib.hid (ht.mono (B' := w.heap.size) (by simp; omega))
        obtain ⟨ab, q1, rfl, q2, q3⟩ := ht.out
        clear ht hb3 q1 q2 q3
        go_wp2_with fail
        refine ⟨rfl, HB3.out, ?_⟩
        rw [HD.out]
        exact HT3.out
      · have HM := Lib.hid hm
        clear hm
        go_wp2_with fail
        refine (add_new (HTA.out _) HX.out (by omega) HM.out hxl).mono ?_
        rintro e w3 ⟨rfl, ht, hb3⟩
        have HT3 := Lib.hid ht
        have HE3 := Lib.hid ((HEA.out _).trans hb3)
        clear ht hb3
        go_wp2_with fail
        go_roundg (gn - (i + 1))
        case measure => omega
        case rel => exact ⟨i + 1, by omega, rfl, by go_num, HT3, HE3⟩
    · have hlt' : ¬ (i : Int) < (gn : Int) := by omega
      have hei : i = gn := by omega
      subst hei
      have k3 : wr.cell? ⟨w.heap.size, 3, none⟩ = some (.slice pa pn pc) := HE.out.cell (cell_box5' HK.out).2.2.2.1 (by simp)
      have hltb : w.heap.size < wr.heap.size := by omega
      have HTM1 : Hid (TM wr (w.heap.size + 1) l (i + 0)) := HTM
      have HE1 := HE
      clear HTM HE HG k2 hsz HT
      go_wp2_with fail
      go_loopg [29] pn (fun k vi wr => ∃ j : Nat, j ≤ pn ∧ k = pn - j ∧ vi = .int .i64 (j : Int) ∧ Hid (TM wr (w.heap.size + 1) l (i + j)) ∧ Hid (Ext (w.heap.size + 1) w0 wr))
      case atStart => exact ⟨0, by omega, by omega, rfl, HTM1, HE1⟩
      case round =>
        obtain ⟨j, hjd, hk2, rfl, HTM, HE⟩ := hrel
        have hsz := HE.out.size
        clear HTM1 HE1 k3 hltb
        by_cases hlt2 : j < pn
        · have hlt2' : (j : Int) < (pn : Int) := by omega
          obtain ⟨g, x0, x1, x2, y3, y4, y5, n3, n4, n5, d3, d4, d5, hpa, hgB, c0, c1', c2, c3, c4, c5, hxl, hx⟩ := HP.out j hlt2
          subst hpa
          have hcell : ∀ (o : Nat) (u : Value), w.cell? ⟨g, o, none⟩ = some u → wr.cell? ⟨g, o, none⟩ = some u := fun o u h => HE.out.cell ((HBE.out.cell (p := ⟨g, o, none⟩) hgB).trans h) (by simp; omega)
          have kc0 := hcell _ _ c0
          have kc1 := hcell _ _ c1'
          have kc2 := hcell _ _ c2
          have kc3 := hcell _ _ c3
          have kc4 := hcell _ _ c4
          have kc5 := hcell _ _ c5
          have hlgr : g < wr.heap.size := by omega
          have HX := Lib.hid hx
          have HTA : Hid (∀ ob, TM (wr.alloc ob) (w.heap.size + 1) l (i + j)) := fun ob => HTM.out.on (Below.heap_alloc _ _ _ (by omega))
          have HEA : Hid (∀ ob, Ext (w.heap.size + 1) w0 (wr.alloc ob)) := fun ob => HE.out.trans (Ext.below ((Below.refl _ _).alloc (Nat.le_refl _) _))
          clear c0 c1' c2 c3 c4 c5 hcell hx
          by_cases hm : x0 ∈ (l.take (i + j)).map (·.1)
          · have HM := Lib.hid hm
            clear hm
            go_wp2_with fail
            refine (add_dup (x2 := 0) (x3 := (n3 : Int)) (HTA.out _) HM.out hxl).mono ?_
            rintro e w3 ⟨ht, hb3⟩
            have HD := Lib.hid (HTM.out.dup HX.out HM.out)
            have HB3 : Hid (Below w.heap.size w w3) := (HBE.out.trans (ext_below (HEA.out _) (by omega) (by omega))).trans (hb3.mono (by simp; omega))
            have HT3 := Lib.hid (ht.mono (B' := w.heap.size) (by simp; omega))
            obtain ⟨ab, q1, rfl, q2, q3⟩ := ht.out
            clear ht hb3 q1 q2 q3
            go_wp2_with fail
            refine ⟨rfl, HB3.out, ?_⟩
            rw [HD.out]
            exact HT3.out
          · have HM := Lib.hid hm
            clear hm
            go_wp2_with fail
            refine (add_new (x2 := 0) (x3 := (n3 : Int)) (HTA.out _) HX.out (by omega) HM.out hxl).mono ?_
            rintro e w3 ⟨rfl, ht, hb3⟩
            have HT3 : Hid (TM w3 (w.heap.size + 1) l (i + (j + 1))) := ht
            have HE3 := Lib.hid ((HEA.out _).trans hb3)
            clear ht hb3
            go_wp2_with fail
            go_roundg (pn - (j + 1))
            case measure => omega
            case rel => exact ⟨j + 1, by omega, rfl, by go_num, HT3, HE3⟩
        · have hlt2' : ¬ (j : Int) < (pn : Int) := by omega
          have hej : j = pn := by omega
          subst hej
          obtain ⟨f1, f2⟩ := HTM.out.fin (by have := HL.out; omega)
          have HF1 := Lib.hid f1
          have HF2 := Lib.hid f2
          have HB3 : Hid (Below w.heap.size w wr) := HBE.out.trans (ext_below HE.out (by omega) (by omega))
          clear f1 f2 HTM HE
          go_wp2_with fail
          go_ret
          refine ⟨HB3.out, ?_⟩
          rw [HF1.out]
          exact ⟨_, _, rfl, by omega, by omega, HF2.out⟩
end Go.Proofs.YtfpeboeknjlkbaaGreatDoor
