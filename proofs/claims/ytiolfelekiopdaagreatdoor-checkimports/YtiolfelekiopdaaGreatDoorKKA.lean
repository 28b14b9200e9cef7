import Derived.Test.YtiolfelekiopdaaGreatDoorKWP
import Derived.Test.YtiolfelekiopdaaGreatDoorKPC
import Derived.Test.YtiolfelekiopdaaGreatDoorKSh3
import Derived.Lib.Hide
/- A module in memory, by its parts. -/
namespace Go.Proofs.YtiolfelekiopdaaGreatDoor
open Go.RowKit
open Tp (X S G Pr)

theorem bs_size (l : List UInt8) : (bs l).size = l.length := by simp [bs, ByteArray.size]
theorem bs_back (l : List UInt8) : (bs l).data.toList = l := by simp [bs]
theorem cell_box5 {w : World} {b : Nat} {v0 v1 v2 v3 v4 : Value} {t : TypeId} (h : w.heap[b]? = some (.cells #[v0, v1, v2, v3, v4] t (0, 0))) : w.cell? ⟨b, 0, none⟩ = some v0 ∧ w.cell? ⟨b, 1, none⟩ = some v1 ∧ w.cell? ⟨b, 2, none⟩ = some v2 ∧ w.cell? ⟨b, 3, none⟩ = some v3 ∧ w.cell? ⟨b, 4, none⟩ = some v4 :=
  ⟨(cell_blk h).trans rfl, (cell_blk h).trans rfl, (cell_blk h).trans rfl, (cell_blk h).trans rfl, (cell_blk h).trans rfl⟩
theorem gcs_get : ∀ (l : List G) (i : Nat) (h : i < l.length) (j : Nat), j < 4 → (gcs l)[i * 4 + j]? = (gcells (bs l[i].name) (l[i].pos : Int) (l[i].len : Int) l[i].seen).toList[j]? := by
  intro l
  induction l with
  | nil => intro i h; simp at h
  | cons g l ih =>
    intro i h j hj
    have e : gcs (g :: l) = (gcells (bs g.name) (g.pos : Int) (g.len : Int) g.seen).toList ++ gcs l := rfl
    rw [e]
    cases i with
    | zero => rw [Nat.zero_mul, Nat.zero_add, List.getElem?_append_left (by simpa [gcells] using hj)]; rfl
    | succ i =>
      rw [List.getElem?_append_right (by simp [gcells]; omega)]
      have : (i + 1) * 4 + j - (gcells (bs g.name) (g.pos : Int) (g.len : Int) g.seen).toList.length = i * 4 + j := by simp [gcells]; omega
      rw [this, ih i (by simpa using h) j hj]
      rfl
theorem repp_get {w : World} {D : Nat → Prop} : ∀ (l : List Pr) (cs : List Value), RepP w D l cs → ∀ (i : Nat) (h : i < l.length), ∃ (pv vv bv : Value) (bcs : List Value),
    (∀ j, j < 6 → cs[i * 6 + j]? = (pcells (bs l[i].name) (l[i].pos : Int) l[i].seen pv vv bv).toList[j]?) ∧ Row w D 9 1 pv l[i].params.length (strs l[i].params) ∧ Row w D 9 1 vv l[i].vars.length (strs l[i].vars) ∧ RepS w D l[i].body bcs ∧ OwnS w D bv l[i].body.length bcs := by
  intro l
  induction l with
  | nil => intro cs _ i h; simp at h
  | cons c l ih =>
    intro cs hr i h
    obtain ⟨pv, vv, bv, bcs, cs', h1, h2, h3, h4, h5, h6⟩ := hr
    subst h1
    cases i with
    | zero =>
      refine ⟨pv, vv, bv, bcs, fun j hj => ?_, h2, h3, h4, h5⟩
      rw [Nat.zero_mul, Nat.zero_add, List.getElem?_append_left (by simpa [pcells] using hj)]
      rfl
    | succ i =>
      obtain ⟨pv', vv', bv', bcs', q1, q2⟩ := ih cs' h6 i (by simpa using h)
      refine ⟨pv', vv', bv', bcs', fun j hj => ?_, q2⟩
      rw [List.getElem?_append_right (by simp [pcells]; omega)]
      have : (i + 1) * 6 + j - (pcells (bs c.name) (c.pos : Int) c.seen pv vv bv).toList.length = i * 6 + j := by simp [pcells]; omega
      rw [this, q1 j hj]
      rfl
theorem row_cell {w : World} {D : Nat → Prop} {e size n : Nat} {v : Value} {cs : List Value} (h : Row w D e size v n cs) (hn : 0 < n) : ∃ g cap, v = .slice (some ⟨g, 0, none⟩) n cap ∧ D g ∧ g < w.heap.size ∧ ∀ k, k < n * size → w.cell? ⟨g, k, none⟩ = cs[k]? := by
  rcases h with ⟨_, h2, _⟩ | ⟨g, cap, cur, h1, h2, h3, h4, h5, h6, h7⟩
  · omega
  · refine ⟨g, cap, h1, h2, lt_blk h3, fun k hk => ?_⟩
    rw [cell_blk h3, ← Array.getElem?_toList, ← h7, List.getElem?_take_of_lt hk]
theorem take_map_succ {α : Type} (f : α → List (List UInt8)) (l : List α) (i : Nat) (h : i < l.length) : ((l.take (i + 1)).map f).flatten.flatten = ((l.take i).map f).flatten.flatten ++ (f l[i]).flatten := by
  rw [List.take_succ_eq_append_getElem h, List.map_append, List.flatten_append, List.flatten_append]
  simp
theorem take_map_le {α : Type} (f : α → List (List UInt8)) (l : List α) (i : Nat) : ((l.take i).map f).flatten.flatten.length ≤ (l.map f).flatten.flatten.length := by
  conv => rhs; rw [← List.take_append_drop i l, List.map_append, List.flatten_append, List.flatten_append, List.length_append]
  omega
/- a module that lies below B -/
structure MB (w : World) (B : Nat) (m : Tp.M) (ia ga pa ba : Option Addr) (ic gc pc bc : Nat) : Prop where
  im : Row w (fun i => i < B) 9 1 (.slice ia m.imports.length ic) m.imports.length (strs m.imports)
  gl : Row w (fun i => i < B) 42 4 (.slice ga m.vars.length gc) m.vars.length (gcs m.vars)
  pr : ∃ pcs, RepP w (fun i => i < B) m.procs pcs ∧ Row w (fun i => i < B) 39 6 (.slice pa m.procs.length pc) m.procs.length pcs
  bd : ∃ bcs, RepS w (fun i => i < B) m.body bcs ∧ OwnS w (fun i => i < B) (.slice ba m.body.length bc) m.body.length bcs
theorem VM.mb {B : Nat} {m : Tp.M} {v : Value} {w : World} (h : VM B m v w) : ∃ ia ga pa ba ic gc pc bc, v = .agg (mcells (bs m.name) (.slice ia m.imports.length ic) (.slice ga m.vars.length gc) (.slice pa m.procs.length pc) (.slice ba m.body.length bc)) ∧ MB w w.heap.size m ia ga pa ba ic gc pc bc := by
  obtain ⟨ia, ga, pa, ba, ic, gc, pc, bc, pcs, bcs, h1, h2, h3, h4, h5, h6, h7⟩ := h
  refine ⟨ia, ga, pa, ba, ic, gc, pc, bc, h1, ⟨h2.mono fun _ _ hl => ⟨rfl, hl⟩, h3.mono fun _ _ hl => ⟨rfl, hl⟩, ⟨pcs, h4.mono (fun _ _ hl => ⟨rfl, hl⟩) _ _, h5.mono fun _ _ hl => ⟨rfl, hl⟩⟩, ⟨bcs, h6.mono' fun _ _ hl => ⟨rfl, hl⟩, h7.mono fun _ _ hl => ⟨rfl, hl⟩⟩⟩⟩
theorem MB.on {w w' : World} {B : Nat} {m : Tp.M} {ia ga pa ba : Option Addr} {ic gc pc bc : Nat} (h : MB w B m ia ga pa ba ic gc pc bc) (k : Below B w w') : MB w' B m ia ga pa ba ic gc pc bc := by
  have hk : ∀ b, b < B → b < w.heap.size → w'.heap[b]? = w.heap[b]? ∧ b < B := fun b hi _ => ⟨k.block b hi, hi⟩
  obtain ⟨pcs, p1, p2⟩ := h.pr
  obtain ⟨bcs, b1, b2⟩ := h.bd
  exact ⟨h.im.mono hk, h.gl.mono hk, ⟨pcs, p1.mono hk _ _, p2.mono hk⟩, ⟨bcs, b1.mono' hk, b2.mono hk⟩⟩
theorem MB.up {w w' : World} {m : Tp.M} {ia ga pa ba : Option Addr} {ic gc pc bc : Nat} (h : MB w w.heap.size m ia ga pa ba ic gc pc bc) (k : Below w.heap.size w w') : MB w' w'.heap.size m ia ga pa ba ic gc pc bc := by
  have hk : ∀ b, b < w.heap.size → b < w.heap.size → w'.heap[b]? = w.heap[b]? ∧ b < w'.heap.size := fun b hi _ => ⟨k.block b hi, Nat.lt_of_lt_of_le hi k.size⟩
  obtain ⟨pcs, p1, p2⟩ := h.pr
  obtain ⟨bcs, b1, b2⟩ := h.bd
  exact ⟨h.im.mono hk, h.gl.mono hk, ⟨pcs, p1.mono hk _ _, p2.mono hk⟩, ⟨bcs, b1.mono' hk, b2.mono hk⟩⟩
end Go.Proofs.YtiolfelekiopdaaGreatDoor
/- Sorting Syms. -/
namespace Go.Proofs.YtiolfelekiopdaaGreatDoor
open Go.RowKit Go.Sort
open Tp (Sy)

def encSy (s : Sy) : List Value := [.string (bs s.1), .int .i64 (s.2.1 : Int), .int .i64 s.2.2]
def sycs (l : List Sy) : List Value := (l.map encSy).flatten
def cfS (x y : Sy) : Int := Lib.compareBytes x.1 y.1
def insS (l : List Sy) (a b : Nat) : List Sy := (Sort.insertionSort (ltOf cfS) l.toArray a b).toList
def srt (l : List Sy) : List Sy := insS l 0 l.length
theorem sycs_cons (s : Sy) (l : List Sy) : sycs (s :: l) = encSy s ++ sycs l := rfl
theorem sycs_app (l m : List Sy) : sycs (l ++ m) = sycs l ++ sycs m := by simp [sycs]
theorem sycs_len (l : List Sy) : (sycs l).length = l.length * 3 := by
  induction l with
  | nil => rfl
  | cons s l ih => rw [sycs_cons, List.length_append, ih]; simp [encSy]; omega
theorem sycs_get : ∀ (l : List Sy) (i : Nat) (h : i < l.length) (j : Nat), j < 3 → (sycs l)[i * 3 + j]? = (encSy l[i])[j]? := by
  intro l
  induction l with
  | nil => intro i h; simp at h
  | cons s l ih =>
    intro i h j hj
    rw [sycs_cons]
    cases i with
    | zero => rw [Nat.zero_mul, Nat.zero_add, List.getElem?_append_left (by simpa [encSy] using hj)]; rfl
    | succ i =>
      rw [List.getElem?_append_right (by simp [encSy]; omega)]
      have : (i + 1) * 3 + j - (encSy s).length = i * 3 + j := by simp [encSy]; omega
      rw [this, ih i (by simpa using h) j hj]
      rfl
theorem flat_sycs (d : Array Sy) : (flatK encSy 3 d).toList = sycs d.toList := by
  apply List.ext_getElem?
  intro t
  by_cases ht : t < d.size * 3
  · have hi : t / 3 < d.size := by omega
    have hj : t % 3 < 3 := Nat.mod_lt _ (by omega)
    have e : t = (t / 3) * 3 + t % 3 := by omega
    have h1 := sycs_get d.toList (t / 3) (by simpa using hi) (t % 3) hj
    rw [← e] at h1
    rw [h1, Array.getElem?_toList]
    rw [flatK]
    rw [Array.getElem?_map, Array.getElem?_range]
    simp only [ht, if_true, Option.map_some]
    rw [getElem!_pos d (t / 3) hi]
    rw [List.getElem?_eq_getElem (by simp [encSy]; omega), getElem!_pos _ _ (by simp [encSy]; omega)]
    simp
  · rw [List.getElem?_eq_none (by simp; omega), List.getElem?_eq_none (by rw [sycs_len]; simp; omega)]
/- a row of Syms in block g -/
structure SyRow (w : World) (g : Nat) (cap : Nat) (l : List Sy) : Prop where
  b : ∃ cur, w.heap[g]? = some (.cells cur 48 (0, 0)) ∧ cur.size = cap * 3 ∧ cur.toList.take (l.length * 3) = sycs l
  n : l.length ≤ cap
  m : cap ≤ maxLen
theorem SyRow.holds {w : World} {g cap : Nat} {l : List Sy} (h : SyRow w g cap l) : HoldsK encSy 3 w g 0 l.toArray := by
  obtain ⟨cur, h1, h2, h3⟩ := h.b
  intro j hj
  have hj' : j < l.length * 3 := by simpa using hj
  refine ⟨?_, frozen_blk h1⟩
  rw [cell_blk h1, Nat.zero_add, ← Array.getElem?_toList, ← List.getElem?_take_of_lt hj', h3]
  have e := flat_sycs l.toArray
  have e2 : (sycs l)[j]? = (flatK encSy 3 l.toArray).toList[j]? := by rw [e]
  rw [e2, Array.getElem?_toList, Array.getElem?_eq_getElem hj, getElem!_pos (flatK encSy 3 l.toArray) j hj]
  rfl
theorem SyRow.sorted {w : World} {g cap n : Nat} {l : List Sy} {d : Array Sy} {os : Array Obj} (h : SyRow w g cap l) (hs : d.size = l.length) : SyRow (sortWorldK encSy 3 w g 0 n d os) g cap d.toList ∧ w.grownBy (sortWorldK encSy 3 w g 0 n d os) (some g) := by
  obtain ⟨cur, h1, h2, h3⟩ := h.b
  have hg := lt_blk h1
  have hn := h.n
  have hF : (flatK encSy 3 d).size = d.size * 3 := size_flatK _ _ _
  refine ⟨⟨⟨putCells id 0 (flatK encSy 3 d) cur, ?_, by simp [putCells, h2], ?_⟩, by simpa [hs] using h.n, h.m⟩, ⟨rfl, rfl, rfl, by simp [sortWorldK, putRowK], fun k hk hne => ?_⟩⟩
  · unfold sortWorldK putRowK
    rw [heap_grow_old _ _ (by simpa using hg)]
    simp [putRow, mapBlock, Sort.ahead, Array.getElem?_modify, h1, onCells]
  · rw [← flat_sycs]
    apply List.ext_getElem?
    intro j
    by_cases hj : j < d.toList.length * 3
    · have hjF : j < (flatK encSy 3 d).size := by rw [hF]; simpa using hj
      have hjc : j < cur.size := by rw [h2]; simp at hj; omega
      rw [List.getElem?_take_of_lt hj, Array.getElem?_toList, Array.getElem?_toList, Array.getElem?_eq_getElem hjF]
      simp only [putCells, Array.getElem?_mapIdx, Array.getElem?_eq_getElem hjc, Option.map_some, Nat.zero_le, true_and, Nat.zero_add, if_pos hjF, Nat.sub_zero, id]
      rw [getElem!_pos (flatK encSy 3 d) j hjF]
    · rw [List.getElem?_take_eq_none (by omega), List.getElem?_eq_none (by simp at hj ⊢; omega)]
  · unfold sortWorldK putRowK
    rw [heap_grow_old _ _ (by simpa using hk)]
    have : g ≠ k := fun e => hne (by rw [e])
    simp [putRow, mapBlock, Sort.ahead, Array.getElem?_modify, this]
set_option maxHeartbeats 1000000 in
theorem ofCmp_post (x y : Sy) (W : World) : Calls Tryz.prog 60 #[.agg (encSy x).toArray, .agg (encSy y).toArray] W fun e w' => e = .returned (.int .i64 (cfS x y)) ∧ ∃ q os', w' = grow (W.drewN q) os' := by
  have hcon : ∀ W, Calls Tryz.prog 61 #[.string (bs x.1), .string (bs y.1)] W fun e w' => e = .returned (.int .i64 (cfS x y)) ∧ w' = W := by
    intro W
    have := Any.strings_Compare Tryz.laysCmp (bs x.1) (bs y.1) W
    rw [bs_back, bs_back] at this
    exact this
  generalize cfS x y = r at hcon ⊢
  have HC := Lib.hid hcon
  clear hcon
  unfold encSy
  go_enter Tryz.func60, Tryz.ntmps60
  go_wp2_with (go_at_call 61; refine (HC.out _).mono ?_; rintro e w' ⟨rfl, rfl⟩)
  go_ret
  exact ⟨rfl, 0, _, by rw [alloc_eq_grow, alloc_eq_grow, grow_grow]; rfl⟩
end Go.Proofs.YtiolfelekiopdaaGreatDoor
/- Sorting Syms: insertionSortCmpFunc, stableCmpFunc, SortStableFunc. -/
namespace Go.Proofs.YtiolfelekiopdaaGreatDoor
open Go.RowKit Go.Sort
open Tp (Sy)

theorem insInner_size {lt : Sy → Sy → Bool} (a : Nat) : ∀ (j : Nat) (d : Array Sy), (Sort.insInner lt a j d).size = d.size := by
  intro j
  induction j with
  | zero => intro d; rfl
  | succ j ih =>
    intro d
    rw [Sort.insInner]
    split
    · rw [ih]; simp [swp]
    · rfl
theorem insOuter_size {lt : Sy → Sy → Bool} (a b : Nat) : ∀ (k i : Nat) (d : Array Sy), b - i = k → (Sort.insOuter lt a b i d).size = d.size := by
  intro k
  induction k with
  | zero => intro i d h; rw [Sort.insOuter, if_neg (by omega)]
  | succ k ih =>
    intro i d h
    rw [Sort.insOuter]
    split
    · rw [ih (i + 1) _ (by omega), insInner_size]
    · rfl
theorem insS_len (l : List Sy) (a b : Nat) : (insS l a b).length = l.length := by
  unfold insS Sort.insertionSort
  rw [Array.length_toList, insOuter_size a b _ _ _ rfl]
  simp
theorem insS_none (l : List Sy) (a : Nat) : insS l a a = l := by
  unfold insS Sort.insertionSort
  rw [Sort.insOuter, if_neg (by omega)]
theorem srt_len (l : List Sy) : (srt l).length = l.length := insS_len _ _ _
theorem cmpLays (blk off size : Nat) (w : World) : CmpLays Tryz.prog 60 #[] encSy 3 cfS blk off size w := fun _ _ _ _ x y => ofCmp_post x y _
def fnCmp : Value := .func (.func 60) #[] #[]
theorem ins_post {w : World} {g cap : Nat} {l : List Sy} (h : SyRow w g cap l) (a b : Nat) (hab : a ≤ b) (hb : b ≤ l.length) (hsz : l.length ≤ 1000) :
    Calls Tryz.prog 106 #[.slice (some ⟨g, 0, none⟩) l.length cap, .int .i64 (a : Int), .int .i64 (b : Int), fnCmp] w fun e w' => e = .returned (.tuple #[]) ∧ SyRow w' g cap (insS l a b) ∧ w.grownBy w' (some g) := by
  have eg : ∀ args w, (callFunc 60 args).run Tryz.prog w = .ok (.enter 60 args) w := enters_of Tryz.func60 (by kernel_rfl) rfl
  have hg : g < w.heap.size := by obtain ⟨cur, h1, _⟩ := h.b; exact lt_blk h1
  have hc := AnyQ.insertionSortCmpFunc Tryz.laysIns 3 Tryz.isAgg48 Tryz.sizeOf48 encSy (fun _ => rfl) (fun x v hv => by simp [encSy] at hv; rcases hv with rfl | rfl | rfl <;> rfl) cfS 60 #[] g 0 cap a b l.toArray w eg (cmpLays _ _ _ _) h.holds hg hab (by simpa using hb) (by simp; omega)
  have e : (l.toArray).size = l.length := by simp
  rw [e] at hc
  refine hc.mono ?_
  rintro e w' ⟨rfl, n, os, rfl⟩
  have hs := h.sorted (d := Sort.insertionSort (ltOf cfS) l.toArray a b) (n := n) (os := os) (by rw [← Array.length_toList]; exact insS_len l a b)
  exact ⟨rfl, hs.1, hs.2⟩
set_option maxRecDepth 100000 in
set_option maxHeartbeats 1000000 in
theorem stable_small {w : World} {g cap : Nat} {l : List Sy} (h : SyRow w g cap l) (hn : l.length < 20) :
    Calls Tryz.prog 81 #[.slice (some ⟨g, 0, none⟩) l.length cap, .int .i64 (l.length : Int), fnCmp] w fun e w' => e = .returned (.tuple #[]) ∧ SyRow w' g cap (srt l) ∧ w.grownBy w' (some g) := by
  have hc := ins_post h 0 l.length (by omega) (Nat.le_refl _) (by omega)
  have HC : Hid (Calls Tryz.prog 106 #[.slice (some ⟨g, 0, none⟩) l.length cap, .int .i64 0, .int .i64 (l.length : Int), fnCmp] w fun e w' => e = .returned (.tuple #[]) ∧ SyRow w' g cap (srt l) ∧ w.grownBy w' (some g)) := hc
  have hn' : (l.length : Int) < 20 := by omega
  clear hc h
  generalize l.length = n at *
  unfold fnCmp at HC ⊢
  go_enter Tryz.func81, Tryz.ntmps81
  go_wp2_with fail
  refine wp_loop_rounds 1 ?_
  rw [rounds_succ]
  go_wp2_with fail
  refine HC.out.mono ?_
  rintro e w1 ⟨rfl, h1⟩
  have H1 := Lib.hid h1
  clear h1
  go_wp2_with fail
  refine wp_loop_rounds 1 ?_
  rw [rounds_succ]
  go_wp2_with fail
  go_end0
  exact ⟨rfl, H1.out⟩
end Go.Proofs.YtiolfelekiopdaaGreatDoor
/- Sorting Syms: SortStableFunc, all. -/
namespace Go.Proofs.YtiolfelekiopdaaGreatDoor
open Go.RowKit Go.Sort
open Tp (Sy)

set_option maxRecDepth 100000 in
set_option maxHeartbeats 1000000 in
theorem stable_20 {w : World} {g cap : Nat} {l : List Sy} (h : SyRow w g cap l) (hn : l.length = 20) :
    Calls Tryz.prog 81 #[.slice (some ⟨g, 0, none⟩) 20 cap, .int .i64 20, fnCmp] w fun e w' => e = .returned (.tuple #[]) ∧ SyRow w' g cap (srt l) ∧ w.grownBy w' (some g) := by
  have hc := ins_post h 0 20 (by omega) (by omega) (by omega)
  have e0 : insS l 0 20 = srt l := by unfold srt; rw [hn]
  rw [hn, e0] at hc
  have HC : Hid (Calls Tryz.prog 106 #[.slice (some ⟨g, 0, none⟩) 20 cap, .int .i64 0, .int .i64 20, fnCmp] w fun e w' => e = .returned (.tuple #[]) ∧ SyRow w' g cap (srt l) ∧ w.grownBy w' (some g)) := hc
  have hc2 : ∀ W, SyRow W g cap (srt l) → Calls Tryz.prog 106 #[.slice (some ⟨g, 0, none⟩) 20 cap, .int .i64 20, .int .i64 20, fnCmp] W fun e w' => e = .returned (.tuple #[]) ∧ SyRow w' g cap (srt l) ∧ W.grownBy w' (some g) := by
    intro W hW
    have := ins_post hW 20 20 (by omega) (by rw [srt_len]; omega) (by rw [srt_len]; omega)
    rw [insS_none, srt_len, hn] at this
    exact this
  have HC2 := Lib.hid hc2
  clear hc hc2 h
  unfold fnCmp at HC HC2 ⊢
  go_enter Tryz.func81, Tryz.ntmps81
  go_wp2_with fail
  refine wp_loop_rounds 2 ?_
  rw [rounds_succ]
  go_wp2_with fail
  refine HC.out.mono ?_
  rintro e w1 ⟨rfl, h1, h1g⟩
  have H1 := Lib.hid h1
  have G1 := Lib.hid h1g
  clear h1 h1g
  go_wp2_with fail
  rw [rounds_succ]
  go_wp2_with fail
  refine (HC2.out w1 H1.out).mono ?_
  rintro e w2 ⟨rfl, h2, h2g⟩
  have H2 := Lib.hid h2
  have G2 := Lib.hid (G1.out.trans h2g)
  clear h2 h2g
  go_wp2_with fail
  refine wp_loop_rounds 1 ?_
  rw [rounds_succ]
  go_wp2_with fail
  go_end0
  exact ⟨rfl, H2.out, G2.out⟩
set_option maxRecDepth 100000 in
theorem ins_nil (w : World) : Calls Tryz.prog 106 #[.slice none 0 0, .int .i64 0, .int .i64 0, fnCmp] w fun e w' => e = .returned (.tuple #[]) ∧ w' = w := by
  unfold fnCmp
  go_enter Tryz.func106, Tryz.ntmps106
  go_wp2_with fail
  refine wp_loop_rounds 1 ?_
  rw [rounds_succ]
  go_wp2_with fail
  go_end0
  exact ⟨rfl, rfl⟩
set_option maxRecDepth 100000 in
theorem stable_nil (w : World) : Calls Tryz.prog 81 #[.slice none 0 0, .int .i64 0, fnCmp] w fun e w' => e = .returned (.tuple #[]) ∧ w' = w := by
  have HC := Lib.hid (ins_nil w)
  unfold fnCmp at HC ⊢
  go_enter Tryz.func81, Tryz.ntmps81
  go_wp2_with fail
  refine wp_loop_rounds 1 ?_
  rw [rounds_succ]
  go_wp2_with fail
  refine HC.out.mono ?_
  rintro e w1 ⟨rfl, rfl⟩
  go_wp2_with fail
  refine wp_loop_rounds 1 ?_
  rw [rounds_succ]
  go_wp2_with fail
  go_end0
  exact ⟨rfl, rfl⟩
set_option maxRecDepth 100000 in
theorem sort_post {w : World} {g cap : Nat} {l : List Sy} (h : SyRow w g cap l) (hn : l.length ≤ 20) :
    Calls Tryz.prog 59 #[.slice (some ⟨g, 0, none⟩) l.length cap, fnCmp] w fun e w' => e = .returned (.tuple #[]) ∧ SyRow w' g cap (srt l) ∧ w.grownBy w' (some g) := by
  have hc : Calls Tryz.prog 81 #[.slice (some ⟨g, 0, none⟩) l.length cap, .int .i64 (l.length : Int), fnCmp] w fun e w' => e = .returned (.tuple #[]) ∧ SyRow w' g cap (srt l) ∧ w.grownBy w' (some g) := by
    by_cases h20 : l.length < 20
    · exact stable_small h h20
    · have e : l.length = 20 := by omega
      have := stable_20 h e
      rw [e]
      exact this
  have HC := Lib.hid hc
  clear hc h
  generalize l.length = n at *
  unfold fnCmp at HC ⊢
  go_enter Tryz.func59, Tryz.ntmps59
  go_wp2_with fail
  refine HC.out.mono ?_
  rintro e w1 ⟨rfl, h1⟩
  have H1 := Lib.hid h1
  clear h1
  go_wp2_with fail
  go_end0
  exact ⟨rfl, H1.out⟩
set_option maxRecDepth 100000 in
theorem sort_nil (w : World) : Calls Tryz.prog 59 #[.slice none 0 0, fnCmp] w fun e w' => e = .returned (.tuple #[]) ∧ w' = w := by
  have HC := Lib.hid (stable_nil w)
  unfold fnCmp at HC ⊢
  go_enter Tryz.func59, Tryz.ntmps59
  go_wp2_with fail
  refine HC.out.mono ?_
  rintro e w1 ⟨rfl, rfl⟩
  go_wp2_with fail
  go_end0
  exact ⟨rfl, rfl⟩
end Go.Proofs.YtiolfelekiopdaaGreatDoor
