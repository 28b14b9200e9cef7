import Derived.Test.YthkdefhngkangaaDoorKYA
import Derived.Test.YthkdefhngkangaaDoorKWY
import Derived.Test.YthkdefhngkangaaDoorKSh3
/- Sorting Syms. -/
namespace Go.Proofs.YthkdefhngkangaaDoor
open Go.RowKit Go.Sort
open Tp (Sy)

def encSy (s : Sy) : List Value := [.string (bs s.1), .int .i64 (s.2.1 : Int), .int .i64 s.2.2]
def sycs (l : List Sy) : List Value := (l.map encSy).flatten
def cfS (x y : Sy) : Int := Lib.compareBytes x.1 y.1
def insS (l : List Sy) (a b : Nat) : List Sy := (Sort.insertionSort (ltOf cfS) l.toArray a b).toList
def srt (l : List Sy) : List Sy := insS l 0 l.length
theorem sycs_cons (s : Sy) (l : List Sy) : sycs (s :: l) = encSy s ++ sycs l := rfl
theorem sycs_app (l m : List Sy) : sycs (l ++ m) = sycs l ++ sycs m := by simp [sycs]
theorem sycs_len (l : List Sy) : (sycs l).length = l.length * 3 := by
  induction l with
  | nil => rfl
  | cons s l ih => rw [sycs_cons, List.length_append, ih]; simp [encSy]; omega
theorem sycs_get : ∀ (l : List Sy) (i : Nat) (h : i < l.length) (j : Nat), j < 3 → (sycs l)[i * 3 + j]? = (encSy l[i])[j]? := by
  intro l
  induction l with
  | nil => intro i h; simp at h
  | cons s l ih =>
    intro i h j hj
    rw [sycs_cons]
    cases i with
    | zero => rw [Nat.zero_mul, Nat.zero_add, List.getElem?_append_left (by simpa [encSy] using hj)]; rfl
    | succ i =>
      rw [List.getElem?_append_right (by simp [encSy]; omega)]
      have : (i + 1) * 3 + j - (encSy s).length = i * 3 + j := by simp [encSy]; omega
      rw [this, ih i (by simpa using h) j hj]
      rfl
theorem flat_sycs (d : Array Sy) : (flatK encSy 3 d).toList = sycs d.toList := by
  apply List.ext_getElem?
  intro t
  by_cases ht : t < d.size * 3
  · have hi : t / 3 < d.size := by omega
    have hj : t % 3 < 3 := Nat.mod_lt _ (by omega)
    have e : t = (t / 3) * 3 + t % 3 := by omega
    have h1 := sycs_get d.toList (t / 3) (by simpa using hi) (t % 3) hj
    rw [← e] at h1
    rw [h1, Array.getElem?_toList]
    rw [flatK]
    rw [Array.getElem?_map, Array.getElem?_range]
    simp only [ht, if_true, Option.map_some]
    rw [getElem!_pos d (t / 3) hi]
    rw [List.getElem?_eq_getElem (by simp [encSy]; omega), getElem!_pos _ _ (by simp [encSy]; omega)]
    simp
  · rw [List.getElem?_eq_none (by simp; omega), List.getElem?_eq_none (by rw [sycs_len]; simp; omega)]
/- a row of Syms in block g -/
structure SyRow (w : World) (g : Nat) (cap : Nat) (l : List Sy) : Prop where
  b : ∃ cur, w.heap[g]? = some (.cells cur 50 (0, 0)) ∧ cur.size = cap * 3 ∧ cur.toList.take (l.length * 3) = sycs l
  n : l.length ≤ cap
  m : cap ≤ maxLen
theorem SyRow.holds {w : World} {g cap : Nat} {l : List Sy} (h : SyRow w g cap l) : HoldsK encSy 3 w g 0 l.toArray := by
  obtain ⟨cur, h1, h2, h3⟩ := h.b
  intro j hj
  have hj' : j < l.length * 3 := by simpa using hj
  refine ⟨?_, frozen_blk h1⟩
  rw [cell_blk h1, Nat.zero_add, ← Array.getElem?_toList, ← List.getElem?_take_of_lt hj', h3]
  have e := flat_sycs l.toArray
  have e2 : (sycs l)[j]? = (flatK encSy 3 l.toArray).toList[j]? := by rw [e]
  rw [e2, Array.getElem?_toList, Array.getElem?_eq_getElem hj, getElem!_pos (flatK encSy 3 l.toArray) j hj]
  rfl
theorem SyRow.sorted {w : World} {g cap n : Nat} {l : List Sy} {d : Array Sy} {os : Array Obj} (h : SyRow w g cap l) (hs : d.size = l.length) : SyRow (sortWorldK encSy 3 w g 0 n d os) g cap d.toList ∧ w.grownBy (sortWorldK encSy 3 w g 0 n d os) (some g) := by
  obtain ⟨cur, h1, h2, h3⟩ := h.b
  have hg := lt_blk h1
  have hn := h.n
  have hF : (flatK encSy 3 d).size = d.size * 3 := size_flatK _ _ _
  refine ⟨⟨⟨putCells id 0 (flatK encSy 3 d) cur, ?_, by simp [putCells, h2], ?_⟩, by simpa [hs] using h.n, h.m⟩, ⟨rfl, rfl, rfl, by simp [sortWorldK, putRowK], fun k hk hne => ?_⟩⟩
  · unfold sortWorldK putRowK
    rw [heap_grow_old _ _ (by simpa using hg)]
    simp [putRow, mapBlock, Sort.ahead, Array.getElem?_modify, h1, onCells]
  · rw [← flat_sycs]
    apply List.ext_getElem?
    intro j
    by_cases hj : j < d.toList.length * 3
    · have hjF : j < (flatK encSy 3 d).size := by rw [hF]; simpa using hj
      have hjc : j < cur.size := by rw [h2]; simp at hj; omega
      rw [List.getElem?_take_of_lt hj, Array.getElem?_toList, Array.getElem?_toList, Array.getElem?_eq_getElem hjF]
      simp only [putCells, Array.getElem?_mapIdx, Array.getElem?_eq_getElem hjc, Option.map_some, Nat.zero_le, true_and, Nat.zero_add, if_pos hjF, Nat.sub_zero, id]
      rw [getElem!_pos (flatK encSy 3 d) j hjF]
    · rw [List.getElem?_take_eq_none (by omega), List.getElem?_eq_none (by simp at hj ⊢; omega)]
  · unfold sortWorldK putRowK
    rw [heap_grow_old _ _ (by simpa using hk)]
    have : g ≠ k := fun e => hne (by rw [e])
    simp [putRow, mapBlock, Sort.ahead, Array.getElem?_modify, this]
set_option maxHeartbeats 1000000 in
theorem ofCmp_post (x y : Sy) (W : World) : Calls Tryd.prog 29 #[.agg (encSy x).toArray, .agg (encSy y).toArray] W fun e w' => e = .returned (.int .i64 (cfS x y)) ∧ ∃ q os', w' = grow (W.drewN q) os' := by
  have hcon : ∀ W, Calls Tryd.prog 30 #[.string (bs x.1), .string (bs y.1)] W fun e w' => e = .returned (.int .i64 (cfS x y)) ∧ w' = W := by
    intro W
    have := Any.strings_Compare Tryd.laysCmp (bs x.1) (bs y.1) W
    rw [bs_back, bs_back] at this
    exact this
  generalize cfS x y = r at hcon ⊢
  have HC := Lib.hid hcon
  clear hcon
  unfold encSy
  go_enter Tryd.func29, Tryd.ntmps29
  go_wp2_with (go_at_call 30; refine (HC.out _).mono ?_; rintro e w' ⟨rfl, rfl⟩)
  go_ret
  exact ⟨rfl, 0, _, by rw [alloc_eq_grow, alloc_eq_grow, grow_grow]; rfl⟩
end Go.Proofs.YthkdefhngkangaaDoor
/- Sorting Syms: insertionSortCmpFunc, stableCmpFunc, SortStableFunc. -/
namespace Go.Proofs.YthkdefhngkangaaDoor
open Go.RowKit Go.Sort
open Tp (Sy)

theorem insInner_size {lt : Sy → Sy → Bool} (a : Nat) : ∀ (j : Nat) (d : Array Sy), (Sort.insInner lt a j d).size = d.size := by
  intro j
  induction j with
  | zero => intro d; rfl
  | succ j ih =>
    intro d
    rw [Sort.insInner]
    split
    · rw [ih]; simp [swp]
    · rfl
theorem insOuter_size {lt : Sy → Sy → Bool} (a b : Nat) : ∀ (k i : Nat) (d : Array Sy), b - i = k → (Sort.insOuter lt a b i d).size = d.size := by
  intro k
  induction k with
  | zero => intro i d h; rw [Sort.insOuter, if_neg (by omega)]
  | succ k ih =>
    intro i d h
    rw [Sort.insOuter]
    split
    · rw [ih (i + 1) _ (by omega), insInner_size]
    · rfl
theorem insS_len (l : List Sy) (a b : Nat) : (insS l a b).length = l.length := by
  unfold insS Sort.insertionSort
  rw [Array.length_toList, insOuter_size a b _ _ _ rfl]
  simp
theorem insS_none (l : List Sy) (a : Nat) : insS l a a = l := by
  unfold insS Sort.insertionSort
  rw [Sort.insOuter, if_neg (by omega)]
theorem srt_len (l : List Sy) : (srt l).length = l.length := insS_len _ _ _
theorem cmpLays (blk off size : Nat) (w : World) : CmpLays Tryd.prog 29 #[] encSy 3 cfS blk off size w := fun _ _ _ _ x y => ofCmp_post x y _
def fnCmp : Value := .func (.func 29) #[] #[]
theorem ins_post {w : World} {g cap : Nat} {l : List Sy} (h : SyRow w g cap l) (a b : Nat) (hab : a ≤ b) (hb : b ≤ l.length) (hsz : l.length ≤ 1000) :
    Calls Tryd.prog 71 #[.slice (some ⟨g, 0, none⟩) l.length cap, .int .i64 (a : Int), .int .i64 (b : Int), fnCmp] w fun e w' => e = .returned (.tuple #[]) ∧ SyRow w' g cap (insS l a b) ∧ w.grownBy w' (some g) := by
  have eg : ∀ args w, (callFunc 29 args).run Tryd.prog w = .ok (.enter 29 args) w := enters_of Tryd.func29 (by kernel_rfl) rfl
  have hg : g < w.heap.size := by obtain ⟨cur, h1, _⟩ := h.b; exact lt_blk h1
  have hc := AnyQ.insertionSortCmpFunc Tryd.laysIns 3 Tryd.isAgg50 Tryd.sizeOf50 encSy (fun _ => rfl) (fun x v hv => by simp [encSy] at hv; rcases hv with rfl | rfl | rfl <;> rfl) cfS 29 #[] g 0 cap a b l.toArray w eg (cmpLays _ _ _ _) h.holds hg hab (by simpa using hb) (by simp; omega)
  have e : (l.toArray).size = l.length := by simp
  rw [e] at hc
  refine hc.mono ?_
  rintro e w' ⟨rfl, n, os, rfl⟩
  have hs := h.sorted (d := Sort.insertionSort (ltOf cfS) l.toArray a b) (n := n) (os := os) (by rw [← Array.length_toList]; exact insS_len l a b)
  exact ⟨rfl, hs.1, hs.2⟩
set_option maxRecDepth 100000 in
set_option maxHeartbeats 1000000 in
theorem stable_small {w : World} {g cap : Nat} {l : List Sy} (h : SyRow w g cap l) (hn : l.length < 20) :
    Calls Tryd.prog 55 #[.slice (some ⟨g, 0, none⟩) l.length cap, .int .i64 (l.length : Int), fnCmp] w fun e w' => e = .returned (.tuple #[]) ∧ SyRow w' g cap (srt l) ∧ w.grownBy w' (some g) := by
  have hc := ins_post h 0 l.length (by omega) (Nat.le_refl _) (by omega)
  have HC : Hid (Calls Tryd.prog 71 #[.slice (some ⟨g, 0, none⟩) l.length cap, .int .i64 0, .int .i64 (l.length : Int), fnCmp] w fun e w' => e = .returned (.tuple #[]) ∧ SyRow w' g cap (srt l) ∧ w.grownBy w' (some g)) := hc
  have hn' : (l.length : Int) < 20 := by omega
  clear hc h
  generalize l.length = n at *
  unfold fnCmp at HC ⊢
  go_enter Tryd.func55, Tryd.ntmps55
  go_wp2_with fail
  refine wp_loop_rounds 1 ?_
  rw [rounds_succ]
  go_wp2_with fail
  refine HC.out.mono ?_
  rintro e w1 ⟨rfl, h1⟩
  have H1 := Lib.hid h1
  clear h1
  go_wp2_with fail
  refine wp_loop_rounds 1 ?_
  rw [rounds_succ]
  go_wp2_with fail
  go_end0
  exact ⟨rfl, H1.out⟩
end Go.Proofs.YthkdefhngkangaaDoor
/- Sorting Syms: SortStableFunc, all. -/
namespace Go.Proofs.YthkdefhngkangaaDoor
open Go.RowKit Go.Sort
open Tp (Sy)

set_option maxRecDepth 100000 in
set_option maxHeartbeats 1000000 in
theorem stable_20 {w : World} {g cap : Nat} {l : List Sy} (h : SyRow w g cap l) (hn : l.length = 20) :
    Calls Tryd.prog 55 #[.slice (some ⟨g, 0, none⟩) 20 cap, .int .i64 20, fnCmp] w fun e w' => e = .returned (.tuple #[]) ∧ SyRow w' g cap (srt l) ∧ w.grownBy w' (some g) := by
  have hc := ins_post h 0 20 (by omega) (by omega) (by omega)
  have e0 : insS l 0 20 = srt l := by unfold srt; rw [hn]
  rw [hn, e0] at hc
  have HC : Hid (Calls Tryd.prog 71 #[.slice (some ⟨g, 0, none⟩) 20 cap, .int .i64 0, .int .i64 20, fnCmp] w fun e w' => e = .returned (.tuple #[]) ∧ SyRow w' g cap (srt l) ∧ w.grownBy w' (some g)) := hc
  have hc2 : ∀ W, SyRow W g cap (srt l) → Calls Tryd.prog 71 #[.slice (some ⟨g, 0, none⟩) 20 cap, .int .i64 20, .int .i64 20, fnCmp] W fun e w' => e = .returned (.tuple #[]) ∧ SyRow w' g cap (srt l) ∧ W.grownBy w' (some g) := by
    intro W hW
    have := ins_post hW 20 20 (by omega) (by rw [srt_len]; omega) (by rw [srt_len]; omega)
    rw [insS_none, srt_len, hn] at this
    exact this
  have HC2 := Lib.hid hc2
  clear hc hc2 h
  unfold fnCmp at HC HC2 ⊢
  go_enter Tryd.func55, Tryd.ntmps55
  go_wp2_with fail
  refine wp_loop_rounds 2 ?_
  rw [rounds_succ]
  go_wp2_with fail
  refine HC.out.mono ?_
  rintro e w1 ⟨rfl, h1, h1g⟩
  have H1 := Lib.hid h1
  have G1 := Lib.hid h1g
  clear h1 h1g
  go_wp2_with fail
  rw [rounds_succ]
  go_wp2_with fail
  refine (HC2.out w1 H1.out).mono ?_
  rintro e w2 ⟨rfl, h2, h2g⟩
  have H2 := Lib.hid h2
  have G2 := Lib.hid (G1.out.trans h2g)
  clear h2 h2g
  go_wp2_with fail
  refine wp_loop_rounds 1 ?_
  rw [rounds_succ]
  go_wp2_with fail
  go_end0
  exact ⟨rfl, H2.out, G2.out⟩
set_option maxRecDepth 100000 in
theorem ins_nil (w : World) : Calls Tryd.prog 71 #[.slice none 0 0, .int .i64 0, .int .i64 0, fnCmp] w fun e w' => e = .returned (.tuple #[]) ∧ w' = w := by
  unfold fnCmp
  go_enter Tryd.func71, Tryd.ntmps71
  go_wp2_with fail
  refine wp_loop_rounds 1 ?_
  rw [rounds_succ]
  go_wp2_with fail
  go_end0
  exact ⟨rfl, rfl⟩
set_option maxRecDepth 100000 in
theorem stable_nil (w : World) : Calls Tryd.prog 55 #[.slice none 0 0, .int .i64 0, fnCmp] w fun e w' => e = .returned (.tuple #[]) ∧ w' = w := by
  have HC := Lib.hid (ins_nil w)
  unfold fnCmp at HC ⊢
  go_enter Tryd.func55, Tryd.ntmps55
  go_wp2_with fail
  refine wp_loop_rounds 1 ?_
  rw [rounds_succ]
  go_wp2_with fail
  refine HC.out.mono ?_
  rintro e w1 ⟨rfl, rfl⟩
  go_wp2_with fail
  refine wp_loop_rounds 1 ?_
  rw [rounds_succ]
  go_wp2_with fail
  go_end0
  exact ⟨rfl, rfl⟩
set_option maxRecDepth 100000 in
theorem sort_post {w : World} {g cap : Nat} {l : List Sy} (h : SyRow w g cap l) (hn : l.length ≤ 20) :
    Calls Tryd.prog 28 #[.slice (some ⟨g, 0, none⟩) l.length cap, fnCmp] w fun e w' => e = .returned (.tuple #[]) ∧ SyRow w' g cap (srt l) ∧ w.grownBy w' (some g) := by
  have hc : Calls Tryd.prog 55 #[.slice (some ⟨g, 0, none⟩) l.length cap, .int .i64 (l.length : Int), fnCmp] w fun e w' => e = .returned (.tuple #[]) ∧ SyRow w' g cap (srt l) ∧ w.grownBy w' (some g) := by
    by_cases h20 : l.length < 20
    · exact stable_small h h20
    · have e : l.length = 20 := by omega
      have := stable_20 h e
      rw [e]
      exact this
  have HC := Lib.hid hc
  clear hc h
  generalize l.length = n at *
  unfold fnCmp at HC ⊢
  go_enter Tryd.func28, Tryd.ntmps28
  go_wp2_with fail
  refine HC.out.mono ?_
  rintro e w1 ⟨rfl, h1⟩
  have H1 := Lib.hid h1
  clear h1
  go_wp2_with fail
  go_end0
  exact ⟨rfl, H1.out⟩
set_option maxRecDepth 100000 in
theorem sort_nil (w : World) : Calls Tryd.prog 28 #[.slice none 0 0, fnCmp] w fun e w' => e = .returned (.tuple #[]) ∧ w' = w := by
  have HC := Lib.hid (stable_nil w)
  unfold fnCmp at HC ⊢
  go_enter Tryd.func28, Tryd.ntmps28
  go_wp2_with fail
  refine HC.out.mono ?_
  rintro e w1 ⟨rfl, rfl⟩
  go_wp2_with fail
  go_end0
  exact ⟨rfl, rfl⟩
end Go.Proofs.YthkdefhngkangaaDoor
