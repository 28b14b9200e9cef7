import Derived.Test.YtfcdphgggdioeaaGreatDoorKXa
import Derived.Test.YtfcdphgggdioeaaGreatDoorKAa
import Derived.Test.YtfcdphgggdioeaaGreatDoorKWb
import Derived.Test.YtfcdphgggdioeaaGreatDoorKShb
import Derived.Test.YtfcdphgggdioeaaGreatDoorKShc
import Derived.LaidEql
import Derived.RowKitTokens
import Derived.Stop.Asserts
/- What the program reads of its variables; texts that a slice holds. -/
namespace Go.Proofs.YtfcdphgggdioeaaGreatDoor
open Go.RowKit
open Tp (Bs Sy X S G Pr)

/- what the program reads of its variables -/
/- texts that a slice holds -/
structure StrsAt (w : World) (ns : List (List UInt8)) (a : Option Addr) : Prop where
  c : ∀ i (h : i < ns.length), ∃ b o, a = some ⟨b, o, none⟩ ∧ b < w.heap.size ∧ w.cell? ⟨b, o + i, none⟩ = some (.string (bs ns[i]))
theorem StrsAt.on {w w' : World} {ns : List (List UInt8)} {a : Option Addr} (h : StrsAt w ns a) (k : Below w.heap.size w w') : StrsAt w' ns a :=
  ⟨fun i hi => by obtain ⟨b, o, h1, h2, h3⟩ := h.c i hi; exact ⟨b, o, h1, Nat.lt_of_lt_of_le h2 k.size, (k.cell (p := ⟨b, o + i, none⟩) h2).trans h3⟩⟩
end Go.Proofs.YtfcdphgggdioeaaGreatDoor
/- Sorting Syms. -/
namespace Go.Proofs.YtfcdphgggdioeaaGreatDoor
open Go.RowKit Go.Sort
open Tp (Sy)

def encSy (s : Sy) : List Value := [.string (bs s.1), .int .i64 (s.2.1 : Int), .int .i64 s.2.2]
def sycs (l : List Sy) : List Value := (l.map encSy).flatten
def cfS (x y : Sy) : Int := Lib.compareBytes x.1 y.1
def insS (l : List Sy) (a b : Nat) : List Sy := (Sort.insertionSort (ltOf cfS) l.toArray a b).toList
def srt (l : List Sy) : List Sy := insS l 0 l.length
theorem sycs_cons (s : Sy) (l : List Sy) : sycs (s :: l) = encSy s ++ sycs l := rfl
theorem sycs_app (l m : List Sy) : sycs (l ++ m) = sycs l ++ sycs m := by simp [sycs]
theorem sycs_len (l : List Sy) : (sycs l).length = l.length * 3 := by
  induction l with
  | nil => rfl
  | cons s l ih => rw [sycs_cons, List.length_append, ih]; simp [encSy]; omega
theorem sycs_get : ∀ (l : List Sy) (i : Nat) (h : i < l.length) (j : Nat), j < 3 → (sycs l)[i * 3 + j]? = (encSy l[i])[j]? := by
  intro l
  induction l with
  | nil => intro i h; simp at h
  | cons s l ih =>
    intro i h j hj
    rw [sycs_cons]
    cases i with
    | zero => rw [Nat.zero_mul, Nat.zero_add, List.getElem?_append_left (by simpa [encSy] using hj)]; rfl
    | succ i =>
      rw [List.getElem?_append_right (by simp [encSy]; omega)]
      have : (i + 1) * 3 + j - (encSy s).length = i * 3 + j := by simp [encSy]; omega
      rw [this, ih i (by simpa using h) j hj]
      rfl
theorem flat_sycs (d : Array Sy) : (flatK encSy 3 d).toList = sycs d.toList := by
  apply List.ext_getElem?
  intro t
  by_cases ht : t < d.size * 3
  · have hi : t / 3 < d.size := by omega
    have hj : t % 3 < 3 := Nat.mod_lt _ (by omega)
    have e : t = (t / 3) * 3 + t % 3 := by omega
    have h1 := sycs_get d.toList (t / 3) (by simpa using hi) (t % 3) hj
    rw [← e] at h1
    rw [h1, Array.getElem?_toList]
    rw [flatK]
    rw [Array.getElem?_map, Array.getElem?_range]
    simp only [ht, if_true, Option.map_some]
    rw [getElem!_pos d (t / 3) hi]
    rw [List.getElem?_eq_getElem (by simp [encSy]; omega), getElem!_pos _ _ (by simp [encSy]; omega)]
    simp
  · rw [List.getElem?_eq_none (by simp; omega), List.getElem?_eq_none (by rw [sycs_len]; simp; omega)]
/- a row of Syms in block g -/
structure SyRow (w : World) (g : Nat) (cap : Nat) (l : List Sy) : Prop where
  b : ∃ cur, w.heap[g]? = some (.cells cur 116 (0, 0)) ∧ cur.size = cap * 3 ∧ cur.toList.take (l.length * 3) = sycs l
  n : l.length ≤ cap
  m : cap ≤ maxLen
theorem SyRow.holds {w : World} {g cap : Nat} {l : List Sy} (h : SyRow w g cap l) : HoldsK encSy 3 w g 0 l.toArray := by
  obtain ⟨cur, h1, h2, h3⟩ := h.b
  intro j hj
  have hj' : j < l.length * 3 := by simpa using hj
  refine ⟨?_, frozen_blk h1⟩
  rw [cell_blk h1, Nat.zero_add, ← Array.getElem?_toList, ← List.getElem?_take_of_lt hj', h3]
  have e := flat_sycs l.toArray
  have e2 : (sycs l)[j]? = (flatK encSy 3 l.toArray).toList[j]? := by rw [e]
  rw [e2, Array.getElem?_toList, Array.getElem?_eq_getElem hj, getElem!_pos (flatK encSy 3 l.toArray) j hj]
  rfl
theorem SyRow.sorted {w : World} {g cap n : Nat} {l : List Sy} {d : Array Sy} {os : Array Obj} (h : SyRow w g cap l) (hs : d.size = l.length) : SyRow (sortWorldK encSy 3 w g 0 n d os) g cap d.toList ∧ w.grownBy (sortWorldK encSy 3 w g 0 n d os) (some g) := by
  obtain ⟨cur, h1, h2, h3⟩ := h.b
  have hg := lt_blk h1
  have hn := h.n
  have hF : (flatK encSy 3 d).size = d.size * 3 := size_flatK _ _ _
  refine ⟨⟨⟨putCells id 0 (flatK encSy 3 d) cur, ?_, by simp [putCells, h2], ?_⟩, by simpa [hs] using h.n, h.m⟩, ⟨rfl, rfl, rfl, by simp [sortWorldK, putRowK], fun k hk hne => ?_⟩⟩
  · unfold sortWorldK putRowK
    rw [heap_grow_old _ _ (by simpa using hg)]
    simp [putRow, mapBlock, Sort.ahead, Array.getElem?_modify, h1, onCells]
  · rw [← flat_sycs]
    apply List.ext_getElem?
    intro j
    by_cases hj : j < d.toList.length * 3
    · have hjF : j < (flatK encSy 3 d).size := by rw [hF]; simpa using hj
      have hjc : j < cur.size := by rw [h2]; simp at hj; omega
      rw [List.getElem?_take_of_lt hj, Array.getElem?_toList, Array.getElem?_toList, Array.getElem?_eq_getElem hjF]
      simp only [putCells, Array.getElem?_mapIdx, Array.getElem?_eq_getElem hjc, Option.map_some, Nat.zero_le, true_and, Nat.zero_add, if_pos hjF, Nat.sub_zero, id]
      rw [getElem!_pos (flatK encSy 3 d) j hjF]
    · rw [List.getElem?_take_eq_none (by omega), List.getElem?_eq_none (by simp at hj ⊢; omega)]
  · unfold sortWorldK putRowK
    rw [heap_grow_old _ _ (by simpa using hk)]
    have : g ≠ k := fun e => hne (by rw [e])
    simp [putRow, mapBlock, Sort.ahead, Array.getElem?_modify, this]
set_option maxHeartbeats 1000000 in
theorem ofCmp_post (x y : Sy) (W : World) : Calls Tryz.prog 74 #[.agg (encSy x).toArray, .agg (encSy y).toArray] W fun e w' => e = .returned (.int .i64 (cfS x y)) ∧ ∃ q os', w' = grow (W.drewN q) os' := by
  have hcon : ∀ W, Calls Tryz.prog 75 #[.string (bs x.1), .string (bs y.1)] W fun e w' => e = .returned (.int .i64 (cfS x y)) ∧ w' = W := by
    intro W
    have := Any.strings_Compare Tryz.laysCmp (bs x.1) (bs y.1) W
    rw [bs_back, bs_back] at this
    exact this
  generalize cfS x y = r at hcon ⊢
  have HC := Lib.hid hcon
  clear hcon
  unfold encSy
  go_enter Tryz.func74, Tryz.ntmps74
  go_wp2_with (go_at_call 75; refine (HC.out _).mono ?_; rintro e w' ⟨rfl, rfl⟩)
  go_ret
  exact ⟨rfl, 0, _, by rw [alloc_eq_grow, alloc_eq_grow, grow_grow]; rfl⟩
end Go.Proofs.YtfcdphgggdioeaaGreatDoor
/- Sorting Syms: insertionSortCmpFunc, stableCmpFunc, SortStableFunc. -/
namespace Go.Proofs.YtfcdphgggdioeaaGreatDoor
open Go.RowKit Go.Sort
open Tp (Sy)

theorem insInner_size {lt : Sy → Sy → Bool} (a : Nat) : ∀ (j : Nat) (d : Array Sy), (Sort.insInner lt a j d).size = d.size := by
  intro j
  induction j with
  | zero => intro d; rfl
  | succ j ih =>
    intro d
    rw [Sort.insInner]
    split
    · rw [ih]; simp [swp]
    · rfl
theorem insOuter_size {lt : Sy → Sy → Bool} (a b : Nat) : ∀ (k i : Nat) (d : Array Sy), b - i = k → (Sort.insOuter lt a b i d).size = d.size := by
  intro k
  induction k with
  | zero => intro i d h; rw [Sort.insOuter, if_neg (by omega)]
  | succ k ih =>
    intro i d h
    rw [Sort.insOuter]
    split
    · rw [ih (i + 1) _ (by omega), insInner_size]
    · rfl
theorem insS_len (l : List Sy) (a b : Nat) : (insS l a b).length = l.length := by
  unfold insS Sort.insertionSort
  rw [Array.length_toList, insOuter_size a b _ _ _ rfl]
  simp
theorem insS_none (l : List Sy) (a : Nat) : insS l a a = l := by
  unfold insS Sort.insertionSort
  rw [Sort.insOuter, if_neg (by omega)]
theorem srt_len (l : List Sy) : (srt l).length = l.length := insS_len _ _ _
theorem cmpLays (blk off size : Nat) (w : World) : CmpLays Tryz.prog 74 #[] encSy 3 cfS blk off size w := fun _ _ _ _ x y => ofCmp_post x y _
def fnCmp : Value := .func (.func 74) #[] #[]
theorem ins_post {w : World} {g cap : Nat} {l : List Sy} (h : SyRow w g cap l) (a b : Nat) (hab : a ≤ b) (hb : b ≤ l.length) (hsz : l.length ≤ 1000) :
    Calls Tryz.prog 137 #[.slice (some ⟨g, 0, none⟩) l.length cap, .int .i64 (a : Int), .int .i64 (b : Int), fnCmp] w fun e w' => e = .returned (.tuple #[]) ∧ SyRow w' g cap (insS l a b) ∧ w.grownBy w' (some g) := by
  have eg : ∀ args w, (callFunc 74 args).run Tryz.prog w = .ok (.enter 74 args) w := enters_of Tryz.func74 (by kernel_rfl) rfl
  have hg : g < w.heap.size := by obtain ⟨cur, h1, _⟩ := h.b; exact lt_blk h1
  have hc := AnyQ.insertionSortCmpFunc Tryz.laysIns 3 Tryz.isAgg116 Tryz.sizeOf116 encSy (fun _ => rfl) (fun x v hv => by simp [encSy] at hv; rcases hv with rfl | rfl | rfl <;> rfl) cfS 74 #[] g 0 cap a b l.toArray w eg (cmpLays _ _ _ _) h.holds hg hab (by simpa using hb) (by simp; omega)
  have e : (l.toArray).size = l.length := by simp
  rw [e] at hc
  refine hc.mono ?_
  rintro e w' ⟨rfl, n, os, rfl⟩
  have hs := h.sorted (d := Sort.insertionSort (ltOf cfS) l.toArray a b) (n := n) (os := os) (by rw [← Array.length_toList]; exact insS_len l a b)
  exact ⟨rfl, hs.1, hs.2⟩
set_option maxRecDepth 100000 in
set_option maxHeartbeats 1000000 in
theorem stable_small {w : World} {g cap : Nat} {l : List Sy} (h : SyRow w g cap l) (hn : l.length < 20) :
    Calls Tryz.prog 107 #[.slice (some ⟨g, 0, none⟩) l.length cap, .int .i64 (l.length : Int), fnCmp] w fun e w' => e = .returned (.tuple #[]) ∧ SyRow w' g cap (srt l) ∧ w.grownBy w' (some g) := by
  have hc := ins_post h 0 l.length (by omega) (Nat.le_refl _) (by omega)
  have HC : Hid (Calls Tryz.prog 137 #[.slice (some ⟨g, 0, none⟩) l.length cap, .int .i64 0, .int .i64 (l.length : Int), fnCmp] w fun e w' => e = .returned (.tuple #[]) ∧ SyRow w' g cap (srt l) ∧ w.grownBy w' (some g)) := hc
  have hn' : (l.length : Int) < 20 := by omega
  clear hc h
  generalize l.length = n at *
  unfold fnCmp at HC ⊢
  go_enter Tryz.func107, Tryz.ntmps107
  go_wp2_with fail
  refine wp_loop_rounds 1 ?_
  rw [rounds_succ]
  go_wp2_with fail
  refine HC.out.mono ?_
  rintro e w1 ⟨rfl, h1⟩
  have H1 := Lib.hid h1
  clear h1
  go_wp2_with fail
  refine wp_loop_rounds 1 ?_
  rw [rounds_succ]
  go_wp2_with fail
  go_end0
  exact ⟨rfl, H1.out⟩
end Go.Proofs.YtfcdphgggdioeaaGreatDoor
/- Sorting Syms: SortStableFunc, all. -/
namespace Go.Proofs.YtfcdphgggdioeaaGreatDoor
open Go.RowKit Go.Sort
open Tp (Sy)

set_option maxRecDepth 100000 in
set_option maxHeartbeats 1000000 in
theorem stable_20 {w : World} {g cap : Nat} {l : List Sy} (h : SyRow w g cap l) (hn : l.length = 20) :
    Calls Tryz.prog 107 #[.slice (some ⟨g, 0, none⟩) 20 cap, .int .i64 20, fnCmp] w fun e w' => e = .returned (.tuple #[]) ∧ SyRow w' g cap (srt l) ∧ w.grownBy w' (some g) := by
  have hc := ins_post h 0 20 (by omega) (by omega) (by omega)
  have e0 : insS l 0 20 = srt l := by unfold srt; rw [hn]
  rw [hn, e0] at hc
  have HC : Hid (Calls Tryz.prog 137 #[.slice (some ⟨g, 0, none⟩) 20 cap, .int .i64 0, .int .i64 20, fnCmp] w fun e w' => e = .returned (.tuple #[]) ∧ SyRow w' g cap (srt l) ∧ w.grownBy w' (some g)) := hc
  have hc2 : ∀ W, SyRow W g cap (srt l) → Calls Tryz.prog 137 #[.slice (some ⟨g, 0, none⟩) 20 cap, .int .i64 20, .int .i64 20, fnCmp] W fun e w' => e = .returned (.tuple #[]) ∧ SyRow w' g cap (srt l) ∧ W.grownBy w' (some g) := by
    intro W hW
    have := ins_post hW 20 20 (by omega) (by rw [srt_len]; omega) (by rw [srt_len]; omega)
    rw [insS_none, srt_len, hn] at this
    exact this
  have HC2 := Lib.hid hc2
  clear hc hc2 h
  unfold fnCmp at HC HC2 ⊢
  go_enter Tryz.func107, Tryz.ntmps107
  go_wp2_with fail
  refine wp_loop_rounds 2 ?_
  rw [rounds_succ]
  go_wp2_with fail
  refine HC.out.mono ?_
  rintro e w1 ⟨rfl, h1, h1g⟩
  have H1 := Lib.hid h1
  have G1 := Lib.hid h1g
  clear h1 h1g
  go_wp2_with fail
  rw [rounds_succ]
  go_wp2_with fail
  refine (HC2.out w1 H1.out).mono ?_
  rintro e w2 ⟨rfl, h2, h2g⟩
  have H2 := Lib.hid h2
  have G2 := Lib.hid (G1.out.trans h2g)
  clear h2 h2g
  go_wp2_with fail
  refine wp_loop_rounds 1 ?_
  rw [rounds_succ]
  go_wp2_with fail
  go_end0
  exact ⟨rfl, H2.out, G2.out⟩
set_option maxRecDepth 100000 in
theorem ins_nil (w : World) : Calls Tryz.prog 137 #[.slice none 0 0, .int .i64 0, .int .i64 0, fnCmp] w fun e w' => e = .returned (.tuple #[]) ∧ w' = w := by
  unfold fnCmp
  go_enter Tryz.func137, Tryz.ntmps137
  go_wp2_with fail
  refine wp_loop_rounds 1 ?_
  rw [rounds_succ]
  go_wp2_with fail
  go_end0
  exact ⟨rfl, rfl⟩
set_option maxRecDepth 100000 in
theorem stable_nil (w : World) : Calls Tryz.prog 107 #[.slice none 0 0, .int .i64 0, fnCmp] w fun e w' => e = .returned (.tuple #[]) ∧ w' = w := by
  have HC := Lib.hid (ins_nil w)
  unfold fnCmp at HC ⊢
  go_enter Tryz.func107, Tryz.ntmps107
  go_wp2_with fail
  refine wp_loop_rounds 1 ?_
  rw [rounds_succ]
  go_wp2_with fail
  refine HC.out.mono ?_
  rintro e w1 ⟨rfl, rfl⟩
  go_wp2_with fail
  refine wp_loop_rounds 1 ?_
  rw [rounds_succ]
  go_wp2_with fail
  go_end0
  exact ⟨rfl, rfl⟩
set_option maxRecDepth 100000 in
theorem sort_post {w : World} {g cap : Nat} {l : List Sy} (h : SyRow w g cap l) (hn : l.length ≤ 20) :
    Calls Tryz.prog 73 #[.slice (some ⟨g, 0, none⟩) l.length cap, fnCmp] w fun e w' => e = .returned (.tuple #[]) ∧ SyRow w' g cap (srt l) ∧ w.grownBy w' (some g) := by
  have hc : Calls Tryz.prog 107 #[.slice (some ⟨g, 0, none⟩) l.length cap, .int .i64 (l.length : Int), fnCmp] w fun e w' => e = .returned (.tuple #[]) ∧ SyRow w' g cap (srt l) ∧ w.grownBy w' (some g) := by
    by_cases h20 : l.length < 20
    · exact stable_small h h20
    · have e : l.length = 20 := by omega
      have := stable_20 h e
      rw [e]
      exact this
  have HC := Lib.hid hc
  clear hc h
  generalize l.length = n at *
  unfold fnCmp at HC ⊢
  go_enter Tryz.func73, Tryz.ntmps73
  go_wp2_with fail
  refine HC.out.mono ?_
  rintro e w1 ⟨rfl, h1⟩
  have H1 := Lib.hid h1
  clear h1
  go_wp2_with fail
  go_end0
  exact ⟨rfl, H1.out⟩
set_option maxRecDepth 100000 in
theorem sort_nil (w : World) : Calls Tryz.prog 73 #[.slice none 0 0, fnCmp] w fun e w' => e = .returned (.tuple #[]) ∧ w' = w := by
  have HC := Lib.hid (stable_nil w)
  unfold fnCmp at HC ⊢
  go_enter Tryz.func73, Tryz.ntmps73
  go_wp2_with fail
  refine HC.out.mono ?_
  rintro e w1 ⟨rfl, rfl⟩
  go_wp2_with fail
  go_end0
  exact ⟨rfl, rfl⟩
end Go.Proofs.YtfcdphgggdioeaaGreatDoor
/- What others see of a module: Of. -/
namespace Go.Proofs.YtfcdphgggdioeaaGreatDoor
open Go.RowKit Go.Sort
open Tp (Sy)

theorem Tryz.infoSym : (Tryz.prog.info? 116).map (fun i => (i.zero, i.size, i.bytes)) = some (some (.agg #[.string ⟨#[]⟩, .int .i64 0, .int .i64 0]), 3, 32) := by kernel_rfl
def AskOG (w : World) (gn : Nat) (ga : Option Addr) (xs : Nat → List Sy) : Prop :=
  ∀ i, i < gn → ∃ (g : Nat) (x0 : List UInt8) (x1 x2 : Nat) (x3 : Bool), ga = some ⟨g, 0, none⟩ ∧ g < w.heap.size ∧ w.cell? ⟨g, i * 4, none⟩ = some (.string (bs x0)) ∧ w.cell? ⟨g, i * 4 + 1, none⟩ = some (.int .i64 (x1 : Int)) ∧ w.cell? ⟨g, i * 4 + 2, none⟩ = some (.int .i64 (x2 : Int)) ∧ w.cell? ⟨g, i * 4 + 3, none⟩ = some (.bool x3) ∧
    xs (i + 1) = xs i ++ (if x3 then [(x0, x2, -1)] else [])
def AskOP (w : World) (pn : Nat) (pa : Option Addr) (xs : Nat → List Sy) : Prop :=
  ∀ i, i < pn → ∃ (g : Nat) (x0 : List UInt8) (x1 : Nat) (x2 : Bool) (y3 y4 y5 : Option Addr) (n3 n4 n5 c3 c4 c5 : Nat), pa = some ⟨g, 0, none⟩ ∧ g < w.heap.size ∧ w.cell? ⟨g, i * 6, none⟩ = some (.string (bs x0)) ∧ w.cell? ⟨g, i * 6 + 1, none⟩ = some (.int .i64 (x1 : Int)) ∧ w.cell? ⟨g, i * 6 + 2, none⟩ = some (.bool x2) ∧ w.cell? ⟨g, i * 6 + 3, none⟩ = some (.slice y3 n3 c3) ∧ w.cell? ⟨g, i * 6 + 4, none⟩ = some (.slice y4 n4 c4) ∧ w.cell? ⟨g, i * 6 + 5, none⟩ = some (.slice y5 n5 c5) ∧
    xs (i + 1) = xs i ++ (if x2 then [(x0, 0, (n3 : Int))] else [])
/- Syms that a slice holds, in blocks from B on -/
def SL (w : World) (B : Nat) (v : Value) (l : List Sy) : Prop := v = .slice none 0 0 ∧ l = [] ∨ ∃ g cap, v = .slice (some ⟨g, 0, none⟩) l.length cap ∧ B ≤ g ∧ SyRow w g cap l
theorem own_syrow {w : World} {base n : Nat} {v : Value} {l : List Sy} (h : w.ownsRow base 116 3 v n (sycs l)) : n = l.length ∧ SL w base v l := by
  have hn : n = l.length := by have := h.1; rw [sycs_len] at this; omega
  refine ⟨hn, ?_⟩
  rcases h.2 with ⟨rfl, h2⟩ | ⟨g, cap, cur, rfl, q1, q2, q3, q4, q5, q6⟩
  · exact Or.inl ⟨rfl, List.eq_nil_of_length_eq_zero (by omega)⟩
  · subst hn
    exact Or.inr ⟨g, cap, rfl, q1, ⟨⟨cur, q2, q5, q6⟩, q3, q4⟩⟩
theorem newsSy (w : World) (o : Obj) (v0 v1 v2 : Value) (t : TypeId) : ∀ (j : Nat) (u : Value), ([v0, v1, v2] : List Value)[j]? = some u → ((w.alloc o).alloc (.cells #[v0, v1, v2] t)).cell? ((⟨w.heap.size + 1, 0, none⟩ : Addr).add j) = some u := by
  intro j u hj
  rw [Addr.add_lit, cell_blk (new_blk1 _ _ _), Nat.zero_add]
  simpa using hj
end Go.Proofs.YtfcdphgggdioeaaGreatDoor
/- What others see of a module: Of, walked. -/
namespace Go.Proofs.YtfcdphgggdioeaaGreatDoor
open Go.RowKit Go.Sort
open Tp (Sy)

set_option maxRecDepth 100000 in
set_option maxHeartbeats 4000000 in
theorem of_walk {w : World} {nm : List UInt8} {inn gn pn bn ic gc pc bc : Nat} {ia ga pa ba : Option Addr} {mg mp : Nat → List Sy} (hg0 : mg 0 = []) (hG : AskOG w gn ga mg) (hp0 : mp 0 = mg gn) (hP : AskOP w pn pa mp) (hgl : ∀ i, (mg i).length ≤ 1000) (hpl : ∀ i, (mp i).length ≤ 1000) (hlast : (mp pn).length ≤ 20) (hgn : gn ≤ 1000000000) (hpn : pn ≤ 1000000000) :
    Calls Tryz.prog 47 #[.agg #[.string (bs nm), .slice ia inn ic, .slice ga gn gc, .slice pa pn pc, .slice ba bn bc]] w fun e w' => ∃ v, e = .returned v ∧ Below w.heap.size w w' ∧ SL w' w.heap.size v (srt (mp pn)) := by
  obtain ⟨i3, hi3, hz30, hz31, hz32⟩ := info_parts Tryz.infoSym
  have hblk : (w.alloc (.cells #[.string (bs nm), .slice ia inn ic, .slice ga gn gc, .slice pa pn pc, .slice ba bn bc] 28)).heap[w.heap.size]? = some (.cells #[.string (bs nm), .slice ia inn ic, .slice ga gn gc, .slice pa pn pc, .slice ba bn bc] 28 (0, 0)) := new_blk _ _
  obtain ⟨k0, k1, k2, k3, k4⟩ := cell_box5 hblk
  have HG0 := Lib.hid hg0
  have HG := Lib.hid hG
  have HP0 := Lib.hid hp0
  have HP := Lib.hid hP
  have HLA := Lib.hid hlast
  have HGL := Lib.hid hgl
  have HPL := Lib.hid hpl
  have HK := Lib.hid hblk
  have hgn' : (gn : Int) ≤ 1000000000 := by omega
  have hpn' : (pn : Int) ≤ 1000000000 := by omega
  clear hg0 hG hp0 hP hlast hgl hpl hblk k0 k1 k3 k4
  go_enter Tryz.func47, Tryz.ntmps47
  go_wp2_with fail
  go_loopg [3, 11] gn (fun k v vi wr => ∃ i : Nat, i ≤ gn ∧ k = gn - i ∧ vi = .int .i64 (i : Int) ∧ Hid (wr.ownsRow (w.heap.size + 1) 116 3 v (mg i).length (sycs (mg i))) ∧ Hid (Below (w.heap.size + 1) (w.alloc (.cells #[.string (bs nm), .slice ia inn ic, .slice ga gn gc, .slice pa pn pc, .slice ba bn bc] 28)) wr))
  case atStart => exact ⟨0, by omega, by omega, rfl, by unfold Hid; rw [HG0.out]; exact World.ownsRow_nil _ _ _ _, Below.refl _ _⟩
  case round =>
    obtain ⟨i, hid, hk, rfl, HO, HB⟩ := hrel
    have hown := HO.out
    have hml := HGL.out i
    have hsz := HB.out.size
    have hsz1 : (w.alloc (.cells #[.string (bs nm), .slice ia inn ic, .slice ga gn gc, .slice pa pn pc, .slice ba bn bc] 28)).heap.size = w.heap.size + 1 := by simp
    by_cases hlt : i < gn
    · have hlt' : (i : Int) < (gn : Int) := by omega
      obtain ⟨g, x0, x1, x2, x3, hga, hgB, c0, c1', c2, c3, hx⟩ := HG.out i hlt
      subst hga
      have hcell : ∀ (o : Nat) (u : Value), w.cell? ⟨g, o, none⟩ = some u → wr.cell? ⟨g, o, none⟩ = some u := fun o u h => (HB.out.cell (p := ⟨g, o, none⟩) (by simp; omega)).trans (cell_alloc h _)
      have kc0 := hcell _ _ c0
      have kc1 := hcell _ _ c1'
      have kc2 := hcell _ _ c2
      have kc3 := hcell _ _ c3
      have hlgr : g < wr.heap.size := by omega
      obtain ⟨a1, c1, hv⟩ := owns_shape hown
      subst hv
      clear c0 c1' c2 c3 hcell HO
      cases x3 with
      | true =>
        have hownA := (hown.alloc (.cells #[.string (bs x0), .int .i64 (x1 : Int), .int .i64 (x2 : Int), .bool true] 59)).alloc (.cells #[.string (bs x0), .int .i64 (x2 : Int), .int .i64 (-1)] 116)
        go_wp2_with (at_builtin; refine wpList_append_where _ rfl _ _ 81 rfl (w.heap.size + 1) 116 i3 (.agg #[.string ⟨#[]⟩, .int .i64 0, .int .i64 0]) 3 32 Tryz.underlying81 hi3 hz30 hz31 hz32 rfl (by decide) _ _ _ rfl hownA ⟨wr.heap.size + 1, 0, none⟩ 1 1 [.string (bs x0), .int .i64 (x2 : Int), .int .i64 (-1)] rfl rfl (newsSy wr _ _ _ _ _) (by intro u hu; simp at hu; rcases hu with rfl | rfl | rfl <;> rfl) (by unfold maxLen; omega) (by omega) (by simp; omega) ?_)
        intro v3 w3 hown3 hgrow3 _
        have HB3 := Lib.hid ((((HB.out.alloc (by omega) _).alloc (by simp; omega) _)).grown hgrow3 (by simp; omega) (fun k hk => (hownA.lt k hk).1))
        have HO3 : Hid (w3.ownsRow (w.heap.size + 1) 116 3 v3 (mg (i + 1)).length (sycs (mg (i + 1)))) := by
          unfold Hid
          rw [show mg (i + 1) = mg i ++ [(x0, x2, (-1))] by simpa using hx, sycs_app, List.length_append]
          exact hown3
        clear hown3 hgrow3 hownA hown
        go_wp2_with fail
        go_roundg (gn - (i + 1))
        case measure => omega
        case rel => exact ⟨i + 1, by omega, rfl, by go_num, HO3, HB3⟩

      | false =>
        have HB3 : ∀ ob, Below (w.heap.size + 1) _ (wr.alloc ob) := fun ob => HB.out.alloc (by omega) _
        have HO3 : ∀ ob, Hid ((wr.alloc ob).ownsRow (w.heap.size + 1) 116 3 (.slice a1 (mg i).length c1) (mg (i + 1)).length (sycs (mg (i + 1)))) := by
          intro ob
          unfold Hid
          rw [show mg (i + 1) = mg i by simpa using hx]
          exact hown.alloc ob
        have HB3' := Lib.hid HB3
        clear hown HB3
        go_wp2_with fail
        go_roundg (gn - (i + 1))
        case measure => omega
        case rel => exact ⟨i + 1, by omega, rfl, by go_num, HO3 _, HB3'.out _⟩

    · have hlt' : ¬ (i : Int) < (gn : Int) := by omega
      have hei : i = gn := by omega
      have HO2 : Hid (wr.ownsRow (w.heap.size + 1) 116 3 u3 (mp 0).length (sycs (mp 0))) := by unfold Hid; rw [HP0.out, ← hei]; exact hown
      have HB2 := HB
      have k3 : wr.cell? ⟨w.heap.size, 3, none⟩ = some (.slice pa pn pc) := (HB.out.cell (p := ⟨w.heap.size, 3, none⟩) (by simp)).trans (cell_box5 HK.out).2.2.2.1
      have hltb : w.heap.size < wr.heap.size := by omega
      clear HO hown HB HG HG0 hei hid hk hml hsz k2
      go_wp2_with fail
      go_loopg [3, 29] pn (fun k v vi wr => ∃ i : Nat, i ≤ pn ∧ k = pn - i ∧ vi = .int .i64 (i : Int) ∧ Hid (wr.ownsRow (w.heap.size + 1) 116 3 v (mp i).length (sycs (mp i))) ∧ Hid (Below (w.heap.size + 1) (w.alloc (.cells #[.string (bs nm), .slice ia inn ic, .slice ga gn gc, .slice pa pn pc, .slice ba bn bc] 28)) wr))
      case atStart => exact ⟨0, by omega, by omega, rfl, HO2, HB2⟩
      case round =>
        obtain ⟨j, hjd, hk2, rfl, HO, HB⟩ := hrel
        clear HO2 HB2 k3 hltb
        have hown := HO.out
        have hml := HPL.out j
        have hsz := HB.out.size
        by_cases hlt2 : j < pn
        · have hlt2' : (j : Int) < (pn : Int) := by omega
          obtain ⟨g, x0, x1, x2, y3, y4, y5, n3, n4, n5, d3, d4, d5, hpa, hgB, c0, c1', c2, c3, c4, c5, hx⟩ := HP.out j hlt2
          subst hpa
          have hcell : ∀ (o : Nat) (u : Value), w.cell? ⟨g, o, none⟩ = some u → wr.cell? ⟨g, o, none⟩ = some u := fun o u h => (HB.out.cell (p := ⟨g, o, none⟩) (by simp; omega)).trans (cell_alloc h _)
          have kc0 := hcell _ _ c0
          have kc1 := hcell _ _ c1'
          have kc2 := hcell _ _ c2
          have kc3 := hcell _ _ c3
          have kc4 := hcell _ _ c4
          have kc5 := hcell _ _ c5
          have hlgr : g < wr.heap.size := by omega
          obtain ⟨a1, c1, hv⟩ := owns_shape hown
          subst hv
          clear c0 c1' c2 c3 c4 c5 hcell HO
          cases x2 with
          | true =>
            have hownA := (hown.alloc (.cells #[.string (bs x0), .int .i64 (x1 : Int), .bool true, .slice y3 n3 d3, .slice y4 n4 d4, .slice y5 n5 d5] 62)).alloc (.cells #[.string (bs x0), .int .i64 0, .int .i64 (n3 : Int)] 116)
            go_wp2_with (at_builtin; refine wpList_append_where _ rfl _ _ 81 rfl (w.heap.size + 1) 116 i3 (.agg #[.string ⟨#[]⟩, .int .i64 0, .int .i64 0]) 3 32 Tryz.underlying81 hi3 hz30 hz31 hz32 rfl (by decide) _ _ _ rfl hownA ⟨wr.heap.size + 1, 0, none⟩ 1 1 [.string (bs x0), .int .i64 0, .int .i64 (n3 : Int)] rfl rfl (newsSy wr _ _ _ _ _) (by intro u hu; simp at hu; rcases hu with rfl | rfl | rfl <;> rfl) (by unfold maxLen; omega) (by omega) (by simp; omega) ?_)
            intro v3 w3 hown3 hgrow3 _
            have HB3 := Lib.hid ((((HB.out.alloc (by omega) _).alloc (by simp; omega) _)).grown hgrow3 (by simp; omega) (fun k hk => (hownA.lt k hk).1))
            have HO3 : Hid (w3.ownsRow (w.heap.size + 1) 116 3 v3 (mp (j + 1)).length (sycs (mp (j + 1)))) := by
              unfold Hid
              rw [show mp (j + 1) = mp j ++ [(x0, 0, (n3 : Int))] by simpa using hx, sycs_app, List.length_append]
              exact hown3
            clear hown3 hgrow3 hownA hown
            go_wp2_with fail
            go_roundg (pn - (j + 1))
            case measure => omega
            case rel => exact ⟨j + 1, by omega, rfl, by go_num, HO3, HB3⟩

          | false =>
            have HB3 : ∀ ob, Below (w.heap.size + 1) _ (wr.alloc ob) := fun ob => HB.out.alloc (by omega) _
            have HO3 : ∀ ob, Hid ((wr.alloc ob).ownsRow (w.heap.size + 1) 116 3 (.slice a1 (mp j).length c1) (mp (j + 1)).length (sycs (mp (j + 1)))) := by
              intro ob
              unfold Hid
              rw [show mp (j + 1) = mp j by simpa using hx]
              exact hown.alloc ob
            have HB3' := Lib.hid HB3
            clear hown HB3
            go_wp2_with fail
            go_roundg (pn - (j + 1))
            case measure => omega
            case rel => exact ⟨j + 1, by omega, rfl, by go_num, HO3 _, HB3'.out _⟩

        · have hlt2' : ¬ (j : Int) < (pn : Int) := by omega
          have hej : j = pn := by omega
          rw [hej] at hown
          obtain ⟨hln, hsl⟩ := own_syrow hown
          have HBF : Hid (Below w.heap.size w wr) := (((Below.refl w.heap.size w).alloc (Nat.le_refl _) _).trans (HB.out.mono (by omega)))
          rcases hsl with ⟨rfl, hnil⟩ | ⟨g, cap, rfl, hge, hrow⟩
          · have HS := Lib.hid (sort_nil wr)
            have hz0 : srt (mp pn) = [] := List.eq_nil_of_length_eq_zero (by rw [srt_len, hnil]; rfl)
            unfold fnCmp at HS
            clear hown HO HB HP HP0 hej hml hsz
            go_wp2_with fail
            refine HS.out.mono ?_
            rintro e w9 ⟨rfl, rfl⟩
            go_wp2_with fail
            go_ret
            exact ⟨_, rfl, HBF.out, Or.inl ⟨rfl, hz0⟩⟩
          · have HS := Lib.hid (sort_post hrow HLA.out)
            have HGE := Lib.hid hge
            unfold fnCmp at HS
            have hlr : (srt (mp pn)).length = (mp pn).length := srt_len _
            generalize (mp pn).length = ln at *
            clear hown HO HB HP HP0 hej hml hsz hrow hge
            go_wp2_with fail
            refine HS.out.mono ?_
            rintro e w9 ⟨rfl, h9, g9⟩
            have H9 := Lib.hid h9
            have G9 := Lib.hid g9
            clear h9 g9
            go_wp2_with fail
            go_ret
            refine ⟨.slice (some ⟨g, 0, none⟩) ln cap, rfl, HBF.out.trans ?_, Or.inr ⟨g, cap, by rw [hlr], by have := HGE.out; omega, H9.out⟩⟩
            exact (Below.refl w.heap.size wr).grown G9.out (by have := HBF.out.size; omega) (fun k hk => by cases hk; have := HGE.out; omega)
end Go.Proofs.YtfcdphgggdioeaaGreatDoor
/- What others see of a module: Of's contract; how it is written: Print's. -/
namespace Go.Proofs.YtfcdphgggdioeaaGreatDoor
open Go.RowKit Go.Sort
open Tp (Sy G Pr)

theorem filt_succ {α β : Type} (p : α → Bool) (f : α → β) (l : List α) (i : Nat) (h : i < l.length) : ((l.take (i + 1)).filter p).map f = ((l.take i).filter p).map f ++ (if p l[i] then [f l[i]] else []) := by
  rw [List.take_succ_eq_append_getElem h, List.filter_append, List.map_append]
  congr 1
  by_cases hp : p l[i] = true
  · simp [hp]
  · simp [hp]
theorem filt_len {α β : Type} (p : α → Bool) (f : α → β) (l : List α) : ((l.filter p).map f).length ≤ l.length := by
  rw [List.length_map]; exact List.length_filter_le _ _
def AllSmall (l : List Sy) : Prop := ∀ s ∈ l, s.2.1 < 100 ∧ s.2.2 < 100 ∧ -1 ≤ s.2.2 ∧ s.1.length ≤ 100
theorem of_post {m : Tp.M} (hgc : m.vars.length ≤ 10) (hpc : m.procs.length ≤ 10) {w : World} {ia ga pa ba : Option Addr} {ic gc pc bc : Nat} (h : MB w w.heap.size m ia ga pa ba ic gc pc bc) :
    Calls Tryz.prog 47 #[.agg (mcells (bs m.name) (.slice ia m.imports.length ic) (.slice ga m.vars.length gc) (.slice pa m.procs.length pc) (.slice ba m.body.length bc))] w fun e w' => ∃ v, e = .returned v ∧ Below w.heap.size w w' ∧ SL w' w.heap.size v (srt (Tp.symsOf m)) := by
  obtain ⟨nm, is, gs, ps, body⟩ := m
  obtain ⟨pcs, p1, p2⟩ := h.pr
  have hgl := h.gl
  simp only at hgl p1 p2 hgc hpc
  obtain ⟨mg, hmg⟩ : ∃ mg : Nat → List Sy, mg = fun i => ((gs.take i).filter (·.seen)).map Tp.syG := ⟨_, rfl⟩
  obtain ⟨mp, hmp⟩ : ∃ mp : Nat → List Sy, mp = fun i => mg gs.length ++ ((ps.take i).filter (·.seen)).map Tp.syP := ⟨_, rfl⟩
  have hlast : mp ps.length = Tp.symsOf ⟨nm, is, gs, ps, body⟩ := by rw [hmp, hmg]; simp [Tp.symsOf]
  have hg0 : mg 0 = [] := by rw [hmg]; simp
  have hp0 : mp 0 = mg gs.length := by rw [hmp]; simp
  have b1 : ∀ i, (mg i).length ≤ 10 := by
    intro i; rw [hmg]; have := filt_len (fun g : G => g.seen) Tp.syG (gs.take i); simp only [List.length_take] at this ⊢; omega
  have b2 : ∀ i, (mp i).length ≤ 20 := by
    intro i; rw [hmp]; have := filt_len (fun p : Pr => p.seen) Tp.syP (ps.take i); have := b1 gs.length; simp only [List.length_take, List.length_append] at *; omega
  rw [← hlast]
  refine of_walk (mg := mg) (mp := mp) (gn := gs.length) (pn := ps.length) hg0 ?_ hp0 ?_ (fun i => by have := b1 i; omega) (fun i => by have := b2 i; omega) (b2 _) (by omega) (by omega)
  · intro i hi
    obtain ⟨g, cap, q1, q2, q3, q4⟩ := row_cell hgl (by omega)
    cases q1
    have hc := fun j (hj : j < 4) => (q4 (i * 4 + j) (by omega)).trans (gcs_get gs i hi j hj)
    refine ⟨g, gs[i].name, gs[i].pos, gs[i].len, gs[i].seen, rfl, q3, hc 0 (by omega), hc 1 (by omega), hc 2 (by omega), hc 3 (by omega), ?_⟩
    rw [hmg]
    exact filt_succ (fun g : G => g.seen) Tp.syG gs i hi
  · intro i hi
    obtain ⟨g, cap, q1, q2, q3, q4⟩ := row_cell p2 (by omega)
    cases q1
    obtain ⟨pv, vv, bv, bcs', r1, r2, r3, r4, r5⟩ := repp_get ps pcs p1 i hi
    have hc := fun j (hj : j < 6) => (q4 (i * 6 + j) (by omega)).trans (r1 j hj)
    obtain ⟨y3, c3, rfl⟩ := r2.shape
    obtain ⟨y4, c4, rfl⟩ := r3.shape
    obtain ⟨y5, c5, rfl⟩ := r5.shape
    refine ⟨g, ps[i].name, ps[i].pos, ps[i].seen, y3, y4, y5, ps[i].params.length, ps[i].vars.length, ps[i].body.length, c3, c4, c5, rfl, q3, hc 0 (by omega), hc 1 (by omega), hc 2 (by omega), hc 3 (by omega), hc 4 (by omega), hc 5 (by omega), ?_⟩
    rw [hmp]
    simp only [List.append_assoc]
    congr 1
    exact filt_succ (fun p : Pr => p.seen) Tp.syP ps i hi
theorem SL.len {w : World} {B : Nat} {v : Value} {l : List Sy} (h : SL w B v l) : ∃ a c, v = .slice a l.length c := by
  rcases h with ⟨rfl, rfl⟩ | ⟨g, cap, rfl, _⟩
  · exact ⟨none, 0, rfl⟩
  · exact ⟨_, _, rfl⟩
theorem SL.cell {w : World} {B : Nat} {a : Option Addr} {n c : Nat} {l : List Sy} (h : SL w B (.slice a n c) l) (i : Nat) (hi : i < l.length) : ∃ g, a = some ⟨g, 0, none⟩ ∧ B ≤ g ∧ g < w.heap.size ∧ ∀ j, j < 3 → w.cell? ⟨g, i * 3 + j, none⟩ = (encSy l[i])[j]? := by
  rcases h with ⟨_, rfl⟩ | ⟨g, cap, q1, q2, q3⟩
  · simp at hi
  · cases q1
    obtain ⟨cur, r1, r2, r3⟩ := q3.b
    refine ⟨g, rfl, q2, lt_blk r1, fun j hj => ?_⟩
    rw [cell_blk r1, ← Array.getElem?_toList, ← sycs_get l i hi j hj, ← r3, List.getElem?_take_of_lt (by omega)]
theorem SL.on {w w' : World} {B : Nat} {v : Value} {l : List Sy} (h : SL w B v l) (k : Below w.heap.size w w') : SL w' B v l := by
  rcases h with q | ⟨g, cap, q1, q2, q3⟩
  · exact Or.inl q
  · obtain ⟨cur, r1, r2, r3⟩ := q3.b
    exact Or.inr ⟨g, cap, q1, q2, ⟨⟨cur, (k.block g (lt_blk r1)).trans r1, r2, r3⟩, q3.n, q3.m⟩⟩
end Go.Proofs.YtfcdphgggdioeaaGreatDoor
/- Finding a Sym: Find. -/
namespace Go.Proofs.YtfcdphgggdioeaaGreatDoor
open Go.RowKit Go.Sort
open Tp (Sy)

theorem bs_inj {a b : List UInt8} (h : bs a = bs b) : a = b := by
  have := congrArg (fun x : ByteArray => x.data.toList) h
  simpa [bs] using this
set_option maxRecDepth 100000 in
theorem find1_post (s : Sy) (n : List UInt8) (W : World) (bp : Nat) (hc : W.cell? ⟨bp, 0, none⟩ = some (.string (bs n))) :
    Calls Tryz.prog 110 #[.agg #[.string (bs s.1), .int .i64 (s.2.1 : Int), .int .i64 s.2.2], .pointer (some ⟨bp, 0, none⟩)] W fun e w' => e = .returned (.bool (decide (s.1 = n))) ∧ Below W.heap.size W w' := by
  obtain ⟨nm, x1, x2⟩ := s
  simp only
  have hlt := World.block_lt_of_cell? _ _ hc
  by_cases h : nm = n
  · subst h
    go_enter Tryz.func110, Tryz.ntmps110
    go_wp2_with fail
    go_ret
    exact ⟨by simp, (Below.refl _ _).alloc (Nat.le_refl _) _⟩
  · have hne : ¬ bs nm = bs n := fun e => h (bs_inj e)
    go_enter Tryz.func110, Tryz.ntmps110
    go_wp2_with fail
    go_ret
    exact ⟨by simp [h, bs_toList], (Below.refl _ _).alloc (Nat.le_refl _) _⟩
/- the number of the first that is called so, below 0: none -/
def fidx (l : List Sy) (n : List UInt8) : Int := match l.findIdx? (fun s => s.1 == n) with
  | some i => (i : Int)
  | none => -1
theorem fidx_at {l : List Sy} {n : List UInt8} {i : Nat} (hi : i < l.length) (h : l[i].1 = n) (hb : ∀ k (hk : k < i), l[k].1 ≠ n) : fidx l n = (i : Int) := by
  unfold fidx
  have : l.findIdx? (fun s => s.1 == n) = some i := by
    rw [List.findIdx?_eq_some_iff_getElem]
    exact ⟨hi, by simpa using h, fun j hj => by simpa using hb j hj⟩
  rw [this]
theorem fidx_no {l : List Sy} {n : List UInt8} (hb : ∀ k (hk : k < l.length), l[k].1 ≠ n) : fidx l n = -1 := by
  unfold fidx
  have : l.findIdx? (fun s => s.1 == n) = none := by
    rw [List.findIdx?_eq_none_iff]
    intro x hx
    obtain ⟨k, hk, rfl⟩ := List.getElem_of_mem hx
    simpa using hb k hk
  rw [this]
set_option maxRecDepth 100000 in
set_option maxHeartbeats 1000000 in
theorem index_post {w : World} {B : Nat} {v : Value} {l : List Sy} (h : SL w B v l) (hn : l.length ≤ 1000) (n : List UInt8) (bp : Nat) (hc : w.cell? ⟨bp, 0, none⟩ = some (.string (bs n))) :
    Calls Tryz.prog 109 #[v, .func (.func 110) #[] #[.pointer (some ⟨bp, 0, none⟩)]] w fun e w' => e = .returned (.int .i64 (fidx l n)) ∧ Below w.heap.size w w' := by
  obtain ⟨a, c, rfl⟩ := h.len
  have hn' : (l.length : Int) ≤ 1000 := by omega
  have hltp := World.block_lt_of_cell? _ _ hc
  have HSL := Lib.hid h
  have HC := Lib.hid hc
  obtain ⟨ln, hnl⟩ : ∃ ln, ln = l.length := ⟨_, rfl⟩
  rw [← hnl] at hn' ⊢
  have HN := Lib.hid hnl
  clear h hnl hc
  go_enter Tryz.func109, Tryz.ntmps109
  go_wp2_with fail
  go_loopg [8] ln (fun k vi wr => ∃ i : Nat, i ≤ ln ∧ k = ln - i ∧ vi = .int .i64 (i : Int) ∧ Hid (∀ k (hk : k < l.length), k < i → l[k].1 ≠ n) ∧ Hid (Below w.heap.size w wr))
  case atStart => exact ⟨0, by omega, by omega, rfl, fun k _ hk => by omega, Below.refl _ _⟩
  case round =>
    obtain ⟨i, hid, hk, rfl, HI, HW⟩ := hrel
    by_cases hlt : i < ln
    · have hlt' : (i : Int) < (ln : Int) := by omega
      have hia : i < l.length := by have := HN.out; omega
      obtain ⟨g, rfl, _, hgl, hcell⟩ := HSL.out.cell i hia
      have hc := fun j (hj : j < 3) => (HW.out.cell (p := ⟨g, i * 3 + j, none⟩) hgl).trans (hcell j hj)
      have kc0 : wr.cell? ⟨g, i * 3, none⟩ = some (.string (bs l[i].1)) := hc 0 (by omega)
      have kc1 : wr.cell? ⟨g, i * 3 + 1, none⟩ = some (.int .i64 (l[i].2.1 : Int)) := hc 1 (by omega)
      have kc2 : wr.cell? ⟨g, i * 3 + 2, none⟩ = some (.int .i64 l[i].2.2) := hc 2 (by omega)
      have hlgr : g < wr.heap.size := by have := HW.out.size; omega
      have HF := Lib.hid (find1_post l[i] n wr bp ((HW.out.cell (p := ⟨bp, 0, none⟩) hltp).trans HC.out))
      have HAT : Hid (l[i].1 = n → fidx l n = (i : Int)) := fun e => fidx_at hia e (fun k hk => HI.out k (by omega) hk)
      have HNX : Hid (¬ l[i].1 = n → ∀ k (hk : k < l.length), k < i + 1 → l[k].1 ≠ n) := by
        intro hne k hk hlt
        by_cases e : k = i
        · subst e; exact hne
        · exact HI.out k hk (by omega)
      clear hc hcell
      generalize l[i].1 = x0 at *
      generalize l[i].2.1 = x1 at *
      generalize l[i].2.2 = x2 at *
      go_wp2_with fail
      refine HF.out.mono ?_
      rintro e w3 ⟨rfl, h3⟩
      have HW3 := Lib.hid (HW.out.trans (h3.mono HW.out.size))
      clear h3
      by_cases hx : x0 = n
      · rw [decide_eq_true hx]
        have he := HAT.out hx
        go_wp2_with fail
        go_ret
        exact ⟨by first | rfl | (rw [he]; rfl), HW3.out⟩
      · rw [decide_eq_false hx]
        have HI3 := Lib.hid (HNX.out hx)
        go_wp2_with fail
        go_roundg (ln - (i + 1))
        case measure => omega
        case rel => exact ⟨i + 1, by omega, rfl, by go_num, HI3, HW3⟩
    · have hlt' : ¬ (i : Int) < (ln : Int) := by omega
      have he : fidx l n = -1 := fidx_no (fun k hk => HI.out k hk (by have := HN.out; omega))
      go_wp2_with fail
      go_ret
      exact ⟨by first | rfl | (rw [he]; rfl), HW.out⟩
set_option maxRecDepth 100000 in
theorem find_post {w : World} {B : Nat} {v : Value} {l : List Sy} (h : SL w B v l) (hn : l.length ≤ 1000) (n : List UInt8) :
    Calls Tryz.prog 77 #[v, .string (bs n)] w fun e w' => e = .returned (.int .i64 (fidx l n)) ∧ Below w.heap.size w w' := by
  have hmf : ∀ (fn : Fn) (first cap : Array Value) (w : World), (Instr.makeFunc fn first cap).run Tryz.prog w = .ok (.func fn first cap) w := fun _ _ _ _ => rfl
  have hal : Below w.heap.size w (w.alloc (.cells #[.string (bs n)] 9)) := (Below.refl _ _).alloc (Nat.le_refl _) _
  have HC := Lib.hid (index_post (h.on hal) hn n w.heap.size (cell_blk (new_blk _ _)))
  have HAL := Lib.hid hal
  obtain ⟨a, c, rfl⟩ := h.len
  clear h
  generalize l.length = ln at *
  go_enter Tryz.func77, Tryz.ntmps77
  go_wp2_with fail
  refine HC.out.mono ?_
  rintro e w1 ⟨rfl, h1⟩
  have H1 := Lib.hid (HAL.out.trans (h1.mono (by simp)))
  clear h1
  go_wp2_with fail
  go_ret
  exact ⟨rfl, H1.out⟩
end Go.Proofs.YtfcdphgggdioeaaGreatDoor
/- Writing what others see, without the module's writer: addLine. -/
namespace Go.Proofs.YtfcdphgggdioeaaGreatDoor
open Go.RowKit
variable {kk : Nat → Prop}
open Tp (Sy)

theorem dec_itoa : ∀ n : Nat, Tp.dec n = Lib.itoa (n : Int) := by
  intro n
  rw [Lib.itoa_nonneg]
  induction n using Nat.strongRecOn with
  | _ n ih =>
    rw [Tp.dec, Lib.decDigits]
    split
    · rfl
    · rw [ih (n / 10) (by omega)]
theorem itoa_post (w : World) (i : Nat) (hi : i < 100) : Calls Tryz.prog 82 #[.int .i64 (i : Int)] w fun e w' => e = .returned (.string (bs (Tp.dec i))) ∧ w' = w := by
  have h := Any.strconv_Itoa_small Tryz.laysItoa i hi w
  have e : Tp.dec i = Lib.decDigits i := by rw [dec_itoa, Lib.itoa_nonneg]
  rw [e]
  exact h
set_option maxRecDepth 100000 in
set_option maxHeartbeats 800000 in
theorem addLine_post {w : World} {B : Nat} {v : Value} {l : List UInt8} (h : Buf kk w B v l) (first : List UInt8) (ss : List (List UInt8)) (sb cs : Nat) (hs : w.heap[sb]? = some (.cells (ss.map fun s => Value.string (bs s)).toArray 9 (0, 0))) (hn : ss.length ≤ 1000) (hl : (l ++ Tp.wordsL first ss).length ≤ 1000000000) :
    Calls Tryz.prog 79 #[v, .string (bs first), .slice (some ⟨sb, 0, none⟩) ss.length cs] w (Wrote kk B w (l ++ Tp.wordsL first ss)) := by
  obtain ⟨ao, cap, hv⟩ := owns_shape h.1
  subst hv
  have hlf : l.length + first.length ≤ 1000000000 := by unfold Tp.wordsL at hl; simp only [List.length_append] at hl; omega
  have hln : ∀ i, i ≤ ss.length → (l ++ first ++ ((ss.take i).map fun s => (32 : UInt8) :: s).flatten).length + 1 ≤ 1000000000 := by
    intro i hi
    unfold Tp.wordsL at hl
    have e : (ss.map fun s => (32 : UInt8) :: s).flatten = ((ss.take i).map fun s => (32 : UInt8) :: s).flatten ++ ((ss.drop i).map fun s => (32 : UInt8) :: s).flatten := by
      conv => lhs; rw [← List.take_append_drop i ss, List.map_append, List.flatten_append]
    rw [e] at hl
    simp only [List.length_append, List.length_cons, List.length_nil] at hl ⊢
    omega
  have HLN := Lib.hid hln
  have HL := Lib.hid hl
  clear hln hl
  go_enter Tryz.func79, Tryz.ntmps79
  go_wp2_with (at_builtin; refine wpList_str rfl _ _ rfl h first rfl rfl ?c1 ?_)
  case c1 => omega
  intro v1 w1 hb1 hbel1
  have hs1 := hbel1.keeps hs (by decide)
  have HB1 := Lib.hid hb1
  have HBW1 := Lib.hid hbel1
  have HS1 := Lib.hid hs1
  clear hb1 hbel1 hs1 hs
  go_wp2_with fail
  go_loopg [0, 14] ss.length (fun k v vi wr => ∃ i : Nat, i ≤ ss.length ∧ k = ss.length - i ∧ vi = .int .i64 (i : Int) ∧ Hid (Buf kk wr B v (l ++ first ++ ((ss.take i).map fun s => (32 : UInt8) :: s).flatten)) ∧ Hid (Bw kk B w wr) ∧ Hid (wr.heap[sb]? = some (.cells (ss.map fun s => Value.string (bs s)).toArray 9 (0, 0))))
  case atStart => exact ⟨0, by omega, by omega, rfl, by unfold Hid; simpa using HB1.out, HBW1, HS1⟩
  case round =>
    obtain ⟨i, hid, hk, rfl, HB, HBW, HS⟩ := hrel
    clear HB1 HBW1 HS1
    have hbuf := HB.out
    obtain ⟨m, hm⟩ : ∃ m, m = l ++ first ++ ((ss.take i).map fun s => (32 : UInt8) :: s).flatten := ⟨_, rfl⟩
    rw [← hm] at hbuf
    have hml := HLN.out i hid
    rw [← hm] at hml
    have HM := Lib.hid hm
    clear hm HB
    obtain ⟨a1, c1, hv⟩ := owns_shape hbuf.1
    subst hv
    by_cases hlt : i < ss.length
    · have hlt' : (i : Int) < (ss.length : Int) := by omega
      have hcell : wr.cell? ⟨sb, i, none⟩ = some (.string (bs ss[i])) := by rw [cell_blk HS.out]; simp [hlt]
      have hlb := lt_blk HS.out
      have hml2 := HLN.out (i + 1) hlt
      have hnew : l ++ first ++ ((ss.take (i + 1)).map fun s => (32 : UInt8) :: s).flatten = m ++ [32] ++ ss[i] := by
        rw [List.take_succ_eq_append_getElem hlt, List.map_append, List.flatten_append, HM.out]
        simp
      rw [hnew] at hml2
      have HNEW := Lib.hid hnew
      clear hnew
      generalize ss[i] = x at hcell hml2 HNEW
      have hml3 : m.length + 1 + x.length ≤ 1000000000 := by simp only [List.length_append, List.length_cons, List.length_nil] at hml2; omega
      clear hml2
      go_wp2_with (at_builtin; refine wpList_byte rfl _ _ rfl hbuf 32 32 rfl rfl rfl ?c1 ?_)
      case c1 => omega
      intro v2 w2 hb2 hbel2
      have HS2 := Lib.hid (hbel2.keeps HS.out (by decide))
      have HBW2 := Lib.hid (HBW.out.trans hbel2)
      clear hbuf hbel2 HS HBW hcell
      go_wp2_with (at_builtin; refine wpList_str rfl _ _ rfl hb2 x rfl rfl ?c2 ?_)
      case c2 => simp only [List.length_append, List.length_cons, List.length_nil]; omega
      intro v3 w3 hb3 hbel3
      have HB3 : Hid (Buf kk w3 B v3 (l ++ first ++ ((ss.take (i + 1)).map fun s => (32 : UInt8) :: s).flatten)) := by unfold Hid; rw [HNEW.out]; simpa using hb3
      have HBW3 := Lib.hid (HBW2.out.trans hbel3)
      have HS3 := Lib.hid (hbel3.keeps HS2.out (by decide))
      clear hb2 hb3 hbel3 HS2 HBW2
      go_wp2_with fail
      go_roundg (ss.length - (i + 1))
      case measure => omega
      case rel => exact ⟨i + 1, by omega, rfl, by go_num, HB3, HBW3, HS3⟩
    · have hlt' : ¬ (i : Int) < (ss.length : Int) := by omega
      have e : i = ss.length := by omega
      go_wp2_with (at_builtin; refine wpList_byte rfl _ _ rfl hbuf 10 10 rfl rfl rfl ?c1 ?_)
      case c1 => omega
      intro v2 w2 hb2 hbel2
      have HB2 : Hid (Buf kk w2 B v2 (l ++ Tp.wordsL first ss)) := by
        unfold Hid Tp.wordsL
        rw [HM.out, e, List.take_length] at hb2
        simpa using hb2
      have HBW2 := Lib.hid (HBW.out.trans hbel2)
      clear hb2 hbel2 hbuf
      go_wp2_with fail
      go_ret
      exact ⟨_, rfl, HB2.out, HBW2.out⟩
end Go.Proofs.YtfcdphgggdioeaaGreatDoor
/- Writing what others see: addSym. -/
namespace Go.Proofs.YtfcdphgggdioeaaGreatDoor
open Go.RowKit
variable {kk : Nat → Prop}
open Tp (Sy)

theorem cell_box3 {w : World} {b : Nat} {v0 v1 v2 : Value} {t : TypeId} (h : w.heap[b]? = some (.cells #[v0, v1, v2] t (0, 0))) : w.cell? ⟨b, 0, none⟩ = some v0 ∧ w.cell? ⟨b, 1, none⟩ = some v1 ∧ w.cell? ⟨b, 2, none⟩ = some v2 :=
  ⟨(cell_blk h).trans rfl, (cell_blk h).trans rfl, (cell_blk h).trans rfl⟩
set_option maxRecDepth 100000 in
set_option maxHeartbeats 2000000 in
theorem addSym_post (s : Sy) (h1 : s.2.1 < 100) (h2 : s.2.2 < 100) (h3 : -1 ≤ s.2.2) {w : World} {B : Nat} {v : Value} {l : List UInt8} (hb : Buf kk w B v l) (hl : (l ++ Tp.lineOf s).length ≤ 1000000000) :
    Calls Tryz.prog 78 #[v, .agg #[.string (bs s.1), .int .i64 (s.2.1 : Int), .int .i64 s.2.2]] w (Wrote kk B w (l ++ Tp.lineOf s)) := by
  obtain ⟨nm, len, args⟩ := s
  simp only at h1 h2 h3 ⊢
  unfold Tp.lineOf at hl ⊢
  simp only at hl ⊢
  have hal : ∀ ob, Below w.heap.size w (w.alloc ob) := fun ob => (Below.refl _ _).alloc (Nat.le_refl _) _
  have hblk : (w.alloc (.cells #[.string (bs nm), .int .i64 (len : Int), .int .i64 args] 116)).heap[w.heap.size]? = some (.cells #[.string (bs nm), .int .i64 (len : Int), .int .i64 args] 116 (0, 0)) := new_blk _ _
  obtain ⟨k0, k1, k2⟩ := cell_box3 hblk
  by_cases ha : 0 ≤ args
  · rw [if_pos ha] at hl ⊢
    obtain ⟨an, rfl⟩ : ∃ an : Nat, args = an := ⟨args.toNat, by omega⟩
    have e : ((an : Int)).toNat = an := by simp
    rw [e] at hl ⊢
    have hit := fun W => itoa_post W an (by omega)
    obtain ⟨ds, hds⟩ : ∃ ds, ds = Tp.dec an := ⟨_, rfl⟩
    rw [← hds] at hl hit ⊢
    obtain ⟨mf, hmf⟩ : ∃ mf, mf = l ++ Tp.wordsL Tp.wProc [nm, ds] := ⟨_, rfl⟩
    rw [← hmf]
    have HMF := Lib.hid hmf
    have HL := Lib.hid hl
    have HI : Hid (∀ W, Calls Tryz.prog 82 #[.int .i64 (an : Int)] W fun e w' => e = .returned (.string (bs ds)) ∧ w' = W) := hit
    clear hit hmf hl hds e
    have hD : Below w.heap.size w ((w.alloc (.cells #[.string (bs nm), .int .i64 (len : Int), .int .i64 (an : Int)] 116)).alloc (.cells #[.string (bs nm), .string (bs ds)] 9)).drew := ((hal _).alloc (by simp) _).drew
    have hA := addLine_post (hb.below hD) Tp.wProc [nm, ds] (w.heap.size + 1) 2 (new_blk1 _ _ _) (by simp) HL.out
    have HA : Hid (Calls Tryz.prog 79 #[v, .string ⟨#[112, 114, 111, 99]⟩, .slice (some ⟨w.heap.size + 1, 0, none⟩) 2 2] ((w.alloc (.cells #[.string (bs nm), .int .i64 (len : Int), .int .i64 (an : Int)] 116)).alloc (.cells #[.string (bs nm), .string (bs ds)] 9)).drew (Wrote kk B ((w.alloc (.cells #[.string (bs nm), .int .i64 (len : Int), .int .i64 (an : Int)] 116)).alloc (.cells #[.string (bs nm), .string (bs ds)] 9)).drew mf)) := by rw [HMF.out]; exact hA
    have HBW : Hid (Bw kk B w ((w.alloc (.cells #[.string (bs nm), .int .i64 (len : Int), .int .i64 (an : Int)] 116)).alloc (.cells #[.string (bs nm), .string (bs ds)] 9)).drew) := Bw.of (kk := kk) hD hb.2
    have HK : Hid (((w.alloc (.cells #[.string (bs nm), .int .i64 (len : Int), .int .i64 (an : Int)] 116)).alloc (.cells #[.string (bs nm), .string (bs ds)] 9)).drew.heap[w.heap.size]? = some (.cells #[.string (bs nm), .int .i64 (len : Int), .int .i64 (an : Int)] 116 (0, 0))) := (Below.heap_alloc _ _ w.heap.size (by simp)).trans hblk
    obtain ⟨j0, j1, j2⟩ := cell_box3 HK.out
    clear hA hD hb hblk
    go_enter Tryz.func78, Tryz.ntmps78
    go_wp2_with fail
    go_region_held3 (fun w' => w'.cell? ⟨w.heap.size, 0, none⟩ = some (.string (bs nm)) ∧ w'.cell? ⟨w.heap.size, 2, none⟩ = some (.int .i64 (an : Int))) (first | (exact ⟨k0, k2⟩) | (exact ⟨j0, j2⟩) | (exact ⟨q0, q2⟩)) (first | (go_at_call 82; refine (HI.out _).mono ?_; rintro e w2 ⟨rfl, rfl⟩) | (go_at_call 79; refine HA.out.mono ?_; rintro e w3 ⟨v3, rfl, hbuf3, hbel3⟩; have hblk3 := hbel3.keeps HK.out (by decide); have HB3 := Lib.hid (HBW.out.trans hbel3); have HF3 := Lib.hid hbuf3; obtain ⟨q0, q1, q2⟩ := cell_box3 hblk3; clear hbuf3 hbel3))
    go_wp2_with fail
    go_ret
    exact ⟨_, rfl, HF3.out, HB3.out⟩

  · rw [if_neg ha] at hl ⊢
    by_cases h0 : 0 < len
    · rw [if_pos h0] at hl ⊢
      have h0' : (0 : Int) < (len : Int) := by omega
      have hit := fun W => itoa_post W len (by omega)
      obtain ⟨ds, hds⟩ : ∃ ds, ds = Tp.dec len := ⟨_, rfl⟩
      rw [← hds] at hl hit ⊢
      obtain ⟨mf, hmf⟩ : ∃ mf, mf = l ++ Tp.wordsL Tp.wArr [nm, ds] := ⟨_, rfl⟩
      rw [← hmf]
      have HMF := Lib.hid hmf
      have HL := Lib.hid hl
      have HI : Hid (∀ W, Calls Tryz.prog 82 #[.int .i64 (len : Int)] W fun e w' => e = .returned (.string (bs ds)) ∧ w' = W) := hit
      clear hit hmf hl hds
      have hD : Below w.heap.size w ((w.alloc (.cells #[.string (bs nm), .int .i64 (len : Int), .int .i64 args] 116)).alloc (.cells #[.string (bs nm), .string (bs ds)] 9)).drew := ((hal _).alloc (by simp) _).drew
      have hA := addLine_post (hb.below hD) Tp.wArr [nm, ds] (w.heap.size + 1) 2 (new_blk1 _ _ _) (by simp) HL.out
      have HA : Hid (Calls Tryz.prog 79 #[v, .string ⟨#[97, 114, 114, 97, 121]⟩, .slice (some ⟨w.heap.size + 1, 0, none⟩) 2 2] ((w.alloc (.cells #[.string (bs nm), .int .i64 (len : Int), .int .i64 args] 116)).alloc (.cells #[.string (bs nm), .string (bs ds)] 9)).drew (Wrote kk B ((w.alloc (.cells #[.string (bs nm), .int .i64 (len : Int), .int .i64 args] 116)).alloc (.cells #[.string (bs nm), .string (bs ds)] 9)).drew mf)) := by rw [HMF.out]; exact hA
      have HBW : Hid (Bw kk B w ((w.alloc (.cells #[.string (bs nm), .int .i64 (len : Int), .int .i64 args] 116)).alloc (.cells #[.string (bs nm), .string (bs ds)] 9)).drew) := Bw.of (kk := kk) hD hb.2
      have HK : Hid (((w.alloc (.cells #[.string (bs nm), .int .i64 (len : Int), .int .i64 args] 116)).alloc (.cells #[.string (bs nm), .string (bs ds)] 9)).drew.heap[w.heap.size]? = some (.cells #[.string (bs nm), .int .i64 (len : Int), .int .i64 args] 116 (0, 0))) := (Below.heap_alloc _ _ w.heap.size (by simp)).trans hblk
      obtain ⟨j0, j1, j2⟩ := cell_box3 HK.out
      clear hA hD hb hblk
      go_enter Tryz.func78, Tryz.ntmps78
      go_wp2_with fail
      go_region_held3 (fun w' => w'.cell? ⟨w.heap.size, 0, none⟩ = some (.string (bs nm)) ∧ w'.cell? ⟨w.heap.size, 1, none⟩ = some (.int .i64 (len : Int))) (first | (exact ⟨k0, k1⟩) | (exact ⟨j0, j1⟩) | (exact ⟨q0, q1⟩)) (first | (go_at_call 82; refine (HI.out _).mono ?_; rintro e w2 ⟨rfl, rfl⟩) | (go_at_call 79; refine HA.out.mono ?_; rintro e w3 ⟨v3, rfl, hbuf3, hbel3⟩; have hblk3 := hbel3.keeps HK.out (by decide); have HB3 := Lib.hid (HBW.out.trans hbel3); have HF3 := Lib.hid hbuf3; obtain ⟨q0, q1, q2⟩ := cell_box3 hblk3; clear hbuf3 hbel3))
      go_wp2_with fail
      go_ret
      exact ⟨_, rfl, HF3.out, HB3.out⟩

    · rw [if_neg h0] at hl ⊢
      have h0' : ¬ (0 : Int) < (len : Int) := by omega
      obtain ⟨mf, hmf⟩ : ∃ mf, mf = l ++ Tp.wordsL Tp.wInt [nm] := ⟨_, rfl⟩
      rw [← hmf]
      have hD : Below w.heap.size w ((w.alloc (.cells #[.string (bs nm), .int .i64 (len : Int), .int .i64 args] 116)).alloc (.cells #[.string (bs nm)] 9)) := (hal _).alloc (by simp) _
      have hA := addLine_post (hb.below hD) Tp.wInt [nm] (w.heap.size + 1) 1 (new_blk1 _ _ _) (by simp) hl
      rw [← hmf] at hA
      have HA : Hid (Calls Tryz.prog 79 #[v, .string ⟨#[105, 110, 116]⟩, .slice (some ⟨w.heap.size + 1, 0, none⟩) 1 1] ((w.alloc (.cells #[.string (bs nm), .int .i64 (len : Int), .int .i64 args] 116)).alloc (.cells #[.string (bs nm)] 9)) (Wrote kk B ((w.alloc (.cells #[.string (bs nm), .int .i64 (len : Int), .int .i64 args] 116)).alloc (.cells #[.string (bs nm)] 9)) mf)) := hA
      have HBW : Hid (Bw kk B w ((w.alloc (.cells #[.string (bs nm), .int .i64 (len : Int), .int .i64 args] 116)).alloc (.cells #[.string (bs nm)] 9))) := Bw.of (kk := kk) hD hb.2
      clear hA hD hb hblk hl hmf
      go_enter Tryz.func78, Tryz.ntmps78
      go_wp2_with fail
      refine HA.out.mono ?_
      rintro e w3 ⟨v3, rfl, hbuf3, hbel3⟩
      have HB3 := Lib.hid (HBW.out.trans hbel3)
      have HF3 := Lib.hid hbuf3
      clear hbuf3 hbel3
      go_wp2_with fail
      go_ret
      exact ⟨_, rfl, HF3.out, HB3.out⟩
end Go.Proofs.YtfcdphgggdioeaaGreatDoor
