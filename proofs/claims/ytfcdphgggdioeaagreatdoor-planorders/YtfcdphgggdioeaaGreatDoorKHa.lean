import Derived.Test.YtfcdphgggdioeaaGreatDoorKMa
import Derived.Test.YtfcdphgggdioeaaGreatDoorKShf
import Derived.Deep.QuietTactic
/- The document's Of: how what others see is put in order. -/
namespace Go.Proofs.YtfcdphgggdioeaaGreatDoor
open Go.RowKit Go.Sort Go.Shelf
open Tp (Sy)
theorem less_cmp : ∀ a b : List UInt8, Op.bytesLess a b = decide (Lib.compareBytes a b < 0) := by
  intro a
  induction a with
  | nil => intro b; cases b <;> simp [Op.bytesLess, Lib.compareBytes]
  | cons x a ih =>
    intro b
    cases b with
    | nil => simp [Op.bytesLess, Lib.compareBytes]
    | cons y b =>
      unfold Op.bytesLess Lib.compareBytes
      by_cases h1 : x < y
      · simp [h1]
      · by_cases h2 : y < x
        · have h3 : ¬ x = y := fun e => by subst e; exact h1 h2
          simp [h1, h2, h3]
        · have h3 : x = y := UInt8.le_antisymm (UInt8.not_lt.1 h2) (UInt8.not_lt.1 h1)
          subst h3
          simp [h1, ih b]
def fnLess (bl : Nat) : Value := .func (.func 61) #[] #[.pointer (some ⟨bl, 0, none⟩)]
set_option maxHeartbeats 1000000 in
theorem ofLess_post {W : World} {bl g cap n i j : Nat} (hs : W.cell? ⟨bl, 0, none⟩ = some (.slice (some ⟨g, 0, none⟩) n cap)) (hi : i < n) (hj : j < n) {x y : List UInt8} (cx : W.cell? ⟨g, i * 3, none⟩ = some (.string (bs x))) (cy : W.cell? ⟨g, j * 3, none⟩ = some (.string (bs y))) :
    Calls Tryz.prog 61 #[.int .i64 (i : Int), .int .i64 (j : Int), .pointer (some ⟨bl, 0, none⟩)] W fun e w' => e = .returned (.bool (Op.bytesLess x y)) ∧ ∃ q, w' = W.drewN q := by
  have hb := lt_of_cell hs
  have hg := lt_of_cell cx
  have hi' : (i : Int) < (n : Int) := by omega
  have hj' : (j : Int) < (n : Int) := by omega
  have e : Op.bytesLess (bs x).toList (bs y).toList = Op.bytesLess x y := by rw [bs_toList, bs_toList]
  generalize bs x = X at *
  generalize bs y = Y at *
  go_enter Tryz.func61, Tryz.ntmps61
  go_wp2
  go_quiet (fail)
  go_wp2
  go_ret
  exact ⟨by rw [← e]; rfl, nq, rfl⟩
end Go.Proofs.YtfcdphgggdioeaaGreatDoor
/- The document's Of: sort.SliceStable of what others see. -/
namespace Go.Proofs.YtfcdphgggdioeaaGreatDoor
open Go.RowKit Go.Sort Go.Shelf Go.Lib
open Tp (Sy)
def ltS (x y : Sy) : Bool := Op.bytesLess x.1 y.1
theorem ltS_eq : ltOf cfS = ltS := by
  funext x y
  show decide (cfS x y < 0) = _
  unfold ltS cfS
  rw [less_cmp]
theorem enc3 (x : Sy) : (encSy x).length = 3 := rfl
theorem encOne (x : Sy) : ∀ v ∈ encSy x, v.oneCell' = true := fun v hv => by simp [encSy] at hv; rcases hv with rfl | rfl | rfl <;> rfl
theorem lessReads {w : World} {g cap bl : Nat} {l : List Sy} (h : SyRow w g cap l) (hb : w.cell? ⟨bl, 0, none⟩ = some (.slice (some ⟨g, 0, none⟩) l.length cap)) (hne : bl ≠ g) :
    LessReadsK Tryz.prog 61 #[.pointer (some ⟨bl, 0, none⟩)] encSy 3 ltS g 0 l.length w := by
  intro m os dk hs i j hi hj
  have hg : g < w.heap.size := by obtain ⟨cur, h1, _⟩ := h.b; exact lt_blk h1
  have hH : HoldsK encSy 3 (sortWorldK encSy 3 w g 0 m dk os) g 0 dk := by
    unfold sortWorldK
    exact holdsK_grow _ _ _ _ _ _ _ (by simpa [putRowK] using hg) (holdsK_putRowK _ _ _ _ _ l.toArray dk (holdsK_ahead _ _ _ _ _ _ _ h.holds) (by simpa using hs))
  have hbl : (sortWorldK encSy 3 w g 0 m dk os).cell? ⟨bl, 0, none⟩ = some (.slice (some ⟨g, 0, none⟩) l.length cap) := by
    unfold sortWorldK
    rw [cell?_grow _ _ _ (by simpa [putRowK] using lt_of_cell hb), cell?_putRowK_other _ _ _ _ _ _ _ hne]
    exact hb
  have ci := (hH.cell (i := i) (c := 0) (by omega) (by omega)).1
  have cj := (hH.cell (i := j) (c := 0) (by omega) (by omega)).1
  simp only [Nat.zero_add, Nat.add_zero] at ci cj
  exact ofLess_post hbl hi hj ci cj
theorem swap9 (args : Array Value) (W : World) : (callFunc 121 args).run Tryz.prog W = ((Extern.ReflectliteSwapper.swap false args).run Tryz.prog W).andThen fun v w' => .ok (.value v) w' :=
  run_callFunc_extern Tryz.func121 (by kernel_rfl) (by kernel_rfl) (by kernel_rfl) (e := Extern.ReflectliteSwapper.swap false) (by kernel_rfl) args W
theorem siE : ∃ ie, Tryz.prog.info? 116 = some ie ∧ ie.size = 3 ∧ ie.hasPointers = true ∧ ie.bytes = 32 := by
  have h : (Tryz.prog.info? 116).map (fun i => (i.size, i.hasPointers, i.bytes)) = some (3, true, 32) := by kernel_rfl
  rw [Option.map_eq_some_iff] at h
  obtain ⟨ie, h1, h2⟩ := h
  simp only [Prod.mk.injEq] at h2
  exact ⟨ie, h1, h2⟩
theorem siK {ie : TypeInfo} (a : ie.hasPointers = true) (b : ie.bytes = 32) (n : Nat) (h2 : 2 ≤ n) : Lib.swapperK n ie 25 = 9 := by
  have c : (n == 0) = false := by simp; omega
  have d : (n == 1) = false := by simp; omega
  simp [Lib.swapperK, a, b, c, d]
theorem hdl : typeHandle Tryz.prog 116 = .pointer (some ⟨9, 116, none⟩) := by kernel_rfl
def fnSwap (g n cap : Nat) : Value := .func (.func 121) #[] #[.slice (some ⟨g, 0, none⟩) n cap, .pointer (some ⟨9, 116, none⟩)]
theorem swapsS (g n cap : Nat) : SwapSwapsK Tryz.prog 121 #[.slice (some ⟨g, 0, none⟩) n cap, .pointer (some ⟨9, 116, none⟩)] encSy 3 g 0 n := by
  obtain ⟨ie, h1, h2, _⟩ := siE
  rw [← hdl]
  exact swapSwapsK_of_literal false _ swap9 116 ie h1 encSy 3 enc3 h2 (fun w => Tryz.isAgg116 w) encOne g 0 n cap
theorem lessEnters : ∀ args w, (callFunc 61 args).run Tryz.prog w = .ok (.enter 61 args) w := enters_of Tryz.func61 (by kernel_rfl) rfl
theorem sins_post {w : World} {g cap bl : Nat} {l : List Sy} (h : SyRow w g cap l) (hb : w.cell? ⟨bl, 0, none⟩ = some (.slice (some ⟨g, 0, none⟩) l.length cap)) (hne : bl ≠ g) (a b : Nat) (hab : a ≤ b) (hbl : b ≤ l.length) (hl : l.length ≤ 1000) :
    Calls Tryz.prog 122 #[.agg #[fnLess bl, fnSwap g l.length cap], .int .i64 (a : Int), .int .i64 (b : Int)] w fun e w' => e = .returned (.tuple #[]) ∧ ∃ n os, w' = sortWorldK encSy 3 w g 0 n (Sort.insertionSort ltS l.toArray a b) os := by
  have hg : g < w.heap.size := by obtain ⟨cur, h1, _⟩ := h.b; exact lt_blk h1
  have es : l.toArray.size = l.length := by simp
  have LI : LaysGg.n26 Tryz.prog Tryz.laysSS_ren.viaGt := ({ Tryz.laysSS with } : LaysGt.n29 Tryz.prog Tryz.laysSS_ren).elder
  have hc := Any.insertionSort_func_cells LI encSy 3 enc3 ltS 61 #[.pointer (some ⟨bl, 0, none⟩)] 121 #[.slice (some ⟨g, 0, none⟩) l.length cap, .pointer (some ⟨9, 116, none⟩)] g 0 a b l.toArray w lessEnters (by rw [es]; exact lessReads h hb hne) (by rw [es]; exact swapsS g l.length cap) h.holds hg hab (by omega) (by omega)
  refine Calls.mono (show Calls Tryz.prog 122 _ w _ from hc) ?_
  rintro e w' ⟨rfl, n, rfl⟩
  exact ⟨rfl, n, _, by unfold sortWorldK; rw [alloc_eq_grow, ahead_grow, putRowK_grow _ _ _ _ _ _ _ (by simpa using hg)]⟩
end Go.Proofs.YtfcdphgggdioeaaGreatDoor
/- The document's Of: sort.stable_func, sort.SliceStable of what others see. -/
namespace Go.Proofs.YtfcdphgggdioeaaGreatDoor
open Go.RowKit Go.Sort Go.Shelf Go.Lib
open Tp (Sy)
/- a row and, beside it, a variable that leads to it -/
structure SyBox (w : World) (g cap bl : Nat) (l : List Sy) : Prop where
  row : SyRow w g cap l
  box : w.cell? ⟨bl, 0, none⟩ = some (.slice (some ⟨g, 0, none⟩) l.length cap)
  ne : bl ≠ g
theorem SyBox.lt {w : World} {g cap bl : Nat} {l : List Sy} (h : SyBox w g cap bl l) : g < w.heap.size := by obtain ⟨cur, h1, _⟩ := h.row.b; exact lt_blk h1
theorem SyBox.on {w w' : World} {g cap bl : Nat} {l : List Sy} (h : SyBox w g cap bl l) (k : Below w.heap.size w w') : SyBox w' g cap bl l := by
  obtain ⟨cur, h1, h2⟩ := h.row.b
  exact ⟨⟨⟨cur, (k.block g h.lt).trans h1, h2⟩, h.row.n, h.row.m⟩, (k.cell (p := ⟨bl, 0, none⟩) (lt_of_cell h.box)).trans h.box, h.ne⟩
theorem SyBox.sorted {w : World} {g cap bl n : Nat} {l : List Sy} {d : Array Sy} {os : Array Obj} (h : SyBox w g cap bl l) (hs : d.size = l.length) : SyBox (sortWorldK encSy 3 w g 0 n d os) g cap bl d.toList ∧ w.grownBy (sortWorldK encSy 3 w g 0 n d os) (some g) := by
  obtain ⟨h1, h2⟩ := h.row.sorted (n := n) (os := os) hs
  refine ⟨⟨h1, ?_, h.ne⟩, h2⟩
  unfold sortWorldK
  rw [cell?_grow _ _ _ (by simpa [putRowK] using lt_of_cell h.box), cell?_putRowK_other _ _ _ _ _ _ _ h.ne]
  rw [Array.length_toList, hs]
  exact h.box
def SsQ (w : World) (g cap bl : Nat) (l : List Sy) (e : Ending) (w' : World) : Prop := e = .returned (.tuple #[]) ∧ SyBox w' g cap bl l ∧ w.grownBy w' (some g)
theorem sins2 {w : World} {g cap bl : Nat} {l : List Sy} (h : SyBox w g cap bl l) (a b : Nat) (hab : a ≤ b) (hbl : b ≤ l.length) (hl : l.length ≤ 1000) :
    Calls Tryz.prog 122 #[.agg #[fnLess bl, fnSwap g l.length cap], .int .i64 (a : Int), .int .i64 (b : Int)] w (SsQ w g cap bl (insS l a b)) := by
  refine (sins_post h.row h.box h.ne a b hab hbl hl).mono ?_
  rintro e w' ⟨rfl, n, os, rfl⟩
  have e1 : Sort.insertionSort ltS l.toArray a b = (insS l a b).toArray := by unfold insS; rw [ltS_eq]
  rw [e1]
  have := h.sorted (d := (insS l a b).toArray) (n := n) (os := os) (by simp [insS_len])
  exact ⟨rfl, this.1, this.2⟩
theorem grown_tr {w w1 w2 : World} {g : Nat} (h : Below w.heap.size w w1) (k : w1.grownBy w2 (some g)) : w.grownBy w2 (some g) :=
  ⟨k.os.trans h.os, k.tape.trans h.tape, k.output.trans h.output, Nat.le_trans h.size k.size, fun i hi hne => (k.block i (Nat.lt_of_lt_of_le hi h.size) hne).trans (h.block i hi)⟩
set_option maxRecDepth 100000 in
set_option maxHeartbeats 1000000 in
theorem sstab_small {w : World} {g cap bl : Nat} {l : List Sy} (h : SyBox w g cap bl l) (hn : l.length < 20) :
    Calls Tryz.prog 85 #[.agg #[fnLess bl, fnSwap g l.length cap], .int .i64 (l.length : Int)] w (SsQ w g cap bl (srt l)) := by
  have hn' : (l.length : Int) < 20 := by omega
  have hal : ∀ ob, Below w.heap.size w (w.alloc ob) := fun ob => (Below.refl _ _).alloc (Nat.le_refl _) _
  have HC : Hid (∀ ob, Calls Tryz.prog 122 #[.agg #[fnLess bl, fnSwap g l.length cap], .int .i64 0, .int .i64 (l.length : Int)] (w.alloc ob) (SsQ w g cap bl (srt l))) := fun ob => (sins2 (h.on (hal ob)) 0 l.length (by omega) (Nat.le_refl _) (by omega)).mono fun e w' q => ⟨q.1, q.2.1, grown_tr (hal ob) q.2.2⟩
  clear h hal
  generalize srt l = sl at *
  generalize l.length = n at *
  generalize fnLess bl = FL at *
  generalize fnSwap g n cap = FS at *
  go_enter Tryz.func85, Tryz.ntmps85
  go_wp2_with fail
  refine wp_loop_rounds 1 ?_
  rw [rounds_succ]
  go_wp2_with fail
  refine (HC.out _).mono ?_
  rintro e w1 ⟨rfl, h1⟩
  have H1 := Lib.hid h1
  clear h1
  go_wp2_with fail
  refine wp_loop_rounds 1 ?_
  rw [rounds_succ]
  go_wp2_with fail
  go_end0
  exact ⟨rfl, H1.out⟩
end Go.Proofs.YtfcdphgggdioeaaGreatDoor
/- The document's Of: sort.SliceStable of what others see. -/
namespace Go.Proofs.YtfcdphgggdioeaaGreatDoor
open Go.RowKit Go.Sort Go.Shelf Go.Lib
open Tp (Sy)
theorem grown_both {w w1 w2 : World} {g : Nat} (h : w.grownBy w1 (some g)) (k : w1.grownBy w2 (some g)) : w.grownBy w2 (some g) := h.trans k
set_option maxRecDepth 100000 in
set_option maxHeartbeats 1000000 in
theorem sstab_20 {w : World} {g cap bl : Nat} {l : List Sy} (h : SyBox w g cap bl l) (hn : l.length = 20) :
    Calls Tryz.prog 85 #[.agg #[fnLess bl, fnSwap g l.length cap], .int .i64 (l.length : Int)] w (SsQ w g cap bl (srt l)) := by
  have hal : ∀ ob, Below w.heap.size w (w.alloc ob) := fun ob => (Below.refl _ _).alloc (Nat.le_refl _) _
  have HAL := Lib.hid hal
  have hgl := h.lt
  have HC : Hid (∀ ob, Calls Tryz.prog 122 #[.agg #[fnLess bl, fnSwap g 20 cap], .int .i64 0, .int .i64 20] (w.alloc ob) (SsQ (w.alloc ob) g cap bl (srt l))) := fun ob => by
    have := sins2 (h.on (hal ob)) 0 l.length (by omega) (Nat.le_refl _) (by omega)
    rw [hn] at this
    refine this.mono fun e w' q => ?_
    unfold srt
    rw [hn]
    exact q
  have HC2 : Hid (∀ W, SyBox W g cap bl (srt l) → Calls Tryz.prog 122 #[.agg #[fnLess bl, fnSwap g 20 cap], .int .i64 20, .int .i64 20] W (SsQ W g cap bl (srt l))) := fun W hW => by
    have := sins2 hW 20 20 (Nat.le_refl _) (by rw [srt_len]; omega) (by rw [srt_len]; omega)
    rw [srt_len, hn, insS_none] at this
    exact this
  rw [hn]
  clear h hal
  generalize srt l = sl at *
  generalize fnLess bl = FL at *
  generalize fnSwap g 20 cap = FS at *
  go_enter Tryz.func85, Tryz.ntmps85
  go_wp2_with fail
  refine wp_loop_rounds 2 ?_
  rw [rounds_succ]
  go_wp2_with fail
  refine (HC.out _).mono ?_
  rintro e w1 ⟨rfl, h1, g1⟩
  have hbk : w1.heap[w.heap.size]? = some (.cells #[FL, FS] 158 (0, 0)) := (g1.block w.heap.size (by simp) (fun e => by injection e with e; omega)).trans (new_blk w _)
  have H1 := Lib.hid h1
  have HG := Lib.hid (grown_tr (HAL.out _) g1)
  have HC3 := Lib.hid (HC2.out w1 h1)
  have c0 : w1.cell? ⟨w.heap.size, 0, none⟩ = some FL := cell_blk hbk
  have c1 : w1.cell? ⟨w.heap.size, 1, none⟩ = some FS := cell_blk hbk
  have hlb := lt_blk hbk
  clear h1 g1 HC HC2 hbk
  obtain ⟨bb, hbb⟩ : ∃ bb, bb = w.heap.size := ⟨_, rfl⟩
  rw [← hbb] at c0 c1 hlb ⊢
  clear hbb
  go_wp2_with fail
  rw [rounds_succ]
  go_wp2_with fail
  refine HC3.out.mono ?_
  rintro e w2 ⟨rfl, h2, g2⟩
  have H2 := Lib.hid h2
  have HG2 := Lib.hid (grown_both HG.out g2)
  clear h2 g2 c0 c1 hlb HC3
  go_wp2_with fail
  refine wp_loop_rounds 1 ?_
  rw [rounds_succ]
  go_wp2_with fail
  go_end0
  exact ⟨rfl, H2.out, HG2.out⟩
theorem sstab {w : World} {g cap bl : Nat} {l : List Sy} (h : SyBox w g cap bl l) (hn : l.length ≤ 20) :
    Calls Tryz.prog 85 #[.agg #[fnLess bl, fnSwap g l.length cap], .int .i64 (l.length : Int)] w (SsQ w g cap bl (srt l)) := by
  by_cases e : l.length = 20
  · exact sstab_20 h e
  · exact sstab_small h (by omega)
theorem siT : ∃ i, Tryz.prog.info? 81 = some i ∧ i.desc = .slice 116 := by
  have h : (Tryz.prog.info? 81).map (fun i => i.desc) = some (.slice 116) := by kernel_rfl
  rw [Option.map_eq_some_iff] at h
  exact h
theorem sslice_post {w : World} {g cap bl : Nat} {l : List Sy} (h : SyBox w g cap bl l) (h2 : 2 ≤ l.length) (hn : l.length ≤ 20) :
    Calls Tryz.prog 60 #[.iface 81 (.slice (some ⟨g, 0, none⟩) l.length cap), fnLess bl] w (SsQ w g cap bl (srt l)) := by
  obtain ⟨i, hi, hd⟩ := siT
  obtain ⟨ie, hie, hz, hp, hb⟩ := siE
  have hB : sliceBound Tryz.prog 116 ie 25 (some ⟨g, 0, none⟩) l.length cap = #[.slice (some ⟨g, 0, none⟩) l.length cap, .pointer (some ⟨9, 116, none⟩)] := by
    unfold sliceBound; rw [if_neg (swapperK_gt _ _ _ h2), hdl]
  have hW : Below w.heap.size w (stableWorld Tryz.prog Tryz.laysSS_ren 81 (some ⟨g, 0, none⟩) l.length cap w) := by
    unfold stableWorld
    exact ((Below.refl _ _).alloc (Nat.le_refl _) _).alloc (by simp) _
  have hs := sstab (h.on hW) hn
  refine Calls.mono (Any.sort_SliceStable_of_stable Tryz.laysSS 81 116 i ie hi hd (by kernel_rfl) hie 25 (fun _ => by kernel_rfl) (some ⟨g, 0, none⟩) l.length cap (by omega) 121 (by rw [siK hp hb _ h2]; kernel_rfl) (.func 61) #[] #[.pointer (some ⟨bl, 0, none⟩)] w (fun w' => SyBox w' g cap bl (srt l) ∧ w.grownBy w' (some g)) ?_) (fun e w' q => q)
  rw [hB]
  exact Calls.mono hs fun e w' q => ⟨q.1, q.2.1, grown_tr hW q.2.2⟩
theorem sslice_tiny (w : World) (p : Option Addr) (n c bl : Nat) (hn : n ≤ 1) :
    Calls Tryz.prog 60 #[.iface 81 (.slice p n c), fnLess bl] w fun e w' => e = .returned (.tuple #[]) ∧ Below w.heap.size w w' := by
  obtain ⟨i, hi, hd⟩ := siT
  obtain ⟨ie, hie, hz, hp, hb⟩ := siE
  have key : ∀ f, Tryz.prog.funcs.findIdx? (·.name == "internal/reflectlite" ++ ".Swapper$" ++ toString (swapperK n ie 25)) = some f → Calls Tryz.prog 60 #[.iface 81 (.slice p n c), fnLess bl] w fun e w' => e = .returned (.tuple #[]) ∧ Below w.heap.size w w' := fun f hf => by
    refine Calls.mono (Any.sort_SliceStable_tiny Tryz.laysSS 81 116 i ie hi hd (by kernel_rfl) hie 25 (fun _ => by kernel_rfl) p n c hn f hf (.func 61) #[] #[.pointer (some ⟨bl, 0, none⟩)] w) ?_
    rintro e w' ⟨rfl, os, rfl⟩
    exact ⟨rfl, rfl, rfl, rfl, by simp [grow], fun i hi => by simp [grow, Array.getElem?_append, hi]⟩
  have hk : swapperK n ie 25 = if n = 0 then 1 else 2 := by
    unfold swapperK
    rcases (show n = 0 ∨ n = 1 by omega) with rfl | rfl <;> simp
  rcases (show n = 0 ∨ n = 1 by omega) with rfl | rfl
  · exact key 113 (by rw [hk]; kernel_rfl)
  · exact key 114 (by rw [hk]; kernel_rfl)
end Go.Proofs.YtfcdphgggdioeaaGreatDoor
/- The document's Of, walked. -/
namespace Go.Proofs.YtfcdphgggdioeaaGreatDoor
open Go.RowKit Go.Sort
open Tp (Sy)
/- a variable of its own (block bl) that holds what was gathered -/
structure LB (w0 : World) (bl : Nat) (l : List Sy) (v : Value) (w : World) : Prop where
  box : w.heap[bl]? = some (.cells #[v] 81 (0, 0))
  own : w.ownsRow (bl + 1) 116 3 v l.length (sycs l)
  bel : Below bl w0 w
  le : w0.heap.size ≤ bl
theorem LB.lt {w0 w : World} {bl : Nat} {l : List Sy} {v : Value} (h : LB w0 bl l v w) : bl < w.heap.size := lt_blk h.box
theorem LB.new (w0 : World) : LB w0 w0.heap.size [] (.slice none 0 0) (w0.alloc (.cells #[.slice none 0 0] 81)) := ⟨new_blk _ _, World.ownsRow_nil _ _ _ _, (Below.refl _ _).alloc (Nat.le_refl _) _, Nat.le_refl _⟩
theorem LB.on {w0 w w' : World} {bl : Nat} {l : List Sy} {v : Value} (h : LB w0 bl l v w) (k : Below w.heap.size w w') : LB w0 bl l v w' := ⟨(k.block bl h.lt).trans h.box, owns_below h.own k, h.bel.trans (k.mono (Nat.le_of_lt h.lt)), h.le⟩
theorem LB.put {w0 w w3 : World} {bl : Nat} {l l' : List Sy} {v v3 : Value} (h : LB w0 bl l v w) (hg : w.grownBy w3 v.ownBlock) (ho : w3.ownsRow (bl + 1) 116 3 v3 l'.length (sycs l')) : LB w0 bl l' v3 (w3.setCell ⟨bl, 0, none⟩ v3) := by
  have hne : v.ownBlock ≠ some bl := fun e => by have := (h.own.lt bl e).1; omega
  have hb3 : w3.heap[bl]? = some (.cells #[v] 81 (0, 0)) := (hg.block bl h.lt hne.symm).trans h.box
  have hx : Ext bl w3 (w3.setCell ⟨bl, 0, none⟩ v3) := (Ext.refl bl w3).set 0 v3
  refine ⟨?_, owns_ext ho hx (by omega), ?_, h.le⟩
  · have := set_blk 0 v3 hb3
    simpa using this
  · exact below_set (h.bel.grown hg (Nat.le_of_lt h.lt) (fun k hk => by have := (h.own.lt k hk).1; omega)) (Nat.le_refl _) 0 v3
end Go.Proofs.YtfcdphgggdioeaaGreatDoor
/- The document's Of, walked. -/
namespace Go.Proofs.YtfcdphgggdioeaaGreatDoor
open Go.RowKit Go.Sort
open Tp (Sy)
theorem srt_one {l : List Sy} (h : l.length ≤ 1) : srt l = l := by
  unfold srt insS Sort.insertionSort
  rw [Sort.insOuter, if_neg (by omega)]
set_option maxRecDepth 100000 in
set_option maxHeartbeats 4000000 in
theorem rof_walk {w : World} {nm : List UInt8} {inn gn pn bn ic gc pc bc : Nat} {ia ga pa ba : Option Addr} {mg mp : Nat → List Sy} (hg0 : mg 0 = []) (hG : AskOG w gn ga mg) (hp0 : mp 0 = mg gn) (hP : AskOP w pn pa mp) (hgl : ∀ i, (mg i).length ≤ 1000) (hpl : ∀ i, (mp i).length ≤ 1000) (hlast : (mp pn).length ≤ 20) (hgn : gn ≤ 1000000000) (hpn : pn ≤ 1000000000) :
    Calls Tryz.prog 37 #[.agg #[.string (bs nm), .slice ia inn ic, .slice ga gn gc, .slice pa pn pc, .slice ba bn bc]] w fun e w' => ∃ v, e = .returned v ∧ Below w.heap.size w w' ∧ SL w' w.heap.size v (srt (mp pn)) := by
  obtain ⟨i3, hi3, hz30, hz31, hz32⟩ := info_parts Tryz.infoSym
  obtain ⟨w0, hw0⟩ : ∃ w0, w0 = w.alloc (.cells #[.string (bs nm), .slice ia inn ic, .slice ga gn gc, .slice pa pn pc, .slice ba bn bc] 28) := ⟨_, rfl⟩
  have hb0 : Below w.heap.size w w0 := by rw [hw0]; exact (Below.refl _ _).alloc (Nat.le_refl _) _
  have hblk : w0.heap[w.heap.size]? = some (.cells #[.string (bs nm), .slice ia inn ic, .slice ga gn gc, .slice pa pn pc, .slice ba bn bc] 28 (0, 0)) := by rw [hw0]; exact new_blk _ _
  have hs0 : w0.heap.size = w.heap.size + 1 := by rw [hw0]; simp
  have hLB0 := LB.new w0
  have HLB0 : Hid (LB w0 (w.heap.size + 1) [] (.slice none 0 0) ((w.alloc (.cells #[.string (bs nm), .slice ia inn ic, .slice ga gn gc, .slice pa pn pc, .slice ba bn bc] 28)).alloc (.cells #[.slice none 0 0] 81))) := by
    rw [hs0, hw0] at hLB0
    rw [hw0]
    exact hLB0
  have k2 : ((w.alloc (.cells #[.string (bs nm), .slice ia inn ic, .slice ga gn gc, .slice pa pn pc, .slice ba bn bc] 28)).alloc (.cells #[.slice none 0 0] 81)).cell? ⟨w.heap.size, 2, none⟩ = some (.slice ga gn gc) := by
    rw [← hw0]
    exact cell_alloc (cell_blk hblk) _
  obtain ⟨mb, hmb⟩ : ∃ mb, mb = w.heap.size := ⟨_, rfl⟩
  obtain ⟨bl, hbl⟩ : ∃ bl, bl = w.heap.size + 1 := ⟨_, rfl⟩
  have hmbl : mb < bl := by omega
  have HG0 := Lib.hid hg0
  have HG := Lib.hid hG
  have HP0 := Lib.hid hp0
  have HP := Lib.hid hP
  have HLA := Lib.hid hlast
  have HGL := Lib.hid hgl
  have HPL := Lib.hid hpl
  have HB0 := Lib.hid hb0
  have HK : Hid (w0.heap[mb]? = some (.cells #[.string (bs nm), .slice ia inn ic, .slice ga gn gc, .slice pa pn pc, .slice ba bn bc] 28 (0, 0))) := by rw [hmb]; exact hblk
  have HS0 : Hid (w0.heap.size = bl) := by rw [hbl]; exact hs0
  have HMB := Lib.hid hmb
  have hgn' : (gn : Int) ≤ 1000000000 := by omega
  have hpn' : (pn : Int) ≤ 1000000000 := by omega
  clear hg0 hG hp0 hP hlast hgl hpl hblk hb0 hs0 hLB0 hw0
  go_enter Tryz.func37, Tryz.ntmps37
  go_wp2_with fail
  rw [← hbl] at HLB0
  rw [← hmb]
  rw [show mb + 1 = bl by omega]
  clear k2 hmb hbl
  go_loopg [11] gn (fun k vi wr => ∃ (i : Nat) (v : Value), i ≤ gn ∧ k = gn - i ∧ vi = .int .i64 (i : Int) ∧ Hid (LB w0 bl (mg i) v wr))
  case atStart => exact ⟨0, .slice none 0 0, by omega, by omega, rfl, by rw [HG0.out]; exact HLB0⟩
  case round =>
    obtain ⟨i, v, hid, hk, rfl, HL⟩ := hrel
    have hL := HL.out
    have hml := HGL.out i
    by_cases hlt : i < gn
    · have hlt' : (i : Int) < (gn : Int) := by omega
      obtain ⟨g, x0, x1, x2, x3, hga, hgB, c0, c1', c2, c3, hx⟩ := HG.out i hlt
      subst hga
      have hcell : ∀ (o : Nat) (u : Value), w.cell? ⟨g, o, none⟩ = some u → wr.cell? ⟨g, o, none⟩ = some u := fun o u h => (hL.bel.cell (p := ⟨g, o, none⟩) (by show g < bl; have := HS0.out; have := HB0.out.size; have := HMB.out; omega)).trans ((HB0.out.cell (p := ⟨g, o, none⟩) hgB).trans h)
      have kc0 := hcell _ _ c0
      have kc1 := hcell _ _ c1'
      have kc2 := hcell _ _ c2
      have kc3 := hcell _ _ c3
      have hlgr : g < wr.heap.size := lt_of_cell kc0
      obtain ⟨a1, cc1, hv⟩ := owns_shape hL.own
      subst hv
      clear c0 c1' c2 c3 hcell
      cases x3 with
      | true =>
        have hLA := (hL.on ((Below.refl wr.heap.size wr).alloc (Nat.le_refl _) (.cells #[.string (bs x0), .int .i64 (x1 : Int), .int .i64 (x2 : Int), .bool true] 59)))
        have hLA2 := hLA.on ((Below.refl _ _).alloc (Nat.le_refl _) (.cells #[.string (bs x0), .int .i64 (x2 : Int), .int .i64 (-1)] 116))
        have hownA := hLA2.own
        have kb : wr.cell? ⟨bl, 0, none⟩ = some (.slice a1 (mg i).length cc1) := cell_blk hL.box
        have hlb := hL.lt
        have HLA2 := Lib.hid hLA2
        clear hLA hLA2 hL HL
        go_wp2_with (at_builtin; refine wpList_append_where _ rfl _ _ 81 rfl (bl + 1) 116 i3 (.agg #[.string ⟨#[]⟩, .int .i64 0, .int .i64 0]) 3 32 Tryz.underlying81 hi3 hz30 hz31 hz32 rfl (by decide) _ _ _ rfl hownA ⟨wr.heap.size + 1, 0, none⟩ 1 1 [.string (bs x0), .int .i64 (x2 : Int), .int .i64 (-1)] rfl rfl (newsSy wr _ _ _ _ _) (by intro u hu; simp at hu; rcases hu with rfl | rfl | rfl <;> rfl) (by unfold maxLen; omega) (by omega) (by simp; omega) ?_)
        intro v3 w3 hown3 hgrow3 _
        obtain ⟨a3, cc3, rfl⟩ := owns_shape hown3
        have HL3 : Hid (LB w0 bl (mg (i + 1)) (.slice a3 ((mg i).length + 1) cc3) (w3.setCell ⟨bl, 0, none⟩ (.slice a3 ((mg i).length + 1) cc3))) := by
          refine HLA2.out.put hgrow3 ?_
          rw [show mg (i + 1) = mg i ++ [(x0, x2, (-1))] by simpa using hx, sycs_app, List.length_append]
          exact hown3
        have hb3 : w3.heap[bl]? = some (.cells #[.slice a1 (mg i).length cc1] 81 (0, 0)) := (hgrow3.block bl HLA2.out.lt (fun e => by have := (HLA2.out.own.lt bl e.symm).1; omega)).trans HLA2.out.box
        have kb3 : w3.cell? ⟨bl, 0, none⟩ = some (.slice a1 (mg i).length cc1) := cell_blk hb3
        have kf3 : w3.frozen? ⟨bl, 0, none⟩ = false := frozen_blk hb3
        have hlb3 := lt_blk hb3
        clear hown3 hgrow3 hownA HLA2 hb3
        go_wp2_with fail
        go_roundg (gn - (i + 1))
        case measure => omega
        case rel => exact ⟨i + 1, _, by omega, rfl, by go_num, HL3⟩
      | false =>
        have HL3 : Hid (∀ ob, LB w0 bl (mg (i + 1)) (.slice a1 (mg i).length cc1) (wr.alloc ob)) := fun ob => by
          rw [show mg (i + 1) = mg i by simpa using hx]
          exact hL.on ((Below.refl _ _).alloc (Nat.le_refl _) _)
        clear hL HL
        go_wp2_with fail
        go_roundg (gn - (i + 1))
        case measure => omega
        case rel => exact ⟨i + 1, _, by omega, rfl, by go_num, HL3.out _⟩
    · have hlt' : ¬ (i : Int) < (gn : Int) := by omega
      have hei : i = gn := by omega
      have HL2 : Hid (LB w0 bl (mp 0) v wr) := by rw [HP0.out, ← hei]; exact hL
      have k3 : wr.cell? ⟨mb, 3, none⟩ = some (.slice pa pn pc) := (hL.bel.cell (p := ⟨mb, 3, none⟩) hmbl).trans (cell_blk HK.out)
      have hltb : mb < wr.heap.size := lt_of_cell k3
      clear HL hL HG HG0 hei hid hk hml HLB0
      rename World => wl
      go_wp2_with fail
      clear k3 hltb
      go_loopg [29] pn (fun k vi wr => ∃ (i : Nat) (v : Value), i ≤ pn ∧ k = pn - i ∧ vi = .int .i64 (i : Int) ∧ Hid (LB w0 bl (mp i) v wr))
      case atStart => exact ⟨0, v, by omega, by omega, rfl, HL2⟩
      case round =>
        obtain ⟨j, v, hjd, hk2, rfl, HL⟩ := hrel
        clear HL2
        have hL := HL.out
        have hml := HPL.out j
        by_cases hlt2 : j < pn
        · have hlt2' : (j : Int) < (pn : Int) := by omega
          obtain ⟨g, x0, x1, x2, y3, y4, y5, n3, n4, n5, d3, d4, d5, hpa, hgB, c0, c1', c2, c3, c4, c5, hx⟩ := HP.out j hlt2
          subst hpa
          have hcell : ∀ (o : Nat) (u : Value), w.cell? ⟨g, o, none⟩ = some u → wr.cell? ⟨g, o, none⟩ = some u := fun o u h => (hL.bel.cell (p := ⟨g, o, none⟩) (by show g < bl; have := HS0.out; have := HB0.out.size; have := HMB.out; omega)).trans ((HB0.out.cell (p := ⟨g, o, none⟩) hgB).trans h)
          have kc0 := hcell _ _ c0
          have kc1 := hcell _ _ c1'
          have kc2 := hcell _ _ c2
          have kc3 := hcell _ _ c3
          have kc4 := hcell _ _ c4
          have kc5 := hcell _ _ c5
          have hlgr : g < wr.heap.size := lt_of_cell kc0
          obtain ⟨a1, cc1, hv⟩ := owns_shape hL.own
          subst hv
          clear c0 c1' c2 c3 c4 c5 hcell
          cases x2 with
          | true =>
            have hLA := (hL.on ((Below.refl wr.heap.size wr).alloc (Nat.le_refl _) (.cells #[.string (bs x0), .int .i64 (x1 : Int), .bool true, .slice y3 n3 d3, .slice y4 n4 d4, .slice y5 n5 d5] 62)))
            have hLA2 := hLA.on ((Below.refl _ _).alloc (Nat.le_refl _) (.cells #[.string (bs x0), .int .i64 0, .int .i64 (n3 : Int)] 116))
            have hownA := hLA2.own
            have kb : wr.cell? ⟨bl, 0, none⟩ = some (.slice a1 (mp j).length cc1) := cell_blk hL.box
            have hlb := hL.lt
            have HLA2 := Lib.hid hLA2
            clear hLA hLA2 hL HL
            go_wp2_with (at_builtin; refine wpList_append_where _ rfl _ _ 81 rfl (bl + 1) 116 i3 (.agg #[.string ⟨#[]⟩, .int .i64 0, .int .i64 0]) 3 32 Tryz.underlying81 hi3 hz30 hz31 hz32 rfl (by decide) _ _ _ rfl hownA ⟨wr.heap.size + 1, 0, none⟩ 1 1 [.string (bs x0), .int .i64 0, .int .i64 (n3 : Int)] rfl rfl (newsSy wr _ _ _ _ _) (by intro u hu; simp at hu; rcases hu with rfl | rfl | rfl <;> rfl) (by unfold maxLen; omega) (by omega) (by simp; omega) ?_)
            intro v3 w3 hown3 hgrow3 _
            obtain ⟨a3, cc3, rfl⟩ := owns_shape hown3
            have HL3 : Hid (LB w0 bl (mp (j + 1)) (.slice a3 ((mp j).length + 1) cc3) (w3.setCell ⟨bl, 0, none⟩ (.slice a3 ((mp j).length + 1) cc3))) := by
              refine HLA2.out.put hgrow3 ?_
              rw [show mp (j + 1) = mp j ++ [(x0, 0, (n3 : Int))] by simpa using hx, sycs_app, List.length_append]
              exact hown3
            have hb3 : w3.heap[bl]? = some (.cells #[.slice a1 (mp j).length cc1] 81 (0, 0)) := (hgrow3.block bl HLA2.out.lt (fun e => by have := (HLA2.out.own.lt bl e.symm).1; omega)).trans HLA2.out.box
            have kb3 : w3.cell? ⟨bl, 0, none⟩ = some (.slice a1 (mp j).length cc1) := cell_blk hb3
            have kf3 : w3.frozen? ⟨bl, 0, none⟩ = false := frozen_blk hb3
            have hlb3 := lt_blk hb3
            clear hown3 hgrow3 hownA HLA2 hb3
            go_wp2_with fail
            go_roundg (pn - (j + 1))
            case measure => omega
            case rel => exact ⟨j + 1, _, by omega, rfl, by go_num, HL3⟩
          | false =>
            have HL3 : Hid (∀ ob, LB w0 bl (mp (j + 1)) (.slice a1 (mp j).length cc1) (wr.alloc ob)) := fun ob => by
              rw [show mp (j + 1) = mp j by simpa using hx]
              exact hL.on ((Below.refl _ _).alloc (Nat.le_refl _) _)
            clear hL HL
            go_wp2_with fail
            go_roundg (pn - (j + 1))
            case measure => omega
            case rel => exact ⟨j + 1, _, by omega, rfl, by go_num, HL3.out _⟩
        · have hlt2' : ¬ (j : Int) < (pn : Int) := by omega
          have hej : j = pn := by omega
          rw [hej] at hL
          obtain ⟨hln, hsl⟩ := own_syrow hL.own
          have HBF : Hid (Below w.heap.size w wr) := HB0.out.trans (hL.bel.mono (by have := HS0.out; have := HB0.out.size; have := HMB.out; omega))
          have kb : wr.cell? ⟨bl, 0, none⟩ = some v := cell_blk hL.box
          have hlb := hL.lt
          have hLA := HLA.out
          have hmf : ∀ (fn : Fn) (first cap : Array Value) (w : World), (Instr.makeFunc fn first cap).run Tryz.prog w = .ok (.func fn first cap) w := fun _ _ _ _ => rfl
          have hbm : w.heap.size ≤ bl := by have := HMB.out; omega
          by_cases h1 : (mp pn).length ≤ 1
          · obtain ⟨a1, cc1, hv⟩ := owns_shape hL.own
            subst hv
            have HS := Lib.hid (sslice_tiny wr a1 (mp pn).length cc1 bl h1)
            have HSL : Hid (SL wr w.heap.size (.slice a1 (mp pn).length cc1) (srt (mp pn))) := by
              rw [srt_one h1]
              rcases hsl with q | ⟨g, cap, q1, q2, q3⟩
              · exact Or.inl q
              · exact Or.inr ⟨g, cap, q1, by omega, q3⟩
            have HLL := Lib.hid hL
            unfold fnLess at HS
            clear hL HL HP HP0 hej hml hsl hln
            generalize (mp pn).length = ln at *
            go_wp2_with fail
            refine HS.out.mono ?_
            rintro e w9 ⟨rfl, h9⟩
            have kb9 : w9.cell? ⟨bl, 0, none⟩ = some (.slice a1 ln cc1) := (h9.cell (p := ⟨bl, 0, none⟩) hlb).trans kb
            have hl9 := lt_of_cell kb9
            have HB9 := Lib.hid (HBF.out.trans (h9.mono HBF.out.size))
            have HSL9 := Lib.hid (HSL.out.on h9)
            clear h9 HS kb hlb HSL
            go_wp2_with fail
            go_ret
            exact ⟨_, rfl, HB9.out, HSL9.out⟩
          · rcases hsl with ⟨_, hnil⟩ | ⟨g, cap, rfl, hge, hrow⟩
            · rw [hnil] at h1; simp at h1
            · have HS := Lib.hid (sslice_post ⟨hrow, kb, by omega⟩ (by omega) hLA)
              have HGE := Lib.hid hge
              unfold fnLess at HS
              have hlr : (srt (mp pn)).length = (mp pn).length := srt_len _
              clear hL HL HP HP0 hej hml hrow hge hln
              generalize (mp pn).length = ln at *
              go_wp2_with fail
              refine HS.out.mono ?_
              rintro e w9 ⟨rfl, h9, g9⟩
              have kb9 := h9.box
              rw [hlr] at kb9
              have hl9 := lt_of_cell kb9
              have HB9 : Hid (Below w.heap.size w w9) := HBF.out.trans ((Below.refl w.heap.size wr).grown g9 HBF.out.size (fun k hk => by cases hk; have := HGE.out; omega))
              have HSL9 : Hid (SL w9 w.heap.size (.slice (some ⟨g, 0, none⟩) ln cap) (srt (mp pn))) := Or.inr ⟨g, cap, by rw [hlr], by have := HGE.out; omega, h9.row⟩
              clear h9 g9 HS kb hlb
              go_wp2_with fail
              go_ret
              exact ⟨_, rfl, HB9.out, HSL9.out⟩
end Go.Proofs.YtfcdphgggdioeaaGreatDoor
/- The document's Of, its contract; Find. -/
namespace Go.Proofs.YtfcdphgggdioeaaGreatDoor
open Go.RowKit Go.Sort
open Tp (Sy G Pr)
theorem rof_post {m : Tp.M} (hgc : m.vars.length ≤ 10) (hpc : m.procs.length ≤ 10) {w : World} {ia ga pa ba : Option Addr} {ic gc pc bc : Nat} (h : MB w w.heap.size m ia ga pa ba ic gc pc bc) :
    Calls Tryz.prog 37 #[.agg (mcells (bs m.name) (.slice ia m.imports.length ic) (.slice ga m.vars.length gc) (.slice pa m.procs.length pc) (.slice ba m.body.length bc))] w fun e w' => ∃ v, e = .returned v ∧ Below w.heap.size w w' ∧ SL w' w.heap.size v (srt (Tp.symsOf m)) := by
  obtain ⟨nm, is, gs, ps, body⟩ := m
  obtain ⟨pcs, p1, p2⟩ := h.pr
  have hgl := h.gl
  simp only at hgl p1 p2 hgc hpc
  obtain ⟨mg, hmg⟩ : ∃ mg : Nat → List Sy, mg = fun i => ((gs.take i).filter (·.seen)).map Tp.syG := ⟨_, rfl⟩
  obtain ⟨mp, hmp⟩ : ∃ mp : Nat → List Sy, mp = fun i => mg gs.length ++ ((ps.take i).filter (·.seen)).map Tp.syP := ⟨_, rfl⟩
  have hlast : mp ps.length = Tp.symsOf ⟨nm, is, gs, ps, body⟩ := by rw [hmp, hmg]; simp [Tp.symsOf]
  have hg0 : mg 0 = [] := by rw [hmg]; simp
  have hp0 : mp 0 = mg gs.length := by rw [hmp]; simp
  have b1 : ∀ i, (mg i).length ≤ 10 := by
    intro i; rw [hmg]; have := filt_len (fun g : G => g.seen) Tp.syG (gs.take i); simp only [List.length_take] at this ⊢; omega
  have b2 : ∀ i, (mp i).length ≤ 20 := by
    intro i; rw [hmp]; have := filt_len (fun p : Pr => p.seen) Tp.syP (ps.take i); have := b1 gs.length; simp only [List.length_take, List.length_append] at *; omega
  rw [← hlast]
  refine rof_walk (mg := mg) (mp := mp) (gn := gs.length) (pn := ps.length) hg0 ?_ hp0 ?_ (fun i => by have := b1 i; omega) (fun i => by have := b2 i; omega) (b2 _) (by omega) (by omega)
  · intro i hi
    obtain ⟨g, cap, q1, q2, q3, q4⟩ := row_cell hgl (by omega)
    cases q1
    have hc := fun j (hj : j < 4) => (q4 (i * 4 + j) (by omega)).trans (gcs_get gs i hi j hj)
    refine ⟨g, gs[i].name, gs[i].pos, gs[i].len, gs[i].seen, rfl, q3, hc 0 (by omega), hc 1 (by omega), hc 2 (by omega), hc 3 (by omega), ?_⟩
    rw [hmg]
    exact filt_succ (fun g : G => g.seen) Tp.syG gs i hi
  · intro i hi
    obtain ⟨g, cap, q1, q2, q3, q4⟩ := row_cell p2 (by omega)
    cases q1
    obtain ⟨pv, vv, bv, bcs', r1, r2, r3, r4, r5⟩ := repp_get ps pcs p1 i hi
    have hc := fun j (hj : j < 6) => (q4 (i * 6 + j) (by omega)).trans (r1 j hj)
    obtain ⟨y3, c3, rfl⟩ := r2.shape
    obtain ⟨y4, c4, rfl⟩ := r3.shape
    obtain ⟨y5, c5, rfl⟩ := r5.shape
    refine ⟨g, ps[i].name, ps[i].pos, ps[i].seen, y3, y4, y5, ps[i].params.length, ps[i].vars.length, ps[i].body.length, c3, c4, c5, rfl, q3, hc 0 (by omega), hc 1 (by omega), hc 2 (by omega), hc 3 (by omega), hc 4 (by omega), hc 5 (by omega), ?_⟩
    rw [hmp]
    simp only [List.append_assoc]
    congr 1
    exact filt_succ (fun p : Pr => p.seen) Tp.syP ps i hi
end Go.Proofs.YtfcdphgggdioeaaGreatDoor
/- The document's Find. -/
namespace Go.Proofs.YtfcdphgggdioeaaGreatDoor
open Go.RowKit Go.Sort
open Tp (Sy)
/- where a name stands first; what stands there is what findS tells -/
def FndP (l : List Sy) (nm : List UInt8) (k : Int) : Prop := (k = -1 ∧ Tp.findS l nm = none) ∨ ∃ (i : Nat) (h : i < l.length), k = (i : Int) ∧ Tp.findS l nm = some l[i]
theorem findS_at {l : List Sy} {nm : List UInt8} {i : Nat} (h : i < l.length) (he : l[i].1 = nm) (hn : ∀ j (hj : j < l.length), j < i → l[j].1 ≠ nm) : Tp.findS l nm = some l[i] := by
  unfold Tp.findS
  rw [List.find?_eq_some_iff_getElem]
  refine ⟨by simp [he], i, h, rfl, fun j hj => ?_⟩
  have := hn j (by omega) hj
  simpa using this
theorem findS_none {l : List Sy} {nm : List UInt8} (hn : ∀ j (hj : j < l.length), l[j].1 ≠ nm) : Tp.findS l nm = none := by
  unfold Tp.findS
  rw [List.find?_eq_none]
  intro x hx
  obtain ⟨j, hj, rfl⟩ := List.getElem_of_mem hx
  have := hn j hj
  simpa using this
set_option maxRecDepth 100000 in
set_option maxHeartbeats 1000000 in
theorem rfind_post {w : World} {a : Option Addr} {c : Nat} {l : List Sy} (h : SL w 0 (.slice a l.length c) l) (hl : l.length ≤ 1000000) (nm : List UInt8) :
    Calls Tryz.prog 58 #[.slice a l.length c, .string (bs nm)] w fun e w' => ∃ k, e = .returned (.int .i64 k) ∧ FndP l nm k ∧ Below w.heap.size w w' := by
  have hn' : (l.length : Int) ≤ 1000000 := by omega
  have HS := Lib.hid h
  clear h
  go_enter Tryz.func58, Tryz.ntmps58
  go_wp2_with fail
  go_loopg [9] l.length (fun k vi wr => ∃ i : Nat, i ≤ l.length ∧ k = l.length - i ∧ vi = .int .i64 (i : Int) ∧ Hid (∀ j (hj : j < l.length), j < i → l[j].1 ≠ nm) ∧ Hid (Below w.heap.size w wr))
  case atStart => exact ⟨0, by omega, by omega, rfl, fun j _ hj => by omega, Below.refl _ _⟩
  case round =>
    obtain ⟨i, hid, hk, rfl, HN, HB⟩ := hrel
    by_cases hlt : i < l.length
    · have hlt' : (i : Int) < (l.length : Int) := by omega
      obtain ⟨g, rfl, _, hgl, hc⟩ := HS.out.cell i hlt
      have x0 : wr.cell? ⟨g, i * 3, none⟩ = some (.string (bs l[i].1)) := (HB.out.cell (p := ⟨g, i * 3 + 0, none⟩) hgl).trans (hc 0 (by omega))
      have x1 : wr.cell? ⟨g, i * 3 + 1, none⟩ = some (.int .i64 (l[i].2.1 : Int)) := (HB.out.cell (p := ⟨g, i * 3 + 1, none⟩) hgl).trans (hc 1 (by omega))
      have x2 : wr.cell? ⟨g, i * 3 + 2, none⟩ = some (.int .i64 l[i].2.2) := (HB.out.cell (p := ⟨g, i * 3 + 2, none⟩) hgl).trans (hc 2 (by omega))
      have hwl1 : g < wr.heap.size := lt_of_cell x0
      obtain ⟨d, hd⟩ : ∃ d, ((bs l[i].1).toList == (bs nm).toList) = d := ⟨_, rfl⟩
      have HD : Hid (d = true ↔ l[i].1 = nm) := by
        show _ ↔ _
        rw [← hd, bs_toList, bs_toList, beq_iff_eq]
      have HA : Hid (∀ ob, Below w.heap.size w (wr.alloc ob)) := fun ob => HB.out.alloc HB.out.size ob
      clear hc hgl
      cases d with
      | true =>
        have HF : Hid (FndP l nm (i : Int)) := Or.inr ⟨i, hlt, rfl, findS_at hlt (HD.out.1 rfl) HN.out⟩
        go_wp2_with fail
        go_ret
        exact ⟨_, rfl, HF.out, HA.out _⟩
      | false =>
        have HN2 : Hid (∀ j (hj : j < l.length), j < i + 1 → l[j].1 ≠ nm) := fun j hj hji => by
          by_cases e : j = i
          · subst e; intro q; have := HD.out.2 q; cases this
          · exact HN.out j hj (by omega)
        go_wp2_with fail
        go_roundg (l.length - (i + 1))
        case measure => omega
        case rel => exact ⟨i + 1, by omega, rfl, by go_num, HN2, HA.out _⟩
    · have hlt' : ¬ (i : Int) < (l.length : Int) := by omega
      have HF : Hid (FndP l nm (-1)) := Or.inl ⟨rfl, findS_none fun j hj => HN.out j hj (by omega)⟩
      go_wp2_with fail
      go_ret
      exact ⟨_, rfl, HF.out, HB.out⟩
end Go.Proofs.YtfcdphgggdioeaaGreatDoor
