import Derived.Test.YtibncofnnlbmcaaGreatDoorKQl
/- Chapter 4: worlds, whatever was done in them: what they are in memory; what an act changes. -/
namespace Go.Proofs.YtibncofnnlbmcaaGreatDoor
open Go.RowKit Go.Maps Go.Sort
open Tp (Bs X S G Pr Pt Rs Rr Own Sy)

theorem swp_mem {d : Array Sy} {i j : Nat} {s : Sy} (hi : i < d.size) (hj : j < d.size) (h : s ∈ (swp d i j).toList) : s ∈ d.toList := by
  rw [Array.mem_toList_iff] at h ⊢
  have h' : s ∈ (d.setIfInBounds i d[j]!).setIfInBounds j d[i]! := h
  rcases Array.mem_or_eq_of_mem_setIfInBounds h' with h1 | h1
  · rcases Array.mem_or_eq_of_mem_setIfInBounds h1 with h2 | h2
    · exact h2
    · rw [h2, getElem!_pos d j hj]; exact Array.getElem_mem hj
  · rw [h1, getElem!_pos d i hi]; exact Array.getElem_mem hi
theorem insInner_mem {lt : Sy → Sy → Bool} (a : Nat) : ∀ (j : Nat) (d : Array Sy) (s : Sy), j < d.size → s ∈ (Sort.insInner lt a j d).toList → s ∈ d.toList := by
  intro j
  induction j with
  | zero => intro d s _ h; exact h
  | succ j ih =>
    intro d s hj h
    rw [Sort.insInner] at h
    split at h
    · have := ih _ _ (by simp [swp]; omega) h
      exact swp_mem hj (by omega) this
    · exact h
theorem insOuter_mem {lt : Sy → Sy → Bool} (a b : Nat) : ∀ (k i : Nat) (d : Array Sy) (s : Sy), b - i = k → b ≤ d.size → s ∈ (Sort.insOuter lt a b i d).toList → s ∈ d.toList := by
  intro k
  induction k with
  | zero => intro i d s h _ hs; rw [Sort.insOuter, if_neg (by omega)] at hs; exact hs
  | succ k ih =>
    intro i d s h hb hs
    rw [Sort.insOuter] at hs
    split at hs
    · have := ih (i + 1) _ s (by omega) (by rw [insInner_size]; exact hb) hs
      exact insInner_mem a i d s (by omega) this
    · exact hs
theorem srt_mem {l : List Sy} {s : Sy} (h : s ∈ srt l) : s ∈ l := by
  unfold srt insS Sort.insertionSort at h
  have := insOuter_mem 0 l.length _ 1 l.toArray s rfl (by simp) h
  simpa using this
def ofS (m : Tp.M) : List Tp.Sy := srt (Tp.symsOf m)
theorem ofS_mem (m : Tp.M) : ∀ s ∈ ofS m, s ∈ Tp.symsOf m := fun _ hs => srt_mem hs
theorem ofS_ok (m : Tp.M) : ∀ s ∈ ofS m, Tp.OkS s := fun s hs => Tp.symsOf_ok s (srt_mem hs)
def zwB (w : World) (wb : Nat) : Prop := w.heap[wb]? = some (.cells #[.slice none 0 0, .map none] 28 (0, 0))
def WX (X : Nat → Prop) (w : World) (wb : Nat) (L : List Lo) (P : List Pt) (nv : Value) : Option Nat → Prop
  | some tb => WW X w wb L P nv tb
  | none => L = [] ∧ P = [] ∧ nv = .slice none 0 0 ∧ ¬ X wb ∧ zwB w wb
/- what of it is written -/
def Mut (L : List Lo) (wb : Nat) (tv : Option Nat) (nv : Value) (b : Nat) : Prop := VLo L b ∨ b = wb ∨ tv = some b ∨ nv.ownBlock = some b
structure Tr (U U' : Nat → Prop) (w w' : World) : Prop where
  os : w'.os = w.os
  tape : w'.tape = w.tape
  output : w'.output = w.output
  size : w.heap.size ≤ w'.heap.size
  block : ∀ b, b < w.heap.size → ¬ U b → w'.heap[b]? = w.heap[b]?
  more : ∀ b, U' b → U b ∨ w.heap.size ≤ b
theorem Tr.below {U : Nat → Prop} {w w' : World} (h : Below w.heap.size w w') : Tr U U w w' := ⟨h.os, h.tape, h.output, h.size, fun b hb _ => h.block b hb, fun _ hb => Or.inl hb⟩
theorem Tr.trans {U U' U2 : Nat → Prop} {w w1 w2 : World} (h : Tr U U' w w1) (k : Tr U' U2 w1 w2) : Tr U U2 w w2 := by
  refine ⟨k.os.trans h.os, k.tape.trans h.tape, k.output.trans h.output, Nat.le_trans h.size k.size, fun b hb hu => ?_, fun b hb => ?_⟩
  · refine (k.block b (Nat.lt_of_lt_of_le hb h.size) (fun q => ?_)).trans (h.block b hb hu)
    rcases h.more b q with q | q
    · exact hu q
    · omega
  · rcases k.more b hb with q | q
    · exact h.more b q
    · exact Or.inr (Nat.le_trans h.size q)
theorem Tr.then {U U' : Nat → Prop} {w w1 w2 : World} (h : Tr U U' w w1) (k : Below w1.heap.size w1 w2) : Tr U U' w w2 := h.trans (Tr.below k)
theorem Tr.ahead {U U' : Nat → Prop} {w w1 w2 : World} (h : Below w.heap.size w w1) (k : Tr U U' w1 w2) : Tr U U' w w2 := (Tr.below h).trans k
theorem WX.blk {X : Nat → Prop} {w : World} {wb : Nat} {L : List Lo} {P : List Pt} {nv : Value} {tv : Option Nat} (h : WX X w wb L P nv tv) : w.heap[wb]? = some (.cells #[nv, .map tv] 28 (0, 0)) := by
  cases tv with
  | some tb => exact WW.blk h
  | none => obtain ⟨_, _, rfl, _, h⟩ := h; exact h
theorem WX.xw {X : Nat → Prop} {w : World} {wb : Nat} {L : List Lo} {P : List Pt} {nv : Value} {tv : Option Nat} (h : WX X w wb L P nv tv) : ¬ X wb := by
  cases tv with
  | some tb => exact (WW.xw h).1
  | none => exact h.2.2.2.1
theorem WX.nm {X : Nat → Prop} {w : World} {wb : Nat} {L : List Lo} {P : List Pt} {nv : Value} {tv : Option Nat} (h : WX X w wb L P nv tv) : w.ownsRow 0 9 1 nv L.length (strs (L.map fun lo => lo.m.name)) := by
  cases tv with
  | some tb => exact WW.nm h
  | none => obtain ⟨rfl, _, rfl, _⟩ := h; exact World.ownsRow_nil _ _ _ _
theorem WX.mw {X : Nat → Prop} {w : World} {wb : Nat} {L : List Lo} {P : List Pt} {nv : Value} {tv : Option Nat} (h : WX X w wb L P nv tv) : Tp.ms P = L.map fun lo => lo.m := by
  cases tv with
  | some tb => exact WW.mw h
  | none => obtain ⟨rfl, rfl, _⟩ := h; rfl
theorem WX.nd {X : Nat → Prop} {w : World} {wb : Nat} {L : List Lo} {P : List Pt} {nv : Value} {tv : Option Nat} (h : WX X w wb L P nv tv) : (L.map fun lo => lo.m.name).Nodup := by
  cases tv with
  | some tb => exact WW.nd h
  | none => obtain ⟨rfl, rfl, _⟩ := h; exact List.nodup_nil
theorem WX.ww {X : Nat → Prop} {w : World} {wb : Nat} {L : List Lo} {P : List Pt} {nv : Value} {tv : Option Nat} (h : WX X w wb L P nv tv) {lo : Lo} (hl : lo ∈ L) : ∃ tb, tv = some tb ∧ WW X w wb L P nv tb := by
  cases tv with
  | some tb => exact ⟨tb, rfl, h⟩
  | none => obtain ⟨rfl, _⟩ := h; cases hl
def ptrV (L : List Lo) (k : Bs) : Option Addr := (L.find? fun lo => lo.m.name == k).map fun lo => ⟨lo.lb, 0, none⟩
theorem WX.look {X : Nat → Prop} {w : World} {wb : Nat} {L : List Lo} {P : List Pt} {nv : Value} {tv : Option Nat} (h : WX X w wb L P nv tv) (k : Bs) (hk : k.length ≤ 1000000) : (Instr.lookup 26 (.map tv) (.string (bs k)) false).run Tryz.prog w = .ok (.pointer (ptrV L k)) w := by
  cases tv with
  | some tb =>
    obtain ⟨n, _, hm⟩ := WW.th h
    rw [hm.look (t := 26) Tryz.underlying26 (zeroLo _) k hk false]
    unfold thrL ptrV
    cases hf : L.find? fun lo => lo.m.name == k with
    | none => simp
    | some lo => simp
  | none =>
    obtain ⟨rfl, _⟩ := h
    exact nilmap_look w (t := 26) Tryz.underlying26 (zeroLo _) k hk false
theorem WX.more {X : Nat → Prop} {w w' : World} {wb : Nat} {L : List Lo} {P : List Pt} {nv : Value} {tv : Option Nat} (h : WX X w wb L P nv tv) (hb : Below w.heap.size w w') : WX (fun b => X b ∨ w.heap.size ≤ b) w' wb L P nv tv := by
  cases tv with
  | some tb => exact WW.more h hb
  | none =>
    obtain ⟨h1, h2, h3, h4, h5⟩ := h
    have := lt_blk h5
    exact ⟨h1, h2, h3, fun q => q.elim h4 (fun z => by omega), (hb.block _ this).trans h5⟩
theorem WX.less {X Y : Nat → Prop} {w : World} {wb : Nat} {L : List Lo} {P : List Pt} {nv : Value} {tv : Option Nat} (h : WX X w wb L P nv tv) (hs : ∀ b, Y b → X b) : WX Y w wb L P nv tv := by
  cases tv with
  | some tb => exact WW.less h hs
  | none => exact ⟨h.1, h.2.1, h.2.2.1, fun q => h.2.2.2.1 (hs _ q), h.2.2.2.2⟩
theorem WX.on {X : Nat → Prop} {w w' : World} {wb : Nat} {L : List Lo} {P : List Pt} {nv : Value} {tv : Option Nat} (h : WX X w wb L P nv tv) (hb : Below w.heap.size w w') : WX X w' wb L P nv tv := (h.more hb).less (fun _ q => Or.inl q)
/- others change what is theirs -/
theorem WX.other {X X' : Nat → Prop} {w w' : World} {wb : Nat} {L : List Lo} {P : List Pt} {nv : Value} {tv : Option Nat} (h : WX X w wb L P nv tv) (hk : ∀ b, b < w.heap.size → ¬ X b → w'.heap[b]? = w.heap[b]?) (hs : w.heap.size ≤ w'.heap.size) (hX : ∀ b, X' b → X b ∨ w.heap.size ≤ b) : WX X' w' wb L P nv tv := by
  have h1 := h.more (Below.refl _ _)
  cases tv with
  | some tb =>
    have h2 : WW (fun b => X b ∨ w.heap.size ≤ b) w wb L P nv tb := h1
    refine WW.less (X := fun b => X b ∨ w.heap.size ≤ b) ?_ hX
    refine h2.keep (fun b hb hx _ => hk b hb (fun q => hx (Or.inl q))) hs (fun lo hl => ?_) h2.mw
    obtain ⟨p, p1, p2, p3⟩ := h2.vals lo hl
    exact ⟨p, p1, p2, fun g hg => ⟨(p3 g hg).1, (hk _ (lt_blk (p3 g hg).2.1) (fun q => (h2.sv _ ⟨lo, hl, g, hg, rfl⟩).2 (Or.inl q))).trans (p3 g hg).2.1, (p3 g hg).2.2⟩⟩
  | none =>
    obtain ⟨h1, h2, h3, h4, h5⟩ := h
    exact ⟨h1, h2, h3, fun q => (hX _ q).elim h4 (fun z => by have := lt_blk h5; omega), (hk _ (lt_blk h5) h4).trans h5⟩
theorem WX.mlt {X : Nat → Prop} {w : World} {wb : Nat} {L : List Lo} {P : List Pt} {nv : Value} {tv : Option Nat} (h : WX X w wb L P nv tv) {b : Nat} (hb : Mut L wb tv nv b) : b < w.heap.size ∧ ¬ X b := by
  cases tv with
  | some tb =>
    have h : WW X w wb L P nv tb := h
    rcases hb with q | rfl | q | q
    · exact h.sv b q
    · exact ⟨lt_blk h.blk, h.xw.1⟩
    · cases q
      obtain ⟨n, _, hm⟩ := h.th
      exact ⟨hm.lt, h.tx.1⟩
    · exact ⟨(h.nm.lt b q).2, (h.nx b q).1⟩
  | none =>
    obtain ⟨rfl, rfl, rfl, h4, h5⟩ := h
    rcases hb with ⟨lo, q, _⟩ | rfl | q | q
    · cases q
    · exact ⟨lt_blk h5, h4⟩
    · cases q
    · cases q
theorem WX.wm {X : Nat → Prop} {w : World} {wb : Nat} {L : List Lo} {P : List Pt} {nv : Value} {tv : Option Nat} (h : WX X w wb L P nv tv) {lo : Lo} (hl : lo ∈ L) : Tp.WM lo.m := by
  obtain ⟨tb, _, hw⟩ := h.ww hl
  exact (hw.lo lo hl).2.2.2.2.wm
/- a world, and what of it is written; c: how often one was laid there at most -/
def MapC (w : World) (tv : Option Nat) (L : List Lo) (c : Nat) : Prop := ∀ tb, tv = some tb → ∃ n, n ≤ c ∧ MapV w tb n (thrL L)
def WZ (X U : Nat → Prop) (c : Nat) (w : World) (wb : Nat) (P : List Pt) : Prop := ∃ L nv tv, WX X w wb L P nv tv ∧ L.length ≤ 10 ∧ Tp.WI ofS P ∧ (∀ b, U b ↔ Mut L wb tv nv b) ∧ MapC w tv L c ∧ ∀ m ∈ Tp.ms P, Tp.nM m ≤ 1000
theorem WZ.on {X U : Nat → Prop} {c : Nat} {w w' : World} {wb : Nat} {P : List Pt} (h : WZ X U c w wb P) (hb : Below w.heap.size w w') : WZ X U c w' wb P := by
  obtain ⟨L, nv, tv, h1, h2, h3, h4, h5, h6⟩ := h
  refine ⟨L, nv, tv, h1.on hb, h2, h3, h4, fun tb e => ?_, h6⟩
  obtain ⟨n, hn, hm⟩ := h5 tb e
  exact ⟨n, hn, hm.on (hb.block _ hm.lt)⟩
theorem WZ.lt {X U : Nat → Prop} {c : Nat} {w : World} {wb : Nat} {P : List Pt} (h : WZ X U c w wb P) {b : Nat} (hb : U b) : b < w.heap.size ∧ ¬ X b := by
  obtain ⟨L, nv, tv, h1, _, _, h2, _⟩ := h
  exact h1.mlt ((h2 b).1 hb)
theorem WZ.other {X X' U : Nat → Prop} {c : Nat} {w w' : World} {wb : Nat} {P : List Pt} (h : WZ X U c w wb P) (hk : ∀ b, b < w.heap.size → ¬ X b → w'.heap[b]? = w.heap[b]?) (hs : w.heap.size ≤ w'.heap.size) (hX : ∀ b, X' b → X b ∨ w.heap.size ≤ b) : WZ X' U c w' wb P := by
  obtain ⟨L, nv, tv, h1, h2, h3, h4, h5, h6⟩ := h
  refine ⟨L, nv, tv, h1.other hk hs hX, h2, h3, h4, fun tb e => ?_, h6⟩
  obtain ⟨n, hn, hm⟩ := h5 tb e
  exact ⟨n, hn, hm.on (hk _ hm.lt (h1.mlt (b := tb) (Or.inr (Or.inr (Or.inl e)))).2)⟩
theorem WZ.more {X U : Nat → Prop} {c c' : Nat} {w : World} {wb : Nat} {P : List Pt} (h : WZ X U c w wb P) (hc : c ≤ c') : WZ X U c' w wb P := by
  obtain ⟨L, nv, tv, h1, h2, h3, h4, h5, h6⟩ := h
  refine ⟨L, nv, tv, h1, h2, h3, h4, fun tb e => ?_, h6⟩
  obtain ⟨n, hn, hm⟩ := h5 tb e
  exact ⟨n, by omega, hm⟩
theorem WZ.wb {X U : Nat → Prop} {c : Nat} {w : World} {wb : Nat} {P : List Pt} (h : WZ X U c w wb P) : U wb := by
  obtain ⟨L, nv, tv, h1, _, _, h2, _⟩ := h
  exact (h2 wb).2 (Or.inr (Or.inl rfl))
theorem WZ.zero {X : Nat → Prop} {w : World} {wb : Nat} (h : w.heap[wb]? = some (.cells #[.slice none 0 0, .map none] 28 (0, 0))) (hX : ¬ X wb) : WZ X (fun b => b = wb) 0 w wb [] := by
  refine ⟨[], .slice none 0 0, none, ⟨rfl, rfl, rfl, hX, h⟩, by simp, Tp.WI.empty _, fun b => ⟨fun e => Or.inr (Or.inl e), fun e => ?_⟩, (fun tb e => by cases e), fun m hm => by cases hm⟩
  rcases e with ⟨lo, q, _⟩ | q | q | q
  · cases q
  · exact q
  · cases q
  · cases q
theorem WZ.all {X U : Nat → Prop} {c : Nat} {w : World} {wb : Nat} {P : List Pt} (h : WZ X U c w wb P) : Calls Tryz.prog 13 #[.pointer (some ⟨wb, 0, none⟩)] w fun e w' => e = .returned (.string (allB P)) ∧ Below w.heap.size w w' := by
  obtain ⟨L, nv, tv, h1, h2, _⟩ := h
  cases tv with
  | some tb => exact all_post h1 h2
  | none =>
    obtain ⟨_, rfl, _, _, h5⟩ := h1
    exact all_zero h5
theorem ptr_part {X : Nat → Prop} {w : World} {wb : Nat} {L : List Lo} {P : List Pt} {nv : Value} {tv : Option Nat} (h : WX X w wb L P nv tv) (k : Bs) : (Tp.partOf P k = none ∧ ptrV L k = none) ∨ ∃ p, ∃ lo ∈ L, Tp.partOf P k = some p ∧ p.m = lo.m ∧ lo.m.name = k ∧ ptrV L k = some ⟨lo.lb, 0, none⟩ := by
  have e : (Tp.partOf P k).map (·.m) = (L.find? fun lo => lo.m.name == k).map (·.m) := by
    have e1 : (Tp.partOf P k).map (·.m) = (Tp.ms P).find? fun m => m.name == k := by
      unfold Tp.partOf Tp.ms
      rw [List.find?_map]
      rfl
    rw [e1, h.mw, List.find?_map]
    rfl
  unfold ptrV
  cases hf : L.find? fun lo => lo.m.name == k with
  | none =>
    rw [hf] at e
    refine Or.inl ⟨?_, rfl⟩
    cases hp : Tp.partOf P k with
    | none => rfl
    | some p => rw [hp] at e; cases e
  | some lo =>
    rw [hf] at e
    cases hp : Tp.partOf P k with
    | none => rw [hp] at e; cases e
    | some p =>
      rw [hp] at e
      exact Or.inr ⟨p, lo, List.mem_of_find?_eq_some hf, rfl, by simpa using e, by simpa using List.find?_some hf, rfl⟩
/- what others see of it -/
def seenL (L : List Lo) : Tp.Seen := fun k => (L.find? fun lo => lo.m.name == k).map fun lo => ofS lo.m
theorem WX.seen {X : Nat → Prop} {w : World} {wb : Nat} {L : List Lo} {P : List Pt} {nv : Value} {tv : Option Nat} (h : WX X w wb L P nv tv) : Tp.seenW ofS P = seenL L := by
  funext k
  have e : (Tp.partOf P k).map (·.m) = (L.find? fun lo => lo.m.name == k).map (·.m) := by
    have e1 : (Tp.partOf P k).map (·.m) = (Tp.ms P).find? fun m => m.name == k := by
      unfold Tp.partOf Tp.ms
      rw [List.find?_map]
      rfl
    rw [e1, h.mw, List.find?_map]
    rfl
  have := congrArg (Option.map ofS) e
  simpa [Tp.seenW, seenL, Option.map_map, Function.comp_def] using this
theorem seenL_succ {L : List Lo} (hn : (L.map fun lo => lo.m.name).Nodup) {i : Nat} (hi : i < L.length) : seenL (L.take (i + 1)) = fun k => if k = L[i].m.name then some (ofS L[i].m) else seenL (L.take i) k := by
  funext k
  unfold seenL
  rw [List.take_succ_eq_append_getElem hi, List.find?_append]
  by_cases e : k = L[i].m.name
  · rw [if_pos e]
    have : (L.take i).find? (fun lo => lo.m.name == k) = none := by
      rw [List.find?_eq_none]
      intro lo hlo q
      have q' : lo.m.name = k := by simpa using q
      obtain ⟨j, hj, rfl⟩ := List.getElem_of_mem hlo
      rw [List.length_take] at hj
      rw [List.getElem_take] at q'
      have := (List.getElem_inj (h₀ := by simp; omega) (h₁ := by simpa using hi) hn (i := j) (j := i)).1 (by simpa using q'.trans e)
      omega
    rw [this]
    simp [e]
  · rw [if_neg e]
    have : ([L[i]] : List Lo).find? (fun lo => lo.m.name == k) = none := by
      rw [List.find?_eq_none]
      intro lo hlo q
      rw [List.mem_singleton] at hlo
      subst hlo
      exact e (by simpa using q : L[i].m.name = k).symm
    rw [this]
    simp
end Go.Proofs.YtibncofnnlbmcaaGreatDoor
/- Chapter 4: what others see of all modules that are there: seen. -/
namespace Go.Proofs.YtibncofnnlbmcaaGreatDoor
open Go.RowKit Go.Maps
open Tp (Bs X S G Pr Pt Rs Rr Own Sy Seen)

theorem symsA_len {m : Tp.M} (hm : Tp.WM m) : (ofS m).length ≤ 1000 := by
  unfold ofS
  rw [srt_len]
  unfold Tp.symsOf
  have h1 := List.length_filter_le (fun g : Tp.G => g.seen) m.vars
  have h2 := List.length_filter_le (fun p : Tp.Pr => p.seen) m.procs
  have := hm.gc
  have := hm.pc
  simp only [List.length_append, List.length_map]
  omega
theorem seen_putA {wr w5 w6 : World} {sb c i B : Nat} {Sn Sn' : Seen} {f : Bs → Option Value} {x : Bs} {v : Value} {l : List Sy} (hS : Sn' = fun k => if k = x then some l else Sn k) (hc : c ≤ i) (hf : MapV wr sb c f) (h : ∀ k, match Sn k with
  | none => f k = none
  | some l => ∃ v, f k = some v ∧ SL wr 0 v l ∧ l.length ≤ 1000) (hb : Below wr.heap.size wr w5) (hv : SL w5 B v l) (hl : l.length ≤ 1000) (q1 : MapV w6 sb (c + 1) (updV f x v)) (q2 : Ext sb w5 w6) : ∃ c, c ≤ i + 1 ∧ SeenM w6 sb c Sn' := by
  rw [hS]
  refine ⟨c + 1, by omega, SeenM.store (hf.on (hb.block _ hf.lt)) (fun k => ?_) (l := l) ?_ hl q1 q2⟩
  · have := h k
    cases hq : Sn k with
    | none => rw [hq] at this; exact this
    | some ll => rw [hq] at this; obtain ⟨u, a, b, d⟩ := this; exact ⟨u, a, b.on hb, d⟩
  · rcases hv with q | ⟨g, cap, a, _, b⟩
    · exact Or.inl q
    · exact Or.inr ⟨g, cap, a, Nat.zero_le _, b⟩
/- what is read of the module at number i -/
def RdA (w : World) (L : List Lo) (tv : Option Nat) (na : Option Addr) (i : Nat) (hi : i < L.length) : Prop := ∃ nb ia ga pa ba ic gc pc bc, na = some ⟨nb, 0, none⟩ ∧ nb < w.heap.size ∧ w.cell? ⟨nb, i, none⟩ = some (.string (bs L[i].m.name)) ∧ w.heap[L[i].lb]? = some (.cells (lcells L[i].m ia ga pa ba ic gc pc bc L[i].vb) 107 (0, 0)) ∧ MB w w.heap.size L[i].m ia ga pa ba ic gc pc bc ∧ (Instr.lookup 26 (.map tv) (.string (bs L[i].m.name)) false).run Tryz.prog w = .ok (.pointer (some ⟨L[i].lb, 0, none⟩)) w
theorem WX.rd {X : Nat → Prop} {w : World} {wb : Nat} {L : List Lo} {P : List Pt} {tv : Option Nat} {na : Option Addr} {nc : Nat} (h : WX X w wb L P (.slice na L.length nc) tv) (i : Nat) (hi : i < L.length) : RdA w L tv na i hi := by
  obtain ⟨tb, rfl, hw⟩ := h.ww (List.getElem_mem hi)
  obtain ⟨⟨ia, ga, pa, ba, ic, gc, pc, bc, h1, h2⟩, _, _, _, hfit⟩ := hw.lo _ (List.getElem_mem hi)
  have hnm := hw.nm
  rcases hnm.2 with ⟨_, h4⟩ | ⟨g, cap, cur, q1, _, q3, q4, q5, q6, q7⟩
  · omega
  · injection q1 with q1 _ _
    have hlk := h.look L[i].m.name (by have := okn_1000 hfit.wm.n; omega)
    have hpt : ptrV L L[i].m.name = some ⟨L[i].lb, 0, none⟩ := by
      unfold ptrV
      rw [(Tp.find_key (key := fun lo : Lo => lo.m.name) h.nd L[i]).2 ⟨List.getElem_mem hi, rfl⟩]
      rfl
    rw [hpt] at hlk
    refine ⟨g, ia, ga, pa, ba, ic, gc, pc, bc, q1, lt_blk q3, ?_, h1, h2.mb (fun b _ hl => hl), hlk⟩
    rw [cell_blk q3, ← Array.getElem?_toList]
    have : (strs (L.map fun lo => lo.m.name))[i]? = some (.string (bs L[i].m.name)) := by simp [strs, hi]
    rw [← this, ← q7, List.getElem?_take_of_lt (by omega)]
set_option maxRecDepth 100000 in
set_option maxHeartbeats 2000000 in
theorem seen_any {X : Nat → Prop} {w : World} {wb : Nat} {L : List Lo} {P : List Pt} {nv : Value} {tv : Option Nat} (h : WX X w wb L P nv tv) (hL : L.length ≤ 10) :
    Calls Tryz.prog 38 #[.pointer (some ⟨wb, 0, none⟩)] w fun e w' => ∃ sb, e = .returned (.map (some sb)) ∧ Below w.heap.size w w' ∧ SeenV w' (.map (some sb)) (Tp.seenW ofS P) := by
  have hmm := @run_makeMap Tryz.prog
  rw [h.seen]
  obtain ⟨na, nc, hnv⟩ := owns_shape h.nm
  rw [hnv] at h
  have hsm : SeenM (w.alloc (.map #[] 0)) w.heap.size 0 (seenL (L.take 0)) := ⟨_, MapV.made w, fun k => by simp [seenL]⟩
  have hbe : Below w.heap.size w (w.alloc (.map #[] 0)) := (Below.refl _ _).alloc (Nat.le_refl _) _
  have hwl := lt_blk h.blk
  have k0 : (w.alloc (.map #[] 0)).cell? ⟨wb, 0, none⟩ = some (.slice na L.length nc) := (World.cell?_of_block (w := w) (Below.heap_alloc _ _ _ hwl)).trans ((cell_blk h.blk).trans rfl)
  have HK1 : Hid (∀ W, Below w.heap.size w W → W.cell? ⟨wb, 1, none⟩ = some (.map tv) ∧ wb < W.heap.size) := fun W hW => ⟨(hW.cell (p := ⟨wb, 1, none⟩) hwl).trans ((cell_blk h.blk).trans rfl), by have := hW.size; omega⟩
  have HRD : Hid (∀ W, Below w.heap.size w W → ∀ i (hi : i < L.length), RdA W L tv na i hi) := fun W hW i hi => (h.on hW).rd i hi
  have HWM : Hid (∀ lo ∈ L, Tp.WM lo.m) := fun lo hl => h.wm hl
  have HND := Lib.hid h.nd
  have hsz0 : (w.alloc (.map #[] 0)).heap.size = w.heap.size + 1 := by simp
  have HSM := Lib.hid hsm
  have HBE := Lib.hid hbe
  have hL' : (L.length : Int) ≤ 10 := by omega
  obtain ⟨nn, hnq⟩ : ∃ nn, nn = L.length := ⟨_, rfl⟩
  rw [← hnq] at hL' k0
  have HNQ := Lib.hid hnq
  clear hsm hbe hnq h hnv hL
  go_enter Tryz.func38, Tryz.ntmps38
  go_wp2_with fail
  clear k0
  generalize w.alloc (.map #[] 0) = w0 at *
  clear hmm
  go_loopg [12] nn (fun k vi wr => ∃ i : Nat, i ≤ nn ∧ k = nn - i ∧ vi = .int .i64 (i : Int) ∧ Hid (∃ c, c ≤ i ∧ SeenM wr w.heap.size c (seenL (L.take i))) ∧ Hid (Ext w.heap.size w0 wr))
  case atStart => exact ⟨0, by omega, by omega, rfl, ⟨0, Nat.le_refl _, HSM.out⟩, Ext.refl _ _⟩
  case round =>
    obtain ⟨i, hid, hk, rfl, HTM, HE⟩ := hrel
    have hsz := HE.out.size
    have HBR : Hid (Below w.heap.size w wr) := HBE.out.trans (ext_below HE.out (Nat.le_refl _) (by omega))
    by_cases hlt : i < nn
    · have hlt' : (i : Int) < (nn : Int) := by omega
      have hi0 : ¬ (i : Int) < 0 := by omega
      have hia : i < L.length := by have := HNQ.out; omega
      obtain ⟨nb, ia, ga, pa, ba, ic, gc, pc, bc, rfl, hnb, kn, hlb, hmb, hlk⟩ := HRD.out wr HBR.out i hia
      obtain ⟨k1, hwlr⟩ := HK1.out wr HBR.out
      have hwm := HWM.out _ (List.getElem_mem hia)
      have HO := Lib.hid (of_post hwm.gc hwm.pc hmb)
      have HSO := Lib.hid (seenL_succ HND.out hia)
      have hnml : L[i].m.name.length ≤ 1000000 := by have := okn_1000 hwm.n; omega
      have HSLn := Lib.hid (symsA_len hwm)
      have hll := lt_blk hlb
      unfold lcells at hlb
      have m0 : wr.cell? ⟨L[i].lb, 0, none⟩ = some (.string (bs L[i].m.name)) := (cell_blk hlb).trans rfl
      have m1 : wr.cell? ⟨L[i].lb, 1, none⟩ = some (.slice ia L[i].m.imports.length ic) := (cell_blk hlb).trans rfl
      have m2 : wr.cell? ⟨L[i].lb, 2, none⟩ = some (.slice ga L[i].m.vars.length gc) := (cell_blk hlb).trans rfl
      have m3 : wr.cell? ⟨L[i].lb, 3, none⟩ = some (.slice pa L[i].m.procs.length pc) := (cell_blk hlb).trans rfl
      have m4 : wr.cell? ⟨L[i].lb, 4, none⟩ = some (.slice ba L[i].m.body.length bc) := (cell_blk hlb).trans rfl
      simp only [mcells] at HO
      clear hwm hmb hlb
      generalize L[i].lb = lb at *
      generalize L[i].m = m at *
      clear hid
      go_wp2_with fail
      refine HO.out.mono ?_
      rintro e w5 ⟨v5, rfl, hb5, hsl⟩
      obtain ⟨c, c1, f, c2, c3⟩ := HTM.out
      obtain ⟨w6, hup, q1, q2, q3⟩ := (c2.on (hb5.block _ c2.lt)).store (t := 90) Tryz.underlying90 (by omega) m.name hnml v5
      have HSM6 : Hid (∃ c, c ≤ i + 1 ∧ SeenM w6 w.heap.size c (seenL (L.take (i + 1)))) := seen_putA HSO.out c1 c2 c3 hb5 hsl HSLn.out q1 q2
      have HE6 : Hid (Ext w.heap.size w0 w6) := (HE.out.trans (Ext.below hb5)).trans q2
      clear hb5 hsl c2 c3 q1 q2 q3
      go_wp2_with fail
      go_roundg (nn - (i + 1))
      case measure => omega
      case rel => exact ⟨i + 1, by omega, rfl, by go_num, HSM6, HE6⟩
    · have hlt' : ¬ (i : Int) < (nn : Int) := by omega
      have hei : i = L.length := by have := HNQ.out; omega
      have HF : Hid (SeenV wr (.map (some w.heap.size)) (seenL L)) := by
        obtain ⟨c, c1, c2⟩ := HTM.out
        rw [hei, List.take_length] at c2
        exact Or.inr ⟨_, c, rfl, c2⟩
      clear hei
      go_wp2_with fail
      go_ret
      exact ⟨_, rfl, HBR.out, HF.out⟩
end Go.Proofs.YtibncofnnlbmcaaGreatDoor
