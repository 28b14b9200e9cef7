import Derived.Test.YtfcdphgggdioeaaGreatDoorKUa
import Derived.Test.YtfcdphgggdioeaaGreatDoorKDa
import Derived.Test.YtfcdphgggdioeaaGreatDoorKLa
import Derived.Test.YtfcdphgggdioeaaGreatDoorKTa
import Derived.Test.YtfcdphgggdioeaaGreatDoorKShd
import Derived.Test.YtfcdphgggdioeaaGreatDoorKLb
import Derived.Sort.OwnSorted
import Derived.Shelf.Slices.In.SortNone
import Derived.Maps.RangeWalk
import Derived.Laws.AppendOwnNone
/- SymTells: the names of a map, in any order; names sorted, each but once. -/
namespace Go.Proofs.YtfcdphgggdioeaaGreatDoor
open Go.RowKit Go.Maps Go.WideElems Go.Sort
open Tp (Bs)
/- its keys, as a list -/
/- what is still to come -/
theorem bs_le_total (a b : Bs) : (decide (a ≤ b) || decide (b ≤ a)) = true := by
  rcases List.le_total a b with h | h <;> simp [h]
theorem bs_le_trans (a b c : Bs) (h1 : decide (a ≤ b) = true) (h2 : decide (b ≤ c) = true) : decide (a ≤ c) = true := by
  simp only [decide_eq_true_eq] at *
  exact List.le_trans h1 h2
theorem sK_sorted (K : List Bs) : (sK K).Pairwise (fun x y => decide (x ≤ y) = true) := List.pairwise_mergeSort bs_le_trans bs_le_total K
/- what is sorted, each but once -/
theorem compact_strict {l : List Bs} (h : l.Pairwise (fun x y => decide (x ≤ y) = true)) : (Lib.compact l).Pairwise (fun x y => decide (x ≤ y) = true ∧ x ≠ y) := by
  unfold Lib.compact Lib.compactUpTo
  rw [List.pairwise_map]
  have hr : (List.range l.length).Pairwise (· < ·) := List.pairwise_lt_range
  have hf := hr.filter (Lib.keeps l.toArray)
  refine List.Pairwise.imp_of_mem (fun {j k} hj hk hjk => ?_) (by simpa using hf)
  simp only [List.mem_filter, List.mem_range] at hj hk
  have hkl : k < l.length := by simpa using hk.1
  have hjl : j < l.length := by omega
  rw [getElem!_pos _ j (by simpa using hjl), getElem!_pos _ k (by simpa using hkl)]
  simp only [List.getElem_toArray]
  have hg := List.pairwise_iff_getElem.1 h
  refine ⟨hg j k hjl hkl hjk, fun e => ?_⟩
  have hk2 := hk.2
  simp only [Lib.keeps, decide_eq_true_eq] at hk2
  rcases hk2 with q | q
  · omega
  · have hk1 : k - 1 < l.length := by omega
    rw [getElem!_pos _ k (by simpa using hkl), getElem!_pos _ (k - 1) (by simpa using hk1)] at q
    simp only [List.getElem_toArray] at q
    have h1 := hg (k - 1) k hk1 hkl (by omega)
    have h2 : decide (l[j] ≤ l[k - 1]) = true := by
      by_cases e2 : j = k - 1
      · subst e2; simp
      · exact hg j (k - 1) hjl hk1 (by omega)
    rw [e] at h2
    simp only [decide_eq_true_eq] at h1 h2
    exact q (List.le_antisymm h2 h1)
theorem compact_sK {L K : List Bs} (hK : K.Nodup) (h : ∀ x, x ∈ K ↔ x ∈ L) : Lib.compact (sK L) = sK K := by
  have hs := compact_strict (sK_sorted L)
  have hn : (Lib.compact (sK L)).Nodup := List.nodup_iff_pairwise_ne.2 (hs.imp fun q => q.2)
  have hp : (Lib.compact (sK L)).Perm K := perm_of hn hK fun x => by rw [mem_compact, sK_mem, h]
  have e1 : sK (Lib.compact (sK L)) = Lib.compact (sK L) := List.mergeSort_of_pairwise (hs.imp fun q => q.1)
  rw [← e1]
  exact sK_perm hp
/- names, sorted -/
theorem sortE_post {w : World} {base : Nat} {v : Value} {l : List Bs} (h : w.ownsRow base 9 1 v l.length (strs l)) (hl : l.length ≤ 1000000) :
    Calls Tryz.prog 43 #[v] w fun e w' => e = .returned (.tuple #[]) ∧ w'.ownsRow base 9 1 v l.length (strs (sK l)) ∧ w.grownBy w' v.ownBlock := by
  rcases h.2 with ⟨rfl, h0⟩ | ⟨g, cap, cur, rfl, hbase, hb, h1, h2, h3, h4⟩
  · rw [h0] at hl ⊢
    refine (calls_of_every_depth fun D => AnyS.slices_Sort_string_none_alone Tryz.laysSort D none 0 w).mono ?_
    rintro e w' ⟨rfl, rfl⟩
    have := List.eq_nil_of_length_eq_zero h0
    subst this
    have e0 : strs (sK []) = [] := by simp [sK, strs]
    rw [e0]
    exact ⟨rfl, World.ownsRow_nil _ _ _ _, ⟨rfl, rfl, rfl, Nat.le_refl _, fun _ _ _ => rfl⟩⟩
  · refine (calls_of_every_depth fun D => AnyS.slices_Sort_string_alone Tryz.laysSort D g 0 cap l w (holds_of_block hb (by rw [Nat.mul_one] at h4; exact h4)) (lt_blk hb) (by omega)).mono ?_
    rintro e w' ⟨rfl, n, os, rfl⟩
    have hlen : (l.mergeSort fun x y => decide (x ≤ y)).length = l.length := by simp
    exact ⟨rfl, ownsRow_sorted hlen hbase hb h1 h2 h3, grownBy_sorted _⟩
/- each but once -/
theorem compactE_post {w : World} {base : Nat} {v : Value} {l : List Bs} (h : w.ownsRow base 9 1 v l.length (strs l)) (hl : l.length ≤ 1000000) :
    Calls Tryz.prog 54 #[v] w fun e w' => ∃ (a : Option Addr) (c : Nat), e = .returned (.slice a (Lib.compact l).length c) ∧ StrsAt w' (Lib.compact l) a ∧ w.grownBy w' v.ownBlock := by
  rcases h.2 with ⟨rfl, h0⟩ | ⟨g, cap, cur, rfl, hbase, hb, h1, h2, h3, h4⟩
  · refine (calls_of_every_depth fun D => AnyS.slices_Compact_string_empty_in Tryz.laysCompact D none 0 w).mono ?_
    rintro e w' ⟨rfl, rfl⟩
    have := List.eq_nil_of_length_eq_zero h0
    subst this
    exact ⟨none, 0, rfl, ⟨fun i hi => by simp [Lib.compact, Lib.compactUpTo] at hi⟩, ⟨rfl, rfl, rfl, Nat.le_refl _, fun _ _ _ => rfl⟩⟩
  · refine (calls_of_every_depth fun D => AnyS.slices_Compact_string_in Tryz.laysCompact D g 0 cap l w (holds_of_block hb (by rw [Nat.mul_one] at h4; exact h4)) (by omega) h1).mono ?_
    rintro e w' ⟨rfl, q, rfl⟩
    have hcl := compact_len l
    have hlen : (Lib.compact l ++ List.replicate (l.length - (Lib.compact l).length) []).length = l.length := by simp; omega
    have hrow := ownsRow_sorted (n := q) (os := #[]) hlen hbase hb h1 h2 h3
    have hgr := grownBy_sorted (w := w) (g := g) (n := q) (os := #[]) (Lib.compact l ++ List.replicate (l.length - (Lib.compact l).length) []).toArray
    rw [grow_empty] at hrow hgr
    refine ⟨some ⟨g, 0, none⟩, cap, rfl, ⟨fun i hi => ⟨g, 0, rfl, ?_, ?_⟩⟩, hgr⟩
    · exact Nat.lt_of_lt_of_le (lt_blk hb) hgr.size
    · rw [hrow.cellAt (0 + i) (by simp; omega)]
      rw [Nat.zero_add, List.map_append, List.getElem?_append_left (by simpa using hi), List.getElem?_map, List.getElem?_eq_getElem hi]
      rfl
end Go.Proofs.YtfcdphgggdioeaaGreatDoor
/- SymTells: how many EXPRs a module has, at most; names that it uses, by both ways. -/
namespace Go.Proofs.YtfcdphgggdioeaaGreatDoor
open Go.RowKit Go.Sort
open Tp (X S Bs R Pr)
theorem allX_count : ∀ (n : Nat) (l : List X), SizeOf.sizeOf l ≤ n → Tp.WX l → (allX l).length ≤ Tp.NX l := by
  intro n
  induction n with
  | zero => intro l hl; cases l <;> simp at hl <;> omega
  | succ n ih =>
    intro l hl h
    cases l with
    | nil => simp [allX]
    | cons x xs =>
      obtain ⟨code, pos, nn, m, nm, op, le, ri, ar⟩ := x
      rw [Tp.WX] at h
      simp at hl
      obtain ⟨h1, h2⟩ := h
      have hxs := ih xs (by omega) h2
      rw [allX, Tp.NX]
      simp only [List.length_append, List.length_cons]
      have hr : 1 ≤ Tp.rN m := by unfold Tp.rN; split <;> omega
      have nil : (allX []).length = 0 := by simp [allX]
      rcases h1 with ⟨c, _, _, _, _, h5, h6, h7⟩ | ⟨c, _, h3, _, h5, h6, h7⟩ | ⟨c, _, h3, _, h5, _, h6, h7⟩ | ⟨c, _, _, _, _, h5, _, h6, h7⟩ | ⟨c, _, _, _, _, h5, _, h6, _, h7⟩ | ⟨c, _, h3, _, h5, h6, h7⟩
      · subst c; rw [h5, h6, h7]; simp [allX]; omega
      · subst c; rw [h5, h6, h7]; simp [allX]; omega
      · subst c; have := ih le (by omega) h5; rw [h6, h7]; simp [allX]; omega
      · subst c; have := ih le (by omega) h5; rw [h6, h7]; simp [allX]; omega
      · subst c; have := ih le (by omega) h5; have := ih ri (by omega) h6; rw [h7]; simp [allX]; omega
      · subst c; have := ih ar (by omega) h7; rw [h5, h6]; simp [allX]; omega
theorem allSt_count : ∀ (n : Nat) (l : List S), SizeOf.sizeOf l ≤ n → Tp.WS l → (allSt l).length ≤ Tp.NS l := by
  intro n
  induction n with
  | zero => intro l hl; cases l <;> simp at hl <;> omega
  | succ n ih =>
    intro l hl h
    cases l with
    | nil => simp [allSt]
    | cons x xs =>
      obtain ⟨code, pos, nm, ix, vl, th, el⟩ := x
      rw [Tp.WS] at h
      simp at hl
      obtain ⟨h1, h2⟩ := h
      have hxs := ih xs (by omega) h2
      rw [allSt, Tp.NS]
      simp only [List.length_append]
      have wv : Tp.ev vl → (allX vl).length ≤ Tp.NX vl := fun q => allX_count _ _ (Nat.le_refl _) q.1
      rcases h1 with ⟨c, h3, h4, h5, h6, h7⟩ | ⟨c, _, h4, h5, h6, h7⟩ | ⟨c, _, h4, h5, h6, h7⟩ | ⟨c, _, h4, h5, h6, h7⟩ | ⟨c, _, h4, h5, _, h6, h7⟩
      · subst c
        have := wv h5
        rw [h6, h7]
        rcases h4 with q | q
        · rw [q]; simp [allX, allSt]; omega
        · have hx := allX_count _ _ (Nat.le_refl _) q.1
          have hne : ix.isEmpty = false := by
            cases ix with
            | nil => simp at q
            | cons a t => rfl
          simp [allSt, hne]; omega
      · subst c
        have := wv h5; have := ih th (by omega) h6; have := ih el (by omega) h7
        rw [h4]
        simp [allX]
        cases el with
        | nil => simp [allSt]; omega
        | cons a t => simp; omega
      · subst c
        have := wv h5; have := ih th (by omega) h6
        rw [h4, h7]
        simp [allX, allSt]; omega
      · have := wv h5
        rw [h4, h6, h7]
        rcases c with c | c <;> subst c <;> simp [allX, allSt] <;> omega
      · subst c
        have := wv h5
        rw [h4, h6, h7]
        simp [allX, allSt]; omega
theorem usX_app (o : Bs) (l m : List X) : usX o (l ++ m) = usX o l ++ usX o m := by unfold usX; rw [List.filter_append, List.map_append]
theorem usX_one {o : Bs} (ho : o ≠ []) (y : X) (l : List X) : usX o (y :: l) = (if y.mod = o then [y.name] else []) ++ usX o l := by
  unfold usX
  by_cases h : y.mod = o
  · rw [List.filter_cons_of_pos (by simp [h, ho]), if_pos h]; rfl
  · rw [List.filter_cons_of_neg (by simp [h]), if_neg h]; rfl
theorem us_one (o : Bs) (r : R) : Tp.us o [r] = if r.mod = o then [r.name] else [] := by
  unfold Tp.us
  by_cases h : r.mod = o
  · rw [if_pos h, List.filter_cons_of_pos (by simp [h])]; rfl
  · rw [if_neg h, List.filter_cons_of_neg (by simp [h])]; rfl
/- the same names, in the same order -/
theorem us_allX {o : Bs} (ho : o ≠ []) : ∀ (n : Nat) (l : List X), SizeOf.sizeOf l ≤ n → Tp.WX l → usX o (allX l) = Tp.us o (Tp.rx l) := by
  intro n
  induction n with
  | zero => intro l hl; cases l <;> simp at hl <;> omega
  | succ n ih =>
    intro l hl h
    cases l with
    | nil => simp [allX, Tp.rx, usX, Tp.us]
    | cons x xs =>
      obtain ⟨code, pos, nn, m, nm, op, le, ri, ar⟩ := x
      rw [Tp.WX] at h
      simp at hl
      obtain ⟨h1, h2⟩ := h
      have hxs := ih xs (by omega) h2
      rw [allX, Tp.rx, usX_one ho]
      simp only [usX_app, Tp.us_app]
      rw [hxs]
      have nil : usX o (allX []) = Tp.us o (Tp.rx []) := by simp [allX, Tp.rx, usX, Tp.us]
      have nu : Tp.us o [] = [] := rfl
      have hno : ¬ ([] : Bs) = o := fun e => ho e.symm
      rcases h1 with ⟨c, _, hm, _, _, h5, h6, h7⟩ | ⟨c, _, h3, _, h5, h6, h7⟩ | ⟨c, _, h3, _, h5, _, h6, h7⟩ | ⟨c, _, hm, _, _, h5, _, h6, h7⟩ | ⟨c, _, hm, _, _, h5, _, h6, _, h7⟩ | ⟨c, _, h3, _, h5, h6, h7⟩
      · subst c; rw [show Tp.us o (if (1 : Nat) = 2 ∨ (1 : Nat) = 3 ∨ (1 : Nat) = 6 then [(⟨1, pos, m, nm, ar.length⟩ : R)] else []) = [] from by rw [if_neg (by decide)]; rfl, hm, if_neg hno]; rw [h5, h6, h7, nil]; simp only [List.append_assoc]
      · subst c; rw [show Tp.us o (if (2 : Nat) = 2 ∨ (2 : Nat) = 3 ∨ (2 : Nat) = 6 then [(⟨2, pos, m, nm, ar.length⟩ : R)] else []) = (if m = o then [nm] else []) from by rw [if_pos (by decide), us_one]]; rw [h5, h6, h7, nil]; simp only [List.append_assoc]
      · subst c; rw [show Tp.us o (if (3 : Nat) = 2 ∨ (3 : Nat) = 3 ∨ (3 : Nat) = 6 then [(⟨3, pos, m, nm, ar.length⟩ : R)] else []) = (if m = o then [nm] else []) from by rw [if_pos (by decide), us_one]]; rw [ih le (by omega) h5, h6, h7, nil]; simp only [List.append_assoc]
      · subst c; rw [show Tp.us o (if (4 : Nat) = 2 ∨ (4 : Nat) = 3 ∨ (4 : Nat) = 6 then [(⟨4, pos, m, nm, ar.length⟩ : R)] else []) = [] from by rw [if_neg (by decide)]; rfl, hm, if_neg hno]; rw [ih le (by omega) h5, h6, h7, nil]; simp only [List.append_assoc]
      · subst c; rw [show Tp.us o (if (5 : Nat) = 2 ∨ (5 : Nat) = 3 ∨ (5 : Nat) = 6 then [(⟨5, pos, m, nm, ar.length⟩ : R)] else []) = [] from by rw [if_neg (by decide)]; rfl, hm, if_neg hno]; rw [ih le (by omega) h5, ih ri (by omega) h6, h7, nil]; simp only [List.append_assoc]
      · subst c; rw [show Tp.us o (if (6 : Nat) = 2 ∨ (6 : Nat) = 3 ∨ (6 : Nat) = 6 then [(⟨6, pos, m, nm, ar.length⟩ : R)] else []) = (if m = o then [nm] else []) from by rw [if_pos (by decide), us_one]]; rw [ih ar (by omega) h7, h5, h6, nil]; simp only [List.append_assoc]
theorem us_allSt {o : Bs} (ho : o ≠ []) : ∀ (n : Nat) (l : List S), SizeOf.sizeOf l ≤ n → Tp.WS l → usX o (allSt l) = Tp.us o (Tp.rs l) := by
  intro n
  induction n with
  | zero => intro l hl; cases l <;> simp at hl <;> omega
  | succ n ih =>
    intro l hl h
    cases l with
    | nil => simp [allSt, Tp.rs, usX, Tp.us]
    | cons x xs =>
      obtain ⟨code, pos, nm, ix, vl, th, el⟩ := x
      rw [Tp.WS] at h
      simp at hl
      obtain ⟨h1, h2⟩ := h
      have hxs := ih xs (by omega) h2
      have hno : ¬ ([] : Bs) = o := fun e => ho e.symm
      rw [allSt, Tp.rs]
      simp only [usX_app, Tp.us_app]
      rw [hxs]
      have nilX : usX o (allX []) = Tp.us o (Tp.rx []) := by simp [allX, Tp.rx, usX, Tp.us]
      have nilS : usX o (allSt []) = Tp.us o (Tp.rs []) := by simp [allSt, Tp.rs, usX, Tp.us]
      have tg : ∀ (p : Prop) [Decidable p] (c pos : Nat) (nm : Bs), Tp.us o (if p then [(⟨c, pos, [], nm, 0⟩ : R)] else []) = [] := fun p _ c pos nm => by
        by_cases hp : p
        · rw [if_pos hp, us_one, if_neg hno]
        · rw [if_neg hp]; rfl
      rw [tg, List.nil_append]
      have wv : Tp.ev vl → usX o (allX vl) = Tp.us o (Tp.rx vl) := fun q => us_allX ho _ _ (Nat.le_refl _) q.1
      rcases h1 with ⟨c, h3, h4, h5, h6, h7⟩ | ⟨c, _, h4, h5, h6, h7⟩ | ⟨c, _, h4, h5, h6, h7⟩ | ⟨c, _, h4, h5, h6, h7⟩ | ⟨c, _, h4, h5, _, h6, h7⟩
      · rw [wv h5, h6, h7, nilS]
        rcases h4 with q | q
        · rw [q, nilX]
        · rw [us_allX ho _ _ (Nat.le_refl _) q.1]
      · rw [wv h5, ih th (by omega) h6, ih el (by omega) h7, h4, nilX]
      · rw [wv h5, ih th (by omega) h6, h4, h7, nilX, nilS]
      · rw [wv h5, h4, h6, h7, nilX, nilS]
      · rw [wv h5, h4, h6, h7, nilX, nilS]
/- all EXPRs of a module -/
def allP (ps : List Pr) : List X := (ps.map fun p => allSt p.body).flatten
theorem allP_take {ps : List Pr} {i : Nat} (h : i < ps.length) : allP (ps.take (i + 1)) = allP (ps.take i) ++ allSt ps[i].body := by
  unfold allP
  rw [List.take_succ_eq_append_getElem h, List.map_append, List.flatten_append]
  simp
theorem allP_part {ps : List Pr} {i : Nat} (h : i < ps.length) : (allP (ps.take i)).length + (allSt ps[i].body).length ≤ (allP ps).length := by
  have e : ps = ps.take (i + 1) ++ ps.drop (i + 1) := (List.take_append_drop _ _).symm
  have h2 : (allP ps).length = (allP (ps.take (i + 1))).length + (allP (ps.drop (i + 1))).length := by
    conv => lhs; rw [e]; unfold allP; rw [List.map_append, List.flatten_append, List.length_append]
    rfl
  rw [h2, allP_take h, List.length_append]
  omega
theorem allP_count : ∀ (ps : List Pr), (∀ p ∈ ps, Tp.WS p.body) → (allP ps).length ≤ (ps.map Tp.nP).sum := by
  intro ps
  induction ps with
  | nil => intro _; simp [allP]
  | cons p ps ih =>
    intro h
    have h1 := ih fun q hq => h q (List.mem_cons_of_mem _ hq)
    have h2 := allSt_count _ p.body (Nat.le_refl _) (h p (by simp))
    have e : allP (p :: ps) = allSt p.body ++ allP ps := by unfold allP; rw [List.map_cons, List.flatten_cons]
    have h3 : Tp.NS p.body ≤ Tp.nP p := by unfold Tp.nP; omega
    rw [e, List.length_append, List.map_cons, List.sum_cons]
    omega
theorem allM_count {m : Tp.M} (hm : Tp.WM m) : (allP m.procs).length + (allSt m.body).length ≤ Tp.nM m := by
  have h1 := allP_count m.procs fun p hp => (hm.p p hp).b
  have h2 := allSt_count _ m.body (Nat.le_refl _) hm.b
  unfold Tp.nM
  omega
theorem us_allM {m : Tp.M} (hm : Tp.WM m) {o : Bs} (ho : o ≠ []) : usX o (allP m.procs ++ allSt m.body) = Tp.us o (Tp.allR m) := by
  unfold Tp.allR
  rw [usX_app, Tp.us_app, us_allSt ho _ _ (Nat.le_refl _) hm.b]
  congr 1
  have : ∀ ps : List Pr, (∀ p ∈ ps, Tp.WS p.body) → usX o (allP ps) = Tp.us o ((ps.map fun p => Tp.rs p.body).flatten) := by
    intro ps
    induction ps with
    | nil => intro _; rfl
    | cons p ps ih =>
      intro h
      have e : allP (p :: ps) = allSt p.body ++ allP ps := by unfold allP; rw [List.map_cons, List.flatten_cons]
      rw [e, usX_app, List.map_cons, List.flatten_cons, Tp.us_app, ih fun q hq => h q (List.mem_cons_of_mem _ hq), us_allSt ho _ _ (Nat.le_refl _) (h p (by simp))]
  exact this m.procs fun p hp => (hm.p p hp).b
theorem usX_nil (l : List X) : usX [] l = [] := by
  unfold usX
  rw [List.filter_eq_nil_iff.2 (fun y _ => by simp)]
  rfl
end Go.Proofs.YtfcdphgggdioeaaGreatDoor
/- SymTells: the document's Used, walked. -/
namespace Go.Proofs.YtfcdphgggdioeaaGreatDoor
open Go.RowKit Go.Maps Go.WideElems Go.Sort
open Tp (X S Bs Pr)
theorem strs_snocT (l : List Bs) (n : Bs) : strs l ++ [.string (bs n)] = strs (l ++ [n]) := by simp [strs]
theorem nodup_leT : ∀ {l k : List Bs}, l.Nodup → (∀ x ∈ l, x ∈ k) → l.length ≤ k.length
  | [], _, _, _ => Nat.zero_le _
  | x :: t, k, hn, hs => by
    have hx := hs x (by simp)
    obtain ⟨h1, h2⟩ := List.nodup_cons.1 hn
    have h3 := nodup_leT (k := k.erase x) h2 (fun y hy => (List.mem_erase_of_ne (fun e => h1 (by rw [← e]; exact hy))).2 (hs y (by simp [hy])))
    rw [List.length_erase_of_mem hx] at h3
    have := List.length_pos_of_mem hx
    simp only [List.length_cons]
    omega
set_option maxRecDepth 100000 in
theorem sortStr_post {w : World} {base : Nat} {v : Value} {l : List Bs} (h : w.ownsRow base 9 1 v l.length (strs l)) (hl : l.length ≤ 1000000) :
    Calls Tryz.prog 22 #[v] w fun e w' => e = .returned (.tuple #[]) ∧ w'.ownsRow base 9 1 v l.length (strs (sK l)) ∧ w.grownBy w' v.ownBlock := by
  have HC := Lib.hid (sortE_post h hl)
  obtain ⟨a, c, rfl⟩ := owns_shape h
  clear h
  generalize hn : l.length = n at *
  clear hn
  go_enter Tryz.func22, Tryz.ntmps22
  go_wp2_with fail
  refine HC.out.mono ?_
  rintro e w1 ⟨rfl, h1, h2⟩
  have H1 := Lib.hid h1
  have H2 := Lib.hid h2
  clear h1 h2
  go_wp2_with fail
  go_end0
  exact ⟨rfl, H1.out, H2.out⟩
def UsedR (w : World) (L : List Bs) (e : Ending) (w' : World) : Prop := ∃ (a : Option Addr) (c : Nat) (K : List Bs), e = .returned (.slice a K.length c) ∧ K.Nodup ∧ (∀ x, x ∈ K ↔ x ∈ L) ∧ StrsAt w' (sK K) a ∧ Below w.heap.size w w'
def WkU (o : Bs) (bm p1 p2 : Nat) (W0 : World) (l : List S) (v : Value) : Prop := ∀ (W' : World) (s : List X), Ext bm W0 W' → s.length + (allSt l).length ≤ 100000 → UsI o bm p1 p2 s W' → Calls Tryz.prog 57 #[v, .func (.func 56) #[] #[.pointer (some ⟨p1, 0, none⟩), .pointer (some ⟨p2, 0, none⟩)]] W' fun e w' => e = .returned (.tuple #[]) ∧ UsI o bm p1 p2 (s ++ allSt l) w' ∧ Ext bm W' w'
set_option maxRecDepth 100000 in
set_option maxHeartbeats 4000000 in
theorem rused_walk {w : World} {nm o : Bs} {il gn pn bn ic gc pc bc : Nat} {ia ga pa ba : Option Addr} {ps : List Pr} {body : List S} (hpl : ps.length = pn) (hpn : pn ≤ 1000) (hct : (allP ps).length + (allSt body).length ≤ 100000)
    (hP : ∀ i (hi : i < ps.length), ∃ (g : Nat) (x0 : Bs) (x1 : Nat) (x2 : Bool) (y3 y4 y5 : Option Addr) (n3 n4 n5 c3 c4 c5 : Nat), pa = some ⟨g, 0, none⟩ ∧ g < w.heap.size ∧ w.cell? ⟨g, i * 6, none⟩ = some (.string (bs x0)) ∧ w.cell? ⟨g, i * 6 + 1, none⟩ = some (.int .i64 (x1 : Int)) ∧ w.cell? ⟨g, i * 6 + 2, none⟩ = some (.bool x2) ∧ w.cell? ⟨g, i * 6 + 3, none⟩ = some (.slice y3 n3 c3) ∧ w.cell? ⟨g, i * 6 + 4, none⟩ = some (.slice y4 n4 c4) ∧ w.cell? ⟨g, i * 6 + 5, none⟩ = some (.slice y5 n5 c5) ∧
      ∀ bm p1 p2 W0, w.heap.size ≤ bm → Below w.heap.size w W0 → bm < W0.heap.size → WkU o bm p1 p2 W0 ps[i].body (.slice y5 n5 c5))
    (hB : ∀ bm p1 p2 W0, w.heap.size ≤ bm → Below w.heap.size w W0 → bm < W0.heap.size → WkU o bm p1 p2 W0 body (.slice ba bn bc)) :
    Calls Tryz.prog 35 #[.agg #[.string (bs nm), .slice ia il ic, .slice ga gn gc, .slice pa pn pc, .slice ba bn bc], .string (bs o)] w (UsedR w (usX o (allP ps ++ allSt body))) := by
  have hmf : ∀ (fn : Fn) (first cap : Array Value) (w : World), (Instr.makeFunc fn first cap).run Tryz.prog w = .ok (.func fn first cap) w := fun _ _ _ _ => rfl
  have hmm := @run_makeMap Tryz.prog
  have hpn' : (pn : Int) ≤ 1000 := by omega
  obtain ⟨mb, hmb⟩ : ∃ b, b = w.heap.size := ⟨_, rfl⟩
  obtain ⟨p1, hp1⟩ : ∃ b, b = w.heap.size + 1 := ⟨_, rfl⟩
  obtain ⟨bm, hbm⟩ : ∃ b, b = w.heap.size + 2 := ⟨_, rfl⟩
  obtain ⟨p2, hp2⟩ : ∃ b, b = w.heap.size + 3 := ⟨_, rfl⟩
  obtain ⟨W0, hW0⟩ : ∃ W0, W0 = (((w.alloc (.cells #[.string (bs nm), .slice ia il ic, .slice ga gn gc, .slice pa pn pc, .slice ba bn bc] 28)).alloc (.cells #[.string (bs o)] 9)).alloc (.map #[] 0)).alloc (.cells #[.map (some (w.heap.size + 2))] 66) := ⟨_, rfl⟩
  have hB0 : Below w.heap.size w W0 := by rw [hW0]; exact ((((Below.refl _ _).alloc (Nat.le_refl _) _).alloc (by simp) _).alloc (by simp; omega) _).alloc (by simp; omega) _
  have hs0 : W0.heap.size = w.heap.size + 4 := by rw [hW0]; simp
  have hkm : W0.heap[mb]? = some (.cells #[.string (bs nm), .slice ia il ic, .slice ga gn gc, .slice pa pn pc, .slice ba bn bc] 28 (0, 0)) := by
    rw [hW0, hmb]
    exact (Below.heap_alloc _ _ _ (by simp; omega)).trans ((Below.heap_alloc _ _ _ (by simp; omega)).trans ((Below.heap_alloc _ _ _ (by simp)).trans (new_blk _ _)))
  have hI0 : UsI o bm p1 p2 [] W0 := by
    refine ⟨?_, ?_, by omega, by omega, 0, Nat.le_refl _, ?_⟩
    · rw [hW0, hp1]
      refine cell_alloc' (cell_alloc' ?_ _) _
      have := new_blk (w.alloc (.cells #[.string (bs nm), .slice ia il ic, .slice ga gn gc, .slice pa pn pc, .slice ba bn bc] 28)) (.cells #[.string (bs o)] 9)
      exact (cell_blk (by simpa using this)).trans rfl
    · rw [hW0, hp2, hbm]
      have := new_blk (((w.alloc (.cells #[.string (bs nm), .slice ia il ic, .slice ga gn gc, .slice pa pn pc, .slice ba bn bc] 28)).alloc (.cells #[.string (bs o)] 9)).alloc (.map #[] 0)) (.cells #[.map (some (w.heap.size + 2))] 66)
      exact (cell_blk (by simpa using this)).trans rfl
    · have hm := MapV.made ((w.alloc (.cells #[.string (bs nm), .slice ia il ic, .slice ga gn gc, .slice pa pn pc, .slice ba bn bc] 28)).alloc (.cells #[.string (bs o)] 9))
      have e : boolF (usX o []) = fun _ => none := by funext k; simp [boolF, usX]
      have e2 : ((w.alloc (.cells #[.string (bs nm), .slice ia il ic, .slice ga gn gc, .slice pa pn pc, .slice ba bn bc] 28)).alloc (.cells #[.string (bs o)] 9)).heap.size = bm := by rw [hbm]; simp
      rw [e]
      rw [e2] at hm
      refine hm.on ?_
      rw [hW0]
      exact Below.heap_alloc _ _ _ (by simp; omega)
  have HI0 := Lib.hid hI0
  have HB0 := Lib.hid hB0
  have HKM := Lib.hid hkm
  have HP := Lib.hid hP
  have HBD := Lib.hid (hB bm p1 p2 W0 (by omega) hB0 (by omega))
  have HPL := Lib.hid hpl
  have HCT := Lib.hid hct
  have hmbm : mb ≠ bm := by omega
  have hbw : w.heap.size ≤ bm := by omega
  have hbl0 : bm < W0.heap.size := by omega
  have y3 : W0.cell? ⟨mb, 3, none⟩ = some (.slice pa pn pc) := cell_blk hkm
  have hlm := lt_blk hkm
  have HKE : Hid (∀ W, Ext bm W0 W → W.heap[mb]? = some (.cells #[.string (bs nm), .slice ia il ic, .slice ga gn gc, .slice pa pn pc, .slice ba bn bc] 28 (0, 0)) ∧ Below w.heap.size w W) := fun W hE => ⟨(hE.block mb (lt_blk hkm) hmbm).trans hkm, hB0.trans (ext_below hE hbw hB0.size)⟩
  clear hI0 hB0 hkm hP hB hpl hct
  go_enter Tryz.func35, Tryz.ntmps35
  go_upto_region 2 with fail
  rw [show w.heap.size + 1 + 1 = w.heap.size + 2 by omega, show w.heap.size + 1 + 1 + 1 = w.heap.size + 3 by omega]
  rw [← hW0, ← hp1, ← hp2, ← hbm, ← hmb]
  clear hW0 hmb hp1 hbm hp2 hmm
  go_wp2_with fail
  clear y3 hlm
  go_loopg [16] pn (fun k vi wr => ∃ i : Nat, i ≤ pn ∧ k = pn - i ∧ vi = .int .i64 (i : Int) ∧ Hid (UsI o bm p1 p2 (allP (ps.take i)) wr) ∧ Hid (Ext bm W0 wr))
  case atStart => exact ⟨0, by omega, by omega, rfl, by simpa [allP] using HI0, Ext.refl _ _⟩
  case round =>
    obtain ⟨i, hid, hk, rfl, HII, HE⟩ := hrel
    clear HI0
    by_cases hlt : i < pn
    · have hlt' : (i : Int) < (pn : Int) := by omega
      have hil : i < ps.length := by have := HPL.out; omega
      obtain ⟨g, x0, x1, x2, y3, y4, y5, n3, n4, n5, c3, c4, c5, hga, hgB, k0, k1, k2, k3, k4, k5, hwk⟩ := HP.out i hil
      subst hga
      obtain ⟨_, hbr⟩ := HKE.out wr HE.out
      have kc0 := (hbr.cell (p := ⟨g, i * 6, none⟩) hgB).trans k0
      have kc1 := (hbr.cell (p := ⟨g, i * 6 + 1, none⟩) hgB).trans k1
      have kc2 := (hbr.cell (p := ⟨g, i * 6 + 2, none⟩) hgB).trans k2
      have kc3 := (hbr.cell (p := ⟨g, i * 6 + 3, none⟩) hgB).trans k3
      have kc4 := (hbr.cell (p := ⟨g, i * 6 + 4, none⟩) hgB).trans k4
      have kc5 := (hbr.cell (p := ⟨g, i * 6 + 5, none⟩) hgB).trans k5
      have hglr : g < wr.heap.size := Nat.lt_of_lt_of_le hgB hbr.size
      obtain ⟨w1, hw1⟩ : ∃ w1, w1 = wr.alloc (.cells #[.string (bs x0), .int .i64 (x1 : Int), .bool x2, .slice y3 n3 c3, .slice y4 n4 c4, .slice y5 n5 c5] 62) := ⟨_, rfl⟩
      obtain ⟨gb, hgb⟩ : ∃ gb, gb = wr.heap.size := ⟨_, rfl⟩
      have hbl : Below wr.heap.size wr w1 := by rw [hw1]; exact (Below.refl _ _).alloc (Nat.le_refl _) _
      have hblk : w1.heap[gb]? = some (.cells #[.string (bs x0), .int .i64 (x1 : Int), .bool x2, .slice y3 n3 c3, .slice y4 n4 c4, .slice y5 n5 c5] 62 (0, 0)) := by rw [hw1, hgb]; exact new_blk _ _
      have p5 : w1.cell? ⟨gb, 5, none⟩ = some (.slice y5 n5 c5) := cell_blk hblk
      have hgl1 := lt_blk hblk
      have hx1 : Ext bm W0 w1 := HE.out.trans (Ext.of_below hbl)
      have hpt := allP_part hil
      have HC := Lib.hid (hwk bm p1 p2 W0 hbw HB0.out hbl0 w1 (allP (ps.take i)) hx1 (by have := HCT.out; omega) (HII.out.on hbl))
      have HX1 := Lib.hid hx1
      have HTK := Lib.hid (allP_take hil)
      clear k0 k1 k2 k3 k4 k5 hwk hbr hbl hblk hx1 hpt
      go_upto_region 6 with fail
      rw [← hw1, ← hgb]
      clear hw1 hgb kc0 kc1 kc2 kc3 kc4 kc5 hglr
      go_wp2_with fail
      refine HC.out.mono ?_
      rintro e w2 ⟨rfl, hI2, hx2⟩
      have HI2 : Hid (UsI o bm p1 p2 (allP (ps.take (i + 1))) w2) := by show UsI _ _ _ _ _ _; rw [HTK.out]; exact hI2
      have HX2 := Lib.hid (HX1.out.trans hx2)
      clear hI2 hx2 p5 hgl1 HC
      go_wp2_with fail
      go_roundg (pn - (i + 1))
      case measure => omega
      case rel => exact ⟨i + 1, by omega, rfl, by go_num, HI2, HX2⟩
    · have hlt' : ¬ (i : Int) < (pn : Int) := by omega
      have hei : i = ps.length := by have := HPL.out; omega
      have hI1 : UsI o bm p1 p2 (allP ps) wr := by have := HII.out; rw [hei, List.take_length] at this; exact this
      obtain ⟨hmr, hbr⟩ := HKE.out wr HE.out
      have y4 : wr.cell? ⟨mb, 4, none⟩ = some (.slice ba bn bc) := cell_blk hmr
      have hlm := lt_blk hmr
      have HC := Lib.hid (HBD.out wr (allP ps) HE.out HCT.out hI1)
      have HER := Lib.hid HE.out
      clear hei hI1 hmr hbr HII HP HBD
      go_wp2_with fail
      refine HC.out.mono ?_
      rintro e w2 ⟨rfl, hI2, hx2⟩
      have hx02 := HER.out.trans hx2
      obtain ⟨_, hb2⟩ := HKE.out w2 hx02
      have HB2 := Lib.hid hb2
      obtain ⟨n, hn, hmv⟩ := hI2.mp
      have c2 := hI2.c2
      have hl2 := lt_of_cell c2
      obtain ⟨D, hown, hD⟩ := hmv.own
      obtain ⟨K, k1, k2, k3, k4⟩ := own_keys hown hD
      have HK1 := Lib.hid k1
      have HK2 : Hid (∀ x, x ∈ K ↔ x ∈ usX o (allP ps ++ allSt body)) := fun x => by
        rw [k2 x]
        unfold boolF
        by_cases hq : x ∈ usX o (allP ps ++ allSt body)
        · rw [if_pos hq]; simp [hq]
        · rw [if_neg hq]; simp [hq]
      have hkn : K.length ≤ 100000 := by have := HCT.out; simp only [List.length_append] at hn; omega
      have HL0 := Lib.hid (LeftK.start (K := K) hD k2)
      have HOWN := Lib.hid hown
      have hmbl : bm < w2.heap.size := hmv.lt
      clear hI2 hx2 hx02 hb2 hmv hown hD k1 k2 k3 k4 hn y4 hlm HC HER HKE
      obtain ⟨i1, hi, hz0, hz1, hz2⟩ := info_parts Tryz.infoString
      go_wp2_with (at_range; refine wpList_range_own _ rfl _ 66 rfl 9 4 skey Tryz.underlying66 heldV bm n D rfl HOWN.out ?_; intro w5 hrg5 hg5 hs5)
      go_frame
      have hb5 : Below w2.heap.size w2 w5 := (Below.refl _ _).grown hg5 (Nat.le_refl _) (fun k hk => by cases hk)
      have HRG5 := Lib.hid hrg5
      have HR5 : Hid (w5.ownsRow w2.heap.size 9 1 (.slice none 0 0) ([] : List Bs).length (strs [])) := World.ownsRow_nil _ _ _ _
      have HB5 := Lib.hid hb5
      obtain ⟨r, hr⟩ : ∃ r, r = w2.heap.size := ⟨_, rfl⟩
      rw [← hr] at HRG5 ⊢
      have hr3 : w2.heap.size ≤ r := by omega
      clear hrg5 hg5 hs5 hb5 HOWN hr c2 hl2
      go_loopg [9] (Maps.size D) (fun k v9 wr => ∃ left d1 ta tc, Hid (wr.ranges Tryz.prog 9 heldV bm r n D left k) ∧ Hid (LeftK K d1 left) ∧ v9 = .slice ta d1.length tc ∧ Hid (wr.ownsRow w2.heap.size 9 1 (.slice ta d1.length tc) d1.length (strs d1)) ∧ Hid (Below w2.heap.size w2 wr))
      case atStart => exact ⟨_, [], _, _, HRG5, HL0, rfl, HR5, HB5⟩
      case round =>
        obtain ⟨left, d1, ta, tc, HRG, HLK, rfl, HRw, HBr⟩ := hrel
        clear HRG5 HL0 HR5 HB5
        have hsr := HBr.out.size
        have hdl : d1.length ≤ K.length := nodup_leT HLK.out.1 HLK.out.2.1
        go_wp2_with (first | (at_next; refine wpList_next_ranges _ rfl _ rfl 9 skey heldV (fun x : Bs => .string (bs x)) (fun v : Value => v) (fun key kl h => (skey_inv' h).imp fun _ q => q.1) (fun v _ _ => ⟨v, rfl⟩) bm r n D left _ rfl HRG.out ?_ ?_))
        · intro _ hdone
          have hdK := HLK.out.done hdone
          have hpm : d1.Perm K := perm_of HLK.out.1 HK1.out hdK
          have HSR := Lib.hid (sortStr_post HRw.out (by omega))
          have HSK : Hid (sK d1 = sK K) := sK_perm hpm
          have HLEN : Hid (d1.length = K.length) := hpm.length_eq
          clear hdone hdK hpm hdl HRG HLK
          generalize hdn : d1.length = dl at *
          clear hdn
          go_wp2_with fail
          refine HSR.out.mono ?_
          rintro e w6 ⟨rfl, how, hgr⟩
          have HB6 : Hid (Below w.heap.size w w6) := HB2.out.trans ((HBr.out.trans ((Below.refl _ _).grown hgr hsr (fun k hk => (HRw.out.lt k hk).1))).mono HB2.out.size)
          have HS6 : Hid (StrsAt w6 (sK K) ta) := by
            show StrsAt _ _ _
            refine own_strsAt (m := dl) (B := w2.heap.size) (c := tc) ?_
            rw [sK_len, ← HLEN.out, ← HSK.out]
            exact how
          clear how hgr HSR HRw
          go_wp2_with fail
          go_ret
          exact ⟨ta, tc, K, by have := HLEN.out; subst this; rfl, HK1.out, HK2.out, HS6.out, HB6.out⟩
        · intro x cv kl yy1 yy2 w9 cnt' hkey hlk hR hat hrg9 hlt9 hg9 hs9 hen
          obtain ⟨x', hx1, hx2⟩ := skey_inv' hkey
          have hxx : x = x' := by injection hx1 with hx1; rw [← bs_toList x, ← bs_toList x', hx1]
          subst hxx
          rw [hx2] at hlk hrg9
          obtain ⟨hxK, hxn, hLK2⟩ := HLK.out.next hlk
          have hit := ranges_iter HRG.out
          have HB9 : Hid (Below w2.heap.size w2 w9) := HBr.out.trans ((Below.refl _ _).grown hg9 hsr (fun k hk => by cases hk; exact hr3))
          have hR9 : w9.ownsRow w2.heap.size 9 1 (.slice ta d1.length tc) d1.length (strs d1) := owns_keep HRw.out (fun b _ hl q => hg9.block b hl (fun e => own_ne_iter HRw.out hit (by rw [q]; exact e)))
          obtain ⟨w10, hw10⟩ : ∃ w10, w10 = w9.alloc (.cells #[.string (bs x)] 9) := ⟨_, rfl⟩
          have hb10 : Below w9.heap.size w9 w10 := by rw [hw10]; exact (Below.refl _ _).alloc (Nat.le_refl _) _
          have hk10 : w10.heap[w9.heap.size]? = some (.cells #[.string (bs x)] 9 (0, 0)) := by rw [hw10]; exact new_blk _ _
          have HROW : Hid (w10.ownsRow w2.heap.size 9 1 (.slice ta d1.length tc) d1.length (strs d1)) := owns_keep hR9 (fun b _ hl _ => hb10.block b hl)
          have HRW10 := HROW
          have HNEWS : Hid (∀ j u, [Value.string (bs x)][j]? = some u → w10.cell? ((⟨w9.heap.size, 0, none⟩ : Addr).add j) = some u) := fun j u hj => by
            rw [Addr.add_lit]
            cases j with
            | zero => simp at hj; subst hj; exact (cell_blk hk10).trans rfl
            | succ j => simp at hj
          have HB10 : Hid (Below w2.heap.size w2 w10) := HB9.out.trans (hb10.mono HB9.out.size)
          have hs10 := HB10.out.size
          have hrl9 := hrg9.lt
          have hml9 : bm < w9.heap.size := by have := HB9.out.size; omega
          have HRG10 := Lib.hid (ranges_keep hrg9 (hb10.block bm hml9) (hb10.block r hrl9))
          have HLK2 := Lib.hid hLK2
          have hd100 : d1.length ≤ 100000 := by omega
          have HDX : Hid ((d1 ++ [x]).length = d1.length + 1) := by show _ = _; simp
          obtain ⟨dl, hdq⟩ : ∃ dl, dl = d1.length := ⟨_, rfl⟩
          have HDQ := Lib.hid hdq
          rw [← hdq] at HROW hd100 ⊢
          rw [hw10] at HROW HNEWS
          clear hkey hlk hR hat hrg9 hg9 hs9 hx1 hx2 hxn hLK2 HRG HLK HBr hit hR9 hb10 hk10 hdq hdl hrl9 hml9 HRw
          go_wp2_with (at_builtin; refine wpList_append_where _ rfl _ _ 22 rfl w2.heap.size 9 i1 (.string ⟨#[]⟩) 1 16 Tryz.underlying22 hi hz0 hz1 hz2 rfl (by decide) _ dl _ rfl HROW.out ⟨w9.heap.size, 0, none⟩ 1 1 [.string (bs x)] rfl rfl HNEWS.out (by intro u hu; simp at hu; subst hu; rfl) (by unfold maxLen; omega) (by omega) (by rw [← hw10]; omega) ?_)
          rw [← hw10]
          intro v8 w11 h11 g11 _
          have g11' : w10.grownBy w11 (Value.slice ta d1.length tc).ownBlock := by rw [← HDQ.out]; exact g11
          have HB11 : Hid (Below w2.heap.size w2 w11) := HB10.out.trans ((Below.refl _ _).grown g11' hs10 (fun k hk => (HRW10.out.lt k hk).1))
          obtain ⟨ta', tc', hv8⟩ := owns_shape h11
          subst hv8
          have HR11 : Hid (w11.ownsRow w2.heap.size 9 1 (.slice ta' (d1 ++ [x]).length tc') (d1 ++ [x]).length (strs (d1 ++ [x]))) := by
            show World.ownsRow _ _ _ _ _ _ _
            rw [HDX.out, ← strs_snocT, ← HDQ.out]
            exact h11
          have HRG11 := Lib.hid (ranges_keep HRG10.out ((HB11.out.block bm hmbl).trans (HB10.out.block bm hmbl).symm) (g11'.block r HRG10.out.lt (fun e => own_ne_iter HRW10.out (ranges_iter HRG10.out) e.symm)))
          have HLn : Hid (dl + 1 = (d1 ++ [x]).length) := by show _ = _; rw [HDX.out, HDQ.out]
          clear h11 g11 g11' HROW HNEWS hw10 hen
          go_wp2_with fail
          go_roundg cnt'
          case measure => exact hlt9
          case rel => exact ⟨_, d1 ++ [x], ta', tc', HRG11, HLK2, by rw [← HLn.out], HR11, HB11⟩
end Go.Proofs.YtfcdphgggdioeaaGreatDoor
/- SymTells: both Used. -/
namespace Go.Proofs.YtfcdphgggdioeaaGreatDoor
open Go.RowKit Go.Maps Go.Sort
open Tp (Bs X S Pr)
set_option maxRecDepth 100000 in
set_option maxHeartbeats 2000000 in
theorem usedE_post {m : Tp.M} (hpc : m.procs.length ≤ 1000) (hct : (Tp.allR m).length ≤ 100000) {w : World} {ia ga pa ba : Option Addr} {ic gc pc bc : Nat} (h : MB w w.heap.size m ia ga pa ba ic gc pc bc) (of : Bs) :
    Calls Tryz.prog 33 #[.agg #[.string (bs m.name), .slice ia m.imports.length ic, .slice ga m.vars.length gc, .slice pa m.procs.length pc, .slice ba m.body.length bc], .string (bs of)] w fun e w' => ∃ (a : Option Addr) (c : Nat), e = .returned (.slice a (Lib.compact (sK (Tp.usedR m of))).length c) ∧ StrsAt w' (Lib.compact (sK (Tp.usedR m of))) a ∧ Below w.heap.size w w' := by
  have hie : (bs of).toList.isEmpty = of.isEmpty := by rw [bs_toList]
  by_cases h0 : of = []
  · subst h0
    have hie' : (bs []).toList.isEmpty = true := hie
    have HE : Hid (Lib.compact (sK (Tp.usedR m [])) = []) := by
      show _ = _
      have e : Tp.usedR m [] = [] := by simp [Tp.usedR]
      rw [e]
      simp [sK, Lib.compact, Lib.compactUpTo]
    have HB : Hid (∀ o1 o2, Below w.heap.size w ((w.alloc o1).alloc o2)) := fun o1 o2 => ((Below.refl _ _).alloc (Nat.le_refl _) _).alloc (by simp) _
    clear h hie
    go_enter Tryz.func33, Tryz.ntmps33
    go_wp2_with fail
    go_ret
    refine ⟨none, 0, ?_, ?_, HB.out _ _⟩
    · rw [HE.out]; rfl
    · rw [HE.out]; exact ⟨fun i hi => by simp at hi⟩
  · have hie' : (bs of).toList.isEmpty = false := by
      rw [hie]
      cases of with
      | nil => exact absurd rfl h0
      | cons a t => rfl
    obtain ⟨w0, hw0⟩ : ∃ w0, w0 = ((w.alloc (.cells #[.string (bs m.name), .slice ia m.imports.length ic, .slice ga m.vars.length gc, .slice pa m.procs.length pc, .slice ba m.body.length bc] 28)).alloc (.cells #[.string (bs of)] 9)).alloc (.cells #[.slice none 0 0] 22) := ⟨_, rfl⟩
    have hb0 : Below w.heap.size w w0 := by rw [hw0]; exact (((Below.refl _ _).alloc (Nat.le_refl _) _).alloc (by simp) _).alloc (by simp; omega) _
    have hs0 : w0.heap.size = w.heap.size + 3 := by rw [hw0]; simp
    have hkn : w0.heap[w.heap.size + 1 + 1]? = some (.cells #[.slice none 0 0] 22 (0, 0)) := by
      rw [hw0]
      have := new_blk ((w.alloc (.cells #[.string (bs m.name), .slice ia m.imports.length ic, .slice ga m.vars.length gc, .slice pa m.procs.length pc, .slice ba m.body.length bc] 28)).alloc (.cells #[.string (bs of)] 9)) (.cells #[.slice none 0 0] 22)
      simpa using this
    have hko : w0.heap[w.heap.size + 1]? = some (.cells #[.string (bs of)] 9 (0, 0)) := by
      rw [hw0, Below.heap_alloc _ _ _ (by simp)]
      have := new_blk (w.alloc (.cells #[.string (bs m.name), .slice ia m.imports.length ic, .slice ga m.vars.length gc, .slice pa m.procs.length pc, .slice ba m.body.length bc] 28)) (.cells #[.string (bs of)] 9)
      simpa using this
    have hu0 : UseSt w0 (w.heap.size + 1) (w.heap.size + 1 + 1) of [] := ⟨(cell_blk hko).trans rfl, ⟨_, hkn, World.ownsRow_nil _ _ _ _⟩, by omega⟩
    have HC := Lib.hid (eachExpr_all h0 hpc hct (by omega) (h.to (B := w.heap.size + 1 + 1) hb0 (by omega)) hu0)
    have HB0 := Lib.hid hb0
    have HUS : Hid (Tp.us of (Tp.allR m) = Tp.usedR m of) := Tp.us_used h0
    have hul := Tp.us_len of (Tp.allR m)
    clear hb0 hkn hko hu0 h hie
    go_enter Tryz.func33, Tryz.ntmps33
    go_wp2_with fail
    rw [← hw0]
    clear hw0
    refine HC.out.mono ?_
    rintro e w1 ⟨rfl, hb1, hu1, hk1⟩
    generalize Tp.us of (Tp.allR m) = l at *
    obtain ⟨v, hv1, hv2⟩ := hu1.c
    have k1 : w1.cell? ⟨w.heap.size + 1 + 1, 0, none⟩ = some v := (cell_blk hv1).trans rfl
    have hl1 : w.heap.size + 1 + 1 < w1.heap.size := lt_blk hv1
    have HB1 : Hid (Below (w.heap.size + 1 + 1) w0 w1) := hb1
    have HSO := Lib.hid (sortE_post hv2 (by omega))
    have HV2 := Lib.hid hv2
    have HK1 := Lib.hid hv1
    clear hb1 hu1 hk1 hv1 hv2 HC
    obtain ⟨a, c, rfl⟩ := owns_shape HV2.out
    go_wp2_with fail
    refine HSO.out.mono ?_
    rintro e w2 ⟨rfl, ho2, hg2⟩
    have hne : some (w.heap.size + 1 + 1) ≠ (Value.slice a l.length c).ownBlock := fun q => by
      have := (HV2.out.lt _ q.symm).1
      omega
    have e2 := (hg2.block _ hl1 hne).trans HK1.out
    have k2 : w2.cell? ⟨w.heap.size + 1 + 1, 0, none⟩ = some (.slice a l.length c) := (cell_blk e2).trans rfl
    have hl2' : w.heap.size + 1 + 1 < w2.heap.size := lt_blk e2
    have HB2 : Hid (Below w.heap.size w w2) := by
      have : Below (w.heap.size + 1 + 1) w0 w2 := HB1.out.grown hg2 (by omega) (fun k hk => by have := (HV2.out.lt k hk).1; omega)
      exact HB0.out.trans (this.mono (by omega))
    have ho2' : w2.ownsRow (w.heap.size + 1 + 1 + 1) 9 1 (.slice a l.length c) (sK l).length (strs (sK l)) := by rw [sK_len]; exact ho2
    have hcp := compactE_post ho2' (by rw [sK_len]; omega)
    have HCP := Lib.hid hcp
    have HO2 := Lib.hid ho2
    clear hcp ho2 ho2' hg2 e2 HSO k1 HK1
    go_wp2_with fail
    refine HCP.out.mono ?_
    rintro e w3 ⟨a3, c3, rfl, hst, hg3⟩
    have HB3 : Hid (Below w.heap.size w w3) := HB2.out.grown hg3 (by omega) (fun k hk => by have := (HO2.out.lt k hk).1; omega)
    have HST := Lib.hid hst
    have HLE : Hid (Lib.compact (sK l) = Lib.compact (sK (Tp.usedR m of))) := by show _ = _; rw [HUS.out]
    clear hst hg3 HCP k2
    generalize hcq : (Lib.compact (sK l)).length = cq
    go_wp2_with fail
    go_ret
    exact ⟨a3, c3, by rw [← HLE.out, hcq]; rfl, by rw [← HLE.out]; exact HST.out, HB3.out⟩
theorem rused_post {m : Tp.M} (hm : Tp.WM m) (hct : (allP m.procs).length + (allSt m.body).length ≤ 100000) {w : World} {ia ga pa ba : Option Addr} {ic gc pc bc : Nat} (h : MB w w.heap.size m ia ga pa ba ic gc pc bc) (o : Bs) :
    Calls Tryz.prog 35 #[.agg #[.string (bs m.name), .slice ia m.imports.length ic, .slice ga m.vars.length gc, .slice pa m.procs.length pc, .slice ba m.body.length bc], .string (bs o)] w (UsedR w (usX o (allP m.procs ++ allSt m.body))) := by
  have hwk : ∀ (l : List S) (v : Value) (cs : List Value), Tp.WS l → RepS w (fun b => b < w.heap.size) l cs → OwnS w (fun b => b < w.heap.size) v l.length cs → ∀ bm p1 p2 W0, w.heap.size ≤ bm → Below w.heap.size w W0 → bm < W0.heap.size → WkU o bm p1 p2 W0 l v := by
    intro l v cs hw hr ho bm p1 p2 W0 hbm hb0 hbl W' s hx hc hI
    have hk : ∀ b, b < w.heap.size → b < w.heap.size → W'.heap[b]? = w.heap[b]? ∧ b < w.heap.size := fun b hi _ => ⟨(hx.block b (Nat.lt_of_lt_of_le hi hb0.size) (by omega)).trans (hb0.block b hi), hi⟩
    have := walk_all (vis_used o bm p1 p2) (D := fun b => b < w.heap.size) (fun i (hi : i < w.heap.size) => by omega) _ l (Nat.le_refl _) hw W' v cs s hc hI (Nat.lt_of_lt_of_le hbl hx.size) (hr.mono' hk) (ho.mono hk)
    rw [fold_app] at this
    exact this
  refine rused_walk rfl hm.sml.pc hct (fun i hi => ?_) ?_
  · obtain ⟨pcs, p1, p2⟩ := h.pr
    obtain ⟨g, cap, q1, q2, q3, q4⟩ := row_cell p2 (by omega)
    cases q1
    obtain ⟨pv, vv, bv, bcs', r1, r2, r3, r4, r5⟩ := repp_get m.procs pcs p1 i hi
    obtain ⟨y3, c3, rfl⟩ := r2.shape
    obtain ⟨y4, c4, rfl⟩ := r3.shape
    obtain ⟨y5, c5, rfl⟩ := r5.shape
    have hc := fun j (hj : j < 6) => (q4 (i * 6 + j) (by omega)).trans (r1 j hj)
    exact ⟨g, m.procs[i].name, m.procs[i].pos, m.procs[i].seen, y3, y4, y5, _, _, _, c3, c4, c5, rfl, q2, hc 0 (by omega), hc 1 (by omega), hc 2 (by omega), hc 3 (by omega), hc 4 (by omega), hc 5 (by omega), hwk _ _ bcs' (hm.p _ (List.getElem_mem hi)).b r4 r5⟩
  · obtain ⟨bcs, b1, b2⟩ := h.bd
    exact hwk _ _ bcs hm.b b1 b2
/- both come to the same names -/
theorem used_same {m : Tp.M} (hm : Tp.WM m) (o : Bs) {K : List Bs} (hK : K.Nodup) (h : ∀ x, x ∈ K ↔ x ∈ usX o (allP m.procs ++ allSt m.body)) : Lib.compact (sK (Tp.usedR m o)) = sK K := by
  refine compact_sK hK fun x => ?_
  rw [h x]
  by_cases ho : o = []
  · subst ho
    rw [usX_nil]
    simp [Tp.usedR]
  · rw [us_allM hm ho, Tp.us_used ho]
end Go.Proofs.YtfcdphgggdioeaaGreatDoor
