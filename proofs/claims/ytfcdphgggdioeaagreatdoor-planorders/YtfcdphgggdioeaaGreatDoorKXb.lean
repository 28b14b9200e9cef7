import Derived.Test.YtfcdphgggdioeaaGreatDoorKXa
import Derived.Test.YtfcdphgggdioeaaGreatDoorKWa
import Derived.Test.YtfcdphgggdioeaaGreatDoorKGb
import Derived.Test.YtfcdphgggdioeaaGreatDoorKShe
import Derived.Test.YtfcdphgggdioeaaGreatDoorKWb
import Derived.Lib.Hide
/- The document's reader: what oneOf says of words with blanks between: whether a text is one of them. -/
namespace Go.Proofs.YtfcdphgggdioeaaGreatDoor
def wsj (ws : List (List UInt8)) : List UInt8 := (ws.map fun u => u ++ [32]).flatten
theorem prefix_word : ∀ {s u : List UInt8} {r : List UInt8}, 32 ∉ s → 32 ∉ u → (s ++ [32] <+: u ++ 32 :: r ↔ s = u) := by
  intro s
  induction s with
  | nil =>
    intro u r _ hu
    cases u with
    | nil => simp
    | cons c u =>
      have : (32 : UInt8) ≠ c := fun e => hu (by simp [e])
      simp [List.cons_prefix_cons, this]
  | cons a s ih =>
    intro u r hs hu
    cases u with
    | nil =>
      have : a ≠ 32 := fun e => hs (by simp [e])
      simp [List.cons_prefix_cons, this]
    | cons c u =>
      have h1 : 32 ∉ s := fun e => hs (List.mem_cons_of_mem _ e)
      have h2 : 32 ∉ u := fun e => hu (List.mem_cons_of_mem _ e)
      simp only [List.cons_append, List.cons_prefix_cons, ih h1 h2, List.cons.injEq]
theorem infix_word : ∀ {u : List UInt8} {p r : List UInt8}, 32 ∉ u → (32 :: p <:+: u ++ r ↔ 32 :: p <:+: r) := by
  intro u
  induction u with
  | nil => intro p r _; simp
  | cons c u ih =>
    intro p r hu
    have h1 : (32 : UInt8) ≠ c := fun e => hu (by simp [e])
    have h2 : 32 ∉ u := fun e => hu (List.mem_cons_of_mem _ e)
    rw [List.cons_append, List.infix_cons_iff, ih h2]
    simp [List.cons_prefix_cons, h1]
theorem infix_words {s : List UInt8} (_h0 : s ≠ []) (hs : 32 ∉ s) : ∀ {ws : List (List UInt8)}, (∀ u ∈ ws, 32 ∉ u) → (32 :: (s ++ [32]) <:+: 32 :: wsj ws ↔ s ∈ ws) := by
  intro ws
  induction ws with
  | nil =>
    intro _
    have : ¬ 32 :: (s ++ [32]) <:+: 32 :: wsj [] := by
      intro e
      have := e.length_le
      simp [wsj] at this
    simp [this]
  | cons u ws ih =>
    intro hw
    have hu := hw u (by simp)
    have e1 : wsj (u :: ws) = u ++ 32 :: wsj ws := by simp [wsj]
    rw [e1, List.infix_cons_iff, List.cons_prefix_cons, prefix_word hs hu, infix_word hu, ih fun v hv => hw v (List.mem_cons_of_mem _ hv)]
    simp
theorem contains_blank (s : List UInt8) : Lib.contains s [32] = true ↔ 32 ∈ s := by
  rw [contains_iff]
  constructor
  · intro e; exact e.subset (by simp)
  · intro e
    obtain ⟨a, b, rfl⟩ := List.append_of_mem e
    exact ⟨a, b, by simp⟩
theorem oneB_iff {s : List UInt8} {ws : List (List UInt8)} {y : List UInt8} (hw : ∀ u ∈ ws, 32 ∉ u ∧ u ≠ []) (hy : y ++ [32] = wsj ws) : oneB s y = true ↔ s ∈ ws := by
  unfold oneB
  have e : [32] ++ y ++ [32] = 32 :: wsj ws := by rw [← hy]; simp
  have e2 : [32] ++ s ++ [32] = 32 :: (s ++ [32]) := by simp
  rw [e, e2]
  by_cases h0 : s = []
  · subst h0
    simp
    exact fun h => (hw _ h).2 rfl
  · by_cases h1 : 32 ∈ s
    · have := (contains_blank s).2 h1
      rw [this]
      simp
      exact fun h => (hw _ h).1 h1
    · have : Lib.contains s [32] = false := by
        rw [Bool.eq_false_iff]; exact fun e => h1 ((contains_blank s).1 e)
      rw [this]
      have h2 : s.isEmpty = false := by simpa using h0
      rw [h2]
      simp only [Bool.not_false, Bool.true_and]
      rw [contains_iff, infix_words h0 h1 fun u hu => (hw u hu).1]
end Go.Proofs.YtfcdphgggdioeaaGreatDoor
/- The document's reader: name. -/
namespace Go.Proofs.YtfcdphgggdioeaaGreatDoor
open Go.RowKit
open Tp (Tok hd tx at' stp)
open Nr (Fl fine)
def nmR (r : List Tok) (bad : Fl) : List UInt8 × List Tok × Fl :=
  if bad = fine then match Tp.name r with
    | .ok (n, r1) => (n, r1, fine)
    | .error (e, p) => ([], r, ((e : Int), (p : Int)))
  else ([], r, bad)
def keptW : List UInt8 := [109, 111, 100, 117, 108, 101, 32, 105, 109, 112, 111, 114, 116, 32, 118, 97, 114, 32, 112, 114, 111, 99, 32, 98, 101, 103, 105, 110, 32, 101, 110, 100, 32, 105, 102, 32, 116, 104, 101, 110, 32, 101, 108, 115, 105, 102, 32, 101, 108, 115, 101, 32, 119, 104, 105, 108, 101, 32, 100, 111, 32, 114, 101, 116, 117, 114, 110, 32, 119, 114, 105, 116, 101, 32, 105, 110, 116, 32, 97, 114, 114, 97, 121, 32, 111, 114, 32, 97, 110, 100, 32, 110, 111, 116, 32, 100, 105, 118, 32, 109, 111, 100]
open Tp in
theorem kept_one (s : List UInt8) : oneB s keptW = decide (s ∈ Tp.kept) := by
  have h := oneB_iff (s := s) (ws := [wModule, wImport, wVar, wProc, wBegin, wEnd, wIf, wThen, wElsif, wElse, wWhile, wDo, wReturn, wWrite, wInt, wArray, wOr, wAnd, wNot, wDiv, wMod]) (y := keptW) (by decide) (by decide)
  rw [Bool.eq_iff_iff, h, decide_eq_true_iff]
  simp only [kept, List.mem_cons, List.not_mem_nil, or_false]
  constructor <;> (intro x; rcases x with x | x | x | x | x | x | x | x | x | x | x | x | x | x | x | x | x | x | x | x | x <;> simp [x])
end Go.Proofs.YtfcdphgggdioeaaGreatDoor
/- The document's reader: name. -/
namespace Go.Proofs.YtfcdphgggdioeaaGreatDoor
open Go.RowKit
open Tp (Tok hd tx at' stp)
open Nr (Fl fine)

set_option maxRecDepth 100000 in
set_option maxHeartbeats 800000 in
theorem rname_bad1 {w : World} {q : Rp} {ts r : List Tok} {bad : Fl} (h : RS w q ts r bad) (hk1 : (hd r).kind ≠ 1) :
    Calls Tryz.prog 14 #[.pointer (some ⟨q.rb, 0, none⟩)] w fun e w' => e = .returned (.string ⟨#[]⟩) ∧ RS w' q ts r (if bad = fine then (3, (at' r : Int)) else bad) ∧ Ext q.rb w w' := by
  obtain ⟨h1, h2, h3, h4⟩ := h.hd
  have hmem : hd r ∈ ts := List.mem_of_getElem? h1
  have HL : Hid ((hd r).text.length < 100001) := by have := (h.tl _ hmem).1; exact (by omega : (hd r).text.length < 100001)
  obtain ⟨i, hi⟩ : ∃ i, i = (ts.length - r.length) * 3 := ⟨_, rfl⟩
  obtain ⟨n, hn⟩ : ∃ n, n = r.length := ⟨_, rfl⟩
  obtain ⟨k, hk⟩ : ∃ k, k = q.cap - (ts.length - r.length) := ⟨_, rfl⟩
  have HC : Hid (∀ w' bd, RS w' q ts r bd → w'.cell? ⟨q.rb, 0, none⟩ = some (.slice (some ⟨q.tb, i, none⟩) n k)) := fun w' bd h' => by
    rw [hk, hi, hn]; exact h'.c0
  have d0 := HC.out w bad h
  have d1 : w.cell? ⟨q.tb, i, none⟩ = some (.int .i64 (kd (hd r))) := by rw [hi]; exact (h.toks _ _ h1).c0
  have d2 : w.cell? ⟨q.tb, i + 1, none⟩ = some (.string (bs (hd r).text)) := by rw [hi]; exact (h.toks _ _ h1).c1
  have d3 : w.cell? ⟨q.tb, i + 2, none⟩ = some (.int .i64 ((hd r).pos : Int)) := by rw [hi]; exact (h.toks _ _ h1).c2
  have hn0 : (0 : Int) < n := by omega
  have HI : Hid (i = (ts.length - r.length) * 3 ∧ n = r.length ∧ k = q.cap - (ts.length - r.length)) := ⟨hi, hn, hk⟩
  have hq := lt_of_cell h.c0
  clear hi hn hk h1 h2 h3 h4
  have hk2 : ¬ kd (hd r) = 1 := by unfold kd; split <;> omega
  generalize kd (hd r) = kk at d1 hk2
  clear hk1
  obtain ⟨bd, hbd⟩ : ∃ bd, bd = if bad = fine then (((3 : Nat) : Int), (at' r : Int)) else bad := ⟨_, rfl⟩
  have hbd' : (if bad = fine then ((3 : Int), (at' r : Int)) else bad) = bd := hbd.symm
  rw [hbd']
  have hnf : bd ≠ fine := by
    rw [hbd]; split
    · simp [fine]
    · assumption
  have HB : Hid (bd = if bad = fine then (((3 : Nat) : Int), (at' r : Int)) else bad) := hbd
  clear hbd hbd'
  have b0 : Below w.heap.size w (w.alloc (Obj.cells #[.int .i64 kk, .string (bs (hd r).text), .int .i64 ((hd r).pos : Int)] 57)) := (Below.refl _ _).alloc (Nat.le_refl _) _
  have x0 : (w.alloc (Obj.cells #[.int .i64 kk, .string (bs (hd r).text), .int .i64 ((hd r).pos : Int)] 57)).cell? ⟨w.heap.size, 1, none⟩ = some (.string (bs (hd r).text)) := by simp [go_sem]
  have hdf := decide_eq_false hnf
  by_cases hL : 10 < (bs (hd r).text).size
  · go_enter Tryz.func14, Tryz.ntmps14
    go_wp2_with fail
    generalize w.alloc (Obj.cells #[.int .i64 kk, .string (bs (hd r).text), .int .i64 ((hd r).pos : Int)] 57) = w0 at b0 x0 ⊢
    refine (rfails_any (h.below b0) 3).mono ?_
    rintro e w2 ⟨rfl, h2, hb2⟩
    rw [← HB.out] at h2
    have x2 := hb2.cell x0 (by simp; omega)
    go_wp2_with fail
    refine (rfails_any h2 4).mono ?_
    rintro e w3 ⟨rfl, h3, hb3⟩
    rw [if_neg hnf] at h3
    have x3 := hb3.cell x2 (by simp; omega)
    go_wp2_with fail
    refine (rok_any h3).mono ?_
    rintro e w4 ⟨rfl, hb4⟩
    rw [hdf]
    go_wp2_with fail
    exact bodyPost_ret (v := .string ⟨#[]⟩) (by simp [results, Tryz.results14, go_sem]) rfl ⟨rfl, h3.below hb4, (((Ext.below b0).trans hb2).trans hb3).trans (Ext.below hb4)⟩
  · go_enter Tryz.func14, Tryz.ntmps14
    go_wp2_with fail
    generalize w.alloc (Obj.cells #[.int .i64 kk, .string (bs (hd r).text), .int .i64 ((hd r).pos : Int)] 57) = w0 at b0 x0 ⊢
    refine (rfails_any (h.below b0) 3).mono ?_
    rintro e w2 ⟨rfl, h2, hb2⟩
    rw [← HB.out] at h2
    have x2 := hb2.cell x0 (by simp; omega)
    go_wp2_with fail
    refine (rok_any h2).mono ?_
    rintro e w4 ⟨rfl, hb4⟩
    rw [hdf]
    go_wp2_with fail
    exact bodyPost_ret (v := .string ⟨#[]⟩) (by simp [results, Tryz.results14, go_sem]) rfl ⟨rfl, h2.below hb4, ((Ext.below b0).trans hb2).trans (Ext.below hb4)⟩
end Go.Proofs.YtfcdphgggdioeaaGreatDoor
/- The document's reader: name, where it is a word that is kept. -/
namespace Go.Proofs.YtfcdphgggdioeaaGreatDoor
open Go.RowKit
open Tp (Tok hd tx at' stp)
open Nr (Fl fine)

set_option maxRecDepth 100000 in
set_option maxHeartbeats 800000 in
theorem rname_bad2 {w : World} {q : Rp} {ts r : List Tok} {bad : Fl} (h : RS w q ts r bad) (hk1 : (hd r).kind = 1) (hkp : tx r ∈ Tp.kept) :
    Calls Tryz.prog 14 #[.pointer (some ⟨q.rb, 0, none⟩)] w fun e w' => e = .returned (.string ⟨#[]⟩) ∧ RS w' q ts r (if bad = fine then (3, (at' r : Int)) else bad) ∧ Ext q.rb w w' := by
  obtain ⟨h1, h2, h3, h4⟩ := h.hd
  have hmem : hd r ∈ ts := List.mem_of_getElem? h1
  have HL : Hid ((hd r).text.length < 100001) := by have := (h.tl _ hmem).1; exact (by omega : (hd r).text.length < 100001)
  obtain ⟨i, hi⟩ : ∃ i, i = (ts.length - r.length) * 3 := ⟨_, rfl⟩
  obtain ⟨n, hn⟩ : ∃ n, n = r.length := ⟨_, rfl⟩
  obtain ⟨k, hk⟩ : ∃ k, k = q.cap - (ts.length - r.length) := ⟨_, rfl⟩
  have HC : Hid (∀ w' bd, RS w' q ts r bd → w'.cell? ⟨q.rb, 0, none⟩ = some (.slice (some ⟨q.tb, i, none⟩) n k)) := fun w' bd h' => by
    rw [hk, hi, hn]; exact h'.c0
  have d0 := HC.out w bad h
  have d1 : w.cell? ⟨q.tb, i, none⟩ = some (.int .i64 (kd (hd r))) := by rw [hi]; exact (h.toks _ _ h1).c0
  have d2 : w.cell? ⟨q.tb, i + 1, none⟩ = some (.string (bs (hd r).text)) := by rw [hi]; exact (h.toks _ _ h1).c1
  have d3 : w.cell? ⟨q.tb, i + 2, none⟩ = some (.int .i64 ((hd r).pos : Int)) := by rw [hi]; exact (h.toks _ _ h1).c2
  have hn0 : (0 : Int) < n := by omega
  have HI : Hid (i = (ts.length - r.length) * 3 ∧ n = r.length ∧ k = q.cap - (ts.length - r.length)) := ⟨hi, hn, hk⟩
  have hq := lt_of_cell h.c0
  clear hi hn hk h1 h2 h3 h4
  have hk2 : kd (hd r) = 1 := by unfold kd; rw [if_neg (by omega)]; omega
  rw [hk2] at d1
  have hone : oneB (hd r).text keptW = true := by rw [kept_one]; exact decide_eq_true hkp
  clear hk1 hk2 hkp
  obtain ⟨bd, hbd⟩ : ∃ bd, bd = if bad = fine then (((3 : Nat) : Int), (at' r : Int)) else bad := ⟨_, rfl⟩
  have hbd' : (if bad = fine then ((3 : Int), (at' r : Int)) else bad) = bd := hbd.symm
  rw [hbd']
  have hnf : bd ≠ fine := by
    rw [hbd]; split
    · simp [fine]
    · assumption
  have HB : Hid (bd = if bad = fine then (((3 : Nat) : Int), (at' r : Int)) else bad) := hbd
  clear hbd hbd'
  have b0 : Below w.heap.size w (w.alloc (Obj.cells #[.int .i64 1, .string (bs (hd r).text), .int .i64 ((hd r).pos : Int)] 57)) := (Below.refl _ _).alloc (Nat.le_refl _) _
  have x0 : (w.alloc (Obj.cells #[.int .i64 1, .string (bs (hd r).text), .int .i64 ((hd r).pos : Int)] 57)).cell? ⟨w.heap.size, 1, none⟩ = some (.string (bs (hd r).text)) := by simp [go_sem]
  have hdf := decide_eq_false hnf
  by_cases hL : 10 < (bs (hd r).text).size
  · go_enter Tryz.func14, Tryz.ntmps14
    go_wp2_with fail
    generalize w.alloc (Obj.cells #[.int .i64 1, .string (bs (hd r).text), .int .i64 ((hd r).pos : Int)] 57) = w0 at b0 x0 ⊢
    obtain ⟨m, hm⟩ := (h.below b0).gl.ml
    refine (oneOf_any (hd r).text keptW _ _ (rfl : bs _ = bs _) (rfl : _ = bs keptW) m w0 HL.out (by decide) hm).mono ?_
    rintro e w1 ⟨rfl, e1⟩
    rw [hone]
    subst e1
    go_wp2_with fail
    refine (rfails_any (h.below b0) 3).mono ?_
    rintro e w2 ⟨rfl, h2, hb2⟩
    rw [← HB.out] at h2
    have x2 := hb2.cell x0 (by simp; omega)
    go_wp2_with fail
    refine (rfails_any h2 4).mono ?_
    rintro e w3 ⟨rfl, h3, hb3⟩
    rw [if_neg hnf] at h3
    have x3 := hb3.cell x2 (by simp; omega)
    go_wp2_with fail
    refine (rok_any h3).mono ?_
    rintro e w4 ⟨rfl, hb4⟩
    rw [hdf]
    go_wp2_with fail
    exact bodyPost_ret (v := .string ⟨#[]⟩) (by simp [results, Tryz.results14, go_sem]) rfl ⟨rfl, h3.below hb4, (((Ext.below b0).trans hb2).trans hb3).trans (Ext.below hb4)⟩
  · go_enter Tryz.func14, Tryz.ntmps14
    go_wp2_with fail
    generalize w.alloc (Obj.cells #[.int .i64 1, .string (bs (hd r).text), .int .i64 ((hd r).pos : Int)] 57) = w0 at b0 x0 ⊢
    obtain ⟨m, hm⟩ := (h.below b0).gl.ml
    refine (oneOf_any (hd r).text keptW _ _ (rfl : bs _ = bs _) (rfl : _ = bs keptW) m w0 HL.out (by decide) hm).mono ?_
    rintro e w1 ⟨rfl, e1⟩
    rw [hone]
    subst e1
    go_wp2_with fail
    refine (rfails_any (h.below b0) 3).mono ?_
    rintro e w2 ⟨rfl, h2, hb2⟩
    rw [← HB.out] at h2
    have x2 := hb2.cell x0 (by simp; omega)
    go_wp2_with fail
    refine (rok_any h2).mono ?_
    rintro e w4 ⟨rfl, hb4⟩
    rw [hdf]
    go_wp2_with fail
    exact bodyPost_ret (v := .string ⟨#[]⟩) (by simp [results, Tryz.results14, go_sem]) rfl ⟨rfl, h2.below hb4, ((Ext.below b0).trans hb2).trans (Ext.below hb4)⟩
end Go.Proofs.YtfcdphgggdioeaaGreatDoor
/- The document's reader: name, where it is a word that may be one. -/
namespace Go.Proofs.YtfcdphgggdioeaaGreatDoor
open Go.RowKit
open Tp (Tok hd tx at' stp)
open Nr (Fl fine)

set_option maxRecDepth 100000 in
set_option maxHeartbeats 800000 in
theorem rname_long {w : World} {q : Rp} {ts r : List Tok} {bad : Fl} (h : RS w q ts r bad) (hk1 : (hd r).kind = 1) (hkp : tx r ∉ Tp.kept) (hlen : 10 < (tx r).length) :
    Calls Tryz.prog 14 #[.pointer (some ⟨q.rb, 0, none⟩)] w fun e w' => e = .returned (.string ⟨#[]⟩) ∧ RS w' q ts r (if bad = fine then (4, (at' r : Int)) else bad) ∧ Ext q.rb w w' := by
  obtain ⟨h1, h2, h3, h4⟩ := h.hd
  have hmem : hd r ∈ ts := List.mem_of_getElem? h1
  have HL : Hid ((hd r).text.length < 100001) := by have := (h.tl _ hmem).1; exact (by omega : (hd r).text.length < 100001)
  obtain ⟨i, hi⟩ : ∃ i, i = (ts.length - r.length) * 3 := ⟨_, rfl⟩
  obtain ⟨n, hn⟩ : ∃ n, n = r.length := ⟨_, rfl⟩
  obtain ⟨k, hk⟩ : ∃ k, k = q.cap - (ts.length - r.length) := ⟨_, rfl⟩
  have HC : Hid (∀ w' bd, RS w' q ts r bd → w'.cell? ⟨q.rb, 0, none⟩ = some (.slice (some ⟨q.tb, i, none⟩) n k)) := fun w' bd h' => by
    rw [hk, hi, hn]; exact h'.c0
  have d0 := HC.out w bad h
  have d1 : w.cell? ⟨q.tb, i, none⟩ = some (.int .i64 (kd (hd r))) := by rw [hi]; exact (h.toks _ _ h1).c0
  have d2 : w.cell? ⟨q.tb, i + 1, none⟩ = some (.string (bs (hd r).text)) := by rw [hi]; exact (h.toks _ _ h1).c1
  have d3 : w.cell? ⟨q.tb, i + 2, none⟩ = some (.int .i64 ((hd r).pos : Int)) := by rw [hi]; exact (h.toks _ _ h1).c2
  have hn0 : (0 : Int) < n := by omega
  have HI : Hid (i = (ts.length - r.length) * 3 ∧ n = r.length ∧ k = q.cap - (ts.length - r.length)) := ⟨hi, hn, hk⟩
  have hq := lt_of_cell h.c0
  clear hi hn hk h1 h2 h3 h4
  have hk2 : kd (hd r) = 1 := by unfold kd; rw [if_neg (by omega)]; omega
  rw [hk2] at d1
  have hone : oneB (hd r).text keptW = false := by rw [kept_one]; exact decide_eq_false hkp
  have hL : 10 < (bs (hd r).text).size := by
    have e : (bs (hd r).text).size = (hd r).text.length := by simp [bs, ByteArray.size]
    rw [e]; exact hlen
  clear hk1 hk2 hkp
  obtain ⟨bd, hbd⟩ : ∃ bd, bd = if bad = fine then (((4 : Nat) : Int), (at' r : Int)) else bad := ⟨_, rfl⟩
  have hbd' : (if bad = fine then ((4 : Int), (at' r : Int)) else bad) = bd := hbd.symm
  rw [hbd']
  have hnf : bd ≠ fine := by
    rw [hbd]; split
    · simp [fine]
    · assumption
  have HB : Hid (bd = if bad = fine then (((4 : Nat) : Int), (at' r : Int)) else bad) := hbd
  clear hbd hbd'
  have b0 : Below w.heap.size w (w.alloc (Obj.cells #[.int .i64 1, .string (bs (hd r).text), .int .i64 ((hd r).pos : Int)] 57)) := (Below.refl _ _).alloc (Nat.le_refl _) _
  have x0 : (w.alloc (Obj.cells #[.int .i64 1, .string (bs (hd r).text), .int .i64 ((hd r).pos : Int)] 57)).cell? ⟨w.heap.size, 1, none⟩ = some (.string (bs (hd r).text)) := by simp [go_sem]
  have hdf := decide_eq_false hnf
  clear hlen
  go_enter Tryz.func14, Tryz.ntmps14
  go_wp2_with fail
  generalize w.alloc (Obj.cells #[.int .i64 1, .string (bs (hd r).text), .int .i64 ((hd r).pos : Int)] 57) = w0 at b0 x0 ⊢
  obtain ⟨m, hm⟩ := (h.below b0).gl.ml
  refine (oneOf_any (hd r).text keptW _ _ (rfl : bs _ = bs _) (rfl : _ = bs keptW) m w0 HL.out (by decide) hm).mono ?_
  rintro e w1 ⟨rfl, e1⟩
  rw [hone]
  subst e1
  go_wp2_with fail
  refine (rfails_any (h.below b0) 4).mono ?_
  rintro e w2 ⟨rfl, h2, hb2⟩
  rw [← HB.out] at h2
  have x2 := hb2.cell x0 (by simp; omega)
  go_wp2_with fail
  refine (rok_any h2).mono ?_
  rintro e w4 ⟨rfl, hb4⟩
  rw [hdf]
  go_wp2_with fail
  exact bodyPost_ret (v := .string ⟨#[]⟩) (by simp [results, Tryz.results14, go_sem]) rfl ⟨rfl, h2.below hb4, ((Ext.below b0).trans hb2).trans (Ext.below hb4)⟩

set_option maxRecDepth 100000 in
set_option maxHeartbeats 800000 in
theorem rname_was {w : World} {q : Rp} {ts r : List Tok} {bad : Fl} (h : RS w q ts r bad) (hk1 : (hd r).kind = 1) (hkp : tx r ∉ Tp.kept) (hlen : ¬ 10 < (tx r).length) (hnf : bad ≠ fine) :
    Calls Tryz.prog 14 #[.pointer (some ⟨q.rb, 0, none⟩)] w fun e w' => e = .returned (.string ⟨#[]⟩) ∧ RS w' q ts r bad ∧ Ext q.rb w w' := by
  obtain ⟨h1, h2, h3, h4⟩ := h.hd
  have hmem : hd r ∈ ts := List.mem_of_getElem? h1
  have HL : Hid ((hd r).text.length < 100001) := by have := (h.tl _ hmem).1; exact (by omega : (hd r).text.length < 100001)
  obtain ⟨i, hi⟩ : ∃ i, i = (ts.length - r.length) * 3 := ⟨_, rfl⟩
  obtain ⟨n, hn⟩ : ∃ n, n = r.length := ⟨_, rfl⟩
  obtain ⟨k, hk⟩ : ∃ k, k = q.cap - (ts.length - r.length) := ⟨_, rfl⟩
  have HC : Hid (∀ w' bd, RS w' q ts r bd → w'.cell? ⟨q.rb, 0, none⟩ = some (.slice (some ⟨q.tb, i, none⟩) n k)) := fun w' bd h' => by
    rw [hk, hi, hn]; exact h'.c0
  have d0 := HC.out w bad h
  have d1 : w.cell? ⟨q.tb, i, none⟩ = some (.int .i64 (kd (hd r))) := by rw [hi]; exact (h.toks _ _ h1).c0
  have d2 : w.cell? ⟨q.tb, i + 1, none⟩ = some (.string (bs (hd r).text)) := by rw [hi]; exact (h.toks _ _ h1).c1
  have d3 : w.cell? ⟨q.tb, i + 2, none⟩ = some (.int .i64 ((hd r).pos : Int)) := by rw [hi]; exact (h.toks _ _ h1).c2
  have hn0 : (0 : Int) < n := by omega
  have HI : Hid (i = (ts.length - r.length) * 3 ∧ n = r.length ∧ k = q.cap - (ts.length - r.length)) := ⟨hi, hn, hk⟩
  have hq := lt_of_cell h.c0
  clear hi hn hk h1 h2 h3 h4
  have hk2 : kd (hd r) = 1 := by unfold kd; rw [if_neg (by omega)]; omega
  rw [hk2] at d1
  have hone : oneB (hd r).text keptW = false := by rw [kept_one]; exact decide_eq_false hkp
  have hL : ¬ 10 < (bs (hd r).text).size := by
    have e : (bs (hd r).text).size = (hd r).text.length := by simp [bs, ByteArray.size]
    rw [e]; exact hlen
  clear hk1 hk2 hkp
  have b0 : Below w.heap.size w (w.alloc (Obj.cells #[.int .i64 1, .string (bs (hd r).text), .int .i64 ((hd r).pos : Int)] 57)) := (Below.refl _ _).alloc (Nat.le_refl _) _
  have x0 : (w.alloc (Obj.cells #[.int .i64 1, .string (bs (hd r).text), .int .i64 ((hd r).pos : Int)] 57)).cell? ⟨w.heap.size, 1, none⟩ = some (.string (bs (hd r).text)) := by simp [go_sem]
  have hdf := decide_eq_false hnf
  clear hlen
  go_enter Tryz.func14, Tryz.ntmps14
  go_wp2_with fail
  generalize w.alloc (Obj.cells #[.int .i64 1, .string (bs (hd r).text), .int .i64 ((hd r).pos : Int)] 57) = w0 at b0 x0 ⊢
  obtain ⟨m, hm⟩ := (h.below b0).gl.ml
  refine (oneOf_any (hd r).text keptW _ _ (rfl : bs _ = bs _) (rfl : _ = bs keptW) m w0 HL.out (by decide) hm).mono ?_
  rintro e w1 ⟨rfl, e1⟩
  rw [hone]
  subst e1
  go_wp2_with fail
  refine (rok_any (h.below b0)).mono ?_
  rintro e w4 ⟨rfl, hb4⟩
  rw [hdf]
  go_wp2_with fail
  exact bodyPost_ret (v := .string ⟨#[]⟩) (by simp [results, Tryz.results14, go_sem]) rfl ⟨rfl, (h.below b0).below hb4, (Ext.below b0).trans (Ext.below hb4)⟩

set_option maxRecDepth 100000 in
set_option maxHeartbeats 800000 in
theorem rname_ok {w : World} {q : Rp} {ts r : List Tok} {bad : Fl} (h : RS w q ts r bad) (hk1 : (hd r).kind = 1) (hkp : tx r ∉ Tp.kept) (hlen : ¬ 10 < (tx r).length) (hf : bad = fine) :
    Calls Tryz.prog 14 #[.pointer (some ⟨q.rb, 0, none⟩)] w fun e w' => e = .returned (.string (bs (tx r))) ∧ RS w' q ts (stp r) bad ∧ Ext q.rb w w' := by
  obtain ⟨h1, h2, h3, h4⟩ := h.hd
  have hmem : hd r ∈ ts := List.mem_of_getElem? h1
  have HL : Hid ((hd r).text.length < 100001) := by have := (h.tl _ hmem).1; exact (by omega : (hd r).text.length < 100001)
  obtain ⟨i, hi⟩ : ∃ i, i = (ts.length - r.length) * 3 := ⟨_, rfl⟩
  obtain ⟨n, hn⟩ : ∃ n, n = r.length := ⟨_, rfl⟩
  obtain ⟨k, hk⟩ : ∃ k, k = q.cap - (ts.length - r.length) := ⟨_, rfl⟩
  have HC : Hid (∀ w' bd, RS w' q ts r bd → w'.cell? ⟨q.rb, 0, none⟩ = some (.slice (some ⟨q.tb, i, none⟩) n k)) := fun w' bd h' => by
    rw [hk, hi, hn]; exact h'.c0
  have d0 := HC.out w bad h
  have d1 : w.cell? ⟨q.tb, i, none⟩ = some (.int .i64 (kd (hd r))) := by rw [hi]; exact (h.toks _ _ h1).c0
  have d2 : w.cell? ⟨q.tb, i + 1, none⟩ = some (.string (bs (hd r).text)) := by rw [hi]; exact (h.toks _ _ h1).c1
  have d3 : w.cell? ⟨q.tb, i + 2, none⟩ = some (.int .i64 ((hd r).pos : Int)) := by rw [hi]; exact (h.toks _ _ h1).c2
  have hn0 : (0 : Int) < n := by omega
  have HI : Hid (i = (ts.length - r.length) * 3 ∧ n = r.length ∧ k = q.cap - (ts.length - r.length)) := ⟨hi, hn, hk⟩
  have hq := lt_of_cell h.c0
  clear hi hn hk h1 h2 h3 h4
  have hk2 : kd (hd r) = 1 := by unfold kd; rw [if_neg (by omega)]; omega
  rw [hk2] at d1
  have hone : oneB (hd r).text keptW = false := by rw [kept_one]; exact decide_eq_false hkp
  have hL : ¬ 10 < (bs (hd r).text).size := by
    have e : (bs (hd r).text).size = (hd r).text.length := by simp [bs, ByteArray.size]
    rw [e]; exact hlen
  have hk0 : (hd r).kind ≠ 0 := by omega
  have HK : Hid ((hd r).kind ≠ 0) := hk0
  have hn2 : (2 : Int) ≤ n := by
    obtain ⟨_, y4, y5, _, _⟩ := h.stp_of hk0
    have : 0 < r.tail.length := List.length_pos_iff.2 y4
    have := HI.out.2.1
    omega
  have hk3 : (n : Int) ≤ k := by have := h.cp; have := HI.out; have := h.hd.2.2.2; omega
  clear hk1 hk2 hkp hk0
  have b0 : Below w.heap.size w (w.alloc (Obj.cells #[.int .i64 1, .string (bs (hd r).text), .int .i64 ((hd r).pos : Int)] 57)) := (Below.refl _ _).alloc (Nat.le_refl _) _
  have x0 : (w.alloc (Obj.cells #[.int .i64 1, .string (bs (hd r).text), .int .i64 ((hd r).pos : Int)] 57)).cell? ⟨w.heap.size, 1, none⟩ = some (.string (bs (hd r).text)) := by simp [go_sem]
  have hdf := decide_eq_true hf
  clear hlen hf
  go_enter Tryz.func14, Tryz.ntmps14
  go_wp2_with fail
  generalize w.alloc (Obj.cells #[.int .i64 1, .string (bs (hd r).text), .int .i64 ((hd r).pos : Int)] 57) = w0 at b0 x0 ⊢
  obtain ⟨m, hm⟩ := (h.below b0).gl.ml
  refine (oneOf_any (hd r).text keptW _ _ (rfl : bs _ = bs _) (rfl : _ = bs keptW) m w0 HL.out (by decide) hm).mono ?_
  rintro e w1 ⟨rfl, e1⟩
  rw [hone]
  subst e1
  go_wp2_with fail
  refine (rok_any (h.below b0)).mono ?_
  rintro e w4 ⟨rfl, hb4⟩
  rw [hdf]
  have h5 := (h.below b0).below hb4
  have c0 := HC.out w4 bad h5
  have c1 := h5.fz 0
  have x4 : w4.cell? ⟨w.heap.size, 1, none⟩ = some (.string (bs (hd r).text)) := (Ext.below (b := q.rb) hb4).cell x0 (by simp; omega)
  have x5 : (w4.setCell ⟨q.rb, 0, none⟩ (.slice (some ⟨q.tb, i + 3, none⟩) (n - 1) (k - 1))).cell? ⟨w.heap.size, 1, none⟩ = some (.string (bs (hd r).text)) := by
    rw [World.cell?_setCell_other _ ⟨q.rb, 0, none⟩ ⟨w.heap.size, 1, none⟩ _ (by simp <;> omega)]; exact x4
  go_wp2_with fail
  exact bodyPost_ret (v := .string (bs (tx r))) (by simp [results, Tryz.results14, go_sem, tx]) rfl ⟨rfl, (h.below b0).stepped HK.out hb4 (by rw [HI.out.1]) (by rw [HI.out.2.1]) (by rw [HI.out.2.2]), ((Ext.below b0).trans (Ext.below hb4)).set 0 _⟩

theorem rname_any {w : World} {q : Rp} {ts r : List Tok} {bad : Fl} (h : RS w q ts r bad) :
    Calls Tryz.prog 14 #[.pointer (some ⟨q.rb, 0, none⟩)] w fun e w' => e = .returned (.string (bs (nmR r bad).1)) ∧ RS w' q ts (nmR r bad).2.1 (nmR r bad).2.2 ∧ Ext q.rb w w' := by
  by_cases hk : (hd r).kind = 1
  · by_cases hkp : tx r ∈ Tp.kept
    · have e : nmR r bad = ([], r, if bad = fine then (3, (at' r : Int)) else bad) := by
        unfold nmR Tp.name
        rw [if_pos (Or.inr hkp)]
        split <;> rfl
      rw [e]
      exact rname_bad2 h hk hkp
    · have hno : ¬ ((hd r).kind ≠ 1 ∨ tx r ∈ Tp.kept) := fun e => e.elim (fun e => e hk) hkp
      by_cases hl : 10 < (tx r).length
      · have e : nmR r bad = ([], r, if bad = fine then (4, (at' r : Int)) else bad) := by
          unfold nmR Tp.name
          rw [if_neg hno, if_pos hl]
          split <;> rfl
        rw [e]
        exact rname_long h hk hkp hl
      · by_cases hf : bad = fine
        · have e : nmR r bad = (tx r, stp r, bad) := by
            unfold nmR Tp.name
            rw [if_neg hno, if_neg hl, if_pos hf, hf]
          rw [e]
          exact rname_ok h hk hkp hl hf
        · have e : nmR r bad = ([], r, bad) := by
            unfold nmR
            rw [if_neg hf]
          rw [e]
          exact rname_was h hk hkp hl hf
  · have e : nmR r bad = ([], r, if bad = fine then (3, (at' r : Int)) else bad) := by
      unfold nmR Tp.name
      rw [if_pos (Or.inl hk)]
      split <;> rfl
    rw [e]
    exact rname_bad1 h hk
end Go.Proofs.YtfcdphgggdioeaaGreatDoor
/- The document's reader: what it holds, as one; ok, fails, take, must, name by it; names. -/
namespace Go.Proofs.YtfcdphgggdioeaaGreatDoor
open Go.RowKit
open Tp (Tok hd tx at' stp)
open Nr (Fl fine Sx tk tkS fl mu nm nu nms)
abbrev RX (w : World) (q : Rp) (ts : List Tok) (s : Sx) : Prop := RS w q ts s.1 s.2
theorem rok_s {w : World} {q : Rp} {ts : List Tok} {s : Sx} (h : RX w q ts s) :
    Calls Tryz.prog 13 #[.pointer (some ⟨q.rb, 0, none⟩)] w fun e w' => e = .returned (.bool (decide (s.2 = fine))) ∧ Below w.heap.size w w' := rok_any h
theorem rfails_s {w : World} {q : Rp} {ts : List Tok} {s : Sx} (h : RX w q ts s) (en : Nat) :
    Calls Tryz.prog 17 #[.pointer (some ⟨q.rb, 0, none⟩), .int .i64 (en : Int)] w fun e w' => e = .returned (.tuple #[]) ∧ RX w' q ts (fl en s) ∧ Ext q.rb w w' := rfails_any h en
theorem rsee_s {w : World} {q : Rp} {ts : List Tok} {s : Sx} (h : RX w q ts s) (m : List UInt8) (hm : m ≠ []) (x : ByteArray) (hx : Hid (x = bs m)) :
    Calls Tryz.prog 19 #[.pointer (some ⟨q.rb, 0, none⟩), .string x] w fun e w' => e = .returned (.bool (tk m s)) ∧ Below w.heap.size w w' := rsee_any h m hm x hx
theorem rtake_s {w : World} {q : Rp} {ts : List Tok} {s : Sx} (h : RX w q ts s) (m : List UInt8) (hm : m ≠ []) (x : ByteArray) (hx : Hid (x = bs m)) :
    Calls Tryz.prog 15 #[.pointer (some ⟨q.rb, 0, none⟩), .string x] w fun e w' => e = .returned (.bool (tk m s)) ∧ RX w' q ts (tkS m s) ∧ Ext q.rb w w' := rtake_any h m hm x hx
theorem rmust_s {w : World} {q : Rp} {ts : List Tok} {s : Sx} (h : RX w q ts s) (m : List UInt8) (hm : m ≠ []) (x : ByteArray) (hx : Hid (x = bs m)) :
    Calls Tryz.prog 12 #[.pointer (some ⟨q.rb, 0, none⟩), .string x] w fun e w' => e = .returned (.tuple #[]) ∧ RX w' q ts (mu m s) ∧ Ext q.rb w w' := rmust_any h m hm x hx
theorem rok_f {w : World} {q : Rp} {ts r : List Tok} (h : RS w q ts r fine) :
    Calls Tryz.prog 13 #[.pointer (some ⟨q.rb, 0, none⟩)] w fun e w' => e = .returned (.bool true) ∧ Below w.heap.size w w' := by
  have := rok_any h
  rw [decide_eq_true (rfl : (fine : Fl) = fine)] at this
  exact this
theorem rok_b {w : World} {q : Rp} {ts r : List Tok} {bad : Fl} (h : RS w q ts r bad) (hb : bad ≠ fine) :
    Calls Tryz.prog 13 #[.pointer (some ⟨q.rb, 0, none⟩)] w fun e w' => e = .returned (.bool false) ∧ Below w.heap.size w w' := by
  have := rok_any h
  rw [decide_eq_false hb] at this
  exact this
theorem nmR_eq (s : Sx) : nmR s.1 s.2 = ((nm s).1, (nm s).2.1, (nm s).2.2) := by
  unfold nmR nm
  by_cases h : s.2 = fine
  · rw [if_pos h, if_pos h]
    cases Tp.name s.1 with
    | error e => rfl
    | ok y => rfl
  · rw [if_neg h, if_neg h]
theorem rname_s {w : World} {q : Rp} {ts : List Tok} {s : Sx} (h : RX w q ts s) :
    Calls Tryz.prog 14 #[.pointer (some ⟨q.rb, 0, none⟩)] w fun e w' => e = .returned (.string (bs (nm s).1)) ∧ RX w' q ts (nm s).2 ∧ Ext q.rb w w' := by
  have := rname_any h
  rw [nmR_eq] at this
  exact this
set_option maxRecDepth 100000 in
set_option maxHeartbeats 1000000 in
theorem rnames_s {w : World} {q : Rp} {ts : List Tok} {s : Sx} (h : RX w q ts s) (hf : s.2 = fine) (most g : Nat) (hm : most ≤ 10) (y : List (List UInt8) × Sx) (hg : nms g most [] s = some y) :
    Calls Tryz.prog 16 #[.pointer (some ⟨q.rb, 0, none⟩), .int .i64 (most : Int)] w fun e w' => ∃ v, e = .returned v ∧ w'.ownsRow w.heap.size 9 1 v y.1.length (strs y.1) ∧ RX w' q ts y.2 ∧ Ext q.rb w w' := by
  obtain ⟨i0, hi, hz0, hz1, hz2⟩ := info_parts Tryz.infoString
  have hpl := lt_of_cell h.c0
  have hd0 := decide_eq_true hf
  have HY := Lib.hid hg
  clear hf hg
  go_enter Tryz.func16, Tryz.ntmps16
  go_wp2_with fail
  refine (rok_s h).mono ?_
  rintro e w1 ⟨rfl, hb1⟩
  rw [hd0]
  have h1 := h.below hb1
  have HX1 : Hid (Ext q.rb w w1) := Ext.below hb1
  have hsz1 := hb1.size
  clear h hb1
  go_wp2_with fail
  go_loopg [5, 6] g (fun k vl vm wr => ∃ (l : List (List UInt8)) (s' : Sx) (b : Bool), vm = .bool b ∧ l.length ≤ most ∧ Hid (wr.ownsRow w.heap.size 9 1 vl l.length (strs l)) ∧ RX wr q ts s' ∧ Hid (Ext q.rb w wr) ∧ Hid (if b = true then nms k most l s' = some y else y = (l, s')))
  case atStart => exact ⟨[], s, true, rfl, by simp, World.ownsRow_nil _ _ _ _, h1, HX1, HY.out⟩
  case round =>
    obtain ⟨l, s', b, rfl, hll, HO, hst, HX, HS⟩ := hrel
    obtain ⟨ao, cap, rfl⟩ := owns_shape HO.out
    cases b with
    | false =>
      have HS' : Hid (y = (l, s')) := HS.out
      clear HS
      go_wp2_with fail
      refine bodyPost_ret (v := .slice ao l.length cap) (by simp [results, Tryz.results16, go_sem]) rfl ⟨_, rfl, ?_, ?_, HX.out⟩
      · rw [HS'.out]; exact HO.out
      · rw [HS'.out]; exact hst
    | true =>
      obtain ⟨k, rfl⟩ : ∃ k, gk = k + 1 := by
        cases gk with
        | zero => have := HS.out; simp [nms] at this
        | succ k => exact ⟨k, rfl⟩
      have HS1 : Hid (nms (k + 1) most l s' = some y) := HS.out
      clear HS
      by_cases hfull : most ≤ l.length
      · have HS2 : Hid (y = (l, fl 4 s')) := by
          have := HS1.out
          rw [nms, if_pos hfull] at this
          exact (Option.some.inj this).symm
        go_wp2_with fail
        refine (rfails_s hst 4).mono ?_
        rintro e w2 ⟨rfl, hst2, hx2⟩
        have hown2 := owns_ext HO.out hx2 hpl
        go_wp2_with fail
        refine bodyPost_ret (v := .slice ao l.length cap) (by simp [results, Tryz.results16, go_sem]) rfl ⟨_, rfl, ?_, ?_, HX.out.trans hx2⟩
        · rw [HS2.out]; exact hown2
        · rw [HS2.out]; exact hst2
      · have HS2 : Hid (if tk Tp.mComma (nm s').2 = true then nms k most (l ++ [(nm s').1]) (tkS Tp.mComma (nm s').2) = some y else y = (l ++ [(nm s').1], (nm s').2)) := by
          have := HS1.out
          rw [nms, if_neg hfull] at this
          show if _ then _ else _
          split
          · rename_i hc; rw [if_pos hc] at this; exact this
          · rename_i hc; rw [if_neg hc] at this; exact (Option.some.inj this).symm
        clear HS1
        go_wp2_with fail
        refine (rname_s hst).mono ?_
        rintro e w2 ⟨rfl, hst2, hx2⟩
        have hown2 := owns_ext HO.out hx2 hpl
        have hx2' := HX.out.trans hx2
        have hsz2 := hx2'.size
        clear HO hst HX hx2
        generalize (nm s').1 = x at *
        generalize (nm s').2 = s2 at *
        go_wp2_with (at_builtin; refine wpList_append_own _ rfl _ _ 22 rfl w.heap.size 9 i0 (.string ⟨#[]⟩) 1 16 Tryz.underlying22 hi hz0 hz1 hz2 rfl (by decide) _ _ _ rfl (hown2.alloc _) ⟨w2.heap.size, 0, none⟩ 1 1 [.string (bs x)] rfl rfl ?c1 ?c2 ?c3 ?c4 ?c5 ?_)
        case c1 =>
          intro j u hj
          match j, hj with
          | 0, hj => simp at hj; subst hj; simp [Addr.add]
        case c2 => intro u hu; simp at hu; subst hu; rfl
        case c3 => unfold maxLen; omega
        case c4 => omega
        case c5 => simp; omega
        · intro v' w3 hown3 hgrow _
          have hb3 : Below w.heap.size w2 w3 := ((Below.refl _ _).alloc hsz2 _).trans ((Below.refl _ _).grown hgrow (by simp; omega) (owns_row hown2))
          have hst3 : RX w3 q ts s2 := hst2.belowB hb3 hpl
          have hx3 : Ext q.rb w w3 := hx2'.trans' hb3
          clear hgrow hown2 hst2 hx2'
          go_wp2_with fail
          refine (rtake_s hst3 Tp.mComma (by decide) _ rfl).mono ?_
          rintro e w4 ⟨rfl, hst4, hx4⟩
          have hown4 := owns_ext hown3 hx4 hpl
          have HX4 : Hid (Ext q.rb w w4) := hx3.trans hx4
          have HO4 : Hid (w4.ownsRow w.heap.size 9 1 v' (l ++ [x]).length (strs (l ++ [x]))) := by unfold Hid; simpa [strs] using hown4
          clear hown3 hown4 hx3 hx4 hst3 hb3
          have HS3 : Hid (if tk Tp.mComma s2 = true then nms k most (l ++ [x]) (tkS Tp.mComma s2) = some y else y = (l ++ [x], tkS Tp.mComma s2)) := by
            have := HS2.out
            show if _ then _ else _
            split
            · rename_i hc; rw [if_pos hc] at this; exact this
            · rename_i hc
              rw [if_neg hc] at this
              rw [this]
              have e : ¬ (s2.2 = fine ∧ tx s2.1 = Tp.mComma) := fun h => hc (decide_eq_true h)
              unfold tkS
              rw [if_neg e]
          clear HS2
          generalize tk Tp.mComma s2 = bb at *
          go_wp2_with fail
          go_roundg k
          case measure => omega
          case rel => exact ⟨l ++ [x], _, bb, rfl, by simp; omega, HO4, hst4, HX4, HS3⟩
end Go.Proofs.YtfcdphgggdioeaaGreatDoor
/- The document's reader: number. -/
namespace Go.Proofs.YtfcdphgggdioeaaGreatDoor
open Go.RowKit
open Tp (Tok hd tx at' stp)
open Nr (Fl fine Sx tk tkS fl mu nm nu nms)
def valF (acc : Nat) (l : List UInt8) : Nat := l.foldl (fun a c => a * 10 + (c.toNat - 48)) acc
theorem valF_ge : ∀ (l : List UInt8) (acc : Nat), acc ≤ valF acc l := by
  intro l
  induction l with
  | nil => intro acc; exact Nat.le_refl _
  | cons c l ih => intro acc; have := ih (acc * 10 + (c.toNat - 48)); show acc ≤ valF (acc * 10 + (c.toNat - 48)) l; omega
theorem parse_val : ∀ (l : List UInt8) (acc : Nat), (∀ c ∈ l, Tp.digit c = true) → Lib.parseUintM 18446744073709551615 acc l = if valF acc l ≤ 18446744073709551615 ∨ l = [] then .ok (valF acc l) else .range := by
  intro l
  induction l with
  | nil => intro acc _; simp [Lib.parseUintM, valF]
  | cons c l ih =>
    intro acc hd
    have hc := hd c (by simp)
    simp only [Tp.digit, decide_eq_true_eq] at hc
    have hge := valF_ge l (acc * 10 + (c.toNat - 48))
    have e : valF acc (c :: l) = valF (acc * 10 + (c.toNat - 48)) l := rfl
    rw [Lib.parseUintM, if_pos hc, e]
    have hnil : ¬ (c :: l = []) := by simp
    by_cases h1 : 1844674407370955162 ≤ acc
    · rw [if_pos h1, if_neg (fun h => h.elim (fun h => by omega) hnil)]
    · rw [if_neg h1]
      by_cases h2 : 18446744073709551615 < acc * 10 + (c.toNat - 48)
      · rw [if_pos h2, if_neg (fun h => h.elim (fun h => by omega) hnil)]
      · rw [if_neg h2, ih _ (fun d hd' => hd d (by simp [hd']))]
        by_cases h3 : valF (acc * 10 + (c.toNat - 48)) l ≤ 18446744073709551615
        · rw [if_pos (Or.inl h3), if_pos (Or.inl h3)]
        · have hl : ¬ l = [] := fun h => by subst h; simp [valF] at h3; omega
          rw [if_neg (fun h => h.elim h3 hl), if_neg (fun h => h.elim h3 hnil)]
def PuP (l : List UInt8) (e : Ending) : Prop := (Tp.val l ≤ 18446744073709551615 ∧ e = .returned (.tuple #[.int .u64 (Tp.val l : Int), .nilIface])) ∨ (18446744073709551615 < Tp.val l ∧ ∃ (n : Int) (N : Nat), e = .returned (.tuple #[.int .u64 n, .iface 161 (.pointer (some ⟨N, 0, none⟩))]))
theorem pu_raw (l : List UInt8) (w : World) (hl : l.length ≤ 100000) (hne : l ≠ []) (hd : ∀ c ∈ l, Tp.digit c = true) :
    Calls Tryz.prog 63 #[.string (bs l), .int .i64 10, .int .i64 64] w fun e w' => e = .returned (if Tp.val l ≤ 18446744073709551615 then .tuple #[.int .u64 (Tp.val l : Int), .nilIface] else .tuple #[.int .u64 18446744073709551615, .iface 159 (.int .i64 1)]) ∧ Below w.heap.size w w' := by
  have hz : (bs l).size = l.length := by simp [bs, ByteArray.size]
  have H := Go.Proofs.Any.internal_strconv_ParseUint_10_at64 Tryz.laysPU (bs l) (by omega) w
  have e1 : (bs l).data.toList = l := by simp [bs]
  have e2 : Lib.parseUintB 64 l = if Tp.val l ≤ 18446744073709551615 then .ok (Tp.val l) else .range := by
    unfold Lib.parseUintB
    rw [if_neg hne, show (2 : Nat) ^ 64 - 1 = 18446744073709551615 from rfl, parse_val l 0 hd]
    by_cases h : Tp.val l ≤ 18446744073709551615
    · rw [if_pos h]; exact if_pos (Or.inl h)
    · rw [if_neg h]; exact if_neg (fun h' => h'.elim h hne)
  rw [e1, e2] at H
  refine H.mono ?_
  rintro e w' ⟨rfl, hw⟩
  refine ⟨?_, ?_⟩
  · by_cases h : Tp.val l ≤ 18446744073709551615
    · rw [if_pos h, if_pos h]; rfl
    · rw [if_neg h, if_neg h]; rfl
  · rcases hw with rfl | rfl
    · exact Below.refl _ _
    · exact below_bytes _ _ _
set_option maxRecDepth 100000 in
set_option maxHeartbeats 400000 in
theorem pu_any (l : List UInt8) (w : World) (hl : l.length ≤ 100000) (hne : l ≠ []) (hd : ∀ c ∈ l, Tp.digit c = true) (ev : Value) (hev : w.cell? ⟨2, 0, none⟩ = some ev) (hev2 : ev = .nilIface ∨ ∃ te pe, ev = .iface te pe) :
    Calls Tryz.prog 41 #[.string (bs l), .int .i64 10, .int .i64 64] w fun e w' => PuP l e ∧ Below w.heap.size w w' := by
  have HC := Lib.hid (pu_raw l w hl hne hd)
  have hz : (bs l).size = l.length := by simp [bs, ByteArray.size]
  have HT : Hid (∀ W, Below w.heap.size w W → Calls Tryz.prog 64 #[.string ⟨#[80, 97, 114, 115, 101, 85, 105, 110, 116]⟩, .string (bs l), .int .i64 10, .int .i64 64, .iface 159 (.int .i64 1)] W fun e w' => ∃ N, e = .returned (.iface 161 (.pointer (some ⟨N, 0, none⟩))) ∧ W.heap.size ≤ N ∧ w'.heap[N]? = some (.cells #[.string ⟨#[80, 97, 114, 115, 101, 85, 105, 110, 116]⟩, .string (bs l), ev] 189 (0, 0)) ∧ Below W.heap.size W w') := fun W hW =>
    Go.Proofs.Any.strconv_toError_range Tryz.laysTE _ (bs l) 10 64 ev W (by omega) ((hW.cell (p := ⟨2, 0, none⟩) (lt_of_cell hev)).trans hev) hev2
  clear hd hne hev hev2
  by_cases hv : Tp.val l ≤ 18446744073709551615
  · rw [if_pos hv] at HC
    have HP : Hid (PuP l (.returned (.tuple #[.int .u64 (Tp.val l : Int), .nilIface]))) := Or.inl ⟨hv, rfl⟩
    generalize PuP l = PP at *
    clear hv
    generalize (Tp.val l : Int) = vl at *
    go_enter Tryz.func41, Tryz.ntmps41
    go_wp2_with fail
    refine HC.out.mono ?_
    rintro e w1 ⟨rfl, hb1⟩
    go_wp2_with fail
    go_ret2
    exact ⟨HP.out, hb1⟩
  · rw [if_neg hv] at HC
    have HP : Hid (∀ N, PuP l (.returned (.tuple #[.int .u64 18446744073709551615, .iface 161 (.pointer (some ⟨N, 0, none⟩))]))) := fun N => Or.inr ⟨by omega, _, N, rfl⟩
    generalize PuP l = PP at *
    clear hv
    go_enter Tryz.func41, Tryz.ntmps41
    go_wp2_with fail
    refine HC.out.mono ?_
    rintro e w1 ⟨rfl, hb1⟩
    go_wp2_with fail
    refine (HT.out w1 hb1).mono ?_
    rintro e w2 ⟨N, rfl, _, _, hb2⟩
    go_wp2_with fail
    go_ret2
    exact ⟨HP.out N, hb1.trans (hb2.mono hb1.size)⟩
end Go.Proofs.YtfcdphgggdioeaaGreatDoor
/- The document's reader: number, walked. -/
namespace Go.Proofs.YtfcdphgggdioeaaGreatDoor
open Go.RowKit
open Tp (Tok hd tx at' stp)
open Nr (Fl fine Sx tk tkS fl mu nm nu nms)
set_option maxRecDepth 100000 in
set_option maxHeartbeats 1000000 in
theorem rnumber_s {w : World} {q : Rp} {ts : List Tok} {r : List Tok} (h : RS w q ts r fine) (most : Nat) (hm : most ≤ 9223372036854775807) :
    Calls Tryz.prog 18 #[.pointer (some ⟨q.rb, 0, none⟩), .int .i64 (most : Int)] w fun e w' => e = .returned (.int .i64 ((nu most (r, fine)).1 : Int)) ∧ RX w' q ts (nu most (r, fine)).2 ∧ Ext q.rb w w' := by
  obtain ⟨ny, hny⟩ : ∃ ny, ny = nu most (r, fine) := ⟨_, rfl⟩
  rw [← hny]
  obtain ⟨h1, h2, h3, h4⟩ := h.hd
  have hmem : hd r ∈ ts := List.mem_of_getElem? h1
  have hdg := h.dig _ hmem
  have htl := (h.tl _ hmem).1
  obtain ⟨i, hi⟩ : ∃ i, i = (ts.length - r.length) * 3 := ⟨_, rfl⟩
  obtain ⟨n, hn⟩ : ∃ n, n = r.length := ⟨_, rfl⟩
  obtain ⟨k, hk⟩ : ∃ k, k = q.cap - (ts.length - r.length) := ⟨_, rfl⟩
  have HC : Hid (∀ w' bd, RS w' q ts r bd → w'.cell? ⟨q.rb, 0, none⟩ = some (.slice (some ⟨q.tb, i, none⟩) n k)) := fun w' bd h' => by
    rw [hk, hi, hn]; exact h'.c0
  have d0 := HC.out w _ h
  have d1 : w.cell? ⟨q.tb, i, none⟩ = some (.int .i64 (kd (hd r))) := by rw [hi]; exact (h.toks _ _ h1).c0
  have d2 : w.cell? ⟨q.tb, i + 1, none⟩ = some (.string (bs (hd r).text)) := by rw [hi]; exact (h.toks _ _ h1).c1
  have d3 : w.cell? ⟨q.tb, i + 2, none⟩ = some (.int .i64 ((hd r).pos : Int)) := by rw [hi]; exact (h.toks _ _ h1).c2
  have hn0 : (0 : Int) < n := by omega
  have hn2 : (hd r).kind ≠ 0 → (2 : Int) ≤ n ∧ (n : Int) ≤ k := fun hk0 => by
    obtain ⟨_, y4, y5, _, _⟩ := h.stp_of hk0
    have : 0 < r.tail.length := List.length_pos_iff.2 y4
    have := h.cp
    omega
  have HI : Hid (i = (ts.length - r.length) * 3 ∧ n = r.length ∧ k = q.cap - (ts.length - r.length)) := ⟨hi, hn, hk⟩
  have hq := lt_of_cell h.c0
  clear hi hn hk h1 h2 h3 h4
  have b0 : Below w.heap.size w (w.alloc (Obj.cells #[.int .i64 (kd (hd r)), .string (bs (hd r).text), .int .i64 ((hd r).pos : Int)] 57)) := (Below.refl _ _).alloc (Nat.le_refl _) _
  have x0 : (w.alloc (Obj.cells #[.int .i64 (kd (hd r)), .string (bs (hd r).text), .int .i64 ((hd r).pos : Int)] 57)).cell? ⟨w.heap.size, 0, none⟩ = some (.int .i64 (kd (hd r))) := by simp [go_sem]
  have x1 : (w.alloc (Obj.cells #[.int .i64 (kd (hd r)), .string (bs (hd r).text), .int .i64 ((hd r).pos : Int)] 57)).cell? ⟨w.heap.size, 1, none⟩ = some (.string (bs (hd r).text)) := by simp [go_sem]
  by_cases hk2 : (hd r).kind = 2
  · have hkd : kd (hd r) = 2 := by simp [kd, hk2]
    have HK : Hid ((hd r).kind ≠ 0) := by show _ ≠ _; omega
    obtain ⟨hn3, hkn⟩ := hn2 (by omega)
    obtain ⟨hdne, hdd⟩ := hdg hk2
    have HV : Hid (ny = if most < Tp.val (tx r) then (0, (r, ((4 : Int), (at' r : Int)))) else (Tp.val (tx r), (stp r, fine))) := by
      show _ = _
      rw [hny]
      unfold nu Tp.number
      rw [if_pos rfl, if_neg (by simp [hk2])]
      by_cases hv : most < Tp.val (tx r)
      · rw [if_pos hv, if_pos hv]; rfl
      · rw [if_neg hv, if_neg hv]
    rw [hkd] at d1 b0 x0 x1
    have HPU : Hid (∀ W, Below w.heap.size w W → Calls Tryz.prog 41 #[.string (bs (hd r).text), .int .i64 10, .int .i64 64] W fun e w' => PuP (hd r).text e ∧ Below W.heap.size W w') := fun W hW => by
      obtain ⟨ev, e1, e2⟩ := (h.below hW).gl.er
      exact pu_any _ W htl hdne hdd ev e1 e2
    clear hdg hn2 hdd hdne htl hkd hny
    have hwm : IntKind.u64.wrap (most : Int) = (most : Int) := by unfold IntKind.wrap; simp [IntKind.bits, IntKind.signed]; omega
    go_enter Tryz.func18, Tryz.ntmps18
    go_wp2_with fail
    generalize w.alloc (Obj.cells #[.int .i64 2, .string (bs (hd r).text), .int .i64 ((hd r).pos : Int)] 57) = w0 at b0 x0 x1 ⊢
    refine (rok_f (h.below b0)).mono ?_
    rintro e w1 ⟨rfl, hb1⟩
    have y0 : w1.cell? ⟨w.heap.size, 0, none⟩ = some (.int .i64 2) := (Ext.below (b := q.rb) hb1).cell x0 (by simp; omega)
    have y1 : w1.cell? ⟨w.heap.size, 1, none⟩ = some (.string (bs (hd r).text)) := (Ext.below (b := q.rb) hb1).cell x1 (by simp; omega)
    have hb1w := b0.trans (hb1.mono b0.size)
    go_wp2_with fail
    refine (HPU.out w1 hb1w).mono ?_
    rintro e w2 ⟨hp, hb2⟩
    have hb2w := hb1w.trans (hb2.mono hb1w.size)
    have h5 := h.below hb2w
    have c0 := HC.out w2 _ h5
    have c1 := h5.fz 0
    rcases hp with ⟨hv, rfl⟩ | ⟨hv, nn, N, rfl⟩
    · by_cases hmv : most < Tp.val (tx r)
      · have HV2 := HV.out
        rw [if_pos hmv] at HV2
        have hmv' : (most : Int) < (Tp.val (hd r).text : Int) := by simp only [tx] at hmv; omega
        have HV3 := Lib.hid HV2
        clear HV HV2 hmv hv
        generalize (Tp.val (hd r).text : Int) = vv at *
        go_wp2_with fail
        refine (rfails_any h5 4).mono ?_
        rintro e w3 ⟨rfl, h6, hb3⟩
        rw [if_pos rfl] at h6
        go_wp2_with fail
        exact bodyPost_ret (v := .int .i64 0) (by simp [results, Tryz.results18, go_sem]) rfl (by rw [HV3.out]; exact ⟨rfl, h6, (Ext.below hb2w).trans hb3⟩)
      · have HV2 := HV.out
        rw [if_neg hmv] at HV2
        have hmv' : ¬ (most : Int) < (Tp.val (hd r).text : Int) := by simp only [tx] at hmv; omega
        have hvw : IntKind.i64.wrap (Tp.val (hd r).text : Int) = (Tp.val (hd r).text : Int) := by unfold IntKind.wrap; simp [IntKind.bits, IntKind.signed]; simp only [tx] at hmv; omega
        have HT : Hid ((Tp.val (tx r) : Int) = (Tp.val (hd r).text : Int)) := rfl
        have HV3 := Lib.hid HV2
        clear HV HV2 hmv hv
        generalize hvv : (Tp.val (hd r).text : Int) = vv at *
        clear hvv
        go_wp2_with fail
        exact bodyPost_ret (v := .int .i64 vv) (by simp [results, Tryz.results18, go_sem]) rfl (by rw [HV3.out]; exact ⟨by rw [HT.out], h.stepped HK.out hb2w (by rw [HI.out.1]) (by rw [HI.out.2.1]) (by rw [HI.out.2.2]), (Ext.below hb2w).set 0 _⟩)
    · have hmv : most < Tp.val (tx r) := by simp only [tx]; omega
      have HV2 := HV.out
      rw [if_pos hmv] at HV2
      have HV3 := Lib.hid HV2
      clear HV HV2 hmv hv
      go_wp2_with fail
      refine (rfails_any h5 4).mono ?_
      rintro e w3 ⟨rfl, h6, hb3⟩
      rw [if_pos rfl] at h6
      go_wp2_with fail
      exact bodyPost_ret (v := .int .i64 0) (by simp [results, Tryz.results18, go_sem]) rfl (by rw [HV3.out]; exact ⟨rfl, h6, (Ext.below hb2w).trans hb3⟩)
  · have hkd : ¬ kd (hd r) = 2 := by unfold kd; split <;> omega
    have HV : ny = (0, (r, ((3 : Int), (at' r : Int)))) := by
      rw [hny]
      unfold nu Tp.number
      rw [if_pos rfl, if_pos hk2]; rfl
    rw [HV]
    clear HV hdg hn2 hk2 hny
    generalize kd (hd r) = kk at *
    go_enter Tryz.func18, Tryz.ntmps18
    go_wp2_with fail
    generalize w.alloc (Obj.cells #[.int .i64 kk, .string (bs (hd r).text), .int .i64 ((hd r).pos : Int)] 57) = w0 at b0 x0 x1 ⊢
    refine (rok_f (h.below b0)).mono ?_
    rintro e w1 ⟨rfl, hb1⟩
    have y0 : w1.cell? ⟨w.heap.size, 0, none⟩ = some (.int .i64 kk) := (Ext.below (b := q.rb) hb1).cell x0 (by simp; omega)
    have hb1w := b0.trans (hb1.mono b0.size)
    go_wp2_with fail
    refine (rfails_any (h.below hb1w) 3).mono ?_
    rintro e w3 ⟨rfl, h6, hb3⟩
    rw [if_pos rfl] at h6
    go_wp2_with fail
    exact bodyPost_ret (v := .int .i64 0) (by simp [results, Tryz.results18, go_sem]) rfl ⟨rfl, h6, (Ext.below hb1w).trans hb3⟩
theorem below_dn (w : World) (n : Nat) : Below w.heap.size w (w.drewN n) := below_drewN (Below.refl w.heap.size w) n
set_option maxRecDepth 100000 in
set_option maxHeartbeats 400000 in
theorem rok_rawq (rb : Nat) (a b : Int) (w : World) (_hp : rb < w.heap.size) (_hg : 0 < w.heap.size)
    (c1 : w.cell? ⟨rb, 1, none⟩ = some (.int .i64 a)) (c2 : w.cell? ⟨rb, 2, none⟩ = some (.int .i64 b))
    (f0 : w.cell? ⟨0, 0, none⟩ = some (.int .i64 0)) (f1 : w.cell? ⟨0, 1, none⟩ = some (.int .i64 (-1))) :
    Calls Tryz.prog 13 #[.pointer (some ⟨rb, 0, none⟩)] w fun e w' => e = .returned (.bool (decide ((a, b) = fine))) ∧ ∃ m, w' = w.drewN m := by
  by_cases ha : a = 0
  · by_cases hb : b = -1
    · subst ha; subst hb
      go_enter Tryz.func13, Tryz.ntmps13
      go_wp2
      go_region
      go_wp2
      go_ret
      exact ⟨by simp [fine], 1, rfl⟩
    · subst ha
      have hd1 : decide (((0 : Int), b) = fine) = false := by simp [fine, hb]
      rw [hd1]
      go_enter Tryz.func13, Tryz.ntmps13
      go_wp2
      go_region
      go_wp2
      go_ret
      exact ⟨rfl, 1, rfl⟩
  · have hd1 : decide ((a, b) = fine) = false := by simp [fine, ha]
    rw [hd1]
    go_enter Tryz.func13, Tryz.ntmps13
    go_wp2
    go_region
    go_wp2
    go_ret
    exact ⟨rfl, 1, rfl⟩
theorem rok_q {w : World} {q : Rp} {ts r : List Tok} {bad : Fl} (h : RS w q ts r bad) :
    Calls Tryz.prog 13 #[.pointer (some ⟨q.rb, 0, none⟩)] w fun e w' => e = .returned (.bool (decide (bad = fine))) ∧ ∃ m, w' = w.drewN m :=
  rok_rawq q.rb bad.1 bad.2 w (lt_of_cell h.c0) (lt_of_cell h.gl.f0) h.c1 h.c2 h.gl.f0 h.gl.f1
end Go.Proofs.YtfcdphgggdioeaaGreatDoor
/- The document's reader: the words of each level. -/
namespace Go.Proofs.YtfcdphgggdioeaaGreatDoor
open Go.RowKit
/- words of a level -/
def lvw (k : Nat) : List UInt8 := match k with
  | 0 => [111, 114]
  | 1 => [97, 110, 100]
  | 2 => [61, 32, 35, 32, 60, 32, 60, 61, 32, 62, 32, 62, 61]
  | 3 => [43, 32, 45]
  | _ => [42, 32, 100, 105, 118, 32, 109, 111, 100]
open Tp in
theorem lvw_one (k : Nat) (hk : k < 5) (s : List UInt8) : oneB s (lvw k) = decide (Tp.lvl s = k) := by
  have hl : ∀ ws : List (List UInt8), (∀ u ∈ ws, 32 ∉ u ∧ u ≠ []) → lvw k ++ [32] = wsj ws → (s ∈ ws ↔ Tp.lvl s = k) → oneB s (lvw k) = decide (Tp.lvl s = k) := fun ws h1 h2 h3 => by
    rw [Bool.eq_iff_iff, oneB_iff h1 h2, decide_eq_true_iff]; exact h3
  match k, hk with
  | 0, _ =>
    refine hl [wOr] (by decide) (by decide) ?_
    simp only [List.mem_cons, List.not_mem_nil, or_false]
    constructor
    · rintro rfl; decide
    · intro h; unfold lvl at h; split at h
      · assumption
      · repeat (split at h <;> try omega)
  | 1, _ =>
    refine hl [wAnd] (by decide) (by decide) ?_
    simp only [List.mem_cons, List.not_mem_nil, or_false]
    constructor
    · rintro rfl; decide
    · intro h; unfold lvl at h
      repeat (first | (split at h) | assumption | omega)
  | 2, _ =>
    refine hl [mEq, mNe, mLt, mLe, mGt, mGe] (by decide) (by decide) ?_
    simp only [List.mem_cons, List.not_mem_nil, or_false]
    constructor
    · rintro (rfl | rfl | rfl | rfl | rfl | rfl) <;> decide
    · intro h; unfold lvl at h
      repeat (first | (split at h) | assumption | omega)
  | 3, _ =>
    refine hl [mPlus, mMinus] (by decide) (by decide) ?_
    simp only [List.mem_cons, List.not_mem_nil, or_false]
    constructor
    · rintro (rfl | rfl) <;> decide
    · intro h; unfold lvl at h
      repeat (first | (split at h) | assumption | omega)
  | 4, _ =>
    refine hl [mStar, wDiv, wMod] (by decide) (by decide) ?_
    simp only [List.mem_cons, List.not_mem_nil, or_false]
    constructor
    · rintro (rfl | rfl | rfl) <;> decide
    · intro h; unfold lvl at h
      repeat (first | (split at h) | assumption | omega)
theorem lvw_len (k : Nat) : (lvw k).length < 1000 := by unfold lvw; split <;> decide
theorem rlv_at (k : Nat) (hk : k < 5) : rlv.getD k undef = .string (bs (lvw k)) := by
  match k, hk with
  | 0, _ => rfl
  | 1, _ => rfl
  | 2, _ => rfl
  | 3, _ => rfl
  | 4, _ => rfl
end Go.Proofs.YtfcdphgggdioeaaGreatDoor
