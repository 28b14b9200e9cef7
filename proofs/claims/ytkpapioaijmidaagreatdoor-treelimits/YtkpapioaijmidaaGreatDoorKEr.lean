import Derived.Test.YtkpapioaijmidaaGreatDoorKEq
/- The document's reader: name, where it is a word that is kept. -/
namespace Go.Proofs.YtkpapioaijmidaaGreatDoor
open Go.RowKit
open Tp (Tok hd tx at' stp)
open Nr (Fl fine)

set_option maxRecDepth 100000 in
set_option maxHeartbeats 800000 in
theorem rname_bad2 {w : World} {q : Rp} {ts r : List Tok} {bad : Fl} (h : RS w q ts r bad) (hk1 : (hd r).kind = 1) (hkp : tx r ∈ Tp.kept) :
    Calls Tryz.prog 12 #[.pointer (some ⟨q.rb, 0, none⟩)] w fun e w' => e = .returned (.string ⟨#[]⟩) ∧ RS w' q ts r (if bad = fine then (3, (at' r : Int)) else bad) ∧ Ext q.rb w w' := by
  obtain ⟨h1, h2, h3, h4⟩ := h.hd
  have hmem : hd r ∈ ts := List.mem_of_getElem? h1
  have HL : Hid ((hd r).text.length < 100001) := by have := (h.tl _ hmem).1; exact (by omega : (hd r).text.length < 100001)
  obtain ⟨i, hi⟩ : ∃ i, i = (ts.length - r.length) * 3 := ⟨_, rfl⟩
  obtain ⟨n, hn⟩ : ∃ n, n = r.length := ⟨_, rfl⟩
  obtain ⟨k, hk⟩ : ∃ k, k = q.cap - (ts.length - r.length) := ⟨_, rfl⟩
  have HC : Hid (∀ w' bd, RS w' q ts r bd → w'.cell? ⟨q.rb, 0, none⟩ = some (.slice (some ⟨q.tb, i, none⟩) n k)) := fun w' bd h' => by
    rw [hk, hi, hn]; exact h'.c0
  have d0 := HC.out w bad h
  have d1 : w.cell? ⟨q.tb, i, none⟩ = some (.int .i64 (kd (hd r))) := by rw [hi]; exact (h.toks _ _ h1).c0
  have d2 : w.cell? ⟨q.tb, i + 1, none⟩ = some (.string (bs (hd r).text)) := by rw [hi]; exact (h.toks _ _ h1).c1
  have d3 : w.cell? ⟨q.tb, i + 2, none⟩ = some (.int .i64 ((hd r).pos : Int)) := by rw [hi]; exact (h.toks _ _ h1).c2
  have hn0 : (0 : Int) < n := by omega
  have HI : Hid (i = (ts.length - r.length) * 3 ∧ n = r.length ∧ k = q.cap - (ts.length - r.length)) := ⟨hi, hn, hk⟩
  have hq := lt_of_cell h.c0
  clear hi hn hk h1 h2 h3 h4
  have hk2 : kd (hd r) = 1 := by unfold kd; rw [if_neg (by omega)]; omega
  rw [hk2] at d1
  have hone : oneB (hd r).text keptW = true := by rw [kept_one]; exact decide_eq_true hkp
  clear hk1 hk2 hkp
  obtain ⟨bd, hbd⟩ : ∃ bd, bd = if bad = fine then (((3 : Nat) : Int), (at' r : Int)) else bad := ⟨_, rfl⟩
  have hbd' : (if bad = fine then ((3 : Int), (at' r : Int)) else bad) = bd := hbd.symm
  rw [hbd']
  have hnf : bd ≠ fine := by
    rw [hbd]; split
    · simp [fine]
    · assumption
  have HB : Hid (bd = if bad = fine then (((3 : Nat) : Int), (at' r : Int)) else bad) := hbd
  clear hbd hbd'
  have b0 : Below w.heap.size w (w.alloc (Obj.cells #[.int .i64 1, .string (bs (hd r).text), .int .i64 ((hd r).pos : Int)] 57)) := (Below.refl _ _).alloc (Nat.le_refl _) _
  have x0 : (w.alloc (Obj.cells #[.int .i64 1, .string (bs (hd r).text), .int .i64 ((hd r).pos : Int)] 57)).cell? ⟨w.heap.size, 1, none⟩ = some (.string (bs (hd r).text)) := by simp [go_sem]
  have hdf := decide_eq_false hnf
  by_cases hL : 10 < (bs (hd r).text).size
  · go_enter Tryz.func12, Tryz.ntmps12
    go_wp2_with fail
    generalize w.alloc (Obj.cells #[.int .i64 1, .string (bs (hd r).text), .int .i64 ((hd r).pos : Int)] 57) = w0 at b0 x0 ⊢
    obtain ⟨m, hm⟩ := (h.below b0).gl.ml
    refine (oneOf_any (hd r).text keptW _ _ (rfl : bs _ = bs _) (rfl : _ = bs keptW) m w0 HL.out (by decide) hm).mono ?_
    rintro e w1 ⟨rfl, e1⟩
    rw [hone]
    subst e1
    go_wp2_with fail
    refine (rfails_any (h.below b0) 3).mono ?_
    rintro e w2 ⟨rfl, h2, hb2⟩
    rw [← HB.out] at h2
    have x2 := hb2.cell x0 (by simp; omega)
    go_wp2_with fail
    refine (rfails_any h2 4).mono ?_
    rintro e w3 ⟨rfl, h3, hb3⟩
    rw [if_neg hnf] at h3
    have x3 := hb3.cell x2 (by simp; omega)
    go_wp2_with fail
    refine (rok_any h3).mono ?_
    rintro e w4 ⟨rfl, hb4⟩
    rw [hdf]
    go_wp2_with fail
    exact bodyPost_ret (v := .string ⟨#[]⟩) (by simp [results, Tryz.results12, go_sem]) rfl ⟨rfl, h3.below hb4, (((Ext.below b0).trans hb2).trans hb3).trans (Ext.below hb4)⟩
  · go_enter Tryz.func12, Tryz.ntmps12
    go_wp2_with fail
    generalize w.alloc (Obj.cells #[.int .i64 1, .string (bs (hd r).text), .int .i64 ((hd r).pos : Int)] 57) = w0 at b0 x0 ⊢
    obtain ⟨m, hm⟩ := (h.below b0).gl.ml
    refine (oneOf_any (hd r).text keptW _ _ (rfl : bs _ = bs _) (rfl : _ = bs keptW) m w0 HL.out (by decide) hm).mono ?_
    rintro e w1 ⟨rfl, e1⟩
    rw [hone]
    subst e1
    go_wp2_with fail
    refine (rfails_any (h.below b0) 3).mono ?_
    rintro e w2 ⟨rfl, h2, hb2⟩
    rw [← HB.out] at h2
    have x2 := hb2.cell x0 (by simp; omega)
    go_wp2_with fail
    refine (rok_any h2).mono ?_
    rintro e w4 ⟨rfl, hb4⟩
    rw [hdf]
    go_wp2_with fail
    exact bodyPost_ret (v := .string ⟨#[]⟩) (by simp [results, Tryz.results12, go_sem]) rfl ⟨rfl, h2.below hb4, ((Ext.below b0).trans hb2).trans (Ext.below hb4)⟩
end Go.Proofs.YtkpapioaijmidaaGreatDoor
