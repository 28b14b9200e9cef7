import Derived.Test.YtkpapioaijmidaaGreatDoorKEr
/- The document's reader: name, where it is a word that may be one. -/
namespace Go.Proofs.YtkpapioaijmidaaGreatDoor
open Go.RowKit
open Tp (Tok hd tx at' stp)
open Nr (Fl fine)

set_option maxRecDepth 100000 in
set_option maxHeartbeats 800000 in
theorem rname_long {w : World} {q : Rp} {ts r : List Tok} {bad : Fl} (h : RS w q ts r bad) (hk1 : (hd r).kind = 1) (hkp : tx r ∉ Tp.kept) (hlen : 10 < (tx r).length) :
    Calls Tryz.prog 12 #[.pointer (some ⟨q.rb, 0, none⟩)] w fun e w' => e = .returned (.string ⟨#[]⟩) ∧ RS w' q ts r (if bad = fine then (4, (at' r : Int)) else bad) ∧ Ext q.rb w w' := by
  obtain ⟨h1, h2, h3, h4⟩ := h.hd
  have hmem : hd r ∈ ts := List.mem_of_getElem? h1
  have HL : Hid ((hd r).text.length < 100001) := by have := (h.tl _ hmem).1; exact (by omega : (hd r).text.length < 100001)
  obtain ⟨i, hi⟩ : ∃ i, i = (ts.length - r.length) * 3 := ⟨_, rfl⟩
  obtain ⟨n, hn⟩ : ∃ n, n = r.length := ⟨_, rfl⟩
  obtain ⟨k, hk⟩ : ∃ k, k = q.cap - (ts.length - r.length) := ⟨_, rfl⟩
  have HC : Hid (∀ w' bd, RS w' q ts r bd → w'.cell? ⟨q.rb, 0, none⟩ = some (.slice (some ⟨q.tb, i, none⟩) n k)) := fun w' bd h' => by
    rw [hk, hi, hn]; exact h'.c0
  have d0 := HC.out w bad h
  have d1 : w.cell? ⟨q.tb, i, none⟩ = some (.int .i64 (kd (hd r))) := by rw [hi]; exact (h.toks _ _ h1).c0
  have d2 : w.cell? ⟨q.tb, i + 1, none⟩ = some (.string (bs (hd r).text)) := by rw [hi]; exact (h.toks _ _ h1).c1
  have d3 : w.cell? ⟨q.tb, i + 2, none⟩ = some (.int .i64 ((hd r).pos : Int)) := by rw [hi]; exact (h.toks _ _ h1).c2
  have hn0 : (0 : Int) < n := by omega
  have HI : Hid (i = (ts.length - r.length) * 3 ∧ n = r.length ∧ k = q.cap - (ts.length - r.length)) := ⟨hi, hn, hk⟩
  have hq := lt_of_cell h.c0
  clear hi hn hk h1 h2 h3 h4
  have hk2 : kd (hd r) = 1 := by unfold kd; rw [if_neg (by omega)]; omega
  rw [hk2] at d1
  have hone : oneB (hd r).text keptW = false := by rw [kept_one]; exact decide_eq_false hkp
  have hL : 10 < (bs (hd r).text).size := by have e : (bs (hd r).text).size = (hd r).text.length := by simp [bs, ByteArray.size]
                                             rw [e]; exact hlen
  clear hk1 hk2 hkp
  obtain ⟨bd, hbd⟩ : ∃ bd, bd = if bad = fine then (((4 : Nat) : Int), (at' r : Int)) else bad := ⟨_, rfl⟩
  have hbd' : (if bad = fine then ((4 : Int), (at' r : Int)) else bad) = bd := hbd.symm
  rw [hbd']
  have hnf : bd ≠ fine := by
    rw [hbd]; split
    · simp [fine]
    · assumption
  have HB : Hid (bd = if bad = fine then (((4 : Nat) : Int), (at' r : Int)) else bad) := hbd
  clear hbd hbd'
  have b0 : Below w.heap.size w (w.alloc (Obj.cells #[.int .i64 1, .string (bs (hd r).text), .int .i64 ((hd r).pos : Int)] 57)) := (Below.refl _ _).alloc (Nat.le_refl _) _
  have x0 : (w.alloc (Obj.cells #[.int .i64 1, .string (bs (hd r).text), .int .i64 ((hd r).pos : Int)] 57)).cell? ⟨w.heap.size, 1, none⟩ = some (.string (bs (hd r).text)) := by simp [go_sem]
  have hdf := decide_eq_false hnf
  clear hlen
  go_enter Tryz.func12, Tryz.ntmps12
  go_wp2_with fail
  generalize w.alloc (Obj.cells #[.int .i64 1, .string (bs (hd r).text), .int .i64 ((hd r).pos : Int)] 57) = w0 at b0 x0 ⊢
  obtain ⟨m, hm⟩ := (h.below b0).gl.ml
  refine (oneOf_any (hd r).text keptW _ _ (rfl : bs _ = bs _) (rfl : _ = bs keptW) m w0 HL.out (by decide) hm).mono ?_
  rintro e w1 ⟨rfl, e1⟩
  rw [hone]
  subst e1
  go_wp2_with fail
  refine (rfails_any (h.below b0) 4).mono ?_
  rintro e w2 ⟨rfl, h2, hb2⟩
  rw [← HB.out] at h2
  have x2 := hb2.cell x0 (by simp; omega)
  go_wp2_with fail
  refine (rok_any h2).mono ?_
  rintro e w4 ⟨rfl, hb4⟩
  rw [hdf]
  go_wp2_with fail
  exact bodyPost_ret (v := .string ⟨#[]⟩) (by simp [results, Tryz.results12, go_sem]) rfl ⟨rfl, h2.below hb4, ((Ext.below b0).trans hb2).trans (Ext.below hb4)⟩

set_option maxRecDepth 100000 in
set_option maxHeartbeats 800000 in
theorem rname_was {w : World} {q : Rp} {ts r : List Tok} {bad : Fl} (h : RS w q ts r bad) (hk1 : (hd r).kind = 1) (hkp : tx r ∉ Tp.kept) (hlen : ¬ 10 < (tx r).length) (hnf : bad ≠ fine) :
    Calls Tryz.prog 12 #[.pointer (some ⟨q.rb, 0, none⟩)] w fun e w' => e = .returned (.string ⟨#[]⟩) ∧ RS w' q ts r bad ∧ Ext q.rb w w' := by
  obtain ⟨h1, h2, h3, h4⟩ := h.hd
  have hmem : hd r ∈ ts := List.mem_of_getElem? h1
  have HL : Hid ((hd r).text.length < 100001) := by have := (h.tl _ hmem).1; exact (by omega : (hd r).text.length < 100001)
  obtain ⟨i, hi⟩ : ∃ i, i = (ts.length - r.length) * 3 := ⟨_, rfl⟩
  obtain ⟨n, hn⟩ : ∃ n, n = r.length := ⟨_, rfl⟩
  obtain ⟨k, hk⟩ : ∃ k, k = q.cap - (ts.length - r.length) := ⟨_, rfl⟩
  have HC : Hid (∀ w' bd, RS w' q ts r bd → w'.cell? ⟨q.rb, 0, none⟩ = some (.slice (some ⟨q.tb, i, none⟩) n k)) := fun w' bd h' => by
    rw [hk, hi, hn]; exact h'.c0
  have d0 := HC.out w bad h
  have d1 : w.cell? ⟨q.tb, i, none⟩ = some (.int .i64 (kd (hd r))) := by rw [hi]; exact (h.toks _ _ h1).c0
  have d2 : w.cell? ⟨q.tb, i + 1, none⟩ = some (.string (bs (hd r).text)) := by rw [hi]; exact (h.toks _ _ h1).c1
  have d3 : w.cell? ⟨q.tb, i + 2, none⟩ = some (.int .i64 ((hd r).pos : Int)) := by rw [hi]; exact (h.toks _ _ h1).c2
  have hn0 : (0 : Int) < n := by omega
  have HI : Hid (i = (ts.length - r.length) * 3 ∧ n = r.length ∧ k = q.cap - (ts.length - r.length)) := ⟨hi, hn, hk⟩
  have hq := lt_of_cell h.c0
  clear hi hn hk h1 h2 h3 h4
  have hk2 : kd (hd r) = 1 := by unfold kd; rw [if_neg (by omega)]; omega
  rw [hk2] at d1
  have hone : oneB (hd r).text keptW = false := by rw [kept_one]; exact decide_eq_false hkp
  have hL : ¬ 10 < (bs (hd r).text).size := by have e : (bs (hd r).text).size = (hd r).text.length := by simp [bs, ByteArray.size]
                                               rw [e]; exact hlen
  clear hk1 hk2 hkp
  have b0 : Below w.heap.size w (w.alloc (Obj.cells #[.int .i64 1, .string (bs (hd r).text), .int .i64 ((hd r).pos : Int)] 57)) := (Below.refl _ _).alloc (Nat.le_refl _) _
  have x0 : (w.alloc (Obj.cells #[.int .i64 1, .string (bs (hd r).text), .int .i64 ((hd r).pos : Int)] 57)).cell? ⟨w.heap.size, 1, none⟩ = some (.string (bs (hd r).text)) := by simp [go_sem]
  have hdf := decide_eq_false hnf
  clear hlen
  go_enter Tryz.func12, Tryz.ntmps12
  go_wp2_with fail
  generalize w.alloc (Obj.cells #[.int .i64 1, .string (bs (hd r).text), .int .i64 ((hd r).pos : Int)] 57) = w0 at b0 x0 ⊢
  obtain ⟨m, hm⟩ := (h.below b0).gl.ml
  refine (oneOf_any (hd r).text keptW _ _ (rfl : bs _ = bs _) (rfl : _ = bs keptW) m w0 HL.out (by decide) hm).mono ?_
  rintro e w1 ⟨rfl, e1⟩
  rw [hone]
  subst e1
  go_wp2_with fail
  refine (rok_any (h.below b0)).mono ?_
  rintro e w4 ⟨rfl, hb4⟩
  rw [hdf]
  go_wp2_with fail
  exact bodyPost_ret (v := .string ⟨#[]⟩) (by simp [results, Tryz.results12, go_sem]) rfl ⟨rfl, (h.below b0).below hb4, (Ext.below b0).trans (Ext.below hb4)⟩

set_option maxRecDepth 100000 in
set_option maxHeartbeats 800000 in
theorem rname_ok {w : World} {q : Rp} {ts r : List Tok} {bad : Fl} (h : RS w q ts r bad) (hk1 : (hd r).kind = 1) (hkp : tx r ∉ Tp.kept) (hlen : ¬ 10 < (tx r).length) (hf : bad = fine) :
    Calls Tryz.prog 12 #[.pointer (some ⟨q.rb, 0, none⟩)] w fun e w' => e = .returned (.string (bs (tx r))) ∧ RS w' q ts (stp r) bad ∧ Ext q.rb w w' := by
  obtain ⟨h1, h2, h3, h4⟩ := h.hd
  have hmem : hd r ∈ ts := List.mem_of_getElem? h1
  have HL : Hid ((hd r).text.length < 100001) := by have := (h.tl _ hmem).1; exact (by omega : (hd r).text.length < 100001)
  obtain ⟨i, hi⟩ : ∃ i, i = (ts.length - r.length) * 3 := ⟨_, rfl⟩
  obtain ⟨n, hn⟩ : ∃ n, n = r.length := ⟨_, rfl⟩
  obtain ⟨k, hk⟩ : ∃ k, k = q.cap - (ts.length - r.length) := ⟨_, rfl⟩
  have HC : Hid (∀ w' bd, RS w' q ts r bd → w'.cell? ⟨q.rb, 0, none⟩ = some (.slice (some ⟨q.tb, i, none⟩) n k)) := fun w' bd h' => by
    rw [hk, hi, hn]; exact h'.c0
  have d0 := HC.out w bad h
  have d1 : w.cell? ⟨q.tb, i, none⟩ = some (.int .i64 (kd (hd r))) := by rw [hi]; exact (h.toks _ _ h1).c0
  have d2 : w.cell? ⟨q.tb, i + 1, none⟩ = some (.string (bs (hd r).text)) := by rw [hi]; exact (h.toks _ _ h1).c1
  have d3 : w.cell? ⟨q.tb, i + 2, none⟩ = some (.int .i64 ((hd r).pos : Int)) := by rw [hi]; exact (h.toks _ _ h1).c2
  have hn0 : (0 : Int) < n := by omega
  have HI : Hid (i = (ts.length - r.length) * 3 ∧ n = r.length ∧ k = q.cap - (ts.length - r.length)) := ⟨hi, hn, hk⟩
  have hq := lt_of_cell h.c0
  clear hi hn hk h1 h2 h3 h4
  have hk2 : kd (hd r) = 1 := by unfold kd; rw [if_neg (by omega)]; omega
  rw [hk2] at d1
  have hone : oneB (hd r).text keptW = false := by rw [kept_one]; exact decide_eq_false hkp
  have hL : ¬ 10 < (bs (hd r).text).size := by have e : (bs (hd r).text).size = (hd r).text.length := by simp [bs, ByteArray.size]
                                               rw [e]; exact hlen
  have hk0 : (hd r).kind ≠ 0 := by omega
  have HK : Hid ((hd r).kind ≠ 0) := hk0
  have hn2 : (2 : Int) ≤ n := by
    obtain ⟨_, y4, y5, _, _⟩ := h.stp_of hk0
    have : 0 < r.tail.length := List.length_pos_iff.2 y4
    have := HI.out.2.1
    omega
  have hk3 : (n : Int) ≤ k := by have := h.cp; have := HI.out; have := h.hd.2.2.2; omega
  clear hk1 hk2 hkp hk0
  have b0 : Below w.heap.size w (w.alloc (Obj.cells #[.int .i64 1, .string (bs (hd r).text), .int .i64 ((hd r).pos : Int)] 57)) := (Below.refl _ _).alloc (Nat.le_refl _) _
  have x0 : (w.alloc (Obj.cells #[.int .i64 1, .string (bs (hd r).text), .int .i64 ((hd r).pos : Int)] 57)).cell? ⟨w.heap.size, 1, none⟩ = some (.string (bs (hd r).text)) := by simp [go_sem]
  have hdf := decide_eq_true hf
  clear hlen hf
  go_enter Tryz.func12, Tryz.ntmps12
  go_wp2_with fail
  generalize w.alloc (Obj.cells #[.int .i64 1, .string (bs (hd r).text), .int .i64 ((hd r).pos : Int)] 57) = w0 at b0 x0 ⊢
  obtain ⟨m, hm⟩ := (h.below b0).gl.ml
  refine (oneOf_any (hd r).text keptW _ _ (rfl : bs _ = bs _) (rfl : _ = bs keptW) m w0 HL.out (by decide) hm).mono ?_
  rintro e w1 ⟨rfl, e1⟩
  rw [hone]
  subst e1
  go_wp2_with fail
  refine (rok_any (h.below b0)).mono ?_
  rintro e w4 ⟨rfl, hb4⟩
  rw [hdf]
  have h5 := (h.below b0).below hb4
  have c0 := HC.out w4 bad h5
  have c1 := h5.fz 0
  have x4 : w4.cell? ⟨w.heap.size, 1, none⟩ = some (.string (bs (hd r).text)) := (Ext.below (b := q.rb) hb4).cell x0 (by simp; omega)
  have x5 : (w4.setCell ⟨q.rb, 0, none⟩ (.slice (some ⟨q.tb, i + 3, none⟩) (n - 1) (k - 1))).cell? ⟨w.heap.size, 1, none⟩ = some (.string (bs (hd r).text)) := by
    rw [World.cell?_setCell_other _ ⟨q.rb, 0, none⟩ ⟨w.heap.size, 1, none⟩ _ (by simp <;> omega)]; exact x4
  go_wp2_with fail
  exact bodyPost_ret (v := .string (bs (tx r))) (by simp [results, Tryz.results12, go_sem, tx]) rfl ⟨rfl, (h.below b0).stepped HK.out hb4 (by rw [HI.out.1]) (by rw [HI.out.2.1]) (by rw [HI.out.2.2]), ((Ext.below b0).trans (Ext.below hb4)).set 0 _⟩

theorem rname_any {w : World} {q : Rp} {ts r : List Tok} {bad : Fl} (h : RS w q ts r bad) :
    Calls Tryz.prog 12 #[.pointer (some ⟨q.rb, 0, none⟩)] w fun e w' => e = .returned (.string (bs (nmR r bad).1)) ∧ RS w' q ts (nmR r bad).2.1 (nmR r bad).2.2 ∧ Ext q.rb w w' := by
  by_cases hk : (hd r).kind = 1
  · by_cases hkp : tx r ∈ Tp.kept
    · have e : nmR r bad = ([], r, if bad = fine then (3, (at' r : Int)) else bad) := by
        unfold nmR Tp.name
        rw [if_pos (Or.inr hkp)]
        split <;> rfl
      rw [e]
      exact rname_bad2 h hk hkp
    · have hno : ¬ ((hd r).kind ≠ 1 ∨ tx r ∈ Tp.kept) := fun e => e.elim (fun e => e hk) hkp
      by_cases hl : 10 < (tx r).length
      · have e : nmR r bad = ([], r, if bad = fine then (4, (at' r : Int)) else bad) := by
          unfold nmR Tp.name
          rw [if_neg hno, if_pos hl]
          split <;> rfl
        rw [e]
        exact rname_long h hk hkp hl
      · by_cases hf : bad = fine
        · have e : nmR r bad = (tx r, stp r, bad) := by
            unfold nmR Tp.name
            rw [if_neg hno, if_neg hl, if_pos hf, hf]
          rw [e]
          exact rname_ok h hk hkp hl hf
        · have e : nmR r bad = ([], r, bad) := by
            unfold nmR
            rw [if_neg hf]
          rw [e]
          exact rname_was h hk hkp hl hf
  · have e : nmR r bad = ([], r, if bad = fine then (3, (at' r : Int)) else bad) := by
      unfold nmR Tp.name
      rw [if_pos (Or.inl hk)]
      split <;> rfl
    rw [e]
    exact rname_bad1 h hk
end Go.Proofs.YtkpapioaijmidaaGreatDoor
