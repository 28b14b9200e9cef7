import Derived.Test.YtkpapioaijmidaaGreatDoorKEk
/- The document's reader: ok, fails, see. -/
namespace Go.Proofs.YtkpapioaijmidaaGreatDoor
open Go.RowKit
open Tp (Tok hd tx at' stp)
open Nr (Fl fine)

set_option maxRecDepth 100000 in
set_option maxHeartbeats 400000 in
theorem rok_raw (rb : Nat) (a b : Int) (w : World) (_hp : rb < w.heap.size) (_hg : 0 < w.heap.size)
    (c1 : w.cell? ⟨rb, 1, none⟩ = some (.int .i64 a)) (c2 : w.cell? ⟨rb, 2, none⟩ = some (.int .i64 b))
    (f0 : w.cell? ⟨0, 0, none⟩ = some (.int .i64 0)) (f1 : w.cell? ⟨0, 1, none⟩ = some (.int .i64 (-1))) :
    Calls Tryz.prog 11 #[.pointer (some ⟨rb, 0, none⟩)] w fun e w' => e = .returned (.bool (decide ((a, b) = fine))) ∧ Below w.heap.size w w' := by
  by_cases ha : a = 0
  · by_cases hb : b = -1
    · subst ha; subst hb
      go_enter Tryz.func11, Tryz.ntmps11
      go_wp2
      go_region
      go_wp2
      go_ret
      exact ⟨by simp [fine], ((Below.refl _ _)).drew⟩
    · subst ha
      have hd1 : decide (((0 : Int), b) = fine) = false := by simp [fine, hb]
      rw [hd1]
      go_enter Tryz.func11, Tryz.ntmps11
      go_wp2
      go_region
      go_wp2
      go_ret
      exact ⟨rfl, ((Below.refl _ _)).drew⟩
  · have hd1 : decide ((a, b) = fine) = false := by simp [fine, ha]
    rw [hd1]
    go_enter Tryz.func11, Tryz.ntmps11
    go_wp2
    go_region
    go_wp2
    go_ret
    exact ⟨rfl, ((Below.refl _ _)).drew⟩
theorem rok_any {w : World} {q : Rp} {ts r : List Tok} {bad : Fl} (h : RS w q ts r bad) :
    Calls Tryz.prog 11 #[.pointer (some ⟨q.rb, 0, none⟩)] w fun e w' => e = .returned (.bool (decide (bad = fine))) ∧ Below w.heap.size w w' :=
  rok_raw q.rb bad.1 bad.2 w (lt_of_cell h.c0) (lt_of_cell h.gl.f0) h.c1 h.c2 h.gl.f0 h.gl.f1

theorem RS.failed {w w2 : World} {q : Rp} {ts r : List Tok} {bad : Fl} (h : RS w q ts r bad) (hb : Below w.heap.size w w2) (e p : Int) :
    RS ((w2.setCell ⟨q.rb, 1, none⟩ (.int .i64 e)).setCell ⟨q.rb, 2, none⟩ (.int .i64 p)) q ts r (e, p) := by
  have h2 := h.below hb
  have n1 := h.apart
  have o : ∀ (i j : Nat) (v : Value), (i ≠ q.rb ∨ (j ≠ 1 ∧ j ≠ 2)) → w2.cell? ⟨i, j, none⟩ = some v → ((w2.setCell ⟨q.rb, 1, none⟩ (.int .i64 e)).setCell ⟨q.rb, 2, none⟩ (.int .i64 p)).cell? ⟨i, j, none⟩ = some v := by
    intro i j v hn hv
    rw [World.cell?_setCell_other _ ⟨q.rb, 2, none⟩ ⟨i, j, none⟩ _ (by simp <;> omega), World.cell?_setCell_other _ ⟨q.rb, 1, none⟩ ⟨i, j, none⟩ _ (by simp <;> omega)]
    exact hv
  refine ⟨o _ _ _ (by omega) h2.c0, ?_, ?_, fun j => by simpa using h2.fz j, fun i t ht => ⟨o _ _ _ (by omega) (h2.toks i t ht).c0, o _ _ _ (by omega) (h2.toks i t ht).c1, o _ _ _ (by omega) (h2.toks i t ht).c2⟩, h.suf, h.ne, h.len, h.cp, h.last, h.apart, h.tl, h.txt, h.dig, h2.gl.keep fun i hi j v hv => o _ _ _ (by have := h.glt i hi; omega) hv, h.glt⟩
  · rw [World.cell?_setCell_other _ ⟨q.rb, 2, none⟩ ⟨q.rb, 1, none⟩ _ (by simp)]
    exact World.cell?_setCell_same _ _ _ h2.c1
  · have c2 : (w2.setCell ⟨q.rb, 1, none⟩ (.int .i64 e)).cell? ⟨q.rb, 2, none⟩ = some (.int .i64 bad.2) := by
      rw [World.cell?_setCell_other _ ⟨q.rb, 1, none⟩ ⟨q.rb, 2, none⟩ _ (by simp)]
      exact h2.c2
    exact World.cell?_setCell_same _ _ _ c2

set_option maxRecDepth 100000 in
set_option maxHeartbeats 400000 in
theorem rfails_any {w : World} {q : Rp} {ts r : List Tok} {bad : Fl} (h : RS w q ts r bad) (en : Nat) :
    Calls Tryz.prog 15 #[.pointer (some ⟨q.rb, 0, none⟩), .int .i64 (en : Int)] w fun e w' => e = .returned (.tuple #[]) ∧ RS w' q ts r (if bad = fine then ((en : Int), (at' r : Int)) else bad) ∧ Ext q.rb w w' := by
  by_cases hf : bad = fine
  · have hd1 := decide_eq_true hf
    rw [if_pos hf]
    clear hf
    obtain ⟨h1, h2, h3, h4⟩ := h.hd
    obtain ⟨i, hi⟩ : ∃ i, i = ts.length - r.length := ⟨_, rfl⟩
    obtain ⟨n, hn⟩ : ∃ n, n = r.length := ⟨_, rfl⟩
    obtain ⟨k, hk⟩ : ∃ k, k = q.cap - i := ⟨_, rfl⟩
    have HC : Hid (∀ w', RS w' q ts r bad → w'.cell? ⟨q.rb, 0, none⟩ = some (.slice (some ⟨q.tb, i * 3, none⟩) n k) ∧ w'.cell? ⟨q.tb, i * 3 + 2, none⟩ = some (.int .i64 ((hd r).pos : Int))) := fun w' h' => by
      rw [hk, hi, hn]; exact ⟨h'.c0, (h'.toks _ _ h1).c2⟩
    have hn0 : (0 : Int) < n := by omega
    clear hi hn hk h1 h2 h3 h4
    go_enter Tryz.func15, Tryz.ntmps15
    go_wp2_with fail
    refine (rok_any h).mono ?_
    rintro e w1 ⟨rfl, hb1⟩
    rw [hd1]
    have h5 := h.below hb1
    obtain ⟨d1, d2⟩ := HC.out w1 h5
    have d3 := h5.fz 1
    have d4 := h5.fz 2
    have d5 := h5.c1
    have d6 := h5.c2
    go_wp2_with fail
    refine bodyPost_end (results_none rfl _ _ _) rfl ⟨rfl, h.failed hb1 _ _, ((Ext.below hb1).set 1 _).set 2 _⟩
  · have hd1 := decide_eq_false hf
    rw [if_neg hf]
    clear hf
    go_enter Tryz.func15, Tryz.ntmps15
    go_wp2_with fail
    refine (rok_any h).mono ?_
    rintro e w1 ⟨rfl, hb1⟩
    rw [hd1]
    go_wp2_with fail
    exact bodyPost_end (results_none rfl _ _ _) rfl ⟨rfl, h.below hb1, Ext.below hb1⟩

set_option maxRecDepth 100000 in
set_option maxHeartbeats 400000 in
theorem rsee_any {w : World} {q : Rp} {ts r : List Tok} {bad : Fl} (h : RS w q ts r bad) (m : List UInt8) (hm : m ≠ []) (x : ByteArray) (hx : Hid (x = bs m)) :
    Calls Tryz.prog 17 #[.pointer (some ⟨q.rb, 0, none⟩), .string x] w fun e w' => e = .returned (.bool (decide (bad = fine ∧ tx r = m))) ∧ Below w.heap.size w w' := by
  by_cases hf : bad = fine
  · have hd1 := decide_eq_true hf
    have e0 : decide (bad = fine ∧ tx r = m) = decide (tx r = m) := by simp [hf]
    rw [e0]
    clear e0 hf
    obtain ⟨h1, h2, h3, h4⟩ := h.hd
    have hmem : hd r ∈ ts := List.mem_of_getElem? h1
    have htx := h.txt _ hmem
    obtain ⟨i, hi⟩ : ∃ i, i = ts.length - r.length := ⟨_, rfl⟩
    obtain ⟨n, hn⟩ : ∃ n, n = r.length := ⟨_, rfl⟩
    obtain ⟨k, hk⟩ : ∃ k, k = q.cap - i := ⟨_, rfl⟩
    have HC : Hid (∀ w', RS w' q ts r bad → w'.cell? ⟨q.rb, 0, none⟩ = some (.slice (some ⟨q.tb, i * 3, none⟩) n k) ∧ w'.cell? ⟨q.tb, i * 3, none⟩ = some (.int .i64 (kd (hd r))) ∧ w'.cell? ⟨q.tb, i * 3 + 1, none⟩ = some (.string (bs (hd r).text))) := fun w' h' => by
      rw [hk, hi, hn]; exact ⟨h'.c0, (h'.toks _ _ h1).c0, (h'.toks _ _ h1).c1⟩
    have hn0 : (0 : Int) < n := by omega
    clear hi hn hk h1 h2 h3 h4
    by_cases hk0 : (hd r).kind = 0
    · have hk1 : kd (hd r) = 4 := by simp [kd, hk0]
      have e1 : decide (tx r = m) = false := by
        have := htx hk0
        simp only [tx, this]
        exact decide_eq_false (fun e => hm e.symm)
      rw [e1]
      rw [hk1] at HC
      clear e1 htx hk0
      go_enter Tryz.func17, Tryz.ntmps17
      go_wp2_with fail
      refine (rok_any h).mono ?_
      rintro e w1 ⟨rfl, hb1⟩
      rw [hd1]
      have h5 := h.below hb1
      obtain ⟨d1, d2, d3⟩ := HC.out w1 h5
      go_wp2_with fail
      go_ret
      exact ⟨rfl, hb1⟩
    · obtain ⟨kk, hkk⟩ : ∃ kk, kk = kd (hd r) := ⟨_, rfl⟩
      have hk1 : (kk != 4) = true := by
        have := (h.tl _ hmem).2.2
        rw [hkk]
        simp [kd, hk0]
        omega
      rw [← hkk] at HC
      have e2 : ((bs (hd r).text).toList == (bs m).toList) = decide (tx r = m) := by rw [Bool.eq_iff_iff, decide_eq_true_iff, beq_iff_eq, bs_toList, bs_toList]; rfl
      have e1 : x = bs m := hx
      subst e1
      have E2 : Hid (((bs (hd r).text).toList == (bs m).toList) = decide (tx r = m)) := e2
      clear e2 htx hk0 hkk
      go_enter Tryz.func17, Tryz.ntmps17
      go_wp2_with fail
      refine (rok_any h).mono ?_
      rintro e w1 ⟨rfl, hb1⟩
      rw [hd1]
      have h5 := h.below hb1
      obtain ⟨d1, d2, d3⟩ := HC.out w1 h5
      go_wp2_with fail
      go_ret
      refine ⟨?_, hb1⟩
      have e2 := E2.out
      simp [e2]
  · have hd1 := decide_eq_false hf
    have e0 : decide (bad = fine ∧ tx r = m) = false := by simp [hf]
    rw [e0]
    clear e0 hf
    go_enter Tryz.func17, Tryz.ntmps17
    go_wp2_with fail
    refine (rok_any h).mono ?_
    rintro e w1 ⟨rfl, hb1⟩
    rw [hd1]
    go_wp2_with fail
    go_ret
    exact ⟨rfl, hb1⟩
end Go.Proofs.YtkpapioaijmidaaGreatDoor
