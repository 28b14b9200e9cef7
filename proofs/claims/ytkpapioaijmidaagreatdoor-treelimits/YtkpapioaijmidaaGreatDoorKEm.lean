import Derived.Test.YtkpapioaijmidaaGreatDoorKEl
/- The document's reader: take, must. -/
namespace Go.Proofs.YtkpapioaijmidaaGreatDoor
open Go.RowKit
open Tp (Tok hd tx at' stp)
open Nr (Fl fine)

theorem RS.stepped {w w2 : World} {q : Rp} {ts r : List Tok} {bad : Fl} (h : RS w q ts r bad) (hk : (Tp.hd r).kind ≠ 0) (hb : Below w.heap.size w w2) {i n k : Nat}
    (hi : i = (ts.length - r.length) * 3 + 3) (hn : n = r.length - 1) (hc : k = q.cap - (ts.length - r.length) - 1) :
    RS (w2.setCell ⟨q.rb, 0, none⟩ (.slice (some ⟨q.tb, i, none⟩) n k)) q ts (stp r) bad := by
  have h2 := h.below hb
  have n1 := h.apart
  obtain ⟨h3, h4, h5, h6, h7⟩ := h.stp_of hk
  have o : ∀ (i' j : Nat) (v : Value), (i' ≠ q.rb ∨ j ≠ 0) → w2.cell? ⟨i', j, none⟩ = some v → (w2.setCell ⟨q.rb, 0, none⟩ (.slice (some ⟨q.tb, i, none⟩) n k)).cell? ⟨i', j, none⟩ = some v := by
    intro i' j v hn hv
    rw [World.cell?_setCell_other _ ⟨q.rb, 0, none⟩ ⟨i', j, none⟩ _ (by simp <;> omega)]
    exact hv
  rw [h3]
  refine ⟨?_, o _ _ _ (by omega) h2.c1, o _ _ _ (by omega) h2.c2, fun j => by simpa using h2.fz j, fun i t ht => ⟨o _ _ _ (by omega) (h2.toks i t ht).c0, o _ _ _ (by omega) (h2.toks i t ht).c1, o _ _ _ (by omega) (h2.toks i t ht).c2⟩, h7, h4, h.len, h.cp, h.last, h.apart, h.tl, h.txt, h.dig, h2.gl.keep fun i hi j v hv => o _ _ _ (by have := h.glt i hi; omega) hv, h.glt⟩
  have a1 : (ts.length - r.tail.length) * 3 = i := by omega
  have a2 : r.tail.length = n := by omega
  have a3 : q.cap - (ts.length - r.tail.length) = k := by omega
  rw [a3, a1, a2]
  exact World.cell?_setCell_same _ _ _ h2.c0

set_option maxRecDepth 100000 in
set_option maxHeartbeats 400000 in
theorem rtake_any {w : World} {q : Rp} {ts r : List Tok} {bad : Fl} (h : RS w q ts r bad) (m : List UInt8) (hm : m ≠ []) (x : ByteArray) (hx : Hid (x = bs m)) :
    Calls Tryz.prog 13 #[.pointer (some ⟨q.rb, 0, none⟩), .string x] w fun e w' => e = .returned (.bool (decide (bad = fine ∧ tx r = m))) ∧ RS w' q ts (if bad = fine ∧ tx r = m then stp r else r) bad ∧ Ext q.rb w w' := by
  by_cases hf : bad = fine ∧ tx r = m
  · have hd1 := decide_eq_true hf
    rw [if_pos hf, hd1]
    obtain ⟨h1, h2, h3, h4⟩ := h.hd
    have hmem : hd r ∈ ts := List.mem_of_getElem? h1
    have hk0 : (hd r).kind ≠ 0 := fun e => hm (hf.2.symm.trans (h.txt _ hmem e))
    have HK : Hid ((hd r).kind ≠ 0) := hk0
    obtain ⟨i, hi⟩ : ∃ i, i = (ts.length - r.length) * 3 := ⟨_, rfl⟩
    obtain ⟨n, hn⟩ : ∃ n, n = r.length := ⟨_, rfl⟩
    obtain ⟨k, hk⟩ : ∃ k, k = q.cap - (ts.length - r.length) := ⟨_, rfl⟩
    have HC : Hid (∀ w', RS w' q ts r bad → w'.cell? ⟨q.rb, 0, none⟩ = some (.slice (some ⟨q.tb, i, none⟩) n k)) := fun w' h' => by
      rw [hk, hi, hn]; exact h'.c0
    have hn0 : (2 : Int) ≤ n := by
      obtain ⟨_, y4, y5, _, _⟩ := h.stp_of hk0
      have : 0 < r.tail.length := List.length_pos_iff.2 y4
      omega
    have hk1 : (n : Int) ≤ k := by have := h.cp; omega
    have HI : Hid (i = (ts.length - r.length) * 3 ∧ n = r.length ∧ k = q.cap - (ts.length - r.length)) := ⟨hi, hn, hk⟩
    clear hi hn hk h1 h2 h3 h4 hf hk0
    go_enter Tryz.func13, Tryz.ntmps13
    go_wp2_with fail
    refine (rsee_any h m hm x hx).mono ?_
    rintro e w1 ⟨rfl, hb1⟩
    rw [hd1]
    have h5 := h.below hb1
    have d1 := HC.out w1 h5
    have d3 := h5.fz 0
    go_wp2_with fail
    refine bodyPost_ret (v := .bool true) (by simp [results, Tryz.results13, go_sem]) rfl ⟨rfl, h.stepped HK.out hb1 (by rw [HI.out.1]) (by rw [HI.out.2.1]) (by rw [HI.out.2.2]), (Ext.below hb1).set 0 _⟩
  · have hd1 := decide_eq_false hf
    rw [if_neg hf, hd1]
    clear hf
    go_enter Tryz.func13, Tryz.ntmps13
    go_wp2_with fail
    refine (rsee_any h m hm x hx).mono ?_
    rintro e w1 ⟨rfl, hb1⟩
    rw [hd1]
    go_wp2_with fail
    refine bodyPost_ret (v := .bool false) (by simp [results, Tryz.results13, go_sem]) rfl ⟨rfl, h.below hb1, Ext.below hb1⟩

set_option maxRecDepth 100000 in
set_option maxHeartbeats 400000 in
theorem rmust_any {w : World} {q : Rp} {ts r : List Tok} {bad : Fl} (h : RS w q ts r bad) (m : List UInt8) (hm : m ≠ []) (x : ByteArray) (hx : Hid (x = bs m)) :
    Calls Tryz.prog 10 #[.pointer (some ⟨q.rb, 0, none⟩), .string x] w fun e w' => e = .returned (.tuple #[]) ∧ RS w' q ts (if bad = fine ∧ tx r = m then stp r else r) (if bad = fine ∧ tx r ≠ m then (3, (at' r : Int)) else bad) ∧ Ext q.rb w w' := by
  by_cases hf : bad = fine ∧ tx r = m
  · have hd1 := decide_eq_true hf
    have H := rtake_any h m hm x hx
    have e1 : (if bad = fine ∧ tx r ≠ m then ((3 : Int), (at' r : Int)) else bad) = bad := if_neg fun e => e.2 hf.2
    rw [if_pos hf, hd1] at H
    rw [e1, if_pos hf]
    clear e1 hf
    go_enter Tryz.func10, Tryz.ntmps10
    go_wp2_with fail
    refine H.mono ?_
    rintro e w1 ⟨rfl, h1, hb1⟩
    go_wp2_with fail
    exact bodyPost_end (results_none rfl _ _ _) rfl ⟨rfl, h1, hb1⟩
  · have hd1 := decide_eq_false hf
    have H := rtake_any h m hm x hx
    rw [if_neg hf] at H ⊢
    have e1 : (if bad = fine ∧ tx r ≠ m then ((3 : Int), (at' r : Int)) else bad) = if bad = fine then (((3 : Nat) : Int), (at' r : Int)) else bad := by
      by_cases hb : bad = fine
      · have : tx r ≠ m := fun e => hf ⟨hb, e⟩
        rw [if_pos ⟨hb, this⟩, if_pos hb]; rfl
      · rw [if_neg hb, if_neg fun e => hb e.1]
    rw [hd1] at H
    rw [e1]
    obtain ⟨bd, hbd⟩ : ∃ bd, bd = if bad = fine then (((3 : Nat) : Int), (at' r : Int)) else bad := ⟨_, rfl⟩
    rw [← hbd]
    have HB : Hid (bd = if bad = fine then (((3 : Nat) : Int), (at' r : Int)) else bad) := hbd
    clear e1 hf hbd
    go_enter Tryz.func10, Tryz.ntmps10
    go_wp2_with fail
    refine H.mono ?_
    rintro e w1 ⟨rfl, h1, hb1⟩
    go_wp2_with fail
    refine (rfails_any h1 3).mono ?_
    rintro e w2 ⟨rfl, h2, hb2⟩
    rw [← HB.out] at h2
    go_wp2_with fail
    exact bodyPost_end (results_none rfl _ _ _) rfl ⟨rfl, h2, hb1.trans hb2⟩
end Go.Proofs.YtkpapioaijmidaaGreatDoor
