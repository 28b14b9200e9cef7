import Derived.Test.YtkpapioaijmidaaGreatDoorKEu
/- The document's reader: number, walked. -/
namespace Go.Proofs.YtkpapioaijmidaaGreatDoor
open Go.RowKit
open Tp (Tok hd tx at' stp)
open Nr (Fl fine Sx tk tkS fl mu nm nu nms)
set_option maxRecDepth 100000 in
set_option maxHeartbeats 1000000 in
theorem rnumber_s {w : World} {q : Rp} {ts : List Tok} {r : List Tok} (h : RS w q ts r fine) (most : Nat) (hm : most ≤ 9223372036854775807) :
    Calls Tryz.prog 16 #[.pointer (some ⟨q.rb, 0, none⟩), .int .i64 (most : Int)] w fun e w' => e = .returned (.int .i64 ((nu most (r, fine)).1 : Int)) ∧ RX w' q ts (nu most (r, fine)).2 ∧ Ext q.rb w w' := by
  obtain ⟨ny, hny⟩ : ∃ ny, ny = nu most (r, fine) := ⟨_, rfl⟩
  rw [← hny]
  obtain ⟨h1, h2, h3, h4⟩ := h.hd
  have hmem : hd r ∈ ts := List.mem_of_getElem? h1
  have hdg := h.dig _ hmem
  have htl := (h.tl _ hmem).1
  obtain ⟨i, hi⟩ : ∃ i, i = (ts.length - r.length) * 3 := ⟨_, rfl⟩
  obtain ⟨n, hn⟩ : ∃ n, n = r.length := ⟨_, rfl⟩
  obtain ⟨k, hk⟩ : ∃ k, k = q.cap - (ts.length - r.length) := ⟨_, rfl⟩
  have HC : Hid (∀ w' bd, RS w' q ts r bd → w'.cell? ⟨q.rb, 0, none⟩ = some (.slice (some ⟨q.tb, i, none⟩) n k)) := fun w' bd h' => by
    rw [hk, hi, hn]; exact h'.c0
  have d0 := HC.out w _ h
  have d1 : w.cell? ⟨q.tb, i, none⟩ = some (.int .i64 (kd (hd r))) := by rw [hi]; exact (h.toks _ _ h1).c0
  have d2 : w.cell? ⟨q.tb, i + 1, none⟩ = some (.string (bs (hd r).text)) := by rw [hi]; exact (h.toks _ _ h1).c1
  have d3 : w.cell? ⟨q.tb, i + 2, none⟩ = some (.int .i64 ((hd r).pos : Int)) := by rw [hi]; exact (h.toks _ _ h1).c2
  have hn0 : (0 : Int) < n := by omega
  have hn2 : (hd r).kind ≠ 0 → (2 : Int) ≤ n ∧ (n : Int) ≤ k := fun hk0 => by
    obtain ⟨_, y4, y5, _, _⟩ := h.stp_of hk0
    have : 0 < r.tail.length := List.length_pos_iff.2 y4
    have := h.cp
    omega
  have HI : Hid (i = (ts.length - r.length) * 3 ∧ n = r.length ∧ k = q.cap - (ts.length - r.length)) := ⟨hi, hn, hk⟩
  have hq := lt_of_cell h.c0
  clear hi hn hk h1 h2 h3 h4
  have b0 : Below w.heap.size w (w.alloc (Obj.cells #[.int .i64 (kd (hd r)), .string (bs (hd r).text), .int .i64 ((hd r).pos : Int)] 57)) := (Below.refl _ _).alloc (Nat.le_refl _) _
  have x0 : (w.alloc (Obj.cells #[.int .i64 (kd (hd r)), .string (bs (hd r).text), .int .i64 ((hd r).pos : Int)] 57)).cell? ⟨w.heap.size, 0, none⟩ = some (.int .i64 (kd (hd r))) := by simp [go_sem]
  have x1 : (w.alloc (Obj.cells #[.int .i64 (kd (hd r)), .string (bs (hd r).text), .int .i64 ((hd r).pos : Int)] 57)).cell? ⟨w.heap.size, 1, none⟩ = some (.string (bs (hd r).text)) := by simp [go_sem]
  by_cases hk2 : (hd r).kind = 2
  · have hkd : kd (hd r) = 2 := by simp [kd, hk2]
    have HK : Hid ((hd r).kind ≠ 0) := by show _ ≠ _; omega
    obtain ⟨hn3, hkn⟩ := hn2 (by omega)
    obtain ⟨hdne, hdd⟩ := hdg hk2
    have HV : Hid (ny = if most < Tp.val (tx r) then (0, (r, ((4 : Int), (at' r : Int)))) else (Tp.val (tx r), (stp r, fine))) := by
      show _ = _
      rw [hny]
      unfold nu Tp.number
      rw [if_pos rfl, if_neg (by simp [hk2])]
      by_cases hv : most < Tp.val (tx r)
      · rw [if_pos hv, if_pos hv]; rfl
      · rw [if_neg hv, if_neg hv]
    rw [hkd] at d1 b0 x0 x1
    have HPU : Hid (∀ W, Below w.heap.size w W → Calls Tryz.prog 32 #[.string (bs (hd r).text), .int .i64 10, .int .i64 64] W fun e w' => PuP (hd r).text e ∧ Below W.heap.size W w') := fun W hW => by
      obtain ⟨ev, e1, e2⟩ := (h.below hW).gl.er
      exact pu_any _ W htl hdne hdd ev e1 e2
    clear hdg hn2 hdd hdne htl hkd hny
    have hwm : IntKind.u64.wrap (most : Int) = (most : Int) := by unfold IntKind.wrap; simp [IntKind.bits, IntKind.signed]; omega
    go_enter Tryz.func16, Tryz.ntmps16
    go_wp2_with fail
    generalize w.alloc (Obj.cells #[.int .i64 2, .string (bs (hd r).text), .int .i64 ((hd r).pos : Int)] 57) = w0 at b0 x0 x1 ⊢
    refine (rok_f (h.below b0)).mono ?_
    rintro e w1 ⟨rfl, hb1⟩
    have y0 : w1.cell? ⟨w.heap.size, 0, none⟩ = some (.int .i64 2) := (Ext.below (b := q.rb) hb1).cell x0 (by simp; omega)
    have y1 : w1.cell? ⟨w.heap.size, 1, none⟩ = some (.string (bs (hd r).text)) := (Ext.below (b := q.rb) hb1).cell x1 (by simp; omega)
    have hb1w := b0.trans (hb1.mono b0.size)
    go_wp2_with fail
    refine (HPU.out w1 hb1w).mono ?_
    rintro e w2 ⟨hp, hb2⟩
    have hb2w := hb1w.trans (hb2.mono hb1w.size)
    have h5 := h.below hb2w
    have c0 := HC.out w2 _ h5
    have c1 := h5.fz 0
    rcases hp with ⟨hv, rfl⟩ | ⟨hv, nn, N, rfl⟩
    · by_cases hmv : most < Tp.val (tx r)
      · have HV2 := HV.out
        rw [if_pos hmv] at HV2
        have hmv' : (most : Int) < (Tp.val (hd r).text : Int) := by simp only [tx] at hmv; omega
        have HV3 := Lib.hid HV2
        clear HV HV2 hmv hv
        generalize (Tp.val (hd r).text : Int) = vv at *
        go_wp2_with fail
        refine (rfails_any h5 4).mono ?_
        rintro e w3 ⟨rfl, h6, hb3⟩
        rw [if_pos rfl] at h6
        go_wp2_with fail
        exact bodyPost_ret (v := .int .i64 0) (by simp [results, Tryz.results16, go_sem]) rfl (by rw [HV3.out]; exact ⟨rfl, h6, (Ext.below hb2w).trans hb3⟩)
      · have HV2 := HV.out
        rw [if_neg hmv] at HV2
        have hmv' : ¬ (most : Int) < (Tp.val (hd r).text : Int) := by simp only [tx] at hmv; omega
        have hvw : IntKind.i64.wrap (Tp.val (hd r).text : Int) = (Tp.val (hd r).text : Int) := by unfold IntKind.wrap; simp [IntKind.bits, IntKind.signed]; simp only [tx] at hmv; omega
        have HT : Hid ((Tp.val (tx r) : Int) = (Tp.val (hd r).text : Int)) := rfl
        have HV3 := Lib.hid HV2
        clear HV HV2 hmv hv
        generalize hvv : (Tp.val (hd r).text : Int) = vv at *
        clear hvv
        go_wp2_with fail
        exact bodyPost_ret (v := .int .i64 vv) (by simp [results, Tryz.results16, go_sem]) rfl (by rw [HV3.out]; exact ⟨by rw [HT.out], h.stepped HK.out hb2w (by rw [HI.out.1]) (by rw [HI.out.2.1]) (by rw [HI.out.2.2]), (Ext.below hb2w).set 0 _⟩)
    · have hmv : most < Tp.val (tx r) := by simp only [tx]; omega
      have HV2 := HV.out
      rw [if_pos hmv] at HV2
      have HV3 := Lib.hid HV2
      clear HV HV2 hmv hv
      go_wp2_with fail
      refine (rfails_any h5 4).mono ?_
      rintro e w3 ⟨rfl, h6, hb3⟩
      rw [if_pos rfl] at h6
      go_wp2_with fail
      exact bodyPost_ret (v := .int .i64 0) (by simp [results, Tryz.results16, go_sem]) rfl (by rw [HV3.out]; exact ⟨rfl, h6, (Ext.below hb2w).trans hb3⟩)
  · have hkd : ¬ kd (hd r) = 2 := by unfold kd; split <;> omega
    have HV : ny = (0, (r, ((3 : Int), (at' r : Int)))) := by
      rw [hny]
      unfold nu Tp.number
      rw [if_pos rfl, if_pos hk2]; rfl
    rw [HV]
    clear HV hdg hn2 hk2 hny
    generalize kd (hd r) = kk at *
    go_enter Tryz.func16, Tryz.ntmps16
    go_wp2_with fail
    generalize w.alloc (Obj.cells #[.int .i64 kk, .string (bs (hd r).text), .int .i64 ((hd r).pos : Int)] 57) = w0 at b0 x0 x1 ⊢
    refine (rok_f (h.below b0)).mono ?_
    rintro e w1 ⟨rfl, hb1⟩
    have y0 : w1.cell? ⟨w.heap.size, 0, none⟩ = some (.int .i64 kk) := (Ext.below (b := q.rb) hb1).cell x0 (by simp; omega)
    have hb1w := b0.trans (hb1.mono b0.size)
    go_wp2_with fail
    refine (rfails_any (h.below hb1w) 3).mono ?_
    rintro e w3 ⟨rfl, h6, hb3⟩
    rw [if_pos rfl] at h6
    go_wp2_with fail
    exact bodyPost_ret (v := .int .i64 0) (by simp [results, Tryz.results16, go_sem]) rfl ⟨rfl, h6, (Ext.below hb1w).trans hb3⟩
theorem below_dn (w : World) (n : Nat) : Below w.heap.size w (w.drewN n) := below_drewN (Below.refl w.heap.size w) n
set_option maxRecDepth 100000 in
set_option maxHeartbeats 400000 in
theorem rok_rawq (rb : Nat) (a b : Int) (w : World) (_hp : rb < w.heap.size) (_hg : 0 < w.heap.size)
    (c1 : w.cell? ⟨rb, 1, none⟩ = some (.int .i64 a)) (c2 : w.cell? ⟨rb, 2, none⟩ = some (.int .i64 b))
    (f0 : w.cell? ⟨0, 0, none⟩ = some (.int .i64 0)) (f1 : w.cell? ⟨0, 1, none⟩ = some (.int .i64 (-1))) :
    Calls Tryz.prog 11 #[.pointer (some ⟨rb, 0, none⟩)] w fun e w' => e = .returned (.bool (decide ((a, b) = fine))) ∧ ∃ m, w' = w.drewN m := by
  by_cases ha : a = 0
  · by_cases hb : b = -1
    · subst ha; subst hb
      go_enter Tryz.func11, Tryz.ntmps11
      go_wp2
      go_region
      go_wp2
      go_ret
      exact ⟨by simp [fine], 1, rfl⟩
    · subst ha
      have hd1 : decide (((0 : Int), b) = fine) = false := by simp [fine, hb]
      rw [hd1]
      go_enter Tryz.func11, Tryz.ntmps11
      go_wp2
      go_region
      go_wp2
      go_ret
      exact ⟨rfl, 1, rfl⟩
  · have hd1 : decide ((a, b) = fine) = false := by simp [fine, ha]
    rw [hd1]
    go_enter Tryz.func11, Tryz.ntmps11
    go_wp2
    go_region
    go_wp2
    go_ret
    exact ⟨rfl, 1, rfl⟩
theorem rok_q {w : World} {q : Rp} {ts r : List Tok} {bad : Fl} (h : RS w q ts r bad) :
    Calls Tryz.prog 11 #[.pointer (some ⟨q.rb, 0, none⟩)] w fun e w' => e = .returned (.bool (decide (bad = fine))) ∧ ∃ m, w' = w.drewN m :=
  rok_rawq q.rb bad.1 bad.2 w (lt_of_cell h.c0) (lt_of_cell h.gl.f0) h.c1 h.c2 h.gl.f0 h.gl.f1
end Go.Proofs.YtkpapioaijmidaaGreatDoor
