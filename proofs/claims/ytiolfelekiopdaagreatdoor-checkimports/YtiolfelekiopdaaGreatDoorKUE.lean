import Derived.Test.YtiolfelekiopdaaGreatDoorKUD
/- slices.DeleteFunc at Syms, by a name. -/
namespace Go.Proofs.YtiolfelekiopdaaGreatDoor
open Go.RowKit
open Tp (Bs Sy Seen)

/- the number of the first for which it holds, below 0: none -/
set_option maxRecDepth 100000 in
set_option maxHeartbeats 1000000 in
theorem indexB {w0 w : World} {g cap cb : Nat} {l : List Sy} {del : Sy → Bool} (hx : Ext g w0 w) (hs : SyRow w g cap l) (hn : l.length ≤ 1000) (hd : ∀ W s, s ∈ l → Ext g w0 W → Calls Tryz.prog 19 #[.agg #[.string (bs s.1), .int .i64 (s.2.1 : Int), .int .i64 s.2.2], .pointer (some ⟨cb, 0, none⟩)] W fun e w' => e = .returned (.bool (del s)) ∧ Below W.heap.size W w') :
    Calls Tryz.prog 41 #[.slice (some ⟨g, 0, none⟩) l.length cap, .func (.func 19) #[] #[.pointer (some ⟨cb, 0, none⟩)]] w fun e w' => (∃ k : Int, e = .returned (.int .i64 k) ∧ FirstD l del k) ∧ Below w.heap.size w w' := by
  have hn' : (l.length : Int) ≤ 1000 := by omega
  have HSL := Lib.hid hs
  have HX := Lib.hid hx
  have HD := Lib.hid hd
  obtain ⟨cur, hcb, hcs, hct⟩ := hs.b
  have hgl := lt_blk hcb
  obtain ⟨ln, hnl⟩ : ∃ ln, ln = l.length := ⟨_, rfl⟩
  rw [← hnl] at hn' ⊢
  have HN := Lib.hid hnl
  clear hs hx hd hnl hcb hcs hct
  go_enter Tryz.func41, Tryz.ntmps41
  go_wp2_with fail
  go_loopg [8] ln (fun k vi wr => ∃ i : Nat, i ≤ ln ∧ k = ln - i ∧ vi = .int .i64 (i : Int) ∧ Hid (∀ k (hk : k < l.length), k < i → del l[k] = false) ∧ Hid (Below w.heap.size w wr))
  case atStart => exact ⟨0, by omega, by omega, rfl, fun k _ hk => by omega, Below.refl _ _⟩
  case round =>
    obtain ⟨i, hid, hk, rfl, HI, HW⟩ := hrel
    by_cases hlt : i < ln
    · have hlt' : (i : Int) < (ln : Int) := by omega
      have hia : i < l.length := by have := HN.out; omega
      have hc := fun j (hj : j < 3) => (HW.out.cell (p := ⟨g, i * 3 + j, none⟩) hgl).trans (HSL.out.cellAt i hia j hj)
      have kc0 : wr.cell? ⟨g, i * 3, none⟩ = some (.string (bs l[i].1)) := hc 0 (by omega)
      have kc1 : wr.cell? ⟨g, i * 3 + 1, none⟩ = some (.int .i64 (l[i].2.1 : Int)) := hc 1 (by omega)
      have kc2 : wr.cell? ⟨g, i * 3 + 2, none⟩ = some (.int .i64 l[i].2.2) := hc 2 (by omega)
      have hlgr : g < wr.heap.size := by have := HW.out.size; omega
      have HF := Lib.hid (HD.out wr l[i] (List.getElem_mem hia) (HX.out.trans (Ext.below HW.out)))
      have HAT : Hid (del l[i] = true → FirstD l del (i : Int)) := fun e => Or.inl ⟨i, hia, rfl, e, fun k hk => HI.out k (by omega) hk⟩
      have HNX : Hid (del l[i] = false → ∀ k (hk : k < l.length), k < i + 1 → del l[k] = false) := by
        intro hne k hk hlt
        by_cases e : k = i
        · subst e; exact hne
        · exact HI.out k hk (by omega)
      clear hc
      generalize del l[i] = dd at *
      generalize l[i].1 = x0 at *
      generalize l[i].2.1 = x1 at *
      generalize l[i].2.2 = x2 at *
      go_wp2_with fail
      refine HF.out.mono ?_
      rintro e w3 ⟨rfl, h3⟩
      have HW3 := Lib.hid (HW.out.trans (h3.mono HW.out.size))
      clear h3
      cases dd with
      | true =>
        have HE := Lib.hid (HAT.out rfl)
        go_wp2_with fail
        go_ret
        exact ⟨⟨_, rfl, HE.out⟩, HW3.out⟩
      | false =>
        have HI3 := Lib.hid (HNX.out rfl)
        go_wp2_with fail
        go_roundg (ln - (i + 1))
        case measure => omega
        case rel => exact ⟨i + 1, by omega, rfl, by go_num, HI3, HW3⟩
    · have hlt' : ¬ (i : Int) < (ln : Int) := by omega
      have HE : Hid (FirstD l del (-1)) := Or.inr ⟨rfl, fun k hk => HI.out k hk (by have := HN.out; omega)⟩
      go_wp2_with fail
      go_ret
      exact ⟨⟨_, rfl, HE.out⟩, HW.out⟩
set_option maxRecDepth 100000 in
set_option maxHeartbeats 2000000 in
theorem deleteB {w : World} {g cap cb : Nat} {l : List Sy} {del : Sy → Bool} (hs : SyRow w g cap l) (hn : l.length ≤ 1000) (hd : ∀ W s, s ∈ l → Ext g w W → Calls Tryz.prog 19 #[.agg #[.string (bs s.1), .int .i64 (s.2.1 : Int), .int .i64 s.2.2], .pointer (some ⟨cb, 0, none⟩)] W fun e w' => e = .returned (.bool (del s)) ∧ Below W.heap.size W w') :
    Calls Tryz.prog 15 #[.slice (some ⟨g, 0, none⟩) l.length cap, .func (.func 19) #[] #[.pointer (some ⟨cb, 0, none⟩)]] w fun e w' => (∃ n, e = .returned (.slice (some ⟨g, 0, none⟩) n cap) ∧ n = (l.filter fun s => !del s).length) ∧ SyRow w' g cap (l.filter fun s => !del s) ∧ Ext g w w' := by
  have hn' : (l.length : Int) ≤ 1000 := by omega
  have HIX := Lib.hid (indexB (Ext.refl _ _) hs hn hd)
  have HSL := Lib.hid hs
  have HD := Lib.hid hd
  obtain ⟨cur, hcb, hcs, hct⟩ := hs.b
  have hgl := lt_blk hcb
  have hcap := hs.n
  have hcap' : (l.length : Int) ≤ (cap : Int) := by omega
  obtain ⟨ln, hnl⟩ : ∃ ln, ln = l.length := ⟨_, rfl⟩
  rw [← hnl] at hn' HIX hcap hcap' ⊢
  have HN := Lib.hid hnl
  clear hs hd hnl hcb hcs hct
  go_enter Tryz.func15, Tryz.ntmps15
  go_wp2_with fail
  refine HIX.out.mono ?_
  rintro e w1 ⟨⟨k, rfl, hfd⟩, hb1⟩
  rcases hfd with ⟨i0, hi0, rfl, hdel, hbef⟩ | ⟨rfl, hnone⟩
  rotate_left
  · have HF : Hid ((l.filter fun s => !del s) = l) := by
      unfold Hid
      rw [List.filter_eq_self]
      intro s hs
      obtain ⟨q, hq, rfl⟩ := List.getElem_of_mem hs
      simp [hnone q hq]
    have HS1 := Lib.hid (HSL.out.on' hb1)
    have HB1 := Lib.hid hb1
    clear hnone hb1
    go_wp2_with fail
    go_ret
    rw [HF.out]
    exact ⟨⟨_, rfl, HN.out⟩, HS1.out, Ext.below HB1.out⟩
  have HDL1 : Hid (DlS w w1 g cap l del (i0 + 1)) := DlS.start HSL.out hb1 hi0 hdel hbef
  have hsl1 : w.heap.size ≤ w1.heap.size := hb1.size
  have hi0n : (i0 : Int) < (ln : Int) := by have := HN.out; omega
  have HK0 : Hid (((l.take (i0 + 1)).filter fun s => !del s).length = i0) := keep_first hi0 hdel hbef
  have hi0l : i0 < ln := by omega
  clear hdel hbef hb1
  go_wp2_with fail
  go_loopg [5, 6] (ln - (i0 + 1)) (fun k vi vj wr => ∃ j : Nat, j ≤ ln ∧ k = ln - j ∧ vj = .int .i64 (j : Int) ∧ (∃ i : Nat, vi = .int .i64 (i : Int) ∧ i < j ∧ Hid (((l.take j).filter fun s => !del s).length = i)) ∧ Hid (DlS w wr g cap l del j))
  case atStart => exact ⟨i0 + 1, by omega, by omega, by go_num, ⟨i0, rfl, by omega, HK0⟩, HDL1⟩
  case round =>
    obtain ⟨j, hjd, hk, rfl, ⟨i, rfl, hij, HKI⟩, HDL⟩ := hrel
    obtain ⟨cur', hc1, hc2, hc3, hc4⟩ := HDL.out.c
    have hgr : g < wr.heap.size := lt_blk hc1
    have hfz : ∀ o, wr.frozen? ⟨g, o, none⟩ = false := fun o => frozen_blk hc1
    by_cases hlt : j < ln
    · have hlt' : (j : Int) < (ln : Int) := by omega
      have hja : j < l.length := by have := HN.out; omega
      have hin : (i : Int) < (ln : Int) := by omega
      have hcj := fun t (ht : t < 3) => hc4 j (Nat.le_refl _) hja t ht
      have kc0 : wr.cell? ⟨g, j * 3, none⟩ = some (.string (bs l[j].1)) := (cell_blk hc1).trans (hcj 0 (by omega))
      have kc1 : wr.cell? ⟨g, j * 3 + 1, none⟩ = some (.int .i64 (l[j].2.1 : Int)) := (cell_blk hc1).trans (hcj 1 (by omega))
      have kc2 : wr.cell? ⟨g, j * 3 + 2, none⟩ = some (.int .i64 l[j].2.2) := (cell_blk hc1).trans (hcj 2 (by omega))
      obtain ⟨w2, hw2⟩ : ∃ w2, w2 = wr.alloc (.cells #[.string (bs l[j].1), .int .i64 (l[j].2.1 : Int), .int .i64 l[j].2.2] 48) := ⟨_, rfl⟩
      have hb2 : Below wr.heap.size wr w2 := by rw [hw2]; exact (Below.refl _ _).alloc (Nat.le_refl _) _
      have hk2 : w2.heap[wr.heap.size]? = some (.cells #[.string (bs l[j].1), .int .i64 (l[j].2.1 : Int), .int .i64 l[j].2.2] 48 (0, 0)) := by rw [hw2]; exact new_blk _ _
      have hs2 : wr.heap.size < w2.heap.size := lt_blk hk2
      have HF := Lib.hid (HD.out w2 l[j] (List.getElem_mem hja) (HDL.out.x.trans (Ext.below hb2)))
      have HB2 := Lib.hid hb2
      have HK2 := Lib.hid hk2
      have m0 : w2.cell? ⟨wr.heap.size, 0, none⟩ = some (.string (bs l[j].1)) := (cell_blk hk2).trans rfl
      have m1 : w2.cell? ⟨wr.heap.size, 1, none⟩ = some (.int .i64 (l[j].2.1 : Int)) := (cell_blk hk2).trans rfl
      have m2 : w2.cell? ⟨wr.heap.size, 2, none⟩ = some (.int .i64 l[j].2.2) := (cell_blk hk2).trans rfl
      have HST : Hid (∀ W, Below wr.heap.size wr W → (del l[j] = true → DlS w W g cap l del (j + 1)) ∧ (del l[j] = false → DlS w (((W.setCell ⟨g, i * 3, none⟩ (.string (bs l[j].1))).setCell ⟨g, i * 3 + 1, none⟩ (.int .i64 (l[j].2.1 : Int))).setCell ⟨g, i * 3 + 2, none⟩ (.int .i64 l[j].2.2)) g cap l del (j + 1)) ∧ W.heap[g]? = wr.heap[g]?) := fun W hW => ⟨fun e => HDL.out.skip hW hja e, fun e => HDL.out.keep hW hja e HKI.out hij, hW.block _ hgr⟩
      have HKT : Hid (del l[j] = true → ((l.take (j + 1)).filter fun s => !del s).length = i) := fun e => by rw [keep_skip hja e]; exact HKI.out
      have HKF : Hid (del l[j] = false → ((l.take (j + 1)).filter fun s => !del s).length = i + 1) := fun e => by rw [keep_keep hja e, List.length_append, HKI.out]; rfl
      have HCU : Hid (wr.heap[g]? = some (.cells cur' 48 (0, 0)) ∧ cur'.size = cap * 3) := ⟨hc1, hc2⟩
      clear hcj hb2 hk2 hc1 hc2 hc3 hc4
      generalize del l[j] = dd at *
      generalize l[j].1 = x0 at *
      generalize l[j].2.1 = x1 at *
      generalize l[j].2.2 = x2 at *
      go_upto_region 8 with fail
      rw [← hw2]
      clear hw2 kc0 kc1 kc2
      go_wp2_with fail
      refine HF.out.mono ?_
      rintro e w3 ⟨rfl, h3⟩
      have hb3 := HB2.out.trans (h3.mono HB2.out.size)
      have HS3 := Lib.hid (HST.out w3 hb3)
      have e3 := (h3.block _ hs2).trans HK2.out
      have n0 : w3.cell? ⟨wr.heap.size, 0, none⟩ = some (.string (bs x0)) := (cell_blk e3).trans rfl
      have n1 : w3.cell? ⟨wr.heap.size, 1, none⟩ = some (.int .i64 (x1 : Int)) := (cell_blk e3).trans rfl
      have n2 : w3.cell? ⟨wr.heap.size, 2, none⟩ = some (.int .i64 x2) := (cell_blk e3).trans rfl
      have hs3 : wr.heap.size < w3.heap.size := lt_blk e3
      have g3 := HS3.out.2.2.trans HCU.out.1
      have hg3 : g < w3.heap.size := lt_blk g3
      have hz3 : ∀ o, w3.frozen? ⟨g, o, none⟩ = false := fun o => frozen_blk g3
      obtain ⟨u0, t0⟩ : ∃ u, w3.cell? ⟨g, i * 3, none⟩ = some u := ⟨_, (cell_blk g3).trans (Array.getElem?_eq_getElem (by have := HCU.out.2; omega))⟩
      obtain ⟨u1, t1⟩ : ∃ u, w3.cell? ⟨g, i * 3 + 1, none⟩ = some u := ⟨_, (cell_blk g3).trans (Array.getElem?_eq_getElem (by have := HCU.out.2; omega))⟩
      obtain ⟨u2, t2⟩ : ∃ u, w3.cell? ⟨g, i * 3 + 2, none⟩ = some u := ⟨_, (cell_blk g3).trans (Array.getElem?_eq_getElem (by have := HCU.out.2; omega))⟩
      clear h3 hb3 HF m0 m1 m2 e3 g3
      cases dd with
      | true =>
        have HD3 := Lib.hid (HS3.out.1 rfl)
        have HK3 := Lib.hid (HKT.out rfl)
        go_wp2_with fail
        go_roundg (ln - (j + 1))
        case measure => omega
        case rel => exact ⟨j + 1, by omega, rfl, by go_num, ⟨i, rfl, by omega, HK3⟩, HD3⟩
      | false =>
        have HD3 := Lib.hid (HS3.out.2.1 rfl)
        have HK3 := Lib.hid (HKF.out rfl)
        go_wp2_with fail
        go_roundg (ln - (j + 1))
        case measure => omega
        case rel => exact ⟨j + 1, by omega, rfl, by go_num, ⟨i + 1, by go_num, by omega, HK3⟩, HD3⟩
    · have hlt' : ¬ (j : Int) < (ln : Int) := by omega
      have hjl : j = l.length := by have := HN.out; omega
      have HKL : Hid ((l.filter fun s => !del s).length = i) := by
        have := HKI.out
        rw [hjl, List.take_length] at this
        exact this
      have hil : i < ln := by have := HN.out; omega
      have hin : (i : Int) < (ln : Int) := by omega
      obtain ⟨wC, hclr, hext, hrow⟩ := DlS.clear HDL.out hjl HKL.out (by have := HN.out; omega) hcap HSL.out.m
      have HR := Lib.hid hrow
      have HE := Lib.hid hext
      clear hrow hext hc1 hc2 hc3 hc4 hjl
      go_wp2_with fail
      go_ret
      exact ⟨by rw [HKL.out]; rfl, HR.out, HE.out⟩
end Go.Proofs.YtiolfelekiopdaaGreatDoor
