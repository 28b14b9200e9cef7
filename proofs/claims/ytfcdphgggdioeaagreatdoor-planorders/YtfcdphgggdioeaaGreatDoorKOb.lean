import Derived.Test.YtfcdphgggdioeaaGreatDoorKOa
import Derived.Test.YtfcdphgggdioeaaGreatDoorKLa
import Derived.Test.YtfcdphgggdioeaaGreatDoorKLb
import Derived.Test.YtfcdphgggdioeaaGreatDoorKTb
/- Chapter 9: a heap: up, down: what is above is not greater. -/
namespace Go.Proofs.YtfcdphgggdioeaaGreatDoor
open Go.RowKit
open Tp (Bs)
theorem swl_swd {l : List Bs} {i k : Nat} {hi : i < l.length} {hk : k < l.length} : Tp.Swd l (swl l i k hi hk) i k := by
  have e : ∀ j, j < l.length → Tp.gt (swl l i k hi hk) j = if j = k then l[i] else if j = i then l[k] else Tp.gt l j := fun j hj => by
    rw [swl_eq, Tp.gt_eq (by simp; exact hj), List.getElem_set, List.getElem_set]
    have a1 : (k = j) = (j = k) := propext eq_comm
    have a2 : (i = j) = (j = i) := propext eq_comm
    simp only [a1, a2, Tp.gt_eq hj]
  refine ⟨?_, ?_, fun j h1 h2 => ?_⟩
  · rw [e i hi, Tp.gt_eq hk]
    by_cases h : i = k
    · rw [if_pos h]; subst h; rfl
    · rw [if_neg h, if_pos rfl]
  · rw [e k hk, if_pos rfl, Tp.gt_eq hi]
  · by_cases hj : j < l.length
    · rw [e j hj, if_neg h2, if_neg h1]
    · unfold Tp.gt
      rw [List.getD_eq_getElem?_getD, List.getD_eq_getElem?_getD, List.getElem?_eq_none (by rw [swl_len]; omega), List.getElem?_eq_none (by omega)]
set_option maxRecDepth 100000 in
set_option maxHeartbeats 2000000 in
theorem upE_post {w : World} {rb : Nat} {U : Nat → Prop} {l : List Bs} (h : Rdy w rb U l) (hl : l.length ≤ 1000) (j : Nat) (hj : j < l.length) (hh : Tp.HpU l l.length j) :
    Calls Tryz.prog 70 #[rif rb, .int .i64 (j : Int)] w fun e w' => e = .returned (.tuple #[]) ∧ ∃ l', l'.Perm l ∧ Tp.Hp l' l.length ∧ Rdy w' rb U l' ∧ Tr U U w w' := by
  have HR := Lib.hid h
  have HHU := Lib.hid hh
  unfold rif
  clear h hh
  go_enter Tryz.func70, Tryz.ntmps70
  go_wp2_with fail
  go_loopg [1] j (fun k vj wr => ∃ (i : Nat) (l' : List Bs), k = i ∧ vj = .int .i64 (i : Int) ∧ i < l.length ∧ l'.Perm l ∧ Hid (Tp.HpU l' l.length i) ∧ Hid (Rdy wr rb U l') ∧ Hid (Tr U U w wr))
  case atStart => exact ⟨j, l, rfl, rfl, hj, List.Perm.refl _, HHU, HR, Tr.below (Below.refl _ _)⟩
  case round =>
    obtain ⟨i, l', hk, rfl, hil, hp, HHr, HRr, HTr⟩ := hrel
    clear HHU
    have hpl := hp.length_eq
    have hil1 : (i : Int) ≤ 1000 := by omega
    cases i with
    | zero =>
      go_wp2_with fail
      exact bodyPost_end (results_none rfl _ _ _) rfl ⟨rfl, l', hp, HHr.out.stop0, HRr.out, HTr.out⟩
    | succ p =>
      obtain ⟨g, cap, cur, r1, r2, r3, r4, r5, r6, r7, r8⟩ := HRr.out.open (by omega)
      have hq : (((p + 1 : Nat) : Int) - 1).tdiv 2 = ((p / 2 : Nat) : Int) := by
        have : ((p + 1 : Nat) : Int) - 1 = (p : Int) := by omega
        rw [this]
        exact (Int.ofNat_tdiv p 2).symm
      have hne : ¬ ((p / 2 : Nat) : Int) = ((p + 1 : Nat) : Int) := by omega
      have hpq : p / 2 < l'.length := by omega
      have hp1 : p + 1 < l'.length := by omega
      have hcr : wr.cell? ⟨rb, 0, none⟩ = some (.slice (some ⟨g, 0, none⟩) l'.length cap) := (cell_blk r1).trans rfl
      have hml := me_less hcr
      have HLE := Lib.hid (rlessE_post (w := wr) (c := cap) (n := l'.length) (i := p + 1) (k := p / 2) ((cell_blk r3).trans (Rdy.cell r7 hp1)) ((cell_blk r3).trans (Rdy.cell r7 hpq)) hp1 hpq)
      have e1 : ((p + 1 : Nat) : Int) = (p : Int) + 1 := by omega
      have e2 : ((p / 2 : Nat) : Int) = (p : Int) / 2 := by omega
      have HSW : Hid (∀ W, Below wr.heap.size wr W → Calls Tryz.prog 186 #[.slice (some ⟨g, 0, none⟩) l'.length cap, .int .i64 ((p : Int) / 2), .int .i64 ((p : Int) + 1)] W fun e w' => e = .returned (.tuple #[]) ∧ ∃ l2, l2.Perm l ∧ Tp.Swd l' l2 (p / 2) (p + 1) ∧ Rdy w' rb U l2 ∧ Tr U U wr w') := fun W hW => by
        have hgl := lt_blk r3
        have := rswap_post (w := W) (g := g) (n := l'.length) (c := cap) (i := p / 2) (k := p + 1) ((hW.block g hgl).trans r3) (Rdy.cell r7 hpq) (Rdy.cell r7 hp1) hpq hp1
        rw [e1, e2] at this
        refine this.mono ?_
        rintro e w' ⟨he, hx, hb⟩
        obtain ⟨a1, a2⟩ := Rdy.swap hpq hp1 r1 r2 r4 r5 r6 r7 hW hx hb
        have eU : U = fun b => b = rb ∨ b = g := funext fun b => propext (r8 b)
        rw [eU]
        exact ⟨he, _, swl_perm.trans hp, swl_swd, a1, a2⟩
      have HMS : Hid (∀ W, Below wr.heap.size wr W → (Go.method 365 99 (.pointer (some ⟨rb, 0, none⟩)) "Swap").run Tryz.prog W = .ok (186, .slice (some ⟨g, 0, none⟩) l'.length cap) W) := fun W hW => me_swap ((hW.cell (p := ⟨rb, 0, none⟩) (lt_blk r1)).trans hcr)
      rw [e1, e2] at HLE
      obtain ⟨bq, hbq⟩ : ∃ bq, bq = decide (l'[p + 1] < l'[p / 2]) := ⟨_, rfl⟩
      rw [← hbq] at HLE
      have HBQ : Hid (bq = decide (Tp.gt l' (p + 1) < Tp.gt l' (p / 2))) := by show _ = _; rw [Tp.gt_eq hp1, Tp.gt_eq hpq]; exact hbq
      have HP1 : Hid (p + 1 < l.length) := hil
      clear hbq
      have HIL : Hid (p / 2 < l.length) := by show _ < _; omega
      have hp9 : (p : Int) ≤ 1000 := by omega
      clear r1 r2 r3 r4 r5 r6 r7 r8 hcr hne e1 hpq hp1 hil1 hpl
      generalize l'.length = ln at *
      go_wp2_with fail
      clear hml
      refine HLE.out.mono ?_
      rintro e w1 ⟨rfl, hb1⟩
      have HB1 := Lib.hid hb1
      clear hb1 HLE
      cases bq with
      | false =>
        have HFH : Hid (Tp.Hp l' l.length) := HHr.out.stop (List.not_lt.1 (of_decide_eq_false HBQ.out.symm))
        go_wp2_with fail
        exact bodyPost_end (results_none rfl _ _ _) rfl ⟨rfl, l', hp, HFH.out, HRr.out.on HB1.out, HTr.out.trans (Tr.below HB1.out)⟩
      | true =>
        have hms := HMS.out w1 HB1.out
        have HSW1 := Lib.hid (HSW.out w1 HB1.out)
        clear HMS HSW
        go_wp2_with fail
        clear hms
        refine HSW1.out.mono ?_
        rintro e w2 ⟨rfl, l2, h1, h4, h2, h3⟩
        have HH2 : Hid (Tp.HpU l2 l.length (p / 2)) := HHr.out.step (Nat.succ_pos p) (Tp.le_of (of_decide_eq_true HBQ.out.symm)) h4
        have HR2 := Lib.hid h2
        have HT2 := Lib.hid h3
        clear h2 h3 h4 HSW1
        go_wp2_with fail
        go_roundg (p / 2)
        case measure => omega
        case rel => exact ⟨p / 2, l2, rfl, by rw [e2], HIL.out, h1, HH2, HR2, HTr.out.trans HT2.out⟩
set_option maxRecDepth 100000 in
set_option maxHeartbeats 4000000 in
theorem downE_post {w : World} {rb : Nat} {U : Nat → Prop} {l : List Bs} (h : Rdy w rb U l) (hl : l.length ≤ 1000) (n : Nat) (hn : n ≤ l.length) (hh : Tp.HpD l n 0) :
    Calls Tryz.prog 71 #[rif rb, .int .i64 0, .int .i64 (n : Int)] w fun e w' => (∃ b, e = .returned (.bool b)) ∧ ∃ l', l'.Perm l ∧ (Tp.Hp l' n ∧ Tp.Sm l' l n) ∧ Rdy w' rb U l' ∧ Tr U U w w' := by
  have HR := Lib.hid h
  have HHD : Hid (Tp.HpD l n 0 ∧ Tp.Sm l l n) := ⟨hh, fun _ _ => rfl⟩
  unfold rif
  have hn1 : (n : Int) ≤ 1000 := by omega
  clear h hh
  go_enter Tryz.func71, Tryz.ntmps71
  go_wp2_with fail
  go_loopg [7] n (fun k vj wr => ∃ (i : Nat) (l' : List Bs), k = n - i ∧ vj = .int .i64 (i : Int) ∧ i ≤ n ∧ l'.Perm l ∧ Hid (Tp.HpD l' n i ∧ Tp.Sm l' l n) ∧ Hid (Rdy wr rb U l') ∧ Hid (Tr U U w wr))
  case atStart => exact ⟨0, l, rfl, rfl, Nat.zero_le _, List.Perm.refl _, HHD, HR, Tr.below (Below.refl _ _)⟩
  case round =>
    obtain ⟨i, l', hk, rfl, hil, hp, HHr, HRr, HTr⟩ := hrel
    clear HHD
    have hpl := hp.length_eq
    have hi1 : (i : Int) ≤ 1000 := by omega
    by_cases hge : n ≤ 2 * i + 1
    · have hge' : (2 * (i : Int) + 1) ≥ (n : Int) := by omega
      have HFH : Hid (Tp.Hp l' n ∧ Tp.Sm l' l n) := ⟨HHr.out.1.stop fun k h0 hk2 e => by omega, HHr.out.2⟩
      clear hpl
      go_wp2_with fail
      go_ret
      exact ⟨⟨_, rfl⟩, l', hp, HFH.out, HRr.out, HTr.out⟩
    · have hge' : ¬ (2 * (i : Int) + 1) ≥ (n : Int) := by omega
      obtain ⟨g, cap, cur, r1, r2, r3, r4, r5, r6, r7, r8⟩ := HRr.out.open (by omega)
      have hrl := lt_blk r1
      have hgl := lt_blk r3
      have HLS : Hid (∀ W, Below wr.heap.size wr W → ∀ a b : Nat, a < l.length → b < l.length → Calls Tryz.prog 185 #[.slice (some ⟨g, 0, none⟩) l'.length cap, .int .i64 (a : Int), .int .i64 (b : Int)] W fun e w' => e = .returned (.bool (decide (Tp.gt l' a < Tp.gt l' b))) ∧ Below W.heap.size W w') := fun W hW a b ha hb => by
        have ha' : a < l'.length := by omega
        have hb' : b < l'.length := by omega
        rw [Tp.gt_eq ha', Tp.gt_eq hb']
        exact rlessE_post ((cell_blk ((hW.block g hgl).trans r3)).trans (Rdy.cell r7 (by omega))) ((cell_blk ((hW.block g hgl).trans r3)).trans (Rdy.cell r7 (by omega))) (by omega) (by omega)
      have HSS : Hid (∀ W, Below wr.heap.size wr W → ∀ a b : Nat, a < l.length → b < l.length → Calls Tryz.prog 186 #[.slice (some ⟨g, 0, none⟩) l'.length cap, .int .i64 (a : Int), .int .i64 (b : Int)] W fun e w' => e = .returned (.tuple #[]) ∧ ∃ l2, l2.Perm l ∧ Tp.Swd l' l2 a b ∧ Rdy w' rb U l2 ∧ Tr U U wr w') := fun W hW a b ha hb => by
        refine (rswap_post ((hW.block g hgl).trans r3) (Rdy.cell r7 (by omega)) (Rdy.cell r7 (by omega)) (by omega) (by omega)).mono ?_
        rintro e w' ⟨he, hx, hbb⟩
        obtain ⟨a1, a2⟩ := Rdy.swap (by omega) (by omega) r1 r2 r4 r5 r6 r7 hW hx hbb
        have eU : U = fun b => b = rb ∨ b = g := funext fun b => propext (r8 b)
        rw [eU]
        exact ⟨he, _, swl_perm.trans hp, swl_swd, a1, a2⟩
      have HME : Hid (∀ W, Below wr.heap.size wr W → (Go.method 365 99 (.pointer (some ⟨rb, 0, none⟩)) "Less").run Tryz.prog W = .ok (185, .slice (some ⟨g, 0, none⟩) l'.length cap) W ∧ (Go.method 365 99 (.pointer (some ⟨rb, 0, none⟩)) "Swap").run Tryz.prog W = .ok (186, .slice (some ⟨g, 0, none⟩) l'.length cap) W) := fun W hW => by
        have hc : W.cell? ⟨rb, 0, none⟩ = some (.slice (some ⟨g, 0, none⟩) l'.length cap) := (cell_blk ((hW.block rb hrl).trans r1)).trans rfl
        exact ⟨me_less hc, me_swap hc⟩
      have HLL : Hid (n ≤ l.length) := hn
      clear r1 r2 r3 r4 r5 r6 r7 r8 hpl hrl hgl
      generalize l'.length = ln at *
      have hj2 : ¬ (2 * (i : Int) + 1) < 0 := by omega
      have eJ1 : ((2 * i + 1 : Nat) : Int) = 2 * (i : Int) + 1 := by omega
      have eJ2 : ((2 * i + 2 : Nat) : Int) = 2 * (i : Int) + 1 + 1 := by omega
      have HE1 := Lib.hid eJ1
      have HE2 := Lib.hid eJ2
      clear eJ1 eJ2
      by_cases h2 : 2 * i + 2 < n
      · have h2' : (2 * (i : Int) + 1 + 1) < (n : Int) := by omega
        have hme := (HME.out wr (Below.refl _ _)).1
        have HL1 := Lib.hid (HLS.out wr (Below.refl _ _) (2 * i + 2) (2 * i + 1) (by omega) (by omega))
        rw [HE1.out, HE2.out] at HL1
        obtain ⟨b, hbq⟩ : ∃ b, b = decide (Tp.gt l' (2 * i + 2) < Tp.gt l' (2 * i + 1)) := ⟨_, rfl⟩
        rw [← hbq] at HL1
        have HBQ := Lib.hid hbq
        clear hbq
        go_wp2_with fail
        clear hme
        refine HL1.out.mono ?_
        rintro e w1 ⟨rfl, hb1⟩
        have HB1 := Lib.hid hb1
        clear hb1 HL1
        cases b with
        | false =>
          have hme2 := (HME.out w1 HB1.out).1
          have HL2 := Lib.hid (HLS.out w1 HB1.out (2 * i + 1) i (by omega) (by omega))
          rw [HE1.out] at HL2
          obtain ⟨b2, hbq2⟩ : ∃ b2, b2 = decide (Tp.gt l' (2 * i + 1) < Tp.gt l' i) := ⟨_, rfl⟩
          rw [← hbq2] at HL2
          have HBQ2 := Lib.hid hbq2
          have HSM : Hid (∀ k, 0 < k → k < n → (k - 1) / 2 = i → Tp.gt l' (2 * i + 1) ≤ Tp.gt l' k) := fun k h0 hk2 e => by
            have e3 : k = 2 * i + 1 ∨ k = 2 * i + 2 := by omega
            rcases e3 with e3 | e3
            · rw [e3]; exact List.le_refl _
            · rw [e3]; exact List.not_lt.1 (of_decide_eq_false HBQ.out.symm)
          clear hbq2
          go_wp2_with fail
          clear hme2
          refine HL2.out.mono ?_
          rintro e w2 ⟨rfl, hb2⟩
          have HB2 : Hid (Below wr.heap.size wr w2) := (HB1.out).trans (hb2.mono (HB1.out).size)
          clear hb2 HL2
          cases b2 with
          | false =>
            have HFH : Hid (Tp.Hp l' n ∧ Tp.Sm l' l n) := ⟨HHr.out.1.stop fun k h0 hk2 e => List.le_trans (List.not_lt.1 (of_decide_eq_false HBQ2.out.symm)) (HSM.out k h0 hk2 e), HHr.out.2⟩
            go_wp2_with fail
            go_ret
            exact ⟨⟨_, rfl⟩, l', hp, HFH.out, HRr.out.on HB2.out, HTr.out.trans (Tr.below HB2.out)⟩
          | true =>
            have hms := (HME.out w2 HB2.out).2
            have HS2 := Lib.hid (HSS.out w2 HB2.out i (2 * i + 1) (by omega) (by omega))
            rw [HE1.out] at HS2
            go_wp2_with fail
            clear hms
            refine HS2.out.mono ?_
            rintro e w3 ⟨rfl, l2, h1, h4, h2, h3⟩
            have HH2 : Hid (Tp.HpD l2 n (2 * i + 1) ∧ Tp.Sm l2 l n) := ⟨HHr.out.1.step (by omega) (by omega) (by omega) (Tp.le_of (of_decide_eq_true HBQ2.out.symm)) HSM.out h4, fun k hk2 => (h4.fo k (by omega) (by omega)).trans (HHr.out.2 k hk2)⟩
            have HR2 := Lib.hid h2
            have HT2 := Lib.hid h3
            clear h2 h3 h4 HS2
            go_wp2_with fail
            go_roundg (n - (2 * i + 1))
            case measure => omega
            case rel => exact ⟨2 * i + 1, l2, rfl, by rw [HE1.out], by omega, h1, HH2, HR2, HTr.out.trans HT2.out⟩
        | true =>
          have hme2 := (HME.out w1 HB1.out).1
          have HL2 := Lib.hid (HLS.out w1 HB1.out (2 * i + 2) i (by omega) (by omega))
          rw [HE2.out] at HL2
          obtain ⟨b2, hbq2⟩ : ∃ b2, b2 = decide (Tp.gt l' (2 * i + 2) < Tp.gt l' i) := ⟨_, rfl⟩
          rw [← hbq2] at HL2
          have HBQ2 := Lib.hid hbq2
          have HSM : Hid (∀ k, 0 < k → k < n → (k - 1) / 2 = i → Tp.gt l' (2 * i + 2) ≤ Tp.gt l' k) := fun k h0 hk2 e => by
            have e3 : k = 2 * i + 1 ∨ k = 2 * i + 2 := by omega
            rcases e3 with e3 | e3
            · rw [e3]; exact Tp.le_of (of_decide_eq_true HBQ.out.symm)
            · rw [e3]; exact List.le_refl _
          clear hbq2
          go_wp2_with fail
          clear hme2
          refine HL2.out.mono ?_
          rintro e w2 ⟨rfl, hb2⟩
          have HB2 : Hid (Below wr.heap.size wr w2) := (HB1.out).trans (hb2.mono (HB1.out).size)
          clear hb2 HL2
          cases b2 with
          | false =>
            have HFH : Hid (Tp.Hp l' n ∧ Tp.Sm l' l n) := ⟨HHr.out.1.stop fun k h0 hk2 e => List.le_trans (List.not_lt.1 (of_decide_eq_false HBQ2.out.symm)) (HSM.out k h0 hk2 e), HHr.out.2⟩
            go_wp2_with fail
            go_ret
            exact ⟨⟨_, rfl⟩, l', hp, HFH.out, HRr.out.on HB2.out, HTr.out.trans (Tr.below HB2.out)⟩
          | true =>
            have hms := (HME.out w2 HB2.out).2
            have HS2 := Lib.hid (HSS.out w2 HB2.out i (2 * i + 2) (by omega) (by omega))
            rw [HE2.out] at HS2
            go_wp2_with fail
            clear hms
            refine HS2.out.mono ?_
            rintro e w3 ⟨rfl, l2, h1, h4, h2, h3⟩
            have HH2 : Hid (Tp.HpD l2 n (2 * i + 2) ∧ Tp.Sm l2 l n) := ⟨HHr.out.1.step (by omega) (by omega) (by omega) (Tp.le_of (of_decide_eq_true HBQ2.out.symm)) HSM.out h4, fun k hk2 => (h4.fo k (by omega) (by omega)).trans (HHr.out.2 k hk2)⟩
            have HR2 := Lib.hid h2
            have HT2 := Lib.hid h3
            clear h2 h3 h4 HS2
            go_wp2_with fail
            go_roundg (n - (2 * i + 2))
            case measure => omega
            case rel => exact ⟨2 * i + 2, l2, rfl, by rw [HE2.out], by omega, h1, HH2, HR2, HTr.out.trans HT2.out⟩
      · have h2' : ¬ (2 * (i : Int) + 1 + 1) < (n : Int) := by omega
        have hme2 := (HME.out wr (Below.refl _ _)).1
        have HL2 := Lib.hid (HLS.out wr (Below.refl _ _) (2 * i + 1) i (by omega) (by omega))
        rw [HE1.out] at HL2
        obtain ⟨b2, hbq2⟩ : ∃ b2, b2 = decide (Tp.gt l' (2 * i + 1) < Tp.gt l' i) := ⟨_, rfl⟩
        rw [← hbq2] at HL2
        have HBQ2 := Lib.hid hbq2
        have HSM : Hid (∀ k, 0 < k → k < n → (k - 1) / 2 = i → Tp.gt l' (2 * i + 1) ≤ Tp.gt l' k) := fun k h0 hk2 e => by
          have e3 : k = 2 * i + 1 := by omega
          rw [e3]; exact List.le_refl _
        clear hbq2
        go_wp2_with fail
        clear hme2
        refine HL2.out.mono ?_
        rintro e w2 ⟨rfl, hb2⟩
        have HB2 : Hid (Below wr.heap.size wr w2) := hb2
        clear hb2 HL2
        cases b2 with
        | false =>
          have HFH : Hid (Tp.Hp l' n ∧ Tp.Sm l' l n) := ⟨HHr.out.1.stop fun k h0 hk2 e => List.le_trans (List.not_lt.1 (of_decide_eq_false HBQ2.out.symm)) (HSM.out k h0 hk2 e), HHr.out.2⟩
          go_wp2_with fail
          go_ret
          exact ⟨⟨_, rfl⟩, l', hp, HFH.out, HRr.out.on HB2.out, HTr.out.trans (Tr.below HB2.out)⟩
        | true =>
          have hms := (HME.out w2 HB2.out).2
          have HS2 := Lib.hid (HSS.out w2 HB2.out i (2 * i + 1) (by omega) (by omega))
          rw [HE1.out] at HS2
          go_wp2_with fail
          clear hms
          refine HS2.out.mono ?_
          rintro e w3 ⟨rfl, l2, h1, h4, h2, h3⟩
          have HH2 : Hid (Tp.HpD l2 n (2 * i + 1) ∧ Tp.Sm l2 l n) := ⟨HHr.out.1.step (by omega) (by omega) (by omega) (Tp.le_of (of_decide_eq_true HBQ2.out.symm)) HSM.out h4, fun k hk2 => (h4.fo k (by omega) (by omega)).trans (HHr.out.2 k hk2)⟩
          have HR2 := Lib.hid h2
          have HT2 := Lib.hid h3
          clear h2 h3 h4 HS2
          go_wp2_with fail
          go_roundg (n - (2 * i + 1))
          case measure => omega
          case rel => exact ⟨2 * i + 1, l2, rfl, by rw [HE1.out], by omega, h1, HH2, HR2, HTr.out.trans HT2.out⟩
end Go.Proofs.YtfcdphgggdioeaaGreatDoor
/- Chapter 9: a heap: Push, Pop; add, take: the least one comes first. -/
namespace Go.Proofs.YtfcdphgggdioeaaGreatDoor
open Go.RowKit
open Tp (Bs)

set_option maxRecDepth 100000 in
set_option maxHeartbeats 2000000 in
theorem hpushE_post {w : World} {rb : Nat} {U : Nat → Prop} {l : List Bs} (h : Rdy w rb U l) (hl : l.length < 1000) (hh : Tp.Hp l l.length) (x : Bs) :
    Calls Tryz.prog 44 #[rif rb, .iface 9 (.string (bs x))] w fun e w' => e = .returned (.tuple #[]) ∧ ∃ U' l', l'.Perm (x :: l) ∧ Tp.Hp l' l'.length ∧ Rdy w' rb U' l' ∧ Tr U U' w w' := by
  have HP := Lib.hid (rpush_post h (by omega) x)
  have hmp := me_push (some ⟨rb, 0, none⟩) w
  unfold rif
  clear h
  go_enter Tryz.func44, Tryz.ntmps44
  go_wp2_with fail
  clear hmp
  refine HP.out.mono ?_
  rintro e w1 ⟨rfl, U1, h1, t1⟩
  have HR1 := Lib.hid h1
  have HT1 := Lib.hid t1
  have hll : (l ++ [x]).length = l.length + 1 := by simp
  obtain ⟨g, cap, cur, r1, _⟩ := h1.open (by omega)
  have hc1 : w1.cell? ⟨rb, 0, none⟩ = some (.slice (some ⟨g, 0, none⟩) (l.length + 1) cap) := by rw [← hll]; exact (cell_blk r1).trans rfl
  have hme := me_len hc1
  have HLN := Lib.hid (rlen_post w1 (some ⟨g, 0, none⟩) (l.length + 1) cap)
  have HUP := Lib.hid (upE_post (HR1.out) (by rw [hll]; omega) l.length (by rw [hll]; omega) (by rw [hll]; exact Tp.HpU.push hh x))
  unfold rif at HUP
  have hl9 : (l.length : Int) ≤ 1000 := by omega
  clear h1 t1 r1 hc1 HP hh
  go_wp2_with fail
  clear hme
  refine HLN.out.mono ?_
  rintro e w2 ⟨rfl, rfl⟩
  clear HLN
  go_wp2_with fail
  refine HUP.out.mono ?_
  rintro e w3 ⟨rfl, l', hp, hh2, hr, ht⟩
  have HFI : Hid (∃ U' l', l'.Perm (x :: l) ∧ Tp.Hp l' l'.length ∧ Rdy w3 rb U' l' ∧ Tr U U' w w3) := ⟨U1, l', hp.trans (List.perm_append_singleton x l), by rw [hp.length_eq]; exact hh2, hr, HT1.out.trans ht⟩
  clear hp hh2 hr ht HUP
  go_wp2_with fail
  exact bodyPost_end (results_none rfl _ _ _) rfl ⟨rfl, HFI.out⟩
set_option maxRecDepth 100000 in
theorem addE_post {w : World} {rb : Nat} {U : Nat → Prop} {l : List Bs} (h : Rdy w rb U l) (hl : l.length < 1000) (hh : Tp.Hp l l.length) (x : Bs) :
    Calls Tryz.prog 24 #[.pointer (some ⟨rb, 0, none⟩), .string (bs x)] w fun e w' => e = .returned (.tuple #[]) ∧ ∃ U' l', l'.Perm (x :: l) ∧ Tp.Hp l' l'.length ∧ Rdy w' rb U' l' ∧ Tr U U' w w' := by
  have HP := Lib.hid (hpushE_post h hl hh x)
  unfold rif at HP
  clear h hh
  go_enter Tryz.func24, Tryz.ntmps24
  go_wp2_with fail
  refine HP.out.mono ?_
  rintro e w1 ⟨rfl, h1⟩
  have H1 := Lib.hid h1
  clear h1 HP
  go_wp2_with fail
  exact bodyPost_end (results_none rfl _ _ _) rfl ⟨rfl, H1.out⟩
set_option maxRecDepth 100000 in
set_option maxHeartbeats 2000000 in
theorem hpopE_post {w : World} {rb : Nat} {U : Nat → Prop} {l : List Bs} (h : Rdy w rb U l) (hl : l.length ≤ 1000) (h0 : 0 < l.length) (hh : Tp.Hp l l.length) :
    Calls Tryz.prog 45 #[rif rb] w fun e w' => ∃ x l', e = .returned (.iface 9 (.string (bs x))) ∧ l.Perm (x :: l') ∧ (Tp.Hp l' l'.length ∧ ∀ y ∈ l, x ≤ y) ∧ Rdy w' rb U l' ∧ Tr U U w w' := by
  obtain ⟨n, hn⟩ : ∃ n, l.length = n + 1 := ⟨l.length - 1, by omega⟩
  obtain ⟨g, cap, cur, r1, r2, r3, r4, r5, r6, r7, r8⟩ := h.open h0
  have hc : w.cell? ⟨rb, 0, none⟩ = some (.slice (some ⟨g, 0, none⟩) (n + 1) cap) := by rw [← hn]; exact (cell_blk r1).trans rfl
  have hm1 := me_len hc
  have hm2 := me_swap hc
  have HLN := Lib.hid (rlen_post w (some ⟨g, 0, none⟩) (n + 1) cap)
  have HSW : Hid (Calls Tryz.prog 186 #[.slice (some ⟨g, 0, none⟩) (n + 1) cap, .int .i64 0, .int .i64 (n : Int)] w fun e w' => e = .returned (.tuple #[]) ∧ ∃ l2, l2.Perm l ∧ Tp.Swd l l2 0 n ∧ Rdy w' rb U l2 ∧ Tr U U w w') := by
    refine (rswap_post (i := 0) (k := n) r3 (Rdy.cell r7 h0) (Rdy.cell r7 (by omega)) (by omega) (by omega)).mono ?_
    rintro e w' ⟨he, hx, hbb⟩
    obtain ⟨a1, a2⟩ := Rdy.swap h0 (by omega) r1 r2 r4 r5 r6 r7 (Below.refl _ _) hx hbb
    have eU : U = fun b => b = rb ∨ b = g := funext fun b => propext (r8 b)
    rw [eU]
    exact ⟨he, _, swl_perm, swl_swd, a1, a2⟩
  have hn9 : (n : Int) ≤ 1000 := by omega
  have HN := Lib.hid hn
  have HHP : Hid (Tp.Hp l (n + 1)) := by show Tp.Hp l (n + 1); rw [← hn]; exact hh
  unfold rif
  clear h r1 r2 r3 r4 r5 r6 r7 r8 hc hn hh
  go_enter Tryz.func45, Tryz.ntmps45
  go_wp2_with fail
  clear hm1
  refine HLN.out.mono ?_
  rintro e w2 ⟨rfl, rfl⟩
  clear HLN
  go_wp2_with fail
  clear hm2
  refine HSW.out.mono ?_
  rintro e w3 ⟨rfl, l2, hp2, hsw, hr2, ht2⟩
  have hl2 := hp2.length_eq
  have HDN := Lib.hid (downE_post hr2 (by omega) n (by have := HN.out; omega) (Tp.HpD.pop HHP.out hsw))
  have HSD := Lib.hid hsw
  have HP2 := Lib.hid hp2
  have HT2 := Lib.hid ht2
  unfold rif at HDN
  clear hp2 hsw hr2 ht2 hl2 HSW
  go_wp2_with fail
  refine HDN.out.mono ?_
  rintro e w4 ⟨⟨b, rfl⟩, l3, hp3, hh3, hr3, ht3⟩
  have hl3 : l3.length = n + 1 := by rw [hp3.length_eq, HP2.out.length_eq]; exact HN.out
  obtain ⟨l4, x, hl4⟩ : ∃ l4 x, l3 = l4 ++ [x] := by
    rcases List.eq_nil_or_concat l3 with q | ⟨a, b, q⟩
    · rw [q] at hl3; simp at hl3
    · exact ⟨a, b, by simpa using q⟩
  subst hl4
  have hn4 : l4.length = n := by simp at hl3; omega
  have HMN : Hid (Tp.Hp l4 l4.length ∧ ∀ y ∈ l, x ≤ y) := by
    refine ⟨by rw [hn4]; exact hh3.1.same fun k hk => (Tp.gt_app (by omega)).symm, fun y hy => ?_⟩
    have e1 : Tp.gt (l4 ++ [x]) n = x := by rw [Tp.gt_eq (by simp; omega), List.getElem_append_right (by omega)]; simp
    have e2 : x = Tp.gt l 0 := by rw [← e1, hh3.2 n (Nat.le_refl _), HSD.out.fk]
    obtain ⟨k, hk, rfl⟩ := List.getElem_of_mem hy
    rw [e2, ← Tp.gt_eq hk]
    exact HHP.out.min k (by have := HN.out; omega)
  have hme := me_pop (some ⟨rb, 0, none⟩) w4
  have HPO := Lib.hid (rpop_post hr3 (by simp at hl3; omega))
  have HPM : Hid (l.Perm (x :: l4)) := (HP2.out.symm.trans hp3.symm).trans (List.perm_append_singleton x l4)
  have HT4 := Lib.hid (HT2.out.trans ht3)
  clear hp3 hh3 hr3 ht3 hl3 hn4 HDN HP2 HT2
  go_wp2_with fail
  clear hme
  refine HPO.out.mono ?_
  rintro e w5 ⟨rfl, hr5, ht5⟩
  have HFI : Hid (l.Perm (x :: l4) ∧ (Tp.Hp l4 l4.length ∧ ∀ y ∈ l, x ≤ y) ∧ Rdy w5 rb U l4 ∧ Tr U U w2 w5) := ⟨HPM.out, HMN.out, hr5, HT4.out.trans ht5⟩
  clear hr5 ht5 HPO HT4 HPM
  go_wp2_with fail
  go_ret
  exact ⟨x, l4, rfl, HFI.out⟩
set_option maxRecDepth 100000 in
theorem takeE_post {w : World} {rb : Nat} {U : Nat → Prop} {l : List Bs} (h : Rdy w rb U l) (hl : l.length ≤ 1000) (h0 : 0 < l.length) (hh : Tp.Hp l l.length) :
    Calls Tryz.prog 25 #[.pointer (some ⟨rb, 0, none⟩)] w fun e w' => ∃ x l', e = .returned (.string (bs x)) ∧ l.Perm (x :: l') ∧ (Tp.Hp l' l'.length ∧ ∀ y ∈ l, x ≤ y) ∧ Rdy w' rb U l' ∧ Tr U U w w' := by
  have HP := Lib.hid (hpopE_post h hl h0 hh)
  unfold rif at HP
  clear h hh
  go_enter Tryz.func25, Tryz.ntmps25
  go_wp2_with fail
  refine HP.out.mono ?_
  rintro e w1 ⟨x, l', rfl, h1⟩
  have H1 := Lib.hid h1
  have hta := ta_str (bs x)
  clear h1 HP
  go_wp2_with fail
  go_ret
  exact ⟨x, l', rfl, H1.out⟩
end Go.Proofs.YtfcdphgggdioeaaGreatDoor
/- Chapter 9: Order, walked: the least that may comes first. -/
namespace Go.Proofs.YtfcdphgggdioeaaGreatDoor
open Go.RowKit Go.Maps
open Tp (Bs)

def OrdE (w : World) (K : List Bs) (im : Bs → List Bs) (e : Ending) (w' : World) : Prop := Below w.heap.size w w' ∧ ((∃ T a c, e = .returned (.tuple #[.slice a T.length c, .nilIface]) ∧ (Tp.Came K im T ∧ Tp.Sel K im T) ∧ w'.ownsRow w.heap.size 9 1 (.slice a T.length c) T.length (strs T)) ∨ (e = .returned (.tuple #[.slice none 0 0, .iface 29 (.int .i64 11)]) ∧ Tp.Round K im))
set_option maxRecDepth 100000 in
set_option maxHeartbeats 4000000 in
theorem orderE_post {w : World} {mb n : Nat} {f : Bs → Option Value} {K : List Bs} {im : Bs → List Bs} (h : Mods w mb n f K im) :
    Calls Tryz.prog 6 #[.map (some mb)] w (OrdE w K im) := by
  have HM := Lib.hid h
  have HIP := Lib.hid (imports_post h)
  have hn100 := h.n
  have hml := h.m.lt
  obtain ⟨i1, hi, hz0, hz1, hz2⟩ := info_parts Tryz.infoString'
  clear h
  go_enter Tryz.func6, Tryz.ntmps6
  go_wp2_with fail
  refine HIP.out.mono ?_
  rintro e w1 ⟨ib, wq, dn, rfl, hdn, hdk, hadj, hb1⟩
  obtain ⟨ni, nw, fi, fw, hni, hnw, hI, hW⟩ := hadj.c
  have hs1 := hb1.size
  have hbi := hadj.bi
  have hbq := hadj.bw
  have hbne := hadj.ne
  obtain ⟨w2, hw2⟩ : ∃ w2, w2 = w1.alloc (.cells #[.slice none 0 0] 72) := ⟨_, rfl⟩
  have hb2 : Below w1.heap.size w1 w2 := by rw [hw2]; exact (Below.refl _ _).alloc (Nat.le_refl _) _
  have hk2 : w2.heap[w1.heap.size]? = some (.cells #[.slice none 0 0] 72 (0, 0)) := by rw [hw2]; exact new_blk _ _
  have hs2 : w2.heap.size = w1.heap.size + 1 := by rw [hw2]; simp
  have hR2 : Rdy w2 w1.heap.size (fun b => b = w1.heap.size) [] := ⟨_, hk2, World.ownsRow_nil _ _ _ _, fun b => ⟨Or.inl, fun q => q.elim id (fun e => by cases e)⟩, fun e => by cases e⟩
  have hL2 : Lp w1 w2 wq w1.heap.size nw (Tp.waitE (Tp.edges K im dn)) fw (fun b => b = w1.heap.size) [] := ⟨Ext.below hb2, hW.on (hb2.block _ hW.m.lt), hR2, fun b q => by rw [q]; exact Nat.le_refl _⟩
  have hM2 := HM.out.on (hb1.trans (hb2.mono hs1))
  obtain ⟨D, hown, hD⟩ := hM2.m.own
  have HL0 := Lib.hid (LeftK.start hD hM2.key)
  have HD := Lib.hid hD
  have HOWN := Lib.hid hown
  have HL2 := Lib.hid hL2
  have HI1 := Lib.hid hI
  have HQ1 := Lib.hid hW.m
  have HB1 := Lib.hid hb1
  have HS2 := Lib.hid hs2
  have HDN : Hid (dn.Nodup ∧ ∀ x, x ∈ dn ↔ x ∈ K) := ⟨hdn, hdk⟩
  have HEL : Hid ((Tp.edges K im dn).length ≤ 600) := by
    have h1 := edges_len (im := im) (fun x hx => by
      obtain ⟨_, _, _, _, _, _, _, _, _, _, _, _, _, _, q, _⟩ := HM.out.mod x hx
      exact q) (fun x hx => (hdk x).1 hx)
    have h2 := Tp.nodup_le hdn (fun x hx => (hdk x).1 hx)
    show _ ≤ _
    omega
  have HKL := Lib.hid HM.out.kl
  have hnw6 : nw ≤ 600 := by omega
  have hiq : ib < w1.heap.size ∧ wq < w1.heap.size := ⟨hI.m.lt, hW.m.lt⟩
  obtain ⟨nb, hnb⟩ : ∃ nb, nb = w1.heap.size := ⟨_, rfl⟩
  rw [← hnb] at HL2
  clear hdn hdk hadj hI hW hb1 hb2 hk2 hs2 hR2 hL2 hM2 hown hD hni hnw HIP
  go_upto_region 3 with fail
  rw [← hw2, ← hnb]
  clear hw2
  go_wp2_with (at_range; refine wpList_range_own _ rfl _ 23 rfl 9 28 skey Tryz.underlying23 heldV mb n D rfl HOWN.out ?_; intro w3 hrg3 hg3 hs3)
  go_frame
  have hb3 : Below w2.heap.size w2 w3 := (Below.refl _ _).grown hg3 (Nat.le_refl _) (fun k hk => by cases hk)
  have HL3 := Lib.hid (HL2.out.on hb3)
  have HRG3 := Lib.hid hrg3
  obtain ⟨rb, hrb⟩ : ∃ rb, rb = w2.heap.size := ⟨_, rfl⟩
  rw [← hrb] at HRG3 ⊢
  have hrb1 : w1.heap.size < rb := by have := HS2.out; omega
  obtain ⟨E, hE⟩ : ∃ E, E = Tp.edges K im dn := ⟨_, rfl⟩
  rw [← hE] at HL3 HI1 HEL
  have HE := Lib.hid hE
  clear hrg3 hg3 hs3 hb3 HL2 HOWN hrb HS2 hE hnb
  go_loopg [] (Maps.size D) (fun k wr => ∃ left d1 U R, Hid (wr.ranges Tryz.prog 9 heldV mb rb n D left k) ∧ Hid (LeftK K d1 left) ∧ Hid (Lp w1 wr wq nb nw (Tp.waitE E) fw U R) ∧ Hid (R.Perm (d1.filter fun x => decide (Tp.waitE E x = 0))) ∧ Hid (Tp.Hp R R.length))
  case atStart => exact ⟨_, [], _, [], HRG3, HL0, HL3, List.Perm.refl _, Tp.Hp.nil⟩
  case round =>
    obtain ⟨left, d1, U, R, HRG, HLK, HLp, HPR, HHP⟩ := hrel
    clear HRG3 HL0 HL3
    go_wp2_with (first | (at_next; refine wpList_next_ranges _ rfl _ rfl 9 skey heldV (fun x : Bs => .string (bs x)) (fun v : Value => v) (fun key kl h => (skey_inv' h).imp fun _ q => q.1) (fun v _ _ => ⟨v, rfl⟩) mb rb n D left _ rfl HRG.out ?_ ?_))
    · intro _ hdone
      have hd1 := HLK.out.done hdone
      have HOr : Hid (Tp.Or1 K im [] R (Tp.waitE E)) := Tp.Or1.start (HPR.out.nodup_iff.2 (HLK.out.1.filter _)) (fun x => by
        rw [HPR.out.mem_iff, List.mem_filter, hd1 x, decide_eq_true_iff]) (fun x hx => by
        rw [HE.out, Tp.waitE_edges HDN.out.1, if_pos ((HDN.out.2 x).2 hx)])
      have HT0 : Hid (Told w1 wr U (.slice none 0 0) []) := ⟨World.ownsRow_nil _ _ _ _, fun b _ q => by cases q⟩
      have HLp0 := HLp
      have HHS0 : Hid (Tp.Hp R R.length ∧ Tp.Sel K im []) := ⟨HHP.out, Tp.Sel.nil K im⟩
      clear hdone hd1 HPR HRG HLK HLp HD HHP
      go_wp2_with fail
      go_loopg [8] K.length (fun k v8 wr => ∃ T U R W fw nw ta tc, k = K.length - T.length ∧ v8 = .slice ta T.length tc ∧ nw ≤ 600 + 600 * T.length ∧ Hid (Tp.Or1 K im T R W) ∧ Hid (Tp.Hp R R.length ∧ Tp.Sel K im T) ∧ Hid (Lp w1 wr wq nb nw W fw U R) ∧ Hid (Told w1 wr U (.slice ta T.length tc) T))
      case atStart => exact ⟨[], U, R, _, fw, nw, none, 0, rfl, rfl, by omega, HOr, HHS0, HLp0, HT0⟩
      case round =>
        clear HOr HHS0 HLp0 HT0
        obtain ⟨T, U, R, W, fw, nw, ta, tc, hk, rfl, hnw, HOr, HHS, HLp, HTo⟩ := hrel
        have hTl := HOr.out.len
        have hBr : Below w.heap.size w wr := HB1.out.trans (ext_below HLp.out.x hbq hs1)
        obtain ⟨vr, c1, c2, _⟩ := HLp.out.r
        obtain ⟨ra, rc, hvr⟩ := owns_shape c2
        have c3 : wr.cell? ⟨nb, 0, none⟩ = some (.slice ra R.length rc) := by rw [← hvr]; exact (cell_blk c1).trans rfl
        have hnl := lt_blk c1
        by_cases hR : R = []
        · subst hR
          have c3' : wr.cell? ⟨nb, 0, none⟩ = some (.slice ra 0 rc) := c3
          have hlen := mods_size (HM.out.on hBr)
          have hKT : (T.length : Int) ≤ 100 := by omega
          have HBr := Lib.hid hBr
          clear c1 c2 c3 hvr hBr
          by_cases hT : T.length < K.length
          · have hT' : (T.length : Int) < (K.length : Int) := by omega
            have HRo := Lib.hid (HOr.out.round HM.out.nd hT)
            go_wp2_with fail
            go_ret2
            exact ⟨HBr.out, Or.inr ⟨rfl, HRo.out⟩⟩
          · have hT' : ¬ (T.length : Int) < (K.length : Int) := by omega
            have HCa := Lib.hid (And.intro (HOr.out.came hT) HHS.out.2)
            go_wp2_with fail
            go_ret2
            exact ⟨HBr.out, Or.inl ⟨T, ta, tc, rfl, HCa.out, own_base HTo.out.1 hs1⟩⟩
        · have hR0 : 0 < R.length := List.length_pos_iff.2 hR
          have hR0' : (R.length : Int) > 0 := by omega
          have HTK := Lib.hid (takeE_post HLp.out.r (by omega) hR0 HHS.out.1)
          clear c1 c2 hvr hBr
          generalize R.length = rl at *
          go_wp2_with fail
          clear c3
          refine HTK.out.mono ?_
          rintro e w4 ⟨x, R', rfl, hp, ⟨hh4, hmin⟩, hr, ht⟩
          have HSE : Hid (Tp.Sel K im (T ++ [x])) := HHS.out.2.snoc (HOr.out.least hmin)
          have HH4 := Lib.hid hh4
          have hO2 := HOr.out.take hp
          have hL4 := HLp.out.turn hr ht
          have hT4 := HTo.out.turn ht
          have hxK := hO2.out.1
          have HXL := Lib.hid (HKL.out x hxK)
          have HTlt : Hid (T.length < K.length) := by
            have h1 := HOr.out.len
            have h2 := hp.length_eq
            simp at h2
            show _ < _
            omega
          obtain ⟨w5, hw5⟩ : ∃ w5, w5 = w4.alloc (.cells #[.string (bs x)] 9) := ⟨_, rfl⟩
          have hb5 : Below w4.heap.size w4 w5 := by rw [hw5]; exact (Below.refl _ _).alloc (Nat.le_refl _) _
          have hk5 : w5.heap[w4.heap.size]? = some (.cells #[.string (bs x)] 9 (0, 0)) := by rw [hw5]; exact new_blk _ _
          have HL5 := Lib.hid (hL4.on hb5)
          have HT5 := Lib.hid (hT4.on hb5)
          have HNEWS : Hid (∀ j u, [Value.string (bs x)][j]? = some u → w5.cell? ((⟨w4.heap.size, 0, none⟩ : Addr).add j) = some u) := fun j u hj => by
            rw [Addr.add_lit]
            cases j with
            | zero => simp at hj; subst hj; exact (cell_blk hk5).trans rfl
            | succ j => simp at hj
          have HROW : Hid (w5.ownsRow w1.heap.size 9 1 (.slice ta T.length tc) T.length (strs T)) := HT5.out.1
          have HO2 := Lib.hid hO2
          have HXK := Lib.hid hxK
          have hs5 : w1.heap.size ≤ w5.heap.size := HL5.out.x.size
          have hT100 : T.length ≤ 100 := by omega
          have HS5 : Hid (w5.heap.size = w4.heap.size + 1) := by show _ = _; rw [hw5]; simp
          rw [hw5] at HROW HNEWS
          clear hp hh4 hmin HHS hr ht hO2 hL4 hT4 hb5 hk5 hxK HOr HLp HTo HTK hTl
          obtain ⟨tl, htl⟩ : ∃ tl, tl = T.length := ⟨_, rfl⟩
          have HTL := Lib.hid htl
          rw [← htl] at HROW hT100 ⊢
          clear htl
          go_wp2_with (at_builtin; refine wpList_append_where _ rfl _ _ 22 rfl w1.heap.size 9 i1 (.string ⟨#[]⟩) 1 16 Tryz.underlying22 hi hz0 hz1 hz2 rfl (by decide) _ tl _ rfl HROW.out ⟨w4.heap.size, 0, none⟩ 1 1 [.string (bs x)] rfl rfl HNEWS.out (by intro u hu; simp at hu; subst hu; rfl) (by unfold maxLen; omega) (by omega) (by rw [← hw5]; omega) ?_)
          rw [← hw5]
          intro v6 w6 h6 g6 l6
          have g6' : w5.grownBy w6 (Value.slice ta T.length tc).ownBlock := by rw [← HTL.out]; exact g6
          have hL6 := HL5.out.grown HT5.out.1 HT5.out.2 g6'
          have hT6 : Told w1 w6 U v6 (T ++ [x]) := HT5.out.more (fun b hb => HL5.out.r.lt hb) (by rw [HTL.out]) h6 (fun g hg => (l6 g hg).imp (fun z => by rw [← HTL.out]; exact z) (fun z => by have := HS5.out; omega))
          obtain ⟨ta', tc', hv6⟩ := owns_shape h6
          subst hv6
          have hI6 := HI1.out.ext HQ1.out hbne hL6.x
          have hlk6 := hI6.m.look (t := 68) Tryz.underlying68 (zeroStrs' w6) x HXL.out false
          simp only [Bool.false_eq_true, if_false] at hlk6
          obtain ⟨xa, xc, hvx⟩ := owns_shape (hI6.row x)
          rw [hvx] at hlk6
          have HVX := Lib.hid hvx
          have HST : Hid (∀ W, Ext wq w1 W → StrsAt W (Tp.byE E x) xa) := fun W hW => by
            have := (HI1.out.ext HQ1.out hbne hW).row x
            rw [HVX.out] at this
            exact own_strsAt this
          have hbl6 : (Tp.byE E x).length ≤ 600 := Nat.le_trans (byE_len _ _) HEL.out
          obtain ⟨bl, hbq6⟩ : ∃ bl, bl = (Tp.byE E x).length := ⟨_, rfl⟩
          rw [← hbq6] at hlk6 hbl6
          have HBL := Lib.hid hbq6
          have hbl6' : (bl : Int) ≤ 600 := by omega
          have HL6 := Lib.hid hL6
          have HT6 := Lib.hid hT6
          have HO6 : Hid (Tp.Or2 K im T x ((Tp.byE E x).take 0) R' W) := HO2.out
          have HCN : Hid (∀ y ∈ K, (Tp.byE E x).count y = (im y).count x) := fun y hy => by rw [HE.out]; exact Tp.count_byE HXK.out HDN.out.1 y ((HDN.out.2 y).2 hy)
          have HBM : Hid (∀ y ∈ Tp.byE E x, y ∈ K) := fun y hy => (HDN.out.2 y).1 (Tp.mem_byE (by rw [← HE.out]; exact hy)).1
          clear h6 g6 l6 g6' hL6 hT6 hI6 hvx hbq6 HROW HNEWS hw5 HL5 HT5
          go_wp2_with fail
          clear hlk6
          go_loopg [41] bl (fun k vj wr => ∃ (j : Nat) (U : Nat → Prop) (R : List Bs) (W : Bs → Nat) (fw : Bs → Option Value) (nw : Nat), j ≤ bl ∧ k = bl - j ∧ vj = .int .i64 (j : Int) ∧ nw ≤ 600 + 600 * T.length + j ∧ Hid (Tp.Or2 K im T x ((Tp.byE E x).take j) R W) ∧ Hid (Tp.Hp R R.length) ∧ Hid (Lp w1 wr wq nb nw W fw U R) ∧ Hid (Told w1 wr U (.slice ta' (tl + 1) tc') (T ++ [x])))
          case atStart => exact ⟨0, U, R', W, fw, nw, by omega, by omega, rfl, by omega, HO6, HH4, HL6, HT6⟩
          case round =>
            clear HO6 HH4 HL6 HT6
            obtain ⟨j, U, R, W, fw, nw, hjl, hk, rfl, hnw2, HO2, HHP2, HLp, HTo⟩ := hrel
            by_cases hlt : j < bl
            · have hlt' : (j : Int) < (bl : Int) := by omega
              have hj0 : ¬ (j : Int) < 0 := by omega
              have hjb : j < (Tp.byE E x).length := by have := HBL.out; omega
              obtain ⟨g, o, hga, hgl, hc⟩ := (HST.out wr HLp.out.x).c j hjb
              subst hga
              have hyK := HBM.out _ (List.getElem_mem hjb)
              have HSP : Hid ((Tp.byE E x).take (j + 1) = (Tp.byE E x).take j ++ [(Tp.byE E x)[j]]) := List.take_succ_eq_append_getElem hjb
              have hpos : 0 < W (Tp.byE E x)[j] := HO2.out.pos (b' := (Tp.byE E x).drop (j + 1)) hyK (by
                have e : (Tp.byE E x).take j ++ (Tp.byE E x)[j] :: (Tp.byE E x).drop (j + 1) = Tp.byE E x := by
                  rw [← List.drop_eq_getElem_cons hjb, List.take_append_drop]
                rw [e, HCN.out _ hyK]
                exact Nat.le_refl _)
              generalize (Tp.byE E x)[j] = y at *
              have hyl := HKL.out y hyK
              have hWl : W y ≤ 1000 := by
                have h1 := HO2.out.w y hyK
                have h2 : Tp.need K im T y ≤ 6 := by
                  obtain ⟨_, _, _, _, _, _, _, _, _, _, _, _, _, _, q, _⟩ := HM.out.mod y hyK
                  exact Nat.le_trans (List.length_filter_le _ _) q
                omega
              have hlk := HLp.out.q.m.look (t := 69) Tryz.underlying69 (zeroInt' wr) y hyl false
              simp only [Bool.false_eq_true, if_false] at hlk
              rw [HLp.out.q.val y] at hlk
              obtain ⟨cw, hcq⟩ : ∃ cw, cw = W y := ⟨_, rfl⟩
              rw [← hcq] at hlk hWl hpos
              have HCQ := Lib.hid hcq
              have hcw1 : (cw : Int) ≤ 1000 := by omega
              have hcw2 : (1 : Int) ≤ (cw : Int) := by omega
              have HYK := Lib.hid hyK
              have HYL := Lib.hid hyl
              have hRl : R.length < 1000 := by
                have h1 := Tp.nodup_le HO2.out.nd (fun z hz => ((HO2.out.is z).1 hz).1)
                simp at h1
                omega
              clear hcq hyK hyl
              go_wp2_with (at_mapUpdate; refine wpList_mapUpdate_v' _ rfl _ _ _ 69 rfl _ Tryz.underlying69 wq nw fw HLp.out.q.m (by have := HTL.out; omega) y HYL.out _ rfl rfl rfl ?_; intro w7 q1 q2 q3)
              clear hlk
              have hL7 := HLp.out.less (x := y) (by have := HCQ.out; omega) q1 q2
              have hT7 := HTo.out.ext HLp.out.q.m q2
              have hlk7 := hL7.q.m.look (t := 69) Tryz.underlying69 (zeroInt' w7) y HYL.out false
              simp only [Bool.false_eq_true, if_false] at hlk7
              rw [hL7.q.val y] at hlk7
              have HL7 := Lib.hid hL7
              have HT7 := Lib.hid hT7
              have HAD := Lib.hid (addE_post hL7.r hRl HHP2.out y)
              clear q1 q2 q3 hL7 hT7 hc hgl
              by_cases hc1 : cw = 1
              · have e7 : ((if y = y then W y - 1 else W y : Nat) : Int) = 0 := by have := HCQ.out; rw [if_pos rfl]; omega
                rw [e7] at hlk7
                clear e7
                go_wp2_with fail
                rw [hlk7]
                go_wp2_with fail
                refine HAD.out.mono ?_
                rintro e w8 ⟨rfl, U', R2, hp, hh8, hr, ht⟩
                have HH8 := Lib.hid hh8
                have HL8 := Lib.hid (HL7.out.turn hr ht)
                have HT8 := Lib.hid (HT7.out.turn ht)
                have HO8 : Hid (Tp.Or2 K im T x ((Tp.byE E x).take (j + 1)) R2 (fun z => if z = y then W y - 1 else W z)) := by
                  show Tp.Or2 _ _ _ _ _ _ _
                  rw [HSP.out]
                  exact HO2.out.one HYK.out (by have := HCQ.out; omega) hp
                clear hp hh8 hr ht HAD hlk7
                go_wp2_with fail
                go_roundg (bl - (j + 1))
                case measure => omega
                case rel => exact ⟨j + 1, U', R2, _, _, nw + 1, by omega, rfl, by go_num, by omega, HO8, HH8, HL8, HT8⟩
              · obtain ⟨c7, hc7⟩ : ∃ c7 : Int, c7 = ((if y = y then W y - 1 else W y : Nat) : Int) := ⟨_, rfl⟩
                rw [← hc7] at hlk7
                have hc7' : ¬ c7 = 0 := by rw [hc7, if_pos rfl]; have := HCQ.out; omega
                have HO8 : Hid (Tp.Or2 K im T x ((Tp.byE E x).take (j + 1)) R (fun z => if z = y then W y - 1 else W z)) := by
                  show Tp.Or2 _ _ _ _ _ _ _
                  rw [HSP.out]
                  exact HO2.out.many HYK.out (by have := HCQ.out; omega)
                clear hc7 HAD
                go_wp2_with fail
                rw [hlk7]
                go_wp2_with fail
                go_roundg (bl - (j + 1))
                case measure => omega
                case rel => exact ⟨j + 1, U, R, _, _, nw + 1, by omega, rfl, by go_num, by omega, HO8, HHP2, HL7, HT7⟩
            · have hlt' : ¬ (j : Int) < (bl : Int) := by omega
              have HOn : Hid (Tp.Or1 K im (T ++ [x]) R W) := by
                have := HO2.out
                rw [List.take_of_length_le (by have := HBL.out; omega)] at this
                exact this.done HCN.out
              have HTLn : Hid (tl + 1 = (T ++ [x]).length) := by have := HTL.out; show _ = _; simp; omega
              go_wp2_with fail
              go_roundg (K.length - (T ++ [x]).length)
              case measure => have := HTlt.out; have := HTL.out; have := HTLn.out; omega
              case rel => exact ⟨T ++ [x], U, R, W, fw, nw, ta', tc', rfl, by rw [← HTLn.out], by have := HTLn.out; have := HTL.out; omega, HOn, ⟨HHP2.out, HSE.out⟩, HLp, by rw [← HTLn.out]; exact HTo⟩
    · intro x cv kl y1 y2 w9 cnt' hkey hlk hR hat hrg9 hlt9 hg9 hs9 hen
      obtain ⟨x', hx1, hx2⟩ := skey_inv' hkey
      have hxx : x = x' := by injection hx1 with hx1; rw [← bs_toList x, ← bs_toList x', hx1]
      subst hxx
      rw [hx2] at hlk hrg9
      obtain ⟨hxK, hxn, hLK2⟩ := HLK.out.next hlk
      have hL9 := HLp.out.iter (ranges_iter HRG.out) (by omega) hg9
      have hxl := HKL.out x hxK
      have hlw := hL9.q.m.look (t := 69) Tryz.underlying69 (zeroInt' w9) x hxl false
      simp only [Bool.false_eq_true, if_false] at hlw
      rw [hL9.q.val x] at hlw
      have HL9 := Lib.hid hL9
      have HRG9 := Lib.hid hrg9
      have HLK2 := Lib.hid hLK2
      have hrl9 := hrg9.lt
      have hRl : R.length < 1000 := by
        have h1 := HPR.out.length_eq
        have h2 := List.length_filter_le (fun x => decide (Tp.waitE E x = 0)) d1
        have h3 := Tp.nodup_le HLK.out.1 HLK.out.2.1
        omega
      have HAD := Lib.hid (addE_post hL9.r hRl HHP.out x)
      have hmw : mb < w1.heap.size := by omega
      have hmq : mb ≠ wq := by omega
      obtain ⟨cw, hcq⟩ : ∃ cw, cw = Tp.waitE E x := ⟨_, rfl⟩
      rw [← hcq] at hlw
      have HCQ := Lib.hid hcq
      clear hkey hlk hR hat hrg9 hg9 hs9 hx1 hx2 hxn hLK2 hL9 hcq HRG HLp HLK
      by_cases hc0 : cw = 0
      · subst hc0
        have hz : ((0 : Nat) : Int) = 0 := rfl
        rw [hz] at hlw
        go_wp2_with fail
        refine HAD.out.mono ?_
        rintro e w10 ⟨rfl, U', R', hp, hh10, hr, ht⟩
        have HH10 := Lib.hid hh10
        have hL10 := HL9.out.turn hr ht
        have HL10 := Lib.hid hL10
        have HRG10 := Lib.hid (ranges_keep HRG9.out ((hL10.x.block mb hmw hmq).trans (HL9.out.x.block mb hmw hmq).symm) (ht.block rb hrl9 (HL9.out.r.ne_iter (ranges_iter HRG9.out))))
        have HPR10 : Hid (R'.Perm ((d1 ++ [x]).filter fun x => decide (Tp.waitE E x = 0))) := filt_yes HPR.out (by have := HCQ.out; simp [← this]) hp
        clear hp hh10 hr ht hL10 HAD hlw hen
        go_wp2_with fail
        go_roundg cnt'
        case measure => exact hlt9
        case rel => exact ⟨_, d1 ++ [x], U', R', HRG10, HLK2, HL10, HPR10, HH10⟩
      · have hc0' : ¬ (cw : Int) = 0 := by omega
        have HPR10 : Hid (R.Perm ((d1 ++ [x]).filter fun x => decide (Tp.waitE E x = 0))) := filt_no HPR.out (by have := HCQ.out; simp [← this, hc0])
        clear HAD
        go_wp2_with fail
        go_roundg cnt'
        case measure => exact hlt9
        case rel => exact ⟨_, d1 ++ [x], U, R, HRG9, HLK2, HL9, HPR10, HHP⟩
end Go.Proofs.YtfcdphgggdioeaaGreatDoor
/- Chapter 9: the document's Order: which one is next. -/
namespace Tp
/- whether x may come now; whether it may, so far as some of what it imports tell -/
def mayI (K T : List Bs) (x : Bs) (l : List Bs) : Bool := !decide (x ∈ T) && l.all fun y => !(decide (y ∈ K) && !decide (y ∈ T))
def may (K : List Bs) (im : Bs → List Bs) (T : List Bs) (x : Bs) : Bool := mayI K T x (im x)
theorem may_iff {K : List Bs} {im : Bs → List Bs} {T : List Bs} {x : Bs} : may K im T x = true ↔ x ∉ T ∧ need K im T x = 0 := by
  unfold may mayI need
  have e : ∀ y : Bs, (!(decide (y ∈ K) && !decide (y ∈ T))) = true ↔ ¬ (decide (y ∈ K) && !decide (y ∈ T)) = true := fun y => by
    cases (decide (y ∈ K) && !decide (y ∈ T)) <;> simp
  rw [Bool.and_eq_true, List.length_eq_zero_iff, List.filter_eq_nil_iff, List.all_eq_true]
  exact ⟨fun h => ⟨by simpa using h.1, fun y hy => (e y).1 (h.2 y hy)⟩, fun h => ⟨by simpa using h.1, fun y hy => (e y).2 (h.2 y hy)⟩⟩
theorem mayI_step {K T : List Bs} {x : Bs} {l : List Bs} {i : Nat} (h : i < l.length) : mayI K T x (l.take (i + 1)) = (mayI K T x (l.take i) && !(decide (l[i] ∈ K) && !decide (l[i] ∈ T))) := by
  unfold mayI
  rw [List.take_succ_eq_append_getElem h, List.all_append, Bool.and_assoc]
  simp
/- the first one of l that may; no name: none -/
def nxt (K : List Bs) (im : Bs → List Bs) (T l : List Bs) : Bs := (l.find? (may K im T)).getD []
theorem nxt_step (K : List Bs) (im : Bs → List Bs) (T l : List Bs) (j : Nat) (h : j < l.length) : nxt K im T (l.drop j) = if may K im T l[j] = true then l[j] else nxt K im T (l.drop (j + 1)) := by
  unfold nxt
  rw [List.drop_eq_getElem_cons h, List.find?_cons]
  by_cases hm : may K im T l[j] = true
  · rw [if_pos hm, hm]; rfl
  · rw [if_neg hm]
    have : may K im T l[j] = false := by simpa using hm
    rw [this]
theorem nxt_end (K : List Bs) (im : Bs → List Bs) (T l : List Bs) {j : Nat} (h : l.length ≤ j) : nxt K im T (l.drop j) = [] := by
  unfold nxt
  rw [List.drop_of_length_le h]
  rfl
theorem nxt_none {K : List Bs} {im : Bs → List Bs} {T l : List Bs} (hK : ∀ x, x ∈ l ↔ x ∈ K) (hne : ∀ x ∈ K, x ≠ []) (h : nxt K im T l = []) : ∀ x ∈ K, x ∉ T → need K im T x ≠ 0 := by
  intro x hx ht h0
  unfold nxt at h
  cases hf : l.find? (may K im T) with
  | none =>
    have := List.find?_eq_none.1 hf x ((hK x).2 hx)
    exact this (may_iff.2 ⟨ht, h0⟩)
  | some y =>
    rw [hf] at h
    exact hne y ((hK y).1 (List.mem_of_find?_eq_some hf)) h
theorem nxt_some {K : List Bs} {im : Bs → List Bs} {T l : List Bs} (hK : ∀ x, x ∈ l ↔ x ∈ K) (hs : l.Pairwise (fun x y => x ≤ y)) (h : nxt K im T l ≠ []) : nxt K im T l ∈ K ∧ nxt K im T l ∉ T ∧ need K im T (nxt K im T l) = 0 ∧ ∀ x ∈ K, x ∉ T → need K im T x = 0 → nxt K im T l ≤ x := by
  unfold nxt at h ⊢
  cases hf : l.find? (may K im T) with
  | none => rw [hf] at h; exact absurd rfl h
  | some y =>
    obtain ⟨h1, h2⟩ := may_iff.1 (List.find?_some hf)
    refine ⟨(hK y).1 (List.mem_of_find?_eq_some hf), h1, h2, fun x hx hxt hx0 => ?_⟩
    obtain ⟨_, l1, l2, e, ha⟩ := List.find?_eq_some_iff_append.1 hf
    have hxl := (hK x).2 hx
    rw [e, List.mem_append, List.mem_cons] at hxl
    show y ≤ x
    rcases hxl with q | q | q
    · have := ha x q
      rw [may_iff.2 ⟨hxt, hx0⟩] at this
      cases this
    · rw [q]; exact List.le_refl _
    · rw [e] at hs
      exact (List.pairwise_cons.1 (List.pairwise_append.1 hs).2.1).1 x q
end Tp
namespace Go.Proofs.YtfcdphgggdioeaaGreatDoor
open Go.RowKit Go.Maps
open Tp (Bs)
theorem boolF_snoc (T : List Bs) (x : Bs) : updV (boolF T) x (.bool true) = boolF (T ++ [x]) := by
  funext k
  unfold updV boolF
  by_cases h : k = x
  · rw [if_pos h, if_pos (by rw [h]; simp)]
  · rw [if_neg h]
    by_cases h2 : k ∈ T
    · rw [if_pos h2, if_pos (by simp [h2])]
    · rw [if_neg h2, if_neg (by simp [h2, h])]
theorem boolF_get (T : List Bs) (x : Bs) : (boolF T x).getD (.bool false) = .bool (decide (x ∈ T)) := by
  unfold boolF
  by_cases h : x ∈ T
  · rw [if_pos h, decide_eq_true h]; rfl
  · rw [if_neg h, decide_eq_false h]; rfl
theorem sK_le (K : List Bs) : (sK K).Pairwise (fun x y => x ≤ y) := (sK_sorted K).imp fun h => by simpa using h
end Go.Proofs.YtfcdphgggdioeaaGreatDoor
