import Derived.Test.YtfcdphgggdioeaaGreatDoorKXg
import Derived.Test.YtfcdphgggdioeaaGreatDoorKGb
import Derived.Test.YtfcdphgggdioeaaGreatDoorKWb
import Derived.Deep.CutBlock
/- The document's reader: tokens, walked. -/
namespace Go.Proofs.YtfcdphgggdioeaaGreatDoor
open Go.RowKit
open Tp (Tok hd tx at' stp)
open Nr (Fl fine)
theorem bs_get (s : List UInt8) (i : Nat) (h : i < (bs s).size) (h' : i < s.length) : (bs s)[i]'h = s[i]'h' := by simp [bs, ByteArray.getElem_eq_getElem_data]
theorem bs_sizE (l : List UInt8) : (bs l).size = l.length := by simp [bs, ByteArray.size]
theorem bs_cut (l : List UInt8) (i k : Nat) : (bs l).extract i k = bs ((l.drop i).take (k - i)) := by
  apply ByteArray.ext
  simp [bs, ByteArray.data_extract]
def rtC (t : Tok) : List Value := [.int .i64 (kd t), .string (bs t.text), .int .i64 (t.pos : Int)]
def rtsC (l : List Tok) : List Value := (l.map rtC).flatten
theorem rtsC_snoc (l : List Tok) (t : Tok) : rtsC (l ++ [t]) = rtsC l ++ rtC t := by simp [rtsC]
theorem Tryz.infoRTok : (Tryz.prog.info? 57).map (fun i => (i.zero, i.size, i.bytes)) = some (some (.agg #[.int .i64 0, .string ⟨#[]⟩, .int .i64 0]), 3, 32) := by kernel_rfl
/- what tokens leaves: the tokens of its own, or what is wrong -/
def TokP (w : World) (l : List UInt8) (e : Ending) (w' : World) : Prop := match Tp.scan (l.length + 1) 0 0 l with
  | .ok ts => ∃ v, e = .returned (.tuple #[v, .agg #[.int .i64 0, .int .i64 (-1)]]) ∧ w'.ownsRow (w.heap.size + 1) 57 3 v ts.length (rtsC ts)
  | .error er => e = .returned (.tuple #[.slice none 0 0, .agg #[.int .i64 (er.1 : Int), .int .i64 (er.2 : Int)]])
theorem hgl_below {w w' : World} (h : Gl w) (hb : Below w.heap.size w w') : Gl w' := h.keep fun i _ j _ hv => (hb.cell (p := ⟨i, j, none⟩) (lt_of_cell hv)).trans hv
/- the two tries of a mark: n: as long as it is tried next; K: how far it came -/
def MR (l : List UInt8) (i n K : Nat) : Prop := (n = 2 ∧ K = i) ∨ (n = 1 ∧ K = i ∧ ¬ (2 ≤ (l.drop i).length ∧ (l.drop i).take 2 ∈ Tp.marks)) ∨ (n = 0 ∧ K = i ∧ ¬ (2 ≤ (l.drop i).length ∧ (l.drop i).take 2 ∈ Tp.marks) ∧ ¬ (l.drop i).take 1 ∈ Tp.marks) ∨ (n = 1 ∧ K = i + 2 ∧ (2 ≤ (l.drop i).length ∧ (l.drop i).take 2 ∈ Tp.marks)) ∨ (n = 0 ∧ K = i + 1 ∧ ¬ (2 ≤ (l.drop i).length ∧ (l.drop i).take 2 ∈ Tp.marks) ∧ (l.drop i).take 1 ∈ Tp.marks)
set_option maxRecDepth 100000 in
set_option maxHeartbeats 8000000 in
theorem tokens_post (w : World) (l : List UInt8) (hl : l.length ≤ 100000) (hg : Gl w) :
    Calls Tryz.prog 11 #[.string (bs l)] w fun e w' => TokP w l e w' ∧ Below w.heap.size w w' := by
  obtain ⟨i3, hi3, hz30, hz31, hz32⟩ := info_parts Tryz.infoRTok
  have hz := bs_sizE l
  have hli : (l.length : Int) ≤ 100000 := by omega
  have HG := Lib.hid hg
  have HERR : Hid (∀ er w', SC 0 0 l = .error er → TokP w l (.returned (.tuple #[.slice none 0 0, .agg #[.int .i64 (er.1 : Int), .int .i64 (er.2 : Int)]])) w') := fun er w' h => by
    unfold TokP; rw [show Tp.scan (l.length + 1) 0 0 l = .error er from h]
  have HOK : Hid (∀ ts v w', SC 0 0 l = .ok ts → w'.ownsRow (w.heap.size + 1) 57 3 v ts.length (rtsC ts) → TokP w l (.returned (.tuple #[v, .agg #[.int .i64 0, .int .i64 (-1)]])) w') := fun ts v w' h ho => by
    unfold TokP; rw [show Tp.scan (l.length + 1) 0 0 l = .ok ts from h]; exact ⟨v, rfl, ho⟩
  generalize TokP w l = PP at *
  clear hg
  obtain ⟨fb, hfb⟩ : ∃ fb, fb = w.heap.size := ⟨_, rfl⟩
  have b0 : Below w.heap.size w (w.alloc (.cells #[.int .i64 0, .int .i64 0] 31)) := (Below.refl _ _).alloc (Nat.le_refl _) _
  have k0 := new_blk w (.cells #[.int .i64 0, .int .i64 0] 31)
  have hsz0 : (w.alloc (.cells #[.int .i64 0, .int .i64 0] 31)).heap.size = w.heap.size + 1 := by simp
  go_enter Tryz.func11, Tryz.ntmps11
  go_wp2_with fail
  generalize w.alloc (.cells #[.int .i64 0, .int .i64 0] 31) = w0 at *
  rw [← hfb] at k0 ⊢
  have HF0 := Lib.hid hfb
  have hfw : w.heap.size ≤ fb := by omega
  have hC : fb + 1 = w.heap.size + 1 := by omega
  rw [← hC] at HOK
  have hw01 : fb + 1 ≤ w0.heap.size := by omega
  clear hfb hC hsz0
  go_loopg [4, 5] (l.length + 1) (fun k vl vi wr => ∃ (acc : List Tok) (i : Nat) (aa : Option Addr) (ac : Nat), i ≤ l.length ∧ k = l.length + 1 - i ∧ vi = .int .i64 (i : Int) ∧ vl = .slice aa acc.length ac ∧ acc.length ≤ 600 ∧ Hid (wr.ownsRow (fb + 1) 57 3 (.slice aa acc.length ac) acc.length (rtsC acc)) ∧ Hid (wr.heap[fb]? = some (.cells #[.int .i64 0, .int .i64 0] 31 (0, 0))) ∧ Hid (Below w.heap.size w wr) ∧ fb + 1 ≤ wr.heap.size ∧ Hid (addT acc (SC acc.length i (l.drop i)) = SC 0 0 l))
  case atStart => exact ⟨[], 0, none, 0, by omega, by omega, rfl, rfl, by simp, World.ownsRow_nil _ _ _ _, k0, b0, hw01, by show _ = _; cases hsc : SC 0 0 l <;> simp [addT, hsc]⟩
  case round =>
    obtain ⟨acc, i, aa, ac, hil, hk, rfl, rfl, hacc, HO, HFB, HB, hfr, HS⟩ := hrel
    clear k0 b0
    by_cases hlt : i < l.length
    rotate_left
    · have hie : i = l.length := by omega
      have HE : Hid (SC 0 0 l = .ok (acc ++ [⟨0, l.length, []⟩])) := by
        show _ = _
        rw [← HS.out, hie, List.drop_length, SC_nil]; rfl
      have hlt' : ¬ (i : Int) < (l.length : Int) := by omega
      have g0 := (hgl_below HG.out HB.out).f0
      have g1 := (hgl_below HG.out HB.out).f1
      have hgl0 := lt_of_cell g0
      have hgfb : 0 < fb := by have := lt_of_cell HG.out.f0; omega
      have kf0 : wr.cell? ⟨fb, 0, none⟩ = some (.int .i64 0) := cell_blk HFB.out
      have kf1 : wr.cell? ⟨fb, 1, none⟩ = some (.int .i64 0) := cell_blk HFB.out
      have zf : ∀ j, wr.frozen? ⟨fb, j, none⟩ = false := fun j => frozen_blk HFB.out
      have hfl := lt_blk HFB.out
      have hOW : (wr.alloc (.cells #[.int .i64 4, .string ⟨#[]⟩, .int .i64 (l.length : Int)] 57)).drew.ownsRow (fb + 1) 57 3 (.slice aa acc.length ac) acc.length (rtsC acc) := owns_below HO.out (((Below.refl _ _).alloc (Nat.le_refl _) _).drew)
      have HOW := Lib.hid hOW
      have HGR : Hid (∀ w10, (wr.alloc (.cells #[.int .i64 4, .string ⟨#[]⟩, .int .i64 (l.length : Int)] 57)).drew.grownBy w10 (Value.slice aa acc.length ac).ownBlock → Below (fb + 1) wr w10) := fun w10 hg =>
        (((Below.refl _ _).alloc (by omega) _).drew).trans ((Below.refl _ _).grown hg (by simp; omega) (owns_row HO.out))
      clear hOW HS hk hie
      go_wp2_with fail
      go_region_law (refine step_append_where rfl (.tmp 114) (.tmp 118) 44 rfl (fb + 1) 57 i3 (.agg #[.int .i64 0, .string ⟨#[]⟩, .int .i64 0]) 3 32 Tryz.underlying44 hi3 hz30 hz31 hz32 rfl (by decide) (.slice aa acc.length ac) acc.length (rtsC acc) (by simp [Act.eval]) HOW.out ⟨wr.heap.size, 0, none⟩ 1 1 [.int .i64 4, .string ⟨#[]⟩, .int .i64 (l.length : Int)] (by simp [Act.eval]) rfl (news3 wr _ _ _ _) (by intro u hu; simp at hu; rcases hu with rfl | rfl | rfl <;> rfl) (by unfold maxLen; omega) (by omega) (by simp; omega) ?_; intro v' w10 hown10 hgrow10 hwhere10; have hb10 := HGR.out w10 hgrow10; have g0' : w10.cell? ⟨0, 0, none⟩ = some (.int .i64 0) := (hb10.cell (p := ⟨0, 0, none⟩) (Nat.lt_succ_of_lt hgfb)).trans g0; have g1' : w10.cell? ⟨0, 1, none⟩ = some (.int .i64 (-1)) := (hb10.cell (p := ⟨0, 1, none⟩) (Nat.lt_succ_of_lt hgfb)).trans g1; have HFB10 := Lib.hid ((hb10.block fb (by omega)).trans HFB.out); have kf0' : w10.cell? ⟨fb, 0, none⟩ = some (.int .i64 0) := cell_blk HFB10.out; have kf1' : w10.cell? ⟨fb, 1, none⟩ = some (.int .i64 0) := cell_blk HFB10.out; have zf' : ∀ j, w10.frozen? ⟨fb, j, none⟩ = false := (fun j => frozen_blk HFB10.out); have hfl' := lt_blk HFB10.out; obtain ⟨na, nc, hvv⟩ := owns_shape hown10; subst hvv)
      all_goals
        have hbF : Below w.heap.size w ((w10.setCell ⟨fb, 0, none⟩ (.int .i64 0)).setCell ⟨fb, 1, none⟩ (.int .i64 (-1))) := HB.out.trans ((hb10.mono (by omega)).trans (below_set (below_set (Below.refl _ _) hfw 0 _) hfw 1 _))
        have HF : Hid (PP (.returned (.tuple #[.slice na (acc.length + 1) nc, .agg #[.int .i64 0, .int .i64 (-1)]])) ((w10.setCell ⟨fb, 0, none⟩ (.int .i64 0)).setCell ⟨fb, 1, none⟩ (.int .i64 (-1)))) := by
          refine HOK.out (acc ++ [⟨0, l.length, []⟩]) _ _ HE.out ?_
          rw [List.length_append, rtsC_snoc]
          exact owns_ext hown10 (((Ext.refl fb w10).set 0 _).set 1 _) (by omega)
        have HBF := Lib.hid hbF
        clear hown10 hgrow10 hwhere10 hb10 hbF
        go_wp2_with fail
        have kq0 : ((w10.setCell ⟨fb, 0, none⟩ (.int .i64 0)).setCell ⟨fb, 1, none⟩ (.int .i64 (-1))).cell? ⟨fb, 0, none⟩ = some (.int .i64 0) := by rw [World.cell?_setCell_other _ _ _ _ (by simp)]; exact World.cell?_setCell_same _ _ _ kf0'
        have kq1 : ((w10.setCell ⟨fb, 0, none⟩ (.int .i64 0)).setCell ⟨fb, 1, none⟩ (.int .i64 (-1))).cell? ⟨fb, 1, none⟩ = some (.int .i64 (-1)) := World.cell?_setCell_same _ _ _ ((World.cell?_setCell_other _ _ _ _ (by simp)).trans kf1')
        refine bodyPost_ret (v := .tuple #[.slice na (acc.length + 1) nc, .agg #[.int .i64 0, .int .i64 (-1)]]) (by simp [results, Tryz.results11, go_sem, kq0, kq1]) rfl ⟨HF.out, HBF.out⟩
    · have hlt' : (i : Int) < (l.length : Int) := by omega
      have hget := fun h => bs_get l i h hlt
      have HDR : Hid (l.drop i = l[i] :: l.drop (i + 1)) := List.drop_eq_getElem_cons hlt
      by_cases hbl : Tp.blank l[i] = true
      · have HS2 : Hid (addT acc (SC acc.length (i + 1) (l.drop (i + 1))) = SC 0 0 l) := by
          have := HS.out
          rw [HDR.out, SC_blank hbl] at this
          exact this
        have hb2 : (l[i].toNat : Int) = 32 ∨ (l[i].toNat : Int) = 10 := by rw [blank_eq] at hbl; simpa using hbl
        generalize l[i] = c at *
        clear hbl HS HDR
        by_cases h32 : (c.toNat : Int) = 32
        · have hq1 : ((c.toNat : Int) == 32) = true := by simpa using h32
          go_wp2_with fail
          go_roundg (l.length + 1 - (i + 1))
          case measure => omega
          case rel => exact ⟨acc, i + 1, aa, ac, by omega, rfl, by go_num, rfl, hacc, HO, HFB, HB, hfr, HS2⟩
        · have h10 : (c.toNat : Int) = 10 := hb2.elim (fun h => absurd h h32) id
          have hq1 : ((c.toNat : Int) == 32) = false := by simpa using h32
          have hq2 : ((c.toNat : Int) == 10) = true := by simpa using h10
          go_wp2_with fail
          go_roundg (l.length + 1 - (i + 1))
          case measure => omega
          case rel => exact ⟨acc, i + 1, aa, ac, by omega, rfl, by go_num, rfl, hacc, HO, HFB, HB, hfr, HS2⟩
      · have hblf : Tp.blank l[i] = false := by simpa using hbl
        have HNONE : Hid (Tp.cut (l.drop i) = none → SC 0 0 l = .error (3, i)) := fun h => by
          rw [← HS.out]; rw [HDR.out] at h ⊢; rw [SC_none hblf h]; rfl
        have HFULL : Hid (∀ kd n, Tp.cut (l.drop i) = some (kd, n) → acc.length = 600 → SC 0 0 l = .error (4, i)) := fun kd n h h6 => by
          rw [← HS.out]; rw [HDR.out] at h ⊢; rw [h6, SC_full hblf h]; rfl
        have HTOK : Hid (∀ kd n, Tp.cut (l.drop i) = some (kd, n) → acc.length ≠ 600 → addT (acc ++ [⟨kd, i, (l.drop i).take n⟩]) (SC (acc.length + 1) (i + n) (l.drop (i + n))) = SC 0 0 l) := fun kd n h h6 => by
          have hdd : l.drop (i + n) = (l.drop i).drop n := by rw [List.drop_drop]
          rw [← HS.out, hdd]; rw [HDR.out] at h ⊢; rw [SC_tok hblf h h6, addT_consT]
        have HCUT := Lib.hid (cut_at l i hlt)
        have HCMK : Hid (∀ h1 : Tp.letter l[i] = false, ∀ h2 : Tp.digit l[i] = false, Tp.cut (l.drop i) = if 2 ≤ (l.drop i).length ∧ (l.drop i).take 2 ∈ Tp.marks then some (3, 2) else if [l[i]] ∈ Tp.marks then some (3, 1) else none) := fun h1 h2 => by rw [HDR.out]; exact rcut_mark h1 h2
        have hq1 : ((l[i].toNat : Int) == 32) = false := by rw [blank_eq] at hblf; simp at hblf; simpa using hblf.1
        have hq2 : ((l[i].toNat : Int) == 10) = false := by rw [blank_eq] at hblf; simp at hblf; simpa using hblf.2
        clear hbl hblf HS
        obtain ⟨wo, hwo⟩ : ∃ wo, wo = wr := ⟨_, rfl⟩
        subst hwo
        have kf0 : wo.cell? ⟨fb, 0, none⟩ = some (.int .i64 0) := cell_blk HFB.out
        have kf1 : wo.cell? ⟨fb, 1, none⟩ = some (.int .i64 0) := cell_blk HFB.out
        have zf : ∀ j, wo.frozen? ⟨fb, j, none⟩ = false := fun j => frozen_blk HFB.out
        have hfl := lt_blk HFB.out
        go_upto_block 2 with fail
        go_cut [7, 9] from 28 to 93 (fun v7 v9 wc => ∃ (kd K : Nat), i ≤ K ∧ K ≤ l.length ∧ v7 = .int .i64 (K : Int) ∧ Hid (kd = 1 ∨ kd = 2 ∨ kd = 3) ∧ Hid (K = i → Tp.cut (l.drop i) = none) ∧ Hid (i < K → Tp.cut (l.drop i) = some (kd, K - i)) ∧ wc = wo.alloc (.cells #[.int .i64 (kd : Int), .string ⟨#[]⟩, .int .i64 (i : Int)] 57))
        case first =>
          clear kf0 kf1 zf hfl
          cases hlet : Tp.letter l[i]
          rotate_left
          · have HLET := Lib.hid hlet
            have HCW : Hid (Tp.cut (l.drop i) = some (1, pastI Tp.ld l i - i)) := by show _ = _; rw [HCUT.out, if_pos hlet]
            have HLI : Hid (Tp.ld l[i] = true) := by show _ = _; unfold Tp.ld; rw [hlet]; rfl
            clear hlet HCUT HCMK
            go_wp2_with fail
            refine (rlow_any _ l[i]).mono ?_
            rintro e w1 ⟨rfl, rfl⟩
            rw [HLET.out]
            go_wp2_with fail
            go_loopg [7] (l.length - i) (fun m v wx => ∃ k : Nat, i ≤ k ∧ k ≤ l.length ∧ m = l.length - k ∧ v = .int .i64 (k : Int) ∧ Hid (pastI Tp.ld l k = pastI Tp.ld l i) ∧ wx = wo.alloc (.cells #[.int .i64 1, .string ⟨#[]⟩, .int .i64 (i : Int)] 57))
            case atStart => exact ⟨i, by omega, by omega, rfl, rfl, rfl, rfl⟩
            case round =>
              obtain ⟨k, hik, hkl, hm, rfl, HP, rfl⟩ := hrel
              have HEND : Hid (pastI Tp.ld l k = k → (i < k ∧ (k = i → Tp.cut (l.drop i) = none) ∧ (i < k → Tp.cut (l.drop i) = some (1, k - i)))) := fun h => by
                have hlt2 : i < k := by
                  have h2 := pastI_yes (f := Tp.ld) hlt HLI.out
                  have h3 := pastI_le (f := Tp.ld) (l := l) (i := i + 1) (by omega)
                  have h4 := HP.out
                  omega
                refine ⟨hlt2, fun e => by omega, fun _ => ?_⟩
                rw [HCW.out, ← HP.out, h]
              by_cases hkt : k < l.length
              · have hkt' : (k : Int) < (l.length : Int) := by omega
                have hgk := fun h => bs_get l k h hkt
                cases hl1 : Tp.letter l[k]
                · have HL1 := Lib.hid hl1
                  cases hd1 : Tp.digit l[k]
                  · have HD1 := Lib.hid hd1
                    have HEN := Lib.hid (HEND.out (pastI_no hkt (by unfold Tp.ld; rw [hl1, hd1]; rfl)))
                    clear hl1 hd1
                    go_wp2_with fail
                    refine (rlow_any _ l[k]).mono ?_
                    rintro e w1 ⟨rfl, rfl⟩
                    rw [HL1.out]
                    go_wp2_with fail
                    refine (rdig_any _ l[k]).mono ?_
                    rintro e w1 ⟨rfl, rfl⟩
                    rw [HD1.out]
                    go_wp2_with fail
                    go_meet
                    case rel => exact ⟨1, k, hik, hkl, rfl, Or.inl rfl, HEN.out.2.1, HEN.out.2.2, rfl⟩
                  · have HD1 := Lib.hid hd1
                    have HP2 : Hid (pastI Tp.ld l (k + 1) = pastI Tp.ld l i) := (pastI_yes hkt (by unfold Tp.ld; rw [hl1, hd1]; rfl)).trans HP.out
                    clear hl1 hd1
                    go_wp2_with fail
                    refine (rlow_any _ l[k]).mono ?_
                    rintro e w1 ⟨rfl, rfl⟩
                    rw [HL1.out]
                    go_wp2_with fail
                    refine (rdig_any _ l[k]).mono ?_
                    rintro e w1 ⟨rfl, rfl⟩
                    rw [HD1.out]
                    go_wp2_with fail
                    go_roundg (l.length - (k + 1))
                    case measure => omega
                    case rel => exact ⟨k + 1, by omega, by omega, rfl, by go_num, HP2, rfl⟩
                · have HL1 := Lib.hid hl1
                  have HP2 : Hid (pastI Tp.ld l (k + 1) = pastI Tp.ld l i) := (pastI_yes hkt (by unfold Tp.ld; rw [hl1]; rfl)).trans HP.out
                  clear hl1
                  go_wp2_with fail
                  refine (rlow_any _ l[k]).mono ?_
                  rintro e w1 ⟨rfl, rfl⟩
                  rw [HL1.out]
                  go_wp2_with fail
                  go_roundg (l.length - (k + 1))
                  case measure => omega
                  case rel => exact ⟨k + 1, by omega, by omega, rfl, by go_num, HP2, rfl⟩
              · have hkt' : ¬ (k : Int) < (l.length : Int) := by omega
                have HEN := Lib.hid (HEND.out (pastI_end hkt))
                go_wp2_with fail
                go_meet
                case rel => exact ⟨1, k, hik, hkl, rfl, Or.inl rfl, HEN.out.2.1, HEN.out.2.2, rfl⟩
          · have HLET := Lib.hid hlet
            cases hdig : Tp.digit l[i]
            rotate_left
            · have HDIG := Lib.hid hdig
              have HCW : Hid (Tp.cut (l.drop i) = some (2, pastI Tp.digit l i - i)) := by show _ = _; rw [HCUT.out, hlet, hdig]; rfl
              clear hlet hdig HCUT HCMK
              go_wp2_with fail
              refine (rlow_any _ l[i]).mono ?_
              rintro e w1 ⟨rfl, rfl⟩
              rw [HLET.out]
              go_wp2_with fail
              refine (rdig_any _ l[i]).mono ?_
              rintro e w1 ⟨rfl, rfl⟩
              rw [HDIG.out]
              go_wp2_with fail
              go_loopg [7] (l.length - i) (fun m v wx => ∃ k : Nat, i ≤ k ∧ k ≤ l.length ∧ m = l.length - k ∧ v = .int .i64 (k : Int) ∧ Hid (pastI Tp.digit l k = pastI Tp.digit l i) ∧ wx = wo.alloc (.cells #[.int .i64 2, .string ⟨#[]⟩, .int .i64 (i : Int)] 57))
              case atStart => exact ⟨i, by omega, by omega, rfl, rfl, rfl, rfl⟩
              case round =>
                obtain ⟨k, hik, hkl, hm, rfl, HP, rfl⟩ := hrel
                have HEND : Hid (pastI Tp.digit l k = k → (i < k ∧ (k = i → Tp.cut (l.drop i) = none) ∧ (i < k → Tp.cut (l.drop i) = some (2, k - i)))) := fun h => by
                  have hlt2 : i < k := by
                    have h2 := pastI_yes (f := Tp.digit) hlt HDIG.out
                    have h3 := pastI_le (f := Tp.digit) (l := l) (i := i + 1) (by omega)
                    have h4 := HP.out
                    omega
                  refine ⟨hlt2, fun e => by omega, fun _ => ?_⟩
                  rw [HCW.out, ← HP.out, h]
                by_cases hkt : k < l.length
                · have hkt' : (k : Int) < (l.length : Int) := by omega
                  have hgk := fun h => bs_get l k h hkt
                  cases hd1 : Tp.digit l[k]
                  · have HD1 := Lib.hid hd1
                    have HEN := Lib.hid (HEND.out (pastI_no hkt hd1))
                    clear hd1
                    go_wp2_with fail
                    refine (rdig_any _ l[k]).mono ?_
                    rintro e w1 ⟨rfl, rfl⟩
                    rw [HD1.out]
                    go_wp2_with fail
                    go_meet
                    case rel => exact ⟨2, k, hik, hkl, rfl, Or.inr (Or.inl rfl), HEN.out.2.1, HEN.out.2.2, rfl⟩
                  · have HD1 := Lib.hid hd1
                    have HP2 : Hid (pastI Tp.digit l (k + 1) = pastI Tp.digit l i) := (pastI_yes hkt hd1).trans HP.out
                    clear hd1
                    go_wp2_with fail
                    refine (rdig_any _ l[k]).mono ?_
                    rintro e w1 ⟨rfl, rfl⟩
                    rw [HD1.out]
                    go_wp2_with fail
                    go_roundg (l.length - (k + 1))
                    case measure => omega
                    case rel => exact ⟨k + 1, by omega, by omega, rfl, by go_num, HP2, rfl⟩
                · have hkt' : ¬ (k : Int) < (l.length : Int) := by omega
                  have HEN := Lib.hid (HEND.out (pastI_end hkt))
                  go_wp2_with fail
                  go_meet
                  case rel => exact ⟨2, k, hik, hkl, rfl, Or.inr (Or.inl rfl), HEN.out.2.1, HEN.out.2.2, rfl⟩
            · have HDIG := Lib.hid hdig
              have HCM := Lib.hid (HCMK.out hlet hdig)
              clear hlet hdig HCUT HCMK
              go_wp2_with fail
              refine (rlow_any _ l[i]).mono ?_
              rintro e w1 ⟨rfl, rfl⟩
              rw [HLET.out]
              go_wp2_with fail
              refine (rdig_any _ l[i]).mono ?_
              rintro e w1 ⟨rfl, rfl⟩
              rw [HDIG.out]
              go_wp2_with fail
              obtain ⟨m, hm⟩ := (hgl_below HG.out HB.out).ml
              have HM : Hid (∀ o, (wo.alloc o).cell? ⟨5, 0, none⟩ = some (.int .i64 m)) := fun o => (((Below.refl wo.heap.size wo).alloc (Nat.le_refl _) o).cell (p := ⟨5, 0, none⟩) (lt_of_cell hm)).trans hm
              have HX2 : Hid ((bs l).extract i (i + 2) = bs ((l.drop i).take 2)) := by show _ = _; rw [bs_cut, Nat.add_sub_cancel_left]
              have HX1 : Hid ((bs l).extract i (i + 1) = bs ((l.drop i).take 1)) := by show _ = _; rw [bs_cut, Nat.add_sub_cancel_left]
              have HFINM : Hid (∀ n K, MR l i n K → (n = 0 ∨ K ≠ i) → K ≤ l.length ∧ (K = i → Tp.cut (l.drop i) = none) ∧ (i < K → Tp.cut (l.drop i) = some (3, K - i))) := fun n K h hx => by
                have hc := HCM.out
                rw [show [l[i]] = (l.drop i).take 1 by rw [HDR.out]; rfl] at hc
                have hll : (l.drop i).length = l.length - i := by simp
                rcases h with ⟨hn, hK⟩ | ⟨hn, hK, h2⟩ | ⟨hn, hK, h2, h1⟩ | ⟨hn, hK, h2⟩ | ⟨hn, hK, h2, h1⟩
                · omega
                · omega
                · rw [if_neg h2, if_neg h1] at hc
                  exact ⟨by omega, fun _ => hc, fun h => by omega⟩
                · rw [if_pos h2] at hc
                  have := h2.1
                  refine ⟨by omega, fun h => by omega, fun _ => ?_⟩
                  rw [hc, hK, Nat.add_sub_cancel_left]
                · rw [if_neg h2, if_pos h1] at hc
                  refine ⟨by omega, fun h => by omega, fun _ => ?_⟩
                  rw [hc, hK, Nat.add_sub_cancel_left]
              clear hm HCM
              go_loopg [7, 9] 2 (fun g v7 v9 wx => ∃ (n K : Nat), g = n ∧ v9 = .int .i64 (n : Int) ∧ v7 = .int .i64 (K : Int) ∧ Hid (MR l i n K) ∧ wx = wo.alloc (.cells #[.int .i64 3, .string ⟨#[]⟩, .int .i64 (i : Int)] 57))
              case atStart => exact ⟨2, i, rfl, rfl, rfl, Or.inl ⟨rfl, rfl⟩, rfl⟩
              case round =>
                obtain ⟨n, K, hg, rfl, rfl, HR, rfl⟩ := hrel
                rcases HR.out with ⟨hn, hK⟩ | ⟨hn, hK, h2⟩ | ⟨hn, hK, h2, h1⟩ | ⟨hn, hK, h2⟩ | ⟨hn, hK, h2, h1⟩
                · clear HR
                  subst hn
                  subst K
                  by_cases h2 : i + 2 ≤ l.length
                  · have h2' : (i : Int) + 2 ≤ (l.length : Int) := by omega
                    cases hp : decide ((l.drop i).take 2 ∈ Tp.marks)
                    · have HQ := Lib.hid hp
                      have HR : Hid (MR l i 1 i) := Or.inr (Or.inl ⟨rfl, rfl, fun h => of_decide_eq_false hp h.2⟩)
                      clear hp
                      go_wp2_with fail
                      refine (oneOf_any ((l.drop i).take 2) markW _ _ ?hx (rfl : _ = bs markW) m _ (by simp; omega) (by decide) (HM.out _)).mono ?_
                      case hx => show _ = _; rw [← HX2.out]
                      rintro e w1 ⟨rfl, e1⟩
                      rw [mark_one, HQ.out]
                      subst e1
                      go_wp2_with fail

                      go_roundg 1
                      case measure => omega
                      case rel => exact ⟨1, i, rfl, by go_num, rfl, HR, rfl⟩
                    · have HQ := Lib.hid hp
                      have HR : Hid (MR l i 1 (i + 2)) := Or.inr (Or.inr (Or.inr (Or.inl ⟨rfl, rfl, by simp; omega, of_decide_eq_true hp⟩)))
                      clear hp
                      go_wp2_with fail
                      refine (oneOf_any ((l.drop i).take 2) markW _ _ ?hx (rfl : _ = bs markW) m _ (by simp; omega) (by decide) (HM.out _)).mono ?_
                      case hx => show _ = _; rw [← HX2.out]
                      rintro e w1 ⟨rfl, e1⟩
                      rw [mark_one, HQ.out]
                      subst e1
                      go_wp2_with fail

                      go_roundg 1
                      case measure => omega
                      case rel => exact ⟨1, i + 2, rfl, by go_num, by go_num, HR, rfl⟩
                  · have h2' : ¬ (i : Int) + 2 ≤ (l.length : Int) := by omega
                    have HR : Hid (MR l i 1 i) := Or.inr (Or.inl ⟨rfl, rfl, fun h => by have := h.1; simp at this; omega⟩)
                    go_wp2_with fail
                    go_roundg 1
                    case measure => omega
                    case rel => exact ⟨1, i, rfl, by go_num, rfl, HR, rfl⟩
                · clear HR
                  subst hn
                  subst K
                  have H2 := Lib.hid h2
                  clear h2
                  have h2' : (i : Int) + 1 ≤ (l.length : Int) := by omega
                  cases hp : decide ((l.drop i).take 1 ∈ Tp.marks)
                  · have HQ := Lib.hid hp
                    have HR : Hid (MR l i 0 i) := Or.inr (Or.inr (Or.inl ⟨rfl, rfl, H2.out, of_decide_eq_false hp⟩))
                    clear hp
                    go_wp2_with fail
                    refine (oneOf_any ((l.drop i).take 1) markW _ _ ?hx (rfl : _ = bs markW) m _ (by simp; omega) (by decide) (HM.out _)).mono ?_
                    case hx => show _ = _; rw [← HX1.out]
                    rintro e w1 ⟨rfl, e1⟩
                    rw [mark_one, HQ.out]
                    subst e1
                    go_wp2_with fail

                    go_roundg 0
                    case measure => omega
                    case rel => exact ⟨0, i, rfl, by go_num, rfl, HR, rfl⟩
                  · have HQ := Lib.hid hp
                    have HR : Hid (MR l i 0 (i + 1)) := Or.inr (Or.inr (Or.inr (Or.inr ⟨rfl, rfl, H2.out, of_decide_eq_true hp⟩)))
                    clear hp
                    go_wp2_with fail
                    refine (oneOf_any ((l.drop i).take 1) markW _ _ ?hx (rfl : _ = bs markW) m _ (by simp; omega) (by decide) (HM.out _)).mono ?_
                    case hx => show _ = _; rw [← HX1.out]
                    rintro e w1 ⟨rfl, e1⟩
                    rw [mark_one, HQ.out]
                    subst e1
                    go_wp2_with fail

                    go_roundg 0
                    case measure => omega
                    case rel => exact ⟨0, i + 1, rfl, by go_num, by go_num, HR, rfl⟩
                · have HNO := Lib.hid ((HFINM.out n K HR.out (by omega)).2.1 hK)
                  clear HR h1 h2
                  subst hn
                  subst K
                  go_wp2_with fail
                  go_meet
                  case rel => exact ⟨3, i, by omega, by omega, rfl, Or.inr (Or.inr rfl), fun _ => HNO.out, fun h => absurd h (Nat.lt_irrefl _), rfl⟩
                · have HEN := Lib.hid (HFINM.out n K HR.out (by omega))
                  clear HR h2
                  subst hn
                  subst K
                  have hq3 : ((i : Int) + 2 == (i : Int)) = false := by simp; omega
                  go_wp2_with fail
                  go_meet
                  case rel => exact ⟨3, i + 2, by omega, HEN.out.1, by go_num, Or.inr (Or.inr rfl), HEN.out.2.1, HEN.out.2.2, rfl⟩
                · have HEN := Lib.hid (HFINM.out n K HR.out (by omega))
                  clear HR h1 h2
                  subst hn
                  subst K
                  go_wp2_with fail
                  go_meet
                  case rel => exact ⟨3, i + 1, by omega, HEN.out.1, by go_num, Or.inr (Or.inr rfl), HEN.out.2.1, HEN.out.2.2, rfl⟩
        case rest =>
          obtain ⟨kn, K, hiK, hKl, rfl, HKD, HN, HSM, rfl⟩ := hcut
          clear HCUT HCMK HDR hget
          by_cases hKi : K = i
          · have HE := Lib.hid (HERR.out (3, i) · (HNONE.out (HN.out hKi)))
            subst K
            go_wp2_with fail
            have ks0 : ((wo.setCell ⟨fb, 0, none⟩ (.int .i64 3)).setCell ⟨fb, 1, none⟩ (.int .i64 (i : Int))).cell? ⟨fb, 0, none⟩ = some (.int .i64 3) := (World.cell?_setCell_other _ _ _ _ (by simp)).trans (World.cell?_setCell_same _ _ _ kf0)
            have ks1 : ((wo.setCell ⟨fb, 0, none⟩ (.int .i64 3)).setCell ⟨fb, 1, none⟩ (.int .i64 (i : Int))).cell? ⟨fb, 1, none⟩ = some (.int .i64 (i : Int)) := World.cell?_setCell_same _ _ _ ((World.cell?_setCell_other _ _ _ _ (by simp)).trans kf1)
            have hbF : Below w.heap.size w ((wo.setCell ⟨fb, 0, none⟩ (.int .i64 3)).setCell ⟨fb, 1, none⟩ (.int .i64 (i : Int))) := below_set (below_set HB.out hfw 0 _) hfw 1 _
            have hsF : fb + 1 ≤ ((wo.setCell ⟨fb, 0, none⟩ (.int .i64 3)).setCell ⟨fb, 1, none⟩ (.int .i64 (i : Int))).heap.size := by simp; omega
            generalize (wo.setCell ⟨fb, 0, none⟩ (.int .i64 3)).setCell ⟨fb, 1, none⟩ (.int .i64 (i : Int)) = wy at *
            have kq0 := (((Below.refl (fb + 1) wy).alloc hsF (.cells #[.int .i64 (kn : Int), .string ⟨#[]⟩, .int .i64 (i : Int)] 57)).cell (p := ⟨fb, 0, none⟩) (by show fb < fb + 1; omega)).trans ks0
            have kq1 := (((Below.refl (fb + 1) wy).alloc hsF (.cells #[.int .i64 (kn : Int), .string ⟨#[]⟩, .int .i64 (i : Int)] 57)).cell (p := ⟨fb, 1, none⟩) (by show fb < fb + 1; omega)).trans ks1
            exact bodyPost_ret (v := .tuple #[.slice none 0 0, .agg #[.int .i64 3, .int .i64 (i : Int)]]) (by simp [results, Tryz.results11, go_sem, kq0, kq1]) rfl ⟨HE.out _, hbF.alloc (by omega) _⟩
          · have hKi' : ¬ (K : Int) = (i : Int) := by omega
            have hq3 : ((K : Int) == (i : Int)) = false := by simpa using hKi'
            have HC := Lib.hid (HSM.out (by omega))
            by_cases h6 : acc.length = 600
            · have HE := Lib.hid (HERR.out (4, i) · (HFULL.out _ _ HC.out h6))
              have h6' : (600 : Int) ≤ (acc.length : Int) := by omega
              clear h6
              go_wp2_with fail
              have ks0 : ((wo.setCell ⟨fb, 0, none⟩ (.int .i64 4)).setCell ⟨fb, 1, none⟩ (.int .i64 (i : Int))).cell? ⟨fb, 0, none⟩ = some (.int .i64 4) := (World.cell?_setCell_other _ _ _ _ (by simp)).trans (World.cell?_setCell_same _ _ _ kf0)
              have ks1 : ((wo.setCell ⟨fb, 0, none⟩ (.int .i64 4)).setCell ⟨fb, 1, none⟩ (.int .i64 (i : Int))).cell? ⟨fb, 1, none⟩ = some (.int .i64 (i : Int)) := World.cell?_setCell_same _ _ _ ((World.cell?_setCell_other _ _ _ _ (by simp)).trans kf1)
              have hbF : Below w.heap.size w ((wo.setCell ⟨fb, 0, none⟩ (.int .i64 4)).setCell ⟨fb, 1, none⟩ (.int .i64 (i : Int))) := below_set (below_set HB.out hfw 0 _) hfw 1 _
              have hsF : fb + 1 ≤ ((wo.setCell ⟨fb, 0, none⟩ (.int .i64 4)).setCell ⟨fb, 1, none⟩ (.int .i64 (i : Int))).heap.size := by simp; omega
              generalize (wo.setCell ⟨fb, 0, none⟩ (.int .i64 4)).setCell ⟨fb, 1, none⟩ (.int .i64 (i : Int)) = wy at *
              have kq0 := (((Below.refl (fb + 1) wy).alloc hsF (.cells #[.int .i64 (kn : Int), .string ⟨#[]⟩, .int .i64 (i : Int)] 57)).cell (p := ⟨fb, 0, none⟩) (by show fb < fb + 1; omega)).trans ks0
              have kq1 := (((Below.refl (fb + 1) wy).alloc hsF (.cells #[.int .i64 (kn : Int), .string ⟨#[]⟩, .int .i64 (i : Int)] 57)).cell (p := ⟨fb, 1, none⟩) (by show fb < fb + 1; omega)).trans ks1
              exact bodyPost_ret (v := .tuple #[.slice none 0 0, .agg #[.int .i64 4, .int .i64 (i : Int)]]) (by simp [results, Tryz.results11, go_sem, kq0, kq1]) rfl ⟨HE.out _, hbF.alloc (by omega) _⟩
            · have h6' : ¬ (600 : Int) ≤ (acc.length : Int) := by omega
              have HT := Lib.hid (HTOK.out _ _ HC.out h6)
              have hKl' : (K : Int) ≤ (l.length : Int) := by omega
              have hiK' : (i : Int) ≤ (K : Int) := by omega
              have hlt600 : acc.length < 600 := by omega
              clear h6
              go_wp2_with (at_builtin; refine wpList_append_own _ rfl _ _ 44 rfl (fb + 1) 57 i3 (.agg #[.int .i64 0, .string ⟨#[]⟩, .int .i64 0]) 3 32 Tryz.underlying44 hi3 hz30 hz31 hz32 rfl (by decide) _ _ _ rfl ((HO.out.alloc _).alloc _) ⟨wo.heap.size + 1, 0, none⟩ 1 1 [.int .i64 (kn : Int), .string ((bs l).extract i K), .int .i64 (i : Int)] rfl rfl ?c1 ?c2 ?c3 ?c4 ?c5 ?_)
              case c2 => exact ⟨rfl, rfl, rfl⟩
              case c3 => unfold maxLen; omega
              case c4 => omega
              case c5 => omega
              · intro v' w3 hown3 hgrow _
                obtain ⟨na, nc, hvv⟩ := owns_shape hown3
                subst hvv
                have hb3 : Below (fb + 1) wo w3 := (((Below.refl _ _).alloc (by omega) _).alloc (by simp; omega) _).trans ((Below.refl _ _).grown hgrow (by simp; omega) (owns_row HO.out))
                have HB3 := Lib.hid (HB.out.trans (hb3.mono (by omega)))
                have HFB3 := Lib.hid ((hb3.block fb (by omega)).trans HFB.out)
                have hs3 := hb3.size
                obtain ⟨t, ht⟩ : ∃ t : Tok, t = ⟨kn, i, (l.drop i).take (K - i)⟩ := ⟨_, rfl⟩
                have HTC : Hid (rtC t = [.int .i64 (kn : Int), .string ((bs l).extract i K), .int .i64 (i : Int)]) := by
                  show _ = _
                  rw [ht, bs_cut]
                  have : kd ⟨kn, i, (l.drop i).take (K - i)⟩ = (kn : Int) := by
                    unfold kd
                    rw [if_neg (by have := HKD.out; show ¬ kn = 0; omega)]
                  unfold rtC
                  rw [this]
                have HO3 : Hid (w3.ownsRow (fb + 1) 57 3 (.slice na (acc ++ [t]).length nc) (acc ++ [t]).length (rtsC (acc ++ [t]))) := by
                  show World.ownsRow _ _ _ _ _ _ _
                  rw [List.length_append, rtsC_snoc, HTC.out]
                  exact hown3
                have HT3 : Hid (addT (acc ++ [t]) (SC (acc ++ [t]).length K (l.drop K)) = SC 0 0 l) := by
                  show _ = _
                  have := HT.out
                  rw [show i + (K - i) = K by omega, ← ht] at this
                  rw [List.length_append]
                  exact this
                clear hgrow hown3 hb3 HO ht
                go_wp2_with fail
                go_roundg (l.length + 1 - K)
                case measure => omega
                case rel => exact ⟨acc ++ [t], K, na, nc, hKl, rfl, rfl, by simp, by simp; omega, HO3, HFB3, HB3, by omega, HT3⟩
end Go.Proofs.YtfcdphgggdioeaaGreatDoor
/- The document's reader: a MODULE is read. -/
namespace Go.Proofs.YtfcdphgggdioeaaGreatDoor
open Go.RowKit
open Tp (Tok hd tx at' stp X S G Pr)
open Nr (Fl fine Sx tk tkS fl mu nm nu nms nimp ngl ngs nps npr nbody nend nmod NP flt)
theorem rtoks_of {w : World} {base tb n cap : Nat} {ts : List Tok} (h : w.ownsRow base 57 3 (.slice (some ⟨tb, 0, none⟩) n cap) ts.length (rtsC ts)) : n = ts.length ∧ base ≤ tb ∧ tb < w.heap.size ∧ ts.length ≤ cap ∧ ∀ i t, ts[i]? = some t → RTok w tb i t := by
  rcases h.2 with ⟨q, _⟩ | ⟨g, c, cur, q0, q1, q2, q3, q4, q5, q6⟩
  · cases q
  · cases q0
    refine ⟨rfl, q1, lt_blk q2, q3, fun i t hi => ?_⟩
    have hil : i < ts.length := by rw [List.getElem?_eq_some_iff] at hi; exact hi.1
    have hcell : ∀ j, j < 3 → w.cell? ⟨tb, i * 3 + j, none⟩ = (rtsC ts)[i * 3 + j]? := by
      intro j hj
      rw [cell_blk q2, ← Array.getElem?_toList, ← q6, List.getElem?_take_of_lt (by omega)]
    have hget : ∀ (l : List Tok) (i j : Nat) (t : Tok), l[i]? = some t → j < 3 → (rtsC l)[i * 3 + j]? = (rtC t)[j]? := by
      intro l
      induction l with
      | nil => intro i j t h; cases h
      | cons u l ih =>
        intro i j t h hj
        have e : rtsC (u :: l) = rtC u ++ rtsC l := by simp [rtsC]
        have hl : (rtC u).length = 3 := by simp [rtC]
        rw [e]
        cases i with
        | zero => simp at h; subst h; rw [List.getElem?_append_left (by omega)]; simp
        | succ i =>
          rw [List.getElem?_append_right (by omega), hl, show (i + 1) * 3 + j - 3 = i * 3 + j by omega]
          exact ih i j t (by simpa using h) hj
    refine ⟨?_, ?_, ?_⟩
    · have := hcell 0 (by omega); rw [hget ts i 0 t hi (by omega)] at this; simpa [rtC] using this
    · have := hcell 1 (by omega); rw [hget ts i 1 t hi (by omega)] at this; simpa [rtC] using this
    · have := hcell 2 (by omega); rw [hget ts i 2 t hi (by omega)] at this; simpa [rtC] using this
theorem rs_first {w w1 : World} {base tb n cap rb : Nat} {l : List UInt8} {ts : List Tok} (hs : Tp.scan (l.length + 1) 0 0 l = .ok ts) (hl : l.length ≤ 100000) (hown : w.ownsRow base 57 3 (.slice (some ⟨tb, 0, none⟩) n cap) ts.length (rtsC ts))
    (hb : Below w.heap.size w w1) (hk : w1.heap[rb]? = some (.cells #[.slice (some ⟨tb, 0, none⟩) n cap, .int .i64 0, .int .i64 (-1)] 49 (0, 0))) (hrb : w.heap.size ≤ rb) (hg : Gl w) : RS w1 ⟨rb, tb, cap⟩ ts ts fine := by
  obtain ⟨tk1, tk2, tk3, tt, tz, tk4, tk5⟩ := Tp.scan_tks _ _ _ _ _ hs
  have hlen := tk3 (by omega)
  obtain ⟨h0, h1, h2, h3, h4⟩ := rtoks_of hown
  subst h0
  have hgl := hgl_below hg hb
  refine ⟨(cell_blk hk).trans (by simp), (cell_blk hk).trans rfl, (cell_blk hk).trans rfl, fun j => frozen_blk hk, fun i t hi => ?_, by simp, by rw [tk4]; simp, by omega, h3, fun t ht => (by rw [tk4, List.getLast?_concat] at ht; cases ht; exact tk5), Nat.lt_of_lt_of_le h2 hrb, fun t ht => ?_, fun t ht => (tk1 t ht).k0, fun t ht => (tk1 t ht).k2, hgl, fun i hi => ?_⟩
  · have := h4 i t hi
    exact ⟨(hb.cell (p := ⟨tb, _, none⟩) h2).trans this.c0, (hb.cell (p := ⟨tb, _, none⟩) h2).trans this.c1, (hb.cell (p := ⟨tb, _, none⟩) h2).trans this.c2⟩
  · have := Tp.scan_tl _ _ _ _ _ hs t ht
    have hk := (tk1 t ht).kk
    exact ⟨by omega, by omega, hk⟩
  · have : i < w.heap.size := by
      simp only [glb, List.mem_cons, List.not_mem_nil, or_false] at hi
      rcases hi with rfl | rfl | rfl | rfl
      · exact lt_of_cell hg.f0
      · obtain ⟨m, hm⟩ := hg.ml; exact lt_of_cell hm
      · exact lt_of_cell (hg.lv 0 (by omega))
      · obtain ⟨ev, he, _⟩ := hg.er; exact lt_of_cell he
    exact Nat.lt_of_lt_of_le this hrb
theorem below_ext {B b : Nat} {w1 w w' : World} (h : Below B w1 w) (hx : Ext b w w') (hb : B ≤ b) (h1 : B ≤ w1.heap.size) : Below B w1 w' := h.trans (hx.toBelow hb (Nat.le_trans h1 h.size))
theorem below_step {B : Nat} {w1 w w' : World} (h : Below B w1 w) (k : Below w.heap.size w w') (h1 : B ≤ w1.heap.size) : Below B w1 w' := h.trans (k.mono (Nat.le_trans h1 h.size))
/- what the document's Parse leaves -/
def RParseP (w : World) (l : List UInt8) (e : Ending) (w' : World) : Prop :=
  match Tp.parse l with
  | .ok m => ∃ v, e = .returned (.tuple #[v, .agg #[.int .i64 0, .int .i64 (-1)]]) ∧ VM w.heap.size m v w'
  | .error er => e = .returned (.tuple #[.agg m0, .agg #[.int .i64 (er.1 : Int), .int .i64 (er.2 : Int)]])
theorem MS.setN {w : World} {rb : Nat} {nm nm' : List UInt8} (h : MS w rb nm [] [] [] (.slice none 0 0) (.slice none 0 0) (.slice none 0 0) []) : MS (w.setCell ⟨rb, 0, none⟩ (.string (bs nm'))) rb nm' [] [] [] (.slice none 0 0) (.slice none 0 0) (.slice none 0 0) [] :=
  ⟨set_blk 0 (.string (bs nm')) h.blk, Or.inl ⟨rfl, rfl, rfl⟩, World.ownsRow_nil _ _ _ _, World.ownsRow_nil _ _ _ _, fun b hb e => (by cases e), rfl⟩
theorem MS.newPr {w w' : World} {mb : Nat} {nm : List UInt8} {is : List (List UInt8)} {gs : List G} {ps : List Pr} {iv gv pv : Value} {pcs : List Value} {c : Pr} {name : ByteArray} {pos : Int} {seen : Bool} {pa va ba : Option Addr} {pn pc vn vc bn bc : Nat} (h : MS w mb nm is gs ps iv gv pv pcs)
    (hv : VPr w.heap.size c (.agg (pcells name pos seen (.slice pa pn pc) (.slice va vn vc) (.slice ba bn bc))) w') :
    RepP w' (fun b => mb < b ∧ gv.ownBlock ≠ some b ∧ pv.ownBlock ≠ some b) [c] [.string name, .int .i64 pos, .bool seen, .slice pa pn pc, .slice va vn vc, .slice ba bn bc] := by
  obtain ⟨pa', va', ba', pc', vc', bc', he, h1, h2, h3⟩ := hv
  have he := congrArg (fun v => match v with | Value.agg a => a.toList | _ => []) he
  simp only [pcells] at he
  simp at he
  obtain ⟨rfl, rfl, rfl, ⟨rfl, rfl, rfl⟩, ⟨rfl, rfl, rfl⟩, rfl, rfl, rfl⟩ := he
  exact MS.newP h rfl ⟨h1, h2, h3⟩
theorem rproc_lit {q : Rp} {ts : List Tok} {g : Nat} {w : World} {r : List Tok} {y : Pr × Sx} (h : RS w q ts r fine) (hy : npr g (r, fine) = some y) :
    Calls Tryz.prog 20 #[.pointer (some ⟨q.rb, 0, none⟩)] w fun e w' => ∃ (name : ByteArray) (pos : Int) (seen : Bool) (pa va ba : Option Addr) (pn pc vn vc bn bc : Nat), e = .returned (.agg #[.string name, .int .i64 pos, .bool seen, .slice pa pn pc, .slice va vn vc, .slice ba bn bc]) ∧
      (y.2.2 = fine → VPr w.heap.size y.1 (.agg (pcells name pos seen (.slice pa pn pc) (.slice va vn vc) (.slice ba bn bc))) w') ∧ RX w' q ts y.2 ∧ Ext q.rb w w' := rproc_post h hy
theorem lt_blk' {w : World} {k : Nat} {o : Obj} (h : w.heap[k]? = some o) : k < w.heap.size := by
  rw [Array.getElem?_eq_some_iff] at h; exact h.1
theorem drewH (w : World) (k : Nat) : w.drew.heap[k]? = w.heap[k]? := rfl
theorem allocH {w : World} {ob : Obj} {k : Nat} {o : Obj} (h : w.heap[k]? = some o) : (w.alloc ob).drew.heap[k]? = some o := (drewH _ _).trans ((Below.heap_alloc _ _ _ (lt_blk' h)).trans h)
def retW (w : World) (ra : Nat) (v0 v1 v2 v3 v4 a b : Value) : World := ((((((w.setCell ⟨ra, 0, none⟩ v0).setCell ⟨ra, 1, none⟩ v1).setCell ⟨ra, 2, none⟩ v2).setCell ⟨ra, 3, none⟩ v3).setCell ⟨ra, 4, none⟩ v4).setCell ⟨ra + 1, 0, none⟩ a).setCell ⟨ra + 1, 1, none⟩ b
theorem retW_facts {w : World} {ra : Nat} (h1 : w.heap[ra]? = some (.cells m0 28 (0, 0))) (h2 : w.heap[ra + 1]? = some (.cells #[.int .i64 0, .int .i64 0] 31 (0, 0))) (v0 v1 v2 v3 v4 a b : Value) :
    Below ra w (retW w ra v0 v1 v2 v3 v4 a b) ∧ (retW w ra v0 v1 v2 v3 v4 a b).heap[ra]? = some (.cells #[v0, v1, v2, v3, v4] 28 (0, 0)) ∧ (retW w ra v0 v1 v2 v3 v4 a b).heap[ra + 1]? = some (.cells #[a, b] 31 (0, 0)) ∧ (retW w ra v0 v1 v2 v3 v4 a b).heap.size = w.heap.size ∧ ∀ k, k ≠ ra → k ≠ ra + 1 → (retW w ra v0 v1 v2 v3 v4 a b).heap[k]? = w.heap[k]? := by
  have a1 := set_blk 4 v4 (set_blk 3 v3 (set_blk 2 v2 (set_blk 1 v1 (set_blk 0 v0 h1))))
  have e1 : ∀ k, k ≠ ra → (((((w.setCell ⟨ra, 0, none⟩ v0).setCell ⟨ra, 1, none⟩ v1).setCell ⟨ra, 2, none⟩ v2).setCell ⟨ra, 3, none⟩ v3).setCell ⟨ra, 4, none⟩ v4).heap[k]? = w.heap[k]? := fun k hk => by
    rw [Below.heap_setCell _ _ _ _ (by simpa using hk), Below.heap_setCell _ _ _ _ (by simpa using hk), Below.heap_setCell _ _ _ _ (by simpa using hk), Below.heap_setCell _ _ _ _ (by simpa using hk), Below.heap_setCell _ _ _ _ (by simpa using hk)]
  have a2 := set_blk 1 b (set_blk 0 a ((e1 (ra + 1) (by omega)).trans h2))
  refine ⟨below_set (below_set (below_set5 w ra v0 v1 v2 v3 v4) (by simp) 0 a) (by simp) 1 b, ?_, a2, by simp [retW], fun k hk hk2 => ?_⟩
  · unfold retW
    rw [Below.heap_setCell _ _ _ _ (by simp), Below.heap_setCell _ _ _ _ (by simp)]
    exact a1
  · unfold retW
    rw [Below.heap_setCell _ _ _ _ (by simpa using hk2), Below.heap_setCell _ _ _ _ (by simpa using hk2)]
    exact e1 k hk
end Go.Proofs.YtfcdphgggdioeaaGreatDoor
