import Derived.Test.YtfcdphgggdioeaaGreatDoorKXh
/- The document's reader: a MODULE is read. -/
namespace Go.Proofs.YtfcdphgggdioeaaGreatDoor
open Go.RowKit
open Tp (Tok hd tx at' stp X S G Pr)
open Nr (Fl fine Sx tk tkS fl mu nm nu nms nsx nimp ngl ngs nps npr nbody nend nmod NP flt)
set_option maxRecDepth 100000 in
set_option maxHeartbeats 16000000 in
theorem rparse_post (w : World) (l : List UInt8) (hl : l.length ≤ 100000) (hg : Gl w) :
    Calls Tryz.prog 4 #[.string (bs l)] w fun e w' => Below w.heap.size w w' ∧ RParseP w l e w' := by
  obtain ⟨i4, hi4, hz40, hz41, hz42⟩ := info_parts Tryz.infoGlobal
  obtain ⟨i6, hi6, hz60, hz61, hz62⟩ := info_parts Tryz.infoProc
  obtain ⟨ra, hra⟩ : ∃ ra, ra = w.heap.size := ⟨_, rfl⟩
  have hb0 : Below w.heap.size w ((w.alloc (.cells #[.string ⟨#[]⟩, .slice none 0 0, .slice none 0 0, .slice none 0 0, .slice none 0 0] 28)).alloc (.cells #[.int .i64 0, .int .i64 0] 31)) := ((Below.refl _ _).alloc (Nat.le_refl _) _).alloc (by simp) _
  have hsz0 : ((w.alloc (.cells #[.string ⟨#[]⟩, .slice none 0 0, .slice none 0 0, .slice none 0 0, .slice none 0 0] 28)).alloc (.cells #[.int .i64 0, .int .i64 0] 31)).heap.size = w.heap.size + 2 := by simp
  have hbm : ((w.alloc (.cells #[.string ⟨#[]⟩, .slice none 0 0, .slice none 0 0, .slice none 0 0, .slice none 0 0] 28)).alloc (.cells #[.int .i64 0, .int .i64 0] 31)).heap[w.heap.size]? = some (.cells m0 28 (0, 0)) := (Below.heap_alloc _ _ _ (by simp)).trans (new_blk _ _)
  have hbe : ((w.alloc (.cells #[.string ⟨#[]⟩, .slice none 0 0, .slice none 0 0, .slice none 0 0, .slice none 0 0] 28)).alloc (.cells #[.int .i64 0, .int .i64 0] 31)).heap[w.heap.size + 1]? = some (.cells #[.int .i64 0, .int .i64 0] 31 (0, 0)) := by
    have := new_blk (w.alloc (.cells #[.string ⟨#[]⟩, .slice none 0 0, .slice none 0 0, .slice none 0 0, .slice none 0 0] 28)) (.cells #[.int .i64 0, .int .i64 0] 31)
    simpa using this
  have hgb := hg
  go_enter Tryz.func4, Tryz.ntmps4
  clear hgb
  have HG := Lib.hid hg
  clear hg
  go_wp2_with fail
  generalize ((w.alloc (.cells #[.string ⟨#[]⟩, .slice none 0 0, .slice none 0 0, .slice none 0 0, .slice none 0 0] 28)).alloc (.cells #[.int .i64 0, .int .i64 0] 31)) = w1 at hb0 hsz0 hbm hbe ⊢
  have hg1 : Gl w1 := hgl_below HG.out hb0
  have hfr : 0 < ra := by rw [hra]; exact lt_of_cell HG.out.f0
  have HB0 : Hid (Below ra w w1) := by rw [hra]; exact hb0
  have HMB : Hid (w.heap.size = ra) := hra.symm
  have hs1 : ra + 2 ≤ w1.heap.size := by omega
  rw [← hra] at hbm hbe ⊢
  have HFB : Hid (∀ wX, Below (ra + 2) w1 wX → wX.heap[ra]? = some (.cells m0 28 (0, 0)) ∧ wX.heap[ra + 1]? = some (.cells #[.int .i64 0, .int .i64 0] 31 (0, 0))) := fun wX hX => ⟨(hX.block ra (by omega)).trans hbm, (hX.block (ra + 1) (by omega)).trans hbe⟩
  have HERR : Hid (∀ (wX wY : World) (er : Tp.Er), Below (ra + 2) w1 wX → Below ra wX wY → Tp.parse l = .error er → Below w.heap.size w wY ∧ RParseP w l (.returned (.tuple #[.agg m0, .agg #[.int .i64 (er.1 : Int), .int .i64 (er.2 : Int)]])) wY) := fun wX wY er h1 h2 h3 => by
    rw [HMB.out]
    refine ⟨(HB0.out.trans (h1.mono (by omega))).trans h2, ?_⟩
    unfold RParseP
    rw [h3]
  have HFIN : Hid (∀ (wX wY : World) (m : Tp.M) (v : Value), Below (ra + 2) w1 wX → Below ra wX wY → Tp.parse l = .ok m → VM ra m v wY → Below w.heap.size w wY ∧ RParseP w l (.returned (.tuple #[v, .agg #[.int .i64 0, .int .i64 (-1)]])) wY) := fun wX wY m v h1 h2 h3 h4 => by
    rw [HMB.out]
    refine ⟨(HB0.out.trans (h1.mono (by omega))).trans h2, ?_⟩
    unfold RParseP
    rw [h3, HMB.out]
    exact ⟨v, rfl, h4⟩
  clear hbm hbe hb0 hsz0 hra HG HB0 HMB
  refine (tokens_post w1 l hl hg1).mono ?_
  rintro e w2 ⟨hq, hb2⟩
  have hsz2 := hb2.size
  have hg2 := hgl_below hg1 hb2
  have f0 := hg2.f0
  have f1 := hg2.f1
  have hfl := lt_of_cell f0
  unfold TokP at hq
  rcases hsc : Tp.scan (l.length + 1) 0 0 l with er | ts
  · rw [hsc] at hq
    dsimp only at hq
    subst hq
    have HP : Hid (Tp.parse l = .error er) := by show _ = _; unfold Tp.parse; rw [hsc]; rfl
    clear hsc
    obtain ⟨er1, er2⟩ := er
    have hbX : Below (ra + 2) w1 w2 := hb2.mono hs1
    obtain ⟨e1, e2⟩ := HFB.out _ hbX
    obtain ⟨wY, hwY⟩ : ∃ wY, wY = ((retW w2 ra (.string ⟨#[]⟩) (.slice none 0 0) (.slice none 0 0) (.slice none 0 0) (.slice none 0 0) (.int .i64 (er1 : Int)) (.int .i64 (er2 : Int))).alloc (.cells #[.int .i64 (er1 : Int), .int .i64 (er2 : Int)] 31)).drew := ⟨_, rfl⟩
    obtain ⟨r1, r2, r3, r4, _⟩ := retW_facts e1 e2 (.string ⟨#[]⟩) (.slice none 0 0) (.slice none 0 0) (.slice none 0 0) (.slice none 0 0) (.int .i64 (er1 : Int)) (.int .i64 (er2 : Int))
    have hl1 := lt_blk e1
    have hl2 := lt_blk e2
    have hYb : Below ra w2 wY := by rw [hwY]; exact (r1.trans ((Below.refl _ _).alloc (by rw [r4]; omega) _)).drew
    have hY1 : wY.heap[ra]? = some (.cells #[.string ⟨#[]⟩, .slice none 0 0, .slice none 0 0, .slice none 0 0, .slice none 0 0] 28 (0, 0)) := by rw [hwY]; exact allocH r2
    have hY2 : wY.heap[ra + 1]? = some (.cells #[.int .i64 (er1 : Int), .int .i64 (er2 : Int)] 31 (0, 0)) := by rw [hwY]; exact allocH r3
    have kY1 : ∀ i, wY.cell? ⟨ra, i, none⟩ = _ := fun i => cell_blk hY1
    have kY2 : ∀ i, wY.cell? ⟨ra + 1, i, none⟩ = _ := fun i => cell_blk hY2
    have HF := Lib.hid (HERR.out w2 wY (er1, er2) hbX hYb HP.out)
    have KY1 := Lib.hid kY1
    have KY2 := Lib.hid kY2
    have HWY := Lib.hid hwY
    have s0 : w2.cell? ⟨ra, 0, none⟩ = some (.string ⟨#[]⟩) := cell_blk e1
    have s1 : w2.cell? ⟨ra, 1, none⟩ = some (.slice none 0 0) := cell_blk e1
    have s2 : w2.cell? ⟨ra, 2, none⟩ = some (.slice none 0 0) := cell_blk e1
    have s3 : w2.cell? ⟨ra, 3, none⟩ = some (.slice none 0 0) := cell_blk e1
    have s4 : w2.cell? ⟨ra, 4, none⟩ = some (.slice none 0 0) := cell_blk e1
    have t0 : w2.cell? ⟨ra + 1, 0, none⟩ = some (.int .i64 0) := cell_blk e2
    have t1 : w2.cell? ⟨ra + 1, 1, none⟩ = some (.int .i64 0) := cell_blk e2
    have hz1 : ∀ i, w2.frozen? ⟨ra, i, none⟩ = false := fun i => frozen_blk e1
    have hz2 : ∀ i, w2.frozen? ⟨ra + 1, i, none⟩ = false := fun i => frozen_blk e2
    clear hbX hb2 hg1 hg2 e1 e2 r1 r2 r3 r4 hYb hY1 hY2 kY1 kY2 hwY HP
    have hne : ((er1 : Int) == 0 && (er2 : Int) == -1) = false := by have : ((er2 : Int) == -1) = false := beq_eq_false_iff_ne.2 (by omega); rw [this]; exact Bool.and_false _
    go_wp2_with fail
    go_region
    have e := HWY.out
    unfold retW at e
    rw [← e]
    clear e HWY s0 s1 s2 s3 s4 t0 t1 hz1 hz2
    have kY1 := KY1.out
    have kY2 := KY2.out
    go_wp2_with fail
    exact bodyPost_ret (v := .tuple #[.agg m0, .agg #[.int .i64 (er1 : Int), .int .i64 (er2 : Int)]]) (by simp [results, Tryz.results4, go_sem, kY1, kY2, m0]) rfl HF.out
  · rw [hsc] at hq
    obtain ⟨v, rfl, hown⟩ := hq
    obtain ⟨ta, tc, rfl⟩ := owns_shape hown
    obtain ⟨tb, rfl⟩ : ∃ tb, ta = some ⟨tb, 0, none⟩ := by
      rcases hown.2 with ⟨q, q'⟩ | ⟨g, c, cur, q0, _⟩
      · obtain ⟨_, _, _, tt, tz, tk4, _⟩ := Tp.scan_tks _ _ _ _ _ hsc
        rw [tk4] at q'; simp at q'
      · cases q0; exact ⟨g, rfl⟩
    have hA : Below w2.heap.size w2 (((w2.alloc (.cells #[.int .i64 0, .int .i64 (-1)] 31)).alloc (.cells #[.slice (some ⟨tb, 0, none⟩) ts.length tc, .int .i64 0, .int .i64 (-1)] 49)).alloc (.cells #[.string ⟨#[]⟩, .slice none 0 0, .slice none 0 0, .slice none 0 0, .slice none 0 0] 28)) := (((Below.refl _ _).alloc (Nat.le_refl _) _).alloc (by simp) _).alloc (by simp; omega) _
    have hkr : (((w2.alloc (.cells #[.int .i64 0, .int .i64 (-1)] 31)).alloc (.cells #[.slice (some ⟨tb, 0, none⟩) ts.length tc, .int .i64 0, .int .i64 (-1)] 49)).alloc (.cells #[.string ⟨#[]⟩, .slice none 0 0, .slice none 0 0, .slice none 0 0, .slice none 0 0] 28)).heap[w2.heap.size + 1]? = some (.cells #[.slice (some ⟨tb, 0, none⟩) ts.length tc, .int .i64 0, .int .i64 (-1)] 49 (0, 0)) := by
      refine (Below.heap_alloc _ _ _ (by simp)).trans ?_
      have := new_blk (w2.alloc (.cells #[.int .i64 0, .int .i64 (-1)] 31)) (.cells #[.slice (some ⟨tb, 0, none⟩) ts.length tc, .int .i64 0, .int .i64 (-1)] 49)
      simpa using this
    have hkm : (((w2.alloc (.cells #[.int .i64 0, .int .i64 (-1)] 31)).alloc (.cells #[.slice (some ⟨tb, 0, none⟩) ts.length tc, .int .i64 0, .int .i64 (-1)] 49)).alloc (.cells #[.string ⟨#[]⟩, .slice none 0 0, .slice none 0 0, .slice none 0 0, .slice none 0 0] 28)).heap[w2.heap.size + 1 + 1]? = some (.cells #[.string ⟨#[]⟩, .slice none 0 0, .slice none 0 0, .slice none 0 0, .slice none 0 0] 28 (0, 0)) := by
      have := new_blk ((w2.alloc (.cells #[.int .i64 0, .int .i64 (-1)] 31)).alloc (.cells #[.slice (some ⟨tb, 0, none⟩) ts.length tc, .int .i64 0, .int .i64 (-1)] 49)) (.cells #[.string ⟨#[]⟩, .slice none 0 0, .slice none 0 0, .slice none 0 0, .slice none 0 0] 28)
      simpa using this
    go_wp2_with fail
    generalize (((w2.alloc (.cells #[.int .i64 0, .int .i64 (-1)] 31)).alloc (.cells #[.slice (some ⟨tb, 0, none⟩) ts.length tc, .int .i64 0, .int .i64 (-1)] 49)).alloc (.cells #[.string ⟨#[]⟩, .slice none 0 0, .slice none 0 0, .slice none 0 0, .slice none 0 0] 28)) = w3 at hA hkr hkm ⊢
    have hst := rs_first hsc hl hown hA hkr (by omega) hg2
    obtain ⟨g, y, hgy, hNP⟩ := Nr.nparse hsc
    obtain ⟨q, hq⟩ : ∃ q : Rp, q = ⟨w2.heap.size + 1, tb, tc⟩ := ⟨_, rfl⟩
    obtain ⟨mb, hmb⟩ : ∃ mb, mb = w2.heap.size + 1 + 1 := ⟨_, rfl⟩
    have hqr : w2.heap.size + 1 = q.rb := by rw [hq]
    rw [← hq] at hst
    rw [← hmb] at hkm ⊢
    rw [hqr]
    have hqm : q.rb < mb := by omega
    have hq2 : ra + 2 ≤ q.rb := by omega
    have hram : ra + 2 ≤ mb := by omega
    have hb : Below (ra + 2) w1 w3 := (hb2.mono hs1).trans (hA.mono (by omega))
    have hms : MS w3 mb [] [] [] [] (.slice none 0 0) (.slice none 0 0) (.slice none 0 0) [] := ⟨hkm, Or.inl ⟨rfl, rfl, rfl⟩, World.ownsRow_nil _ _ _ _, World.ownsRow_nil _ _ _ _, fun b hb e => (by cases e), rfl⟩
    unfold nmod at hgy
    dsimp only at hgy
    obtain ⟨is, his, hgy⟩ := bind_some' hgy
    obtain ⟨gs, hgs, hgy⟩ := bind_some' hgy
    obtain ⟨ps, hps, hgy⟩ := bind_some' hgy
    obtain ⟨b, hbd, hgy⟩ := bind_some' hgy
    have HY := Lib.hid (Option.some.inj hgy).symm
    have HIS := Lib.hid his
    have HGS := Lib.hid hgs
    have HPS := Lib.hid hps
    have HBD := Lib.hid hbd
    have HNP := Lib.hid hNP
    have hst : RX w3 q ts (ts, fine) := hst
    clear hgy his hgs hps hbd hNP hA hkr hkm hown hsc hg1 hg2 hb2 hsz2 f0 f1 hfl hq hqr hmb
    refine (rmust_s hst Tp.wModule (by decide) _ rfl).mono ?_
    rintro e w4 ⟨rfl, hst2, hxx⟩
    replace hms := hms.ext hxx hqm
    replace hb := below_ext hb hxx hq2 hs1
    replace hst := hst2
    clear hst2 hxx
    generalize mu Tp.wModule (ts, fine) = s1 at *
    obtain ⟨r1, b1⟩ := s1
    have hst : RS w4 q ts r1 b1 := hst
    go_wp2_with fail
    refine (rok_any hst).mono ?_
    rintro e w5 ⟨rfl, hbb⟩
    replace hms := hms.below hbb
    replace hb := below_step hb hbb hs1
    have hst2 := hst.below hbb
    clear hst hbb
    have hst := hst2
    clear hst2
    generalize hdb : decide (b1 = fine) = db at *
    have HDB := Lib.hid hdb
    clear hdb
    generalize hnn : nm (r1, b1) = nn at *
    obtain ⟨a1, s2⟩ := nn
    have HNN := Lib.hid hnn
    clear hnn
    have HMS := Lib.hid hms
    have HB := Lib.hid hb
    clear hms hb
    go_upto_if 26 with fail
    go_cut [] from 27 (fun wc => RX wc q ts s2 ∧ Hid (MS wc mb a1 [] [] [] (.slice none 0 0) (.slice none 0 0) (.slice none 0 0) []) ∧ Hid (Below (ra + 2) w1 wc))
    case first =>
      cases db with
      | false =>
        have hnf : ¬ b1 = fine := of_decide_eq_false HDB.out
        have he : a1 = [] ∧ s2 = (r1, b1) := by
          have := HNN.out
          unfold nm at this
          rw [if_neg hnf] at this
          cases this
          exact ⟨rfl, rfl⟩
        obtain ⟨rfl, rfl⟩ := he
        clear HNN HDB hnf
        go_wp2_with fail
        go_meet
        case rel => exact ⟨hst, HMS, HB⟩
      | true =>
        have hf : b1 = fine := of_decide_eq_true HDB.out
        subst hf
        have HC := Lib.hid (rname_s (s := (r1, fine)) hst)
        rw [HNN.out] at HC
        have hms := HMS.out
        have hb := HB.out
        clear HMS HB HNN HDB hst
        go_wp2_with fail
        refine HC.out.mono ?_
        rintro e w6 ⟨rfl, hst, hxx⟩
        replace hms := hms.ext hxx hqm
        replace hb := below_ext hb hxx hq2 hs1
        clear hxx HC
        have k0 : w6.cell? ⟨mb, 0, none⟩ = some (.string ⟨#[]⟩) := cell_blk hms.blk
        have z0 : w6.frozen? ⟨mb, 0, none⟩ = false := frozen_blk hms.blk
        have hml := lt_blk hms.blk
        have hbS : Below mb w6 (w6.setCell ⟨mb, 0, none⟩ (.string (bs a1))) := below_set (Below.refl _ _) (Nat.le_refl _) 0 _
        have hst2 : RX (w6.setCell ⟨mb, 0, none⟩ (.string (bs a1))) q ts s2 := hst.belowB hbS hqm
        have HMS2 := Lib.hid (hms.setN (nm' := a1))
        have HB2 := Lib.hid (hb.trans (hbS.mono hram))
        clear hst hms hb hbS
        go_wp2_with fail
        clear k0 z0
        go_meet
        case rel => exact ⟨hst2, HMS2, HB2⟩
    case rest =>
      rename_i wc0
      obtain ⟨wc, hwc⟩ : ∃ wc, wc = wc0 := ⟨_, rfl⟩
      subst hwc
      clear hst
      obtain ⟨hst, HMS2, HB2⟩ := hcut
      have hms := HMS2.out
      have hb := HB2.out
      clear HMS HMS2 HB HB2 HDB
      go_wp2_with fail
      refine (rmust_s hst Tp.mSemi (by decide) _ rfl).mono ?_
      rintro e w7 ⟨rfl, hst2, hxx⟩
      replace hms := hms.ext hxx hqm
      replace hb := below_ext hb hxx hq2 hs1
      replace hst := hst2
      clear hst2 hxx
      generalize mu Tp.mSemi s2 = s3 at *
      clear HNN
      go_wp2_with fail
      refine (rtake_s hst Tp.wImport (by decide) _ rfl).mono ?_
      rintro e w8 ⟨rfl, hst2, hxx⟩
      replace hms := hms.ext hxx hqm
      replace hb := below_ext hb hxx hq2 hs1
      replace hst := hst2
      clear hst2 hxx
      generalize htv : tk Tp.wImport s3 = tv at *
      have HTV := Lib.hid htv
      clear htv
      have HMS := Lib.hid hms
      have HB := Lib.hid hb
      clear hms hb
      go_upto_if 33 with fail
      go_cut [] from 34 (fun wc => ∃ iv : Value, RX wc q ts is.2 ∧ Hid (MS wc mb a1 is.1 [] [] iv (.slice none 0 0) (.slice none 0 0) []) ∧ Hid (Below (ra + 2) w1 wc))
      case first =>
        cases tv with
        | false =>
          have hvs : is = ([], s3) := by
            have := HIS.out
            unfold nimp at this
            rw [if_neg (by rw [HTV.out]; simp)] at this
            exact (Option.some.inj this).symm
          subst hvs
          rw [tk_false HTV.out] at hst
          clear HIS HTV
          go_wp2_with fail
          go_meet
          case rel => exact ⟨_, hst, HMS, HB⟩
        | true =>
          obtain ⟨_, _, htS⟩ := tk_true HTV.out
          have hvs : ∃ z, nms g 6 [] (stp s3.1, fine) = some z ∧ is = (z.1, mu Tp.mSemi z.2) := by
            have := HIS.out
            unfold nimp at this
            rw [if_pos HTV.out, htS] at this
            obtain ⟨z, h1, h2⟩ := bind_some' this
            exact ⟨z, h1, (Option.some.inj h2).symm⟩
          obtain ⟨z, hz, hvs⟩ := hvs
          subst hvs
          rw [htS] at hst
          have HC := Lib.hid (rnames_s (s := (stp s3.1, fine)) hst rfl 6 g (by omega) z hz)
          have hms := HMS.out
          have hb := HB.out
          have hmlv := lt_blk hms.blk
          clear hz HMS HB HIS HTV hst htS
          go_wp2_with fail
          refine HC.out.mono ?_
          rintro e w9 ⟨v, rfl, hown, hst, hxx⟩
          obtain ⟨va, vc, rfl⟩ := owns_shape hown
          replace hms := hms.ext hxx hqm
          replace hb := below_ext hb hxx hq2 hs1
          have k0 : w9.cell? ⟨mb, 1, none⟩ = some (.slice none 0 0) := cell_blk hms.blk
          have z0 : w9.frozen? ⟨mb, 1, none⟩ = false := frozen_blk hms.blk
          have hml := lt_blk hms.blk
          have hbS : Below mb w9 (w9.setCell ⟨mb, 1, none⟩ (.slice va z.1.length vc)) := below_set (Below.refl _ _) (Nat.le_refl _) 1 _
          have hst2 : RX (w9.setCell ⟨mb, 1, none⟩ (.slice va z.1.length vc)) q ts z.2 := hst.belowB hbS hqm
          have hms2 := hms.setI (owns_base hown (by omega))
          have hb2 := hb.trans (hbS.mono hram)
          clear hst hms hb hbS hxx HC hown
          go_wp2_with fail
          clear k0 z0
          generalize w9.setCell ⟨mb, 1, none⟩ (.slice va z.1.length vc) = w10 at *
          refine (rmust_s hst2 Tp.mSemi (by decide) _ rfl).mono ?_
          rintro e w11 ⟨rfl, hst3, hxx⟩
          have HMS3 := Lib.hid (hms2.ext hxx hqm)
          have HB3 := Lib.hid (below_ext hb2 hxx hq2 hs1)
          clear hst2 hms2 hb2 hxx
          go_wp2_with fail
          go_meet
          case rel => exact ⟨_, hst3, HMS3, HB3⟩
      case rest =>
        clear hst HMS HB
        rename_i wcA
        obtain ⟨wcB, hwcB⟩ : ∃ wcB, wcB = wcA := ⟨_, rfl⟩
        subst hwcB
        obtain ⟨iv, hst, HMS, HB⟩ := hcut
        clear HIS HTV
        go_upto_block 0 with fail
        go_cut [8] from 39 to 86 (fun v8 wc => ∃ gv : Value, RX wc q ts gs.2 ∧ Hid (MS wc mb a1 is.1 gs.1 [] iv gv (.slice none 0 0) []) ∧ Hid (Below (ra + 2) w1 wc))
        case first =>
          go_wp2_with fail
          go_loopg [8] g (fun k v8 wr => ∃ (gl : List G) (gv : Value) (s' : Sx), gl.length ≤ 10 ∧ RX wr q ts s' ∧ Hid (MS wr mb a1 is.1 gl [] iv gv (.slice none 0 0) []) ∧ Hid (Below (ra + 2) w1 wr) ∧ Hid (ngs k gl s' = some gs))
          case atStart => exact ⟨[], _, is.2, by simp, hst, HMS, HB, HGS⟩
          case round =>
            clear hst HMS HB HGS
            obtain ⟨gl, gv, s', hgl, hst, HMS, HB, HGS⟩ := hrel
            obtain ⟨k, rfl⟩ : ∃ k, gk = k + 1 := by
              cases gk with
              | zero => have := HGS.out; simp [ngs] at this
              | succ k => exact ⟨k, rfl⟩
            obtain ⟨⟨ga, gc, rfl⟩, _, ⟨ia, ic, rfl⟩⟩ := gv_slice HMS.out
            have hms := HMS.out
            have hb := HB.out
            clear HMS HB
            go_wp2_with fail
            refine (rtake_s hst Tp.wVar (by decide) _ rfl).mono ?_
            rintro e w12 ⟨rfl, hst2, hxx⟩
            replace hms := hms.ext hxx hqm
            replace hb := below_ext hb hxx hq2 hs1
            replace hst := hst2
            clear hst2 hxx
            cases htv : tk Tp.wVar s' with
            | false =>
              have hE : gs = (gl, s') := by
                have := HGS.out
                rw [ngs, if_neg (by rw [htv]; simp)] at this
                exact (Option.some.inj this).symm
              rw [tk_false htv] at hst
              have HE := Lib.hid hE
              have HMS := Lib.hid hms
              have HB := Lib.hid hb
              clear hE htv HGS hms hb
              go_wp2_with fail
              go_meet
              case rel => rw [HE.out]; exact ⟨_, hst, HMS, HB⟩
            | true =>
              obtain ⟨_, _, htS⟩ := tk_true htv
              rw [htS] at hst
              have hG2 : (if 10 ≤ gl.length then some (gl, fl 4 (stp s'.1, fine)) else ngs k (gl ++ [(ngl (stp s'.1, fine)).1]) (ngl (stp s'.1, fine)).2) = some gs := by
                have := HGS.out
                rw [ngs, if_pos htv, htS] at this
                exact this
              generalize stp s'.1 = r2 at *
              clear HGS htS htv
              have k2 : w12.cell? ⟨mb, 2, none⟩ = some (.slice ga gl.length gc) := cell_blk hms.blk
              have hml := lt_blk hms.blk
              by_cases h10 : 10 ≤ gl.length
              · rw [if_pos h10] at hG2
                have HE := Lib.hid (Option.some.inj hG2).symm
                have ht1 : (10 : Int) ≤ (gl.length : Int) := by omega
                clear hG2 h10
                go_wp2_with fail
                refine (rfails_s hst 4).mono ?_
                rintro e w13 ⟨rfl, hst2, hxx⟩
                have HMS := Lib.hid (hms.ext hxx hqm)
                have HB := Lib.hid (below_ext hb hxx hq2 hs1)
                clear hst hms hb hxx k2
                go_wp2_with fail
                go_meet
                case rel => rw [HE.out]; exact ⟨_, hst2, HMS, HB⟩
              · rw [if_neg h10] at hG2
                have HG2 := Lib.hid hG2
                have ht1 : ¬ (10 : Int) ≤ (gl.length : Int) := by omega
                clear hG2
                obtain ⟨ti, tn, tcc, d0, d2a, hn0⟩ := atCells (s := (r2, fine)) hst
                have d2 : w12.cell? ⟨q.tb, ti + 2, none⟩ = some (.int .i64 (at' r2 : Int)) := d2a
                clear d2a
                have htb := lt_of_cell d2
                have hpl := lt_of_cell hst.c0
                obtain ⟨pos, hpos⟩ : ∃ pos, pos = at' r2 := ⟨_, rfl⟩
                rw [← hpos] at d2
                have bA : Below w12.heap.size w12 (w12.alloc (.cells #[.string ⟨#[]⟩, .int .i64 (pos : Int), .int .i64 0, .bool false] 59)) := (Below.refl _ _).alloc (Nat.le_refl _) _
                have kA := new_blk w12 (.cells #[.string ⟨#[]⟩, .int .i64 (pos : Int), .int .i64 0, .bool false] 59)
                have hst0 : RX (w12.alloc (.cells #[.string ⟨#[]⟩, .int .i64 (pos : Int), .int .i64 0, .bool false] 59)) q ts (r2, fine) := hst.below bA
                have hx : Ext q.rb w12 (w12.alloc (.cells #[.string ⟨#[]⟩, .int .i64 (pos : Int), .int .i64 0, .bool false] 59)) := Ext.below bA
                have HPOS := Lib.hid hpos
                obtain ⟨gb, hgb⟩ : ∃ gb, gb = w12.heap.size := ⟨_, rfl⟩
                have HGB := Lib.hid hgb
                clear hst hpos bA
                go_wp2_with fail
                clear k2
                generalize w12.alloc (.cells #[.string ⟨#[]⟩, .int .i64 (pos : Int), .int .i64 0, .bool false] 59) = w13 at kA hst0 hx ⊢
                rw [← hgb] at kA ⊢
                have hgw : w12.heap.size ≤ gb := by omega
                have hqg : q.rb < gb := by omega
                clear hgb d0 d2 htb hn0
                have hk : w13.heap[gb]? = some (.cells #[.string ⟨#[]⟩, .int .i64 (pos : Int), .int .i64 0, .bool false] 59 (0, 0)) := kA
                clear kA
                refine (rname_s hst0).mono ?_
                rintro e w14 ⟨rfl, hst, hxx⟩
                replace hk := (hxx.block gb (lt_blk hk) (by omega)).trans hk
                replace hx := hx.trans hxx
                clear hst0 hxx
                generalize hnn : nm (r2, fine) = nn at *
                obtain ⟨a2, s3⟩ := nn
                have HNN := Lib.hid hnn
                clear hnn
                have hst : RX w14 q ts s3 := hst
                have c0 : w14.cell? ⟨gb, 0, none⟩ = some (.string ⟨#[]⟩) := cell_blk hk
                have z0 : w14.frozen? ⟨gb, 0, none⟩ = false := frozen_blk hk
                have hkl := lt_blk hk
                obtain ⟨hst2, hx2, hk2⟩ := fld (i := 0) (v := .string (bs a2)) hst hx hk hgw hpl
                have hk2 : (w14.setCell ⟨gb, 0, none⟩ (.string (bs a2))).heap[gb]? = some (.cells #[.string (bs a2), .int .i64 (pos : Int), .int .i64 0, .bool false] 59 (0, 0)) := hk2
                clear hst hx hk
                go_wp2_with fail
                clear c0 z0 hkl
                generalize w14.setCell ⟨gb, 0, none⟩ (.string (bs a2)) = w15 at *
                refine (rtake_s hst2 Tp.mStar (by decide) _ rfl).mono ?_
                rintro e w16 ⟨rfl, hst, hxx⟩
                have hk := (hxx.block gb (lt_blk hk2) (by omega)).trans hk2
                have hx := hx2.trans hxx
                clear hst2 hx2 hk2 hxx
                generalize htk : tk Tp.mStar s3 = bst at *
                have HBS := Lib.hid htk
                clear htk
                have c0 : w16.cell? ⟨gb, 3, none⟩ = some (.bool false) := cell_blk hk
                have z0 : w16.frozen? ⟨gb, 3, none⟩ = false := frozen_blk hk
                have hkl := lt_blk hk
                obtain ⟨hst2, hx2, hk2⟩ := fld (i := 3) (v := .bool bst) hst hx hk hgw hpl
                have hk2 : (w16.setCell ⟨gb, 3, none⟩ (.bool bst)).heap[gb]? = some (.cells #[.string (bs a2), .int .i64 (pos : Int), .int .i64 0, .bool bst] 59 (0, 0)) := hk2
                clear hst hx hk
                go_wp2_with fail
                clear c0 z0 hkl
                generalize w16.setCell ⟨gb, 3, none⟩ (.bool bst) = w17 at *
                refine (rmust_s hst2 Tp.mColon (by decide) _ rfl).mono ?_
                rintro e w18 ⟨rfl, hst, hxx⟩
                have hk := (hxx.block gb (lt_blk hk2) (by omega)).trans hk2
                have hx := hx2.trans hxx
                clear hst2 hx2 hk2 hxx
                have HNG : Hid (ngl (r2, fine) = if tk Tp.wArray (mu Tp.mColon (tkS Tp.mStar s3)) then (⟨a2, pos, (nu 30 (tkS Tp.wArray (mu Tp.mColon (tkS Tp.mStar s3)))).1, bst⟩, mu Tp.mSemi (if (nu 30 (tkS Tp.wArray (mu Tp.mColon (tkS Tp.mStar s3)))).2.2 = fine ∧ (nu 30 (tkS Tp.wArray (mu Tp.mColon (tkS Tp.mStar s3)))).1 = 0 then fl 2 (nu 30 (tkS Tp.wArray (mu Tp.mColon (tkS Tp.mStar s3)))).2 else (nu 30 (tkS Tp.wArray (mu Tp.mColon (tkS Tp.mStar s3)))).2)) else (⟨a2, pos, 0, bst⟩, mu Tp.mSemi (mu Tp.wInt (mu Tp.mColon (tkS Tp.mStar s3))))) := by
                  show _ = _
                  unfold ngl
                  rw [HNN.out, HPOS.out]
                  dsimp only
                  rw [HBS.out]
                generalize mu Tp.mColon (tkS Tp.mStar s3) = s4 at *
                clear HNN HPOS HBS
                go_wp2_with fail
                refine (rtake_s hst Tp.wArray (by decide) _ rfl).mono ?_
                rintro e w19 ⟨rfl, hst2, hxx⟩
                replace hk := (hxx.block gb (lt_blk hk) (by omega)).trans hk
                replace hx := hx.trans hxx
                clear hst hxx
                have hst := hst2
                clear hst2
                generalize hta : tk Tp.wArray s4 = tav at *
                have HTA := Lib.hid hta
                have HK := Lib.hid hk
                have HX := Lib.hid hx
                clear hta hk hx
                go_upto_if 64 with fail
                go_cut [] from 39 to 86 (fun wc => ∃ (len : Nat) (s5 : Sx), Hid (wc.heap[gb]? = some (.cells #[.string (bs a2), .int .i64 (pos : Int), .int .i64 (len : Int), .bool bst] 59 (0, 0))) ∧ RX wc q ts s5 ∧ Hid (Ext q.rb w12 wc) ∧ Hid (ngl (r2, fine) = (⟨a2, pos, len, bst⟩, mu Tp.mSemi s5)))
                case first =>
                  cases tav with
                  | false =>
                    rw [tk_false HTA.out] at hst
                    have HN2 : Hid (ngl (r2, fine) = (⟨a2, pos, 0, bst⟩, mu Tp.mSemi (mu Tp.wInt s4))) := by
                      have := HNG.out
                      rw [if_neg (by simp)] at this
                      exact this
                    have hk := HK.out
                    have hx := HX.out
                    clear HNG HTA HK HX
                    go_wp2_with fail
                    refine (rmust_s hst Tp.wInt (by decide) _ rfl).mono ?_
                    rintro e w20 ⟨rfl, hst2, hxx⟩
                    have HK := Lib.hid ((hxx.block gb (lt_blk hk) (by omega)).trans hk)
                    have HX := Lib.hid (hx.trans hxx)
                    clear hst hxx hk hx
                    go_wp2_with fail
                    go_meet
                    case rel => exact ⟨0, _, HK, hst2, HX, HN2⟩
                  | true =>
                    obtain ⟨_, _, htS⟩ := tk_true HTA.out
                    rw [htS] at hst
                    have HN2 : Hid (ngl (r2, fine) = (⟨a2, pos, (nu 30 (stp s4.1, fine)).1, bst⟩, mu Tp.mSemi (if (nu 30 (stp s4.1, fine)).2.2 = fine ∧ (nu 30 (stp s4.1, fine)).1 = 0 then fl 2 (nu 30 (stp s4.1, fine)).2 else (nu 30 (stp s4.1, fine)).2))) := by
                      have := HNG.out
                      rw [if_pos rfl, htS] at this
                      exact this
                    have HC := Lib.hid (rnumber_s (show RS w19 q ts (stp s4.1) fine from hst) 30 (by omega))
                    have hk := HK.out
                    have hx := HX.out
                    clear HNG HTA HK HX htS hst
                    generalize nu 30 (stp s4.1, fine) = ny at *
                    obtain ⟨len, ⟨r5, b5⟩⟩ := ny
                    go_wp2_with fail
                    refine HC.out.mono ?_
                    rintro e w20 ⟨rfl, hst, hxx⟩
                    replace hk := (hxx.block gb (lt_blk hk) (by omega)).trans hk
                    replace hx := hx.trans hxx
                    clear hxx HC
                    have hst : RX w20 q ts (r5, b5) := hst
                    have c0 : w20.cell? ⟨gb, 2, none⟩ = some (.int .i64 0) := cell_blk hk
                    have z0 : w20.frozen? ⟨gb, 2, none⟩ = false := frozen_blk hk
                    have hkl := lt_blk hk
                    obtain ⟨hst2, hx2, hk2⟩ := fld (i := 2) (v := .int .i64 (len : Int)) hst hx hk hgw hpl
                    have hk2 : (w20.setCell ⟨gb, 2, none⟩ (.int .i64 (len : Int))).heap[gb]? = some (.cells #[.string (bs a2), .int .i64 (pos : Int), .int .i64 (len : Int), .bool bst] 59 (0, 0)) := hk2
                    clear hst hx hk
                    go_wp2_with fail
                    clear c0 z0 hkl
                    generalize w20.setCell ⟨gb, 2, none⟩ (.int .i64 (len : Int)) = w21 at *
                    refine (rok_any (show RS w21 q ts r5 b5 from hst2)).mono ?_
                    rintro e w22 ⟨rfl, hbb⟩
                    have hst : RX w22 q ts (r5, b5) := hst2.below hbb
                    have hk := (hbb.block gb (lt_blk hk2)).trans hk2
                    have hx := hx2.trans (Ext.below hbb)
                    clear hst2 hk2 hx2 hbb
                    have c2 : w22.cell? ⟨gb, 2, none⟩ = some (.int .i64 (len : Int)) := cell_blk hk
                    have hkl := lt_blk hk
                    by_cases hf : b5 = fine
                    · rw [decide_eq_true hf]
                      by_cases hl0 : len = 0
                      · subst hl0
                        have HN3 : Hid (ngl (r2, fine) = (⟨a2, pos, 0, bst⟩, mu Tp.mSemi (fl 2 (r5, b5)))) := by
                          have := HN2.out
                          rw [if_pos ⟨hf, rfl⟩] at this
                          exact this
                        clear HN2 hf
                        go_wp2_with fail
                        refine (rfails_s hst 2).mono ?_
                        rintro e w23 ⟨rfl, hst2, hxx⟩
                        have HK := Lib.hid ((hxx.block gb (lt_blk hk) (by omega)).trans hk)
                        have HX := Lib.hid (hx.trans hxx)
                        clear hst hxx hk hx c2
                        go_wp2_with fail
                        go_meet
                        case rel => exact ⟨0, _, HK, hst2, HX, HN3⟩
                      · have HN3 : Hid (ngl (r2, fine) = (⟨a2, pos, len, bst⟩, mu Tp.mSemi (r5, b5))) := by
                          have := HN2.out
                          rw [if_neg (fun h => hl0 h.2)] at this
                          exact this
                        have hl1 : ((len : Int) == 0) = false := beq_eq_false_iff_ne.2 (by omega)
                        have HK := Lib.hid hk
                        have HX := Lib.hid hx
                        clear HN2 hf hl0 hk hx
                        go_wp2_with fail
                        clear c2
                        go_meet
                        case rel => exact ⟨len, _, HK, hst, HX, HN3⟩
                    · rw [decide_eq_false hf]
                      have HN3 : Hid (ngl (r2, fine) = (⟨a2, pos, len, bst⟩, mu Tp.mSemi (r5, b5))) := by
                        have := HN2.out
                        rw [if_neg (fun h => hf h.1)] at this
                        exact this
                      have HK := Lib.hid hk
                      have HX := Lib.hid hx
                      clear HN2 hf hk hx
                      go_wp2_with fail
                      clear c2
                      go_meet
                      case rel => exact ⟨len, _, HK, hst, HX, HN3⟩
                case rest =>
                  clear hst HK HX HNG HTA
                  rename_i wcC
                  obtain ⟨wcD, hwcD⟩ : ∃ wcD, wcD = wcC := ⟨_, rfl⟩
                  subst hwcD
                  obtain ⟨len, s5, HK, hst, HX, HNG⟩ := hcut
                  have hk := HK.out
                  have hx := HX.out
                  clear HK HX
                  go_wp2_with fail
                  refine (rmust_s hst Tp.mSemi (by decide) _ rfl).mono ?_
                  rintro e w20 ⟨rfl, hst2, hxx⟩
                  replace hk := (hxx.block gb (lt_blk hk) (by omega)).trans hk
                  replace hx := hx.trans hxx
                  replace hms := hms.ext hx hqm
                  replace hb := below_ext hb hx hq2 hs1
                  clear hst hxx hx
                  have HG3 : Hid (ngs k (gl ++ [(⟨a2, pos, len, bst⟩ : G)]) (mu Tp.mSemi s5) = some gs) := by
                    have := HG2.out
                    rw [HNG.out] at this
                    exact this
                  clear HG2 HNG
                  generalize mu Tp.mSemi s5 = s6 at *
                  have k2 : w20.cell? ⟨mb, 2, none⟩ = some (.slice ga gl.length gc) := cell_blk hms.blk
                  have c0 : w20.cell? ⟨gb, 0, none⟩ = some (.string (bs a2)) := cell_blk hk
                  have c1 : w20.cell? ⟨gb, 1, none⟩ = some (.int .i64 (pos : Int)) := cell_blk hk
                  have c2 : w20.cell? ⟨gb, 2, none⟩ = some (.int .i64 (len : Int)) := cell_blk hk
                  have c3 : w20.cell? ⟨gb, 3, none⟩ = some (.bool bst) := cell_blk hk
                  have hkl := lt_blk hk
                  have hml2 := lt_blk hms.blk
                  clear hk
                  go_wp2_with (at_builtin; refine wpList_append_where _ rfl _ _ 24 rfl (mb + 1) 59 i4 (.agg #[.string ⟨#[]⟩, .int .i64 0, .int .i64 0, .bool false]) 4 40 Tryz.underlying24 hi4 hz40 hz41 hz42 rfl (by decide) _ _ _ rfl (hms.gl.alloc _) ⟨w20.heap.size, 0, none⟩ 1 1 [.string (bs a2), .int .i64 (pos : Int), .int .i64 (len : Int), .bool bst] rfl rfl ?c1 ?c2 ?c3 ?c4 ?c5 ?_)
                  case c1 => exact news4 w20 _ _ _ _ _
                  case c2 => intro u hu; simp at hu; rcases hu with rfl | rfl | rfl | rfl <;> rfl
                  case c3 => unfold maxLen; omega
                  case c4 => omega
                  case c5 => simp; omega
                  · intro v' w21 hown21 hgrow21 hwhere21
                    obtain ⟨ua, uc, hvv⟩ := owns_shape hown21
                    subst hvv
                    have hal : Below w20.heap.size w20 (w20.alloc (.cells #[.string (bs a2), .int .i64 (pos : Int), .int .i64 (len : Int), .bool bst] 59)) := (Below.refl _ _).alloc (Nat.le_refl _) _
                    have b21 := hms.grewG hgrow21
                    have k21 : w21.cell? ⟨mb, 2, none⟩ = some (.slice ga gl.length gc) := cell_blk b21
                    have z21 : w21.frozen? ⟨mb, 2, none⟩ = false := frozen_blk b21
                    have hml21 := lt_blk b21
                    have hb21 : Below mb w20 w21 := ((Below.refl _ _).alloc (by omega) _).trans ((Below.refl _ _).grown hgrow21 (by simp; omega) (fun q hq => by have := owns_row hms.gl q hq; omega))
                    have hbS : Below mb w20 (w21.setCell ⟨mb, 2, none⟩ (.slice ua (gl.length + 1) uc)) := below_set hb21 (Nat.le_refl _) 2 _
                    have HMS3 := Lib.hid ((hms.below hal).addG (g := (⟨a2, pos, len, bst⟩ : G)) hown21 hgrow21 (by simpa using hwhere21))
                    have hst21 := hst2.belowB hbS hqm
                    have HB3 := Lib.hid (hb.trans (hbS.mono hram))
                    clear hms hb hown21 hgrow21 hwhere21 hal b21 hb21 hbS hst2 k2 c0 c1 c2 c3
                    go_wp2_with fail
                    clear k21 z21
                    go_roundg k
                    case measure => omega
                    case rel => exact ⟨gl ++ [(⟨a2, pos, len, bst⟩ : G)], _, s6, by simp; omega, hst21, HMS3, HB3, HG3⟩
        case rest =>
          clear hst HMS HB HGS
          rename_i wcE
          obtain ⟨wcF, hwcF⟩ : ∃ wcF, wcF = wcE := ⟨_, rfl⟩
          subst hwcF
          obtain ⟨gv, hst, HMS, HB⟩ := hcut
          obtain ⟨⟨ga, gc, rfl⟩, _, ⟨ia, ic, rfl⟩⟩ := gv_slice HMS.out
          go_upto_block 2 with fail
          go_cut [] from 87 to 101 (fun wc => ∃ (pa : Option Addr) (pn pc : Nat), RX wc q ts ps.2 ∧ Hid (wc.heap[mb]? = some (.cells (mcells (bs a1) (.slice ia is.1.length ic) (.slice ga gs.1.length gc) (.slice pa pn pc) (.slice none 0 0)) 28 (0, 0))) ∧ Hid (Below (ra + 2) w1 wc) ∧ Hid (ps.2.2 = fine → pn = ps.1.length ∧ ∃ pcs, MS wc mb a1 is.1 gs.1 ps.1 (.slice ia is.1.length ic) (.slice ga gs.1.length gc) (.slice pa pn pc) pcs))
          case first =>
            go_wp2_with fail
            go_loopg [] g (fun k wr => ∃ (pl : List Pr) (pa : Option Addr) (pn pc : Nat) (s' : Sx), pl.length ≤ 10 ∧ RX wr q ts s' ∧ Hid (wr.heap[mb]? = some (.cells (mcells (bs a1) (.slice ia is.1.length ic) (.slice ga gs.1.length gc) (.slice pa pn pc) (.slice none 0 0)) 28 (0, 0))) ∧ Hid (Below (ra + 2) w1 wr) ∧ Hid (s'.2 = fine → pn = pl.length ∧ ∃ pcs, MS wr mb a1 is.1 gs.1 pl (.slice ia is.1.length ic) (.slice ga gs.1.length gc) (.slice pa pn pc) pcs) ∧ Hid (nps k g pl s' = some ps))
            case atStart => exact ⟨[], none, 0, 0, gs.2, by simp, hst, HMS.out.blk, HB, (fun _ => ⟨rfl, [], HMS.out⟩), HPS⟩
            case round =>
              clear hst HMS HB HPS
              obtain ⟨pl, pa, pn, pc, s', hpl10, hst, HK, HB, HM, HPS⟩ := hrel
              obtain ⟨k, rfl⟩ : ∃ k, gk = k + 1 := by
                cases gk with
                | zero => have := HPS.out; simp [nps] at this
                | succ k => exact ⟨k, rfl⟩
              go_wp2_with fail
              refine (rsee_s hst Tp.wProc (by decide) _ rfl).mono ?_
              rintro e w12 ⟨rfl, hbb⟩
              have hst2 : RX w12 q ts s' := hst.below hbb
              have HK2 := Lib.hid ((hbb.block mb (lt_blk HK.out)).trans HK.out)
              have HB2 := Lib.hid (below_step HB.out hbb hs1)
              have HM2 : Hid (s'.2 = fine → pn = pl.length ∧ ∃ pcs, MS w12 mb a1 is.1 gs.1 pl (.slice ia is.1.length ic) (.slice ga gs.1.length gc) (.slice pa pn pc) pcs) := fun hf => ⟨(HM.out hf).1, (HM.out hf).2.imp fun _ h => h.below hbb⟩
              clear hst hbb HK HB HM
              cases htv : tk Tp.wProc s' with
              | false =>
                have hE : ps = (pl, s') := by
                  have := HPS.out
                  rw [nps, if_neg (of_decide_eq_false htv)] at this
                  exact (Option.some.inj this).symm
                have HE := Lib.hid hE
                clear hE htv HPS
                go_wp2_with fail
                go_meet
                case rel => rw [HE.out]; exact ⟨pa, pn, pc, hst2, HK2, HB2, HM2⟩
              | true =>
                obtain ⟨hf, htx, _⟩ := tk_true htv
                obtain ⟨rfl, pcs, hms⟩ := HM2.out hf
                have hG2 : (if 10 ≤ pl.length then some (pl, fl 4 s') else (npr g s').bind fun y => nps k g (pl ++ [y.1]) y.2) = some ps := by
                  have := HPS.out
                  rw [nps, if_pos ⟨hf, htx⟩] at this
                  exact this
                have hb := HB2.out
                have HF := Lib.hid hf
                clear HPS htv HK2 HB2 HM2 htx
                have k2 : w12.cell? ⟨mb, 3, none⟩ = some (.slice pa pl.length pc) := cell_blk hms.blk
                have z2 : w12.frozen? ⟨mb, 3, none⟩ = false := frozen_blk hms.blk
                have hml := lt_blk hms.blk
                by_cases h10 : 10 ≤ pl.length
                · rw [if_pos h10] at hG2
                  have HE := Lib.hid (Option.some.inj hG2).symm
                  have ht1 : (10 : Int) ≤ (pl.length : Int) := by omega
                  clear hG2 h10 hf
                  go_wp2_with fail
                  refine (rfails_s hst2 4).mono ?_
                  rintro e w13 ⟨rfl, hst3, hxx⟩
                  have HMS := Lib.hid (hms.ext hxx hqm)
                  have HB := Lib.hid (below_ext hb hxx hq2 hs1)
                  clear hst2 hms hb hxx k2 z2
                  go_wp2_with fail
                  go_meet
                  case rel => rw [HE.out]; exact ⟨pa, pl.length, pc, hst3, HMS.out.blk, HB, fun h => ⟨rfl, _, HMS.out⟩⟩
                · rw [if_neg h10] at hG2
                  obtain ⟨z, hz, hG3⟩ := bind_some' hG2
                  have HG3 := Lib.hid hG3
                  have ht1 : ¬ (10 : Int) ≤ (pl.length : Int) := by omega
                  obtain ⟨r2, b2⟩ := s'
                  have hf : b2 = fine := hf
                  subst hf
                  have HC := Lib.hid (rproc_lit (show RS w12.drew q ts r2 fine from hst2.below (below_drew w12)) hz)
                  have hmsd := hms.below (below_drew w12)
                  have hbd := below_step hb (below_drew w12) hs1
                  clear hG2 hG3 hz hst2 hms hb
                  go_wp2_with fail
                  go_region_law (first | (refine step_wanted rfl ?_; go_simp; go_at_call 20; refine HC.out.mono ?_; rintro e w9 ⟨name, pos, seen, qa, va, ba, qn, qc, vn, vc, bn, bc, rfl, HV9, hst9, hx9⟩; have hms9 := hmsd.ext hx9 hqm; have hb9 := below_ext hbd hx9 hq2 hs1; have k9 : w9.cell? ⟨mb, 3, none⟩ = some (.slice pa pl.length pc) := cell_blk hms9.blk; have z9 : w9.frozen? ⟨mb, 3, none⟩ = false := frozen_blk hms9.blk; have hl9 : mb < w9.heap.size := lt_blk hms9.blk; have k9a : ∀ ob, (w9.alloc ob).cell? ⟨mb, 3, none⟩ = some (.slice pa pl.length pc) := fun ob => cell_alloc k9 ob) | (refine step_append_where rfl (.tmp 96) (.tmp 99) 25 rfl (mb + 1) 62 i6 (.agg #[.string ⟨#[]⟩, .int .i64 0, .bool false, .slice none 0 0, .slice none 0 0, .slice none 0 0]) 6 104 Tryz.underlying25 hi6 hz60 hz61 hz62 rfl (by decide) (.slice pa pl.length pc) pl.length pcs (by simp [Act.eval]) (hms9.pl.alloc _) ⟨w9.heap.size, 0, none⟩ 1 1 [.string name, .int .i64 pos, .bool seen, .slice qa qn qc, .slice va vn vc, .slice ba bn bc] (by simp [Act.eval]) rfl (news6 w9 _ _ _ _ _ _ _) (by intro u hu; simp at hu; rcases hu with rfl | rfl | rfl | rfl | rfl | rfl <;> rfl) (by unfold maxLen; omega) (by omega) (by have := lt_blk hms9.blk; simp; omega) ?_; intro v' w10 hown10 hgrow10 hwhere10; have b10 := hms9.grewP hgrow10; have k10 : w10.cell? ⟨mb, 3, none⟩ = some (.slice pa pl.length pc) := cell_blk b10; have z10 : w10.frozen? ⟨mb, 3, none⟩ = false := frozen_blk b10; obtain ⟨ua, uc, hvv⟩ := owns_shape hown10; subst hvv))
                  all_goals
                    have hal : Below w9.heap.size w9 (w9.alloc (.cells #[.string name, .int .i64 pos, .bool seen, .slice qa qn qc, .slice va vn vc, .slice ba bn bc] 62)) := (Below.refl _ _).alloc (Nat.le_refl _) _
                    have hb10 : Below mb w9 w10 := ((Below.refl _ _).alloc (by omega) _).trans ((Below.refl _ _).grown hgrow10 (by simp; omega) (fun q hq => by have := owns_row hms9.pl q hq; omega))
                    have hbS : Below mb w9 (w10.setCell ⟨mb, 3, none⟩ (.slice ua (pl.length + 1) uc)) := below_set hb10 (Nat.le_refl _) 3 _
                    have HK10 : Hid ((w10.setCell ⟨mb, 3, none⟩ (.slice ua (pl.length + 1) uc)).heap[mb]? = some (.cells (mcells (bs a1) (.slice ia is.1.length ic) (.slice ga gs.1.length gc) (.slice ua (pl.length + 1) uc) (.slice none 0 0)) 28 (0, 0))) := set_blk 3 (.slice ua (pl.length + 1) uc) b10
                    have HM10 : Hid (z.2.2 = fine → pl.length + 1 = (pl ++ [z.1]).length ∧ ∃ pcs', MS (w10.setCell ⟨mb, 3, none⟩ (.slice ua (pl.length + 1) uc)) mb a1 is.1 gs.1 (pl ++ [z.1]) (.slice ia is.1.length ic) (.slice ga gs.1.length gc) (.slice ua (pl.length + 1) uc) pcs') := fun hf => by
                      refine ⟨by simp, _, (hms9.below hal).addP (c := z.1) (RepP.mono (fun b hb hl => ⟨hal.block b hl, hb⟩) _ _ (MS.newPr hmsd (HV9 hf))) hown10 hgrow10 (by simpa using hwhere10)⟩
                    have hst10 := hst9.belowB hbS hqm
                    have HB10 := Lib.hid (hb9.trans (hbS.mono hram))
                    clear hgrow10 hwhere10 hown10 hms9 hst9 hb9 hmsd hbd b10 k10 z10 k9 z9 k2 z2 hb10 hbS hal k9a HV9 HC
                    go_wp2_with fail
                    go_roundg k
                    case rel => exact ⟨pl ++ [z.1], ua, pl.length + 1, uc, z.2, by simp; omega, hst10, HK10, HB10, HM10, HG3⟩
                    all_goals omega
          case rest =>
            clear hst HMS HB HPS
            rename_i wcG
            obtain ⟨wcH, hwcH⟩ : ∃ wcH, wcH = wcG := ⟨_, rfl⟩
            subst hwcH
            obtain ⟨pa, pn, pc, hst, HK, HB, HM⟩ := hcut
            go_wp2_with fail
            refine (rmust_s hst Tp.wBegin (by decide) _ rfl).mono ?_
            rintro e w30 ⟨rfl, hst2, hxx⟩
            have HK2 := Lib.hid ((hxx.block mb (lt_blk HK.out) (by omega)).trans HK.out)
            have HB2 := Lib.hid (below_ext HB.out hxx hq2 hs1)
            have HM2 : Hid ((mu Tp.wBegin ps.2).2 = fine → pn = ps.1.length ∧ ∃ pcs, MS w30 mb a1 is.1 gs.1 ps.1 (.slice ia is.1.length ic) (.slice ga gs.1.length gc) (.slice pa pn pc) pcs) := fun hf => ⟨(HM.out (mu_fine hf)).1, (HM.out (mu_fine hf)).2.imp fun _ h => h.ext hxx hqm⟩
            clear hst HK HB HM hxx
            generalize mu Tp.wBegin ps.2 = s10 at *
            obtain ⟨r10, b10⟩ := s10
            have hst : RS w30 q ts r10 b10 := hst2
            clear hst2
            go_wp2_with fail
            refine (rok_any hst).mono ?_
            rintro e w31 ⟨rfl, hbb⟩
            have hst2 : RS w31 q ts r10 b10 := hst.below hbb
            have HK := Lib.hid ((hbb.block mb (lt_blk HK2.out)).trans HK2.out)
            have HB := Lib.hid (below_step HB2.out hbb hs1)
            have HM : Hid (b10 = fine → pn = ps.1.length ∧ ∃ pcs, MS w31 mb a1 is.1 gs.1 ps.1 (.slice ia is.1.length ic) (.slice ga gs.1.length gc) (.slice pa pn pc) pcs) := fun hf => ⟨(HM2.out hf).1, (HM2.out hf).2.imp fun _ h => h.below hbb⟩
            clear hst hbb HK2 HB2 HM2
            generalize hdb2 : decide (b10 = fine) = db2 at *
            have HDB2 := Lib.hid hdb2
            clear hdb2
            go_upto_if 105 with fail
            go_cut [] from 106 (fun wc => ∃ (ba : Option Addr) (bn bc : Nat), Hid (wc.heap[mb]? = some (.cells (mcells (bs a1) (.slice ia is.1.length ic) (.slice ga gs.1.length gc) (.slice pa pn pc) (.slice ba bn bc)) 28 (0, 0))) ∧ RX wc q ts b.2 ∧ Hid (Below (ra + 2) w1 wc) ∧ Hid (b.2.2 = fine → pn = ps.1.length ∧ bn = b.1.length ∧ ∃ pcs, MK wc mb is.1 gs.1 ps.1 (.slice ia is.1.length ic) (.slice ga gs.1.length gc) (.slice pa pn pc) pcs ∧ VO (mb + 1) b.1 (.slice ba bn bc) wc))
            case first =>
              cases db2 with
              | false =>
                have hnf : ¬ b10 = fine := of_decide_eq_false HDB2.out
                have hbe : b = ([], (r10, b10)) := by
                  have := HBD.out
                  unfold nbody at this
                  rw [if_neg hnf] at this
                  exact (Option.some.inj this).symm
                subst hbe
                have HNF := Lib.hid hnf
                clear HBD HDB2 hnf HM
                go_wp2_with fail
                go_meet
                case rel => exact ⟨none, 0, 0, HK, hst2, HB, fun hf => absurd hf HNF.out⟩
              | true =>
                have hf : b10 = fine := of_decide_eq_true HDB2.out
                subst hf
                have hz : nsx g 0 0 0 [] (r10, fine) = some b := by
                  have := HBD.out
                  unfold nbody at this
                  rw [if_pos rfl] at this
                  exact this
                have HC := Lib.hid ((stmts_allR q ts g).1 w31 r10 0 b hst2 (by omega) hz)
                have hk := HK.out
                have hb := HB.out
                obtain ⟨hpn, pcs, hms⟩ := HM.out rfl
                have HPN := Lib.hid hpn
                have hml31 := lt_blk hk
                clear hz HK HB HBD HDB2 hst2 HM hpn
                go_wp2_with fail
                refine HC.out.mono ?_
                rintro e wd ⟨ba, bn, bc, rfl, hl2, hst3, hxx⟩
                replace hk := (hxx.block mb (lt_blk hk) (by omega)).trans hk
                replace hb := below_ext hb hxx hq2 hs1
                replace hms := hms.ext hxx hqm
                have c5 : wd.cell? ⟨mb, 4, none⟩ = some (.slice none 0 0) := cell_blk hk
                have z5 : wd.frozen? ⟨mb, 4, none⟩ = false := frozen_blk hk
                have hml := lt_blk hk
                have hbS : Below mb wd (wd.setCell ⟨mb, 4, none⟩ (.slice ba bn bc)) := below_set (Below.refl _ _) (Nat.le_refl _) 4 _
                have hxS : Ext mb wd (wd.setCell ⟨mb, 4, none⟩ (.slice ba bn bc)) := (Ext.refl _ _).set 4 _
                have hst4 := hst3.belowB hbS hqm
                have HK4 : Hid ((wd.setCell ⟨mb, 4, none⟩ (.slice ba bn bc)).heap[mb]? = some (.cells (mcells (bs a1) (.slice ia is.1.length ic) (.slice ga gs.1.length gc) (.slice pa pn pc) (.slice ba bn bc)) 28 (0, 0))) := set_blk 4 (.slice ba bn bc) hk
                have HB4 := Lib.hid (hb.trans (hbS.mono hram))
                have HM4 : Hid (b.2.2 = fine → pn = ps.1.length ∧ bn = b.1.length ∧ ∃ pcs, MK (wd.setCell ⟨mb, 4, none⟩ (.slice ba bn bc)) mb is.1 gs.1 ps.1 (.slice ia is.1.length ic) (.slice ga gs.1.length gc) (.slice pa pn pc) pcs ∧ VO (mb + 1) b.1 (.slice ba bn bc) (wd.setCell ⟨mb, 4, none⟩ (.slice ba bn bc))) := fun hf => by
                  have h1 := VL.ext (b := mb) hxS (show mb < mb + 1 by omega) ((hl2 hf).base (show mb + 1 ≤ w31.heap.size by omega))
                  obtain ⟨_, _, e⟩ := h1.shape
                  cases e
                  exact ⟨HPN.out, rfl, pcs, hms.keep.ext hxS (Nat.le_refl _), h1.vo⟩
                clear hst3 hb hk hl2 hxx HC hms hbS hxS
                go_wp2_with fail
                clear c5 z5
                go_meet
                case rel => exact ⟨ba, bn, bc, HK4, hst4, HB4, HM4⟩
            case rest =>
              clear hst2 HK HB HM HBD HDB2
              rename_i wcI
              obtain ⟨wcJ, hwcJ⟩ : ∃ wcJ, wcJ = wcI := ⟨_, rfl⟩
              subst hwcJ
              obtain ⟨ba, bn, bc, HK, hst, HB, HM⟩ := hcut
              go_wp2_with fail
              refine (rmust_s hst Tp.wEnd (by decide) _ rfl).mono ?_
              rintro e w32 ⟨rfl, hst2, hxx⟩
              have HK2 := Lib.hid ((hxx.block mb (lt_blk HK.out) (by omega)).trans HK.out)
              have HB2 := Lib.hid (below_ext HB.out hxx hq2 hs1)
              have HM2 : Hid ((mu Tp.wEnd b.2).2 = fine → pn = ps.1.length ∧ bn = b.1.length ∧ ∃ pcs, MK w32 mb is.1 gs.1 ps.1 (.slice ia is.1.length ic) (.slice ga gs.1.length gc) (.slice pa pn pc) pcs ∧ VO (mb + 1) b.1 (.slice ba bn bc) w32) := fun hf => ⟨(HM.out (mu_fine hf)).1, (HM.out (mu_fine hf)).2.1, (HM.out (mu_fine hf)).2.2.imp fun _ h => ⟨h.1.ext hxx (by omega), VO.ext hxx (by omega) h.2⟩⟩
              clear hst HK HB HM hxx
              generalize mu Tp.wEnd b.2 = s11 at *
              go_wp2_with fail
              refine (rmust_s hst2 Tp.mDot (by decide) _ rfl).mono ?_
              rintro e w33 ⟨rfl, hst, hxx⟩
              have HK := Lib.hid ((hxx.block mb (lt_blk HK2.out) (by omega)).trans HK2.out)
              have HB := Lib.hid (below_ext HB2.out hxx hq2 hs1)
              have HM : Hid ((mu Tp.mDot s11).2 = fine → pn = ps.1.length ∧ bn = b.1.length ∧ ∃ pcs, MK w33 mb is.1 gs.1 ps.1 (.slice ia is.1.length ic) (.slice ga gs.1.length gc) (.slice pa pn pc) pcs ∧ VO (mb + 1) b.1 (.slice ba bn bc) w33) := fun hf => ⟨(HM2.out (mu_fine hf)).1, (HM2.out (mu_fine hf)).2.1, (HM2.out (mu_fine hf)).2.2.imp fun _ h => ⟨h.1.ext hxx (by omega), VO.ext hxx (by omega) h.2⟩⟩
              clear hst2 HK2 HB2 HM2 hxx
              generalize mu Tp.mDot s11 = s12 at *
              have hst : RX w33 q ts s12 := hst
              obtain ⟨h1, h2, h3, h4⟩ := hst.hd
              have htl := (hst.tl _ (List.mem_of_getElem? h1)).2.2
              obtain ⟨ti, hti⟩ : ∃ ti, ti = (ts.length - s12.1.length) * 3 := ⟨_, rfl⟩
              obtain ⟨tn, htn⟩ : ∃ tn, tn = s12.1.length := ⟨_, rfl⟩
              obtain ⟨tcc, htcc⟩ : ∃ tcc, tcc = q.cap - (ts.length - s12.1.length) := ⟨_, rfl⟩
              have d0 : w33.cell? ⟨q.rb, 0, none⟩ = some (.slice (some ⟨q.tb, ti, none⟩) tn tcc) := by rw [hti, htn, htcc]; exact hst.c0
              have dk : w33.cell? ⟨q.tb, ti, none⟩ = some (.int .i64 (kd (hd s12.1))) := by rw [hti]; exact (hst.toks _ _ h1).c0
              have hn0 : (0 : Int) < tn := by omega
              have hrl := lt_of_cell d0
              have htb := lt_of_cell dk
              have hkd : (kd (hd s12.1) != 4) = decide ((hd s12.1).kind ≠ 0) := by
                unfold kd
                by_cases hk0 : (hd s12.1).kind = 0
                · simp [hk0]
                · simp [hk0]; omega
              have HKD := Lib.hid hkd
              generalize kd (hd s12.1) = kk at *
              clear hti htn htcc h1 h2 h3 h4 htl hkd
              have HEND : Hid (nend s12 = if (hd s12.1).kind ≠ 0 then fl 3 s12 else s12) := rfl
              generalize nend s12 = s13 at *
              go_upto_if 120 with fail
              go_cut [] from 120 (fun wc => RX wc q ts s13 ∧ Hid (wc.heap[mb]? = some (.cells (mcells (bs a1) (.slice ia is.1.length ic) (.slice ga gs.1.length gc) (.slice pa pn pc) (.slice ba bn bc)) 28 (0, 0))) ∧ Hid (Below (ra + 2) w1 wc) ∧ Hid (s13.2 = fine → pn = ps.1.length ∧ bn = b.1.length ∧ ∃ pcs, MK wc mb is.1 gs.1 ps.1 (.slice ia is.1.length ic) (.slice ga gs.1.length gc) (.slice pa pn pc) pcs ∧ VO (mb + 1) b.1 (.slice ba bn bc) wc))
              case first =>
                cases hkk : (kk != 4) with
                | true =>
                  have HS13 : Hid (s13 = fl 3 s12) := by
                    have h0 := HKD.out
                    rw [hkk] at h0
                    have := HEND.out
                    rw [if_pos (of_decide_eq_true h0.symm)] at this
                    exact this
                  clear hkk HKD HEND d0 dk
                  go_wp2_with fail
                  refine (rfails_s hst 3).mono ?_
                  rintro e w34 ⟨rfl, hst2, hxx⟩
                  have HK2 := Lib.hid ((hxx.block mb (lt_blk HK.out) (by omega)).trans HK.out)
                  have HB2 := Lib.hid (below_ext HB.out hxx hq2 hs1)
                  have HM2 : Hid (s13.2 = fine → pn = ps.1.length ∧ bn = b.1.length ∧ ∃ pcs, MK w34 mb is.1 gs.1 ps.1 (.slice ia is.1.length ic) (.slice ga gs.1.length gc) (.slice pa pn pc) pcs ∧ VO (mb + 1) b.1 (.slice ba bn bc) w34) := fun hf => by
                    have hf2 : s12.2 = fine := by
                      rw [HS13.out] at hf
                      unfold fl at hf
                      by_cases h : s12.2 = fine
                      · exact h
                      · dsimp only at hf
                        rw [if_neg h] at hf
                        exact hf
                    exact ⟨(HM.out hf2).1, (HM.out hf2).2.1, (HM.out hf2).2.2.imp fun _ h => ⟨h.1.ext hxx (by omega), VO.ext hxx (by omega) h.2⟩⟩
                  rw [← HS13.out] at hst2
                  clear hst hxx HK HB HM
                  go_wp2_with fail
                  go_meet
                  case rel => exact ⟨hst2, HK2, HB2, HM2⟩
                | false =>
                  have hS13 : s13 = s12 := by
                    have h0 := HKD.out
                    rw [hkk] at h0
                    have := HEND.out
                    rw [if_neg (of_decide_eq_false h0.symm)] at this
                    exact this
                  subst hS13
                  clear hkk HKD HEND d0 dk
                  go_wp2_with fail
                  go_meet
                  case rel => exact ⟨hst, HK, HB, HM⟩
              case rest =>
                clear hst HK HB HM HKD HEND d0 dk hn0 hrl htb
                obtain ⟨wcL, hwcL⟩ : ∃ wcL, wcL = wc := ⟨_, rfl⟩
                subst hwcL
                obtain ⟨hst, HK, HB, HM⟩ := hcut
                obtain ⟨r13, b13⟩ := s13
                have hst : RS wcL q ts r13 b13 := hst
                go_wp2_with fail
                refine (rok_any hst).mono ?_
                rintro e w35 ⟨rfl, hbb⟩
                have hst2 : RS w35 q ts r13 b13 := hst.below hbb
                have hk := (hbb.block mb (lt_blk HK.out)).trans HK.out
                have hb := below_step HB.out hbb hs1
                have HM2 : Hid (b13 = fine → pn = ps.1.length ∧ bn = b.1.length ∧ ∃ pcs, MK w35 mb is.1 gs.1 ps.1 (.slice ia is.1.length ic) (.slice ga gs.1.length gc) (.slice pa pn pc) pcs ∧ VO (mb + 1) b.1 (.slice ba bn bc) w35) := fun hf => ⟨(HM.out hf).1, (HM.out hf).2.1, (HM.out hf).2.2.imp fun _ h => ⟨h.1.mono fun b _ h2 => hbb.block b h2, VO.ext (Ext.below (b := q.rb) hbb) (by omega) h.2⟩⟩
                clear hst HK HB HM hbb
                obtain ⟨e1, e2⟩ := HFB.out _ hb
                have hl1 := lt_blk e1
                have hl2 := lt_blk e2
                have s0 : w35.cell? ⟨ra, 0, none⟩ = some (.string ⟨#[]⟩) := cell_blk e1
                have s1' : w35.cell? ⟨ra, 1, none⟩ = some (.slice none 0 0) := cell_blk e1
                have s2' : w35.cell? ⟨ra, 2, none⟩ = some (.slice none 0 0) := cell_blk e1
                have s3' : w35.cell? ⟨ra, 3, none⟩ = some (.slice none 0 0) := cell_blk e1
                have s4' : w35.cell? ⟨ra, 4, none⟩ = some (.slice none 0 0) := cell_blk e1
                have t0' : w35.cell? ⟨ra + 1, 0, none⟩ = some (.int .i64 0) := cell_blk e2
                have t1' : w35.cell? ⟨ra + 1, 1, none⟩ = some (.int .i64 0) := cell_blk e2
                have hz1 : ∀ i, w35.frozen? ⟨ra, i, none⟩ = false := fun i => frozen_blk e1
                have hz2 : ∀ i, w35.frozen? ⟨ra + 1, i, none⟩ = false := fun i => frozen_blk e2
                have hrl := lt_of_cell hst2.c0
                by_cases hf : b13 = fine
                · rw [decide_eq_true hf]
                  obtain ⟨hpn, hbn, pcs, hmk, hvo⟩ := HM2.out hf
                  subst hpn hbn
                  have hP : Tp.parse l = .ok ⟨a1, is.1, gs.1, ps.1, b.1⟩ := by
                    have h0 := HNP.out
                    rw [HY.out] at h0
                    unfold NP at h0
                    split at h0
                    · rename_i m hm
                      rw [hm, ← h0.1]
                    · rename_i er her
                      exact absurd (h0.symm.trans hf) (Nr.flt_ne er)
                  obtain ⟨wY, hwY⟩ : ∃ wY, wY = (retW w35 ra (.string (bs a1)) (.slice ia is.1.length ic) (.slice ga gs.1.length gc) (.slice pa ps.1.length pc) (.slice ba b.1.length bc) (.int .i64 0) (.int .i64 (-1))).drew := ⟨_, rfl⟩
                  obtain ⟨y1, y2, y3, y4, y5⟩ := retW_facts e1 e2 (.string (bs a1)) (.slice ia is.1.length ic) (.slice ga gs.1.length gc) (.slice pa ps.1.length pc) (.slice ba b.1.length bc) (.int .i64 0) (.int .i64 (-1))
                  have hYb : Below ra w35 wY := by rw [hwY]; exact y1.drew
                  have hY1 : wY.heap[ra]? = some (.cells #[.string (bs a1), .slice ia is.1.length ic, .slice ga gs.1.length gc, .slice pa ps.1.length pc, .slice ba b.1.length bc] 28 (0, 0)) := by rw [hwY]; exact (drewH _ _).trans y2
                  have hY2 : wY.heap[ra + 1]? = some (.cells #[.int .i64 0, .int .i64 (-1)] 31 (0, 0)) := by rw [hwY]; exact (drewH _ _).trans y3
                  have hYk : ∀ k, mb < k → wY.heap[k]? = w35.heap[k]? := fun k hk => by rw [hwY]; exact (drewH _ _).trans (y5 k (by omega) (by omega))
                  have hVM : VM ra ⟨a1, is.1, gs.1, ps.1, b.1⟩ (.agg #[.string (bs a1), .slice ia is.1.length ic, .slice ga gs.1.length gc, .slice pa ps.1.length pc, .slice ba b.1.length bc]) wY := by
                    have h1 : MK wY mb is.1 gs.1 ps.1 (.slice ia is.1.length ic) (.slice ga gs.1.length gc) (.slice pa ps.1.length pc) pcs := hmk.mono fun k hk _ => hYk k hk
                    have h2 : VO (mb + 1) b.1 (.slice ba b.1.length bc) wY := by
                      obtain ⟨cs, c1, c2⟩ := hvo
                      exact ⟨cs, c1.mono' (fun k hk _ => ⟨hYk k (by omega), hk⟩), c2.mono (fun k hk _ => ⟨hYk k (by omega), hk⟩)⟩
                    exact h1.done (by omega) h2
                  have HF := Lib.hid (HFIN.out w35 wY _ _ hb hYb hP hVM)
                  have u0 : wY.cell? ⟨ra, 0, none⟩ = some (.string (bs a1)) := cell_blk hY1
                  have u1 : wY.cell? ⟨ra, 1, none⟩ = some (.slice ia is.1.length ic) := cell_blk hY1
                  have u2 : wY.cell? ⟨ra, 2, none⟩ = some (.slice ga gs.1.length gc) := cell_blk hY1
                  have u3 : wY.cell? ⟨ra, 3, none⟩ = some (.slice pa ps.1.length pc) := cell_blk hY1
                  have u4 : wY.cell? ⟨ra, 4, none⟩ = some (.slice ba b.1.length bc) := cell_blk hY1
                  have u5 : wY.cell? ⟨ra + 1, 0, none⟩ = some (.int .i64 0) := cell_blk hY2
                  have u6 : wY.cell? ⟨ra + 1, 1, none⟩ = some (.int .i64 (-1)) := cell_blk hY2
                  have HU := Lib.hid (And.intro u0 (And.intro u1 (And.intro u2 (And.intro u3 (And.intro u4 (And.intro u5 u6))))))
                  have HWY := Lib.hid hwY
                  have m0' : w35.cell? ⟨mb, 0, none⟩ = some (.string (bs a1)) := cell_blk hk
                  have m1' : w35.cell? ⟨mb, 1, none⟩ = some (.slice ia is.1.length ic) := cell_blk hk
                  have m2' : w35.cell? ⟨mb, 2, none⟩ = some (.slice ga gs.1.length gc) := cell_blk hk
                  have m3' : w35.cell? ⟨mb, 3, none⟩ = some (.slice pa ps.1.length pc) := cell_blk hk
                  have m4' : w35.cell? ⟨mb, 4, none⟩ = some (.slice ba b.1.length bc) := cell_blk hk
                  have hml := lt_blk hk
                  have hfn : ¬ 0 = ra := by omega
                  have hfn2 : ¬ ra = 0 := by omega
                  have g0 := hst2.gl.f0
                  have g1 := hst2.gl.f1
                  have hgl0 := lt_of_cell g0
                  clear hk hb e1 e2 hf hP hmk hvo y1 y2 y3 y4 y5 hYb hY1 hY2 hYk hVM u0 u1 u2 u3 u4 u5 u6 hwY hst2 HM2 HNP HY HFB HERR HFIN
                  go_wp2_with fail
                  go_region
                  have e := HWY.out
                  unfold retW at e
                  rw [← e]
                  obtain ⟨u0, u1, u2, u3, u4, u5, u6⟩ := HU.out
                  clear e HWY s0 s1' s2' s3' s4' t0' t1' hz1 hz2 m0' m1' m2' m3' m4'
                  go_wp2_with fail
                  exact bodyPost_ret (v := .tuple #[.agg #[.string (bs a1), .slice ia is.1.length ic, .slice ga gs.1.length gc, .slice pa ps.1.length pc, .slice ba b.1.length bc], .agg #[.int .i64 0, .int .i64 (-1)]]) (by simp [results, Tryz.results4, go_sem, u0, u1, u2, u3, u4, u5, u6]) rfl HF.out
                · rw [decide_eq_false hf]
                  obtain ⟨er, hP, hbe⟩ : ∃ er, Tp.parse l = .error er ∧ b13 = flt er := by
                    have h0 := HNP.out
                    rw [HY.out] at h0
                    unfold NP at h0
                    split at h0
                    · exact absurd h0.2 hf
                    · rename_i er her
                      exact ⟨er, her, h0⟩
                  subst hbe
                  obtain ⟨er1, er2⟩ := er
                  obtain ⟨wY, hwY⟩ : ∃ wY, wY = (retW w35 ra (.string ⟨#[]⟩) (.slice none 0 0) (.slice none 0 0) (.slice none 0 0) (.slice none 0 0) (.int .i64 (er1 : Int)) (.int .i64 (er2 : Int))).drew := ⟨_, rfl⟩
                  obtain ⟨y1, y2, y3, y4, y5⟩ := retW_facts e1 e2 (.string ⟨#[]⟩) (.slice none 0 0) (.slice none 0 0) (.slice none 0 0) (.slice none 0 0) (.int .i64 (er1 : Int)) (.int .i64 (er2 : Int))
                  have hYb : Below ra w35 wY := by rw [hwY]; exact y1.drew
                  have hY1 : wY.heap[ra]? = some (.cells #[.string ⟨#[]⟩, .slice none 0 0, .slice none 0 0, .slice none 0 0, .slice none 0 0] 28 (0, 0)) := by rw [hwY]; exact (drewH _ _).trans y2
                  have hY2 : wY.heap[ra + 1]? = some (.cells #[.int .i64 (er1 : Int), .int .i64 (er2 : Int)] 31 (0, 0)) := by rw [hwY]; exact (drewH _ _).trans y3
                  have HF := Lib.hid (HERR.out w35 wY (er1, er2) hb hYb hP)
                  have u0 : wY.cell? ⟨ra, 0, none⟩ = some (.string ⟨#[]⟩) := cell_blk hY1
                  have u1 : wY.cell? ⟨ra, 1, none⟩ = some (.slice none 0 0) := cell_blk hY1
                  have u2 : wY.cell? ⟨ra, 2, none⟩ = some (.slice none 0 0) := cell_blk hY1
                  have u3 : wY.cell? ⟨ra, 3, none⟩ = some (.slice none 0 0) := cell_blk hY1
                  have u4 : wY.cell? ⟨ra, 4, none⟩ = some (.slice none 0 0) := cell_blk hY1
                  have u5 : wY.cell? ⟨ra + 1, 0, none⟩ = some (.int .i64 (er1 : Int)) := cell_blk hY2
                  have u6 : wY.cell? ⟨ra + 1, 1, none⟩ = some (.int .i64 (er2 : Int)) := cell_blk hY2
                  have HU := Lib.hid (And.intro u0 (And.intro u1 (And.intro u2 (And.intro u3 (And.intro u4 (And.intro u5 u6))))))
                  have HWY := Lib.hid hwY
                  have q1 : w35.cell? ⟨q.rb, 1, none⟩ = some (.int .i64 (er1 : Int)) := hst2.c1
                  have q2 : w35.cell? ⟨q.rb, 2, none⟩ = some (.int .i64 (er2 : Int)) := hst2.c2
                  clear hk hb e1 e2 hf hP y1 y2 y3 y4 y5 hYb hY1 hY2 u0 u1 u2 u3 u4 u5 u6 hwY hst2 HM2 HNP HY HFB HERR HFIN
                  go_wp2_with fail
                  go_region
                  have e := HWY.out
                  unfold retW at e
                  rw [← e]
                  obtain ⟨u0, u1, u2, u3, u4, u5, u6⟩ := HU.out
                  clear e HWY s0 s1' s2' s3' s4' t0' t1' hz1 hz2 q1 q2
                  go_wp2_with fail
                  exact bodyPost_ret (v := .tuple #[.agg m0, .agg #[.int .i64 (er1 : Int), .int .i64 (er2 : Int)]]) (by simp [results, Tryz.results4, go_sem, u0, u1, u2, u3, u4, u5, u6, m0]) rfl HF.out
end Go.Proofs.YtfcdphgggdioeaaGreatDoor
