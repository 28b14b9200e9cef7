import Derived.Test.YtiolfelekiopdaaGreatDoorKMP
/- CheckTurns, walked. -/
namespace Go.Proofs.YtiolfelekiopdaaGreatDoor
open Go.RowKit
open Tp (Bs Sy Seen G Pr)

theorem seen_more {Sn : Seen} {nm : Bs} {l : List Sy} (h : Sn nm = none) : ∀ k, Sn k ≠ none → (fun k => if k = nm then some l else Sn k) k = Sn k := by
  intro k hk
  have : k ≠ nm := fun e => hk (by rw [e]; exact h)
  simp [this]
set_option maxRecDepth 100000 in
set_option maxHeartbeats 4000000 in
theorem turns_post {w : World} {B : Nat} (hv : VarsC B w) (hB : B ≤ w.heap.size) (s nm : Bs) {ns : List Bs} {na : Option Addr} {nc : Nat} (hns : StrsAt w ns na) :
    Calls Tryz.prog 3 #[.string (bs s), .slice na ns.length nc, .string (bs nm)] w fun e w' => e = .returned (.bool true) ∧ Below w.heap.size w w' := by
  have hss : ((bs s).size : Int) = (s.length : Int) := by rw [bs_size]
  have hsn : ((bs nm).size : Int) = (nm.length : Int) := by rw [bs_size]
  have HSH := Lib.hid (short_post (nc := nc) hns)
  have HNS := Lib.hid hns
  have HV := Lib.hid hv
  clear hns hv
  by_cases h1 : s.length ≤ 1000
  rotate_left
  · have h1' : (s.length : Int) > 1000 := by omega
    clear HSH HNS HV
    generalize ns.length = nn at *
    go_enter Tryz.func3, Tryz.ntmps3
    go_wp2_with fail
    go_ret
    exact ⟨rfl, Below.refl _ _⟩
  have h1' : ¬ (s.length : Int) > 1000 := by omega
  obtain ⟨nn, hnq⟩ : ∃ nn, nn = ns.length := ⟨_, rfl⟩
  rw [← hnq] at HSH ⊢
  have HNQ := Lib.hid hnq
  clear hnq
  go_enter Tryz.func3, Tryz.ntmps3
  go_wp2_with fail
  refine HSH.out.mono ?_
  rintro e w' ⟨hq, rfl⟩
  rcases hq with rfl | ⟨rfl, hn5, hn9⟩
  · clear HSH HNS HV
    go_wp2_with fail
    go_ret
    exact ⟨rfl, Below.refl _ _⟩
  have HN5 := Lib.hid hn5
  have HN9 := Lib.hid hn9
  clear HSH hn5 hn9
  by_cases h2 : nm.length ≤ 40
  rotate_left
  · have h2' : (nm.length : Int) > 40 := by omega
    clear HNS HV
    go_wp2_with fail
    go_ret
    exact ⟨rfl, Below.refl _ _⟩
  have h2' : ¬ (nm.length : Int) > 40 := by omega
  have HCK := Lib.hid (checked_post HV.out hB)
  go_wp2_with fail
  refine HCK.out.mono ?_
  rintro e w1 ⟨rfl, hb1⟩
  have hv1 := HV.out.on' hB hb1
  have HPP := Lib.hid (parse_post w1 s (by omega) hv1.mks hv1.lv)
  have HB1 := Lib.hid hb1
  have hsz1 := hb1.size
  clear hb1 hv1 HCK
  go_wp2_with fail
  refine HPP.out.mono ?_
  rintro e w2 ⟨hb2, hq⟩
  unfold ParseP at hq
  have HB2 : Hid (Below w'.heap.size w' w2) := HB1.out.trans (hb2.mono hsz1)
  have hsz2 := HB2.out.size
  cases hps : Tp.parse s with
  | error er =>
    rw [hps] at hq
    obtain ⟨ab, rfl, _, _, _⟩ := hq
    unfold m0
    have HBA : Hid (∀ ob, Below w'.heap.size w' (w2.alloc ob)) := fun ob => HB2.out.alloc hsz2 _
    clear hb2 hps HPP
    go_wp2_with fail
    go_ret
    exact ⟨rfl, HBA.out _⟩
  | ok m =>
  rw [hps] at hq
  obtain ⟨v, rfl, hvm⟩ := hq
  obtain ⟨ia, ga, pa, ba, ic, gc, pc, bc, rfl, hmb⟩ := hvm.mb
  have hwm := (Tp.parse_wm hps).1
  have HSML := Lib.hid hwm.sml
  have hgc := hwm.gc
  have hpc := hwm.pc
  obtain ⟨w3, hw3⟩ : ∃ w3, w3 = w2.alloc (.cells (mcells (bs m.name) (.slice ia m.imports.length ic) (.slice ga m.vars.length gc) (.slice pa m.procs.length pc) (.slice ba m.body.length bc)) 29) := ⟨_, rfl⟩
  have hb3 : Below w2.heap.size w2 w3 := by rw [hw3]; exact (Below.refl _ _).alloc (Nat.le_refl _) _
  have hk3 : w3.heap[w2.heap.size]? = some (.cells (mcells (bs m.name) (.slice ia m.imports.length ic) (.slice ga m.vars.length gc) (.slice pa m.procs.length pc) (.slice ba m.body.length bc)) 29 (0, 0)) := by rw [hw3]; exact new_blk _ _
  have hs3 : w2.heap.size < w3.heap.size := lt_blk hk3
  have HMB3 := Lib.hid (hmb.up hb3)
  have HB3 : Hid (Below w'.heap.size w' w3) := HB2.out.trans (hb3.mono hsz2)
  have hsz3 := HB3.out.size
  have hns3 : StrsAt w3 ns na := HNS.out.on HB3.out
  have HSY := Lib.hid (syms_post (nc := nc) (HV.out.on' hB HB3.out) (by omega) hns3 (by rw [← HNQ.out]; exact HN5.out) HN9.out)
  have HK3 : Hid (∀ W, Below w3.heap.size w3 W → W.heap[w2.heap.size]? = some (.cells #[.string (bs m.name), .slice ia m.imports.length ic, .slice ga m.vars.length gc, .slice pa m.procs.length pc, .slice ba m.body.length bc] 29 (0, 0))) := fun W hW => (hW.block _ hs3).trans hk3
  rw [← HNQ.out] at HSY
  -- Check, of m, in a later world
  have HCM : Hid (∀ W sv Sn, Below w3.heap.size w3 W → SeenV W sv Sn → Calls Tryz.prog 9 #[.agg #[.string (bs m.name), .slice ia m.imports.length ic, .slice ga m.vars.length gc, .slice pa m.procs.length pc, .slice ba m.body.length bc], sv] W (CheckP W (Tp.check m Sn))) := by
    intro W sv Sn hW hS
    exact check_post HSML.out (HMB3.out.up hW) hS
  clear hvm hmb hb2 hb3 hk3 hps HPP hwm hns3
  simp only [mcells] at hw3 ⊢
  go_upto_region 6 with fail
  rw [← hw3]
  clear hw3
  go_wp2_with fail
  refine HSY.out.mono ?_
  rintro e w4 ⟨sb, rfl, hsbl, ⟨sk, hsk, hsm⟩, hb4⟩
  have HB4 := Lib.hid hb4
  have hsz4 := hb4.size
  have HSM4 := Lib.hid hsm
  have HC1 := Lib.hid (HCM.out w4 (.map (some sb)) (seenOf ns) hb4 (Or.inr ⟨sb, sk, rfl, hsm⟩))
  obtain ⟨k0, k1, k2, k3, k4⟩ := cell_box5' (HK3.out w4 hb4)
  have hs4 : w2.heap.size < w4.heap.size := by omega
  clear hb4 hsm HSY HNS
  go_wp2_with fail
  refine HC1.out.mono ?_
  intro e w5 hq
  obtain ⟨hb5, hq⟩ := hq
  have HB5 : Hid (Below w3.heap.size w3 w5) := HB4.out.trans (hb5.mono hsz4)
  have hsz5 := HB5.out.size
  have HB5' : Hid (Below w'.heap.size w' w5) := HB3.out.trans (HB5.out.mono hsz3)
  have HSM5 := Lib.hid (HSM4.out.on hb5)
  have hsz45 := hb5.size
  cases hck : Tp.check m (seenOf ns) with
  | some er =>
    rw [hck] at hq
    obtain ⟨en, pl⟩ := er
    clear hck hb5 HC1 HSM4 k0 k1 k2 k3 k4
    cases pl with
    | none =>
      simp only at hq
      subst hq
      go_wp2_with fail
      go_ret
      exact ⟨rfl, HB5'.out⟩
    | some pl =>
      obtain ⟨ab, rfl, _, _, _⟩ := hq
      go_wp2_with fail
      go_ret
      exact ⟨rfl, HB5'.out⟩
  | none =>
    rw [hck] at hq
    simp only at hq
    subst hq
    have HCK := Lib.hid hck
    obtain ⟨j0, j1, j2, j3, j4⟩ := cell_box5' (HK3.out w5 HB5.out)
    have hs5 : w2.heap.size < w5.heap.size := by omega
    have HMB5 := Lib.hid (HMB3.out.up HB5.out)
    obtain ⟨w6, hw6⟩ : ∃ w6, w6 = w5.alloc (.cells #[.string (bs m.name), .slice ia m.imports.length ic, .slice ga m.vars.length gc, .slice pa m.procs.length pc, .slice ba m.body.length bc] 29) := ⟨_, rfl⟩
    have hb6 : Below w5.heap.size w5 w6 := by rw [hw6]; exact (Below.refl _ _).alloc (Nat.le_refl _) _
    have hk6 : w6.heap[w5.heap.size]? = some (.cells #[.string (bs m.name), .slice ia m.imports.length ic, .slice ga m.vars.length gc, .slice pa m.procs.length pc, .slice ba m.body.length bc] 29 (0, 0)) := by rw [hw6]; exact new_blk _ _
    have hs6 : w6.heap.size = w5.heap.size + 1 := by rw [hw6]; simp
    obtain ⟨pcs, hrp, hrw⟩ := HMB5.out.pr
    have hkd : ∀ b, b < w5.heap.size → b < w5.heap.size → w6.drew.heap[b]? = w5.heap[b]? ∧ b < w5.heap.size := fun b hi _ => ⟨hb6.block b hi, hi⟩
    have HCP := Lib.hid (cloneP (hrw.mono hkd) (repp_len _ _ hrp) (pcs_one hrp) (by omega))
    have HRP := Lib.hid hrp
    have HGL := Lib.hid HMB5.out.gl
    have HB6 := Lib.hid hb6
    have HK6 := Lib.hid hk6
    have HS6 : Hid (∀ W, Below w6.heap.size w6 W → W.cell? ⟨w2.heap.size, 2, none⟩ = some (.slice ga m.vars.length gc) ∧ W.cell? ⟨w2.heap.size, 3, none⟩ = some (.slice pa m.procs.length pc)) := by
      intro W hW
      have := cell_box5' (HK3.out W (HB5.out.trans (hb6.trans (hW.mono (by omega)) |>.mono hsz5)))
      exact ⟨this.2.2.1, this.2.2.2.1⟩
    clear hck hb5 HC1 HSM4 k0 k1 k2 k3 k4 hrp hrw hb6 hk6 hkd
    go_upto_region 12 with fail
    rw [← hw6]
    clear hw6
    go_cut [] (fun wc => ∃ pv gv, Tn w5 wc m ia ba ic bc pv gv pcs)
    case first =>
      go_region_held3 (fun W => W.cell? ⟨w2.heap.size, 2, none⟩ = some (.slice ga m.vars.length gc) ∧ W.cell? ⟨w2.heap.size, 3, none⟩ = some (.slice pa m.procs.length pc)) (first | exact HS6.out _ ((Below.refl _ _).drew) | exact HS6.out _ HB7.out | exact HS6.out _ HB8.out | exact HSX1.out _ | exact HSX2.out _ _ | fail "KEEP") (first | (go_at_call 10; refine HCP.out.mono ?_; rintro e w7 ⟨pv, rfl, hb7, ho7⟩; obtain ⟨a7, c7, hpv⟩ := owns_shape ho7; subst hpv; have HB7 : Hid (Below w6.heap.size w6 w7) := ((Below.refl _ _).drew).trans hb7; have HO7 := Lib.hid ho7; have HCG := Lib.hid (cloneG (HGL.out.mono (w' := w7) (D' := fun b => b < w5.heap.size) (fun b hb _ => ⟨(HB6.out.trans (HB7.out.mono (by omega))).block b hb, hb⟩)) (gcs_len _) (gcs_one _) (by omega)); clear hb7 ho7) | (go_at_call 11; refine HCG.out.mono ?_; rintro e w8 ⟨gv, rfl, hb8, ho8⟩; obtain ⟨a8, c8, hgv⟩ := owns_shape ho8; subst hgv; have HB8 : Hid (Below w6.heap.size w6 w8) := HB7.out.trans (hb8.mono HB7.out.size); have HO8 := Lib.hid ho8; have HB78 := Lib.hid hb8; have e8 : w8.heap[w5.heap.size]? = some (.cells #[.string (bs m.name), .slice ia m.imports.length ic, .slice ga m.vars.length gc, .slice pa m.procs.length pc, .slice ba m.body.length bc] 29 (0, 0)) := (HB8.out.block _ (by omega)).trans HK6.out; have n2 : w8.cell? ⟨w5.heap.size, 2, none⟩ = some (.slice ga m.vars.length gc) := (cell_blk e8).trans rfl; have n3 : w8.cell? ⟨w5.heap.size, 3, none⟩ = some (.slice pa m.procs.length pc) := (cell_blk e8).trans rfl; have z2 : w8.frozen? ⟨w5.heap.size, 2, none⟩ = false := frozen_blk e8; have z3 : w8.frozen? ⟨w5.heap.size, 3, none⟩ = false := frozen_blk e8; have HSX1 : Hid (∀ u, (w8.setCell ⟨w5.heap.size, 3, none⟩ u).cell? ⟨w2.heap.size, 2, none⟩ = some (.slice ga m.vars.length gc) ∧ (w8.setCell ⟨w5.heap.size, 3, none⟩ u).cell? ⟨w2.heap.size, 3, none⟩ = some (.slice pa m.procs.length pc)) := fun u => ⟨by rw [World.cell?_setCell_far _ _ _ _ (by simp; omega)]; exact (HS6.out _ HB8.out).1, by rw [World.cell?_setCell_far _ _ _ _ (by simp; omega)]; exact (HS6.out _ HB8.out).2⟩; have HSX2 : Hid (∀ u v, ((w8.setCell ⟨w5.heap.size, 3, none⟩ u).setCell ⟨w5.heap.size, 2, none⟩ v).cell? ⟨w2.heap.size, 2, none⟩ = some (.slice ga m.vars.length gc) ∧ ((w8.setCell ⟨w5.heap.size, 3, none⟩ u).setCell ⟨w5.heap.size, 2, none⟩ v).cell? ⟨w2.heap.size, 3, none⟩ = some (.slice pa m.procs.length pc)) := fun u v => ⟨by rw [World.cell?_setCell_far _ _ _ _ (by simp; omega)]; exact (HSX1.out _).1, by rw [World.cell?_setCell_far _ _ _ _ (by simp; omega)]; exact (HSX1.out _).2⟩; clear hb8 ho8 e8))
      go_wp2_with fail
      go_meet
      case rel => exact ⟨_, _, Tn.mk' hs6 HB6.out HK6.out HB7.out HO7.out HB78.out HO8.out (Or.inl rfl)⟩
    case rest =>
      obtain ⟨pv, gv, htn⟩ := hcut
      have HTN := Lib.hid htn
      obtain ⟨pa', pc', hpv⟩ := owns_shape htn.p
      obtain ⟨ga', gc', hgv⟩ := owns_shape htn.g
      obtain ⟨n0, n1, n2, n3, n4⟩ := cell_box5' htn.k
      have hnl : w5.heap.size < wc.heap.size := lt_blk htn.k
      have hkc : ∀ b, b < w5.heap.size → b < w5.heap.size → wc.heap[b]? = w5.heap[b]? ∧ b < w5.heap.size := fun b hi _ => ⟨htn.b.block b hi, hi⟩
      have HRV := Lib.hid (revP_own (D := fun b => b < w5.heap.size) htn.p (HRP.out.mono hkc _ _) (fun b hb => by omega) (by omega))
      clear htn hkc j0 j1 j2 j3 j4
      subst hpv hgv
      go_wp2_with fail
      refine HRV.out.mono ?_
      rintro e w10 ⟨rfl, hb10, hx10, pcs', hrow10, hrep10⟩
      have HB10 := Lib.hid hb10
      have HX10 := Lib.hid hx10
      have HRW10 := Lib.hid hrow10
      have HRE10 := Lib.hid hrep10
      have e10 := (hb10.block w5.heap.size (by omega)).trans HTN.out.k
      obtain ⟨o0, o1, o2, o3, o4⟩ := cell_box5' e10
      have hnl10 : w5.heap.size < w10.heap.size := lt_blk e10
      have hg10 : w10.ownsRow (w5.heap.size + 1) 42 4 (.slice ga' m.vars.length gc') m.vars.length (gcs m.vars) := owns_keep HTN.out.g (fun b h1 h2 h3 => hx10 b h2 (fun e => HTN.out.ne b e h3))
      have HRG := Lib.hid (revG_own hg10 (by omega))
      clear hb10 hx10 hrow10 hrep10 e10 hg10 n0 n1 n2 n3 n4 HRV
      go_wp2_with fail
      refine HRG.out.mono ?_
      rintro e w11 ⟨rfl, hb11, hx11, hrow11⟩
      obtain ⟨ga2, gc2, pa2, pc2, q1, q2, hmbt⟩ := mb_turned HMB5.out HTN.out HB10.out HX10.out HRW10.out HRE10.out hb11 hx11 hrow11
      cases q1
      cases q2
      have e11 := (hb11.block w5.heap.size (by omega)).trans ((HB10.out.block w5.heap.size (by omega)).trans HTN.out.k)
      obtain ⟨p0, p1, p2, p3, p4⟩ := cell_box5' e11
      have hnl11 : w5.heap.size < w11.heap.size := lt_blk e11
      have HB11 : Hid (Below w5.heap.size w5 w11) := HTN.out.b.trans ((HB10.out.mono (by omega)).trans (hb11.mono (by omega)))
      have hsm11 := HSM5.out.on HB11.out
      have hcn := check_post HSML.out.turned hmbt (Or.inr ⟨sb, sk, rfl, hsm11⟩)
      rw [Tp.check_turned HCK.out] at hcn
      have HCN : Hid (Calls Tryz.prog 9 #[.agg #[.string (bs m.name), .slice ia m.imports.length ic, .slice ga' m.vars.length gc', .slice pa' m.procs.length pc', .slice ba m.body.length bc], .map (some sb)] w11 (CheckP w11 none)) := by
        have e1 : (Tp.turned m).vars.length = m.vars.length := by simp [Tp.turned]
        have e2 : (Tp.turned m).procs.length = m.procs.length := by simp [Tp.turned]
        rw [e1, e2] at hcn
        exact hcn
      have HSM11 := Lib.hid hsm11
      clear hb11 hx11 hrow11 hmbt e11 hsm11 hcn o0 o1 o2 o3 o4 HRG
      go_wp2_with fail
      refine HCN.out.mono ?_
      rintro e w12 ⟨hb12, rfl⟩
      have HB12 : Hid (Below w5.heap.size w5 w12) := HB11.out.trans (hb12.mono HB11.out.size)
      have HB12' : Hid (Below w3.heap.size w3 w12) := HB5.out.trans (HB12.out.mono hsz5)
      have hsz12 := HB12'.out.size
      have HSM12 := Lib.hid (HSM11.out.on hb12)
      obtain ⟨v12, hlook, ⟨a12, n12, d12, hv12⟩, _, _⟩ := HSM12.out.look nm (by omega) true
      subst hv12
      clear hb12 HCN p0 p1 p2 p3 p4
      have HBW : Hid (Below w'.heap.size w' w12) := HB3.out.trans (HB12'.out.mono hsz3)
      cases hsn : seenOf ns nm with
      | some ll =>
        rw [hsn] at hlook
        simp only [Option.isSome_some, if_true] at hlook
        have HC2 := Lib.hid (HCM.out w12 (.map (some sb)) (seenOf ns) HB12'.out (Or.inr ⟨sb, sk, rfl, HSM12.out⟩))
        rw [HCK.out] at HC2
        obtain ⟨p0, p1, p2, p3, p4⟩ := cell_box5' (HK3.out w12 HB12'.out)
        have hl12 : w2.heap.size < w12.heap.size := by omega
        clear hsn
        go_wp2_with fail
        refine HC2.out.mono ?_
        rintro e w14 ⟨hb14, rfl⟩
        have HB14 : Hid (Below w'.heap.size w' w14) := HBW.out.trans (hb14.mono HBW.out.size)
        clear hb14 HC2
        go_wp2_with fail
        go_ret
        exact ⟨rfl, HB14.out⟩
      | none =>
        rw [hsn] at hlook
        simp only [Option.isSome_none, if_true] at hlook
        have HMORE := Lib.hid (Tp.check_more HCK.out (seen_more (l := [([120], 0, 2)]) hsn))
        clear hsn
        obtain ⟨w13, hw13⟩ : ∃ w13, w13 = w12.alloc (.cells #[.string ⟨#[120]⟩, .int .i64 0, .int .i64 2] 48) := ⟨_, rfl⟩
        have hb13 : Below w12.heap.size w12 w13 := by rw [hw13]; exact (Below.refl _ _).alloc (Nat.le_refl _) _
        have hsl13 : SL w13 0 (.slice (some ⟨w12.heap.size, 0, none⟩) 1 1) [([120], 0, 2)] := Or.inr ⟨w12.heap.size, 1, rfl, Nat.zero_le _, ⟨⟨#[.string ⟨#[120]⟩, .int .i64 0, .int .i64 2], by rw [hw13]; exact new_blk _ _, rfl, rfl⟩, Nat.le_refl _, by unfold maxLen; omega⟩⟩
        have HSM13 := Lib.hid (HSM12.out.on hb13)
        have HSL13 := Lib.hid hsl13
        have HB13 := Lib.hid hb13
        have hsz13 := hb13.size
        clear hb13 hsl13
        go_upto_region 19 with fail
        go_wp2_with (at_mapUpdate; rw [← hw13]; refine wpList_mapUpdate_s _ rfl _ _ _ rfl sb sk (seenOf ns) HSM13.out (by omega) nm (by omega) (.slice (some ⟨w12.heap.size, 0, none⟩) 1 1) [([120], 0, 2)] HSL13.out (by simp) rfl rfl rfl ?_; intro w15 r1 r2 r3; have HB15 : Hid (Below w3.heap.size w3 w15) := (HB12'.out.trans (HB13.out.mono hsz12)).trans (ext_below r2 hsbl (by omega)); have HC2 := Lib.hid (HCM.out w15 (.map (some sb)) _ HB15.out (Or.inr ⟨sb, sk + 1, rfl, r1⟩)); rw [HMORE.out] at HC2; obtain ⟨p0, p1, p2, p3, p4⟩ := cell_box5' (HK3.out w15 HB15.out); have hl15 : w2.heap.size < w15.heap.size := (by omega); have HBW15 : Hid (Below w'.heap.size w' w15) := HB3.out.trans (HB15.out.mono hsz3); clear r1 r2 r3)
        refine HC2.out.mono ?_
        rintro e w14 ⟨hb14, rfl⟩
        have HB14 : Hid (Below w'.heap.size w' w14) := HBW15.out.trans (hb14.mono HBW15.out.size)
        clear hb14 HC2
        go_wp2_with fail
        go_ret
        exact ⟨rfl, HB14.out⟩
end Go.Proofs.YtiolfelekiopdaaGreatDoor
