import Derived.Test.YtibncofnnlbmcaaGreatDoorKQd
import Derived.Defers
import Derived.Recover
/- Chapter 4: a procedure is called: call. -/
namespace Go.Proofs.YtibncofnnlbmcaaGreatDoor
open Go.RowKit Go.Maps
open Tp (Bs X S G Pr Pt Rs Rr Own)

theorem Row.str {w : World} {D : Nat → Prop} {v : Value} {ns : List Bs} (h : Row w D 9 1 v ns.length (strs ns)) : ∃ a c, v = .slice a ns.length c ∧ ∀ i (hi : i < ns.length), ∃ b, a = some ⟨b, 0, none⟩ ∧ D b ∧ w.cell? ⟨b, i, none⟩ = some (.string (bs ns[i])) := by
  obtain ⟨a, c, rfl⟩ := h.shape
  refine ⟨a, c, rfl, fun i hi => ?_⟩
  obtain ⟨g, cap, q1, q2, q3, q4⟩ := row_cell h (by omega)
  cases q1
  refine ⟨g, rfl, q2, ?_⟩
  rw [q4 i (by omega)]
  simp [strs, hi]
theorem callP_eq (g k : Nat) (m : Bs) (p : Pr) (vs : List Int) (s : Rs) : Tp.callP (g + 1) k m p vs s = if 30 ≤ k then .stop Tp.deep s else (match Tp.goS g (k + 1) m (Tp.ownFor p vs) p.body s with
    | .ok r s' => .ok (r.2.getD 0) s'
    | .stop way s' => .stop way s'
    | .gas => .gas) := by
  rw [Tp.callP]
  by_cases h : 30 ≤ k
  · rw [if_pos h, if_pos h]; rfl
  · rw [if_neg h, if_neg h]
    unfold Tp.Ru.bind
    cases Tp.goS g (k + 1) m (Tp.ownFor p vs) p.body s <;> rfl
set_option maxRecDepth 100000 in
set_option maxHeartbeats 4000000 in
theorem call_all {c : Cx} {g : Nat} (ok : CxOk c) (hB : BodyC c g) : CallC c (g + 1) := by
  intro k lo nm p vs w s aa ac hlo hp hvl hvi h hargs hn
  rw [callP_eq] at hn ⊢
  obtain ⟨res, hres⟩ : ∃ res, res = (if 30 ≤ k then .stop Tp.deep s else (match Tp.goS g (k + 1) lo.m.name (Tp.ownFor p vs) p.body s with
    | .ok r s' => .ok (r.2.getD 0) s'
    | .stop way s' => .stop way s'
    | .gas => .gas) : Rr Int) := ⟨_, rfl⟩
  rw [← hres] at hn ⊢
  have hgl := h.lt
  have hpm : p ∈ lo.m.procs := List.mem_of_find?_eq_some hp
  have hfit := (ok.lo lo hlo).fit
  have hwp := hfit.wm.p p hpm
  have hnd := hfit.on p hpm
  have HPR := Lib.hid (rproc h ok hlo nm)
  have HH := Lib.hid h
  have HOK := Lib.hid ok
  have HARG := Lib.hid hargs
  have HFITB : Hid (∀ r ∈ Tp.rs p.body, Tp.FitR c.ms lo.m (Tp.ownOf p) r) := hfit.pr p hpm
  have HWP := Lib.hid hwp
  have HND := Lib.hid hnd
  have HVI := Lib.hid hvi
  have HLO := Lib.hid hlo
  have HP : Hid (Tp.procIn lo.m nm = some p) := hp
  obtain ⟨ov, hblk, _⟩ := h.blk
  have HKB := Lib.hid hblk
  have hkl := h.kl
  have HPL : Hid (vs.length = p.params.length) := hvl
  have hpc : p.params.length + p.vars.length ≤ 10 := hwp.c
  have hmm := @run_makeMap Tryz.prog
  clear h ok hargs hfit hwp hnd hvi hlo hp hpm
  by_cases hk : 30 ≤ k
  · have hk30 : k = 30 := by omega
    subst hk30
    rw [if_pos (Nat.le_refl _)] at hres
    have HR : Hid (∀ W e, Below w.heap.size w W → thrE endT (Tp.deep : Int) e → EvP c 30 w s res e W) := fun W e hW he => by rw [hres]; exact ⟨he, ⟨30, HH.out.below HOK.out hW⟩, Kp.below hW HH.out.lt⟩
    have hk2 : w.cell? ⟨c.gb, 2, none⟩ = some (.int .i64 30) := (cell_blk hblk).trans rfl
    clear hres hn hblk
    generalize vs.length = vn at *
    go_enter Tryz.func56, Tryz.ntmps56
    go_wp2_with fail
    refine HPR.out.mono ?_
    rintro e w1 ⟨v, rfl, _, hb1⟩
    have k2 := (hb1.cell (p := ⟨c.gb, 2, none⟩) hgl).trans hk2
    have hgl1 : c.gb < w1.heap.size := Nat.lt_of_lt_of_le hgl hb1.size
    have HB1 := Lib.hid hb1
    clear hb1
    go_wp2_with fail
    exact ⟨rfl, HR.out _ _ HB1.out ⟨noP, rfl⟩⟩
  · rw [if_neg hk] at hres
    have hk2 : w.cell? ⟨c.gb, 2, none⟩ = some (.int .i64 (k : Int)) := (cell_blk hblk).trans rfl
    have hkk : ¬ (k : Int) = 30 := by omega
    have HRES : Hid (res = _) := hres
    have HN := Lib.hid hn
    clear hres hn hblk
    have hvpn : vs.length = p.params.length := HPL.out
    generalize hvn : vs.length = vn at *
    go_enter Tryz.func56, Tryz.ntmps56
    go_wp2_with fail
    refine HPR.out.mono ?_
    rintro e w1 ⟨v, rfl, hpp, hb1⟩
    unfold ProcP at hpp
    rw [HP.out] at hpp
    obtain ⟨pb, o, rfl, hpat⟩ := hpp
    obtain ⟨pv, vv, bv, bcs, r3, r4, r5, rw3, rw4, rs5, ro5⟩ := hpat.r
    have hg1 := HH.out.below HOK.out hb1
    have k2 := (hb1.cell (p := ⟨c.gb, 2, none⟩) hgl).trans hk2
    have hgl1 : c.gb < w1.heap.size := Nat.lt_of_lt_of_le hgl hb1.size
    obtain ⟨p3a, p3c, rfl, hp3⟩ := rw3.str
    obtain ⟨p4a, p4c, rfl, hp4⟩ := rw4.str
    have c3 := hg1.cell0 hpat.d r3
    have hpbl := lt_of_cell c3
    obtain ⟨w2, hw2⟩ : ∃ w2, w2 = w1.alloc (.map #[] 0) := ⟨_, rfl⟩
    have hb12 : Below w1.heap.size w1 w2 := by rw [hw2]; exact (Below.refl _ _).alloc (Nat.le_refl _) _
    have hm2 : MapV w2 w1.heap.size 0 (ownF ((ownAll p vs).take 0)) := by rw [hw2]; exact MapV.made w1
    have hs2 : w1.heap.size < w2.heap.size := by rw [hw2]; simp
    have c3' := (hb12.cell (p := ⟨pb, o + 3, none⟩) hpbl).trans c3
    have hpbl2 : pb < w2.heap.size := by omega
    have hvp : vs.length = p.params.length := by rw [hvn]; exact HPL.out
    obtain ⟨pn, hpn⟩ : ∃ pn, pn = p.params.length := ⟨_, rfl⟩
    obtain ⟨qn, hqn⟩ : ∃ qn, qn = p.vars.length := ⟨_, rfl⟩
    have HP3 : Hid (∀ i, i < pn → ∃ b x u ab ao, p3a = some ⟨b, 0, none⟩ ∧ b < w1.heap.size ∧ w1.cell? ⟨b, i, none⟩ = some (.string (bs x)) ∧ (ownAll p vs)[i]? = some (x, u) ∧ x.length ≤ 1000000 ∧ aa = some ⟨ab, ao, none⟩ ∧ ab < w1.heap.size ∧ w1.cell? ⟨ab, ao + i, none⟩ = some (.int .i64 u)) := by
      intro i hi
      rw [hpn] at hi
      obtain ⟨b, e1, e2, e3⟩ := hp3 i hi
      obtain ⟨ab, ao, a1, a2, a3⟩ := (HARG.out.on hb1).c i (by omega)
      have e4 := hg1.cell0 e2 e3
      exact ⟨b, _, _, ab, ao, e1, lt_of_cell e4, e4, ownAll_par hvp hi, okn_1000 (HWP.out.ps _ (List.getElem_mem hi)), a1, a2, a3⟩
    have HP4 : Hid (∀ i, i < qn → ∃ b x, p4a = some ⟨b, 0, none⟩ ∧ b < w1.heap.size ∧ w1.cell? ⟨b, i, none⟩ = some (.string (bs x)) ∧ (ownAll p vs)[pn + i]? = some (x, 0) ∧ x.length ≤ 1000000) := by
      intro i hi
      rw [hqn] at hi
      obtain ⟨b, e1, e2, e3⟩ := hp4 i hi
      have e4 := hg1.cell0 e2 e3
      rw [hpn]
      exact ⟨b, _, e1, lt_of_cell e4, e4, ownAll_var hvp hi, okn_1000 (HWP.out.vs _ (List.getElem_mem hi))⟩
    have HTK : Hid (∀ j n v, (ownAll p vs)[j]? = some (n, v) → updV (ownF ((ownAll p vs).take j)) n (.int .i64 v) = ownF ((ownAll p vs).take (j + 1))) := fun j n v hj => ownAll_take hvp HND.out j n v hj
    have HALL : Hid (ownF ((ownAll p vs).take (pn + qn)) = fun q => (Tp.ownFor p vs q).map fun v => .int .i64 v) := by
      show _ = _
      rw [List.take_of_length_le (by rw [ownAll_len hvp]; omega)]
      unfold ownF
      rw [ownAll_is]
    have HDOM : Hid (∀ q, (Tp.ownFor p vs q).isSome = true ↔ q ∈ Tp.ownOf p) := ownFor_dom hvp
    have HI64 : Hid (∀ q v, Tp.ownFor p vs q = some v → Tp.I64 v) := ownFor_i64 HVI.out
    have HG1 := Lib.hid hg1
    have HB1 := Lib.hid hb1
    have HB12 := Lib.hid hb12
    have HM2 := Lib.hid hm2
    have c4 := hg1.cell0 hpat.d r4
    have c5 := hg1.cell0 hpat.d r5
    rw [← hqn] at c4
    have HC4 := Lib.hid c4
    have HBD : Hid (Ss c lo (Tp.ownOf p) p.body bv) := ⟨⟨bcs, rs5, ro5⟩, HWP.out.b, HFITB.out⟩
    obtain ⟨ba, bc, hbv⟩ := ro5.shape
    rw [hbv] at c5 HBD
    have HC5 := Lib.hid c5
    have HK2 := Lib.hid k2
    have HPB : Hid (pb < c.gb) := hpat.d.1
    have hpc' : pn + qn ≤ 10 := by omega
    have HVN : Hid (vn = pn) := hvpn.trans hpn.symm
    clear hvpn
    rw [← hpn] at c3'
    clear hpat hb1 hb12 hm2 r3 r4 r5 rw3 rw4 rs5 ro5 hp3 hp4 hg1 c3 hbv hvp c4 c5 hpn hqn hpc HPL HWP HND HVI HARG hpbl
    generalize hbn : p.body.length = bn at *
    have hpn' : (pn : Int) ≤ 10 := by omega
    have hqn' : (qn : Int) ≤ 10 := by omega
    go_upto_region 5 with fail
    rw [← hw2]
    clear hw2 k2
    go_wp2_with fail
    have hkb : ((k : Int) == 30) = false := by simpa using hkk
    simp only [hkb]
    clear hkb hkk
    go_loopg [32] pn (fun k vi wr => ∃ i : Nat, i ≤ pn ∧ k = pn - i ∧ vi = .int .i64 (i : Int) ∧ Hid (MapV wr w1.heap.size i (ownF ((ownAll p vs).take i))) ∧ Hid (Ext w1.heap.size w2 wr))
    case atStart => exact ⟨0, by omega, by omega, rfl, HM2, Ext.refl _ _⟩
    case round =>
      obtain ⟨i, hid, hkk, rfl, HM, HE⟩ := hrel
      have hszr := HE.out.size
      by_cases hlt : i < pn
      · have hlt' : (i : Int) < (pn : Int) := by omega
        obtain ⟨b, x, u, ab, ao, rfl, hbl, hbc, hat, hxl, rfl, hal, hac⟩ := HP3.out i hlt
        have kb : wr.cell? ⟨b, i, none⟩ = some (.string (bs x)) := HE.out.cell ((HB12.out.cell (p := ⟨b, i, none⟩) hbl).trans hbc) (by simp; omega)
        have ka : wr.cell? ⟨ab, ao + i, none⟩ = some (.int .i64 u) := HE.out.cell ((HB12.out.cell (p := ⟨ab, ao + i, none⟩) hal).trans hac) (by simp; omega)
        have hblr : b < wr.heap.size := by omega
        have halr : ab < wr.heap.size := by omega
        have hvlt : (i : Int) < (vn : Int) := by have := HVN.out; omega
        have HT := Lib.hid (HTK.out i x u hat)
        clear hbc hac hat
        go_wp2_with (at_mapUpdate; refine wpList_mapUpdate_v _ rfl _ _ _ 96 rfl _ Tryz.underlying96 w1.heap.size i _ HM.out (by omega) x hxl (.int .i64 u) rfl rfl rfl ?_)
        intro w3 q1 q2 q3
        have HM3 : Hid (MapV w3 w1.heap.size (i + 1) (ownF ((ownAll p vs).take (i + 1)))) := by
          show MapV _ _ _ _
          rw [← HT.out]
          exact q1
        have HE3 : Hid (Ext w1.heap.size w2 w3) := HE.out.trans q2
        clear q1 q2 q3
        go_wp2_with fail
        go_roundg (pn - (i + 1))
        case measure => omega
        case rel => exact ⟨i + 1, by omega, rfl, by go_num, HM3, HE3⟩
      · have hlt' : ¬ (i : Int) < (pn : Int) := by omega
        have hei : i = pn := by omega
        subst hei
        have k4 : wr.cell? ⟨pb, o + 4, none⟩ = some (.slice p4a qn p4c) := HE.out.cell ((HB12.out.cell (p := ⟨pb, o + 4, none⟩) (lt_of_cell HC4.out)).trans HC4.out) (by have := lt_of_cell HC4.out; simp; omega)
        have hpbr : pb < wr.heap.size := by omega
        have HM1 : Hid (MapV wr w1.heap.size (i + 0) (ownF ((ownAll p vs).take (i + 0)))) := HM
        have HE1 := HE
        clear HM HE HP3 c3' hpbl2 HM2
        go_wp2_with fail
        go_loopg [49] qn (fun k vi wr => ∃ j : Nat, j ≤ qn ∧ k = qn - j ∧ vi = .int .i64 (j : Int) ∧ Hid (MapV wr w1.heap.size (i + j) (ownF ((ownAll p vs).take (i + j)))) ∧ Hid (Ext w1.heap.size w2 wr))
        case atStart => exact ⟨0, by omega, by omega, rfl, HM1, HE1⟩
        case round =>
          obtain ⟨j, hjd, hkk2, rfl, HM, HE⟩ := hrel
          have hszr2 := HE.out.size
          clear HM1 HE1 k4 hpbr
          by_cases hlt2 : j < qn
          · have hlt2' : (j : Int) < (qn : Int) := by omega
            obtain ⟨b, x, rfl, hbl, hbc, hat, hxl⟩ := HP4.out j hlt2
            have kb : wr.cell? ⟨b, j, none⟩ = some (.string (bs x)) := HE.out.cell ((HB12.out.cell (p := ⟨b, j, none⟩) hbl).trans hbc) (by simp; omega)
            have hblr : b < wr.heap.size := by omega
            have HT := Lib.hid (HTK.out (i + j) x 0 hat)
            clear hbc hat
            go_wp2_with (at_mapUpdate; refine wpList_mapUpdate_v _ rfl _ _ _ 96 rfl _ Tryz.underlying96 w1.heap.size (i + j) _ HM.out (by omega) x hxl (.int .i64 0) rfl rfl rfl ?_)
            intro w3 q1 q2 q3
            have HM3 : Hid (MapV w3 w1.heap.size (i + (j + 1)) (ownF ((ownAll p vs).take (i + (j + 1))))) := by
              show MapV _ _ _ _
              rw [← Nat.add_assoc, ← HT.out]
              exact q1
            have HE3 : Hid (Ext w1.heap.size w2 w3) := HE.out.trans q2
            clear q1 q2 q3
            go_wp2_with fail
            go_roundg (qn - (j + 1))
            case measure => omega
            case rel => exact ⟨j + 1, by omega, rfl, by go_num, HM3, HE3⟩
          · have hlt2' : ¬ (j : Int) < (qn : Int) := by omega
            have hej : j = qn := by omega
            subst hej
            have hb1r : Below w1.heap.size w1 wr := HB12.out.trans (ext_below HE.out (Nat.le_refl _) (by omega))
            have hgr := HG1.out.below HOK.out hb1r
            have HB1R := Lib.hid hb1r
            have HGR := Lib.hid hgr
            have j2 : wr.cell? ⟨c.gb, 2, none⟩ = some (.int .i64 (k : Int)) := (hb1r.cell (p := ⟨c.gb, 2, none⟩) hgl1).trans HK2.out
            obtain ⟨ovr, hbr, hownr⟩ := hgr.blk
            have z2 : wr.frozen? ⟨c.gb, 2, none⟩ = false := frozen_blk hbr
            have hglr : c.gb < wr.heap.size := lt_blk hbr
            have k29 : (k : Int) ≤ 29 := by omega
            -- one waits more
            have hg4 := hgr.wait HOK.out (k' := k + 1) (by omega)
            have hkp4 : Kp c nY wr (wr.setCell ⟨c.gb, 2, none⟩ (.int .i64 ((k + 1 : Nat) : Int))) := Kp.reg hgr (by omega)
            have ewr : wr.setCell ⟨c.gb, 2, none⟩ (.int .i64 ((k : Int) + 1)) = wr.setCell ⟨c.gb, 2, none⟩ (.int .i64 ((k + 1 : Nat) : Int)) := by rw [Int.natCast_add]; rfl
            obtain ⟨w4, hw4⟩ : ∃ w4, w4 = wr.setCell ⟨c.gb, 2, none⟩ (.int .i64 ((k : Int) + 1)) := ⟨_, rfl⟩
            rw [← ewr, ← hw4] at hg4 hkp4
            obtain ⟨w5, hw5⟩ : ∃ w5, w5 = w4.alloc (.cells #[.pointer (some ⟨c.gb, 0, none⟩), .pointer (some ⟨lo.lb, 0, none⟩), .map (some w1.heap.size)] 98) := ⟨_, rfl⟩
            have hb45 : Below w4.heap.size w4 w5 := by rw [hw5]; exact (Below.refl _ _).alloc (Nat.le_refl _) _
            have hg5 := hg4.below HOK.out hb45
            have hs4 : w4.heap.size = wr.heap.size := by rw [hw4]; simp
            have hs5 : w4.heap.size < w5.heap.size := by rw [hw5]; simp
            have hkp5 : Kp c nY wr w5 := hkp4.trans (Kp.below hb45 (by omega))
            have hkp05 : Kp c nY w w5 := (Kp.below (HB1.out.trans (hb1r.mono (by have := HB1.out.size; omega))) hgl).trans hkp5
            have hnew : ∀ b, w.heap.size ≤ b → b < w5.heap.size → ¬ OutB c w5 b ∨ wr.heap.size ≤ b := fun b h1 h2 => by
              by_cases hq : OutB c w5 b
              · rcases hkp05.out b hq with z | z
                · have := HH.out.outlt z; omega
                · by_cases hz : wr.heap.size ≤ b
                  · exact Or.inr hz
                  · rcases hkp5.out b hq with y | y
                    · have y2 : OutB c w b := (outB_on ((HB1.out.trans (hb1r.mono (by have := HB1.out.size; omega))).block c.gb hgl) b).1 y
                      have := HH.out.outlt y2; omega
                    · exact absurd y hz
              · exact Or.inl hq
            have hno5 : ¬ OutB c w5 w4.heap.size := fun hq => by
              rcases hkp5.out _ hq with y | y
              · have := hgr.outlt y; omega
              · have y2 : OutB c w4 w4.heap.size := (outB_on (hb45.block c.gb (by omega)) _).1 hq
                have := hg4.outlt y2; omega
            have hnob : ¬ OutB c w5 w1.heap.size := fun hq => by
              rcases hnew w1.heap.size HB1.out.size (by omega) with z | z
              · exact z hq
              · omega
            have hmap5 : MapV w5 w1.heap.size (i + j) (fun q => (Tp.ownFor p vs q).map fun v => .int .i64 v) := by
              rw [← HALL.out]
              refine HM.out.on ?_
              rw [hb45.block _ (by omega), hw4]
              exact set_frame _ (by omega)
            have hsc : Sc c w5 w4.heap.size (some w1.heap.size) lo (Tp.ownFor p vs) (Tp.ownOf p) s.left := by
              refine ⟨by omega, hno5, by rw [hw5]; exact new_blk _ _, ⟨by omega, by omega, hnob, i + j, ?_, hmap5⟩, HI64.out, HDOM.out, HLO.out⟩
              have := HH.out.ll
              omega
            have hnb : Tp.goS g (k + 1) lo.m.name (Tp.ownFor p vs) p.body s ≠ .gas := fun e => HN.out (by rw [HRES.out, e])
            have HBC := Lib.hid (hB (k + 1) lo (Tp.ownFor p vs) (Tp.ownOf p) p.body (.slice ba bn bc) w5 s w4.heap.size (some w1.heap.size) HBD.out hg5 hsc hnb)
            rw [hs4] at HBC
            have HK05 := Lib.hid hkp05
            have hgb5 : w5.heap[pb]? = w1.heap[pb]? := by
              have hpl := lt_of_cell HC5.out
              rw [hb45.block pb (by omega), hw4, set_frame pb (by have := HPB.out; omega)]
              exact hb1r.block pb hpl
            have k5 : w5.cell? ⟨pb, o + 5, none⟩ = some (.slice ba bn bc) := (World.cell?_of_block (w := w1) hgb5).trans HC5.out
            have hpb5 : pb < w5.heap.size := lt_of_cell k5
            have HFR : Hid (∀ w6 w7, Kp c (oY (some w1.heap.size)) w5 w6 → Kp c nY w6 w7 → Kp c nY w w7) := fun w6 w7 a b => (hkp05.fresh a (fun b hb => by injection hb with hb; rw [← hb]; exact HB1.out.size)).trans b
            clear hb1r hgr hbr hownr hg4 hkp4 hb45 hg5 hs5 hkp5 hkp05 hnew hno5 hnob hmap5 hsc hgb5 ewr
            have HRS := HRES.out
            cases hgo : Tp.goS g (k + 1) lo.m.name (Tp.ownFor p vs) p.body s with
            | gas => exact absurd hgo hnb
            | stop way s' =>
              rw [hgo] at HBC HRS
              have HR : Hid (∀ w6 e, thrE endT (way : Int) e → (∃ k', GS c w6 s' k') → Kp c (oY (some w1.heap.size)) w5 w6 → EvP c k w s res e w6) := fun w6 e a1 a2 a3 => by rw [HRS]; exact ⟨a1, a2, HFR.out _ _ a3 (Kp.refl _ _ _)⟩
              clear HRS hgo hnb
              go_upto_region 17 with fail
              rw [← hw4, ← hw5]
              clear hw4 hw5 j2 z2
              go_wp2_with fail
              refine HBC.out.mono ?_
              rintro e w6 ⟨⟨older, rfl⟩, hg6, hk6⟩
              have HG6 := Lib.hid hg6
              have HK6 := Lib.hid hk6
              clear hg6 hk6
              go_wp2_with fail
              exact ⟨rfl, HR.out _ _ ⟨older, rfl⟩ HG6.out HK6.out⟩
            | ok r s' =>
              rw [hgo] at HBC HRS
              have HR : Hid (∀ w6 w7, GS c w7 s' k → s'.left ≤ s.left → Tp.I64 (r.2.getD 0) → Kp c (oY (some w1.heap.size)) w5 w6 → Kp c nY w6 w7 → EvP c k w s res (.returned (.int .i64 (r.2.getD 0))) w7) := fun w6 w7 a1 a2 a3 a4 a5 => by rw [HRS]; exact ⟨rfl, a1, HFR.out _ _ a4 a5, a2, a3⟩
              clear HRS hgo hnb
              go_upto_region 17 with fail
              rw [← hw4, ← hw5]
              clear hw4 hw5 j2 z2
              go_wp2_with fail
              refine HBC.out.mono ?_
              rintro e w6 ⟨rfl, hg6, hk6, hl6, hi6⟩
              have hg7 := hg6.wait HOK.out (k' := k) (by omega)
              have hk7 : Kp c nY w6 (w6.setCell ⟨c.gb, 2, none⟩ (.int .i64 (k : Int))) := Kp.reg hg6 (by omega)
              obtain ⟨ov6, hb6, _⟩ := hg6.blk
              have m2 : w6.cell? ⟨c.gb, 2, none⟩ = some (.int .i64 ((k : Int) + 1)) := (cell_blk hb6).trans (by simp [gcells4])
              have mz : w6.frozen? ⟨c.gb, 2, none⟩ = false := frozen_blk hb6
              have hgl6 := lt_blk hb6
              have HG7 := Lib.hid hg7
              have HK7 := Lib.hid hk7
              have HK6 := Lib.hid hk6
              have HL6 := Lib.hid hl6
              have HI6 := Lib.hid hi6
              have ek : ((k : Int) + 1) - 1 = (k : Int) := by omega
              clear hg6 hk6 hl6 hi6 hg7 hk7 hb6
              generalize r.2.getD 0 = rv at *
              go_wp2_with fail
              go_ret
              first
                | exact HR.out _ _ HG7.out HL6.out HI6.out HK6.out HK7.out
                | (rw [ek]; exact HR.out _ _ HG7.out HL6.out HI6.out HK6.out HK7.out)
end Go.Proofs.YtibncofnnlbmcaaGreatDoor
/- Chapter 4: what is done to its end, or until a Return: body. -/
namespace Go.Proofs.YtibncofnnlbmcaaGreatDoor
open Go.RowKit Go.Maps
open Tp (Bs X S G Pr Pt Rs Rr Own)

theorem ta_told (n : Int) (w : World) : (Instr.typeAssert (.iface 155 (.int .i64 n)) 20 155 true).run Tryz.prog w = .ok (.tuple #[.int .i64 n, .bool true]) w := by kernel_rfl
theorem ta_end (n : Int) (w : World) : (Instr.typeAssert (.iface 173 (.int .i64 n)) 20 155 true).run Tryz.prog w = .ok (.tuple #[.int .i64 0, .bool false]) w := by kernel_rfl
theorem ta_nil (w : World) : (Instr.typeAssert .nilIface 20 155 true).run Tryz.prog w = .ok (.tuple #[.int .i64 0, .bool false]) w := by kernel_rfl
set_option maxRecDepth 100000 in
set_option maxHeartbeats 800000 in
theorem blate_told (nb : Nat) (n : Int) (older : List PanicEntry) (w : World) {old : Value} (hc : w.cell? ⟨nb, 0, none⟩ = some old) (hz : w.frozen? ⟨nb, 0, none⟩ = false) :
    CallsD Tryz.prog 87 #[.pointer (some ⟨nb, 0, none⟩)] (.panicking ({ v := .iface toldT (.int .i64 n), recovered := false } :: older)) w fun e u' w' =>
      e = .returned (.tuple #[]) ∧ u' = .panicking ({ v := .iface toldT (.int .i64 n), recovered := true } :: older) ∧ w' = w.setCell ⟨nb, 0, none⟩ (.int .i64 n) := by
  unfold toldT
  refine callsD_of_wpS Tryz.func87 rfl fun c₀ cs hu => ?_
  apply wpS_seq
  apply wpS_region
  simp [wpOpsS, go_sem, recoverD, hu, Tryz.ntmps87, Exit.thenS]
  refine wpS_of_wp ?_
  have hta := ta_told n
  have hnl := lt_of_cell hc
  generalize hQ : (fun (e : Exit) (a' : Act) (w' : World) => bodyPostS Tryz.prog _ _ _ _ e a' _ w') = Q
  show Code.wp Tryz.prog _ _ { tmps := #[.pointer (some ⟨nb, 0, none⟩), .iface 155 (.int .i64 n), undef, undef, .iface 155 (.int .i64 n), undef, undef, undef, undef, undef, undef, undef, undef, undef, undef], defers := [] } w
  go_wp2_with fail
  subst hQ
  simp [bodyPostS, results, Tryz.results87]
set_option maxRecDepth 100000 in
set_option maxHeartbeats 800000 in
theorem blate_end (nb : Nat) (n : Int) (older : List PanicEntry) (w : World) :
    CallsD Tryz.prog 87 #[.pointer (some ⟨nb, 0, none⟩)] (.panicking ({ v := .iface endT (.int .i64 n), recovered := false } :: older)) w fun e u' w' =>
      e = .panicked [{ v := .iface endT (.int .i64 n), recovered := false }] ∧ u' = .panicking ({ v := .iface endT (.int .i64 n), recovered := true } :: older) ∧ w' = w := by
  unfold endT
  refine callsD_of_wpS Tryz.func87 rfl fun c₀ cs hu => ?_
  apply wpS_seq
  apply wpS_region
  simp [wpOpsS, go_sem, recoverD, hu, Tryz.ntmps87, Exit.thenS]
  refine wpS_of_wp ?_
  have hta := ta_end n
  generalize hQ : (fun (e : Exit) (a' : Act) (w' : World) => bodyPostS Tryz.prog _ _ _ _ e a' _ w') = Q
  show Code.wp Tryz.prog _ _ { tmps := #[.pointer (some ⟨nb, 0, none⟩), .iface 173 (.int .i64 n), undef, undef, .iface 173 (.int .i64 n), undef, undef, undef, undef, undef, undef, undef, undef, undef, undef], defers := [] } w
  go_wp2_with fail
  subst hQ
  simp [bodyPostS]
set_option maxRecDepth 100000 in
set_option maxHeartbeats 800000 in
theorem blate_idle (nb : Nat) (w : World) :
    CallsD Tryz.prog 87 #[.pointer (some ⟨nb, 0, none⟩)] .returning w fun e u' w' => e = .returned (.tuple #[]) ∧ u' = .returning ∧ w' = w := by
  refine callsD_of_wpS Tryz.func87 rfl fun c₀ cs hu => ?_
  apply wpS_seq
  apply wpS_region
  simp [wpOpsS, go_sem, recoverD, hu, Tryz.ntmps87, Exit.thenS]
  refine wpS_of_wp ?_
  have hta := ta_nil
  generalize hQ : (fun (e : Exit) (a' : Act) (w' : World) => bodyPostS Tryz.prog _ _ _ _ e a' _ w') = Q
  show Code.wp Tryz.prog _ _ { tmps := #[.pointer (some ⟨nb, 0, none⟩), .nilIface, undef, undef, .nilIface, undef, undef, undef, undef, undef, undef, undef, undef, undef, undef], defers := [] } w
  go_wp2_with fail
  subst hQ
  cases c₀
  simp_all [bodyPostS, results, Tryz.results87]
end Go.Proofs.YtibncofnnlbmcaaGreatDoor
/- Chapter 4: what is done to its end, or until a Return: body, walked. -/
namespace Go.Proofs.YtibncofnnlbmcaaGreatDoor
open Go.RowKit Go.Maps
open Tp (Bs X S G Pr Pt Rs Rr Own)

def GoP (c : Cx) (k sb : Nat) (ob : Option Nat) (lo : Lo) (names : List Bs) (w : World) (s : Rs) (r : Rr (Own × Option Int)) (e : Ending) (w' : World) : Prop := match r with
  | .ok (own', none) s' => e = .returned (.tuple #[]) ∧ GS c w' s' k ∧ Kp c (oY ob) w w' ∧ s'.left ≤ s.left ∧ Sc c w' sb ob lo own' names s'.left
  | .ok (_, some v) s' => thrE toldT v e ∧ GS c w' s' k ∧ Kp c (oY ob) w w' ∧ s'.left ≤ s.left ∧ Tp.I64 v
  | .stop way s' => thrE endT (way : Int) e ∧ (∃ k', GS c w' s' k') ∧ Kp c (oY ob) w w'
  | .gas => True
def GoC (c : Cx) (g : Nat) : Prop := ∀ (k : Nat) (lo : Lo) (own : Own) (names : List Bs) (l : List S) (v : Value) (w : World) (s : Rs) (sb : Nat) (ob : Option Nat),
  Ss c lo names l v → GS c w s k → Sc c w sb ob lo own names s.left → Tp.goS g k lo.m.name own l s ≠ .gas →
  Calls Tryz.prog 88 #[.pointer (some ⟨sb, 0, none⟩), v] w (GoP c k sb ob lo names w s (Tp.goS g k lo.m.name own l s))
theorem drop_goexit (l : Olds) : l.1.dropWhile (fun x => !x.goexit) = [] := by
  obtain ⟨l, h⟩ := l
  show l.dropWhile _ = []
  induction l with
  | nil => rfl
  | cons x t ih =>
    rw [List.dropWhile_cons, h x (by simp)]
    exact ih (fun y hy => h y (by simp [hy]))
theorem GS.setO {c : Cx} {w : World} {s : Rs} {k b j : Nat} {v : Value} (h : GS c w s k) (ok : CxOk c) (hb : c.gb < b) (ho : ¬ OutB c w b) : GS c (w.setCell ⟨b, j, none⟩ v) s k :=
  h.on ok (set_frame _ (by omega)) (fun i _ hi => set_frame i (by
    rcases hi with q | q
    · omega
    · exact fun e => ho (e ▸ q)))
set_option maxRecDepth 100000 in
set_option maxHeartbeats 2000000 in
theorem body_all {c : Cx} {g : Nat} (ok : CxOk c) (hG : GoC c g) : BodyC c g := by
  intro k lo own names l v w s sb ob hss h hs hn
  have hmf : ∀ (fn : Fn) (first cap : Array Value) (w : World), (Instr.makeFunc fn first cap).run Tryz.prog w = .ok (.func fn first cap) w := fun _ _ _ _ => rfl
  obtain ⟨cs, hr1, hr2⟩ := hss.rep
  obtain ⟨va, vc, rfl⟩ := hr2.shape
  have hgl := h.lt
  obtain ⟨w1, hw1⟩ : ∃ w1, w1 = w.alloc (.cells #[.int .i64 0] 2) := ⟨_, rfl⟩
  have hb1 : Below w.heap.size w w1 := by rw [hw1]; exact (Below.refl _ _).alloc (Nat.le_refl _) _
  have hnb : w1.heap[w.heap.size]? = some (.cells #[.int .i64 0] 2 (0, 0)) := by rw [hw1]; exact new_blk _ _
  have hs1 : w.heap.size < w1.heap.size := lt_blk hnb
  have hg1 := h.below ok hb1
  have hno1 : ¬ OutB c w1 w.heap.size := fun hq => by
    have := h.outlt ((outB_on (hb1.block _ hgl) _).1 hq); omega
  have HC := Lib.hid (hG k lo own names l _ w1 s sb ob hss hg1 (hs.below ok hb1 hgl) hn)
  have hobn : ob ≠ some w.heap.size := fun e => by
    have ho := hs.om
    rw [e] at ho
    have := ho.2.2.2
    obtain ⟨n, _, hm⟩ := this
    have := hm.lt
    omega
  -- the block of what is told, behind what was done
  have HNB : Hid (∀ W, Kp c (oY ob) w1 W → W.heap[w.heap.size]? = some (.cells #[.int .i64 0] 2 (0, 0)) ∧ ¬ OutB c W w.heap.size) := fun W hK => by
    refine ⟨(hK.block _ hs1 (by omega) (fun q => by have := ok.Vlt _ q; omega) hno1 hobn).trans hnb, fun q => ?_⟩
    rcases hK.out _ q with z | z
    · exact hno1 z
    · omega
  have HKB : Hid (∀ W, Kp c (oY ob) w1 W → Kp c (oY ob) w W) := fun W hK => (Kp.below hb1 hgl).trans hK
  have HKS : Hid (∀ W s' k' u, GS c W s' k' → Kp c (oY ob) w W → ¬ OutB c W w.heap.size → Kp c (oY ob) w (W.setCell ⟨w.heap.size, 0, none⟩ u) ∧ GS c (W.setCell ⟨w.heap.size, 0, none⟩ u) s' k') := fun W s' k' u a1 a2 a3 => by
    refine ⟨?_, a1.setO ok (by omega) a3⟩
    have e := (Below.refl 0 W).setCell (p := ⟨w.heap.size, 0, none⟩) (Nat.zero_le _) u
    refine ⟨e.os.trans a2.os, e.tape.trans a2.tape, e.output.trans a2.output, by simpa using a2.size, fun b q1 q2 q3 q4 q5 => (set_frame b (by omega)).trans (a2.block b q1 q2 q3 q4 q5), fun b hb => a2.out b ((outB_on (set_frame _ (by omega)) b).1 hb)⟩
  generalize Tp.goS g k lo.m.name own l s = r at *
  clear h hs hss hr1 hr2 hb1 hnb hg1 hno1 hobn hG ok
  generalize l.length = ln at *
  cases r with
  | gas => exact absurd rfl hn
  | stop way s' =>
    clear hn
    go_enter_defers Tryz.func43, Tryz.ntmps43
    go_upto_region 2 with fail
    rw [← hw1]
    clear hw1
    go_wp2_with fail
    refine HC.out.mono ?_
    rintro e w2 ⟨⟨older, rfl⟩, hg2, hk2⟩
    have HG2 := Lib.hid hg2
    have HK2 := Lib.hid hk2
    clear hg2 hk2
    go_wp2_with fail
    refine leaves_cons (f := 87) (args := #[.pointer (some ⟨w.heap.size, 0, none⟩)]) (by simp) (by simp [go_sem]) ?_
    refine (blate_end w.heap.size (way : Int) older.1 w2).mono ?_
    rintro e u' w'' ⟨rfl, rfl, rfl⟩
    simp only [Leaves, raised]
    exact ⟨⟨⟨_, fun x hx => by
      rcases List.mem_cons.1 hx with q | q
      · rw [q]
      · exact older.2 x q⟩, rfl⟩, HG2.out, HKB.out _ HK2.out⟩
  | ok r1 s' =>
    obtain ⟨own', ro⟩ := r1
    clear hn
    cases ro with
    | some u =>
      go_enter_defers Tryz.func43, Tryz.ntmps43
      go_upto_region 2 with fail
      rw [← hw1]
      clear hw1
      go_wp2_with fail
      refine HC.out.mono ?_
      rintro e w2 ⟨⟨older, rfl⟩, hg2, hk2, hl2, hi2⟩
      obtain ⟨hnb2, hno2⟩ := HNB.out w2 hk2
      have hk3 := HKB.out w2 hk2
      have hfin := HKS.out w2 s' k (.int .i64 u) hg2 hk3 hno2
      have HF := Lib.hid hfin
      have HL2 := Lib.hid hl2
      have HI2 := Lib.hid hi2
      have HN2 := Lib.hid hnb2
      clear hg2 hk2 hl2 hi2 hnb2 hno2 hk3 hfin
      go_wp2_with fail
      refine leaves_cons (f := 87) (args := #[.pointer (some ⟨w.heap.size, 0, none⟩)]) (by simp) (by simp [go_sem]) ?_
      refine (blate_told w.heap.size u older.1 w2 ((cell_blk HN2.out).trans rfl) (frozen_blk HN2.out)).mono ?_
      rintro e u' w'' ⟨rfl, rfl, hw⟩
      have kc : w''.cell? ⟨w.heap.size, 0, none⟩ = some (.int .i64 u) := by rw [hw]; exact (cell_blk (set_blk 0 _ HN2.out)).trans rfl
      have hd := drop_goexit older
      have hfin : BodyP c k ob w s (.ok (own', some u) s') (.returned (.int .i64 u)) w'' := by rw [hw]; exact ⟨rfl, HF.out.2, HF.out.1, HL2.out, HI2.out⟩
      clear hw
      simp [Leaves, settle, hd, results, Tryz.results43, go_sem, kc]
      exact hfin
    | none =>
      go_enter_defers Tryz.func43, Tryz.ntmps43
      go_upto_region 2 with fail
      rw [← hw1]
      clear hw1
      go_wp2_with fail
      refine HC.out.mono ?_
      rintro e w2 ⟨rfl, hg2, hk2, hl2, _⟩
      obtain ⟨hnb2, hno2⟩ := HNB.out w2 hk2
      have hk3 := HKB.out w2 hk2
      have hfin := HKS.out w2 s' k (.int .i64 0) hg2 hk3 hno2
      have HF := Lib.hid hfin
      have HL2 := Lib.hid hl2
      have HN2 := Lib.hid hnb2
      have kc : w2.cell? ⟨w.heap.size, 0, none⟩ = some (.int .i64 0) := (cell_blk hnb2).trans rfl
      have kz : w2.frozen? ⟨w.heap.size, 0, none⟩ = false := frozen_blk hnb2
      have hwl : w.heap.size < w2.heap.size := lt_blk hnb2
      clear hg2 hk2 hl2 hnb2 hno2 hk3 hfin
      go_wp2_with fail
      refine leaves_cons (f := 87) (args := #[.pointer (some ⟨w.heap.size, 0, none⟩)]) (by simp) (by simp [go_sem]) ?_
      refine (blate_idle w.heap.size _).mono ?_
      rintro e u' w'' ⟨rfl, rfl, hw⟩
      have kc : w''.cell? ⟨w.heap.size, 0, none⟩ = some (.int .i64 0) := by rw [hw]; exact (cell_blk (set_blk 0 _ HN2.out)).trans rfl
      have hfin : BodyP c k ob w s (.ok (own', none) s') (.returned (.int .i64 0)) w'' := by rw [hw]; exact ⟨rfl, HF.out.2, HF.out.1, HL2.out, (by decide : Tp.I64 0)⟩
      clear hw
      simp [Leaves, settle, results, Tryz.results43, go_sem, kc]
      exact hfin
end Go.Proofs.YtibncofnnlbmcaaGreatDoor
