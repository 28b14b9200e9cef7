import Derived.Test.YtibncofnnlbmcaaGreatDoorKMe
import Derived.Test.YtibncofnnlbmcaaGreatDoorKPd
import Derived.Maps.RangeWalk
import Derived.LaidEql
import Derived.RowKitTokens
/- check: Check, walked. -/
namespace Go.Proofs.YtibncofnnlbmcaaGreatDoor
open Go.RowKit
open Tp (Bs Th Sy Seen X S)

theorem imps_at {own : Bs} {S : Seen} : ∀ {l ah : List Bs} {er : Nat × Option Nat}, Tp.imps own S ah l = some er → er.2 = none := by
  intro l
  induction l with
  | nil => intro ah er h; simp [Tp.imps] at h
  | cons n t ih =>
    intro ah er h
    rw [Tp.imps] at h
    split at h
    · cases h; rfl
    · split at h
      · cases h; rfl
      · exact ih h
theorem fnd_new {w : World} {ob n : Nat} {Sn : Seen} {fs : Near} {vs : List Value} {c : Nat} {t1 t2 t3 : TypeId} (h : SeenM w ob n Sn) (_hl : vs.length = fs.length) (hv : ∀ i (h : i < fs.length), ∃ gb k, vs[i]? = some (.map (some gb)) ∧ MapV w gb k (fun q => (fs[i] q).map thV)) :
    Fnd (((w.alloc (.cells vs.toArray t1)).alloc (.cells #[.map (some ob)] t2)).alloc (.cells #[.slice (some ⟨w.heap.size, 0, none⟩) fs.length c] t3)) (w.heap.size + 1) Sn fs := by
  have h1 : Below w.heap.size w (((w.alloc (.cells vs.toArray t1)).alloc (.cells #[.map (some ob)] t2)).alloc (.cells #[.slice (some ⟨w.heap.size, 0, none⟩) fs.length c] t3)) := (((Below.refl _ _).alloc (Nat.le_refl _) _).alloc (by simp) _).alloc (by simp; omega) _
  have e1 : (((w.alloc (.cells vs.toArray t1)).alloc (.cells #[.map (some ob)] t2)).alloc (.cells #[.slice (some ⟨w.heap.size, 0, none⟩) fs.length c] t3)).heap[w.heap.size]? = some (.cells vs.toArray t1 (0, 0)) := ((Below.heap_alloc _ _ _ (by simp; omega)).trans (Below.heap_alloc _ _ _ (by simp))).trans (new_blk _ _)
  have e2 : (((w.alloc (.cells vs.toArray t1)).alloc (.cells #[.map (some ob)] t2)).alloc (.cells #[.slice (some ⟨w.heap.size, 0, none⟩) fs.length c] t3)).heap[w.heap.size + 1]? = some (.cells #[.map (some ob)] t2 (0, 0)) := (Below.heap_alloc _ _ _ (by simp)).trans (by simpa using new_blk (w.alloc (.cells vs.toArray t1)) (.cells #[.map (some ob)] t2))
  have e3 : (((w.alloc (.cells vs.toArray t1)).alloc (.cells #[.map (some ob)] t2)).alloc (.cells #[.slice (some ⟨w.heap.size, 0, none⟩) fs.length c] t3)).heap[w.heap.size + 1 + 1]? = some (.cells #[.slice (some ⟨w.heap.size, 0, none⟩) fs.length c] t3 (0, 0)) := by simpa using new_blk ((w.alloc (.cells vs.toArray t1)).alloc (.cells #[.map (some ob)] t2)) (.cells #[.slice (some ⟨w.heap.size, 0, none⟩) fs.length c] t3)
  refine ⟨⟨ob, n, (cell_blk e2).trans rfl, h.on h1⟩, ⟨w.heap.size, c, (cell_blk e3).trans rfl, ⟨lt_blk e1, fun i hi => ?_⟩⟩, lt_blk e3⟩
  obtain ⟨gb, k, q1, q2⟩ := hv i hi
  refine ⟨gb, k, ?_, q2.on (h1.block _ q2.lt)⟩
  rw [cell_blk e1]
  simpa using q1
set_option maxRecDepth 100000 in
set_option maxHeartbeats 4000000 in
theorem check_walk {w : World} {nm : Bs} {inn gn pn bn ic gc pc bc : Nat} {ia ga pa ba : Option Addr} {sv : Value} {is : List Bs} {Sn : Seen} {tl : List Th} {ol : Nat → List Th} {sr : Nat → Option (Nat × Nat)} {br : Option (Nat × Nat)} (hsv : ∃ so, sv = .map so)
    (hI : ∀ W, Below w.heap.size w W → Calls Tryz.prog 79 #[.agg #[.string (bs nm), .slice ia inn ic, .slice ga gn gc, .slice pa pn pc, .slice ba bn bc], sv] W (ImpP W nm is Sn))
    (hG : ∀ W, Below w.heap.size w W → Calls Tryz.prog 80 #[.agg #[.string (bs nm), .slice ia inn ic, .slice ga gn gc, .slice pa pn pc, .slice ba bn bc]] W (MapP W tl))
    (hP : ∀ i, i < pn → ∃ (g : Nat) (x0 : Bs) (x1 : Nat) (x2 : Bool) (y3 y4 y5 : Option Addr) (n3 n4 n5 c3 c4 c5 : Nat), pa = some ⟨g, 0, none⟩ ∧ g < w.heap.size ∧ w.cell? ⟨g, i * 6, none⟩ = some (.string (bs x0)) ∧ w.cell? ⟨g, i * 6 + 1, none⟩ = some (.int .i64 (x1 : Int)) ∧ w.cell? ⟨g, i * 6 + 2, none⟩ = some (.bool x2) ∧ w.cell? ⟨g, i * 6 + 3, none⟩ = some (.slice y3 n3 c3) ∧ w.cell? ⟨g, i * 6 + 4, none⟩ = some (.slice y4 n4 c4) ∧ w.cell? ⟨g, i * 6 + 5, none⟩ = some (.slice y5 n5 c5) ∧
      (∀ W, Below w.heap.size w W → Calls Tryz.prog 83 #[.agg #[.string (bs x0), .int .i64 (x1 : Int), .bool x2, .slice y3 n3 c3, .slice y4 n4 c4, .slice y5 n5 c5]] W (MapP W (ol i))) ∧
      (∀ W b, Below w.heap.size w W → Fnd W b (fun k => if k ∈ is then Sn k else none) [Tp.lkT (ol i), Tp.lkT tl] → Calls Tryz.prog 81 #[.slice y5 n5 c5, finderV b] W (CkP W (sr i))))
    (hB : ∀ W b, Below w.heap.size w W → Fnd W b (fun k => if k ∈ is then Sn k else none) [Tp.lkT tl] → Calls Tryz.prog 81 #[.slice ba bn bc, finderV b] W (CkP W br)) (hpn : pn ≤ 1000)
    {res : Tp.Ck} (hres : res = (Tp.imps nm Sn [] is).or (Tp.up ((Tp.twP tl 0).or (((List.range pn).findSome? fun i => (Tp.twP (ol i) 0).or (sr i)).or br)))) :
    Calls Tryz.prog 37 #[.agg #[.string (bs nm), .slice ia inn ic, .slice ga gn gc, .slice pa pn pc, .slice ba bn bc], sv] w (CheckP w res) := by
  have hmf : ∀ (fn : Fn) (first cap : Array Value) (w : World), (Instr.makeFunc fn first cap).run Tryz.prog w = .ok (.func fn first cap) w := fun _ _ _ _ => rfl
  obtain ⟨so, rfl⟩ := hsv
  obtain ⟨w0, hw0⟩ : ∃ w0, w0 = (w.alloc (.cells #[.string (bs nm), .slice ia inn ic, .slice ga gn gc, .slice pa pn pc, .slice ba bn bc] 36)).alloc (.cells #[.nilIface] 38) := ⟨_, rfl⟩
  have hb0 : Below w.heap.size w w0 := by rw [hw0]; exact ((Below.refl _ _).alloc (Nat.le_refl _) _).alloc (by simp) _
  have hsz0 : w0.heap.size = w.heap.size + 2 := by rw [hw0]; simp
  have hbm : w0.heap[w.heap.size]? = some (.cells #[.string (bs nm), .slice ia inn ic, .slice ga gn gc, .slice pa pn pc, .slice ba bn bc] 36 (0, 0)) := by rw [hw0]; exact (Below.heap_alloc _ _ _ (by simp)).trans (new_blk _ _)
  have hbe : w0.heap[w.heap.size + 1]? = some (.cells #[.nilIface] 38 (0, 0)) := by
    rw [hw0]
    have := new_blk (w.alloc (.cells #[.string (bs nm), .slice ia inn ic, .slice ga gn gc, .slice pa pn pc, .slice ba bn bc] 36)) (.cells #[.nilIface] 38)
    simpa using this
  obtain ⟨k0, k1, k2, k3, k4⟩ := cell_box5' hbm
  have HI := Lib.hid (hI w0 hb0)
  have HG := Lib.hid hG
  have HP := Lib.hid hP
  have HBD := Lib.hid hB
  have HRES := Lib.hid hres
  have HB0 := Lib.hid hb0
  have HBM := Lib.hid hbm
  have HBE := Lib.hid hbe
  have hpn' : (pn : Int) ≤ 1000 := by omega
  have hs0 : w.heap.size < w0.heap.size := by omega
  clear hI hG hP hB hres hb0 hbm hbe
  go_enter_defers Tryz.func37, Tryz.ntmps37
  go_upto_region 2 with fail
  rw [← hw0]
  clear hw0
  go_wp2_with fail
  have HEB : Hid (∀ wX, Below w0.heap.size w0 wX → wX.heap[w.heap.size + 1]? = some (.cells #[.nilIface] 38 (0, 0))) := fun wX h => (h.block _ (by omega)).trans HBE.out
  have HOUT : Hid (∀ (wX : World) (er : Nat × Nat) (ab : Nat), Below w0.heap.size w0 wX → w0.heap.size ≤ ab → wX.cell? ⟨ab, 0, none⟩ = some (.int .i64 (er.1 : Int)) → wX.cell? ⟨ab, 1, none⟩ = some (.int .i64 (er.2 : Int)) → res = some (er.1, some er.2) →
      CheckP w res (.returned (.iface 117 (.pointer (some ⟨ab, 0, none⟩)))) (wX.setCell ⟨w.heap.size + 1, 0, none⟩ (.iface 117 (.pointer (some ⟨ab, 0, none⟩))))) := by
    intro wX er ab h1 h2 h3 h4 h5
    refine ⟨below_set (HB0.out.trans (h1.mono (by omega))) (by omega) 0 _, ?_⟩
    rw [h5]
    exact ⟨ab, rfl, by omega, by rw [World.cell?_setCell_far _ _ _ _ (by simp; omega)]; exact h3, by rw [World.cell?_setCell_far _ _ _ _ (by simp; omega)]; exact h4⟩
  refine HI.out.mono ?_
  intro e w1 hq
  unfold ImpP at hq
  cases himp : Tp.imps nm Sn [] is with
  | some er =>
    rw [himp] at hq
    obtain ⟨hb1, rfl⟩ := hq
    have HR2 : Hid (res = some (er.1, none)) := by unfold Hid; rw [HRES.out, himp]; exact congrArg some (Prod.ext rfl (imps_at himp))
    have H1 := Lib.hid hb1
    clear himp hb1
    unfold thrownE
    go_wp2_with fail
    refine cdies_en (eb := w.heap.size + 1) rfl rfl (HEB.out w1 H1.out) ⟨below_set (HB0.out.trans (H1.out.mono (by omega))) (by omega) 0 _, ?_⟩
    rw [HR2.out]
  | none =>
    rw [himp] at hq
    obtain ⟨hb1, ob, on, rfl, hobl, hsm⟩ := hq
    have HB1 := Lib.hid hb1
    have hsz1 := hb1.size
    have HSM := Lib.hid hsm
    have HG1 := Lib.hid (HG.out w1 (HB0.out.trans (hb1.mono (by omega))))
    have HR2 : Hid (res = Tp.up ((Tp.twP tl 0).or (((List.range pn).findSome? fun i => (Tp.twP (ol i) 0).or (sr i)).or br))) := by unfold Hid; rw [HRES.out, himp]; rfl
    obtain ⟨l0, l1, l2, l3, l4⟩ := cell_box5' ((hb1.block _ hs0).trans HBM.out)
    have hsw1 : w.heap.size < w1.heap.size := by omega
    clear himp hb1 hsm k0 k1 k2 k3 k4 HRES HI HG
    go_wp2_with fail
    refine HG1.out.mono ?_
    intro e w2 hq
    obtain ⟨hb2, hq⟩ := hq
    have HB2 : Hid (Below w0.heap.size w0 w2) := HB1.out.trans (hb2.mono hsz1)
    have hsz2 := HB2.out.size
    cases htw : Tp.twP tl 0 with
    | some er =>
      rw [htw] at hq
      have HR3 : Hid (res = some (er.1, some er.2)) := by unfold Hid; rw [HR2.out, htw]; rfl
      obtain ⟨ab, q1, rfl, q2, q3⟩ := hq.out
      have Q2 := Lib.hid q2
      have Q3 := Lib.hid q3
      clear htw hq q2 q3 hb2
      go_wp2_with fail
      exact cdies_at (eb := w.heap.size + 1) rfl rfl (HEB.out w2 HB2.out) (HOUT.out w2 er ab HB2.out (by omega) Q2.out Q3.out HR3.out)
    | none =>
      rw [htw] at hq
      obtain ⟨gb, gn', rfl, hgbl, _, hgm⟩ := hq
      have HGM := Lib.hid hgm
      have HSM2 := Lib.hid (HSM.out.on hb2)
      have HR3 : Hid (res = Tp.up (((List.range pn).findSome? fun i => (Tp.twP (ol i) 0).or (sr i)).or br)) := by unfold Hid; rw [HR2.out, htw]; rfl
      obtain ⟨j0, j1, j2, j3, j4⟩ := cell_box5' ((HB2.out.block _ hs0).trans HBM.out)
      have hsw2 : w.heap.size < w2.heap.size := by omega
      clear htw hb2 hgm l0 l1 l2 l3 l4 HSM HR2 HG1
      go_wp2_with fail
      go_loopg [18] pn (fun k vi wr => ∃ i : Nat, i ≤ pn ∧ k = pn - i ∧ vi = .int .i64 (i : Int) ∧ Hid (Below w2.heap.size w2 wr) ∧ Hid (∀ j, j < i → (Tp.twP (ol j) 0).or (sr j) = none))
      case atStart => exact ⟨0, by omega, by omega, rfl, Below.refl _ _, fun j hj => absurd hj (by omega)⟩
      case round =>
        obtain ⟨i, hid, hk, rfl, HB, HN⟩ := hrel
        have hszr := HB.out.size
        have HB3 : Hid (Below w0.heap.size w0 wr) := HB2.out.trans (HB.out.mono hsz2)
        by_cases hlt : i < pn
        · have hlt' : (i : Int) < (pn : Int) := by omega
          obtain ⟨g, x0, x1, x2, y3, y4, y5, n3, n4, n5, c3, c4, c5, hag, hgl, d0, d1, d2, d3, d4, d5, hlo, hst⟩ := HP.out i hlt
          subst hag
          have hbw : Below w.heap.size w wr := HB0.out.trans (HB3.out.mono (by omega))
          have hcell : ∀ (o : Nat) (u : Value), w.cell? ⟨g, o, none⟩ = some u → wr.cell? ⟨g, o, none⟩ = some u := fun o u h => (hbw.cell (p := ⟨g, o, none⟩) hgl).trans h
          have kc0 := hcell _ _ d0
          have kc1 := hcell _ _ d1
          have kc2 := hcell _ _ d2
          have kc3 := hcell _ _ d3
          have kc4 := hcell _ _ d4
          have kc5 := hcell _ _ d5
          have hglr : g < wr.heap.size := by have := hbw.size; omega
          have HLO := Lib.hid hlo
          have HST := Lib.hid hst
          have HBW := Lib.hid hbw
          clear d0 d1 d2 d3 d4 d5 hcell hlo hst hbw
          obtain ⟨w4, hw4⟩ : ∃ w4, w4 = wr.alloc (.cells #[.string (bs x0), .int .i64 (x1 : Int), .bool x2, .slice y3 n3 c3, .slice y4 n4 c4, .slice y5 n5 c5] 65) := ⟨_, rfl⟩
          have hb4 : Below wr.heap.size wr w4 := by rw [hw4]; exact (Below.refl _ _).alloc (Nat.le_refl _) _
          have hk4 : w4.heap[wr.heap.size]? = some (.cells #[.string (bs x0), .int .i64 (x1 : Int), .bool x2, .slice y3 n3 c3, .slice y4 n4 c4, .slice y5 n5 c5] 65 (0, 0)) := by rw [hw4]; exact new_blk _ _
          have hs4 : wr.heap.size < w4.heap.size := by rw [hw4]; simp
          have HS4 : Hid (∀ W, Below w4.heap.size w4 W → W.cell? ⟨wr.heap.size, 0, none⟩ = some (.string (bs x0)) ∧ W.cell? ⟨wr.heap.size, 1, none⟩ = some (.int .i64 (x1 : Int)) ∧ W.cell? ⟨wr.heap.size, 2, none⟩ = some (.bool x2) ∧ W.cell? ⟨wr.heap.size, 3, none⟩ = some (.slice y3 n3 c3) ∧ W.cell? ⟨wr.heap.size, 4, none⟩ = some (.slice y4 n4 c4) ∧ W.cell? ⟨wr.heap.size, 5, none⟩ = some (.slice y5 n5 c5)) := fun W hW => cell_box6 ((hW.block _ hs4).trans hk4)
          have HB4 := Lib.hid hb4
          clear hk4 hb4
          go_upto_region 7 with fail
          rw [← hw4]
          clear hw4
          refine wp_region_held_drew (S := fun W => W.cell? ⟨wr.heap.size, 0, none⟩ = some (.string (bs x0)) ∧ W.cell? ⟨wr.heap.size, 1, none⟩ = some (.int .i64 (x1 : Int)) ∧ W.cell? ⟨wr.heap.size, 2, none⟩ = some (.bool x2) ∧ W.cell? ⟨wr.heap.size, 3, none⟩ = some (.slice y3 n3 c3) ∧ W.cell? ⟨wr.heap.size, 4, none⟩ = some (.slice y4 n4 c4) ∧ W.cell? ⟨wr.heap.size, 5, none⟩ = some (.slice y5 n5 c5)) (by kernel_rfl) (HS4.out _ ((Below.refl _ _).drew)) (fun hHeld => ?_)
          refine wpAnyH_take (i := 0) (v := .pointer (some ⟨wr.heap.size, 5, none⟩)) rfl (by kernel_rfl) (by kernel_rfl) (by kernel_rfl) (fun c a w h => hq_put (by decide) _ c a w h) (Or.inl ⟨by rfl, fun W hW => by go_simp⟩) hHeld ?_
          go_frame
          refine wpAnyH_take (i := 1) (v := .slice y5 n5 c5) rfl (by kernel_rfl) (by kernel_rfl) (by kernel_rfl) (fun c a w h => hq_put (by decide) _ c a w h) (Or.inl ⟨by rfl, fun W hW => by go_simp⟩) hHeld ?_
          go_frame
          refine wpAnyH_take (i := 2) (v := .map (some ob)) rfl (by kernel_rfl) (by kernel_rfl) (by kernel_rfl) (fun c a w h => hq_put (by decide) _ c a w h) (Or.inl ⟨by rfl, fun W hW => by go_simp⟩) hHeld ?_
          go_frame
          refine wpAnyH_take (i := 3) (v := .agg #[.string (bs x0), .int .i64 (x1 : Int), .bool x2, .slice y3 n3 c3, .slice y4 n4 c4, .slice y5 n5 c5]) rfl (by kernel_rfl) (by kernel_rfl) (by kernel_rfl) (fun c a w h => hq_put (by decide) _ c a w h) (Or.inl ⟨by rfl, fun W hW => by go_simp⟩) hHeld ?_
          go_frame
          refine wpAnyH_take (i := 5) (v := .map (some gb)) rfl (by kernel_rfl) (by kernel_rfl) (by kernel_rfl) (fun c a w h => hq_put (by decide) _ c a w h) (Or.inl ⟨by rfl, fun W hW => by go_simp⟩) hHeld ?_
          go_frame
          refine wpAnyH_ready (rs := [4]) (by kernel_rfl) (by simp) ?_
          refine AllReadyH.cons rfl (fun K hK => ?_) AllReadyH.nil
          go_simp
          have HBX : Hid (Below w.heap.size w w4.drew) := (HBW.out.trans (HB4.out.mono HBW.out.size)).trans ((Below.refl _ _).drew)
          refine (HLO.out _ HBX.out).mono ?_
          intro e w5 hq
          obtain ⟨hb5, hq⟩ := hq
          have hb5' : Below w4.heap.size w4 w5 := ((Below.refl _ _).drew).trans hb5
          have HB5 : Hid (Below w0.heap.size w0 w5) := (HB3.out.trans (HB4.out.mono HB3.out.size)).trans (hb5'.mono (by have := HB4.out.size; have := HB3.out.size; omega))
          have hsz4 : wr.heap.size ≤ w4.heap.size := HB4.out.size
          have hsz5 : w4.heap.size ≤ w5.heap.size := hb5'.size
          cases htl : Tp.twP (ol i) 0 with
          | some er =>
            rw [htl] at hq
            have HR4 : Hid (res = some (er.1, some er.2)) := by
              unfold Hid
              rw [HR3.out, range_some (f := fun i => (Tp.twP (ol i) 0).or (sr i)) hlt HN.out (show (Tp.twP (ol i) 0).or (sr i) = some er by rw [htl]; rfl)]
              rfl
            obtain ⟨ab, q1, rfl, q2, q3⟩ := hq.out
            have hab : w0.heap.size ≤ ab := by have : w4.drew.heap.size = w4.heap.size := rfl; have := HB3.out.size; omega
            exact cdies_at (eb := w.heap.size + 1) rfl rfl (HEB.out w5 HB5.out) (HOUT.out w5 er ab HB5.out hab q2 q3 HR4.out)
          | none =>
            rw [htl] at hq
            obtain ⟨lb, ln, rfl, _, _, hlm⟩ := hq
            have HLM := Lib.hid hlm
            have HTL := Lib.hid htl
            have HB25 : Hid (Below w2.heap.size w2 w5) := HB.out.trans ((HB4.out.trans (hb5'.mono hsz4)).mono hszr)
            have HS5 := Lib.hid hb5'
            clear hlm htl hb5 hb5'
            go_frame
            refine hK.out _ _ (HS4.out _ HS5.out) (fun hHeld => ?_)
            clear hK
            refine wpAnyH_ready (rs := [6]) (by kernel_rfl) (by simp) ?_
            refine AllReadyH.cons rfl (fun K hK => ?_) AllReadyH.nil
            go_simp
            refine hK.out _ _ (HS4.out _ (HS5.out.alloc (by omega) _)) (fun hHeld => ?_)
            clear hK K
            refine wpAnyH_ready (rs := [7]) (by kernel_rfl) (by simp) ?_
            refine AllReadyH.cons rfl (fun K hK => ?_) AllReadyH.nil
            go_simp
            have HFD := Lib.hid (fnd_new (w := w5) (fs := [Tp.lkT (ol i), Tp.lkT tl]) (vs := [.map (some lb), .map (some gb)]) (c := 2) (t1 := 142) (t2 := 90) (t3 := 199) (HSM2.out.on HB25.out) rfl (fun j hj => by
              match j, hj with
              | 0, _ => exact ⟨lb, ln, rfl, HLM.out⟩
              | 1, _ => exact ⟨gb, gn', rfl, HGM.out.on (HB25.out.block _ HGM.out.lt)⟩))
            refine (finder_any _ (.map (some ob)) (.slice (some ⟨w5.heap.size, 0, none⟩) 2 2) ⟨_, rfl⟩ ⟨_, _, _, rfl⟩).mono ?_
            rintro e w7 ⟨rfl, hw7⟩
            have hb7 : Below w5.heap.size w5 w7 := by rw [hw7]; exact (((Below.refl _ _).alloc (Nat.le_refl _) _).alloc (by simp) _).alloc (by simp; omega) _
            have hfd : Fnd w7 (w5.heap.size + 1) (fun k => if k ∈ is then Sn k else none) [Tp.lkT (ol i), Tp.lkT tl] := by rw [hw7]; exact HFD.out
            have hsz57 := hb7.size
            have hsz7 : (w5.alloc (.cells #[.map (some lb), .map (some gb)] 142)).heap.size = w5.heap.size + 1 := by simp
            rw [hsz7]
            have HB7 : Hid (Below w.heap.size w w7) := (HB0.out.trans (HB5.out.mono (by omega))).trans (hb7.mono (by have := HB5.out.size; omega))
            have HB07 : Hid (Below w0.heap.size w0 w7) := HB5.out.trans (hb7.mono HB5.out.size)
            have HS7 := Lib.hid (HS5.out.trans (hb7.mono hsz5))
            have HB27 : Hid (Below w2.heap.size w2 w7) := HB25.out.trans (hb7.mono HB25.out.size)
            have HCS := Lib.hid (HST.out w7 (w5.heap.size + 1) HB7.out hfd)
            clear hw7 hfd hb7 HFD
            simp only [finderV] at HCS ⊢
            try go_frame
            refine hK.out _ _ (HS4.out _ HS7.out) (fun hHeld => ?_)
            clear hK K
            refine wpAnyH_ready (rs := [8]) (by kernel_rfl) (by simp) ?_
            refine AllReadyH.cons rfl (fun K hK => ?_) AllReadyH.nil
            go_simp
            refine HCS.out.mono ?_
            intro e w8 hq
            obtain ⟨hb8, hq⟩ := hq
            have HB08 : Hid (Below w0.heap.size w0 w8) := HB07.out.trans (hb8.mono HB07.out.size)
            have hsz7' := HB07.out.size
            cases hsr : sr i with
            | some er =>
              rw [hsr] at hq
              have HR4 : Hid (res = some (er.1, some er.2)) := by
                unfold Hid
                rw [HR3.out, range_some (f := fun i => (Tp.twP (ol i) 0).or (sr i)) hlt HN.out (show (Tp.twP (ol i) 0).or (sr i) = some er by rw [HTL.out, hsr]; rfl)]
                rfl
              obtain ⟨ab, q1, rfl, q2, q3⟩ := hq.out
              exact cdies_at (eb := w.heap.size + 1) rfl rfl (HEB.out w8 HB08.out) (HOUT.out w8 er ab HB08.out (by omega) q2 q3 HR4.out)
            | none =>
              rw [hsr] at hq
              simp only at hq
              subst hq
              have HB28 : Hid (Below w2.heap.size w2 w8) := HB27.out.trans (hb8.mono HB27.out.size)
              have HN8 : Hid (∀ j, j < i + 1 → (Tp.twP (ol j) 0).or (sr j) = none) := fun j hj => by
                rcases Nat.lt_or_ge j i with q | q
                · exact HN.out j q
                · have : j = i := by omega
                  subst this
                  rw [HTL.out, hsr]
                  rfl
              have HS8 := Lib.hid (HS7.out.trans (hb8.mono HS7.out.size))
              clear hsr hb8 HCS
              go_frame
              refine hK.out _ _ (HS4.out _ HS8.out) (fun hHeld => ?_)
              clear hK K
              refine wpAnyH_done (by kernel_rfl) ?_ _
              clear hHeld
              go_wp2_with fail
              go_roundg (pn - (i + 1))
              case measure => omega
              case rel => exact ⟨i + 1, by omega, rfl, by go_num, HB28, HN8⟩
        · have hlt' : ¬ (i : Int) < (pn : Int) := by omega
          have HFS : Hid ((List.range pn).findSome? (fun i => (Tp.twP (ol i) 0).or (sr i)) = none) := range_none (fun j hj => HN.out j (by omega))
          have HR4 : Hid (res = Tp.up br) := by unfold Hid; rw [HR3.out, HFS.out]; rfl
          have hsz3 := HB3.out.size
          have HS4 : Hid (∀ W, Below wr.heap.size wr W → W.cell? ⟨w.heap.size, 4, none⟩ = some (.slice ba bn bc)) := fun W hW => (cell_box5' ((hW.block _ (by omega)).trans ((HB3.out.block _ hs0).trans HBM.out))).2.2.2.2
          have k4 := HS4.out wr (Below.refl _ _)
          have hswr : w.heap.size < wr.heap.size := by omega
          clear HFS
          go_upto_region 9 with fail
          refine wp_region_held_drew (S := fun W => W.cell? ⟨w.heap.size, 4, none⟩ = some (.slice ba bn bc)) (by kernel_rfl) (HS4.out _ ((Below.refl _ _).drew)) (fun hHeld => ?_)
          refine wpAnyH_take (i := 0) (v := .pointer (some ⟨w.heap.size, 4, none⟩)) rfl (by kernel_rfl) (by kernel_rfl) (by kernel_rfl) (fun c a w h => hq_put (by decide) _ c a w h) (Or.inl ⟨by rfl, fun W hW => by go_simp⟩) hHeld ?_
          go_frame
          refine wpAnyH_take (i := 1) (v := .slice ba bn bc) rfl (by kernel_rfl) (by kernel_rfl) (by kernel_rfl) (fun c a w h => hq_put (by decide) _ c a w h) (Or.inl ⟨by rfl, fun W hW => by go_simp⟩) hHeld ?_
          go_frame
          refine wpAnyH_take (i := 2) (v := .map (some ob)) rfl (by kernel_rfl) (by kernel_rfl) (by kernel_rfl) (fun c a w h => hq_put (by decide) _ c a w h) (Or.inl ⟨by rfl, fun W hW => by go_simp⟩) hHeld ?_
          go_frame
          refine wpAnyH_take (i := 3) (v := .map (some gb)) rfl (by kernel_rfl) (by kernel_rfl) (by kernel_rfl) (fun c a w h => hq_put (by decide) _ c a w h) (Or.inl ⟨by rfl, fun W hW => by go_simp⟩) hHeld ?_
          go_frame
          refine wpAnyH_ready (rs := [4]) (by kernel_rfl) (by simp) ?_
          refine AllReadyH.cons rfl (fun K hK => ?_) AllReadyH.nil
          go_simp
          refine hK.out _ _ (HS4.out _ (((Below.refl _ _).alloc (Nat.le_refl _) _).drew)) (fun hHeld => ?_)
          clear hK K
          refine wpAnyH_ready (rs := [5]) (by kernel_rfl) (by simp) ?_
          refine AllReadyH.cons rfl (fun K hK => ?_) AllReadyH.nil
          go_simp
          have HFD := Lib.hid (fnd_new (w := wr.drew) (fs := [Tp.lkT tl]) (vs := [.map (some gb)]) (c := 1) (t1 := 142) (t2 := 90) (t3 := 199) (HSM2.out.on (HB.out.trans ((Below.refl _ _).drew))) rfl (fun j hj => by
            match j, hj with
            | 0, _ => exact ⟨gb, gn', rfl, HGM.out.on (HB.out.block _ HGM.out.lt)⟩))
          refine (finder_any _ (.map (some ob)) (.slice (some ⟨wr.heap.size, 0, none⟩) 1 1) ⟨_, rfl⟩ ⟨_, _, _, rfl⟩).mono ?_
          rintro e w7 ⟨rfl, hw7⟩
          have hb7 : Below wr.heap.size wr w7 := by rw [hw7]; exact ((((Below.refl _ _).alloc (Nat.le_refl _) _).drew).alloc (by simp) _).alloc (by simp; omega) _
          have hfd : Fnd w7 (wr.heap.size + 1) (fun k => if k ∈ is then Sn k else none) [Tp.lkT tl] := by rw [hw7]; exact HFD.out
          have hsz57 := hb7.size
          have hsz7 : (wr.alloc (.cells #[.map (some gb)] 142)).drew.heap.size = wr.heap.size + 1 := by simp
          rw [hsz7]
          have HB07 : Hid (Below w0.heap.size w0 w7) := HB3.out.trans (hb7.mono hsz3)
          have HB7 : Hid (Below w.heap.size w w7) := HB0.out.trans (HB07.out.mono (by omega))
          have HS7 := Lib.hid hb7
          have HCS := Lib.hid (HBD.out w7 (wr.heap.size + 1) HB7.out hfd)
          clear hw7 hfd hb7 HFD
          simp only [finderV] at HCS ⊢
          try go_frame
          refine hK.out _ _ (HS4.out _ HS7.out) (fun hHeld => ?_)
          clear hK K
          refine wpAnyH_ready (rs := [6]) (by kernel_rfl) (by simp) ?_
          refine AllReadyH.cons rfl (fun K hK => ?_) AllReadyH.nil
          go_simp
          refine HCS.out.mono ?_
          intro e w8 hq
          obtain ⟨hb8, hq⟩ := hq
          have HB08 : Hid (Below w0.heap.size w0 w8) := HB07.out.trans (hb8.mono HB07.out.size)
          have hsz7' := HB07.out.size
          cases hbr : br with
          | some er =>
            rw [hbr] at hq
            have HR5 : Hid (res = some (er.1, some er.2)) := by unfold Hid; rw [HR4.out, hbr]; rfl
            obtain ⟨ab, q1, rfl, q2, q3⟩ := hq.out
            exact cdies_at (eb := w.heap.size + 1) rfl rfl (HEB.out w8 HB08.out) (HOUT.out w8 er ab HB08.out (by omega) q2 q3 HR5.out)
          | none =>
            rw [hbr] at hq
            simp only at hq
            subst hq
            have HR5 : Hid (res = none) := by unfold Hid; rw [HR4.out, hbr]; rfl
            have HS8 := Lib.hid (HS7.out.trans (hb8.mono HS7.out.size))
            clear hbr hb8 HCS
            try go_frame
            refine hK.out _ _ (HS4.out _ HS8.out) (fun hHeld => ?_)
            clear hK K
            refine wpAnyH_done (by kernel_rfl) ?_ _
            clear hHeld
            have he := HEB.out w8 HB08.out
            have ke : w8.cell? ⟨w.heap.size + 1, 0, none⟩ = some .nilIface := (cell_blk he).trans rfl
            have ze : w8.frozen? ⟨w.heap.size + 1, 0, none⟩ = false := frozen_blk he
            have hle8 : w.heap.size + 1 < w8.heap.size := lt_blk he
            have HE8 := Lib.hid he
            clear he
            go_wp2_with fail
            obtain ⟨wd, hwd⟩ : ∃ wd, wd = w8.setCell ⟨w.heap.size + 1, 0, none⟩ .nilIface := ⟨_, rfl⟩
            rw [← hwd]
            have kd : wd.cell? ⟨w.heap.size + 1, 0, none⟩ = some .nilIface := by rw [hwd]; exact (cell_blk (set_blk 0 .nilIface HE8.out)).trans rfl
            have hfin : CheckP w res (.returned .nilIface) wd := by
              refine ⟨by rw [hwd]; exact below_set (HB0.out.trans (HB08.out.mono (by omega))) (by omega) 0 _, ?_⟩
              rw [HR5.out]
            clear hwd
            refine leaves_cons (f := 77) (args := #[.pointer (some ⟨w.heap.size + 1, 0, none⟩)]) (by simp) (by simp [go_sem]) ?_
            refine (clate_idle ⟨w.heap.size + 1, 0, none⟩ wd).mono ?_
            rintro e u' w'' ⟨rfl, rfl, rfl⟩
            simp [Leaves, settle, results, Tryz.results37, go_sem, kd]
            exact hfin
end Go.Proofs.YtibncofnnlbmcaaGreatDoor
/- check: Check's contract. -/
namespace Go.Proofs.YtibncofnnlbmcaaGreatDoor
open Go.RowKit
open Tp (Bs Th Sy Seen X S G Pr)

def olOf (m : Tp.M) (i : Nat) : List Th := match m.procs[i]? with
  | some p => Tp.ownT p
  | none => []
def srOf (m : Tp.M) (Sn : Seen) (i : Nat) : Option (Nat × Nat) := match m.procs[i]? with
  | some p => (Tp.rs p.body).findSome? (Tp.judgeP (Tp.standV (Tp.others m Sn) [Tp.lkT (Tp.ownT p), Tp.lkT (Tp.things m)]))
  | none => none
theorem row_strs {w : World} {D : Nat → Prop} {a : Option Addr} {c : Nat} {l : List Bs} (h : Row w D 9 1 (.slice a l.length c) l.length (strs l)) (i : Nat) (hi : i < l.length) : ∃ g, a = some ⟨g, 0, none⟩ ∧ g < w.heap.size ∧ w.cell? ⟨g, i, none⟩ = some (.string (bs l[i])) := by
  obtain ⟨g, cap, q1, _, q3, q4⟩ := row_cell h (by omega)
  cases q1
  refine ⟨g, rfl, q3, (q4 i (by omega)).trans ?_⟩
  simp [strs, hi]
theorem check_post {m : Tp.M} (hm : Tp.Sml m) {w : World} {ia ga pa ba : Option Addr} {ic gc pc bc : Nat} (h : MB w w.heap.size m ia ga pa ba ic gc pc bc) {sv : Value} {Sn : Seen} (hS : SeenV w sv Sn) :
    Calls Tryz.prog 37 #[.agg (mcells (bs m.name) (.slice ia m.imports.length ic) (.slice ga m.vars.length gc) (.slice pa m.procs.length pc) (.slice ba m.body.length bc)), sv] w (CheckP w (Tp.check m Sn)) := by
  have hsv : ∃ so, sv = .map so := by
    rcases hS with ⟨q, _⟩ | ⟨sb, n, q, _⟩
    · exact ⟨_, q⟩
    · exact ⟨_, q⟩
  have hpp : ∀ W, Below w.heap.size w W → ∀ i (hi : i < m.procs.length), ∃ (g : Nat) (pa' va ba' : Option Addr) (pc' vc bc' : Nat) (bcs : List Value), pa = some ⟨g, 0, none⟩ ∧ g < w.heap.size ∧ (∀ j, j < 6 → W.cell? ⟨g, i * 6 + j, none⟩ = (pcells (bs m.procs[i].name) (m.procs[i].pos : Int) m.procs[i].seen (.slice pa' m.procs[i].params.length pc') (.slice va m.procs[i].vars.length vc) (.slice ba' m.procs[i].body.length bc')).toList[j]?) ∧
      Row W (fun b => b < w.heap.size) 9 1 (.slice pa' m.procs[i].params.length pc') m.procs[i].params.length (strs m.procs[i].params) ∧ Row W (fun b => b < w.heap.size) 9 1 (.slice va m.procs[i].vars.length vc) m.procs[i].vars.length (strs m.procs[i].vars) ∧ RepS W (fun b => b < w.heap.size) m.procs[i].body bcs ∧ OwnS W (fun b => b < w.heap.size) (.slice ba' m.procs[i].body.length bc') m.procs[i].body.length bcs := by
    intro W hW i hi
    obtain ⟨pcs, p1, p2⟩ := (h.on hW).pr
    obtain ⟨g, cap, q1, q2, q3, q4⟩ := row_cell p2 (by omega)
    cases q1
    obtain ⟨pv, vv, bv, bcs', r1, r2, r3, r4, r5⟩ := repp_get m.procs pcs p1 i hi
    obtain ⟨y3, c3, rfl⟩ := r2.shape
    obtain ⟨y4, c4, rfl⟩ := r3.shape
    obtain ⟨y5, c5, rfl⟩ := r5.shape
    exact ⟨g, y3, y4, y5, c3, c4, c5, bcs', rfl, q2, fun j hj => (q4 (i * 6 + j) (by omega)).trans (r1 j hj), r2, r3, r4, r5⟩
  refine check_walk (is := m.imports) (Sn := Sn) (tl := Tp.things m) (ol := olOf m) (sr := srOf m Sn) (br := (Tp.rs m.body).findSome? (Tp.judgeP (Tp.standV (Tp.others m Sn) [Tp.lkT (Tp.things m)]))) hsv ?_ ?_ ?_ ?_ hm.pc ?_
  · intro W hW
    refine imported_walk (fun i hi => ?_) rfl hm.ic (hS.on hW)
    obtain ⟨g, q1, q2, q3⟩ := row_strs (h.on hW).im i hi
    exact ⟨g, m.imports[i], q1, q2, q3, hm.im _ (List.getElem_mem hi), List.getElem?_eq_getElem hi⟩
  · intro W hW
    have hgl := (h.on hW).gl
    refine globals_walk (l := Tp.things m) (fun i hi => ?_) (fun i hi => ?_) (by simp [Tp.things]) hm.gc hm.pc
    · obtain ⟨g, cap, q1, q2, q3, q4⟩ := row_cell hgl (by omega)
      cases q1
      have hc := fun j (hj : j < 4) => (q4 (i * 4 + j) (by omega)).trans (gcs_get m.vars i hi j hj)
      refine ⟨g, m.vars[i].name, m.vars[i].pos, m.vars[i].len, m.vars[i].seen, rfl, q3, hc 0 (by omega), hc 1 (by omega), hc 2 (by omega), hc 3 (by omega), hm.g _ (List.getElem_mem hi), ?_⟩
      unfold Tp.things
      rw [List.getElem?_append_left (by simpa using hi)]
      simp [hi, Tp.thG]
    · obtain ⟨g, y3, y4, y5, c3, c4, c5, bcs, q1, q2, q3, _⟩ := hpp W hW i hi
      refine ⟨g, m.procs[i].name, m.procs[i].pos, m.procs[i].seen, y3, y4, y5, m.procs[i].params.length, m.procs[i].vars.length, m.procs[i].body.length, c3, c4, c5, q1, Nat.lt_of_lt_of_le q2 hW.size, q3 0 (by omega), q3 1 (by omega), q3 2 (by omega), q3 3 (by omega), q3 4 (by omega), q3 5 (by omega), (hm.p _ (List.getElem_mem hi)).1, ?_⟩
      unfold Tp.things
      rw [List.getElem?_append_right (by simp)]
      simp [hi, Tp.thP]
  · intro i hi
    obtain ⟨g, y3, y4, y5, c3, c4, c5, bcs, q1, q2, q3, q4, q5, q6, q7⟩ := hpp w (Below.refl _ _) i hi
    have hmp := hm.p _ (List.getElem_mem hi)
    have hol : olOf m i = Tp.ownT m.procs[i] := by unfold olOf; rw [List.getElem?_eq_getElem hi]
    have hsr : srOf m Sn i = (Tp.rs m.procs[i].body).findSome? (Tp.judgeP (Tp.standV (Tp.others m Sn) [Tp.lkT (Tp.ownT m.procs[i]), Tp.lkT (Tp.things m)])) := by unfold srOf; rw [List.getElem?_eq_getElem hi]
    refine ⟨g, m.procs[i].name, m.procs[i].pos, m.procs[i].seen, y3, y4, y5, m.procs[i].params.length, m.procs[i].vars.length, m.procs[i].body.length, c3, c4, c5, q1, q2, q3 0 (by omega), q3 1 (by omega), q3 2 (by omega), q3 3 (by omega), q3 4 (by omega), q3 5 (by omega), fun W hW => ?_, fun W b hW hF => ?_⟩
    · rw [hol]
      have hk : ∀ b, b < w.heap.size → b < w.heap.size → W.heap[b]? = w.heap[b]? ∧ b < w.heap.size := fun b hi _ => ⟨hW.block b hi, hi⟩
      refine locals_walk (fun j hj => ?_) (fun j hj => ?_) (by simp [Tp.ownT, Tp.ownOf]) hmp.2.1 hmp.2.2.1
      · obtain ⟨g', a1, a2, a3⟩ := row_strs (q4.mono hk) j hj
        refine ⟨g', m.procs[i].params[j], a1, a2, a3, hmp.2.2.2.1 _ (List.getElem_mem hj), ?_⟩
        rw [Nat.zero_add]
        unfold Tp.ownT Tp.ownOf
        rw [List.map_append, List.getElem?_append_left (by simpa using hj)]
        simp [hj]
      · obtain ⟨g', a1, a2, a3⟩ := row_strs (q5.mono hk) j hj
        refine ⟨g', m.procs[i].vars[j], a1, a2, a3, hmp.2.2.2.2.1 _ (List.getElem_mem hj), ?_⟩
        unfold Tp.ownT Tp.ownOf
        rw [List.map_append, List.getElem?_append_right (by simp)]
        simp [hj]
    · rw [hsr]
      rw [hol] at hF
      have hk : ∀ b, b < w.heap.size → b < w.heap.size → W.heap[b]? = w.heap[b]? ∧ b < w.heap.size := fun b hi _ => ⟨hW.block b hi, hi⟩
      exact checkStmts_all hF (by simp) _ _ (Nat.le_refl _) hmp.2.2.2.2.2 W (fun b => b < w.heap.size) _ bcs (Below.refl _ _) (q6.mono' hk) (q7.mono hk)
  · intro W b hW hF
    obtain ⟨bcs, b1, b2⟩ := (h.on hW).bd
    exact checkStmts_all hF (by simp) _ _ (Nat.le_refl _) hm.b W (fun b => b < w.heap.size) _ bcs (Below.refl _ _) b1 b2
  · rw [Tp.check_eq]
    congr 2
    unfold Tp.checkV
    congr 2
    rw [Tp.find_idx]
    congr 1
    funext i
    unfold olOf srOf
    cases m.procs[i]? with
    | none => rw [Option.bind_none, Tp.twP]; rfl
    | some p => rfl
end Go.Proofs.YtibncofnnlbmcaaGreatDoor
/- The Errno in an error: errors.As at a *Errno, Tell. -/
namespace Go.Proofs.YtibncofnnlbmcaaGreatDoor
open Go.RowKit Go.Extern.Stop Go.Stop Go.Extern

theorem rl_valueP (t : Addr) (w : World) : (ReflectliteValue.unpack (.iface 113 (.pointer (some t)))).run Tryz.prog w
    = .ok (.agg #[.pointer (some ⟨7, 113, none⟩), .pointer (some ⟨w.heap.size, 0, none⟩), .int .u64 150]) (w.alloc (.cells #[.pointer (some t)] 113)) := by kernel_rfl
theorem rl_valueE (n : Int) (w : World) : (ReflectliteValue.unpack (.iface 44 (.int .i64 n))).run Tryz.prog w
    = .ok (.agg #[.pointer (some ⟨7, 44, none⟩), .pointer (some ⟨w.heap.size, 0, none⟩), .int .u64 130]) (w.alloc (.cells #[.int .i64 n] 44)) := by kernel_rfl
theorem rl_typeP (a : Addr) (w : World) : (ReflectliteValue.methodAny (ReflectliteValue.valueError "reflectlite.Value.Type" 0) (fun t _ _ _ => ReflectliteType.toType t) #[.agg #[.pointer (some ⟨7, 113, none⟩), .pointer (some a), .int .u64 150]]).run Tryz.prog w
    = .ok (.iface 223 (.agg #[.pointer (some ⟨7, 113, none⟩)])) w := by kernel_rfl
theorem rl_kindP (w : World) : ((ReflectliteType.abiMethod fun t => (fun a : Nat => Value.int IntKind.u8 (a : Int)) <$> Rtype.kind t) #[.pointer (some ⟨7, 113, none⟩)]).run Tryz.prog w = .ok (.int .u8 22) w := by kernel_rfl
theorem rl_kindE (w : World) : ((ReflectliteType.abiMethod fun t => (fun a : Nat => Value.int IntKind.u8 (a : Int)) <$> Rtype.kind t) #[.pointer (some ⟨7, 44, none⟩)]).run Tryz.prog w = .ok (.int .u8 2) w := by kernel_rfl
theorem rlm (z : Sem Value) (f : TypeId → Addr → Nat → Nat → Sem Value) (v : Value) :
    ReflectliteValue.method z f #[v] = (do match ← ReflectliteValue.parts v with | none => z | some (t, a, fl) => f t a fl (fl % 32)) := rfl
theorem rl_partsP (a : Addr) (w : World) : (ReflectliteValue.parts (.agg #[.pointer (some ⟨7, 113, none⟩), .pointer (some a), .int .u64 150])).run Tryz.prog w = .ok (some (113, a, 150)) w := by kernel_rfl
theorem rl_isNil (a p : Addr) (W : World) (ha : W.cell? a = some (.pointer (some p))) :
    (ReflectliteValue.method (ReflectliteValue.valueError "reflectlite.Value.IsNil" 0) ReflectliteValue.isNil #[.agg #[.pointer (some ⟨7, 113, none⟩), .pointer (some a), .int .u64 150]]).run Tryz.prog W = .ok (.bool false) W := by
  rw [rlm]
  simp only [Sem.run_bind, rl_partsP, Result.andThen]
  simp [ReflectliteValue.isNil, loadVar, isAgg, underlying, Tryz.underlying113, ha, Result.andThen]
theorem rl_elem (w : World) : (ReflectliteType.method ReflectliteType.elem #[.agg #[.pointer (some ⟨7, 113, none⟩)]]).run Tryz.prog w = .ok (.iface 223 (.agg #[.pointer (some ⟨7, 44, none⟩)])) w := by kernel_rfl
theorem rl_implements (w : World) : (ReflectliteType.relation "Implements" ReflectliteType.implements_ #[.agg #[.pointer (some ⟨7, 44, none⟩)], .iface 223 (.agg #[.pointer (some ⟨7, 38, none⟩)])]).run Tryz.prog w = .ok (.bool true) w := by kernel_rfl
theorem rl_typeOfE (n : Int) (w : World) : (ReflectliteType.typeOf #[.iface 44 (.int .i64 n)]).run Tryz.prog w = .ok (.iface 223 (.agg #[.pointer (some ⟨7, 44, none⟩)])) w := by kernel_rfl
theorem rl_typeOfA (v : Value) (w : World) : (ReflectliteType.typeOf #[.iface 117 v]).run Tryz.prog w = .ok (.iface 223 (.agg #[.pointer (some ⟨7, 117, none⟩)])) w := by kernel_rfl
theorem rl_assignE (w : World) : (ReflectliteType.relation "AssignableTo" ReflectliteType.assignableTo #[.agg #[.pointer (some ⟨7, 44, none⟩)], .iface 223 (.agg #[.pointer (some ⟨7, 44, none⟩)])]).run Tryz.prog w = .ok (.bool true) w := by kernel_rfl
theorem rl_assignA (w : World) : (ReflectliteType.relation "AssignableTo" ReflectliteType.assignableTo #[.agg #[.pointer (some ⟨7, 117, none⟩)], .iface 223 (.agg #[.pointer (some ⟨7, 44, none⟩)])]).run Tryz.prog w = .ok (.bool false) w := by kernel_rfl
theorem rl_elemOf (w : World) : (Rtype.elem? 113).run Tryz.prog w = .ok (some 44) w := by kernel_rfl
theorem rl_mk (p : Addr) (w : World) : (ReflectliteValue.mk 44 p ReflectliteValue.flagAddr).run Tryz.prog w = .ok (.agg #[.pointer (some ⟨7, 44, none⟩), .pointer (some p), .int .u64 386]) w := by kernel_rfl
theorem rl_elemV (a p : Addr) (W : World) (ha : W.cell? a = some (.pointer (some p))) :
    (ReflectliteValue.method (ReflectliteValue.valueError "reflectlite.Value.Elem" 0) ReflectliteValue.elem #[.agg #[.pointer (some ⟨7, 113, none⟩), .pointer (some a), .int .u64 150]]).run Tryz.prog W
      = .ok (.agg #[.pointer (some ⟨7, 44, none⟩), .pointer (some p), .int .u64 386]) W := by
  rw [rlm]
  simp only [Sem.run_bind, rl_partsP, Result.andThen]
  simp [ReflectliteValue.elem, loadVar, isAgg, underlying, Tryz.underlying113, ha, Result.andThen, rl_elemOf, rl_mk]
theorem rl_partsA (a : Addr) (w : World) : (ReflectliteValue.parts (.agg #[.pointer (some ⟨7, 44, none⟩), .pointer (some a), .int .u64 386])).run Tryz.prog w = .ok (some (44, a, 386)) w := by kernel_rfl
theorem rl_partsE (a : Addr) (w : World) : (ReflectliteValue.parts (.agg #[.pointer (some ⟨7, 44, none⟩), .pointer (some a), .int .u64 130])).run Tryz.prog w = .ok (some (44, a, 130)) w := by kernel_rfl
theorem rl_direct (w : World) : (Rtype.directlyAssignable 44 44).run Tryz.prog w = .ok true w := by kernel_rfl
theorem rl_set (ta b : Addr) (n : Int) (old : Value) (W : World) (hb : W.cell? b = some (.int .i64 n)) (ht : W.cell? ta = some old) (hf : W.frozen? ta = false) :
    (ReflectliteValue.set #[.agg #[.pointer (some ⟨7, 44, none⟩), .pointer (some ta), .int .u64 386], .agg #[.pointer (some ⟨7, 44, none⟩), .pointer (some b), .int .u64 130]]).run Tryz.prog W
      = .ok (.tuple #[]) (W.setCell ta (.int .i64 n)) := by
  refine Eq.trans (congrArg (fun s : Sem Value => s.run Tryz.prog W) (show ReflectliteValue.set #[.agg #[.pointer (some ⟨7, 44, none⟩), .pointer (some ta), .int .u64 386], .agg #[.pointer (some ⟨7, 44, none⟩), .pointer (some b), .int .u64 130]] = (ReflectliteValue.parts (.agg #[.pointer (some ⟨7, 44, none⟩), .pointer (some ta), .int .u64 386]) >>= fun p => ReflectliteValue.parts (.agg #[.pointer (some ⟨7, 44, none⟩), .pointer (some b), .int .u64 130]) >>= fun q => _) from rfl)) ?_
  simp only [Sem.run_bind, rl_partsA, rl_partsE, Result.andThen]
  simp [ReflectliteValue.flagAddr, loadVar, isAgg, underlying, Tryz.underlying44, hb, Result.andThen, rl_direct, storeVar, Value.cells, storeCells, Addr.add]
  rw [run_store Tryz.prog W ta _ _ (by rfl)]
  simp [ht, hf]
end Go.Proofs.YtibncofnnlbmcaaGreatDoor
