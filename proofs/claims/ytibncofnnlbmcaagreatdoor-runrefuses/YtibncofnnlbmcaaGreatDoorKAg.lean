import Derived.Test.YtibncofnnlbmcaaGreatDoorKAf
/- Chapter 4: Swap, what leads back, what is used otherwise: refused; done. -/
namespace Go.Proofs.YtibncofnnlbmcaaGreatDoor
open Go.RowKit Go.Maps
open Tp (Bs X S G Pr Pt Rs Rr Own)

def SwapQ (X U : Nat → Prop) (c : Nat) (w : World) (wb : Nat) (a : Tp.Ans) (e : Ending) (w' : World) : Prop := ∃ ev, e = .returned ev ∧ (∃ U', WZ X U' (c + 1) w' wb a.w ∧ Tr U U' w w') ∧ EvT w.heap.size w' a.err ev
set_option maxRecDepth 100000 in
set_option maxHeartbeats 4000000 in
theorem swap_cyc {X : Nat → Prop} {w : World} {wb : Nat} {L : List Lo} {P : List Pt} {nv : Value} {tv : Option Nat} {m : Tp.M} {ia ga pa ba : Option Addr} {ic gc pc bc : Nat} (h : WX X w wb L P nv tv) (hL : L.length ≤ 10) (hmb : MB w w.heap.size m ia ga pa ba ic gc pc bc) (hm : Tp.WM m) {lo : Lo} (hlo : lo ∈ L) (hlm : lo.m.name = m.name) (hptr : ptrV L m.name = some ⟨lo.lb, 0, none⟩) (hWI : Tp.WI ofS P) (hnP : ∀ x ∈ Tp.ms P, Tp.nM x ≤ 1000) (hck : Tp.check m (Tp.seenW ofS P) = none) (hcyc : (m.imports.any fun n => @decide (Tp.Leads P n m.name) (Classical.propDecidable _)) = true) :
    Calls Tryz.prog 18 #[.pointer (some ⟨wb, 0, none⟩), .agg (mcells (bs m.name) (.slice ia m.imports.length ic) (.slice ga m.vars.length gc) (.slice pa m.procs.length pc) (.slice ba m.body.length bc))] w (ErrS w (11, none)) := by
  have hnl := okn_1000 hm.n
  have hwl := lt_blk h.blk
  obtain ⟨W, hW⟩ : ∃ W, W = (w.alloc (.cells #[.pointer (some ⟨wb, 0, none⟩)] 47)).alloc (.cells (mcells (bs m.name) (.slice ia m.imports.length ic) (.slice ga m.vars.length gc) (.slice pa m.procs.length pc) (.slice ba m.body.length bc)) 36) := ⟨_, rfl⟩
  have hbW : Below w.heap.size w W := by rw [hW]; exact ((Below.refl _ _).alloc (Nat.le_refl _) _).alloc (by simp) _
  have hsW : W.heap.size = w.heap.size + 2 := by rw [hW]; simp
  have hkp : W.heap[w.heap.size]? = some (.cells #[.pointer (some ⟨wb, 0, none⟩)] 47 (0, 0)) := by rw [hW]; exact (Below.heap_alloc _ _ _ (by simp)).trans (new_blk _ _)
  have hkm : W.heap[w.heap.size + 1]? = some (.cells (mcells (bs m.name) (.slice ia m.imports.length ic) (.slice ga m.vars.length gc) (.slice pa m.procs.length pc) (.slice ba m.body.length bc)) 36 (0, 0)) := by rw [hW]; exact new_blk1 _ _ _
  obtain ⟨W3, hW3⟩ : ∃ W3, W3 = (W.alloc (.cells #[.pointer (some ⟨lo.lb, 0, none⟩)] 88)).drew := ⟨_, rfl⟩
  have hb3 : Below W.heap.size W W3 := by rw [hW3]; exact ((Below.refl _ _).alloc (Nat.le_refl _) _).drew
  have hs3 : W3.heap.size = w.heap.size + 3 := by rw [hW3]; show (W.alloc _).heap.size = _; simp [hsW]
  have hkw : W3.heap[w.heap.size + 2]? = some (.cells #[.pointer (some ⟨lo.lb, 0, none⟩)] 88 (0, 0)) := by
    rw [hW3]
    have := new_blk W (.cells #[.pointer (some ⟨lo.lb, 0, none⟩)] 88)
    rw [hsW] at this
    exact this
  have hww := (hbW.block wb hwl).trans h.blk
  have k1 : W.cell? ⟨wb, 1, none⟩ = some (.map tv) := (cell_blk hww).trans rfl
  have km : W.cell? ⟨w.heap.size + 1, 0, none⟩ = some (.string (bs m.name)) := (cell_blk hkm).trans rfl
  have kp : W.cell? ⟨w.heap.size, 0, none⟩ = some (.pointer (some ⟨wb, 0, none⟩)) := (cell_blk hkp).trans rfl
  have hlk : ∀ V, Below W.heap.size W V → (Instr.lookup 26 (.map tv) (.string (bs m.name)) false).run Tryz.prog V = .ok (.pointer (some ⟨lo.lb, 0, none⟩)) V := fun V hV => by
    have := ((h.on hbW).on hV).look m.name (by omega)
    rw [hptr] at this
    exact this
  have hlk1 := hlk W (Below.refl _ _)
  have hlk2 := hlk W.drew ((Below.refl _ _).drew)
  have hlk3 := hlk (W.alloc (.cells #[.pointer none] 88)).drew (((Below.refl _ _).alloc (Nat.le_refl _) _).drew)
  have HMB := Lib.hid hmb
  have HSM := Lib.hid hm.sml
  have HB3 : Hid (Below w.heap.size w W3) := hbW.trans (hb3.mono (by omega))
  have HKM : Hid (W3.heap[w.heap.size + 1]? = _) := (hb3.block _ (lt_blk hkm)).trans hkm
  have HKP : Hid (W3.heap[w.heap.size]? = _) := (hb3.block _ (lt_blk hkp)).trans hkp
  have HKW := Lib.hid hkw
  have HM := Lib.hid hm
  have HWX := Lib.hid h
  have HS3 := Lib.hid hs3
  have hwlW : wb < W.heap.size := by omega
  have hmlW : w.heap.size + 1 < W.heap.size := by omega
  have hplW : w.heap.size < W.heap.size := by omega
  have k2 : W3.cell? ⟨W.heap.size, 0, none⟩ = some (.pointer (some ⟨lo.lb, 0, none⟩)) := by rw [hsW]; exact (cell_blk hkw).trans rfl
  have h2l : W.heap.size < W3.heap.size := by omega
  have HSW := Lib.hid hsW
  have HHCK0 : Hid (Tp.check m (Tp.seenW ofS P) = none) := hck
  have HWI := Lib.hid hWI
  have HNP := Lib.hid hnP
  have HLO : Hid (lo ∈ L ∧ lo.m.name = m.name) := ⟨hlo, hlm⟩
  have HCYC : Hid ((m.imports.any fun n => @decide (Tp.Leads P n m.name) (Classical.propDecidable _)) = true) := hcyc
  unfold mcells at *
  obtain ⟨mn, hmn⟩ : ∃ mn, mn = bs m.name := ⟨_, rfl⟩
  obtain ⟨Sn, hSn⟩ : ∃ Sn, Sn = Tp.seenW ofS P := ⟨_, rfl⟩
  have HCK : Hid (∀ W' sb, Below w.heap.size w W' → SeenV W' (.map (some sb)) Sn → Calls Tryz.prog 37 #[.agg #[.string mn, .slice ia m.imports.length ic, .slice ga m.vars.length gc, .slice pa m.procs.length pc, .slice ba m.body.length bc], .map (some sb)] W' (CheckP W' (Tp.check m Sn))) := fun W' sb hW' hmap => by
    have := check_post HSM.out (HMB.out.up hW') hmap
    unfold mcells at this
    rw [hmn]
    exact this
  rw [← hmn] at hW km hlk1 hlk2 hlk3 HKM ⊢
  have HMN : Hid (mn = bs m.name) := hmn
  have HSN : Hid (Sn = Tp.seenW ofS P) := hSn
  clear hmb hm hww hkm hkp hkw hbW hsW hb3 hs3 hmn hSn h hptr hlk hck hWI hnP hlo hlm hcyc
  obtain ⟨il, hil⟩ : ∃ il, il = m.imports.length := ⟨_, rfl⟩
  obtain ⟨gl, hgl⟩ : ∃ gl, gl = m.vars.length := ⟨_, rfl⟩
  obtain ⟨pl, hpl⟩ : ∃ pl, pl = m.procs.length := ⟨_, rfl⟩
  obtain ⟨bl, hbl⟩ : ∃ bl, bl = m.body.length := ⟨_, rfl⟩
  rw [← hil, ← hgl, ← hpl, ← hbl] at hW HKM HCK ⊢
  have HQ := Lib.hid (And.intro hil (And.intro hgl (And.intro hpl hbl)))
  clear hil hgl hpl hbl
  go_enter Tryz.func18, Tryz.ntmps18
  go_upto_region 1 with fail
  rw [← hW]
  clear hW
  go_region
  all_goals
    rw [← hW3]
    clear hW3 hlk1 hlk2 hlk3 k1 km kp
    have HHCK : Hid (Tp.check m Sn = none) := by show _ = _; rw [HSN.out]; exact HHCK0.out
    have hbd : Below W3.heap.size W3 W3.drew := (Below.refl _ _).drew
    have HBOX : Hid (∀ V, Below W3.heap.size W3 V → V.cell? ⟨w.heap.size + 1, 0, none⟩ = some (.string mn) ∧ V.cell? ⟨w.heap.size + 1, 1, none⟩ = some (.slice ia il ic) ∧ V.cell? ⟨w.heap.size + 1, 2, none⟩ = some (.slice ga gl gc) ∧ V.cell? ⟨w.heap.size + 1, 3, none⟩ = some (.slice pa pl pc) ∧ V.cell? ⟨w.heap.size + 1, 4, none⟩ = some (.slice ba bl bc) ∧ V.cell? ⟨w.heap.size, 0, none⟩ = some (.pointer (some ⟨wb, 0, none⟩))) := fun V hV => by
      obtain ⟨a0, a1, a2, a3, a4⟩ := cell_box5 ((hV.block _ (lt_blk HKM.out)).trans HKM.out)
      exact ⟨a0, a1, a2, a3, a4, (cell_blk ((hV.block _ (lt_blk HKP.out)).trans HKP.out)).trans rfl⟩
    have HS0 : Hid (W3.drew.cell? ⟨w.heap.size + 1, 0, none⟩ = some (.string mn) ∧ W3.drew.cell? ⟨w.heap.size + 1, 1, none⟩ = some (.slice ia il ic) ∧ W3.drew.cell? ⟨w.heap.size + 1, 2, none⟩ = some (.slice ga gl gc) ∧ W3.drew.cell? ⟨w.heap.size + 1, 3, none⟩ = some (.slice pa pl pc) ∧ W3.drew.cell? ⟨w.heap.size + 1, 4, none⟩ = some (.slice ba bl bc) ∧ W3.drew.cell? ⟨w.heap.size, 0, none⟩ = some (.pointer (some ⟨wb, 0, none⟩))) := HBOX.out _ hbd
    have HSE : Hid (Calls Tryz.prog 38 #[.pointer (some ⟨wb, 0, none⟩)] W3.drew fun e w2 => ∃ sb, e = .returned (.map (some sb)) ∧ (Below W3.heap.size W3 w2 ∧ SeenV w2 (.map (some sb)) Sn) ∧ (w2.cell? ⟨w.heap.size + 1, 0, none⟩ = some (.string mn) ∧ w2.cell? ⟨w.heap.size + 1, 1, none⟩ = some (.slice ia il ic) ∧ w2.cell? ⟨w.heap.size + 1, 2, none⟩ = some (.slice ga gl gc) ∧ w2.cell? ⟨w.heap.size + 1, 3, none⟩ = some (.slice pa pl pc) ∧ w2.cell? ⟨w.heap.size + 1, 4, none⟩ = some (.slice ba bl bc) ∧ w2.cell? ⟨w.heap.size, 0, none⟩ = some (.pointer (some ⟨wb, 0, none⟩)))) := by
      refine (seen_any (HWX.out.on (HB3.out.trans (hbd.mono HB3.out.size))) hL).mono ?_
      rintro e w2 ⟨sb, rfl, hb2, hs2⟩
      have hB2 : Below W3.heap.size W3 w2 := hbd.trans (hb2.mono hbd.size)
      exact ⟨sb, rfl, ⟨hB2, by rw [HSN.out]; exact hs2⟩, HBOX.out _ hB2⟩
    have HCK2 : Hid (∀ w2 sb, Below W3.heap.size W3 w2 ∧ SeenV w2 (.map (some sb)) Sn → Calls Tryz.prog 37 #[.agg #[.string mn, .slice ia il ic, .slice ga gl gc, .slice pa pl pc, .slice ba bl bc], .map (some sb)] w2 fun e w4 => e = .returned .nilIface ∧ (Below W3.heap.size W3 w4) ∧ (w4.cell? ⟨w.heap.size + 1, 0, none⟩ = some (.string mn) ∧ w4.cell? ⟨w.heap.size + 1, 1, none⟩ = some (.slice ia il ic) ∧ w4.cell? ⟨w.heap.size + 1, 2, none⟩ = some (.slice ga gl gc) ∧ w4.cell? ⟨w.heap.size + 1, 3, none⟩ = some (.slice pa pl pc) ∧ w4.cell? ⟨w.heap.size + 1, 4, none⟩ = some (.slice ba bl bc) ∧ w4.cell? ⟨w.heap.size, 0, none⟩ = some (.pointer (some ⟨wb, 0, none⟩)))) := fun w2 sb h2 => by
      have := HCK.out w2 sb (HB3.out.trans (h2.1.mono HB3.out.size)) h2.2
      rw [HHCK.out] at this
      refine this.mono ?_
      rintro e w4 ⟨hb4, rfl⟩
      have hB4 : Below W3.heap.size W3 w4 := h2.1.trans (hb4.mono h2.1.size)
      exact ⟨rfl, hB4, HBOX.out _ hB4⟩
    clear hbd HCK
    go_upto_region 4 with fail
    go_region_held3 (fun w' => w'.cell? ⟨w.heap.size + 1, 0, none⟩ = some (.string mn) ∧ w'.cell? ⟨w.heap.size + 1, 1, none⟩ = some (.slice ia il ic) ∧ w'.cell? ⟨w.heap.size + 1, 2, none⟩ = some (.slice ga gl gc) ∧ w'.cell? ⟨w.heap.size + 1, 3, none⟩ = some (.slice pa pl pc) ∧ w'.cell? ⟨w.heap.size + 1, 4, none⟩ = some (.slice ba bl bc) ∧ w'.cell? ⟨w.heap.size, 0, none⟩ = some (.pointer (some ⟨wb, 0, none⟩))) (with_reducible (first | exact HS4.out | exact HS2.out | exact HS0.out)) (first | (go_at_call 38; refine HSE.out.mono ?_; rintro e w2 ⟨sb, rfl, hb2, hs2⟩; have HB2 := Lib.hid hb2; have HS2 := Lib.hid hs2; clear hb2 hs2) | (go_at_call 37; refine (HCK2.out _ _ HB2.out).mono ?_; rintro e w4 ⟨rfl, hb4, hs4⟩; have HB4 := Lib.hid hb4; have HS4 := Lib.hid hs4; clear hb4 hs4))
    clear HS0 HSE HCK2 HS2
    have HB4w : Hid (Below w.heap.size w w4) := HB3.out.trans (HB4.out.mono HB3.out.size)
    have HCY : Hid (Calls Tryz.prog 44 #[.slice ia il ic, .func (.func 45) #[] #[.pointer (some ⟨w.heap.size, 0, none⟩), .pointer (some ⟨w.heap.size + 1, 0, none⟩)]] w4 fun e w5 => e = .returned (.bool true) ∧ Below w4.heap.size w4 w5) := by
      have := cyc_post (x1 := w.heap.size) (x3 := w.heap.size + 1) (HWX.out.on HB4w.out) HWI.out HHCK0.out (HMB.out.up HB4w.out) HM.out HS4.out.2.2.2.2.2 (by rw [← HMN.out]; exact HS4.out.1)
      rw [← HQ.out.1, HCYC.out] at this
      exact this
    obtain ⟨s0, s1, s2, s3, s4, s5⟩ := HS4.out
    have hm4 := lt_of_cell s0
    have hp4 := lt_of_cell s5
    have hmf : ∀ (fn : Fn) (first cap : Array Value) (w : World), (Instr.makeFunc fn first cap).run Tryz.prog w = .ok (.func fn first cap) w := fun _ _ _ _ => rfl
    clear HHCK
    go_wp2_with fail
    refine HCY.out.mono ?_
    rintro e w5 ⟨rfl, hb5⟩
    have HR : Hid (ErrS w (11, none) (.returned (.iface 44 (.int .i64 11))) w5) := ⟨HB4w.out.trans (hb5.mono HB4w.out.size), _, rfl, rfl⟩
    clear hb5 s0 s1 s2 s3 s4 s5 HCY
    go_wp2_with fail
    go_ret
    exact HR.out
set_option maxRecDepth 100000 in
set_option maxHeartbeats 4000000 in
theorem swap_oth {X : Nat → Prop} {w : World} {wb : Nat} {L : List Lo} {P : List Pt} {nv : Value} {tv : Option Nat} {m : Tp.M} {ia ga pa ba : Option Addr} {ic gc pc bc : Nat} (h : WX X w wb L P nv tv) (hL : L.length ≤ 10) (hmb : MB w w.heap.size m ia ga pa ba ic gc pc bc) (hm : Tp.WM m) {lo : Lo} (hlo : lo ∈ L) (hlm : lo.m.name = m.name) (hptr : ptrV L m.name = some ⟨lo.lb, 0, none⟩) (hWI : Tp.WI ofS P) (hnP : ∀ x ∈ Tp.ms P, Tp.nM x ≤ 1000) (hck : Tp.check m (Tp.seenW ofS P) = none) (hcyc : (m.imports.any fun n => @decide (Tp.Leads P n m.name) (Classical.propDecidable _)) = false) (hoth : othB P m lo.m = true) :
    Calls Tryz.prog 18 #[.pointer (some ⟨wb, 0, none⟩), .agg (mcells (bs m.name) (.slice ia m.imports.length ic) (.slice ga m.vars.length gc) (.slice pa m.procs.length pc) (.slice ba m.body.length bc))] w (ErrS w (6, none)) := by
  have hnl := okn_1000 hm.n
  have hwl := lt_blk h.blk
  obtain ⟨W, hW⟩ : ∃ W, W = (w.alloc (.cells #[.pointer (some ⟨wb, 0, none⟩)] 47)).alloc (.cells (mcells (bs m.name) (.slice ia m.imports.length ic) (.slice ga m.vars.length gc) (.slice pa m.procs.length pc) (.slice ba m.body.length bc)) 36) := ⟨_, rfl⟩
  have hbW : Below w.heap.size w W := by rw [hW]; exact ((Below.refl _ _).alloc (Nat.le_refl _) _).alloc (by simp) _
  have hsW : W.heap.size = w.heap.size + 2 := by rw [hW]; simp
  have hkp : W.heap[w.heap.size]? = some (.cells #[.pointer (some ⟨wb, 0, none⟩)] 47 (0, 0)) := by rw [hW]; exact (Below.heap_alloc _ _ _ (by simp)).trans (new_blk _ _)
  have hkm : W.heap[w.heap.size + 1]? = some (.cells (mcells (bs m.name) (.slice ia m.imports.length ic) (.slice ga m.vars.length gc) (.slice pa m.procs.length pc) (.slice ba m.body.length bc)) 36 (0, 0)) := by rw [hW]; exact new_blk1 _ _ _
  obtain ⟨W3, hW3⟩ : ∃ W3, W3 = (W.alloc (.cells #[.pointer (some ⟨lo.lb, 0, none⟩)] 88)).drew := ⟨_, rfl⟩
  have hb3 : Below W.heap.size W W3 := by rw [hW3]; exact ((Below.refl _ _).alloc (Nat.le_refl _) _).drew
  have hs3 : W3.heap.size = w.heap.size + 3 := by rw [hW3]; show (W.alloc _).heap.size = _; simp [hsW]
  have hkw : W3.heap[w.heap.size + 2]? = some (.cells #[.pointer (some ⟨lo.lb, 0, none⟩)] 88 (0, 0)) := by
    rw [hW3]
    have := new_blk W (.cells #[.pointer (some ⟨lo.lb, 0, none⟩)] 88)
    rw [hsW] at this
    exact this
  have hww := (hbW.block wb hwl).trans h.blk
  have k1 : W.cell? ⟨wb, 1, none⟩ = some (.map tv) := (cell_blk hww).trans rfl
  have km : W.cell? ⟨w.heap.size + 1, 0, none⟩ = some (.string (bs m.name)) := (cell_blk hkm).trans rfl
  have kp : W.cell? ⟨w.heap.size, 0, none⟩ = some (.pointer (some ⟨wb, 0, none⟩)) := (cell_blk hkp).trans rfl
  have hlk : ∀ V, Below W.heap.size W V → (Instr.lookup 26 (.map tv) (.string (bs m.name)) false).run Tryz.prog V = .ok (.pointer (some ⟨lo.lb, 0, none⟩)) V := fun V hV => by
    have := ((h.on hbW).on hV).look m.name (by omega)
    rw [hptr] at this
    exact this
  have hlk1 := hlk W (Below.refl _ _)
  have hlk2 := hlk W.drew ((Below.refl _ _).drew)
  have hlk3 := hlk (W.alloc (.cells #[.pointer none] 88)).drew (((Below.refl _ _).alloc (Nat.le_refl _) _).drew)
  have HMB := Lib.hid hmb
  have HSM := Lib.hid hm.sml
  have HB3 : Hid (Below w.heap.size w W3) := hbW.trans (hb3.mono (by omega))
  have HKM : Hid (W3.heap[w.heap.size + 1]? = _) := (hb3.block _ (lt_blk hkm)).trans hkm
  have HKP : Hid (W3.heap[w.heap.size]? = _) := (hb3.block _ (lt_blk hkp)).trans hkp
  have HKW := Lib.hid hkw
  have HM := Lib.hid hm
  have HWX := Lib.hid h
  have HS3 := Lib.hid hs3
  have hwlW : wb < W.heap.size := by omega
  have hmlW : w.heap.size + 1 < W.heap.size := by omega
  have hplW : w.heap.size < W.heap.size := by omega
  have k2 : W3.cell? ⟨W.heap.size, 0, none⟩ = some (.pointer (some ⟨lo.lb, 0, none⟩)) := by rw [hsW]; exact (cell_blk hkw).trans rfl
  have h2l : W.heap.size < W3.heap.size := by omega
  have HSW := Lib.hid hsW
  have HHCK0 : Hid (Tp.check m (Tp.seenW ofS P) = none) := hck
  have HWI := Lib.hid hWI
  have HNP := Lib.hid hnP
  have HLO : Hid (lo ∈ L ∧ lo.m.name = m.name) := ⟨hlo, hlm⟩
  have HCYC : Hid ((m.imports.any fun n => @decide (Tp.Leads P n m.name) (Classical.propDecidable _)) = false) := hcyc
  have HOTH : Hid (othB P m lo.m = true) := hoth
  unfold mcells at *
  obtain ⟨mn, hmn⟩ : ∃ mn, mn = bs m.name := ⟨_, rfl⟩
  obtain ⟨Sn, hSn⟩ : ∃ Sn, Sn = Tp.seenW ofS P := ⟨_, rfl⟩
  have HCK : Hid (∀ W' sb, Below w.heap.size w W' → SeenV W' (.map (some sb)) Sn → Calls Tryz.prog 37 #[.agg #[.string mn, .slice ia m.imports.length ic, .slice ga m.vars.length gc, .slice pa m.procs.length pc, .slice ba m.body.length bc], .map (some sb)] W' (CheckP W' (Tp.check m Sn))) := fun W' sb hW' hmap => by
    have := check_post HSM.out (HMB.out.up hW') hmap
    unfold mcells at this
    rw [hmn]
    exact this
  rw [← hmn] at hW km hlk1 hlk2 hlk3 HKM ⊢
  have HMN : Hid (mn = bs m.name) := hmn
  have HSN : Hid (Sn = Tp.seenW ofS P) := hSn
  clear hmb hm hww hkm hkp hkw hbW hsW hb3 hs3 hmn hSn h hptr hlk hck hWI hnP hlo hlm hcyc hoth
  obtain ⟨il, hil⟩ : ∃ il, il = m.imports.length := ⟨_, rfl⟩
  obtain ⟨gl, hgl⟩ : ∃ gl, gl = m.vars.length := ⟨_, rfl⟩
  obtain ⟨pl, hpl⟩ : ∃ pl, pl = m.procs.length := ⟨_, rfl⟩
  obtain ⟨bl, hbl⟩ : ∃ bl, bl = m.body.length := ⟨_, rfl⟩
  rw [← hil, ← hgl, ← hpl, ← hbl] at hW HKM HCK ⊢
  have HQ := Lib.hid (And.intro hil (And.intro hgl (And.intro hpl hbl)))
  clear hil hgl hpl hbl
  go_enter Tryz.func18, Tryz.ntmps18
  go_upto_region 1 with fail
  rw [← hW]
  clear hW
  go_region
  all_goals
    rw [← hW3]
    clear hW3 hlk1 hlk2 hlk3 k1 km kp
    have HHCK : Hid (Tp.check m Sn = none) := by show _ = _; rw [HSN.out]; exact HHCK0.out
    have hbd : Below W3.heap.size W3 W3.drew := (Below.refl _ _).drew
    have HBOX : Hid (∀ V, Below W3.heap.size W3 V → V.cell? ⟨w.heap.size + 1, 0, none⟩ = some (.string mn) ∧ V.cell? ⟨w.heap.size + 1, 1, none⟩ = some (.slice ia il ic) ∧ V.cell? ⟨w.heap.size + 1, 2, none⟩ = some (.slice ga gl gc) ∧ V.cell? ⟨w.heap.size + 1, 3, none⟩ = some (.slice pa pl pc) ∧ V.cell? ⟨w.heap.size + 1, 4, none⟩ = some (.slice ba bl bc) ∧ V.cell? ⟨w.heap.size, 0, none⟩ = some (.pointer (some ⟨wb, 0, none⟩))) := fun V hV => by
      obtain ⟨a0, a1, a2, a3, a4⟩ := cell_box5 ((hV.block _ (lt_blk HKM.out)).trans HKM.out)
      exact ⟨a0, a1, a2, a3, a4, (cell_blk ((hV.block _ (lt_blk HKP.out)).trans HKP.out)).trans rfl⟩
    have HS0 : Hid (W3.drew.cell? ⟨w.heap.size + 1, 0, none⟩ = some (.string mn) ∧ W3.drew.cell? ⟨w.heap.size + 1, 1, none⟩ = some (.slice ia il ic) ∧ W3.drew.cell? ⟨w.heap.size + 1, 2, none⟩ = some (.slice ga gl gc) ∧ W3.drew.cell? ⟨w.heap.size + 1, 3, none⟩ = some (.slice pa pl pc) ∧ W3.drew.cell? ⟨w.heap.size + 1, 4, none⟩ = some (.slice ba bl bc) ∧ W3.drew.cell? ⟨w.heap.size, 0, none⟩ = some (.pointer (some ⟨wb, 0, none⟩))) := HBOX.out _ hbd
    have HSE : Hid (Calls Tryz.prog 38 #[.pointer (some ⟨wb, 0, none⟩)] W3.drew fun e w2 => ∃ sb, e = .returned (.map (some sb)) ∧ (Below W3.heap.size W3 w2 ∧ SeenV w2 (.map (some sb)) Sn) ∧ (w2.cell? ⟨w.heap.size + 1, 0, none⟩ = some (.string mn) ∧ w2.cell? ⟨w.heap.size + 1, 1, none⟩ = some (.slice ia il ic) ∧ w2.cell? ⟨w.heap.size + 1, 2, none⟩ = some (.slice ga gl gc) ∧ w2.cell? ⟨w.heap.size + 1, 3, none⟩ = some (.slice pa pl pc) ∧ w2.cell? ⟨w.heap.size + 1, 4, none⟩ = some (.slice ba bl bc) ∧ w2.cell? ⟨w.heap.size, 0, none⟩ = some (.pointer (some ⟨wb, 0, none⟩)))) := by
      refine (seen_any (HWX.out.on (HB3.out.trans (hbd.mono HB3.out.size))) hL).mono ?_
      rintro e w2 ⟨sb, rfl, hb2, hs2⟩
      have hB2 : Below W3.heap.size W3 w2 := hbd.trans (hb2.mono hbd.size)
      exact ⟨sb, rfl, ⟨hB2, by rw [HSN.out]; exact hs2⟩, HBOX.out _ hB2⟩
    have HCK2 : Hid (∀ w2 sb, Below W3.heap.size W3 w2 ∧ SeenV w2 (.map (some sb)) Sn → Calls Tryz.prog 37 #[.agg #[.string mn, .slice ia il ic, .slice ga gl gc, .slice pa pl pc, .slice ba bl bc], .map (some sb)] w2 fun e w4 => e = .returned .nilIface ∧ (Below W3.heap.size W3 w4) ∧ (w4.cell? ⟨w.heap.size + 1, 0, none⟩ = some (.string mn) ∧ w4.cell? ⟨w.heap.size + 1, 1, none⟩ = some (.slice ia il ic) ∧ w4.cell? ⟨w.heap.size + 1, 2, none⟩ = some (.slice ga gl gc) ∧ w4.cell? ⟨w.heap.size + 1, 3, none⟩ = some (.slice pa pl pc) ∧ w4.cell? ⟨w.heap.size + 1, 4, none⟩ = some (.slice ba bl bc) ∧ w4.cell? ⟨w.heap.size, 0, none⟩ = some (.pointer (some ⟨wb, 0, none⟩)))) := fun w2 sb h2 => by
      have := HCK.out w2 sb (HB3.out.trans (h2.1.mono HB3.out.size)) h2.2
      rw [HHCK.out] at this
      refine this.mono ?_
      rintro e w4 ⟨hb4, rfl⟩
      have hB4 : Below W3.heap.size W3 w4 := h2.1.trans (hb4.mono h2.1.size)
      exact ⟨rfl, hB4, HBOX.out _ hB4⟩
    clear hbd HCK
    go_upto_region 4 with fail
    go_region_held3 (fun w' => w'.cell? ⟨w.heap.size + 1, 0, none⟩ = some (.string mn) ∧ w'.cell? ⟨w.heap.size + 1, 1, none⟩ = some (.slice ia il ic) ∧ w'.cell? ⟨w.heap.size + 1, 2, none⟩ = some (.slice ga gl gc) ∧ w'.cell? ⟨w.heap.size + 1, 3, none⟩ = some (.slice pa pl pc) ∧ w'.cell? ⟨w.heap.size + 1, 4, none⟩ = some (.slice ba bl bc) ∧ w'.cell? ⟨w.heap.size, 0, none⟩ = some (.pointer (some ⟨wb, 0, none⟩))) (with_reducible (first | exact HS4.out | exact HS2.out | exact HS0.out)) (first | (go_at_call 38; refine HSE.out.mono ?_; rintro e w2 ⟨sb, rfl, hb2, hs2⟩; have HB2 := Lib.hid hb2; have HS2 := Lib.hid hs2; clear hb2 hs2) | (go_at_call 37; refine (HCK2.out _ _ HB2.out).mono ?_; rintro e w4 ⟨rfl, hb4, hs4⟩; have HB4 := Lib.hid hb4; have HS4 := Lib.hid hs4; clear hb4 hs4))
    clear HS0 HSE HCK2 HS2
    have HB4w : Hid (Below w.heap.size w w4) := HB3.out.trans (HB4.out.mono HB3.out.size)
    have HCY : Hid (Calls Tryz.prog 44 #[.slice ia il ic, .func (.func 45) #[] #[.pointer (some ⟨w.heap.size, 0, none⟩), .pointer (some ⟨w.heap.size + 1, 0, none⟩)]] w4 fun e w5 => e = .returned (.bool false) ∧ Below w4.heap.size w4 w5) := by
      have := cyc_post (x1 := w.heap.size) (x3 := w.heap.size + 1) (HWX.out.on HB4w.out) HWI.out HHCK0.out (HMB.out.up HB4w.out) HM.out HS4.out.2.2.2.2.2 (by rw [← HMN.out]; exact HS4.out.1)
      rw [← HQ.out.1, HCYC.out] at this
      exact this
    obtain ⟨s0, s1, s2, s3, s4, s5⟩ := HS4.out
    have hm4 := lt_of_cell s0
    have hp4 := lt_of_cell s5
    have hmf : ∀ (fn : Fn) (first cap : Array Value) (w : World), (Instr.makeFunc fn first cap).run Tryz.prog w = .ok (.func fn first cap) w := fun _ _ _ _ => rfl
    clear HHCK
    go_wp2_with fail
    refine HCY.out.mono ?_
    rintro e w5 ⟨rfl, hb5⟩
    have HB5 : Hid (Below W3.heap.size W3 w5) := HB4.out.trans (hb5.mono HB4.out.size)
    have HB5w : Hid (Below w.heap.size w w5) := HB4w.out.trans (hb5.mono HB4w.out.size)
    have HBOX : Hid (∀ V, Below W3.heap.size W3 V → V.heap[w.heap.size + 1]? = W3.heap[w.heap.size + 1]? ∧ V.cell? ⟨w.heap.size, 0, none⟩ = some (.pointer (some ⟨wb, 0, none⟩)) ∧ V.cell? ⟨W.heap.size, 0, none⟩ = some (.pointer (some ⟨lo.lb, 0, none⟩))) := fun V hV => ⟨hV.block _ (lt_blk HKM.out), (cell_blk ((hV.block _ (lt_blk HKP.out)).trans HKP.out)).trans rfl, (hV.cell (p := ⟨W.heap.size, 0, none⟩) h2l).trans k2⟩
    obtain ⟨na, nc, hnv⟩ := owns_shape HWX.out.nm
    have HOT : Hid (Calls Tryz.prog 44 #[.slice na L.length nc, .func (.func 47) #[] #[.pointer (some ⟨w.heap.size, 0, none⟩), .pointer (some ⟨W.heap.size, 0, none⟩), .pointer (some ⟨w.heap.size + 1, 0, none⟩)]] w5 fun e w6 => e = .returned (.bool true) ∧ Below w5.heap.size w5 w6) := by
      obtain ⟨q1, q2, q3⟩ := HBOX.out w5 HB5.out
      have h5 := HWX.out.on HB5w.out
      rw [hnv] at h5
      have hmk := q1.trans HKM.out
      rw [HMN.out, HQ.out.1, HQ.out.2.1, HQ.out.2.2.1, HQ.out.2.2.2] at hmk
      have := oth_post (x1 := w.heap.size) (x2 := W.heap.size) (x3 := w.heap.size + 1) h5 hL HNP.out (HMB.out.up HB5w.out) HM.out HLO.out.1 HLO.out.2 q2 q3 hmk
      rw [HOTH.out] at this
      exact this
    have t5 : w5.cell? ⟨w.heap.size, 0, none⟩ = some (.pointer (some ⟨wb, 0, none⟩)) := (HBOX.out w5 HB5.out).2.1
    have tn : w5.cell? ⟨wb, 0, none⟩ = some (.slice na L.length nc) := by
      rw [(cell_blk (HWX.out.on HB5w.out).blk).trans rfl, hnv]
      rfl
    have hwl5 : wb < w5.heap.size := by have := HB5w.out.size; omega
    have hp5 := lt_of_cell t5
    clear hb5 s0 s1 s2 s3 s4 s5 HCY hnv
    generalize hLn : L.length = ln at *
    have HLN := Lib.hid hLn
    clear hLn
    go_wp2_with fail
    refine HOT.out.mono ?_
    rintro e w6 ⟨rfl, hb6⟩
    have HR : Hid (ErrS w (6, none) (.returned (.iface 44 (.int .i64 6))) w6) := ⟨HB5w.out.trans (hb6.mono HB5w.out.size), _, rfl, rfl⟩
    clear hb6 t5 tn HOT
    go_wp2_with fail
    go_ret
    exact HR.out
end Go.Proofs.YtibncofnnlbmcaaGreatDoor
