import Derived.Test.YtibncofnnlbmcaaGreatDoorKAa
import Derived.Test.YtibncofnnlbmcaaGreatDoorKMg
/- Chapter 4: Swap, refused: nothing is changed (what is missing, what is found). -/
namespace Go.Proofs.YtibncofnnlbmcaaGreatDoor
open Go.RowKit Go.Maps
open Tp (Bs X S G Pr Pt Rs Rr Own)

def ErrS (w : World) (er : Nat × Option Nat) (e : Ending) (w' : World) : Prop := Below w.heap.size w w' ∧ ∃ v, e = .returned v ∧ ErrV w.heap.size w' er v
set_option maxRecDepth 100000 in
set_option maxHeartbeats 4000000 in
theorem swap_none {X : Nat → Prop} {w : World} {wb : Nat} {L : List Lo} {P : List Pt} {nv : Value} {tv : Option Nat} {m : Tp.M} {ia ga pa ba : Option Addr} {ic gc pc bc : Nat} (h : WX X w wb L P nv tv) (_ : L.length ≤ 10) (hmb : MB w w.heap.size m ia ga pa ba ic gc pc bc) (hm : Tp.WM m) (hptr : ptrV L m.name = none) :
    Calls Tryz.prog 18 #[.pointer (some ⟨wb, 0, none⟩), .agg (mcells (bs m.name) (.slice ia m.imports.length ic) (.slice ga m.vars.length gc) (.slice pa m.procs.length pc) (.slice ba m.body.length bc))] w (ErrS w (7, none)) := by
  have hnl := okn_1000 hm.n
  have hwl := lt_blk h.blk
  obtain ⟨W, hW⟩ : ∃ W, W = (w.alloc (.cells #[.pointer (some ⟨wb, 0, none⟩)] 47)).alloc (.cells (mcells (bs m.name) (.slice ia m.imports.length ic) (.slice ga m.vars.length gc) (.slice pa m.procs.length pc) (.slice ba m.body.length bc)) 36) := ⟨_, rfl⟩
  have hbW : Below w.heap.size w W := by rw [hW]; exact ((Below.refl _ _).alloc (Nat.le_refl _) _).alloc (by simp) _
  have hsW : W.heap.size = w.heap.size + 2 := by rw [hW]; simp
  have hkp : W.heap[w.heap.size]? = some (.cells #[.pointer (some ⟨wb, 0, none⟩)] 47 (0, 0)) := by rw [hW]; exact (Below.heap_alloc _ _ _ (by simp)).trans (new_blk _ _)
  have hkm : W.heap[w.heap.size + 1]? = some (.cells (mcells (bs m.name) (.slice ia m.imports.length ic) (.slice ga m.vars.length gc) (.slice pa m.procs.length pc) (.slice ba m.body.length bc)) 36 (0, 0)) := by rw [hW]; exact new_blk1 _ _ _
  obtain ⟨W3, hW3⟩ : ∃ W3, W3 = (W.alloc (.cells #[.pointer none] 88)).drew := ⟨_, rfl⟩
  have hb3 : Below W.heap.size W W3 := by rw [hW3]; exact ((Below.refl _ _).alloc (Nat.le_refl _) _).drew
  have hs3 : W3.heap.size = w.heap.size + 3 := by rw [hW3]; show (W.alloc _).heap.size = _; simp [hsW]
  have hkw : W3.heap[w.heap.size + 2]? = some (.cells #[.pointer none] 88 (0, 0)) := by
    rw [hW3]
    have := new_blk W (.cells #[.pointer none] 88)
    rw [hsW] at this
    exact this
  have hww := (hbW.block wb hwl).trans h.blk
  have k1 : W.cell? ⟨wb, 1, none⟩ = some (.map tv) := (cell_blk hww).trans rfl
  have km : W.cell? ⟨w.heap.size + 1, 0, none⟩ = some (.string (bs m.name)) := (cell_blk hkm).trans rfl
  have kp : W.cell? ⟨w.heap.size, 0, none⟩ = some (.pointer (some ⟨wb, 0, none⟩)) := (cell_blk hkp).trans rfl
  have hlk : ∀ V, Below W.heap.size W V → (Instr.lookup 26 (.map tv) (.string (bs m.name)) false).run Tryz.prog V = .ok (.pointer none) V := fun V hV => by
    have := ((h.on hbW).on hV).look m.name (by omega)
    rw [hptr] at this
    exact this
  have hlk1 := hlk W (Below.refl _ _)
  have hlk2 := hlk W.drew ((Below.refl _ _).drew)
  have hlk3 := hlk (W.alloc (.cells #[.pointer none] 88)).drew (((Below.refl _ _).alloc (Nat.le_refl _) _).drew)
  have HMB := Lib.hid hmb
  have HSM := Lib.hid hm.sml
  have HB3 : Hid (Below w.heap.size w W3) := hbW.trans (hb3.mono (by omega))
  have HKM : Hid (W3.heap[w.heap.size + 1]? = _) := (hb3.block _ (lt_blk hkm)).trans hkm
  have HKP : Hid (W3.heap[w.heap.size]? = _) := (hb3.block _ (lt_blk hkp)).trans hkp
  have HKW := Lib.hid hkw
  have HM := Lib.hid hm
  have HWX := Lib.hid h
  have HS3 := Lib.hid hs3
  have hwlW : wb < W.heap.size := by omega
  have hmlW : w.heap.size + 1 < W.heap.size := by omega
  have hplW : w.heap.size < W.heap.size := by omega
  have k2 : W3.cell? ⟨W.heap.size, 0, none⟩ = some (.pointer none) := by rw [hsW]; exact (cell_blk hkw).trans rfl
  have h2l : W.heap.size < W3.heap.size := by omega
  have HSW := Lib.hid hsW
  unfold mcells at *
  obtain ⟨mn, hmn⟩ : ∃ mn, mn = bs m.name := ⟨_, rfl⟩
  obtain ⟨Sn, hSn⟩ : ∃ Sn, Sn = Tp.seenW ofS P := ⟨_, rfl⟩
  have HCK : Hid (∀ W' sb, Below w.heap.size w W' → SeenV W' (.map (some sb)) Sn → Calls Tryz.prog 37 #[.agg #[.string mn, .slice ia m.imports.length ic, .slice ga m.vars.length gc, .slice pa m.procs.length pc, .slice ba m.body.length bc], .map (some sb)] W' (CheckP W' (Tp.check m Sn))) := fun W' sb hW' hmap => by
    have := check_post HSM.out (HMB.out.up hW') hmap
    unfold mcells at this
    rw [hmn]
    exact this
  rw [← hmn] at hW km hlk1 hlk2 hlk3 HKM ⊢
  have HMN : Hid (mn = bs m.name) := hmn
  have HSN : Hid (Sn = Tp.seenW ofS P) := hSn
  clear hmb hm hww hkm hkp hkw hbW hsW hb3 hs3 hmn hSn h hptr hlk 
  obtain ⟨il, hil⟩ : ∃ il, il = m.imports.length := ⟨_, rfl⟩
  obtain ⟨gl, hgl⟩ : ∃ gl, gl = m.vars.length := ⟨_, rfl⟩
  obtain ⟨pl, hpl⟩ : ∃ pl, pl = m.procs.length := ⟨_, rfl⟩
  obtain ⟨bl, hbl⟩ : ∃ bl, bl = m.body.length := ⟨_, rfl⟩
  rw [← hil, ← hgl, ← hpl, ← hbl] at hW HKM HCK ⊢
  have HQ := Lib.hid (And.intro hil (And.intro hgl (And.intro hpl hbl)))
  clear hil hgl hpl hbl
  go_enter Tryz.func18, Tryz.ntmps18
  go_upto_region 1 with fail
  rw [← hW]
  clear hW
  go_region
  all_goals
    rw [← hW3]
    clear hW3 hlk1 hlk2 hlk3 k1 km kp
    clear HCK
    have HR : Hid (ErrS w (7, none) (.returned (.iface 44 (.int .i64 7))) W3) := ⟨HB3.out, _, rfl, rfl⟩
    go_wp2_with fail
    go_ret
    exact HR.out
set_option maxRecDepth 100000 in
set_option maxHeartbeats 4000000 in
theorem swap_badA {X : Nat → Prop} {w : World} {wb : Nat} {L : List Lo} {P : List Pt} {nv : Value} {tv : Option Nat} {m : Tp.M} {ia ga pa ba : Option Addr} {ic gc pc bc : Nat} (h : WX X w wb L P nv tv) (hL : L.length ≤ 10) (hmb : MB w w.heap.size m ia ga pa ba ic gc pc bc) (hm : Tp.WM m) {lo : Lo} (hptr : ptrV L m.name = some ⟨lo.lb, 0, none⟩) {en : Nat} (hck : Tp.check m (Tp.seenW ofS P) = some (en, none)) :
    Calls Tryz.prog 18 #[.pointer (some ⟨wb, 0, none⟩), .agg (mcells (bs m.name) (.slice ia m.imports.length ic) (.slice ga m.vars.length gc) (.slice pa m.procs.length pc) (.slice ba m.body.length bc))] w (ErrS w (en, none)) := by
  have hnl := okn_1000 hm.n
  have hwl := lt_blk h.blk
  obtain ⟨W, hW⟩ : ∃ W, W = (w.alloc (.cells #[.pointer (some ⟨wb, 0, none⟩)] 47)).alloc (.cells (mcells (bs m.name) (.slice ia m.imports.length ic) (.slice ga m.vars.length gc) (.slice pa m.procs.length pc) (.slice ba m.body.length bc)) 36) := ⟨_, rfl⟩
  have hbW : Below w.heap.size w W := by rw [hW]; exact ((Below.refl _ _).alloc (Nat.le_refl _) _).alloc (by simp) _
  have hsW : W.heap.size = w.heap.size + 2 := by rw [hW]; simp
  have hkp : W.heap[w.heap.size]? = some (.cells #[.pointer (some ⟨wb, 0, none⟩)] 47 (0, 0)) := by rw [hW]; exact (Below.heap_alloc _ _ _ (by simp)).trans (new_blk _ _)
  have hkm : W.heap[w.heap.size + 1]? = some (.cells (mcells (bs m.name) (.slice ia m.imports.length ic) (.slice ga m.vars.length gc) (.slice pa m.procs.length pc) (.slice ba m.body.length bc)) 36 (0, 0)) := by rw [hW]; exact new_blk1 _ _ _
  obtain ⟨W3, hW3⟩ : ∃ W3, W3 = (W.alloc (.cells #[.pointer (some ⟨lo.lb, 0, none⟩)] 88)).drew := ⟨_, rfl⟩
  have hb3 : Below W.heap.size W W3 := by rw [hW3]; exact ((Below.refl _ _).alloc (Nat.le_refl _) _).drew
  have hs3 : W3.heap.size = w.heap.size + 3 := by rw [hW3]; show (W.alloc _).heap.size = _; simp [hsW]
  have hkw : W3.heap[w.heap.size + 2]? = some (.cells #[.pointer (some ⟨lo.lb, 0, none⟩)] 88 (0, 0)) := by
    rw [hW3]
    have := new_blk W (.cells #[.pointer (some ⟨lo.lb, 0, none⟩)] 88)
    rw [hsW] at this
    exact this
  have hww := (hbW.block wb hwl).trans h.blk
  have k1 : W.cell? ⟨wb, 1, none⟩ = some (.map tv) := (cell_blk hww).trans rfl
  have km : W.cell? ⟨w.heap.size + 1, 0, none⟩ = some (.string (bs m.name)) := (cell_blk hkm).trans rfl
  have kp : W.cell? ⟨w.heap.size, 0, none⟩ = some (.pointer (some ⟨wb, 0, none⟩)) := (cell_blk hkp).trans rfl
  have hlk : ∀ V, Below W.heap.size W V → (Instr.lookup 26 (.map tv) (.string (bs m.name)) false).run Tryz.prog V = .ok (.pointer (some ⟨lo.lb, 0, none⟩)) V := fun V hV => by
    have := ((h.on hbW).on hV).look m.name (by omega)
    rw [hptr] at this
    exact this
  have hlk1 := hlk W (Below.refl _ _)
  have hlk2 := hlk W.drew ((Below.refl _ _).drew)
  have hlk3 := hlk (W.alloc (.cells #[.pointer none] 88)).drew (((Below.refl _ _).alloc (Nat.le_refl _) _).drew)
  have HMB := Lib.hid hmb
  have HSM := Lib.hid hm.sml
  have HB3 : Hid (Below w.heap.size w W3) := hbW.trans (hb3.mono (by omega))
  have HKM : Hid (W3.heap[w.heap.size + 1]? = _) := (hb3.block _ (lt_blk hkm)).trans hkm
  have HKP : Hid (W3.heap[w.heap.size]? = _) := (hb3.block _ (lt_blk hkp)).trans hkp
  have HKW := Lib.hid hkw
  have HM := Lib.hid hm
  have HWX := Lib.hid h
  have HS3 := Lib.hid hs3
  have hwlW : wb < W.heap.size := by omega
  have hmlW : w.heap.size + 1 < W.heap.size := by omega
  have hplW : w.heap.size < W.heap.size := by omega
  have k2 : W3.cell? ⟨W.heap.size, 0, none⟩ = some (.pointer (some ⟨lo.lb, 0, none⟩)) := by rw [hsW]; exact (cell_blk hkw).trans rfl
  have h2l : W.heap.size < W3.heap.size := by omega
  have HSW := Lib.hid hsW
  have HHCK0 : Hid (Tp.check m (Tp.seenW ofS P) = some (en, none)) := hck
  unfold mcells at *
  obtain ⟨mn, hmn⟩ : ∃ mn, mn = bs m.name := ⟨_, rfl⟩
  obtain ⟨Sn, hSn⟩ : ∃ Sn, Sn = Tp.seenW ofS P := ⟨_, rfl⟩
  have HCK : Hid (∀ W' sb, Below w.heap.size w W' → SeenV W' (.map (some sb)) Sn → Calls Tryz.prog 37 #[.agg #[.string mn, .slice ia m.imports.length ic, .slice ga m.vars.length gc, .slice pa m.procs.length pc, .slice ba m.body.length bc], .map (some sb)] W' (CheckP W' (Tp.check m Sn))) := fun W' sb hW' hmap => by
    have := check_post HSM.out (HMB.out.up hW') hmap
    unfold mcells at this
    rw [hmn]
    exact this
  rw [← hmn] at hW km hlk1 hlk2 hlk3 HKM ⊢
  have HMN : Hid (mn = bs m.name) := hmn
  have HSN : Hid (Sn = Tp.seenW ofS P) := hSn
  clear hmb hm hww hkm hkp hkw hbW hsW hb3 hs3 hmn hSn h hptr hlk hck
  obtain ⟨il, hil⟩ : ∃ il, il = m.imports.length := ⟨_, rfl⟩
  obtain ⟨gl, hgl⟩ : ∃ gl, gl = m.vars.length := ⟨_, rfl⟩
  obtain ⟨pl, hpl⟩ : ∃ pl, pl = m.procs.length := ⟨_, rfl⟩
  obtain ⟨bl, hbl⟩ : ∃ bl, bl = m.body.length := ⟨_, rfl⟩
  rw [← hil, ← hgl, ← hpl, ← hbl] at hW HKM HCK ⊢
  have HQ := Lib.hid (And.intro hil (And.intro hgl (And.intro hpl hbl)))
  clear hil hgl hpl hbl
  go_enter Tryz.func18, Tryz.ntmps18
  go_upto_region 1 with fail
  rw [← hW]
  clear hW
  go_region
  all_goals
    rw [← hW3]
    clear hW3 hlk1 hlk2 hlk3 k1 km kp
    have HHCK : Hid (Tp.check m Sn = some (en, none)) := by show _ = _; rw [HSN.out]; exact HHCK0.out
    have hbd : Below W3.heap.size W3 W3.drew := (Below.refl _ _).drew
    have HBOX : Hid (∀ V, Below W3.heap.size W3 V → V.cell? ⟨w.heap.size + 1, 0, none⟩ = some (.string mn) ∧ V.cell? ⟨w.heap.size + 1, 1, none⟩ = some (.slice ia il ic) ∧ V.cell? ⟨w.heap.size + 1, 2, none⟩ = some (.slice ga gl gc) ∧ V.cell? ⟨w.heap.size + 1, 3, none⟩ = some (.slice pa pl pc) ∧ V.cell? ⟨w.heap.size + 1, 4, none⟩ = some (.slice ba bl bc) ∧ V.cell? ⟨w.heap.size, 0, none⟩ = some (.pointer (some ⟨wb, 0, none⟩))) := fun V hV => by
      obtain ⟨a0, a1, a2, a3, a4⟩ := cell_box5 ((hV.block _ (lt_blk HKM.out)).trans HKM.out)
      exact ⟨a0, a1, a2, a3, a4, (cell_blk ((hV.block _ (lt_blk HKP.out)).trans HKP.out)).trans rfl⟩
    have HS0 : Hid (W3.drew.cell? ⟨w.heap.size + 1, 0, none⟩ = some (.string mn) ∧ W3.drew.cell? ⟨w.heap.size + 1, 1, none⟩ = some (.slice ia il ic) ∧ W3.drew.cell? ⟨w.heap.size + 1, 2, none⟩ = some (.slice ga gl gc) ∧ W3.drew.cell? ⟨w.heap.size + 1, 3, none⟩ = some (.slice pa pl pc) ∧ W3.drew.cell? ⟨w.heap.size + 1, 4, none⟩ = some (.slice ba bl bc) ∧ W3.drew.cell? ⟨w.heap.size, 0, none⟩ = some (.pointer (some ⟨wb, 0, none⟩))) := HBOX.out _ hbd
    have HSE : Hid (Calls Tryz.prog 38 #[.pointer (some ⟨wb, 0, none⟩)] W3.drew fun e w2 => ∃ sb, e = .returned (.map (some sb)) ∧ (Below W3.heap.size W3 w2 ∧ SeenV w2 (.map (some sb)) Sn) ∧ (w2.cell? ⟨w.heap.size + 1, 0, none⟩ = some (.string mn) ∧ w2.cell? ⟨w.heap.size + 1, 1, none⟩ = some (.slice ia il ic) ∧ w2.cell? ⟨w.heap.size + 1, 2, none⟩ = some (.slice ga gl gc) ∧ w2.cell? ⟨w.heap.size + 1, 3, none⟩ = some (.slice pa pl pc) ∧ w2.cell? ⟨w.heap.size + 1, 4, none⟩ = some (.slice ba bl bc) ∧ w2.cell? ⟨w.heap.size, 0, none⟩ = some (.pointer (some ⟨wb, 0, none⟩)))) := by
      refine (seen_any (HWX.out.on (HB3.out.trans (hbd.mono HB3.out.size))) hL).mono ?_
      rintro e w2 ⟨sb, rfl, hb2, hs2⟩
      have hB2 : Below W3.heap.size W3 w2 := hbd.trans (hb2.mono hbd.size)
      exact ⟨sb, rfl, ⟨hB2, by rw [HSN.out]; exact hs2⟩, HBOX.out _ hB2⟩
    have HCK2 : Hid (∀ w2 sb, Below W3.heap.size W3 w2 ∧ SeenV w2 (.map (some sb)) Sn → Calls Tryz.prog 37 #[.agg #[.string mn, .slice ia il ic, .slice ga gl gc, .slice pa pl pc, .slice ba bl bc], .map (some sb)] w2 fun e w4 => e = .returned (.iface 44 (.int .i64 (en : Int))) ∧ (Below W3.heap.size W3 w4) ∧ (w4.cell? ⟨w.heap.size + 1, 0, none⟩ = some (.string mn) ∧ w4.cell? ⟨w.heap.size + 1, 1, none⟩ = some (.slice ia il ic) ∧ w4.cell? ⟨w.heap.size + 1, 2, none⟩ = some (.slice ga gl gc) ∧ w4.cell? ⟨w.heap.size + 1, 3, none⟩ = some (.slice pa pl pc) ∧ w4.cell? ⟨w.heap.size + 1, 4, none⟩ = some (.slice ba bl bc) ∧ w4.cell? ⟨w.heap.size, 0, none⟩ = some (.pointer (some ⟨wb, 0, none⟩)))) := fun w2 sb h2 => by
      have := HCK.out w2 sb (HB3.out.trans (h2.1.mono HB3.out.size)) h2.2
      rw [HHCK.out] at this
      refine this.mono ?_
      rintro e w4 ⟨hb4, rfl⟩
      have hB4 : Below W3.heap.size W3 w4 := h2.1.trans (hb4.mono h2.1.size)
      exact ⟨rfl, hB4, HBOX.out _ hB4⟩
    clear hbd HCK
    go_upto_region 4 with fail
    go_region_held3 (fun w' => w'.cell? ⟨w.heap.size + 1, 0, none⟩ = some (.string mn) ∧ w'.cell? ⟨w.heap.size + 1, 1, none⟩ = some (.slice ia il ic) ∧ w'.cell? ⟨w.heap.size + 1, 2, none⟩ = some (.slice ga gl gc) ∧ w'.cell? ⟨w.heap.size + 1, 3, none⟩ = some (.slice pa pl pc) ∧ w'.cell? ⟨w.heap.size + 1, 4, none⟩ = some (.slice ba bl bc) ∧ w'.cell? ⟨w.heap.size, 0, none⟩ = some (.pointer (some ⟨wb, 0, none⟩))) (with_reducible (first | exact HS4.out | exact HS2.out | exact HS0.out)) (first | (go_at_call 38; refine HSE.out.mono ?_; rintro e w2 ⟨sb, rfl, hb2, hs2⟩; have HB2 := Lib.hid hb2; have HS2 := Lib.hid hs2; clear hb2 hs2) | (go_at_call 37; refine (HCK2.out _ _ HB2.out).mono ?_; rintro e w4 ⟨rfl, hb4, hs4⟩; have HB4 := Lib.hid hb4; have HS4 := Lib.hid hs4; clear hb4 hs4))
    clear HS0 HSE HCK2 HS2
    have HR : Hid (ErrS w (en, none) (.returned (.iface 44 (.int .i64 (en : Int)))) w4) := ⟨HB3.out.trans (HB4.out.mono HB3.out.size), _, rfl, rfl⟩
    go_wp2_with fail
    go_ret
    exact HR.out
set_option maxRecDepth 100000 in
set_option maxHeartbeats 4000000 in
theorem swap_badB {X : Nat → Prop} {w : World} {wb : Nat} {L : List Lo} {P : List Pt} {nv : Value} {tv : Option Nat} {m : Tp.M} {ia ga pa ba : Option Addr} {ic gc pc bc : Nat} (h : WX X w wb L P nv tv) (hL : L.length ≤ 10) (hmb : MB w w.heap.size m ia ga pa ba ic gc pc bc) (hm : Tp.WM m) {lo : Lo} (hptr : ptrV L m.name = some ⟨lo.lb, 0, none⟩) {en pl2 : Nat} (hck : Tp.check m (Tp.seenW ofS P) = some (en, some pl2)) :
    Calls Tryz.prog 18 #[.pointer (some ⟨wb, 0, none⟩), .agg (mcells (bs m.name) (.slice ia m.imports.length ic) (.slice ga m.vars.length gc) (.slice pa m.procs.length pc) (.slice ba m.body.length bc))] w (ErrS w (en, some pl2)) := by
  have hnl := okn_1000 hm.n
  have hwl := lt_blk h.blk
  obtain ⟨W, hW⟩ : ∃ W, W = (w.alloc (.cells #[.pointer (some ⟨wb, 0, none⟩)] 47)).alloc (.cells (mcells (bs m.name) (.slice ia m.imports.length ic) (.slice ga m.vars.length gc) (.slice pa m.procs.length pc) (.slice ba m.body.length bc)) 36) := ⟨_, rfl⟩
  have hbW : Below w.heap.size w W := by rw [hW]; exact ((Below.refl _ _).alloc (Nat.le_refl _) _).alloc (by simp) _
  have hsW : W.heap.size = w.heap.size + 2 := by rw [hW]; simp
  have hkp : W.heap[w.heap.size]? = some (.cells #[.pointer (some ⟨wb, 0, none⟩)] 47 (0, 0)) := by rw [hW]; exact (Below.heap_alloc _ _ _ (by simp)).trans (new_blk _ _)
  have hkm : W.heap[w.heap.size + 1]? = some (.cells (mcells (bs m.name) (.slice ia m.imports.length ic) (.slice ga m.vars.length gc) (.slice pa m.procs.length pc) (.slice ba m.body.length bc)) 36 (0, 0)) := by rw [hW]; exact new_blk1 _ _ _
  obtain ⟨W3, hW3⟩ : ∃ W3, W3 = (W.alloc (.cells #[.pointer (some ⟨lo.lb, 0, none⟩)] 88)).drew := ⟨_, rfl⟩
  have hb3 : Below W.heap.size W W3 := by rw [hW3]; exact ((Below.refl _ _).alloc (Nat.le_refl _) _).drew
  have hs3 : W3.heap.size = w.heap.size + 3 := by rw [hW3]; show (W.alloc _).heap.size = _; simp [hsW]
  have hkw : W3.heap[w.heap.size + 2]? = some (.cells #[.pointer (some ⟨lo.lb, 0, none⟩)] 88 (0, 0)) := by
    rw [hW3]
    have := new_blk W (.cells #[.pointer (some ⟨lo.lb, 0, none⟩)] 88)
    rw [hsW] at this
    exact this
  have hww := (hbW.block wb hwl).trans h.blk
  have k1 : W.cell? ⟨wb, 1, none⟩ = some (.map tv) := (cell_blk hww).trans rfl
  have km : W.cell? ⟨w.heap.size + 1, 0, none⟩ = some (.string (bs m.name)) := (cell_blk hkm).trans rfl
  have kp : W.cell? ⟨w.heap.size, 0, none⟩ = some (.pointer (some ⟨wb, 0, none⟩)) := (cell_blk hkp).trans rfl
  have hlk : ∀ V, Below W.heap.size W V → (Instr.lookup 26 (.map tv) (.string (bs m.name)) false).run Tryz.prog V = .ok (.pointer (some ⟨lo.lb, 0, none⟩)) V := fun V hV => by
    have := ((h.on hbW).on hV).look m.name (by omega)
    rw [hptr] at this
    exact this
  have hlk1 := hlk W (Below.refl _ _)
  have hlk2 := hlk W.drew ((Below.refl _ _).drew)
  have hlk3 := hlk (W.alloc (.cells #[.pointer none] 88)).drew (((Below.refl _ _).alloc (Nat.le_refl _) _).drew)
  have HMB := Lib.hid hmb
  have HSM := Lib.hid hm.sml
  have HB3 : Hid (Below w.heap.size w W3) := hbW.trans (hb3.mono (by omega))
  have HKM : Hid (W3.heap[w.heap.size + 1]? = _) := (hb3.block _ (lt_blk hkm)).trans hkm
  have HKP : Hid (W3.heap[w.heap.size]? = _) := (hb3.block _ (lt_blk hkp)).trans hkp
  have HKW := Lib.hid hkw
  have HM := Lib.hid hm
  have HWX := Lib.hid h
  have HS3 := Lib.hid hs3
  have hwlW : wb < W.heap.size := by omega
  have hmlW : w.heap.size + 1 < W.heap.size := by omega
  have hplW : w.heap.size < W.heap.size := by omega
  have k2 : W3.cell? ⟨W.heap.size, 0, none⟩ = some (.pointer (some ⟨lo.lb, 0, none⟩)) := by rw [hsW]; exact (cell_blk hkw).trans rfl
  have h2l : W.heap.size < W3.heap.size := by omega
  have HSW := Lib.hid hsW
  have HHCK0 : Hid (Tp.check m (Tp.seenW ofS P) = some (en, some pl2)) := hck
  unfold mcells at *
  obtain ⟨mn, hmn⟩ : ∃ mn, mn = bs m.name := ⟨_, rfl⟩
  obtain ⟨Sn, hSn⟩ : ∃ Sn, Sn = Tp.seenW ofS P := ⟨_, rfl⟩
  have HCK : Hid (∀ W' sb, Below w.heap.size w W' → SeenV W' (.map (some sb)) Sn → Calls Tryz.prog 37 #[.agg #[.string mn, .slice ia m.imports.length ic, .slice ga m.vars.length gc, .slice pa m.procs.length pc, .slice ba m.body.length bc], .map (some sb)] W' (CheckP W' (Tp.check m Sn))) := fun W' sb hW' hmap => by
    have := check_post HSM.out (HMB.out.up hW') hmap
    unfold mcells at this
    rw [hmn]
    exact this
  rw [← hmn] at hW km hlk1 hlk2 hlk3 HKM ⊢
  have HMN : Hid (mn = bs m.name) := hmn
  have HSN : Hid (Sn = Tp.seenW ofS P) := hSn
  clear hmb hm hww hkm hkp hkw hbW hsW hb3 hs3 hmn hSn h hptr hlk hck
  obtain ⟨il, hil⟩ : ∃ il, il = m.imports.length := ⟨_, rfl⟩
  obtain ⟨gl, hgl⟩ : ∃ gl, gl = m.vars.length := ⟨_, rfl⟩
  obtain ⟨pl, hpl⟩ : ∃ pl, pl = m.procs.length := ⟨_, rfl⟩
  obtain ⟨bl, hbl⟩ : ∃ bl, bl = m.body.length := ⟨_, rfl⟩
  rw [← hil, ← hgl, ← hpl, ← hbl] at hW HKM HCK ⊢
  have HQ := Lib.hid (And.intro hil (And.intro hgl (And.intro hpl hbl)))
  clear hil hgl hpl hbl
  go_enter Tryz.func18, Tryz.ntmps18
  go_upto_region 1 with fail
  rw [← hW]
  clear hW
  go_region
  all_goals
    rw [← hW3]
    clear hW3 hlk1 hlk2 hlk3 k1 km kp
    have HHCK : Hid (Tp.check m Sn = some (en, some pl2)) := by show _ = _; rw [HSN.out]; exact HHCK0.out
    have hbd : Below W3.heap.size W3 W3.drew := (Below.refl _ _).drew
    have HBOX : Hid (∀ V, Below W3.heap.size W3 V → V.cell? ⟨w.heap.size + 1, 0, none⟩ = some (.string mn) ∧ V.cell? ⟨w.heap.size + 1, 1, none⟩ = some (.slice ia il ic) ∧ V.cell? ⟨w.heap.size + 1, 2, none⟩ = some (.slice ga gl gc) ∧ V.cell? ⟨w.heap.size + 1, 3, none⟩ = some (.slice pa pl pc) ∧ V.cell? ⟨w.heap.size + 1, 4, none⟩ = some (.slice ba bl bc) ∧ V.cell? ⟨w.heap.size, 0, none⟩ = some (.pointer (some ⟨wb, 0, none⟩))) := fun V hV => by
      obtain ⟨a0, a1, a2, a3, a4⟩ := cell_box5 ((hV.block _ (lt_blk HKM.out)).trans HKM.out)
      exact ⟨a0, a1, a2, a3, a4, (cell_blk ((hV.block _ (lt_blk HKP.out)).trans HKP.out)).trans rfl⟩
    have HS0 : Hid (W3.drew.cell? ⟨w.heap.size + 1, 0, none⟩ = some (.string mn) ∧ W3.drew.cell? ⟨w.heap.size + 1, 1, none⟩ = some (.slice ia il ic) ∧ W3.drew.cell? ⟨w.heap.size + 1, 2, none⟩ = some (.slice ga gl gc) ∧ W3.drew.cell? ⟨w.heap.size + 1, 3, none⟩ = some (.slice pa pl pc) ∧ W3.drew.cell? ⟨w.heap.size + 1, 4, none⟩ = some (.slice ba bl bc) ∧ W3.drew.cell? ⟨w.heap.size, 0, none⟩ = some (.pointer (some ⟨wb, 0, none⟩))) := HBOX.out _ hbd
    have HSE : Hid (Calls Tryz.prog 38 #[.pointer (some ⟨wb, 0, none⟩)] W3.drew fun e w2 => ∃ sb, e = .returned (.map (some sb)) ∧ (Below W3.heap.size W3 w2 ∧ SeenV w2 (.map (some sb)) Sn) ∧ (w2.cell? ⟨w.heap.size + 1, 0, none⟩ = some (.string mn) ∧ w2.cell? ⟨w.heap.size + 1, 1, none⟩ = some (.slice ia il ic) ∧ w2.cell? ⟨w.heap.size + 1, 2, none⟩ = some (.slice ga gl gc) ∧ w2.cell? ⟨w.heap.size + 1, 3, none⟩ = some (.slice pa pl pc) ∧ w2.cell? ⟨w.heap.size + 1, 4, none⟩ = some (.slice ba bl bc) ∧ w2.cell? ⟨w.heap.size, 0, none⟩ = some (.pointer (some ⟨wb, 0, none⟩)))) := by
      refine (seen_any (HWX.out.on (HB3.out.trans (hbd.mono HB3.out.size))) hL).mono ?_
      rintro e w2 ⟨sb, rfl, hb2, hs2⟩
      have hB2 : Below W3.heap.size W3 w2 := hbd.trans (hb2.mono hbd.size)
      exact ⟨sb, rfl, ⟨hB2, by rw [HSN.out]; exact hs2⟩, HBOX.out _ hB2⟩
    have HCK2 : Hid (∀ w2 sb, Below W3.heap.size W3 w2 ∧ SeenV w2 (.map (some sb)) Sn → Calls Tryz.prog 37 #[.agg #[.string mn, .slice ia il ic, .slice ga gl gc, .slice pa pl pc, .slice ba bl bc], .map (some sb)] w2 fun e w4 => ∃ ab, e = .returned (.iface 117 (.pointer (some ⟨ab, 0, none⟩))) ∧ ((W3.heap.size ≤ ab ∧ w4.cell? ⟨ab, 0, none⟩ = some (.int .i64 (en : Int)) ∧ w4.cell? ⟨ab, 1, none⟩ = some (.int .i64 (pl2 : Int))) ∧ Below W3.heap.size W3 w4) ∧ (w4.cell? ⟨w.heap.size + 1, 0, none⟩ = some (.string mn) ∧ w4.cell? ⟨w.heap.size + 1, 1, none⟩ = some (.slice ia il ic) ∧ w4.cell? ⟨w.heap.size + 1, 2, none⟩ = some (.slice ga gl gc) ∧ w4.cell? ⟨w.heap.size + 1, 3, none⟩ = some (.slice pa pl pc) ∧ w4.cell? ⟨w.heap.size + 1, 4, none⟩ = some (.slice ba bl bc) ∧ w4.cell? ⟨w.heap.size, 0, none⟩ = some (.pointer (some ⟨wb, 0, none⟩)))) := fun w2 sb h2 => by
      have := HCK.out w2 sb (HB3.out.trans (h2.1.mono HB3.out.size)) h2.2
      rw [HHCK.out] at this
      refine this.mono ?_
      rintro e w4 ⟨hb4, ab, rfl, hab, ha0, ha1⟩
      have hB4 : Below W3.heap.size W3 w4 := h2.1.trans (hb4.mono h2.1.size)
      exact ⟨ab, rfl, ⟨⟨by have := h2.1.size; omega, ha0, ha1⟩, hB4⟩, HBOX.out _ hB4⟩
    clear hbd HCK
    go_upto_region 4 with fail
    go_region_held3 (fun w' => w'.cell? ⟨w.heap.size + 1, 0, none⟩ = some (.string mn) ∧ w'.cell? ⟨w.heap.size + 1, 1, none⟩ = some (.slice ia il ic) ∧ w'.cell? ⟨w.heap.size + 1, 2, none⟩ = some (.slice ga gl gc) ∧ w'.cell? ⟨w.heap.size + 1, 3, none⟩ = some (.slice pa pl pc) ∧ w'.cell? ⟨w.heap.size + 1, 4, none⟩ = some (.slice ba bl bc) ∧ w'.cell? ⟨w.heap.size, 0, none⟩ = some (.pointer (some ⟨wb, 0, none⟩))) (with_reducible (first | exact HS4.out | exact HS2.out | exact HS0.out)) (first | (go_at_call 38; refine HSE.out.mono ?_; rintro e w2 ⟨sb, rfl, hb2, hs2⟩; have HB2 := Lib.hid hb2; have HS2 := Lib.hid hs2; clear hb2 hs2) | (go_at_call 37; refine (HCK2.out _ _ HB2.out).mono ?_; rintro e w4 ⟨ab, rfl, hb4, hs4⟩; have HB4 := Lib.hid hb4; have HS4 := Lib.hid hs4; clear hb4 hs4))
    clear HS0 HSE HCK2 HS2
    have HR : Hid (ErrS w (en, some pl2) (.returned (.iface 117 (.pointer (some ⟨ab, 0, none⟩)))) w4) := ⟨HB3.out.trans (HB4.out.2.mono HB3.out.size), _, rfl, ab, rfl, by have := HB4.out.1.1; have := HS3.out; omega, HB4.out.1.2.1, HB4.out.1.2.2⟩
    go_wp2_with fail
    go_ret
    exact HR.out
end Go.Proofs.YtibncofnnlbmcaaGreatDoor
/- slices.ContainsFunc at texts, by what the function that is handed in answers. -/
namespace Go.Proofs.YtibncofnnlbmcaaGreatDoor
open Go.RowKit
open Tp (Bs)

set_option maxRecDepth 100000 in
set_option maxHeartbeats 1000000 in
theorem indexT2 {w : World} {a : Option Addr} {cap : Nat} {l : List Bs} {p : Bs → Bool} {fn : FuncId} {c1 c2 : Value} (hS : StrsAt w l a) (hn : l.length ≤ 1000000) (hcf : ∀ (args : Array Value) (w : World), (callFunc fn args).run Tryz.prog w = .ok (.enter fn args) w)
    (hd : ∀ W (x : Bs), x ∈ l → Below w.heap.size w W → Calls Tryz.prog fn #[.string (bs x), c1, c2] W fun e w' => e = .returned (.bool (p x)) ∧ Below W.heap.size W w') :
    Calls Tryz.prog 89 #[.slice a l.length cap, .func (.func fn) #[] #[c1, c2]] w fun e w' => (∃ k : Int, e = .returned (.int .i64 k) ∧ (decide (0 ≤ k) = l.any p)) ∧ Below w.heap.size w w' := by
  have hn' : (l.length : Int) ≤ 1000000 := by omega
  have HSL := Lib.hid hS
  have HD := Lib.hid hd
  clear hS hd
  go_enter Tryz.func89, Tryz.ntmps89
  go_wp2_with fail
  go_loopg [8] l.length (fun k vi wr => ∃ i : Nat, i ≤ l.length ∧ k = l.length - i ∧ vi = .int .i64 (i : Int) ∧ Hid ((l.take i).any p = false) ∧ Hid (Below w.heap.size w wr))
  case atStart => exact ⟨0, by omega, by omega, rfl, rfl, Below.refl _ _⟩
  case round =>
    obtain ⟨i, hid, hk, rfl, HI, HW⟩ := hrel
    by_cases hlt : i < l.length
    · have hlt' : (i : Int) < (l.length : Int) := by omega
      obtain ⟨g, go, rfl, hgl, hc0⟩ := HSL.out.c i hlt
      have e0 : wr.cell? ⟨g, go + i, none⟩ = some (.string (bs l[i])) := (HW.out.cell (p := ⟨g, go + i, none⟩) hgl).trans hc0
      clear hc0
      have hbl' : g < wr.heap.size := lt_of_cell e0
      have HF := Lib.hid (HD.out wr l[i] (List.getElem_mem hlt) HW.out)
      have HNX : Hid ((l.take (i + 1)).any p = p l[i]) := by
        show _ = _
        rw [List.take_succ_eq_append_getElem hlt, List.any_append, HI.out]; simp
      have HAN : Hid (p l[i] = true → l.any p = true) := fun e => List.any_eq_true.2 ⟨_, List.getElem_mem hlt, e⟩
      generalize p l[i] = d at *
      generalize l[i] = x at *
      clear HI
      go_wp2_with fail
      refine HF.out.mono ?_
      rintro e w3 ⟨rfl, h3⟩
      have HW3 := Lib.hid (HW.out.trans (h3.mono HW.out.size))
      clear h3
      cases d with
      | true =>
        have HE := Lib.hid (HAN.out rfl)
        go_wp2_with fail
        go_ret
        refine ⟨⟨_, rfl, ?_⟩, HW3.out⟩
        rw [HE.out]
        exact decide_eq_true (by omega)
      | false =>
        go_wp2_with fail
        go_roundg (l.length - (i + 1))
        case measure => omega
        case rel => exact ⟨i + 1, by omega, rfl, by go_num, HNX, HW3⟩
    · have hlt' : ¬ (i : Int) < (l.length : Int) := by omega
      have HE : Hid (l.any p = false) := by
        have := HI.out
        rw [List.take_of_length_le (by omega)] at this
        exact this
      go_wp2_with fail
      go_ret
      refine ⟨⟨_, rfl, ?_⟩, HW.out⟩
      rw [HE.out]
      rfl
set_option maxRecDepth 100000 in
set_option maxHeartbeats 1000000 in
theorem containsT2 {w : World} {a : Option Addr} {cap : Nat} {l : List Bs} {p : Bs → Bool} {fn : FuncId} {c1 c2 : Value} (hS : StrsAt w l a) (hn : l.length ≤ 1000000) (hcf : ∀ (args : Array Value) (w : World), (callFunc fn args).run Tryz.prog w = .ok (.enter fn args) w)
    (hd : ∀ W (x : Bs), x ∈ l → Below w.heap.size w W → Calls Tryz.prog fn #[.string (bs x), c1, c2] W fun e w' => e = .returned (.bool (p x)) ∧ Below W.heap.size W w') :
    Calls Tryz.prog 44 #[.slice a l.length cap, .func (.func fn) #[] #[c1, c2]] w fun e w' => e = .returned (.bool (l.any p)) ∧ Below w.heap.size w w' := by
  have HC := Lib.hid (indexT2 (cap := cap) hS hn hcf hd)
  clear hS hd hcf
  go_enter Tryz.func44, Tryz.ntmps44
  go_wp2_with fail
  refine HC.out.mono ?_
  rintro e w1 ⟨⟨k, rfl, hk⟩, hb⟩
  have HK := Lib.hid hk
  clear hk
  go_wp2_with fail
  go_ret
  exact ⟨by rw [← HK.out]; rfl, hb⟩
set_option maxRecDepth 100000 in
set_option maxHeartbeats 1000000 in
theorem indexT3 {w : World} {a : Option Addr} {cap : Nat} {l : List Bs} {p : Bs → Bool} {fn : FuncId} {c1 c2 c3 : Value} (hS : StrsAt w l a) (hn : l.length ≤ 1000000) (hcf : ∀ (args : Array Value) (w : World), (callFunc fn args).run Tryz.prog w = .ok (.enter fn args) w)
    (hd : ∀ W (x : Bs), x ∈ l → Below w.heap.size w W → Calls Tryz.prog fn #[.string (bs x), c1, c2, c3] W fun e w' => e = .returned (.bool (p x)) ∧ Below W.heap.size W w') :
    Calls Tryz.prog 89 #[.slice a l.length cap, .func (.func fn) #[] #[c1, c2, c3]] w fun e w' => (∃ k : Int, e = .returned (.int .i64 k) ∧ (decide (0 ≤ k) = l.any p)) ∧ Below w.heap.size w w' := by
  have hn' : (l.length : Int) ≤ 1000000 := by omega
  have HSL := Lib.hid hS
  have HD := Lib.hid hd
  clear hS hd
  go_enter Tryz.func89, Tryz.ntmps89
  go_wp2_with fail
  go_loopg [8] l.length (fun k vi wr => ∃ i : Nat, i ≤ l.length ∧ k = l.length - i ∧ vi = .int .i64 (i : Int) ∧ Hid ((l.take i).any p = false) ∧ Hid (Below w.heap.size w wr))
  case atStart => exact ⟨0, by omega, by omega, rfl, rfl, Below.refl _ _⟩
  case round =>
    obtain ⟨i, hid, hk, rfl, HI, HW⟩ := hrel
    by_cases hlt : i < l.length
    · have hlt' : (i : Int) < (l.length : Int) := by omega
      obtain ⟨g, go, rfl, hgl, hc0⟩ := HSL.out.c i hlt
      have e0 : wr.cell? ⟨g, go + i, none⟩ = some (.string (bs l[i])) := (HW.out.cell (p := ⟨g, go + i, none⟩) hgl).trans hc0
      clear hc0
      have hbl' : g < wr.heap.size := lt_of_cell e0
      have HF := Lib.hid (HD.out wr l[i] (List.getElem_mem hlt) HW.out)
      have HNX : Hid ((l.take (i + 1)).any p = p l[i]) := by
        show _ = _
        rw [List.take_succ_eq_append_getElem hlt, List.any_append, HI.out]; simp
      have HAN : Hid (p l[i] = true → l.any p = true) := fun e => List.any_eq_true.2 ⟨_, List.getElem_mem hlt, e⟩
      generalize p l[i] = d at *
      generalize l[i] = x at *
      clear HI
      go_wp2_with fail
      refine HF.out.mono ?_
      rintro e w3 ⟨rfl, h3⟩
      have HW3 := Lib.hid (HW.out.trans (h3.mono HW.out.size))
      clear h3
      cases d with
      | true =>
        have HE := Lib.hid (HAN.out rfl)
        go_wp2_with fail
        go_ret
        refine ⟨⟨_, rfl, ?_⟩, HW3.out⟩
        rw [HE.out]
        exact decide_eq_true (by omega)
      | false =>
        go_wp2_with fail
        go_roundg (l.length - (i + 1))
        case measure => omega
        case rel => exact ⟨i + 1, by omega, rfl, by go_num, HNX, HW3⟩
    · have hlt' : ¬ (i : Int) < (l.length : Int) := by omega
      have HE : Hid (l.any p = false) := by
        have := HI.out
        rw [List.take_of_length_le (by omega)] at this
        exact this
      go_wp2_with fail
      go_ret
      refine ⟨⟨_, rfl, ?_⟩, HW.out⟩
      rw [HE.out]
      rfl
set_option maxRecDepth 100000 in
set_option maxHeartbeats 1000000 in
theorem containsT3 {w : World} {a : Option Addr} {cap : Nat} {l : List Bs} {p : Bs → Bool} {fn : FuncId} {c1 c2 c3 : Value} (hS : StrsAt w l a) (hn : l.length ≤ 1000000) (hcf : ∀ (args : Array Value) (w : World), (callFunc fn args).run Tryz.prog w = .ok (.enter fn args) w)
    (hd : ∀ W (x : Bs), x ∈ l → Below w.heap.size w W → Calls Tryz.prog fn #[.string (bs x), c1, c2, c3] W fun e w' => e = .returned (.bool (p x)) ∧ Below W.heap.size W w') :
    Calls Tryz.prog 44 #[.slice a l.length cap, .func (.func fn) #[] #[c1, c2, c3]] w fun e w' => e = .returned (.bool (l.any p)) ∧ Below w.heap.size w w' := by
  have HC := Lib.hid (indexT3 (cap := cap) hS hn hcf hd)
  clear hS hd hcf
  go_enter Tryz.func44, Tryz.ntmps44
  go_wp2_with fail
  refine HC.out.mono ?_
  rintro e w1 ⟨⟨k, rfl, hk⟩, hb⟩
  have HK := Lib.hid hk
  clear hk
  go_wp2_with fail
  go_ret
  exact ⟨by rw [← HK.out]; rfl, hb⟩
end Go.Proofs.YtibncofnnlbmcaaGreatDoor
/- Chapter 4: whether a module leads to another one: leads. -/
namespace Go.Proofs.YtibncofnnlbmcaaGreatDoor
open Go.RowKit Go.Maps
open Tp (Bs X S G Pr Pt Rs Rr Own)

theorem Row.strs {w : World} {D : Nat → Prop} {a : Option Addr} {c : Nat} {l : List Bs} (h : Row w D 9 1 (.slice a l.length c) l.length (strs l)) : StrsAt w l a := by
  refine ⟨fun i hi => ?_⟩
  obtain ⟨a', c', e, q⟩ := h.str
  injection e with e _ _
  subst e
  obtain ⟨b, e2, _, e3⟩ := q i hi
  exact ⟨b, 0, e2, lt_of_cell e3, by rw [Nat.zero_add]; exact e3⟩
theorem leads_iff {P : List Pt} {a b : Bs} {p : Pt} (hp : Tp.partOf P a = some p) : Tp.Leads P a b ↔ a = b ∨ ∃ c ∈ p.m.imports, Tp.Leads P c b := by
  constructor
  · intro h
    cases h with
    | refl => exact Or.inl rfl
    | step hq hc hl =>
      rw [hp] at hq
      cases hq
      exact Or.inr ⟨_, hc, hl⟩
  · rintro (rfl | ⟨c, hc, hl⟩)
    · exact .refl _
    · exact .step hp hc hl
/- what is imported is there -/
theorem WI.imp {P : List Pt} (h : Tp.WI ofS P) {p : Pt} {a c : Bs} (hp : Tp.partOf P a = some p) (hc : c ∈ p.m.imports) : (Tp.partOf P c).isSome = true := by
  have hm : p.m ∈ Tp.ms P := List.mem_map.2 ⟨p, (Tp.part_name hp).1, rfl⟩
  have := ((Tp.check_none.1 (h.ck p.m hm)).1.1 c hc).2
  unfold Tp.seenW at this
  cases hq : Tp.partOf P c with
  | none => rw [hq] at this; exact absurd rfl this
  | some q => rfl
theorem leads_cf (args : Array Value) (w : World) : (callFunc 90 args).run Tryz.prog w = .ok (.enter 90 args) w := by kernel_rfl
open Classical in
set_option maxRecDepth 100000 in
set_option maxHeartbeats 1000000 in
theorem leads1_post {w : World} {wb x1 x2 : Nat} {n dst : Bs} {r : Bool} (k1 : w.cell? ⟨x1, 0, none⟩ = some (.pointer (some ⟨wb, 0, none⟩))) (k2 : w.cell? ⟨x2, 0, none⟩ = some (.string (bs dst)))
    (hc : Calls Tryz.prog 46 #[.pointer (some ⟨wb, 0, none⟩), .string (bs n), .string (bs dst)] w fun e w' => e = .returned (.bool r) ∧ Below w.heap.size w w') :
    Calls Tryz.prog 90 #[.string (bs n), .pointer (some ⟨x1, 0, none⟩), .pointer (some ⟨x2, 0, none⟩)] w fun e w' => e = .returned (.bool r) ∧ Below w.heap.size w w' := by
  have HC := Lib.hid hc
  have hl1 := lt_of_cell k1
  have hl2 := lt_of_cell k2
  clear hc
  go_enter Tryz.func90, Tryz.ntmps90
  go_wp2_with fail
  refine HC.out.mono ?_
  rintro e w1 ⟨rfl, hb⟩
  have HB := Lib.hid hb
  clear hb
  go_wp2_with fail
  go_ret
  exact ⟨rfl, HB.out⟩
open Classical in
set_option maxRecDepth 100000 in
set_option maxHeartbeats 2000000 in
theorem leads_step {X : Nat → Prop} {w : World} {wb : Nat} {L : List Lo} {P : List Pt} {nv : Value} {tv : Option Nat} (h : WX X w wb L P nv tv) {a dst : Bs} {lo : Lo} (hlo : lo ∈ L) (hln : lo.m.name = a) (hal : a.length ≤ 1000000) (htl : dst.length ≤ 1000000)
    (ih : ∀ c ∈ lo.m.imports, ∀ W, Below w.heap.size w W → Calls Tryz.prog 46 #[.pointer (some ⟨wb, 0, none⟩), .string (bs c), .string (bs dst)] W fun e w' => e = .returned (.bool (decide (Tp.Leads P c dst))) ∧ Below W.heap.size W w') :
    Calls Tryz.prog 46 #[.pointer (some ⟨wb, 0, none⟩), .string (bs a), .string (bs dst)] w fun e w' => e = .returned (.bool (decide (a = dst) || lo.m.imports.any fun c => decide (Tp.Leads P c dst))) ∧ Below w.heap.size w w' := by
  obtain ⟨w2, hw2⟩ : ∃ w2, w2 = (w.alloc (.cells #[.pointer (some ⟨wb, 0, none⟩)] 47)).alloc (.cells #[.string (bs dst)] 9) := ⟨_, rfl⟩
  have hb2 : Below w.heap.size w w2 := by rw [hw2]; exact ((Below.refl _ _).alloc (Nat.le_refl _) _).alloc (by simp) _
  have q0 : w2.heap[w.heap.size]? = some (.cells #[.pointer (some ⟨wb, 0, none⟩)] 47 (0, 0)) := by rw [hw2]; exact (Below.heap_alloc _ _ _ (by simp)).trans (new_blk _ _)
  have q1 : w2.heap[w.heap.size + 1]? = some (.cells #[.string (bs dst)] 9 (0, 0)) := by rw [hw2]; exact new_blk1 _ _ _
  have hwl := lt_blk h.blk
  have k0 : w2.cell? ⟨w.heap.size, 0, none⟩ = some (.pointer (some ⟨wb, 0, none⟩)) := (cell_blk q0).trans rfl
  have k1 : w2.cell? ⟨w.heap.size + 1, 0, none⟩ = some (.string (bs dst)) := (cell_blk q1).trans rfl
  have kt : w2.cell? ⟨wb, 1, none⟩ = some (.map tv) := (cell_blk ((hb2.block _ hwl).trans h.blk)).trans rfl
  have hlk := (h.on hb2).look a hal
  have hpt : ptrV L a = some ⟨lo.lb, 0, none⟩ := by
    unfold ptrV
    rw [(Tp.find_key (key := fun lo : Lo => lo.m.name) h.nd lo).2 ⟨hlo, hln⟩]
    rfl
  rw [hpt] at hlk
  obtain ⟨tb, htv, hww⟩ := (h.on hb2).ww hlo
  obtain ⟨⟨ia, ga, pa, ba, ic, gc, pc, bc, m1, m2⟩, _, _, _, hfit⟩ := hww.lo lo hlo
  have hls := Row.strs m2.im
  have hil := hfit.wm.ic
  have ki : w2.cell? ⟨lo.lb, 1, none⟩ = some (.slice ia lo.m.imports.length ic) := (cell_blk m1).trans rfl
  have hll := lt_blk m1
  have HCF : Hid (Calls Tryz.prog 44 #[.slice ia lo.m.imports.length ic, .func (.func 90) #[] #[.pointer (some ⟨w.heap.size, 0, none⟩), .pointer (some ⟨w.heap.size + 1, 0, none⟩)]] w2 fun e w' => e = .returned (.bool (lo.m.imports.any fun c => decide (Tp.Leads P c dst))) ∧ Below w2.heap.size w2 w') := by
    refine containsT2 hls (by omega) leads_cf (fun W c hc hW => ?_)
    exact leads1_post ((hW.cell (p := ⟨w.heap.size, 0, none⟩) (lt_blk q0)).trans k0) ((hW.cell (p := ⟨w.heap.size + 1, 0, none⟩) (lt_blk q1)).trans k1) (ih c hc W (hb2.trans (hW.mono hb2.size)))
  have hl0 := lt_blk q0
  have hl1 := lt_blk q1
  have hwl2 : wb < w2.heap.size := by have := hb2.size; omega
  have hmf : ∀ (fn : Fn) (first cap : Array Value) (w : World), (Instr.makeFunc fn first cap).run Tryz.prog w = .ok (.func fn first cap) w := fun _ _ _ _ => rfl
  have HB2 := Lib.hid hb2
  generalize (lo.m.imports.any fun c => decide (Tp.Leads P c dst)) = r at *
  generalize lo.m.imports.length = il at *
  clear htv ih h hww m1 m2 hfit hls q0 q1 hb2 hlo hln hpt
  by_cases e : a = dst
  · subst e
    rw [decide_eq_true rfl, Bool.true_or]
    go_enter Tryz.func46, Tryz.ntmps46
    go_upto_region 1 with fail
    rw [← hw2]
    clear hw2
    go_wp2_with fail
    go_ret
    exact ⟨rfl, HB2.out⟩
  · have hne : ¬ (bs a).toList = (bs dst).toList := fun q => e (by rw [bs_toList, bs_toList] at q; exact q)
    rw [decide_eq_false e, Bool.false_or]
    have HBE : Hid (((bs a).toList == (bs dst).toList) = false) := by show _ = _; simpa using hne
    go_enter Tryz.func46, Tryz.ntmps46
    go_upto_region 1 with fail
    rw [← hw2]
    clear hw2
    go_wp2_with fail
    refine HCF.out.mono ?_
    rintro e w3 ⟨rfl, hb3⟩
    have HB3 : Hid (Below w.heap.size w w3) := HB2.out.trans (hb3.mono HB2.out.size)
    clear hb3
    go_wp2_with fail
    go_ret
    exact ⟨by show Ending.returned (Value.bool ((bs a).toList == (bs dst).toList || r)) = _; rw [HBE.out, Bool.false_or], HB3.out⟩
open Classical in
theorem leads_post {X : Nat → Prop} {wb : Nat} {L : List Lo} {P : List Pt} {nv : Value} {tv : Option Nat} (hWI : Tp.WI ofS P) (hL : ∀ lo ∈ L, lo.m.name.length ≤ 1000000) {dst : Bs} (htl : dst.length ≤ 1000000) : ∀ (n : Nat) (S : List Bs), S.length ≤ n → ∀ (a : Bs), (∀ x, Tp.Leads P a x → (Tp.partOf P x).isSome = true → x ∈ S) → (Tp.partOf P a).isSome = true → ∀ (w : World), WX X w wb L P nv tv →
    Calls Tryz.prog 46 #[.pointer (some ⟨wb, 0, none⟩), .string (bs a), .string (bs dst)] w fun e w' => e = .returned (.bool (decide (Tp.Leads P a dst))) ∧ Below w.heap.size w w' := by
  intro n
  induction n with
  | zero =>
    intro S hS a hr ha
    have := hr a (.refl a) ha
    rw [List.length_eq_zero_iff.1 (Nat.le_zero.1 hS)] at this
    cases this
  | succ n ih =>
    intro S hS a hr ha w hw
    have haS := hr a (.refl a) ha
    rcases ptr_part hw a with ⟨hp1, _⟩ | ⟨p, lo, hlo, hp1, hpm, hlm, _⟩
    · rw [hp1] at ha; cases ha
    · have hmem : p.m ∈ Tp.ms P := List.mem_map.2 ⟨p, (Tp.part_name hp1).1, rfl⟩
      have hpn := (Tp.part_name hp1).2
      have key := leads_step hw hlo hlm (by rw [← hlm]; exact hL lo hlo) htl (fun c hc W hW => ?_)
      · refine key.mono ?_
        rintro e w' ⟨he, hb⟩
        refine ⟨?_, hb⟩
        rw [he]
        congr 2
        rw [Bool.eq_iff_iff, Bool.or_eq_true, decide_eq_true_iff, decide_eq_true_iff, List.any_eq_true, leads_iff hp1, hpm]
        simp
      · rw [← hpm] at hc
        refine ih (S.filter fun x => !(x == a)) ?_ c (fun x hx hxs => ?_) (WI.imp hWI hp1 hc) W (hw.on hW)
        · have h1 : (S.filter fun x => !(x == a)).length < S.length := by
            rw [List.length_filter_lt_length_iff_exists]
            exact ⟨a, haS, by simp⟩
          omega
        · rw [List.mem_filter]
          refine ⟨hr x (.step hp1 hc hx) hxs, ?_⟩
          have : x ≠ a := fun e => by
            subst e
            have := hWI.ac p.m hmem c hc
            rw [hpn] at this
            exact this hx
          simpa using this
end Go.Proofs.YtibncofnnlbmcaaGreatDoor
