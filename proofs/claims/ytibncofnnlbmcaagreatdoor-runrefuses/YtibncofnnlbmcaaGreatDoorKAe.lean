import Derived.Test.YtibncofnnlbmcaaGreatDoorKAa
/- Chapter 4: Load, refused: nothing is changed. -/
namespace Go.Proofs.YtibncofnnlbmcaaGreatDoor
open Go.RowKit Go.Maps
open Tp (Bs X S G Pr Pt Rs Rr Own)

def ErrP (w : World) (er : Nat × Option Nat) (e : Ending) (w' : World) : Prop := Below w.heap.size w w' ∧ ∃ v, e = .returned (.tuple #[no2, v]) ∧ ErrV w.heap.size w' er v
set_option maxRecDepth 100000 in
set_option maxHeartbeats 4000000 in
theorem load_twice {X : Nat → Prop} {w : World} {wb fuel : Nat} {L : List Lo} {P : List Pt} {nv : Value} {tv : Option Nat} {m : Tp.M} {ia ga pa ba : Option Addr} {ic gc pc bc : Nat} (h : WX X w wb L P nv tv) (_ : L.length ≤ 10) (hmb : MB w w.heap.size m ia ga pa ba ic gc pc bc) (hm : Tp.WM m) {lo : Lo} (hptr : ptrV L m.name = some ⟨lo.lb, 0, none⟩) :
    Calls Tryz.prog 17 #[.pointer (some ⟨wb, 0, none⟩), .agg (mcells (bs m.name) (.slice ia m.imports.length ic) (.slice ga m.vars.length gc) (.slice pa m.procs.length pc) (.slice ba m.body.length bc)), .int .i64 (fuel : Int)] w (ErrP w (9, none)) := by
  obtain ⟨er, her⟩ : ∃ er : Nat × Option Nat, er = (9, none) := ⟨_, rfl⟩
  rw [← her]
  have HER := Lib.hid her
  clear her
  have hnl := okn_1000 hm.n
  have hwl := lt_blk h.blk
  obtain ⟨W, hW⟩ : ∃ W, W = (w.alloc (.cells (mcells (bs m.name) (.slice ia m.imports.length ic) (.slice ga m.vars.length gc) (.slice pa m.procs.length pc) (.slice ba m.body.length bc)) 36)).alloc (.cells #[.int .i64 0, .slice none 0 0] 43) := ⟨_, rfl⟩
  have hbW : Below w.heap.size w W := by rw [hW]; exact ((Below.refl _ _).alloc (Nat.le_refl _) _).alloc (by simp) _
  have hsW : W.heap.size = w.heap.size + 2 := by rw [hW]; simp
  have hkm : W.heap[w.heap.size]? = some (.cells (mcells (bs m.name) (.slice ia m.imports.length ic) (.slice ga m.vars.length gc) (.slice pa m.procs.length pc) (.slice ba m.body.length bc)) 36 (0, 0)) := by rw [hW]; exact (Below.heap_alloc _ _ _ (by simp)).trans (new_blk _ _)
  have hke : W.heap[w.heap.size + 1]? = some (.cells #[.int .i64 0, .slice none 0 0] 43 (0, 0)) := by
    have := new_blk (w.alloc (.cells (mcells (bs m.name) (.slice ia m.imports.length ic) (.slice ga m.vars.length gc) (.slice pa m.procs.length pc) (.slice ba m.body.length bc)) 36)) (.cells #[.int .i64 0, .slice none 0 0] 43)
    rw [hW]
    simpa using this
  have hww := (hbW.block wb hwl).trans h.blk
  have k1 : W.cell? ⟨wb, 1, none⟩ = some (.map tv) := (cell_blk hww).trans rfl
  have km : W.cell? ⟨w.heap.size, 0, none⟩ = some (.string (bs m.name)) := (cell_blk hkm).trans rfl
  have hlk : ∀ n, (Instr.lookup 26 (.map tv) (.string (bs m.name)) false).run Tryz.prog (W.drewN n) = .ok (.pointer (some ⟨lo.lb, 0, none⟩)) (W.drewN n) := fun n => by
    have := ((h.on hbW).on (below_drewN (Below.refl W.heap.size W) n)).look m.name (by omega)
    rw [hptr] at this
    exact this
  have HMB := Lib.hid hmb
  have HSM := Lib.hid hm.sml
  have HBW := Lib.hid hbW
  have HKM := Lib.hid hkm
  have HKE := Lib.hid hke
  have HWW := Lib.hid hww
  have HM := Lib.hid hm
  have HWX := Lib.hid h
  have HSW := Lib.hid hsW
  have hwlW : wb < W.heap.size := by omega
  have hmlW : w.heap.size < W.heap.size := by omega
  unfold mcells at *
  obtain ⟨mn, hmn⟩ : ∃ mn, mn = bs m.name := ⟨_, rfl⟩
  obtain ⟨Sn, hSn⟩ : ∃ Sn, Sn = Tp.seenW ofS P := ⟨_, rfl⟩
  have HCK : Hid (∀ W' sb, Below w.heap.size w W' → SeenV W' (.map (some sb)) Sn → Calls Tryz.prog 37 #[.agg #[.string mn, .slice ia m.imports.length ic, .slice ga m.vars.length gc, .slice pa m.procs.length pc, .slice ba m.body.length bc], .map (some sb)] W' (CheckP W' (Tp.check m Sn))) := fun W' sb hW' hmap => by
    have := check_post HSM.out (HMB.out.up hW') hmap
    unfold mcells at this
    rw [hmn]
    exact this
  rw [← hmn] at hW km hlk HKM ⊢
  have HMN : Hid (mn = bs m.name) := hmn
  have HSN : Hid (Sn = Tp.seenW ofS P) := hSn
  clear hmb hm hww hkm hke hbW hsW hmn hSn h hptr 
  obtain ⟨il, hil⟩ : ∃ il, il = m.imports.length := ⟨_, rfl⟩
  obtain ⟨gl, hgl⟩ : ∃ gl, gl = m.vars.length := ⟨_, rfl⟩
  obtain ⟨pl, hpl⟩ : ∃ pl, pl = m.procs.length := ⟨_, rfl⟩
  obtain ⟨bl, hbl⟩ : ∃ bl, bl = m.body.length := ⟨_, rfl⟩
  rw [← hil, ← hgl, ← hpl, ← hbl] at hW HKM HCK ⊢
  have HQ := Lib.hid (And.intro hil (And.intro hgl (And.intro hpl hbl)))
  clear hil hgl hpl hbl
  go_enter Tryz.func17, Tryz.ntmps17
  go_upto_region 1 with fail
  rw [← hW]
  clear hW
  go_quiet (fail)
  obtain ⟨w1, hw1⟩ : ∃ w1, w1 = W.drewN nq := ⟨_, rfl⟩
  have e1 : w1.heap = W.heap := by rw [hw1]; rfl
  have HB1 : Hid (Below W.heap.size W w1) := by rw [hw1]; exact below_drewN (Below.refl _ _) _
  rw [← hw1]
  clear hw1 hlk k1 km
  clear HCK
  obtain ⟨w3, hw3⟩ : ∃ w3, w3 = w1 := ⟨_, rfl⟩
  have HB3 : Hid (Below W.heap.size W w3) := by rw [hw3]; exact HB1.out
  rw [← hw3]
  clear hw3
  have hE3 := (HB3.out.block _ (show w.heap.size + 1 < W.heap.size by have := HSW.out; omega)).trans HKE.out
  have e0 : w3.cell? ⟨w.heap.size + 1, 0, none⟩ = some (.int .i64 0) := (cell_blk hE3).trans rfl
  have e1' : w3.cell? ⟨w.heap.size + 1, 1, none⟩ = some (.slice none 0 0) := (cell_blk hE3).trans rfl
  have ez : ∀ j, w3.frozen? ⟨w.heap.size + 1, j, none⟩ = false := fun j => frozen_blk hE3
  have hel := lt_blk hE3
  have hset := set_blk 1 (.slice none 0 0) (set_blk 0 (.int .i64 0) hE3)
  obtain ⟨w4, hw4⟩ : ∃ w4, w4 = (w3.setCell ⟨w.heap.size + 1, 0, none⟩ (.int .i64 0)).setCell ⟨w.heap.size + 1, 1, none⟩ (.slice none 0 0) := ⟨_, rfl⟩
  have f0 : w4.cell? ⟨w.heap.size + 1, 0, none⟩ = some (.int .i64 0) := by rw [hw4]; exact (cell_blk hset).trans rfl
  have f1 : w4.cell? ⟨w.heap.size + 1, 1, none⟩ = some (.slice none 0 0) := by rw [hw4]; exact (cell_blk hset).trans rfl
  have HR : Hid (ErrP w er (.returned (.tuple #[no2, .iface 44 (.int .i64 9)])) w4) := by
    have hx : Ext (w.heap.size + 1) w3 w4 := by rw [hw4]; exact ((Ext.refl _ _).set 0 _).set 1 _
    have hb : Below w.heap.size w w4 := by
      rw [hw4]
      exact below_set (below_set (HBW.out.trans (HB3.out.mono (by have := HSW.out; omega))) (by omega) 0 _) (by omega) 1 _
    refine ⟨hb, _, rfl, ?_⟩
    rw [HER.out]; exact rfl
  clear hE3 hset
  go_wp2_with fail
  rw [← hw4]
  exact bodyPost_ret (v := .tuple #[no2, .iface 44 (.int .i64 9)]) (by simp [results, Tryz.results17, go_sem, no2, f0, f1]) rfl HR.out
set_option maxRecDepth 100000 in
set_option maxHeartbeats 4000000 in
theorem load_badA {X : Nat → Prop} {w : World} {wb fuel : Nat} {L : List Lo} {P : List Pt} {nv : Value} {tv : Option Nat} {m : Tp.M} {ia ga pa ba : Option Addr} {ic gc pc bc : Nat} (h : WX X w wb L P nv tv) (hL : L.length ≤ 10) (hmb : MB w w.heap.size m ia ga pa ba ic gc pc bc) (hm : Tp.WM m) (hptr : ptrV L m.name = none) {en : Nat} (hck : Tp.check m (Tp.seenW ofS P) = some (en, none)) :
    Calls Tryz.prog 17 #[.pointer (some ⟨wb, 0, none⟩), .agg (mcells (bs m.name) (.slice ia m.imports.length ic) (.slice ga m.vars.length gc) (.slice pa m.procs.length pc) (.slice ba m.body.length bc)), .int .i64 (fuel : Int)] w (ErrP w (en, none)) := by
  obtain ⟨er, her⟩ : ∃ er : Nat × Option Nat, er = (en, none) := ⟨_, rfl⟩
  rw [← her]
  have HER := Lib.hid her
  clear her
  have hnl := okn_1000 hm.n
  have hwl := lt_blk h.blk
  obtain ⟨W, hW⟩ : ∃ W, W = (w.alloc (.cells (mcells (bs m.name) (.slice ia m.imports.length ic) (.slice ga m.vars.length gc) (.slice pa m.procs.length pc) (.slice ba m.body.length bc)) 36)).alloc (.cells #[.int .i64 0, .slice none 0 0] 43) := ⟨_, rfl⟩
  have hbW : Below w.heap.size w W := by rw [hW]; exact ((Below.refl _ _).alloc (Nat.le_refl _) _).alloc (by simp) _
  have hsW : W.heap.size = w.heap.size + 2 := by rw [hW]; simp
  have hkm : W.heap[w.heap.size]? = some (.cells (mcells (bs m.name) (.slice ia m.imports.length ic) (.slice ga m.vars.length gc) (.slice pa m.procs.length pc) (.slice ba m.body.length bc)) 36 (0, 0)) := by rw [hW]; exact (Below.heap_alloc _ _ _ (by simp)).trans (new_blk _ _)
  have hke : W.heap[w.heap.size + 1]? = some (.cells #[.int .i64 0, .slice none 0 0] 43 (0, 0)) := by
    have := new_blk (w.alloc (.cells (mcells (bs m.name) (.slice ia m.imports.length ic) (.slice ga m.vars.length gc) (.slice pa m.procs.length pc) (.slice ba m.body.length bc)) 36)) (.cells #[.int .i64 0, .slice none 0 0] 43)
    rw [hW]
    simpa using this
  have hww := (hbW.block wb hwl).trans h.blk
  have k1 : W.cell? ⟨wb, 1, none⟩ = some (.map tv) := (cell_blk hww).trans rfl
  have km : W.cell? ⟨w.heap.size, 0, none⟩ = some (.string (bs m.name)) := (cell_blk hkm).trans rfl
  have hlk : ∀ n, (Instr.lookup 26 (.map tv) (.string (bs m.name)) false).run Tryz.prog (W.drewN n) = .ok (.pointer none) (W.drewN n) := fun n => by
    have := ((h.on hbW).on (below_drewN (Below.refl W.heap.size W) n)).look m.name (by omega)
    rw [hptr] at this
    exact this
  have HMB := Lib.hid hmb
  have HSM := Lib.hid hm.sml
  have HBW := Lib.hid hbW
  have HKM := Lib.hid hkm
  have HKE := Lib.hid hke
  have HWW := Lib.hid hww
  have HM := Lib.hid hm
  have HWX := Lib.hid h
  have HSW := Lib.hid hsW
  have hwlW : wb < W.heap.size := by omega
  have hmlW : w.heap.size < W.heap.size := by omega
  have HHCK0 : Hid (Tp.check m (Tp.seenW ofS P) = some (en, none)) := hck
  unfold mcells at *
  obtain ⟨mn, hmn⟩ : ∃ mn, mn = bs m.name := ⟨_, rfl⟩
  obtain ⟨Sn, hSn⟩ : ∃ Sn, Sn = Tp.seenW ofS P := ⟨_, rfl⟩
  have HCK : Hid (∀ W' sb, Below w.heap.size w W' → SeenV W' (.map (some sb)) Sn → Calls Tryz.prog 37 #[.agg #[.string mn, .slice ia m.imports.length ic, .slice ga m.vars.length gc, .slice pa m.procs.length pc, .slice ba m.body.length bc], .map (some sb)] W' (CheckP W' (Tp.check m Sn))) := fun W' sb hW' hmap => by
    have := check_post HSM.out (HMB.out.up hW') hmap
    unfold mcells at this
    rw [hmn]
    exact this
  rw [← hmn] at hW km hlk HKM ⊢
  have HMN : Hid (mn = bs m.name) := hmn
  have HSN : Hid (Sn = Tp.seenW ofS P) := hSn
  clear hmb hm hww hkm hke hbW hsW hmn hSn h hptr hck
  obtain ⟨il, hil⟩ : ∃ il, il = m.imports.length := ⟨_, rfl⟩
  obtain ⟨gl, hgl⟩ : ∃ gl, gl = m.vars.length := ⟨_, rfl⟩
  obtain ⟨pl, hpl⟩ : ∃ pl, pl = m.procs.length := ⟨_, rfl⟩
  obtain ⟨bl, hbl⟩ : ∃ bl, bl = m.body.length := ⟨_, rfl⟩
  rw [← hil, ← hgl, ← hpl, ← hbl] at hW HKM HCK ⊢
  have HQ := Lib.hid (And.intro hil (And.intro hgl (And.intro hpl hbl)))
  clear hil hgl hpl hbl
  go_enter Tryz.func17, Tryz.ntmps17
  go_upto_region 1 with fail
  rw [← hW]
  clear hW
  go_quiet (fail)
  obtain ⟨w1, hw1⟩ : ∃ w1, w1 = W.drewN nq := ⟨_, rfl⟩
  have e1 : w1.heap = W.heap := by rw [hw1]; rfl
  have HB1 : Hid (Below W.heap.size W w1) := by rw [hw1]; exact below_drewN (Below.refl _ _) _
  rw [← hw1]
  clear hw1 hlk k1 km
  have HHCK : Hid (Tp.check m Sn = some (en, none)) := by show _ = _; rw [HSN.out]; exact HHCK0.out
  have hbd : Below W.heap.size W w1.drew := HB1.out.drew
  have hmd := (hbd.block _ hmlW).trans HKM.out
  have HS0 : Hid (w1.drew.cell? ⟨w.heap.size, 0, none⟩ = some (.string mn) ∧ w1.drew.cell? ⟨w.heap.size, 1, none⟩ = some (.slice ia il ic) ∧ w1.drew.cell? ⟨w.heap.size, 2, none⟩ = some (.slice ga gl gc) ∧ w1.drew.cell? ⟨w.heap.size, 3, none⟩ = some (.slice pa pl pc) ∧ w1.drew.cell? ⟨w.heap.size, 4, none⟩ = some (.slice ba bl bc)) := cell_box5 hmd
  have hs1d : w1.drew.heap.size = W.heap.size := by show w1.heap.size = _; rw [e1]
  have HSE : Hid (Calls Tryz.prog 38 #[.pointer (some ⟨wb, 0, none⟩)] w1.drew fun e w2 => ∃ sb, e = .returned (.map (some sb)) ∧ (Below W.heap.size W w2 ∧ SeenV w2 (.map (some sb)) Sn) ∧ (w2.cell? ⟨w.heap.size, 0, none⟩ = some (.string mn) ∧ w2.cell? ⟨w.heap.size, 1, none⟩ = some (.slice ia il ic) ∧ w2.cell? ⟨w.heap.size, 2, none⟩ = some (.slice ga gl gc) ∧ w2.cell? ⟨w.heap.size, 3, none⟩ = some (.slice pa pl pc) ∧ w2.cell? ⟨w.heap.size, 4, none⟩ = some (.slice ba bl bc))) := by
    refine (seen_any (HWX.out.on (HBW.out.trans (hbd.mono (by omega)))) hL).mono ?_
    rintro e w2 ⟨sb, rfl, hb2, hs2⟩
    have hB2 : Below W.heap.size W w2 := hbd.trans (hb2.mono (by rw [hs1d]; exact Nat.le_refl _))
    exact ⟨sb, rfl, ⟨hB2, by rw [HSN.out]; exact hs2⟩, cell_box5 ((hB2.block _ hmlW).trans HKM.out)⟩
  have HCK2 : Hid (∀ w2 sb, Below W.heap.size W w2 ∧ SeenV w2 (.map (some sb)) Sn → Calls Tryz.prog 37 #[.agg #[.string mn, .slice ia il ic, .slice ga gl gc, .slice pa pl pc, .slice ba bl bc], .map (some sb)] w2 fun e w3 => e = .returned (.iface 44 (.int .i64 (en : Int))) ∧ (Below W.heap.size W w3) ∧ (w3.cell? ⟨w.heap.size, 0, none⟩ = some (.string mn) ∧ w3.cell? ⟨w.heap.size, 1, none⟩ = some (.slice ia il ic) ∧ w3.cell? ⟨w.heap.size, 2, none⟩ = some (.slice ga gl gc) ∧ w3.cell? ⟨w.heap.size, 3, none⟩ = some (.slice pa pl pc) ∧ w3.cell? ⟨w.heap.size, 4, none⟩ = some (.slice ba bl bc))) := fun w2 sb h2 => by
    have := HCK.out w2 sb (HBW.out.trans (h2.1.mono (by omega))) h2.2
    rw [HHCK.out] at this
    refine this.mono ?_
    rintro e w3 ⟨hb3, rfl⟩
    have hB3 : Below W.heap.size W w3 := h2.1.trans (hb3.mono h2.1.size)
    exact ⟨rfl, hB3, cell_box5 ((hB3.block _ hmlW).trans HKM.out)⟩
  clear hbd hmd HCK hs1d
  go_upto_region 3 with fail
  go_region_held3 (fun w' => w'.cell? ⟨w.heap.size, 0, none⟩ = some (.string mn) ∧ w'.cell? ⟨w.heap.size, 1, none⟩ = some (.slice ia il ic) ∧ w'.cell? ⟨w.heap.size, 2, none⟩ = some (.slice ga gl gc) ∧ w'.cell? ⟨w.heap.size, 3, none⟩ = some (.slice pa pl pc) ∧ w'.cell? ⟨w.heap.size, 4, none⟩ = some (.slice ba bl bc)) (with_reducible (first | exact HS3.out | exact HS2.out | exact HS0.out)) (first | (go_at_call 38; refine HSE.out.mono ?_; rintro e w2 ⟨sb, rfl, hb2, hs2⟩; have HB2 := Lib.hid hb2; have HS2 := Lib.hid hs2; clear hb2 hs2) | (go_at_call 37; refine (HCK2.out _ _ HB2.out).mono ?_; rintro e w3 ⟨rfl, hb3, hs3⟩; have HB3 := Lib.hid hb3; have HS3 := Lib.hid hs3; clear hb3 hs3))
  have hE3 := (HB3.out.block _ (show w.heap.size + 1 < W.heap.size by have := HSW.out; omega)).trans HKE.out
  have e0 : w3.cell? ⟨w.heap.size + 1, 0, none⟩ = some (.int .i64 0) := (cell_blk hE3).trans rfl
  have e1' : w3.cell? ⟨w.heap.size + 1, 1, none⟩ = some (.slice none 0 0) := (cell_blk hE3).trans rfl
  have ez : ∀ j, w3.frozen? ⟨w.heap.size + 1, j, none⟩ = false := fun j => frozen_blk hE3
  have hel := lt_blk hE3
  have hset := set_blk 1 (.slice none 0 0) (set_blk 0 (.int .i64 0) hE3)
  obtain ⟨w4, hw4⟩ : ∃ w4, w4 = (w3.setCell ⟨w.heap.size + 1, 0, none⟩ (.int .i64 0)).setCell ⟨w.heap.size + 1, 1, none⟩ (.slice none 0 0) := ⟨_, rfl⟩
  have f0 : w4.cell? ⟨w.heap.size + 1, 0, none⟩ = some (.int .i64 0) := by rw [hw4]; exact (cell_blk hset).trans rfl
  have f1 : w4.cell? ⟨w.heap.size + 1, 1, none⟩ = some (.slice none 0 0) := by rw [hw4]; exact (cell_blk hset).trans rfl
  have HR : Hid (ErrP w er (.returned (.tuple #[no2, .iface 44 (.int .i64 (en : Int))])) w4) := by
    have hx : Ext (w.heap.size + 1) w3 w4 := by rw [hw4]; exact ((Ext.refl _ _).set 0 _).set 1 _
    have hb : Below w.heap.size w w4 := by
      rw [hw4]
      exact below_set (below_set (HBW.out.trans (HB3.out.mono (by have := HSW.out; omega))) (by omega) 0 _) (by omega) 1 _
    refine ⟨hb, _, rfl, ?_⟩
    rw [HER.out]; exact rfl
  clear hE3 hset
  clear HS0 HSE HCK2
  go_wp2_with fail
  rw [← hw4]
  exact bodyPost_ret (v := .tuple #[no2, .iface 44 (.int .i64 (en : Int))]) (by simp [results, Tryz.results17, go_sem, no2, f0, f1]) rfl HR.out
set_option maxRecDepth 100000 in
set_option maxHeartbeats 4000000 in
theorem load_badB {X : Nat → Prop} {w : World} {wb fuel : Nat} {L : List Lo} {P : List Pt} {nv : Value} {tv : Option Nat} {m : Tp.M} {ia ga pa ba : Option Addr} {ic gc pc bc : Nat} (h : WX X w wb L P nv tv) (hL : L.length ≤ 10) (hmb : MB w w.heap.size m ia ga pa ba ic gc pc bc) (hm : Tp.WM m) (hptr : ptrV L m.name = none) {en pl2 : Nat} (hck : Tp.check m (Tp.seenW ofS P) = some (en, some pl2)) :
    Calls Tryz.prog 17 #[.pointer (some ⟨wb, 0, none⟩), .agg (mcells (bs m.name) (.slice ia m.imports.length ic) (.slice ga m.vars.length gc) (.slice pa m.procs.length pc) (.slice ba m.body.length bc)), .int .i64 (fuel : Int)] w (ErrP w (en, some pl2)) := by
  obtain ⟨er, her⟩ : ∃ er : Nat × Option Nat, er = (en, some pl2) := ⟨_, rfl⟩
  rw [← her]
  have HER := Lib.hid her
  clear her
  have hnl := okn_1000 hm.n
  have hwl := lt_blk h.blk
  obtain ⟨W, hW⟩ : ∃ W, W = (w.alloc (.cells (mcells (bs m.name) (.slice ia m.imports.length ic) (.slice ga m.vars.length gc) (.slice pa m.procs.length pc) (.slice ba m.body.length bc)) 36)).alloc (.cells #[.int .i64 0, .slice none 0 0] 43) := ⟨_, rfl⟩
  have hbW : Below w.heap.size w W := by rw [hW]; exact ((Below.refl _ _).alloc (Nat.le_refl _) _).alloc (by simp) _
  have hsW : W.heap.size = w.heap.size + 2 := by rw [hW]; simp
  have hkm : W.heap[w.heap.size]? = some (.cells (mcells (bs m.name) (.slice ia m.imports.length ic) (.slice ga m.vars.length gc) (.slice pa m.procs.length pc) (.slice ba m.body.length bc)) 36 (0, 0)) := by rw [hW]; exact (Below.heap_alloc _ _ _ (by simp)).trans (new_blk _ _)
  have hke : W.heap[w.heap.size + 1]? = some (.cells #[.int .i64 0, .slice none 0 0] 43 (0, 0)) := by
    have := new_blk (w.alloc (.cells (mcells (bs m.name) (.slice ia m.imports.length ic) (.slice ga m.vars.length gc) (.slice pa m.procs.length pc) (.slice ba m.body.length bc)) 36)) (.cells #[.int .i64 0, .slice none 0 0] 43)
    rw [hW]
    simpa using this
  have hww := (hbW.block wb hwl).trans h.blk
  have k1 : W.cell? ⟨wb, 1, none⟩ = some (.map tv) := (cell_blk hww).trans rfl
  have km : W.cell? ⟨w.heap.size, 0, none⟩ = some (.string (bs m.name)) := (cell_blk hkm).trans rfl
  have hlk : ∀ n, (Instr.lookup 26 (.map tv) (.string (bs m.name)) false).run Tryz.prog (W.drewN n) = .ok (.pointer none) (W.drewN n) := fun n => by
    have := ((h.on hbW).on (below_drewN (Below.refl W.heap.size W) n)).look m.name (by omega)
    rw [hptr] at this
    exact this
  have HMB := Lib.hid hmb
  have HSM := Lib.hid hm.sml
  have HBW := Lib.hid hbW
  have HKM := Lib.hid hkm
  have HKE := Lib.hid hke
  have HWW := Lib.hid hww
  have HM := Lib.hid hm
  have HWX := Lib.hid h
  have HSW := Lib.hid hsW
  have hwlW : wb < W.heap.size := by omega
  have hmlW : w.heap.size < W.heap.size := by omega
  have HHCK0 : Hid (Tp.check m (Tp.seenW ofS P) = some (en, some pl2)) := hck
  unfold mcells at *
  obtain ⟨mn, hmn⟩ : ∃ mn, mn = bs m.name := ⟨_, rfl⟩
  obtain ⟨Sn, hSn⟩ : ∃ Sn, Sn = Tp.seenW ofS P := ⟨_, rfl⟩
  have HCK : Hid (∀ W' sb, Below w.heap.size w W' → SeenV W' (.map (some sb)) Sn → Calls Tryz.prog 37 #[.agg #[.string mn, .slice ia m.imports.length ic, .slice ga m.vars.length gc, .slice pa m.procs.length pc, .slice ba m.body.length bc], .map (some sb)] W' (CheckP W' (Tp.check m Sn))) := fun W' sb hW' hmap => by
    have := check_post HSM.out (HMB.out.up hW') hmap
    unfold mcells at this
    rw [hmn]
    exact this
  rw [← hmn] at hW km hlk HKM ⊢
  have HMN : Hid (mn = bs m.name) := hmn
  have HSN : Hid (Sn = Tp.seenW ofS P) := hSn
  clear hmb hm hww hkm hke hbW hsW hmn hSn h hptr hck
  obtain ⟨il, hil⟩ : ∃ il, il = m.imports.length := ⟨_, rfl⟩
  obtain ⟨gl, hgl⟩ : ∃ gl, gl = m.vars.length := ⟨_, rfl⟩
  obtain ⟨pl, hpl⟩ : ∃ pl, pl = m.procs.length := ⟨_, rfl⟩
  obtain ⟨bl, hbl⟩ : ∃ bl, bl = m.body.length := ⟨_, rfl⟩
  rw [← hil, ← hgl, ← hpl, ← hbl] at hW HKM HCK ⊢
  have HQ := Lib.hid (And.intro hil (And.intro hgl (And.intro hpl hbl)))
  clear hil hgl hpl hbl
  go_enter Tryz.func17, Tryz.ntmps17
  go_upto_region 1 with fail
  rw [← hW]
  clear hW
  go_quiet (fail)
  obtain ⟨w1, hw1⟩ : ∃ w1, w1 = W.drewN nq := ⟨_, rfl⟩
  have e1 : w1.heap = W.heap := by rw [hw1]; rfl
  have HB1 : Hid (Below W.heap.size W w1) := by rw [hw1]; exact below_drewN (Below.refl _ _) _
  rw [← hw1]
  clear hw1 hlk k1 km
  have HHCK : Hid (Tp.check m Sn = some (en, some pl2)) := by show _ = _; rw [HSN.out]; exact HHCK0.out
  have hbd : Below W.heap.size W w1.drew := HB1.out.drew
  have hmd := (hbd.block _ hmlW).trans HKM.out
  have HS0 : Hid (w1.drew.cell? ⟨w.heap.size, 0, none⟩ = some (.string mn) ∧ w1.drew.cell? ⟨w.heap.size, 1, none⟩ = some (.slice ia il ic) ∧ w1.drew.cell? ⟨w.heap.size, 2, none⟩ = some (.slice ga gl gc) ∧ w1.drew.cell? ⟨w.heap.size, 3, none⟩ = some (.slice pa pl pc) ∧ w1.drew.cell? ⟨w.heap.size, 4, none⟩ = some (.slice ba bl bc)) := cell_box5 hmd
  have hs1d : w1.drew.heap.size = W.heap.size := by show w1.heap.size = _; rw [e1]
  have HSE : Hid (Calls Tryz.prog 38 #[.pointer (some ⟨wb, 0, none⟩)] w1.drew fun e w2 => ∃ sb, e = .returned (.map (some sb)) ∧ (Below W.heap.size W w2 ∧ SeenV w2 (.map (some sb)) Sn) ∧ (w2.cell? ⟨w.heap.size, 0, none⟩ = some (.string mn) ∧ w2.cell? ⟨w.heap.size, 1, none⟩ = some (.slice ia il ic) ∧ w2.cell? ⟨w.heap.size, 2, none⟩ = some (.slice ga gl gc) ∧ w2.cell? ⟨w.heap.size, 3, none⟩ = some (.slice pa pl pc) ∧ w2.cell? ⟨w.heap.size, 4, none⟩ = some (.slice ba bl bc))) := by
    refine (seen_any (HWX.out.on (HBW.out.trans (hbd.mono (by omega)))) hL).mono ?_
    rintro e w2 ⟨sb, rfl, hb2, hs2⟩
    have hB2 : Below W.heap.size W w2 := hbd.trans (hb2.mono (by rw [hs1d]; exact Nat.le_refl _))
    exact ⟨sb, rfl, ⟨hB2, by rw [HSN.out]; exact hs2⟩, cell_box5 ((hB2.block _ hmlW).trans HKM.out)⟩
  have HCK2 : Hid (∀ w2 sb, Below W.heap.size W w2 ∧ SeenV w2 (.map (some sb)) Sn → Calls Tryz.prog 37 #[.agg #[.string mn, .slice ia il ic, .slice ga gl gc, .slice pa pl pc, .slice ba bl bc], .map (some sb)] w2 fun e w3 => ∃ ab, e = .returned (.iface 117 (.pointer (some ⟨ab, 0, none⟩))) ∧ ((W.heap.size ≤ ab ∧ w3.cell? ⟨ab, 0, none⟩ = some (.int .i64 (en : Int)) ∧ w3.cell? ⟨ab, 1, none⟩ = some (.int .i64 (pl2 : Int))) ∧ Below W.heap.size W w3) ∧ (w3.cell? ⟨w.heap.size, 0, none⟩ = some (.string mn) ∧ w3.cell? ⟨w.heap.size, 1, none⟩ = some (.slice ia il ic) ∧ w3.cell? ⟨w.heap.size, 2, none⟩ = some (.slice ga gl gc) ∧ w3.cell? ⟨w.heap.size, 3, none⟩ = some (.slice pa pl pc) ∧ w3.cell? ⟨w.heap.size, 4, none⟩ = some (.slice ba bl bc))) := fun w2 sb h2 => by
    have := HCK.out w2 sb (HBW.out.trans (h2.1.mono (by omega))) h2.2
    rw [HHCK.out] at this
    refine this.mono ?_
    rintro e w3 ⟨hb3, ab, rfl, hab, ha0, ha1⟩
    have hB3 : Below W.heap.size W w3 := h2.1.trans (hb3.mono h2.1.size)
    exact ⟨ab, rfl, ⟨⟨by have := h2.1.size; omega, ha0, ha1⟩, hB3⟩, cell_box5 ((hB3.block _ hmlW).trans HKM.out)⟩
  clear hbd hmd HCK hs1d
  go_upto_region 3 with fail
  go_region_held3 (fun w' => w'.cell? ⟨w.heap.size, 0, none⟩ = some (.string mn) ∧ w'.cell? ⟨w.heap.size, 1, none⟩ = some (.slice ia il ic) ∧ w'.cell? ⟨w.heap.size, 2, none⟩ = some (.slice ga gl gc) ∧ w'.cell? ⟨w.heap.size, 3, none⟩ = some (.slice pa pl pc) ∧ w'.cell? ⟨w.heap.size, 4, none⟩ = some (.slice ba bl bc)) (with_reducible (first | exact HS3.out | exact HS2.out | exact HS0.out)) (first | (go_at_call 38; refine HSE.out.mono ?_; rintro e w2 ⟨sb, rfl, hb2, hs2⟩; have HB2 := Lib.hid hb2; have HS2 := Lib.hid hs2; clear hb2 hs2) | (go_at_call 37; refine (HCK2.out _ _ HB2.out).mono ?_; rintro e w3 ⟨ab, rfl, hb3, hs3⟩; have HB3 := Lib.hid hb3; have HS3 := Lib.hid hs3; clear hb3 hs3))
  have hE3 := (HB3.out.2.block _ (show w.heap.size + 1 < W.heap.size by have := HSW.out; omega)).trans HKE.out
  have e0 : w3.cell? ⟨w.heap.size + 1, 0, none⟩ = some (.int .i64 0) := (cell_blk hE3).trans rfl
  have e1' : w3.cell? ⟨w.heap.size + 1, 1, none⟩ = some (.slice none 0 0) := (cell_blk hE3).trans rfl
  have ez : ∀ j, w3.frozen? ⟨w.heap.size + 1, j, none⟩ = false := fun j => frozen_blk hE3
  have hel := lt_blk hE3
  have hset := set_blk 1 (.slice none 0 0) (set_blk 0 (.int .i64 0) hE3)
  obtain ⟨w4, hw4⟩ : ∃ w4, w4 = (w3.setCell ⟨w.heap.size + 1, 0, none⟩ (.int .i64 0)).setCell ⟨w.heap.size + 1, 1, none⟩ (.slice none 0 0) := ⟨_, rfl⟩
  have f0 : w4.cell? ⟨w.heap.size + 1, 0, none⟩ = some (.int .i64 0) := by rw [hw4]; exact (cell_blk hset).trans rfl
  have f1 : w4.cell? ⟨w.heap.size + 1, 1, none⟩ = some (.slice none 0 0) := by rw [hw4]; exact (cell_blk hset).trans rfl
  have HR : Hid (ErrP w er (.returned (.tuple #[no2, .iface 117 (.pointer (some ⟨ab, 0, none⟩))])) w4) := by
    have hx : Ext (w.heap.size + 1) w3 w4 := by rw [hw4]; exact ((Ext.refl _ _).set 0 _).set 1 _
    have hb : Below w.heap.size w w4 := by
      rw [hw4]
      exact below_set (below_set (HBW.out.trans (HB3.out.2.mono (by have := HSW.out; omega))) (by omega) 0 _) (by omega) 1 _
    refine ⟨hb, _, rfl, ?_⟩
    rw [HER.out]; exact ⟨ab, rfl, by have := HB3.out.1.1; have := HSW.out; omega, (World.cell?_of_block (w := w3) (hx.block ab (lt_of_cell HB3.out.1.2.1) (by have := HB3.out.1.1; have := HSW.out; omega))).trans HB3.out.1.2.1, (World.cell?_of_block (w := w3) (hx.block ab (lt_of_cell HB3.out.1.2.1) (by have := HB3.out.1.1; have := HSW.out; omega))).trans HB3.out.1.2.2⟩
  clear hE3 hset
  clear HS0 HSE HCK2
  go_wp2_with fail
  rw [← hw4]
  exact bodyPost_ret (v := .tuple #[no2, .iface 117 (.pointer (some ⟨ab, 0, none⟩))]) (by simp [results, Tryz.results17, go_sem, no2, f0, f1]) rfl HR.out
set_option maxRecDepth 100000 in
set_option maxHeartbeats 4000000 in
theorem load_fullA {X : Nat → Prop} {w : World} {wb fuel : Nat} {L : List Lo} {P : List Pt} {nv : Value} {tv : Option Nat} {m : Tp.M} {ia ga pa ba : Option Addr} {ic gc pc bc : Nat} (h : WX X w wb L P nv tv) (hL : L.length ≤ 10) (hmb : MB w w.heap.size m ia ga pa ba ic gc pc bc) (hm : Tp.WM m) (hptr : ptrV L m.name = none) (hck : Tp.check m (Tp.seenW ofS P) = none) (hfull : L.length = 10) :
    Calls Tryz.prog 17 #[.pointer (some ⟨wb, 0, none⟩), .agg (mcells (bs m.name) (.slice ia m.imports.length ic) (.slice ga m.vars.length gc) (.slice pa m.procs.length pc) (.slice ba m.body.length bc)), .int .i64 (fuel : Int)] w (ErrP w (12, none)) := by
  obtain ⟨er, her⟩ : ∃ er : Nat × Option Nat, er = (12, none) := ⟨_, rfl⟩
  rw [← her]
  have HER := Lib.hid her
  clear her
  have hnl := okn_1000 hm.n
  have hwl := lt_blk h.blk
  obtain ⟨W, hW⟩ : ∃ W, W = (w.alloc (.cells (mcells (bs m.name) (.slice ia m.imports.length ic) (.slice ga m.vars.length gc) (.slice pa m.procs.length pc) (.slice ba m.body.length bc)) 36)).alloc (.cells #[.int .i64 0, .slice none 0 0] 43) := ⟨_, rfl⟩
  have hbW : Below w.heap.size w W := by rw [hW]; exact ((Below.refl _ _).alloc (Nat.le_refl _) _).alloc (by simp) _
  have hsW : W.heap.size = w.heap.size + 2 := by rw [hW]; simp
  have hkm : W.heap[w.heap.size]? = some (.cells (mcells (bs m.name) (.slice ia m.imports.length ic) (.slice ga m.vars.length gc) (.slice pa m.procs.length pc) (.slice ba m.body.length bc)) 36 (0, 0)) := by rw [hW]; exact (Below.heap_alloc _ _ _ (by simp)).trans (new_blk _ _)
  have hke : W.heap[w.heap.size + 1]? = some (.cells #[.int .i64 0, .slice none 0 0] 43 (0, 0)) := by
    have := new_blk (w.alloc (.cells (mcells (bs m.name) (.slice ia m.imports.length ic) (.slice ga m.vars.length gc) (.slice pa m.procs.length pc) (.slice ba m.body.length bc)) 36)) (.cells #[.int .i64 0, .slice none 0 0] 43)
    rw [hW]
    simpa using this
  have hww := (hbW.block wb hwl).trans h.blk
  have k1 : W.cell? ⟨wb, 1, none⟩ = some (.map tv) := (cell_blk hww).trans rfl
  have km : W.cell? ⟨w.heap.size, 0, none⟩ = some (.string (bs m.name)) := (cell_blk hkm).trans rfl
  have hlk : ∀ n, (Instr.lookup 26 (.map tv) (.string (bs m.name)) false).run Tryz.prog (W.drewN n) = .ok (.pointer none) (W.drewN n) := fun n => by
    have := ((h.on hbW).on (below_drewN (Below.refl W.heap.size W) n)).look m.name (by omega)
    rw [hptr] at this
    exact this
  have HMB := Lib.hid hmb
  have HSM := Lib.hid hm.sml
  have HBW := Lib.hid hbW
  have HKM := Lib.hid hkm
  have HKE := Lib.hid hke
  have HWW := Lib.hid hww
  have HM := Lib.hid hm
  have HWX := Lib.hid h
  have HSW := Lib.hid hsW
  have hwlW : wb < W.heap.size := by omega
  have hmlW : w.heap.size < W.heap.size := by omega
  have HHCK0 : Hid (Tp.check m (Tp.seenW ofS P) = none) := hck
  unfold mcells at *
  obtain ⟨mn, hmn⟩ : ∃ mn, mn = bs m.name := ⟨_, rfl⟩
  obtain ⟨Sn, hSn⟩ : ∃ Sn, Sn = Tp.seenW ofS P := ⟨_, rfl⟩
  have HCK : Hid (∀ W' sb, Below w.heap.size w W' → SeenV W' (.map (some sb)) Sn → Calls Tryz.prog 37 #[.agg #[.string mn, .slice ia m.imports.length ic, .slice ga m.vars.length gc, .slice pa m.procs.length pc, .slice ba m.body.length bc], .map (some sb)] W' (CheckP W' (Tp.check m Sn))) := fun W' sb hW' hmap => by
    have := check_post HSM.out (HMB.out.up hW') hmap
    unfold mcells at this
    rw [hmn]
    exact this
  rw [← hmn] at hW km hlk HKM ⊢
  have HMN : Hid (mn = bs m.name) := hmn
  have HSN : Hid (Sn = Tp.seenW ofS P) := hSn
  clear hmb hm hww hkm hke hbW hsW hmn hSn h hptr hck
  obtain ⟨il, hil⟩ : ∃ il, il = m.imports.length := ⟨_, rfl⟩
  obtain ⟨gl, hgl⟩ : ∃ gl, gl = m.vars.length := ⟨_, rfl⟩
  obtain ⟨pl, hpl⟩ : ∃ pl, pl = m.procs.length := ⟨_, rfl⟩
  obtain ⟨bl, hbl⟩ : ∃ bl, bl = m.body.length := ⟨_, rfl⟩
  rw [← hil, ← hgl, ← hpl, ← hbl] at hW HKM HCK ⊢
  have HQ := Lib.hid (And.intro hil (And.intro hgl (And.intro hpl hbl)))
  clear hil hgl hpl hbl
  go_enter Tryz.func17, Tryz.ntmps17
  go_upto_region 1 with fail
  rw [← hW]
  clear hW
  go_quiet (fail)
  obtain ⟨w1, hw1⟩ : ∃ w1, w1 = W.drewN nq := ⟨_, rfl⟩
  have e1 : w1.heap = W.heap := by rw [hw1]; rfl
  have HB1 : Hid (Below W.heap.size W w1) := by rw [hw1]; exact below_drewN (Below.refl _ _) _
  rw [← hw1]
  clear hw1 hlk k1 km
  have HHCK : Hid (Tp.check m Sn = none) := by show _ = _; rw [HSN.out]; exact HHCK0.out
  have hbd : Below W.heap.size W w1.drew := HB1.out.drew
  have hmd := (hbd.block _ hmlW).trans HKM.out
  have HS0 : Hid (w1.drew.cell? ⟨w.heap.size, 0, none⟩ = some (.string mn) ∧ w1.drew.cell? ⟨w.heap.size, 1, none⟩ = some (.slice ia il ic) ∧ w1.drew.cell? ⟨w.heap.size, 2, none⟩ = some (.slice ga gl gc) ∧ w1.drew.cell? ⟨w.heap.size, 3, none⟩ = some (.slice pa pl pc) ∧ w1.drew.cell? ⟨w.heap.size, 4, none⟩ = some (.slice ba bl bc)) := cell_box5 hmd
  have hs1d : w1.drew.heap.size = W.heap.size := by show w1.heap.size = _; rw [e1]
  have HSE : Hid (Calls Tryz.prog 38 #[.pointer (some ⟨wb, 0, none⟩)] w1.drew fun e w2 => ∃ sb, e = .returned (.map (some sb)) ∧ (Below W.heap.size W w2 ∧ SeenV w2 (.map (some sb)) Sn) ∧ (w2.cell? ⟨w.heap.size, 0, none⟩ = some (.string mn) ∧ w2.cell? ⟨w.heap.size, 1, none⟩ = some (.slice ia il ic) ∧ w2.cell? ⟨w.heap.size, 2, none⟩ = some (.slice ga gl gc) ∧ w2.cell? ⟨w.heap.size, 3, none⟩ = some (.slice pa pl pc) ∧ w2.cell? ⟨w.heap.size, 4, none⟩ = some (.slice ba bl bc))) := by
    refine (seen_any (HWX.out.on (HBW.out.trans (hbd.mono (by omega)))) hL).mono ?_
    rintro e w2 ⟨sb, rfl, hb2, hs2⟩
    have hB2 : Below W.heap.size W w2 := hbd.trans (hb2.mono (by rw [hs1d]; exact Nat.le_refl _))
    exact ⟨sb, rfl, ⟨hB2, by rw [HSN.out]; exact hs2⟩, cell_box5 ((hB2.block _ hmlW).trans HKM.out)⟩
  have HCK2 : Hid (∀ w2 sb, Below W.heap.size W w2 ∧ SeenV w2 (.map (some sb)) Sn → Calls Tryz.prog 37 #[.agg #[.string mn, .slice ia il ic, .slice ga gl gc, .slice pa pl pc, .slice ba bl bc], .map (some sb)] w2 fun e w3 => e = .returned .nilIface ∧ (Below W.heap.size W w3) ∧ (w3.cell? ⟨w.heap.size, 0, none⟩ = some (.string mn) ∧ w3.cell? ⟨w.heap.size, 1, none⟩ = some (.slice ia il ic) ∧ w3.cell? ⟨w.heap.size, 2, none⟩ = some (.slice ga gl gc) ∧ w3.cell? ⟨w.heap.size, 3, none⟩ = some (.slice pa pl pc) ∧ w3.cell? ⟨w.heap.size, 4, none⟩ = some (.slice ba bl bc))) := fun w2 sb h2 => by
    have := HCK.out w2 sb (HBW.out.trans (h2.1.mono (by omega))) h2.2
    rw [HHCK.out] at this
    refine this.mono ?_
    rintro e w3 ⟨hb3, rfl⟩
    have hB3 : Below W.heap.size W w3 := h2.1.trans (hb3.mono h2.1.size)
    exact ⟨rfl, hB3, cell_box5 ((hB3.block _ hmlW).trans HKM.out)⟩
  clear hbd hmd HCK hs1d
  go_upto_region 3 with fail
  go_region_held3 (fun w' => w'.cell? ⟨w.heap.size, 0, none⟩ = some (.string mn) ∧ w'.cell? ⟨w.heap.size, 1, none⟩ = some (.slice ia il ic) ∧ w'.cell? ⟨w.heap.size, 2, none⟩ = some (.slice ga gl gc) ∧ w'.cell? ⟨w.heap.size, 3, none⟩ = some (.slice pa pl pc) ∧ w'.cell? ⟨w.heap.size, 4, none⟩ = some (.slice ba bl bc)) (with_reducible (first | exact HS3.out | exact HS2.out | exact HS0.out)) (first | (go_at_call 38; refine HSE.out.mono ?_; rintro e w2 ⟨sb, rfl, hb2, hs2⟩; have HB2 := Lib.hid hb2; have HS2 := Lib.hid hs2; clear hb2 hs2) | (go_at_call 37; refine (HCK2.out _ _ HB2.out).mono ?_; rintro e w3 ⟨rfl, hb3, hs3⟩; have HB3 := Lib.hid hb3; have HS3 := Lib.hid hs3; clear hb3 hs3))
  obtain ⟨na, nc, hnv⟩ := owns_shape HWX.out.nm
  have k0 : w3.cell? ⟨wb, 0, none⟩ = some (.slice na 10 nc) := by
    rw [(cell_blk ((HB3.out.block wb hwlW).trans HWW.out)).trans rfl, hnv, hfull]
    rfl
  have hwl3 : wb < w3.heap.size := by have := HB3.out.size; omega
  clear hnv
  have hE3 := (HB3.out.block _ (show w.heap.size + 1 < W.heap.size by have := HSW.out; omega)).trans HKE.out
  have e0 : w3.cell? ⟨w.heap.size + 1, 0, none⟩ = some (.int .i64 0) := (cell_blk hE3).trans rfl
  have e1' : w3.cell? ⟨w.heap.size + 1, 1, none⟩ = some (.slice none 0 0) := (cell_blk hE3).trans rfl
  have ez : ∀ j, w3.frozen? ⟨w.heap.size + 1, j, none⟩ = false := fun j => frozen_blk hE3
  have hel := lt_blk hE3
  have hset := set_blk 1 (.slice none 0 0) (set_blk 0 (.int .i64 0) hE3)
  obtain ⟨w4, hw4⟩ : ∃ w4, w4 = (w3.setCell ⟨w.heap.size + 1, 0, none⟩ (.int .i64 0)).setCell ⟨w.heap.size + 1, 1, none⟩ (.slice none 0 0) := ⟨_, rfl⟩
  have f0 : w4.cell? ⟨w.heap.size + 1, 0, none⟩ = some (.int .i64 0) := by rw [hw4]; exact (cell_blk hset).trans rfl
  have f1 : w4.cell? ⟨w.heap.size + 1, 1, none⟩ = some (.slice none 0 0) := by rw [hw4]; exact (cell_blk hset).trans rfl
  have HR : Hid (ErrP w er (.returned (.tuple #[no2, .iface 44 (.int .i64 12)])) w4) := by
    have hx : Ext (w.heap.size + 1) w3 w4 := by rw [hw4]; exact ((Ext.refl _ _).set 0 _).set 1 _
    have hb : Below w.heap.size w w4 := by
      rw [hw4]
      exact below_set (below_set (HBW.out.trans (HB3.out.mono (by have := HSW.out; omega))) (by omega) 0 _) (by omega) 1 _
    refine ⟨hb, _, rfl, ?_⟩
    rw [HER.out]; exact rfl
  clear hE3 hset
  clear HS0 HSE HCK2
  go_wp2_with fail
  rw [← hw4]
  exact bodyPost_ret (v := .tuple #[no2, .iface 44 (.int .i64 12)]) (by simp [results, Tryz.results17, go_sem, no2, f0, f1]) rfl HR.out
end Go.Proofs.YtibncofnnlbmcaaGreatDoor
