import Derived.Test.YtfpeboeknjlkbaaGreatDoorKXc
/- Chapter 4: Load on the empty world, where something is found. -/
namespace Go.Proofs.YtfpeboeknjlkbaaGreatDoor
open Go.RowKit Go.Maps
open Tp (Bs X S G Pr Pt Rs Rr Own)

set_option maxRecDepth 100000 in
set_option maxHeartbeats 4000000 in
theorem load_bad0 {Y : Nat → Prop} {w : World} {wb fuel B0 : Nat} {m : Tp.M} {ia ga pa ba : Option Addr} {ic gc pc bc : Nat} (hw : w.heap[wb]? = some (.cells #[.slice none 0 0, .map none] 40 (0, 0))) (hmb0 : MB w B0 m ia ga pa ba ic gc pc bc) (_ : B0 ≤ wb) (hY : ∀ b, Y b → B0 ≤ b ∧ b < w.heap.size ∧ b ≠ wb) (hm : Tp.WM m) (_ : fuel ≤ 800000) {en : Nat} (hck : Tp.check m (fun _ => none) = some (en, none)) :
    Calls Tryz.prog 14 #[.pointer (some ⟨wb, 0, none⟩), .agg (mcells (bs m.name) (.slice ia m.imports.length ic) (.slice ga m.vars.length gc) (.slice pa m.procs.length pc) (.slice ba m.body.length bc)), .int .i64 (fuel : Int)] w (LoadP Y w wb (Tp.loadW of0 [] m fuel)) := by
  have hmb : MB w w.heap.size m ia ga pa ba ic gc pc bc := (hmb0.md).mb (fun b hb hl => hl)
  obtain ⟨a, ha⟩ : ∃ a, a = Tp.loadW of0 [] m fuel := ⟨_, rfl⟩
  rw [← ha]
  have hnl := okn_1000 hm.n
  have hwl := lt_blk hw
  obtain ⟨W, hW⟩ : ∃ W, W = (w.alloc (.cells (mcells (bs m.name) (.slice ia m.imports.length ic) (.slice ga m.vars.length gc) (.slice pa m.procs.length pc) (.slice ba m.body.length bc)) 32)).alloc (.cells #[.int .i64 0, .slice none 0 0] 43) := ⟨_, rfl⟩
  have hbW : Below w.heap.size w W := by rw [hW]; exact ((Below.refl _ _).alloc (Nat.le_refl _) _).alloc (by simp) _
  have hsW : W.heap.size = w.heap.size + 2 := by rw [hW]; simp
  have hkm : W.heap[w.heap.size]? = some (.cells (mcells (bs m.name) (.slice ia m.imports.length ic) (.slice ga m.vars.length gc) (.slice pa m.procs.length pc) (.slice ba m.body.length bc)) 32 (0, 0)) := by rw [hW]; exact (Below.heap_alloc _ _ _ (by simp)).trans (new_blk _ _)
  have hke : W.heap[w.heap.size + 1]? = some (.cells #[.int .i64 0, .slice none 0 0] 43 (0, 0)) := by
    have := new_blk (w.alloc (.cells (mcells (bs m.name) (.slice ia m.imports.length ic) (.slice ga m.vars.length gc) (.slice pa m.procs.length pc) (.slice ba m.body.length bc)) 32)) (.cells #[.int .i64 0, .slice none 0 0] 43)
    rw [hW]
    simpa using this
  have hww := (hbW.block wb hwl).trans hw
  have k1 : W.cell? ⟨wb, 1, none⟩ = some (.map none) := (cell_blk hww).trans rfl
  have km : W.cell? ⟨w.heap.size, 0, none⟩ = some (.string (bs m.name)) := (cell_blk hkm).trans rfl
  have hlk : ∀ n, (Instr.lookup 38 (.map none) (.string (bs m.name)) false).run Tryz.prog (W.drewN n) = .ok (.pointer none) (W.drewN n) := fun n => nilmap_look (W.drewN n) (t := 38) Tryz.underlying38 (zeroLo _) m.name hnl false
  have HMB := Lib.hid hmb
  have HSM := Lib.hid hm.sml
  have HBW := Lib.hid hbW
  have HKM := Lib.hid hkm
  have HKE := Lib.hid hke
  have HWW := Lib.hid hww
  have HA := Lib.hid ha
  have HM := Lib.hid hm
  have HMB0 := Lib.hid hmb0
  have HY := Lib.hid hY
  have HSW := Lib.hid hsW
  have hwlW : wb < W.heap.size := by omega
  have hmlW : w.heap.size < W.heap.size := by omega
  unfold mcells at *
  obtain ⟨mn, hmn⟩ : ∃ mn, mn = bs m.name := ⟨_, rfl⟩
  have HCK : Hid (∀ W' sb, Below w.heap.size w W' → MapV W' sb 0 (fun _ => none) → Calls Tryz.prog 39 #[.agg #[.string mn, .slice ia m.imports.length ic, .slice ga m.vars.length gc, .slice pa m.procs.length pc, .slice ba m.body.length bc], .map (some sb)] W' (CheckP W' (Tp.check m (fun _ => none)))) := fun W' sb hW' hmap => by
    have := check_post HSM.out (HMB.out.up hW') (seen0 hmap)
    unfold mcells at this
    rw [hmn]
    exact this
  rw [← hmn] at hW km hlk HKM ⊢
  have HMN : Hid (mn = bs m.name) := hmn
  have HIL : Hid (∃ q : Nat × Nat × Nat × Nat, q = (m.imports.length, m.vars.length, m.procs.length, m.body.length)) := ⟨_, rfl⟩
  clear hw hmb hm hmb0 hY ha hww hkm hke hbW hsW hmn HIL
  obtain ⟨il, hil⟩ : ∃ il, il = m.imports.length := ⟨_, rfl⟩
  obtain ⟨gl, hgl⟩ : ∃ gl, gl = m.vars.length := ⟨_, rfl⟩
  obtain ⟨pl, hpl⟩ : ∃ pl, pl = m.procs.length := ⟨_, rfl⟩
  obtain ⟨bl, hbl⟩ : ∃ bl, bl = m.body.length := ⟨_, rfl⟩
  rw [← hil, ← hgl, ← hpl, ← hbl] at hW HKM HCK ⊢
  have HQ := Lib.hid (And.intro hil (And.intro hgl (And.intro hpl hbl)))
  clear hil hgl hpl hbl
  have HHCK := Lib.hid hck
  clear hck
  go_enter Tryz.func14, Tryz.ntmps14
  go_upto_region 1 with fail
  rw [← hW]
  clear hW
  go_quiet (fail)
  obtain ⟨w1, hw1⟩ : ∃ w1, w1 = W.drewN nq := ⟨_, rfl⟩
  have e1 : w1.heap = W.heap := by rw [hw1]; rfl
  have HB1 : Hid (Below W.heap.size W w1) := by rw [hw1]; exact below_drewN (Below.refl _ _) _
  rw [← hw1]
  clear hw1 hlk k1 km
  have hbd : Below W.heap.size W w1.drew := HB1.out.drew
  have hmd := (hbd.block _ hmlW).trans HKM.out
  have HS0 : Hid (w1.drew.cell? ⟨w.heap.size, 0, none⟩ = some (.string mn) ∧ w1.drew.cell? ⟨w.heap.size, 1, none⟩ = some (.slice ia il ic) ∧ w1.drew.cell? ⟨w.heap.size, 2, none⟩ = some (.slice ga gl gc) ∧ w1.drew.cell? ⟨w.heap.size, 3, none⟩ = some (.slice pa pl pc) ∧ w1.drew.cell? ⟨w.heap.size, 4, none⟩ = some (.slice ba bl bc)) := cell_box5 hmd
  have hs1d : w1.drew.heap.size = W.heap.size := by show w1.heap.size = _; rw [e1]
  have HSE : Hid (Calls Tryz.prog 40 #[.pointer (some ⟨wb, 0, none⟩)] w1.drew fun e w2 => e = .returned (.map (some W.heap.size)) ∧ (Below W.heap.size W w2 ∧ MapV w2 W.heap.size 0 (fun _ => none)) ∧ (w2.cell? ⟨w.heap.size, 0, none⟩ = some (.string mn) ∧ w2.cell? ⟨w.heap.size, 1, none⟩ = some (.slice ia il ic) ∧ w2.cell? ⟨w.heap.size, 2, none⟩ = some (.slice ga gl gc) ∧ w2.cell? ⟨w.heap.size, 3, none⟩ = some (.slice pa pl pc) ∧ w2.cell? ⟨w.heap.size, 4, none⟩ = some (.slice ba bl bc))) := by
    refine (seen_first ((hbd.block _ hwlW).trans HWW.out)).mono ?_
    rintro e w2 ⟨rfl, hw2⟩
    have hb2 : Below w1.drew.heap.size w1.drew w2 := by rw [hw2]; exact (Below.refl _ _).alloc (Nat.le_refl _) _
    have hB2 : Below W.heap.size W w2 := hbd.trans (hb2.mono (by rw [hs1d]; exact Nat.le_refl _))
    have hM2 : MapV w2 w1.drew.heap.size 0 (fun _ => none) := by rw [hw2]; exact MapV.made _
    rw [hs1d] at hM2 ⊢
    exact ⟨rfl, ⟨hB2, hM2⟩, cell_box5 ((hB2.block _ hmlW).trans HKM.out)⟩
  have HCK2 : Hid (∀ w2, Below W.heap.size W w2 ∧ MapV w2 W.heap.size 0 (fun _ => none) → Calls Tryz.prog 39 #[.agg #[.string mn, .slice ia il ic, .slice ga gl gc, .slice pa pl pc, .slice ba bl bc], .map (some W.heap.size)] w2 fun e w3 => e = .returned (.iface 46 (.int .i64 (en : Int))) ∧ (Below W.heap.size W w3) ∧ (w3.cell? ⟨w.heap.size, 0, none⟩ = some (.string mn) ∧ w3.cell? ⟨w.heap.size, 1, none⟩ = some (.slice ia il ic) ∧ w3.cell? ⟨w.heap.size, 2, none⟩ = some (.slice ga gl gc) ∧ w3.cell? ⟨w.heap.size, 3, none⟩ = some (.slice pa pl pc) ∧ w3.cell? ⟨w.heap.size, 4, none⟩ = some (.slice ba bl bc))) := fun w2 h2 => by
    have := HCK.out w2 W.heap.size (HBW.out.trans (h2.1.mono (by omega))) h2.2
    rw [HHCK.out] at this
    refine this.mono ?_
    rintro e w3 ⟨hb3, rfl⟩
    have hB3 : Below W.heap.size W w3 := h2.1.trans (hb3.mono h2.1.size)
    exact ⟨rfl, hB3, cell_box5 ((hB3.block _ hmlW).trans HKM.out)⟩
  clear hbd hmd HCK hs1d
  go_upto_region 3 with fail
  go_region_held3 (fun w' => w'.cell? ⟨w.heap.size, 0, none⟩ = some (.string mn) ∧ w'.cell? ⟨w.heap.size, 1, none⟩ = some (.slice ia il ic) ∧ w'.cell? ⟨w.heap.size, 2, none⟩ = some (.slice ga gl gc) ∧ w'.cell? ⟨w.heap.size, 3, none⟩ = some (.slice pa pl pc) ∧ w'.cell? ⟨w.heap.size, 4, none⟩ = some (.slice ba bl bc)) (with_reducible (first | exact HS3.out | exact HS2.out | exact HS0.out)) (first | (go_at_call 40; refine HSE.out.mono ?_; rintro e w2 ⟨rfl, hb2, hs2⟩; have HB2 := Lib.hid hb2; have HS2 := Lib.hid hs2; clear hb2 hs2) | (go_at_call 39; refine (HCK2.out _ HB2.out).mono ?_; rintro e w3 ⟨rfl, hb3, hs3⟩; have HB3 := Lib.hid hb3; have HS3 := Lib.hid hs3; clear hb3 hs3))
  have hE3 := (HB3.out.block _ (show w.heap.size + 1 < W.heap.size by have := HSW.out; omega)).trans HKE.out
  have e0 : w3.cell? ⟨w.heap.size + 1, 0, none⟩ = some (.int .i64 0) := (cell_blk hE3).trans rfl
  have e1' : w3.cell? ⟨w.heap.size + 1, 1, none⟩ = some (.slice none 0 0) := (cell_blk hE3).trans rfl
  have ez : ∀ j, w3.frozen? ⟨w.heap.size + 1, j, none⟩ = false := fun j => frozen_blk hE3
  have hel := lt_blk hE3
  have hset := set_blk 1 (.slice none 0 0) (set_blk 0 (.int .i64 0) hE3)
  obtain ⟨w4, hw4⟩ : ∃ w4, w4 = (w3.setCell ⟨w.heap.size + 1, 0, none⟩ (.int .i64 0)).setCell ⟨w.heap.size + 1, 1, none⟩ (.slice none 0 0) := ⟨_, rfl⟩
  have f0 : w4.cell? ⟨w.heap.size + 1, 0, none⟩ = some (.int .i64 0) := by rw [hw4]; exact (cell_blk hset).trans rfl
  have f1 : w4.cell? ⟨w.heap.size + 1, 1, none⟩ = some (.slice none 0 0) := by rw [hw4]; exact (cell_blk hset).trans rfl
  have HR : Hid (LoadP Y w wb a (.returned (.tuple #[no2, .iface 46 (.int .i64 (en : Int))])) w4) := by
    have hx : Ext (w.heap.size + 1) w3 w4 := by rw [hw4]; exact ((Ext.refl _ _).set 0 _).set 1 _
    have hb : Below w.heap.size w w4 := by
      rw [hw4]
      exact below_set (below_set (HBW.out.trans (HB3.out.mono (by have := HSW.out; omega))) (by omega) 0 _) (by omega) 1 _
    show LoadP _ _ _ _ _ _
    rw [HA.out, loadW_bad HHCK.out]
    refine ⟨hb, _, rfl, ?_⟩
    rfl
  clear hE3 hset HS0 HSE HCK2
  go_wp2_with fail
  rw [← hw4]
  exact bodyPost_ret (v := .tuple #[no2, .iface 46 (.int .i64 (en : Int))]) (by simp [results, Tryz.results14, go_sem, no2, f0, f1]) rfl HR.out
set_option maxRecDepth 100000 in
set_option maxHeartbeats 4000000 in
theorem load_bad1 {Y : Nat → Prop} {w : World} {wb fuel B0 : Nat} {m : Tp.M} {ia ga pa ba : Option Addr} {ic gc pc bc : Nat} (hw : w.heap[wb]? = some (.cells #[.slice none 0 0, .map none] 40 (0, 0))) (hmb0 : MB w B0 m ia ga pa ba ic gc pc bc) (_ : B0 ≤ wb) (hY : ∀ b, Y b → B0 ≤ b ∧ b < w.heap.size ∧ b ≠ wb) (hm : Tp.WM m) (_ : fuel ≤ 800000) {en pl2 : Nat} (hck : Tp.check m (fun _ => none) = some (en, some pl2)) :
    Calls Tryz.prog 14 #[.pointer (some ⟨wb, 0, none⟩), .agg (mcells (bs m.name) (.slice ia m.imports.length ic) (.slice ga m.vars.length gc) (.slice pa m.procs.length pc) (.slice ba m.body.length bc)), .int .i64 (fuel : Int)] w (LoadP Y w wb (Tp.loadW of0 [] m fuel)) := by
  have hmb : MB w w.heap.size m ia ga pa ba ic gc pc bc := (hmb0.md).mb (fun b hb hl => hl)
  obtain ⟨a, ha⟩ : ∃ a, a = Tp.loadW of0 [] m fuel := ⟨_, rfl⟩
  rw [← ha]
  have hnl := okn_1000 hm.n
  have hwl := lt_blk hw
  obtain ⟨W, hW⟩ : ∃ W, W = (w.alloc (.cells (mcells (bs m.name) (.slice ia m.imports.length ic) (.slice ga m.vars.length gc) (.slice pa m.procs.length pc) (.slice ba m.body.length bc)) 32)).alloc (.cells #[.int .i64 0, .slice none 0 0] 43) := ⟨_, rfl⟩
  have hbW : Below w.heap.size w W := by rw [hW]; exact ((Below.refl _ _).alloc (Nat.le_refl _) _).alloc (by simp) _
  have hsW : W.heap.size = w.heap.size + 2 := by rw [hW]; simp
  have hkm : W.heap[w.heap.size]? = some (.cells (mcells (bs m.name) (.slice ia m.imports.length ic) (.slice ga m.vars.length gc) (.slice pa m.procs.length pc) (.slice ba m.body.length bc)) 32 (0, 0)) := by rw [hW]; exact (Below.heap_alloc _ _ _ (by simp)).trans (new_blk _ _)
  have hke : W.heap[w.heap.size + 1]? = some (.cells #[.int .i64 0, .slice none 0 0] 43 (0, 0)) := by
    have := new_blk (w.alloc (.cells (mcells (bs m.name) (.slice ia m.imports.length ic) (.slice ga m.vars.length gc) (.slice pa m.procs.length pc) (.slice ba m.body.length bc)) 32)) (.cells #[.int .i64 0, .slice none 0 0] 43)
    rw [hW]
    simpa using this
  have hww := (hbW.block wb hwl).trans hw
  have k1 : W.cell? ⟨wb, 1, none⟩ = some (.map none) := (cell_blk hww).trans rfl
  have km : W.cell? ⟨w.heap.size, 0, none⟩ = some (.string (bs m.name)) := (cell_blk hkm).trans rfl
  have hlk : ∀ n, (Instr.lookup 38 (.map none) (.string (bs m.name)) false).run Tryz.prog (W.drewN n) = .ok (.pointer none) (W.drewN n) := fun n => nilmap_look (W.drewN n) (t := 38) Tryz.underlying38 (zeroLo _) m.name hnl false
  have HMB := Lib.hid hmb
  have HSM := Lib.hid hm.sml
  have HBW := Lib.hid hbW
  have HKM := Lib.hid hkm
  have HKE := Lib.hid hke
  have HWW := Lib.hid hww
  have HA := Lib.hid ha
  have HM := Lib.hid hm
  have HMB0 := Lib.hid hmb0
  have HY := Lib.hid hY
  have HSW := Lib.hid hsW
  have hwlW : wb < W.heap.size := by omega
  have hmlW : w.heap.size < W.heap.size := by omega
  unfold mcells at *
  obtain ⟨mn, hmn⟩ : ∃ mn, mn = bs m.name := ⟨_, rfl⟩
  have HCK : Hid (∀ W' sb, Below w.heap.size w W' → MapV W' sb 0 (fun _ => none) → Calls Tryz.prog 39 #[.agg #[.string mn, .slice ia m.imports.length ic, .slice ga m.vars.length gc, .slice pa m.procs.length pc, .slice ba m.body.length bc], .map (some sb)] W' (CheckP W' (Tp.check m (fun _ => none)))) := fun W' sb hW' hmap => by
    have := check_post HSM.out (HMB.out.up hW') (seen0 hmap)
    unfold mcells at this
    rw [hmn]
    exact this
  rw [← hmn] at hW km hlk HKM ⊢
  have HMN : Hid (mn = bs m.name) := hmn
  have HIL : Hid (∃ q : Nat × Nat × Nat × Nat, q = (m.imports.length, m.vars.length, m.procs.length, m.body.length)) := ⟨_, rfl⟩
  clear hw hmb hm hmb0 hY ha hww hkm hke hbW hsW hmn HIL
  obtain ⟨il, hil⟩ : ∃ il, il = m.imports.length := ⟨_, rfl⟩
  obtain ⟨gl, hgl⟩ : ∃ gl, gl = m.vars.length := ⟨_, rfl⟩
  obtain ⟨pl, hpl⟩ : ∃ pl, pl = m.procs.length := ⟨_, rfl⟩
  obtain ⟨bl, hbl⟩ : ∃ bl, bl = m.body.length := ⟨_, rfl⟩
  rw [← hil, ← hgl, ← hpl, ← hbl] at hW HKM HCK ⊢
  have HQ := Lib.hid (And.intro hil (And.intro hgl (And.intro hpl hbl)))
  clear hil hgl hpl hbl
  have HHCK := Lib.hid hck
  clear hck
  go_enter Tryz.func14, Tryz.ntmps14
  go_upto_region 1 with fail
  rw [← hW]
  clear hW
  go_quiet (fail)
  obtain ⟨w1, hw1⟩ : ∃ w1, w1 = W.drewN nq := ⟨_, rfl⟩
  have e1 : w1.heap = W.heap := by rw [hw1]; rfl
  have HB1 : Hid (Below W.heap.size W w1) := by rw [hw1]; exact below_drewN (Below.refl _ _) _
  rw [← hw1]
  clear hw1 hlk k1 km
  have hbd : Below W.heap.size W w1.drew := HB1.out.drew
  have hmd := (hbd.block _ hmlW).trans HKM.out
  have HS0 : Hid (w1.drew.cell? ⟨w.heap.size, 0, none⟩ = some (.string mn) ∧ w1.drew.cell? ⟨w.heap.size, 1, none⟩ = some (.slice ia il ic) ∧ w1.drew.cell? ⟨w.heap.size, 2, none⟩ = some (.slice ga gl gc) ∧ w1.drew.cell? ⟨w.heap.size, 3, none⟩ = some (.slice pa pl pc) ∧ w1.drew.cell? ⟨w.heap.size, 4, none⟩ = some (.slice ba bl bc)) := cell_box5 hmd
  have hs1d : w1.drew.heap.size = W.heap.size := by show w1.heap.size = _; rw [e1]
  have HSE : Hid (Calls Tryz.prog 40 #[.pointer (some ⟨wb, 0, none⟩)] w1.drew fun e w2 => e = .returned (.map (some W.heap.size)) ∧ (Below W.heap.size W w2 ∧ MapV w2 W.heap.size 0 (fun _ => none)) ∧ (w2.cell? ⟨w.heap.size, 0, none⟩ = some (.string mn) ∧ w2.cell? ⟨w.heap.size, 1, none⟩ = some (.slice ia il ic) ∧ w2.cell? ⟨w.heap.size, 2, none⟩ = some (.slice ga gl gc) ∧ w2.cell? ⟨w.heap.size, 3, none⟩ = some (.slice pa pl pc) ∧ w2.cell? ⟨w.heap.size, 4, none⟩ = some (.slice ba bl bc))) := by
    refine (seen_first ((hbd.block _ hwlW).trans HWW.out)).mono ?_
    rintro e w2 ⟨rfl, hw2⟩
    have hb2 : Below w1.drew.heap.size w1.drew w2 := by rw [hw2]; exact (Below.refl _ _).alloc (Nat.le_refl _) _
    have hB2 : Below W.heap.size W w2 := hbd.trans (hb2.mono (by rw [hs1d]; exact Nat.le_refl _))
    have hM2 : MapV w2 w1.drew.heap.size 0 (fun _ => none) := by rw [hw2]; exact MapV.made _
    rw [hs1d] at hM2 ⊢
    exact ⟨rfl, ⟨hB2, hM2⟩, cell_box5 ((hB2.block _ hmlW).trans HKM.out)⟩
  have HCK2 : Hid (∀ w2, Below W.heap.size W w2 ∧ MapV w2 W.heap.size 0 (fun _ => none) → Calls Tryz.prog 39 #[.agg #[.string mn, .slice ia il ic, .slice ga gl gc, .slice pa pl pc, .slice ba bl bc], .map (some W.heap.size)] w2 fun e w3 => ∃ ab, e = .returned (.iface 124 (.pointer (some ⟨ab, 0, none⟩))) ∧ ((W.heap.size ≤ ab ∧ w3.cell? ⟨ab, 0, none⟩ = some (.int .i64 (en : Int)) ∧ w3.cell? ⟨ab, 1, none⟩ = some (.int .i64 (pl2 : Int))) ∧ Below W.heap.size W w3) ∧ (w3.cell? ⟨w.heap.size, 0, none⟩ = some (.string mn) ∧ w3.cell? ⟨w.heap.size, 1, none⟩ = some (.slice ia il ic) ∧ w3.cell? ⟨w.heap.size, 2, none⟩ = some (.slice ga gl gc) ∧ w3.cell? ⟨w.heap.size, 3, none⟩ = some (.slice pa pl pc) ∧ w3.cell? ⟨w.heap.size, 4, none⟩ = some (.slice ba bl bc))) := fun w2 h2 => by
    have := HCK.out w2 W.heap.size (HBW.out.trans (h2.1.mono (by omega))) h2.2
    rw [HHCK.out] at this
    refine this.mono ?_
    rintro e w3 ⟨hb3, ab, rfl, hab, ha0, ha1⟩
    have hB3 : Below W.heap.size W w3 := h2.1.trans (hb3.mono h2.1.size)
    exact ⟨ab, rfl, ⟨⟨by have := h2.1.size; omega, ha0, ha1⟩, hB3⟩, cell_box5 ((hB3.block _ hmlW).trans HKM.out)⟩
  clear hbd hmd HCK hs1d
  go_upto_region 3 with fail
  go_region_held3 (fun w' => w'.cell? ⟨w.heap.size, 0, none⟩ = some (.string mn) ∧ w'.cell? ⟨w.heap.size, 1, none⟩ = some (.slice ia il ic) ∧ w'.cell? ⟨w.heap.size, 2, none⟩ = some (.slice ga gl gc) ∧ w'.cell? ⟨w.heap.size, 3, none⟩ = some (.slice pa pl pc) ∧ w'.cell? ⟨w.heap.size, 4, none⟩ = some (.slice ba bl bc)) (with_reducible (first | exact HS3.out | exact HS2.out | exact HS0.out)) (first | (go_at_call 40; refine HSE.out.mono ?_; rintro e w2 ⟨rfl, hb2, hs2⟩; have HB2 := Lib.hid hb2; have HS2 := Lib.hid hs2; clear hb2 hs2) | (go_at_call 39; refine (HCK2.out _ HB2.out).mono ?_; rintro e w3 ⟨ab, rfl, hb3, hs3⟩; have HB3 := Lib.hid hb3; have HS3 := Lib.hid hs3; clear hb3 hs3))
  have hE3 := (HB3.out.2.block _ (show w.heap.size + 1 < W.heap.size by have := HSW.out; omega)).trans HKE.out
  have e0 : w3.cell? ⟨w.heap.size + 1, 0, none⟩ = some (.int .i64 0) := (cell_blk hE3).trans rfl
  have e1' : w3.cell? ⟨w.heap.size + 1, 1, none⟩ = some (.slice none 0 0) := (cell_blk hE3).trans rfl
  have ez : ∀ j, w3.frozen? ⟨w.heap.size + 1, j, none⟩ = false := fun j => frozen_blk hE3
  have hel := lt_blk hE3
  have hset := set_blk 1 (.slice none 0 0) (set_blk 0 (.int .i64 0) hE3)
  obtain ⟨w4, hw4⟩ : ∃ w4, w4 = (w3.setCell ⟨w.heap.size + 1, 0, none⟩ (.int .i64 0)).setCell ⟨w.heap.size + 1, 1, none⟩ (.slice none 0 0) := ⟨_, rfl⟩
  have f0 : w4.cell? ⟨w.heap.size + 1, 0, none⟩ = some (.int .i64 0) := by rw [hw4]; exact (cell_blk hset).trans rfl
  have f1 : w4.cell? ⟨w.heap.size + 1, 1, none⟩ = some (.slice none 0 0) := by rw [hw4]; exact (cell_blk hset).trans rfl
  have HR : Hid (LoadP Y w wb a (.returned (.tuple #[no2, .iface 124 (.pointer (some ⟨ab, 0, none⟩))])) w4) := by
    have hx : Ext (w.heap.size + 1) w3 w4 := by rw [hw4]; exact ((Ext.refl _ _).set 0 _).set 1 _
    have hb : Below w.heap.size w w4 := by
      rw [hw4]
      exact below_set (below_set (HBW.out.trans (HB3.out.2.mono (by have := HSW.out; omega))) (by omega) 0 _) (by omega) 1 _
    show LoadP _ _ _ _ _ _
    rw [HA.out, loadW_bad HHCK.out]
    refine ⟨hb, _, rfl, ?_⟩
    exact ⟨ab, rfl, by have := HB3.out.1.1; have := HSW.out; omega, (World.cell?_of_block (w := w3) (hx.block ab (lt_of_cell HB3.out.1.2.1) (by have := HB3.out.1.1; have := HSW.out; omega))).trans HB3.out.1.2.1, (World.cell?_of_block (w := w3) (hx.block ab (lt_of_cell HB3.out.1.2.1) (by have := HB3.out.1.1; have := HSW.out; omega))).trans HB3.out.1.2.2⟩
  clear hE3 hset HS0 HSE HCK2
  go_wp2_with fail
  rw [← hw4]
  exact bodyPost_ret (v := .tuple #[no2, .iface 124 (.pointer (some ⟨ab, 0, none⟩))]) (by simp [results, Tryz.results14, go_sem, no2, f0, f1]) rfl HR.out
theorem load_first {Y : Nat → Prop} {w : World} {wb fuel B0 : Nat} {m : Tp.M} {ia ga pa ba : Option Addr} {ic gc pc bc : Nat} (hw : w.heap[wb]? = some (.cells #[.slice none 0 0, .map none] 40 (0, 0))) (hmb0 : MB w B0 m ia ga pa ba ic gc pc bc) (hB0 : B0 ≤ wb) (hY : ∀ b, Y b → B0 ≤ b ∧ b < w.heap.size ∧ b ≠ wb) (hm : Tp.WM m) (hf : fuel ≤ 800000) :
    Calls Tryz.prog 14 #[.pointer (some ⟨wb, 0, none⟩), .agg (mcells (bs m.name) (.slice ia m.imports.length ic) (.slice ga m.vars.length gc) (.slice pa m.procs.length pc) (.slice ba m.body.length bc)), .int .i64 (fuel : Int)] w (LoadP Y w wb (Tp.loadW of0 [] m fuel)) := by
  cases hck : Tp.check m (fun _ => none) with
  | none => exact load_ok hw hmb0 hB0 hY hm hf hck
  | some er =>
    obtain ⟨en, po⟩ := er
    cases po with
    | none => exact load_bad0 hw hmb0 hB0 hY hm hf hck
    | some pl => exact load_bad1 hw hmb0 hB0 hY hm hf hck
end Go.Proofs.YtfpeboeknjlkbaaGreatDoor
/- Two lists of numbers: whether they are the same. -/
namespace Go.Proofs.YtfpeboeknjlkbaaGreatDoor
open Go.RowKit Go.Maps
open Tp (Bs X S G Pr Pt Rs Rr Own)

set_option maxRecDepth 100000 in
set_option maxHeartbeats 1000000 in
theorem ieq_post {w : World} {xs ys : List Int} {a1 a2 : Option Addr} {c1 c2 : Nat} (h1 : IntsAt w xs a1) (h2 : IntsAt w ys a2) (hn : xs.length ≤ 1000) :
    Calls Tryz.prog 18 #[.slice a1 xs.length c1, .slice a2 ys.length c2] w fun e w' => e = .returned (.bool (decide (xs = ys))) ∧ Below w.heap.size w w' := by
  by_cases hl : xs.length = ys.length
  · rw [← hl]
    have H1 := Lib.hid h1
    have H2 := Lib.hid h2
    obtain ⟨ln, hln⟩ : ∃ ln, ln = xs.length := ⟨_, rfl⟩
    have hn' : (ln : Int) ≤ 1000 := by omega
    have HL := Lib.hid (And.intro hln hl)
    obtain ⟨bb, hbb⟩ : ∃ bb, bb = decide (xs = ys) := ⟨_, rfl⟩
    have HBB := Lib.hid hbb
    rw [← hbb, ← hln]
    clear h1 h2 hl hln hbb hn
    go_enter Tryz.func18, Tryz.ntmps18
    go_wp2_with fail
    go_loopg [13] ln (fun k vi wr => ∃ i : Nat, i ≤ ln ∧ k = ln - i ∧ vi = .int .i64 (i : Int) ∧ Hid (∀ k, k < i → xs[k]? = ys[k]?) ∧ Hid (Below w.heap.size w wr))
    case atStart => exact ⟨0, by omega, by omega, rfl, fun k hk => by omega, Below.refl _ _⟩
    case round =>
      obtain ⟨i, hid, hk, rfl, HI, HB⟩ := hrel
      have hszr := HB.out.size
      by_cases hlt : i < ln
      · have hlt' : (i : Int) < (ln : Int) := by omega
        have hi0 : ¬ (i : Int) < 0 := by omega
        have hx : i < xs.length := by have := HL.out.1; omega
        have hy : i < ys.length := by have := HL.out.1; have := HL.out.2; omega
        obtain ⟨b1, o1, rfl, q1, d1⟩ := (H1.out.on HB.out).c i hx
        obtain ⟨b2, o2, rfl, q2, d2⟩ := (H2.out.on HB.out).c i hy
        have HNX : Hid (xs[i] = ys[i] → ∀ k, k < i + 1 → xs[k]? = ys[k]?) := by
          intro e k hk
          by_cases e2 : k = i
          · subst e2; rw [List.getElem?_eq_getElem hx, List.getElem?_eq_getElem hy, e]
          · exact HI.out k (by omega)
        have HNO : Hid (xs[i] ≠ ys[i] → bb = false) := by
          intro e
          rw [HBB.out]
          refine decide_eq_false fun q => e ?_
          subst q
          rfl
        generalize xs[i] = x at *
        generalize ys[i] = y at *
        go_upto_region 6 with fail
        go_quiet (fail)
        obtain ⟨w1, hw1⟩ : ∃ w1, w1 = wr.drewN nq := ⟨_, rfl⟩
        have HB1 : Hid (Below w.heap.size w w1) := by rw [hw1]; exact below_drewN HB.out _
        rw [← hw1]
        clear hw1 d1 d2
        by_cases hxy : x = y
        · subst hxy
          have HI3 := Lib.hid (HNX.out rfl)
          go_wp2_with fail
          go_roundg (ln - (i + 1))
          case measure => omega
          case rel => exact ⟨i + 1, by omega, rfl, by go_num, HI3, HB1⟩
        · have HR := Lib.hid (HNO.out hxy)
          go_wp2_with fail
          go_ret
          exact ⟨by rw [HR.out]; rfl, HB1.out⟩
      · have hlt' : ¬ (i : Int) < (ln : Int) := by omega
        have HR : Hid (bb = true) := by
          show bb = true
          rw [HBB.out]
          refine decide_eq_true (List.ext_getElem? fun k => ?_)
          by_cases hk2 : k < i
          · exact HI.out k hk2
          · have e1 := HL.out.1
            have e2 := HL.out.2
            rw [List.getElem?_eq_none (by omega), List.getElem?_eq_none (by omega)]
        go_wp2_with fail
        go_ret
        exact ⟨by rw [HR.out]; rfl, HB.out⟩
  · have hne : ¬ (xs.length : Int) = (ys.length : Int) := by omega
    have hd : decide (xs = ys) = false := decide_eq_false fun q => hl (by rw [q])
    rw [hd]
    clear hd hl h1 h2 hn
    generalize xs.length = m at *
    generalize ys.length = n at *
    go_enter Tryz.func18, Tryz.ntmps18
    go_wp2_with fail
    go_ret
    exact ⟨rfl, Below.refl _ _⟩
end Go.Proofs.YtfpeboeknjlkbaaGreatDoor
/- slices.Clone at numbers, at texts. -/
namespace Go.Proofs.YtfpeboeknjlkbaaGreatDoor
open Go.RowKit

theorem Tryz.eqNilI (w : World) : (binOp .eql 41 (.slice none 0 0) (.slice none 0 0)).run Tryz.prog w = .ok (.bool true) w := by kernel_rfl
theorem Tryz.eqSomeI (w : World) (a : Addr) (n c : Nat) : (binOp .eql 41 (.slice (some a) n c) (.slice none 0 0)).run Tryz.prog w = .ok (.bool false) w := by kernel_rfl
set_option maxRecDepth 100000 in
theorem cloneI {w : World} {D : Nat → Prop} {v : Value} {n : Nat} {cs : List Value} (h : Row w D 2 1 v n cs) (hl : cs.length = n * 1) (h1 : ∀ u ∈ cs, u.oneCell' = true) (hn : n ≤ 1000) :
    Calls Tryz.prog 60 #[v] w fun e w' => ∃ v', e = .returned v' ∧ Below w.heap.size w w' ∧ w'.ownsRow w.heap.size 2 1 v' n cs := by
  have hq0 := Tryz.eqNilI
  have hq1 := Tryz.eqSomeI
  obtain ⟨i0, hi, hz0, hz1, hz2⟩ := info_parts Tryz.infoInt64
  rcases h with ⟨rfl, rfl, rfl⟩ | ⟨g, cap, cur, rfl, hD, hb, hcap, hmx, hsz, htk⟩
  · go_enter Tryz.func60, Tryz.ntmps60
    go_wp2_with fail
    go_ret
    exact ⟨_, rfl, Below.refl _ _, World.ownsRow_nil _ _ _ _⟩
  · have hal : Below w.heap.size w (w.alloc (.cells #[] 2)) := (Below.refl _ _).alloc (Nat.le_refl _) _
    have hown : (w.alloc (.cells #[] 2)).ownsRow w.heap.size 2 1 (.slice (some ⟨w.heap.size, 0, none⟩) 0 0) 0 [] :=
      ⟨rfl, Or.inr ⟨w.heap.size, 0, #[], rfl, Nat.le_refl _, new_blk _ _, Nat.le_refl _, by unfold maxLen; omega, rfl, rfl⟩⟩
    have hb' : (w.alloc (.cells #[] 2)).heap[g]? = some (.cells cur 2 (0, 0)) := (Below.heap_alloc _ _ _ (lt_blk hb)).trans hb
    have hnews : ∀ j u, cs[j]? = some u → (w.alloc (.cells #[] 2)).cell? ((⟨g, 0, none⟩ : Addr).add j) = some u := by
      intro j u hj
      have hjl : j < n * 1 := by rw [← hl]; exact (List.getElem?_eq_some_iff.1 hj).1
      rw [Addr.add_lit, cell_blk hb', Nat.zero_add, ← Array.getElem?_toList, ← hj, ← htk, List.getElem?_take_of_lt hjl]
    have HO := Lib.hid hown
    have HAL := Lib.hid hal
    have HNW := Lib.hid hnews
    have HL := Lib.hid hl
    have H1 := Lib.hid h1
    clear hown hal hb' hb hnews hl h1 hsz htk
    go_enter Tryz.func60, Tryz.ntmps60
    go_wp2_with (at_builtin; refine wpList_append_where _ rfl _ _ 41 rfl w.heap.size 2 i0 (.int .i64 0) 1 8 Tryz.underlying41 hi hz0 hz1 hz2 rfl (by decide) _ 0 [] rfl HO.out ⟨g, 0, none⟩ n cap cs rfl HL.out HNW.out H1.out (by unfold maxLen; omega) (by omega) (by simp) ?_)
    intro v3 w3 h3 g3 _
    have HB3 : Hid (Below w.heap.size w w3) := HAL.out.trans ((Below.refl w.heap.size _).grown g3 (by simp) (fun k hk => (HO.out.lt k hk).1))
    have HO3 : Hid (w3.ownsRow w.heap.size 2 1 v3 n cs) := by unfold Hid; simpa using h3
    clear h3 g3
    go_wp2_with fail
    go_ret
    exact ⟨_, rfl, HB3.out, HO3.out⟩
theorem Tryz.eqNilT (w : World) : (binOp .eql 27 (.slice none 0 0) (.slice none 0 0)).run Tryz.prog w = .ok (.bool true) w := by kernel_rfl
theorem Tryz.eqSomeT (w : World) (a : Addr) (n c : Nat) : (binOp .eql 27 (.slice (some a) n c) (.slice none 0 0)).run Tryz.prog w = .ok (.bool false) w := by kernel_rfl
set_option maxRecDepth 100000 in
theorem cloneT {w : World} {D : Nat → Prop} {v : Value} {n : Nat} {cs : List Value} (h : Row w D 9 1 v n cs) (hl : cs.length = n * 1) (h1 : ∀ u ∈ cs, u.oneCell' = true) (hn : n ≤ 1000) :
    Calls Tryz.prog 94 #[v] w fun e w' => ∃ v', e = .returned v' ∧ Below w.heap.size w w' ∧ w'.ownsRow w.heap.size 9 1 v' n cs := by
  have hq0 := Tryz.eqNilT
  have hq1 := Tryz.eqSomeT
  obtain ⟨i0, hi, hz0, hz1, hz2⟩ := info_parts Tryz.infoString
  rcases h with ⟨rfl, rfl, rfl⟩ | ⟨g, cap, cur, rfl, hD, hb, hcap, hmx, hsz, htk⟩
  · go_enter Tryz.func94, Tryz.ntmps94
    go_wp2_with fail
    go_ret
    exact ⟨_, rfl, Below.refl _ _, World.ownsRow_nil _ _ _ _⟩
  · have hal : Below w.heap.size w (w.alloc (.cells #[] 9)) := (Below.refl _ _).alloc (Nat.le_refl _) _
    have hown : (w.alloc (.cells #[] 9)).ownsRow w.heap.size 9 1 (.slice (some ⟨w.heap.size, 0, none⟩) 0 0) 0 [] :=
      ⟨rfl, Or.inr ⟨w.heap.size, 0, #[], rfl, Nat.le_refl _, new_blk _ _, Nat.le_refl _, by unfold maxLen; omega, rfl, rfl⟩⟩
    have hb' : (w.alloc (.cells #[] 9)).heap[g]? = some (.cells cur 9 (0, 0)) := (Below.heap_alloc _ _ _ (lt_blk hb)).trans hb
    have hnews : ∀ j u, cs[j]? = some u → (w.alloc (.cells #[] 9)).cell? ((⟨g, 0, none⟩ : Addr).add j) = some u := by
      intro j u hj
      have hjl : j < n * 1 := by rw [← hl]; exact (List.getElem?_eq_some_iff.1 hj).1
      rw [Addr.add_lit, cell_blk hb', Nat.zero_add, ← Array.getElem?_toList, ← hj, ← htk, List.getElem?_take_of_lt hjl]
    have HO := Lib.hid hown
    have HAL := Lib.hid hal
    have HNW := Lib.hid hnews
    have HL := Lib.hid hl
    have H1 := Lib.hid h1
    clear hown hal hb' hb hnews hl h1 hsz htk
    go_enter Tryz.func94, Tryz.ntmps94
    go_wp2_with (at_builtin; refine wpList_append_where _ rfl _ _ 27 rfl w.heap.size 9 i0 (.string ⟨#[]⟩) 1 16 Tryz.underlying27 hi hz0 hz1 hz2 rfl (by decide) _ 0 [] rfl HO.out ⟨g, 0, none⟩ n cap cs rfl HL.out HNW.out H1.out (by unfold maxLen; omega) (by omega) (by simp) ?_)
    intro v3 w3 h3 g3 _
    have HB3 : Hid (Below w.heap.size w w3) := HAL.out.trans ((Below.refl w.heap.size _).grown g3 (by simp) (fun k hk => (HO.out.lt k hk).1))
    have HO3 : Hid (w3.ownsRow w.heap.size 9 1 v3 n cs) := by unfold Hid; simpa using h3
    clear h3 g3
    go_wp2_with fail
    go_ret
    exact ⟨_, rfl, HB3.out, HO3.out⟩
end Go.Proofs.YtfpeboeknjlkbaaGreatDoor
/- Chapter 4: which modules there are; what a variable has: Names, Get. -/
namespace Go.Proofs.YtfpeboeknjlkbaaGreatDoor
open Go.RowKit Go.Maps
open Tp (Bs X S G Pr Pt Rs Rr Own)

set_option maxRecDepth 100000 in
theorem names_any {w : World} {wb : Nat} {nv mv : Value} {ns : List Bs} (hb : w.heap[wb]? = some (.cells #[nv, mv] 40 (0, 0))) (hn : w.ownsRow 0 9 1 nv ns.length (strs ns)) (hl : ns.length ≤ 1000) :
    Calls Tryz.prog 47 #[.pointer (some ⟨wb, 0, none⟩)] w fun e w' => ∃ v', e = .returned v' ∧ Below w.heap.size w w' ∧ w'.ownsRow w.heap.size 9 1 v' ns.length (strs ns) := by
  have hr : Row w (fun _ => True) 9 1 nv ns.length (strs ns) := by
    rcases hn.2 with ⟨h1, h2⟩ | ⟨g, cap, cur, h1, _, h3, h4, h5, h6, h7⟩
    · have : ns = [] := List.length_eq_zero_iff.1 h2
      subst this
      exact Or.inl ⟨h1, rfl, rfl⟩
    · exact Or.inr ⟨g, cap, cur, h1, trivial, h3, h4, h5, h6, h7⟩
  have HC := Lib.hid (cloneT hr (by simp [strs]) (fun u hu => by simp [strs] at hu; obtain ⟨b, _, rfl⟩ := hu; rfl) hl)
  obtain ⟨ao, cap, rfl⟩ := owns_shape hn
  have k0 : w.cell? ⟨wb, 0, none⟩ = some (.slice ao ns.length cap) := (cell_blk hb).trans rfl
  have hwl := lt_blk hb
  obtain ⟨n, hnn⟩ : ∃ n, n = ns.length := ⟨_, rfl⟩
  rw [← hnn] at HC k0 ⊢
  clear hb hn hl hr hnn
  go_enter Tryz.func47, Tryz.ntmps47
  go_wp2_with fail
  refine HC.out.mono ?_
  rintro e w1 ⟨v', rfl, hb1, ho1⟩
  have HB1 := Lib.hid hb1
  have HO1 := Lib.hid ho1
  clear hb1 ho1
  go_wp2_with fail
  go_ret
  exact ⟨_, rfl, HB1.out, HO1.out⟩
def GetP (w : World) (r : Option (List Int)) (e : Ending) (w' : World) : Prop := Below w.heap.size w w' ∧ match r with
  | some xs => ∃ oa oc, e = .returned (.tuple #[.slice oa xs.length oc, .nilIface]) ∧ IntsAt w' xs oa
  | none => e = .returned (.tuple #[.slice none 0 0, .iface 46 (.int .i64 7)])
theorem WW.lookT {X : Nat → Prop} {w : World} {wb : Nat} {L : List Lo} {P : List Pt} {nv : Value} {tb : Nat} (h : WW X w wb L P nv tb) {lo : Lo} (hlo : lo ∈ L) (hmn : lo.m.name.length ≤ 1000000) : (Instr.lookup 38 (.map (some tb)) (.string (bs lo.m.name)) false).run Tryz.prog w = .ok (.pointer (some ⟨lo.lb, 0, none⟩)) w := by
  obtain ⟨n, _, hm⟩ := h.th
  rw [hm.look (t := 38) Tryz.underlying38 (zeroLo _) lo.m.name hmn false]
  have : thrL L lo.m.name = some (.pointer (some ⟨lo.lb, 0, none⟩)) := by
    unfold thrL
    rw [(Tp.find_key (key := fun lo : Lo => lo.m.name) h.nd lo).2 ⟨hlo, rfl⟩]
    rfl
  simp [this]
set_option maxRecDepth 100000 in
set_option maxHeartbeats 1000000 in
theorem get_in {X : Nat → Prop} {w : World} {wb : Nat} {L : List Lo} {P : List Pt} {nv : Value} {tb : Nat} (h : WW X w wb L P nv tb) {lo : Lo} (hlo : lo ∈ L) (nm : Bs) (hnl : nm.length ≤ 1000000) :
    Calls Tryz.prog 30 #[.pointer (some ⟨wb, 0, none⟩), .string (bs lo.m.name), .string (bs nm)] w (GetP w (Tp.getW P lo.m.name nm)) := by
  have hq0 := Tryz.eqNilI
  have hq1 := Tryz.eqSomeI
  obtain ⟨⟨ia, ga, pa, ba, ic, gc, pc, bc, m1, m2⟩, _, _, ⟨n, hvm⟩, hfit⟩ := h.lo lo hlo
  have hmn : lo.m.name.length ≤ 1000000 := by have := okn_1000 hfit.wm.n; omega
  have hlk := h.lookT hlo hmn
  have k1 : w.cell? ⟨wb, 1, none⟩ = some (.map (some tb)) := (cell_blk h.blk).trans rfl
  have hwl := lt_blk h.blk
  have k5 : w.cell? ⟨lo.lb, 5, none⟩ = some (.map (some lo.vb)) := (cell_blk m1).trans rfl
  have hll := lt_blk m1
  have hlv := hvm.look (t := 114) Tryz.underlying114 (zeroI64s _) nm hnl false
  obtain ⟨p, p1, p2, p3⟩ := h.vals lo hlo
  cases hv : Tp.varOf lo.m nm with
  | none =>
    have hg : Tp.getW P lo.m.name nm = none := by
      unfold Tp.getW
      rw [p1, Option.bind_some, p2, if_neg]
      intro q
      obtain ⟨g, g1, g2⟩ := List.any_eq_true.1 q
      exact absurd g2 (by simpa using List.find?_eq_none.1 hv g g1)
    have hlv' : (Instr.lookup 114 (.map (some lo.vb)) (.string (bs nm)) false).run Tryz.prog w = .ok (.slice none 0 0) w := by rw [hlv]; simp [loV, hv]
    rw [hg]
    clear h hlo m1 m2 hvm hfit hlv p1 p2 p3 hv hg
    generalize bs nm = x at *
    generalize bs lo.m.name = y at *
    go_enter Tryz.func30, Tryz.ntmps30
    go_wp2_with fail
    go_ret2
    exact ⟨Below.refl _ _, rfl⟩
  | some g =>
    have hgm : g ∈ lo.m.vars := List.mem_of_find?_eq_some hv
    have hgn : g.name = nm := by simpa using List.find?_some hv
    have hg : Tp.getW P lo.m.name nm = some (p.vars nm) := by
      unfold Tp.getW
      rw [p1, Option.bind_some, p2, if_pos]
      exact List.any_eq_true.2 ⟨g, hgm, by simpa using hgn⟩
    obtain ⟨v1, v2, v3⟩ := p3 g hgm
    rw [hgn] at v1 v2 v3
    have hlv' : (Instr.lookup 114 (.map (some lo.vb)) (.string (bs nm)) false).run Tryz.prog w = .ok (.slice (some ⟨lo.sl nm, 0, none⟩) (vlen g) (vlen g)) w := by rw [hlv]; simp [loV, hv]
    have hvl : vlen g ≤ 1000 := by have := (hfit.wm.g g hgm).l; unfold vlen; split <;> omega
    have hr : Row w (fun _ => True) 2 1 (.slice (some ⟨lo.sl nm, 0, none⟩) (vlen g) (vlen g)) (vlen g) (ints (p.vars nm)) := Or.inr ⟨lo.sl nm, vlen g, _, rfl, trivial, v2, Nat.le_refl _, by unfold maxLen; omega, by simp [ints, v1], List.take_of_length_le (by simp [ints, v1])⟩
    have HC := Lib.hid (cloneI hr (by simp [ints, v1]) (fun u hu => by simp [ints] at hu; obtain ⟨b, _, rfl⟩ := hu; rfl) hvl)
    have HIN : Hid (∀ w' v', w'.ownsRow w.heap.size 2 1 v' (vlen g) (ints (p.vars nm)) → ∃ oa oc, v' = .slice oa (p.vars nm).length oc ∧ IntsAt w' (p.vars nm) oa) := fun w' v' ho => by
      rw [← v1] at ho
      obtain ⟨oa, oc, e1, e2, _⟩ := ints_at ho
      exact ⟨oa, oc, e1, e2⟩
    rw [hg]
    obtain ⟨vn, hvn⟩ : ∃ vn, vn = vlen g := ⟨_, rfl⟩
    rw [← hvn] at hlv' HC HIN
    clear h hlo m1 m2 hvm hfit hlv p1 p2 p3 hv hg v1 v2 v3 hgm hgn hr hvn hvl
    generalize bs nm = x at *
    generalize bs lo.m.name = y at *
    go_enter Tryz.func30, Tryz.ntmps30
    go_wp2_with fail
    refine HC.out.mono ?_
    rintro e w1 ⟨v', rfl, hb1, ho1⟩
    obtain ⟨oa, oc, rfl, hi1⟩ := HIN.out w1 v' ho1
    have HB1 := Lib.hid hb1
    have HI1 := Lib.hid hi1
    clear hb1 ho1 hi1
    go_wp2_with fail
    go_ret2
    exact ⟨HB1.out, oa, oc, rfl, HI1.out⟩
end Go.Proofs.YtfpeboeknjlkbaaGreatDoor
