import Derived.Test.YtfpeboeknjlkbaaGreatDoorKQj
import Derived.Test.YtfpeboeknjlkbaaGreatDoorKMe
import Derived.Test.YtfpeboeknjlkbaaGreatDoorKPe
import Derived.Test.YtfpeboeknjlkbaaGreatDoorKMf
import Derived.KernelRfl
import Derived.Deep.RegionLawGrows
/- Chapter 4: a module whose variables are all 0: fresh, walked. -/
namespace Go.Proofs.YtfpeboeknjlkbaaGreatDoor
open Go.RowKit Go.Maps
open Tp (Bs X S G Pr Pt Rs Rr Own)

theorem run_maxI (g : G) (w : World) : (Builtin.max_ #[3, 3] 3 #[.int .i64 (g.len : Int), .int .i64 1]).run Tryz.prog w = .ok (.int .i64 (vlen g : Int)) w := by
  have e : (Builtin.max_ #[3, 3] 3 #[.int .i64 (g.len : Int), .int .i64 1]).run Tryz.prog w = .ok (.int .i64 (if (1 : Int) > (g.len : Int) then 1 else (g.len : Int))) w := rfl
  rw [e]
  congr 2
  unfold vlen
  by_cases h : g.len = 0
  · rw [if_pos (by omega), if_pos h]; rfl
  · rw [if_neg (by omega), if_neg h]
def FreshP (w : World) (m : Tp.M) (ia ga pa ba : Option Addr) (ic gc pc bc : Nat) (e : Ending) (w' : World) : Prop := Below w.heap.size w w' ∧ ∃ lb vb sl, e = .returned (.pointer (some ⟨lb, 0, none⟩)) ∧ w.heap.size ≤ lb ∧ w.heap.size ≤ vb ∧ lb ≠ vb ∧ w'.heap[lb]? = some (.cells (lcells m ia ga pa ba ic gc pc bc vb) 116 (0, 0)) ∧ Laid w' w.heap.size vb m.vars m.vars.length sl ∧ ∀ g ∈ m.vars, sl g.name ≠ lb ∧ sl g.name ≠ vb
set_option maxRecDepth 100000 in
set_option maxHeartbeats 4000000 in
theorem fresh_post {w : World} {m : Tp.M} {ia ga pa ba : Option Addr} {ic gc pc bc : Nat} (h : MB w w.heap.size m ia ga pa ba ic gc pc bc) (hm : Tp.WM m) (hn : (m.vars.map (·.name)).Nodup) :
    Calls Tryz.prog 41 #[.agg (mcells (bs m.name) (.slice ia m.imports.length ic) (.slice ga m.vars.length gc) (.slice pa m.procs.length pc) (.slice ba m.body.length bc))] w (FreshP w m ia ga pa ba ic gc pc bc) := by
  have hmm := @run_makeMap Tryz.prog
  obtain ⟨w0, hw0⟩ : ∃ w0, w0 = ((w.alloc (.cells (mcells (bs m.name) (.slice ia m.imports.length ic) (.slice ga m.vars.length gc) (.slice pa m.procs.length pc) (.slice ba m.body.length bc)) 32)).alloc (.map #[] 0)).alloc (.cells (lcells m ia ga pa ba ic gc pc bc (w.heap.size + 1)) 116) := ⟨_, rfl⟩
  have hb0 : Below w.heap.size w w0 := by rw [hw0]; exact (((Below.refl _ _).alloc (Nat.le_refl _) _).alloc (by simp) _).alloc (by simp; omega) _
  have hs0 : w0.heap.size = w.heap.size + 3 := by rw [hw0]; simp
  have hk0 : w0.heap[w.heap.size]? = some (.cells (mcells (bs m.name) (.slice ia m.imports.length ic) (.slice ga m.vars.length gc) (.slice pa m.procs.length pc) (.slice ba m.body.length bc)) 32 (0, 0)) := by
    rw [hw0]; exact ((Below.heap_alloc _ _ _ (by simp; omega)).trans (Below.heap_alloc _ _ _ (by simp))).trans (new_blk _ _)
  have hm0 : MapV w0 (w.heap.size + 1) 0 (fun _ => none) := by
    have h1 := MapV.made (w.alloc (.cells (mcells (bs m.name) (.slice ia m.imports.length ic) (.slice ga m.vars.length gc) (.slice pa m.procs.length pc) (.slice ba m.body.length bc)) 32))
    have h2 : (w.alloc (.cells (mcells (bs m.name) (.slice ia m.imports.length ic) (.slice ga m.vars.length gc) (.slice pa m.procs.length pc) (.slice ba m.body.length bc)) 32)).heap.size = w.heap.size + 1 := by simp
    rw [h2] at h1
    refine h1.on ?_
    rw [hw0]
    exact Below.heap_alloc _ _ _ (by simp)
  have hk2 : w0.heap[w.heap.size + 2]? = some (.cells (lcells m ia ga pa ba ic gc pc bc (w.heap.size + 1)) 116 (0, 0)) := by
    have := new_blk ((w.alloc (.cells (mcells (bs m.name) (.slice ia m.imports.length ic) (.slice ga m.vars.length gc) (.slice pa m.procs.length pc) (.slice ba m.body.length bc)) 32)).alloc (.map #[] 0)) (.cells (lcells m ia ga pa ba ic gc pc bc (w.heap.size + 1)) 116)
    rw [hw0]
    simpa using this
  have hl0 : Laid w0 (w.heap.size + 3) (w.heap.size + 1) m.vars 0 (fun _ => 0) := ⟨by simpa using hm0, fun g hg => by simp at hg, fun g hg => by simp at hg⟩
  have hgl := h.gl
  have HG : Hid (∀ i, ∀ hi : i < m.vars.length, ∃ gg, ga = some ⟨gg, 0, none⟩ ∧ gg < w.heap.size ∧ ∀ j, j < 4 → w.cell? ⟨gg, i * 4 + j, none⟩ = (gcells (bs m.vars[i].name) (m.vars[i].pos : Int) (m.vars[i].len : Int) m.vars[i].seen).toList[j]?) := by
    intro i hi
    obtain ⟨g, cap, q1, q2, q3, q4⟩ := row_cell hgl (by omega)
    cases q1
    exact ⟨g, rfl, q3, fun j hj => (q4 (i * 4 + j) (by omega)).trans (gcs_get m.vars i hi j hj)⟩
  have HW : Hid (∀ i, ∀ hi : i < m.vars.length, m.vars[i].name.length ≤ 1000000 ∧ vlen m.vars[i] ≤ 1000) := fun i hi => by
    have := hm.g _ (List.getElem_mem hi)
    refine ⟨okn_1000 this.n, ?_⟩
    have := this.l
    unfold vlen
    split <;> omega
  have HND := Lib.hid hn
  have k2 : w0.cell? ⟨w.heap.size, 2, none⟩ = some (.slice ga m.vars.length gc) := (cell_blk hk0).trans rfl
  have hgn : m.vars.length ≤ 10 := hm.gc
  have HB0 := Lib.hid hb0
  have HK2 := Lib.hid hk2
  have HL0 := Lib.hid hl0
  clear hb0 hk0 hm0 hk2 hl0 hgl h hm hn
  obtain ⟨gn, hgn'⟩ : ∃ gn, gn = m.vars.length := ⟨_, rfl⟩
  have HGN := Lib.hid hgn'
  unfold mcells lcells at *
  rw [← hgn'] at k2 hgn hw0 ⊢
  clear hgn'
  have hgI : (gn : Int) ≤ 10 := by omega
  have hws : w.heap.size < w0.heap.size := by omega
  go_enter Tryz.func41, Tryz.ntmps41
  go_upto_region 2 with fail
  rw [← hw0]
  clear hw0
  go_wp2_with fail
  go_loopg [13] gn (fun k vi wr => ∃ (i : Nat) (sl : Bs → Nat), i ≤ gn ∧ k = gn - i ∧ vi = .int .i64 (i : Int) ∧ Hid (Laid wr (w.heap.size + 3) (w.heap.size + 1) m.vars i sl) ∧ Hid (Ext (w.heap.size + 1) w0 wr))
  case atStart => exact ⟨0, fun _ => 0, by omega, by omega, rfl, HL0, Ext.refl _ _⟩
  case round =>
    obtain ⟨i, sl, hid, hk, rfl, HL, HE⟩ := hrel
    have hszr := HE.out.size
    by_cases hlt : i < gn
    · have hlt' : (i : Int) < (gn : Int) := by omega
      have hia : i < m.vars.length := by have := HGN.out; omega
      obtain ⟨gg, rfl, hggl, hgc⟩ := HG.out i hia
      have hcell : ∀ j, j < 4 → wr.cell? ⟨gg, i * 4 + j, none⟩ = (gcells (bs m.vars[i].name) (m.vars[i].pos : Int) (m.vars[i].len : Int) m.vars[i].seen).toList[j]? := fun j hj => by
        rw [World.cell?_of_block (w := w0) (HE.out.block gg (by omega) (by omega)), HB0.out.cell (p := ⟨gg, i * 4 + j, none⟩) hggl]
        exact hgc j hj
      have c0 : wr.cell? ⟨gg, i * 4, none⟩ = some (.string (bs m.vars[i].name)) := hcell 0 (by omega)
      have c1 : wr.cell? ⟨gg, i * 4 + 1, none⟩ = some (.int .i64 (m.vars[i].pos : Int)) := hcell 1 (by omega)
      have c2 : wr.cell? ⟨gg, i * 4 + 2, none⟩ = some (.int .i64 (m.vars[i].len : Int)) := hcell 2 (by omega)
      have c3 : wr.cell? ⟨gg, i * 4 + 3, none⟩ = some (.bool m.vars[i].seen) := hcell 3 (by omega)
      have hggr : gg < wr.heap.size := by omega
      obtain ⟨hnl, hvl⟩ := HW.out i hia
      obtain ⟨W, hW⟩ : ∃ W, W = wr.alloc (.cells #[.string (bs m.vars[i].name), .int .i64 (m.vars[i].pos : Int), .int .i64 (m.vars[i].len : Int), .bool m.vars[i].seen] 69) := ⟨_, rfl⟩
      have hbW : Below wr.heap.size wr W := by rw [hW]; exact (Below.refl _ _).alloc (Nat.le_refl _) _
      have hsW : W.heap.size = wr.heap.size + 1 := by rw [hW]; simp
      have hkW : W.heap[wr.heap.size]? = some (.cells #[.string (bs m.vars[i].name), .int .i64 (m.vars[i].pos : Int), .int .i64 (m.vars[i].len : Int), .bool m.vars[i].seen] 69 (0, 0)) := by rw [hW]; exact new_blk _ _
      have g0 : W.cell? ⟨wr.heap.size, 0, none⟩ = some (.string (bs m.vars[i].name)) := (cell_blk hkW).trans rfl
      have g2 : W.cell? ⟨wr.heap.size, 2, none⟩ = some (.int .i64 (m.vars[i].len : Int)) := (cell_blk hkW).trans rfl
      have hlbW : W.heap[w.heap.size + 2]? = some (.cells #[.string (bs m.name), .slice ia m.imports.length ic, .slice (some ⟨gg, 0, none⟩) m.vars.length gc, .slice pa m.procs.length pc, .slice ba m.body.length bc, .map (some (w.heap.size + 1))] 116 (0, 0)) := by
        rw [hbW.block _ (by omega), HE.out.block _ (by omega) (by omega)]
        exact HK2.out
      have l5 : W.cell? ⟨w.heap.size + 1 + 1, 5, none⟩ = some (.map (some (w.heap.size + 1))) := (cell_blk hlbW).trans rfl
      have hlaid : Laid W (w.heap.size + 3) (w.heap.size + 1) m.vars i sl := ⟨HL.out.map.on (hbW.block _ HL.out.map.lt), fun g hg => ⟨(HL.out.at' g hg).1, (hbW.block _ (lt_blk (HL.out.at' g hg).2)).trans (HL.out.at' g hg).2⟩, HL.out.inj⟩
      have hmk := run_makeI (vlen m.vars[i]) (by omega)
      have hmx := run_maxI m.vars[i]
      obtain ⟨w3, hmu, q1, q2, q3⟩ := (hlaid.map.on (w' := (W.alloc (.cells (ints (List.replicate (vlen m.vars[i]) 0)).toArray 2)).drew) (Below.heap_alloc _ _ _ hlaid.map.lt)).store (t := 114) Tryz.underlying114 (by omega) m.vars[i].name hnl (.slice (some ⟨W.heap.size, 0, none⟩) (vlen m.vars[i]) (vlen m.vars[i]))
      have HL3 : Hid (Laid w3 (w.heap.size + 3) (w.heap.size + 1) m.vars (i + 1) (fun k => if k = m.vars[i].name then W.heap.size else sl k)) := by
        refine hlaid.add hia HND.out (by omega) (by omega) q1 (fun b hb hne => (q2.block b (by show b < (W.alloc _).heap.size; simp; omega) hne).trans (Below.heap_alloc _ _ _ hb)) ((q2.block _ (by show W.heap.size < (W.alloc _).heap.size; simp) (by omega)).trans (new_blk _ _)) (fun g hg e => ?_)
        have := (hlaid.at' g hg).1
        omega
      have HE3 : Hid (Ext (w.heap.size + 1) w0 w3) := by
        refine (HE.out.trans (Ext.below hbW)).trans (Ext.trans ?_ q2)
        exact ⟨rfl, rfl, rfl, by show W.heap.size ≤ (W.alloc _).heap.size; simp, fun b hb _ => Below.heap_alloc _ _ _ hb⟩
      have hvl' : (vlen m.vars[i] : Int) ≤ 1000 := by omega
      have hl1 : wr.heap.size < W.heap.size := by omega
      have hl2 : w.heap.size + 1 + 1 < W.heap.size := by omega
      rw [hsW] at hmu
      have l5' : (W.alloc (.cells (ints (List.replicate (vlen m.vars[i]) 0)).toArray 2)).cell? ⟨w.heap.size + 1 + 1, 5, none⟩ = some (.map (some (w.heap.size + 1))) := (World.cell?_of_block (w := W) (Below.heap_alloc _ _ _ hl2)).trans l5
      have g0' : (W.alloc (.cells (ints (List.replicate (vlen m.vars[i]) 0)).toArray 2)).cell? ⟨wr.heap.size, 0, none⟩ = some (.string (bs m.vars[i].name)) := (World.cell?_of_block (w := W) (Below.heap_alloc _ _ _ hl1)).trans g0
      have g2' : (W.alloc (.cells (ints (List.replicate (vlen m.vars[i]) 0)).toArray 2)).cell? ⟨wr.heap.size, 2, none⟩ = some (.int .i64 (m.vars[i].len : Int)) := (World.cell?_of_block (w := W) (Below.heap_alloc _ _ _ hl1)).trans g2
      clear hcell hbW hkW hlbW hlaid q1 q2 q3 hgc HL HE hnl hvl
      generalize vlen m.vars[i] = vg at *
      generalize m.vars[i].name = nm at *
      generalize (m.vars[i].pos : Int) = ps at *
      generalize (m.vars[i].len : Int) = ln at *
      generalize m.vars[i].seen = sn at *
      go_upto_region 5 with fail
      rw [← hW]
      clear hW c0 c1 c2 c3
      go_region
      go_wp2_with fail
      go_roundg (gn - (i + 1))
      case measure => omega
      case rel => exact ⟨i + 1, _, by omega, rfl, by go_num, HL3, HE3⟩
    · have hlt' : ¬ (i : Int) < (gn : Int) := by omega
      have hei : i = m.vars.length := by have := HGN.out; omega
      have hfin : Below w.heap.size w wr := HB0.out.trans (ext_below HE.out (by omega) (by omega))
      have hblk : wr.heap[w.heap.size + 2]? = some (.cells #[.string (bs m.name), .slice ia m.imports.length ic, .slice ga m.vars.length gc, .slice pa m.procs.length pc, .slice ba m.body.length bc, .map (some (w.heap.size + 1))] 116 (0, 0)) := by
        rw [HE.out.block _ (by omega) (by omega)]
        exact HK2.out
      have hla := HL.out
      rw [hei] at hla
      have HR : Hid (FreshP w m ia ga pa ba ic gc pc bc (.returned (.pointer (some ⟨w.heap.size + 2, 0, none⟩))) wr) := by
        refine ⟨hfin, w.heap.size + 2, w.heap.size + 1, sl, rfl, by omega, by omega, by omega, hblk, ⟨hla.map, fun g hg => ⟨by have := (hla.at' g hg).1; omega, (hla.at' g hg).2⟩, hla.inj⟩, fun g hg => ?_⟩
        have := (hla.at' g (by simpa using hg)).1
        omega
      clear hfin hblk hla HL HE
      go_wp2_with fail
      go_ret
      exact HR.out
end Go.Proofs.YtfpeboeknjlkbaaGreatDoor
/- Chapter 4: a module is laid behind those that are there, the first: add; seen. -/
namespace Go.Proofs.YtfpeboeknjlkbaaGreatDoor
open Go.RowKit Go.Maps
open Tp (Bs X S G Pr Pt Rs Rr Own)

theorem Tryz.mapNil (w : World) : (binOp .eql 38 (.map none) (.map none)).run Tryz.prog w = .ok (.bool true) w := by kernel_rfl
theorem Tryz.mapSome (b : Nat) (w : World) : (binOp .eql 38 (.map (some b)) (.map none)).run Tryz.prog w = .ok (.bool false) w := by kernel_rfl
def AddP (w : World) (wb lb : Nat) (nm : Bs) (e : Ending) (w' : World) : Prop := e = .returned (.tuple #[]) ∧ Ext wb w w' ∧ ∃ tb nv, w'.heap[wb]? = some (.cells #[nv, .map (some tb)] 40 (0, 0)) ∧ w.heap.size ≤ tb ∧ MapV w' tb 1 (updV (fun _ => none) nm (.pointer (some ⟨lb, 0, none⟩))) ∧ w'.ownsRow 0 9 1 nv 1 [.string (bs nm)] ∧ ∀ b, nv.ownBlock = some b → w.heap.size ≤ b ∧ b ≠ tb
theorem add_fin {w w2 w3 : World} {wb lb : Nat} {nm : Bs} {v3 : Value} (hwl : wb < w.heap.size) (hx : Ext wb w w2) (hm : MapV w2 w.heap.size 1 (updV (fun _ => none) nm (.pointer (some ⟨lb, 0, none⟩)))) (hs : w2.heap.size = w.heap.size + 1) (e3 : w3.heap[wb]? = some (.cells #[.slice none 0 0, .map (some w.heap.size)] 40 (0, 0))) (hb : Below w2.heap.size w2 w3) (q1 : w3.ownsRow 0 9 1 v3 1 [.string (bs nm)]) (q3 : ∀ g, v3.ownBlock = some g → w2.heap.size ≤ g) : AddP w wb lb nm (.returned (.tuple #[])) (w3.setCell ⟨wb, 0, none⟩ v3) := by
  refine ⟨rfl, (hx.trans (Ext.below hb)).set 0 _, w.heap.size, v3, (set_blk 0 _ e3).trans rfl, Nat.le_refl _, hm.on ((set_frame _ (by omega)).trans (hb.block _ (by omega))), owns_keep q1 (fun b _ _ h3 => set_frame b (by have := q3 b h3; omega)), fun b h3 => by have := q3 b h3; omega⟩
set_option maxRecDepth 100000 in
set_option maxHeartbeats 4000000 in
theorem add_first {w : World} {wb lb : Nat} {nm : Bs} {v1 v2 v3 v4 v5 : Value} (hw : w.heap[wb]? = some (.cells #[.slice none 0 0, .map none] 40 (0, 0))) (hl : w.heap[lb]? = some (.cells #[.string (bs nm), v1, v2, v3, v4, v5] 116 (0, 0))) (hne : lb ≠ wb) (hn : nm.length ≤ 1000000) :
    Calls Tryz.prog 42 #[.pointer (some ⟨wb, 0, none⟩), .pointer (some ⟨lb, 0, none⟩)] w (AddP w wb lb nm) := by
  obtain ⟨i1, hi, hz0, hz1, hz2⟩ := info_parts Tryz.infoString
  have hmm := @run_makeMap Tryz.prog
  have hmn := Tryz.mapNil
  have hwl := lt_blk hw
  have hll := lt_blk hl
  have k1 : w.cell? ⟨wb, 1, none⟩ = some (.map none) := (cell_blk hw).trans rfl
  have hz : w.frozen? ⟨wb, 1, none⟩ = false := frozen_blk hw
  obtain ⟨w1, hw1⟩ : ∃ w1, w1 = (w.setCell ⟨wb, 1, none⟩ (.map (some w.heap.size))).alloc (.map #[] 0) := ⟨_, rfl⟩
  have hb1 : w1.heap[wb]? = some (.cells #[.slice none 0 0, .map (some w.heap.size)] 40 (0, 0)) := by rw [hw1]; exact (Below.heap_alloc _ _ _ (by simpa using hwl)).trans ((set_blk 1 _ hw).trans rfl)
  have hl1 : w1.heap[lb]? = some (.cells #[.string (bs nm), v1, v2, v3, v4, v5] 116 (0, 0)) := by rw [hw1]; exact (Below.heap_alloc _ _ _ (by simpa using hll)).trans ((set_frame _ hne).trans hl)
  have hs1 : w1.heap.size = w.heap.size + 1 := by rw [hw1]; simp
  have hx1 : Ext wb w w1 := by
    rw [hw1]
    exact ((Ext.refl wb w).set 1 _).trans (Ext.below ((Below.refl _ _).alloc (Nat.le_refl _) _))
  have hm1 : MapV w1 w.heap.size 0 (fun _ => none) := by
    have := MapV.made (w.setCell ⟨wb, 1, none⟩ (.map (some w.heap.size)))
    rw [set_size] at this
    rw [hw1]
    exact this
  obtain ⟨w2, hmu, q1, q2, q3⟩ := (hm1.on (w' := w1.drew) rfl).store (t := 38) Tryz.underlying38 (by omega) nm hn (.pointer (some ⟨lb, 0, none⟩))
  have hb2 : w2.heap[wb]? = some (.cells #[.slice none 0 0, .map (some w.heap.size)] 40 (0, 0)) := (q2.block wb (by show wb < w1.heap.size; omega) (by omega)).trans hb1
  have hl2 : w2.heap[lb]? = some (.cells #[.string (bs nm), v1, v2, v3, v4, v5] 116 (0, 0)) := (q2.block lb (by show lb < w1.heap.size; omega) (by omega)).trans hl1
  have hs2 : w2.heap.size = w.heap.size + 1 := q3.trans hs1
  have hx2 : ∀ b, b < w.heap.size → b ≠ wb → w2.heap[b]? = w.heap[b]? := fun b h1 h2 => (q2.block b (by show b < w1.heap.size; omega) (by omega)).trans (hx1.block b h1 h2)
  have HX2 : Hid (Ext wb w w2) := ⟨q2.os.trans hx1.os, q2.tape.trans hx1.tape, q2.output.trans hx1.output, by omega, hx2⟩
  have HM2 := Lib.hid q1
  have m1 : w1.cell? ⟨wb, 1, none⟩ = some (.map (some w.heap.size)) := (cell_blk hb1).trans rfl
  have ml : w1.cell? ⟨lb, 0, none⟩ = some (.string (bs nm)) := (cell_blk hl1).trans rfl
  have n0 : w2.cell? ⟨wb, 0, none⟩ = some (.slice none 0 0) := (cell_blk hb2).trans rfl
  have nl : w2.cell? ⟨lb, 0, none⟩ = some (.string (bs nm)) := (cell_blk hl2).trans rfl
  have hwl1 : wb < w1.heap.size := lt_blk hb1
  have hll1 : lb < w1.heap.size := lt_blk hl1
  have hwl2 : wb < w2.heap.size := lt_blk hb2
  have hll2 : lb < w2.heap.size := lt_blk hl2
  have HB2 := Lib.hid hb2
  have hn0 : ∀ ob, (w2.alloc ob).cell? ⟨wb, 0, none⟩ = some (.slice none 0 0) := fun ob => (World.cell?_of_block (w := w2) (Below.heap_alloc _ _ _ hwl2)).trans n0
  have hnl : ∀ ob, (w2.alloc ob).cell? ⟨lb, 0, none⟩ = some (.string (bs nm)) := fun ob => (World.cell?_of_block (w := w2) (Below.heap_alloc _ _ _ hll2)).trans nl
  have HS1 := Lib.hid hs1
  have HS2 := Lib.hid hs2
  clear hw hl hb1 hl1 hs1 hx1 hm1 q1 q2 q3 hb2 hl2 hs2 hx2
  go_enter Tryz.func42, Tryz.ntmps42
  go_upto_region 2 with fail
  rw [← hw1]
  clear hw1 hz k1
  go_region
  clear m1 ml hmu
  go_upto_region 3 with fail
  go_region_law (first | (refine step_append_where rfl (.tmp 27) (.tmp 33) 27 rfl 0 9 i1 (.string ⟨#[]⟩) 1 16 Tryz.underlying27 hi hz0 hz1 hz2 rfl (by decide) (.slice none 0 0) 0 [] (by simp [Act.eval]) (World.ownsRow_nil _ _ _ _) ⟨w2.heap.size, 0, none⟩ 1 1 [.string (bs nm)] (by simp [Act.eval]) rfl ?news (by intro u hu; simp at hu; subst hu; rfl) (by unfold maxLen; omega) (by omega) (by omega) ?_; (case news => (intro j u hj; rw [Addr.add_lit]; cases j with | zero => (simp at hj; subst hj; first | exact (cell_blk (new_blk w2 _)).trans rfl | exact (cell_blk (new_blk w2.drew _)).trans rfl) | succ j => simp at hj)); intro v3' w3 q1 q2 q3; obtain ⟨a3, c3, hv3⟩ := owns_shape q1; subst hv3; have e3 : w3.heap[wb]? = some (.cells #[.slice none 0 0, .map (some w.heap.size)] 40 (0, 0)) := (q2.block wb (by simp; omega) (fun e => by cases e)).trans ((Below.heap_alloc w2 _ wb hwl2).trans HB2.out); have n3 : w3.cell? ⟨wb, 0, none⟩ = some (.slice none 0 0) := (cell_blk e3).trans rfl; have z3 : w3.frozen? ⟨wb, 0, none⟩ = false := frozen_blk e3; have HFIN := Lib.hid (add_fin hwl HX2.out HM2.out HS2.out e3 (by first | exact ⟨q2.os, q2.tape, q2.output, (by have := q2.size; simp at this; omega), fun b hb => (q2.block b (by simp; omega) (fun e => by cases e)).trans (Below.heap_alloc w2 _ b hb)⟩) q1 (fun g hg => (q3 g hg).elim (fun z => (by cases z)) (fun z => (by simp at z; omega)))); clear q1 q2 q3 e3))
  all_goals exact bodyPost_end (results_none rfl _ _ _) rfl HFIN.out
set_option maxRecDepth 100000 in
theorem seen_first {w : World} {wb : Nat} (hw : w.heap[wb]? = some (.cells #[.slice none 0 0, .map none] 40 (0, 0))) :
    Calls Tryz.prog 40 #[.pointer (some ⟨wb, 0, none⟩)] w fun e w' => e = .returned (.map (some w.heap.size)) ∧ w' = w.alloc (.map #[] 0) := by
  have hmm := @run_makeMap Tryz.prog
  have hwl := lt_blk hw
  have k0 : w.cell? ⟨wb, 0, none⟩ = some (.slice none 0 0) := (cell_blk hw).trans rfl
  have k0' : (w.alloc (.map #[] 0)).cell? ⟨wb, 0, none⟩ = some (.slice none 0 0) := (World.cell?_of_block (w := w) (Below.heap_alloc _ _ _ hwl)).trans k0
  clear hw
  go_enter Tryz.func40, Tryz.ntmps40
  go_wp2_with fail
  refine wp_loop_rounds 1 ?_
  rw [rounds_succ]
  go_wp2_with fail
  go_ret
  exact ⟨rfl, rfl⟩
end Go.Proofs.YtfpeboeknjlkbaaGreatDoor
/- Chapter 4: a world in memory; what goes on in it. -/
namespace Go.Proofs.YtfpeboeknjlkbaaGreatDoor
open Go.RowKit Go.Maps
open Tp (Bs X S G Pr Pt Rs Rr Own)

def VLo (L : List Lo) (b : Nat) : Prop := ∃ lo ∈ L, ∃ g ∈ lo.m.vars, b = lo.sl g.name
def thrL (L : List Lo) (k : Bs) : Option Value := (L.find? fun lo => lo.m.name == k).map fun lo => .pointer (some ⟨lo.lb, 0, none⟩)
def StB (X : Nat → Prop) (L : List Lo) (wb tb : Nat) (nv : Value) (b : Nat) : Prop := ¬ X b ∧ ¬ VLo L b ∧ b ≠ wb ∧ b ≠ tb ∧ nv.ownBlock ≠ some b
structure WW (X : Nat → Prop) (w : World) (wb : Nat) (L : List Lo) (P : List Pt) (nv : Value) (tb : Nat) : Prop where
  blk : w.heap[wb]? = some (.cells #[nv, .map (some tb)] 40 (0, 0))
  xw : ¬ X wb ∧ ¬ VLo L wb
  nm : w.ownsRow 0 9 1 nv L.length (strs (L.map fun lo => lo.m.name))
  nx : ∀ b, nv.ownBlock = some b → ¬ X b ∧ b ≠ wb ∧ b ≠ tb ∧ ¬ VLo L b
  tx : ¬ X tb ∧ tb ≠ wb ∧ ¬ VLo L tb
  th : ∃ n, n ≤ 100 ∧ MapV w tb n (thrL L)
  lo : ∀ lo ∈ L, (∃ ia ga pa ba ic gc pc bc, w.heap[lo.lb]? = some (.cells (lcells lo.m ia ga pa ba ic gc pc bc lo.vb) 116 (0, 0)) ∧ MD w (StB X L wb tb nv) lo.m ia ga pa ba ic gc pc bc) ∧ StB X L wb tb nv lo.lb ∧ StB X L wb tb nv lo.vb ∧ (∃ n, MapV w lo.vb n (loV lo)) ∧ Tp.FitM (L.map fun lo => lo.m) lo.m
  sv : ∀ b, VLo L b → b < w.heap.size ∧ ¬ X b
  nd : (L.map fun lo => lo.m.name).Nodup
  inj : ∀ lo ∈ L, ∀ lo' ∈ L, ∀ g ∈ lo.m.vars, ∀ g' ∈ lo'.m.vars, lo.sl g.name = lo'.sl g'.name → lo.m.name = lo'.m.name ∧ g.name = g'.name
  vals : ∀ lo ∈ L, ∃ p, Tp.partOf P lo.m.name = some p ∧ ValOk w lo p
  mw : Tp.ms P = L.map fun lo => lo.m
theorem goesW_below (w : World) (tv : Option Nat) (fuel : Int) : Below w.heap.size w (goesW w tv fuel) := (((Below.refl _ _).alloc (Nat.le_refl _) _).alloc (by simp) _).alloc (by simp; omega) _
theorem goesW_size (w : World) (tv : Option Nat) (fuel : Int) : (goesW w tv fuel).heap.size = w.heap.size + 3 := by unfold goesW; simp
theorem goesW_gb (w : World) (tv : Option Nat) (fuel : Int) : (goesW w tv fuel).heap[w.heap.size + 1]? = some (.cells #[.map tv, .int .i64 fuel, .int .i64 0, .slice none 0 0] 153 (0, 0)) := by
  unfold goesW
  rw [Below.heap_alloc _ _ _ (by simp)]
  have := new_blk (w.alloc (.cells #[.int .i64 0, .slice none 0 0] 43)) (.cells #[.map tv, .int .i64 fuel, .int .i64 0, .slice none 0 0] 153)
  simpa using this
def cxOf (w : World) (tb fuel : Nat) (L : List Lo) : Cx := ⟨goesW w (some tb) (fuel : Int), w.heap.size + 1, tb, L⟩
theorem WW.cx {X : Nat → Prop} {w : World} {wb : Nat} {L : List Lo} {P : List Pt} {nv : Value} {tb : Nat} (h : WW X w wb L P nv tb) (fuel : Nat) (hf : fuel ≤ 800000) : CxOk (cxOf w tb fuel L) ∧ GS (cxOf w tb fuel L) (goesW w (some tb) (fuel : Int)) ⟨P, fuel, []⟩ 0 ∧ ∀ b, ¬ OutB (cxOf w tb fuel L) (goesW w (some tb) (fuel : Int)) b := by
  have hb := goesW_below w (some tb) (fuel : Int)
  have hgb := goesW_gb w (some tb) (fuel : Int)
  have hlt : ∀ {b : Nat} {o : Obj}, w.heap[b]? = some o → b < w.heap.size := fun q => lt_blk q
  have hD : ∀ b, StB X L wb tb nv b → b < w.heap.size → (goesW w (some tb) (fuel : Int)).heap[b]? = w.heap[b]? ∧ (cxOf w tb fuel L).D b := fun b hs hl => ⟨hb.block b hl, by show b < w.heap.size + 1; omega, hs.2.1⟩
  have htl : tb < w.heap.size := by obtain ⟨n, _, hm⟩ := h.th; exact hm.lt
  have hok : CxOk (cxOf w tb fuel L) := by
    refine ⟨⟨by show tb < w.heap.size + 1; omega, h.tx.2.2⟩, ?_, h.nd, fun lo hl => ?_, h.inj⟩
    · obtain ⟨n, _, hm⟩ := h.th
      exact ⟨n, hm.on (hb.block _ htl)⟩
    · obtain ⟨⟨ia, ga, pa, ba, ic, gc, pc, bc, h1, h2⟩, h3, h4, ⟨n, h5⟩, h6⟩ := h.lo lo hl
      exact ⟨⟨ia, ga, pa, ba, ic, gc, pc, bc, (hb.block _ (hlt h1)).trans h1, h2.mono hD⟩, (hD _ h3 (hlt h1)).2, (hD _ h4 h5.lt).2, ⟨n, h5.on (hb.block _ h5.lt)⟩, fun g hg => by
        have := (h.sv _ ⟨lo, hl, g, hg, rfl⟩).1
        show _ < w.heap.size + 1
        omega, h6⟩
  refine ⟨hok, ⟨fun b _ => rfl, ⟨.slice none 0 0, hgb, World.ownsRow_nil _ _ _ _⟩, h.mw, fun lo hl => ?_, by simp, fun v hv => (by cases hv), hf, by omega⟩, ?_⟩
  · obtain ⟨p, p1, p2, p3⟩ := h.vals lo hl
    exact ⟨p, p1, p2, fun g hg => ⟨(p3 g hg).1, (hb.block _ (h.sv _ ⟨lo, hl, g, hg, rfl⟩).1).trans (p3 g hg).2.1, (p3 g hg).2.2⟩⟩
  · rintro b ⟨v, h1, h2⟩
    have h0 : (goesW w (some tb) (fuel : Int)).cell? ⟨(cxOf w tb fuel L).gb, 3, none⟩ = some (.slice none 0 0) := (cell_blk hgb).trans rfl
    rw [h0] at h1
    cases h1
    cases h2
/- what is there behind it -/
theorem WW.keep {X : Nat → Prop} {w w' : World} {wb : Nat} {L : List Lo} {P P' : List Pt} {nv : Value} {tb : Nat} (h : WW X w wb L P nv tb) (hk : ∀ b, b < w.heap.size → ¬ X b → ¬ VLo L b → w'.heap[b]? = w.heap[b]?) (hsz : w.heap.size ≤ w'.heap.size) (hv : ∀ lo ∈ L, ∃ p, Tp.partOf P' lo.m.name = some p ∧ ValOk w' lo p) (hm : Tp.ms P' = L.map fun lo => lo.m) : WW X w' wb L P' nv tb := by
  have hwl := lt_blk h.blk
  have htl : tb < w.heap.size := by obtain ⟨n, _, hm⟩ := h.th; exact hm.lt
  have hD : ∀ b, StB X L wb tb nv b → b < w.heap.size → w'.heap[b]? = w.heap[b]? ∧ StB X L wb tb nv b := fun b hs hl => ⟨hk b hl hs.1 hs.2.1, hs⟩
  refine ⟨(hk _ hwl h.xw.1 h.xw.2).trans h.blk, h.xw, owns_keep h.nm (fun b _ hl ho => hk b hl (h.nx b ho).1 (h.nx b ho).2.2.2), h.nx, h.tx, ?_, fun lo hl => ?_, fun b hb => ⟨Nat.lt_of_lt_of_le (h.sv b hb).1 hsz, (h.sv b hb).2⟩, h.nd, h.inj, hv, hm⟩
  · obtain ⟨n, hn, hm⟩ := h.th
    exact ⟨n, hn, hm.on (hk _ htl h.tx.1 h.tx.2.2)⟩
  · obtain ⟨⟨ia, ga, pa, ba, ic, gc, pc, bc, h1, h2⟩, h3, h4, ⟨n, h5⟩, h6⟩ := h.lo lo hl
    exact ⟨⟨ia, ga, pa, ba, ic, gc, pc, bc, ((hD _ h3 (lt_blk h1)).1).trans h1, h2.mono hD⟩, h3, h4, ⟨n, h5.on (hD _ h4 h5.lt).1⟩, h6⟩
theorem WW.after {X : Nat → Prop} {w w2 w' : World} {wb : Nat} {L : List Lo} {P : List Pt} {nv : Value} {tb fuel k : Nat} {s : Rs} (h : WW X w wb L P nv tb) (hf : fuel ≤ 800000) (hg : GS (cxOf w tb fuel L) w2 s k) (hk : Kp (cxOf w tb fuel L) nY (goesW w (some tb) (fuel : Int)) w2) (hx : Ext w.heap.size w2 w') : WW X w' wb L s.w nv tb ∧ ∀ b, b < w.heap.size → ¬ VLo L b → w'.heap[b]? = w.heap[b]? := by
  obtain ⟨hok, hg0, hno⟩ := h.cx fuel hf
  have hb := goesW_below w (some tb) (fuel : Int)
  have hs := goesW_size w (some tb) (fuel : Int)
  have hsz := hk.size
  have hkk : ∀ b, b < w.heap.size → ¬ VLo L b → w'.heap[b]? = w.heap[b]? := fun b hl hv =>
    ((hx.block b (by omega) (by omega)).trans (hk.block b (by omega) (by show b ≠ w.heap.size + 1; omega) hv (hno b) (fun q => q))).trans (hb.block b hl)
  refine ⟨h.keep (fun b hl _ hv => hkk b hl hv) (by have := hx.size; omega) (fun lo hl => ?_) hg.mw, hkk⟩
  obtain ⟨p, p1, p2, p3⟩ := hg.vals lo hl
  exact ⟨p, p1, p2, fun g hgm => ⟨(p3 g hgm).1, (hx.block _ (lt_blk (p3 g hgm).2.1) (by have := (h.sv _ ⟨lo, hl, g, hgm, rfl⟩).1; omega)).trans (p3 g hgm).2.1, (p3 g hgm).2.2⟩⟩
end Go.Proofs.YtfpeboeknjlkbaaGreatDoor
/- Chapter 4: what is done when a module is loaded; when a procedure is called from outside. -/
namespace Go.Proofs.YtfpeboeknjlkbaaGreatDoor
open Go.RowKit Go.Maps
open Tp (Bs X S G Pr Pt Rs Rr Own)

def WayA {α : Type} (c : Cx) (w1 : World) (r : Rr α) (way : Int) (w2 : World) : Prop := match r with
  | .ok _ s' => way = 1 ∧ ∃ k, GS c w2 s' k ∧ Kp c nY w1 w2
  | .stop wy s' => way = (wy : Int) ∧ ∃ k, GS c w2 s' k ∧ Kp c nY w1 w2
  | .gas => False
theorem held_of {w w2 : World} {tb fuel k : Nat} {L : List Lo} {s : Rs} (_ : CxOk (cxOf w tb fuel L)) (hno : ∀ b, ¬ OutB (cxOf w tb fuel L) (goesW w (some tb) (fuel : Int)) b) (hV : ∀ b, VLo L b → b < w.heap.size) (hg : GS (cxOf w tb fuel L) w2 s k) (hk : Kp (cxOf w tb fuel L) nY (goesW w (some tb) (fuel : Int)) w2) : GoHeld w (goesW w (some tb) (fuel : Int)) w2 := by
  have hs := goesW_size w (some tb) (fuel : Int)
  refine ⟨hk.block _ (by omega) (by show w.heap.size ≠ w.heap.size + 1; omega) (fun q => by have := hV _ q; omega) (hno _) (fun q => q), hk.block _ (by omega) (by show w.heap.size + 2 ≠ w.heap.size + 1; omega) (fun q => by have := hV _ q; omega) (hno _) (fun q => q), ?_⟩
  obtain ⟨ov, h1, h2⟩ := hg.outIs
  obtain ⟨oa, oc, rfl⟩ := owns_shape h2
  exact ⟨oa, _, oc, h1⟩
theorem cf_load (args : Array Value) (w : World) : (callFunc 44 args).run Tryz.prog w = .ok (.enter 44 args) w := by kernel_rfl
theorem cf_call (args : Array Value) (w : World) : (callFunc 62 args).run Tryz.prog w = .ok (.enter 62 args) w := by kernel_rfl
set_option maxRecDepth 100000 in
set_option maxHeartbeats 2000000 in
theorem load1_post {X : Nat → Prop} {w : World} {wb : Nat} {L : List Lo} {P : List Pt} {nv : Value} {tb fuel xl xm bn bc gas : Nat} {ba : Option Addr} (h : WW X w wb L P nv tb) (hf : fuel ≤ 800000) {lo : Lo} (hlo : lo ∈ L) (kl : w.cell? ⟨xl, 0, none⟩ = some (.pointer (some ⟨lo.lb, 0, none⟩))) (km : w.cell? ⟨xm, 4, none⟩ = some (.slice ba bn bc))
    (hss : Ss (cxOf w tb fuel L) lo [] lo.m.body (.slice ba bn bc)) (hng : Tp.goS gas 0 lo.m.name (fun _ => none) lo.m.body ⟨P, fuel, []⟩ ≠ .gas) :
    Calls Tryz.prog 44 #[.pointer (some ⟨w.heap.size + 1, 0, none⟩), .pointer (some ⟨xl, 0, none⟩), .pointer (some ⟨xm, 0, none⟩)] (goesW w (some tb) (fuel : Int)) fun e w2 => GoHeld w (goesW w (some tb) (fuel : Int)) w2 ∧ ((e = .returned (.tuple #[]) ∧ WayA (cxOf w tb fuel L) (goesW w (some tb) (fuel : Int)) (Tp.goS gas 0 lo.m.name (fun _ => none) lo.m.body ⟨P, fuel, []⟩) 1 w2) ∨ ∃ way : Int, thrE endT way e ∧ WayA (cxOf w tb fuel L) (goesW w (some tb) (fuel : Int)) (Tp.goS gas 0 lo.m.name (fun _ => none) lo.m.body ⟨P, fuel, []⟩) way w2) := by
  obtain ⟨hok, hg0, hno⟩ := h.cx fuel hf
  have hV : ∀ b, VLo L b → b < w.heap.size := fun b hb => (h.sv b hb).1
  have hb := goesW_below w (some tb) (fuel : Int)
  have hs := goesW_size w (some tb) (fuel : Int)
  have HHE := Lib.hid (fun w2 k s => held_of (w2 := w2) (k := k) (s := s) hok hno hV)
  have hcg : (cxOf w tb fuel L).gb = w.heap.size + 1 := rfl
  have hcl : (cxOf w tb fuel L).L = L := rfl
  generalize cxOf w tb fuel L = c at *
  generalize goesW w (some tb) (fuel : Int) = w1 at *
  obtain ⟨w3, hw3⟩ : ∃ w3, w3 = w1.alloc (.cells #[.pointer (some ⟨w.heap.size + 1, 0, none⟩), .pointer (some ⟨lo.lb, 0, none⟩), .map none] 99) := ⟨_, rfl⟩
  have hb3 : Below w1.heap.size w1 w3 := by rw [hw3]; exact (Below.refl _ _).alloc (Nat.le_refl _) _
  have hsc : Sc c w3 w1.heap.size none lo (fun _ => none) [] fuel := by
    refine ⟨by omega, fun q => ?_, by rw [hw3, hcg]; exact new_blk _ _, fun _ => rfl, fun k v q => (by cases q), fun k => by simp, by rw [hcl]; exact hlo⟩
    exact hno _ ((outB_on (hb3.block c.gb (by omega)) _).1 q)
  have HB := Lib.hid (run_body hok gas 0 lo (fun _ => none) [] lo.m.body (.slice ba bn bc) w3 ⟨P, fuel, []⟩ w1.heap.size none hss (hg0.below hok hb3) hsc hng)
  have k1 : w1.cell? ⟨xl, 0, none⟩ = some (.pointer (some ⟨lo.lb, 0, none⟩)) := (hb.cell (p := ⟨xl, 0, none⟩) (lt_of_cell kl)).trans kl
  have k4 : w3.cell? ⟨xm, 4, none⟩ = some (.slice ba bn bc) := (hb3.cell (p := ⟨xm, 4, none⟩) (by have := lt_of_cell km; show xm < w1.heap.size; omega)).trans ((hb.cell (p := ⟨xm, 4, none⟩) (lt_of_cell km)).trans km)
  have hxl1 : xl < w1.heap.size := lt_of_cell k1
  have hxm3 : xm < w3.heap.size := lt_of_cell k4
  have HK3 : Hid (Kp c nY w1 w3) := Kp.below hb3 (by omega)
  clear h hok hg0 hno hV hb hs hss hsc kl km hb3
  generalize Tp.goS gas 0 lo.m.name (fun _ => none) lo.m.body ⟨P, fuel, []⟩ = r at *
  have HNY : Hid (∀ W, Kp c (oY none) w3 W → Kp c nY w1 W) := fun W q => HK3.out.trans (q.mono fun b z => by cases z)
  clear hcg hcl
  cases r with
  | gas => exact absurd rfl hng
  | stop way s' =>
    clear hng
    go_enter Tryz.func44, Tryz.ntmps44
    go_upto_region 1 with fail
    rw [← hw3]
    clear hw3 k1
    go_wp2_with fail
    refine HB.out.mono ?_
    rintro e w4 ⟨⟨older, rfl⟩, ⟨k', hg4⟩, hk4⟩
    have HF : Hid (GoHeld w w1 w4 ∧ WayA c w1 (.stop way s' : Rr (Own × Option Int)) (way : Int) w4) := ⟨HHE.out _ _ _ hg4 (HNY.out _ hk4), rfl, k', hg4, HNY.out _ hk4⟩
    clear hg4 hk4
    go_wp2_with fail
    exact ⟨rfl, HF.out.1, Or.inr ⟨(way : Int), ⟨older, rfl⟩, HF.out.2⟩⟩
  | ok r1 s' =>
    clear hng
    go_enter Tryz.func44, Tryz.ntmps44
    go_upto_region 1 with fail
    rw [← hw3]
    clear hw3 k1
    go_wp2_with fail
    refine HB.out.mono ?_
    rintro e w4 ⟨rfl, hg4, hk4, _, _⟩
    have HF : Hid (GoHeld w w1 w4 ∧ WayA c w1 (.ok r1 s') 1 w4) := ⟨HHE.out _ _ _ hg4 (HNY.out _ hk4), rfl, 0, hg4, HNY.out _ hk4⟩
    clear hg4 hk4
    go_wp2_with fail
    exact bodyPost_end (results_none rfl _ _ _) rfl ⟨HF.out.1, Or.inl ⟨rfl, HF.out.2⟩⟩
end Go.Proofs.YtfpeboeknjlkbaaGreatDoor
/- Chapter 4: the first module of a world: what it is in memory. -/
namespace Go.Proofs.YtfpeboeknjlkbaaGreatDoor
open Go.RowKit Go.Maps
open Tp (Bs X S G Pr Pt Rs Rr Own)

def of0 (_ : Tp.M) : List Tp.Sy := []
theorem fit_first {m : Tp.M} (hm : Tp.WM m) (hc : Tp.check m (fun _ => none) = none) : Tp.FitM [m] m := by
  have h : Tp.WI of0 ([] ++ [⟨m, Tp.fresh m⟩]) := Tp.WI.add (Tp.WI.empty of0) rfl hc
  exact h.fit (fun m s hs => by cases hs) (m := m) (by simp [Tp.ms]) hm
theorem fresh_vals {m : Tp.M} {g : G} (hn : (m.vars.map (·.name)).Nodup) (hg : g ∈ m.vars) : Tp.fresh m g.name = List.replicate (vlen g) 0 := by
  have : m.vars.find? (fun x => x.name == g.name) = some g := Tp.varOf_mem hn hg
  unfold Tp.fresh vlen
  rw [this]
/- the world behind it -/
theorem ww_first {Y : Nat → Prop} {w w6 w7 w8 : World} {wb B0 : Nat} {m : Tp.M} {ia ga pa ba : Option Addr} {ic gc pc bc lb vb : Nat} {sl : Bs → Nat} (hm : Tp.WM m) (hc : Tp.check m (fun _ => none) = none) (hmb : MB w B0 m ia ga pa ba ic gc pc bc) (hB0 : B0 ≤ wb) (hwl : wb < w.heap.size) (hY : ∀ b, Y b → B0 ≤ b ∧ b < w.heap.size ∧ b ≠ wb)
    (h6 : Below w.heap.size w w6) (hlb : w.heap.size ≤ lb) (hvb : w.heap.size ≤ vb) (_ : lb ≠ vb) (hbl : w6.heap[lb]? = some (.cells (lcells m ia ga pa ba ic gc pc bc vb) 116 (0, 0))) (hla : Laid w6 w.heap.size vb m.vars m.vars.length sl) (hsl : ∀ g ∈ m.vars, sl g.name ≠ lb ∧ sl g.name ≠ vb)
    (h7 : Below w6.heap.size w6 w7) {e : Ending} (h8 : AddP w7 wb lb m.name e w8) : ∃ nv tb, WW Y w8 wb [⟨m, lb, vb, sl⟩] [⟨m, Tp.fresh m⟩] nv tb ∧ Ext wb w w8 ∧ w7.heap.size ≤ tb := by
  obtain ⟨_, hx, tb, nv, hblk, htb, hmap, hnm, hnx⟩ := h8
  have hfit := fit_first hm hc
  have hs6 := h6.size
  have hs7 := h7.size
  have hnotY : ∀ b, w.heap.size ≤ b → ¬ Y b := fun b hb q => by have := hY b q; omega
  have htk : m.vars.take m.vars.length = m.vars := List.take_length
  have hat := hla.at'
  have hinj := hla.inj
  have hmp := hla.map
  rw [htk] at hat hinj hmp
  have hsvlt : ∀ g ∈ m.vars, sl g.name < w6.heap.size := fun g hg => lt_blk (hat g hg).2
  have hVL : ∀ b, VLo [⟨m, lb, vb, sl⟩] b → ∃ g ∈ m.vars, b = sl g.name := by
    rintro b ⟨lo, hlo, g, hg, e⟩
    rw [List.mem_singleton] at hlo
    subst hlo
    exact ⟨g, hg, e⟩
  have hnV : ∀ b, b < w.heap.size ∨ w6.heap.size ≤ b → ¬ VLo [⟨m, lb, vb, sl⟩] b := fun b hb q => by
    obtain ⟨g, hg, e⟩ := hVL b q
    have h1 := (hat g hg).1
    have h2 := hsvlt g hg
    omega
  have hk : ∀ b, b < w6.heap.size → b ≠ wb → w8.heap[b]? = w6.heap[b]? := fun b hb hne => (hx.block b (by omega) hne).trans (h7.block b hb)
  have hlbl := lt_blk hbl
  have hvbl := hmp.lt
  have hst : ∀ b, w.heap.size ≤ b → b < w6.heap.size → (∀ g ∈ m.vars, sl g.name ≠ b) → StB Y [⟨m, lb, vb, sl⟩] wb tb nv b := fun b h1 h2 h3 =>
    ⟨hnotY b h1, fun q => by obtain ⟨g, hg, e⟩ := hVL b q; exact h3 g hg e.symm, by omega, by omega, fun e => by have := (hnx b e).1; omega⟩
  refine ⟨nv, tb, ⟨hblk, ⟨fun q => (hY wb q).2.2 rfl, hnV wb (Or.inl hwl)⟩, hnm, fun b hb => ⟨hnotY b (by have := (hnx b hb).1; omega), by have := (hnx b hb).1; omega, (hnx b hb).2, hnV b (Or.inr (by have := (hnx b hb).1; omega))⟩, ⟨hnotY tb (by omega), by omega, hnV tb (Or.inr (by omega))⟩, ⟨1, by omega, ?_⟩, fun lo hlo => ?_, fun b hb => ?_, by simp, ?_, fun lo hlo => ?_, rfl⟩, ?_, htb⟩
  · have e : thrL [⟨m, lb, vb, sl⟩] = updV (fun _ => none) m.name (.pointer (some ⟨lb, 0, none⟩)) := by
      funext k
      unfold thrL updV
      by_cases hk : k = m.name
      · rw [if_pos hk]; simp [hk]
      · rw [if_neg hk, List.find?_cons_of_neg (by simpa using fun e => hk e.symm)]; rfl
    rw [e]
    exact hmap
  · rw [List.mem_singleton] at hlo
    subst hlo
    refine ⟨⟨ia, ga, pa, ba, ic, gc, pc, bc, (hk lb hlbl (by omega)).trans hbl, (hmb.md).mono (fun b hb hl => ⟨((hx.block b (by omega) (by omega)).trans (h7.block b (by omega))).trans (h6.block b hl), fun q => by have := hY b q; omega, hnV b (Or.inl hl), by omega, by omega, fun e => by have := (hnx b e).1; omega⟩)⟩, hst lb hlb hlbl (fun g hg => (hsl g hg).1), hst vb hvb hvbl (fun g hg => (hsl g hg).2), ⟨m.vars.length, hmp.on (hk vb hvbl (by omega))⟩, hfit⟩
  · obtain ⟨g, hg, e⟩ := hVL b hb
    have h1 := (hat g hg).1
    have h2 := hsvlt g hg
    have := hx.size
    exact ⟨by omega, hnotY b (by omega)⟩
  · intro lo hlo lo' hlo' g hg g' hg' e
    rw [List.mem_singleton] at hlo hlo'
    subst hlo
    subst hlo'
    exact ⟨rfl, hinj g hg g' hg' e⟩
  · rw [List.mem_singleton] at hlo
    subst hlo
    refine ⟨⟨m, Tp.fresh m⟩, by simp [Tp.partOf], rfl, fun g hg => ?_⟩
    simp only
    rw [fresh_vals hfit.vn hg]
    refine ⟨by simp, ?_, fun v hv => ?_⟩
    · have h1 := (hat g hg).1
      exact (hk _ (hsvlt g hg) (by show sl g.name ≠ wb; omega)).trans (hat g hg).2
    · rw [(List.mem_replicate.1 hv).2]; decide
  · have hxx : Ext wb w w7 := Ext.below (h6.trans (h7.mono hs6))
    exact hxx.trans hx
end Go.Proofs.YtfpeboeknjlkbaaGreatDoor
