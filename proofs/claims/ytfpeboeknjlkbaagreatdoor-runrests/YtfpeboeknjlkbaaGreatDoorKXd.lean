import Derived.Test.YtfpeboeknjlkbaaGreatDoorKXc
import Derived.KernelRfl
/- Chapter 4: a procedure is called from outside: Call. -/
namespace Go.Proofs.YtfpeboeknjlkbaaGreatDoor
open Go.RowKit Go.Maps
open Tp (Bs X S G Pr Pt Rs Rr Own)

def CallP (X : Nat → Prop) (w : World) (wb : Nat) (L : List Lo) (nv : Value) (tb : Nat) (r : Rr Int) (e : Ending) (w' : World) : Prop := ∃ oa oc, e = .returned (.tuple #[.agg #[.int .i64 ((Tp.endOf r).2.way : Int), .slice oa (Tp.endOf r).2.out.length oc], .int .i64 (nOf r), .nilIface]) ∧ WW X w' wb L (Tp.endOf r).1 nv tb ∧ IntsAt w' (Tp.endOf r).2.out oa ∧ (∀ v ∈ (Tp.endOf r).2.out, Tp.I64 v) ∧ (∀ b, b < w.heap.size → ¬ VLo L b → w'.heap[b]? = w.heap[b]?) ∧ w.heap.size ≤ w'.heap.size ∧ w'.os = w.os ∧ w'.tape = w.tape ∧ w'.output = w.output
structure Ext2 (a b : Nat) (w w' : World) : Prop where
  os : w'.os = w.os
  tape : w'.tape = w.tape
  output : w'.output = w.output
  size : w.heap.size ≤ w'.heap.size
  block : ∀ k, k < w.heap.size → k ≠ a → k ≠ b → w'.heap[k]? = w.heap[k]?
theorem Ext2.refl (a b : Nat) (w : World) : Ext2 a b w w := ⟨rfl, rfl, rfl, Nat.le_refl _, fun _ _ _ _ => rfl⟩
theorem Ext2.set {a b : Nat} {w w' : World} (h : Ext2 a b w w') {c : Nat} (hc : c = a ∨ c = b) (i : Nat) (v : Value) : Ext2 a b w (w'.setCell ⟨c, i, none⟩ v) := by
  have hx : Ext c w' (w'.setCell ⟨c, i, none⟩ v) := (Ext.refl _ _).set i _
  exact ⟨hx.os.trans h.os, hx.tape.trans h.tape, hx.output.trans h.output, Nat.le_trans h.size hx.size, fun k hk h1 h2 => (hx.block k (Nat.lt_of_lt_of_le hk h.size) (fun e => hc.elim (fun z => h1 (e.trans z)) (fun z => h2 (e.trans z)))).trans (h.block k hk h1 h2)⟩
theorem Ext2.drew {a b : Nat} {w w' : World} (h : Ext2 a b w w') : Ext2 a b w w'.drew := ⟨h.os, h.tape, h.output, h.size, h.block⟩
set_option maxRecDepth 100000 in
set_option maxHeartbeats 4000000 in
theorem call_ok {X : Nat → Prop} {w : World} {wb : Nat} {L : List Lo} {P : List Pt} {nv : Value} {tb fuel ac gas : Nat} {aa : Option Addr} {nm : Bs} {p : Pr} {vs : List Int} (h : WW X w wb L P nv tb) (hf : fuel ≤ 800000) {lo : Lo} (hlo : lo ∈ L) (hp : Tp.procIn lo.m nm = some p) (hsn : p.seen = true) (hvl : vs.length = p.params.length) (hvi : ∀ v ∈ vs, Tp.I64 v) (hia : IntsAt w vs aa) (hmn : lo.m.name.length ≤ 1000000) (hvn : vs.length ≤ 1000000)
    (hng : Tp.callP gas 0 lo.m.name p vs ⟨P, fuel, []⟩ ≠ .gas) :
    Calls Tryz.prog 31 #[.pointer (some ⟨wb, 0, none⟩), .string (bs lo.m.name), .string (bs nm), .slice aa vs.length ac, .int .i64 (fuel : Int)] w (CallP X w wb L nv tb (Tp.callP gas 0 lo.m.name p vs ⟨P, fuel, []⟩)) := by
  obtain ⟨W4, hW4⟩ : ∃ W4, W4 = (((w.alloc (.cells #[.string (bs nm)] 9)).alloc (.cells #[.slice aa vs.length ac] 41)).alloc (.cells #[.int .i64 0, .slice none 0 0] 43)).alloc (.cells #[.int .i64 0] 2) := ⟨_, rfl⟩
  obtain ⟨W5, hW5⟩ : ∃ W5, W5 = W4.alloc (.cells #[.pointer (some ⟨lo.lb, 0, none⟩)] 89) := ⟨_, rfl⟩
  have hs4 : W4.heap.size = w.heap.size + 4 := by rw [hW4]; simp
  have hb4 : Below w.heap.size w W4 := by rw [hW4]; exact ((((Below.refl _ _).alloc (Nat.le_refl _) _).alloc (by simp) _).alloc (by simp; omega) _).alloc (by simp; omega) _
  have hb45 : Below W4.heap.size W4 W5 := by rw [hW5]; exact (Below.refl _ _).alloc (Nat.le_refl _) _
  have hb5 : Below w.heap.size w W5 := hb4.trans (hb45.mono (by omega))
  have hs5 : W5.heap.size = w.heap.size + 5 := by rw [hW5]; simp [hs4]
  have q0 : W4.heap[w.heap.size]? = some (.cells #[.string (bs nm)] 9 (0, 0)) := by rw [hW4]; exact (((Below.heap_alloc _ _ _ (by simp; omega)).trans (Below.heap_alloc _ _ _ (by simp; omega))).trans (Below.heap_alloc _ _ _ (by simp))).trans (new_blk _ _)
  have q1 : W4.heap[w.heap.size + 1]? = some (.cells #[.slice aa vs.length ac] 41 (0, 0)) := by
    have := new_blk (w.alloc (.cells #[.string (bs nm)] 9)) (.cells #[.slice aa vs.length ac] 41)
    rw [hW4]; exact ((Below.heap_alloc _ _ _ (by simp)).trans (Below.heap_alloc _ _ _ (by simp))).trans (by simpa using this)
  have q2 : W4.heap[w.heap.size + 2]? = some (.cells #[.int .i64 0, .slice none 0 0] 43 (0, 0)) := by
    have := new_blk ((w.alloc (.cells #[.string (bs nm)] 9)).alloc (.cells #[.slice aa vs.length ac] 41)) (.cells #[.int .i64 0, .slice none 0 0] 43)
    rw [hW4]; exact (Below.heap_alloc _ _ _ (by simp)).trans (by simpa using this)
  have q3 : W4.heap[w.heap.size + 3]? = some (.cells #[.int .i64 0] 2 (0, 0)) := by
    have := new_blk (((w.alloc (.cells #[.string (bs nm)] 9)).alloc (.cells #[.slice aa vs.length ac] 41)).alloc (.cells #[.int .i64 0, .slice none 0 0] 43)) (.cells #[.int .i64 0] 2)
    rw [hW4]; simpa using this
  have q4 : W5.heap[w.heap.size + 4]? = some (.cells #[.pointer (some ⟨lo.lb, 0, none⟩)] 89 (0, 0)) := by
    have := new_blk W4 (.cells #[.pointer (some ⟨lo.lb, 0, none⟩)] 89)
    rw [hs4] at this
    rw [hW5]; exact this
  have p0 := (hb45.block _ (lt_blk q0)).trans q0
  have p1 := (hb45.block _ (lt_blk q1)).trans q1
  have p2 := (hb45.block _ (lt_blk q2)).trans q2
  have p3 := (hb45.block _ (lt_blk q3)).trans q3
  have hwl := lt_blk h.blk
  have k1 : W4.cell? ⟨wb, 1, none⟩ = some (.map (some tb)) := (cell_blk ((hb4.block _ hwl).trans h.blk)).trans rfl
  have hlk : (Instr.lookup 38 (.map (some tb)) (.string (bs lo.m.name)) false).run Tryz.prog W4 = .ok (.pointer (some ⟨lo.lb, 0, none⟩)) W4 := by
    obtain ⟨n, _, hm⟩ := h.th
    have h1 := (hm.on (hb4.block _ hm.lt)).look (t := 38) Tryz.underlying38 (zeroLo _) lo.m.name hmn false
    rw [h1]
    have : thrL L lo.m.name = some (.pointer (some ⟨lo.lb, 0, none⟩)) := by
      unfold thrL
      rw [(Tp.find_key (key := fun lo : Lo => lo.m.name) h.nd lo).2 ⟨hlo, rfl⟩]
      rfl
    simp [this]
  have hww := h.more hb5
  obtain ⟨⟨ia, ga, pa, ba, ic, gc, pc, bc, m1, m2⟩, _, _, _, hfit⟩ := hww.lo lo hlo
  have HPR := Lib.hid (rprocD m1 m2 (by have := hfit.wm.pc; omega) nm)
  obtain ⟨r, hr⟩ : ∃ r, r = Tp.callP gas 0 lo.m.name p vs ⟨P, fuel, []⟩ := ⟨_, rfl⟩
  have HPP : Hid (∀ v, ProcP (cwF W5) lo.m nm v → ∃ pb o ya yc, v = some ⟨pb, o, none⟩ ∧ W5.cell? ⟨pb, o + 2, none⟩ = some (.bool true) ∧ W5.cell? ⟨pb, o + 3, none⟩ = some (.slice ya vs.length yc)) := by
    intro v hv
    unfold ProcP at hv
    rw [hp] at hv
    obtain ⟨pb, o, e, q⟩ := hv
    obtain ⟨pv, vv, bv, bcs, r1, r2, r3, r4, _⟩ := q.r
    obtain ⟨ya, yc, rfl⟩ := r4.shape
    exact ⟨pb, o, ya, yc, e, by have := q.sn; rw [hsn] at this; exact this, by rw [hvl]; exact r1⟩
  have HGO : Hid (∀ w6, Below W5.heap.size W5 w6 → Calls Tryz.prog 43 #[.pointer (some ⟨wb, 0, none⟩), .int .i64 (fuel : Int), .func (.func 62) #[] #[.pointer (some ⟨w.heap.size + 4, 0, none⟩), .pointer (some ⟨w.heap.size, 0, none⟩), .pointer (some ⟨w.heap.size + 1, 0, none⟩), .pointer (some ⟨w.heap.size + 3, 0, none⟩)]] w6 fun e w9 => ∃ oa oc, e = .returned (.agg #[.int .i64 ((Tp.endOf r).2.way : Int), .slice oa (Tp.endOf r).2.out.length oc]) ∧ w9.heap[w.heap.size + 2]? = some (.cells #[.int .i64 0, .slice none 0 0] 43 (0, 0)) ∧ w9.heap[w.heap.size + 3]? = some (.cells #[.int .i64 (nOf r)] 2 (0, 0)) ∧ ∀ w10, w10.os = w9.os → w10.tape = w9.tape → w10.output = w9.output → w9.heap.size ≤ w10.heap.size → (∀ b, b < w9.heap.size → b ≠ w.heap.size + 2 → b ≠ w.heap.size + 3 → w10.heap[b]? = w9.heap[b]?) → CallP X w wb L nv tb r (.returned (.tuple #[.agg #[.int .i64 ((Tp.endOf r).2.way : Int), .slice oa (Tp.endOf r).2.out.length oc], .int .i64 (nOf r), .nilIface])) w10) := by
    intro w6 hb6
    have hbw : Below w.heap.size w w6 := hb5.trans (hb6.mono (by omega))
    have hs6 := hb6.size
    have hw6 := h.more hbw
    have t0 := (hb6.block _ (lt_blk p0)).trans p0
    have t1 := (hb6.block _ (lt_blk p1)).trans p1
    have t2 := (hb6.block _ (lt_blk p2)).trans p2
    have t3 := (hb6.block _ (lt_blk p3)).trans p3
    have t4 := (hb6.block _ (lt_blk q4)).trans q4
    have hX : (fun b => X b ∨ w.heap.size ≤ b) (w.heap.size + 3) := Or.inr (by omega)
    have hl1 := call1_post (gas := gas) hw6 hf hlo hp hvl hvi (hia.on hbw) ((cell_blk t4).trans rfl) ((cell_blk t0).trans rfl) ((cell_blk t1).trans rfl) t3 hX hng
    rw [← hr] at hl1
    have hgo := goes_post (caps := #[.pointer (some ⟨w.heap.size + 4, 0, none⟩), .pointer (some ⟨w.heap.size, 0, none⟩), .pointer (some ⟨w.heap.size + 1, 0, none⟩), .pointer (some ⟨w.heap.size + 3, 0, none⟩)]) cf_call ((cell_blk hw6.blk).trans rfl) hl1
    refine hgo.mono ?_
    intro e w9 hG
    obtain ⟨oa, oc, he, hgn⟩ := gone2 hw6 hf hX (by omega) hG
    have hnv : ∀ b, w.heap.size ≤ b → ¬ VLo L b := fun b hb q => (hw6.sv _ q).2 (Or.inr hb)
    have h9 := hgn.size
    refine ⟨oa, oc, he, (hgn.keep _ (by omega) (by omega) (hnv _ (by omega))).trans t2, hgn.nn, fun w10 o1 o2 o3 o4 o5 => ?_⟩
    refine ⟨oa, oc, rfl, (hgn.ww.keep (fun b hb hX' hv => o5 b hb (fun e => hX' (Or.inr (by omega))) (fun e => hX' (Or.inr (by omega)))) o4 (fun lo' hl => ?_) hgn.ww.mw).less (fun b hb => Or.inl hb), ⟨fun i hi => ?_⟩, hgn.oi, fun b hb hv => ?_, by omega, (o1.trans hgn.os).trans hbw.os, (o2.trans hgn.tape).trans hbw.tape, (o3.trans hgn.output).trans hbw.output⟩
    · obtain ⟨p', p1', p2', p3'⟩ := hgn.ww.vals lo' hl
      exact ⟨p', p1', p2', fun g hg => ⟨(p3' g hg).1, (o5 _ (lt_blk (p3' g hg).2.1) (fun e => (hgn.ww.sv _ ⟨lo', hl, g, hg, rfl⟩).2 (Or.inr (by omega))) (fun e => (hgn.ww.sv _ ⟨lo', hl, g, hg, rfl⟩).2 (Or.inr (by omega)))).trans (p3' g hg).2.1, (p3' g hg).2.2⟩⟩
    · obtain ⟨b, o, u1, u2, u3⟩ := hgn.it.c i hi
      have hfar : w6.heap.size ≤ b := hgn.far _ u1
      exact ⟨b, o, u1, by omega, (World.cell?_of_block (w := w9) (o5 b u2 (by omega) (by omega))).trans u3⟩
    · exact ((o5 b (by omega) (by omega) (by omega)).trans (hgn.keep b (by omega) (by omega) hv)).trans (hbw.block b hb)
  have k5 : W5.cell? ⟨w.heap.size + 4, 0, none⟩ = some (.pointer (some ⟨lo.lb, 0, none⟩)) := (cell_blk q4).trans rfl
  have k6 : W5.cell? ⟨w.heap.size, 0, none⟩ = some (.string (bs nm)) := (cell_blk p0).trans rfl
  have HK1 := Lib.hid p1
  have HWB : Hid (W5.heap[wb]? = some (.cells #[nv, .map (some tb)] 40 (0, 0))) := (hb5.block _ hwl).trans h.blk
  rw [← hr]
  clear h hlo hp hsn hvi hia hng q0 q1 q2 q3 q4 p0 p1 p2 p3 hww m1 m2 hfit hb4 hb45 hb5 hr
  have hvn' : (vs.length : Int) ≤ 1000000 := by omega
  clear hvl
  generalize vs.length = vn at *
  generalize bs lo.m.name = lmn at *
  generalize bs nm = pnm at *
  generalize (Tp.endOf r).2.out.length = on at *
  go_enter Tryz.func31, Tryz.ntmps31
  go_upto_region 1 with fail
  rw [← hW4]
  clear hW4
  go_upto_region 2 with fail
  rw [← hW5, show w.heap.size + 1 + 1 + 1 = w.heap.size + 3 from rfl, show w.heap.size + 1 + 1 = w.heap.size + 2 from rfl]
  clear hW5 hlk k1
  go_wp2_with fail
  refine HPR.out.mono ?_
  rintro e w6 ⟨v, rfl, hv, hb6⟩
  obtain ⟨pb, o, ya, yc, rfl, c2, c3⟩ := HPP.out v hv
  have c2' : w6.cell? ⟨pb, o + 2, none⟩ = some (.bool true) := (hb6.cell (p := ⟨pb, o + 2, none⟩) (lt_of_cell c2)).trans c2
  have c3' : w6.cell? ⟨pb, o + 3, none⟩ = some (.slice ya vn yc) := (hb6.cell (p := ⟨pb, o + 3, none⟩) (lt_of_cell c3)).trans c3
  have k8 : w6.cell? ⟨w.heap.size + 1, 0, none⟩ = some (.slice aa vn ac) := (cell_blk ((hb6.block _ (lt_blk HK1.out)).trans HK1.out)).trans rfl
  have hpl : pb < w6.heap.size := lt_of_cell c2'
  have hwl6 : wb < w6.heap.size := lt_blk ((hb6.block _ (lt_blk HWB.out)).trans HWB.out)
  have HB6 := Lib.hid hb6
  clear hv hb6 c2 c3 k5 k6 HPR HPP HK1 HWB
  go_upto_region 7 with fail
  go_quiet (fail)
  obtain ⟨w7, hw7⟩ : ∃ w7, w7 = w6.drewN nq := ⟨_, rfl⟩
  have HB7 : Hid (Below W5.heap.size W5 w7) := by rw [hw7]; exact below_drewN HB6.out _
  have hwl7 : wb < w7.heap.size := by rw [hw7]; exact hwl6
  rw [← hw7]
  clear hw7 c2' c3' k8
  have HG := Lib.hid (HGO.out w7 HB7.out)
  go_wp2_with fail
  refine HG.out.mono ?_
  rintro e w9 ⟨oa, oc, rfl, hE9, hN9, hfin⟩
  have hset := set_blk 1 (.slice oa on oc) (set_blk 0 (.int .i64 ((Tp.endOf r).2.way : Int)) hE9)
  obtain ⟨w10, hw10⟩ : ∃ w10, w10 = (w9.setCell ⟨w.heap.size + 2, 0, none⟩ (.int .i64 ((Tp.endOf r).2.way : Int))).setCell ⟨w.heap.size + 2, 1, none⟩ (.slice oa on oc) := ⟨_, rfl⟩
  have hE10 : w10.heap[w.heap.size + 2]? = some (.cells #[.int .i64 ((Tp.endOf r).2.way : Int), .slice oa on oc] 43 (0, 0)) := by rw [hw10]; exact hset
  have hX10 : Ext2 (w.heap.size + 2) (w.heap.size + 3) w9 w10 := by rw [hw10]; exact ((Ext2.refl _ _ _).set (Or.inl rfl) 0 _).set (Or.inl rfl) 1 _
  have hxx : Ext (w.heap.size + 2) w9 w10 := by rw [hw10]; exact ((Ext.refl _ _).set 0 _).set 1 _
  have hN10 : w10.heap[w.heap.size + 3]? = some (.cells #[.int .i64 (nOf r)] 2 (0, 0)) := (hxx.block _ (lt_blk hN9) (by omega)).trans hN9
  have e0 : w9.cell? ⟨w.heap.size + 2, 0, none⟩ = some (.int .i64 0) := (cell_blk hE9).trans rfl
  have e1' : w9.cell? ⟨w.heap.size + 2, 1, none⟩ = some (.slice none 0 0) := (cell_blk hE9).trans rfl
  have ez : ∀ j, w9.frozen? ⟨w.heap.size + 2, j, none⟩ = false := fun j => frozen_blk hE9
  have hel := lt_blk hE9
  have HX10 := Lib.hid hX10
  have HFIN := Lib.hid hfin
  have f0 : w10.cell? ⟨w.heap.size + 2, 0, none⟩ = some (.int .i64 ((Tp.endOf r).2.way : Int)) := (cell_blk hE10).trans rfl
  have f1 : w10.cell? ⟨w.heap.size + 2, 1, none⟩ = some (.slice oa on oc) := (cell_blk hE10).trans rfl
  have fz : ∀ j, w10.frozen? ⟨w.heap.size + 2, j, none⟩ = false := fun j => frozen_blk hE10
  have n0 : w10.cell? ⟨w.heap.size + 3, 0, none⟩ = some (.int .i64 (nOf r)) := (cell_blk hN10).trans rfl
  have nz : w10.frozen? ⟨w.heap.size + 3, 0, none⟩ = false := frozen_blk hN10
  have hl2 := lt_blk hE10
  have hl3 := lt_blk hN10
  have HE10 := Lib.hid hE10
  have HN10 := Lib.hid hN10
  clear hE9 hN9 hfin hset hE10 hN10 hX10 hxx HG HGO HB6 HB7
  generalize (Tp.endOf r).2.way = wy at *
  generalize hnn : nOf r = nn at *
  go_upto_region 10 with fail
  rw [← hw10]
  clear hw10 e0 e1' ez
  go_region
  obtain ⟨w11, hw11⟩ : ∃ w11, w11 = (((w10.setCell ⟨w.heap.size + 2, 0, none⟩ (.int .i64 (wy : Int))).setCell ⟨w.heap.size + 2, 1, none⟩ (.slice oa on oc)).setCell ⟨w.heap.size + 3, 0, none⟩ (.int .i64 nn)).drew := ⟨_, rfl⟩
  have hX11 : Ext2 (w.heap.size + 2) (w.heap.size + 3) w10 w11 := by rw [hw11]; exact ((((Ext2.refl _ _ _).set (Or.inl rfl) 0 _).set (Or.inl rfl) 1 _).set (Or.inr rfl) 0 _).drew
  have hEb : w11.heap[w.heap.size + 2]? = some (.cells #[.int .i64 (wy : Int), .slice oa on oc] 43 (0, 0)) := by
    rw [hw11]
    have hx : Ext (w.heap.size + 3) ((w10.setCell ⟨w.heap.size + 2, 0, none⟩ (.int .i64 (wy : Int))).setCell ⟨w.heap.size + 2, 1, none⟩ (.slice oa on oc)) (((w10.setCell ⟨w.heap.size + 2, 0, none⟩ (.int .i64 (wy : Int))).setCell ⟨w.heap.size + 2, 1, none⟩ (.slice oa on oc)).setCell ⟨w.heap.size + 3, 0, none⟩ (.int .i64 nn)) := (Ext.refl _ _).set 0 _
    have hs := set_blk 1 (.slice oa on oc) (set_blk 0 (.int .i64 (wy : Int)) HE10.out)
    exact (hx.block _ (lt_blk hs) (by omega)).trans hs
  have hNb : w11.heap[w.heap.size + 3]? = some (.cells #[.int .i64 nn] 2 (0, 0)) := by
    rw [hw11]
    have hx : Ext (w.heap.size + 2) w10 ((w10.setCell ⟨w.heap.size + 2, 0, none⟩ (.int .i64 (wy : Int))).setCell ⟨w.heap.size + 2, 1, none⟩ (.slice oa on oc)) := ((Ext.refl _ _).set 0 _).set 1 _
    exact set_blk 0 (.int .i64 nn) ((hx.block _ hl3 (by omega)).trans HN10.out)
  have g0 : w11.cell? ⟨w.heap.size + 2, 0, none⟩ = some (.int .i64 (wy : Int)) := (cell_blk hEb).trans rfl
  have g1 : w11.cell? ⟨w.heap.size + 2, 1, none⟩ = some (.slice oa on oc) := (cell_blk hEb).trans rfl
  have g2 : w11.cell? ⟨w.heap.size + 3, 0, none⟩ = some (.int .i64 nn) := (cell_blk hNb).trans rfl
  have HR := Lib.hid (HFIN.out w11 (hX11.os.trans HX10.out.os) (hX11.tape.trans HX10.out.tape) (hX11.output.trans HX10.out.output) (Nat.le_trans HX10.out.size hX11.size) (fun b h1 h2 h3 => (hX11.block b (Nat.lt_of_lt_of_le h1 HX10.out.size) h2 h3).trans (HX10.out.block b h1 h2 h3)))
  rw [← hw11]
  clear hw11 hX11 hEb hNb f0 f1 fz n0 nz
  go_wp2_with fail
  exact bodyPost_ret (v := .tuple #[.agg #[.int .i64 (wy : Int), .slice oa on oc], .int .i64 nn, .nilIface]) (by simp [results, Tryz.results31, go_sem, g0, g1, g2]) rfl HR.out
end Go.Proofs.YtfpeboeknjlkbaaGreatDoor
/- Two lists of one number are the same. -/
namespace Go.Proofs.YtfpeboeknjlkbaaGreatDoor
open Go.RowKit Go.Maps
open Tp (Bs X S G Pr Pt Rs Rr Own)

set_option maxRecDepth 100000 in
theorem eq_one {w : World} {b1 o1 b2 o2 c1 c2 : Nat} {x : Int} (k1 : w.cell? ⟨b1, o1, none⟩ = some (.int .i64 x)) (k2 : w.cell? ⟨b2, o2, none⟩ = some (.int .i64 x)) :
    Calls Tryz.prog 18 #[.slice (some ⟨b1, o1, none⟩) 1 c1, .slice (some ⟨b2, o2, none⟩) 1 c2] w fun e w' => e = .returned (.bool true) ∧ Below w.heap.size w w' := by
  have hl1 : b1 < w.heap.size := lt_of_cell k1
  have hl2 : b2 < w.heap.size := lt_of_cell k2
  go_enter Tryz.func18, Tryz.ntmps18
  go_wp2_with fail
  refine wp_loop_rounds 2 ?_
  rw [rounds_succ]
  go_upto_region 6 with fail
  go_quiet (fail)
  obtain ⟨w1, hw1⟩ : ∃ w1, w1 = w.drewN nq := ⟨_, rfl⟩
  have HB : Hid (Below w.heap.size w w1) := by rw [hw1]; exact below_drewN (Below.refl _ _) _
  rw [← hw1]
  clear hw1
  go_wp2_with fail
  rw [rounds_succ]
  go_wp2_with fail
  go_ret
  exact ⟨rfl, HB.out⟩
end Go.Proofs.YtfpeboeknjlkbaaGreatDoor
/- A closed text of chapter 4, and how it goes. No program stands in it. -/
namespace Tp
def txtR : Bs := [109, 111, 100, 117, 108, 101, 32, 109, 59, 32, 118, 97, 114, 32, 120, 58, 32, 105, 110, 116, 59, 32, 112, 114, 111, 99, 32, 102, 42, 40, 97, 41, 59, 32, 98, 101, 103, 105, 110, 32, 120, 32, 58, 61, 32, 120, 32, 43, 32, 97, 59, 32, 114, 101, 116, 117, 114, 110, 32, 120, 32, 42, 32, 50, 59, 32, 101, 110, 100, 59, 32, 98, 101, 103, 105, 110, 32, 119, 114, 105, 116, 101, 32, 102, 40, 51, 41, 59, 32, 101, 110, 100, 46]
def modR : M := ⟨[109], [], [⟨[120], 14, 0, false⟩], [⟨[102], 22, true, [[97]], [], [⟨1, 40, [120], [], [⟨5, 45, 0, [], [], [43], [⟨2, 45, 0, [], [120], [], [], [], []⟩], [⟨2, 49, 0, [], [97], [], [], [], []⟩], []⟩], [], []⟩, ⟨4, 52, [], [], [⟨5, 59, 0, [], [], [42], [⟨2, 59, 0, [], [120], [], [], [], []⟩], [⟨1, 63, 2, [], [], [], [], [], []⟩], []⟩], [], []⟩]⟩], [⟨5, 77, [], [], [⟨6, 83, 0, [], [102], [], [], [], [⟨1, 85, 3, [], [], [], [], [], []⟩]⟩], [], []⟩]⟩
theorem parseR : parse txtR = .ok modR := by kernel_rfl
theorem checkR : check modR (fun _ => none) = none := by simp [check, imps, tw, checkP, rs, rx, judge, stand, kindOf, ownOf, modR]
def fR : Pr := modR.procs.headD ⟨[], 0, false, [], [], []⟩
def goesR : Bool := match goS 60 0 [109] (fun _ => none) modR.body ⟨[⟨modR, fresh modR⟩], 100, []⟩ with
  | .ok r s1 => r.2.isNone && s1.out == [6] && (match callP 60 0 [109] fR [4] ⟨s1.w, 100, []⟩ with
    | .ok v s2 => v == 14 && s2.out == []
    | _ => false)
  | _ => false
theorem goesR_is : goesR = true := by kernel_rfl
theorem ranR (ofF : M → List Sy) : (loadW ofF [] modR 100).err = none ∧ (loadW ofF [] modR 100).e = ⟨1, [6]⟩ ∧ (callW (loadW ofF [] modR 100).w [109] [102] [4] 100).err = none ∧ (callW (loadW ofF [] modR 100).w [109] [102] [4] 100).e.way = 1 ∧ (callW (loadW ofF [] modR 100).w [109] [102] [4] 100).n = 14 := by
  have h := goesR_is
  unfold goesR at h
  have hs : seenW ofF [] = fun _ => none := by funext k; rfl
  cases hg : goS 60 0 [109] (fun _ => none) modR.body ⟨[⟨modR, fresh modR⟩], 100, []⟩ with
  | stop way s1 => rw [hg] at h; simp at h
  | gas => rw [hg] at h; simp at h
  | ok r s1 =>
    rw [hg] at h
    simp only [Bool.and_eq_true] at h
    obtain ⟨⟨h1, h2⟩, h3⟩ := h
    have e1 : goS (gasOf [⟨modR, fresh modR⟩] modR.body 100) 0 [109] (fun _ => none) modR.body ⟨[⟨modR, fresh modR⟩], 100, []⟩ = .ok r s1 := by
      rw [← hg]; exact goS_gas goS_enough (by rw [hg]; simp)
    have el : loadW ofF [] modR 100 = ⟨s1.w, ⟨1, s1.out⟩, 0, none⟩ := by
      unfold loadW
      rw [if_neg (by simp [partOf]), hs, checkR]
      simp only
      rw [if_neg (by simp)]
      show (Ans.mk (endOf (goS (gasOf [⟨modR, fresh modR⟩] modR.body 100) 0 [109] (fun _ => none) modR.body ⟨[⟨modR, fresh modR⟩], 100, []⟩)).1 (endOf (goS (gasOf [⟨modR, fresh modR⟩] modR.body 100) 0 [109] (fun _ => none) modR.body ⟨[⟨modR, fresh modR⟩], 100, []⟩)).2 0 none) = _
      rw [e1]
      rfl
    have h2' : s1.out = [6] := by simpa using h2
    have hms : ms s1.w = [modR] := by
      have := endOf_ms (n := 60) (k := 0) (md := [109]) (own := fun _ => none) (l := modR.body) (s := ⟨[⟨modR, fresh modR⟩], 100, []⟩) (by rw [hg]; simp)
      rw [hg] at this
      exact this
    have hp : ∃ p, partOf s1.w [109] = some p ∧ p.m = modR := by
      have := part_partM s1.w [109]
      rw [hms] at this
      cases hq : partOf s1.w [109] with
      | none => rw [hq] at this; simp [partM, modR] at this
      | some p =>
        rw [hq] at this
        refine ⟨p, rfl, ?_⟩
        have e : partM [modR] [109] = some modR := by simp [partM, modR]
        rw [e] at this
        simpa using this
    obtain ⟨p, p1, p2⟩ := hp
    cases hc : callP 60 0 [109] fR [4] ⟨s1.w, 100, []⟩ with
    | stop way s2 => rw [hc] at h3; simp at h3
    | gas => rw [hc] at h3; simp at h3
    | ok v s2 =>
      rw [hc] at h3
      simp only [Bool.and_eq_true] at h3
      have hv : v = 14 := by simpa using h3.1
      have e2 : callP (nd (bodySz s1.w) 100 0) 0 [109] fR [4] ⟨s1.w, 100, []⟩ = .ok v s2 := by
        have hn : callP (nd (bodySz s1.w) 100 0) 0 [109] fR [4] ⟨s1.w, 100, []⟩ ≠ .gas := callP_enough (by
          have h1 := bodySz_bd s1.w 100 [] p (part_name p1).1 fR (by rw [p2]; simp [fR, modR])
          exact h1)
        have a1 := callP_more (d := 60) hn
        have a2 := callP_more (d := nd (bodySz s1.w) 100 0) (n := 60) (k := 0) (md := [109]) (p := fR) (vs := [4]) (s := ⟨s1.w, 100, []⟩) (by rw [hc]; simp)
        rw [Nat.add_comm] at a2
        rw [← a1, a2, hc]
      have ec : callW s1.w [109] [102] [4] 100 = ⟨s2.w, ⟨1, s2.out⟩, 14, none⟩ := by
        unfold callW
        rw [p1]
        simp only [Option.bind_some]
        rw [p2]
        show (match (some fR : Option Pr) with
          | none => (⟨s1.w, no, 0, some (7, none)⟩ : Ans)
          | some q => if q.params.length ≠ [(4 : Int)].length then ⟨s1.w, no, 0, some (2, none)⟩
            else
              let r := callP (nd (bodySz s1.w) 100 0) 0 [109] q [4] ⟨s1.w, 100, []⟩
              ⟨(endOf r).1, (endOf r).2, (match r with | .ok v _ => v | _ => 0), none⟩) = _
        simp only
        rw [if_neg (by simp [fR, modR]), e2]
        simp [endOf, hv]
      rw [el]
      exact ⟨rfl, by rw [h2'], by rw [ec], by rw [ec], by rw [ec]⟩
end Tp
/- A fact: how something ends: ran. -/
namespace Go.Proofs.YtfpeboeknjlkbaaGreatDoor
open Go.RowKit Go.Maps
open Tp (Bs X S G Pr Pt Rs Rr Own)

/- the call, of the plain world that is there -/
theorem callR {P : List Pt} {p : Pt} (hp : Tp.partOf P [109] = some p) (hm : p.m = Tp.modR) : Tp.callP (Tp.nd (Tp.bodySz P) 100 0) 0 [109] Tp.fR [4] ⟨P, 100, []⟩ ≠ .gas ∧ (Tp.callW P [109] [102] [4] 100).e = (Tp.endOf (Tp.callP (Tp.nd (Tp.bodySz P) 100 0) 0 [109] Tp.fR [4] ⟨P, 100, []⟩)).2 ∧ (Tp.callW P [109] [102] [4] 100).n = nOf (Tp.callP (Tp.nd (Tp.bodySz P) 100 0) 0 [109] Tp.fR [4] ⟨P, 100, []⟩) := by
  have hf : ((Tp.partOf P [109]).bind fun p => p.m.procs.find? fun q => q.name == [102] && q.seen) = some Tp.fR := by rw [hp, Option.bind_some, hm]; rfl
  have hm1 : p ∈ P := List.mem_of_find?_eq_some hp
  have hm2 : Tp.fR ∈ p.m.procs := by rw [hm]; exact List.mem_singleton.2 rfl
  have hsz : SizeOf.sizeOf Tp.fR.body ≤ Tp.bodySz P := Tp.bodySz_bd P 0 [] p hm1 _ hm2
  refine ⟨Tp.callP_enough hsz, ?_, ?_⟩
  · unfold Tp.callW
    rw [hf]
    rfl
  · unfold Tp.callW
    rw [hf]
    show (if _ then _ else _ : Tp.Ans).n = _
    rw [if_neg (by decide)]
    simp only
    cases Tp.callP (Tp.nd (Tp.bodySz P) 100 0) 0 [109] Tp.fR [4] ⟨P, 100, []⟩ <;> rfl
set_option maxRecDepth 100000 in
set_option maxHeartbeats 4000000 in
theorem ran_post {w : World} (hmk : Mk w) (hlv : Lv w) : Calls Tryz.prog 9 #[] w fun e w' => e = .returned (.bool true) ∧ Below w.heap.size w w' := by
  have hp := parse_post w Tp.txtR (by decide) hmk hlv
  have HP : Hid (Calls Tryz.prog 12 #[.string ⟨#[109, 111, 100, 117, 108, 101, 32, 109, 59, 32, 118, 97, 114, 32, 120, 58, 32, 105, 110, 116, 59, 32, 112, 114, 111, 99, 32, 102, 42, 40, 97, 41, 59, 32, 98, 101, 103, 105, 110, 32, 120, 32, 58, 61, 32, 120, 32, 43, 32, 97, 59, 32, 114, 101, 116, 117, 114, 110, 32, 120, 32, 42, 32, 50, 59, 32, 101, 110, 100, 59, 32, 98, 101, 103, 105, 110, 32, 119, 114, 105, 116, 101, 32, 102, 40, 51, 41, 59, 32, 101, 110, 100, 46]⟩] w fun e w' => Below w.heap.size w w' ∧ ∃ v, e = .returned (.tuple #[v, .nilIface]) ∧ VM w.heap.size Tp.modR v w') := by
    refine hp.mono ?_
    rintro e w' ⟨h1, h2⟩
    unfold ParseP at h2
    rw [Tp.parseR] at h2
    exact ⟨h1, h2⟩
  have hwm := (Tp.parse_wm Tp.parseR).1
  have HWM := Lib.hid hwm
  clear hp hmk hlv hwm
  go_enter Tryz.func9, Tryz.ntmps9
  go_wp2_with fail
  refine HP.out.mono ?_
  rintro e w1 ⟨h1, v1, rfl, hvm⟩
  obtain ⟨ia, ga, pa, ba, ic, gc, pc, bc, rfl, hmb⟩ := hvm.mb
  have e0 : mcells (bs Tp.modR.name) (.slice ia Tp.modR.imports.length ic) (.slice ga Tp.modR.vars.length gc) (.slice pa Tp.modR.procs.length pc) (.slice ba Tp.modR.body.length bc) = #[.string ⟨#[109]⟩, .slice ia 0 ic, .slice ga 1 gc, .slice pa 1 pc, .slice ba 1 bc] := rfl
  obtain ⟨w3, hw3⟩ : ∃ w3, w3 = (w1.alloc (.cells #[.string ⟨#[109]⟩, .slice ia 0 ic, .slice ga 1 gc, .slice pa 1 pc, .slice ba 1 bc] 32)).alloc (.cells #[.slice none 0 0, .map none] 40) := ⟨_, rfl⟩
  have hs3 : w3.heap.size = w1.heap.size + 2 := by rw [hw3]; simp
  have hb3 : Below w1.heap.size w1 w3 := by rw [hw3]; exact ((Below.refl _ _).alloc (Nat.le_refl _) _).alloc (by simp) _
  have hbw : w3.heap[w1.heap.size + 1]? = some (.cells #[.slice none 0 0, .map none] 40 (0, 0)) := by
    have := new_blk (w1.alloc (.cells #[.string ⟨#[109]⟩, .slice ia 0 ic, .slice ga 1 gc, .slice pa 1 pc, .slice ba 1 bc] 32)) (.cells #[.slice none 0 0, .map none] 40)
    rw [hw3]; simpa using this
  have hbm : w3.heap[w1.heap.size]? = some (.cells #[.string ⟨#[109]⟩, .slice ia 0 ic, .slice ga 1 gc, .slice pa 1 pc, .slice ba 1 bc] 32 (0, 0)) := by
    rw [hw3]; exact (Below.heap_alloc _ _ _ (by simp)).trans (new_blk _ _)
  have hs1 := h1.size
  have HCALL : Hid (∀ (w4 : World) (L : List Lo) (nv : Value) (tb : Nat), Ext (w1.heap.size + 1) w3 w4 → WW (fun b => b = w1.heap.size) w4 (w1.heap.size + 1) L (Tp.loadW of0 [] Tp.modR 100).w nv tb → (∀ b, VLo L b → w3.heap.size ≤ b) → ∀ (w8 : World) (ab : Nat), Below w4.heap.size w4 w8 → w8.cell? ⟨ab, 0, none⟩ = some (.int .i64 4) → Calls Tryz.prog 31 #[.pointer (some ⟨w1.heap.size + 1, 0, none⟩), .string ⟨#[109]⟩, .string ⟨#[102]⟩, .slice (some ⟨ab, 0, none⟩) 1 1, .int .i64 100] w8 fun e w9 => ∃ oa on oc, e = .returned (.tuple #[.agg #[.int .i64 1, .slice oa on oc], .int .i64 14, .nilIface]) ∧ Below w.heap.size w w9 ∧ ∀ b, w4.heap.size ≤ b → b < w8.heap.size → w9.heap[b]? = w8.heap[b]?) := by
    intro w4 L nv tb hx hww hvl w8 ab hb8 hab
    have hR := Tp.ranR of0
    have hw8 := hww.more hb8
    have hms : L.map (fun lo => lo.m) = [Tp.modR] := by
      rw [← hww.mw]
      have := loadW_ok (fuel := 100) Tp.checkR
      rw [this]
      exact Tp.endOf_ms Tp.goS_enough
    obtain ⟨lo, hL⟩ : ∃ lo, L = [lo] := by
      cases L with
      | nil => simp at hms
      | cons x t => cases t with
        | nil => exact ⟨x, rfl⟩
        | cons y t => simp at hms
    have hlo : lo ∈ L := by rw [hL]; exact List.mem_singleton.2 rfl
    have hlm : lo.m = Tp.modR := by rw [hL] at hms; simpa using hms
    have hln : lo.m.name = [109] := by rw [hlm]; rfl
    obtain ⟨p, p1, p2, _⟩ := hww.vals lo hlo
    rw [hln] at p1
    have hcr := callR p1 (p2.trans hlm)
    have hia : IntsAt w8 [4] (some ⟨ab, 0, none⟩) := ⟨fun i hi => by
      have : i = 0 := by simp at hi; omega
      subst this
      exact ⟨ab, 0, rfl, lt_of_cell hab, hab⟩⟩
    have hc := call_ok (nm := [102]) (vs := [4]) (ac := 1) (p := Tp.fR) (gas := Tp.nd (Tp.bodySz (Tp.loadW of0 [] Tp.modR 100).w) 100 0) hw8 (fuel := 100) (by omega) hlo (by rw [hlm]; rfl) rfl rfl (fun v hv => by rw [List.mem_singleton] at hv; subst hv; unfold Tp.I64; omega) hia (by rw [hln]; decide) (by decide) (by rw [hln]; exact hcr.1)
    rw [hln] at hc
    refine hc.mono ?_
    rintro e w9 ⟨oa, oc, he, _, _, _, hk, hsz, ho, ht, hou⟩
    have hway : (Tp.endOf (Tp.callP (Tp.nd (Tp.bodySz (Tp.loadW of0 [] Tp.modR 100).w) 100 0) 0 [109] Tp.fR [4] ⟨(Tp.loadW of0 [] Tp.modR 100).w, 100, []⟩)).2.way = 1 := by rw [← hcr.2.1]; exact hR.2.2.2.1
    have hn : nOf (Tp.callP (Tp.nd (Tp.bodySz (Tp.loadW of0 [] Tp.modR 100).w) 100 0) 0 [109] Tp.fR [4] ⟨(Tp.loadW of0 [] Tp.modR 100).w, 100, []⟩) = 14 := by rw [← hcr.2.2]; exact hR.2.2.2.2
    rw [hway, hn] at he
    have hs4 := hx.size
    have hs8 := hb8.size
    refine ⟨oa, _, oc, he, ⟨((ho.trans hb8.os).trans hx.os).trans (hb3.os.trans h1.os), ((ht.trans hb8.tape).trans hx.tape).trans (hb3.tape.trans h1.tape), ((hou.trans hb8.output).trans hx.output).trans (hb3.output.trans h1.output), by omega, fun b hb => ?_⟩, fun b h4 h8 => hk b h8 (fun q => by have := (hww.sv b q).1; omega)⟩
    exact ((((hk b (by omega) (fun q => by have := hvl b q; omega)).trans (hb8.block b (by omega))).trans (hx.block b (by omega) (by omega))).trans (hb3.block b (by omega))).trans (h1.block b hb)
  have HL : Hid (Calls Tryz.prog 14 #[.pointer (some ⟨w1.heap.size + 1, 0, none⟩), .agg #[.string ⟨#[109]⟩, .slice ia 0 ic, .slice ga 1 gc, .slice pa 1 pc, .slice ba 1 bc], .int .i64 100] w3 fun e w4 => ∃ b o oc, e = .returned (.tuple #[.agg #[.int .i64 1, .slice (some ⟨b, o, none⟩) 1 oc], .nilIface]) ∧ w4.cell? ⟨b, o, none⟩ = some (.int .i64 6) ∧ (∀ (w8 : World) (ab : Nat), Below w4.heap.size w4 w8 → w8.cell? ⟨ab, 0, none⟩ = some (.int .i64 4) → Calls Tryz.prog 31 #[.pointer (some ⟨w1.heap.size + 1, 0, none⟩), .string ⟨#[109]⟩, .string ⟨#[102]⟩, .slice (some ⟨ab, 0, none⟩) 1 1, .int .i64 100] w8 fun e w9 => ∃ oa on oc, e = .returned (.tuple #[.agg #[.int .i64 1, .slice oa on oc], .int .i64 14, .nilIface]) ∧ Below w.heap.size w w9 ∧ ∀ b, w4.heap.size ≤ b → b < w8.heap.size → w9.heap[b]? = w8.heap[b]?) ∧ Ext (w1.heap.size + 1) w3 w4) := by
    have hmb3 : MB w3 w1.heap.size Tp.modR ia ga pa ba ic gc pc bc := hmb.on hb3
    have hl := load_ok (Y := fun b => b = w1.heap.size) (fuel := 100) hbw hmb3 (by omega) (fun b hb => by subst hb; omega) HWM.out (by omega) Tp.checkR
    rw [e0] at hl
    refine hl.mono ?_
    intro e w4 hq
    have hR := Tp.ranR of0
    unfold LoadP at hq
    rw [hR.1, hR.2.1] at hq
    obtain ⟨hx, oa, oc, L, nv, tb, he, hww, hia, _, hvl, _⟩ := hq
    obtain ⟨b, o, rfl, _, hc⟩ := hia.c 0 (by decide)
    exact ⟨b, o, oc, he, hc, fun w8 ab => HCALL.out w4 L nv tb hx hww hvl w8 ab, hx⟩
  rw [e0]
  have k0 : w3.cell? ⟨w1.heap.size, 0, none⟩ = some (.string ⟨#[109]⟩) := (cell_blk hbm).trans rfl
  have k1 : w3.cell? ⟨w1.heap.size, 1, none⟩ = some (.slice ia 0 ic) := (cell_blk hbm).trans rfl
  have k2 : w3.cell? ⟨w1.heap.size, 2, none⟩ = some (.slice ga 1 gc) := (cell_blk hbm).trans rfl
  have k3 : w3.cell? ⟨w1.heap.size, 3, none⟩ = some (.slice pa 1 pc) := (cell_blk hbm).trans rfl
  have k4 : w3.cell? ⟨w1.heap.size, 4, none⟩ = some (.slice ba 1 bc) := (cell_blk hbm).trans rfl
  have hml3 := lt_blk hbm
  have hwl3 := lt_blk hbw
  clear hvm hmb e0 hbm hbw hb3 h1 HCALL HP HWM hs3
  go_upto_region 5 with fail
  rw [← hw3]
  clear hw3
  go_wp2_with fail
  refine HL.out.mono ?_
  rintro e w4 ⟨b, o, oc, rfl, hc6, hcall, hx4⟩
  obtain ⟨w5, hw5⟩ : ∃ w5, w5 = w4.alloc (.cells #[.int .i64 1, .slice (some ⟨b, o, none⟩) 1 oc] 43) := ⟨_, rfl⟩
  have hE5 : w5.heap[w4.heap.size]? = some (.cells #[.int .i64 1, .slice (some ⟨b, o, none⟩) 1 oc] 43 (0, 0)) := by rw [hw5]; exact new_blk _ _
  have hb5 : Below w4.heap.size w4 w5 := by rw [hw5]; exact (Below.refl _ _).alloc (Nat.le_refl _) _
  obtain ⟨w6, hw6⟩ : ∃ w6, w6 = w5.alloc (.cells #[.int .i64 6] 2) := ⟨_, rfl⟩
  have hb6 : Below w5.heap.size w5 w6 := by rw [hw6]; exact (Below.refl _ _).alloc (Nat.le_refl _) _
  have hS6 : w6.heap[w5.heap.size]? = some (.cells #[.int .i64 6] 2 (0, 0)) := by rw [hw6]; exact new_blk _ _
  have hs5 := hb5.size
  have hs6 := hb6.size
  have hel5 := lt_blk hE5
  have c6 : w6.cell? ⟨b, o, none⟩ = some (.int .i64 6) := (hb6.cell (p := ⟨b, o, none⟩) (Nat.lt_of_lt_of_le (lt_of_cell hc6) hs5)).trans ((hb5.cell (p := ⟨b, o, none⟩) (lt_of_cell hc6)).trans hc6)
  have d6 : w6.cell? ⟨w5.heap.size, 0, none⟩ = some (.int .i64 6) := (cell_blk hS6).trans rfl
  have HEQ := Lib.hid (eq_one (c1 := oc) (c2 := 1) c6 d6)
  clear d6
  have HE6 : Hid (w6.heap[w4.heap.size]? = some (.cells #[.int .i64 1, .slice (some ⟨b, o, none⟩) 1 oc] 43 (0, 0))) := (hb6.block _ hel5).trans hE5
  have HB6 : Hid (Below w4.heap.size w4 w6) := hb5.trans (hb6.mono hs5)
  have f0 : w5.cell? ⟨w4.heap.size, 0, none⟩ = some (.int .i64 1) := (cell_blk hE5).trans rfl
  have f1 : w5.cell? ⟨w4.heap.size, 1, none⟩ = some (.slice (some ⟨b, o, none⟩) 1 oc) := (cell_blk hE5).trans rfl
  have HCL := Lib.hid hcall
  have HX4 := Lib.hid hx4
  have hs4 := hx4.size
  clear hE5 hb5 hb6 hS6 c6 hc6 hcall hx4 k0 k1 k2 k3 k4
  go_upto_region 6 with fail
  rw [← hw5]
  clear hw5
  go_upto_region 7 with (go_at_call 18; rw [← hw6]; refine HEQ.out.mono ?_; rintro e w7 ⟨rfl, hb7⟩)
  have hs7 := hb7.size
  have HB7 : Hid (Below w4.heap.size w4 w7) := HB6.out.trans (hb7.mono HB6.out.size)
  have HE7 : Hid (w7.heap[w4.heap.size]? = some (.cells #[.int .i64 1, .slice (some ⟨b, o, none⟩) 1 oc] 43 (0, 0))) := (hb7.block _ (lt_blk HE6.out)).trans HE6.out
  clear hb7 hw6 HE6 HB6 HEQ f0 f1
  obtain ⟨w8, hw8⟩ : ∃ w8, w8 = w7.alloc (.cells #[.int .i64 4] 2) := ⟨_, rfl⟩
  have hb8 : Below w7.heap.size w7 w8 := by rw [hw8]; exact (Below.refl _ _).alloc (Nat.le_refl _) _
  have hS8 : w8.heap[w7.heap.size]? = some (.cells #[.int .i64 4] 2 (0, 0)) := by rw [hw8]; exact new_blk _ _
  have hE8 := (hb8.block _ (lt_blk HE7.out)).trans HE7.out
  have HCC := Lib.hid (HCL.out w8 w7.heap.size (HB7.out.trans (hb8.mono HB7.out.size)) ((cell_blk hS8).trans rfl))
  have HE8 := Lib.hid hE8
  clear HCL hS8 hb8 hE8 HB7 HE7
  go_wp2_with fail
  rw [← hw8]
  refine HCC.out.mono ?_
  rintro e w9 ⟨oa, on, oc', rfl, hb9, hk9⟩
  have hE9 := (hk9 _ (Nat.le_refl _) (lt_blk HE8.out)).trans HE8.out
  have e0 : w9.cell? ⟨w4.heap.size, 0, none⟩ = some (.int .i64 1) := (cell_blk hE9).trans rfl
  have e1 : w9.cell? ⟨w4.heap.size, 1, none⟩ = some (.slice (some ⟨b, o, none⟩) 1 oc) := (cell_blk hE9).trans rfl
  have ez : ∀ j, w9.frozen? ⟨w4.heap.size, j, none⟩ = false := fun j => frozen_blk hE9
  have hel9 := lt_blk hE9
  have hset := set_blk 1 (.slice oa on oc') (set_blk 0 (.int .i64 1) hE9)
  obtain ⟨wf, hwf⟩ : ∃ wf, wf = (w9.setCell ⟨w4.heap.size, 0, none⟩ (.int .i64 1)).setCell ⟨w4.heap.size, 1, none⟩ (.slice oa on oc') := ⟨_, rfl⟩
  have g0 : wf.cell? ⟨w4.heap.size, 0, none⟩ = some (.int .i64 1) := by rw [hwf]; exact (cell_blk hset).trans rfl
  have HF : Hid (Below w.heap.size w wf) := by
    show Below _ _ _
    rw [hwf]
    exact below_set (below_set hb9 (by omega) 0 _) (by omega) 1 _
  have helf : w4.heap.size < wf.heap.size := by rw [hwf]; exact lt_blk hset
  clear hset hE9 hk9 hb9 HCC HE8 hw8 HX4 HL
  go_upto_region 9 with fail
  rw [← hwf]
  clear hwf e0 e1 ez
  go_wp2_with fail
  go_ret
  exact ⟨rfl, HF.out⟩
end Go.Proofs.YtfpeboeknjlkbaaGreatDoor
