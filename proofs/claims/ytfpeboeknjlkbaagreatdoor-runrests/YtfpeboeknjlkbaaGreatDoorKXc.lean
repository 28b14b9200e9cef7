import Derived.Test.YtfpeboeknjlkbaaGreatDoorKXa
/- Chapter 4: what went on in a world has ended. -/
namespace Go.Proofs.YtfpeboeknjlkbaaGreatDoor
open Go.RowKit Go.Maps
open Tp (Bs X S G Pr Pt Rs Rr Own)

theorem WW.less {X Y : Nat → Prop} {w : World} {wb : Nat} {L : List Lo} {P : List Pt} {nv : Value} {tb : Nat} (h : WW X w wb L P nv tb) (hs : ∀ b, Y b → X b) : WW Y w wb L P nv tb := by
  have hS : ∀ b, StB X L wb tb nv b → StB Y L wb tb nv b := fun b q => ⟨fun z => q.1 (hs b z), q.2⟩
  refine ⟨h.blk, ⟨fun z => h.xw.1 (hs _ z), h.xw.2⟩, h.nm, fun b hb => ⟨fun z => (h.nx b hb).1 (hs _ z), (h.nx b hb).2⟩, ⟨fun z => h.tx.1 (hs _ z), h.tx.2⟩, h.th, fun lo hl => ?_, fun b hb => ⟨(h.sv b hb).1, fun z => (h.sv b hb).2 (hs _ z)⟩, h.nd, h.inj, h.vals, h.mw⟩
  obtain ⟨⟨ia, ga, pa, ba, ic, gc, pc, bc, h1, h2⟩, h3, h4, h5, h6⟩ := h.lo lo hl
  exact ⟨⟨ia, ga, pa, ba, ic, gc, pc, bc, h1, h2.mono (fun b hb _ => ⟨rfl, hS b hb⟩)⟩, hS _ h3, hS _ h4, h5, h6⟩
theorem ints_at {w : World} {base : Nat} {v : Value} {l : List Int} (h : w.ownsRow base 2 1 v l.length (ints l)) : ∃ oa oc, v = .slice oa l.length oc ∧ IntsAt w l oa ∧ (∀ a, oa = some a → base ≤ a.block) ∧ l.length ≤ oc := by
  rcases h.2 with ⟨hv, h0⟩ | ⟨g, cap, cur, hv, hb, hg, h4, h5, h6, h7⟩
  · exact ⟨none, 0, by rw [hv, h0], ⟨fun i hi => by omega⟩, fun a e => (by cases e), by omega⟩
  · refine ⟨_, _, hv, ⟨fun i hi => ⟨g, 0, rfl, lt_blk hg, ?_⟩⟩, fun a e => (by cases e; exact hb), h4⟩
    rw [Nat.zero_add, cell_blk hg]
    have h8 : (ints l)[i]? = some (.int .i64 l[i]) := by unfold ints; simp [hi]
    rw [← h7, Nat.mul_one, List.getElem?_take_of_lt hi] at h8
    simpa using h8
structure GonP (X : Nat → Prop) (w : World) (wb : Nat) (L : List Lo) (nv : Value) (tb : Nat) (P' : List Pt) (out : List Int) (oa : Option Addr) (w' : World) : Prop where
  ww : WW X w' wb L P' nv tb
  keep : ∀ b, b < w.heap.size → ¬ VLo L b → w'.heap[b]? = w.heap[b]?
  it : IntsAt w' out oa
  oi : ∀ v ∈ out, Tp.I64 v
  ol : out.length ≤ 200
  far : ∀ a, oa = some a → w.heap.size ≤ a.block
  size : w.heap.size ≤ w'.heap.size
  os : w'.os = w.os
  tape : w'.tape = w.tape
  output : w'.output = w.output
theorem gone {α : Type} {X : Nat → Prop} {w w' : World} {wb : Nat} {L : List Lo} {P : List Pt} {nv : Value} {tb fuel : Nat} {r : Rr α} {e : Ending} (h : WW X w wb L P nv tb) (hf : fuel ≤ 800000) (hg : GoesP w (WayA (cxOf w tb fuel L) (goesW w (some tb) (fuel : Int)) r) e w') :
    ∃ oa oc, e = .returned (.agg #[.int .i64 ((Tp.endOf r).2.way : Int), .slice oa (Tp.endOf r).2.out.length oc]) ∧ (Tp.endOf r).2.out.length ≤ oc ∧ GonP X w wb L nv tb (Tp.endOf r).1 (Tp.endOf r).2.out oa w' := by
  obtain ⟨w2, way, oa, on, oc, hA, hc, he, hx⟩ := hg
  have fin : ∀ (s : Rs) (k : Nat), GS (cxOf w tb fuel L) w2 s k → Kp (cxOf w tb fuel L) nY (goesW w (some tb) (fuel : Int)) w2 → on = s.out.length ∧ s.out.length ≤ oc ∧ GonP X w wb L nv tb s.w s.out oa w' := by
    intro s k hgs hk
    have hb := goesW_below w (some tb) (fuel : Int)
    have hsz := hb.size
    obtain ⟨hww, hkk⟩ := h.after hf hgs hk hx
    obtain ⟨ov, h1, h2⟩ := hgs.outIs
    have h1' : w2.cell? ⟨w.heap.size + 1, 3, none⟩ = some ov := h1
    rw [hc] at h1'
    have h3 := (Option.some.inj h1').symm
    rw [h3] at h2
    have h2' := owns_keep (w' := w') h2 (fun b hb hl _ => hx.block b hl (by have : w.heap.size + 1 + 1 ≤ b := hb; omega))
    obtain ⟨oa', oc', e1, e2, e3, e6⟩ := ints_at h2'
    injection e1 with e1 e4 e5
    subst e1
    exact ⟨e4, by rw [e5]; exact e6, hww, hkk, e2, hgs.oi, hgs.ol, fun a q => by have : w.heap.size + 1 + 1 ≤ a.block := e3 a q; omega, by have := hk.size; have := hx.size; omega, (hx.os.trans hk.os).trans hb.os, (hx.tape.trans hk.tape).trans hb.tape, (hx.output.trans hk.output).trans hb.output⟩
  cases r with
  | gas => exact hA.elim
  | ok x s => obtain ⟨rfl, k, hgs, hk⟩ := hA; obtain ⟨rfl, q⟩ := fin s k hgs hk; exact ⟨oa, oc, he, q⟩
  | stop wy s => obtain ⟨rfl, k, hgs, hk⟩ := hA; obtain ⟨rfl, q⟩ := fin s k hgs hk; exact ⟨oa, oc, he, q⟩
/- a module's body, as the world has it -/
theorem ss_body {Y : Nat → Prop} {w : World} {wb tb fuel : Nat} {L : List Lo} {P : List Pt} {nv : Value} {lo : Lo} {ia ga pa ba : Option Addr} {ic gc pc bc : Nat} (h : WW Y w wb L P nv tb) (hf : fuel ≤ 800000) (hlo : lo ∈ L) (hb : w.heap[lo.lb]? = some (.cells (lcells lo.m ia ga pa ba ic gc pc bc lo.vb) 116 (0, 0))) : Ss (cxOf w tb fuel L) lo [] lo.m.body (.slice ba lo.m.body.length bc) := by
  have hok := (h.cx fuel hf).1.lo lo hlo
  obtain ⟨ia', ga', pa', ba', ic', gc', pc', bc', h1, h2⟩ := hok.blk
  have h3 := ((goesW_below w (some tb) (fuel : Int)).block lo.lb (lt_blk hb)).trans hb
  have h4 := h1.symm.trans h3
  unfold lcells at h4
  simp only [Option.some.injEq, Obj.cells.injEq, Array.mk.injEq, List.cons.injEq, Value.slice.injEq] at h4
  obtain ⟨bcs, b1, b2⟩ := h2.bd
  refine ⟨⟨bcs, b1, ?_⟩, hok.fit.wm.b, hok.fit.bd⟩
  rw [← h4.1.2.2.2.2.1.1, ← h4.1.2.2.2.2.1.2.2]
  exact b2
end Go.Proofs.YtfpeboeknjlkbaaGreatDoor
/- Chapter 4: the first module of a world is loaded: Load. -/
namespace Go.Proofs.YtfpeboeknjlkbaaGreatDoor
open Go.RowKit Go.Maps
open Tp (Bs X S G Pr Pt Rs Rr Own)

/- an error that was found, in memory -/
def ErrV (B : Nat) (w' : World) (er : Nat × Option Nat) (v : Value) : Prop := match er.2 with
  | none => v = .iface 46 (.int .i64 (er.1 : Int))
  | some pl => ∃ ab, v = .iface 124 (.pointer (some ⟨ab, 0, none⟩)) ∧ B ≤ ab ∧ w'.cell? ⟨ab, 0, none⟩ = some (.int .i64 (er.1 : Int)) ∧ w'.cell? ⟨ab, 1, none⟩ = some (.int .i64 (pl : Int))
def no2 : Value := .agg #[.int .i64 0, .slice none 0 0]
def LoadP (Y : Nat → Prop) (w : World) (wb : Nat) (a : Tp.Ans) (e : Ending) (w' : World) : Prop := match a.err with
  | some er => Below w.heap.size w w' ∧ ∃ v, e = .returned (.tuple #[no2, v]) ∧ ErrV w.heap.size w' er v
  | none => Ext wb w w' ∧ ∃ oa oc L nv tb, e = .returned (.tuple #[.agg #[.int .i64 (a.e.way : Int), .slice oa a.e.out.length oc], .nilIface]) ∧ WW Y w' wb L a.w nv tb ∧ IntsAt w' a.e.out oa ∧ (∀ v ∈ a.e.out, Tp.I64 v) ∧ (∀ b, VLo L b → w.heap.size ≤ b) ∧ a.e.out.length ≤ 200 ∧ a.e.out.length ≤ oc
theorem seen0 {w : World} {sb : Nat} (h : MapV w sb 0 (fun _ => none)) : SeenV w (.map (some sb)) (fun _ => none) := Or.inr ⟨sb, 0, rfl, fun _ => none, h, fun _ => rfl⟩
theorem loadW_bad {m : Tp.M} {fuel : Nat} {er : Nat × Option Nat} (h : Tp.check m (fun _ => none) = some er) : Tp.loadW of0 [] m fuel = ⟨[], Tp.no, 0, some er⟩ := by
  unfold Tp.loadW
  rw [if_neg (by simp [Tp.partOf])]
  have hs : Tp.seenW of0 [] = fun _ => none := by funext k; rfl
  rw [hs, h]
theorem loadW_ok {m : Tp.M} {fuel : Nat} (h : Tp.check m (fun _ => none) = none) : Tp.loadW of0 [] m fuel = ⟨(Tp.endOf (Tp.goS (Tp.gasOf [⟨m, Tp.fresh m⟩] m.body fuel) 0 m.name (fun _ => none) m.body ⟨[⟨m, Tp.fresh m⟩], fuel, []⟩)).1, (Tp.endOf (Tp.goS (Tp.gasOf [⟨m, Tp.fresh m⟩] m.body fuel) 0 m.name (fun _ => none) m.body ⟨[⟨m, Tp.fresh m⟩], fuel, []⟩)).2, 0, none⟩ := by
  unfold Tp.loadW
  rw [if_neg (by simp [Tp.partOf])]
  have hs : Tp.seenW of0 [] = fun _ => none := by funext k; rfl
  rw [hs, h]
  simp only
  rw [if_neg (by simp)]
  rfl
set_option maxRecDepth 100000 in
set_option maxHeartbeats 4000000 in
theorem load_ok {Y : Nat → Prop} {w : World} {wb fuel B0 : Nat} {m : Tp.M} {ia ga pa ba : Option Addr} {ic gc pc bc : Nat} (hw : w.heap[wb]? = some (.cells #[.slice none 0 0, .map none] 40 (0, 0))) (hmb0 : MB w B0 m ia ga pa ba ic gc pc bc) (hB0 : B0 ≤ wb) (hY : ∀ b, Y b → B0 ≤ b ∧ b < w.heap.size ∧ b ≠ wb) (hm : Tp.WM m) (hf : fuel ≤ 800000) (hck : Tp.check m (fun _ => none) = none) :
    Calls Tryz.prog 14 #[.pointer (some ⟨wb, 0, none⟩), .agg (mcells (bs m.name) (.slice ia m.imports.length ic) (.slice ga m.vars.length gc) (.slice pa m.procs.length pc) (.slice ba m.body.length bc)), .int .i64 (fuel : Int)] w (LoadP Y w wb (Tp.loadW of0 [] m fuel)) := by
  have hmb : MB w w.heap.size m ia ga pa ba ic gc pc bc := (hmb0.md).mb (fun b hb hl => hl)
  obtain ⟨a, ha⟩ : ∃ a, a = Tp.loadW of0 [] m fuel := ⟨_, rfl⟩
  rw [← ha]
  have hnl := okn_1000 hm.n
  have hwl := lt_blk hw
  obtain ⟨W, hW⟩ : ∃ W, W = (w.alloc (.cells (mcells (bs m.name) (.slice ia m.imports.length ic) (.slice ga m.vars.length gc) (.slice pa m.procs.length pc) (.slice ba m.body.length bc)) 32)).alloc (.cells #[.int .i64 0, .slice none 0 0] 43) := ⟨_, rfl⟩
  have hbW : Below w.heap.size w W := by rw [hW]; exact ((Below.refl _ _).alloc (Nat.le_refl _) _).alloc (by simp) _
  have hsW : W.heap.size = w.heap.size + 2 := by rw [hW]; simp
  have hkm : W.heap[w.heap.size]? = some (.cells (mcells (bs m.name) (.slice ia m.imports.length ic) (.slice ga m.vars.length gc) (.slice pa m.procs.length pc) (.slice ba m.body.length bc)) 32 (0, 0)) := by rw [hW]; exact (Below.heap_alloc _ _ _ (by simp)).trans (new_blk _ _)
  have hke : W.heap[w.heap.size + 1]? = some (.cells #[.int .i64 0, .slice none 0 0] 43 (0, 0)) := by
    have := new_blk (w.alloc (.cells (mcells (bs m.name) (.slice ia m.imports.length ic) (.slice ga m.vars.length gc) (.slice pa m.procs.length pc) (.slice ba m.body.length bc)) 32)) (.cells #[.int .i64 0, .slice none 0 0] 43)
    rw [hW]
    simpa using this
  have hww := (hbW.block wb hwl).trans hw
  have k1 : W.cell? ⟨wb, 1, none⟩ = some (.map none) := (cell_blk hww).trans rfl
  have km : W.cell? ⟨w.heap.size, 0, none⟩ = some (.string (bs m.name)) := (cell_blk hkm).trans rfl
  have hlk : ∀ n, (Instr.lookup 38 (.map none) (.string (bs m.name)) false).run Tryz.prog (W.drewN n) = .ok (.pointer none) (W.drewN n) := fun n => nilmap_look (W.drewN n) (t := 38) Tryz.underlying38 (zeroLo _) m.name hnl false
  have HMB := Lib.hid hmb
  have HSM := Lib.hid hm.sml
  have HBW := Lib.hid hbW
  have HKM := Lib.hid hkm
  have HKE := Lib.hid hke
  have HWW := Lib.hid hww
  have HA := Lib.hid ha
  have HM := Lib.hid hm
  have HMB0 := Lib.hid hmb0
  have HY := Lib.hid hY
  have HSW := Lib.hid hsW
  have hwlW : wb < W.heap.size := by omega
  have hmlW : w.heap.size < W.heap.size := by omega
  unfold mcells at *
  obtain ⟨mn, hmn⟩ : ∃ mn, mn = bs m.name := ⟨_, rfl⟩
  have HCK : Hid (∀ W' sb, Below w.heap.size w W' → MapV W' sb 0 (fun _ => none) → Calls Tryz.prog 39 #[.agg #[.string mn, .slice ia m.imports.length ic, .slice ga m.vars.length gc, .slice pa m.procs.length pc, .slice ba m.body.length bc], .map (some sb)] W' (CheckP W' (Tp.check m (fun _ => none)))) := fun W' sb hW' hmap => by
    have := check_post HSM.out (HMB.out.up hW') (seen0 hmap)
    unfold mcells at this
    rw [hmn]
    exact this
  rw [← hmn] at hW km hlk HKM ⊢
  have HMN : Hid (mn = bs m.name) := hmn
  have HIL : Hid (∃ q : Nat × Nat × Nat × Nat, q = (m.imports.length, m.vars.length, m.procs.length, m.body.length)) := ⟨_, rfl⟩
  clear hw hmb hm hmb0 hY ha hww hkm hke hbW hsW hmn HIL
  obtain ⟨il, hil⟩ : ∃ il, il = m.imports.length := ⟨_, rfl⟩
  obtain ⟨gl, hgl⟩ : ∃ gl, gl = m.vars.length := ⟨_, rfl⟩
  obtain ⟨pl, hpl⟩ : ∃ pl, pl = m.procs.length := ⟨_, rfl⟩
  obtain ⟨bl, hbl⟩ : ∃ bl, bl = m.body.length := ⟨_, rfl⟩
  rw [← hil, ← hgl, ← hpl, ← hbl] at hW HKM HCK ⊢
  have HQ := Lib.hid (And.intro hil (And.intro hgl (And.intro hpl hbl)))
  clear hil hgl hpl hbl
  have HHCK := Lib.hid hck
  clear hck
  go_enter Tryz.func14, Tryz.ntmps14
  go_upto_region 1 with fail
  rw [← hW]
  clear hW
  go_quiet (fail)
  obtain ⟨w1, hw1⟩ : ∃ w1, w1 = W.drewN nq := ⟨_, rfl⟩
  have e1 : w1.heap = W.heap := by rw [hw1]; rfl
  have HB1 : Hid (Below W.heap.size W w1) := by rw [hw1]; exact below_drewN (Below.refl _ _) _
  rw [← hw1]
  clear hw1 hlk k1 km
  have hbd : Below W.heap.size W w1.drew := HB1.out.drew
  have hmd := (hbd.block _ hmlW).trans HKM.out
  have HS0 : Hid (w1.drew.cell? ⟨w.heap.size, 0, none⟩ = some (.string mn) ∧ w1.drew.cell? ⟨w.heap.size, 1, none⟩ = some (.slice ia il ic) ∧ w1.drew.cell? ⟨w.heap.size, 2, none⟩ = some (.slice ga gl gc) ∧ w1.drew.cell? ⟨w.heap.size, 3, none⟩ = some (.slice pa pl pc) ∧ w1.drew.cell? ⟨w.heap.size, 4, none⟩ = some (.slice ba bl bc)) := cell_box5 hmd
  have hs1d : w1.drew.heap.size = W.heap.size := by show w1.heap.size = _; rw [e1]
  have HSE : Hid (Calls Tryz.prog 40 #[.pointer (some ⟨wb, 0, none⟩)] w1.drew fun e w2 => e = .returned (.map (some W.heap.size)) ∧ (Below W.heap.size W w2 ∧ MapV w2 W.heap.size 0 (fun _ => none)) ∧ (w2.cell? ⟨w.heap.size, 0, none⟩ = some (.string mn) ∧ w2.cell? ⟨w.heap.size, 1, none⟩ = some (.slice ia il ic) ∧ w2.cell? ⟨w.heap.size, 2, none⟩ = some (.slice ga gl gc) ∧ w2.cell? ⟨w.heap.size, 3, none⟩ = some (.slice pa pl pc) ∧ w2.cell? ⟨w.heap.size, 4, none⟩ = some (.slice ba bl bc))) := by
    refine (seen_first ((hbd.block _ hwlW).trans HWW.out)).mono ?_
    rintro e w2 ⟨rfl, hw2⟩
    have hb2 : Below w1.drew.heap.size w1.drew w2 := by rw [hw2]; exact (Below.refl _ _).alloc (Nat.le_refl _) _
    have hB2 : Below W.heap.size W w2 := hbd.trans (hb2.mono (by rw [hs1d]; exact Nat.le_refl _))
    have hM2 : MapV w2 w1.drew.heap.size 0 (fun _ => none) := by rw [hw2]; exact MapV.made _
    rw [hs1d] at hM2 ⊢
    exact ⟨rfl, ⟨hB2, hM2⟩, cell_box5 ((hB2.block _ hmlW).trans HKM.out)⟩
  have HCK2 : Hid (∀ w2, Below W.heap.size W w2 ∧ MapV w2 W.heap.size 0 (fun _ => none) → Calls Tryz.prog 39 #[.agg #[.string mn, .slice ia il ic, .slice ga gl gc, .slice pa pl pc, .slice ba bl bc], .map (some W.heap.size)] w2 fun e w3 => e = .returned .nilIface ∧ Below W.heap.size W w3 ∧ (w3.cell? ⟨w.heap.size, 0, none⟩ = some (.string mn) ∧ w3.cell? ⟨w.heap.size, 1, none⟩ = some (.slice ia il ic) ∧ w3.cell? ⟨w.heap.size, 2, none⟩ = some (.slice ga gl gc) ∧ w3.cell? ⟨w.heap.size, 3, none⟩ = some (.slice pa pl pc) ∧ w3.cell? ⟨w.heap.size, 4, none⟩ = some (.slice ba bl bc))) := fun w2 h2 => by
    have := HCK.out w2 W.heap.size (HBW.out.trans (h2.1.mono (by omega))) h2.2
    rw [HHCK.out] at this
    refine this.mono ?_
    rintro e w3 ⟨hb3, rfl⟩
    have hB3 : Below W.heap.size W w3 := h2.1.trans (hb3.mono h2.1.size)
    exact ⟨rfl, hB3, cell_box5 ((hB3.block _ hmlW).trans HKM.out)⟩
  clear hbd hmd HCK hs1d
  go_upto_region 3 with fail
  go_region_held3 (fun w' => w'.cell? ⟨w.heap.size, 0, none⟩ = some (.string mn) ∧ w'.cell? ⟨w.heap.size, 1, none⟩ = some (.slice ia il ic) ∧ w'.cell? ⟨w.heap.size, 2, none⟩ = some (.slice ga gl gc) ∧ w'.cell? ⟨w.heap.size, 3, none⟩ = some (.slice pa pl pc) ∧ w'.cell? ⟨w.heap.size, 4, none⟩ = some (.slice ba bl bc)) (with_reducible (first | exact HS3.out | exact HS2.out | exact HS0.out)) (first | (go_at_call 40; refine HSE.out.mono ?_; rintro e w2 ⟨rfl, hb2, hs2⟩; have HB2 := Lib.hid hb2; have HS2 := Lib.hid hs2; clear hb2 hs2) | (go_at_call 39; refine (HCK2.out _ HB2.out).mono ?_; rintro e w3 ⟨rfl, hb3, hs3⟩; have HB3 := Lib.hid hb3; have HS3 := Lib.hid hs3; clear hb3 hs3))
  have HB3w : Hid (Below w.heap.size w w3) := HBW.out.trans (HB3.out.mono (by omega))
  have hww3 := (HB3.out.block wb hwlW).trans HWW.out
  have k0 : w3.cell? ⟨wb, 0, none⟩ = some (.slice none 0 0) := (cell_blk hww3).trans rfl
  have HW3 := Lib.hid hww3
  have HMB3 : Hid (MB w3 w3.heap.size m ia ga pa ba ic gc pc bc) := HMB.out.up HB3w.out
  have HFR : Hid (Calls Tryz.prog 41 #[.agg #[.string mn, .slice ia il ic, .slice ga gl gc, .slice pa pl pc, .slice ba bl bc]] w3 (FreshP w3 m ia ga pa ba ic gc pc bc)) := by
    have := fresh_post HMB3.out HM.out (fit_first HM.out HHCK.out).vn
    unfold mcells at this
    rw [← HMN.out, ← HQ.out.1, ← HQ.out.2.1, ← HQ.out.2.2.1, ← HQ.out.2.2.2] at this
    exact this
  obtain ⟨s0, s1, s2, s3, s4⟩ := HS3.out
  clear hww3 HS0 HSE HCK2 HS2 HS3
  go_wp2_with fail
  refine HFR.out.mono ?_
  rintro e w6 ⟨hb6, lb, vb, sl, rfl, hlb, hvb, hne, hbl, hla, hsl⟩
  have hwl3 : wb < w3.heap.size := by have := HB3.out.size; omega
  have hw6 := (hb6.block wb hwl3).trans HW3.out
  obtain ⟨w7, hw7⟩ : ∃ w7, w7 = w6.alloc (.cells #[.pointer (some ⟨lb, 0, none⟩)] 89) := ⟨_, rfl⟩
  have hb7 : Below w6.heap.size w6 w7 := by rw [hw7]; exact (Below.refl _ _).alloc (Nat.le_refl _) _
  have kl7 : w7.cell? ⟨w6.heap.size, 0, none⟩ = some (.pointer (some ⟨lb, 0, none⟩)) := by rw [hw7]; exact (cell_blk (new_blk w6 _)).trans rfl
  have HADD : Hid (Calls Tryz.prog 42 #[.pointer (some ⟨wb, 0, none⟩), .pointer (some ⟨lb, 0, none⟩)] w7 (AddP w7 wb lb m.name)) := add_first ((hb7.block wb (lt_blk hw6)).trans hw6) ((hb7.block lb (lt_blk hbl)).trans hbl) (by omega) (by have := okn_1000 HM.out.n; omega)
  have hs6 := hb6.size
  have HX := Lib.hid (And.intro hb6 (And.intro hlb (And.intro hvb (And.intro hne (And.intro hbl (And.intro hla (And.intro hsl (And.intro hb7 kl7))))))))
  clear hb6 hlb hvb hne hbl hla hsl hb7 hw6 s0 s1 s2 s3 s4 k0
  go_upto_region 9 with fail
  rw [← hw7]
  clear hw7
  go_wp2_with fail
  refine HADD.out.mono ?_
  intro e w8 hadd
  have he8 := hadd.1
  subst he8
  have HGO : Hid (Calls Tryz.prog 43 #[.pointer (some ⟨wb, 0, none⟩), .int .i64 (fuel : Int), .func (.func 44) #[] #[.pointer (some ⟨w6.heap.size, 0, none⟩), .pointer (some ⟨w.heap.size, 0, none⟩)]] w8 fun e w9 => ∃ oa oc, e = .returned (.agg #[.int .i64 (a.e.way : Int), .slice oa a.e.out.length oc]) ∧ w9.heap[w.heap.size + 1]? = some (.cells #[.int .i64 0, .slice none 0 0] 43 (0, 0)) ∧ ∀ w10, Ext (w.heap.size + 1) w9 w10 → LoadP Y w wb a (.returned (.tuple #[.agg #[.int .i64 (a.e.way : Int), .slice oa a.e.out.length oc], .nilIface])) w10) := by
    obtain ⟨hb6, hlb, hvb, hne, hbl, hla, hsl, hb7, kl7⟩ := HX.out
    have hs3 := HB3.out.size
    have hsW := HSW.out
    have hmb3 : MB w3 B0 m ia ga pa ba ic gc pc bc := ((HMB0.out.md).mono (D' := fun i => i < B0) (fun b hb hl => ⟨HB3w.out.block b hl, hb⟩)).mb (fun b hb _ => hb)
    obtain ⟨nv, tb, hww, hx8, htb⟩ := ww_first (Y := fun b => Y b ∨ b = w.heap.size + 1) HM.out HHCK.out hmb3 hB0 hwl3 (fun b hb => by
      rcases hb with hb | rfl
      · have := HY.out b hb; omega
      · omega) hb6 hlb hvb hne hbl hla hsl hb7 hadd
    have hlo : (⟨m, lb, vb, sl⟩ : Lo) ∈ [(⟨m, lb, vb, sl⟩ : Lo)] := List.mem_singleton.2 rfl
    have hx7 := hadd.2.1
    have hs7 := hb7.size
    have hlb8 : w8.heap[lb]? = some (.cells (lcells m ia ga pa ba ic gc pc bc vb) 116 (0, 0)) := ((hx7.block lb (by have := lt_blk hbl; omega) (by omega)).trans (hb7.block lb (lt_blk hbl))).trans hbl
    have hm8 : w8.heap[w.heap.size]? = some (.cells #[.string mn, .slice ia il ic, .slice ga gl gc, .slice pa pl pc, .slice ba bl bc] 32 (0, 0)) := ((hx8.block w.heap.size (by omega) (by omega)).trans (HB3.out.block w.heap.size (by omega))).trans HKM.out
    have he8 : w8.heap[w.heap.size + 1]? = some (.cells #[.int .i64 0, .slice none 0 0] 43 (0, 0)) := ((hx8.block _ (by omega) (by omega)).trans (HB3.out.block _ (by omega))).trans HKE.out
    have kl8 : w8.cell? ⟨w6.heap.size, 0, none⟩ = some (.pointer (some ⟨lb, 0, none⟩)) := (World.cell?_of_block (w := w7) (hx7.block w6.heap.size (lt_of_cell kl7) (by omega))).trans kl7
    have km8 : w8.cell? ⟨w.heap.size, 4, none⟩ = some (.slice ba bl bc) := (cell_blk hm8).trans rfl
    have hss := ss_body hww hf hlo hlb8
    have hl1 := load1_post (gas := Tp.gasOf [⟨m, Tp.fresh m⟩] m.body fuel) hww hf hlo kl8 km8 (by rw [HQ.out.2.2.2]; exact hss) Tp.goS_enough
    have hgo := goes_post (caps := #[.pointer (some ⟨w6.heap.size, 0, none⟩), .pointer (some ⟨w.heap.size, 0, none⟩)]) cf_load ((cell_blk hww.blk).trans rfl) hl1
    refine hgo.mono ?_
    intro e w9 hG
    obtain ⟨oa, oc, he, hcap, hgn⟩ := gone hww hf hG
    have hal := HA.out.trans (loadW_ok (fuel := fuel) HHCK.out)
    have hae : a.e = (Tp.endOf (Tp.goS (Tp.gasOf [⟨m, Tp.fresh m⟩] m.body fuel) 0 m.name (fun _ => none) m.body ⟨[⟨m, Tp.fresh m⟩], fuel, []⟩)).2 := by rw [hal]
    have haw : a.w = (Tp.endOf (Tp.goS (Tp.gasOf [⟨m, Tp.fresh m⟩] m.body fuel) 0 m.name (fun _ => none) m.body ⟨[⟨m, Tp.fresh m⟩], fuel, []⟩)).1 := by rw [hal]
    have hern : a.err = none := by rw [hal]
    have he' : e = .returned (.agg #[.int .i64 (a.e.way : Int), .slice oa a.e.out.length oc]) := by rw [hae]; exact he
    have hgn' : GonP (fun b => Y b ∨ b = w.heap.size + 1) w8 wb [⟨m, lb, vb, sl⟩] nv tb a.w a.e.out oa w9 := by rw [hae, haw]; exact hgn
    have hnv : ¬ VLo [⟨m, lb, vb, sl⟩] (w.heap.size + 1) := fun q => (hww.sv _ q).2 (Or.inr rfl)
    have h8 := hx8.size
    refine ⟨oa, oc, he', (hgn'.keep _ (by omega) hnv).trans he8, fun w10 h10 => ?_⟩
    unfold LoadP
    rw [hern]
    have hlow : ∀ b, b < w.heap.size → ¬ VLo [⟨m, lb, vb, sl⟩] b := by
      rintro b hb ⟨lo, hl, g, hg, e⟩
      rw [List.mem_singleton] at hl
      subst hl
      have htk : m.vars.take m.vars.length = m.vars := List.take_length
      have hat := hla.at'
      rw [htk] at hat
      have := (hat g hg).1
      have : b = sl g.name := e
      omega
    have h9 := hgn'.size
    refine ⟨⟨(((h10.os.trans hgn'.os).trans hx8.os).trans HB3w.out.os), (((h10.tape.trans hgn'.tape).trans hx8.tape).trans HB3w.out.tape), (((h10.output.trans hgn'.output).trans hx8.output).trans HB3w.out.output), by have := h10.size; omega, fun b hb hne' => ?_⟩, oa, oc, [⟨m, lb, vb, sl⟩], nv, tb, rfl, (hgn'.ww.keep (fun b hb hX hv => h10.block b hb (fun e => hX (Or.inr e))) h10.size (fun lo hl => ?_) hgn'.ww.mw).less (fun b hb => Or.inl hb), ⟨fun i hi => ?_⟩, hgn'.oi, fun b hv => Nat.le_of_not_lt fun q => hlow b q hv, hgn'.ol, by rw [hae]; exact hcap⟩
    · exact (((h10.block b (by omega) (by omega)).trans (hgn'.keep b (by omega) (hlow b hb))).trans (hx8.block b (by omega) hne')).trans (HB3w.out.block b hb)
    · obtain ⟨p, p1, p2, p3⟩ := hgn'.ww.vals lo hl
      exact ⟨p, p1, p2, fun g hg => ⟨(p3 g hg).1, (h10.block _ (lt_blk (p3 g hg).2.1) (fun e => (hgn'.ww.sv _ ⟨lo, hl, g, hg, rfl⟩).2 (Or.inr e))).trans (p3 g hg).2.1, (p3 g hg).2.2⟩⟩
    · obtain ⟨b, o, q1, q2, q3⟩ := hgn'.it.c i hi
      have hfar : w8.heap.size ≤ b := hgn'.far _ q1
      exact ⟨b, o, q1, by have := h10.size; omega, (World.cell?_of_block (w := w9) (h10.block b q2 (by omega))).trans q3⟩
  have hwl8 : wb < w8.heap.size := by have := hadd.2.1.size; have := HX.out.2.2.2.2.2.2.2.1.size; omega
  clear hadd HADD HX HFR HMB3 HW3
  go_wp2_with fail
  refine HGO.out.mono ?_
  rintro e w9 ⟨oa, oc, rfl, hE9, hfin⟩
  have e0 : w9.cell? ⟨w.heap.size + 1, 0, none⟩ = some (.int .i64 0) := (cell_blk hE9).trans rfl
  have e1' : w9.cell? ⟨w.heap.size + 1, 1, none⟩ = some (.slice none 0 0) := (cell_blk hE9).trans rfl
  have ez : ∀ j, w9.frozen? ⟨w.heap.size + 1, j, none⟩ = false := fun j => frozen_blk hE9
  have hel := lt_blk hE9
  have hset := set_blk 1 (.slice oa a.e.out.length oc) (set_blk 0 (.int .i64 (a.e.way : Int)) hE9)
  obtain ⟨w4, hw4⟩ : ∃ w4, w4 = (w9.setCell ⟨w.heap.size + 1, 0, none⟩ (.int .i64 (a.e.way : Int))).setCell ⟨w.heap.size + 1, 1, none⟩ (.slice oa a.e.out.length oc) := ⟨_, rfl⟩
  have f0 : w4.cell? ⟨w.heap.size + 1, 0, none⟩ = some (.int .i64 (a.e.way : Int)) := by rw [hw4]; exact (cell_blk hset).trans rfl
  have f1 : w4.cell? ⟨w.heap.size + 1, 1, none⟩ = some (.slice oa a.e.out.length oc) := by rw [hw4]; exact (cell_blk hset).trans rfl
  have HR := Lib.hid (hfin w4 (by rw [hw4]; exact ((Ext.refl _ _).set 0 _).set 1 _))
  clear hE9 hset hfin HGO
  go_wp2_with fail
  rw [← hw4]
  exact bodyPost_ret (v := .tuple #[.agg #[.int .i64 (a.e.way : Int), .slice oa a.e.out.length oc], .nilIface]) (by simp [results, Tryz.results14, go_sem, f0, f1]) rfl HR.out
end Go.Proofs.YtfpeboeknjlkbaaGreatDoor
/- Chapter 4: a procedure is called from outside: what is done. -/
namespace Go.Proofs.YtfpeboeknjlkbaaGreatDoor
open Go.RowKit Go.Maps
open Tp (Bs X S G Pr Pt Rs Rr Own)

theorem MD.prc {w : World} {D : Nat → Prop} {m : Tp.M} {ia ga pa ba : Option Addr} {ic gc pc bc : Nat} (hm : MD w D m ia ga pa ba ic gc pc bc) : PrC w m.procs pa := by
  refine ⟨fun i hi => ?_⟩
  obtain ⟨pb, pv, vv, bv, bcs, e, hd, hl, hc, r2, r3, r4, r5⟩ := hm.procs i hi
  obtain ⟨y3, c3, rfl⟩ := r2.shape
  obtain ⟨y4, c4, rfl⟩ := r3.shape
  obtain ⟨y5, c5, rfl⟩ := r5.shape
  have hk : ∀ o u, w.cell? ⟨pb, o, none⟩ = some u → w.cell? ⟨pb, o, none⟩ = some u := fun o u hu => hu
  have hlw := lt_of_cell (hk _ _ (hc 0 (by omega)))
  exact ⟨pb, _, y3, y4, y5, _, _, _, c3, c4, c5, e, hlw, hk _ _ (hc 0 (by omega)), hk _ _ (hc 1 (by omega)), hk _ _ (hc 2 (by omega)), hk _ _ (hc 3 (by omega)), hk _ _ (hc 4 (by omega)), hk _ _ (hc 5 (by omega))⟩
def cwF (w : World) : Cx := ⟨w, w.heap.size, 0, []⟩
set_option maxRecDepth 100000 in
set_option maxHeartbeats 1000000 in
theorem rprocD {w : World} {D : Nat → Prop} {m : Tp.M} {ia ga pa ba : Option Addr} {ic gc pc bc lb vb : Nat} (b1 : w.heap[lb]? = some (.cells (lcells m ia ga pa ba ic gc pc bc vb) 116 (0, 0))) (hmd0 : MD w D m ia ga pa ba ic gc pc bc) (hpn : m.procs.length ≤ 1000) (nm : Bs) :
    Calls Tryz.prog 61 #[.pointer (some ⟨lb, 0, none⟩), .string (bs nm)] w fun e w' => ∃ v, e = .returned (.pointer v) ∧ ProcP (cwF w) m nm v ∧ Below w.heap.size w w' := by
  have hmd : MD w (cwF w).D m ia ga pa ba ic gc pc bc := hmd0.mono (fun b _ hl => ⟨rfl, hl, fun ⟨_, q, _⟩ => by cases q⟩)
  have hlbl := lt_blk b1
  have hpn' : (m.procs.length : Int) ≤ 1000 := by omega
  have ha : Below w.heap.size w (w.alloc (.cells #[.string (bs nm)] 9)) := (Below.refl _ _).alloc (Nat.le_refl _) _
  have hbb := (ha.block _ hlbl).trans b1
  have k3 : (w.alloc (.cells #[.string (bs nm)] 9)).cell? ⟨lb, 3, none⟩ = some (.slice pa m.procs.length pc) := (cell_blk hbb).trans rfl
  have HPC : Hid (PrC (w.alloc (.cells #[.string (bs nm)] 9)) m.procs pa) := hmd.prc.on ha
  have HIX := Lib.hid (indexP_post (cp := pc) HPC.out hpn nm w.heap.size ((cell_blk (new_blk _ _)).trans rfl))
  have HA := Lib.hid ha
  have hal : lb < (w.alloc (.cells #[.string (bs nm)] 9)).heap.size := lt_blk hbb
  have hmf : ∀ (fn : Fn) (first cap : Array Value) (w : World), (Instr.makeFunc fn first cap).run Tryz.prog w = .ok (.func fn first cap) w := fun _ _ _ _ => rfl
  have HMD := Lib.hid hmd
  have HB1 := Lib.hid hbb
  clear b1 hmd hmd0 hbb ha
  rcases pidx_in (m := m) (n := nm) with ⟨q1, q2⟩ | ⟨i, hi, q1, q2⟩
  · rw [q2] at HIX
    have HQ : Hid (∀ v, v = none → ProcP (cwF w) m nm v) := fun v hv => by unfold ProcP; rw [q1]; exact hv
    clear q1 q2
    generalize m.procs.length = ln at *
    go_enter Tryz.func61, Tryz.ntmps61
    go_wp2_with fail
    refine HIX.out.mono ?_
    rintro e w2 ⟨rfl, hb2⟩
    have HB2 : Hid (Below w.heap.size w w2) := HA.out.trans (hb2.mono HA.out.size)
    clear hb2
    go_wp2_with fail
    go_ret
    exact ⟨_, rfl, HQ.out _ rfl, HB2.out⟩
  · rw [q1] at HIX
    obtain ⟨pb, pv, vv, bv, bcs, e, hd, hpl, hc, r2, r3, r4, r5⟩ := HMD.out.procs i hi
    subst e
    have HQ : Hid (ProcP (cwF w) m nm (some ⟨pb, i * 6, none⟩)) := by
      show ProcP _ _ _ _
      unfold ProcP
      rw [q2]
      exact ⟨pb, i * 6, rfl, ⟨hd, hc 0 (by omega), hc 2 (by omega), pv, vv, bv, bcs, hc 3 (by omega), hc 4 (by omega), hc 5 (by omega), r2, r3, r4, r5⟩⟩
    have hi' : (i : Int) < (m.procs.length : Int) := by omega
    have hi0 : ¬ (i : Int) < 0 := by omega
    clear q1 q2 hd hpl hc r2 r3 r4 r5 hi
    generalize m.procs.length = ln at *
    go_enter Tryz.func61, Tryz.ntmps61
    go_wp2_with fail
    refine HIX.out.mono ?_
    rintro e w2 ⟨rfl, hb2⟩
    have HB2 : Hid (Below w.heap.size w w2) := HA.out.trans (hb2.mono HA.out.size)
    have k3' : w2.cell? ⟨lb, 3, none⟩ = some (.slice (some ⟨pb, 0, none⟩) ln pc) := (hb2.cell (p := ⟨lb, 3, none⟩) hal).trans k3
    have hal2 : lb < w2.heap.size := Nat.lt_of_lt_of_le hal hb2.size
    clear hb2
    go_wp2_with fail
    go_ret
    exact ⟨_, rfl, HQ.out, HB2.out⟩
theorem WW.more {X : Nat → Prop} {w w' : World} {wb : Nat} {L : List Lo} {P : List Pt} {nv : Value} {tb : Nat} (h : WW X w wb L P nv tb) (hb : Below w.heap.size w w') : WW (fun b => X b ∨ w.heap.size ≤ b) w' wb L P nv tb := by
  have hwl := lt_blk h.blk
  have htl : tb < w.heap.size := by obtain ⟨n, _, hm⟩ := h.th; exact hm.lt
  have hnl : ∀ b, nv.ownBlock = some b → b < w.heap.size := fun b e => (h.nm.lt b e).2
  have hD : ∀ b, StB X L wb tb nv b → b < w.heap.size → w'.heap[b]? = w.heap[b]? ∧ StB (fun b => X b ∨ w.heap.size ≤ b) L wb tb nv b := fun b hs hl => ⟨hb.block b hl, fun q => q.elim hs.1 (fun z => by omega), hs.2⟩
  refine ⟨(hb.block _ hwl).trans h.blk, ⟨fun q => q.elim h.xw.1 (fun z => by omega), h.xw.2⟩, owns_keep h.nm (fun b _ hl _ => hb.block b hl), fun b e => ⟨fun q => q.elim (h.nx b e).1 (fun z => by have := hnl b e; omega), (h.nx b e).2⟩, ⟨fun q => q.elim h.tx.1 (fun z => by omega), h.tx.2⟩, ?_, fun lo hl => ?_, fun b hv => ⟨Nat.lt_of_lt_of_le (h.sv b hv).1 hb.size, fun q => q.elim (h.sv b hv).2 (fun z => by have := (h.sv b hv).1; omega)⟩, h.nd, h.inj, fun lo hl => ?_, h.mw⟩
  · obtain ⟨n, hn, hm⟩ := h.th
    exact ⟨n, hn, hm.on (hb.block _ htl)⟩
  · obtain ⟨⟨ia, ga, pa, ba, ic, gc, pc, bc, h1, h2⟩, h3, h4, ⟨n, h5⟩, h6⟩ := h.lo lo hl
    exact ⟨⟨ia, ga, pa, ba, ic, gc, pc, bc, ((hD _ h3 (lt_blk h1)).1).trans h1, h2.mono hD⟩, (hD _ h3 (lt_blk h1)).2, (hD _ h4 h5.lt).2, ⟨n, h5.on (hD _ h4 h5.lt).1⟩, h6⟩
  · obtain ⟨p, p1, p2, p3⟩ := h.vals lo hl
    exact ⟨p, p1, p2, fun g hg => ⟨(p3 g hg).1, (hb.block _ (h.sv _ ⟨lo, hl, g, hg, rfl⟩).1).trans (p3 g hg).2.1, (p3 g hg).2.2⟩⟩
def nOf : Rr Int → Int
  | .ok v _ => v
  | _ => 0
def WayN (c : Cx) (w1 : World) (xn : Nat) (r : Rr Int) (way : Int) (w2 : World) : Prop := ∃ w3, WayA c w1 r way w3 ∧ Ext xn w3 w2 ∧ w2.heap[xn]? = some (.cells #[.int .i64 (nOf r)] 2 (0, 0))
set_option maxRecDepth 100000 in
set_option maxHeartbeats 2000000 in
theorem call1_post {X : Nat → Prop} {w : World} {wb : Nat} {L : List Lo} {P : List Pt} {nv : Value} {tb fuel xl xp xa xn ac gas : Nat} {aa : Option Addr} {nm : Bs} {p : Pr} {vs : List Int} (h : WW X w wb L P nv tb) (hf : fuel ≤ 800000) {lo : Lo} (hlo : lo ∈ L) (hp : Tp.procIn lo.m nm = some p) (hvl : vs.length = p.params.length) (hvi : ∀ v ∈ vs, Tp.I64 v) (hia : IntsAt w vs aa)
    (kl : w.cell? ⟨xl, 0, none⟩ = some (.pointer (some ⟨lo.lb, 0, none⟩))) (kp : w.cell? ⟨xp, 0, none⟩ = some (.string (bs nm))) (ka : w.cell? ⟨xa, 0, none⟩ = some (.slice aa vs.length ac)) (kn : w.heap[xn]? = some (.cells #[.int .i64 0] 2 (0, 0))) (hX : X xn)
    (hng : Tp.callP gas 0 lo.m.name p vs ⟨P, fuel, []⟩ ≠ .gas) :
    Calls Tryz.prog 62 #[.pointer (some ⟨w.heap.size + 1, 0, none⟩), .pointer (some ⟨xl, 0, none⟩), .pointer (some ⟨xp, 0, none⟩), .pointer (some ⟨xa, 0, none⟩), .pointer (some ⟨xn, 0, none⟩)] (goesW w (some tb) (fuel : Int)) fun e w2 => GoHeld w (goesW w (some tb) (fuel : Int)) w2 ∧ ((e = .returned (.tuple #[]) ∧ WayN (cxOf w tb fuel L) (goesW w (some tb) (fuel : Int)) xn (Tp.callP gas 0 lo.m.name p vs ⟨P, fuel, []⟩) 1 w2) ∨ ∃ way : Int, thrE endT way e ∧ WayN (cxOf w tb fuel L) (goesW w (some tb) (fuel : Int)) xn (Tp.callP gas 0 lo.m.name p vs ⟨P, fuel, []⟩) way w2) := by
  obtain ⟨hok, hg0, hno⟩ := h.cx fuel hf
  have hV : ∀ b, VLo L b → b < w.heap.size := fun b hb => (h.sv b hb).1
  have hb := goesW_below w (some tb) (fuel : Int)
  have hs := goesW_size w (some tb) (fuel : Int)
  have HHE := Lib.hid (fun w2 k s => held_of (w2 := w2) (k := k) (s := s) hok hno hV)
  have hxl := lt_blk kn
  have HN : Hid (∀ w2, Kp (cxOf w tb fuel L) nY (goesW w (some tb) (fuel : Int)) w2 → w2.heap[xn]? = some (.cells #[.int .i64 0] 2 (0, 0))) := fun w2 hk =>
    ((hk.block xn (by omega) (by show xn ≠ w.heap.size + 1; omega) (fun q => (h.sv xn q).2 hX) (hno xn) (fun q => q)).trans (hb.block xn hxl)).trans kn
  have HB := Lib.hid ((run_all hok gas).cl 0 lo nm p vs (goesW w (some tb) (fuel : Int)) ⟨P, fuel, []⟩ aa ac hlo hp hvl hvi hg0 (hia.on hb) hng)
  have hcg : (cxOf w tb fuel L).gb = w.heap.size + 1 := rfl
  rw [hcg] at HB
  have k1 : (goesW w (some tb) (fuel : Int)).cell? ⟨xl, 0, none⟩ = some (.pointer (some ⟨lo.lb, 0, none⟩)) := (hb.cell (p := ⟨xl, 0, none⟩) (lt_of_cell kl)).trans kl
  have k2 : (goesW w (some tb) (fuel : Int)).cell? ⟨xp, 0, none⟩ = some (.string (bs nm)) := (hb.cell (p := ⟨xp, 0, none⟩) (lt_of_cell kp)).trans kp
  have k3 : (goesW w (some tb) (fuel : Int)).cell? ⟨xa, 0, none⟩ = some (.slice aa vs.length ac) := (hb.cell (p := ⟨xa, 0, none⟩) (lt_of_cell ka)).trans ka
  have hl1 : xl < (goesW w (some tb) (fuel : Int)).heap.size := lt_of_cell k1
  have hl2 : xp < (goesW w (some tb) (fuel : Int)).heap.size := lt_of_cell k2
  have hl3 : xa < (goesW w (some tb) (fuel : Int)).heap.size := lt_of_cell k3
  clear h hok hg0 hno hV hb kl kp ka kn hX hia hvi
  generalize cxOf w tb fuel L = c at *
  generalize goesW w (some tb) (fuel : Int) = w1 at *
  generalize Tp.callP gas 0 lo.m.name p vs ⟨P, fuel, []⟩ = r at *
  generalize vs.length = vn at *
  generalize bs nm = nb at *
  clear hcg hvl hp
  cases r with
  | gas => exact absurd rfl hng
  | stop way s' =>
    clear hng
    go_enter Tryz.func62, Tryz.ntmps62
    go_wp2_with fail
    refine HB.out.mono ?_
    rintro e w4 ⟨⟨older, rfl⟩, ⟨k', hg4⟩, hk4⟩
    have HF : Hid (GoHeld w w1 w4 ∧ WayN c w1 xn (.stop way s' : Rr Int) (way : Int) w4) := ⟨HHE.out _ _ _ hg4 hk4, w4, ⟨rfl, k', hg4, hk4⟩, Ext.refl _ _, HN.out _ hk4⟩
    clear hg4 hk4
    go_wp2_with fail
    exact ⟨rfl, HF.out.1, Or.inr ⟨(way : Int), ⟨older, rfl⟩, HF.out.2⟩⟩
  | ok r1 s' =>
    clear hng
    go_enter Tryz.func62, Tryz.ntmps62
    go_wp2_with fail
    refine HB.out.mono ?_
    rintro e w4 ⟨rfl, hg4, hk4, _, _⟩
    have hn4 := HN.out _ hk4
    have HF : Hid (GoHeld w w1 (w4.setCell ⟨xn, 0, none⟩ (.int .i64 r1)) ∧ WayN c w1 xn (.ok r1 s') 1 (w4.setCell ⟨xn, 0, none⟩ (.int .i64 r1))) := by
      obtain ⟨g1, g2, oa, on, oc, g3⟩ := HHE.out _ _ _ hg4 hk4
      have hx : Ext xn w4 (w4.setCell ⟨xn, 0, none⟩ (.int .i64 r1)) := (Ext.refl _ _).set 0 _
      have hsz := hk4.size
      exact ⟨⟨(hx.block _ (by omega) (by omega)).trans g1, (hx.block _ (by omega) (by omega)).trans g2, oa, on, oc, (World.cell?_of_block (w := w4) (hx.block _ (by show w.heap.size + 1 < _; omega) (by show w.heap.size + 1 ≠ _; omega))).trans g3⟩, w4, ⟨rfl, 0, hg4, hk4⟩, hx, set_blk 0 (.int .i64 r1) hn4⟩
    have n0 : w4.cell? ⟨xn, 0, none⟩ = some (.int .i64 0) := (cell_blk hn4).trans rfl
    have nz : w4.frozen? ⟨xn, 0, none⟩ = false := frozen_blk hn4
    have hnl := lt_blk hn4
    clear hg4 hk4 hn4
    go_wp2_with fail
    exact bodyPost_end (results_none rfl _ _ _) rfl ⟨HF.out.1, Or.inl ⟨rfl, HF.out.2⟩⟩
/- what went on has ended; one block more was written -/
structure GonQ (X : Nat → Prop) (w : World) (wb : Nat) (L : List Lo) (nv : Value) (tb xn : Nat) (P' : List Pt) (out : List Int) (n : Int) (oa : Option Addr) (w' : World) : Prop where
  ww : WW X w' wb L P' nv tb
  keep : ∀ b, b < w.heap.size → b ≠ xn → ¬ VLo L b → w'.heap[b]? = w.heap[b]?
  nn : w'.heap[xn]? = some (.cells #[.int .i64 n] 2 (0, 0))
  it : IntsAt w' out oa
  oi : ∀ v ∈ out, Tp.I64 v
  far : ∀ a, oa = some a → w.heap.size ≤ a.block
  size : w.heap.size ≤ w'.heap.size
  os : w'.os = w.os
  tape : w'.tape = w.tape
  output : w'.output = w.output
theorem WW.after2 {X : Nat → Prop} {w w2 w' : World} {wb : Nat} {L : List Lo} {P : List Pt} {nv : Value} {tb fuel k xn : Nat} {s : Rs} (h : WW X w wb L P nv tb) (hf : fuel ≤ 800000) (hg : GS (cxOf w tb fuel L) w2 s k) (hk : Kp (cxOf w tb fuel L) nY (goesW w (some tb) (fuel : Int)) w2) (hx : ∀ b, b < w2.heap.size → b ≠ w.heap.size → b ≠ xn → w'.heap[b]? = w2.heap[b]?) (hs2 : w2.heap.size ≤ w'.heap.size) (hX : X xn) : WW X w' wb L s.w nv tb ∧ ∀ b, b < w.heap.size → b ≠ xn → ¬ VLo L b → w'.heap[b]? = w.heap[b]? := by
  obtain ⟨hok, hg0, hno⟩ := h.cx fuel hf
  have hb := goesW_below w (some tb) (fuel : Int)
  have hs := goesW_size w (some tb) (fuel : Int)
  have hsz := hk.size
  have hkk : ∀ b, b < w.heap.size → b ≠ xn → ¬ VLo L b → w'.heap[b]? = w.heap[b]? := fun b hl hn hv =>
    ((hx b (by omega) (by omega) hn).trans (hk.block b (by omega) (by show b ≠ w.heap.size + 1; omega) hv (hno b) (fun q => q))).trans (hb.block b hl)
  refine ⟨h.keep (fun b hl hX' hv => hkk b hl (fun e => hX' (e ▸ hX)) hv) (by omega) (fun lo hl => ?_) hg.mw, hkk⟩
  obtain ⟨p, p1, p2, p3⟩ := hg.vals lo hl
  exact ⟨p, p1, p2, fun g hgm => ⟨(p3 g hgm).1, (hx _ (lt_blk (p3 g hgm).2.1) (by have := (h.sv _ ⟨lo, hl, g, hgm, rfl⟩).1; omega) (fun e => (h.sv _ ⟨lo, hl, g, hgm, rfl⟩).2 (e ▸ hX))).trans (p3 g hgm).2.1, (p3 g hgm).2.2⟩⟩
theorem gone2 {X : Nat → Prop} {w w' : World} {wb : Nat} {L : List Lo} {P : List Pt} {nv : Value} {tb fuel xn : Nat} {r : Rr Int} {e : Ending} (h : WW X w wb L P nv tb) (hf : fuel ≤ 800000) (hX : X xn) (hxn : xn < w.heap.size) (hg : GoesP w (WayN (cxOf w tb fuel L) (goesW w (some tb) (fuel : Int)) xn r) e w') :
    ∃ oa oc, e = .returned (.agg #[.int .i64 ((Tp.endOf r).2.way : Int), .slice oa (Tp.endOf r).2.out.length oc]) ∧ GonQ X w wb L nv tb xn (Tp.endOf r).1 (Tp.endOf r).2.out (nOf r) oa w' := by
  obtain ⟨w2, way, oa, on, oc, ⟨w3, hA, hx3, hn⟩, hc, he, hx⟩ := hg
  have hnw : w'.heap[xn]? = some (.cells #[.int .i64 (nOf r)] 2 (0, 0)) := (hx.block xn (lt_blk hn) (by omega)).trans hn
  have hxx : ∀ b, b < w3.heap.size → b ≠ w.heap.size → b ≠ xn → w'.heap[b]? = w3.heap[b]? := fun b hb h1 h2 => (hx.block b (by have := hx3.size; omega) h1).trans (hx3.block b hb h2)
  have hs3 : w3.heap.size ≤ w'.heap.size := by have := hx.size; have := hx3.size; omega
  have fin : ∀ (s : Rs) (k : Nat), GS (cxOf w tb fuel L) w3 s k → Kp (cxOf w tb fuel L) nY (goesW w (some tb) (fuel : Int)) w3 → on = s.out.length ∧ GonQ X w wb L nv tb xn s.w s.out (nOf r) oa w' := by
    intro s k hgs hk
    have hb := goesW_below w (some tb) (fuel : Int)
    have hsz := hb.size
    have hgz := goesW_size w (some tb) (fuel : Int)
    have hkz := hk.size
    obtain ⟨hww, hkk⟩ := h.after2 hf hgs hk hxx hs3 hX
    obtain ⟨ov, h1, h2⟩ := hgs.outIs
    have h1' : w2.cell? ⟨w.heap.size + 1, 3, none⟩ = some ov := (World.cell?_of_block (w := w3) (hx3.block (w.heap.size + 1) (by omega) (by omega))).trans h1
    rw [hc] at h1'
    have h3 := (Option.some.inj h1').symm
    rw [h3] at h2
    have h2' := owns_keep (w' := w') h2 (fun b hb hl _ => hxx b hl (by have : w.heap.size + 1 + 1 ≤ b := hb; omega) (by have : w.heap.size + 1 + 1 ≤ b := hb; omega))
    obtain ⟨oa', oc', e1, e2, e3, _⟩ := ints_at h2'
    injection e1 with e1 e4 e5
    subst e1
    exact ⟨e4, hww, hkk, hnw, e2, hgs.oi, fun a q => by have : w.heap.size + 1 + 1 ≤ a.block := e3 a q; omega, by omega, ((hx.os.trans hx3.os).trans hk.os).trans hb.os, ((hx.tape.trans hx3.tape).trans hk.tape).trans hb.tape, ((hx.output.trans hx3.output).trans hk.output).trans hb.output⟩
  cases r with
  | gas => exact hA.elim
  | ok x s => obtain ⟨rfl, k, hgs, hk⟩ := hA; obtain ⟨rfl, q⟩ := fin s k hgs hk; exact ⟨oa, oc, he, q⟩
  | stop wy s => obtain ⟨rfl, k, hgs, hk⟩ := hA; obtain ⟨rfl, q⟩ := fin s k hgs hk; exact ⟨oa, oc, he, q⟩
end Go.Proofs.YtfpeboeknjlkbaaGreatDoor
