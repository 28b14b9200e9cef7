import Derived.Test.YtibncofnnlbmcaaGreatDoorKQi
import Derived.Test.YtibncofnnlbmcaaGreatDoorKMf
/- Chapter 4: what is done when a module is loaded; when a procedure is called from outside. -/
namespace Go.Proofs.YtibncofnnlbmcaaGreatDoor
open Go.RowKit Go.Maps
open Tp (Bs X S G Pr Pt Rs Rr Own)

def WayA {α : Type} (c : Cx) (w1 : World) (r : Rr α) (way : Int) (w2 : World) : Prop := match r with
  | .ok _ s' => way = 1 ∧ ∃ k, GS c w2 s' k ∧ Kp c nY w1 w2
  | .stop wy s' => way = (wy : Int) ∧ ∃ k, GS c w2 s' k ∧ Kp c nY w1 w2
  | .gas => False
theorem held_of {w w2 : World} {tb fuel k : Nat} {L : List Lo} {s : Rs} (_ : CxOk (cxOf w tb fuel L)) (hno : ∀ b, ¬ OutB (cxOf w tb fuel L) (goesW w (some tb) (fuel : Int)) b) (hV : ∀ b, VLo L b → b < w.heap.size) (hg : GS (cxOf w tb fuel L) w2 s k) (hk : Kp (cxOf w tb fuel L) nY (goesW w (some tb) (fuel : Int)) w2) : GoHeld w (goesW w (some tb) (fuel : Int)) w2 := by
  have hs := goesW_size w (some tb) (fuel : Int)
  refine ⟨hk.block _ (by omega) (by show w.heap.size ≠ w.heap.size + 1; omega) (fun q => by have := hV _ q; omega) (hno _) (fun q => q), hk.block _ (by omega) (by show w.heap.size + 2 ≠ w.heap.size + 1; omega) (fun q => by have := hV _ q; omega) (hno _) (fun q => q), ?_⟩
  obtain ⟨ov, h1, h2⟩ := hg.outIs
  obtain ⟨oa, oc, rfl⟩ := owns_shape h2
  exact ⟨oa, _, oc, h1⟩
theorem cf_load (args : Array Value) (w : World) : (callFunc 42 args).run Tryz.prog w = .ok (.enter 42 args) w := by kernel_rfl
theorem cf_call (args : Array Value) (w : World) : (callFunc 55 args).run Tryz.prog w = .ok (.enter 55 args) w := by kernel_rfl
set_option maxRecDepth 100000 in
set_option maxHeartbeats 2000000 in
theorem load1_post {X : Nat → Prop} {w : World} {wb : Nat} {L : List Lo} {P : List Pt} {nv : Value} {tb fuel xl xm bn bc gas : Nat} {ba : Option Addr} (h : WW X w wb L P nv tb) (hf : fuel ≤ 800000) {lo : Lo} (hlo : lo ∈ L) (kl : w.cell? ⟨xl, 0, none⟩ = some (.pointer (some ⟨lo.lb, 0, none⟩))) (km : w.cell? ⟨xm, 4, none⟩ = some (.slice ba bn bc))
    (hss : Ss (cxOf w tb fuel L) lo [] lo.m.body (.slice ba bn bc)) (hng : Tp.goS gas 0 lo.m.name (fun _ => none) lo.m.body ⟨P, fuel, []⟩ ≠ .gas) :
    Calls Tryz.prog 42 #[.pointer (some ⟨w.heap.size + 1, 0, none⟩), .pointer (some ⟨xl, 0, none⟩), .pointer (some ⟨xm, 0, none⟩)] (goesW w (some tb) (fuel : Int)) fun e w2 => GoHeld w (goesW w (some tb) (fuel : Int)) w2 ∧ ((e = .returned (.tuple #[]) ∧ WayA (cxOf w tb fuel L) (goesW w (some tb) (fuel : Int)) (Tp.goS gas 0 lo.m.name (fun _ => none) lo.m.body ⟨P, fuel, []⟩) 1 w2) ∨ ∃ way : Int, thrE endT way e ∧ WayA (cxOf w tb fuel L) (goesW w (some tb) (fuel : Int)) (Tp.goS gas 0 lo.m.name (fun _ => none) lo.m.body ⟨P, fuel, []⟩) way w2) := by
  obtain ⟨hok, hg0, hno⟩ := h.cx fuel hf
  have hV : ∀ b, VLo L b → b < w.heap.size := fun b hb => (h.sv b hb).1
  have hb := goesW_below w (some tb) (fuel : Int)
  have hs := goesW_size w (some tb) (fuel : Int)
  have HHE := Lib.hid (fun w2 k s => held_of (w2 := w2) (k := k) (s := s) hok hno hV)
  have hcg : (cxOf w tb fuel L).gb = w.heap.size + 1 := rfl
  have hcl : (cxOf w tb fuel L).L = L := rfl
  generalize cxOf w tb fuel L = c at *
  generalize goesW w (some tb) (fuel : Int) = w1 at *
  obtain ⟨w3, hw3⟩ : ∃ w3, w3 = w1.alloc (.cells #[.pointer (some ⟨w.heap.size + 1, 0, none⟩), .pointer (some ⟨lo.lb, 0, none⟩), .map none] 98) := ⟨_, rfl⟩
  have hb3 : Below w1.heap.size w1 w3 := by rw [hw3]; exact (Below.refl _ _).alloc (Nat.le_refl _) _
  have hsc : Sc c w3 w1.heap.size none lo (fun _ => none) [] fuel := by
    refine ⟨by omega, fun q => ?_, by rw [hw3, hcg]; exact new_blk _ _, fun _ => rfl, fun k v q => (by cases q), fun k => by simp, by rw [hcl]; exact hlo⟩
    exact hno _ ((outB_on (hb3.block c.gb (by omega)) _).1 q)
  have HB := Lib.hid (run_body hok gas 0 lo (fun _ => none) [] lo.m.body (.slice ba bn bc) w3 ⟨P, fuel, []⟩ w1.heap.size none hss (hg0.below hok hb3) hsc hng)
  have k1 : w1.cell? ⟨xl, 0, none⟩ = some (.pointer (some ⟨lo.lb, 0, none⟩)) := (hb.cell (p := ⟨xl, 0, none⟩) (lt_of_cell kl)).trans kl
  have k4 : w3.cell? ⟨xm, 4, none⟩ = some (.slice ba bn bc) := (hb3.cell (p := ⟨xm, 4, none⟩) (by have := lt_of_cell km; show xm < w1.heap.size; omega)).trans ((hb.cell (p := ⟨xm, 4, none⟩) (lt_of_cell km)).trans km)
  have hxl1 : xl < w1.heap.size := lt_of_cell k1
  have hxm3 : xm < w3.heap.size := lt_of_cell k4
  have HK3 : Hid (Kp c nY w1 w3) := Kp.below hb3 (by omega)
  clear h hok hg0 hno hV hb hs hss hsc kl km hb3
  generalize Tp.goS gas 0 lo.m.name (fun _ => none) lo.m.body ⟨P, fuel, []⟩ = r at *
  have HNY : Hid (∀ W, Kp c (oY none) w3 W → Kp c nY w1 W) := fun W q => HK3.out.trans (q.mono fun b z => by cases z)
  clear hcg hcl
  cases r with
  | gas => exact absurd rfl hng
  | stop way s' =>
    clear hng
    go_enter Tryz.func42, Tryz.ntmps42
    go_upto_region 1 with fail
    rw [← hw3]
    clear hw3 k1
    go_wp2_with fail
    refine HB.out.mono ?_
    rintro e w4 ⟨⟨older, rfl⟩, ⟨k', hg4⟩, hk4⟩
    have HF : Hid (GoHeld w w1 w4 ∧ WayA c w1 (.stop way s' : Rr (Own × Option Int)) (way : Int) w4) := ⟨HHE.out _ _ _ hg4 (HNY.out _ hk4), rfl, k', hg4, HNY.out _ hk4⟩
    clear hg4 hk4
    go_wp2_with fail
    exact ⟨rfl, HF.out.1, Or.inr ⟨(way : Int), ⟨older, rfl⟩, HF.out.2⟩⟩
  | ok r1 s' =>
    clear hng
    go_enter Tryz.func42, Tryz.ntmps42
    go_upto_region 1 with fail
    rw [← hw3]
    clear hw3 k1
    go_wp2_with fail
    refine HB.out.mono ?_
    rintro e w4 ⟨rfl, hg4, hk4, _, _⟩
    have HF : Hid (GoHeld w w1 w4 ∧ WayA c w1 (.ok r1 s') 1 w4) := ⟨HHE.out _ _ _ hg4 (HNY.out _ hk4), rfl, 0, hg4, HNY.out _ hk4⟩
    clear hg4 hk4
    go_wp2_with fail
    exact bodyPost_end (results_none rfl _ _ _) rfl ⟨HF.out.1, Or.inl ⟨rfl, HF.out.2⟩⟩
end Go.Proofs.YtibncofnnlbmcaaGreatDoor
/- Chapter 4: the first module of a world: what it is in memory. -/
namespace Go.Proofs.YtibncofnnlbmcaaGreatDoor
open Go.RowKit Go.Maps
open Tp (Bs X S G Pr Pt Rs Rr Own)

def of0 (_ : Tp.M) : List Tp.Sy := []
theorem fit_first {m : Tp.M} (hm : Tp.WM m) (hc : Tp.check m (fun _ => none) = none) : Tp.FitM [m] m := by
  have h : Tp.WI of0 ([] ++ [⟨m, Tp.fresh m⟩]) := Tp.WI.add (Tp.WI.empty of0) rfl hc
  exact h.fit (fun m s hs => by cases hs) (m := m) (by simp [Tp.ms]) hm
theorem fresh_vals {m : Tp.M} {g : G} (hn : (m.vars.map (·.name)).Nodup) (hg : g ∈ m.vars) : Tp.fresh m g.name = List.replicate (vlen g) 0 := by
  have : m.vars.find? (fun x => x.name == g.name) = some g := Tp.varOf_mem hn hg
  unfold Tp.fresh vlen
  rw [this]
/- the world behind it -/
theorem ww_first {Y : Nat → Prop} {w w6 w7 w8 : World} {wb B0 : Nat} {m : Tp.M} {ia ga pa ba : Option Addr} {ic gc pc bc lb vb : Nat} {sl : Bs → Nat} (hm : Tp.WM m) (hc : Tp.check m (fun _ => none) = none) (hmb : MB w B0 m ia ga pa ba ic gc pc bc) (hB0 : B0 ≤ wb) (hwl : wb < w.heap.size) (hY : ∀ b, Y b → B0 ≤ b ∧ b < w.heap.size ∧ b ≠ wb)
    (h6 : Below w.heap.size w w6) (hlb : w.heap.size ≤ lb) (hvb : w.heap.size ≤ vb) (_ : lb ≠ vb) (hbl : w6.heap[lb]? = some (.cells (lcells m ia ga pa ba ic gc pc bc vb) 107 (0, 0))) (hla : Laid w6 w.heap.size vb m.vars m.vars.length sl) (hsl : ∀ g ∈ m.vars, sl g.name ≠ lb ∧ sl g.name ≠ vb)
    (h7 : Below w6.heap.size w6 w7) {e : Ending} (h8 : AddP w7 wb lb m.name e w8) : ∃ nv tb, WW Y w8 wb [⟨m, lb, vb, sl⟩] [⟨m, Tp.fresh m⟩] nv tb ∧ Ext wb w w8 ∧ w7.heap.size ≤ tb := by
  obtain ⟨_, hx, tb, nv, hblk, htb, hmap, hnm, hnx⟩ := h8
  have hfit := fit_first hm hc
  have hs6 := h6.size
  have hs7 := h7.size
  have hnotY : ∀ b, w.heap.size ≤ b → ¬ Y b := fun b hb q => by have := hY b q; omega
  have htk : m.vars.take m.vars.length = m.vars := List.take_length
  have hat := hla.at'
  have hinj := hla.inj
  have hmp := hla.map
  rw [htk] at hat hinj hmp
  have hsvlt : ∀ g ∈ m.vars, sl g.name < w6.heap.size := fun g hg => lt_blk (hat g hg).2
  have hVL : ∀ b, VLo [⟨m, lb, vb, sl⟩] b → ∃ g ∈ m.vars, b = sl g.name := by
    rintro b ⟨lo, hlo, g, hg, e⟩
    rw [List.mem_singleton] at hlo
    subst hlo
    exact ⟨g, hg, e⟩
  have hnV : ∀ b, b < w.heap.size ∨ w6.heap.size ≤ b → ¬ VLo [⟨m, lb, vb, sl⟩] b := fun b hb q => by
    obtain ⟨g, hg, e⟩ := hVL b q
    have h1 := (hat g hg).1
    have h2 := hsvlt g hg
    omega
  have hk : ∀ b, b < w6.heap.size → b ≠ wb → w8.heap[b]? = w6.heap[b]? := fun b hb hne => (hx.block b (by omega) hne).trans (h7.block b hb)
  have hlbl := lt_blk hbl
  have hvbl := hmp.lt
  have hst : ∀ b, w.heap.size ≤ b → b < w6.heap.size → (∀ g ∈ m.vars, sl g.name ≠ b) → StB Y [⟨m, lb, vb, sl⟩] wb tb nv b := fun b h1 h2 h3 =>
    ⟨hnotY b h1, fun q => by obtain ⟨g, hg, e⟩ := hVL b q; exact h3 g hg e.symm, by omega, by omega, fun e => by have := (hnx b e).1; omega⟩
  refine ⟨nv, tb, ⟨hblk, ⟨fun q => (hY wb q).2.2 rfl, hnV wb (Or.inl hwl)⟩, hnm, fun b hb => ⟨hnotY b (by have := (hnx b hb).1; omega), by have := (hnx b hb).1; omega, (hnx b hb).2, hnV b (Or.inr (by have := (hnx b hb).1; omega))⟩, ⟨hnotY tb (by omega), by omega, hnV tb (Or.inr (by omega))⟩, ⟨1, by omega, ?_⟩, fun lo hlo => ?_, fun b hb => ?_, by simp, ?_, fun lo hlo => ?_, rfl⟩, ?_, htb⟩
  · have e : thrL [⟨m, lb, vb, sl⟩] = updV (fun _ => none) m.name (.pointer (some ⟨lb, 0, none⟩)) := by
      funext k
      unfold thrL updV
      by_cases hk : k = m.name
      · rw [if_pos hk]; simp [hk]
      · rw [if_neg hk, List.find?_cons_of_neg (by simpa using fun e => hk e.symm)]; rfl
    rw [e]
    exact hmap
  · rw [List.mem_singleton] at hlo
    subst hlo
    refine ⟨⟨ia, ga, pa, ba, ic, gc, pc, bc, (hk lb hlbl (by omega)).trans hbl, (hmb.md).mono (fun b hb hl => ⟨((hx.block b (by omega) (by omega)).trans (h7.block b (by omega))).trans (h6.block b hl), fun q => by have := hY b q; omega, hnV b (Or.inl hl), by omega, by omega, fun e => by have := (hnx b e).1; omega⟩)⟩, hst lb hlb hlbl (fun g hg => (hsl g hg).1), hst vb hvb hvbl (fun g hg => (hsl g hg).2), ⟨m.vars.length, hmp.on (hk vb hvbl (by omega))⟩, hfit⟩
  · obtain ⟨g, hg, e⟩ := hVL b hb
    have h1 := (hat g hg).1
    have h2 := hsvlt g hg
    have := hx.size
    exact ⟨by omega, hnotY b (by omega)⟩
  · intro lo hlo lo' hlo' g hg g' hg' e
    rw [List.mem_singleton] at hlo hlo'
    subst hlo
    subst hlo'
    exact ⟨rfl, hinj g hg g' hg' e⟩
  · rw [List.mem_singleton] at hlo
    subst hlo
    refine ⟨⟨m, Tp.fresh m⟩, by simp [Tp.partOf], rfl, fun g hg => ?_⟩
    simp only
    rw [fresh_vals hfit.vn hg]
    refine ⟨by simp, ?_, fun v hv => ?_⟩
    · have h1 := (hat g hg).1
      exact (hk _ (hsvlt g hg) (by show sl g.name ≠ wb; omega)).trans (hat g hg).2
    · rw [(List.mem_replicate.1 hv).2]; decide
  · have hxx : Ext wb w w7 := Ext.below (h6.trans (h7.mono hs6))
    exact hxx.trans hx
end Go.Proofs.YtibncofnnlbmcaaGreatDoor
/- Chapter 4: what went on in a world has ended. -/
namespace Go.Proofs.YtibncofnnlbmcaaGreatDoor
open Go.RowKit Go.Maps
open Tp (Bs X S G Pr Pt Rs Rr Own)

theorem WW.less {X Y : Nat → Prop} {w : World} {wb : Nat} {L : List Lo} {P : List Pt} {nv : Value} {tb : Nat} (h : WW X w wb L P nv tb) (hs : ∀ b, Y b → X b) : WW Y w wb L P nv tb := by
  have hS : ∀ b, StB X L wb tb nv b → StB Y L wb tb nv b := fun b q => ⟨fun z => q.1 (hs b z), q.2⟩
  refine ⟨h.blk, ⟨fun z => h.xw.1 (hs _ z), h.xw.2⟩, h.nm, fun b hb => ⟨fun z => (h.nx b hb).1 (hs _ z), (h.nx b hb).2⟩, ⟨fun z => h.tx.1 (hs _ z), h.tx.2⟩, h.th, fun lo hl => ?_, fun b hb => ⟨(h.sv b hb).1, fun z => (h.sv b hb).2 (hs _ z)⟩, h.nd, h.inj, h.vals, h.mw⟩
  obtain ⟨⟨ia, ga, pa, ba, ic, gc, pc, bc, h1, h2⟩, h3, h4, h5, h6⟩ := h.lo lo hl
  exact ⟨⟨ia, ga, pa, ba, ic, gc, pc, bc, h1, h2.mono (fun b hb _ => ⟨rfl, hS b hb⟩)⟩, hS _ h3, hS _ h4, h5, h6⟩
theorem ints_at {w : World} {base : Nat} {v : Value} {l : List Int} (h : w.ownsRow base 2 1 v l.length (ints l)) : ∃ oa oc, v = .slice oa l.length oc ∧ IntsAt w l oa ∧ (∀ a, oa = some a → base ≤ a.block) ∧ l.length ≤ oc := by
  rcases h.2 with ⟨hv, h0⟩ | ⟨g, cap, cur, hv, hb, hg, h4, h5, h6, h7⟩
  · exact ⟨none, 0, by rw [hv, h0], ⟨fun i hi => by omega⟩, fun a e => (by cases e), by omega⟩
  · refine ⟨_, _, hv, ⟨fun i hi => ⟨g, 0, rfl, lt_blk hg, ?_⟩⟩, fun a e => (by cases e; exact hb), h4⟩
    rw [Nat.zero_add, cell_blk hg]
    have h8 : (ints l)[i]? = some (.int .i64 l[i]) := by unfold ints; simp [hi]
    rw [← h7, Nat.mul_one, List.getElem?_take_of_lt hi] at h8
    simpa using h8
structure GonP (X : Nat → Prop) (w : World) (wb : Nat) (L : List Lo) (nv : Value) (tb : Nat) (P' : List Pt) (out : List Int) (oa : Option Addr) (w' : World) : Prop where
  ww : WW X w' wb L P' nv tb
  keep : ∀ b, b < w.heap.size → ¬ VLo L b → w'.heap[b]? = w.heap[b]?
  it : IntsAt w' out oa
  oi : ∀ v ∈ out, Tp.I64 v
  ol : out.length ≤ 200
  far : ∀ a, oa = some a → w.heap.size ≤ a.block
  size : w.heap.size ≤ w'.heap.size
  os : w'.os = w.os
  tape : w'.tape = w.tape
  output : w'.output = w.output
theorem gone {α : Type} {X : Nat → Prop} {w w' : World} {wb : Nat} {L : List Lo} {P : List Pt} {nv : Value} {tb fuel : Nat} {r : Rr α} {e : Ending} (h : WW X w wb L P nv tb) (hf : fuel ≤ 800000) (hg : GoesP w (WayA (cxOf w tb fuel L) (goesW w (some tb) (fuel : Int)) r) e w') :
    ∃ oa oc, e = .returned (.agg #[.int .i64 ((Tp.endOf r).2.way : Int), .slice oa (Tp.endOf r).2.out.length oc]) ∧ (Tp.endOf r).2.out.length ≤ oc ∧ GonP X w wb L nv tb (Tp.endOf r).1 (Tp.endOf r).2.out oa w' := by
  obtain ⟨w2, way, oa, on, oc, hA, hc, he, hx⟩ := hg
  have fin : ∀ (s : Rs) (k : Nat), GS (cxOf w tb fuel L) w2 s k → Kp (cxOf w tb fuel L) nY (goesW w (some tb) (fuel : Int)) w2 → on = s.out.length ∧ s.out.length ≤ oc ∧ GonP X w wb L nv tb s.w s.out oa w' := by
    intro s k hgs hk
    have hb := goesW_below w (some tb) (fuel : Int)
    have hsz := hb.size
    obtain ⟨hww, hkk⟩ := h.after hf hgs hk hx
    obtain ⟨ov, h1, h2⟩ := hgs.outIs
    have h1' : w2.cell? ⟨w.heap.size + 1, 3, none⟩ = some ov := h1
    rw [hc] at h1'
    have h3 := (Option.some.inj h1').symm
    rw [h3] at h2
    have h2' := owns_keep (w' := w') h2 (fun b hb hl _ => hx.block b hl (by have : w.heap.size + 1 + 1 ≤ b := hb; omega))
    obtain ⟨oa', oc', e1, e2, e3, e6⟩ := ints_at h2'
    injection e1 with e1 e4 e5
    subst e1
    exact ⟨e4, by rw [e5]; exact e6, hww, hkk, e2, hgs.oi, hgs.ol, fun a q => by have : w.heap.size + 1 + 1 ≤ a.block := e3 a q; omega, by have := hk.size; have := hx.size; omega, (hx.os.trans hk.os).trans hb.os, (hx.tape.trans hk.tape).trans hb.tape, (hx.output.trans hk.output).trans hb.output⟩
  cases r with
  | gas => exact hA.elim
  | ok x s => obtain ⟨rfl, k, hgs, hk⟩ := hA; obtain ⟨rfl, q⟩ := fin s k hgs hk; exact ⟨oa, oc, he, q⟩
  | stop wy s => obtain ⟨rfl, k, hgs, hk⟩ := hA; obtain ⟨rfl, q⟩ := fin s k hgs hk; exact ⟨oa, oc, he, q⟩
/- a module's body, as the world has it -/
theorem ss_body {Y : Nat → Prop} {w : World} {wb tb fuel : Nat} {L : List Lo} {P : List Pt} {nv : Value} {lo : Lo} {ia ga pa ba : Option Addr} {ic gc pc bc : Nat} (h : WW Y w wb L P nv tb) (hf : fuel ≤ 800000) (hlo : lo ∈ L) (hb : w.heap[lo.lb]? = some (.cells (lcells lo.m ia ga pa ba ic gc pc bc lo.vb) 107 (0, 0))) : Ss (cxOf w tb fuel L) lo [] lo.m.body (.slice ba lo.m.body.length bc) := by
  have hok := (h.cx fuel hf).1.lo lo hlo
  obtain ⟨ia', ga', pa', ba', ic', gc', pc', bc', h1, h2⟩ := hok.blk
  have h3 := ((goesW_below w (some tb) (fuel : Int)).block lo.lb (lt_blk hb)).trans hb
  have h4 := h1.symm.trans h3
  unfold lcells at h4
  simp only [Option.some.injEq, Obj.cells.injEq, Array.mk.injEq, List.cons.injEq, Value.slice.injEq] at h4
  obtain ⟨bcs, b1, b2⟩ := h2.bd
  refine ⟨⟨bcs, b1, ?_⟩, hok.fit.wm.b, hok.fit.bd⟩
  rw [← h4.1.2.2.2.2.1.1, ← h4.1.2.2.2.2.1.2.2]
  exact b2
end Go.Proofs.YtibncofnnlbmcaaGreatDoor
/- Chapter 4: the first module of a world is loaded: Load. -/
namespace Go.Proofs.YtibncofnnlbmcaaGreatDoor
open Go.RowKit Go.Maps
open Tp (Bs X S G Pr Pt Rs Rr Own)

/- an error that was found, in memory -/
def ErrV (B : Nat) (w' : World) (er : Nat × Option Nat) (v : Value) : Prop := match er.2 with
  | none => v = .iface 44 (.int .i64 (er.1 : Int))
  | some pl => ∃ ab, v = .iface 117 (.pointer (some ⟨ab, 0, none⟩)) ∧ B ≤ ab ∧ w'.cell? ⟨ab, 0, none⟩ = some (.int .i64 (er.1 : Int)) ∧ w'.cell? ⟨ab, 1, none⟩ = some (.int .i64 (pl : Int))
def no2 : Value := .agg #[.int .i64 0, .slice none 0 0]
def LoadP (Y : Nat → Prop) (w : World) (wb : Nat) (a : Tp.Ans) (e : Ending) (w' : World) : Prop := match a.err with
  | some er => Below w.heap.size w w' ∧ ∃ v, e = .returned (.tuple #[no2, v]) ∧ ErrV w.heap.size w' er v
  | none => Ext wb w w' ∧ ∃ oa oc L nv tb, e = .returned (.tuple #[.agg #[.int .i64 (a.e.way : Int), .slice oa a.e.out.length oc], .nilIface]) ∧ WW Y w' wb L a.w nv tb ∧ IntsAt w' a.e.out oa ∧ (∀ v ∈ a.e.out, Tp.I64 v) ∧ (∀ b, VLo L b → w.heap.size ≤ b) ∧ a.e.out.length ≤ 200 ∧ a.e.out.length ≤ oc
theorem seen0 {w : World} {sb : Nat} (h : MapV w sb 0 (fun _ => none)) : SeenV w (.map (some sb)) (fun _ => none) := Or.inr ⟨sb, 0, rfl, fun _ => none, h, fun _ => rfl⟩
theorem loadW_ok {m : Tp.M} {fuel : Nat} (h : Tp.check m (fun _ => none) = none) : Tp.loadW of0 [] m fuel = ⟨(Tp.endOf (Tp.goS (Tp.gasOf [⟨m, Tp.fresh m⟩] m.body fuel) 0 m.name (fun _ => none) m.body ⟨[⟨m, Tp.fresh m⟩], fuel, []⟩)).1, (Tp.endOf (Tp.goS (Tp.gasOf [⟨m, Tp.fresh m⟩] m.body fuel) 0 m.name (fun _ => none) m.body ⟨[⟨m, Tp.fresh m⟩], fuel, []⟩)).2, 0, none⟩ := by
  unfold Tp.loadW
  rw [if_neg (by simp [Tp.partOf])]
  have hs : Tp.seenW of0 [] = fun _ => none := by funext k; rfl
  rw [hs, h]
  simp only
  rw [if_neg (by simp)]
  rfl
set_option maxRecDepth 100000 in
set_option maxHeartbeats 4000000 in
theorem load_ok {Y : Nat → Prop} {w : World} {wb fuel B0 : Nat} {m : Tp.M} {ia ga pa ba : Option Addr} {ic gc pc bc : Nat} (hw : w.heap[wb]? = some (.cells #[.slice none 0 0, .map none] 28 (0, 0))) (hmb0 : MB w B0 m ia ga pa ba ic gc pc bc) (hB0 : B0 ≤ wb) (hY : ∀ b, Y b → B0 ≤ b ∧ b < w.heap.size ∧ b ≠ wb) (hm : Tp.WM m) (hf : fuel ≤ 800000) (hck : Tp.check m (fun _ => none) = none) :
    Calls Tryz.prog 17 #[.pointer (some ⟨wb, 0, none⟩), .agg (mcells (bs m.name) (.slice ia m.imports.length ic) (.slice ga m.vars.length gc) (.slice pa m.procs.length pc) (.slice ba m.body.length bc)), .int .i64 (fuel : Int)] w (LoadP Y w wb (Tp.loadW of0 [] m fuel)) := by
  have hmb : MB w w.heap.size m ia ga pa ba ic gc pc bc := (hmb0.md).mb (fun b hb hl => hl)
  obtain ⟨a, ha⟩ : ∃ a, a = Tp.loadW of0 [] m fuel := ⟨_, rfl⟩
  rw [← ha]
  have hnl := okn_1000 hm.n
  have hwl := lt_blk hw
  obtain ⟨W, hW⟩ : ∃ W, W = (w.alloc (.cells (mcells (bs m.name) (.slice ia m.imports.length ic) (.slice ga m.vars.length gc) (.slice pa m.procs.length pc) (.slice ba m.body.length bc)) 36)).alloc (.cells #[.int .i64 0, .slice none 0 0] 43) := ⟨_, rfl⟩
  have hbW : Below w.heap.size w W := by rw [hW]; exact ((Below.refl _ _).alloc (Nat.le_refl _) _).alloc (by simp) _
  have hsW : W.heap.size = w.heap.size + 2 := by rw [hW]; simp
  have hkm : W.heap[w.heap.size]? = some (.cells (mcells (bs m.name) (.slice ia m.imports.length ic) (.slice ga m.vars.length gc) (.slice pa m.procs.length pc) (.slice ba m.body.length bc)) 36 (0, 0)) := by rw [hW]; exact (Below.heap_alloc _ _ _ (by simp)).trans (new_blk _ _)
  have hke : W.heap[w.heap.size + 1]? = some (.cells #[.int .i64 0, .slice none 0 0] 43 (0, 0)) := by
    have := new_blk (w.alloc (.cells (mcells (bs m.name) (.slice ia m.imports.length ic) (.slice ga m.vars.length gc) (.slice pa m.procs.length pc) (.slice ba m.body.length bc)) 36)) (.cells #[.int .i64 0, .slice none 0 0] 43)
    rw [hW]
    simpa using this
  have hww := (hbW.block wb hwl).trans hw
  have k1 : W.cell? ⟨wb, 1, none⟩ = some (.map none) := (cell_blk hww).trans rfl
  have km : W.cell? ⟨w.heap.size, 0, none⟩ = some (.string (bs m.name)) := (cell_blk hkm).trans rfl
  have hlk : ∀ n, (Instr.lookup 26 (.map none) (.string (bs m.name)) false).run Tryz.prog (W.drewN n) = .ok (.pointer none) (W.drewN n) := fun n => nilmap_look (W.drewN n) (t := 26) Tryz.underlying26 (zeroLo _) m.name hnl false
  have HMB := Lib.hid hmb
  have HSM := Lib.hid hm.sml
  have HBW := Lib.hid hbW
  have HKM := Lib.hid hkm
  have HKE := Lib.hid hke
  have HWW := Lib.hid hww
  have HA := Lib.hid ha
  have HM := Lib.hid hm
  have HMB0 := Lib.hid hmb0
  have HY := Lib.hid hY
  have HSW := Lib.hid hsW
  have hwlW : wb < W.heap.size := by omega
  have hmlW : w.heap.size < W.heap.size := by omega
  unfold mcells at *
  obtain ⟨mn, hmn⟩ : ∃ mn, mn = bs m.name := ⟨_, rfl⟩
  have HCK : Hid (∀ W' sb, Below w.heap.size w W' → MapV W' sb 0 (fun _ => none) → Calls Tryz.prog 37 #[.agg #[.string mn, .slice ia m.imports.length ic, .slice ga m.vars.length gc, .slice pa m.procs.length pc, .slice ba m.body.length bc], .map (some sb)] W' (CheckP W' (Tp.check m (fun _ => none)))) := fun W' sb hW' hmap => by
    have := check_post HSM.out (HMB.out.up hW') (seen0 hmap)
    unfold mcells at this
    rw [hmn]
    exact this
  rw [← hmn] at hW km hlk HKM ⊢
  have HMN : Hid (mn = bs m.name) := hmn
  have HIL : Hid (∃ q : Nat × Nat × Nat × Nat, q = (m.imports.length, m.vars.length, m.procs.length, m.body.length)) := ⟨_, rfl⟩
  clear hw hmb hm hmb0 hY ha hww hkm hke hbW hsW hmn HIL
  obtain ⟨il, hil⟩ : ∃ il, il = m.imports.length := ⟨_, rfl⟩
  obtain ⟨gl, hgl⟩ : ∃ gl, gl = m.vars.length := ⟨_, rfl⟩
  obtain ⟨pl, hpl⟩ : ∃ pl, pl = m.procs.length := ⟨_, rfl⟩
  obtain ⟨bl, hbl⟩ : ∃ bl, bl = m.body.length := ⟨_, rfl⟩
  rw [← hil, ← hgl, ← hpl, ← hbl] at hW HKM HCK ⊢
  have HQ := Lib.hid (And.intro hil (And.intro hgl (And.intro hpl hbl)))
  clear hil hgl hpl hbl
  have HHCK := Lib.hid hck
  clear hck
  go_enter Tryz.func17, Tryz.ntmps17
  go_upto_region 1 with fail
  rw [← hW]
  clear hW
  go_quiet (fail)
  obtain ⟨w1, hw1⟩ : ∃ w1, w1 = W.drewN nq := ⟨_, rfl⟩
  have e1 : w1.heap = W.heap := by rw [hw1]; rfl
  have HB1 : Hid (Below W.heap.size W w1) := by rw [hw1]; exact below_drewN (Below.refl _ _) _
  rw [← hw1]
  clear hw1 hlk k1 km
  have hbd : Below W.heap.size W w1.drew := HB1.out.drew
  have hmd := (hbd.block _ hmlW).trans HKM.out
  have HS0 : Hid (w1.drew.cell? ⟨w.heap.size, 0, none⟩ = some (.string mn) ∧ w1.drew.cell? ⟨w.heap.size, 1, none⟩ = some (.slice ia il ic) ∧ w1.drew.cell? ⟨w.heap.size, 2, none⟩ = some (.slice ga gl gc) ∧ w1.drew.cell? ⟨w.heap.size, 3, none⟩ = some (.slice pa pl pc) ∧ w1.drew.cell? ⟨w.heap.size, 4, none⟩ = some (.slice ba bl bc)) := cell_box5 hmd
  have hs1d : w1.drew.heap.size = W.heap.size := by show w1.heap.size = _; rw [e1]
  have HSE : Hid (Calls Tryz.prog 38 #[.pointer (some ⟨wb, 0, none⟩)] w1.drew fun e w2 => e = .returned (.map (some W.heap.size)) ∧ (Below W.heap.size W w2 ∧ MapV w2 W.heap.size 0 (fun _ => none)) ∧ (w2.cell? ⟨w.heap.size, 0, none⟩ = some (.string mn) ∧ w2.cell? ⟨w.heap.size, 1, none⟩ = some (.slice ia il ic) ∧ w2.cell? ⟨w.heap.size, 2, none⟩ = some (.slice ga gl gc) ∧ w2.cell? ⟨w.heap.size, 3, none⟩ = some (.slice pa pl pc) ∧ w2.cell? ⟨w.heap.size, 4, none⟩ = some (.slice ba bl bc))) := by
    refine (seen_first ((hbd.block _ hwlW).trans HWW.out)).mono ?_
    rintro e w2 ⟨rfl, hw2⟩
    have hb2 : Below w1.drew.heap.size w1.drew w2 := by rw [hw2]; exact (Below.refl _ _).alloc (Nat.le_refl _) _
    have hB2 : Below W.heap.size W w2 := hbd.trans (hb2.mono (by rw [hs1d]; exact Nat.le_refl _))
    have hM2 : MapV w2 w1.drew.heap.size 0 (fun _ => none) := by rw [hw2]; exact MapV.made _
    rw [hs1d] at hM2 ⊢
    exact ⟨rfl, ⟨hB2, hM2⟩, cell_box5 ((hB2.block _ hmlW).trans HKM.out)⟩
  have HCK2 : Hid (∀ w2, Below W.heap.size W w2 ∧ MapV w2 W.heap.size 0 (fun _ => none) → Calls Tryz.prog 37 #[.agg #[.string mn, .slice ia il ic, .slice ga gl gc, .slice pa pl pc, .slice ba bl bc], .map (some W.heap.size)] w2 fun e w3 => e = .returned .nilIface ∧ Below W.heap.size W w3 ∧ (w3.cell? ⟨w.heap.size, 0, none⟩ = some (.string mn) ∧ w3.cell? ⟨w.heap.size, 1, none⟩ = some (.slice ia il ic) ∧ w3.cell? ⟨w.heap.size, 2, none⟩ = some (.slice ga gl gc) ∧ w3.cell? ⟨w.heap.size, 3, none⟩ = some (.slice pa pl pc) ∧ w3.cell? ⟨w.heap.size, 4, none⟩ = some (.slice ba bl bc))) := fun w2 h2 => by
    have := HCK.out w2 W.heap.size (HBW.out.trans (h2.1.mono (by omega))) h2.2
    rw [HHCK.out] at this
    refine this.mono ?_
    rintro e w3 ⟨hb3, rfl⟩
    have hB3 : Below W.heap.size W w3 := h2.1.trans (hb3.mono h2.1.size)
    exact ⟨rfl, hB3, cell_box5 ((hB3.block _ hmlW).trans HKM.out)⟩
  clear hbd hmd HCK hs1d
  go_upto_region 3 with fail
  go_region_held3 (fun w' => w'.cell? ⟨w.heap.size, 0, none⟩ = some (.string mn) ∧ w'.cell? ⟨w.heap.size, 1, none⟩ = some (.slice ia il ic) ∧ w'.cell? ⟨w.heap.size, 2, none⟩ = some (.slice ga gl gc) ∧ w'.cell? ⟨w.heap.size, 3, none⟩ = some (.slice pa pl pc) ∧ w'.cell? ⟨w.heap.size, 4, none⟩ = some (.slice ba bl bc)) (with_reducible (first | exact HS3.out | exact HS2.out | exact HS0.out)) (first | (go_at_call 38; refine HSE.out.mono ?_; rintro e w2 ⟨rfl, hb2, hs2⟩; have HB2 := Lib.hid hb2; have HS2 := Lib.hid hs2; clear hb2 hs2) | (go_at_call 37; refine (HCK2.out _ HB2.out).mono ?_; rintro e w3 ⟨rfl, hb3, hs3⟩; have HB3 := Lib.hid hb3; have HS3 := Lib.hid hs3; clear hb3 hs3))
  have HB3w : Hid (Below w.heap.size w w3) := HBW.out.trans (HB3.out.mono (by omega))
  have hww3 := (HB3.out.block wb hwlW).trans HWW.out
  have k0 : w3.cell? ⟨wb, 0, none⟩ = some (.slice none 0 0) := (cell_blk hww3).trans rfl
  have HW3 := Lib.hid hww3
  have HMB3 : Hid (MB w3 w3.heap.size m ia ga pa ba ic gc pc bc) := HMB.out.up HB3w.out
  have HFR : Hid (Calls Tryz.prog 39 #[.agg #[.string mn, .slice ia il ic, .slice ga gl gc, .slice pa pl pc, .slice ba bl bc]] w3 (FreshP w3 m ia ga pa ba ic gc pc bc)) := by
    have := fresh_post HMB3.out HM.out (fit_first HM.out HHCK.out).vn
    unfold mcells at this
    rw [← HMN.out, ← HQ.out.1, ← HQ.out.2.1, ← HQ.out.2.2.1, ← HQ.out.2.2.2] at this
    exact this
  obtain ⟨s0, s1, s2, s3, s4⟩ := HS3.out
  clear hww3 HS0 HSE HCK2 HS2 HS3
  go_wp2_with fail
  refine HFR.out.mono ?_
  rintro e w6 ⟨hb6, lb, vb, sl, rfl, hlb, hvb, hne, hbl, hla, hsl⟩
  have hwl3 : wb < w3.heap.size := by have := HB3.out.size; omega
  have hw6 := (hb6.block wb hwl3).trans HW3.out
  obtain ⟨w7, hw7⟩ : ∃ w7, w7 = w6.alloc (.cells #[.pointer (some ⟨lb, 0, none⟩)] 88) := ⟨_, rfl⟩
  have hb7 : Below w6.heap.size w6 w7 := by rw [hw7]; exact (Below.refl _ _).alloc (Nat.le_refl _) _
  have kl7 : w7.cell? ⟨w6.heap.size, 0, none⟩ = some (.pointer (some ⟨lb, 0, none⟩)) := by rw [hw7]; exact (cell_blk (new_blk w6 _)).trans rfl
  have HADD : Hid (Calls Tryz.prog 40 #[.pointer (some ⟨wb, 0, none⟩), .pointer (some ⟨lb, 0, none⟩)] w7 (AddP w7 wb lb m.name)) := add_first ((hb7.block wb (lt_blk hw6)).trans hw6) ((hb7.block lb (lt_blk hbl)).trans hbl) (by omega) (by have := okn_1000 HM.out.n; omega)
  have hs6 := hb6.size
  have HX := Lib.hid (And.intro hb6 (And.intro hlb (And.intro hvb (And.intro hne (And.intro hbl (And.intro hla (And.intro hsl (And.intro hb7 kl7))))))))
  clear hb6 hlb hvb hne hbl hla hsl hb7 hw6 s0 s1 s2 s3 s4 k0
  go_upto_region 9 with fail
  rw [← hw7]
  clear hw7
  go_wp2_with fail
  refine HADD.out.mono ?_
  intro e w8 hadd
  have he8 := hadd.1
  subst he8
  have HGO : Hid (Calls Tryz.prog 41 #[.pointer (some ⟨wb, 0, none⟩), .int .i64 (fuel : Int), .func (.func 42) #[] #[.pointer (some ⟨w6.heap.size, 0, none⟩), .pointer (some ⟨w.heap.size, 0, none⟩)]] w8 fun e w9 => ∃ oa oc, e = .returned (.agg #[.int .i64 (a.e.way : Int), .slice oa a.e.out.length oc]) ∧ w9.heap[w.heap.size + 1]? = some (.cells #[.int .i64 0, .slice none 0 0] 43 (0, 0)) ∧ ∀ w10, Ext (w.heap.size + 1) w9 w10 → LoadP Y w wb a (.returned (.tuple #[.agg #[.int .i64 (a.e.way : Int), .slice oa a.e.out.length oc], .nilIface])) w10) := by
    obtain ⟨hb6, hlb, hvb, hne, hbl, hla, hsl, hb7, kl7⟩ := HX.out
    have hs3 := HB3.out.size
    have hsW := HSW.out
    have hmb3 : MB w3 B0 m ia ga pa ba ic gc pc bc := ((HMB0.out.md).mono (D' := fun i => i < B0) (fun b hb hl => ⟨HB3w.out.block b hl, hb⟩)).mb (fun b hb _ => hb)
    obtain ⟨nv, tb, hww, hx8, htb⟩ := ww_first (Y := fun b => Y b ∨ b = w.heap.size + 1) HM.out HHCK.out hmb3 hB0 hwl3 (fun b hb => by
      rcases hb with hb | rfl
      · have := HY.out b hb; omega
      · omega) hb6 hlb hvb hne hbl hla hsl hb7 hadd
    have hlo : (⟨m, lb, vb, sl⟩ : Lo) ∈ [(⟨m, lb, vb, sl⟩ : Lo)] := List.mem_singleton.2 rfl
    have hx7 := hadd.2.1
    have hs7 := hb7.size
    have hlb8 : w8.heap[lb]? = some (.cells (lcells m ia ga pa ba ic gc pc bc vb) 107 (0, 0)) := ((hx7.block lb (by have := lt_blk hbl; omega) (by omega)).trans (hb7.block lb (lt_blk hbl))).trans hbl
    have hm8 : w8.heap[w.heap.size]? = some (.cells #[.string mn, .slice ia il ic, .slice ga gl gc, .slice pa pl pc, .slice ba bl bc] 36 (0, 0)) := ((hx8.block w.heap.size (by omega) (by omega)).trans (HB3.out.block w.heap.size (by omega))).trans HKM.out
    have he8 : w8.heap[w.heap.size + 1]? = some (.cells #[.int .i64 0, .slice none 0 0] 43 (0, 0)) := ((hx8.block _ (by omega) (by omega)).trans (HB3.out.block _ (by omega))).trans HKE.out
    have kl8 : w8.cell? ⟨w6.heap.size, 0, none⟩ = some (.pointer (some ⟨lb, 0, none⟩)) := (World.cell?_of_block (w := w7) (hx7.block w6.heap.size (lt_of_cell kl7) (by omega))).trans kl7
    have km8 : w8.cell? ⟨w.heap.size, 4, none⟩ = some (.slice ba bl bc) := (cell_blk hm8).trans rfl
    have hss := ss_body hww hf hlo hlb8
    have hl1 := load1_post (gas := Tp.gasOf [⟨m, Tp.fresh m⟩] m.body fuel) hww hf hlo kl8 km8 (by rw [HQ.out.2.2.2]; exact hss) Tp.goS_enough
    have hgo := goes_post (caps := #[.pointer (some ⟨w6.heap.size, 0, none⟩), .pointer (some ⟨w.heap.size, 0, none⟩)]) cf_load ((cell_blk hww.blk).trans rfl) hl1
    refine hgo.mono ?_
    intro e w9 hG
    obtain ⟨oa, oc, he, hcap, hgn⟩ := gone hww hf hG
    have hal := HA.out.trans (loadW_ok (fuel := fuel) HHCK.out)
    have hae : a.e = (Tp.endOf (Tp.goS (Tp.gasOf [⟨m, Tp.fresh m⟩] m.body fuel) 0 m.name (fun _ => none) m.body ⟨[⟨m, Tp.fresh m⟩], fuel, []⟩)).2 := by rw [hal]
    have haw : a.w = (Tp.endOf (Tp.goS (Tp.gasOf [⟨m, Tp.fresh m⟩] m.body fuel) 0 m.name (fun _ => none) m.body ⟨[⟨m, Tp.fresh m⟩], fuel, []⟩)).1 := by rw [hal]
    have hern : a.err = none := by rw [hal]
    have he' : e = .returned (.agg #[.int .i64 (a.e.way : Int), .slice oa a.e.out.length oc]) := by rw [hae]; exact he
    have hgn' : GonP (fun b => Y b ∨ b = w.heap.size + 1) w8 wb [⟨m, lb, vb, sl⟩] nv tb a.w a.e.out oa w9 := by rw [hae, haw]; exact hgn
    have hnv : ¬ VLo [⟨m, lb, vb, sl⟩] (w.heap.size + 1) := fun q => (hww.sv _ q).2 (Or.inr rfl)
    have h8 := hx8.size
    refine ⟨oa, oc, he', (hgn'.keep _ (by omega) hnv).trans he8, fun w10 h10 => ?_⟩
    unfold LoadP
    rw [hern]
    have hlow : ∀ b, b < w.heap.size → ¬ VLo [⟨m, lb, vb, sl⟩] b := by
      rintro b hb ⟨lo, hl, g, hg, e⟩
      rw [List.mem_singleton] at hl
      subst hl
      have htk : m.vars.take m.vars.length = m.vars := List.take_length
      have hat := hla.at'
      rw [htk] at hat
      have := (hat g hg).1
      have : b = sl g.name := e
      omega
    have h9 := hgn'.size
    refine ⟨⟨(((h10.os.trans hgn'.os).trans hx8.os).trans HB3w.out.os), (((h10.tape.trans hgn'.tape).trans hx8.tape).trans HB3w.out.tape), (((h10.output.trans hgn'.output).trans hx8.output).trans HB3w.out.output), by have := h10.size; omega, fun b hb hne' => ?_⟩, oa, oc, [⟨m, lb, vb, sl⟩], nv, tb, rfl, (hgn'.ww.keep (fun b hb hX hv => h10.block b hb (fun e => hX (Or.inr e))) h10.size (fun lo hl => ?_) hgn'.ww.mw).less (fun b hb => Or.inl hb), ⟨fun i hi => ?_⟩, hgn'.oi, fun b hv => Nat.le_of_not_lt fun q => hlow b q hv, hgn'.ol, by rw [hae]; exact hcap⟩
    · exact (((h10.block b (by omega) (by omega)).trans (hgn'.keep b (by omega) (hlow b hb))).trans (hx8.block b (by omega) hne')).trans (HB3w.out.block b hb)
    · obtain ⟨p, p1, p2, p3⟩ := hgn'.ww.vals lo hl
      exact ⟨p, p1, p2, fun g hg => ⟨(p3 g hg).1, (h10.block _ (lt_blk (p3 g hg).2.1) (fun e => (hgn'.ww.sv _ ⟨lo, hl, g, hg, rfl⟩).2 (Or.inr e))).trans (p3 g hg).2.1, (p3 g hg).2.2⟩⟩
    · obtain ⟨b, o, q1, q2, q3⟩ := hgn'.it.c i hi
      have hfar : w8.heap.size ≤ b := hgn'.far _ q1
      exact ⟨b, o, q1, by have := h10.size; omega, (World.cell?_of_block (w := w9) (h10.block b q2 (by omega))).trans q3⟩
  have hwl8 : wb < w8.heap.size := by have := hadd.2.1.size; have := HX.out.2.2.2.2.2.2.2.1.size; omega
  clear hadd HADD HX HFR HMB3 HW3
  go_wp2_with fail
  refine HGO.out.mono ?_
  rintro e w9 ⟨oa, oc, rfl, hE9, hfin⟩
  have e0 : w9.cell? ⟨w.heap.size + 1, 0, none⟩ = some (.int .i64 0) := (cell_blk hE9).trans rfl
  have e1' : w9.cell? ⟨w.heap.size + 1, 1, none⟩ = some (.slice none 0 0) := (cell_blk hE9).trans rfl
  have ez : ∀ j, w9.frozen? ⟨w.heap.size + 1, j, none⟩ = false := fun j => frozen_blk hE9
  have hel := lt_blk hE9
  have hset := set_blk 1 (.slice oa a.e.out.length oc) (set_blk 0 (.int .i64 (a.e.way : Int)) hE9)
  obtain ⟨w4, hw4⟩ : ∃ w4, w4 = (w9.setCell ⟨w.heap.size + 1, 0, none⟩ (.int .i64 (a.e.way : Int))).setCell ⟨w.heap.size + 1, 1, none⟩ (.slice oa a.e.out.length oc) := ⟨_, rfl⟩
  have f0 : w4.cell? ⟨w.heap.size + 1, 0, none⟩ = some (.int .i64 (a.e.way : Int)) := by rw [hw4]; exact (cell_blk hset).trans rfl
  have f1 : w4.cell? ⟨w.heap.size + 1, 1, none⟩ = some (.slice oa a.e.out.length oc) := by rw [hw4]; exact (cell_blk hset).trans rfl
  have HR := Lib.hid (hfin w4 (by rw [hw4]; exact ((Ext.refl _ _).set 0 _).set 1 _))
  clear hE9 hset hfin HGO
  go_wp2_with fail
  rw [← hw4]
  exact bodyPost_ret (v := .tuple #[.agg #[.int .i64 (a.e.way : Int), .slice oa a.e.out.length oc], .nilIface]) (by simp [results, Tryz.results17, go_sem, f0, f1]) rfl HR.out
end Go.Proofs.YtibncofnnlbmcaaGreatDoor
/- slices.Clone at numbers, at texts. -/
namespace Go.Proofs.YtibncofnnlbmcaaGreatDoor
open Go.RowKit

theorem Tryz.eqNilI (w : World) : (binOp .eql 29 (.slice none 0 0) (.slice none 0 0)).run Tryz.prog w = .ok (.bool true) w := by kernel_rfl
theorem Tryz.eqSomeI (w : World) (a : Addr) (n c : Nat) : (binOp .eql 29 (.slice (some a) n c) (.slice none 0 0)).run Tryz.prog w = .ok (.bool false) w := by kernel_rfl
set_option maxRecDepth 100000 in
theorem cloneI {w : World} {D : Nat → Prop} {v : Value} {n : Nat} {cs : List Value} (h : Row w D 2 1 v n cs) (hl : cs.length = n * 1) (h1 : ∀ u ∈ cs, u.oneCell' = true) (hn : n ≤ 1000) :
    Calls Tryz.prog 52 #[v] w fun e w' => ∃ v', e = .returned v' ∧ Below w.heap.size w w' ∧ w'.ownsRow w.heap.size 2 1 v' n cs := by
  have hq0 := Tryz.eqNilI
  have hq1 := Tryz.eqSomeI
  obtain ⟨i0, hi, hz0, hz1, hz2⟩ := info_parts Tryz.infoInt64
  rcases h with ⟨rfl, rfl, rfl⟩ | ⟨g, cap, cur, rfl, hD, hb, hcap, hmx, hsz, htk⟩
  · go_enter Tryz.func52, Tryz.ntmps52
    go_wp2_with fail
    go_ret
    exact ⟨_, rfl, Below.refl _ _, World.ownsRow_nil _ _ _ _⟩
  · have hal : Below w.heap.size w (w.alloc (.cells #[] 2)) := (Below.refl _ _).alloc (Nat.le_refl _) _
    have hown : (w.alloc (.cells #[] 2)).ownsRow w.heap.size 2 1 (.slice (some ⟨w.heap.size, 0, none⟩) 0 0) 0 [] :=
      ⟨rfl, Or.inr ⟨w.heap.size, 0, #[], rfl, Nat.le_refl _, new_blk _ _, Nat.le_refl _, by unfold maxLen; omega, rfl, rfl⟩⟩
    have hb' : (w.alloc (.cells #[] 2)).heap[g]? = some (.cells cur 2 (0, 0)) := (Below.heap_alloc _ _ _ (lt_blk hb)).trans hb
    have hnews : ∀ j u, cs[j]? = some u → (w.alloc (.cells #[] 2)).cell? ((⟨g, 0, none⟩ : Addr).add j) = some u := by
      intro j u hj
      have hjl : j < n * 1 := by rw [← hl]; exact (List.getElem?_eq_some_iff.1 hj).1
      rw [Addr.add_lit, cell_blk hb', Nat.zero_add, ← Array.getElem?_toList, ← hj, ← htk, List.getElem?_take_of_lt hjl]
    have HO := Lib.hid hown
    have HAL := Lib.hid hal
    have HNW := Lib.hid hnews
    have HL := Lib.hid hl
    have H1 := Lib.hid h1
    clear hown hal hb' hb hnews hl h1 hsz htk
    go_enter Tryz.func52, Tryz.ntmps52
    go_wp2_with (at_builtin; refine wpList_append_where _ rfl _ _ 29 rfl w.heap.size 2 i0 (.int .i64 0) 1 8 Tryz.underlying29 hi hz0 hz1 hz2 rfl (by decide) _ 0 [] rfl HO.out ⟨g, 0, none⟩ n cap cs rfl HL.out HNW.out H1.out (by unfold maxLen; omega) (by omega) (by simp) ?_)
    intro v3 w3 h3 g3 _
    have HB3 : Hid (Below w.heap.size w w3) := HAL.out.trans ((Below.refl w.heap.size _).grown g3 (by simp) (fun k hk => (HO.out.lt k hk).1))
    have HO3 : Hid (w3.ownsRow w.heap.size 2 1 v3 n cs) := by unfold Hid; simpa using h3
    clear h3 g3
    go_wp2_with fail
    go_ret
    exact ⟨_, rfl, HB3.out, HO3.out⟩
theorem Tryz.eqNilT (w : World) : (binOp .eql 25 (.slice none 0 0) (.slice none 0 0)).run Tryz.prog w = .ok (.bool true) w := by kernel_rfl
theorem Tryz.eqSomeT (w : World) (a : Addr) (n c : Nat) : (binOp .eql 25 (.slice (some a) n c) (.slice none 0 0)).run Tryz.prog w = .ok (.bool false) w := by kernel_rfl
set_option maxRecDepth 100000 in
theorem cloneT {w : World} {D : Nat → Prop} {v : Value} {n : Nat} {cs : List Value} (h : Row w D 9 1 v n cs) (hl : cs.length = n * 1) (h1 : ∀ u ∈ cs, u.oneCell' = true) (hn : n ≤ 1000) :
    Calls Tryz.prog 76 #[v] w fun e w' => ∃ v', e = .returned v' ∧ Below w.heap.size w w' ∧ w'.ownsRow w.heap.size 9 1 v' n cs := by
  have hq0 := Tryz.eqNilT
  have hq1 := Tryz.eqSomeT
  obtain ⟨i0, hi, hz0, hz1, hz2⟩ := info_parts Tryz.infoString
  rcases h with ⟨rfl, rfl, rfl⟩ | ⟨g, cap, cur, rfl, hD, hb, hcap, hmx, hsz, htk⟩
  · go_enter Tryz.func76, Tryz.ntmps76
    go_wp2_with fail
    go_ret
    exact ⟨_, rfl, Below.refl _ _, World.ownsRow_nil _ _ _ _⟩
  · have hal : Below w.heap.size w (w.alloc (.cells #[] 9)) := (Below.refl _ _).alloc (Nat.le_refl _) _
    have hown : (w.alloc (.cells #[] 9)).ownsRow w.heap.size 9 1 (.slice (some ⟨w.heap.size, 0, none⟩) 0 0) 0 [] :=
      ⟨rfl, Or.inr ⟨w.heap.size, 0, #[], rfl, Nat.le_refl _, new_blk _ _, Nat.le_refl _, by unfold maxLen; omega, rfl, rfl⟩⟩
    have hb' : (w.alloc (.cells #[] 9)).heap[g]? = some (.cells cur 9 (0, 0)) := (Below.heap_alloc _ _ _ (lt_blk hb)).trans hb
    have hnews : ∀ j u, cs[j]? = some u → (w.alloc (.cells #[] 9)).cell? ((⟨g, 0, none⟩ : Addr).add j) = some u := by
      intro j u hj
      have hjl : j < n * 1 := by rw [← hl]; exact (List.getElem?_eq_some_iff.1 hj).1
      rw [Addr.add_lit, cell_blk hb', Nat.zero_add, ← Array.getElem?_toList, ← hj, ← htk, List.getElem?_take_of_lt hjl]
    have HO := Lib.hid hown
    have HAL := Lib.hid hal
    have HNW := Lib.hid hnews
    have HL := Lib.hid hl
    have H1 := Lib.hid h1
    clear hown hal hb' hb hnews hl h1 hsz htk
    go_enter Tryz.func76, Tryz.ntmps76
    go_wp2_with (at_builtin; refine wpList_append_where _ rfl _ _ 25 rfl w.heap.size 9 i0 (.string ⟨#[]⟩) 1 16 Tryz.underlying25 hi hz0 hz1 hz2 rfl (by decide) _ 0 [] rfl HO.out ⟨g, 0, none⟩ n cap cs rfl HL.out HNW.out H1.out (by unfold maxLen; omega) (by omega) (by simp) ?_)
    intro v3 w3 h3 g3 _
    have HB3 : Hid (Below w.heap.size w w3) := HAL.out.trans ((Below.refl w.heap.size _).grown g3 (by simp) (fun k hk => (HO.out.lt k hk).1))
    have HO3 : Hid (w3.ownsRow w.heap.size 9 1 v3 n cs) := by unfold Hid; simpa using h3
    clear h3 g3
    go_wp2_with fail
    go_ret
    exact ⟨_, rfl, HB3.out, HO3.out⟩
end Go.Proofs.YtibncofnnlbmcaaGreatDoor
