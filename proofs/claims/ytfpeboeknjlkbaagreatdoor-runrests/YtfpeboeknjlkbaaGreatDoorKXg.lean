import Derived.Test.YtfpeboeknjlkbaaGreatDoorKXf
import Derived.Test.YtfpeboeknjlkbaaGreatDoorKXb
/- Small ones of RunRests: pick, ends, all of an empty world. -/
namespace Go.Proofs.YtfpeboeknjlkbaaGreatDoor
open Go.RowKit Go.Maps
open Tp (Bs X S G Pr Pt Rs Rr Own)

theorem WW.ext {X : Nat → Prop} {w w' : World} {wb b2 : Nat} {L : List Lo} {P : List Pt} {nv : Value} {tb : Nat} (h : WW X w wb L P nv tb) (hx : Ext b2 w w') (hX : X b2) : WW X w' wb L P nv tb := by
  refine h.keep (fun b hb h1 _ => hx.block b hb (fun e => h1 (e ▸ hX))) hx.size (fun lo hl => ?_) h.mw
  obtain ⟨p, p1, p2, p3⟩ := h.vals lo hl
  exact ⟨p, p1, p2, fun g hg => ⟨(p3 g hg).1, (hx.block _ (lt_blk (p3 g hg).2.1) (fun e => (h.sv _ ⟨lo, hl, g, hg, rfl⟩).2 (e ▸ hX))).trans (p3 g hg).2.1, (p3 g hg).2.2⟩⟩
set_option maxRecDepth 100000 in
theorem all_zero {w : World} {wb : Nat} (hb : w.heap[wb]? = some (.cells #[.slice none 0 0, .map none] 40 (0, 0))) :
    Calls Tryz.prog 17 #[.pointer (some ⟨wb, 0, none⟩)] w fun e w' => e = .returned (.string ⟨#[]⟩) ∧ Below w.heap.size w w' := by
  have HN := Lib.hid (names_any (ns := []) hb (World.ownsRow_nil _ _ _ _) (by simp))
  clear hb
  go_enter Tryz.func17, Tryz.ntmps17
  go_wp2_with fail
  refine HN.out.mono ?_
  rintro e w1 ⟨v', rfl, hb1, ho1⟩
  obtain ⟨na, nc, rfl⟩ := owns_shape ho1
  have HB1 := Lib.hid hb1
  clear hb1 ho1 HN
  have e0 : ([] : List Bs).length = 0 := rfl
  rw [e0]
  go_wp2_with fail
  refine wp_loop_rounds 1 ?_
  rw [rounds_succ]
  go_wp2_with fail
  go_ret
  exact ⟨rfl, HB1.out⟩
set_option maxRecDepth 100000 in
theorem ends_post {w : World} {x y : Nat} {xs ys : List Int} {a1 a2 : Option Addr} {c1 c2 : Nat} (h1 : IntsAt w xs a1) (h2 : IntsAt w ys a2) (hn : xs.length ≤ 1000) :
    Calls Tryz.prog 16 #[.agg #[.int .i64 (x : Int), .slice a1 xs.length c1], .agg #[.int .i64 (y : Int), .slice a2 ys.length c2]] w fun e w' => e = .returned (.bool (decide (x = y) && decide (xs = ys))) ∧ Below w.heap.size w w' := by
  obtain ⟨w2, hw2⟩ : ∃ w2, w2 = (w.alloc (.cells #[.int .i64 (x : Int), .slice a1 xs.length c1] 43)).alloc (.cells #[.int .i64 (y : Int), .slice a2 ys.length c2] 43) := ⟨_, rfl⟩
  have hb2 : Below w.heap.size w w2 := by rw [hw2]; exact ((Below.refl _ _).alloc (Nat.le_refl _) _).alloc (by simp) _
  have q0 : w2.heap[w.heap.size]? = some (.cells #[.int .i64 (x : Int), .slice a1 xs.length c1] 43 (0, 0)) := by rw [hw2]; exact (Below.heap_alloc _ _ _ (by simp)).trans (new_blk _ _)
  have q1 : w2.heap[w.heap.size + 1]? = some (.cells #[.int .i64 (y : Int), .slice a2 ys.length c2] 43 (0, 0)) := by
    have := new_blk (w.alloc (.cells #[.int .i64 (x : Int), .slice a1 xs.length c1] 43)) (.cells #[.int .i64 (y : Int), .slice a2 ys.length c2] 43)
    rw [hw2]; simpa using this
  have HEQ := Lib.hid (ieq_post (c1 := c1) (c2 := c2) (h1.on hb2) (h2.on hb2) hn)
  have f0 : w2.cell? ⟨w.heap.size, 0, none⟩ = some (.int .i64 (x : Int)) := (cell_blk q0).trans rfl
  have f1 : w2.cell? ⟨w.heap.size, 1, none⟩ = some (.slice a1 xs.length c1) := (cell_blk q0).trans rfl
  have f2 : w2.cell? ⟨w.heap.size + 1, 0, none⟩ = some (.int .i64 (y : Int)) := (cell_blk q1).trans rfl
  have f3 : w2.cell? ⟨w.heap.size + 1, 1, none⟩ = some (.slice a2 ys.length c2) := (cell_blk q1).trans rfl
  have l0 := lt_blk q0
  have l1 := lt_blk q1
  have HB2 := Lib.hid hb2
  obtain ⟨bb, hbb⟩ : ∃ bb, bb = decide (xs = ys) := ⟨_, rfl⟩
  rw [← hbb] at HEQ ⊢
  clear h1 h2 hn hb2 q0 q1 hbb
  generalize xs.length = m at *
  generalize ys.length = n at *
  by_cases hxy : x = y
  · subst hxy
    rw [decide_eq_true rfl, Bool.true_and]
    go_enter Tryz.func16, Tryz.ntmps16
    go_upto_region 1 with fail
    rw [← hw2]
    clear hw2
    go_wp2_with fail
    refine HEQ.out.mono ?_
    rintro e w3 ⟨rfl, hb3⟩
    have HB3 : Hid (Below w.heap.size w w3) := HB2.out.trans (hb3.mono HB2.out.size)
    clear hb3
    go_wp2_with fail
    go_ret
    exact ⟨rfl, HB3.out⟩
  · have hne : ¬ (x : Int) = (y : Int) := by omega
    rw [decide_eq_false hxy, Bool.false_and]
    go_enter Tryz.func16, Tryz.ntmps16
    go_upto_region 1 with fail
    rw [← hw2]
    clear hw2
    go_wp2_with fail
    go_ret
    exact ⟨rfl, HB2.out⟩
set_option maxRecDepth 100000 in
theorem pick_post {w : World} (a : Int) (n : Nat) (hn : 0 < n) (hn2 : n ≤ 100000) : Calls Tryz.prog 13 #[.int .i64 a, .int .i64 (n : Int)] w fun e w' => w' = w ∧ ∃ k : Nat, k < n ∧ e = .returned (.int .i64 (k : Int)) := by
  have hn' : ¬ (n : Int) = 0 := by omega
  have hn3 : (n : Int) ≤ 100000 := by omega
  go_enter Tryz.func13, Tryz.ntmps13
  go_wp2_with fail
  have h0 : 0 ≤ IntKind.u64.wrap a := by simp [IntKind.wrap, IntKind.signed, IntKind.bits]; omega
  have h1 : (IntKind.u64.wrap a).tmod (n : Int) = (IntKind.u64.wrap a) % (n : Int) := Int.tmod_eq_emod_of_nonneg h0
  have h2 := Int.emod_nonneg (IntKind.u64.wrap a) hn'
  have h3 := Int.emod_lt_of_pos (IntKind.u64.wrap a) (show (0 : Int) < n by omega)
  have h4 : wrap64 ((IntKind.u64.wrap a).tmod (n : Int)) = (((IntKind.u64.wrap a) % (n : Int)).toNat : Int) := by
    rw [h1, w64_wrap, Tp.w64_id (by unfold Tp.I64; omega)]
    omega
  rw [h4]
  go_ret
  exact ⟨rfl, _, by omega, rfl⟩
set_option maxRecDepth 100000 in
theorem tell_nil (w : World) : Calls Tryz.prog 15 #[.nilIface] w fun e w' => e = .returned (.int .i64 0) ∧ Below w.heap.size w w' := by
  go_enter Tryz.func15, Tryz.ntmps15
  go_wp2_with fail
  go_ret
  exact ⟨rfl, Below.refl _ _⟩
end Go.Proofs.YtfpeboeknjlkbaaGreatDoor
/- Chapter 4: Load on the empty world: whatever is found, one form. -/
namespace Go.Proofs.YtfpeboeknjlkbaaGreatDoor
open Go.RowKit Go.Maps
open Tp (Bs X S G Pr Pt Rs Rr Own)

def tellN : Option (Nat × Option Nat) → Nat
  | none => 0
  | some er => er.1
def EvT (B : Nat) (w' : World) (er : Option (Nat × Option Nat)) (ev : Value) : Prop := match er with
  | none => ev = .nilIface
  | some e => ErrV B w' e ev
structure LD (Y : Nat → Prop) (w : World) (wb : Nat) (a : Tp.Ans) (w' : World) (oa : Option Addr) (ev : Value) : Prop where
  ext : Ext wb w w'
  it : IntsAt w' a.e.out oa
  ol : a.e.out.length ≤ 200
  wd : (a.w = [] ∧ w'.heap[wb]? = some (.cells #[.slice none 0 0, .map none] 40 (0, 0))) ∨ ∃ L nv tb, WW Y w' wb L a.w nv tb ∧ L.length ≤ 10
  ev : EvT w.heap.size w' a.err ev
def LQ (Y : Nat → Prop) (w : World) (wb : Nat) (a : Tp.Ans) (e : Ending) (w' : World) : Prop := ∃ oa oc ev, e = .returned (.tuple #[.agg #[.int .i64 (a.e.way : Int), .slice oa a.e.out.length oc], ev]) ∧ a.e.out.length ≤ oc ∧ LD Y w wb a w' oa ev
theorem load_any {Y : Nat → Prop} {w : World} {wb fuel B0 : Nat} {m : Tp.M} {ia ga pa ba : Option Addr} {ic gc pc bc : Nat} (hw : w.heap[wb]? = some (.cells #[.slice none 0 0, .map none] 40 (0, 0))) (hmb0 : MB w B0 m ia ga pa ba ic gc pc bc) (hB0 : B0 ≤ wb) (hY : ∀ b, Y b → B0 ≤ b ∧ b < w.heap.size ∧ b ≠ wb) (hm : Tp.WM m) (hf : fuel ≤ 800000) :
    Calls Tryz.prog 14 #[.pointer (some ⟨wb, 0, none⟩), .agg (mcells (bs m.name) (.slice ia m.imports.length ic) (.slice ga m.vars.length gc) (.slice pa m.procs.length pc) (.slice ba m.body.length bc)), .int .i64 (fuel : Int)] w (LQ Y w wb (Tp.loadW of0 [] m fuel)) := by
  refine (load_first hw hmb0 hB0 hY hm hf).mono ?_
  intro e w' hq
  unfold LoadP at hq
  cases hck : Tp.check m (fun _ => none) with
  | some er =>
    have ha := loadW_bad (fuel := fuel) hck
    rw [ha] at hq
    obtain ⟨hb, v, he, hev⟩ := hq
    rw [ha]
    refine ⟨none, 0, v, he, Nat.le_refl _, ⟨⟨hb.os, hb.tape, hb.output, hb.size, fun k hk _ => hb.block k hk⟩, ⟨fun i hi => by cases hi⟩, by show (0 : Nat) ≤ 200; omega, Or.inl ⟨rfl, (hb.block wb (lt_blk hw)).trans hw⟩, hev⟩⟩
  | none =>
    have ha := loadW_ok (fuel := fuel) hck
    have hern : (Tp.loadW of0 [] m fuel).err = none := by rw [ha]
    rw [hern] at hq
    obtain ⟨hx, oa, oc, L, nv, tb, he, hww, hia, _, _, hol, hcap⟩ := hq
    have hms : L.map (fun lo => lo.m) = [m] := by
      rw [← hww.mw, ha]
      exact Tp.endOf_ms Tp.goS_enough
    have hL : L.length = 1 := by have := congrArg List.length hms; simpa using this
    exact ⟨oa, oc, .nilIface, he, hcap, ⟨hx, hia, hol, Or.inr ⟨L, nv, tb, hww, by omega⟩, by unfold EvT; rw [hern]⟩⟩
theorem tell_any {B b2 : Nat} {w' W : World} {er : Option (Nat × Option Nat)} {ev : Value} (h : EvT B w' er ev) (hb : b2 < B) (hx : Ext b2 w' W) (het : ErT W) : Calls Tryz.prog 15 #[ev] W fun e w'' => e = .returned (.int .i64 (tellN er : Int)) ∧ Below W.heap.size W w'' := by
  cases er with
  | none => obtain rfl : ev = .nilIface := h; exact tell_nil W
  | some e =>
    obtain ⟨n, po⟩ := e
    cases po with
    | none =>
      have h' : ev = .iface 46 (.int .i64 (n : Int)) := h
      subst h'
      exact tell_en (n : Int) W het
    | some pl =>
      obtain ⟨ab, rfl, h1, h2, _⟩ : ∃ ab, ev = .iface 124 (.pointer (some ⟨ab, 0, none⟩)) ∧ B ≤ ab ∧ w'.cell? ⟨ab, 0, none⟩ = some (.int .i64 (n : Int)) ∧ w'.cell? ⟨ab, 1, none⟩ = some (.int .i64 (pl : Int)) := h
      exact tell_at (n : Int) ab W het ((World.cell?_of_block (w := w') (hx.block ab (lt_of_cell h2) (by omega))).trans h2)
/- what all says of a world behind it -/
theorem LD.all {Y : Nat → Prop} {w w' W : World} {wb : Nat} {a : Tp.Ans} {oa : Option Addr} {ev : Value} (h : LD Y w wb a w' oa ev) (hW : (w'.heap[wb]? = some (.cells #[.slice none 0 0, .map none] 40 (0, 0)) → W.heap[wb]? = w'.heap[wb]?)) (hk : ∀ L nv tb, WW Y w' wb L a.w nv tb → ∃ X, WW X W wb L a.w nv tb) :
    Calls Tryz.prog 17 #[.pointer (some ⟨wb, 0, none⟩)] W fun e w'' => e = .returned (.string (allB a.w)) ∧ Below W.heap.size W w'' := by
  rcases h.wd with ⟨h1, h2⟩ | ⟨L, nv, tb, h1, h2⟩
  · rw [h1]; exact all_zero ((hW h2).trans h2)
  · obtain ⟨X, hX⟩ := hk L nv tb h1; exact all_post hX h2
end Go.Proofs.YtfpeboeknjlkbaaGreatDoor
/- RunRests: what ends ends. -/
namespace Go.Proofs.YtfpeboeknjlkbaaGreatDoor
open Go.RowKit Go.Maps
open Tp (Bs X S G Pr Pt Rs Rr Own)

theorem IntsAt.ext {w w' : World} {xs : List Int} {oa : Option Addr} {b2 t : Nat} (h : IntsAt w xs oa) (hz : w.heap[b2]? = some (.cells #[.slice none 0 0, .map none] t (0, 0))) (hx : Ext b2 w w') : IntsAt w' xs oa := by
  refine ⟨fun i hi => ?_⟩
  obtain ⟨b, o, h1, h2, h3⟩ := h.c i hi
  have hne : b ≠ b2 := by
    intro e
    subst e
    rw [cell_blk hz] at h3
    match o + i, h3 with
    | 0, h3 => cases h3
    | 1, h3 => cases h3
    | k + 2, h3 => simp at h3
  exact ⟨b, o, h1, Nat.lt_of_lt_of_le h2 hx.size, (World.cell?_of_block (w := w) (hx.block b h2 hne)).trans h3⟩
theorem IntsAt.take {w : World} {xs ys : List Int} {oa : Option Addr} (h : IntsAt w ys oa) (hp : xs <+: ys) : IntsAt w xs oa := by
  obtain ⟨t, rfl⟩ := hp
  refine ⟨fun i hi => ?_⟩
  obtain ⟨b, o, h1, h2, h3⟩ := h.c i (by simp; omega)
  exact ⟨b, o, h1, h2, by rw [h3, List.getElem_append_left hi]⟩
set_option maxRecDepth 100000 in
set_option maxHeartbeats 4000000 in
theorem rests_post {w : World} (hv : VarsC w.heap.size w) (s : Bs) (fu mo : Int) :
    Calls Tryz.prog 4 #[.string (bs s), .int .i64 fu, .int .i64 mo] w fun e w' => e = .returned (.bool true) ∧ Below w.heap.size w w' := by
  have hss : ((bs s).size : Int) = (s.length : Int) := by rw [bs_size]
  have HV := Lib.hid hv
  clear hv
  by_cases h1 : s.length ≤ 1000
  rotate_left
  · have h1' : (s.length : Int) > 1000 := by omega
    clear HV
    go_enter Tryz.func4, Tryz.ntmps4
    go_wp2_with fail
    go_ret
    exact ⟨rfl, Below.refl _ _⟩
  have h1' : ¬ (s.length : Int) > 1000 := by omega
  have HCK := Lib.hid (ran_post HV.out.mks HV.out.lv)
  go_enter Tryz.func4, Tryz.ntmps4
  go_wp2_with fail
  refine HCK.out.mono ?_
  rintro e w1 ⟨rfl, hb1⟩
  have hv1 := HV.out.on' (Nat.le_refl _) hb1
  have HPP := Lib.hid (parse_post w1 s (by omega) hv1.mks hv1.lv)
  have HB1 := Lib.hid hb1
  have hsz1 := hb1.size
  clear hb1 hv1 HCK
  go_wp2_with fail
  refine HPP.out.mono ?_
  rintro e w2 ⟨hb2, hq⟩
  unfold ParseP at hq
  have HB2 : Hid (Below w.heap.size w w2) := HB1.out.trans (hb2.mono hsz1)
  have hsz2 := HB2.out.size
  cases hps : Tp.parse s with
  | error er =>
    rw [hps] at hq
    obtain ⟨ab, rfl, _, _, _⟩ := hq
    unfold m0
    have HBA : Hid (∀ ob, Below w.heap.size w (w2.alloc ob)) := fun ob => HB2.out.alloc hsz2 _
    clear HPP hb2
    go_wp2_with fail
    go_ret
    exact ⟨rfl, HBA.out _⟩
  | ok m =>
    rw [hps] at hq
    obtain ⟨v, rfl, hvm⟩ := hq
    have HWM := Lib.hid (Tp.parse_wm hps).1
    obtain ⟨ia, ga, pa, ba, ic, gc, pc, bc, rfl, hmb⟩ := hvm.mb
    obtain ⟨W, hW⟩ : ∃ W, W = ((w2.alloc (.cells (mcells (bs m.name) (.slice ia m.imports.length ic) (.slice ga m.vars.length gc) (.slice pa m.procs.length pc) (.slice ba m.body.length bc)) 32)).alloc (.cells #[.slice none 0 0, .map none] 40)).alloc (.cells #[.slice none 0 0, .map none] 40) := ⟨_, rfl⟩
    have hsW : W.heap.size = w2.heap.size + 3 := by rw [hW]; simp
    have hbW : Below w2.heap.size w2 W := by rw [hW]; exact (((Below.refl _ _).alloc (Nat.le_refl _) _).alloc (by simp) _).alloc (by simp; omega) _
    have q0 : W.heap[w2.heap.size]? = some (.cells (mcells (bs m.name) (.slice ia m.imports.length ic) (.slice ga m.vars.length gc) (.slice pa m.procs.length pc) (.slice ba m.body.length bc)) 32 (0, 0)) := by rw [hW]; exact ((Below.heap_alloc _ _ _ (by simp; omega)).trans (Below.heap_alloc _ _ _ (by simp))).trans (new_blk _ _)
    have q1 : W.heap[w2.heap.size + 1]? = some (.cells #[.slice none 0 0, .map none] 40 (0, 0)) := by
      have := new_blk (w2.alloc (.cells (mcells (bs m.name) (.slice ia m.imports.length ic) (.slice ga m.vars.length gc) (.slice pa m.procs.length pc) (.slice ba m.body.length bc)) 32)) (.cells #[.slice none 0 0, .map none] 40)
      rw [hW]; exact (Below.heap_alloc _ _ _ (by simp)).trans (by simpa using this)
    have q2 : W.heap[w2.heap.size + 2]? = some (.cells #[.slice none 0 0, .map none] 40 (0, 0)) := by
      have := new_blk ((w2.alloc (.cells (mcells (bs m.name) (.slice ia m.imports.length ic) (.slice ga m.vars.length gc) (.slice pa m.procs.length pc) (.slice ba m.body.length bc)) 32)).alloc (.cells #[.slice none 0 0, .map none] 40)) (.cells #[.slice none 0 0, .map none] 40)
      rw [hW]; simpa using this
    have HL1 : Hid (∀ f : Nat, f < 200 → Calls Tryz.prog 14 #[.pointer (some ⟨w2.heap.size + 1, 0, none⟩), .agg (mcells (bs m.name) (.slice ia m.imports.length ic) (.slice ga m.vars.length gc) (.slice pa m.procs.length pc) (.slice ba m.body.length bc)), .int .i64 (f : Int)] W (LQ (fun b => b = w2.heap.size + 2) W (w2.heap.size + 1) (Tp.loadW of0 [] m f))) := fun f hf => by
      exact load_any q1 ((hmb.md).mono (D' := fun i => i < w2.heap.size) (fun b hb hl => ⟨hbW.block b hl, hb⟩) |>.mb (fun b hb _ => hb)) (by omega) (fun b hb => by omega) HWM.out (by omega)
    have HL2 : Hid (∀ (f : Nat) (w5 : World), f < 500 → Ext (w2.heap.size + 1) W w5 → Calls Tryz.prog 14 #[.pointer (some ⟨w2.heap.size + 2, 0, none⟩), .agg (mcells (bs m.name) (.slice ia m.imports.length ic) (.slice ga m.vars.length gc) (.slice pa m.procs.length pc) (.slice ba m.body.length bc)), .int .i64 (f : Int)] w5 (LQ (fun _ => False) w5 (w2.heap.size + 2) (Tp.loadW of0 [] m f))) := fun f w5 hf hx => by
      exact load_any ((hx.block _ (lt_blk q2) (by omega)).trans q2) ((hmb.md).mono (D' := fun i => i < w2.heap.size) (fun b hb hl => ⟨(hx.block b (by omega) (by omega)).trans (hbW.block b hl), hb⟩) |>.mb (fun b hb _ => hb)) (by omega) (fun b hb => hb.elim) HWM.out (by omega)
    have HQ0 := Lib.hid q0
    have HQ2 := Lib.hid q2
    have HBW := Lib.hid hbW
    unfold mcells at *
    obtain ⟨mn, hmn⟩ : ∃ mn, mn = bs m.name := ⟨_, rfl⟩
    obtain ⟨il, hil⟩ : ∃ il, il = m.imports.length := ⟨_, rfl⟩
    obtain ⟨gl, hgl⟩ : ∃ gl, gl = m.vars.length := ⟨_, rfl⟩
    obtain ⟨pl, hpl⟩ : ∃ pl, pl = m.procs.length := ⟨_, rfl⟩
    obtain ⟨bl, hbl⟩ : ∃ bl, bl = m.body.length := ⟨_, rfl⟩
    rw [← hmn, ← hil, ← hgl, ← hpl, ← hbl] at hW HQ0 HL1 HL2 ⊢
    clear hmn hil hgl hpl hbl q0 q1 q2 hbW hmb hvm HPP hb2
    have hkM : ∀ j, W.cell? ⟨w2.heap.size, j, none⟩ = (#[.string mn, .slice ia il ic, .slice ga gl gc, .slice pa pl pc, .slice ba bl bc] : Array Value)[j]? := fun j => cell_blk HQ0.out
    have m0' : W.cell? ⟨w2.heap.size, 0, none⟩ = some (.string mn) := hkM 0
    have m1' : W.cell? ⟨w2.heap.size, 1, none⟩ = some (.slice ia il ic) := hkM 1
    have m2' : W.cell? ⟨w2.heap.size, 2, none⟩ = some (.slice ga gl gc) := hkM 2
    have m3' : W.cell? ⟨w2.heap.size, 3, none⟩ = some (.slice pa pl pc) := hkM 3
    have m4' : W.cell? ⟨w2.heap.size, 4, none⟩ = some (.slice ba bl bc) := hkM 4
    have hmW := lt_blk HQ0.out
    have hl1W : w2.heap.size + 1 < W.heap.size := by omega
    have hl2W : w2.heap.size + 2 < W.heap.size := by omega
    clear hkM
    go_wp2_with fail
    refine (pick_post fu 200 (by omega) (by omega)).mono ?_
    rintro e w' ⟨rfl, f, hf, rfl⟩
    go_wp2_with fail
    refine (pick_post mo 300 (by omega) (by omega)).mono ?_
    rintro e w' ⟨rfl, d, hd, rfl⟩
    go_upto_region 10 with fail
    rw [← hW]
    rw [show w2.heap.size + 1 + 1 = w2.heap.size + 2 from rfl]
    clear hW
    obtain ⟨a, ha⟩ : ∃ a, a = Tp.loadW of0 [] m f := ⟨_, rfl⟩
    obtain ⟨b, hb⟩ : ∃ b, b = Tp.loadW of0 [] m (f + d) := ⟨_, rfl⟩
    have HAB : Hid (a.err = b.err ∧ (a.e.way ≠ 5 → b.e = a.e ∧ b.w = a.w) ∧ (a.e.way = 5 → a.e.out <+: b.e.out)) := by
      have := Tp.load_rests (ofF := of0) (w := []) (m := m) (f := f) (d := d)
      rw [← ha, ← hb] at this
      exact this
    have HLa := Lib.hid (HL1.out f hf)
    rw [← ha] at HLa
    have HLb : Hid (∀ w5 : World, Ext (w2.heap.size + 1) W w5 → Calls Tryz.prog 14 #[.pointer (some ⟨w2.heap.size + 2, 0, none⟩), .agg #[.string mn, .slice ia il ic, .slice ga gl gc, .slice pa pl pc, .slice ba bl bc], .int .i64 ((f : Int) + (d : Int))] w5 (LQ (fun _ => False) w5 (w2.heap.size + 2) b)) := fun w5 hx => by
      have := HL2.out (f + d) w5 (by omega) hx
      rw [← hb, Int.natCast_add] at this
      exact this
    have hfi : (f : Int) < 200 := by omega
    have hdi : (d : Int) < 300 := by omega
    clear ha hb HL1 HL2 hf hd
    obtain ⟨b1, hb1⟩ : ∃ b1, b1 = w2.heap.size + 1 := ⟨_, rfl⟩
    obtain ⟨b2, hb2⟩ : ∃ b2, b2 = w2.heap.size + 2 := ⟨_, rfl⟩
    obtain ⟨mb, hmb⟩ : ∃ mb, mb = w2.heap.size := ⟨_, rfl⟩
    rw [← hb1, ← hb2] at HLa HLb ⊢
    rw [← hb1] at hl1W
    rw [← hb2] at hl2W HQ2
    rw [← hmb] at m0' m1' m2' m3' m4' hmW HQ0 ⊢
    have HBB : Hid (mb = w2.heap.size ∧ b1 = w2.heap.size + 1 ∧ b2 = w2.heap.size + 2 ∧ W.heap.size = w2.heap.size + 3 ∧ w.heap.size ≤ w2.heap.size) := ⟨hmb, hb1, hb2, hsW, hsz2⟩
    clear hmb hb1 hb2 hsW
    go_wp2_with fail
    refine HLa.out.mono ?_
    rintro e w4 ⟨oa, oc, ev, rfl, hcap, hld⟩
    obtain ⟨w5, hw5⟩ : ∃ w5, w5 = w4.alloc (.cells #[.int .i64 (a.e.way : Int), .slice oa a.e.out.length oc] 43) := ⟨_, rfl⟩
    have hb5 : Below w4.heap.size w4 w5 := by rw [hw5]; exact (Below.refl _ _).alloc (Nat.le_refl _) _
    have hE5 : w5.heap[w4.heap.size]? = some (.cells #[.int .i64 (a.e.way : Int), .slice oa a.e.out.length oc] 43 (0, 0)) := by rw [hw5]; exact new_blk _ _
    have hx5 : Ext b1 W w5 := hld.ext.trans ⟨hb5.os, hb5.tape, hb5.output, hb5.size, fun k hk _ => hb5.block k hk⟩
    have hQ5 := (hx5.block mb hmW (by have := HBB.out; omega)).trans HQ0.out
    have n0 : w5.cell? ⟨mb, 0, none⟩ = some (.string mn) := (cell_blk hQ5).trans rfl
    have n1 : w5.cell? ⟨mb, 1, none⟩ = some (.slice ia il ic) := (cell_blk hQ5).trans rfl
    have n2 : w5.cell? ⟨mb, 2, none⟩ = some (.slice ga gl gc) := (cell_blk hQ5).trans rfl
    have n3 : w5.cell? ⟨mb, 3, none⟩ = some (.slice pa pl pc) := (cell_blk hQ5).trans rfl
    have n4 : w5.cell? ⟨mb, 4, none⟩ = some (.slice ba bl bc) := (cell_blk hQ5).trans rfl
    have hm5 := lt_blk hQ5
    have hs4 := hld.ext.size
    have hs5 := hb5.size
    have HE5 := Lib.hid hE5
    have HX5 := Lib.hid hx5
    have HB5 := Lib.hid hb5
    have HLD := Lib.hid hld
    have HCAP := Lib.hid hcap
    have HL2' := Lib.hid (HLb.out w5 hx5)
    clear hE5 hx5 hb5 hld hcap hQ5 HLa HLb m0' m1' m2' m3' m4'
    obtain ⟨an, han⟩ : ∃ an, an = a.e.out.length := ⟨_, rfl⟩
    have HAN := Lib.hid han
    rw [← han] at hw5 HE5 ⊢
    clear han
    go_upto_region 11 with fail
    rw [← hw5]
    clear hw5
    go_wp2_with fail
    refine HL2'.out.mono ?_
    rintro e w6 ⟨ob, oc2, ev2, rfl, hcap2, hld2⟩
    obtain ⟨w7, hw7⟩ : ∃ w7, w7 = w6.alloc (.cells #[.int .i64 (b.e.way : Int), .slice ob b.e.out.length oc2] 43) := ⟨_, rfl⟩
    have hb7 : Below w6.heap.size w6 w7 := by rw [hw7]; exact (Below.refl _ _).alloc (Nat.le_refl _) _
    have hE7 : w7.heap[w6.heap.size]? = some (.cells #[.int .i64 (b.e.way : Int), .slice ob b.e.out.length oc2] 43 (0, 0)) := by rw [hw7]; exact new_blk _ _
    have hs6 := hld2.ext.size
    have hs7 := hb7.size
    have ext5 : Ext b2 w4 w5 := ⟨HB5.out.os, HB5.out.tape, HB5.out.output, HB5.out.size, fun k hk _ => HB5.out.block k hk⟩
    have ext67 : ∀ W', Below w6.heap.size w6 W' → Ext b2 w6 W' := fun W' k => ⟨k.os, k.tape, k.output, k.size, fun k' hk _ => k.block k' hk⟩
    have HX4 : Hid (∀ W', Below w6.heap.size w6 W' → Ext b2 w4 W') := fun W' k => (ext5.trans hld2.ext).trans (ext67 W' k)
    have HWv : Hid (∀ W', Below w6.heap.size w6 W' → Below w.heap.size w W') := fun W' k => by
      have hx1 := HLD.out.ext
      have hx2 := HX4.out W' k
      have hbb := HBB.out
      have hbW := HBW.out
      refine ⟨((hx2.os.trans hx1.os).trans hbW.os).trans HB2.out.os, ((hx2.tape.trans hx1.tape).trans hbW.tape).trans HB2.out.tape, ((hx2.output.trans hx1.output).trans hbW.output).trans HB2.out.output, by have := hx1.size; have := hx2.size; omega, fun k' hk => ?_⟩
      exact (((hx2.block k' (by have := hx1.size; omega) (by omega)).trans (hx1.block k' (by omega) (by omega))).trans (hbW.block k' (by omega))).trans (HB2.out.block k' hk)
    have HEa : Hid (∀ W', Below w6.heap.size w6 W' → W'.heap[w4.heap.size]? = some (.cells #[.int .i64 (a.e.way : Int), .slice oa an oc] 43 (0, 0))) := fun W' k => by
      have hbb := HBB.out
      have hl := lt_blk HE5.out
      exact ((k.block _ (by omega)).trans (hld2.ext.block _ hl (by omega))).trans HE5.out
    have HT1 : Hid (Calls Tryz.prog 15 #[ev] w7 fun e w8 => e = .returned (.int .i64 (tellN a.err : Int)) ∧ Below w7.heap.size w7 w8) := tell_any HLD.out.ev (by have := HBB.out; omega) (HX4.out w7 hb7) (HV.out.on (HWv.out w7 hb7)).et
    have HT2 : Hid (∀ w8, Below w7.heap.size w7 w8 → Calls Tryz.prog 15 #[ev2] w8 fun e w9 => e = .returned (.int .i64 (tellN a.err : Int)) ∧ Below w8.heap.size w8 w9) := fun w8 k => by
      have k' : Below w6.heap.size w6 w8 := hb7.trans (k.mono hs7)
      rw [HAB.out.1]
      exact tell_any (b2 := b2) hld2.ev (by have := HBB.out; omega) (ext67 w8 k') (HV.out.on (HWv.out w8 k')).et
    have HLD2 := Lib.hid hld2
    have HE7 := Lib.hid hE7
    have HB7 := Lib.hid hb7
    have HCAP2 := Lib.hid hcap2
    obtain ⟨bn, hbn⟩ : ∃ bn, bn = b.e.out.length := ⟨_, rfl⟩
    have HBN := Lib.hid hbn
    rw [← hbn] at hw7 HE7 ⊢
    clear hbn hcap2 hld2 hE7 hb7 ext5 ext67 HL2' n0 n1 n2 n3 n4 hm5
    generalize htl : tellN a.err = tl at *
    go_upto_region 12 with fail
    rw [← hw7]
    clear hw7 htl
    go_wp2_with fail
    refine HT1.out.mono ?_
    rintro e w8 ⟨rfl, hb8⟩
    have HT2' := Lib.hid (HT2.out w8 hb8)
    have HB8 : Hid (Below w6.heap.size w6 w8) := HB7.out.trans (hb8.mono hs7)
    have HB78 := Lib.hid hb8
    clear hb8 HT1 HT2
    go_wp2_with fail
    refine HT2'.out.mono ?_
    rintro e w9 ⟨rfl, hb9⟩
    have HB9 : Hid (Below w6.heap.size w6 w9) := HB8.out.trans (hb9.mono HB8.out.size)
    have hEa := HEa.out w9 HB9.out
    have hEb := (HB9.out.trans (Below.refl _ _)).size
    have f0 : w9.cell? ⟨w4.heap.size, 0, none⟩ = some (.int .i64 (a.e.way : Int)) := (cell_blk hEa).trans rfl
    have f1 : w9.cell? ⟨w4.heap.size, 1, none⟩ = some (.slice oa an oc) := (cell_blk hEa).trans rfl
    have l0 := lt_blk hEa
    have HB79 : Hid (Below w7.heap.size w7 w9) := HB78.out.trans (hb9.mono HB78.out.size)
    have hEc := (HB79.out.block _ (lt_blk HE7.out)).trans HE7.out
    have f2 : w9.cell? ⟨w6.heap.size, 0, none⟩ = some (.int .i64 (b.e.way : Int)) := (cell_blk hEc).trans rfl
    have f3 : w9.cell? ⟨w6.heap.size, 1, none⟩ = some (.slice ob bn oc2) := (cell_blk hEc).trans rfl
    have l1 := lt_blk hEc
    clear hb9 HT2' hEa hEb hEc
    have HIa : Hid (IntsAt w9 a.e.out oa) := by
      have hz4 := (HLD.out.ext.block b2 hl2W (by have := HBB.out; omega)).trans HQ2.out
      exact HLD.out.it.ext hz4 (HX4.out w9 HB9.out)
    have HIb : Hid (IntsAt w9 b.e.out ob) := HLD2.out.it.on HB9.out
    by_cases hway : a.e.way = 5
    · have hpre := HAB.out.2.2 hway
      have hle : an ≤ bn := by rw [HAN.out, HBN.out]; exact hpre.length_le
      have hle' : (an : Int) ≤ (bn : Int) := by omega
      have hcp : (an : Int) ≤ (oc2 : Int) := by have := HCAP2.out; have := HBN.out; omega
      have hcpn : an ≤ oc2 := by omega
      have hbc : bn ≤ oc2 := by have := HCAP2.out; have := HBN.out; omega
      have han0 : ¬ (an : Int) < 0 := by omega
      have hal : an ≤ 200 := by have := HLD.out.ol; have := HAN.out; omega
      have hd9 : Below w9.heap.size w9 w9.drew := (Below.refl _ _).drew
      have HEQ : Hid (Calls Tryz.prog 18 #[.slice oa an oc, .slice ob an oc2] w9.drew fun e w10 => e = .returned (.bool true) ∧ Below w9.drew.heap.size w9.drew w10) := by
        have := ieq_post (c1 := oc) (c2 := oc2) (HIa.out.on hd9) ((HIb.out.take hpre).on hd9) (by have := HLD.out.ol; omega)
        rw [← HAN.out, decide_eq_true rfl] at this
        exact this
      have HF : Hid (∀ w10, Below w9.drew.heap.size w9.drew w10 → Below w.heap.size w w10) := fun w10 k => HWv.out w10 ((HB9.out.trans (hd9.mono HB9.out.size)).trans (k.mono HB9.out.size))
      have HS9 : Hid (w9.drew.cell? ⟨w4.heap.size, 1, none⟩ = some (.slice oa an oc) ∧ w9.drew.cell? ⟨w6.heap.size, 1, none⟩ = some (.slice ob bn oc2)) := ⟨f1, f3⟩
      rw [hway] at f0
      have h55 : ((5 : Nat) : Int) = 5 := rfl
      rw [h55] at f0
      clear hpre hd9 HIa HIb f1 f2 f3
      go_upto_region 16 with fail
      go_region_held3 (fun w' => w'.cell? ⟨w4.heap.size, 1, none⟩ = some (.slice oa an oc) ∧ w'.cell? ⟨w6.heap.size, 1, none⟩ = some (.slice ob bn oc2)) (with_reducible (first | exact HS10.out | exact HS9.out)) (first | (go_at_call 18; refine HEQ.out.mono ?_; rintro e w10 ⟨rfl, hb10⟩; have HB10 := Lib.hid hb10; have HS10 : Hid (w10.cell? ⟨w4.heap.size, 1, none⟩ = some (.slice oa an oc) ∧ w10.cell? ⟨w6.heap.size, 1, none⟩ = some (.slice ob bn oc2)) := ⟨(hb10.cell (p := ⟨w4.heap.size, 1, none⟩) (lt_of_cell HS9.out.1)).trans HS9.out.1, (hb10.cell (p := ⟨w6.heap.size, 1, none⟩) (lt_of_cell HS9.out.2)).trans HS9.out.2⟩; clear hb10))
      all_goals go_wp2_with fail
      all_goals go_ret
      all_goals exact ⟨rfl, HF.out _ HB10.out⟩
    · obtain ⟨he, hwe⟩ := HAB.out.2.1 hway
      have hway' : ¬ (a.e.way : Int) = 5 := by omega
      have HEN : Hid (Calls Tryz.prog 16 #[.agg #[.int .i64 (a.e.way : Int), .slice oa an oc], .agg #[.int .i64 (b.e.way : Int), .slice ob bn oc2]] w9 fun e w10 => e = .returned (.bool true) ∧ Below w9.heap.size w9 w10) := by
        have := ends_post (x := a.e.way) (y := b.e.way) (c1 := oc) (c2 := oc2) HIa.out HIb.out (by have := HLD.out.ol; omega)
        rw [← HAN.out, ← HBN.out] at this
        refine this.mono ?_
        rintro e w10 ⟨h1, h2⟩
        refine ⟨?_, h2⟩
        rw [h1, he]
        simp
      have HA1 : Hid (∀ w10, Below w9.heap.size w9 w10 → Calls Tryz.prog 17 #[.pointer (some ⟨b1, 0, none⟩)] w10 fun e w11 => e = .returned (.string (allB a.w)) ∧ Below w10.heap.size w10 w11) := fun w10 k => by
        have hx := HX4.out w10 (HB9.out.trans (k.mono HB9.out.size))
        exact HLD.out.all (fun hz => hx.block b1 (lt_blk hz) (by have := HBB.out; omega)) (fun L nv tb hw => ⟨_, hw.ext hx rfl⟩)
      have HA2 : Hid (∀ w11, Below w9.heap.size w9 w11 → Calls Tryz.prog 17 #[.pointer (some ⟨b2, 0, none⟩)] w11 fun e w12 => e = .returned (.string (allB a.w)) ∧ Below w11.heap.size w11 w12) := fun w11 k => by
        have k6 := HB9.out.trans (k.mono HB9.out.size)
        have := HLD2.out.all (W := w11) (fun hz => k6.block b2 (lt_blk hz)) (fun L nv tb hw => ⟨_, hw.more k6⟩)
        rw [hwe] at this
        exact this
      have HF : Hid (∀ w10, Below w9.heap.size w9 w10 → Below w.heap.size w w10) := fun w10 k => HWv.out w10 (HB9.out.trans (k.mono HB9.out.size))
      clear HIa HIb he hwe
      generalize allB a.w = al at *
      go_wp2_with fail
      refine HEN.out.mono ?_
      rintro e w10 ⟨rfl, hb10⟩
      have HB10 := Lib.hid hb10
      have HA1' := Lib.hid (HA1.out w10 hb10)
      clear hb10 HEN HA1
      go_wp2_with fail
      refine HA1'.out.mono ?_
      rintro e w11 ⟨rfl, hb11⟩
      have HB11 : Hid (Below w9.heap.size w9 w11) := HB10.out.trans (hb11.mono HB10.out.size)
      have HA2' := Lib.hid (HA2.out w11 HB11.out)
      clear hb11 HA1' HA2
      go_wp2_with fail
      refine HA2'.out.mono ?_
      rintro e w12 ⟨rfl, hb12⟩
      have HB12 : Hid (Below w9.heap.size w9 w12) := HB11.out.trans (hb12.mono HB11.out.size)
      clear hb12 HA2'
      go_wp2_with fail
      go_ret
      exact ⟨rfl, HF.out _ HB12.out⟩
end Go.Proofs.YtfpeboeknjlkbaaGreatDoor
