import Derived.Test.YtadgeapgoggljaaDoorKLc
import Derived.Deep.RegionHeld3
/- Chapter 9: ordered, walked. -/
namespace Go.Proofs.YtadgeapgoggljaaDoor
open Go.RowKit Go.Maps
open Tp (Bs)

/- a block that holds a module -/
structure MBk (w : World) (b : Nat) (m : Tp.M) (ia ga pa ba : Option Addr) (ic gc pc bc : Nat) : Prop where
  k : w.heap[b]? = some (.cells (mcells (bs m.name) (.slice ia m.imports.length ic) (.slice ga m.vars.length gc) (.slice pa m.procs.length pc) (.slice ba m.body.length bc)) 37 (0, 0))
  d : MD w (fun b => b < w.heap.size) m ia ga pa ba ic gc pc bc
theorem MBk.on {w w' : World} {b : Nat} {m : Tp.M} {ia ga pa ba : Option Addr} {ic gc pc bc : Nat} (h : MBk w b m ia ga pa ba ic gc pc bc) (k : Below w.heap.size w w') : MBk w' b m ia ga pa ba ic gc pc bc :=
  ⟨(k.block _ (lt_blk h.k)).trans h.k, h.d.mono (fun c _ hl => ⟨k.block c hl, by have := k.size; omega⟩)⟩
theorem MBk.cells {w : World} {b : Nat} {m : Tp.M} {ia ga pa ba : Option Addr} {ic gc pc bc : Nat} (h : MBk w b m ia ga pa ba ic gc pc bc) : w.cell? ⟨b, 0, none⟩ = some (.string (bs m.name)) ∧ w.cell? ⟨b, 1, none⟩ = some (.slice ia m.imports.length ic) ∧ w.cell? ⟨b, 2, none⟩ = some (.slice ga m.vars.length gc) ∧ w.cell? ⟨b, 3, none⟩ = some (.slice pa m.procs.length pc) ∧ w.cell? ⟨b, 4, none⟩ = some (.slice ba m.body.length bc) ∧ b < w.heap.size :=
  ⟨(cell_blk h.k).trans rfl, (cell_blk h.k).trans rfl, (cell_blk h.k).trans rfl, (cell_blk h.k).trans rfl, (cell_blk h.k).trans rfl, lt_blk h.k⟩
/- two modules in a new map -/
theorem two_mods {w : World} {b1 b2 : Nat} {m1 m2 : Tp.M} {ia ga pa ba ja ha qa ca : Option Addr} {ic gc pc bc jc hc qc cc : Nat} (h1 : MBk w b1 m1 ia ga pa ba ic gc pc bc) (h2 : MBk w b2 m2 ja ha qa ca jc hc qc cc) (k1 : Tp.WM m1 ∧ Tp.nM m1 ≤ 1000) (k2 : Tp.WM m2 ∧ Tp.nM m2 ≤ 1000) :
    ∃ w8 w9, (Instr.mapUpdate 25 (.map (some w.heap.size)) (.string (bs m1.name)) (.agg (mcells (bs m1.name) (.slice ia m1.imports.length ic) (.slice ga m1.vars.length gc) (.slice pa m1.procs.length pc) (.slice ba m1.body.length bc)))).run Tryd.prog (w.alloc (.map #[] 0)) = .ok () w8 ∧ (Instr.mapUpdate 25 (.map (some w.heap.size)) (.string (bs m2.name)) (.agg (mcells (bs m2.name) (.slice ja m2.imports.length jc) (.slice ha m2.vars.length hc) (.slice qa m2.procs.length qc) (.slice ca m2.body.length cc)))).run Tryd.prog w8 = .ok () w9 ∧
      Below w.heap.size w w8 ∧ Below w.heap.size w w9 ∧ ∃ f K, Mods w9 w.heap.size 2 f K (imF fun k => if k = m2.name then some m2 else if k = m1.name then some m1 else none) ∧ ∀ x, x ∈ K ↔ x = m1.name ∨ x = m2.name := by
  have hb7 : Below w.heap.size w (w.alloc (.map #[] 0)) := (Below.refl _ _).alloc (Nat.le_refl _) _
  have hM7 : ModF (w.alloc (.map #[] 0)) w.heap.size 0 (fun _ => none) (fun _ => none) := ⟨MapV.made w, fun _ _ => rfl, fun k m h => by cases h⟩
  have e1 : ModE (w.alloc (.map #[] 0)) w.heap.size m1.name _ m1 ia ga pa ba ic gc pc bc := ⟨rfl, h1.d.mono (fun c hc hl => ⟨hb7.block c hl, by omega⟩), k1.1, k1.2, rfl⟩
  obtain ⟨w8, u8, q1, q2, q3⟩ := hM7.m.store (t := 25) Tryd.underlying25 (by omega) m1.name (by have := Tp.okn_len k1.1.n; omega) (.agg (mcells (bs m1.name) (.slice ia m1.imports.length ic) (.slice ga m1.vars.length gc) (.slice pa m1.procs.length pc) (.slice ba m1.body.length bc)))
  have hM8 := hM7.put e1 q1 q2
  have hb8 : Below w.heap.size w w8 := hb7.trans (ext_below q2 (Nat.le_refl _) hb7.size)
  have e2 : ModE w8 w.heap.size m2.name _ m2 ja ha qa ca jc hc qc cc := ⟨rfl, h2.d.mono (fun c hc hl => ⟨hb8.block c hl, by omega⟩), k2.1, k2.2, rfl⟩
  obtain ⟨w9, u9, r1, r2, r3⟩ := hM8.m.store (t := 25) Tryd.underlying25 (by omega) m2.name (by have := Tp.okn_len k2.1.n; omega) (.agg (mcells (bs m2.name) (.slice ja m2.imports.length jc) (.slice ha m2.vars.length hc) (.slice qa m2.procs.length qc) (.slice ca m2.body.length cc)))
  have hM9 := hM8.put e2 r1 r2
  have hb9 : Below w.heap.size w w9 := hb8.trans (ext_below r2 (Nat.le_refl _) hb8.size)
  obtain ⟨K, hK1, hK2⟩ := hM9.mods (by omega)
  refine ⟨w8, w9, u8, u9, hb8, hb9, _, K, hK1, fun x => ?_⟩
  rw [hK2 x]
  by_cases a : x = m2.name
  · rw [if_pos a]; exact ⟨fun _ => Or.inr a, fun _ => rfl⟩
  · rw [if_neg a]
    by_cases b : x = m1.name
    · rw [if_pos b]; exact ⟨fun _ => Or.inl b, fun _ => rfl⟩
    · rw [if_neg b]; exact ⟨fun q => (by cases q), fun q => q.elim (fun z => absurd z b) (fun z => absurd z a)⟩
theorem parsed_closed {t : Bs} {m : Tp.M} (hp : Tp.parse t = .ok m) (ht : t.length ≤ 900) {w : World} {B : Nat} (hv : VarsC B w) : Calls Tryd.prog 14 #[.string (bs t)] w fun e w' => Below w.heap.size w w' ∧ ∃ ia ga pa ba ic gc pc bc, e = .returned (.tuple #[.agg (mcells (bs m.name) (.slice ia m.imports.length ic) (.slice ga m.vars.length gc) (.slice pa m.procs.length pc) (.slice ba m.body.length bc)), .nilIface]) ∧ ∀ W, Below w'.heap.size w' W → ∀ b, W.heap[b]? = some (.cells (mcells (bs m.name) (.slice ia m.imports.length ic) (.slice ga m.vars.length gc) (.slice pa m.procs.length pc) (.slice ba m.body.length bc)) 37 (0, 0)) → MBk W b m ia ga pa ba ic gc pc bc := by
  refine (parse_post w t (by omega) hv.mks hv.lv).mono ?_
  rintro e w' ⟨h1, h2⟩
  unfold ParseP at h2
  rw [hp] at h2
  obtain ⟨v, rfl, hvm⟩ := h2
  obtain ⟨ia, ga, pa, ba, ic, gc, pc, bc, rfl, hmd⟩ := hvm.mdb
  exact ⟨h1, ia, ga, pa, ba, ic, gc, pc, bc, rfl, fun W hW b hb => ⟨hb, hmd.mono (fun c _ hl => ⟨hW.block c hl, by have := hW.size; omega⟩)⟩⟩
theorem wm_of {t : Bs} {m : Tp.M} (hp : Tp.parse t = .ok m) (ht : t.length ≤ 900) : Tp.WM m ∧ Tp.nM m ≤ 1000 := ⟨(Tp.parse_wm hp).1, by have := (Tp.parse_wm hp).2; omega⟩
set_option maxRecDepth 100000 in
set_option maxHeartbeats 4000000 in
theorem ordered_post {w : World} {B : Nat} (hv : VarsC B w) (hB : B ≤ w.heap.size) : Calls Tryd.prog 5 #[] w fun e w' => e = .returned (.bool true) ∧ Below w.heap.size w w' := by
  have HV := Lib.hid hv
  have HP1 := Lib.hid (parsed_closed Tp.parseO1 (by decide) hv)
  clear hv
  unfold Tp.txtO1 at HP1
  go_enter Tryd.func5, Tryd.ntmps5
  go_wp2_with fail
  refine HP1.out.mono ?_
  rintro e w1 ⟨hb1, ia, ga, pa, ba, ic, gc, pc, bc, rfl, hm1⟩
  obtain ⟨w2, hw2⟩ : ∃ w2, w2 = w1.alloc (.cells (mcells (bs Tp.modO1.name) (.slice ia Tp.modO1.imports.length ic) (.slice ga Tp.modO1.vars.length gc) (.slice pa Tp.modO1.procs.length pc) (.slice ba Tp.modO1.body.length bc)) 37) := ⟨_, rfl⟩
  have hb12 : Below w1.heap.size w1 w2 := by rw [hw2]; exact (Below.refl _ _).alloc (Nat.le_refl _) _
  have HK2 := Lib.hid (hm1 w2 hb12 w1.heap.size (by rw [hw2]; exact new_blk _ _))
  have HB2 : Hid (Below w.heap.size w w2) := hb1.trans (hb12.mono hb1.size)
  have HP2 := Lib.hid (parsed_closed Tp.parseO2 (by decide) (HV.out.on' hB HB2.out))
  obtain ⟨b1, hq1⟩ : ∃ b1, b1 = w1.heap.size := ⟨_, rfl⟩
  rw [← hq1] at HK2
  unfold Tp.txtO2 at HP2
  unfold mcells at hw2 ⊢
  clear hb1 hb12 hm1 HP1
  go_upto_region 2 with fail
  rw [← hw2, ← hq1]
  clear hw2 hq1
  go_wp2_with fail
  refine HP2.out.mono ?_
  rintro e w3 ⟨hb3, ja, ha, qa, ca, jc, hc, qc, cc, rfl, hm3⟩
  obtain ⟨w4, hw4⟩ : ∃ w4, w4 = w3.alloc (.cells (mcells (bs Tp.modO2.name) (.slice ja Tp.modO2.imports.length jc) (.slice ha Tp.modO2.vars.length hc) (.slice qa Tp.modO2.procs.length qc) (.slice ca Tp.modO2.body.length cc)) 37) := ⟨_, rfl⟩
  have hb34 : Below w3.heap.size w3 w4 := by rw [hw4]; exact (Below.refl _ _).alloc (Nat.le_refl _) _
  have hb24 : Below w2.heap.size w2 w4 := hb3.trans (hb34.mono hb3.size)
  have HJ4 := Lib.hid (hm3 w4 hb34 w3.heap.size (by rw [hw4]; exact new_blk _ _))
  have HK4 := Lib.hid (HK2.out.on hb24)
  have HB4 : Hid (Below w.heap.size w w4) := HB2.out.trans (hb24.mono HB2.out.size)
  have HP3 := Lib.hid (parsed_closed Tp.parseO3 (by decide) (HV.out.on' hB HB4.out))
  obtain ⟨b2, hq2⟩ : ∃ b2, b2 = w3.heap.size := ⟨_, rfl⟩
  rw [← hq2] at HJ4
  unfold Tp.txtO3 at HP3
  unfold mcells at hw4 ⊢
  clear hb3 hb34 hb24 hm3 HP2 HK2 HB2
  go_upto_region 3 with fail
  rw [← hw4, ← hq2]
  clear hw4 hq2
  go_wp2_with fail
  refine HP3.out.mono ?_
  rintro e w5 ⟨hb5, ka, la, ra, da, kc, lc, rc, dc, rfl, hm5⟩
  obtain ⟨w6, hw6⟩ : ∃ w6, w6 = w5.alloc (.cells (mcells (bs Tp.modO3.name) (.slice ka Tp.modO3.imports.length kc) (.slice la Tp.modO3.vars.length lc) (.slice ra Tp.modO3.procs.length rc) (.slice da Tp.modO3.body.length dc)) 37) := ⟨_, rfl⟩
  have hb56 : Below w5.heap.size w5 w6 := by rw [hw6]; exact (Below.refl _ _).alloc (Nat.le_refl _) _
  have hb46 : Below w4.heap.size w4 w6 := hb5.trans (hb56.mono hb5.size)
  have HC6 := Lib.hid (hm5 w6 hb56 w5.heap.size (by rw [hw6]; exact new_blk _ _))
  have HK6 := Lib.hid (HK4.out.on hb46)
  have HJ6 := Lib.hid (HJ4.out.on hb46)
  have HB6 : Hid (Below w.heap.size w w6) := HB4.out.trans (hb46.mono HB4.out.size)
  obtain ⟨b3, hq3⟩ : ∃ b3, b3 = w5.heap.size := ⟨_, rfl⟩
  rw [← hq3] at HC6
  unfold mcells at hw6 ⊢
  clear hb5 hb56 hb46 hm5 HP3 HK4 HJ4 HB4
  go_upto_region 4 with fail
  rw [← hw6, ← hq3]
  clear hw6 hq3
  -- a map of a and b
  obtain ⟨w8, w9, u8, u9, hb8, hb9, f9, K9, hM9, hK9⟩ := two_mods HK6.out HJ6.out (wm_of Tp.parseO1 (by decide)) (wm_of Tp.parseO2 (by decide))
  have HOR := Lib.hid (order_post hM9)
  have HA1 : Hid (imF (fun k => if k = Tp.modO2.name then some Tp.modO2 else if k = Tp.modO1.name then some Tp.modO1 else none) [97] = [[98]]) := by show _ = _; simp [imF, Tp.modO1, Tp.modO2]
  have HA2 : Hid (imF (fun k => if k = Tp.modO2.name then some Tp.modO2 else if k = Tp.modO1.name then some Tp.modO1 else none) [98] = []) := by show _ = _; simp [imF, Tp.modO2]
  generalize imF (fun k => if k = Tp.modO2.name then some Tp.modO2 else if k = Tp.modO1.name then some Tp.modO1 else none) = im9 at *
  have HK9 : Hid (∀ x, x ∈ K9 ↔ x = [97] ∨ x = [98]) := hK9
  have HN9 := Lib.hid hM9.nd
  obtain ⟨c0, c1, c2, c3, c4, c5⟩ := HK6.out.cells
  obtain ⟨d0, d1, d2, d3, d4, d5⟩ := (HJ6.out.on hb8).cells
  have HB9 : Hid (Below w.heap.size w w9) := HB6.out.trans (hb9.mono HB6.out.size)
  have HK' := Lib.hid (HK6.out.on hb9)
  have HC' := Lib.hid (HC6.out.on hb9)
  have e97 : bs Tp.modO1.name = ⟨#[97]⟩ := rfl
  have e98 : bs Tp.modO2.name = ⟨#[98]⟩ := rfl
  rw [e97] at u8 c0
  rw [e98] at u9 d0
  have hmm := @run_makeMap Tryd.prog
  unfold mcells at u8 u9
  clear hM9 hK9 hb8 hb9 e97 e98
  go_wp2_with fail
  clear u8 u9 c0 c1 c2 c3 c4 c5 d0 d1 d2 d3 d4 d5
  refine HOR.out.mono ?_
  rintro e w10 ⟨hb10, hq⟩
  rcases hq with ⟨T, ta, tc, rfl, hca, how⟩ | ⟨_, hro⟩
  rotate_left
  · exact absurd hro (Tp.no_round_ba HK9.out HA1.out HA2.out)
  obtain rfl := Tp.came_ba HK9.out HN9.out HA1.out hca
  have hsT := own_strsAt how
  obtain ⟨w11, hw11⟩ : ∃ w11, w11 = w10.alloc (.cells #[.string ⟨#[98]⟩, .string ⟨#[97]⟩] 9) := ⟨_, rfl⟩
  have hb11 : Below w10.heap.size w10 w11 := by rw [hw11]; exact (Below.refl _ _).alloc (Nat.le_refl _) _
  have hk11 : w11.heap[w10.heap.size]? = some (.cells #[.string ⟨#[98]⟩, .string ⟨#[97]⟩] 9 (0, 0)) := by rw [hw11]; exact new_blk _ _
  have hs11 : StrsAt w11 [[98], [97]] (some ⟨w10.heap.size, 0, none⟩) := ⟨fun k hk => ⟨_, _, rfl, lt_blk hk11, by
    match k, hk with
    | 0, _ => exact (cell_blk hk11).trans rfl
    | 1, _ => exact (cell_blk hk11).trans rfl⟩⟩
  have HEQ : Hid (Calls Tryd.prog 15 #[.slice ta 2 tc, .slice (some ⟨w10.heap.size, 0, none⟩) 2 2] w11 fun e w' => e = .returned (.bool true) ∧ Below w11.heap.size w11 w') := seq_post (c1 := tc) (c2 := 2) (hsT.on hb11) hs11 (by decide)
  have hb911 : Below w9.heap.size w9 w11 := hb10.trans (hb11.mono hb10.size)
  have HB11 : Hid (Below w.heap.size w w11) := HB9.out.trans (hb911.mono HB9.out.size)
  have HK11 := Lib.hid (HK'.out.on hb911)
  have HC11 := Lib.hid (HC'.out.on hb911)
  have h2 : (([[98], [97]] : List Bs).length) = 2 := rfl
  rw [h2]
  clear hb10 how hca hsT hb11 hk11 hs11 hb911 HOR HK' HC' h2 HK6 HJ6 HC6 hmm
  go_wp2_with fail
  rw [← hw11]
  clear hw11
  refine HEQ.out.mono ?_
  rintro e w12 ⟨rfl, hb12⟩
  have hK12 := HK11.out.on hb12
  have hC12 := HC11.out.on hb12
  have HB12 : Hid (Below w.heap.size w w12) := HB11.out.trans (hb12.mono HB11.out.size)
  obtain ⟨w14, w15, u14, u15, hb14, hb15, f15, K15, hM15, hK15⟩ := two_mods hK12 hC12 (wm_of Tp.parseO1 (by decide)) (wm_of Tp.parseO3 (by decide))
  have HOR2 := Lib.hid (order_post hM15)
  have HA3 : Hid (imF (fun k => if k = Tp.modO3.name then some Tp.modO3 else if k = Tp.modO1.name then some Tp.modO1 else none) [97] = [[98]]) := by show _ = _; simp [imF, Tp.modO1, Tp.modO3]
  have HA4 : Hid (imF (fun k => if k = Tp.modO3.name then some Tp.modO3 else if k = Tp.modO1.name then some Tp.modO1 else none) [98] = [[97]]) := by show _ = _; simp [imF, Tp.modO3]
  generalize imF (fun k => if k = Tp.modO3.name then some Tp.modO3 else if k = Tp.modO1.name then some Tp.modO1 else none) = im15 at *
  have HK15 : Hid (∀ x, x ∈ K15 ↔ x = [97] ∨ x = [98]) := hK15
  obtain ⟨c0, c1, c2, c3, c4, c5⟩ := hK12.cells
  obtain ⟨d0, d1, d2, d3, d4, d5⟩ := (hC12.on hb14).cells
  have HB15 : Hid (Below w.heap.size w w15) := HB12.out.trans (hb15.mono HB12.out.size)
  have e97 : bs Tp.modO1.name = ⟨#[97]⟩ := rfl
  have e98 : bs Tp.modO3.name = ⟨#[98]⟩ := rfl
  rw [e97] at u14 c0
  rw [e98] at u15 d0
  have hmm := @run_makeMap Tryd.prog
  unfold mcells at u14 u15
  clear hM15 hK15 hb14 hb15 e97 e98 hb12 hK12 hC12 HEQ HK11 HC11
  go_wp2_with fail
  clear u14 u15 c0 c1 c2 c3 c4 c5 d0 d1 d2 d3 d4 d5
  refine HOR2.out.mono ?_
  rintro e w16 ⟨hb16, hq⟩
  rcases hq with ⟨T, ta, tc, _, hca, _⟩ | ⟨rfl, _⟩
  · exact absurd hca (Tp.no_came_ab HK15.out HA3.out HA4.out)
  have HB16 : Hid (Below w.heap.size w w16) := HB15.out.trans (hb16.mono HB15.out.size)
  have HTE := Lib.hid (tell_en 11 w16 (HV.out.on' hB HB16.out).et)
  clear hb16 HOR2 hmm
  go_wp2_with fail
  refine HTE.out.mono ?_
  rintro e w17 ⟨rfl, hb17⟩
  have HB17 : Hid (Below w.heap.size w w17) := HB16.out.trans (hb17.mono HB16.out.size)
  clear hb17 HTE
  go_wp2_with fail
  go_ret
  exact ⟨rfl, HB17.out⟩
end Go.Proofs.YtadgeapgoggljaaDoor
/- Chapter 9: PlanRounds: what its two functions say. -/
namespace Go.Proofs.YtadgeapgoggljaaDoor
open Go.RowKit Go.Maps
open Tp (Bs)

theorem field_im (nm : ByteArray) (a1 a2 a3 a4 : Option Addr) (n1 c1 n2 c2 n3 c3 n4 c4 : Nat) (w : World) : (Instr.field 37 (.agg #[.string nm, .slice a1 n1 c1, .slice a2 n2 c2, .slice a3 n3 c3, .slice a4 n4 c4]) 1).run Tryd.prog w = .ok (.slice a1 n1 c1) w := by kernel_rfl
theorem cl1_cf (args : Array Value) (w : World) : (callFunc 9 args).run Tryd.prog w = .ok (.enter 9 args) w := by kernel_rfl
theorem cl2_cf (args : Array Value) (w : World) : (callFunc 12 args).run Tryd.prog w = .ok (.enter 12 args) w := by kernel_rfl
theorem zeroBool' (w : World) : (zeroValue 4).run Tryd.prog w = .ok (.bool false) w := by kernel_rfl
/- who is left: a map in memory -/
structure LeftM (w : World) (xb n : Nat) (fx : Bs → Option Value) (L : Bs → Bool) : Prop where
  m : MapV w xb n fx
  v : ∀ x, (fx x).getD (.bool false) = .bool (L x)
set_option maxRecDepth 100000 in
theorem cl1_post {w : World} {lb xb n : Nat} {fx : Bs → Option Value} {L : Bs → Bool} (hc : w.cell? ⟨lb, 0, none⟩ = some (.map (some xb))) (h : LeftM w xb n fx L) (y : Bs) (hy : y.length ≤ 1000000) :
    Calls Tryd.prog 9 #[.string (bs y), .pointer (some ⟨lb, 0, none⟩)] w fun e w' => e = .returned (.bool (L y)) ∧ Below w.heap.size w w' := by
  have hlk := h.m.look (t := 31) Tryd.underlying31 (zeroBool' w) y hy false
  simp only [Bool.false_eq_true, if_false] at hlk
  rw [h.v y] at hlk
  have hl := lt_of_cell hc
  clear h
  go_enter Tryd.func9, Tryd.ntmps9
  go_wp2_with fail
  go_ret
  exact ⟨rfl, Below.refl _ _⟩
set_option maxRecDepth 100000 in
set_option maxHeartbeats 1000000 in
theorem cl2_post {w : World} {mv ob ib mb n i tl tc : Nat} {ta : Option Addr} {f : Bs → Option Value} {K T : List Bs} {im : Bs → List Bs} (hM : Mods w mb n f K im) (h1 : w.cell? ⟨mv, 0, none⟩ = some (.map (some mb))) (h2 : w.cell? ⟨ob, 0, none⟩ = some (.slice ta tl tc)) (h3 : w.cell? ⟨ib, 0, none⟩ = some (.int .i64 (i : Int))) (hT : StrsAt w T ta) (htl : tl = T.length) (hi : i < tl) (hc : tl ≤ tc) (ht : tl ≤ 1000) (y : Bs) (hy : y.length ≤ 1000000) :
    Calls Tryd.prog 12 #[.string (bs y), .pointer (some ⟨mv, 0, none⟩), .pointer (some ⟨ob, 0, none⟩), .pointer (some ⟨ib, 0, none⟩)] w fun e w' => e = .returned (.bool (decide (y ∈ K) && !decide (y ∈ T.take i))) ∧ Below w.heap.size w w' := by
  have hlk := hM.m.look (t := 25) Tryd.underlying25 (zeroMod' w) y hy true
  simp only [if_true] at hlk
  have k1 := lt_of_cell h1
  have k2 := lt_of_cell h2
  have k3 := lt_of_cell h3
  obtain ⟨b0, o0, hta, _, _⟩ := hT.c 0 (by omega)
  subst hta
  have hST : StrsAt w (T.take i) (some ⟨b0, o0, none⟩) := ⟨fun k hk => by
    rw [List.length_take] at hk
    obtain ⟨b, o, q1, q2, q3⟩ := hT.c k (by omega)
    exact ⟨b, o, q1, q2, by rw [List.getElem_take]; exact q3⟩⟩
  have hil : (T.take i).length = i := by rw [List.length_take]; omega
  have HCN : Hid (∀ W, Below w.heap.size w W → Calls Tryd.prog 11 #[.slice (some ⟨b0, o0, none⟩) i tc, .string (bs y)] W fun e w' => e = .returned (.bool (decide (y ∈ T.take i))) ∧ w' = W) := fun W hW => by
    have := containsX (cap := tc) (hST.on hW) (by omega) y
    rw [hil] at this
    exact this
  have hi1 : (i : Int) ≤ (tl : Int) := by omega
  have hi2 : (i : Int) ≤ (tc : Int) := by omega
  have hi9 : (tl : Int) ≤ 1000 := by omega
  obtain ⟨d, hd⟩ : ∃ d, d = decide (y ∈ T.take i) := ⟨_, rfl⟩
  rw [← hd] at HCN ⊢
  clear hd hST hil hT
  by_cases hyK : y ∈ K
  · obtain ⟨nm2, ja, jc, ga2, gn2, gc2, pa2, pn2, pc2, ba2, bn2, bc2, hfm2, _⟩ := hM.mod y hyK
    rw [hfm2] at hlk
    simp only [Option.getD_some, Option.isSome_some] at hlk
    rw [decide_eq_true hyK]
    obtain ⟨w1, hw1⟩ : ∃ w1, w1 = w.alloc (.cells #[.string nm2, .slice ja (im y).length jc, .slice ga2 gn2 gc2, .slice pa2 pn2 pc2, .slice ba2 bn2 bc2] 37) := ⟨_, rfl⟩
    have hb1 : Below w.heap.size w w1 := by rw [hw1]; exact (Below.refl _ _).alloc (Nat.le_refl _) _
    have HC1 := Lib.hid (HCN.out w1 hb1)
    have j2 : w1.cell? ⟨ob, 0, none⟩ = some (.slice (some ⟨b0, o0, none⟩) tl tc) := (hb1.cell (p := ⟨ob, 0, none⟩) k2).trans h2
    have j3 : w1.cell? ⟨ib, 0, none⟩ = some (.int .i64 (i : Int)) := (hb1.cell (p := ⟨ib, 0, none⟩) k3).trans h3
    have l2 := lt_of_cell j2
    have l3 := lt_of_cell j3
    have HB1 := Lib.hid hb1
    clear hM hfm2 HCN hb1 h2 h3 k2 k3
    go_enter Tryd.func12, Tryd.ntmps12
    go_upto_region 2 with fail
    rw [← hw1]
    clear hw1 hlk h1
    go_wp2_with fail
    refine HC1.out.mono ?_
    rintro e w2 ⟨rfl, rfl⟩
    clear HC1
    go_wp2_with fail
    go_ret
    exact ⟨by simp, HB1.out⟩
  · have hfn : f y = none := by
      cases hq : f y with
      | none => rfl
      | some u => exact absurd ((hM.key y).2 (by rw [hq]; rfl)) hyK
    rw [hfn] at hlk
    simp only [Option.getD_none, Option.isSome_none] at hlk
    rw [decide_eq_false hyK]
    obtain ⟨w1, hw1⟩ : ∃ w1, w1 = w.alloc (.cells #[.string ⟨#[]⟩, .slice none 0 0, .slice none 0 0, .slice none 0 0, .slice none 0 0] 37) := ⟨_, rfl⟩
    have hb1 : Below w.heap.size w w1 := by rw [hw1]; exact (Below.refl _ _).alloc (Nat.le_refl _) _
    have HB1 := Lib.hid hb1
    clear hM hfn HCN hb1 h2 h3 k2 k3
    go_enter Tryd.func12, Tryd.ntmps12
    go_upto_region 2 with fail
    rw [← hw1]
    clear hw1 hlk h1
    go_wp2_with fail
    go_ret
    exact ⟨by simp, HB1.out⟩
/- who is left, of the keys K -/
structure LM (w : World) (xb n : Nat) (K : List Bs) (fx : Bs → Option Value) (L : Bs → Bool) : Prop where
  m : MapV w xb n fx
  f : ∀ x, fx x = if x ∈ K then some (.bool (L x)) else none
theorem LM.left {w : World} {xb n : Nat} {K : List Bs} {fx : Bs → Option Value} {L : Bs → Bool} (h : LM w xb n K fx L) : LeftM w xb n fx (fun x => decide (x ∈ K) && L x) := ⟨h.m, fun x => by
  rw [h.f x]
  by_cases e : x ∈ K
  · simp [e]
  · simp [e]⟩
theorem LM.on {w w' : World} {xb n : Nat} {K : List Bs} {fx : Bs → Option Value} {L : Bs → Bool} (h : LM w xb n K fx L) (k : w'.heap[xb]? = w.heap[xb]?) : LM w' xb n K fx L := ⟨h.m.on k, h.f⟩
theorem LM.add {w w' : World} {xb n : Nat} {d : List Bs} {fx : Bs → Option Value} {x : Bs} (h : LM w xb n d fx (fun _ => true)) (hf : MapV w' xb (n + 1) (updV fx x (.bool true))) : LM w' xb (n + 1) (d ++ [x]) (updV fx x (.bool true)) (fun _ => true) := ⟨hf, fun y => by
  unfold updV
  rw [h.f y]
  by_cases e : y = x
  · simp [e]
  · by_cases a : y ∈ d
    · simp [a, e]
    · simp [a, e]⟩
theorem LM.same {w : World} {xb n : Nat} {d K : List Bs} {fx : Bs → Option Value} {L : Bs → Bool} (h : LM w xb n d fx L) (hk : ∀ x, x ∈ d ↔ x ∈ K) : LM w xb n K fx L := ⟨h.m, fun y => by rw [h.f y]; simp [hk y]⟩
theorem LM.gone {w w' : World} {xb n : Nat} {K : List Bs} {fx : Bs → Option Value} {L : Bs → Bool} {x : Bs} (h : LM w xb n K fx L) (hx : x ∈ K) (hf : MapV w' xb (n + 1) (updV fx x (.bool false))) : LM w' xb (n + 1) K (updV fx x (.bool false)) (fun y => if y = x then false else L y) := ⟨hf, fun y => by
  unfold updV
  rw [h.f y]
  by_cases e : y = x
  · simp [e, hx]
  · simp [e]⟩
/- those of a round are left -/
theorem gone_ok {K : List Bs} {im : Bs → List Bs} {S : Bs → Prop} {L : Bs → Bool} {x : Bs} (hr : ∀ x ∈ K, S x → ∃ i ∈ im x, i ∈ K ∧ S i) (hL : ∀ y ∈ K, S y → L y = true) (ha : (im x).any (fun y => decide (y ∈ K) && L y) = false) : ∀ y ∈ K, S y → (if y = x then false else L y) = true := by
  intro y hy hs
  by_cases e : y = x
  · subst e
    obtain ⟨i, h1, h2, h3⟩ := hr y hy hs
    have := List.any_eq_false.1 ha i h1
    rw [hL i h2 h3] at this
    simp [h2] at this
  · rw [if_neg e]; exact hL y hy hs
theorem StrsAt.ext {w w' : World} {b0 n : Nat} {fx : Bs → Option Value} {l : List Bs} {a : Option Addr} (h : StrsAt w l a) (hm : MapV w b0 n fx) (k : Ext b0 w w') : StrsAt w' l a := ⟨fun i hi => by
  obtain ⟨b, o, h1, h2, h3⟩ := h.c i hi
  obtain ⟨es, c, hb⟩ := hm.isMap'
  have hne : b ≠ b0 := fun e => by
    subst e
    simp [World.cell?, hb] at h3
  exact ⟨b, o, h1, Nat.lt_of_lt_of_le h2 k.size, (World.cell?_of_block (w := w) (k.block b h2 hne)).trans h3⟩⟩
theorem Mods.ext {w w' : World} {mb n b0 nb : Nat} {f fx : Bs → Option Value} {K : List Bs} {im : Bs → List Bs} (h : Mods w mb n f K im) (hm : MapV w b0 nb fx) (hne : mb ≠ b0) (k : Ext b0 w w') : Mods w' mb n f K im :=
  ⟨h.m.on (k.block _ h.m.lt hne), h.nd, h.key, h.kl, h.n, fun x hx => by
    obtain ⟨nm, ia, ic, ga, gn, gc, pa, pn, pc, ba, bn, bc, q1, q2, q3⟩ := h.mod x hx
    exact ⟨nm, ia, ic, ga, gn, gc, pa, pn, pc, ba, bn, bc, q1, q2.ext hm k, q3⟩⟩
end Go.Proofs.YtadgeapgoggljaaDoor
/- PlanRounds, walked. -/
namespace Go.Proofs.YtadgeapgoggljaaDoor
open Go.RowKit Go.Maps
open Tp (Bs)

set_option maxRecDepth 100000 in
set_option maxHeartbeats 4000000 in
theorem rounds_post {w : World} {B : Nat} (hv : VarsC B w) (hB : B ≤ w.heap.size) {ns : List Bs} {na : Option Addr} {nc : Nat} (hns : StrsAt w ns na) :
    Calls Tryd.prog 3 #[.slice na ns.length nc] w fun e w' => e = .returned (.bool true) ∧ Below w.heap.size w w' := by
  have HSH := Lib.hid (short_post (nc := nc) hns)
  have HNS := Lib.hid hns
  have HV := Lib.hid hv
  have HOD := Lib.hid (ordered_post hv hB)
  clear hns hv
  obtain ⟨nn, hnq⟩ : ∃ nn, nn = ns.length := ⟨_, rfl⟩
  rw [← hnq] at HSH ⊢
  have HNQ := Lib.hid hnq
  clear hnq
  go_enter Tryd.func3, Tryd.ntmps3
  go_wp2_with fail
  refine HSH.out.mono ?_
  rintro e w0 ⟨hq, rfl⟩
  rcases hq with rfl | ⟨rfl, hn5, hn9⟩
  · clear HSH HNS HV
    go_wp2_with fail
    go_ret
    exact ⟨rfl, Below.refl _ _⟩
  have HN5 := Lib.hid hn5
  have HN9 := Lib.hid hn9
  clear HSH hn5 hn9
  go_wp2_with fail
  refine HOD.out.mono ?_
  rintro e w1 ⟨rfl, hb1⟩
  have HMO := Lib.hid (modules_post (nc := nc) (HV.out.on' hB hb1) (by have := hb1.size; omega) (HNS.out.on hb1) (by rw [← HNQ.out]; exact HN5.out) HN9.out)
  rw [← HNQ.out] at HMO
  have HB1 := Lib.hid hb1
  clear hb1 HOD
  go_wp2_with fail
  refine HMO.out.mono ?_
  rintro e w2 ⟨mb, n, f, F, rfl, hmb, hn5, hMF, hb2⟩
  obtain ⟨K, hM2, hKF⟩ := hMF.mods (by omega)
  obtain ⟨w3, hw3⟩ : ∃ w3, w3 = w2.alloc (.cells #[.map (some mb)] 25) := ⟨_, rfl⟩
  have hb3 : Below w2.heap.size w2 w3 := by rw [hw3]; exact (Below.refl _ _).alloc (Nat.le_refl _) _
  have hk3 : w3.heap[w2.heap.size]? = some (.cells #[.map (some mb)] 25 (0, 0)) := by rw [hw3]; exact new_blk _ _
  have hB3 : Below w0.heap.size w0 w3 := (HB1.out.trans (hb2.mono HB1.out.size)).trans (hb3.mono (by have := HB1.out.size; have := hb2.size; omega))
  have hM3 := hM2.on hb3
  obtain ⟨mv, hmv⟩ : ∃ mv, mv = w2.heap.size := ⟨_, rfl⟩
  rw [← hmv] at hk3
  have HM3 := Lib.hid hM3
  have HB3 := Lib.hid hB3
  have HK3 := Lib.hid hk3
  have HOR := Lib.hid (order_post hM3)
  have c3 : w3.cell? ⟨mv, 0, none⟩ = some (.map (some mb)) := (cell_blk hk3).trans rfl
  have hmvl := lt_blk hk3
  generalize imF F = im at *
  clear hMF hKF hb2 hM2 hb3 hk3 hB3 hM3 HMO
  go_upto_region 6 with fail
  rw [← hw3, ← hmv]
  clear hw3 hmv
  go_wp2_with fail
  refine HOR.out.mono ?_
  rintro e w4 ⟨hb4, hq⟩
  have hB4 : Below w0.heap.size w0 w4 := HB3.out.trans (hb4.mono HB3.out.size)
  rcases hq with ⟨T, ta, tc, rfl, hca, how⟩ | ⟨rfl, hro⟩
  · obtain ⟨w5, hw5⟩ : ∃ w5, w5 = w4.alloc (.cells #[.slice ta T.length tc] 22) := ⟨_, rfl⟩
    have hb5 : Below w4.heap.size w4 w5 := by rw [hw5]; exact (Below.refl _ _).alloc (Nat.le_refl _) _
    have hk5 : w5.heap[w4.heap.size]? = some (.cells #[.slice ta T.length tc] 22 (0, 0)) := by rw [hw5]; exact new_blk _ _
    have hb35 : Below w3.heap.size w3 w5 := hb4.trans (hb5.mono hb4.size)
    have HB5 : Hid (Below w0.heap.size w0 w5) := HB3.out.trans (hb35.mono HB3.out.size)
    have HM5 := Lib.hid (HM3.out.on hb35)
    have HST5 := Lib.hid ((own_strsAt how).on hb5)
    have HKM : Hid (w5.heap[mv]? = some (.cells #[.map (some mb)] 25 (0, 0))) := (hb35.block mv hmvl).trans HK3.out
    obtain ⟨ob, hob⟩ : ∃ ob, ob = w4.heap.size := ⟨_, rfl⟩
    rw [← hob] at hk5
    have HKO := Lib.hid hk5
    obtain ⟨w6, hw6⟩ : ∃ w6, w6 = w5.alloc (.cells #[.int .i64 0] 3) := ⟨_, rfl⟩
    have hb6 : Below w5.heap.size w5 w6 := by rw [hw6]; exact (Below.refl _ _).alloc (Nat.le_refl _) _
    have HKI : Hid (w6.heap[w5.heap.size]? = some (.cells #[.int .i64 ((0 : Nat) : Int)] 3 (0, 0))) := by show _ = _; rw [hw6]; exact new_blk _ _
    have HB56 := Lib.hid hb6
    have HCA := Lib.hid hca
    have htl : T.length ≤ 100 := by have := hca.len; have := HM3.out.n; omega
    have htc : T.length ≤ tc := by
      rcases how.2 with ⟨e, q⟩ | ⟨g, cap, cur, e, q1, q2, q3, q4⟩
      · omega
      · cases e; exact q3
    obtain ⟨tl, htq⟩ : ∃ tl, tl = T.length := ⟨_, rfl⟩
    have HTQ := Lib.hid htq
    rw [← htq] at htl htc HKO hw5 ⊢
    have htl' : (tl : Int) ≤ 100 := by omega
    clear hb4 how hb5 hk5 hb35 hca hb6 HOR hB4 c3 htq HK3 HM3
    go_upto_region 7 with fail
    rw [← hw5, ← hob]
    clear hw5 hob
    go_upto_region 27 with fail
    rw [← hw6]
    clear hw6
    go_wp2_with fail
    go_loopg [11] tl (fun k v11 wr => ∃ (i ib : Nat), k = tl - i ∧ v11 = .pointer (some ⟨ib, 0, none⟩) ∧ i ≤ tl ∧ Hid (wr.heap[ib]? = some (.cells #[.int .i64 (i : Int)] 3 (0, 0))) ∧ Hid (Below w5.heap.size w5 wr))
    case atStart => exact ⟨0, w5.heap.size, by omega, rfl, by omega, HKI, HB56⟩
    case round =>
      obtain ⟨i, ib, hk, rfl, hitl, HKi, HBr⟩ := hrel
      clear HKI HB56
      have hi9 : (i : Int) ≤ 100 := by omega
      have a1 : wr.cell? ⟨ib, 0, none⟩ = some (.int .i64 (i : Int)) := (cell_blk HKi.out).trans rfl
      have l1 := lt_blk HKi.out
      have a2 : wr.cell? ⟨ob, 0, none⟩ = some (.slice ta tl tc) := (cell_blk ((HBr.out.block ob (lt_blk HKO.out)).trans HKO.out)).trans rfl
      have l2 := lt_of_cell a2
      have a3 : wr.cell? ⟨mv, 0, none⟩ = some (.map (some mb)) := (cell_blk ((HBr.out.block mv (lt_blk HKM.out)).trans HKM.out)).trans rfl
      have l3 := lt_of_cell a3
      by_cases hlt : i < tl
      · have hlt' : (i : Int) < (tl : Int) := by omega
        have hi0 : ¬ (i : Int) < 0 := by omega
        have hiT : i < T.length := by have := HTQ.out; omega
        obtain ⟨g, o, hga, l4, a4⟩ := (HST5.out.on HBr.out).c i hiT
        subst hga
        have hxK := HCA.out.sub _ (List.getElem_mem hiT)
        have hMr := HM5.out.on HBr.out
        have HNOT : Hid (T[i] ∉ T.take i) := fun q => by
          obtain ⟨j, hj, e⟩ := List.getElem_of_mem q
          rw [List.length_take] at hj
          rw [List.getElem_take] at e
          have := (List.getElem_inj (h₀ := by omega) (h₁ := hiT) HCA.out.nd).1 e
          omega
        have HBH := Lib.hid (HCA.out.bh i hiT)
        have hil : (T.take i).length = i := by rw [List.length_take]; omega
        have HAN : Hid ((im T[i]).any (fun y => decide (y ∈ K) && !decide (y ∈ T.take i)) = false) := by
          show _ = _
          rw [List.any_eq_false]
          intro y hy q
          rw [Bool.and_eq_true, decide_eq_true_iff] at q
          have := HBH.out y hy q.1
          simp [this] at q
        generalize T[i] = x at *
        obtain ⟨nm, ja, jc, ga, gn, gc, pa, pn, pc, ba, bn, bc, hfm, hst, him6, himl⟩ := hMr.mod x hxK
        have hdr : Below wr.heap.size wr wr.drew := (Below.refl _ _).drew
        have hlk1 := (hMr.on hdr).m.look (t := 25) Tryd.underlying25 (zeroMod' wr.drew) x (hMr.kl x hxK) false
        simp only [Bool.false_eq_true, if_false] at hlk1
        rw [hfm] at hlk1
        simp only [Option.getD_some] at hlk1
        have HCX : Hid (Calls Tryd.prog 11 #[.slice (some ⟨g, o, none⟩) i tc, .string (bs x)] wr.drew fun e w' => e = .returned (.bool false) ∧ w' = wr.drew) := by
          have hS : StrsAt wr.drew (T.take i) (some ⟨g, o, none⟩) := ⟨fun k hk => by
            rw [List.length_take] at hk
            obtain ⟨b, o', q1, q2, q3⟩ := ((HST5.out.on HBr.out).on hdr).c k (by omega)
            exact ⟨b, o', q1, q2, by rw [List.getElem_take]; exact q3⟩⟩
          have := containsX (cap := tc) hS (by omega) x
          rw [hil, decide_eq_false HNOT.out] at this
          exact this
        have HSx : Hid (∀ V, Below wr.heap.size wr V → V.cell? ⟨ob, 0, none⟩ = some (.slice (some ⟨g, o, none⟩) tl tc) ∧ V.cell? ⟨ib, 0, none⟩ = some (.int .i64 (i : Int)) ∧ V.cell? ⟨mv, 0, none⟩ = some (.map (some mb)) ∧ V.cell? ⟨g, o + i, none⟩ = some (.string (bs x))) := fun V hV => ⟨(hV.cell (p := ⟨ob, 0, none⟩) l2).trans a2, (hV.cell (p := ⟨ib, 0, none⟩) l1).trans a1, (hV.cell (p := ⟨mv, 0, none⟩) l3).trans a3, (hV.cell (p := ⟨g, o + i, none⟩) l4).trans a4⟩
        have HCF : Hid (Calls Tryd.prog 8 #[.slice ja (im x).length jc, .func (.func 12) #[] #[.pointer (some ⟨mv, 0, none⟩), .pointer (some ⟨ob, 0, none⟩), .pointer (some ⟨ib, 0, none⟩)]] wr.drew fun e w' => e = .returned (.bool false) ∧ Below wr.heap.size wr w') := by
          have := containsF3 (cap := jc) (p := fun y => decide (y ∈ K) && !decide (y ∈ T.take i)) (c1 := .pointer (some ⟨mv, 0, none⟩)) (c2 := .pointer (some ⟨ob, 0, none⟩)) (c3 := .pointer (some ⟨ib, 0, none⟩)) (hst.on hdr) (by omega) cl2_cf (fun W y hy hW => by
            have hW' : Below wr.heap.size wr W := hdr.trans hW
            obtain ⟨b1, b2, b3, _⟩ := HSx.out W hW'
            exact cl2_post (hMr.on hW') b3 b1 b2 ((HST5.out.on HBr.out).on hW') HTQ.out (by omega) htc (by omega) y (himl y hy))
          rw [HAN.out] at this
          exact this.mono (fun e w' q => ⟨q.1, hdr.trans q.2⟩)
        have HS0 : Hid (wr.drew.cell? ⟨ob, 0, none⟩ = some (.slice (some ⟨g, o, none⟩) tl tc) ∧ wr.drew.cell? ⟨ib, 0, none⟩ = some (.int .i64 (i : Int)) ∧ wr.drew.cell? ⟨mv, 0, none⟩ = some (.map (some mb)) ∧ wr.drew.cell? ⟨g, o + i, none⟩ = some (.string (bs x))) := HSx.out _ hdr
        have hmf : ∀ (fn : Fn) (first cap : Array Value) (w : World), (Instr.makeFunc fn first cap).run Tryd.prog w = .ok (.func fn first cap) w := fun _ _ _ _ => rfl
        have hitc : (i : Int) ≤ (tc : Int) := by omega
        have hitl' : (i : Int) ≤ (tl : Int) := by omega
        have HIB : Hid (ib < wr.heap.size) := l1
        clear hMr hfm hst himl hdr hxK HNOT HBH HAN hil
        generalize (im x).length = jl at *
        have hfd := field_im nm ja ga pa ba jl jc gn gc pn pc bn bc
        go_upto_region 29 with fail
        go_region_held3 (fun w' => w'.cell? ⟨ob, 0, none⟩ = some (.slice (some ⟨g, o, none⟩) tl tc) ∧ w'.cell? ⟨ib, 0, none⟩ = some (.int .i64 (i : Int)) ∧ w'.cell? ⟨mv, 0, none⟩ = some (.map (some mb)) ∧ w'.cell? ⟨g, o + i, none⟩ = some (.string (bs x))) (with_reducible (first | exact HS3.out | exact HS0.out)) (first | (go_at_call 11; refine HCX.out.mono ?_; rintro e w7 ⟨rfl, rfl⟩) | (go_at_call 8; refine HCF.out.mono ?_; rintro e w7 ⟨rfl, hb7⟩; have HB7 := Lib.hid hb7; have HS3 := Lib.hid (HSx.out w7 hb7); clear hb7))
        all_goals
          obtain ⟨_, n1, _, _⟩ := HS3.out
          have l7 := lt_of_cell n1
          clear HCX HCF HSx HS0 hlk1
          have hw8 : Below w7.heap.size w7 (w7.alloc (.cells #[.int .i64 ((i : Int) + 1)] 3)) := (Below.refl _ _).alloc (Nat.le_refl _) _
          have HKn : Hid ((w7.alloc (.cells #[.int .i64 ((i : Int) + 1)] 3)).heap[w7.heap.size]? = some (.cells #[.int .i64 ((i + 1 : Nat) : Int)] 3 (0, 0))) := by
            have := new_blk w7 (.cells #[.int .i64 ((i : Int) + 1)] 3 (0, 0))
            exact this
          have HBn : Hid (Below w5.heap.size w5 (w7.alloc (.cells #[.int .i64 ((i : Int) + 1)] 3))) := (HBr.out.trans (HB7.out.mono HBr.out.size)).trans (hw8.mono (by have := HBr.out.size; have := HB7.out.size; omega))
          clear hw8
          go_wp2_with fail
          go_roundg (tl - (i + 1))
          case measure => omega
          case rel => exact ⟨i + 1, w7.heap.size, rfl, rfl, by omega, HKn, HBn⟩
      · have hlt' : ¬ (i : Int) < (tl : Int) := by omega
        have hMr := HM5.out.on HBr.out
        have hlen := mods_size hMr
        have hKT : (tl : Int) = (K.length : Int) := by have := HCA.out.len; have := HTQ.out; omega
        have HBE : Hid (Below w0.heap.size w0 wr) := HB5.out.trans (HBr.out.mono HB5.out.size)
        rw [← hKT] at hlen
        clear hMr hKT
        go_wp2_with fail
        go_ret
        exact ⟨by first | rfl | simp, HBE.out⟩
  · obtain ⟨S, hS0, hSr⟩ := hro
    obtain ⟨w5, hw5⟩ : ∃ w5, w5 = w4.alloc (.cells #[.slice none 0 0] 22) := ⟨_, rfl⟩
    have hb5 : Below w4.heap.size w4 w5 := by rw [hw5]; exact (Below.refl _ _).alloc (Nat.le_refl _) _
    have hk5 : w5.heap[w4.heap.size]? = some (.cells #[.slice none 0 0] 22 (0, 0)) := by rw [hw5]; exact new_blk _ _
    obtain ⟨w6, hw6⟩ : ∃ w6, w6 = w5.alloc (.map #[] 0) := ⟨_, rfl⟩
    have hb6 : Below w5.heap.size w5 w6 := by rw [hw6]; exact (Below.refl _ _).alloc (Nat.le_refl _) _
    have hm6 : MapV w6 w5.heap.size 0 (fun _ => none) := by rw [hw6]; exact MapV.made w5
    obtain ⟨w7, hw7⟩ : ∃ w7, w7 = w6.alloc (.cells #[.map (some w5.heap.size)] 31) := ⟨_, rfl⟩
    have hb7 : Below w6.heap.size w6 w7 := by rw [hw7]; exact (Below.refl _ _).alloc (Nat.le_refl _) _
    have hk7 : w7.heap[w6.heap.size]? = some (.cells #[.map (some w5.heap.size)] 31 (0, 0)) := by rw [hw7]; exact new_blk _ _
    have hs6 : w6.heap.size = w5.heap.size + 1 := by rw [hw6]; simp
    have hb57 : Below w5.heap.size w5 w7 := hb6.trans (hb7.mono hb6.size)
    have hb47 : Below w4.heap.size w4 w7 := hb5.trans (hb57.mono hb5.size)
    have hb37 : Below w3.heap.size w3 w7 := hb4.trans (hb47.mono hb4.size)
    have HB7 : Hid (Below w0.heap.size w0 w7) := HB3.out.trans (hb37.mono HB3.out.size)
    have HM7 := Lib.hid (HM3.out.on hb37)
    have HKM : Hid (w7.heap[mv]? = some (.cells #[.map (some mb)] 25 (0, 0))) := (hb37.block mv hmvl).trans HK3.out
    have HKO : Hid (w7.heap[w4.heap.size]? = some (.cells #[.slice none 0 0] 22 (0, 0))) := (hb57.block _ (lt_blk hk5)).trans hk5
    obtain ⟨xb, hxb⟩ : ∃ xb, xb = w5.heap.size := ⟨_, rfl⟩
    obtain ⟨lb, hlb⟩ : ∃ lb, lb = w6.heap.size := ⟨_, rfl⟩
    obtain ⟨ob, hob⟩ : ∃ ob, ob = w4.heap.size := ⟨_, rfl⟩
    have hl5 : lb = w5.heap.size + 1 := hlb.trans hs6
    have HLM7 : Hid (LM w7 xb 0 [] (fun _ => none) (fun _ => true)) := ⟨by rw [hxb]; exact hm6.on (hb7.block _ hm6.lt), fun x => by simp⟩
    rw [← hxb, ← hlb] at hk7
    rw [← hob] at HKO
    have HKL := Lib.hid hk7
    have hxl : xb < lb := by omega
    have hox : ob < xb := by rw [hob, hxb]; exact lt_blk hk5
    have hmx : mv < xb := by have := hb4.size; have := hb5.size; omega
    have hll7 : lb < w7.heap.size := lt_blk hk7
    have hmbx : mb < xb := by have := HM3.out.m.lt; have := hb4.size; have := hb5.size; omega
    have HS0 := Lib.hid hS0
    have HSR := Lib.hid hSr
    obtain ⟨D, hown, hD⟩ := HM7.out.m.own
    have HL0 := Lib.hid (LeftK.start hD HM7.out.key)
    have HD := Lib.hid hD
    have HOWN := Lib.hid hown
    have hmm := @run_makeMap Tryd.prog
    have a3 : w7.cell? ⟨mv, 0, none⟩ = some (.map (some mb)) := (cell_blk HKM.out).trans rfl
    have l3 := lt_of_cell a3
    clear hb4 hB4 hb5 hk5 hb6 hm6 hb7 hk7 hs6 hb57 hb47 hb37 HOR c3 HK3 hS0 hSr hown hD
    go_upto_region 7 with fail
    rw [← hw5, ← hob]
    clear hw5 hob
    go_upto_region 9 with fail
    rw [← hw6, ← hw7, ← hl5, ← hxb]
    clear hw6 hw7 hxb hlb hmm hl5
    go_wp2_with (at_range; refine wpList_range_own _ rfl _ 25 rfl 9 37 skey Tryd.underlying25 heldV mb n D rfl HOWN.out ?_; intro w8 hrg8 hg8 hs8)
    go_frame
    have hb8 : Below w7.heap.size w7 w8 := (Below.refl _ _).grown hg8 (Nat.le_refl _) (fun k hk => by cases hk)
    have HRG8 := Lib.hid hrg8
    have HX8 : Hid (Ext xb w7 w8) := Ext.below hb8
    have HLM8 := Lib.hid (HLM7.out.on (hb8.block _ HLM7.out.m.lt))
    obtain ⟨r1, hr1⟩ : ∃ r1, r1 = w7.heap.size := ⟨_, rfl⟩
    rw [← hr1] at HRG8 ⊢
    have hr1' : w7.heap.size ≤ r1 := by omega
    have hK100 := HM7.out.n
    have HKLn := Lib.hid HM7.out.kl
    have HOE : Hid (∀ W, Ext xb w7 W → W.ownsMap Tryd.prog 9 heldV mb n D) := fun W hW => by
      obtain ⟨es, clock, q1, q2⟩ := HOWN.out
      exact ⟨es, clock, (hW.block mb (lt_blk q1) (by omega)).trans q1, q2⟩
    have HME : Hid (∀ W, Ext xb w7 W → Mods W mb n f K im) := fun W hW => HM7.out.ext HLM7.out.m (by omega) hW
    clear hrg8 hg8 hs8 hb8 HOWN HLM7 hr1 a3 l3
    have HCE : Hid (∀ W, Ext xb w7 W → W.cell? ⟨mv, 0, none⟩ = some (.map (some mb)) ∧ mv < W.heap.size ∧ W.cell? ⟨lb, 0, none⟩ = some (.map (some xb)) ∧ lb < W.heap.size ∧ W.cell? ⟨ob, 0, none⟩ = some (.slice none 0 0) ∧ ob < W.heap.size) := fun W hW => by
      have h1 := (hW.block mv (lt_blk HKM.out) (by omega)).trans HKM.out
      have h2 := (hW.block lb (lt_blk HKL.out) (by omega)).trans HKL.out
      have h3 := (hW.block ob (lt_blk HKO.out) (by omega)).trans HKO.out
      exact ⟨(cell_blk h1).trans rfl, lt_blk h1, (cell_blk h2).trans rfl, lt_blk h2, (cell_blk h3).trans rfl, lt_blk h3⟩
    go_loopg [] (Maps.size D) (fun k wr => ∃ left d1 c fx, Hid (wr.ranges Tryd.prog 9 heldV mb r1 n D left k) ∧ Hid (LeftK K d1 left) ∧ Hid (LM wr xb c d1 fx (fun _ => true)) ∧ c ≤ d1.length ∧ Hid (Ext xb w7 wr))
    case atStart => exact ⟨_, [], 0, _, HRG8, HL0, HLM8, Nat.le_refl _, HX8⟩
    case round =>
      obtain ⟨left, d1, c, fx, HRG, HLK, HLM, hcd, HX⟩ := hrel
      clear HRG8 HLM8 HX8
      go_wp2_with (first | (at_next; refine wpList_next_ranges _ rfl _ rfl 9 skey heldV (fun x : Bs => .string (bs x)) (fun v : Value => v) (fun key kl h => (skey_inv' h).imp fun _ q => q.1) (fun v _ _ => ⟨v, rfl⟩) mb r1 n D left _ rfl HRG.out ?_ ?_))
      · intro _ hdone
        have HLMr : Hid (LM wr xb c K fx (fun _ => true)) := HLM.out.same (HLK.out.done hdone)
        have hc100 : c ≤ 100 := by have := Tp.nodup_le HLK.out.1 HLK.out.2.1; omega
        have HXr := HX
        obtain ⟨b1, l1, _, _, _, _⟩ := HCE.out wr HX.out
        have HOr := Lib.hid (HOE.out wr HX.out)
        clear hdone HRG HLK HLM HX
        go_wp2_with (at_range; refine wpList_range_own _ rfl _ 25 rfl 9 37 skey Tryd.underlying25 heldV mb n D rfl HOr.out ?_; intro w11 hrg11 hg11 hs11)
        go_frame
        have hb11 : Below wr.heap.size wr w11 := (Below.refl _ _).grown hg11 (Nat.le_refl _) (fun k hk => by cases hk)
        have HRG11 := Lib.hid hrg11
        have HX11 : Hid (Ext xb w7 w11) := HXr.out.trans (Ext.below hb11)
        have HLM11 := Lib.hid (HLMr.out.on (hb11.block _ HLMr.out.m.lt))
        obtain ⟨r2, hr2⟩ : ∃ r2, r2 = wr.heap.size := ⟨_, rfl⟩
        rw [← hr2] at HRG11 ⊢
        have hr2' : w7.heap.size ≤ r2 := by have := HXr.out.size; omega
        clear hrg11 hg11 hs11 hb11 HLMr HXr hr2 b1 l1 HOr
        go_loopg [] (Maps.size D) (fun k wr => ∃ left d2 c fx L, Hid (wr.ranges Tryd.prog 9 heldV mb r2 n D left k) ∧ Hid (LeftK K d2 left) ∧ Hid (LM wr xb c K fx L) ∧ c ≤ 100 + 100 * d2.length ∧ Hid (Ext xb w7 wr) ∧ Hid (∀ y ∈ K, S y → L y = true))
        case atStart => exact ⟨_, [], c, _, _, HRG11, HL0, HLM11, by simp; omega, HX11, fun _ _ _ => rfl⟩
        case round =>
          clear HRG11 HLM11 HX11
          obtain ⟨left, d2, c, fx, L, HRG, HLK, HLM, hcd, HX, HSL⟩ := hrel
          go_wp2_with (first | (at_next; refine wpList_next_ranges _ rfl _ rfl 9 skey heldV (fun x : Bs => .string (bs x)) (fun v : Value => v) (fun key kl h => (skey_inv' h).imp fun _ q => q.1) (fun v _ _ => ⟨v, rfl⟩) mb r2 n D left _ rfl HRG.out ?_ ?_))
          · intro _ _
            obtain ⟨_, _, b3, l3, _, _⟩ := HCE.out wr HX.out
            obtain ⟨D4, hown4, hD4⟩ := HLM.out.m.own
            have HOWN4 := Lib.hid hown4
            have HD4 := Lib.hid hD4
            have HL40 := Lib.hid (LeftK.start (K := K) hD4 (fun x => by rw [HLM.out.f x]; by_cases e : x ∈ K <;> simp [e]))
            have HXr := HX
            have HFX := Lib.hid HLM.out.f
            clear hown4 hD4 HRG HLK HX
            go_wp2_with (at_range; refine wpList_range_own _ rfl _ 31 rfl 9 4 skey Tryd.underlying31 heldV xb c D4 rfl HOWN4.out ?_; intro w16 hrg16 hg16 hs16)
            go_frame
            have hb16 : Below wr.heap.size wr w16 := (Below.refl _ _).grown hg16 (Nat.le_refl _) (fun k hk => by cases hk)
            have HRG16 := Lib.hid hrg16
            have HX16 : Hid (Ext xb w7 w16) := HXr.out.trans (Ext.below hb16)
            obtain ⟨r4, hr4⟩ : ∃ r4, r4 = wr.heap.size := ⟨_, rfl⟩
            rw [← hr4] at HRG16 ⊢
            have hr4' : w7.heap.size ≤ r4 := by have := HXr.out.size; omega
            clear hrg16 hg16 hs16 hb16 HOWN4 HXr hr4 b3 l3 HLM
            go_loopg [] (Maps.size D4) (fun k wr => ∃ left d4, Hid (wr.ranges Tryd.prog 9 heldV xb r4 c D4 left k) ∧ Hid (LeftK K d4 left) ∧ Hid (∀ y ∈ d4, L y = false) ∧ Hid (Ext xb w7 wr))
            case atStart => exact ⟨_, [], HRG16, HL40, (fun y hy => by cases hy), HX16⟩
            case round =>
              clear HRG16 HL40 HX16
              obtain ⟨left4, d4, HRG, HLK, HF4, HX⟩ := hrel
              go_wp2_with (first | (at_next; refine wpList_next_ranges _ rfl _ rfl 9 skey heldV (fun x : Bs => .string (bs x)) (fun v : Value => v) (fun key kl h => (skey_inv' h).imp fun _ q => q.1) (fun v _ _ => ⟨v, rfl⟩) xb r4 c D4 left4 _ rfl HRG.out ?_ ?_))
              · intro _ hdone
                exfalso
                obtain ⟨z, hzK, hzS⟩ := HS0.out
                have h1 := HF4.out z ((HLK.out.done hdone z).2 hzK)
                rw [HSL.out z hzK hzS] at h1
                cases h1
              · intro y cv kl y1 y2 w17 cnt4 hkey hlk hR hat hrg17 hlt17 hg17 hs17 hen
                obtain ⟨x', hx1, hx2⟩ := skey_inv' hkey
                have hxx : y = x' := by injection hx1 with hx1; rw [← bs_toList y, ← bs_toList x', hx1]
                subst hxx
                rw [hx2] at hlk hrg17 hat
                cases hR
                have hfx := range_entry' HD4.out hat
                obtain ⟨hyK, hyn, hLK4⟩ := HLK.out.next hlk
                rw [HFX.out y, if_pos hyK] at hfx
                cases hfx
                have HX17 : Hid (Ext xb w7 w17) := ext_then HX.out ((Below.refl w7.heap.size wr).grown hg17 HX.out.size (fun k hk => by cases hk; exact hr4')) (Nat.le_refl _)
                have HRG17 := Lib.hid hrg17
                have HLK4 := Lib.hid hLK4
                have HF5 : Hid (L y = false → ∀ z ∈ d4 ++ [y], L z = false) := fun e z hz => by
                  rcases List.mem_append.1 hz with q | q
                  · exact HF4.out z q
                  · simp at q; rw [q]; exact e
                obtain ⟨_, _, _, _, b5, l5⟩ := HCE.out w17 HX17.out
                have HB17 : Hid (Below w0.heap.size w0 w17) := HB7.out.trans (ext_below HX17.out (by have := HB1.out.size; omega) HB7.out.size)
                generalize L y = ly at *
                clear hkey hlk hat hrg17 hg17 hs17 hx1 hx2 hyn hLK4 HRG HLK HF4 HX hyK
                cases ly with
                | false =>
                  have HF6 := Lib.hid (HF5.out (by first | trivial | rfl))
                  clear HF5 b5 l5
                  go_wp2_with fail
                  go_roundg cnt4
                  case measure => exact hlt17
                  case rel => exact ⟨_, d4 ++ [y], HRG17, HLK4, HF6, HX17⟩
                | true =>
                  have HTE := Lib.hid (tell_en 11 w17 (HV.out.on' hB HB17.out).et)
                  clear HF5
                  go_wp2_with fail
                  refine HTE.out.mono ?_
                  rintro e w18 ⟨rfl, hb18⟩
                  have b6 : w18.cell? ⟨ob, 0, none⟩ = some (.slice none 0 0) := (hb18.cell (p := ⟨ob, 0, none⟩) l5).trans b5
                  have l6 := lt_of_cell b6
                  have HB18 : Hid (Below w0.heap.size w0 w18) := HB17.out.trans (hb18.mono HB17.out.size)
                  clear hb18 HTE b5 l5
                  go_wp2_with fail
                  go_ret
                  exact ⟨rfl, HB18.out⟩
          · intro x cv kl y1 y2 w9 cnt2 hkey hlk hR hat hrg9 hlt9 hg9 hs9 hen
            obtain ⟨x', hx1, hx2⟩ := skey_inv' hkey
            have hxx : x = x' := by injection hx1 with hx1; rw [← bs_toList x, ← bs_toList x', hx1]
            subst hxx
            rw [hx2] at hlk hrg9
            obtain ⟨hxK, hxn, hLK2⟩ := HLK.out.next hlk
            have hit := ranges_iter HRG.out
            have HX9 : Hid (Ext xb w7 w9) := ext_then HX.out ((Below.refl w7.heap.size wr).grown hg9 HX.out.size (fun k hk => by cases hk; exact hr2')) (Nat.le_refl _)
            have HLM9 := Lib.hid (HLM.out.on (hg9.block xb HLM.out.m.lt (fun e => map_ne_iter HLM.out.m hit (by injection e))))
            obtain ⟨b1, l1, _, _, _, _⟩ := HCE.out w9 HX9.out
            have HO9 := Lib.hid (HOE.out w9 HX9.out)
            have hdl : d2.length < 100 := by
              have h1 := Tp.nodup_le hLK2.1 hLK2.2.1
              simp at h1
              omega
            have HRG9 := Lib.hid hrg9
            have HLK2 := Lib.hid hLK2
            clear hkey hlk hR hat hrg9 hg9 hs9 hx1 hx2 hxn hLK2 HRG HLK HLM HX hit hen hxK
            generalize (fun z : Lit => left z && !z.sameKey (.string x)) = left2 at *
            go_wp2_with (at_range; refine wpList_range_own _ rfl _ 25 rfl 9 37 skey Tryd.underlying25 heldV mb n D rfl HO9.out ?_; intro w12 hrg12 hg12 hs12)
            go_frame
            have hb12 : Below w9.heap.size w9 w12 := (Below.refl _ _).grown hg12 (Nat.le_refl _) (fun k hk => by cases hk)
            have HRG12 := Lib.hid hrg12
            have HX12 : Hid (Ext xb w7 w12) := HX9.out.trans (Ext.below hb12)
            have HLM12 := Lib.hid (HLM9.out.on (hb12.block _ HLM9.out.m.lt))
            have hr29 := HRG9.out.lt
            have hml9 : mb < w9.heap.size := by have := HX9.out.size; omega
            have HR212 := Lib.hid (ranges_keep HRG9.out (hb12.block mb hml9) (hb12.block r2 hr29))
            obtain ⟨r3, hr3⟩ : ∃ r3, r3 = w9.heap.size := ⟨_, rfl⟩
            rw [← hr3] at HRG12 ⊢
            have hr3' : w7.heap.size ≤ r3 := by have := HX9.out.size; omega
            have hr23 : r2 < r3 := by omega
            clear hrg12 hg12 hs12 hb12 HLM9 HX9 hr3 b1 l1 HO9 HRG9 hr29 hml9
            go_loopg [] (Maps.size D) (fun k wr => ∃ left3 d3 c fx L, Hid (wr.ranges Tryd.prog 9 heldV mb r3 n D left3 k) ∧ Hid (wr.ranges Tryd.prog 9 heldV mb r2 n D left2 cnt2) ∧ Hid (LeftK K d3 left3) ∧ Hid (LM wr xb c K fx L) ∧ c ≤ 100 + 100 * d2.length + d3.length ∧ Hid (Ext xb w7 wr) ∧ Hid (∀ y ∈ K, S y → L y = true))
            case atStart => exact ⟨_, [], c, _, _, HRG12, HR212, HL0, HLM12, by simp; omega, HX12, HSL⟩
            case round =>
              clear HRG12 HR212 HLM12 HX12 HSL
              obtain ⟨left3, d3, c, fx, L, HRG, HR2, HLK, HLM, hcd, HX, HSL⟩ := hrel
              go_wp2_with (first | (at_next; refine wpList_next_ranges _ rfl _ rfl 9 skey heldV (fun x : Bs => .string (bs x)) (fun v : Value => v) (fun key kl h => (skey_inv' h).imp fun _ q => q.1) (fun v _ _ => ⟨v, rfl⟩) mb r3 n D left3 _ rfl HRG.out ?_ ?_))
              · intro _ _
                have hcd2 : c ≤ 100 + 100 * (d2 ++ [x]).length := by have := Tp.nodup_le HLK.out.1 HLK.out.2.1; simp; omega
                go_wp2_with fail
                go_roundg cnt2
                case measure => exact hlt9
                case rel => exact ⟨left2, d2 ++ [x], c, fx, L, HR2, HLK2, HLM, hcd2, HX, HSL⟩
              · intro y cv kl y1 y2 w13 cnt3 hkey hlk hR hat hrg13 hlt13 hg13 hs13 hen
                obtain ⟨x', hx1, hx2⟩ := skey_inv' hkey
                have hxx : y = x' := by injection hx1 with hx1; rw [← bs_toList y, ← bs_toList x', hx1]
                subst hxx
                rw [hx2] at hlk hrg13
                obtain ⟨hyK, hyn, hLK3⟩ := HLK.out.next hlk
                have hit := ranges_iter HRG.out
                have HX13 : Hid (Ext xb w7 w13) := ext_then HX.out ((Below.refl w7.heap.size wr).grown hg13 HX.out.size (fun k hk => by cases hk; exact hr3')) (Nat.le_refl _)
                have hL13 := HLM.out.on (hg13.block xb HLM.out.m.lt (fun e => map_ne_iter HLM.out.m hit (by injection e)))
                have hrl13 := hrg13.lt
                have hmlr : mb < wr.heap.size := by have := HX.out.size; omega
                have hr2r := HR2.out.lt
                have HR213 := Lib.hid (ranges_keep HR2.out (hg13.block mb hmlr (fun e => by injection e with e; omega)) (hg13.block r2 hr2r (fun e => by injection e with e; omega)))
                obtain ⟨b1, l1, b3, l3, _, _⟩ := HCE.out w13 HX13.out
                have hM13 := HME.out w13 HX13.out
                have hyl := HKLn.out y hyK
                have hlk3 := hL13.m.look (t := 31) Tryd.underlying31 (zeroBool' w13) y hyl false
                simp only [Bool.false_eq_true, if_false] at hlk3
                rw [hL13.f y, if_pos hyK, Option.getD_some] at hlk3
                obtain ⟨nm, ja, jc, ga, gn, gc, pa, pn, pc, ba, bn, bc, hfm, hst, him6, himl⟩ := hM13.mod y hyK
                have hlk1 := hM13.m.look (t := 25) Tryd.underlying25 (zeroMod' w13) y hyl false
                simp only [Bool.false_eq_true, if_false] at hlk1
                rw [hfm] at hlk1
                simp only [Option.getD_some] at hlk1
                have HCF : Hid (Calls Tryd.prog 8 #[.slice ja (im y).length jc, .func (.func 9) #[] #[.pointer (some ⟨lb, 0, none⟩)]] w13 fun e w' => e = .returned (.bool ((im y).any fun z => decide (z ∈ K) && L z)) ∧ Below w13.heap.size w13 w') :=
                  containsF1 (cap := jc) (p := fun z => decide (z ∈ K) && L z) (c1 := .pointer (some ⟨lb, 0, none⟩)) hst (by omega) cl1_cf (fun W z hz hW => cl1_post ((hW.cell (p := ⟨lb, 0, none⟩) l3).trans b3) (hL13.on (hW.block xb hL13.m.lt)).left z (himl z hz))
                have HGO : Hid (((im y).any fun z => decide (z ∈ K) && L z) = false → ∀ z ∈ K, S z → (if z = y then false else L z) = true) := gone_ok HSR.out HSL.out
                have HLM13 := Lib.hid hL13
                have HRG13 := Lib.hid hrg13
                have HLK3 := Lib.hid hLK3
                have HYK := Lib.hid hyK
                have hd3 : d3.length < 100 := by
                  have h1 := Tp.nodup_le hLK3.1 hLK3.2.1
                  simp at h1
                  omega
                have hmf : ∀ (fn : Fn) (first cap : Array Value) (w : World), (Instr.makeFunc fn first cap).run Tryd.prog w = .ok (.func fn first cap) w := fun _ _ _ _ => rfl
                have hcd3 : c ≤ 100 + 100 * d2.length + (d3 ++ [y]).length := by simp; omega
                have hcd4 : c + 1 ≤ 100 + 100 * d2.length + (d3 ++ [y]).length := by simp; omega
                generalize ((im y).any fun z => decide (z ∈ K) && L z) = an at *
                generalize (im y).length = jl at *
                have hfd := field_im nm ja ga pa ba jl jc gn gc pn pc bn bc
                obtain ⟨ly, hly⟩ : ∃ ly, ly = L y := ⟨_, rfl⟩
                rw [← hly] at hlk3
                clear hkey hlk hR hat hrg13 hg13 hs13 hx1 hx2 hyn hLK3 HRG HLK HLM HX hit hM13 hfm hst himl hL13 hyK hly HR2 him6
                cases ly with
                | false =>
                  clear HCF HGO hlk1
                  go_wp2_with fail
                  go_roundg cnt3
                  case measure => exact hlt13
                  case rel => exact ⟨_, d3 ++ [y], c, fx, L, HRG13, HR213, HLK3, HLM13, hcd3, HX13, HSL⟩
                | true =>
                  go_wp2_with fail
                  clear hlk1 hlk3 b1 l1
                  refine HCF.out.mono ?_
                  rintro e w14 ⟨rfl, hb14⟩
                  have HX14 : Hid (Ext xb w7 w14) := HX13.out.trans (Ext.below hb14)
                  have HLM14 := Lib.hid (HLM13.out.on (hb14.block xb HLM13.out.m.lt))
                  have hml13 : mb < w13.heap.size := by have := HX13.out.size; omega
                  have HR214 := Lib.hid (ranges_keep HR213.out (hb14.block mb hml13) (hb14.block r2 HR213.out.lt))
                  have HRG14 := Lib.hid (ranges_keep HRG13.out (hb14.block mb hml13) (hb14.block r3 hrl13))
                  obtain ⟨_, _, b4, l4, _, _⟩ := HCE.out w14 HX14.out
                  clear hb14 HCF b3 l3 HX13 HLM13 HR213 HRG13
                  cases an with
                  | true =>
                    clear HGO
                    go_wp2_with fail
                    go_roundg cnt3
                    case measure => exact hlt13
                    case rel => exact ⟨_, d3 ++ [y], c, fx, L, HRG14, HR214, HLK3, HLM14, hcd3, HX14, HSL⟩
                  | false =>
                    have HSL2 := Lib.hid (HGO.out (by first | trivial | rfl))
                    clear HGO
                    go_wp2_with (at_mapUpdate; refine wpList_mapUpdate_v' _ rfl _ _ _ 31 rfl _ Tryd.underlying31 xb c fx HLM14.out.m (by omega) y hyl _ rfl rfl rfl ?_; intro w15 q1 q2 q3)
                    have HLM15 := Lib.hid (HLM14.out.gone HYK.out q1)
                    have HX15 : Hid (Ext xb w7 w15) := HX14.out.trans q2
                    have HR215 := Lib.hid (ranges_keep HR214.out (q2.block mb (by have := HX14.out.size; omega) (by omega)) (q2.block r2 HR214.out.lt (by omega)))
                    have HRG15 := Lib.hid (ranges_keep HRG14.out (q2.block mb (by have := HX14.out.size; omega) (by omega)) (q2.block r3 HRG14.out.lt (by omega)))
                    clear q1 q2 q3 b4 l4
                    go_wp2_with fail
                    go_roundg cnt3
                    case measure => exact hlt13
                    case rel => exact ⟨_, d3 ++ [y], c + 1, _, _, HRG15, HR215, HLK3, HLM15, hcd4, HX15, HSL2⟩
      · intro x cv kl y1 y2 w9 cnt' hkey hlk hR hat hrg9 hlt9 hg9 hs9 hen
        obtain ⟨x', hx1, hx2⟩ := skey_inv' hkey
        have hxx : x = x' := by injection hx1 with hx1; rw [← bs_toList x, ← bs_toList x', hx1]
        subst hxx
        rw [hx2] at hlk hrg9
        obtain ⟨hxK, hxn, hLK2⟩ := HLK.out.next hlk
        have hit := ranges_iter HRG.out
        have HX9 : Hid (Ext xb w7 w9) := ext_then HX.out ((Below.refl w7.heap.size wr).grown hg9 HX.out.size (fun k hk => by cases hk; exact hr1')) (Nat.le_refl _)
        have HLM9 := Lib.hid (HLM.out.on (hg9.block xb HLM.out.m.lt (fun e => map_ne_iter HLM.out.m hit (by injection e))))
        obtain ⟨_, _, b3, l3, _, _⟩ := HCE.out w9 HX9.out
        have HRG9 := Lib.hid hrg9
        have HLK2 := Lib.hid hLK2
        have hxl9 := HKLn.out x hxK
        have hdl : d1.length ≤ 100 := by have := Tp.nodup_le HLK.out.1 HLK.out.2.1; omega
        have hrl9 := hrg9.lt
        have hne9 : r1 ≠ xb := by omega
        clear hkey hlk hR hat hrg9 hg9 hs9 hx1 hx2 hxn hLK2 HRG HLK HLM HX hit HL0 HOE HME
        go_wp2_with (at_mapUpdate; refine wpList_mapUpdate_v' _ rfl _ _ _ 31 rfl _ Tryd.underlying31 xb c fx HLM9.out.m (by omega) x hxl9 _ rfl rfl rfl ?_; intro w10 q1 q2 q3)
        have HLM10 := Lib.hid (HLM9.out.add q1)
        have HX10 : Hid (Ext xb w7 w10) := HX9.out.trans q2
        have HRG10 := Lib.hid (ranges_keep HRG9.out (q2.block mb (by have := HX9.out.size; omega) (by omega)) (q2.block r1 hrl9 hne9))
        clear q1 q2 q3 b3 l3 hen
        go_wp2_with fail
        go_roundg cnt'
        case measure => exact hlt9
        case rel => exact ⟨_, d1 ++ [x], c + 1, _, HRG10, HLK2, HLM10, by simp; omega, HX10⟩
end Go.Proofs.YtadgeapgoggljaaDoor
