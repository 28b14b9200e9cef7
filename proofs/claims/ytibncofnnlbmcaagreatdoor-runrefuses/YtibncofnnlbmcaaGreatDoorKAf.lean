import Derived.Test.YtibncofnnlbmcaaGreatDoorKAe
import Derived.Test.YtibncofnnlbmcaaGreatDoorKAd
import Derived.Test.YtibncofnnlbmcaaGreatDoorKAb
import Derived.Test.YtibncofnnlbmcaaGreatDoorKAc
/- Chapter 4: Load, done: whatever is there. -/
namespace Go.Proofs.YtibncofnnlbmcaaGreatDoor
open Go.RowKit Go.Maps
open Tp (Bs X S G Pr Pt Rs Rr Own)

/- what an act answers, and leaves -/
structure AnsP (X U : Nat → Prop) (c : Nat) (w : World) (wb : Nat) (a : Tp.Ans) (oa : Option Addr) (w' : World) : Prop where
  wz : ∃ U', WZ X U' (c + 1) w' wb a.w ∧ Tr U U' w w'
  it : IntsAt w' a.e.out oa
  oi : ∀ v ∈ a.e.out, Tp.I64 v
  ol : a.e.out.length ≤ 200
  far : ∀ x, oa = some x → w.heap.size ≤ x.block
def LoadQ (X U : Nat → Prop) (c : Nat) (w : World) (wb : Nat) (a : Tp.Ans) (e : Ending) (w' : World) : Prop := ∃ oa oc ev, e = .returned (.tuple #[.agg #[.int .i64 (a.e.way : Int), .slice oa a.e.out.length oc], ev]) ∧ a.e.out.length ≤ oc ∧ AnsP X U c w wb a oa w' ∧ EvT w.heap.size w' a.err ev
theorem loadS_ok {P : List Pt} {m : Tp.M} {fuel : Nat} (hnew : Tp.partOf P m.name = none) (h : Tp.check m (Tp.seenW ofS P) = none) (hl : P.length < 10) : Tp.loadW ofS P m fuel = ⟨(Tp.endOf (Tp.goS (Tp.gasOf (P ++ [⟨m, Tp.fresh m⟩]) m.body fuel) 0 m.name (fun _ => none) m.body ⟨P ++ [⟨m, Tp.fresh m⟩], fuel, []⟩)).1, (Tp.endOf (Tp.goS (Tp.gasOf (P ++ [⟨m, Tp.fresh m⟩]) m.body fuel) 0 m.name (fun _ => none) m.body ⟨P ++ [⟨m, Tp.fresh m⟩], fuel, []⟩)).2, 0, none⟩ := by
  unfold Tp.loadW
  rw [if_neg (by rw [hnew]; simp), h]
  simp only
  rw [if_neg (by omega)]
set_option maxRecDepth 100000 in
set_option maxHeartbeats 4000000 in
theorem loadA_ok {X : Nat → Prop} {w : World} {wb fuel : Nat} {L : List Lo} {P : List Pt} {nv : Value} {tv : Option Nat} {m : Tp.M} {ia ga pa ba : Option Addr} {ic gc pc bc : Nat} (h : WX X w wb L P nv tv) (hL : L.length ≤ 10) (hmb : MB w w.heap.size m ia ga pa ba ic gc pc bc) (hm : Tp.WM m) {D : Nat → Prop} {c : Nat} (hX : ∀ b, X b → b < w.heap.size) (hL9 : L.length < 10) (hWI : Tp.WI ofS P) (hmc : MapC w tv L c) (hc : c ≤ 90) (hmd : MD w D m ia ga pa ba ic gc pc bc) (hD : ∀ b, D b → b < w.heap.size → ¬ X b ∧ ¬ Mut L wb tv nv b) (hf : fuel ≤ 800000) (hnP : ∀ x ∈ Tp.ms P, Tp.nM x ≤ 1000) (hnm : Tp.nM m ≤ 1000) (hnew : Tp.partOf P m.name = none) (hptr : ptrV L m.name = none) (hck : Tp.check m (Tp.seenW ofS P) = none) :
    Calls Tryz.prog 17 #[.pointer (some ⟨wb, 0, none⟩), .agg (mcells (bs m.name) (.slice ia m.imports.length ic) (.slice ga m.vars.length gc) (.slice pa m.procs.length pc) (.slice ba m.body.length bc)), .int .i64 (fuel : Int)] w (LoadQ X (Mut L wb tv nv) c w wb (Tp.loadW ofS P m fuel)) := by
  have hPL : P.length = L.length := by have := congrArg List.length h.mw; simpa [Tp.ms] using this
  have hal := loadS_ok (fuel := fuel) hnew hck (by omega)
  have hWIa : Tp.WI ofS (Tp.loadW ofS P m fuel).w := Tp.WI.load hWI
  obtain ⟨a, ha⟩ : ∃ a, a = Tp.loadW ofS P m fuel := ⟨_, rfl⟩
  rw [← ha] at hal hWIa ⊢
  have HA := Lib.hid hal
  have HWIa := Lib.hid hWIa
  have HXs := Lib.hid hX
  have HWI := Lib.hid hWI
  have HMC := Lib.hid hmc
  have HMD := Lib.hid hmd
  have HD := Lib.hid hD
  have HNEW := Lib.hid hnew
  have HNP := Lib.hid hnP
  have HNM := Lib.hid hnm
  clear hnP hnm ha hal hWIa hX hWI hmc hmd hD hPL hnew
  have hnl := okn_1000 hm.n
  have hwl := lt_blk h.blk
  obtain ⟨W, hW⟩ : ∃ W, W = (w.alloc (.cells (mcells (bs m.name) (.slice ia m.imports.length ic) (.slice ga m.vars.length gc) (.slice pa m.procs.length pc) (.slice ba m.body.length bc)) 36)).alloc (.cells #[.int .i64 0, .slice none 0 0] 43) := ⟨_, rfl⟩
  have hbW : Below w.heap.size w W := by rw [hW]; exact ((Below.refl _ _).alloc (Nat.le_refl _) _).alloc (by simp) _
  have hsW : W.heap.size = w.heap.size + 2 := by rw [hW]; simp
  have hkm : W.heap[w.heap.size]? = some (.cells (mcells (bs m.name) (.slice ia m.imports.length ic) (.slice ga m.vars.length gc) (.slice pa m.procs.length pc) (.slice ba m.body.length bc)) 36 (0, 0)) := by rw [hW]; exact (Below.heap_alloc _ _ _ (by simp)).trans (new_blk _ _)
  have hke : W.heap[w.heap.size + 1]? = some (.cells #[.int .i64 0, .slice none 0 0] 43 (0, 0)) := by
    have := new_blk (w.alloc (.cells (mcells (bs m.name) (.slice ia m.imports.length ic) (.slice ga m.vars.length gc) (.slice pa m.procs.length pc) (.slice ba m.body.length bc)) 36)) (.cells #[.int .i64 0, .slice none 0 0] 43)
    rw [hW]
    simpa using this
  have hww := (hbW.block wb hwl).trans h.blk
  have k1 : W.cell? ⟨wb, 1, none⟩ = some (.map tv) := (cell_blk hww).trans rfl
  have km : W.cell? ⟨w.heap.size, 0, none⟩ = some (.string (bs m.name)) := (cell_blk hkm).trans rfl
  have hlk : ∀ n, (Instr.lookup 26 (.map tv) (.string (bs m.name)) false).run Tryz.prog (W.drewN n) = .ok (.pointer none) (W.drewN n) := fun n => by
    have := ((h.on hbW).on (below_drewN (Below.refl W.heap.size W) n)).look m.name (by omega)
    rw [hptr] at this
    exact this
  have HMB := Lib.hid hmb
  have HSM := Lib.hid hm.sml
  have HBW := Lib.hid hbW
  have HKM := Lib.hid hkm
  have HKE := Lib.hid hke
  have HWW := Lib.hid hww
  have HM := Lib.hid hm
  have HWX := Lib.hid h
  have HSW := Lib.hid hsW
  have hwlW : wb < W.heap.size := by omega
  have hmlW : w.heap.size < W.heap.size := by omega
  have HHCK0 : Hid (Tp.check m (Tp.seenW ofS P) = none) := hck
  unfold mcells at *
  obtain ⟨mn, hmn⟩ : ∃ mn, mn = bs m.name := ⟨_, rfl⟩
  obtain ⟨Sn, hSn⟩ : ∃ Sn, Sn = Tp.seenW ofS P := ⟨_, rfl⟩
  have HCK : Hid (∀ W' sb, Below w.heap.size w W' → SeenV W' (.map (some sb)) Sn → Calls Tryz.prog 37 #[.agg #[.string mn, .slice ia m.imports.length ic, .slice ga m.vars.length gc, .slice pa m.procs.length pc, .slice ba m.body.length bc], .map (some sb)] W' (CheckP W' (Tp.check m Sn))) := fun W' sb hW' hmap => by
    have := check_post HSM.out (HMB.out.up hW') hmap
    unfold mcells at this
    rw [hmn]
    exact this
  rw [← hmn] at hW km hlk HKM ⊢
  have HMN : Hid (mn = bs m.name) := hmn
  have HSN : Hid (Sn = Tp.seenW ofS P) := hSn
  clear hmb hm hww hkm hke hbW hsW hmn hSn h hptr hck
  obtain ⟨il, hil⟩ : ∃ il, il = m.imports.length := ⟨_, rfl⟩
  obtain ⟨gl, hgl⟩ : ∃ gl, gl = m.vars.length := ⟨_, rfl⟩
  obtain ⟨pl, hpl⟩ : ∃ pl, pl = m.procs.length := ⟨_, rfl⟩
  obtain ⟨bl, hbl⟩ : ∃ bl, bl = m.body.length := ⟨_, rfl⟩
  rw [← hil, ← hgl, ← hpl, ← hbl] at hW HKM HCK ⊢
  have HQ := Lib.hid (And.intro hil (And.intro hgl (And.intro hpl hbl)))
  clear hil hgl hpl hbl
  go_enter Tryz.func17, Tryz.ntmps17
  go_upto_region 1 with fail
  rw [← hW]
  clear hW
  go_quiet (fail)
  obtain ⟨w1, hw1⟩ : ∃ w1, w1 = W.drewN nq := ⟨_, rfl⟩
  have e1 : w1.heap = W.heap := by rw [hw1]; rfl
  have HB1 : Hid (Below W.heap.size W w1) := by rw [hw1]; exact below_drewN (Below.refl _ _) _
  rw [← hw1]
  clear hw1 hlk k1 km
  have HHCK : Hid (Tp.check m Sn = none) := by show _ = _; rw [HSN.out]; exact HHCK0.out
  have hbd : Below W.heap.size W w1.drew := HB1.out.drew
  have hmd := (hbd.block _ hmlW).trans HKM.out
  have HS0 : Hid (w1.drew.cell? ⟨w.heap.size, 0, none⟩ = some (.string mn) ∧ w1.drew.cell? ⟨w.heap.size, 1, none⟩ = some (.slice ia il ic) ∧ w1.drew.cell? ⟨w.heap.size, 2, none⟩ = some (.slice ga gl gc) ∧ w1.drew.cell? ⟨w.heap.size, 3, none⟩ = some (.slice pa pl pc) ∧ w1.drew.cell? ⟨w.heap.size, 4, none⟩ = some (.slice ba bl bc)) := cell_box5 hmd
  have hs1d : w1.drew.heap.size = W.heap.size := by show w1.heap.size = _; rw [e1]
  have HSE : Hid (Calls Tryz.prog 38 #[.pointer (some ⟨wb, 0, none⟩)] w1.drew fun e w2 => ∃ sb, e = .returned (.map (some sb)) ∧ (Below W.heap.size W w2 ∧ SeenV w2 (.map (some sb)) Sn) ∧ (w2.cell? ⟨w.heap.size, 0, none⟩ = some (.string mn) ∧ w2.cell? ⟨w.heap.size, 1, none⟩ = some (.slice ia il ic) ∧ w2.cell? ⟨w.heap.size, 2, none⟩ = some (.slice ga gl gc) ∧ w2.cell? ⟨w.heap.size, 3, none⟩ = some (.slice pa pl pc) ∧ w2.cell? ⟨w.heap.size, 4, none⟩ = some (.slice ba bl bc))) := by
    refine (seen_any (HWX.out.on (HBW.out.trans (hbd.mono (by omega)))) hL).mono ?_
    rintro e w2 ⟨sb, rfl, hb2, hs2⟩
    have hB2 : Below W.heap.size W w2 := hbd.trans (hb2.mono (by rw [hs1d]; exact Nat.le_refl _))
    exact ⟨sb, rfl, ⟨hB2, by rw [HSN.out]; exact hs2⟩, cell_box5 ((hB2.block _ hmlW).trans HKM.out)⟩
  have HCK2 : Hid (∀ w2 sb, Below W.heap.size W w2 ∧ SeenV w2 (.map (some sb)) Sn → Calls Tryz.prog 37 #[.agg #[.string mn, .slice ia il ic, .slice ga gl gc, .slice pa pl pc, .slice ba bl bc], .map (some sb)] w2 fun e w3 => e = .returned .nilIface ∧ (Below W.heap.size W w3) ∧ (w3.cell? ⟨w.heap.size, 0, none⟩ = some (.string mn) ∧ w3.cell? ⟨w.heap.size, 1, none⟩ = some (.slice ia il ic) ∧ w3.cell? ⟨w.heap.size, 2, none⟩ = some (.slice ga gl gc) ∧ w3.cell? ⟨w.heap.size, 3, none⟩ = some (.slice pa pl pc) ∧ w3.cell? ⟨w.heap.size, 4, none⟩ = some (.slice ba bl bc))) := fun w2 sb h2 => by
    have := HCK.out w2 sb (HBW.out.trans (h2.1.mono (by omega))) h2.2
    rw [HHCK.out] at this
    refine this.mono ?_
    rintro e w3 ⟨hb3, rfl⟩
    have hB3 : Below W.heap.size W w3 := h2.1.trans (hb3.mono h2.1.size)
    exact ⟨rfl, hB3, cell_box5 ((hB3.block _ hmlW).trans HKM.out)⟩
  clear hbd hmd HCK hs1d
  go_upto_region 3 with fail
  go_region_held3 (fun w' => w'.cell? ⟨w.heap.size, 0, none⟩ = some (.string mn) ∧ w'.cell? ⟨w.heap.size, 1, none⟩ = some (.slice ia il ic) ∧ w'.cell? ⟨w.heap.size, 2, none⟩ = some (.slice ga gl gc) ∧ w'.cell? ⟨w.heap.size, 3, none⟩ = some (.slice pa pl pc) ∧ w'.cell? ⟨w.heap.size, 4, none⟩ = some (.slice ba bl bc)) (with_reducible (first | exact HS3.out | exact HS2.out | exact HS0.out)) (first | (go_at_call 38; refine HSE.out.mono ?_; rintro e w2 ⟨sb, rfl, hb2, hs2⟩; have HB2 := Lib.hid hb2; have HS2 := Lib.hid hs2; clear hb2 hs2) | (go_at_call 37; refine (HCK2.out _ _ HB2.out).mono ?_; rintro e w3 ⟨rfl, hb3, hs3⟩; have HB3 := Lib.hid hb3; have HS3 := Lib.hid hs3; clear hb3 hs3))
  have HB3w : Hid (Below w.heap.size w w3) := HBW.out.trans (HB3.out.mono (by omega))
  have hww3 := (HB3.out.block wb hwlW).trans HWW.out
  obtain ⟨na, nc, hnv⟩ := owns_shape HWX.out.nm
  have k0 : w3.cell? ⟨wb, 0, none⟩ = some (.slice na L.length nc) := by
    rw [(cell_blk hww3).trans rfl, hnv]
    rfl
  have HMB3 : Hid (MB w3 w3.heap.size m ia ga pa ba ic gc pc bc) := HMB.out.up HB3w.out
  have hvn : (m.vars.map (·.name)).Nodup := by
    have h1 : Tp.WI ofS (P ++ [⟨m, Tp.fresh m⟩]) := Tp.WI.add (q := ⟨m, Tp.fresh m⟩) HWI.out HNEW.out HHCK0.out
    exact (h1.fit ofS_mem (m := m) (by simp [Tp.ms]) HM.out).vn
  have HFR : Hid (Calls Tryz.prog 39 #[.agg #[.string mn, .slice ia il ic, .slice ga gl gc, .slice pa pl pc, .slice ba bl bc]] w3 (FreshP w3 m ia ga pa ba ic gc pc bc)) := by
    have := fresh_post HMB3.out HM.out hvn
    unfold mcells at this
    rw [← HMN.out, ← HQ.out.1, ← HQ.out.2.1, ← HQ.out.2.2.1, ← HQ.out.2.2.2] at this
    exact this
  obtain ⟨s0, s1, s2, s3, s4⟩ := HS3.out
  have hwl3 : wb < w3.heap.size := lt_blk hww3
  have hl10 : ¬ (L.length : Int) = 10 := by omega
  clear hww3 HS0 HSE HCK2 HS2 HS3 hnv hvn
  generalize hLn : L.length = ln at *
  have HLN := Lib.hid hLn
  clear hLn
  go_wp2_with fail
  refine HFR.out.mono ?_
  rintro e w6 ⟨hb6, lb, vb, sl, rfl, hlb, hvb, hne, hbl, hla, hsl⟩
  obtain ⟨w7, hw7⟩ : ∃ w7, w7 = w6.alloc (.cells #[.pointer (some ⟨lb, 0, none⟩)] 88) := ⟨_, rfl⟩
  have hb7 : Below w6.heap.size w6 w7 := by rw [hw7]; exact (Below.refl _ _).alloc (Nat.le_refl _) _
  have kl7 : w7.cell? ⟨w6.heap.size, 0, none⟩ = some (.pointer (some ⟨lb, 0, none⟩)) := by rw [hw7]; exact (cell_blk (new_blk w6 _)).trans rfl
  have hs6 := hb6.size
  have HB37 : Hid (Below w.heap.size w w7) := (HB3w.out.trans (hb6.mono HB3w.out.size)).trans (hb7.mono (by have := HB3w.out.size; omega))
  have HADD : Hid (Calls Tryz.prog 40 #[.pointer (some ⟨wb, 0, none⟩), .pointer (some ⟨lb, 0, none⟩)] w7 fun e w' => e = .returned (.tuple #[]) ∧ ∃ tb' nv', AddA c w7 wb lb m.name L nv tv w' tb' nv') := by
    refine add_gen (HWX.out.on HB37.out) (by rw [HLN.out]; omega) ((hb7.block lb (lt_blk hbl)).trans hbl) (fun q => ?_) (by have := okn_1000 HM.out.n; omega) (fun tb e => ?_) hc
    · have := (HWX.out.mlt q).1; have := HB3w.out.size; omega
    · obtain ⟨n, q1, q2⟩ := HMC.out tb e; exact ⟨n, q1, q2.on (HB37.out.block _ q2.lt)⟩
  have HX := Lib.hid (And.intro hb6 (And.intro hlb (And.intro hvb (And.intro hne (And.intro hbl (And.intro hla (And.intro hsl (And.intro hb7 kl7))))))))
  clear hb6 hlb hvb hne hbl hla hsl hb7 s0 s1 s2 s3 s4 k0
  go_upto_region 9 with fail
  rw [← hw7]
  clear hw7
  go_wp2_with fail
  refine HADD.out.mono ?_
  rintro e w8 ⟨rfl, tb', nv', hadd⟩
  have HGO : Hid (Calls Tryz.prog 41 #[.pointer (some ⟨wb, 0, none⟩), .int .i64 (fuel : Int), .func (.func 42) #[] #[.pointer (some ⟨w6.heap.size, 0, none⟩), .pointer (some ⟨w.heap.size, 0, none⟩)]] w8 fun e w9 => ∃ oa oc, e = .returned (.agg #[.int .i64 (a.e.way : Int), .slice oa a.e.out.length oc]) ∧ w9.heap[w.heap.size + 1]? = some (.cells #[.int .i64 0, .slice none 0 0] 43 (0, 0)) ∧ ∀ w10, Ext (w.heap.size + 1) w9 w10 → LoadQ X (Mut L wb tv nv) c w wb a (.returned (.tuple #[.agg #[.int .i64 (a.e.way : Int), .slice oa a.e.out.length oc], .nilIface])) w10) := by
    obtain ⟨hb6, hlb, hvb, hne, hbl, hla, hsl, hb7, kl7⟩ := HX.out
    have hs3 := HB3.out.size
    have hsW := HSW.out
    have hs7 := hb7.size
    have hmd3 : MD w3 (fun b => D b ∧ b < w.heap.size) m ia ga pa ba ic gc pc bc := HMD.out.mono (fun b hb hl => ⟨HB3w.out.block b hl, hb, hl⟩)
    have hwx3 : WX (fun b => X b ∨ b = w.heap.size + 1) w3 wb L P nv tv := (HWX.out.more HB3w.out).less (fun b q => q.imp id (fun z => by omega))
    obtain ⟨hww, hWI8, hmc8, htr⟩ := ww_add HM.out hwx3 (fun b q => by
      rcases q with q | q
      · have := HXs.out b q; omega
      · omega) HWI.out HNEW.out HHCK0.out hmd3 (fun b hb hl => ⟨fun q => by
        rcases q with q | q
        · exact (HD.out b hb.1 hb.2).1 q
        · omega, (HD.out b hb.1 hb.2).2⟩) hb6 hlb hvb hbl hla hsl hb7 hc hadd
    have hlo : (⟨m, lb, vb, sl⟩ : Lo) ∈ L ++ [(⟨m, lb, vb, sl⟩ : Lo)] := by simp
    have hmutlt : ∀ b, w.heap.size ≤ b → ¬ Mut L wb tv nv b := fun b hb q => by have := (HWX.out.mlt q).1; omega
    have hadk : ∀ b, b < w7.heap.size → w.heap.size ≤ b → w8.heap[b]? = w7.heap[b]? := fun b hb hl => hadd.block b hb (fun e => hmutlt b hl (Or.inr (Or.inl e))) (fun e => hmutlt b hl (Or.inr (Or.inr (Or.inl e)))) (fun e => hmutlt b hl (Or.inr (Or.inr (Or.inr e))))
    have hk38 : ∀ b, b < w3.heap.size → w.heap.size ≤ b → w8.heap[b]? = w3.heap[b]? := fun b hb hl => ((hadk b (by omega) hl).trans (hb7.block b (by omega))).trans (hb6.block b hb)
    have hlb8 : w8.heap[lb]? = some (.cells (lcells m ia ga pa ba ic gc pc bc vb) 107 (0, 0)) := ((hadk lb (by have := lt_blk hbl; omega) (by omega)).trans (hb7.block lb (lt_blk hbl))).trans hbl
    have hm8 : w8.heap[w.heap.size]? = some (.cells #[.string mn, .slice ia il ic, .slice ga gl gc, .slice pa pl pc, .slice ba bl bc] 36 (0, 0)) := ((hk38 w.heap.size (by omega) (by omega)).trans (HB3.out.block w.heap.size (by omega))).trans HKM.out
    have he8 : w8.heap[w.heap.size + 1]? = some (.cells #[.int .i64 0, .slice none 0 0] 43 (0, 0)) := ((hk38 _ (by omega) (by omega)).trans (HB3.out.block _ (by omega))).trans HKE.out
    have kl8 : w8.cell? ⟨w6.heap.size, 0, none⟩ = some (.pointer (some ⟨lb, 0, none⟩)) := (World.cell?_of_block (w := w7) (hadk w6.heap.size (lt_of_cell kl7) (by omega))).trans kl7
    have km8 : w8.cell? ⟨w.heap.size, 4, none⟩ = some (.slice ba bl bc) := (cell_blk hm8).trans rfl
    have hss := ss_body hww hf hlo hlb8
    have hl1 := load1_post (gas := Tp.gasOf (P ++ [⟨m, Tp.fresh m⟩]) m.body fuel) hww hf hlo kl8 km8 (by rw [HQ.out.2.2.2]; exact hss) Tp.goS_enough
    have hgo := goes_post (caps := #[.pointer (some ⟨w6.heap.size, 0, none⟩), .pointer (some ⟨w.heap.size, 0, none⟩)]) cf_load ((cell_blk hww.blk).trans rfl) hl1
    refine hgo.mono ?_
    intro e w9 hG
    obtain ⟨oa, oc, he, hcap, hgn⟩ := gone hww hf hG
    have hal := HA.out
    have hae : a.e = (Tp.endOf (Tp.goS (Tp.gasOf (P ++ [⟨m, Tp.fresh m⟩]) m.body fuel) 0 m.name (fun _ => none) m.body ⟨P ++ [⟨m, Tp.fresh m⟩], fuel, []⟩)).2 := by rw [hal]
    have haw : a.w = (Tp.endOf (Tp.goS (Tp.gasOf (P ++ [⟨m, Tp.fresh m⟩]) m.body fuel) 0 m.name (fun _ => none) m.body ⟨P ++ [⟨m, Tp.fresh m⟩], fuel, []⟩)).1 := by rw [hal]
    have hern : a.err = none := by rw [hal]
    have he' : e = .returned (.agg #[.int .i64 (a.e.way : Int), .slice oa a.e.out.length oc]) := by rw [hae]; exact he
    have hgn' : GonP (fun b => X b ∨ b = w.heap.size + 1) w8 wb (L ++ [⟨m, lb, vb, sl⟩]) nv' tb' a.w a.e.out oa w9 := by rw [hae, haw]; exact hgn
    have hnv' : ¬ VLo (L ++ [⟨m, lb, vb, sl⟩]) (w.heap.size + 1) := fun q => (hww.sv _ q).2 (Or.inr rfl)
    have h8 := hadd.size
    refine ⟨oa, oc, he', (hgn'.keep _ (by omega) hnv').trans he8, fun w10 h10 => ?_⟩
    have h9 := hgn'.size
    have hs10 := h10.size
    have hww10 : WW X w10 wb (L ++ [⟨m, lb, vb, sl⟩]) a.w nv' tb' := (hgn'.ww.keep (fun b hb hX hv => h10.block b hb (fun e => hX (Or.inr e))) h10.size (fun lo hl => by
      obtain ⟨p, p1, p2, p3⟩ := hgn'.ww.vals lo hl
      exact ⟨p, p1, p2, fun g hg => ⟨(p3 g hg).1, (h10.block _ (lt_blk (p3 g hg).2.1) (fun e => (hgn'.ww.sv _ ⟨lo, hl, g, hg, rfl⟩).2 (Or.inr e))).trans (p3 g hg).2.1, (p3 g hg).2.2⟩⟩) hgn'.ww.mw).less (fun b hb => Or.inl hb)
    refine ⟨oa, oc, .nilIface, rfl, by rw [hae]; exact hcap, ⟨⟨Mut (L ++ [⟨m, lb, vb, sl⟩]) wb (some tb') nv', ⟨L ++ [⟨m, lb, vb, sl⟩], nv', some tb', (show WX X w10 wb (L ++ [⟨m, lb, vb, sl⟩]) a.w nv' (some tb') from hww10), by simp; have := HLN.out; omega, HWIa.out, fun b => Iff.rfl, (fun tb e => ?_), fun x hx => ?_⟩, ?_⟩, ⟨fun i hi => ?_⟩, hgn'.oi, hgn'.ol, fun x hx => by have := hgn'.far x hx; omega⟩, by unfold EvT; rw [hern]⟩
    · cases e
      obtain ⟨n, q1, q2⟩ := hmc8 tb' rfl
      refine ⟨n, q1, q2.on ?_⟩
      have htl := q2.lt
      exact (h10.block _ (by omega) (fun e => hww.tx.1 (Or.inr e))).trans (hgn'.keep _ htl hww.tx.2.2)
    · rw [hww10.mw, List.map_append, ← HWX.out.mw] at hx
      rcases List.mem_append.1 hx with q | q
      · exact HNP.out x q
      · have q' : x = m := by simpa using q
        rw [q']
        exact HNM.out
    · have htr' : Tr (Mut L wb tv nv) (Mut (L ++ [⟨m, lb, vb, sl⟩]) wb (some tb') nv') w w8 := Tr.ahead HB3w.out htr
      refine ⟨((h10.os.trans hgn'.os).trans htr'.os), ((h10.tape.trans hgn'.tape).trans htr'.tape), ((h10.output.trans hgn'.output).trans htr'.output), by omega, fun b hb hu => ?_, htr'.more⟩
      refine ((h10.block b (by omega) (by omega)).trans (hgn'.keep b (by omega) (fun q => ?_))).trans (htr'.block b hb hu)
      rcases htr'.more b (Or.inl q) with z | z
      · exact hu z
      · omega
    · obtain ⟨b, o, q1, q2, q3⟩ := hgn'.it.c i hi
      have hfar : w8.heap.size ≤ b := hgn'.far _ q1
      exact ⟨b, o, q1, by omega, (World.cell?_of_block (w := w9) (h10.block b q2 (by omega))).trans q3⟩
  have hwl8 : wb < w8.heap.size := lt_blk hadd.blk
  clear hadd HADD HX HFR HMB3
  go_wp2_with fail
  refine HGO.out.mono ?_
  rintro e w9 ⟨oa, oc, rfl, hE9, hfin⟩
  have e0 : w9.cell? ⟨w.heap.size + 1, 0, none⟩ = some (.int .i64 0) := (cell_blk hE9).trans rfl
  have e1' : w9.cell? ⟨w.heap.size + 1, 1, none⟩ = some (.slice none 0 0) := (cell_blk hE9).trans rfl
  have ez : ∀ j, w9.frozen? ⟨w.heap.size + 1, j, none⟩ = false := fun j => frozen_blk hE9
  have hel := lt_blk hE9
  have hset := set_blk 1 (.slice oa a.e.out.length oc) (set_blk 0 (.int .i64 (a.e.way : Int)) hE9)
  obtain ⟨w4, hw4⟩ : ∃ w4, w4 = (w9.setCell ⟨w.heap.size + 1, 0, none⟩ (.int .i64 (a.e.way : Int))).setCell ⟨w.heap.size + 1, 1, none⟩ (.slice oa a.e.out.length oc) := ⟨_, rfl⟩
  have f0 : w4.cell? ⟨w.heap.size + 1, 0, none⟩ = some (.int .i64 (a.e.way : Int)) := by rw [hw4]; exact (cell_blk hset).trans rfl
  have f1 : w4.cell? ⟨w.heap.size + 1, 1, none⟩ = some (.slice oa a.e.out.length oc) := by rw [hw4]; exact (cell_blk hset).trans rfl
  have HR := Lib.hid (hfin w4 (by rw [hw4]; exact ((Ext.refl _ _).set 0 _).set 1 _))
  clear hE9 hset hfin HGO
  go_wp2_with fail
  rw [← hw4]
  exact bodyPost_ret (v := .tuple #[.agg #[.int .i64 (a.e.way : Int), .slice oa a.e.out.length oc], .nilIface]) (by simp [results, Tryz.results17, go_sem, f0, f1]) rfl HR.out
end Go.Proofs.YtibncofnnlbmcaaGreatDoor
/- Chapter 4: Swap, what leads back, what is used otherwise; done. -/
namespace Go.Proofs.YtibncofnnlbmcaaGreatDoor
open Go.RowKit Go.Maps
open Tp (Bs X S G Pr Pt Rs Rr Own)

theorem swap1_cf (args : Array Value) (w : World) : (callFunc 45 args).run Tryz.prog w = .ok (.enter 45 args) w := by kernel_rfl
theorem swap2_cf (args : Array Value) (w : World) : (callFunc 47 args).run Tryz.prog w = .ok (.enter 47 args) w := by kernel_rfl
set_option maxRecDepth 100000 in
set_option maxHeartbeats 1000000 in
theorem swap1_post {w : World} {wb x1 x2 : Nat} {n dst : Bs} {r : Bool} (k1 : w.cell? ⟨x1, 0, none⟩ = some (.pointer (some ⟨wb, 0, none⟩))) (k2 : w.cell? ⟨x2, 0, none⟩ = some (.string (bs dst)))
    (hc : Calls Tryz.prog 46 #[.pointer (some ⟨wb, 0, none⟩), .string (bs n), .string (bs dst)] w fun e w' => e = .returned (.bool r) ∧ Below w.heap.size w w') :
    Calls Tryz.prog 45 #[.string (bs n), .pointer (some ⟨x1, 0, none⟩), .pointer (some ⟨x2, 0, none⟩)] w fun e w' => e = .returned (.bool r) ∧ Below w.heap.size w w' := by
  have HC := Lib.hid hc
  have hl1 := lt_of_cell k1
  have hl2 := lt_of_cell k2
  clear hc
  go_enter Tryz.func45, Tryz.ntmps45
  go_wp2_with fail
  refine HC.out.mono ?_
  rintro e w1 ⟨rfl, hb⟩
  have HB := Lib.hid hb
  clear hb
  go_wp2_with fail
  go_ret
  exact ⟨rfl, HB.out⟩
set_option maxRecDepth 100000 in
set_option maxHeartbeats 2000000 in
theorem swap2_post {w : World} {wb x1 x2 x3 lb : Nat} {n : Bs} {r : Bool} {a0 b0 : ByteArray} {s1 s2 s3 s4 z1 z2 z3 z4 : Option Addr} {n1 n2 n3 n4 c1 c2 c3 c4 d1 d2 d3 d4 f1 f2 f3 f4 : Nat} {b5 : Value} (k1 : w.cell? ⟨x1, 0, none⟩ = some (.pointer (some ⟨wb, 0, none⟩))) (k2 : w.cell? ⟨x2, 0, none⟩ = some (.pointer (some ⟨lb, 0, none⟩)))
    (k3 : w.heap[x3]? = some (.cells #[.string a0, .slice s1 n1 c1, .slice s2 n2 c2, .slice s3 n3 c3, .slice s4 n4 c4] 36 (0, 0))) (k4 : w.heap[lb]? = some (.cells #[.string b0, .slice z1 d1 f1, .slice z2 d2 f2, .slice z3 d3 f3, .slice z4 d4 f4, b5] 107 (0, 0)))
    (hc : ∀ W, Below w.heap.size w W → Calls Tryz.prog 48 #[.pointer (some ⟨wb, 0, none⟩), .string (bs n), .agg #[.string b0, .slice z1 d1 f1, .slice z2 d2 f2, .slice z3 d3 f3, .slice z4 d4 f4], .agg #[.string a0, .slice s1 n1 c1, .slice s2 n2 c2, .slice s3 n3 c3, .slice s4 n4 c4]] W fun e w' => e = .returned (.bool r) ∧ Below W.heap.size W w') :
    Calls Tryz.prog 47 #[.string (bs n), .pointer (some ⟨x1, 0, none⟩), .pointer (some ⟨x2, 0, none⟩), .pointer (some ⟨x3, 0, none⟩)] w fun e w' => e = .returned (.bool r) ∧ Below w.heap.size w w' := by
  have HBX : Hid (∀ V, Below w.heap.size w V → V.cell? ⟨x1, 0, none⟩ = some (.pointer (some ⟨wb, 0, none⟩)) ∧ V.cell? ⟨x2, 0, none⟩ = some (.pointer (some ⟨lb, 0, none⟩)) ∧ V.cell? ⟨lb, 0, none⟩ = some (.string b0) ∧ V.cell? ⟨lb, 1, none⟩ = some (.slice z1 d1 f1) ∧ V.cell? ⟨lb, 2, none⟩ = some (.slice z2 d2 f2) ∧ V.cell? ⟨lb, 3, none⟩ = some (.slice z3 d3 f3) ∧ V.cell? ⟨lb, 4, none⟩ = some (.slice z4 d4 f4) ∧ V.cell? ⟨x3, 0, none⟩ = some (.string a0) ∧ V.cell? ⟨x3, 1, none⟩ = some (.slice s1 n1 c1) ∧ V.cell? ⟨x3, 2, none⟩ = some (.slice s2 n2 c2) ∧ V.cell? ⟨x3, 3, none⟩ = some (.slice s3 n3 c3) ∧ V.cell? ⟨x3, 4, none⟩ = some (.slice s4 n4 c4)) := fun V hV => by
    obtain ⟨p0, p1, p2, p3, p4⟩ := cell_box5 ((hV.block _ (lt_blk k3)).trans k3)
    have hb := (hV.block _ (lt_blk k4)).trans k4
    exact ⟨(hV.cell (p := ⟨x1, 0, none⟩) (lt_of_cell k1)).trans k1, (hV.cell (p := ⟨x2, 0, none⟩) (lt_of_cell k2)).trans k2, (cell_blk hb).trans rfl, (cell_blk hb).trans rfl, (cell_blk hb).trans rfl, (cell_blk hb).trans rfl, (cell_blk hb).trans rfl, p0, p1, p2, p3, p4⟩
  have hd : Below w.heap.size w w.drew := (Below.refl _ _).drew
  have HT0 : Hid (w.drew.cell? ⟨x1, 0, none⟩ = some (.pointer (some ⟨wb, 0, none⟩)) ∧ w.drew.cell? ⟨x2, 0, none⟩ = some (.pointer (some ⟨lb, 0, none⟩)) ∧ w.drew.cell? ⟨lb, 0, none⟩ = some (.string b0) ∧ w.drew.cell? ⟨lb, 1, none⟩ = some (.slice z1 d1 f1) ∧ w.drew.cell? ⟨lb, 2, none⟩ = some (.slice z2 d2 f2) ∧ w.drew.cell? ⟨lb, 3, none⟩ = some (.slice z3 d3 f3) ∧ w.drew.cell? ⟨lb, 4, none⟩ = some (.slice z4 d4 f4) ∧ w.drew.cell? ⟨x3, 0, none⟩ = some (.string a0) ∧ w.drew.cell? ⟨x3, 1, none⟩ = some (.slice s1 n1 c1) ∧ w.drew.cell? ⟨x3, 2, none⟩ = some (.slice s2 n2 c2) ∧ w.drew.cell? ⟨x3, 3, none⟩ = some (.slice s3 n3 c3) ∧ w.drew.cell? ⟨x3, 4, none⟩ = some (.slice s4 n4 c4)) := HBX.out _ hd
  have HC : Hid (Calls Tryz.prog 48 #[.pointer (some ⟨wb, 0, none⟩), .string (bs n), .agg #[.string b0, .slice z1 d1 f1, .slice z2 d2 f2, .slice z3 d3 f3, .slice z4 d4 f4], .agg #[.string a0, .slice s1 n1 c1, .slice s2 n2 c2, .slice s3 n3 c3, .slice s4 n4 c4]] w.drew fun e w' => e = .returned (.bool r) ∧ (Below w.heap.size w w') ∧ (w'.cell? ⟨x1, 0, none⟩ = some (.pointer (some ⟨wb, 0, none⟩)) ∧ w'.cell? ⟨x2, 0, none⟩ = some (.pointer (some ⟨lb, 0, none⟩)) ∧ w'.cell? ⟨lb, 0, none⟩ = some (.string b0) ∧ w'.cell? ⟨lb, 1, none⟩ = some (.slice z1 d1 f1) ∧ w'.cell? ⟨lb, 2, none⟩ = some (.slice z2 d2 f2) ∧ w'.cell? ⟨lb, 3, none⟩ = some (.slice z3 d3 f3) ∧ w'.cell? ⟨lb, 4, none⟩ = some (.slice z4 d4 f4) ∧ w'.cell? ⟨x3, 0, none⟩ = some (.string a0) ∧ w'.cell? ⟨x3, 1, none⟩ = some (.slice s1 n1 c1) ∧ w'.cell? ⟨x3, 2, none⟩ = some (.slice s2 n2 c2) ∧ w'.cell? ⟨x3, 3, none⟩ = some (.slice s3 n3 c3) ∧ w'.cell? ⟨x3, 4, none⟩ = some (.slice s4 n4 c4))) := by
    refine (hc _ hd).mono ?_
    rintro e w' ⟨h1, h2⟩
    have hb : Below w.heap.size w w' := hd.trans h2
    exact ⟨h1, hb, HBX.out _ hb⟩
  have hl1 := lt_of_cell k1
  have hl2 := lt_of_cell k2
  have hl3 := lt_blk k3
  have hl4 := lt_blk k4
  clear hc k1 k2 k3 k4 hd HBX
  go_enter Tryz.func47, Tryz.ntmps47
  go_upto_region 1 with fail
  go_region_held3 (fun w' => w'.cell? ⟨x1, 0, none⟩ = some (.pointer (some ⟨wb, 0, none⟩)) ∧ w'.cell? ⟨x2, 0, none⟩ = some (.pointer (some ⟨lb, 0, none⟩)) ∧ w'.cell? ⟨lb, 0, none⟩ = some (.string b0) ∧ w'.cell? ⟨lb, 1, none⟩ = some (.slice z1 d1 f1) ∧ w'.cell? ⟨lb, 2, none⟩ = some (.slice z2 d2 f2) ∧ w'.cell? ⟨lb, 3, none⟩ = some (.slice z3 d3 f3) ∧ w'.cell? ⟨lb, 4, none⟩ = some (.slice z4 d4 f4) ∧ w'.cell? ⟨x3, 0, none⟩ = some (.string a0) ∧ w'.cell? ⟨x3, 1, none⟩ = some (.slice s1 n1 c1) ∧ w'.cell? ⟨x3, 2, none⟩ = some (.slice s2 n2 c2) ∧ w'.cell? ⟨x3, 3, none⟩ = some (.slice s3 n3 c3) ∧ w'.cell? ⟨x3, 4, none⟩ = some (.slice s4 n4 c4)) (with_reducible (first | exact HT1.out | exact HT0.out)) (first | (go_at_call 48; refine HC.out.mono ?_; rintro e w1 ⟨rfl, hb1, ht1⟩; have HB1 := Lib.hid hb1; have HT1 := Lib.hid ht1; clear hb1 ht1))
  go_wp2_with fail
  go_ret
  exact ⟨rfl, HB1.out⟩
end Go.Proofs.YtibncofnnlbmcaaGreatDoor
/- Chapter 4: Swap's two questions: what leads back; what is used otherwise. -/
namespace Go.Proofs.YtibncofnnlbmcaaGreatDoor
open Go.RowKit Go.Maps
open Tp (Bs X S G Pr Pt Rs Rr Own)

theorem check_imp {P : List Pt} {m : Tp.M} (h : Tp.check m (Tp.seenW ofS P) = none) {n : Bs} (hn : n ∈ m.imports) : (Tp.partOf P n).isSome = true := by
  have := ((Tp.check_none.1 h).1.1 n hn).2
  unfold Tp.seenW at this
  cases hq : Tp.partOf P n with
  | none => rw [hq] at this; exact absurd rfl this
  | some q => rfl
open Classical in
theorem cyc_post {X : Nat → Prop} {W : World} {wb x1 x3 : Nat} {L : List Lo} {P : List Pt} {nv : Value} {tv : Option Nat} {m : Tp.M} {ia ga pa ba : Option Addr} {ic gc pc bc : Nat} (h : WX X W wb L P nv tv) (hWI : Tp.WI ofS P) (hck : Tp.check m (Tp.seenW ofS P) = none) (hmb : MB W W.heap.size m ia ga pa ba ic gc pc bc) (hm : Tp.WM m) (k1 : W.cell? ⟨x1, 0, none⟩ = some (.pointer (some ⟨wb, 0, none⟩))) (k3 : W.cell? ⟨x3, 0, none⟩ = some (.string (bs m.name))) :
    Calls Tryz.prog 44 #[.slice ia m.imports.length ic, .func (.func 45) #[] #[.pointer (some ⟨x1, 0, none⟩), .pointer (some ⟨x3, 0, none⟩)]] W fun e w' => e = .returned (.bool (m.imports.any fun n => decide (Tp.Leads P n m.name))) ∧ Below W.heap.size W w' := by
  have hsz := hm.ic
  refine containsT2 (Row.strs hmb.im) (by omega) swap1_cf (fun V n hn hV => ?_)
  refine swap1_post ((hV.cell (p := ⟨x1, 0, none⟩) (lt_of_cell k1)).trans k1) ((hV.cell (p := ⟨x3, 0, none⟩) (lt_of_cell k3)).trans k3) ?_
  refine leads_post hWI (fun lo hlo => by have := okn_1000 (h.wm hlo).n; omega) (by have := okn_1000 hm.n; omega) _ ((Tp.ms P).map (·.name)) (Nat.le_refl _) n (fun x _ hx => ?_) (check_imp hck hn) V (h.on hV)
  cases hq : Tp.partOf P x with
  | none => rw [hq] at hx; cases hx
  | some q =>
    obtain ⟨q1, q2⟩ := Tp.part_name hq
    exact List.mem_map.2 ⟨q.m, List.mem_map.2 ⟨q, q1, rfl⟩, q2⟩
def othB (P : List Pt) (m old : Tp.M) : Bool := P.any fun q => (Tp.usedR q.m m.name).any fun n => Tp.needS (ofS m) n != Tp.needS (ofS old) n
def othP (L : List Lo) (m old : Tp.M) (x : Bs) : Bool := match L.find? fun lo => lo.m.name == x with
  | some lo => (Tp.usedR lo.m m.name).any fun n => Tp.needS (ofS m) n != Tp.needS (ofS old) n
  | none => false
theorem oth_eq {X : Nat → Prop} {w : World} {wb : Nat} {L : List Lo} {P : List Pt} {nv : Value} {tv : Option Nat} (h : WX X w wb L P nv tv) (m old : Tp.M) : (L.map fun lo => lo.m.name).any (othP L m old) = othB P m old := by
  have e1 : othB P m old = (Tp.ms P).any fun x => (Tp.usedR x m.name).any fun n => Tp.needS (ofS m) n != Tp.needS (ofS old) n := by
    unfold othB Tp.ms
    rw [List.any_map]
    rfl
  rw [e1, h.mw, List.any_map, List.any_map, Bool.eq_iff_iff, List.any_eq_true, List.any_eq_true]
  constructor
  · rintro ⟨lo, hlo, q⟩
    refine ⟨lo, hlo, ?_⟩
    simp only [Function.comp, othP] at q ⊢
    rw [(Tp.find_key (key := fun lo : Lo => lo.m.name) h.nd lo).2 ⟨hlo, rfl⟩] at q
    exact q
  · rintro ⟨lo, hlo, q⟩
    refine ⟨lo, hlo, ?_⟩
    simp only [Function.comp, othP] at q ⊢
    rw [(Tp.find_key (key := fun lo : Lo => lo.m.name) h.nd lo).2 ⟨hlo, rfl⟩]
    exact q
theorem oth_post {X : Nat → Prop} {W : World} {wb x1 x2 x3 : Nat} {L : List Lo} {P : List Pt} {na : Option Addr} {nc : Nat} {tv : Option Nat} {m : Tp.M} {lo : Lo} {ia ga pa ba : Option Addr} {ic gc pc bc : Nat} (h : WX X W wb L P (.slice na L.length nc) tv) (hL : L.length ≤ 10) (hnP : ∀ x ∈ Tp.ms P, Tp.nM x ≤ 1000) (hmb : MB W W.heap.size m ia ga pa ba ic gc pc bc) (hm : Tp.WM m) (hlo : lo ∈ L) (hlm : lo.m.name = m.name) (k1 : W.cell? ⟨x1, 0, none⟩ = some (.pointer (some ⟨wb, 0, none⟩))) (k2 : W.cell? ⟨x2, 0, none⟩ = some (.pointer (some ⟨lo.lb, 0, none⟩)))
    (k3 : W.heap[x3]? = some (.cells (mcells (bs m.name) (.slice ia m.imports.length ic) (.slice ga m.vars.length gc) (.slice pa m.procs.length pc) (.slice ba m.body.length bc)) 36 (0, 0))) :
    Calls Tryz.prog 44 #[.slice na L.length nc, .func (.func 47) #[] #[.pointer (some ⟨x1, 0, none⟩), .pointer (some ⟨x2, 0, none⟩), .pointer (some ⟨x3, 0, none⟩)]] W fun e w' => e = .returned (.bool (othB P m lo.m)) ∧ Below W.heap.size W w' := by
  obtain ⟨tb, htv, hww⟩ := h.ww hlo
  obtain ⟨⟨ia', ga', pa', ba', ic', gc', pc', bc', m1, m2⟩, _, _, _, hfit⟩ := hww.lo lo hlo
  have hst : StrsAt W (L.map fun lo => lo.m.name) na := by
    refine ⟨fun i hi => ?_⟩
    have hi' : i < L.length := by simpa using hi
    obtain ⟨nb, _, _, _, _, _, _, _, _, q1, q2, q3, _⟩ := h.rd i hi'
    exact ⟨nb, 0, q1, q2, by rw [Nat.zero_add, q3]; simp⟩
  have hlen : (L.map fun lo => lo.m.name).length = L.length := by simp
  have key := containsT3 (cap := nc) (p := othP L m lo.m) (c1 := .pointer (some ⟨x1, 0, none⟩)) (c2 := .pointer (some ⟨x2, 0, none⟩)) (c3 := .pointer (some ⟨x3, 0, none⟩)) hst (by omega) swap2_cf (fun V n hn hV => ?_)
  · rw [hlen, oth_eq h] at key
    exact key
  · obtain ⟨lo', hlo', rfl⟩ := List.mem_map.1 hn
    have hnM : Tp.nM lo'.m ≤ 1000 := hnP _ (by rw [h.mw]; exact List.mem_map.2 ⟨lo', hlo', rfl⟩)
    have ho : othP L m lo.m lo'.m.name = (Tp.usedR lo'.m m.name).any fun n => Tp.needS (ofS m) n != Tp.needS (ofS lo.m) n := by
      unfold othP
      rw [(Tp.find_key (key := fun lo : Lo => lo.m.name) h.nd lo').2 ⟨hlo', rfl⟩]
    rw [ho]
    have hb := (hV.block _ (lt_blk m1)).trans m1
    have hk := (hV.block _ (lt_blk k3)).trans k3
    unfold lcells at hb
    unfold mcells at hk
    refine swap2_post ((hV.cell (p := ⟨x1, 0, none⟩) (lt_of_cell k1)).trans k1) ((hV.cell (p := ⟨x2, 0, none⟩) (lt_of_cell k2)).trans k2) hk hb (fun V' hV' => ?_)
    have hVV := hV.trans (hV'.mono hV.size)
    have := needsOther_post (h.on hVV) hlo' rfl (by have := okn_1000 (h.wm hlo').n; omega) hnM ((m2.mb (fun b _ hl => hl)).up hVV) (hmb.up hVV) hfit.wm hm
    unfold mcells at this
    refine this.mono ?_
    rintro e w' ⟨h1, h2⟩
    exact ⟨by rw [h1, hlm], h2⟩
theorem Row.blkD {w : World} {D : Nat → Prop} {e size n cap : Nat} {a : Option Addr} {cs : List Value} (h : Row w D e size (.slice a n cap) n cs) {x : Addr} (hx : a = some x) : D x.block ∧ x.block < w.heap.size := by
  rcases h with ⟨h1, _, _⟩ | ⟨g, cap, cur, h1, h2, h3, _⟩
  · injection h1 with h1 _ _
    rw [hx] at h1
    cases h1
  · injection h1 with h1 _ _
    rw [hx] at h1
    cases h1
    exact ⟨h2, lt_blk h3⟩
end Go.Proofs.YtibncofnnlbmcaaGreatDoor
