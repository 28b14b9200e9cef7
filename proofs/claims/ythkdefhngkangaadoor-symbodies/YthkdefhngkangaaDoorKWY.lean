import Derived.Test.YthkdefhngkangaaDoorKWX
import Derived.Test.YthkdefhngkangaaDoorKSh2
/- TreeBack, walked. -/
namespace Go.Proofs.YthkdefhngkangaaDoor
open Go.RowKit

theorem below_drewN (w : World) (q : Nat) : Below w.heap.size w (w.drewN q) := by
  refine ⟨?_, ?_, ?_, ?_, fun k _ => ?_⟩ <;> simp [World.drewN]
theorem bs_back (l : List UInt8) : (bs l).data.toList = l := by simp [bs]
theorem equal_post {w : World} {D D' : Nat → Prop} {is : List (List UInt8)} {a b : Option Addr} {c d : Nat} (h : Row w D 9 1 (.slice a is.length c) is.length (strs is)) (k : Row w D' 9 1 (.slice b is.length d) is.length (strs is)) (hn : is.length ≤ 1000000000) :
    Calls Tryd.prog 10 #[.slice a is.length c, .slice b is.length d] w fun e w' => e = .returned (.bool true) ∧ Below w.heap.size w w' := by
  by_cases hz : is.length = 0
  · have := Any.slices_Equal_string_empty Tryd.laysEq a b c 0 d w (by omega)
    rw [hz]
    refine this.mono ?_
    rintro e w' ⟨rfl, rfl⟩
    exact ⟨rfl, Below.refl _ _⟩
  · obtain ⟨g, cap, q1, q2, q3, q4⟩ := row_cell h (by omega)
    obtain ⟨g', cap', r1, r2, r3, r4⟩ := row_cell k (by omega)
    cases q1
    cases r1
    have hc : ∀ (g : Nat), (∀ k, k < is.length * 1 → w.cell? ⟨g, k, none⟩ = (strs is)[k]?) → ∀ j, j < (is.map bs).length → w.cell? ⟨g, 0 + j, none⟩ = some (.string ((is.map bs).getD j ByteArray.empty)) := by
      intro g hg j hj
      have hj' : j < is.length := by simpa using hj
      rw [Nat.zero_add, hg j (by omega)]
      simp [strs, hj']
    have := Any.slices_Equal_string Tryd.laysEq g 0 is.length c g' 0 is.length d (is.map bs) (is.map bs) w (by simp) (by simp) (by omega) (by omega) (hc g q4) (hc g' r4)
    refine this.mono ?_
    rintro e w' ⟨rfl, q, rfl⟩
    exact ⟨by simp, below_drewN w q⟩
set_option maxRecDepth 100000 in
theorem treeBack_long {w : World} {l : List UInt8} (h : 550 < l.length) : Calls Tryd.prog 3 #[.string (bs l)] w fun e w' => e = .returned (.bool true) ∧ Below w.heap.size w w' := by
  have hs : (550 : Int) < ((bs l).size : Int) := by rw [bs_size]; omega
  go_enter Tryd.func3, Tryd.ntmps3
  go_wp2_with fail
  go_ret
  exact ⟨rfl, Below.refl _ _⟩
set_option maxRecDepth 100000 in
set_option maxHeartbeats 1000000 in
theorem treeBack_bad {w : World} {B : Nat} {l : List UInt8} {er : Nat × Nat} (h : l.length ≤ 550) (hp : Tp.parse l = .error er) (hv : Vars B w) (hB : B ≤ w.heap.size) : Calls Tryd.prog 3 #[.string (bs l)] w fun e w' => e = .returned (.bool true) ∧ Below w.heap.size w w' := by
  have hs : ((bs l).size : Int) ≤ 550 := by rw [bs_size]; omega
  have H1 := Lib.hid (parsed_post hv hB)
  have HV := Lib.hid hv
  clear hv
  go_enter Tryd.func3, Tryd.ntmps3
  go_wp2_with fail
  refine H1.out.mono ?_
  rintro e w1 ⟨rfl, h1⟩
  have hc := parse_post w1 l (by omega) (HV.out.on (h1.mono hB)).mks (HV.out.on (h1.mono hB)).lv
  have HP : Hid (Calls Tryd.prog 8 #[.string (bs l)] w1 fun e w' => Below w1.heap.size w1 w' ∧ ∃ ab, e = .returned (.tuple #[.agg m0, .iface 75 (.pointer (some ⟨ab, 0, none⟩))])) := by
    refine hc.mono ?_
    rintro e w' ⟨q1, q2⟩
    unfold ParseP at q2
    rw [hp] at q2
    obtain ⟨ab, q3, _⟩ := q2
    exact ⟨q1, ab, q3⟩
  have H2 := Lib.hid h1
  clear hc h1 H1 HV
  go_wp2_with fail
  refine HP.out.mono ?_
  rintro e w2 ⟨h2, ab, rfl⟩
  have H3 := Lib.hid (H2.out.trans (h2.mono H2.out.size))
  clear h2
  unfold m0
  go_wp2_with fail
  go_ret
  exact ⟨rfl, H3.out.trans (((Below.refl _ _).alloc (Nat.le_refl _) _).mono H3.out.size)⟩
end Go.Proofs.YthkdefhngkangaaDoor
/- TreeBack, walked: a text that is a module. -/
namespace Go.Proofs.YthkdefhngkangaaDoor
open Go.RowKit

set_option maxRecDepth 100000 in
set_option maxHeartbeats 4000000 in
theorem treeBack_good {w : World} {B : Nat} {l : List UInt8} {m : Tp.M} (h : l.length ≤ 550) (hp : Tp.parse l = .ok m) (hv : Vars B w) (hB : B ≤ w.heap.size) : Calls Tryd.prog 3 #[.string (bs l)] w fun e w' => e = .returned (.bool true) ∧ Below w.heap.size w w' := by
  have hs : ((bs l).size : Int) ≤ 550 := by rw [bs_size]; omega
  obtain ⟨hwm, hps⟩ := Tp.print_short hp (by omega)
  obtain ⟨n, hpn, hsame, hprn⟩ := Tp.back hp (by omega)
  have hwn := (Tp.parse_wm hpn).1
  have hlen := hsame.lens
  have hi := hsame.i
  have hic := hwm.ic
  have hgc := hwm.gc
  have hpc := hwm.pc
  have H1 := Lib.hid (parsed_post hv hB)
  have HV := Lib.hid hv
  clear hv hsame
  obtain ⟨t, ht⟩ : ∃ t, t = Tp.print m := ⟨_, rfl⟩
  rw [← ht] at hps hpn hprn
  go_enter Tryd.func3, Tryd.ntmps3
  go_wp2_with fail
  refine H1.out.mono ?_
  rintro e w1 ⟨rfl, h1⟩
  have hv1 := HV.out.on (h1.mono hB)
  have hc := parse_post w1 l (by omega) hv1.mks hv1.lv
  have HP : Hid (Calls Tryd.prog 8 #[.string (bs l)] w1 fun e w' => Below w1.heap.size w1 w' ∧ ∃ v, e = .returned (.tuple #[v, .nilIface]) ∧ VM w1.heap.size m v w') := by
    refine hc.mono ?_
    rintro e w' ⟨q1, q2⟩
    unfold ParseP at q2
    rw [hp] at q2
    exact ⟨q1, q2⟩
  have H2 := Lib.hid h1
  clear hc h1 H1 hv1
  go_wp2_with fail
  refine HP.out.mono ?_
  rintro e w2 ⟨h2, v2, rfl, hvm⟩
  obtain ⟨ia, ga, pa, ba, ic, gc, pc, bc, rfl, hmb⟩ := hvm.mb
  have H3 := Lib.hid (H2.out.trans (h2.mono H2.out.size))
  have hsz2 := H3.out.size
  have hal2 : ∀ ob, Below w2.heap.size w2 (w2.alloc ob) := fun ob => (Below.refl _ _).alloc (Nat.le_refl _) _
  have hpr : ∀ ob, Calls Tryd.prog 9 #[.agg (mcells (bs m.name) (.slice ia m.imports.length ic) (.slice ga m.vars.length gc) (.slice pa m.procs.length pc) (.slice ba m.body.length bc))] (w2.alloc ob) fun e w' => e = .returned (.string (bs t)) ∧ Below (w2.alloc ob).heap.size (w2.alloc ob) w' := fun ob => by
    rw [ht]
    exact print_post hwm (hmb.up (hal2 ob)) (((HV.out.on (H3.out.mono hB)).on ((hal2 ob).mono (by omega))).wr (by simp; omega)) (by rw [← ht]; omega)
  have HPR : Hid (∀ ob, Calls Tryd.prog 9 #[.agg #[.string (bs m.name), .slice ia m.imports.length ic, .slice ga m.vars.length gc, .slice pa m.procs.length pc, .slice ba m.body.length bc]] (w2.alloc ob) fun e w' => e = .returned (.string (bs t)) ∧ Below (w2.alloc ob).heap.size (w2.alloc ob) w') := hpr
  have HMB := Lib.hid hmb
  have HAL2 := Lib.hid hal2
  have e0 : mcells (bs m.name) (.slice ia m.imports.length ic) (.slice ga m.vars.length gc) (.slice pa m.procs.length pc) (.slice ba m.body.length bc) = #[.string (bs m.name), .slice ia m.imports.length ic, .slice ga m.vars.length gc, .slice pa m.procs.length pc, .slice ba m.body.length bc] := rfl
  rw [e0]
  have HN := Lib.hid hlen
  have HI := Lib.hid hi
  have HW := Lib.hid (And.intro hwm hwn)
  have HPS := Lib.hid hps
  have HPN := Lib.hid hpn
  have HPRN := Lib.hid hprn
  have HIC := Lib.hid hic
  have HGC := Lib.hid hgc
  have HPC := Lib.hid hpc
  clear hpr hal2 hmb hvm h2 e0 HP H2 hlen hi hwm hwn hps hpn hprn hic hgc hpc ht hp
  generalize hin : m.imports.length = inn at *
  generalize hgn : m.vars.length = gn at *
  generalize hpn' : m.procs.length = pn at *
  generalize hbn : m.body.length = bn at *
  generalize hnm : m.name = nm at *
  have HIN := Lib.hid hin
  clear hin hgn hpn' hbn hnm
  go_wp2_with fail
  refine (HPR.out _).mono ?_
  rintro e w3 ⟨rfl, h3⟩
  have hblk2 : (w2.alloc (.cells #[.string (bs nm), .slice ia inn ic, .slice ga gn gc, .slice pa pn pc, .slice ba bn bc] 28)).heap[w2.heap.size]? = some (.cells #[.string (bs nm), .slice ia inn ic, .slice ga gn gc, .slice pa pn pc, .slice ba bn bc] 28 (0, 0)) := new_blk _ _
  have HK3 := Lib.hid ((h3.block w2.heap.size (by simp)).trans hblk2)
  have H4 := Lib.hid ((HAL2.out _).trans (h3.mono (by simp)))
  have H5 := Lib.hid (H3.out.trans (H4.out.mono hsz2))
  have hv3 := HV.out.on (H5.out.mono hB)
  have hc := parse_post w3 t (by have := HPS.out; omega) hv3.mks hv3.lv
  have HP : Hid (Calls Tryd.prog 8 #[.string (bs t)] w3 fun e w' => Below w3.heap.size w3 w' ∧ ∃ v, e = .returned (.tuple #[v, .nilIface]) ∧ VM w3.heap.size n v w') := by
    refine hc.mono ?_
    rintro e w' ⟨q1, q2⟩
    unfold ParseP at q2
    rw [HPN.out] at q2
    exact ⟨q1, q2⟩
  clear hc h3 hblk2 HPR hv3
  go_wp2_with fail
  refine HP.out.mono ?_
  rintro e w4 ⟨h4, v4, rfl, hvm⟩
  obtain ⟨ja, ha, qa, da, jc, hc', qc, dc, rfl, hmb⟩ := hvm.mb
  have H6 := Lib.hid (H4.out.trans (h4.mono H4.out.size))
  have H7 := Lib.hid (H3.out.trans (H6.out.mono hsz2))
  have hsz4 := H7.out.size
  have hsz24 := H6.out.size
  have hal4 : ∀ ob, Below w4.heap.size w4 (w4.alloc ob) := fun ob => (Below.refl _ _).alloc (Nat.le_refl _) _
  have hpr : ∀ ob, Calls Tryd.prog 9 #[.agg (mcells (bs n.name) (.slice ja n.imports.length jc) (.slice ha n.vars.length hc') (.slice qa n.procs.length qc) (.slice da n.body.length dc))] (w4.alloc ob) fun e w' => e = .returned (.string (bs t)) ∧ Below (w4.alloc ob).heap.size (w4.alloc ob) w' := fun ob => by
    rw [← HPRN.out]
    exact print_post HW.out.2 (hmb.up (hal4 ob)) (((HV.out.on (H7.out.mono hB)).on ((hal4 ob).mono (by omega))).wr (by simp; omega)) (by rw [HPRN.out]; have := HPS.out; omega)
  have hie := HI.out
  have hne := HN.out
  rw [hie, hne.1, hne.2] at hpr
  have e0 : mcells (bs n.name) (.slice ja n.imports.length jc) (.slice ha n.vars.length hc') (.slice qa n.procs.length qc) (.slice da n.body.length dc) = #[.string (bs n.name), .slice ja inn jc, .slice ha gn hc', .slice qa pn qc, .slice da n.body.length dc] := by rw [hie, HIN.out, hne.1, hne.2]; rfl
  rw [e0]
  have HPR : Hid (∀ ob, Calls Tryd.prog 9 #[.agg #[.string (bs n.name), .slice ja inn jc, .slice ha gn hc', .slice qa pn qc, .slice da n.body.length dc]] (w4.alloc ob) fun e w' => e = .returned (.string (bs t)) ∧ Below (w4.alloc ob).heap.size (w4.alloc ob) w') := by
    rw [HIN.out] at hpr; exact hpr
  have hr1 := hmb.im
  rw [hie] at hr1
  have HEQ : Hid (∀ W, Below w4.heap.size w4 W → Calls Tryd.prog 10 #[.slice ja inn jc, .slice ia inn ic] W fun e w' => e = .returned (.bool true) ∧ Below W.heap.size W w') := by
    intro W hW
    have := equal_post (w := W) (row_on hr1 hW) (row_on (row_on HMB.out.im H6.out) (hW.mono hsz24)) (by have := HIC.out; have := HIN.out; omega)
    rw [HIN.out] at this
    exact this
  have HAL4 := Lib.hid hal4
  have HK4 := Lib.hid ((h4.block w2.heap.size (lt_blk HK3.out)).trans HK3.out)
  generalize hbn2 : n.body.length = bn2 at *
  generalize hnm2 : n.name = nm2 at *
  clear hpr hal4 hmb hvm h4 e0 HP hr1 hie hne hbn2 hnm2 HK3 H4 H5 H6
  go_wp2_with fail
  refine (HPR.out _).mono ?_
  rintro e w5 ⟨rfl, h5⟩
  have hblk4 : (w4.alloc (.cells #[.string (bs nm2), .slice ja inn jc, .slice ha gn hc', .slice qa pn qc, .slice da bn2 dc] 28)).heap[w4.heap.size]? = some (.cells #[.string (bs nm2), .slice ja inn jc, .slice ha gn hc', .slice qa pn qc, .slice da bn2 dc] 28 (0, 0)) := new_blk _ _
  have HK5 := Lib.hid ((h5.block w4.heap.size (by simp)).trans hblk4)
  have hlt2 := lt_blk HK4.out
  have HK6 := Lib.hid ((h5.block w2.heap.size (by simp; omega)).trans ((Below.heap_alloc w4 (.cells #[.string (bs nm2), .slice ja inn jc, .slice ha gn hc', .slice qa pn qc, .slice da bn2 dc] 28) w2.heap.size hlt2).trans HK4.out))
  obtain ⟨a0, a1, a2, a3, a4⟩ := cell_box5 HK5.out
  obtain ⟨b0, b1, b2, b3, b4⟩ := cell_box5 HK6.out
  have hl5 := lt_blk HK5.out
  have hl6 := lt_blk HK6.out
  have H8 := Lib.hid ((HAL4.out _).trans (h5.mono (by simp)))
  have HE := Lib.hid (HEQ.out w5 H8.out)
  clear h5 hblk4 HPR a0 a4 b0 b4 HK5 HK6 HK4 HEQ
  go_wp2_with fail
  refine HE.out.mono ?_
  rintro e w6 ⟨rfl, h6⟩
  have H9 := Lib.hid (H7.out.trans ((H8.out.trans (h6.mono H8.out.size)).mono hsz4))
  clear h6
  go_wp2_with fail
  go_ret
  exact ⟨rfl, H9.out⟩
theorem treeBack_post {w : World} {B : Nat} (l : List UInt8) (hv : Vars B w) (hB : B ≤ w.heap.size) : Calls Tryd.prog 3 #[.string (bs l)] w fun e w' => e = .returned (.bool true) ∧ Below w.heap.size w w' := by
  by_cases h : l.length ≤ 550
  · cases hp : Tp.parse l with
    | ok m => exact treeBack_good h hp hv hB
    | error er => exact treeBack_bad h hp hv hB
  · exact treeBack_long (by omega)
end Go.Proofs.YthkdefhngkangaaDoor
