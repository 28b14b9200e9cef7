import Derived.Test.YtfpeboeknjlkbaaGreatDoorKQa
import Derived.Test.YtfpeboeknjlkbaaGreatDoorKWc
import Derived.Test.YtfpeboeknjlkbaaGreatDoorKMa
import Derived.Test.YtfpeboeknjlkbaaGreatDoorKPd
import Derived.BigQuiet
import Derived.Lib.Hide
/- Chapter 4: what is told; of, variable, item. -/
namespace Go.Proofs.YtfpeboeknjlkbaaGreatDoor
open Go.RowKit Go.Maps
open Tp (Bs X S G Pr Pt Rs Rr Own)

theorem Tryz.infoInt64 : (Tryz.prog.info? 2).map (fun i => (i.zero, i.size, i.bytes)) = some (some (.int .i64 0), 1, 8) := by kernel_rfl
@[go_sem] theorem zeroLo (w : World) : (zeroValue 89).run Tryz.prog w = .ok (.pointer none) w := by kernel_rfl
@[go_sem] theorem zeroI64 (w : World) : (zeroValue 2).run Tryz.prog w = .ok (.int .i64 0) w := by kernel_rfl
@[go_sem] theorem zeroI64s (w : World) : (zeroValue 41).run Tryz.prog w = .ok (.slice none 0 0) w := by kernel_rfl
set_option maxRecDepth 100000 in
set_option maxHeartbeats 400000 in
theorem rtell_out {c : Cx} {w : World} {s : Rs} {k : Nat} (h : GS c w s k) (n : Int) (hl : s.out.length = 200) :
    Calls Tryz.prog 151 #[.pointer (some ⟨c.gb, 0, none⟩), .int .i64 n] w fun e w' => thrE endT (Tp.full : Int) e ∧ w' = w := by
  obtain ⟨ov, h1, h2⟩ := h.blk
  obtain ⟨oa, oc, rfl⟩ := owns_shape h2
  have hgl := lt_blk h1
  have k3 : w.cell? ⟨c.gb, 3, none⟩ = some (.slice oa 200 oc) := (cell_blk h1).trans (by rw [hl]; rfl)
  clear h h1 h2 hl
  go_enter Tryz.func151, Tryz.ntmps151
  go_wp2_with fail
  exact ⟨rfl, ⟨noP, rfl⟩, rfl⟩
set_option maxRecDepth 100000 in
set_option maxHeartbeats 400000 in
theorem rtell_ok {c : Cx} {w : World} {s : Rs} {k : Nat} (h : GS c w s k) (ok : CxOk c) (n : Int) (hl : s.out.length < 200) (hi : Tp.I64 n) :
    Calls Tryz.prog 151 #[.pointer (some ⟨c.gb, 0, none⟩), .int .i64 n] w fun e w' => e = .returned (.tuple #[]) ∧ GS c w' { s with out := s.out ++ [n] } k ∧ Kp c nY w w' := by
  obtain ⟨i0, hi0, hz0, hz1, hz2⟩ := info_parts Tryz.infoInt64
  have hgl := h.lt
  have ha : Below w.heap.size w (w.alloc (.cells #[.int .i64 n] 2)) := (Below.refl _ _).alloc (Nat.le_refl _) _
  have HG1 := Lib.hid (h.below ok ha)
  have HK1 := Lib.hid (Kp.below (c := c) (Y := nY) ha hgl)
  obtain ⟨ov, h1, h2⟩ := HG1.out.blk
  obtain ⟨ov', h1', _⟩ := h.blk
  have hov : ov = ov' := by
    have := ha.block c.gb hgl
    rw [h1, h1'] at this
    simp only [Option.some.injEq, Obj.cells.injEq, gcells4] at this
    simpa using this.1
  subst hov
  obtain ⟨oa, oc, rfl⟩ := owns_shape h2
  have hne : ¬ ((s.out.length : Int) = 200) := by omega
  have k3 : w.cell? ⟨c.gb, 3, none⟩ = some (.slice oa s.out.length oc) := (cell_blk h1').trans rfl
  have HK3 : Hid ((w.alloc (.cells #[.int .i64 n] 2)).cell? ⟨c.gb, 3, none⟩ = some (.slice oa s.out.length oc)) := (cell_blk h1).trans rfl
  have HO := Lib.hid h2
  have HBL := Lib.hid h1
  have HNW : Hid (∀ j u, [Value.int .i64 n][j]? = some u → (w.alloc (.cells #[.int .i64 n] 2)).cell? (Addr.add ⟨w.heap.size, 0, none⟩ j) = some u) := by
    intro j u hj
    match j, hj with
    | 0, hj => simp at hj; subst hj; rw [Addr.add_lit, cell_blk (new_blk _ _)]; rfl
  have HL : Hid (s.out.length < 200) := hl
  have HOK := Lib.hid ok
  have HII := Lib.hid hi
  clear h h1 h1' h2 ha ok hl hi
  generalize hm : s.out.length = m at *
  have hm1 : m ≤ 200 := by have := HL.out; omega
  go_enter Tryz.func151, Tryz.ntmps151
  go_wp2_with (at_builtin; refine wpList_append_where _ rfl _ _ 41 rfl (c.gb + 1) 2 i0 (.int .i64 0) 1 8 Tryz.underlying41 hi0 hz0 hz1 hz2 rfl (by decide) _ _ _ rfl HO.out ⟨w.heap.size, 0, none⟩ 1 1 [.int .i64 n] rfl rfl HNW.out (by intro u hu; simp at hu; subst hu; rfl) (by unfold maxLen; omega) (by omega) (by simp; omega) ?_)
  intro v' w5 hown hgrow hwh
  have HGS := Lib.hid (HG1.out.tell HOK.out (n := n) HK3.out (by rw [hm]; exact hown) hgrow (fun b hb => by simpa using hwh b hb) (by rw [hm]; exact HL.out) HII.out)
  obtain ⟨va, vc, rfl⟩ := owns_shape hown
  have hg5 : w5.heap[c.gb]? = (w.alloc (.cells #[.int .i64 n] 2)).heap[c.gb]? := hgrow.block c.gb (by simp; omega) (fun e => by have := owns_row HO.out _ e.symm; omega)
  have k5 : w5.cell? ⟨c.gb, 3, none⟩ = some (.slice oa m oc) := (World.cell?_of_block (w := w.alloc (.cells #[.int .i64 n] 2)) hg5).trans HK3.out
  have z5 : w5.frozen? ⟨c.gb, 3, none⟩ = false := frozen_blk (hg5.trans HBL.out)
  have hg5l : c.gb < w5.heap.size := by have := hgrow.size; simp at this; omega
  clear hown hgrow hwh hg5
  go_wp2_with fail
  exact bodyPost_end (results_none rfl _ _ _) rfl ⟨rfl, HGS.out.1, HK1.out.trans HGS.out.2⟩
set_option maxRecDepth 100000 in
theorem rwithin_ok (a : Option Addr) (n cap : Nat) (k : Int) (h0 : 0 ≤ k) (hk : k < n) (hn : n ≤ 1000) (w : World) :
    Calls Tryz.prog 170 #[.slice a n cap, .int .i64 k] w fun e w' => e = .returned (.int .i64 k) ∧ w' = w := by
  have h0' : ¬ k < 0 := by omega
  have hk' : ¬ (n : Int) ≤ k := by omega
  have hn' : (n : Int) ≤ 1000 := by omega
  go_enter Tryz.func170, Tryz.ntmps170
  go_wp2_with fail
  go_ret
  exact ⟨rfl, rfl⟩
set_option maxRecDepth 100000 in
theorem rwithin_out (a : Option Addr) (n cap : Nat) (k : Int) (hk : k < 0 ∨ (n : Int) ≤ k) (hn : n ≤ 1000) (w : World) :
    Calls Tryz.prog 170 #[.slice a n cap, .int .i64 k] w fun e w' => thrE endT (Tp.bounds : Int) e ∧ w' = w := by
  have hn' : (n : Int) ≤ 1000 := by omega
  rcases (show k < 0 ∨ 0 ≤ k by omega) with h | h
  · clear hk
    go_enter Tryz.func170, Tryz.ntmps170
    go_wp2_with fail
    exact ⟨rfl, ⟨noP, rfl⟩, rfl⟩
  · have h' : ¬ k < 0 := by omega
    have hk' : (n : Int) ≤ k := by omega
    clear hk h
    go_enter Tryz.func170, Tryz.ntmps170
    go_wp2_with fail
    exact ⟨rfl, ⟨noP, rfl⟩, rfl⟩
end Go.Proofs.YtfpeboeknjlkbaaGreatDoor
/- Chapter 4: whose a name is: of, variable, item. -/
namespace Go.Proofs.YtfpeboeknjlkbaaGreatDoor
open Go.RowKit Go.Maps
open Tp (Bs X S G Pr Pt Rs Rr Own)

theorem okn_1000 {n : Bs} (h : Tp.okn n) : n.length ≤ 1000000 := by have := Tp.okn_len h; omega
theorem Tryz.undThere : Tryz.prog.underlying 38 = some (.map 9 89) := Tryz.underlying38
/- what lies in a module that is loaded -/
theorem GS.loB {c : Cx} {w : World} {s : Rs} {k : Nat} (h : GS c w s k) (ok : CxOk c) {lo : Lo} (hl : lo ∈ c.L) : ∃ ia ga pa ba ic gc pc bc, w.heap[lo.lb]? = some (.cells (lcells lo.m ia ga pa ba ic gc pc bc lo.vb) 116 (0, 0)) ∧ MD c.w0 c.D lo.m ia ga pa ba ic gc pc bc := by
  obtain ⟨ia, ga, pa, ba, ic, gc, pc, bc, h1, h2⟩ := (ok.lo lo hl).blk
  exact ⟨ia, ga, pa, ba, ic, gc, pc, bc, (h.st _ (ok.lo lo hl).lbD).trans h1, h2⟩
theorem GS.lookV {c : Cx} {w : World} {s : Rs} {k : Nat} (h : GS c w s k) (ok : CxOk c) {lo : Lo} (hl : lo ∈ c.L) {g : G} {nm : Bs} (hg : Tp.varOf lo.m nm = some g) (hn : nm.length ≤ 1000000) (W : World) (hW : ∀ b : Nat, W.heap[b]? = w.heap[b]?) :
    (Instr.lookup 114 (.map (some lo.vb)) (.string (bs nm)) false).run Tryz.prog W = .ok (.slice (some ⟨lo.sl nm, 0, none⟩) (vlen g) (vlen g)) W := by
  obtain ⟨n, hm⟩ := (ok.lo lo hl).vm
  have h1 := (hm.on ((hW _).trans (h.st _ (ok.lo lo hl).vbD))).look (t := 114) Tryz.underlying114 (zeroI64s _) nm hn false
  rw [h1]
  simp [loV, hg]
theorem GS.lookT {c : Cx} {w : World} {s : Rs} {k : Nat} (h : GS c w s k) (ok : CxOk c) {lo : Lo} {md : Bs} (hl : c.lo md = some lo) (hn : md.length ≤ 1000000) (W : World) (hW : ∀ b : Nat, W.heap[b]? = w.heap[b]?) :
    (Instr.lookup 38 (.map (some c.tb)) (.string (bs md)) false).run Tryz.prog W = .ok (.pointer (some ⟨lo.lb, 0, none⟩)) W := by
  obtain ⟨n, hm⟩ := ok.thr
  have h1 := (hm.on ((hW _).trans (h.st _ ok.tbD))).look (t := 38) Tryz.underlying38 (zeroLo _) md hn false
  rw [h1]
  simp [Cx.thr, hl]
theorem Sc.look {c : Cx} {w : World} {sb : Nat} {ob : Option Nat} {lo : Lo} {own : Own} {names : List Bs} {left : Nat} (h : Sc c w sb ob lo own names left) (nm : Bs) (hn : nm.length ≤ 1000000) (W : World) (hW : ∀ b : Nat, W.heap[b]? = w.heap[b]?) :
    (Instr.lookup 97 (.map ob) (.string (bs nm)) true).run Tryz.prog W = .ok (.tuple #[.int .i64 ((own nm).getD 0), .bool (own nm).isSome]) W := by
  have ho := h.om
  cases ob with
  | none =>
    rw [nilmap_look W (t := 97) Tryz.underlying97 (zeroI64 _) nm hn true]
    have := ho nm
    rw [this]
    rfl
  | some ob =>
    obtain ⟨_, _, _, n, _, hm⟩ := ho
    rw [(hm.on (hW _)).look (t := 97) Tryz.underlying97 (zeroI64 _) nm hn true]
    cases own nm <;> rfl
/- the module that a name is of -/
def ofLo (c : Cx) (lo : Lo) (md : Bs) (lo' : Lo) : Prop := if md = [] then lo' = lo else c.lo md = some lo'
theorem cell_heap {w w1 : World} (h : w1.heap = w.heap) (a : Addr) : w1.cell? a = w.cell? a := by unfold World.cell?; rw [h]
theorem beq_nil (md : Bs) : ((bs md).toList == []) = decide (md = []) := by
  rw [bs_toList]
  cases md <;> rfl
set_option maxRecDepth 100000 in
theorem rof {c : Cx} {w : World} {s : Rs} {k sb : Nat} {ob : Option Nat} {lo : Lo} {own : Own} {names : List Bs} {left : Nat} (h : GS c w s k) (ok : CxOk c) (hs : Sc c w sb ob lo own names left) {md : Bs} {lo' : Lo} (ho : ofLo c lo md lo') (hn : md.length ≤ 1000000) (W : World) (hW : W.heap = w.heap) :
    Calls Tryz.prog 200 #[.pointer (some ⟨sb, 0, none⟩), .string (bs md)] W fun e w' => e = .returned (.pointer (some ⟨lo'.lb, 0, none⟩)) ∧ w' = W := by
  have hWb : ∀ b : Nat, W.heap[b]? = w.heap[b]? := fun b => by rw [hW]
  have hb := (hWb sb).trans hs.blk
  have hsl := lt_blk hb
  have hbq := beq_nil md
  unfold ofLo at ho
  by_cases hm : md = []
  · rw [if_pos hm] at ho
    subst ho
    rw [decide_eq_true hm] at hbq
    have k1 : W.cell? ⟨sb, 1, none⟩ = some (.pointer (some ⟨lo'.lb, 0, none⟩)) := (cell_blk hb).trans rfl
    clear h ok hs hb hm hW hWb hn
    go_enter Tryz.func200, Tryz.ntmps200
    go_wp2_with fail
    go_ret
    exact ⟨rfl, rfl⟩
  · rw [if_neg hm] at ho
    rw [decide_eq_false hm] at hbq
    have k0 : W.cell? ⟨sb, 0, none⟩ = some (.pointer (some ⟨c.gb, 0, none⟩)) := (cell_blk hb).trans rfl
    obtain ⟨ov, g1, _⟩ := h.blk
    have g2 := (hWb c.gb).trans g1
    have kg : W.cell? ⟨c.gb, 0, none⟩ = some (.map (some c.tb)) := (cell_blk g2).trans rfl
    have hgl := lt_blk g2
    have hlk := h.lookT ok ho hn W hWb
    clear h ok hs hb hm hW hWb hn g1 g2 ho
    go_enter Tryz.func200, Tryz.ntmps200
    go_wp2_with fail
    go_ret
    exact ⟨rfl, rfl⟩
/- an expression's own cells -/
theorem RepL.one {w : World} {D : Nat → Prop} {code pos n : Nat} {md nm op : Bs} {le ri ar : List X} {x : Nat} (h : RepL w D [⟨code, pos, n, md, nm, op, le, ri, ar⟩] [.pointer (some ⟨x, 0, none⟩)]) : ∃ (av : Value) (ls rs gs : List Value), D x ∧ w.heap[x]? = some (.cells #[.int .i64 (code : Int), .int .i64 (pos : Int), .int .i64 (n : Int), .string (bs md), .string (bs nm), .string (bs op), ls.headD (.pointer none), rs.headD (.pointer none), av] 237 (0, 0)) ∧ RepL w D le ls ∧ ls.length ≤ 1 ∧ RepL w D ri rs ∧ rs.length ≤ 1 ∧ RepL w D ar gs ∧ (gs = [] ∧ av = .slice none 0 0 ∨ ∃ g cap cur, av = .slice (some ⟨g, 0, none⟩) gs.length cap ∧ D g ∧ w.heap[g]? = some (.cells cur 186 (0, 0)) ∧ gs.length ≤ cap ∧ cap ≤ maxLen ∧ cur.size = cap ∧ cur.toList.take gs.length = gs) := by
  rw [RepL] at h
  obtain ⟨b, av, ls, rs, gs, vs', h1, h2, h3, h4, h5, h6, h7, h8, h9, _⟩ := h
  cases h1
  exact ⟨av, ls, rs, gs, h2, h3, h4, h5, h6, h7, h8, h9⟩
/- a variable: what it has -/
set_option maxRecDepth 100000 in
set_option maxHeartbeats 1000000 in
theorem rvariable_own {w : World} {c : Cx} {sb x : Nat} {ob : Option Nat} {lo : Lo} {own : Own} {names : List Bs} {left : Nat} (hs : Sc c w sb ob lo own names left) {nm : Bs} {v : Int} (hn : nm.length ≤ 1000000) (ho : own nm = some v) (_hxl : x < w.heap.size)
    (k3 : w.cell? ⟨x, 3, none⟩ = some (.string (bs []))) (k4 : w.cell? ⟨x, 4, none⟩ = some (.string (bs nm))) :
    Calls Tryz.prog 171 #[.pointer (some ⟨sb, 0, none⟩), .pointer (some ⟨x, 0, none⟩)] w fun e w' => e = .returned (.int .i64 v) ∧ Below w.heap.size w w' := by
  have hlk : ∀ n, (Instr.lookup 97 (.map ob) (.string (bs nm)) true).run Tryz.prog (w.drewN n) = .ok (.tuple #[.int .i64 v, .bool true]) (w.drewN n) := fun n => by
    rw [hs.look nm hn (w.drewN n) (fun _ => rfl), ho]; rfl
  have ks : w.cell? ⟨sb, 2, none⟩ = some (.map ob) := (cell_blk hs.blk).trans rfl
  have hsl := lt_blk hs.blk
  have hbq := beq_nil []
  have HB : Hid (∀ n, Below w.heap.size w (w.drewN n)) := fun n => below_drewN (Below.refl _ _) n
  clear hs ho hn
  generalize bs [] = e0 at *
  go_enter Tryz.func171, Tryz.ntmps171
  go_wp2_with fail
  go_quiet (fail)
  go_wp2_with fail
  go_ret
  exact ⟨rfl, HB.out _⟩
set_option maxRecDepth 100000 in
set_option maxHeartbeats 2000000 in
theorem rvariable_mod {w : World} {c : Cx} {s : Rs} {k sb x : Nat} {ob : Option Nat} {lo lo' : Lo} {own : Own} {names : List Bs} {left : Nat} (h : GS c w s k) (ok : CxOk c) (hs : Sc c w sb ob lo own names left) {md nm : Bs} {g : G} {v : Int} (hn : nm.length ≤ 1000000) (hmn : md.length ≤ 1000000) (ho : md = [] → own nm = none) (hof : ofLo c lo md lo') (hlo : lo' ∈ c.L) (hg : Tp.varOf lo'.m nm = some g)
    (hv : w.cell? ⟨lo'.sl nm, 0, none⟩ = some (.int .i64 v)) (hxl : x < w.heap.size) (k3 : w.cell? ⟨x, 3, none⟩ = some (.string (bs md))) (k4 : w.cell? ⟨x, 4, none⟩ = some (.string (bs nm))) :
    Calls Tryz.prog 171 #[.pointer (some ⟨sb, 0, none⟩), .pointer (some ⟨x, 0, none⟩)] w fun e w' => e = .returned (.int .i64 v) ∧ Below w.heap.size w w' := by
  have hlk : ∀ n, (Instr.lookup 97 (.map ob) (.string (bs nm)) true).run Tryz.prog (w.drewN n) = .ok (.tuple #[.int .i64 ((own nm).getD 0), .bool (own nm).isSome]) (w.drewN n) := fun n => hs.look nm hn (w.drewN n) (fun _ => rfl)
  have ks : w.cell? ⟨sb, 2, none⟩ = some (.map ob) := (cell_blk hs.blk).trans rfl
  have hsl := lt_blk hs.blk
  have hbq := beq_nil md
  have HB : Hid (∀ n, Below w.heap.size w (w.drewN n)) := fun n => below_drewN (Below.refl _ _) n
  have HOF : Hid (∀ W : World, W.heap = w.heap → Calls Tryz.prog 200 #[.pointer (some ⟨sb, 0, none⟩), .string (bs md)] W fun e w' => e = .returned (.pointer (some ⟨lo'.lb, 0, none⟩)) ∧ w' = W) := fun W hW => rof h ok hs hof hmn W hW
  obtain ⟨ia, ga, pa, ba, ic, gc, pc, bc, b1, _⟩ := h.loB ok hlo
  have kl : w.cell? ⟨lo'.lb, 5, none⟩ = some (.map (some lo'.vb)) := (cell_blk b1).trans rfl
  have hll := lt_blk b1
  have hvl := lt_of_cell hv
  have HLV : Hid (∀ W : World, W.heap = w.heap → (Instr.lookup 114 (.map (some lo'.vb)) (.string (bs nm)) false).run Tryz.prog W = .ok (.slice (some ⟨lo'.sl nm, 0, none⟩) (vlen g) (vlen g)) W) := fun W hW => h.lookV ok hlo hg hn _ (fun _ => by rw [hW])
  have hvg : (0 : Int) < (vlen g : Int) := by unfold vlen; split <;> omega
  generalize vlen g = vg at *
  clear b1 h ok hs hof hg hlo hn hmn
  by_cases hm : md = []
  · rw [decide_eq_true hm] at hbq
    have ho' := ho hm
    rw [ho'] at hlk
    simp only [Option.getD_none, Option.isSome_none] at hlk
    clear ho ho' hm
    generalize bs md = bmd at *
    generalize bs nm = bnm at *
    go_enter Tryz.func171, Tryz.ntmps171
    go_wp2_with fail
    go_quiet (fail)
    obtain ⟨w1, hw1⟩ : ∃ w1, w1 = w.drewN nq := ⟨_, rfl⟩
    have e1 : w1.heap = w.heap := by rw [hw1]; rfl
    have HB1 : Hid (Below w.heap.size w w1) := by rw [hw1]; exact HB.out _
    have q3 := (cell_heap e1 ⟨x, 3, none⟩).trans k3
    have q4 := (cell_heap e1 ⟨x, 4, none⟩).trans k4
    have ql := (cell_heap e1 ⟨lo'.lb, 5, none⟩).trans kl
    have qv := (cell_heap e1 ⟨lo'.sl nm, 0, none⟩).trans hv
    have r1 : x < w1.heap.size := by rw [e1]; exact hxl
    have r2 : lo'.lb < w1.heap.size := by rw [e1]; exact hll
    have r3 : lo'.sl nm < w1.heap.size := by rw [e1]; exact hvl
    have hlv : ∀ n, (Instr.lookup 114 (.map (some lo'.vb)) (.string bnm) false).run Tryz.prog (w1.drewN n) = .ok (.slice (some ⟨lo'.sl nm, 0, none⟩) vg vg) (w1.drewN n) := fun n => HLV.out (w1.drewN n) e1
    have HOF1 : Hid (∀ n, Calls Tryz.prog 200 #[.pointer (some ⟨sb, 0, none⟩), .string bmd] (w1.drewN n) fun e w' => e = .returned (.pointer (some ⟨lo'.lb, 0, none⟩)) ∧ w' = w1.drewN n) := fun n => HOF.out (w1.drewN n) e1
    rw [← hw1]
    clear hw1 e1 k3 k4 kl hv hlk ks
    go_wp2_with fail
    go_quiet ((go_at_call 200; exact Calls.quiet_of_same (HOF1.out _)))
    go_wp2_with fail
    go_ret
    exact ⟨rfl, below_drewN HB1.out _⟩
  · rw [decide_eq_false hm] at hbq
    generalize (own nm).getD 0 = q0 at *
    clear ho hm
    generalize bs md = bmd at *
    generalize bs nm = bnm at *
    cases hq : (own nm).isSome with
    | false =>
      rw [hq] at hlk
      clear hq
      go_enter Tryz.func171, Tryz.ntmps171
      go_wp2_with fail
      go_quiet (fail)
      obtain ⟨w1, hw1⟩ : ∃ w1, w1 = w.drewN nq := ⟨_, rfl⟩
      have e1 : w1.heap = w.heap := by rw [hw1]; rfl
      have HB1 : Hid (Below w.heap.size w w1) := by rw [hw1]; exact HB.out _
      have q3 := (cell_heap e1 ⟨x, 3, none⟩).trans k3
      have q4 := (cell_heap e1 ⟨x, 4, none⟩).trans k4
      have ql := (cell_heap e1 ⟨lo'.lb, 5, none⟩).trans kl
      have qv := (cell_heap e1 ⟨lo'.sl nm, 0, none⟩).trans hv
      have r1 : x < w1.heap.size := by rw [e1]; exact hxl
      have r2 : lo'.lb < w1.heap.size := by rw [e1]; exact hll
      have r3 : lo'.sl nm < w1.heap.size := by rw [e1]; exact hvl
      have hlv : ∀ n, (Instr.lookup 114 (.map (some lo'.vb)) (.string bnm) false).run Tryz.prog (w1.drewN n) = .ok (.slice (some ⟨lo'.sl nm, 0, none⟩) vg vg) (w1.drewN n) := fun n => HLV.out (w1.drewN n) e1
      have HOF1 : Hid (∀ n, Calls Tryz.prog 200 #[.pointer (some ⟨sb, 0, none⟩), .string bmd] (w1.drewN n) fun e w' => e = .returned (.pointer (some ⟨lo'.lb, 0, none⟩)) ∧ w' = w1.drewN n) := fun n => HOF.out (w1.drewN n) e1
      rw [← hw1]
      clear hw1 e1 k3 k4 kl hv hlk ks
      go_wp2_with fail
      go_quiet ((go_at_call 200; exact Calls.quiet_of_same (HOF1.out _)))
      go_wp2_with fail
      go_ret
      exact ⟨rfl, below_drewN HB1.out _⟩
    | true =>
      rw [hq] at hlk
      clear hq
      go_enter Tryz.func171, Tryz.ntmps171
      go_wp2_with fail
      go_quiet (fail)
      obtain ⟨w1, hw1⟩ : ∃ w1, w1 = w.drewN nq := ⟨_, rfl⟩
      have e1 : w1.heap = w.heap := by rw [hw1]; rfl
      have HB1 : Hid (Below w.heap.size w w1) := by rw [hw1]; exact HB.out _
      have q3 := (cell_heap e1 ⟨x, 3, none⟩).trans k3
      have q4 := (cell_heap e1 ⟨x, 4, none⟩).trans k4
      have ql := (cell_heap e1 ⟨lo'.lb, 5, none⟩).trans kl
      have qv := (cell_heap e1 ⟨lo'.sl nm, 0, none⟩).trans hv
      have r1 : x < w1.heap.size := by rw [e1]; exact hxl
      have r2 : lo'.lb < w1.heap.size := by rw [e1]; exact hll
      have r3 : lo'.sl nm < w1.heap.size := by rw [e1]; exact hvl
      have hlv : ∀ n, (Instr.lookup 114 (.map (some lo'.vb)) (.string bnm) false).run Tryz.prog (w1.drewN n) = .ok (.slice (some ⟨lo'.sl nm, 0, none⟩) vg vg) (w1.drewN n) := fun n => HLV.out (w1.drewN n) e1
      have HOF1 : Hid (∀ n, Calls Tryz.prog 200 #[.pointer (some ⟨sb, 0, none⟩), .string bmd] (w1.drewN n) fun e w' => e = .returned (.pointer (some ⟨lo'.lb, 0, none⟩)) ∧ w' = w1.drewN n) := fun n => HOF.out (w1.drewN n) e1
      rw [← hw1]
      clear hw1 e1 k3 k4 kl hv hlk ks
      go_wp2_with fail
      go_quiet ((go_at_call 200; exact Calls.quiet_of_same (HOF1.out _)))
      go_wp2_with fail
      go_ret
      exact ⟨rfl, below_drewN HB1.out _⟩
end Go.Proofs.YtfpeboeknjlkbaaGreatDoor
/- Chapter 4: numbers: truth, single, divided, Both. -/
namespace Go.Proofs.YtfpeboeknjlkbaaGreatDoor
open Go.RowKit
open Tp (Bs)

set_option maxRecDepth 100000 in
set_option maxHeartbeats 400000 in
theorem truth_any (b : Bool) (v : Int) (hv : Hid (v = if b then 1 else 0)) (w : World) : Calls Tryz.prog 33 #[.bool b] w fun e w' => e = .returned (.int .i64 v) ∧ w' = w := by
  have hv' : v = if b then 1 else 0 := hv
  subst hv'
  cases b
  · go_enter Tryz.func33, Tryz.ntmps33
    go_wp2
    go_ret
    exact ⟨rfl, rfl⟩
  · go_enter Tryz.func33, Tryz.ntmps33
    go_wp2
    go_ret
    exact ⟨rfl, rfl⟩
theorem b01_bool (p : Prop) [Decidable p] : (if decide p = true then (1 : Int) else 0) = Tp.b01 p := by unfold Tp.b01; simp
theorem divided_zero (op : ByteArray) (a : Int) (w : World) : Calls Tryz.prog 32 #[.string op, .int .i64 a, .int .i64 0] w fun e w' => e = .returned (.tuple #[.int .i64 0, .bool false]) ∧ w' = w := by
  go_enter Tryz.func32, Tryz.ntmps32
  go_wp2
  go_ret2
  exact ⟨rfl, rfl⟩
theorem w64_wrap (n : Int) : wrap64 n = Tp.w64 n := by unfold wrap64 Tp.w64; omega
theorem mend_yes {a b : Int} (ha : Tp.I64 a) (hb : Tp.I64 b) (hz : b ≠ 0) (h0 : ¬ a.tmod b = 0) (hs : (decide (a.tmod b < 0) == decide (b < 0)) = false) : wrap64 (a.tmod b + b) = a.fmod b ∧ wrap64 (wrap64 (a.tdiv b) - 1) = Tp.w64 (a.fdiv b) := by
  have hc : (a.tmod b ≠ 0 ∧ ((a.tmod b < 0) ↔ ¬ b < 0)) := by
    refine ⟨h0, ?_⟩
    by_cases h1 : a.tmod b < 0 <;> by_cases h2 : b < 0 <;> simp [h1, h2] at hs ⊢
  have e := Tp.fdiv_mend a b hz
  rw [if_pos hc, if_pos hc] at e
  have hr := (Tp.both_rest ha hz).2
  rw [w64_wrap, w64_wrap, w64_wrap, e.1, ← e.2]
  refine ⟨Tp.w64_id ?_, ?_⟩
  · unfold Tp.I64 at *; omega
  · apply Tp.w64_congr; unfold Tp.w64; omega
theorem mend_no {a b : Int} (hz : b ≠ 0) (h : a.tmod b = 0 ∨ (decide (a.tmod b < 0) == decide (b < 0)) = true) : a.tmod b = a.fmod b ∧ wrap64 (a.tdiv b) = Tp.w64 (a.fdiv b) := by
  have hc : ¬ (a.tmod b ≠ 0 ∧ ((a.tmod b < 0) ↔ ¬ b < 0)) := by
    rintro ⟨q1, q2⟩
    rcases h with h | h
    · exact q1 h
    · by_cases h1 : a.tmod b < 0 <;> by_cases h2 : b < 0 <;> simp [h1, h2] at h q2
  have e := Tp.fdiv_mend a b hz
  rw [if_neg hc, if_neg hc] at e
  rw [w64_wrap, e.1, e.2]
  exact ⟨by omega, by rw [Int.sub_zero]⟩
set_option maxRecDepth 100000 in
set_option maxHeartbeats 400000 in
theorem divided_some (op : Bs) (a b : Int) (ha : Tp.I64 a) (hb : Tp.I64 b) (hz : b ≠ 0) (q : Int) (hq : Hid (q = if op = Tp.wMod then a.fmod b else Tp.w64 (a.fdiv b))) (w : World) : Calls Tryz.prog 32 #[.string (bs op), .int .i64 a, .int .i64 b] w fun e w' => e = .returned (.tuple #[.int .i64 q, .bool true]) ∧ Below w.heap.size w w' := by
  have HB : Hid (∀ n, Below w.heap.size w (w.drewN n)) := fun n => below_drewN (Below.refl _ _) n
  have key : (a.tmod b = 0 ∨ ¬ a.tmod b = 0 ∧ (decide (a.tmod b < 0) == decide (b < 0)) = true) ∨ ¬ a.tmod b = 0 ∧ (decide (a.tmod b < 0) == decide (b < 0)) = false := by
    by_cases h0 : a.tmod b = 0
    · exact Or.inl (Or.inl h0)
    · cases hs : (decide (a.tmod b < 0) == decide (b < 0))
      · exact Or.inr ⟨h0, rfl⟩
      · exact Or.inl (Or.inr ⟨h0, rfl⟩)
  have hop : op = Tp.wMod ∧ ((bs op).toList == [109, 111, 100]) = true ∨ op ≠ Tp.wMod ∧ ((bs op).toList == [109, 111, 100]) = false := by
    by_cases h : op = Tp.wMod
    · exact Or.inl ⟨h, by rw [bs_toList, h]; rfl⟩
    · exact Or.inr ⟨h, by rw [bs_toList]; simpa [Tp.wMod] using h⟩
  rcases hop with ⟨h1, h2⟩ | ⟨h1, h2⟩
  · have HQ : Hid (q = a.fmod b) := by show q = _; rw [hq.out, if_pos h1]
    clear hq h1
    rcases key with k | ⟨k1, k2⟩
    · have HV := Lib.hid (mend_no hz (k.imp id (·.2))).1
      rcases k with k | ⟨k1, k2⟩
      · go_enter Tryz.func32, Tryz.ntmps32
        go_wp2_with fail
        go_quiet (fail)
        go_wp2_with fail
        go_ret2
        refine ⟨?_, HB.out _⟩
        rw [HQ.out, ← HV.out, k]; rfl
      · go_enter Tryz.func32, Tryz.ntmps32
        go_wp2_with fail
        go_quiet (fail)
        go_wp2_with fail
        go_ret2
        refine ⟨?_, HB.out _⟩
        rw [HQ.out, ← HV.out]; rfl
    · have HV := Lib.hid (mend_yes ha hb hz k1 k2).1
      go_enter Tryz.func32, Tryz.ntmps32
      go_wp2_with fail
      go_quiet (fail)
      go_wp2_with fail
      go_ret2
      refine ⟨?_, HB.out _⟩
      rw [HQ.out, ← HV.out]; rfl
  · have HQ : Hid (q = Tp.w64 (a.fdiv b)) := by show q = _; rw [hq.out, if_neg h1]
    clear hq h1
    rcases key with k | ⟨k1, k2⟩
    · have HV := Lib.hid (mend_no hz (k.imp id (·.2))).2
      rcases k with k | ⟨k1, k2⟩
      · go_enter Tryz.func32, Tryz.ntmps32
        go_wp2_with fail
        go_quiet (fail)
        go_wp2_with fail
        go_ret2
        refine ⟨?_, HB.out _⟩
        rw [HQ.out, ← HV.out]; rfl
      · go_enter Tryz.func32, Tryz.ntmps32
        go_wp2_with fail
        go_quiet (fail)
        go_wp2_with fail
        go_ret2
        refine ⟨?_, HB.out _⟩
        rw [HQ.out, ← HV.out]; rfl
    · have HV := Lib.hid (mend_yes ha hb hz k1 k2).2
      go_enter Tryz.func32, Tryz.ntmps32
      go_wp2_with fail
      go_quiet (fail)
      go_wp2_with fail
      go_ret2
      refine ⟨?_, HB.out _⟩
      rw [HQ.out, ← HV.out]; rfl
end Go.Proofs.YtfpeboeknjlkbaaGreatDoor
