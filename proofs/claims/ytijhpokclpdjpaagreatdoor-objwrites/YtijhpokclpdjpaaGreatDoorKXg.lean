import Derived.Test.YtijhpokclpdjpaaGreatDoorKXc
import Derived.Test.YtijhpokclpdjpaaGreatDoorKXf
/- The document's own: Write, walked. -/
namespace Go.Proofs.YtijhpokclpdjpaaGreatDoor
open Go.RowKit Go.Maps
open Ob (Bs)

def RWriteP (O : Ob.O) (e : Ending) : Prop := if Ob.rightB O = true then e = .returned (.tuple #[.string (bs (Ob.obW O)), .int .i64 0]) else e = .returned (.tuple #[.string ⟨#[]⟩, .int .i64 1])
theorem rright_oa {w : World} {b o : Nat} {O : Ob.O} (h : OA w b o O) (hB : Bd O) : Calls Tryz.prog 9 #[.pointer (some ⟨b, o, none⟩)] w fun e w' => e = .returned (.bool (Ob.rightB O)) ∧ Below w.heap.size w w' := by
  obtain ⟨sa, ua, va, pa, na, ca, sc, uc, vc, pc, nc, cc, h⟩ := h
  rw [← Ob.refB_eq]
  exact rright_ov h hB
set_option maxRecDepth 100000 in
set_option maxHeartbeats 8000000 in
theorem rwrite_oa {w : World} {b o : Nat} {O : Ob.O} (h : OA w b o O) (hB : Bd O) : Calls Tryz.prog 5 #[.pointer (some ⟨b, o, none⟩)] w fun e w' => RWriteP O e ∧ Below w.heap.size w w' := by
  have HC := Lib.hid (rright_oa h hB)
  by_cases hr : Ob.rightB O = true
  rotate_left
  · have HP : Hid (∀ e, e = .returned (.tuple #[.string ⟨#[]⟩, .int .i64 1]) → RWriteP O e) := fun e he => by unfold RWriteP; rw [if_neg hr]; exact he
    have hrf : Ob.rightB O = false := by simpa using hr
    rw [hrf] at HC
    clear h hB hr hrf
    generalize RWriteP O = WP at *
    go_enter Tryz.func5, Tryz.ntmps5
    go_wp2_with fail
    refine HC.out.mono ?_
    rintro e w1 ⟨rfl, hb1⟩
    go_wp2_with fail
    go_ret2
    exact ⟨HP.out _ rfl, hb1⟩
  have HP : Hid (∀ e, e = .returned (.tuple #[.string (bs (Ob.obW O)), .int .i64 0]) → RWriteP O e) := fun e he => by unfold RWriteP; rw [if_pos hr]; exact he
  have hRB := right_rb hr hB.c
  have HR := Lib.hid hRB
  rw [hr] at HC
  obtain ⟨sa, ua, va, pa, na, ca, sc, uc, vc, pc, nc, cc, hV⟩ := h
  have HK : Hid (∀ W, Below w.heap.size w W → OV W b o O sa ua va pa na ca sc uc vc pc nc cc) := fun W h => hV.below h
  have hbl := lt_of_cell hV.c0
  have l1 : (O.syms.length : Int) ≤ 1000000 := by have := hRB.sl; omega
  have l2 : (O.uses.length : Int) ≤ 1000000 := by have := hRB.ul; omega
  have l3 : (O.vars.length : Int) ≤ 1000000 := by have := hRB.vl; omega
  have l4 : (O.procs.length : Int) ≤ 1000000 := by have := hRB.pl; omega
  have l6 : (O.code.length : Int) ≤ 1000000 := by have := hRB.cl; omega
  have ln : O.syms.length ≤ 20 ∧ O.uses.length ≤ 6 ∧ O.vars.length ≤ 10 ∧ O.procs.length ≤ 10 ∧ O.names.length ≤ 10 ∧ O.code.length ≤ 4000 := ⟨hRB.sl, hRB.ul, hRB.vl, hRB.pl, hRB.nl, hRB.cl⟩
  have HLN := Lib.hid ln
  obtain ⟨T, hT⟩ : ∃ T, Ob.obW O = T := ⟨_, rfl⟩
  have HT : Hid (T = Ob.txt O.name ++ Ob.num (O.syms.length : Int) ++ (O.syms.map Ob.smW).flatten ++ Ob.num (O.uses.length : Int) ++ (O.uses.map Ob.usW).flatten ++ Ob.num (O.vars.length : Int) ++ (O.vars.map Ob.glW).flatten ++ Ob.lst Ob.txt O.names ++ (O.procs.map Ob.enW).flatten ++ Ob.num (O.code.length : Int) ++ (O.code.map Ob.inW).flatten) := by
    show _ = _
    rw [← hT]
    simp only [Ob.obW, Ob.headW, Ob.codeW, Ob.lst, List.append_assoc]
  rw [hT] at HP
  clear hB hr hRB hV hT ln
  generalize RWriteP O = WP at *
  go_enter Tryz.func5, Tryz.ntmps5
  go_wp2_with fail
  refine HC.out.mono ?_
  rintro e w1 ⟨rfl, hb1⟩
  have HB1 := Lib.hid hb1
  obtain ⟨k0, k1⟩ : w1.cell? ⟨b, o, none⟩ = some (.string (bs O.name)) ∧ w1.cell? ⟨b, o + 1, none⟩ = some (.slice sa O.syms.length sc) := ⟨(HK.out _ hb1).c0, (HK.out _ hb1).c1⟩
  have hbl1 : b < w1.heap.size := lt_of_cell k0
  have HC1 : Hid (∀ W, Calls Tryz.prog 17 #[.string (bs O.name)] W fun e w' => e = .returned (.string (bs (Ob.txt O.name))) ∧ Below W.heap.size W w') := fun W => rtext_any W O.name (by have := HR.out.nm; omega)
  have HC2 : Hid (∀ W, Calls Tryz.prog 15 #[.int .i64 (O.syms.length : Int)] W fun e w' => e = .returned (.string (bs (Ob.num (O.syms.length : Int)))) ∧ Below W.heap.size W w') := fun W => rn_any W _ (by unfold Ob.I64; omega)
  have q1 := txt_len (s := O.name) (by have := HR.out.nm; omega)
  have q2 := num_len (n := (O.syms.length : Int)) (by unfold Ob.I64; omega)
  have hm1l : (Ob.txt O.name ++ Ob.num (O.syms.length : Int)).length ≤ 40 := by have := HR.out.nm; rw [List.length_append]; omega
  have HM : Hid (bs (Ob.txt O.name) ++ bs (Ob.num (O.syms.length : Int)) = bs (Ob.txt O.name ++ Ob.num (O.syms.length : Int))) := bs_app _ _
  have z1 : ¬ 9223372036854775807 < (bs (Ob.txt O.name)).size + (bs (Ob.num (O.syms.length : Int))).size := by rw [bs_size, bs_size, ← List.length_append]; omega
  generalize Ob.txt O.name ++ Ob.num (O.syms.length : Int) = m1 at *
  generalize bs (Ob.txt O.name) = t1 at *
  generalize bs (Ob.num (O.syms.length : Int)) = t2 at *
  have HKc : Hid (∀ W, Below w1.heap.size w1 W → W.cell? ⟨b, o, none⟩ = some (.string (bs O.name)) ∧ W.cell? ⟨b, o + 1, none⟩ = some (.slice sa O.syms.length sc)) := fun W hW => ⟨(hW.cell (p := ⟨b, o, none⟩) hbl1).trans k0, (hW.cell (p := ⟨b, o + 1, none⟩) hbl1).trans k1⟩
  have HS0 := Lib.hid (HKc.out _ (below_drew w1))
  clear hb1 q1 q2 HC
  go_wp2_with fail
  go_region_held3 (fun W => W.cell? ⟨b, o, none⟩ = some (.string (bs O.name)) ∧ W.cell? ⟨b, o + 1, none⟩ = some (.slice sa O.syms.length sc)) (with_reducible (first | exact HS2.out | exact HS1.out | exact HS0.out)) (first | (have _g := HX1; go_at_call 15; refine (HC2.out _).mono ?_; rintro e w3 ⟨rfl, hb3⟩; have HX2 : Hid (Below w1.heap.size w1 w3) := HX1.out.trans (hb3.mono HX1.out.size); have HS2 := Lib.hid (HKc.out _ HX2.out); clear hb3) | (go_at_call 17; refine (HC1.out _).mono ?_; rintro e w2 ⟨rfl, hb2⟩; have HX1 : Hid (Below w1.heap.size w1 w2) := (below_drew w1).trans (hb2.mono (below_drew w1).size); have HS1 := Lib.hid (HKc.out _ HX1.out); clear hb2))
  rw [HM.out]
  have HBr : Hid (Below w.heap.size w w3) := HB1.out.trans (HX2.out.mono HB1.out.size)
  clear HM z1 HC1 HC2 HKc HS0 HS1 HS2 HX1 HX2 k0 k1 hbl1
  generalize w3 = wr at *
  generalize m1 = m at *
  have HML : Hid (m.length ≤ 40) := hm1l
  clear hm1l HB1
  have HTm : Hid (T = m ++ (O.syms.map Ob.smW).flatten ++ Ob.num (O.uses.length : Int) ++ (O.uses.map Ob.usW).flatten ++ Ob.num (O.vars.length : Int) ++ (O.vars.map Ob.glW).flatten ++ Ob.lst Ob.txt O.names ++ (O.procs.map Ob.enW).flatten ++ Ob.num (O.code.length : Int) ++ (O.code.map Ob.inW).flatten) := HT
  clear HT
  have kk : wr.cell? ⟨b, o + 1, none⟩ = some (.slice sa O.syms.length sc) := (HK.out _ HBr.out).c1
  have hblr : b < wr.heap.size := lt_of_cell kk
  go_wp2_with fail
  clear kk hblr
  go_loopg [5, 37] O.syms.length (fun k vs vi wr => ∃ (i : Nat) (m' : Bs), i ≤ O.syms.length ∧ k = O.syms.length - i ∧ vi = .int .i64 (i : Int) ∧ vs = .string (bs m') ∧ Hid (m' = m ++ ((O.syms.take i).map Ob.smW).flatten) ∧ Hid (m'.length ≤ 40 + 40 * i) ∧ Hid (Below w.heap.size w wr))
  case atStart => exact ⟨0, m, by omega, by omega, rfl, rfl, by show _ = _; simp, by have := HML.out; show _ ≤ _; omega, HBr⟩
  case round =>
    clear HBr
    obtain ⟨i, m', hid, hk, rfl, rfl, HMi, HMLi, HBr⟩ := hrel
    by_cases hlt : i < O.syms.length
    · have hlt' : (i : Int) < (O.syms.length : Int) := by omega
      obtain ⟨g, go, rfl, hgl, hcell⟩ := (HK.out _ HBr.out).s.at' smC_len (by omega) i hlt
      have e0 : wr.cell? ⟨g, go + i * 3, none⟩ = some (.string (bs O.syms[i].name)) := hcell 0 _ rfl
      have e1 : wr.cell? ⟨g, go + i * 3 + 1, none⟩ = some (.int .i64 O.syms[i].len) := hcell 1 _ rfl
      have e2 : wr.cell? ⟨g, go + i * 3 + 2, none⟩ = some (.int .i64 O.syms[i].args) := hcell 2 _ rfl
      clear hcell
      have HD : Hid (m' ++ Ob.smW O.syms[i] = m ++ ((O.syms.take (i + 1)).map Ob.smW).flatten) := by show _ = _; rw [HMi.out, part_next Ob.smW m O.syms i hlt]
      have hx := HR.out.s O.syms[i] (List.getElem_mem hlt)
      generalize O.syms[i] = x at *
      obtain ⟨wA, hwA⟩ : ∃ wA, wA = wr.alloc (.cells #[.string (bs x.name), .int .i64 x.len, .int .i64 x.args] 52) := ⟨_, rfl⟩
      have hblk : wA.heap[wr.heap.size]? = some (.cells #[.string (bs x.name), .int .i64 x.len, .int .i64 x.args] 52 (0, 0)) := by rw [hwA]; exact new_blk _ _
      have hbA : Below wr.heap.size wr wA := by rw [hwA]; exact (Below.refl _ _).alloc (Nat.le_refl _) _
      have HBA : Hid (Below w.heap.size w wA) := HBr.out.trans (hbA.mono HBr.out.size)
      have hrA : wr.heap.size < wA.heap.size := lt_blk hblk
      have a0 : wA.cell? ⟨wr.heap.size, 0, none⟩ = some (.string (bs x.name)) := cell_blk hblk
      have a1 : wA.cell? ⟨wr.heap.size, 1, none⟩ = some (.int .i64 x.len) := cell_blk hblk
      have a2 : wA.cell? ⟨wr.heap.size, 2, none⟩ = some (.int .i64 x.args) := cell_blk hblk
      have HKc : Hid (∀ W, Below wA.heap.size wA W → W.cell? ⟨wr.heap.size, 0, none⟩ = some (.string (bs x.name)) ∧ W.cell? ⟨wr.heap.size, 1, none⟩ = some (.int .i64 x.len) ∧ W.cell? ⟨wr.heap.size, 2, none⟩ = some (.int .i64 x.args)) := fun W hW => ⟨(hW.cell (p := ⟨wr.heap.size, 0, none⟩) hrA).trans a0, (hW.cell (p := ⟨wr.heap.size, 1, none⟩) hrA).trans a1, (hW.cell (p := ⟨wr.heap.size, 2, none⟩) hrA).trans a2⟩
      have HS0 := Lib.hid (HKc.out _ (below_drew wA))
      have HC1 : Hid (∀ W, Calls Tryz.prog 17 #[.string (bs x.name)] W fun e w' => e = .returned (.string (bs (Ob.txt x.name))) ∧ Below W.heap.size W w') := fun W => rtext_any W _ (by omega)
      have q1 : (Ob.txt x.name).length ≤ 40 := by have := txt_len (s := x.name) (by omega); omega
      have HC2 : Hid (∀ W, Calls Tryz.prog 15 #[.int .i64 x.len] W fun e w' => e = .returned (.string (bs (Ob.num x.len))) ∧ Below W.heap.size W w') := fun W => rn_any W _ hx.2.1
      have q2 : (Ob.num x.len).length ≤ 40 := by have := num_len hx.2.1; omega
      have HC3 : Hid (∀ W, Calls Tryz.prog 15 #[.int .i64 x.args] W fun e w' => e = .returned (.string (bs (Ob.num x.args))) ∧ Below W.heap.size W w') := fun W => rn_any W _ hx.2.2
      have q3 : (Ob.num x.args).length ≤ 40 := by have := num_len hx.2.2; omega
      have HF : Hid (Ob.smW x = Ob.txt x.name ++ Ob.num x.len ++ Ob.num x.args) := rfl
      have HFL : Hid ((Ob.smW x).length ≤ 40) := smW_len hx
      have hmb : m'.length ≤ 200000 := by have := HMLi.out; have := HLN.out; omega
      have HA : Hid (bs m' ++ (bs (Ob.txt x.name) ++ bs (Ob.num x.len) ++ bs (Ob.num x.args)) = bs (m' ++ Ob.smW x)) := by show _ = _; rw [HF.out]; simp only [bs_app]
      have z1 : ¬ 9223372036854775807 < (bs (Ob.txt x.name)).size + (bs (Ob.num x.len)).size := by simp only [bs_size]; omega
      have z2 : ¬ 9223372036854775807 < (bs (Ob.txt x.name)).size + (bs (Ob.num x.len)).size + (bs (Ob.num x.args)).size := by simp only [bs_size]; omega
      have z3 : ¬ 9223372036854775807 < (bs m').size + ((bs (Ob.txt x.name)).size + (bs (Ob.num x.len)).size + (bs (Ob.num x.args)).size) := by simp only [bs_size]; omega
      have HML2 : Hid ((m' ++ Ob.smW x).length ≤ 40 + 40 * (i + 1)) := by have := HMLi.out; have := HFL.out; show _ ≤ _; rw [List.length_append]; omega
      generalize m' ++ Ob.smW x = m2 at *
      generalize bs (Ob.txt x.name) = t1 at *
      generalize bs (Ob.num x.len) = t2 at *
      generalize bs (Ob.num x.args) = t3 at *
      generalize bs m' = bm at *
      clear HMi hblk hbA HF HFL hx q1 q2 q3
      go_upto_region 8 with fail
      rw [← hwA]
      clear hwA e0 e1 e2
      go_region_held3 (fun W => W.cell? ⟨wr.heap.size, 0, none⟩ = some (.string (bs x.name)) ∧ W.cell? ⟨wr.heap.size, 1, none⟩ = some (.int .i64 x.len) ∧ W.cell? ⟨wr.heap.size, 2, none⟩ = some (.int .i64 x.args)) (with_reducible (first | exact HS3.out | exact HS2.out | exact HS1.out | exact HS0.out)) (first | (have _g := HX2; go_at_call 15; refine (HC3.out _).mono ?_; rintro e y3 ⟨rfl, hb⟩; have HX3 : Hid (Below wA.heap.size wA y3) := HX2.out.trans (hb.mono HX2.out.size); have HS3 := Lib.hid (HKc.out _ HX3.out); clear hb) | (have _g := HX1; go_at_call 15; refine (HC2.out _).mono ?_; rintro e y2 ⟨rfl, hb⟩; have HX2 : Hid (Below wA.heap.size wA y2) := HX1.out.trans (hb.mono HX1.out.size); have HS2 := Lib.hid (HKc.out _ HX2.out); clear hb) | (go_at_call 17; refine (HC1.out _).mono ?_; rintro e y1 ⟨rfl, hb⟩; have HX1 : Hid (Below wA.heap.size wA y1) := (below_drew wA).trans (hb.mono (below_drew wA).size); have HS1 := Lib.hid (HKc.out _ HX1.out); clear hb))
      rw [HA.out]
      have HB2 : Hid (Below w.heap.size w y3) := HBA.out.trans (HX3.out.mono HBA.out.size)
      clear HA HKc HS0 HS1 HS2 HS3 HX1 HX2 HX3 z1 z2 z3 HC1 HC2 HC3 a0 a1 a2
      go_wp2_with fail
      go_roundg (O.syms.length - (i + 1))
      case measure => omega
      case rel => exact ⟨i + 1, m2, by omega, rfl, by go_num, rfl, HD, HML2, HB2⟩
    · have hlt' : ¬ (i : Int) < (O.syms.length : Int) := by omega
      have HMx : Hid (m' = m ++ (O.syms.map Ob.smW).flatten) := by show _ = _; rw [HMi.out, List.take_of_length_le (by omega)]
      have HMLx : Hid (m'.length ≤ 40 + 40 * O.syms.length) := by have h1 := HMLi.out; have h2 : i = O.syms.length := (by omega); show _ ≤ _; rw [← h2]; exact h1
      clear HMi HMLi hk
      have kk : wr.cell? ⟨b, o + 2, none⟩ = some (.slice ua O.uses.length uc) := (HK.out _ HBr.out).c2
      have hblr : b < wr.heap.size := lt_of_cell kk
      have HC1 : Hid (Calls Tryz.prog 15 #[.int .i64 (O.uses.length : Int)] wr fun e w' => e = .returned (.string (bs (Ob.num (O.uses.length : Int)))) ∧ Below wr.heap.size wr w') := rn_any wr _ (by unfold Ob.I64; omega)
      have q1 : (Ob.num (O.uses.length : Int)).length ≤ 1000 := by have := num_len (n := (O.uses.length : Int)) (by unfold Ob.I64; omega); omega
      have HA : Hid (bs m' ++ bs (Ob.num (O.uses.length : Int)) = bs (m' ++ Ob.num (O.uses.length : Int))) := bs_app _ _
      have z1 : ¬ 9223372036854775807 < (bs m').size + (bs (Ob.num (O.uses.length : Int))).size := by rw [bs_size, bs_size]; have := HMLx.out; have := HLN.out; omega
      have HTn : Hid (T = (m' ++ Ob.num (O.uses.length : Int)) ++ (O.uses.map Ob.usW).flatten ++ Ob.num (O.vars.length : Int) ++ (O.vars.map Ob.glW).flatten ++ Ob.lst Ob.txt O.names ++ (O.procs.map Ob.enW).flatten ++ Ob.num (O.code.length : Int) ++ (O.code.map Ob.inW).flatten) := by show T = _; rw [HTm.out, HMx.out]
      have HML2 : Hid ((m' ++ Ob.num (O.uses.length : Int)).length ≤ 2000) := by have := HMLx.out; have := HLN.out; show _ ≤ _; rw [List.length_append]; omega
      clear HTm HML HMx HMLx q1
      have HTm := HTn
      have HML := HML2
      clear HTn HML2
      generalize m' ++ Ob.num (O.uses.length : Int) = m at *
      generalize bs (Ob.num (O.uses.length : Int)) = t1 at *
      go_wp2_with fail
      refine HC1.out.mono ?_
      rintro e wr ⟨rfl, hb2⟩
      have HBn := Lib.hid (HBr.out.trans (hb2.mono HBr.out.size))
      clear hb2 HC1 HBr
      have HBr := HBn
      clear HBn
      go_upto_region 11 with fail
      rw [HA.out]
      clear HA z1 kk hblr
      have kk : wr.cell? ⟨b, o + 2, none⟩ = some (.slice ua O.uses.length uc) := (HK.out _ HBr.out).c2
      have hblr : b < wr.heap.size := lt_of_cell kk
      go_wp2_with fail
      clear kk hblr
      go_loopg [5, 71] O.uses.length (fun k vs vi wr => ∃ (i : Nat) (m' : Bs), i ≤ O.uses.length ∧ k = O.uses.length - i ∧ vi = .int .i64 (i : Int) ∧ vs = .string (bs m') ∧ Hid (m' = m ++ ((O.uses.take i).map Ob.usW).flatten) ∧ Hid (m'.length ≤ 2000 + 6040 * i) ∧ Hid (Below w.heap.size w wr))
      case atStart => exact ⟨0, m, by omega, by omega, rfl, rfl, by show _ = _; simp, by have := HML.out; show _ ≤ _; omega, HBr⟩
      case round =>
        clear HBr
        obtain ⟨i, m', hid, hk, rfl, rfl, HMi, HMLi, HBr⟩ := hrel
        by_cases hlt : i < O.uses.length
        · have hlt' : (i : Int) < (O.uses.length : Int) := by omega
          obtain ⟨ucs, hU1, hU2⟩ := (HK.out _ HBr.out).u
          obtain ⟨na', nc', q0, q1, q2, q3⟩ := RepN.get _ _ hU1 i hlt
          obtain ⟨a0', c0', hsl0, _, hall⟩ := hU2
          cases hsl0
          obtain ⟨g, go, rfl, e0⟩ := hall _ _ q0
          obtain ⟨g', go', hgg, e1⟩ := hall _ _ q1
          cases hgg
          obtain ⟨g', go', hgg, e2⟩ := hall _ _ q2
          cases hgg
          have e1 : wr.cell? ⟨g, go + i * 3 + 1, none⟩ = some (.string (bs O.uses[i].need)) := e1
          have e2 : wr.cell? ⟨g, go + i * 3 + 2, none⟩ = some (.slice na' O.uses[i].names.length nc') := e2
          have hgl := lt_of_cell e0
          have HQ3 := Lib.hid q3
          clear q0 q1 q2 q3 hU1 hall
          have HD : Hid (m' ++ Ob.usW O.uses[i] = m ++ ((O.uses.take (i + 1)).map Ob.usW).flatten) := by show _ = _; rw [HMi.out, part_next Ob.usW m O.uses i hlt]
          have hx := HR.out.u O.uses[i] (List.getElem_mem hlt)
          generalize O.uses[i] = x at *
          obtain ⟨wA, hwA⟩ : ∃ wA, wA = wr.alloc (.cells #[.string (bs x.name), .string (bs x.need), .slice na' x.names.length nc'] 56) := ⟨_, rfl⟩
          have hblk : wA.heap[wr.heap.size]? = some (.cells #[.string (bs x.name), .string (bs x.need), .slice na' x.names.length nc'] 56 (0, 0)) := by rw [hwA]; exact new_blk _ _
          have hbA : Below wr.heap.size wr wA := by rw [hwA]; exact (Below.refl _ _).alloc (Nat.le_refl _) _
          have HBA : Hid (Below w.heap.size w wA) := HBr.out.trans (hbA.mono HBr.out.size)
          have hrA : wr.heap.size < wA.heap.size := lt_blk hblk
          have a0 : wA.cell? ⟨wr.heap.size, 0, none⟩ = some (.string (bs x.name)) := cell_blk hblk
          have a1 : wA.cell? ⟨wr.heap.size, 1, none⟩ = some (.string (bs x.need)) := cell_blk hblk
          have a2 : wA.cell? ⟨wr.heap.size, 2, none⟩ = some (.slice na' x.names.length nc') := cell_blk hblk
          have HKc : Hid (∀ W, Below wA.heap.size wA W → W.cell? ⟨wr.heap.size, 0, none⟩ = some (.string (bs x.name)) ∧ W.cell? ⟨wr.heap.size, 1, none⟩ = some (.string (bs x.need)) ∧ W.cell? ⟨wr.heap.size, 2, none⟩ = some (.slice na' x.names.length nc')) := fun W hW => ⟨(hW.cell (p := ⟨wr.heap.size, 0, none⟩) hrA).trans a0, (hW.cell (p := ⟨wr.heap.size, 1, none⟩) hrA).trans a1, (hW.cell (p := ⟨wr.heap.size, 2, none⟩) hrA).trans a2⟩
          have HS0 := Lib.hid (HKc.out _ (below_drew wA))
          have HC1 : Hid (∀ W, Calls Tryz.prog 17 #[.string (bs x.name)] W fun e w' => e = .returned (.string (bs (Ob.txt x.name))) ∧ Below W.heap.size W w') := fun W => rtext_any W _ (by omega)
          have q1 : (Ob.txt x.name).length ≤ 6040 := by have := txt_len (s := x.name) (by omega); omega
          have HC2 : Hid (∀ W, Calls Tryz.prog 17 #[.string (bs x.need)] W fun e w' => e = .returned (.string (bs (Ob.txt x.need))) ∧ Below W.heap.size W w') := fun W => rtext_any W _ (by omega)
          have q2 : (Ob.txt x.need).length ≤ 6040 := by have := txt_len (s := x.need) (by omega); omega
          have HC3 : Hid (∀ W, Below wA.heap.size wA W → Calls Tryz.prog 18 #[.slice na' x.names.length nc'] W fun e w' => e = .returned (.string (bs (Ob.lst Ob.txt x.names))) ∧ Below W.heap.size W w') := fun W hW => rtexts_any x.names ((HQ3.out.below hbA).below hW) (by omega) (fun y hy => by have := hx.2.2.2 y hy; omega)
          have q3 : (Ob.lst Ob.txt x.names).length ≤ 6040 := by have := lst_len Ob.txt 20 x.names (fun y hy => by have := hx.2.2.2 y hy; have := txt_len (s := y) (by omega); omega) (by omega); omega
          have HF : Hid (Ob.usW x = Ob.txt x.name ++ Ob.txt x.need ++ Ob.lst Ob.txt x.names) := rfl
          have HFL : Hid ((Ob.usW x).length ≤ 6040) := usW_len hx
          have hmb : m'.length ≤ 200000 := by have := HMLi.out; have := HLN.out; omega
          have HA : Hid (bs m' ++ (bs (Ob.txt x.name) ++ bs (Ob.txt x.need) ++ bs (Ob.lst Ob.txt x.names)) = bs (m' ++ Ob.usW x)) := by show _ = _; rw [HF.out]; simp only [bs_app]
          have z1 : ¬ 9223372036854775807 < (bs (Ob.txt x.name)).size + (bs (Ob.txt x.need)).size := by simp only [bs_size]; omega
          have z2 : ¬ 9223372036854775807 < (bs (Ob.txt x.name)).size + (bs (Ob.txt x.need)).size + (bs (Ob.lst Ob.txt x.names)).size := by simp only [bs_size]; omega
          have z3 : ¬ 9223372036854775807 < (bs m').size + ((bs (Ob.txt x.name)).size + (bs (Ob.txt x.need)).size + (bs (Ob.lst Ob.txt x.names)).size) := by simp only [bs_size]; omega
          have HML2 : Hid ((m' ++ Ob.usW x).length ≤ 2000 + 6040 * (i + 1)) := by have := HMLi.out; have := HFL.out; show _ ≤ _; rw [List.length_append]; omega
          generalize m' ++ Ob.usW x = m2 at *
          generalize bs (Ob.txt x.name) = t1 at *
          generalize bs (Ob.txt x.need) = t2 at *
          generalize bs (Ob.lst Ob.txt x.names) = t3 at *
          generalize bs m' = bm at *
          clear HMi hblk hbA HF HFL hx q1 q2 q3
          go_upto_region 14 with fail
          rw [← hwA]
          clear hwA e0 e1 e2
          go_region_held3 (fun W => W.cell? ⟨wr.heap.size, 0, none⟩ = some (.string (bs x.name)) ∧ W.cell? ⟨wr.heap.size, 1, none⟩ = some (.string (bs x.need)) ∧ W.cell? ⟨wr.heap.size, 2, none⟩ = some (.slice na' x.names.length nc')) (with_reducible (first | exact HS3.out | exact HS2.out | exact HS1.out | exact HS0.out)) (first | (have _g := HX2; go_at_call 18; refine (HC3.out _ HX2.out).mono ?_; rintro e y3 ⟨rfl, hb⟩; have HX3 : Hid (Below wA.heap.size wA y3) := HX2.out.trans (hb.mono HX2.out.size); have HS3 := Lib.hid (HKc.out _ HX3.out); clear hb) | (have _g := HX1; go_at_call 17; refine (HC2.out _).mono ?_; rintro e y2 ⟨rfl, hb⟩; have HX2 : Hid (Below wA.heap.size wA y2) := HX1.out.trans (hb.mono HX1.out.size); have HS2 := Lib.hid (HKc.out _ HX2.out); clear hb) | (go_at_call 17; refine (HC1.out _).mono ?_; rintro e y1 ⟨rfl, hb⟩; have HX1 : Hid (Below wA.heap.size wA y1) := (below_drew wA).trans (hb.mono (below_drew wA).size); have HS1 := Lib.hid (HKc.out _ HX1.out); clear hb))
          rw [HA.out]
          have HB2 : Hid (Below w.heap.size w y3) := HBA.out.trans (HX3.out.mono HBA.out.size)
          clear HA HKc HS0 HS1 HS2 HS3 HX1 HX2 HX3 z1 z2 z3 HC1 HC2 HC3 a0 a1 a2
          go_wp2_with fail
          go_roundg (O.uses.length - (i + 1))
          case measure => omega
          case rel => exact ⟨i + 1, m2, by omega, rfl, by go_num, rfl, HD, HML2, HB2⟩
        · have hlt' : ¬ (i : Int) < (O.uses.length : Int) := by omega
          have HMx : Hid (m' = m ++ (O.uses.map Ob.usW).flatten) := by show _ = _; rw [HMi.out, List.take_of_length_le (by omega)]
          have HMLx : Hid (m'.length ≤ 2000 + 6040 * O.uses.length) := by have h1 := HMLi.out; have h2 : i = O.uses.length := (by omega); show _ ≤ _; rw [← h2]; exact h1
          clear HMi HMLi hk
          have kk : wr.cell? ⟨b, o + 3, none⟩ = some (.slice va O.vars.length vc) := (HK.out _ HBr.out).c3
          have hblr : b < wr.heap.size := lt_of_cell kk
          have HC1 : Hid (Calls Tryz.prog 15 #[.int .i64 (O.vars.length : Int)] wr fun e w' => e = .returned (.string (bs (Ob.num (O.vars.length : Int)))) ∧ Below wr.heap.size wr w') := rn_any wr _ (by unfold Ob.I64; omega)
          have q1 : (Ob.num (O.vars.length : Int)).length ≤ 1000 := by have := num_len (n := (O.vars.length : Int)) (by unfold Ob.I64; omega); omega
          have HA : Hid (bs m' ++ bs (Ob.num (O.vars.length : Int)) = bs (m' ++ Ob.num (O.vars.length : Int))) := bs_app _ _
          have z1 : ¬ 9223372036854775807 < (bs m').size + (bs (Ob.num (O.vars.length : Int))).size := by rw [bs_size, bs_size]; have := HMLx.out; have := HLN.out; omega
          have HTn : Hid (T = (m' ++ Ob.num (O.vars.length : Int)) ++ (O.vars.map Ob.glW).flatten ++ Ob.lst Ob.txt O.names ++ (O.procs.map Ob.enW).flatten ++ Ob.num (O.code.length : Int) ++ (O.code.map Ob.inW).flatten) := by show T = _; rw [HTm.out, HMx.out]
          have HML2 : Hid ((m' ++ Ob.num (O.vars.length : Int)).length ≤ 50000) := by have := HMLx.out; have := HLN.out; show _ ≤ _; rw [List.length_append]; omega
          clear HTm HML HMx HMLx q1
          have HTm := HTn
          have HML := HML2
          clear HTn HML2
          generalize m' ++ Ob.num (O.vars.length : Int) = m at *
          generalize bs (Ob.num (O.vars.length : Int)) = t1 at *
          go_wp2_with fail
          refine HC1.out.mono ?_
          rintro e wr ⟨rfl, hb2⟩
          have HBn := Lib.hid (HBr.out.trans (hb2.mono HBr.out.size))
          clear hb2 HC1 HBr
          have HBr := HBn
          clear HBn
          go_upto_region 17 with fail
          rw [HA.out]
          clear HA z1 kk hblr
          have kk : wr.cell? ⟨b, o + 3, none⟩ = some (.slice va O.vars.length vc) := (HK.out _ HBr.out).c3
          have hblr : b < wr.heap.size := lt_of_cell kk
          go_wp2_with fail
          clear kk hblr
          go_loopg [5, 103] O.vars.length (fun k vs vi wr => ∃ (i : Nat) (m' : Bs), i ≤ O.vars.length ∧ k = O.vars.length - i ∧ vi = .int .i64 (i : Int) ∧ vs = .string (bs m') ∧ Hid (m' = m ++ ((O.vars.take i).map Ob.glW).flatten) ∧ Hid (m'.length ≤ 50000 + 31 * i) ∧ Hid (Below w.heap.size w wr))
          case atStart => exact ⟨0, m, by omega, by omega, rfl, rfl, by show _ = _; simp, by have := HML.out; show _ ≤ _; omega, HBr⟩
          case round =>
            clear HBr
            obtain ⟨i, m', hid, hk, rfl, rfl, HMi, HMLi, HBr⟩ := hrel
            by_cases hlt : i < O.vars.length
            · have hlt' : (i : Int) < (O.vars.length : Int) := by omega
              obtain ⟨g, go, rfl, hgl, hcell⟩ := (HK.out _ HBr.out).v.at' glC_len (by omega) i hlt
              have e0 : wr.cell? ⟨g, go + i * 4, none⟩ = some (.string (bs O.vars[i].name)) := hcell 0 _ rfl
              have e1 : wr.cell? ⟨g, go + i * 4 + 1, none⟩ = some (.int .i64 O.vars[i].at') := hcell 1 _ rfl
              have e2 : wr.cell? ⟨g, go + i * 4 + 2, none⟩ = some (.int .i64 O.vars[i].len) := hcell 2 _ rfl
              have e3 : wr.cell? ⟨g, go + i * 4 + 3, none⟩ = some (.bool O.vars[i].seen) := hcell 3 _ rfl
              clear hcell
              have HD : Hid (m' ++ Ob.glW O.vars[i] = m ++ ((O.vars.take (i + 1)).map Ob.glW).flatten) := by show _ = _; rw [HMi.out, part_next Ob.glW m O.vars i hlt]
              have hx := HR.out.v O.vars[i] (List.getElem_mem hlt)
              generalize O.vars[i] = x at *
              obtain ⟨wA, hwA⟩ : ∃ wA, wA = wr.alloc (.cells #[.string (bs x.name), .int .i64 x.at', .int .i64 x.len, .bool x.seen] 54) := ⟨_, rfl⟩
              have hblk : wA.heap[wr.heap.size]? = some (.cells #[.string (bs x.name), .int .i64 x.at', .int .i64 x.len, .bool x.seen] 54 (0, 0)) := by rw [hwA]; exact new_blk _ _
              have hbA : Below wr.heap.size wr wA := by rw [hwA]; exact (Below.refl _ _).alloc (Nat.le_refl _) _
              have HBA : Hid (Below w.heap.size w wA) := HBr.out.trans (hbA.mono HBr.out.size)
              have hrA : wr.heap.size < wA.heap.size := lt_blk hblk
              have a0 : wA.cell? ⟨wr.heap.size, 0, none⟩ = some (.string (bs x.name)) := cell_blk hblk
              have a1 : wA.cell? ⟨wr.heap.size, 1, none⟩ = some (.int .i64 x.at') := cell_blk hblk
              have a2 : wA.cell? ⟨wr.heap.size, 2, none⟩ = some (.int .i64 x.len) := cell_blk hblk
              have a3 : wA.cell? ⟨wr.heap.size, 3, none⟩ = some (.bool x.seen) := cell_blk hblk
              have HKc : Hid (∀ W, Below wA.heap.size wA W → W.cell? ⟨wr.heap.size, 0, none⟩ = some (.string (bs x.name)) ∧ W.cell? ⟨wr.heap.size, 1, none⟩ = some (.int .i64 x.at') ∧ W.cell? ⟨wr.heap.size, 2, none⟩ = some (.int .i64 x.len) ∧ W.cell? ⟨wr.heap.size, 3, none⟩ = some (.bool x.seen)) := fun W hW => ⟨(hW.cell (p := ⟨wr.heap.size, 0, none⟩) hrA).trans a0, (hW.cell (p := ⟨wr.heap.size, 1, none⟩) hrA).trans a1, (hW.cell (p := ⟨wr.heap.size, 2, none⟩) hrA).trans a2, (hW.cell (p := ⟨wr.heap.size, 3, none⟩) hrA).trans a3⟩
              have HS0 := Lib.hid (HKc.out _ (below_drew wA))
              have HC1 : Hid (∀ W, Calls Tryz.prog 17 #[.string (bs x.name)] W fun e w' => e = .returned (.string (bs (Ob.txt x.name))) ∧ Below W.heap.size W w') := fun W => rtext_any W _ (by omega)
              have q1 : (Ob.txt x.name).length ≤ 31 := by have := txt_len (s := x.name) (by omega); omega
              have HC2 : Hid (∀ W, Calls Tryz.prog 15 #[.int .i64 x.len] W fun e w' => e = .returned (.string (bs (Ob.num x.len))) ∧ Below W.heap.size W w') := fun W => rn_any W _ hx.2.2
              have q2 : (Ob.num x.len).length ≤ 31 := by have := num_len hx.2.2; omega
              have HF : Hid (Ob.glW x = Ob.txt x.name ++ Ob.num x.len ++ [if x.seen then 1 else 0]) := rfl
              have HFL : Hid ((Ob.glW x).length ≤ 31) := glW_len hx
              have hmb : m'.length ≤ 200000 := by have := HMLi.out; have := HLN.out; omega
              have HA : Hid (bs m' ++ (bs (Ob.txt x.name) ++ bs (Ob.num x.len) ++ bs ([if x.seen then 1 else 0])) = bs (m' ++ Ob.glW x)) := by show _ = _; rw [HF.out]; simp only [bs_app]
              have z1 : ¬ 9223372036854775807 < (bs (Ob.txt x.name)).size + (bs (Ob.num x.len)).size := by simp only [bs_size]; omega
              have z2 : ¬ 9223372036854775807 < (bs (Ob.txt x.name)).size + (bs (Ob.num x.len)).size + (bs ([if x.seen then 1 else 0])).size := by simp only [bs_size, List.length_singleton]; omega
              have z3 : ¬ 9223372036854775807 < (bs m').size + ((bs (Ob.txt x.name)).size + (bs (Ob.num x.len)).size + (bs ([if x.seen then 1 else 0])).size) := by simp only [bs_size, List.length_singleton]; omega
              have HML2 : Hid ((m' ++ Ob.glW x).length ≤ 50000 + 31 * (i + 1)) := by have := HMLi.out; have := HFL.out; show _ ≤ _; rw [List.length_append]; omega
              generalize m' ++ Ob.glW x = m2 at *
              generalize bs (Ob.txt x.name) = t1 at *
              generalize bs (Ob.num x.len) = t2 at *
              obtain ⟨t3, ht⟩ : ∃ t, bs ([if x.seen then 1 else 0]) = t := ⟨_, rfl⟩
              rw [ht] at HA z2 z3
              have HSN := Lib.hid ht
              clear ht
              generalize bs m' = bm at *
              clear HMi hblk hbA HF HFL hx q1 q2
              go_upto_region 20 with fail
              rw [← hwA]
              clear hwA e0 e1 e2 e3
              have HKs : Hid (∀ W, Below wA.heap.size wA W → W.cell? ⟨wr.heap.size, 0, none⟩ = some (.string (bs x.name)) ∧ W.cell? ⟨wr.heap.size, 1, none⟩ = some (.int .i64 x.at') ∧ W.cell? ⟨wr.heap.size, 2, none⟩ = some (.int .i64 x.len) ∧ W.cell? ⟨wr.heap.size, 3, none⟩ = some (.bool x.seen) ∧ wA.heap.size ≤ W.heap.size ∧ Below wA.heap.size wA W) := fun W hW => by obtain ⟨s0, s1, s2, s3⟩ := HKc.out W hW; exact ⟨s0, s1, s2, s3, hW.size, hW⟩
              have HKa : Hid (∀ W : World, (W.cell? ⟨wr.heap.size, 0, none⟩ = some (.string (bs x.name)) ∧ W.cell? ⟨wr.heap.size, 1, none⟩ = some (.int .i64 x.at') ∧ W.cell? ⟨wr.heap.size, 2, none⟩ = some (.int .i64 x.len) ∧ W.cell? ⟨wr.heap.size, 3, none⟩ = some (.bool x.seen) ∧ wA.heap.size ≤ W.heap.size ∧ Below wA.heap.size wA W) → (W.alloc (.map #[] 0)).cell? ⟨wr.heap.size, 0, none⟩ = some (.string (bs x.name)) ∧ (W.alloc (.map #[] 0)).cell? ⟨wr.heap.size, 1, none⟩ = some (.int .i64 x.at') ∧ (W.alloc (.map #[] 0)).cell? ⟨wr.heap.size, 2, none⟩ = some (.int .i64 x.len) ∧ (W.alloc (.map #[] 0)).cell? ⟨wr.heap.size, 3, none⟩ = some (.bool x.seen) ∧ wA.heap.size ≤ (W.alloc (.map #[] 0)).heap.size ∧ Below wA.heap.size wA (W.alloc (.map #[] 0))) := fun W hS => HKs.out _ ((hS.2.2.2.2.2.alloc (hS.2.2.2.2.1) _))
              have HKi : Hid (∀ (W : World) (mb : Nat) (k : Bool) (v : Value) (c : Nat), c < 999 → GoodM wA.heap.size c W mb → (W.cell? ⟨wr.heap.size, 0, none⟩ = some (.string (bs x.name)) ∧ W.cell? ⟨wr.heap.size, 1, none⟩ = some (.int .i64 x.at') ∧ W.cell? ⟨wr.heap.size, 2, none⟩ = some (.int .i64 x.len) ∧ W.cell? ⟨wr.heap.size, 3, none⟩ = some (.bool x.seen) ∧ wA.heap.size ≤ W.heap.size ∧ Below wA.heap.size wA W) → (insW mb k v W).cell? ⟨wr.heap.size, 0, none⟩ = some (.string (bs x.name)) ∧ (insW mb k v W).cell? ⟨wr.heap.size, 1, none⟩ = some (.int .i64 x.at') ∧ (insW mb k v W).cell? ⟨wr.heap.size, 2, none⟩ = some (.int .i64 x.len) ∧ (insW mb k v W).cell? ⟨wr.heap.size, 3, none⟩ = some (.bool x.seen) ∧ wA.heap.size ≤ (insW mb k v W).heap.size ∧ Below wA.heap.size wA (insW mb k v W)) := fun W mb k v c hc hg hS => HKs.out _ (hg.bel hc k v (hS.2.2.2.2.2) (Nat.le_refl _))
              have HKy : Hid (∀ W y : World, (W.cell? ⟨wr.heap.size, 0, none⟩ = some (.string (bs x.name)) ∧ W.cell? ⟨wr.heap.size, 1, none⟩ = some (.int .i64 x.at') ∧ W.cell? ⟨wr.heap.size, 2, none⟩ = some (.int .i64 x.len) ∧ W.cell? ⟨wr.heap.size, 3, none⟩ = some (.bool x.seen) ∧ wA.heap.size ≤ W.heap.size ∧ Below wA.heap.size wA W) → Below W.heap.size W y → y.cell? ⟨wr.heap.size, 0, none⟩ = some (.string (bs x.name)) ∧ y.cell? ⟨wr.heap.size, 1, none⟩ = some (.int .i64 x.at') ∧ y.cell? ⟨wr.heap.size, 2, none⟩ = some (.int .i64 x.len) ∧ y.cell? ⟨wr.heap.size, 3, none⟩ = some (.bool x.seen) ∧ wA.heap.size ≤ y.heap.size ∧ Below wA.heap.size wA y) := fun W y hS hb => HKs.out _ ((hS.2.2.2.2.2).trans (hb.mono (hS.2.2.2.2.1)))
              have Hr0 : Hid (∀ W : World, wA.heap.size ≤ W.heap.size → GoodM wA.heap.size 0 (W.alloc (.map #[] 0)) W.heap.size) := fun W h => GoodM.made W h
              have Hr1 : Hid (∀ (W : World) (mb : Nat) (k : Bool) (v : Value), GoodM wA.heap.size 0 W mb → (Instr.mapUpdate 61 (.map (some mb)) (.bool k) v).run Tryz.prog W = .ok () (insW mb k v W)) := fun W mb k v h => h.run (by omega) k v
              have Hr2 : Hid (∀ (W : World) (mb : Nat) (k : Bool) (v : Value), GoodM wA.heap.size 1 W mb → (Instr.mapUpdate 61 (.map (some mb)) (.bool k) v).run Tryz.prog W = .ok () (insW mb k v W)) := fun W mb k v h => h.run (by omega) k v
              have Hr3 : Hid (∀ (W : World) (mb : Nat) (k : Bool) (v : Value), GoodM wA.heap.size 0 W mb → GoodM wA.heap.size 1 (insW mb k v W) mb) := fun W mb k v h => h.ins (by omega) k v
              have Hr4 : Hid (∀ (W : World) (mb : Nat) (k : Bool) (v : Value), GoodM wA.heap.size 0 W mb → HasK 1 k v (insW mb k v W) mb) := fun W mb k v h => h.has (by omega) k v
              have Hr5 : Hid (∀ (W : World) (mb : Nat) (k : Bool) (v : Value), GoodM wA.heap.size 1 W mb → HasK 2 k v (insW mb k v W) mb) := fun W mb k v h => h.has (by omega) k v
              have Hr6 : Hid (∀ (W : World) (mb : Nat) (v v' : Value), HasK 1 true v W mb → HasK 2 true v (insW mb false v' W) mb) := fun W mb v v' h => h.ins (by omega) v' (by decide)
              have Hr7 : Hid (∀ (W : World) (mb : Nat) (v v' : Value), HasK 1 false v W mb → HasK 2 false v (insW mb true v' W) mb) := fun W mb v v' h => h.ins (by omega) v' (by decide)
              have rm := mkmap
              have Hrl : Hid (∀ (W : World) (mb : Nat), HasK 2 true (.string ⟨#[1]⟩) W mb → HasK 2 false (.string ⟨#[0]⟩) W mb → (Instr.lookup 61 (.map (some mb)) (.bool x.seen) false).run Tryz.prog W = .ok (.string t3) W) := fun W mb h1 h0 => by
                rw [← HSN.out]
                cases x.seen with
                | true => exact h1.look
                | false => exact h0.look
              have HS0' := Lib.hid (HKs.out _ (below_drew wA))
              have HSd := Lib.hid (HKs.out ((wA.alloc (.map #[] 0)).drew) (((Below.refl _ _).alloc (Nat.le_refl _) _).drew))
              have Hrd : Hid (GoodM wA.heap.size 0 ((wA.alloc (.map #[] 0)).drew) wA.heap.size) := (GoodM.made wA (Nat.le_refl _)).below (below_drew _)
              go_region_held3 (fun W => W.cell? ⟨wr.heap.size, 0, none⟩ = some (.string (bs x.name)) ∧ W.cell? ⟨wr.heap.size, 1, none⟩ = some (.int .i64 x.at') ∧ W.cell? ⟨wr.heap.size, 2, none⟩ = some (.int .i64 x.len) ∧ W.cell? ⟨wr.heap.size, 3, none⟩ = some (.bool x.seen) ∧ wA.heap.size ≤ W.heap.size ∧ Below wA.heap.size wA W) (first | with_reducible exact HS0'.out | with_reducible exact HSd.out | with_reducible assumption | with_reducible exact HKa.out _ (by assumption) | (refine HKi.out _ _ _ _ 0 (by omega) ?_ (by assumption); (have q0 := Hr0.out; have qd := Hrd.out; have q3 := Hr3.out; have q4 := Hr4.out; have q5 := Hr5.out; have q6 := Hr6.out; have q7 := Hr7.out; simp (config := {maxDischargeDepth := 12}) only [*])) | (refine HKi.out _ _ _ _ 1 (by omega) ?_ (by assumption); (have q0 := Hr0.out; have qd := Hrd.out; have q3 := Hr3.out; have q4 := Hr4.out; have q5 := Hr5.out; have q6 := Hr6.out; have q7 := Hr7.out; simp (config := {maxDischargeDepth := 12}) only [*])))  (first | (rw [Hr1.out]; rotate_left; (have q0 := Hr0.out; have qd := Hrd.out; have q3 := Hr3.out; have q4 := Hr4.out; have q5 := Hr5.out; have q6 := Hr6.out; have q7 := Hr7.out; simp (config := {maxDischargeDepth := 12}) only [*])) | (rw [Hr2.out]; rotate_left; (have q0 := Hr0.out; have qd := Hrd.out; have q3 := Hr3.out; have q4 := Hr4.out; have q5 := Hr5.out; have q6 := Hr6.out; have q7 := Hr7.out; simp (config := {maxDischargeDepth := 12}) only [*])) | (rw [Hrl.out]; rotate_left; (have q0 := Hr0.out; have qd := Hrd.out; have q3 := Hr3.out; have q4 := Hr4.out; have q5 := Hr5.out; have q6 := Hr6.out; have q7 := Hr7.out; simp (config := {maxDischargeDepth := 12}) only [*]); (have q0 := Hr0.out; have qd := Hrd.out; have q3 := Hr3.out; have q4 := Hr4.out; have q5 := Hr5.out; have q6 := Hr6.out; have q7 := Hr7.out; simp (config := {maxDischargeDepth := 12}) only [*])) | (go_at_call 17; refine (HC1.out _).mono ?_; rintro e y ⟨rfl, hb⟩; have hs := HKy.out _ _ (by assumption) hb; have g1 := fun c mb (h : GoodM wA.heap.size c _ mb) => h.below hb; have g2 := fun c k v mb (h : HasK c k v _ mb) => h.below hb; clear hb) | (go_at_call 15; refine (HC2.out _).mono ?_; rintro e y ⟨rfl, hb⟩; have hs := HKy.out _ _ (by assumption) hb; have g1 := fun c mb (h : GoodM wA.heap.size c _ mb) => h.below hb; have g2 := fun c k v mb (h : HasK c k v _ mb) => h.below hb; clear hb))
              all_goals
                rw [HA.out]
                have hSS := ‹_ ∧ _ ∧ _ ∧ _ ∧ _ ∧ Below wA.heap.size wA _›
                have HB2 := Lib.hid (HBA.out.trans (hSS.2.2.2.2.2.mono HBA.out.size))
                clear hSS
                clear HA HKc HKs HKa HKi HKy Hrd HSd HS0' Hr0 Hr1 Hr2 Hr3 Hr4 Hr5 Hr6 Hr7 rm Hrl
                go_wp2_with fail
                go_roundg (O.vars.length - (i + 1))
                case measure => omega
                case rel => exact ⟨i + 1, m2, by omega, rfl, by go_num, rfl, HD, HML2, HB2⟩
            · have hlt' : ¬ (i : Int) < (O.vars.length : Int) := by omega
              have HMx : Hid (m' = m ++ (O.vars.map Ob.glW).flatten) := by show _ = _; rw [HMi.out, List.take_of_length_le (by omega)]
              have HMLx : Hid (m'.length ≤ 50000 + 31 * O.vars.length) := by have h1 := HMLi.out; have h2 : i = O.vars.length := (by omega); show _ ≤ _; rw [← h2]; exact h1
              clear HMi HMLi hk
              have kk : wr.cell? ⟨b, o + 5, none⟩ = some (.slice na O.names.length nc) := (HK.out _ HBr.out).c5
              have hblr : b < wr.heap.size := lt_of_cell kk
              have HC1 : Hid (Calls Tryz.prog 18 #[.slice na O.names.length nc] wr fun e w' => e = .returned (.string (bs (Ob.lst Ob.txt O.names))) ∧ Below wr.heap.size wr w') := rtexts_any O.names (HK.out _ HBr.out).n (by have := HLN.out; omega) (fun y hy => by have := HR.out.n y hy; omega)
              have q1 : (Ob.lst Ob.txt O.names).length ≤ 1000 := by have := lst_len Ob.txt 20 O.names (fun y hy => by have := HR.out.n y hy; have := txt_len (s := y) (by omega); omega) (by have := HLN.out; omega); have := HLN.out; omega
              have HA : Hid (bs m' ++ bs (Ob.lst Ob.txt O.names) = bs (m' ++ Ob.lst Ob.txt O.names)) := bs_app _ _
              have z1 : ¬ 9223372036854775807 < (bs m').size + (bs (Ob.lst Ob.txt O.names)).size := by rw [bs_size, bs_size]; have := HMLx.out; have := HLN.out; omega
              have HTn : Hid (T = (m' ++ Ob.lst Ob.txt O.names) ++ (O.procs.map Ob.enW).flatten ++ Ob.num (O.code.length : Int) ++ (O.code.map Ob.inW).flatten) := by show T = _; rw [HTm.out, HMx.out]
              have HML2 : Hid ((m' ++ Ob.lst Ob.txt O.names).length ≤ 60000) := by have := HMLx.out; have := HLN.out; show _ ≤ _; rw [List.length_append]; omega
              clear HTm HML HMx HMLx q1
              have HTm := HTn
              have HML := HML2
              clear HTn HML2
              generalize m' ++ Ob.lst Ob.txt O.names = m at *
              generalize bs (Ob.lst Ob.txt O.names) = t1 at *
              go_wp2_with fail
              refine HC1.out.mono ?_
              rintro e wr ⟨rfl, hb2⟩
              have HBn := Lib.hid (HBr.out.trans (hb2.mono HBr.out.size))
              clear hb2 HC1 HBr
              have HBr := HBn
              clear HBn
              go_upto_region 23 with fail
              rw [HA.out]
              clear HA z1 kk hblr
              have kk : wr.cell? ⟨b, o + 4, none⟩ = some (.slice pa O.procs.length pc) := (HK.out _ HBr.out).c4
              have hblr : b < wr.heap.size := lt_of_cell kk
              go_wp2_with fail
              clear kk hblr
              go_loopg [5, 136] O.procs.length (fun k vs vi wr => ∃ (i : Nat) (m' : Bs), i ≤ O.procs.length ∧ k = O.procs.length - i ∧ vi = .int .i64 (i : Int) ∧ vs = .string (bs m') ∧ Hid (m' = m ++ ((O.procs.take i).map Ob.enW).flatten) ∧ Hid (m'.length ≤ 60000 + 30 * i) ∧ Hid (Below w.heap.size w wr))
              case atStart => exact ⟨0, m, by omega, by omega, rfl, rfl, by show _ = _; simp, by have := HML.out; show _ ≤ _; omega, HBr⟩
              case round =>
                clear HBr
                obtain ⟨i, m', hid, hk, rfl, rfl, HMi, HMLi, HBr⟩ := hrel
                by_cases hlt : i < O.procs.length
                · have hlt' : (i : Int) < (O.procs.length : Int) := by omega
                  obtain ⟨g, go, rfl, hgl, hcell⟩ := (HK.out _ HBr.out).p.at' enC_len (by omega) i hlt
                  have e0 : wr.cell? ⟨g, go + i * 3, none⟩ = some (.int .i64 O.procs[i].at') := hcell 0 _ rfl
                  have e1 : wr.cell? ⟨g, go + i * 3 + 1, none⟩ = some (.int .i64 O.procs[i].args) := hcell 1 _ rfl
                  have e2 : wr.cell? ⟨g, go + i * 3 + 2, none⟩ = some (.int .i64 O.procs[i].locals) := hcell 2 _ rfl
                  clear hcell
                  have HD : Hid (m' ++ Ob.enW O.procs[i] = m ++ ((O.procs.take (i + 1)).map Ob.enW).flatten) := by show _ = _; rw [HMi.out, part_next Ob.enW m O.procs i hlt]
                  have hx := HR.out.p O.procs[i] (List.getElem_mem hlt)
                  generalize O.procs[i] = x at *
                  obtain ⟨wA, hwA⟩ : ∃ wA, wA = wr.alloc (.cells #[.int .i64 x.at', .int .i64 x.args, .int .i64 x.locals] 47) := ⟨_, rfl⟩
                  have hblk : wA.heap[wr.heap.size]? = some (.cells #[.int .i64 x.at', .int .i64 x.args, .int .i64 x.locals] 47 (0, 0)) := by rw [hwA]; exact new_blk _ _
                  have hbA : Below wr.heap.size wr wA := by rw [hwA]; exact (Below.refl _ _).alloc (Nat.le_refl _) _
                  have HBA : Hid (Below w.heap.size w wA) := HBr.out.trans (hbA.mono HBr.out.size)
                  have hrA : wr.heap.size < wA.heap.size := lt_blk hblk
                  have a0 : wA.cell? ⟨wr.heap.size, 0, none⟩ = some (.int .i64 x.at') := cell_blk hblk
                  have a1 : wA.cell? ⟨wr.heap.size, 1, none⟩ = some (.int .i64 x.args) := cell_blk hblk
                  have a2 : wA.cell? ⟨wr.heap.size, 2, none⟩ = some (.int .i64 x.locals) := cell_blk hblk
                  have HKc : Hid (∀ W, Below wA.heap.size wA W → W.cell? ⟨wr.heap.size, 0, none⟩ = some (.int .i64 x.at') ∧ W.cell? ⟨wr.heap.size, 1, none⟩ = some (.int .i64 x.args) ∧ W.cell? ⟨wr.heap.size, 2, none⟩ = some (.int .i64 x.locals)) := fun W hW => ⟨(hW.cell (p := ⟨wr.heap.size, 0, none⟩) hrA).trans a0, (hW.cell (p := ⟨wr.heap.size, 1, none⟩) hrA).trans a1, (hW.cell (p := ⟨wr.heap.size, 2, none⟩) hrA).trans a2⟩
                  have HS0 := Lib.hid (HKc.out _ (below_drew wA))
                  have HC1 : Hid (∀ W, Calls Tryz.prog 15 #[.int .i64 x.at'] W fun e w' => e = .returned (.string (bs (Ob.num x.at'))) ∧ Below W.heap.size W w') := fun W => rn_any W _ hx.1
                  have q1 : (Ob.num x.at').length ≤ 30 := by have := num_len hx.1; omega
                  have HC2 : Hid (∀ W, Calls Tryz.prog 15 #[.int .i64 x.args] W fun e w' => e = .returned (.string (bs (Ob.num x.args))) ∧ Below W.heap.size W w') := fun W => rn_any W _ hx.2.1
                  have q2 : (Ob.num x.args).length ≤ 30 := by have := num_len hx.2.1; omega
                  have HC3 : Hid (∀ W, Calls Tryz.prog 15 #[.int .i64 x.locals] W fun e w' => e = .returned (.string (bs (Ob.num x.locals))) ∧ Below W.heap.size W w') := fun W => rn_any W _ hx.2.2
                  have q3 : (Ob.num x.locals).length ≤ 30 := by have := num_len hx.2.2; omega
                  have HF : Hid (Ob.enW x = Ob.num x.at' ++ Ob.num x.args ++ Ob.num x.locals) := rfl
                  have HFL : Hid ((Ob.enW x).length ≤ 30) := enW_len hx
                  have hmb : m'.length ≤ 200000 := by have := HMLi.out; have := HLN.out; omega
                  have HA : Hid (bs m' ++ (bs (Ob.num x.at') ++ bs (Ob.num x.args) ++ bs (Ob.num x.locals)) = bs (m' ++ Ob.enW x)) := by show _ = _; rw [HF.out]; simp only [bs_app]
                  have z1 : ¬ 9223372036854775807 < (bs (Ob.num x.at')).size + (bs (Ob.num x.args)).size := by simp only [bs_size]; omega
                  have z2 : ¬ 9223372036854775807 < (bs (Ob.num x.at')).size + (bs (Ob.num x.args)).size + (bs (Ob.num x.locals)).size := by simp only [bs_size]; omega
                  have z3 : ¬ 9223372036854775807 < (bs m').size + ((bs (Ob.num x.at')).size + (bs (Ob.num x.args)).size + (bs (Ob.num x.locals)).size) := by simp only [bs_size]; omega
                  have HML2 : Hid ((m' ++ Ob.enW x).length ≤ 60000 + 30 * (i + 1)) := by have := HMLi.out; have := HFL.out; show _ ≤ _; rw [List.length_append]; omega
                  generalize m' ++ Ob.enW x = m2 at *
                  generalize bs (Ob.num x.at') = t1 at *
                  generalize bs (Ob.num x.args) = t2 at *
                  generalize bs (Ob.num x.locals) = t3 at *
                  generalize bs m' = bm at *
                  clear HMi hblk hbA HF HFL hx q1 q2 q3
                  go_upto_region 26 with fail
                  rw [← hwA]
                  clear hwA e0 e1 e2
                  go_region_held3 (fun W => W.cell? ⟨wr.heap.size, 0, none⟩ = some (.int .i64 x.at') ∧ W.cell? ⟨wr.heap.size, 1, none⟩ = some (.int .i64 x.args) ∧ W.cell? ⟨wr.heap.size, 2, none⟩ = some (.int .i64 x.locals)) (with_reducible (first | exact HS3.out | exact HS2.out | exact HS1.out | exact HS0.out)) (first | (have _g := HX2; go_at_call 15; refine (HC3.out _).mono ?_; rintro e y3 ⟨rfl, hb⟩; have HX3 : Hid (Below wA.heap.size wA y3) := HX2.out.trans (hb.mono HX2.out.size); have HS3 := Lib.hid (HKc.out _ HX3.out); clear hb) | (have _g := HX1; go_at_call 15; refine (HC2.out _).mono ?_; rintro e y2 ⟨rfl, hb⟩; have HX2 : Hid (Below wA.heap.size wA y2) := HX1.out.trans (hb.mono HX1.out.size); have HS2 := Lib.hid (HKc.out _ HX2.out); clear hb) | (go_at_call 15; refine (HC1.out _).mono ?_; rintro e y1 ⟨rfl, hb⟩; have HX1 : Hid (Below wA.heap.size wA y1) := (below_drew wA).trans (hb.mono (below_drew wA).size); have HS1 := Lib.hid (HKc.out _ HX1.out); clear hb))
                  rw [HA.out]
                  have HB2 : Hid (Below w.heap.size w y3) := HBA.out.trans (HX3.out.mono HBA.out.size)
                  clear HA HKc HS0 HS1 HS2 HS3 HX1 HX2 HX3 z1 z2 z3 HC1 HC2 HC3 a0 a1 a2
                  go_wp2_with fail
                  go_roundg (O.procs.length - (i + 1))
                  case measure => omega
                  case rel => exact ⟨i + 1, m2, by omega, rfl, by go_num, rfl, HD, HML2, HB2⟩
                · have hlt' : ¬ (i : Int) < (O.procs.length : Int) := by omega
                  have HMx : Hid (m' = m ++ (O.procs.map Ob.enW).flatten) := by show _ = _; rw [HMi.out, List.take_of_length_le (by omega)]
                  have HMLx : Hid (m'.length ≤ 60000 + 30 * O.procs.length) := by have h1 := HMLi.out; have h2 : i = O.procs.length := (by omega); show _ ≤ _; rw [← h2]; exact h1
                  clear HMi HMLi hk
                  have kk : wr.cell? ⟨b, o + 6, none⟩ = some (.slice ca O.code.length cc) := (HK.out _ HBr.out).c6
                  have hblr : b < wr.heap.size := lt_of_cell kk
                  have HC1 : Hid (Calls Tryz.prog 15 #[.int .i64 (O.code.length : Int)] wr fun e w' => e = .returned (.string (bs (Ob.num (O.code.length : Int)))) ∧ Below wr.heap.size wr w') := rn_any wr _ (by unfold Ob.I64; omega)
                  have q1 : (Ob.num (O.code.length : Int)).length ≤ 1000 := by have := num_len (n := (O.code.length : Int)) (by unfold Ob.I64; omega); omega
                  have HA : Hid (bs m' ++ bs (Ob.num (O.code.length : Int)) = bs (m' ++ Ob.num (O.code.length : Int))) := bs_app _ _
                  have z1 : ¬ 9223372036854775807 < (bs m').size + (bs (Ob.num (O.code.length : Int))).size := by rw [bs_size, bs_size]; have := HMLx.out; have := HLN.out; omega
                  have HTn : Hid (T = (m' ++ Ob.num (O.code.length : Int)) ++ (O.code.map Ob.inW).flatten) := by show T = _; rw [HTm.out, HMx.out]
                  have HML2 : Hid ((m' ++ Ob.num (O.code.length : Int)).length ≤ 70000) := by have := HMLx.out; have := HLN.out; show _ ≤ _; rw [List.length_append]; omega
                  clear HTm HML HMx HMLx q1
                  have HTm := HTn
                  have HML := HML2
                  clear HTn HML2
                  generalize m' ++ Ob.num (O.code.length : Int) = m at *
                  generalize bs (Ob.num (O.code.length : Int)) = t1 at *
                  go_wp2_with fail
                  refine HC1.out.mono ?_
                  rintro e wr ⟨rfl, hb2⟩
                  have HBn := Lib.hid (HBr.out.trans (hb2.mono HBr.out.size))
                  clear hb2 HC1 HBr
                  have HBr := HBn
                  clear HBn
                  go_upto_region 29 with fail
                  rw [HA.out]
                  clear HA z1 kk hblr
                  have kk : wr.cell? ⟨b, o + 6, none⟩ = some (.slice ca O.code.length cc) := (HK.out _ HBr.out).c6
                  have hblr : b < wr.heap.size := lt_of_cell kk
                  go_wp2_with fail
                  clear kk hblr
                  go_loopg [5, 171] O.code.length (fun k vs vi wr => ∃ (i : Nat) (m' : Bs), i ≤ O.code.length ∧ k = O.code.length - i ∧ vi = .int .i64 (i : Int) ∧ vs = .string (bs m') ∧ Hid (m' = m ++ ((O.code.take i).map Ob.inW).flatten) ∧ Hid (m'.length ≤ 70000 + 30 * i) ∧ Hid (Below w.heap.size w wr))
                  case atStart => exact ⟨0, m, by omega, by omega, rfl, rfl, by show _ = _; simp, by have := HML.out; show _ ≤ _; omega, HBr⟩
                  case round =>
                    clear HBr
                    obtain ⟨i, m', hid, hk, rfl, rfl, HMi, HMLi, HBr⟩ := hrel
                    by_cases hlt : i < O.code.length
                    · have hlt' : (i : Int) < (O.code.length : Int) := by omega
                      obtain ⟨g, go, rfl, hgl, hcell⟩ := (HK.out _ HBr.out).c.at' inC_len (by omega) i hlt
                      have e0 : wr.cell? ⟨g, go + i * 3, none⟩ = some (.int .i64 O.code[i].op) := hcell 0 _ rfl
                      have e1 : wr.cell? ⟨g, go + i * 3 + 1, none⟩ = some (.int .i64 O.code[i].a) := hcell 1 _ rfl
                      have e2 : wr.cell? ⟨g, go + i * 3 + 2, none⟩ = some (.int .i64 O.code[i].b) := hcell 2 _ rfl
                      clear hcell
                      have HD : Hid (m' ++ Ob.inW O.code[i] = m ++ ((O.code.take (i + 1)).map Ob.inW).flatten) := by show _ = _; rw [HMi.out, part_next Ob.inW m O.code i hlt]
                      have hx := HR.out.c O.code[i] (List.getElem_mem hlt)
                      generalize O.code[i] = x at *
                      obtain ⟨wA, hwA⟩ : ∃ wA, wA = wr.alloc (.cells #[.int .i64 x.op, .int .i64 x.a, .int .i64 x.b] 49) := ⟨_, rfl⟩
                      have hblk : wA.heap[wr.heap.size]? = some (.cells #[.int .i64 x.op, .int .i64 x.a, .int .i64 x.b] 49 (0, 0)) := by rw [hwA]; exact new_blk _ _
                      have hbA : Below wr.heap.size wr wA := by rw [hwA]; exact (Below.refl _ _).alloc (Nat.le_refl _) _
                      have HBA : Hid (Below w.heap.size w wA) := HBr.out.trans (hbA.mono HBr.out.size)
                      have hrA : wr.heap.size < wA.heap.size := lt_blk hblk
                      have a0 : wA.cell? ⟨wr.heap.size, 0, none⟩ = some (.int .i64 x.op) := cell_blk hblk
                      have a1 : wA.cell? ⟨wr.heap.size, 1, none⟩ = some (.int .i64 x.a) := cell_blk hblk
                      have a2 : wA.cell? ⟨wr.heap.size, 2, none⟩ = some (.int .i64 x.b) := cell_blk hblk
                      have HKc : Hid (∀ W, Below wA.heap.size wA W → W.cell? ⟨wr.heap.size, 0, none⟩ = some (.int .i64 x.op) ∧ W.cell? ⟨wr.heap.size, 1, none⟩ = some (.int .i64 x.a) ∧ W.cell? ⟨wr.heap.size, 2, none⟩ = some (.int .i64 x.b)) := fun W hW => ⟨(hW.cell (p := ⟨wr.heap.size, 0, none⟩) hrA).trans a0, (hW.cell (p := ⟨wr.heap.size, 1, none⟩) hrA).trans a1, (hW.cell (p := ⟨wr.heap.size, 2, none⟩) hrA).trans a2⟩
                      have HS0 := Lib.hid (HKc.out _ (below_drew wA))
                      have HC1 : Hid (∀ W, Calls Tryz.prog 15 #[.int .i64 x.op] W fun e w' => e = .returned (.string (bs (Ob.num x.op))) ∧ Below W.heap.size W w') := fun W => rn_any W _ hx.1
                      have q1 : (Ob.num x.op).length ≤ 30 := by have := num_len hx.1; omega
                      have HC2 : Hid (∀ W, Calls Tryz.prog 16 #[.int .i64 x.a] W fun e w' => e = .returned (.string (bs (Ob.num x.a))) ∧ Below W.heap.size W w') := fun W => rnumber_any W _ hx.2.1
                      have q2 : (Ob.num x.a).length ≤ 30 := by have := num_len hx.2.1; omega
                      have HC3 : Hid (∀ W, Calls Tryz.prog 16 #[.int .i64 x.b] W fun e w' => e = .returned (.string (bs (Ob.num x.b))) ∧ Below W.heap.size W w') := fun W => rnumber_any W _ hx.2.2
                      have q3 : (Ob.num x.b).length ≤ 30 := by have := num_len hx.2.2; omega
                      have HF : Hid (Ob.inW x = Ob.num x.op ++ Ob.num x.a ++ Ob.num x.b) := rfl
                      have HFL : Hid ((Ob.inW x).length ≤ 30) := inW_len hx
                      have hmb : m'.length ≤ 200000 := by have := HMLi.out; have := HLN.out; omega
                      have HA : Hid (bs m' ++ (bs (Ob.num x.op) ++ bs (Ob.num x.a) ++ bs (Ob.num x.b)) = bs (m' ++ Ob.inW x)) := by show _ = _; rw [HF.out]; simp only [bs_app]
                      have z1 : ¬ 9223372036854775807 < (bs (Ob.num x.op)).size + (bs (Ob.num x.a)).size := by simp only [bs_size]; omega
                      have z2 : ¬ 9223372036854775807 < (bs (Ob.num x.op)).size + (bs (Ob.num x.a)).size + (bs (Ob.num x.b)).size := by simp only [bs_size]; omega
                      have z3 : ¬ 9223372036854775807 < (bs m').size + ((bs (Ob.num x.op)).size + (bs (Ob.num x.a)).size + (bs (Ob.num x.b)).size) := by simp only [bs_size]; omega
                      have HML2 : Hid ((m' ++ Ob.inW x).length ≤ 70000 + 30 * (i + 1)) := by have := HMLi.out; have := HFL.out; show _ ≤ _; rw [List.length_append]; omega
                      generalize m' ++ Ob.inW x = m2 at *
                      generalize bs (Ob.num x.op) = t1 at *
                      generalize bs (Ob.num x.a) = t2 at *
                      generalize bs (Ob.num x.b) = t3 at *
                      generalize bs m' = bm at *
                      clear HMi hblk hbA HF HFL hx q1 q2 q3
                      go_upto_region 32 with fail
                      rw [← hwA]
                      clear hwA e0 e1 e2
                      go_region_held3 (fun W => W.cell? ⟨wr.heap.size, 0, none⟩ = some (.int .i64 x.op) ∧ W.cell? ⟨wr.heap.size, 1, none⟩ = some (.int .i64 x.a) ∧ W.cell? ⟨wr.heap.size, 2, none⟩ = some (.int .i64 x.b)) (with_reducible (first | exact HS3.out | exact HS2.out | exact HS1.out | exact HS0.out)) (first | (have _g := HX2; go_at_call 16; refine (HC3.out _).mono ?_; rintro e y3 ⟨rfl, hb⟩; have HX3 : Hid (Below wA.heap.size wA y3) := HX2.out.trans (hb.mono HX2.out.size); have HS3 := Lib.hid (HKc.out _ HX3.out); clear hb) | (have _g := HX1; go_at_call 16; refine (HC2.out _).mono ?_; rintro e y2 ⟨rfl, hb⟩; have HX2 : Hid (Below wA.heap.size wA y2) := HX1.out.trans (hb.mono HX1.out.size); have HS2 := Lib.hid (HKc.out _ HX2.out); clear hb) | (go_at_call 15; refine (HC1.out _).mono ?_; rintro e y1 ⟨rfl, hb⟩; have HX1 : Hid (Below wA.heap.size wA y1) := (below_drew wA).trans (hb.mono (below_drew wA).size); have HS1 := Lib.hid (HKc.out _ HX1.out); clear hb))
                      rw [HA.out]
                      have HB2 : Hid (Below w.heap.size w y3) := HBA.out.trans (HX3.out.mono HBA.out.size)
                      clear HA HKc HS0 HS1 HS2 HS3 HX1 HX2 HX3 z1 z2 z3 HC1 HC2 HC3 a0 a1 a2
                      go_wp2_with fail
                      go_roundg (O.code.length - (i + 1))
                      case measure => omega
                      case rel => exact ⟨i + 1, m2, by omega, rfl, by go_num, rfl, HD, HML2, HB2⟩
                    · have hlt' : ¬ (i : Int) < (O.code.length : Int) := by omega
                      have HMx : Hid (m' = m ++ (O.code.map Ob.inW).flatten) := by show _ = _; rw [HMi.out, List.take_of_length_le (by omega)]
                      have HMLx : Hid (m'.length ≤ 70000 + 30 * O.code.length) := by have h1 := HMLi.out; have h2 : i = O.code.length := (by omega); show _ ≤ _; rw [← h2]; exact h1
                      clear HMi HMLi hk
                      have HTx : Hid (T = m') := by show T = _; rw [HTm.out, HMx.out]
                      rw [HTx.out] at HP
                      clear HTm HMx HMLx HML HTx
                      go_wp2_with fail
                      go_ret2
                      exact ⟨HP.out _ rfl, HBr.out⟩
end Go.Proofs.YtijhpokclpdjpaaGreatDoor
