/- ObjWrites: which objects may be, their bytes, and which object any bytes are, is as the document has it: for every object and every text the call returns true, and the arguments read as they did. What the row lists of the program (the handle errors.errorType) is tied to its text; no other condition. -/
import Derived.Test.YtijhpokclpdjpaaGreatDoorKXh
import Derived.Test.YtijhpokclpdjpaaGreatDoorKJh
import Derived.Test.YtijhpokclpdjpaaGreatDoorCards
import Derived.Test.YtijhpokclpdjpaaGreatDoorTie
import Derived.ProofKit
import Derived.LaidHandle
import Derived.LaidSub
import Derived.Lib.LaidTab
import Derived.Deep.DeepHandedRow
import Derived.SliceStrings
import Derived.OpenShut
/- ObjWrites, walked. -/
namespace Go.Proofs.YtijhpokclpdjpaaGreatDoor
open Go.RowKit
open Ob (Bs)
theorem hnd_below {w w' : World} (h : Hnd w) (hb : Below w.heap.size w w') : Hnd w' := (hb.cell (p := ⟨0, 0, none⟩) (lt_of_cell h)).trans h
set_option maxRecDepth 100000 in
set_option maxHeartbeats 4000000 in
theorem objWrites_gen {w : World} {p : Option Addr} (l : Bs) (hg : Hnd w)
    (hS : Calls Tryz.prog 4 #[.pointer p] w fun e w' => Below w.heap.size w w' ∧ ∃ s, e = .returned (.bool s) ∧ (s = true → ∃ t n ev rb, Ask w p t n ev rb)) :
    Calls Tryz.prog 3 #[.pointer p, .string (bs l)] w fun e w' => e = .returned (.bool true) ∧ Below w.heap.size w w' := by
  have hz := bs_size l
  have HS := Lib.hid hS
  clear hS
  by_cases hl : (l.length : Int) ≤ 1500
  rotate_left
  · have hlg : decide ((1500 : Int) < (l.length : Int)) = true := decide_eq_true (by omega)
    go_enter Tryz.func3, Tryz.ntmps3
    go_wp2_with fail
    refine HS.out.mono ?_
    rintro e w1 ⟨hb1, s, rfl, _⟩
    cases s
    · go_wp2_with fail
      go_ret
      exact ⟨rfl, hb1⟩
    · go_wp2_with fail
      go_ret
      exact ⟨rfl, hb1⟩
  · have hlg : decide ((1500 : Int) < (l.length : Int)) = false := decide_eq_false (by omega)
    have hbo : Both l := both_of l (by omega)
    have HNM : Hid (∀ W, Calls Tryz.prog 10 #[.string (bs l)] W fun e w' => e = .returned (.bool (Ob.nameB l)) ∧ w' = W) := fun W => name_any W l (by omega)
    have HRN : Hid (∀ W, Calls Tryz.prog 11 #[.string (bs l)] W fun e w' => e = .returned (.bool (Ob.nameB l)) ∧ w' = W) := fun W => rname_any W l (by omega)
    generalize Ob.nameB l = nb at HNM HRN
    have HRD : Hid (∀ W, Calls Tryz.prog 12 #[.string (bs l)] W fun e w' => Below W.heap.size W w' ∧ RReadP l e w') := fun W => rread_any W l (by omega)
    have HPA : Hid (∀ W, Calls Tryz.prog 13 #[.string (bs l)] W fun e w' => ParseP l e w' ∧ Below W.heap.size W w') := fun W => parse_post W l (by omega)
    have HRT : Hid (readT l = parseB l) := readT_eq (by omega)
    have HH : Hid (∀ W, Below w.heap.size w W → Hnd W) := fun W h => hnd_below hg h
    clear hg
    go_enter Tryz.func3, Tryz.ntmps3
    go_wp2_with fail
    refine HS.out.mono ?_
    rintro e w1 ⟨hb1, s, rfl, hs⟩
    cases s
    · go_wp2_with fail
      go_ret
      exact ⟨rfl, hb1⟩
    · obtain ⟨t, n, ev, rb, hA⟩ := hs rfl
      have HA := Lib.hid hA
      clear hA hs
      go_wp2_with fail
      refine (HA.out.rw' w1 hb1).mono ?_
      rintro e w2 ⟨rfl, hb2⟩
      replace hb2 := hb1.trans (hb2.mono hb1.size)
      go_wp2_with fail
      refine (HA.out.ow w2 hb2).mono ?_
      rintro e w3 ⟨rfl, hb3⟩
      replace hb3 := hb2.trans (hb3.mono hb2.size)
      go_wp2_with fail
      refine (bare_any HA.out.er w3 (HH.out w3 hb3)).mono ?_
      rintro e w4 ⟨rfl, hb4⟩
      replace hb4 := hb3.trans (hb4.mono hb3.size)
      go_wp2_with fail
      refine (HA.out.orr w4 hb4).mono ?_
      rintro e w5 ⟨rfl, hb5⟩
      replace hb5 := hb4.trans (hb5.mono hb4.size)
      go_wp2_with fail
      refine (HA.out.rr w5 hb5).mono ?_
      rintro e w6 ⟨rfl, hb6⟩
      replace hb6 := hb5.trans (hb6.mono hb5.size)
      have hrr : (rb != rb) = false := by simp
      have hnn : (nb != nb) = false := by simp
      go_wp2_with fail
      refine (HNM.out w6).mono ?_
      rintro e w6' ⟨rfl, hw6⟩
      rw [hw6]
      clear hw6 w6'
      go_wp2_with fail
      refine (HRN.out w6).mono ?_
      rintro e w6' ⟨rfl, hw6⟩
      rw [hw6]
      clear hw6 w6'
      go_wp2_with fail
      refine (HRD.out w6).mono ?_
      rintro e w7 ⟨hb7, hr7⟩
      have hb7' := hb7
      replace hb7 := hb6.trans (hb7.mono hb6.size)
      unfold RReadP at hr7
      rw [HRT.out] at hr7
      rcases hbo with hp0 | ⟨O, hp0, hBd⟩
      · rw [hp0] at hr7
        subst hr7
        go_wp2_with fail
        refine (HPA.out w7).mono ?_
        rintro e w8 ⟨hr8, hb8⟩
        unfold ParseP at hr8
        rw [hp0] at hr8
        subst hr8
        replace hb8 := hb7.trans (hb8.mono hb7.size)
        go_wp2_with fail
        refine (bare_any (n := 3) (Or.inr rfl) w8 (HH.out w8 hb8)).mono ?_
        rintro e w9 ⟨rfl, hb9⟩
        replace hb9 := hb8.trans (hb9.mono hb8.size)
        go_wp2_with fail
        refine (sameObject_nil w9).mono ?_
        rintro e w9' ⟨rfl, hw9⟩
        rw [hw9]
        clear hw9 w9'
        go_wp2_with fail
        refine (bare_any (n := 3) (Or.inr rfl) w9 (HH.out w9 hb9)).mono ?_
        rintro e w10 ⟨rfl, hb10⟩
        replace hb10 := hb9.trans (hb10.mono hb9.size)
        go_wp2_with fail
        go_ret
        exact ⟨rfl, hb10⟩
      · rw [hp0] at hr7
        obtain ⟨wb, rfl, hOA7⟩ := hr7
        go_wp2_with fail
        refine (HPA.out w7).mono ?_
        rintro e w8 ⟨hr8, hb8⟩
        unfold ParseP at hr8
        rw [hp0] at hr8
        obtain ⟨xb, rfl, hOA8⟩ := hr8
        have hOA7' : OA w8 wb 0 O := by
          obtain ⟨sa, ua, va, pa, na, ca, sc, uc, vc, pc, nc, cc, hV⟩ := hOA7
          exact ⟨sa, ua, va, pa, na, ca, sc, uc, vc, pc, nc, cc, hV.below hb8⟩
        replace hb8 := hb7.trans (hb8.mono hb7.size)
        go_wp2_with fail
        refine (bare_any (n := 0) (Or.inl ⟨rfl, rfl⟩) w8 (HH.out w8 hb8)).mono ?_
        rintro e w9 ⟨rfl, hb9⟩
        obtain ⟨sa, ua, va, pa, na, ca, sc, uc, vc, pc, nc, cc, hV⟩ := hOA7'
        obtain ⟨sa', ua', va', pa', na', ca', sc', uc', vc', pc', nc', cc', hX⟩ := hOA8
        have HV := Lib.hid (hV.below hb9)
        have HX := Lib.hid (hX.below hb9)
        have HB9 := Lib.hid (hb8.trans (hb9.mono hb8.size))
        have HBD := Lib.hid hBd
        clear hV hX hb9 hb8 hb7 hb7' hb6 hb5 hb4 hb3 hb2 hb1 hOA7 hp0 hBd hrr hnn
        have hpl : (O.procs.length : Int) ≤ 1000000 := by have := HBD.out.pl; omega
        have hcl : (O.code.length : Int) ≤ 1000000 := by have := HBD.out.cl; omega
        go_wp2_with fail
        refine (sameObject_eq HX.out HV.out HBD.out).mono ?_
        rintro e w10 ⟨rfl, m, hw10⟩
        have HW10 := Lib.hid hw10
        have HD : Hid (∀ n, (w10.drewN n).cell? ⟨xb, 0 + 4, none⟩ = some (.slice pa' O.procs.length pc') ∧ (w10.drewN n).cell? ⟨xb, 0 + 6, none⟩ = some (.slice ca' O.code.length cc') ∧ (w10.drewN n).cell? ⟨wb, 0 + 4, none⟩ = some (.slice pa O.procs.length pc) ∧ (w10.drewN n).cell? ⟨wb, 0 + 6, none⟩ = some (.slice ca O.code.length cc)) := fun n => by
          have e : ∀ a, (w10.drewN n).cell? a = w9.cell? a := fun a => by rw [drewN_cell, HW10.out, drewN_cell]
          rw [e, e, e, e]
          exact ⟨HX.out.c4, HX.out.c6, HV.out.c4, HV.out.c6⟩
        have HP : Hid (∀ n, Sl (w10.drewN n) (.slice pa' O.procs.length pc') 3 O.procs.length (cellsOf enC O.procs) ∧ Sl (w10.drewN n) (.slice pa O.procs.length pc) 3 O.procs.length (cellsOf enC O.procs)) := fun n => by
          have hb : Below w9.heap.size w9 (w10.drewN n) := by rw [HW10.out, World.drewN_drewN]; exact below_drewN _ _
          exact ⟨HX.out.p.below hb, HV.out.p.below hb⟩
        have HC : Hid (∀ n, Sl (w10.drewN n) (.slice ca' O.code.length cc') 3 O.code.length (cellsOf inC O.code) ∧ Sl (w10.drewN n) (.slice ca O.code.length cc) 3 O.code.length (cellsOf inC O.code)) := fun n => by
          have hb : Below w9.heap.size w9 (w10.drewN n) := by rw [HW10.out, World.drewN_drewN]; exact below_drewN _ _
          exact ⟨HX.out.c.below hb, HV.out.c.below hb⟩
        have HFIN : Hid (∀ n, Below w.heap.size w (w10.drewN n)) := fun n => by
          rw [HW10.out, World.drewN_drewN]; exact HB9.out.trans ((below_drewN _ _).mono HB9.out.size)
        clear hw10 HW10 HX HV HB9
        obtain ⟨d4, d6, v4, v6⟩ := HD.out 0
        have d4 : w10.cell? ⟨xb, 4, none⟩ = some (.slice pa' O.procs.length pc') := d4
        have d6 : w10.cell? ⟨xb, 6, none⟩ = some (.slice ca' O.code.length cc') := d6
        have v4 : w10.cell? ⟨wb, 4, none⟩ = some (.slice pa O.procs.length pc) := v4
        have v6 : w10.cell? ⟨wb, 6, none⟩ = some (.slice ca O.code.length cc) := v6
        have hxl : xb < w10.heap.size := lt_of_cell d4
        have hwl : wb < w10.heap.size := lt_of_cell v4
        go_wp2_with fail
        go_quiet (fail)
        obtain ⟨n0, hn0⟩ : ∃ n0, n0 = nq := ⟨_, rfl⟩
        rw [← hn0]
        clear hn0
        go_wp2_with fail
        clear d4 d6 v4 v6
        go_loopg [11] O.procs.length (fun k vi wr => ∃ i n : Nat, i ≤ O.procs.length ∧ k = O.procs.length - i ∧ vi = .int .i64 (i : Int) ∧ wr = w10.drewN n)
        case atStart => exact ⟨0, n0, by omega, by omega, rfl, rfl⟩
        case round =>
          obtain ⟨i, n, hid, hk, rfl, hwr⟩ := hrel
          obtain ⟨d4, d6, v4, v6⟩ := HD.out n
          rw [← hwr] at d4 d6 v4 v6
          have dd : wr.cell? ⟨xb, 4, none⟩ = some (.slice pa' O.procs.length pc') := d4
          have vv : wr.cell? ⟨wb, 4, none⟩ = some (.slice pa O.procs.length pc) := v4
          have hxl : xb < wr.heap.size := lt_of_cell dd
          have hwl : wb < wr.heap.size := lt_of_cell vv
          clear d4 d6 v4 v6
          by_cases hlt : i < O.procs.length
          · have hlt' : (i : Int) < (O.procs.length : Int) := by omega
            obtain ⟨hS1, hS2⟩ := HP.out n
            obtain ⟨g, go, rfl, hgl, hcell⟩ := hS1.at' enC_len (by omega) i hlt
            obtain ⟨g2, go2, rfl, hgl2, hcell2⟩ := hS2.at' enC_len (by omega) i hlt
            rw [← hwr] at hcell hcell2
            have e0 : wr.cell? ⟨g, go + i * 3, none⟩ = some (.int .i64 O.procs[i].at') := hcell 0 _ rfl
            have e1 : wr.cell? ⟨g, go + i * 3 + 1, none⟩ = some (.int .i64 O.procs[i].args) := hcell 1 _ rfl
            have e2 : wr.cell? ⟨g, go + i * 3 + 2, none⟩ = some (.int .i64 O.procs[i].locals) := hcell 2 _ rfl
            have d0 : wr.cell? ⟨g2, go2 + i * 3, none⟩ = some (.int .i64 O.procs[i].at') := hcell2 0 _ rfl
            have d1 : wr.cell? ⟨g2, go2 + i * 3 + 1, none⟩ = some (.int .i64 O.procs[i].args) := hcell2 1 _ rfl
            have d2 : wr.cell? ⟨g2, go2 + i * 3 + 2, none⟩ = some (.int .i64 O.procs[i].locals) := hcell2 2 _ rfl
            have HWR := Lib.hid hwr
            have hz1 : g < wr.heap.size := lt_of_cell e0
            have hz2 : g2 < wr.heap.size := lt_of_cell d0
            clear hcell hcell2 hwr hS1 hS2 hgl hgl2
            generalize O.procs[i] = x at *
            go_wp2_with fail
            go_quiet (fail)
            have HW2 : Hid (wr.drewN nq = w10.drewN (n + nq)) := by show _ = _; rw [HWR.out, World.drewN_drewN]
            go_wp2_with fail
            go_roundg (O.procs.length - (i + 1))
            case measure => omega
            case rel => exact ⟨i + 1, n + nq, by omega, rfl, by go_num, HW2.out⟩
          · have hlt' : ¬ (i : Int) < (O.procs.length : Int) := by omega
            have HWR := Lib.hid hwr
            clear hwr
            go_wp2_with fail
            rw [HWR.out]
            clear dd vv hxl hwl HWR
            go_loopg [12] O.code.length (fun k vi wr => ∃ i n : Nat, i ≤ O.code.length ∧ k = O.code.length - i ∧ vi = .int .i64 (i : Int) ∧ wr = w10.drewN n)
            case atStart => exact ⟨0, n, by omega, by omega, rfl, rfl⟩
            case round =>
              obtain ⟨i, n, hid, hk, rfl, hwr⟩ := hrel
              obtain ⟨d4, d6, v4, v6⟩ := HD.out n
              rw [← hwr] at d4 d6 v4 v6
              have dd : wr.cell? ⟨xb, 6, none⟩ = some (.slice ca' O.code.length cc') := d6
              have vv : wr.cell? ⟨wb, 6, none⟩ = some (.slice ca O.code.length cc) := v6
              have hxl : xb < wr.heap.size := lt_of_cell dd
              have hwl : wb < wr.heap.size := lt_of_cell vv
              clear d4 d6 v4 v6
              by_cases hlt : i < O.code.length
              · have hlt' : (i : Int) < (O.code.length : Int) := by omega
                obtain ⟨hS1, hS2⟩ := HC.out n
                obtain ⟨g, go, rfl, hgl, hcell⟩ := hS1.at' inC_len (by omega) i hlt
                obtain ⟨g2, go2, rfl, hgl2, hcell2⟩ := hS2.at' inC_len (by omega) i hlt
                rw [← hwr] at hcell hcell2
                have e0 : wr.cell? ⟨g, go + i * 3, none⟩ = some (.int .i64 O.code[i].op) := hcell 0 _ rfl
                have e1 : wr.cell? ⟨g, go + i * 3 + 1, none⟩ = some (.int .i64 O.code[i].a) := hcell 1 _ rfl
                have e2 : wr.cell? ⟨g, go + i * 3 + 2, none⟩ = some (.int .i64 O.code[i].b) := hcell 2 _ rfl
                have d0 : wr.cell? ⟨g2, go2 + i * 3, none⟩ = some (.int .i64 O.code[i].op) := hcell2 0 _ rfl
                have d1 : wr.cell? ⟨g2, go2 + i * 3 + 1, none⟩ = some (.int .i64 O.code[i].a) := hcell2 1 _ rfl
                have d2 : wr.cell? ⟨g2, go2 + i * 3 + 2, none⟩ = some (.int .i64 O.code[i].b) := hcell2 2 _ rfl
                have HWR := Lib.hid hwr
                have hz1 : g < wr.heap.size := lt_of_cell e0
                have hz2 : g2 < wr.heap.size := lt_of_cell d0
                clear hcell hcell2 hwr hS1 hS2 hgl hgl2
                generalize O.code[i] = x at *
                go_wp2_with fail
                go_quiet (fail)
                have HW2 : Hid (wr.drewN nq = w10.drewN (n + nq)) := by show _ = _; rw [HWR.out, World.drewN_drewN]
                go_wp2_with fail
                go_roundg (O.code.length - (i + 1))
                case measure => omega
                case rel => exact ⟨i + 1, n + nq, by omega, rfl, by go_num, HW2.out⟩
              · have hlt' : ¬ (i : Int) < (O.code.length : Int) := by omega
                have HWR := Lib.hid hwr
                clear hwr
                go_wp2_with fail
                go_ret
                exact ⟨rfl, by rw [HWR.out]; exact HFIN.out n⟩
theorem objWrites_post {w : World} (p : Option Addr) (l : Bs) (hobj : p = none ∨ ∃ b o O, p = some ⟨b, o, none⟩ ∧ OA w b o O ∧ ∀ x ∈ O.code, Ob.I64 x.a) (hg : Hnd w) :
    Calls Tryz.prog 3 #[.pointer p, .string (bs l)] w fun e w' => e = .returned (.bool true) ∧ Below w.heap.size w w' := by
  rcases hobj with rfl | ⟨b, o, O, rfl, hO, hI⟩
  · refine objWrites_gen l hg ((small_nil w).mono ?_)
    rintro e w' ⟨rfl, rfl⟩
    exact ⟨Below.refl _ _, true, rfl, fun _ => ⟨_, _, _, _, ask_nil _⟩⟩
  · have hO' := hO
    obtain ⟨sa, ua, va, pa, na, ca, sc, uc, vc, pc, nc, cc, hV⟩ := hO'
    refine objWrites_gen l hg ((small_any hV hI).mono ?_)
    rintro e w' ⟨⟨h1, s, h2, h3⟩, _⟩
    exact ⟨h1, s, h2, fun hs => ask_oa hO (h3 hs)⟩
end Go.Proofs.YtijhpokclpdjpaaGreatDoor
/- ObjWrites: which objects may be, their bytes, and which object any bytes are, is as the document has it: for every object and text the call returns true, and the arguments read as they did. What the row lists of the program: the handle errors.errorType, tied to its text. -/
namespace Go.Proofs.YtijhpokclpdjpaaGreatDoor.objWrites
open Go.ChangeShapes Go.WideShapes Go.ChangeAt Go.RowKit
open Go.ChangeMaps (open_string shut_string)
open Go.Proofs.YtijhpokclpdjpaaGreatDoor

theorem gErr : Tryz.prog.globalNamed "errors.errorType" = some 0 := by kernel_rfl
theorem rtRow : (Tryz.prog.cutTypes.find? (·.1 == "internal/reflectlite.rtype")).map (·.2) = some 162 := by kernel_rfl
theorem oneRow : ((List.range 201).filter fun t => Tryz.prog.rowNamed t [101, 114, 114, 111, 114]) = [28] := by kernel_rfl
theorem sizeRow : Tryz.prog.types.size = 201 := by kernel_rfl
theorem hnd_of {W : World} (h : laidMetH Tryz.prog Rows.objWritesRow.laid W) : Hnd W := by
  have hh := laidMetH_iff.1 h
  have he : handlesMet Tryz.prog [("errors.errorType", Rows.laid_errors_errorType)] W := hh.2
  obtain ⟨name, u, ty, e1, e2, e3, e4, e5⟩ := he _ (List.mem_singleton.2 rfl)
  have en : name = [101, 114, 114, 111, 114] := (Option.some.inj e1).symm
  subst en
  obtain rfl := Option.some.inj (rtRow.symm.trans e2)
  have hmm : ty ∈ (List.range 201).filter fun t => Tryz.prog.rowNamed t [101, 114, 114, 111, 114] := List.mem_filter.2 ⟨List.mem_range.2 (by rw [← sizeRow]; exact e3), e4⟩
  rw [oneRow] at hmm
  obtain rfl := List.mem_singleton.1 hmm
  have hhd : typeHandle Tryz.prog 28 = .pointer (some ⟨1, 28, none⟩) := by kernel_rfl
  rw [hhd] at e5
  have hcell := World.var?_cell gErr e5 0
  unfold Hnd
  simpa using hcell
theorem own : ownKnob Tryz.prog.godebug = none := by kernel_rfl
theorem laidOut : laidOutB Tryz.prog = true := by kernel_rfl
set_option maxRecDepth 100000 in
theorem contract (H : Type) (enc : TypeId × Value → H) (W : World) (base : Nat) (args : Array Value) (ds gs : List (DataW H)) (before : List MemPlace)
    (hval : ∀ (j : Nat) t v, Tryz.f3.params[j]? = some t → args[j]? = some v → Value.okWide Tryz.prog W .any base t v)
    (hW : DataW.Whole enc Tryz.prog Tryz.f3.params.toList Rows.objWritesSpec.vars false W args.toList ds gs before) (hL : laidMetH Tryz.prog Rows.objWritesRow.laid W) :
    Calls Tryz.prog 3 args W fun e W' => ∃ v, e = .returned v ∧ Rows.objWritesSpec.post enc Tryz.prog Tryz.f3 false true false false W args v W' := by
  have hW' := hW
  obtain ⟨p, q, hA0, hV, rfl, hfz, hnd⟩ := hW
  have hA : DataW.TrodAll enc Tryz.prog W 0 (fun _ => true) true Tryz.f3.params.toList args.toList ds p := hA0
  rw [Tryz.params3] at hA hval
  obtain ⟨v0, vs0, d0, ds0, p0, q0, hargs0, rfl, rfl, h0, r0⟩ := trodAll_cons hA
  obtain ⟨v1, vs1, d1, ds1, p1, q1, hargs1, rfl, rfl, h1, r1⟩ := trodAll_cons r0
  obtain ⟨rfl, rfl, rfl⟩ := trodAll_nil r1
  obtain rfl : args = #[v0, v1] := by cases args; simp_all
  obtain ⟨rfl, rfl⟩ := trodVars_none hV
  obtain ⟨s1, rfl, rfl, rfl, hs1⟩ := open_string Tryz.underlying9 (hval 1 9 v1 rfl rfl) h1
  obtain ⟨pt, rfl⟩ := okWide_pointer Tryz.underlying22 (hval 0 22 v0 rfl rfl)
  have h0' := h0
  obtain ⟨fuel, hf⟩ := h0'
  have hf' : DataW.trod enc Tryz.prog W 0 (fun _ => true) true fuel 22 [.pointer pt] = some (d0, p0) := by simpa [Value.cells] using hf
  obtain ⟨pt', hpe, hobj⟩ := open_object hf'
  cases hpe
  clear hA0 hf hf'
  simp only [List.append_nil] at hW'
  have hlt : ∀ x ∈ p0, x.block < W.heap.size := fun x hx => by simpa using hW'.lt x (by simpa using hx)
  have walk := objWrites_post pt s1.data.toList hobj (hnd_of hL)
  rw [bs_data] at walk
  refine walk.mono fun e W' ⟨he, hg⟩ => ?_
  subst he
  exact ⟨_, rfl, _, _, _, [], p0 ++ ([] ++ ([])), [], hW', trodAll_cons_mk (shut_bool Tryz.underlying4 _) trodAll_mk0, trodAll_cons_mk (Below.trod laidOut (by kernel_rfl) (of_decide_eq_true (by kernel_rfl)) h0 hg hlt) (trodAll_cons_mk (shut_string Tryz.underlying9 hs1) trodAll_mk0), rfl, hg.frame _, fun h => by cases h⟩
theorem laid_met (os : Os) : laidMetH Tryz.prog Rows.objWritesRow.laid (({ (World.holding Tryz.prog os ⟨#[], #[], []⟩) with heap := ((World.holding Tryz.prog os ⟨#[], #[], []⟩).heap.modify 0 fun | .cells _ t frozen => .cells #[.iface 162 (.agg #[.pointer (some ⟨1, 28, none⟩)])] t frozen | o => o) } : World).forCall (fun _ _ => 0) ⟨#[], #[.pointer none, .string ⟨#[]⟩], []⟩).memory :=
  laidMetH_of_parts (laidMet_of_run' 8 (by kernel_rfl) (by kernel_rfl)) (by kernel_rfl)
theorem reads (os : Os) {H : Type} (enc : TypeId × Value → H) : ∃ places, DataW.whole enc Tryz.prog (({ (World.holding Tryz.prog os ⟨#[], #[], []⟩) with heap := ((World.holding Tryz.prog os ⟨#[], #[], []⟩).heap.modify 0 fun | .cells _ t frozen => .cells #[.iface 162 (.agg #[.pointer (some ⟨1, 28, none⟩)])] t frozen | o => o) } : World).forCall (fun _ _ => 0) ⟨#[], #[.pointer none, .string ⟨#[]⟩], []⟩).memory Tryz.f3.params.toList Rows.objWritesSpec.vars false #[Value.pointer none, Value.string ⟨#[]⟩].toList 8 = some ([.nil, .lit (.string [])], [], places) :=
  ⟨[], by kernel_rfl⟩
set_option maxRecDepth 100000 in
theorem lifted (os : Os) (started : os.Started) (H : Type) (enc : TypeId × Value → H) (F : Stop.Interp) :
    ReturnsInHanded {} Tryz.checked os 3 .any ((OpenSpec.ofChange Rows.objWritesSpec).preRow enc Tryz.prog Tryz.f3 Rows.objWritesRow.domain false Rows.objWritesRow.laid) (((OpenSpec.ofChange Rows.objWritesSpec).at F).post enc Tryz.prog Tryz.f3 false true false false) := by
  obtain ⟨places, hx⟩ := reads os enc
  refine returnsInHanded_of_row (C := Tryz.checked) (s := OpenSpec.ofChange Rows.objWritesSpec) own started (by kernel_rfl) Tryz.func3
    (witness_row_at (enc := enc) (C := Tryz.checked) false { (World.holding Tryz.prog os ⟨#[], #[], []⟩) with heap := ((World.holding Tryz.prog os ⟨#[], #[], []⟩).heap.modify 0 fun | .cells _ t frozen => .cells #[.iface 162 (.agg #[.pointer (some ⟨1, 28, none⟩)])] t frozen | o => o) } #[.pointer none, .string ⟨#[]⟩] rfl (by kernel_rfl) (by kernel_rfl) (by kernel_rfl)
      (OpenSpec.preRow_of_cond 8 hx (by kernel_rfl) (fun k hk => by cases hk) (by kernel_rfl) (laid_met os))) ?_
  intro W base args ds gs before hval hW _ _ _ hL _ _
  exact contract H enc W base args ds gs before hval hW hL
theorem said : Rows.ObjWritesSaid :=
  OpenClaim.holds_of_cond 3 Tryz.f3 rfl rfl rfl rfl rfl rfl rfl ⟨rfl, rfl, rfl, rfl, rfl⟩ rfl rfl rfl rfl rfl (by kernel_rfl) Tryz.func3 (by kernel_rfl)
    (of_decide_eq_true (by kernel_rfl)) (by unfold Func.isWrapper; first | (rw [if_pos (by decide +kernel)]; kernel_rfl) | (rw [if_neg (by decide +kernel)]; exact ⟨rfl, rfl⟩))
    (fun os started H enc _ F => by rw [OpenClaim.pre_eq_preRow]; exact lifted os started H enc F)
theorem plain (f : FuncId) (fn : Func) (hf : Tryz.pinned.checked.prog.funcNamed "marquetry/marquetrylaw.ObjWrites" = some f) (hfn : Tryz.pinned.checked.prog.funcs[f]? = some fn) :
    true = Tryz.pinned.checked.prog.looks [] ∧ ∀ (j : Nat) t, fn.params[j]? = some t → Tryz.pinned.checked.prog.wantsStandIn t = false := by
  obtain rfl : f = 3 := Option.some.inj ((show Tryz.prog.funcNamed "marquetry/marquetrylaw.ObjWrites" = some 3 by kernel_rfl).symm.trans hf) |>.symm
  obtain rfl : fn = Tryz.f3 := (Option.some.inj (Tryz.func3.symm.trans hfn)).symm
  refine ⟨by kernel_rfl, fun j t ht => ?_⟩
  rw [Tryz.params3] at ht
  have hm : t ∈ [22, 9] := by simpa using Array.mem_of_getElem? ht
  have hall : ([22, 9].all fun u => !Tryz.prog.wantsStandIn u) = true := by kernel_rfl
  exact (show Tryz.prog.wantsStandIn t = false by simpa using List.all_eq_true.1 hall t hm)
end Go.Proofs.YtijhpokclpdjpaaGreatDoor.objWrites
namespace Go.Proofs.YtijhpokclpdjpaaGreatDoor
theorem objWrites_card : Rows.ObjWritesCardSaid :=
  Claim7.holds_tied_plain_at .later [] _ _ _ _ objWrites.said (fun _ h => by cases h) (by kernel_rfl) (fun _ h => by cases h) objWrites_row_tie rfl ⟨rfl, rfl⟩ (by kernel_rfl) rfl objWrites.plain (by kernel_rfl)
end Go.Proofs.YtijhpokclpdjpaaGreatDoor
