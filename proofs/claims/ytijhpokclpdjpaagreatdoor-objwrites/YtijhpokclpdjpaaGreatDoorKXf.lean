import Derived.Test.YtijhpokclpdjpaaGreatDoorKXe
import Derived.Test.YtijhpokclpdjpaaGreatDoorKJf
/- The document's own: Right. -/
namespace Go.Proofs.YtijhpokclpdjpaaGreatDoor
open Go.RowKit
open Ob (Bs)

set_option maxRecDepth 100000 in
set_option maxHeartbeats 8000000 in
theorem rright_ov {w : World} {b o : Nat} {O : Ob.O} {sa ua va pa na ca : Option Addr} {sc uc vc pc nc cc : Nat} (hV : OV w b o O sa ua va pa na ca sc uc vc pc nc cc) (hB : Bd O) :
    Calls Tryz.prog 9 #[.pointer (some ⟨b, o, none⟩)] w fun e w' => e = .returned (.bool (Ob.refB O)) ∧ Below w.heap.size w w' := by
  have hbl := lt_of_cell hV.c0
  have c0 := hV.c0
  have c1 := hV.c1
  have c2 := hV.c2
  have c3 := hV.c3
  have c4 := hV.c4
  have c5 := hV.c5
  have c6 := hV.c6
  have l1 : (O.syms.length : Int) ≤ 1000000 := by have := hB.sl; omega
  have l2 : (O.uses.length : Int) ≤ 1000000 := by have := hB.ul; omega
  have l3 : (O.vars.length : Int) ≤ 1000000 := by have := hB.vl; omega
  have l4 : (O.procs.length : Int) ≤ 1000000 := by have := hB.pl; omega
  have l5 : (O.names.length : Int) ≤ 1000000 := by have := hB.nl; omega
  have l6 : (O.code.length : Int) ≤ 1000000 := by have := hB.cl; omega
  have HI : Hid (∀ W, Calls Tryz.prog 26 #[.int .i64 (O.code.length : Int), .int .i64 1, .int .i64 4000] W fun e w' => e = .returned (.bool (decide (1 ≤ (O.code.length : Int)) && decide ((O.code.length : Int) ≤ 4000))) ∧ w' = W) := fun W => rin_any W _ _ _
  have HN : Hid (∀ W, Calls Tryz.prog 11 #[.string (bs O.name)] W fun e w' => e = .returned (.bool (Ob.nameB O.name)) ∧ w' = W) := fun W => rname_any W _ hB.nm
  have HM : Hid (∀ n, Calls Tryz.prog 27 #[.slice na O.names.length nc] (w.drewN n) fun e w' => e = .returned (.bool (O.names.all Ob.nameB)) ∧ w' = w.drewN n) := fun n => rnamed_any O.names (hV.n.below (below_drewN w n)) hB.nl hB.n
  obtain ⟨R, hR⟩ : ∃ R, Ob.refB O = R := ⟨_, rfl⟩
  obtain ⟨R1, hR1⟩ : ∃ R1, (O.syms.all Ob.rsymB && (O.uses.all (Ob.ruseB O.name) && (O.vars.all Ob.rglB && (O.procs.all (Ob.rentB O.code.length) && Ob.rcB O O.code)))) = R1 := ⟨_, rfl⟩
  have HR : Hid (R = (((decide (1 ≤ (O.code.length : Int)) && decide ((O.code.length : Int) ≤ 4000)) && (Ob.nameB O.name && (O.names.all Ob.nameB && (decide (O.syms.length ≤ 20) && (decide (O.uses.length ≤ 6) && (decide (O.vars.length ≤ 10) && (decide (O.procs.length ≤ 10) && decide (O.names.length = O.procs.length)))))))) && R1)) := by show R = _; rw [← hR, ← hR1]; rfl
  rw [hR]
  have HR1 := Lib.hid hR1
  have HV := Lib.hid hV
  have HBd := Lib.hid hB
  have HC1 : Hid ((decide (1 ≤ (O.code.length : Int)) && decide ((O.code.length : Int) ≤ 4000)) = true → 1 ≤ O.code.length ∧ O.code.length ≤ 4000) := fun h => by simp only [Bool.and_eq_true, decide_eq_true_eq] at h; omega
  clear hV hB hR hR1
  generalize (decide (1 ≤ (O.code.length : Int)) && decide ((O.code.length : Int) ≤ 4000)) = p1 at *
  generalize Ob.nameB O.name = p2 at *
  generalize O.names.all Ob.nameB = p3 at *
  go_enter Tryz.func9, Tryz.ntmps9
  go_wp2_with fail
  refine wp_region_quiet_lit (by kernel_rfl) (by kernel_rfl) ?_
  simp only [List.append_eq, List.cons_append, List.nil_append]
  iterate 9 (go_big_quiet_step (first | (go_at_call 26; exact Calls.quiet_of_same (HI.out _)) | (go_at_call 11; exact Calls.quiet_of_same (HN.out _)) | (go_at_call 27; exact Calls.quiet_of_same (HM.out _))))
  rcases p1 with _ | _
  · skip
    iterate 63 (go_big_quiet_step (first | (go_at_call 26; exact Calls.quiet_of_same (HI.out _)) | (go_at_call 11; exact Calls.quiet_of_same (HN.out _)) | (go_at_call 27; exact Calls.quiet_of_same (HM.out _))))
    refine wpQuiet_nil ?_
    intro _ hw'
    obtain ⟨nq, hw''⟩ := hw'
    subst hw''
    have HF : Hid (R = false) := by rw [HR.out]; exact rfl
    clear HR HC1
    go_wp2_with fail
    go_ret
    exact ⟨by rw [HF.out]; rfl, below_drewN _ _⟩
  · skip
    iterate 8 (go_big_quiet_step (first | (go_at_call 26; exact Calls.quiet_of_same (HI.out _)) | (go_at_call 11; exact Calls.quiet_of_same (HN.out _)) | (go_at_call 27; exact Calls.quiet_of_same (HM.out _))))
    rcases p2 with _ | _
    · skip
      iterate 55 (go_big_quiet_step (first | (go_at_call 26; exact Calls.quiet_of_same (HI.out _)) | (go_at_call 11; exact Calls.quiet_of_same (HN.out _)) | (go_at_call 27; exact Calls.quiet_of_same (HM.out _))))
      refine wpQuiet_nil ?_
      intro _ hw'
      obtain ⟨nq, hw''⟩ := hw'
      subst hw''
      have HF : Hid (R = false) := by rw [HR.out]; exact rfl
      clear HR HC1
      go_wp2_with fail
      go_ret
      exact ⟨by rw [HF.out]; rfl, below_drewN _ _⟩
    · skip
      iterate 8 (go_big_quiet_step (first | (go_at_call 26; exact Calls.quiet_of_same (HI.out _)) | (go_at_call 11; exact Calls.quiet_of_same (HN.out _)) | (go_at_call 27; exact Calls.quiet_of_same (HM.out _))))
      rcases p3 with _ | _
      · skip
        iterate 47 (go_big_quiet_step (first | (go_at_call 26; exact Calls.quiet_of_same (HI.out _)) | (go_at_call 11; exact Calls.quiet_of_same (HN.out _)) | (go_at_call 27; exact Calls.quiet_of_same (HM.out _))))
        refine wpQuiet_nil ?_
        intro _ hw'
        obtain ⟨nq, hw''⟩ := hw'
        subst hw''
        have HF : Hid (R = false) := by rw [HR.out]; exact rfl
        clear HR HC1
        go_wp2_with fail
        go_ret
        exact ⟨by rw [HF.out]; rfl, below_drewN _ _⟩
      · by_cases h4 : (O.syms.length : Int) ≤ 20
        rotate_left
        · have h4n : ¬ O.syms.length ≤ 20 := by omega
          have h4f : Hid (decide (O.syms.length ≤ 20) = false) := decide_eq_false h4n
          have h4g : decide ((20 : Int) < (O.syms.length : Int)) = true := decide_eq_true (by omega)
          clear h4n
          iterate 47 (go_big_quiet_step (first | (go_at_call 26; exact Calls.quiet_of_same (HI.out _)) | (go_at_call 11; exact Calls.quiet_of_same (HN.out _)) | (go_at_call 27; exact Calls.quiet_of_same (HM.out _))))
          refine wpQuiet_nil ?_
          intro _ hw'
          obtain ⟨nq, hw''⟩ := hw'
          subst hw''
          have HF : Hid (R = false) := by show R = false; rw [HR.out, h4f.out]; simp
          clear HR HC1
          go_wp2_with fail
          go_ret
          exact ⟨by rw [HF.out]; rfl, below_drewN _ _⟩
        · have h4g : decide ((20 : Int) < (O.syms.length : Int)) = false := decide_eq_false (by omega)
          iterate 10 (go_big_quiet_step (first | (go_at_call 26; exact Calls.quiet_of_same (HI.out _)) | (go_at_call 11; exact Calls.quiet_of_same (HN.out _)) | (go_at_call 27; exact Calls.quiet_of_same (HM.out _))))
          have h4t : Hid (decide (O.syms.length ≤ 20) = true) := decide_eq_true (p := O.syms.length ≤ 20) (by omega)
          · by_cases h5 : (O.uses.length : Int) ≤ 6
            rotate_left
            · have h5n : ¬ O.uses.length ≤ 6 := by omega
              have h5f : Hid (decide (O.uses.length ≤ 6) = false) := decide_eq_false h5n
              have h5g : decide ((6 : Int) < (O.uses.length : Int)) = true := decide_eq_true (by omega)
              clear h5n
              iterate 37 (go_big_quiet_step (first | (go_at_call 26; exact Calls.quiet_of_same (HI.out _)) | (go_at_call 11; exact Calls.quiet_of_same (HN.out _)) | (go_at_call 27; exact Calls.quiet_of_same (HM.out _))))
              refine wpQuiet_nil ?_
              intro _ hw'
              obtain ⟨nq, hw''⟩ := hw'
              subst hw''
              have HF : Hid (R = false) := by show R = false; rw [HR.out, h5f.out]; simp
              clear HR HC1
              go_wp2_with fail
              go_ret
              exact ⟨by rw [HF.out]; rfl, below_drewN _ _⟩
            · have h5g : decide ((6 : Int) < (O.uses.length : Int)) = false := decide_eq_false (by omega)
              iterate 8 (go_big_quiet_step (first | (go_at_call 26; exact Calls.quiet_of_same (HI.out _)) | (go_at_call 11; exact Calls.quiet_of_same (HN.out _)) | (go_at_call 27; exact Calls.quiet_of_same (HM.out _))))
              have h5t : Hid (decide (O.uses.length ≤ 6) = true) := decide_eq_true (p := O.uses.length ≤ 6) (by omega)
              · by_cases h6 : (O.vars.length : Int) ≤ 10
                rotate_left
                · have h6n : ¬ O.vars.length ≤ 10 := by omega
                  have h6f : Hid (decide (O.vars.length ≤ 10) = false) := decide_eq_false h6n
                  have h6g : decide ((10 : Int) < (O.vars.length : Int)) = true := decide_eq_true (by omega)
                  clear h6n
                  iterate 29 (go_big_quiet_step (first | (go_at_call 26; exact Calls.quiet_of_same (HI.out _)) | (go_at_call 11; exact Calls.quiet_of_same (HN.out _)) | (go_at_call 27; exact Calls.quiet_of_same (HM.out _))))
                  refine wpQuiet_nil ?_
                  intro _ hw'
                  obtain ⟨nq, hw''⟩ := hw'
                  subst hw''
                  have HF : Hid (R = false) := by show R = false; rw [HR.out, h6f.out]; simp
                  clear HR HC1
                  go_wp2_with fail
                  go_ret
                  exact ⟨by rw [HF.out]; rfl, below_drewN _ _⟩
                · have h6g : decide ((10 : Int) < (O.vars.length : Int)) = false := decide_eq_false (by omega)
                  iterate 8 (go_big_quiet_step (first | (go_at_call 26; exact Calls.quiet_of_same (HI.out _)) | (go_at_call 11; exact Calls.quiet_of_same (HN.out _)) | (go_at_call 27; exact Calls.quiet_of_same (HM.out _))))
                  have h6t : Hid (decide (O.vars.length ≤ 10) = true) := decide_eq_true (p := O.vars.length ≤ 10) (by omega)
                  · by_cases h7 : (O.procs.length : Int) ≤ 10
                    rotate_left
                    · have h7n : ¬ O.procs.length ≤ 10 := by omega
                      have h7f : Hid (decide (O.procs.length ≤ 10) = false) := decide_eq_false h7n
                      have h7g : decide ((10 : Int) < (O.procs.length : Int)) = true := decide_eq_true (by omega)
                      clear h7n
                      iterate 21 (go_big_quiet_step (first | (go_at_call 26; exact Calls.quiet_of_same (HI.out _)) | (go_at_call 11; exact Calls.quiet_of_same (HN.out _)) | (go_at_call 27; exact Calls.quiet_of_same (HM.out _))))
                      refine wpQuiet_nil ?_
                      intro _ hw'
                      obtain ⟨nq, hw''⟩ := hw'
                      subst hw''
                      have HF : Hid (R = false) := by show R = false; rw [HR.out, h7f.out]; simp
                      clear HR HC1
                      go_wp2_with fail
                      go_ret
                      exact ⟨by rw [HF.out]; rfl, below_drewN _ _⟩
                    · have h7g : decide ((10 : Int) < (O.procs.length : Int)) = false := decide_eq_false (by omega)
                      iterate 8 (go_big_quiet_step (first | (go_at_call 26; exact Calls.quiet_of_same (HI.out _)) | (go_at_call 11; exact Calls.quiet_of_same (HN.out _)) | (go_at_call 27; exact Calls.quiet_of_same (HM.out _))))
                      have h7t : Hid (decide (O.procs.length ≤ 10) = true) := decide_eq_true (p := O.procs.length ≤ 10) (by omega)
                      · by_cases h8 : O.names.length = O.procs.length
                        rotate_left
                        · have g8 : ((O.names.length : Int) == (O.procs.length : Int)) = false := by rw [beq_eq_false_iff_ne]; omega
                          have h8f : Hid (decide (O.names.length = O.procs.length) = false) := decide_eq_false h8
                          clear h8
                          iterate 13 (go_big_quiet_step (first | (go_at_call 26; exact Calls.quiet_of_same (HI.out _)) | (go_at_call 11; exact Calls.quiet_of_same (HN.out _)) | (go_at_call 27; exact Calls.quiet_of_same (HM.out _))))
                          refine wpQuiet_nil ?_
                          intro _ hw'
                          obtain ⟨nq, hw''⟩ := hw'
                          subst hw''
                          have HF : Hid (R = false) := by show R = false; rw [HR.out, h8f.out]; simp
                          clear HR HC1
                          go_wp2_with fail
                          go_ret
                          exact ⟨by rw [HF.out]; rfl, below_drewN _ _⟩
                        · have g8 : ((O.names.length : Int) == (O.procs.length : Int)) = true := by rw [beq_iff_eq]; omega
                          have h8t : Hid (decide (O.names.length = O.procs.length) = true) := decide_eq_true h8
                          iterate 13 (go_big_quiet_step (first | (go_at_call 26; exact Calls.quiet_of_same (HI.out _)) | (go_at_call 11; exact Calls.quiet_of_same (HN.out _)) | (go_at_call 27; exact Calls.quiet_of_same (HM.out _))))
                          refine wpQuiet_nil ?_
                          intro _ hw'
                          obtain ⟨nq, hw''⟩ := hw'
                          subst hw''
                          have HF : Hid (R = R1) := by rw [HR.out, h4t.out, h5t.out, h6t.out, h7t.out, h8t.out]; exact rfl
                          have HCL := Lib.hid (HC1.out rfl)
                          clear HR HC1 h4t h5t h6t h7t h8t h4g h5g h6g h7g
                          go_upto_region 3 with fail
                          clear g8 h8
                          have HB1 : Hid (Below w.heap.size w (w.drewN nq)) := below_drewN _ _
                          have HK : Hid (∀ W, Below w.heap.size w W → OV W b o O sa ua va pa na ca sc uc vc pc nc cc) := fun W h => HV.out.below h
                          generalize w.drewN nq = w1 at *
                          have HRa : Hid (R = (O.syms.all Ob.rsymB && (O.uses.all (Ob.ruseB O.name) && (O.vars.all Ob.rglB && (O.procs.all (Ob.rentB O.code.length) && Ob.rcB O O.code))))) := by rw [HF.out, ← HR1.out]; exact rfl
                          clear HF HR1 HI HN HM c0 c1 c2 c3 c4 c5 c6 HV
                          have hbl1 : b < w1.heap.size := Nat.lt_of_lt_of_le hbl HB1.out.size
                          obtain ⟨d1, d2, d3, d4, d6⟩ : w1.cell? ⟨b, o + 1, none⟩ = some (.slice sa O.syms.length sc) ∧ w1.cell? ⟨b, o + 2, none⟩ = some (.slice ua O.uses.length uc) ∧ w1.cell? ⟨b, o + 3, none⟩ = some (.slice va O.vars.length vc) ∧ w1.cell? ⟨b, o + 4, none⟩ = some (.slice pa O.procs.length pc) ∧ w1.cell? ⟨b, o + 6, none⟩ = some (.slice ca O.code.length cc) := by have q := HK.out _ HB1.out; exact ⟨q.c1, q.c2, q.c3, q.c4, q.c6⟩
                          go_wp2_with fail
                          clear d1 d2 d3 d4 d6 hbl1
                          go_loopg [91] O.syms.length (fun k vi wr => ∃ i : Nat, i ≤ O.syms.length ∧ k = O.syms.length - i ∧ vi = .int .i64 (i : Int) ∧ Hid (O.syms.all Ob.rsymB = (O.syms.drop i).all Ob.rsymB) ∧ Hid (Below w.heap.size w wr))
                          case atStart => exact ⟨0, by omega, by omega, rfl, rfl, HB1⟩
                          case round =>
                            clear HB1
                            obtain ⟨i, hid, hk, rfl, HG, HBr⟩ := hrel
                            by_cases hlt : i < O.syms.length
                            · have hlt' : (i : Int) < (O.syms.length : Int) := by omega
                              obtain ⟨g, go, rfl, hgl, hcell⟩ := (HK.out _ HBr.out).s.at' smC_len (by omega) i hlt
                              have e0 : wr.cell? ⟨g, go + i * 3, none⟩ = some (.string (bs O.syms[i].name)) := hcell 0 _ rfl
                              have e1 : wr.cell? ⟨g, go + i * 3 + 1, none⟩ = some (.int .i64 O.syms[i].len) := hcell 1 _ rfl
                              have e2 : wr.cell? ⟨g, go + i * 3 + 2, none⟩ = some (.int .i64 O.syms[i].args) := hcell 2 _ rfl
                              have hxn := HBd.out.s _ (List.getElem_mem hlt)
                              have HD : Hid (O.syms.all Ob.rsymB = (Ob.rsymB O.syms[i] && (O.syms.drop (i + 1)).all Ob.rsymB)) := by show _ = _; rw [HG.out, List.drop_eq_getElem_cons hlt, List.all_cons]
                              have HP : Hid (Ob.rsymB O.syms[i] = (Ob.nameB O.syms[i].name && ((decide (-1 ≤ O.syms[i].args) && decide (O.syms[i].args ≤ 10)) && (decide (0 ≤ O.syms[i].len) && decide (O.syms[i].len ≤ (if 0 ≤ O.syms[i].args then 0 else 30)))))) := rfl
                              generalize O.syms[i] = x at *
                              have HFF : Hid (Ob.rsymB x = false → R = false) := fun h => by rw [HRa.out, HD.out, h]; rfl
                              have HTT : Hid (Ob.rsymB x = true → O.syms.all Ob.rsymB = (O.syms.drop (i + 1)).all Ob.rsymB) := fun h => by rw [HD.out, h, Bool.true_and]
                              generalize Ob.rsymB x = px at *
                              obtain ⟨wA, hwA⟩ : ∃ wA, wA = wr.alloc (.cells #[.string (bs x.name), .int .i64 x.len, .int .i64 x.args] 52) := ⟨_, rfl⟩
                              have hblk : wA.heap[wr.heap.size]? = some (.cells #[.string (bs x.name), .int .i64 x.len, .int .i64 x.args] 52 (0, 0)) := by rw [hwA]; exact new_blk _ _
                              have HBA : Hid (Below w.heap.size w wA) := by rw [hwA]; exact HBr.out.alloc HBr.out.size _
                              have a0 : wA.cell? ⟨wr.heap.size, 0, none⟩ = some (.string (bs x.name)) := cell_blk hblk
                              have a1 : wA.cell? ⟨wr.heap.size, 1, none⟩ = some (.int .i64 x.len) := cell_blk hblk
                              have a2 : wA.cell? ⟨wr.heap.size, 2, none⟩ = some (.int .i64 x.args) := cell_blk hblk
                              have hrA : wr.heap.size < wA.heap.size := lt_blk hblk
                              have HN := Lib.hid (rname_any wA x.name hxn)
                              have HI1 := Lib.hid (rin_any wA x.args (-1) 10)
                              have HI2 := Lib.hid (rin_any wA x.len 0 (if 0 ≤ x.args then 0 else 30))
                              clear HG HD hcell hblk hxn
                              generalize Ob.nameB x.name = p1 at *
                              generalize (decide (-1 ≤ x.args) && decide (x.args ≤ 10)) = p2 at *
                              generalize (decide (0 ≤ x.len) && decide (x.len ≤ (if 0 ≤ x.args then 0 else 30))) = p3 at *
                              by_cases harg : 0 ≤ x.args
                              all_goals
                                first | rw [if_pos harg] at HI2 | rw [if_neg harg] at HI2
                                go_upto_region 7 with fail
                                rw [← hwA]
                                clear hwA e0 e1 e2
                                go_wp2_with fail
                                refine HN.out.mono ?_
                                rintro e wq ⟨rfl, rfl⟩
                                cases p1
                                · have HFx := Lib.hid (HFF.out (by rw [HP.out]; rfl))
                                  clear HP HTT HFF
                                  go_wp2_with fail
                                  go_ret
                                  exact ⟨by rw [HFx.out]; rfl, HBA.out⟩
                                · go_wp2_with fail
                                  refine HI1.out.mono ?_
                                  rintro e wq ⟨rfl, rfl⟩
                                  cases p2
                                  · have HFx := Lib.hid (HFF.out (by rw [HP.out]; rfl))
                                    clear HP HTT HFF
                                    go_wp2_with fail
                                    go_ret
                                    exact ⟨by rw [HFx.out]; rfl, HBA.out⟩
                                  · go_wp2_with fail
                                    refine HI2.out.mono ?_
                                    rintro e wq ⟨rfl, rfl⟩
                                    cases p3
                                    · have HFx := Lib.hid (HFF.out (by rw [HP.out]; rfl))
                                      clear HP HTT HFF
                                      go_wp2_with fail
                                      go_ret
                                      exact ⟨by rw [HFx.out]; rfl, HBA.out⟩
                                    · have HG2 := Lib.hid (HTT.out (by rw [HP.out]; rfl))
                                      clear HP HTT HFF
                                      go_wp2_with fail
                                      go_roundg (O.syms.length - (i + 1))
                                      case measure => omega
                                      case rel => exact ⟨i + 1, by omega, rfl, by go_num, HG2, HBA⟩
                            · have hlt' : ¬ (i : Int) < (O.syms.length : Int) := by omega
                              have HRb : Hid (R = (O.uses.all (Ob.ruseB O.name) && (O.vars.all Ob.rglB && (O.procs.all (Ob.rentB O.code.length) && Ob.rcB O O.code)))) := by show R = _; rw [HRa.out, HG.out, List.drop_eq_nil_of_le (by omega)]; rfl
                              clear HRa HG
                              have hblr : b < wr.heap.size := Nat.lt_of_lt_of_le hbl HBr.out.size
                              clear hk
                              obtain ⟨d1, d2, d3, d4, d6⟩ : wr.cell? ⟨b, o + 1, none⟩ = some (.slice sa O.syms.length sc) ∧ wr.cell? ⟨b, o + 2, none⟩ = some (.slice ua O.uses.length uc) ∧ wr.cell? ⟨b, o + 3, none⟩ = some (.slice va O.vars.length vc) ∧ wr.cell? ⟨b, o + 4, none⟩ = some (.slice pa O.procs.length pc) ∧ wr.cell? ⟨b, o + 6, none⟩ = some (.slice ca O.code.length cc) := by have q := HK.out _ HBr.out; exact ⟨q.c1, q.c2, q.c3, q.c4, q.c6⟩
                              go_wp2_with fail
                              clear d1 d2 d3 d4 d6 hblr
                              go_loopg [121] O.uses.length (fun k vi wr => ∃ i : Nat, i ≤ O.uses.length ∧ k = O.uses.length - i ∧ vi = .int .i64 (i : Int) ∧ Hid (O.uses.all (Ob.ruseB O.name) = (O.uses.drop i).all (Ob.ruseB O.name)) ∧ Hid (Below w.heap.size w wr))
                              case atStart => exact ⟨0, by omega, by omega, rfl, rfl, HBr⟩
                              case round =>
                                clear HBr
                                obtain ⟨i, hid, hk, rfl, HG, HBr⟩ := hrel
                                by_cases hlt : i < O.uses.length
                                · have hlt' : (i : Int) < (O.uses.length : Int) := by omega
                                  obtain ⟨ucs, hU1, hU2⟩ := (HK.out _ HBr.out).u
                                  obtain ⟨na', nc', q0, q1, q2, q3⟩ := RepN.get _ _ hU1 i hlt
                                  obtain ⟨a0', c0', hsl0, _, hall⟩ := hU2
                                  cases hsl0
                                  obtain ⟨g, go, rfl, e0⟩ := hall _ _ q0
                                  obtain ⟨g', go', hgg, e1⟩ := hall _ _ q1
                                  cases hgg
                                  obtain ⟨g', go', hgg, e2⟩ := hall _ _ q2
                                  cases hgg
                                  have e1 : wr.cell? ⟨g, go + i * 3 + 1, none⟩ = some (.string (bs O.uses[i].need)) := e1
                                  have e2 : wr.cell? ⟨g, go + i * 3 + 2, none⟩ = some (.slice na' O.uses[i].names.length nc') := e2
                                  have hgl := lt_of_cell e0
                                  obtain ⟨hxn, hxl, hxs⟩ := HBd.out.u _ (List.getElem_mem hlt)
                                  have HD : Hid (O.uses.all (Ob.ruseB O.name) = (Ob.ruseB O.name O.uses[i] && (O.uses.drop (i + 1)).all (Ob.ruseB O.name))) := by show _ = _; rw [HG.out, List.drop_eq_getElem_cons hlt, List.all_cons]
                                  have HP : Hid (Ob.ruseB O.name O.uses[i] = (Ob.nameB O.uses[i].name && (!decide (O.uses[i].name = O.name) && (O.uses[i].names.all Ob.nameB && (decide (O.uses[i].names.length ≤ 100) && decide (O.uses[i].need.length ≤ 4000)))))) := rfl
                                  generalize O.uses[i] = x at *
                                  have HFF : Hid (Ob.ruseB O.name x = false → R = false) := fun h => by rw [HRb.out, HD.out, h]; rfl
                                  have HTT : Hid (Ob.ruseB O.name x = true → O.uses.all (Ob.ruseB O.name) = (O.uses.drop (i + 1)).all (Ob.ruseB O.name)) := fun h => by rw [HD.out, h, Bool.true_and]
                                  generalize Ob.ruseB O.name x = px at *
                                  obtain ⟨wA, hwA⟩ : ∃ wA, wA = wr.alloc (.cells #[.string (bs x.name), .string (bs x.need), .slice na' x.names.length nc'] 56) := ⟨_, rfl⟩
                                  have hblk : wA.heap[wr.heap.size]? = some (.cells #[.string (bs x.name), .string (bs x.need), .slice na' x.names.length nc'] 56 (0, 0)) := by rw [hwA]; exact new_blk _ _
                                  have hbA : Below wr.heap.size wr wA := by rw [hwA]; exact (Below.refl _ _).alloc (Nat.le_refl _) _
                                  have HBA : Hid (Below w.heap.size w wA) := HBr.out.trans (hbA.mono HBr.out.size)
                                  have a0 : wA.cell? ⟨wr.heap.size, 0, none⟩ = some (.string (bs x.name)) := cell_blk hblk
                                  have a1 : wA.cell? ⟨wr.heap.size, 1, none⟩ = some (.string (bs x.need)) := cell_blk hblk
                                  have a2 : wA.cell? ⟨wr.heap.size, 2, none⟩ = some (.slice na' x.names.length nc') := cell_blk hblk
                                  have a3 : wA.cell? ⟨b, o, none⟩ = some (.string (bs O.name)) := (HK.out _ HBA.out).c0
                                  have hrA : wr.heap.size < wA.heap.size := lt_blk hblk
                                  have hbA' : b < wA.heap.size := lt_of_cell a3
                                  have hnl : (x.need.length : Int) ≤ 1000000000000 ∨ True := Or.inr trivial
                                  have hxl' : (x.names.length : Int) ≤ 1000000 := by omega
                                  have hzn := bs_size x.need
                                  have HN : Hid (∀ W, Calls Tryz.prog 11 #[.string (bs x.name)] W fun e w' => e = .returned (.bool (Ob.nameB x.name)) ∧ w' = W) := fun W => rname_any W _ hxn
                                  have HM : Hid (∀ n, Calls Tryz.prog 27 #[.slice na' x.names.length nc'] (wA.drewN n) fun e w' => e = .returned (.bool (x.names.all Ob.nameB)) ∧ w' = wA.drewN n) := fun n => rnamed_any x.names ((q3.below hbA).below (below_drewN wA n)) hxl hxs
                                  have hbq := bs_beq x.name O.name
                                  clear HG HD hblk hxn hxl hxs q0 q1 q2 q3 hU1 hall hbA hnl
                                  generalize Ob.nameB x.name = p1 at *
                                  generalize x.names.all Ob.nameB = p3 at *
                                  go_upto_region 15 with fail
                                  rw [← hwA]
                                  clear hwA e0 e1 e2 hgl
                                  refine wp_region_quiet_lit (by kernel_rfl) (by kernel_rfl) ?_
                                  try simp only [List.append_eq, List.cons_append, List.nil_append]
                                  iterate 3 (go_big_quiet_step (first | (go_at_call 11; exact Calls.quiet_of_same (HN.out _)) | (go_at_call 27; exact Calls.quiet_of_same (HM.out _))))
                                  rcases p1 with _ | _
                                  · clear hbq
                                    iterate 28 (go_big_quiet_step (first | (go_at_call 11; exact Calls.quiet_of_same (HN.out _)) | (go_at_call 27; exact Calls.quiet_of_same (HM.out _))))
                                    refine wpQuiet_nil ?_
                                    intro _ hw'
                                    obtain ⟨nq, hw''⟩ := hw'
                                    subst hw''
                                    have HFx := Lib.hid (HFF.out (by rw [HP.out]; rfl))
                                    clear HP HTT HFF
                                    go_wp2_with fail
                                    go_ret
                                    exact ⟨by rw [HFx.out]; rfl, HBA.out.trans ((below_drewN _ _).mono HBA.out.size)⟩
                                  · by_cases he : x.name = O.name
                                    · have heq : ((bs x.name).toList == (bs O.name).toList) = true := by rw [hbq]; exact decide_eq_true he
                                      have h2 : Hid (decide (x.name = O.name) = true) := decide_eq_true he
                                      clear hbq he
                                      iterate 28 (go_big_quiet_step (first | (go_at_call 11; exact Calls.quiet_of_same (HN.out _)) | (go_at_call 27; exact Calls.quiet_of_same (HM.out _))))
                                      refine wpQuiet_nil ?_
                                      intro _ hw'
                                      obtain ⟨nq, hw''⟩ := hw'
                                      subst hw''
                                      have HFx := Lib.hid (HFF.out (by rw [HP.out, h2.out]; rfl))
                                      clear HP HTT HFF
                                      go_wp2_with fail
                                      go_ret
                                      exact ⟨by rw [HFx.out]; rfl, HBA.out.trans ((below_drewN _ _).mono HBA.out.size)⟩
                                    · have heq : ((bs x.name).toList == (bs O.name).toList) = false := by rw [hbq]; exact decide_eq_false he
                                      have h2 : Hid (decide (x.name = O.name) = false) := decide_eq_false he
                                      clear hbq he
                                      iterate 14 (go_big_quiet_step (first | (go_at_call 11; exact Calls.quiet_of_same (HN.out _)) | (go_at_call 27; exact Calls.quiet_of_same (HM.out _))))
                                      rcases p3 with _ | _
                                      · iterate 14 (go_big_quiet_step (first | (go_at_call 11; exact Calls.quiet_of_same (HN.out _)) | (go_at_call 27; exact Calls.quiet_of_same (HM.out _))))
                                        refine wpQuiet_nil ?_
                                        intro _ hw'
                                        obtain ⟨nq, hw''⟩ := hw'
                                        subst hw''
                                        have HFx := Lib.hid (HFF.out (by rw [HP.out, h2.out]; rfl))
                                        clear HP HTT HFF
                                        go_wp2_with fail
                                        go_ret
                                        exact ⟨by rw [HFx.out]; rfl, HBA.out.trans ((below_drewN _ _).mono HBA.out.size)⟩
                                      · rcases (show ¬ (x.names.length : Int) ≤ 100 ∨ (x.names.length : Int) ≤ 100 by omega) with h4a | h4a
                                        · have h4g : decide ((100 : Int) < (x.names.length : Int)) = true := decide_eq_true (by omega)
                                          have h4 : Hid (decide (x.names.length ≤ 100) = false) := decide_eq_false (p := x.names.length ≤ 100) (by omega)
                                          iterate 14 (go_big_quiet_step (first | (go_at_call 11; exact Calls.quiet_of_same (HN.out _)) | (go_at_call 27; exact Calls.quiet_of_same (HM.out _))))
                                          refine wpQuiet_nil ?_
                                          intro _ hw'
                                          obtain ⟨nq, hw''⟩ := hw'
                                          subst hw''
                                          have HFx := Lib.hid (HFF.out (by rw [HP.out, h2.out, h4.out]; rfl))
                                          clear HP HTT HFF
                                          go_wp2_with fail
                                          go_ret
                                          exact ⟨by rw [HFx.out]; rfl, HBA.out.trans ((below_drewN _ _).mono HBA.out.size)⟩
                                        · have h4g : decide ((100 : Int) < (x.names.length : Int)) = false := decide_eq_false (by omega)
                                          have h4 : Hid (decide (x.names.length ≤ 100) = true) := decide_eq_true (p := x.names.length ≤ 100) (by omega)
                                          rcases (show ¬ (x.need.length : Int) ≤ 4000 ∨ (x.need.length : Int) ≤ 4000 by omega) with h5a | h5a
                                          · have h5g : decide ((4000 : Int) < (x.need.length : Int)) = true := decide_eq_true (by omega)
                                            have h5 : Hid (decide (x.need.length ≤ 4000) = false) := decide_eq_false (p := x.need.length ≤ 4000) (by omega)
                                            iterate 14 (go_big_quiet_step (first | (go_at_call 11; exact Calls.quiet_of_same (HN.out _)) | (go_at_call 27; exact Calls.quiet_of_same (HM.out _))))
                                            refine wpQuiet_nil ?_
                                            intro _ hw'
                                            obtain ⟨nq, hw''⟩ := hw'
                                            subst hw''
                                            have HFx := Lib.hid (HFF.out (by rw [HP.out, h2.out, h4.out, h5.out]; rfl))
                                            clear HP HTT HFF
                                            go_wp2_with fail
                                            go_ret
                                            exact ⟨by rw [HFx.out]; rfl, HBA.out.trans ((below_drewN _ _).mono HBA.out.size)⟩
                                          · have h5g : decide ((4000 : Int) < (x.need.length : Int)) = false := decide_eq_false (by omega)
                                            have h5 : Hid (decide (x.need.length ≤ 4000) = true) := decide_eq_true (p := x.need.length ≤ 4000) (by omega)
                                            iterate 14 (go_big_quiet_step (first | (go_at_call 11; exact Calls.quiet_of_same (HN.out _)) | (go_at_call 27; exact Calls.quiet_of_same (HM.out _))))
                                            refine wpQuiet_nil ?_
                                            intro _ hw'
                                            obtain ⟨nq, hw''⟩ := hw'
                                            subst hw''
                                            have HG2 := Lib.hid (HTT.out (by rw [HP.out, h2.out, h4.out, h5.out]; rfl))
                                            clear HP HTT HFF h2 h4 h5
                                            go_wp2_with fail
                                            go_roundg (O.uses.length - (i + 1))
                                            case measure => omega
                                            case rel => exact ⟨i + 1, by omega, rfl, by go_num, HG2, HBA.out.trans ((below_drewN _ _).mono HBA.out.size)⟩
                                · have hlt' : ¬ (i : Int) < (O.uses.length : Int) := by omega
                                  have HRc : Hid (R = (O.vars.all Ob.rglB && (O.procs.all (Ob.rentB O.code.length) && Ob.rcB O O.code))) := by show R = _; rw [HRb.out, HG.out, List.drop_eq_nil_of_le (by omega)]; rfl
                                  clear HRb HG
                                  have hblr : b < wr.heap.size := Nat.lt_of_lt_of_le hbl HBr.out.size
                                  clear hk
                                  obtain ⟨d1, d2, d3, d4, d6⟩ : wr.cell? ⟨b, o + 1, none⟩ = some (.slice sa O.syms.length sc) ∧ wr.cell? ⟨b, o + 2, none⟩ = some (.slice ua O.uses.length uc) ∧ wr.cell? ⟨b, o + 3, none⟩ = some (.slice va O.vars.length vc) ∧ wr.cell? ⟨b, o + 4, none⟩ = some (.slice pa O.procs.length pc) ∧ wr.cell? ⟨b, o + 6, none⟩ = some (.slice ca O.code.length cc) := by have q := HK.out _ HBr.out; exact ⟨q.c1, q.c2, q.c3, q.c4, q.c6⟩
                                  go_wp2_with fail
                                  clear d1 d2 d3 d4 d6 hblr
                                  go_loopg [162] O.vars.length (fun k vi wr => ∃ i : Nat, i ≤ O.vars.length ∧ k = O.vars.length - i ∧ vi = .int .i64 (i : Int) ∧ Hid (O.vars.all Ob.rglB = (O.vars.drop i).all Ob.rglB) ∧ Hid (Below w.heap.size w wr))
                                  case atStart => exact ⟨0, by omega, by omega, rfl, rfl, HBr⟩
                                  case round =>
                                    clear HBr
                                    obtain ⟨i, hid, hk, rfl, HG, HBr⟩ := hrel
                                    by_cases hlt : i < O.vars.length
                                    · have hlt' : (i : Int) < (O.vars.length : Int) := by omega
                                      obtain ⟨g, go, rfl, hgl, hcell⟩ := (HK.out _ HBr.out).v.at' glC_len (by omega) i hlt
                                      have e0 : wr.cell? ⟨g, go + i * 4, none⟩ = some (.string (bs O.vars[i].name)) := hcell 0 _ rfl
                                      have e1 : wr.cell? ⟨g, go + i * 4 + 1, none⟩ = some (.int .i64 O.vars[i].at') := hcell 1 _ rfl
                                      have e2 : wr.cell? ⟨g, go + i * 4 + 2, none⟩ = some (.int .i64 O.vars[i].len) := hcell 2 _ rfl
                                      have e3 : wr.cell? ⟨g, go + i * 4 + 3, none⟩ = some (.bool O.vars[i].seen) := hcell 3 _ rfl
                                      have hxn := HBd.out.v _ (List.getElem_mem hlt)
                                      have HD : Hid (O.vars.all Ob.rglB = (Ob.rglB O.vars[i] && (O.vars.drop (i + 1)).all Ob.rglB)) := by show _ = _; rw [HG.out, List.drop_eq_getElem_cons hlt, List.all_cons]
                                      have HP : Hid (Ob.rglB O.vars[i] = (Ob.nameB O.vars[i].name && (decide (O.vars[i].at' = 0) && (decide (0 ≤ O.vars[i].len) && decide (O.vars[i].len ≤ 30))))) := rfl
                                      generalize O.vars[i] = x at *
                                      have HFF : Hid (Ob.rglB x = false → R = false) := fun h => by rw [HRc.out, HD.out, h]; rfl
                                      have HTT : Hid (Ob.rglB x = true → O.vars.all Ob.rglB = (O.vars.drop (i + 1)).all Ob.rglB) := fun h => by rw [HD.out, h, Bool.true_and]
                                      generalize Ob.rglB x = px at *
                                      obtain ⟨wA, hwA⟩ : ∃ wA, wA = wr.alloc (.cells #[.string (bs x.name), .int .i64 x.at', .int .i64 x.len, .bool x.seen] 54) := ⟨_, rfl⟩
                                      have hblk : wA.heap[wr.heap.size]? = some (.cells #[.string (bs x.name), .int .i64 x.at', .int .i64 x.len, .bool x.seen] 54 (0, 0)) := by rw [hwA]; exact new_blk _ _
                                      have HBA : Hid (Below w.heap.size w wA) := by rw [hwA]; exact HBr.out.alloc HBr.out.size _
                                      have a0 : wA.cell? ⟨wr.heap.size, 0, none⟩ = some (.string (bs x.name)) := cell_blk hblk
                                      have a1 : wA.cell? ⟨wr.heap.size, 1, none⟩ = some (.int .i64 x.at') := cell_blk hblk
                                      have a2 : wA.cell? ⟨wr.heap.size, 2, none⟩ = some (.int .i64 x.len) := cell_blk hblk
                                      have hrA : wr.heap.size < wA.heap.size := lt_blk hblk
                                      have HN := Lib.hid (rname_any wA x.name hxn)
                                      have HI2 := Lib.hid (rin_any wA x.len 0 30)
                                      clear HG HD hcell hblk hxn
                                      generalize Ob.nameB x.name = p1 at *
                                      generalize (decide (0 ≤ x.len) && decide (x.len ≤ 30)) = p3 at *
                                      go_upto_region 21 with fail
                                      rw [← hwA]
                                      clear hwA e0 e1 e2 e3
                                      go_wp2_with fail
                                      refine HN.out.mono ?_
                                      rintro e wq ⟨rfl, rfl⟩
                                      cases p1
                                      · have HFx := Lib.hid (HFF.out (by rw [HP.out]; rfl))
                                        clear HP HTT HFF
                                        go_wp2_with fail
                                        go_ret
                                        exact ⟨by rw [HFx.out]; rfl, HBA.out⟩
                                      · by_cases hat : x.at' = 0
                                        · have hat1 : (x.at' == 0) = true := by simp [hat]
                                          have h2 : Hid (decide (x.at' = 0) = true) := decide_eq_true hat
                                          have hat2 : (x.at' != 0) = false := by simp [hat]
                                          go_wp2_with fail
                                          refine HI2.out.mono ?_
                                          rintro e wq ⟨rfl, rfl⟩
                                          cases p3
                                          · have HFx := Lib.hid (HFF.out (by rw [HP.out, h2.out]; rfl))
                                            clear HP HTT HFF
                                            go_wp2_with fail
                                            go_ret
                                            exact ⟨by rw [HFx.out]; rfl, HBA.out⟩
                                          · have HG2 := Lib.hid (HTT.out (by rw [HP.out, h2.out]; rfl))
                                            clear HP HTT HFF
                                            go_wp2_with fail
                                            go_roundg (O.vars.length - (i + 1))
                                            case measure => omega
                                            case rel => exact ⟨i + 1, by omega, rfl, by go_num, HG2, HBA⟩
                                        · have hat1 : (x.at' == 0) = false := by simpa using hat
                                          have h2 : Hid (decide (x.at' = 0) = false) := decide_eq_false hat
                                          have HFx := Lib.hid (HFF.out (by rw [HP.out, h2.out]; rfl))
                                          have hat2 : (x.at' != 0) = true := by simpa using hat
                                          clear HP HTT HFF
                                          go_wp2_with fail
                                          go_ret
                                          exact ⟨by rw [HFx.out]; rfl, HBA.out⟩
                                    · have hlt' : ¬ (i : Int) < (O.vars.length : Int) := by omega
                                      have HRd : Hid (R = (O.procs.all (Ob.rentB O.code.length) && Ob.rcB O O.code)) := by show R = _; rw [HRc.out, HG.out, List.drop_eq_nil_of_le (by omega)]; rfl
                                      clear HRc HG
                                      have hblr : b < wr.heap.size := Nat.lt_of_lt_of_le hbl HBr.out.size
                                      clear hk
                                      obtain ⟨d1, d2, d3, d4, d6⟩ : wr.cell? ⟨b, o + 1, none⟩ = some (.slice sa O.syms.length sc) ∧ wr.cell? ⟨b, o + 2, none⟩ = some (.slice ua O.uses.length uc) ∧ wr.cell? ⟨b, o + 3, none⟩ = some (.slice va O.vars.length vc) ∧ wr.cell? ⟨b, o + 4, none⟩ = some (.slice pa O.procs.length pc) ∧ wr.cell? ⟨b, o + 6, none⟩ = some (.slice ca O.code.length cc) := by have q := HK.out _ HBr.out; exact ⟨q.c1, q.c2, q.c3, q.c4, q.c6⟩
                                      go_wp2_with fail
                                      clear d1 d2 d3 d4 d6 hblr
                                      go_loopg [187] O.procs.length (fun k vi wr => ∃ i : Nat, i ≤ O.procs.length ∧ k = O.procs.length - i ∧ vi = .int .i64 (i : Int) ∧ Hid (O.procs.all (Ob.rentB O.code.length) = (O.procs.drop i).all (Ob.rentB O.code.length)) ∧ Hid (Below w.heap.size w wr))
                                      case atStart => exact ⟨0, by omega, by omega, rfl, rfl, HBr⟩
                                      case round =>
                                        clear HBr
                                        obtain ⟨i, hid, hk, rfl, HG, HBr⟩ := hrel
                                        by_cases hlt : i < O.procs.length
                                        · have hlt' : (i : Int) < (O.procs.length : Int) := by omega
                                          obtain ⟨g, go, rfl, hgl, hcell⟩ := (HK.out _ HBr.out).p.at' enC_len (by omega) i hlt
                                          have e0 : wr.cell? ⟨g, go + i * 3, none⟩ = some (.int .i64 O.procs[i].at') := hcell 0 _ rfl
                                          have e1 : wr.cell? ⟨g, go + i * 3 + 1, none⟩ = some (.int .i64 O.procs[i].args) := hcell 1 _ rfl
                                          have e2 : wr.cell? ⟨g, go + i * 3 + 2, none⟩ = some (.int .i64 O.procs[i].locals) := hcell 2 _ rfl
                                          have HD : Hid (O.procs.all (Ob.rentB O.code.length) = (Ob.rentB O.code.length O.procs[i] && (O.procs.drop (i + 1)).all (Ob.rentB O.code.length))) := by show _ = _; rw [HG.out, List.drop_eq_getElem_cons hlt, List.all_cons]
                                          have HP : Hid (Ob.rentB O.code.length O.procs[i] = ((decide (0 ≤ O.procs[i].at') && decide (O.procs[i].at' ≤ (O.code.length : Int) - 1)) && ((decide (0 ≤ O.procs[i].args) && decide (O.procs[i].args ≤ 10)) && (decide (O.procs[i].args ≤ O.procs[i].locals) && decide (O.procs[i].locals ≤ 10))))) := rfl
                                          generalize O.procs[i] = x at *
                                          have HFF : Hid (Ob.rentB O.code.length x = false → R = false) := fun h => by rw [HRd.out, HD.out, h]; rfl
                                          have HTT : Hid (Ob.rentB O.code.length x = true → O.procs.all (Ob.rentB O.code.length) = (O.procs.drop (i + 1)).all (Ob.rentB O.code.length)) := fun h => by rw [HD.out, h, Bool.true_and]
                                          generalize Ob.rentB O.code.length x = px at *
                                          obtain ⟨wA, hwA⟩ : ∃ wA, wA = wr.alloc (.cells #[.int .i64 x.at', .int .i64 x.args, .int .i64 x.locals] 47) := ⟨_, rfl⟩
                                          have hblk : wA.heap[wr.heap.size]? = some (.cells #[.int .i64 x.at', .int .i64 x.args, .int .i64 x.locals] 47 (0, 0)) := by rw [hwA]; exact new_blk _ _
                                          have HBA : Hid (Below w.heap.size w wA) := by rw [hwA]; exact HBr.out.alloc HBr.out.size _
                                          have a0 : wA.cell? ⟨wr.heap.size, 0, none⟩ = some (.int .i64 x.at') := cell_blk hblk
                                          have a1 : wA.cell? ⟨wr.heap.size, 1, none⟩ = some (.int .i64 x.args) := cell_blk hblk
                                          have a2 : wA.cell? ⟨wr.heap.size, 2, none⟩ = some (.int .i64 x.locals) := cell_blk hblk
                                          have a6 : wA.cell? ⟨b, o + 6, none⟩ = some (.slice ca O.code.length cc) := (HK.out _ HBA.out).c6
                                          have hrA : wr.heap.size < wA.heap.size := lt_blk hblk
                                          have hbA' : b < wA.heap.size := lt_of_cell a6
                                          have HI1 : Hid (∀ W, Calls Tryz.prog 26 #[.int .i64 x.at', .int .i64 0, .int .i64 ((O.code.length : Int) - 1)] W fun e w' => e = .returned (.bool (decide (0 ≤ x.at') && decide (x.at' ≤ (O.code.length : Int) - 1))) ∧ w' = W) := fun W => rin_any W _ _ _
                                          have HI2 : Hid (∀ W, Calls Tryz.prog 26 #[.int .i64 x.args, .int .i64 0, .int .i64 10] W fun e w' => e = .returned (.bool (decide (0 ≤ x.args) && decide (x.args ≤ 10))) ∧ w' = W) := fun W => rin_any W _ _ _
                                          have HI3 : Hid (∀ W, Calls Tryz.prog 26 #[.int .i64 x.locals, .int .i64 x.args, .int .i64 10] W fun e w' => e = .returned (.bool (decide (x.args ≤ x.locals) && decide (x.locals ≤ 10))) ∧ w' = W) := fun W => rin_any W _ _ _
                                          clear HG HD hcell hblk
                                          generalize (decide (0 ≤ x.at') && decide (x.at' ≤ (O.code.length : Int) - 1)) = p1 at *
                                          generalize (decide (0 ≤ x.args) && decide (x.args ≤ 10)) = p2 at *
                                          generalize (decide (x.args ≤ x.locals) && decide (x.locals ≤ 10)) = p3 at *
                                          go_upto_region 27 with fail
                                          rw [← hwA]
                                          clear hwA e0 e1 e2
                                          refine wp_region_quiet_lit (by kernel_rfl) (by kernel_rfl) ?_
                                          try simp only [List.append_eq, List.cons_append, List.nil_append]
                                          iterate 9 (go_big_quiet_step ((go_at_call 26; exact Calls.quiet_of_same (HI1.out _))))
                                          rcases p1 with _ | _
                                          · iterate 15 (go_big_quiet_step ((go_at_call 26; exact Calls.quiet_of_same (HI2.out _))))
                                            refine wpQuiet_nil ?_
                                            intro _ hw'
                                            obtain ⟨nq, hw''⟩ := hw'
                                            subst hw''
                                            have HFx := Lib.hid (HFF.out (by rw [HP.out]; rfl))
                                            clear HP HTT HFF
                                            go_wp2_with fail
                                            go_ret
                                            exact ⟨by rw [HFx.out]; rfl, HBA.out.trans ((below_drewN _ _).mono HBA.out.size)⟩
                                          · iterate 5 (go_big_quiet_step ((go_at_call 26; exact Calls.quiet_of_same (HI2.out _))))
                                            rcases p2 with _ | _
                                            · iterate 10 (go_big_quiet_step ((go_at_call 26; exact Calls.quiet_of_same (HI3.out _))))
                                              refine wpQuiet_nil ?_
                                              intro _ hw'
                                              obtain ⟨nq, hw''⟩ := hw'
                                              subst hw''
                                              have HFx := Lib.hid (HFF.out (by rw [HP.out]; rfl))
                                              clear HP HTT HFF
                                              go_wp2_with fail
                                              go_ret
                                              exact ⟨by rw [HFx.out]; rfl, HBA.out.trans ((below_drewN _ _).mono HBA.out.size)⟩
                                            · iterate 8 (go_big_quiet_step ((go_at_call 26; exact Calls.quiet_of_same (HI3.out _))))
                                              rcases p3 with _ | _
                                              · iterate 2 (go_big_quiet_step ((go_at_call 26; exact Calls.quiet_of_same (HI3.out _))))
                                                refine wpQuiet_nil ?_
                                                intro _ hw'
                                                obtain ⟨nq, hw''⟩ := hw'
                                                subst hw''
                                                have HFx := Lib.hid (HFF.out (by rw [HP.out]; rfl))
                                                clear HP HTT HFF
                                                go_wp2_with fail
                                                go_ret
                                                exact ⟨by rw [HFx.out]; rfl, HBA.out.trans ((below_drewN _ _).mono HBA.out.size)⟩
                                              · iterate 2 (go_big_quiet_step ((go_at_call 26; exact Calls.quiet_of_same (HI3.out _))))
                                                refine wpQuiet_nil ?_
                                                intro _ hw'
                                                obtain ⟨nq, hw''⟩ := hw'
                                                subst hw''
                                                have HG2 := Lib.hid (HTT.out (by rw [HP.out]; rfl))
                                                clear HP HTT HFF
                                                go_wp2_with fail
                                                go_roundg (O.procs.length - (i + 1))
                                                case measure => omega
                                                case rel => exact ⟨i + 1, by omega, rfl, by go_num, HG2, HBA.out.trans ((below_drewN _ _).mono HBA.out.size)⟩
                                        · have hlt' : ¬ (i : Int) < (O.procs.length : Int) := by omega
                                          have HRe : Hid (R = Ob.rcB O O.code) := by show R = _; rw [HRd.out, HG.out, List.drop_eq_nil_of_le (by omega)]; rfl
                                          clear HRd HG
                                          have hblr : b < wr.heap.size := Nat.lt_of_lt_of_le hbl HBr.out.size
                                          clear hk
                                          obtain ⟨d1, d2, d3, d4, d6⟩ : wr.cell? ⟨b, o + 1, none⟩ = some (.slice sa O.syms.length sc) ∧ wr.cell? ⟨b, o + 2, none⟩ = some (.slice ua O.uses.length uc) ∧ wr.cell? ⟨b, o + 3, none⟩ = some (.slice va O.vars.length vc) ∧ wr.cell? ⟨b, o + 4, none⟩ = some (.slice pa O.procs.length pc) ∧ wr.cell? ⟨b, o + 6, none⟩ = some (.slice ca O.code.length cc) := by have q := HK.out _ HBr.out; exact ⟨q.c1, q.c2, q.c3, q.c4, q.c6⟩
                                          go_wp2_with fail
                                          clear d1 d2 d3 d4 d6 hblr
                                          go_loopg [221] O.code.length (fun k vi wr => ∃ i : Nat, i ≤ O.code.length ∧ k = O.code.length - i ∧ vi = .int .i64 (i : Int) ∧ Hid (Ob.rcB O O.code = Ob.rcB O (O.code.drop i)) ∧ Hid (Below w.heap.size w wr))
                                          case atStart => exact ⟨0, by omega, by omega, rfl, rfl, HBr⟩
                                          case round =>
                                            clear HBr
                                            obtain ⟨i, hid, hk, rfl, HG, HBr⟩ := hrel
                                            by_cases hlt : i < O.code.length
                                            · have hlt' : (i : Int) < (O.code.length : Int) := by omega
                                              obtain ⟨g, go, rfl, hgl, hcell⟩ := (HK.out _ HBr.out).c.at' inC_len (by omega) i hlt
                                              have e0 : wr.cell? ⟨g, go + i * 3, none⟩ = some (.int .i64 O.code[i].op) := hcell 0 _ rfl
                                              have e1 : wr.cell? ⟨g, go + i * 3 + 1, none⟩ = some (.int .i64 O.code[i].a) := hcell 1 _ rfl
                                              have e2 : wr.cell? ⟨g, go + i * 3 + 2, none⟩ = some (.int .i64 O.code[i].b) := hcell 2 _ rfl
                                              have HP : Hid (Ob.rcB O O.code = (Ob.instB O O.code[i] && ((!(O.code.drop (i + 1)).isEmpty || Ob.rlastB O.code[i]) && Ob.rcB O (O.code.drop (i + 1))))) := by show _ = _; rw [HG.out, List.drop_eq_getElem_cons hlt]; rfl
                                              have HE : Hid ((O.code.drop (i + 1)).isEmpty = decide (i + 1 = O.code.length)) := by
                                                show _ = _
                                                rw [Bool.eq_iff_iff, List.isEmpty_iff, decide_eq_true_eq, List.drop_eq_nil_iff]
                                                omega
                                              have HL : Hid (Ob.rlastB O.code[i] = (decide (O.code[i].op = 12) || (decide (O.code[i].op = 15) || decide (O.code[i].op = 17)))) := rfl
                                              generalize O.code[i] = x at *
                                              obtain ⟨wA, hwA⟩ : ∃ wA, wA = wr.alloc (.cells #[.int .i64 x.op, .int .i64 x.a, .int .i64 x.b] 49) := ⟨_, rfl⟩
                                              have hblk : wA.heap[wr.heap.size]? = some (.cells #[.int .i64 x.op, .int .i64 x.a, .int .i64 x.b] 49 (0, 0)) := by rw [hwA]; exact new_blk _ _
                                              have HBA : Hid (Below w.heap.size w wA) := by rw [hwA]; exact HBr.out.alloc HBr.out.size _
                                              have a0 : wA.cell? ⟨wr.heap.size, 0, none⟩ = some (.int .i64 x.op) := cell_blk hblk
                                              have a1 : wA.cell? ⟨wr.heap.size, 1, none⟩ = some (.int .i64 x.a) := cell_blk hblk
                                              have a2 : wA.cell? ⟨wr.heap.size, 2, none⟩ = some (.int .i64 x.b) := cell_blk hblk
                                              have hrA : wr.heap.size < wA.heap.size := lt_blk hblk
                                              have HCI := Lib.hid (rinst_any (HK.out _ HBA.out) HBd.out.ul x)
                                              generalize Ob.instB O x = p1 at *
                                              clear HG hcell hblk
                                              go_upto_region 33 with fail
                                              rw [← hwA]
                                              clear hwA e0 e1 e2
                                              go_wp2_with fail
                                              refine HCI.out.mono ?_
                                              rintro e wC ⟨rfl, hbC⟩
                                              have HBC : Hid (Below w.heap.size w wC) := HBA.out.trans (hbC.mono HBA.out.size)
                                              have b0 : wC.cell? ⟨wr.heap.size, 0, none⟩ = some (.int .i64 x.op) := (hbC.cell (p := ⟨wr.heap.size, 0, none⟩) hrA).trans a0
                                              have a6 : wC.cell? ⟨b, o + 6, none⟩ = some (.slice (some ⟨g, go, none⟩) O.code.length cc) := (HK.out _ HBC.out).c6
                                              have hrC : wr.heap.size < wC.heap.size := lt_of_cell b0
                                              have hbC' : b < wC.heap.size := lt_of_cell a6
                                              clear hbC a0 a1 a2 HCI
                                              cases p1
                                              · have HFx : Hid (R = false) := by rw [HRe.out, HP.out]; exact rfl
                                                clear HP HE HL
                                                go_wp2_with fail
                                                go_ret
                                                exact ⟨by rw [HFx.out]; rfl, HBC.out⟩
                                              · by_cases hl : i + 1 = O.code.length
                                                · have hl1 : ((i : Int) == (O.code.length : Int) - 1) = true := by rw [beq_iff_eq]; omega
                                                  have hP2 : Hid (Ob.rcB O O.code = (Ob.rlastB x && Ob.rcB O (O.code.drop (i + 1)))) := by show _ = _; rw [HP.out, HE.out, decide_eq_true hl]; rfl
                                                  have HLL := Lib.hid hl
                                                  clear HP HE hl
                                                  by_cases h12 : x.op = 12
                                                  · have g12 : (x.op == 12) = true := by simp [h12]
                                                    have f12 : (x.op != 12) = false := by simp [h12]
                                                    have HG2 : Hid (Ob.rcB O O.code = Ob.rcB O (O.code.drop (i + 1))) := by show _ = _; rw [hP2.out, HL.out, decide_eq_true h12]; rfl
                                                    clear hP2 HL
                                                    go_wp2_with fail
                                                    go_roundg (O.code.length - (i + 1))
                                                    case measure => omega
                                                    case rel => exact ⟨i + 1, by omega, rfl, by go_num, HG2, HBC⟩
                                                  · have g12 : (x.op == 12) = false := by simpa using h12
                                                    have f12 : (x.op != 12) = true := by simpa using h12
                                                    have j12 : Hid (decide (x.op = 12) = false) := decide_eq_false h12
                                                    by_cases h15 : x.op = 15
                                                    · have g15 : (x.op == 15) = true := by simp [h15]
                                                      have f15 : (x.op != 15) = false := by simp [h15]
                                                      have HG2 : Hid (Ob.rcB O O.code = Ob.rcB O (O.code.drop (i + 1))) := by show _ = _; rw [hP2.out, HL.out, j12.out, decide_eq_true h15]; rfl
                                                      clear hP2 HL
                                                      go_wp2_with fail
                                                      go_roundg (O.code.length - (i + 1))
                                                      case measure => omega
                                                      case rel => exact ⟨i + 1, by omega, rfl, by go_num, HG2, HBC⟩
                                                    · have g15 : (x.op == 15) = false := by simpa using h15
                                                      have f15 : (x.op != 15) = true := by simpa using h15
                                                      have j15 : Hid (decide (x.op = 15) = false) := decide_eq_false h15
                                                      by_cases h17 : x.op = 17
                                                      · have g17 : (x.op == 17) = true := by simp [h17]
                                                        have f17 : (x.op != 17) = false := by simp [h17]
                                                        have HG2 : Hid (Ob.rcB O O.code = Ob.rcB O (O.code.drop (i + 1))) := by show _ = _; rw [hP2.out, HL.out, j12.out, j15.out, decide_eq_true h17]; rfl
                                                        clear hP2 HL
                                                        go_wp2_with fail
                                                        go_roundg (O.code.length - (i + 1))
                                                        case measure => omega
                                                        case rel => exact ⟨i + 1, by omega, rfl, by go_num, HG2, HBC⟩
                                                      · have g17 : (x.op == 17) = false := by simpa using h17
                                                        have f17 : (x.op != 17) = true := by simpa using h17
                                                        have HFx : Hid (R = false) := by show R = false; rw [HRe.out, hP2.out, HL.out, j12.out, j15.out, decide_eq_false h17]; rfl
                                                        clear hP2 HL
                                                        go_wp2_with fail
                                                        go_ret
                                                        exact ⟨by rw [HFx.out]; rfl, HBC.out⟩
                                                · have hl1 : ((i : Int) == (O.code.length : Int) - 1) = false := by rw [beq_eq_false_iff_ne]; omega
                                                  have HG2 : Hid (Ob.rcB O O.code = Ob.rcB O (O.code.drop (i + 1))) := by show _ = _; rw [HP.out, HE.out, decide_eq_false hl]; rfl
                                                  clear HP HE HL hl
                                                  go_wp2_with fail
                                                  go_roundg (O.code.length - (i + 1))
                                                  case measure => omega
                                                  case rel => exact ⟨i + 1, by omega, rfl, by go_num, HG2, HBC⟩
                                            · have hlt' : ¬ (i : Int) < (O.code.length : Int) := by omega
                                              have HFx : Hid (R = true) := by show R = true; rw [HRe.out, HG.out, List.drop_eq_nil_of_le (by omega)]; rfl
                                              clear HRe HG
                                              go_wp2_with fail
                                              go_ret
                                              exact ⟨by rw [HFx.out]; rfl, HBr.out⟩
end Go.Proofs.YtijhpokclpdjpaaGreatDoor
