/- Right, Write. -/
import Derived.Test.YtljnddcddclmeaaJ29
import Derived.Lib.ConvBytes
namespace Go.Proofs.Ytljnddcddclmeaa
open Go.RowKit
open Ob (Bs)

set_option maxRecDepth 100000 in
set_option maxHeartbeats 1000000 in
theorem right_r {w : World} {b o : Nat} {O : Ob.O} {sa ua va pa na ca : Option Addr} {sc uc vc pc nc cc : Nat} (hV : OV w b o O sa ua va pa na ca sc uc vc pc nc cc) (hB : Bd O) :
    Calls Try.prog 9 #[.pointer (some ⟨b, o, none⟩)] w fun e w' => e = .returned (.bool (Ob.rightB O)) ∧ Below w.heap.size w w' := by
  have HC1 : Hid (∀ W, Below w.heap.size w W → Calls Try.prog 26 #[.pointer (some ⟨b, o, none⟩)] W fun e w' => e = .returned (.bool (Ob.headB O)) ∧ Below W.heap.size W w') := fun W hW => head_r (hV.below hW) hB
  have HC2 : Hid (∀ W, Below w.heap.size w W → Calls Try.prog 27 #[.pointer (some ⟨b, o, none⟩)] W fun e w' => e = .returned (.bool (Ob.procsB O)) ∧ Below W.heap.size W w') := fun W hW => procs_r (hV.below hW) hB
  have HC3 : Hid (∀ W, Below w.heap.size w W → Calls Try.prog 28 #[.pointer (some ⟨b, o, none⟩)] W fun e w' => e = .returned (.bool (Ob.codeB O)) ∧ Below W.heap.size W w') := fun W hW => code_r (hV.below hW) hB
  have HR : Hid (Ob.rightB O = (Ob.headB O && (Ob.procsB O && Ob.codeB O))) := rfl
  generalize Ob.rightB O = r at *
  generalize Ob.headB O = b1 at *
  generalize Ob.procsB O = b2 at *
  generalize Ob.codeB O = b3 at *
  clear hV hB
  have HB0 : Hid (Below w.heap.size w w) := Below.refl _ _
  cases b1 with
  | false =>
    have HV : Hid (r = false) := by
      show _ = _
      rw [HR.out]
      simp [*]
    clear HR
    go_enter Try.func9, Try.ntmps9
    go_wp2_with fail
    refine (HC1.out _ HB0.out).mono ?_
    rintro e wq0 ⟨rfl, hq0⟩
    have HB1 := Lib.hid (HB0.out.trans (hq0.mono HB0.out.size))
    clear hq0
    go_wp2_with fail
    go_ret
    exact ⟨by rw [HV.out]; rfl, HB1.out⟩
  | true =>
    cases b2 with
    | false =>
      have HV : Hid (r = false) := by
        show _ = _
        rw [HR.out]
        simp [*]
      clear HR
      go_enter Try.func9, Try.ntmps9
      go_wp2_with fail
      refine (HC1.out _ HB0.out).mono ?_
      rintro e wq0 ⟨rfl, hq0⟩
      have HB1 := Lib.hid (HB0.out.trans (hq0.mono HB0.out.size))
      clear hq0
      go_wp2_with fail
      refine (HC2.out _ HB1.out).mono ?_
      rintro e wq1 ⟨rfl, hq1⟩
      have HB2 := Lib.hid (HB1.out.trans (hq1.mono HB1.out.size))
      clear hq1
      go_wp2_with fail
      go_ret
      exact ⟨by rw [HV.out]; rfl, HB2.out⟩
    | true =>
      cases b3 with
      | false =>
        have HV : Hid (r = false) := by
          show _ = _
          rw [HR.out]
          simp [*]
        clear HR
        go_enter Try.func9, Try.ntmps9
        go_wp2_with fail
        refine (HC1.out _ HB0.out).mono ?_
        rintro e wq0 ⟨rfl, hq0⟩
        have HB1 := Lib.hid (HB0.out.trans (hq0.mono HB0.out.size))
        clear hq0
        go_wp2_with fail
        refine (HC2.out _ HB1.out).mono ?_
        rintro e wq1 ⟨rfl, hq1⟩
        have HB2 := Lib.hid (HB1.out.trans (hq1.mono HB1.out.size))
        clear hq1
        go_wp2_with fail
        refine (HC3.out _ HB2.out).mono ?_
        rintro e wq2 ⟨rfl, hq2⟩
        have HB3 := Lib.hid (HB2.out.trans (hq2.mono HB2.out.size))
        clear hq2
        go_wp2_with fail
        go_ret
        exact ⟨by rw [HV.out]; rfl, HB3.out⟩
      | true =>
        have HV : Hid (r = true) := by
          show _ = _
          rw [HR.out]
          simp [*]
        clear HR
        go_enter Try.func9, Try.ntmps9
        go_wp2_with fail
        refine (HC1.out _ HB0.out).mono ?_
        rintro e wq0 ⟨rfl, hq0⟩
        have HB1 := Lib.hid (HB0.out.trans (hq0.mono HB0.out.size))
        clear hq0
        go_wp2_with fail
        refine (HC2.out _ HB1.out).mono ?_
        rintro e wq1 ⟨rfl, hq1⟩
        have HB2 := Lib.hid (HB1.out.trans (hq1.mono HB1.out.size))
        clear hq1
        go_wp2_with fail
        refine (HC3.out _ HB2.out).mono ?_
        rintro e wq2 ⟨rfl, hq2⟩
        have HB3 := Lib.hid (HB2.out.trans (hq2.mono HB2.out.size))
        clear hq2
        go_wp2_with fail
        go_ret
        exact ⟨by rw [HV.out]; rfl, HB3.out⟩
theorem right_oa {w : World} {b o : Nat} {O : Ob.O} (h : OA w b o O) (hB : Bd O) : Calls Try.prog 9 #[.pointer (some ⟨b, o, none⟩)] w fun e w' => e = .returned (.bool (Ob.rightB O)) ∧ Below w.heap.size w w' := by
  obtain ⟨sa, ua, va, pa, na, ca, sc, uc, vc, pc, nc, cc, h⟩ := h
  exact right_r h hB
set_option maxRecDepth 100000 in
set_option maxHeartbeats 400000 in
theorem right_nil (w : World) : Calls Try.prog 9 #[.pointer none] w fun e w' => e = .returned (.bool false) ∧ Below w.heap.size w w' := by
  go_enter Try.func9, Try.ntmps9
  go_wp2_with fail
  go_ret
  exact ⟨rfl, Below.refl _ _⟩
theorem right_rb {O : Ob.O} (h : Ob.rightB O = true) (hc : ∀ x ∈ O.code, Ob.I64 x.a) : RB O := by
  unfold Ob.rightB at h
  simp only [Bool.and_eq_true] at h
  obtain ⟨h1, h2, h3⟩ := h
  unfold Ob.headB at h1
  simp only [Bool.and_eq_true] at h1
  obtain ⟨n1, s1, u1, v1⟩ := h1
  unfold Ob.procsB at h2
  simp only [Bool.and_eq_true, decide_eq_true_eq] at h2
  obtain ⟨p1, e1, m1⟩ := h2
  unfold Ob.codeB at h3
  simp only [Bool.and_eq_true] at h3
  obtain ⟨c1, _⟩ := h3
  obtain ⟨sl, s⟩ := Ob.allB_le s1
  obtain ⟨ul, u⟩ := Ob.allB_le u1
  obtain ⟨vl, v⟩ := Ob.allB_le v1
  obtain ⟨pl, p⟩ := Ob.allB_le p1
  obtain ⟨nl, n⟩ := Ob.allB_le m1
  obtain ⟨cl, c⟩ := Ob.allB_le c1
  refine ⟨Ob.nameB_len n1, sl, fun x hx => ?_, ul, fun x hx => ?_, vl, fun x hx => ?_, pl, fun x hx => ?_, nl, fun x hx => Ob.nameB_len (n x hx), by omega, cl, fun x hx => Ob.instB_rng ul (hc x hx) (c x hx)⟩
  · have := s x hx
    unfold Ob.symB at this
    simp only [Bool.and_eq_true, decide_eq_true_eq, Ob.lenB] at this
    exact ⟨Ob.nameB_len this.1, by unfold Ob.I64; omega, by unfold Ob.I64; omega⟩
  · have := u x hx
    unfold Ob.otherB Ob.useB at this
    simp only [Bool.and_eq_true, decide_eq_true_eq] at this
    obtain ⟨_, q1, q2, q3⟩ := this
    obtain ⟨nl', n'⟩ := Ob.allB_le q3
    exact ⟨Ob.nameB_len q1, q2, nl', fun y hy => Ob.nameB_len (n' y hy)⟩
  · have := v x hx
    unfold Ob.varB at this
    simp only [Bool.and_eq_true, decide_eq_true_eq, Ob.lenB] at this
    exact ⟨Ob.nameB_len this.1, this.2.1, by unfold Ob.I64; omega⟩
  · have := p x hx
    unfold Ob.entB at this
    simp only [Bool.and_eq_true, decide_eq_true_eq, Ob.countsB] at this
    exact ⟨by unfold Ob.I64; omega, by unfold Ob.I64; omega, by unfold Ob.I64; omega⟩
theorem bytes_str {w : World} {B : Nat} {v : Value} {l : Bs} (h : w.ownsRow B 5 1 v l.length (u8s l)) (hl : l ≠ []) : (convert 65 9 v).run Try.prog w = .ok (.string (bs l)) w := by
  rcases h.2 with ⟨rfl, h0⟩ | ⟨g, cap, cur, rfl, q1, q2, q3, q4, q5, q6⟩
  · exact absurd (List.eq_nil_of_length_eq_zero h0) hl
  · refine run_convert_bytes_back w 65 9 5 ⟨g, 0, none⟩ cap l Try.underlying65 Try.underlying5 Try.underlying9 (fun j hj => ?_)
    rw [Addr.add_lit, cell_blk q2, Nat.zero_add, ← Array.getElem?_toList]
    have e : (cur.toList.take (l.length * 1))[j]? = (u8s l)[j]? := by rw [q6]
    rw [List.getElem?_take_of_lt (by omega)] at e
    rw [e]
    simp [u8s, hj]
theorem headW_ne (O : Ob.O) : Ob.headW O ≠ [] := by
  unfold Ob.headW Ob.txt
  intro h
  have := congrArg List.length h
  have h2 := Ob.vb_pos (Ob.zig (O.name.length : Int))
  unfold Ob.num at this
  simp only [List.length_append, List.length_nil] at this
  omega
theorem headW_len {O : Ob.O} (h : RB O) : (Ob.headW O).length ≤ 40000 := by
  have h0 := txt_len (s := O.name) (by have := h.nm; omega)
  have h1 := lst_len Ob.smW 40 O.syms (fun x hx => smW_len (h.s x hx)) (by have := h.sl; omega)
  have h2 := lst_len Ob.usW 6040 O.uses (fun x hx => usW_len (h.u x hx)) (by have := h.ul; omega)
  have h3 := lst_len Ob.glW 31 O.vars (fun x hx => glW_len (h.v x hx)) (by have := h.vl; omega)
  have := h.nm
  have := h.sl
  have := h.ul
  have := h.vl
  unfold Ob.headW
  simp only [List.length_append]
  omega
def WriteP (O : Ob.O) (e : Ending) : Prop := if Ob.rightB O = true then e = .returned (.tuple #[.string (bs (Ob.obW O)), .nilIface]) else e = .returned (.tuple #[.string ⟨#[]⟩, .iface 64 (.int .i64 1)])
set_option maxRecDepth 100000 in
set_option maxHeartbeats 2000000 in
theorem write_oa {w : World} {b o : Nat} {O : Ob.O} (h : OA w b o O) (hB : Bd O) : Calls Try.prog 8 #[.pointer (some ⟨b, o, none⟩)] w fun e w' => WriteP O e ∧ Below w.heap.size w w' := by
  have HC := Lib.hid (right_oa h hB)
  by_cases hr : Ob.rightB O = true
  · have HP : Hid (∀ e, e = .returned (.tuple #[.string (bs (Ob.obW O)), .nilIface]) → WriteP O e) := fun e he => by unfold WriteP; rw [if_pos hr]; exact he
    have hRB := right_rb hr hB.c
    have HR := Lib.hid hRB
    have HO := Lib.hid h
    rw [hr] at HC
    clear h hB hr hRB
    have HNE := Lib.hid (headW_ne O)
    have HLN := Lib.hid (headW_len HR.out)
    have HOW : Hid (Ob.obW O = Ob.headW O ++ Ob.codeW O) := rfl
    rw [HOW.out] at HP
    generalize WriteP O = WP at *
    go_enter Try.func8, Try.ntmps8
    go_wp2_with fail
    refine HC.out.mono ?_
    rintro e w1 ⟨rfl, hb1⟩
    have HB1 := Lib.hid hb1
    have hO1 := HO.out.below hb1
    have hb2 : Below w1.heap.size w1 (w1.alloc (.cells #[.slice none 0 0] 67)) := (Below.refl _ _).alloc (Nat.le_refl _) _
    have hst : Wst (w1.alloc (.cells #[.slice none 0 0] 67)) w1.heap.size (.slice none 0 0) [] := ⟨(cell_blk (new_blk _ _)).trans rfl, frozen_blk (new_blk _ _), World.ownsRow_nil _ _ _ _⟩
    have HC2 := Lib.hid (head_w hst hO1 HR.out hb2 (Nat.le_refl _))
    have HO1 := Lib.hid hO1
    have HB2 := Lib.hid hb2
    have HST := Lib.hid hst
    clear hO1 hb2 hst hb1 HC
    go_wp2_with fail
    generalize w1.alloc (.cells #[.slice none 0 0] 67) = w2 at *
    refine HC2.out.mono ?_
    rintro e w3 ⟨rfl, v3, h3, h4⟩
    have hB3 : Below w1.heap.size w1 w3 := HB2.out.trans (HST.out.toBelow h4 (Nat.le_refl _))
    have HC3 := Lib.hid (code_w h3 HO1.out HR.out hB3 (Nat.le_refl _) (by have := HLN.out; omega))
    have HB3 := Lib.hid hB3
    have HS3 := Lib.hid h3
    have HNT : Hid (Ob.headW O ++ Ob.codeW O ≠ []) := fun e => HNE.out (List.append_eq_nil_iff.1 e).1
    clear h3 h4 hB3 HC2
    generalize Ob.headW O ++ Ob.codeW O = T at *
    go_wp2_with fail
    refine HC3.out.mono ?_
    rintro e w4 ⟨rfl, v4, h5, h6⟩
    have HB4 : Hid (Below w1.heap.size w1 w4) := HB3.out.trans ((HS3.out.toBelow h6 (Nat.le_refl _)).mono (Nat.le_refl _))
    have hcv := bytes_str h5.own HNT.out
    have kc := h5.c
    have hwl := lt_of_cell kc
    obtain ⟨ao, cap, rfl⟩ := owns_shape h5.own
    clear h5 h6 HC3
    go_wp2_with fail
    go_ret2
    exact ⟨HP.out _ rfl, HB1.out.trans (HB4.out.mono HB1.out.size)⟩
  · have HP : Hid (∀ e, e = .returned (.tuple #[.string ⟨#[]⟩, .iface 64 (.int .i64 1)]) → WriteP O e) := fun e he => by unfold WriteP; rw [if_neg hr]; exact he
    have hrf : Ob.rightB O = false := by simpa using hr
    rw [hrf] at HC
    clear h hB hr hrf
    generalize WriteP O = WP at *
    go_enter Try.func8, Try.ntmps8
    go_wp2_with fail
    refine HC.out.mono ?_
    rintro e w1 ⟨rfl, hb1⟩
    go_wp2_with fail
    go_ret2
    exact ⟨HP.out _ rfl, hb1⟩
set_option maxRecDepth 100000 in
set_option maxHeartbeats 400000 in
theorem write_nil (w : World) : Calls Try.prog 8 #[.pointer none] w fun e w' => e = .returned (.tuple #[.string ⟨#[]⟩, .iface 64 (.int .i64 1)]) ∧ Below w.heap.size w w' := by
  go_enter Try.func8, Try.ntmps8
  go_wp2_with fail
  refine (right_nil w).mono ?_
  rintro e w1 ⟨rfl, hb1⟩
  go_wp2_with fail
  go_ret2
  exact ⟨rfl, hb1⟩
end Go.Proofs.Ytljnddcddclmeaa
