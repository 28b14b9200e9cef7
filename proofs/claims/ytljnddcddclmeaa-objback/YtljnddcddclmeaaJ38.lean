/- ObjBack: what an object is written as is that object; and what was read is written just so. -/
import Derived.Test.YtljnddcddclmeaaJ36
import Derived.Test.YtljnddcddclmeaaJ37
namespace Go.Proofs.Ytljnddcddclmeaa
open Go.RowKit
open Ob (Bs)

theorem any_false {α : Type} {p : α → Bool} {l : List α} (h : l.any p = false) : ∀ x ∈ l, p x = false := by
  intro x hx
  rcases hp : p x with _ | _
  · rfl
  · rw [List.any_eq_true.2 ⟨x, hx, hp⟩] at h; cases h
theorem longB_le {s : Bs} (h : longB s = false) : s.length ≤ 40 := by
  unfold longB at h
  have := of_decide_eq_false h
  omega
theorem small_bd {O : Ob.O} (h : smallB O = true) (hc : ∀ x ∈ O.code, Ob.I64 x.a) : Bd O := by
  unfold smallB at h
  simp only [Bool.and_eq_true, decide_eq_true_eq, Bool.not_eq_true'] at h
  obtain ⟨h0, h1, h2, h3, h4, h5, h6, h7, h8, h9, h10⟩ := h
  refine ⟨by have := longB_le h0; omega, by omega, fun x hx => by have := longB_le (any_false h8 x hx); omega, by omega, fun x hx => ?_, by omega, fun x hx => by have := longB_le (any_false h9 x hx); omega, by omega, by omega, fun x hx => by have := longB_le (any_false h7 x hx); omega, by omega, hc⟩
  have := any_false h10 x hx
  unfold useL at this
  simp only [Bool.or_eq_false_iff, decide_eq_false_iff_not] at this
  obtain ⟨q0, q1, q2, q3⟩ := this
  exact ⟨by have := longB_le q0; omega, by omega, fun y hy => by have := longB_le (any_false q3 y hy); omega⟩
theorem codeW_len {O : Ob.O} (h : RB O) : (Ob.codeW O).length ≤ 130000 := by
  have h1 := lst_len Ob.txt 20 O.names (fun y hy => by have := h.n y hy; have := txt_len (s := y) (by omega); omega) (by have := h.nl; omega)
  have h2 := part_len Ob.enW 30 [] O.procs (fun x hx => enW_len (h.p x hx)) O.procs.length
  rw [List.take_length, List.nil_append] at h2
  have h3 := lst_len Ob.inW 30 O.code (fun x hx => inW_len (h.c x hx)) (by have := h.cl; omega)
  have := h.nl
  have := h.pl
  have := h.cl
  unfold Ob.codeW
  simp only [List.length_append, List.length_nil] at h2 ⊢
  omega
theorem obW_len {O : Ob.O} (h : RB O) : (Ob.obW O).length ≤ 200000 := by
  have h1 := headW_len h
  have h2 := codeW_len h
  unfold Ob.obW
  rw [List.length_append]; omega
theorem parse_none {w : World} {l : Bs} (hl : l.length ≤ 1000000000) (h : parseB l = none) : Calls Try.prog 7 #[.string (bs l)] w fun e w' => e = .returned (.tuple #[.pointer none, .iface 64 (.int .i64 3)]) ∧ Below w.heap.size w w' :=
  (parse_post w l hl).mono (fun e w' q => ⟨by have := q.1; unfold ParseP at this; rw [h] at this; exact this, q.2⟩)
theorem parse_some {w : World} {l : Bs} {O : Ob.O} (hl : l.length ≤ 1000000000) (h : parseB l = some O) : Calls Try.prog 7 #[.string (bs l)] w fun e w' => (∃ ob, e = .returned (.tuple #[.pointer (some ⟨ob, 0, none⟩), .nilIface]) ∧ OA w' ob 0 O) ∧ Below w.heap.size w w' :=
  (parse_post w l hl).mono (fun e w' q => ⟨by have := q.1; unfold ParseP at this; rw [h] at this; exact this, q.2⟩)
theorem write_r {w : World} {b o : Nat} {O : Ob.O} (h : OA w b o O) (hB : Bd O) (hr : Ob.rightB O = true) : Calls Try.prog 8 #[.pointer (some ⟨b, o, none⟩)] w fun e w' => e = .returned (.tuple #[.string (bs (Ob.obW O)), .nilIface]) ∧ Below w.heap.size w w' :=
  (write_oa h hB).mono (fun e w' q => ⟨by have := q.1; unfold WriteP at this; rw [if_pos hr] at this; exact this, q.2⟩)
theorem write_n {w : World} {b o : Nat} {O : Ob.O} (h : OA w b o O) (hB : Bd O) (hr : Ob.rightB O = false) : Calls Try.prog 8 #[.pointer (some ⟨b, o, none⟩)] w fun e w' => e = .returned (.tuple #[.string ⟨#[]⟩, .iface 64 (.int .i64 1)]) ∧ Below w.heap.size w w' :=
  (write_oa h hB).mono (fun e w' q => ⟨by have := q.1; unfold WriteP at this; rw [if_neg (by rw [hr]; decide)] at this; exact this, q.2⟩)
theorem small_oa {w : World} {b o : Nat} {O : Ob.O} (h : OA w b o O) : Calls Try.prog 5 #[.pointer (some ⟨b, o, none⟩)] w fun e w' => e = .returned (.bool (smallB O)) ∧ Below w.heap.size w w' := by
  obtain ⟨sa, ua, va, pa, na, ca, sc, uc, vc, pc, nc, cc, h⟩ := h
  exact small_ov h
set_option maxRecDepth 100000 in
set_option maxHeartbeats 1000000 in
theorem back_big {w : World} (p : Option Addr) (s : Bs) (hs : Calls Try.prog 5 #[.pointer p] w fun e w' => e = .returned (.bool false) ∧ Below w.heap.size w w') : Calls Try.prog 3 #[.pointer p, .string (bs s)] w fun e w' => e = .returned (.bool true) ∧ Below w.heap.size w w' := by
  have HS := Lib.hid hs
  clear hs
  go_enter Try.func3, Try.ntmps3
  go_wp2_with fail
  refine HS.out.mono ?_
  rintro e w1 ⟨rfl, hb1⟩
  go_wp2_with fail
  go_ret
  exact ⟨rfl, hb1⟩
set_option maxRecDepth 100000 in
set_option maxHeartbeats 1000000 in
theorem back_long {w : World} (p : Option Addr) (s : Bs) (hl : 1500 < s.length) (hs : Calls Try.prog 5 #[.pointer p] w fun e w' => e = .returned (.bool true) ∧ Below w.heap.size w w') : Calls Try.prog 3 #[.pointer p, .string (bs s)] w fun e w' => e = .returned (.bool true) ∧ Below w.heap.size w w' := by
  have hz := bs_size s
  have hl' : (1500 : Int) < (s.length : Int) := by omega
  have HS := Lib.hid hs
  clear hs
  go_enter Try.func3, Try.ntmps3
  go_wp2_with fail
  refine HS.out.mono ?_
  rintro e w1 ⟨rfl, hb1⟩
  go_wp2_with fail
  go_ret
  exact ⟨rfl, hb1⟩
set_option maxRecDepth 100000 in
set_option maxHeartbeats 4000000 in
theorem back_n {w : World} (p : Option Addr) (s : Bs) (hl : s.length ≤ 1500) (hs : Calls Try.prog 5 #[.pointer p] w fun e w' => e = .returned (.bool true) ∧ Below w.heap.size w w') (hwn : ∀ W, Below w.heap.size w W → Calls Try.prog 8 #[.pointer p] W fun e w' => e = .returned (.tuple #[.string ⟨#[]⟩, .iface 64 (.int .i64 1)]) ∧ Below W.heap.size W w') (hrn : ∀ W, Below w.heap.size w W → Calls Try.prog 9 #[.pointer p] W fun e w' => e = .returned (.bool false) ∧ Below W.heap.size W w') : Calls Try.prog 3 #[.pointer p, .string (bs s)] w fun e w' => e = .returned (.bool true) ∧ Below w.heap.size w w' := by
  have HWN := Lib.hid hwn
  have HRN := Lib.hid hrn
  clear hwn hrn
  rcases hp : parseB s with _ | P
  · have HP : Hid (∀ W, Calls Try.prog 7 #[.string (bs s)] W fun e w' => e = .returned (.tuple #[.pointer none, .iface 64 (.int .i64 3)]) ∧ Below W.heap.size W w') := fun W => parse_none (by omega) hp
    clear hp
    have hz := bs_size s
    have hl' : (s.length : Int) ≤ 1500 := by omega
    have hld : decide ((1500 : Int) < (s.length : Int)) = false := decide_eq_false (by omega)
    have HS := Lib.hid hs
    have HW := Lib.hid (fun W => written_any W)
    clear hs
    go_enter Try.func3, Try.ntmps3
    go_wp2_with fail
    refine HS.out.mono ?_
    rintro e w1 ⟨rfl, hb1⟩
    have HB1 := Lib.hid hb1
    clear hb1 HS
    go_wp2_with fail
    refine (HW.out _).mono ?_
    rintro e w2 ⟨rfl, hb2⟩
    have HB2 := Lib.hid (HB1.out.trans (hb2.mono HB1.out.size))
    clear hb2
    go_wp2_with fail
    refine (HP.out _).mono ?_
    rintro e w3 ⟨rfl, hb3⟩
    have HB3 := Lib.hid (HB2.out.trans (hb3.mono HB2.out.size))
    clear hb3
    go_wp2_with fail
    refine (HWN.out _ HB3.out).mono ?_
    rintro e w6 ⟨rfl, hb6⟩
    have HB6 := Lib.hid (HB3.out.trans (hb6.mono HB3.out.size))
    clear hb6
    go_wp2_with fail
    refine (HRN.out _ HB6.out).mono ?_
    rintro e w7 ⟨rfl, hb7⟩
    have HB7 := Lib.hid (HB6.out.trans (hb7.mono HB6.out.size))
    clear hb7
    go_wp2_with fail
    go_ret
    exact ⟨rfl, HB7.out⟩
  · have HP : Hid (∀ W, Calls Try.prog 7 #[.string (bs s)] W fun e w' => (∃ ob, e = .returned (.tuple #[.pointer (some ⟨ob, 0, none⟩), .nilIface]) ∧ OA w' ob 0 P) ∧ Below W.heap.size W w') := fun W => parse_some (by omega) hp
    obtain ⟨q1, q2, q3, q4⟩ := parseB_some hp
    have HPR := Lib.hid q1
    have HPS := Lib.hid q2
    have HPB := Lib.hid (ob_bd (by omega) q4)
    clear hp q1 q2 q4
    have hz := bs_size s
    have hl' : (s.length : Int) ≤ 1500 := by omega
    have hld : decide ((1500 : Int) < (s.length : Int)) = false := decide_eq_false (by omega)
    have HS := Lib.hid hs
    have HW := Lib.hid (fun W => written_any W)
    clear hs
    go_enter Try.func3, Try.ntmps3
    go_wp2_with fail
    refine HS.out.mono ?_
    rintro e w1 ⟨rfl, hb1⟩
    have HB1 := Lib.hid hb1
    clear hb1 HS
    go_wp2_with fail
    refine (HW.out _).mono ?_
    rintro e w2 ⟨rfl, hb2⟩
    have HB2 := Lib.hid (HB1.out.trans (hb2.mono HB1.out.size))
    clear hb2
    go_wp2_with fail
    refine (HP.out _).mono ?_
    rintro e w3 ⟨⟨ob, rfl, hoa⟩, hb3⟩
    have HB3 := Lib.hid (HB2.out.trans (hb3.mono HB2.out.size))
    have HOA := Lib.hid hoa
    clear hb3 hoa
    go_wp2_with fail
    refine (write_r HOA.out HPB.out HPR.out).mono ?_
    rintro e w4 ⟨rfl, hb4⟩
    have HB4 := Lib.hid (HB3.out.trans (hb4.mono HB3.out.size))
    have HC4 := Lib.hid (right_oa (HOA.out.below hb4) HPB.out)
    rw [HPR.out] at HC4
    rw [HPS.out]
    clear hb4
    go_wp2_with fail
    refine HC4.out.mono ?_
    rintro e w5 ⟨rfl, hb5⟩
    have HB5 := Lib.hid (HB4.out.trans (hb5.mono HB4.out.size))
    clear hb5 HC4
    go_wp2_with fail
    refine (HWN.out _ HB5.out).mono ?_
    rintro e w6 ⟨rfl, hb6⟩
    have HB6 := Lib.hid (HB5.out.trans (hb6.mono HB5.out.size))
    clear hb6
    go_wp2_with fail
    refine (HRN.out _ HB6.out).mono ?_
    rintro e w7 ⟨rfl, hb7⟩
    have HB7 := Lib.hid (HB6.out.trans (hb7.mono HB6.out.size))
    clear hb7
    go_wp2_with fail
    go_ret
    exact ⟨rfl, HB7.out⟩
set_option maxRecDepth 100000 in
set_option maxHeartbeats 4000000 in
theorem back_r {w : World} {b o : Nat} {O : Ob.O} {sa ua va pa na ca : Option Addr} {sc uc vc pc nc cc : Nat} (hV : OV w b o O sa ua va pa na ca sc uc vc pc nc cc) (hB : Bd O) (hr : Ob.rightB O = true) (s : Bs) (hl : s.length ≤ 1500) (hs : Calls Try.prog 5 #[.pointer (some ⟨b, o, none⟩)] w fun e w' => e = .returned (.bool true) ∧ Below w.heap.size w w') : Calls Try.prog 3 #[.pointer (some ⟨b, o, none⟩), .string (bs s)] w fun e w' => e = .returned (.bool true) ∧ Below w.heap.size w w' := by
  have HV := Lib.hid hV
  have HBD := Lib.hid hB
  have HRR := Lib.hid hr
  have HPT : Hid (∀ W, Calls Try.prog 7 #[.string (bs (Ob.obW O))] W fun e w' => (∃ ob, e = .returned (.tuple #[.pointer (some ⟨ob, 0, none⟩), .nilIface]) ∧ OA w' ob 0 O) ∧ Below W.heap.size W w') := fun W => parse_some (by have := obW_len (right_rb hr hB.c); omega) (parseB_back hr hB.c (by have := obW_len (right_rb hr hB.c); omega))
  clear hV hB hr
  rcases hp : parseB s with _ | P
  · have HP : Hid (∀ W, Calls Try.prog 7 #[.string (bs s)] W fun e w' => e = .returned (.tuple #[.pointer none, .iface 64 (.int .i64 3)]) ∧ Below W.heap.size W w') := fun W => parse_none (by omega) hp
    clear hp
    have hz := bs_size s
    have hl' : (s.length : Int) ≤ 1500 := by omega
    have hld : decide ((1500 : Int) < (s.length : Int)) = false := decide_eq_false (by omega)
    have HS := Lib.hid hs
    have HW := Lib.hid (fun W => written_any W)
    clear hs
    go_enter Try.func3, Try.ntmps3
    go_wp2_with fail
    refine HS.out.mono ?_
    rintro e w1 ⟨rfl, hb1⟩
    have HB1 := Lib.hid hb1
    clear hb1 HS
    go_wp2_with fail
    refine (HW.out _).mono ?_
    rintro e w2 ⟨rfl, hb2⟩
    have HB2 := Lib.hid (HB1.out.trans (hb2.mono HB1.out.size))
    clear hb2
    go_wp2_with fail
    refine (HP.out _).mono ?_
    rintro e w3 ⟨rfl, hb3⟩
    have HB3 := Lib.hid (HB2.out.trans (hb3.mono HB2.out.size))
    clear hb3
    go_wp2_with fail
    refine (write_r ⟨_, _, _, _, _, _, _, _, _, _, _, _, HV.out.below HB3.out⟩ HBD.out HRR.out).mono ?_
    rintro e w6 ⟨rfl, hb6⟩
    have HB6 := Lib.hid (HB3.out.trans (hb6.mono HB3.out.size))
    clear hb6
    go_wp2_with fail
    refine (HPT.out _).mono ?_
    rintro e w7 ⟨⟨ob2, rfl, hoa2⟩, hb7⟩
    have HB7 := Lib.hid (HB6.out.trans (hb7.mono HB6.out.size))
    clear hb7
    obtain ⟨sa', ua', va', pa', na', ca', sc', uc', vc', pc', nc', cc', hV2⟩ := hoa2
    have HV2 := Lib.hid hV2
    have HV7 := Lib.hid (HV.out.below HB7.out)
    have hq1 := lt_of_cell hV2.c0
    have hq2 := lt_of_cell HV7.out.c0
    have HK : Hid (∀ W, Below w7.heap.size w7 W → W.cell? ⟨ob2, 4, none⟩ = some (.slice pa' O.procs.length pc') ∧ W.cell? ⟨ob2, 6, none⟩ = some (.slice ca' O.code.length cc') ∧ W.cell? ⟨b, o + 4, none⟩ = some (.slice pa O.procs.length pc) ∧ W.cell? ⟨b, o + 6, none⟩ = some (.slice ca O.code.length cc)) := fun W hW => ⟨by have := (HV2.out.below hW).c4; simpa using this, by have := (HV2.out.below hW).c6; simpa using this, (HV7.out.below hW).c4, (HV7.out.below hW).c6⟩
    have HCA : Hid (∀ W, Below w7.heap.size w7 W → Calls Try.prog 10 #[.pointer (some ⟨ob2, 0, none⟩), .pointer (some ⟨b, o, none⟩)] W fun e w' => e = .returned (.bool true) ∧ Below W.heap.size W w') := fun W hW => alike_ov (HV2.out.below hW) (HV7.out.below hW) HBD.out
    have HCP : Hid (∀ W, Below w7.heap.size w7 W → Calls Try.prog 11 #[.slice pa' O.procs.length pc', .slice pa O.procs.length pc] W fun e w' => e = .returned (.bool true) ∧ Below W.heap.size W w') := fun W hW => eqEn (HV2.out.below hW).p (HV7.out.below hW).p HBD.out.pl
    have HCC : Hid (∀ W, Below w7.heap.size w7 W → Calls Try.prog 12 #[.slice ca' O.code.length cc', .slice ca O.code.length cc] W fun e w' => e = .returned (.bool true) ∧ Below W.heap.size W w') := fun W hW => eqIn (HV2.out.below hW).c (HV7.out.below hW).c HBD.out.cl
    have HK0 := Lib.hid (HK.out _ (below_drew w7))
    have HQ0 : Hid (Below w7.heap.size w7 w7.drew) := below_drew w7
    clear hV2
    go_wp2_with fail
    go_region_held3 (fun W => W.cell? ⟨ob2, 4, none⟩ = some (.slice pa' O.procs.length pc') ∧ W.cell? ⟨ob2, 6, none⟩ = some (.slice ca' O.code.length cc') ∧ W.cell? ⟨b, o + 4, none⟩ = some (.slice pa O.procs.length pc) ∧ W.cell? ⟨b, o + 6, none⟩ = some (.slice ca O.code.length cc)) (with_reducible (first | exact HK3.out | exact HK2.out | exact HK1.out | exact HK0.out)) (first | (go_at_call 10; refine (HCA.out _ HQ0.out).mono ?_; rintro e w8 ⟨rfl, hb8⟩; have HQ1 : Hid (Below w7.heap.size w7 w8) := HQ0.out.trans (hb8.mono HQ0.out.size); have HK1 := Lib.hid (HK.out _ HQ1.out); clear hb8) | (go_at_call 11; refine (HCP.out _ HQ1.out).mono ?_; rintro e w9 ⟨rfl, hb9⟩; have HQ2 : Hid (Below w7.heap.size w7 w9) := HQ1.out.trans (hb9.mono HQ1.out.size); have HK2 := Lib.hid (HK.out _ HQ2.out); clear hb9) | (go_at_call 12; refine (HCC.out _ HQ2.out).mono ?_; rintro e w10 ⟨rfl, hb10⟩; have HQ3 : Hid (Below w7.heap.size w7 w10) := HQ2.out.trans (hb10.mono HQ2.out.size); have HK3 := Lib.hid (HK.out _ HQ3.out); clear hb10))
    go_wp2_with fail
    go_ret
    exact ⟨rfl, HB7.out.trans (HQ3.out.mono HB7.out.size)⟩
  · have HP : Hid (∀ W, Calls Try.prog 7 #[.string (bs s)] W fun e w' => (∃ ob, e = .returned (.tuple #[.pointer (some ⟨ob, 0, none⟩), .nilIface]) ∧ OA w' ob 0 P) ∧ Below W.heap.size W w') := fun W => parse_some (by omega) hp
    obtain ⟨q1, q2, q3, q4⟩ := parseB_some hp
    have HPR := Lib.hid q1
    have HPS := Lib.hid q2
    have HPB := Lib.hid (ob_bd (by omega) q4)
    clear hp q1 q2 q4
    have hz := bs_size s
    have hl' : (s.length : Int) ≤ 1500 := by omega
    have hld : decide ((1500 : Int) < (s.length : Int)) = false := decide_eq_false (by omega)
    have HS := Lib.hid hs
    have HW := Lib.hid (fun W => written_any W)
    clear hs
    go_enter Try.func3, Try.ntmps3
    go_wp2_with fail
    refine HS.out.mono ?_
    rintro e w1 ⟨rfl, hb1⟩
    have HB1 := Lib.hid hb1
    clear hb1 HS
    go_wp2_with fail
    refine (HW.out _).mono ?_
    rintro e w2 ⟨rfl, hb2⟩
    have HB2 := Lib.hid (HB1.out.trans (hb2.mono HB1.out.size))
    clear hb2
    go_wp2_with fail
    refine (HP.out _).mono ?_
    rintro e w3 ⟨⟨ob, rfl, hoa⟩, hb3⟩
    have HB3 := Lib.hid (HB2.out.trans (hb3.mono HB2.out.size))
    have HOA := Lib.hid hoa
    clear hb3 hoa
    go_wp2_with fail
    refine (write_r HOA.out HPB.out HPR.out).mono ?_
    rintro e w4 ⟨rfl, hb4⟩
    have HB4 := Lib.hid (HB3.out.trans (hb4.mono HB3.out.size))
    have HC4 := Lib.hid (right_oa (HOA.out.below hb4) HPB.out)
    rw [HPR.out] at HC4
    rw [HPS.out]
    clear hb4
    go_wp2_with fail
    refine HC4.out.mono ?_
    rintro e w5 ⟨rfl, hb5⟩
    have HB5 := Lib.hid (HB4.out.trans (hb5.mono HB4.out.size))
    clear hb5 HC4
    go_wp2_with fail
    refine (write_r ⟨_, _, _, _, _, _, _, _, _, _, _, _, HV.out.below HB5.out⟩ HBD.out HRR.out).mono ?_
    rintro e w6 ⟨rfl, hb6⟩
    have HB6 := Lib.hid (HB5.out.trans (hb6.mono HB5.out.size))
    clear hb6
    go_wp2_with fail
    refine (HPT.out _).mono ?_
    rintro e w7 ⟨⟨ob2, rfl, hoa2⟩, hb7⟩
    have HB7 := Lib.hid (HB6.out.trans (hb7.mono HB6.out.size))
    clear hb7
    obtain ⟨sa', ua', va', pa', na', ca', sc', uc', vc', pc', nc', cc', hV2⟩ := hoa2
    have HV2 := Lib.hid hV2
    have HV7 := Lib.hid (HV.out.below HB7.out)
    have hq1 := lt_of_cell hV2.c0
    have hq2 := lt_of_cell HV7.out.c0
    have HK : Hid (∀ W, Below w7.heap.size w7 W → W.cell? ⟨ob2, 4, none⟩ = some (.slice pa' O.procs.length pc') ∧ W.cell? ⟨ob2, 6, none⟩ = some (.slice ca' O.code.length cc') ∧ W.cell? ⟨b, o + 4, none⟩ = some (.slice pa O.procs.length pc) ∧ W.cell? ⟨b, o + 6, none⟩ = some (.slice ca O.code.length cc)) := fun W hW => ⟨by have := (HV2.out.below hW).c4; simpa using this, by have := (HV2.out.below hW).c6; simpa using this, (HV7.out.below hW).c4, (HV7.out.below hW).c6⟩
    have HCA : Hid (∀ W, Below w7.heap.size w7 W → Calls Try.prog 10 #[.pointer (some ⟨ob2, 0, none⟩), .pointer (some ⟨b, o, none⟩)] W fun e w' => e = .returned (.bool true) ∧ Below W.heap.size W w') := fun W hW => alike_ov (HV2.out.below hW) (HV7.out.below hW) HBD.out
    have HCP : Hid (∀ W, Below w7.heap.size w7 W → Calls Try.prog 11 #[.slice pa' O.procs.length pc', .slice pa O.procs.length pc] W fun e w' => e = .returned (.bool true) ∧ Below W.heap.size W w') := fun W hW => eqEn (HV2.out.below hW).p (HV7.out.below hW).p HBD.out.pl
    have HCC : Hid (∀ W, Below w7.heap.size w7 W → Calls Try.prog 12 #[.slice ca' O.code.length cc', .slice ca O.code.length cc] W fun e w' => e = .returned (.bool true) ∧ Below W.heap.size W w') := fun W hW => eqIn (HV2.out.below hW).c (HV7.out.below hW).c HBD.out.cl
    have HK0 := Lib.hid (HK.out _ (below_drew w7))
    have HQ0 : Hid (Below w7.heap.size w7 w7.drew) := below_drew w7
    clear hV2
    go_wp2_with fail
    go_region_held3 (fun W => W.cell? ⟨ob2, 4, none⟩ = some (.slice pa' O.procs.length pc') ∧ W.cell? ⟨ob2, 6, none⟩ = some (.slice ca' O.code.length cc') ∧ W.cell? ⟨b, o + 4, none⟩ = some (.slice pa O.procs.length pc) ∧ W.cell? ⟨b, o + 6, none⟩ = some (.slice ca O.code.length cc)) (with_reducible (first | exact HK3.out | exact HK2.out | exact HK1.out | exact HK0.out)) (first | (go_at_call 10; refine (HCA.out _ HQ0.out).mono ?_; rintro e w8 ⟨rfl, hb8⟩; have HQ1 : Hid (Below w7.heap.size w7 w8) := HQ0.out.trans (hb8.mono HQ0.out.size); have HK1 := Lib.hid (HK.out _ HQ1.out); clear hb8) | (go_at_call 11; refine (HCP.out _ HQ1.out).mono ?_; rintro e w9 ⟨rfl, hb9⟩; have HQ2 : Hid (Below w7.heap.size w7 w9) := HQ1.out.trans (hb9.mono HQ1.out.size); have HK2 := Lib.hid (HK.out _ HQ2.out); clear hb9) | (go_at_call 12; refine (HCC.out _ HQ2.out).mono ?_; rintro e w10 ⟨rfl, hb10⟩; have HQ3 : Hid (Below w7.heap.size w7 w10) := HQ2.out.trans (hb10.mono HQ2.out.size); have HK3 := Lib.hid (HK.out _ HQ3.out); clear hb10))
    go_wp2_with fail
    go_ret
    exact ⟨rfl, HB7.out.trans (HQ3.out.mono HB7.out.size)⟩
theorem objBack_post {w : World} (p : Option Addr) (s : Bs) (hp : p = none ∨ ∃ b o O, p = some ⟨b, o, none⟩ ∧ OA w b o O ∧ ∀ x ∈ O.code, Ob.I64 x.a) : Calls Try.prog 3 #[.pointer p, .string (bs s)] w fun e w' => e = .returned (.bool true) ∧ Below w.heap.size w w' := by
  rcases hp with rfl | ⟨b, o, O, rfl, hoa, hc⟩
  · by_cases hl : s.length ≤ 1500
    · exact back_n none s hl (small_nil w) (fun W _ => write_nil W) (fun W _ => right_nil W)
    · exact back_long none s (by omega) (small_nil w)
  · have hs := small_oa hoa
    rcases hsm : smallB O with _ | _
    · rw [hsm] at hs; exact back_big _ s hs
    · rw [hsm] at hs
      by_cases hl : s.length ≤ 1500
      · have hB := small_bd hsm hc
        rcases hr : Ob.rightB O with _ | _
        · exact back_n _ s hl hs (fun W hW => write_n (hoa.below hW) hB hr) (fun W hW => by have := right_oa (hoa.below hW) hB; rw [hr] at this; exact this)
        · obtain ⟨sa, ua, va, pa, na, ca, sc, uc, vc, pc, nc, cc, hV⟩ := hoa
          exact back_r hV hB hr s hl hs
      · exact back_long _ s (by omega) hs
end Go.Proofs.Ytljnddcddclmeaa
