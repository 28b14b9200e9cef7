/- ObjCuts: no beginning of an object's bytes is an object, nor they with others behind them. -/
import Derived.Test.YtljnddcddclmeaaJ38
namespace Go.Proofs.Ytljnddcddclmeaa
open Go.RowKit
open Ob (Bs)

set_option maxRecDepth 100000 in
set_option maxHeartbeats 1000000 in
theorem cuts_big {w : World} (p : Option Addr) (c : Int) (m : Bs) (hs : Calls Try.prog 5 #[.pointer p] w fun e w' => e = .returned (.bool false) ∧ Below w.heap.size w w') : Calls Try.prog 4 #[.pointer p, .int .i64 c, .string (bs m)] w fun e w' => e = .returned (.bool true) ∧ Below w.heap.size w w' := by
  have HS := Lib.hid hs
  clear hs
  go_enter Try.func4, Try.ntmps4
  go_wp2_with fail
  refine HS.out.mono ?_
  rintro e w1 ⟨rfl, hb1⟩
  go_wp2_with fail
  go_ret
  exact ⟨rfl, hb1⟩
set_option maxRecDepth 100000 in
set_option maxHeartbeats 1000000 in
theorem cuts_long {w : World} (p : Option Addr) (c : Int) (m : Bs) (hl : 100 < m.length) (hs : Calls Try.prog 5 #[.pointer p] w fun e w' => e = .returned (.bool true) ∧ Below w.heap.size w w') : Calls Try.prog 4 #[.pointer p, .int .i64 c, .string (bs m)] w fun e w' => e = .returned (.bool true) ∧ Below w.heap.size w w' := by
  have hz := bs_size m
  have hl' : (100 : Int) < (m.length : Int) := by omega
  have HS := Lib.hid hs
  clear hs
  go_enter Try.func4, Try.ntmps4
  go_wp2_with fail
  refine HS.out.mono ?_
  rintro e w1 ⟨rfl, hb1⟩
  go_wp2_with fail
  go_ret
  exact ⟨rfl, hb1⟩
set_option maxRecDepth 100000 in
set_option maxHeartbeats 2000000 in
theorem cuts_n {w : World} (p : Option Addr) (c : Int) (m : Bs) (hl : m.length ≤ 100) (hs : Calls Try.prog 5 #[.pointer p] w fun e w' => e = .returned (.bool true) ∧ Below w.heap.size w w') (hwn : ∀ W, Below w.heap.size w W → Calls Try.prog 8 #[.pointer p] W fun e w' => e = .returned (.tuple #[.string ⟨#[]⟩, .iface 64 (.int .i64 1)]) ∧ Below W.heap.size W w') : Calls Try.prog 4 #[.pointer p, .int .i64 c, .string (bs m)] w fun e w' => e = .returned (.bool true) ∧ Below w.heap.size w w' := by
  have hz := bs_size m
  have hl' : (m.length : Int) ≤ 100 := by omega
  have hld : decide ((100 : Int) < (m.length : Int)) = false := decide_eq_false (by omega)
  have HS := Lib.hid hs
  have HW := Lib.hid (fun W => written_any W)
  have HWN := Lib.hid hwn
  clear hs hwn
  go_enter Try.func4, Try.ntmps4
  go_wp2_with fail
  refine HS.out.mono ?_
  rintro e w1 ⟨rfl, hb1⟩
  have HB1 := Lib.hid hb1
  clear hb1 HS
  go_wp2_with fail
  refine (HW.out _).mono ?_
  rintro e w2 ⟨rfl, hb2⟩
  have HB2 := Lib.hid (HB1.out.trans (hb2.mono HB1.out.size))
  clear hb2
  go_wp2_with fail
  refine (HWN.out _ HB2.out).mono ?_
  rintro e w3 ⟨rfl, hb3⟩
  have HB3 := Lib.hid (HB2.out.trans (hb3.mono HB2.out.size))
  clear hb3
  go_wp2_with fail
  go_ret
  exact ⟨rfl, HB3.out⟩
theorem bs_take (T : Bs) (k : Nat) : (bs T).extract 0 k = bs (T.take k) := by apply ByteArray.ext; simp [bs, ByteArray.data_extract]
theorem bs_app (T m : Bs) : bs T ++ bs m = bs (T ++ m) := by apply ByteArray.ext; simp [bs]
theorem obW_ne (O : Ob.O) : 0 < (Ob.obW O).length := by
  have := headW_ne O
  unfold Ob.obW
  rw [List.length_append]
  have : (Ob.headW O).length ≠ 0 := fun e => this (List.eq_nil_of_length_eq_zero e)
  omega
set_option maxRecDepth 100000 in
set_option maxHeartbeats 2000000 in
theorem cuts_r {w : World} {b o : Nat} {O : Ob.O} (hoa : OA w b o O) (hB : Bd O) (hr : Ob.rightB O = true) (c : Int) (m : Bs) (hl : m.length ≤ 100) (hs : Calls Try.prog 5 #[.pointer (some ⟨b, o, none⟩)] w fun e w' => e = .returned (.bool true) ∧ Below w.heap.size w w') : Calls Try.prog 4 #[.pointer (some ⟨b, o, none⟩), .int .i64 c, .string (bs m)] w fun e w' => e = .returned (.bool true) ∧ Below w.heap.size w w' := by
  have hz := bs_size m
  have hl' : (m.length : Int) ≤ 100 := by omega
  have hld : decide ((100 : Int) < (m.length : Int)) = false := decide_eq_false (by omega)
  have hTl := obW_len (right_rb hr hB.c)
  have hTp := obW_ne O
  have HS := Lib.hid hs
  have HW := Lib.hid (fun W => written_any W)
  have HWR : Hid (∀ W, Below w.heap.size w W → Calls Try.prog 8 #[.pointer (some ⟨b, o, none⟩)] W fun e w' => e = .returned (.tuple #[.string (bs (Ob.obW O)), .nilIface]) ∧ Below W.heap.size W w') := fun W hW => write_r (hoa.below hW) hB hr
  have HP1 : Hid (∀ W k, k < (Ob.obW O).length → Calls Try.prog 7 #[.string (bs ((Ob.obW O).take k))] W fun e w' => e = .returned (.tuple #[.pointer none, .iface 64 (.int .i64 3)]) ∧ Below W.heap.size W w') := fun W k hk => parse_none (by simp; omega) (parseB_cut hr hB.c k hk (by omega))
  have hzT := bs_size (Ob.obW O)
  have ht := fun k => bs_take (Ob.obW O) k
  have ha := bs_app (Ob.obW O) m
  by_cases hm : m = []
  · have HP2 : Hid (∀ W, Calls Try.prog 7 #[.string (bs (Ob.obW O ++ m))] W fun e w' => (∃ ob, e = .returned (.tuple #[.pointer (some ⟨ob, 0, none⟩), .nilIface]) ∧ OA w' ob 0 O) ∧ Below W.heap.size W w') := fun W => parse_some (by rw [List.length_append]; omega) (by rw [hm, List.append_nil]; exact parseB_back hr hB.c (by omega))
    have hme : (bs m).toList.isEmpty = true := by rw [bs_toList, hm]; rfl
    clear hm hB hr hs hoa
    generalize bs (Ob.obW O ++ m) = TM at *
    generalize Ob.obW O = T at *
    have hTl' : (T.length : Int) ≤ 200000 := by omega
    have hadd : ¬ (9223372036854775807 : Int) < (T.length : Int) + (m.length : Int) := by omega
    go_enter Try.func4, Try.ntmps4
    go_wp2_with fail
    refine HS.out.mono ?_
    rintro e w1 ⟨rfl, hb1⟩
    have HB1 := Lib.hid hb1
    clear hb1 HS
    go_wp2_with fail
    refine (HW.out _).mono ?_
    rintro e w2 ⟨rfl, hb2⟩
    have HB2 := Lib.hid (HB1.out.trans (hb2.mono HB1.out.size))
    clear hb2
    go_wp2_with fail
    refine (HWR.out _ HB2.out).mono ?_
    rintro e w3 ⟨rfl, hb3⟩
    have HB3 := Lib.hid (HB2.out.trans (hb3.mono HB2.out.size))
    clear hb3
    go_wp2_with fail
    refine (pick_any _ c T.length hTp (by omega)).mono ?_
    rintro e w4 ⟨⟨k, hk, rfl⟩, hw4⟩
    rw [hw4]
    clear hw4
    have hk' : (k : Int) < (T.length : Int) := by omega
    have hk'' : (k : Int) ≤ (T.length : Int) := by omega
    go_wp2_with fail
    refine (HP1.out _ k hk).mono ?_
    rintro e w5 ⟨rfl, hb5⟩
    have HB5 := Lib.hid (HB3.out.trans (hb5.mono HB3.out.size))
    clear hb5
    go_wp2_with fail
    refine (HP2.out _).mono ?_
    rintro e w6 ⟨⟨ob, rfl, _⟩, hb6⟩
    have HB6 := Lib.hid (HB5.out.trans (hb6.mono HB5.out.size))
    clear hb6
    go_wp2_with fail
    go_ret
    exact ⟨rfl, HB6.out⟩
  · have HP2 : Hid (∀ W, Calls Try.prog 7 #[.string (bs (Ob.obW O ++ m))] W fun e w' => e = .returned (.tuple #[.pointer none, .iface 64 (.int .i64 3)]) ∧ Below W.heap.size W w') := fun W => parse_none (by rw [List.length_append]; omega) (parseB_app hr hB.c m hm (by rw [List.length_append]; omega))
    have hme : (bs m).toList.isEmpty = false := by rw [bs_toList]; simpa using hm
    clear hm hB hr hs hoa
    generalize bs (Ob.obW O ++ m) = TM at *
    generalize Ob.obW O = T at *
    have hTl' : (T.length : Int) ≤ 200000 := by omega
    have hadd : ¬ (9223372036854775807 : Int) < (T.length : Int) + (m.length : Int) := by omega
    go_enter Try.func4, Try.ntmps4
    go_wp2_with fail
    refine HS.out.mono ?_
    rintro e w1 ⟨rfl, hb1⟩
    have HB1 := Lib.hid hb1
    clear hb1 HS
    go_wp2_with fail
    refine (HW.out _).mono ?_
    rintro e w2 ⟨rfl, hb2⟩
    have HB2 := Lib.hid (HB1.out.trans (hb2.mono HB1.out.size))
    clear hb2
    go_wp2_with fail
    refine (HWR.out _ HB2.out).mono ?_
    rintro e w3 ⟨rfl, hb3⟩
    have HB3 := Lib.hid (HB2.out.trans (hb3.mono HB2.out.size))
    clear hb3
    go_wp2_with fail
    refine (pick_any _ c T.length hTp (by omega)).mono ?_
    rintro e w4 ⟨⟨k, hk, rfl⟩, hw4⟩
    rw [hw4]
    clear hw4
    have hk' : (k : Int) < (T.length : Int) := by omega
    have hk'' : (k : Int) ≤ (T.length : Int) := by omega
    go_wp2_with fail
    refine (HP1.out _ k hk).mono ?_
    rintro e w5 ⟨rfl, hb5⟩
    have HB5 := Lib.hid (HB3.out.trans (hb5.mono HB3.out.size))
    clear hb5
    go_wp2_with fail
    refine (HP2.out _).mono ?_
    rintro e w6 ⟨rfl, hb6⟩
    have HB6 := Lib.hid (HB5.out.trans (hb6.mono HB5.out.size))
    clear hb6
    go_wp2_with fail
    go_ret
    exact ⟨rfl, HB6.out⟩
theorem objCuts_post {w : World} (p : Option Addr) (c : Int) (m : Bs) (hp : p = none ∨ ∃ b o O, p = some ⟨b, o, none⟩ ∧ OA w b o O ∧ ∀ x ∈ O.code, Ob.I64 x.a) : Calls Try.prog 4 #[.pointer p, .int .i64 c, .string (bs m)] w fun e w' => e = .returned (.bool true) ∧ Below w.heap.size w w' := by
  rcases hp with rfl | ⟨b, o, O, rfl, hoa, hc⟩
  · by_cases hl : m.length ≤ 100
    · exact cuts_n none c m hl (small_nil w) (fun W _ => write_nil W)
    · exact cuts_long none c m (by omega) (small_nil w)
  · have hs := small_oa hoa
    rcases hsm : smallB O with _ | _
    · rw [hsm] at hs; exact cuts_big _ c m hs
    · rw [hsm] at hs
      by_cases hl : m.length ≤ 100
      · have hB := small_bd hsm hc
        rcases hr : Ob.rightB O with _ | _
        · exact cuts_n _ c m hl hs (fun W hW => write_n (hoa.below hW) hB hr)
        · exact cuts_r hoa hB hr c m hl hs
      · exact cuts_long _ c m (by omega) hs
end Go.Proofs.Ytljnddcddclmeaa
