/- Parse. -/
import Derived.Test.YtljnddcddclmeaaJ31
namespace Go.Proofs.Ytljnddcddclmeaa
open Go.RowKit
open Ob (Bs)

def ParseP (l : Bs) (e : Ending) (w' : World) : Prop := match parseB l with
  | none => e = .returned (.tuple #[.pointer none, .iface 64 (.int .i64 3)])
  | some O => ∃ ob, e = .returned (.tuple #[.pointer (some ⟨ob, 0, none⟩), .nilIface]) ∧ OA w' ob 0 O
set_option maxRecDepth 100000 in
set_option maxHeartbeats 2000000 in
theorem parse_post (w : World) (l : Bs) (hl : l.length ≤ 1000000000) :
    Calls Try.prog 7 #[.string (bs l)] w fun e w' => ParseP l e w' ∧ Below w.heap.size w w' := by
  have HC := Lib.hid (read_post w l hl)
  rcases ho : Ob.obR l with _ | ⟨O, r⟩
  · have HP : Hid (∀ e w', e = .returned (.tuple #[.pointer none, .iface 64 (.int .i64 3)]) → ParseP l e w') := fun e w' he => by unfold ParseP parseB; rw [ho]; exact he
    have HQ : Hid (∀ e w', ReadP w l e w' → e = .returned (.tuple #[.pointer none, .iface 64 (.int .i64 3)])) := fun e w' he => by unfold ReadP at he; rw [ho] at he; exact he
    clear ho
    generalize ParseP l = PP at *
    go_enter Try.func7, Try.ntmps7
    go_wp2_with fail
    refine HC.out.mono ?_
    rintro e w1 ⟨hb1, hq⟩
    obtain rfl := HQ.out _ _ hq
    clear hq
    go_wp2_with fail
    go_ret2
    exact ⟨HP.out _ _ rfl, hb1⟩
  · have hbd := ob_bd hl ho
    have HBD := Lib.hid hbd
    have HQ : Hid (∀ e w', ReadP w l e w' → ∃ a, e = .returned (.tuple #[.pointer (some a), .nilIface]) ∧ VOb w.heap.size O (.pointer (some a)) w') := fun e w' he => by unfold ReadP at he; rw [ho] at he; exact he
    have HPP : Hid (parseB l = if Ob.rightB O = true ∧ Ob.obW O = l then some O else none) := by show _ = _; unfold parseB; rw [ho]
    clear ho hbd
    by_cases hr : Ob.rightB O = true
    · have HW : Hid (∀ e, WriteP O e → e = .returned (.tuple #[.string (bs (Ob.obW O)), .nilIface])) := fun e he => by unfold WriteP at he; rw [if_pos hr] at he; exact he
      have hbq := bs_beq (Ob.obW O) l
      by_cases he : Ob.obW O = l
      · have heq : ((bs (Ob.obW O)).toList == (bs l).toList) = true := by rw [hbq]; exact decide_eq_true he
        have HP : Hid (∀ e w', (∃ ob, e = .returned (.tuple #[.pointer (some ⟨ob, 0, none⟩), .nilIface]) ∧ OA w' ob 0 O) → ParseP l e w') := fun e w' h => by unfold ParseP; rw [HPP.out, if_pos ⟨hr, he⟩]; exact h
        clear hbq he hr HPP
        generalize Ob.obW O = T at *
        generalize ParseP l = PP at *
        go_enter Try.func7, Try.ntmps7
        go_wp2_with fail
        refine HC.out.mono ?_
        rintro e w1 ⟨hb1, hq⟩
        obtain ⟨a, rfl, hv⟩ := HQ.out _ _ hq
        obtain ⟨ob, rfl, _, hoa⟩ := hv.oa
        have HB1 := Lib.hid hb1
        have HOA := Lib.hid hoa
        clear hq hv hoa hb1 HC
        go_wp2_with fail
        refine (write_oa HOA.out HBD.out).mono ?_
        rintro e w2 ⟨hq, hb2⟩
        obtain rfl := HW.out _ hq
        have HB2 := Lib.hid hb2
        clear hq hb2
        go_wp2_with fail
        go_ret2
        exact ⟨HP.out _ _ ⟨ob, rfl, HOA.out.below HB2.out⟩, HB1.out.trans (HB2.out.mono HB1.out.size)⟩
      · have heq : ((bs (Ob.obW O)).toList == (bs l).toList) = false := by rw [hbq]; exact decide_eq_false he
        have HP : Hid (∀ e w', e = .returned (.tuple #[.pointer none, .iface 64 (.int .i64 3)]) → ParseP l e w') := fun e w' h => by unfold ParseP; rw [HPP.out, if_neg (fun q => he q.2)]; exact h
        clear hbq he hr HPP
        generalize Ob.obW O = T at *
        generalize ParseP l = PP at *
        go_enter Try.func7, Try.ntmps7
        go_wp2_with fail
        refine HC.out.mono ?_
        rintro e w1 ⟨hb1, hq⟩
        obtain ⟨a, rfl, hv⟩ := HQ.out _ _ hq
        obtain ⟨ob, rfl, _, hoa⟩ := hv.oa
        have HB1 := Lib.hid hb1
        have HOA := Lib.hid hoa
        clear hq hv hoa hb1 HC
        go_wp2_with fail
        refine (write_oa HOA.out HBD.out).mono ?_
        rintro e w2 ⟨hq, hb2⟩
        obtain rfl := HW.out _ hq
        have HB2 := Lib.hid hb2
        clear hq hb2
        go_wp2_with fail
        go_ret2
        exact ⟨HP.out _ _ rfl, HB1.out.trans (HB2.out.mono HB1.out.size)⟩
    · have HW : Hid (∀ e, WriteP O e → e = .returned (.tuple #[.string ⟨#[]⟩, .iface 64 (.int .i64 1)])) := fun e he => by unfold WriteP at he; rw [if_neg hr] at he; exact he
      have HP : Hid (∀ e w', e = .returned (.tuple #[.pointer none, .iface 64 (.int .i64 3)]) → ParseP l e w') := fun e w' h => by unfold ParseP; rw [HPP.out, if_neg (fun q => hr q.1)]; exact h
      clear hr HPP
      generalize ParseP l = PP at *
      go_enter Try.func7, Try.ntmps7
      go_wp2_with fail
      refine HC.out.mono ?_
      rintro e w1 ⟨hb1, hq⟩
      obtain ⟨a, rfl, hv⟩ := HQ.out _ _ hq
      obtain ⟨ob, rfl, _, hoa⟩ := hv.oa
      have HB1 := Lib.hid hb1
      have HOA := Lib.hid hoa
      clear hq hv hoa hb1 HC
      go_wp2_with fail
      refine (write_oa HOA.out HBD.out).mono ?_
      rintro e w2 ⟨hq, hb2⟩
      obtain rfl := HW.out _ hq
      have HB2 := Lib.hid hb2
      clear hq hb2
      go_wp2_with fail
      go_ret2
      exact ⟨HP.out _ _ rfl, HB1.out.trans (HB2.out.mono HB1.out.size)⟩
end Go.Proofs.Ytljnddcddclmeaa
