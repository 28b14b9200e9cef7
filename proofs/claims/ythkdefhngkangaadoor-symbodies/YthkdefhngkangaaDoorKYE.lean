import Derived.Test.YthkdefhngkangaaDoorKYD
import Derived.Test.YthkdefhngkangaaDoorKWX
/- A fact: what others see: a closed text; Sum of two texts. -/
namespace Tp
def txt2 : Bs := [109, 111, 100, 117, 108, 101, 32, 109, 59, 32, 118, 97, 114, 32, 121, 42, 58, 32, 105, 110, 116, 59, 32, 118, 97, 114, 32, 120, 58, 32, 105, 110, 116, 59, 32, 112, 114, 111, 99, 32, 102, 42, 40, 97, 44, 32, 98, 41, 59, 32, 98, 101, 103, 105, 110, 32, 101, 110, 100, 59, 32, 98, 101, 103, 105, 110, 32, 101, 110, 100, 46]
def mod2 : M := ⟨[109], [], [⟨[121], 14, 0, true⟩, ⟨[120], 27, 0, false⟩], [⟨[102], 35, true, [[97], [98]], [], []⟩], []⟩
theorem parse2 : parse txt2 = .ok mod2 := by kernel_rfl
theorem syms2 : symsOf mod2 = [([121], 0, -1), ([102], 0, 2)] := by decide
end Tp
namespace Go.Proofs.YthkdefhngkangaaDoor
open Go.RowKit Go.Sort
open Tp (Sy)
theorem srt2 : srt (Tp.symsOf Tp.mod2) = [([102], 0, 2), ([121], 0, -1)] := by
  rw [Tp.syms2]
  unfold srt insS Sort.insertionSort
  rw [Sort.insOuter, if_pos (by decide), Sort.insOuter, if_neg (by decide)]
  decide
theorem prints2 : Tp.printS [([102], 0, 2), ([121], 0, -1)] = [112, 114, 111, 99, 32, 102, 32, 50, 10, 105, 110, 116, 32, 121, 10] := by
  simp [Tp.printS, Tp.lineOf, Tp.wordsL, Tp.wProc, Tp.wInt, Tp.dec_d]
theorem needs2 : Tp.needsS [([102], 0, 2), ([121], 0, -1)] [[102], [120]] = [112, 114, 111, 99, 32, 102, 32, 50, 10, 110, 111, 110, 101, 32, 120, 10] := by
  simp [Tp.needsS, Tp.needS, Tp.findS, Tp.lineOf, Tp.wordsL, Tp.wProc, Tp.dec_d]
set_option maxRecDepth 100000 in
theorem sum_none (w : World) : Calls Tryd.prog 26 #[.string ⟨#[]⟩] w fun e w' => e = .returned (.int .u32 2166136261) ∧ w' = w := by
  go_enter Tryd.func26, Tryd.ntmps26
  go_wp2_with fail
  refine wp_loop_rounds 1 ?_
  rw [rounds_succ]
  go_wp2_with fail
  go_ret
  exact ⟨rfl, rfl⟩
set_option maxRecDepth 100000 in
theorem sum_a (w : World) : Calls Tryd.prog 26 #[.string ⟨#[97]⟩] w fun e w' => e = .returned (.int .u32 3826002220) ∧ w' = w := by
  go_enter Tryd.func26, Tryd.ntmps26
  go_wp2_with fail
  refine wp_loop_rounds 2 ?_
  rw [rounds_succ]
  go_wp2_with fail
  rw [rounds_succ]
  go_wp2_with fail
  go_ret
  exact ⟨rfl, rfl⟩
end Go.Proofs.YthkdefhngkangaaDoor
/- A fact: what others see: seen. -/
namespace Go.Proofs.YthkdefhngkangaaDoor
open Go.RowKit Go.Sort
open Tp (Sy)
theorem small2 : AllSmall [([102], 0, 2), ([121], 0, -1)] := by
  intro s hs
  simp at hs
  rcases hs with rfl | rfl <;> decide
set_option maxRecDepth 100000 in
set_option maxHeartbeats 2000000 in
theorem seen_post {w : World} {B : Nat} (hv : Vars B w) : Calls Tryd.prog 12 #[] w fun e w' => e = .returned (.bool true) ∧ Below w.heap.size w w' := by
  have hp := parse_post w Tp.txt2 (by decide) hv.mks hv.lv
  have HP : Hid (Calls Tryd.prog 8 #[.string ⟨#[109, 111, 100, 117, 108, 101, 32, 109, 59, 32, 118, 97, 114, 32, 121, 42, 58, 32, 105, 110, 116, 59, 32, 118, 97, 114, 32, 120, 58, 32, 105, 110, 116, 59, 32, 112, 114, 111, 99, 32, 102, 42, 40, 97, 44, 32, 98, 41, 59, 32, 98, 101, 103, 105, 110, 32, 101, 110, 100, 59, 32, 98, 101, 103, 105, 110, 32, 101, 110, 100, 46]⟩] w fun e w' => Below w.heap.size w w' ∧ ∃ v, e = .returned (.tuple #[v, .nilIface]) ∧ VM w.heap.size Tp.mod2 v w') := by
    refine hp.mono ?_
    rintro e w' ⟨h1, h2⟩
    unfold ParseP at h2
    rw [Tp.parse2] at h2
    exact ⟨h1, h2⟩
  clear hp hv
  go_enter Tryd.func12, Tryd.ntmps12
  go_wp2_with fail
  refine HP.out.mono ?_
  rintro e w1 ⟨h1, v1, rfl, hvm⟩
  obtain ⟨ia, ga, pa, ba, ic, gc, pc, bc, rfl, hmb⟩ := hvm.mb
  have hal : ∀ ob, Below w1.heap.size w1 (w1.alloc ob) := fun ob => (Below.refl _ _).alloc (Nat.le_refl _) _
  have hof := fun ob => of_post (m := Tp.mod2) (by decide) (by decide) (hmb.up (hal ob))
  rw [srt2] at hof
  have HO : Hid (∀ ob, Calls Tryd.prog 14 #[.agg #[.string ⟨#[109]⟩, .slice ia 0 ic, .slice ga 2 gc, .slice pa 1 pc, .slice ba 0 bc]] (w1.alloc ob) fun e w' => ∃ v, e = .returned v ∧ Below (w1.alloc ob).heap.size (w1.alloc ob) w' ∧ SL w' (w1.alloc ob).heap.size v [([102], 0, 2), ([121], 0, -1)]) := hof
  have H1 := Lib.hid h1
  have HAL := Lib.hid hal
  have e0 : mcells (bs Tp.mod2.name) (.slice ia Tp.mod2.imports.length ic) (.slice ga Tp.mod2.vars.length gc) (.slice pa Tp.mod2.procs.length pc) (.slice ba Tp.mod2.body.length bc) = #[.string ⟨#[109]⟩, .slice ia 0 ic, .slice ga 2 gc, .slice pa 1 pc, .slice ba 0 bc] := rfl
  rw [e0]
  clear hof hal hmb hvm h1 e0 HP
  go_wp2_with fail
  refine (HO.out _).mono ?_
  rintro e w2 ⟨v2, rfl, h2, hsl⟩
  have H2 := Lib.hid ((HAL.out _).trans (h2.mono (by simp)))
  have HSL := Lib.hid hsl
  have hpr := symPrint_post hsl small2 (by simp)
  rw [prints2] at hpr
  have HPR : Hid (Calls Tryd.prog 13 #[v2] w2 fun e w' => e = .returned (.string ⟨#[112, 114, 111, 99, 32, 102, 32, 50, 10, 105, 110, 116, 32, 121, 10]⟩) ∧ Below w2.heap.size w2 w') := hpr
  clear hpr h2 HO hsl
  go_wp2_with fail
  refine HPR.out.mono ?_
  rintro e w3 ⟨rfl, h3⟩
  have hal3 : Below w3.heap.size w3 (w3.alloc (.cells #[.string ⟨#[102]⟩, .string ⟨#[120]⟩] 9)) := (Below.refl _ _).alloc (Nat.le_refl _) _
  have hst : StrsAt (w3.alloc (.cells #[.string ⟨#[102]⟩, .string ⟨#[120]⟩] 9)) [[102], [120]] (some ⟨w3.heap.size, 0, none⟩) := ⟨fun i hi => by
    refine ⟨w3.heap.size, 0, rfl, by simp, ?_⟩
    rw [cell_blk (new_blk _ _), Nat.zero_add]
    match i, hi with
    | 0, _ => rfl
    | 1, _ => rfl⟩
  have hne := needs_post ((HSL.out.on h3).on hal3) small2 (by simp) hst (by decide) (nc := 2) (by simp)
  rw [needs2] at hne
  have HN : Hid (Calls Tryd.prog 19 #[v2, .slice (some ⟨w3.heap.size, 0, none⟩) 2 2] (w3.alloc (.cells #[.string ⟨#[102]⟩, .string ⟨#[120]⟩] 9)) fun e w' => e = .returned (.string ⟨#[112, 114, 111, 99, 32, 102, 32, 50, 10, 110, 111, 110, 101, 32, 120, 10]⟩) ∧ Below (w3.alloc (.cells #[.string ⟨#[102]⟩, .string ⟨#[120]⟩] 9)).heap.size (w3.alloc (.cells #[.string ⟨#[102]⟩, .string ⟨#[120]⟩] 9)) w') := hne
  have H3 := Lib.hid ((H2.out.trans (h3.mono H2.out.size)).trans (hal3.mono (H2.out.trans (h3.mono H2.out.size)).size))
  clear hne hst hal3 h3 HPR
  go_wp2_with fail
  refine HN.out.mono ?_
  rintro e w4 ⟨rfl, h4⟩
  have H4 := Lib.hid (H3.out.trans (h4.mono H3.out.size))
  have HS0 := Lib.hid (sum_none w4)
  have HS1 := Lib.hid (sum_a w4)
  clear h4 HN
  go_wp2_with fail
  refine HS0.out.mono ?_
  rintro e w5 ⟨rfl, rfl⟩
  go_wp2_with fail
  refine HS1.out.mono ?_
  rintro e w6 ⟨rfl, rfl⟩
  go_wp2_with fail
  go_ret
  exact ⟨rfl, H1.out.trans (H4.out.mono H1.out.size)⟩
end Go.Proofs.YthkdefhngkangaaDoor
