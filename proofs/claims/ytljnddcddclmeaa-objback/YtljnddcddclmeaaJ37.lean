/- The fact of chapter 6: written. -/
import Derived.Test.YtljnddcddclmeaaJ34
namespace Go.Proofs.Ytljnddcddclmeaa
open Go.RowKit
open Ob (Bs)

def O0 : Ob.O := ⟨[109], [], [], [], [], [], [⟨1, -3, 0⟩, ⟨17, 0, 0⟩]⟩
def L0 : Bs := [2, 109, 0, 0, 0, 0, 4, 2, 5, 0, 34, 0, 0]
theorem vb_small {u : Nat} (h : u < 128) : Ob.vb u = [UInt8.ofNat u] := by unfold Ob.vb; rw [if_pos h]
theorem num_small {n : Int} {u : Nat} (hz : Ob.zig n = u) (h : u < 128) : Ob.num n = [UInt8.ofNat u] := by unfold Ob.num; rw [hz]; exact vb_small h
theorem O0_w : Ob.obW O0 = L0 := by
  have n0 : Ob.num 0 = [0] := num_small (u := 0) (by decide) (by decide)
  have n1 : Ob.num 1 = [2] := num_small (u := 2) (by decide) (by decide)
  have n2 : Ob.num 2 = [4] := num_small (u := 4) (by decide) (by decide)
  have n3 : Ob.num (-3) = [5] := num_small (u := 5) (by decide) (by decide)
  have n17 : Ob.num 17 = [34] := num_small (u := 34) (by decide) (by decide)
  simp [Ob.obW, Ob.headW, Ob.codeW, Ob.lst, Ob.txt, Ob.inW, O0, n0, n1, n2, n3, n17, L0]
theorem O0_r : Ob.rightB O0 = true := by decide +kernel
theorem O0_bd : Bd O0 := by
  refine ⟨by decide, by decide, fun x hx => by simp [O0] at hx, by decide, fun x hx => by simp [O0] at hx, by decide, fun x hx => by simp [O0] at hx, by decide, by decide, fun x hx => by simp [O0] at hx, by decide, fun x hx => ?_⟩
  simp [O0] at hx
  rcases hx with rfl | rfl <;> (unfold Ob.I64; decide)
theorem O0_p : parseB L0 = some O0 := by
  rw [← O0_w]
  exact parseB_back O0_r O0_bd.c (by rw [O0_w]; decide)
set_option maxRecDepth 100000 in
set_option maxHeartbeats 400000 in
theorem prefix_l (w : World) : Calls Try.prog 38 #[.string ⟨#[2, 109, 0, 0, 0, 0, 4, 2, 5, 0, 34, 0, 0]⟩, .string ⟨#[2, 109, 0, 0, 0, 0, 4, 2, 5, 0]⟩] w fun e w' => e = .returned (.bool true) ∧ w' = w := by
  have hx : (((⟨#[2, 109, 0, 0, 0, 0, 4, 2, 5, 0, 34, 0, 0]⟩ : ByteArray).extract 0 10).toList == [2, 109, 0, 0, 0, 0, 4, 2, 5, 0]) = true := by rw [ByteArray.toList_eq]; rfl
  go_enter Try.func38, Try.ntmps38
  go_wp2_with fail
  go_ret
  exact ⟨rfl, rfl⟩
set_option maxRecDepth 100000 in
set_option maxHeartbeats 400000 in
theorem prefix_s (w : World) : Calls Try.prog 22 #[.string ⟨#[2, 109, 0, 0, 0, 0, 4, 2, 5, 0, 34, 0, 0]⟩, .string ⟨#[2, 109, 0, 0, 0, 0, 4, 2, 5, 0]⟩] w fun e w' => e = .returned (.bool true) ∧ w' = w := by
  go_enter Try.func22, Try.ntmps22
  go_wp2_with fail
  refine (prefix_l w).mono ?_
  rintro e w' ⟨rfl, rfl⟩
  go_wp2_with fail
  go_ret
  exact ⟨rfl, rfl⟩
theorem O0_at (w : World) : OA ((w.alloc (.cells #[.int .i64 1, .int .i64 (-3), .int .i64 0, .int .i64 17, .int .i64 0, .int .i64 0] 45)).alloc (.cells #[.string ⟨#[109]⟩, .slice none 0 0, .slice none 0 0, .slice none 0 0, .slice none 0 0, .slice none 0 0, .slice (some ⟨w.heap.size, 0, none⟩) 2 2] 42)) (w.heap.size + 1) 0 O0 := by
  have h1 := new_blk w (.cells #[.int .i64 1, .int .i64 (-3), .int .i64 0, .int .i64 17, .int .i64 0, .int .i64 0] 45)
  have h2 := new_blk (w.alloc (.cells #[.int .i64 1, .int .i64 (-3), .int .i64 0, .int .i64 17, .int .i64 0, .int .i64 0] 45)) (.cells #[.string ⟨#[109]⟩, .slice none 0 0, .slice none 0 0, .slice none 0 0, .slice none 0 0, .slice none 0 0, .slice (some ⟨w.heap.size, 0, none⟩) 2 2] 42)
  have e : (w.alloc (.cells #[.int .i64 1, .int .i64 (-3), .int .i64 0, .int .i64 17, .int .i64 0, .int .i64 0] 45)).heap.size = w.heap.size + 1 := by simp
  rw [e] at h2
  have h3 : ((w.alloc (.cells #[.int .i64 1, .int .i64 (-3), .int .i64 0, .int .i64 17, .int .i64 0, .int .i64 0] 45)).alloc (.cells #[.string ⟨#[109]⟩, .slice none 0 0, .slice none 0 0, .slice none 0 0, .slice none 0 0, .slice none 0 0, .slice (some ⟨w.heap.size, 0, none⟩) 2 2] 42)).heap[w.heap.size]? = some (.cells #[.int .i64 1, .int .i64 (-3), .int .i64 0, .int .i64 17, .int .i64 0, .int .i64 0] 45 (0, 0)) := (Below.heap_alloc _ _ _ (by simp)).trans h1
  generalize (w.alloc (.cells #[.int .i64 1, .int .i64 (-3), .int .i64 0, .int .i64 17, .int .i64 0, .int .i64 0] 45)).alloc (.cells #[.string ⟨#[109]⟩, .slice none 0 0, .slice none 0 0, .slice none 0 0, .slice none 0 0, .slice none 0 0, .slice (some ⟨w.heap.size, 0, none⟩) 2 2] 42) = W at *
  have hnil : ∀ k, Sl W (.slice none 0 0) k 0 [] := fun k => ⟨_, _, rfl, by simp, fun j u hj => by simp at hj⟩
  refine ⟨none, none, none, none, none, some ⟨w.heap.size, 0, none⟩, 0, 0, 0, 0, 0, 2, ⟨(cell_blk h2).trans rfl, (cell_blk h2).trans rfl, (cell_blk h2).trans rfl, (cell_blk h2).trans rfl, (cell_blk h2).trans rfl, (cell_blk h2).trans rfl, (cell_blk h2).trans rfl, hnil 3, ⟨[], rfl, hnil 3⟩, hnil 4, hnil 3, hnil 1, ⟨_, _, rfl, rfl, fun j u hj => ⟨w.heap.size, 0, rfl, ?_⟩⟩⟩⟩
  rw [cell_blk h3, Nat.zero_add]
  rw [← hj]
  match j with
  | 0 | 1 | 2 | 3 | 4 | 5 => rfl
  | j + 6 => simp [cellsOf, O0, inC]
set_option maxRecDepth 100000 in
set_option maxHeartbeats 2000000 in
theorem written_any (w : World) : Calls Try.prog 6 #[] w fun e w' => e = .returned (.bool true) ∧ Below w.heap.size w w' := by
  have hb0 : Below w.heap.size w ((w.alloc (.cells #[.int .i64 1, .int .i64 (-3), .int .i64 0, .int .i64 17, .int .i64 0, .int .i64 0] 45)).alloc (.cells #[.string ⟨#[109]⟩, .slice none 0 0, .slice none 0 0, .slice none 0 0, .slice none 0 0, .slice none 0 0, .slice (some ⟨w.heap.size, 0, none⟩) 2 2] 42)) := ((Below.refl _ _).alloc (Nat.le_refl _) _).alloc (by simp) _
  have HB0 := Lib.hid hb0
  have HC := Lib.hid (write_oa (O0_at w) O0_bd)
  have HW : Hid (∀ e, WriteP O0 e → e = .returned (.tuple #[.string ⟨#[2, 109, 0, 0, 0, 0, 4, 2, 5, 0, 34, 0, 0]⟩, .nilIface])) := fun e he => by unfold WriteP at he; rw [if_pos O0_r, O0_w] at he; exact he
  have HP : Hid (∀ W, Calls Try.prog 7 #[.string ⟨#[2, 109, 0, 0, 0, 0, 4, 2, 5, 0, 34, 0, 0]⟩] W fun e w' => (∃ ob, e = .returned (.tuple #[.pointer (some ⟨ob, 0, none⟩), .nilIface]) ∧ OA w' ob 0 O0) ∧ Below W.heap.size W w') := fun W => (parse_post W L0 (by decide)).mono (fun e w' h => by
    refine ⟨?_, h.2⟩
    have := h.1
    unfold ParseP at this
    rw [O0_p] at this
    exact this)
  clear hb0
  go_enter Try.func6, Try.ntmps6
  go_wp2_with fail
  refine HC.out.mono ?_
  rintro e w1 ⟨hq, hb1⟩
  obtain rfl := HW.out _ hq
  have HB1 := Lib.hid (HB0.out.trans (hb1.mono HB0.out.size))
  clear hq hb1 HC
  go_wp2_with fail
  refine (HP.out _).mono ?_
  rintro e w2 ⟨⟨ob, rfl, hoa⟩, hb2⟩
  have HB2 := Lib.hid (HB1.out.trans (hb2.mono HB1.out.size))
  obtain ⟨sa, ua, va, pa, na, ca, sc, uc, vc, pc, nc, cc, hV⟩ := hoa
  have c6 : w2.cell? ⟨ob, 6, none⟩ = some (.slice ca 2 cc) := hV.c6
  have hol := lt_of_cell c6
  obtain ⟨g, go, rfl, hgl, hcell⟩ := hV.c.at' inC_len (by omega) 0 (by decide)
  have e1 : w2.cell? ⟨g, go + 1, none⟩ = some (.int .i64 (-3)) := by have := hcell 1 _ rfl; simpa [O0] using this
  clear hV hcell hb2
  go_wp2_with (first | (go_at_call 22; refine (prefix_s _).mono ?_; rintro e w3 ⟨rfl, hw3⟩; rw [hw3]; clear hw3))
  go_ret
  exact ⟨rfl, HB2.out⟩
theorem pick_rng (a : Int) (n : Nat) (hn : 0 < n) : 0 ≤ (IntKind.u64.wrap a).tmod n ∧ (IntKind.u64.wrap a).tmod n < (n : Int) := by
  have h0 : 0 ≤ IntKind.u64.wrap a := by rw [IntKind.wrap_u64]; omega
  rw [Int.tmod_eq_emod_of_nonneg h0]
  exact ⟨Int.emod_nonneg _ (by omega), Int.emod_lt_of_pos _ (by omega)⟩
set_option maxRecDepth 100000 in
set_option maxHeartbeats 400000 in
theorem pick_any (w : World) (a : Int) (n : Nat) (hn : 0 < n) (hn' : n ≤ 1000000000) : Calls Try.prog 13 #[.int .i64 a, .int .i64 (n : Int)] w fun e w' => (∃ k : Nat, k < n ∧ e = .returned (.int .i64 (k : Int))) ∧ w' = w := by
  have h0 : ((n : Int) == 0) = false := by simp; omega
  go_enter Try.func13, Try.ntmps13
  go_wp2_with fail
  go_ret
  refine ⟨⟨((IntKind.u64.wrap a).tmod n).toNat, ?_, ?_⟩, rfl⟩
  · have h1 := pick_rng a n hn
    omega
  · have h1 := pick_rng a n hn
    have e : wrap64 ((IntKind.u64.wrap a).tmod n) = (((IntKind.u64.wrap a).tmod n).toNat : Int) := by unfold wrap64; omega
    show Ending.returned (.int .i64 (wrap64 ((IntKind.u64.wrap a).tmod n))) = _
    rw [e]
end Go.Proofs.Ytljnddcddclmeaa
