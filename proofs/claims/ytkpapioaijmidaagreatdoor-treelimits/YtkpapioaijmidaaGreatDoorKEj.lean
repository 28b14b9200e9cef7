import Derived.Test.YtkpapioaijmidaaGreatDoorKEi
/- The law's own: an error is this one, and where. -/
namespace Go.Proofs.YtkpapioaijmidaaGreatDoor
open Go.RowKit Go.Extern.Stop Go.Stop Go.Extern

abbrev Hnd (w : World) : Prop := w.cell? ⟨2, 0, none⟩ = some (.iface 149 (.agg #[.pointer (some ⟨11, 38, none⟩)]))
/- what an error value tells: no error, or an At -/
def ErrA (w : World) (v : Value) (n p : Int) : Prop := (v = .nilIface ∧ n = 0 ∧ p = -1) ∨ ∃ ab : Nat, v = .iface 87 (.pointer (some ⟨ab, 0, none⟩)) ∧ w.cell? ⟨ab, 0, none⟩ = some (.int .i64 n) ∧ w.cell? ⟨ab, 1, none⟩ = some (.int .i64 p)
theorem ErrA.below {w w' : World} {v : Value} {n p : Int} (h : ErrA w v n p) (hb : Below w.heap.size w w') : ErrA w' v n p := by
  rcases h with h | ⟨ab, h1, h2, h3⟩
  · exact Or.inl h
  · exact Or.inr ⟨ab, h1, (hb.cell (p := ⟨ab, 0, none⟩) (lt_of_cell h2)).trans h2, (hb.cell (p := ⟨ab, 1, none⟩) (lt_of_cell h3)).trans h3⟩
set_option maxRecDepth 100000 in
set_option maxHeartbeats 400000 in
theorem tell_nil (w : World) : Calls Tryz.prog 48 #[.nilIface] w fun e w' => e = .returned (.int .i64 0) ∧ Below w.heap.size w w' := by
  go_enter Tryz.func48, Tryz.ntmps48
  go_wp2_with fail
  go_ret
  exact ⟨rfl, Below.refl _ _⟩
theorem ta_at (a : Option Addr) (w : World) : (Instr.typeAssert (.iface 87 (.pointer a)) 38 87 true).run Tryz.prog w = .ok (.tuple #[.pointer a, .bool true]) w := by kernel_rfl
set_option maxRecDepth 100000 in
set_option maxHeartbeats 1000000 in
theorem place_nil (w : World) : Calls Tryz.prog 25 #[.nilIface] w fun e w' => e = .returned (.tuple #[.int .i64 0, .int .i64 (-1)]) ∧ Below w.heap.size w w' := by
  have HC := Lib.hid (tell_nil w)
  go_enter Tryz.func25, Tryz.ntmps25
  go_wp2_with fail
  refine HC.out.mono ?_
  rintro e w1 ⟨rfl, hb⟩
  have HB := Lib.hid hb
  clear hb
  go_wp2_with fail
  refine wp_loop_rounds 1 ?_
  rw [rounds_succ]
  go_wp2_with fail
  go_ret2
  exact ⟨rfl, HB.out⟩
set_option maxRecDepth 100000 in
set_option maxHeartbeats 1000000 in
theorem place_at (n p : Int) (ab : Nat) (w : World) (hg : Hnd w) (h0 : w.cell? ⟨ab, 0, none⟩ = some (.int .i64 n)) (h1 : w.cell? ⟨ab, 1, none⟩ = some (.int .i64 p)) : Calls Tryz.prog 25 #[.iface 87 (.pointer (some ⟨ab, 0, none⟩))] w fun e w' => e = .returned (.tuple #[.int .i64 n, .int .i64 p]) ∧ Below w.heap.size w w' := by
  have HC := Lib.hid (tell_at n ab w hg h0)
  have ht := ta_at (some ⟨ab, 0, none⟩)
  clear hg
  go_enter Tryz.func25, Tryz.ntmps25
  go_wp2_with fail
  refine HC.out.mono ?_
  rintro e w1 ⟨rfl, hb⟩
  have c1 : w1.cell? ⟨ab, 1, none⟩ = some (.int .i64 p) := (hb.cell (p := ⟨ab, 1, none⟩) (lt_of_cell h1)).trans h1
  have hl1 := lt_of_cell c1
  have HB := Lib.hid hb
  clear hb h0 h1
  go_wp2_with fail
  refine wp_loop_rounds 1 ?_
  rw [rounds_succ]
  go_wp2_with fail
  go_region
  go_wp2_with fail
  go_ret2
  exact ⟨rfl, HB.out.drew⟩
theorem place_any {w : World} {v : Value} {n p : Int} (hv : ErrA w v n p) (hg : Hnd w) : Calls Tryz.prog 25 #[v] w fun e w' => e = .returned (.tuple #[.int .i64 n, .int .i64 p]) ∧ Below w.heap.size w w' := by
  rcases hv with ⟨rfl, rfl, rfl⟩ | ⟨ab, rfl, h0, h1⟩
  · exact place_nil w
  · exact place_at n p ab w hg h0 h1
set_option maxRecDepth 100000 in
set_option maxHeartbeats 1000000 in
theorem lawIs_any {w : World} {v : Value} {n p : Int} (hv : ErrA w v n p) (hg : Hnd w) : Calls Tryz.prog 7 #[v, .agg #[.int .i64 n, .int .i64 p]] w fun e w' => e = .returned (.bool true) ∧ Below w.heap.size w w' := by
  obtain ⟨w1, hw1⟩ : ∃ w1, w1 = w.alloc (.cells #[.int .i64 n, .int .i64 p] 34) := ⟨_, rfl⟩
  have hb0 : Below w.heap.size w w1 := by rw [hw1]; exact (Below.refl _ _).alloc (Nat.le_refl _) _
  have hk : w1.heap[w.heap.size]? = some (.cells #[.int .i64 n, .int .i64 p] 34 (0, 0)) := by rw [hw1]; exact new_blk _ _
  have hg1 : Hnd w1 := by rw [hw1]; exact cell_alloc' hg _
  have HC := Lib.hid (place_any (hv.below hb0) hg1)
  have HW1 := Lib.hid hw1
  have HB0 := Lib.hid hb0
  have HK := Lib.hid hk
  clear hw1 hb0 hk hg1 hg hv
  go_enter Tryz.func7, Tryz.ntmps7
  go_wp2_with fail
  rw [← HW1.out]
  refine HC.out.mono ?_
  rintro e w2 ⟨rfl, hb⟩
  have HB := Lib.hid (HB0.out.trans (hb.mono HB0.out.size))
  have hk2 := (hb.block w.heap.size (lt_blk HK.out)).trans HK.out
  have c0 : w2.cell? ⟨w.heap.size, 0, none⟩ = some (.int .i64 n) := cell_blk hk2
  have c1 : w2.cell? ⟨w.heap.size, 1, none⟩ = some (.int .i64 p) := cell_blk hk2
  have hl2 : w.heap.size < w2.heap.size := lt_blk hk2
  clear hb hk2 HW1
  go_wp2_with fail
  go_ret
  exact ⟨rfl, HB.out⟩
end Go.Proofs.YtkpapioaijmidaaGreatDoor
