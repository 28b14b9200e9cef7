import Derived.Test.YtkpapioaijmidaaGreatDoorKWf
import Derived.Lib.Hide
/- The law's own: the same texts, variables. -/
namespace Go.Proofs.YtkpapioaijmidaaGreatDoor
open Go.RowKit
open Tp (Tok hd tx at' stp X S G Pr)
theorem drewN_cell (w : World) (n : Nat) (a : Addr) : (w.drewN n).cell? a = w.cell? a := by
  by_cases h : a.block < w.heap.size
  · exact (below_drewN (Below.refl w.heap.size w) n).cell (p := a) h
  · have hs : ∀ W : World, ¬ a.block < W.heap.size → W.cell? a = none := fun W hW => by
      rcases hc : W.cell? a with _ | u
      · rfl
      · exact absurd (World.block_lt_of_cell? _ _ hc) hW
    rw [hs w h, hs _ (by simpa using h)]
theorem Row.at' {w : World} {D : Nat → Prop} {e size : Nat} {a : Option Addr} {n c : Nat} {cs : List Value} (h : Row w D e size (.slice a n c) n cs) (i : Nat) (hi : i < n) :
    ∃ g : Nat, a = some ⟨g, 0, none⟩ ∧ g < w.heap.size ∧ n ≤ 9223372036854775807 ∧ ∀ j, j < size → w.cell? ⟨g, i * size + j, none⟩ = cs[i * size + j]? := by
  rcases h with ⟨q, q', _⟩ | ⟨g, cap, cur, q0, q1, q2, q3, q4, q5, q6⟩
  · omega
  · cases q0
    refine ⟨g, rfl, lt_blk q2, by unfold maxLen at q4; omega, fun j hj => ?_⟩
    have h1 : i * size + j < n * size := by
      have : (i + 1) * size ≤ n * size := Nat.mul_le_mul_right _ hi
      rw [Nat.succ_mul] at this
      omega
    rw [cell_blk q2, ← Array.getElem?_toList, ← q6, List.getElem?_take_of_lt h1]
theorem Row.step {w w' : World} {D : Nat → Prop} {e size : Nat} {v : Value} {n : Nat} {cs : List Value} (h : Row w D e size v n cs) (k : Below w.heap.size w w') : Row w' D e size v n cs := h.mono fun b hb hl => ⟨k.block b hl, hb⟩
theorem Row.long {w : World} {D : Nat → Prop} {e size : Nat} {a : Option Addr} {n c : Nat} {cs : List Value} (h : Row w D e size (.slice a n c) n cs) : n ≤ 9223372036854775807 := by
  rcases h with ⟨q, q', _⟩ | ⟨g, cap, cur, q0, q1, q2, q3, q4, q5, q6⟩
  · omega
  · unfold maxLen at q4; omega
theorem strs_at (l : List (List UInt8)) (i : Nat) (h : i < l.length) : (strs l)[i]? = some (.string (bs l[i])) := by
  simp [strs, h]
set_option maxRecDepth 100000 in
set_option maxHeartbeats 1000000 in
theorem sameTexts_eq {w : World} {D : Nat → Prop} {a b : Option Addr} {c d : Nat} {l : List (List UInt8)} (hA : Row w D 9 1 (.slice a l.length c) l.length (strs l)) (hB : Row w D 9 1 (.slice b l.length d) l.length (strs l)) :
    Calls Tryz.prog 26 #[.slice a l.length c, .slice b l.length d] w fun e w' => e = .returned (.bool true) ∧ ∃ m, w' = w.drewN m := by
  have hn' : (l.length : Int) ≤ 9223372036854775807 := by have := hA.long; omega
  have HA := Lib.hid hA
  have HB := Lib.hid hB
  clear hA hB
  go_enter Tryz.func26, Tryz.ntmps26
  go_wp2_with fail
  go_loopg [5] l.length (fun k vi wr => ∃ i n : Nat, i ≤ l.length ∧ k = l.length - i ∧ vi = .int .i64 (i : Int) ∧ wr = w.drewN n)
  case atStart => exact ⟨0, 0, by omega, by omega, rfl, rfl⟩
  case round =>
    obtain ⟨i, n, hid, hk, rfl, hwr⟩ := hrel
    by_cases hlt : i < l.length
    · have hlt' : (i : Int) < (l.length : Int) := by omega
      obtain ⟨g, rfl, hgl, _, hcell⟩ := HA.out.at' i hlt
      obtain ⟨g2, rfl, hgl2, _, hcell2⟩ := HB.out.at' i hlt
      have e0 : (w.drewN n).cell? ⟨g, i, none⟩ = some (.string (bs l[i])) := by have := hcell 0 (by omega); rw [Nat.mul_one, Nat.add_zero, strs_at l i hlt] at this; exact (drewN_cell w n _).trans this
      have d0 : (w.drewN n).cell? ⟨g2, i, none⟩ = some (.string (bs l[i])) := by have := hcell2 0 (by omega); rw [Nat.mul_one, Nat.add_zero, strs_at l i hlt] at this; exact (drewN_cell w n _).trans this
      rw [← hwr] at e0 d0
      have HWR := Lib.hid hwr
      clear hwr
      have hz1 : g < wr.heap.size := lt_of_cell e0
      have hz2 : g2 < wr.heap.size := lt_of_cell d0
      clear hcell hcell2
      generalize l[i] = x at *
      go_wp2_with fail
      go_quiet (fail)
      have HW2 : Hid (wr.drewN nq = w.drewN (n + nq)) := by show _ = _; rw [HWR.out, World.drewN_drewN]
      go_wp2_with fail
      go_roundg (l.length - (i + 1))
      case measure => omega
      case rel => exact ⟨i + 1, n + nq, by omega, rfl, by go_num, HW2.out⟩
    · have hlt' : ¬ (i : Int) < (l.length : Int) := by omega
      have HWR := Lib.hid hwr
      clear hwr
      go_wp2_with fail
      go_ret
      exact ⟨rfl, n, HWR.out⟩
theorem gcs_at (l : List G) (i : Nat) (h : i < l.length) (j : Nat) (hj : j < 4) : (gcs l)[i * 4 + j]? = [Value.string (bs l[i].name), .int .i64 (l[i].pos : Int), .int .i64 (l[i].len : Int), .bool l[i].seen][j]? := by
  induction l generalizing i with
  | nil => exact absurd h (by simp)
  | cons g l ih =>
    have e : gcs (g :: l) = [Value.string (bs g.name), .int .i64 (g.pos : Int), .int .i64 (g.len : Int), .bool g.seen] ++ gcs l := by simp [gcs, gcells]
    rw [e]
    cases i with
    | zero => rw [List.getElem?_append_left (by simp; omega)]; simp
    | succ i =>
      rw [List.getElem?_append_right (by simp; omega)]
      have := ih i (by simpa using h)
      simp only [List.getElem_cons_succ]
      rw [← this]
      congr 1
      simp; omega
set_option maxRecDepth 100000 in
set_option maxHeartbeats 1000000 in
theorem sameVars_eq {w : World} {D : Nat → Prop} {a b : Option Addr} {c d : Nat} {l : List G} (hA : Row w D 59 4 (.slice a l.length c) l.length (gcs l)) (hB : Row w D 59 4 (.slice b l.length d) l.length (gcs l)) :
    Calls Tryz.prog 27 #[.slice a l.length c, .slice b l.length d] w fun e w' => e = .returned (.bool true) ∧ ∃ m, w' = w.drewN m := by
  have hn' : (l.length : Int) ≤ 9223372036854775807 := by have := hA.long; omega
  have HA := Lib.hid hA
  have HB := Lib.hid hB
  clear hA hB
  go_enter Tryz.func27, Tryz.ntmps27
  go_wp2_with fail
  go_loopg [5] l.length (fun k vi wr => ∃ i n : Nat, i ≤ l.length ∧ k = l.length - i ∧ vi = .int .i64 (i : Int) ∧ wr = w.drewN n)
  case atStart => exact ⟨0, 0, by omega, by omega, rfl, rfl⟩
  case round =>
    obtain ⟨i, n, hid, hk, rfl, hwr⟩ := hrel
    by_cases hlt : i < l.length
    · have hlt' : (i : Int) < (l.length : Int) := by omega
      obtain ⟨g, rfl, hgl, _, hcell⟩ := HA.out.at' i hlt
      obtain ⟨g2, rfl, hgl2, _, hcell2⟩ := HB.out.at' i hlt
      have e0 : (w.drewN n).cell? ⟨g, i * 4, none⟩ = some (.string (bs l[i].name)) := (drewN_cell w n _).trans ((hcell 0 (by omega)).trans (gcs_at l i hlt 0 (by omega)))
      have e1 : (w.drewN n).cell? ⟨g, i * 4 + 1, none⟩ = some (.int .i64 (l[i].pos : Int)) := (drewN_cell w n _).trans ((hcell 1 (by omega)).trans (gcs_at l i hlt 1 (by omega)))
      have e2 : (w.drewN n).cell? ⟨g, i * 4 + 2, none⟩ = some (.int .i64 (l[i].len : Int)) := (drewN_cell w n _).trans ((hcell 2 (by omega)).trans (gcs_at l i hlt 2 (by omega)))
      have e3 : (w.drewN n).cell? ⟨g, i * 4 + 3, none⟩ = some (.bool l[i].seen) := (drewN_cell w n _).trans ((hcell 3 (by omega)).trans (gcs_at l i hlt 3 (by omega)))
      have d0 : (w.drewN n).cell? ⟨g2, i * 4, none⟩ = some (.string (bs l[i].name)) := (drewN_cell w n _).trans ((hcell2 0 (by omega)).trans (gcs_at l i hlt 0 (by omega)))
      have d1 : (w.drewN n).cell? ⟨g2, i * 4 + 1, none⟩ = some (.int .i64 (l[i].pos : Int)) := (drewN_cell w n _).trans ((hcell2 1 (by omega)).trans (gcs_at l i hlt 1 (by omega)))
      have d2 : (w.drewN n).cell? ⟨g2, i * 4 + 2, none⟩ = some (.int .i64 (l[i].len : Int)) := (drewN_cell w n _).trans ((hcell2 2 (by omega)).trans (gcs_at l i hlt 2 (by omega)))
      have d3 : (w.drewN n).cell? ⟨g2, i * 4 + 3, none⟩ = some (.bool l[i].seen) := (drewN_cell w n _).trans ((hcell2 3 (by omega)).trans (gcs_at l i hlt 3 (by omega)))
      rw [← hwr] at e0 d0 e1 d1 e2 d2 e3 d3
      have HWR := Lib.hid hwr
      clear hwr
      have hz1 : g < wr.heap.size := lt_of_cell e0
      have hz2 : g2 < wr.heap.size := lt_of_cell d0
      clear hcell hcell2
      generalize l[i] = x at *
      go_wp2_with fail
      go_quiet (fail)
      have HW2 : Hid (wr.drewN nq = w.drewN (n + nq)) := by show _ = _; rw [HWR.out, World.drewN_drewN]
      go_wp2_with fail
      go_roundg (l.length - (i + 1))
      case measure => omega
      case rel => exact ⟨i + 1, n + nq, by omega, rfl, by go_num, HW2.out⟩
    · have hlt' : ¬ (i : Int) < (l.length : Int) := by omega
      have HWR := Lib.hid hwr
      clear hwr
      go_wp2_with fail
      go_ret
      exact ⟨rfl, n, HWR.out⟩
end Go.Proofs.YtkpapioaijmidaaGreatDoor
