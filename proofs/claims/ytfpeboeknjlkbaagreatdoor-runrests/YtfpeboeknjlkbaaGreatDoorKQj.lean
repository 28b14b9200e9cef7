import Derived.Test.YtfpeboeknjlkbaaGreatDoorKQa
import Derived.Test.YtfpeboeknjlkbaaGreatDoorKQi
/- Chapter 4: how it ended: way; what goes defers. -/
namespace Go.Proofs.YtfpeboeknjlkbaaGreatDoor
open Go.RowKit Go.Maps
open Tp (Bs X S G Pr Pt Rs Rr Own)

theorem ta_way (n : Int) (w : World) : (Instr.typeAssert (.iface 180 (.int .i64 n)) 20 180 true).run Tryz.prog w = .ok (.tuple #[.int .i64 n, .bool true]) w := by kernel_rfl
set_option maxRecDepth 100000 in
theorem way_nil (w : World) : Calls Tryz.prog 87 #[.nilIface] w fun e w' => e = .returned (.int .i64 1) ∧ w' = w := by
  go_enter Tryz.func87, Tryz.ntmps87
  go_wp2_with fail
  go_ret
  exact ⟨rfl, rfl⟩
set_option maxRecDepth 100000 in
theorem way_end (n : Int) (w : World) : Calls Tryz.prog 87 #[.iface endT (.int .i64 n)] w fun e w' => e = .returned (.int .i64 n) ∧ w' = w := by
  unfold endT
  have hta := ta_way n
  go_enter Tryz.func87, Tryz.ntmps87
  go_wp2_with fail
  go_ret
  exact ⟨rfl, rfl⟩
def gops : Array Oper := #[{ dst := some 2, op := Op.call { callee := Callee.builtin Builtin.recover, args := #[], argTypes := #[] }, type := 20, pos := "going.go:19", after := #[], guard := none },
  { dst := some 3, op := Op.call { callee := Callee.value (Operand.func 87), args := #[Operand.tmp 2], argTypes := #[20] }, type := 3, pos := "going.go:19", after := #[{ on := 0, ground := Ground.data }, { on := 0, ground := Ground.chain }], guard := none },
  { dst := some 4, op := Op.load 96 (Operand.tmp 0), type := 96, pos := "going.go:19", after := #[], guard := none },
  { dst := some 5, op := Op.nilCheck (Operand.tmp 4), type := 0, pos := "going.go:19", after := #[{ on := 2, ground := Ground.data }], guard := none },
  { dst := some 6, op := Op.fieldAddr 153 (Operand.tmp 5) 3, type := 0, pos := "going.go:19", after := #[{ on := 3, ground := Ground.data }], guard := none },
  { dst := some 7, op := Op.load 41 (Operand.tmp 6), type := 41, pos := "going.go:19", after := #[{ on := 4, ground := Ground.data }], guard := none },
  { dst := some 8, op := Op.build 43 #[(0, Operand.tmp 3), (1, Operand.tmp 7)], type := 43, pos := "going.go:19", after := #[{ on := 1, ground := Ground.data }, { on := 5, ground := Ground.data }], guard := none },
  { dst := none, op := Op.store 43 (Operand.tmp 1) (Operand.tmp 8), type := 0, pos := "going.go:19", after := #[{ on := 6, ground := Ground.data }, { on := 1, ground := Ground.chain }, { on := 0, ground := Ground.phase }, { on := 1, ground := Ground.phase }, { on := 2, ground := Ground.phase }, { on := 3, ground := Ground.phase }, { on := 4, ground := Ground.phase }, { on := 5, ground := Ground.phase }, { on := 6, ground := Ground.phase }], guard := none }]
set_option linter.unusedSimpArgs false in
set_option maxRecDepth 100000 in
set_option maxHeartbeats 4000000 in
theorem glate_ord {gx eb gb on oc : Nat} {oa : Option Addr} {rv : Value} {n : Int} {c₀ c1 : Frame} {cs : List Frame} {wd : World} {Q : Exit → Act → List Frame → World → Prop} (hrec : recoverD (c₀ :: cs) = some (rv, c1 :: cs) ∨ recoverD (c₀ :: cs) = none ∧ rv = .nilIface ∧ c1 = c₀)
    (hway : ∀ w, Calls Tryz.prog 87 #[rv] w fun e w' => e = .returned (.int .i64 n) ∧ w' = w) (k0 : wd.cell? ⟨gx, 0, none⟩ = some (.pointer (some ⟨gb, 0, none⟩))) (k3 : wd.cell? ⟨gb, 3, none⟩ = some (.slice oa on oc)) {x0 x1 : Value} (e0 : wd.cell? ⟨eb, 0, none⟩ = some x0) (e1 : wd.cell? ⟨eb, 1, none⟩ = some x1) (z0 : wd.frozen? ⟨eb, 0, none⟩ = false) (z1 : wd.frozen? ⟨eb, 1, none⟩ = false)
    (hQ : Q .normal { tmps := #[.pointer (some ⟨gx, 0, none⟩), .pointer (some ⟨eb, 0, none⟩), rv, .int .i64 n, .pointer (some ⟨gb, 0, none⟩), .pointer (some ⟨gb, 0, none⟩), .pointer (some ⟨gb, 3, none⟩), .slice oa on oc, .agg #[.int .i64 n, .slice oa on oc]], defers := [] } (c1 :: cs) ((wd.setCell ⟨eb, 0, none⟩ (.int .i64 n)).setCell ⟨eb, 1, none⟩ (.slice oa on oc))) :
    wpOrd Tryz.prog .any gops Q 8 #[false, false, false, false, false, false, false, false] { tmps := #[.pointer (some ⟨gx, 0, none⟩), .pointer (some ⟨eb, 0, none⟩), undef, undef, undef, undef, undef, undef, undef], defers := [] } (c₀ :: cs) wd := by
  have hgl := lt_of_cell k0
  have hgbl := lt_of_cell k3
  have hel := lt_of_cell e0
  have s_e : wpOrd Tryz.prog .any gops Q 0 #[true, true, true, true, true, true, true, true] { tmps := #[.pointer (some ⟨gx, 0, none⟩), .pointer (some ⟨eb, 0, none⟩), rv, .int .i64 n, .pointer (some ⟨gb, 0, none⟩), .pointer (some ⟨gb, 0, none⟩), .pointer (some ⟨gb, 3, none⟩), .slice oa on oc, .agg #[.int .i64 n, .slice oa on oc]], defers := [] } (c1 :: cs) ((wd.setCell ⟨eb, 0, none⟩ (.int .i64 n)).setCell ⟨eb, 1, none⟩ (.slice oa on oc)) := by
    exact ⟨by kernel_rfl, hQ⟩
  have s_7 : wpOrd Tryz.prog .any gops Q 1 #[true, true, true, true, true, true, true, false] { tmps := #[.pointer (some ⟨gx, 0, none⟩), .pointer (some ⟨eb, 0, none⟩), rv, .int .i64 n, .pointer (some ⟨gb, 0, none⟩), .pointer (some ⟨gb, 0, none⟩), .pointer (some ⟨gb, 3, none⟩), .slice oa on oc, .agg #[.int .i64 n, .slice oa on oc]], defers := [] } (c1 :: cs) wd := by
    rw [wpOrd, show Region.ready .any gops #[true, true, true, true, true, true, true, false] = [7] from by kernel_rfl]
    refine ⟨fun h => (by cases h), fun i hi => ?_⟩
    rw [List.mem_singleton] at hi
    subst hi
    simp [wpOp1, gops, go_sem, Region.wanted, k0, k3, e0, e1, z0, z1]
    exact s_e
  have s_2_4 : wpOrd Tryz.prog .any gops Q 2 #[true, true, true, true, true, true, false, false] { tmps := #[.pointer (some ⟨gx, 0, none⟩), .pointer (some ⟨eb, 0, none⟩), rv, .int .i64 n, .pointer (some ⟨gb, 0, none⟩), .pointer (some ⟨gb, 0, none⟩), .pointer (some ⟨gb, 3, none⟩), .slice oa on oc, undef], defers := [] } (c1 :: cs) wd := by
    rw [wpOrd, show Region.ready .any gops #[true, true, true, true, true, true, false, false] = [6] from by kernel_rfl]
    refine ⟨fun h => (by cases h), fun i hi => ?_⟩
    rw [List.mem_singleton] at hi
    subst hi
    simp [wpOp1, gops, go_sem, Region.wanted, k0, k3, e0, e1, z0, z1]
    exact s_7
  have s_2_3 : wpOrd Tryz.prog .any gops Q 3 #[true, true, true, true, true, false, false, false] { tmps := #[.pointer (some ⟨gx, 0, none⟩), .pointer (some ⟨eb, 0, none⟩), rv, .int .i64 n, .pointer (some ⟨gb, 0, none⟩), .pointer (some ⟨gb, 0, none⟩), .pointer (some ⟨gb, 3, none⟩), undef, undef], defers := [] } (c1 :: cs) wd := by
    rw [wpOrd, show Region.ready .any gops #[true, true, true, true, true, false, false, false] = [5] from by kernel_rfl]
    refine ⟨fun h => (by cases h), fun i hi => ?_⟩
    rw [List.mem_singleton] at hi
    subst hi
    simp [wpOp1, gops, go_sem, Region.wanted, k0, k3, e0, e1, z0, z1]
    exact s_2_4
  have s_1_4 : wpOrd Tryz.prog .any gops Q 3 #[true, false, true, true, true, true, false, false] { tmps := #[.pointer (some ⟨gx, 0, none⟩), .pointer (some ⟨eb, 0, none⟩), rv, undef, .pointer (some ⟨gb, 0, none⟩), .pointer (some ⟨gb, 0, none⟩), .pointer (some ⟨gb, 3, none⟩), .slice oa on oc, undef], defers := [] } (c1 :: cs) wd := by
    rw [wpOrd, show Region.ready .any gops #[true, false, true, true, true, true, false, false] = [1] from by kernel_rfl]
    refine ⟨fun h => (by cases h), fun i hi => ?_⟩
    rw [List.mem_singleton] at hi
    subst hi
    simp [wpOp1, gops, go_sem, Region.wanted]
    refine (hway wd).mono ?_
    rintro e w' ⟨rfl, rfl⟩
    exact s_2_4
  have s_2_2 : wpOrd Tryz.prog .any gops Q 4 #[true, true, true, true, false, false, false, false] { tmps := #[.pointer (some ⟨gx, 0, none⟩), .pointer (some ⟨eb, 0, none⟩), rv, .int .i64 n, .pointer (some ⟨gb, 0, none⟩), .pointer (some ⟨gb, 0, none⟩), undef, undef, undef], defers := [] } (c1 :: cs) wd := by
    rw [wpOrd, show Region.ready .any gops #[true, true, true, true, false, false, false, false] = [4] from by kernel_rfl]
    refine ⟨fun h => (by cases h), fun i hi => ?_⟩
    rw [List.mem_singleton] at hi
    subst hi
    simp [wpOp1, gops, go_sem, Region.wanted, k0, k3, e0, e1, z0, z1]
    exact s_2_3
  have s_1_3 : wpOrd Tryz.prog .any gops Q 4 #[true, false, true, true, true, false, false, false] { tmps := #[.pointer (some ⟨gx, 0, none⟩), .pointer (some ⟨eb, 0, none⟩), rv, undef, .pointer (some ⟨gb, 0, none⟩), .pointer (some ⟨gb, 0, none⟩), .pointer (some ⟨gb, 3, none⟩), undef, undef], defers := [] } (c1 :: cs) wd := by
    rw [wpOrd, show Region.ready .any gops #[true, false, true, true, true, false, false, false] = [1, 5] from by kernel_rfl]
    refine ⟨fun h => (by cases h), fun i hi => ?_⟩
    rcases List.mem_cons.1 hi with hi | hi
    · subst hi
      simp [wpOp1, gops, go_sem, Region.wanted]
      refine (hway wd).mono ?_
      rintro e w' ⟨rfl, rfl⟩
      exact s_2_3
    · rw [List.mem_singleton] at hi
      subst hi
      simp [wpOp1, gops, go_sem, Region.wanted, k0, k3, e0, e1, z0, z1]
      exact s_1_4
  have s_0_4 : wpOrd Tryz.prog .any gops Q 4 #[false, false, true, true, true, true, false, false] { tmps := #[.pointer (some ⟨gx, 0, none⟩), .pointer (some ⟨eb, 0, none⟩), undef, undef, .pointer (some ⟨gb, 0, none⟩), .pointer (some ⟨gb, 0, none⟩), .pointer (some ⟨gb, 3, none⟩), .slice oa on oc, undef], defers := [] } (c₀ :: cs) wd := by
    rw [wpOrd, show Region.ready .any gops #[false, false, true, true, true, true, false, false] = [0] from by kernel_rfl]
    refine ⟨fun h => (by cases h), fun i hi => ?_⟩
    rw [List.mem_singleton] at hi
    subst hi
    rcases hrec with hr | ⟨hr, hv, hc⟩
    · simp [wpOp1, gops, go_sem, Region.wanted, hr]
      exact s_1_4
    · subst hv hc
      simp [wpOp1, gops, go_sem, Region.wanted, hr]
      exact s_1_4
  have s_2_1 : wpOrd Tryz.prog .any gops Q 5 #[true, true, true, false, false, false, false, false] { tmps := #[.pointer (some ⟨gx, 0, none⟩), .pointer (some ⟨eb, 0, none⟩), rv, .int .i64 n, .pointer (some ⟨gb, 0, none⟩), undef, undef, undef, undef], defers := [] } (c1 :: cs) wd := by
    rw [wpOrd, show Region.ready .any gops #[true, true, true, false, false, false, false, false] = [3] from by kernel_rfl]
    refine ⟨fun h => (by cases h), fun i hi => ?_⟩
    rw [List.mem_singleton] at hi
    subst hi
    simp [wpOp1, gops, go_sem, Region.wanted, k0, k3, e0, e1, z0, z1]
    exact s_2_2
  have s_1_2 : wpOrd Tryz.prog .any gops Q 5 #[true, false, true, true, false, false, false, false] { tmps := #[.pointer (some ⟨gx, 0, none⟩), .pointer (some ⟨eb, 0, none⟩), rv, undef, .pointer (some ⟨gb, 0, none⟩), .pointer (some ⟨gb, 0, none⟩), undef, undef, undef], defers := [] } (c1 :: cs) wd := by
    rw [wpOrd, show Region.ready .any gops #[true, false, true, true, false, false, false, false] = [1, 4] from by kernel_rfl]
    refine ⟨fun h => (by cases h), fun i hi => ?_⟩
    rcases List.mem_cons.1 hi with hi | hi
    · subst hi
      simp [wpOp1, gops, go_sem, Region.wanted]
      refine (hway wd).mono ?_
      rintro e w' ⟨rfl, rfl⟩
      exact s_2_2
    · rw [List.mem_singleton] at hi
      subst hi
      simp [wpOp1, gops, go_sem, Region.wanted, k0, k3, e0, e1, z0, z1]
      exact s_1_3
  have s_0_3 : wpOrd Tryz.prog .any gops Q 5 #[false, false, true, true, true, false, false, false] { tmps := #[.pointer (some ⟨gx, 0, none⟩), .pointer (some ⟨eb, 0, none⟩), undef, undef, .pointer (some ⟨gb, 0, none⟩), .pointer (some ⟨gb, 0, none⟩), .pointer (some ⟨gb, 3, none⟩), undef, undef], defers := [] } (c₀ :: cs) wd := by
    rw [wpOrd, show Region.ready .any gops #[false, false, true, true, true, false, false, false] = [0, 5] from by kernel_rfl]
    refine ⟨fun h => (by cases h), fun i hi => ?_⟩
    rcases List.mem_cons.1 hi with hi | hi
    · subst hi
      rcases hrec with hr | ⟨hr, hv, hc⟩
      · simp [wpOp1, gops, go_sem, Region.wanted, hr]
        exact s_1_3
      · subst hv hc
        simp [wpOp1, gops, go_sem, Region.wanted, hr]
        exact s_1_3
    · rw [List.mem_singleton] at hi
      subst hi
      simp [wpOp1, gops, go_sem, Region.wanted, k0, k3, e0, e1, z0, z1]
      exact s_0_4
  have s_2_0 : wpOrd Tryz.prog .any gops Q 6 #[true, true, false, false, false, false, false, false] { tmps := #[.pointer (some ⟨gx, 0, none⟩), .pointer (some ⟨eb, 0, none⟩), rv, .int .i64 n, undef, undef, undef, undef, undef], defers := [] } (c1 :: cs) wd := by
    rw [wpOrd, show Region.ready .any gops #[true, true, false, false, false, false, false, false] = [2] from by kernel_rfl]
    refine ⟨fun h => (by cases h), fun i hi => ?_⟩
    rw [List.mem_singleton] at hi
    subst hi
    simp [wpOp1, gops, go_sem, Region.wanted, k0, k3, e0, e1, z0, z1]
    exact s_2_1
  have s_1_1 : wpOrd Tryz.prog .any gops Q 6 #[true, false, true, false, false, false, false, false] { tmps := #[.pointer (some ⟨gx, 0, none⟩), .pointer (some ⟨eb, 0, none⟩), rv, undef, .pointer (some ⟨gb, 0, none⟩), undef, undef, undef, undef], defers := [] } (c1 :: cs) wd := by
    rw [wpOrd, show Region.ready .any gops #[true, false, true, false, false, false, false, false] = [1, 3] from by kernel_rfl]
    refine ⟨fun h => (by cases h), fun i hi => ?_⟩
    rcases List.mem_cons.1 hi with hi | hi
    · subst hi
      simp [wpOp1, gops, go_sem, Region.wanted]
      refine (hway wd).mono ?_
      rintro e w' ⟨rfl, rfl⟩
      exact s_2_1
    · rw [List.mem_singleton] at hi
      subst hi
      simp [wpOp1, gops, go_sem, Region.wanted, k0, k3, e0, e1, z0, z1]
      exact s_1_2
  have s_0_2 : wpOrd Tryz.prog .any gops Q 6 #[false, false, true, true, false, false, false, false] { tmps := #[.pointer (some ⟨gx, 0, none⟩), .pointer (some ⟨eb, 0, none⟩), undef, undef, .pointer (some ⟨gb, 0, none⟩), .pointer (some ⟨gb, 0, none⟩), undef, undef, undef], defers := [] } (c₀ :: cs) wd := by
    rw [wpOrd, show Region.ready .any gops #[false, false, true, true, false, false, false, false] = [0, 4] from by kernel_rfl]
    refine ⟨fun h => (by cases h), fun i hi => ?_⟩
    rcases List.mem_cons.1 hi with hi | hi
    · subst hi
      rcases hrec with hr | ⟨hr, hv, hc⟩
      · simp [wpOp1, gops, go_sem, Region.wanted, hr]
        exact s_1_2
      · subst hv hc
        simp [wpOp1, gops, go_sem, Region.wanted, hr]
        exact s_1_2
    · rw [List.mem_singleton] at hi
      subst hi
      simp [wpOp1, gops, go_sem, Region.wanted, k0, k3, e0, e1, z0, z1]
      exact s_0_3
  have s_1_0 : wpOrd Tryz.prog .any gops Q 7 #[true, false, false, false, false, false, false, false] { tmps := #[.pointer (some ⟨gx, 0, none⟩), .pointer (some ⟨eb, 0, none⟩), rv, undef, undef, undef, undef, undef, undef], defers := [] } (c1 :: cs) wd := by
    rw [wpOrd, show Region.ready .any gops #[true, false, false, false, false, false, false, false] = [1, 2] from by kernel_rfl]
    refine ⟨fun h => (by cases h), fun i hi => ?_⟩
    rcases List.mem_cons.1 hi with hi | hi
    · subst hi
      simp [wpOp1, gops, go_sem, Region.wanted]
      refine (hway wd).mono ?_
      rintro e w' ⟨rfl, rfl⟩
      exact s_2_0
    · rw [List.mem_singleton] at hi
      subst hi
      simp [wpOp1, gops, go_sem, Region.wanted, k0, k3, e0, e1, z0, z1]
      exact s_1_1
  have s_0_1 : wpOrd Tryz.prog .any gops Q 7 #[false, false, true, false, false, false, false, false] { tmps := #[.pointer (some ⟨gx, 0, none⟩), .pointer (some ⟨eb, 0, none⟩), undef, undef, .pointer (some ⟨gb, 0, none⟩), undef, undef, undef, undef], defers := [] } (c₀ :: cs) wd := by
    rw [wpOrd, show Region.ready .any gops #[false, false, true, false, false, false, false, false] = [0, 3] from by kernel_rfl]
    refine ⟨fun h => (by cases h), fun i hi => ?_⟩
    rcases List.mem_cons.1 hi with hi | hi
    · subst hi
      rcases hrec with hr | ⟨hr, hv, hc⟩
      · simp [wpOp1, gops, go_sem, Region.wanted, hr]
        exact s_1_1
      · subst hv hc
        simp [wpOp1, gops, go_sem, Region.wanted, hr]
        exact s_1_1
    · rw [List.mem_singleton] at hi
      subst hi
      simp [wpOp1, gops, go_sem, Region.wanted, k0, k3, e0, e1, z0, z1]
      exact s_0_2
  have s_0_0 : wpOrd Tryz.prog .any gops Q 8 #[false, false, false, false, false, false, false, false] { tmps := #[.pointer (some ⟨gx, 0, none⟩), .pointer (some ⟨eb, 0, none⟩), undef, undef, undef, undef, undef, undef, undef], defers := [] } (c₀ :: cs) wd := by
    rw [wpOrd, show Region.ready .any gops #[false, false, false, false, false, false, false, false] = [0, 2] from by kernel_rfl]
    refine ⟨fun h => (by cases h), fun i hi => ?_⟩
    rcases List.mem_cons.1 hi with hi | hi
    · subst hi
      rcases hrec with hr | ⟨hr, hv, hc⟩
      · simp [wpOp1, gops, go_sem, Region.wanted, hr]
        exact s_1_0
      · subst hv hc
        simp [wpOp1, gops, go_sem, Region.wanted, hr]
        exact s_1_0
    · rw [List.mem_singleton] at hi
      subst hi
      simp [wpOp1, gops, go_sem, Region.wanted, k0, k3, e0, e1, z0, z1]
      exact s_0_1
  exact s_0_0
end Go.Proofs.YtfpeboeknjlkbaaGreatDoor
/- Chapter 4: what goes on, from its beginning to its end: goes. -/
namespace Go.Proofs.YtfpeboeknjlkbaaGreatDoor
open Go.RowKit Go.Maps
open Tp (Bs X S G Pr Pt Rs Rr Own)

theorem glate {gx eb gb on oc : Nat} {oa : Option Addr} {rv : Value} {n : Int} {u u1 : FrameMode} {w : World} (hrec : (∃ older, u = .panicking ({ v := rv, recovered := false } :: older) ∧ u1 = .panicking ({ v := rv, recovered := true } :: older)) ∨ u = .returning ∧ rv = .nilIface ∧ u1 = .returning)
    (hway : ∀ w, Calls Tryz.prog 87 #[rv] w fun e w' => e = .returned (.int .i64 n) ∧ w' = w) (k0 : w.cell? ⟨gx, 0, none⟩ = some (.pointer (some ⟨gb, 0, none⟩))) (k3 : w.cell? ⟨gb, 3, none⟩ = some (.slice oa on oc)) {x0 x1 : Value} (e0 : w.cell? ⟨eb, 0, none⟩ = some x0) (e1 : w.cell? ⟨eb, 1, none⟩ = some x1) (z0 : w.frozen? ⟨eb, 0, none⟩ = false) (z1 : w.frozen? ⟨eb, 1, none⟩ = false) :
    CallsD Tryz.prog 86 #[.pointer (some ⟨gx, 0, none⟩), .pointer (some ⟨eb, 0, none⟩)] u w fun e u' w' => e = .returned (.tuple #[]) ∧ u' = u1 ∧ w' = (w.drew.setCell ⟨eb, 0, none⟩ (.int .i64 n)).setCell ⟨eb, 1, none⟩ (.slice oa on oc) := by
  refine callsD_of_wpS Tryz.func86 rfl fun c₀ cs hu => ?_
  refine wpS_region_ord (by kernel_rfl) ?_
  have hr : recoverD (c₀ :: cs) = some (rv, { c₀ with mode := u1 } :: cs) ∨ recoverD (c₀ :: cs) = none ∧ rv = .nilIface ∧ ({ c₀ with mode := u1 } : Frame) = c₀ := by
    rcases hrec with ⟨older, h1, h2⟩ | ⟨h1, h2, h3⟩
    · refine Or.inl ?_
      simp [recoverD, hu, h1, h2]
    · refine Or.inr ⟨?_, h2, ?_⟩
      · simp [recoverD, hu, h1]
      · rw [h3, ← h1, ← hu]
  exact glate_ord (wd := w.drew) hr hway k0 k3 e0 e1 z0 z1 ⟨rfl, u1, rfl, _, results_none rfl _ _ _, rfl, rfl, rfl⟩
def goesW (w : World) (tv : Option Nat) (fuel : Int) : World := ((w.alloc (.cells #[.int .i64 0, .slice none 0 0] 43)).alloc (.cells #[.map tv, .int .i64 fuel, .int .i64 0, .slice none 0 0] 153)).alloc (.cells #[.pointer (some ⟨w.heap.size + 1, 0, none⟩)] 96)
/- what is kept for the end, whatever is done -/
def GoHeld (w w1 w2 : World) : Prop := w2.heap[w.heap.size]? = w1.heap[w.heap.size]? ∧ w2.heap[w.heap.size + 2]? = w1.heap[w.heap.size + 2]? ∧ ∃ oa on oc, w2.cell? ⟨w.heap.size + 1, 3, none⟩ = some (.slice oa on oc)
def GoesP (w : World) (A : Int → World → Prop) (e : Ending) (w' : World) : Prop := ∃ w2 way oa on oc, A way w2 ∧ w2.cell? ⟨w.heap.size + 1, 3, none⟩ = some (.slice oa on oc) ∧ e = .returned (.agg #[.int .i64 way, .slice oa on oc]) ∧ Ext w.heap.size w2 w'
set_option maxRecDepth 100000 in
set_option maxHeartbeats 2000000 in
theorem goes_post {w : World} {wb : Nat} {tv : Option Nat} {fuel : Int} {f : FuncId} {caps : Array Value} {A : Int → World → Prop} (hcf : ∀ (args : Array Value) (w : World), (callFunc f args).run Tryz.prog w = .ok (.enter f args) w) (hw : w.cell? ⟨wb, 1, none⟩ = some (.map tv))
    (hdo : Calls Tryz.prog f (#[.pointer (some ⟨w.heap.size + 1, 0, none⟩)] ++ caps) (goesW w tv fuel) fun e w2 => GoHeld w (goesW w tv fuel) w2 ∧ ((e = .returned (.tuple #[]) ∧ A 1 w2) ∨ ∃ way : Int, thrE endT way e ∧ A way w2)) :
    Calls Tryz.prog 43 #[.pointer (some ⟨wb, 0, none⟩), .int .i64 fuel, .func (.func f) #[] caps] w (GoesP w A) := by
  have hmf : ∀ (fn : Fn) (first cap : Array Value) (w : World), (Instr.makeFunc fn first cap).run Tryz.prog w = .ok (.func fn first cap) w := fun _ _ _ _ => rfl
  have hwl := lt_of_cell hw
  obtain ⟨w1, hw1⟩ : ∃ w1, w1 = goesW w tv fuel := ⟨_, rfl⟩
  have hb1 : w1.heap[w.heap.size]? = some (.cells #[.int .i64 0, .slice none 0 0] 43 (0, 0)) := by
    rw [hw1]; unfold goesW
    exact ((Below.heap_alloc _ _ _ (by simp; omega)).trans (Below.heap_alloc _ _ _ (by simp))).trans (new_blk _ _)
  have hb3 : w1.heap[w.heap.size + 2]? = some (.cells #[.pointer (some ⟨w.heap.size + 1, 0, none⟩)] 96 (0, 0)) := by
    rw [hw1]; unfold goesW
    have := new_blk ((w.alloc (.cells #[.int .i64 0, .slice none 0 0] 43)).alloc (.cells #[.map tv, .int .i64 fuel, .int .i64 0, .slice none 0 0] 153)) (.cells #[.pointer (some ⟨w.heap.size + 1, 0, none⟩)] 96)
    simpa using this
  rw [← hw1] at hdo
  have HDO := Lib.hid hdo
  have k2 : w1.cell? ⟨w.heap.size + 2, 0, none⟩ = some (.pointer (some ⟨w.heap.size + 1, 0, none⟩)) := (cell_blk hb3).trans rfl
  have hs2 : w.heap.size + 2 < w1.heap.size := lt_blk hb3
  have HB1 := Lib.hid hb1
  have HB3 := Lib.hid hb3
  -- the end
  have HEND : Hid (∀ (w2 : World) (way : Int) (rv : Value) (u : FrameMode) (u1 : FrameMode), settle u1 = .returning → ((∃ older, u = .panicking ({ v := rv, recovered := false } :: older) ∧ u1 = .panicking ({ v := rv, recovered := true } :: older)) ∨ u = .returning ∧ rv = .nilIface ∧ u1 = .returning) → (∀ w, Calls Tryz.prog 87 #[rv] w fun e w' => e = .returned (.int .i64 way) ∧ w' = w) → GoHeld w w1 w2 → A way w2 → ∀ W, Ext w.heap.size w2 W → W.heap[w.heap.size]? = w1.heap[w.heap.size]? → W.heap[w.heap.size + 1]? = w2.heap[w.heap.size + 1]? →
      CallsD Tryz.prog 86 #[.pointer (some ⟨w.heap.size + 2, 0, none⟩), .pointer (some ⟨w.heap.size, 0, none⟩)] u W fun e u' w'' => (∃ v, e = .returned v) ∧ settle u' = .returning ∧ ∃ oa on oc, w''.cell? ⟨w.heap.size, 0, none⟩ = some (.int .i64 way) ∧ w''.cell? ⟨w.heap.size, 1, none⟩ = some (.slice oa on oc) ∧ GoesP w A (.returned (.agg #[.int .i64 way, .slice oa on oc])) w'') := by
    intro w2 way rv u u1 hst hrec hway hh hA W hx hWe hWg
    obtain ⟨g1, g2, oa, on, oc, g3⟩ := hh
    have heb := hWe.trans HB1.out
    have hgx : W.heap[w.heap.size + 2]? = some (.cells #[.pointer (some ⟨w.heap.size + 1, 0, none⟩)] 96 (0, 0)) := by
      rw [hx.block _ (by have := lt_blk (g2.trans HB3.out); omega) (by omega), g2]
      exact HB3.out
    have hg3 : W.cell? ⟨w.heap.size + 1, 3, none⟩ = some (.slice oa on oc) := (World.cell?_of_block (w := w2) hWg).trans g3
    refine (glate hrec hway ((cell_blk hgx).trans rfl) hg3 ((cell_blk heb).trans rfl) ((cell_blk heb).trans rfl) (frozen_blk heb) (frozen_blk heb)).mono ?_
    rintro e u' w'' ⟨rfl, rfl, rfl⟩
    have hfin := set_blk 1 (.slice oa on oc) (set_blk 0 (.int .i64 way) (show W.drew.heap[w.heap.size]? = _ from heb))
    refine ⟨⟨_, rfl⟩, hst, oa, on, oc, (cell_blk hfin).trans rfl, (cell_blk hfin).trans rfl, w2, way, oa, on, oc, hA, g3, rfl, ?_⟩
    have hd : Ext w.heap.size W W.drew := ⟨rfl, rfl, rfl, Nat.le_refl _, fun _ _ _ => rfl⟩
    exact ((hx.trans hd).set 0 _).set 1 _
  clear hdo hb1 hb3
  unfold goesW at hw1
  go_enter_defers Tryz.func43, Tryz.ntmps43
  go_upto_region 3 with fail
  rw [← hw1]
  clear hw1
  go_wp2_with fail
  refine HDO.out.mono ?_
  rintro e w2 ⟨hh, hq⟩
  rcases hq with ⟨rfl, hA⟩ | ⟨way, ⟨older, rfl⟩, hA⟩
  · have hE := hh.1.trans HB1.out
    have e0 : w2.cell? ⟨w.heap.size, 0, none⟩ = some (.int .i64 0) := (cell_blk hE).trans rfl
    have e1 : w2.cell? ⟨w.heap.size, 1, none⟩ = some (.slice none 0 0) := (cell_blk hE).trans rfl
    have z0 : ∀ j, w2.frozen? ⟨w.heap.size, j, none⟩ = false := fun j => frozen_blk hE
    have hel := lt_blk hE
    have hset := set_blk 1 (.slice none 0 0) (set_blk 0 (.int .i64 0) hE)
    have HL := Lib.hid (HEND.out w2 1 .nilIface .returning .returning rfl (Or.inr ⟨rfl, rfl, rfl⟩) way_nil hh hA ((w2.setCell ⟨w.heap.size, 0, none⟩ (.int .i64 0)).setCell ⟨w.heap.size, 1, none⟩ (.slice none 0 0)) (((Ext.refl _ _).set 0 _).set 1 _) (hset.trans HB1.out.symm) ((set_frame _ (by omega)).trans (set_frame _ (by omega))))
    clear hh hA hE hset HEND HDO k2
    go_wp2_with fail
    refine leaves_cons (f := 86) (args := #[.pointer (some ⟨w.heap.size + 2, 0, none⟩), .pointer (some ⟨w.heap.size, 0, none⟩)]) (by simp) (by simp [go_sem]) ?_
    refine HL.out.mono ?_
    rintro e u' w'' ⟨⟨v, rfl⟩, hst, oa, on, oc, q0, q1, hfin⟩
    simp [Leaves, hst, results, Tryz.results43, go_sem, q0, q1]
    exact hfin
  · have HL := Lib.hid (HEND.out w2 way (.iface endT (.int .i64 way)) (.panicking ({ v := .iface endT (.int .i64 way), recovered := false } :: older.1)) (.panicking ({ v := .iface endT (.int .i64 way), recovered := true } :: older.1)) (by simp [settle, drop_goexit older]) (Or.inl ⟨older.1, rfl, rfl⟩) (way_end way) hh hA w2 (Ext.refl _ _) hh.1 rfl)
    clear hh hA HEND HDO k2
    go_wp2_with fail
    refine leaves_cons (f := 86) (args := #[.pointer (some ⟨w.heap.size + 2, 0, none⟩), .pointer (some ⟨w.heap.size, 0, none⟩)]) (by simp) (by simp [go_sem]) ?_
    refine HL.out.mono ?_
    rintro e u' w'' ⟨⟨v, rfl⟩, hst, oa, on, oc, q0, q1, hfin⟩
    simp [Leaves, hst, results, Tryz.results43, go_sem, q0, q1]
    exact hfin
end Go.Proofs.YtfpeboeknjlkbaaGreatDoor
/- Chapter 4: a module whose variables are all 0: fresh. -/
namespace Go.Proofs.YtfpeboeknjlkbaaGreatDoor
open Go.RowKit Go.Maps
open Tp (Bs X S G Pr Pt Rs Rr Own)

/- variables that were laid: each in a block of its own -/
structure Laid (w : World) (B vb : Nat) (gs : List G) (i : Nat) (sl : Bs → Nat) : Prop where
  map : MapV w vb i (fun k => ((gs.take i).find? fun g => g.name == k).map fun g => .slice (some ⟨sl k, 0, none⟩) (vlen g) (vlen g))
  at' : ∀ g ∈ gs.take i, B ≤ sl g.name ∧ w.heap[sl g.name]? = some (.cells (ints (List.replicate (vlen g) 0)).toArray 2 (0, 0))
  inj : ∀ g ∈ gs.take i, ∀ g' ∈ gs.take i, sl g.name = sl g'.name → g.name = g'.name
theorem vlen_max (g : G) : max (g.len : Int) 1 = (vlen g : Int) := by unfold vlen; split <;> omega
theorem Laid.add {w w3 : World} {B vb : Nat} {gs : List G} {i : Nat} {sl : Bs → Nat} (h : Laid w B vb gs i sl) (hi : i < gs.length) (hn : (gs.map (·.name)).Nodup) (hB : B ≤ w.heap.size) (_ : vb < w.heap.size)
    (hm : MapV w3 vb (i + 1) (updV (fun k => ((gs.take i).find? fun g => g.name == k).map fun g => .slice (some ⟨sl k, 0, none⟩) (vlen g) (vlen g)) gs[i].name (.slice (some ⟨w.heap.size, 0, none⟩) (vlen gs[i]) (vlen gs[i]))))
    (hx : ∀ b, b < w.heap.size → b ≠ vb → w3.heap[b]? = w.heap[b]?) (hnew : w3.heap[w.heap.size]? = some (.cells (ints (List.replicate (vlen gs[i]) 0)).toArray 2 (0, 0))) (hne : ∀ g ∈ gs.take i, sl g.name ≠ vb) : Laid w3 B vb gs (i + 1) (fun k => if k = gs[i].name then w.heap.size else sl k) := by
  have hnm : ∀ g ∈ gs.take i, g.name ≠ gs[i].name := fun g hg e => by
    obtain ⟨j, hj, rfl⟩ := List.getElem_of_mem hg
    rw [List.length_take] at hj
    rw [List.getElem_take] at e
    have := (List.getElem_inj (h₀ := by simp; omega) (h₁ := by simpa using hi) hn (i := j) (j := i)).1 (by simpa using e)
    omega
  have hlt : ∀ g ∈ gs.take i, sl g.name < w.heap.size := fun g hg => lt_blk (h.at' g hg).2
  have htk : gs.take (i + 1) = gs.take i ++ [gs[i]] := List.take_succ_eq_append_getElem hi
  refine ⟨?_, fun g hg => ?_, fun g hg g' hg' e => ?_⟩
  · have ef : updV (fun k => ((gs.take i).find? fun g => g.name == k).map fun g => Value.slice (some ⟨sl k, 0, none⟩) (vlen g) (vlen g)) gs[i].name (.slice (some ⟨w.heap.size, 0, none⟩) (vlen gs[i]) (vlen gs[i])) = fun k => ((gs.take (i + 1)).find? fun g => g.name == k).map fun g => .slice (some ⟨if k = gs[i].name then w.heap.size else sl k, 0, none⟩) (vlen g) (vlen g) := by
      funext k
      unfold updV
      rw [htk, List.find?_append]
      by_cases e : k = gs[i].name
      · rw [if_pos e]
        have : (gs.take i).find? (fun g => g.name == k) = none := by
          rw [List.find?_eq_none]
          intro g hg q
          exact hnm g hg ((by simpa using q : g.name = k).trans e)
        rw [this]
        simp [e]
      · rw [if_neg e]
        have : ([gs[i]] : List G).find? (fun g => g.name == k) = none := by
          rw [List.find?_eq_none]
          intro g hg q
          rw [List.mem_singleton] at hg
          subst hg
          exact e (by simpa using q : gs[i].name = k).symm
        rw [this]
        simp [e]
    rw [← ef]
    exact hm
  · rw [htk] at hg
    rcases List.mem_append.1 hg with q | q
    · rw [if_neg (hnm g q)]
      exact ⟨(h.at' g q).1, (hx _ (hlt g q) (hne g q)).trans (h.at' g q).2⟩
    · rw [List.mem_singleton] at q
      subst q
      rw [if_pos rfl]
      exact ⟨hB, hnew⟩
  · rw [htk] at hg hg'
    rcases List.mem_append.1 hg with q | q <;> rcases List.mem_append.1 hg' with q' | q'
    · rw [if_neg (hnm g q), if_neg (hnm g' q')] at e
      exact h.inj g q g' q' e
    · rw [List.mem_singleton] at q'
      subst q'
      rw [if_neg (hnm g q), if_pos rfl] at e
      have := hlt g q
      omega
    · rw [List.mem_singleton] at q
      subst q
      rw [if_pos rfl, if_neg (hnm g' q')] at e
      have := hlt g' q'
      omega
    · rw [List.mem_singleton] at q q'
      rw [q, q']
end Go.Proofs.YtfpeboeknjlkbaaGreatDoor
