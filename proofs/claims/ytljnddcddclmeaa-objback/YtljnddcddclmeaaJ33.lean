/- Lists that are the same. -/
import Derived.Test.YtljnddcddclmeaaJ32
namespace Go.Proofs.Ytljnddcddclmeaa
open Go.RowKit
open Ob (Bs)

set_option maxRecDepth 100000 in
set_option maxHeartbeats 1000000 in
theorem eqStr {w : World} {a b : Option Addr} {c d : Nat} {l : List Bs} (hA : Sl w (.slice a l.length c) 1 l.length (cellsOf stC l)) (hB : Sl w (.slice b l.length d) 1 l.length (cellsOf stC l)) (hn : l.length ≤ 1000000) :
    Calls Try.prog 32 #[.slice a l.length c, .slice b l.length d] w fun e w' => e = .returned (.bool true) ∧ Below w.heap.size w w' := by
  have hn' : (l.length : Int) ≤ 1000000 := by omega
  have HA := Lib.hid hA
  have HB := Lib.hid hB
  clear hA hB
  go_enter Try.func32, Try.ntmps32
  go_wp2_with fail
  go_loopg [13] l.length (fun k vi wr => ∃ i : Nat, i ≤ l.length ∧ k = l.length - i ∧ vi = .int .i64 (i : Int) ∧ Hid (Below w.heap.size w wr))
  case atStart => exact ⟨0, by omega, by omega, rfl, Below.refl _ _⟩
  case round =>
    obtain ⟨i, hid, hk, rfl, HW⟩ := hrel
    by_cases hlt : i < l.length
    · have hlt' : (i : Int) < (l.length : Int) := by omega
      obtain ⟨g, go, rfl, hgl, hcell⟩ := HA.out.at' stC_len (by omega) i hlt
      obtain ⟨g2, go2, rfl, hgl2, hcell2⟩ := HB.out.at' stC_len (by omega) i hlt
      have e0 : wr.cell? ⟨g, go + i, none⟩ = some (.string (bs l[i])) := (HW.out.cell (p := ⟨g, go + i, none⟩) hgl).trans (by have q := hcell 0 _ rfl; rw [Nat.mul_one, Nat.add_zero] at q; exact q)
      have d0 : wr.cell? ⟨g2, go2 + i, none⟩ = some (.string (bs l[i])) := (HW.out.cell (p := ⟨g2, go2 + i, none⟩) hgl2).trans (by have q := hcell2 0 _ rfl; rw [Nat.mul_one, Nat.add_zero] at q; exact q)
      have hz1 : g < wr.heap.size := lt_of_cell e0
      have hz2 : g2 < wr.heap.size := lt_of_cell d0
      clear hcell hcell2
      generalize l[i] = x at *
      go_wp2_with fail
      go_quiet (fail)
      have HW2 := Lib.hid (HW.out.trans ((below_drewN wr nq).mono HW.out.size))
      go_wp2_with fail
      go_roundg (l.length - (i + 1))
      case measure => omega
      case rel => exact ⟨i + 1, by omega, rfl, by go_num, HW2⟩
    · have hlt' : ¬ (i : Int) < (l.length : Int) := by omega
      go_wp2_with fail
      go_ret
      exact ⟨rfl, HW.out⟩
set_option maxRecDepth 100000 in
set_option maxHeartbeats 1000000 in
theorem eqSym {w : World} {a b : Option Addr} {c d : Nat} {l : List Ob.Sm} (hA : Sl w (.slice a l.length c) 3 l.length (cellsOf smC l)) (hB : Sl w (.slice b l.length d) 3 l.length (cellsOf smC l)) (hn : l.length ≤ 1000000) :
    Calls Try.prog 29 #[.slice a l.length c, .slice b l.length d] w fun e w' => e = .returned (.bool true) ∧ Below w.heap.size w w' := by
  have hn' : (l.length : Int) ≤ 1000000 := by omega
  have HA := Lib.hid hA
  have HB := Lib.hid hB
  clear hA hB
  go_enter Try.func29, Try.ntmps29
  go_wp2_with fail
  go_loopg [13] l.length (fun k vi wr => ∃ i : Nat, i ≤ l.length ∧ k = l.length - i ∧ vi = .int .i64 (i : Int) ∧ Hid (Below w.heap.size w wr))
  case atStart => exact ⟨0, by omega, by omega, rfl, Below.refl _ _⟩
  case round =>
    obtain ⟨i, hid, hk, rfl, HW⟩ := hrel
    by_cases hlt : i < l.length
    · have hlt' : (i : Int) < (l.length : Int) := by omega
      obtain ⟨g, go, rfl, hgl, hcell⟩ := HA.out.at' smC_len (by omega) i hlt
      obtain ⟨g2, go2, rfl, hgl2, hcell2⟩ := HB.out.at' smC_len (by omega) i hlt
      have e0 : wr.cell? ⟨g, go + i * 3, none⟩ = some (.string (bs l[i].name)) := (HW.out.cell (p := ⟨g, go + i * 3, none⟩) hgl).trans (hcell 0 _ rfl)
      have e1 : wr.cell? ⟨g, go + i * 3 + 1, none⟩ = some (.int .i64 l[i].len) := (HW.out.cell (p := ⟨g, go + i * 3 + 1, none⟩) hgl).trans (hcell 1 _ rfl)
      have e2 : wr.cell? ⟨g, go + i * 3 + 2, none⟩ = some (.int .i64 l[i].args) := (HW.out.cell (p := ⟨g, go + i * 3 + 2, none⟩) hgl).trans (hcell 2 _ rfl)
      have d0 : wr.cell? ⟨g2, go2 + i * 3, none⟩ = some (.string (bs l[i].name)) := (HW.out.cell (p := ⟨g2, go2 + i * 3, none⟩) hgl2).trans (hcell2 0 _ rfl)
      have d1 : wr.cell? ⟨g2, go2 + i * 3 + 1, none⟩ = some (.int .i64 l[i].len) := (HW.out.cell (p := ⟨g2, go2 + i * 3 + 1, none⟩) hgl2).trans (hcell2 1 _ rfl)
      have d2 : wr.cell? ⟨g2, go2 + i * 3 + 2, none⟩ = some (.int .i64 l[i].args) := (HW.out.cell (p := ⟨g2, go2 + i * 3 + 2, none⟩) hgl2).trans (hcell2 2 _ rfl)
      have hz1 : g < wr.heap.size := lt_of_cell e0
      have hz2 : g2 < wr.heap.size := lt_of_cell d0
      clear hcell hcell2
      generalize l[i] = x at *
      go_wp2_with fail
      go_quiet (fail)
      have HW2 := Lib.hid (HW.out.trans ((below_drewN wr nq).mono HW.out.size))
      go_wp2_with fail
      go_roundg (l.length - (i + 1))
      case measure => omega
      case rel => exact ⟨i + 1, by omega, rfl, by go_num, HW2⟩
    · have hlt' : ¬ (i : Int) < (l.length : Int) := by omega
      go_wp2_with fail
      go_ret
      exact ⟨rfl, HW.out⟩
set_option maxRecDepth 100000 in
set_option maxHeartbeats 1000000 in
theorem eqGl {w : World} {a b : Option Addr} {c d : Nat} {l : List Ob.Gl} (hA : Sl w (.slice a l.length c) 4 l.length (cellsOf glC l)) (hB : Sl w (.slice b l.length d) 4 l.length (cellsOf glC l)) (hn : l.length ≤ 1000000) :
    Calls Try.prog 33 #[.slice a l.length c, .slice b l.length d] w fun e w' => e = .returned (.bool true) ∧ Below w.heap.size w w' := by
  have hn' : (l.length : Int) ≤ 1000000 := by omega
  have HA := Lib.hid hA
  have HB := Lib.hid hB
  clear hA hB
  go_enter Try.func33, Try.ntmps33
  go_wp2_with fail
  go_loopg [13] l.length (fun k vi wr => ∃ i : Nat, i ≤ l.length ∧ k = l.length - i ∧ vi = .int .i64 (i : Int) ∧ Hid (Below w.heap.size w wr))
  case atStart => exact ⟨0, by omega, by omega, rfl, Below.refl _ _⟩
  case round =>
    obtain ⟨i, hid, hk, rfl, HW⟩ := hrel
    by_cases hlt : i < l.length
    · have hlt' : (i : Int) < (l.length : Int) := by omega
      obtain ⟨g, go, rfl, hgl, hcell⟩ := HA.out.at' glC_len (by omega) i hlt
      obtain ⟨g2, go2, rfl, hgl2, hcell2⟩ := HB.out.at' glC_len (by omega) i hlt
      have e0 : wr.cell? ⟨g, go + i * 4, none⟩ = some (.string (bs l[i].name)) := (HW.out.cell (p := ⟨g, go + i * 4, none⟩) hgl).trans (hcell 0 _ rfl)
      have e1 : wr.cell? ⟨g, go + i * 4 + 1, none⟩ = some (.int .i64 l[i].at') := (HW.out.cell (p := ⟨g, go + i * 4 + 1, none⟩) hgl).trans (hcell 1 _ rfl)
      have e2 : wr.cell? ⟨g, go + i * 4 + 2, none⟩ = some (.int .i64 l[i].len) := (HW.out.cell (p := ⟨g, go + i * 4 + 2, none⟩) hgl).trans (hcell 2 _ rfl)
      have e3 : wr.cell? ⟨g, go + i * 4 + 3, none⟩ = some (.bool l[i].seen) := (HW.out.cell (p := ⟨g, go + i * 4 + 3, none⟩) hgl).trans (hcell 3 _ rfl)
      have d0 : wr.cell? ⟨g2, go2 + i * 4, none⟩ = some (.string (bs l[i].name)) := (HW.out.cell (p := ⟨g2, go2 + i * 4, none⟩) hgl2).trans (hcell2 0 _ rfl)
      have d1 : wr.cell? ⟨g2, go2 + i * 4 + 1, none⟩ = some (.int .i64 l[i].at') := (HW.out.cell (p := ⟨g2, go2 + i * 4 + 1, none⟩) hgl2).trans (hcell2 1 _ rfl)
      have d2 : wr.cell? ⟨g2, go2 + i * 4 + 2, none⟩ = some (.int .i64 l[i].len) := (HW.out.cell (p := ⟨g2, go2 + i * 4 + 2, none⟩) hgl2).trans (hcell2 2 _ rfl)
      have d3 : wr.cell? ⟨g2, go2 + i * 4 + 3, none⟩ = some (.bool l[i].seen) := (HW.out.cell (p := ⟨g2, go2 + i * 4 + 3, none⟩) hgl2).trans (hcell2 3 _ rfl)
      have hz1 : g < wr.heap.size := lt_of_cell e0
      have hz2 : g2 < wr.heap.size := lt_of_cell d0
      clear hcell hcell2
      generalize l[i] = x at *
      go_wp2_with fail
      go_quiet (fail)
      have HW2 := Lib.hid (HW.out.trans ((below_drewN wr nq).mono HW.out.size))
      go_wp2_with fail
      go_roundg (l.length - (i + 1))
      case measure => omega
      case rel => exact ⟨i + 1, by omega, rfl, by go_num, HW2⟩
    · have hlt' : ¬ (i : Int) < (l.length : Int) := by omega
      go_wp2_with fail
      go_ret
      exact ⟨rfl, HW.out⟩
set_option maxRecDepth 100000 in
set_option maxHeartbeats 1000000 in
theorem eqEn {w : World} {a b : Option Addr} {c d : Nat} {l : List Ob.En} (hA : Sl w (.slice a l.length c) 3 l.length (cellsOf enC l)) (hB : Sl w (.slice b l.length d) 3 l.length (cellsOf enC l)) (hn : l.length ≤ 1000000) :
    Calls Try.prog 11 #[.slice a l.length c, .slice b l.length d] w fun e w' => e = .returned (.bool true) ∧ Below w.heap.size w w' := by
  have hn' : (l.length : Int) ≤ 1000000 := by omega
  have HA := Lib.hid hA
  have HB := Lib.hid hB
  clear hA hB
  go_enter Try.func11, Try.ntmps11
  go_wp2_with fail
  go_loopg [13] l.length (fun k vi wr => ∃ i : Nat, i ≤ l.length ∧ k = l.length - i ∧ vi = .int .i64 (i : Int) ∧ Hid (Below w.heap.size w wr))
  case atStart => exact ⟨0, by omega, by omega, rfl, Below.refl _ _⟩
  case round =>
    obtain ⟨i, hid, hk, rfl, HW⟩ := hrel
    by_cases hlt : i < l.length
    · have hlt' : (i : Int) < (l.length : Int) := by omega
      obtain ⟨g, go, rfl, hgl, hcell⟩ := HA.out.at' enC_len (by omega) i hlt
      obtain ⟨g2, go2, rfl, hgl2, hcell2⟩ := HB.out.at' enC_len (by omega) i hlt
      have e0 : wr.cell? ⟨g, go + i * 3, none⟩ = some (.int .i64 l[i].at') := (HW.out.cell (p := ⟨g, go + i * 3, none⟩) hgl).trans (hcell 0 _ rfl)
      have e1 : wr.cell? ⟨g, go + i * 3 + 1, none⟩ = some (.int .i64 l[i].args) := (HW.out.cell (p := ⟨g, go + i * 3 + 1, none⟩) hgl).trans (hcell 1 _ rfl)
      have e2 : wr.cell? ⟨g, go + i * 3 + 2, none⟩ = some (.int .i64 l[i].locals) := (HW.out.cell (p := ⟨g, go + i * 3 + 2, none⟩) hgl).trans (hcell 2 _ rfl)
      have d0 : wr.cell? ⟨g2, go2 + i * 3, none⟩ = some (.int .i64 l[i].at') := (HW.out.cell (p := ⟨g2, go2 + i * 3, none⟩) hgl2).trans (hcell2 0 _ rfl)
      have d1 : wr.cell? ⟨g2, go2 + i * 3 + 1, none⟩ = some (.int .i64 l[i].args) := (HW.out.cell (p := ⟨g2, go2 + i * 3 + 1, none⟩) hgl2).trans (hcell2 1 _ rfl)
      have d2 : wr.cell? ⟨g2, go2 + i * 3 + 2, none⟩ = some (.int .i64 l[i].locals) := (HW.out.cell (p := ⟨g2, go2 + i * 3 + 2, none⟩) hgl2).trans (hcell2 2 _ rfl)
      have hz1 : g < wr.heap.size := lt_of_cell e0
      have hz2 : g2 < wr.heap.size := lt_of_cell d0
      clear hcell hcell2
      generalize l[i] = x at *
      go_wp2_with fail
      go_quiet (fail)
      have HW2 := Lib.hid (HW.out.trans ((below_drewN wr nq).mono HW.out.size))
      go_wp2_with fail
      go_roundg (l.length - (i + 1))
      case measure => omega
      case rel => exact ⟨i + 1, by omega, rfl, by go_num, HW2⟩
    · have hlt' : ¬ (i : Int) < (l.length : Int) := by omega
      go_wp2_with fail
      go_ret
      exact ⟨rfl, HW.out⟩
set_option maxRecDepth 100000 in
set_option maxHeartbeats 1000000 in
theorem eqIn {w : World} {a b : Option Addr} {c d : Nat} {l : List Ob.In} (hA : Sl w (.slice a l.length c) 3 l.length (cellsOf inC l)) (hB : Sl w (.slice b l.length d) 3 l.length (cellsOf inC l)) (hn : l.length ≤ 1000000) :
    Calls Try.prog 12 #[.slice a l.length c, .slice b l.length d] w fun e w' => e = .returned (.bool true) ∧ Below w.heap.size w w' := by
  have hn' : (l.length : Int) ≤ 1000000 := by omega
  have HA := Lib.hid hA
  have HB := Lib.hid hB
  clear hA hB
  go_enter Try.func12, Try.ntmps12
  go_wp2_with fail
  go_loopg [13] l.length (fun k vi wr => ∃ i : Nat, i ≤ l.length ∧ k = l.length - i ∧ vi = .int .i64 (i : Int) ∧ Hid (Below w.heap.size w wr))
  case atStart => exact ⟨0, by omega, by omega, rfl, Below.refl _ _⟩
  case round =>
    obtain ⟨i, hid, hk, rfl, HW⟩ := hrel
    by_cases hlt : i < l.length
    · have hlt' : (i : Int) < (l.length : Int) := by omega
      obtain ⟨g, go, rfl, hgl, hcell⟩ := HA.out.at' inC_len (by omega) i hlt
      obtain ⟨g2, go2, rfl, hgl2, hcell2⟩ := HB.out.at' inC_len (by omega) i hlt
      have e0 : wr.cell? ⟨g, go + i * 3, none⟩ = some (.int .i64 l[i].op) := (HW.out.cell (p := ⟨g, go + i * 3, none⟩) hgl).trans (hcell 0 _ rfl)
      have e1 : wr.cell? ⟨g, go + i * 3 + 1, none⟩ = some (.int .i64 l[i].a) := (HW.out.cell (p := ⟨g, go + i * 3 + 1, none⟩) hgl).trans (hcell 1 _ rfl)
      have e2 : wr.cell? ⟨g, go + i * 3 + 2, none⟩ = some (.int .i64 l[i].b) := (HW.out.cell (p := ⟨g, go + i * 3 + 2, none⟩) hgl).trans (hcell 2 _ rfl)
      have d0 : wr.cell? ⟨g2, go2 + i * 3, none⟩ = some (.int .i64 l[i].op) := (HW.out.cell (p := ⟨g2, go2 + i * 3, none⟩) hgl2).trans (hcell2 0 _ rfl)
      have d1 : wr.cell? ⟨g2, go2 + i * 3 + 1, none⟩ = some (.int .i64 l[i].a) := (HW.out.cell (p := ⟨g2, go2 + i * 3 + 1, none⟩) hgl2).trans (hcell2 1 _ rfl)
      have d2 : wr.cell? ⟨g2, go2 + i * 3 + 2, none⟩ = some (.int .i64 l[i].b) := (HW.out.cell (p := ⟨g2, go2 + i * 3 + 2, none⟩) hgl2).trans (hcell2 2 _ rfl)
      have hz1 : g < wr.heap.size := lt_of_cell e0
      have hz2 : g2 < wr.heap.size := lt_of_cell d0
      clear hcell hcell2
      generalize l[i] = x at *
      go_wp2_with fail
      go_quiet (fail)
      have HW2 := Lib.hid (HW.out.trans ((below_drewN wr nq).mono HW.out.size))
      go_wp2_with fail
      go_roundg (l.length - (i + 1))
      case measure => omega
      case rel => exact ⟨i + 1, by omega, rfl, by go_num, HW2⟩
    · have hlt' : ¬ (i : Int) < (l.length : Int) := by omega
      go_wp2_with fail
      go_ret
      exact ⟨rfl, HW.out⟩
set_option maxRecDepth 100000 in
set_option maxHeartbeats 1000000 in
theorem eqUse1 {w : World} (x : Ob.Us) {na na' : Option Addr} {nc nc' : Nat} (hA : Sl w (.slice na x.names.length nc) 1 x.names.length (cellsOf stC x.names)) (hB : Sl w (.slice na' x.names.length nc') 1 x.names.length (cellsOf stC x.names)) (hn : x.names.length ≤ 1000000) :
    Calls Try.prog 31 #[.agg #[.string (bs x.name), .string (bs x.need), .slice na x.names.length nc], .agg #[.string (bs x.name), .string (bs x.need), .slice na' x.names.length nc']] w fun e w' => e = .returned (.bool true) ∧ Below w.heap.size w w' := by
  have hb0 : Below w.heap.size w ((w.alloc (.cells #[.string (bs x.name), .string (bs x.need), .slice na x.names.length nc] 61)).alloc (.cells #[.string (bs x.name), .string (bs x.need), .slice na' x.names.length nc'] 61)) := ((Below.refl _ _).alloc (Nat.le_refl _) _).alloc (by simp) _
  have HB0 := Lib.hid hb0
  have HC := Lib.hid (eqStr (hA.below hb0) (hB.below hb0) hn)
  clear hA hB hb0
  go_enter Try.func31, Try.ntmps31
  go_wp2_with fail
  refine HC.out.mono ?_
  rintro e w1 ⟨rfl, h1⟩
  have HB := Lib.hid (HB0.out.trans (h1.mono HB0.out.size))
  clear h1
  go_wp2_with fail
  go_ret
  exact ⟨rfl, HB.out⟩
theorem cfUse1 (args : Array Value) (w : World) : (callFunc 31 args).run Try.prog w = .ok (.enter 31 args) w := by kernel_rfl
set_option maxRecDepth 100000 in
set_option maxHeartbeats 2000000 in
theorem eqUses {w : World} {a b : Option Addr} {c d : Nat} {l : List Ob.Us} {us1 us2 : List Value} (hU1 : RepN w l us1) (hA : Sl w (.slice a l.length c) 3 l.length us1) (hU2 : RepN w l us2) (hB : Sl w (.slice b l.length d) 3 l.length us2) (hn : l.length ≤ 1000000) (hs : ∀ x ∈ l, x.names.length ≤ 1000000) :
    Calls Try.prog 30 #[.slice a l.length c, .slice b l.length d, .func (.func 31) #[] #[]] w fun e w' => e = .returned (.bool true) ∧ Below w.heap.size w w' := by
  have hn' : (l.length : Int) ≤ 1000000 := by omega
  have HA := Lib.hid hA
  have HB := Lib.hid hB
  have HU1 := Lib.hid hU1
  have HU2 := Lib.hid hU2
  have HS := Lib.hid hs
  clear hA hB hU1 hU2 hs
  go_enter Try.func30, Try.ntmps30
  go_wp2_with fail
  go_loopg [17] l.length (fun k vi wr => ∃ i : Nat, i ≤ l.length ∧ k = l.length - i ∧ vi = .int .i64 (i : Int) ∧ Hid (Below w.heap.size w wr))
  case atStart => exact ⟨0, by omega, by omega, rfl, Below.refl _ _⟩
  case round =>
    obtain ⟨i, hid, hk, rfl, HW⟩ := hrel
    by_cases hlt : i < l.length
    · have hlt' : (i : Int) < (l.length : Int) := by omega
      obtain ⟨na1, nc1, q0, q1, q2, eS⟩ := RepN.get _ _ HU1.out i hlt
      obtain ⟨a0, c0', hsl0, _, hall⟩ := HA.out
      cases hsl0
      obtain ⟨g, go, rfl, hg0⟩ := hall _ _ q0
      have el := lt_of_cell hg0
      have e0 : wr.cell? ⟨g, go + i * 3, none⟩ = some (.string (bs l[i].name)) := (HW.out.cell (p := ⟨g, go + i * 3, none⟩) el).trans hg0
      have e1 : wr.cell? ⟨g, go + i * 3 + 1, none⟩ = some (.string (bs l[i].need)) := by
        obtain ⟨g', go', he, hg1⟩ := hall _ _ q1
        cases he
        exact (HW.out.cell (p := ⟨g, go + i * 3 + 1, none⟩) el).trans hg1
      have e2 : wr.cell? ⟨g, go + i * 3 + 2, none⟩ = some (.slice na1 l[i].names.length nc1) := by
        obtain ⟨g', go', he, hg1⟩ := hall _ _ q2
        cases he
        exact (HW.out.cell (p := ⟨g, go + i * 3 + 2, none⟩) el).trans hg1
      clear hall q0 q1 q2 hg0
      obtain ⟨na2, nc2, q0, q1, q2, dS⟩ := RepN.get _ _ HU2.out i hlt
      obtain ⟨a0, c0', hsl0, _, hall⟩ := HB.out
      cases hsl0
      obtain ⟨g2, go2, rfl, hg0⟩ := hall _ _ q0
      have dl := lt_of_cell hg0
      have d0 : wr.cell? ⟨g2, go2 + i * 3, none⟩ = some (.string (bs l[i].name)) := (HW.out.cell (p := ⟨g2, go2 + i * 3, none⟩) dl).trans hg0
      have d1 : wr.cell? ⟨g2, go2 + i * 3 + 1, none⟩ = some (.string (bs l[i].need)) := by
        obtain ⟨g', go', he, hg1⟩ := hall _ _ q1
        cases he
        exact (HW.out.cell (p := ⟨g2, go2 + i * 3 + 1, none⟩) dl).trans hg1
      have d2 : wr.cell? ⟨g2, go2 + i * 3 + 2, none⟩ = some (.slice na2 l[i].names.length nc2) := by
        obtain ⟨g', go', he, hg1⟩ := hall _ _ q2
        cases he
        exact (HW.out.cell (p := ⟨g2, go2 + i * 3 + 2, none⟩) dl).trans hg1
      clear hall q0 q1 q2 hg0
      have hz1 : g < wr.heap.size := lt_of_cell e0
      have hz2 : g2 < wr.heap.size := lt_of_cell d0
      have hx := HS.out l[i] (List.getElem_mem hlt)
      generalize l[i] = x at *
      have hb2 : Below wr.heap.size wr ((wr.alloc (.cells #[.string (bs x.name), .string (bs x.need), .slice na1 x.names.length nc1] 61)).alloc (.cells #[.string (bs x.name), .string (bs x.need), .slice na2 x.names.length nc2] 61)) := ((Below.refl _ _).alloc (Nat.le_refl _) _).alloc (by simp) _
      have HB2 := Lib.hid hb2
      have HC := Lib.hid (eqUse1 x ((eS.below HW.out).below hb2) ((dS.below HW.out).below hb2) hx)
      clear hb2 eS dS
      go_wp2_with fail
      refine HC.out.mono ?_
      rintro e w3 ⟨rfl, h3⟩
      have HW3 := Lib.hid (HW.out.trans ((HB2.out.trans (h3.mono HB2.out.size)).mono HW.out.size))
      clear h3
      go_wp2_with fail
      go_roundg (l.length - (i + 1))
      case measure => omega
      case rel => exact ⟨i + 1, by omega, rfl, by go_num, HW3⟩
    · have hlt' : ¬ (i : Int) < (l.length : Int) := by omega
      go_wp2_with fail
      go_ret
      exact ⟨rfl, HW.out⟩
end Go.Proofs.Ytljnddcddclmeaa
