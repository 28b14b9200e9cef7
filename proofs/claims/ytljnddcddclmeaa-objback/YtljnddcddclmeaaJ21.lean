/- all: there are at most so many, and each is right. -/
import Derived.Test.YtljnddcddclmeaaJ20
namespace Go.Proofs.Ytljnddcddclmeaa
open Go.RowKit
open Ob (Bs)

theorem cfStr (args : Array Value) (w : World) : (callFunc 79 args).run Try.prog w = .ok (.enter 79 args) w := by kernel_rfl
set_option maxRecDepth 100000 in
set_option maxHeartbeats 1000000 in
theorem oneStr {w : World} {fb : Nat} {fn : FuncId}  (x : Bs) {d : Bool} (hk : w.cell? ⟨fb, 0, none⟩ = some (.func (.func fn) #[] #[])) (hcf : ∀ (args : Array Value) (w : World), (callFunc fn args).run Try.prog w = .ok (.enter fn args) w)
    (hd : ∀ W, Below w.heap.size w W → Calls Try.prog fn #[.string (bs x)] W fun e w' => e = .returned (.bool d) ∧ Below W.heap.size W w') :
    Calls Try.prog 79 #[.string (bs x), .pointer (some ⟨fb, 0, none⟩)] w fun e w' => e = .returned (.bool (!d)) ∧ Below w.heap.size w w' := by
  have hfl := lt_of_cell hk
  have HB0 := Lib.hid (Below.refl w.heap.size w)
  have HC := Lib.hid (hd w (Below.refl _ _))
  clear hd
  go_enter Try.func79, Try.ntmps79
  go_wp2_with fail
  refine HC.out.mono ?_
  rintro e w1 ⟨rfl, h1⟩
  have HB := Lib.hid (HB0.out.trans (h1.mono HB0.out.size))
  clear h1
  go_wp2_with fail
  go_ret
  exact ⟨rfl, HB.out⟩
set_option maxRecDepth 100000 in
set_option maxHeartbeats 1000000 in
theorem allStr {w : World} {a : Option Addr} {cap : Nat} {l : List Bs} {p : Bs → Bool} {fn : FuncId}  (hS : Sl w (.slice a l.length cap) 1 l.length (cellsOf stC l)) (hn : l.length ≤ 140737488355328) (most : Nat) (hm : most ≤ 10000) (hcf : ∀ (args : Array Value) (w : World), (callFunc fn args).run Try.prog w = .ok (.enter fn args) w)
    (hd : ∀ W (x : Bs), x ∈ l → Below w.heap.size w W → Calls Try.prog fn #[.string (bs x)] W fun e w' => e = .returned (.bool (p x)) ∧ Below W.heap.size W w') :
    Calls Try.prog 58 #[.slice a l.length cap, .int .i64 (most : Int), .func (.func fn) #[] #[]] w fun e w' => e = .returned (.bool (Ob.allB p most l)) ∧ Below w.heap.size w w' := by
  have hmf : ∀ (fn : Fn) (first cap : Array Value) (w : World), (Instr.makeFunc fn first cap).run Try.prog w = .ok (.func fn first cap) w := fun _ _ _ _ => rfl
  have hb0 : Below w.heap.size w (w.alloc (.cells #[.func (.func fn) #[] #[]] 49)) := (Below.refl _ _).alloc (Nat.le_refl _) _
  by_cases hle : l.length ≤ most
  · have hle' : (l.length : Int) ≤ (most : Int) := by omega
    have HA : Hid (Ob.allB p most l = !(l.any fun x => !p x)) := by show _ = _; unfold Ob.allB; rw [decide_eq_true hle, Bool.true_and]
    have HC := Lib.hid (containsStr (w := w.alloc (.cells #[.func (.func fn) #[] #[]] 49)) (c := .pointer (some ⟨w.heap.size, 0, none⟩)) (p := fun x => !p x) (hS.below hb0) (by omega) cfStr (fun W x hx hW => oneStr x ((hW.cell (p := ⟨w.heap.size, 0, none⟩) (by simp)).trans ((cell_blk (new_blk _ _)).trans rfl)) hcf (fun W' hW' => hd W' x hx (hb0.trans ((hW.mono hb0.size).trans (hW'.mono (Nat.le_trans hb0.size hW.size)))))))
    have HB0 := Lib.hid hb0
    clear hS hd hcf hb0 
    generalize Ob.allB p most l = r at *
    generalize (l.any fun x => !p x) = d at *
    go_enter Try.func58, Try.ntmps58
    go_wp2_with fail
    refine HC.out.mono ?_
    rintro e w1 ⟨rfl, h1⟩
    have HB := Lib.hid (HB0.out.trans (h1.mono HB0.out.size))
    clear h1
    go_wp2_with fail
    go_ret
    exact ⟨by rw [HA.out]; rfl, HB.out⟩
  · have hle' : (most : Int) < (l.length : Int) := by omega
    have HA : Hid (Ob.allB p most l = false) := by show _ = _; unfold Ob.allB; rw [decide_eq_false hle]; rfl
    have HB0 := Lib.hid hb0
    clear hS hd hcf hb0 
    generalize Ob.allB p most l = r at *
    go_enter Try.func58, Try.ntmps58
    go_wp2_with fail
    go_ret
    exact ⟨by rw [HA.out]; rfl, HB0.out⟩
theorem cfSym (args : Array Value) (w : World) : (callFunc 73 args).run Try.prog w = .ok (.enter 73 args) w := by kernel_rfl
set_option maxRecDepth 100000 in
set_option maxHeartbeats 1000000 in
theorem oneSym {w : World} {fb : Nat} {fn : FuncId}  (x : Ob.Sm) {d : Bool} (hk : w.cell? ⟨fb, 0, none⟩ = some (.func (.func fn) #[] #[])) (hcf : ∀ (args : Array Value) (w : World), (callFunc fn args).run Try.prog w = .ok (.enter fn args) w)
    (hd : ∀ W, Below w.heap.size w W → Calls Try.prog fn #[.agg #[.string (bs x.name), .int .i64 x.len, .int .i64 x.args]] W fun e w' => e = .returned (.bool d) ∧ Below W.heap.size W w') :
    Calls Try.prog 73 #[.agg #[.string (bs x.name), .int .i64 x.len, .int .i64 x.args], .pointer (some ⟨fb, 0, none⟩)] w fun e w' => e = .returned (.bool (!d)) ∧ Below w.heap.size w w' := by
  have hfl := lt_of_cell hk
  have hb0 : Below w.heap.size w (w.alloc (.cells #[.string (bs x.name), .int .i64 x.len, .int .i64 x.args] 53)) := (Below.refl _ _).alloc (Nat.le_refl _) _
  have HB0 := Lib.hid hb0
  have HC := Lib.hid (hd _ hb0)
  clear hb0
  clear hd
  go_enter Try.func73, Try.ntmps73
  go_wp2_with fail
  refine HC.out.mono ?_
  rintro e w1 ⟨rfl, h1⟩
  have HB := Lib.hid (HB0.out.trans (h1.mono HB0.out.size))
  clear h1
  go_wp2_with fail
  go_ret
  exact ⟨rfl, HB.out⟩
set_option maxRecDepth 100000 in
set_option maxHeartbeats 1000000 in
theorem allSym {w : World} {a : Option Addr} {cap : Nat} {l : List Ob.Sm} {p : Ob.Sm → Bool} {fn : FuncId}  (hS : Sl w (.slice a l.length cap) 3 l.length (cellsOf smC l)) (hn : l.length ≤ 140737488355328) (most : Nat) (hm : most ≤ 10000) (hcf : ∀ (args : Array Value) (w : World), (callFunc fn args).run Try.prog w = .ok (.enter fn args) w)
    (hd : ∀ W (x : Ob.Sm), x ∈ l → Below w.heap.size w W → Calls Try.prog fn #[.agg #[.string (bs x.name), .int .i64 x.len, .int .i64 x.args]] W fun e w' => e = .returned (.bool (p x)) ∧ Below W.heap.size W w') :
    Calls Try.prog 50 #[.slice a l.length cap, .int .i64 (most : Int), .func (.func fn) #[] #[]] w fun e w' => e = .returned (.bool (Ob.allB p most l)) ∧ Below w.heap.size w w' := by
  have hmf : ∀ (fn : Fn) (first cap : Array Value) (w : World), (Instr.makeFunc fn first cap).run Try.prog w = .ok (.func fn first cap) w := fun _ _ _ _ => rfl
  have hb0 : Below w.heap.size w (w.alloc (.cells #[.func (.func fn) #[] #[]] 54)) := (Below.refl _ _).alloc (Nat.le_refl _) _
  by_cases hle : l.length ≤ most
  · have hle' : (l.length : Int) ≤ (most : Int) := by omega
    have HA : Hid (Ob.allB p most l = !(l.any fun x => !p x)) := by show _ = _; unfold Ob.allB; rw [decide_eq_true hle, Bool.true_and]
    have HC := Lib.hid (containsSym (w := w.alloc (.cells #[.func (.func fn) #[] #[]] 54)) (c := .pointer (some ⟨w.heap.size, 0, none⟩)) (p := fun x => !p x) (hS.below hb0) (by omega) cfSym (fun W x hx hW => oneSym x ((hW.cell (p := ⟨w.heap.size, 0, none⟩) (by simp)).trans ((cell_blk (new_blk _ _)).trans rfl)) hcf (fun W' hW' => hd W' x hx (hb0.trans ((hW.mono hb0.size).trans (hW'.mono (Nat.le_trans hb0.size hW.size)))))))
    have HB0 := Lib.hid hb0
    clear hS hd hcf hb0 
    generalize Ob.allB p most l = r at *
    generalize (l.any fun x => !p x) = d at *
    go_enter Try.func50, Try.ntmps50
    go_wp2_with fail
    refine HC.out.mono ?_
    rintro e w1 ⟨rfl, h1⟩
    have HB := Lib.hid (HB0.out.trans (h1.mono HB0.out.size))
    clear h1
    go_wp2_with fail
    go_ret
    exact ⟨by rw [HA.out]; rfl, HB.out⟩
  · have hle' : (most : Int) < (l.length : Int) := by omega
    have HA : Hid (Ob.allB p most l = false) := by show _ = _; unfold Ob.allB; rw [decide_eq_false hle]; rfl
    have HB0 := Lib.hid hb0
    clear hS hd hcf hb0 
    generalize Ob.allB p most l = r at *
    go_enter Try.func50, Try.ntmps50
    go_wp2_with fail
    go_ret
    exact ⟨by rw [HA.out]; rfl, HB0.out⟩
theorem cfGl (args : Array Value) (w : World) : (callFunc 76 args).run Try.prog w = .ok (.enter 76 args) w := by kernel_rfl
set_option maxRecDepth 100000 in
set_option maxHeartbeats 1000000 in
theorem oneGl {w : World} {fb : Nat} {fn : FuncId}  (x : Ob.Gl) {d : Bool} (hk : w.cell? ⟨fb, 0, none⟩ = some (.func (.func fn) #[] #[])) (hcf : ∀ (args : Array Value) (w : World), (callFunc fn args).run Try.prog w = .ok (.enter fn args) w)
    (hd : ∀ W, Below w.heap.size w W → Calls Try.prog fn #[.agg #[.string (bs x.name), .int .i64 x.at', .int .i64 x.len, .bool x.seen]] W fun e w' => e = .returned (.bool d) ∧ Below W.heap.size W w') :
    Calls Try.prog 76 #[.agg #[.string (bs x.name), .int .i64 x.at', .int .i64 x.len, .bool x.seen], .pointer (some ⟨fb, 0, none⟩)] w fun e w' => e = .returned (.bool (!d)) ∧ Below w.heap.size w w' := by
  have hfl := lt_of_cell hk
  have hb0 : Below w.heap.size w (w.alloc (.cells #[.string (bs x.name), .int .i64 x.at', .int .i64 x.len, .bool x.seen] 57)) := (Below.refl _ _).alloc (Nat.le_refl _) _
  have HB0 := Lib.hid hb0
  have HC := Lib.hid (hd _ hb0)
  clear hb0
  clear hd
  go_enter Try.func76, Try.ntmps76
  go_wp2_with fail
  refine HC.out.mono ?_
  rintro e w1 ⟨rfl, h1⟩
  have HB := Lib.hid (HB0.out.trans (h1.mono HB0.out.size))
  clear h1
  go_wp2_with fail
  go_ret
  exact ⟨rfl, HB.out⟩
set_option maxRecDepth 100000 in
set_option maxHeartbeats 1000000 in
theorem allGl {w : World} {a : Option Addr} {cap : Nat} {l : List Ob.Gl} {p : Ob.Gl → Bool} {fn : FuncId}  (hS : Sl w (.slice a l.length cap) 4 l.length (cellsOf glC l)) (hn : l.length ≤ 140737488355328) (most : Nat) (hm : most ≤ 10000) (hcf : ∀ (args : Array Value) (w : World), (callFunc fn args).run Try.prog w = .ok (.enter fn args) w)
    (hd : ∀ W (x : Ob.Gl), x ∈ l → Below w.heap.size w W → Calls Try.prog fn #[.agg #[.string (bs x.name), .int .i64 x.at', .int .i64 x.len, .bool x.seen]] W fun e w' => e = .returned (.bool (p x)) ∧ Below W.heap.size W w') :
    Calls Try.prog 53 #[.slice a l.length cap, .int .i64 (most : Int), .func (.func fn) #[] #[]] w fun e w' => e = .returned (.bool (Ob.allB p most l)) ∧ Below w.heap.size w w' := by
  have hmf : ∀ (fn : Fn) (first cap : Array Value) (w : World), (Instr.makeFunc fn first cap).run Try.prog w = .ok (.func fn first cap) w := fun _ _ _ _ => rfl
  have hb0 : Below w.heap.size w (w.alloc (.cells #[.func (.func fn) #[] #[]] 58)) := (Below.refl _ _).alloc (Nat.le_refl _) _
  by_cases hle : l.length ≤ most
  · have hle' : (l.length : Int) ≤ (most : Int) := by omega
    have HA : Hid (Ob.allB p most l = !(l.any fun x => !p x)) := by show _ = _; unfold Ob.allB; rw [decide_eq_true hle, Bool.true_and]
    have HC := Lib.hid (containsGl (w := w.alloc (.cells #[.func (.func fn) #[] #[]] 58)) (c := .pointer (some ⟨w.heap.size, 0, none⟩)) (p := fun x => !p x) (hS.below hb0) (by omega) cfGl (fun W x hx hW => oneGl x ((hW.cell (p := ⟨w.heap.size, 0, none⟩) (by simp)).trans ((cell_blk (new_blk _ _)).trans rfl)) hcf (fun W' hW' => hd W' x hx (hb0.trans ((hW.mono hb0.size).trans (hW'.mono (Nat.le_trans hb0.size hW.size)))))))
    have HB0 := Lib.hid hb0
    clear hS hd hcf hb0 
    generalize Ob.allB p most l = r at *
    generalize (l.any fun x => !p x) = d at *
    go_enter Try.func53, Try.ntmps53
    go_wp2_with fail
    refine HC.out.mono ?_
    rintro e w1 ⟨rfl, h1⟩
    have HB := Lib.hid (HB0.out.trans (h1.mono HB0.out.size))
    clear h1
    go_wp2_with fail
    go_ret
    exact ⟨by rw [HA.out]; rfl, HB.out⟩
  · have hle' : (most : Int) < (l.length : Int) := by omega
    have HA : Hid (Ob.allB p most l = false) := by show _ = _; unfold Ob.allB; rw [decide_eq_false hle]; rfl
    have HB0 := Lib.hid hb0
    clear hS hd hcf hb0 
    generalize Ob.allB p most l = r at *
    go_enter Try.func53, Try.ntmps53
    go_wp2_with fail
    go_ret
    exact ⟨by rw [HA.out]; rfl, HB0.out⟩
theorem cfEn (args : Array Value) (w : World) : (callFunc 78 args).run Try.prog w = .ok (.enter 78 args) w := by kernel_rfl
set_option maxRecDepth 100000 in
set_option maxHeartbeats 1000000 in
theorem oneEn {w : World} {fb : Nat} {fn : FuncId} {c : Value} (x : Ob.En) {d : Bool} (hk : w.cell? ⟨fb, 0, none⟩ = some (.func (.func fn) #[] #[c])) (hcf : ∀ (args : Array Value) (w : World), (callFunc fn args).run Try.prog w = .ok (.enter fn args) w)
    (hd : ∀ W, Below w.heap.size w W → Calls Try.prog fn #[.agg #[.int .i64 x.at', .int .i64 x.args, .int .i64 x.locals], c] W fun e w' => e = .returned (.bool d) ∧ Below W.heap.size W w') :
    Calls Try.prog 78 #[.agg #[.int .i64 x.at', .int .i64 x.args, .int .i64 x.locals], .pointer (some ⟨fb, 0, none⟩)] w fun e w' => e = .returned (.bool (!d)) ∧ Below w.heap.size w w' := by
  have hfl := lt_of_cell hk
  have hb0 : Below w.heap.size w (w.alloc (.cells #[.int .i64 x.at', .int .i64 x.args, .int .i64 x.locals] 35)) := (Below.refl _ _).alloc (Nat.le_refl _) _
  have HB0 := Lib.hid hb0
  have HC := Lib.hid (hd _ hb0)
  clear hb0
  clear hd
  go_enter Try.func78, Try.ntmps78
  go_wp2_with fail
  refine HC.out.mono ?_
  rintro e w1 ⟨rfl, h1⟩
  have HB := Lib.hid (HB0.out.trans (h1.mono HB0.out.size))
  clear h1
  go_wp2_with fail
  go_ret
  exact ⟨rfl, HB.out⟩
set_option maxRecDepth 100000 in
set_option maxHeartbeats 1000000 in
theorem allEn {w : World} {a : Option Addr} {cap : Nat} {l : List Ob.En} {p : Ob.En → Bool} {fn : FuncId} {c : Value} (hS : Sl w (.slice a l.length cap) 3 l.length (cellsOf enC l)) (hn : l.length ≤ 140737488355328) (most : Nat) (hm : most ≤ 10000) (hcf : ∀ (args : Array Value) (w : World), (callFunc fn args).run Try.prog w = .ok (.enter fn args) w)
    (hd : ∀ W (x : Ob.En), x ∈ l → Below w.heap.size w W → Calls Try.prog fn #[.agg #[.int .i64 x.at', .int .i64 x.args, .int .i64 x.locals], c] W fun e w' => e = .returned (.bool (p x)) ∧ Below W.heap.size W w') :
    Calls Try.prog 57 #[.slice a l.length cap, .int .i64 (most : Int), .func (.func fn) #[] #[c]] w fun e w' => e = .returned (.bool (Ob.allB p most l)) ∧ Below w.heap.size w w' := by
  have hmf : ∀ (fn : Fn) (first cap : Array Value) (w : World), (Instr.makeFunc fn first cap).run Try.prog w = .ok (.func fn first cap) w := fun _ _ _ _ => rfl
  have hb0 : Below w.heap.size w (w.alloc (.cells #[.func (.func fn) #[] #[c]] 93)) := (Below.refl _ _).alloc (Nat.le_refl _) _
  by_cases hle : l.length ≤ most
  · have hle' : (l.length : Int) ≤ (most : Int) := by omega
    have HA : Hid (Ob.allB p most l = !(l.any fun x => !p x)) := by show _ = _; unfold Ob.allB; rw [decide_eq_true hle, Bool.true_and]
    have HC := Lib.hid (containsEn (w := w.alloc (.cells #[.func (.func fn) #[] #[c]] 93)) (c := .pointer (some ⟨w.heap.size, 0, none⟩)) (p := fun x => !p x) (hS.below hb0) (by omega) cfEn (fun W x hx hW => oneEn x ((hW.cell (p := ⟨w.heap.size, 0, none⟩) (by simp)).trans ((cell_blk (new_blk _ _)).trans rfl)) hcf (fun W' hW' => hd W' x hx (hb0.trans ((hW.mono hb0.size).trans (hW'.mono (Nat.le_trans hb0.size hW.size)))))))
    have HB0 := Lib.hid hb0
    clear hS hd hcf hb0 
    generalize Ob.allB p most l = r at *
    generalize (l.any fun x => !p x) = d at *
    go_enter Try.func57, Try.ntmps57
    go_wp2_with fail
    refine HC.out.mono ?_
    rintro e w1 ⟨rfl, h1⟩
    have HB := Lib.hid (HB0.out.trans (h1.mono HB0.out.size))
    clear h1
    go_wp2_with fail
    go_ret
    exact ⟨by rw [HA.out]; rfl, HB.out⟩
  · have hle' : (most : Int) < (l.length : Int) := by omega
    have HA : Hid (Ob.allB p most l = false) := by show _ = _; unfold Ob.allB; rw [decide_eq_false hle]; rfl
    have HB0 := Lib.hid hb0
    clear hS hd hcf hb0 
    generalize Ob.allB p most l = r at *
    go_enter Try.func57, Try.ntmps57
    go_wp2_with fail
    go_ret
    exact ⟨by rw [HA.out]; rfl, HB0.out⟩
theorem cfIn (args : Array Value) (w : World) : (callFunc 81 args).run Try.prog w = .ok (.enter 81 args) w := by kernel_rfl
set_option maxRecDepth 100000 in
set_option maxHeartbeats 1000000 in
theorem oneIn {w : World} {fb : Nat} {fn : FuncId} {c : Value} (x : Ob.In) {d : Bool} (hk : w.cell? ⟨fb, 0, none⟩ = some (.func (.func fn) #[] #[c])) (hcf : ∀ (args : Array Value) (w : World), (callFunc fn args).run Try.prog w = .ok (.enter fn args) w)
    (hd : ∀ W, Below w.heap.size w W → Calls Try.prog fn #[.agg #[.int .i64 x.op, .int .i64 x.a, .int .i64 x.b], c] W fun e w' => e = .returned (.bool d) ∧ Below W.heap.size W w') :
    Calls Try.prog 81 #[.agg #[.int .i64 x.op, .int .i64 x.a, .int .i64 x.b], .pointer (some ⟨fb, 0, none⟩)] w fun e w' => e = .returned (.bool (!d)) ∧ Below w.heap.size w w' := by
  have hfl := lt_of_cell hk
  have hb0 : Below w.heap.size w (w.alloc (.cells #[.int .i64 x.op, .int .i64 x.a, .int .i64 x.b] 45)) := (Below.refl _ _).alloc (Nat.le_refl _) _
  have HB0 := Lib.hid hb0
  have HC := Lib.hid (hd _ hb0)
  clear hb0
  clear hd
  go_enter Try.func81, Try.ntmps81
  go_wp2_with fail
  refine HC.out.mono ?_
  rintro e w1 ⟨rfl, h1⟩
  have HB := Lib.hid (HB0.out.trans (h1.mono HB0.out.size))
  clear h1
  go_wp2_with fail
  go_ret
  exact ⟨rfl, HB.out⟩
set_option maxRecDepth 100000 in
set_option maxHeartbeats 1000000 in
theorem allIn {w : World} {a : Option Addr} {cap : Nat} {l : List Ob.In} {p : Ob.In → Bool} {fn : FuncId} {c : Value} (hS : Sl w (.slice a l.length cap) 3 l.length (cellsOf inC l)) (hn : l.length ≤ 140737488355328) (most : Nat) (hm : most ≤ 10000) (hcf : ∀ (args : Array Value) (w : World), (callFunc fn args).run Try.prog w = .ok (.enter fn args) w)
    (hd : ∀ W (x : Ob.In), x ∈ l → Below w.heap.size w W → Calls Try.prog fn #[.agg #[.int .i64 x.op, .int .i64 x.a, .int .i64 x.b], c] W fun e w' => e = .returned (.bool (p x)) ∧ Below W.heap.size W w') :
    Calls Try.prog 59 #[.slice a l.length cap, .int .i64 (most : Int), .func (.func fn) #[] #[c]] w fun e w' => e = .returned (.bool (Ob.allB p most l)) ∧ Below w.heap.size w w' := by
  have hmf : ∀ (fn : Fn) (first cap : Array Value) (w : World), (Instr.makeFunc fn first cap).run Try.prog w = .ok (.func fn first cap) w := fun _ _ _ _ => rfl
  have hb0 : Below w.heap.size w (w.alloc (.cells #[.func (.func fn) #[] #[c]] 98)) := (Below.refl _ _).alloc (Nat.le_refl _) _
  by_cases hle : l.length ≤ most
  · have hle' : (l.length : Int) ≤ (most : Int) := by omega
    have HA : Hid (Ob.allB p most l = !(l.any fun x => !p x)) := by show _ = _; unfold Ob.allB; rw [decide_eq_true hle, Bool.true_and]
    have HC := Lib.hid (containsIn (w := w.alloc (.cells #[.func (.func fn) #[] #[c]] 98)) (c := .pointer (some ⟨w.heap.size, 0, none⟩)) (p := fun x => !p x) (hS.below hb0) (by omega) cfIn (fun W x hx hW => oneIn x ((hW.cell (p := ⟨w.heap.size, 0, none⟩) (by simp)).trans ((cell_blk (new_blk _ _)).trans rfl)) hcf (fun W' hW' => hd W' x hx (hb0.trans ((hW.mono hb0.size).trans (hW'.mono (Nat.le_trans hb0.size hW.size)))))))
    have HB0 := Lib.hid hb0
    clear hS hd hcf hb0 
    generalize Ob.allB p most l = r at *
    generalize (l.any fun x => !p x) = d at *
    go_enter Try.func59, Try.ntmps59
    go_wp2_with fail
    refine HC.out.mono ?_
    rintro e w1 ⟨rfl, h1⟩
    have HB := Lib.hid (HB0.out.trans (h1.mono HB0.out.size))
    clear h1
    go_wp2_with fail
    go_ret
    exact ⟨by rw [HA.out]; rfl, HB.out⟩
  · have hle' : (most : Int) < (l.length : Int) := by omega
    have HA : Hid (Ob.allB p most l = false) := by show _ = _; unfold Ob.allB; rw [decide_eq_false hle]; rfl
    have HB0 := Lib.hid hb0
    clear hS hd hcf hb0 
    generalize Ob.allB p most l = r at *
    go_enter Try.func59, Try.ntmps59
    go_wp2_with fail
    go_ret
    exact ⟨by rw [HA.out]; rfl, HB0.out⟩
theorem cfUs (args : Array Value) (w : World) : (callFunc 75 args).run Try.prog w = .ok (.enter 75 args) w := by kernel_rfl
set_option maxRecDepth 100000 in
set_option maxHeartbeats 1000000 in
theorem oneUs {w : World} {fb : Nat} {fn : FuncId} {c : Value} (x : Ob.Us) (na : Option Addr) (nc : Nat) {d : Bool} (hk : w.cell? ⟨fb, 0, none⟩ = some (.func (.func fn) #[] #[c])) (hcf : ∀ (args : Array Value) (w : World), (callFunc fn args).run Try.prog w = .ok (.enter fn args) w)
    (hd : ∀ W, Below w.heap.size w W → Calls Try.prog fn #[.agg #[.string (bs x.name), .string (bs x.need), .slice na x.names.length nc], c] W fun e w' => e = .returned (.bool d) ∧ Below W.heap.size W w') :
    Calls Try.prog 75 #[.agg #[.string (bs x.name), .string (bs x.need), .slice na x.names.length nc], .pointer (some ⟨fb, 0, none⟩)] w fun e w' => e = .returned (.bool (!d)) ∧ Below w.heap.size w w' := by
  have hfl := lt_of_cell hk
  have hb0 : Below w.heap.size w (w.alloc (.cells #[.string (bs x.name), .string (bs x.need), .slice na x.names.length nc] 61)) := (Below.refl _ _).alloc (Nat.le_refl _) _
  have HB0 := Lib.hid hb0
  have HC := Lib.hid (hd _ hb0)
  clear hb0
  clear hd
  go_enter Try.func75, Try.ntmps75
  go_wp2_with fail
  refine HC.out.mono ?_
  rintro e w1 ⟨rfl, h1⟩
  have HB := Lib.hid (HB0.out.trans (h1.mono HB0.out.size))
  clear h1
  go_wp2_with fail
  go_ret
  exact ⟨rfl, HB.out⟩
set_option maxRecDepth 100000 in
set_option maxHeartbeats 1000000 in
theorem allUs {w : World} {a : Option Addr} {cap : Nat} {l : List Ob.Us} {p : Ob.Us → Bool} {fn : FuncId} {c : Value} {ucs : List Value} (hU : RepN w l ucs) (hS : Sl w (.slice a l.length cap) 3 l.length ucs) (hn : l.length ≤ 140737488355328) (most : Nat) (hm : most ≤ 10000) (hcf : ∀ (args : Array Value) (w : World), (callFunc fn args).run Try.prog w = .ok (.enter fn args) w)
    (hd : ∀ W (x : Ob.Us) na nc, x ∈ l → Below w.heap.size w W → Sl W (.slice na x.names.length nc) 1 x.names.length (cellsOf stC x.names) → Calls Try.prog fn #[.agg #[.string (bs x.name), .string (bs x.need), .slice na x.names.length nc], c] W fun e w' => e = .returned (.bool (p x)) ∧ Below W.heap.size W w') :
    Calls Try.prog 52 #[.slice a l.length cap, .int .i64 (most : Int), .func (.func fn) #[] #[c]] w fun e w' => e = .returned (.bool (Ob.allB p most l)) ∧ Below w.heap.size w w' := by
  have hmf : ∀ (fn : Fn) (first cap : Array Value) (w : World), (Instr.makeFunc fn first cap).run Try.prog w = .ok (.func fn first cap) w := fun _ _ _ _ => rfl
  have hb0 : Below w.heap.size w (w.alloc (.cells #[.func (.func fn) #[] #[c]] 62)) := (Below.refl _ _).alloc (Nat.le_refl _) _
  by_cases hle : l.length ≤ most
  · have hle' : (l.length : Int) ≤ (most : Int) := by omega
    have HA : Hid (Ob.allB p most l = !(l.any fun x => !p x)) := by show _ = _; unfold Ob.allB; rw [decide_eq_true hle, Bool.true_and]
    have HC := Lib.hid (containsUs (w := w.alloc (.cells #[.func (.func fn) #[] #[c]] 62)) (c := .pointer (some ⟨w.heap.size, 0, none⟩)) (p := fun x => !p x) (RepN.below hb0 _ _ hU) (hS.below hb0) (by omega) cfUs (fun W x na nc hx hW hs => oneUs x na nc ((hW.cell (p := ⟨w.heap.size, 0, none⟩) (by simp)).trans ((cell_blk (new_blk _ _)).trans rfl)) hcf (fun W' hW' => hd W' x na nc hx (hb0.trans ((hW.mono hb0.size).trans (hW'.mono (Nat.le_trans hb0.size hW.size)))) ((hs.below hW).below hW'))))
    have HB0 := Lib.hid hb0
    clear hS hd hcf hb0 hU
    generalize Ob.allB p most l = r at *
    generalize (l.any fun x => !p x) = d at *
    go_enter Try.func52, Try.ntmps52
    go_wp2_with fail
    refine HC.out.mono ?_
    rintro e w1 ⟨rfl, h1⟩
    have HB := Lib.hid (HB0.out.trans (h1.mono HB0.out.size))
    clear h1
    go_wp2_with fail
    go_ret
    exact ⟨by rw [HA.out]; rfl, HB.out⟩
  · have hle' : (most : Int) < (l.length : Int) := by omega
    have HA : Hid (Ob.allB p most l = false) := by show _ = _; unfold Ob.allB; rw [decide_eq_false hle]; rfl
    have HB0 := Lib.hid hb0
    clear hS hd hcf hb0 hU
    generalize Ob.allB p most l = r at *
    go_enter Try.func52, Try.ntmps52
    go_wp2_with fail
    go_ret
    exact ⟨by rw [HA.out]; rfl, HB0.out⟩
end Go.Proofs.Ytljnddcddclmeaa
