/- slices.IndexFunc, ContainsFunc, by what the function that is handed in answers. -/
import Derived.Test.YtljnddcddclmeaaJ17
namespace Go.Proofs.Ytljnddcddclmeaa
open Go.RowKit
open Ob (Bs)

set_option maxRecDepth 100000 in
set_option maxHeartbeats 1000000 in
theorem indexStr {w : World} {a : Option Addr} {cap : Nat} {l : List Bs} {p : Bs → Bool} {fn : FuncId} {c : Value} (hS : Sl w (.slice a l.length cap) 1 l.length (cellsOf stC l)) (hn : l.length ≤ 1000000) (hcf : ∀ (args : Array Value) (w : World), (callFunc fn args).run Try.prog w = .ok (.enter fn args) w)
    (hd : ∀ W (x : Bs), x ∈ l → Below w.heap.size w W → Calls Try.prog fn #[.string (bs x), c] W fun e w' => e = .returned (.bool (p x)) ∧ Below W.heap.size W w') :
    Calls Try.prog 34 #[.slice a l.length cap, .func (.func fn) #[] #[c]] w fun e w' => (∃ k : Int, e = .returned (.int .i64 k) ∧ (decide (0 ≤ k) = l.any p)) ∧ Below w.heap.size w w' := by
  have hn' : (l.length : Int) ≤ 1000000 := by omega
  have HSL := Lib.hid hS
  have HD := Lib.hid hd
  clear hS hd
  go_enter Try.func34, Try.ntmps34
  go_wp2_with fail
  go_loopg [8] l.length (fun k vi wr => ∃ i : Nat, i ≤ l.length ∧ k = l.length - i ∧ vi = .int .i64 (i : Int) ∧ Hid ((l.take i).any p = false) ∧ Hid (Below w.heap.size w wr))
  case atStart => exact ⟨0, by omega, by omega, rfl, rfl, Below.refl _ _⟩
  case round =>
    obtain ⟨i, hid, hk, rfl, HI, HW⟩ := hrel
    by_cases hlt : i < l.length
    · have hlt' : (i : Int) < (l.length : Int) := by omega
      obtain ⟨g, go, rfl, hgl, hcell⟩ := HSL.out.at' stC_len (by omega) i hlt
      have hc0 := hcell 0 _ rfl
      rw [Nat.mul_one, Nat.add_zero] at hc0
      have e0 : wr.cell? ⟨g, go + i, none⟩ = some (.string (bs l[i])) := (HW.out.cell (p := ⟨g, go + i, none⟩) hgl).trans hc0
      clear hc0
      have hbl' : g < wr.heap.size := lt_of_cell e0
      have HF := Lib.hid (HD.out wr l[i] (List.getElem_mem hlt) HW.out)
      clear hcell
      have HNX : Hid ((l.take (i + 1)).any p = p l[i]) := by
        show _ = _
        rw [List.take_succ_eq_append_getElem hlt, List.any_append, HI.out]; simp
      have HAN : Hid (p l[i] = true → l.any p = true) := fun e => List.any_eq_true.2 ⟨_, List.getElem_mem hlt, e⟩
      generalize p l[i] = d at *
      generalize l[i] = x at *
      clear HI
      go_wp2_with fail
      refine HF.out.mono ?_
      rintro e w3 ⟨rfl, h3⟩
      have HW3 := Lib.hid (HW.out.trans (h3.mono HW.out.size))
      clear h3
      cases d with
      | true =>
        have HE := Lib.hid (HAN.out rfl)
        go_wp2_with fail
        go_ret
        refine ⟨⟨_, rfl, ?_⟩, HW3.out⟩
        rw [HE.out]
        exact decide_eq_true (by omega)
      | false =>
        go_wp2_with fail
        go_roundg (l.length - (i + 1))
        case measure => omega
        case rel => exact ⟨i + 1, by omega, rfl, by go_num, HNX, HW3⟩
    · have hlt' : ¬ (i : Int) < (l.length : Int) := by omega
      have HE : Hid (l.any p = false) := by
        have := HI.out
        rw [List.take_of_length_le (by omega)] at this
        exact this
      go_wp2_with fail
      go_ret
      refine ⟨⟨_, rfl, ?_⟩, HW.out⟩
      rw [HE.out]
      rfl
set_option maxRecDepth 100000 in
set_option maxHeartbeats 1000000 in
theorem containsStr {w : World} {a : Option Addr} {cap : Nat} {l : List Bs} {p : Bs → Bool} {fn : FuncId} {c : Value} (hS : Sl w (.slice a l.length cap) 1 l.length (cellsOf stC l)) (hn : l.length ≤ 1000000) (hcf : ∀ (args : Array Value) (w : World), (callFunc fn args).run Try.prog w = .ok (.enter fn args) w)
    (hd : ∀ W (x : Bs), x ∈ l → Below w.heap.size w W → Calls Try.prog fn #[.string (bs x), c] W fun e w' => e = .returned (.bool (p x)) ∧ Below W.heap.size W w') :
    Calls Try.prog 15 #[.slice a l.length cap, .func (.func fn) #[] #[c]] w fun e w' => e = .returned (.bool (l.any p)) ∧ Below w.heap.size w w' := by
  have HC := Lib.hid (indexStr hS hn hcf hd)
  clear hS hd hcf
  go_enter Try.func15, Try.ntmps15
  go_wp2_with fail
  refine HC.out.mono ?_
  rintro e w1 ⟨⟨k, rfl, hk⟩, hb⟩
  have HK := Lib.hid hk
  clear hk
  go_wp2_with fail
  go_ret
  exact ⟨by rw [← HK.out]; rfl, hb⟩
set_option maxRecDepth 100000 in
set_option maxHeartbeats 1000000 in
theorem indexStr0 {w : World} {a : Option Addr} {cap : Nat} {l : List Bs} {p : Bs → Bool} {fn : FuncId}  (hS : Sl w (.slice a l.length cap) 1 l.length (cellsOf stC l)) (hn : l.length ≤ 1000000) (hcf : ∀ (args : Array Value) (w : World), (callFunc fn args).run Try.prog w = .ok (.enter fn args) w)
    (hd : ∀ W (x : Bs), x ∈ l → Below w.heap.size w W → Calls Try.prog fn #[.string (bs x)] W fun e w' => e = .returned (.bool (p x)) ∧ Below W.heap.size W w') :
    Calls Try.prog 34 #[.slice a l.length cap, .func (.func fn) #[] #[]] w fun e w' => (∃ k : Int, e = .returned (.int .i64 k) ∧ (decide (0 ≤ k) = l.any p)) ∧ Below w.heap.size w w' := by
  have hn' : (l.length : Int) ≤ 1000000 := by omega
  have HSL := Lib.hid hS
  have HD := Lib.hid hd
  clear hS hd
  go_enter Try.func34, Try.ntmps34
  go_wp2_with fail
  go_loopg [8] l.length (fun k vi wr => ∃ i : Nat, i ≤ l.length ∧ k = l.length - i ∧ vi = .int .i64 (i : Int) ∧ Hid ((l.take i).any p = false) ∧ Hid (Below w.heap.size w wr))
  case atStart => exact ⟨0, by omega, by omega, rfl, rfl, Below.refl _ _⟩
  case round =>
    obtain ⟨i, hid, hk, rfl, HI, HW⟩ := hrel
    by_cases hlt : i < l.length
    · have hlt' : (i : Int) < (l.length : Int) := by omega
      obtain ⟨g, go, rfl, hgl, hcell⟩ := HSL.out.at' stC_len (by omega) i hlt
      have hc0 := hcell 0 _ rfl
      rw [Nat.mul_one, Nat.add_zero] at hc0
      have e0 : wr.cell? ⟨g, go + i, none⟩ = some (.string (bs l[i])) := (HW.out.cell (p := ⟨g, go + i, none⟩) hgl).trans hc0
      clear hc0
      have hbl' : g < wr.heap.size := lt_of_cell e0
      have HF := Lib.hid (HD.out wr l[i] (List.getElem_mem hlt) HW.out)
      clear hcell
      have HNX : Hid ((l.take (i + 1)).any p = p l[i]) := by
        show _ = _
        rw [List.take_succ_eq_append_getElem hlt, List.any_append, HI.out]; simp
      have HAN : Hid (p l[i] = true → l.any p = true) := fun e => List.any_eq_true.2 ⟨_, List.getElem_mem hlt, e⟩
      generalize p l[i] = d at *
      generalize l[i] = x at *
      clear HI
      go_wp2_with fail
      refine HF.out.mono ?_
      rintro e w3 ⟨rfl, h3⟩
      have HW3 := Lib.hid (HW.out.trans (h3.mono HW.out.size))
      clear h3
      cases d with
      | true =>
        have HE := Lib.hid (HAN.out rfl)
        go_wp2_with fail
        go_ret
        refine ⟨⟨_, rfl, ?_⟩, HW3.out⟩
        rw [HE.out]
        exact decide_eq_true (by omega)
      | false =>
        go_wp2_with fail
        go_roundg (l.length - (i + 1))
        case measure => omega
        case rel => exact ⟨i + 1, by omega, rfl, by go_num, HNX, HW3⟩
    · have hlt' : ¬ (i : Int) < (l.length : Int) := by omega
      have HE : Hid (l.any p = false) := by
        have := HI.out
        rw [List.take_of_length_le (by omega)] at this
        exact this
      go_wp2_with fail
      go_ret
      refine ⟨⟨_, rfl, ?_⟩, HW.out⟩
      rw [HE.out]
      rfl
set_option maxRecDepth 100000 in
set_option maxHeartbeats 1000000 in
theorem containsStr0 {w : World} {a : Option Addr} {cap : Nat} {l : List Bs} {p : Bs → Bool} {fn : FuncId}  (hS : Sl w (.slice a l.length cap) 1 l.length (cellsOf stC l)) (hn : l.length ≤ 1000000) (hcf : ∀ (args : Array Value) (w : World), (callFunc fn args).run Try.prog w = .ok (.enter fn args) w)
    (hd : ∀ W (x : Bs), x ∈ l → Below w.heap.size w W → Calls Try.prog fn #[.string (bs x)] W fun e w' => e = .returned (.bool (p x)) ∧ Below W.heap.size W w') :
    Calls Try.prog 15 #[.slice a l.length cap, .func (.func fn) #[] #[]] w fun e w' => e = .returned (.bool (l.any p)) ∧ Below w.heap.size w w' := by
  have HC := Lib.hid (indexStr0 hS hn hcf hd)
  clear hS hd hcf
  go_enter Try.func15, Try.ntmps15
  go_wp2_with fail
  refine HC.out.mono ?_
  rintro e w1 ⟨⟨k, rfl, hk⟩, hb⟩
  have HK := Lib.hid hk
  clear hk
  go_wp2_with fail
  go_ret
  exact ⟨by rw [← HK.out]; rfl, hb⟩
set_option maxRecDepth 100000 in
set_option maxHeartbeats 1000000 in
theorem indexSym {w : World} {a : Option Addr} {cap : Nat} {l : List Ob.Sm} {p : Ob.Sm → Bool} {fn : FuncId} {c : Value} (hS : Sl w (.slice a l.length cap) 3 l.length (cellsOf smC l)) (hn : l.length ≤ 1000000) (hcf : ∀ (args : Array Value) (w : World), (callFunc fn args).run Try.prog w = .ok (.enter fn args) w)
    (hd : ∀ W (x : Ob.Sm), x ∈ l → Below w.heap.size w W → Calls Try.prog fn #[.agg #[.string (bs x.name), .int .i64 x.len, .int .i64 x.args], c] W fun e w' => e = .returned (.bool (p x)) ∧ Below W.heap.size W w') :
    Calls Try.prog 35 #[.slice a l.length cap, .func (.func fn) #[] #[c]] w fun e w' => (∃ k : Int, e = .returned (.int .i64 k) ∧ (decide (0 ≤ k) = l.any p)) ∧ Below w.heap.size w w' := by
  have hn' : (l.length : Int) ≤ 1000000 := by omega
  have HSL := Lib.hid hS
  have HD := Lib.hid hd
  clear hS hd
  go_enter Try.func35, Try.ntmps35
  go_wp2_with fail
  go_loopg [8] l.length (fun k vi wr => ∃ i : Nat, i ≤ l.length ∧ k = l.length - i ∧ vi = .int .i64 (i : Int) ∧ Hid ((l.take i).any p = false) ∧ Hid (Below w.heap.size w wr))
  case atStart => exact ⟨0, by omega, by omega, rfl, rfl, Below.refl _ _⟩
  case round =>
    obtain ⟨i, hid, hk, rfl, HI, HW⟩ := hrel
    by_cases hlt : i < l.length
    · have hlt' : (i : Int) < (l.length : Int) := by omega
      obtain ⟨g, go, rfl, hgl, hcell⟩ := HSL.out.at' smC_len (by omega) i hlt
      have e0 : wr.cell? ⟨g, go + i * 3, none⟩ = some (.string (bs l[i].name)) := (HW.out.cell (p := ⟨g, go + i * 3, none⟩) hgl).trans (hcell 0 _ rfl)
      have e1 : wr.cell? ⟨g, go + i * 3 + 1, none⟩ = some (.int .i64 l[i].len) := (HW.out.cell (p := ⟨g, go + i * 3 + 1, none⟩) hgl).trans (hcell 1 _ rfl)
      have e2 : wr.cell? ⟨g, go + i * 3 + 2, none⟩ = some (.int .i64 l[i].args) := (HW.out.cell (p := ⟨g, go + i * 3 + 2, none⟩) hgl).trans (hcell 2 _ rfl)
      have hbl' : g < wr.heap.size := lt_of_cell e0
      have HF := Lib.hid (HD.out wr l[i] (List.getElem_mem hlt) HW.out)
      clear hcell
      have HNX : Hid ((l.take (i + 1)).any p = p l[i]) := by
        show _ = _
        rw [List.take_succ_eq_append_getElem hlt, List.any_append, HI.out]; simp
      have HAN : Hid (p l[i] = true → l.any p = true) := fun e => List.any_eq_true.2 ⟨_, List.getElem_mem hlt, e⟩
      generalize p l[i] = d at *
      generalize l[i] = x at *
      clear HI
      go_wp2_with fail
      refine HF.out.mono ?_
      rintro e w3 ⟨rfl, h3⟩
      have HW3 := Lib.hid (HW.out.trans (h3.mono HW.out.size))
      clear h3
      cases d with
      | true =>
        have HE := Lib.hid (HAN.out rfl)
        go_wp2_with fail
        go_ret
        refine ⟨⟨_, rfl, ?_⟩, HW3.out⟩
        rw [HE.out]
        exact decide_eq_true (by omega)
      | false =>
        go_wp2_with fail
        go_roundg (l.length - (i + 1))
        case measure => omega
        case rel => exact ⟨i + 1, by omega, rfl, by go_num, HNX, HW3⟩
    · have hlt' : ¬ (i : Int) < (l.length : Int) := by omega
      have HE : Hid (l.any p = false) := by
        have := HI.out
        rw [List.take_of_length_le (by omega)] at this
        exact this
      go_wp2_with fail
      go_ret
      refine ⟨⟨_, rfl, ?_⟩, HW.out⟩
      rw [HE.out]
      rfl
set_option maxRecDepth 100000 in
set_option maxHeartbeats 1000000 in
theorem containsSym {w : World} {a : Option Addr} {cap : Nat} {l : List Ob.Sm} {p : Ob.Sm → Bool} {fn : FuncId} {c : Value} (hS : Sl w (.slice a l.length cap) 3 l.length (cellsOf smC l)) (hn : l.length ≤ 1000000) (hcf : ∀ (args : Array Value) (w : World), (callFunc fn args).run Try.prog w = .ok (.enter fn args) w)
    (hd : ∀ W (x : Ob.Sm), x ∈ l → Below w.heap.size w W → Calls Try.prog fn #[.agg #[.string (bs x.name), .int .i64 x.len, .int .i64 x.args], c] W fun e w' => e = .returned (.bool (p x)) ∧ Below W.heap.size W w') :
    Calls Try.prog 16 #[.slice a l.length cap, .func (.func fn) #[] #[c]] w fun e w' => e = .returned (.bool (l.any p)) ∧ Below w.heap.size w w' := by
  have HC := Lib.hid (indexSym hS hn hcf hd)
  clear hS hd hcf
  go_enter Try.func16, Try.ntmps16
  go_wp2_with fail
  refine HC.out.mono ?_
  rintro e w1 ⟨⟨k, rfl, hk⟩, hb⟩
  have HK := Lib.hid hk
  clear hk
  go_wp2_with fail
  go_ret
  exact ⟨by rw [← HK.out]; rfl, hb⟩
set_option maxRecDepth 100000 in
set_option maxHeartbeats 1000000 in
theorem indexGl {w : World} {a : Option Addr} {cap : Nat} {l : List Ob.Gl} {p : Ob.Gl → Bool} {fn : FuncId} {c : Value} (hS : Sl w (.slice a l.length cap) 4 l.length (cellsOf glC l)) (hn : l.length ≤ 1000000) (hcf : ∀ (args : Array Value) (w : World), (callFunc fn args).run Try.prog w = .ok (.enter fn args) w)
    (hd : ∀ W (x : Ob.Gl), x ∈ l → Below w.heap.size w W → Calls Try.prog fn #[.agg #[.string (bs x.name), .int .i64 x.at', .int .i64 x.len, .bool x.seen], c] W fun e w' => e = .returned (.bool (p x)) ∧ Below W.heap.size W w') :
    Calls Try.prog 36 #[.slice a l.length cap, .func (.func fn) #[] #[c]] w fun e w' => (∃ k : Int, e = .returned (.int .i64 k) ∧ (decide (0 ≤ k) = l.any p)) ∧ Below w.heap.size w w' := by
  have hn' : (l.length : Int) ≤ 1000000 := by omega
  have HSL := Lib.hid hS
  have HD := Lib.hid hd
  clear hS hd
  go_enter Try.func36, Try.ntmps36
  go_wp2_with fail
  go_loopg [8] l.length (fun k vi wr => ∃ i : Nat, i ≤ l.length ∧ k = l.length - i ∧ vi = .int .i64 (i : Int) ∧ Hid ((l.take i).any p = false) ∧ Hid (Below w.heap.size w wr))
  case atStart => exact ⟨0, by omega, by omega, rfl, rfl, Below.refl _ _⟩
  case round =>
    obtain ⟨i, hid, hk, rfl, HI, HW⟩ := hrel
    by_cases hlt : i < l.length
    · have hlt' : (i : Int) < (l.length : Int) := by omega
      obtain ⟨g, go, rfl, hgl, hcell⟩ := HSL.out.at' glC_len (by omega) i hlt
      have e0 : wr.cell? ⟨g, go + i * 4, none⟩ = some (.string (bs l[i].name)) := (HW.out.cell (p := ⟨g, go + i * 4, none⟩) hgl).trans (hcell 0 _ rfl)
      have e1 : wr.cell? ⟨g, go + i * 4 + 1, none⟩ = some (.int .i64 l[i].at') := (HW.out.cell (p := ⟨g, go + i * 4 + 1, none⟩) hgl).trans (hcell 1 _ rfl)
      have e2 : wr.cell? ⟨g, go + i * 4 + 2, none⟩ = some (.int .i64 l[i].len) := (HW.out.cell (p := ⟨g, go + i * 4 + 2, none⟩) hgl).trans (hcell 2 _ rfl)
      have e3 : wr.cell? ⟨g, go + i * 4 + 3, none⟩ = some (.bool l[i].seen) := (HW.out.cell (p := ⟨g, go + i * 4 + 3, none⟩) hgl).trans (hcell 3 _ rfl)
      have hbl' : g < wr.heap.size := lt_of_cell e0
      have HF := Lib.hid (HD.out wr l[i] (List.getElem_mem hlt) HW.out)
      clear hcell
      have HNX : Hid ((l.take (i + 1)).any p = p l[i]) := by
        show _ = _
        rw [List.take_succ_eq_append_getElem hlt, List.any_append, HI.out]; simp
      have HAN : Hid (p l[i] = true → l.any p = true) := fun e => List.any_eq_true.2 ⟨_, List.getElem_mem hlt, e⟩
      generalize p l[i] = d at *
      generalize l[i] = x at *
      clear HI
      go_wp2_with fail
      refine HF.out.mono ?_
      rintro e w3 ⟨rfl, h3⟩
      have HW3 := Lib.hid (HW.out.trans (h3.mono HW.out.size))
      clear h3
      cases d with
      | true =>
        have HE := Lib.hid (HAN.out rfl)
        go_wp2_with fail
        go_ret
        refine ⟨⟨_, rfl, ?_⟩, HW3.out⟩
        rw [HE.out]
        exact decide_eq_true (by omega)
      | false =>
        go_wp2_with fail
        go_roundg (l.length - (i + 1))
        case measure => omega
        case rel => exact ⟨i + 1, by omega, rfl, by go_num, HNX, HW3⟩
    · have hlt' : ¬ (i : Int) < (l.length : Int) := by omega
      have HE : Hid (l.any p = false) := by
        have := HI.out
        rw [List.take_of_length_le (by omega)] at this
        exact this
      go_wp2_with fail
      go_ret
      refine ⟨⟨_, rfl, ?_⟩, HW.out⟩
      rw [HE.out]
      rfl
set_option maxRecDepth 100000 in
set_option maxHeartbeats 1000000 in
theorem containsGl {w : World} {a : Option Addr} {cap : Nat} {l : List Ob.Gl} {p : Ob.Gl → Bool} {fn : FuncId} {c : Value} (hS : Sl w (.slice a l.length cap) 4 l.length (cellsOf glC l)) (hn : l.length ≤ 1000000) (hcf : ∀ (args : Array Value) (w : World), (callFunc fn args).run Try.prog w = .ok (.enter fn args) w)
    (hd : ∀ W (x : Ob.Gl), x ∈ l → Below w.heap.size w W → Calls Try.prog fn #[.agg #[.string (bs x.name), .int .i64 x.at', .int .i64 x.len, .bool x.seen], c] W fun e w' => e = .returned (.bool (p x)) ∧ Below W.heap.size W w') :
    Calls Try.prog 18 #[.slice a l.length cap, .func (.func fn) #[] #[c]] w fun e w' => e = .returned (.bool (l.any p)) ∧ Below w.heap.size w w' := by
  have HC := Lib.hid (indexGl hS hn hcf hd)
  clear hS hd hcf
  go_enter Try.func18, Try.ntmps18
  go_wp2_with fail
  refine HC.out.mono ?_
  rintro e w1 ⟨⟨k, rfl, hk⟩, hb⟩
  have HK := Lib.hid hk
  clear hk
  go_wp2_with fail
  go_ret
  exact ⟨by rw [← HK.out]; rfl, hb⟩
set_option maxRecDepth 100000 in
set_option maxHeartbeats 1000000 in
theorem indexEn {w : World} {a : Option Addr} {cap : Nat} {l : List Ob.En} {p : Ob.En → Bool} {fn : FuncId} {c : Value} (hS : Sl w (.slice a l.length cap) 3 l.length (cellsOf enC l)) (hn : l.length ≤ 1000000) (hcf : ∀ (args : Array Value) (w : World), (callFunc fn args).run Try.prog w = .ok (.enter fn args) w)
    (hd : ∀ W (x : Ob.En), x ∈ l → Below w.heap.size w W → Calls Try.prog fn #[.agg #[.int .i64 x.at', .int .i64 x.args, .int .i64 x.locals], c] W fun e w' => e = .returned (.bool (p x)) ∧ Below W.heap.size W w') :
    Calls Try.prog 89 #[.slice a l.length cap, .func (.func fn) #[] #[c]] w fun e w' => (∃ k : Int, e = .returned (.int .i64 k) ∧ (decide (0 ≤ k) = l.any p)) ∧ Below w.heap.size w w' := by
  have hn' : (l.length : Int) ≤ 1000000 := by omega
  have HSL := Lib.hid hS
  have HD := Lib.hid hd
  clear hS hd
  go_enter Try.func89, Try.ntmps89
  go_wp2_with fail
  go_loopg [8] l.length (fun k vi wr => ∃ i : Nat, i ≤ l.length ∧ k = l.length - i ∧ vi = .int .i64 (i : Int) ∧ Hid ((l.take i).any p = false) ∧ Hid (Below w.heap.size w wr))
  case atStart => exact ⟨0, by omega, by omega, rfl, rfl, Below.refl _ _⟩
  case round =>
    obtain ⟨i, hid, hk, rfl, HI, HW⟩ := hrel
    by_cases hlt : i < l.length
    · have hlt' : (i : Int) < (l.length : Int) := by omega
      obtain ⟨g, go, rfl, hgl, hcell⟩ := HSL.out.at' enC_len (by omega) i hlt
      have e0 : wr.cell? ⟨g, go + i * 3, none⟩ = some (.int .i64 l[i].at') := (HW.out.cell (p := ⟨g, go + i * 3, none⟩) hgl).trans (hcell 0 _ rfl)
      have e1 : wr.cell? ⟨g, go + i * 3 + 1, none⟩ = some (.int .i64 l[i].args) := (HW.out.cell (p := ⟨g, go + i * 3 + 1, none⟩) hgl).trans (hcell 1 _ rfl)
      have e2 : wr.cell? ⟨g, go + i * 3 + 2, none⟩ = some (.int .i64 l[i].locals) := (HW.out.cell (p := ⟨g, go + i * 3 + 2, none⟩) hgl).trans (hcell 2 _ rfl)
      have hbl' : g < wr.heap.size := lt_of_cell e0
      have HF := Lib.hid (HD.out wr l[i] (List.getElem_mem hlt) HW.out)
      clear hcell
      have HNX : Hid ((l.take (i + 1)).any p = p l[i]) := by
        show _ = _
        rw [List.take_succ_eq_append_getElem hlt, List.any_append, HI.out]; simp
      have HAN : Hid (p l[i] = true → l.any p = true) := fun e => List.any_eq_true.2 ⟨_, List.getElem_mem hlt, e⟩
      generalize p l[i] = d at *
      generalize l[i] = x at *
      clear HI
      go_wp2_with fail
      refine HF.out.mono ?_
      rintro e w3 ⟨rfl, h3⟩
      have HW3 := Lib.hid (HW.out.trans (h3.mono HW.out.size))
      clear h3
      cases d with
      | true =>
        have HE := Lib.hid (HAN.out rfl)
        go_wp2_with fail
        go_ret
        refine ⟨⟨_, rfl, ?_⟩, HW3.out⟩
        rw [HE.out]
        exact decide_eq_true (by omega)
      | false =>
        go_wp2_with fail
        go_roundg (l.length - (i + 1))
        case measure => omega
        case rel => exact ⟨i + 1, by omega, rfl, by go_num, HNX, HW3⟩
    · have hlt' : ¬ (i : Int) < (l.length : Int) := by omega
      have HE : Hid (l.any p = false) := by
        have := HI.out
        rw [List.take_of_length_le (by omega)] at this
        exact this
      go_wp2_with fail
      go_ret
      refine ⟨⟨_, rfl, ?_⟩, HW.out⟩
      rw [HE.out]
      rfl
set_option maxRecDepth 100000 in
set_option maxHeartbeats 1000000 in
theorem containsEn {w : World} {a : Option Addr} {cap : Nat} {l : List Ob.En} {p : Ob.En → Bool} {fn : FuncId} {c : Value} (hS : Sl w (.slice a l.length cap) 3 l.length (cellsOf enC l)) (hn : l.length ≤ 1000000) (hcf : ∀ (args : Array Value) (w : World), (callFunc fn args).run Try.prog w = .ok (.enter fn args) w)
    (hd : ∀ W (x : Ob.En), x ∈ l → Below w.heap.size w W → Calls Try.prog fn #[.agg #[.int .i64 x.at', .int .i64 x.args, .int .i64 x.locals], c] W fun e w' => e = .returned (.bool (p x)) ∧ Below W.heap.size W w') :
    Calls Try.prog 77 #[.slice a l.length cap, .func (.func fn) #[] #[c]] w fun e w' => e = .returned (.bool (l.any p)) ∧ Below w.heap.size w w' := by
  have HC := Lib.hid (indexEn hS hn hcf hd)
  clear hS hd hcf
  go_enter Try.func77, Try.ntmps77
  go_wp2_with fail
  refine HC.out.mono ?_
  rintro e w1 ⟨⟨k, rfl, hk⟩, hb⟩
  have HK := Lib.hid hk
  clear hk
  go_wp2_with fail
  go_ret
  exact ⟨by rw [← HK.out]; rfl, hb⟩
set_option maxRecDepth 100000 in
set_option maxHeartbeats 1000000 in
theorem indexIn {w : World} {a : Option Addr} {cap : Nat} {l : List Ob.In} {p : Ob.In → Bool} {fn : FuncId} {c : Value} (hS : Sl w (.slice a l.length cap) 3 l.length (cellsOf inC l)) (hn : l.length ≤ 1000000) (hcf : ∀ (args : Array Value) (w : World), (callFunc fn args).run Try.prog w = .ok (.enter fn args) w)
    (hd : ∀ W (x : Ob.In), x ∈ l → Below w.heap.size w W → Calls Try.prog fn #[.agg #[.int .i64 x.op, .int .i64 x.a, .int .i64 x.b], c] W fun e w' => e = .returned (.bool (p x)) ∧ Below W.heap.size W w') :
    Calls Try.prog 90 #[.slice a l.length cap, .func (.func fn) #[] #[c]] w fun e w' => (∃ k : Int, e = .returned (.int .i64 k) ∧ (decide (0 ≤ k) = l.any p)) ∧ Below w.heap.size w w' := by
  have hn' : (l.length : Int) ≤ 1000000 := by omega
  have HSL := Lib.hid hS
  have HD := Lib.hid hd
  clear hS hd
  go_enter Try.func90, Try.ntmps90
  go_wp2_with fail
  go_loopg [8] l.length (fun k vi wr => ∃ i : Nat, i ≤ l.length ∧ k = l.length - i ∧ vi = .int .i64 (i : Int) ∧ Hid ((l.take i).any p = false) ∧ Hid (Below w.heap.size w wr))
  case atStart => exact ⟨0, by omega, by omega, rfl, rfl, Below.refl _ _⟩
  case round =>
    obtain ⟨i, hid, hk, rfl, HI, HW⟩ := hrel
    by_cases hlt : i < l.length
    · have hlt' : (i : Int) < (l.length : Int) := by omega
      obtain ⟨g, go, rfl, hgl, hcell⟩ := HSL.out.at' inC_len (by omega) i hlt
      have e0 : wr.cell? ⟨g, go + i * 3, none⟩ = some (.int .i64 l[i].op) := (HW.out.cell (p := ⟨g, go + i * 3, none⟩) hgl).trans (hcell 0 _ rfl)
      have e1 : wr.cell? ⟨g, go + i * 3 + 1, none⟩ = some (.int .i64 l[i].a) := (HW.out.cell (p := ⟨g, go + i * 3 + 1, none⟩) hgl).trans (hcell 1 _ rfl)
      have e2 : wr.cell? ⟨g, go + i * 3 + 2, none⟩ = some (.int .i64 l[i].b) := (HW.out.cell (p := ⟨g, go + i * 3 + 2, none⟩) hgl).trans (hcell 2 _ rfl)
      have hbl' : g < wr.heap.size := lt_of_cell e0
      have HF := Lib.hid (HD.out wr l[i] (List.getElem_mem hlt) HW.out)
      clear hcell
      have HNX : Hid ((l.take (i + 1)).any p = p l[i]) := by
        show _ = _
        rw [List.take_succ_eq_append_getElem hlt, List.any_append, HI.out]; simp
      have HAN : Hid (p l[i] = true → l.any p = true) := fun e => List.any_eq_true.2 ⟨_, List.getElem_mem hlt, e⟩
      generalize p l[i] = d at *
      generalize l[i] = x at *
      clear HI
      go_wp2_with fail
      refine HF.out.mono ?_
      rintro e w3 ⟨rfl, h3⟩
      have HW3 := Lib.hid (HW.out.trans (h3.mono HW.out.size))
      clear h3
      cases d with
      | true =>
        have HE := Lib.hid (HAN.out rfl)
        go_wp2_with fail
        go_ret
        refine ⟨⟨_, rfl, ?_⟩, HW3.out⟩
        rw [HE.out]
        exact decide_eq_true (by omega)
      | false =>
        go_wp2_with fail
        go_roundg (l.length - (i + 1))
        case measure => omega
        case rel => exact ⟨i + 1, by omega, rfl, by go_num, HNX, HW3⟩
    · have hlt' : ¬ (i : Int) < (l.length : Int) := by omega
      have HE : Hid (l.any p = false) := by
        have := HI.out
        rw [List.take_of_length_le (by omega)] at this
        exact this
      go_wp2_with fail
      go_ret
      refine ⟨⟨_, rfl, ?_⟩, HW.out⟩
      rw [HE.out]
      rfl
set_option maxRecDepth 100000 in
set_option maxHeartbeats 1000000 in
theorem containsIn {w : World} {a : Option Addr} {cap : Nat} {l : List Ob.In} {p : Ob.In → Bool} {fn : FuncId} {c : Value} (hS : Sl w (.slice a l.length cap) 3 l.length (cellsOf inC l)) (hn : l.length ≤ 1000000) (hcf : ∀ (args : Array Value) (w : World), (callFunc fn args).run Try.prog w = .ok (.enter fn args) w)
    (hd : ∀ W (x : Ob.In), x ∈ l → Below w.heap.size w W → Calls Try.prog fn #[.agg #[.int .i64 x.op, .int .i64 x.a, .int .i64 x.b], c] W fun e w' => e = .returned (.bool (p x)) ∧ Below W.heap.size W w') :
    Calls Try.prog 80 #[.slice a l.length cap, .func (.func fn) #[] #[c]] w fun e w' => e = .returned (.bool (l.any p)) ∧ Below w.heap.size w w' := by
  have HC := Lib.hid (indexIn hS hn hcf hd)
  clear hS hd hcf
  go_enter Try.func80, Try.ntmps80
  go_wp2_with fail
  refine HC.out.mono ?_
  rintro e w1 ⟨⟨k, rfl, hk⟩, hb⟩
  have HK := Lib.hid hk
  clear hk
  go_wp2_with fail
  go_ret
  exact ⟨by rw [← HK.out]; rfl, hb⟩
set_option maxRecDepth 100000 in
set_option maxHeartbeats 1000000 in
theorem indexUs {w : World} {ua : Option Addr} {cap : Nat} {l : List Ob.Us} {p : Ob.Us → Bool} {fn : FuncId} {c : Value} {ucs : List Value} (hU : RepN w l ucs) (hS : Sl w (.slice ua l.length cap) 3 l.length ucs) (hn : l.length ≤ 1000000) (hcf : ∀ (args : Array Value) (w : World), (callFunc fn args).run Try.prog w = .ok (.enter fn args) w)
    (hd : ∀ W (x : Ob.Us) na nc, x ∈ l → Below w.heap.size w W → Sl w (.slice na x.names.length nc) 1 x.names.length (cellsOf stC x.names) → Calls Try.prog fn #[.agg #[.string (bs x.name), .string (bs x.need), .slice na x.names.length nc], c] W fun e w' => e = .returned (.bool (p x)) ∧ Below W.heap.size W w') :
    Calls Try.prog 37 #[.slice ua l.length cap, .func (.func fn) #[] #[c]] w fun e w' => (∃ k : Int, e = .returned (.int .i64 k) ∧ (decide (0 ≤ k) = l.any p)) ∧ Below w.heap.size w w' := by
  have hn' : (l.length : Int) ≤ 1000000 := by omega
  have HSL := Lib.hid hS
  have HD := Lib.hid hd
  have HU := Lib.hid hU
  clear hS hd
  go_enter Try.func37, Try.ntmps37
  go_wp2_with fail
  go_loopg [8] l.length (fun k vi wr => ∃ i : Nat, i ≤ l.length ∧ k = l.length - i ∧ vi = .int .i64 (i : Int) ∧ Hid ((l.take i).any p = false) ∧ Hid (Below w.heap.size w wr))
  case atStart => exact ⟨0, by omega, by omega, rfl, rfl, Below.refl _ _⟩
  case round =>
    obtain ⟨i, hid, hk, rfl, HI, HW⟩ := hrel
    by_cases hlt : i < l.length
    · have hlt' : (i : Int) < (l.length : Int) := by omega
      obtain ⟨na', nc', q0, q1, q2, q3⟩ := RepN.get _ _ HU.out i hlt
      obtain ⟨a0, c0', hsl0, _, hall⟩ := HSL.out
      cases hsl0
      obtain ⟨g, go, rfl, hg0⟩ := hall _ _ q0
      have hgl := lt_of_cell hg0
      have e0 : wr.cell? ⟨g, go + i * 3, none⟩ = some (.string (bs l[i].name)) := (HW.out.cell (p := ⟨g, go + i * 3, none⟩) hgl).trans hg0
      have e1 : wr.cell? ⟨g, go + i * 3 + 1, none⟩ = some (.string (bs l[i].need)) := by
        obtain ⟨g', go', he, hg1⟩ := hall _ _ q1
        cases he
        exact (HW.out.cell (p := ⟨g, go + i * 3 + 1, none⟩) hgl).trans hg1
      have e2 : wr.cell? ⟨g, go + i * 3 + 2, none⟩ = some (.slice na' l[i].names.length nc') := by
        obtain ⟨g', go', he, hg1⟩ := hall _ _ q2
        cases he
        exact (HW.out.cell (p := ⟨g, go + i * 3 + 2, none⟩) hgl).trans hg1
      have hbl' : g < wr.heap.size := lt_of_cell e0
      have HF := Lib.hid (HD.out wr l[i] na' nc' (List.getElem_mem hlt) HW.out q3)
      clear hall q0 q1 q2 q3 hg0
      have HNX : Hid ((l.take (i + 1)).any p = p l[i]) := by
        show _ = _
        rw [List.take_succ_eq_append_getElem hlt, List.any_append, HI.out]; simp
      have HAN : Hid (p l[i] = true → l.any p = true) := fun e => List.any_eq_true.2 ⟨_, List.getElem_mem hlt, e⟩
      generalize p l[i] = d at *
      generalize l[i] = x at *
      clear HI
      go_wp2_with fail
      refine HF.out.mono ?_
      rintro e w3 ⟨rfl, h3⟩
      have HW3 := Lib.hid (HW.out.trans (h3.mono HW.out.size))
      clear h3
      cases d with
      | true =>
        have HE := Lib.hid (HAN.out rfl)
        go_wp2_with fail
        go_ret
        refine ⟨⟨_, rfl, ?_⟩, HW3.out⟩
        rw [HE.out]
        exact decide_eq_true (by omega)
      | false =>
        go_wp2_with fail
        go_roundg (l.length - (i + 1))
        case measure => omega
        case rel => exact ⟨i + 1, by omega, rfl, by go_num, HNX, HW3⟩
    · have hlt' : ¬ (i : Int) < (l.length : Int) := by omega
      have HE : Hid (l.any p = false) := by
        have := HI.out
        rw [List.take_of_length_le (by omega)] at this
        exact this
      go_wp2_with fail
      go_ret
      refine ⟨⟨_, rfl, ?_⟩, HW.out⟩
      rw [HE.out]
      rfl
set_option maxRecDepth 100000 in
set_option maxHeartbeats 1000000 in
theorem containsUs {w : World} {ua : Option Addr} {cap : Nat} {l : List Ob.Us} {p : Ob.Us → Bool} {fn : FuncId} {c : Value} {ucs : List Value} (hU : RepN w l ucs) (hS : Sl w (.slice ua l.length cap) 3 l.length ucs) (hn : l.length ≤ 1000000) (hcf : ∀ (args : Array Value) (w : World), (callFunc fn args).run Try.prog w = .ok (.enter fn args) w)
    (hd : ∀ W (x : Ob.Us) na nc, x ∈ l → Below w.heap.size w W → Sl w (.slice na x.names.length nc) 1 x.names.length (cellsOf stC x.names) → Calls Try.prog fn #[.agg #[.string (bs x.name), .string (bs x.need), .slice na x.names.length nc], c] W fun e w' => e = .returned (.bool (p x)) ∧ Below W.heap.size W w') :
    Calls Try.prog 20 #[.slice ua l.length cap, .func (.func fn) #[] #[c]] w fun e w' => e = .returned (.bool (l.any p)) ∧ Below w.heap.size w w' := by
  have HC := Lib.hid (indexUs hU hS hn hcf hd)
  clear hS hd hcf
  go_enter Try.func20, Try.ntmps20
  go_wp2_with fail
  refine HC.out.mono ?_
  rintro e w1 ⟨⟨k, rfl, hk⟩, hb⟩
  have HK := Lib.hid hk
  clear hk
  go_wp2_with fail
  go_ret
  exact ⟨by rw [← HK.out]; rfl, hb⟩
end Go.Proofs.Ytljnddcddclmeaa
