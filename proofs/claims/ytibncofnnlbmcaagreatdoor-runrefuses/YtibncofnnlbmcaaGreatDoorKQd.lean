import Derived.Test.YtibncofnnlbmcaaGreatDoorKQc
/- Chapter 4: a mark of two: pair. -/
namespace Go.Proofs.YtibncofnnlbmcaaGreatDoor
open Go.RowKit Go.Maps
open Tp (Bs X S G Pr Pt Rs Rr Own)

theorem EvP.up {c : Cx} {k : Nat} {w W w' : World} {s s' : Rs} {r : Rr Int} {e : Ending} (h : EvP c k W s' r e w') (hk : Kp c nY w W) (hl : s'.left ≤ s.left) : EvP c k w s r e w' := by
  cases r with
  | ok v s2 => exact ⟨h.1, h.2.1, hk.trans h.2.2.1, Nat.le_trans h.2.2.2.1 hl, h.2.2.2.2⟩
  | stop way s2 => exact ⟨h.1, h.2.1, hk.trans h.2.2⟩
  | gas => trivial
def bindR (r : Rr Int) (f : Int → Rs → Rr Int) : Rr Int := match r with
  | .ok v s => f v s
  | .stop way s => .stop way s
  | .gas => .gas
def CellX (c : Cx) (x : Nat) (bop : ByteArray) (y z : Nat) : Prop := ∀ W s' k', GS c W s' k' → x < W.heap.size ∧ W.cell? ⟨x, 5, none⟩ = some (.string bop) ∧ W.cell? ⟨x, 6, none⟩ = some (.pointer (some ⟨y, 0, none⟩)) ∧ W.cell? ⟨x, 7, none⟩ = some (.pointer (some ⟨z, 0, none⟩))
def RightC (c : Cx) (k : Nat) (w : World) (s : Rs) (sb z : Nat) (rr : Rs → Rr Int) : Prop := ∀ W s', GS c W s' k → Kp c nY w W → s'.left ≤ s.left → rr s' ≠ .gas → Calls Tryz.prog 150 #[.pointer (some ⟨sb, 0, none⟩), .pointer (some ⟨z, 0, none⟩)] W (EvP c k W s' (rr s'))
theorem b01_in (p : Prop) [Decidable p] : Tp.I64 (Tp.b01 p) := by unfold Tp.b01 Tp.I64; split <;> omega
theorem ne_bool (b : Int) : (!(b == 0)) = decide (b ≠ 0) := by by_cases h : b = 0 <;> simp [h]
set_option maxRecDepth 100000 in
set_option maxHeartbeats 2000000 in
theorem pair_and {c : Cx} {k : Nat} {w : World} {s : Rs} {sb x y z : Nat} {rl : Rr Int} {rr : Rs → Rr Int} {bop : ByteArray} (h1 : (bop.toList == [97, 110, 100]) = true) (h : GS c w s k) (hX : CellX c x bop y z)
    (hL : Calls Tryz.prog 150 #[.pointer (some ⟨sb, 0, none⟩), .pointer (some ⟨y, 0, none⟩)] w (EvP c k w s rl)) (hR : RightC c k w s sb z rr)
    {res : Rr Int} (hres : res = bindR rl fun a s' => if a = 0 then .ok 0 s' else bindR (rr s') fun b s2 => .ok (Tp.b01 (b ≠ 0)) s2) (hn : res ≠ .gas) :
    Calls Tryz.prog 175 #[.pointer (some ⟨sb, 0, none⟩), .pointer (some ⟨x, 0, none⟩)] w (EvP c k w s res) := by
  obtain ⟨hxl, _, k6, _⟩ := hX w s k h
  have HX := Lib.hid hX
  have HL := Lib.hid hL
  have HRT := Lib.hid hR
  clear hX hL hR h
  cases rl with
  | gas => exact absurd (hres.trans rfl) hn
  | stop way s' =>
    have HR : Hid (∀ e W, EvP c k w s (.stop way s') e W → EvP c k w s res e W) := fun e W hW => by rw [hres]; exact hW
    clear hres hn
    go_enter Tryz.func175, Tryz.ntmps175
    go_wp2_with fail
    refine HL.out.mono ?_
    rintro e w2 ⟨⟨older, rfl⟩, hg2, hk2⟩
    have HG2 := Lib.hid hg2
    have HK2 := Lib.hid hk2
    clear hg2 hk2
    go_wp2_with fail
    exact ⟨rfl, HR.out _ _ ⟨⟨older, rfl⟩, HG2.out, HK2.out⟩⟩
  | ok a s1 =>
    have hres1 : res = if a = 0 then .ok 0 s1 else bindR (rr s1) fun b s2 => .ok (Tp.b01 (b ≠ 0)) s2 := hres
    clear hres
    by_cases ha : a = 0
    · rw [if_pos ha] at hres1
      have HR : Hid (∀ W, GS c W s1 k → Kp c nY w W → s1.left ≤ s.left → EvP c k w s res (.returned (.int .i64 0)) W) := fun W a1 a2 a3 => by rw [hres1]; exact ⟨rfl, a1, a2, a3, by decide⟩
      subst ha
      clear hres1 hn
      go_enter Tryz.func175, Tryz.ntmps175
      go_wp2_with fail
      refine HL.out.mono ?_
      rintro e w2 ⟨rfl, hg2, hk2, hl2, _⟩
      obtain ⟨hxl2, j5, _, j7⟩ := HX.out w2 _ _ hg2
      have HG2 := Lib.hid hg2
      have HK2 := Lib.hid hk2
      have HL2 := Lib.hid hl2
      clear hg2 hk2 hl2
      go_wp2_with fail
      refine (truth_any _ 0 (by rfl) w2).mono ?_
      rintro e w3 ⟨rfl, rfl⟩
      go_wp2_with fail
      go_ret
      exact HR.out _ HG2.out HK2.out HL2.out
    · rw [if_neg ha] at hres1
      have ha' : (a == 0) = false := by simpa using ha
      cases hrr : rr s1 with
      | gas => rw [hrr] at hres1; exact absurd hres1 hn
      | stop way s2 =>
        rw [hrr] at hres1
        have HR : Hid (∀ W e W', Kp c nY w W → s1.left ≤ s.left → EvP c k W s1 (.stop way s2) e W' → EvP c k w s res e W') := fun W e W' a1 a2 a3 => by rw [hres1]; exact a3.up a1 a2
        have HRR : Hid (rr s1 = .stop way s2) := hrr
        clear hres1 hn hrr
        go_enter Tryz.func175, Tryz.ntmps175
        go_wp2_with fail
        refine HL.out.mono ?_
        rintro e w2 ⟨rfl, hg2, hk2, hl2, _⟩
        obtain ⟨hxl2, j5, _, j7⟩ := HX.out w2 _ _ hg2
        have HC2 := Lib.hid (HRT.out w2 s1 hg2 hk2 hl2 (by rw [HRR.out]; simp))
        rw [HRR.out] at HC2
        have HK2 := Lib.hid hk2
        have HL2 := Lib.hid hl2
        clear hg2 hk2 hl2
        go_wp2_with fail
        refine HC2.out.mono ?_
        rintro e w3 ⟨⟨older, rfl⟩, hg3, hk3⟩
        have HG3 := Lib.hid hg3
        have HK3 := Lib.hid hk3
        clear hg3 hk3
        go_wp2_with fail
        exact ⟨rfl, HR.out _ _ _ HK2.out HL2.out ⟨⟨older, rfl⟩, HG3.out, HK3.out⟩⟩
      | ok b s2 =>
        rw [hrr] at hres1
        have HR : Hid (∀ W W', Kp c nY w W → s1.left ≤ s.left → GS c W' s2 k → Kp c nY W W' → s2.left ≤ s1.left → EvP c k w s res (.returned (.int .i64 (Tp.b01 (b ≠ 0)))) W') := fun W W' a1 a2 a3 a4 a5 => by rw [hres1]; exact ⟨rfl, a3, a1.trans a4, Nat.le_trans a5 a2, b01_in _⟩
        have HRR : Hid (rr s1 = .ok b s2) := hrr
        have HT : Hid (∀ q : Bool, q = decide (b ≠ 0) → Tp.b01 (b ≠ 0) = if q then (1 : Int) else 0) := fun q h => by rw [h]; exact (b01_bool _).symm
        clear hres1 hn hrr
        generalize Tp.b01 (b ≠ 0) = v at *
        go_enter Tryz.func175, Tryz.ntmps175
        go_wp2_with fail
        refine HL.out.mono ?_
        rintro e w2 ⟨rfl, hg2, hk2, hl2, _⟩
        obtain ⟨hxl2, j5, _, j7⟩ := HX.out w2 _ _ hg2
        have HC2 := Lib.hid (HRT.out w2 s1 hg2 hk2 hl2 (by rw [HRR.out]; simp))
        rw [HRR.out] at HC2
        have HK2 := Lib.hid hk2
        have HL2 := Lib.hid hl2
        clear hg2 hk2 hl2
        go_wp2_with fail
        refine HC2.out.mono ?_
        rintro e w3 ⟨rfl, hg3, hk3, hl3, _⟩
        have HG3 := Lib.hid hg3
        have HK3 := Lib.hid hk3
        have HL3 := Lib.hid hl3
        clear hg3 hk3 hl3
        go_wp2_with fail
        refine (truth_any _ v (HT.out _ (by first | rfl | exact ne_bool b | (by_cases hh : b = 0 <;> simp [hh, ha] <;> done) | (by_cases hh : b = 0 <;> simp [hh] <;> done))) w3).mono ?_
        rintro e w4 ⟨rfl, rfl⟩
        go_wp2_with fail
        go_ret
        exact HR.out _ _ HK2.out HL2.out HG3.out HK3.out HL3.out
set_option maxRecDepth 100000 in
set_option maxHeartbeats 2000000 in
theorem pair_or {c : Cx} {k : Nat} {w : World} {s : Rs} {sb x y z : Nat} {rl : Rr Int} {rr : Rs → Rr Int} {bop : ByteArray} (h0 : (bop.toList == [97, 110, 100]) = false) (h1 : (bop.toList == [111, 114]) = true) (h : GS c w s k) (hX : CellX c x bop y z)
    (hL : Calls Tryz.prog 150 #[.pointer (some ⟨sb, 0, none⟩), .pointer (some ⟨y, 0, none⟩)] w (EvP c k w s rl)) (hR : RightC c k w s sb z rr)
    {res : Rr Int} (hres : res = bindR rl fun a s' => if a ≠ 0 then .ok 1 s' else bindR (rr s') fun b s2 => .ok (Tp.b01 (b ≠ 0)) s2) (hn : res ≠ .gas) :
    Calls Tryz.prog 175 #[.pointer (some ⟨sb, 0, none⟩), .pointer (some ⟨x, 0, none⟩)] w (EvP c k w s res) := by
  obtain ⟨hxl, _, k6, _⟩ := hX w s k h
  have HX := Lib.hid hX
  have HL := Lib.hid hL
  have HRT := Lib.hid hR
  clear hX hL hR h
  cases rl with
  | gas => exact absurd (hres.trans rfl) hn
  | stop way s' =>
    have HR : Hid (∀ e W, EvP c k w s (.stop way s') e W → EvP c k w s res e W) := fun e W hW => by rw [hres]; exact hW
    clear hres hn
    go_enter Tryz.func175, Tryz.ntmps175
    go_wp2_with fail
    refine HL.out.mono ?_
    rintro e w2 ⟨⟨older, rfl⟩, hg2, hk2⟩
    have HG2 := Lib.hid hg2
    have HK2 := Lib.hid hk2
    clear hg2 hk2
    go_wp2_with fail
    exact ⟨rfl, HR.out _ _ ⟨⟨older, rfl⟩, HG2.out, HK2.out⟩⟩
  | ok a s1 =>
    have hres1 : res = if a ≠ 0 then .ok 1 s1 else bindR (rr s1) fun b s2 => .ok (Tp.b01 (b ≠ 0)) s2 := hres
    clear hres
    by_cases ha : a ≠ 0
    · rw [if_pos ha] at hres1
      have HR : Hid (∀ W, GS c W s1 k → Kp c nY w W → s1.left ≤ s.left → EvP c k w s res (.returned (.int .i64 1)) W) := fun W a1 a2 a3 => by rw [hres1]; exact ⟨rfl, a1, a2, a3, by decide⟩
      have ha' : (a == 0) = false := by simpa using ha
      clear hres1 hn
      go_enter Tryz.func175, Tryz.ntmps175
      go_wp2_with fail
      refine HL.out.mono ?_
      rintro e w2 ⟨rfl, hg2, hk2, hl2, _⟩
      obtain ⟨hxl2, j5, _, j7⟩ := HX.out w2 _ _ hg2
      have HG2 := Lib.hid hg2
      have HK2 := Lib.hid hk2
      have HL2 := Lib.hid hl2
      clear hg2 hk2 hl2
      go_wp2_with fail
      refine (truth_any _ 1 (by rfl) w2).mono ?_
      rintro e w3 ⟨rfl, rfl⟩
      go_wp2_with fail
      go_ret
      exact HR.out _ HG2.out HK2.out HL2.out
    · rw [if_neg ha] at hres1
      have ha' : a = 0 := by simpa using ha
      subst ha'
      cases hrr : rr s1 with
      | gas => rw [hrr] at hres1; exact absurd hres1 hn
      | stop way s2 =>
        rw [hrr] at hres1
        have HR : Hid (∀ W e W', Kp c nY w W → s1.left ≤ s.left → EvP c k W s1 (.stop way s2) e W' → EvP c k w s res e W') := fun W e W' a1 a2 a3 => by rw [hres1]; exact a3.up a1 a2
        have HRR : Hid (rr s1 = .stop way s2) := hrr
        clear hres1 hn hrr
        go_enter Tryz.func175, Tryz.ntmps175
        go_wp2_with fail
        refine HL.out.mono ?_
        rintro e w2 ⟨rfl, hg2, hk2, hl2, _⟩
        obtain ⟨hxl2, j5, _, j7⟩ := HX.out w2 _ _ hg2
        have HC2 := Lib.hid (HRT.out w2 s1 hg2 hk2 hl2 (by rw [HRR.out]; simp))
        rw [HRR.out] at HC2
        have HK2 := Lib.hid hk2
        have HL2 := Lib.hid hl2
        clear hg2 hk2 hl2
        go_wp2_with fail
        refine HC2.out.mono ?_
        rintro e w3 ⟨⟨older, rfl⟩, hg3, hk3⟩
        have HG3 := Lib.hid hg3
        have HK3 := Lib.hid hk3
        clear hg3 hk3
        go_wp2_with fail
        exact ⟨rfl, HR.out _ _ _ HK2.out HL2.out ⟨⟨older, rfl⟩, HG3.out, HK3.out⟩⟩
      | ok b s2 =>
        rw [hrr] at hres1
        have HR : Hid (∀ W W', Kp c nY w W → s1.left ≤ s.left → GS c W' s2 k → Kp c nY W W' → s2.left ≤ s1.left → EvP c k w s res (.returned (.int .i64 (Tp.b01 (b ≠ 0)))) W') := fun W W' a1 a2 a3 a4 a5 => by rw [hres1]; exact ⟨rfl, a3, a1.trans a4, Nat.le_trans a5 a2, b01_in _⟩
        have HRR : Hid (rr s1 = .ok b s2) := hrr
        have HT : Hid (∀ q : Bool, q = decide (b ≠ 0) → Tp.b01 (b ≠ 0) = if q then (1 : Int) else 0) := fun q h => by rw [h]; exact (b01_bool _).symm
        clear hres1 hn hrr
        generalize Tp.b01 (b ≠ 0) = v at *
        go_enter Tryz.func175, Tryz.ntmps175
        go_wp2_with fail
        refine HL.out.mono ?_
        rintro e w2 ⟨rfl, hg2, hk2, hl2, _⟩
        obtain ⟨hxl2, j5, _, j7⟩ := HX.out w2 _ _ hg2
        have HC2 := Lib.hid (HRT.out w2 s1 hg2 hk2 hl2 (by rw [HRR.out]; simp))
        rw [HRR.out] at HC2
        have HK2 := Lib.hid hk2
        have HL2 := Lib.hid hl2
        clear hg2 hk2 hl2
        go_wp2_with fail
        refine HC2.out.mono ?_
        rintro e w3 ⟨rfl, hg3, hk3, hl3, _⟩
        have HG3 := Lib.hid hg3
        have HK3 := Lib.hid hk3
        have HL3 := Lib.hid hl3
        clear hg3 hk3 hl3
        go_wp2_with fail
        refine (truth_any _ v (HT.out _ (by first | rfl | exact ne_bool b | (by_cases hh : b = 0 <;> simp [hh, ha] <;> done) | (by_cases hh : b = 0 <;> simp [hh] <;> done))) w3).mono ?_
        rintro e w4 ⟨rfl, rfl⟩
        go_wp2_with fail
        go_ret
        exact HR.out _ _ HK2.out HL2.out HG3.out HK3.out HL3.out
end Go.Proofs.YtibncofnnlbmcaaGreatDoor
/- Chapter 4: a mark of two that is no and, no or: pair; value at it. -/
namespace Go.Proofs.YtibncofnnlbmcaaGreatDoor
open Go.RowKit Go.Maps
open Tp (Bs X S G Pr Pt Rs Rr Own)

theorem calls_diesV (v : Value) {P : Program} {f : FuncId} {args : Array Value} {w : World} {R T : Ending → World → Prop} (h : Calls P f args w T) (hT : ∀ e w', T e w' → R e w') (_ : Hid False → R (.returned v) w) : Calls P f args w R := h.mono hT
def bothR (op : Bs) (a b : Int) (s : Rs) : Rr Int := match Tp.both op a b with
  | some v => .ok v s
  | none => .stop Tp.zero s
theorem both_in {op : Bs} {a b v : Int} (ha : Tp.I64 a) (hb : Tp.I64 b) (h : Tp.both op a b = some v) : Tp.I64 v := by
  unfold Tp.both at h
  split at h
  · cases h; exact Tp.w64_in _
  split at h
  · cases h; exact Tp.w64_in _
  split at h
  · cases h; exact Tp.w64_in _
  split at h
  · split at h
    · cases h
    · cases h; exact Tp.w64_in _
  split at h
  · split at h
    · cases h
    · rename_i hz
      cases h
      have e1 := (Tp.both_rest ha hz).2.2
      unfold Tp.I64 at *
      have e2 := (Tp.both_rest (a := a) ha hz).2.1
      omega
  split at h
  · cases h; exact b01_in _
  split at h
  · cases h; exact b01_in _
  split at h
  · cases h; exact b01_in _
  split at h
  · cases h; exact b01_in _
  split at h
  · cases h; exact b01_in _
  split at h
  · cases h; exact b01_in _
  · cases h; decide
set_option maxRecDepth 100000 in
set_option maxHeartbeats 4000000 in
theorem pair_else {c : Cx} (ok : CxOk c) {k : Nat} {w : World} {s : Rs} {sb x y z : Nat} {rl : Rr Int} {rr : Rs → Rr Int} {op : Bs} (h0 : op ≠ Tp.wAnd) (h1 : op ≠ Tp.wOr) (h : GS c w s k) (hX : CellX c x (bs op) y z)
    (hL : Calls Tryz.prog 150 #[.pointer (some ⟨sb, 0, none⟩), .pointer (some ⟨y, 0, none⟩)] w (EvP c k w s rl)) (hR : RightC c k w s sb z rr)
    {res : Rr Int} (hres : res = bindR rl fun a s' => bindR (rr s') fun b s2 => bothR op a b s2) (hn : res ≠ .gas) :
    Calls Tryz.prog 175 #[.pointer (some ⟨sb, 0, none⟩), .pointer (some ⟨x, 0, none⟩)] w (EvP c k w s res) := by
  obtain ⟨hxl, _, k6, _⟩ := hX w s k h
  have HX := Lib.hid hX
  have HL := Lib.hid hL
  have HRT := Lib.hid hR
  have HOK := Lib.hid ok
  have h0' : ((bs op).toList == [97, 110, 100]) = false := by rw [bs_toList]; simpa [Tp.wAnd] using h0
  have h1' : ((bs op).toList == [111, 114]) = false := by rw [bs_toList]; simpa [Tp.wOr] using h1
  have HBO := Lib.hid (fun a b ha hb W => both_any op a b ha hb W)
  clear hX hL hR h ok h0 h1
  cases rl with
  | gas => exact absurd (hres.trans rfl) hn
  | stop way s' =>
    have HR : Hid (∀ e W, EvP c k w s (.stop way s') e W → EvP c k w s res e W) := fun e W hW => by rw [hres]; exact hW
    clear hres hn
    go_enter Tryz.func175, Tryz.ntmps175
    go_wp2_with fail
    refine HL.out.mono ?_
    rintro e w2 ⟨⟨older, rfl⟩, hg2, hk2⟩
    have HG2 := Lib.hid hg2
    have HK2 := Lib.hid hk2
    clear hg2 hk2
    go_wp2_with fail
    exact ⟨rfl, HR.out _ _ ⟨⟨older, rfl⟩, HG2.out, HK2.out⟩⟩
  | ok a s1 =>
    have hres1 : res = bindR (rr s1) fun b s2 => bothR op a b s2 := hres
    clear hres
    cases hrr : rr s1 with
    | gas => rw [hrr] at hres1; exact absurd hres1 hn
    | stop way s2 =>
      rw [hrr] at hres1
      have HR : Hid (∀ W e W', Kp c nY w W → s1.left ≤ s.left → EvP c k W s1 (.stop way s2) e W' → EvP c k w s res e W') := fun W e W' a1 a2 a3 => by rw [hres1]; exact a3.up a1 a2
      have HRR : Hid (rr s1 = .stop way s2) := hrr
      clear hres1 hn hrr
      go_enter Tryz.func175, Tryz.ntmps175
      go_wp2_with fail
      refine HL.out.mono ?_
      rintro e w2 ⟨rfl, hg2, hk2, hl2, _⟩
      obtain ⟨hxl2, j5, _, j7⟩ := HX.out w2 _ _ hg2
      have hgd := hg2.drew HOK.out
      have hkd := hk2.trans (Kp.drew c nY hg2.lt)
      have HC2 := Lib.hid (HRT.out w2.drew s1 hgd hkd hl2 (by rw [HRR.out]; simp))
      rw [HRR.out] at HC2
      have HK2 := Lib.hid hkd
      have HL2 := Lib.hid hl2
      have HS0 : Hid (w2.drew.cell? ⟨x, 5, none⟩ = some (.string (bs op)) ∧ w2.drew.cell? ⟨x, 7, none⟩ = some (.pointer (some ⟨z, 0, none⟩))) := ⟨(HX.out _ _ _ hgd).2.1, (HX.out _ _ _ hgd).2.2.2⟩
      clear hg2 hk2 hl2 hgd hkd
      go_wp2_with fail
      go_region_held (fun w' => w'.cell? ⟨x, 5, none⟩ = some (.string (bs op)) ∧ w'.cell? ⟨x, 7, none⟩ = some (.pointer (some ⟨z, 0, none⟩))) (with_reducible (first | exact hF.out.elim | exact HS0.out)) (first | (go_at_call 150; refine calls_dies HC2.out ?hT ?_; (case hT => (rintro e w3 ⟨⟨older, rfl⟩, hg3, hk3⟩; exact ⟨rfl, HR.out _ _ _ HK2.out HL2.out ⟨⟨older, rfl⟩, hg3, hk3⟩⟩)); intro hF) | (go_at_call 200; refine calls_diesV (.tuple #[.int .i64 0, .bool true]) (T := fun _ _ => False) hF.out.elim ?hT2 ?_; (case hT2 => (intro e w h; exact h.elim)); intro hF2))
      exact hF.out.elim
    | ok b s2 =>
      rw [hrr] at hres1
      have hres2 : res = bothR op a b s2 := hres1
      unfold bothR at hres2
      have HRR : Hid (rr s1 = .ok b s2) := hrr
      clear hres1 hn hrr
      cases hbo : Tp.both op a b with
      | some v =>
        rw [hbo] at hres2
        have HR : Hid (∀ W W', Kp c nY w W → s1.left ≤ s.left → GS c W' s2 k → Kp c nY W W' → s2.left ≤ s1.left → Tp.I64 a → Tp.I64 b → EvP c k w s res (.returned (.int .i64 v)) W') := fun W W' a1 a2 a3 a4 a5 a6 a7 => by rw [hres2]; exact ⟨rfl, a3, a1.trans a4, Nat.le_trans a5 a2, both_in a6 a7 hbo⟩
        have HBB : Hid (∀ W, Tp.I64 a → Tp.I64 b → Calls Tryz.prog 200 #[.string (bs op), .int .i64 a, .int .i64 b] W fun e w' => e = .returned (.tuple #[.int .i64 v, .bool true]) ∧ Below W.heap.size W w') := fun W a6 a7 => by
          have := HBO.out a b a6 a7 W
          rw [hbo] at this
          exact this.mono fun e w' q => ⟨q.2, q.1⟩
        clear hres2 hbo
        go_enter Tryz.func175, Tryz.ntmps175
        go_wp2_with fail
        refine HL.out.mono ?_
        rintro e w2 ⟨rfl, hg2, hk2, hl2, hi2⟩
        obtain ⟨hxl2, j5, _, j7⟩ := HX.out w2 _ _ hg2
        have hgd := hg2.drew HOK.out
        have hkd := hk2.trans (Kp.drew c nY hg2.lt)
        have HC2 := Lib.hid (HRT.out w2.drew s1 hgd hkd hl2 (by rw [HRR.out]; simp))
        rw [HRR.out] at HC2
        have HK2 := Lib.hid hkd
        have HL2 := Lib.hid hl2
        have HI2 := Lib.hid hi2
        have HS0 : Hid (w2.drew.cell? ⟨x, 5, none⟩ = some (.string (bs op)) ∧ w2.drew.cell? ⟨x, 7, none⟩ = some (.pointer (some ⟨z, 0, none⟩))) := ⟨(HX.out _ _ _ hgd).2.1, (HX.out _ _ _ hgd).2.2.2⟩
        clear hg2 hk2 hl2 hgd hkd hi2
        go_wp2_with fail
        go_region_held3 (fun w' => w'.cell? ⟨x, 5, none⟩ = some (.string (bs op)) ∧ w'.cell? ⟨x, 7, none⟩ = some (.pointer (some ⟨z, 0, none⟩))) (with_reducible (first | exact HS4.out | exact HS3.out | exact HS0.out)) (first | (go_at_call 150; refine HC2.out.mono ?_; rintro e w3 ⟨rfl, hg3, hk3, hl3, hi3⟩; have HG3 := Lib.hid hg3; have HK3 := Lib.hid hk3; have HL3 := Lib.hid hl3; have HI3 := Lib.hid hi3; have HS3 : Hid (w3.cell? ⟨x, 5, none⟩ = some (.string (bs op)) ∧ w3.cell? ⟨x, 7, none⟩ = some (.pointer (some ⟨z, 0, none⟩))) := ⟨(HX.out _ _ _ hg3).2.1, (HX.out _ _ _ hg3).2.2.2⟩; clear hg3 hk3 hl3 hi3) | (go_at_call 200; refine (HBB.out _ HI2.out HI3.out).mono ?_; rintro e w4 ⟨rfl, hb4⟩; have HG4 := Lib.hid (HG3.out.below HOK.out hb4); have HK4 := Lib.hid (HK3.out.trans (Kp.below hb4 HG3.out.lt)); have HS4 : Hid (w4.cell? ⟨x, 5, none⟩ = some (.string (bs op)) ∧ w4.cell? ⟨x, 7, none⟩ = some (.pointer (some ⟨z, 0, none⟩))) := ⟨(HX.out _ _ _ HG4.out).2.1, (HX.out _ _ _ HG4.out).2.2.2⟩; clear hb4))
        go_wp2_with fail
        go_ret
        exact HR.out _ _ HK2.out HL2.out HG4.out HK4.out HL3.out HI2.out HI3.out
      | none =>
        rw [hbo] at hres2
        have HR : Hid (∀ W W' e, thrE endT (Tp.zero : Int) e → Kp c nY w W → GS c W' s2 k → Kp c nY W W' → EvP c k w s res e W') := fun W W' e a0 a1 a3 a4 => by rw [hres2]; exact ⟨a0, ⟨k, a3⟩, a1.trans a4⟩
        have HBB : Hid (∀ W, Tp.I64 a → Tp.I64 b → Calls Tryz.prog 200 #[.string (bs op), .int .i64 a, .int .i64 b] W fun e w' => e = .returned (.tuple #[.int .i64 0, .bool false]) ∧ Below W.heap.size W w') := fun W a6 a7 => by
          have := HBO.out a b a6 a7 W
          rw [hbo] at this
          exact this.mono fun e w' q => ⟨q.2, q.1⟩
        clear hres2 hbo
        go_enter Tryz.func175, Tryz.ntmps175
        go_wp2_with fail
        refine HL.out.mono ?_
        rintro e w2 ⟨rfl, hg2, hk2, hl2, hi2⟩
        obtain ⟨hxl2, j5, _, j7⟩ := HX.out w2 _ _ hg2
        have hgd := hg2.drew HOK.out
        have hkd := hk2.trans (Kp.drew c nY hg2.lt)
        have HC2 := Lib.hid (HRT.out w2.drew s1 hgd hkd hl2 (by rw [HRR.out]; simp))
        rw [HRR.out] at HC2
        have HK2 := Lib.hid hkd
        have HL2 := Lib.hid hl2
        have HI2 := Lib.hid hi2
        have HS0 : Hid (w2.drew.cell? ⟨x, 5, none⟩ = some (.string (bs op)) ∧ w2.drew.cell? ⟨x, 7, none⟩ = some (.pointer (some ⟨z, 0, none⟩))) := ⟨(HX.out _ _ _ hgd).2.1, (HX.out _ _ _ hgd).2.2.2⟩
        clear hg2 hk2 hl2 hgd hkd hi2
        go_wp2_with fail
        go_region_held3 (fun w' => w'.cell? ⟨x, 5, none⟩ = some (.string (bs op)) ∧ w'.cell? ⟨x, 7, none⟩ = some (.pointer (some ⟨z, 0, none⟩))) (with_reducible (first | exact HS4.out | exact HS3.out | exact HS0.out)) (first | (go_at_call 150; refine HC2.out.mono ?_; rintro e w3 ⟨rfl, hg3, hk3, hl3, hi3⟩; have HG3 := Lib.hid hg3; have HK3 := Lib.hid hk3; have HL3 := Lib.hid hl3; have HI3 := Lib.hid hi3; have HS3 : Hid (w3.cell? ⟨x, 5, none⟩ = some (.string (bs op)) ∧ w3.cell? ⟨x, 7, none⟩ = some (.pointer (some ⟨z, 0, none⟩))) := ⟨(HX.out _ _ _ hg3).2.1, (HX.out _ _ _ hg3).2.2.2⟩; clear hg3 hk3 hl3 hi3) | (go_at_call 200; refine (HBB.out _ HI2.out HI3.out).mono ?_; rintro e w4 ⟨rfl, hb4⟩; have HG4 := Lib.hid (HG3.out.below HOK.out hb4); have HK4 := Lib.hid (HK3.out.trans (Kp.below hb4 HG3.out.lt)); have HS4 : Hid (w4.cell? ⟨x, 5, none⟩ = some (.string (bs op)) ∧ w4.cell? ⟨x, 7, none⟩ = some (.pointer (some ⟨z, 0, none⟩))) := ⟨(HX.out _ _ _ HG4.out).2.1, (HX.out _ _ _ HG4.out).2.2.2⟩; clear hb4))
        go_wp2_with fail
        exact ⟨rfl, HR.out _ _ _ ⟨noP, rfl⟩ HK2.out HG4.out HK4.out⟩
theorem evX_bin (g k : Nat) (m : Bs) (own : Own) (pos n : Nat) (md nm op : Bs) (le ri ar : List X) (s : Rs) : Tp.evX (g + 1) k m own [⟨5, pos, n, md, nm, op, le, ri, ar⟩] s = bindR (Tp.evX g k m own le s) fun a s' => if op = Tp.wAnd then (if a = 0 then .ok 0 s' else bindR (Tp.evX g k m own ri s') fun b s2 => .ok (Tp.b01 (b ≠ 0)) s2) else if op = Tp.wOr then (if a ≠ 0 then .ok 1 s' else bindR (Tp.evX g k m own ri s') fun b s2 => .ok (Tp.b01 (b ≠ 0)) s2) else bindR (Tp.evX g k m own ri s') fun b s2 => bothR op a b s2 := by
  rw [Tp.evX]
  show (Tp.Ru.bind _ _) s = _
  unfold Tp.Ru.bind bindR
  cases Tp.evX g k m own le s with
  | gas => rfl
  | stop way s' => rfl
  | ok a s' =>
    simp only
    by_cases h1 : op = Tp.wAnd
    · rw [if_pos h1, if_pos h1]
      by_cases h2 : a = 0
      · rw [if_pos h2, if_pos h2]; rfl
      · rw [if_neg h2, if_neg h2]
        cases Tp.evX g k m own ri s' <;> rfl
    · rw [if_neg h1, if_neg h1]
      by_cases h2 : op = Tp.wOr
      · rw [if_pos h2, if_pos h2]
        by_cases h3 : a ≠ 0
        · rw [if_pos h3, if_pos h3]; rfl
        · rw [if_neg h3, if_neg h3]
          cases Tp.evX g k m own ri s' <;> rfl
      · rw [if_neg h2, if_neg h2]
        cases Tp.evX g k m own ri s' with
        | gas => rfl
        | stop way s2 => rfl
        | ok b s2 =>
          simp only
          unfold bothR
          cases Tp.both op a b <;> rfl
set_option maxRecDepth 100000 in
set_option maxHeartbeats 1000000 in
theorem value_bin {c : Cx} {g : Nat} (ok : CxOk c) (hE : EvC c g) {k : Nat} {lo : Lo} {own : Own} {names : List Bs} {x : Nat} {w : World} {s : Rs} {sb pos n : Nat} {ob : Option Nat} {md nm op : Bs} {le ri ar : List X} (hx : Ex c lo names [⟨5, pos, n, md, nm, op, le, ri, ar⟩] x) (h : GS c w s k) (hs : Sc c w sb ob lo own names s.left) (hn : Tp.evX (g + 1) k lo.m.name own [⟨5, pos, n, md, nm, op, le, ri, ar⟩] s ≠ .gas) :
    Calls Tryz.prog 150 #[.pointer (some ⟨sb, 0, none⟩), .pointer (some ⟨x, 0, none⟩)] w (EvP c k w s (Tp.evX (g + 1) k lo.m.name own [⟨5, pos, n, md, nm, op, le, ri, ar⟩] s)) := by
  have hw := hx.wx
  rw [Tp.WX] at hw
  obtain ⟨hwl, hl1, hwr, hr1⟩ : Tp.WX le ∧ le.length = 1 ∧ Tp.WX ri ∧ ri.length = 1 := by
    rcases hw.1 with q | q | q | q | q | q
    · exact absurd q.1 (by decide)
    · exact absurd q.1 (by decide)
    · exact absurd q.1 (by decide)
    · exact absurd q.1 (by decide)
    · exact ⟨q.2.2.2.2.2.1, q.2.2.2.2.2.2.1, q.2.2.2.2.2.2.2.1, q.2.2.2.2.2.2.2.2.1⟩
    · exact absurd q.1 (by decide)
  rw [evX_bin] at hn ⊢
  obtain ⟨av, ls, rs, gs, hD, hb, rl, _, rr, _⟩ := hx.blk
  obtain ⟨y, rfl, _⟩ := rl.part hl1
  obtain ⟨z, rfl, _⟩ := rr.part hr1
  have hexl := hx.left rl hwl
  have hexr := hx.right rr hwr
  have hb1 := (h.st x hD).trans hb
  have hxl := lt_blk hb1
  have k0 : w.cell? ⟨x, 0, none⟩ = some (.int .i64 5) := (cell_blk hb1).trans rfl
  have hX : CellX c x (bs op) y z := fun W s' k' hW => ⟨lt_blk ((hW.st x hD).trans hb), (cell_blk ((hW.st x hD).trans hb)).trans rfl, (cell_blk ((hW.st x hD).trans hb)).trans rfl, (cell_blk ((hW.st x hD).trans hb)).trans rfl⟩
  have hng : Tp.evX g k lo.m.name own le s ≠ .gas := fun e => hn (by rw [e]; rfl)
  have hL := hE k lo own names le y w s sb ob hexl h hs hng
  have hR : RightC c k w s sb z (fun s' => Tp.evX g k lo.m.name own ri s') := fun W s' hW hK hLe hnn => hE k lo own names ri z W s' sb ob hexr hW (hs.kp hK ok.Vlt hLe) hnn
  have HP : Hid (Calls Tryz.prog 175 #[.pointer (some ⟨sb, 0, none⟩), .pointer (some ⟨x, 0, none⟩)] w (EvP c k w s (bindR (Tp.evX g k lo.m.name own le s) fun a s' => if op = Tp.wAnd then (if a = 0 then .ok 0 s' else bindR (Tp.evX g k lo.m.name own ri s') fun b s2 => .ok (Tp.b01 (b ≠ 0)) s2) else if op = Tp.wOr then (if a ≠ 0 then .ok 1 s' else bindR (Tp.evX g k lo.m.name own ri s') fun b s2 => .ok (Tp.b01 (b ≠ 0)) s2) else bindR (Tp.evX g k lo.m.name own ri s') fun b s2 => bothR op a b s2))) := by
    by_cases h1 : op = Tp.wAnd
    · refine pair_and (rr := fun s' => Tp.evX g k lo.m.name own ri s') (by rw [bs_toList, h1]; rfl) h hX hL hR ?_ hn
      simp only [if_pos h1]
    · by_cases h2 : op = Tp.wOr
      · refine pair_or (rr := fun s' => Tp.evX g k lo.m.name own ri s') (by rw [bs_toList, h2]; rfl) (by rw [bs_toList, h2]; rfl) h hX hL hR ?_ hn
        simp only [if_neg h1, if_pos h2]
      · refine pair_else (rr := fun s' => Tp.evX g k lo.m.name own ri s') ok h1 h2 h hX hL hR ?_ hn
        simp only [if_neg h1, if_neg h2]
  generalize (bindR (Tp.evX g k lo.m.name own le s) fun a s' => if op = Tp.wAnd then (if a = 0 then .ok 0 s' else bindR (Tp.evX g k lo.m.name own ri s') fun b s2 => .ok (Tp.b01 (b ≠ 0)) s2) else if op = Tp.wOr then (if a ≠ 0 then .ok 1 s' else bindR (Tp.evX g k lo.m.name own ri s') fun b s2 => .ok (Tp.b01 (b ≠ 0)) s2) else bindR (Tp.evX g k lo.m.name own ri s') fun b s2 => bothR op a b s2) = res at *
  clear hb hb1 h hs hx hexl hexr rl rr hw hwl hwr hl1 hr1 hE hX hng hL hR
  cases res with
  | gas => exact absurd rfl hn
  | stop way s' =>
    clear hn
    go_enter Tryz.func150, Tryz.ntmps150
    go_wp2_with fail
    refine HP.out.mono ?_
    rintro e w2 ⟨⟨older, rfl⟩, hg2, hk2⟩
    have HG2 := Lib.hid hg2
    have HK2 := Lib.hid hk2
    clear hg2 hk2
    go_wp2_with fail
    exact ⟨rfl, ⟨older, rfl⟩, HG2.out, HK2.out⟩
  | ok v s' =>
    clear hn
    go_enter Tryz.func150, Tryz.ntmps150
    go_wp2_with fail
    refine HP.out.mono ?_
    rintro e w2 ⟨rfl, hq⟩
    have HQ := Lib.hid hq
    clear hq
    go_wp2_with fail
    go_ret
    exact ⟨rfl, HQ.out⟩
end Go.Proofs.YtibncofnnlbmcaaGreatDoor
/- Chapter 4: a procedure is called: its own variables. -/
namespace Go.Proofs.YtibncofnnlbmcaaGreatDoor
open Go.RowKit Go.Maps
open Tp (Bs X S G Pr Pt Rs Rr Own)

def ownL (l : List (Bs × Int)) : Own := fun q => (l.find? fun x => x.1 == q).map (·.2)
def ownF (l : List (Bs × Int)) : Bs → Option Value := fun q => (ownL l q).map fun v => .int .i64 v
theorem ownF_add {l : List (Bs × Int)} {n : Bs} {v : Int} (h : n ∉ l.map (·.1)) : updV (ownF l) n (.int .i64 v) = ownF (l ++ [(n, v)]) := by
  funext q
  unfold updV ownF ownL
  rw [List.find?_append]
  by_cases e : q = n
  · subst e
    rw [if_pos rfl]
    have : l.find? (fun x => x.1 == q) = none := by
      rw [List.find?_eq_none]
      intro x hx hq
      exact h (List.mem_map.2 ⟨x, hx, by simpa using hq⟩)
    rw [this]
    simp
  · rw [if_neg e]
    have : ([(n, v)] : List (Bs × Int)).find? (fun x => x.1 == q) = none := by
      rw [List.find?_eq_none]
      intro x hx
      simp at hx
      subst hx
      simpa using fun e2 => e e2.symm
    rw [this]
    simp
def ownAll (p : Pr) (vs : List Int) : List (Bs × Int) := p.params.zip vs ++ p.vars.map fun n => (n, 0)
theorem ownAll_is (p : Pr) (vs : List Int) : ownL (ownAll p vs) = Tp.ownFor p vs := by
  funext q
  unfold ownL ownAll Tp.ownFor
  rw [List.find?_append]
  cases h : (p.params.zip vs).find? (fun x => x.1 == q) with
  | some x => simp
  | none =>
    simp only [Option.none_or]
    by_cases hq : q ∈ p.vars
    · rw [if_pos hq]
      have : (p.vars.map fun n => (n, (0 : Int))).find? (fun x => x.1 == q) = some (q, 0) := by
        rw [List.find?_map]
        have h2 : p.vars.find? ((fun x : Bs × Int => x.1 == q) ∘ fun n => (n, 0)) = some q := by
          obtain ⟨y, hy⟩ := Option.isSome_iff_exists.1 (List.find?_isSome.2 ⟨q, hq, by simp⟩ : (p.vars.find? ((fun x : Bs × Int => x.1 == q) ∘ fun n => (n, 0))).isSome = true)
          have := List.find?_some hy
          rw [hy]
          congr 1
          simpa using this
        rw [h2]
        rfl
      rw [this]
      rfl
    · rw [if_neg hq]
      have : (p.vars.map fun n => (n, (0 : Int))).find? (fun x => x.1 == q) = none := by
        rw [List.find?_eq_none]
        intro x hx h3
        obtain ⟨y, hy, rfl⟩ := List.mem_map.1 hx
        simp at h3
        exact hq (h3 ▸ hy)
      rw [this]
      rfl
theorem ownAll_keys {p : Pr} {vs : List Int} (h : vs.length = p.params.length) : (ownAll p vs).map (·.1) = Tp.ownOf p := by
  unfold ownAll Tp.ownOf
  rw [List.map_append, List.map_map]
  congr 1
  · rw [List.map_fst_zip (by omega)]
  · simp [Function.comp_def]
theorem ownFor_dom {p : Pr} {vs : List Int} (h : vs.length = p.params.length) (q : Bs) : (Tp.ownFor p vs q).isSome = true ↔ q ∈ Tp.ownOf p := by
  rw [← ownAll_is, ← ownAll_keys h]
  unfold ownL
  rw [Option.isSome_map, List.find?_isSome]
  simp
theorem ownFor_i64 {p : Pr} {vs : List Int} (h : ∀ v ∈ vs, Tp.I64 v) : ∀ q v, Tp.ownFor p vs q = some v → Tp.I64 v := by
  intro q v hv
  unfold Tp.ownFor at hv
  cases hz : (p.params.zip vs).find? (fun x => x.1 == q) with
  | some x =>
    rw [hz] at hv
    simp at hv
    subst hv
    have := List.mem_of_find?_eq_some hz
    exact h _ (List.of_mem_zip (a := x.1) (b := x.2) this).2
  | none =>
    rw [hz] at hv
    simp only at hv
    split at hv
    · cases hv; decide
    · cases hv
theorem ownAll_take {p : Pr} {vs : List Int} (h : vs.length = p.params.length) (hn : (Tp.ownOf p).Nodup) (j : Nat) (n : Bs) (v : Int) (hj : (ownAll p vs)[j]? = some (n, v)) : updV (ownF ((ownAll p vs).take j)) n (.int .i64 v) = ownF ((ownAll p vs).take (j + 1)) := by
  obtain ⟨hl, e⟩ := List.getElem?_eq_some_iff.1 hj
  rw [List.take_succ_eq_append_getElem hl, e]
  refine ownF_add ?_
  rw [← ownAll_keys h] at hn
  intro hm
  rw [List.map_take] at hm
  obtain ⟨i, hi, e2⟩ := List.getElem_of_mem hm
  rw [List.length_take, List.length_map] at hi
  rw [List.getElem_take] at e2
  have h1 : ((ownAll p vs).map (·.1))[j]'(by simpa using hl) = n := by simp [e]
  have := (List.getElem_inj (h₀ := by simp; omega) (h₁ := by simpa using hl) hn).1 (e2.trans h1.symm)
  omega
theorem ownAll_par {p : Pr} {vs : List Int} (h : vs.length = p.params.length) {i : Nat} (hi : i < p.params.length) : (ownAll p vs)[i]? = some (p.params[i], vs[i]'(by omega)) := by
  unfold ownAll
  rw [List.getElem?_append_left (by simp; omega)]
  rw [List.getElem?_eq_getElem (by simp; omega)]
  simp
theorem ownAll_var {p : Pr} {vs : List Int} (h : vs.length = p.params.length) {i : Nat} (hi : i < p.vars.length) : (ownAll p vs)[p.params.length + i]? = some (p.vars[i], 0) := by
  unfold ownAll
  rw [List.getElem?_append_right (by simp; omega)]
  simp [h, hi]
theorem ownAll_len {p : Pr} {vs : List Int} (h : vs.length = p.params.length) : (ownAll p vs).length = p.params.length + p.vars.length := by simp [ownAll, h]
/- numbers that a slice holds -/
structure IntsAt (w : World) (vs : List Int) (a : Option Addr) : Prop where
  c : ∀ i (h : i < vs.length), ∃ b o, a = some ⟨b, o, none⟩ ∧ b < w.heap.size ∧ w.cell? ⟨b, o + i, none⟩ = some (.int .i64 vs[i])
theorem IntsAt.on {w w' : World} {vs : List Int} {a : Option Addr} (h : IntsAt w vs a) (k : Below w.heap.size w w') : IntsAt w' vs a :=
  ⟨fun i hi => by obtain ⟨b, o, h1, h2, h3⟩ := h.c i hi; exact ⟨b, o, h1, Nat.lt_of_lt_of_le h2 k.size, (k.cell (p := ⟨b, o + i, none⟩) h2).trans h3⟩⟩
theorem GS.outlt {c : Cx} {w : World} {s : Rs} {k : Nat} (h : GS c w s k) {b : Nat} (hb : OutB c w b) : b < w.heap.size := by
  obtain ⟨ov, h1, h2⟩ := h.blk
  obtain ⟨v, h3, h4⟩ := hb
  rw [cell_blk h1] at h3
  cases h3
  exact (h2.lt b h4).2
def oY (ob : Option Nat) (b : Nat) : Prop := ob = some b
def BodyP (c : Cx) (k : Nat) (ob : Option Nat) (w : World) (s : Rs) (r : Rr (Own × Option Int)) (e : Ending) (w' : World) : Prop := match r with
  | .ok r1 s' => e = .returned (.int .i64 (r1.2.getD 0)) ∧ GS c w' s' k ∧ Kp c (oY ob) w w' ∧ s'.left ≤ s.left ∧ Tp.I64 (r1.2.getD 0)
  | .stop way s' => thrE endT (way : Int) e ∧ (∃ k', GS c w' s' k') ∧ Kp c (oY ob) w w'
  | .gas => True
/- statements, as the program's text has them -/
structure Ss (c : Cx) (lo : Lo) (names : List Bs) (l : List S) (v : Value) : Prop where
  rep : ∃ cs, RepS c.w0 c.D l cs ∧ OwnS c.w0 c.D v l.length cs
  ws : Tp.WS l
  fit : ∀ r ∈ Tp.rs l, Tp.FitR c.ms lo.m names r
theorem OwnS.len {w : World} {D : Nat → Prop} {v : Value} {n : Nat} {cs : List Value} (h : OwnS w D v n cs) : n ≤ 9223372036854775807 := by
  rcases h with ⟨_, h⟩ | ⟨g, cap, cur, _, _, _, h4, h5, _⟩
  · omega
  · unfold maxLen at h5; omega
def BodyC (c : Cx) (g : Nat) : Prop := ∀ (k : Nat) (lo : Lo) (own : Own) (names : List Bs) (l : List S) (v : Value) (w : World) (s : Rs) (sb : Nat) (ob : Option Nat),
  Ss c lo names l v → GS c w s k → Sc c w sb ob lo own names s.left → Tp.goS g k lo.m.name own l s ≠ .gas →
  Calls Tryz.prog 43 #[.pointer (some ⟨sb, 0, none⟩), v] w (BodyP c k ob w s (Tp.goS g k lo.m.name own l s))
def CallC (c : Cx) (g : Nat) : Prop := ∀ (k : Nat) (lo : Lo) (nm : Bs) (p : Pr) (vs : List Int) (w : World) (s : Rs) (aa : Option Addr) (ac : Nat),
  lo ∈ c.L → Tp.procIn lo.m nm = some p → vs.length = p.params.length → (∀ v ∈ vs, Tp.I64 v) → GS c w s k → IntsAt w vs aa → Tp.callP g k lo.m.name p vs s ≠ .gas →
  Calls Tryz.prog 56 #[.pointer (some ⟨c.gb, 0, none⟩), .pointer (some ⟨lo.lb, 0, none⟩), .string (bs nm), .slice aa vs.length ac] w (EvP c k w s (Tp.callP g k lo.m.name p vs s))
end Go.Proofs.YtibncofnnlbmcaaGreatDoor
