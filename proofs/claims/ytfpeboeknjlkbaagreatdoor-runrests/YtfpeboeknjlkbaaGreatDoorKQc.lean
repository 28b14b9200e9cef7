import Derived.Test.YtfpeboeknjlkbaaGreatDoorKQb
import Derived.Test.YtfpeboeknjlkbaaGreatDoorKMa
/- Chapter 4: Both. -/
namespace Go.Proofs.YtfpeboeknjlkbaaGreatDoor
open Go.RowKit
open Tp (Bs)

def BothP (w : World) (r : Option Int) (e : Ending) (w' : World) : Prop := Below w.heap.size w w' ∧ e = .returned (match r with
  | some v => .tuple #[.int .i64 v, .bool true]
  | none => .tuple #[.int .i64 0, .bool false])
set_option maxRecDepth 100000 in
set_option maxHeartbeats 400000 in
theorem both_mPlus (a b : Int) (w : World) : Calls Tryz.prog 11 #[.string (bs Tp.mPlus), .int .i64 a, .int .i64 b] w (BothP w (Tp.both Tp.mPlus a b)) := by
  rw [Tp.both_plus]
  have h0 : ((bs Tp.mPlus).toList == [43]) = true := by rw [bs_toList]; rfl
  generalize bs Tp.mPlus = x at *
  go_enter Tryz.func11, Tryz.ntmps11
  go_wp2_with fail
  go_ret2
  refine ⟨Below.refl _ _, ?_⟩
  rw [← w64_wrap]
  rfl
set_option maxRecDepth 100000 in
set_option maxHeartbeats 400000 in
theorem both_mMinus (a b : Int) (w : World) : Calls Tryz.prog 11 #[.string (bs Tp.mMinus), .int .i64 a, .int .i64 b] w (BothP w (Tp.both Tp.mMinus a b)) := by
  rw [Tp.both_minus]
  have h0 : ((bs Tp.mMinus).toList == [43]) = false := by rw [bs_toList]; rfl
  have h1 : ((bs Tp.mMinus).toList == [45]) = true := by rw [bs_toList]; rfl
  generalize bs Tp.mMinus = x at *
  go_enter Tryz.func11, Tryz.ntmps11
  go_wp2_with fail
  go_ret2
  refine ⟨Below.refl _ _, ?_⟩
  rw [← w64_wrap]
  rfl
set_option maxRecDepth 100000 in
set_option maxHeartbeats 400000 in
theorem both_mStar (a b : Int) (w : World) : Calls Tryz.prog 11 #[.string (bs Tp.mStar), .int .i64 a, .int .i64 b] w (BothP w (Tp.both Tp.mStar a b)) := by
  rw [Tp.both_star]
  have h0 : ((bs Tp.mStar).toList == [43]) = false := by rw [bs_toList]; rfl
  have h1 : ((bs Tp.mStar).toList == [45]) = false := by rw [bs_toList]; rfl
  have h2 : ((bs Tp.mStar).toList == [42]) = true := by rw [bs_toList]; rfl
  generalize bs Tp.mStar = x at *
  go_enter Tryz.func11, Tryz.ntmps11
  go_wp2_with fail
  go_ret2
  refine ⟨Below.refl _ _, ?_⟩
  rw [← w64_wrap]
  rfl
set_option maxRecDepth 100000 in
set_option maxHeartbeats 400000 in
theorem both_wDiv (a b : Int) (ha : Tp.I64 a) (hb : Tp.I64 b) (w : World) : Calls Tryz.prog 11 #[.string (bs Tp.wDiv), .int .i64 a, .int .i64 b] w (BothP w (Tp.both Tp.wDiv a b)) := by
  rw [Tp.both_div]
  have h0 : ((bs Tp.wDiv).toList == [43]) = false := by rw [bs_toList]; rfl
  have h1 : ((bs Tp.wDiv).toList == [45]) = false := by rw [bs_toList]; rfl
  have h2 : ((bs Tp.wDiv).toList == [42]) = false := by rw [bs_toList]; rfl
  have h3 : ((bs Tp.wDiv).toList == [100, 105, 118]) = true := by rw [bs_toList]; rfl
  by_cases hz : b = 0
  · subst hz
    rw [if_pos rfl]
    generalize bs Tp.wDiv = x at *
    go_enter Tryz.func11, Tryz.ntmps11
    go_wp2_with fail
    refine (divided_zero _ a w).mono ?_
    rintro e w' ⟨rfl, rfl⟩
    go_wp2_with fail
    go_ret2
    exact ⟨Below.refl _ _, rfl⟩
  · rw [if_neg hz]
    have HD := Lib.hid (divided_some Tp.wDiv a b ha hb hz (Tp.w64 (a.fdiv b)) (by show _ = _; rw [if_neg (by decide)]) w)
    generalize bs Tp.wDiv = x at *
    generalize Tp.w64 (a.fdiv b) = v at *
    go_enter Tryz.func11, Tryz.ntmps11
    go_wp2_with fail
    refine HD.out.mono ?_
    rintro e w' ⟨rfl, hb1⟩
    have HB := Lib.hid hb1
    clear hb1
    go_wp2_with fail
    go_ret2
    exact ⟨HB.out, rfl⟩
set_option maxRecDepth 100000 in
set_option maxHeartbeats 400000 in
theorem both_wMod (a b : Int) (ha : Tp.I64 a) (hb : Tp.I64 b) (w : World) : Calls Tryz.prog 11 #[.string (bs Tp.wMod), .int .i64 a, .int .i64 b] w (BothP w (Tp.both Tp.wMod a b)) := by
  rw [Tp.both_mod]
  have h0 : ((bs Tp.wMod).toList == [43]) = false := by rw [bs_toList]; rfl
  have h1 : ((bs Tp.wMod).toList == [45]) = false := by rw [bs_toList]; rfl
  have h2 : ((bs Tp.wMod).toList == [42]) = false := by rw [bs_toList]; rfl
  have h3 : ((bs Tp.wMod).toList == [100, 105, 118]) = false := by rw [bs_toList]; rfl
  have h4 : ((bs Tp.wMod).toList == [109, 111, 100]) = true := by rw [bs_toList]; rfl
  by_cases hz : b = 0
  · subst hz
    rw [if_pos rfl]
    generalize bs Tp.wMod = x at *
    go_enter Tryz.func11, Tryz.ntmps11
    go_wp2_with fail
    refine (divided_zero _ a w).mono ?_
    rintro e w' ⟨rfl, rfl⟩
    go_wp2_with fail
    go_ret2
    exact ⟨Below.refl _ _, rfl⟩
  · rw [if_neg hz]
    have HD := Lib.hid (divided_some Tp.wMod a b ha hb hz (a.fmod b) (by show _ = _; rw [if_pos rfl]) w)
    generalize bs Tp.wMod = x at *
    generalize a.fmod b = v at *
    go_enter Tryz.func11, Tryz.ntmps11
    go_wp2_with fail
    refine HD.out.mono ?_
    rintro e w' ⟨rfl, hb1⟩
    have HB := Lib.hid hb1
    clear hb1
    go_wp2_with fail
    go_ret2
    exact ⟨HB.out, rfl⟩
set_option maxRecDepth 100000 in
set_option maxHeartbeats 400000 in
theorem both_mEq (a b : Int) (w : World) : Calls Tryz.prog 11 #[.string (bs Tp.mEq), .int .i64 a, .int .i64 b] w (BothP w (Tp.both Tp.mEq a b)) := by
  rw [Tp.both_eq]
  have h0 : ((bs Tp.mEq).toList == [43]) = false := by rw [bs_toList]; rfl
  have h1 : ((bs Tp.mEq).toList == [45]) = false := by rw [bs_toList]; rfl
  have h2 : ((bs Tp.mEq).toList == [42]) = false := by rw [bs_toList]; rfl
  have h3 : ((bs Tp.mEq).toList == [100, 105, 118]) = false := by rw [bs_toList]; rfl
  have h4 : ((bs Tp.mEq).toList == [109, 111, 100]) = false := by rw [bs_toList]; rfl
  have h5 : ((bs Tp.mEq).toList == [61]) = true := by rw [bs_toList]; rfl
  have HV : Hid (∀ q : Bool, q = decide (a = b) → Tp.b01 (a = b) = if q then (1 : Int) else 0) := fun q h => by rw [h]; exact (b01_bool _).symm
  generalize Tp.b01 (a = b) = v at *
  generalize bs Tp.mEq = x at *
  go_enter Tryz.func11, Tryz.ntmps11
  go_wp2_with fail
  refine (truth_any _ v (HV.out _ (by first | rfl | (by_cases hh : a = b <;> simp [hh]))) w).mono ?_
  rintro e w' ⟨rfl, rfl⟩
  go_wp2_with fail
  go_ret2
  exact ⟨Below.refl _ _, rfl⟩
set_option maxRecDepth 100000 in
set_option maxHeartbeats 400000 in
theorem both_mNe (a b : Int) (w : World) : Calls Tryz.prog 11 #[.string (bs Tp.mNe), .int .i64 a, .int .i64 b] w (BothP w (Tp.both Tp.mNe a b)) := by
  rw [Tp.both_ne]
  have h0 : ((bs Tp.mNe).toList == [43]) = false := by rw [bs_toList]; rfl
  have h1 : ((bs Tp.mNe).toList == [45]) = false := by rw [bs_toList]; rfl
  have h2 : ((bs Tp.mNe).toList == [42]) = false := by rw [bs_toList]; rfl
  have h3 : ((bs Tp.mNe).toList == [100, 105, 118]) = false := by rw [bs_toList]; rfl
  have h4 : ((bs Tp.mNe).toList == [109, 111, 100]) = false := by rw [bs_toList]; rfl
  have h5 : ((bs Tp.mNe).toList == [61]) = false := by rw [bs_toList]; rfl
  have h6 : ((bs Tp.mNe).toList == [35]) = true := by rw [bs_toList]; rfl
  have HV : Hid (∀ q : Bool, q = decide (a ≠ b) → Tp.b01 (a ≠ b) = if q then (1 : Int) else 0) := fun q h => by rw [h]; exact (b01_bool _).symm
  generalize Tp.b01 (a ≠ b) = v at *
  generalize bs Tp.mNe = x at *
  go_enter Tryz.func11, Tryz.ntmps11
  go_wp2_with fail
  refine (truth_any _ v (HV.out _ (by first | rfl | (by_cases hh : a = b <;> simp [hh]))) w).mono ?_
  rintro e w' ⟨rfl, rfl⟩
  go_wp2_with fail
  go_ret2
  exact ⟨Below.refl _ _, rfl⟩
set_option maxRecDepth 100000 in
set_option maxHeartbeats 400000 in
theorem both_mLt (a b : Int) (w : World) : Calls Tryz.prog 11 #[.string (bs Tp.mLt), .int .i64 a, .int .i64 b] w (BothP w (Tp.both Tp.mLt a b)) := by
  rw [Tp.both_lt]
  have h0 : ((bs Tp.mLt).toList == [43]) = false := by rw [bs_toList]; rfl
  have h1 : ((bs Tp.mLt).toList == [45]) = false := by rw [bs_toList]; rfl
  have h2 : ((bs Tp.mLt).toList == [42]) = false := by rw [bs_toList]; rfl
  have h3 : ((bs Tp.mLt).toList == [100, 105, 118]) = false := by rw [bs_toList]; rfl
  have h4 : ((bs Tp.mLt).toList == [109, 111, 100]) = false := by rw [bs_toList]; rfl
  have h5 : ((bs Tp.mLt).toList == [61]) = false := by rw [bs_toList]; rfl
  have h6 : ((bs Tp.mLt).toList == [35]) = false := by rw [bs_toList]; rfl
  have h7 : ((bs Tp.mLt).toList == [60]) = true := by rw [bs_toList]; rfl
  have HV : Hid (∀ q : Bool, q = decide (a < b) → Tp.b01 (a < b) = if q then (1 : Int) else 0) := fun q h => by rw [h]; exact (b01_bool _).symm
  generalize Tp.b01 (a < b) = v at *
  generalize bs Tp.mLt = x at *
  go_enter Tryz.func11, Tryz.ntmps11
  go_wp2_with fail
  refine (truth_any _ v (HV.out _ (by first | rfl | (by_cases hh : a = b <;> simp [hh]))) w).mono ?_
  rintro e w' ⟨rfl, rfl⟩
  go_wp2_with fail
  go_ret2
  exact ⟨Below.refl _ _, rfl⟩
set_option maxRecDepth 100000 in
set_option maxHeartbeats 400000 in
theorem both_mLe (a b : Int) (w : World) : Calls Tryz.prog 11 #[.string (bs Tp.mLe), .int .i64 a, .int .i64 b] w (BothP w (Tp.both Tp.mLe a b)) := by
  rw [Tp.both_le]
  have h0 : ((bs Tp.mLe).toList == [43]) = false := by rw [bs_toList]; rfl
  have h1 : ((bs Tp.mLe).toList == [45]) = false := by rw [bs_toList]; rfl
  have h2 : ((bs Tp.mLe).toList == [42]) = false := by rw [bs_toList]; rfl
  have h3 : ((bs Tp.mLe).toList == [100, 105, 118]) = false := by rw [bs_toList]; rfl
  have h4 : ((bs Tp.mLe).toList == [109, 111, 100]) = false := by rw [bs_toList]; rfl
  have h5 : ((bs Tp.mLe).toList == [61]) = false := by rw [bs_toList]; rfl
  have h6 : ((bs Tp.mLe).toList == [35]) = false := by rw [bs_toList]; rfl
  have h7 : ((bs Tp.mLe).toList == [60]) = false := by rw [bs_toList]; rfl
  have h8 : ((bs Tp.mLe).toList == [60, 61]) = true := by rw [bs_toList]; rfl
  have HV : Hid (∀ q : Bool, q = decide (a ≤ b) → Tp.b01 (a ≤ b) = if q then (1 : Int) else 0) := fun q h => by rw [h]; exact (b01_bool _).symm
  generalize Tp.b01 (a ≤ b) = v at *
  generalize bs Tp.mLe = x at *
  go_enter Tryz.func11, Tryz.ntmps11
  go_wp2_with fail
  refine (truth_any _ v (HV.out _ (by first | rfl | (by_cases hh : a = b <;> simp [hh]))) w).mono ?_
  rintro e w' ⟨rfl, rfl⟩
  go_wp2_with fail
  go_ret2
  exact ⟨Below.refl _ _, rfl⟩
set_option maxRecDepth 100000 in
set_option maxHeartbeats 400000 in
theorem both_mGt (a b : Int) (w : World) : Calls Tryz.prog 11 #[.string (bs Tp.mGt), .int .i64 a, .int .i64 b] w (BothP w (Tp.both Tp.mGt a b)) := by
  rw [Tp.both_gt]
  have h0 : ((bs Tp.mGt).toList == [43]) = false := by rw [bs_toList]; rfl
  have h1 : ((bs Tp.mGt).toList == [45]) = false := by rw [bs_toList]; rfl
  have h2 : ((bs Tp.mGt).toList == [42]) = false := by rw [bs_toList]; rfl
  have h3 : ((bs Tp.mGt).toList == [100, 105, 118]) = false := by rw [bs_toList]; rfl
  have h4 : ((bs Tp.mGt).toList == [109, 111, 100]) = false := by rw [bs_toList]; rfl
  have h5 : ((bs Tp.mGt).toList == [61]) = false := by rw [bs_toList]; rfl
  have h6 : ((bs Tp.mGt).toList == [35]) = false := by rw [bs_toList]; rfl
  have h7 : ((bs Tp.mGt).toList == [60]) = false := by rw [bs_toList]; rfl
  have h8 : ((bs Tp.mGt).toList == [60, 61]) = false := by rw [bs_toList]; rfl
  have h9 : ((bs Tp.mGt).toList == [62]) = true := by rw [bs_toList]; rfl
  have HV : Hid (∀ q : Bool, q = decide (a > b) → Tp.b01 (a > b) = if q then (1 : Int) else 0) := fun q h => by rw [h]; exact (b01_bool _).symm
  generalize Tp.b01 (a > b) = v at *
  generalize bs Tp.mGt = x at *
  go_enter Tryz.func11, Tryz.ntmps11
  go_wp2_with fail
  refine (truth_any _ v (HV.out _ (by first | rfl | (by_cases hh : a = b <;> simp [hh]))) w).mono ?_
  rintro e w' ⟨rfl, rfl⟩
  go_wp2_with fail
  go_ret2
  exact ⟨Below.refl _ _, rfl⟩
set_option maxRecDepth 100000 in
set_option maxHeartbeats 400000 in
theorem both_mGe (a b : Int) (w : World) : Calls Tryz.prog 11 #[.string (bs Tp.mGe), .int .i64 a, .int .i64 b] w (BothP w (Tp.both Tp.mGe a b)) := by
  rw [Tp.both_ge]
  have h0 : ((bs Tp.mGe).toList == [43]) = false := by rw [bs_toList]; rfl
  have h1 : ((bs Tp.mGe).toList == [45]) = false := by rw [bs_toList]; rfl
  have h2 : ((bs Tp.mGe).toList == [42]) = false := by rw [bs_toList]; rfl
  have h3 : ((bs Tp.mGe).toList == [100, 105, 118]) = false := by rw [bs_toList]; rfl
  have h4 : ((bs Tp.mGe).toList == [109, 111, 100]) = false := by rw [bs_toList]; rfl
  have h5 : ((bs Tp.mGe).toList == [61]) = false := by rw [bs_toList]; rfl
  have h6 : ((bs Tp.mGe).toList == [35]) = false := by rw [bs_toList]; rfl
  have h7 : ((bs Tp.mGe).toList == [60]) = false := by rw [bs_toList]; rfl
  have h8 : ((bs Tp.mGe).toList == [60, 61]) = false := by rw [bs_toList]; rfl
  have h9 : ((bs Tp.mGe).toList == [62]) = false := by rw [bs_toList]; rfl
  have h10 : ((bs Tp.mGe).toList == [62, 61]) = true := by rw [bs_toList]; rfl
  have HV : Hid (∀ q : Bool, q = decide (a ≥ b) → Tp.b01 (a ≥ b) = if q then (1 : Int) else 0) := fun q h => by rw [h]; exact (b01_bool _).symm
  generalize Tp.b01 (a ≥ b) = v at *
  generalize bs Tp.mGe = x at *
  go_enter Tryz.func11, Tryz.ntmps11
  go_wp2_with fail
  refine (truth_any _ v (HV.out _ (by first | rfl | (by_cases hh : a = b <;> simp [hh]))) w).mono ?_
  rintro e w' ⟨rfl, rfl⟩
  go_wp2_with fail
  go_ret2
  exact ⟨Below.refl _ _, rfl⟩
set_option maxRecDepth 100000 in
set_option maxHeartbeats 400000 in
theorem both_other (op : Bs) (a b : Int) (w : World) (n0 : op ≠ Tp.mPlus) (n1 : op ≠ Tp.mMinus) (n2 : op ≠ Tp.mStar) (n3 : op ≠ Tp.wDiv) (n4 : op ≠ Tp.wMod) (n5 : op ≠ Tp.mEq) (n6 : op ≠ Tp.mNe) (n7 : op ≠ Tp.mLt) (n8 : op ≠ Tp.mLe) (n9 : op ≠ Tp.mGt) (n10 : op ≠ Tp.mGe) : Calls Tryz.prog 11 #[.string (bs op), .int .i64 a, .int .i64 b] w (BothP w (Tp.both op a b)) := by
  unfold Tp.both
  rw [if_neg n0, if_neg n1, if_neg n2, if_neg n3, if_neg n4, if_neg n5, if_neg n6, if_neg n7, if_neg n8, if_neg n9, if_neg n10]
  have h0 : ((bs op).toList == [43]) = false := by rw [bs_toList]; simpa [Tp.mPlus] using n0
  have h1 : ((bs op).toList == [45]) = false := by rw [bs_toList]; simpa [Tp.mMinus] using n1
  have h2 : ((bs op).toList == [42]) = false := by rw [bs_toList]; simpa [Tp.mStar] using n2
  have h3 : ((bs op).toList == [100, 105, 118]) = false := by rw [bs_toList]; simpa [Tp.wDiv] using n3
  have h4 : ((bs op).toList == [109, 111, 100]) = false := by rw [bs_toList]; simpa [Tp.wMod] using n4
  have h5 : ((bs op).toList == [61]) = false := by rw [bs_toList]; simpa [Tp.mEq] using n5
  have h6 : ((bs op).toList == [35]) = false := by rw [bs_toList]; simpa [Tp.mNe] using n6
  have h7 : ((bs op).toList == [60]) = false := by rw [bs_toList]; simpa [Tp.mLt] using n7
  have h8 : ((bs op).toList == [60, 61]) = false := by rw [bs_toList]; simpa [Tp.mLe] using n8
  have h9 : ((bs op).toList == [62]) = false := by rw [bs_toList]; simpa [Tp.mGt] using n9
  have h10 : ((bs op).toList == [62, 61]) = false := by rw [bs_toList]; simpa [Tp.mGe] using n10
  clear n0 n1 n2 n3 n4 n5 n6 n7 n8 n9 n10
  generalize bs op = x at *
  go_enter Tryz.func11, Tryz.ntmps11
  go_wp2_with fail
  go_ret2
  exact ⟨Below.refl _ _, rfl⟩
theorem both_any (op : Bs) (a b : Int) (ha : Tp.I64 a) (hb : Tp.I64 b) (w : World) : Calls Tryz.prog 11 #[.string (bs op), .int .i64 a, .int .i64 b] w (BothP w (Tp.both op a b)) := by
  by_cases n0 : op = Tp.mPlus
  · subst n0; exact both_mPlus a b w
  by_cases n1 : op = Tp.mMinus
  · subst n1; exact both_mMinus a b w
  by_cases n2 : op = Tp.mStar
  · subst n2; exact both_mStar a b w
  by_cases n3 : op = Tp.wDiv
  · subst n3; exact both_wDiv a b ha hb w
  by_cases n4 : op = Tp.wMod
  · subst n4; exact both_wMod a b ha hb w
  by_cases n5 : op = Tp.mEq
  · subst n5; exact both_mEq a b w
  by_cases n6 : op = Tp.mNe
  · subst n6; exact both_mNe a b w
  by_cases n7 : op = Tp.mLt
  · subst n7; exact both_mLt a b w
  by_cases n8 : op = Tp.mLe
  · subst n8; exact both_mLe a b w
  by_cases n9 : op = Tp.mGt
  · subst n9; exact both_mGt a b w
  by_cases n10 : op = Tp.mGe
  · subst n10; exact both_mGe a b w
  exact both_other op a b w n0 n1 n2 n3 n4 n5 n6 n7 n8 n9 n10
end Go.Proofs.YtfpeboeknjlkbaaGreatDoor
/- Chapter 4: a number of an array: item; single. -/
namespace Go.Proofs.YtfpeboeknjlkbaaGreatDoor
open Go.RowKit Go.Maps
open Tp (Bs X S G Pr Pt Rs Rr Own)

set_option maxRecDepth 100000 in
set_option maxHeartbeats 2000000 in
theorem ritem_ok {w : World} {c : Cx} {s : Rs} {k sb x : Nat} {ob : Option Nat} {lo lo' : Lo} {own : Own} {names : List Bs} {left : Nat} (h : GS c w s k) (ok : CxOk c) (hs : Sc c w sb ob lo own names left) {md nm : Bs} {g : G} {v : Int} {i : Nat} (hn : nm.length ≤ 1000000) (hmn : md.length ≤ 1000000) (hof : ofLo c lo md lo') (hlo : lo' ∈ c.L) (hg : Tp.varOf lo'.m nm = some g) (hi : i < vlen g) (hgl : vlen g ≤ 1000)
    (hv : w.cell? ⟨lo'.sl nm, i, none⟩ = some (.int .i64 v)) (_ : x < w.heap.size) (k3 : w.cell? ⟨x, 3, none⟩ = some (.string (bs md))) (k4 : w.cell? ⟨x, 4, none⟩ = some (.string (bs nm))) :
    Calls Tryz.prog 172 #[.pointer (some ⟨sb, 0, none⟩), .pointer (some ⟨x, 0, none⟩), .int .i64 (i : Int)] w fun e w' => e = .returned (.int .i64 v) ∧ Below w.heap.size w w' := by
  have HB : Hid (∀ n, Below w.heap.size w (w.drewN n)) := fun n => below_drewN (Below.refl _ _) n
  have HOF : Hid (∀ n, Calls Tryz.prog 200 #[.pointer (some ⟨sb, 0, none⟩), .string (bs md)] (w.drewN n) fun e w' => e = .returned (.pointer (some ⟨lo'.lb, 0, none⟩)) ∧ w' = w.drewN n) := fun n => rof h ok hs hof hmn (w.drewN n) rfl
  obtain ⟨ia, ga, pa, ba, ic, gc, pc, bc, b1, _⟩ := h.loB ok hlo
  have kl : w.cell? ⟨lo'.lb, 5, none⟩ = some (.map (some lo'.vb)) := (cell_blk b1).trans rfl
  have hll := lt_blk b1
  have hvl := lt_of_cell hv
  have hlv : ∀ n, (Instr.lookup 114 (.map (some lo'.vb)) (.string (bs nm)) false).run Tryz.prog (w.drewN n) = .ok (.slice (some ⟨lo'.sl nm, 0, none⟩) (vlen g) (vlen g)) (w.drewN n) := fun n => h.lookV ok hlo hg hn _ (fun _ => rfl)
  generalize vlen g = vg at *
  have HW : Hid (∀ W : World, Calls Tryz.prog 170 #[.slice (some ⟨lo'.sl nm, 0, none⟩) vg vg, .int .i64 (i : Int)] W fun e w' => e = .returned (.int .i64 (i : Int)) ∧ w' = W) := fun W => rwithin_ok _ vg vg (i : Int) (by omega) (by omega) hgl W
  have hi' : (i : Int) < (vg : Int) := by omega
  have hgl' : (vg : Int) ≤ 1000 := by omega
  clear b1 h ok hs hof hg hlo hn hmn
  generalize bs md = bmd at *
  generalize bs nm = bnm at *
  go_enter Tryz.func172, Tryz.ntmps172
  go_wp2_with fail
  go_quiet ((go_at_call 200; exact Calls.quiet_of_same (HOF.out _)))
  go_wp2_with fail
  refine (HW.out _).mono ?_
  rintro e w' ⟨rfl, rfl⟩
  go_wp2_with fail
  go_ret
  exact ⟨rfl, HB.out _⟩
set_option maxRecDepth 100000 in
set_option maxHeartbeats 2000000 in
theorem ritem_out {w : World} {c : Cx} {s : Rs} {k sb x : Nat} {ob : Option Nat} {lo lo' : Lo} {own : Own} {names : List Bs} {left : Nat} (h : GS c w s k) (ok : CxOk c) (hs : Sc c w sb ob lo own names left) {md nm : Bs} {g : G} {i : Int} (hn : nm.length ≤ 1000000) (hmn : md.length ≤ 1000000) (hof : ofLo c lo md lo') (hlo : lo' ∈ c.L) (hg : Tp.varOf lo'.m nm = some g) (hi : i < 0 ∨ (vlen g : Int) ≤ i) (hgl : vlen g ≤ 1000)
    (_ : x < w.heap.size) (k3 : w.cell? ⟨x, 3, none⟩ = some (.string (bs md))) (k4 : w.cell? ⟨x, 4, none⟩ = some (.string (bs nm))) :
    Calls Tryz.prog 172 #[.pointer (some ⟨sb, 0, none⟩), .pointer (some ⟨x, 0, none⟩), .int .i64 i] w fun e w' => thrE endT (Tp.bounds : Int) e ∧ Below w.heap.size w w' := by
  have HB : Hid (∀ n, Below w.heap.size w (w.drewN n)) := fun n => below_drewN (Below.refl _ _) n
  have HOF : Hid (∀ n, Calls Tryz.prog 200 #[.pointer (some ⟨sb, 0, none⟩), .string (bs md)] (w.drewN n) fun e w' => e = .returned (.pointer (some ⟨lo'.lb, 0, none⟩)) ∧ w' = w.drewN n) := fun n => rof h ok hs hof hmn (w.drewN n) rfl
  obtain ⟨ia, ga, pa, ba, ic, gc, pc, bc, b1, _⟩ := h.loB ok hlo
  have kl : w.cell? ⟨lo'.lb, 5, none⟩ = some (.map (some lo'.vb)) := (cell_blk b1).trans rfl
  have hll := lt_blk b1
  have hlv : ∀ n, (Instr.lookup 114 (.map (some lo'.vb)) (.string (bs nm)) false).run Tryz.prog (w.drewN n) = .ok (.slice (some ⟨lo'.sl nm, 0, none⟩) (vlen g) (vlen g)) (w.drewN n) := fun n => h.lookV ok hlo hg hn _ (fun _ => rfl)
  generalize vlen g = vg at *
  have HW : Hid (∀ W : World, Calls Tryz.prog 170 #[.slice (some ⟨lo'.sl nm, 0, none⟩) vg vg, .int .i64 i] W fun e w' => thrE endT (Tp.bounds : Int) e ∧ w' = W) := fun W => rwithin_out _ vg vg i hi hgl W
  clear b1 h ok hs hof hg hlo hn hmn hi
  generalize bs md = bmd at *
  generalize bs nm = bnm at *
  go_enter Tryz.func172, Tryz.ntmps172
  go_wp2_with fail
  go_quiet ((go_at_call 200; exact Calls.quiet_of_same (HOF.out _)))
  go_wp2_with fail
  refine (HW.out _).mono ?_
  rintro e w' ⟨⟨older, rfl⟩, rfl⟩
  go_wp2_with fail
  exact ⟨rfl, ⟨older, rfl⟩, HB.out _⟩
set_option maxRecDepth 100000 in
theorem rsingle_minus (n : Int) (w : World) : Calls Tryz.prog 173 #[.string (bs Tp.mMinus), .int .i64 n] w fun e w' => e = .returned (.int .i64 (Tp.w64 (0 - n))) ∧ w' = w := by
  have h0 : ((bs Tp.mMinus).toList == [110, 111, 116]) = false := by rw [bs_toList]; rfl
  have HV : Hid (wrap64 (-n) = Tp.w64 (0 - n)) := by show _ = _; rw [w64_wrap, Int.zero_sub]
  generalize bs Tp.mMinus = x at *
  generalize Tp.w64 (0 - n) = v at *
  go_enter Tryz.func173, Tryz.ntmps173
  go_wp2_with fail
  go_ret
  exact ⟨by rw [← HV.out]; rfl, rfl⟩
set_option maxRecDepth 100000 in
theorem rsingle_not (n : Int) (w : World) : Calls Tryz.prog 173 #[.string (bs Tp.wNot), .int .i64 n] w fun e w' => e = .returned (.int .i64 (Tp.b01 (n = 0))) ∧ w' = w := by
  have h0 : ((bs Tp.wNot).toList == [110, 111, 116]) = true := by rw [bs_toList]; rfl
  have HV : Hid (∀ q : Bool, q = decide (n = 0) → Tp.b01 (n = 0) = if q then (1 : Int) else 0) := fun q h => by rw [h]; exact (b01_bool _).symm
  generalize Tp.b01 (n = 0) = v at *
  generalize bs Tp.wNot = x at *
  go_enter Tryz.func173, Tryz.ntmps173
  go_wp2_with fail
  refine (truth_any _ v (HV.out _ (by first | rfl | (by_cases hh : n = 0 <;> simp [hh]))) w).mono ?_
  rintro e w' ⟨rfl, rfl⟩
  go_wp2_with fail
  go_ret
  exact ⟨rfl, rfl⟩
end Go.Proofs.YtfpeboeknjlkbaaGreatDoor
/- Chapter 4: looking for a procedure: proc. -/
namespace Go.Proofs.YtfpeboeknjlkbaaGreatDoor
open Go.RowKit Go.Maps
open Tp (Bs X S G Pr Pt Rs Rr Own)

set_option maxRecDepth 100000 in
theorem proc1_post (x n : Bs) (v1 v2 : Value) (y3 y4 y5 : Option Addr) (n3 n4 n5 c3 c4 c5 : Nat) (x1 : Int) (x2 : Bool) (h1 : v1 = .int .i64 x1) (h2 : v2 = .bool x2) (W : World) (bp : Nat) (hc : W.cell? ⟨bp, 0, none⟩ = some (.string (bs n))) :
    Calls Tryz.prog 105 #[.agg #[.string (bs x), v1, v2, .slice y3 n3 c3, .slice y4 n4 c4, .slice y5 n5 c5], .pointer (some ⟨bp, 0, none⟩)] W fun e w' => e = .returned (.bool (decide (x = n))) ∧ Below W.heap.size W w' := by
  subst h1 h2
  have hlt := World.block_lt_of_cell? _ _ hc
  by_cases h : x = n
  · subst h
    go_enter Tryz.func105, Tryz.ntmps105
    go_wp2_with fail
    go_ret
    exact ⟨by simp, (Below.refl _ _).alloc (Nat.le_refl _) _⟩
  · have hne : ¬ bs x = bs n := fun e => h (bs_inj e)
    go_enter Tryz.func105, Tryz.ntmps105
    go_wp2_with fail
    go_ret
    exact ⟨by simp [h, bs_toList], (Below.refl _ _).alloc (Nat.le_refl _) _⟩
/- the procedures of a module, cell by cell -/
structure PrC (w : World) (l : List Pr) (pa : Option Addr) : Prop where
  c : ∀ i (hi : i < l.length), ∃ pb x1 y3 y4 y5 n3 n4 n5 c3 c4 c5, pa = some ⟨pb, 0, none⟩ ∧ pb < w.heap.size ∧ w.cell? ⟨pb, i * 6, none⟩ = some (.string (bs l[i].name)) ∧ w.cell? ⟨pb, i * 6 + 1, none⟩ = some (.int .i64 x1) ∧ w.cell? ⟨pb, i * 6 + 2, none⟩ = some (.bool l[i].seen) ∧ w.cell? ⟨pb, i * 6 + 3, none⟩ = some (.slice y3 n3 c3) ∧ w.cell? ⟨pb, i * 6 + 4, none⟩ = some (.slice y4 n4 c4) ∧ w.cell? ⟨pb, i * 6 + 5, none⟩ = some (.slice y5 n5 c5)
theorem PrC.on {w w' : World} {l : List Pr} {pa : Option Addr} (h : PrC w l pa) (k : Below w.heap.size w w') : PrC w' l pa := by
  refine ⟨fun i hi => ?_⟩
  obtain ⟨pb, x1, y3, y4, y5, n3, n4, n5, c3, c4, c5, e, hl, d0, d1, d2, d3, d4, d5⟩ := h.c i hi
  have hk : ∀ o u, w.cell? ⟨pb, o, none⟩ = some u → w'.cell? ⟨pb, o, none⟩ = some u := fun o u hu => (k.cell (p := ⟨pb, o, none⟩) hl).trans hu
  exact ⟨pb, x1, y3, y4, y5, n3, n4, n5, c3, c4, c5, e, Nat.lt_of_lt_of_le hl k.size, hk _ _ d0, hk _ _ d1, hk _ _ d2, hk _ _ d3, hk _ _ d4, hk _ _ d5⟩
def pidx (l : List Pr) (n : Bs) : Int := match l.findIdx? (fun p => p.name == n) with
  | some i => (i : Int)
  | none => -1
theorem pidx_at {l : List Pr} {n : Bs} {i : Nat} (hi : i < l.length) (h : l[i].name = n) (hb : ∀ k (hk : k < i), l[k].name ≠ n) : pidx l n = (i : Int) := by
  unfold pidx
  have : l.findIdx? (fun s => s.name == n) = some i := by
    rw [List.findIdx?_eq_some_iff_getElem]
    exact ⟨hi, by simpa using h, fun j hj => by simpa using hb j hj⟩
  rw [this]
theorem pidx_no {l : List Pr} {n : Bs} (hb : ∀ k (hk : k < l.length), l[k].name ≠ n) : pidx l n = -1 := by
  unfold pidx
  have : l.findIdx? (fun s => s.name == n) = none := by
    rw [List.findIdx?_eq_none_iff]
    intro x hx
    obtain ⟨k, hk, rfl⟩ := List.getElem_of_mem hx
    simpa using hb k hk
  rw [this]
theorem pidx_in {m : Tp.M} {n : Bs} : (Tp.procIn m n = none ∧ pidx m.procs n = -1) ∨ ∃ i, ∃ hi : i < m.procs.length, pidx m.procs n = (i : Int) ∧ Tp.procIn m n = some m.procs[i] := by
  unfold pidx Tp.procIn
  cases h : m.procs.findIdx? (fun p => p.name == n) with
  | none =>
    refine Or.inl ⟨?_, rfl⟩
    rw [List.findIdx?_eq_none_iff] at h
    rw [List.find?_eq_none]
    intro x hx
    simpa using h x hx
  | some i =>
    rw [List.findIdx?_eq_some_iff_getElem] at h
    obtain ⟨hi, h1, h2⟩ := h
    refine Or.inr ⟨i, hi, rfl, ?_⟩
    rw [List.find?_eq_some_iff_getElem]
    exact ⟨h1, i, hi, rfl, fun j hj => by simpa using h2 j hj⟩
set_option maxRecDepth 100000 in
set_option maxHeartbeats 1000000 in
theorem indexP_post {w : World} {a : Option Addr} {cp : Nat} {l : List Pr} (h : PrC w l a) (hn : l.length ≤ 1000) (n : Bs) (bp : Nat) (hc : w.cell? ⟨bp, 0, none⟩ = some (.string (bs n))) :
    Calls Tryz.prog 59 #[.slice a l.length cp, .func (.func 105) #[] #[.pointer (some ⟨bp, 0, none⟩)]] w fun e w' => e = .returned (.int .i64 (pidx l n)) ∧ Below w.heap.size w w' := by
  have hn' : (l.length : Int) ≤ 1000 := by omega
  have hltp := World.block_lt_of_cell? _ _ hc
  have HSL := Lib.hid h
  have HC := Lib.hid hc
  obtain ⟨ln, hnl⟩ : ∃ ln, ln = l.length := ⟨_, rfl⟩
  rw [← hnl] at hn' ⊢
  have HN := Lib.hid hnl
  clear h hnl hc
  go_enter Tryz.func59, Tryz.ntmps59
  go_wp2_with fail
  go_loopg [8] ln (fun k vi wr => ∃ i : Nat, i ≤ ln ∧ k = ln - i ∧ vi = .int .i64 (i : Int) ∧ Hid (∀ k (hk : k < l.length), k < i → l[k].name ≠ n) ∧ Hid (Below w.heap.size w wr))
  case atStart => exact ⟨0, by omega, by omega, rfl, fun k _ hk => by omega, Below.refl _ _⟩
  case round =>
    obtain ⟨i, hid, hk, rfl, HI, HB⟩ := hrel
    have hszr := HB.out.size
    by_cases hlt : i < ln
    · have hlt' : (i : Int) < (ln : Int) := by omega
      have hia : i < l.length := by have := HN.out; omega
      obtain ⟨pb, x1, y3, y4, y5, n3, n4, n5, c3, c4, c5, rfl, hpl, d0, d1, d2, d3, d4, d5⟩ := (HSL.out.on HB.out).c i hia
      have HF := Lib.hid (proc1_post l[i].name n (.int .i64 x1) (.bool l[i].seen) y3 y4 y5 n3 n4 n5 c3 c4 c5 x1 l[i].seen rfl rfl wr bp ((HB.out.cell (p := ⟨bp, 0, none⟩) hltp).trans HC.out))
      have HNX : Hid (l[i].name ≠ n → ∀ k (hk : k < l.length), k < i + 1 → l[k].name ≠ n) := by
        intro hne k hk hlt
        by_cases e : k = i
        · subst e; exact hne
        · exact HI.out k hk (by omega)
      have HAT : Hid (l[i].name = n → pidx l n = (i : Int)) := fun e => pidx_at hia e (fun k hk => HI.out k (by omega) hk)
      generalize l[i].name = x at *
      generalize l[i].seen = sn at *
      go_wp2_with fail
      refine HF.out.mono ?_
      rintro e w3 ⟨rfl, hb3⟩
      have HB3 : Hid (Below w.heap.size w w3) := HB.out.trans (hb3.mono hszr)
      clear hb3
      by_cases hx : x = n
      · rw [decide_eq_true hx]
        have HR := Lib.hid (HAT.out hx)
        go_wp2_with fail
        go_ret
        exact ⟨by rw [HR.out]; rfl, HB3.out⟩
      · rw [decide_eq_false hx]
        have HI3 := Lib.hid (HNX.out hx)
        go_wp2_with fail
        go_roundg (ln - (i + 1))
        case measure => omega
        case rel => exact ⟨i + 1, by omega, rfl, by go_num, HI3, HB3⟩
    · have hlt' : ¬ (i : Int) < (ln : Int) := by omega
      have HR := Lib.hid (pidx_no (l := l) (n := n) (fun k hk => HI.out k hk (by have := HN.out; omega)))
      go_wp2_with fail
      go_ret
      exact ⟨by rw [HR.out]; rfl, HB.out⟩
/- a procedure, where it lies -/
structure PrAt (c : Cx) (p : Pr) (pb o : Nat) : Prop where
  d : c.D pb
  nm : c.w0.cell? ⟨pb, o, none⟩ = some (.string (bs p.name))
  sn : c.w0.cell? ⟨pb, o + 2, none⟩ = some (.bool p.seen)
  r : ∃ pv vv bv bcs, c.w0.cell? ⟨pb, o + 3, none⟩ = some pv ∧ c.w0.cell? ⟨pb, o + 4, none⟩ = some vv ∧ c.w0.cell? ⟨pb, o + 5, none⟩ = some bv ∧ Row c.w0 c.D 9 1 pv p.params.length (strs p.params) ∧ Row c.w0 c.D 9 1 vv p.vars.length (strs p.vars) ∧ RepS c.w0 c.D p.body bcs ∧ OwnS c.w0 c.D bv p.body.length bcs
theorem MD.procs {w0 : World} {D : Nat → Prop} {m : Tp.M} {ia ga pa ba : Option Addr} {ic gc pc bc : Nat} (h : MD w0 D m ia ga pa ba ic gc pc bc) (i : Nat) (hi : i < m.procs.length) : ∃ pb pv vv bv bcs, pa = some ⟨pb, 0, none⟩ ∧ D pb ∧ pb < w0.heap.size ∧ (∀ j, j < 6 → w0.cell? ⟨pb, i * 6 + j, none⟩ = (pcells (bs m.procs[i].name) (m.procs[i].pos : Int) m.procs[i].seen pv vv bv).toList[j]?) ∧ Row w0 D 9 1 pv m.procs[i].params.length (strs m.procs[i].params) ∧ Row w0 D 9 1 vv m.procs[i].vars.length (strs m.procs[i].vars) ∧ RepS w0 D m.procs[i].body bcs ∧ OwnS w0 D bv m.procs[i].body.length bcs := by
  obtain ⟨pcs, p1, p2⟩ := h.pr
  obtain ⟨g, cap, q1, q2, q3, q4⟩ := row_cell p2 (by omega)
  cases q1
  obtain ⟨pv, vv, bv, bcs, r1, r2⟩ := repp_get m.procs pcs p1 i hi
  exact ⟨g, pv, vv, bv, bcs, rfl, q2, q3, fun j hj => (q4 (i * 6 + j) (by omega)).trans (r1 j hj), r2⟩
theorem GS.cell0 {c : Cx} {w : World} {s : Rs} {k : Nat} (h : GS c w s k) {b o : Nat} (hd : c.D b) {v : Value} (hv : c.w0.cell? ⟨b, o, none⟩ = some v) : w.cell? ⟨b, o, none⟩ = some v := by
  rw [World.cell?_of_block (w := c.w0) (h.st b hd)]; exact hv
theorem GS.prc {c : Cx} {w : World} {s : Rs} {k : Nat} (h : GS c w s k) {m : Tp.M} {ia ga pa ba : Option Addr} {ic gc pc bc : Nat} (hm : MD c.w0 c.D m ia ga pa ba ic gc pc bc) : PrC w m.procs pa := by
  refine ⟨fun i hi => ?_⟩
  obtain ⟨pb, pv, vv, bv, bcs, e, hd, hl, hc, r2, r3, r4, r5⟩ := hm.procs i hi
  obtain ⟨y3, c3, rfl⟩ := r2.shape
  obtain ⟨y4, c4, rfl⟩ := r3.shape
  obtain ⟨y5, c5, rfl⟩ := r5.shape
  have hk : ∀ o u, c.w0.cell? ⟨pb, o, none⟩ = some u → w.cell? ⟨pb, o, none⟩ = some u := fun o u hu => h.cell0 hd hu
  have hlw := lt_of_cell (hk _ _ (hc 0 (by omega)))
  exact ⟨pb, _, y3, y4, y5, _, _, _, c3, c4, c5, e, hlw, hk _ _ (hc 0 (by omega)), hk _ _ (hc 1 (by omega)), hk _ _ (hc 2 (by omega)), hk _ _ (hc 3 (by omega)), hk _ _ (hc 4 (by omega)), hk _ _ (hc 5 (by omega))⟩
def ProcP (c : Cx) (m : Tp.M) (nm : Bs) (v : Option Addr) : Prop := match Tp.procIn m nm with
  | none => v = none
  | some p => ∃ pb o, v = some ⟨pb, o, none⟩ ∧ PrAt c p pb o
set_option maxRecDepth 100000 in
set_option maxHeartbeats 1000000 in
theorem rproc {c : Cx} {w : World} {s : Rs} {k : Nat} (h : GS c w s k) (ok : CxOk c) {lo : Lo} (hl : lo ∈ c.L) (nm : Bs) :
    Calls Tryz.prog 61 #[.pointer (some ⟨lo.lb, 0, none⟩), .string (bs nm)] w fun e w' => ∃ v, e = .returned (.pointer v) ∧ ProcP c lo.m nm v ∧ Below w.heap.size w w' := by
  obtain ⟨ia, ga, pa, ba, ic, gc, pc, bc, b1, hmd⟩ := h.loB ok hl
  have hlbl := lt_blk b1
  have hpn : lo.m.procs.length ≤ 1000 := by have := (ok.lo lo hl).fit.wm.pc; omega
  have hpn' : (lo.m.procs.length : Int) ≤ 1000 := by omega
  have ha : Below w.heap.size w (w.alloc (.cells #[.string (bs nm)] 9)) := (Below.refl _ _).alloc (Nat.le_refl _) _
  have hbb := (ha.block _ hlbl).trans b1
  have k3 : (w.alloc (.cells #[.string (bs nm)] 9)).cell? ⟨lo.lb, 3, none⟩ = some (.slice pa lo.m.procs.length pc) := (cell_blk hbb).trans rfl
  have HPC : Hid (PrC (w.alloc (.cells #[.string (bs nm)] 9)) lo.m.procs pa) := (h.prc hmd).on ha
  have HIX := Lib.hid (indexP_post (cp := pc) HPC.out hpn nm w.heap.size ((cell_blk (new_blk _ _)).trans rfl))
  have HA := Lib.hid ha
  have hal : lo.lb < (w.alloc (.cells #[.string (bs nm)] 9)).heap.size := lt_blk hbb
  have hmf : ∀ (fn : Fn) (first cap : Array Value) (w : World), (Instr.makeFunc fn first cap).run Tryz.prog w = .ok (.func fn first cap) w := fun _ _ _ _ => rfl
  have HMD := Lib.hid hmd
  have HB1 := Lib.hid hbb
  clear h ok hl b1 hmd hbb ha
  rcases pidx_in (m := lo.m) (n := nm) with ⟨q1, q2⟩ | ⟨i, hi, q1, q2⟩
  · rw [q2] at HIX
    have HQ : Hid (∀ v, v = none → ProcP c lo.m nm v) := fun v hv => by unfold ProcP; rw [q1]; exact hv
    clear q1 q2
    generalize lo.m.procs.length = ln at *
    go_enter Tryz.func61, Tryz.ntmps61
    go_wp2_with fail
    refine HIX.out.mono ?_
    rintro e w2 ⟨rfl, hb2⟩
    have HB2 : Hid (Below w.heap.size w w2) := HA.out.trans (hb2.mono HA.out.size)
    clear hb2
    go_wp2_with fail
    go_ret
    exact ⟨_, rfl, HQ.out _ rfl, HB2.out⟩
  · rw [q1] at HIX
    obtain ⟨pb, pv, vv, bv, bcs, e, hd, hpl, hc, r2, r3, r4, r5⟩ := HMD.out.procs i hi
    subst e
    have HQ : Hid (ProcP c lo.m nm (some ⟨pb, i * 6, none⟩)) := by
      show ProcP _ _ _ _
      unfold ProcP
      rw [q2]
      exact ⟨pb, i * 6, rfl, ⟨hd, hc 0 (by omega), hc 2 (by omega), pv, vv, bv, bcs, hc 3 (by omega), hc 4 (by omega), hc 5 (by omega), r2, r3, r4, r5⟩⟩
    have hi' : (i : Int) < (lo.m.procs.length : Int) := by omega
    have hi0 : ¬ (i : Int) < 0 := by omega
    clear q1 q2 hd hpl hc r2 r3 r4 r5 hi
    generalize lo.m.procs.length = ln at *
    go_enter Tryz.func61, Tryz.ntmps61
    go_wp2_with fail
    refine HIX.out.mono ?_
    rintro e w2 ⟨rfl, hb2⟩
    have HB2 : Hid (Below w.heap.size w w2) := HA.out.trans (hb2.mono HA.out.size)
    have k3' : w2.cell? ⟨lo.lb, 3, none⟩ = some (.slice (some ⟨pb, 0, none⟩) ln pc) := (hb2.cell (p := ⟨lo.lb, 3, none⟩) hal).trans k3
    have hal2 : lo.lb < w2.heap.size := Nat.lt_of_lt_of_le hal hb2.size
    clear hb2
    go_wp2_with fail
    go_ret
    exact ⟨_, rfl, HQ.out, HB2.out⟩
end Go.Proofs.YtfpeboeknjlkbaaGreatDoor
