import Derived.Test.YtiolfelekiopdaaGreatDoorKWI
/- Bytes: the closures, and past. -/
namespace Go.Proofs.YtiolfelekiopdaaGreatDoor
open Go.RowKit
open Tp (Tok hd tx at' stp)

def TxAt (w : World) (tb : Nat) (l : List UInt8) : Prop := ∀ j c, l[j]? = some c → w.cell? ⟨tb, j, none⟩ = some (.int .u8 (c.toNat : Int))
def pastI (f : UInt8 → Bool) (l : List UInt8) (i : Nat) : Nat := i + ((l.drop i).takeWhile f).length
theorem pastI_yes {f : UInt8 → Bool} {l : List UInt8} {i : Nat} (h : i < l.length) (hf : f l[i] = true) : pastI f l (i + 1) = pastI f l i := by
  unfold pastI
  rw [List.drop_eq_getElem_cons h, List.takeWhile_cons, if_pos hf]
  simp; omega
theorem pastI_no {f : UInt8 → Bool} {l : List UInt8} {i : Nat} (h : i < l.length) (hf : f l[i] = false) : pastI f l i = i := by
  unfold pastI
  rw [List.drop_eq_getElem_cons h, List.takeWhile_cons, hf]
  simp
theorem pastI_end {f : UInt8 → Bool} {l : List UInt8} {i : Nat} (h : ¬ i < l.length) : pastI f l i = i := by
  unfold pastI
  rw [List.drop_eq_nil_of_le (by omega)]
  simp
theorem pastI_le {f : UInt8 → Bool} {l : List UInt8} {i : Nat} (h : i ≤ l.length) : i ≤ pastI f l i ∧ pastI f l i ≤ l.length := by
  unfold pastI
  have := (List.takeWhile_prefix f (l := l.drop i)).length_le
  simp at this
  omega
theorem blank_eq (c : UInt8) : Tp.blank c = (decide ((c.toNat : Int) = 32) || decide ((c.toNat : Int) = 10)) := by
  rw [Bool.eq_iff_iff]; simp [Tp.blank, ← UInt8.toNat_inj]; omega
theorem letter_eq (c : UInt8) : Tp.letter c = (decide ((97 : Int) ≤ (c.toNat : Int)) && decide ((c.toNat : Int) ≤ 122)) := by
  rw [Bool.eq_iff_iff]; simp [Tp.letter]; omega
theorem digit_eq (c : UInt8) : Tp.digit c = (decide ((48 : Int) ≤ (c.toNat : Int)) && decide ((c.toNat : Int) ≤ 57)) := by
  rw [Bool.eq_iff_iff]; simp [Tp.digit]; omega
set_option maxRecDepth 100000 in
set_option maxHeartbeats 400000 in
theorem blank_any (w : World) (c : UInt8) : Calls Tryz.prog 45 #[.int .u8 (c.toNat : Int)] w fun e w' => e = .returned (.bool (Tp.blank c)) ∧ w' = w := by
  rw [blank_eq]
  generalize (c.toNat : Int) = z
  by_cases h1 : z = 32
  · subst h1
    go_enter Tryz.func45, Tryz.ntmps45
    go_wp2_with fail
    go_ret
    exact ⟨rfl, rfl⟩
  · have h1' : (z == 32) = false := by simp [h1]
    have h1d : decide (z = 32) = false := by simp [h1]
    rw [h1d]
    clear h1
    by_cases h2 : z = 10
    · subst h2
      go_enter Tryz.func45, Tryz.ntmps45
      go_wp2_with fail
      go_ret
      exact ⟨rfl, rfl⟩
    · have h2' : (z == 10) = false := by simp [h2]
      have h2d : decide (z = 10) = false := by simp [h2]
      rw [h2d]
      clear h2 h2d h1d
      go_enter Tryz.func45, Tryz.ntmps45
      go_wp2_with fail
      go_ret
      exact ⟨rfl, rfl⟩
set_option maxRecDepth 100000 in
set_option maxHeartbeats 400000 in
theorem letter_any (w : World) (c : UInt8) : Calls Tryz.prog 75 #[.int .u8 (c.toNat : Int)] w fun e w' => e = .returned (.bool (Tp.letter c)) ∧ w' = w := by
  rw [letter_eq]
  generalize (c.toNat : Int) = z
  by_cases h1 : (97 : Int) ≤ z
  · rw [decide_eq_true h1]
    by_cases h2 : z ≤ 122
    · rw [decide_eq_true h2]
      go_enter Tryz.func75, Tryz.ntmps75
      go_wp2_with fail
      go_ret
      exact ⟨rfl, rfl⟩
    · have h2d := decide_eq_false h2
      rw [h2d]
      have h2' : (122 : Int) < z := by omega
      clear h2
      go_enter Tryz.func75, Tryz.ntmps75
      go_wp2_with fail
      go_ret
      exact ⟨rfl, rfl⟩
  · rw [decide_eq_false h1]
    have h1' : z < (97 : Int) := by omega
    clear h1
    go_enter Tryz.func75, Tryz.ntmps75
    go_wp2_with fail
    go_ret
    exact ⟨rfl, rfl⟩
set_option maxRecDepth 100000 in
set_option maxHeartbeats 400000 in
theorem digit_any (w : World) (c : UInt8) : Calls Tryz.prog 76 #[.int .u8 (c.toNat : Int)] w fun e w' => e = .returned (.bool (Tp.digit c)) ∧ w' = w := by
  rw [digit_eq]
  generalize (c.toNat : Int) = z
  by_cases h1 : (48 : Int) ≤ z
  · rw [decide_eq_true h1]
    by_cases h2 : z ≤ 57
    · rw [decide_eq_true h2]
      go_enter Tryz.func76, Tryz.ntmps76
      go_wp2_with fail
      go_ret
      exact ⟨rfl, rfl⟩
    · have h2d := decide_eq_false h2
      rw [h2d]
      have h2' : (57 : Int) < z := by omega
      clear h2
      go_enter Tryz.func76, Tryz.ntmps76
      go_wp2_with fail
      go_ret
      exact ⟨rfl, rfl⟩
  · rw [decide_eq_false h1]
    have h1' : z < (48 : Int) := by omega
    clear h1
    go_enter Tryz.func76, Tryz.ntmps76
    go_wp2_with fail
    go_ret
    exact ⟨rfl, rfl⟩
set_option maxRecDepth 100000 in
set_option maxHeartbeats 400000 in
theorem ld_any (w : World) (c : UInt8) (lb db : Nat) (hl : w.cell? ⟨lb, 0, none⟩ = some (.func (.func 75) #[] #[])) (hd : w.cell? ⟨db, 0, none⟩ = some (.func (.func 76) #[] #[])) :
    Calls Tryz.prog 77 #[.int .u8 (c.toNat : Int), .pointer (some ⟨lb, 0, none⟩), .pointer (some ⟨db, 0, none⟩)] w fun e w' => e = .returned (.bool (Tp.ld c)) ∧ w' = w := by
  unfold Tp.ld
  cases hlc : Tp.letter c
  · go_enter Tryz.func77, Tryz.ntmps77
    go_wp2_with fail
    refine (letter_any w c).mono ?_
    rintro e w1 ⟨rfl, rfl⟩
    go_wp2_with fail
    refine (digit_any w1 c).mono ?_
    rintro e w2 ⟨rfl, rfl⟩
    go_wp2_with fail
    go_ret
    exact ⟨rfl, rfl⟩
  · go_enter Tryz.func77, Tryz.ntmps77
    go_wp2_with fail
    refine (letter_any w c).mono ?_
    rintro e w1 ⟨rfl, rfl⟩
    go_wp2_with fail
    go_ret
    exact ⟨rfl, rfl⟩
set_option maxRecDepth 100000 in
set_option maxHeartbeats 1000000 in
theorem past_blank {w : World} {tb cap : Nat} {l : List UInt8} (ht : TxAt w tb l) (i : Nat) (hi : i ≤ l.length) (hl : l.length ≤ 100000) :
    Calls Tryz.prog 46 #[.slice (some ⟨tb, 0, none⟩) l.length cap, .int .i64 (i : Int), .func (.func 45) #[] #[]] w fun e w' => e = .returned (.int .i64 (pastI Tp.blank l i : Int)) ∧ w' = w := by
  have HT : Hid (TxAt w tb l) := ht
  clear ht
  go_enter Tryz.func46, Tryz.ntmps46
  go_wp2_with fail
  go_loop [1] (fun v => ∃ k : Nat, k ≤ l.length ∧ v = .int .i64 (k : Int) ∧ pastI Tp.blank l k = pastI Tp.blank l i) (fun v => l.length - (intOf v).toNat)
  case atStart => exact ⟨i, hi, rfl, rfl⟩
  case round =>
    obtain ⟨k, hk, rfl, hsp⟩ := hrel
    have HSP : Hid (pastI Tp.blank l k = pastI Tp.blank l i) := hsp
    clear hsp
    by_cases hlt : k < l.length
    · have hc := HT.out k l[k] (List.getElem?_eq_getElem hlt)
      have hlt' : (k : Int) < (l.length : Int) := by omega
      cases hb : Tp.blank l[k]
      · go_wp2_with fail
        refine (blank_any _ l[k]).mono ?_
        rintro e w1 ⟨rfl, rfl⟩
        have HE : Hid (pastI Tp.blank l k = k) := pastI_no hlt hb
        go_wp2_with fail
        go_ret
        exact ⟨by rw [← HSP.out, HE.out]; rfl, rfl⟩
      · go_wp2_with fail
        refine (blank_any _ l[k]).mono ?_
        rintro e w1 ⟨rfl, rfl⟩
        have HE : Hid (pastI Tp.blank l (k + 1) = pastI Tp.blank l k) := pastI_yes hlt hb
        go_wp2_with fail
        go_round
        case rel => exact ⟨k + 1, by omega, by go_num, by rw [HE.out, HSP.out]⟩
        case measure => simp [intOf]; omega
    · have HE : Hid (pastI Tp.blank l k = k) := pastI_end hlt
      go_wp2_with fail
      go_ret
      exact ⟨by rw [← HSP.out, HE.out]; rfl, rfl⟩
set_option maxRecDepth 100000 in
set_option maxHeartbeats 1000000 in
theorem past_digit {w : World} {tb cap : Nat} {l : List UInt8} (ht : TxAt w tb l) (i : Nat) (hi : i ≤ l.length) (hl : l.length ≤ 100000) :
    Calls Tryz.prog 46 #[.slice (some ⟨tb, 0, none⟩) l.length cap, .int .i64 (i : Int), .func (.func 76) #[] #[]] w fun e w' => e = .returned (.int .i64 (pastI Tp.digit l i : Int)) ∧ w' = w := by
  have HT : Hid (TxAt w tb l) := ht
  clear ht
  go_enter Tryz.func46, Tryz.ntmps46
  go_wp2_with fail
  go_loop [1] (fun v => ∃ k : Nat, k ≤ l.length ∧ v = .int .i64 (k : Int) ∧ pastI Tp.digit l k = pastI Tp.digit l i) (fun v => l.length - (intOf v).toNat)
  case atStart => exact ⟨i, hi, rfl, rfl⟩
  case round =>
    obtain ⟨k, hk, rfl, hsp⟩ := hrel
    have HSP : Hid (pastI Tp.digit l k = pastI Tp.digit l i) := hsp
    clear hsp
    by_cases hlt : k < l.length
    · have hc := HT.out k l[k] (List.getElem?_eq_getElem hlt)
      have hlt' : (k : Int) < (l.length : Int) := by omega
      cases hb : Tp.digit l[k]
      · go_wp2_with fail
        refine (digit_any _ l[k]).mono ?_
        rintro e w1 ⟨rfl, rfl⟩
        have HE : Hid (pastI Tp.digit l k = k) := pastI_no hlt hb
        go_wp2_with fail
        go_ret
        exact ⟨by rw [← HSP.out, HE.out]; rfl, rfl⟩
      · go_wp2_with fail
        refine (digit_any _ l[k]).mono ?_
        rintro e w1 ⟨rfl, rfl⟩
        have HE : Hid (pastI Tp.digit l (k + 1) = pastI Tp.digit l k) := pastI_yes hlt hb
        go_wp2_with fail
        go_round
        case rel => exact ⟨k + 1, by omega, by go_num, by rw [HE.out, HSP.out]⟩
        case measure => simp [intOf]; omega
    · have HE : Hid (pastI Tp.digit l k = k) := pastI_end hlt
      go_wp2_with fail
      go_ret
      exact ⟨by rw [← HSP.out, HE.out]; rfl, rfl⟩
set_option maxRecDepth 100000 in
set_option maxHeartbeats 1000000 in
theorem past_ld {w : World} {tb cap : Nat} {l : List UInt8} (ht : TxAt w tb l) (i : Nat) (hi : i ≤ l.length) (hl : l.length ≤ 100000) (lb db : Nat) (hlb : w.cell? ⟨lb, 0, none⟩ = some (.func (.func 75) #[] #[])) (hdb : w.cell? ⟨db, 0, none⟩ = some (.func (.func 76) #[] #[])) :
    Calls Tryz.prog 46 #[.slice (some ⟨tb, 0, none⟩) l.length cap, .int .i64 (i : Int), .func (.func 77) #[] #[.pointer (some ⟨lb, 0, none⟩), .pointer (some ⟨db, 0, none⟩)]] w fun e w' => e = .returned (.int .i64 (pastI Tp.ld l i : Int)) ∧ w' = w := by
  have HT : Hid (TxAt w tb l) := ht
  clear ht
  go_enter Tryz.func46, Tryz.ntmps46
  go_wp2_with fail
  go_loop [1] (fun v => ∃ k : Nat, k ≤ l.length ∧ v = .int .i64 (k : Int) ∧ pastI Tp.ld l k = pastI Tp.ld l i) (fun v => l.length - (intOf v).toNat)
  case atStart => exact ⟨i, hi, rfl, rfl⟩
  case round =>
    obtain ⟨k, hk, rfl, hsp⟩ := hrel
    have HSP : Hid (pastI Tp.ld l k = pastI Tp.ld l i) := hsp
    clear hsp
    by_cases hlt : k < l.length
    · have hc := HT.out k l[k] (List.getElem?_eq_getElem hlt)
      have hlt' : (k : Int) < (l.length : Int) := by omega
      cases hb : Tp.ld l[k]
      · go_wp2_with fail
        refine (ld_any _ l[k] lb db hlb hdb).mono ?_
        rintro e w1 ⟨rfl, rfl⟩
        have HE : Hid (pastI Tp.ld l k = k) := pastI_no hlt hb
        go_wp2_with fail
        go_ret
        exact ⟨by rw [← HSP.out, HE.out]; rfl, rfl⟩
      · go_wp2_with fail
        refine (ld_any _ l[k] lb db hlb hdb).mono ?_
        rintro e w1 ⟨rfl, rfl⟩
        have HE : Hid (pastI Tp.ld l (k + 1) = pastI Tp.ld l k) := pastI_yes hlt hb
        go_wp2_with fail
        go_round
        case rel => exact ⟨k + 1, by omega, by go_num, by rw [HE.out, HSP.out]⟩
        case measure => simp [intOf]; omega
    · have HE : Hid (pastI Tp.ld l k = k) := pastI_end hlt
      go_wp2_with fail
      go_ret
      exact ⟨by rw [← HSP.out, HE.out]; rfl, rfl⟩
end Go.Proofs.YtiolfelekiopdaaGreatDoor
