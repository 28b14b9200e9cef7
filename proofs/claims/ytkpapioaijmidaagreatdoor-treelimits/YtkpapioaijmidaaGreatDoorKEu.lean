import Derived.Test.YtkpapioaijmidaaGreatDoorKEt
import Derived.Test.YtkpapioaijmidaaGreatDoorKShb
import Derived.Test.YtkpapioaijmidaaGreatDoorKWh
/- The document's reader: number. -/
namespace Go.Proofs.YtkpapioaijmidaaGreatDoor
open Go.RowKit
open Tp (Tok hd tx at' stp)
open Nr (Fl fine Sx tk tkS fl mu nm nu nms)
def valF (acc : Nat) (l : List UInt8) : Nat := l.foldl (fun a c => a * 10 + (c.toNat - 48)) acc
theorem valF_ge : ∀ (l : List UInt8) (acc : Nat), acc ≤ valF acc l := by
  intro l
  induction l with
  | nil => intro acc; exact Nat.le_refl _
  | cons c l ih => intro acc; have := ih (acc * 10 + (c.toNat - 48)); show acc ≤ valF (acc * 10 + (c.toNat - 48)) l; omega
theorem parse_val : ∀ (l : List UInt8) (acc : Nat), (∀ c ∈ l, Tp.digit c = true) → Lib.parseUintM 18446744073709551615 acc l = if valF acc l ≤ 18446744073709551615 ∨ l = [] then .ok (valF acc l) else .range := by
  intro l
  induction l with
  | nil => intro acc _; simp [Lib.parseUintM, valF]
  | cons c l ih =>
    intro acc hd
    have hc := hd c (by simp)
    simp only [Tp.digit, decide_eq_true_eq] at hc
    have hge := valF_ge l (acc * 10 + (c.toNat - 48))
    have e : valF acc (c :: l) = valF (acc * 10 + (c.toNat - 48)) l := rfl
    rw [Lib.parseUintM, if_pos hc, e]
    have hnil : ¬ (c :: l = []) := by simp
    by_cases h1 : 1844674407370955162 ≤ acc
    · rw [if_pos h1, if_neg (fun h => h.elim (fun h => by omega) hnil)]
    · rw [if_neg h1]
      by_cases h2 : 18446744073709551615 < acc * 10 + (c.toNat - 48)
      · rw [if_pos h2, if_neg (fun h => h.elim (fun h => by omega) hnil)]
      · rw [if_neg h2, ih _ (fun d hd' => hd d (by simp [hd']))]
        by_cases h3 : valF (acc * 10 + (c.toNat - 48)) l ≤ 18446744073709551615
        · rw [if_pos (Or.inl h3), if_pos (Or.inl h3)]
        · have hl : ¬ l = [] := fun h => by subst h; simp [valF] at h3; omega
          rw [if_neg (fun h => h.elim h3 hl), if_neg (fun h => h.elim h3 hnil)]
def PuP (l : List UInt8) (e : Ending) : Prop := (Tp.val l ≤ 18446744073709551615 ∧ e = .returned (.tuple #[.int .u64 (Tp.val l : Int), .nilIface])) ∨ (18446744073709551615 < Tp.val l ∧ ∃ (n : Int) (N : Nat), e = .returned (.tuple #[.int .u64 n, .iface 124 (.pointer (some ⟨N, 0, none⟩))]))
theorem pu_raw (l : List UInt8) (w : World) (hl : l.length ≤ 100000) (hne : l ≠ []) (hd : ∀ c ∈ l, Tp.digit c = true) :
    Calls Tryz.prog 51 #[.string (bs l), .int .i64 10, .int .i64 64] w fun e w' => e = .returned (if Tp.val l ≤ 18446744073709551615 then .tuple #[.int .u64 (Tp.val l : Int), .nilIface] else .tuple #[.int .u64 18446744073709551615, .iface 122 (.int .i64 1)]) ∧ Below w.heap.size w w' := by
  have hz : (bs l).size = l.length := by simp [bs, ByteArray.size]
  have H := Go.Proofs.Any.internal_strconv_ParseUint_10_at64 Tryz.laysPU (bs l) (by omega) w
  have e1 : (bs l).data.toList = l := by simp [bs]
  have e2 : Lib.parseUintB 64 l = if Tp.val l ≤ 18446744073709551615 then .ok (Tp.val l) else .range := by
    unfold Lib.parseUintB
    rw [if_neg hne, show (2 : Nat) ^ 64 - 1 = 18446744073709551615 from rfl, parse_val l 0 hd]
    by_cases h : Tp.val l ≤ 18446744073709551615
    · rw [if_pos h]; exact if_pos (Or.inl h)
    · rw [if_neg h]; exact if_neg (fun h' => h'.elim h hne)
  rw [e1, e2] at H
  refine H.mono ?_
  rintro e w' ⟨rfl, hw⟩
  refine ⟨?_, ?_⟩
  · by_cases h : Tp.val l ≤ 18446744073709551615
    · rw [if_pos h, if_pos h]; rfl
    · rw [if_neg h, if_neg h]; rfl
  · rcases hw with rfl | rfl
    · exact Below.refl _ _
    · exact below_bytes _ _ _
set_option maxRecDepth 100000 in
set_option maxHeartbeats 400000 in
theorem pu_any (l : List UInt8) (w : World) (hl : l.length ≤ 100000) (hne : l ≠ []) (hd : ∀ c ∈ l, Tp.digit c = true) (ev : Value) (hev : w.cell? ⟨4, 0, none⟩ = some ev) (hev2 : ev = .nilIface ∨ ∃ te pe, ev = .iface te pe) :
    Calls Tryz.prog 32 #[.string (bs l), .int .i64 10, .int .i64 64] w fun e w' => PuP l e ∧ Below w.heap.size w w' := by
  have HC := Lib.hid (pu_raw l w hl hne hd)
  have hz : (bs l).size = l.length := by simp [bs, ByteArray.size]
  have HT : Hid (∀ W, Below w.heap.size w W → Calls Tryz.prog 52 #[.string ⟨#[80, 97, 114, 115, 101, 85, 105, 110, 116]⟩, .string (bs l), .int .i64 10, .int .i64 64, .iface 122 (.int .i64 1)] W fun e w' => ∃ N, e = .returned (.iface 124 (.pointer (some ⟨N, 0, none⟩))) ∧ W.heap.size ≤ N ∧ w'.heap[N]? = some (.cells #[.string ⟨#[80, 97, 114, 115, 101, 85, 105, 110, 116]⟩, .string (bs l), ev] 144 (0, 0)) ∧ Below W.heap.size W w') := fun W hW =>
    Go.Proofs.Any.strconv_toError_range Tryz.laysTE _ (bs l) 10 64 ev W (by omega) ((hW.cell (p := ⟨4, 0, none⟩) (lt_of_cell hev)).trans hev) hev2
  clear hd hne hev hev2
  by_cases hv : Tp.val l ≤ 18446744073709551615
  · rw [if_pos hv] at HC
    have HP : Hid (PuP l (.returned (.tuple #[.int .u64 (Tp.val l : Int), .nilIface]))) := Or.inl ⟨hv, rfl⟩
    generalize PuP l = PP at *
    clear hv
    generalize (Tp.val l : Int) = vl at *
    go_enter Tryz.func32, Tryz.ntmps32
    go_wp2_with fail
    refine HC.out.mono ?_
    rintro e w1 ⟨rfl, hb1⟩
    go_wp2_with fail
    go_ret2
    exact ⟨HP.out, hb1⟩
  · rw [if_neg hv] at HC
    have HP : Hid (∀ N, PuP l (.returned (.tuple #[.int .u64 18446744073709551615, .iface 124 (.pointer (some ⟨N, 0, none⟩))]))) := fun N => Or.inr ⟨by omega, _, N, rfl⟩
    generalize PuP l = PP at *
    clear hv
    go_enter Tryz.func32, Tryz.ntmps32
    go_wp2_with fail
    refine HC.out.mono ?_
    rintro e w1 ⟨rfl, hb1⟩
    go_wp2_with fail
    refine (HT.out w1 hb1).mono ?_
    rintro e w2 ⟨N, rfl, _, _, hb2⟩
    go_wp2_with fail
    go_ret2
    exact ⟨HP.out N, hb1.trans (hb2.mono hb1.size)⟩
end Go.Proofs.YtkpapioaijmidaaGreatDoor
