import Derived.Test.YtadgeapgoggljaaGreatDoorKMa
import Derived.Test.YtadgeapgoggljaaGreatDoorKWi
import Derived.Test.YtadgeapgoggljaaGreatDoorKShc
import Derived.Lib.ConvBytes
/- Finding a Sym: Find. -/
namespace Go.Proofs.YtadgeapgoggljaaGreatDoor
open Go.RowKit Go.Sort
open Tp (Sy)

theorem bs_inj {a b : List UInt8} (h : bs a = bs b) : a = b := by
  have := congrArg (fun x : ByteArray => x.data.toList) h
  simpa [bs] using this
set_option maxRecDepth 100000 in
theorem find1_post (s : Sy) (n : List UInt8) (W : World) (bp : Nat) (hc : W.cell? ⟨bp, 0, none⟩ = some (.string (bs n))) :
    Calls Tryz.prog 101 #[.agg #[.string (bs s.1), .int .i64 (s.2.1 : Int), .int .i64 s.2.2], .pointer (some ⟨bp, 0, none⟩)] W fun e w' => e = .returned (.bool (decide (s.1 = n))) ∧ Below W.heap.size W w' := by
  obtain ⟨nm, x1, x2⟩ := s
  simp only
  have hlt := World.block_lt_of_cell? _ _ hc
  by_cases h : nm = n
  · subst h
    go_enter Tryz.func101, Tryz.ntmps101
    go_wp2_with fail
    go_ret
    exact ⟨by simp, (Below.refl _ _).alloc (Nat.le_refl _) _⟩
  · have hne : ¬ bs nm = bs n := fun e => h (bs_inj e)
    go_enter Tryz.func101, Tryz.ntmps101
    go_wp2_with fail
    go_ret
    exact ⟨by simp [h, bs_toList], (Below.refl _ _).alloc (Nat.le_refl _) _⟩
/- the number of the first that is called so, below 0: none -/
def fidx (l : List Sy) (n : List UInt8) : Int := match l.findIdx? (fun s => s.1 == n) with
  | some i => (i : Int)
  | none => -1
theorem fidx_at {l : List Sy} {n : List UInt8} {i : Nat} (hi : i < l.length) (h : l[i].1 = n) (hb : ∀ k (hk : k < i), l[k].1 ≠ n) : fidx l n = (i : Int) := by
  unfold fidx
  have : l.findIdx? (fun s => s.1 == n) = some i := by
    rw [List.findIdx?_eq_some_iff_getElem]
    exact ⟨hi, by simpa using h, fun j hj => by simpa using hb j hj⟩
  rw [this]
theorem fidx_no {l : List Sy} {n : List UInt8} (hb : ∀ k (hk : k < l.length), l[k].1 ≠ n) : fidx l n = -1 := by
  unfold fidx
  have : l.findIdx? (fun s => s.1 == n) = none := by
    rw [List.findIdx?_eq_none_iff]
    intro x hx
    obtain ⟨k, hk, rfl⟩ := List.getElem_of_mem hx
    simpa using hb k hk
  rw [this]
set_option maxRecDepth 100000 in
set_option maxHeartbeats 1000000 in
theorem index_post {w : World} {B : Nat} {v : Value} {l : List Sy} (h : SL w B v l) (hn : l.length ≤ 1000) (n : List UInt8) (bp : Nat) (hc : w.cell? ⟨bp, 0, none⟩ = some (.string (bs n))) :
    Calls Tryz.prog 100 #[v, .func (.func 101) #[] #[.pointer (some ⟨bp, 0, none⟩)]] w fun e w' => e = .returned (.int .i64 (fidx l n)) ∧ Below w.heap.size w w' := by
  obtain ⟨a, c, rfl⟩ := h.len
  have hn' : (l.length : Int) ≤ 1000 := by omega
  have hltp := World.block_lt_of_cell? _ _ hc
  have HSL := Lib.hid h
  have HC := Lib.hid hc
  obtain ⟨ln, hnl⟩ : ∃ ln, ln = l.length := ⟨_, rfl⟩
  rw [← hnl] at hn' ⊢
  have HN := Lib.hid hnl
  clear h hnl hc
  go_enter Tryz.func100, Tryz.ntmps100
  go_wp2_with fail
  go_loopg [8] ln (fun k vi wr => ∃ i : Nat, i ≤ ln ∧ k = ln - i ∧ vi = .int .i64 (i : Int) ∧ Hid (∀ k (hk : k < l.length), k < i → l[k].1 ≠ n) ∧ Hid (Below w.heap.size w wr))
  case atStart => exact ⟨0, by omega, by omega, rfl, fun k _ hk => by omega, Below.refl _ _⟩
  case round =>
    obtain ⟨i, hid, hk, rfl, HI, HW⟩ := hrel
    by_cases hlt : i < ln
    · have hlt' : (i : Int) < (ln : Int) := by omega
      have hia : i < l.length := by have := HN.out; omega
      obtain ⟨g, rfl, _, hgl, hcell⟩ := HSL.out.cell i hia
      have hc := fun j (hj : j < 3) => (HW.out.cell (p := ⟨g, i * 3 + j, none⟩) hgl).trans (hcell j hj)
      have kc0 : wr.cell? ⟨g, i * 3, none⟩ = some (.string (bs l[i].1)) := hc 0 (by omega)
      have kc1 : wr.cell? ⟨g, i * 3 + 1, none⟩ = some (.int .i64 (l[i].2.1 : Int)) := hc 1 (by omega)
      have kc2 : wr.cell? ⟨g, i * 3 + 2, none⟩ = some (.int .i64 l[i].2.2) := hc 2 (by omega)
      have hlgr : g < wr.heap.size := by have := HW.out.size; omega
      have HF := Lib.hid (find1_post l[i] n wr bp ((HW.out.cell (p := ⟨bp, 0, none⟩) hltp).trans HC.out))
      have HAT : Hid (l[i].1 = n → fidx l n = (i : Int)) := fun e => fidx_at hia e (fun k hk => HI.out k (by omega) hk)
      have HNX : Hid (¬ l[i].1 = n → ∀ k (hk : k < l.length), k < i + 1 → l[k].1 ≠ n) := by
        intro hne k hk hlt
        by_cases e : k = i
        · subst e; exact hne
        · exact HI.out k hk (by omega)
      clear hc hcell
      generalize l[i].1 = x0 at *
      generalize l[i].2.1 = x1 at *
      generalize l[i].2.2 = x2 at *
      go_wp2_with fail
      refine HF.out.mono ?_
      rintro e w3 ⟨rfl, h3⟩
      have HW3 := Lib.hid (HW.out.trans (h3.mono HW.out.size))
      clear h3
      by_cases hx : x0 = n
      · rw [decide_eq_true hx]
        have he := HAT.out hx
        go_wp2_with fail
        go_ret
        exact ⟨by first | rfl | (rw [he]; rfl), HW3.out⟩
      · rw [decide_eq_false hx]
        have HI3 := Lib.hid (HNX.out hx)
        go_wp2_with fail
        go_roundg (ln - (i + 1))
        case measure => omega
        case rel => exact ⟨i + 1, by omega, rfl, by go_num, HI3, HW3⟩
    · have hlt' : ¬ (i : Int) < (ln : Int) := by omega
      have he : fidx l n = -1 := fidx_no (fun k hk => HI.out k hk (by have := HN.out; omega))
      go_wp2_with fail
      go_ret
      exact ⟨by first | rfl | (rw [he]; rfl), HW.out⟩
set_option maxRecDepth 100000 in
theorem find_post {w : World} {B : Nat} {v : Value} {l : List Sy} (h : SL w B v l) (hn : l.length ≤ 1000) (n : List UInt8) :
    Calls Tryz.prog 77 #[v, .string (bs n)] w fun e w' => e = .returned (.int .i64 (fidx l n)) ∧ Below w.heap.size w w' := by
  have hmf : ∀ (fn : Fn) (first cap : Array Value) (w : World), (Instr.makeFunc fn first cap).run Tryz.prog w = .ok (.func fn first cap) w := fun _ _ _ _ => rfl
  have hal : Below w.heap.size w (w.alloc (.cells #[.string (bs n)] 9)) := (Below.refl _ _).alloc (Nat.le_refl _) _
  have HC := Lib.hid (index_post (h.on hal) hn n w.heap.size (cell_blk (new_blk _ _)))
  have HAL := Lib.hid hal
  obtain ⟨a, c, rfl⟩ := h.len
  clear h
  generalize l.length = ln at *
  go_enter Tryz.func77, Tryz.ntmps77
  go_wp2_with fail
  refine HC.out.mono ?_
  rintro e w1 ⟨rfl, h1⟩
  have H1 := Lib.hid (HAL.out.trans (h1.mono (by simp)))
  clear h1
  go_wp2_with fail
  go_ret
  exact ⟨rfl, H1.out⟩
end Go.Proofs.YtadgeapgoggljaaGreatDoor
/- Writing what others see, without the module's writer: addLine. -/
namespace Go.Proofs.YtadgeapgoggljaaGreatDoor
open Go.RowKit
variable {kk : Nat → Prop}
open Tp (Sy)

theorem dec_itoa : ∀ n : Nat, Tp.dec n = Lib.itoa (n : Int) := by
  intro n
  rw [Lib.itoa_nonneg]
  induction n using Nat.strongRecOn with
  | _ n ih =>
    rw [Tp.dec, Lib.decDigits]
    split
    · rfl
    · rw [ih (n / 10) (by omega)]
theorem itoa_post (w : World) (i : Nat) (hi : i < 100) : Calls Tryz.prog 102 #[.int .i64 (i : Int)] w fun e w' => e = .returned (.string (bs (Tp.dec i))) ∧ w' = w := by
  have h := Any.strconv_Itoa_small Tryz.laysItoa i hi w
  have e : Tp.dec i = Lib.decDigits i := by rw [dec_itoa, Lib.itoa_nonneg]
  rw [e]
  exact h
set_option maxRecDepth 100000 in
set_option maxHeartbeats 800000 in
theorem addLine_post {w : World} {B : Nat} {v : Value} {l : List UInt8} (h : Buf kk w B v l) (first : List UInt8) (ss : List (List UInt8)) (sb cs : Nat) (hs : w.heap[sb]? = some (.cells (ss.map fun s => Value.string (bs s)).toArray 9 (0, 0))) (hn : ss.length ≤ 1000) (hl : (l ++ Tp.wordsL first ss).length ≤ 1000000000) :
    Calls Tryz.prog 79 #[v, .string (bs first), .slice (some ⟨sb, 0, none⟩) ss.length cs] w (Wrote kk B w (l ++ Tp.wordsL first ss)) := by
  obtain ⟨ao, cap, hv⟩ := owns_shape h.1
  subst hv
  have hlf : l.length + first.length ≤ 1000000000 := by unfold Tp.wordsL at hl; simp only [List.length_append] at hl; omega
  have hln : ∀ i, i ≤ ss.length → (l ++ first ++ ((ss.take i).map fun s => (32 : UInt8) :: s).flatten).length + 1 ≤ 1000000000 := by
    intro i hi
    unfold Tp.wordsL at hl
    have e : (ss.map fun s => (32 : UInt8) :: s).flatten = ((ss.take i).map fun s => (32 : UInt8) :: s).flatten ++ ((ss.drop i).map fun s => (32 : UInt8) :: s).flatten := by
      conv => lhs; rw [← List.take_append_drop i ss, List.map_append, List.flatten_append]
    rw [e] at hl
    simp only [List.length_append, List.length_cons, List.length_nil] at hl ⊢
    omega
  have HLN := Lib.hid hln
  have HL := Lib.hid hl
  clear hln hl
  go_enter Tryz.func79, Tryz.ntmps79
  go_wp2_with (at_builtin; refine wpList_str rfl _ _ rfl h first rfl rfl ?c1 ?_)
  case c1 => omega
  intro v1 w1 hb1 hbel1
  have hs1 := hbel1.keeps hs (by decide)
  have HB1 := Lib.hid hb1
  have HBW1 := Lib.hid hbel1
  have HS1 := Lib.hid hs1
  clear hb1 hbel1 hs1 hs
  go_wp2_with fail
  go_loopg [0, 14] ss.length (fun k v vi wr => ∃ i : Nat, i ≤ ss.length ∧ k = ss.length - i ∧ vi = .int .i64 (i : Int) ∧ Hid (Buf kk wr B v (l ++ first ++ ((ss.take i).map fun s => (32 : UInt8) :: s).flatten)) ∧ Hid (Bw kk B w wr) ∧ Hid (wr.heap[sb]? = some (.cells (ss.map fun s => Value.string (bs s)).toArray 9 (0, 0))))
  case atStart => exact ⟨0, by omega, by omega, rfl, by unfold Hid; simpa using HB1.out, HBW1, HS1⟩
  case round =>
    obtain ⟨i, hid, hk, rfl, HB, HBW, HS⟩ := hrel
    clear HB1 HBW1 HS1
    have hbuf := HB.out
    obtain ⟨m, hm⟩ : ∃ m, m = l ++ first ++ ((ss.take i).map fun s => (32 : UInt8) :: s).flatten := ⟨_, rfl⟩
    rw [← hm] at hbuf
    have hml := HLN.out i hid
    rw [← hm] at hml
    have HM := Lib.hid hm
    clear hm HB
    obtain ⟨a1, c1, hv⟩ := owns_shape hbuf.1
    subst hv
    by_cases hlt : i < ss.length
    · have hlt' : (i : Int) < (ss.length : Int) := by omega
      have hcell : wr.cell? ⟨sb, i, none⟩ = some (.string (bs ss[i])) := by rw [cell_blk HS.out]; simp [hlt]
      have hlb := lt_blk HS.out
      have hml2 := HLN.out (i + 1) hlt
      have hnew : l ++ first ++ ((ss.take (i + 1)).map fun s => (32 : UInt8) :: s).flatten = m ++ [32] ++ ss[i] := by
        rw [List.take_succ_eq_append_getElem hlt, List.map_append, List.flatten_append, HM.out]
        simp
      rw [hnew] at hml2
      have HNEW := Lib.hid hnew
      clear hnew
      generalize ss[i] = x at hcell hml2 HNEW
      have hml3 : m.length + 1 + x.length ≤ 1000000000 := by simp only [List.length_append, List.length_cons, List.length_nil] at hml2; omega
      clear hml2
      go_wp2_with (at_builtin; refine wpList_byte rfl _ _ rfl hbuf 32 32 rfl rfl rfl ?c1 ?_)
      case c1 => omega
      intro v2 w2 hb2 hbel2
      have HS2 := Lib.hid (hbel2.keeps HS.out (by decide))
      have HBW2 := Lib.hid (HBW.out.trans hbel2)
      clear hbuf hbel2 HS HBW hcell
      go_wp2_with (at_builtin; refine wpList_str rfl _ _ rfl hb2 x rfl rfl ?c2 ?_)
      case c2 => simp only [List.length_append, List.length_cons, List.length_nil]; omega
      intro v3 w3 hb3 hbel3
      have HB3 : Hid (Buf kk w3 B v3 (l ++ first ++ ((ss.take (i + 1)).map fun s => (32 : UInt8) :: s).flatten)) := by unfold Hid; rw [HNEW.out]; simpa using hb3
      have HBW3 := Lib.hid (HBW2.out.trans hbel3)
      have HS3 := Lib.hid (hbel3.keeps HS2.out (by decide))
      clear hb2 hb3 hbel3 HS2 HBW2
      go_wp2_with fail
      go_roundg (ss.length - (i + 1))
      case measure => omega
      case rel => exact ⟨i + 1, by omega, rfl, by go_num, HB3, HBW3, HS3⟩
    · have hlt' : ¬ (i : Int) < (ss.length : Int) := by omega
      have e : i = ss.length := by omega
      go_wp2_with (at_builtin; refine wpList_byte rfl _ _ rfl hbuf 10 10 rfl rfl rfl ?c1 ?_)
      case c1 => omega
      intro v2 w2 hb2 hbel2
      have HB2 : Hid (Buf kk w2 B v2 (l ++ Tp.wordsL first ss)) := by
        unfold Hid Tp.wordsL
        rw [HM.out, e, List.take_length] at hb2
        simpa using hb2
      have HBW2 := Lib.hid (HBW.out.trans hbel2)
      clear hb2 hbel2 hbuf
      go_wp2_with fail
      go_ret
      exact ⟨_, rfl, HB2.out, HBW2.out⟩
end Go.Proofs.YtadgeapgoggljaaGreatDoor
/- Writing what others see: addSym. -/
namespace Go.Proofs.YtadgeapgoggljaaGreatDoor
open Go.RowKit
variable {kk : Nat → Prop}
open Tp (Sy)

theorem cell_box3 {w : World} {b : Nat} {v0 v1 v2 : Value} {t : TypeId} (h : w.heap[b]? = some (.cells #[v0, v1, v2] t (0, 0))) : w.cell? ⟨b, 0, none⟩ = some v0 ∧ w.cell? ⟨b, 1, none⟩ = some v1 ∧ w.cell? ⟨b, 2, none⟩ = some v2 :=
  ⟨(cell_blk h).trans rfl, (cell_blk h).trans rfl, (cell_blk h).trans rfl⟩
set_option maxRecDepth 100000 in
set_option maxHeartbeats 2000000 in
theorem addSym_post (s : Sy) (h1 : s.2.1 < 100) (h2 : s.2.2 < 100) (h3 : -1 ≤ s.2.2) {w : World} {B : Nat} {v : Value} {l : List UInt8} (hb : Buf kk w B v l) (hl : (l ++ Tp.lineOf s).length ≤ 1000000000) :
    Calls Tryz.prog 78 #[v, .agg #[.string (bs s.1), .int .i64 (s.2.1 : Int), .int .i64 s.2.2]] w (Wrote kk B w (l ++ Tp.lineOf s)) := by
  obtain ⟨nm, len, args⟩ := s
  simp only at h1 h2 h3 ⊢
  unfold Tp.lineOf at hl ⊢
  simp only at hl ⊢
  have hal : ∀ ob, Below w.heap.size w (w.alloc ob) := fun ob => (Below.refl _ _).alloc (Nat.le_refl _) _
  have hblk : (w.alloc (.cells #[.string (bs nm), .int .i64 (len : Int), .int .i64 args] 140)).heap[w.heap.size]? = some (.cells #[.string (bs nm), .int .i64 (len : Int), .int .i64 args] 140 (0, 0)) := new_blk _ _
  obtain ⟨k0, k1, k2⟩ := cell_box3 hblk
  by_cases ha : 0 ≤ args
  · rw [if_pos ha] at hl ⊢
    obtain ⟨an, rfl⟩ : ∃ an : Nat, args = an := ⟨args.toNat, by omega⟩
    have e : ((an : Int)).toNat = an := by simp
    rw [e] at hl ⊢
    have hit := fun W => itoa_post W an (by omega)
    obtain ⟨ds, hds⟩ : ∃ ds, ds = Tp.dec an := ⟨_, rfl⟩
    rw [← hds] at hl hit ⊢
    obtain ⟨mf, hmf⟩ : ∃ mf, mf = l ++ Tp.wordsL Tp.wProc [nm, ds] := ⟨_, rfl⟩
    rw [← hmf]
    have HMF := Lib.hid hmf
    have HL := Lib.hid hl
    have HI : Hid (∀ W, Calls Tryz.prog 102 #[.int .i64 (an : Int)] W fun e w' => e = .returned (.string (bs ds)) ∧ w' = W) := hit
    clear hit hmf hl hds e
    have hD : Below w.heap.size w ((w.alloc (.cells #[.string (bs nm), .int .i64 (len : Int), .int .i64 (an : Int)] 140)).alloc (.cells #[.string (bs nm), .string (bs ds)] 9)).drew := ((hal _).alloc (by simp) _).drew
    have hA := addLine_post (hb.below hD) Tp.wProc [nm, ds] (w.heap.size + 1) 2 (new_blk1 _ _ _) (by simp) HL.out
    have HA : Hid (Calls Tryz.prog 79 #[v, .string ⟨#[112, 114, 111, 99]⟩, .slice (some ⟨w.heap.size + 1, 0, none⟩) 2 2] ((w.alloc (.cells #[.string (bs nm), .int .i64 (len : Int), .int .i64 (an : Int)] 140)).alloc (.cells #[.string (bs nm), .string (bs ds)] 9)).drew (Wrote kk B ((w.alloc (.cells #[.string (bs nm), .int .i64 (len : Int), .int .i64 (an : Int)] 140)).alloc (.cells #[.string (bs nm), .string (bs ds)] 9)).drew mf)) := by rw [HMF.out]; exact hA
    have HBW : Hid (Bw kk B w ((w.alloc (.cells #[.string (bs nm), .int .i64 (len : Int), .int .i64 (an : Int)] 140)).alloc (.cells #[.string (bs nm), .string (bs ds)] 9)).drew) := Bw.of (kk := kk) hD hb.2
    have HK : Hid (((w.alloc (.cells #[.string (bs nm), .int .i64 (len : Int), .int .i64 (an : Int)] 140)).alloc (.cells #[.string (bs nm), .string (bs ds)] 9)).drew.heap[w.heap.size]? = some (.cells #[.string (bs nm), .int .i64 (len : Int), .int .i64 (an : Int)] 140 (0, 0))) := (Below.heap_alloc _ _ w.heap.size (by simp)).trans hblk
    obtain ⟨j0, j1, j2⟩ := cell_box3 HK.out
    clear hA hD hb hblk
    go_enter Tryz.func78, Tryz.ntmps78
    go_wp2_with fail
    go_region_held3 (fun w' => w'.cell? ⟨w.heap.size, 0, none⟩ = some (.string (bs nm)) ∧ w'.cell? ⟨w.heap.size, 2, none⟩ = some (.int .i64 (an : Int))) (first | (exact ⟨k0, k2⟩) | (exact ⟨j0, j2⟩) | (exact ⟨q0, q2⟩)) (first | (go_at_call 102; refine (HI.out _).mono ?_; rintro e w2 ⟨rfl, rfl⟩) | (go_at_call 79; refine HA.out.mono ?_; rintro e w3 ⟨v3, rfl, hbuf3, hbel3⟩; have hblk3 := hbel3.keeps HK.out (by decide); have HB3 := Lib.hid (HBW.out.trans hbel3); have HF3 := Lib.hid hbuf3; obtain ⟨q0, q1, q2⟩ := cell_box3 hblk3; clear hbuf3 hbel3))
    go_wp2_with fail
    go_ret
    exact ⟨_, rfl, HF3.out, HB3.out⟩

  · rw [if_neg ha] at hl ⊢
    by_cases h0 : 0 < len
    · rw [if_pos h0] at hl ⊢
      have h0' : (0 : Int) < (len : Int) := by omega
      have hit := fun W => itoa_post W len (by omega)
      obtain ⟨ds, hds⟩ : ∃ ds, ds = Tp.dec len := ⟨_, rfl⟩
      rw [← hds] at hl hit ⊢
      obtain ⟨mf, hmf⟩ : ∃ mf, mf = l ++ Tp.wordsL Tp.wArr [nm, ds] := ⟨_, rfl⟩
      rw [← hmf]
      have HMF := Lib.hid hmf
      have HL := Lib.hid hl
      have HI : Hid (∀ W, Calls Tryz.prog 102 #[.int .i64 (len : Int)] W fun e w' => e = .returned (.string (bs ds)) ∧ w' = W) := hit
      clear hit hmf hl hds
      have hD : Below w.heap.size w ((w.alloc (.cells #[.string (bs nm), .int .i64 (len : Int), .int .i64 args] 140)).alloc (.cells #[.string (bs nm), .string (bs ds)] 9)).drew := ((hal _).alloc (by simp) _).drew
      have hA := addLine_post (hb.below hD) Tp.wArr [nm, ds] (w.heap.size + 1) 2 (new_blk1 _ _ _) (by simp) HL.out
      have HA : Hid (Calls Tryz.prog 79 #[v, .string ⟨#[97, 114, 114, 97, 121]⟩, .slice (some ⟨w.heap.size + 1, 0, none⟩) 2 2] ((w.alloc (.cells #[.string (bs nm), .int .i64 (len : Int), .int .i64 args] 140)).alloc (.cells #[.string (bs nm), .string (bs ds)] 9)).drew (Wrote kk B ((w.alloc (.cells #[.string (bs nm), .int .i64 (len : Int), .int .i64 args] 140)).alloc (.cells #[.string (bs nm), .string (bs ds)] 9)).drew mf)) := by rw [HMF.out]; exact hA
      have HBW : Hid (Bw kk B w ((w.alloc (.cells #[.string (bs nm), .int .i64 (len : Int), .int .i64 args] 140)).alloc (.cells #[.string (bs nm), .string (bs ds)] 9)).drew) := Bw.of (kk := kk) hD hb.2
      have HK : Hid (((w.alloc (.cells #[.string (bs nm), .int .i64 (len : Int), .int .i64 args] 140)).alloc (.cells #[.string (bs nm), .string (bs ds)] 9)).drew.heap[w.heap.size]? = some (.cells #[.string (bs nm), .int .i64 (len : Int), .int .i64 args] 140 (0, 0))) := (Below.heap_alloc _ _ w.heap.size (by simp)).trans hblk
      obtain ⟨j0, j1, j2⟩ := cell_box3 HK.out
      clear hA hD hb hblk
      go_enter Tryz.func78, Tryz.ntmps78
      go_wp2_with fail
      go_region_held3 (fun w' => w'.cell? ⟨w.heap.size, 0, none⟩ = some (.string (bs nm)) ∧ w'.cell? ⟨w.heap.size, 1, none⟩ = some (.int .i64 (len : Int))) (first | (exact ⟨k0, k1⟩) | (exact ⟨j0, j1⟩) | (exact ⟨q0, q1⟩)) (first | (go_at_call 102; refine (HI.out _).mono ?_; rintro e w2 ⟨rfl, rfl⟩) | (go_at_call 79; refine HA.out.mono ?_; rintro e w3 ⟨v3, rfl, hbuf3, hbel3⟩; have hblk3 := hbel3.keeps HK.out (by decide); have HB3 := Lib.hid (HBW.out.trans hbel3); have HF3 := Lib.hid hbuf3; obtain ⟨q0, q1, q2⟩ := cell_box3 hblk3; clear hbuf3 hbel3))
      go_wp2_with fail
      go_ret
      exact ⟨_, rfl, HF3.out, HB3.out⟩

    · rw [if_neg h0] at hl ⊢
      have h0' : ¬ (0 : Int) < (len : Int) := by omega
      obtain ⟨mf, hmf⟩ : ∃ mf, mf = l ++ Tp.wordsL Tp.wInt [nm] := ⟨_, rfl⟩
      rw [← hmf]
      have hD : Below w.heap.size w ((w.alloc (.cells #[.string (bs nm), .int .i64 (len : Int), .int .i64 args] 140)).alloc (.cells #[.string (bs nm)] 9)) := (hal _).alloc (by simp) _
      have hA := addLine_post (hb.below hD) Tp.wInt [nm] (w.heap.size + 1) 1 (new_blk1 _ _ _) (by simp) hl
      rw [← hmf] at hA
      have HA : Hid (Calls Tryz.prog 79 #[v, .string ⟨#[105, 110, 116]⟩, .slice (some ⟨w.heap.size + 1, 0, none⟩) 1 1] ((w.alloc (.cells #[.string (bs nm), .int .i64 (len : Int), .int .i64 args] 140)).alloc (.cells #[.string (bs nm)] 9)) (Wrote kk B ((w.alloc (.cells #[.string (bs nm), .int .i64 (len : Int), .int .i64 args] 140)).alloc (.cells #[.string (bs nm)] 9)) mf)) := hA
      have HBW : Hid (Bw kk B w ((w.alloc (.cells #[.string (bs nm), .int .i64 (len : Int), .int .i64 args] 140)).alloc (.cells #[.string (bs nm)] 9))) := Bw.of (kk := kk) hD hb.2
      clear hA hD hb hblk hl hmf
      go_enter Tryz.func78, Tryz.ntmps78
      go_wp2_with fail
      refine HA.out.mono ?_
      rintro e w3 ⟨v3, rfl, hbuf3, hbel3⟩
      have HB3 := Lib.hid (HBW.out.trans hbel3)
      have HF3 := Lib.hid hbuf3
      clear hbuf3 hbel3
      go_wp2_with fail
      go_ret
      exact ⟨_, rfl, HF3.out, HB3.out⟩
end Go.Proofs.YtadgeapgoggljaaGreatDoor
/- What is needed: Needs. -/
namespace Go.Proofs.YtadgeapgoggljaaGreatDoor
open Go.RowKit Go.Sort
open Tp (Sy)

theorem conv_buf {kk : Nat → Prop} {w : World} {B : Nat} {v : Value} {l : List UInt8} (h : Buf kk w B v l) : (convert 103 9 v).run Tryz.prog w = .ok (.string (bs l)) w := by
  rcases h.own.2 with ⟨rfl, h2⟩ | ⟨g, cap, cur, rfl, h2, h3, h4, h5, h6, h7⟩
  · have e : l = [] := List.eq_nil_of_length_eq_zero h2
    subst e
    rw [run_convert_bytes_string w 103 9 5 none 0 0 Tryz.underlying103 Tryz.underlying5 Tryz.underlying9]
    rfl
  · refine run_convert_bytes_back w 103 9 5 ⟨g, 0, none⟩ cap l Tryz.underlying103 Tryz.underlying5 Tryz.underlying9 (fun j hj => ?_)
    have := h.own.cells (g := g) rfl j (.int .u8 (l[j].toNat : Int)) (by rw [u8s, List.getElem?_map, List.getElem?_eq_getElem hj]; rfl)
    simpa using this
theorem lineOf_len (s : Sy) (h : s.2.1 < 100 ∧ s.2.2 < 100 ∧ -1 ≤ s.2.2 ∧ s.1.length ≤ 100) : (Tp.lineOf s).length ≤ 200 := by
  have hd : ∀ n, n < 100 → (Tp.dec n).length ≤ 2 := by
    intro n hn
    rw [Tp.dec]
    split
    · simp
    · rw [Tp.dec_d (show n / 10 < 10 by omega)]; simp
  unfold Tp.lineOf
  split
  · have := hd s.2.2.toNat (by omega)
    simp [Tp.wordsL, Tp.wProc]; omega
  · split
    · have := hd s.2.1 h.1
      simp [Tp.wordsL, Tp.wArr]; omega
    · simp [Tp.wordsL, Tp.wInt]; omega
theorem need_at (l : List Sy) (n : List UInt8) : (∃ (k : Nat) (hk : k < l.length), fidx l n = (k : Int) ∧ Tp.needS l n = Tp.lineOf l[k]) ∨ fidx l n = -1 ∧ Tp.needS l n = Tp.wordsL [110, 111, 110, 101] [n] := by
  unfold fidx Tp.needS Tp.findS
  cases h : l.findIdx? (fun s => s.1 == n) with
  | some k =>
    left
    have h' := h
    rw [List.findIdx?_eq_some_iff_getElem] at h'
    obtain ⟨hk, h1, h2⟩ := h'
    refine ⟨k, hk, rfl, ?_⟩
    have : l.find? (fun s => s.1 == n) = some l[k] := by
      rw [List.find?_eq_some_iff_getElem]
      exact ⟨by simpa using h1, k, hk, rfl, fun j hj => by simpa using h2 j hj⟩
    rw [this]
  | none =>
    right
    have : l.find? (fun s => s.1 == n) = none := by
      rw [List.find?_eq_none]
      rw [List.findIdx?_eq_none_iff] at h
      intro x hx
      simpa using h x hx
    rw [this]
    exact ⟨rfl, rfl⟩
theorem need_len (l : List Sy) (n : List UInt8) (h : AllSmall l) (hn : n.length ≤ 100) : (Tp.needS l n).length ≤ 200 := by
  rcases need_at l n with ⟨k, hk, _, e⟩ | ⟨_, e⟩
  · rw [e]; exact lineOf_len _ (h _ (List.getElem_mem hk))
  · rw [e]; simp [Tp.wordsL]; omega
theorem needs_len (l : List Sy) (ns : List (List UInt8)) (h : AllSmall l) (hn : ∀ n ∈ ns, n.length ≤ 100) : (Tp.needsS l ns).length ≤ 200 * ns.length := by
  induction ns with
  | nil => simp [Tp.needsS]
  | cons n ns ih =>
    have h1 := need_len l n h (hn n (by simp))
    have h2 := ih (fun x hx => hn x (by simp [hx]))
    simp only [Tp.needsS, List.map_cons, List.flatten_cons, List.length_append, List.length_cons] at h2 ⊢
    omega
set_option maxRecDepth 100000 in
set_option maxHeartbeats 2000000 in
theorem needs_post {w : World} {B : Nat} {v : Value} {l : List Sy} (h : SL w B v l) (hs : AllSmall l) (hn : l.length ≤ 1000) {ns : List (List UInt8)} {na : Option Addr} {nc : Nat} (hns : StrsAt w ns na) (hnl : ∀ n ∈ ns, n.length ≤ 100) (hnn : ns.length ≤ 9000) :
    Calls Tryz.prog 37 #[v, .slice na ns.length nc] w fun e w' => e = .returned (.string (bs (Tp.needsS l ns))) ∧ Below w.heap.size w w' := by
  obtain ⟨a, c, rfl⟩ := h.len
  have hnn' : (ns.length : Int) ≤ 9000 := by omega
  have hln' : (l.length : Int) ≤ 1000 := by omega
  have HSL := Lib.hid h
  have HS := Lib.hid hs
  have HNS := Lib.hid hns
  have HNL := Lib.hid hnl
  have HF : Hid (∀ W, Below w.heap.size w W → ∀ n, Calls Tryz.prog 77 #[.slice a l.length c, .string (bs n)] W fun e w' => e = .returned (.int .i64 (fidx l n)) ∧ Below W.heap.size W w') := fun W hW n => find_post (h.on hW) hn n
  obtain ⟨nn, hnq⟩ : ∃ nn, nn = ns.length := ⟨_, rfl⟩
  rw [← hnq] at hnn' ⊢
  have HNQ := Lib.hid hnq
  obtain ⟨ln, hlq⟩ : ∃ ln, ln = l.length := ⟨_, rfl⟩
  rw [← hlq] at hln' HF ⊢
  have HLQ := Lib.hid hlq
  clear h hs hns hnl hnq hlq
  go_enter Tryz.func37, Tryz.ntmps37
  go_wp2_with fail
  go_loopg [5, 11] nn (fun k v vi wr => ∃ i : Nat, i ≤ nn ∧ k = nn - i ∧ vi = .int .i64 (i : Int) ∧ Hid (Buf (fun _ => False) wr w.heap.size v (Tp.needsS l (ns.take i))) ∧ Hid (Bw (fun _ => False) w.heap.size w wr))
  case atStart => exact ⟨0, by omega, by omega, rfl, Buf.nil _ _ (Nat.le_refl _) (fun k hk => hk.elim), Bw.refl _ _⟩
  case round =>
    obtain ⟨i, hid, hk, rfl, HB, HW⟩ := hrel
    by_cases hlt : i < nn
    · have hlt' : (i : Int) < (nn : Int) := by omega
      have hia : i < ns.length := by have := HNQ.out; omega
      obtain ⟨b, o, rfl, hbl, hcell⟩ := HNS.out.c i hia
      have kc : wr.cell? ⟨b, o + i, none⟩ = some (.string (bs ns[i])) := (HW.out.cell (p := ⟨b, o + i, none⟩) hbl).trans hcell
      have hlgr : b < wr.heap.size := by have := HW.out.size; omega
      have e1 : Tp.needsS l (ns.take (i + 1)) = Tp.needsS l (ns.take i) ++ Tp.needS l ns[i] := by
        unfold Tp.needsS
        rw [List.take_succ_eq_append_getElem hia, List.map_append, List.flatten_append]; simp
      have hpl := needs_len l (ns.take (i + 1)) HS.out (fun x hx => HNL.out x (List.mem_of_mem_take hx))
      have hlen : (Tp.needsS l (ns.take i) ++ Tp.needS l ns[i]).length ≤ 1000000000 := by rw [← e1]; simp only [List.length_take] at hpl; omega
      obtain ⟨m, hm⟩ : ∃ m, m = Tp.needsS l (ns.take i) := ⟨_, rfl⟩
      obtain ⟨m2, hm2⟩ : ∃ m2, m2 = Tp.needsS l (ns.take (i + 1)) := ⟨_, rfl⟩
      have hbuf := HB.out
      rw [← hm] at hbuf hlen e1
      rw [← hm2] at e1
      obtain ⟨a1, c1, hv⟩ := owns_shape hbuf.1
      subst hv
      have HFI := Lib.hid (HF.out wr HW.out.toBelow ns[i])
      have HBF := Lib.hid hbuf
      have HM2 := Lib.hid hm2
      have HE1 := Lib.hid e1
      have HLN := Lib.hid hlen
      clear hbuf HB hcell hpl hm hm2 e1 hlen
      generalize ns[i] = nm at *
      go_wp2_with fail
      refine HFI.out.mono ?_
      rintro e w3 ⟨rfl, h3⟩
      have HB3 := Lib.hid (HBF.out.below h3)
      have HW3 := Lib.hid (HW.out.trans (Bw.of h3 HBF.out.2))
      clear h3 kc
      rcases need_at l nm with ⟨k, hkl, hfi, hne⟩ | ⟨hfi, hne⟩
      · obtain ⟨g, hag, _, hgl, hc3⟩ := HSL.out.cell k hkl
        subst hag
        have hc := fun j (hj : j < 3) => (HW3.out.cell (p := ⟨g, k * 3 + j, none⟩) hgl).trans (hc3 j hj)
        have kc0 : w3.cell? ⟨g, k * 3, none⟩ = some (.string (bs l[k].1)) := hc 0 (by omega)
        have kc1 : w3.cell? ⟨g, k * 3 + 1, none⟩ = some (.int .i64 (l[k].2.1 : Int)) := hc 1 (by omega)
        have kc2 : w3.cell? ⟨g, k * 3 + 2, none⟩ = some (.int .i64 l[k].2.2) := hc 2 (by omega)
        have hlg3 : g < w3.heap.size := by have := HW3.out.size; omega
        have hsm := HS.out l[k] (List.getElem_mem hkl)
        have hkl' : (k : Int) < (ln : Int) := by have := HLQ.out; omega
        have hcall := addSym_post l[k] hsm.1 hsm.2.1 hsm.2.2.1 HB3.out (by rw [← hne]; exact HLN.out)
        rw [← hne, ← HE1.out] at hcall
        have HC : Hid (Calls Tryz.prog 78 #[.slice a1 m.length c1, .agg #[.string (bs l[k].1), .int .i64 (l[k].2.1 : Int), .int .i64 l[k].2.2]] w3 (Wrote (fun _ => False) w.heap.size w3 m2)) := hcall
        clear hcall hne hc hc3 hsm
        generalize l[k].1 = x0 at *
        generalize l[k].2.1 = x1 at *
        generalize l[k].2.2 = x2 at *
        rw [hfi]
        go_wp2_with fail
        refine HC.out.mono ?_
        rintro e w4 ⟨v4, rfl, hb4, hw4⟩
        have HB4 : Hid (Buf (fun _ => False) w4 w.heap.size v4 (Tp.needsS l (ns.take (i + 1)))) := by rw [← HM2.out]; exact hb4
        have HW4 := Lib.hid (HW3.out.trans hw4)
        clear hb4 hw4
        go_wp2_with fail
        go_roundg (nn - (i + 1))
        case measure => omega
        case rel => exact ⟨i + 1, by omega, rfl, by go_num, HB4, HW4⟩
      · have hcall := addLine_post (HB3.out.below ((Below.refl _ _).alloc (Nat.le_refl _) (.cells #[.string (bs nm)] 9))) [110, 111, 110, 101] [nm] w3.heap.size 1 (new_blk _ _) (by simp) (by rw [← hne]; exact HLN.out)
        rw [← hne, ← HE1.out] at hcall
        have HC : Hid (Calls Tryz.prog 79 #[.slice a1 m.length c1, .string ⟨#[110, 111, 110, 101]⟩, .slice (some ⟨w3.heap.size, 0, none⟩) 1 1] (w3.alloc (.cells #[.string (bs nm)] 9)) (Wrote (fun _ => False) w.heap.size (w3.alloc (.cells #[.string (bs nm)] 9)) m2)) := hcall
        have HWA := Lib.hid (HW3.out.trans (Bw.of ((Below.refl _ _).alloc (Nat.le_refl _) (.cells #[.string (bs nm)] 9)) HB3.out.2))
        clear hcall hne
        rw [hfi]
        go_wp2_with fail
        refine HC.out.mono ?_
        rintro e w4 ⟨v4, rfl, hb4, hw4⟩
        have HB4 : Hid (Buf (fun _ => False) w4 w.heap.size v4 (Tp.needsS l (ns.take (i + 1)))) := by rw [← HM2.out]; exact hb4
        have HW4 := Lib.hid (HWA.out.trans hw4)
        clear hb4 hw4
        go_wp2_with fail
        go_roundg (nn - (i + 1))
        case measure => omega
        case rel => exact ⟨i + 1, by omega, rfl, by go_num, HB4, HW4⟩
    · have hlt' : ¬ (i : Int) < (nn : Int) := by omega
      have e : i = ns.length := by have := HNQ.out; omega
      have hbuf := HB.out
      rw [e, List.take_length] at hbuf
      have hcv := conv_buf hbuf
      obtain ⟨a1, c1, hv⟩ := owns_shape hbuf.1
      subst hv
      have HBB := Lib.hid HW.out.toBelow
      clear hbuf HB HW
      go_wp2_with fail
      go_ret
      exact ⟨rfl, HBB.out⟩
end Go.Proofs.YtadgeapgoggljaaGreatDoor
