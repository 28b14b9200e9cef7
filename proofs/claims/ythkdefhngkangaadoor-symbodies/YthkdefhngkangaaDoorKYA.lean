import Derived.Test.YthkdefhngkangaaDoorKPB
import Derived.Test.YthkdefhngkangaaDoorKWW
/- The plain functions of chapter 2: what others see of a module, how that is written. -/
namespace Tp
abbrev Sy := Bs × Nat × Int
def wArr : Bs := [97, 114, 114, 97, 121]
def wordsL (first : Bs) (ss : List Bs) : Bs := first ++ (ss.map fun s => (32 : UInt8) :: s).flatten ++ [10]
def lineOf (s : Sy) : Bs := if 0 ≤ s.2.2 then wordsL wProc [s.1, dec s.2.2.toNat] else if 0 < s.2.1 then wordsL wArr [s.1, dec s.2.1] else wordsL wInt [s.1]
def printS (l : List Sy) : Bs := (l.map lineOf).flatten
def syG (g : G) : Sy := (g.name, g.len, -1)
def syP (p : Pr) : Sy := (p.name, 0, (p.params.length : Int))
def symsOf (m : M) : List Sy := (m.vars.filter (·.seen)).map syG ++ (m.procs.filter (·.seen)).map syP
def findS (l : List Sy) (n : Bs) : Option Sy := l.find? fun s => s.1 == n
def needS (l : List Sy) (n : Bs) : Bs := match findS l n with
  | some s => lineOf s
  | none => wordsL [110, 111, 110, 101] [n]
def needsS (l : List Sy) (ns : List Bs) : Bs := (ns.map (needS l)).flatten
theorem findS_cons {l : List Sy} {s : Sy} {n : Bs} (h : s.1 ≠ n) : findS (s :: l) n = findS l n := by
  unfold findS
  rw [List.find?_cons]
  have : (s.1 == n) = false := by simpa using h
  rw [this]
theorem findS_last {l : List Sy} {s : Sy} {n : Bs} (h : s.1 ≠ n) : findS (l ++ [s]) n = findS l n := by
  unfold findS
  rw [List.find?_append]
  have : List.find? (fun x : Sy => x.1 == n) [s] = none := by
    rw [List.find?_cons]
    have : (s.1 == n) = false := by simpa using h
    rw [this]; rfl
  rw [this]
  simp
theorem needs_cons {l : List Sy} {s : Sy} {ns : List Bs} (h : s.1 ∉ ns) : needsS (s :: l) ns = needsS l ns := by
  unfold needsS
  congr 1
  apply List.map_congr_left
  intro n hn
  unfold needS
  rw [findS_cons (fun e => h (e ▸ hn))]
theorem needs_last {l : List Sy} {s : Sy} {ns : List Bs} (h : s.1 ∉ ns) : needsS (l ++ [s]) ns = needsS l ns := by
  unfold needsS
  congr 1
  apply List.map_congr_left
  intro n hn
  unfold needS
  rw [findS_last (fun e => h (e ▸ hn))]
end Tp
/- Writing what others see: addLine. -/
namespace Go.Proofs.YthkdefhngkangaaDoor
open Go.RowKit
variable {kk : Nat → Prop}
open Tp (Sy)

set_option maxRecDepth 100000 in
set_option maxHeartbeats 800000 in
theorem addLine_post {w : World} {B : Nat} {v : Value} {l : List UInt8} (h : Buf kk w B v l) (first : List UInt8) (ss : List (List UInt8)) (sb cs : Nat) (hs : w.heap[sb]? = some (.cells (ss.map fun s => Value.string (bs s)).toArray 9 (0, 0))) (hn : ss.length ≤ 1000) (hl : (l ++ Tp.wordsL first ss).length ≤ 1000000000) :
    Calls Tryd.prog 34 #[v, .string (bs first), .slice (some ⟨sb, 0, none⟩) ss.length cs] w (Wrote kk B w (l ++ Tp.wordsL first ss)) := by
  obtain ⟨ao, cap, hv⟩ := owns_shape h.1
  subst hv
  have hlf : l.length + first.length ≤ 1000000000 := by unfold Tp.wordsL at hl; simp only [List.length_append] at hl; omega
  have hln : ∀ i, i ≤ ss.length → (l ++ first ++ ((ss.take i).map fun s => (32 : UInt8) :: s).flatten).length + 1 ≤ 1000000000 := by
    intro i hi
    unfold Tp.wordsL at hl
    have e : (ss.map fun s => (32 : UInt8) :: s).flatten = ((ss.take i).map fun s => (32 : UInt8) :: s).flatten ++ ((ss.drop i).map fun s => (32 : UInt8) :: s).flatten := by
      conv => lhs; rw [← List.take_append_drop i ss, List.map_append, List.flatten_append]
    rw [e] at hl
    simp only [List.length_append, List.length_cons, List.length_nil] at hl ⊢
    omega
  have HLN := Lib.hid hln
  have HL := Lib.hid hl
  clear hln hl
  go_enter Tryd.func34, Tryd.ntmps34
  go_wp2_with (at_builtin; refine wpList_str rfl _ _ rfl h first rfl rfl ?c1 ?_)
  case c1 => omega
  intro v1 w1 hb1 hbel1
  have hs1 := hbel1.keeps hs (by decide)
  have HB1 := Lib.hid hb1
  have HBW1 := Lib.hid hbel1
  have HS1 := Lib.hid hs1
  clear hb1 hbel1 hs1 hs
  go_wp2_with fail
  go_loopg [0, 14] ss.length (fun k v vi wr => ∃ i : Nat, i ≤ ss.length ∧ k = ss.length - i ∧ vi = .int .i64 (i : Int) ∧ Hid (Buf kk wr B v (l ++ first ++ ((ss.take i).map fun s => (32 : UInt8) :: s).flatten)) ∧ Hid (Bw kk B w wr) ∧ Hid (wr.heap[sb]? = some (.cells (ss.map fun s => Value.string (bs s)).toArray 9 (0, 0))))
  case atStart => exact ⟨0, by omega, by omega, rfl, by unfold Hid; simpa using HB1.out, HBW1, HS1⟩
  case round =>
    obtain ⟨i, hid, hk, rfl, HB, HBW, HS⟩ := hrel
    clear HB1 HBW1 HS1
    have hbuf := HB.out
    obtain ⟨m, hm⟩ : ∃ m, m = l ++ first ++ ((ss.take i).map fun s => (32 : UInt8) :: s).flatten := ⟨_, rfl⟩
    rw [← hm] at hbuf
    have hml := HLN.out i hid
    rw [← hm] at hml
    have HM := Lib.hid hm
    clear hm HB
    obtain ⟨a1, c1, hv⟩ := owns_shape hbuf.1
    subst hv
    by_cases hlt : i < ss.length
    · have hlt' : (i : Int) < (ss.length : Int) := by omega
      have hcell : wr.cell? ⟨sb, i, none⟩ = some (.string (bs ss[i])) := by rw [cell_blk HS.out]; simp [hlt]
      have hlb := lt_blk HS.out
      have hml2 := HLN.out (i + 1) hlt
      have hnew : l ++ first ++ ((ss.take (i + 1)).map fun s => (32 : UInt8) :: s).flatten = m ++ [32] ++ ss[i] := by
        rw [List.take_succ_eq_append_getElem hlt, List.map_append, List.flatten_append, HM.out]
        simp
      rw [hnew] at hml2
      have HNEW := Lib.hid hnew
      clear hnew
      generalize ss[i] = x at hcell hml2 HNEW
      have hml3 : m.length + 1 + x.length ≤ 1000000000 := by simp only [List.length_append, List.length_cons, List.length_nil] at hml2; omega
      clear hml2
      go_wp2_with (at_builtin; refine wpList_byte rfl _ _ rfl hbuf 32 32 rfl rfl rfl ?c1 ?_)
      case c1 => omega
      intro v2 w2 hb2 hbel2
      have HS2 := Lib.hid (hbel2.keeps HS.out (by decide))
      have HBW2 := Lib.hid (HBW.out.trans hbel2)
      clear hbuf hbel2 HS HBW hcell
      go_wp2_with (at_builtin; refine wpList_str rfl _ _ rfl hb2 x rfl rfl ?c2 ?_)
      case c2 => simp only [List.length_append, List.length_cons, List.length_nil]; omega
      intro v3 w3 hb3 hbel3
      have HB3 : Hid (Buf kk w3 B v3 (l ++ first ++ ((ss.take (i + 1)).map fun s => (32 : UInt8) :: s).flatten)) := by unfold Hid; rw [HNEW.out]; simpa using hb3
      have HBW3 := Lib.hid (HBW2.out.trans hbel3)
      have HS3 := Lib.hid (hbel3.keeps HS2.out (by decide))
      clear hb2 hb3 hbel3 HS2 HBW2
      go_wp2_with fail
      go_roundg (ss.length - (i + 1))
      case measure => omega
      case rel => exact ⟨i + 1, by omega, rfl, by go_num, HB3, HBW3, HS3⟩
    · have hlt' : ¬ (i : Int) < (ss.length : Int) := by omega
      have e : i = ss.length := by omega
      go_wp2_with (at_builtin; refine wpList_byte rfl _ _ rfl hbuf 10 10 rfl rfl rfl ?c1 ?_)
      case c1 => omega
      intro v2 w2 hb2 hbel2
      have HB2 : Hid (Buf kk w2 B v2 (l ++ Tp.wordsL first ss)) := by
        unfold Hid Tp.wordsL
        rw [HM.out, e, List.take_length] at hb2
        simpa using hb2
      have HBW2 := Lib.hid (HBW.out.trans hbel2)
      clear hb2 hbel2 hbuf
      go_wp2_with fail
      go_ret
      exact ⟨_, rfl, HB2.out, HBW2.out⟩
end Go.Proofs.YthkdefhngkangaaDoor
/- Writing what others see: addSym. -/
namespace Go.Proofs.YthkdefhngkangaaDoor
open Go.RowKit
variable {kk : Nat → Prop}
open Tp (Sy)

theorem cell_box3 {w : World} {b : Nat} {v0 v1 v2 : Value} {t : TypeId} (h : w.heap[b]? = some (.cells #[v0, v1, v2] t (0, 0))) : w.cell? ⟨b, 0, none⟩ = some v0 ∧ w.cell? ⟨b, 1, none⟩ = some v1 ∧ w.cell? ⟨b, 2, none⟩ = some v2 :=
  ⟨(cell_blk h).trans rfl, (cell_blk h).trans rfl, (cell_blk h).trans rfl⟩
set_option maxRecDepth 100000 in
set_option maxHeartbeats 2000000 in
theorem addSym_post (s : Sy) (h1 : s.2.1 < 100) (h2 : s.2.2 < 100) (h3 : -1 ≤ s.2.2) {w : World} {B : Nat} {v : Value} {l : List UInt8} (hb : Buf kk w B v l) (hl : (l ++ Tp.lineOf s).length ≤ 1000000000) :
    Calls Tryd.prog 27 #[v, .agg #[.string (bs s.1), .int .i64 (s.2.1 : Int), .int .i64 s.2.2]] w (Wrote kk B w (l ++ Tp.lineOf s)) := by
  obtain ⟨nm, len, args⟩ := s
  simp only at h1 h2 h3 ⊢
  unfold Tp.lineOf at hl ⊢
  simp only at hl ⊢
  have hal : ∀ ob, Below w.heap.size w (w.alloc ob) := fun ob => (Below.refl _ _).alloc (Nat.le_refl _) _
  have hblk : (w.alloc (.cells #[.string (bs nm), .int .i64 (len : Int), .int .i64 args] 50)).heap[w.heap.size]? = some (.cells #[.string (bs nm), .int .i64 (len : Int), .int .i64 args] 50 (0, 0)) := new_blk _ _
  obtain ⟨k0, k1, k2⟩ := cell_box3 hblk
  by_cases ha : 0 ≤ args
  · rw [if_pos ha] at hl ⊢
    obtain ⟨an, rfl⟩ : ∃ an : Nat, args = an := ⟨args.toNat, by omega⟩
    have e : ((an : Int)).toNat = an := by simp
    rw [e] at hl ⊢
    have hit := fun W => itoa_post W an (by omega)
    obtain ⟨ds, hds⟩ : ∃ ds, ds = Tp.dec an := ⟨_, rfl⟩
    rw [← hds] at hl hit ⊢
    obtain ⟨mf, hmf⟩ : ∃ mf, mf = l ++ Tp.wordsL Tp.wProc [nm, ds] := ⟨_, rfl⟩
    rw [← hmf]
    have HMF := Lib.hid hmf
    have HL := Lib.hid hl
    have HI : Hid (∀ W, Calls Tryd.prog 54 #[.int .i64 (an : Int)] W fun e w' => e = .returned (.string (bs ds)) ∧ w' = W) := hit
    clear hit hmf hl hds e
    have hD : Below w.heap.size w ((w.alloc (.cells #[.string (bs nm), .int .i64 (len : Int), .int .i64 (an : Int)] 50)).alloc (.cells #[.string (bs nm), .string (bs ds)] 9)).drew := ((hal _).alloc (by simp) _).drew
    have hA := addLine_post (hb.below hD) Tp.wProc [nm, ds] (w.heap.size + 1) 2 (new_blk1 _ _ _) (by simp) HL.out
    have HA : Hid (Calls Tryd.prog 34 #[v, .string ⟨#[112, 114, 111, 99]⟩, .slice (some ⟨w.heap.size + 1, 0, none⟩) 2 2] ((w.alloc (.cells #[.string (bs nm), .int .i64 (len : Int), .int .i64 (an : Int)] 50)).alloc (.cells #[.string (bs nm), .string (bs ds)] 9)).drew (Wrote kk B ((w.alloc (.cells #[.string (bs nm), .int .i64 (len : Int), .int .i64 (an : Int)] 50)).alloc (.cells #[.string (bs nm), .string (bs ds)] 9)).drew mf)) := by rw [HMF.out]; exact hA
    have HBW : Hid (Bw kk B w ((w.alloc (.cells #[.string (bs nm), .int .i64 (len : Int), .int .i64 (an : Int)] 50)).alloc (.cells #[.string (bs nm), .string (bs ds)] 9)).drew) := Bw.of (kk := kk) hD hb.2
    have HK : Hid (((w.alloc (.cells #[.string (bs nm), .int .i64 (len : Int), .int .i64 (an : Int)] 50)).alloc (.cells #[.string (bs nm), .string (bs ds)] 9)).drew.heap[w.heap.size]? = some (.cells #[.string (bs nm), .int .i64 (len : Int), .int .i64 (an : Int)] 50 (0, 0))) := (Below.heap_alloc _ _ w.heap.size (by simp)).trans hblk
    obtain ⟨j0, j1, j2⟩ := cell_box3 HK.out
    clear hA hD hb hblk
    go_enter Tryd.func27, Tryd.ntmps27
    go_wp2_with fail
    go_region_held3 (fun w' => w'.cell? ⟨w.heap.size, 0, none⟩ = some (.string (bs nm)) ∧ w'.cell? ⟨w.heap.size, 2, none⟩ = some (.int .i64 (an : Int))) (first | (exact ⟨k0, k2⟩) | (exact ⟨j0, j2⟩) | (exact ⟨q0, q2⟩)) (first | (go_at_call 54; refine (HI.out _).mono ?_; rintro e w2 ⟨rfl, rfl⟩) | (go_at_call 34; refine HA.out.mono ?_; rintro e w3 ⟨v3, rfl, hbuf3, hbel3⟩; have hblk3 := hbel3.keeps HK.out (by decide); have HB3 := Lib.hid (HBW.out.trans hbel3); have HF3 := Lib.hid hbuf3; obtain ⟨q0, q1, q2⟩ := cell_box3 hblk3; clear hbuf3 hbel3))
    go_wp2_with fail
    go_ret
    exact ⟨_, rfl, HF3.out, HB3.out⟩

  · rw [if_neg ha] at hl ⊢
    by_cases h0 : 0 < len
    · rw [if_pos h0] at hl ⊢
      have h0' : (0 : Int) < (len : Int) := by omega
      have hit := fun W => itoa_post W len (by omega)
      obtain ⟨ds, hds⟩ : ∃ ds, ds = Tp.dec len := ⟨_, rfl⟩
      rw [← hds] at hl hit ⊢
      obtain ⟨mf, hmf⟩ : ∃ mf, mf = l ++ Tp.wordsL Tp.wArr [nm, ds] := ⟨_, rfl⟩
      rw [← hmf]
      have HMF := Lib.hid hmf
      have HL := Lib.hid hl
      have HI : Hid (∀ W, Calls Tryd.prog 54 #[.int .i64 (len : Int)] W fun e w' => e = .returned (.string (bs ds)) ∧ w' = W) := hit
      clear hit hmf hl hds
      have hD : Below w.heap.size w ((w.alloc (.cells #[.string (bs nm), .int .i64 (len : Int), .int .i64 args] 50)).alloc (.cells #[.string (bs nm), .string (bs ds)] 9)).drew := ((hal _).alloc (by simp) _).drew
      have hA := addLine_post (hb.below hD) Tp.wArr [nm, ds] (w.heap.size + 1) 2 (new_blk1 _ _ _) (by simp) HL.out
      have HA : Hid (Calls Tryd.prog 34 #[v, .string ⟨#[97, 114, 114, 97, 121]⟩, .slice (some ⟨w.heap.size + 1, 0, none⟩) 2 2] ((w.alloc (.cells #[.string (bs nm), .int .i64 (len : Int), .int .i64 args] 50)).alloc (.cells #[.string (bs nm), .string (bs ds)] 9)).drew (Wrote kk B ((w.alloc (.cells #[.string (bs nm), .int .i64 (len : Int), .int .i64 args] 50)).alloc (.cells #[.string (bs nm), .string (bs ds)] 9)).drew mf)) := by rw [HMF.out]; exact hA
      have HBW : Hid (Bw kk B w ((w.alloc (.cells #[.string (bs nm), .int .i64 (len : Int), .int .i64 args] 50)).alloc (.cells #[.string (bs nm), .string (bs ds)] 9)).drew) := Bw.of (kk := kk) hD hb.2
      have HK : Hid (((w.alloc (.cells #[.string (bs nm), .int .i64 (len : Int), .int .i64 args] 50)).alloc (.cells #[.string (bs nm), .string (bs ds)] 9)).drew.heap[w.heap.size]? = some (.cells #[.string (bs nm), .int .i64 (len : Int), .int .i64 args] 50 (0, 0))) := (Below.heap_alloc _ _ w.heap.size (by simp)).trans hblk
      obtain ⟨j0, j1, j2⟩ := cell_box3 HK.out
      clear hA hD hb hblk
      go_enter Tryd.func27, Tryd.ntmps27
      go_wp2_with fail
      go_region_held3 (fun w' => w'.cell? ⟨w.heap.size, 0, none⟩ = some (.string (bs nm)) ∧ w'.cell? ⟨w.heap.size, 1, none⟩ = some (.int .i64 (len : Int))) (first | (exact ⟨k0, k1⟩) | (exact ⟨j0, j1⟩) | (exact ⟨q0, q1⟩)) (first | (go_at_call 54; refine (HI.out _).mono ?_; rintro e w2 ⟨rfl, rfl⟩) | (go_at_call 34; refine HA.out.mono ?_; rintro e w3 ⟨v3, rfl, hbuf3, hbel3⟩; have hblk3 := hbel3.keeps HK.out (by decide); have HB3 := Lib.hid (HBW.out.trans hbel3); have HF3 := Lib.hid hbuf3; obtain ⟨q0, q1, q2⟩ := cell_box3 hblk3; clear hbuf3 hbel3))
      go_wp2_with fail
      go_ret
      exact ⟨_, rfl, HF3.out, HB3.out⟩

    · rw [if_neg h0] at hl ⊢
      have h0' : ¬ (0 : Int) < (len : Int) := by omega
      obtain ⟨mf, hmf⟩ : ∃ mf, mf = l ++ Tp.wordsL Tp.wInt [nm] := ⟨_, rfl⟩
      rw [← hmf]
      have hD : Below w.heap.size w ((w.alloc (.cells #[.string (bs nm), .int .i64 (len : Int), .int .i64 args] 50)).alloc (.cells #[.string (bs nm)] 9)) := (hal _).alloc (by simp) _
      have hA := addLine_post (hb.below hD) Tp.wInt [nm] (w.heap.size + 1) 1 (new_blk1 _ _ _) (by simp) hl
      rw [← hmf] at hA
      have HA : Hid (Calls Tryd.prog 34 #[v, .string ⟨#[105, 110, 116]⟩, .slice (some ⟨w.heap.size + 1, 0, none⟩) 1 1] ((w.alloc (.cells #[.string (bs nm), .int .i64 (len : Int), .int .i64 args] 50)).alloc (.cells #[.string (bs nm)] 9)) (Wrote kk B ((w.alloc (.cells #[.string (bs nm), .int .i64 (len : Int), .int .i64 args] 50)).alloc (.cells #[.string (bs nm)] 9)) mf)) := hA
      have HBW : Hid (Bw kk B w ((w.alloc (.cells #[.string (bs nm), .int .i64 (len : Int), .int .i64 args] 50)).alloc (.cells #[.string (bs nm)] 9))) := Bw.of (kk := kk) hD hb.2
      clear hA hD hb hblk hl hmf
      go_enter Tryd.func27, Tryd.ntmps27
      go_wp2_with fail
      refine HA.out.mono ?_
      rintro e w3 ⟨v3, rfl, hbuf3, hbel3⟩
      have HB3 := Lib.hid (HBW.out.trans hbel3)
      have HF3 := Lib.hid hbuf3
      clear hbuf3 hbel3
      go_wp2_with fail
      go_ret
      exact ⟨_, rfl, HF3.out, HB3.out⟩
end Go.Proofs.YthkdefhngkangaaDoor
