import Derived.Test.YtiolfelekiopdaaGreatDoorKMN
import Derived.Test.YtiolfelekiopdaaGreatDoorKUC
import Derived.Lib.SliceRun
/- slices.DeleteFunc at Syms. -/
namespace Go.Proofs.YtiolfelekiopdaaGreatDoor
open Go.RowKit
open Tp (Bs Sy Seen)

def FirstD (l : List Sy) (del : Sy → Bool) (k : Int) : Prop := (∃ (i : Nat) (hi : i < l.length), k = (i : Int) ∧ del l[i] = true ∧ ∀ q (hq : q < i), del l[q] = false) ∨ k = -1 ∧ ∀ q (hq : q < l.length), del l[q] = false
theorem SyRow.cellAt {w : World} {g cap : Nat} {l : List Sy} (h : SyRow w g cap l) (i : Nat) (hi : i < l.length) (j : Nat) (hj : j < 3) : w.cell? ⟨g, i * 3 + j, none⟩ = (encSy l[i])[j]? := by
  obtain ⟨cur, r1, r2, r3⟩ := h.b
  rw [cell_blk r1, ← Array.getElem?_toList, ← sycs_get l i hi j hj, ← r3, List.getElem?_take_of_lt (by omega)]
theorem SyRow.on' {w w' : World} {g cap : Nat} {l : List Sy} (h : SyRow w g cap l) (k : Below w.heap.size w w') : SyRow w' g cap l := by
  obtain ⟨cur, r1, r2, r3⟩ := h.b
  exact ⟨⟨cur, (k.block g (lt_blk r1)).trans r1, r2, r3⟩, h.n, h.m⟩
theorem keep_skip {l : List Sy} {del : Sy → Bool} {j : Nat} (hj : j < l.length) (h : del l[j] = true) : ((l.take (j + 1)).filter fun s => !del s) = (l.take j).filter fun s => !del s := by
  rw [List.take_succ_eq_append_getElem hj, List.filter_append]
  simp [h]
theorem keep_keep {l : List Sy} {del : Sy → Bool} {j : Nat} (hj : j < l.length) (h : del l[j] = false) : ((l.take (j + 1)).filter fun s => !del s) = ((l.take j).filter fun s => !del s) ++ [l[j]] := by
  rw [List.take_succ_eq_append_getElem hj, List.filter_append]
  simp [h]
theorem keep_all {l : List Sy} {del : Sy → Bool} {i : Nat} (hi : i < l.length) (hb : ∀ q (hq : q < i), del l[q] = false) : ((l.take i).filter fun s => !del s) = l.take i := by
  rw [List.filter_eq_self]
  intro s hs
  obtain ⟨q, hq, rfl⟩ := List.getElem_of_mem hs
  rw [List.length_take] at hq
  simp [List.getElem_take, hb q (by omega)]
theorem keep_first {l : List Sy} {del : Sy → Bool} {i : Nat} (hi : i < l.length) (hd : del l[i] = true) (hb : ∀ q (hq : q < i), del l[q] = false) : ((l.take (i + 1)).filter fun s => !del s).length = i := by
  rw [keep_skip hi hd, keep_all hi hb, List.length_take]
  omega
/- what was kept of the first j lies first; what comes from the j-th on is as it was -/
structure DlS (w0 w : World) (g cap : Nat) (l : List Sy) (del : Sy → Bool) (j : Nat) : Prop where
  x : Ext g w0 w
  c : ∃ cur, w.heap[g]? = some (.cells cur 48 (0, 0)) ∧ cur.size = cap * 3 ∧ (∀ q (hq : q < ((l.take j).filter fun s => !del s).length), ∀ t, t < 3 → cur[q * 3 + t]? = (encSy ((l.take j).filter fun s => !del s)[q])[t]?) ∧ ∀ q, j ≤ q → ∀ (hq : q < l.length), ∀ t, t < 3 → cur[q * 3 + t]? = (encSy l[q])[t]?
theorem DlS.start {w w1 : World} {g cap : Nat} {l : List Sy} {del : Sy → Bool} {i : Nat} (hs : SyRow w g cap l) (hb : Below w.heap.size w w1) (hi : i < l.length) (hd : del l[i] = true) (hbef : ∀ q (hq : q < i), del l[q] = false) : DlS w w1 g cap l del (i + 1) := by
  obtain ⟨cur, r1, r2, r3⟩ := hs.b
  have hcur : ∀ q (hq : q < l.length) t, t < 3 → cur[q * 3 + t]? = (encSy l[q])[t]? := fun q hq t ht => by
    rw [← Array.getElem?_toList, ← sycs_get l q hq t ht, ← r3, List.getElem?_take_of_lt (by omega)]
  refine ⟨Ext.below hb, cur, (hb.block g (lt_blk r1)).trans r1, r2, ?_, fun q _ hq t ht => hcur q hq t ht⟩
  rw [keep_skip hi hd, keep_all hi hbef]
  intro q hq t ht
  rw [List.length_take] at hq
  rw [hcur q (by omega) t ht, List.getElem_take]
theorem DlS.skip {w0 w W : World} {g cap : Nat} {l : List Sy} {del : Sy → Bool} {j : Nat} (h : DlS w0 w g cap l del j) (hb : Below w.heap.size w W) (hj : j < l.length) (hd : del l[j] = true) : DlS w0 W g cap l del (j + 1) := by
  obtain ⟨cur, c1, c2, c3, c4⟩ := h.c
  refine ⟨h.x.trans (Ext.below hb), cur, (hb.block g (lt_blk c1)).trans c1, c2, ?_, fun q hq => c4 q (by omega)⟩
  rw [keep_skip hj hd]
  exact c3
theorem set3_blk {w : World} {g o : Nat} {v0 v1 v2 : Value} {cur : Array Value} {e : TypeId} (h : w.heap[g]? = some (.cells cur e (0, 0))) (ho : o + 3 ≤ cur.size) : ∃ cur', (((w.setCell ⟨g, o, none⟩ v0).setCell ⟨g, o + 1, none⟩ v1).setCell ⟨g, o + 2, none⟩ v2).heap[g]? = some (.cells cur' e (0, 0)) ∧ cur'.size = cur.size ∧ (∀ p, p < o ∨ o + 3 ≤ p → cur'[p]? = cur[p]?) ∧ ∀ t u, t < 3 → [v0, v1, v2][t]? = some u → cur'[o + t]? = some u := by
  refine ⟨_, set_blk (o + 2) v2 (set_blk (o + 1) v1 (set_blk o v0 h)), ?_, ?_, ?_⟩
  · simp
  · intro p hp
    simp only [Array.getElem?_setIfInBounds]
    rw [if_neg (by omega), if_neg (by omega), if_neg (by omega)]
  · intro t u ht hu
    match t, ht with
    | 0, _ => simp at hu; subst hu; simp [Array.getElem?_setIfInBounds]; omega
    | 1, _ => simp at hu; subst hu; simp [Array.getElem?_setIfInBounds]; omega
    | 2, _ => simp at hu; subst hu; simp [Array.getElem?_setIfInBounds]; omega
theorem DlS.keep {w0 w W : World} {g cap : Nat} {l : List Sy} {del : Sy → Bool} {i j : Nat} (h : DlS w0 w g cap l del j) (hb : Below w.heap.size w W) (hj : j < l.length) (hd : del l[j] = false) (hi : ((l.take j).filter fun s => !del s).length = i) (hij : i < j) :
    DlS w0 (((W.setCell ⟨g, i * 3, none⟩ (.string (bs l[j].1))).setCell ⟨g, i * 3 + 1, none⟩ (.int .i64 (l[j].2.1 : Int))).setCell ⟨g, i * 3 + 2, none⟩ (.int .i64 l[j].2.2)) g cap l del (j + 1) := by
  obtain ⟨cur, c1, c2, c3, c4⟩ := h.c
  have cW := (hb.block g (lt_blk c1)).trans c1
  have hjs : j * 3 < cur.size := by
    have := c4 j (Nat.le_refl _) hj 0 (by omega)
    simp [encSy] at this
    exact (Array.getElem?_eq_some_iff.1 this).1
  obtain ⟨cur', a1, a2, a3, a4⟩ := set3_blk (v0 := .string (bs l[j].1)) (v1 := .int .i64 (l[j].2.1 : Int)) (v2 := .int .i64 l[j].2.2) cW (o := i * 3) (by omega)
  refine ⟨((((h.x.trans (Ext.below hb)).set (i * 3) _).set (i * 3 + 1) _).set (i * 3 + 2) _), cur', a1, by omega, ?_, ?_⟩
  · rw [keep_keep hj hd]
    intro q hq t ht
    rw [List.length_append, hi] at hq
    simp only [List.length_singleton] at hq
    by_cases e : q = i
    · subst e
      have : (((l.take j).filter fun s => !del s) ++ [l[j]])[q]'(by simp; omega) = l[j] := by rw [List.getElem_append_right (by omega)]; simp
      rw [this]
      have hu : ∃ u, (encSy l[j])[t]? = some u := ⟨_, List.getElem?_eq_getElem (by simpa [encSy] using ht)⟩
      obtain ⟨u, hu⟩ := hu
      rw [a4 t u ht (by simpa [encSy] using hu), hu]
    · rw [List.getElem_append_left (by omega), a3 _ (by omega)]
      exact c3 q (by omega) t ht
  · intro q hq hql t ht
    rw [a3 _ (by omega)]
    exact c4 q (by omega) hql t ht
theorem setCells_blk {g : Nat} {e : TypeId} : ∀ (vs : List Value) (o : Nat) (w : World) (cur : Array Value), w.heap[g]? = some (.cells cur e (0, 0)) → ∃ cur', (w.setCells g o vs).heap[g]? = some (.cells cur' e (0, 0)) ∧ cur'.size = cur.size ∧ (∀ p, p < o → cur'[p]? = cur[p]?) ∧ Ext g w (w.setCells g o vs) := by
  intro vs
  induction vs with
  | nil => intro o w cur h; exact ⟨cur, h, rfl, fun _ _ => rfl, Ext.refl _ _⟩
  | cons v r ih =>
    intro o w cur h
    obtain ⟨cur', a1, a2, a3, a4⟩ := ih (o + 1) (w.setCell ⟨g, o, none⟩ v) _ (set_blk o v h)
    refine ⟨cur', a1, by simpa using a2, fun p hp => ?_, ((Ext.refl g w).set o v).trans a4⟩
    rw [a3 p (by omega), Array.getElem?_setIfInBounds_ne (by omega)]
theorem DlS.clear {w0 w : World} {g cap n i : Nat} {l : List Sy} {del : Sy → Bool} {j : Nat} (h : DlS w0 w g cap l del j) (hj : j = l.length) (hi : (l.filter fun s => !del s).length = i) (hin : i < n) (hcap : n ≤ cap) (hm : cap ≤ maxLen) :
    ∃ wC, (∀ ty c, (Builtin.clear_ #[45] ty #[.slice (some ⟨g, i * 3, none⟩) (n - i) c]).run Tryz.prog w = .ok (.tuple #[]) wC) ∧ Ext g w0 wC ∧ SyRow wC g cap (l.filter fun s => !del s) := by
  obtain ⟨cur, c1, c2, c3, c4⟩ := h.c
  rw [hj, List.take_length] at c3
  have hlen : (Builtin.zeroCells (Value.agg #[.string ⟨#[]⟩, .int .i64 0, .int .i64 0]).cells (n - i)).toList.length = (n - i) * 3 := by simp [Builtin.zeroCells, Value.cells]
  have hone : ∀ v ∈ (Builtin.zeroCells (Value.agg #[.string ⟨#[]⟩, .int .i64 0, .int .i64 0]).cells (n - i)).toList, v.oneCell' = true := by
    intro v hv
    simp only [Builtin.zeroCells, Value.cells, Array.toList_map, List.mem_map] at hv
    obtain ⟨p, _, rfl⟩ := hv
    have hp : p % 3 < 3 := Nat.mod_lt _ (by omega)
    show (#[Value.string ⟨#[]⟩, Value.int .i64 0, Value.int .i64 0][p % 3]!).oneCell' = true
    rcases (show p % 3 = 0 ∨ p % 3 = 1 ∨ p % 3 = 2 by omega) with e | e | e <;> rw [e] <;> rfl
  have hst := run_storeCells_cells (P := Tryz.prog) g (i * 3) (Builtin.zeroCells (Value.agg #[.string ⟨#[]⟩, .int .i64 0, .int .i64 0]).cells (n - i)).toList 0 w (by
    intro q hq
    rw [hlen] at hq
    rw [cell_blk c1, Array.getElem?_eq_getElem (by omega)]
    rfl) (fun q _ => frozen_blk c1) hone
  obtain ⟨cur', a1, a2, a3, a4⟩ := setCells_blk (Builtin.zeroCells (Value.agg #[.string ⟨#[]⟩, .int .i64 0, .int .i64 0]).cells (n - i)).toList (i * 3) w cur c1
  refine ⟨_, fun ty c => ?_, h.x.trans a4, ⟨⟨cur', a1, by omega, ?_⟩, by omega, hm⟩⟩
  · obtain ⟨m, hmm⟩ : ∃ m, n - i = m + 1 := ⟨n - i - 1, by omega⟩
    rw [hmm] at hst ⊢
    simp only [Nat.add_zero] at hst
    simp [Builtin.clear_, run_underlying Tryz.underlying45, hst]
  · apply List.ext_getElem?
    intro p
    rw [hi]
    by_cases hp : p < i * 3
    · have hp1 : p = (p / 3) * 3 + p % 3 := by omega
      rw [List.getElem?_take_of_lt hp, Array.getElem?_toList, a3 p hp]
      have e1 := c3 (p / 3) (by omega) (p % 3) (by omega)
      have e2 := sycs_get (l.filter fun s => !del s) (p / 3) (by omega) (p % 3) (by omega)
      rw [← hp1] at e1 e2
      rw [e1, e2]
    · rw [List.getElem?_eq_none (by simp; omega), List.getElem?_eq_none (by rw [sycs_len, hi]; omega)]
end Go.Proofs.YtiolfelekiopdaaGreatDoor
/- slices.DeleteFunc at Syms, by what is not used. -/
namespace Go.Proofs.YtiolfelekiopdaaGreatDoor
open Go.RowKit
open Tp (Bs Sy Seen)

/- the number of the first for which it holds, below 0: none -/
set_option maxRecDepth 100000 in
set_option maxHeartbeats 1000000 in
theorem indexA {w0 w : World} {g cap cb : Nat} {l : List Sy} {del : Sy → Bool} (hx : Ext g w0 w) (hs : SyRow w g cap l) (hn : l.length ≤ 1000) (hd : ∀ W s, s ∈ l → Ext g w0 W → Calls Tryz.prog 17 #[.agg #[.string (bs s.1), .int .i64 (s.2.1 : Int), .int .i64 s.2.2], .pointer (some ⟨cb, 0, none⟩)] W fun e w' => e = .returned (.bool (del s)) ∧ Below W.heap.size W w') :
    Calls Tryz.prog 41 #[.slice (some ⟨g, 0, none⟩) l.length cap, .func (.func 17) #[] #[.pointer (some ⟨cb, 0, none⟩)]] w fun e w' => (∃ k : Int, e = .returned (.int .i64 k) ∧ FirstD l del k) ∧ Below w.heap.size w w' := by
  have hn' : (l.length : Int) ≤ 1000 := by omega
  have HSL := Lib.hid hs
  have HX := Lib.hid hx
  have HD := Lib.hid hd
  obtain ⟨cur, hcb, hcs, hct⟩ := hs.b
  have hgl := lt_blk hcb
  obtain ⟨ln, hnl⟩ : ∃ ln, ln = l.length := ⟨_, rfl⟩
  rw [← hnl] at hn' ⊢
  have HN := Lib.hid hnl
  clear hs hx hd hnl hcb hcs hct
  go_enter Tryz.func41, Tryz.ntmps41
  go_wp2_with fail
  go_loopg [8] ln (fun k vi wr => ∃ i : Nat, i ≤ ln ∧ k = ln - i ∧ vi = .int .i64 (i : Int) ∧ Hid (∀ k (hk : k < l.length), k < i → del l[k] = false) ∧ Hid (Below w.heap.size w wr))
  case atStart => exact ⟨0, by omega, by omega, rfl, fun k _ hk => by omega, Below.refl _ _⟩
  case round =>
    obtain ⟨i, hid, hk, rfl, HI, HW⟩ := hrel
    by_cases hlt : i < ln
    · have hlt' : (i : Int) < (ln : Int) := by omega
      have hia : i < l.length := by have := HN.out; omega
      have hc := fun j (hj : j < 3) => (HW.out.cell (p := ⟨g, i * 3 + j, none⟩) hgl).trans (HSL.out.cellAt i hia j hj)
      have kc0 : wr.cell? ⟨g, i * 3, none⟩ = some (.string (bs l[i].1)) := hc 0 (by omega)
      have kc1 : wr.cell? ⟨g, i * 3 + 1, none⟩ = some (.int .i64 (l[i].2.1 : Int)) := hc 1 (by omega)
      have kc2 : wr.cell? ⟨g, i * 3 + 2, none⟩ = some (.int .i64 l[i].2.2) := hc 2 (by omega)
      have hlgr : g < wr.heap.size := by have := HW.out.size; omega
      have HF := Lib.hid (HD.out wr l[i] (List.getElem_mem hia) (HX.out.trans (Ext.below HW.out)))
      have HAT : Hid (del l[i] = true → FirstD l del (i : Int)) := fun e => Or.inl ⟨i, hia, rfl, e, fun k hk => HI.out k (by omega) hk⟩
      have HNX : Hid (del l[i] = false → ∀ k (hk : k < l.length), k < i + 1 → del l[k] = false) := by
        intro hne k hk hlt
        by_cases e : k = i
        · subst e; exact hne
        · exact HI.out k hk (by omega)
      clear hc
      generalize del l[i] = dd at *
      generalize l[i].1 = x0 at *
      generalize l[i].2.1 = x1 at *
      generalize l[i].2.2 = x2 at *
      go_wp2_with fail
      refine HF.out.mono ?_
      rintro e w3 ⟨rfl, h3⟩
      have HW3 := Lib.hid (HW.out.trans (h3.mono HW.out.size))
      clear h3
      cases dd with
      | true =>
        have HE := Lib.hid (HAT.out rfl)
        go_wp2_with fail
        go_ret
        exact ⟨⟨_, rfl, HE.out⟩, HW3.out⟩
      | false =>
        have HI3 := Lib.hid (HNX.out rfl)
        go_wp2_with fail
        go_roundg (ln - (i + 1))
        case measure => omega
        case rel => exact ⟨i + 1, by omega, rfl, by go_num, HI3, HW3⟩
    · have hlt' : ¬ (i : Int) < (ln : Int) := by omega
      have HE : Hid (FirstD l del (-1)) := Or.inr ⟨rfl, fun k hk => HI.out k hk (by have := HN.out; omega)⟩
      go_wp2_with fail
      go_ret
      exact ⟨⟨_, rfl, HE.out⟩, HW.out⟩
set_option maxRecDepth 100000 in
set_option maxHeartbeats 2000000 in
theorem deleteA {w : World} {g cap cb : Nat} {l : List Sy} {del : Sy → Bool} (hs : SyRow w g cap l) (hn : l.length ≤ 1000) (hd : ∀ W s, s ∈ l → Ext g w W → Calls Tryz.prog 17 #[.agg #[.string (bs s.1), .int .i64 (s.2.1 : Int), .int .i64 s.2.2], .pointer (some ⟨cb, 0, none⟩)] W fun e w' => e = .returned (.bool (del s)) ∧ Below W.heap.size W w') :
    Calls Tryz.prog 15 #[.slice (some ⟨g, 0, none⟩) l.length cap, .func (.func 17) #[] #[.pointer (some ⟨cb, 0, none⟩)]] w fun e w' => (∃ n, e = .returned (.slice (some ⟨g, 0, none⟩) n cap) ∧ n = (l.filter fun s => !del s).length) ∧ SyRow w' g cap (l.filter fun s => !del s) ∧ Ext g w w' := by
  have hn' : (l.length : Int) ≤ 1000 := by omega
  have HIX := Lib.hid (indexA (Ext.refl _ _) hs hn hd)
  have HSL := Lib.hid hs
  have HD := Lib.hid hd
  obtain ⟨cur, hcb, hcs, hct⟩ := hs.b
  have hgl := lt_blk hcb
  have hcap := hs.n
  have hcap' : (l.length : Int) ≤ (cap : Int) := by omega
  obtain ⟨ln, hnl⟩ : ∃ ln, ln = l.length := ⟨_, rfl⟩
  rw [← hnl] at hn' HIX hcap hcap' ⊢
  have HN := Lib.hid hnl
  clear hs hd hnl hcb hcs hct
  go_enter Tryz.func15, Tryz.ntmps15
  go_wp2_with fail
  refine HIX.out.mono ?_
  rintro e w1 ⟨⟨k, rfl, hfd⟩, hb1⟩
  rcases hfd with ⟨i0, hi0, rfl, hdel, hbef⟩ | ⟨rfl, hnone⟩
  rotate_left
  · have HF : Hid ((l.filter fun s => !del s) = l) := by
      unfold Hid
      rw [List.filter_eq_self]
      intro s hs
      obtain ⟨q, hq, rfl⟩ := List.getElem_of_mem hs
      simp [hnone q hq]
    have HS1 := Lib.hid (HSL.out.on' hb1)
    have HB1 := Lib.hid hb1
    clear hnone hb1
    go_wp2_with fail
    go_ret
    rw [HF.out]
    exact ⟨⟨_, rfl, HN.out⟩, HS1.out, Ext.below HB1.out⟩
  have HDL1 : Hid (DlS w w1 g cap l del (i0 + 1)) := DlS.start HSL.out hb1 hi0 hdel hbef
  have hsl1 : w.heap.size ≤ w1.heap.size := hb1.size
  have hi0n : (i0 : Int) < (ln : Int) := by have := HN.out; omega
  have HK0 : Hid (((l.take (i0 + 1)).filter fun s => !del s).length = i0) := keep_first hi0 hdel hbef
  have hi0l : i0 < ln := by omega
  clear hdel hbef hb1
  go_wp2_with fail
  go_loopg [5, 6] (ln - (i0 + 1)) (fun k vi vj wr => ∃ j : Nat, j ≤ ln ∧ k = ln - j ∧ vj = .int .i64 (j : Int) ∧ (∃ i : Nat, vi = .int .i64 (i : Int) ∧ i < j ∧ Hid (((l.take j).filter fun s => !del s).length = i)) ∧ Hid (DlS w wr g cap l del j))
  case atStart => exact ⟨i0 + 1, by omega, by omega, by go_num, ⟨i0, rfl, by omega, HK0⟩, HDL1⟩
  case round =>
    obtain ⟨j, hjd, hk, rfl, ⟨i, rfl, hij, HKI⟩, HDL⟩ := hrel
    obtain ⟨cur', hc1, hc2, hc3, hc4⟩ := HDL.out.c
    have hgr : g < wr.heap.size := lt_blk hc1
    have hfz : ∀ o, wr.frozen? ⟨g, o, none⟩ = false := fun o => frozen_blk hc1
    by_cases hlt : j < ln
    · have hlt' : (j : Int) < (ln : Int) := by omega
      have hja : j < l.length := by have := HN.out; omega
      have hin : (i : Int) < (ln : Int) := by omega
      have hcj := fun t (ht : t < 3) => hc4 j (Nat.le_refl _) hja t ht
      have kc0 : wr.cell? ⟨g, j * 3, none⟩ = some (.string (bs l[j].1)) := (cell_blk hc1).trans (hcj 0 (by omega))
      have kc1 : wr.cell? ⟨g, j * 3 + 1, none⟩ = some (.int .i64 (l[j].2.1 : Int)) := (cell_blk hc1).trans (hcj 1 (by omega))
      have kc2 : wr.cell? ⟨g, j * 3 + 2, none⟩ = some (.int .i64 l[j].2.2) := (cell_blk hc1).trans (hcj 2 (by omega))
      obtain ⟨w2, hw2⟩ : ∃ w2, w2 = wr.alloc (.cells #[.string (bs l[j].1), .int .i64 (l[j].2.1 : Int), .int .i64 l[j].2.2] 48) := ⟨_, rfl⟩
      have hb2 : Below wr.heap.size wr w2 := by rw [hw2]; exact (Below.refl _ _).alloc (Nat.le_refl _) _
      have hk2 : w2.heap[wr.heap.size]? = some (.cells #[.string (bs l[j].1), .int .i64 (l[j].2.1 : Int), .int .i64 l[j].2.2] 48 (0, 0)) := by rw [hw2]; exact new_blk _ _
      have hs2 : wr.heap.size < w2.heap.size := lt_blk hk2
      have HF := Lib.hid (HD.out w2 l[j] (List.getElem_mem hja) (HDL.out.x.trans (Ext.below hb2)))
      have HB2 := Lib.hid hb2
      have HK2 := Lib.hid hk2
      have m0 : w2.cell? ⟨wr.heap.size, 0, none⟩ = some (.string (bs l[j].1)) := (cell_blk hk2).trans rfl
      have m1 : w2.cell? ⟨wr.heap.size, 1, none⟩ = some (.int .i64 (l[j].2.1 : Int)) := (cell_blk hk2).trans rfl
      have m2 : w2.cell? ⟨wr.heap.size, 2, none⟩ = some (.int .i64 l[j].2.2) := (cell_blk hk2).trans rfl
      have HST : Hid (∀ W, Below wr.heap.size wr W → (del l[j] = true → DlS w W g cap l del (j + 1)) ∧ (del l[j] = false → DlS w (((W.setCell ⟨g, i * 3, none⟩ (.string (bs l[j].1))).setCell ⟨g, i * 3 + 1, none⟩ (.int .i64 (l[j].2.1 : Int))).setCell ⟨g, i * 3 + 2, none⟩ (.int .i64 l[j].2.2)) g cap l del (j + 1)) ∧ W.heap[g]? = wr.heap[g]?) := fun W hW => ⟨fun e => HDL.out.skip hW hja e, fun e => HDL.out.keep hW hja e HKI.out hij, hW.block _ hgr⟩
      have HKT : Hid (del l[j] = true → ((l.take (j + 1)).filter fun s => !del s).length = i) := fun e => by rw [keep_skip hja e]; exact HKI.out
      have HKF : Hid (del l[j] = false → ((l.take (j + 1)).filter fun s => !del s).length = i + 1) := fun e => by rw [keep_keep hja e, List.length_append, HKI.out]; rfl
      have HCU : Hid (wr.heap[g]? = some (.cells cur' 48 (0, 0)) ∧ cur'.size = cap * 3) := ⟨hc1, hc2⟩
      clear hcj hb2 hk2 hc1 hc2 hc3 hc4
      generalize del l[j] = dd at *
      generalize l[j].1 = x0 at *
      generalize l[j].2.1 = x1 at *
      generalize l[j].2.2 = x2 at *
      go_upto_region 8 with fail
      rw [← hw2]
      clear hw2 kc0 kc1 kc2
      go_wp2_with fail
      refine HF.out.mono ?_
      rintro e w3 ⟨rfl, h3⟩
      have hb3 := HB2.out.trans (h3.mono HB2.out.size)
      have HS3 := Lib.hid (HST.out w3 hb3)
      have e3 := (h3.block _ hs2).trans HK2.out
      have n0 : w3.cell? ⟨wr.heap.size, 0, none⟩ = some (.string (bs x0)) := (cell_blk e3).trans rfl
      have n1 : w3.cell? ⟨wr.heap.size, 1, none⟩ = some (.int .i64 (x1 : Int)) := (cell_blk e3).trans rfl
      have n2 : w3.cell? ⟨wr.heap.size, 2, none⟩ = some (.int .i64 x2) := (cell_blk e3).trans rfl
      have hs3 : wr.heap.size < w3.heap.size := lt_blk e3
      have g3 := HS3.out.2.2.trans HCU.out.1
      have hg3 : g < w3.heap.size := lt_blk g3
      have hz3 : ∀ o, w3.frozen? ⟨g, o, none⟩ = false := fun o => frozen_blk g3
      obtain ⟨u0, t0⟩ : ∃ u, w3.cell? ⟨g, i * 3, none⟩ = some u := ⟨_, (cell_blk g3).trans (Array.getElem?_eq_getElem (by have := HCU.out.2; omega))⟩
      obtain ⟨u1, t1⟩ : ∃ u, w3.cell? ⟨g, i * 3 + 1, none⟩ = some u := ⟨_, (cell_blk g3).trans (Array.getElem?_eq_getElem (by have := HCU.out.2; omega))⟩
      obtain ⟨u2, t2⟩ : ∃ u, w3.cell? ⟨g, i * 3 + 2, none⟩ = some u := ⟨_, (cell_blk g3).trans (Array.getElem?_eq_getElem (by have := HCU.out.2; omega))⟩
      clear h3 hb3 HF m0 m1 m2 e3 g3
      cases dd with
      | true =>
        have HD3 := Lib.hid (HS3.out.1 rfl)
        have HK3 := Lib.hid (HKT.out rfl)
        go_wp2_with fail
        go_roundg (ln - (j + 1))
        case measure => omega
        case rel => exact ⟨j + 1, by omega, rfl, by go_num, ⟨i, rfl, by omega, HK3⟩, HD3⟩
      | false =>
        have HD3 := Lib.hid (HS3.out.2.1 rfl)
        have HK3 := Lib.hid (HKF.out rfl)
        go_wp2_with fail
        go_roundg (ln - (j + 1))
        case measure => omega
        case rel => exact ⟨j + 1, by omega, rfl, by go_num, ⟨i + 1, by go_num, by omega, HK3⟩, HD3⟩
    · have hlt' : ¬ (j : Int) < (ln : Int) := by omega
      have hjl : j = l.length := by have := HN.out; omega
      have HKL : Hid ((l.filter fun s => !del s).length = i) := by
        have := HKI.out
        rw [hjl, List.take_length] at this
        exact this
      have hil : i < ln := by have := HN.out; omega
      have hin : (i : Int) < (ln : Int) := by omega
      obtain ⟨wC, hclr, hext, hrow⟩ := DlS.clear HDL.out hjl HKL.out (by have := HN.out; omega) hcap HSL.out.m
      have HR := Lib.hid hrow
      have HE := Lib.hid hext
      clear hrow hext hc1 hc2 hc3 hc4 hjl
      go_wp2_with fail
      go_ret
      exact ⟨by rw [HKL.out]; rfl, HR.out, HE.out⟩
end Go.Proofs.YtiolfelekiopdaaGreatDoor
