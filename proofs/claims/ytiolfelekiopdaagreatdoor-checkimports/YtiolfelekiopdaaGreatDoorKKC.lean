import Derived.Test.YtiolfelekiopdaaGreatDoorKKB
/- What others see of a module: Of's contract; how it is written: Print's. -/
namespace Go.Proofs.YtiolfelekiopdaaGreatDoor
open Go.RowKit Go.Sort
open Tp (Sy G Pr)

theorem filt_succ {α β : Type} (p : α → Bool) (f : α → β) (l : List α) (i : Nat) (h : i < l.length) : ((l.take (i + 1)).filter p).map f = ((l.take i).filter p).map f ++ (if p l[i] then [f l[i]] else []) := by
  rw [List.take_succ_eq_append_getElem h, List.filter_append, List.map_append]
  congr 1
  by_cases hp : p l[i] = true
  · simp [hp]
  · simp [hp]
theorem filt_len {α β : Type} (p : α → Bool) (f : α → β) (l : List α) : ((l.filter p).map f).length ≤ l.length := by
  rw [List.length_map]; exact List.length_filter_le _ _
def AllSmall (l : List Sy) : Prop := ∀ s ∈ l, s.2.1 < 100 ∧ s.2.2 < 100 ∧ -1 ≤ s.2.2 ∧ s.1.length ≤ 100
theorem of_post {m : Tp.M} (hgc : m.vars.length ≤ 10) (hpc : m.procs.length ≤ 10) {w : World} {ia ga pa ba : Option Addr} {ic gc pc bc : Nat} (h : MB w w.heap.size m ia ga pa ba ic gc pc bc) :
    Calls Tryz.prog 28 #[.agg (mcells (bs m.name) (.slice ia m.imports.length ic) (.slice ga m.vars.length gc) (.slice pa m.procs.length pc) (.slice ba m.body.length bc))] w fun e w' => ∃ v, e = .returned v ∧ Below w.heap.size w w' ∧ SL w' w.heap.size v (srt (Tp.symsOf m)) := by
  obtain ⟨nm, is, gs, ps, body⟩ := m
  obtain ⟨pcs, p1, p2⟩ := h.pr
  have hgl := h.gl
  simp only at hgl p1 p2 hgc hpc
  obtain ⟨mg, hmg⟩ : ∃ mg : Nat → List Sy, mg = fun i => ((gs.take i).filter (·.seen)).map Tp.syG := ⟨_, rfl⟩
  obtain ⟨mp, hmp⟩ : ∃ mp : Nat → List Sy, mp = fun i => mg gs.length ++ ((ps.take i).filter (·.seen)).map Tp.syP := ⟨_, rfl⟩
  have hlast : mp ps.length = Tp.symsOf ⟨nm, is, gs, ps, body⟩ := by rw [hmp, hmg]; simp [Tp.symsOf]
  have hg0 : mg 0 = [] := by rw [hmg]; simp
  have hp0 : mp 0 = mg gs.length := by rw [hmp]; simp
  have b1 : ∀ i, (mg i).length ≤ 10 := by
    intro i; rw [hmg]; have := filt_len (fun g : G => g.seen) Tp.syG (gs.take i); simp only [List.length_take] at this ⊢; omega
  have b2 : ∀ i, (mp i).length ≤ 20 := by
    intro i; rw [hmp]; have := filt_len (fun p : Pr => p.seen) Tp.syP (ps.take i); have := b1 gs.length; simp only [List.length_take, List.length_append] at *; omega
  rw [← hlast]
  refine of_walk (mg := mg) (mp := mp) (gn := gs.length) (pn := ps.length) hg0 ?_ hp0 ?_ (fun i => by have := b1 i; omega) (fun i => by have := b2 i; omega) (b2 _) (by omega) (by omega)
  · intro i hi
    obtain ⟨g, cap, q1, q2, q3, q4⟩ := row_cell hgl (by omega)
    cases q1
    have hc := fun j (hj : j < 4) => (q4 (i * 4 + j) (by omega)).trans (gcs_get gs i hi j hj)
    refine ⟨g, gs[i].name, gs[i].pos, gs[i].len, gs[i].seen, rfl, q3, hc 0 (by omega), hc 1 (by omega), hc 2 (by omega), hc 3 (by omega), ?_⟩
    rw [hmg]
    exact filt_succ (fun g : G => g.seen) Tp.syG gs i hi
  · intro i hi
    obtain ⟨g, cap, q1, q2, q3, q4⟩ := row_cell p2 (by omega)
    cases q1
    obtain ⟨pv, vv, bv, bcs', r1, r2, r3, r4, r5⟩ := repp_get ps pcs p1 i hi
    have hc := fun j (hj : j < 6) => (q4 (i * 6 + j) (by omega)).trans (r1 j hj)
    obtain ⟨y3, c3, rfl⟩ := r2.shape
    obtain ⟨y4, c4, rfl⟩ := r3.shape
    obtain ⟨y5, c5, rfl⟩ := r5.shape
    refine ⟨g, ps[i].name, ps[i].pos, ps[i].seen, y3, y4, y5, ps[i].params.length, ps[i].vars.length, ps[i].body.length, c3, c4, c5, rfl, q3, hc 0 (by omega), hc 1 (by omega), hc 2 (by omega), hc 3 (by omega), hc 4 (by omega), hc 5 (by omega), ?_⟩
    rw [hmp]
    simp only [List.append_assoc]
    congr 1
    exact filt_succ (fun p : Pr => p.seen) Tp.syP ps i hi
theorem SL.len {w : World} {B : Nat} {v : Value} {l : List Sy} (h : SL w B v l) : ∃ a c, v = .slice a l.length c := by
  rcases h with ⟨rfl, rfl⟩ | ⟨g, cap, rfl, _⟩
  · exact ⟨none, 0, rfl⟩
  · exact ⟨_, _, rfl⟩
theorem SL.cell {w : World} {B : Nat} {a : Option Addr} {n c : Nat} {l : List Sy} (h : SL w B (.slice a n c) l) (i : Nat) (hi : i < l.length) : ∃ g, a = some ⟨g, 0, none⟩ ∧ B ≤ g ∧ g < w.heap.size ∧ ∀ j, j < 3 → w.cell? ⟨g, i * 3 + j, none⟩ = (encSy l[i])[j]? := by
  rcases h with ⟨_, rfl⟩ | ⟨g, cap, q1, q2, q3⟩
  · simp at hi
  · cases q1
    obtain ⟨cur, r1, r2, r3⟩ := q3.b
    refine ⟨g, rfl, q2, lt_blk r1, fun j hj => ?_⟩
    rw [cell_blk r1, ← Array.getElem?_toList, ← sycs_get l i hi j hj, ← r3, List.getElem?_take_of_lt (by omega)]
theorem SL.on {w w' : World} {B : Nat} {v : Value} {l : List Sy} (h : SL w B v l) (k : Below w.heap.size w w') : SL w' B v l := by
  rcases h with q | ⟨g, cap, q1, q2, q3⟩
  · exact Or.inl q
  · obtain ⟨cur, r1, r2, r3⟩ := q3.b
    exact Or.inr ⟨g, cap, q1, q2, ⟨⟨cur, (k.block g (lt_blk r1)).trans r1, r2, r3⟩, q3.n, q3.m⟩⟩
end Go.Proofs.YtiolfelekiopdaaGreatDoor
/- Finding a Sym: Find. -/
namespace Go.Proofs.YtiolfelekiopdaaGreatDoor
open Go.RowKit Go.Sort
open Tp (Sy)

theorem bs_inj {a b : List UInt8} (h : bs a = bs b) : a = b := by
  have := congrArg (fun x : ByteArray => x.data.toList) h
  simpa [bs] using this
set_option maxRecDepth 100000 in
theorem find1_post (s : Sy) (n : List UInt8) (W : World) (bp : Nat) (hc : W.cell? ⟨bp, 0, none⟩ = some (.string (bs n))) :
    Calls Tryz.prog 110 #[.agg #[.string (bs s.1), .int .i64 (s.2.1 : Int), .int .i64 s.2.2], .pointer (some ⟨bp, 0, none⟩)] W fun e w' => e = .returned (.bool (decide (s.1 = n))) ∧ Below W.heap.size W w' := by
  obtain ⟨nm, x1, x2⟩ := s
  simp only
  have hlt := World.block_lt_of_cell? _ _ hc
  by_cases h : nm = n
  · subst h
    go_enter Tryz.func110, Tryz.ntmps110
    go_wp2_with fail
    go_ret
    exact ⟨by simp, (Below.refl _ _).alloc (Nat.le_refl _) _⟩
  · have hne : ¬ bs nm = bs n := fun e => h (bs_inj e)
    go_enter Tryz.func110, Tryz.ntmps110
    go_wp2_with fail
    go_ret
    exact ⟨by simp [h, bs_toList], (Below.refl _ _).alloc (Nat.le_refl _) _⟩
/- the number of the first that is called so, below 0: none -/
def fidx (l : List Sy) (n : List UInt8) : Int := match l.findIdx? (fun s => s.1 == n) with
  | some i => (i : Int)
  | none => -1
theorem fidx_at {l : List Sy} {n : List UInt8} {i : Nat} (hi : i < l.length) (h : l[i].1 = n) (hb : ∀ k (hk : k < i), l[k].1 ≠ n) : fidx l n = (i : Int) := by
  unfold fidx
  have : l.findIdx? (fun s => s.1 == n) = some i := by
    rw [List.findIdx?_eq_some_iff_getElem]
    exact ⟨hi, by simpa using h, fun j hj => by simpa using hb j hj⟩
  rw [this]
theorem fidx_no {l : List Sy} {n : List UInt8} (hb : ∀ k (hk : k < l.length), l[k].1 ≠ n) : fidx l n = -1 := by
  unfold fidx
  have : l.findIdx? (fun s => s.1 == n) = none := by
    rw [List.findIdx?_eq_none_iff]
    intro x hx
    obtain ⟨k, hk, rfl⟩ := List.getElem_of_mem hx
    simpa using hb k hk
  rw [this]
set_option maxRecDepth 100000 in
set_option maxHeartbeats 1000000 in
theorem index_post {w : World} {B : Nat} {v : Value} {l : List Sy} (h : SL w B v l) (hn : l.length ≤ 1000) (n : List UInt8) (bp : Nat) (hc : w.cell? ⟨bp, 0, none⟩ = some (.string (bs n))) :
    Calls Tryz.prog 41 #[v, .func (.func 110) #[] #[.pointer (some ⟨bp, 0, none⟩)]] w fun e w' => e = .returned (.int .i64 (fidx l n)) ∧ Below w.heap.size w w' := by
  obtain ⟨a, c, rfl⟩ := h.len
  have hn' : (l.length : Int) ≤ 1000 := by omega
  have hltp := World.block_lt_of_cell? _ _ hc
  have HSL := Lib.hid h
  have HC := Lib.hid hc
  obtain ⟨ln, hnl⟩ : ∃ ln, ln = l.length := ⟨_, rfl⟩
  rw [← hnl] at hn' ⊢
  have HN := Lib.hid hnl
  clear h hnl hc
  go_enter Tryz.func41, Tryz.ntmps41
  go_wp2_with fail
  go_loopg [8] ln (fun k vi wr => ∃ i : Nat, i ≤ ln ∧ k = ln - i ∧ vi = .int .i64 (i : Int) ∧ Hid (∀ k (hk : k < l.length), k < i → l[k].1 ≠ n) ∧ Hid (Below w.heap.size w wr))
  case atStart => exact ⟨0, by omega, by omega, rfl, fun k _ hk => by omega, Below.refl _ _⟩
  case round =>
    obtain ⟨i, hid, hk, rfl, HI, HW⟩ := hrel
    by_cases hlt : i < ln
    · have hlt' : (i : Int) < (ln : Int) := by omega
      have hia : i < l.length := by have := HN.out; omega
      obtain ⟨g, rfl, _, hgl, hcell⟩ := HSL.out.cell i hia
      have hc := fun j (hj : j < 3) => (HW.out.cell (p := ⟨g, i * 3 + j, none⟩) hgl).trans (hcell j hj)
      have kc0 : wr.cell? ⟨g, i * 3, none⟩ = some (.string (bs l[i].1)) := hc 0 (by omega)
      have kc1 : wr.cell? ⟨g, i * 3 + 1, none⟩ = some (.int .i64 (l[i].2.1 : Int)) := hc 1 (by omega)
      have kc2 : wr.cell? ⟨g, i * 3 + 2, none⟩ = some (.int .i64 l[i].2.2) := hc 2 (by omega)
      have hlgr : g < wr.heap.size := by have := HW.out.size; omega
      have HF := Lib.hid (find1_post l[i] n wr bp ((HW.out.cell (p := ⟨bp, 0, none⟩) hltp).trans HC.out))
      have HAT : Hid (l[i].1 = n → fidx l n = (i : Int)) := fun e => fidx_at hia e (fun k hk => HI.out k (by omega) hk)
      have HNX : Hid (¬ l[i].1 = n → ∀ k (hk : k < l.length), k < i + 1 → l[k].1 ≠ n) := by
        intro hne k hk hlt
        by_cases e : k = i
        · subst e; exact hne
        · exact HI.out k hk (by omega)
      clear hc hcell
      generalize l[i].1 = x0 at *
      generalize l[i].2.1 = x1 at *
      generalize l[i].2.2 = x2 at *
      go_wp2_with fail
      refine HF.out.mono ?_
      rintro e w3 ⟨rfl, h3⟩
      have HW3 := Lib.hid (HW.out.trans (h3.mono HW.out.size))
      clear h3
      by_cases hx : x0 = n
      · rw [decide_eq_true hx]
        have he := HAT.out hx
        go_wp2_with fail
        go_ret
        exact ⟨by first | rfl | (rw [he]; rfl), HW3.out⟩
      · rw [decide_eq_false hx]
        have HI3 := Lib.hid (HNX.out hx)
        go_wp2_with fail
        go_roundg (ln - (i + 1))
        case measure => omega
        case rel => exact ⟨i + 1, by omega, rfl, by go_num, HI3, HW3⟩
    · have hlt' : ¬ (i : Int) < (ln : Int) := by omega
      have he : fidx l n = -1 := fidx_no (fun k hk => HI.out k hk (by have := HN.out; omega))
      go_wp2_with fail
      go_ret
      exact ⟨by first | rfl | (rw [he]; rfl), HW.out⟩
set_option maxRecDepth 100000 in
theorem find_post {w : World} {B : Nat} {v : Value} {l : List Sy} (h : SL w B v l) (hn : l.length ≤ 1000) (n : List UInt8) :
    Calls Tryz.prog 85 #[v, .string (bs n)] w fun e w' => e = .returned (.int .i64 (fidx l n)) ∧ Below w.heap.size w w' := by
  have hmf : ∀ (fn : Fn) (first cap : Array Value) (w : World), (Instr.makeFunc fn first cap).run Tryz.prog w = .ok (.func fn first cap) w := fun _ _ _ _ => rfl
  have hal : Below w.heap.size w (w.alloc (.cells #[.string (bs n)] 9)) := (Below.refl _ _).alloc (Nat.le_refl _) _
  have HC := Lib.hid (index_post (h.on hal) hn n w.heap.size (cell_blk (new_blk _ _)))
  have HAL := Lib.hid hal
  obtain ⟨a, c, rfl⟩ := h.len
  clear h
  generalize l.length = ln at *
  go_enter Tryz.func85, Tryz.ntmps85
  go_wp2_with fail
  refine HC.out.mono ?_
  rintro e w1 ⟨rfl, h1⟩
  have H1 := Lib.hid (HAL.out.trans (h1.mono (by simp)))
  clear h1
  go_wp2_with fail
  go_ret
  exact ⟨rfl, H1.out⟩
end Go.Proofs.YtiolfelekiopdaaGreatDoor
