import Derived.Test.YthkdefhngkangaaDoorKYC
/- What others see of a module: Of's contract; how it is written: Print's. -/
namespace Go.Proofs.YthkdefhngkangaaDoor
open Go.RowKit Go.Sort
open Tp (Sy G Pr)

theorem filt_succ {α β : Type} (p : α → Bool) (f : α → β) (l : List α) (i : Nat) (h : i < l.length) : ((l.take (i + 1)).filter p).map f = ((l.take i).filter p).map f ++ (if p l[i] then [f l[i]] else []) := by
  rw [List.take_succ_eq_append_getElem h, List.filter_append, List.map_append]
  congr 1
  by_cases hp : p l[i] = true
  · simp [hp]
  · simp [hp]
theorem filt_len {α β : Type} (p : α → Bool) (f : α → β) (l : List α) : ((l.filter p).map f).length ≤ l.length := by
  rw [List.length_map]; exact List.length_filter_le _ _
def AllSmall (l : List Sy) : Prop := ∀ s ∈ l, s.2.1 < 100 ∧ s.2.2 < 100 ∧ -1 ≤ s.2.2 ∧ s.1.length ≤ 100
theorem of_post {m : Tp.M} (hgc : m.vars.length ≤ 10) (hpc : m.procs.length ≤ 10) {w : World} {ia ga pa ba : Option Addr} {ic gc pc bc : Nat} (h : MB w w.heap.size m ia ga pa ba ic gc pc bc) :
    Calls Tryd.prog 14 #[.agg (mcells (bs m.name) (.slice ia m.imports.length ic) (.slice ga m.vars.length gc) (.slice pa m.procs.length pc) (.slice ba m.body.length bc))] w fun e w' => ∃ v, e = .returned v ∧ Below w.heap.size w w' ∧ SL w' w.heap.size v (srt (Tp.symsOf m)) := by
  obtain ⟨nm, is, gs, ps, body⟩ := m
  obtain ⟨pcs, p1, p2⟩ := h.pr
  have hgl := h.gl
  simp only at hgl p1 p2 hgc hpc
  obtain ⟨mg, hmg⟩ : ∃ mg : Nat → List Sy, mg = fun i => ((gs.take i).filter (·.seen)).map Tp.syG := ⟨_, rfl⟩
  obtain ⟨mp, hmp⟩ : ∃ mp : Nat → List Sy, mp = fun i => mg gs.length ++ ((ps.take i).filter (·.seen)).map Tp.syP := ⟨_, rfl⟩
  have hlast : mp ps.length = Tp.symsOf ⟨nm, is, gs, ps, body⟩ := by rw [hmp, hmg]; simp [Tp.symsOf]
  have hg0 : mg 0 = [] := by rw [hmg]; simp
  have hp0 : mp 0 = mg gs.length := by rw [hmp]; simp
  have b1 : ∀ i, (mg i).length ≤ 10 := by
    intro i; rw [hmg]; have := filt_len (fun g : G => g.seen) Tp.syG (gs.take i); simp only [List.length_take] at this ⊢; omega
  have b2 : ∀ i, (mp i).length ≤ 20 := by
    intro i; rw [hmp]; have := filt_len (fun p : Pr => p.seen) Tp.syP (ps.take i); have := b1 gs.length; simp only [List.length_take, List.length_append] at *; omega
  rw [← hlast]
  refine of_walk (mg := mg) (mp := mp) (gn := gs.length) (pn := ps.length) hg0 ?_ hp0 ?_ (fun i => by have := b1 i; omega) (fun i => by have := b2 i; omega) (b2 _) (by omega) (by omega)
  · intro i hi
    obtain ⟨g, cap, q1, q2, q3, q4⟩ := row_cell hgl (by omega)
    cases q1
    have hc := fun j (hj : j < 4) => (q4 (i * 4 + j) (by omega)).trans (gcs_get gs i hi j hj)
    refine ⟨g, gs[i].name, gs[i].pos, gs[i].len, gs[i].seen, rfl, q3, hc 0 (by omega), hc 1 (by omega), hc 2 (by omega), hc 3 (by omega), ?_⟩
    rw [hmg]
    exact filt_succ (fun g : G => g.seen) Tp.syG gs i hi
  · intro i hi
    obtain ⟨g, cap, q1, q2, q3, q4⟩ := row_cell p2 (by omega)
    cases q1
    obtain ⟨pv, vv, bv, bcs', r1, r2, r3, r4, r5⟩ := repp_get ps pcs p1 i hi
    have hc := fun j (hj : j < 6) => (q4 (i * 6 + j) (by omega)).trans (r1 j hj)
    obtain ⟨y3, c3, rfl⟩ := r2.shape
    obtain ⟨y4, c4, rfl⟩ := r3.shape
    obtain ⟨y5, c5, rfl⟩ := r5.shape
    refine ⟨g, ps[i].name, ps[i].pos, ps[i].seen, y3, y4, y5, ps[i].params.length, ps[i].vars.length, ps[i].body.length, c3, c4, c5, rfl, q3, hc 0 (by omega), hc 1 (by omega), hc 2 (by omega), hc 3 (by omega), hc 4 (by omega), hc 5 (by omega), ?_⟩
    rw [hmp]
    simp only [List.append_assoc]
    congr 1
    exact filt_succ (fun p : Pr => p.seen) Tp.syP ps i hi
theorem SL.len {w : World} {B : Nat} {v : Value} {l : List Sy} (h : SL w B v l) : ∃ a c, v = .slice a l.length c := by
  rcases h with ⟨rfl, rfl⟩ | ⟨g, cap, rfl, _⟩
  · exact ⟨none, 0, rfl⟩
  · exact ⟨_, _, rfl⟩
theorem SL.cell {w : World} {B : Nat} {a : Option Addr} {n c : Nat} {l : List Sy} (h : SL w B (.slice a n c) l) (i : Nat) (hi : i < l.length) : ∃ g, a = some ⟨g, 0, none⟩ ∧ B ≤ g ∧ g < w.heap.size ∧ ∀ j, j < 3 → w.cell? ⟨g, i * 3 + j, none⟩ = (encSy l[i])[j]? := by
  rcases h with ⟨_, rfl⟩ | ⟨g, cap, q1, q2, q3⟩
  · simp at hi
  · cases q1
    obtain ⟨cur, r1, r2, r3⟩ := q3.b
    refine ⟨g, rfl, q2, lt_blk r1, fun j hj => ?_⟩
    rw [cell_blk r1, ← Array.getElem?_toList, ← sycs_get l i hi j hj, ← r3, List.getElem?_take_of_lt (by omega)]
theorem SL.on {w w' : World} {B : Nat} {v : Value} {l : List Sy} (h : SL w B v l) (k : Below w.heap.size w w') : SL w' B v l := by
  rcases h with q | ⟨g, cap, q1, q2, q3⟩
  · exact Or.inl q
  · obtain ⟨cur, r1, r2, r3⟩ := q3.b
    exact Or.inr ⟨g, cap, q1, q2, ⟨⟨cur, (k.block g (lt_blk r1)).trans r1, r2, r3⟩, q3.n, q3.m⟩⟩
theorem lineOf_len (s : Sy) (h : s.2.1 < 100 ∧ s.2.2 < 100 ∧ -1 ≤ s.2.2 ∧ s.1.length ≤ 100) : (Tp.lineOf s).length ≤ 200 := by
  have hd : ∀ n, n < 100 → (Tp.dec n).length ≤ 2 := by
    intro n hn
    rw [Tp.dec]
    split
    · simp
    · rw [Tp.dec_d (show n / 10 < 10 by omega)]; simp
  unfold Tp.lineOf
  split
  · have := hd s.2.2.toNat (by omega)
    simp [Tp.wordsL, Tp.wProc]; omega
  · split
    · have := hd s.2.1 h.1
      simp [Tp.wordsL, Tp.wArr]; omega
    · simp [Tp.wordsL, Tp.wInt]; omega
theorem prints_len (l : List Sy) (h : AllSmall l) : (Tp.printS l).length ≤ 200 * l.length := by
  induction l with
  | nil => simp [Tp.printS]
  | cons s l ih =>
    have h1 := lineOf_len s (h s (by simp))
    have h2 := ih (fun x hx => h x (by simp [hx]))
    simp only [Tp.printS, List.map_cons, List.flatten_cons, List.length_append, List.length_cons] at h2 ⊢
    omega
set_option maxRecDepth 100000 in
set_option maxHeartbeats 1000000 in
theorem symPrint_post {w : World} {B : Nat} {v : Value} {l : List Sy} (h : SL w B v l) (hs : AllSmall l) (hn : l.length ≤ 1000) :
    Calls Tryd.prog 13 #[v] w fun e w' => e = .returned (.string (bs (Tp.printS l))) ∧ Below w.heap.size w w' := by
  obtain ⟨a, c, rfl⟩ := h.len
  have hn' : (l.length : Int) ≤ 1000 := by omega
  have HSL := Lib.hid h
  have HS := Lib.hid hs
  obtain ⟨n, hnl⟩ : ∃ n, n = l.length := ⟨_, rfl⟩
  rw [← hnl] at hn' ⊢
  have HN := Lib.hid hnl
  clear h hs hnl
  go_enter Tryd.func13, Tryd.ntmps13
  go_wp2_with fail
  go_loopg [3, 8] n (fun k v vi wr => ∃ i : Nat, i ≤ n ∧ k = n - i ∧ vi = .int .i64 (i : Int) ∧ Hid (Buf (fun _ => False) wr w.heap.size v (Tp.printS (l.take i))) ∧ Hid (Bw (fun _ => False) w.heap.size w wr))
  case atStart => exact ⟨0, by omega, by omega, rfl, Buf.nil _ _ (Nat.le_refl _) (fun k hk => hk.elim), Bw.refl _ _⟩
  case round =>
    obtain ⟨i, hid, hk, rfl, HB, HW⟩ := hrel
    by_cases hlt : i < n
    · have hlt' : (i : Int) < (n : Int) := by omega
      have hia : i < l.length := by have := HN.out; omega
      have hsl := HSL.out
      obtain ⟨g, rfl, _, hgl, hcell⟩ := hsl.cell i hia
      have hc := fun j (hj : j < 3) => (HW.out.cell (p := ⟨g, i * 3 + j, none⟩) hgl).trans (hcell j hj)
      have kc0 : wr.cell? ⟨g, i * 3, none⟩ = some (.string (bs l[i].1)) := hc 0 (by omega)
      have kc1 : wr.cell? ⟨g, i * 3 + 1, none⟩ = some (.int .i64 (l[i].2.1 : Int)) := hc 1 (by omega)
      have kc2 : wr.cell? ⟨g, i * 3 + 2, none⟩ = some (.int .i64 l[i].2.2) := hc 2 (by omega)
      have hlgr : g < wr.heap.size := by have := HW.out.size; omega
      have hsm := HS.out l[i] (List.getElem_mem hia)
      have e1 : Tp.printS (l.take (i + 1)) = Tp.printS (l.take i) ++ Tp.lineOf l[i] := by
        unfold Tp.printS
        rw [List.take_succ_eq_append_getElem hia, List.map_append, List.flatten_append]; simp
      have hpl := prints_len (l.take (i + 1)) (fun x hx => HS.out x (List.mem_of_mem_take hx))
      have hlen : (Tp.printS (l.take i) ++ Tp.lineOf l[i]).length ≤ 1000000000 := by rw [← e1]; simp only [List.length_take] at hpl; omega
      obtain ⟨m, hm⟩ : ∃ m, m = Tp.printS (l.take i) := ⟨_, rfl⟩
      have hbuf := HB.out
      rw [← hm] at hbuf hlen
      obtain ⟨a1, c1, hv⟩ := owns_shape hbuf.1
      subst hv
      have hcall := fun ob => addSym_post l[i] hsm.1 hsm.2.1 hsm.2.2.1 (hbuf.below ((Below.refl _ _).alloc (Nat.le_refl _) ob)) hlen
      rw [hm, ← e1] at hcall
      have HC : Hid (∀ ob, Calls Tryd.prog 27 #[.slice a1 m.length c1, .agg #[.string (bs l[i].1), .int .i64 (l[i].2.1 : Int), .int .i64 l[i].2.2]] (wr.alloc ob) (Wrote (fun _ => False) w.heap.size (wr.alloc ob) (Tp.printS (l.take (i + 1))))) := by rw [hm]; exact hcall
      have HAL : Hid (∀ ob, Bw (fun _ => False) w.heap.size w (wr.alloc ob)) := fun ob => HW.out.trans (Bw.of ((Below.refl _ _).alloc (Nat.le_refl _) _) hbuf.2)
      generalize l[i].1 = x0 at *
      generalize l[i].2.1 = x1 at *
      generalize l[i].2.2 = x2 at *
      clear hcall hbuf HB hc hcell hsl hsm e1 hpl hlen hm
      go_wp2_with fail
      refine (HC.out _).mono ?_
      rintro e w3 ⟨v3, rfl, hbuf3, hbel3⟩
      have HB3 := Lib.hid hbuf3
      have HW3 := Lib.hid ((HAL.out _).trans hbel3)
      clear hbuf3 hbel3
      go_wp2_with fail
      go_roundg (n - (i + 1))
      case measure => omega
      case rel => exact ⟨i + 1, by have := HN.out; omega, rfl, by go_num, HB3, HW3⟩
    · have hlt' : ¬ (i : Int) < (n : Int) := by omega
      have e : i = l.length := by have := HN.out; omega
      have hbuf := HB.out
      rw [e, List.take_length] at hbuf
      have hcv := conv_buf hbuf
      obtain ⟨a1, c1, hv⟩ := owns_shape hbuf.1
      subst hv
      have HBB := Lib.hid HW.out.toBelow
      clear hbuf HB HW
      go_wp2_with fail
      go_ret
      exact ⟨rfl, HBB.out⟩
end Go.Proofs.YthkdefhngkangaaDoor
/- Finding a Sym: Find. -/
namespace Go.Proofs.YthkdefhngkangaaDoor
open Go.RowKit Go.Sort
open Tp (Sy)

theorem bs_inj {a b : List UInt8} (h : bs a = bs b) : a = b := by
  have := congrArg (fun x : ByteArray => x.data.toList) h
  simpa [bs] using this
set_option maxRecDepth 100000 in
theorem find1_post (s : Sy) (n : List UInt8) (W : World) (bp : Nat) (hc : W.cell? ⟨bp, 0, none⟩ = some (.string (bs n))) :
    Calls Tryd.prog 58 #[.agg #[.string (bs s.1), .int .i64 (s.2.1 : Int), .int .i64 s.2.2], .pointer (some ⟨bp, 0, none⟩)] W fun e w' => e = .returned (.bool (decide (s.1 = n))) ∧ Below W.heap.size W w' := by
  obtain ⟨nm, x1, x2⟩ := s
  simp only
  have hlt := World.block_lt_of_cell? _ _ hc
  by_cases h : nm = n
  · subst h
    go_enter Tryd.func58, Tryd.ntmps58
    go_wp2_with fail
    go_ret
    exact ⟨by simp, (Below.refl _ _).alloc (Nat.le_refl _) _⟩
  · have hne : ¬ bs nm = bs n := fun e => h (bs_inj e)
    go_enter Tryd.func58, Tryd.ntmps58
    go_wp2_with fail
    go_ret
    exact ⟨by simp [h, bs_toList], (Below.refl _ _).alloc (Nat.le_refl _) _⟩
/- the number of the first that is called so, below 0: none -/
def fidx (l : List Sy) (n : List UInt8) : Int := match l.findIdx? (fun s => s.1 == n) with
  | some i => (i : Int)
  | none => -1
theorem fidx_at {l : List Sy} {n : List UInt8} {i : Nat} (hi : i < l.length) (h : l[i].1 = n) (hb : ∀ k (hk : k < i), l[k].1 ≠ n) : fidx l n = (i : Int) := by
  unfold fidx
  have : l.findIdx? (fun s => s.1 == n) = some i := by
    rw [List.findIdx?_eq_some_iff_getElem]
    exact ⟨hi, by simpa using h, fun j hj => by simpa using hb j hj⟩
  rw [this]
theorem fidx_no {l : List Sy} {n : List UInt8} (hb : ∀ k (hk : k < l.length), l[k].1 ≠ n) : fidx l n = -1 := by
  unfold fidx
  have : l.findIdx? (fun s => s.1 == n) = none := by
    rw [List.findIdx?_eq_none_iff]
    intro x hx
    obtain ⟨k, hk, rfl⟩ := List.getElem_of_mem hx
    simpa using hb k hk
  rw [this]
set_option maxRecDepth 100000 in
set_option maxHeartbeats 1000000 in
theorem index_post {w : World} {B : Nat} {v : Value} {l : List Sy} (h : SL w B v l) (hn : l.length ≤ 1000) (n : List UInt8) (bp : Nat) (hc : w.cell? ⟨bp, 0, none⟩ = some (.string (bs n))) :
    Calls Tryd.prog 57 #[v, .func (.func 58) #[] #[.pointer (some ⟨bp, 0, none⟩)]] w fun e w' => e = .returned (.int .i64 (fidx l n)) ∧ Below w.heap.size w w' := by
  obtain ⟨a, c, rfl⟩ := h.len
  have hn' : (l.length : Int) ≤ 1000 := by omega
  have hltp := World.block_lt_of_cell? _ _ hc
  have HSL := Lib.hid h
  have HC := Lib.hid hc
  obtain ⟨ln, hnl⟩ : ∃ ln, ln = l.length := ⟨_, rfl⟩
  rw [← hnl] at hn' ⊢
  have HN := Lib.hid hnl
  clear h hnl hc
  go_enter Tryd.func57, Tryd.ntmps57
  go_wp2_with fail
  go_loopg [8] ln (fun k vi wr => ∃ i : Nat, i ≤ ln ∧ k = ln - i ∧ vi = .int .i64 (i : Int) ∧ Hid (∀ k (hk : k < l.length), k < i → l[k].1 ≠ n) ∧ Hid (Below w.heap.size w wr))
  case atStart => exact ⟨0, by omega, by omega, rfl, fun k _ hk => by omega, Below.refl _ _⟩
  case round =>
    obtain ⟨i, hid, hk, rfl, HI, HW⟩ := hrel
    by_cases hlt : i < ln
    · have hlt' : (i : Int) < (ln : Int) := by omega
      have hia : i < l.length := by have := HN.out; omega
      obtain ⟨g, rfl, _, hgl, hcell⟩ := HSL.out.cell i hia
      have hc := fun j (hj : j < 3) => (HW.out.cell (p := ⟨g, i * 3 + j, none⟩) hgl).trans (hcell j hj)
      have kc0 : wr.cell? ⟨g, i * 3, none⟩ = some (.string (bs l[i].1)) := hc 0 (by omega)
      have kc1 : wr.cell? ⟨g, i * 3 + 1, none⟩ = some (.int .i64 (l[i].2.1 : Int)) := hc 1 (by omega)
      have kc2 : wr.cell? ⟨g, i * 3 + 2, none⟩ = some (.int .i64 l[i].2.2) := hc 2 (by omega)
      have hlgr : g < wr.heap.size := by have := HW.out.size; omega
      have HF := Lib.hid (find1_post l[i] n wr bp ((HW.out.cell (p := ⟨bp, 0, none⟩) hltp).trans HC.out))
      have HAT : Hid (l[i].1 = n → fidx l n = (i : Int)) := fun e => fidx_at hia e (fun k hk => HI.out k (by omega) hk)
      have HNX : Hid (¬ l[i].1 = n → ∀ k (hk : k < l.length), k < i + 1 → l[k].1 ≠ n) := by
        intro hne k hk hlt
        by_cases e : k = i
        · subst e; exact hne
        · exact HI.out k hk (by omega)
      clear hc hcell
      generalize l[i].1 = x0 at *
      generalize l[i].2.1 = x1 at *
      generalize l[i].2.2 = x2 at *
      go_wp2_with fail
      refine HF.out.mono ?_
      rintro e w3 ⟨rfl, h3⟩
      have HW3 := Lib.hid (HW.out.trans (h3.mono HW.out.size))
      clear h3
      by_cases hx : x0 = n
      · rw [decide_eq_true hx]
        have he := HAT.out hx
        go_wp2_with fail
        go_ret
        exact ⟨by first | rfl | (rw [he]; rfl), HW3.out⟩
      · rw [decide_eq_false hx]
        have HI3 := Lib.hid (HNX.out hx)
        go_wp2_with fail
        go_roundg (ln - (i + 1))
        case measure => omega
        case rel => exact ⟨i + 1, by omega, rfl, by go_num, HI3, HW3⟩
    · have hlt' : ¬ (i : Int) < (ln : Int) := by omega
      have he : fidx l n = -1 := fidx_no (fun k hk => HI.out k hk (by have := HN.out; omega))
      go_wp2_with fail
      go_ret
      exact ⟨by first | rfl | (rw [he]; rfl), HW.out⟩
set_option maxRecDepth 100000 in
theorem find_post {w : World} {B : Nat} {v : Value} {l : List Sy} (h : SL w B v l) (hn : l.length ≤ 1000) (n : List UInt8) :
    Calls Tryd.prog 33 #[v, .string (bs n)] w fun e w' => e = .returned (.int .i64 (fidx l n)) ∧ Below w.heap.size w w' := by
  have hmf : ∀ (fn : Fn) (first cap : Array Value) (w : World), (Instr.makeFunc fn first cap).run Tryd.prog w = .ok (.func fn first cap) w := fun _ _ _ _ => rfl
  have hal : Below w.heap.size w (w.alloc (.cells #[.string (bs n)] 9)) := (Below.refl _ _).alloc (Nat.le_refl _) _
  have HC := Lib.hid (index_post (h.on hal) hn n w.heap.size (cell_blk (new_blk _ _)))
  have HAL := Lib.hid hal
  obtain ⟨a, c, rfl⟩ := h.len
  clear h
  generalize l.length = ln at *
  go_enter Tryd.func33, Tryd.ntmps33
  go_wp2_with fail
  refine HC.out.mono ?_
  rintro e w1 ⟨rfl, h1⟩
  have H1 := Lib.hid (HAL.out.trans (h1.mono (by simp)))
  clear h1
  go_wp2_with fail
  go_ret
  exact ⟨rfl, H1.out⟩
end Go.Proofs.YthkdefhngkangaaDoor
/- What is needed: Needs; a text's sum: Sum. -/
namespace Go.Proofs.YthkdefhngkangaaDoor
open Go.RowKit Go.Sort
open Tp (Sy)

/- texts that a slice holds -/
structure StrsAt (w : World) (ns : List (List UInt8)) (a : Option Addr) : Prop where
  c : ∀ i (h : i < ns.length), ∃ b o, a = some ⟨b, o, none⟩ ∧ b < w.heap.size ∧ w.cell? ⟨b, o + i, none⟩ = some (.string (bs ns[i]))
theorem StrsAt.on {w w' : World} {ns : List (List UInt8)} {a : Option Addr} (h : StrsAt w ns a) (k : Below w.heap.size w w') : StrsAt w' ns a :=
  ⟨fun i hi => by obtain ⟨b, o, h1, h2, h3⟩ := h.c i hi; exact ⟨b, o, h1, Nat.lt_of_lt_of_le h2 k.size, (k.cell (p := ⟨b, o + i, none⟩) h2).trans h3⟩⟩
theorem need_at (l : List Sy) (n : List UInt8) : (∃ (k : Nat) (hk : k < l.length), fidx l n = (k : Int) ∧ Tp.needS l n = Tp.lineOf l[k]) ∨ fidx l n = -1 ∧ Tp.needS l n = Tp.wordsL [110, 111, 110, 101] [n] := by
  unfold fidx Tp.needS Tp.findS
  cases h : l.findIdx? (fun s => s.1 == n) with
  | some k =>
    left
    have h' := h
    rw [List.findIdx?_eq_some_iff_getElem] at h'
    obtain ⟨hk, h1, h2⟩ := h'
    refine ⟨k, hk, rfl, ?_⟩
    have : l.find? (fun s => s.1 == n) = some l[k] := by
      rw [List.find?_eq_some_iff_getElem]
      exact ⟨by simpa using h1, k, hk, rfl, fun j hj => by simpa using h2 j hj⟩
    rw [this]
  | none =>
    right
    have : l.find? (fun s => s.1 == n) = none := by
      rw [List.find?_eq_none]
      rw [List.findIdx?_eq_none_iff] at h
      intro x hx
      simpa using h x hx
    rw [this]
    exact ⟨rfl, rfl⟩
theorem need_len (l : List Sy) (n : List UInt8) (h : AllSmall l) (hn : n.length ≤ 100) : (Tp.needS l n).length ≤ 200 := by
  rcases need_at l n with ⟨k, hk, _, e⟩ | ⟨_, e⟩
  · rw [e]; exact lineOf_len _ (h _ (List.getElem_mem hk))
  · rw [e]; simp [Tp.wordsL]; omega
theorem needs_len (l : List Sy) (ns : List (List UInt8)) (h : AllSmall l) (hn : ∀ n ∈ ns, n.length ≤ 100) : (Tp.needsS l ns).length ≤ 200 * ns.length := by
  induction ns with
  | nil => simp [Tp.needsS]
  | cons n ns ih =>
    have h1 := need_len l n h (hn n (by simp))
    have h2 := ih (fun x hx => hn x (by simp [hx]))
    simp only [Tp.needsS, List.map_cons, List.flatten_cons, List.length_append, List.length_cons] at h2 ⊢
    omega
set_option maxRecDepth 100000 in
set_option maxHeartbeats 2000000 in
theorem needs_post {w : World} {B : Nat} {v : Value} {l : List Sy} (h : SL w B v l) (hs : AllSmall l) (hn : l.length ≤ 1000) {ns : List (List UInt8)} {na : Option Addr} {nc : Nat} (hns : StrsAt w ns na) (hnl : ∀ n ∈ ns, n.length ≤ 100) (hnn : ns.length ≤ 1000) :
    Calls Tryd.prog 19 #[v, .slice na ns.length nc] w fun e w' => e = .returned (.string (bs (Tp.needsS l ns))) ∧ Below w.heap.size w w' := by
  obtain ⟨a, c, rfl⟩ := h.len
  have hnn' : (ns.length : Int) ≤ 1000 := by omega
  have hln' : (l.length : Int) ≤ 1000 := by omega
  have HSL := Lib.hid h
  have HS := Lib.hid hs
  have HNS := Lib.hid hns
  have HNL := Lib.hid hnl
  have HF : Hid (∀ W, Below w.heap.size w W → ∀ n, Calls Tryd.prog 33 #[.slice a l.length c, .string (bs n)] W fun e w' => e = .returned (.int .i64 (fidx l n)) ∧ Below W.heap.size W w') := fun W hW n => find_post (h.on hW) hn n
  obtain ⟨nn, hnq⟩ : ∃ nn, nn = ns.length := ⟨_, rfl⟩
  rw [← hnq] at hnn' ⊢
  have HNQ := Lib.hid hnq
  obtain ⟨ln, hlq⟩ : ∃ ln, ln = l.length := ⟨_, rfl⟩
  rw [← hlq] at hln' HF ⊢
  have HLQ := Lib.hid hlq
  clear h hs hns hnl hnq hlq
  go_enter Tryd.func19, Tryd.ntmps19
  go_wp2_with fail
  go_loopg [5, 11] nn (fun k v vi wr => ∃ i : Nat, i ≤ nn ∧ k = nn - i ∧ vi = .int .i64 (i : Int) ∧ Hid (Buf (fun _ => False) wr w.heap.size v (Tp.needsS l (ns.take i))) ∧ Hid (Bw (fun _ => False) w.heap.size w wr))
  case atStart => exact ⟨0, by omega, by omega, rfl, Buf.nil _ _ (Nat.le_refl _) (fun k hk => hk.elim), Bw.refl _ _⟩
  case round =>
    obtain ⟨i, hid, hk, rfl, HB, HW⟩ := hrel
    by_cases hlt : i < nn
    · have hlt' : (i : Int) < (nn : Int) := by omega
      have hia : i < ns.length := by have := HNQ.out; omega
      obtain ⟨b, o, rfl, hbl, hcell⟩ := HNS.out.c i hia
      have kc : wr.cell? ⟨b, o + i, none⟩ = some (.string (bs ns[i])) := (HW.out.cell (p := ⟨b, o + i, none⟩) hbl).trans hcell
      have hlgr : b < wr.heap.size := by have := HW.out.size; omega
      have e1 : Tp.needsS l (ns.take (i + 1)) = Tp.needsS l (ns.take i) ++ Tp.needS l ns[i] := by
        unfold Tp.needsS
        rw [List.take_succ_eq_append_getElem hia, List.map_append, List.flatten_append]; simp
      have hpl := needs_len l (ns.take (i + 1)) HS.out (fun x hx => HNL.out x (List.mem_of_mem_take hx))
      have hlen : (Tp.needsS l (ns.take i) ++ Tp.needS l ns[i]).length ≤ 1000000000 := by rw [← e1]; simp only [List.length_take] at hpl; omega
      obtain ⟨m, hm⟩ : ∃ m, m = Tp.needsS l (ns.take i) := ⟨_, rfl⟩
      obtain ⟨m2, hm2⟩ : ∃ m2, m2 = Tp.needsS l (ns.take (i + 1)) := ⟨_, rfl⟩
      have hbuf := HB.out
      rw [← hm] at hbuf hlen e1
      rw [← hm2] at e1
      obtain ⟨a1, c1, hv⟩ := owns_shape hbuf.1
      subst hv
      have HFI := Lib.hid (HF.out wr HW.out.toBelow ns[i])
      have HBF := Lib.hid hbuf
      have HM2 := Lib.hid hm2
      have HE1 := Lib.hid e1
      have HLN := Lib.hid hlen
      clear hbuf HB hcell hpl hm hm2 e1 hlen
      generalize ns[i] = nm at *
      go_wp2_with fail
      refine HFI.out.mono ?_
      rintro e w3 ⟨rfl, h3⟩
      have HB3 := Lib.hid (HBF.out.below h3)
      have HW3 := Lib.hid (HW.out.trans (Bw.of h3 HBF.out.2))
      clear h3 kc
      rcases need_at l nm with ⟨k, hkl, hfi, hne⟩ | ⟨hfi, hne⟩
      · obtain ⟨g, hag, _, hgl, hc3⟩ := HSL.out.cell k hkl
        subst hag
        have hc := fun j (hj : j < 3) => (HW3.out.cell (p := ⟨g, k * 3 + j, none⟩) hgl).trans (hc3 j hj)
        have kc0 : w3.cell? ⟨g, k * 3, none⟩ = some (.string (bs l[k].1)) := hc 0 (by omega)
        have kc1 : w3.cell? ⟨g, k * 3 + 1, none⟩ = some (.int .i64 (l[k].2.1 : Int)) := hc 1 (by omega)
        have kc2 : w3.cell? ⟨g, k * 3 + 2, none⟩ = some (.int .i64 l[k].2.2) := hc 2 (by omega)
        have hlg3 : g < w3.heap.size := by have := HW3.out.size; omega
        have hsm := HS.out l[k] (List.getElem_mem hkl)
        have hkl' : (k : Int) < (ln : Int) := by have := HLQ.out; omega
        have hcall := addSym_post l[k] hsm.1 hsm.2.1 hsm.2.2.1 HB3.out (by rw [← hne]; exact HLN.out)
        rw [← hne, ← HE1.out] at hcall
        have HC : Hid (Calls Tryd.prog 27 #[.slice a1 m.length c1, .agg #[.string (bs l[k].1), .int .i64 (l[k].2.1 : Int), .int .i64 l[k].2.2]] w3 (Wrote (fun _ => False) w.heap.size w3 m2)) := hcall
        clear hcall hne hc hc3 hsm
        generalize l[k].1 = x0 at *
        generalize l[k].2.1 = x1 at *
        generalize l[k].2.2 = x2 at *
        rw [hfi]
        go_wp2_with fail
        refine HC.out.mono ?_
        rintro e w4 ⟨v4, rfl, hb4, hw4⟩
        have HB4 : Hid (Buf (fun _ => False) w4 w.heap.size v4 (Tp.needsS l (ns.take (i + 1)))) := by rw [← HM2.out]; exact hb4
        have HW4 := Lib.hid (HW3.out.trans hw4)
        clear hb4 hw4
        go_wp2_with fail
        go_roundg (nn - (i + 1))
        case measure => omega
        case rel => exact ⟨i + 1, by omega, rfl, by go_num, HB4, HW4⟩
      · have hcall := addLine_post (HB3.out.below ((Below.refl _ _).alloc (Nat.le_refl _) (.cells #[.string (bs nm)] 9))) [110, 111, 110, 101] [nm] w3.heap.size 1 (new_blk _ _) (by simp) (by rw [← hne]; exact HLN.out)
        rw [← hne, ← HE1.out] at hcall
        have HC : Hid (Calls Tryd.prog 34 #[.slice a1 m.length c1, .string ⟨#[110, 111, 110, 101]⟩, .slice (some ⟨w3.heap.size, 0, none⟩) 1 1] (w3.alloc (.cells #[.string (bs nm)] 9)) (Wrote (fun _ => False) w.heap.size (w3.alloc (.cells #[.string (bs nm)] 9)) m2)) := hcall
        have HWA := Lib.hid (HW3.out.trans (Bw.of ((Below.refl _ _).alloc (Nat.le_refl _) (.cells #[.string (bs nm)] 9)) HB3.out.2))
        clear hcall hne
        rw [hfi]
        go_wp2_with fail
        refine HC.out.mono ?_
        rintro e w4 ⟨v4, rfl, hb4, hw4⟩
        have HB4 : Hid (Buf (fun _ => False) w4 w.heap.size v4 (Tp.needsS l (ns.take (i + 1)))) := by rw [← HM2.out]; exact hb4
        have HW4 := Lib.hid (HWA.out.trans hw4)
        clear hb4 hw4
        go_wp2_with fail
        go_roundg (nn - (i + 1))
        case measure => omega
        case rel => exact ⟨i + 1, by omega, rfl, by go_num, HB4, HW4⟩
    · have hlt' : ¬ (i : Int) < (nn : Int) := by omega
      have e : i = ns.length := by have := HNQ.out; omega
      have hbuf := HB.out
      rw [e, List.take_length] at hbuf
      have hcv := conv_buf hbuf
      obtain ⟨a1, c1, hv⟩ := owns_shape hbuf.1
      subst hv
      have HBB := Lib.hid HW.out.toBelow
      clear hbuf HB HW
      go_wp2_with fail
      go_ret
      exact ⟨rfl, HBB.out⟩
end Go.Proofs.YthkdefhngkangaaDoor
