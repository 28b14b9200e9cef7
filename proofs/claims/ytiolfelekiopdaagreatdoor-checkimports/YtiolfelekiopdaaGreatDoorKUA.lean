import Derived.Test.YtiolfelekiopdaaGreatDoorKPC
import Derived.Test.YtiolfelekiopdaaGreatDoorKMH
import Derived.Deep.RegionLawGrows
/- How much a module may use, at most; what is used, as it is shown. No program stands in it. -/
namespace Tp
theorem rx_count : ∀ (n : Nat) (l : List X), SizeOf.sizeOf l ≤ n → WX l → (rx l).length ≤ NX l := by
  intro n
  induction n with
  | zero => intro l hl; cases l <;> simp at hl <;> omega
  | succ n ih =>
    intro l hl h
    cases l with
    | nil => simp [rx]
    | cons x xs =>
      obtain ⟨code, pos, nn, m, nm, op, le, ri, ar⟩ := x
      rw [WX] at h
      simp at hl
      obtain ⟨h1, h2⟩ := h
      have hxs := ih xs (by omega) h2
      rw [rx, NX]
      simp only [List.length_append]
      have hr : 1 ≤ rN m := by unfold rN; split <;> omega
      have nil : (rx []).length = 0 := by simp [rx]
      rcases h1 with ⟨c, _, _, _, _, h5, h6, h7⟩ | ⟨c, _, h3, _, h5, h6, h7⟩ | ⟨c, _, h3, _, h5, _, h6, h7⟩ | ⟨c, _, _, _, _, h5, _, h6, h7⟩ | ⟨c, _, _, _, _, h5, _, h6, _, h7⟩ | ⟨c, _, h3, _, h5, h6, h7⟩
      · subst c; rw [h5, h6, h7]; simp [rx]; omega
      · subst c; rw [h5, h6, h7]; simp [rx]; omega
      · subst c; have := ih le (by omega) h5; rw [h6, h7]; simp [rx]; omega
      · subst c; have := ih le (by omega) h5; rw [h6, h7]; simp [rx]; omega
      · subst c; have := ih le (by omega) h5; have := ih ri (by omega) h6; rw [h7]; simp [rx]; omega
      · subst c; have := ih ar (by omega) h7; rw [h5, h6]; simp [rx]; omega
theorem rs_count : ∀ (n : Nat) (l : List S), SizeOf.sizeOf l ≤ n → WS l → (rs l).length ≤ NS l := by
  intro n
  induction n with
  | zero => intro l hl; cases l <;> simp at hl <;> omega
  | succ n ih =>
    intro l hl h
    cases l with
    | nil => simp [rs]
    | cons x xs =>
      obtain ⟨code, pos, nm, ix, vl, th, el⟩ := x
      rw [WS] at h
      simp at hl
      obtain ⟨h1, h2⟩ := h
      have hxs := ih xs (by omega) h2
      rw [rs, NS]
      simp only [List.length_append]
      have wv : ev vl → (rx vl).length ≤ NX vl := fun q => rx_count _ _ (Nat.le_refl _) q.1
      rcases h1 with ⟨c, h3, h4, h5, h6, h7⟩ | ⟨c, _, h4, h5, h6, h7⟩ | ⟨c, _, h4, h5, h6, h7⟩ | ⟨c, _, h4, h5, h6, h7⟩ | ⟨c, _, h4, h5, _, h6, h7⟩
      · subst c
        have := wv h5
        rw [h6, h7]
        rcases h4 with q | q
        · rw [q]; simp [rx, rs]; omega
        · have hx := rx_count _ _ (Nat.le_refl _) q.1
          have hne : ix.isEmpty = false := by
            cases ix with
            | nil => simp at q
            | cons a t => rfl
          simp [rs, hne]; omega
      · subst c
        have := wv h5; have := ih th (by omega) h6; have := ih el (by omega) h7
        rw [h4]
        cases el with
        | nil => simp [rx, rs]; simp [rs] at *; omega
        | cons a t => simp [rx]; omega
      · subst c
        have := wv h5; have := ih th (by omega) h6
        rw [h4, h7]; simp [rx, rs]; omega
      · have := wv h5
        rw [h4, h6, h7]
        rcases c with c | c <;> subst c <;> simp [rx, rs] <;> omega
      · subst c
        have := wv h5
        rw [h4, h6, h7]; simp [rx, rs]; omega
theorem allR_count {m : M} (h : WM m) : (allR m).length ≤ nM m := by
  unfold allR nM
  have hb := rs_count _ _ (Nat.le_refl _) h.b
  have hp : ∀ (l : List Pr), (∀ p ∈ l, WP p) → ((l.map fun p => rs p.body).flatten).length ≤ (l.map nP).sum := by
    intro l
    induction l with
    | nil => intro _; simp
    | cons p t ih =>
      intro hl
      have h1 := rs_count _ _ (Nat.le_refl _) (hl p (by simp)).b
      have h2 := ih (fun q hq => hl q (by simp [hq]))
      simp only [List.map_cons, List.flatten_cons, List.length_append, List.sum_cons]
      have : NS p.body ≤ nP p := by unfold nP; omega
      omega
  have := hp m.procs h.p
  rw [List.length_append]
  omega
/- names that are used of another one -/
def us (of : Bs) (l : List R) : List Bs := (l.filter fun r => r.mod == of).map (·.name)
theorem us_app (of : Bs) (l m : List R) : us of (l ++ m) = us of l ++ us of m := by simp [us]
theorem us_len (of : Bs) (l : List R) : (us of l).length ≤ l.length := by unfold us; rw [List.length_map]; exact List.length_filter_le _ _
theorem us_used {m : M} {of : Bs} (h : of ≠ []) : us of (allR m) = usedR m of := by
  unfold us usedR
  have : (of == []) = false := by simpa using h
  simp [this]
end Tp
/- sym: names that are used: isRef, what Used shows. -/
namespace Go.Proofs.YtiolfelekiopdaaGreatDoor
open Go.RowKit Go.Maps
open Tp (Bs X S)

set_option maxRecDepth 100000 in
set_option maxHeartbeats 400000 in
theorem isRef_post {w : World} {x code : Nat} (h : w.cell? ⟨x, 0, none⟩ = some (.int .i64 (code : Int))) : Calls Tryz.prog 38 #[.pointer (some ⟨x, 0, none⟩)] w fun e w' => e = .returned (.bool (decide (code = 2 ∨ code = 3 ∨ code = 6))) ∧ w' = w := by
  have hx := lt_of_cell h
  rcases (show code = 2 ∨ code = 3 ∨ code = 6 ∨ ¬ (code = 2 ∨ code = 3 ∨ code = 6) by omega) with hcd | hcd | hcd | hcd
  · subst hcd
    go_enter Tryz.func38, Tryz.ntmps38
    go_wp2_with fail
    go_ret
    exact ⟨rfl, rfl⟩
  · subst hcd
    go_enter Tryz.func38, Tryz.ntmps38
    go_wp2_with fail
    go_ret
    exact ⟨rfl, rfl⟩
  · subst hcd
    go_enter Tryz.func38, Tryz.ntmps38
    go_wp2_with fail
    go_ret
    exact ⟨rfl, rfl⟩
  · have h2 : ((code : Int) == 2) = false := by simp; omega
    have h3 : ((code : Int) == 3) = false := by simp; omega
    have h6 : ((code : Int) == 6) = false := by simp; omega
    rw [decide_eq_false hcd]
    clear hcd
    go_enter Tryz.func38, Tryz.ntmps38
    go_wp2_with fail
    go_ret
    exact ⟨rfl, rfl⟩
/- the names so far, in the cell nb; which one is asked for, in the cell ob -/
structure UseSt (w : World) (ob nb : Nat) (of : Bs) (l : List Bs) : Prop where
  o : w.cell? ⟨ob, 0, none⟩ = some (.string (bs of))
  c : ∃ v, w.heap[nb]? = some (.cells #[v] 22 (0, 0)) ∧ w.ownsRow (nb + 1) 9 1 v l.length (strs l)
  ne : ob < nb
theorem UseSt.on {w w' : World} {ob nb : Nat} {of : Bs} {l : List Bs} (h : UseSt w ob nb of l) (k : Below w.heap.size w w') : UseSt w' ob nb of l := by
  obtain ⟨v, h1, h2⟩ := h.c
  exact ⟨(k.cell (p := ⟨ob, 0, none⟩) (lt_of_cell h.o)).trans h.o, ⟨v, (k.block _ (lt_blk h1)).trans h1, owns_keep h2 (fun b _ hl _ => k.block b hl)⟩, h.ne⟩
def OwnN (w : World) (nb k : Nat) : Prop := ∃ v, w.cell? ⟨nb, 0, none⟩ = some v ∧ v.ownBlock = some k
/- what is kept besides: all but the names' cell, and their own row -/
structure UseK (nb : Nat) (w w' : World) : Prop where
  s : w.heap.size ≤ w'.heap.size
  k : ∀ k, k < w.heap.size → k ≠ nb → ¬ OwnN w nb k → w'.heap[k]? = w.heap[k]? ∧ ¬ OwnN w' nb k
theorem UseK.trans {nb : Nat} {w1 w2 w3 : World} (h : UseK nb w1 w2) (g : UseK nb w2 w3) : UseK nb w1 w3 := ⟨Nat.le_trans h.s g.s, fun k a b c => by
  obtain ⟨h1, h2⟩ := h.k k a b c
  obtain ⟨g1, g2⟩ := g.k k (Nat.lt_of_lt_of_le a h.s) b h2
  exact ⟨g1.trans h1, g2⟩⟩
theorem UseK.below {nb : Nat} {w w' : World} (h : Below w.heap.size w w') (hn : nb < w.heap.size) : UseK nb w w' := ⟨h.size, fun k a _ c => ⟨h.block k a, fun ⟨v, q1, q2⟩ => c ⟨v, by rw [← h.cell (p := ⟨nb, 0, none⟩) hn]; exact q1, q2⟩⟩⟩
/- what a call leaves that shows expressions -/
def UseP (w : World) (ob nb : Nat) (of : Bs) (l : List Bs) (e : Ending) (w' : World) : Prop := e = .returned (.tuple #[]) ∧ Below nb w w' ∧ UseSt w' ob nb of l ∧ UseK nb w w'
def usedV (ob nb : Nat) : Value := .func (.func 37) #[] #[.pointer (some ⟨ob, 0, none⟩), .pointer (some ⟨nb, 0, none⟩)]
set_option maxRecDepth 100000 in
set_option maxHeartbeats 2000000 in
theorem show_not {w : World} {ob nb x : Nat} {of : Bs} {l : List Bs} (h : UseSt w ob nb of l) {r : Tp.R} (hx : RefB w x r) (hn : ¬ ((r.code = 2 ∨ r.code = 3 ∨ r.code = 6) ∧ r.mod = of)) :
    Calls Tryz.prog 37 #[.pointer (some ⟨x, 0, none⟩), .pointer (some ⟨ob, 0, none⟩), .pointer (some ⟨nb, 0, none⟩)] w (UseP w ob nb of l) := by
  obtain ⟨code, pos, md, nm, args⟩ := r
  obtain ⟨n, op, lv, rv, aa, ac, hblk⟩ := hx
  simp only at hblk hn
  have hxl := lt_blk hblk
  have c0 : w.cell? ⟨x, 0, none⟩ = some (.int .i64 (code : Int)) := (cell_blk hblk).trans rfl
  have c3 : w.cell? ⟨x, 3, none⟩ = some (.string (bs md)) := (cell_blk hblk).trans rfl
  have co := h.o
  have hol := lt_of_cell co
  have HIR : Hid (∀ n, Calls Tryz.prog 38 #[.pointer (some ⟨x, 0, none⟩)] (w.drewN n) fun e w' => e = .returned (.bool (decide (code = 2 ∨ code = 3 ∨ code = 6))) ∧ w' = w.drewN n) := fun n => isRef_post (w := w.drewN n) c0
  have HU := Lib.hid h
  have hbq := beq_bs md of
  clear h hblk
  by_cases hc : code = 2 ∨ code = 3 ∨ code = 6
  · have hm : ¬ md = of := fun e => hn ⟨hc, e⟩
    rw [decide_eq_true hc] at HIR
    rw [decide_eq_false hm] at hbq
    clear hn hc hm
    go_enter Tryz.func37, Tryz.ntmps37
    go_wp2_with fail
    go_quiet ((go_at_call 38; exact Calls.quiet_of_same (HIR.out _)))
    go_wp2_with fail
    exact bodyPost_end (results_none rfl _ _ _) rfl ⟨rfl, below_drewN (Below.refl _ _) nq, HU.out.on (below_drewN (Below.refl _ _) nq), UseK.below (below_drewN (Below.refl _ _) nq) (by obtain ⟨v, h1, _⟩ := HU.out.c; exact lt_blk h1)⟩
  · rw [decide_eq_false hc] at HIR
    clear hn hc hbq
    go_enter Tryz.func37, Tryz.ntmps37
    go_wp2_with fail
    go_quiet ((go_at_call 38; exact Calls.quiet_of_same (HIR.out _)))
    go_wp2_with fail
    exact bodyPost_end (results_none rfl _ _ _) rfl ⟨rfl, below_drewN (Below.refl _ _) nq, HU.out.on (below_drewN (Below.refl _ _) nq), UseK.below (below_drewN (Below.refl _ _) nq) (by obtain ⟨v, h1, _⟩ := HU.out.c; exact lt_blk h1)⟩
theorem UseSt.shown {w : World} {ob nb : Nat} {of : Bs} {l : List Bs} {v v' : Value} {nm : Bs} {W w' : World} (h : UseSt w ob nb of l) (hb : Below w.heap.size w W) (hv : w.heap[nb]? = some (.cells #[v] 22 (0, 0))) (hown : w'.ownsRow (nb + 1) 9 1 v' (l.length + 1) (strs l ++ [.string (bs nm)])) (hg : W.grownBy w' v.ownBlock) (hlie : ∀ g, v'.ownBlock = some g → v.ownBlock = some g ∨ W.heap.size ≤ g) (ho : w.ownsRow (nb + 1) 9 1 v l.length (strs l)) :
    Below nb w (w'.setCell ⟨nb, 0, none⟩ v') ∧ UseSt (w'.setCell ⟨nb, 0, none⟩ v') ob nb of (l ++ [nm]) ∧ UseK nb w (w'.setCell ⟨nb, 0, none⟩ v') := by
  have hnl := lt_blk hv
  have hsz := hb.size
  have hbl : ∀ k, k < w.heap.size → v.ownBlock ≠ some k → w'.heap[k]? = w.heap[k]? := fun k hk hne => (hg.block k (by omega) (fun e => hne e.symm)).trans (hb.block k hk)
  have hlt : ∀ k, v.ownBlock = some k → nb + 1 ≤ k := fun k hk => (ho.lt k hk).1
  have hbb : Below nb w w' := ⟨hg.os.trans hb.os, hg.tape.trans hb.tape, hg.output.trans hb.output, Nat.le_trans hb.size hg.size, fun k hk => hbl k (by omega) (fun e => by have := hlt k e; omega)⟩
  have e1 : w'.heap[nb]? = some (.cells #[v] 22 (0, 0)) := (hbl nb hnl (fun e => by have := hlt nb e; omega)).trans hv
  refine ⟨below_set hbb (Nat.le_refl _) 0 _, ⟨?_, ⟨v', ?_, ?_⟩, h.ne⟩, ⟨by simpa using hbb.size, fun k hk hne hno => ?_⟩⟩
  · have h1 := h.ne
    rw [World.cell?_setCell_far _ _ _ _ (by simp; omega)]
    exact (hbb.cell (p := ⟨ob, 0, none⟩) h1).trans h.o
  · exact set_blk 0 v' e1
  · have e2 : strs (l ++ [nm]) = strs l ++ [.string (bs nm)] := by simp [strs]
    rw [e2, List.length_append]
    exact owns_keep hown (fun b h1 _ _ => Below.heap_setCell _ _ _ _ (by simp; omega))
  · have hv0 : w.cell? ⟨nb, 0, none⟩ = some v := (cell_blk hv).trans rfl
    have hno' : v.ownBlock ≠ some k := fun e => hno ⟨v, hv0, e⟩
    refine ⟨?_, fun ⟨u, q1, q2⟩ => ?_⟩
    · rw [Below.heap_setCell _ _ _ _ (by simpa using hne)]
      exact hbl k hk hno'
    · have hc : (w'.setCell ⟨nb, 0, none⟩ v').cell? ⟨nb, 0, none⟩ = some v' := (cell_blk (set_blk 0 v' e1)).trans rfl
      rw [hc] at q1
      cases q1
      rcases hlie k q2 with a | a
      · exact hno' a
      · omega
set_option maxRecDepth 100000 in
set_option maxHeartbeats 2000000 in
theorem show_yes {w : World} {ob nb x : Nat} {of : Bs} {l : List Bs} (h : UseSt w ob nb of l) {r : Tp.R} (hx : RefB w x r) (hr : r.code = 2 ∨ r.code = 3 ∨ r.code = 6) (hm : r.mod = of) (hl : l.length ≤ 100000) :
    Calls Tryz.prog 37 #[.pointer (some ⟨x, 0, none⟩), .pointer (some ⟨ob, 0, none⟩), .pointer (some ⟨nb, 0, none⟩)] w (UseP w ob nb of (l ++ [r.name])) := by
  obtain ⟨code, pos, md, nm, args⟩ := r
  obtain ⟨n, op, lv, rv, aa, ac, hblk⟩ := hx
  simp only at hblk hr hm
  subst hm
  obtain ⟨i1, hi, hz0, hz1, hz2⟩ := info_parts Tryz.infoString
  have hxl := lt_blk hblk
  have c0 : w.cell? ⟨x, 0, none⟩ = some (.int .i64 (code : Int)) := (cell_blk hblk).trans rfl
  have c3 : w.cell? ⟨x, 3, none⟩ = some (.string (bs md)) := (cell_blk hblk).trans rfl
  have c4 : w.cell? ⟨x, 4, none⟩ = some (.string (bs nm)) := (cell_blk hblk).trans rfl
  have co := h.o
  have hol := lt_of_cell co
  have HIR : Hid (∀ n, Calls Tryz.prog 38 #[.pointer (some ⟨x, 0, none⟩)] (w.drewN n) fun e w' => e = .returned (.bool (decide (code = 2 ∨ code = 3 ∨ code = 6))) ∧ w' = w.drewN n) := fun n => isRef_post (w := w.drewN n) c0
  rw [decide_eq_true hr] at HIR
  obtain ⟨v, hv, hown⟩ := h.c
  obtain ⟨va, vc, rfl⟩ := owns_shape hown
  have hnl := lt_blk hv
  have HU := Lib.hid h
  have HV := Lib.hid hv
  have HO := Lib.hid hown
  have hbq : ((bs md).toList == (bs md).toList) = true := by simp
  clear h hblk hr hv hown
  go_enter Tryz.func37, Tryz.ntmps37
  go_wp2_with fail
  go_quiet ((go_at_call 38; exact Calls.quiet_of_same (HIR.out _)))
  go_wp2_with fail
  obtain ⟨w2, hw2⟩ : ∃ w2, w2 = w.drewN nq := ⟨_, rfl⟩
  have hb2 : Below w.heap.size w w2 := by rw [hw2]; exact below_drewN (Below.refl _ _) nq
  rw [← hw2]
  have hU2 := HU.out.on hb2
  have hv2 := (hb2.block _ hnl).trans HV.out
  have ho2 := owns_keep HO.out (w' := w2) (fun b _ hl _ => hb2.block b hl)
  have hs2 : w2.heap.size = w.heap.size := by rw [hw2]; rfl
  have d4 : w2.cell? ⟨x, 4, none⟩ = some (.string (bs nm)) := (hb2.cell (p := ⟨x, 4, none⟩) hxl).trans c4
  have dn : w2.cell? ⟨nb, 0, none⟩ = some (.slice va l.length vc) := (cell_blk hv2).trans rfl
  have zn : w2.frozen? ⟨nb, 0, none⟩ = false := frozen_blk hv2
  have hxl2 : x < w2.heap.size := by omega
  have hnl2 : nb < w2.heap.size := by omega
  have HB2 := Lib.hid hb2
  have HV2 := Lib.hid hv2
  have HU2 := Lib.hid hU2
  have HO2 := Lib.hid ho2
  clear hw2 hb2 hU2 hv2 ho2 c0 c3 c4 co
  go_region_law (first | (refine step_append_where rfl (.tmp 14) (.tmp 19) 22 rfl (nb + 1) 9 i1 (.string ⟨#[]⟩) 1 16 Tryz.underlying22 hi hz0 hz1 hz2 rfl (by decide) (.slice va l.length vc) l.length (strs l) (by simp [Act.eval]) ?own ⟨w2.heap.size, 0, none⟩ 1 1 [.string (bs nm)] (by simp [Act.eval]) rfl ?news (by intro u hu; simp at hu; subst hu; rfl) (by unfold maxLen; omega) (by omega) (by simp; omega) ?_; (case own => (first | exact HO2.out.alloc _ | exact (HO2.out.alloc _).drew | exact HO2.out)); (case news => (intro j u hj; rw [Addr.add_lit]; cases j with | zero => (simp at hj; subst hj; first | exact (cell_blk (new_blk w2 _)).trans rfl | exact (cell_blk (new_blk w2.drew _)).trans rfl) | succ j => simp at hj)); intro v3 w3 q1 q2 q3; obtain ⟨a3, c3, hv3⟩ := owns_shape q1; subst hv3; have e3 : w3.heap[nb]? = some (.cells #[.slice va l.length vc] 22 (0, 0)) := (q2.block nb (by simp; omega) (fun e => Nat.lt_irrefl _ (HO2.out.lt nb e.symm).1)).trans ((Below.heap_alloc w2 _ nb hnl2).trans HV2.out); have n3 : w3.cell? ⟨nb, 0, none⟩ = some (.slice va l.length vc) := (cell_blk e3).trans rfl; have z3 : w3.frozen? ⟨nb, 0, none⟩ = false := frozen_blk e3; have HFIN : Hid (Below nb w2 (w3.setCell ⟨nb, 0, none⟩ (.slice a3 (l.length + 1) c3)) ∧ UseSt (w3.setCell ⟨nb, 0, none⟩ (.slice a3 (l.length + 1) c3)) ob nb md (l ++ [nm]) ∧ UseK nb w2 (w3.setCell ⟨nb, 0, none⟩ (.slice a3 (l.length + 1) c3))) := (by first | exact UseSt.shown HU2.out ((Below.refl _ _).alloc (Nat.le_refl _) _) HV2.out q1 q2 q3 HO2.out | exact UseSt.shown HU2.out (((Below.refl _ _).alloc (Nat.le_refl _) _).drew) HV2.out q1 q2 q3 HO2.out); clear q1 q2 q3 e3))
  all_goals
    exact bodyPost_end (results_none rfl _ _ _) rfl ⟨rfl, (HB2.out.mono (by omega)).trans HFIN.out.1, HFIN.out.2.1, (UseK.below HB2.out hnl).trans HFIN.out.2.2⟩
end Go.Proofs.YtiolfelekiopdaaGreatDoor
