import Derived.Test.YtfcdphgggdioeaaGreatDoorKMa
import Derived.Test.YtfcdphgggdioeaaGreatDoorKShd
import Derived.Test.YtfcdphgggdioeaaGreatDoorKXa
import Derived.Test.YtfcdphgggdioeaaGreatDoorKAa
import Derived.Test.YtfcdphgggdioeaaGreatDoorKWb
import Derived.Test.YtfcdphgggdioeaaGreatDoorKPb
import Derived.Sort.OwnSorted
import Derived.Shelf.Slices.In.SortNone
import Derived.LaidEql
import Derived.RowKitTokens
import Derived.KernelRfl
import Derived.Deep.RegionLawGrows
/- slices.Sort, Compact, Contains at texts. -/
namespace Go.Proofs.YtfcdphgggdioeaaGreatDoor
open Go.RowKit Go.Sort
open Tp (Bs)

theorem mem_compact {zs : List Bs} {x : Bs} : x ∈ Lib.compact zs ↔ x ∈ zs := by
  unfold Lib.compact Lib.compactUpTo
  simp only [List.mem_map, List.mem_filter, List.mem_range]
  constructor
  · rintro ⟨j, ⟨hj, _⟩, rfl⟩
    rw [getElem!_pos _ j (by simpa using hj)]
    simp
  · intro hx
    obtain ⟨j, hj, rfl⟩ := List.getElem_of_mem hx
    clear hx
    induction j with
    | zero => exact ⟨0, ⟨hj, by simp [Lib.keeps]⟩, by rw [getElem!_pos _ 0 (by simpa using hj)]; simp⟩
    | succ j ih =>
      by_cases h : zs[j + 1] = zs[j]
      · obtain ⟨k, h1, h2⟩ := ih (by omega)
        exact ⟨k, h1, by rw [h2, h]⟩
      · refine ⟨j + 1, ⟨hj, ?_⟩, by rw [getElem!_pos _ (j + 1) (by simpa using hj)]; simp⟩
        simp only [Lib.keeps, decide_eq_true_eq]
        refine Or.inr ?_
        rw [getElem!_pos _ (j + 1) (by simpa using hj), show j + 1 - 1 = j from rfl, getElem!_pos _ j (by simp; omega)]
        simpa using h
theorem compact_len (zs : List Bs) : (Lib.compact zs).length ≤ zs.length := by
  unfold Lib.compact Lib.compactUpTo
  rw [List.length_map]
  have := List.length_filter_le (Lib.keeps zs.toArray) (List.range zs.length)
  simpa using this
end Go.Proofs.YtfcdphgggdioeaaGreatDoor
/- Of expressions and statements in memory: what chapter 3's texts have of them (M4 to M18), without the check. -/
namespace Go.Proofs.YtfcdphgggdioeaaGreatDoor
open Go.RowKit Go.Maps
open Tp (Bs X S Sy)

def RefB (w : World) (b : Nat) (r : Tp.R) : Prop := ∃ (n : Int) (op : ByteArray) (lv rv : Option Addr) (aa : Option Addr) (ac : Nat), w.heap[b]? = some (.cells #[.int .i64 (r.code : Int), .int .i64 (r.pos : Int), .int .i64 n, .string (bs r.mod), .string (bs r.name), .string op, .pointer lv, .pointer rv, .slice aa r.args ac] 108 (0, 0))
theorem beq_bs (a b : Bs) : ((bs a).toList == (bs b).toList) = decide (a = b) := by rw [Bool.eq_iff_iff, decide_eq_true_iff, beq_iff_eq, bs_toList, bs_toList]
theorem cell_box5' {w : World} {b : Nat} {v0 v1 v2 v3 v4 : Value} {t : TypeId} (h : w.heap[b]? = some (.cells #[v0, v1, v2, v3, v4] t (0, 0))) : w.cell? ⟨b, 0, none⟩ = some v0 ∧ w.cell? ⟨b, 1, none⟩ = some v1 ∧ w.cell? ⟨b, 2, none⟩ = some v2 ∧ w.cell? ⟨b, 3, none⟩ = some v3 ∧ w.cell? ⟨b, 4, none⟩ = some v4 :=
  ⟨(cell_blk h).trans rfl, (cell_blk h).trans rfl, (cell_blk h).trans rfl, (cell_blk h).trans rfl, (cell_blk h).trans rfl⟩
theorem rx_cons (x : X) (l : List X) : Tp.rx (x :: l) = Tp.rx [x] ++ Tp.rx l := by
  obtain ⟨code, pos, n, m, nm, op, le, ri, ar⟩ := x
  simp [Tp.rx]
theorem rx_one (code pos n : Nat) (m nm op : Bs) (le ri ar : List X) : Tp.rx [⟨code, pos, n, m, nm, op, le, ri, ar⟩] = (if code = 2 ∨ code = 3 ∨ code = 6 then [⟨code, pos, m, nm, ar.length⟩] else []) ++ (Tp.rx le ++ (Tp.rx ri ++ Tp.rx ar)) := by
  simp [Tp.rx]
theorem RepL.get {w : World} {D : Nat → Prop} : ∀ (l : List X) (vs : List Value), RepL w D l vs → ∀ i (h : i < l.length), ∃ b, vs[i]? = some (.pointer (some ⟨b, 0, none⟩)) ∧ RepL w D [l[i]] [.pointer (some ⟨b, 0, none⟩)] := by
  intro l
  induction l with
  | nil => intro vs _ i h; simp at h
  | cons x l ih =>
    intro vs h i hi
    obtain ⟨code, pos, n, m, nm, op, le, ri, ar⟩ := x
    rw [RepL] at h
    obtain ⟨b, av, ls, rs, gs, vs', h1, h2, h3, h4, h5, h6, h7, h8, h9, h10⟩ := h
    subst h1
    cases i with
    | zero =>
      refine ⟨b, rfl, ?_⟩
      show RepL w D [⟨code, pos, n, m, nm, op, le, ri, ar⟩] _
      rw [RepL]
      exact ⟨b, av, ls, rs, gs, [], rfl, h2, h3, h4, h5, h6, h7, h8, h9, by rw [RepL]⟩
    | succ i =>
      obtain ⟨b', q1, q2⟩ := ih vs' h10 i (by simpa using hi)
      exact ⟨b', by simpa using q1, by simpa using q2⟩
theorem rs_cons (x : S) (l : List S) : Tp.rs (x :: l) = Tp.rs [x] ++ Tp.rs l := by
  obtain ⟨code, pos, nm, ix, vl, th, el⟩ := x
  simp [Tp.rs]
theorem rs_one (code pos : Nat) (nm : Bs) (ix vl : List X) (th el : List S) : Tp.rs [⟨code, pos, nm, ix, vl, th, el⟩] = (if code = 1 then [⟨if ix.isEmpty then 2 else 3, pos, [], nm, 0⟩] else []) ++ (Tp.rx ix ++ (Tp.rx vl ++ (Tp.rs th ++ Tp.rs el))) := by
  simp [Tp.rs]
theorem RepS.get {w : World} {D : Nat → Prop} : ∀ (l : List S) (cs : List Value), RepS w D l cs → ∀ i (code pos : Nat) (nm : Bs) (ix vl : List X) (th el : List S), l[i]? = some ⟨code, pos, nm, ix, vl, th, el⟩ → ∃ (tv ev : Value) (ls vs tcs ecs : List Value),
    (∀ j, j < 7 → cs[i * 7 + j]? = [.int .i64 (code : Int), .int .i64 (pos : Int), .string (bs nm), ls.headD (.pointer none), vs.headD (.pointer none), tv, ev][j]?) ∧ RepL w D ix ls ∧ ls.length ≤ 1 ∧ RepL w D vl vs ∧ vs.length ≤ 1 ∧ RepS w D th tcs ∧ OwnS w D tv th.length tcs ∧ RepS w D el ecs ∧ OwnS w D ev el.length ecs := by
  intro l
  induction l with
  | nil => intro cs _ i _ _ _ _ _ _ _ h; simp at h
  | cons x l ih =>
    intro cs h i code pos nm ix vl th el hi
    obtain ⟨code', pos', nm', ix', vl', th', el'⟩ := x
    rw [RepS] at h
    obtain ⟨tv, ev, ls, vs, tcs, ecs, cs', h1, h2, h3, h4, h5, h6, h7, h8, h9, h10⟩ := h
    subst h1
    cases i with
    | zero =>
      simp only [List.getElem?_cons_zero, Option.some.injEq, S.mk.injEq] at hi
      obtain ⟨rfl, rfl, rfl, rfl, rfl, rfl, rfl⟩ := hi
      refine ⟨tv, ev, ls, vs, tcs, ecs, fun j hj => ?_, h2, h3, h4, h5, h6, h7, h8, h9⟩
      rw [Nat.zero_mul, Nat.zero_add, List.getElem?_append_left (by simpa using hj)]
    | succ i =>
      obtain ⟨tv', ev', ls', vs', tcs', ecs', q1, q2⟩ := ih cs' h10 i code pos nm ix vl th el (by simpa using hi)
      refine ⟨tv', ev', ls', vs', tcs', ecs', fun j hj => ?_, q2⟩
      rw [List.getElem?_append_right (by simp; omega)]
      have : (i + 1) * 7 + j - [Value.int .i64 (code' : Int), .int .i64 (pos' : Int), .string (bs nm'), ls.headD (.pointer none), vs.headD (.pointer none), tv, ev].length = i * 7 + j := by simp; omega
      rw [this, q1 j hj]
end Go.Proofs.YtfcdphgggdioeaaGreatDoor
/- How much a module may use, at most; what is used, as it is shown. No program stands in it. -/
namespace Tp
theorem rx_count : ∀ (n : Nat) (l : List X), SizeOf.sizeOf l ≤ n → WX l → (rx l).length ≤ NX l := by
  intro n
  induction n with
  | zero => intro l hl; cases l <;> simp at hl <;> omega
  | succ n ih =>
    intro l hl h
    cases l with
    | nil => simp [rx]
    | cons x xs =>
      obtain ⟨code, pos, nn, m, nm, op, le, ri, ar⟩ := x
      rw [WX] at h
      simp at hl
      obtain ⟨h1, h2⟩ := h
      have hxs := ih xs (by omega) h2
      rw [rx, NX]
      simp only [List.length_append]
      have hr : 1 ≤ rN m := by unfold rN; split <;> omega
      have nil : (rx []).length = 0 := by simp [rx]
      rcases h1 with ⟨c, _, _, _, _, h5, h6, h7⟩ | ⟨c, _, h3, _, h5, h6, h7⟩ | ⟨c, _, h3, _, h5, _, h6, h7⟩ | ⟨c, _, _, _, _, h5, _, h6, h7⟩ | ⟨c, _, _, _, _, h5, _, h6, _, h7⟩ | ⟨c, _, h3, _, h5, h6, h7⟩
      · subst c; rw [h5, h6, h7]; simp [rx]; omega
      · subst c; rw [h5, h6, h7]; simp [rx]; omega
      · subst c; have := ih le (by omega) h5; rw [h6, h7]; simp [rx]; omega
      · subst c; have := ih le (by omega) h5; rw [h6, h7]; simp [rx]; omega
      · subst c; have := ih le (by omega) h5; have := ih ri (by omega) h6; rw [h7]; simp [rx]; omega
      · subst c; have := ih ar (by omega) h7; rw [h5, h6]; simp [rx]; omega
theorem rs_count : ∀ (n : Nat) (l : List S), SizeOf.sizeOf l ≤ n → WS l → (rs l).length ≤ NS l := by
  intro n
  induction n with
  | zero => intro l hl; cases l <;> simp at hl <;> omega
  | succ n ih =>
    intro l hl h
    cases l with
    | nil => simp [rs]
    | cons x xs =>
      obtain ⟨code, pos, nm, ix, vl, th, el⟩ := x
      rw [WS] at h
      simp at hl
      obtain ⟨h1, h2⟩ := h
      have hxs := ih xs (by omega) h2
      rw [rs, NS]
      simp only [List.length_append]
      have wv : ev vl → (rx vl).length ≤ NX vl := fun q => rx_count _ _ (Nat.le_refl _) q.1
      rcases h1 with ⟨c, h3, h4, h5, h6, h7⟩ | ⟨c, _, h4, h5, h6, h7⟩ | ⟨c, _, h4, h5, h6, h7⟩ | ⟨c, _, h4, h5, h6, h7⟩ | ⟨c, _, h4, h5, _, h6, h7⟩
      · subst c
        have := wv h5
        rw [h6, h7]
        rcases h4 with q | q
        · rw [q]; simp [rx, rs]; omega
        · have hx := rx_count _ _ (Nat.le_refl _) q.1
          have hne : ix.isEmpty = false := by
            cases ix with
            | nil => simp at q
            | cons a t => rfl
          simp [rs, hne]; omega
      · subst c
        have := wv h5; have := ih th (by omega) h6; have := ih el (by omega) h7
        rw [h4]
        cases el with
        | nil => simp [rx, rs]; simp [rs] at *; omega
        | cons a t => simp [rx]; omega
      · subst c
        have := wv h5; have := ih th (by omega) h6
        rw [h4, h7]; simp [rx, rs]; omega
      · have := wv h5
        rw [h4, h6, h7]
        rcases c with c | c <;> subst c <;> simp [rx, rs] <;> omega
      · subst c
        have := wv h5
        rw [h4, h6, h7]; simp [rx, rs]; omega
theorem allR_count {m : M} (h : WM m) : (allR m).length ≤ nM m := by
  unfold allR nM
  have hb := rs_count _ _ (Nat.le_refl _) h.b
  have hp : ∀ (l : List Pr), (∀ p ∈ l, WP p) → ((l.map fun p => rs p.body).flatten).length ≤ (l.map nP).sum := by
    intro l
    induction l with
    | nil => intro _; simp
    | cons p t ih =>
      intro hl
      have h1 := rs_count _ _ (Nat.le_refl _) (hl p (by simp)).b
      have h2 := ih (fun q hq => hl q (by simp [hq]))
      simp only [List.map_cons, List.flatten_cons, List.length_append, List.sum_cons]
      have : NS p.body ≤ nP p := by unfold nP; omega
      omega
  have := hp m.procs h.p
  rw [List.length_append]
  omega
/- names that are used of another one -/
def us (of : Bs) (l : List R) : List Bs := (l.filter fun r => r.mod == of).map (·.name)
theorem us_app (of : Bs) (l m : List R) : us of (l ++ m) = us of l ++ us of m := by simp [us]
theorem us_len (of : Bs) (l : List R) : (us of l).length ≤ l.length := by unfold us; rw [List.length_map]; exact List.length_filter_le _ _
theorem us_used {m : M} {of : Bs} (h : of ≠ []) : us of (allR m) = usedR m of := by
  unfold us usedR
  have : (of == []) = false := by simpa using h
  simp [this]
end Tp
/- sym: names that are used: isRef, what Used shows. -/
namespace Go.Proofs.YtfcdphgggdioeaaGreatDoor
open Go.RowKit Go.Maps
open Tp (Bs X S)

set_option maxRecDepth 100000 in
set_option maxHeartbeats 400000 in
theorem isRef_post {w : World} {x code : Nat} (h : w.cell? ⟨x, 0, none⟩ = some (.int .i64 (code : Int))) : Calls Tryz.prog 53 #[.pointer (some ⟨x, 0, none⟩)] w fun e w' => e = .returned (.bool (decide (code = 2 ∨ code = 3 ∨ code = 6))) ∧ w' = w := by
  have hx := lt_of_cell h
  rcases (show code = 2 ∨ code = 3 ∨ code = 6 ∨ ¬ (code = 2 ∨ code = 3 ∨ code = 6) by omega) with hcd | hcd | hcd | hcd
  · subst hcd
    go_enter Tryz.func53, Tryz.ntmps53
    go_wp2_with fail
    go_ret
    exact ⟨rfl, rfl⟩
  · subst hcd
    go_enter Tryz.func53, Tryz.ntmps53
    go_wp2_with fail
    go_ret
    exact ⟨rfl, rfl⟩
  · subst hcd
    go_enter Tryz.func53, Tryz.ntmps53
    go_wp2_with fail
    go_ret
    exact ⟨rfl, rfl⟩
  · have h2 : ((code : Int) == 2) = false := by simp; omega
    have h3 : ((code : Int) == 3) = false := by simp; omega
    have h6 : ((code : Int) == 6) = false := by simp; omega
    rw [decide_eq_false hcd]
    clear hcd
    go_enter Tryz.func53, Tryz.ntmps53
    go_wp2_with fail
    go_ret
    exact ⟨rfl, rfl⟩
/- the names so far, in the cell nb; which one is asked for, in the cell ob -/
structure UseSt (w : World) (ob nb : Nat) (of : Bs) (l : List Bs) : Prop where
  o : w.cell? ⟨ob, 0, none⟩ = some (.string (bs of))
  c : ∃ v, w.heap[nb]? = some (.cells #[v] 22 (0, 0)) ∧ w.ownsRow (nb + 1) 9 1 v l.length (strs l)
  ne : ob < nb
theorem UseSt.on {w w' : World} {ob nb : Nat} {of : Bs} {l : List Bs} (h : UseSt w ob nb of l) (k : Below w.heap.size w w') : UseSt w' ob nb of l := by
  obtain ⟨v, h1, h2⟩ := h.c
  exact ⟨(k.cell (p := ⟨ob, 0, none⟩) (lt_of_cell h.o)).trans h.o, ⟨v, (k.block _ (lt_blk h1)).trans h1, owns_keep h2 (fun b _ hl _ => k.block b hl)⟩, h.ne⟩
def OwnN (w : World) (nb k : Nat) : Prop := ∃ v, w.cell? ⟨nb, 0, none⟩ = some v ∧ v.ownBlock = some k
/- what is kept besides: all but the names' cell, and their own row -/
structure UseK (nb : Nat) (w w' : World) : Prop where
  s : w.heap.size ≤ w'.heap.size
  k : ∀ k, k < w.heap.size → k ≠ nb → ¬ OwnN w nb k → w'.heap[k]? = w.heap[k]? ∧ ¬ OwnN w' nb k
theorem UseK.trans {nb : Nat} {w1 w2 w3 : World} (h : UseK nb w1 w2) (g : UseK nb w2 w3) : UseK nb w1 w3 := ⟨Nat.le_trans h.s g.s, fun k a b c => by
  obtain ⟨h1, h2⟩ := h.k k a b c
  obtain ⟨g1, g2⟩ := g.k k (Nat.lt_of_lt_of_le a h.s) b h2
  exact ⟨g1.trans h1, g2⟩⟩
theorem UseK.below {nb : Nat} {w w' : World} (h : Below w.heap.size w w') (hn : nb < w.heap.size) : UseK nb w w' := ⟨h.size, fun k a _ c => ⟨h.block k a, fun ⟨v, q1, q2⟩ => c ⟨v, by rw [← h.cell (p := ⟨nb, 0, none⟩) hn]; exact q1, q2⟩⟩⟩
/- what a call leaves that shows expressions -/
def UseP (w : World) (ob nb : Nat) (of : Bs) (l : List Bs) (e : Ending) (w' : World) : Prop := e = .returned (.tuple #[]) ∧ Below nb w w' ∧ UseSt w' ob nb of l ∧ UseK nb w w'
def usedV (ob nb : Nat) : Value := .func (.func 52) #[] #[.pointer (some ⟨ob, 0, none⟩), .pointer (some ⟨nb, 0, none⟩)]
set_option maxRecDepth 100000 in
set_option maxHeartbeats 2000000 in
theorem show_not {w : World} {ob nb x : Nat} {of : Bs} {l : List Bs} (h : UseSt w ob nb of l) {r : Tp.R} (hx : RefB w x r) (hn : ¬ ((r.code = 2 ∨ r.code = 3 ∨ r.code = 6) ∧ r.mod = of)) :
    Calls Tryz.prog 52 #[.pointer (some ⟨x, 0, none⟩), .pointer (some ⟨ob, 0, none⟩), .pointer (some ⟨nb, 0, none⟩)] w (UseP w ob nb of l) := by
  obtain ⟨code, pos, md, nm, args⟩ := r
  obtain ⟨n, op, lv, rv, aa, ac, hblk⟩ := hx
  simp only at hblk hn
  have hxl := lt_blk hblk
  have c0 : w.cell? ⟨x, 0, none⟩ = some (.int .i64 (code : Int)) := (cell_blk hblk).trans rfl
  have c3 : w.cell? ⟨x, 3, none⟩ = some (.string (bs md)) := (cell_blk hblk).trans rfl
  have co := h.o
  have hol := lt_of_cell co
  have HIR : Hid (∀ n, Calls Tryz.prog 53 #[.pointer (some ⟨x, 0, none⟩)] (w.drewN n) fun e w' => e = .returned (.bool (decide (code = 2 ∨ code = 3 ∨ code = 6))) ∧ w' = w.drewN n) := fun n => isRef_post (w := w.drewN n) c0
  have HU := Lib.hid h
  have hbq := beq_bs md of
  clear h hblk
  by_cases hc : code = 2 ∨ code = 3 ∨ code = 6
  · have hm : ¬ md = of := fun e => hn ⟨hc, e⟩
    rw [decide_eq_true hc] at HIR
    rw [decide_eq_false hm] at hbq
    clear hn hc hm
    go_enter Tryz.func52, Tryz.ntmps52
    go_wp2_with fail
    go_quiet ((go_at_call 53; exact Calls.quiet_of_same (HIR.out _)))
    go_wp2_with fail
    exact bodyPost_end (results_none rfl _ _ _) rfl ⟨rfl, below_drewN (Below.refl _ _) nq, HU.out.on (below_drewN (Below.refl _ _) nq), UseK.below (below_drewN (Below.refl _ _) nq) (by obtain ⟨v, h1, _⟩ := HU.out.c; exact lt_blk h1)⟩
  · rw [decide_eq_false hc] at HIR
    clear hn hc hbq
    go_enter Tryz.func52, Tryz.ntmps52
    go_wp2_with fail
    go_quiet ((go_at_call 53; exact Calls.quiet_of_same (HIR.out _)))
    go_wp2_with fail
    exact bodyPost_end (results_none rfl _ _ _) rfl ⟨rfl, below_drewN (Below.refl _ _) nq, HU.out.on (below_drewN (Below.refl _ _) nq), UseK.below (below_drewN (Below.refl _ _) nq) (by obtain ⟨v, h1, _⟩ := HU.out.c; exact lt_blk h1)⟩
theorem UseSt.shown {w : World} {ob nb : Nat} {of : Bs} {l : List Bs} {v v' : Value} {nm : Bs} {W w' : World} (h : UseSt w ob nb of l) (hb : Below w.heap.size w W) (hv : w.heap[nb]? = some (.cells #[v] 22 (0, 0))) (hown : w'.ownsRow (nb + 1) 9 1 v' (l.length + 1) (strs l ++ [.string (bs nm)])) (hg : W.grownBy w' v.ownBlock) (hlie : ∀ g, v'.ownBlock = some g → v.ownBlock = some g ∨ W.heap.size ≤ g) (ho : w.ownsRow (nb + 1) 9 1 v l.length (strs l)) :
    Below nb w (w'.setCell ⟨nb, 0, none⟩ v') ∧ UseSt (w'.setCell ⟨nb, 0, none⟩ v') ob nb of (l ++ [nm]) ∧ UseK nb w (w'.setCell ⟨nb, 0, none⟩ v') := by
  have hnl := lt_blk hv
  have hsz := hb.size
  have hbl : ∀ k, k < w.heap.size → v.ownBlock ≠ some k → w'.heap[k]? = w.heap[k]? := fun k hk hne => (hg.block k (by omega) (fun e => hne e.symm)).trans (hb.block k hk)
  have hlt : ∀ k, v.ownBlock = some k → nb + 1 ≤ k := fun k hk => (ho.lt k hk).1
  have hbb : Below nb w w' := ⟨hg.os.trans hb.os, hg.tape.trans hb.tape, hg.output.trans hb.output, Nat.le_trans hb.size hg.size, fun k hk => hbl k (by omega) (fun e => by have := hlt k e; omega)⟩
  have e1 : w'.heap[nb]? = some (.cells #[v] 22 (0, 0)) := (hbl nb hnl (fun e => by have := hlt nb e; omega)).trans hv
  refine ⟨below_set hbb (Nat.le_refl _) 0 _, ⟨?_, ⟨v', ?_, ?_⟩, h.ne⟩, ⟨by simpa using hbb.size, fun k hk hne hno => ?_⟩⟩
  · have h1 := h.ne
    rw [World.cell?_setCell_far _ _ _ _ (by simp; omega)]
    exact (hbb.cell (p := ⟨ob, 0, none⟩) h1).trans h.o
  · exact set_blk 0 v' e1
  · have e2 : strs (l ++ [nm]) = strs l ++ [.string (bs nm)] := by simp [strs]
    rw [e2, List.length_append]
    exact owns_keep hown (fun b h1 _ _ => Below.heap_setCell _ _ _ _ (by simp; omega))
  · have hv0 : w.cell? ⟨nb, 0, none⟩ = some v := (cell_blk hv).trans rfl
    have hno' : v.ownBlock ≠ some k := fun e => hno ⟨v, hv0, e⟩
    refine ⟨?_, fun ⟨u, q1, q2⟩ => ?_⟩
    · rw [Below.heap_setCell _ _ _ _ (by simpa using hne)]
      exact hbl k hk hno'
    · have hc : (w'.setCell ⟨nb, 0, none⟩ v').cell? ⟨nb, 0, none⟩ = some v' := (cell_blk (set_blk 0 v' e1)).trans rfl
      rw [hc] at q1
      cases q1
      rcases hlie k q2 with a | a
      · exact hno' a
      · omega
set_option maxRecDepth 100000 in
set_option maxHeartbeats 2000000 in
theorem show_yes {w : World} {ob nb x : Nat} {of : Bs} {l : List Bs} (h : UseSt w ob nb of l) {r : Tp.R} (hx : RefB w x r) (hr : r.code = 2 ∨ r.code = 3 ∨ r.code = 6) (hm : r.mod = of) (hl : l.length ≤ 100000) :
    Calls Tryz.prog 52 #[.pointer (some ⟨x, 0, none⟩), .pointer (some ⟨ob, 0, none⟩), .pointer (some ⟨nb, 0, none⟩)] w (UseP w ob nb of (l ++ [r.name])) := by
  obtain ⟨code, pos, md, nm, args⟩ := r
  obtain ⟨n, op, lv, rv, aa, ac, hblk⟩ := hx
  simp only at hblk hr hm
  subst hm
  obtain ⟨i1, hi, hz0, hz1, hz2⟩ := info_parts Tryz.infoString
  have hxl := lt_blk hblk
  have c0 : w.cell? ⟨x, 0, none⟩ = some (.int .i64 (code : Int)) := (cell_blk hblk).trans rfl
  have c3 : w.cell? ⟨x, 3, none⟩ = some (.string (bs md)) := (cell_blk hblk).trans rfl
  have c4 : w.cell? ⟨x, 4, none⟩ = some (.string (bs nm)) := (cell_blk hblk).trans rfl
  have co := h.o
  have hol := lt_of_cell co
  have HIR : Hid (∀ n, Calls Tryz.prog 53 #[.pointer (some ⟨x, 0, none⟩)] (w.drewN n) fun e w' => e = .returned (.bool (decide (code = 2 ∨ code = 3 ∨ code = 6))) ∧ w' = w.drewN n) := fun n => isRef_post (w := w.drewN n) c0
  rw [decide_eq_true hr] at HIR
  obtain ⟨v, hv, hown⟩ := h.c
  obtain ⟨va, vc, rfl⟩ := owns_shape hown
  have hnl := lt_blk hv
  have HU := Lib.hid h
  have HV := Lib.hid hv
  have HO := Lib.hid hown
  have hbq : ((bs md).toList == (bs md).toList) = true := by simp
  clear h hblk hr hv hown
  go_enter Tryz.func52, Tryz.ntmps52
  go_wp2_with fail
  go_quiet ((go_at_call 53; exact Calls.quiet_of_same (HIR.out _)))
  go_wp2_with fail
  obtain ⟨w2, hw2⟩ : ∃ w2, w2 = w.drewN nq := ⟨_, rfl⟩
  have hb2 : Below w.heap.size w w2 := by rw [hw2]; exact below_drewN (Below.refl _ _) nq
  rw [← hw2]
  have hU2 := HU.out.on hb2
  have hv2 := (hb2.block _ hnl).trans HV.out
  have ho2 := owns_keep HO.out (w' := w2) (fun b _ hl _ => hb2.block b hl)
  have hs2 : w2.heap.size = w.heap.size := by rw [hw2]; rfl
  have d4 : w2.cell? ⟨x, 4, none⟩ = some (.string (bs nm)) := (hb2.cell (p := ⟨x, 4, none⟩) hxl).trans c4
  have dn : w2.cell? ⟨nb, 0, none⟩ = some (.slice va l.length vc) := (cell_blk hv2).trans rfl
  have zn : w2.frozen? ⟨nb, 0, none⟩ = false := frozen_blk hv2
  have hxl2 : x < w2.heap.size := by omega
  have hnl2 : nb < w2.heap.size := by omega
  have HB2 := Lib.hid hb2
  have HV2 := Lib.hid hv2
  have HU2 := Lib.hid hU2
  have HO2 := Lib.hid ho2
  clear hw2 hb2 hU2 hv2 ho2 c0 c3 c4 co
  go_region_law (first | (refine step_append_where rfl (.tmp 14) (.tmp 19) 22 rfl (nb + 1) 9 i1 (.string ⟨#[]⟩) 1 16 Tryz.underlying22 hi hz0 hz1 hz2 rfl (by decide) (.slice va l.length vc) l.length (strs l) (by simp [Act.eval]) ?own ⟨w2.heap.size, 0, none⟩ 1 1 [.string (bs nm)] (by simp [Act.eval]) rfl ?news (by intro u hu; simp at hu; subst hu; rfl) (by unfold maxLen; omega) (by omega) (by simp; omega) ?_; (case own => (first | exact HO2.out.alloc _ | exact (HO2.out.alloc _).drew | exact HO2.out)); (case news => (intro j u hj; rw [Addr.add_lit]; cases j with | zero => (simp at hj; subst hj; first | exact (cell_blk (new_blk w2 _)).trans rfl | exact (cell_blk (new_blk w2.drew _)).trans rfl) | succ j => simp at hj)); intro v3 w3 q1 q2 q3; obtain ⟨a3, c3, hv3⟩ := owns_shape q1; subst hv3; have e3 : w3.heap[nb]? = some (.cells #[.slice va l.length vc] 22 (0, 0)) := (q2.block nb (by simp; omega) (fun e => Nat.lt_irrefl _ (HO2.out.lt nb e.symm).1)).trans ((Below.heap_alloc w2 _ nb hnl2).trans HV2.out); have n3 : w3.cell? ⟨nb, 0, none⟩ = some (.slice va l.length vc) := (cell_blk e3).trans rfl; have z3 : w3.frozen? ⟨nb, 0, none⟩ = false := frozen_blk e3; have HFIN : Hid (Below nb w2 (w3.setCell ⟨nb, 0, none⟩ (.slice a3 (l.length + 1) c3)) ∧ UseSt (w3.setCell ⟨nb, 0, none⟩ (.slice a3 (l.length + 1) c3)) ob nb md (l ++ [nm]) ∧ UseK nb w2 (w3.setCell ⟨nb, 0, none⟩ (.slice a3 (l.length + 1) c3))) := (by first | exact UseSt.shown HU2.out ((Below.refl _ _).alloc (Nat.le_refl _) _) HV2.out q1 q2 q3 HO2.out | exact UseSt.shown HU2.out (((Below.refl _ _).alloc (Nat.le_refl _) _).drew) HV2.out q1 q2 q3 HO2.out); clear q1 q2 q3 e3))
  all_goals
    exact bodyPost_end (results_none rfl _ _ _) rfl ⟨rfl, (HB2.out.mono (by omega)).trans HFIN.out.1, HFIN.out.2.1, (UseK.below HB2.out hnl).trans HFIN.out.2.2⟩
end Go.Proofs.YtfcdphgggdioeaaGreatDoor
/- sym: each expression, and each that lies in one: eachWithin. -/
namespace Go.Proofs.YtfcdphgggdioeaaGreatDoor
open Go.RowKit Go.Maps
open Tp (Bs X S)

def AskU (w : World) (ob nb : Nat) (of : Bs) (v : Value) (add : List Bs) : Prop := ∀ W l, Below nb w W → nb ≤ w.heap.size → UseSt W ob nb of l → l.length + add.length ≤ 100000 → Calls Tryz.prog 111 #[v, usedV ob nb] W (UseP W ob nb of (l ++ add))
set_option maxRecDepth 100000 in
set_option maxHeartbeats 400000 in
theorem eachWithin_nil {w : World} {ob nb : Nat} {of : Bs} {l : List Bs} (h : UseSt w ob nb of l) : Calls Tryz.prog 111 #[.pointer none, usedV ob nb] w (UseP w ob nb of (l ++ [])) := by
  rw [List.append_nil]
  have HU := Lib.hid h
  clear h
  unfold usedV
  go_enter Tryz.func111, Tryz.ntmps111
  go_wp2_with fail
  exact bodyPost_end (results_none rfl _ _ _) rfl ⟨rfl, Below.refl _ _, HU.out, UseK.below (Below.refl _ _) (by obtain ⟨v, h1, _⟩ := HU.out.c; exact lt_blk h1)⟩
/- what is added by the first i -/
def addTo (f : Nat → List Bs) (i : Nat) : List Bs := ((List.range i).map f).flatten
theorem addTo_succ (f : Nat → List Bs) (i : Nat) : addTo f (i + 1) = addTo f i ++ f i := by
  unfold addTo
  rw [List.range_succ, List.map_append, List.flatten_append]
  simp
theorem addTo_le (f : Nat → List Bs) {i n : Nat} (h : i ≤ n) : (addTo f i).length ≤ (addTo f n).length := by
  obtain ⟨k, rfl⟩ := Nat.exists_eq_add_of_le h
  clear h
  induction k with
  | zero => exact Nat.le_refl _
  | succ k ih => rw [← Nat.add_assoc, addTo_succ, List.length_append]; omega
theorem cell_box9 {w : World} {b : Nat} {v0 v1 v2 v3 v4 v5 v6 v7 v8 : Value} {t : TypeId} (h : w.heap[b]? = some (.cells #[v0, v1, v2, v3, v4, v5, v6, v7, v8] t (0, 0))) : w.cell? ⟨b, 6, none⟩ = some v6 ∧ w.cell? ⟨b, 7, none⟩ = some v7 ∧ w.cell? ⟨b, 8, none⟩ = some v8 := ⟨(cell_blk h).trans rfl, (cell_blk h).trans rfl, (cell_blk h).trans rfl⟩
set_option maxRecDepth 100000 in
set_option maxHeartbeats 2000000 in
theorem eachWithin_walk {w : World} {ob nb x code : Nat} {of : Bs} {l : List Bs} {pos n : Int} {md nm op : ByteArray} {lv rv aa : Option Addr} {an ac : Nat} (hblk : w.heap[x]? = some (.cells #[.int .i64 (code : Int), .int .i64 pos, .int .i64 n, .string md, .string nm, .string op, .pointer lv, .pointer rv, .slice aa an ac] 108 (0, 0))) (hx : x < nb) (hnb : nb < w.heap.size)
    {a0 a1 a2 : List Bs} {ra : Nat → List Bs} (_hu : UseSt w ob nb of l) (hlen : (l ++ a0 ++ a1 ++ a2 ++ addTo ra an).length ≤ 100000)
    (h0 : Calls Tryz.prog 52 #[.pointer (some ⟨x, 0, none⟩), .pointer (some ⟨ob, 0, none⟩), .pointer (some ⟨nb, 0, none⟩)] w (UseP w ob nb of (l ++ a0)))
    (h1 : AskU w ob nb of (.pointer lv) a1) (h2 : AskU w ob nb of (.pointer rv) a2)
    (hA : ∀ i, i < an → ∃ g y, aa = some ⟨g, 0, none⟩ ∧ g < nb ∧ w.cell? ⟨g, i, none⟩ = some (.pointer (some ⟨y, 0, none⟩)) ∧ AskU w ob nb of (.pointer (some ⟨y, 0, none⟩)) (ra i)) (han : an ≤ 9223372036854775807) :
    Calls Tryz.prog 111 #[.pointer (some ⟨x, 0, none⟩), usedV ob nb] w (UseP w ob nb of (l ++ a0 ++ a1 ++ a2 ++ addTo ra an)) := by
  have HK := Lib.hid hblk
  have H0 := Lib.hid h0
  have H1 : Hid (∀ W l, Below nb w W → UseSt W ob nb of l → l.length + a1.length ≤ 100000 → Calls Tryz.prog 111 #[.pointer lv, .func (.func 52) #[] #[.pointer (some ⟨ob, 0, none⟩), .pointer (some ⟨nb, 0, none⟩)]] W (UseP W ob nb of (l ++ a1))) := fun W l a b c => h1 W l a (by omega) b c
  have H2 : Hid (∀ W l, Below nb w W → UseSt W ob nb of l → l.length + a2.length ≤ 100000 → Calls Tryz.prog 111 #[.pointer rv, .func (.func 52) #[] #[.pointer (some ⟨ob, 0, none⟩), .pointer (some ⟨nb, 0, none⟩)]] W (UseP W ob nb of (l ++ a2))) := fun W l a b c => h2 W l a (by omega) b c
  have HA := Lib.hid hA
  have HLEN := Lib.hid hlen
  have han' : (an : Int) ≤ 9223372036854775807 := by omega
  have hxl : x < w.heap.size := by omega
  clear hblk h0 h1 h2 hA hlen _hu
  unfold usedV
  go_enter Tryz.func111, Tryz.ntmps111
  go_wp2_with fail
  refine H0.out.mono ?_
  rintro e w1 ⟨rfl, hb1, hu1, hk1⟩
  have HK1 := Lib.hid hk1
  have HB1 := Lib.hid hb1
  have hc1 := H1.out w1 _ hb1 hu1 (by have := HLEN.out; simp only [List.length_append] at this ⊢; omega)
  have HC1 := Lib.hid hc1
  have e1 := (hb1.block x hx).trans HK.out
  obtain ⟨p6, p7, p8⟩ := cell_box9 e1
  have hx1 : x < w1.heap.size := lt_blk e1
  clear hb1 hu1 hc1 e1 H0 H1 hk1
  go_wp2_with fail
  refine HC1.out.mono ?_
  rintro e w2 ⟨rfl, hb2, hu2, hk2⟩
  have HK2 := Lib.hid (HK1.out.trans hk2)
  have HB2 : Hid (Below nb w w2) := HB1.out.trans hb2
  have hc2 := H2.out w2 _ HB2.out hu2 (by have := HLEN.out; simp only [List.length_append] at this ⊢; omega)
  have HC2 := Lib.hid hc2
  have e2 := (HB2.out.block x hx).trans HK.out
  obtain ⟨q6, q7, q8⟩ := cell_box9 e2
  have hx2 : x < w2.heap.size := lt_blk e2
  clear hb2 hu2 hc2 e2 H2 HC1 p6 p7 p8 hk2
  go_wp2_with fail
  refine HC2.out.mono ?_
  rintro e w3 ⟨rfl, hb3, hu3, hk3⟩
  have HK3 := Lib.hid (HK2.out.trans hk3)
  have HB3 : Hid (Below nb w w3) := HB2.out.trans hb3
  have HU3 := Lib.hid hu3
  have e3 := (HB3.out.block x hx).trans HK.out
  obtain ⟨r6, r7, r8⟩ := cell_box9 e3
  have hx3 : x < w3.heap.size := lt_blk e3
  clear hb3 hu3 e3 HC2 q6 q7 q8 hk3
  go_wp2_with fail
  go_loopg [28] an (fun k vi wr => ∃ i : Nat, i ≤ an ∧ k = an - i ∧ vi = .int .i64 (i : Int) ∧ Hid (Below nb w wr) ∧ Hid (UseSt wr ob nb of (l ++ a0 ++ a1 ++ a2 ++ addTo ra i)) ∧ Hid (UseK nb w wr))
  case atStart => exact ⟨0, by omega, by omega, rfl, HB3, by unfold Hid; simpa [addTo] using HU3.out, HK3⟩
  case round =>
    obtain ⟨i, hid, hk, rfl, HB, HU, HKK⟩ := hrel
    have hszr := HB.out.size
    by_cases hlt : i < an
    · have hlt' : (i : Int) < (an : Int) := by omega
      obtain ⟨g, y, hag, hgl, hcg, hask⟩ := HA.out i hlt
      have kc : wr.cell? ⟨g, i, none⟩ = some (.pointer (some ⟨y, 0, none⟩)) := (HB.out.cell (p := ⟨g, i, none⟩) hgl).trans hcg
      have hglr : g < wr.heap.size := by omega
      subst hag
      have hcall := hask wr _ HB.out (by omega) HU.out (by
        have h1 := HLEN.out
        have h2 := addTo_le ra (show i + 1 ≤ an by omega)
        rw [addTo_succ] at h2
        simp only [List.length_append] at h1 h2 ⊢
        omega)
      have HC : Hid (Calls Tryz.prog 111 #[.pointer (some ⟨y, 0, none⟩), .func (.func 52) #[] #[.pointer (some ⟨ob, 0, none⟩), .pointer (some ⟨nb, 0, none⟩)]] wr (UseP wr ob nb of (l ++ a0 ++ a1 ++ a2 ++ addTo ra (i + 1)))) := by
        unfold Hid
        rw [addTo_succ, ← List.append_assoc]
        exact hcall
      clear hcg hask hcall
      go_wp2_with fail
      refine HC.out.mono ?_
      rintro e w4 ⟨rfl, hb4, hu4, hk4⟩
      have HK4 := Lib.hid (HKK.out.trans hk4)
      have HB4 : Hid (Below nb w w4) := HB.out.trans hb4
      have HU4 := Lib.hid hu4
      clear hb4 hu4 HC hk4
      go_wp2_with fail
      go_roundg (an - (i + 1))
      case measure => omega
      case rel => exact ⟨i + 1, by omega, rfl, by go_num, HB4, HU4, HK4⟩
    · have hlt' : ¬ (i : Int) < (an : Int) := by omega
      have hei : i = an := by omega
      subst hei
      go_wp2_with fail
      exact bodyPost_end (results_none rfl _ _ _) rfl ⟨rfl, HB.out, by have := HU.out; simp only [List.append_assoc] at this ⊢; exact this, HKK.out⟩
theorem us_rx (of : Bs) : ∀ (ar : List X), addTo (fun i => ((ar[i]?).map fun y => Tp.us of (Tp.rx [y])).getD []) ar.length = Tp.us of (Tp.rx ar) := by
  intro ar
  induction ar with
  | nil => simp [addTo, Tp.rx, Tp.us]
  | cons x l ih =>
    rw [rx_cons, Tp.us_app, ← ih]
    unfold addTo
    rw [List.length_cons, List.range_succ_eq_map, List.map_cons, List.flatten_cons, List.map_map]
    have e2 : ((fun i => (((x :: l)[i]?).map fun y => Tp.us of (Tp.rx [y])).getD []) ∘ Nat.succ) = fun i => ((l[i]?).map fun y => Tp.us of (Tp.rx [y])).getD [] := by
      funext i
      simp
    rw [e2]
    simp
theorem eachWithin_all {ob nb : Nat} {of : Bs} : ∀ (n : Nat) (x : X), SizeOf.sizeOf x ≤ n → ∀ (w : World) (D : Nat → Prop) (xb : Nat), (∀ b, D b → b < nb) → nb < w.heap.size → RepL w D [x] [.pointer (some ⟨xb, 0, none⟩)] →
    AskU w ob nb of (.pointer (some ⟨xb, 0, none⟩)) (Tp.us of (Tp.rx [x])) := by
  intro n
  induction n with
  | zero => intro x hn; cases x; simp at hn
  | succ n ih =>
    intro x hn w D xb hD hnb h W lst hbW _ hu hlen
    have hk : ∀ b, D b → b < w.heap.size → W.heap[b]? = w.heap[b]? ∧ D b := fun b hb _ => ⟨hbW.block b (hD b hb), hb⟩
    have h := RepL.mono hk _ _ _ (Nat.le_refl _) h
    have hnbW : nb < W.heap.size := Nat.lt_of_lt_of_le hnb hbW.size
    obtain ⟨code, pos, nn, md, nm, op, le, ri, ar⟩ := x
    simp at hn
    rw [RepL] at h
    obtain ⟨b', av, ls, rs, gs, vs', q1, q2, h3, h4, h5, h6, h7, h8, h9, _⟩ := h
    injection q1 with h1a _
    injection h1a with h1b
    injection h1b with h1c
    injection h1c with h1d
    subst h1d
    have hgn := RepL.len _ _ h8
    have hrx := rx_one code pos nn md nm op le ri ar
    have part : ∀ (l : List X) (vs : List Value), SizeOf.sizeOf l ≤ n → RepL W D l vs → vs.length ≤ 1 → (∃ a, vs.headD (.pointer none) = .pointer a) ∧ AskU W ob nb of (vs.headD (.pointer none)) (Tp.us of (Tp.rx l)) := by
      intro l vs hl hrep hle
      have hvl := RepL.len _ _ hrep
      match l, vs, hrep with
      | [], vs, hrep =>
        rw [RepL] at hrep
        subst hrep
        refine ⟨⟨none, rfl⟩, fun W' l' _ _ hu' _ => ?_⟩
        have : Tp.us of (Tp.rx []) = [] := by simp [Tp.rx, Tp.us]
        rw [this]
        exact eachWithin_nil hu'
      | [y], vs, hrep =>
        obtain ⟨yb, a1, a2⟩ := RepL.get _ _ hrep 0 (by simp)
        have hv : vs = [.pointer (some ⟨yb, 0, none⟩)] := by
          match vs, hle, hvl with
          | [v], _, _ => simp at a1; rw [a1]
        subst hv
        exact ⟨⟨_, rfl⟩, ih y (by simp at hl; omega) W D yb hD hnbW hrep⟩
      | y :: z :: t, vs, hrep => simp at hvl; omega
    obtain ⟨⟨lv, hlv⟩, hL⟩ := part le ls (by omega) h4 h5
    obtain ⟨⟨rv, hrv⟩, hR⟩ := part ri rs (by omega) h6 h7
    rw [hlv] at h3 hL
    rw [hrv] at h3 hR
    have hav : ∃ aa ac, av = .slice aa ar.length ac ∧ ar.length ≤ 9223372036854775807 ∧ ∀ i, i < ar.length → ∃ g, aa = some ⟨g, 0, none⟩ ∧ g < nb ∧ W.cell? ⟨g, i, none⟩ = gs[i]? := by
      rcases h9 with ⟨q1, q2⟩ | ⟨g, cap, cur, q1, q2, q3, q4, q5, q6, q7⟩
      · have : ar.length = 0 := by rw [← hgn, q1]; rfl
        exact ⟨none, 0, by rw [this]; exact q2, by omega, fun i hi => by omega⟩
      · refine ⟨_, cap, by rw [← hgn]; exact q1, ?_, fun i hi => ⟨g, rfl, hD g q2, ?_⟩⟩
        · have : maxLen = 9223372036854775807 := rfl
          omega
        · rw [cell_blk q3, ← Array.getElem?_toList, ← q7, List.getElem?_take_of_lt (by omega)]
    obtain ⟨aa, ac, rfl, han, hcell⟩ := hav
    have hus : Tp.us of (Tp.rx [(⟨code, pos, nn, md, nm, op, le, ri, ar⟩ : X)]) = (if (code = 2 ∨ code = 3 ∨ code = 6) ∧ md = of then [nm] else []) ++ (Tp.us of (Tp.rx le) ++ (Tp.us of (Tp.rx ri) ++ Tp.us of (Tp.rx ar))) := by
      rw [hrx, Tp.us_app, Tp.us_app, Tp.us_app]
      congr 1
      by_cases hc : code = 2 ∨ code = 3 ∨ code = 6
      · rw [if_pos hc]
        by_cases hm : md = of
        · rw [if_pos ⟨hc, hm⟩]; simp [Tp.us, hm]
        · rw [if_neg (fun q => hm q.2)]; simp [Tp.us, hm]
      · rw [if_neg hc, if_neg (fun q => hc q.1)]; rfl
    have hrb : RefB W xb ⟨code, pos, md, nm, ar.length⟩ := ⟨_, _, _, _, _, _, h3⟩
    rw [hus] at hlen ⊢
    rw [← us_rx of ar] at hlen ⊢
    rw [← List.append_assoc, ← List.append_assoc, ← List.append_assoc]
    refine eachWithin_walk h3 (hD _ q2) hnbW hu ?_ ?_ hL hR ?_ han
    · simp only [List.length_append] at hlen ⊢
      omega
    · by_cases hc : (code = 2 ∨ code = 3 ∨ code = 6) ∧ md = of
      · rw [if_pos hc]
        exact show_yes hu hrb hc.1 hc.2 (by omega)
      · rw [if_neg hc, List.append_nil]
        exact show_not hu hrb hc
    · intro i hi
      obtain ⟨g, a1, a2, a3⟩ := hcell i hi
      obtain ⟨yb, a4, a5⟩ := RepL.get _ _ h8 i hi
      refine ⟨g, yb, a1, a2, a3.trans a4, ?_⟩
      have e : ((ar[i]?).map fun y => Tp.us of (Tp.rx [y])).getD [] = Tp.us of (Tp.rx [ar[i]]) := by rw [List.getElem?_eq_getElem hi]; rfl
      rw [e]
      have hsz : SizeOf.sizeOf ar[i] ≤ n := by
        have := List.sizeOf_lt_of_mem (List.getElem_mem hi)
        omega
      exact ih ar[i] hsz W D yb hD hnbW a5
end Go.Proofs.YtfcdphgggdioeaaGreatDoor
/- sym: each expression of statements, of a module: eachOfStmts, eachExpr. -/
namespace Go.Proofs.YtfcdphgggdioeaaGreatDoor
open Go.RowKit Go.Maps
open Tp (Bs X S Pr)

def AskUS (w : World) (ob nb : Nat) (of : Bs) (v : Value) (add : List Bs) : Prop := ∀ W l, Below nb w W → nb ≤ w.heap.size → UseSt W ob nb of l → l.length + add.length ≤ 100000 → Calls Tryz.prog 80 #[v, usedV ob nb] W (UseP W ob nb of (l ++ add))
structure Us1 (w : World) (ob nb : Nat) (of : Bs) (a : Option Addr) (i : Nat) (q : List Bs) : Prop where
  out : ∃ (g code : Nat) (pos : Int) (nm : ByteArray) (iv vv ta ea : Option Addr) (tn tc en ec : Nat) (r1 r2 r3 r4 : List Bs), a = some ⟨g, 0, none⟩ ∧ g < nb ∧
    w.cell? ⟨g, i * 7, none⟩ = some (.int .i64 (code : Int)) ∧ w.cell? ⟨g, i * 7 + 1, none⟩ = some (.int .i64 pos) ∧ w.cell? ⟨g, i * 7 + 2, none⟩ = some (.string nm) ∧ w.cell? ⟨g, i * 7 + 3, none⟩ = some (.pointer iv) ∧ w.cell? ⟨g, i * 7 + 4, none⟩ = some (.pointer vv) ∧ w.cell? ⟨g, i * 7 + 5, none⟩ = some (.slice ta tn tc) ∧ w.cell? ⟨g, i * 7 + 6, none⟩ = some (.slice ea en ec) ∧
    AskU w ob nb of (.pointer iv) r1 ∧ AskU w ob nb of (.pointer vv) r2 ∧ AskUS w ob nb of (.slice ta tn tc) r3 ∧ AskUS w ob nb of (.slice ea en ec) r4 ∧ q = r1 ++ r2 ++ r3 ++ r4
set_option maxRecDepth 100000 in
set_option maxHeartbeats 4000000 in
theorem eachOfStmts_walk {w : World} {ob nb : Nat} {of : Bs} {l : List Bs} {a : Option Addr} {n c : Nat} {q : Nat → List Bs} (hq : ∀ i, i < n → Us1 w ob nb of a i (q i)) (hn : n ≤ 9223372036854775807) (hnb : nb < w.heap.size) (hu : UseSt w ob nb of l) (hlen : (l ++ addTo q n).length ≤ 100000) :
    Calls Tryz.prog 80 #[.slice a n c, usedV ob nb] w (UseP w ob nb of (l ++ addTo q n)) := by
  have HQ := Lib.hid hq
  have HU0 : Hid (UseSt w ob nb of (l ++ addTo q 0)) := by unfold Hid; simpa [addTo] using hu
  have HLEN := Lib.hid hlen
  have hn' : (n : Int) ≤ 9223372036854775807 := by omega
  clear hq hu hlen
  have HAX : Hid (∀ W v l add, AskU w ob nb of v add → Below nb w W → UseSt W ob nb of l → l.length + add.length ≤ 100000 → Calls Tryz.prog 111 #[v, .func (.func 52) #[] #[.pointer (some ⟨ob, 0, none⟩), .pointer (some ⟨nb, 0, none⟩)]] W (UseP W ob nb of (l ++ add))) := fun W v l add h a b c => h W l a (by omega) b c
  have HAS : Hid (∀ W v l add, AskUS w ob nb of v add → Below nb w W → UseSt W ob nb of l → l.length + add.length ≤ 100000 → Calls Tryz.prog 80 #[v, .func (.func 52) #[] #[.pointer (some ⟨ob, 0, none⟩), .pointer (some ⟨nb, 0, none⟩)]] W (UseP W ob nb of (l ++ add))) := fun W v l add h a b c => h W l a (by omega) b c
  unfold usedV
  go_enter Tryz.func80, Tryz.ntmps80
  go_wp2_with fail
  go_loopg [8] n (fun k vi wr => ∃ i : Nat, i ≤ n ∧ k = n - i ∧ vi = .int .i64 (i : Int) ∧ Hid (Below nb w wr) ∧ Hid (UseSt wr ob nb of (l ++ addTo q i)) ∧ Hid (UseK nb w wr))
  case atStart => exact ⟨0, by omega, by omega, rfl, Below.refl _ _, HU0, UseK.below (Below.refl _ _) hnb⟩
  case round =>
    obtain ⟨i, hid, hk, rfl, HB, HU, HKK⟩ := hrel
    have hszr := HB.out.size
    by_cases hlt : i < n
    · have hlt' : (i : Int) < (n : Int) := by omega
      obtain ⟨g, code, pos, nm, iv, vv, ta, ea, tn, tc, en, ec, r1, r2, r3, r4, hag, hgl, c0, c1, c2, c3, c4, c5, c6, a1, a2, a3, a4, hqi⟩ := (HQ.out i hlt).out
      subst hag
      have hcell : ∀ (o : Nat) (u : Value), w.cell? ⟨g, o, none⟩ = some u → wr.cell? ⟨g, o, none⟩ = some u := fun o u h => (HB.out.cell (p := ⟨g, o, none⟩) hgl).trans h
      have kc0 := hcell _ _ c0
      have kc1 := hcell _ _ c1
      have kc2 := hcell _ _ c2
      have kc3 := hcell _ _ c3
      have kc4 := hcell _ _ c4
      have kc5 := hcell _ _ c5
      have kc6 := hcell _ _ c6
      have hglr : g < wr.heap.size := by omega
      have HLI : Hid ((l ++ addTo q i).length + (r1.length + r2.length + r3.length + r4.length) ≤ 100000) := by
        have h1 := HLEN.out
        have h2 := addTo_le q (show i + 1 ≤ n by omega)
        rw [addTo_succ, hqi] at h2
        unfold Hid
        simp only [List.length_append] at h1 h2 ⊢
        omega
      have HEQ : Hid (l ++ addTo q i ++ r1 ++ r2 ++ r3 ++ r4 = l ++ addTo q (i + 1)) := by unfold Hid; rw [addTo_succ, hqi]; simp
      obtain ⟨w1, hw1⟩ : ∃ w1, w1 = wr.alloc (.cells #[.int .i64 (code : Int), .int .i64 pos, .string nm, .pointer iv, .pointer vv, .slice ta tn tc, .slice ea en ec] 97) := ⟨_, rfl⟩
      have hb1 : Below wr.heap.size wr w1 := by rw [hw1]; exact (Below.refl _ _).alloc (Nat.le_refl _) _
      have HB_x0 : Hid (Below nb w w1) := HB.out.trans (hb1.mono (by omega))
      have HU_x0 := Lib.hid (HU.out.on hb1)
      have HK_x0 := Lib.hid (HKK.out.trans (UseK.below hb1 (by omega)))
      have HOW : Hid (¬ OwnN w1 nb wr.heap.size) := fun ⟨v, q1, q2⟩ => by
        obtain ⟨v0, z1, z2⟩ := HU.out.c
        have e0 : w1.cell? ⟨nb, 0, none⟩ = some v0 := (hb1.cell (p := ⟨nb, 0, none⟩) (by simp; omega)).trans ((cell_blk z1).trans rfl)
        rw [e0] at q1
        cases q1
        have := (z2.lt _ q2).2
        omega
      have HSB : Hid (w1.heap[wr.heap.size]? = some (.cells #[.int .i64 (code : Int), .int .i64 pos, .string nm, .pointer iv, .pointer vv, .slice ta tn tc, .slice ea en ec] 97 (0, 0))) := by rw [hw1]; exact new_blk _ _
      have A1 := Lib.hid a1
      have A2 := Lib.hid a2
      have A3 := Lib.hid a3
      have A4 := Lib.hid a4
      clear c0 c1 c2 c3 c4 c5 c6 hcell a1 a2 a3 a4 hqi hb1
      generalize hla : l ++ addTo q i = la at *
      clear hla
      go_upto_region 3 with fail
      rw [← hw1]
      clear hw1 kc0 kc1 kc2 kc3 kc4 kc5 kc6
      have m3 : w1.cell? ⟨wr.heap.size, 3, none⟩ = some (.pointer iv) := (cell_blk HSB.out).trans rfl
      have m3' : wr.heap.size < w1.heap.size := lt_blk HSB.out
      have HC3 := Lib.hid (HAX.out w1 _ _ _ A1.out HB_x0.out HU_x0.out (by have := HLI.out; (try simp only [List.length_append]); omega))
      go_wp2_with fail
      refine HC3.out.mono ?_
      rintro e x1 ⟨rfl, hb_, hu_, hk_⟩
      have HK_x1 := Lib.hid (HK_x0.out.trans hk_)
      have HB_x1 : Hid (Below nb w x1) := HB_x0.out.trans hb_
      have HU_x1 := Lib.hid hu_
      have HSB_x1 : Hid (x1.heap[wr.heap.size]? = some (.cells #[.int .i64 (code : Int), .int .i64 pos, .string nm, .pointer iv, .pointer vv, .slice ta tn tc, .slice ea en ec] 97 (0, 0))) := (hk_.k _ m3' (by omega) HOW.out).1.trans HSB.out
      have HOW_x1 := Lib.hid (hk_.k _ m3' (by omega) HOW.out).2
      clear hb_ hu_ hk_ m3 m3' HC3
      have m4 : x1.cell? ⟨wr.heap.size, 4, none⟩ = some (.pointer vv) := (cell_blk HSB_x1.out).trans rfl
      have m4' : wr.heap.size < x1.heap.size := lt_blk HSB_x1.out
      have HC4 := Lib.hid (HAX.out x1 _ _ _ A2.out HB_x1.out HU_x1.out (by have := HLI.out; (try simp only [List.length_append]); omega))
      go_wp2_with fail
      refine HC4.out.mono ?_
      rintro e x2 ⟨rfl, hb_, hu_, hk_⟩
      have HK_x2 := Lib.hid (HK_x1.out.trans hk_)
      have HB_x2 : Hid (Below nb w x2) := HB_x1.out.trans hb_
      have HU_x2 := Lib.hid hu_
      have HSB_x2 : Hid (x2.heap[wr.heap.size]? = some (.cells #[.int .i64 (code : Int), .int .i64 pos, .string nm, .pointer iv, .pointer vv, .slice ta tn tc, .slice ea en ec] 97 (0, 0))) := (hk_.k _ m4' (by omega) HOW_x1.out).1.trans HSB_x1.out
      have HOW_x2 := Lib.hid (hk_.k _ m4' (by omega) HOW_x1.out).2
      clear hb_ hu_ hk_ m4 m4' HC4
      have m5 : x2.cell? ⟨wr.heap.size, 5, none⟩ = some (.slice ta tn tc) := (cell_blk HSB_x2.out).trans rfl
      have m5' : wr.heap.size < x2.heap.size := lt_blk HSB_x2.out
      have HC5 := Lib.hid (HAS.out x2 _ _ _ A3.out HB_x2.out HU_x2.out (by have := HLI.out; (try simp only [List.length_append]); omega))
      go_wp2_with fail
      refine HC5.out.mono ?_
      rintro e x3 ⟨rfl, hb_, hu_, hk_⟩
      have HK_x3 := Lib.hid (HK_x2.out.trans hk_)
      have HB_x3 : Hid (Below nb w x3) := HB_x2.out.trans hb_
      have HU_x3 := Lib.hid hu_
      have HSB_x3 : Hid (x3.heap[wr.heap.size]? = some (.cells #[.int .i64 (code : Int), .int .i64 pos, .string nm, .pointer iv, .pointer vv, .slice ta tn tc, .slice ea en ec] 97 (0, 0))) := (hk_.k _ m5' (by omega) HOW_x2.out).1.trans HSB_x2.out
      have HOW_x3 := Lib.hid (hk_.k _ m5' (by omega) HOW_x2.out).2
      clear hb_ hu_ hk_ m5 m5' HC5
      have m6 : x3.cell? ⟨wr.heap.size, 6, none⟩ = some (.slice ea en ec) := (cell_blk HSB_x3.out).trans rfl
      have m6' : wr.heap.size < x3.heap.size := lt_blk HSB_x3.out
      have HC6 := Lib.hid (HAS.out x3 _ _ _ A4.out HB_x3.out HU_x3.out (by have := HLI.out; (try simp only [List.length_append]); omega))
      go_wp2_with fail
      refine HC6.out.mono ?_
      rintro e x4 ⟨rfl, hb_, hu_, hk_⟩
      have HK_x4 := Lib.hid (HK_x3.out.trans hk_)
      have HB_x4 : Hid (Below nb w x4) := HB_x3.out.trans hb_
      have HU_x4 := Lib.hid hu_
      clear hb_ hu_ hk_ m6 m6' HC6
      go_wp2_with fail
      go_roundg (n - (i + 1))
      case measure => omega
      case rel => exact ⟨i + 1, by omega, rfl, by go_num, HB_x4, by unfold Hid; rw [← HEQ.out]; exact HU_x4.out, HK_x4⟩
    · have hlt' : ¬ (i : Int) < (n : Int) := by omega
      have hei : i = n := by omega
      subst hei
      go_wp2_with fail
      exact bodyPost_end (results_none rfl _ _ _) rfl ⟨rfl, HB.out, HU.out, HKK.out⟩
end Go.Proofs.YtfcdphgggdioeaaGreatDoor
/- sym: eachOfStmts' contract; eachExpr. -/
namespace Go.Proofs.YtfcdphgggdioeaaGreatDoor
open Go.RowKit Go.Maps
open Tp (Bs X S Pr)

theorem us_rs (of : Bs) : ∀ (ar : List S), addTo (fun i => ((ar[i]?).map fun y => Tp.us of (Tp.rs [y])).getD []) ar.length = Tp.us of (Tp.rs ar) := by
  intro ar
  induction ar with
  | nil => simp [addTo, Tp.rs, Tp.us]
  | cons x l ih =>
    rw [rs_cons, Tp.us_app, ← ih]
    unfold addTo
    rw [List.length_cons, List.range_succ_eq_map, List.map_cons, List.flatten_cons, List.map_map]
    have e2 : ((fun i => (((x :: l)[i]?).map fun y => Tp.us of (Tp.rs [y])).getD []) ∘ Nat.succ) = fun i => ((l[i]?).map fun y => Tp.us of (Tp.rs [y])).getD [] := by
      funext i
      simp
    rw [e2]
    simp
theorem part_use {w : World} {ob nb : Nat} {of : Bs} (hnb : nb < w.heap.size) {D : Nat → Prop} (hD : ∀ b, D b → b < nb) (l : List X) (vs : List Value) (hrep : RepL w D l vs) (hle : vs.length ≤ 1) :
    (∃ a, vs.headD (.pointer none) = .pointer a) ∧ AskU w ob nb of (vs.headD (.pointer none)) (Tp.us of (Tp.rx l)) := by
  have hvl := RepL.len _ _ hrep
  match l, vs, hrep with
  | [], vs, hrep =>
    rw [RepL] at hrep
    subst hrep
    refine ⟨⟨none, rfl⟩, fun W' l' _ _ hu' _ => ?_⟩
    have : Tp.us of (Tp.rx []) = [] := by simp [Tp.rx, Tp.us]
    rw [this]
    exact eachWithin_nil hu'
  | [y], vs, hrep =>
    obtain ⟨yb, a1, a2⟩ := RepL.get _ _ hrep 0 (by simp)
    have hv : vs = [.pointer (some ⟨yb, 0, none⟩)] := by
      match vs, hle, hvl with
      | [v], _, _ => simp at a1; rw [a1]
    subst hv
    exact ⟨⟨_, rfl⟩, eachWithin_all _ y (Nat.le_refl _) w D yb hD hnb hrep⟩
  | y :: z :: t, vs, hrep => simp at hvl; omega
theorem eachOfStmts_all {ob nb : Nat} {of : Bs} (hof : of ≠ []) : ∀ (n : Nat) (l : List S), SizeOf.sizeOf l ≤ n → ∀ (w : World) (D : Nat → Prop) (v : Value) (cs : List Value), (∀ b, D b → b < nb) → nb < w.heap.size → RepS w D l cs → OwnS w D v l.length cs →
    AskUS w ob nb of v (Tp.us of (Tp.rs l)) := by
  intro n
  induction n with
  | zero => intro l hn; cases l <;> simp at hn <;> omega
  | succ n ih =>
    intro l hn w D v cs hD hnb hrep hown W lst hbW _ hu hlen
    have hk : ∀ b, D b → b < w.heap.size → W.heap[b]? = w.heap[b]? ∧ D b := fun b hb _ => ⟨hbW.block b (hD b hb), hb⟩
    have hrep := hrep.mono' hk
    have hown := hown.mono hk
    have hnbW : nb < W.heap.size := Nat.lt_of_lt_of_le hnb hbW.size
    rw [← us_rs] at hlen ⊢
    have hav : ∃ a c, v = .slice a l.length c ∧ l.length ≤ 9223372036854775807 ∧ ∀ i, i < l.length → ∃ g, a = some ⟨g, 0, none⟩ ∧ g < nb ∧ ∀ j, j < 7 → W.cell? ⟨g, i * 7 + j, none⟩ = cs[i * 7 + j]? := by
      rcases hown with ⟨q1, q2⟩ | ⟨g, cap, cur, q1, q2, q3, q4, q5, q6, q7⟩
      · exact ⟨none, 0, by rw [q2]; exact q1, by omega, fun i hi => by omega⟩
      · refine ⟨_, cap, q1, ?_, fun i hi => ⟨g, rfl, hD g q2, fun j hj => ?_⟩⟩
        · have : maxLen = 9223372036854775807 := rfl
          omega
        · rw [cell_blk q3, ← Array.getElem?_toList, ← q7, List.getElem?_take_of_lt (by omega)]
    obtain ⟨a, c, rfl, hln, hcell⟩ := hav
    refine eachOfStmts_walk (fun i hi => ?_) hln hnbW hu (by simpa only [List.length_append] using hlen)
    rcases hx : l[i] with ⟨code, pos, nm, ix, vl, th, el⟩
    have hxi : l[i]? = some ⟨code, pos, nm, ix, vl, th, el⟩ := by rw [List.getElem?_eq_getElem hi, hx]
    obtain ⟨tv, ev, ls, vs, tcs, ecs, q1, q2, q3, q4, q5, q6, q7, q8, q9⟩ := RepS.get _ _ hrep i code pos nm ix vl th el hxi
    obtain ⟨g, g1, g2, g3⟩ := hcell i hi
    have hsz : SizeOf.sizeOf l[i] < SizeOf.sizeOf l := List.sizeOf_lt_of_mem (List.getElem_mem hi)
    rw [hx] at hsz
    simp at hsz
    obtain ⟨⟨iv, hiv⟩, hA1⟩ := part_use (ob := ob) (of := of) hnbW hD ix ls q2 q3
    obtain ⟨⟨vv, hvv⟩, hA2⟩ := part_use (ob := ob) (of := of) hnbW hD vl vs q4 q5
    obtain ⟨ta, tc, rfl⟩ := q7.shape
    obtain ⟨ea, ec, rfl⟩ := q9.shape
    rw [hiv] at hA1 q1
    rw [hvv] at hA2 q1
    have hc := fun j (hj : j < 7) => (g3 j hj).trans (q1 j hj)
    refine ⟨g, code, pos, bs nm, iv, vv, ta, ea, th.length, tc, el.length, ec, _, _, _, _, g1, g2, hc 0 (by omega), hc 1 (by omega), hc 2 (by omega), hc 3 (by omega), hc 4 (by omega), hc 5 (by omega), hc 6 (by omega), hA1, hA2, ih th (by omega) W D _ tcs hD hnbW q6 q7, ih el (by omega) W D _ ecs hD hnbW q8 q9, ?_⟩
    rw [hxi, Option.map_some, Option.getD_some, rs_one, Tp.us_app, Tp.us_app, Tp.us_app, Tp.us_app]
    have e0 : Tp.us of (if code = 1 then [(⟨if ix.isEmpty then 2 else 3, pos, [], nm, 0⟩ : Tp.R)] else []) = [] := by
      split
      · have : ([] : Bs) ≠ of := fun e => hof e.symm
        simp [Tp.us, this]
      · rfl
    rw [e0]
    simp
set_option maxRecDepth 100000 in
set_option maxHeartbeats 4000000 in
theorem eachExpr_walk {w : World} {ob nb : Nat} {of nm : Bs} {l : List Bs} {inn gn pn bn ic gc pc bc : Nat} {ia ga pa ba : Option Addr} {q : Nat → List Bs} {qb : List Bs} (hnb : nb < w.heap.size) (hu : UseSt w ob nb of l) (hlen : (l ++ addTo q pn ++ qb).length ≤ 100000)
    (hP : ∀ i, i < pn → ∃ (g : Nat) (x0 : Bs) (x1 : Nat) (x2 : Bool) (y3 y4 y5 : Option Addr) (n3 n4 n5 c3 c4 c5 : Nat), pa = some ⟨g, 0, none⟩ ∧ g < nb ∧ w.cell? ⟨g, i * 6, none⟩ = some (.string (bs x0)) ∧ w.cell? ⟨g, i * 6 + 1, none⟩ = some (.int .i64 (x1 : Int)) ∧ w.cell? ⟨g, i * 6 + 2, none⟩ = some (.bool x2) ∧ w.cell? ⟨g, i * 6 + 3, none⟩ = some (.slice y3 n3 c3) ∧ w.cell? ⟨g, i * 6 + 4, none⟩ = some (.slice y4 n4 c4) ∧ w.cell? ⟨g, i * 6 + 5, none⟩ = some (.slice y5 n5 c5) ∧ AskUS w ob nb of (.slice y5 n5 c5) (q i))
    (hB : AskUS w ob nb of (.slice ba bn bc) qb) (hpn : pn ≤ 1000) :
    Calls Tryz.prog 51 #[.agg #[.string (bs nm), .slice ia inn ic, .slice ga gn gc, .slice pa pn pc, .slice ba bn bc], usedV ob nb] w (UseP w ob nb of (l ++ addTo q pn ++ qb)) := by
  obtain ⟨w0, hw0⟩ : ∃ w0, w0 = w.alloc (.cells #[.string (bs nm), .slice ia inn ic, .slice ga gn gc, .slice pa pn pc, .slice ba bn bc] 28) := ⟨_, rfl⟩
  have hb0 : Below w.heap.size w w0 := by rw [hw0]; exact (Below.refl _ _).alloc (Nat.le_refl _) _
  have hk0 : w0.heap[w.heap.size]? = some (.cells #[.string (bs nm), .slice ia inn ic, .slice ga gn gc, .slice pa pn pc, .slice ba bn bc] 28 (0, 0)) := by rw [hw0]; exact new_blk _ _
  have hs0 : w.heap.size < w0.heap.size := lt_blk hk0
  have HOW0 : Hid (¬ OwnN w0 nb w.heap.size) := fun ⟨v, q1, q2⟩ => by
    obtain ⟨v0, z1, z2⟩ := hu.c
    have e0 : w0.cell? ⟨nb, 0, none⟩ = some v0 := (hb0.cell (p := ⟨nb, 0, none⟩) hnb).trans ((cell_blk z1).trans rfl)
    rw [e0] at q1
    cases q1
    have := (z2.lt _ q2).2
    omega
  have HU0 : Hid (UseSt w0 ob nb of (l ++ addTo q 0)) := by unfold Hid; simpa [addTo] using hu.on hb0
  have HB0 : Hid (Below nb w w0) := hb0.mono (by omega)
  have HK0 := Lib.hid (UseK.below hb0 hnb)
  obtain ⟨k0, k1, k2, k3, k4⟩ := cell_box5' hk0
  have HBL := Lib.hid hk0
  have HP := Lib.hid hP
  have HBD : Hid (∀ W l, Below nb w W → UseSt W ob nb of l → l.length + qb.length ≤ 100000 → Calls Tryz.prog 80 #[.slice ba bn bc, .func (.func 52) #[] #[.pointer (some ⟨ob, 0, none⟩), .pointer (some ⟨nb, 0, none⟩)]] W (UseP W ob nb of (l ++ qb))) := fun W l a b c => hB W l a (by omega) b c
  have HLEN := Lib.hid hlen
  have hpn' : (pn : Int) ≤ 1000 := by omega
  clear hP hB hlen hb0 hk0 hu k0 k1 k2 k4
  unfold usedV
  go_enter Tryz.func51, Tryz.ntmps51
  go_upto_region 1 with fail
  rw [← hw0]
  clear hw0
  go_wp2_with fail
  go_loopg [9] pn (fun k vi wr => ∃ i : Nat, i ≤ pn ∧ k = pn - i ∧ vi = .int .i64 (i : Int) ∧ Hid (Below nb w wr) ∧ Hid (UseSt wr ob nb of (l ++ addTo q i)) ∧ Hid (UseK nb w0 wr))
  case atStart => exact ⟨0, by omega, by omega, rfl, HB0, HU0, UseK.below (Below.refl _ _) (by omega)⟩
  case round =>
    obtain ⟨i, hid, hk, rfl, HB, HU, HKK⟩ := hrel
    have hszr := HB.out.size
    have hszr0 := HKK.out.s
    by_cases hlt : i < pn
    · have hlt' : (i : Int) < (pn : Int) := by omega
      obtain ⟨g, x0, x1, x2, y3, y4, y5, n3, n4, n5, c3, c4, c5, hag, hgl, d0, d1, d2, d3, d4, d5, hask⟩ := HP.out i hlt
      subst hag
      have hcell : ∀ (o : Nat) (u : Value), w.cell? ⟨g, o, none⟩ = some u → wr.cell? ⟨g, o, none⟩ = some u := fun o u h => (HB.out.cell (p := ⟨g, o, none⟩) hgl).trans h
      have kc0 := hcell _ _ d0
      have kc1 := hcell _ _ d1
      have kc2 := hcell _ _ d2
      have kc3 := hcell _ _ d3
      have kc4 := hcell _ _ d4
      have kc5 := hcell _ _ d5
      have hglr : g < wr.heap.size := by omega
      obtain ⟨w1, hw1⟩ : ∃ w1, w1 = wr.alloc (.cells #[.string (bs x0), .int .i64 (x1 : Int), .bool x2, .slice y3 n3 c3, .slice y4 n4 c4, .slice y5 n5 c5] 62) := ⟨_, rfl⟩
      have hb1 : Below wr.heap.size wr w1 := by rw [hw1]; exact (Below.refl _ _).alloc (Nat.le_refl _) _
      have hk1 : w1.heap[wr.heap.size]? = some (.cells #[.string (bs x0), .int .i64 (x1 : Int), .bool x2, .slice y3 n3 c3, .slice y4 n4 c4, .slice y5 n5 c5] 62 (0, 0)) := by rw [hw1]; exact new_blk _ _
      have m5 : w1.cell? ⟨wr.heap.size, 5, none⟩ = some (.slice y5 n5 c5) := (cell_blk hk1).trans rfl
      have hs1 : wr.heap.size < w1.heap.size := lt_blk hk1
      have HB1 : Hid (Below nb w w1) := HB.out.trans (hb1.mono (by omega))
      have HK1 := Lib.hid (HKK.out.trans (UseK.below hb1 (by omega)))
      have hcall := hask w1 _ HB1.out (by omega) (HU.out.on hb1) (by
        have h1 := HLEN.out
        have h2 := addTo_le q (show i + 1 ≤ pn by omega)
        rw [addTo_succ] at h2
        simp only [List.length_append] at h1 h2 ⊢
        omega)
      have HC : Hid (Calls Tryz.prog 80 #[.slice y5 n5 c5, .func (.func 52) #[] #[.pointer (some ⟨ob, 0, none⟩), .pointer (some ⟨nb, 0, none⟩)]] w1 (UseP w1 ob nb of (l ++ addTo q (i + 1)))) := by
        unfold Hid
        rw [addTo_succ, ← List.append_assoc]
        exact hcall
      clear d0 d1 d2 d3 d4 d5 hcell hask hb1 hk1 hcall
      go_upto_region 4 with fail
      rw [← hw1]
      clear hw1 kc0 kc1 kc2 kc3 kc4 kc5
      go_wp2_with fail
      refine HC.out.mono ?_
      rintro e w2 ⟨rfl, hb2, hu2, hk2⟩
      have HB2 : Hid (Below nb w w2) := HB1.out.trans hb2
      have HU2 := Lib.hid hu2
      have HK2 := Lib.hid (HK1.out.trans hk2)
      clear hb2 hu2 hk2 HC m5
      go_wp2_with fail
      go_roundg (pn - (i + 1))
      case measure => omega
      case rel => exact ⟨i + 1, by omega, rfl, by go_num, HB2, HU2, HK2⟩
    · have hlt' : ¬ (i : Int) < (pn : Int) := by omega
      have hei : i = pn := by omega
      subst hei
      have e4 := (HKK.out.k w.heap.size hs0 (by omega) HOW0.out).1.trans HBL.out
      have m4 := (cell_box5' e4).2.2.2.2
      have hl4 : w.heap.size < wr.heap.size := lt_blk e4
      have HC := Lib.hid (HBD.out wr _ HB.out HU.out (by have := HLEN.out; simp only [List.length_append] at this ⊢; omega))
      clear e4
      go_wp2_with fail
      refine HC.out.mono ?_
      rintro e w2 ⟨rfl, hb2, hu2, hk2⟩
      have HB2 : Hid (Below nb w w2) := HB.out.trans hb2
      have HU2 := Lib.hid hu2
      have HK2 := Lib.hid (HK0.out.trans (HKK.out.trans hk2))
      clear hb2 hu2 hk2 HC m4
      go_wp2_with fail
      exact bodyPost_end (results_none rfl _ _ _) rfl ⟨rfl, HB2.out, HU2.out, HK2.out⟩
end Go.Proofs.YtfcdphgggdioeaaGreatDoor
/- sym: eachExpr's contract. -/
namespace Go.Proofs.YtfcdphgggdioeaaGreatDoor
open Go.RowKit Go.Maps
open Tp (Bs X S Pr)

def qOf (of : Bs) (l : List Pr) (i : Nat) : List Bs := ((l[i]?).map fun p => Tp.us of (Tp.rs p.body)).getD []
theorem us_ps (of : Bs) : ∀ (l : List Pr), addTo (qOf of l) l.length = Tp.us of ((l.map fun p => Tp.rs p.body).flatten) := by
  intro l
  induction l with
  | nil => simp [addTo, Tp.us]
  | cons x l ih =>
    rw [List.map_cons, List.flatten_cons, Tp.us_app, ← ih]
    unfold addTo
    rw [List.length_cons, List.range_succ_eq_map, List.map_cons, List.flatten_cons, List.map_map]
    have e2 : (qOf of (x :: l)) ∘ Nat.succ = qOf of l := by
      funext i
      simp [qOf]
    rw [e2]
    simp [qOf]
theorem eachExpr_all {m : Tp.M} {of : Bs} (hof : of ≠ []) (hpc : m.procs.length ≤ 1000) (hct : (Tp.allR m).length ≤ 100000) {w : World} {ob nb : Nat} {ia ga pa ba : Option Addr} {ic gc pc bc : Nat} (hnb : nb < w.heap.size) (h : MB w nb m ia ga pa ba ic gc pc bc) (hu : UseSt w ob nb of []) :
    Calls Tryz.prog 51 #[.agg #[.string (bs m.name), .slice ia m.imports.length ic, .slice ga m.vars.length gc, .slice pa m.procs.length pc, .slice ba m.body.length bc], usedV ob nb] w (UseP w ob nb of (Tp.us of (Tp.allR m))) := by
  have he : Tp.us of (Tp.allR m) = ([] : List Bs) ++ addTo (qOf of m.procs) m.procs.length ++ Tp.us of (Tp.rs m.body) := by
    rw [us_ps, List.nil_append]
    unfold Tp.allR
    rw [Tp.us_app]
  have hln := Tp.us_len of (Tp.allR m)
  rw [he] at hln ⊢
  refine eachExpr_walk hnb hu (by omega) (fun i hi => ?_) ?_ hpc
  · obtain ⟨pcs, p1, p2⟩ := h.pr
    obtain ⟨g, cap, q1, q2, q3, q4⟩ := row_cell p2 (by omega)
    cases q1
    obtain ⟨pv, vv, bv, bcs', r1, r2, r3, r4, r5⟩ := repp_get m.procs pcs p1 i hi
    obtain ⟨y3, c3, rfl⟩ := r2.shape
    obtain ⟨y4, c4, rfl⟩ := r3.shape
    obtain ⟨y5, c5, rfl⟩ := r5.shape
    have hc := fun j (hj : j < 6) => (q4 (i * 6 + j) (by omega)).trans (r1 j hj)
    refine ⟨g, m.procs[i].name, m.procs[i].pos, m.procs[i].seen, y3, y4, y5, _, _, _, c3, c4, c5, rfl, q2, hc 0 (by omega), hc 1 (by omega), hc 2 (by omega), hc 3 (by omega), hc 4 (by omega), hc 5 (by omega), ?_⟩
    have : qOf of m.procs i = Tp.us of (Tp.rs m.procs[i].body) := by unfold qOf; rw [List.getElem?_eq_getElem hi]; rfl
    rw [this]
    exact eachOfStmts_all hof _ _ (Nat.le_refl _) w _ _ _ (fun b hb => hb) hnb r4 r5
  · obtain ⟨bcs, b1, b2⟩ := h.bd
    exact eachOfStmts_all hof _ _ (Nat.le_refl _) w _ _ _ (fun b hb => hb) hnb b1 b2
end Go.Proofs.YtfcdphgggdioeaaGreatDoor
/- sym.Used's contract. -/
namespace Go.Proofs.YtfcdphgggdioeaaGreatDoor
open Go.RowKit Go.Maps
open Tp (Bs X S Pr)

theorem MB.to {w w' : World} {m : Tp.M} {ia ga pa ba : Option Addr} {ic gc pc bc B : Nat} (h : MB w w.heap.size m ia ga pa ba ic gc pc bc) (k : Below w.heap.size w w') (hB : w.heap.size ≤ B) : MB w' B m ia ga pa ba ic gc pc bc := by
  have hk : ∀ b, b < w.heap.size → b < w.heap.size → w'.heap[b]? = w.heap[b]? ∧ b < B := fun b hi _ => ⟨k.block b hi, Nat.lt_of_lt_of_le hi hB⟩
  obtain ⟨pcs, p1, p2⟩ := h.pr
  obtain ⟨bcs, b1, b2⟩ := h.bd
  exact ⟨h.im.mono hk, h.gl.mono hk, ⟨pcs, p1.mono hk _ _, p2.mono hk⟩, ⟨bcs, b1.mono' hk, b2.mono hk⟩⟩
end Go.Proofs.YtfcdphgggdioeaaGreatDoor
