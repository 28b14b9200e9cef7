import Derived.Test.YtfcdphgggdioeaaGreatDoorKLa
import Derived.KernelRfl
/- Chapter 9: importsThere, walked. -/
namespace Go.Proofs.YtfcdphgggdioeaaGreatDoor
open Go.RowKit Go.Maps
open Tp (Bs)

def edT (K : List Bs) (im : Bs → List Bs) (dn : List Bs) (x : Bs) (i : Nat) : List (Bs × Bs) := Tp.edges K im dn ++ (((im x).take i).filter fun y => decide (y ∈ K)).map fun y => (y, x)
theorem edT_zero (K : List Bs) (im : Bs → List Bs) (dn : List Bs) (x : Bs) : edT K im dn x 0 = Tp.edges K im dn := by simp [edT]
theorem edT_all (K : List Bs) (im : Bs → List Bs) (dn : List Bs) (x : Bs) : edT K im dn x (im x).length = Tp.edges K im (dn ++ [x]) := by simp [edT, Tp.edges]
theorem edT_in {K : List Bs} {im : Bs → List Bs} {dn : List Bs} {x : Bs} {i : Nat} (h : i < (im x).length) (hk : (im x)[i] ∈ K) : edT K im dn x (i + 1) = edT K im dn x i ++ [((im x)[i], x)] := by
  unfold edT
  rw [List.take_succ_eq_append_getElem h, List.filter_append, List.map_append, List.append_assoc]
  simp [hk]
theorem edT_out {K : List Bs} {im : Bs → List Bs} {dn : List Bs} {x : Bs} {i : Nat} (h : i < (im x).length) (hk : (im x)[i] ∉ K) : edT K im dn x (i + 1) = edT K im dn x i := by
  unfold edT
  rw [List.take_succ_eq_append_getElem h, List.filter_append, List.map_append]
  simp [hk]
theorem edges_len {K : List Bs} {im : Bs → List Bs} (h6 : ∀ x ∈ K, (im x).length ≤ 6) : ∀ {dn : List Bs}, (∀ x ∈ dn, x ∈ K) → (Tp.edges K im dn).length ≤ 6 * dn.length
  | [], _ => by simp [Tp.edges]
  | n :: t, hs => by
    have ih := edges_len h6 (dn := t) (fun x hx => hs x (by simp [hx]))
    have e : Tp.edges K im (n :: t) = (((im n).filter fun i => decide (i ∈ K)).map fun i => (i, n)) ++ Tp.edges K im t := by simp [Tp.edges]
    rw [e, List.length_append, List.length_map, List.length_cons]
    have := List.length_filter_le (fun i => decide (i ∈ K)) (im n)
    have := h6 n (hs n (by simp))
    omega
theorem byE_len (E : List (Bs × Bs)) (k : Bs) : (Tp.byE E k).length ≤ E.length := by
  unfold Tp.byE
  rw [List.length_map]
  exact List.length_filter_le _ _
theorem waitE_len (E : List (Bs × Bs)) (k : Bs) : Tp.waitE E k ≤ E.length := List.length_filter_le _ _
theorem edT_len {K : List Bs} {im : Bs → List Bs} {dn : List Bs} {x : Bs} {i : Nat} (h6 : ∀ x ∈ K, (im x).length ≤ 6) (hs : ∀ x ∈ dn, x ∈ K) (hx : x ∈ K) : (edT K im dn x i).length ≤ 6 * dn.length + 6 := by
  unfold edT
  rw [List.length_append, List.length_map]
  have := edges_len h6 hs
  have := List.length_filter_le (fun i => decide (i ∈ K)) ((im x).take i)
  have := h6 x hx
  rw [List.length_take] at *
  omega
/- what is there of both maps -/
structure Adj (w : World) (B ib wq n : Nat) (E : List (Bs × Bs)) : Prop where
  c : ∃ ni nw fi fw, ni ≤ n ∧ nw ≤ n ∧ AdjI w B ib ni E fi ∧ AdjW w wq nw (Tp.waitE E) fw
  bi : B ≤ ib
  bw : B ≤ wq
  ne : ib ≠ wq
theorem Adj.on {w w' : World} {B ib wq n : Nat} {E : List (Bs × Bs)} (h : Adj w B ib wq n E) (k : Below w.heap.size w w') : Adj w' B ib wq n E := by
  obtain ⟨ni, nw, fi, fw, h1, h2, h3, h4⟩ := h.c
  exact ⟨⟨ni, nw, fi, fw, h1, h2, h3.on k, h4.on (k.block _ h4.m.lt)⟩, h.bi, h.bw, h.ne⟩
theorem Adj.mono {w : World} {B ib wq n n' : Nat} {E : List (Bs × Bs)} (h : Adj w B ib wq n E) (k : n ≤ n') : Adj w B ib wq n' E := by
  obtain ⟨ni, nw, fi, fw, h1, h2, h3⟩ := h.c
  exact ⟨⟨ni, nw, fi, fw, by omega, by omega, h3⟩, h.bi, h.bw, h.ne⟩
theorem map_ne_iter {w : World} {b r n : Nat} {f : Bs → Option Value} (h : MapV w b n f) (hr : ∃ a b c d, w.heap[r]? = some (.mapIter a b c d)) : b ≠ r := by
  intro q
  obtain ⟨_, _, _, _, h1⟩ := hr
  obtain ⟨es, c, h2⟩ := h.isMap'
  rw [q, h1] at h2
  cases h2
theorem Adj.iter {w w' : World} {B ib wq n r : Nat} {E : List (Bs × Bs)} (h : Adj w B ib wq n E) (hr : ∃ a b c d, w.heap[r]? = some (.mapIter a b c d)) (k : w.grownBy w' (some r)) : Adj w' B ib wq n E := by
  obtain ⟨ni, nw, fi, fw, h1, h2, h3, h4⟩ := h.c
  refine ⟨⟨ni, nw, fi, fw, h1, h2, h3.keep (fun b hl q => k.block b hl (fun e => ?_)), h4.on (k.block _ h4.m.lt (fun e => map_ne_iter h4.m hr (by injection e)))⟩, h.bi, h.bw, h.ne⟩
  have e' : b = r := by injection e
  subst e'
  rcases q with q | ⟨x, q⟩
  · exact map_ne_iter h3.m hr q.symm
  · exact own_ne_iter (h3.row x) hr q
theorem waitE_put (E : List (Bs × Bs)) (a x : Bs) : Tp.waitE (E ++ [(a, x)]) = fun y => if y = x then Tp.waitE E x + 1 else Tp.waitE E y := by
  funext y
  rw [Tp.waitE_snoc]
  by_cases e : x = y
  · subst e; simp
  · rw [if_neg e, if_neg (fun q => e q.symm)]
set_option maxRecDepth 100000 in
set_option maxHeartbeats 4000000 in
theorem imports_post {w : World} {mb n : Nat} {f : Bs → Option Value} {K : List Bs} {im : Bs → List Bs} (h : Mods w mb n f K im) :
    Calls Tryz.prog 23 #[.map (some mb)] w fun e w' => ∃ ib wq dn, e = .returned (.tuple #[.map (some ib), .map (some wq)]) ∧ dn.Nodup ∧ (∀ x, x ∈ dn ↔ x ∈ K) ∧ Adj w' w.heap.size ib wq (6 * K.length) (Tp.edges K im dn) ∧ Below w.heap.size w w' := by
  have hmm := @run_makeMap Tryz.prog
  have HM := Lib.hid h
  obtain ⟨D, hown, hD⟩ := h.m.own
  have hn100 := h.n
  have hml := h.m.lt
  obtain ⟨w2, hw2⟩ : ∃ w2, w2 = (w.alloc (.map #[] 0)).alloc (.map #[] 0) := ⟨_, rfl⟩
  have hb2 : Below w.heap.size w w2 := by rw [hw2]; exact ((Below.refl _ _).alloc (Nat.le_refl _) _).alloc (by simp) _
  have hs2 : w2.heap.size = w.heap.size + 1 + 1 := by rw [hw2]; simp
  have hi2 : AdjI w2 w.heap.size w.heap.size 0 [] (fun _ => none) := ⟨by rw [hw2]; exact (MapV.made w).on (Below.heap_alloc _ _ _ (by simp)), fun k => World.ownsRow_nil _ _ _ _, fun k k' b q => by cases q⟩
  have hq2 : AdjW w2 (w.heap.size + 1) 0 (Tp.waitE []) (fun _ => none) := ⟨by
    have := MapV.made (w.alloc (.map #[] 0))
    rw [show (w.alloc (.map #[] 0)).heap.size = w.heap.size + 1 by simp] at this
    rw [hw2]
    exact this, fun x => rfl⟩
  have HA2 : Hid (Adj w2 w.heap.size w.heap.size (w.heap.size + 1) 0 []) := ⟨⟨0, 0, _, _, Nat.le_refl _, Nat.le_refl _, hi2, hq2⟩, Nat.le_refl _, by omega, by omega⟩
  have HOWN := Lib.hid (show w2.ownsMap Tryz.prog 9 heldV mb n D by
    obtain ⟨es, clock, q1, q2⟩ := hown
    exact ⟨es, clock, (hb2.block mb hml).trans q1, q2⟩)
  have HD := Lib.hid hD
  have HB2 := Lib.hid hb2
  have HL0 := Lib.hid (LeftK.start hD h.key)
  have HS2 := Lib.hid hs2
  clear hi2 hq2 hown hD hb2 h hs2
  go_enter Tryz.func23, Tryz.ntmps23
  go_upto_region 2 with fail
  rw [← hw2]
  obtain ⟨wq, hwq⟩ : ∃ wq, wq = w.heap.size + 1 := ⟨_, rfl⟩
  rw [← hwq] at HA2 ⊢
  have hwq1 : w.heap.size < wq := by omega
  have hwq2 : wq < w2.heap.size := by have := HS2.out; omega
  clear hw2 hwq
  go_wp2_with (at_range; refine wpList_range_own _ rfl _ 23 rfl 9 28 skey Tryz.underlying23 heldV mb n D rfl HOWN.out ?_; intro w3 hrg3 hg3 hs3)
  go_frame
  clear hmm
  have HB3 : Hid (Below w.heap.size w w3) := HB2.out.trans ((Below.refl _ _).grown hg3 HB2.out.size (fun k hk => by cases hk))
  have HA3 : Hid (Adj w3 w.heap.size w.heap.size wq 0 []) := HA2.out.on ((Below.refl _ _).grown hg3 (Nat.le_refl _) (fun k hk => by cases hk))
  have HRG3 := Lib.hid hrg3
  have hrw : w.heap.size < w2.heap.size := by omega
  have HH6 : Hid (∀ x ∈ K, (im x).length ≤ 6) := fun x hx => by
    obtain ⟨_, _, _, _, _, _, _, _, _, _, _, _, _, _, q, _⟩ := HM.out.mod x hx
    exact q
  obtain ⟨rb, hrb⟩ : ∃ rb, rb = w2.heap.size := ⟨_, rfl⟩
  rw [← hrb] at HRG3 hrw hwq2 ⊢
  obtain ⟨i1, hi, hz0, hz1, hz2⟩ := info_parts Tryz.infoString'
  clear hrg3 hg3 hs3 HA2 HOWN HB2 hrb HS2
  go_loopg [] (Maps.size D) (fun k wr => ∃ left dn, Hid (wr.ranges Tryz.prog 9 heldV mb rb n D left k) ∧ Hid (LeftK K dn left) ∧ Hid (Adj wr w.heap.size w.heap.size wq (6 * dn.length) (Tp.edges K im dn)) ∧ Hid (Below w.heap.size w wr))
  case atStart => exact ⟨_, [], HRG3, HL0, HA3, HB3⟩
  case round =>
    obtain ⟨left, dn, HRG, HLK, HA, HBR⟩ := hrel
    clear HRG3 HL0 HA3 HB3
    go_wp2_with (first | (at_next; refine wpList_next_ranges _ rfl _ rfl 9 skey heldV (fun x : Bs => .string (bs x)) (fun v : Value => v) (fun key kl h => (skey_inv' h).imp fun _ q => q.1) (fun v _ _ => ⟨v, rfl⟩) mb rb n D left _ rfl HRG.out ?_ ?_))
    · intro _ hdone
      have HDN := Lib.hid (HLK.out.done hdone)
      have HLE : Hid (6 * dn.length ≤ 6 * K.length) := by have := Tp.nodup_le HLK.out.1 HLK.out.2.1; show _ ≤ _; omega
      clear hdone
      go_wp2_with fail
      go_ret2
      exact ⟨_, _, dn, rfl, HLK.out.1, HDN.out, HA.out.mono HLE.out, HBR.out⟩
    · intro x cv kl y1 y2 w9 cnt' hkey hlk hR hat hrg9 hlt9 hg9 hs9 hen
      obtain ⟨x', hx1, hx2⟩ := skey_inv' hkey
      have hxx : x = x' := by injection hx1 with hx1; rw [← bs_toList x, ← bs_toList x', hx1]
      subst hxx
      rw [hx2] at hat hlk hrg9
      cases hR
      have hfx := range_entry' HD.out hat
      obtain ⟨hxK, hxn, hLK2⟩ := HLK.out.next hlk
      obtain ⟨nm, ia, ic, ga, gn, gc, pa, pn, pc, ba, bn, bc, hfm, hst, him6, himl⟩ := HM.out.mod x hxK
      rw [hfm] at hfx
      cases hfx
      have hb9 : Below w.heap.size w w9 := HBR.out.trans ((Below.refl _ _).grown hg9 HBR.out.size (fun k hk => by cases hk; omega))
      have hA9 := HA.out.iter (ranges_iter HRG.out) hg9
      obtain ⟨w10, hw10⟩ : ∃ w10, w10 = w9.alloc (.cells #[.string nm, .slice ia (im x).length ic, .slice ga gn gc, .slice pa pn pc, .slice ba bn bc] 28) := ⟨_, rfl⟩
      have hb910 : Below w9.heap.size w9 w10 := by rw [hw10]; exact (Below.refl _ _).alloc (Nat.le_refl _) _
      have hk10 : w10.heap[w9.heap.size]? = some (.cells #[.string nm, .slice ia (im x).length ic, .slice ga gn gc, .slice pa pn pc, .slice ba bn bc] 28 (0, 0)) := by rw [hw10]; exact new_blk _ _
      have k1 : w10.cell? ⟨w9.heap.size, 1, none⟩ = some (.slice ia (im x).length ic) := (cell_blk hk10).trans rfl
      have hl10 := lt_blk hk10
      have HB10 : Hid (Below w.heap.size w w10) := hb9.trans (hb910.mono hb9.size)
      have HA10 : Hid (Adj w10 w.heap.size w.heap.size wq (6 * dn.length + 0) (edT K im dn x 0)) := by rw [edT_zero]; exact hA9.on hb910
      have hrl9 : rb < w9.heap.size := by have := hrg9.lt; exact this
      have hml9 : mb < w9.heap.size := by have := hb9.size; omega
      have HRG10 := Lib.hid (ranges_keep hrg9 (hb910.block mb hml9) (hb910.block rb hrl9))
      have HLK2 := Lib.hid hLK2
      have HXK := Lib.hid hxK
      have HST := Lib.hid hst
      have HIML := Lib.hid himl
      have hdnl : dn.length ≤ 100 := by have := Tp.nodup_le HLK.out.1 HLK.out.2.1; omega
      have HDS := Lib.hid HLK.out.2.1
      have him6' : ((im x).length : Int) ≤ 6 := by omega
      have HXL := Lib.hid (HM.out.kl x hxK)
      obtain ⟨ln, hln⟩ : ∃ ln, ln = (im x).length := ⟨_, rfl⟩
      rw [← hln] at k1 him6 him6'
      have HLN := Lib.hid hln
      clear hkey hlk hat hrg9 hg9 hs9 hfm hst himl hb9 hA9 hb910 hk10 hxn hLK2 hx1 hx2 HRG HA HBR HLK hrl9 hml9
      rw [← hln] at hw10 hen ⊢
      clear hln
      go_upto_region 5 with fail
      rw [← hw10]
      clear hw10 hen
      go_wp2_with fail
      clear k1 hl10
      go_loopg [22] ln (fun k vi wr => ∃ i : Nat, i ≤ ln ∧ k = ln - i ∧ vi = .int .i64 (i : Int) ∧ Hid (Adj wr w.heap.size w.heap.size wq (6 * dn.length + i) (edT K im dn x i)) ∧ Hid (wr.ranges Tryz.prog 9 heldV mb rb n D (fun z => left z && !z.sameKey (.string x)) cnt') ∧ Hid (Below w.heap.size w wr))
      case atStart => exact ⟨0, by omega, by omega, rfl, HA10, HRG10, HB10⟩
      case round =>
        obtain ⟨i, hid, hk, rfl, HAr, HRr, HBr⟩ := hrel
        clear HA10 HRG10 HB10
        by_cases hlt : i < ln
        · have hlt' : (i : Int) < (ln : Int) := by omega
          have hi0 : ¬ (i : Int) < 0 := by omega
          have hil : i < (im x).length := by have := HLN.out; omega
          obtain ⟨g, o, hga, hgl, hc⟩ := (HST.out.on HBr.out).c i hil
          subst hga
          have hyl := HIML.out _ (List.getElem_mem hil)
          have hMr := HM.out.on HBr.out
          have hlk := hMr.m.look (t := 23) Tryz.underlying23 (zeroMod' wr) (im x)[i] hyl true
          simp only [if_true] at hlk
          have HIN : Hid ((im x)[i] ∈ K → edT K im dn x (i + 1) = edT K im dn x i ++ [((im x)[i], x)]) := fun q => edT_in hil q
          have HOUT : Hid ((im x)[i] ∉ K → edT K im dn x (i + 1) = edT K im dn x i) := fun q => edT_out hil q
          have HEL : Hid ((edT K im dn x i).length ≤ 606) := by have := edT_len (i := i) HH6.out HDS.out HXK.out; show _ ≤ _; omega
          have hrlr := HRr.out.lt
          have hmlr := hMr.m.lt
          generalize (im x)[i] = y at *
          by_cases hyK : y ∈ K
          · obtain ⟨nm2, ja, jc, ga2, gn2, gc2, pa2, pn2, pc2, ba2, bn2, bc2, hfm2, _⟩ := hMr.mod y hyK
            rw [hfm2] at hlk
            simp only [Option.getD_some, Option.isSome_some] at hlk
            obtain ⟨w11, hw11⟩ : ∃ w11, w11 = wr.alloc (.cells #[.string nm2, .slice ja (im y).length jc, .slice ga2 gn2 gc2, .slice pa2 pn2 pc2, .slice ba2 bn2 bc2] 28) := ⟨_, rfl⟩
            have hb11 : Below wr.heap.size wr w11 := by rw [hw11]; exact (Below.refl _ _).alloc (Nat.le_refl _) _
            have HEE := Lib.hid (HIN.out hyK)
            obtain ⟨E, hE⟩ : ∃ E, E = edT K im dn x i := ⟨_, rfl⟩
            rw [← hE] at HAr HEE HEL
            obtain ⟨ni, nw, fi, fw, hni, hnw, hI, hW⟩ := (HAr.out.on hb11).c
            have hlk2 := hI.m.look (t := 68) Tryz.underlying68 (zeroStrs' w11) y hyl false
            simp only [Bool.false_eq_true, if_false] at hlk2
            have hrow := hI.row y
            obtain ⟨va, vc, hv⟩ := owns_shape hrow
            rw [hv] at hlk2
            have hbl : (Tp.byE E y).length ≤ 606 := Nat.le_trans (byE_len _ _) HEL.out
            obtain ⟨bl, hbq⟩ : ∃ bl, bl = (Tp.byE E y).length := ⟨_, rfl⟩
            obtain ⟨w12, hw12⟩ : ∃ w12, w12 = w11.alloc (.cells #[.string (bs x)] 9) := ⟨_, rfl⟩
            have hb12 : Below w11.heap.size w11 w12 := by rw [hw12]; exact (Below.refl _ _).alloc (Nat.le_refl _) _
            have hk12 : w12.heap[w11.heap.size]? = some (.cells #[.string (bs x)] 9 (0, 0)) := by rw [hw12]; exact new_blk _ _
            have HS12 : Hid (w12.heap.size = w11.heap.size + 1) := by show _ = _; rw [hw12]; simp
            have HI12 := Lib.hid (hI.on hb12)
            have HW12 := Lib.hid (hW.on (hb12.block _ hW.m.lt))
            have HROW : Hid (w12.ownsRow w.heap.size 9 1 (.slice va bl vc) bl (strs (Tp.byE E y))) := by
              have := HI12.out.row y
              rw [hv, ← hbq] at this
              exact this
            have HNEWS : Hid (∀ j u, [Value.string (bs x)][j]? = some u → w12.cell? ((⟨w11.heap.size, 0, none⟩ : Addr).add j) = some u) := fun j u hj => by
              rw [Addr.add_lit]
              cases j with
              | zero => simp at hj; subst hj; exact (cell_blk hk12).trans rfl
              | succ j => simp at hj
            have HV := Lib.hid hv
            have HB12 : Hid (Below wr.heap.size wr w12) := hb11.trans (hb12.mono hb11.size)
            have hs12 := HB12.out.size
            have hsr := HBr.out.size
            have HBQ := Lib.hid hbq
            rw [← hbq] at hlk2 hbl
            have HYL := Lib.hid hyl
            have HNI := Lib.hid hni
            have HNW := Lib.hid hnw
            clear hb11 hb12 hk12 hI hW hrow hv hbq hE hni hnw hyl hMr hfm2 HIN HOUT
            go_upto_region 9 with fail
            rw [← hw11]
            clear hw11 hlk
            rw [hw12] at HROW HNEWS
            go_wp2_with (at_builtin; refine wpList_append_where _ rfl _ _ 22 rfl w.heap.size 9 i1 (.string ⟨#[]⟩) 1 16 Tryz.underlying22 hi hz0 hz1 hz2 rfl (by decide) _ bl _ rfl HROW.out ⟨w11.heap.size, 0, none⟩ 1 1 [.string (bs x)] rfl rfl HNEWS.out (by intro u hu; simp at hu; subst hu; rfl) (by unfold maxLen; omega) (by omega) (by rw [← hw12]; omega) ?_)
            rw [← hw12]
            intro v' w13 h13 g13 l13
            have hvv : (fi y).getD (.slice none 0 0) = .slice va bl vc := by rw [HBQ.out]; exact HV.out
            rw [← hvv] at g13 l13
            have hM13 : MapV w13 w.heap.size ni fi := HI12.out.m.on (g13.block _ HI12.out.m.lt (fun e => own_ne_map (HI12.out.row y) HI12.out.m e.symm))
            have hW13 := HW12.out.on (g13.block _ HW12.out.m.lt (fun e => own_ne_map (HI12.out.row y) HW12.out.m e.symm))
            have HM13 := Lib.hid hM13
            have HG13 := Lib.hid g13
            have HL13 := Lib.hid l13
            have HO13 := Lib.hid h13
            have HW13 := Lib.hid hW13
            have HVV := Lib.hid hvv
            clear h13 g13 l13 hM13 hW13 hlk2 hvv HROW HNEWS hw12
            go_wp2_with (at_mapUpdate; refine wpList_mapUpdate_v' _ rfl _ _ _ 68 rfl _ Tryz.underlying68 w.heap.size ni fi HM13.out (by have := HNI.out; omega) y HYL.out _ rfl rfl rfl ?_; intro w14 q1 q2 q3)
            have HI14 : Hid (AdjI w14 w.heap.size w.heap.size (ni + 1) (E ++ [(y, x)]) (updV fi y v')) := HI12.out.put (m := bl + 1) (by rw [HBQ.out]) HO13.out HG13.out (fun g hg => (HL13.out g hg).imp id (fun z => by rw [HS12.out]; exact z)) q1 q2
            have hW14 := HW13.out.on (q2.block _ HW13.out.m.lt (by omega))
            have hlk3 := hW14.m.look (t := 69) Tryz.underlying69 (zeroInt' w14) x HXL.out false
            simp only [Bool.false_eq_true, if_false] at hlk3
            rw [hW14.val x] at hlk3
            have hcw : (Tp.waitE E x : Int) ≤ 606 := by have := Nat.le_trans (waitE_len E x) HEL.out; omega
            have hcw0 : (0 : Int) ≤ (Tp.waitE E x : Int) := by omega
            obtain ⟨cw, hcq⟩ : ∃ cw : Int, cw = (Tp.waitE E x : Int) := ⟨_, rfl⟩
            rw [← hcq] at hlk3 hcw hcw0
            have HCQ := Lib.hid hcq
            have hr12 : w12.heap[rb]? = wr.heap[rb]? := HB12.out.block rb hrlr
            have hit12 : ∃ a b c d, w12.heap[rb]? = some (.mapIter a b c d) := by rw [hr12]; exact ranges_iter HRr.out
            have HR14 : Hid (w14.heap[rb]? = wr.heap[rb]?) := (q2.block rb (by have := HG13.out.size; omega) (by omega)).trans ((HG13.out.block rb (by omega) (fun e => own_ne_iter (HI12.out.row y) hit12 e.symm)).trans hr12)
            have HB14 : Hid (Below w.heap.size w w14) := ((HBr.out.trans (HB12.out.mono hsr)).trans ((Below.refl _ _).grown HG13.out (by omega) (fun k hk => ((HI12.out.row y).lt k hk).1))).trans (ext_below q2 (Nat.le_refl _) (by have := HG13.out.size; omega))
            have HW14 := Lib.hid hW14
            have hs14 : rb < w14.heap.size := by have := HG13.out.size; have := q2.size; omega
            clear q1 q2 q3 hW14 hcq hr12 hit12 HM13 HG13 HL13 HO13 HW13
            go_wp2_with fail
            rw [hlk3]
            go_wp2_with (at_mapUpdate; refine wpList_mapUpdate_v' _ rfl _ _ _ 69 rfl _ Tryz.underlying69 wq nw fw HW14.out.m (by have := HNW.out; omega) x HXL.out _ rfl rfl rfl ?_; intro w15 r1 r2 r3)
            have HB15 : Hid (Below w.heap.size w w15) := HB14.out.trans (ext_below r2 (by omega) HB14.out.size)
            have hAW := HW14.out.put (c := Tp.waitE E x + 1) (by have := HCQ.out; omega) r1
            rw [← waitE_put E y x] at hAW
            have HA15 : Hid (Adj w15 w.heap.size w.heap.size wq (6 * dn.length + (i + 1)) (edT K im dn x (i + 1))) := by
              show Adj _ _ _ _ _ _
              rw [HEE.out]
              exact ⟨⟨ni + 1, nw + 1, _, _, by have := HNI.out; omega, by have := HNW.out; omega, HI14.out.ext HW14.out.m (by omega) r2, hAW⟩, Nat.le_refl _, by omega, by omega⟩
            have HR15 : Hid (w15.ranges Tryz.prog 9 heldV mb rb n D (fun z => left z && !z.sameKey (.string x)) cnt') := ranges_keep HRr.out ((HB15.out.block mb hml).trans (HBr.out.block mb hml).symm) ((r2.block rb hs14 (by omega)).trans HR14.out)
            clear r1 r2 r3 hlk3 hAW
            go_wp2_with fail
            go_roundg (ln - (i + 1))
            case measure => omega
            case rel => exact ⟨i + 1, by omega, rfl, by go_num, HA15, HR15, HB15⟩
          · have hfn : f y = none := by
              cases hq : f y with
              | none => rfl
              | some u => exact absurd ((HM.out.key y).2 (by rw [hq]; rfl)) hyK
            rw [hfn] at hlk
            simp only [Option.getD_none, Option.isSome_none] at hlk
            obtain ⟨w11, hw11⟩ : ∃ w11, w11 = wr.alloc (.cells #[.string ⟨#[]⟩, .slice none 0 0, .slice none 0 0, .slice none 0 0, .slice none 0 0] 28) := ⟨_, rfl⟩
            have hb11 : Below wr.heap.size wr w11 := by rw [hw11]; exact (Below.refl _ _).alloc (Nat.le_refl _) _
            have HB11 : Hid (Below w.heap.size w w11) := HBr.out.trans (hb11.mono HBr.out.size)
            have HA11 : Hid (Adj w11 w.heap.size w.heap.size wq (6 * dn.length + (i + 1)) (edT K im dn x (i + 1))) := by
              show Adj _ _ _ _ _ _
              rw [HOUT.out hyK]
              exact (HAr.out.on hb11).mono (by omega)
            have HR11 := Lib.hid (ranges_keep HRr.out (hb11.block mb hmlr) (hb11.block rb hrlr))
            clear hb11 hMr HIN HOUT hfn HAr HRr
            go_upto_region 9 with fail
            rw [← hw11]
            clear hw11 hlk
            go_wp2_with fail
            go_roundg (ln - (i + 1))
            case measure => omega
            case rel => exact ⟨i + 1, by omega, rfl, by go_num, HA11, HR11, HB11⟩
        · have hlt' : ¬ (i : Int) < (ln : Int) := by omega
          have HAe : Hid (Adj wr w.heap.size w.heap.size wq (6 * (dn ++ [x]).length) (Tp.edges K im (dn ++ [x]))) := by
            have e : i = (im x).length := by have := HLN.out; omega
            have := HAr.out
            rw [e, edT_all] at this
            exact this.mono (by have := HLN.out; simp; omega)
          go_wp2_with fail
          go_roundg cnt'
          case measure => exact hlt9
          case rel => exact ⟨_, dn ++ [x], HRr, HLK2, HAe, HBr⟩
end Go.Proofs.YtfcdphgggdioeaaGreatDoor
/- Chapter 9: Order: what its loops keep. -/
namespace Go.Proofs.YtfcdphgggdioeaaGreatDoor
open Go.RowKit Go.Maps
open Tp (Bs)

theorem ext_then {b B : Nat} {w w' w'' : World} (h : Ext b w w') (k : Below B w' w'') (hB : w.heap.size ≤ B) : Ext b w w'' :=
  ⟨k.os.trans h.os, k.tape.trans h.tape, k.output.trans h.output, Nat.le_trans h.size k.size, fun i hi hn => (k.block i (by omega)).trans (h.block i hi hn)⟩
theorem Rdy.ne_iter {w : World} {rb r : Nat} {U : Nat → Prop} {l : List Bs} (h : Rdy w rb U l) (hr : ∃ a b c d, w.heap[r]? = some (.mapIter a b c d)) : ¬ U r := by
  obtain ⟨v, h1, h2, h3, _⟩ := h
  intro q
  rcases (h3 r).1 q with rfl | q
  · obtain ⟨_, _, _, _, h4⟩ := hr
    rw [h1] at h4
    cases h4
  · exact own_ne_iter h2 hr q
theorem Rdy.ne_map {w : World} {rb b n : Nat} {U : Nat → Prop} {l : List Bs} {f : Bs → Option Value} (h : Rdy w rb U l) (hm : MapV w b n f) : ¬ U b := by
  obtain ⟨v, h1, h2, h3, _⟩ := h
  intro q
  rcases (h3 b).1 q with rfl | q
  · obtain ⟨_, _, h4⟩ := hm.isMap'
    rw [h1] at h4
    cases h4
  · exact own_ne_map h2 hm q
theorem own_strsAt {w : World} {B : Nat} {a : Option Addr} {c : Nat} {l : List Bs} {m : Nat} (h : w.ownsRow B 9 1 (.slice a m c) l.length (strs l)) : StrsAt w l a := ⟨fun i hi => by
  rcases h.2 with ⟨e, q⟩ | ⟨g, cap, cur, e, q1, q2, q3, q4, q5, q6⟩
  · omega
  · injection e with e1 e2 e3
    refine ⟨g, 0, e1, lt_blk q2, ?_⟩
    rw [cell_blk q2, Nat.zero_add]
    have : (cur.toList.take (l.length * 1))[i]? = some (.string (bs l[i])) := by rw [q6]; simp [strs, List.getElem?_eq_getElem hi]
    rw [List.getElem?_take_of_lt (by omega)] at this
    simpa using this⟩
/- the number of entries, as len tells it -/
theorem mods_size {w : World} {mb n : Nat} {f : Bs → Option Value} {K : List Bs} {im : Bs → List Bs} (h : Mods w mb n f K im) (ty : TypeId) : (Builtin.len_ #[23] ty #[.map (some mb)]).run Tryz.prog w = .ok (.int .i64 (K.length : Int)) w := by
  obtain ⟨D, h1, hD⟩ := h.m.own
  obtain ⟨K2, k1, k2, k3, _⟩ := own_keys h1 hD
  have e : K.length = K2.length := Nat.le_antisymm (Tp.nodup_le h.nd (fun x hx => (k2 x).2 ((h.key x).1 hx))) (Tp.nodup_le k1 (fun x hx => (h.key x).2 ((k2 x).1 hx)))
  have := h1.len (t := 23) Tryz.underlying23 ty
  rw [k3, ← e] at this
  exact this
/- in the loops: w1 is the world behind importsThere -/
structure Lp (w1 wr : World) (wq nb nw : Nat) (W : Bs → Nat) (fw : Bs → Option Value) (U : Nat → Prop) (R : List Bs) : Prop where
  x : Ext wq w1 wr
  q : AdjW wr wq nw W fw
  r : Rdy wr nb U R
  u : ∀ b, U b → w1.heap.size ≤ b
theorem Lp.on {w1 wr w' : World} {wq nb nw : Nat} {W : Bs → Nat} {fw : Bs → Option Value} {U : Nat → Prop} {R : List Bs} (h : Lp w1 wr wq nb nw W fw U R) (k : Below wr.heap.size wr w') : Lp w1 w' wq nb nw W fw U R :=
  ⟨ext_then h.x k h.x.size, h.q.on (k.block _ h.q.m.lt), h.r.on k, h.u⟩
/- what is ready has changed -/
theorem Lp.turn {w1 wr w' : World} {wq nb nw : Nat} {W : Bs → Nat} {fw : Bs → Option Value} {U U' : Nat → Prop} {R R' : List Bs} (h : Lp w1 wr wq nb nw W fw U R) (hr : Rdy w' nb U' R') (t : Tr U U' wr w') : Lp w1 w' wq nb nw W fw U' R' :=
  ⟨ext_then h.x (t.toBelow h.x.size h.u) (Nat.le_refl _), h.q.on (t.block _ h.q.m.lt (h.r.ne_map h.q.m)), hr, fun b hb => (t.more b hb).elim (h.u b) (fun q => Nat.le_trans h.x.size q)⟩
/- one waits for one less -/
theorem Lp.less {w1 wr w' : World} {wq nb nw : Nat} {W : Bs → Nat} {fw : Bs → Option Value} {U : Nat → Prop} {R : List Bs} (h : Lp w1 wr wq nb nw W fw U R) {x : Bs} {v : Int} (hv : v = ((W x - 1 : Nat) : Int)) (hf : MapV w' wq (nw + 1) (updV fw x (.int .i64 v))) (k : Ext wq wr w') : Lp w1 w' wq nb (nw + 1) (fun y => if y = x then W x - 1 else W y) (updV fw x (.int .i64 v)) U R :=
  ⟨h.x.trans k, h.q.put hv hf, h.r.keep (fun b hb => k.block b (h.r.lt hb) (fun e => h.r.ne_map h.q.m (e ▸ hb))), h.u⟩
/- an iterator went on -/
theorem Lp.iter {w1 wr w' : World} {wq nb nw r : Nat} {W : Bs → Nat} {fw : Bs → Option Value} {U : Nat → Prop} {R : List Bs} (h : Lp w1 wr wq nb nw W fw U R) (hr : ∃ a b c d, wr.heap[r]? = some (.mapIter a b c d)) (hr1 : w1.heap.size ≤ r) (k : wr.grownBy w' (some r)) : Lp w1 w' wq nb nw W fw U R := by
  have key : ∀ b, b < wr.heap.size → b ≠ r → w'.heap[b]? = wr.heap[b]? := fun b hb hn => k.block b hb (fun e => hn (by injection e))
  refine ⟨⟨k.os.trans h.x.os, k.tape.trans h.x.tape, k.output.trans h.x.output, Nat.le_trans h.x.size k.size, fun b hb hn => (key b (Nat.lt_of_lt_of_le hb h.x.size) (by omega)).trans (h.x.block b hb hn)⟩, h.q.on (key _ h.q.m.lt (map_ne_iter h.q.m hr)), h.r.keep (fun b hb => key b (h.r.lt hb) (fun e => h.r.ne_iter hr (e ▸ hb))), h.u⟩
theorem filt_yes {d R R' : List Bs} {x : Bs} {p : Bs → Bool} (h : R.Perm (d.filter p)) (hp : p x = true) (k : R'.Perm (x :: R)) : R'.Perm ((d ++ [x]).filter p) := by
  have e : [x].filter p = [x] := by simp [hp]
  rw [List.filter_append, e]
  exact k.trans ((List.Perm.cons x h).trans (List.perm_append_singleton x _).symm)
theorem filt_no {d R : List Bs} {x : Bs} {p : Bs → Bool} (h : R.Perm (d.filter p)) (hp : p x = false) : R.Perm ((d ++ [x]).filter p) := by
  have e : [x].filter p = [] := by simp [hp]
  rw [List.filter_append, e, List.append_nil]
  exact h
/- a row of one's own has grown -/
theorem Lp.grown {w1 wr w' : World} {wq nb nw m : Nat} {W : Bs → Nat} {fw : Bs → Option Value} {U : Nat → Prop} {R : List Bs} {v : Value} {xs : List Value} (h : Lp w1 wr wq nb nw W fw U R) (ho : wr.ownsRow w1.heap.size 9 1 v m xs) (hd : ∀ b, U b → v.ownBlock ≠ some b) (g : wr.grownBy w' v.ownBlock) : Lp w1 w' wq nb nw W fw U R := by
  have key : ∀ b, b < wr.heap.size → v.ownBlock ≠ some b → w'.heap[b]? = wr.heap[b]? := fun b hb hn => g.block b hb (fun e => hn e.symm)
  refine ⟨⟨g.os.trans h.x.os, g.tape.trans h.x.tape, g.output.trans h.x.output, Nat.le_trans h.x.size g.size, fun b hb hn => (key b (Nat.lt_of_lt_of_le hb h.x.size) (fun e => by have := (ho.lt b e).1; omega)).trans (h.x.block b hb hn)⟩, h.q.on (key _ h.q.m.lt (own_ne_map ho h.q.m)), h.r.keep (fun b hb => key b (h.r.lt hb) (hd b hb)), h.u⟩
/- the row of those that were told -/
def Told (w1 wr : World) (U : Nat → Prop) (v : Value) (T : List Bs) : Prop := wr.ownsRow w1.heap.size 9 1 v T.length (strs T) ∧ ∀ b, U b → v.ownBlock ≠ some b
theorem Told.turn {w1 wr w' : World} {U U' : Nat → Prop} {v : Value} {T : List Bs} (h : Told w1 wr U v T) (t : Tr U U' wr w') : Told w1 w' U' v T :=
  ⟨owns_keep h.1 (fun b _ hl q => t.block b hl (fun u => h.2 b u q)), fun b hb q => (t.more b hb).elim (fun u => h.2 b u q) (fun z => by have := (h.1.lt b q).2; omega)⟩
theorem Told.on {w1 wr w' : World} {U : Nat → Prop} {v : Value} {T : List Bs} (h : Told w1 wr U v T) (k : Below wr.heap.size wr w') : Told w1 w' U v T := h.turn (Tr.below k)
theorem Told.ext {w1 wr w' : World} {U : Nat → Prop} {v : Value} {T : List Bs} {b n : Nat} {f : Bs → Option Value} (h : Told w1 wr U v T) (hm : MapV wr b n f) (k : Ext b wr w') : Told w1 w' U v T :=
  ⟨owns_keep h.1 (fun c _ hl q => k.block c hl (fun e => own_ne_map h.1 hm (e ▸ q))), h.2⟩
theorem Told.more {w1 wr w' : World} {U : Nat → Prop} {v v' : Value} {T : List Bs} {x : Bs} {m : Nat} (h : Told w1 wr U v T) (hU : ∀ b, U b → b < wr.heap.size) (hm : m = T.length + 1) (ho : w'.ownsRow w1.heap.size 9 1 v' m (strs T ++ [.string (bs x)])) (hl : ∀ g, v'.ownBlock = some g → v.ownBlock = some g ∨ wr.heap.size ≤ g) : Told w1 w' U v' (T ++ [x]) := by
  refine ⟨?_, fun b hb q => (hl b q).elim (h.2 b hb) (fun z => by have := hU b hb; omega)⟩
  have e : (T ++ [x]).length = m := by simp; omega
  rw [e, ← strs_snoc']
  exact ho
end Go.Proofs.YtfcdphgggdioeaaGreatDoor
/- Chapter 9: Order, walked. -/
namespace Go.Proofs.YtfcdphgggdioeaaGreatDoor
open Go.RowKit Go.Maps
open Tp (Bs)

theorem own_base {w : World} {B B' e size n : Nat} {v : Value} {xs : List Value} (h : w.ownsRow B e size v n xs) (hB : B' ≤ B) : w.ownsRow B' e size v n xs := ⟨h.1, h.2.imp id (fun ⟨g, cap, cur, q1, q2, q3⟩ => ⟨g, cap, cur, q1, Nat.le_trans hB q2, q3⟩)⟩
end Go.Proofs.YtfcdphgggdioeaaGreatDoor
/- Chapter 9: modules by their names: what modules makes of texts. -/
namespace Go.Proofs.YtfcdphgggdioeaaGreatDoor
open Go.RowKit Go.Maps
open Tp (Bs)

/- a module in memory, in blocks that D tells -/
structure MD (w : World) (D : Nat → Prop) (m : Tp.M) (ia ga pa ba : Option Addr) (ic gc pc bc : Nat) : Prop where
  im : Row w D 9 1 (.slice ia m.imports.length ic) m.imports.length (strs m.imports)
  gl : Row w D 59 4 (.slice ga m.vars.length gc) m.vars.length (gcs m.vars)
  pr : ∃ pcs, RepP w D m.procs pcs ∧ Row w D 62 6 (.slice pa m.procs.length pc) m.procs.length pcs
  bd : ∃ bcs, RepS w D m.body bcs ∧ OwnS w D (.slice ba m.body.length bc) m.body.length bcs
theorem MD.mono {w w' : World} {D D' : Nat → Prop} {m : Tp.M} {ia ga pa ba : Option Addr} {ic gc pc bc : Nat} (h : MD w D m ia ga pa ba ic gc pc bc) (hk : ∀ b, D b → b < w.heap.size → w'.heap[b]? = w.heap[b]? ∧ D' b) : MD w' D' m ia ga pa ba ic gc pc bc := by
  obtain ⟨pcs, p1, p2⟩ := h.pr
  obtain ⟨bcs, b1, b2⟩ := h.bd
  exact ⟨h.im.mono hk, h.gl.mono hk, ⟨pcs, p1.mono hk _ _, p2.mono hk⟩, ⟨bcs, b1.mono' hk, b2.mono hk⟩⟩
theorem MD.mb {w : World} {D : Nat → Prop} {m : Tp.M} {ia ga pa ba : Option Addr} {ic gc pc bc B : Nat} (h : MD w D m ia ga pa ba ic gc pc bc) (hB : ∀ b, D b → b < w.heap.size → b < B) : MB w B m ia ga pa ba ic gc pc bc := by
  have := h.mono (w' := w) (D' := fun i => i < B) (fun b hb hl => ⟨rfl, hB b hb hl⟩)
  exact ⟨this.im, this.gl, this.pr, this.bd⟩
theorem VM.mdb {B : Nat} {m : Tp.M} {v : Value} {w : World} (h : VM B m v w) : ∃ ia ga pa ba ic gc pc bc, v = .agg (mcells (bs m.name) (.slice ia m.imports.length ic) (.slice ga m.vars.length gc) (.slice pa m.procs.length pc) (.slice ba m.body.length bc)) ∧ MD w (fun b => B ≤ b) m ia ga pa ba ic gc pc bc := by
  obtain ⟨ia, ga, pa, ba, ic, gc, pc, bc, pcs, bcs, h1, h2, h3, h4, h5, h6, h7⟩ := h
  exact ⟨ia, ga, pa, ba, ic, gc, pc, bc, h1, ⟨h2, h3, ⟨pcs, h4, h5⟩, ⟨bcs, h6, h7⟩⟩⟩
theorem Row.strsAt {w : World} {D : Nat → Prop} {a : Option Addr} {c : Nat} {l : List Bs} (h : Row w D 9 1 (.slice a l.length c) l.length (strs l)) : StrsAt w l a := ⟨fun i hi => by
  rcases h with ⟨e, q, _⟩ | ⟨g, cap, cur, e, q1, q2, q3, q4, q5, q6⟩
  · omega
  · injection e with e1 e2 e3
    refine ⟨g, 0, e1, lt_blk q2, ?_⟩
    rw [cell_blk q2, Nat.zero_add]
    have : (cur.toList.take (l.length * 1))[i]? = some (.string (bs l[i])) := by rw [q6]; simp [strs, List.getElem?_eq_getElem hi]
    rw [List.getElem?_take_of_lt (by omega)] at this
    simpa using this⟩
/- one of the map's modules -/
structure ModE (w : World) (mb : Nat) (k : Bs) (v : Value) (m : Tp.M) (ia ga pa ba : Option Addr) (ic gc pc bc : Nat) : Prop where
  v : v = .agg (mcells (bs m.name) (.slice ia m.imports.length ic) (.slice ga m.vars.length gc) (.slice pa m.procs.length pc) (.slice ba m.body.length bc))
  md : MD w (fun b => b ≠ mb) m ia ga pa ba ic gc pc bc
  wm : Tp.WM m
  nm : Tp.nM m ≤ 1000
  k : m.name = k
/- a map of modules: F tells which -/
structure ModF (w : World) (mb n : Nat) (f : Bs → Option Value) (F : Bs → Option Tp.M) : Prop where
  m : MapV w mb n f
  no : ∀ k, F k = none → f k = none
  is : ∀ k m, F k = some m → ∃ v ia ga pa ba ic gc pc bc, f k = some v ∧ ModE w mb k v m ia ga pa ba ic gc pc bc
def imF (F : Bs → Option Tp.M) (k : Bs) : List Bs := match F k with
  | some m => m.imports
  | none => []
theorem ModF.on {w w' : World} {mb n : Nat} {f : Bs → Option Value} {F : Bs → Option Tp.M} (h : ModF w mb n f F) (k : Below w.heap.size w w') : ModF w' mb n f F :=
  ⟨h.m.on (k.block _ h.m.lt), h.no, fun x m hx => by
    obtain ⟨v, ia, ga, pa, ba, ic, gc, pc, bc, h1, h2⟩ := h.is x m hx
    exact ⟨v, ia, ga, pa, ba, ic, gc, pc, bc, h1, h2.v, h2.md.mono (fun b hb hl => ⟨k.block b hl, hb⟩), h2.wm, h2.nm, h2.k⟩⟩
theorem ModF.some_iff {w : World} {mb n : Nat} {f : Bs → Option Value} {F : Bs → Option Tp.M} (h : ModF w mb n f F) (k : Bs) : (f k).isSome = (F k).isSome := by
  cases hF : F k with
  | none => rw [h.no k hF]; rfl
  | some m =>
    obtain ⟨v, _, _, _, _, _, _, _, _, h1, _⟩ := h.is k m hF
    rw [h1]; rfl
theorem ModF.mods {w : World} {mb n : Nat} {f : Bs → Option Value} {F : Bs → Option Tp.M} (h : ModF w mb n f F) (hn : n ≤ 100) : ∃ K, Mods w mb n f K (imF F) ∧ ∀ x, x ∈ K ↔ (F x).isSome = true := by
  obtain ⟨D, h1, hD⟩ := h.m.own
  obtain ⟨K, k1, k2, k3, k4⟩ := own_keys h1 hD
  have hF : ∀ x ∈ K, ∃ m, F x = some m := fun x hx => by
    have := (k2 x).1 hx
    rw [h.some_iff] at this
    exact Option.isSome_iff_exists.1 this
  refine ⟨K, ⟨h.m, k1, k2, fun x hx => ?_, by omega, fun x hx => ?_⟩, fun x => by rw [k2, h.some_iff]⟩
  · obtain ⟨m, hm⟩ := hF x hx
    obtain ⟨v, ia, ga, pa, ba, ic, gc, pc, bc, h1, h2⟩ := h.is x m hm
    rw [← h2.k]
    have := Tp.okn_len h2.wm.n
    omega
  · obtain ⟨m, hm⟩ := hF x hx
    obtain ⟨v, ia, ga, pa, ba, ic, gc, pc, bc, h1, h2⟩ := h.is x m hm
    have e : imF F x = m.imports := by unfold imF; rw [hm]
    rw [e]
    refine ⟨bs m.name, ia, ic, ga, _, gc, pa, _, pc, ba, _, bc, by rw [h1, h2.v]; rfl, h2.md.im.strsAt, h2.wm.ic, fun y hy => ?_⟩
    have := Tp.okn_len (h2.wm.i y hy)
    omega
end Go.Proofs.YtfcdphgggdioeaaGreatDoor
/- slices.IndexFunc, ContainsFunc, Index, Contains, Equal of texts. -/
namespace Go.Proofs.YtfcdphgggdioeaaGreatDoor
open Go.RowKit
open Tp (Bs)

theorem bs_eq (a b : Bs) : ((bs a).toList == (bs b).toList) = decide (a = b) := by rw [bs_toList, bs_toList, Bool.eq_iff_iff, decide_eq_true_iff, beq_iff_eq]
end Go.Proofs.YtfcdphgggdioeaaGreatDoor
/- Chapter 9: ordered, walked. -/
namespace Go.Proofs.YtfcdphgggdioeaaGreatDoor
open Go.RowKit Go.Maps
open Tp (Bs)

/- a block that holds a module -/
structure MBk (w : World) (b : Nat) (m : Tp.M) (ia ga pa ba : Option Addr) (ic gc pc bc : Nat) : Prop where
  k : w.heap[b]? = some (.cells (mcells (bs m.name) (.slice ia m.imports.length ic) (.slice ga m.vars.length gc) (.slice pa m.procs.length pc) (.slice ba m.body.length bc)) 28 (0, 0))
  d : MD w (fun b => b < w.heap.size) m ia ga pa ba ic gc pc bc
theorem MBk.on {w w' : World} {b : Nat} {m : Tp.M} {ia ga pa ba : Option Addr} {ic gc pc bc : Nat} (h : MBk w b m ia ga pa ba ic gc pc bc) (k : Below w.heap.size w w') : MBk w' b m ia ga pa ba ic gc pc bc :=
  ⟨(k.block _ (lt_blk h.k)).trans h.k, h.d.mono (fun c _ hl => ⟨k.block c hl, by have := k.size; omega⟩)⟩
theorem MBk.cells {w : World} {b : Nat} {m : Tp.M} {ia ga pa ba : Option Addr} {ic gc pc bc : Nat} (h : MBk w b m ia ga pa ba ic gc pc bc) : w.cell? ⟨b, 0, none⟩ = some (.string (bs m.name)) ∧ w.cell? ⟨b, 1, none⟩ = some (.slice ia m.imports.length ic) ∧ w.cell? ⟨b, 2, none⟩ = some (.slice ga m.vars.length gc) ∧ w.cell? ⟨b, 3, none⟩ = some (.slice pa m.procs.length pc) ∧ w.cell? ⟨b, 4, none⟩ = some (.slice ba m.body.length bc) ∧ b < w.heap.size :=
  ⟨(cell_blk h.k).trans rfl, (cell_blk h.k).trans rfl, (cell_blk h.k).trans rfl, (cell_blk h.k).trans rfl, (cell_blk h.k).trans rfl, lt_blk h.k⟩
end Go.Proofs.YtfcdphgggdioeaaGreatDoor
