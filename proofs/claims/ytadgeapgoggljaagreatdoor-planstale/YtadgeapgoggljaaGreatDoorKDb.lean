import Derived.Test.YtadgeapgoggljaaGreatDoorKDa
/- PlanStale, walked. -/
namespace Go.Proofs.YtadgeapgoggljaaGreatDoor
open Go.RowKit Go.Maps
open Tp (Bs)

set_option maxRecDepth 100000 in
set_option maxHeartbeats 4000000 in
theorem planStale_post {w : World} {B : Nat} (hv : VarsC B w) (hB : B ≤ w.heap.size) {ns : List Bs} {na : Option Addr} {nc : Nat} (hns : StrsAt w ns na) (kk : Int) :
    Calls Tryz.prog 3 #[.slice na ns.length nc, .int .i64 kk] w fun e w' => e = .returned (.bool true) ∧ Below w.heap.size w w' := by
  have HSH := Lib.hid (short_post (nc := nc) hns)
  have HNS := Lib.hid hns
  have HV := Lib.hid hv
  have HOD := Lib.hid (ordered_post hv hB)
  clear hns hv
  obtain ⟨nn, hnq⟩ : ∃ nn, nn = ns.length := ⟨_, rfl⟩
  rw [← hnq] at HSH ⊢
  have HNQ := Lib.hid hnq
  clear hnq
  go_enter Tryz.func3, Tryz.ntmps3
  go_wp2_with fail
  refine HSH.out.mono ?_
  rintro e w0 ⟨hq, rfl⟩
  rcases hq with rfl | ⟨rfl, hn5, hn9⟩
  · clear HSH HNS HV
    go_wp2_with fail
    go_ret
    exact ⟨rfl, Below.refl _ _⟩
  have HN5 := Lib.hid hn5
  have HN9 := Lib.hid hn9
  clear HSH hn5 hn9
  go_wp2_with fail
  refine HOD.out.mono ?_
  rintro e w1 ⟨rfl, hb1⟩
  have HMO := Lib.hid (modules_post (nc := nc) (HV.out.on' hB hb1) (by have := hb1.size; omega) (HNS.out.on hb1) (by rw [← HNQ.out]; exact HN5.out) HN9.out)
  rw [← HNQ.out] at HMO
  have HB1 := Lib.hid hb1
  clear hb1 HOD
  go_wp2_with fail
  refine HMO.out.mono ?_
  rintro e w2 ⟨mb, n, f, F, rfl, hmb, hn5, hMF, hb2⟩
  obtain ⟨K, hM2, hKF⟩ := hMF.mods (by omega)
  have HB2 : Hid (Below w0.heap.size w0 w2) := HB1.out.trans (hb2.mono HB1.out.size)
  have HF2 := Lib.hid hMF
  have HM2 := Lib.hid hM2
  have HKF := Lib.hid hKF
  have HS1 := Lib.hid (stale_post (same := True) (wv := .map (some mb)) (ch := []) (ca := none) (cc := 0) hMF hM2 hKF (Or.inl ⟨trivial, rfl⟩) ⟨fun i hi => by simp at hi⟩ (fun x hx => by cases hx) List.nodup_nil (fun q => absurd trivial q))
  rw [stL_none] at HS1
  have hkn := hM2.n
  clear hMF hM2 hKF hb2 HMO
  go_wp2_with fail
  refine HS1.out.mono ?_
  rintro e w3 ⟨a3, c3, rfl, _, hb3⟩
  have HB3 : Hid (Below w0.heap.size w0 w3) := HB2.out.trans (hb3.mono HB2.out.size)
  have HF3 := Lib.hid (HF2.out.on hb3)
  have HM3 := Lib.hid (HM2.out.on hb3)
  obtain ⟨w4, hw4⟩ : ∃ w4, w4 = w3.alloc (.cells #[] 9) := ⟨_, rfl⟩
  have hb4 : Below w3.heap.size w3 w4 := by rw [hw4]; exact (Below.refl _ _).alloc (Nat.le_refl _) _
  have hr4 : w4.ownsRow w3.heap.size 9 1 (.slice (some ⟨w3.heap.size, 0, none⟩) 0 0) 0 (strs []) := by
    rw [hw4]
    exact ⟨rfl, Or.inr ⟨w3.heap.size, 0, #[], rfl, Nat.le_refl _, new_blk _ _, Nat.le_refl _, by unfold maxLen; omega, rfl, rfl⟩⟩
  have HR4 := Lib.hid hr4
  have hM4 := HM3.out.on hb4
  obtain ⟨D, hown, hD⟩ := hM4.m.own
  have HL0 := Lib.hid (LeftK.start hD hM4.key)
  have HOWN := Lib.hid hown
  have HB34 := Lib.hid hb4
  obtain ⟨i1, hi, hz0, hz1, hz2⟩ := info_parts Tryz.infoString'
  have HLN : Hid ((([] : List Bs).length : Int) = 0) := rfl
  have h00 : ([] : List Bs).length = 0 := rfl
  rw [h00]
  clear hb3 HF2 HM2 HS1 hb4 hr4 hM4 hown hD h00
  go_upto_region 9 with fail
  rw [← hw4]
  clear hw4
  go_wp2_with (at_range; refine wpList_range_own _ rfl _ 25 rfl 9 38 skey Tryz.underlying25 heldV mb n D rfl HOWN.out ?_; intro w5 hrg5 hg5 hs5)
  go_frame
  have hb5 : Below w4.heap.size w4 w5 := (Below.refl _ _).grown hg5 (Nat.le_refl _) (fun k hk => by cases hk)
  have HRG5 := Lib.hid hrg5
  have HR5 : Hid (w5.ownsRow w3.heap.size 9 1 (.slice (some ⟨w3.heap.size, 0, none⟩) 0 0) 0 (strs [])) := owns_keep HR4.out (fun b _ hl _ => hb5.block b hl)
  have HB5 : Hid (Below w3.heap.size w3 w5) := HB34.out.trans (hb5.mono HB34.out.size)
  obtain ⟨r, hr⟩ : ∃ r, r = w4.heap.size := ⟨_, rfl⟩
  rw [← hr] at HRG5 ⊢
  have hr3 : w3.heap.size ≤ r := by have := HB34.out.size; omega
  have hmb3 : mb < w3.heap.size := HM3.out.m.lt
  have HKLn := Lib.hid HM3.out.kl
  clear hrg5 hg5 hs5 hb5 HOWN HR4 HB34 hr
  go_loopg [6] (Maps.size D) (fun k v6 wr => ∃ left d1 ta tc, Hid (wr.ranges Tryz.prog 9 heldV mb r n D left k) ∧ Hid (LeftK K d1 left) ∧ v6 = .slice ta d1.length tc ∧ Hid (wr.ownsRow w3.heap.size 9 1 (.slice ta d1.length tc) d1.length (strs d1)) ∧ Hid (Below w3.heap.size w3 wr))
  case atStart => exact ⟨_, [], _, _, HRG5, HL0, rfl, HR5, HB5⟩
  case round =>
    obtain ⟨left, d1, ta, tc, HRG, HLK, rfl, HRw, HBr⟩ := hrel
    clear HRG5 HL0 HR5 HB5
    have hsr := HBr.out.size
    have hdl : d1.length ≤ K.length := Tp.nodup_le HLK.out.1 HLK.out.2.1
    go_wp2_with (first | (at_next; refine wpList_next_ranges _ rfl _ rfl 9 skey heldV (fun x : Bs => .string (bs x)) (fun v : Value => v) (fun key kl h => (skey_inv' h).imp fun _ q => q.1) (fun v _ _ => ⟨v, rfl⟩) mb r n D left _ rfl HRG.out ?_ ?_))
    · intro _ hdone
      have hdK := HLK.out.done hdone
      have hpm : d1.Perm K := perm_of HLK.out.1 HM3.out.nd hdK
      have HSR : Hid (Calls Tryz.prog 8 #[.slice ta d1.length tc] wr fun e w' => e = .returned (.tuple #[]) ∧ w'.ownsRow w3.heap.size 9 1 (.slice ta d1.length tc) d1.length (strs (sK K)) ∧ wr.grownBy w' (Value.slice ta d1.length tc).ownBlock) := by
        have := sortM_post HRw.out (by omega)
        rw [show (d1.mergeSort fun x y => decide (x ≤ y)) = sK K from sK_perm hpm] at this
        exact this
      have hlK : d1.length = K.length := hpm.length_eq
      rw [hlK] at HSR HRw ⊢
      obtain ⟨kl, hkl⟩ : ∃ kl, kl = K.length := ⟨_, rfl⟩
      have HKL := Lib.hid hkl
      rw [← hkl] at HSR HRw hkn ⊢
      have hkn' : (kl : Int) ≤ 100 := by omega
      clear hdone hdK hpm hlK hdl HRG HLK hkl
      go_wp2_with fail
      refine HSR.out.mono ?_
      rintro e w6 ⟨rfl, how, hgr⟩
      have hb36 : Below w3.heap.size w3 w6 := HBr.out.trans ((Below.refl _ _).grown hgr hsr (fun k hk => (HRw.out.lt k hk).1))
      have HB36 := Lib.hid hb36
      have HB06 : Hid (Below w0.heap.size w0 w6) := HB3.out.trans (hb36.mono HB3.out.size)
      have hF6 := HF3.out.on hb36
      have hM6 := HM3.out.on hb36
      have hS6 : StrsAt w6 (sK K) ta := own_strsAt (l := sK K) (m := kl) (by rw [sK_len, ← HKL.out]; exact how)
      have HS6 := Lib.hid hS6
      have HF6 := Lib.hid hF6
      have HM6 := Lib.hid hM6
      clear how hgr hb36 HSR HRw hF6 hM6 hS6
      by_cases hk0 : kl = 0
      · subst hk0
        have h0 : ((0 : Nat) : Int) = 0 := rfl
        go_wp2_with fail
        go_ret
        exact ⟨rfl, HB06.out⟩
      · have hk0' : ¬ (kl : Int) = 0 := by omega
        have HPK := Lib.hid (pick_any w6 kk kl (by omega) (by omega))
        go_wp2_with fail
        refine HPK.out.mono ?_
        rintro e w7 ⟨⟨j, hj, rfl⟩, rfl⟩
        have hj' : (j : Int) < (kl : Int) := by omega
        have hj0 : ¬ (j : Int) < 0 := by omega
        have hjs : j < (sK K).length := by rw [sK_len]; have := HKL.out; omega
        obtain ⟨g, o, hga, hgl, hcell⟩ := HS6.out.c j hjs
        subst hga
        have hxK : (sK K)[j] ∈ K := sK_mem.1 (List.getElem_mem hjs)
        generalize (sK K)[j] = x at *
        obtain ⟨w8, hw8⟩ : ∃ w8, w8 = w7.alloc (.cells #[.string (bs x)] 9) := ⟨_, rfl⟩
        have hb8 : Below w7.heap.size w7 w8 := by rw [hw8]; exact (Below.refl _ _).alloc (Nat.le_refl _) _
        have hk8 : w8.heap[w7.heap.size]? = some (.cells #[.string (bs x)] 9 (0, 0)) := by rw [hw8]; exact new_blk _ _
        have hS8 : StrsAt w8 [x] (some ⟨w7.heap.size, 0, none⟩) := ⟨fun k hk => ⟨_, _, rfl, lt_blk hk8, by
          match k, hk with
          | 0, _ => exact (cell_blk hk8).trans rfl⟩⟩
        have HST : Hid (Calls Tryz.prog 7 #[.map (some mb), .map (some mb), .slice (some ⟨w7.heap.size, 0, none⟩) 1 1] w8 (StaleP w8 [x])) := by
          have := stale_post (same := True) (wv := .map (some mb)) (ch := [x]) (cc := 1) (HF6.out.on hb8) (HM6.out.on hb8) HKF.out (Or.inl ⟨trivial, rfl⟩) hS8 (fun y hy => by simp at hy; rw [hy]; exact hxK) (by simp) (fun q => absurd trivial q)
          rw [stL_one HM6.out.nd hxK] at this
          exact this
        have HB78 := Lib.hid hb8
        clear hb8 hk8 hS8 HPK
        go_wp2_with fail
        rw [← hw8]
        clear hw8
        refine HST.out.mono ?_
        rintro e w9 ⟨a9, c9, rfl, hs9, hb9⟩
        have h1 : ([x] : List Bs).length = 1 := rfl
        rw [h1]
        obtain ⟨w10, hw10⟩ : ∃ w10, w10 = w9.alloc (.cells #[.string (bs x)] 9) := ⟨_, rfl⟩
        have hb10 : Below w9.heap.size w9 w10 := by rw [hw10]; exact (Below.refl _ _).alloc (Nat.le_refl _) _
        have hk10 : w10.heap[w9.heap.size]? = some (.cells #[.string (bs x)] 9 (0, 0)) := by rw [hw10]; exact new_blk _ _
        have hS10 : StrsAt w10 [x] (some ⟨w9.heap.size, 0, none⟩) := ⟨fun k hk => ⟨_, _, rfl, lt_blk hk10, by
          match k, hk with
          | 0, _ => exact (cell_blk hk10).trans rfl⟩⟩
        have HEQ : Hid (Calls Tryz.prog 10 #[.slice a9 1 c9, .slice (some ⟨w9.heap.size, 0, none⟩) 1 1] w10 fun e w' => e = .returned (.bool true) ∧ Below w10.heap.size w10 w') := by
          have := seq_post (c1 := c9) (c2 := 1) (hs9.on hb10) hS10 (by simp)
          rw [decide_eq_true (rfl : [x] = [x])] at this
          exact this
        have HB710 : Hid (Below w7.heap.size w7 w10) := (HB78.out.trans (hb9.mono HB78.out.size)).trans (hb10.mono (by have := HB78.out.size; have := hb9.size; omega))
        clear hs9 hb9 hb10 hk10 hS10 HST h1
        go_wp2_with fail
        rw [← hw10]
        clear hw10
        refine HEQ.out.mono ?_
        rintro e w11 ⟨rfl, hb11⟩
        have hb711 : Below w7.heap.size w7 w11 := HB710.out.trans (hb11.mono HB710.out.size)
        have HS11 := Lib.hid (HS6.out.on hb711)
        have HB11 : Hid (Below w0.heap.size w0 w11) := HB06.out.trans (hb711.mono HB06.out.size)
        have HST2 : Hid (Calls Tryz.prog 7 #[.map none, .map (some mb), .slice (some ⟨g, o, none⟩) kl tc] w11 fun e w' => ∃ a c, e = .returned (.slice a kl c) ∧ StrsAt w' (sK K) a ∧ Below w11.heap.size w11 w') := by
          have := stale_post (same := False) (wv := .map none) (ch := sK K) (cc := tc) (HF6.out.on hb711) (HM6.out.on hb711) HKF.out (Or.inr ⟨fun q => q, rfl⟩) HS11.out (fun y hy => sK_mem.1 hy) (sK_nodup HM6.out.nd) (fun _ y hy => sK_mem.2 hy)
          rw [stL_all, sK_len, ← HKL.out] at this
          refine this.mono ?_
          rintro e w' ⟨a, c, he, h1, h2⟩
          rw [sK_len, ← HKL.out] at he
          exact ⟨a, c, he, h1, h2⟩
        clear hb11 hb711 HEQ hcell hgl
        go_wp2_with fail
        refine HST2.out.mono ?_
        rintro e w12 ⟨a12, c12, rfl, hs12, hb12⟩
        have HEQ2 : Hid (Calls Tryz.prog 10 #[.slice a12 kl c12, .slice (some ⟨g, o, none⟩) kl tc] w12 fun e w' => e = .returned (.bool true) ∧ Below w12.heap.size w12 w') := by
          have := seq_post (c1 := c12) (c2 := tc) hs12 (HS11.out.on hb12) (by rw [sK_len, ← HKL.out]; omega)
          rw [decide_eq_true (rfl : sK K = sK K), sK_len, ← HKL.out] at this
          exact this
        have HB12 : Hid (Below w0.heap.size w0 w12) := HB11.out.trans (hb12.mono HB11.out.size)
        clear hs12 hb12 HST2
        go_wp2_with fail
        refine HEQ2.out.mono ?_
        rintro e w13 ⟨rfl, hb13⟩
        have HB13 : Hid (Below w0.heap.size w0 w13) := HB12.out.trans (hb13.mono HB12.out.size)
        clear hb13 HEQ2
        go_wp2_with fail
        go_ret
        exact ⟨rfl, HB13.out⟩
    · intro x cv kl y1 y2 w9 cnt' hkey hlk hR hat hrg9 hlt9 hg9 hs9 hen
      obtain ⟨x', hx1, hx2⟩ := skey_inv' hkey
      have hxx : x = x' := by injection hx1 with hx1; rw [← bs_toList x, ← bs_toList x', hx1]
      subst hxx
      rw [hx2] at hlk hrg9
      obtain ⟨hxK, hxn, hLK2⟩ := HLK.out.next hlk
      have hit := ranges_iter HRG.out
      have HB9 : Hid (Below w3.heap.size w3 w9) := HBr.out.trans ((Below.refl _ _).grown hg9 hsr (fun k hk => by cases hk; exact hr3))
      have hR9 : w9.ownsRow w3.heap.size 9 1 (.slice ta d1.length tc) d1.length (strs d1) := owns_keep HRw.out (fun b _ hl q => hg9.block b hl (fun e => own_ne_iter HRw.out hit (by rw [q]; exact e)))
      obtain ⟨w10, hw10⟩ : ∃ w10, w10 = w9.alloc (.cells #[.string (bs x)] 9) := ⟨_, rfl⟩
      have hb10 : Below w9.heap.size w9 w10 := by rw [hw10]; exact (Below.refl _ _).alloc (Nat.le_refl _) _
      have hk10 : w10.heap[w9.heap.size]? = some (.cells #[.string (bs x)] 9 (0, 0)) := by rw [hw10]; exact new_blk _ _
      have HROW : Hid (w10.ownsRow w3.heap.size 9 1 (.slice ta d1.length tc) d1.length (strs d1)) := owns_keep hR9 (fun b _ hl _ => hb10.block b hl)
      have HRW10 := HROW
      have HNEWS : Hid (∀ j u, [Value.string (bs x)][j]? = some u → w10.cell? ((⟨w9.heap.size, 0, none⟩ : Addr).add j) = some u) := fun j u hj => by
        rw [Addr.add_lit]
        cases j with
        | zero => simp at hj; subst hj; exact (cell_blk hk10).trans rfl
        | succ j => simp at hj
      have HB10 : Hid (Below w3.heap.size w3 w10) := HB9.out.trans (hb10.mono HB9.out.size)
      have hs10 := HB10.out.size
      have hrl9 := hrg9.lt
      have hml9 : mb < w9.heap.size := by have := HB9.out.size; omega
      have HRG10 := Lib.hid (ranges_keep hrg9 (hb10.block mb hml9) (hb10.block r hrl9))
      have HLK2 := Lib.hid hLK2
      have hd100 : d1.length ≤ 100 := by omega
      have HDX : Hid ((d1 ++ [x]).length = d1.length + 1) := by show _ = _; simp
      obtain ⟨dl, hdq⟩ : ∃ dl, dl = d1.length := ⟨_, rfl⟩
      have HDQ := Lib.hid hdq
      rw [← hdq] at HROW hd100 ⊢
      rw [hw10] at HROW HNEWS
      clear hkey hlk hR hat hrg9 hg9 hs9 hx1 hx2 hxn hLK2 HRG HLK HBr hit hR9 hb10 hk10 hdq hdl hrl9 hml9 HRw
      go_wp2_with (at_builtin; refine wpList_append_where _ rfl _ _ 22 rfl w3.heap.size 9 i1 (.string ⟨#[]⟩) 1 16 Tryz.underlying22 hi hz0 hz1 hz2 rfl (by decide) _ dl _ rfl HROW.out ⟨w9.heap.size, 0, none⟩ 1 1 [.string (bs x)] rfl rfl HNEWS.out (by intro u hu; simp at hu; subst hu; rfl) (by unfold maxLen; omega) (by omega) (by rw [← hw10]; omega) ?_)
      rw [← hw10]
      intro v8 w11 h11 g11 _
      have g11' : w10.grownBy w11 (Value.slice ta d1.length tc).ownBlock := by rw [← HDQ.out]; exact g11
      have HB11 : Hid (Below w3.heap.size w3 w11) := HB10.out.trans ((Below.refl _ _).grown g11' hs10 (fun k hk => (HRW10.out.lt k hk).1))
      obtain ⟨ta', tc', hv8⟩ := owns_shape h11
      subst hv8
      have HR11 : Hid (w11.ownsRow w3.heap.size 9 1 (.slice ta' (d1 ++ [x]).length tc') (d1 ++ [x]).length (strs (d1 ++ [x]))) := by
        show World.ownsRow _ _ _ _ _ _ _
        rw [HDX.out, ← strs_snoc', ← HDQ.out]
        exact h11
      have HRG11 := Lib.hid (ranges_keep HRG10.out ((HB11.out.block mb hmb3).trans (HB10.out.block mb hmb3).symm) (g11'.block r HRG10.out.lt (fun e => own_ne_iter HRW10.out (ranges_iter HRG10.out) e.symm)))
      have HLn : Hid (dl + 1 = (d1 ++ [x]).length) := by show _ = _; rw [HDX.out, HDQ.out]
      clear h11 g11 g11' HROW HNEWS hw10 hen
      go_wp2_with fail
      go_roundg cnt'
      case measure => exact hlt9
      case rel => exact ⟨_, d1 ++ [x], ta', tc', HRG11, HLK2, by rw [← HLn.out], HR11, HB11⟩
end Go.Proofs.YtadgeapgoggljaaGreatDoor
