import Derived.Test.YtadgeapgoggljaaGreatDoorKLb
import Derived.KernelRfl
/- Chapter 9: Order, walked. -/
namespace Go.Proofs.YtadgeapgoggljaaGreatDoor
open Go.RowKit Go.Maps
open Tp (Bs)

def OrdP (w : World) (K : List Bs) (im : Bs → List Bs) (e : Ending) (w' : World) : Prop := Below w.heap.size w w' ∧ ((∃ T a c, e = .returned (.tuple #[.slice a T.length c, .nilIface]) ∧ Tp.Came K im T ∧ w'.ownsRow w.heap.size 9 1 (.slice a T.length c) T.length (strs T)) ∨ (e = .returned (.tuple #[.slice none 0 0, .iface 45 (.int .i64 11)]) ∧ Tp.Round K im))
theorem own_base {w : World} {B B' e size n : Nat} {v : Value} {xs : List Value} (h : w.ownsRow B e size v n xs) (hB : B' ≤ B) : w.ownsRow B' e size v n xs := ⟨h.1, h.2.imp id (fun ⟨g, cap, cur, q1, q2, q3⟩ => ⟨g, cap, cur, q1, Nat.le_trans hB q2, q3⟩)⟩
set_option maxRecDepth 100000 in
set_option maxHeartbeats 4000000 in
theorem order_post {w : World} {mb n : Nat} {f : Bs → Option Value} {K : List Bs} {im : Bs → List Bs} (h : Mods w mb n f K im) :
    Calls Tryz.prog 14 #[.map (some mb)] w (OrdP w K im) := by
  have HM := Lib.hid h
  have HIP := Lib.hid (imports_post h)
  have hn100 := h.n
  have hml := h.m.lt
  obtain ⟨i1, hi, hz0, hz1, hz2⟩ := info_parts Tryz.infoString'
  clear h
  go_enter Tryz.func14, Tryz.ntmps14
  go_wp2_with fail
  refine HIP.out.mono ?_
  rintro e w1 ⟨ib, wq, dn, rfl, hdn, hdk, hadj, hb1⟩
  obtain ⟨ni, nw, fi, fw, hni, hnw, hI, hW⟩ := hadj.c
  have hs1 := hb1.size
  have hbi := hadj.bi
  have hbq := hadj.bw
  have hbne := hadj.ne
  obtain ⟨w2, hw2⟩ : ∃ w2, w2 = w1.alloc (.cells #[.slice none 0 0] 73) := ⟨_, rfl⟩
  have hb2 : Below w1.heap.size w1 w2 := by rw [hw2]; exact (Below.refl _ _).alloc (Nat.le_refl _) _
  have hk2 : w2.heap[w1.heap.size]? = some (.cells #[.slice none 0 0] 73 (0, 0)) := by rw [hw2]; exact new_blk _ _
  have hs2 : w2.heap.size = w1.heap.size + 1 := by rw [hw2]; simp
  have hR2 : Rdy w2 w1.heap.size (fun b => b = w1.heap.size) [] := ⟨_, hk2, World.ownsRow_nil _ _ _ _, fun b => ⟨Or.inl, fun q => q.elim id (fun e => by cases e)⟩, fun e => by cases e⟩
  have hL2 : Lp w1 w2 wq w1.heap.size nw (Tp.waitE (Tp.edges K im dn)) fw (fun b => b = w1.heap.size) [] := ⟨Ext.below hb2, hW.on (hb2.block _ hW.m.lt), hR2, fun b q => by rw [q]; exact Nat.le_refl _⟩
  have hM2 := HM.out.on (hb1.trans (hb2.mono hs1))
  obtain ⟨D, hown, hD⟩ := hM2.m.own
  have HL0 := Lib.hid (LeftK.start hD hM2.key)
  have HD := Lib.hid hD
  have HOWN := Lib.hid hown
  have HL2 := Lib.hid hL2
  have HI1 := Lib.hid hI
  have HQ1 := Lib.hid hW.m
  have HB1 := Lib.hid hb1
  have HS2 := Lib.hid hs2
  have HDN : Hid (dn.Nodup ∧ ∀ x, x ∈ dn ↔ x ∈ K) := ⟨hdn, hdk⟩
  have HEL : Hid ((Tp.edges K im dn).length ≤ 600) := by
    have h1 := edges_len (im := im) (fun x hx => by
      obtain ⟨_, _, _, _, _, _, _, _, _, _, _, _, _, _, q, _⟩ := HM.out.mod x hx
      exact q) (fun x hx => (hdk x).1 hx)
    have h2 := Tp.nodup_le hdn (fun x hx => (hdk x).1 hx)
    show _ ≤ _
    omega
  have HKL := Lib.hid HM.out.kl
  have hnw6 : nw ≤ 600 := by omega
  have hiq : ib < w1.heap.size ∧ wq < w1.heap.size := ⟨hI.m.lt, hW.m.lt⟩
  obtain ⟨nb, hnb⟩ : ∃ nb, nb = w1.heap.size := ⟨_, rfl⟩
  rw [← hnb] at HL2
  clear hdn hdk hadj hI hW hb1 hb2 hk2 hs2 hR2 hL2 hM2 hown hD hni hnw HIP
  go_upto_region 3 with fail
  rw [← hw2, ← hnb]
  clear hw2
  go_wp2_with (at_range; refine wpList_range_own _ rfl _ 25 rfl 9 38 skey Tryz.underlying25 heldV mb n D rfl HOWN.out ?_; intro w3 hrg3 hg3 hs3)
  go_frame
  have hb3 : Below w2.heap.size w2 w3 := (Below.refl _ _).grown hg3 (Nat.le_refl _) (fun k hk => by cases hk)
  have HL3 := Lib.hid (HL2.out.on hb3)
  have HRG3 := Lib.hid hrg3
  obtain ⟨rb, hrb⟩ : ∃ rb, rb = w2.heap.size := ⟨_, rfl⟩
  rw [← hrb] at HRG3 ⊢
  have hrb1 : w1.heap.size < rb := by have := HS2.out; omega
  obtain ⟨E, hE⟩ : ∃ E, E = Tp.edges K im dn := ⟨_, rfl⟩
  rw [← hE] at HL3 HI1 HEL
  have HE := Lib.hid hE
  clear hrg3 hg3 hs3 hb3 HL2 HOWN hrb HS2 hE hnb
  go_loopg [] (Maps.size D) (fun k wr => ∃ left d1 U R, Hid (wr.ranges Tryz.prog 9 heldV mb rb n D left k) ∧ Hid (LeftK K d1 left) ∧ Hid (Lp w1 wr wq nb nw (Tp.waitE E) fw U R) ∧ Hid (R.Perm (d1.filter fun x => decide (Tp.waitE E x = 0))))
  case atStart => exact ⟨_, [], _, [], HRG3, HL0, HL3, List.Perm.refl _⟩
  case round =>
    obtain ⟨left, d1, U, R, HRG, HLK, HLp, HPR⟩ := hrel
    clear HRG3 HL0 HL3
    go_wp2_with (first | (at_next; refine wpList_next_ranges _ rfl _ rfl 9 skey heldV (fun x : Bs => .string (bs x)) (fun v : Value => v) (fun key kl h => (skey_inv' h).imp fun _ q => q.1) (fun v _ _ => ⟨v, rfl⟩) mb rb n D left _ rfl HRG.out ?_ ?_))
    · intro _ hdone
      have hd1 := HLK.out.done hdone
      have HOr : Hid (Tp.Or1 K im [] R (Tp.waitE E)) := Tp.Or1.start (HPR.out.nodup_iff.2 (HLK.out.1.filter _)) (fun x => by
        rw [HPR.out.mem_iff, List.mem_filter, hd1 x, decide_eq_true_iff]) (fun x hx => by
        rw [HE.out, Tp.waitE_edges HDN.out.1, if_pos ((HDN.out.2 x).2 hx)])
      have HT0 : Hid (Told w1 wr U (.slice none 0 0) []) := ⟨World.ownsRow_nil _ _ _ _, fun b _ q => by cases q⟩
      have HLp0 := HLp
      clear hdone hd1 HPR HRG HLK HLp HD
      go_wp2_with fail
      go_loopg [8] K.length (fun k v8 wr => ∃ T U R W fw nw ta tc, k = K.length - T.length ∧ v8 = .slice ta T.length tc ∧ nw ≤ 600 + 600 * T.length ∧ Hid (Tp.Or1 K im T R W) ∧ Hid (Lp w1 wr wq nb nw W fw U R) ∧ Hid (Told w1 wr U (.slice ta T.length tc) T))
      case atStart => exact ⟨[], U, R, _, fw, nw, none, 0, rfl, rfl, by omega, HOr, HLp0, HT0⟩
      case round =>
        clear HOr HLp0 HT0
        obtain ⟨T, U, R, W, fw, nw, ta, tc, hk, rfl, hnw, HOr, HLp, HTo⟩ := hrel
        have hTl := HOr.out.len
        have hBr : Below w.heap.size w wr := HB1.out.trans (ext_below HLp.out.x hbq hs1)
        obtain ⟨vr, c1, c2, _⟩ := HLp.out.r
        obtain ⟨ra, rc, hvr⟩ := owns_shape c2
        have c3 : wr.cell? ⟨nb, 0, none⟩ = some (.slice ra R.length rc) := by rw [← hvr]; exact (cell_blk c1).trans rfl
        have hnl := lt_blk c1
        by_cases hR : R = []
        · subst hR
          have c3' : wr.cell? ⟨nb, 0, none⟩ = some (.slice ra 0 rc) := c3
          have hlen := mods_size (HM.out.on hBr)
          have hKT : (T.length : Int) ≤ 100 := by omega
          have HBr := Lib.hid hBr
          clear c1 c2 c3 hvr hBr
          by_cases hT : T.length < K.length
          · have hT' : (T.length : Int) < (K.length : Int) := by omega
            have HRo := Lib.hid (HOr.out.round HM.out.nd hT)
            go_wp2_with fail
            go_ret2
            exact ⟨HBr.out, Or.inr ⟨rfl, HRo.out⟩⟩
          · have hT' : ¬ (T.length : Int) < (K.length : Int) := by omega
            have HCa := Lib.hid (HOr.out.came hT)
            go_wp2_with fail
            go_ret2
            exact ⟨HBr.out, Or.inl ⟨T, ta, tc, rfl, HCa.out, own_base HTo.out.1 hs1⟩⟩
        · have hR0 : 0 < R.length := List.length_pos_iff.2 hR
          have hR0' : (R.length : Int) > 0 := by omega
          have HTK := Lib.hid (take_post HLp.out.r (by omega) hR0)
          clear c1 c2 hvr hBr
          generalize R.length = rl at *
          go_wp2_with fail
          clear c3
          refine HTK.out.mono ?_
          rintro e w4 ⟨x, R', rfl, hp, hr, ht⟩
          have hO2 := HOr.out.take hp
          have hL4 := HLp.out.turn hr ht
          have hT4 := HTo.out.turn ht
          have hxK := hO2.out.1
          have HXL := Lib.hid (HKL.out x hxK)
          have HTlt : Hid (T.length < K.length) := by
            have h1 := HOr.out.len
            have h2 := hp.length_eq
            simp at h2
            show _ < _
            omega
          obtain ⟨w5, hw5⟩ : ∃ w5, w5 = w4.alloc (.cells #[.string (bs x)] 9) := ⟨_, rfl⟩
          have hb5 : Below w4.heap.size w4 w5 := by rw [hw5]; exact (Below.refl _ _).alloc (Nat.le_refl _) _
          have hk5 : w5.heap[w4.heap.size]? = some (.cells #[.string (bs x)] 9 (0, 0)) := by rw [hw5]; exact new_blk _ _
          have HL5 := Lib.hid (hL4.on hb5)
          have HT5 := Lib.hid (hT4.on hb5)
          have HNEWS : Hid (∀ j u, [Value.string (bs x)][j]? = some u → w5.cell? ((⟨w4.heap.size, 0, none⟩ : Addr).add j) = some u) := fun j u hj => by
            rw [Addr.add_lit]
            cases j with
            | zero => simp at hj; subst hj; exact (cell_blk hk5).trans rfl
            | succ j => simp at hj
          have HROW : Hid (w5.ownsRow w1.heap.size 9 1 (.slice ta T.length tc) T.length (strs T)) := HT5.out.1
          have HO2 := Lib.hid hO2
          have HXK := Lib.hid hxK
          have hs5 : w1.heap.size ≤ w5.heap.size := HL5.out.x.size
          have hT100 : T.length ≤ 100 := by omega
          have HS5 : Hid (w5.heap.size = w4.heap.size + 1) := by show _ = _; rw [hw5]; simp
          rw [hw5] at HROW HNEWS
          clear hp hr ht hO2 hL4 hT4 hb5 hk5 hxK HOr HLp HTo HTK hTl
          obtain ⟨tl, htl⟩ : ∃ tl, tl = T.length := ⟨_, rfl⟩
          have HTL := Lib.hid htl
          rw [← htl] at HROW hT100 ⊢
          clear htl
          go_wp2_with (at_builtin; refine wpList_append_where _ rfl _ _ 22 rfl w1.heap.size 9 i1 (.string ⟨#[]⟩) 1 16 Tryz.underlying22 hi hz0 hz1 hz2 rfl (by decide) _ tl _ rfl HROW.out ⟨w4.heap.size, 0, none⟩ 1 1 [.string (bs x)] rfl rfl HNEWS.out (by intro u hu; simp at hu; subst hu; rfl) (by unfold maxLen; omega) (by omega) (by rw [← hw5]; omega) ?_)
          rw [← hw5]
          intro v6 w6 h6 g6 l6
          have g6' : w5.grownBy w6 (Value.slice ta T.length tc).ownBlock := by rw [← HTL.out]; exact g6
          have hL6 := HL5.out.grown HT5.out.1 HT5.out.2 g6'
          have hT6 : Told w1 w6 U v6 (T ++ [x]) := HT5.out.more (fun b hb => HL5.out.r.lt hb) (by rw [HTL.out]) h6 (fun g hg => (l6 g hg).imp (fun z => by rw [← HTL.out]; exact z) (fun z => by have := HS5.out; omega))
          obtain ⟨ta', tc', hv6⟩ := owns_shape h6
          subst hv6
          have hI6 := HI1.out.ext HQ1.out hbne hL6.x
          have hlk6 := hI6.m.look (t := 70) Tryz.underlying70 (zeroStrs' w6) x HXL.out false
          simp only [Bool.false_eq_true, if_false] at hlk6
          obtain ⟨xa, xc, hvx⟩ := owns_shape (hI6.row x)
          rw [hvx] at hlk6
          have HVX := Lib.hid hvx
          have HST : Hid (∀ W, Ext wq w1 W → StrsAt W (Tp.byE E x) xa) := fun W hW => by
            have := (HI1.out.ext HQ1.out hbne hW).row x
            rw [HVX.out] at this
            exact own_strsAt this
          have hbl6 : (Tp.byE E x).length ≤ 600 := Nat.le_trans (byE_len _ _) HEL.out
          obtain ⟨bl, hbq6⟩ : ∃ bl, bl = (Tp.byE E x).length := ⟨_, rfl⟩
          rw [← hbq6] at hlk6 hbl6
          have HBL := Lib.hid hbq6
          have hbl6' : (bl : Int) ≤ 600 := by omega
          have HL6 := Lib.hid hL6
          have HT6 := Lib.hid hT6
          have HO6 : Hid (Tp.Or2 K im T x ((Tp.byE E x).take 0) R' W) := HO2.out
          have HCN : Hid (∀ y ∈ K, (Tp.byE E x).count y = (im y).count x) := fun y hy => by rw [HE.out]; exact Tp.count_byE HXK.out HDN.out.1 y ((HDN.out.2 y).2 hy)
          have HBM : Hid (∀ y ∈ Tp.byE E x, y ∈ K) := fun y hy => (HDN.out.2 y).1 (Tp.mem_byE (by rw [← HE.out]; exact hy)).1
          clear h6 g6 l6 g6' hL6 hT6 hI6 hvx hbq6 HROW HNEWS hw5 HL5 HT5
          go_wp2_with fail
          clear hlk6
          go_loopg [41] bl (fun k vj wr => ∃ (j : Nat) (U : Nat → Prop) (R : List Bs) (W : Bs → Nat) (fw : Bs → Option Value) (nw : Nat), j ≤ bl ∧ k = bl - j ∧ vj = .int .i64 (j : Int) ∧ nw ≤ 600 + 600 * T.length + j ∧ Hid (Tp.Or2 K im T x ((Tp.byE E x).take j) R W) ∧ Hid (Lp w1 wr wq nb nw W fw U R) ∧ Hid (Told w1 wr U (.slice ta' (tl + 1) tc') (T ++ [x])))
          case atStart => exact ⟨0, U, R', W, fw, nw, by omega, by omega, rfl, by omega, HO6, HL6, HT6⟩
          case round =>
            clear HO6 HL6 HT6
            obtain ⟨j, U, R, W, fw, nw, hjl, hk, rfl, hnw2, HO2, HLp, HTo⟩ := hrel
            by_cases hlt : j < bl
            · have hlt' : (j : Int) < (bl : Int) := by omega
              have hj0 : ¬ (j : Int) < 0 := by omega
              have hjb : j < (Tp.byE E x).length := by have := HBL.out; omega
              obtain ⟨g, o, hga, hgl, hc⟩ := (HST.out wr HLp.out.x).c j hjb
              subst hga
              have hyK := HBM.out _ (List.getElem_mem hjb)
              have HSP : Hid ((Tp.byE E x).take (j + 1) = (Tp.byE E x).take j ++ [(Tp.byE E x)[j]]) := List.take_succ_eq_append_getElem hjb
              have hpos : 0 < W (Tp.byE E x)[j] := HO2.out.pos (b' := (Tp.byE E x).drop (j + 1)) hyK (by
                have e : (Tp.byE E x).take j ++ (Tp.byE E x)[j] :: (Tp.byE E x).drop (j + 1) = Tp.byE E x := by
                  rw [← List.drop_eq_getElem_cons hjb, List.take_append_drop]
                rw [e, HCN.out _ hyK]
                exact Nat.le_refl _)
              generalize (Tp.byE E x)[j] = y at *
              have hyl := HKL.out y hyK
              have hWl : W y ≤ 1000 := by
                have h1 := HO2.out.w y hyK
                have h2 : Tp.need K im T y ≤ 6 := by
                  obtain ⟨_, _, _, _, _, _, _, _, _, _, _, _, _, _, q, _⟩ := HM.out.mod y hyK
                  exact Nat.le_trans (List.length_filter_le _ _) q
                omega
              have hlk := HLp.out.q.m.look (t := 65) Tryz.underlying65 (zeroInt' wr) y hyl false
              simp only [Bool.false_eq_true, if_false] at hlk
              rw [HLp.out.q.val y] at hlk
              obtain ⟨cw, hcq⟩ : ∃ cw, cw = W y := ⟨_, rfl⟩
              rw [← hcq] at hlk hWl hpos
              have HCQ := Lib.hid hcq
              have hcw1 : (cw : Int) ≤ 1000 := by omega
              have hcw2 : (1 : Int) ≤ (cw : Int) := by omega
              have HYK := Lib.hid hyK
              have HYL := Lib.hid hyl
              have hRl : R.length < 1000 := by
                have h1 := Tp.nodup_le HO2.out.nd (fun z hz => ((HO2.out.is z).1 hz).1)
                simp at h1
                omega
              clear hcq hyK hyl
              go_wp2_with (at_mapUpdate; refine wpList_mapUpdate_v' _ rfl _ _ _ 65 rfl _ Tryz.underlying65 wq nw fw HLp.out.q.m (by have := HTL.out; omega) y HYL.out _ rfl rfl rfl ?_; intro w7 q1 q2 q3)
              clear hlk
              have hL7 := HLp.out.less (x := y) (by have := HCQ.out; omega) q1 q2
              have hT7 := HTo.out.ext HLp.out.q.m q2
              have hlk7 := hL7.q.m.look (t := 65) Tryz.underlying65 (zeroInt' w7) y HYL.out false
              simp only [Bool.false_eq_true, if_false] at hlk7
              rw [hL7.q.val y] at hlk7
              have HL7 := Lib.hid hL7
              have HT7 := Lib.hid hT7
              have HAD := Lib.hid (add_post hL7.r hRl y)
              clear q1 q2 q3 hL7 hT7 hc hgl
              by_cases hc1 : cw = 1
              · have e7 : ((if y = y then W y - 1 else W y : Nat) : Int) = 0 := by have := HCQ.out; rw [if_pos rfl]; omega
                rw [e7] at hlk7
                clear e7
                go_wp2_with fail
                rw [hlk7]
                go_wp2_with fail
                refine HAD.out.mono ?_
                rintro e w8 ⟨rfl, U', R2, hp, hr, ht⟩
                have HL8 := Lib.hid (HL7.out.turn hr ht)
                have HT8 := Lib.hid (HT7.out.turn ht)
                have HO8 : Hid (Tp.Or2 K im T x ((Tp.byE E x).take (j + 1)) R2 (fun z => if z = y then W y - 1 else W z)) := by
                  show Tp.Or2 _ _ _ _ _ _ _
                  rw [HSP.out]
                  exact HO2.out.one HYK.out (by have := HCQ.out; omega) hp
                clear hp hr ht HAD hlk7
                go_wp2_with fail
                go_roundg (bl - (j + 1))
                case measure => omega
                case rel => exact ⟨j + 1, U', R2, _, _, nw + 1, by omega, rfl, by go_num, by omega, HO8, HL8, HT8⟩
              · obtain ⟨c7, hc7⟩ : ∃ c7 : Int, c7 = ((if y = y then W y - 1 else W y : Nat) : Int) := ⟨_, rfl⟩
                rw [← hc7] at hlk7
                have hc7' : ¬ c7 = 0 := by rw [hc7, if_pos rfl]; have := HCQ.out; omega
                have HO8 : Hid (Tp.Or2 K im T x ((Tp.byE E x).take (j + 1)) R (fun z => if z = y then W y - 1 else W z)) := by
                  show Tp.Or2 _ _ _ _ _ _ _
                  rw [HSP.out]
                  exact HO2.out.many HYK.out (by have := HCQ.out; omega)
                clear hc7 HAD
                go_wp2_with fail
                rw [hlk7]
                go_wp2_with fail
                go_roundg (bl - (j + 1))
                case measure => omega
                case rel => exact ⟨j + 1, U, R, _, _, nw + 1, by omega, rfl, by go_num, by omega, HO8, HL7, HT7⟩
            · have hlt' : ¬ (j : Int) < (bl : Int) := by omega
              have HOn : Hid (Tp.Or1 K im (T ++ [x]) R W) := by
                have := HO2.out
                rw [List.take_of_length_le (by have := HBL.out; omega)] at this
                exact this.done HCN.out
              have HTLn : Hid (tl + 1 = (T ++ [x]).length) := by have := HTL.out; show _ = _; simp; omega
              go_wp2_with fail
              go_roundg (K.length - (T ++ [x]).length)
              case measure => have := HTlt.out; have := HTL.out; have := HTLn.out; omega
              case rel => exact ⟨T ++ [x], U, R, W, fw, nw, ta', tc', rfl, by rw [← HTLn.out], by have := HTLn.out; have := HTL.out; omega, HOn, HLp, by rw [← HTLn.out]; exact HTo⟩
    · intro x cv kl y1 y2 w9 cnt' hkey hlk hR hat hrg9 hlt9 hg9 hs9 hen
      obtain ⟨x', hx1, hx2⟩ := skey_inv' hkey
      have hxx : x = x' := by injection hx1 with hx1; rw [← bs_toList x, ← bs_toList x', hx1]
      subst hxx
      rw [hx2] at hlk hrg9
      obtain ⟨hxK, hxn, hLK2⟩ := HLK.out.next hlk
      have hL9 := HLp.out.iter (ranges_iter HRG.out) (by omega) hg9
      have hxl := HKL.out x hxK
      have hlw := hL9.q.m.look (t := 65) Tryz.underlying65 (zeroInt' w9) x hxl false
      simp only [Bool.false_eq_true, if_false] at hlw
      rw [hL9.q.val x] at hlw
      have HL9 := Lib.hid hL9
      have HRG9 := Lib.hid hrg9
      have HLK2 := Lib.hid hLK2
      have hrl9 := hrg9.lt
      have hRl : R.length < 1000 := by
        have h1 := HPR.out.length_eq
        have h2 := List.length_filter_le (fun x => decide (Tp.waitE E x = 0)) d1
        have h3 := Tp.nodup_le HLK.out.1 HLK.out.2.1
        omega
      have HAD := Lib.hid (add_post hL9.r hRl x)
      have hmw : mb < w1.heap.size := by omega
      have hmq : mb ≠ wq := by omega
      obtain ⟨cw, hcq⟩ : ∃ cw, cw = Tp.waitE E x := ⟨_, rfl⟩
      rw [← hcq] at hlw
      have HCQ := Lib.hid hcq
      clear hkey hlk hR hat hrg9 hg9 hs9 hx1 hx2 hxn hLK2 hL9 hcq HRG HLp HLK
      by_cases hc0 : cw = 0
      · subst hc0
        have hz : ((0 : Nat) : Int) = 0 := rfl
        rw [hz] at hlw
        go_wp2_with fail
        refine HAD.out.mono ?_
        rintro e w10 ⟨rfl, U', R', hp, hr, ht⟩
        have hL10 := HL9.out.turn hr ht
        have HL10 := Lib.hid hL10
        have HRG10 := Lib.hid (ranges_keep HRG9.out ((hL10.x.block mb hmw hmq).trans (HL9.out.x.block mb hmw hmq).symm) (ht.block rb hrl9 (HL9.out.r.ne_iter (ranges_iter HRG9.out))))
        have HPR10 : Hid (R'.Perm ((d1 ++ [x]).filter fun x => decide (Tp.waitE E x = 0))) := filt_yes HPR.out (by have := HCQ.out; simp [← this]) hp
        clear hp hr ht hL10 HAD hlw hen
        go_wp2_with fail
        go_roundg cnt'
        case measure => exact hlt9
        case rel => exact ⟨_, d1 ++ [x], U', R', HRG10, HLK2, HL10, HPR10⟩
      · have hc0' : ¬ (cw : Int) = 0 := by omega
        have HPR10 : Hid (R.Perm ((d1 ++ [x]).filter fun x => decide (Tp.waitE E x = 0))) := filt_no HPR.out (by have := HCQ.out; simp [← this, hc0])
        clear HAD
        go_wp2_with fail
        go_roundg cnt'
        case measure => exact hlt9
        case rel => exact ⟨_, d1 ++ [x], U, R, HRG9, HLK2, HL9, HPR10⟩
end Go.Proofs.YtadgeapgoggljaaGreatDoor
/- Chapter 9: modules by their names: what modules makes of texts. -/
namespace Go.Proofs.YtadgeapgoggljaaGreatDoor
open Go.RowKit Go.Maps
open Tp (Bs)

/- a module in memory, in blocks that D tells -/
structure MD (w : World) (D : Nat → Prop) (m : Tp.M) (ia ga pa ba : Option Addr) (ic gc pc bc : Nat) : Prop where
  im : Row w D 9 1 (.slice ia m.imports.length ic) m.imports.length (strs m.imports)
  gl : Row w D 116 4 (.slice ga m.vars.length gc) m.vars.length (gcs m.vars)
  pr : ∃ pcs, RepP w D m.procs pcs ∧ Row w D 119 6 (.slice pa m.procs.length pc) m.procs.length pcs
  bd : ∃ bcs, RepS w D m.body bcs ∧ OwnS w D (.slice ba m.body.length bc) m.body.length bcs
theorem MD.mono {w w' : World} {D D' : Nat → Prop} {m : Tp.M} {ia ga pa ba : Option Addr} {ic gc pc bc : Nat} (h : MD w D m ia ga pa ba ic gc pc bc) (hk : ∀ b, D b → b < w.heap.size → w'.heap[b]? = w.heap[b]? ∧ D' b) : MD w' D' m ia ga pa ba ic gc pc bc := by
  obtain ⟨pcs, p1, p2⟩ := h.pr
  obtain ⟨bcs, b1, b2⟩ := h.bd
  exact ⟨h.im.mono hk, h.gl.mono hk, ⟨pcs, p1.mono hk _ _, p2.mono hk⟩, ⟨bcs, b1.mono' hk, b2.mono hk⟩⟩
theorem MD.mb {w : World} {D : Nat → Prop} {m : Tp.M} {ia ga pa ba : Option Addr} {ic gc pc bc B : Nat} (h : MD w D m ia ga pa ba ic gc pc bc) (hB : ∀ b, D b → b < w.heap.size → b < B) : MB w B m ia ga pa ba ic gc pc bc := by
  have := h.mono (w' := w) (D' := fun i => i < B) (fun b hb hl => ⟨rfl, hB b hb hl⟩)
  exact ⟨this.im, this.gl, this.pr, this.bd⟩
theorem VM.mdb {B : Nat} {m : Tp.M} {v : Value} {w : World} (h : VM B m v w) : ∃ ia ga pa ba ic gc pc bc, v = .agg (mcells (bs m.name) (.slice ia m.imports.length ic) (.slice ga m.vars.length gc) (.slice pa m.procs.length pc) (.slice ba m.body.length bc)) ∧ MD w (fun b => B ≤ b) m ia ga pa ba ic gc pc bc := by
  obtain ⟨ia, ga, pa, ba, ic, gc, pc, bc, pcs, bcs, h1, h2, h3, h4, h5, h6, h7⟩ := h
  exact ⟨ia, ga, pa, ba, ic, gc, pc, bc, h1, ⟨h2, h3, ⟨pcs, h4, h5⟩, ⟨bcs, h6, h7⟩⟩⟩
theorem Row.strsAt {w : World} {D : Nat → Prop} {a : Option Addr} {c : Nat} {l : List Bs} (h : Row w D 9 1 (.slice a l.length c) l.length (strs l)) : StrsAt w l a := ⟨fun i hi => by
  rcases h with ⟨e, q, _⟩ | ⟨g, cap, cur, e, q1, q2, q3, q4, q5, q6⟩
  · omega
  · injection e with e1 e2 e3
    refine ⟨g, 0, e1, lt_blk q2, ?_⟩
    rw [cell_blk q2, Nat.zero_add]
    have : (cur.toList.take (l.length * 1))[i]? = some (.string (bs l[i])) := by rw [q6]; simp [strs, List.getElem?_eq_getElem hi]
    rw [List.getElem?_take_of_lt (by omega)] at this
    simpa using this⟩
/- one of the map's modules -/
structure ModE (w : World) (mb : Nat) (k : Bs) (v : Value) (m : Tp.M) (ia ga pa ba : Option Addr) (ic gc pc bc : Nat) : Prop where
  v : v = .agg (mcells (bs m.name) (.slice ia m.imports.length ic) (.slice ga m.vars.length gc) (.slice pa m.procs.length pc) (.slice ba m.body.length bc))
  md : MD w (fun b => b ≠ mb) m ia ga pa ba ic gc pc bc
  wm : Tp.WM m
  nm : Tp.nM m ≤ 1000
  k : m.name = k
/- a map of modules: F tells which -/
structure ModF (w : World) (mb n : Nat) (f : Bs → Option Value) (F : Bs → Option Tp.M) : Prop where
  m : MapV w mb n f
  no : ∀ k, F k = none → f k = none
  is : ∀ k m, F k = some m → ∃ v ia ga pa ba ic gc pc bc, f k = some v ∧ ModE w mb k v m ia ga pa ba ic gc pc bc
def imF (F : Bs → Option Tp.M) (k : Bs) : List Bs := match F k with
  | some m => m.imports
  | none => []
theorem ModF.on {w w' : World} {mb n : Nat} {f : Bs → Option Value} {F : Bs → Option Tp.M} (h : ModF w mb n f F) (k : Below w.heap.size w w') : ModF w' mb n f F :=
  ⟨h.m.on (k.block _ h.m.lt), h.no, fun x m hx => by
    obtain ⟨v, ia, ga, pa, ba, ic, gc, pc, bc, h1, h2⟩ := h.is x m hx
    exact ⟨v, ia, ga, pa, ba, ic, gc, pc, bc, h1, h2.v, h2.md.mono (fun b hb hl => ⟨k.block b hl, hb⟩), h2.wm, h2.nm, h2.k⟩⟩
theorem ModF.put {w w' : World} {mb n : Nat} {f : Bs → Option Value} {F : Bs → Option Tp.M} (h : ModF w mb n f F) {m : Tp.M} {v : Value} {ia ga pa ba : Option Addr} {ic gc pc bc : Nat} (hm : ModE w mb m.name v m ia ga pa ba ic gc pc bc) (hf : MapV w' mb (n + 1) (updV f m.name v)) (hx : Ext mb w w') : ModF w' mb (n + 1) (updV f m.name v) (fun k => if k = m.name then some m else F k) := by
  refine ⟨hf, fun k hk => ?_, fun k x hk => ?_⟩
  · unfold updV
    by_cases e : k = m.name
    · rw [if_pos e] at hk; cases hk
    · rw [if_neg e] at hk ⊢; exact h.no k hk
  · unfold updV
    by_cases e : k = m.name
    · rw [if_pos e] at hk ⊢
      cases hk
      exact ⟨v, ia, ga, pa, ba, ic, gc, pc, bc, rfl, hm.v, hm.md.mono (fun b hb hl => ⟨hx.block b hl hb, hb⟩), hm.wm, hm.nm, e.symm⟩
    · rw [if_neg e] at hk ⊢
      obtain ⟨v', ia', ga', pa', ba', ic', gc', pc', bc', h1, h2⟩ := h.is k x hk
      exact ⟨v', ia', ga', pa', ba', ic', gc', pc', bc', h1, h2.v, h2.md.mono (fun b hb hl => ⟨hx.block b hl hb, hb⟩), h2.wm, h2.nm, h2.k⟩
theorem ModF.some_iff {w : World} {mb n : Nat} {f : Bs → Option Value} {F : Bs → Option Tp.M} (h : ModF w mb n f F) (k : Bs) : (f k).isSome = (F k).isSome := by
  cases hF : F k with
  | none => rw [h.no k hF]; rfl
  | some m =>
    obtain ⟨v, _, _, _, _, _, _, _, _, h1, _⟩ := h.is k m hF
    rw [h1]; rfl
theorem ModF.mods {w : World} {mb n : Nat} {f : Bs → Option Value} {F : Bs → Option Tp.M} (h : ModF w mb n f F) (hn : n ≤ 100) : ∃ K, Mods w mb n f K (imF F) ∧ ∀ x, x ∈ K ↔ (F x).isSome = true := by
  obtain ⟨D, h1, hD⟩ := h.m.own
  obtain ⟨K, k1, k2, k3, k4⟩ := own_keys h1 hD
  have hF : ∀ x ∈ K, ∃ m, F x = some m := fun x hx => by
    have := (k2 x).1 hx
    rw [h.some_iff] at this
    exact Option.isSome_iff_exists.1 this
  refine ⟨K, ⟨h.m, k1, k2, fun x hx => ?_, by omega, fun x hx => ?_⟩, fun x => by rw [k2, h.some_iff]⟩
  · obtain ⟨m, hm⟩ := hF x hx
    obtain ⟨v, ia, ga, pa, ba, ic, gc, pc, bc, h1, h2⟩ := h.is x m hm
    rw [← h2.k]
    have := Tp.okn_len h2.wm.n
    omega
  · obtain ⟨m, hm⟩ := hF x hx
    obtain ⟨v, ia, ga, pa, ba, ic, gc, pc, bc, h1, h2⟩ := h.is x m hm
    have e : imF F x = m.imports := by unfold imF; rw [hm]
    rw [e]
    refine ⟨bs m.name, ia, ic, ga, _, gc, pa, _, pc, ba, _, bc, by rw [h1, h2.v]; rfl, h2.md.im.strsAt, h2.wm.ic, fun y hy => ?_⟩
    have := Tp.okn_len (h2.wm.i y hy)
    omega
end Go.Proofs.YtadgeapgoggljaaGreatDoor
/- Chapter 9: modules, walked. -/
namespace Go.Proofs.YtadgeapgoggljaaGreatDoor
open Go.RowKit Go.Maps
open Tp (Bs)

def ModsP (w : World) (e : Ending) (w' : World) : Prop := ∃ mb n f F, e = .returned (.map (some mb)) ∧ w.heap.size ≤ mb ∧ n ≤ 5 ∧ ModF w' mb n f F ∧ Below w.heap.size w w'
set_option maxRecDepth 100000 in
set_option maxHeartbeats 2000000 in
theorem modules_post {w : World} {B : Nat} (hv : VarsC B w) (hB : B ≤ w.heap.size) {ns : List (List UInt8)} {na : Option Addr} {nc : Nat} (hns : StrsAt w ns na) (hn5 : ns.length ≤ 5) (hnl : ∀ n ∈ ns, n.length ≤ 900) :
    Calls Tryz.prog 6 #[.slice na ns.length nc] w (ModsP w) := by
  have hmm := @run_makeMap Tryz.prog
  obtain ⟨w0, hw0⟩ : ∃ w0, w0 = w.alloc (.map #[] 0) := ⟨_, rfl⟩
  have hm0 : ModF w0 w.heap.size 0 (fun _ => none) (fun _ => none) := by
    rw [hw0]
    exact ⟨MapV.made w, fun _ _ => rfl, fun k m h => by cases h⟩
  have hb0 : Below w.heap.size w w0 := by rw [hw0]; exact (Below.refl _ _).alloc (Nat.le_refl _) _
  have HM0 := Lib.hid hm0
  have HB0 := Lib.hid hb0
  have HNS := Lib.hid hns
  have HNL := Lib.hid hnl
  have HV := Lib.hid hv
  have hn5' : (ns.length : Int) ≤ 5 := by omega
  obtain ⟨nn, hnq⟩ : ∃ nn, nn = ns.length := ⟨_, rfl⟩
  rw [← hnq] at hn5' hn5 ⊢
  have HNQ := Lib.hid hnq
  obtain ⟨mb, hmb⟩ : ∃ mb, mb = w.heap.size := ⟨_, rfl⟩
  rw [← hmb] at HM0
  clear hm0 hb0 hns hnl hv hnq
  go_enter Tryz.func6, Tryz.ntmps6
  go_upto_region 2 with fail
  rw [← hw0, ← hmb]
  have hmb1 : w.heap.size ≤ mb := by omega
  clear hw0 hmm hmb
  go_wp2_with fail
  go_loopg [4] nn (fun k vi wr => ∃ i : Nat, i ≤ nn ∧ k = nn - i ∧ vi = .int .i64 (i : Int) ∧ Hid (∃ c f F, c ≤ i ∧ ModF wr mb c f F) ∧ Hid (Below w.heap.size w wr))
  case atStart => exact ⟨0, by omega, by omega, rfl, ⟨0, _, _, Nat.le_refl _, HM0.out⟩, HB0⟩
  case round =>
    obtain ⟨i, hid, hk, rfl, HTM, HBR⟩ := hrel
    clear HM0 HB0
    have hszr := HBR.out.size
    by_cases hlt : i < nn
    · have hlt' : (i : Int) < (nn : Int) := by omega
      have hia : i < ns.length := by have := HNQ.out; omega
      obtain ⟨b, o, rfl, hbl, hcell⟩ := HNS.out.c i hia
      have kc : wr.cell? ⟨b, o + i, none⟩ = some (.string (bs ns[i])) := (HBR.out.cell (p := ⟨b, o + i, none⟩) hbl).trans hcell
      have hlgr : b < wr.heap.size := by omega
      have hxl := HNL.out _ (List.getElem_mem hia)
      have hvr := HV.out.on' hB HBR.out
      have HPP := Lib.hid (parse_post wr ns[i] (by omega) hvr.mks hvr.lv)
      have HXT : Hid (ns[i].length ≤ 900) := hxl
      clear hcell hvr hxl
      generalize ns[i] = x at *
      go_wp2_with fail
      refine HPP.out.mono ?_
      rintro e w2 ⟨hb2, hq⟩
      unfold ParseP at hq
      clear HPP kc hlgr
      cases hpx : Tp.parse x with
      | error er =>
        rw [hpx] at hq
        obtain ⟨ab, rfl, _, _, _⟩ := hq
        unfold m0
        obtain ⟨w3, hw3⟩ : ∃ w3, w3 = w2.alloc (.cells #[.string ⟨#[]⟩, .slice none 0 0, .slice none 0 0, .slice none 0 0, .slice none 0 0] 38) := ⟨_, rfl⟩
        have hb3 : Below wr.heap.size wr w3 := hb2.trans (by rw [hw3]; exact (Below.refl _ _).alloc hb2.size _)
        have HT3 : Hid (∃ c f F, c ≤ i + 1 ∧ ModF w3 mb c f F) := by
          obtain ⟨c, f, F, c1, c2⟩ := HTM.out
          exact ⟨c, f, F, by omega, c2.on hb3⟩
        have HB3 : Hid (Below w.heap.size w w3) := HBR.out.trans (hb3.mono hszr)
        clear hb2 hb3 hpx
        go_upto_region 6 with fail
        rw [← hw3]
        clear hw3
        go_wp2_with fail
        go_roundg (nn - (i + 1))
        case measure => omega
        case rel => exact ⟨i + 1, by omega, rfl, by go_num, HT3, HB3⟩
      | ok m =>
        rw [hpx] at hq
        obtain ⟨v, rfl, hvm⟩ := hq
        obtain ⟨ia, ga, pa, ba, ic, gc, pc, bc, rfl, hmd⟩ := hvm.mdb
        have hwm := (Tp.parse_wm hpx).1
        have hnm := (Tp.parse_wm hpx).2
        have hnl : m.name.length ≤ 1000000 := by have := Tp.okn_len hwm.n; omega
        obtain ⟨w3, hw3⟩ : ∃ w3, w3 = w2.alloc (.cells (mcells (bs m.name) (.slice ia m.imports.length ic) (.slice ga m.vars.length gc) (.slice pa m.procs.length pc) (.slice ba m.body.length bc)) 38) := ⟨_, rfl⟩
        have hb23 : Below w2.heap.size w2 w3 := by rw [hw3]; exact (Below.refl _ _).alloc (Nat.le_refl _) _
        have hk3 : w3.heap[w2.heap.size]? = some (.cells (mcells (bs m.name) (.slice ia m.imports.length ic) (.slice ga m.vars.length gc) (.slice pa m.procs.length pc) (.slice ba m.body.length bc)) 38 (0, 0)) := by rw [hw3]; exact new_blk _ _
        have hb3 : Below wr.heap.size wr w3 := hb2.trans (hb23.mono hb2.size)
        have HB3 : Hid (Below w.heap.size w w3) := HBR.out.trans (hb3.mono hszr)
        obtain ⟨c, f, F, c1, c2⟩ := HTM.out
        have hmbl := c2.m.lt
        have HM3 := Lib.hid (c2.on hb3)
        have HME : Hid (ModE w3 mb m.name (.agg (mcells (bs m.name) (.slice ia m.imports.length ic) (.slice ga m.vars.length gc) (.slice pa m.procs.length pc) (.slice ba m.body.length bc))) m ia ga pa ba ic gc pc bc) := ⟨rfl, hmd.mono (fun b hb hl => ⟨hb23.block b hl, by omega⟩), hwm, by have := HXT.out; omega, rfl⟩
        unfold mcells at *
        have k0 : w3.cell? ⟨w2.heap.size, 0, none⟩ = some (.string (bs m.name)) := (cell_blk hk3).trans rfl
        have k1 : w3.cell? ⟨w2.heap.size, 1, none⟩ = some (.slice ia m.imports.length ic) := (cell_blk hk3).trans rfl
        have k2 : w3.cell? ⟨w2.heap.size, 2, none⟩ = some (.slice ga m.vars.length gc) := (cell_blk hk3).trans rfl
        have k3 : w3.cell? ⟨w2.heap.size, 3, none⟩ = some (.slice pa m.procs.length pc) := (cell_blk hk3).trans rfl
        have k4 : w3.cell? ⟨w2.heap.size, 4, none⟩ = some (.slice ba m.body.length bc) := (cell_blk hk3).trans rfl
        have hl3 := lt_blk hk3
        clear hb2 hb23 hb3 hk3 hvm hmd hwm hnm hpx c2 HTM
        go_upto_region 6 with fail
        rw [← hw3]
        clear hw3
        go_wp2_with (at_mapUpdate; refine wpList_mapUpdate_v' _ rfl _ _ _ 25 rfl _ Tryz.underlying25 mb c f HM3.out.m (by omega) m.name hnl _ rfl rfl rfl ?_; intro w4 q1 q2 q3)
        have HT4 : Hid (∃ c f F, c ≤ i + 1 ∧ ModF w4 mb c f F) := ⟨c + 1, _, _, by omega, HM3.out.put HME.out q1 q2⟩
        have HB4 : Hid (Below w.heap.size w w4) := HB3.out.trans (ext_below q2 (by omega) HB3.out.size)
        clear q1 q2 q3 k0 k1 k2 k3 k4 hl3
        go_wp2_with fail
        go_roundg (nn - (i + 1))
        case measure => omega
        case rel => exact ⟨i + 1, by omega, rfl, by go_num, HT4, HB4⟩
    · have hlt' : ¬ (i : Int) < (nn : Int) := by omega
      obtain ⟨c, f, F, c1, c2⟩ := HTM.out
      have HC2 := Lib.hid c2
      clear c2 HTM
      go_wp2_with fail
      go_ret
      exact ⟨mb, c, f, F, rfl, by omega, by omega, HC2.out, HBR.out⟩
end Go.Proofs.YtadgeapgoggljaaGreatDoor
/- slices.IndexFunc, ContainsFunc, Index, Contains, Equal of texts. -/
namespace Go.Proofs.YtadgeapgoggljaaGreatDoor
open Go.RowKit
open Tp (Bs)

theorem bs_eq (a b : Bs) : ((bs a).toList == (bs b).toList) = decide (a = b) := by rw [bs_toList, bs_toList, Bool.eq_iff_iff, decide_eq_true_iff, beq_iff_eq]
set_option maxRecDepth 100000 in
set_option maxHeartbeats 1000000 in
theorem seq_post {w : World} {xs ys : List Bs} {a1 a2 : Option Addr} {c1 c2 : Nat} (h1 : StrsAt w xs a1) (h2 : StrsAt w ys a2) (hn : xs.length ≤ 1000) :
    Calls Tryz.prog 10 #[.slice a1 xs.length c1, .slice a2 ys.length c2] w fun e w' => e = .returned (.bool (decide (xs = ys))) ∧ Below w.heap.size w w' := by
  by_cases hl : xs.length = ys.length
  · rw [← hl]
    have H1 := Lib.hid h1
    have H2 := Lib.hid h2
    obtain ⟨ln, hln⟩ : ∃ ln, ln = xs.length := ⟨_, rfl⟩
    have hn' : (ln : Int) ≤ 1000 := by omega
    have HL := Lib.hid (And.intro hln hl)
    obtain ⟨bb, hbb⟩ : ∃ bb, bb = decide (xs = ys) := ⟨_, rfl⟩
    have HBB := Lib.hid hbb
    rw [← hbb, ← hln]
    clear h1 h2 hl hln hbb hn
    go_enter Tryz.func10, Tryz.ntmps10
    go_wp2_with fail
    go_loopg [13] ln (fun k vi wr => ∃ i : Nat, i ≤ ln ∧ k = ln - i ∧ vi = .int .i64 (i : Int) ∧ Hid (∀ k, k < i → xs[k]? = ys[k]?) ∧ Hid (Below w.heap.size w wr))
    case atStart => exact ⟨0, by omega, by omega, rfl, fun k hk => by omega, Below.refl _ _⟩
    case round =>
      obtain ⟨i, hid, hk, rfl, HI, HB⟩ := hrel
      have hszr := HB.out.size
      by_cases hlt : i < ln
      · have hlt' : (i : Int) < (ln : Int) := by omega
        have hi0 : ¬ (i : Int) < 0 := by omega
        have hx : i < xs.length := by have := HL.out.1; omega
        have hy : i < ys.length := by have := HL.out.1; have := HL.out.2; omega
        obtain ⟨b1, o1, rfl, q1, d1⟩ := (H1.out.on HB.out).c i hx
        obtain ⟨b2, o2, rfl, q2, d2⟩ := (H2.out.on HB.out).c i hy
        have HNX : Hid (xs[i] = ys[i] → ∀ k, k < i + 1 → xs[k]? = ys[k]?) := by
          intro e k hk
          by_cases e2 : k = i
          · subst e2; rw [List.getElem?_eq_getElem hx, List.getElem?_eq_getElem hy, e]
          · exact HI.out k (by omega)
        have HNO : Hid (xs[i] ≠ ys[i] → bb = false) := by
          intro e
          rw [HBB.out]
          refine decide_eq_false fun q => e ?_
          subst q
          rfl
        obtain ⟨d, hd⟩ : ∃ d, d = decide (xs[i] = ys[i]) := ⟨_, rfl⟩
        have heq : ((bs xs[i]).toList == (bs ys[i]).toList) = d := by rw [bs_eq, hd]
        have HND : Hid (d = true → ∀ k, k < i + 1 → xs[k]? = ys[k]?) := fun e => HNX.out (by rw [hd] at e; exact of_decide_eq_true e)
        have HNF : Hid (d = false → bb = false) := fun e => HNO.out (by rw [hd] at e; exact of_decide_eq_false e)
        clear hd HNX HNO
        generalize bs xs[i] = x at *
        generalize bs ys[i] = y at *
        cases d with
        | true =>
          have HI3 := Lib.hid (HND.out rfl)
          clear HND HNF
          go_upto_region 6 with fail
          go_quiet (fail)
          obtain ⟨w1, hw1⟩ : ∃ w1, w1 = wr.drewN nq := ⟨_, rfl⟩
          have HB1 : Hid (Below w.heap.size w w1) := by rw [hw1]; exact below_drewN HB.out _
          rw [← hw1]
          clear hw1 d1 d2
          go_wp2_with fail
          go_roundg (ln - (i + 1))
          case measure => omega
          case rel => exact ⟨i + 1, by omega, rfl, by go_num, HI3, HB1⟩
        | false =>
          have HR := Lib.hid (HNF.out rfl)
          clear HND HNF
          go_upto_region 6 with fail
          go_quiet (fail)
          obtain ⟨w1, hw1⟩ : ∃ w1, w1 = wr.drewN nq := ⟨_, rfl⟩
          have HB1 : Hid (Below w.heap.size w w1) := by rw [hw1]; exact below_drewN HB.out _
          rw [← hw1]
          clear hw1 d1 d2
          go_wp2_with fail
          go_ret
          exact ⟨by rw [HR.out]; rfl, HB1.out⟩
      · have hlt' : ¬ (i : Int) < (ln : Int) := by omega
        have HR : Hid (bb = true) := by
          show bb = true
          rw [HBB.out]
          refine decide_eq_true (List.ext_getElem? fun k => ?_)
          by_cases hk2 : k < i
          · exact HI.out k hk2
          · have e1 := HL.out.1
            have e2 := HL.out.2
            rw [List.getElem?_eq_none (by omega), List.getElem?_eq_none (by omega)]
        go_wp2_with fail
        go_ret
        exact ⟨by rw [HR.out]; rfl, HB.out⟩
  · have hne : ¬ (xs.length : Int) = (ys.length : Int) := by omega
    have hd : decide (xs = ys) = false := decide_eq_false fun q => hl (by rw [q])
    rw [hd]
    clear hd hl h1 h2 hn
    generalize xs.length = m at *
    generalize ys.length = n at *
    go_enter Tryz.func10, Tryz.ntmps10
    go_wp2_with fail
    go_ret
    exact ⟨rfl, Below.refl _ _⟩
end Go.Proofs.YtadgeapgoggljaaGreatDoor
/- Chapter 9: two closed maps of modules: an order, and a round. -/
namespace Tp
def txtO1 : Bs := [109, 111, 100, 117, 108, 101, 32, 97, 59, 32, 105, 109, 112, 111, 114, 116, 32, 98, 59, 32, 98, 101, 103, 105, 110, 32, 101, 110, 100, 46]
def txtO2 : Bs := [109, 111, 100, 117, 108, 101, 32, 98, 59, 32, 98, 101, 103, 105, 110, 32, 101, 110, 100, 46]
def txtO3 : Bs := [109, 111, 100, 117, 108, 101, 32, 98, 59, 32, 105, 109, 112, 111, 114, 116, 32, 97, 59, 32, 98, 101, 103, 105, 110, 32, 101, 110, 100, 46]
def modO1 : M := ⟨[97], [[98]], [], [], []⟩
def modO2 : M := ⟨[98], [], [], [], []⟩
def modO3 : M := ⟨[98], [[97]], [], [], []⟩
theorem parseO1 : parse txtO1 = .ok modO1 := by kernel_rfl
theorem parseO2 : parse txtO2 = .ok modO2 := by kernel_rfl
theorem parseO3 : parse txtO3 = .ok modO3 := by kernel_rfl
/- b, then a -/
theorem came_ba {K : List Bs} {im : Bs → List Bs} {T : List Bs} (hK : ∀ x, x ∈ K ↔ x = [97] ∨ x = [98]) (hn : K.Nodup) (ha : im [97] = [[98]]) (h : Came K im T) : T = [[98], [97]] := by
  have hl : K.length = 2 := Nat.le_antisymm (nodup_le (k := [[97], [98]]) hn (fun x hx => by simpa using (hK x).1 hx)) (nodup_le (l := [[97], [98]]) (by decide) (fun x hx => (hK x).2 (by simpa using hx)))
  have hT := h.len
  rw [hl] at hT
  match T, hT with
  | [s, t], _ =>
    have nd := h.nd
    have hs := (hK s).1 (h.sub s (by simp))
    have ht := (hK t).1 (h.sub t (by simp))
    have hst : s ≠ t := by simp at nd; exact nd
    rcases hs with rfl | rfl
    · exfalso
      have := h.bh 0 (by simp) [98] (by simp [ha]) ((hK _).2 (Or.inr rfl))
      simp at this
    · rcases ht with rfl | rfl
      · rfl
      · exact absurd rfl hst
theorem no_round_ba {K : List Bs} {im : Bs → List Bs} (hK : ∀ x, x ∈ K ↔ x = [97] ∨ x = [98]) (ha : im [97] = [[98]]) (hb : im [98] = []) : ¬ Round K im := by
  rintro ⟨S, ⟨x, hx, hs⟩, hr⟩
  have hb' : ¬ S [98] := fun q => by
    obtain ⟨i, h1, _⟩ := hr [98] ((hK _).2 (Or.inr rfl)) q
    rw [hb] at h1
    cases h1
  rcases (hK x).1 hx with rfl | rfl
  · obtain ⟨i, h1, _, h3⟩ := hr _ hx hs
    rw [ha] at h1
    simp at h1
    subst h1
    exact hb' h3
  · exact hb' hs
theorem no_came_ab {K : List Bs} {im : Bs → List Bs} {T : List Bs} (hK : ∀ x, x ∈ K ↔ x = [97] ∨ x = [98]) (ha : im [97] = [[98]]) (hb : im [98] = [[97]]) : ¬ Came K im T := fun h => h.no_round ⟨fun _ => True, ⟨[97], (hK _).2 (Or.inl rfl), trivial⟩, fun x hx _ => by
  rcases (hK x).1 hx with rfl | rfl
  · exact ⟨[98], by simp [ha], (hK _).2 (Or.inr rfl), trivial⟩
  · exact ⟨[97], by simp [hb], (hK _).2 (Or.inl rfl), trivial⟩⟩
end Tp
/- Chapter 9: ordered, walked. -/
namespace Go.Proofs.YtadgeapgoggljaaGreatDoor
open Go.RowKit Go.Maps
open Tp (Bs)

/- a block that holds a module -/
structure MBk (w : World) (b : Nat) (m : Tp.M) (ia ga pa ba : Option Addr) (ic gc pc bc : Nat) : Prop where
  k : w.heap[b]? = some (.cells (mcells (bs m.name) (.slice ia m.imports.length ic) (.slice ga m.vars.length gc) (.slice pa m.procs.length pc) (.slice ba m.body.length bc)) 38 (0, 0))
  d : MD w (fun b => b < w.heap.size) m ia ga pa ba ic gc pc bc
theorem MBk.on {w w' : World} {b : Nat} {m : Tp.M} {ia ga pa ba : Option Addr} {ic gc pc bc : Nat} (h : MBk w b m ia ga pa ba ic gc pc bc) (k : Below w.heap.size w w') : MBk w' b m ia ga pa ba ic gc pc bc :=
  ⟨(k.block _ (lt_blk h.k)).trans h.k, h.d.mono (fun c _ hl => ⟨k.block c hl, by have := k.size; omega⟩)⟩
theorem MBk.cells {w : World} {b : Nat} {m : Tp.M} {ia ga pa ba : Option Addr} {ic gc pc bc : Nat} (h : MBk w b m ia ga pa ba ic gc pc bc) : w.cell? ⟨b, 0, none⟩ = some (.string (bs m.name)) ∧ w.cell? ⟨b, 1, none⟩ = some (.slice ia m.imports.length ic) ∧ w.cell? ⟨b, 2, none⟩ = some (.slice ga m.vars.length gc) ∧ w.cell? ⟨b, 3, none⟩ = some (.slice pa m.procs.length pc) ∧ w.cell? ⟨b, 4, none⟩ = some (.slice ba m.body.length bc) ∧ b < w.heap.size :=
  ⟨(cell_blk h.k).trans rfl, (cell_blk h.k).trans rfl, (cell_blk h.k).trans rfl, (cell_blk h.k).trans rfl, (cell_blk h.k).trans rfl, lt_blk h.k⟩
/- two modules in a new map -/
theorem two_mods {w : World} {b1 b2 : Nat} {m1 m2 : Tp.M} {ia ga pa ba ja ha qa ca : Option Addr} {ic gc pc bc jc hc qc cc : Nat} (h1 : MBk w b1 m1 ia ga pa ba ic gc pc bc) (h2 : MBk w b2 m2 ja ha qa ca jc hc qc cc) (k1 : Tp.WM m1 ∧ Tp.nM m1 ≤ 1000) (k2 : Tp.WM m2 ∧ Tp.nM m2 ≤ 1000) :
    ∃ w8 w9, (Instr.mapUpdate 25 (.map (some w.heap.size)) (.string (bs m1.name)) (.agg (mcells (bs m1.name) (.slice ia m1.imports.length ic) (.slice ga m1.vars.length gc) (.slice pa m1.procs.length pc) (.slice ba m1.body.length bc)))).run Tryz.prog (w.alloc (.map #[] 0)) = .ok () w8 ∧ (Instr.mapUpdate 25 (.map (some w.heap.size)) (.string (bs m2.name)) (.agg (mcells (bs m2.name) (.slice ja m2.imports.length jc) (.slice ha m2.vars.length hc) (.slice qa m2.procs.length qc) (.slice ca m2.body.length cc)))).run Tryz.prog w8 = .ok () w9 ∧
      Below w.heap.size w w8 ∧ Below w.heap.size w w9 ∧ ∃ f K, Mods w9 w.heap.size 2 f K (imF fun k => if k = m2.name then some m2 else if k = m1.name then some m1 else none) ∧ ∀ x, x ∈ K ↔ x = m1.name ∨ x = m2.name := by
  have hb7 : Below w.heap.size w (w.alloc (.map #[] 0)) := (Below.refl _ _).alloc (Nat.le_refl _) _
  have hM7 : ModF (w.alloc (.map #[] 0)) w.heap.size 0 (fun _ => none) (fun _ => none) := ⟨MapV.made w, fun _ _ => rfl, fun k m h => by cases h⟩
  have e1 : ModE (w.alloc (.map #[] 0)) w.heap.size m1.name _ m1 ia ga pa ba ic gc pc bc := ⟨rfl, h1.d.mono (fun c hc hl => ⟨hb7.block c hl, by omega⟩), k1.1, k1.2, rfl⟩
  obtain ⟨w8, u8, q1, q2, q3⟩ := hM7.m.store (t := 25) Tryz.underlying25 (by omega) m1.name (by have := Tp.okn_len k1.1.n; omega) (.agg (mcells (bs m1.name) (.slice ia m1.imports.length ic) (.slice ga m1.vars.length gc) (.slice pa m1.procs.length pc) (.slice ba m1.body.length bc)))
  have hM8 := hM7.put e1 q1 q2
  have hb8 : Below w.heap.size w w8 := hb7.trans (ext_below q2 (Nat.le_refl _) hb7.size)
  have e2 : ModE w8 w.heap.size m2.name _ m2 ja ha qa ca jc hc qc cc := ⟨rfl, h2.d.mono (fun c hc hl => ⟨hb8.block c hl, by omega⟩), k2.1, k2.2, rfl⟩
  obtain ⟨w9, u9, r1, r2, r3⟩ := hM8.m.store (t := 25) Tryz.underlying25 (by omega) m2.name (by have := Tp.okn_len k2.1.n; omega) (.agg (mcells (bs m2.name) (.slice ja m2.imports.length jc) (.slice ha m2.vars.length hc) (.slice qa m2.procs.length qc) (.slice ca m2.body.length cc)))
  have hM9 := hM8.put e2 r1 r2
  have hb9 : Below w.heap.size w w9 := hb8.trans (ext_below r2 (Nat.le_refl _) hb8.size)
  obtain ⟨K, hK1, hK2⟩ := hM9.mods (by omega)
  refine ⟨w8, w9, u8, u9, hb8, hb9, _, K, hK1, fun x => ?_⟩
  rw [hK2 x]
  by_cases a : x = m2.name
  · rw [if_pos a]; exact ⟨fun _ => Or.inr a, fun _ => rfl⟩
  · rw [if_neg a]
    by_cases b : x = m1.name
    · rw [if_pos b]; exact ⟨fun _ => Or.inl b, fun _ => rfl⟩
    · rw [if_neg b]; exact ⟨fun q => (by cases q), fun q => q.elim (fun z => absurd z b) (fun z => absurd z a)⟩
theorem parsed_closed {t : Bs} {m : Tp.M} (hp : Tp.parse t = .ok m) (ht : t.length ≤ 900) {w : World} {B : Nat} (hv : VarsC B w) : Calls Tryz.prog 13 #[.string (bs t)] w fun e w' => Below w.heap.size w w' ∧ ∃ ia ga pa ba ic gc pc bc, e = .returned (.tuple #[.agg (mcells (bs m.name) (.slice ia m.imports.length ic) (.slice ga m.vars.length gc) (.slice pa m.procs.length pc) (.slice ba m.body.length bc)), .nilIface]) ∧ ∀ W, Below w'.heap.size w' W → ∀ b, W.heap[b]? = some (.cells (mcells (bs m.name) (.slice ia m.imports.length ic) (.slice ga m.vars.length gc) (.slice pa m.procs.length pc) (.slice ba m.body.length bc)) 38 (0, 0)) → MBk W b m ia ga pa ba ic gc pc bc := by
  refine (parse_post w t (by omega) hv.mks hv.lv).mono ?_
  rintro e w' ⟨h1, h2⟩
  unfold ParseP at h2
  rw [hp] at h2
  obtain ⟨v, rfl, hvm⟩ := h2
  obtain ⟨ia, ga, pa, ba, ic, gc, pc, bc, rfl, hmd⟩ := hvm.mdb
  exact ⟨h1, ia, ga, pa, ba, ic, gc, pc, bc, rfl, fun W hW b hb => ⟨hb, hmd.mono (fun c _ hl => ⟨hW.block c hl, by have := hW.size; omega⟩)⟩⟩
theorem wm_of {t : Bs} {m : Tp.M} (hp : Tp.parse t = .ok m) (ht : t.length ≤ 900) : Tp.WM m ∧ Tp.nM m ≤ 1000 := ⟨(Tp.parse_wm hp).1, by have := (Tp.parse_wm hp).2; omega⟩
set_option maxRecDepth 100000 in
set_option maxHeartbeats 4000000 in
theorem ordered_post {w : World} {B : Nat} (hv : VarsC B w) (hB : B ≤ w.heap.size) : Calls Tryz.prog 5 #[] w fun e w' => e = .returned (.bool true) ∧ Below w.heap.size w w' := by
  have HV := Lib.hid hv
  have HP1 := Lib.hid (parsed_closed Tp.parseO1 (by decide) hv)
  clear hv
  unfold Tp.txtO1 at HP1
  go_enter Tryz.func5, Tryz.ntmps5
  go_wp2_with fail
  refine HP1.out.mono ?_
  rintro e w1 ⟨hb1, ia, ga, pa, ba, ic, gc, pc, bc, rfl, hm1⟩
  obtain ⟨w2, hw2⟩ : ∃ w2, w2 = w1.alloc (.cells (mcells (bs Tp.modO1.name) (.slice ia Tp.modO1.imports.length ic) (.slice ga Tp.modO1.vars.length gc) (.slice pa Tp.modO1.procs.length pc) (.slice ba Tp.modO1.body.length bc)) 38) := ⟨_, rfl⟩
  have hb12 : Below w1.heap.size w1 w2 := by rw [hw2]; exact (Below.refl _ _).alloc (Nat.le_refl _) _
  have HK2 := Lib.hid (hm1 w2 hb12 w1.heap.size (by rw [hw2]; exact new_blk _ _))
  have HB2 : Hid (Below w.heap.size w w2) := hb1.trans (hb12.mono hb1.size)
  have HP2 := Lib.hid (parsed_closed Tp.parseO2 (by decide) (HV.out.on' hB HB2.out))
  obtain ⟨b1, hq1⟩ : ∃ b1, b1 = w1.heap.size := ⟨_, rfl⟩
  rw [← hq1] at HK2
  unfold Tp.txtO2 at HP2
  unfold mcells at hw2 ⊢
  clear hb1 hb12 hm1 HP1
  go_upto_region 2 with fail
  rw [← hw2, ← hq1]
  clear hw2 hq1
  go_wp2_with fail
  refine HP2.out.mono ?_
  rintro e w3 ⟨hb3, ja, ha, qa, ca, jc, hc, qc, cc, rfl, hm3⟩
  obtain ⟨w4, hw4⟩ : ∃ w4, w4 = w3.alloc (.cells (mcells (bs Tp.modO2.name) (.slice ja Tp.modO2.imports.length jc) (.slice ha Tp.modO2.vars.length hc) (.slice qa Tp.modO2.procs.length qc) (.slice ca Tp.modO2.body.length cc)) 38) := ⟨_, rfl⟩
  have hb34 : Below w3.heap.size w3 w4 := by rw [hw4]; exact (Below.refl _ _).alloc (Nat.le_refl _) _
  have hb24 : Below w2.heap.size w2 w4 := hb3.trans (hb34.mono hb3.size)
  have HJ4 := Lib.hid (hm3 w4 hb34 w3.heap.size (by rw [hw4]; exact new_blk _ _))
  have HK4 := Lib.hid (HK2.out.on hb24)
  have HB4 : Hid (Below w.heap.size w w4) := HB2.out.trans (hb24.mono HB2.out.size)
  have HP3 := Lib.hid (parsed_closed Tp.parseO3 (by decide) (HV.out.on' hB HB4.out))
  obtain ⟨b2, hq2⟩ : ∃ b2, b2 = w3.heap.size := ⟨_, rfl⟩
  rw [← hq2] at HJ4
  unfold Tp.txtO3 at HP3
  unfold mcells at hw4 ⊢
  clear hb3 hb34 hb24 hm3 HP2 HK2 HB2
  go_upto_region 3 with fail
  rw [← hw4, ← hq2]
  clear hw4 hq2
  go_wp2_with fail
  refine HP3.out.mono ?_
  rintro e w5 ⟨hb5, ka, la, ra, da, kc, lc, rc, dc, rfl, hm5⟩
  obtain ⟨w6, hw6⟩ : ∃ w6, w6 = w5.alloc (.cells (mcells (bs Tp.modO3.name) (.slice ka Tp.modO3.imports.length kc) (.slice la Tp.modO3.vars.length lc) (.slice ra Tp.modO3.procs.length rc) (.slice da Tp.modO3.body.length dc)) 38) := ⟨_, rfl⟩
  have hb56 : Below w5.heap.size w5 w6 := by rw [hw6]; exact (Below.refl _ _).alloc (Nat.le_refl _) _
  have hb46 : Below w4.heap.size w4 w6 := hb5.trans (hb56.mono hb5.size)
  have HC6 := Lib.hid (hm5 w6 hb56 w5.heap.size (by rw [hw6]; exact new_blk _ _))
  have HK6 := Lib.hid (HK4.out.on hb46)
  have HJ6 := Lib.hid (HJ4.out.on hb46)
  have HB6 : Hid (Below w.heap.size w w6) := HB4.out.trans (hb46.mono HB4.out.size)
  obtain ⟨b3, hq3⟩ : ∃ b3, b3 = w5.heap.size := ⟨_, rfl⟩
  rw [← hq3] at HC6
  unfold mcells at hw6 ⊢
  clear hb5 hb56 hb46 hm5 HP3 HK4 HJ4 HB4
  go_upto_region 4 with fail
  rw [← hw6, ← hq3]
  clear hw6 hq3
  -- a map of a and b
  obtain ⟨w8, w9, u8, u9, hb8, hb9, f9, K9, hM9, hK9⟩ := two_mods HK6.out HJ6.out (wm_of Tp.parseO1 (by decide)) (wm_of Tp.parseO2 (by decide))
  have HOR := Lib.hid (order_post hM9)
  have HA1 : Hid (imF (fun k => if k = Tp.modO2.name then some Tp.modO2 else if k = Tp.modO1.name then some Tp.modO1 else none) [97] = [[98]]) := by show _ = _; simp [imF, Tp.modO1, Tp.modO2]
  have HA2 : Hid (imF (fun k => if k = Tp.modO2.name then some Tp.modO2 else if k = Tp.modO1.name then some Tp.modO1 else none) [98] = []) := by show _ = _; simp [imF, Tp.modO2]
  generalize imF (fun k => if k = Tp.modO2.name then some Tp.modO2 else if k = Tp.modO1.name then some Tp.modO1 else none) = im9 at *
  have HK9 : Hid (∀ x, x ∈ K9 ↔ x = [97] ∨ x = [98]) := hK9
  have HN9 := Lib.hid hM9.nd
  obtain ⟨c0, c1, c2, c3, c4, c5⟩ := HK6.out.cells
  obtain ⟨d0, d1, d2, d3, d4, d5⟩ := (HJ6.out.on hb8).cells
  have HB9 : Hid (Below w.heap.size w w9) := HB6.out.trans (hb9.mono HB6.out.size)
  have HK' := Lib.hid (HK6.out.on hb9)
  have HC' := Lib.hid (HC6.out.on hb9)
  have e97 : bs Tp.modO1.name = ⟨#[97]⟩ := rfl
  have e98 : bs Tp.modO2.name = ⟨#[98]⟩ := rfl
  rw [e97] at u8 c0
  rw [e98] at u9 d0
  have hmm := @run_makeMap Tryz.prog
  unfold mcells at u8 u9
  clear hM9 hK9 hb8 hb9 e97 e98
  go_wp2_with fail
  clear u8 u9 c0 c1 c2 c3 c4 c5 d0 d1 d2 d3 d4 d5
  refine HOR.out.mono ?_
  rintro e w10 ⟨hb10, hq⟩
  rcases hq with ⟨T, ta, tc, rfl, hca, how⟩ | ⟨_, hro⟩
  rotate_left
  · exact absurd hro (Tp.no_round_ba HK9.out HA1.out HA2.out)
  obtain rfl := Tp.came_ba HK9.out HN9.out HA1.out hca
  have hsT := own_strsAt how
  obtain ⟨w11, hw11⟩ : ∃ w11, w11 = w10.alloc (.cells #[.string ⟨#[98]⟩, .string ⟨#[97]⟩] 9) := ⟨_, rfl⟩
  have hb11 : Below w10.heap.size w10 w11 := by rw [hw11]; exact (Below.refl _ _).alloc (Nat.le_refl _) _
  have hk11 : w11.heap[w10.heap.size]? = some (.cells #[.string ⟨#[98]⟩, .string ⟨#[97]⟩] 9 (0, 0)) := by rw [hw11]; exact new_blk _ _
  have hs11 : StrsAt w11 [[98], [97]] (some ⟨w10.heap.size, 0, none⟩) := ⟨fun k hk => ⟨_, _, rfl, lt_blk hk11, by
    match k, hk with
    | 0, _ => exact (cell_blk hk11).trans rfl
    | 1, _ => exact (cell_blk hk11).trans rfl⟩⟩
  have HEQ : Hid (Calls Tryz.prog 10 #[.slice ta 2 tc, .slice (some ⟨w10.heap.size, 0, none⟩) 2 2] w11 fun e w' => e = .returned (.bool true) ∧ Below w11.heap.size w11 w') := seq_post (c1 := tc) (c2 := 2) (hsT.on hb11) hs11 (by decide)
  have hb911 : Below w9.heap.size w9 w11 := hb10.trans (hb11.mono hb10.size)
  have HB11 : Hid (Below w.heap.size w w11) := HB9.out.trans (hb911.mono HB9.out.size)
  have HK11 := Lib.hid (HK'.out.on hb911)
  have HC11 := Lib.hid (HC'.out.on hb911)
  have h2 : (([[98], [97]] : List Bs).length) = 2 := rfl
  rw [h2]
  clear hb10 how hca hsT hb11 hk11 hs11 hb911 HOR HK' HC' h2 HK6 HJ6 HC6 hmm
  go_wp2_with fail
  rw [← hw11]
  clear hw11
  refine HEQ.out.mono ?_
  rintro e w12 ⟨rfl, hb12⟩
  have hK12 := HK11.out.on hb12
  have hC12 := HC11.out.on hb12
  have HB12 : Hid (Below w.heap.size w w12) := HB11.out.trans (hb12.mono HB11.out.size)
  obtain ⟨w14, w15, u14, u15, hb14, hb15, f15, K15, hM15, hK15⟩ := two_mods hK12 hC12 (wm_of Tp.parseO1 (by decide)) (wm_of Tp.parseO3 (by decide))
  have HOR2 := Lib.hid (order_post hM15)
  have HA3 : Hid (imF (fun k => if k = Tp.modO3.name then some Tp.modO3 else if k = Tp.modO1.name then some Tp.modO1 else none) [97] = [[98]]) := by show _ = _; simp [imF, Tp.modO1, Tp.modO3]
  have HA4 : Hid (imF (fun k => if k = Tp.modO3.name then some Tp.modO3 else if k = Tp.modO1.name then some Tp.modO1 else none) [98] = [[97]]) := by show _ = _; simp [imF, Tp.modO3]
  generalize imF (fun k => if k = Tp.modO3.name then some Tp.modO3 else if k = Tp.modO1.name then some Tp.modO1 else none) = im15 at *
  have HK15 : Hid (∀ x, x ∈ K15 ↔ x = [97] ∨ x = [98]) := hK15
  obtain ⟨c0, c1, c2, c3, c4, c5⟩ := hK12.cells
  obtain ⟨d0, d1, d2, d3, d4, d5⟩ := (hC12.on hb14).cells
  have HB15 : Hid (Below w.heap.size w w15) := HB12.out.trans (hb15.mono HB12.out.size)
  have e97 : bs Tp.modO1.name = ⟨#[97]⟩ := rfl
  have e98 : bs Tp.modO3.name = ⟨#[98]⟩ := rfl
  rw [e97] at u14 c0
  rw [e98] at u15 d0
  have hmm := @run_makeMap Tryz.prog
  unfold mcells at u14 u15
  clear hM15 hK15 hb14 hb15 e97 e98 hb12 hK12 hC12 HEQ HK11 HC11
  go_wp2_with fail
  clear u14 u15 c0 c1 c2 c3 c4 c5 d0 d1 d2 d3 d4 d5
  refine HOR2.out.mono ?_
  rintro e w16 ⟨hb16, hq⟩
  rcases hq with ⟨T, ta, tc, _, hca, _⟩ | ⟨rfl, _⟩
  · exact absurd hca (Tp.no_came_ab HK15.out HA3.out HA4.out)
  have HB16 : Hid (Below w.heap.size w w16) := HB15.out.trans (hb16.mono HB15.out.size)
  have HTE := Lib.hid (tell_en 11 w16 (HV.out.on' hB HB16.out).et)
  clear hb16 HOR2 hmm
  go_wp2_with fail
  refine HTE.out.mono ?_
  rintro e w17 ⟨rfl, hb17⟩
  have HB17 : Hid (Below w.heap.size w w17) := HB16.out.trans (hb17.mono HB16.out.size)
  clear hb17 HTE
  go_wp2_with fail
  go_ret
  exact ⟨rfl, HB17.out⟩
end Go.Proofs.YtadgeapgoggljaaGreatDoor
