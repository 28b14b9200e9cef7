import Derived.Test.YtfcdphgggdioeaaGreatDoorKOb
import Derived.Test.YtfcdphgggdioeaaGreatDoorKLb
import Derived.Test.YtfcdphgggdioeaaGreatDoorKOa
import Derived.Test.YtfcdphgggdioeaaGreatDoorKHa
import Derived.Test.YtfcdphgggdioeaaGreatDoorKTa
/- Chapter 9: the document's Order, walked. -/
namespace Go.Proofs.YtfcdphgggdioeaaGreatDoor
open Go.RowKit Go.Maps
open Tp (Bs)
theorem zeroBool' (w : World) : (zeroValue 4).run Tryz.prog w = .ok (.bool false) w := by kernel_rfl
def ROrd (w : World) (K : List Bs) (im : Bs → List Bs) (e : Ending) (w' : World) : Prop := Below w.heap.size w w' ∧ ((∃ T a c, e = .returned (.tuple #[.slice a T.length c, .bool true]) ∧ (Tp.Came K im T ∧ Tp.Sel K im T) ∧ StrsAt w' T a) ∨ (e = .returned (.tuple #[.slice none 0 0, .bool false]) ∧ Tp.Round K im))
theorem bs_nil : bs [] = ⟨#[]⟩ := rfl
theorem fld1 (nm : ByteArray) (ia ga pa ba : Option Addr) (ln gn pn bn ic gc pc bc : Nat) (w : World) : (Instr.field 28 (.agg #[.string nm, .slice ia ln ic, .slice ga gn gc, .slice pa pn pc, .slice ba bn bc]) 1).run Tryz.prog w = .ok (.slice ia ln ic) w := by kernel_rfl
set_option maxRecDepth 100000 in
set_option maxHeartbeats 4000000 in
theorem rorder_post {w : World} {mb n : Nat} {f : Bs → Option Value} {K : List Bs} {im : Bs → List Bs} (h : Mods w mb n f K im) (hne : ∀ x ∈ K, x ≠ []) :
    Calls Tryz.prog 5 #[.map (some mb)] w (ROrd w K im) := by
  have hmm := @run_makeMap Tryz.prog
  have HM := Lib.hid h
  obtain ⟨D, hown, hD⟩ := h.m.own
  have hn100 := h.n
  have hml := h.m.lt
  have HL0 := Lib.hid (LeftK.start hD h.key)
  have HOWN := Lib.hid hown
  have HNE := Lib.hid hne
  obtain ⟨i1, hi, hz0, hz1, hz2⟩ := info_parts Tryz.infoString
  clear hown hD h hne
  go_enter Tryz.func5, Tryz.ntmps5
  go_wp2_with (at_range; refine wpList_range_own _ rfl _ 23 rfl 9 28 skey Tryz.underlying23 heldV mb n D rfl HOWN.out ?_; intro w3 hrg3 hg3 hs3)
  go_frame
  have HB3 : Hid (Below w.heap.size w w3) := (Below.refl _ _).grown hg3 (Nat.le_refl _) (fun k hk => by cases hk)
  have HRG3 := Lib.hid hrg3
  have HR3 : Hid (w3.ownsRow w.heap.size 9 1 (.slice none 0 0) ([] : List Bs).length (strs [])) := World.ownsRow_nil _ _ _ _
  obtain ⟨r, hr⟩ : ∃ r, r = w.heap.size := ⟨_, rfl⟩
  rw [← hr] at HRG3 ⊢
  have hr3 : w.heap.size ≤ r := by omega
  clear hrg3 hg3 hs3 HOWN hr
  go_loopg [4] (Maps.size D) (fun k v4 wr => ∃ left d1 ta tc, Hid (wr.ranges Tryz.prog 9 heldV mb r n D left k) ∧ Hid (LeftK K d1 left) ∧ v4 = .slice ta d1.length tc ∧ Hid (wr.ownsRow w.heap.size 9 1 (.slice ta d1.length tc) d1.length (strs d1)) ∧ Hid (Below w.heap.size w wr))
  case atStart => exact ⟨_, [], _, _, HRG3, HL0, rfl, HR3, HB3⟩
  case round =>
    obtain ⟨left, d1, ta, tc, HRG, HLK, rfl, HRw, HBr⟩ := hrel
    clear HRG3 HL0 HR3 HB3
    have hsr := HBr.out.size
    have hdl : d1.length ≤ K.length := nodup_leT HLK.out.1 HLK.out.2.1
    go_wp2_with (first | (at_next; refine wpList_next_ranges _ rfl _ rfl 9 skey heldV (fun x : Bs => .string (bs x)) (fun v : Value => v) (fun key kl h => (skey_inv' h).imp fun _ q => q.1) (fun v _ _ => ⟨v, rfl⟩) mb r n D left _ rfl HRG.out ?_ ?_))
    · intro _ hdone
      have hdK := HLK.out.done hdone
      have hpm : d1.Perm K := perm_of HLK.out.1 HM.out.nd hdK
      have HSR := Lib.hid (sortStr_post HRw.out (by omega))
      have HSK : Hid (sK d1 = sK K) := sK_perm hpm
      have HLEN : Hid (d1.length = K.length) := hpm.length_eq
      have hdl1 : d1.length ≤ 100 := by omega
      clear hdone hdK hpm hdl HRG HLK
      generalize hdn : d1.length = dl at *
      clear hdn
      go_wp2_with fail
      refine HSR.out.mono ?_
      rintro e w6 ⟨rfl, how, hgr⟩
      have HB6 : Hid (Below w.heap.size w w6) := HBr.out.trans ((Below.refl _ _).grown hgr hsr (fun k hk => (HRw.out.lt k hk).1))
      have HS6 : Hid (StrsAt w6 (sK K) ta) := by
        show StrsAt _ _ _
        refine own_strsAt (m := dl) (B := w.heap.size) (c := tc) ?_
        rw [sK_len, ← HLEN.out, ← HSK.out]
        exact how
      obtain ⟨w7, hw7⟩ : ∃ w7, w7 = w6.alloc (.map #[] 0) := ⟨_, rfl⟩
      obtain ⟨db, hdb⟩ : ∃ db, db = w6.heap.size := ⟨_, rfl⟩
      have HM7 : Hid (MapV w7 db 0 (boolF [])) := by
        show MapV _ _ _ _
        rw [show boolF [] = fun _ => none from by funext k; simp [boolF], hw7, hdb]
        exact MapV.made w6
      have HB7 : Hid (Below w6.heap.size w6 w7) := by
        show Below _ _ _
        rw [hw7]
        exact (Below.refl _ _).alloc (Nat.le_refl _) _
      have HMD : Hid (Mods w6 mb n f K im) := HM.out.on HB6.out
      have HR7 : Hid (w7.ownsRow w6.heap.size 9 1 (.slice none 0 0) ([] : List Bs).length (strs [])) := World.ownsRow_nil _ _ _ _
      have hdb6 : w6.heap.size ≤ db := by omega
      have HRF : Hid (Tp.Rf K im []) := Tp.Rf.nil K im
      have HKM : Hid (∀ x, x ∈ sK K ↔ x ∈ K) := fun x => sK_mem
      have HKD : Hid ((sK K).length = dl) := by show _ = _; rw [sK_len, HLEN.out]
      clear how hgr HSR HRw hsr HBr HSK
      go_wp2_with fail
      rw [← hw7, ← hdb]
      clear hw7 hdb hmm
      go_loopg [5] dl (fun k v5 wr => ∃ T ta' tc' c, k = dl - T.length ∧ v5 = .slice ta' T.length tc' ∧ c ≤ T.length ∧ Hid (Tp.Rf K im T) ∧ Hid (Below w6.heap.size w6 wr) ∧ Hid (MapV wr db c (boolF T)) ∧ Hid (wr.ownsRow w6.heap.size 9 1 (.slice ta' T.length tc') T.length (strs T)))
      case atStart => exact ⟨[], none, 0, 0, rfl, rfl, Nat.le_refl _, HRF, HB7, HM7, HR7⟩
      case round =>
        obtain ⟨T, ta', tc', c, hk, rfl, hc, HRf, HBr, HMr, HRr⟩ := hrel
        obtain ⟨wo, hz_⟩ : ∃ z, z = wr := ⟨_, rfl⟩
        subst hz_
        clear HRF HB7 HM7 HR7
        have hTl : T.length ≤ dl := by have := HRf.out.len; have := HLEN.out; omega
        have hsr := HBr.out.size
        obtain ⟨tl, htl⟩ : ∃ tl, tl = T.length := ⟨_, rfl⟩
        have HTL := Lib.hid htl
        rw [← htl] at hTl hc HRr ⊢
        clear htl
        by_cases hlt : tl < dl
        · have hlt' : (tl : Int) < (dl : Int) := by omega
          have HE0 : Hid (bs (Tp.nxt K im T ((sK K).drop dl)) = ⟨#[]⟩) := by
            show _ = _
            rw [Tp.nxt_end K im T (sK K) (by have := HKD.out; omega)]
            rfl
          go_wp2_with fail
          go_loopg [8, 9] dl (fun k v8 v9 w8 => ∃ j : Nat, j ≤ dl ∧ k = j ∧ v9 = .int .i64 ((j : Int) - 1) ∧ v8 = .string (bs (Tp.nxt K im T ((sK K).drop j))) ∧ Hid (Below wo.heap.size wo w8))
          case atStart => exact ⟨dl, Nat.le_refl _, rfl, rfl, by rw [HE0.out], Below.refl _ _⟩
          case round =>
            obtain ⟨j, hjd, hjk, rfl, rfl, HB8⟩ := hrel
            obtain ⟨w8, hz_⟩ : ∃ z, z = wr := ⟨_, rfl⟩
            subst hz_
            clear HE0
            have h68 : Below w6.heap.size w6 w8 := HBr.out.trans (HB8.out.mono hsr)
            cases j with
            | zero =>
              obtain ⟨nx, hnx⟩ : ∃ nx, nx = Tp.nxt K im T (sK K) := ⟨_, rfl⟩
              rw [List.drop_zero, ← hnx]
              have HNX := Lib.hid hnx
              have hm1 : ¬ (((0 : Nat) : Int) - 1) ≥ 0 := by omega
              have HB6w : Hid (Below w.heap.size w w8) := HB6.out.trans (h68.mono HB6.out.size)
              by_cases hn0 : nx = []
              · have HRo : Hid (Tp.Round K im) := Tp.Rf.round (T := T) HM.out.nd (by have := HLEN.out; have := HTL.out; omega) (Tp.nxt_none HKM.out HNE.out (by rw [← HNX.out]; exact hn0))
                subst hn0
                rw [bs_nil]
                clear hnx h68
                go_wp2_with fail
                go_ret2
                exact ⟨HB6w.out, Or.inr ⟨rfl, HRo.out⟩⟩
              · obtain ⟨s1, s2, s3, s4⟩ := Tp.nxt_some HKM.out (sK_le K) (T := T) (im := im) (by rw [← HNX.out]; exact hn0)
                rw [← hnx] at s1 s2 s3 s4
                have HRf2 : Hid (Tp.Rf K im (T ++ [nx])) := HRf.out.snoc s1 s2 s3 s4
                have HXL := Lib.hid (HM.out.kl nx s1)
                have hq0 : ((bs nx).toList == (bs []).toList) = false := by rw [bs_eq]; exact decide_eq_false hn0
                have hq1 : ((bs nx).toList == ([] : List UInt8)) = false := by rw [← bs_toList []]; exact hq0
                have HM8 : Hid (MapV w8 db c (boolF T)) := HMr.out.on (HB8.out.block db HMr.out.lt)
                have HR8 : Hid (w8.ownsRow w6.heap.size 9 1 (.slice ta' tl tc') tl (strs T)) := owns_keep HRr.out (fun b _ hl _ => HB8.out.block b hl)
                have H68 := Lib.hid h68
                have htl100 : tl ≤ 100 := by omega
                have hc100 : c < 1000000 := by omega
                clear hnx h68 s1 s2 s3 s4 HMr HRr HB8 HBr hsr
                go_upto_region 26 with (at_mapUpdate; refine wpList_mapUpdate_v' _ rfl _ _ _ 66 rfl _ Tryz.underlying66 db c (boolF T) HM8.out hc100 nx HXL.out _ rfl rfl rfl ?_; intro w9 u1 u2 u3)
                have HM9 : Hid (MapV w9 db (c + 1) (boolF (T ++ [nx]))) := by
                  show MapV _ _ _ _
                  rw [← boolF_snoc]
                  exact u1
                have HR9 : Hid (w9.ownsRow w6.heap.size 9 1 _ tl (strs T)) := owns_keep HR8.out (fun b _ hl q => u2.block b hl (fun e => own_ne_map HR8.out HM8.out (e ▸ q)))
                have HB9 : Hid (Below w6.heap.size w6 w9) := H68.out.trans (ext_below u2 hdb6 H68.out.size)
                obtain ⟨w10, hw10⟩ : ∃ w10, w10 = w9.alloc (.cells #[.string (bs nx)] 9) := ⟨_, rfl⟩
                have hb10 : Below w9.heap.size w9 w10 := by rw [hw10]; exact (Below.refl _ _).alloc (Nat.le_refl _) _
                have hk10 : w10.heap[w9.heap.size]? = some (.cells #[.string (bs nx)] 9 (0, 0)) := by rw [hw10]; exact new_blk _ _
                have HROW : Hid (w10.ownsRow w6.heap.size 9 1 _ tl (strs T)) := owns_keep HR9.out (fun b _ hl _ => hb10.block b hl)
                have HRW10 := HROW
                have HNEWS : Hid (∀ j u, [Value.string (bs nx)][j]? = some u → w10.cell? ((⟨w9.heap.size, 0, none⟩ : Addr).add j) = some u) := fun j u hj => by
                  rw [Addr.add_lit]
                  cases j with
                  | zero => simp at hj; subst hj; exact (cell_blk hk10).trans rfl
                  | succ j => simp at hj
                have HB10 : Hid (Below w6.heap.size w6 w10) := HB9.out.trans (hb10.mono HB9.out.size)
                have HM10 : Hid (MapV w10 db (c + 1) (boolF (T ++ [nx]))) := HM9.out.on (hb10.block db HM9.out.lt)
                have hs10 := HB10.out.size
                rw [hw10] at HROW HNEWS
                clear u1 u2 u3 hb10 hk10 HM8 HR8 HM9 HR9 HB9 hq0 hq1
                go_wp2_with (at_builtin; refine wpList_append_where _ rfl _ _ 22 rfl w6.heap.size 9 i1 (.string ⟨#[]⟩) 1 16 Tryz.underlying22 hi hz0 hz1 hz2 rfl (by decide) _ tl _ rfl HROW.out ⟨w9.heap.size, 0, none⟩ 1 1 [.string (bs nx)] rfl rfl HNEWS.out (by intro u hu; simp at hu; subst hu; rfl) (by unfold maxLen; omega) (by omega) (by rw [← hw10]; omega) ?_)
                rw [← hw10]
                intro v11 w11 h11 g11 _
                have HB11 : Hid (Below w6.heap.size w6 w11) := HB10.out.trans ((Below.refl _ _).grown g11 hs10 (fun k hk => (HRW10.out.lt k hk).1))
                have HM11 : Hid (MapV w11 db (c + 1) (boolF (T ++ [nx]))) := HM10.out.on (g11.block db HM10.out.lt (fun e => own_ne_map HRW10.out HM10.out e.symm))
                obtain ⟨tb', td', hv11⟩ := owns_shape h11
                subst hv11
                have HDX : Hid ((T ++ [nx]).length = tl + 1) := by show _ = _; rw [HTL.out]; simp
                have HR11 : Hid (w11.ownsRow w6.heap.size 9 1 (.slice tb' (T ++ [nx]).length td') (T ++ [nx]).length (strs (T ++ [nx]))) := by
                  show World.ownsRow _ _ _ _ _ _ _
                  rw [HDX.out, ← strs_snocT]
                  exact h11
                clear h11 g11 HROW HNEWS hw10
                go_wp2_with fail
                go_roundg (dl - (T ++ [nx]).length)
                case measure => have := HDX.out; have := HTL.out; omega
                case rel => exact ⟨T ++ [nx], tb', td', c + 1, rfl, by rw [HDX.out], by have := HDX.out; have := HTL.out; omega, HRf2, HB11, HM11, HR11⟩
            | succ p =>
              have ep : (((p + 1 : Nat) : Int) - 1) = (p : Int) := by omega
              rw [ep]
              have hp0 : ¬ (p : Int) < 0 := by omega
              have hp1 : (p : Int) ≥ 0 := by omega
              have hpd : (p : Int) < (dl : Int) := by omega
              have hp100 : (p : Int) ≤ 100 := by omega
              have hpk : p < (sK K).length := by have := HKD.out; omega
              obtain ⟨g, o, hga, hgl, hcell⟩ := (HS6.out.on h68).c p hpk
              subst hga
              have hxK : (sK K)[p] ∈ K := sK_mem.1 (List.getElem_mem hpk)
              have hxl := HMD.out.kl _ hxK
              have hMr := HMD.out.on h68
              obtain ⟨nm, ia, ic, ga, gn, gc, pa, pn, pc, ba, bn, bc, hfm, hst, him6, himl⟩ := hMr.mod _ hxK
              have HNS : Hid (Tp.nxt K im T ((sK K).drop p) = if Tp.may K im T (sK K)[p] = true then (sK K)[p] else Tp.nxt K im T ((sK K).drop (p + 1))) := Tp.nxt_step K im T (sK K) p hpk
              have hD8 : MapV w8 db c (boolF T) := HMr.out.on (HB8.out.block db HMr.out.lt)
              have hlkd := hD8.look (t := 66) Tryz.underlying66 (zeroBool' w8) (sK K)[p] hxl false
              simp only [Bool.false_eq_true, if_false] at hlkd
              rw [boolF_get] at hlkd
              have hlkm := hMr.m.look (t := 23) Tryz.underlying23 (zeroMod' w8) (sK K)[p] hxl false
              simp only [Bool.false_eq_true, if_false] at hlkm
              rw [hfm, Option.getD_some] at hlkm
              generalize hxx : (sK K)[p] = x at *
              obtain ⟨dx, hdx⟩ : ∃ dx, dx = decide (x ∈ T) := ⟨_, rfl⟩
              rw [← hdx] at hlkd
              have HM0 : Hid (Tp.mayI K T x ((im x).take 0) = !dx) := by show _ = _; rw [hdx]; simp [Tp.mayI]
              have HMy : Hid (Tp.may K im T x = Tp.mayI K T x (im x)) := rfl
              have HST : Hid (∀ W, Below w8.heap.size w8 W → StrsAt W (im x) ia) := fun W hW => hst.on hW
              have HIML := Lib.hid himl
              have HMOD : Hid (∀ W, Below w8.heap.size w8 W → Mods W mb n f K im) := fun W hW => hMr.on hW
              have HDM : Hid (∀ W, Below w8.heap.size w8 W → MapV W db c (boolF T)) := fun W hW => hD8.on (hW.block db hD8.lt)
              have HCX : Hid (∀ W, Below w8.heap.size w8 W → W.cell? ⟨g, o + p, none⟩ = some (.string (bs x)) ∧ g < W.heap.size) := fun W hW => ⟨(hW.cell (p := ⟨g, o + p, none⟩) hgl).trans hcell, Nat.lt_of_lt_of_le hgl hW.size⟩
              obtain ⟨ln, hln⟩ : ∃ ln, ln = (im x).length := ⟨_, rfl⟩
              rw [← hln] at hlkm him6
              have HLN := Lib.hid hln
              have him6' : (ln : Int) ≤ 6 := by omega
              have HB8' := HB8
              have hfld := fld1 nm ia ga pa ba ln gn pn bn ic gc pc bc w8
              clear hst himl hMr hD8 hfm hdx hln h68 hxK hxx
              go_wp2_with fail
              clear hlkd hlkm hcell hgl hfld
              go_loopg [10, 55] ln (fun k v10 v55 w9 => ∃ q : Nat, q ≤ ln ∧ k = ln - q ∧ v55 = .int .i64 (q : Int) ∧ v10 = .bool (Tp.mayI K T x ((im x).take q)) ∧ Hid (Below w8.heap.size w8 w9))
              case atStart => exact ⟨0, Nat.zero_le _, rfl, rfl, by rw [HM0.out], Below.refl _ _⟩
              case round =>
                obtain ⟨q, hqd, hqk, rfl, rfl, HB9⟩ := hrel
                obtain ⟨w9, hz_⟩ : ∃ z, z = wr := ⟨_, rfl⟩
                subst hz_
                clear HM0
                have hsz9 := HB9.out.size
                by_cases hq : q < ln
                · have hq' : (q : Int) < (ln : Int) := by omega
                  have hq0 : ¬ (q : Int) < 0 := by omega
                  have hqi : q < (im x).length := by have := HLN.out; omega
                  obtain ⟨g2, o2, hga2, hgl2, hcell2⟩ := (HST.out w9 HB9.out).c q hqi
                  subst hga2
                  have hyl := HIML.out _ (List.getElem_mem hqi)
                  have HMS : Hid (Tp.mayI K T x ((im x).take (q + 1)) = (Tp.mayI K T x ((im x).take q) && !(decide ((im x)[q] ∈ K) && !decide ((im x)[q] ∈ T)))) := Tp.mayI_step hqi
                  have hM9 := HMOD.out w9 HB9.out
                  have hlk2 := hM9.m.look (t := 23) Tryz.underlying23 (zeroMod' w9) (im x)[q] hyl true
                  simp only [if_true] at hlk2
                  generalize (im x)[q] = y at *
                  generalize hmi : Tp.mayI K T x ((im x).take q) = mi at *
                  clear hmi
                  by_cases hyK : y ∈ K
                  · obtain ⟨nm2, ja, jc, ga2, gn2, gc2, pa2, pn2, pc2, ba2, bn2, bc2, hfm2, _⟩ := hM9.mod y hyK
                    rw [hfm2] at hlk2
                    simp only [Option.getD_some, Option.isSome_some] at hlk2
                    obtain ⟨w10, hw10⟩ : ∃ w10, w10 = w9.alloc (.cells #[.string nm2, .slice ja (im y).length jc, .slice ga2 gn2 gc2, .slice pa2 pn2 pc2, .slice ba2 bn2 bc2] 28) := ⟨_, rfl⟩
                    have hb10 : Below w9.heap.size w9 w10 := by rw [hw10]; exact (Below.refl _ _).alloc (Nat.le_refl _) _
                    have HB10 : Hid (Below w8.heap.size w8 w10) := HB9.out.trans (hb10.mono hsz9)
                    have hlk3 := (HDM.out w10 HB10.out).look (t := 66) Tryz.underlying66 (zeroBool' w10) y hyl false
                    simp only [Bool.false_eq_true, if_false] at hlk3
                    rw [boolF_get] at hlk3
                    rw [decide_eq_true hyK] at HMS
                    obtain ⟨dy, hdy⟩ : ∃ dy, dy = decide (y ∈ T) := ⟨_, rfl⟩
                    rw [← hdy] at hlk3 HMS
                    clear hM9 hfm2 hb10 hdy hyK
                    cases dy with
                    | true =>
                      have HME : Hid (Tp.mayI K T x ((im x).take (q + 1)) = mi) := by show _ = _; rw [HMS.out]; simp
                      go_upto_region 18 with fail
                      rw [← hw10]
                      clear hw10 hlk2 hcell2 hgl2
                      go_wp2_with fail
                      go_roundg (ln - (q + 1))
                      case measure => omega
                      case rel => exact ⟨q + 1, by omega, rfl, by go_num, by rw [HME.out], HB10⟩
                    | false =>
                      have HME : Hid (Tp.mayI K T x ((im x).take (q + 1)) = false) := by show _ = _; rw [HMS.out]; simp
                      go_upto_region 18 with fail
                      rw [← hw10]
                      clear hw10 hlk2 hcell2 hgl2
                      go_wp2_with fail
                      go_roundg (ln - (q + 1))
                      case measure => omega
                      case rel => exact ⟨q + 1, by omega, rfl, by go_num, by rw [HME.out], HB10⟩
                  · have hfn : f y = none := by
                      cases hz : f y with
                      | none => rfl
                      | some u => exact absurd ((hM9.key y).2 (by rw [hz]; rfl)) hyK
                    rw [hfn] at hlk2
                    simp only [Option.getD_none, Option.isSome_none] at hlk2
                    rw [decide_eq_false hyK] at HMS
                    have HME : Hid (Tp.mayI K T x ((im x).take (q + 1)) = mi) := by show _ = _; rw [HMS.out]; simp
                    obtain ⟨w10, hw10⟩ : ∃ w10, w10 = w9.alloc (.cells #[.string ⟨#[]⟩, .slice none 0 0, .slice none 0 0, .slice none 0 0, .slice none 0 0] 28) := ⟨_, rfl⟩
                    have hb10 : Below w9.heap.size w9 w10 := by rw [hw10]; exact (Below.refl _ _).alloc (Nat.le_refl _) _
                    have HB10 : Hid (Below w8.heap.size w8 w10) := HB9.out.trans (hb10.mono hsz9)
                    clear hM9 hfn hb10 hyK HMS
                    go_upto_region 18 with fail
                    rw [← hw10]
                    clear hw10 hlk2 hcell2 hgl2
                    go_wp2_with fail
                    go_roundg (ln - (q + 1))
                    case measure => omega
                    case rel => exact ⟨q + 1, by omega, rfl, by go_num, by rw [HME.out], HB10⟩
                · have hq' : ¬ (q : Int) < (ln : Int) := by omega
                  have HME : Hid (Tp.may K im T x = Tp.mayI K T x ((im x).take q)) := by
                    show _ = _
                    rw [List.take_of_length_le (by have := HLN.out; omega)]
                    exact HMy.out
                  generalize hmi : Tp.mayI K T x ((im x).take q) = mi at *
                  clear hmi
                  obtain ⟨hcx, hgx⟩ := HCX.out w9 HB9.out
                  have HBo : Hid (Below wo.heap.size wo w9) := HB8'.out.trans (HB9.out.mono HB8'.out.size)
                  cases mi with
                  | true =>
                    have HNE2 : Hid (Tp.nxt K im T ((sK K).drop p) = x) := by show _ = _; rw [HNS.out, if_pos HME.out]
                    go_wp2_with fail
                    go_roundg p
                    case measure => omega
                    case rel => exact ⟨p, by omega, rfl, by go_num, by rw [HNE2.out], HBo⟩
                  | false =>
                    have HNE2 : Hid (Tp.nxt K im T ((sK K).drop p) = Tp.nxt K im T ((sK K).drop (p + 1))) := by show _ = _; rw [HNS.out, if_neg (by rw [HME.out]; decide)]
                    clear hcx hgx
                    go_wp2_with fail
                    go_roundg p
                    case measure => omega
                    case rel => exact ⟨p, by omega, rfl, by go_num, by rw [HNE2.out], HBo⟩
        · have hlt' : ¬ (tl : Int) < (dl : Int) := by omega
          have HCa : Hid (Tp.Came K im T ∧ Tp.Sel K im T) := ⟨HRf.out.came (by have := HLEN.out; have := HTL.out; omega), HRf.out.se⟩
          have HST : Hid (StrsAt wo T ta') := by
            refine own_strsAt (m := tl) (B := w6.heap.size) (c := tc') ?_
            have := HRr.out
            rw [HTL.out] at this ⊢
            exact this
          have HBw : Hid (Below w.heap.size w wo) := HB6.out.trans (HBr.out.mono HB6.out.size)
          go_wp2_with fail
          go_ret2
          exact ⟨HBw.out, Or.inl ⟨T, ta', tc', congrArg (fun z => Ending.returned (.tuple #[.slice ta' z tc', .bool true])) HTL.out, HCa.out, HST.out⟩⟩
    · intro x cv kl yy1 yy2 w9 cnt' hkey hlk hR hat hrg9 hlt9 hg9 hs9 hen
      obtain ⟨x', hx1, hx2⟩ := skey_inv' hkey
      have hxx : x = x' := by injection hx1 with hx1; rw [← bs_toList x, ← bs_toList x', hx1]
      subst hxx
      rw [hx2] at hlk hrg9
      obtain ⟨hxK, hxn, hLK2⟩ := HLK.out.next hlk
      have hit := ranges_iter HRG.out
      have HB9 : Hid (Below w.heap.size w w9) := HBr.out.trans ((Below.refl _ _).grown hg9 hsr (fun k hk => by cases hk; exact hr3))
      have hR9 : w9.ownsRow w.heap.size 9 1 (.slice ta d1.length tc) d1.length (strs d1) := owns_keep HRw.out (fun b _ hl q => hg9.block b hl (fun e => own_ne_iter HRw.out hit (by rw [q]; exact e)))
      obtain ⟨w10, hw10⟩ : ∃ w10, w10 = w9.alloc (.cells #[.string (bs x)] 9) := ⟨_, rfl⟩
      have hb10 : Below w9.heap.size w9 w10 := by rw [hw10]; exact (Below.refl _ _).alloc (Nat.le_refl _) _
      have hk10 : w10.heap[w9.heap.size]? = some (.cells #[.string (bs x)] 9 (0, 0)) := by rw [hw10]; exact new_blk _ _
      have HROW : Hid (w10.ownsRow w.heap.size 9 1 (.slice ta d1.length tc) d1.length (strs d1)) := owns_keep hR9 (fun b _ hl _ => hb10.block b hl)
      have HRW10 := HROW
      have HNEWS : Hid (∀ j u, [Value.string (bs x)][j]? = some u → w10.cell? ((⟨w9.heap.size, 0, none⟩ : Addr).add j) = some u) := fun j u hj => by
        rw [Addr.add_lit]
        cases j with
        | zero => simp at hj; subst hj; exact (cell_blk hk10).trans rfl
        | succ j => simp at hj
      have HB10 : Hid (Below w.heap.size w w10) := HB9.out.trans (hb10.mono HB9.out.size)
      have hs10 := HB10.out.size
      have hrl9 := hrg9.lt
      have hml9 : mb < w9.heap.size := by have := HB9.out.size; omega
      have HRG10 := Lib.hid (ranges_keep hrg9 (hb10.block mb hml9) (hb10.block r hrl9))
      have HLK2 := Lib.hid hLK2
      have hd100 : d1.length ≤ 100 := by omega
      have HDX : Hid ((d1 ++ [x]).length = d1.length + 1) := by show _ = _; simp
      obtain ⟨dl, hdq⟩ : ∃ dl, dl = d1.length := ⟨_, rfl⟩
      have HDQ := Lib.hid hdq
      rw [← hdq] at HROW hd100 ⊢
      rw [hw10] at HROW HNEWS
      clear hkey hlk hR hat hrg9 hg9 hs9 hx1 hx2 hxn hLK2 HRG HLK HBr hit hR9 hb10 hk10 hdq hdl hrl9 hml9 HRw
      go_wp2_with (at_builtin; refine wpList_append_where _ rfl _ _ 22 rfl w.heap.size 9 i1 (.string ⟨#[]⟩) 1 16 Tryz.underlying22 hi hz0 hz1 hz2 rfl (by decide) _ dl _ rfl HROW.out ⟨w9.heap.size, 0, none⟩ 1 1 [.string (bs x)] rfl rfl HNEWS.out (by intro u hu; simp at hu; subst hu; rfl) (by unfold maxLen; omega) (by omega) (by rw [← hw10]; omega) ?_)
      rw [← hw10]
      intro v8 w11 h11 g11 _
      have g11' : w10.grownBy w11 (Value.slice ta d1.length tc).ownBlock := by rw [← HDQ.out]; exact g11
      have HB11 : Hid (Below w.heap.size w w11) := HB10.out.trans ((Below.refl _ _).grown g11' hs10 (fun k hk => (HRW10.out.lt k hk).1))
      obtain ⟨ta', tc', hv8⟩ := owns_shape h11
      subst hv8
      have HR11 : Hid (w11.ownsRow w.heap.size 9 1 (.slice ta' (d1 ++ [x]).length tc') (d1 ++ [x]).length (strs (d1 ++ [x]))) := by
        show World.ownsRow _ _ _ _ _ _ _
        rw [HDX.out, ← strs_snocT, ← HDQ.out]
        exact h11
      have HRG11 := Lib.hid (ranges_keep HRG10.out ((HB11.out.block mb hml).trans (HB10.out.block mb hml).symm) (g11'.block r HRG10.out.lt (fun e => own_ne_iter HRW10.out (ranges_iter HRG10.out) e.symm)))
      have HLn : Hid (dl + 1 = (d1 ++ [x]).length) := by show _ = _; rw [HDX.out, HDQ.out]
      clear h11 g11 g11' HROW HNEWS hw10 hen
      go_wp2_with fail
      go_roundg cnt'
      case measure => exact hlt9
      case rel => exact ⟨_, d1 ++ [x], ta', tc', HRG11, HLK2, by rw [← HLn.out], HR11, HB11⟩
end Go.Proofs.YtfcdphgggdioeaaGreatDoor
/- Chapter 9: the document's Stale, walked. -/
namespace Go.Proofs.YtfcdphgggdioeaaGreatDoor
open Go.RowKit Go.Maps
open Tp (Bs Sy)
theorem sK_filter (K : List Bs) (p : Bs → Bool) : (sK K).filter p = sK (K.filter p) := by
  have h1 : ((sK K).filter p).Perm (K.filter p) := (List.mergeSort_perm K _).filter p
  rw [← sK_perm h1]
  exact (List.mergeSort_of_pairwise ((sK_sorted K).filter p)).symm
theorem stX_all (F G : Bs → Option Tp.M) (K ch : List Bs) : stX F G K ch K.length = sK (K.filter (stP F G ch)) := by
  unfold stX
  rw [List.take_of_length_le (by rw [sK_len]; exact Nat.le_refl _), sK_filter]
/- so far as some of what is imported tell -/
def stI (F G : Bs → Option Tp.M) (ch : List Bs) (x : Bs) (m : Tp.M) (l : List Bs) : Bool := decide (x ∈ ch) || l.any fun k => decide (k ∈ ch) && difP F G m k
theorem stI_step {F G : Bs → Option Tp.M} {ch : List Bs} {x : Bs} {m : Tp.M} {l : List Bs} {i : Nat} (h : i < l.length) : stI F G ch x m (l.take (i + 1)) = (stI F G ch x m (l.take i) || (decide (l[i] ∈ ch) && difP F G m l[i])) := by
  unfold stI
  rw [List.take_succ_eq_append_getElem h, List.any_append, Bool.or_assoc]
  simp
theorem rused_exact {m : Tp.M} (hm : Tp.WM m) (hn : Tp.nM m ≤ 1000) {w : World} {ia ga pa ba : Option Addr} {ic gc pc bc : Nat} (h : MB w w.heap.size m ia ga pa ba ic gc pc bc) (o : Bs) :
    Calls Tryz.prog 35 #[.agg #[.string (bs m.name), .slice ia m.imports.length ic, .slice ga m.vars.length gc, .slice pa m.procs.length pc, .slice ba m.body.length bc], .string (bs o)] w fun e w' => ∃ a c, e = .returned (.slice a (usP m o).length c) ∧ StrsAt w' (usP m o) a ∧ Below w.heap.size w w' := by
  refine (rused_post hm (by have := allM_count hm; omega) h o).mono ?_
  rintro e w' ⟨a, c, K, rfl, hK, hmem, hst, hb⟩
  have e1 : usP m o = sK K := used_same hm o hK hmem
  refine ⟨a, c, ?_, by rw [e1]; exact hst, hb⟩
  rw [e1, sK_len]
set_option maxRecDepth 100000 in
set_option maxHeartbeats 8000000 in
theorem rstale_post {w : World} {ma mb na n : Nat} {fa f : Bs → Option Value} {F G : Bs → Option Tp.M} {K : List Bs} (hA : ModF w ma na fa F) (hF : ModF w mb n f G) (hM : Mods w mb n f K (imF G)) (hKF : ∀ x, x ∈ K ↔ (G x).isSome = true) {ch : List Bs} {ca : Option Addr} {cc : Nat} (hS : StrsAt w ch ca) (hch : ∀ x ∈ ch, x.length ≤ 9223372036854775807) (hcl : ch.length ≤ 100) :
    Calls Tryz.prog 10 #[.map (some ma), .map (some mb), .slice ca ch.length cc] w (StaleP w (sK (K.filter (stP F G ch)))) := by
  have hmm := @run_makeMap Tryz.prog
  have HA := Lib.hid hA
  have HF := Lib.hid hF
  have HM := Lib.hid hM
  have HKF := Lib.hid hKF
  have HS := Lib.hid hS
  have HCH := Lib.hid hch
  obtain ⟨D, hown, hD⟩ := hM.m.own
  have HD := Lib.hid hD
  have HOWN0 := Lib.hid hown
  have HL0 := Lib.hid (LeftK.start hD hM.key)
  have hn100 := hM.n
  have hml := hM.m.lt
  have hal := hA.m.lt
  have hcl' : (ch.length : Int) ≤ 100 := by omega
  obtain ⟨i1, hi, hz0, hz1, hz2⟩ := info_parts Tryz.infoString
  obtain ⟨w1, hw1⟩ : ∃ w1, w1 = w.alloc (.map #[] 0) := ⟨_, rfl⟩
  obtain ⟨ib, hib⟩ : ∃ ib, ib = w.heap.size := ⟨_, rfl⟩
  have hb1 : Below w.heap.size w w1 := by rw [hw1]; exact (Below.refl _ _).alloc (Nat.le_refl _) _
  have HI1 : Hid (MapV w1 ib 0 (boolF (ch.take 0))) := by
    show MapV _ _ _ _
    rw [show boolF (ch.take 0) = fun _ => none from by funext k; simp [boolF], hw1, hib]
    exact MapV.made w
  have HX1 := Lib.hid hb1
  have hibw : w.heap.size ≤ ib := by omega
  obtain ⟨cl, hcq⟩ : ∃ cl, cl = ch.length := ⟨_, rfl⟩
  rw [← hcq] at hcl hcl' ⊢
  have HCQ := Lib.hid hcq
  clear hA hF hM hKF hS hch hown hD hb1 hcq
  go_enter Tryz.func10, Tryz.ntmps10
  go_wp2_with fail
  rw [← hw1, ← hib]
  clear hw1 hib hmm
  go_loopg [20] cl (fun k vi wr => ∃ i c : Nat, i ≤ cl ∧ k = cl - i ∧ vi = .int .i64 (i : Int) ∧ c ≤ i ∧ Hid (MapV wr ib c (boolF (ch.take i))) ∧ Hid (Below w.heap.size w wr))
  case atStart => exact ⟨0, 0, by omega, by omega, rfl, by omega, HI1, HX1⟩
  case round =>
    obtain ⟨i, c, hid, hk, rfl, hci, HIr, HBr⟩ := hrel
    obtain ⟨wo, hz_⟩ : ∃ z, z = wr := ⟨_, rfl⟩
    subst hz_
    clear HI1 HX1
    by_cases hlt : i < cl
    · have hlt' : (i : Int) < (cl : Int) := by omega
      have hi0 : ¬ (i : Int) < 0 := by omega
      have hic : i < ch.length := by have := HCQ.out; omega
      obtain ⟨g, o, hga, hgl, hcell⟩ := (HS.out.on HBr.out).c i hic
      subst hga
      have HXL := Lib.hid (HCH.out _ (List.getElem_mem hic))
      have HTK : Hid (boolF (ch.take (i + 1)) = updV (boolF (ch.take i)) ch[i] (.bool true)) := by
        show _ = _
        rw [boolF_snoc, List.take_succ_eq_append_getElem hic]
      generalize ch[i] = x at *
      have hc6 : c < 1000000 := by omega
      go_wp2_with (at_mapUpdate; refine wpList_mapUpdate_vL _ rfl _ _ _ 66 rfl _ Tryz.underlying66 ib c _ HIr.out hc6 x HXL.out _ rfl rfl rfl ?_; intro w2 u1 u2 u3)
      have HI2 : Hid (MapV w2 ib (c + 1) (boolF (ch.take (i + 1)))) := by show MapV _ _ _ _; rw [HTK.out]; exact u1
      have HB2 : Hid (Below w.heap.size w w2) := HBr.out.trans (ext_below u2 hibw HBr.out.size)
      clear u1 u2 u3 hcell hgl
      go_wp2_with fail
      go_roundg (cl - (i + 1))
      case measure => omega
      case rel => exact ⟨i + 1, c + 1, by omega, rfl, by go_num, by omega, HI2, HB2⟩
    · have hlt' : ¬ (i : Int) < (cl : Int) := by omega
      have HIS : Hid (MapV wo ib c (boolF ch)) := by
        have := HIr.out
        rw [List.take_of_length_le (by have := HCQ.out; omega)] at this
        exact this
      have hsz := HBr.out.size
      have HOWN : Hid (wo.ownsMap Tryz.prog 9 heldV mb n D) := by
        obtain ⟨es, clock, q1, q2⟩ := HOWN0.out
        exact ⟨es, clock, (HBr.out.block mb hml).trans q1, q2⟩
      have HAr := Lib.hid (HA.out.on HBr.out)
      have HFr := Lib.hid (HF.out.on HBr.out)
      have HMr := Lib.hid (HM.out.on HBr.out)
      clear HIr HOWN0 HA HF
      go_upto_region 8 with fail
      go_wp2_with (at_range; refine wpList_range_own _ rfl _ 23 rfl 9 28 skey Tryz.underlying23 heldV mb n D rfl HOWN.out ?_; intro w3 hrg3 hg3 hs3)
      have HB3 : Hid (Below wo.heap.size wo w3) := (Below.refl _ _).grown hg3 (Nat.le_refl _) (fun k hk => by cases hk)
      have HRG3 := Lib.hid hrg3
      have HR3 : Hid (w3.ownsRow wo.heap.size 9 1 (.slice none 0 0) (([] : List Bs).filter (stP F G ch)).length (strs (([] : List Bs).filter (stP F G ch)))) := World.ownsRow_nil _ _ _ _
      obtain ⟨r, hr⟩ : ∃ r, r = wo.heap.size := ⟨_, rfl⟩
      rw [← hr] at HRG3 ⊢
      have hr3 : wo.heap.size ≤ r := by omega
      have hmlr : mb < wo.heap.size := by omega
      clear hrg3 hg3 hs3 HOWN hr
      go_loopg [10] (Maps.size D) (fun k v10 ws => ∃ left d1 ta tc, Hid (ws.ranges Tryz.prog 9 heldV mb r n D left k) ∧ Hid (LeftK K d1 left) ∧ v10 = .slice ta (d1.filter (stP F G ch)).length tc ∧ Hid (ws.ownsRow wo.heap.size 9 1 (.slice ta (d1.filter (stP F G ch)).length tc) (d1.filter (stP F G ch)).length (strs (d1.filter (stP F G ch)))) ∧ Hid (Below wo.heap.size wo ws))
      case atStart => exact ⟨_, [], none, 0, HRG3, HL0, rfl, HR3, HB3⟩
      case round =>
        obtain ⟨left, d1, ta, tc, HRG, HLK, rfl, HRw, HBs⟩ := hrel
        obtain ⟨ws, hz_⟩ : ∃ z, z = wr := ⟨_, rfl⟩
        subst hz_
        clear HRG3 HL0 HR3 HB3
        have hsr := HBs.out.size
        have hdl : d1.length ≤ K.length := nodup_leT HLK.out.1 HLK.out.2.1
        have hfl := List.length_filter_le (stP F G ch) d1
        go_wp2_with (first | (at_next; refine wpList_next_ranges _ rfl _ rfl 9 skey heldV (fun x : Bs => .string (bs x)) (fun v : Value => v) (fun key kl h => (skey_inv' h).imp fun _ q => q.1) (fun v _ _ => ⟨v, rfl⟩) mb r n D left _ rfl HRG.out ?_ ?_))
        · intro _ hdone
          have hdK := HLK.out.done hdone
          have hpm : d1.Perm K := perm_of HLK.out.1 HM.out.nd hdK
          have hpf : (d1.filter (stP F G ch)).Perm (K.filter (stP F G ch)) := hpm.filter _
          have HSR := Lib.hid (sortStr_post HRw.out (by omega))
          have HSK : Hid (sK (d1.filter (stP F G ch)) = sK (K.filter (stP F G ch))) := sK_perm hpf
          have HLEN : Hid ((d1.filter (stP F G ch)).length = (sK (K.filter (stP F G ch))).length) := by show _ = _; rw [sK_len]; exact hpf.length_eq
          clear hdone hdK hpm hpf hdl hfl HRG HLK
          generalize hdn : (d1.filter (stP F G ch)).length = dl at *
          clear hdn
          go_wp2_with fail
          refine HSR.out.mono ?_
          rintro e w6 ⟨rfl, how, hgr⟩
          have HB6 : Hid (Below w.heap.size w w6) := HBr.out.trans ((HBs.out.trans ((Below.refl _ _).grown hgr hsr (fun k hk => (HRw.out.lt k hk).1))).mono hsz)
          have HS6 : Hid (StrsAt w6 (sK (K.filter (stP F G ch))) ta) := by
            show StrsAt _ _ _
            refine own_strsAt (m := dl) (B := wo.heap.size) (c := tc) ?_
            rw [← HLEN.out, ← HSK.out]
            exact how
          clear how hgr HSR HRw
          go_wp2_with fail
          go_ret
          exact ⟨ta, tc, by rw [HLEN.out]; rfl, HS6.out, HB6.out⟩
        · intro x cv kl yy1 yy2 w9 cnt' hkey hlk hR hat hrg9 hlt9 hg9 hs9 hen
          obtain ⟨x', hx1, hx2⟩ := skey_inv' hkey
          have hxx : x = x' := by injection hx1 with hx1; rw [← bs_toList x, ← bs_toList x', hx1]
          subst hxx
          rw [hx2] at hat hlk hrg9
          cases hR
          have hfx := range_entry' HD.out hat
          obtain ⟨hxK, hxn, hLK2⟩ := HLK.out.next hlk
          obtain ⟨m, hm⟩ := Option.isSome_iff_exists.1 ((HKF.out x).1 hxK)
          have hb9 : Below wo.heap.size wo w9 := HBs.out.trans ((Below.refl _ _).grown hg9 hsr (fun k hk => by cases hk; exact hr3))
          obtain ⟨v, ia, ga, pa, ba, ic, gc, pc, bc, e1, e2⟩ := (HFr.out.on hb9).is x m hm
          rw [e1] at hfx
          cases hfx
          have hv2 := e2.v
          subst hv2
          have hit := ranges_iter HRG.out
          have hR9 : w9.ownsRow wo.heap.size 9 1 (.slice ta (d1.filter (stP F G ch)).length tc) (d1.filter (stP F G ch)).length (strs (d1.filter (stP F G ch))) := owns_keep HRw.out (fun b _ hl q => hg9.block b hl (fun e => own_ne_iter HRw.out hit (by rw [q]; exact e)))
          obtain ⟨w10, hw10⟩ : ∃ w10, w10 = w9.alloc (.cells (mcells (bs m.name) (.slice ia m.imports.length ic) (.slice ga m.vars.length gc) (.slice pa m.procs.length pc) (.slice ba m.body.length bc)) 28) := ⟨_, rfl⟩
          obtain ⟨pm, hpm⟩ : ∃ pm, pm = w9.heap.size := ⟨_, rfl⟩
          have hb10 : Below w9.heap.size w9 w10 := by rw [hw10]; exact (Below.refl _ _).alloc (Nat.le_refl _) _
          have hMB10 : MBk w10 pm m ia ga pa ba ic gc pc bc := ⟨by rw [hw10, hpm]; exact new_blk _ _, e2.md.mono (fun b _ hl => ⟨hb10.block b hl, by have := hb10.size; omega⟩)⟩
          have hbs : Below wo.heap.size wo w10 := hb9.trans (hb10.mono hb9.size)
          have hxl := HMr.out.kl x hxK
          have hI10 : MapV w10 ib c (boolF ch) := HIS.out.on (hbs.block ib HIS.out.lt)
          have hlk1 := hI10.look (t := 66) Tryz.underlying66 (zeroBool' w10) x hxl false
          simp only [Bool.false_eq_true, if_false] at hlk1
          rw [boolF_get] at hlk1
          obtain ⟨dx, hdx⟩ : ∃ dx, dx = decide (x ∈ ch) := ⟨_, rfl⟩
          rw [← hdx] at hlk1
          have HT0 : Hid (stI F G ch x m (m.imports.take 0) = dx) := by show _ = _; rw [hdx]; simp [stI]
          have HMB := Lib.hid hMB10
          have HWM := Lib.hid e2.wm
          have HNM := Lib.hid e2.nm
          have him := e2.wm.ic
          have HIML : Hid (∀ y ∈ m.imports, y.length ≤ 1000000) := fun y hy => by have := Tp.okn_len (e2.wm.i y hy); omega
          have HSTP : Hid (stP F G ch x = stI F G ch x m m.imports) := stP_some hm
          have HBS := Lib.hid hbs
          have HSI : Hid (StrsAt w10 m.imports ia) := (hMB10.d.im).strsAt
          have hrl9 := hrg9.lt
          have hml9 : mb < w9.heap.size := by have := hb9.size; omega
          have HRG10 := Lib.hid (ranges_keep hrg9 (hb10.block mb hml9) (hb10.block r hrl9))
          have HR10 : Hid (w10.ownsRow wo.heap.size 9 1 (.slice ta (d1.filter (stP F G ch)).length tc) (d1.filter (stP F G ch)).length (strs (d1.filter (stP F G ch)))) := owns_keep hR9 (fun b _ hl _ => hb10.block b hl)
          have HLK2 := Lib.hid hLK2
          obtain ⟨_, k1, _, _, _, k5⟩ := hMB10.cells
          have him' : (m.imports.length : Int) ≤ 6 := by omega
          have hfl100 : (d1.filter (stP F G ch)).length ≤ 100 := by omega
          unfold mcells at hw10 hen
          clear hkey hlk hat hrg9 hg9 hs9 hx1 hx2 hxn hLK2 hxK hm hb9 e1 e2 hit hR9 hb10 hMB10 hbs hI10 hdx hrl9 hml9 HRG HLK HBs HRw hfl
          generalize hfd : d1.filter (stP F G ch) = fd at *
          have HFD := Lib.hid hfd
          clear hfd
          obtain ⟨fn, hfn⟩ : ∃ fn, fn = fd.length := ⟨_, rfl⟩
          rw [← hfn] at HR10 hfl100 ⊢
          have HFN := Lib.hid hfn
          clear hfn
          go_upto_region 11 with fail
          rw [← hw10, ← hpm]
          clear hw10 hpm hen
          go_wp2_with fail
          clear hlk1 k1
          go_loopg [13, 40] m.imports.length (fun k v13 v40 w11 => ∃ q : Nat, q ≤ m.imports.length ∧ k = m.imports.length - q ∧ v40 = .int .i64 (q : Int) ∧ v13 = .bool (stI F G ch x m (m.imports.take q)) ∧ Hid (Below w10.heap.size w10 w11))
          case atStart => exact ⟨0, Nat.zero_le _, rfl, rfl, by rw [HT0.out], Below.refl _ _⟩
          case round =>
            obtain ⟨q, hqd, hqk, rfl, rfl, HB11⟩ := hrel
            obtain ⟨w11, hz_⟩ : ∃ z, z = wr := ⟨_, rfl⟩
            subst hz_
            clear HT0
            have hsz11 := HB11.out.size
            by_cases hq : q < m.imports.length
            · have hq' : (q : Int) < (m.imports.length : Int) := by omega
              have hq0 : ¬ (q : Int) < 0 := by omega
              obtain ⟨g2, o2, hga2, hgl2, hcell2⟩ := (HSI.out.on HB11.out).c q hq
              subst hga2
              have hyl := HIML.out _ (List.getElem_mem hq)
              have HMS : Hid (stI F G ch x m (m.imports.take (q + 1)) = (stI F G ch x m (m.imports.take q) || (decide (m.imports[q] ∈ ch) && difP F G m m.imports[q]))) := stI_step hq
              have hM11 := HMB.out.on HB11.out
              obtain ⟨c0, c1, c2, c3, c4, cl5⟩ := hM11.cells
              generalize m.imports[q] = y at *
              have HUS := Lib.hid (rused_exact HWM.out HNM.out hM11.mb y)
              generalize hsb : stI F G ch x m (m.imports.take q) = sb at *
              clear hsb hM11
              have HBW : Hid (Below wo.heap.size wo w11) := HBS.out.trans (HB11.out.mono HBS.out.size)
              go_wp2_with fail
              clear c0 c1 c2 c3 c4 cl5 hcell2 hgl2
              refine HUS.out.mono ?_
              rintro e w12 ⟨ua, uc, rfl, hst, hb12⟩
              have HB12 : Hid (Below w10.heap.size w10 w12) := HB11.out.trans (hb12.mono hsz11)
              have hbw12 : Below wo.heap.size wo w12 := HBW.out.trans (hb12.mono HBW.out.size)
              clear hb12 HUS
              cases sb with
              | true =>
                have HE : Hid (stI F G ch x m (m.imports.take (q + 1)) = true) := by show _ = _; rw [HMS.out]; rfl
                clear hst hbw12
                go_upto_region 16 with fail
                go_quiet (fail)
                have HB13 : Hid (Below w10.heap.size w10 (w12.drewN nq)) := below_drewN HB12.out _
                go_wp2_with fail
                go_roundg (m.imports.length - (q + 1))
                case measure => omega
                case rel => exact ⟨q + 1, by omega, rfl, by go_num, by rw [HE.out], HB13⟩
              | false =>
                have hA12 := HAr.out.on hbw12
                have hF12 := HFr.out.on hbw12
                have hI12 : MapV w12 ib c (boolF ch) := HIS.out.on (hbw12.block ib HIS.out.lt)
                obtain ⟨A, mA, iA, gA, pA, bA, jA, hA', qA, rA, eA, hlA, hmA, hsA, gcA, pcA, smA, lnA⟩ := map_mod hA12 (x := y) (by omega)
                obtain ⟨N, mN, iN, gN, pN, bN, jN, hN', qN, rN, eN, hlN, hmN, hsN, gcN, pcN, smN, lnN⟩ := map_mod hF12 (x := y) (by omega)
                have hlI : ∀ V, V.heap[ib]? = w12.heap[ib]? → (Instr.lookup 66 (.map (some ib)) (.string (bs y)) false).run Tryz.prog V = .ok (.bool (decide (y ∈ ch))) V := fun V hV => by
                  have := (hI12.on hV).look (t := 66) Tryz.underlying66 (zeroBool' V) y hyl false
                  simp only [Bool.false_eq_true, if_false] at this
                  rw [boolF_get] at this
                  exact this
                have hla := hA12.m.lt
                have hlb := hF12.m.lt
                have hlc := hI12.lt
                obtain ⟨dy, hdy⟩ : ∃ dy, dy = decide (y ∈ ch) := ⟨_, rfl⟩
                rw [← hdy] at hlI HMS
                have HSx : Hid (∀ V, Below w12.heap.size w12 V → (Instr.lookup 66 (.map (some ib)) (.string (bs y)) false).run Tryz.prog V = .ok (.bool dy) V ∧ (Instr.lookup 23 (.map (some ma)) (.string (bs y)) false).run Tryz.prog V = .ok A V ∧ (Instr.lookup 23 (.map (some mb)) (.string (bs y)) false).run Tryz.prog V = .ok N V) := fun V hV => ⟨hlI V (hV.block ib hlc), hlA V (hV.block ma hla), hlN V (hV.block mb hlb)⟩
                have HBC : Hid (Below w12.heap.size w12 w12.drew) := (Below.refl _ _).drew
                have HOA : Hid (∀ V, Below w12.heap.size w12 V → Calls Tryz.prog 37 #[A] V fun e w' => ∃ a k c, e = .returned (.slice a k c) ∧ Below V.heap.size V w' ∧ SL w' 0 (.slice a k c) (syP F y)) := fun V hV => by
                  rw [eA]
                  refine (rof_post gcA pcA (hmA V hV)).mono ?_
                  rintro e w' ⟨u, rfl, hb, hs⟩
                  obtain ⟨a, c, rfl⟩ := hs.len
                  exact ⟨a, _, c, rfl, hb, hsA ▸ hs.zero⟩
                have HON : Hid (∀ V, Below w12.heap.size w12 V → Calls Tryz.prog 37 #[N] V fun e w' => ∃ a k c, e = .returned (.slice a k c) ∧ Below V.heap.size V w' ∧ SL w' 0 (.slice a k c) (syP G y)) := fun V hV => by
                  rw [eN]
                  refine (rof_post gcN pcN (hmN V hV)).mono ?_
                  rintro e w' ⟨u, rfl, hb, hs⟩
                  obtain ⟨a, c, rfl⟩ := hs.len
                  exact ⟨a, _, c, rfl, hb, hsN ▸ hs.zero⟩
                have HNA : Hid (∀ V W a k c, SL V 0 (.slice a k c) (syP F y) → Below V.heap.size V W → Below w12.heap.size w12 W → Calls Tryz.prog 36 #[.slice a k c, .slice ua (usP m y).length uc] W fun e w' => e = .returned (.string (bs (Tp.needsS (syP F y) (usP m y)))) ∧ Below W.heap.size W w') := fun V W a k c hs h1 h2 => rNeeds_post (hs.on h1) smA lnA (hst.on h2) (fun z hz => usP_len HWM.out hz) (usP_many HWM.out HNM.out y)
                have HNN : Hid (∀ V W a k c, SL V 0 (.slice a k c) (syP G y) → Below V.heap.size V W → Below w12.heap.size w12 W → Calls Tryz.prog 36 #[.slice a k c, .slice ua (usP m y).length uc] W fun e w' => e = .returned (.string (bs (Tp.needsS (syP G y) (usP m y)))) ∧ Below W.heap.size W w') := fun V W a k c hs h1 h2 => rNeeds_post (hs.on h1) smN lnN (hst.on h2) (fun z hz => usP_len HWM.out hz) (usP_many HWM.out HNM.out y)
                have HDP : Hid (difP F G m y = !decide (Tp.needsS (syP F y) (usP m y) = Tp.needsS (syP G y) (usP m y))) := rfl
                have HS0 := Lib.hid (HSx.out _ HBC.out)
                clear hA12 hF12 hI12 eA eN hlA hlN hmA hmN hsA hsN gcA gcN pcA pcN smA smN lnA lnN hlI hdy hst hbw12 hla hlb hlc
                cases dy with
                | false =>
                  have HE : Hid (stI F G ch x m (m.imports.take (q + 1)) = false) := by show _ = _; rw [HMS.out]; rfl
                  clear HOA HON HNA HNN
                  have hlq : ∀ n, (Instr.lookup 66 (.map (some ib)) (.string (bs y)) false).run Tryz.prog (w12.drewN n) = .ok (.bool false) (w12.drewN n) := fun n => (HSx.out _ (below_drewN (Below.refl _ _) n)).1
                  go_upto_region 16 with fail
                  go_quiet (fail)
                  have HB13 : Hid (Below w10.heap.size w10 (w12.drewN nq)) := below_drewN HB12.out _
                  clear hlq
                  go_wp2_with fail
                  go_roundg (m.imports.length - (q + 1))
                  case measure => omega
                  case rel => exact ⟨q + 1, by omega, rfl, by go_num, by rw [HE.out], HB13⟩
                | true =>
                  have HE : Hid (stI F G ch x m (m.imports.take (q + 1)) = !decide (Tp.needsS (syP F y) (usP m y) = Tp.needsS (syP G y) (usP m y))) := by show _ = _; rw [HMS.out, HDP.out]; rfl
                  have hqe := bs_eq (Tp.needsS (syP F y) (usP m y)) (Tp.needsS (syP G y) (usP m y))
                  generalize decide (Tp.needsS (syP F y) (usP m y) = Tp.needsS (syP G y) (usP m y)) = de at *
                  generalize bs (Tp.needsS (syP F y) (usP m y)) = tx at *
                  generalize bs (Tp.needsS (syP G y) (usP m y)) = ty at *
                  generalize (usP m y).length = ul at *
                  clear HDP HMS
                  go_upto_region 16 with fail
                  go_region_held3 (fun V => (Instr.lookup 66 (.map (some ib)) (.string (bs y)) false).run Tryz.prog V = .ok (.bool true) V ∧ (Instr.lookup 23 (.map (some ma)) (.string (bs y)) false).run Tryz.prog V = .ok A V ∧ (Instr.lookup 23 (.map (some mb)) (.string (bs y)) false).run Tryz.prog V = .ok N V) (with_reducible (first | exact HSx.out _ HBC.out)) (first
                    | (have _g := HSN; go_at_call 37; with_reducible refine (HOA.out _ HBC.out).mono ?_; rintro e wn ⟨a1, k1, c1, rfl, hb, hs⟩; have HBC := Lib.hid (HBC.out.trans (hb.mono HBC.out.size)); have HSA := Lib.hid hs; have HSN := Lib.hid (HSN.out.on hb); clear hb hs)
                    | (go_at_call 37; with_reducible refine (HOA.out _ HBC.out).mono ?_; rintro e wn ⟨a1, k1, c1, rfl, hb, hs⟩; have HBC := Lib.hid (HBC.out.trans (hb.mono HBC.out.size)); have HSA := Lib.hid hs; clear hb hs)
                    | (have _g := HSA; go_at_call 37; with_reducible refine (HON.out _ HBC.out).mono ?_; rintro e wn ⟨a2, k2, c2, rfl, hb, hs⟩; have HBC := Lib.hid (HBC.out.trans (hb.mono HBC.out.size)); have HSN := Lib.hid hs; have HSA := Lib.hid (HSA.out.on hb); clear hb hs)
                    | (go_at_call 37; with_reducible refine (HON.out _ HBC.out).mono ?_; rintro e wn ⟨a2, k2, c2, rfl, hb, hs⟩; have HBC := Lib.hid (HBC.out.trans (hb.mono HBC.out.size)); have HSN := Lib.hid hs; clear hb hs)
                    | (have _g := HSN; go_at_call 36; with_reducible refine (HNA.out _ _ _ _ _ HSA.out (Below.refl _ _) HBC.out).mono ?_; rintro e wn ⟨rfl, hb⟩; have HBC := Lib.hid (HBC.out.trans (hb.mono HBC.out.size)); have HSN := Lib.hid (HSN.out.on hb); have HSA := Lib.hid (HSA.out.on hb); clear hb)
                    | (go_at_call 36; with_reducible refine (HNA.out _ _ _ _ _ HSA.out (Below.refl _ _) HBC.out).mono ?_; rintro e wn ⟨rfl, hb⟩; have HBC := Lib.hid (HBC.out.trans (hb.mono HBC.out.size)); have HSA := Lib.hid (HSA.out.on hb); clear hb)
                    | (have _g := HSA; go_at_call 36; with_reducible refine (HNN.out _ _ _ _ _ HSN.out (Below.refl _ _) HBC.out).mono ?_; rintro e wn ⟨rfl, hb⟩; have HBC := Lib.hid (HBC.out.trans (hb.mono HBC.out.size)); have HSN := Lib.hid (HSN.out.on hb); have HSA := Lib.hid (HSA.out.on hb); clear hb)
                    | (go_at_call 36; with_reducible refine (HNN.out _ _ _ _ _ HSN.out (Below.refl _ _) HBC.out).mono ?_; rintro e wn ⟨rfl, hb⟩; have HBC := Lib.hid (HBC.out.trans (hb.mono HBC.out.size)); have HSN := Lib.hid (HSN.out.on hb); clear hb))
                  all_goals
                    have HB13 := Lib.hid (HB12.out.trans (HBC.out.mono HB12.out.size))
                    go_wp2_with fail
                    go_roundg (m.imports.length - (q + 1))
                    case measure => omega
                    case rel => exact ⟨q + 1, by omega, rfl, by go_num, by first | (rw [HE.out, ← hqe]; done) | (rw [HE.out, ← hqe]; rfl), HB13⟩
            · have hq' : ¬ (q : Int) < (m.imports.length : Int) := by omega
              have HSE : Hid (stP F G ch x = stI F G ch x m (m.imports.take q)) := by
                show _ = _
                rw [List.take_of_length_le (by omega)]
                exact HSTP.out
              generalize hsb : stI F G ch x m (m.imports.take q) = sb at *
              clear hsb
              have hbo : Below wo.heap.size wo w11 := HBS.out.trans (HB11.out.mono HBS.out.size)
              have HRG11 := Lib.hid (ranges_keep HRG10.out (HB11.out.block mb (by have := HBS.out.size; omega)) (HB11.out.block r HRG10.out.lt))
              have HR11 : Hid (w11.ownsRow wo.heap.size 9 1 (.slice ta fn tc) fn (strs fd)) := owns_keep HR10.out (fun b _ hl _ => HB11.out.block b hl)
              have HBO := Lib.hid hbo
              clear hbo
              cases sb with
              | false =>
                have HFX : Hid ((d1 ++ [x]).filter (stP F G ch) = fd) := by show _ = _; rw [List.filter_append, HFD.out]; simp [HSE.out]
                have HR12 : Hid (w11.ownsRow wo.heap.size 9 1 (.slice ta ((d1 ++ [x]).filter (stP F G ch)).length tc) ((d1 ++ [x]).filter (stP F G ch)).length (strs ((d1 ++ [x]).filter (stP F G ch)))) := by
                  show World.ownsRow _ _ _ _ _ _ _
                  rw [HFX.out, ← HFN.out]
                  exact HR11.out
                clear HR11
                go_wp2_with fail
                go_roundg cnt'
                case measure => exact hlt9
                case rel => exact ⟨_, d1 ++ [x], ta, tc, HRG11, HLK2, by rw [HFX.out, HFN.out], HR12, HBO⟩
              | true =>
                have HFX : Hid ((d1 ++ [x]).filter (stP F G ch) = fd ++ [x]) := by show _ = _; rw [List.filter_append, HFD.out]; simp [HSE.out]
                obtain ⟨w12, hw12⟩ : ∃ w12, w12 = w11.alloc (.cells #[.string (bs x)] 9) := ⟨_, rfl⟩
                have hb12 : Below w11.heap.size w11 w12 := by rw [hw12]; exact (Below.refl _ _).alloc (Nat.le_refl _) _
                have hk12 : w12.heap[w11.heap.size]? = some (.cells #[.string (bs x)] 9 (0, 0)) := by rw [hw12]; exact new_blk _ _
                have HROW : Hid (w12.ownsRow wo.heap.size 9 1 (.slice ta fn tc) fn (strs fd)) := owns_keep HR11.out (fun b _ hl _ => hb12.block b hl)
                have HRW12 := HROW
                have HNEWS : Hid (∀ j u, [Value.string (bs x)][j]? = some u → w12.cell? ((⟨w11.heap.size, 0, none⟩ : Addr).add j) = some u) := fun j u hj => by
                  rw [Addr.add_lit]
                  cases j with
                  | zero => simp at hj; subst hj; exact (cell_blk hk12).trans rfl
                  | succ j => simp at hj
                have HBP : Hid (Below wo.heap.size wo w12) := HBO.out.trans (hb12.mono HBO.out.size)
                have hs12 := HBP.out.size
                have HRG12 := Lib.hid (ranges_keep HRG11.out (hb12.block mb (by have := HBO.out.size; omega)) (hb12.block r HRG11.out.lt))
                rw [hw12] at HROW HNEWS
                clear hb12 hk12 HR11 HRG11
                go_wp2_with (at_builtin; refine wpList_append_where _ rfl _ _ 22 rfl wo.heap.size 9 i1 (.string ⟨#[]⟩) 1 16 Tryz.underlying22 hi hz0 hz1 hz2 rfl (by decide) _ fn _ rfl HROW.out ⟨w11.heap.size, 0, none⟩ 1 1 [.string (bs x)] rfl rfl HNEWS.out (by intro u hu; simp at hu; subst hu; rfl) (by unfold maxLen; omega) (by omega) (by rw [← hw12]; omega) ?_)
                rw [← hw12]
                intro v13 w13 h13 g13 _
                have HB13 : Hid (Below wo.heap.size wo w13) := HBP.out.trans ((Below.refl _ _).grown g13 hs12 (fun k hk => (HRW12.out.lt k hk).1))
                obtain ⟨tb', td', hv13⟩ := owns_shape h13
                subst hv13
                have HDX : Hid (((d1 ++ [x]).filter (stP F G ch)).length = fn + 1) := by show _ = _; rw [HFX.out, HFN.out]; simp
                have HR13 : Hid (w13.ownsRow wo.heap.size 9 1 (.slice tb' ((d1 ++ [x]).filter (stP F G ch)).length td') ((d1 ++ [x]).filter (stP F G ch)).length (strs ((d1 ++ [x]).filter (stP F G ch)))) := by
                  show World.ownsRow _ _ _ _ _ _ _
                  rw [HDX.out, HFX.out, ← strs_snocT]
                  exact h13
                have HRG13 := Lib.hid (ranges_keep HRG12.out ((HB13.out.block mb hmlr).trans (HBP.out.block mb hmlr).symm) (g13.block r HRG12.out.lt (fun e => own_ne_iter HRW12.out (ranges_iter HRG12.out) e.symm)))
                clear h13 g13 HROW HNEWS hw12
                go_wp2_with fail
                go_roundg cnt'
                case measure => exact hlt9
                case rel => exact ⟨_, d1 ++ [x], tb', td', HRG13, HLK2, by rw [HDX.out], HR13, HB13⟩
end Go.Proofs.YtfcdphgggdioeaaGreatDoor
