import Derived.Test.YtiolfelekiopdaaGreatDoorKUG
import Derived.Maps.RangeWalk
/- CheckImports, walked. -/
namespace Go.Proofs.YtiolfelekiopdaaGreatDoor
open Go.RowKit
open Tp (Bs Sy Seen G Pr)

set_option maxRecDepth 100000 in
set_option maxHeartbeats 4000000 in
theorem imports_post {w : World} {B : Nat} (hv : VarsC B w) (hB : B ≤ w.heap.size) (s : Bs) {ns : List Bs} {na : Option Addr} {nc : Nat} (hns : StrsAt w ns na) :
    Calls Tryz.prog 4 #[.string (bs s), .slice na ns.length nc] w fun e w' => e = .returned (.bool true) ∧ Below w.heap.size w w' := by
  have hss : ((bs s).size : Int) = (s.length : Int) := by rw [bs_size]
  have HSH := Lib.hid (short_post (nc := nc) hns)
  have HNS := Lib.hid hns
  have HV := Lib.hid hv
  clear hns hv
  by_cases h1 : s.length ≤ 1000
  rotate_left
  · have h1' : (s.length : Int) > 1000 := by omega
    clear HSH HNS HV
    generalize ns.length = nn at *
    go_enter Tryz.func4, Tryz.ntmps4
    go_wp2_with fail
    go_ret
    exact ⟨rfl, Below.refl _ _⟩
  have h1' : ¬ (s.length : Int) > 1000 := by omega
  obtain ⟨nn, hnq⟩ : ∃ nn, nn = ns.length := ⟨_, rfl⟩
  rw [← hnq] at HSH ⊢
  have HNQ := Lib.hid hnq
  clear hnq
  go_enter Tryz.func4, Tryz.ntmps4
  go_wp2_with fail
  refine HSH.out.mono ?_
  rintro e w' ⟨hq, rfl⟩
  rcases hq with rfl | ⟨rfl, hn5, hn9⟩
  · clear HSH HNS HV
    go_wp2_with fail
    go_ret
    exact ⟨rfl, Below.refl _ _⟩
  have HN5 := Lib.hid hn5
  have HN9 := Lib.hid hn9
  clear HSH hn5 hn9
  have HCK := Lib.hid (checked_post HV.out hB)
  go_wp2_with fail
  refine HCK.out.mono ?_
  rintro e w1 ⟨rfl, hb1⟩
  have hv1 := HV.out.on' hB hb1
  have HPP := Lib.hid (parse_post w1 s (by omega) hv1.mks hv1.lv)
  have HB1 := Lib.hid hb1
  have hsz1 := hb1.size
  clear hb1 hv1 HCK
  go_wp2_with fail
  refine HPP.out.mono ?_
  rintro e w2 ⟨hb2, hq⟩
  unfold ParseP at hq
  have HB2 : Hid (Below w'.heap.size w' w2) := HB1.out.trans (hb2.mono hsz1)
  have hsz2 := HB2.out.size
  cases hps : Tp.parse s with
  | error er =>
    rw [hps] at hq
    obtain ⟨ab, rfl, _, _, _⟩ := hq
    unfold m0
    have HBA : Hid (∀ ob, Below w'.heap.size w' (w2.alloc ob)) := fun ob => HB2.out.alloc hsz2 _
    clear hb2 hps HPP
    go_wp2_with fail
    go_ret
    exact ⟨rfl, HBA.out _⟩
  | ok m =>
  rw [hps] at hq
  obtain ⟨v, rfl, hvm⟩ := hq
  obtain ⟨ia, ga, pa, ba, ic, gc, pc, bc, rfl, hmb⟩ := hvm.mb
  have hwm := (Tp.parse_wm hps).1
  have HSML := Lib.hid hwm.sml
  have hgc := hwm.gc
  have hpc := hwm.pc
  have hic := hwm.ic
  have hct : (Tp.allR m).length ≤ 100000 := by have := Tp.allR_count hwm; have := (Tp.parse_wm hps).2; omega
  obtain ⟨w3, hw3⟩ : ∃ w3, w3 = w2.alloc (.cells (mcells (bs m.name) (.slice ia m.imports.length ic) (.slice ga m.vars.length gc) (.slice pa m.procs.length pc) (.slice ba m.body.length bc)) 29) := ⟨_, rfl⟩
  have hb3 : Below w2.heap.size w2 w3 := by rw [hw3]; exact (Below.refl _ _).alloc (Nat.le_refl _) _
  have hk3 : w3.heap[w2.heap.size]? = some (.cells (mcells (bs m.name) (.slice ia m.imports.length ic) (.slice ga m.vars.length gc) (.slice pa m.procs.length pc) (.slice ba m.body.length bc)) 29 (0, 0)) := by rw [hw3]; exact new_blk _ _
  have hs3 : w2.heap.size < w3.heap.size := lt_blk hk3
  have HMB3 := Lib.hid (hmb.up hb3)
  have HB3 : Hid (Below w'.heap.size w' w3) := HB2.out.trans (hb3.mono hsz2)
  have hsz3 := HB3.out.size
  have hns3 : StrsAt w3 ns na := HNS.out.on HB3.out
  have HSY := Lib.hid (syms_post (nc := nc) (HV.out.on' hB HB3.out) (by omega) hns3 (by rw [← HNQ.out]; exact HN5.out) HN9.out)
  have HK3 : Hid (∀ W, Below w3.heap.size w3 W → W.heap[w2.heap.size]? = some (.cells #[.string (bs m.name), .slice ia m.imports.length ic, .slice ga m.vars.length gc, .slice pa m.procs.length pc, .slice ba m.body.length bc] 29 (0, 0))) := fun W hW => (hW.block _ hs3).trans hk3
  rw [← HNQ.out] at HSY
  -- Check, of m, in a later world
  have HCM : Hid (∀ W sv Sn, Below w3.heap.size w3 W → SeenV W sv Sn → Calls Tryz.prog 9 #[.agg #[.string (bs m.name), .slice ia m.imports.length ic, .slice ga m.vars.length gc, .slice pa m.procs.length pc, .slice ba m.body.length bc], sv] W (CheckP W (Tp.check m Sn))) := by
    intro W sv Sn hW hS
    exact check_post HSML.out (HMB3.out.up hW) hS
  -- what is used, in a later world
  have HUM : Hid (∀ W of, Below w3.heap.size w3 W → Calls Tryz.prog 14 #[.agg #[.string (bs m.name), .slice ia m.imports.length ic, .slice ga m.vars.length gc, .slice pa m.procs.length pc, .slice ba m.body.length bc], .string (bs of)] W fun e w' => ∃ (a : Option Addr) (c : Nat) (l : List Bs), e = .returned (.slice a l.length c) ∧ l.length ≤ 100000 ∧ (∀ x, x ∈ l ↔ x ∈ Tp.usedR m of) ∧ StrsAt w' l a ∧ Below W.heap.size W w') := fun W of hW => used_post (by omega) hct (HMB3.out.up hW) of
  have HIM : Hid (∀ W i (hi : i < m.imports.length), Below w3.heap.size w3 W → ∃ g, ia = some ⟨g, 0, none⟩ ∧ g < W.heap.size ∧ W.cell? ⟨g, i, none⟩ = some (.string (bs m.imports[i]))) := fun W i hi hW => by
    obtain ⟨g, q1, q2, q3⟩ := row_strs (HMB3.out.on hW).im i hi
    exact ⟨g, q1, by have := hW.size; omega, q3⟩
  clear hvm hmb hb2 hb3 hk3 hps HPP hwm hns3 hct
  simp only [mcells] at hw3 ⊢
  go_upto_region 6 with fail
  rw [← hw3]
  clear hw3
  go_wp2_with fail
  refine HSY.out.mono ?_
  rintro e w4 ⟨sb, rfl, hsbl, ⟨sk, hsk, hsm⟩, hb4⟩
  have HB4 := Lib.hid hb4
  have hsz4 := hb4.size
  have HSM4 := Lib.hid hsm
  have HC1 := Lib.hid (HCM.out w4 (.map (some sb)) (seenOf ns) hb4 (Or.inr ⟨sb, sk, rfl, hsm⟩))
  obtain ⟨k0, k1, k2, k3, k4⟩ := cell_box5' (HK3.out w4 hb4)
  have hs4 : w2.heap.size < w4.heap.size := by omega
  clear hb4 hsm HSY HNS
  go_wp2_with fail
  refine HC1.out.mono ?_
  intro e w5 hq
  obtain ⟨hb5, hq⟩ := hq
  have HB5 : Hid (Below w3.heap.size w3 w5) := HB4.out.trans (hb5.mono hsz4)
  have hsz5 := HB5.out.size
  have HB5' : Hid (Below w'.heap.size w' w5) := HB3.out.trans (HB5.out.mono hsz3)
  have HSM5 := Lib.hid (HSM4.out.on hb5)
  have hsz45 := hb5.size
  cases hck : Tp.check m (seenOf ns) with
  | some er =>
    rw [hck] at hq
    obtain ⟨en, pl⟩ := er
    clear hck hb5 HC1 HSM4 k0 k1 k2 k3 k4
    cases pl with
    | none =>
      simp only at hq
      subst hq
      go_wp2_with fail
      go_ret
      exact ⟨rfl, HB5'.out⟩
    | some pl =>
      obtain ⟨ab, rfl, _, _, _⟩ := hq
      go_wp2_with fail
      go_ret
      exact ⟨rfl, HB5'.out⟩
  | none =>
    rw [hck] at hq
    simp only at hq
    subst hq
    have HCK := Lib.hid hck
    obtain ⟨j0, j1, j2, j3, j4⟩ := cell_box5' (HK3.out w5 HB5.out)
    have hs5 : w2.heap.size < w5.heap.size := by omega
    have hmm := @run_makeMap Tryz.prog
    have hsm0 : SeenM (w5.alloc (.map #[] 0)) w5.heap.size 0 (lessOf m (seenOf ns) 0) := ⟨_, MapV.made w5, fun k => by simp [lessOf]⟩
    have hbe0 : Below w5.heap.size w5 (w5.alloc (.map #[] 0)) := (Below.refl _ _).alloc (Nat.le_refl _) _
    have hsz0 : (w5.alloc (.map #[] 0)).heap.size = w5.heap.size + 1 := by simp
    have HSM0 := Lib.hid hsm0
    have HBE0 := Lib.hid hbe0
    clear hck hb5 HC1 HSM4 k0 k1 k2 k3 k4 hsm0 hbe0 j0 j1 j2 j3 j4
    go_wp2_with fail
    generalize w5.alloc (.map #[] 0) = w6 at *
    clear hmm
    have hic' : (m.imports.length : Int) ≤ 6 := by omega
    obtain ⟨ni, hni⟩ : ∃ ni, ni = m.imports.length := ⟨_, rfl⟩
    have HNI := Lib.hid hni
    rw [← hni] at hic' hic
    go_loopg [9] ni (fun k vi wr => ∃ i : Nat, i ≤ ni ∧ k = ni - i ∧ vi = .int .i64 (i : Int) ∧ Hid (∃ c, c ≤ i ∧ SeenM wr w5.heap.size c (lessOf m (seenOf ns) i)) ∧ Hid (Below w5.heap.size w5 wr))
    case atStart => exact ⟨0, by omega, by omega, rfl, ⟨0, Nat.le_refl _, HSM0.out⟩, HBE0.out⟩
    case round =>
      obtain ⟨i, hid, hk, rfl, HLS, HBR⟩ := hrel
      have hszr := HBR.out.size
      have HB3r : Hid (Below w3.heap.size w3 wr) := HB5.out.trans (HBR.out.mono hsz5)
      obtain ⟨p0, p1, p2, p3, p4⟩ := cell_box5' (HK3.out wr HB3r.out)
      have hmr : w2.heap.size < wr.heap.size := by omega
      rw [← hni] at p1
      by_cases hlt : i < ni
      · have hlt' : (i : Int) < (ni : Int) := by omega
        have hia : i < m.imports.length := by omega
        obtain ⟨g, hg1, hg2, hg3⟩ := HIM.out wr i hia HB3r.out
        subst hg1
        have HU := Lib.hid (HUM.out wr m.imports[i] HB3r.out)
        rw [← hni] at HU
        have HSU := Lib.hid (lessOf_succ (Sn := seenOf ns) hia)
        have hnl := HSML.out.im _ (List.getElem_mem hia)
        generalize m.imports[i] = x at *
        clear hni
        go_wp2_with fail
        refine HU.out.mono ?_
        rintro e w7 ⟨ua, uc, ul, rfl, hul, hum, hust, hb7⟩
        obtain ⟨w8, hw8⟩ : ∃ w8, w8 = w7.alloc (.cells #[.slice ua ul.length uc] 22) := ⟨_, rfl⟩
        have hb8 : Below w7.heap.size w7 w8 := by rw [hw8]; exact (Below.refl _ _).alloc (Nat.le_refl _) _
        have hk8 : w8.heap[w7.heap.size]? = some (.cells #[.slice ua ul.length uc] 22 (0, 0)) := by rw [hw8]; exact new_blk _ _
        have hs8 : w7.heap.size < w8.heap.size := lt_blk hk8
        have hb78 : Below wr.heap.size wr w8 := hb7.trans (hb8.mono hb7.size)
        have hsm8 := (HSM5.out.on HBR.out).on hb78
        obtain ⟨v8, hlook, ⟨a8, n8, c8, hv8⟩, hsl8, hln8⟩ := hsm8.look x hnl false
        subst hv8
        simp only [Bool.false_eq_true, if_false] at hlook
        have HCL := Lib.hid (cloneS hsl8 hln8)
        have HB78 := Lib.hid hb78
        have HDF : Hid (∀ w9 v9, Below w8.heap.size w8 w9 → SL w9 w8.heap.size v9 ((seenOf ns x).getD []) → Calls Tryz.prog 15 #[v9, .func (.func 17) #[] #[.pointer (some ⟨w7.heap.size, 0, none⟩)]] w9 fun e w' => ∃ v', e = .returned v' ∧ SL w' w8.heap.size v' (usedF m (seenOf ns) x) ∧ Below w8.heap.size w9 w') := by
          intro w9 v9 h9 hs9
          rw [← used_filter hum]
          refine deleteAall hs9 h9.size hln8 (fun W s _ hW => ?_)
          have h9W := h9.trans hW
          exact unused_post ((h9W.cell (p := ⟨w7.heap.size, 0, none⟩) hs8).trans ((cell_blk hk8).trans rfl)) ((hust.on hb8).on h9W) hul s
        have HSU2 : Hid ((usedF m (seenOf ns) x).length ≤ 1000) := usedF_len hln8
        clear hum hust hb7 hb8 hk8 hsm8 hsl8 hln8 hb78 HU
        go_upto_region 17 with fail
        rw [← hw8]
        clear hw8
        go_wp2_with fail
        refine HCL.out.mono ?_
        rintro e w9 ⟨v9, rfl, hb9, hsl9⟩
        have HD := Lib.hid (HDF.out w9 v9 hb9 hsl9)
        have HB9 := Lib.hid hb9
        clear hb9 hsl9 HCL HDF hlook
        go_wp2_with fail
        refine HD.out.mono ?_
        rintro e w10 ⟨v10, rfl, hsl10, hb10⟩
        have hb10' : Below wr.heap.size wr w10 := HB78.out.trans ((HB9.out.trans hb10).mono HB78.out.size)
        obtain ⟨c, c1, f, c2, c3⟩ := HLS.out
        obtain ⟨w11, hup, q1, q2, q3⟩ := (c2.on (hb10'.block _ c2.lt)).store (t := 34) Tryz.underlying34 (by omega) x hnl v10
        have HLS2 : Hid (∃ c, c ≤ i + 1 ∧ SeenM w11 w5.heap.size c (lessOf m (seenOf ns) (i + 1))) := seen_put HSU.out c1 c2 c3 hb10' hsl10 HSU2.out q1 q2
        have HBR2 : Hid (Below w5.heap.size w5 w11) := HBR.out.trans ((hb10'.mono hszr).trans (ext_below q2 (Nat.le_refl _) (Nat.le_trans hszr hb10'.size)))
        clear hsl10 hb10 hb10' c2 c3 q1 q2 q3 HD
        go_wp2_with fail
        go_roundg (ni - (i + 1))
        case measure => omega
        case rel => exact ⟨i + 1, by omega, rfl, by go_num, HLS2, HBR2⟩
      · have hlt' : ¬ (i : Int) < (ni : Int) := by omega
        have hei : i = m.imports.length := by omega
        have HLF : Hid (∃ c, c ≤ 10 ∧ SeenM wr w5.heap.size c (lessOf m (seenOf ns) m.imports.length)) := by
          obtain ⟨c, c1, c2⟩ := HLS.out
          rw [hei] at c2
          exact ⟨c, by omega, c2⟩
        obtain ⟨lc, hlc, hlm⟩ := HLF.out
        have HC2 := Lib.hid (HCM.out wr (.map (some w5.heap.size)) _ HB3r.out (Or.inr ⟨_, lc, rfl, hlm⟩))
        rw [check_lessOf HCK.out, ← hni] at HC2
        have HLM := Lib.hid hlm
        clear hlm hei hni HLF
        go_wp2_with fail
        refine HC2.out.mono ?_
        rintro e w7 ⟨hb7, rfl⟩
        have HLM7 := Lib.hid (HLM.out.on hb7)
        have HB7 : Hid (Below w5.heap.size w5 w7) := HBR.out.trans (hb7.mono hszr)
        clear hb7 HC2 HLM
        obtain ⟨f, hmv, hf⟩ := HLM7.out
        obtain ⟨D, hown, hD⟩ := hmv.own
        have HF := Lib.hid hf
        have HD := Lib.hid hD
        have HOWN := Lib.hid hown
        have HMV := Lib.hid hmv
        have hlb7 := hmv.lt
        clear hf hD hown hmv
        go_wp2_with (at_range; refine wpList_range_own _ rfl _ 34 rfl 9 45 skey Tryz.underlying34 heldV w5.heap.size lc D rfl HOWN.out ?_; intro w8 hrg8 hg8 hs8)
        go_frame
        have HRG8 := Lib.hid hrg8
        have HB8 : Hid (Below w7.heap.size w7 w8) := (Below.refl _ _).grown hg8 (Nat.le_refl _) (fun k hk => by cases hk)
        clear hrg8 hg8 hs8
        go_loopg [] (Maps.size D) (fun k wr => ∃ left, Hid (wr.ranges Tryz.prog 9 heldV w5.heap.size w7.heap.size lc D left k) ∧ Hid (Below w7.heap.size w7 wr))
        case atStart => exact ⟨_, HRG8, HB8⟩
        case round =>
          obtain ⟨left, HRG, HBQ⟩ := hrel
          go_wp2_with (first | (at_next; refine wpList_next_ranges _ rfl _ rfl 9 skey heldV (fun x : Bs => .string (bs x)) (fun v : Value => v) (fun key kl h => (skey_inv h).imp fun _ q => q.1) (fun v _ _ => ⟨v, rfl⟩) w5.heap.size w7.heap.size lc D left _ rfl HRG.out ?_ ?_))
          · intro _ _
            have HBZ : Hid (Below w'.heap.size w' wr) := HB5'.out.trans ((HB7.out.trans (HBQ.out.mono HB7.out.size)).mono HB5'.out.size)
            go_wp2_with fail
            go_ret
            exact ⟨rfl, HBZ.out⟩
          · intro x cv kl y1 y2 w9 cnt' hkey _ hR hat hrg9 hlt9 hg9 hs9 hen
            obtain ⟨x', hx1, hx2⟩ := skey_inv hkey
            have hxx : x = x' := by injection hx1 with hx1; rw [← bs_toList x, ← bs_toList x', hx1]
            subst hxx
            rw [hx2] at hat
            cases hR
            have hfx := range_entry HD.out hat
            have HEX : Hid (∃ l, lessOf m (seenOf ns) m.imports.length x = some l ∧ SL w7 0 cv l ∧ l.length ≤ 1000) := by
              have q := HF.out x
              cases hS : lessOf m (seenOf ns) m.imports.length x with
              | none => rw [hS, hfx] at q; cases q
              | some l =>
                rw [hS] at q
                obtain ⟨v, q1, q2, q3⟩ := q
                rw [hfx] at q1
                cases q1
                exact ⟨l, rfl, q2, q3⟩
            obtain ⟨l, hSl, hsl7, hl1000⟩ := HEX.out
            have hxl : x.length ≤ 1000000 := by
              unfold lessOf at hSl
              split at hSl
              · exact HSML.out.im _ (List.mem_of_mem_take ‹_›)
              · cases hSl
            obtain ⟨a9, c9, hv9⟩ := hsl7.shape
            subst hv9
            have hb9 : Below w7.heap.size w7 w9 := HBQ.out.trans ((Below.refl _ _).grown hg9 (by have := HBQ.out.size; omega) (fun k hk => by cases hk; exact Nat.le_refl _))
            obtain ⟨w10, hw10⟩ : ∃ w10, w10 = w9.alloc (.cells #[.slice a9 l.length c9] 45) := ⟨_, rfl⟩
            have hb10 : Below w9.heap.size w9 w10 := by rw [hw10]; exact (Below.refl _ _).alloc (Nat.le_refl _) _
            have hk10 : w10.heap[w9.heap.size]? = some (.cells #[.slice a9 l.length c9] 45 (0, 0)) := by
              rw [hw10]
              exact new_blk w9 _
            have hs10 : w9.heap.size < w10.heap.size := lt_blk hk10
            have k10 : w10.cell? ⟨w9.heap.size, 0, none⟩ = some (.slice a9 l.length c9) := (cell_blk hk10).trans rfl
            have hb710 : Below w7.heap.size w7 w10 := hb9.trans (hb10.mono hb9.size)
            have HB710 := Lib.hid hb710
            have hrg10 : w10.ranges Tryz.prog 9 heldV w5.heap.size w7.heap.size lc D (fun z => left z && !z.sameKey kl) cnt' := hrg9.kept (row := none) ⟨hb10.os, hb10.tape, hb10.output, hb10.size, fun k hk _ => hb10.block k hk⟩ (by simp) (by simp)
            have HRG10 := Lib.hid hrg10
            have HSL10 := Lib.hid (hsl7.on hb710)
            have HK10 := Lib.hid hk10
            have HFX := Lib.hid hfx
            have HSLL := Lib.hid hSl
            clear hrg9 hg9 hs9 hkey hat hb9 hb10 hk10 hb710 hrg10 hfx hSl HEX hsl7 hx1 hx2
            go_upto_region 23 with fail
            rw [← hw10]
            clear hw10 hen
            by_cases h0 : l.length = 0
            · have h0' : ¬ ((l.length : Int) > 0) := by omega
              generalize l.length = ll at *
              go_wp2_with fail
              go_roundg cnt'
              case measure => exact hlt9
              case rel => exact ⟨_, HRG10, HB710⟩
            · have h0' : (l.length : Int) > 0 := by omega
              have hl0 : 0 < l.length := by omega
              have HCL := Lib.hid (cloneS HSL10.out hl1000)
              have HDF : Hid (∀ w11 v11, Below w10.heap.size w10 w11 → SL w11 w10.heap.size v11 l → Calls Tryz.prog 15 #[v11, .func (.func 19) #[] #[.pointer (some ⟨w9.heap.size, 0, none⟩)]] w11 fun e w' => ∃ v', e = .returned v' ∧ SL w' w10.heap.size v' (l.filter fun s => !decide (s.1 = l[0].1)) ∧ Below w10.heap.size w11 w') := by
                intro w11 v11 h11 hs11
                refine deleteBall hs11 h11.size hl1000 (fun W s _ hW => ?_)
                have h11W := h11.trans hW
                rcases HSL10.out.on h11W with ⟨_, q⟩ | ⟨g', cap', q1, _, q3⟩
                · rw [q] at hl0; simp at hl0
                · cases q1
                  exact called_post ((h11W.cell (p := ⟨w9.heap.size, 0, none⟩) hs10).trans ((cell_blk HK10.out).trans rfl)) hl0 q3 s
              have HGN := Lib.hid (lessOf_gone HSLL.out hl0)
              have HFL : Hid ((l.filter fun s => !decide (s.1 = l[0].1)).length ≤ 1000) := Nat.le_trans (List.length_filter_le _ _) hl1000
              generalize (l.filter fun s => !decide (s.1 = l[0].1)) = l' at *
              obtain ⟨ll, hll⟩ : ∃ ll, ll = l.length := ⟨_, rfl⟩
              rw [← hll] at k10 h0' HCL
              have HLL := Lib.hid hll
              clear hll
              go_wp2_with fail
              refine HCL.out.mono ?_
              rintro e w11 ⟨v11, rfl, hb11, hsl11⟩
              have HDE := Lib.hid (HDF.out w11 v11 hb11 hsl11)
              have HB11 := Lib.hid hb11
              clear hb11 hsl11 HCL HDF
              go_wp2_with fail
              refine HDE.out.mono ?_
              rintro e w12 ⟨v12, rfl, hsl12, hb12⟩
              have hb712 : Below w7.heap.size w7 w12 := HB710.out.trans ((HB11.out.trans hb12).mono HB710.out.size)
              obtain ⟨w13, hup, q1, q2, q3⟩ := (HMV.out.on (hb712.block _ hlb7)).store (t := 34) Tryz.underlying34 (by omega) x hxl v12
              obtain ⟨lc2, _, hsm13⟩ := seen_put rfl hlc HMV.out HF.out hb712 hsl12 HFL.out q1 q2
              have hb713 : Below w5.heap.size w7 w13 := (hb712.mono HB7.out.size).trans (ext_below q2 (Nat.le_refl _) (Nat.le_trans HB7.out.size hb712.size))
              have hb513 : Below w5.heap.size w5 w13 := HB7.out.trans hb713
              have hb313 : Below w3.heap.size w3 w13 := HB5.out.trans (hb513.mono hsz5)
              have HC3 := Lib.hid (HCM.out w13 (.map (some w5.heap.size)) _ hb313 (Or.inr ⟨_, lc2, rfl, hsm13⟩))
              obtain ⟨r0, r1, r2, r3, r4⟩ := cell_box5' (HK3.out w13 hb313)
              have hm13 : w2.heap.size < w13.heap.size := by have := hb513.size; omega
              have HB13 : Hid (Below w'.heap.size w' w13) := HB5'.out.trans (hb513.mono HB5'.out.size)
              clear hsl12 hb12 hb712 q1 q2 q3 hsm13 hb713 hb513 hb313 HDE k10
              go_wp2_with fail
              refine HC3.out.mono ?_
              intro e w14 hq
              obtain ⟨hb14, hq⟩ := hq
              have HB14 : Hid (Below w'.heap.size w' w14) := HB13.out.trans (hb14.mono HB13.out.size)
              cases hck2 : Tp.check m (fun q => if q = x then some l' else lessOf m (seenOf ns) m.imports.length q) with
              | none => exact absurd hck2 HGN.out
              | some er =>
                rw [hck2] at hq
                obtain ⟨en, pl⟩ := er
                clear hck2 hb14 HC3 r0 r1 r2 r3 r4
                cases pl with
                | none =>
                  simp only at hq
                  subst hq
                  go_wp2_with fail
                  go_ret
                  exact ⟨rfl, HB14.out⟩
                | some pl =>
                  obtain ⟨ab, rfl, _, _, _⟩ := hq
                  go_wp2_with fail
                  go_ret
                  exact ⟨rfl, HB14.out⟩
end Go.Proofs.YtiolfelekiopdaaGreatDoor
