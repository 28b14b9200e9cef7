import Derived.Test.YthkdefhngkangaaDoorKYF
/- SymNeeds, walked: what ends it early. -/
namespace Go.Proofs.YthkdefhngkangaaDoor
open Go.RowKit Go.Sort
open Tp (Sy)

set_option maxRecDepth 100000 in
set_option maxHeartbeats 1000000 in
theorem symNeeds_long {w : World} {l more : List UInt8} {nn : Nat} {na : Option Addr} {nc : Nat} (h : 900 < l.length ∨ 40 < more.length ∨ 10 < nn) : Calls Tryd.prog 6 #[.string (bs l), .string (bs more), .slice na nn nc] w fun e w' => e = .returned (.bool true) ∧ Below w.heap.size w w' := by
  by_cases h1 : 900 < l.length
  · have hs : (900 : Int) < ((bs l).size : Int) := by rw [bs_size]; omega
    go_enter Tryd.func6, Tryd.ntmps6
    go_wp2_with fail
    go_ret
    exact ⟨rfl, Below.refl _ _⟩
  · have hs : ¬ (900 : Int) < ((bs l).size : Int) := by rw [bs_size]; omega
    by_cases h2 : 40 < more.length
    · have hs2 : (40 : Int) < ((bs more).size : Int) := by rw [bs_size]; omega
      go_enter Tryd.func6, Tryd.ntmps6
      go_wp2_with fail
      go_ret
      exact ⟨rfl, Below.refl _ _⟩
    · have hs2 : ¬ (40 : Int) < ((bs more).size : Int) := by rw [bs_size]; omega
      have hs3 : (10 : Int) < (nn : Int) := by omega
      go_enter Tryd.func6, Tryd.ntmps6
      go_wp2_with fail
      go_ret
      exact ⟨rfl, Below.refl _ _⟩
set_option maxRecDepth 100000 in
set_option maxHeartbeats 4000000 in
theorem symNeeds_short {w : World} {B : Nat} {l more : List UInt8} {ns : List (List UInt8)} {na : Option Addr} {nc : Nat} (h1 : l.length ≤ 900) (h2 : more.length ≤ 40) (h3 : ns.length ≤ 10) (hns : StrsAt w ns na) (hv : Vars B w) (hB : B ≤ w.heap.size) : Calls Tryd.prog 6 #[.string (bs l), .string (bs more), .slice na ns.length nc] w fun e w' => e = .returned (.bool true) ∧ Below w.heap.size w w' := by
  have hs1 : ((bs l).size : Int) ≤ 900 := by rw [bs_size]; omega
  have hs2 : ((bs more).size : Int) ≤ 40 := by rw [bs_size]; omega
  have hs3 : (ns.length : Int) ≤ 10 := by omega
  have HC := Lib.hid (contF_post (nc := nc) hns (by omega))
  have HSE := Lib.hid (seen_post hv)
  have HV := Lib.hid hv
  have HNS := Lib.hid hns
  have HCO : Hid (∀ W, Below w.heap.size w W → Calls Tryd.prog 17 #[.slice na ns.length nc, .string (bs more)] W fun e w' => (e = .returned (.bool true) ∨ e = .returned (.bool false) ∧ more ∉ ns) ∧ w' = W) := fun W hW => cont_post (hns.on hW) (by omega) more
  obtain ⟨nn, hnq⟩ : ∃ nn, nn = ns.length := ⟨_, rfl⟩
  have HNQ := Lib.hid hnq
  rw [← hnq] at hs3 HC HCO ⊢
  clear hns hv hnq
  go_enter Tryd.func6, Tryd.ntmps6
  go_wp2_with fail
  refine HC.out.mono ?_
  rintro e w0 ⟨hc, rfl⟩
  rcases hc with rfl | ⟨rfl, hall⟩
  · go_wp2_with fail
    go_ret
    exact ⟨rfl, Below.refl _ _⟩
  have HALL := Lib.hid hall
  clear hall
  go_wp2_with fail
  refine HSE.out.mono ?_
  rintro e w1 ⟨rfl, b1⟩
  have hv1 := HV.out.on (b1.mono hB)
  have hpc := parse_post w1 l (by omega) hv1.mks hv1.lv
  have HB1 := Lib.hid b1
  clear b1 hv1 HSE HC
  cases hp : Tp.parse l with
  | error er =>
    have HP : Hid (Calls Tryd.prog 8 #[.string (bs l)] w1 fun e w' => Below w1.heap.size w1 w' ∧ ∃ ab, e = .returned (.tuple #[.agg m0, .iface 75 (.pointer (some ⟨ab, 0, none⟩))])) := by
      refine hpc.mono ?_
      rintro e w' ⟨q1, q2⟩
      unfold ParseP at q2
      rw [hp] at q2
      obtain ⟨ab, q3, _⟩ := q2
      exact ⟨q1, ab, q3⟩
    clear hpc hp
    go_wp2_with fail
    refine HP.out.mono ?_
    rintro e w2 ⟨b2, ab, rfl⟩
    have H3 := Lib.hid (HB1.out.trans (b2.mono HB1.out.size))
    clear b2
    unfold m0
    go_wp2_with fail
    go_ret
    exact ⟨rfl, H3.out.trans (((Below.refl _ _).alloc (Nat.le_refl _) _).mono H3.out.size)⟩
  | ok m =>
    have HP : Hid (Calls Tryd.prog 8 #[.string (bs l)] w1 fun e w' => Below w1.heap.size w1 w' ∧ ∃ v, e = .returned (.tuple #[v, .nilIface]) ∧ VM w1.heap.size m v w') := by
      refine hpc.mono ?_
      rintro e w' ⟨q1, q2⟩
      unfold ParseP at q2
      rw [hp] at q2
      exact ⟨q1, q2⟩
    have hwm := (Tp.parse_wm hp).1
    obtain ⟨hsm, hsl20⟩ := syms_small hwm
    have hgc := hwm.gc
    have hpc' := hwm.pc
    clear hpc hp
    go_wp2_with fail
    refine HP.out.mono ?_
    rintro e w2 ⟨b2, v2, rfl, hvm⟩
    obtain ⟨ia, ga, pa, ba, ic, gc, pc, bc, rfl, hmb⟩ := hvm.mb
    have H2 := Lib.hid (HB1.out.trans (b2.mono HB1.out.size))
    have hal2 : ∀ ob, Below w2.heap.size w2 (w2.alloc ob) := fun ob => (Below.refl _ _).alloc (Nat.le_refl _) _
    have hof := fun ob => of_post (m := m) hgc hpc' (hmb.up (hal2 ob))
    obtain ⟨sl, hsl⟩ : ∃ sl, sl = srt (Tp.symsOf m) := ⟨_, rfl⟩
    rw [← hsl] at hof hsm hsl20
    have HO : Hid (∀ ob, Calls Tryd.prog 14 #[.agg #[.string (bs m.name), .slice ia m.imports.length ic, .slice ga m.vars.length gc, .slice pa m.procs.length pc, .slice ba m.body.length bc]] (w2.alloc ob) fun e w' => ∃ v, e = .returned v ∧ Below (w2.alloc ob).heap.size (w2.alloc ob) w' ∧ SL w' (w2.alloc ob).heap.size v sl) := hof
    have e0 : mcells (bs m.name) (.slice ia m.imports.length ic) (.slice ga m.vars.length gc) (.slice pa m.procs.length pc) (.slice ba m.body.length bc) = #[.string (bs m.name), .slice ia m.imports.length ic, .slice ga m.vars.length gc, .slice pa m.procs.length pc, .slice ba m.body.length bc] := rfl
    rw [e0]
    have HAL2 := Lib.hid hal2
    have HSM := Lib.hid hsm
    have HS20 := Lib.hid hsl20
    clear hof hal2 hmb hvm b2 e0 HP hwm hgc hpc' hsl hsm hsl20
    generalize m.imports.length = n1 at *
    generalize m.vars.length = n2 at *
    generalize m.procs.length = n3 at *
    generalize m.body.length = n4 at *
    generalize m.name = nm at *
    go_wp2_with fail
    refine (HO.out _).mono ?_
    rintro e w3 ⟨v3, rfl, b3, hsl3⟩
    have H3 := Lib.hid (H2.out.trans (((HAL2.out _).trans (b3.mono (by simp))).mono H2.out.size))
    have HSL3 := Lib.hid hsl3
    have HC3 := Lib.hid (HCO.out w3 H3.out)
    clear b3 hsl3 HO
    go_wp2_with fail
    refine HC3.out.mono ?_
    rintro e w4 ⟨hc, rfl⟩
    rcases hc with rfl | ⟨rfl, hno⟩
    · go_wp2_with fail
      go_ret
      exact ⟨rfl, H3.out⟩
    have HNO := Lib.hid hno
    clear hno HC3
    generalize hWW : w4 = W at *
    clear hWW
    have hszW := H3.out.size
    have halW : Below W.heap.size W (W.alloc (.cells #[.string (bs more), .int .i64 0, .int .i64 3] 50)) := (Below.refl _ _).alloc (Nat.le_refl _) _
    have HOA : Hid ((W.alloc (.cells #[.string (bs more), .int .i64 0, .int .i64 3] 50)).ownsRow W.heap.size 50 3 (.slice (some ⟨W.heap.size, 0, none⟩) 1 1) [(more, 0, 3)].length (sycs [(more, 0, 3)])) :=
      ⟨rfl, Or.inr ⟨W.heap.size, 1, _, rfl, Nat.le_refl _, new_blk _ _, Nat.le_refl _, by unfold maxLen; omega, rfl, rfl⟩⟩
    have HSLA := Lib.hid (HSL3.out.on halW)
    have HALW := Lib.hid halW
    clear halW
    go_wp2_with (at_builtin; refine wpList_append_sl rfl _ _ rfl HOA.out HSLA.out rfl rfl ?c1 ?c2 ?_)
    case c1 => have := HS20.out; simp; omega
    case c2 => simp
    intro v5 w5 h5 g5
    have HB5 : Hid (Below W.heap.size W w5) := HALW.out.trans ((Below.refl W.heap.size _).grown g5 (by simp) (fun k hk => (HOA.out.lt k hk).1))
    have HSL5 := Lib.hid (own_syrow h5).2
    have HCL := Lib.hid (clone_post (HSL3.out.on HB5.out) (by have := HS20.out; omega))
    have HSM5 : Hid (AllSmall ([(more, 0, 3)] ++ sl) ∧ ([(more, 0, 3)] ++ sl).length ≤ 1000) := by
      refine ⟨fun s hs => ?_, by have := HS20.out; simp; omega⟩
      rcases List.mem_append.1 hs with hs | hs
      · simp at hs; subst hs; exact ⟨by simp, by simp, by simp, by simp only; omega⟩
      · exact HSM.out s hs
    have HSM7 : Hid (AllSmall (sl ++ [(more, 5, -1)]) ∧ (sl ++ [(more, 5, -1)]).length ≤ 1000) := by
      refine ⟨fun s hs => ?_, by have := HS20.out; simp; omega⟩
      rcases List.mem_append.1 hs with hs | hs
      · exact HSM.out s hs
      · simp at hs; subst hs; exact ⟨by simp, by simp, by simp, by simp only; omega⟩
    clear h5 g5 HOA HSLA HALW
    go_wp2_with fail
    refine HCL.out.mono ?_
    rintro e w6 ⟨v6, rfl, b6, o6⟩
    have hal6 : Below w6.heap.size w6 (w6.alloc (.cells #[.string (bs more), .int .i64 5, .int .i64 (-1)] 50)) := (Below.refl _ _).alloc (Nat.le_refl _) _
    have HO6 := Lib.hid (o6.alloc (.cells #[.string (bs more), .int .i64 5, .int .i64 (-1)] 50))
    have HSB : Hid (SL (w6.alloc (.cells #[.string (bs more), .int .i64 5, .int .i64 (-1)] 50)) 0 (.slice (some ⟨w6.heap.size, 0, none⟩) 1 1) [(more, 5, -1)]) :=
      Or.inr ⟨w6.heap.size, 1, rfl, Nat.zero_le _, ⟨⟨_, new_blk _ _, rfl, rfl⟩, Nat.le_refl _, by unfold maxLen; omega⟩⟩
    have HB6 := Lib.hid b6
    have HAL6 := Lib.hid hal6
    clear b6 o6 hal6 HCL
    go_wp2_with (at_builtin; refine wpList_append_sl rfl _ _ rfl HO6.out HSB.out rfl rfl ?c3 ?c4 ?_)
    case c3 => have := HS20.out; simp; omega
    case c4 => have := HB6.out.size; simp; omega
    intro v7 w7 h7 g7
    have HB7 : Hid (Below w5.heap.size w5 w7) := (HB6.out.trans (HAL6.out.mono HB6.out.size)).trans ((Below.refl w5.heap.size _).grown g7 (by have := HB6.out.size; simp; omega) (fun k hk => (HO6.out.lt k hk).1))
    have HSL7 := Lib.hid (own_syrow h7).2
    have HSL57 := Lib.hid (HSL5.out.on HB7.out)
    have HSL37 := Lib.hid ((HSL3.out.on HB5.out).on HB7.out)
    have HBW : Hid (Below w0.heap.size w0 w7) := H3.out.trans ((HB5.out.trans (HB7.out.mono HB5.out.size)).mono hszW)
    have hnl : ∀ n ∈ ns, n.length ≤ 100 := fun n hn => by have := HALL.out n hn; omega
    have hnn : ns.length ≤ 1000 := by omega
    have HN5 : Hid (∀ W, Below w7.heap.size w7 W → Calls Tryd.prog 19 #[v5, .slice na nn nc] W fun e w' => e = .returned (.string (bs (Tp.needsS sl ns))) ∧ Below W.heap.size W w') := by
      intro W hW
      have := needs_post (HSL57.out.on hW) HSM5.out.1 HSM5.out.2 ((HNS.out.on HBW.out).on hW) (nc := nc) hnl hnn
      rw [← HNQ.out] at this
      have e9 : Tp.needsS ((more, 0, 3) :: sl) ns = Tp.needsS sl ns := Tp.needs_cons HNO.out
      rw [← e9]
      exact this
    have HN7 : Hid (∀ W, Below w7.heap.size w7 W → Calls Tryd.prog 19 #[v7, .slice na nn nc] W fun e w' => e = .returned (.string (bs (Tp.needsS sl ns))) ∧ Below W.heap.size W w') := by
      intro W hW
      have := needs_post (HSL7.out.on hW) HSM7.out.1 HSM7.out.2 ((HNS.out.on HBW.out).on hW) (nc := nc) hnl hnn
      rw [Tp.needs_last HNO.out, ← HNQ.out] at this
      exact this
    have HN3 : Hid (∀ W, Below w7.heap.size w7 W → Calls Tryd.prog 19 #[v3, .slice na nn nc] W fun e w' => e = .returned (.string (bs (Tp.needsS sl ns))) ∧ Below W.heap.size W w') := by
      intro W hW
      have := needs_post (HSL37.out.on hW) HSM.out (by have := HS20.out; omega) ((HNS.out.on HBW.out).on hW) (nc := nc) hnl hnn
      rw [← HNQ.out] at this
      exact this
    have HN0 : Hid (∀ W, Below w7.heap.size w7 W → Calls Tryd.prog 19 #[v3, .slice none 0 0] W fun e w' => e = .returned (.string ⟨#[]⟩) ∧ Below W.heap.size W w') := by
      intro W hW
      exact needs_post (HSL37.out.on hW) HSM.out (by have := HS20.out; omega) (ns := []) (na := none) (nc := 0) ⟨fun i hi => by simp at hi⟩ (by simp) (by simp)
    clear h7 g7 HO6 HSB HAL6 hnl hnn
    generalize bs (Tp.needsS sl ns) = tx at *
    have R7 : Hid (Below w7.heap.size w7 w7) := Below.refl _ _
    go_wp2_with fail
    refine (HN5.out w7 R7.out).mono ?_
    rintro e wa ⟨rfl, ba'⟩
    have RA := Lib.hid ba'
    clear ba'
    go_wp2_with fail
    refine (HN3.out wa RA.out).mono ?_
    rintro e wb ⟨rfl, bb'⟩
    have RB := Lib.hid (RA.out.trans (bb'.mono RA.out.size))
    clear bb'
    go_wp2_with fail
    refine (HN7.out wb RB.out).mono ?_
    rintro e wc ⟨rfl, bc'⟩
    have RC := Lib.hid (RB.out.trans (bc'.mono RB.out.size))
    clear bc'
    go_wp2_with fail
    refine (HN3.out wc RC.out).mono ?_
    rintro e wd ⟨rfl, bd'⟩
    have RD := Lib.hid (RC.out.trans (bd'.mono RC.out.size))
    clear bd'
    go_wp2_with fail
    refine (HN0.out wd RD.out).mono ?_
    rintro e we ⟨rfl, be'⟩
    have RE := Lib.hid (RD.out.trans (be'.mono RD.out.size))
    clear be'
    go_wp2_with fail
    go_ret
    exact ⟨rfl, HBW.out.trans (RE.out.mono HBW.out.size)⟩
end Go.Proofs.YthkdefhngkangaaDoor
