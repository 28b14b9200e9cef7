import Derived.Test.YtiolfelekiopdaaGreatDoorKML
import Derived.Test.YtiolfelekiopdaaGreatDoorKPC
/- A fact: what is found: checked. -/
namespace Go.Proofs.YtiolfelekiopdaaGreatDoor
open Go.RowKit
open Tp (Bs Th Sy Seen X S G Pr)

def ErT (w : World) : Prop := w.cell? ⟨0, 0, none⟩ = some (.iface 165 (.agg #[.pointer (some ⟨4, 31, none⟩)]))
theorem ErT.below {w w' : World} {B : Nat} (h : ErT w) (k : Below B w w') (hB : 0 < B) : ErT w' := (k.cell (p := ⟨0, 0, none⟩) hB).trans h
/- what the program reads of its variables -/
structure VarsC (B : Nat) (w : World) : Prop where
  mks : Mk w
  lv : Lv w
  et : ErT w
  m : 1 < B
  l : 3 < B
  e : 0 < B
theorem VarsC.on {B : Nat} {w w' : World} (h : VarsC B w) (k : Below B w w') : VarsC B w' := ⟨h.mks.below k h.m, h.lv.below k h.l, h.et.below k h.e, h.m, h.l, h.e⟩
theorem VarsC.on' {B : Nat} {w w' : World} (h : VarsC B w) (hB : B ≤ w.heap.size) (k : Below w.heap.size w w') : VarsC B w' := h.on (k.mono hB)
/- a new map with one entry -/
theorem seen_one {w W : World} (hm : MapV W w.heap.size 0 (fun _ => none)) (hb : Below w.heap.size w W) {v : Value} {l : List Sy} (hv : SL W 0 v l) (hl : l.length ≤ 1000) :
    ∃ w', (Instr.mapUpdate 34 (.map (some w.heap.size)) (.string ⟨#[97]⟩) v).run Tryz.prog W = .ok () w' ∧ SeenV w' (.map (some w.heap.size)) (Tp.seenA l) ∧ Below w.heap.size w w' := by
  obtain ⟨w', r1, r2, r3, r4⟩ := hm.store (t := 34) Tryz.underlying34 (by omega) [97] (by simp) v
  refine ⟨w', r1, Or.inr ⟨w.heap.size, 1, rfl, ?_⟩, hb.trans (ext_below r3 (Nat.le_refl _) hb.size)⟩
  exact SeenM.store (S := fun _ => none) hm (fun k => rfl) hv hl r2 r3
set_option maxRecDepth 100000 in
set_option maxHeartbeats 2000000 in
theorem checked_post {w : World} {B : Nat} (hv : VarsC B w) (hB : B ≤ w.heap.size) : Calls Tryz.prog 6 #[] w fun e w' => e = .returned (.bool true) ∧ Below w.heap.size w w' := by
  have hp := parse_post w Tp.txtC (by decide) hv.mks hv.lv
  have HP : Hid (Calls Tryz.prog 7 #[.string ⟨Tp.txtC.toArray⟩] w fun e w' => Below w.heap.size w w' ∧ ∃ v, e = .returned (.tuple #[v, .nilIface]) ∧ VM w.heap.size Tp.modC v w') := by
    refine hp.mono ?_
    rintro e w' ⟨h1, h2⟩
    unfold ParseP at h2
    rw [Tp.parseC] at h2
    exact ⟨h1, h2⟩
  unfold Tp.txtC at HP
  have hsm := (Tp.parse_wm Tp.parseC).1.sml
  have HSM := Lib.hid hsm
  have HV := Lib.hid hv
  clear hp hv hsm
  go_enter Tryz.func6, Tryz.ntmps6
  go_wp2_with fail
  refine HP.out.mono ?_
  rintro e w1 ⟨h1, v1, rfl, hvm⟩
  obtain ⟨ia, ga, pa, ba, ic, gc, pc, bc, rfl, hmb⟩ := hvm.mb
  have e0 : mcells (bs Tp.modC.name) (.slice ia Tp.modC.imports.length ic) (.slice ga Tp.modC.vars.length gc) (.slice pa Tp.modC.procs.length pc) (.slice ba Tp.modC.body.length bc) = #[.string ⟨#[109]⟩, .slice ia 1 ic, .slice ga 1 gc, .slice pa 1 pc, .slice ba 1 bc] := rfl
  rw [e0]
  obtain ⟨w2, hw2⟩ : ∃ w2, w2 = w1.alloc (.cells #[.string ⟨#[109]⟩, .slice ia 1 ic, .slice ga 1 gc, .slice pa 1 pc, .slice ba 1 bc] 29) := ⟨_, rfl⟩
  have hb2 : Below w1.heap.size w1 w2 := by rw [hw2]; exact (Below.refl _ _).alloc (Nat.le_refl _) _
  have hk2 : w2.heap[w1.heap.size]? = some (.cells #[.string ⟨#[109]⟩, .slice ia 1 ic, .slice ga 1 gc, .slice pa 1 pc, .slice ba 1 bc] 29 (0, 0)) := by rw [hw2]; exact new_blk _ _
  have hs2 : w1.heap.size < w2.heap.size := lt_blk hk2
  obtain ⟨k0, k1, k2, k3, k4⟩ := cell_box5' hk2
  have HB2 : Hid (Below w.heap.size w w2) := h1.trans (hb2.mono h1.size)
  have HK2 := Lib.hid hk2
  -- Check in a later world
  have HC : Hid (∀ W sv Sn, Below w2.heap.size w2 W → SeenV W sv Sn → Calls Tryz.prog 9 #[.agg #[.string ⟨#[109]⟩, .slice ia 1 ic, .slice ga 1 gc, .slice pa 1 pc, .slice ba 1 bc], sv] W (CheckP W (Tp.check Tp.modC Sn))) := by
    intro W sv Sn hW hS
    exact check_post HSM.out ((hmb.up hb2).up hW) hS
  have HVV : Hid (∀ W, Below w2.heap.size w2 W → ErT W) := fun W hW => ((HV.out.on' hB HB2.out).on (hW.mono (by have := HB2.out.size; omega))).et
  -- the first map
  obtain ⟨wA, hA1, hA2, hA3⟩ := seen_one (w := w2) (W := (w2.alloc (.map #[] 0)).alloc (.cells #[.string ⟨#[121]⟩, .int .i64 0, .int .i64 (-1)] 48)) ((MapV.made w2).on (Below.heap_alloc _ _ _ (by simp))) (((Below.refl _ _).alloc (Nat.le_refl _) _).alloc (by simp) _) (v := .slice (some ⟨w2.heap.size + 1, 0, none⟩) 1 1) (l := [([121], 0, -1)])
    (Or.inr ⟨w2.heap.size + 1, 1, rfl, Nat.zero_le _, ⟨⟨#[.string ⟨#[121]⟩, .int .i64 0, .int .i64 (-1)], by simpa using new_blk (w2.alloc (.map #[] 0)) (.cells #[.string ⟨#[121]⟩, .int .i64 0, .int .i64 (-1)] 48), rfl, rfl⟩, Nat.le_refl _, by unfold maxLen; omega⟩⟩) (by simp)
  have HA2 := Lib.hid hA2
  have HA3 := Lib.hid hA3
  have hmm := @run_makeMap Tryz.prog
  have HC1 := Lib.hid (HC.out wA _ _ hA3 hA2)
  rw [Tp.checkC1] at HC1
  clear hvm hmb h1 HP HV e0 hb2 hk2 hA2 hA3
  go_upto_region 2 with fail
  rw [← hw2]
  clear hw2
  go_wp2_with fail
  refine HC1.out.mono ?_
  rintro e w3 ⟨hb3, rfl⟩
  have HB3 : Hid (Below w2.heap.size w2 w3) := HA3.out.trans (hb3.mono HA3.out.size)
  have hs23 := HB3.out.size
  have e3 := (HB3.out.block _ hs2).trans HK2.out
  obtain ⟨m0, m1, m2, m3, m4⟩ := cell_box5' e3
  have hs3 : w1.heap.size < w3.heap.size := lt_blk e3
  obtain ⟨wB, hB1, hB2, hB3⟩ := seen_one (w := w3) (W := w3.alloc (.map #[] 0)) (MapV.made w3) ((Below.refl _ _).alloc (Nat.le_refl _) _) (v := .slice none 0 0) (l := []) (Or.inl ⟨rfl, rfl⟩) (by simp)
  have HB4 : Hid (Below w2.heap.size w2 wB) := HB3.out.trans (hB3.mono hs23)
  have HC2 := Lib.hid (HC.out wB _ _ HB4.out hB2)
  rw [Tp.checkC2] at HC2
  clear hB2 hB3 hb3 e3 HC1 hA1 HA2 HA3 k0 k1 k2 k3 k4
  go_wp2_with fail
  refine HC2.out.mono ?_
  rintro e w5 ⟨hb5, ab, rfl, hab, c0, c1⟩
  have HB5 : Hid (Below w2.heap.size w2 w5) := HB4.out.trans (hb5.mono HB4.out.size)
  have HT := Lib.hid (tell_at 7 ab w5 (HVV.out w5 HB5.out) c0)
  clear hb5 hab c0 c1 HC2 hB1 m0 m1 m2 m3 m4
  go_wp2_with fail
  refine HT.out.mono ?_
  rintro e w6 ⟨rfl, hb6⟩
  have HB6 : Hid (Below w2.heap.size w2 w6) := HB5.out.trans (hb6.mono HB5.out.size)
  have e6 := (HB6.out.block _ hs2).trans HK2.out
  obtain ⟨m0, m1, m2, m3, m4⟩ := cell_box5' e6
  have hs6 : w1.heap.size < w6.heap.size := lt_blk e6
  have HC3 := Lib.hid (HC.out w6 (.map none) (fun _ => none) HB6.out (Or.inl ⟨rfl, fun _ => rfl⟩))
  rw [Tp.checkC3] at HC3
  clear hb6 e6 HT
  go_wp2_with fail
  refine HC3.out.mono ?_
  rintro e w7 ⟨hb7, rfl⟩
  have HB7 : Hid (Below w2.heap.size w2 w7) := HB6.out.trans (hb7.mono HB6.out.size)
  have HT := Lib.hid (tell_en 8 w7 (HVV.out w7 HB7.out))
  clear hb7 HC3 m0 m1 m2 m3 m4
  go_wp2_with fail
  refine HT.out.mono ?_
  rintro e w8 ⟨rfl, hb8⟩
  have HB8 : Hid (Below w2.heap.size w2 w8) := HB7.out.trans (hb8.mono HB7.out.size)
  clear hb8 HT
  go_wp2_with fail
  go_ret
  exact ⟨rfl, HB2.out.trans (HB8.out.mono HB2.out.size)⟩
end Go.Proofs.YtiolfelekiopdaaGreatDoor
/- keep: texts are few, and short: short. -/
namespace Go.Proofs.YtiolfelekiopdaaGreatDoor
open Go.RowKit
open Tp (Bs Sy Seen)

/- texts that a slice holds -/
structure StrsAt (w : World) (ns : List (List UInt8)) (a : Option Addr) : Prop where
  c : ∀ i (h : i < ns.length), ∃ b o, a = some ⟨b, o, none⟩ ∧ b < w.heap.size ∧ w.cell? ⟨b, o + i, none⟩ = some (.string (bs ns[i]))
theorem StrsAt.on {w w' : World} {ns : List (List UInt8)} {a : Option Addr} (h : StrsAt w ns a) (k : Below w.heap.size w w') : StrsAt w' ns a :=
  ⟨fun i hi => by obtain ⟨b, o, h1, h2, h3⟩ := h.c i hi; exact ⟨b, o, h1, Nat.lt_of_lt_of_le h2 k.size, (k.cell (p := ⟨b, o + i, none⟩) h2).trans h3⟩⟩
set_option maxRecDepth 100000 in
theorem long_post (n : List UInt8) (w : World) : Calls Tryz.prog 21 #[.string (bs n)] w fun e w' => e = .returned (.bool (decide (900 < n.length))) ∧ w' = w := by
  by_cases h : 900 < n.length
  · have hs : (900 : Int) < ((bs n).size : Int) := by rw [bs_size]; omega
    rw [decide_eq_true h]
    go_enter Tryz.func21, Tryz.ntmps21
    go_wp2_with fail
    go_ret
    exact ⟨by first | rfl | simp [hs], rfl⟩
  · have hs : ¬ (900 : Int) < ((bs n).size : Int) := by rw [bs_size]; omega
    rw [decide_eq_false h]
    go_enter Tryz.func21, Tryz.ntmps21
    go_wp2_with fail
    go_ret
    exact ⟨by first | rfl | (simp; omega), rfl⟩
set_option maxRecDepth 100000 in
set_option maxHeartbeats 1000000 in
theorem indexS_post {w : World} {ns : List (List UInt8)} {na : Option Addr} {nc : Nat} (hns : StrsAt w ns na) (hnn : ns.length ≤ 1000) :
    Calls Tryz.prog 43 #[.slice na ns.length nc, .func (.func 21) #[] #[]] w fun e w' => (∃ k : Int, e = .returned (.int .i64 k) ∧ ((0 ≤ k ∧ k ≤ 1000) ∨ k = -1 ∧ ∀ n ∈ ns, n.length ≤ 900)) ∧ w' = w := by
  have hnn' : (ns.length : Int) ≤ 1000 := by omega
  have HNS := Lib.hid hns
  obtain ⟨nn, hnq⟩ : ∃ nn, nn = ns.length := ⟨_, rfl⟩
  rw [← hnq] at hnn' ⊢
  have HNQ := Lib.hid hnq
  clear hns hnq
  go_enter Tryz.func43, Tryz.ntmps43
  go_wp2_with fail
  go_loopg [8] nn (fun k vi wr => ∃ i : Nat, i ≤ nn ∧ k = nn - i ∧ vi = .int .i64 (i : Int) ∧ Hid (∀ k (hk : k < ns.length), k < i → ns[k].length ≤ 900) ∧ wr = w)
  case atStart => exact ⟨0, by omega, by omega, rfl, fun k _ hk => by omega, rfl⟩
  case round =>
    obtain ⟨i, hid, hk, rfl, HI, rfl⟩ := hrel
    by_cases hlt : i < nn
    · have hlt' : (i : Int) < (nn : Int) := by omega
      have hia : i < ns.length := by have := HNQ.out; omega
      obtain ⟨b, o, rfl, hbl, hcell⟩ := HNS.out.c i hia
      have HF := Lib.hid (long_post ns[i] wr)
      have HNX : Hid (¬ 900 < ns[i].length → ∀ k (hk : k < ns.length), k < i + 1 → ns[k].length ≤ 900) := by
        intro hne k hk hlt
        by_cases e : k = i
        · subst e; omega
        · exact HI.out k hk (by omega)
      generalize ns[i] = x at *
      go_wp2_with fail
      refine HF.out.mono ?_
      rintro e w3 ⟨rfl, rfl⟩
      by_cases hx : 900 < x.length
      · rw [decide_eq_true hx]
        go_wp2_with fail
        go_ret
        exact ⟨⟨(i : Int), rfl, Or.inl ⟨by omega, by omega⟩⟩, rfl⟩
      · rw [decide_eq_false hx]
        have HI3 := Lib.hid (HNX.out hx)
        go_wp2_with fail
        go_roundg (nn - (i + 1))
        case measure => omega
        case rel => exact ⟨i + 1, by omega, rfl, by go_num, HI3, rfl⟩
    · have hlt' : ¬ (i : Int) < (nn : Int) := by omega
      have hall : ∀ n ∈ ns, n.length ≤ 900 := by
        intro n hn
        obtain ⟨k, hk, rfl⟩ := List.getElem_of_mem hn
        exact HI.out k hk (by have := HNQ.out; omega)
      go_wp2_with fail
      go_ret
      exact ⟨⟨-1, rfl, Or.inr ⟨rfl, hall⟩⟩, rfl⟩
set_option maxRecDepth 100000 in
theorem contF_post {w : World} {ns : List (List UInt8)} {na : Option Addr} {nc : Nat} (hns : StrsAt w ns na) (hnn : ns.length ≤ 1000) :
    Calls Tryz.prog 20 #[.slice na ns.length nc, .func (.func 21) #[] #[]] w fun e w' => (e = .returned (.bool true) ∨ e = .returned (.bool false) ∧ ∀ n ∈ ns, n.length ≤ 900) ∧ w' = w := by
  have HC := Lib.hid (indexS_post (nc := nc) hns hnn)
  clear hns
  generalize ns.length = nn at *
  go_enter Tryz.func20, Tryz.ntmps20
  go_wp2_with fail
  refine HC.out.mono ?_
  rintro e w1 ⟨⟨k, rfl, hk⟩, rfl⟩
  rcases hk with ⟨h1, h2⟩ | ⟨rfl, h2⟩
  · go_wp2_with fail
    go_ret
    exact ⟨Or.inl (by first | rfl | simp [h1]), rfl⟩
  · have H2 := Lib.hid h2
    go_wp2_with fail
    go_ret
    exact ⟨Or.inr ⟨rfl, H2.out⟩, rfl⟩
set_option maxRecDepth 100000 in
set_option maxHeartbeats 400000 in
theorem short_post {w : World} {ns : List (List UInt8)} {na : Option Addr} {nc : Nat} (hns : StrsAt w ns na) :
    Calls Tryz.prog 5 #[.slice na ns.length nc] w fun e w' => (e = .returned (.bool false) ∨ e = .returned (.bool true) ∧ ns.length ≤ 5 ∧ ∀ n ∈ ns, n.length ≤ 900) ∧ w' = w := by
  by_cases h5 : ns.length ≤ 5
  · have h5' : (ns.length : Int) ≤ 5 := by omega
    have HC := Lib.hid (contF_post (nc := nc) hns (by omega))
    have H5 := Lib.hid h5
    clear hns h5
    obtain ⟨nn, hnq⟩ : ∃ nn, nn = ns.length := ⟨_, rfl⟩
    rw [← hnq] at h5' HC ⊢
    have HNQ := Lib.hid hnq
    clear hnq
    go_enter Tryz.func5, Tryz.ntmps5
    go_wp2_with fail
    refine HC.out.mono ?_
    rintro e w1 ⟨hk, rfl⟩
    rcases hk with rfl | ⟨rfl, hall⟩
    · go_wp2_with fail
      go_ret
      exact ⟨Or.inl rfl, rfl⟩
    · have HALL := Lib.hid hall
      clear hall
      go_wp2_with fail
      go_ret
      exact ⟨Or.inr ⟨rfl, by rw [HNQ.out]; exact H5.out, HALL.out⟩, rfl⟩
  · have h5' : ¬ (ns.length : Int) ≤ 5 := by omega
    clear h5 hns
    generalize ns.length = nn at *
    go_enter Tryz.func5, Tryz.ntmps5
    go_wp2_with fail
    go_ret
    exact ⟨Or.inl rfl, rfl⟩
end Go.Proofs.YtiolfelekiopdaaGreatDoor
