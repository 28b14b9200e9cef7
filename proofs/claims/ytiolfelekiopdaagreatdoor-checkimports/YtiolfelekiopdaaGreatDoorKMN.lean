import Derived.Test.YtiolfelekiopdaaGreatDoorKMM
/- keep: what others see of modules that are told: syms. -/
namespace Go.Proofs.YtiolfelekiopdaaGreatDoor
open Go.RowKit
open Tp (Bs Sy Seen)

def seenF (Sn : Seen) (n : Bs) : Seen := match Tp.parse n with
  | .ok m => fun k => if k = m.name then some (srt (Tp.symsOf m)) else Sn k
  | .error _ => Sn
def seenOf (ns : List Bs) : Seen := ns.foldl seenF (fun _ => none)
theorem seenOf_succ {ns : List Bs} {i : Nat} (h : i < ns.length) : seenOf (ns.take (i + 1)) = seenF (seenOf (ns.take i)) ns[i] := by
  unfold seenOf
  rw [List.take_succ_eq_append_getElem h, List.foldl_append]
  rfl
theorem syms_len {m : Tp.M} (hm : Tp.WM m) : (srt (Tp.symsOf m)).length ≤ 1000 := by
  rw [srt_len]
  unfold Tp.symsOf
  have h1 := List.length_filter_le (fun g : Tp.G => g.seen) m.vars
  have h2 := List.length_filter_le (fun p : Tp.Pr => p.seen) m.procs
  have := hm.gc
  have := hm.pc
  simp only [List.length_append, List.length_map]
  omega
theorem seen_put {wr w5 w6 : World} {sb c i B : Nat} {Sn Sn' : Seen} {f : Bs → Option Value} {x : Bs} {v : Value} {l : List Sy} (hS : Sn' = fun k => if k = x then some l else Sn k) (hc : c ≤ i) (hf : MapV wr sb c f) (h : ∀ k, match Sn k with
  | none => f k = none
  | some l => ∃ v, f k = some v ∧ SL wr 0 v l ∧ l.length ≤ 1000) (hb : Below wr.heap.size wr w5) (hv : SL w5 B v l) (hl : l.length ≤ 1000) (q1 : MapV w6 sb (c + 1) (updV f x v)) (q2 : Ext sb w5 w6) : ∃ c, c ≤ i + 1 ∧ SeenM w6 sb c Sn' := by
  rw [hS]
  refine ⟨c + 1, by omega, SeenM.store (hf.on (hb.block _ hf.lt)) (fun k => ?_) (l := l) ?_ hl q1 q2⟩
  · have := h k
    cases hq : Sn k with
    | none => rw [hq] at this; exact this
    | some ll => rw [hq] at this; obtain ⟨u, a, b, d⟩ := this; exact ⟨u, a, b.on hb, d⟩
  · rcases hv with q | ⟨g, cap, a, _, b⟩
    · exact Or.inl q
    · exact Or.inr ⟨g, cap, a, Nat.zero_le _, b⟩
set_option maxRecDepth 100000 in
set_option maxHeartbeats 2000000 in
theorem syms_post {w : World} {B : Nat} (hv : VarsC B w) (hB : B ≤ w.heap.size) {ns : List (List UInt8)} {na : Option Addr} {nc : Nat} (hns : StrsAt w ns na) (hn5 : ns.length ≤ 5) (hnl : ∀ n ∈ ns, n.length ≤ 900) :
    Calls Tryz.prog 8 #[.slice na ns.length nc] w fun e w' => ∃ sb, e = .returned (.map (some sb)) ∧ w.heap.size ≤ sb ∧ (∃ k, k ≤ 10 ∧ SeenM w' sb k (seenOf ns)) ∧ Below w.heap.size w w' := by
  have hmm := @run_makeMap Tryz.prog
  have hsm : SeenM (w.alloc (.map #[] 0)) w.heap.size 0 (seenOf (ns.take 0)) := ⟨_, MapV.made w, fun k => by simp [seenOf]⟩
  have hbl : ∃ es c, (w.alloc (.map #[] 0)).heap[w.heap.size]? = some (.map es c) := ⟨_, _, new_blk _ _⟩
  have hbe : Below w.heap.size w (w.alloc (.map #[] 0)) := (Below.refl _ _).alloc (Nat.le_refl _) _
  have hsz0 : (w.alloc (.map #[] 0)).heap.size = w.heap.size + 1 := by simp
  have HSM := Lib.hid hsm
  have HBE := Lib.hid hbe
  have HNS := Lib.hid hns
  have HNL := Lib.hid hnl
  have HV := Lib.hid hv
  have hn5' : (ns.length : Int) ≤ 5 := by omega
  obtain ⟨nn, hnq⟩ : ∃ nn, nn = ns.length := ⟨_, rfl⟩
  rw [← hnq] at hn5' ⊢
  have HNQ := Lib.hid hnq
  clear hsm hbe hns hnl hv hnq hbl
  go_enter Tryz.func8, Tryz.ntmps8
  go_wp2_with fail
  generalize w.alloc (.map #[] 0) = w0 at *
  clear hmm
  go_loopg [4] nn (fun k vi wr => ∃ i : Nat, i ≤ nn ∧ k = nn - i ∧ vi = .int .i64 (i : Int) ∧ Hid (∃ c, c ≤ i ∧ SeenM wr w.heap.size c (seenOf (ns.take i))) ∧ Hid (Ext w.heap.size w0 wr))
  case atStart => exact ⟨0, by omega, by omega, rfl, ⟨0, Nat.le_refl _, HSM.out⟩, Ext.refl _ _⟩
  case round =>
    obtain ⟨i, hid, hk, rfl, HTM, HE⟩ := hrel
    have hsz := HE.out.size
    have HBR : Hid (Below w.heap.size w wr) := HBE.out.trans (ext_below HE.out (Nat.le_refl _) (by omega))
    by_cases hlt : i < nn
    · have hlt' : (i : Int) < (nn : Int) := by omega
      have hia : i < ns.length := by have := HNQ.out; omega
      obtain ⟨b, o, rfl, hbl, hcell⟩ := HNS.out.c i hia
      have kc : wr.cell? ⟨b, o + i, none⟩ = some (.string (bs ns[i])) := (HBR.out.cell (p := ⟨b, o + i, none⟩) hbl).trans hcell
      have hlgr : b < wr.heap.size := by have := HBR.out.size; omega
      have hxl := HNL.out _ (List.getElem_mem hia)
      have hvr := HV.out.on' hB HBR.out
      have HPP := Lib.hid (parse_post wr ns[i] (by omega) hvr.mks hvr.lv)
      have HSO := Lib.hid (seenOf_succ hia)
      clear hcell hvr
      generalize ns[i] = x at *
      cases hpx : Tp.parse x with
      | error er =>
        have HPX := Lib.hid hpx
        have HSO2 : Hid (seenOf (ns.take (i + 1)) = seenOf (ns.take i)) := by unfold Hid; rw [HSO.out]; unfold seenF; rw [hpx]
        clear hpx
        go_wp2_with fail
        refine HPP.out.mono ?_
        rintro e w2 ⟨hb2, hq⟩
        unfold ParseP at hq
        rw [HPX.out] at hq
        obtain ⟨ab, rfl, _, _, _⟩ := hq
        unfold m0
        have HT2 : Hid (∀ ob, ∃ c, c ≤ i + 1 ∧ SeenM (w2.alloc ob) w.heap.size c (seenOf (ns.take (i + 1)))) := by
          intro ob
          obtain ⟨c, c1, c2⟩ := HTM.out
          rw [HSO2.out]
          exact ⟨c, by omega, (c2.on hb2).on ((Below.refl _ _).alloc (Nat.le_refl _) _)⟩
        have HE2 : Hid (∀ ob, Ext w.heap.size w0 (w2.alloc ob)) := fun ob => (HE.out.trans (Ext.below hb2)).trans (Ext.below ((Below.refl _ _).alloc (Nat.le_refl _) _))
        clear hb2
        go_wp2_with fail
        go_roundg (nn - (i + 1))
        case measure => omega
        case rel => exact ⟨i + 1, by omega, rfl, by go_num, HT2.out _, HE2.out _⟩
      | ok m =>
        have HPX := Lib.hid hpx
        have hwm := (Tp.parse_wm hpx).1
        have HWM := Lib.hid hwm
        have hgc := hwm.gc
        have hpc := hwm.pc
        have hnml : m.name.length ≤ 1000000 := by have := hwm.n.2.2; omega
        have HSO2 : Hid (seenOf (ns.take (i + 1)) = fun k => if k = m.name then some (srt (Tp.symsOf m)) else seenOf (ns.take i) k) := by unfold Hid; rw [HSO.out]; unfold seenF; rw [hpx]
        clear hpx hwm
        go_wp2_with fail
        refine HPP.out.mono ?_
        rintro e w2 ⟨hb2, hq⟩
        unfold ParseP at hq
        rw [HPX.out] at hq
        obtain ⟨v, rfl, hvm⟩ := hq
        obtain ⟨ia, ga, pa, ba, ic, gc, pc, bc, rfl, hmb⟩ := hvm.mb
        obtain ⟨w3, hw3⟩ : ∃ w3, w3 = w2.alloc (.cells (mcells (bs m.name) (.slice ia m.imports.length ic) (.slice ga m.vars.length gc) (.slice pa m.procs.length pc) (.slice ba m.body.length bc)) 29) := ⟨_, rfl⟩
        have hb3 : Below w2.heap.size w2 w3 := by rw [hw3]; exact (Below.refl _ _).alloc (Nat.le_refl _) _
        have hk3 : w3.heap[w2.heap.size]? = some (.cells (mcells (bs m.name) (.slice ia m.imports.length ic) (.slice ga m.vars.length gc) (.slice pa m.procs.length pc) (.slice ba m.body.length bc)) 29 (0, 0)) := by rw [hw3]; exact new_blk _ _
        have hs3 : w2.heap.size < w3.heap.size := lt_blk hk3
        have hmb3 := hmb.up hb3
        have HO3 := Lib.hid (of_post hgc hpc (hmb3.up ((Below.refl _ _).drew)))
        have HB3 : Hid (Below wr.heap.size wr w3) := hb2.trans (hb3.mono hb2.size)
        have HS3 : Hid (∀ W : World, W.heap[w2.heap.size]? = w3.heap[w2.heap.size]? → W.cell? ⟨w2.heap.size, 0, none⟩ = some (.string (bs m.name)) ∧ W.cell? ⟨w2.heap.size, 1, none⟩ = some (.slice ia m.imports.length ic) ∧ W.cell? ⟨w2.heap.size, 2, none⟩ = some (.slice ga m.vars.length gc) ∧ W.cell? ⟨w2.heap.size, 3, none⟩ = some (.slice pa m.procs.length pc) ∧ W.cell? ⟨w2.heap.size, 4, none⟩ = some (.slice ba m.body.length bc)) := fun W hW => cell_box5' (hW.trans hk3)
        have hszr : w.heap.size < w2.heap.size := by have := hb2.size; have := HBR.out.size; omega
        clear hvm hmb hmb3 hb2 hb3 hk3
        simp only [mcells] at hw3 HO3 ⊢
        go_upto_region 6 with fail
        rw [← hw3]
        clear hw3
        go_wp2_with fail
        go_region_held3 (fun W => W.cell? ⟨w2.heap.size, 0, none⟩ = some (.string (bs m.name)) ∧ W.cell? ⟨w2.heap.size, 1, none⟩ = some (.slice ia m.imports.length ic) ∧ W.cell? ⟨w2.heap.size, 2, none⟩ = some (.slice ga m.vars.length gc) ∧ W.cell? ⟨w2.heap.size, 3, none⟩ = some (.slice pa m.procs.length pc) ∧ W.cell? ⟨w2.heap.size, 4, none⟩ = some (.slice ba m.body.length bc)) (first | exact HS3.out _ rfl | exact HS3.out _ HX5.out | exact HS3.out _ HX6.out | fail "KEEP") (first | (go_at_call 28; refine HO3.out.mono ?_; rintro e w5 ⟨v5, rfl, hb5, hsl⟩; have hb5' : Below w3.heap.size w3 w5 := ((Below.refl _ _).drew).trans hb5; have HX5 : Hid (w5.heap[w2.heap.size]? = w3.heap[w2.heap.size]?) := hb5'.block _ hs3; obtain ⟨c, c1, f, c2, c3⟩ := HTM.out; have HB5 : Hid (Below wr.heap.size wr w5) := HB3.out.trans (hb5'.mono HB3.out.size); obtain ⟨w6, hup, q1, q2, q3⟩ := (c2.on (HB5.out.block _ c2.lt)).store (t := 34) Tryz.underlying34 (by omega) m.name hnml v5; have HX6 : Hid (w6.heap[w2.heap.size]? = w3.heap[w2.heap.size]?) := (q2.block _ (by have := hb5'.size; omega) (by omega)).trans HX5.out; have HSM6 : Hid (∃ c, c ≤ i + 1 ∧ SeenM w6 w.heap.size c (seenOf (ns.take (i + 1)))) := seen_put HSO2.out c1 c2 c3 HB5.out hsl (syms_len HWM.out) q1 q2; have HE6 : Hid (Ext w.heap.size w0 w6) := (HE.out.trans (Ext.below HB5.out)).trans q2; clear hb5 hb5' hsl c2 c3 q1 q2 q3))
        go_wp2_with fail
        go_roundg (nn - (i + 1))
        case measure => omega
        case rel => exact ⟨i + 1, by omega, rfl, by go_num, HSM6, HE6⟩
    · have hlt' : ¬ (i : Int) < (nn : Int) := by omega
      have hei : i = ns.length := by have := HNQ.out; omega
      have HF : Hid (∃ c, c ≤ 10 ∧ SeenM wr w.heap.size c (seenOf ns)) := by
        obtain ⟨c, c1, c2⟩ := HTM.out
        rw [hei, List.take_length] at c2
        exact ⟨c, by omega, c2⟩
      clear hei
      go_wp2_with fail
      go_ret
      exact ⟨_, rfl, Nat.le_refl _, HF.out, HBR.out⟩
end Go.Proofs.YtiolfelekiopdaaGreatDoor
/- slices.Clone at Procs, at Globals. -/
namespace Go.Proofs.YtiolfelekiopdaaGreatDoor
open Go.RowKit

theorem Tryz.eqNilP (w : World) : (binOp .eql 26 (.slice none 0 0) (.slice none 0 0)).run Tryz.prog w = .ok (.bool true) w := by kernel_rfl
theorem Tryz.eqSomeP (w : World) (a : Addr) (n c : Nat) : (binOp .eql 26 (.slice (some a) n c) (.slice none 0 0)).run Tryz.prog w = .ok (.bool false) w := by kernel_rfl
set_option maxRecDepth 100000 in
theorem cloneP {w : World} {D : Nat → Prop} {v : Value} {n : Nat} {cs : List Value} (h : Row w D 39 6 v n cs) (hl : cs.length = n * 6) (h1 : ∀ u ∈ cs, u.oneCell' = true) (hn : n ≤ 1000) :
    Calls Tryz.prog 10 #[v] w fun e w' => ∃ v', e = .returned v' ∧ Below w.heap.size w w' ∧ w'.ownsRow w.heap.size 39 6 v' n cs := by
  have hq0 := Tryz.eqNilP
  have hq1 := Tryz.eqSomeP
  obtain ⟨i0, hi, hz0, hz1, hz2⟩ := info_parts Tryz.infoProc
  rcases h with ⟨rfl, rfl, rfl⟩ | ⟨g, cap, cur, rfl, hD, hb, hcap, hmx, hsz, htk⟩
  · go_enter Tryz.func10, Tryz.ntmps10
    go_wp2_with fail
    go_ret
    exact ⟨_, rfl, Below.refl _ _, World.ownsRow_nil _ _ _ _⟩
  · have hal : Below w.heap.size w (w.alloc (.cells #[] 39)) := (Below.refl _ _).alloc (Nat.le_refl _) _
    have hown : (w.alloc (.cells #[] 39)).ownsRow w.heap.size 39 6 (.slice (some ⟨w.heap.size, 0, none⟩) 0 0) 0 [] :=
      ⟨rfl, Or.inr ⟨w.heap.size, 0, #[], rfl, Nat.le_refl _, new_blk _ _, Nat.le_refl _, by unfold maxLen; omega, rfl, rfl⟩⟩
    have hb' : (w.alloc (.cells #[] 39)).heap[g]? = some (.cells cur 39 (0, 0)) := (Below.heap_alloc _ _ _ (lt_blk hb)).trans hb
    have hnews : ∀ j u, cs[j]? = some u → (w.alloc (.cells #[] 39)).cell? ((⟨g, 0, none⟩ : Addr).add j) = some u := by
      intro j u hj
      have hjl : j < n * 6 := by rw [← hl]; exact (List.getElem?_eq_some_iff.1 hj).1
      rw [Addr.add_lit, cell_blk hb', Nat.zero_add, ← Array.getElem?_toList, ← hj, ← htk, List.getElem?_take_of_lt hjl]
    have HO := Lib.hid hown
    have HAL := Lib.hid hal
    have HNW := Lib.hid hnews
    have HL := Lib.hid hl
    have H1 := Lib.hid h1
    clear hown hal hb' hb hnews hl h1 hsz htk
    go_enter Tryz.func10, Tryz.ntmps10
    go_wp2_with (at_builtin; refine wpList_append_where _ rfl _ _ 26 rfl w.heap.size 39 i0 (.agg #[.string ⟨#[]⟩, .int .i64 0, .bool false, .slice none 0 0, .slice none 0 0, .slice none 0 0]) 6 104 Tryz.underlying26 hi hz0 hz1 hz2 rfl (by decide) _ 0 [] rfl HO.out ⟨g, 0, none⟩ n cap cs rfl HL.out HNW.out H1.out (by unfold maxLen; omega) (by omega) (by simp) ?_)
    intro v3 w3 h3 g3 _
    have HB3 : Hid (Below w.heap.size w w3) := HAL.out.trans ((Below.refl w.heap.size _).grown g3 (by simp) (fun k hk => (HO.out.lt k hk).1))
    have HO3 : Hid (w3.ownsRow w.heap.size 39 6 v3 n cs) := by unfold Hid; simpa using h3
    clear h3 g3
    go_wp2_with fail
    go_ret
    exact ⟨_, rfl, HB3.out, HO3.out⟩
theorem Tryz.eqNilG (w : World) : (binOp .eql 25 (.slice none 0 0) (.slice none 0 0)).run Tryz.prog w = .ok (.bool true) w := by kernel_rfl
theorem Tryz.eqSomeG (w : World) (a : Addr) (n c : Nat) : (binOp .eql 25 (.slice (some a) n c) (.slice none 0 0)).run Tryz.prog w = .ok (.bool false) w := by kernel_rfl
set_option maxRecDepth 100000 in
theorem cloneG {w : World} {D : Nat → Prop} {v : Value} {n : Nat} {cs : List Value} (h : Row w D 42 4 v n cs) (hl : cs.length = n * 4) (h1 : ∀ u ∈ cs, u.oneCell' = true) (hn : n ≤ 1000) :
    Calls Tryz.prog 11 #[v] w fun e w' => ∃ v', e = .returned v' ∧ Below w.heap.size w w' ∧ w'.ownsRow w.heap.size 42 4 v' n cs := by
  have hq0 := Tryz.eqNilG
  have hq1 := Tryz.eqSomeG
  obtain ⟨i0, hi, hz0, hz1, hz2⟩ := info_parts Tryz.infoGlobal
  rcases h with ⟨rfl, rfl, rfl⟩ | ⟨g, cap, cur, rfl, hD, hb, hcap, hmx, hsz, htk⟩
  · go_enter Tryz.func11, Tryz.ntmps11
    go_wp2_with fail
    go_ret
    exact ⟨_, rfl, Below.refl _ _, World.ownsRow_nil _ _ _ _⟩
  · have hal : Below w.heap.size w (w.alloc (.cells #[] 42)) := (Below.refl _ _).alloc (Nat.le_refl _) _
    have hown : (w.alloc (.cells #[] 42)).ownsRow w.heap.size 42 4 (.slice (some ⟨w.heap.size, 0, none⟩) 0 0) 0 [] :=
      ⟨rfl, Or.inr ⟨w.heap.size, 0, #[], rfl, Nat.le_refl _, new_blk _ _, Nat.le_refl _, by unfold maxLen; omega, rfl, rfl⟩⟩
    have hb' : (w.alloc (.cells #[] 42)).heap[g]? = some (.cells cur 42 (0, 0)) := (Below.heap_alloc _ _ _ (lt_blk hb)).trans hb
    have hnews : ∀ j u, cs[j]? = some u → (w.alloc (.cells #[] 42)).cell? ((⟨g, 0, none⟩ : Addr).add j) = some u := by
      intro j u hj
      have hjl : j < n * 4 := by rw [← hl]; exact (List.getElem?_eq_some_iff.1 hj).1
      rw [Addr.add_lit, cell_blk hb', Nat.zero_add, ← Array.getElem?_toList, ← hj, ← htk, List.getElem?_take_of_lt hjl]
    have HO := Lib.hid hown
    have HAL := Lib.hid hal
    have HNW := Lib.hid hnews
    have HL := Lib.hid hl
    have H1 := Lib.hid h1
    clear hown hal hb' hb hnews hl h1 hsz htk
    go_enter Tryz.func11, Tryz.ntmps11
    go_wp2_with (at_builtin; refine wpList_append_where _ rfl _ _ 25 rfl w.heap.size 42 i0 (.agg #[.string ⟨#[]⟩, .int .i64 0, .int .i64 0, .bool false]) 4 40 Tryz.underlying25 hi hz0 hz1 hz2 rfl (by decide) _ 0 [] rfl HO.out ⟨g, 0, none⟩ n cap cs rfl HL.out HNW.out H1.out (by unfold maxLen; omega) (by omega) (by simp) ?_)
    intro v3 w3 h3 g3 _
    have HB3 : Hid (Below w.heap.size w w3) := HAL.out.trans ((Below.refl w.heap.size _).grown g3 (by simp) (fun k hk => (HO.out.lt k hk).1))
    have HO3 : Hid (w3.ownsRow w.heap.size 42 4 v3 n cs) := by unfold Hid; simpa using h3
    clear h3 g3
    go_wp2_with fail
    go_ret
    exact ⟨_, rfl, HB3.out, HO3.out⟩
end Go.Proofs.YtiolfelekiopdaaGreatDoor
