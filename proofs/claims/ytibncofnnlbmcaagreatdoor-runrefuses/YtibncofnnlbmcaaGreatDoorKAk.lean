import Derived.Test.YtibncofnnlbmcaaGreatDoorKAj
import Derived.Deep.Fields
import Derived.Deep.Slices
import Derived.Deep.Strs
/- Acts that are handed in, as they lie in memory; held. -/
namespace Go.Proofs.YtibncofnnlbmcaaGreatDoor
open Go.RowKit
open Tp (Bs)
open Go.Deep

structure ActAt (w : World) (l : List Ac) (a : Option Addr) : Prop where
  c : ∀ i (h : i < l.length), ∃ b o aa ac, a = some ⟨b, o, none⟩ ∧ (∀ j, j < 5 → w.cell? ⟨b, o + (i * 5 + j), none⟩ = (acells l[i] aa ac)[j]?) ∧ IntsAt w l[i].args aa ∧ ∀ v ∈ l[i].args, Tp.I64 v
theorem ActAt.on {w w' : World} {l : List Ac} {a : Option Addr} (h : ActAt w l a) (k : Below w.heap.size w w') : ActAt w' l a := by
  refine ⟨fun i hi => ?_⟩
  obtain ⟨b, o, aa, ac, h1, h2, h3, h4⟩ := h.c i hi
  have hl : b < w.heap.size := lt_of_cell (h2 0 (by omega))
  exact ⟨b, o, aa, ac, h1, fun j hj => (k.cell (p := ⟨b, o + (i * 5 + j), none⟩) hl).trans (h2 j hj), h3.on k, h4⟩
section
variable {H : Type} {enc : TypeId × Value → H} {P : Program} {w : World} {base : Nat} {spare : Nat → Bool} {held : Bool}
theorem each_list {α : Type} {P : Nat → α → Prop} : ∀ (n : Nat), (∀ i, i < n → ∃ x, P i x) → ∃ l : List α, l.length = n ∧ ∀ i (h : i < l.length), P i l[i] := by
  intro n
  induction n with
  | zero => intro _; exact ⟨[], rfl, fun i h => by simp at h⟩
  | succ n ih =>
    intro h
    obtain ⟨l, h1, h2⟩ := ih (fun i hi => h i (by omega))
    obtain ⟨x, hx⟩ := h n (by omega)
    refine ⟨l ++ [x], by simp [h1], fun i hi => ?_⟩
    by_cases hil : i < l.length
    · rw [List.getElem_append_left hil]; exact h2 i hil
    · have : i = l.length := by simp at hi; omega
      subst this
      rw [List.getElem_append_right (by omega)]
      simp only [Nat.sub_self, List.getElem_cons_zero]
      rw [h1]; exact hx
/- a slice of structs, each field one cell -/
theorem open_rows {t e : TypeId} {fs : Array Field} {fuel : Nat} {cs : List Value} {x : DataW H × List MemPlace} (ht : P.underlying t = some (.slice e)) (he : P.underlying e = some (.struct fs))
    (hone : ∀ (i : Nat) (f : Field), fs[i]? = some f → f.offset = i ∧ P.cellsOf f.type = 1) (hC : P.cellsOf e = fs.size) (hpos : 0 < fs.size) (h : DataW.trod enc P w base spare held fuel t cs = some x) :
    ∃ (a : Option Addr) (len cap : Nat), cs = [.slice a len cap] ∧ ∀ i, i < len → ∃ (b o n : Nat) (V : Nat → Value), a = some ⟨b, o, none⟩ ∧
      ∀ (j : Nat) (f : Field), fs[j]? = some f → w.cell? ⟨b, o + (i * fs.size + j), none⟩ = some (V j) ∧ ∃ y, DataW.trod enc P w base spare held n f.type [V j] = some y := by
  rcases open_slice ht h with ⟨rfl, _⟩ | ⟨a, len, cap, m, n, D, Pl, rfl, hb, hlc, hcm, hm, _, hall⟩
  · exact ⟨none, 0, 0, rfl, fun i hi => by omega⟩
  · refine ⟨some a, len, cap, rfl, fun i hi => ?_⟩
    have him : i < m := by rw [hm]; split <;> omega
    have hspot : a.spot = none := by
      obtain ⟨cs0, g1, g2⟩ := hall 0 (by omega)
      obtain ⟨_, hlen0, hcell0⟩ := World.cells?_some g1
      rw [hC] at hlen0 hcell0
      have h0 := hcell0 0 hpos
      rw [List.getElem?_eq_getElem (by omega)] at h0
      simpa [Addr.add] using World.cell?_spot h0
    obtain ⟨cs', h1, h2⟩ := hall i him
    obtain ⟨_, hlen, hcell⟩ := World.cells?_some h1
    rw [hC] at hlen hcell
    obtain ⟨xs, n', _, _, _, hxl, hf⟩ := DataW.trod_struct he h2
    obtain ⟨b, o, spot⟩ := a
    simp only at hspot
    subst hspot
    refine ⟨b, o, n', fun j => cs'.getD j undef, rfl, fun j f hj => ?_⟩
    have hjl : j < fs.size := (Array.getElem?_eq_some_iff.1 hj).1
    obtain ⟨ho, hone1⟩ := hone j f hj
    have hcj := hcell j hjl
    rw [List.getElem?_eq_getElem (by omega)] at hcj
    have hV : cs'.getD j undef = cs'[j]'(by omega) := by simp [List.getD, List.getElem?_eq_getElem (show j < cs'.length by omega)]
    have hfj := hf j f hj
    rw [ho, hone1] at hfj
    have hdt : (cs'.drop j).take 1 = [cs'[j]'(by omega)] := by
      rw [List.drop_eq_getElem_cons (by omega)]; rfl
    rw [hdt, List.getElem?_eq_getElem (by omega)] at hfj
    refine ⟨?_, _, by simp only [hV]; exact hfj⟩
    simp only [hV]
    rw [← hcj, Addr.add_lit, Addr.add_lit, Nat.add_assoc]
theorem bs_data (s : ByteArray) : bs s.data.toList = s := by simp [bs]
theorem open_str {t : TypeId} {fuel : Nat} {v : Value} {x : DataW H × List MemPlace} (ht : P.underlying t = some .string) (h : DataW.trod enc P w base spare held fuel t [v] = some x) : ∃ s : Bs, v = .string (bs s) := by
  obtain ⟨s, h1, _⟩ := DataW.trod_string ht h
  simp at h1
  exact ⟨s.data.toList, by rw [h1, bs_data]⟩
theorem open_i64 {t : TypeId} {fuel : Nat} {v : Value} {x : DataW H × List MemPlace} (ht : P.underlying t = some (.int .i64)) (h : DataW.trod enc P w base spare held fuel t [v] = some x) : ∃ n : Int, v = .int .i64 n ∧ Tp.I64 n := by
  obtain ⟨n, h1, _, h3⟩ := DataW.trod_int ht h
  simp at h1
  refine ⟨n, h1, ?_⟩
  simp only [Lit.wf, IntKind.min, IntKind.max, IntKind.signed, IntKind.bits, Bool.and_eq_true, decide_eq_true_eq, if_true] at h3
  unfold Tp.I64
  omega
theorem open_nums {t e : TypeId} {fuel : Nat} {v : Value} {x : DataW H × List MemPlace} (ht : P.underlying t = some (.slice e)) (he : P.underlying e = some (.int .i64)) (hc : P.cellsOf e = 1) (h : DataW.trod enc P w base spare held fuel t [v] = some x) :
    ∃ (xs : List Int) (a : Option Addr) (cap : Nat), v = .slice a xs.length cap ∧ IntsAt w xs a ∧ ∀ n ∈ xs, Tp.I64 n := by
  rcases open_slice ht h with ⟨h1, _⟩ | ⟨a, len, cap, m, n, D, Pl, h1, hb, hlc, hcm, hm, _, hall⟩
  · simp at h1
    exact ⟨[], none, 0, h1, ⟨fun i hi => by simp at hi⟩, fun n hn => by cases hn⟩
  · simp at h1
    have key : ∀ i, i < len → ∃ k : Int, (∃ b o, a = ⟨b, o, none⟩ ∧ w.cell? ⟨b, o + i, none⟩ = some (.int .i64 k)) ∧ Tp.I64 k := by
      intro i hi
      have him : i < m := by rw [hm]; split <;> omega
      obtain ⟨cs', g1, g2⟩ := hall i him
      obtain ⟨_, hlen, hcell⟩ := World.cells?_some g1
      rw [hc] at hlen hcell
      have h0 := hcell 0 (by omega)
      obtain ⟨v0, hv0⟩ : ∃ v0, cs' = [v0] := by
        match cs', hlen with
        | [v0], _ => exact ⟨v0, rfl⟩
      subst hv0
      obtain ⟨k, hk, hi64⟩ := open_i64 he g2
      subst hk
      have hspot : a.spot = none := by
        obtain ⟨cs0, z1, _⟩ := hall 0 (by omega)
        obtain ⟨_, zl, zc⟩ := World.cells?_some z1
        rw [hc] at zl zc
        have z0 := zc 0 (by omega)
        rw [List.getElem?_eq_getElem (by omega)] at z0
        simpa [Addr.add] using World.cell?_spot z0
      obtain ⟨b, o, spot⟩ := a
      simp only at hspot
      subst hspot
      refine ⟨k, ⟨b, o, rfl, ?_⟩, hi64⟩
      rw [Addr.add_lit, Addr.add_lit, Nat.mul_one] at h0
      simpa using h0
    obtain ⟨l, hl, hp⟩ := each_list len key
    refine ⟨l, some a, cap, by rw [h1, hl], ⟨fun i hi => ?_⟩, fun k hk => ?_⟩
    · obtain ⟨⟨b, o, e1, e2⟩, _⟩ := hp i hi
      exact ⟨b, o, by rw [e1], lt_of_cell e2, e2⟩
    · obtain ⟨i, hi, rfl⟩ := List.getElem_of_mem hk
      exact (hp i hi).2
end
theorem acts_at {H : Type} {enc : TypeId × Value → H} {W : World} {a : Option Addr} {n c : Nat} {d : DataW H} {p : List MemPlace} (h : DataW.Trod enc Tryz.prog W 0 (fun _ => true) true 22 (.slice a n c) d p) : ∃ l : List Ac, l.length = n ∧ ActAt W l a := by
  obtain ⟨fuel, hf⟩ := h
  obtain ⟨a', len, cap, hcs, hr⟩ := open_rows Tryz.underlying22 Tryz.underlying31 (hone_of (by kernel_rfl)) (by kernel_rfl) (by decide) hf
  simp [Value.cells] at hcs
  obtain ⟨rfl, rfl, rfl⟩ := hcs
  obtain ⟨l, hl, hp⟩ := each_list (P := fun i (x : Ac) => ∃ b o aa ac, a = some ⟨b, o, none⟩ ∧ (∀ j, j < 5 → W.cell? ⟨b, o + (i * 5 + j), none⟩ = (acells x aa ac)[j]?) ∧ IntsAt W x.args aa ∧ ∀ v ∈ x.args, Tp.I64 v) n (fun i hi => by
    obtain ⟨b, o, k, V, e, hf⟩ := hr i hi
    obtain ⟨c0, y0, t0⟩ := hf 0 _ rfl
    obtain ⟨c1, y1, t1⟩ := hf 1 _ rfl
    obtain ⟨c2, y2, t2⟩ := hf 2 _ rfl
    obtain ⟨c3, y3, t3⟩ := hf 3 _ rfl
    obtain ⟨c4, y4, t4⟩ := hf 4 _ rfl
    obtain ⟨wh, e0, _⟩ := open_i64 Tryz.underlying3 t0
    obtain ⟨tx, e1⟩ := open_str Tryz.underlying9 t1
    obtain ⟨nm, e2⟩ := open_str Tryz.underlying9 t2
    obtain ⟨pr, e3⟩ := open_str Tryz.underlying9 t3
    obtain ⟨xs, aa, ac, e4, hi4, h64⟩ := open_nums Tryz.underlying29 Tryz.underlying2 (by kernel_rfl) t4
    refine ⟨⟨wh, tx, nm, pr, xs⟩, b, o, aa, ac, e, fun j hj => ?_, hi4, h64⟩
    match j, hj with
    | 0, _ => exact c0.trans (by rw [e0]; rfl)
    | 1, _ => exact c1.trans (by rw [e1]; rfl)
    | 2, _ => exact c2.trans (by rw [e2]; rfl)
    | 3, _ => exact c3.trans (by rw [e3]; rfl)
    | 4, _ => exact c4.trans (by rw [e4]; rfl))
  exact ⟨l, hl, ⟨fun i hi => hp i hi⟩⟩
end Go.Proofs.YtibncofnnlbmcaaGreatDoor
/- slices.ContainsFunc at acts; held. -/
namespace Go.Proofs.YtibncofnnlbmcaaGreatDoor
open Go.RowKit
open Tp (Bs)

set_option maxRecDepth 100000 in
set_option maxHeartbeats 1000000 in
theorem indexA0 {w : World} {a : Option Addr} {cap : Nat} {l : List Ac} {p : Ac → Bool} {fn : FuncId} (hS : ActAt w l a) (hn : l.length ≤ 1000000) (hcf : ∀ (args : Array Value) (w : World), (callFunc fn args).run Tryz.prog w = .ok (.enter fn args) w)
    (hd : ∀ W (x : Ac) aa ac, x ∈ l → Below w.heap.size w W → IntsAt W x.args aa → Calls Tryz.prog fn #[.agg (acells x aa ac)] W fun e w' => e = .returned (.bool (p x)) ∧ Below W.heap.size W w') :
    Calls Tryz.prog 35 #[.slice a l.length cap, .func (.func fn) #[] #[]] w fun e w' => (∃ k : Int, e = .returned (.int .i64 k) ∧ (decide (0 ≤ k) = l.any p)) ∧ Below w.heap.size w w' := by
  have hn' : (l.length : Int) ≤ 1000000 := by omega
  have HSL := Lib.hid hS
  have HD := Lib.hid hd
  clear hS hd
  go_enter Tryz.func35, Tryz.ntmps35
  go_wp2_with fail
  go_loopg [8] l.length (fun k vi wr => ∃ i : Nat, i ≤ l.length ∧ k = l.length - i ∧ vi = .int .i64 (i : Int) ∧ Hid ((l.take i).any p = false) ∧ Hid (Below w.heap.size w wr))
  case atStart => exact ⟨0, by omega, by omega, rfl, rfl, Below.refl _ _⟩
  case round =>
    obtain ⟨i, hid, hk, rfl, HI, HW⟩ := hrel
    by_cases hlt : i < l.length
    · have hlt' : (i : Int) < (l.length : Int) := by omega
      obtain ⟨g, go, aa, ac, rfl, hc0, hia, _⟩ := (HSL.out.on HW.out).c i hlt
      have e0 : wr.cell? ⟨g, go + i * 5, none⟩ = some (.int .i64 l[i].what) := hc0 0 (by omega)
      have e1 : wr.cell? ⟨g, go + i * 5 + 1, none⟩ = some (.string (bs l[i].text)) := by rw [Nat.add_assoc]; exact hc0 1 (by omega)
      have e2 : wr.cell? ⟨g, go + i * 5 + 2, none⟩ = some (.string (bs l[i].name)) := by rw [Nat.add_assoc]; exact hc0 2 (by omega)
      have e3 : wr.cell? ⟨g, go + i * 5 + 3, none⟩ = some (.string (bs l[i].proc)) := by rw [Nat.add_assoc]; exact hc0 3 (by omega)
      have e4 : wr.cell? ⟨g, go + i * 5 + 4, none⟩ = some (.slice aa l[i].args.length ac) := by rw [Nat.add_assoc]; exact hc0 4 (by omega)
      have hbl' : g < wr.heap.size := lt_of_cell e0
      have HF := Lib.hid (HD.out wr l[i] aa ac (List.getElem_mem hlt) HW.out hia)
      unfold acells at HF
      have HNX : Hid ((l.take (i + 1)).any p = p l[i]) := by
        show _ = _
        rw [List.take_succ_eq_append_getElem hlt, List.any_append, HI.out]; simp
      have HAN : Hid (p l[i] = true → l.any p = true) := fun e => List.any_eq_true.2 ⟨_, List.getElem_mem hlt, e⟩
      clear hc0 hia
      generalize p l[i] = d at *
      generalize l[i].what = x0 at *
      generalize bs l[i].text = x1 at *
      generalize bs l[i].name = x2 at *
      generalize bs l[i].proc = x3 at *
      generalize l[i].args.length = x4 at *
      clear HI
      go_wp2_with fail
      refine HF.out.mono ?_
      rintro e w3 ⟨rfl, h3⟩
      have HW3 := Lib.hid (HW.out.trans (h3.mono HW.out.size))
      clear h3
      cases d with
      | true =>
        have HE := Lib.hid (HAN.out rfl)
        go_wp2_with fail
        go_ret
        refine ⟨⟨_, rfl, ?_⟩, HW3.out⟩
        rw [HE.out]
        exact decide_eq_true (by omega)
      | false =>
        go_wp2_with fail
        go_roundg (l.length - (i + 1))
        case measure => omega
        case rel => exact ⟨i + 1, by omega, rfl, by go_num, HNX, HW3⟩
    · have hlt' : ¬ (i : Int) < (l.length : Int) := by omega
      have HE : Hid (l.any p = false) := by
        have := HI.out
        rw [List.take_of_length_le (by omega)] at this
        exact this
      go_wp2_with fail
      go_ret
      refine ⟨⟨_, rfl, ?_⟩, HW.out⟩
      rw [HE.out]
      rfl
set_option maxRecDepth 100000 in
set_option maxHeartbeats 1000000 in
theorem containsA0 {w : World} {a : Option Addr} {cap : Nat} {l : List Ac} {p : Ac → Bool} {fn : FuncId} (hS : ActAt w l a) (hn : l.length ≤ 1000000) (hcf : ∀ (args : Array Value) (w : World), (callFunc fn args).run Tryz.prog w = .ok (.enter fn args) w)
    (hd : ∀ W (x : Ac) aa ac, x ∈ l → Below w.heap.size w W → IntsAt W x.args aa → Calls Tryz.prog fn #[.agg (acells x aa ac)] W fun e w' => e = .returned (.bool (p x)) ∧ Below W.heap.size W w') :
    Calls Tryz.prog 14 #[.slice a l.length cap, .func (.func fn) #[] #[]] w fun e w' => e = .returned (.bool (l.any p)) ∧ Below w.heap.size w w' := by
  have HC := Lib.hid (indexA0 (cap := cap) hS hn hcf hd)
  clear hS hd hcf
  go_enter Tryz.func14, Tryz.ntmps14
  go_wp2_with fail
  refine HC.out.mono ?_
  rintro e w1 ⟨⟨k, rfl, hk⟩, hb⟩
  have HK := Lib.hid hk
  clear hk
  go_wp2_with fail
  go_ret
  exact ⟨by rw [← HK.out]; rfl, hb⟩
def longA (x : Ac) : Bool := decide (1000 < x.text.length) || (decide (40 < x.name.length) || (decide (40 < x.proc.length) || decide (10 < x.args.length)))
theorem held_cf (args : Array Value) (w : World) : (callFunc 26 args).run Tryz.prog w = .ok (.enter 26 args) w := by kernel_rfl
set_option maxRecDepth 100000 in
set_option maxHeartbeats 2000000 in
theorem held1_post (w : World) (x : Ac) (aa : Option Addr) (ac : Nat) : Calls Tryz.prog 26 #[.agg (acells x aa ac)] w fun e w' => e = .returned (.bool (longA x)) ∧ Below w.heap.size w w' := by
  obtain ⟨w2, hw2⟩ : ∃ w2, w2 = w.alloc (.cells (acells x aa ac) 31) := ⟨_, rfl⟩
  have hb2 : Below w.heap.size w w2 := by rw [hw2]; exact (Below.refl _ _).alloc (Nat.le_refl _) _
  have q0 : w2.heap[w.heap.size]? = some (.cells (acells x aa ac) 31 (0, 0)) := by rw [hw2]; exact new_blk _ _
  unfold acells at *
  have a1 : w2.cell? ⟨w.heap.size, 1, none⟩ = some (.string (bs x.text)) := (cell_blk q0).trans rfl
  have a2 : w2.cell? ⟨w.heap.size, 2, none⟩ = some (.string (bs x.name)) := (cell_blk q0).trans rfl
  have a3 : w2.cell? ⟨w.heap.size, 3, none⟩ = some (.string (bs x.proc)) := (cell_blk q0).trans rfl
  have a4 : w2.cell? ⟨w.heap.size, 4, none⟩ = some (.slice aa x.args.length ac) := (cell_blk q0).trans rfl
  have hl := lt_blk q0
  have HB2 := Lib.hid hb2
  have hs1 : ((bs x.text).size : Int) = (x.text.length : Int) := by rw [bs_size]
  have hs2 : ((bs x.name).size : Int) = (x.name.length : Int) := by rw [bs_size]
  have hs3 : ((bs x.proc).size : Int) = (x.proc.length : Int) := by rw [bs_size]
  unfold longA
  clear q0 hb2
  by_cases h1 : 1000 < x.text.length
  · have h1' : (x.text.length : Int) > 1000 := by omega
    rw [decide_eq_true h1, Bool.true_or]
    clear h1
    go_enter Tryz.func26, Tryz.ntmps26
    go_upto_region 1 with fail
    rw [← hw2]
    clear hw2
    go_wp2_with fail
    go_ret
    exact ⟨rfl, HB2.out⟩
  have h1' : ¬ (x.text.length : Int) > 1000 := by omega
  rw [decide_eq_false h1, Bool.false_or]
  clear h1
  by_cases h2 : 40 < x.name.length
  · have h2' : (x.name.length : Int) > 40 := by omega
    rw [decide_eq_true h2, Bool.true_or]
    clear h2
    go_enter Tryz.func26, Tryz.ntmps26
    go_upto_region 1 with fail
    rw [← hw2]
    clear hw2
    go_wp2_with fail
    go_ret
    exact ⟨rfl, HB2.out⟩
  have h2' : ¬ (x.name.length : Int) > 40 := by omega
  rw [decide_eq_false h2, Bool.false_or]
  clear h2
  by_cases h3 : 40 < x.proc.length
  · have h3' : (x.proc.length : Int) > 40 := by omega
    rw [decide_eq_true h3, Bool.true_or]
    clear h3
    go_enter Tryz.func26, Tryz.ntmps26
    go_upto_region 1 with fail
    rw [← hw2]
    clear hw2
    go_wp2_with fail
    go_ret
    exact ⟨rfl, HB2.out⟩
  have h3' : ¬ (x.proc.length : Int) > 40 := by omega
  rw [decide_eq_false h3, Bool.false_or]
  clear h3
  by_cases h4 : 10 < x.args.length
  · have h4' : (x.args.length : Int) > 10 := by omega
    rw [decide_eq_true h4]
    clear h4
    go_enter Tryz.func26, Tryz.ntmps26
    go_upto_region 1 with fail
    rw [← hw2]
    clear hw2
    go_wp2_with fail
    go_ret
    exact ⟨rfl, HB2.out⟩
  · have h4' : ¬ (x.args.length : Int) > 10 := by omega
    rw [decide_eq_false h4]
    clear h4
    go_enter Tryz.func26, Tryz.ntmps26
    go_upto_region 1 with fail
    rw [← hw2]
    clear hw2
    go_wp2_with fail
    go_ret
    exact ⟨rfl, HB2.out⟩
structure HeldA (l : List Ac) : Prop where
  n : l.length ≤ 12
  x : ∀ x ∈ l, x.text.length ≤ 1000 ∧ x.name.length ≤ 40 ∧ x.proc.length ≤ 40 ∧ x.args.length ≤ 10
def HeldP (l : List Ac) (w : World) (e : Ending) (w' : World) : Prop := (∃ b, e = .returned (.bool b) ∧ (b = true → HeldA l)) ∧ Below w.heap.size w w'
set_option maxRecDepth 100000 in
set_option maxHeartbeats 1000000 in
theorem held_post {w : World} {l : List Ac} {a : Option Addr} {cap : Nat} (hS : ActAt w l a) : Calls Tryz.prog 7 #[.slice a l.length cap] w (HeldP l w) := by
  by_cases h12 : l.length ≤ 12
  · have h12' : (l.length : Int) ≤ 12 := by omega
    have HC := Lib.hid (containsA0 (cap := cap) hS (by omega) held_cf (fun W x aa ac _ _ _ => held1_post W x aa ac))
    have HX : Hid ((!(l.any longA)) = true → HeldA l) := fun e => by
      have e' : l.any longA = false := by simpa using e
      rw [List.any_eq_false] at e'
      refine ⟨h12, fun x hx => ?_⟩
      have := e' x hx
      unfold longA at this
      simp only [Bool.or_eq_true, decide_eq_true_eq, not_or, Nat.not_lt] at this
      exact this
    clear hS h12
    generalize l.any longA = r at *
    obtain ⟨ln, hln⟩ : ∃ ln, ln = l.length := ⟨_, rfl⟩
    rw [← hln] at h12' HC ⊢
    clear hln
    go_enter Tryz.func7, Tryz.ntmps7
    go_wp2_with fail
    refine HC.out.mono ?_
    rintro e w1 ⟨rfl, hb⟩
    have HB := Lib.hid hb
    clear hb
    go_wp2_with fail
    go_ret
    refine ⟨⟨!r, ?_, HX.out⟩, HB.out⟩
    first | rfl | simp
  · have h12' : ¬ (l.length : Int) ≤ 12 := by omega
    clear hS
    go_enter Tryz.func7, Tryz.ntmps7
    go_wp2_with fail
    go_ret
    exact ⟨⟨false, rfl, fun e => by cases e⟩, Below.refl _ _⟩
end Go.Proofs.YtibncofnnlbmcaaGreatDoor
/- RunRefuses: what is refused was never. -/
namespace Go.Proofs.YtibncofnnlbmcaaGreatDoor
open Go.RowKit Go.Maps
open Tp (Bs X S G Pr Pt Rs Rr Own)

theorem act_refused {P : List Pt} {a : Ac} {fuel : Nat} {r : Tp.Ans} (h : ActIs P a fuel r) (he : r.err ≠ none) : r.w = P ∧ r.e = Tp.no ∧ r.n = 0 := by
  unfold ActIs at h
  split at h
  · subst h; exact Tp.call_refused he
  · split at h
    · subst h; exact ⟨rfl, rfl, rfl⟩
    · split at h
      · subst h; exact Tp.swap_refused he
      · subst h; exact Tp.load_refused he
set_option maxRecDepth 100000 in
set_option maxHeartbeats 4000000 in
theorem refuses_post {w : World} (hv : VarsC w.heap.size w) {l : List Ac} {a : Option Addr} {cap : Nat} (hS : ActAt w l a) :
    Calls Tryz.prog 6 #[.slice a l.length cap] w fun e w' => e = .returned (.bool true) ∧ Below w.heap.size w w' := by
  have HV := Lib.hid hv
  have HS := Lib.hid hS
  have HH := Lib.hid (held_post (cap := cap) hS)
  clear hv hS
  obtain ⟨ln, hln⟩ : ∃ ln, ln = l.length := ⟨_, rfl⟩
  rw [← hln] at HH ⊢
  have HLN := Lib.hid hln
  clear hln
  go_enter Tryz.func6, Tryz.ntmps6
  go_wp2_with fail
  refine HH.out.mono ?_
  rintro e w1 ⟨⟨bb, rfl, hbb⟩, hb1⟩
  have HB1 := Lib.hid hb1
  cases bb with
  | false =>
    clear hbb hb1
    go_wp2_with fail
    go_ret
    exact ⟨rfl, HB1.out⟩
  | true =>
    have HHE := Lib.hid (hbb rfl)
    have hv1 := HV.out.on hb1
    have HR := Lib.hid (ran_post hv1.mks hv1.lv)
    clear hbb hb1 hv1 HH
    go_wp2_with fail
    refine HR.out.mono ?_
    rintro e w2 ⟨rfl, hb2⟩
    have HB2 : Hid (Below w.heap.size w w2) := HB1.out.trans (hb2.mono HB1.out.size)
    obtain ⟨w3, hw3⟩ : ∃ w3, w3 = w2.alloc (.cells #[.slice none 0 0, .map none] 28) := ⟨_, rfl⟩
    have hb3 : Below w2.heap.size w2 w3 := by rw [hw3]; exact (Below.refl _ _).alloc (Nat.le_refl _) _
    have hk3 : w3.heap[w2.heap.size]? = some (.cells #[.slice none 0 0, .map none] 28 (0, 0)) := by rw [hw3]; exact new_blk _ _
    have HZ3 : Hid (WZ (fun _ => False) (fun b => b = w2.heap.size) 0 w3 w2.heap.size []) := WZ.zero hk3 (fun q => q)
    have HB3 : Hid (Below w.heap.size w w3) := HB2.out.trans (hb3.mono HB2.out.size)
    have hw2l : w.heap.size ≤ w2.heap.size := HB2.out.size
    have h3l := lt_blk hk3
    have hl12 : ln ≤ 12 := by have := HHE.out.n; have := HLN.out; omega
    have hl12' : (ln : Int) ≤ 12 := by omega
    obtain ⟨wb, hwb⟩ : ∃ wb, wb = w2.heap.size := ⟨_, rfl⟩
    rw [← hwb] at HZ3 hw2l h3l
    clear hb2 hb3 hk3 HR HB1 HB2
    go_wp2_with fail
    rw [← hw3, ← hwb]
    clear hw3 hwb
    go_loopg [4] ln (fun k vi wr => ∃ (i : Nat) (U : Nat → Prop) (P : List Pt), i ≤ ln ∧ k = ln - i ∧ vi = .int .i64 (i : Int) ∧ Hid (WZ (fun _ => False) U i wr wb P) ∧ Hid (Tr (fun b => b = wb) U w3 wr))
    case atStart => exact ⟨0, _, [], by omega, by omega, rfl, HZ3, Tr.below (Below.refl _ _)⟩
    case round =>
      obtain ⟨i, U, P, hid, hk, rfl, HZ, HT⟩ := hrel
      have HBr : Hid (Below w.heap.size w wr) := HB3.out.trans (HT.out.toBelow (by have := HB3.out.size; omega) (fun b e => by rw [e]; exact hw2l))
      by_cases hlt : i < ln
      · have hlt' : (i : Int) < (ln : Int) := by omega
        have hi0 : ¬ (i : Int) < 0 := by omega
        have hin : i < l.length := by have := HLN.out; omega
        have HALL := Lib.hid HZ.out.all
        have hwlr : wb < wr.heap.size := (HZ.out.lt HZ.out.wb).1
        have HUB : Hid (∀ b, U b → w.heap.size ≤ b) := fun b q => by
          rcases HT.out.more b q with z | z
          · rw [z]; exact hw2l
          · have := HB3.out.size; omega
        obtain ⟨s0, hs0⟩ : ∃ s0, s0 = allB P := ⟨_, rfl⟩
        rw [← hs0] at HALL
        have HS0 := Lib.hid hs0
        clear hs0
        go_wp2_with fail
        refine HALL.out.mono ?_
        rintro e w4 ⟨rfl, hb4⟩
        have HB4 : Hid (Below w.heap.size w w4) := HBr.out.trans (hb4.mono HBr.out.size)
        have HZ4 := Lib.hid (HZ.out.on hb4)
        obtain ⟨g, go, aa, ac, hga, hc0, hia, h64⟩ := (HS.out.on HB4.out).c i hin
        subst hga
        have e0 : w4.cell? ⟨g, go + i * 5, none⟩ = some (.int .i64 l[i].what) := hc0 0 (by omega)
        have e1 : w4.cell? ⟨g, go + i * 5 + 1, none⟩ = some (.string (bs l[i].text)) := by rw [Nat.add_assoc]; exact hc0 1 (by omega)
        have e2 : w4.cell? ⟨g, go + i * 5 + 2, none⟩ = some (.string (bs l[i].name)) := by rw [Nat.add_assoc]; exact hc0 2 (by omega)
        have e3 : w4.cell? ⟨g, go + i * 5 + 3, none⟩ = some (.string (bs l[i].proc)) := by rw [Nat.add_assoc]; exact hc0 3 (by omega)
        have e4 : w4.cell? ⟨g, go + i * 5 + 4, none⟩ = some (.slice aa l[i].args.length ac) := by rw [Nat.add_assoc]; exact hc0 4 (by omega)
        have hgl : g < w4.heap.size := lt_of_cell e0
        obtain ⟨x1, x2, x3, x4⟩ := HHE.out.x _ (List.getElem_mem hin)
        have HA := Lib.hid (act_post (fuel := 300) (ac := ac) (HV.out.on HB4.out) HB4.out.size HUB.out (fun b q => q.elim) HZ4.out (by omega) (by omega) x1 (by omega) h64 hia (by omega))
        have HT4 : Hid (Tr (fun b => b = wb) U w3 w4) := HT.out.then hb4
        have hwl4 : wb < w4.heap.size := (HZ4.out.lt HZ4.out.wb).1
        unfold acells at HA
        generalize l[i] = x at *
        clear hb4 hc0 hia h64 HALL HZ HBr
        go_wp2_with fail
        refine HA.out.mono ?_
        rintro e w5 ⟨r, hr, oa, oc, rfl, hans⟩
        obtain ⟨U', hz5, ht5⟩ := hans.wz
        obtain ⟨on, hon⟩ : ∃ on, on = r.e.out.length := ⟨_, rfl⟩
        obtain ⟨w6, hw6⟩ : ∃ w6, w6 = w5.alloc (.cells #[.int .i64 (r.e.way : Int), .slice oa on oc] 43) := ⟨_, rfl⟩
        have hb6 : Below w5.heap.size w5 w6 := by rw [hw6]; exact (Below.refl _ _).alloc (Nat.le_refl _) _
        have hk6 : w6.heap[w5.heap.size]? = some (.cells #[.int .i64 (r.e.way : Int), .slice oa on oc] 43 (0, 0)) := by rw [hw6]; exact new_blk _ _
        have HZ6 : Hid (WZ (fun _ => False) U' (i + 1) w6 wb r.w) := hz5.on hb6
        have HT6 : Hid (Tr (fun b => b = wb) U' w3 w6) := (HT4.out.trans ht5).then hb6
        have hl6 := lt_blk hk6
        have hwl6 : wb < w6.heap.size := (HZ6.out.lt HZ6.out.wb).1
        have HRF : Hid (tellN r.err ≠ 0 → r.w = P ∧ r.e = Tp.no ∧ r.n = 0) := fun e => act_refused hr (fun q => e (by rw [q]; rfl))
        have HON := Lib.hid hon
        have HK6 := Lib.hid hk6
        rw [← hon]
        clear hz5 ht5 hb6 hk6 hans hr HA HT4 HZ4 hon
        generalize htl : tellN r.err = tl at *
        clear htl
        by_cases h0 : tl = 0
        · subst h0
          have hz : ((0 : Nat) : Int) = 0 := rfl
          rw [hz]
          go_upto_region 11 with fail
          rw [← hw6]
          clear hw6
          go_wp2_with fail
          go_roundg (ln - (i + 1))
          case measure => omega
          case rel => exact ⟨i + 1, U', r.w, by omega, rfl, by go_num, HZ6, HT6⟩
        · obtain ⟨q1, q2, q3⟩ := HRF.out h0
          have h0' : ¬ (tl : Int) = 0 := by omega
          have HALL2 : Hid (Calls Tryz.prog 13 #[.pointer (some ⟨wb, 0, none⟩)] w6 fun e w7 => e = .returned (.string s0) ∧ Below w6.heap.size w6 w7) := by
            have := HZ6.out.all
            rw [q1, ← HS0.out] at this
            exact this
          have hon0 : on = 0 := by rw [HON.out, q2]; rfl
          have hk6 := HK6.out
          rw [hon0, q2] at hk6
          have g0 : w6.cell? ⟨w5.heap.size, 0, none⟩ = some (.int .i64 0) := (cell_blk hk6).trans rfl
          have g1 : w6.cell? ⟨w5.heap.size, 1, none⟩ = some (.slice oa 0 oc) := (cell_blk hk6).trans rfl
          rw [hon0, q2, q3] 
          rw [hon0, q2] at hw6
          have hno : ((Tp.no.way : Nat) : Int) = 0 := rfl
          rw [hno] at hw6 ⊢
          clear hk6 hon0 q2 q3 HRF HON HK6
          go_upto_region 11 with fail
          rw [← hw6]
          clear hw6
          go_wp2_with fail
          refine HALL2.out.mono ?_
          rintro e w7 ⟨rfl, hb7⟩
          have g0' : w7.cell? ⟨w5.heap.size, 0, none⟩ = some (.int .i64 0) := (hb7.cell (p := ⟨w5.heap.size, 0, none⟩) hl6).trans g0
          have g1' : w7.cell? ⟨w5.heap.size, 1, none⟩ = some (.slice oa 0 oc) := (hb7.cell (p := ⟨w5.heap.size, 1, none⟩) hl6).trans g1
          have hl7 : w5.heap.size < w7.heap.size := lt_of_cell g0'
          have HZ7 := Lib.hid (HZ6.out.on hb7)
          have HT7 : Hid (Tr (fun b => b = wb) U' w3 w7) := HT6.out.then hb7
          clear hb7 g0 g1 HALL2
          go_wp2_with fail
          go_roundg (ln - (i + 1))
          case measure => omega
          case rel => exact ⟨i + 1, U', r.w, by omega, rfl, by go_num, HZ7, HT7⟩
      · have hlt' : ¬ (i : Int) < (ln : Int) := by omega
        clear HZ HT
        go_wp2_with fail
        go_ret
        exact ⟨rfl, HBr.out⟩
end Go.Proofs.YtibncofnnlbmcaaGreatDoor
