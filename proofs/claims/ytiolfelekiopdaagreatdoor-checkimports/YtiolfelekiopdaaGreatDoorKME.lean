import Derived.Test.YtiolfelekiopdaaGreatDoorKMD
/- check: what a name stands for: findSeen, finder. -/
namespace Go.Proofs.YtiolfelekiopdaaGreatDoor
open Go.RowKit Go.Maps
open Tp (Bs Th Sy Seen)

theorem fidx_of (l : List Sy) (n : Bs) : (∃ (k : Nat) (hk : k < l.length), fidx l n = (k : Int) ∧ Tp.findS l n = some l[k]) ∨ fidx l n = -1 ∧ Tp.findS l n = none := by
  unfold fidx Tp.findS
  cases h : l.findIdx? (fun s => s.1 == n) with
  | some k =>
    left
    have h' := h
    rw [List.findIdx?_eq_some_iff_getElem] at h'
    obtain ⟨hk, h1, h2⟩ := h'
    refine ⟨k, hk, rfl, ?_⟩
    rw [List.find?_eq_some_iff_getElem]
    exact ⟨by simpa using h1, k, hk, rfl, fun j hj => by simpa using h2 j hj⟩
  | none =>
    right
    refine ⟨rfl, ?_⟩
    rw [List.find?_eq_none]
    rw [List.findIdx?_eq_none_iff] at h
    intro x hx
    simpa using h x hx
def lookRes (r : Except Nat (Nat × Int)) : Value := match r with
  | .ok x => .tuple #[.agg #[.int .i64 (x.1 : Int), .int .i64 x.2], .int .i64 0]
  | .error e => .tuple #[.agg #[.int .i64 0, .int .i64 0], .int .i64 (e : Int)]
def seenRes (o : Option (List Sy)) (nm : Bs) : Except Nat (Nat × Int) := match o with
  | none => .error 5
  | some l => match Tp.findS l nm with
    | some s => .ok s.2
    | none => .error 7
set_option maxRecDepth 100000 in
set_option maxHeartbeats 1000000 in
theorem findSeen_post {w : World} {ob n : Nat} {S : Seen} (h : SeenM w ob n S) (md nm : Bs) (hl : md.length ≤ 1000000) :
    Calls Tryz.prog 66 #[.map (some ob), .string (bs md), .string (bs nm)] w fun e w' => e = .returned (lookRes (seenRes (S md) nm)) ∧ Below w.heap.size w w' := by
  have hal : ∀ ob', Below w.heap.size w (w.alloc ob') := fun ob' => (Below.refl _ _).alloc (Nat.le_refl _) _
  obtain ⟨w0, hw0⟩ : ∃ w0, w0 = w.alloc (.cells #[.int .i64 0, .int .i64 0] 116) := ⟨_, rfl⟩
  have hb0 : Below w.heap.size w w0 := by rw [hw0]; exact hal _
  have hk0 : w0.heap[w.heap.size]? = some (.cells #[.int .i64 0, .int .i64 0] 116 (0, 0)) := by rw [hw0]; exact new_blk _ _
  have hs0 : w.heap.size < w0.heap.size := by rw [hw0]; simp
  obtain ⟨v1, hlook1, ⟨a1, n1, d1, hv1⟩, hsl, hll⟩ := (h.on hb0).look md hl true
  subst hv1
  have c0 : w0.cell? ⟨w.heap.size, 0, none⟩ = some (.int .i64 0) := (cell_blk hk0).trans rfl
  have c1 : w0.cell? ⟨w.heap.size, 1, none⟩ = some (.int .i64 0) := (cell_blk hk0).trans rfl
  have z0 : w0.frozen? ⟨w.heap.size, 0, none⟩ = false := frozen_blk hk0
  have z1 : w0.frozen? ⟨w.heap.size, 1, none⟩ = false := frozen_blk hk0
  have HB0 := Lib.hid hb0
  have HK0 := Lib.hid hk0
  clear hal h hb0 hk0
  cases hS : S md with
  | none =>
    rw [hS] at hlook1
    simp only [Option.isSome_none, if_true] at hlook1
    clear hS hsl hll
    go_enter Tryz.func66, Tryz.ntmps66
    go_upto_region 1 with fail
    rw [← hw0]
    clear hw0
    go_wp2_with fail
    exact bodyPost_ret (v := .tuple #[.agg #[.int .i64 0, .int .i64 0], .int .i64 5]) (by simp [results, Tryz.results66, go_sem, c0, c1]) rfl ⟨rfl, HB0.out.trans (below_set (below_set (Below.refl _ _) (Nat.le_refl _) 0 _) (Nat.le_refl _) 1 _)⟩
  | some l =>
    rw [hS] at hlook1 hsl hll
    simp only [Option.isSome_some, if_true, Option.getD_some] at hlook1 hsl hll
    clear hS
    have hfp := find_post hsl hll nm
    have HSL := Lib.hid hsl
    have HFP := Lib.hid hfp
    obtain ⟨a9, c9, hv9⟩ := hsl.len
    cases hv9
    clear hsl hfp
    rcases fidx_of l nm with ⟨k, hk, hfi, hfs⟩ | ⟨hfi, hfs⟩
    · rw [hfi] at HFP
      have HRES : Hid (lookRes (seenRes (some l) nm) = .tuple #[.agg #[.int .i64 (l[k].2.1 : Int), .int .i64 l[k].2.2], .int .i64 0]) := by unfold Hid seenRes; simp only; rw [hfs]; rfl
      obtain ⟨g, hag, _, hgl, hcell⟩ := HSL.out.cell k hk
      subst hag
      have q1 : w0.cell? ⟨g, k * 3 + 1, none⟩ = some (.int .i64 (l[k].2.1 : Int)) := hcell 1 (by omega)
      have q2 : w0.cell? ⟨g, k * 3 + 2, none⟩ = some (.int .i64 l[k].2.2) := hcell 2 (by omega)
      have Q1 := Lib.hid q1
      have Q2 := Lib.hid q2
      have hkl : (k : Int) < (l.length : Int) := by omega
      have hll' : (l.length : Int) ≤ 1000 := by omega
      clear hcell hfi hfs q1 q2
      rw [HRES.out]
      clear HRES
      generalize l[k].2.1 = x1 at *
      generalize l[k].2.2 = x2 at *
      generalize l.length = ln at *
      go_enter Tryz.func66, Tryz.ntmps66
      go_upto_region 1 with fail
      rw [← hw0]
      clear hw0
      go_wp2_with fail
      refine HFP.out.mono ?_
      rintro e w3 ⟨rfl, hb3⟩
      have e3 := (hb3.block _ hs0).trans HK0.out
      have r1 : w3.cell? ⟨g, k * 3 + 1, none⟩ = some (.int .i64 (x1 : Int)) := (hb3.cell (p := ⟨g, _, none⟩) hgl).trans Q1.out
      have r2 : w3.cell? ⟨g, k * 3 + 2, none⟩ = some (.int .i64 x2) := (hb3.cell (p := ⟨g, _, none⟩) hgl).trans Q2.out
      have hgl3 : g < w3.heap.size := Nat.lt_of_lt_of_le hgl hb3.size
      have hs3 : w.heap.size < w3.heap.size := Nat.lt_of_lt_of_le hs0 hb3.size
      have s0 : w3.cell? ⟨w.heap.size, 0, none⟩ = some (.int .i64 0) := (cell_blk e3).trans rfl
      have s1 : w3.cell? ⟨w.heap.size, 1, none⟩ = some (.int .i64 0) := (cell_blk e3).trans rfl
      have t0 : w3.frozen? ⟨w.heap.size, 0, none⟩ = false := frozen_blk e3
      have t1 : w3.frozen? ⟨w.heap.size, 1, none⟩ = false := frozen_blk e3
      have HB3 : Hid (Below w.heap.size w w3) := HB0.out.trans (hb3.mono (by omega))
      clear e3 hb3 c0 c1 z0 z1
      go_wp2_with fail
      go_region
      go_wp2_with fail
      exact bodyPost_ret (v := .tuple #[.agg #[.int .i64 (x1 : Int), .int .i64 x2], .int .i64 0]) (by simp [results, Tryz.results66, go_sem, s0, s1]) rfl ⟨rfl, HB3.out.trans (below_set (below_set ((Below.refl _ _).drew) (Nat.le_refl _) 0 _) (Nat.le_refl _) 1 _)⟩
    · rw [hfi] at HFP
      have HRES : Hid (lookRes (seenRes (some l) nm) = .tuple #[.agg #[.int .i64 0, .int .i64 0], .int .i64 7]) := by unfold Hid seenRes; simp only; rw [hfs]; rfl
      clear hfi hfs HSL
      rw [HRES.out]
      clear HRES
      generalize l.length = ln at *
      go_enter Tryz.func66, Tryz.ntmps66
      go_upto_region 1 with fail
      rw [← hw0]
      clear hw0
      go_wp2_with fail
      refine HFP.out.mono ?_
      rintro e w3 ⟨rfl, hb3⟩
      have e3 := (hb3.block _ hs0).trans HK0.out
      have hs3 : w.heap.size < w3.heap.size := Nat.lt_of_lt_of_le hs0 hb3.size
      have s0 : w3.cell? ⟨w.heap.size, 0, none⟩ = some (.int .i64 0) := (cell_blk e3).trans rfl
      have s1 : w3.cell? ⟨w.heap.size, 1, none⟩ = some (.int .i64 0) := (cell_blk e3).trans rfl
      have t0 : w3.frozen? ⟨w.heap.size, 0, none⟩ = false := frozen_blk e3
      have t1 : w3.frozen? ⟨w.heap.size, 1, none⟩ = false := frozen_blk e3
      have HB3 : Hid (Below w.heap.size w w3) := HB0.out.trans (hb3.mono (by omega))
      clear e3 hb3 c0 c1 z0 z1
      go_wp2_with fail
      exact bodyPost_ret (v := .tuple #[.agg #[.int .i64 0, .int .i64 0], .int .i64 7]) (by simp [results, Tryz.results66, go_sem, s0, s1]) rfl ⟨rfl, HB3.out.trans (below_set (below_set (Below.refl _ _) (Nat.le_refl _) 0 _) (Nat.le_refl _) 1 _)⟩
end Go.Proofs.YtiolfelekiopdaaGreatDoor
/- check: what a name stands for: finder and what it hands back. -/
namespace Go.Proofs.YtiolfelekiopdaaGreatDoor
open Go.RowKit Go.Maps
open Tp (Bs Th Sy Seen)

abbrev Near := List (Bs → Option (Nat × Int))
/- the maps that a slice holds -/
structure NearM (w : World) (sb : Nat) (fs : Near) : Prop where
  lt : sb < w.heap.size
  c : ∀ i (h : i < fs.length), ∃ gb n, w.cell? ⟨sb, i, none⟩ = some (.map (some gb)) ∧ MapV w gb n (fun k => (fs[i] k).map thV)
theorem NearM.on {w w' : World} {sb : Nat} {fs : Near} (h : NearM w sb fs) (k : Below w.heap.size w w') : NearM w' sb fs :=
  ⟨Nat.lt_of_lt_of_le h.lt k.size, fun i hi => by obtain ⟨gb, n, h1, h2⟩ := h.c i hi; exact ⟨gb, n, (k.cell (p := ⟨sb, i, none⟩) h.lt).trans h1, h2.on (k.block _ h2.lt)⟩⟩
/- what finder has boxed, in the blocks b and b + 1 -/
structure Fnd (w : World) (b : Nat) (S : Seen) (fs : Near) : Prop where
  o : ∃ ob n, w.cell? ⟨b, 0, none⟩ = some (.map (some ob)) ∧ SeenM w ob n S
  m : ∃ sb c, w.cell? ⟨b + 1, 0, none⟩ = some (.slice (some ⟨sb, 0, none⟩) fs.length c) ∧ NearM w sb fs
  l : b + 1 < w.heap.size
theorem Fnd.on {w w' : World} {b : Nat} {S : Seen} {fs : Near} (h : Fnd w b S fs) (k : Below w.heap.size w w') : Fnd w' b S fs := by
  obtain ⟨ob, n, h1, h2⟩ := h.o
  obtain ⟨sb, c, h3, h4⟩ := h.m
  have hl := h.l
  exact ⟨⟨ob, n, (k.cell (p := ⟨b, 0, none⟩) (by simp; omega)).trans h1, h2.on k⟩, ⟨sb, c, (k.cell (p := ⟨b + 1, 0, none⟩) hl).trans h3, h4.on k⟩, Nat.lt_of_lt_of_le hl k.size⟩
def finderV (b : Nat) : Value := .func (.func 65) #[] #[.pointer (some ⟨b, 0, none⟩), .pointer (some ⟨b + 1, 0, none⟩)]
theorem neq_bs (a : Bs) : (bs a).toList.isEmpty = decide (a = []) := by rw [bs_toList]; cases a <;> simp
theorem near_none {fs : Near} {nm : Bs} (h : ∀ j (hj : j < fs.length), fs[j] nm = none) : fs.findSome? (fun f => f nm) = none := by
  rw [List.findSome?_eq_none_iff]
  intro f hf
  obtain ⟨j, hj, e⟩ := List.mem_iff_getElem.1 hf
  rw [← e]
  exact h j hj
theorem near_some {fs : Near} {nm : Bs} {i : Nat} {x : Nat × Int} (hi : i < fs.length) (h : ∀ j (hj : j < fs.length), j < i → fs[j] nm = none) (hx : fs[i] nm = some x) : fs.findSome? (fun f => f nm) = some x := by
  have e : fs = fs.take i ++ fs[i] :: fs.drop (i + 1) := by rw [← List.drop_eq_getElem_cons hi, List.take_append_drop]
  rw [e, List.findSome?_append, List.findSome?_cons, hx]
  have : (fs.take i).findSome? (fun f => f nm) = none := by
    rw [List.findSome?_eq_none_iff]
    intro f hf
    obtain ⟨j, hj, e⟩ := List.mem_iff_getElem.1 hf
    rw [List.length_take] at hj
    rw [List.getElem_take] at e
    rw [← e]
    exact h j (by omega) (by omega)
  rw [this]
  rfl
set_option maxRecDepth 100000 in
set_option maxHeartbeats 2000000 in
theorem finder1_post {w : World} {b : Nat} {S : Seen} {fs : Near} (h : Fnd w b S fs) (hfn : fs.length ≤ 1000) (md nm : Bs) (hl : md.length ≤ 1000000) (hl2 : nm.length ≤ 1000000) :
    Calls Tryz.prog 65 #[.string (bs md), .string (bs nm), .pointer (some ⟨b, 0, none⟩), .pointer (some ⟨b + 1, 0, none⟩)] w fun e w' => e = .returned (lookRes (Tp.standV S fs md nm)) ∧ Below w.heap.size w w' := by
  have hal : ∀ ob', Below w.heap.size w (w.alloc ob') := fun ob' => (Below.refl _ _).alloc (Nat.le_refl _) _
  obtain ⟨w0, hw0⟩ : ∃ w0, w0 = w.alloc (.cells #[.int .i64 0, .int .i64 0] 116) := ⟨_, rfl⟩
  have hb0 : Below w.heap.size w w0 := by rw [hw0]; exact hal _
  have hk0 : w0.heap[w.heap.size]? = some (.cells #[.int .i64 0, .int .i64 0] 116 (0, 0)) := by rw [hw0]; exact new_blk _ _
  have hs0 : w.heap.size < w0.heap.size := by rw [hw0]; simp
  have h0 := h.on hb0
  have hbl := h0.l
  have hbl' : b < w0.heap.size := by omega
  have c0 : w0.cell? ⟨w.heap.size, 0, none⟩ = some (.int .i64 0) := (cell_blk hk0).trans rfl
  have c1 : w0.cell? ⟨w.heap.size, 1, none⟩ = some (.int .i64 0) := (cell_blk hk0).trans rfl
  have z0 : w0.frozen? ⟨w.heap.size, 0, none⟩ = false := frozen_blk hk0
  have z1 : w0.frozen? ⟨w.heap.size, 1, none⟩ = false := frozen_blk hk0
  have HB0 := Lib.hid hb0
  have HK0 := Lib.hid hk0
  obtain ⟨ob, on, ho1, ho2⟩ := h0.o
  obtain ⟨sb, sc, hm1, hm2⟩ := h0.m
  have hnb := neq_bs md
  clear hal h hb0 hk0
  by_cases hmd : md = []
  · rw [decide_eq_true hmd] at hnb
    have HRES : Hid (Tp.standV S fs md nm = match fs.findSome? (fun f => f nm) with | some x => .ok x | none => .error 7) := by unfold Hid Tp.standV; rw [if_neg (by simp [hmd])]; cases fs.findSome? (fun f => f nm) <;> rfl
    clear hmd ho1 ho2
    have HNM := Lib.hid hm2
    have hfn' : (fs.length : Int) ≤ 1000 := by omega
    obtain ⟨fn, hfq⟩ : ∃ fn, fn = fs.length := ⟨_, rfl⟩
    have HFQ := Lib.hid hfq
    rw [← hfq] at hm1 hfn'
    clear hm2 hfq
    go_enter Tryz.func65, Tryz.ntmps65
    go_upto_region 1 with fail
    rw [← hw0]
    clear hw0
    go_wp2_with fail
    go_loopg [22] fn (fun k vi wr => ∃ i : Nat, i ≤ fn ∧ k = fn - i ∧ vi = .int .i64 (i : Int) ∧ Hid (Below w0.heap.size w0 wr) ∧ Hid (∀ j (hj : j < fs.length), j < i → fs[j] nm = none))
    case atStart => exact ⟨0, by omega, by omega, rfl, Below.refl _ _, fun j _ hj => absurd hj (by omega)⟩
    case round =>
      obtain ⟨i, hid, hk, rfl, HB, HN⟩ := hrel
      have hsz := HB.out.size
      have hb1 := HB.out.block _ hs0
      have e3 := hb1.trans HK0.out
      have s0 : wr.cell? ⟨w.heap.size, 0, none⟩ = some (.int .i64 0) := (cell_blk e3).trans rfl
      have s1 : wr.cell? ⟨w.heap.size, 1, none⟩ = some (.int .i64 0) := (cell_blk e3).trans rfl
      have t0 : wr.frozen? ⟨w.heap.size, 0, none⟩ = false := frozen_blk e3
      have t1 : wr.frozen? ⟨w.heap.size, 1, none⟩ = false := frozen_blk e3
      have hs3 : w.heap.size < wr.heap.size := by omega
      have hne : wr.heap.size ≠ w.heap.size := by omega
      have HBW : Hid (Below w.heap.size w wr) := HB0.out.trans (HB.out.mono (by omega))
      clear hb1 e3
      by_cases hlt : i < fn
      · have hlt' : (i : Int) < (fn : Int) := by omega
        have hia : i < fs.length := by have := HFQ.out; omega
        obtain ⟨gb, gn, hc1, hc2⟩ := HNM.out.c i hia
        have kc : wr.cell? ⟨sb, i, none⟩ = some (.map (some gb)) := (HB.out.cell (p := ⟨sb, i, none⟩) HNM.out.lt).trans hc1
        have hlgr : sb < wr.heap.size := lt_of_cell kc
        have hlook := (hc2.on (HB.out.block _ hc2.lt)).look (t := 70) Tryz.underlying70 (zeroTh _) nm hl2 true
        clear hc1 hc2
        cases hfx : fs[i] nm with
        | none =>
          rw [hfx] at hlook
          simp only [Option.map_none, Option.getD_none, Option.isSome_none, if_true] at hlook
          have HN3 : Hid (∀ j (hj : j < fs.length), j < i + 1 → fs[j] nm = none) := fun j hj hji => by
            rcases Nat.lt_or_ge j i with q | q
            · exact HN.out j hj q
            · have : j = i := by omega
              subst this
              exact hfx
          have HB3 : Hid (∀ ob, Below w0.heap.size w0 (wr.alloc ob)) := fun ob => HB.out.alloc hsz _
          clear hfx
          go_wp2_with fail
          go_roundg (fn - (i + 1))
          case measure => omega
          case rel => exact ⟨i + 1, by omega, rfl, by go_num, HB3.out _, HN3⟩
        | some x =>
          obtain ⟨x1, x2⟩ := x
          rw [hfx] at hlook
          simp only [Option.map_some, Option.getD_some, Option.isSome_some, if_true, thV] at hlook
          have HFS := Lib.hid (near_some hia HN.out hfx)
          have HR2 : Hid (lookRes (Tp.standV S fs md nm) = .tuple #[.agg #[.int .i64 (x1 : Int), .int .i64 x2], .int .i64 0]) := by unfold Hid; rw [HRES.out, HFS.out]; rfl
          have HB3 : Hid (∀ ob, Below w.heap.size w (wr.alloc ob)) := fun ob => HBW.out.alloc (by omega) _
          clear hfx HRES HFS
          go_wp2_with fail
          exact bodyPost_ret (v := .tuple #[.agg #[.int .i64 (x1 : Int), .int .i64 x2], .int .i64 0]) (by simp [results, Tryz.results65, go_sem, s0, s1, hs3]) rfl ⟨by rw [HR2.out], (below_set (below_set HBW.out (Nat.le_refl _) 0 _) (Nat.le_refl _) 1 _).alloc (by simp; omega) _⟩
      · have hlt' : ¬ (i : Int) < (fn : Int) := by omega
        have HFS : Hid (fs.findSome? (fun f => f nm) = none) := near_none (fun j hj => HN.out j hj (by have := HFQ.out; omega))
        have HR2 : Hid (lookRes (Tp.standV S fs md nm) = .tuple #[.agg #[.int .i64 0, .int .i64 0], .int .i64 7]) := by unfold Hid; rw [HRES.out, HFS.out]; rfl
        clear HRES HFS
        go_wp2_with fail
        exact bodyPost_ret (v := .tuple #[.agg #[.int .i64 0, .int .i64 0], .int .i64 7]) (by simp [results, Tryz.results65, go_sem, s0, s1]) rfl ⟨by rw [HR2.out], below_set (below_set HBW.out (Nat.le_refl _) 0 _) (Nat.le_refl _) 1 _⟩
  · rw [decide_eq_false hmd] at hnb
    have HRES : Hid (Tp.standV S fs md nm = seenRes (S md) nm) := by unfold Hid Tp.standV; rw [if_pos hmd]; unfold seenRes; cases S md <;> rfl
    rw [HRES.out]
    clear hmd hm1 hm2 HRES
    have HFS := Lib.hid (findSeen_post ho2 md nm hl)
    clear ho2
    obtain ⟨r, hr⟩ : ∃ r, r = seenRes (S md) nm := ⟨_, rfl⟩
    rw [← hr] at HFS ⊢
    clear hr
    go_enter Tryz.func65, Tryz.ntmps65
    go_upto_region 1 with fail
    rw [← hw0]
    clear hw0
    go_wp2_with fail
    refine HFS.out.mono ?_
    rintro e w3 ⟨rfl, hb3⟩
    have e3 := (hb3.block _ hs0).trans HK0.out
    have hs3 : w.heap.size < w3.heap.size := Nat.lt_of_lt_of_le hs0 hb3.size
    have s0 : w3.cell? ⟨w.heap.size, 0, none⟩ = some (.int .i64 0) := (cell_blk e3).trans rfl
    have s1 : w3.cell? ⟨w.heap.size, 1, none⟩ = some (.int .i64 0) := (cell_blk e3).trans rfl
    have t0 : w3.frozen? ⟨w.heap.size, 0, none⟩ = false := frozen_blk e3
    have t1 : w3.frozen? ⟨w.heap.size, 1, none⟩ = false := frozen_blk e3
    have HB3 : Hid (Below w.heap.size w w3) := HB0.out.trans (hb3.mono (by omega))
    clear e3 hb3 c0 c1 z0 z1 HFS
    cases r with
    | ok x =>
      obtain ⟨x1, x2⟩ := x
      simp only [lookRes]
      go_wp2_with fail
      exact bodyPost_ret (v := .tuple #[.agg #[.int .i64 (x1 : Int), .int .i64 x2], .int .i64 0]) (by simp [results, Tryz.results65, go_sem, s0, s1]) rfl ⟨rfl, below_set (below_set HB3.out (Nat.le_refl _) 0 _) (Nat.le_refl _) 1 _⟩
    | error er =>
      simp only [lookRes]
      go_wp2_with fail
      exact bodyPost_ret (v := .tuple #[.agg #[.int .i64 0, .int .i64 0], .int .i64 (er : Int)]) (by simp [results, Tryz.results65, go_sem, s0, s1]) rfl ⟨rfl, below_set (below_set HB3.out (Nat.le_refl _) 0 _) (Nat.le_refl _) 1 _⟩
set_option maxRecDepth 100000 in
set_option maxHeartbeats 400000 in
theorem finder_any (w : World) (ov sv : Value) (h1 : ∃ ob, ov = .map (some ob)) (h2 : ∃ a n c, sv = .slice a n c) :
    Calls Tryz.prog 34 #[ov, sv] w fun e w' => e = .returned (finderV w.heap.size) ∧ w' = (w.alloc (.cells #[ov] 34)).alloc (.cells #[sv] 121) := by
  obtain ⟨ob, rfl⟩ := h1
  obtain ⟨a, n, c, rfl⟩ := h2
  have hmf : ∀ (fn : Fn) (first cap : Array Value) (w : World), (Instr.makeFunc fn first cap).run Tryz.prog w = .ok (.func fn first cap) w := fun _ _ _ _ => rfl
  go_enter Tryz.func34, Tryz.ntmps34
  go_wp2_with fail
  go_ret
  exact ⟨rfl, rfl⟩
end Go.Proofs.YtiolfelekiopdaaGreatDoor
