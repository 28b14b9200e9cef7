import Derived.Test.YtadgeapgoggljaaGreatDoorKUa
import Derived.Test.YtadgeapgoggljaaGreatDoorKMb
/- sym: eachOfStmts' contract; eachExpr. -/
namespace Go.Proofs.YtadgeapgoggljaaGreatDoor
open Go.RowKit Go.Maps
open Tp (Bs X S Pr)

theorem us_rs (of : Bs) : ∀ (ar : List S), addTo (fun i => ((ar[i]?).map fun y => Tp.us of (Tp.rs [y])).getD []) ar.length = Tp.us of (Tp.rs ar) := by
  intro ar
  induction ar with
  | nil => simp [addTo, Tp.rs, Tp.us]
  | cons x l ih =>
    rw [rs_cons, Tp.us_app, ← ih]
    unfold addTo
    rw [List.length_cons, List.range_succ_eq_map, List.map_cons, List.flatten_cons, List.map_map]
    have e2 : ((fun i => (((x :: l)[i]?).map fun y => Tp.us of (Tp.rs [y])).getD []) ∘ Nat.succ) = fun i => ((l[i]?).map fun y => Tp.us of (Tp.rs [y])).getD [] := by
      funext i
      simp
    rw [e2]
    simp
theorem part_use {w : World} {ob nb : Nat} {of : Bs} (hnb : nb < w.heap.size) {D : Nat → Prop} (hD : ∀ b, D b → b < nb) (l : List X) (vs : List Value) (hrep : RepL w D l vs) (hle : vs.length ≤ 1) :
    (∃ a, vs.headD (.pointer none) = .pointer a) ∧ AskU w ob nb of (vs.headD (.pointer none)) (Tp.us of (Tp.rx l)) := by
  have hvl := RepL.len _ _ hrep
  match l, vs, hrep with
  | [], vs, hrep =>
    rw [RepL] at hrep
    subst hrep
    refine ⟨⟨none, rfl⟩, fun W' l' _ _ hu' _ => ?_⟩
    have : Tp.us of (Tp.rx []) = [] := by simp [Tp.rx, Tp.us]
    rw [this]
    exact eachWithin_nil hu'
  | [y], vs, hrep =>
    obtain ⟨yb, a1, a2⟩ := RepL.get _ _ hrep 0 (by simp)
    have hv : vs = [.pointer (some ⟨yb, 0, none⟩)] := by
      match vs, hle, hvl with
      | [v], _, _ => simp at a1; rw [a1]
    subst hv
    exact ⟨⟨_, rfl⟩, eachWithin_all _ y (Nat.le_refl _) w D yb hD hnb hrep⟩
  | y :: z :: t, vs, hrep => simp at hvl; omega
theorem eachOfStmts_all {ob nb : Nat} {of : Bs} (hof : of ≠ []) : ∀ (n : Nat) (l : List S), SizeOf.sizeOf l ≤ n → ∀ (w : World) (D : Nat → Prop) (v : Value) (cs : List Value), (∀ b, D b → b < nb) → nb < w.heap.size → RepS w D l cs → OwnS w D v l.length cs →
    AskUS w ob nb of v (Tp.us of (Tp.rs l)) := by
  intro n
  induction n with
  | zero => intro l hn; cases l <;> simp at hn <;> omega
  | succ n ih =>
    intro l hn w D v cs hD hnb hrep hown W lst hbW _ hu hlen
    have hk : ∀ b, D b → b < w.heap.size → W.heap[b]? = w.heap[b]? ∧ D b := fun b hb _ => ⟨hbW.block b (hD b hb), hb⟩
    have hrep := hrep.mono' hk
    have hown := hown.mono hk
    have hnbW : nb < W.heap.size := Nat.lt_of_lt_of_le hnb hbW.size
    rw [← us_rs] at hlen ⊢
    have hav : ∃ a c, v = .slice a l.length c ∧ l.length ≤ 9223372036854775807 ∧ ∀ i, i < l.length → ∃ g, a = some ⟨g, 0, none⟩ ∧ g < nb ∧ ∀ j, j < 7 → W.cell? ⟨g, i * 7 + j, none⟩ = cs[i * 7 + j]? := by
      rcases hown with ⟨q1, q2⟩ | ⟨g, cap, cur, q1, q2, q3, q4, q5, q6, q7⟩
      · exact ⟨none, 0, by rw [q2]; exact q1, by omega, fun i hi => by omega⟩
      · refine ⟨_, cap, q1, ?_, fun i hi => ⟨g, rfl, hD g q2, fun j hj => ?_⟩⟩
        · have : maxLen = 9223372036854775807 := rfl
          omega
        · rw [cell_blk q3, ← Array.getElem?_toList, ← q7, List.getElem?_take_of_lt (by omega)]
    obtain ⟨a, c, rfl, hln, hcell⟩ := hav
    refine eachOfStmts_walk (fun i hi => ?_) hln hnbW hu (by simpa only [List.length_append] using hlen)
    rcases hx : l[i] with ⟨code, pos, nm, ix, vl, th, el⟩
    have hxi : l[i]? = some ⟨code, pos, nm, ix, vl, th, el⟩ := by rw [List.getElem?_eq_getElem hi, hx]
    obtain ⟨tv, ev, ls, vs, tcs, ecs, q1, q2, q3, q4, q5, q6, q7, q8, q9⟩ := RepS.get _ _ hrep i code pos nm ix vl th el hxi
    obtain ⟨g, g1, g2, g3⟩ := hcell i hi
    have hsz : SizeOf.sizeOf l[i] < SizeOf.sizeOf l := List.sizeOf_lt_of_mem (List.getElem_mem hi)
    rw [hx] at hsz
    simp at hsz
    obtain ⟨⟨iv, hiv⟩, hA1⟩ := part_use (ob := ob) (of := of) hnbW hD ix ls q2 q3
    obtain ⟨⟨vv, hvv⟩, hA2⟩ := part_use (ob := ob) (of := of) hnbW hD vl vs q4 q5
    obtain ⟨ta, tc, rfl⟩ := q7.shape
    obtain ⟨ea, ec, rfl⟩ := q9.shape
    rw [hiv] at hA1 q1
    rw [hvv] at hA2 q1
    have hc := fun j (hj : j < 7) => (g3 j hj).trans (q1 j hj)
    refine ⟨g, code, pos, bs nm, iv, vv, ta, ea, th.length, tc, el.length, ec, _, _, _, _, g1, g2, hc 0 (by omega), hc 1 (by omega), hc 2 (by omega), hc 3 (by omega), hc 4 (by omega), hc 5 (by omega), hc 6 (by omega), hA1, hA2, ih th (by omega) W D _ tcs hD hnbW q6 q7, ih el (by omega) W D _ ecs hD hnbW q8 q9, ?_⟩
    rw [hxi, Option.map_some, Option.getD_some, rs_one, Tp.us_app, Tp.us_app, Tp.us_app, Tp.us_app]
    have e0 : Tp.us of (if code = 1 then [(⟨if ix.isEmpty then 2 else 3, pos, [], nm, 0⟩ : Tp.R)] else []) = [] := by
      split
      · have : ([] : Bs) ≠ of := fun e => hof e.symm
        simp [Tp.us, this]
      · rfl
    rw [e0]
    simp
set_option maxRecDepth 100000 in
set_option maxHeartbeats 4000000 in
theorem eachExpr_walk {w : World} {ob nb : Nat} {of nm : Bs} {l : List Bs} {inn gn pn bn ic gc pc bc : Nat} {ia ga pa ba : Option Addr} {q : Nat → List Bs} {qb : List Bs} (hnb : nb < w.heap.size) (hu : UseSt w ob nb of l) (hlen : (l ++ addTo q pn ++ qb).length ≤ 100000)
    (hP : ∀ i, i < pn → ∃ (g : Nat) (x0 : Bs) (x1 : Nat) (x2 : Bool) (y3 y4 y5 : Option Addr) (n3 n4 n5 c3 c4 c5 : Nat), pa = some ⟨g, 0, none⟩ ∧ g < nb ∧ w.cell? ⟨g, i * 6, none⟩ = some (.string (bs x0)) ∧ w.cell? ⟨g, i * 6 + 1, none⟩ = some (.int .i64 (x1 : Int)) ∧ w.cell? ⟨g, i * 6 + 2, none⟩ = some (.bool x2) ∧ w.cell? ⟨g, i * 6 + 3, none⟩ = some (.slice y3 n3 c3) ∧ w.cell? ⟨g, i * 6 + 4, none⟩ = some (.slice y4 n4 c4) ∧ w.cell? ⟨g, i * 6 + 5, none⟩ = some (.slice y5 n5 c5) ∧ AskUS w ob nb of (.slice y5 n5 c5) (q i))
    (hB : AskUS w ob nb of (.slice ba bn bc) qb) (hpn : pn ≤ 1000) :
    Calls Tryz.prog 38 #[.agg #[.string (bs nm), .slice ia inn ic, .slice ga gn gc, .slice pa pn pc, .slice ba bn bc], usedV ob nb] w (UseP w ob nb of (l ++ addTo q pn ++ qb)) := by
  obtain ⟨w0, hw0⟩ : ∃ w0, w0 = w.alloc (.cells #[.string (bs nm), .slice ia inn ic, .slice ga gn gc, .slice pa pn pc, .slice ba bn bc] 38) := ⟨_, rfl⟩
  have hb0 : Below w.heap.size w w0 := by rw [hw0]; exact (Below.refl _ _).alloc (Nat.le_refl _) _
  have hk0 : w0.heap[w.heap.size]? = some (.cells #[.string (bs nm), .slice ia inn ic, .slice ga gn gc, .slice pa pn pc, .slice ba bn bc] 38 (0, 0)) := by rw [hw0]; exact new_blk _ _
  have hs0 : w.heap.size < w0.heap.size := lt_blk hk0
  have HOW0 : Hid (¬ OwnN w0 nb w.heap.size) := fun ⟨v, q1, q2⟩ => by
    obtain ⟨v0, z1, z2⟩ := hu.c
    have e0 : w0.cell? ⟨nb, 0, none⟩ = some v0 := (hb0.cell (p := ⟨nb, 0, none⟩) hnb).trans ((cell_blk z1).trans rfl)
    rw [e0] at q1
    cases q1
    have := (z2.lt _ q2).2
    omega
  have HU0 : Hid (UseSt w0 ob nb of (l ++ addTo q 0)) := by unfold Hid; simpa [addTo] using hu.on hb0
  have HB0 : Hid (Below nb w w0) := hb0.mono (by omega)
  have HK0 := Lib.hid (UseK.below hb0 hnb)
  obtain ⟨k0, k1, k2, k3, k4⟩ := cell_box5' hk0
  have HBL := Lib.hid hk0
  have HP := Lib.hid hP
  have HBD : Hid (∀ W l, Below nb w W → UseSt W ob nb of l → l.length + qb.length ≤ 100000 → Calls Tryz.prog 80 #[.slice ba bn bc, .func (.func 39) #[] #[.pointer (some ⟨ob, 0, none⟩), .pointer (some ⟨nb, 0, none⟩)]] W (UseP W ob nb of (l ++ qb))) := fun W l a b c => hB W l a (by omega) b c
  have HLEN := Lib.hid hlen
  have hpn' : (pn : Int) ≤ 1000 := by omega
  clear hP hB hlen hb0 hk0 hu k0 k1 k2 k4
  unfold usedV
  go_enter Tryz.func38, Tryz.ntmps38
  go_upto_region 1 with fail
  rw [← hw0]
  clear hw0
  go_wp2_with fail
  go_loopg [9] pn (fun k vi wr => ∃ i : Nat, i ≤ pn ∧ k = pn - i ∧ vi = .int .i64 (i : Int) ∧ Hid (Below nb w wr) ∧ Hid (UseSt wr ob nb of (l ++ addTo q i)) ∧ Hid (UseK nb w0 wr))
  case atStart => exact ⟨0, by omega, by omega, rfl, HB0, HU0, UseK.below (Below.refl _ _) (by omega)⟩
  case round =>
    obtain ⟨i, hid, hk, rfl, HB, HU, HKK⟩ := hrel
    have hszr := HB.out.size
    have hszr0 := HKK.out.s
    by_cases hlt : i < pn
    · have hlt' : (i : Int) < (pn : Int) := by omega
      obtain ⟨g, x0, x1, x2, y3, y4, y5, n3, n4, n5, c3, c4, c5, hag, hgl, d0, d1, d2, d3, d4, d5, hask⟩ := HP.out i hlt
      subst hag
      have hcell : ∀ (o : Nat) (u : Value), w.cell? ⟨g, o, none⟩ = some u → wr.cell? ⟨g, o, none⟩ = some u := fun o u h => (HB.out.cell (p := ⟨g, o, none⟩) hgl).trans h
      have kc0 := hcell _ _ d0
      have kc1 := hcell _ _ d1
      have kc2 := hcell _ _ d2
      have kc3 := hcell _ _ d3
      have kc4 := hcell _ _ d4
      have kc5 := hcell _ _ d5
      have hglr : g < wr.heap.size := by omega
      obtain ⟨w1, hw1⟩ : ∃ w1, w1 = wr.alloc (.cells #[.string (bs x0), .int .i64 (x1 : Int), .bool x2, .slice y3 n3 c3, .slice y4 n4 c4, .slice y5 n5 c5] 119) := ⟨_, rfl⟩
      have hb1 : Below wr.heap.size wr w1 := by rw [hw1]; exact (Below.refl _ _).alloc (Nat.le_refl _) _
      have hk1 : w1.heap[wr.heap.size]? = some (.cells #[.string (bs x0), .int .i64 (x1 : Int), .bool x2, .slice y3 n3 c3, .slice y4 n4 c4, .slice y5 n5 c5] 119 (0, 0)) := by rw [hw1]; exact new_blk _ _
      have m5 : w1.cell? ⟨wr.heap.size, 5, none⟩ = some (.slice y5 n5 c5) := (cell_blk hk1).trans rfl
      have hs1 : wr.heap.size < w1.heap.size := lt_blk hk1
      have HB1 : Hid (Below nb w w1) := HB.out.trans (hb1.mono (by omega))
      have HK1 := Lib.hid (HKK.out.trans (UseK.below hb1 (by omega)))
      have hcall := hask w1 _ HB1.out (by omega) (HU.out.on hb1) (by
        have h1 := HLEN.out
        have h2 := addTo_le q (show i + 1 ≤ pn by omega)
        rw [addTo_succ] at h2
        simp only [List.length_append] at h1 h2 ⊢
        omega)
      have HC : Hid (Calls Tryz.prog 80 #[.slice y5 n5 c5, .func (.func 39) #[] #[.pointer (some ⟨ob, 0, none⟩), .pointer (some ⟨nb, 0, none⟩)]] w1 (UseP w1 ob nb of (l ++ addTo q (i + 1)))) := by
        unfold Hid
        rw [addTo_succ, ← List.append_assoc]
        exact hcall
      clear d0 d1 d2 d3 d4 d5 hcell hask hb1 hk1 hcall
      go_upto_region 4 with fail
      rw [← hw1]
      clear hw1 kc0 kc1 kc2 kc3 kc4 kc5
      go_wp2_with fail
      refine HC.out.mono ?_
      rintro e w2 ⟨rfl, hb2, hu2, hk2⟩
      have HB2 : Hid (Below nb w w2) := HB1.out.trans hb2
      have HU2 := Lib.hid hu2
      have HK2 := Lib.hid (HK1.out.trans hk2)
      clear hb2 hu2 hk2 HC m5
      go_wp2_with fail
      go_roundg (pn - (i + 1))
      case measure => omega
      case rel => exact ⟨i + 1, by omega, rfl, by go_num, HB2, HU2, HK2⟩
    · have hlt' : ¬ (i : Int) < (pn : Int) := by omega
      have hei : i = pn := by omega
      subst hei
      have e4 := (HKK.out.k w.heap.size hs0 (by omega) HOW0.out).1.trans HBL.out
      have m4 := (cell_box5' e4).2.2.2.2
      have hl4 : w.heap.size < wr.heap.size := lt_blk e4
      have HC := Lib.hid (HBD.out wr _ HB.out HU.out (by have := HLEN.out; simp only [List.length_append] at this ⊢; omega))
      clear e4
      go_wp2_with fail
      refine HC.out.mono ?_
      rintro e w2 ⟨rfl, hb2, hu2, hk2⟩
      have HB2 : Hid (Below nb w w2) := HB.out.trans hb2
      have HU2 := Lib.hid hu2
      have HK2 := Lib.hid (HK0.out.trans (HKK.out.trans hk2))
      clear hb2 hu2 hk2 HC m4
      go_wp2_with fail
      exact bodyPost_end (results_none rfl _ _ _) rfl ⟨rfl, HB2.out, HU2.out, HK2.out⟩
end Go.Proofs.YtadgeapgoggljaaGreatDoor
/- sym: eachExpr's contract. -/
namespace Go.Proofs.YtadgeapgoggljaaGreatDoor
open Go.RowKit Go.Maps
open Tp (Bs X S Pr)

def qOf (of : Bs) (l : List Pr) (i : Nat) : List Bs := ((l[i]?).map fun p => Tp.us of (Tp.rs p.body)).getD []
theorem us_ps (of : Bs) : ∀ (l : List Pr), addTo (qOf of l) l.length = Tp.us of ((l.map fun p => Tp.rs p.body).flatten) := by
  intro l
  induction l with
  | nil => simp [addTo, Tp.us]
  | cons x l ih =>
    rw [List.map_cons, List.flatten_cons, Tp.us_app, ← ih]
    unfold addTo
    rw [List.length_cons, List.range_succ_eq_map, List.map_cons, List.flatten_cons, List.map_map]
    have e2 : (qOf of (x :: l)) ∘ Nat.succ = qOf of l := by
      funext i
      simp [qOf]
    rw [e2]
    simp [qOf]
theorem eachExpr_all {m : Tp.M} {of : Bs} (hof : of ≠ []) (hpc : m.procs.length ≤ 1000) (hct : (Tp.allR m).length ≤ 100000) {w : World} {ob nb : Nat} {ia ga pa ba : Option Addr} {ic gc pc bc : Nat} (hnb : nb < w.heap.size) (h : MB w nb m ia ga pa ba ic gc pc bc) (hu : UseSt w ob nb of []) :
    Calls Tryz.prog 38 #[.agg #[.string (bs m.name), .slice ia m.imports.length ic, .slice ga m.vars.length gc, .slice pa m.procs.length pc, .slice ba m.body.length bc], usedV ob nb] w (UseP w ob nb of (Tp.us of (Tp.allR m))) := by
  have he : Tp.us of (Tp.allR m) = ([] : List Bs) ++ addTo (qOf of m.procs) m.procs.length ++ Tp.us of (Tp.rs m.body) := by
    rw [us_ps, List.nil_append]
    unfold Tp.allR
    rw [Tp.us_app]
  have hln := Tp.us_len of (Tp.allR m)
  rw [he] at hln ⊢
  refine eachExpr_walk hnb hu (by omega) (fun i hi => ?_) ?_ hpc
  · obtain ⟨pcs, p1, p2⟩ := h.pr
    obtain ⟨g, cap, q1, q2, q3, q4⟩ := row_cell p2 (by omega)
    cases q1
    obtain ⟨pv, vv, bv, bcs', r1, r2, r3, r4, r5⟩ := repp_get m.procs pcs p1 i hi
    obtain ⟨y3, c3, rfl⟩ := r2.shape
    obtain ⟨y4, c4, rfl⟩ := r3.shape
    obtain ⟨y5, c5, rfl⟩ := r5.shape
    have hc := fun j (hj : j < 6) => (q4 (i * 6 + j) (by omega)).trans (r1 j hj)
    refine ⟨g, m.procs[i].name, m.procs[i].pos, m.procs[i].seen, y3, y4, y5, _, _, _, c3, c4, c5, rfl, q2, hc 0 (by omega), hc 1 (by omega), hc 2 (by omega), hc 3 (by omega), hc 4 (by omega), hc 5 (by omega), ?_⟩
    have : qOf of m.procs i = Tp.us of (Tp.rs m.procs[i].body) := by unfold qOf; rw [List.getElem?_eq_getElem hi]; rfl
    rw [this]
    exact eachOfStmts_all hof _ _ (Nat.le_refl _) w _ _ _ (fun b hb => hb) hnb r4 r5
  · obtain ⟨bcs, b1, b2⟩ := h.bd
    exact eachOfStmts_all hof _ _ (Nat.le_refl _) w _ _ _ (fun b hb => hb) hnb b1 b2
end Go.Proofs.YtadgeapgoggljaaGreatDoor
/- sym.Used's contract. -/
namespace Go.Proofs.YtadgeapgoggljaaGreatDoor
open Go.RowKit Go.Maps
open Tp (Bs X S Pr)

theorem MB.to {w w' : World} {m : Tp.M} {ia ga pa ba : Option Addr} {ic gc pc bc B : Nat} (h : MB w w.heap.size m ia ga pa ba ic gc pc bc) (k : Below w.heap.size w w') (hB : w.heap.size ≤ B) : MB w' B m ia ga pa ba ic gc pc bc := by
  have hk : ∀ b, b < w.heap.size → b < w.heap.size → w'.heap[b]? = w.heap[b]? ∧ b < B := fun b hi _ => ⟨k.block b hi, Nat.lt_of_lt_of_le hi hB⟩
  obtain ⟨pcs, p1, p2⟩ := h.pr
  obtain ⟨bcs, b1, b2⟩ := h.bd
  exact ⟨h.im.mono hk, h.gl.mono hk, ⟨pcs, p1.mono hk _ _, p2.mono hk⟩, ⟨bcs, b1.mono' hk, b2.mono hk⟩⟩
set_option maxRecDepth 100000 in
set_option maxHeartbeats 2000000 in
theorem used_postS {m : Tp.M} (hpc : m.procs.length ≤ 1000) (hct : (Tp.allR m).length ≤ 100000) {w : World} {ia ga pa ba : Option Addr} {ic gc pc bc : Nat} (h : MB w w.heap.size m ia ga pa ba ic gc pc bc) (of : Bs) :
    Calls Tryz.prog 21 #[.agg #[.string (bs m.name), .slice ia m.imports.length ic, .slice ga m.vars.length gc, .slice pa m.procs.length pc, .slice ba m.body.length bc], .string (bs of)] w fun e w' => ∃ (a : Option Addr) (c : Nat) (l : List Bs), e = .returned (.slice a l.length c) ∧ l.length ≤ (Tp.allR m).length ∧ (∀ x, x ∈ l ↔ x ∈ Tp.usedR m of) ∧ StrsAt w' l a ∧ Below w.heap.size w w' := by
  have hie : (bs of).toList.isEmpty = of.isEmpty := by rw [bs_toList]
  by_cases h0 : of = []
  · subst h0
    have hie' : (bs []).toList.isEmpty = true := hie
    have HE : Hid (∀ x : Bs, x ∈ ([] : List Bs) ↔ x ∈ Tp.usedR m []) := fun x => by simp [Tp.usedR]
    have HB : Hid (∀ o1 o2, Below w.heap.size w ((w.alloc o1).alloc o2)) := fun o1 o2 => ((Below.refl _ _).alloc (Nat.le_refl _) _).alloc (by simp) _
    clear h hie
    go_enter Tryz.func21, Tryz.ntmps21
    go_wp2_with fail
    go_ret
    exact ⟨none, 0, [], rfl, Nat.zero_le _, HE.out, ⟨fun i hi => by simp at hi⟩, HB.out _ _⟩
  · have hie' : (bs of).toList.isEmpty = false := by
      rw [hie]
      cases of with
      | nil => exact absurd rfl h0
      | cons a t => rfl
    obtain ⟨w0, hw0⟩ : ∃ w0, w0 = ((w.alloc (.cells #[.string (bs m.name), .slice ia m.imports.length ic, .slice ga m.vars.length gc, .slice pa m.procs.length pc, .slice ba m.body.length bc] 38)).alloc (.cells #[.string (bs of)] 9)).alloc (.cells #[.slice none 0 0] 22) := ⟨_, rfl⟩
    have hb0 : Below w.heap.size w w0 := by rw [hw0]; exact (((Below.refl _ _).alloc (Nat.le_refl _) _).alloc (by simp) _).alloc (by simp; omega) _
    have hs0 : w0.heap.size = w.heap.size + 3 := by rw [hw0]; simp
    have hkn : w0.heap[w.heap.size + 1 + 1]? = some (.cells #[.slice none 0 0] 22 (0, 0)) := by
      rw [hw0]
      have := new_blk ((w.alloc (.cells #[.string (bs m.name), .slice ia m.imports.length ic, .slice ga m.vars.length gc, .slice pa m.procs.length pc, .slice ba m.body.length bc] 38)).alloc (.cells #[.string (bs of)] 9)) (.cells #[.slice none 0 0] 22)
      simpa using this
    have hko : w0.heap[w.heap.size + 1]? = some (.cells #[.string (bs of)] 9 (0, 0)) := by
      rw [hw0, Below.heap_alloc _ _ _ (by simp)]
      have := new_blk (w.alloc (.cells #[.string (bs m.name), .slice ia m.imports.length ic, .slice ga m.vars.length gc, .slice pa m.procs.length pc, .slice ba m.body.length bc] 38)) (.cells #[.string (bs of)] 9)
      simpa using this
    have hu0 : UseSt w0 (w.heap.size + 1) (w.heap.size + 1 + 1) of [] := ⟨(cell_blk hko).trans rfl, ⟨_, hkn, World.ownsRow_nil _ _ _ _⟩, by omega⟩
    have HC := Lib.hid (eachExpr_all h0 hpc hct (by omega) (h.to (B := w.heap.size + 1 + 1) hb0 (by omega)) hu0)
    have HB0 := Lib.hid hb0
    have HUS : Hid (Tp.us of (Tp.allR m) = Tp.usedR m of) := Tp.us_used h0
    have hul := Tp.us_len of (Tp.allR m)
    clear hb0 hkn hko hu0 h hie
    go_enter Tryz.func21, Tryz.ntmps21
    go_wp2_with fail
    rw [← hw0]
    clear hw0
    refine HC.out.mono ?_
    rintro e w1 ⟨rfl, hb1, hu1, hk1⟩
    generalize Tp.us of (Tp.allR m) = l at *
    obtain ⟨v, hv1, hv2⟩ := hu1.c
    have k1 : w1.cell? ⟨w.heap.size + 1 + 1, 0, none⟩ = some v := (cell_blk hv1).trans rfl
    have hl1 : w.heap.size + 1 + 1 < w1.heap.size := lt_blk hv1
    have HB1 : Hid (Below (w.heap.size + 1 + 1) w0 w1) := hb1
    have HSO := Lib.hid (sortS_post hv2 (by omega))
    have HV2 := Lib.hid hv2
    have HK1 := Lib.hid hv1
    clear hb1 hu1 hk1 hv1 hv2 HC
    obtain ⟨a, c, rfl⟩ := owns_shape HV2.out
    go_wp2_with fail
    refine HSO.out.mono ?_
    rintro e w2 ⟨rfl, l2, hl2, hm2, ho2, hg2⟩
    have hne : some (w.heap.size + 1 + 1) ≠ (Value.slice a l.length c).ownBlock := fun q => by
      have := (HV2.out.lt _ q.symm).1
      omega
    have e2 := (hg2.block _ hl1 hne).trans HK1.out
    have k2 : w2.cell? ⟨w.heap.size + 1 + 1, 0, none⟩ = some (.slice a l.length c) := (cell_blk e2).trans rfl
    have hl2' : w.heap.size + 1 + 1 < w2.heap.size := lt_blk e2
    have HB2 : Hid (Below w.heap.size w w2) := by
      have : Below (w.heap.size + 1 + 1) w0 w2 := HB1.out.grown hg2 (by omega) (fun k hk => by have := (HV2.out.lt k hk).1; omega)
      exact HB0.out.trans (this.mono (by omega))
    have hcp := compact_post ho2 (by omega)
    have HCP := Lib.hid hcp
    have HO2 := Lib.hid ho2
    have HM2 := Lib.hid hm2
    clear hcp ho2 hm2 hg2 e2 HSO k1 HK1
    go_wp2_with fail
    refine HCP.out.mono ?_
    rintro e w3 ⟨a3, c3, l3, rfl, hl3, hm3, hst, hg3⟩
    have HB3 : Hid (Below w.heap.size w w3) := HB2.out.grown hg3 (by omega) (fun k hk => by have := (HO2.out.lt k hk).1; omega)
    have HM3 : Hid (∀ x, x ∈ l3 ↔ x ∈ Tp.usedR m of) := fun x => by rw [hm3, HM2.out, HUS.out]
    have HST := Lib.hid hst
    clear hm3 hst hg3 HCP k2
    go_wp2_with fail
    go_ret
    exact ⟨a3, c3, l3, rfl, by omega, HM3.out, HST.out, HB3.out⟩
end Go.Proofs.YtadgeapgoggljaaGreatDoor
