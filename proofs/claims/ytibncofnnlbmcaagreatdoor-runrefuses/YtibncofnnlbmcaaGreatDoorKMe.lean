import Derived.Test.YtibncofnnlbmcaaGreatDoorKMd
import Derived.Defers
import Derived.Recover
/- check: statements, from the left: checkStmts. -/
namespace Go.Proofs.YtibncofnnlbmcaaGreatDoor
open Go.RowKit Go.Maps
open Tp (Bs Th Sy Seen X S)

def AskS (w : World) (b : Nat) (v : Value) (res : Option (Nat × Nat)) : Prop := ∀ W, Below w.heap.size w W → Calls Tryz.prog 81 #[v, finderV b] W (CkP W res)
def AskPl (w : World) (b : Nat) (v : Value) (res : Option (Nat × Nat)) : Prop := ∀ W, Below w.heap.size w W → Calls Tryz.prog 112 #[v, finderV b] W (CkP W res)
structure St1 (w : World) (b : Nat) (a : Option Addr) (i : Nat) (q : Option (Nat × Nat)) : Prop where
  out : ∃ (g code : Nat) (pos : Int) (nm : ByteArray) (iv vv ta ea : Option Addr) (tn tc en ec : Nat) (p0 r1 r2 r3 r4 : Option (Nat × Nat)), a = some ⟨g, 0, none⟩ ∧ g < w.heap.size ∧
    w.cell? ⟨g, i * 7, none⟩ = some (.int .i64 (code : Int)) ∧ w.cell? ⟨g, i * 7 + 1, none⟩ = some (.int .i64 pos) ∧ w.cell? ⟨g, i * 7 + 2, none⟩ = some (.string nm) ∧ w.cell? ⟨g, i * 7 + 3, none⟩ = some (.pointer iv) ∧ w.cell? ⟨g, i * 7 + 4, none⟩ = some (.pointer vv) ∧ w.cell? ⟨g, i * 7 + 5, none⟩ = some (.slice ta tn tc) ∧ w.cell? ⟨g, i * 7 + 6, none⟩ = some (.slice ea en ec) ∧
    (code = 1 → AskPl w b (.agg #[.int .i64 (code : Int), .int .i64 pos, .string nm, .pointer iv, .pointer vv, .slice ta tn tc, .slice ea en ec]) p0) ∧ (code ≠ 1 → p0 = none) ∧
    AskX w b (.pointer iv) r1 ∧ AskX w b (.pointer vv) r2 ∧ AskS w b (.slice ta tn tc) r3 ∧ AskS w b (.slice ea en ec) r4 ∧ q = p0.or (r1.or (r2.or (r3.or r4)))
theorem cell_box7' {w : World} {b : Nat} {v0 v1 v2 v3 v4 v5 v6 : Value} {t : TypeId} (h : w.heap[b]? = some (.cells #[v0, v1, v2, v3, v4, v5, v6] t (0, 0))) : w.cell? ⟨b, 0, none⟩ = some v0 ∧ w.cell? ⟨b, 1, none⟩ = some v1 ∧ w.cell? ⟨b, 2, none⟩ = some v2 ∧ w.cell? ⟨b, 3, none⟩ = some v3 ∧ w.cell? ⟨b, 4, none⟩ = some v4 ∧ w.cell? ⟨b, 5, none⟩ = some v5 ∧ w.cell? ⟨b, 6, none⟩ = some v6 :=
  ⟨(cell_blk h).trans rfl, (cell_blk h).trans rfl, (cell_blk h).trans rfl, (cell_blk h).trans rfl, (cell_blk h).trans rfl, (cell_blk h).trans rfl, (cell_blk h).trans rfl⟩
set_option maxRecDepth 100000 in
set_option maxHeartbeats 4000000 in
theorem checkStmts_walk {w : World} {b : Nat} {a : Option Addr} {n c : Nat} {q : Nat → Option (Nat × Nat)} (hq : ∀ i, i < n → St1 w b a i (q i)) (hn : n ≤ 9223372036854775807) :
    Calls Tryz.prog 81 #[.slice a n c, finderV b] w (CkP w ((List.range n).findSome? q)) := by
  have HQ := Lib.hid hq
  have hn' : (n : Int) ≤ 9223372036854775807 := by omega
  clear hq
  have HAX : Hid (∀ W v res, AskX w b v res → Below w.heap.size w W → Calls Tryz.prog 113 #[v, .func (.func 114) #[] #[.pointer (some ⟨b, 0, none⟩), .pointer (some ⟨b + 1, 0, none⟩)]] W (CkP W res)) := fun W v res h hW => h W hW
  have HAS : Hid (∀ W v res, AskS w b v res → Below w.heap.size w W → Calls Tryz.prog 81 #[v, .func (.func 114) #[] #[.pointer (some ⟨b, 0, none⟩), .pointer (some ⟨b + 1, 0, none⟩)]] W (CkP W res)) := fun W v res h hW => h W hW
  have HAP : Hid (∀ W v res, AskPl w b v res → Below w.heap.size w W → Calls Tryz.prog 112 #[v, .func (.func 114) #[] #[.pointer (some ⟨b, 0, none⟩), .pointer (some ⟨b + 1, 0, none⟩)]] W (CkP W res)) := fun W v res h hW => h W hW
  unfold finderV
  go_enter Tryz.func81, Tryz.ntmps81
  go_wp2_with fail
  go_loopg [8] n (fun k vi wr => ∃ i : Nat, i ≤ n ∧ k = n - i ∧ vi = .int .i64 (i : Int) ∧ Hid (Below w.heap.size w wr) ∧ Hid (∀ j, j < i → q j = none))
  case atStart => exact ⟨0, by omega, by omega, rfl, Below.refl _ _, fun j hj => absurd hj (by omega)⟩
  case round =>
    obtain ⟨i, hid, hk, rfl, HB, HN⟩ := hrel
    have hszr := HB.out.size
    by_cases hlt : i < n
    · have hlt' : (i : Int) < (n : Int) := by omega
      obtain ⟨g, code, pos, nm, iv, vv, ta, ea, tn, tc, en, ec, p0, r1, r2, r3, r4, hag, hgl, c0, c1, c2, c3, c4, c5, c6, ap, ap', a1, a2, a3, a4, hqi⟩ := (HQ.out i hlt).out
      subst hag
      have hcell : ∀ (o : Nat) (u : Value), w.cell? ⟨g, o, none⟩ = some u → wr.cell? ⟨g, o, none⟩ = some u := fun o u h => (HB.out.cell (p := ⟨g, o, none⟩) hgl).trans h
      have kc0 := hcell _ _ c0
      have kc1 := hcell _ _ c1
      have kc2 := hcell _ _ c2
      have kc3 := hcell _ _ c3
      have kc4 := hcell _ _ c4
      have kc5 := hcell _ _ c5
      have kc6 := hcell _ _ c6
      have hglr : g < wr.heap.size := by omega
      obtain ⟨w1, hw1⟩ : ∃ w1, w1 = wr.alloc (.cells #[.int .i64 (code : Int), .int .i64 pos, .string nm, .pointer iv, .pointer vv, .slice ta tn tc, .slice ea en ec] 181) := ⟨_, rfl⟩
      have HB1 : Hid (Below w.heap.size w w1) := by rw [hw1]; exact HB.out.alloc hszr _
      have HSB : Hid (w1.heap[wr.heap.size]? = some (.cells #[.int .i64 (code : Int), .int .i64 pos, .string nm, .pointer iv, .pointer vv, .slice ta tn tc, .slice ea en ec] 181 (0, 0))) := by rw [hw1]; exact new_blk _ _
      have hs1 : wr.heap.size < w1.heap.size := by rw [hw1]; simp
      have A1 := Lib.hid a1
      have A2 := Lib.hid a2
      have A3 := Lib.hid a3
      have A4 := Lib.hid a4
      have HQI := Lib.hid hqi
      clear c0 c1 c2 c3 c4 c5 c6 hcell a1 a2 a3 a4 hqi
      by_cases hcd : code = 1
      · have AP := Lib.hid (ap hcd)
        have hcd' : ((code : Int) == 1) = true := by simp; omega
        clear ap ap' hcd
        go_wp2_with fail
        rw [← hw1]
        refine (HAP.out w1 _ _ AP.out HB1.out).mono ?_
        intro e w2 hq
        cases p0 with
        | some er =>
          have HQQ := Lib.hid (CkP.up hq HB1.out)
          have HFS : Hid ((List.range n).findSome? q = some er) := range_some hlt HN.out (by rw [HQI.out]; rfl)
          obtain ⟨q1, q2⟩ := hq
          obtain ⟨ab, q3, rfl, q4, q5⟩ := q2.out
          clear q1 q2 q3 q4 q5
          go_wp2_with fail
          refine ⟨rfl, ?_⟩
          rw [HFS.out]
          exact HQQ.out
        | none =>
          obtain ⟨hb2, rfl⟩ := hq
          have HB2 : Hid (Below w.heap.size w w2) := HB1.out.trans (hb2.mono HB1.out.size)
          have HSB2 : Hid (w2.heap[wr.heap.size]? = some (.cells #[.int .i64 (code : Int), .int .i64 pos, .string nm, .pointer iv, .pointer vv, .slice ta tn tc, .slice ea en ec] 181 (0, 0))) := (hb2.block _ hs1).trans HSB.out
          clear hb2 AP kc0 kc1 kc2 kc3 kc4 kc5 kc6 hw1
          have m3 : w2.cell? ⟨wr.heap.size, 3, none⟩ = some (.pointer iv) := (cell_blk HSB2.out).trans rfl
          have m3' : wr.heap.size < w2.heap.size := lt_blk HSB2.out
          have m0 := (cell_box7' HSB2.out).1
          go_wp2_with fail
          refine (HAX.out w2 _ _ A1.out HB2.out).mono ?_
          intro e x1 hq
          cases r1 with
          | some er =>
            have HQQ := Lib.hid (CkP.up hq HB2.out)
            have HFS : Hid ((List.range n).findSome? q = some er) := range_some hlt HN.out (by rw [HQI.out]; rfl)
            obtain ⟨q1, q2⟩ := hq
            obtain ⟨ab, q3, rfl, q4, q5⟩ := q2.out
            clear q1 q2 q3 q4 q5
            go_wp2_with fail
            refine ⟨rfl, ?_⟩
            rw [HFS.out]
            exact HQQ.out
          | none =>
            obtain ⟨hb_, rfl⟩ := hq
            have HB_x1 : Hid (Below w.heap.size w x1) := HB2.out.trans (hb_.mono HB2.out.size)
            have HSB_x1 := Lib.hid ((hb_.block _ m3').trans HSB2.out)
            clear hb_ m3 m3' m0
            have m4 : x1.cell? ⟨wr.heap.size, 4, none⟩ = some (.pointer vv) := (cell_blk HSB_x1.out).trans rfl
            have m4' : wr.heap.size < x1.heap.size := lt_blk HSB_x1.out
            go_wp2_with fail
            refine (HAX.out x1 _ _ A2.out HB_x1.out).mono ?_
            intro e x2 hq
            cases r2 with
            | some er =>
              have HQQ := Lib.hid (CkP.up hq HB_x1.out)
              have HFS : Hid ((List.range n).findSome? q = some er) := range_some hlt HN.out (by rw [HQI.out]; rfl)
              obtain ⟨q1, q2⟩ := hq
              obtain ⟨ab, q3, rfl, q4, q5⟩ := q2.out
              clear q1 q2 q3 q4 q5
              go_wp2_with fail
              refine ⟨rfl, ?_⟩
              rw [HFS.out]
              exact HQQ.out
            | none =>
              obtain ⟨hb_, rfl⟩ := hq
              have HB_x2 : Hid (Below w.heap.size w x2) := HB_x1.out.trans (hb_.mono HB_x1.out.size)
              have HSB_x2 := Lib.hid ((hb_.block _ m4').trans HSB_x1.out)
              clear hb_ m4 m4'
              have m5 : x2.cell? ⟨wr.heap.size, 5, none⟩ = some (.slice ta tn tc) := (cell_blk HSB_x2.out).trans rfl
              have m5' : wr.heap.size < x2.heap.size := lt_blk HSB_x2.out
              go_wp2_with fail
              refine (HAS.out x2 _ _ A3.out HB_x2.out).mono ?_
              intro e x3 hq
              cases r3 with
              | some er =>
                have HQQ := Lib.hid (CkP.up hq HB_x2.out)
                have HFS : Hid ((List.range n).findSome? q = some er) := range_some hlt HN.out (by rw [HQI.out]; rfl)
                obtain ⟨q1, q2⟩ := hq
                obtain ⟨ab, q3, rfl, q4, q5⟩ := q2.out
                clear q1 q2 q3 q4 q5
                go_wp2_with fail
                refine ⟨rfl, ?_⟩
                rw [HFS.out]
                exact HQQ.out
              | none =>
                obtain ⟨hb_, rfl⟩ := hq
                have HB_x3 : Hid (Below w.heap.size w x3) := HB_x2.out.trans (hb_.mono HB_x2.out.size)
                have HSB_x3 := Lib.hid ((hb_.block _ m5').trans HSB_x2.out)
                clear hb_ m5 m5'
                have m6 : x3.cell? ⟨wr.heap.size, 6, none⟩ = some (.slice ea en ec) := (cell_blk HSB_x3.out).trans rfl
                have m6' : wr.heap.size < x3.heap.size := lt_blk HSB_x3.out
                go_wp2_with fail
                refine (HAS.out x3 _ _ A4.out HB_x3.out).mono ?_
                intro e x4 hq
                cases r4 with
                | some er =>
                  have HQQ := Lib.hid (CkP.up hq HB_x3.out)
                  have HFS : Hid ((List.range n).findSome? q = some er) := range_some hlt HN.out (by rw [HQI.out]; rfl)
                  obtain ⟨q1, q2⟩ := hq
                  obtain ⟨ab, q3, rfl, q4, q5⟩ := q2.out
                  clear q1 q2 q3 q4 q5
                  go_wp2_with fail
                  refine ⟨rfl, ?_⟩
                  rw [HFS.out]
                  exact HQQ.out
                | none =>
                  obtain ⟨hb_, rfl⟩ := hq
                  have HB_x4 : Hid (Below w.heap.size w x4) := HB_x3.out.trans (hb_.mono HB_x3.out.size)
                  have HSB_x4 := Lib.hid ((hb_.block _ m6').trans HSB_x3.out)
                  clear hb_ m6 m6'
                  have HN4 : Hid (∀ j, j < i + 1 → q j = none) := fun j hj => by
                    rcases Nat.lt_or_ge j i with q | q
                    · exact HN.out j q
                    · have : j = i := by omega
                      subst this
                      rw [HQI.out]
                      rfl
                  go_wp2_with fail
                  go_roundg (n - (i + 1))
                  case measure => omega
                  case rel => exact ⟨i + 1, by omega, rfl, by go_num, HB_x4, HN4⟩
      · have hp0 := ap' hcd
        have hcd' : ((code : Int) == 1) = false := by simp; omega
        subst hp0
        clear ap ap' hcd
        go_upto_region 3 with fail
        rw [← hw1]
        clear kc0 kc1 kc2 kc3 kc4 kc5 kc6 hw1
        have m3 : w1.cell? ⟨wr.heap.size, 3, none⟩ = some (.pointer iv) := (cell_blk HSB.out).trans rfl
        have m3' : wr.heap.size < w1.heap.size := lt_blk HSB.out
        have m0 := (cell_box7' HSB.out).1
        go_wp2_with fail
        refine (HAX.out w1 _ _ A1.out HB1.out).mono ?_
        intro e x1 hq
        cases r1 with
        | some er =>
          have HQQ := Lib.hid (CkP.up hq HB1.out)
          have HFS : Hid ((List.range n).findSome? q = some er) := range_some hlt HN.out (by rw [HQI.out]; rfl)
          obtain ⟨q1, q2⟩ := hq
          obtain ⟨ab, q3, rfl, q4, q5⟩ := q2.out
          clear q1 q2 q3 q4 q5
          go_wp2_with fail
          refine ⟨rfl, ?_⟩
          rw [HFS.out]
          exact HQQ.out
        | none =>
          obtain ⟨hb_, rfl⟩ := hq
          have HB_x1 : Hid (Below w.heap.size w x1) := HB1.out.trans (hb_.mono HB1.out.size)
          have HSB_x1 := Lib.hid ((hb_.block _ m3').trans HSB.out)
          clear hb_ m3 m3' m0
          have m4 : x1.cell? ⟨wr.heap.size, 4, none⟩ = some (.pointer vv) := (cell_blk HSB_x1.out).trans rfl
          have m4' : wr.heap.size < x1.heap.size := lt_blk HSB_x1.out
          go_wp2_with fail
          refine (HAX.out x1 _ _ A2.out HB_x1.out).mono ?_
          intro e x2 hq
          cases r2 with
          | some er =>
            have HQQ := Lib.hid (CkP.up hq HB_x1.out)
            have HFS : Hid ((List.range n).findSome? q = some er) := range_some hlt HN.out (by rw [HQI.out]; rfl)
            obtain ⟨q1, q2⟩ := hq
            obtain ⟨ab, q3, rfl, q4, q5⟩ := q2.out
            clear q1 q2 q3 q4 q5
            go_wp2_with fail
            refine ⟨rfl, ?_⟩
            rw [HFS.out]
            exact HQQ.out
          | none =>
            obtain ⟨hb_, rfl⟩ := hq
            have HB_x2 : Hid (Below w.heap.size w x2) := HB_x1.out.trans (hb_.mono HB_x1.out.size)
            have HSB_x2 := Lib.hid ((hb_.block _ m4').trans HSB_x1.out)
            clear hb_ m4 m4'
            have m5 : x2.cell? ⟨wr.heap.size, 5, none⟩ = some (.slice ta tn tc) := (cell_blk HSB_x2.out).trans rfl
            have m5' : wr.heap.size < x2.heap.size := lt_blk HSB_x2.out
            go_wp2_with fail
            refine (HAS.out x2 _ _ A3.out HB_x2.out).mono ?_
            intro e x3 hq
            cases r3 with
            | some er =>
              have HQQ := Lib.hid (CkP.up hq HB_x2.out)
              have HFS : Hid ((List.range n).findSome? q = some er) := range_some hlt HN.out (by rw [HQI.out]; rfl)
              obtain ⟨q1, q2⟩ := hq
              obtain ⟨ab, q3, rfl, q4, q5⟩ := q2.out
              clear q1 q2 q3 q4 q5
              go_wp2_with fail
              refine ⟨rfl, ?_⟩
              rw [HFS.out]
              exact HQQ.out
            | none =>
              obtain ⟨hb_, rfl⟩ := hq
              have HB_x3 : Hid (Below w.heap.size w x3) := HB_x2.out.trans (hb_.mono HB_x2.out.size)
              have HSB_x3 := Lib.hid ((hb_.block _ m5').trans HSB_x2.out)
              clear hb_ m5 m5'
              have m6 : x3.cell? ⟨wr.heap.size, 6, none⟩ = some (.slice ea en ec) := (cell_blk HSB_x3.out).trans rfl
              have m6' : wr.heap.size < x3.heap.size := lt_blk HSB_x3.out
              go_wp2_with fail
              refine (HAS.out x3 _ _ A4.out HB_x3.out).mono ?_
              intro e x4 hq
              cases r4 with
              | some er =>
                have HQQ := Lib.hid (CkP.up hq HB_x3.out)
                have HFS : Hid ((List.range n).findSome? q = some er) := range_some hlt HN.out (by rw [HQI.out]; rfl)
                obtain ⟨q1, q2⟩ := hq
                obtain ⟨ab, q3, rfl, q4, q5⟩ := q2.out
                clear q1 q2 q3 q4 q5
                go_wp2_with fail
                refine ⟨rfl, ?_⟩
                rw [HFS.out]
                exact HQQ.out
              | none =>
                obtain ⟨hb_, rfl⟩ := hq
                have HB_x4 : Hid (Below w.heap.size w x4) := HB_x3.out.trans (hb_.mono HB_x3.out.size)
                have HSB_x4 := Lib.hid ((hb_.block _ m6').trans HSB_x3.out)
                clear hb_ m6 m6'
                have HN4 : Hid (∀ j, j < i + 1 → q j = none) := fun j hj => by
                  rcases Nat.lt_or_ge j i with q | q
                  · exact HN.out j q
                  · have : j = i := by omega
                    subst this
                    rw [HQI.out]
                    rfl
                go_wp2_with fail
                go_roundg (n - (i + 1))
                case measure => omega
                case rel => exact ⟨i + 1, by omega, rfl, by go_num, HB_x4, HN4⟩
    · have hlt' : ¬ (i : Int) < (n : Int) := by omega
      have HFS : Hid ((List.range n).findSome? q = none) := range_none (fun j hj => HN.out j (by omega))
      go_wp2_with fail
      refine bodyPost_end (results_none rfl _ _ _) rfl ⟨HB.out, ?_⟩
      rw [HFS.out]
end Go.Proofs.YtibncofnnlbmcaaGreatDoor
/- check: checkStmts' contract. -/
namespace Go.Proofs.YtibncofnnlbmcaaGreatDoor
open Go.RowKit Go.Maps
open Tp (Bs Th Sy Seen X S)

theorem rs_cons (x : S) (l : List S) : Tp.rs (x :: l) = Tp.rs [x] ++ Tp.rs l := by
  obtain ⟨code, pos, nm, ix, vl, th, el⟩ := x
  simp [Tp.rs]
theorem rs_app (l m : List S) : Tp.rs (l ++ m) = Tp.rs l ++ Tp.rs m := by
  induction l with
  | nil => simp [Tp.rs]
  | cons x l ih => rw [List.cons_append, rs_cons, ih, rs_cons x l, List.append_assoc]
theorem rs_one (code pos : Nat) (nm : Bs) (ix vl : List X) (th el : List S) : Tp.rs [⟨code, pos, nm, ix, vl, th, el⟩] = (if code = 1 then [⟨if ix.isEmpty then 2 else 3, pos, [], nm, 0⟩] else []) ++ (Tp.rx ix ++ (Tp.rx vl ++ (Tp.rs th ++ Tp.rs el))) := by
  simp [Tp.rs]
theorem finds_range (J : Jd) : ∀ (ar : List S), (List.range ar.length).findSome? (fun i => (ar[i]?).bind fun y => (Tp.rs [y]).findSome? J) = (Tp.rs ar).findSome? J := by
  intro ar
  induction ar with
  | nil => simp [Tp.rs]
  | cons x l ih =>
    rw [rs_cons, List.findSome?_append, ← ih, List.length_cons, List.range_succ_eq_map, List.findSome?_cons, List.findSome?_map]
    have e2 : ((fun i => ((x :: l)[i]?).bind fun y => (Tp.rs [y]).findSome? J) ∘ Nat.succ) = fun i => (l[i]?).bind fun y => (Tp.rs [y]).findSome? J := by
      funext i
      simp
    rw [e2]
    simp only [List.getElem?_cons_zero, Option.bind_some]
    cases (Tp.rs [x]).findSome? J <;> rfl
theorem RepS.step {w w' : World} {D : Nat → Prop} {l : List S} {cs : List Value} (h : RepS w D l cs) (k : Below w.heap.size w w') : RepS w' D l cs := h.mono' (fun b hb hl => ⟨k.block b hl, hb⟩)
theorem OwnS.step {w w' : World} {D : Nat → Prop} {v : Value} {n : Nat} {cs : List Value} (h : OwnS w D v n cs) (k : Below w.heap.size w w') : OwnS w' D v n cs := h.mono (fun b hb hl => ⟨k.block b hl, hb⟩)
theorem RepS.get {w : World} {D : Nat → Prop} : ∀ (l : List S) (cs : List Value), RepS w D l cs → ∀ i (code pos : Nat) (nm : Bs) (ix vl : List X) (th el : List S), l[i]? = some ⟨code, pos, nm, ix, vl, th, el⟩ → ∃ (tv ev : Value) (ls vs tcs ecs : List Value),
    (∀ j, j < 7 → cs[i * 7 + j]? = [.int .i64 (code : Int), .int .i64 (pos : Int), .string (bs nm), ls.headD (.pointer none), vs.headD (.pointer none), tv, ev][j]?) ∧ RepL w D ix ls ∧ ls.length ≤ 1 ∧ RepL w D vl vs ∧ vs.length ≤ 1 ∧ RepS w D th tcs ∧ OwnS w D tv th.length tcs ∧ RepS w D el ecs ∧ OwnS w D ev el.length ecs := by
  intro l
  induction l with
  | nil => intro cs _ i _ _ _ _ _ _ _ h; simp at h
  | cons x l ih =>
    intro cs h i code pos nm ix vl th el hi
    obtain ⟨code', pos', nm', ix', vl', th', el'⟩ := x
    rw [RepS] at h
    obtain ⟨tv, ev, ls, vs, tcs, ecs, cs', h1, h2, h3, h4, h5, h6, h7, h8, h9, h10⟩ := h
    subst h1
    cases i with
    | zero =>
      simp only [List.getElem?_cons_zero, Option.some.injEq, S.mk.injEq] at hi
      obtain ⟨rfl, rfl, rfl, rfl, rfl, rfl, rfl⟩ := hi
      refine ⟨tv, ev, ls, vs, tcs, ecs, fun j hj => ?_, h2, h3, h4, h5, h6, h7, h8, h9⟩
      rw [Nat.zero_mul, Nat.zero_add, List.getElem?_append_left (by simpa using hj)]
    | succ i =>
      obtain ⟨tv', ev', ls', vs', tcs', ecs', q1, q2⟩ := ih cs' h10 i code pos nm ix vl th el (by simpa using hi)
      refine ⟨tv', ev', ls', vs', tcs', ecs', fun j hj => ?_, q2⟩
      rw [List.getElem?_append_right (by simp; omega)]
      have : (i + 1) * 7 + j - [Value.int .i64 (code' : Int), .int .i64 (pos' : Int), .string (bs nm'), ls.headD (.pointer none), vs.headD (.pointer none), tv, ev].length = i * 7 + j := by simp; omega
      rw [this, q1 j hj]
/- an expression that may be missing -/
theorem part_ask {w0 w : World} {b : Nat} {Sn : Seen} {fs : Near} (hF : Fnd w0 b Sn fs) (hfn : fs.length ≤ 1000) (hb : Below w0.heap.size w0 w) {D : Nat → Prop} (l : List X) (vs : List Value) (hs : Sm (Tp.rx l)) (hrep : RepL w D l vs) (hle : vs.length ≤ 1) :
    (∃ a, vs.headD (.pointer none) = .pointer a ∧ (a = none ↔ l.isEmpty = true)) ∧ AskX w b (vs.headD (.pointer none)) ((Tp.rx l).findSome? (Tp.judgeP (Tp.standV Sn fs))) := by
  have hvl := RepL.len _ _ hrep
  match l, vs, hrep with
  | [], vs, hrep =>
    rw [RepL] at hrep
    subst hrep
    refine ⟨⟨none, rfl, by simp⟩, fun W hW => ?_⟩
    have : (Tp.rx []).findSome? (Tp.judgeP (Tp.standV Sn fs)) = none := by simp [Tp.rx]
    rw [this]
    exact checkExpr_nil W b
  | [y], vs, hrep =>
    obtain ⟨yb, q1, q2⟩ := RepL.get _ _ hrep 0 (by simp)
    have hv : vs = [.pointer (some ⟨yb, 0, none⟩)] := by
      match vs, hle, hvl with
      | [v], _, _ => simp at q1; rw [q1]
    subst hv
    refine ⟨⟨_, rfl, by simp⟩, fun W hW => ?_⟩
    exact checkExpr_all hF hfn _ y (Nat.le_refl _) hs W D yb (hb.trans (hW.mono hb.size)) (hrep.step hW)
  | y :: z :: t, vs, hrep => simp at hvl; omega
theorem checkStmts_all {w0 : World} {b : Nat} {Sn : Seen} {fs : Near} (hF : Fnd w0 b Sn fs) (hfn : fs.length ≤ 1000) : ∀ (n : Nat) (l : List S), SizeOf.sizeOf l ≤ n → Sm (Tp.rs l) → ∀ (w : World) (D : Nat → Prop) (v : Value) (cs : List Value), Below w0.heap.size w0 w → RepS w D l cs → OwnS w D v l.length cs →
    Calls Tryz.prog 81 #[v, finderV b] w (CkP w ((Tp.rs l).findSome? (Tp.judgeP (Tp.standV Sn fs)))) := by
  intro n
  induction n with
  | zero => intro l hn; cases l <;> simp at hn <;> omega
  | succ n ih =>
    intro l hn hs w D v cs hb hrep hown
    rw [← finds_range]
    have hav : ∃ a c, v = .slice a l.length c ∧ l.length ≤ 9223372036854775807 ∧ ∀ i, i < l.length → ∃ g, a = some ⟨g, 0, none⟩ ∧ g < w.heap.size ∧ ∀ j, j < 7 → w.cell? ⟨g, i * 7 + j, none⟩ = cs[i * 7 + j]? := by
      rcases hown with ⟨q1, q2⟩ | ⟨g, cap, cur, q1, q2, q3, q4, q5, q6, q7⟩
      · exact ⟨none, 0, by rw [q2]; exact q1, by omega, fun i hi => by omega⟩
      · refine ⟨_, cap, q1, ?_, fun i hi => ⟨g, rfl, lt_blk q3, fun j hj => ?_⟩⟩
        · have : maxLen = 9223372036854775807 := rfl
          omega
        · rw [cell_blk q3, ← Array.getElem?_toList, ← q7, List.getElem?_take_of_lt (by omega)]
    obtain ⟨a, c, rfl, hln, hcell⟩ := hav
    refine checkStmts_walk (fun i hi => ?_) hln
    rcases hx : l[i] with ⟨code, pos, nm, ix, vl, th, el⟩
    have hxi : l[i]? = some ⟨code, pos, nm, ix, vl, th, el⟩ := by rw [List.getElem?_eq_getElem hi, hx]
    obtain ⟨tv, ev, ls, vs, tcs, ecs, q1, q2, q3, q4, q5, q6, q7, q8, q9⟩ := RepS.get _ _ hrep i code pos nm ix vl th el hxi
    obtain ⟨g, g1, g2, g3⟩ := hcell i hi
    have hmem : ∀ r ∈ Tp.rs [(⟨code, pos, nm, ix, vl, th, el⟩ : S)], r ∈ Tp.rs l := by
      intro r hr
      have e : l = l.take i ++ l[i] :: l.drop (i + 1) := by rw [← List.drop_eq_getElem_cons hi, List.take_append_drop]
      rw [e, rs_app, rs_cons, hx]
      simp [hr]
    have hone := rs_one code pos nm ix vl th el
    have hsz : SizeOf.sizeOf l[i] < SizeOf.sizeOf l := List.sizeOf_lt_of_mem (List.getElem_mem hi)
    rw [hx] at hsz
    simp at hsz
    have s1 : Sm (Tp.rx ix) := hs.sub fun r hr => hmem r (by rw [hone]; simp [hr])
    have s2 : Sm (Tp.rx vl) := hs.sub fun r hr => hmem r (by rw [hone]; simp [hr])
    have s3 : Sm (Tp.rs th) := hs.sub fun r hr => hmem r (by rw [hone]; simp [hr])
    have s4 : Sm (Tp.rs el) := hs.sub fun r hr => hmem r (by rw [hone]; simp [hr])
    obtain ⟨⟨iv, hiv, hive⟩, hA1⟩ := part_ask hF hfn hb ix ls s1 q2 q3
    obtain ⟨⟨vv, hvv, _⟩, hA2⟩ := part_ask hF hfn hb vl vs s2 q4 q5
    obtain ⟨ta, tc, rfl⟩ := q7.shape
    obtain ⟨ea, ec, rfl⟩ := q9.shape
    rw [hiv] at hA1 q1
    rw [hvv] at hA2 q1
    have hc := fun j (hj : j < 7) => (g3 j hj).trans (q1 j hj)
    refine ⟨g, code, pos, bs nm, iv, vv, ta, ea, th.length, tc, el.length, ec, if code = 1 then Tp.judgeP (Tp.standV Sn fs) ⟨if ix.isEmpty then 2 else 3, pos, [], nm, 0⟩ else none, _, _, (Tp.rs th).findSome? (Tp.judgeP (Tp.standV Sn fs)), (Tp.rs el).findSome? (Tp.judgeP (Tp.standV Sn fs)), g1, g2, hc 0 (by omega), hc 1 (by omega), hc 2 (by omega), hc 3 (by omega), hc 4 (by omega), hc 5 (by omega), hc 6 (by omega), ?_, fun h => if_neg h, hA1, hA2, fun W hW => ?_, fun W hW => ?_, ?_⟩
    · intro h1 W hW
      rw [if_pos h1]
      have hm := hs ⟨if ix.isEmpty then 2 else 3, pos, [], nm, 0⟩ (hmem _ (by rw [hone, if_pos h1]; simp))
      have := checkPlace_post (code := code) (pos := pos) (nm := nm) (iv := iv) (vv := vv) (ta := ta) (ea := ea) (tn := th.length) (tc := tc) (en := el.length) (ec := ec) ((hF.on hb).on (hW)) hfn hm.2
      have e : (if iv = none then 2 else 3) = (if ix.isEmpty = true then 2 else 3) := by
        by_cases hh : iv = none
        · rw [if_pos hh, if_pos (hive.1 hh)]
        · rw [if_neg hh, if_neg (fun q => hh (hive.2 q))]
      rw [e] at this
      exact this
    · exact ih th (by omega) s3 W D _ tcs (hb.trans (hW.mono hb.size)) (q6.step hW) (q7.step hW)
    · exact ih el (by omega) s4 W D _ ecs (hb.trans (hW.mono hb.size)) (q8.step hW) (q9.step hW)
    · rw [hxi, Option.bind_some, hone, List.findSome?_append, List.findSome?_append, List.findSome?_append, List.findSome?_append]
      congr 1
      by_cases h1 : code = 1
      · rw [if_pos h1, if_pos h1, List.findSome?_cons]
        cases Tp.judgeP (Tp.standV Sn fs) ⟨if ix.isEmpty = true then 2 else 3, pos, [], nm, 0⟩ <;> rfl
      · rw [if_neg h1, if_neg h1]; rfl
end Go.Proofs.YtibncofnnlbmcaaGreatDoor
/- check: caught, and what Check defers. -/
namespace Go.Proofs.YtibncofnnlbmcaaGreatDoor
open Go.RowKit

set_option maxRecDepth 100000 in
set_option maxHeartbeats 400000 in
theorem ccaught_at (a : Option Addr) (w : World) :
    Calls Tryz.prog 78 #[.iface 117 (.pointer a)] w fun e w' => e = .returned (.iface 117 (.pointer a)) ∧ w' = w := by
  have hta : ∀ (a : Option Addr) (w : World), (Instr.typeAssert (.iface 117 (.pointer a)) 20 117 true).run Tryz.prog w = .ok (.tuple #[.pointer a, .bool true]) w := fun a w => by kernel_rfl
  go_enter Tryz.func78, Tryz.ntmps78
  go_wp2
  go_ret
  exact ⟨rfl, rfl⟩
set_option maxRecDepth 100000 in
set_option maxHeartbeats 400000 in
theorem ccaught_en (n : Int) (w : World) :
    Calls Tryz.prog 78 #[.iface 44 (.int .i64 n)] w fun e w' => e = .returned (.iface 44 (.int .i64 n)) ∧ w' = w := by
  have hta : ∀ (n : Int) (w : World), (Instr.typeAssert (.iface 44 (.int .i64 n)) 20 117 true).run Tryz.prog w = .ok (.tuple #[.pointer none, .bool false]) w := fun a w => by kernel_rfl
  have htb : ∀ (n : Int) (w : World), (Instr.typeAssert (.iface 44 (.int .i64 n)) 20 44 true).run Tryz.prog w = .ok (.tuple #[.int .i64 n, .bool true]) w := fun a w => by kernel_rfl
  go_enter Tryz.func78, Tryz.ntmps78
  go_wp2
  go_ret
  exact ⟨rfl, rfl⟩
set_option maxRecDepth 100000 in
set_option maxHeartbeats 800000 in
theorem clate_at (eb ab : Nat) (older : List PanicEntry) (w : World) {xe : Value} (ke : w.cell? ⟨eb, 0, none⟩ = some xe) (ze : w.frozen? ⟨eb, 0, none⟩ = false) :
    CallsD Tryz.prog 77 #[.pointer (some ⟨eb, 0, none⟩)] (.panicking ({ v := .iface 117 (.pointer (some ⟨ab, 0, none⟩)), recovered := false } :: older)) w fun e u' w' =>
      e = .returned (.tuple #[]) ∧ u' = .panicking ({ v := .iface 117 (.pointer (some ⟨ab, 0, none⟩)), recovered := true } :: older) ∧ w' = w.setCell ⟨eb, 0, none⟩ (.iface 117 (.pointer (some ⟨ab, 0, none⟩))) := by
  refine callsD_of_wpS Tryz.func77 rfl fun c₀ cs hu => ?_
  apply wpS_seq
  apply wpS_region
  simp [wpOpsS, go_sem, recoverD, hu, Tryz.ntmps77, Exit.thenS]
  refine wpS_of_wp ?_
  generalize hQ : (fun (e : Exit) (a' : Act) (w' : World) => bodyPostS Tryz.prog _ _ _ _ e a' _ w') = Q
  show Code.wp Tryz.prog _ _ { tmps := #[.pointer (some ⟨eb, 0, none⟩), .iface 117 (.pointer (some ⟨ab, 0, none⟩)), .iface 117 (.pointer (some ⟨ab, 0, none⟩)), undef, undef, undef, undef], defers := [] } w
  go_wp2_with fail
  refine (ccaught_at _ w).mono ?_
  rintro e w' ⟨rfl, rfl⟩
  go_wp2_with fail
  subst hQ
  simp [bodyPostS, results, Tryz.results77]
set_option maxRecDepth 100000 in
set_option maxHeartbeats 800000 in
theorem clate_en (eb : Nat) (n : Int) (older : List PanicEntry) (w : World) {xe : Value} (ke : w.cell? ⟨eb, 0, none⟩ = some xe) (ze : w.frozen? ⟨eb, 0, none⟩ = false) :
    CallsD Tryz.prog 77 #[.pointer (some ⟨eb, 0, none⟩)] (.panicking ({ v := .iface 44 (.int .i64 n), recovered := false } :: older)) w fun e u' w' =>
      e = .returned (.tuple #[]) ∧ u' = .panicking ({ v := .iface 44 (.int .i64 n), recovered := true } :: older) ∧ w' = w.setCell ⟨eb, 0, none⟩ (.iface 44 (.int .i64 n)) := by
  refine callsD_of_wpS Tryz.func77 rfl fun c₀ cs hu => ?_
  apply wpS_seq
  apply wpS_region
  simp [wpOpsS, go_sem, recoverD, hu, Tryz.ntmps77, Exit.thenS]
  refine wpS_of_wp ?_
  generalize hQ : (fun (e : Exit) (a' : Act) (w' : World) => bodyPostS Tryz.prog _ _ _ _ e a' _ w') = Q
  show Code.wp Tryz.prog _ _ { tmps := #[.pointer (some ⟨eb, 0, none⟩), .iface 44 (.int .i64 n), .iface 44 (.int .i64 n), undef, undef, undef, undef], defers := [] } w
  go_wp2_with fail
  refine (ccaught_en _ w).mono ?_
  rintro e w' ⟨rfl, rfl⟩
  go_wp2_with fail
  subst hQ
  simp [bodyPostS, results, Tryz.results77]
set_option maxRecDepth 100000 in
set_option maxHeartbeats 800000 in
theorem clate_idle (e : Addr) (w : World) :
    CallsD Tryz.prog 77 #[.pointer (some e)] .returning w fun e u' w' => e = .returned (.tuple #[]) ∧ u' = .returning ∧ w' = w := by
  refine callsD_of_wpS Tryz.func77 rfl fun c₀ cs hu => ?_
  apply wpS_seq
  apply wpS_region
  simp [wpOpsS, go_sem, recoverD, hu, Tryz.ntmps77, Exit.thenS]
  refine wpS_of_wp ?_
  generalize hQ : (fun (e : Exit) (a' : Act) (w' : World) => bodyPostS Tryz.prog _ _ _ _ e a' _ w') = Q
  show Code.wp Tryz.prog _ _ { tmps := #[.pointer (some e), .nilIface, .nilIface, undef, undef, undef, undef], defers := [] } w
  go_wp2_with fail
  subst hQ
  cases c₀
  simp_all [bodyPostS, results, Tryz.results77]
end Go.Proofs.YtibncofnnlbmcaaGreatDoor
/- Check's frame when it dies: what it reads of it. -/
namespace Go.Proofs.YtibncofnnlbmcaaGreatDoor
open Go.RowKit
open Tp (Bs Th Sy Seen X S)

def CheckP (w : World) (res : Tp.Ck) (e : Ending) (w' : World) : Prop := Below w.heap.size w w' ∧ match res with
  | none => e = .returned .nilIface
  | some (en, none) => e = .returned (.iface 44 (.int .i64 (en : Int)))
  | some (en, some pl) => ∃ ab, e = .returned (.iface 117 (.pointer (some ⟨ab, 0, none⟩))) ∧ w.heap.size ≤ ab ∧ w'.cell? ⟨ab, 0, none⟩ = some (.int .i64 (en : Int)) ∧ w'.cell? ⟨ab, 1, none⟩ = some (.int .i64 (pl : Int))
theorem leaves_tmps {P : Program} {fn : Func} {t1 t2 : Array Value} {R : Ending → World → Prop} (h : ∀ w v, (results fn t1).run P w = .ok v w → (results fn t2).run P w = .ok v w) : ∀ (ds : List Deferred) (u : FrameMode) (w : World), Leaves P fn t1 R ds u w → Leaves P fn t2 R ds u w := by
  intro ds
  induction ds with
  | nil =>
    intro u w hl
    cases u with
    | returning => obtain ⟨v, h1, h2⟩ := hl; exact ⟨v, h w v h1, h2⟩
    | panicking c => exact hl
    | run => exact hl
  | cons d ds ih =>
    intro u w hl
    unfold Leaves at hl ⊢
    obtain ⟨h1, fv, cap, f, args, h2, h3, h4⟩ := hl
    refine ⟨h1, fv, cap, f, args, h2, h3, CallsD.mono h4 ?_⟩
    intro e u' w' hq
    cases e with
    | returned v => exact ih _ _ hq
    | panicked c => exact ih _ _ hq
    | outgrown => exact hq
theorem check_res {t1 t2 : Array Value} (h : t1[4]? = t2[4]?) : results Tryz.f37 t1 = results Tryz.f37 t2 := by
  simp [results, Tryz.results37, h]
theorem hq_put {R : Ending → World → Prop} {d : Nat} (hd : d ≠ 4) (v : Value) (c : List PanicEntry) (a : Act) (w : World) (h : bodyPostD Tryz.prog Tryz.f37 R (.panic c) (a.put (some d) v) w) : bodyPostD Tryz.prog Tryz.f37 R (.panic c) a w := by
  unfold bodyPostD at h ⊢
  refine leaves_tmps (fun w u hv => ?_) _ _ _ h
  rw [← hv]
  rw [check_res]
  show a.tmps[4]? = (a.tmps.setIfInBounds d v)[4]?
  rw [Array.getElem?_setIfInBounds_ne hd]
def dfr (eb : Nat) : List Deferred := [{ target := Target.fn (Fn.func 77) #[.pointer (some ⟨eb, 0, none⟩)], args := #[] }]
theorem cdies_at {w wX : World} {res : Tp.Ck} {eb ab : Nat} {a : Act} (h4 : a.tmps[4]? = some (.pointer (some ⟨eb, 0, none⟩))) (hd : a.defers = dfr eb) (he : wX.heap[eb]? = some (.cells #[.nilIface] 38 (0, 0)))
    (hR : CheckP w res (.returned (.iface 117 (.pointer (some ⟨ab, 0, none⟩)))) (wX.setCell ⟨eb, 0, none⟩ (.iface 117 (.pointer (some ⟨ab, 0, none⟩))))) :
    bodyPostD Tryz.prog Tryz.f37 (CheckP w res) (.panic [{ v := .iface 117 (.pointer (some ⟨ab, 0, none⟩)), recovered := false }]) a wX := by
  show Leaves Tryz.prog Tryz.f37 a.tmps (CheckP w res) a.defers (.panicking _) wX
  rw [hd]
  unfold dfr
  refine leaves_cons (f := 77) (args := #[.pointer (some ⟨eb, 0, none⟩)]) (by simp) (by simp [go_sem]) ?_
  refine (clate_at eb ab [] wX ((cell_blk he).trans rfl) (frozen_blk he)).mono ?_
  rintro e u' w'' ⟨rfl, rfl, hw⟩
  have k : w''.cell? ⟨eb, 0, none⟩ = some (.iface 117 (.pointer (some ⟨ab, 0, none⟩))) := by rw [hw]; exact (cell_blk (set_blk 0 _ he)).trans rfl
  rw [← hw] at hR
  refine leaves_tmps (t1 := #[undef, undef, undef, undef, .pointer (some ⟨eb, 0, none⟩)]) (fun w u hv => by rw [← hv]; rw [check_res]; rw [h4]; rfl) _ _ _ ?_
  simp [Leaves, settle, results, Tryz.results37, go_sem, k]
  exact hR
theorem cdies_en {w wX : World} {res : Tp.Ck} {eb : Nat} {n : Int} {a : Act} (h4 : a.tmps[4]? = some (.pointer (some ⟨eb, 0, none⟩))) (hd : a.defers = dfr eb) (he : wX.heap[eb]? = some (.cells #[.nilIface] 38 (0, 0)))
    (hR : CheckP w res (.returned (.iface 44 (.int .i64 n))) (wX.setCell ⟨eb, 0, none⟩ (.iface 44 (.int .i64 n)))) :
    bodyPostD Tryz.prog Tryz.f37 (CheckP w res) (.panic [{ v := .iface 44 (.int .i64 n), recovered := false }]) a wX := by
  show Leaves Tryz.prog Tryz.f37 a.tmps (CheckP w res) a.defers (.panicking _) wX
  rw [hd]
  unfold dfr
  refine leaves_cons (f := 77) (args := #[.pointer (some ⟨eb, 0, none⟩)]) (by simp) (by simp [go_sem]) ?_
  refine (clate_en eb n [] wX ((cell_blk he).trans rfl) (frozen_blk he)).mono ?_
  rintro e u' w'' ⟨rfl, rfl, hw⟩
  have k : w''.cell? ⟨eb, 0, none⟩ = some (.iface 44 (.int .i64 n)) := by rw [hw]; exact (cell_blk (set_blk 0 _ he)).trans rfl
  rw [← hw] at hR
  refine leaves_tmps (t1 := #[undef, undef, undef, undef, .pointer (some ⟨eb, 0, none⟩)]) (fun w u hv => by rw [← hv]; rw [check_res]; rw [h4]; rfl) _ _ _ ?_
  simp [Leaves, settle, results, Tryz.results37, go_sem, k]
  exact hR
end Go.Proofs.YtibncofnnlbmcaaGreatDoor
