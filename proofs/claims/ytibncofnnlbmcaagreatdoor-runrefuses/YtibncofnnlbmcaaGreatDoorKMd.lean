import Derived.Test.YtibncofnnlbmcaaGreatDoorKMc
/- check: what a Set sets: checkPlace. -/
namespace Go.Proofs.YtibncofnnlbmcaaGreatDoor
open Go.RowKit Go.Maps
open Tp (Bs Th Sy Seen)

theorem CkP.up {w W w' : World} {res : Option (Nat × Nat)} {e : Ending} (h : CkP W res e w') (k : Below w.heap.size w W) : CkP w res e w' := by
  obtain ⟨h1, h2⟩ := h
  refine ⟨k.trans (h1.mono k.size), ?_⟩
  cases res with
  | none => exact h2
  | some er => exact Thrown.mono h2 k.size
set_option maxRecDepth 100000 in
set_option maxHeartbeats 1000000 in
theorem checkPlace_post {w : World} {b : Nat} {S : Seen} {fs : Near} (h : Fnd w b S fs) (hfn : fs.length ≤ 1000) {code pos : Nat} {nm : Bs} {iv vv ta ea : Option Addr} {tn tc en ec : Nat} (hl : nm.length ≤ 1000000) :
    Calls Tryz.prog 112 #[.agg #[.int .i64 (code : Int), .int .i64 (pos : Int), .string (bs nm), .pointer iv, .pointer vv, .slice ta tn tc, .slice ea en ec], finderV b] w (CkP w (Tp.judgeP (Tp.standV S fs) ⟨if iv = none then 2 else 3, pos, [], nm, 0⟩)) := by
  have HC : Hid (∀ W x cd, Below w.heap.size w W → W.heap[x]? = some (.cells #[.int .i64 (cd : Nat), .int .i64 (pos : Int), .int .i64 0, .string ⟨#[]⟩, .string (bs nm), .string ⟨#[]⟩, .pointer none, .pointer none, .slice none 0 0] 216 (0, 0)) → cd < 1000 → Calls Tryz.prog 146 #[.pointer (some ⟨x, 0, none⟩), finderV b] W (CkP w (Tp.judgeP (Tp.standV S fs) ⟨cd, pos, [], nm, 0⟩))) := by
    intro W x cd hW hx hcd
    refine (checkRef_post (r := ⟨cd, pos, [], nm, 0⟩) (h.on hW) hfn ⟨0, ⟨#[]⟩, none, none, none, 0, hx⟩ (by simp) hl hcd).mono ?_
    intro e w' hq
    exact hq.up hW
  unfold finderV at HC ⊢
  clear h
  cases iv with
  | none =>
    rw [if_pos rfl]
    have HC2 := Lib.hid (fun W x => HC.out W x 2)
    clear HC
    generalize Tp.judgeP (Tp.standV S fs) ⟨2, pos, [], nm, 0⟩ = res at HC2 ⊢
    have hbe : ∀ o1 o2, Below w.heap.size w ((w.alloc o1).alloc o2) := fun o1 o2 => ((Below.refl _ _).alloc (Nat.le_refl _) _).alloc (by simp) _
    have HBE := Lib.hid hbe
    clear hbe
    go_enter Tryz.func112, Tryz.ntmps112
    go_wp2_with fail
    refine (HC2.out _ _ (HBE.out _ _) (by simpa using new_blk (w.alloc _) _) (by omega)).mono ?_
    intro e w' hq
    cases res with
    | none =>
      have HQ := Lib.hid hq
      obtain ⟨q1, q2⟩ := hq
      simp only at q2
      subst q2
      clear q1
      go_wp2_with fail
      exact bodyPost_end (results_none rfl _ _ _) rfl HQ.out
    | some er =>
      have HQ := Lib.hid hq
      obtain ⟨q1, q2⟩ := hq
      obtain ⟨ab, q3, rfl, q4, q5⟩ := q2.out
      clear q1 q2 q3 q4 q5
      go_wp2_with fail
      exact ⟨rfl, HQ.out⟩
  | some i0 =>
    rw [if_neg (by simp)]
    have HC2 := Lib.hid (fun W x => HC.out W x 3)
    clear HC
    generalize Tp.judgeP (Tp.standV S fs) ⟨3, pos, [], nm, 0⟩ = res at HC2 ⊢
    have hbe : ∀ o1 o2, Below w.heap.size w ((w.alloc o1).alloc o2) := fun o1 o2 => ((Below.refl _ _).alloc (Nat.le_refl _) _).alloc (by simp) _
    have HBE := Lib.hid hbe
    clear hbe
    go_enter Tryz.func112, Tryz.ntmps112
    go_wp2_with fail
    refine (HC2.out _ _ (HBE.out _ _) (by simpa using new_blk (w.alloc _) _) (by omega)).mono ?_
    intro e w' hq
    cases res with
    | none =>
      have HQ := Lib.hid hq
      obtain ⟨q1, q2⟩ := hq
      simp only at q2
      subst q2
      clear q1
      go_wp2_with fail
      exact bodyPost_end (results_none rfl _ _ _) rfl HQ.out
    | some er =>
      have HQ := Lib.hid hq
      obtain ⟨q1, q2⟩ := hq
      obtain ⟨ab, q3, rfl, q4, q5⟩ := q2.out
      clear q1 q2 q3 q4 q5
      go_wp2_with fail
      exact ⟨rfl, HQ.out⟩
end Go.Proofs.YtibncofnnlbmcaaGreatDoor
/- check: an expression, and what lies in it: checkExpr. -/
namespace Go.Proofs.YtibncofnnlbmcaaGreatDoor
open Go.RowKit Go.Maps
open Tp (Bs Th Sy Seen X S)

abbrev Jd := Tp.R → Option (Nat × Nat)
def Sm (l : List Tp.R) : Prop := ∀ r ∈ l, r.mod.length ≤ 1000000 ∧ r.name.length ≤ 1000000
theorem Sm.sub {l m : List Tp.R} (h : Sm l) (k : ∀ r ∈ m, r ∈ l) : Sm m := fun r hr => h r (k r hr)
theorem rx_cons (x : X) (l : List X) : Tp.rx (x :: l) = Tp.rx [x] ++ Tp.rx l := by
  obtain ⟨code, pos, n, m, nm, op, le, ri, ar⟩ := x
  simp [Tp.rx]
theorem rx_app (l m : List X) : Tp.rx (l ++ m) = Tp.rx l ++ Tp.rx m := by
  induction l with
  | nil => simp [Tp.rx]
  | cons x l ih => rw [List.cons_append, rx_cons, ih, rx_cons x l, List.append_assoc]
theorem rx_one (code pos n : Nat) (m nm op : Bs) (le ri ar : List X) : Tp.rx [⟨code, pos, n, m, nm, op, le, ri, ar⟩] = (if code = 2 ∨ code = 3 ∨ code = 6 then [⟨code, pos, m, nm, ar.length⟩] else []) ++ (Tp.rx le ++ (Tp.rx ri ++ Tp.rx ar)) := by
  simp [Tp.rx]
theorem RepL.step {w w' : World} {D : Nat → Prop} {l : List X} {vs : List Value} (h : RepL w D l vs) (k : Below w.heap.size w w') : RepL w' D l vs :=
  RepL.mono (fun b hb hl => ⟨k.block b hl, hb⟩) _ _ _ (Nat.le_refl _) h
theorem RepL.get {w : World} {D : Nat → Prop} : ∀ (l : List X) (vs : List Value), RepL w D l vs → ∀ i (h : i < l.length), ∃ b, vs[i]? = some (.pointer (some ⟨b, 0, none⟩)) ∧ RepL w D [l[i]] [.pointer (some ⟨b, 0, none⟩)] := by
  intro l
  induction l with
  | nil => intro vs _ i h; simp at h
  | cons x l ih =>
    intro vs h i hi
    obtain ⟨code, pos, n, m, nm, op, le, ri, ar⟩ := x
    rw [RepL] at h
    obtain ⟨b, av, ls, rs, gs, vs', h1, h2, h3, h4, h5, h6, h7, h8, h9, h10⟩ := h
    subst h1
    cases i with
    | zero =>
      refine ⟨b, rfl, ?_⟩
      show RepL w D [⟨code, pos, n, m, nm, op, le, ri, ar⟩] _
      rw [RepL]
      exact ⟨b, av, ls, rs, gs, [], rfl, h2, h3, h4, h5, h6, h7, h8, h9, by rw [RepL]⟩
    | succ i =>
      obtain ⟨b', q1, q2⟩ := ih vs' h10 i (by simpa using hi)
      exact ⟨b', by simpa using q1, by simpa using q2⟩
set_option maxRecDepth 100000 in
set_option maxHeartbeats 400000 in
theorem checkExpr_nil (w : World) (b : Nat) : Calls Tryz.prog 113 #[.pointer none, finderV b] w (CkP w none) := by
  unfold finderV
  go_enter Tryz.func113, Tryz.ntmps113
  go_wp2_with fail
  exact bodyPost_end (results_none rfl _ _ _) rfl ⟨Below.refl _ _, rfl⟩
theorem range_none {n : Nat} {f : Nat → Option (Nat × Nat)} (h : ∀ j, j < n → f j = none) : (List.range n).findSome? f = none := by
  rw [List.findSome?_eq_none_iff]
  intro j hj
  exact h j (List.mem_range.1 hj)
theorem range_some {n i : Nat} {f : Nat → Option (Nat × Nat)} {x : Nat × Nat} (hi : i < n) (h : ∀ j, j < i → f j = none) (hx : f i = some x) : (List.range n).findSome? f = some x := by
  have e : List.range n = List.range i ++ i :: (List.range n).drop (i + 1) := by
    have h1 : (List.range n)[i]? = some i := by simp [hi]
    have h2 : (List.range n).take i = List.range i := by rw [List.take_range]; congr 1; omega
    rw [← h2]
    obtain ⟨hl, e⟩ := List.getElem?_eq_some_iff.1 h1
    conv => lhs; rw [← List.take_append_drop i (List.range n), List.drop_eq_getElem_cons hl, e]
  rw [e, List.findSome?_append, range_none h, List.findSome?_cons, hx]
  rfl
/- what the walk asks of its parts -/
def AskX (w : World) (b : Nat) (v : Value) (res : Option (Nat × Nat)) : Prop := ∀ W, Below w.heap.size w W → Calls Tryz.prog 113 #[v, finderV b] W (CkP W res)
set_option maxRecDepth 100000 in
set_option maxHeartbeats 4000000 in
theorem checkExpr_walk {w : World} {b x code : Nat} {pos n : Int} {md nm op : ByteArray} {lv rv aa : Option Addr} {an ac : Nat} (hblk : w.heap[x]? = some (.cells #[.int .i64 (code : Int), .int .i64 pos, .int .i64 n, .string md, .string nm, .string op, .pointer lv, .pointer rv, .slice aa an ac] 216 (0, 0)))
    {r0 r1 r2 : Option (Nat × Nat)} {ra : Nat → Option (Nat × Nat)}
    (hR : (code = 2 ∨ code = 3 ∨ code = 6) → Calls Tryz.prog 146 #[.pointer (some ⟨x, 0, none⟩), finderV b] w (CkP w r0)) (hR' : ¬ (code = 2 ∨ code = 3 ∨ code = 6) → r0 = none)
    (hL : AskX w b (.pointer lv) r1) (hRi : AskX w b (.pointer rv) r2)
    (hA : ∀ i, i < an → ∃ g y, aa = some ⟨g, 0, none⟩ ∧ g < w.heap.size ∧ w.cell? ⟨g, i, none⟩ = some (.pointer (some ⟨y, 0, none⟩)) ∧ AskX w b (.pointer (some ⟨y, 0, none⟩)) (ra i)) (han : an ≤ 9223372036854775807) {res : Option (Nat × Nat)} (hres : res = r0.or (r1.or (r2.or ((List.range an).findSome? ra)))) :
    Calls Tryz.prog 113 #[.pointer (some ⟨x, 0, none⟩), finderV b] w (CkP w res) := by
  have hxl := lt_blk hblk
  have HK := Lib.hid hblk
  have HL := Lib.hid hL
  have HRI := Lib.hid hRi
  have HA := Lib.hid hA
  have HRES := Lib.hid hres
  have han' : (an : Int) ≤ 9223372036854775807 := by omega
  have k0 : w.cell? ⟨x, 0, none⟩ = some (.int .i64 (code : Int)) := (cell_blk hblk).trans rfl
  clear hblk hL hRi hA hres
  rcases (show code = 2 ∨ code = 3 ∨ code = 6 ∨ ¬ (code = 2 ∨ code = 3 ∨ code = 6) by omega) with hcd | hcd | hcd | hcd
  · have HRF := Lib.hid (hR (by omega))
    subst hcd
    clear hR hR'
    unfold finderV at *
    go_enter Tryz.func113, Tryz.ntmps113
    go_wp2_with fail
    refine HRF.out.mono ?_
    intro e w1 hq
    cases r0 with
    | some er =>
      have HQ := Lib.hid hq
      obtain ⟨q1, q2⟩ := hq
      obtain ⟨ab, q3, rfl, q4, q5⟩ := q2.out
      clear q1 q2 q3 q4 q5 k0 HRF
      go_wp2_with fail
      refine ⟨rfl, ?_⟩
      rw [HRES.out]
      exact HQ.out
    | none =>
      obtain ⟨hb1, rfl⟩ := hq
      have HB1 := Lib.hid hb1
      clear hb1 k0 HRF
      have hsz1 := HB1.out.size
      have e1 := (HB1.out.block x hxl).trans HK.out
      have k6 : w1.cell? ⟨x, 6, none⟩ = some (.pointer lv) := (cell_blk e1).trans rfl
      have hx1 : x < w1.heap.size := by omega
      have HL1 := Lib.hid (HL.out w1 HB1.out)
      clear e1
      go_wp2_with fail
      refine HL1.out.mono ?_
      intro e w2 hq
      cases r1 with
      | some er =>
        have HQ := Lib.hid (CkP.up hq HB1.out)
        obtain ⟨q1, q2⟩ := hq
        obtain ⟨ab, q3, rfl, q4, q5⟩ := q2.out
        clear q1 q2 q3 q4 q5 k6
        go_wp2_with fail
        refine ⟨rfl, ?_⟩
        rw [HRES.out]
        exact HQ.out
      | none =>
        obtain ⟨hb2, rfl⟩ := hq
        have HB2 : Hid (Below w.heap.size w w2) := HB1.out.trans (hb2.mono hsz1)
        have hsz2 := HB2.out.size
        have e2 := (HB2.out.block x hxl).trans HK.out
        have k7 : w2.cell? ⟨x, 7, none⟩ = some (.pointer rv) := (cell_blk e2).trans rfl
        have hx2 : x < w2.heap.size := by omega
        have HR1 := Lib.hid (HRI.out w2 HB2.out)
        clear e2 hb2 k6 HL1
        go_wp2_with fail
        refine HR1.out.mono ?_
        intro e w3 hq
        cases r2 with
        | some er =>
          have HQ := Lib.hid (CkP.up hq HB2.out)
          obtain ⟨q1, q2⟩ := hq
          obtain ⟨ab, q3, rfl, q4, q5⟩ := q2.out
          clear q1 q2 q3 q4 q5 k7
          go_wp2_with fail
          refine ⟨rfl, ?_⟩
          rw [HRES.out]
          exact HQ.out
        | none =>
          obtain ⟨hb3, rfl⟩ := hq
          have HB3 : Hid (Below w.heap.size w w3) := HB2.out.trans (hb3.mono hsz2)
          have hsz3 := HB3.out.size
          have e3 := (HB3.out.block x hxl).trans HK.out
          have k8 : w3.cell? ⟨x, 8, none⟩ = some (.slice aa an ac) := (cell_blk e3).trans rfl
          have hx3 : x < w3.heap.size := by omega
          clear e3 hb3 k7 HR1
          go_wp2_with fail
          go_loopg [47] an (fun k vi wr => ∃ i : Nat, i ≤ an ∧ k = an - i ∧ vi = .int .i64 (i : Int) ∧ Hid (Below w.heap.size w wr) ∧ Hid (∀ j, j < i → ra j = none))
          case atStart => exact ⟨0, by omega, by omega, rfl, HB3, fun j hj => absurd hj (by omega)⟩
          case round =>
            obtain ⟨i, hid, hk, rfl, HB, HN⟩ := hrel
            have hszr := HB.out.size
            by_cases hlt : i < an
            · have hlt' : (i : Int) < (an : Int) := by omega
              obtain ⟨g, y, hag, hgl, hcg, hask⟩ := HA.out i hlt
              have kc : wr.cell? ⟨g, i, none⟩ = some (.pointer (some ⟨y, 0, none⟩)) := (HB.out.cell (p := ⟨g, i, none⟩) hgl).trans hcg
              have hglr : g < wr.heap.size := by omega
              subst hag
              have HC := Lib.hid (hask wr HB.out)
              clear hcg hask
              go_wp2_with fail
              refine HC.out.mono ?_
              intro e w4 hq
              cases hri : ra i with
              | some er =>
                rw [hri] at hq
                have HQ := Lib.hid (CkP.up hq HB.out)
                have HFS := Lib.hid (range_some hlt HN.out hri)
                obtain ⟨q1, q2⟩ := hq
                obtain ⟨ab, q3, rfl, q4, q5⟩ := q2.out
                clear q1 q2 q3 q4 q5 hri
                go_wp2_with fail
                refine ⟨rfl, ?_⟩
                rw [HRES.out, HFS.out]
                exact HQ.out
              | none =>
                rw [hri] at hq
                obtain ⟨hb4, rfl⟩ := hq
                have HB4 : Hid (Below w.heap.size w w4) := HB.out.trans (hb4.mono hszr)
                have HN4 : Hid (∀ j, j < i + 1 → ra j = none) := fun j hj => by
                  rcases Nat.lt_or_ge j i with q | q
                  · exact HN.out j q
                  · have : j = i := by omega
                    subst this
                    exact hri
                clear hb4 hri HC
                go_wp2_with fail
                go_roundg (an - (i + 1))
                case measure => omega
                case rel => exact ⟨i + 1, by omega, rfl, by go_num, HB4, HN4⟩
            · have hlt' : ¬ (i : Int) < (an : Int) := by omega
              have HFS : Hid ((List.range an).findSome? ra = none) := range_none (fun j hj => HN.out j (by omega))
              go_wp2_with fail
              refine bodyPost_end (results_none rfl _ _ _) rfl ⟨HB.out, ?_⟩
              rw [HRES.out, HFS.out]
              rfl
  · have HRF := Lib.hid (hR (by omega))
    subst hcd
    clear hR hR'
    unfold finderV at *
    go_enter Tryz.func113, Tryz.ntmps113
    go_wp2_with fail
    refine HRF.out.mono ?_
    intro e w1 hq
    cases r0 with
    | some er =>
      have HQ := Lib.hid hq
      obtain ⟨q1, q2⟩ := hq
      obtain ⟨ab, q3, rfl, q4, q5⟩ := q2.out
      clear q1 q2 q3 q4 q5 k0 HRF
      go_wp2_with fail
      refine ⟨rfl, ?_⟩
      rw [HRES.out]
      exact HQ.out
    | none =>
      obtain ⟨hb1, rfl⟩ := hq
      have HB1 := Lib.hid hb1
      clear hb1 k0 HRF
      have hsz1 := HB1.out.size
      have e1 := (HB1.out.block x hxl).trans HK.out
      have k6 : w1.cell? ⟨x, 6, none⟩ = some (.pointer lv) := (cell_blk e1).trans rfl
      have hx1 : x < w1.heap.size := by omega
      have HL1 := Lib.hid (HL.out w1 HB1.out)
      clear e1
      go_wp2_with fail
      refine HL1.out.mono ?_
      intro e w2 hq
      cases r1 with
      | some er =>
        have HQ := Lib.hid (CkP.up hq HB1.out)
        obtain ⟨q1, q2⟩ := hq
        obtain ⟨ab, q3, rfl, q4, q5⟩ := q2.out
        clear q1 q2 q3 q4 q5 k6
        go_wp2_with fail
        refine ⟨rfl, ?_⟩
        rw [HRES.out]
        exact HQ.out
      | none =>
        obtain ⟨hb2, rfl⟩ := hq
        have HB2 : Hid (Below w.heap.size w w2) := HB1.out.trans (hb2.mono hsz1)
        have hsz2 := HB2.out.size
        have e2 := (HB2.out.block x hxl).trans HK.out
        have k7 : w2.cell? ⟨x, 7, none⟩ = some (.pointer rv) := (cell_blk e2).trans rfl
        have hx2 : x < w2.heap.size := by omega
        have HR1 := Lib.hid (HRI.out w2 HB2.out)
        clear e2 hb2 k6 HL1
        go_wp2_with fail
        refine HR1.out.mono ?_
        intro e w3 hq
        cases r2 with
        | some er =>
          have HQ := Lib.hid (CkP.up hq HB2.out)
          obtain ⟨q1, q2⟩ := hq
          obtain ⟨ab, q3, rfl, q4, q5⟩ := q2.out
          clear q1 q2 q3 q4 q5 k7
          go_wp2_with fail
          refine ⟨rfl, ?_⟩
          rw [HRES.out]
          exact HQ.out
        | none =>
          obtain ⟨hb3, rfl⟩ := hq
          have HB3 : Hid (Below w.heap.size w w3) := HB2.out.trans (hb3.mono hsz2)
          have hsz3 := HB3.out.size
          have e3 := (HB3.out.block x hxl).trans HK.out
          have k8 : w3.cell? ⟨x, 8, none⟩ = some (.slice aa an ac) := (cell_blk e3).trans rfl
          have hx3 : x < w3.heap.size := by omega
          clear e3 hb3 k7 HR1
          go_wp2_with fail
          go_loopg [47] an (fun k vi wr => ∃ i : Nat, i ≤ an ∧ k = an - i ∧ vi = .int .i64 (i : Int) ∧ Hid (Below w.heap.size w wr) ∧ Hid (∀ j, j < i → ra j = none))
          case atStart => exact ⟨0, by omega, by omega, rfl, HB3, fun j hj => absurd hj (by omega)⟩
          case round =>
            obtain ⟨i, hid, hk, rfl, HB, HN⟩ := hrel
            have hszr := HB.out.size
            by_cases hlt : i < an
            · have hlt' : (i : Int) < (an : Int) := by omega
              obtain ⟨g, y, hag, hgl, hcg, hask⟩ := HA.out i hlt
              have kc : wr.cell? ⟨g, i, none⟩ = some (.pointer (some ⟨y, 0, none⟩)) := (HB.out.cell (p := ⟨g, i, none⟩) hgl).trans hcg
              have hglr : g < wr.heap.size := by omega
              subst hag
              have HC := Lib.hid (hask wr HB.out)
              clear hcg hask
              go_wp2_with fail
              refine HC.out.mono ?_
              intro e w4 hq
              cases hri : ra i with
              | some er =>
                rw [hri] at hq
                have HQ := Lib.hid (CkP.up hq HB.out)
                have HFS := Lib.hid (range_some hlt HN.out hri)
                obtain ⟨q1, q2⟩ := hq
                obtain ⟨ab, q3, rfl, q4, q5⟩ := q2.out
                clear q1 q2 q3 q4 q5 hri
                go_wp2_with fail
                refine ⟨rfl, ?_⟩
                rw [HRES.out, HFS.out]
                exact HQ.out
              | none =>
                rw [hri] at hq
                obtain ⟨hb4, rfl⟩ := hq
                have HB4 : Hid (Below w.heap.size w w4) := HB.out.trans (hb4.mono hszr)
                have HN4 : Hid (∀ j, j < i + 1 → ra j = none) := fun j hj => by
                  rcases Nat.lt_or_ge j i with q | q
                  · exact HN.out j q
                  · have : j = i := by omega
                    subst this
                    exact hri
                clear hb4 hri HC
                go_wp2_with fail
                go_roundg (an - (i + 1))
                case measure => omega
                case rel => exact ⟨i + 1, by omega, rfl, by go_num, HB4, HN4⟩
            · have hlt' : ¬ (i : Int) < (an : Int) := by omega
              have HFS : Hid ((List.range an).findSome? ra = none) := range_none (fun j hj => HN.out j (by omega))
              go_wp2_with fail
              refine bodyPost_end (results_none rfl _ _ _) rfl ⟨HB.out, ?_⟩
              rw [HRES.out, HFS.out]
              rfl
  · have HRF := Lib.hid (hR (by omega))
    subst hcd
    clear hR hR'
    unfold finderV at *
    go_enter Tryz.func113, Tryz.ntmps113
    go_wp2_with fail
    refine HRF.out.mono ?_
    intro e w1 hq
    cases r0 with
    | some er =>
      have HQ := Lib.hid hq
      obtain ⟨q1, q2⟩ := hq
      obtain ⟨ab, q3, rfl, q4, q5⟩ := q2.out
      clear q1 q2 q3 q4 q5 k0 HRF
      go_wp2_with fail
      refine ⟨rfl, ?_⟩
      rw [HRES.out]
      exact HQ.out
    | none =>
      obtain ⟨hb1, rfl⟩ := hq
      have HB1 := Lib.hid hb1
      clear hb1 k0 HRF
      have hsz1 := HB1.out.size
      have e1 := (HB1.out.block x hxl).trans HK.out
      have k6 : w1.cell? ⟨x, 6, none⟩ = some (.pointer lv) := (cell_blk e1).trans rfl
      have hx1 : x < w1.heap.size := by omega
      have HL1 := Lib.hid (HL.out w1 HB1.out)
      clear e1
      go_wp2_with fail
      refine HL1.out.mono ?_
      intro e w2 hq
      cases r1 with
      | some er =>
        have HQ := Lib.hid (CkP.up hq HB1.out)
        obtain ⟨q1, q2⟩ := hq
        obtain ⟨ab, q3, rfl, q4, q5⟩ := q2.out
        clear q1 q2 q3 q4 q5 k6
        go_wp2_with fail
        refine ⟨rfl, ?_⟩
        rw [HRES.out]
        exact HQ.out
      | none =>
        obtain ⟨hb2, rfl⟩ := hq
        have HB2 : Hid (Below w.heap.size w w2) := HB1.out.trans (hb2.mono hsz1)
        have hsz2 := HB2.out.size
        have e2 := (HB2.out.block x hxl).trans HK.out
        have k7 : w2.cell? ⟨x, 7, none⟩ = some (.pointer rv) := (cell_blk e2).trans rfl
        have hx2 : x < w2.heap.size := by omega
        have HR1 := Lib.hid (HRI.out w2 HB2.out)
        clear e2 hb2 k6 HL1
        go_wp2_with fail
        refine HR1.out.mono ?_
        intro e w3 hq
        cases r2 with
        | some er =>
          have HQ := Lib.hid (CkP.up hq HB2.out)
          obtain ⟨q1, q2⟩ := hq
          obtain ⟨ab, q3, rfl, q4, q5⟩ := q2.out
          clear q1 q2 q3 q4 q5 k7
          go_wp2_with fail
          refine ⟨rfl, ?_⟩
          rw [HRES.out]
          exact HQ.out
        | none =>
          obtain ⟨hb3, rfl⟩ := hq
          have HB3 : Hid (Below w.heap.size w w3) := HB2.out.trans (hb3.mono hsz2)
          have hsz3 := HB3.out.size
          have e3 := (HB3.out.block x hxl).trans HK.out
          have k8 : w3.cell? ⟨x, 8, none⟩ = some (.slice aa an ac) := (cell_blk e3).trans rfl
          have hx3 : x < w3.heap.size := by omega
          clear e3 hb3 k7 HR1
          go_wp2_with fail
          go_loopg [47] an (fun k vi wr => ∃ i : Nat, i ≤ an ∧ k = an - i ∧ vi = .int .i64 (i : Int) ∧ Hid (Below w.heap.size w wr) ∧ Hid (∀ j, j < i → ra j = none))
          case atStart => exact ⟨0, by omega, by omega, rfl, HB3, fun j hj => absurd hj (by omega)⟩
          case round =>
            obtain ⟨i, hid, hk, rfl, HB, HN⟩ := hrel
            have hszr := HB.out.size
            by_cases hlt : i < an
            · have hlt' : (i : Int) < (an : Int) := by omega
              obtain ⟨g, y, hag, hgl, hcg, hask⟩ := HA.out i hlt
              have kc : wr.cell? ⟨g, i, none⟩ = some (.pointer (some ⟨y, 0, none⟩)) := (HB.out.cell (p := ⟨g, i, none⟩) hgl).trans hcg
              have hglr : g < wr.heap.size := by omega
              subst hag
              have HC := Lib.hid (hask wr HB.out)
              clear hcg hask
              go_wp2_with fail
              refine HC.out.mono ?_
              intro e w4 hq
              cases hri : ra i with
              | some er =>
                rw [hri] at hq
                have HQ := Lib.hid (CkP.up hq HB.out)
                have HFS := Lib.hid (range_some hlt HN.out hri)
                obtain ⟨q1, q2⟩ := hq
                obtain ⟨ab, q3, rfl, q4, q5⟩ := q2.out
                clear q1 q2 q3 q4 q5 hri
                go_wp2_with fail
                refine ⟨rfl, ?_⟩
                rw [HRES.out, HFS.out]
                exact HQ.out
              | none =>
                rw [hri] at hq
                obtain ⟨hb4, rfl⟩ := hq
                have HB4 : Hid (Below w.heap.size w w4) := HB.out.trans (hb4.mono hszr)
                have HN4 : Hid (∀ j, j < i + 1 → ra j = none) := fun j hj => by
                  rcases Nat.lt_or_ge j i with q | q
                  · exact HN.out j q
                  · have : j = i := by omega
                    subst this
                    exact hri
                clear hb4 hri HC
                go_wp2_with fail
                go_roundg (an - (i + 1))
                case measure => omega
                case rel => exact ⟨i + 1, by omega, rfl, by go_num, HB4, HN4⟩
            · have hlt' : ¬ (i : Int) < (an : Int) := by omega
              have HFS : Hid ((List.range an).findSome? ra = none) := range_none (fun j hj => HN.out j (by omega))
              go_wp2_with fail
              refine bodyPost_end (results_none rfl _ _ _) rfl ⟨HB.out, ?_⟩
              rw [HRES.out, HFS.out]
              rfl
  · have hr0 := hR' hcd
    have h2 : ((code : Int) == 2) = false := by simp; omega
    have h3 : ((code : Int) == 3) = false := by simp; omega
    have h6 : ((code : Int) == 6) = false := by simp; omega
    subst hr0
    have HB1 : Hid (Below w.heap.size w w) := Below.refl _ _
    clear hR hR' hcd
    unfold finderV at *
    go_enter Tryz.func113, Tryz.ntmps113
    have hsz1 := HB1.out.size
    have e1 := (HB1.out.block x hxl).trans HK.out
    have k6 : w.cell? ⟨x, 6, none⟩ = some (.pointer lv) := (cell_blk e1).trans rfl
    have hx1 : x < w.heap.size := by omega
    have HL1 := Lib.hid (HL.out w HB1.out)
    clear e1
    go_wp2_with fail
    refine HL1.out.mono ?_
    intro e w2 hq
    cases r1 with
    | some er =>
      have HQ := Lib.hid (CkP.up hq HB1.out)
      obtain ⟨q1, q2⟩ := hq
      obtain ⟨ab, q3, rfl, q4, q5⟩ := q2.out
      clear q1 q2 q3 q4 q5 k6
      go_wp2_with fail
      refine ⟨rfl, ?_⟩
      rw [HRES.out]
      exact HQ.out
    | none =>
      obtain ⟨hb2, rfl⟩ := hq
      have HB2 : Hid (Below w.heap.size w w2) := HB1.out.trans (hb2.mono hsz1)
      have hsz2 := HB2.out.size
      have e2 := (HB2.out.block x hxl).trans HK.out
      have k7 : w2.cell? ⟨x, 7, none⟩ = some (.pointer rv) := (cell_blk e2).trans rfl
      have hx2 : x < w2.heap.size := by omega
      have HR1 := Lib.hid (HRI.out w2 HB2.out)
      clear e2 hb2 k6 HL1
      go_wp2_with fail
      refine HR1.out.mono ?_
      intro e w3 hq
      cases r2 with
      | some er =>
        have HQ := Lib.hid (CkP.up hq HB2.out)
        obtain ⟨q1, q2⟩ := hq
        obtain ⟨ab, q3, rfl, q4, q5⟩ := q2.out
        clear q1 q2 q3 q4 q5 k7
        go_wp2_with fail
        refine ⟨rfl, ?_⟩
        rw [HRES.out]
        exact HQ.out
      | none =>
        obtain ⟨hb3, rfl⟩ := hq
        have HB3 : Hid (Below w.heap.size w w3) := HB2.out.trans (hb3.mono hsz2)
        have hsz3 := HB3.out.size
        have e3 := (HB3.out.block x hxl).trans HK.out
        have k8 : w3.cell? ⟨x, 8, none⟩ = some (.slice aa an ac) := (cell_blk e3).trans rfl
        have hx3 : x < w3.heap.size := by omega
        clear e3 hb3 k7 HR1
        go_wp2_with fail
        go_loopg [47] an (fun k vi wr => ∃ i : Nat, i ≤ an ∧ k = an - i ∧ vi = .int .i64 (i : Int) ∧ Hid (Below w.heap.size w wr) ∧ Hid (∀ j, j < i → ra j = none))
        case atStart => exact ⟨0, by omega, by omega, rfl, HB3, fun j hj => absurd hj (by omega)⟩
        case round =>
          obtain ⟨i, hid, hk, rfl, HB, HN⟩ := hrel
          have hszr := HB.out.size
          by_cases hlt : i < an
          · have hlt' : (i : Int) < (an : Int) := by omega
            obtain ⟨g, y, hag, hgl, hcg, hask⟩ := HA.out i hlt
            have kc : wr.cell? ⟨g, i, none⟩ = some (.pointer (some ⟨y, 0, none⟩)) := (HB.out.cell (p := ⟨g, i, none⟩) hgl).trans hcg
            have hglr : g < wr.heap.size := by omega
            subst hag
            have HC := Lib.hid (hask wr HB.out)
            clear hcg hask
            go_wp2_with fail
            refine HC.out.mono ?_
            intro e w4 hq
            cases hri : ra i with
            | some er =>
              rw [hri] at hq
              have HQ := Lib.hid (CkP.up hq HB.out)
              have HFS := Lib.hid (range_some hlt HN.out hri)
              obtain ⟨q1, q2⟩ := hq
              obtain ⟨ab, q3, rfl, q4, q5⟩ := q2.out
              clear q1 q2 q3 q4 q5 hri
              go_wp2_with fail
              refine ⟨rfl, ?_⟩
              rw [HRES.out, HFS.out]
              exact HQ.out
            | none =>
              rw [hri] at hq
              obtain ⟨hb4, rfl⟩ := hq
              have HB4 : Hid (Below w.heap.size w w4) := HB.out.trans (hb4.mono hszr)
              have HN4 : Hid (∀ j, j < i + 1 → ra j = none) := fun j hj => by
                rcases Nat.lt_or_ge j i with q | q
                · exact HN.out j q
                · have : j = i := by omega
                  subst this
                  exact hri
              clear hb4 hri HC
              go_wp2_with fail
              go_roundg (an - (i + 1))
              case measure => omega
              case rel => exact ⟨i + 1, by omega, rfl, by go_num, HB4, HN4⟩
          · have hlt' : ¬ (i : Int) < (an : Int) := by omega
            have HFS : Hid ((List.range an).findSome? ra = none) := range_none (fun j hj => HN.out j (by omega))
            go_wp2_with fail
            refine bodyPost_end (results_none rfl _ _ _) rfl ⟨HB.out, ?_⟩
            rw [HRES.out, HFS.out]
            rfl
end Go.Proofs.YtibncofnnlbmcaaGreatDoor
/- check: checkExpr's contract. -/
namespace Go.Proofs.YtibncofnnlbmcaaGreatDoor
open Go.RowKit Go.Maps
open Tp (Bs Th Sy Seen X S)

theorem find_range (J : Jd) : ∀ (ar : List X), (List.range ar.length).findSome? (fun i => (ar[i]?).bind fun y => (Tp.rx [y]).findSome? J) = (Tp.rx ar).findSome? J := by
  intro ar
  induction ar with
  | nil => simp [Tp.rx]
  | cons x l ih =>
    rw [rx_cons, List.findSome?_append, ← ih, List.length_cons, List.range_succ_eq_map, List.findSome?_cons, List.findSome?_map]
    have e2 : ((fun i => ((x :: l)[i]?).bind fun y => (Tp.rx [y]).findSome? J) ∘ Nat.succ) = fun i => (l[i]?).bind fun y => (Tp.rx [y]).findSome? J := by
      funext i
      simp
    rw [e2]
    simp only [List.getElem?_cons_zero, Option.bind_some]
    cases (Tp.rx [x]).findSome? J <;> rfl
theorem checkExpr_all {w0 : World} {b : Nat} {Sn : Seen} {fs : Near} (hF : Fnd w0 b Sn fs) (hfn : fs.length ≤ 1000) : ∀ (n : Nat) (x : X), SizeOf.sizeOf x ≤ n → Sm (Tp.rx [x]) → ∀ (w : World) (D : Nat → Prop) (xb : Nat), Below w0.heap.size w0 w → RepL w D [x] [.pointer (some ⟨xb, 0, none⟩)] →
    Calls Tryz.prog 113 #[.pointer (some ⟨xb, 0, none⟩), finderV b] w (CkP w ((Tp.rx [x]).findSome? (Tp.judgeP (Tp.standV Sn fs)))) := by
  intro n
  induction n with
  | zero => intro x hn; cases x; simp at hn
  | succ n ih =>
    intro x hn hs w D xb hb h
    obtain ⟨code, pos, nn, md, nm, op, le, ri, ar⟩ := x
    simp at hn
    have h0 := h
    rw [RepL] at h
    obtain ⟨b', av, ls, rs, gs, vs', h1, h2, h3, h4, h5, h6, h7, h8, h9, _⟩ := h
    injection h1 with h1a _
    injection h1a with h1b
    injection h1b with h1c
    injection h1c with h1d
    subst h1d
    have hln := RepL.len _ _ h4
    have hrn := RepL.len _ _ h6
    have hgn := RepL.len _ _ h8
    have hrx := rx_one code pos nn md nm op le ri ar
    -- an expression that may be missing
    have part : ∀ (l : List X) (vs : List Value), SizeOf.sizeOf l ≤ n → (∀ r ∈ Tp.rx l, r ∈ Tp.rx [(⟨code, pos, nn, md, nm, op, le, ri, ar⟩ : X)]) → RepL w D l vs → vs.length ≤ 1 → (∃ a, vs.headD (.pointer none) = .pointer a) ∧ AskX w b (vs.headD (.pointer none)) ((Tp.rx l).findSome? (Tp.judgeP (Tp.standV Sn fs))) := by
      intro l vs hl hsub hrep hle
      have hvl := RepL.len _ _ hrep
      match l, vs, hrep with
      | [], vs, hrep =>
        rw [RepL] at hrep
        subst hrep
        refine ⟨⟨none, rfl⟩, fun W hW => ?_⟩
        have : (Tp.rx []).findSome? (Tp.judgeP (Tp.standV Sn fs)) = none := by simp [Tp.rx]
        rw [this]
        exact checkExpr_nil W b
      | [y], vs, hrep =>
        obtain ⟨yb, q1, q2⟩ := RepL.get _ _ hrep 0 (by simp)
        have hv : vs = [.pointer (some ⟨yb, 0, none⟩)] := by
          match vs, hle, hvl with
          | [v], _, _ => simp at q1; rw [q1]
        subst hv
        refine ⟨⟨_, rfl⟩, fun W hW => ?_⟩
        have hsz : SizeOf.sizeOf y ≤ n := by simp at hl; omega
        exact ih y hsz (hs.sub hsub) W D yb (hb.trans (hW.mono hb.size)) (hrep.step hW)
      | y :: z :: t, vs, hrep => simp at hvl; omega
    have mem1 : ∀ r ∈ Tp.rx le, r ∈ Tp.rx [(⟨code, pos, nn, md, nm, op, le, ri, ar⟩ : X)] := fun r hr => by rw [hrx]; simp [hr]
    have mem2 : ∀ r ∈ Tp.rx ri, r ∈ Tp.rx [(⟨code, pos, nn, md, nm, op, le, ri, ar⟩ : X)] := fun r hr => by rw [hrx]; simp [hr]
    have mem3 : ∀ r ∈ Tp.rx ar, r ∈ Tp.rx [(⟨code, pos, nn, md, nm, op, le, ri, ar⟩ : X)] := fun r hr => by rw [hrx]; simp [hr]
    obtain ⟨⟨lv, hlv⟩, hL⟩ := part le ls (by omega) mem1 h4 h5
    obtain ⟨⟨rv, hrv⟩, hR⟩ := part ri rs (by omega) mem2 h6 h7
    rw [hlv] at h3 hL
    rw [hrv] at h3 hR
    have hav : ∃ aa ac, av = .slice aa ar.length ac ∧ ar.length ≤ 9223372036854775807 ∧ ∀ i, i < ar.length → ∃ g, aa = some ⟨g, 0, none⟩ ∧ g < w.heap.size ∧ w.cell? ⟨g, i, none⟩ = gs[i]? := by
      rcases h9 with ⟨q1, q2⟩ | ⟨g, cap, cur, q1, q2, q3, q4, q5, q6, q7⟩
      · have : ar.length = 0 := by rw [← hgn, q1]; rfl
        exact ⟨none, 0, by rw [this]; exact q2, by omega, fun i hi => by omega⟩
      · refine ⟨_, cap, by rw [← hgn]; exact q1, ?_, fun i hi => ⟨g, rfl, lt_blk q3, ?_⟩⟩
        · have : maxLen = 9223372036854775807 := rfl
          omega
        · rw [cell_blk q3, ← Array.getElem?_toList, ← q7, List.getElem?_take_of_lt (by omega)]
    obtain ⟨aa, ac, rfl, han, hcell⟩ := hav
    · refine checkExpr_walk (r0 := if code = 2 ∨ code = 3 ∨ code = 6 then Tp.judgeP (Tp.standV Sn fs) ⟨code, pos, md, nm, ar.length⟩ else none) (ra := fun i => (ar[i]?).bind fun y => (Tp.rx [y]).findSome? (Tp.judgeP (Tp.standV Sn fs))) h3 ?_ (fun hc => if_neg hc) hL hR ?_ han ?_
      · intro hc
        rw [if_pos hc]
        have hm := hs ⟨code, pos, md, nm, ar.length⟩ (by rw [hrx, if_pos hc]; simp)
        exact checkRef_post (r := ⟨code, pos, md, nm, ar.length⟩) (hF.on hb) hfn ⟨_, _, _, _, _, _, h3⟩ hm.1 hm.2 (by simp only; omega)
      · intro i hi
        obtain ⟨g, q1, q2, q3⟩ := hcell i hi
        obtain ⟨yb, q4, q5⟩ := RepL.get _ _ h8 i hi
        refine ⟨g, yb, q1, q2, q3.trans q4, fun W hW => ?_⟩
        simp only [List.getElem?_eq_getElem hi, Option.bind_some]
        have hsz : SizeOf.sizeOf ar[i] ≤ n := by
          have := List.sizeOf_lt_of_mem (List.getElem_mem hi)
          omega
        refine ih ar[i] hsz (hs.sub fun r hr => mem3 r ?_) W D yb (hb.trans (hW.mono hb.size)) (q5.step hW)
        have e : ar = ar.take i ++ ar[i] :: ar.drop (i + 1) := by rw [← List.drop_eq_getElem_cons hi, List.take_append_drop]
        rw [e, rx_app, rx_cons]
        simp [hr]
      · rw [find_range, hrx, List.findSome?_append, List.findSome?_append, List.findSome?_append]
        congr 1
        by_cases hc : code = 2 ∨ code = 3 ∨ code = 6
        · rw [if_pos hc, if_pos hc, List.findSome?_cons]
          cases Tp.judgeP (Tp.standV Sn fs) ⟨code, pos, md, nm, ar.length⟩ <;> rfl
        · rw [if_neg hc, if_neg hc]; rfl
end Go.Proofs.YtibncofnnlbmcaaGreatDoor
