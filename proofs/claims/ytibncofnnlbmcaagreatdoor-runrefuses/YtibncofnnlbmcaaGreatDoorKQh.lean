import Derived.Test.YtibncofnnlbmcaaGreatDoorKQg
import Derived.Test.YtibncofnnlbmcaaGreatDoorKQa
/- Chapter 4: a statement, whichever it is: stmt. -/
namespace Go.Proofs.YtibncofnnlbmcaaGreatDoor
open Go.RowKit Go.Maps
open Tp (Bs X S G Pr Pt Rs Rr Own)

def mapR (r : Rr Int) (f : Int → Rs → Rr (Own × Option Int)) : Rr (Own × Option Int) := match r with
  | .ok v s => f v s
  | .stop way s => .stop way s
  | .gas => .gas
theorem go1_own {g k : Nat} {m nm : Bs} {own : Own} {pos : Nat} {vl : List X} {th el : List S} {s : Rs} {u : Int} (ho : own nm = some u) : Tp.go1 (g + 1) k m own ⟨1, pos, nm, [], vl, th, el⟩ s = match Tp.evX g k m own vl s with | .ok v s' => .ok (updO own nm v, none) s' | .stop way s' => .stop way s' | .gas => .gas := by
  rw [Tp.go1]
  show (Tp.Ru.bind _ _) s = _
  unfold Tp.Ru.bind
  cases Tp.evX g k m own vl s with
  | gas => rfl
  | stop way s' => rfl
  | ok v s' =>
    simp only [ho]
    rfl
theorem go1_var {g k : Nat} {m nm : Bs} {own : Own} {pos : Nat} {vl : List X} {th el : List S} {s : Rs} (ho : own nm = none) : Tp.go1 (g + 1) k m own ⟨1, pos, nm, [], vl, th, el⟩ s = match Tp.evX g k m own vl s with | .ok v s' => .ok (own, none) (setS s' m nm [v]) | .stop way s' => .stop way s' | .gas => .gas := by
  rw [Tp.go1]
  show (Tp.Ru.bind _ _) s = _
  unfold Tp.Ru.bind
  cases Tp.evX g k m own vl s with
  | gas => rfl
  | stop way s' => rfl
  | ok v s' =>
    simp only [ho]
    rfl
theorem go1_item {g k : Nat} {m nm : Bs} {own : Own} {pos : Nat} {ix vl : List X} {th el : List S} {s : Rs} (hx : ix ≠ []) : Tp.go1 (g + 1) k m own ⟨1, pos, nm, ix, vl, th, el⟩ s = match Tp.evX g k m own ix s with
      | .ok i s' => (match Tp.evX g k m own vl s' with | .ok v s2 => itemR2 own m nm i v s2 | .stop way s2 => .stop way s2 | .gas => .gas)
      | .stop way s' => .stop way s'
      | .gas => .gas := by
  rw [Tp.go1]
  simp only [if_true]
  rw [if_neg hx]
  unfold Tp.Ru.bind
  cases Tp.evX g k m own ix s with
  | gas => rfl
  | stop way s' => rfl
  | ok i s' =>
    simp only
    cases Tp.evX g k m own vl s' with
    | gas => rfl
    | stop way s2 => rfl
    | ok v s2 =>
      simp only [Tp.getV]
      unfold itemR2 itemSet
      split
      · rfl
      · rfl
theorem go1_2 {g k : Nat} {m nm : Bs} {own : Own} {pos : Nat} {ix vl : List X} {th el : List S} {s : Rs} : Tp.go1 (g + 1) k m own ⟨2, pos, nm, ix, vl, th, el⟩ s = match Tp.evX g k m own vl s with | .ok v s' => (if v = 0 then Tp.goS g k m own el s' else Tp.goS g k m own th s') | .stop way s' => .stop way s' | .gas => .gas := by
  rw [Tp.go1]
  show (Tp.Ru.bind _ _) s = _
  unfold Tp.Ru.bind
  cases Tp.evX g k m own vl s with
  | gas => rfl
  | stop way s' => rfl
  | ok v s' =>
    simp only
    by_cases h : v = 0
    · rw [if_pos h, if_pos h]
    · rw [if_neg h, if_neg h]
theorem go1_3 {g k : Nat} {m nm : Bs} {own : Own} {pos : Nat} {ix vl : List X} {th el : List S} {s : Rs} : Tp.go1 (g + 1) k m own ⟨3, pos, nm, ix, vl, th, el⟩ s = Tp.goW g k m own vl th s := by rw [Tp.go1]; rfl
theorem go1_4 {g k : Nat} {m nm : Bs} {own : Own} {pos : Nat} {ix vl : List X} {th el : List S} {s : Rs} : Tp.go1 (g + 1) k m own ⟨4, pos, nm, ix, vl, th, el⟩ s = match Tp.evX g k m own vl s with | .ok v s' => .ok (own, some v) s' | .stop way s' => .stop way s' | .gas => .gas := by
  rw [Tp.go1]
  show (Tp.Ru.bind _ _) s = _
  unfold Tp.Ru.bind
  cases Tp.evX g k m own vl s <;> rfl
theorem go1_5 {g k : Nat} {m nm : Bs} {own : Own} {pos : Nat} {ix vl : List X} {th el : List S} {s : Rs} : Tp.go1 (g + 1) k m own ⟨5, pos, nm, ix, vl, th, el⟩ s = match Tp.evX g k m own vl s with | .ok v s' => (if s'.out.length < 200 then .ok (own, none) { s' with out := s'.out ++ [v] } else .stop Tp.full s') | .stop way s' => .stop way s' | .gas => .gas := by
  rw [Tp.go1]
  show (Tp.Ru.bind _ _) s = _
  unfold Tp.Ru.bind
  cases Tp.evX g k m own vl s with
  | gas => rfl
  | stop way s' => rfl
  | ok v s' =>
    simp only [Tp.tellN]
    by_cases h : s'.out.length < 200
    · rw [if_pos h, if_pos h]; rfl
    · rw [if_neg h, if_neg h]
theorem go1_6 {g k : Nat} {m nm : Bs} {own : Own} {pos : Nat} {ix vl : List X} {th el : List S} {s : Rs} : Tp.go1 (g + 1) k m own ⟨6, pos, nm, ix, vl, th, el⟩ s = match Tp.evX g k m own vl s with | .ok _ s' => .ok (own, none) s' | .stop way s' => .stop way s' | .gas => .gas := by
  rw [Tp.go1]
  show (Tp.Ru.bind _ _) s = _
  unfold Tp.Ru.bind
  cases Tp.evX g k m own vl s <;> rfl
set_option maxRecDepth 100000 in
set_option maxHeartbeats 1000000 in
theorem rstmt_set {c : Cx} {k : Nat} {lo : Lo} {names : List Bs} {w : World} {s : Rs} {sb b o : Nat} {ob : Option Nat} (_hbl : b < w.heap.size) (k0 : w.cell? ⟨b, o, none⟩ = some (.int .i64 1)) {res : Rr (Own × Option Int)} (hng : res ≠ .gas)
    (hS : Calls Tryz.prog 149 #[.pointer (some ⟨sb, 0, none⟩), .pointer (some ⟨b, o, none⟩)] w (GoP c k sb ob lo names w s res)) :
    Calls Tryz.prog 121 #[.pointer (some ⟨sb, 0, none⟩), .pointer (some ⟨b, o, none⟩)] w (GoP c k sb ob lo names w s res) := by
  have HS := Lib.hid hS
  clear hS
  go_enter Tryz.func121, Tryz.ntmps121
  go_wp2_with fail
  refine HS.out.mono ?_
  intro e w3 hq
  have HQ := Lib.hid hq
  cases res with
  | gas => exact absurd rfl hng
  | stop way s2 =>
    obtain ⟨⟨older, rfl⟩, _⟩ := hq
    go_wp2_with fail
    exact ⟨rfl, HQ.out⟩
  | ok r1 s2 =>
    obtain ⟨ow, u⟩ := r1
    cases u with
    | none =>
      obtain ⟨rfl, _⟩ := hq
      go_wp2_with fail
      exact bodyPost_end (results_none rfl _ _ _) rfl HQ.out
    | some u =>
      obtain ⟨⟨older, rfl⟩, _⟩ := hq
      go_wp2_with fail
      exact ⟨rfl, HQ.out⟩
theorem rs_oneQ {code pos : Nat} {nm : Bs} {ix vl : List X} {th el : List S} : Tp.rs [⟨code, pos, nm, ix, vl, th, el⟩] = (if code = 1 then [⟨if ix.isEmpty then 2 else 3, pos, [], nm, 0⟩] else []) ++ Tp.rx ix ++ Tp.rx vl ++ Tp.rs th ++ Tp.rs el := by simp [Tp.rs]
theorem rstmt_all {c : Cx} {g : Nat} (ok : CxOk c) (hE : ∀ n, n < g + 1 → EvC c n) (hG : ∀ n, n < g + 1 → GoC c n) : Go1C c (g + 1) := by
  intro k lo own names x b o w s sb ob hst hws hfit h hs hng
  obtain ⟨code, pos, nm, ix, vl, th, el⟩ := x
  obtain ⟨tv, ev, ls, vs, tcs, ecs, c0, c2, c3, c4, c5, c6, rl, _, rv, _, rt, ot, re, oe⟩ := hst.r
  simp only at c0 c2 rl rv rt ot re oe
  rw [Tp.WS] at hws
  have hev : Tp.ev vl := by
    rcases hws.1 with q | q | q | q | q
    · exact q.2.2.2.1
    · exact q.2.2.2.1
    · exact q.2.2.2.1
    · exact q.2.2.2.1
    · exact q.2.2.2.1
  obtain ⟨z, rfl, _⟩ := rv.part hev.2.1
  have hexv : Ex c lo names vl z := ⟨rv, hev.1, fun r hr => hfit r (by rw [rs_oneQ]; simp [hr])⟩
  have d := hst.d
  have j0 := h.cell0 d c0
  have hbl := lt_of_cell j0
  have hX : Cell4 c b o z := fun W s' k' hW => ⟨lt_of_cell (hW.cell0 d c4), hW.cell0 d c4⟩
  have hR : RightC c k w s sb z (fun s' => Tp.evX g k lo.m.name own vl s') := fun W s' hW hK hL hn => hE g (by omega) k lo own names vl z W s' sb ob hexv hW (hs.kp hK ok.Vlt (by omega)) hn
  have hs' : Sc c w sb ob lo own names s.left := hs.kp (Kp.refl _ _ _) ok.Vlt (by omega)
  obtain ⟨ta, tc, rfl⟩ := ot.shape
  obtain ⟨ea, ec, rfl⟩ := oe.shape
  rcases hws.1 with q | q | q | q | q
  · obtain ⟨rfl, hokn, hix, _, rfl, rfl⟩ := q
    have hnl := okn_1000 hokn
    have hf := hfit ⟨if ix.isEmpty then 2 else 3, pos, [], nm, 0⟩ (by rw [rs_oneQ]; simp)
    refine rstmt_set hbl j0 hng ?_
    rcases hix with rfl | ⟨hwi, hil, _⟩
    · have els : ls = [] := by rw [RepL] at rl; exact rl
      subst els
      have hXS : CellS c b o nm (.pointer none) z := fun W s' k' hW => ⟨lt_of_cell (hW.cell0 d c4), hW.cell0 d c2, hW.cell0 d c3, hW.cell0 d c4⟩
      rcases hf.v2 rfl with ⟨_, q2⟩ | ⟨q1, m', g', q2, q3, q4⟩
      · simp only at q2
        obtain ⟨u, hu⟩ := Option.isSome_iff_exists.1 ((hs.dom nm).2 q2)
        cases ob with
        | none =>
          have := hs.om nm
          rw [this] at hu
          cases hu
        | some ob => exact set_own (rr := fun s' => Tp.evX g k lo.m.name own vl s') ok h hs hXS hnl q2 hR (go1_own hu) hng
      · simp only at q1 q2 q3
        have hni := q1 trivial
        have hm' : m' = lo.m := by simpa [Tp.atM] using q2
        rw [hm'] at q3
        have hon : own nm = none := by
          cases ho : own nm with
          | none => rfl
          | some u => exact absurd ((hs.dom nm).1 (by rw [ho]; rfl)) hni
        exact set_var (rr := fun s' => Tp.evX g k lo.m.name own vl s') ok h hs hXS hnl hni q3 q4 hR (go1_var hon) hng
    · have hixn : ix ≠ [] := fun e => by rw [e] at hil; simp at hil
      obtain ⟨y, rfl, _⟩ := rl.part hil
      have hem : ix.isEmpty = false := by cases ix with | nil => exact absurd rfl hixn | cons a t => rfl
      rw [hem] at hf
      obtain ⟨q1, m', g', q2, q3, q4⟩ := hf.v3 rfl
      simp only at q1 q2 q3
      have hni := q1 trivial
      have hm' : m' = lo.m := by simpa [Tp.atM] using q2
      rw [hm'] at q3
      have hexi : Ex c lo names ix y := ⟨rl, hwi, fun r hr => hfit r (by rw [rs_oneQ]; simp [hr])⟩
      have hXS : CellS c b o nm (.pointer (some ⟨y, 0, none⟩)) z := fun W s' k' hW => ⟨lt_of_cell (hW.cell0 d c4), hW.cell0 d c2, hW.cell0 d c3, hW.cell0 d c4⟩
      have hI : RightC c k w s sb y (fun s' => Tp.evX g k lo.m.name own ix s') := fun W s' hW hK hL hn => hE g (by omega) k lo own names ix y W s' sb ob hexi hW (hs.kp hK ok.Vlt (by omega)) hn
      exact set_item (ri := fun s' => Tp.evX g k lo.m.name own ix s') (rr := fun s' => Tp.evX g k lo.m.name own vl s') ok h hs hXS hnl hni q3 hI hR (go1_item hixn) hng
  · obtain ⟨rfl, _, _, _, hwt, hwe⟩ := q
    have hsst : Ss c lo names th (.slice ta th.length tc) := ⟨⟨tcs, rt, ot⟩, hwt, fun r hr => hfit r (by rw [rs_oneQ]; simp [hr])⟩
    have hsse : Ss c lo names el (.slice ea el.length ec) := ⟨⟨ecs, re, oe⟩, hwe, fun r hr => hfit r (by rw [rs_oneQ]; simp [hr])⟩
    exact rstmt_if (rr := fun s' => Tp.evX g k lo.m.name own vl s') (rt := fun s' => Tp.goS g k lo.m.name own th s') (re := fun s' => Tp.goS g k lo.m.name own el s') h hX (fun W s' k' hW => ⟨hW.cell0 d c5, hW.cell0 d c6⟩) j0 hR
      (fun W s' hW hK hL hn => hG g (by omega) k lo own names th _ W s' sb ob hsst hW (hs.kp hK ok.Vlt (by omega)) hn)
      (fun W s' hW hK hL hn => hG g (by omega) k lo own names el _ W s' sb ob hsse hW (hs.kp hK ok.Vlt (by omega)) hn) go1_2 hng
  · obtain ⟨rfl, _, _, _, hwt, _⟩ := q
    have hsst : Ss c lo names th (.slice ta th.length tc) := ⟨⟨tcs, rt, ot⟩, hwt, fun r hr => hfit r (by rw [rs_oneQ]; simp [hr])⟩
    exact rstmt_while ok (fun n hn => hE n (by omega)) (fun n hn => hG n (by omega)) h hs' hX (fun W s' k' hW => hW.cell0 d c5) j0 hexv hsst go1_3 hng
  · obtain ⟨hc, _⟩ := q
    rcases hc with rfl | rfl
    · exact rstmt_return (rr := fun s' => Tp.evX g k lo.m.name own vl s') h hX j0 hR go1_4 hng
    · exact rstmt_write (rr := fun s' => Tp.evX g k lo.m.name own vl s') ok h hs' hX j0 hR go1_5 hng
  · obtain ⟨rfl, _⟩ := q
    exact rstmt_call (rr := fun s' => Tp.evX g k lo.m.name own vl s') ok h hs' hX j0 hR go1_6 hng
end Go.Proofs.YtibncofnnlbmcaaGreatDoor
/- Chapter 4: statements: stmts; all of it by gas. -/
namespace Go.Proofs.YtibncofnnlbmcaaGreatDoor
open Go.RowKit Go.Maps
open Tp (Bs X S G Pr Pt Rs Rr Own)

theorem RepS.getS {w : World} {D : Nat → Prop} : ∀ (l : List S) (cs : List Value), RepS w D l cs → ∀ i (h : i < l.length), ∃ (tv ev : Value) (ls vs tcs ecs : List Value),
    (∀ j, j < 7 → cs[i * 7 + j]? = [Value.int .i64 (l[i].code : Int), .int .i64 (l[i].pos : Int), .string (bs l[i].name), ls.headD (.pointer none), vs.headD (.pointer none), tv, ev][j]?) ∧ RepL w D l[i].index ls ∧ ls.length ≤ 1 ∧ RepL w D l[i].value vs ∧ vs.length ≤ 1 ∧ RepS w D l[i].thn tcs ∧ OwnS w D tv l[i].thn.length tcs ∧ RepS w D l[i].els ecs ∧ OwnS w D ev l[i].els.length ecs := by
  intro l
  induction l with
  | nil => intro cs _ i h; simp at h
  | cons x l ih =>
    intro cs hr i h
    obtain ⟨code, pos, name, index, value, thn, els⟩ := x
    rw [RepS] at hr
    obtain ⟨tv, ev, ls, vs, tcs, ecs, cs', h1, h2, h3, h4, h5, h6, h7, h8, h9, h10⟩ := hr
    subst h1
    cases i with
    | zero =>
      refine ⟨tv, ev, ls, vs, tcs, ecs, fun j hj => ?_, h2, h3, h4, h5, h6, h7, h8, h9⟩
      rw [Nat.zero_mul, Nat.zero_add, List.getElem?_append_left (by simpa using hj)]
      rfl
    | succ i =>
      obtain ⟨tv', ev', ls', vs', tcs', ecs', q1, q2⟩ := ih cs' h10 i (by simpa using h)
      refine ⟨tv', ev', ls', vs', tcs', ecs', fun j hj => ?_, q2⟩
      rw [List.getElem?_append_right (by simp; omega)]
      have : (i + 1) * 7 + j - [Value.int .i64 (code : Int), .int .i64 (pos : Int), .string (bs name), ls.headD (.pointer none), vs.headD (.pointer none), tv, ev].length = i * 7 + j := by simp; omega
      rw [this, q1 j hj]
      rfl
theorem Ss.at {c : Cx} {lo : Lo} {names : List Bs} {l : List S} {a : Option Addr} {n cp : Nat} (h : Ss c lo names l (.slice a n cp)) (i : Nat) (hi : i < l.length) : ∃ b, a = some ⟨b, 0, none⟩ ∧ b < c.w0.heap.size ∧ StAt c l[i] b (i * 7) := by
  obtain ⟨cs, r1, r2⟩ := h.rep
  rcases r2 with ⟨_, h2⟩ | ⟨g, cap, cur, e1, e2, e3, e4, e5, e6, e7⟩
  · omega
  · injection e1 with e1 _ _
    obtain ⟨tv, ev, ls, vs, tcs, ecs, q1, q2⟩ := RepS.getS l cs r1 i hi
    have hc : ∀ j, j < 7 → c.w0.cell? ⟨g, i * 7 + j, none⟩ = [Value.int .i64 (l[i].code : Int), .int .i64 (l[i].pos : Int), .string (bs l[i].name), ls.headD (.pointer none), vs.headD (.pointer none), tv, ev][j]? := fun j hj => by
      rw [cell_blk e3, ← Array.getElem?_toList, ← q1 j hj, ← e7, List.getElem?_take_of_lt (by omega)]
    exact ⟨g, e1, lt_blk e3, e2, tv, ev, ls, vs, tcs, ecs, hc 0 (by omega), hc 2 (by omega), hc 3 (by omega), hc 4 (by omega), hc 5 (by omega), hc 6 (by omega), q2⟩
theorem ws_mem {l : List S} (h : Tp.WS l) : ∀ y ∈ l, Tp.WS [y] := by
  induction l with
  | nil => intro y hy; cases hy
  | cons x t ih =>
    intro y hy
    obtain ⟨code, pos, nm, ix, vl, th, el⟩ := x
    rw [Tp.WS] at h
    rcases List.mem_cons.1 hy with e | e
    · rw [e, Tp.WS]; exact ⟨h.1, by rw [Tp.WS]; trivial⟩
    · exact ih h.2 y e
theorem rs_consQ (x : S) (l : List S) : Tp.rs (x :: l) = Tp.rs [x] ++ Tp.rs l := by
  obtain ⟨code, pos, nm, ix, vl, th, el⟩ := x
  simp [Tp.rs]
theorem rs_mem {l : List S} : ∀ {y : S}, y ∈ l → ∀ r ∈ Tp.rs [y], r ∈ Tp.rs l := by
  induction l with
  | nil => intro y hy; cases hy
  | cons x t ih =>
    intro y hy r hr
    rw [rs_consQ]
    rcases List.mem_cons.1 hy with e | e
    · rw [← e]; exact List.mem_append_left _ hr
    · exact List.mem_append_right _ (ih e r hr)
theorem goS_eq (g k : Nat) (m : Bs) (own : Own) (x : S) (xs : List S) (s : Rs) : Tp.goS (g + 1) k m own (x :: xs) s = match s.left with
    | 0 => .stop Tp.fuelW s
    | f + 1 => (match Tp.go1 g k m own x { s with left := f } with
      | .ok r s2 => (match r.2 with
        | some u => .ok (r.1, some u) s2
        | none => Tp.goS g k m r.1 xs s2)
      | .stop way s2 => .stop way s2
      | .gas => .gas) := by
  rw [Tp.goS]
  unfold Tp.Ru.bind
  simp only [Tp.tick]
  cases s.left with
  | zero => rfl
  | succ f =>
    simp only
    cases Tp.go1 g k m own x { s with left := f } with
    | gas => rfl
    | stop way s2 => rfl
    | ok r s2 =>
      simp only
      cases r.2 <;> rfl
set_option maxRecDepth 100000 in
set_option maxHeartbeats 4000000 in
theorem stmts_go {c : Cx} {g : Nat} (ok : CxOk c) (h1 : ∀ n, n < g → Go1C c n) : GoC c g := by
  intro k lo own names l v w s sb ob hss h hs hng
  obtain ⟨cs, hr1, hr2⟩ := hss.rep
  obtain ⟨va, vc, rfl⟩ := hr2.shape
  have hlen := hr2.len
  obtain ⟨res, hres⟩ : ∃ res, res = Tp.goS g k lo.m.name own l s := ⟨_, rfl⟩
  rw [← hres] at hng ⊢
  have HH1 := Lib.hid h1
  have HOK := Lib.hid ok
  have HSS := Lib.hid hss
  have HN := Lib.hid hng
  have HG0 := Lib.hid h
  have HS0 := Lib.hid hs
  have HF0 : Hid (∃ gi, gi ≤ g ∧ res = Tp.goS gi k lo.m.name own (l.drop 0) s) := ⟨g, Nat.le_refl _, hres⟩
  obtain ⟨ln, hln⟩ : ∃ ln, ln = l.length := ⟨_, rfl⟩
  rw [← hln] at hlen ⊢
  have HLN := Lib.hid hln
  have hlen' : (ln : Int) ≤ 9223372036854775807 := by omega
  have HSS' : Hid (∀ i, ∀ hi : i < l.length, ∃ b, va = some ⟨b, 0, none⟩ ∧ b < c.w0.heap.size ∧ StAt c l[i] b (i * 7)) := fun i hi => hss.at i hi
  clear h1 ok hss hng h hs hres hr1 hr2 hln
  go_enter Tryz.func88, Tryz.ntmps88
  go_wp2_with fail
  go_loopg [7] ln (fun kk vi wr => ∃ (i : Nat) (si : Rs) (ow : Own), i ≤ ln ∧ kk = ln - i ∧ vi = .int .i64 (i : Int) ∧ Hid (GS c wr si k) ∧ Hid (Kp c (oY ob) w wr) ∧ Hid (si.left ≤ s.left) ∧ Hid (Sc c wr sb ob lo ow names si.left) ∧ Hid (∃ gi, gi ≤ g ∧ res = Tp.goS gi k lo.m.name ow (l.drop i) si))
  case atStart => exact ⟨0, s, own, by omega, by omega, rfl, HG0, Kp.refl _ _ _, Nat.le_refl _, HS0, HF0⟩
  case round =>
    obtain ⟨i, si, ow, hid, hkk, rfl, HG, HK, HL, HS, HF⟩ := hrel
    obtain ⟨gi, hgi, hfl⟩ := HF.out
    cases gi with
    | zero => exact absurd (by rw [hfl, Tp.goS]; rfl) HN.out
    | succ g1 =>
      by_cases hlt : i < ln
      · have hlt' : (i : Int) < (ln : Int) := by omega
        have hia : i < l.length := by have := HLN.out; omega
        rw [List.drop_eq_getElem_cons hia, goS_eq] at hfl
        have ks : wr.cell? ⟨sb, 0, none⟩ = some (.pointer (some ⟨c.gb, 0, none⟩)) := (cell_blk HS.out.blk).trans rfl
        have hsb := lt_blk HS.out.blk
        cases hlf : si.left with
        | zero =>
          rw [hlf] at hfl
          have HR : Hid (∀ e, thrE endT (Tp.fuelW : Int) e → GoP c k sb ob lo names w s res e wr) := fun e a => by rw [hfl]; exact ⟨a, ⟨k, HG.out⟩, HK.out⟩
          have HST := Lib.hid (rstep_out HG.out hlf)
          clear hfl HF hlf
          go_wp2_with fail
          refine HST.out.mono ?_
          rintro e w4 ⟨⟨older, rfl⟩, rfl⟩
          go_wp2_with fail
          exact ⟨rfl, HR.out _ ⟨older, rfl⟩⟩
        | succ f =>
          rw [hlf] at hfl
          simp only at hfl
          have HST := Lib.hid (rstep_ok HG.out hlf)
          have hg4 := HG.out.tick HOK.out hlf
          have hs4 : Sc c (wr.setCell ⟨c.gb, 1, none⟩ (.int .i64 (f : Int))) sb ob lo ow names (f + 1) := HS.out.kp (Kp.reg HG.out (by omega)) HOK.out.Vlt (by omega)
          have HK4 : Hid (Kp c (oY ob) w (wr.setCell ⟨c.gb, 1, none⟩ (.int .i64 (f : Int)))) := HK.out.trans (Kp.reg HG.out (by omega)).wide
          have hn1 : Tp.go1 g1 k lo.m.name ow l[i] { si with left := f } ≠ .gas := fun e => HN.out (by rw [hfl, e])
          obtain ⟨b, rfl, hb0, hsa⟩ := HSS'.out i hia
          have HC := Lib.hid (HH1.out g1 (by omega) k lo ow names l[i] b (i * 7) _ { si with left := f } sb ob hsa (ws_mem HSS.out.ws _ (List.getElem_mem hia)) (fun r hr => HSS.out.fit r (rs_mem (List.getElem_mem hia) r hr)) hg4 hs4 hn1)
          have HLF : Hid (f ≤ s.left) := by show f ≤ s.left; have := HL.out; omega
          have HFL := Lib.hid hfl
          have HN1 := Lib.hid hn1
          clear hfl HF hlf hn1 hg4 hs4 hsa hb0
          go_wp2_with fail
          refine HST.out.mono ?_
          rintro e w4 ⟨rfl, hw4⟩
          rw [← hw4] at HC HK4
          clear hw4
          have hfl := HFL.out
          cases hg1 : Tp.go1 g1 k lo.m.name ow l[i] { si with left := f } with
          | gas => exact absurd hg1 HN1.out
          | stop way s3 =>
            rw [hg1] at HC hfl
            have HR : Hid (∀ e W, GoP c k sb ob lo names w4 { si with left := f } (.stop way s3) e W → GoP c k sb ob lo names w s res e W) := fun e W a => by rw [hfl]; exact a.up HK4.out HLF.out
            clear hfl hg1 HFL HN1
            go_wp2_with fail
            refine HC.out.mono ?_
            intro e w5 hq
            have HQ := Lib.hid (HR.out e w5 hq)
            obtain ⟨⟨older, rfl⟩, _⟩ := hq
            go_wp2_with fail
            exact ⟨rfl, HQ.out⟩
          | ok r1 s3 =>
            obtain ⟨ow2, u⟩ := r1
            rw [hg1] at HC hfl
            simp only at hfl
            cases u with
            | some u =>
              simp only at hfl
              have HR : Hid (∀ e W, GoP c k sb ob lo names w4 { si with left := f } (.ok (ow2, some u) s3) e W → GoP c k sb ob lo names w s res e W) := fun e W a => by rw [hfl]; exact a.up HK4.out HLF.out
              clear hfl hg1 HFL HN1
              go_wp2_with fail
              refine HC.out.mono ?_
              intro e w5 hq
              have HQ := Lib.hid (HR.out e w5 hq)
              obtain ⟨⟨older, rfl⟩, _⟩ := hq
              go_wp2_with fail
              exact ⟨rfl, HQ.out⟩
            | none =>
              simp only at hfl
              have HF4 : Hid (∃ gi, gi ≤ g ∧ res = Tp.goS gi k lo.m.name ow2 (l.drop (i + 1)) s3) := ⟨g1, by omega, hfl⟩
              clear hfl hg1 HFL HN1
              go_wp2_with fail
              refine HC.out.mono ?_
              rintro e w5 ⟨rfl, hg5, hk5, hl5, hs5⟩
              have HG5 := Lib.hid hg5
              have HK5 := Lib.hid (HK4.out.trans hk5)
              have HL5 : Hid (s3.left ≤ s.left) := Nat.le_trans hl5 HLF.out
              have HS5 := Lib.hid hs5
              clear hg5 hk5 hl5 hs5
              go_wp2_with fail
              go_roundg (ln - (i + 1))
              case measure => omega
              case rel => exact ⟨i + 1, s3, ow2, by omega, rfl, by go_num, HG5, HK5, HL5, HS5, HF4⟩
      · have hlt' : ¬ (i : Int) < (ln : Int) := by omega
        rw [List.drop_of_length_le (by have := HLN.out; omega)] at hfl
        have hfl2 : res = .ok (ow, none) si := by rw [hfl, Tp.goS]; rfl
        have HR : Hid (GoP c k sb ob lo names w s res (.returned (.tuple #[])) wr) := by
          show GoP _ _ _ _ _ _ _ _ _ _ _
          rw [hfl2]
          exact ⟨rfl, HG.out, HK.out, HL.out, HS.out⟩
        clear hfl hfl2 HF
        go_wp2_with fail
        exact bodyPost_end (results_none rfl _ _ _) rfl HR.out
structure RunAll (c : Cx) (g : Nat) : Prop where
  ev : EvC c g
  cl : CallC c g
  g1 : Go1C c g
  go : GoC c g
theorem run_all {c : Cx} (ok : CxOk c) : ∀ g, RunAll c g := by
  intro g
  induction g using Nat.strongRecOn with
  | _ g ih =>
    have hgo : GoC c g := stmts_go ok (fun n hn => (ih n hn).g1)
    cases g with
    | zero =>
      refine ⟨ev_zero c, ?_, ?_, hgo⟩
      · intro k lo nm p vs w s aa ac _ _ _ _ _ _ hn
        exact absurd (by rw [Tp.callP]; rfl) hn
      · intro k lo own names x b o w s sb ob _ _ _ _ _ hn
        exact absurd (by rw [Tp.go1]; rfl) hn
    | succ g =>
      exact ⟨ev_all ok (fun n hn => (ih n hn).ev) (ih g (by omega)).cl, call_all ok (body_all ok (ih g (by omega)).go), rstmt_all ok (fun n hn => (ih n hn).ev) (fun n hn => (ih n hn).go), hgo⟩
theorem run_body {c : Cx} (ok : CxOk c) (g : Nat) : BodyC c g := body_all ok (run_all ok g).go
end Go.Proofs.YtibncofnnlbmcaaGreatDoor
/- Chapter 4: how it ended: way; what goes defers. -/
namespace Go.Proofs.YtibncofnnlbmcaaGreatDoor
open Go.RowKit Go.Maps
open Tp (Bs X S G Pr Pt Rs Rr Own)

theorem ta_way (n : Int) (w : World) : (Instr.typeAssert (.iface 173 (.int .i64 n)) 20 173 true).run Tryz.prog w = .ok (.tuple #[.int .i64 n, .bool true]) w := by kernel_rfl
set_option maxRecDepth 100000 in
theorem way_nil (w : World) : Calls Tryz.prog 86 #[.nilIface] w fun e w' => e = .returned (.int .i64 1) ∧ w' = w := by
  go_enter Tryz.func86, Tryz.ntmps86
  go_wp2_with fail
  go_ret
  exact ⟨rfl, rfl⟩
set_option maxRecDepth 100000 in
theorem way_end (n : Int) (w : World) : Calls Tryz.prog 86 #[.iface endT (.int .i64 n)] w fun e w' => e = .returned (.int .i64 n) ∧ w' = w := by
  unfold endT
  have hta := ta_way n
  go_enter Tryz.func86, Tryz.ntmps86
  go_wp2_with fail
  go_ret
  exact ⟨rfl, rfl⟩
def gops : Array Oper := #[{ dst := some 2, op := Op.call { callee := Callee.builtin Builtin.recover, args := #[], argTypes := #[] }, type := 20, pos := "going.go:19", after := #[], guard := none },
  { dst := some 3, op := Op.call { callee := Callee.value (Operand.func 86), args := #[Operand.tmp 2], argTypes := #[20] }, type := 3, pos := "going.go:19", after := #[{ on := 0, ground := Ground.data }, { on := 0, ground := Ground.chain }], guard := none },
  { dst := some 4, op := Op.load 95 (Operand.tmp 0), type := 95, pos := "going.go:19", after := #[], guard := none },
  { dst := some 5, op := Op.nilCheck (Operand.tmp 4), type := 0, pos := "going.go:19", after := #[{ on := 2, ground := Ground.data }], guard := none },
  { dst := some 6, op := Op.fieldAddr 152 (Operand.tmp 5) 3, type := 0, pos := "going.go:19", after := #[{ on := 3, ground := Ground.data }], guard := none },
  { dst := some 7, op := Op.load 29 (Operand.tmp 6), type := 29, pos := "going.go:19", after := #[{ on := 4, ground := Ground.data }], guard := none },
  { dst := some 8, op := Op.build 43 #[(0, Operand.tmp 3), (1, Operand.tmp 7)], type := 43, pos := "going.go:19", after := #[{ on := 1, ground := Ground.data }, { on := 5, ground := Ground.data }], guard := none },
  { dst := none, op := Op.store 43 (Operand.tmp 1) (Operand.tmp 8), type := 0, pos := "going.go:19", after := #[{ on := 6, ground := Ground.data }, { on := 1, ground := Ground.chain }, { on := 0, ground := Ground.phase }, { on := 1, ground := Ground.phase }, { on := 2, ground := Ground.phase }, { on := 3, ground := Ground.phase }, { on := 4, ground := Ground.phase }, { on := 5, ground := Ground.phase }, { on := 6, ground := Ground.phase }], guard := none }]
set_option linter.unusedSimpArgs false in
set_option maxRecDepth 100000 in
set_option maxHeartbeats 4000000 in
theorem glate_ord {gx eb gb on oc : Nat} {oa : Option Addr} {rv : Value} {n : Int} {c₀ c1 : Frame} {cs : List Frame} {wd : World} {Q : Exit → Act → List Frame → World → Prop} (hrec : recoverD (c₀ :: cs) = some (rv, c1 :: cs) ∨ recoverD (c₀ :: cs) = none ∧ rv = .nilIface ∧ c1 = c₀)
    (hway : ∀ w, Calls Tryz.prog 86 #[rv] w fun e w' => e = .returned (.int .i64 n) ∧ w' = w) (k0 : wd.cell? ⟨gx, 0, none⟩ = some (.pointer (some ⟨gb, 0, none⟩))) (k3 : wd.cell? ⟨gb, 3, none⟩ = some (.slice oa on oc)) {x0 x1 : Value} (e0 : wd.cell? ⟨eb, 0, none⟩ = some x0) (e1 : wd.cell? ⟨eb, 1, none⟩ = some x1) (z0 : wd.frozen? ⟨eb, 0, none⟩ = false) (z1 : wd.frozen? ⟨eb, 1, none⟩ = false)
    (hQ : Q .normal { tmps := #[.pointer (some ⟨gx, 0, none⟩), .pointer (some ⟨eb, 0, none⟩), rv, .int .i64 n, .pointer (some ⟨gb, 0, none⟩), .pointer (some ⟨gb, 0, none⟩), .pointer (some ⟨gb, 3, none⟩), .slice oa on oc, .agg #[.int .i64 n, .slice oa on oc]], defers := [] } (c1 :: cs) ((wd.setCell ⟨eb, 0, none⟩ (.int .i64 n)).setCell ⟨eb, 1, none⟩ (.slice oa on oc))) :
    wpOrd Tryz.prog .any gops Q 8 #[false, false, false, false, false, false, false, false] { tmps := #[.pointer (some ⟨gx, 0, none⟩), .pointer (some ⟨eb, 0, none⟩), undef, undef, undef, undef, undef, undef, undef], defers := [] } (c₀ :: cs) wd := by
  have hgl := lt_of_cell k0
  have hgbl := lt_of_cell k3
  have hel := lt_of_cell e0
  have s_e : wpOrd Tryz.prog .any gops Q 0 #[true, true, true, true, true, true, true, true] { tmps := #[.pointer (some ⟨gx, 0, none⟩), .pointer (some ⟨eb, 0, none⟩), rv, .int .i64 n, .pointer (some ⟨gb, 0, none⟩), .pointer (some ⟨gb, 0, none⟩), .pointer (some ⟨gb, 3, none⟩), .slice oa on oc, .agg #[.int .i64 n, .slice oa on oc]], defers := [] } (c1 :: cs) ((wd.setCell ⟨eb, 0, none⟩ (.int .i64 n)).setCell ⟨eb, 1, none⟩ (.slice oa on oc)) := by
    exact ⟨by kernel_rfl, hQ⟩
  have s_7 : wpOrd Tryz.prog .any gops Q 1 #[true, true, true, true, true, true, true, false] { tmps := #[.pointer (some ⟨gx, 0, none⟩), .pointer (some ⟨eb, 0, none⟩), rv, .int .i64 n, .pointer (some ⟨gb, 0, none⟩), .pointer (some ⟨gb, 0, none⟩), .pointer (some ⟨gb, 3, none⟩), .slice oa on oc, .agg #[.int .i64 n, .slice oa on oc]], defers := [] } (c1 :: cs) wd := by
    rw [wpOrd, show Region.ready .any gops #[true, true, true, true, true, true, true, false] = [7] from by kernel_rfl]
    refine ⟨fun h => (by cases h), fun i hi => ?_⟩
    rw [List.mem_singleton] at hi
    subst hi
    simp [wpOp1, gops, go_sem, Region.wanted, k0, k3, e0, e1, z0, z1]
    exact s_e
  have s_2_4 : wpOrd Tryz.prog .any gops Q 2 #[true, true, true, true, true, true, false, false] { tmps := #[.pointer (some ⟨gx, 0, none⟩), .pointer (some ⟨eb, 0, none⟩), rv, .int .i64 n, .pointer (some ⟨gb, 0, none⟩), .pointer (some ⟨gb, 0, none⟩), .pointer (some ⟨gb, 3, none⟩), .slice oa on oc, undef], defers := [] } (c1 :: cs) wd := by
    rw [wpOrd, show Region.ready .any gops #[true, true, true, true, true, true, false, false] = [6] from by kernel_rfl]
    refine ⟨fun h => (by cases h), fun i hi => ?_⟩
    rw [List.mem_singleton] at hi
    subst hi
    simp [wpOp1, gops, go_sem, Region.wanted, k0, k3, e0, e1, z0, z1]
    exact s_7
  have s_2_3 : wpOrd Tryz.prog .any gops Q 3 #[true, true, true, true, true, false, false, false] { tmps := #[.pointer (some ⟨gx, 0, none⟩), .pointer (some ⟨eb, 0, none⟩), rv, .int .i64 n, .pointer (some ⟨gb, 0, none⟩), .pointer (some ⟨gb, 0, none⟩), .pointer (some ⟨gb, 3, none⟩), undef, undef], defers := [] } (c1 :: cs) wd := by
    rw [wpOrd, show Region.ready .any gops #[true, true, true, true, true, false, false, false] = [5] from by kernel_rfl]
    refine ⟨fun h => (by cases h), fun i hi => ?_⟩
    rw [List.mem_singleton] at hi
    subst hi
    simp [wpOp1, gops, go_sem, Region.wanted, k0, k3, e0, e1, z0, z1]
    exact s_2_4
  have s_1_4 : wpOrd Tryz.prog .any gops Q 3 #[true, false, true, true, true, true, false, false] { tmps := #[.pointer (some ⟨gx, 0, none⟩), .pointer (some ⟨eb, 0, none⟩), rv, undef, .pointer (some ⟨gb, 0, none⟩), .pointer (some ⟨gb, 0, none⟩), .pointer (some ⟨gb, 3, none⟩), .slice oa on oc, undef], defers := [] } (c1 :: cs) wd := by
    rw [wpOrd, show Region.ready .any gops #[true, false, true, true, true, true, false, false] = [1] from by kernel_rfl]
    refine ⟨fun h => (by cases h), fun i hi => ?_⟩
    rw [List.mem_singleton] at hi
    subst hi
    simp [wpOp1, gops, go_sem, Region.wanted]
    refine (hway wd).mono ?_
    rintro e w' ⟨rfl, rfl⟩
    exact s_2_4
  have s_2_2 : wpOrd Tryz.prog .any gops Q 4 #[true, true, true, true, false, false, false, false] { tmps := #[.pointer (some ⟨gx, 0, none⟩), .pointer (some ⟨eb, 0, none⟩), rv, .int .i64 n, .pointer (some ⟨gb, 0, none⟩), .pointer (some ⟨gb, 0, none⟩), undef, undef, undef], defers := [] } (c1 :: cs) wd := by
    rw [wpOrd, show Region.ready .any gops #[true, true, true, true, false, false, false, false] = [4] from by kernel_rfl]
    refine ⟨fun h => (by cases h), fun i hi => ?_⟩
    rw [List.mem_singleton] at hi
    subst hi
    simp [wpOp1, gops, go_sem, Region.wanted, k0, k3, e0, e1, z0, z1]
    exact s_2_3
  have s_1_3 : wpOrd Tryz.prog .any gops Q 4 #[true, false, true, true, true, false, false, false] { tmps := #[.pointer (some ⟨gx, 0, none⟩), .pointer (some ⟨eb, 0, none⟩), rv, undef, .pointer (some ⟨gb, 0, none⟩), .pointer (some ⟨gb, 0, none⟩), .pointer (some ⟨gb, 3, none⟩), undef, undef], defers := [] } (c1 :: cs) wd := by
    rw [wpOrd, show Region.ready .any gops #[true, false, true, true, true, false, false, false] = [1, 5] from by kernel_rfl]
    refine ⟨fun h => (by cases h), fun i hi => ?_⟩
    rcases List.mem_cons.1 hi with hi | hi
    · subst hi
      simp [wpOp1, gops, go_sem, Region.wanted]
      refine (hway wd).mono ?_
      rintro e w' ⟨rfl, rfl⟩
      exact s_2_3
    · rw [List.mem_singleton] at hi
      subst hi
      simp [wpOp1, gops, go_sem, Region.wanted, k0, k3, e0, e1, z0, z1]
      exact s_1_4
  have s_0_4 : wpOrd Tryz.prog .any gops Q 4 #[false, false, true, true, true, true, false, false] { tmps := #[.pointer (some ⟨gx, 0, none⟩), .pointer (some ⟨eb, 0, none⟩), undef, undef, .pointer (some ⟨gb, 0, none⟩), .pointer (some ⟨gb, 0, none⟩), .pointer (some ⟨gb, 3, none⟩), .slice oa on oc, undef], defers := [] } (c₀ :: cs) wd := by
    rw [wpOrd, show Region.ready .any gops #[false, false, true, true, true, true, false, false] = [0] from by kernel_rfl]
    refine ⟨fun h => (by cases h), fun i hi => ?_⟩
    rw [List.mem_singleton] at hi
    subst hi
    rcases hrec with hr | ⟨hr, hv, hc⟩
    · simp [wpOp1, gops, go_sem, Region.wanted, hr]
      exact s_1_4
    · subst hv hc
      simp [wpOp1, gops, go_sem, Region.wanted, hr]
      exact s_1_4
  have s_2_1 : wpOrd Tryz.prog .any gops Q 5 #[true, true, true, false, false, false, false, false] { tmps := #[.pointer (some ⟨gx, 0, none⟩), .pointer (some ⟨eb, 0, none⟩), rv, .int .i64 n, .pointer (some ⟨gb, 0, none⟩), undef, undef, undef, undef], defers := [] } (c1 :: cs) wd := by
    rw [wpOrd, show Region.ready .any gops #[true, true, true, false, false, false, false, false] = [3] from by kernel_rfl]
    refine ⟨fun h => (by cases h), fun i hi => ?_⟩
    rw [List.mem_singleton] at hi
    subst hi
    simp [wpOp1, gops, go_sem, Region.wanted, k0, k3, e0, e1, z0, z1]
    exact s_2_2
  have s_1_2 : wpOrd Tryz.prog .any gops Q 5 #[true, false, true, true, false, false, false, false] { tmps := #[.pointer (some ⟨gx, 0, none⟩), .pointer (some ⟨eb, 0, none⟩), rv, undef, .pointer (some ⟨gb, 0, none⟩), .pointer (some ⟨gb, 0, none⟩), undef, undef, undef], defers := [] } (c1 :: cs) wd := by
    rw [wpOrd, show Region.ready .any gops #[true, false, true, true, false, false, false, false] = [1, 4] from by kernel_rfl]
    refine ⟨fun h => (by cases h), fun i hi => ?_⟩
    rcases List.mem_cons.1 hi with hi | hi
    · subst hi
      simp [wpOp1, gops, go_sem, Region.wanted]
      refine (hway wd).mono ?_
      rintro e w' ⟨rfl, rfl⟩
      exact s_2_2
    · rw [List.mem_singleton] at hi
      subst hi
      simp [wpOp1, gops, go_sem, Region.wanted, k0, k3, e0, e1, z0, z1]
      exact s_1_3
  have s_0_3 : wpOrd Tryz.prog .any gops Q 5 #[false, false, true, true, true, false, false, false] { tmps := #[.pointer (some ⟨gx, 0, none⟩), .pointer (some ⟨eb, 0, none⟩), undef, undef, .pointer (some ⟨gb, 0, none⟩), .pointer (some ⟨gb, 0, none⟩), .pointer (some ⟨gb, 3, none⟩), undef, undef], defers := [] } (c₀ :: cs) wd := by
    rw [wpOrd, show Region.ready .any gops #[false, false, true, true, true, false, false, false] = [0, 5] from by kernel_rfl]
    refine ⟨fun h => (by cases h), fun i hi => ?_⟩
    rcases List.mem_cons.1 hi with hi | hi
    · subst hi
      rcases hrec with hr | ⟨hr, hv, hc⟩
      · simp [wpOp1, gops, go_sem, Region.wanted, hr]
        exact s_1_3
      · subst hv hc
        simp [wpOp1, gops, go_sem, Region.wanted, hr]
        exact s_1_3
    · rw [List.mem_singleton] at hi
      subst hi
      simp [wpOp1, gops, go_sem, Region.wanted, k0, k3, e0, e1, z0, z1]
      exact s_0_4
  have s_2_0 : wpOrd Tryz.prog .any gops Q 6 #[true, true, false, false, false, false, false, false] { tmps := #[.pointer (some ⟨gx, 0, none⟩), .pointer (some ⟨eb, 0, none⟩), rv, .int .i64 n, undef, undef, undef, undef, undef], defers := [] } (c1 :: cs) wd := by
    rw [wpOrd, show Region.ready .any gops #[true, true, false, false, false, false, false, false] = [2] from by kernel_rfl]
    refine ⟨fun h => (by cases h), fun i hi => ?_⟩
    rw [List.mem_singleton] at hi
    subst hi
    simp [wpOp1, gops, go_sem, Region.wanted, k0, k3, e0, e1, z0, z1]
    exact s_2_1
  have s_1_1 : wpOrd Tryz.prog .any gops Q 6 #[true, false, true, false, false, false, false, false] { tmps := #[.pointer (some ⟨gx, 0, none⟩), .pointer (some ⟨eb, 0, none⟩), rv, undef, .pointer (some ⟨gb, 0, none⟩), undef, undef, undef, undef], defers := [] } (c1 :: cs) wd := by
    rw [wpOrd, show Region.ready .any gops #[true, false, true, false, false, false, false, false] = [1, 3] from by kernel_rfl]
    refine ⟨fun h => (by cases h), fun i hi => ?_⟩
    rcases List.mem_cons.1 hi with hi | hi
    · subst hi
      simp [wpOp1, gops, go_sem, Region.wanted]
      refine (hway wd).mono ?_
      rintro e w' ⟨rfl, rfl⟩
      exact s_2_1
    · rw [List.mem_singleton] at hi
      subst hi
      simp [wpOp1, gops, go_sem, Region.wanted, k0, k3, e0, e1, z0, z1]
      exact s_1_2
  have s_0_2 : wpOrd Tryz.prog .any gops Q 6 #[false, false, true, true, false, false, false, false] { tmps := #[.pointer (some ⟨gx, 0, none⟩), .pointer (some ⟨eb, 0, none⟩), undef, undef, .pointer (some ⟨gb, 0, none⟩), .pointer (some ⟨gb, 0, none⟩), undef, undef, undef], defers := [] } (c₀ :: cs) wd := by
    rw [wpOrd, show Region.ready .any gops #[false, false, true, true, false, false, false, false] = [0, 4] from by kernel_rfl]
    refine ⟨fun h => (by cases h), fun i hi => ?_⟩
    rcases List.mem_cons.1 hi with hi | hi
    · subst hi
      rcases hrec with hr | ⟨hr, hv, hc⟩
      · simp [wpOp1, gops, go_sem, Region.wanted, hr]
        exact s_1_2
      · subst hv hc
        simp [wpOp1, gops, go_sem, Region.wanted, hr]
        exact s_1_2
    · rw [List.mem_singleton] at hi
      subst hi
      simp [wpOp1, gops, go_sem, Region.wanted, k0, k3, e0, e1, z0, z1]
      exact s_0_3
  have s_1_0 : wpOrd Tryz.prog .any gops Q 7 #[true, false, false, false, false, false, false, false] { tmps := #[.pointer (some ⟨gx, 0, none⟩), .pointer (some ⟨eb, 0, none⟩), rv, undef, undef, undef, undef, undef, undef], defers := [] } (c1 :: cs) wd := by
    rw [wpOrd, show Region.ready .any gops #[true, false, false, false, false, false, false, false] = [1, 2] from by kernel_rfl]
    refine ⟨fun h => (by cases h), fun i hi => ?_⟩
    rcases List.mem_cons.1 hi with hi | hi
    · subst hi
      simp [wpOp1, gops, go_sem, Region.wanted]
      refine (hway wd).mono ?_
      rintro e w' ⟨rfl, rfl⟩
      exact s_2_0
    · rw [List.mem_singleton] at hi
      subst hi
      simp [wpOp1, gops, go_sem, Region.wanted, k0, k3, e0, e1, z0, z1]
      exact s_1_1
  have s_0_1 : wpOrd Tryz.prog .any gops Q 7 #[false, false, true, false, false, false, false, false] { tmps := #[.pointer (some ⟨gx, 0, none⟩), .pointer (some ⟨eb, 0, none⟩), undef, undef, .pointer (some ⟨gb, 0, none⟩), undef, undef, undef, undef], defers := [] } (c₀ :: cs) wd := by
    rw [wpOrd, show Region.ready .any gops #[false, false, true, false, false, false, false, false] = [0, 3] from by kernel_rfl]
    refine ⟨fun h => (by cases h), fun i hi => ?_⟩
    rcases List.mem_cons.1 hi with hi | hi
    · subst hi
      rcases hrec with hr | ⟨hr, hv, hc⟩
      · simp [wpOp1, gops, go_sem, Region.wanted, hr]
        exact s_1_1
      · subst hv hc
        simp [wpOp1, gops, go_sem, Region.wanted, hr]
        exact s_1_1
    · rw [List.mem_singleton] at hi
      subst hi
      simp [wpOp1, gops, go_sem, Region.wanted, k0, k3, e0, e1, z0, z1]
      exact s_0_2
  have s_0_0 : wpOrd Tryz.prog .any gops Q 8 #[false, false, false, false, false, false, false, false] { tmps := #[.pointer (some ⟨gx, 0, none⟩), .pointer (some ⟨eb, 0, none⟩), undef, undef, undef, undef, undef, undef, undef], defers := [] } (c₀ :: cs) wd := by
    rw [wpOrd, show Region.ready .any gops #[false, false, false, false, false, false, false, false] = [0, 2] from by kernel_rfl]
    refine ⟨fun h => (by cases h), fun i hi => ?_⟩
    rcases List.mem_cons.1 hi with hi | hi
    · subst hi
      rcases hrec with hr | ⟨hr, hv, hc⟩
      · simp [wpOp1, gops, go_sem, Region.wanted, hr]
        exact s_1_0
      · subst hv hc
        simp [wpOp1, gops, go_sem, Region.wanted, hr]
        exact s_1_0
    · rw [List.mem_singleton] at hi
      subst hi
      simp [wpOp1, gops, go_sem, Region.wanted, k0, k3, e0, e1, z0, z1]
      exact s_0_1
  exact s_0_0
end Go.Proofs.YtibncofnnlbmcaaGreatDoor
