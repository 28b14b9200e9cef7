import Derived.Test.YtfcdphgggdioeaaGreatDoorKPa
/- The document's own reader on plain lists: it notes what is wrong first, and goes on. No program stands in it. -/
namespace Nr
open Tp
abbrev Fl := Int × Int
def fine : Fl := (0, -1)
/- the tokens to come, and what was wrong first -/
abbrev Sx := List Tok × Fl
def tk (m : Bs) (s : Sx) : Bool := decide (s.2 = fine ∧ tx s.1 = m)
def tkS (m : Bs) (s : Sx) : Sx := (if s.2 = fine ∧ tx s.1 = m then stp s.1 else s.1, s.2)
def fl (e : Nat) (s : Sx) : Sx := (s.1, if s.2 = fine then ((e : Int), (at' s.1 : Int)) else s.2)
def mu (m : Bs) (s : Sx) : Sx := (if s.2 = fine ∧ tx s.1 = m then stp s.1 else s.1, if s.2 = fine ∧ tx s.1 ≠ m then ((3 : Int), (at' s.1 : Int)) else s.2)
def flt (e : Er) : Fl := ((e.1 : Int), (e.2 : Int))
def nm (s : Sx) : Bs × Sx :=
  if s.2 = fine then match Tp.name s.1 with
    | .ok (n, r1) => (n, (r1, fine))
    | .error e => ([], (s.1, flt e))
  else ([], s)
def nu (most : Nat) (s : Sx) : Nat × Sx :=
  if s.2 = fine then match Tp.number most s.1 with
    | .ok (n, r1) => (n, (r1, fine))
    | .error e => (0, (s.1, flt e))
  else (0, s)
/- names: l is what is there already -/
def nms : Nat → Nat → List Bs → Sx → Option (List Bs × Sx)
  | 0, _, _, _ => none
  | f + 1, most, l, s =>
    if most ≤ l.length then some (l, fl 4 s)
    else if tk mComma (nm s).2 then nms f most (l ++ [(nm s).1]) (tkS mComma (nm s).2)
    else some (l ++ [(nm s).1], (nm s).2)
def nex : Nat → Nat → Nat → Nat → List X → Sx → Option (List X × Sx)
  | 0, _, _, _, _, _ => none
  | f + 1, k, ones, a, acc, s =>
    if k < 5 then (nex f (k + 1) ones 0 [] s).bind fun y => nex f (10 + k) ones (at' s.1) y.1 y.2
    else if k = 5 then
      if 10 < ones then some ([], fl 4 s)
      else if s.2 ≠ fine then some ([], s)
      else if (hd s.1).kind = 2 then some ([⟨1, at' s.1, (nu top s).1, [], [], [], [], [], []⟩], (nu top s).2)
      else if tx s.1 = mMinus then (nex f 5 (ones + 1) 0 [] (stp s.1, fine)).map fun y => ([⟨4, at' s.1, 0, [], [], mMinus, y.1, [], []⟩], y.2)
      else if tx s.1 = wNot then (nex f 5 (ones + 1) 0 [] (stp s.1, fine)).map fun y => ([⟨4, at' s.1, 0, [], [], wNot, y.1, [], []⟩], y.2)
      else if tx s.1 = mLp then (nex f 0 (ones + 1) 0 [] (stp s.1, fine)).map fun y => (y.1, mu mRp y.2)
      else nex f 6 ones 0 [] s
    else if k = 6 then
      let n1 := nm s
      let n2 := if tk mDot n1.2 then nm (tkS mDot n1.2) else n1
      let m := if tk mDot n1.2 then n1.1 else []
      if tk mLb n2.2 then (nex f 0 (ones + 1) 0 [] (tkS mLb n2.2)).map fun y => ([⟨3, at' s.1, 0, m, n2.1, [], y.1, [], []⟩], mu mRb y.2)
      else if tk mLp n2.2 then (nex f 7 ones 1 [] (tkS mLp n2.2)).map fun y => ([⟨6, at' s.1, 0, m, n2.1, [], [], [], y.1⟩], y.2)
      else some ([⟨2, at' s.1, 0, m, n2.1, [], [], [], []⟩], n2.2)
    else if k = 7 then
      if s.2 ≠ fine then some (acc, s)
      else if tx s.1 = mRp then some (acc, (stp s.1, fine))
      else
        let s1 := if a = 1 then s else mu mComma s
        if s1.2 ≠ fine then some (acc, s1)
        else (nex f 0 (ones + 1) 0 [] s1).bind fun y => nex f 7 ones 0 (acc ++ y.1) y.2
    else if s.2 = fine ∧ lvl (tx s.1) = k - 10 then (nex f (k - 10 + 1) ones 0 [] (stp s.1, fine)).bind fun y => nex f k ones a [⟨5, a, 0, [], [], tx s.1, acc, y.1, []⟩] y.2
    else some (acc, s)
end Nr
/- The document's own reader on plain lists reads what chapter 1's reader reads: EXPRs. -/
namespace Nr
open Tp
theorem flt_ne (e : Er) : flt e ≠ fine := by
  intro h
  have := congrArg Prod.snd h
  simp [flt, fine] at this
/- more gas, the same -/
def Ol {α : Type} (a b : Option α) : Prop := ∀ y, a = some y → b = some y
theorem Ol.refl {α : Type} (a : Option α) : Ol a a := fun _ h => h
theorem Ol.bind {α β : Type} {a b : Option α} {g h : α → Option β} (h1 : Ol a b) (h2 : ∀ v, Ol (g v) (h v)) : Ol (a.bind g) (b.bind h) := by
  intro y hy
  cases a with
  | none => cases hy
  | some v => rw [h1 v rfl]; exact h2 v y hy
theorem Ol.map {α β : Type} {a b : Option α} {g : α → β} (h1 : Ol a b) : Ol (a.map g) (b.map g) := by
  intro y hy
  cases a with
  | none => cases hy
  | some v => rw [h1 v rfl]; exact hy
theorem Ol.ite {α : Type} {c : Prop} [Decidable c] {a b a' b' : Option α} (h1 : Ol a a') (h2 : Ol b b') : Ol (if c then a else b) (if c then a' else b') := by
  split <;> assumption
theorem nex_step (f : Nat) : ∀ k ones a acc s, Ol (nex f k ones a acc s) (nex (f + 1) k ones a acc s) := by
  induction f with
  | zero => intro k ones a acc s y h; cases h
  | succ f ih =>
    intro k ones a acc s
    rw [nex, nex]
    refine Ol.ite (Ol.bind (ih _ _ _ _ _) fun v => ih _ _ _ _ _) (Ol.ite (Ol.ite (Ol.refl _) (Ol.ite (Ol.refl _) (Ol.ite (Ol.refl _) (Ol.ite (Ol.map (ih _ _ _ _ _)) (Ol.ite (Ol.map (ih _ _ _ _ _)) (Ol.ite (Ol.map (ih _ _ _ _ _)) (ih _ _ _ _ _))))))) (Ol.ite ?_ (Ol.ite ?_ (Ol.ite (Ol.bind (ih _ _ _ _ _) fun v => ih _ _ _ _ _) (Ol.refl _)))))
    · exact Ol.ite (Ol.map (ih _ _ _ _ _)) (Ol.ite (Ol.map (ih _ _ _ _ _)) (Ol.refl _))
    · exact Ol.ite (Ol.refl _) (Ol.ite (Ol.refl _) (Ol.ite (Ol.refl _) (Ol.bind (ih _ _ _ _ _) fun v => ih _ _ _ _ _)))
def Mo {α : Type} (N : Nat → Option α) : Prop := ∀ f g, f ≤ g → Ol (N f) (N g)
theorem mo_nex (k ones a : Nat) (acc : List X) (s : Sx) : Mo (fun g => nex g k ones a acc s) := by
  intro f g h
  induction h with
  | refl => exact Ol.refl _
  | step _ ih => exact fun y hy => nex_step _ _ _ _ _ _ y (ih y hy)
theorem mo_some {α : Type} (y : α) : Mo (fun _ => some y) := fun _ _ _ => Ol.refl _
theorem Mo.bind {α β : Type} {N : Nat → Option α} {M : α → Nat → Option β} (h : Mo N) (k : ∀ x, Mo (M x)) : Mo (fun g => (N g).bind fun y => M y g) := fun f g hfg => Ol.bind (h f g hfg) fun v => k v f g hfg
/- what both come to -/
def Rl {α : Type} (P : Except Er (α × List Tok)) (N : Nat → Option (α × Sx)) : Prop :=
  (∀ x r1, P = .ok (x, r1) → ∃ g, N g = some (x, (r1, fine))) ∧ (∀ e, e ≠ (99, 0) → P = .error e → ∃ g y r', N g = some (y, (r', flt e)))
theorem Rl.up {α : Type} {P : Except Er (α × List Tok)} {N F : Nat → Option (α × Sx)} (h : ∀ g, N (g + 1) = F g) (k : Rl P F) : Rl P N :=
  ⟨fun x r1 e => (k.1 x r1 e).elim fun g hg => ⟨g + 1, by rw [h]; exact hg⟩, fun e h1 h2 => by obtain ⟨g, y, r', hg⟩ := k.2 e h1 h2; exact ⟨g + 1, y, r', by rw [h]; exact hg⟩⟩
theorem Rl.bind {α β : Type} {P : Except Er (α × List Tok)} {Q : α × List Tok → Except Er (β × List Tok)} {N : Nat → Option (α × Sx)} {M : α → Sx → Nat → Option (β × Sx)} (hN : Mo N) (hM : ∀ x s, Mo (M x s)) (h1 : Rl P N)
    (h2 : ∀ x r1, P = .ok (x, r1) → Rl (Q (x, r1)) (M x (r1, fine))) (h3 : ∀ x r e, ∃ g y, M x (r, flt e) g = some (y, (r, flt e))) : Rl (P >>= Q) (fun g => (N g).bind fun y => M y.1 y.2 g) := by
  constructor
  · intro x r1 hx
    rcases hP : P with e | ⟨z, r2⟩
    · rw [hP] at hx; cases hx
    · rw [hP] at hx
      obtain ⟨g1, hg1⟩ := h1.1 z r2 hP
      obtain ⟨g2, hg2⟩ := (h2 z r2 hP).1 x r1 hx
      refine ⟨max g1 g2, ?_⟩
      show (N (max g1 g2)).bind _ = _
      rw [hN g1 (max g1 g2) (Nat.le_max_left _ _) _ hg1]
      exact hM z _ g2 (max g1 g2) (Nat.le_max_right _ _) _ hg2
  · intro e hne he
    rcases hP : P with e' | ⟨z, r2⟩
    · rw [hP] at he
      obtain rfl : e' = e := by cases he; rfl
      obtain ⟨g1, y, r', hg1⟩ := h1.2 e' hne hP
      obtain ⟨g2, y', hg2⟩ := h3 y r' e'
      refine ⟨max g1 g2, y', r', ?_⟩
      show (N (max g1 g2)).bind _ = _
      rw [hN g1 (max g1 g2) (Nat.le_max_left _ _) _ hg1]
      exact hM y _ g2 (max g1 g2) (Nat.le_max_right _ _) _ hg2
    · rw [hP] at he
      obtain ⟨g1, hg1⟩ := h1.1 z r2 hP
      obtain ⟨g2, y, r', hg2⟩ := (h2 z r2 hP).2 e hne he
      refine ⟨max g1 g2, y, r', ?_⟩
      show (N (max g1 g2)).bind _ = _
      rw [hN g1 (max g1 g2) (Nat.le_max_left _ _) _ hg1]
      exact hM z _ g2 (max g1 g2) (Nat.le_max_right _ _) _ hg2
theorem Rl.ok {α : Type} (x : α) (r : List Tok) : Rl (.ok (x, r)) (fun _ => some (x, (r, fine))) := ⟨fun y r1 h => (by cases h; exact ⟨0, rfl⟩), fun e _ h => (by cases h)⟩
theorem Rl.error {α : Type} (x : α) (e : Er) (r : List Tok) : Rl (.error e) (fun _ => some (x, (r, flt e))) := ⟨fun y r1 h => (by cases h), fun e' _ h => (by cases h; exact ⟨0, x, r, rfl⟩)⟩
theorem Rl.want {α : Type} (m : Bs) (r : List Tok) (x : α) : Rl (Tp.want m r >>= fun r2 => .ok (x, r2)) (fun _ => some (x, mu m (r, fine))) := by
  unfold Tp.want
  by_cases h : tx r = m
  · rw [if_pos h]
    have e : mu m (r, fine) = (stp r, fine) := by simp [mu, h]
    rw [e]
    exact Rl.ok x (stp r)
  · rw [if_neg h]
    have e : mu m (r, fine) = (r, flt (3, at' r)) := by simp [mu, h, flt]
    rw [e]
    exact Rl.error x (3, at' r) r
theorem mu_bad (m : Bs) (r : List Tok) (e : Er) : mu m (r, flt e) = (r, flt e) := by simp [mu, flt_ne]
theorem fl_bad (k : Nat) (r : List Tok) (e : Er) : fl k (r, flt e) = (r, flt e) := by simp [fl, flt_ne]
theorem tk_bad (m : Bs) (r : List Tok) (e : Er) : tk m (r, flt e) = false := by simp [tk, flt_ne]
theorem nm_bad (r : List Tok) (e : Er) : nm (r, flt e) = ([], (r, flt e)) := by simp [nm, flt_ne]
theorem tk_fine (m : Bs) (r : List Tok) : tk m (r, fine) = decide (tx r = m) := by simp [tk]
theorem tkS_fine {m : Bs} {r : List Tok} (h : tx r = m) : tkS m (r, fine) = (stp r, fine) := by simp [tkS, h]
theorem nm_ok {r r1 : List Tok} {n : Bs} (h : Tp.name r = .ok (n, r1)) : nm (r, fine) = (n, (r1, fine)) := by simp [nm, h]
theorem nm_err {r : List Tok} {e : Er} (h : Tp.name r = .error e) : nm (r, fine) = ([], (r, flt e)) := by simp [nm, h]
theorem nu_ok {k : Nat} {r r1 : List Tok} {n : Nat} (h : Tp.number k r = .ok (n, r1)) : nu k (r, fine) = (n, (r1, fine)) := by simp [nu, h]
theorem nu_err {k : Nat} {r : List Tok} {e : Er} (h : Tp.number k r = .error e) : nu k (r, fine) = (0, (r, flt e)) := by simp [nu, h]
theorem map_some {α β : Type} (N : Option α) (F : α → β) : N.map F = N.bind fun y => some (F y) := by cases N <;> rfl
theorem nex7_bad (ones a : Nat) (acc : List X) (r : List Tok) (e : Er) : nex 1 7 ones a acc (r, flt e) = some (acc, (r, flt e)) := by
  rw [nex]; simp [flt_ne]
theorem nexL_bad (k ones a : Nat) (acc : List X) (r : List Tok) (e : Er) : nex 1 (10 + k) ones a acc (r, flt e) = some (acc, (r, flt e)) := by
  rw [nex]
  rw [if_neg (by omega), if_neg (by omega), if_neg (by omega), if_neg (by omega), if_neg (fun h => flt_ne e h.1)]
/- what stands behind the name of a REF -/
def aft (f ones p : Nat) (m n : Bs) (r2 : List Tok) : Except Er (List X × List Tok) :=
  if tx r2 = mLb then do
    let (x, r3) ← ex f 0 (ones + 1) 0 [] (stp r2)
    let r4 ← want mRb r3
    .ok ([⟨3, p, 0, m, n, [], x, [], []⟩], r4)
  else if tx r2 = mLp then
    if tx (stp r2) = mRp then .ok ([⟨6, p, 0, m, n, [], [], [], []⟩], stp (stp r2))
    else do
      let (l, r3) ← ex f 7 ones 0 [] (stp r2)
      let r4 ← want mRp r3
      .ok ([⟨6, p, 0, m, n, [], [], [], l⟩], r4)
  else .ok ([⟨2, p, 0, m, n, [], [], [], []⟩], r2)
def naft (f ones p : Nat) (m n : Bs) (s : Sx) : Option (List X × Sx) :=
  if tk mLb s then (nex f 0 (ones + 1) 0 [] (tkS mLb s)).map fun y => ([⟨3, p, 0, m, n, [], y.1, [], []⟩], mu mRb y.2)
  else if tk mLp s then (nex f 7 ones 1 [] (tkS mLp s)).map fun y => ([⟨6, p, 0, m, n, [], [], [], y.1⟩], y.2)
  else some ([⟨2, p, 0, m, n, [], [], [], []⟩], s)
theorem nex6 (f ones a : Nat) (acc : List X) (s : Sx) : nex (f + 1) 6 ones a acc s = naft f ones (at' s.1) (if tk mDot (nm s).2 then (nm s).1 else []) (if tk mDot (nm s).2 then nm (tkS mDot (nm s).2) else nm s).1 (if tk mDot (nm s).2 then nm (tkS mDot (nm s).2) else nm s).2 := by
  rw [nex]; rfl
theorem ex6 (f ones a : Nat) (acc : List X) (r : List Tok) : ex (f + 1) 6 ones a acc r = (Tp.name r >>= fun y => if tx y.2 = mDot then (Tp.name (stp y.2) >>= fun z => aft f ones (at' r) y.1 z.1 z.2) else aft f ones (at' r) [] y.1 y.2) := by
  rw [ex]
  simp only [show ¬ (6 < 5) by omega, show ¬ (6 = 5) by omega, if_false, if_true]
  cases Tp.name r with
  | error e => rfl
  | ok y =>
    simp only [bind, Except.bind]
    by_cases h : tx y.2 = mDot
    · rw [if_pos h, if_pos h]
      cases Tp.name (stp y.2) with
      | error e => rfl
      | ok z => rfl
    · rw [if_neg h, if_neg h]; rfl
theorem naft_bad (ones p : Nat) (m n : Bs) (r : List Tok) (e : Er) : naft 0 ones p m n (r, flt e) = some ([⟨2, p, 0, m, n, [], [], [], []⟩], (r, flt e)) := by
  simp [naft, tk_bad]
def EX (f : Nat) : Prop := ∀ k ones a acc r, k ≠ 7 → Rl (Tp.ex f k ones a acc r) (fun g => nex g k ones a acc (r, fine))
def E7 (f : Nat) : Prop := ∀ ones acc r, Rl (Tp.ex f 7 ones 0 [] r >>= fun y => Tp.want mRp y.2 >>= fun r4 => .ok (acc ++ y.1, r4)) (fun g => (nex g 0 (ones + 1) 0 [] (r, fine)).bind fun y => nex g 7 ones 0 (acc ++ y.1) y.2)
theorem aft_rl {f : Nat} (h1 : EX f) (h7 : E7 f) (ones p : Nat) (m n : Bs) (r : List Tok) : Rl (aft f ones p m n r) (fun g => naft g ones p m n (r, fine)) := by
  unfold aft
  by_cases hb : tx r = mLb
  · rw [if_pos hb]
    have e : (fun g => naft g ones p m n (r, fine)) = fun g => (nex g 0 (ones + 1) 0 [] (stp r, fine)).bind fun y => some ([⟨3, p, 0, m, n, [], y.1, [], []⟩], mu mRb y.2) := by
      funext g
      unfold naft
      rw [if_pos (by rw [tk_fine]; exact decide_eq_true hb), tkS_fine hb]
      exact map_some _ _
    rw [e]
    refine Rl.bind (M := fun x s g => some (([⟨3, p, 0, m, n, [], x, [], []⟩] : List X), mu mRb s)) (mo_nex _ _ _ _ _) (fun x s => mo_some _) (h1 0 (ones + 1) 0 [] (stp r) (by omega)) (fun x r1 _ => Rl.want _ _ _) (fun x r e => ⟨0, _, by rw [mu_bad]⟩)
  · rw [if_neg hb]
    by_cases hp : tx r = mLp
    · rw [if_pos hp]
      have e : (fun g => naft g ones p m n (r, fine)) = fun g => (nex g 7 ones 1 [] (stp r, fine)).bind fun y => some ([⟨6, p, 0, m, n, [], [], [], y.1⟩], y.2) := by
        funext g
        unfold naft
        rw [if_neg (by rw [tk_fine, decide_eq_false hb]; simp), if_pos (by rw [tk_fine]; exact decide_eq_true hp), tkS_fine hp]
        exact map_some _ _
      rw [e]
      by_cases hr : tx (stp r) = mRp
      · rw [if_pos hr]
        refine Rl.up (F := fun g => some ([⟨6, p, 0, m, n, [], [], [], []⟩], (stp (stp r), fine))) (fun g => ?_) (Rl.ok _ _)
        show (nex (g + 1) 7 ones 1 [] (stp r, fine)).bind _ = _
        rw [nex]
        simp [hr]
      · rw [if_neg hr]
        have e2 : ∀ g, ((nex (g + 1) 7 ones 1 [] (stp r, fine)).bind fun y => some (([⟨6, p, 0, m, n, [], [], [], y.1⟩] : List X), y.2)) = ((nex g 0 (ones + 1) 0 [] (stp r, fine)).bind fun y => nex g 7 ones 0 ([] ++ y.1) y.2).bind fun y => some (([⟨6, p, 0, m, n, [], [], [], y.1⟩] : List X), y.2) := fun g => by
          rw [nex]
          simp [hr]
        refine Rl.up (F := fun g => ((nex g 0 (ones + 1) 0 [] (stp r, fine)).bind fun y => nex g 7 ones 0 ([] ++ y.1) y.2).bind fun y => some (([⟨6, p, 0, m, n, [], [], [], y.1⟩] : List X), y.2)) e2 ?_
        have e3 : (do let (l, r3) ← ex f 7 ones 0 [] (stp r); let r4 ← want mRp r3; Except.ok (([⟨6, p, 0, m, n, [], [], [], l⟩] : List X), r4) : Except Er (List X × List Tok)) = (Tp.ex f 7 ones 0 [] (stp r) >>= fun y => Tp.want mRp y.2 >>= fun r4 => .ok ([] ++ y.1, r4)) >>= fun y => .ok ([⟨6, p, 0, m, n, [], [], [], y.1⟩], y.2) := by
          cases Tp.ex f 7 ones 0 [] (stp r) with
          | error e => rfl
          | ok y =>
            simp only [bind, Except.bind]
            cases Tp.want mRp y.2 with
            | error e => rfl
            | ok z => rfl
        rw [e3]
        refine Rl.bind (M := fun x s g => some (([⟨6, p, 0, m, n, [], [], [], x⟩] : List X), s)) (Mo.bind (mo_nex _ _ _ _ _) fun x => mo_nex _ _ _ _ _) (fun x s => mo_some _) (h7 ones [] (stp r)) (fun x r1 _ => Rl.ok _ _) (fun x r e => ⟨0, _, rfl⟩)
    · rw [if_neg hp]
      have e : (fun g => naft g ones p m n (r, fine)) = fun g => some ([⟨2, p, 0, m, n, [], [], [], []⟩], (r, fine)) := by
        funext g
        unfold naft
        rw [if_neg (by rw [tk_fine, decide_eq_false hb]; simp), if_neg (by rw [tk_fine, decide_eq_false hp]; simp)]
      rw [e]
      exact Rl.ok _ _
theorem six_rl {f : Nat} (h1 : EX f) (h7 : E7 f) (ones a : Nat) (acc : List X) (r : List Tok) : Rl (ex (f + 1) 6 ones a acc r) (fun g => nex g 6 ones a acc (r, fine)) := by
  refine Rl.up (F := fun g => naft g ones (at' r) (if tk mDot (nm (r, fine)).2 then (nm (r, fine)).1 else []) (if tk mDot (nm (r, fine)).2 then nm (tkS mDot (nm (r, fine)).2) else nm (r, fine)).1 (if tk mDot (nm (r, fine)).2 then nm (tkS mDot (nm (r, fine)).2) else nm (r, fine)).2) (fun g => nex6 g ones a acc (r, fine)) ?_
  rw [ex6]
  rcases hn : Tp.name r with e | ⟨n1, r1⟩
  · rw [nm_err hn]
    simp only [tk_bad, if_false, Bool.false_eq_true]
    refine ⟨fun x r1 h => (by cases h), fun e' hne h => ?_⟩
    have : e = e' := by cases h; rfl
    subst this
    exact ⟨0, _, _, naft_bad _ _ _ _ _ _⟩
  · rw [nm_ok hn]
    simp only [bind, Except.bind, tk_fine]
    by_cases hd : tx r1 = mDot
    · rw [if_pos hd]
      simp only [decide_eq_true hd, if_true, tkS_fine hd]
      rcases hn2 : Tp.name (stp r1) with e | ⟨n2, r2⟩
      · rw [nm_err hn2]
        refine ⟨fun x r1 h => (by cases h), fun e' hne h => ?_⟩
        have : e = e' := by cases h; rfl
        subst this
        exact ⟨0, _, _, naft_bad _ _ _ _ _ _⟩
      · rw [nm_ok hn2]
        exact aft_rl h1 h7 _ _ _ _ _
    · rw [if_neg hd]
      simp only [decide_eq_false hd, if_false, Bool.false_eq_true]
      exact aft_rl h1 h7 _ _ _ _ _
end Nr
/- The document's own reader on plain lists reads what chapter 1's reader reads: EXPRs, all of them; names. -/
namespace Nr
open Tp
theorem ex7_eq (f ones : Nat) (acc : List X) (r : List Tok) : (Tp.ex (f + 1) 7 ones 0 [] r >>= fun y => Tp.want mRp y.2 >>= fun r4 => Except.ok (acc ++ y.1, r4)) =
    (Tp.ex f 0 (ones + 1) 0 [] r >>= fun z => if tx z.2 = mComma then (Tp.ex f 7 ones 0 [] (stp z.2) >>= fun y => Tp.want mRp y.2 >>= fun r4 => .ok ((acc ++ z.1) ++ y.1, r4)) else Tp.want mRp z.2 >>= fun r4 => .ok (acc ++ z.1, r4)) := by
  rw [Tp.ex]
  simp only [show ¬ (7 < 5) by omega, show ¬ (7 = 5) by omega, show ¬ (7 = 6) by omega, if_false, if_true]
  cases Tp.ex f 0 (ones + 1) 0 [] r with
  | error e => rfl
  | ok z =>
    simp only [bind, Except.bind]
    by_cases h : tx z.2 = mComma
    · rw [if_pos h, if_pos h]
      cases Tp.ex f 7 ones 0 [] (stp z.2) with
      | error e => rfl
      | ok y => simp only [List.append_assoc]
    · rw [if_neg h, if_neg h]
theorem ex_all (f : Nat) : EX f ∧ E7 f := by
  induction f with
  | zero =>
    refine ⟨fun k ones a acc r _ => ⟨fun x r1 h => (by cases h), fun e hne h => (by cases h; exact absurd rfl hne)⟩, fun ones acc r => ⟨fun x r1 h => (by cases h), fun e hne h => (by cases h; exact absurd rfl hne)⟩⟩
  | succ f ih =>
    obtain ⟨h1, h7⟩ := ih
    constructor
    · intro k ones a acc r hk7
      by_cases k0 : k < 5
      · refine Rl.up (F := fun g => (nex g (k + 1) ones 0 [] (r, fine)).bind fun y => nex g (10 + k) ones (at' r) y.1 y.2) (fun g => by rw [nex, if_pos k0]) ?_
        rw [ex, if_pos k0]
        exact Rl.bind (M := fun x s g => nex g (10 + k) ones (at' r) x s) (mo_nex _ _ _ _ _) (fun x s => mo_nex _ _ _ _ _) (h1 (k + 1) ones 0 [] r (by omega)) (fun x r1 _ => h1 (10 + k) ones (at' r) x r1 (by omega)) (fun x r e => ⟨1, _, nexL_bad _ _ _ _ _ _⟩)
      · by_cases k5 : k = 5
        · subst k5
          rw [ex, if_neg k0, if_pos rfl]
          have en : ∀ g, nex (g + 1) 5 ones a acc (r, fine) = if 10 < ones then some ([], fl 4 (r, fine))
              else if (hd r).kind = 2 then some ([⟨1, at' r, (nu top (r, fine)).1, [], [], [], [], [], []⟩], (nu top (r, fine)).2)
              else if tx r = mMinus then (nex g 5 (ones + 1) 0 [] (stp r, fine)).map fun y => ([⟨4, at' r, 0, [], [], mMinus, y.1, [], []⟩], y.2)
              else if tx r = wNot then (nex g 5 (ones + 1) 0 [] (stp r, fine)).map fun y => ([⟨4, at' r, 0, [], [], wNot, y.1, [], []⟩], y.2)
              else if tx r = mLp then (nex g 0 (ones + 1) 0 [] (stp r, fine)).map fun y => (y.1, mu mRp y.2)
              else nex g 6 ones 0 [] (r, fine) := fun g => by
            rw [nex]; simp
          refine Rl.up en ?_
          by_cases ho : 10 < ones
          · simp only [if_pos ho]
            have e : fl 4 (r, fine) = (r, flt (4, at' r)) := by simp [fl, flt]
            rw [e]
            exact Rl.error _ _ _
          · simp only [if_neg ho]
            by_cases hk : (hd r).kind = 2
            · rw [if_pos hk]
              simp only [if_pos hk]
              rcases hn : Tp.number top r with e | ⟨n, r1⟩
              · rw [nu_err hn]
                exact Rl.error _ e r
              · rw [nu_ok hn]
                exact Rl.ok _ r1
            · rw [if_neg hk]
              simp only [if_neg hk]
              by_cases hm : tx r = mMinus
              · simp only [if_pos hm]
                rw [if_pos (Or.inl hm)]
                have e : (fun g => (nex g 5 (ones + 1) 0 [] (stp r, fine)).map fun y => (([⟨4, at' r, 0, [], [], mMinus, y.1, [], []⟩] : List X), y.2)) = fun g => (nex g 5 (ones + 1) 0 [] (stp r, fine)).bind fun y => some (([⟨4, at' r, 0, [], [], mMinus, y.1, [], []⟩] : List X), y.2) := by funext g; exact map_some _ _
                rw [e, hm]
                exact Rl.bind (M := fun x s g => some (([⟨4, at' r, 0, [], [], mMinus, x, [], []⟩] : List X), s)) (mo_nex _ _ _ _ _) (fun x s => mo_some _) (h1 5 (ones + 1) 0 [] (stp r) (by omega)) (fun x r1 _ => Rl.ok _ _) (fun x r e => ⟨0, _, rfl⟩)
              · simp only [if_neg hm]
                by_cases hn : tx r = wNot
                · simp only [if_pos hn]
                  rw [if_pos (Or.inr hn)]
                  have e : (fun g => (nex g 5 (ones + 1) 0 [] (stp r, fine)).map fun y => (([⟨4, at' r, 0, [], [], wNot, y.1, [], []⟩] : List X), y.2)) = fun g => (nex g 5 (ones + 1) 0 [] (stp r, fine)).bind fun y => some (([⟨4, at' r, 0, [], [], wNot, y.1, [], []⟩] : List X), y.2) := by funext g; exact map_some _ _
                  rw [e, hn]
                  exact Rl.bind (M := fun x s g => some (([⟨4, at' r, 0, [], [], wNot, x, [], []⟩] : List X), s)) (mo_nex _ _ _ _ _) (fun x s => mo_some _) (h1 5 (ones + 1) 0 [] (stp r) (by omega)) (fun x r1 _ => Rl.ok _ _) (fun x r e => ⟨0, _, rfl⟩)
                · simp only [if_neg hn]
                  rw [if_neg (fun h => h.elim hm hn)]
                  by_cases hp : tx r = mLp
                  · simp only [if_pos hp]
                    have e : (fun g => (nex g 0 (ones + 1) 0 [] (stp r, fine)).map fun y => ((y.1 : List X), mu mRp y.2)) = fun g => (nex g 0 (ones + 1) 0 [] (stp r, fine)).bind fun y => some ((y.1 : List X), mu mRp y.2) := by funext g; exact map_some _ _
                    rw [e]
                    exact Rl.bind (M := fun x s g => some ((x : List X), mu mRp s)) (mo_nex _ _ _ _ _) (fun x s => mo_some _) (h1 0 (ones + 1) 0 [] (stp r) (by omega)) (fun x r1 _ => Rl.want _ _ _) (fun x r e => ⟨0, _, by rw [mu_bad]⟩)
                  · simp only [if_neg hp]
                    exact h1 6 ones 0 [] r (by omega)
        · by_cases k6 : k = 6
          · subst k6
            exact six_rl h1 h7 ones a acc r
          · have en : ∀ g, nex (g + 1) k ones a acc (r, fine) = if lvl (tx r) = k - 10 then (nex g (k - 10 + 1) ones 0 [] (stp r, fine)).bind fun y => nex g k ones a [⟨5, a, 0, [], [], tx r, acc, y.1, []⟩] y.2 else some (acc, (r, fine)) := fun g => by
              rw [nex, if_neg k0, if_neg k5, if_neg k6, if_neg hk7]
              simp
            refine Rl.up en ?_
            rw [ex, if_neg k0, if_neg k5, if_neg k6, if_neg hk7]
            by_cases hl : lvl (tx r) = k - 10
            · simp only [if_pos hl]
              refine Rl.bind (M := fun x s g => nex g k ones a [⟨5, a, 0, [], [], tx r, acc, x, []⟩] s) (mo_nex _ _ _ _ _) (fun x s => mo_nex _ _ _ _ _) (h1 _ ones 0 [] (stp r) ?_) (fun x r1 _ => h1 k ones a _ r1 hk7) (fun x r' e => ⟨1, [⟨5, a, 0, [], [], tx r, acc, x, []⟩], ?_⟩)
              · intro h
                have : lvl (tx r) ≤ 5 := by unfold lvl; split <;> first | omega | (split <;> first | omega | (split <;> first | omega | (split <;> first | omega | (split <;> omega))))
                omega
              · show nex (0 + 1) k ones a _ (r', flt e) = _
                rw [nex, if_neg k0, if_neg k5, if_neg k6, if_neg hk7, if_neg (fun h => flt_ne e h.1)]
            · simp only [if_neg hl]
              exact Rl.ok _ _
    · intro ones acc r
      rw [ex7_eq]
      refine Rl.up (F := fun g => (nex (g + 1) 0 (ones + 1) 0 [] (r, fine)).bind fun y => nex (g + 1) 7 ones 0 (acc ++ y.1) y.2) (fun g => rfl) ?_
      refine Rl.bind (N := fun g => nex (g + 1) 0 (ones + 1) 0 [] (r, fine)) (M := fun x s g => nex (g + 1) 7 ones 0 (acc ++ x) s) (fun a b h => mo_nex _ _ _ _ _ (a + 1) (b + 1) (by omega)) (fun x s a b h => mo_nex _ _ _ _ _ (a + 1) (b + 1) (by omega)) ?_ (fun x r1 _ => ?_) (fun x r' e => ⟨0, _, nex7_bad _ _ _ _ _⟩)
      · have := h1 0 (ones + 1) 0 [] r (by omega)
        refine ⟨fun x r1 h => ?_, fun e hne h => ?_⟩
        · obtain ⟨g, hg⟩ := this.1 x r1 h
          exact ⟨g, nex_step _ _ _ _ _ _ _ hg⟩
        · obtain ⟨g, y, r', hg⟩ := this.2 e hne h
          exact ⟨g, y, r', nex_step _ _ _ _ _ _ _ hg⟩
      · have en : ∀ g, nex (g + 1) 7 ones 0 (acc ++ x) (r1, fine) = if tx r1 = mRp then some (acc ++ x, (stp r1, fine)) else if tx r1 = mComma then ((nex g 0 (ones + 1) 0 [] (stp r1, fine)).bind fun y => nex g 7 ones 0 (acc ++ x ++ y.1) y.2) else some (acc ++ x, (r1, flt (3, at' r1))) := fun g => by
          rw [nex]
          by_cases hr : tx r1 = mRp
          · simp [hr]
          · by_cases hc : tx r1 = mComma
            · simp [hc, mu]
            · have hf : ¬ (((3 : Int), (at' r1 : Int)) = fine) := flt_ne (3, at' r1)
              simp [hr, hc, mu, hf, flt]
        have e1 : (fun g => nex (g + 1) 7 ones 0 (acc ++ x) (r1, fine)) = fun g => if tx r1 = mRp then some (acc ++ x, (stp r1, fine)) else if tx r1 = mComma then ((nex g 0 (ones + 1) 0 [] (stp r1, fine)).bind fun y => nex g 7 ones 0 (acc ++ x ++ y.1) y.2) else some (acc ++ x, (r1, flt (3, at' r1))) := funext en
        rw [e1]
        by_cases hr : tx r1 = mRp
        · have hc : ¬ tx r1 = mComma := by rw [hr]; decide
          simp only [if_pos hr, if_neg hc]
          unfold Tp.want
          rw [if_pos hr]
          exact Rl.ok _ _
        · by_cases hc : tx r1 = mComma
          · simp only [if_neg hr, if_pos hc]
            exact h7 ones (acc ++ x) (stp r1)
          · simp only [if_neg hr, if_neg hc]
            unfold Tp.want
            rw [if_neg hr]
            exact Rl.error _ _ _
end Nr
/- The document's own reader on plain lists reads what chapter 1's reader reads: STMTs. -/
namespace Nr
open Tp
def nval (f : Nat) (s : Sx) : Option (List X × Sx) := if s.2 = fine then nex f 0 0 0 [] s else some ([], s)
def nsx : Nat → Nat → Nat → Nat → List S → Sx → Option (List S × Sx)
  | 0, _, _, _, _, _ => none
  | f + 1, k, deep, a, acc, s =>
    let blk := fun s : Sx => if s.2 = fine then nsx f 0 (deep + 1) 0 [] s else some ([], s)
    if k = 0 then nsx f 1 deep 0 [] (if 10 < deep then fl 4 s else s)
    else if k = 1 then
      if s.2 = fine ∧ ¬ (tx s.1 = wEnd ∨ tx s.1 = wElsif ∨ tx s.1 = wElse) then (nsx f 2 deep 0 [] s).bind fun y => nsx f 1 deep 0 (acc ++ y.1) (mu mSemi y.2)
      else some (acc, s)
    else if k = 2 then
      if tx s.1 = wReturn then (nval f (stp s.1, fine)).bind fun y => some ([⟨4, at' s.1, [], [], y.1, [], []⟩], y.2)
      else if tx s.1 = wWrite then (nval f (stp s.1, fine)).bind fun y => some ([⟨5, at' s.1, [], [], y.1, [], []⟩], y.2)
      else if tx s.1 = wWhile then (nval f (stp s.1, fine)).bind fun y => (blk (mu wDo y.2)).bind fun z => some ([⟨3, at' s.1, [], [], y.1, z.1, []⟩], mu wEnd z.2)
      else if tx s.1 = wIf then (nsx f 3 deep (at' s.1) [] (stp s.1, fine)).bind fun y => some (y.1, mu wEnd y.2)
      else (nex f 6 0 0 [] s).bind fun y =>
        if codeOf y.1 = 6 then some ([⟨6, at' s.1, [], [], y.1, [], []⟩], y.2)
        else (nval f (mu mSet (if y.2.2 = fine ∧ modOf y.1 ≠ [] then fl 3 y.2 else y.2))).bind fun z => some ([⟨1, at' s.1, nameOf y.1, leftOf y.1, z.1, [], []⟩], z.2)
    else (nval f s).bind fun y => (blk (mu wThen y.2)).bind fun z =>
      if tk wElsif z.2 then (nsx f 3 (deep + 1) (at' z.2.1) [] (tkS wElsif z.2)).bind fun u => some ([⟨2, a, [], [], y.1, z.1, u.1⟩], u.2)
      else if tk wElse z.2 then (nsx f 0 (deep + 1) 0 [] (tkS wElse z.2)).bind fun u => some ([⟨2, a, [], [], y.1, z.1, u.1⟩], u.2)
      else some ([⟨2, a, [], [], y.1, z.1, []⟩], z.2)
theorem ol_nval {f g : Nat} (h : f ≤ g) (s : Sx) : Ol (nval f s) (nval g s) := Ol.ite (mo_nex _ _ _ _ _ f g h) (Ol.refl _)
theorem nsx_step (f : Nat) : ∀ k deep a acc s, Ol (nsx f k deep a acc s) (nsx (f + 1) k deep a acc s) := by
  induction f with
  | zero => intro k deep a acc s y h; cases h
  | succ f ih =>
    intro k deep a acc s
    have hb : ∀ s : Sx, Ol (if s.2 = fine then nsx f 0 (deep + 1) 0 [] s else some ([], s)) (if s.2 = fine then nsx (f + 1) 0 (deep + 1) 0 [] s else some ([], s)) := fun s => Ol.ite (ih _ _ _ _ _) (Ol.refl _)
    have hv := fun s => ol_nval (Nat.le_succ f) s
    rw [nsx, nsx]
    refine Ol.ite (ih _ _ _ _ _) (Ol.ite (Ol.ite (Ol.bind (ih _ _ _ _ _) fun _ => ih _ _ _ _ _) (Ol.refl _)) (Ol.ite ?_ ?_))
    · refine Ol.ite (Ol.bind (hv _) fun _ => Ol.refl _) (Ol.ite (Ol.bind (hv _) fun _ => Ol.refl _) (Ol.ite (Ol.bind (hv _) fun _ => Ol.bind (hb _) fun _ => Ol.refl _) (Ol.ite (Ol.bind (ih _ _ _ _ _) fun _ => Ol.refl _) ?_)))
      exact Ol.bind (nex_step _ _ _ _ _ _) fun _ => Ol.ite (Ol.refl _) (Ol.bind (hv _) fun _ => Ol.refl _)
    · exact Ol.bind (hv _) fun _ => Ol.bind (hb _) fun _ => Ol.ite (Ol.bind (ih _ _ _ _ _) fun _ => Ol.refl _) (Ol.ite (Ol.bind (ih _ _ _ _ _) fun _ => Ol.refl _) (Ol.refl _))
theorem mo_nsx (k deep a : Nat) (acc : List S) (s : Sx) : Mo (fun g => nsx g k deep a acc s) := by
  intro f g h
  induction h with
  | refl => exact Ol.refl _
  | step _ ih => exact fun y hy => nsx_step _ _ _ _ _ _ y (ih y hy)
theorem mo_nval (s : Sx) : Mo (fun g => nval g s) := fun _ _ h => ol_nval h s
def Bp {β : Type} (M : Sx → Nat → Option (β × Sx)) : Prop := ∀ r e, ∃ g y, M (r, flt e) g = some (y, (r, flt e))
theorem Rl.wantK {β : Type} {Q : List Tok → Except Er (β × List Tok)} {M : Sx → Nat → Option (β × Sx)} (m : Bs) (r : List Tok) (h1 : Rl (Q (stp r)) (M (stp r, fine))) (h3 : Bp M) : Rl (Tp.want m r >>= Q) (M (mu m (r, fine))) := by
  unfold Tp.want
  by_cases h : tx r = m
  · rw [if_pos h, show mu m (r, fine) = (stp r, fine) by simp [mu, h]]
    exact h1
  · rw [if_neg h, show mu m (r, fine) = (r, flt (3, at' r)) by simp [mu, h, flt]]
    refine ⟨fun x r1 h => (by cases h), fun e hne h => ?_⟩
    have : (3, at' r) = e := by cases h; rfl
    subst this
    obtain ⟨g, y, hg⟩ := h3 r (3, at' r)
    exact ⟨g, y, r, hg⟩
theorem nval_fine (g : Nat) (r : List Tok) : nval g (r, fine) = nex g 0 0 0 [] (r, fine) := by simp [nval]
theorem nval_bad (g : Nat) (r : List Tok) (e : Er) : nval g (r, flt e) = some ([], (r, flt e)) := by simp [nval, flt_ne]
theorem nval_rl (f : Nat) (r : List Tok) : Rl (ex f 0 0 0 [] r) (fun g => nval g (r, fine)) := by
  have e : (fun g => nval g (r, fine)) = fun g => nex g 0 0 0 [] (r, fine) := funext fun g => nval_fine g r
  rw [e]
  exact (ex_all f).1 0 0 0 [] r (by omega)
def blk (g deep : Nat) (s : Sx) : Option (List S × Sx) := if s.2 = fine then nsx g 0 (deep + 1) 0 [] s else some ([], s)
theorem mo_blk (deep : Nat) (s : Sx) : Mo (fun g => blk g deep s) := fun f g h => Ol.ite (mo_nsx _ _ _ _ _ f g h) (Ol.refl _)
theorem blk_bad (g deep : Nat) (r : List Tok) (e : Er) : blk g deep (r, flt e) = some ([], (r, flt e)) := by simp [blk, flt_ne]
theorem blk_fine (g deep : Nat) (r : List Tok) : blk g deep (r, fine) = nsx g 0 (deep + 1) 0 [] (r, fine) := by simp [blk]
end Nr
/- The document's own reader on plain lists reads what chapter 1's reader reads: STMTs, all of them. -/
namespace Nr
open Tp
theorem nsx1_bad (g deep a : Nat) (acc : List S) (r : List Tok) (e : Er) : nsx (g + 1) 1 deep a acc (r, flt e) = some (acc, (r, flt e)) := by
  rw [nsx, if_neg (by omega), if_pos rfl, if_neg (fun h => flt_ne e h.1)]
theorem Rl.congr {α : Type} {P : Except Er (α × List Tok)} {N F : Nat → Option (α × Sx)} (h : ∀ g, N g = F g) (k : Rl P F) : Rl P N := by rw [show N = F from funext h]; exact k
def S0 (f : Nat) : Prop := ∀ b a acc r, Rl (sx f 0 b r) (fun g => nsx g 0 b a acc (r, fine))
def S1 (f : Nat) : Prop := ∀ b acc r, Rl (sx f 1 b r >>= fun y => Except.ok (acc ++ y.1, y.2)) (fun g => nsx g 1 b 0 acc (r, fine))
def S2 (f : Nat) : Prop := ∀ b r, Rl (sx f 2 b r) (fun g => (nsx g 2 b 0 [] (r, fine)).bind fun y => some (y.1, mu mSemi y.2))
def S3 (f : Nat) : Prop := ∀ b r, Rl (sx f 3 b r) (fun g => nsx g 3 b (at' r) [] (stp r, fine))
theorem s0_up {f : Nat} (h : S1 f) : S0 (f + 1) := by
  intro b a acc r
  refine Rl.up (F := fun g => nsx g 1 b 0 [] (if 10 < b then fl 4 (r, fine) else (r, fine))) (fun g => by rw [nsx, if_pos rfl]) ?_
  rw [sx, if_pos rfl]
  by_cases hb : 10 < b
  · simp only [if_pos hb]
    rw [show fl 4 (r, fine) = (r, flt (4, at' r)) by simp [fl, flt]]
    exact Rl.up (F := fun _ => some ([], (r, flt (4, at' r)))) (fun g => nsx1_bad g b 0 [] r _) (Rl.error _ _ _)
  · simp only [if_neg hb]
    have e : sx f 1 b r = (sx f 1 b r >>= fun y => Except.ok ([] ++ y.1, y.2)) := by cases sx f 1 b r <;> rfl
    rw [e]
    exact h b [] r
theorem s1_up {f : Nat} (h1 : S1 f) (h2 : S2 f) : S1 (f + 1) := by
  intro b acc r
  rw [sx, if_neg (by omega), if_pos rfl]
  by_cases he : tx r = wEnd ∨ tx r = wElsif ∨ tx r = wElse
  · rw [if_pos he]
    refine Rl.up (F := fun _ => some (acc ++ [], (r, fine))) (fun g => ?_) (Rl.ok _ _)
    rw [nsx, if_neg (by omega), if_pos rfl, if_neg (fun h => h.2 he), List.append_nil]
  · rw [if_neg he]
    refine Rl.up (F := fun g => ((nsx g 2 b 0 [] (r, fine)).bind fun y => some (y.1, mu mSemi y.2)).bind fun y => nsx g 1 b 0 (acc ++ y.1) y.2) (fun g => ?_) ?_
    · rw [nsx, if_neg (by omega), if_pos rfl, if_pos ⟨rfl, he⟩]
      cases nsx g 2 b 0 [] (r, fine) <;> rfl
    · have e : ((do let (s, r1) ← sx f 2 b r; let (l, r2) ← sx f 1 b r1; Except.ok (s ++ l, r2) : Except Er (List S × List Tok)) >>= fun y => Except.ok (acc ++ y.1, y.2)) = (sx f 2 b r >>= fun z => sx f 1 b z.2 >>= fun y => Except.ok ((acc ++ z.1) ++ y.1, y.2)) := by
        cases sx f 2 b r with
        | error e => rfl
        | ok z =>
          simp only [bind, Except.bind]
          cases sx f 1 b z.2 with
          | error e => rfl
          | ok y => simp only [List.append_assoc]
      rw [e]
      exact Rl.bind (M := fun x s g => nsx g 1 b 0 (acc ++ x) s) (Mo.bind (mo_nsx _ _ _ _ _) fun _ => mo_some _) (fun x s => mo_nsx _ _ _ _ _) (h2 b r) (fun x r1 _ => h1 b (acc ++ x) r1) (fun x r e => ⟨1, _, nsx1_bad 0 _ _ _ _ _⟩)
theorem blk_rl {f : Nat} (h0 : S0 f) (b : Nat) (r : List Tok) : Rl (sx f 0 (b + 1) r) (fun g => blk g b (r, fine)) := Rl.congr (fun g => blk_fine g b r) (h0 (b + 1) 0 [] r)
def rs3 (g b p : Nat) (x : List X) (z : List S) (s : Sx) : Option (List S × Sx) :=
  if tk wElsif s then (nsx g 3 (b + 1) (at' s.1) [] (tkS wElsif s)).bind fun u => some ([⟨2, p, [], [], x, z, u.1⟩], u.2)
  else if tk wElse s then (nsx g 0 (b + 1) 0 [] (tkS wElse s)).bind fun u => some ([⟨2, p, [], [], x, z, u.1⟩], u.2)
  else some ([⟨2, p, [], [], x, z, []⟩], s)
theorem mo_rs3 (b p : Nat) (x : List X) (z : List S) (s : Sx) : Mo (fun g => rs3 g b p x z s) := fun f g h => Ol.ite (Ol.bind (mo_nsx _ _ _ _ _ f g h) fun _ => Ol.refl _) (Ol.ite (Ol.bind (mo_nsx _ _ _ _ _ f g h) fun _ => Ol.refl _) (Ol.refl _))
theorem rs3_bad (g b p : Nat) (x : List X) (z : List S) (r : List Tok) (e : Er) : rs3 g b p x z (r, flt e) = some ([⟨2, p, [], [], x, z, []⟩], (r, flt e)) := by simp [rs3, tk_bad]
theorem s3_up {f : Nat} (h0 : S0 f) (h3 : S3 f) : S3 (f + 1) := by
  intro b r
  rw [sx, if_neg (by omega), if_neg (by omega), if_neg (by omega)]
  refine Rl.up (F := fun g => (nval g (stp r, fine)).bind fun y => (blk g b (mu wThen y.2)).bind fun z => rs3 g b (at' r) y.1 z.1 z.2) (fun g => by rw [nsx, if_neg (by omega), if_neg (by omega), if_neg (by omega)]; rfl) ?_
  refine Rl.bind (M := fun x s g => (blk g b (mu wThen s)).bind fun z => rs3 g b (at' r) x z.1 z.2) (mo_nval _) (fun x s => Mo.bind (mo_blk _ _) fun z => mo_rs3 _ _ _ _ _) (nval_rl f (stp r)) (fun x r1 _ => ?_) (fun x r' e => ⟨0, _, by rw [mu_bad, blk_bad]; exact rs3_bad _ _ _ _ _ _ _⟩)
  refine Rl.wantK (M := fun s g => (blk g b s).bind fun z => rs3 g b (at' r) x z.1 z.2) wThen r1 ?_ (fun r' e => ⟨0, _, by simp only [blk_bad]; exact rs3_bad _ _ _ _ _ _ _⟩)
  refine Rl.bind (M := fun z s g => rs3 g b (at' r) x z s) (mo_blk _ _) (fun z s => mo_rs3 _ _ _ _ _) (blk_rl h0 b (stp r1)) (fun z r3 _ => ?_) (fun z r' e => ⟨0, _, rs3_bad _ _ _ _ _ _ _⟩)
  by_cases hi : tx r3 = wElsif
  · simp only [if_pos hi]
    refine Rl.congr (F := fun g => (nsx g 3 (b + 1) (at' r3) [] (stp r3, fine)).bind fun u => some (([⟨2, at' r, [], [], x, z, u.1⟩] : List S), u.2)) (fun g => by unfold rs3; rw [tk_fine, decide_eq_true hi, if_pos rfl, tkS_fine hi]) ?_
    exact Rl.bind (M := fun u s g => some (([⟨2, at' r, [], [], x, z, u⟩] : List S), s)) (mo_nsx _ _ _ _ _) (fun _ _ => mo_some _) (h3 (b + 1) r3) (fun u r4 _ => Rl.ok _ _) (fun _ _ _ => ⟨0, _, rfl⟩)
  · by_cases hl : tx r3 = wElse
    · simp only [if_neg hi, if_pos hl]
      refine Rl.congr (F := fun g => (nsx g 0 (b + 1) 0 [] (stp r3, fine)).bind fun u => some (([⟨2, at' r, [], [], x, z, u.1⟩] : List S), u.2)) (fun g => by unfold rs3; simp only [tk_fine, decide_eq_false hi, decide_eq_true hl, tkS_fine hl]; rfl) ?_
      exact Rl.bind (M := fun u s g => some (([⟨2, at' r, [], [], x, z, u⟩] : List S), s)) (mo_nsx _ _ _ _ _) (fun _ _ => mo_some _) (h0 (b + 1) 0 [] (stp r3)) (fun u r4 _ => Rl.ok _ _) (fun _ _ _ => ⟨0, _, rfl⟩)
    · simp only [if_neg hi, if_neg hl]
      exact Rl.congr (fun g => by unfold rs3; simp only [tk_fine, decide_eq_false hi, decide_eq_false hl]; rfl) (Rl.ok _ _)
theorem ob {α β γ : Type} (N : Option α) (F : α → Option β) (G : β → Option γ) : (N.bind F).bind G = N.bind fun y => (F y).bind G := by cases N <;> rfl
theorem s2_up {f : Nat} (h0 : S0 f) (h3 : S3 f) : S2 (f + 1) := by
  intro b r
  rw [sx, if_neg (by omega), if_neg (by omega), if_pos rfl]
  have en : ∀ g, nsx (g + 1) 2 b 0 [] (r, fine) = (if tx r = wReturn then (nval g (stp r, fine)).bind fun y => some ([⟨4, at' r, [], [], y.1, [], []⟩], y.2)
      else if tx r = wWrite then (nval g (stp r, fine)).bind fun y => some ([⟨5, at' r, [], [], y.1, [], []⟩], y.2)
      else if tx r = wWhile then (nval g (stp r, fine)).bind fun y => (blk g b (mu wDo y.2)).bind fun z => some ([⟨3, at' r, [], [], y.1, z.1, []⟩], mu wEnd z.2)
      else if tx r = wIf then (nsx g 3 b (at' r) [] (stp r, fine)).bind fun y => some (y.1, mu wEnd y.2)
      else (nex g 6 0 0 [] (r, fine)).bind fun y =>
        if codeOf y.1 = 6 then some ([⟨6, at' r, [], [], y.1, [], []⟩], y.2)
        else (nval g (mu mSet (if y.2.2 = fine ∧ modOf y.1 ≠ [] then fl 3 y.2 else y.2))).bind fun z => some ([⟨1, at' r, nameOf y.1, leftOf y.1, z.1, [], []⟩], z.2)) := fun g => by
    rw [nsx, if_neg (by omega), if_neg (by omega), if_pos rfl]; rfl
  by_cases hret : tx r = wReturn
  · rw [if_pos (Or.inl hret), if_pos hret]
    refine Rl.up (F := fun g => (nval g (stp r, fine)).bind fun y => some (([⟨4, at' r, [], [], y.1, [], []⟩] : List S), mu mSemi y.2)) (fun g => by rw [en, if_pos hret, ob]; rfl) ?_
    exact Rl.bind (M := fun x s g => some (([⟨4, at' r, [], [], x, [], []⟩] : List S), mu mSemi s)) (mo_nval _) (fun _ _ => mo_some _) (nval_rl f (stp r)) (fun x r1 _ => Rl.want _ _ _) (fun x r' e => ⟨0, _, by simp only [mu_bad]; rfl⟩)
  · by_cases hwr : tx r = wWrite
    · rw [if_pos (Or.inr hwr), if_neg hret]
      refine Rl.up (F := fun g => (nval g (stp r, fine)).bind fun y => some (([⟨5, at' r, [], [], y.1, [], []⟩] : List S), mu mSemi y.2)) (fun g => by rw [en, if_neg hret, if_pos hwr, ob]; rfl) ?_
      exact Rl.bind (M := fun x s g => some (([⟨5, at' r, [], [], x, [], []⟩] : List S), mu mSemi s)) (mo_nval _) (fun _ _ => mo_some _) (nval_rl f (stp r)) (fun x r1 _ => Rl.want _ _ _) (fun x r' e => ⟨0, _, by simp only [mu_bad]; rfl⟩)
    · rw [if_neg (fun h => h.elim hret hwr)]
      by_cases hwh : tx r = wWhile
      · rw [if_pos hwh]
        refine Rl.up (F := fun g => (nval g (stp r, fine)).bind fun y => (blk g b (mu wDo y.2)).bind fun z => some (([⟨3, at' r, [], [], y.1, z.1, []⟩] : List S), mu mSemi (mu wEnd z.2))) (fun g => by rw [en, if_neg hret, if_neg hwr, if_pos hwh, ob]; simp only [ob, Option.bind_some]) ?_
        refine Rl.bind (M := fun x s g => (blk g b (mu wDo s)).bind fun z => some (([⟨3, at' r, [], [], x, z.1, []⟩] : List S), mu mSemi (mu wEnd z.2))) (mo_nval _) (fun _ _ => Mo.bind (mo_blk _ _) fun _ => mo_some _) (nval_rl f (stp r)) (fun x r1 _ => ?_) (fun x r' e => ⟨0, [⟨3, at' r, [], [], x, [], []⟩], by simp [mu_bad, blk_bad]⟩)
        refine Rl.wantK (M := fun s g => (blk g b s).bind fun z => some (([⟨3, at' r, [], [], x, z.1, []⟩] : List S), mu mSemi (mu wEnd z.2))) wDo r1 ?_ (fun r' e => ⟨0, [⟨3, at' r, [], [], x, [], []⟩], by simp [mu_bad, blk_bad]⟩)
        refine Rl.bind (M := fun z s g => some (([⟨3, at' r, [], [], x, z, []⟩] : List S), mu mSemi (mu wEnd s))) (mo_blk _ _) (fun _ _ => mo_some _) (blk_rl h0 b (stp r1)) (fun z r3 _ => ?_) (fun z r' e => ⟨0, [⟨3, at' r, [], [], x, z, []⟩], by simp [mu_bad]⟩)
        exact Rl.wantK (M := fun s g => some (([⟨3, at' r, [], [], x, z, []⟩] : List S), mu mSemi s)) wEnd r3 (Rl.want _ _ _) (fun r' e => ⟨0, [⟨3, at' r, [], [], x, z, []⟩], by simp only [mu_bad]⟩)
      · rw [if_neg hwh]
        by_cases hif : tx r = wIf
        · rw [if_pos hif]
          refine Rl.up (F := fun g => (nsx g 3 b (at' r) [] (stp r, fine)).bind fun y => some ((y.1 : List S), mu mSemi (mu wEnd y.2))) (fun g => by rw [en, if_neg hret, if_neg hwr, if_neg hwh, if_pos hif, ob]; rfl) ?_
          refine Rl.bind (M := fun x s g => some ((x : List S), mu mSemi (mu wEnd s))) (mo_nsx _ _ _ _ _) (fun _ _ => mo_some _) (h3 b r) (fun x r1 _ => ?_) (fun x r' e => ⟨0, x, by simp [mu_bad]⟩)
          exact Rl.wantK (M := fun s g => some ((x : List S), mu mSemi s)) wEnd r1 (Rl.want _ _ _) (fun r' e => ⟨0, x, by simp only [mu_bad]⟩)
        · rw [if_neg hif]
          refine Rl.up (F := fun g => (nex g 6 0 0 [] (r, fine)).bind fun y =>
            if codeOf y.1 = 6 then some (([⟨6, at' r, [], [], y.1, [], []⟩] : List S), mu mSemi y.2)
            else (nval g (mu mSet (if y.2.2 = fine ∧ modOf y.1 ≠ [] then fl 3 y.2 else y.2))).bind fun z => some ([⟨1, at' r, nameOf y.1, leftOf y.1, z.1, [], []⟩], mu mSemi z.2)) (fun g => ?_) ?_
          · rw [en, if_neg hret, if_neg hwr, if_neg hwh, if_neg hif, ob]
            congr 1
            funext y
            by_cases hc : codeOf y.1 = 6
            · simp only [if_pos hc, Option.bind_some]
            · simp only [if_neg hc, ob, Option.bind_some]
          · refine Rl.bind (M := fun x s g => if codeOf x = 6 then some (([⟨6, at' r, [], [], x, [], []⟩] : List S), mu mSemi s)
                else (nval g (mu mSet (if s.2 = fine ∧ modOf x ≠ [] then fl 3 s else s))).bind fun z => some ([⟨1, at' r, nameOf x, leftOf x, z.1, [], []⟩], mu mSemi z.2)) (mo_nex _ _ _ _ _) (fun x s f g h => Ol.ite (Ol.refl _) (Ol.bind (ol_nval h _) fun _ => Ol.refl _)) ((ex_all f).1 6 0 0 [] r (by omega)) (fun x r1 _ => ?_) (fun x r' e => ?_)
            · by_cases hc : codeOf x = 6
              · simp only [if_pos hc]
                exact Rl.want _ _ _
              · simp only [if_neg hc]
                by_cases hm : modOf x = []
                · rw [if_pos hm]
                  refine Rl.congr (F := fun g => (nval g (mu mSet (r1, fine))).bind fun z => some (([⟨1, at' r, nameOf x, leftOf x, z.1, [], []⟩] : List S), mu mSemi z.2)) (fun g => by rw [if_neg (fun h => h.2 hm)]) ?_
                  refine Rl.wantK (M := fun s g => (nval g s).bind fun z => some (([⟨1, at' r, nameOf x, leftOf x, z.1, [], []⟩] : List S), mu mSemi z.2)) mSet r1 ?_ (fun r' e => ⟨0, [⟨1, at' r, nameOf x, leftOf x, [], [], []⟩], by simp [mu_bad, nval_bad]⟩)
                  exact Rl.bind (M := fun z s g => some (([⟨1, at' r, nameOf x, leftOf x, z, [], []⟩] : List S), mu mSemi s)) (mo_nval _) (fun _ _ => mo_some _) (nval_rl f (stp r1)) (fun z r2 _ => Rl.want _ _ _) (fun z r' e => ⟨0, _, by simp only [mu_bad]; rfl⟩)
                · rw [if_neg hm]
                  refine Rl.congr (F := fun g => some (([⟨1, at' r, nameOf x, leftOf x, [], [], []⟩] : List S), (r1, flt (3, at' r1)))) (fun g => ?_) (Rl.error _ _ _)
                  rw [if_pos ⟨trivial, hm⟩, show fl 3 (r1, fine) = (r1, flt (3, at' r1)) by simp [fl, flt], mu_bad, nval_bad]
                  simp [mu_bad]
            · by_cases hc : codeOf x = 6
              · exact ⟨0, _, by rw [if_pos hc, mu_bad]⟩
              · refine ⟨0, [⟨1, at' r, nameOf x, leftOf x, [], [], []⟩], ?_⟩
                rw [if_neg hc, if_neg (fun h => flt_ne e h.1), mu_bad, nval_bad]
                simp [mu_bad]
theorem sx_all (f : Nat) : S0 f ∧ S1 f ∧ S2 f ∧ S3 f := by
  induction f with
  | zero =>
    refine ⟨fun b a acc r => ⟨fun x r1 h => (by cases h), fun e hne h => (by cases h; exact absurd rfl hne)⟩, fun b acc r => ⟨fun x r1 h => (by cases h), fun e hne h => (by cases h; exact absurd rfl hne)⟩, fun b r => ⟨fun x r1 h => (by cases h), fun e hne h => (by cases h; exact absurd rfl hne)⟩, fun b r => ⟨fun x r1 h => (by cases h), fun e hne h => (by cases h; exact absurd rfl hne)⟩⟩
  | succ f ih =>
    obtain ⟨h0, h1, h2, h3⟩ := ih
    exact ⟨s0_up h1, s1_up h1 h2, s2_up h0 h3, s3_up h0 h3⟩
end Nr
/- The document's own reader on plain lists: names, variables, procedures, modules. -/
namespace Nr
open Tp
theorem nms_step (f : Nat) : ∀ most l s, Ol (nms f most l s) (nms (f + 1) most l s) := by
  induction f with
  | zero => intro most l s y h; cases h
  | succ f ih =>
    intro most l s
    rw [nms, nms]
    exact Ol.ite (Ol.refl _) (Ol.ite (ih _ _ _) (Ol.refl _))
theorem mo_nms (most : Nat) (l : List Bs) (s : Sx) : Mo (fun g => nms g most l s) := by
  intro f g h
  induction h with
  | refl => exact Ol.refl _
  | step _ ih => exact fun y hy => nms_step _ _ _ _ y (ih y hy)
theorem names_rl : ∀ (f : Nat) (had most k : Nat) (l : List Bs) (r : List Tok), had = l.length + k → 1 ≤ f → most < had + f →
    Rl (Tp.names f had most r >>= fun y => Except.ok (l ++ y.1, y.2)) (fun g => nms g (most - k) l (r, fine)) := by
  intro f
  induction f with
  | zero => intro had most k l r _ h1 h2; omega
  | succ f ih =>
    intro had most k l r hl h1 h2
    have en : ∀ g, nms (g + 1) (most - k) l (r, fine) = if most - k ≤ l.length then some (l, fl 4 (r, fine)) else if tk mComma (nm (r, fine)).2 then nms g (most - k) (l ++ [(nm (r, fine)).1]) (tkS mComma (nm (r, fine)).2) else some (l ++ [(nm (r, fine)).1], (nm (r, fine)).2) := fun g => by rw [nms]
    refine Rl.up en ?_
    rw [Tp.names]
    by_cases hm : most ≤ had
    · rw [if_pos hm]
      simp only [if_pos (show most - k ≤ l.length by omega)]
      rw [show fl 4 (r, fine) = (r, flt (4, at' r)) by simp [fl, flt]]
      exact Rl.error _ _ _
    · rw [if_neg hm]
      simp only [if_neg (show ¬ most - k ≤ l.length by omega)]
      rcases hn : Tp.name r with e | ⟨n, r1⟩
      · rw [nm_err hn]
        simp only [tk_bad, Bool.false_eq_true, if_false]
        exact Rl.error _ e r
      · rw [nm_ok hn]
        simp only [tk_fine]
        by_cases hc : tx r1 = mComma
        · rw [decide_eq_true hc]
          simp only [if_true, tkS_fine hc, bind, Except.bind, hc]
          have := ih (had + 1) most k (l ++ [n]) (stp r1) (by simp; omega) (by omega) (by omega)
          cases hx : Tp.names f (had + 1) most (stp r1) with
          | error e => rw [hx] at this; exact this
          | ok x =>
            rw [hx] at this
            have e2 : l ++ n :: x.1 = l ++ [n] ++ x.1 := by simp
            simp only [e2]
            exact this
        · rw [decide_eq_false hc]
          simp only [Bool.false_eq_true, if_false, bind, Except.bind, hc]
          exact Rl.ok _ _
def ngl (s : Sx) : G × Sx :=
  let n := nm s
  let s3 := mu mColon (tkS mStar n.2)
  if tk wArray s3 then
    let k := nu 30 (tkS wArray s3)
    (⟨n.1, at' s.1, k.1, tk mStar n.2⟩, mu mSemi (if k.2.2 = fine ∧ k.1 = 0 then fl 2 k.2 else k.2))
  else (⟨n.1, at' s.1, 0, tk mStar n.2⟩, mu mSemi (mu wInt s3))
theorem star_eq (r : List Tok) : tkS mStar (r, fine) = ((if tx r = mStar then stp r else r), fine) := by simp [tkS]
theorem tkS_bad (m : Bs) (r : List Tok) (e : Er) : tkS m (r, flt e) = (r, flt e) := by simp [tkS, flt_ne]
theorem tk_star (r : List Tok) : tk mStar (r, fine) = (tx r == mStar) := by rw [tk_fine, Bool.eq_iff_iff, decide_eq_true_iff, beq_iff_eq]
theorem ngl_rl (r : List Tok) : Rl (Tp.global r) (fun _ => some (ngl (r, fine))) := by
  unfold Tp.global ngl
  rcases hn : Tp.name r with e | ⟨n, r1⟩
  · rw [nm_err hn]
    simp only [tkS_bad, mu_bad, tk_bad, Bool.false_eq_true, if_false]
    exact Rl.error _ e r
  · rw [nm_ok hn]
    simp only [bind, Except.bind, star_eq, tk_star]
    generalize (if tx r1 = mStar then stp r1 else r1) = r2
    refine Rl.wantK (Q := fun r3 => if tx r3 = wInt then (Tp.want mSemi (stp r3) >>= fun r4 => Except.ok (⟨n, at' r, 0, tx r1 == mStar⟩, r4)) else (Tp.want wArray r3 >>= fun r4 => Tp.number 30 r4 >>= fun y => if y.1 = 0 then Except.error (2, at' y.2) else (Tp.want mSemi y.2 >>= fun r6 => Except.ok (⟨n, at' r, y.1, tx r1 == mStar⟩, r6))))
      (M := fun s3 _ => some (if tk wArray s3 then (⟨n, at' r, (nu 30 (tkS wArray s3)).1, tx r1 == mStar⟩, mu mSemi (if (nu 30 (tkS wArray s3)).2.2 = fine ∧ (nu 30 (tkS wArray s3)).1 = 0 then fl 2 (nu 30 (tkS wArray s3)).2 else (nu 30 (tkS wArray s3)).2)) else ((⟨n, at' r, 0, tx r1 == mStar⟩ : G), mu mSemi (mu wInt s3)))) mColon r2 ?_ (fun r' e => ⟨0, ⟨n, at' r, 0, tx r1 == mStar⟩, by simp [tk_bad, mu_bad]⟩)
    generalize stp r2 = r3
    by_cases hi : tx r3 = wInt
    · have ha : ¬ tx r3 = wArray := by rw [hi]; decide
      rw [if_pos hi]
      simp only [tk_fine, decide_eq_false ha, Bool.false_eq_true, if_false]
      rw [show mu wInt (r3, fine) = (stp r3, fine) by simp [mu, hi]]
      exact Rl.want _ _ _
    · rw [if_neg hi]
      by_cases ha : tx r3 = wArray
      · simp only [tk_fine, decide_eq_true ha, if_true, tkS_fine ha]
        unfold Tp.want
        simp only [if_pos ha, bind, Except.bind]
        rcases hk : Tp.number 30 (stp r3) with e | ⟨k, r5⟩
        · rw [nu_err hk, if_neg (fun h => flt_ne e h.1), mu_bad]
          exact Rl.error _ e _
        · rw [nu_ok hk]
          by_cases h0 : k = 0
          · subst h0
            simp only [if_true, and_self]
            rw [show fl 2 (r5, fine) = (r5, flt (2, at' r5)) by simp [fl, flt], mu_bad]
            exact Rl.error _ _ _
          · simp only [h0, and_false, if_false]
            exact Rl.want mSemi r5 _
      · simp only [tk_fine, decide_eq_false ha, Bool.false_eq_true, if_false]
        rw [show mu wInt (r3, fine) = (r3, flt (3, at' r3)) by simp [mu, hi, flt], mu_bad]
        unfold Tp.want
        simp only [if_neg ha]
        exact Rl.error _ _ _
end Nr
