import Derived.Test.YtfcdphgggdioeaaGreatDoorKGa
import Derived.Test.YtfcdphgggdioeaaGreatDoorKPb
/- The document's own reader on plain lists: variables, procedures, modules. -/
namespace Nr
open Tp
def ngs : Nat → List G → Sx → Option (List G × Sx)
  | 0, _, _ => none
  | f + 1, l, s =>
    if tk wVar s then
      if 10 ≤ l.length then some (l, fl 4 (tkS wVar s))
      else ngs f (l ++ [(ngl (tkS wVar s)).1]) (ngl (tkS wVar s)).2
    else some (l, s)
theorem ngs_step (f : Nat) : ∀ l s, Ol (ngs f l s) (ngs (f + 1) l s) := by
  induction f with
  | zero => intro l s y h; cases h
  | succ f ih =>
    intro l s
    rw [ngs, ngs]
    exact Ol.ite (Ol.ite (Ol.refl _) (ih _ _)) (Ol.refl _)
theorem mo_ngs (l : List G) (s : Sx) : Mo (fun g => ngs g l s) := by
  intro f g h
  induction h with
  | refl => exact Ol.refl _
  | step _ ih => exact fun y hy => ngs_step _ _ _ y (ih y hy)
theorem ngs_bad (g : Nat) (l : List G) (r : List Tok) (e : Er) : ngs (g + 1) l (r, flt e) = some (l, (r, flt e)) := by rw [ngs]; simp [tk_bad]
theorem globals_rl : ∀ (f had : Nat) (l : List G) (r : List Tok), had = l.length → had ≤ 10 → 10 < had + f → Rl (Tp.globals f had r >>= fun y => Except.ok (l ++ y.1, y.2)) (fun g => ngs g l (r, fine)) := by
  intro f
  induction f with
  | zero => intro had l r _ h1 h2; omega
  | succ f ih =>
    intro had l r hl h1 h2
    refine Rl.up (F := fun g => if tk wVar (r, fine) then if 10 ≤ l.length then some (l, fl 4 (tkS wVar (r, fine))) else ngs g (l ++ [(ngl (tkS wVar (r, fine))).1]) (ngl (tkS wVar (r, fine))).2 else some (l, (r, fine))) (fun g => by rw [ngs]) ?_
    rw [Tp.globals]
    by_cases hv : tx r = wVar
    · rw [if_pos hv]
      simp only [tk_fine]
      rw [decide_eq_true hv, tkS_fine hv]
      simp only [if_true]
      by_cases h10 : had = 10
      · rw [if_pos h10]
        simp only [if_pos (show 10 ≤ l.length by omega)]
        rw [show fl 4 (stp r, fine) = (stp r, flt (4, at' (stp r))) by simp [fl, flt]]
        exact Rl.error _ _ _
      · rw [if_neg h10]
        simp only [if_neg (show ¬ 10 ≤ l.length by omega)]
        have h3 := ngl_rl (stp r)
        rcases hg : Tp.global (stp r) with e | ⟨x, r1⟩
        · by_cases hne : e = (99, 0)
          · subst hne
            exact ⟨fun x r1 h => (by cases h), fun e hne h => (by cases h; exact absurd rfl hne)⟩
          · obtain ⟨_, y, r', hy⟩ := h3.2 e hne hg
            have hy : ngl (stp r, fine) = (y, (r', flt e)) := Option.some.inj hy
            rw [hy]
            exact Rl.up (fun g => ngs_bad g _ _ _) (Rl.error _ e r')
        · obtain ⟨_, hy⟩ := h3.1 x r1 hg
          have hy : ngl (stp r, fine) = (x, (r1, fine)) := Option.some.inj hy
          rw [hy]
          have := ih (had + 1) (l ++ [x]) r1 (by simp; omega) (by omega) (by omega)
          simp only [bind, Except.bind] at this ⊢
          cases hx : Tp.globals f (had + 1) r1 with
          | error e => rw [hx] at this; exact this
          | ok z =>
            rw [hx] at this
            have e2 : l ++ x :: z.1 = l ++ [x] ++ z.1 := by simp
            simp only [e2]
            exact this
    · rw [if_neg hv]
      simp only [tk_fine]
      rw [decide_eq_false hv]
      simp only [Bool.false_eq_true, if_false, bind, Except.bind, List.append_nil]
      exact Rl.ok _ _
def nbody (g : Nat) (s : Sx) : Option (List S × Sx) := if s.2 = fine then nsx g 0 0 0 [] s else some ([], s)
theorem mo_nbody (s : Sx) : Mo (fun g => nbody g s) := fun f g h => Ol.ite (mo_nsx _ _ _ _ _ f g h) (Ol.refl _)
theorem nbody_bad (g : Nat) (r : List Tok) (e : Er) : nbody g (r, flt e) = some ([], (r, flt e)) := by simp [nbody, flt_ne]
theorem nbody_rl (f : Nat) (r : List Tok) : Rl (sx f 0 0 r) (fun g => nbody g (r, fine)) := Rl.congr (fun g => by simp [nbody]) ((sx_all f).1 0 0 [] r)
/- the parameters, from ( on; the locals, from ; on -/
def npar (g : Nat) (s : Sx) : Option (List Bs × Sx) := if s.2 = fine ∧ tx s.1 ≠ mRp then (nms g 10 [] s).bind fun y => some (y.1, mu mRp y.2) else some ([], tkS mRp s)
def nloc (g k : Nat) (s : Sx) : Option (List Bs × Sx) := if tk wVar s then (nms g (10 - k) [] (tkS wVar s)).bind fun y => some (y.1, mu mSemi y.2) else some ([], s)
theorem mo_npar (s : Sx) : Mo (fun g => npar g s) := fun f g h => Ol.ite (Ol.bind (mo_nms _ _ _ f g h) fun _ => Ol.refl _) (Ol.refl _)
theorem mo_nloc (k : Nat) (s : Sx) : Mo (fun g => nloc g k s) := fun f g h => Ol.ite (Ol.bind (mo_nms _ _ _ f g h) fun _ => Ol.refl _) (Ol.refl _)
theorem npar_bad (g : Nat) (r : List Tok) (e : Er) : npar g (r, flt e) = some ([], (r, flt e)) := by simp [npar, flt_ne, tkS_bad]
theorem nloc_bad (g k : Nat) (r : List Tok) (e : Er) : nloc g k (r, flt e) = some ([], (r, flt e)) := by simp [nloc, tk_bad]
theorem names0 (f had most : Nat) (r : List Tok) : Tp.names f had most r = (Tp.names f had most r >>= fun y => Except.ok ([] ++ y.1, y.2)) := by cases Tp.names f had most r <;> rfl
theorem npar_rl (r : List Tok) : Rl ((if tx r = mRp then Except.ok ([], r) else Tp.names 11 0 10 r) >>= fun y => Tp.want mRp y.2 >>= fun r6 => Except.ok (y.1, r6)) (fun g => npar g (r, fine)) := by
  by_cases h : tx r = mRp
  · rw [if_pos h]
    refine Rl.congr (F := fun _ => some ([], (stp r, fine))) (fun g => by simp [npar, h, tkS]) ?_
    have := Rl.want mRp r ([] : List Bs)
    rw [show mu mRp (r, fine) = (stp r, fine) by simp [mu, h]] at this
    exact this
  · rw [if_neg h]
    refine Rl.congr (F := fun g => (nms g 10 [] (r, fine)).bind fun y => some (y.1, mu mRp y.2)) (fun g => by simp [npar, h]) ?_
    refine Rl.bind (M := fun x s g => some (x, mu mRp s)) (mo_nms _ _ _) (fun _ _ => mo_some _) ?_ (fun x r1 _ => Rl.want _ _ _) (fun x r' e => ⟨0, x, by simp only [mu_bad]⟩)
    rw [names0]
    exact names_rl 11 0 10 0 [] r rfl (by omega) (by omega)
theorem nloc_rl (k : Nat) (r : List Tok) : Rl (if tx r = wVar then (Tp.names 11 k 10 (stp r) >>= fun y => Tp.want mSemi y.2 >>= fun r9 => Except.ok (y.1, r9)) else Except.ok ([], r)) (fun g => nloc g k (r, fine)) := by
  by_cases h : tx r = wVar
  · rw [if_pos h]
    refine Rl.congr (F := fun g => (nms g (10 - k) [] (stp r, fine)).bind fun y => some (y.1, mu mSemi y.2)) (fun g => by simp [nloc, tk_fine, h, tkS]) ?_
    refine Rl.bind (M := fun x s g => some (x, mu mSemi s)) (mo_nms _ _ _) (fun _ _ => mo_some _) ?_ (fun x r1 _ => Rl.want _ _ _) (fun x r' e => ⟨0, x, by simp only [mu_bad]⟩)
    rw [names0]
    exact names_rl 11 k 10 k [] (stp r) (by simp) (by omega) (by omega)
  · rw [if_neg h]
    exact Rl.congr (fun g => by simp [nloc, tk_fine, h]) (Rl.ok _ _)
def npr (g : Nat) (s : Sx) : Option (Pr × Sx) :=
  let n := nm (mu wProc s)
  (npar g (mu mLp (tkS mStar n.2))).bind fun ps => (nloc g ps.1.length (mu mSemi ps.2)).bind fun vs => (nbody g (mu wBegin vs.2)).bind fun b =>
    some (⟨n.1, at' s.1, tk mStar n.2, ps.1, vs.1, b.1⟩, mu mSemi (mu wEnd b.2))
theorem mo_npr (s : Sx) : Mo (fun g => npr g s) := fun f g h => Ol.bind (mo_npar _ f g h) fun _ => Ol.bind (mo_nloc _ _ f g h) fun _ => Ol.bind (mo_nbody _ f g h) fun _ => Ol.refl _
theorem proc_eq (f : Nat) (r : List Tok) : Tp.proc f r = (Tp.want wProc r >>= fun r1 => Tp.name r1 >>= fun n => Tp.want mLp (if tx n.2 = mStar then stp n.2 else n.2) >>= fun r4 =>
    ((if tx r4 = mRp then Except.ok ([], r4) else Tp.names 11 0 10 r4) >>= fun y => Tp.want mRp y.2 >>= fun r6 => Except.ok (y.1, r6)) >>= fun ps => Tp.want mSemi ps.2 >>= fun r7 =>
    (if tx r7 = wVar then (Tp.names 11 ps.1.length 10 (stp r7) >>= fun y => Tp.want mSemi y.2 >>= fun r9 => Except.ok (y.1, r9)) else Except.ok ([], r7)) >>= fun vs => Tp.want wBegin vs.2 >>= fun r9 =>
    Tp.sx f 0 0 r9 >>= fun b => Tp.want wEnd b.2 >>= fun r11 => Tp.want mSemi r11 >>= fun r12 => Except.ok (⟨n.1, at' r, tx n.2 == mStar, ps.1, vs.1, b.1⟩, r12)) := by
  unfold Tp.proc
  simp only [bind_assoc]
  rfl
theorem npr_rl (f : Nat) (r : List Tok) : Rl (Tp.proc f r) (fun g => npr g (r, fine)) := by
  rw [proc_eq]
  refine Rl.wantK (M := fun s g => (npar g (mu mLp (tkS mStar (nm s).2))).bind fun ps => (nloc g ps.1.length (mu mSemi ps.2)).bind fun vs => (nbody g (mu wBegin vs.2)).bind fun b =>
    some ((⟨(nm s).1, at' r, tk mStar (nm s).2, ps.1, vs.1, b.1⟩ : Pr), mu mSemi (mu wEnd b.2))) wProc r ?_ (fun r' e => ⟨0, ⟨[], at' r, false, [], [], []⟩, by simp [nm_bad, tkS_bad, mu_bad, npar_bad, nloc_bad, nbody_bad, tk_bad]⟩)
  generalize stp r = r1
  rcases hn : Tp.name r1 with e | ⟨n, r2⟩
  · rw [nm_err hn]
    simp only [tkS_bad, mu_bad, npar_bad, nloc_bad, nbody_bad, tk_bad, Option.bind_some]
    exact Rl.error _ e r1
  · rw [nm_ok hn]
    simp only [star_eq, tk_star]
    show Rl (Tp.want mLp (if tx r2 = mStar then stp r2 else r2) >>= _) _
    generalize (if tx r2 = mStar then stp r2 else r2) = r3
    refine Rl.wantK (M := fun s g => (npar g s).bind fun ps => (nloc g ps.1.length (mu mSemi ps.2)).bind fun vs => (nbody g (mu wBegin vs.2)).bind fun b =>
      some ((⟨n, at' r, tx r2 == mStar, ps.1, vs.1, b.1⟩ : Pr), mu mSemi (mu wEnd b.2))) mLp r3 ?_ (fun r' e => ⟨0, ⟨n, at' r, tx r2 == mStar, [], [], []⟩, by simp [mu_bad, npar_bad, nloc_bad, nbody_bad]⟩)
    refine Rl.bind (M := fun ps s g => (nloc g ps.length (mu mSemi s)).bind fun vs => (nbody g (mu wBegin vs.2)).bind fun b => some ((⟨n, at' r, tx r2 == mStar, ps, vs.1, b.1⟩ : Pr), mu mSemi (mu wEnd b.2))) (mo_npar _) (fun ps s f g h => Ol.bind (mo_nloc _ _ f g h) fun _ => Ol.bind (mo_nbody _ f g h) fun _ => Ol.refl _) (npar_rl (stp r3)) (fun ps r6 _ => ?_) (fun ps r' e => ⟨0, ⟨n, at' r, tx r2 == mStar, ps, [], []⟩, by simp [mu_bad, nloc_bad, nbody_bad]⟩)
    refine Rl.wantK (M := fun s g => (nloc g ps.length s).bind fun vs => (nbody g (mu wBegin vs.2)).bind fun b => some ((⟨n, at' r, tx r2 == mStar, ps, vs.1, b.1⟩ : Pr), mu mSemi (mu wEnd b.2))) mSemi r6 ?_ (fun r' e => ⟨0, ⟨n, at' r, tx r2 == mStar, ps, [], []⟩, by simp [mu_bad, nloc_bad, nbody_bad]⟩)
    refine Rl.bind (M := fun vs s g => (nbody g (mu wBegin s)).bind fun b => some ((⟨n, at' r, tx r2 == mStar, ps, vs, b.1⟩ : Pr), mu mSemi (mu wEnd b.2))) (mo_nloc _ _) (fun vs s f g h => Ol.bind (mo_nbody _ f g h) fun _ => Ol.refl _) (nloc_rl ps.length (stp r6)) (fun vs r8 _ => ?_) (fun vs r' e => ⟨0, ⟨n, at' r, tx r2 == mStar, ps, vs, []⟩, by simp [mu_bad, nbody_bad]⟩)
    refine Rl.wantK (M := fun s g => (nbody g s).bind fun b => some ((⟨n, at' r, tx r2 == mStar, ps, vs, b.1⟩ : Pr), mu mSemi (mu wEnd b.2))) wBegin r8 ?_ (fun r' e => ⟨0, ⟨n, at' r, tx r2 == mStar, ps, vs, []⟩, by simp [mu_bad, nbody_bad]⟩)
    refine Rl.bind (M := fun b s g => some ((⟨n, at' r, tx r2 == mStar, ps, vs, b⟩ : Pr), mu mSemi (mu wEnd s))) (mo_nbody _) (fun _ _ => mo_some _) (nbody_rl f (stp r8)) (fun b r10 _ => ?_) (fun b r' e => ⟨0, ⟨n, at' r, tx r2 == mStar, ps, vs, b⟩, by simp [mu_bad]⟩)
    exact Rl.wantK (M := fun s g => some ((⟨n, at' r, tx r2 == mStar, ps, vs, b⟩ : Pr), mu mSemi s)) wEnd r10 (Rl.want _ _ _) (fun r' e => ⟨0, ⟨n, at' r, tx r2 == mStar, ps, vs, b⟩, by simp [mu_bad]⟩)
def nps : Nat → Nat → List Pr → Sx → Option (List Pr × Sx)
  | 0, _, _, _ => none
  | f + 1, g, l, s =>
    if s.2 = fine ∧ tx s.1 = wProc then
      if 10 ≤ l.length then some (l, fl 4 s)
      else (npr g s).bind fun y => nps f g (l ++ [y.1]) y.2
    else some (l, s)
theorem nps_ol : ∀ (f f' g g' : Nat) (l : List Pr) (s : Sx), f ≤ f' → g ≤ g' → Ol (nps f g l s) (nps f' g' l s) := by
  intro f
  induction f with
  | zero => intro f' g g' l s _ _ y h; cases h
  | succ f ih =>
    intro f' g g' l s hf hg
    obtain ⟨f', rfl⟩ : ∃ k, f' = k + 1 := ⟨f' - 1, by omega⟩
    rw [nps, nps]
    exact Ol.ite (Ol.ite (Ol.refl _) (Ol.bind (mo_npr s g g' hg) fun _ => ih _ _ _ _ _ (by omega) hg)) (Ol.refl _)
theorem mo_nps (l : List Pr) (s : Sx) : Mo (fun g => nps g g l s) := fun f g h => nps_ol f g f g l s h h
theorem nps_bad (f g : Nat) (l : List Pr) (r : List Tok) (e : Er) : nps (f + 1) g l (r, flt e) = some (l, (r, flt e)) := by rw [nps, if_neg (fun h => flt_ne e h.1)]
theorem procs_rl (k : Nat) : ∀ (f had : Nat) (l : List Pr) (r : List Tok), had = l.length → had ≤ 10 → 10 < had + f → Rl (Tp.procs f k had r >>= fun y => Except.ok (l ++ y.1, y.2)) (fun g => nps g g l (r, fine)) := by
  intro f
  induction f with
  | zero => intro had l r _ h1 h2; omega
  | succ f ih =>
    intro had l r hl h1 h2
    rw [Tp.procs]
    by_cases hv : tx r = wProc
    · rw [if_pos hv]
      by_cases h10 : had = 10
      · rw [if_pos h10]
        refine Rl.up (F := fun g => some (l, (r, flt (4, at' r)))) (fun g => ?_) (Rl.error _ _ _)
        rw [nps, if_pos ⟨rfl, hv⟩, if_pos (by omega), show fl 4 (r, fine) = (r, flt (4, at' r)) by simp [fl, flt]]
      · rw [if_neg h10]
        have e : ((Tp.proc k r >>= fun y => Tp.procs f k (had + 1) y.2 >>= fun z => Except.ok (y.1 :: z.1, z.2)) >>= fun y => Except.ok (l ++ y.1, y.2) : Except Er (List Pr × List Tok)) = (Tp.proc k r >>= fun y => Tp.procs f k (had + 1) y.2 >>= fun z => Except.ok ((l ++ [y.1]) ++ z.1, z.2)) := by
          simp only [bind_assoc]
          congr 1
          funext y
          congr 1
          funext z
          simp [bind, Except.bind]
        refine Rl.up (F := fun g => (npr (g + 1) (r, fine)).bind fun y => nps g (g + 1) (l ++ [y.1]) y.2) (fun g => ?_) ?_
        · show nps (g + 1) (g + 1) l (r, fine) = _
          rw [nps, if_pos ⟨rfl, hv⟩, if_neg (by omega)]
        · show Rl ((Tp.proc k r >>= fun y => Tp.procs f k (had + 1) y.2 >>= fun z => Except.ok (y.1 :: z.1, z.2)) >>= fun y => Except.ok (l ++ y.1, y.2)) _
          rw [e]
          refine Rl.bind (N := fun g => npr (g + 1) (r, fine)) (M := fun x s g => nps g (g + 1) (l ++ [x]) s) (fun a b h => mo_npr _ (a + 1) (b + 1) (by omega)) (fun x s a b h => nps_ol _ _ _ _ _ _ h (by omega)) ?_ (fun x r1 _ => ?_) (fun x r' e => ⟨1, l ++ [x], nps_bad _ _ _ _ _⟩)
          · have := npr_rl k r
            refine ⟨fun x r1 h => ?_, fun e hne h => ?_⟩
            · obtain ⟨g, hg⟩ := this.1 x r1 h
              exact ⟨g, mo_npr _ g (g + 1) (by omega) _ hg⟩
            · obtain ⟨g, y, r', hg⟩ := this.2 e hne h
              exact ⟨g, y, r', mo_npr _ g (g + 1) (by omega) _ hg⟩
          · have := ih (had + 1) (l ++ [x]) r1 (by simp; omega) (by omega) (by omega)
            refine ⟨fun y r2 h => ?_, fun e hne h => ?_⟩
            · obtain ⟨g, hg⟩ := this.1 y r2 h
              exact ⟨g, nps_ol g g g (g + 1) _ _ (Nat.le_refl _) (by omega) _ hg⟩
            · obtain ⟨g, y, r', hg⟩ := this.2 e hne h
              exact ⟨g, y, r', nps_ol g g g (g + 1) _ _ (Nat.le_refl _) (by omega) _ hg⟩
    · rw [if_neg hv]
      refine Rl.up (F := fun g => some (l ++ [], (r, fine))) (fun g => ?_) (Rl.ok _ _)
      rw [nps, if_neg (fun h => hv h.2), List.append_nil]
end Nr
/- The document's own reader on plain lists: modules. -/
namespace Nr
open Tp
def RlM {α : Type} (P : Except Er α) (N : Nat → Option (α × Sx)) : Prop :=
  (∀ x, P = .ok x → ∃ g r', N g = some (x, (r', fine))) ∧ (∀ e, e ≠ (99, 0) → P = .error e → ∃ g y r', N g = some (y, (r', flt e)))
theorem RlM.bind {α β : Type} {P : Except Er (α × List Tok)} {Q : α × List Tok → Except Er β} {N : Nat → Option (α × Sx)} {M : α → Sx → Nat → Option (β × Sx)} (hN : Mo N) (hM : ∀ x s, Mo (M x s)) (h1 : Rl P N)
    (h2 : ∀ x r1, P = .ok (x, r1) → RlM (Q (x, r1)) (M x (r1, fine))) (h3 : ∀ x r e, ∃ g y, M x (r, flt e) g = some (y, (r, flt e))) : RlM (P >>= Q) (fun g => (N g).bind fun y => M y.1 y.2 g) := by
  constructor
  · intro x hx
    rcases hP : P with e | ⟨z, r2⟩
    · rw [hP] at hx; cases hx
    · rw [hP] at hx
      obtain ⟨g1, hg1⟩ := h1.1 z r2 hP
      obtain ⟨g2, r', hg2⟩ := (h2 z r2 hP).1 x hx
      refine ⟨max g1 g2, r', ?_⟩
      show (N (max g1 g2)).bind _ = _
      rw [hN g1 (max g1 g2) (Nat.le_max_left _ _) _ hg1]
      exact hM z _ g2 (max g1 g2) (Nat.le_max_right _ _) _ hg2
  · intro e hne he
    rcases hP : P with e' | ⟨z, r2⟩
    · rw [hP] at he
      obtain rfl : e' = e := by cases he; rfl
      obtain ⟨g1, y, r', hg1⟩ := h1.2 e' hne hP
      obtain ⟨g2, y', hg2⟩ := h3 y r' e'
      refine ⟨max g1 g2, y', r', ?_⟩
      show (N (max g1 g2)).bind _ = _
      rw [hN g1 (max g1 g2) (Nat.le_max_left _ _) _ hg1]
      exact hM y _ g2 (max g1 g2) (Nat.le_max_right _ _) _ hg2
    · rw [hP] at he
      obtain ⟨g1, hg1⟩ := h1.1 z r2 hP
      obtain ⟨g2, y, r', hg2⟩ := (h2 z r2 hP).2 e hne he
      refine ⟨max g1 g2, y, r', ?_⟩
      show (N (max g1 g2)).bind _ = _
      rw [hN g1 (max g1 g2) (Nat.le_max_left _ _) _ hg1]
      exact hM z _ g2 (max g1 g2) (Nat.le_max_right _ _) _ hg2
theorem RlM.wantK {β : Type} {Q : List Tok → Except Er β} {M : Sx → Nat → Option (β × Sx)} (m : Bs) (r : List Tok) (h1 : RlM (Q (stp r)) (M (stp r, fine))) (h3 : Bp M) : RlM (Tp.want m r >>= Q) (M (mu m (r, fine))) := by
  unfold Tp.want
  by_cases h : tx r = m
  · rw [if_pos h, show mu m (r, fine) = (stp r, fine) by simp [mu, h]]
    exact h1
  · rw [if_neg h, show mu m (r, fine) = (r, flt (3, at' r)) by simp [mu, h, flt]]
    refine ⟨fun x h => (by cases h), fun e hne h => ?_⟩
    have : (3, at' r) = e := by cases h; rfl
    subst this
    obtain ⟨g, y, hg⟩ := h3 r (3, at' r)
    exact ⟨g, y, r, hg⟩
def nimp (g : Nat) (s : Sx) : Option (List Bs × Sx) := if tk wImport s then (nms g 6 [] (tkS wImport s)).bind fun y => some (y.1, mu mSemi y.2) else some ([], s)
theorem mo_nimp (s : Sx) : Mo (fun g => nimp g s) := fun f g h => Ol.ite (Ol.bind (mo_nms _ _ _ f g h) fun _ => Ol.refl _) (Ol.refl _)
theorem nimp_bad (g : Nat) (r : List Tok) (e : Er) : nimp g (r, flt e) = some ([], (r, flt e)) := by simp [nimp, tk_bad]
theorem nimp_rl (r : List Tok) : Rl (if tx r = wImport then (Tp.names 7 0 6 (stp r) >>= fun y => Tp.want mSemi y.2 >>= fun r9 => Except.ok (y.1, r9)) else Except.ok ([], r)) (fun g => nimp g (r, fine)) := by
  by_cases h : tx r = wImport
  · rw [if_pos h]
    refine Rl.congr (F := fun g => (nms g 6 [] (stp r, fine)).bind fun y => some (y.1, mu mSemi y.2)) (fun g => by simp [nimp, tk_fine, h, tkS]) ?_
    refine Rl.bind (M := fun x s g => some (x, mu mSemi s)) (mo_nms _ _ _) (fun _ _ => mo_some _) ?_ (fun x r1 _ => Rl.want _ _ _) (fun x r' e => ⟨0, x, by simp only [mu_bad]⟩)
    rw [names0]
    exact names_rl 7 0 6 0 [] (stp r) (by simp) (by omega) (by omega)
  · rw [if_neg h]
    exact Rl.congr (fun g => by simp [nimp, tk_fine, h]) (Rl.ok _ _)
def nend (s : Sx) : Sx := if (hd s.1).kind ≠ 0 then fl 3 s else s
theorem nend_bad (r : List Tok) (e : Er) : nend (r, flt e) = (r, flt e) := by unfold nend; split <;> simp [fl_bad]
def nmod (g : Nat) (s : Sx) : Option (M × Sx) :=
  let n := nm (mu wModule s)
  (nimp g (mu mSemi n.2)).bind fun is => (ngs g [] is.2).bind fun gs => (nps g g [] gs.2).bind fun ps => (nbody g (mu wBegin ps.2)).bind fun b =>
    some (⟨n.1, is.1, gs.1, ps.1, b.1⟩, nend (mu mDot (mu wEnd b.2)))
theorem module_eq (f : Nat) (r : List Tok) : Tp.module f r = (Tp.want wModule r >>= fun r1 => Tp.name r1 >>= fun n => Tp.want mSemi n.2 >>= fun r3 =>
    (if tx r3 = wImport then (Tp.names 7 0 6 (stp r3) >>= fun y => Tp.want mSemi y.2 >>= fun r9 => Except.ok (y.1, r9)) else Except.ok ([], r3)) >>= fun is =>
    (Tp.globals 12 0 is.2 >>= fun y => Except.ok ([] ++ y.1, y.2)) >>= fun gs => (Tp.procs 12 f 0 gs.2 >>= fun y => Except.ok ([] ++ y.1, y.2)) >>= fun ps => Tp.want wBegin ps.2 >>= fun r7 =>
    Tp.sx f 0 0 r7 >>= fun b => Tp.want wEnd b.2 >>= fun r9 => Tp.want mDot r9 >>= fun r10 => if (hd r10).kind = 0 then Except.ok ⟨n.1, is.1, gs.1, ps.1, b.1⟩ else Except.error (3, at' r10)) := by
  unfold Tp.module
  simp only [bind_assoc]
  rfl
theorem nmod_rl (f : Nat) (r : List Tok) : RlM (Tp.module f r) (fun g => nmod g (r, fine)) := by
  rw [module_eq]
  refine RlM.wantK (M := fun s g => (nimp g (mu mSemi (nm s).2)).bind fun is => (ngs g [] is.2).bind fun gs => (nps g g [] gs.2).bind fun ps => (nbody g (mu wBegin ps.2)).bind fun b =>
    some ((⟨(nm s).1, is.1, gs.1, ps.1, b.1⟩ : M), nend (mu mDot (mu wEnd b.2)))) wModule r ?_ (fun r' e => ⟨1, ⟨[], [], [], [], []⟩, by simp [nm_bad, mu_bad, nimp_bad, nbody_bad, nend_bad, ngs_bad, nps_bad]⟩)
  generalize stp r = r1
  rcases hn : Tp.name r1 with e | ⟨n, r2⟩
  · rw [nm_err hn]
    refine ⟨fun x h => (by cases h), fun e' hne h => ?_⟩
    have : e = e' := by cases h; rfl
    subst this
    exact ⟨1, ⟨[], [], [], [], []⟩, r1, by simp [mu_bad, nimp_bad, nbody_bad, nend_bad, ngs_bad, nps_bad]⟩
  · rw [nm_ok hn]
    show RlM (Tp.want mSemi r2 >>= _) _
    refine RlM.wantK (M := fun s g => (nimp g s).bind fun is => (ngs g [] is.2).bind fun gs => (nps g g [] gs.2).bind fun ps => (nbody g (mu wBegin ps.2)).bind fun b =>
      some ((⟨n, is.1, gs.1, ps.1, b.1⟩ : M), nend (mu mDot (mu wEnd b.2)))) mSemi r2 ?_ (fun r' e => ⟨1, ⟨n, [], [], [], []⟩, by simp [mu_bad, nimp_bad, nbody_bad, nend_bad, ngs_bad, nps_bad]⟩)
    refine RlM.bind (M := fun is s g => (ngs g [] s).bind fun gs => (nps g g [] gs.2).bind fun ps => (nbody g (mu wBegin ps.2)).bind fun b => some ((⟨n, is, gs.1, ps.1, b.1⟩ : M), nend (mu mDot (mu wEnd b.2)))) (mo_nimp _) (fun is s f g h => Ol.bind (mo_ngs _ _ f g h) fun _ => Ol.bind (mo_nps _ _ f g h) fun _ => Ol.bind (mo_nbody _ f g h) fun _ => Ol.refl _) (nimp_rl (stp r2)) (fun is r4 _ => ?_) (fun is r' e => ⟨1, ⟨n, is, [], [], []⟩, by simp [mu_bad, nbody_bad, nend_bad, ngs_bad, nps_bad]⟩)
    refine RlM.bind (M := fun gs s g => (nps g g [] s).bind fun ps => (nbody g (mu wBegin ps.2)).bind fun b => some ((⟨n, is, gs, ps.1, b.1⟩ : M), nend (mu mDot (mu wEnd b.2)))) (mo_ngs _ _) (fun gs s f g h => Ol.bind (mo_nps _ _ f g h) fun _ => Ol.bind (mo_nbody _ f g h) fun _ => Ol.refl _) (globals_rl 12 0 [] r4 rfl (by omega) (by omega)) (fun gs r5 _ => ?_) (fun gs r' e => ⟨1, ⟨n, is, gs, [], []⟩, by simp [mu_bad, nbody_bad, nend_bad, nps_bad]⟩)
    refine RlM.bind (M := fun ps s g => (nbody g (mu wBegin s)).bind fun b => some ((⟨n, is, gs, ps, b.1⟩ : M), nend (mu mDot (mu wEnd b.2)))) (mo_nps _ _) (fun ps s f g h => Ol.bind (mo_nbody _ f g h) fun _ => Ol.refl _) (procs_rl f 12 0 [] r5 rfl (by omega) (by omega)) (fun ps r6 _ => ?_) (fun ps r' e => ⟨1, ⟨n, is, gs, ps, []⟩, by simp [mu_bad, nbody_bad, nend_bad]⟩)
    refine RlM.wantK (M := fun s g => (nbody g s).bind fun b => some ((⟨n, is, gs, ps, b.1⟩ : M), nend (mu mDot (mu wEnd b.2)))) wBegin r6 ?_ (fun r' e => ⟨1, ⟨n, is, gs, ps, []⟩, by simp [mu_bad, nbody_bad, nend_bad]⟩)
    refine RlM.bind (M := fun b s g => some ((⟨n, is, gs, ps, b⟩ : M), nend (mu mDot (mu wEnd s)))) (mo_nbody _) (fun _ _ => mo_some _) (nbody_rl f (stp r6)) (fun b r8 _ => ?_) (fun b r' e => ⟨1, ⟨n, is, gs, ps, b⟩, by simp [mu_bad, nend_bad]⟩)
    refine RlM.wantK (M := fun s g => some ((⟨n, is, gs, ps, b⟩ : M), nend (mu mDot s))) wEnd r8 ?_ (fun r' e => ⟨1, ⟨n, is, gs, ps, b⟩, by simp [mu_bad, nend_bad]⟩)
    refine RlM.wantK (M := fun s g => some ((⟨n, is, gs, ps, b⟩ : M), nend s)) mDot (stp r8) ?_ (fun r' e => ⟨1, ⟨n, is, gs, ps, b⟩, by simp [nend_bad]⟩)
    generalize stp (stp r8) = r10
    by_cases hk : (hd r10).kind = 0
    · rw [if_pos hk, show nend (r10, fine) = (r10, fine) by simp [nend, hk]]
      exact ⟨fun x h => (by cases h; exact ⟨0, r10, rfl⟩), fun e _ h => (by cases h)⟩
    · rw [if_neg hk, show nend (r10, fine) = (r10, flt (3, at' r10)) by simp [nend, hk, fl, flt]]
      exact ⟨fun x h => (by cases h), fun e _ h => (by cases h; exact ⟨0, _, r10, rfl⟩)⟩
end Nr
/- The document's own reader on plain lists: no token comes back. -/
namespace Nr
open Tp
def Lq {α : Type} (n : Nat) (N : Option (α × Sx)) : Prop := ∀ y, N = some y → y.2.1.length ≤ n
theorem Lq.some {α : Type} {n : Nat} {y : α × Sx} (h : y.2.1.length ≤ n) : Lq n (.some y) := fun z hz => by cases hz; exact h
theorem Lq.none {α : Type} {n : Nat} : Lq n (.none : Option (α × Sx)) := fun z hz => by cases hz
theorem Lq.bind {α β : Type} {n : Nat} {N : Option (α × Sx)} {F : α × Sx → Option (β × Sx)} (h : Lq n N) (k : ∀ y, y.2.1.length ≤ n → Lq n (F y)) : Lq n (N.bind F) := by
  intro z hz
  cases N with
  | none => cases hz
  | some y => exact k y (h y rfl) z hz
theorem Lq.map {α β : Type} {n : Nat} {N : Option (α × Sx)} {F : α × Sx → β × Sx} (h : Lq n N) (k : ∀ y, y.2.1.length ≤ n → (F y).2.1.length ≤ n) : Lq n (N.map F) := by
  intro z hz
  cases N with
  | none => cases hz
  | some y => cases hz; exact k y (h y rfl)
theorem Lq.ite {α : Type} {n : Nat} {c : Prop} [Decidable c] {a b : Option (α × Sx)} (h : Lq n a) (k : Lq n b) : Lq n (if c then a else b) := by split <;> assumption
theorem len_stp (r : List Tok) : (stp r).length ≤ r.length := by unfold stp; split <;> simp
theorem len_tkS (m : Bs) (s : Sx) : (tkS m s).1.length ≤ s.1.length := by
  unfold tkS; split
  · exact len_stp _
  · exact Nat.le_refl _
theorem len_mu (m : Bs) (s : Sx) : (mu m s).1.length ≤ s.1.length := by
  unfold mu; dsimp only; split
  · exact len_stp _
  · exact Nat.le_refl _
theorem len_nm (s : Sx) : (nm s).2.1.length ≤ s.1.length := by
  unfold nm
  by_cases h : s.2 = fine
  · rw [if_pos h]
    unfold Tp.name
    split
    · rename_i n r1 hx
      split at hx
      · cases hx
      · split at hx
        · cases hx
        · cases hx; exact len_stp _
    · exact Nat.le_refl _
  · rw [if_neg h]; exact Nat.le_refl _
theorem len_nu (k : Nat) (s : Sx) : (nu k s).2.1.length ≤ s.1.length := by
  unfold nu
  by_cases h : s.2 = fine
  · rw [if_pos h]
    unfold Tp.number
    split
    · rename_i n r1 hx
      split at hx
      · cases hx
      · split at hx
        · cases hx
        · cases hx; exact len_stp _
    · exact Nat.le_refl _
  · rw [if_neg h]; exact Nat.le_refl _
theorem nex_len (g : Nat) : ∀ k ones a acc (s : Sx) (n : Nat), s.1.length ≤ n → Lq n (nex g k ones a acc s) := by
  induction g with
  | zero => intro k ones a acc s n h; exact Lq.none
  | succ g ih =>
    intro k ones a acc s n h
    have hst : (stp s.1).length ≤ n := Nat.le_trans (len_stp _) h
    rw [nex]
    refine Lq.ite (Lq.bind (ih _ _ _ _ _ _ h) fun y hy => ih _ _ _ _ _ _ hy) (Lq.ite ?_ (Lq.ite ?_ (Lq.ite ?_ ?_)))
    · refine Lq.ite (Lq.some h) (Lq.ite (Lq.some h) (Lq.ite (Lq.some (Nat.le_trans (len_nu _ _) h)) (Lq.ite (Lq.map (ih _ _ _ _ _ _ hst) fun y hy => hy) (Lq.ite (Lq.map (ih _ _ _ _ _ _ hst) fun y hy => hy) (Lq.ite (Lq.map (ih _ _ _ _ _ _ hst) fun y hy => Nat.le_trans (len_mu _ _) hy) (ih _ _ _ _ _ _ h))))))
    · have h1 : (nm s).2.1.length ≤ n := Nat.le_trans (len_nm _) h
      have h2 : (if tk mDot (nm s).2 = true then nm (tkS mDot (nm s).2) else nm s).2.1.length ≤ n := by
        split
        · exact Nat.le_trans (len_nm _) (Nat.le_trans (len_tkS _ _) h1)
        · exact h1
      exact Lq.ite (Lq.map (ih _ _ _ _ _ _ (Nat.le_trans (len_tkS _ _) h2)) fun y hy => Nat.le_trans (len_mu _ _) hy) (Lq.ite (Lq.map (ih _ _ _ _ _ _ (Nat.le_trans (len_tkS _ _) h2)) fun y hy => hy) (Lq.some h2))
    · have h1 : (if a = 1 then s else mu mComma s).1.length ≤ n := by
        split
        · exact h
        · exact Nat.le_trans (len_mu _ _) h
      exact Lq.ite (Lq.some h) (Lq.ite (Lq.some hst) (Lq.ite (Lq.some h1) (Lq.bind (ih _ _ _ _ _ _ h1) fun y hy => ih _ _ _ _ _ _ hy)))
    · exact Lq.ite (Lq.bind (ih _ _ _ _ _ _ hst) fun y hy => ih _ _ _ _ _ _ hy) (Lq.some h)
theorem nval_len (g : Nat) (s : Sx) (n : Nat) (h : s.1.length ≤ n) : Lq n (nval g s) := Lq.ite (nex_len g _ _ _ _ _ _ h) (Lq.some h)
theorem nsx_len (g : Nat) : ∀ k deep a acc (s : Sx) (n : Nat), s.1.length ≤ n → Lq n (nsx g k deep a acc s) := by
  induction g with
  | zero => intro k deep a acc s n h; exact Lq.none
  | succ g ih =>
    intro k deep a acc s n h
    have hst : (stp s.1).length ≤ n := Nat.le_trans (len_stp _) h
    have hb : ∀ s : Sx, s.1.length ≤ n → Lq n (if s.2 = fine then nsx g 0 (deep + 1) 0 [] s else .some ([], s)) := fun s hs => Lq.ite (ih _ _ _ _ _ _ hs) (Lq.some hs)
    rw [nsx]
    refine Lq.ite (ih _ _ _ _ _ _ ?_) (Lq.ite (Lq.ite (Lq.bind (ih _ _ _ _ _ _ h) fun y hy => ih _ _ _ _ _ _ (Nat.le_trans (len_mu _ _) hy)) (Lq.some h)) (Lq.ite ?_ ?_))
    · split
      · exact h
      · exact h
    · refine Lq.ite (Lq.bind (nval_len _ _ _ hst) fun y hy => Lq.some hy) (Lq.ite (Lq.bind (nval_len _ _ _ hst) fun y hy => Lq.some hy) (Lq.ite (Lq.bind (nval_len _ _ _ hst) fun y hy => Lq.bind (hb _ (Nat.le_trans (len_mu _ _) hy)) fun z hz => Lq.some (Nat.le_trans (len_mu _ _) hz)) (Lq.ite (Lq.bind (ih _ _ _ _ _ _ hst) fun y hy => Lq.some (Nat.le_trans (len_mu _ _) hy)) ?_)))
      refine Lq.bind (nex_len _ _ _ _ _ _ _ h) fun y hy => Lq.ite (Lq.some hy) (Lq.bind (nval_len _ _ _ (Nat.le_trans (len_mu _ _) ?_)) fun z hz => Lq.some hz)
      split
      · exact hy
      · exact hy
    · exact Lq.bind (nval_len _ _ _ h) fun y hy => Lq.bind (hb _ (Nat.le_trans (len_mu _ _) hy)) fun z hz => Lq.ite (Lq.bind (ih _ _ _ _ _ _ (Nat.le_trans (len_tkS _ _) hz)) fun u hu => Lq.some hu) (Lq.ite (Lq.bind (ih _ _ _ _ _ _ (Nat.le_trans (len_tkS _ _) hz)) fun u hu => Lq.some hu) (Lq.some hz))
end Nr
/- The document's own reader on plain lists: what a text's tokens come to. -/
namespace Nr
open Tp
def NP (l : Bs) (y : M × Sx) : Prop := match Tp.parse l with
  | .ok m => y.1 = m ∧ y.2.2 = fine
  | .error e => y.2.2 = flt e
theorem nparse {l : Bs} {ts : List Tok} (h : Tp.scan (l.length + 1) 0 0 l = .ok ts) : ∃ g y, nmod g (ts, fine) = some y ∧ NP l y := by
  obtain ⟨tk1, _⟩ := Tp.scan_tks _ _ _ _ _ h
  have hno : Tp.module (20 * ts.length + 20) ts ≠ .error (99, 0) := Tp.module_ne tk1.gd (by omega)
  have hp : Tp.parse l = Tp.module (20 * ts.length + 20) ts := by
    unfold Tp.parse
    rw [h]; rfl
  have hr := nmod_rl (20 * ts.length + 20) ts
  unfold NP
  rw [hp]
  rcases hm : Tp.module (20 * ts.length + 20) ts with e | m
  · obtain ⟨g, y, r', hg⟩ := hr.2 e (fun h => hno (by rw [hm, h])) hm
    exact ⟨g, _, hg, rfl⟩
  · obtain ⟨g, r', hg⟩ := hr.1 m hm
    exact ⟨g, _, hg, rfl, rfl⟩
end Nr
