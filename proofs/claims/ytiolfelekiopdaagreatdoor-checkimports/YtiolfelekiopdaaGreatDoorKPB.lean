import Derived.Test.YtiolfelekiopdaaGreatDoorKPA
import Derived.KernelRfl
/- A module: what was read is well made, what is written is read. -/
namespace Tp
def okns (l : List Bs) : Prop := ∀ n, n ∈ l → okn n
structure WG (g : G) : Prop where
  n : okn g.name
  l : g.len ≤ 30
structure WP (p : Pr) : Prop where
  n : okn p.name
  ps : okns p.params
  vs : okns p.vars
  c : p.params.length + p.vars.length ≤ 10
  b : WS p.body
  d : DS p.body ≤ 10
structure WM (m : M) : Prop where
  n : okn m.name
  i : okns m.imports
  ic : m.imports.length ≤ 6
  g : ∀ g, g ∈ m.vars → WG g
  gc : m.vars.length ≤ 10
  p : ∀ p, p ∈ m.procs → WP p
  pc : m.procs.length ≤ 10
  b : WS m.body
  d : DS m.body ≤ 10
def nN (l : List Bs) : Nat := 2 * l.length - 1
def b2 (b : Bool) : Nat := if b then 1 else 0
def nG (g : G) : Nat := 4 + b2 g.seen + (if g.len = 0 then 1 else 2)
def nP (p : Pr) : Nat := 2 + b2 p.seen + 3 + nN p.params + (if p.vars = [] then 0 else 2 + nN p.vars) + 1 + NS p.body + 2
def nM (m : M) : Nat := 3 + (if m.imports = [] then 0 else 2 + nN m.imports) + (m.vars.map nG).sum + (m.procs.map nP).sum + 1 + NS m.body + 2
theorem names_okn (f : Nat) : ∀ had most r l r', Tks r → names f had most r = .ok (l, r') → okns l ∧ 1 ≤ l.length ∧ had + l.length ≤ most ∧ nN l + wt r' ≤ wt r ∧ Tks r' := by
  induction f with
  | zero => intro had most r l r' _ h; cases h
  | succ f ih =>
    intro had most r l r' hT h
    rw [names] at h
    split at h
    · cases h
    · obtain ⟨⟨n, r1⟩, h1, h2⟩ := bind_ok h
      obtain ⟨a1, rfl, a2⟩ := name_okn hT h1
      have T1 := hT.suf (stp_suf r)
      have w1 := wt_step T1
      simp only at h2
      split at h2
      · rename_i hc
        rw [hc] at w1
        simp [mComma] at w1
        obtain ⟨⟨l', r2⟩, h3, h4⟩ := bind_ok h2
        obtain ⟨b1, b2, b3, b4, b5⟩ := ih _ _ _ _ _ (T1.suf (stp_suf _)) h3
        cases h4
        refine ⟨?_, by simp, by simp; omega, ?_, b5⟩
        · intro m hm
          rcases List.mem_cons.mp hm with rfl | hm
          · exact a1
          · exact b1 m hm
        · unfold nN at b4 ⊢; simp; omega
      · cases h2
        exact ⟨by intro m hm; rw [List.mem_singleton] at hm; subst hm; exact a1, by simp, by simp; omega, by unfold nN; simp; omega, T1⟩
theorem star_wt {r : List Tok} (hT : Tks r) : wt (if tx r = mStar then stp r else r) + b2 (tx r == mStar) = wt r ∧ Tks (if tx r = mStar then stp r else r) := by
  have w1 := wt_step hT
  by_cases h : tx r = mStar
  · rw [if_pos h]
    rw [h] at w1
    simp [mStar] at w1
    exact ⟨by rw [h]; simp [b2]; omega, hT.suf (stp_suf r)⟩
  · rw [if_neg h]
    have : (tx r == mStar) = false := by simpa using h
    exact ⟨by rw [this]; simp [b2], hT⟩
theorem global_wg {r r' : List Tok} {g : G} (hT : Tks r) (h : global r = .ok (g, r')) : WG g ∧ nG g + wt r' ≤ wt r + 1 ∧ Tks r' := by
  unfold global at h
  obtain ⟨⟨n, r1⟩, h1, h2⟩ := bind_ok h
  obtain ⟨a1, rfl, a2⟩ := name_okn hT h1
  have T1 := hT.suf (stp_suf r)
  obtain ⟨s1, s2⟩ := star_wt T1
  obtain ⟨r3, h3, h4⟩ := bind_ok h2
  try simp only at h3
  obtain ⟨w3, T3⟩ := want_all s2 h3
  simp [mColon] at w3
  have w3' := wt_step T3
  simp only at h4
  split at h4
  · rename_i hi
    rw [hi] at w3'
    simp [wInt] at w3'
    obtain ⟨r4, h5, h6⟩ := bind_ok h4
    obtain ⟨w4, T4⟩ := want_all (T3.suf (stp_suf _)) h5
    simp [mSemi] at w4
    cases h6
    refine ⟨⟨a1, by simp⟩, ?_, T4⟩
    simp only [nG, if_true]; omega
  · obtain ⟨r4, h5, h6⟩ := bind_ok h4
    obtain ⟨w4, T4⟩ := want_all T3 h5
    simp [wArray] at w4
    obtain ⟨⟨k, r5⟩, h7, h8⟩ := bind_ok h6
    obtain ⟨k1, k2, k3, rfl⟩ := number_ok' h7
    have T5 := T4.suf (stp_suf r4)
    have w5 := wt_step T4
    simp only at h8
    split at h8
    · cases h8
    · rename_i hk0
      obtain ⟨r6, h9, h10⟩ := bind_ok h8
      obtain ⟨w6, T6⟩ := want_all T5 h9
      simp [mSemi] at w6
      cases h10
      refine ⟨⟨a1, k3⟩, ?_, T6⟩
      simp only [nG]; rw [if_neg hk0]; omega
theorem globals_wg (f : Nat) : ∀ had r l r', Tks r → had ≤ 10 → globals f had r = .ok (l, r') → (∀ g, g ∈ l → WG g) ∧ had + l.length ≤ 10 ∧ (l.map nG).sum + wt r' ≤ wt r ∧ Tks r' := by
  induction f with
  | zero => intro had r l r' _ _ h; cases h
  | succ f ih =>
    intro had r l r' hT hh h
    have w0 := wt_step hT
    rw [globals] at h
    split at h
    · rename_i hv
      rw [hv] at w0
      simp [wVar] at w0
      split at h
      · cases h
      · rename_i hne
        obtain ⟨⟨g, r1⟩, h1, h2⟩ := bind_ok h
        obtain ⟨a1, a2, T1⟩ := global_wg (hT.suf (stp_suf r)) h1
        obtain ⟨⟨l', r2⟩, h3, h4⟩ := bind_ok h2
        obtain ⟨b1, b2, b3, b4⟩ := ih _ _ _ _ T1 (by omega) h3
        cases h4
        refine ⟨?_, by simp; omega, by simp; omega, b4⟩
        intro x hx
        rcases List.mem_cons.mp hx with rfl | hx
        · exact a1
        · exact b1 x hx
    · cases h
      exact ⟨fun g hg => absurd hg List.not_mem_nil, by simpa using hh, by simp, hT⟩
theorem proc_wp {f : Nat} {r r' : List Tok} {p : Pr} (hT : Tks r) (h : proc f r = .ok (p, r')) : WP p ∧ nP p + wt r' ≤ wt r ∧ Tks r' := by
  unfold proc at h
  obtain ⟨r1, h1, h2⟩ := bind_ok h
  obtain ⟨w1, T1⟩ := want_all hT h1
  simp [wProc] at w1
  obtain ⟨⟨n, r2⟩, h3, h4⟩ := bind_ok h2
  obtain ⟨a1, rfl, a2⟩ := name_okn T1 h3
  have T2 := T1.suf (stp_suf r1)
  obtain ⟨s1, s2⟩ := star_wt T2
  obtain ⟨r4, h5, h6⟩ := bind_ok h4
  try simp only at h5
  obtain ⟨w4, T4⟩ := want_all s2 h5
  simp [mLp] at w4
  obtain ⟨⟨ps, r5⟩, h7, h8⟩ := bind_ok h6
  have k5 : okns ps ∧ ps.length ≤ 10 ∧ nN ps + wt r5 ≤ wt r4 ∧ Tks r5 := by
    split at h7
    · cases h7; exact ⟨fun n hn => absurd hn List.not_mem_nil, by simp, by simp [nN], T4⟩
    · obtain ⟨c1, c2, c3, c4, c5⟩ := names_okn _ _ _ _ _ _ T4 h7
      exact ⟨c1, by omega, c4, c5⟩
  obtain ⟨c1, c2, c3, T5⟩ := k5
  obtain ⟨r6, h9, h10⟩ := bind_ok h8
  obtain ⟨w6, T6⟩ := want_all T5 h9
  simp [mRp] at w6
  obtain ⟨r7, h11, h12⟩ := bind_ok h10
  obtain ⟨w7, T7⟩ := want_all T6 h11
  simp [mSemi] at w7
  obtain ⟨⟨vs, r8⟩, h13, h14⟩ := bind_ok h12
  have k8 : okns vs ∧ ps.length + vs.length ≤ 10 ∧ (if vs = [] then 0 else 2 + nN vs) + wt r8 ≤ wt r7 ∧ Tks r8 := by
    split at h13
    · rename_i hv
      have w7' := wt_step T7
      rw [hv] at w7'
      simp [wVar] at w7'
      obtain ⟨⟨vs', r8'⟩, h15, h16⟩ := bind_ok h13
      obtain ⟨d1, d2, d3, d4, d5⟩ := names_okn _ _ _ _ _ _ (T7.suf (stp_suf _)) h15
      obtain ⟨r9, h17, h18⟩ := bind_ok h16
      obtain ⟨w9, T9⟩ := want_all d5 h17
      simp [mSemi] at w9
      cases h18
      refine ⟨d1, d3, ?_, T9⟩
      split <;> omega
    · cases h13; exact ⟨fun n hn => absurd hn List.not_mem_nil, by simpa using c2, by simp, T7⟩
  obtain ⟨d1, d2, d3, T8⟩ := k8
  obtain ⟨r9, h15, h16⟩ := bind_ok h14
  obtain ⟨w9, T9⟩ := want_all T8 h15
  simp [wBegin] at w9
  obtain ⟨⟨b, r10⟩, h17, h18⟩ := bind_ok h16
  have q := sx_ry f 0 0 r9 b r10 T9 (by omega) (by omega) (by omega) h17
  have q1 := q.ns (by omega)
  have q2 := q.ds
  obtain ⟨r11, h19, h20⟩ := bind_ok h18
  obtain ⟨w11, T11⟩ := want_all (T9.suf (sx_lt f _ _ _ _ _ T9.gd h17).1) h19
  simp [wEnd] at w11
  obtain ⟨r12, h21, h22⟩ := bind_ok h20
  obtain ⟨w12, T12⟩ := want_all T11 h21
  simp [mSemi] at w12
  cases h22
  refine ⟨⟨a1, c1, d1, d2, q.ws, show DS b ≤ 10 by omega⟩, ?_, T12⟩
  simp only [nP]; omega
theorem procs_wp (f : Nat) : ∀ g had r l r', Tks r → had ≤ 10 → procs f g had r = .ok (l, r') → (∀ p, p ∈ l → WP p) ∧ had + l.length ≤ 10 ∧ (l.map nP).sum + wt r' ≤ wt r ∧ Tks r' := by
  induction f with
  | zero => intro g had r l r' _ _ h; cases h
  | succ f ih =>
    intro g had r l r' hT hh h
    rw [procs] at h
    split at h
    · split at h
      · cases h
      · rename_i hne
        obtain ⟨⟨p, r1⟩, h1, h2⟩ := bind_ok h
        obtain ⟨a1, a2, T1⟩ := proc_wp hT h1
        obtain ⟨⟨l', r2⟩, h3, h4⟩ := bind_ok h2
        obtain ⟨b1, b2, b3, b4⟩ := ih _ _ _ _ _ T1 (by omega) h3
        cases h4
        refine ⟨?_, by simp; omega, by simp; omega, b4⟩
        intro x hx
        rcases List.mem_cons.mp hx with rfl | hx
        · exact a1
        · exact b1 x hx
    · cases h
      exact ⟨fun g hg => absurd hg List.not_mem_nil, by simpa using hh, by simp, hT⟩
theorem module_wm {f : Nat} {r : List Tok} {m : M} (hT : Tks r) (h : module f r = .ok m) : WM m ∧ nM m ≤ wt r := by
  unfold module at h
  obtain ⟨r1, h1, h2⟩ := bind_ok h
  obtain ⟨w1, T1⟩ := want_all hT h1
  simp [wModule] at w1
  obtain ⟨⟨n, r2⟩, h3, h4⟩ := bind_ok h2
  obtain ⟨a1, rfl, a2⟩ := name_okn T1 h3
  have T2 := T1.suf (stp_suf r1)
  obtain ⟨r3, h5, h6⟩ := bind_ok h4
  obtain ⟨w3, T3⟩ := want_all T2 h5
  simp [mSemi] at w3
  obtain ⟨⟨is, r4⟩, h7, h8⟩ := bind_ok h6
  have k4 : okns is ∧ is.length ≤ 6 ∧ (if is = [] then 0 else 2 + nN is) + wt r4 ≤ wt r3 ∧ Tks r4 := by
    split at h7
    · rename_i hv
      have w7' := wt_step T3
      rw [hv] at w7'
      simp [wImport] at w7'
      obtain ⟨⟨vs', r8'⟩, h15, h16⟩ := bind_ok h7
      obtain ⟨d1, d2, d3, d4, d5⟩ := names_okn _ _ _ _ _ _ (T3.suf (stp_suf _)) h15
      obtain ⟨r9, h17, h18⟩ := bind_ok h16
      obtain ⟨w9, T9⟩ := want_all d5 h17
      simp [mSemi] at w9
      cases h18
      refine ⟨d1, by omega, ?_, T9⟩
      split <;> omega
    · cases h7; exact ⟨fun n hn => absurd hn List.not_mem_nil, by simp, by simp, T3⟩
  obtain ⟨c1, c2, c3, T4⟩ := k4
  obtain ⟨⟨gs, r5⟩, h9, h10⟩ := bind_ok h8
  obtain ⟨d1, d2, d3, T5⟩ := globals_wg _ _ _ _ _ T4 (by omega) h9
  obtain ⟨⟨ps, r6⟩, h11, h12⟩ := bind_ok h10
  obtain ⟨e1, e2, e3, T6⟩ := procs_wp _ _ _ _ _ _ T5 (by omega) h11
  obtain ⟨r7, h13, h14⟩ := bind_ok h12
  obtain ⟨w7, T7⟩ := want_all T6 h13
  simp [wBegin] at w7
  obtain ⟨⟨b, r8⟩, h15, h16⟩ := bind_ok h14
  have q := sx_ry f 0 0 r7 b r8 T7 (by omega) (by omega) (by omega) h15
  have q1 := q.ns (by omega)
  have q2 := q.ds
  obtain ⟨r9, h17, h18⟩ := bind_ok h16
  obtain ⟨w9, T9⟩ := want_all (T7.suf (sx_lt f _ _ _ _ _ T7.gd h15).1) h17
  simp [wEnd] at w9
  obtain ⟨r10, h19, h20⟩ := bind_ok h18
  obtain ⟨w10, T10⟩ := want_all T9 h19
  simp [mDot] at w10
  split at h20
  · cases h20
    refine ⟨⟨a1, c1, c2, d1, show gs.length ≤ 10 by omega, e1, show ps.length ≤ 10 by omega, q.ws, show DS b ≤ 10 by omega⟩, ?_⟩
    simp only [nM]; omega
  · cases h20
end Tp
/- A module: what is written is read. -/
namespace Tp
def eG (g : G) : G := { g with pos := 0 }
def eP (p : Pr) : Pr := { p with pos := 0, body := eS p.body }
structure Same (m k : M) : Prop where
  n : k.name = m.name
  i : k.imports = m.imports
  v : k.vars.map eG = m.vars.map eG
  p : k.procs.map eP = m.procs.map eP
  b : eS k.body = eS m.body
theorem pnames_cons (a b : Bs) (l : List Bs) : pnames (a :: b :: l) = [a, mComma, sp] ++ pnames (b :: l) := by unfold pnames; simp only [List.map_cons]; rw [commas_cons]; rfl
theorem names_back : ∀ (l : List Bs) (n : Bs) (f had most : Nat) (t r : List Tok), okns (n :: l) → l.length + 1 ≤ f → had + l.length + 1 ≤ most → sig t = sg (pnames (n :: l)) → tx r ≠ mComma → names f had most (t ++ r) = .ok (n :: l, r) := by
  intro l
  induction l with
  | nil =>
    intro n f had most t r h1 h2 h3 h4 h5
    obtain ⟨g, rfl⟩ : ∃ g, f = g + 1 := ⟨f - 1, by simp at h2; omega⟩
    have hn := h1 n (by simp)
    obtain ⟨n1, n2⟩ := okn_kd hn
    have e : pnames [n] = [n] := by simp [pnames, commas]
    rw [e, sg_one n2, n1] at h4
    obtain ⟨u, t', rfl, u1, u2, u3⟩ := sig_cons h4
    have et := sig_nil u3
    subst et
    simp at h3
    show names (g + 1) had most (u :: r) = _
    rw [names, if_neg (by omega), name_tok hn u1 u2]
    simp only [bind, Except.bind]
    rw [if_neg h5]
  | cons m l ih =>
    intro n f had most t r h1 h2 h3 h4 h5
    obtain ⟨g, rfl⟩ : ∃ g, f = g + 1 := ⟨f - 1, by simp at h2; omega⟩
    have hn := h1 n (by simp)
    obtain ⟨n1, n2⟩ := okn_kd hn
    rw [pnames_cons, sg_app, sg_cons n2, sg_cons (by decide), sg_blank (by decide), n1] at h4
    obtain ⟨t1, t2, rfl, h6, h7⟩ := sig_app h4
    obtain ⟨u, t', rfl, u1, u2, u3⟩ := sig_cons h6
    obtain ⟨c, t'', rfl, c1, c2, c3⟩ := sig_cons u3
    have et := sig_nil c3
    subst et
    have c1' : c.kind = 3 := c1
    simp at h2 h3
    have q := ih m g (had + 1) most t2 r (fun x hx => h1 x (by simp at hx ⊢; right; exact hx)) (by omega) (by omega) h7 h5
    show names (g + 1) had most (u :: c :: (t2 ++ r)) = _
    rw [names, if_neg (by omega), name_tok hn u1 u2]
    simp only [bind, Except.bind]
    rw [tx_tok, if_pos c2, stp_tok c _ (by omega), q]
theorem names_back' {l : List Bs} {f had most : Nat} {t r : List Tok} (hl : l ≠ []) (h1 : okns l) (h2 : l.length ≤ f) (h3 : had + l.length ≤ most) (h4 : sig t = sg (pnames l)) (h5 : tx r ≠ mComma) : names f had most (t ++ r) = .ok (l, r) := by
  cases l with
  | nil => exact absurd rfl hl
  | cons n l => exact names_back l n f had most t r h1 (by simpa using h2) (by simp at h3; omega) h4 h5
/- a star or none, ahead of r -/
theorem star_back {b : Bool} {t r : List Tok} (h : sig t = sg (star b)) (hr : tx r ≠ mStar) : (tx (t ++ r) == mStar) = b ∧ (if tx (t ++ r) = mStar then stp (t ++ r) else t ++ r) = r := by
  cases b with
  | true =>
    obtain ⟨u, t', rfl, u1, u2, u3⟩ := sig_hd (by decide) (show sig t = sg (mStar :: []) from h)
    have et : t' = [] := sig_nil (by rw [u3]; rfl)
    subst et
    have u1' : u.kind = 3 := u1
    have e : tx ([u] ++ r) = mStar := u2
    exact ⟨by rw [e]; simp, by rw [if_pos e]; exact stp_tok u r (by omega)⟩
  | false =>
    have et : t = [] := sig_nil (by rw [h]; rfl)
    subst et
    rw [List.nil_append]
    exact ⟨by simpa using hr, by rw [if_neg hr]⟩
theorem one_tok {b : Bs} {l : List Bs} {t : List Tok} (hb : isB b = false) (hl : sg l = []) (h : sig t = sg (b :: l)) : ∃ u, t = [u] ∧ u.kind = kd b ∧ u.text = b := by
  obtain ⟨u, t', rfl, u1, u2, u3⟩ := sig_hd hb h
  have et : t' = [] := sig_nil (by rw [u3, hl])
  subst et
  exact ⟨u, rfl, u1, u2⟩
theorem global_back {g : G} (hg : WG g) {t r : List Tok} (h : sig t = sg ([g.name] ++ star g.seen ++ [mColon, sp] ++ (if g.len = 0 then [wInt] else [wArray, sp, dec g.len]) ++ [mSemi, nl])) : ∃ g', global (t ++ r) = .ok (g', r) ∧ eG g' = eG g := by
  obtain ⟨n1, n2⟩ := okn_kd hg.n
  obtain ⟨t1, t2, rfl, h2, h3⟩ := sig_two h
  obtain ⟨t3, t4, rfl, h4, h5⟩ := sig_two h2
  obtain ⟨t5, t6, rfl, h6, h7⟩ := sig_two h4
  obtain ⟨t7, t8, rfl, h8, h9⟩ := sig_two h6
  obtain ⟨u, rfl, u1, u2⟩ := one_tok n2 rfl h8
  obtain ⟨c, rfl, c1, c2⟩ := one_tok (by decide) (by decide) h7
  obtain ⟨z, rfl, z1, z2⟩ := one_tok (by decide) (by decide) h3
  have c1' : c.kind = 3 := c1
  have z1' : z.kind = 3 := z1
  have e : (((([u] ++ t8) ++ [c]) ++ t4) ++ [z]) ++ r = u :: (t8 ++ (c :: (t4 ++ z :: r))) := by simp
  rw [e]
  obtain ⟨s1, s2⟩ := star_back (r := c :: (t4 ++ z :: r)) h9 (by rw [tx_tok, c2]; decide)
  unfold global
  rw [name_tok hg.n (by rw [u1, n1]) u2]
  simp only [bind, Except.bind]
  rw [s1, s2, want_tok (by omega) c2]
  simp only
  by_cases hl : g.len = 0
  · rw [if_pos hl] at h5
    obtain ⟨i, rfl, i1, i2⟩ := one_tok (by decide) rfl h5
    have i1' : i.kind = 1 := i1
    rw [show [i] ++ z :: r = i :: z :: r from rfl, tx_tok, if_pos i2, stp_tok i _ (by omega), want_tok (by omega) z2]
    exact ⟨_, rfl, by simp [eG, hl]⟩
  · rw [if_neg hl] at h5
    obtain ⟨d1, d2, d3⟩ := dec_all g.len
    obtain ⟨k1, k2⟩ := digit_kd d1 d2
    obtain ⟨a, ta, rfl, a1, a2, a3⟩ := sig_hd (by decide) h5
    rw [sg_blank (by decide)] at a3
    obtain ⟨v, rfl, v1, v2⟩ := one_tok k2 rfl a3
    have a1' : a.kind = 1 := a1
    have v1' : v.kind = 2 := by rw [v1, k1]
    rw [show (a :: [v]) ++ z :: r = a :: v :: z :: r from rfl, tx_tok, a2, if_neg (by decide), want_tok (by omega) a2]
    simp only
    have hnum : number 30 (v :: z :: r) = .ok (g.len, z :: r) := by
      have := hg.l
      unfold number
      rw [kind_tok, tx_tok, v2, d3, if_neg (by omega), if_neg (by omega), stp_tok v _ (by omega)]
    rw [hnum]
    simp only
    rw [if_neg hl, want_tok (by omega) z2]
    exact ⟨_, rfl, by simp [eG]⟩
theorem globals_back : ∀ (l : List G) (f had : Nat) (t r : List Tok), (∀ g, g ∈ l → WG g) → l.length + 1 ≤ f → had + l.length ≤ 10 → sig t = sg (l.map pg).flatten → tx r ≠ wVar → ∃ l', globals f had (t ++ r) = .ok (l', r) ∧ l'.map eG = l.map eG := by
  intro l
  induction l with
  | nil =>
    intro f had t r _ h2 h3 h4 h5
    obtain ⟨g, rfl⟩ : ∃ g, f = g + 1 := ⟨f - 1, by simp at h2; omega⟩
    have et : t = [] := sig_nil (by rw [h4]; rfl)
    subst et
    exact ⟨[], by rw [List.nil_append, globals, if_neg h5], rfl⟩
  | cons g l ih =>
    intro f had t r h1 h2 h3 h4 h5
    obtain ⟨f, rfl⟩ : ∃ g, f = g + 1 := ⟨f - 1, by simp at h2; omega⟩
    simp at h2 h3
    have e : ((g :: l).map pg).flatten = (wVar :: sp :: ([g.name] ++ star g.seen ++ [mColon, sp] ++ (if g.len = 0 then [wInt] else [wArray, sp, dec g.len]) ++ [mSemi, nl])) ++ (l.map pg).flatten := by simp [pg]
    rw [e] at h4
    obtain ⟨t1, t2, rfl, h6, h7⟩ := sig_two h4
    obtain ⟨u, t3, rfl, u1, u2, u3⟩ := sig_hd (by decide) h6
    rw [sg_blank (by decide)] at u3
    have u1' : u.kind = 1 := u1
    obtain ⟨g', q1, q2⟩ := global_back (h1 g (by simp)) (r := t2 ++ r) u3
    obtain ⟨l', q3, q4⟩ := ih f (had + 1) t2 r (fun x hx => h1 x (by simp [hx])) (by omega) (by omega) h7 h5
    refine ⟨g' :: l', ?_, by simp [q2, q4]⟩
    show globals (f + 1) had (u :: (t3 ++ t2) ++ r) = _
    rw [show u :: (t3 ++ t2) ++ r = u :: (t3 ++ (t2 ++ r)) by simp, globals, tx_tok, if_pos u2, if_neg (by omega), stp_tok u _ (by omega), q1]
    simp only [bind, Except.bind]
    rw [q3]
theorem body_back {b : Nat} {l : List S} (hb : b ≤ 10) (hw : WS l) (hd : b + DS l ≤ 10) {d : Nat} {t r : List Tok} (h : sig t = sg (psts l d)) (he : tx r = wEnd) : ∃ l' f, eS l' = eS l ∧ sx f 0 b (t ++ r) = .ok (l', r) :=
  K1.block hb (k1_all _ l b (Nat.le_refl _) hw hd) d t r h (Or.inl he)
theorem proc_back {p : Pr} (hp : WP p) {t r : List Tok} (h : sig t = sg (pp p)) : ∃ f p', (∀ g, f ≤ g → proc g (t ++ r) = .ok (p', r)) ∧ eP p' = eP p ∧ tx (t ++ r) = wProc := by
  obtain ⟨n1, n2⟩ := okn_kd hp.n
  unfold pp at h
  obtain ⟨t1, te, rfl, h1, he⟩ := sig_two h
  obtain ⟨t2, tb, rfl, h2, hb⟩ := sig_two h1
  obtain ⟨t3, tg, rfl, h3, hg⟩ := sig_two h2
  obtain ⟨t4, tv, rfl, h4, hv⟩ := sig_two h3
  obtain ⟨t5, tc, rfl, h5, hc⟩ := sig_two h4
  obtain ⟨t6, tp, rfl, h6, hps⟩ := sig_two h5
  obtain ⟨t7, tl, rfl, h7, hlp⟩ := sig_two h6
  obtain ⟨t8, ts, rfl, h8, hst⟩ := sig_two h7
  obtain ⟨u, a1, rfl, u1, u2, u3⟩ := sig_hd (by decide) h8
  rw [sg_blank (by decide)] at u3
  obtain ⟨v, rfl, v1, v2⟩ := one_tok n2 rfl u3
  obtain ⟨lp, rfl, lp1, lp2⟩ := one_tok (by decide) rfl hlp
  obtain ⟨rp, a2, rfl, rp1, rp2, rp3⟩ := sig_hd (by decide) hc
  obtain ⟨sm, rfl, sm1, sm2⟩ := one_tok (by decide) (by decide) rp3
  obtain ⟨bg, rfl, bg1, bg2⟩ := one_tok (by decide) (by decide) hg
  obtain ⟨ed, a3, rfl, ed1, ed2, ed3⟩ := sig_hd (by decide) he
  obtain ⟨sz, rfl, sz1, sz2⟩ := one_tok (by decide) (by decide) ed3
  have u1' : u.kind = 1 := u1
  have lp1' : lp.kind = 3 := lp1
  have rp1' : rp.kind = 3 := rp1
  have sm1' : sm.kind = 3 := sm1
  have bg1' : bg.kind = 1 := bg1
  have ed1' : ed.kind = 1 := ed1
  have sz1' : sz.kind = 3 := sz1
  have e : (((((((((u :: [v]) ++ ts) ++ [lp]) ++ tp) ++ (rp :: [sm])) ++ tv) ++ [bg]) ++ tb) ++ (ed :: [sz])) ++ r = u :: v :: (ts ++ (lp :: (tp ++ (rp :: sm :: (tv ++ (bg :: (tb ++ (ed :: sz :: r)))))))) := by simp
  rw [e]
  obtain ⟨b', f, q1, q2⟩ := body_back (b := 0) (by omega) hp.b (by have := hp.d; omega) hb (r := ed :: sz :: r) ed2
  refine ⟨f, ⟨p.name, at' (u :: v :: (ts ++ (lp :: (tp ++ (rp :: sm :: (tv ++ (bg :: (tb ++ (ed :: sz :: r))))))))), p.seen, p.params, p.vars, b'⟩, fun g hfg => ?_, by simp [eP, q1], u2⟩
  obtain ⟨s1, s2⟩ := star_back (r := lp :: (tp ++ (rp :: sm :: (tv ++ (bg :: (tb ++ (ed :: sz :: r))))))) hst (by rw [tx_tok, lp2]; decide)
  unfold proc
  rw [want_tok (by omega) u2]
  simp only [bind, Except.bind]
  rw [name_tok hp.n (by rw [v1, n1]) v2]
  simp only
  rw [s1, s2, want_tok (by omega) lp2]
  simp only
  have hpar : (if tx (tp ++ (rp :: sm :: (tv ++ (bg :: (tb ++ (ed :: sz :: r)))))) = mRp then .ok ([], tp ++ (rp :: sm :: (tv ++ (bg :: (tb ++ (ed :: sz :: r)))))) else names 11 0 10 (tp ++ (rp :: sm :: (tv ++ (bg :: (tb ++ (ed :: sz :: r)))))) : Except Er ((List Bs) × List Tok)) = .ok (p.params, rp :: sm :: (tv ++ (bg :: (tb ++ (ed :: sz :: r))))) := by
    by_cases hn : p.params = []
    · rw [hn] at hps ⊢
      have et : tp = [] := sig_nil (by rw [hps]; rfl)
      subst et
      rw [List.nil_append, tx_tok, if_pos rp2]
    · have hc := hp.c
      have hnb := names_back' (f := 11) (had := 0) (most := 10) (t := tp) (r := rp :: sm :: (tv ++ (bg :: (tb ++ (ed :: sz :: r))))) hn hp.ps (by omega) (by omega) hps (by rw [tx_tok, rp2]; decide)
      rw [if_neg ?_, hnb]
      cases hpp : p.params with
      | nil => exact absurd hpp hn
      | cons x l =>
        have hx := hp.ps x (by rw [hpp]; simp)
        obtain ⟨x1, x2⟩ := okn_kd hx
        have : ∃ q, pnames p.params = x :: q := by
          rw [hpp]
          cases l with
          | nil => exact ⟨[], by simp [pnames, commas]⟩
          | cons y l => exact ⟨_, pnames_cons x y l⟩
        obtain ⟨q, hq⟩ := this
        rw [hq] at hps
        obtain ⟨w, a4, rfl, w1, w2, _⟩ := sig_hd x2 hps
        rw [List.cons_append, tx_tok, w2]
        intro ex
        subst ex
        revert x1; decide
  rw [hpar]
  simp only
  rw [want_tok (by omega) rp2]
  simp only
  rw [want_tok (by omega) sm2]
  simp only
  have hvar : (if tx (tv ++ (bg :: (tb ++ (ed :: sz :: r)))) = wVar then do
      let (vs, r8) ← names 11 p.params.length 10 (stp (tv ++ (bg :: (tb ++ (ed :: sz :: r)))))
      let r9 ← want mSemi r8
      .ok (vs, r9)
    else .ok ([], tv ++ (bg :: (tb ++ (ed :: sz :: r)))) : Except Er ((List Bs) × List Tok)) = .ok (p.vars, bg :: (tb ++ (ed :: sz :: r))) := by
    by_cases hn : p.vars = []
    · rw [if_pos hn] at hv
      have et : tv = [] := sig_nil (by rw [hv]; rfl)
      subst et
      rw [List.nil_append, tx_tok, bg2, if_neg (by decide), hn]
    · rw [if_neg hn] at hv
      obtain ⟨b1, b2, rfl, i1, i2⟩ := sig_two hv
      obtain ⟨w, a4, rfl, w1, w2, w3⟩ := sig_hd (by decide) (show sig b1 = sg (wVar :: (sp :: pnames p.vars)) from i1)
      rw [sg_blank (by decide)] at w3
      obtain ⟨y, rfl, y1, y2⟩ := one_tok (by decide) (by decide) i2
      have w1' : w.kind = 1 := w1
      have y1' : y.kind = 3 := y1
      have hc := hp.c
      have hnb := names_back' (f := 11) (had := p.params.length) (most := 10) (t := a4) (r := y :: bg :: (tb ++ (ed :: sz :: r))) hn hp.vs (by omega) (by omega) w3 (by rw [tx_tok, y2]; decide)
      rw [show ((w :: a4) ++ [y]) ++ (bg :: (tb ++ (ed :: sz :: r))) = w :: (a4 ++ (y :: bg :: (tb ++ (ed :: sz :: r)))) by simp, tx_tok, if_pos w2, stp_tok w _ (by omega), hnb]
      simp only [bind, Except.bind]
      rw [want_tok (by omega) y2]
  simp only [bind, Except.bind] at hvar
  rw [hvar]
  simp only
  rw [want_tok (by omega) bg2]
  simp only
  rw [sx_up (ok_ne _) q2 hfg]
  simp only
  rw [want_tok (by omega) ed2]
  simp only
  rw [want_tok (by omega) sz2]
theorem procs_back : ∀ (l : List Pr) (f had : Nat) (t r : List Tok), (∀ p, p ∈ l → WP p) → l.length + 1 ≤ f → had + l.length ≤ 10 → sig t = sg (l.map pp).flatten → tx r ≠ wProc → ∃ F l', (∀ g, F ≤ g → procs f g had (t ++ r) = .ok (l', r)) ∧ l'.map eP = l.map eP ∧ (l = [] → t = []) ∧ (l ≠ [] → tx (t ++ r) = wProc) := by
  intro l
  induction l with
  | nil =>
    intro f had t r _ h2 h3 h4 h5
    obtain ⟨g, rfl⟩ : ∃ g, f = g + 1 := ⟨f - 1, by simp at h2; omega⟩
    have et : t = [] := sig_nil (by rw [h4]; rfl)
    subst et
    exact ⟨0, [], fun g _ => by rw [List.nil_append, procs, if_neg h5], rfl, fun _ => rfl, fun h => absurd rfl h⟩
  | cons p l ih =>
    intro f had t r h1 h2 h3 h4 h5
    obtain ⟨f, rfl⟩ : ∃ g, f = g + 1 := ⟨f - 1, by simp at h2; omega⟩
    simp at h2 h3
    rw [List.map_cons, List.flatten_cons] at h4
    obtain ⟨t1, t2, rfl, h6, h7⟩ := sig_two h4
    obtain ⟨F1, p', q1, q2, q3⟩ := proc_back (h1 p (by simp)) (r := t2 ++ r) h6
    obtain ⟨F2, l', q4, q5, _⟩ := ih f (had + 1) t2 r (fun x hx => h1 x (by simp [hx])) (by omega) (by omega) h7 h5
    refine ⟨max F1 F2, p' :: l', fun g hg => ?_, by simp [q2, q5], fun h => (by cases h), fun _ => (by rw [List.append_assoc]; exact q3)⟩
    rw [List.append_assoc, procs, if_pos q3, if_neg (by omega), q1 g (by omega)]
    simp only [bind, Except.bind]
    rw [q4 g (by omega)]
theorem module_back {m : M} (hm : WM m) {t : List Tok} {z : Tok} (hz : z.kind = 0) (h : sig t = sg (pm m)) : ∃ f m', module f (t ++ [z]) = .ok m' ∧ Same m m' := by
  obtain ⟨n1, n2⟩ := okn_kd hm.n
  unfold pm at h
  obtain ⟨t1, te, rfl, h1, he⟩ := sig_two h
  obtain ⟨t2, tb, rfl, h2, hb⟩ := sig_two h1
  obtain ⟨t3, tg, rfl, h3, hg⟩ := sig_two h2
  obtain ⟨t4, tp, rfl, h4, hp⟩ := sig_two h3
  obtain ⟨t5, tv, rfl, h5, hv⟩ := sig_two h4
  obtain ⟨t6, ti, rfl, h6, hi⟩ := sig_two h5
  obtain ⟨u, a1, rfl, u1, u2, u3⟩ := sig_hd (by decide) h6
  rw [sg_blank (by decide)] at u3
  obtain ⟨v, a2, rfl, v1, v2, v3⟩ := sig_hd n2 u3
  obtain ⟨sm, rfl, sm1, sm2⟩ := one_tok (by decide) (by decide) v3
  obtain ⟨bg, rfl, bg1, bg2⟩ := one_tok (by decide) (by decide) hg
  obtain ⟨ed, a3, rfl, ed1, ed2, ed3⟩ := sig_hd (by decide) he
  obtain ⟨dt, rfl, dt1, dt2⟩ := one_tok (by decide) (by decide) ed3
  have u1' : u.kind = 1 := u1
  have sm1' : sm.kind = 3 := sm1
  have bg1' : bg.kind = 1 := bg1
  have ed1' : ed.kind = 1 := ed1
  have dt1' : dt.kind = 3 := dt1
  have e : ((((((((u :: v :: [sm]) ++ ti) ++ tv) ++ tp) ++ [bg]) ++ tb) ++ (ed :: [dt])) ++ [z]) = u :: v :: sm :: (ti ++ (tv ++ (tp ++ (bg :: (tb ++ (ed :: dt :: [z])))))) := by simp
  rw [e]
  obtain ⟨b', f, q1, q2⟩ := body_back (b := 0) (by omega) hm.b (by have := hm.d; omega) hb (r := ed :: dt :: [z]) ed2
  have hgc := hm.gc
  have hpc := hm.pc
  have hic := hm.ic
  obtain ⟨F, ps', q3, q4, q5, q6⟩ := procs_back m.procs 12 0 tp (bg :: (tb ++ (ed :: dt :: [z]))) hm.p (by omega) (by omega) hp (by rw [tx_tok, bg2]; decide)
  have hpt : tx (tp ++ (bg :: (tb ++ (ed :: dt :: [z])))) = wProc ∨ tx (tp ++ (bg :: (tb ++ (ed :: dt :: [z])))) = wBegin := by
    by_cases hn : m.procs = []
    · rw [q5 hn]; exact Or.inr bg2
    · exact Or.inl (q6 hn)
  obtain ⟨gs', q7, q8⟩ := globals_back m.vars 12 0 tv (tp ++ (bg :: (tb ++ (ed :: dt :: [z])))) hm.g (by omega) (by omega) hv (by rcases hpt with e | e <;> rw [e] <;> decide)
  refine ⟨max f F, ⟨m.name, m.imports, gs', ps', b'⟩, ?_, ⟨rfl, rfl, q8, q4, q1⟩⟩
  unfold module
  rw [want_tok (by omega) u2]
  simp only [bind, Except.bind]
  rw [name_tok hm.n (by rw [v1, n1]) v2]
  simp only
  rw [want_tok (by omega) sm2]
  simp only
  have hvt : tx (tv ++ (tp ++ (bg :: (tb ++ (ed :: dt :: [z]))))) ≠ wImport := by
    cases hv' : m.vars with
    | nil =>
      rw [hv'] at hv
      have et : tv = [] := sig_nil (by rw [hv]; rfl)
      subst et
      rw [List.nil_append]
      rcases hpt with e | e <;> rw [e] <;> decide
    | cons g l =>
      rw [hv'] at hv
      have e : ((g :: l).map pg).flatten = wVar :: (sp :: ([g.name] ++ star g.seen ++ [mColon, sp] ++ (if g.len = 0 then [wInt] else [wArray, sp, dec g.len]) ++ [mSemi, nl]) ++ (l.map pg).flatten) := by simp [pg]
      rw [e] at hv
      obtain ⟨w, a4, rfl, w1, w2, _⟩ := sig_hd (by decide) hv
      rw [List.cons_append, tx_tok, w2]; decide
  have himp : (if tx (ti ++ (tv ++ (tp ++ (bg :: (tb ++ (ed :: dt :: [z])))))) = wImport then do
      let (is, r4) ← names 7 0 6 (stp (ti ++ (tv ++ (tp ++ (bg :: (tb ++ (ed :: dt :: [z])))))))
      let r5 ← want mSemi r4
      .ok (is, r5)
    else .ok ([], ti ++ (tv ++ (tp ++ (bg :: (tb ++ (ed :: dt :: [z])))))) : Except Er ((List Bs) × List Tok)) = .ok (m.imports, tv ++ (tp ++ (bg :: (tb ++ (ed :: dt :: [z]))))) := by
    by_cases hn : m.imports = []
    · rw [if_pos hn] at hi
      have et : ti = [] := sig_nil (by rw [hi]; rfl)
      subst et
      rw [List.nil_append, if_neg hvt, hn]
    · rw [if_neg hn] at hi
      obtain ⟨b1, b2, rfl, i1, i2⟩ := sig_two hi
      obtain ⟨w, a4, rfl, w1, w2, w3⟩ := sig_hd (by decide) (show sig b1 = sg (wImport :: (sp :: pnames m.imports)) from i1)
      rw [sg_blank (by decide)] at w3
      obtain ⟨y, rfl, y1, y2⟩ := one_tok (by decide) (by decide) i2
      have w1' : w.kind = 1 := w1
      have y1' : y.kind = 3 := y1
      have hnb := names_back' (f := 7) (had := 0) (most := 6) (t := a4) (r := y :: (tv ++ (tp ++ (bg :: (tb ++ (ed :: dt :: [z])))))) hn hm.i (by omega) (by omega) w3 (by rw [tx_tok, y2]; decide)
      rw [show ((w :: a4) ++ [y]) ++ (tv ++ (tp ++ (bg :: (tb ++ (ed :: dt :: [z]))))) = w :: (a4 ++ (y :: (tv ++ (tp ++ (bg :: (tb ++ (ed :: dt :: [z]))))))) by simp, tx_tok, if_pos w2, stp_tok w _ (by omega), hnb]
      simp only [bind, Except.bind]
      rw [want_tok (by omega) y2]
  simp only [bind, Except.bind] at himp
  rw [himp]
  simp only
  rw [q7]
  simp only
  rw [q3 (max f F) (by omega)]
  simp only
  rw [want_tok (by omega) bg2]
  simp only
  rw [sx_up (ok_ne _) q2 (show f ≤ max f F by omega)]
  simp only
  rw [want_tok (by omega) ed2]
  simp only
  rw [want_tok (by omega) dt2]
  simp only
  rw [if_pos (show (hd [z]).kind = 0 from hz)]
theorem proc_le {f g : Nat} (h : f ≤ g) (r : List Tok) : Le (proc f r) (proc g r) := by
  unfold proc
  refine Le.bind (Le.refl _) fun v => Le.bind (Le.refl _) fun v => Le.bind (Le.refl _) fun v => Le.bind (Le.refl _) fun v => Le.bind (Le.refl _) fun v => Le.bind (Le.refl _) fun v => Le.bind (Le.refl _) fun v => Le.bind (Le.refl _) fun v => ?_
  exact Le.bind (sx_le h _ _ _) fun v => Le.refl _
theorem procs_le {f g : Nat} (h : f ≤ g) : ∀ (k had : Nat) (r : List Tok), Le (procs k f had r) (procs k g had r) := by
  intro k
  induction k with
  | zero => intro had r; exact Le.refl _
  | succ k ih =>
    intro had r
    rw [procs, procs]
    exact Le.ite (Le.ite (Le.refl _) (Le.bind (proc_le h r) fun v => Le.bind (ih _ _) fun v => Le.refl _)) (Le.refl _)
theorem module_le {f g : Nat} (h : f ≤ g) (r : List Tok) : Le (module f r) (module g r) := by
  unfold module
  refine Le.bind (Le.refl _) fun v => Le.bind (Le.refl _) fun v => Le.bind (Le.refl _) fun v => Le.bind (Le.refl _) fun v => Le.bind (Le.refl _) fun v => Le.bind (procs_le h _ _ _) fun v => Le.bind (Le.refl _) fun v => Le.bind (sx_le h _ _ _) fun v => Le.refl _
/- with as much fuel as there are tokens -/
theorem module_same {m : M} (hm : WM m) {t : List Tok} {z : Tok} (hz : z.kind = 0) (hg : Gd (t ++ [z])) (h : sig t = sg (pm m)) {F : Nat} (hF : 10 * (t ++ [z]).length + 6 ≤ F) : ∃ m', module F (t ++ [z]) = .ok m' ∧ Same m m' := by
  obtain ⟨f, m', h1, h2⟩ := module_back hm hz h
  refine ⟨m', ?_, h2⟩
  have a := (module_le (show f ≤ max f F by omega) (t ++ [z])).eq h1 (ok_ne _)
  have b := (module_le (show F ≤ max f F by omega) (t ++ [z])).eq rfl (module_ne hg hF)
  rw [← b, a]
end Tp
/- The tokens of what is written. -/
namespace Tp
def tkp (q : Bs) : Prop := (kd q = 1 ∧ ∀ d, d ∈ q → ld d = true) ∨ (kd q = 2 ∧ ∀ d, d ∈ q → digit d = true) ∨ (kd q = 3 ∧ q ∈ marks)
def bl (q : Bs) : Prop := q ≠ [] ∧ ∀ c, c ∈ q → blank c = true
def chk : Nat → List Bs → Prop
  | _, [] => True
  | p, q :: qs => if isB q then bl q ∧ chk 0 qs else tkp q ∧ (kd q ≠ 3 → p ≠ 1) ∧ (q = mEq → p ≠ 2) ∧ chk (if kd q = 3 then 2 else 1) qs
theorem chk_word {p : Nat} {q : Bs} {r : List Bs} (hb : isB q = false) (ht : tkp q) (hk : kd q ≠ 3) (hp : p ≠ 1) (h : chk 1 r) : chk p (q :: r) := by
  rw [chk, if_neg (by rw [hb]; decide)]
  refine ⟨ht, fun _ => hp, fun e => absurd (by rw [e]; decide) hk, ?_⟩
  rw [if_neg hk]; exact h
theorem chk_mark {p : Nat} {q : Bs} {r : List Bs} (hm : q ∈ marks) (hq : q ≠ mEq) (h : chk 2 r) : chk p (q :: r) := by
  have : ∀ q : Bs, q ∈ marks → isB q = false ∧ kd q = 3 := by decide
  obtain ⟨a, b⟩ := this q hm
  rw [chk, if_neg (by rw [a]; decide)]
  refine ⟨Or.inr (Or.inr ⟨b, hm⟩), fun e => absurd b e, fun e => absurd e hq, ?_⟩
  rw [if_pos b]; exact h
theorem chk_eq {q : Bs} {r : List Bs} (hm : q ∈ marks) (h : chk 2 r) : chk 0 (q :: r) := by
  have : ∀ q : Bs, q ∈ marks → isB q = false ∧ kd q = 3 := by decide
  obtain ⟨a, b⟩ := this q hm
  rw [chk, if_neg (by rw [a]; decide)]
  refine ⟨Or.inr (Or.inr ⟨b, hm⟩), fun e => absurd b e, fun _ => by decide, ?_⟩
  rw [if_pos b]; exact h
theorem chk_bl {p : Nat} {q : Bs} {r : List Bs} (hb : isB q = true) (h1 : bl q) (h : chk 0 r) : chk p (q :: r) := by
  rw [chk, if_pos hb]; exact ⟨h1, h⟩
theorem bl_sp : bl sp := ⟨by decide, by decide⟩
theorem bl_nl : bl nl := ⟨by decide, by decide⟩
theorem chk_sp {p : Nat} {r : List Bs} (h : chk 0 r) : chk p (sp :: r) := chk_bl rfl bl_sp h
theorem chk_nl {p : Nat} {r : List Bs} (h : chk 0 r) : chk p (nl :: r) := chk_bl rfl bl_nl h
theorem chk_tab {r : List Bs} (h : chk 0 r) : ∀ d, chk 0 (tab d ++ r) := by
  intro d
  induction d with
  | zero => exact h
  | succ d ih => unfold tab at ih ⊢; rw [List.replicate_succ, List.cons_append]; exact chk_bl rfl ⟨by decide, by decide⟩ ih
theorem kept_word : ∀ w : Bs, w ∈ kept → isB w = false ∧ tkp w ∧ kd w ≠ 3 := by
  intro w hw
  have h : ∀ w : Bs, w ∈ kept → isB w = false ∧ (kd w = 1 ∧ ∀ d, d ∈ w → ld d = true) := by decide
  obtain ⟨a, b⟩ := h w hw
  exact ⟨a, Or.inl b, by rw [b.1]; decide⟩
theorem chk_kept {p : Nat} {w : Bs} {r : List Bs} (hw : w ∈ kept) (hp : p ≠ 1) (h : chk 1 r) : chk p (w :: r) := by
  obtain ⟨a, b, c⟩ := kept_word w hw
  exact chk_word a b c hp h
theorem chk_name {p : Nat} {n : Bs} {r : List Bs} (hn : okn n) (hp : p ≠ 1) (h : chk 1 r) : chk p (n :: r) := by
  obtain ⟨a, b⟩ := okn_kd hn
  obtain ⟨⟨c, l, e, _, h2⟩, _⟩ := hn
  exact chk_word b (Or.inl ⟨a, h2⟩) (by rw [a]; decide) hp h
theorem chk_dec {p n : Nat} {r : List Bs} (hp : p ≠ 1) (h : chk 1 r) : chk p (dec n :: r) := by
  obtain ⟨a, b, _⟩ := dec_all n
  obtain ⟨c, d⟩ := digit_kd a b
  exact chk_word d (Or.inr (Or.inl ⟨c, a⟩)) (by rw [c]; decide) hp h
theorem chk_ref {p : Nat} {m n : Bs} {r : List Bs} (h : okr m n) (hp : p ≠ 1) (hr : chk 1 r) : chk p (ref m n ++ r) := by
  unfold ref
  split
  · exact chk_name h.2 hp hr
  · rename_i hm
    exact chk_name (h.1.resolve_left hm) hp (chk_mark (by decide) (by decide) (chk_name h.2 (by decide) hr))
theorem lvl_word {op : Bs} (h : lvl op < 5) : op ∈ marks ∨ op ∈ kept := by
  unfold lvl at h
  by_cases a1 : op = wOr
  · subst a1; decide
  by_cases a2 : op = wAnd
  · subst a2; decide
  rw [if_neg a1, if_neg a2] at h
  by_cases a3 : op = mEq ∨ op = mNe ∨ op = mLt ∨ op = mLe ∨ op = mGt ∨ op = mGe
  · rcases a3 with rfl | rfl | rfl | rfl | rfl | rfl <;> decide
  rw [if_neg a3] at h
  by_cases a4 : op = mPlus ∨ op = mMinus
  · rcases a4 with rfl | rfl <;> decide
  rw [if_neg a4] at h
  by_cases a5 : op = mStar ∨ op = wDiv ∨ op = wMod
  · rcases a5 with rfl | rfl | rfl <;> decide
  rw [if_neg a5] at h
  omega
theorem chk_op {p : Nat} {op : Bs} {r : List Bs} (h : lvl op < 5) (hr : chk 0 r) : chk p (sp :: op :: sp :: r) := by
  refine chk_sp ?_
  rcases lvl_word h with hm | hk
  · exact chk_eq hm (chk_sp hr)
  · exact chk_kept hk (by decide) (chk_sp hr)
def Cx (ps : List Bs) : Prop := ∀ p r, p ≠ 1 → chk 1 r → chk 2 r → chk p (ps ++ r)
theorem Cx.held {b : Bool} {ps : List Bs} (h : Cx ps) : Cx (held b ps) := by
  unfold Tp.held
  intro p r hp h1 h2
  split
  · rw [List.append_assoc, List.append_assoc]
    exact chk_mark (by decide) (by decide) (h 2 _ (by decide) (chk_mark (by decide) (by decide) h2) (chk_mark (by decide) (by decide) h2))
  · exact h p r hp h1 h2
def Nx (N : Nat) : Prop := ∀ x : X, SizeOf.sizeOf x ≤ N → WX [x] → Cx (pxs [x])
theorem Nx.args {N : Nat} (hN : Nx N) : ∀ (l : List X) (x : X), SizeOf.sizeOf (x :: l) ≤ N → WX (x :: l) → Cx (commas (px (x :: l))) := by
  intro l
  induction l with
  | nil => intro x hs hw; rw [px_cons, px, commas]; exact hN x (by simp at hs; omega) hw
  | cons y l ih =>
    intro x hs hw p r hp h1 h2
    have hx1 : WX [x] := by obtain ⟨⟩ := x; rw [WX] at hw ⊢; exact ⟨hw.1, WX_nil⟩
    have hx2 : WX (y :: l) := by obtain ⟨⟩ := x; rw [WX] at hw; exact hw.2
    rw [px_cons, px_cons, commas_cons, ← px_cons, List.append_assoc, List.append_assoc]
    have hc := chk_sp (p := 2) (ih y (by simp at hs ⊢; omega) hx2 0 r (by decide) h1 h2)
    exact hN x (by simp at hs; omega) hx1 p _ hp (chk_mark (by decide) (by decide) hc) (chk_mark (by decide) (by decide) hc)
theorem nx : ∀ N, Nx N := by
  intro N
  induction N with
  | zero => intro x h; obtain ⟨⟩ := x; simp at h
  | succ N ih =>
    intro x hs hw
    have s1 := sz_left x
    have s2 := sz_right x
    have s3 := sz_args x
    obtain ⟨code, pos, n, m, nm, op, le, ri, ar⟩ := x
    rw [WX] at hw
    simp only at s1 s2 s3
    rcases hw.1 with ⟨rfl, h1⟩ | ⟨rfl, h1⟩ | ⟨rfl, h1⟩ | ⟨rfl, h1⟩ | ⟨rfl, h1⟩ | ⟨rfl, h1⟩
    · rw [pxs_1]; exact fun p r hp a b => chk_dec hp a
    · rw [pxs_2]; exact fun p r hp a b => chk_ref h1.2.1 hp a
    · obtain ⟨_, h2, _, h3, h4, _⟩ := h1
      obtain ⟨y, rfl⟩ := len1 h4
      have z1 := sz1 y
      have hy := ih y (by omega) h3
      rw [pxs_3]
      intro p r hp a b
      rw [List.append_assoc, List.append_assoc, List.append_assoc]
      exact chk_ref h2 hp (chk_mark (by decide) (by decide) (hy 2 _ (by decide) (chk_mark (by decide) (by decide) b) (chk_mark (by decide) (by decide) b)))
    · obtain ⟨_, _, _, h2, h3, h4, _⟩ := h1
      obtain ⟨y, rfl⟩ := len1 h4
      have z1 := sz1 y
      have hy := (ih y (by omega) h3).held (b := isLow 5 [y])
      rw [pxs_4]
      intro p r hp a b
      rw [List.append_assoc, List.append_assoc]
      rcases h2 with rfl | rfl
      · rw [if_neg (by decide)]
        exact chk_mark (by decide) (by decide) (hy 2 r (by decide) a b)
      · rw [if_pos rfl]
        exact chk_kept (by decide) hp (chk_sp (hy 0 r (by decide) a b))
    · obtain ⟨_, _, _, h2, h3, h4, h5, h6, _⟩ := h1
      obtain ⟨y, rfl⟩ := len1 h4
      obtain ⟨z, rfl⟩ := len1 h6
      have z1 := sz1 y
      have z2 := sz1 z
      have hy := (ih y (by omega) h3).held (b := isLow (lvl op) [y])
      have hz := (ih z (by omega) h5).held (b := isLow (lvl op + 1) [z])
      rw [pxs_5]
      intro p r hp a b
      rw [List.append_assoc, List.append_assoc]
      exact hy p _ hp (chk_op h2 (hz 0 r (by decide) a b)) (chk_op h2 (hz 0 r (by decide) a b))
    · obtain ⟨_, h2, _, _, _, h3⟩ := h1
      rw [pxs_6]
      intro p r hp a b
      rw [List.append_assoc, List.append_assoc, List.append_assoc]
      refine chk_ref h2 hp (chk_mark (by decide) (by decide) ?_)
      cases ar with
      | nil => rw [px, commas]; exact chk_mark (by decide) (by decide) b
      | cons y l => exact Nx.args ih l y (by omega) h3 2 _ (by decide) (chk_mark (by decide) (by decide) b) (chk_mark (by decide) (by decide) b)
theorem ev_C {v : List X} (h : ev v) : Cx (pxs v) := by
  obtain ⟨x, rfl⟩ := len1 h.2.1
  exact nx _ x (Nat.le_refl _) h.1
theorem chk_psts : ∀ (N : Nat) (l : List S) (d : Nat) (r : List Bs), SizeOf.sizeOf l ≤ N → WS l → chk 0 r → chk 0 (psts l d ++ r) := by
  intro N
  induction N with
  | zero => intro l d r h; cases l <;> simp at h <;> omega
  | succ N ih =>
    intro l d r hs hw hr
    cases l with
    | nil => simpa [psts, pst] using hr
    | cons s l =>
      have hl : chk 0 (psts l d ++ r) := ih l d r (by simp at hs; omega) (by obtain ⟨⟩ := s; rw [WS] at hw; exact hw.2) hr
      have hsz : SizeOf.sizeOf s.thn < SizeOf.sizeOf s ∧ SizeOf.sizeOf s.els < SizeOf.sizeOf s := by obtain ⟨⟩ := s; simp; omega
      have hss : SizeOf.sizeOf s ≤ N := by simp at hs; omega
      rw [psts_cons, List.append_assoc]
      generalize psts l d ++ r = r' at hl
      have hsemi : ∀ p, chk p ([mSemi, nl] ++ r') := fun p => chk_mark (by decide) (by decide) (chk_nl hl)
      obtain ⟨code, pos, nm, ix, v, th, el⟩ := s
      rw [WS] at hw
      simp only at hsz
      rcases hw.1 with ⟨rfl, h1⟩ | ⟨rfl, h1⟩ | ⟨rfl, h1⟩ | ⟨hc, h1⟩ | ⟨rfl, h1⟩
      · obtain ⟨a1, a2, a3, rfl, rfl⟩ := h1
        rw [ps1_1]
        simp only [List.append_assoc]
        refine chk_tab (chk_name a1 (by decide) ?_) d
        have hv : ∀ p, chk p ([sp, mSet, sp] ++ (pxs v ++ ([mSemi, nl] ++ r'))) := fun p => chk_sp (chk_mark (by decide) (by decide) (chk_sp (ev_C a3 0 _ (by decide) (hsemi 1) (hsemi 2))))
        rcases a2 with rfl | ⟨x1, x2, x3⟩
        · exact hv 1
        · obtain ⟨y, rfl⟩ := len1 x2
          rw [if_neg (by simp)]
          simp only [List.append_assoc]
          exact chk_mark (by decide) (by decide) (nx _ y (Nat.le_refl _) x1 2 _ (by decide) (chk_mark (by decide) (by decide) (hv 2)) (chk_mark (by decide) (by decide) (hv 2)))
      · obtain ⟨rfl, rfl, a3, a4, a5⟩ := h1
        rw [ps1_2]
        simp only [List.append_assoc]
        have hend : chk 0 (tab d ++ ([wEnd] ++ ([mSemi, nl] ++ r'))) := chk_tab (chk_kept (by decide) (by decide) (hsemi 1)) d
        have helse : chk 0 ((if el.isEmpty = true then [] else tab d ++ ([wElse, nl] ++ psts el (d + 1))) ++ (tab d ++ ([wEnd] ++ ([mSemi, nl] ++ r')))) := by
          split
          · exact hend
          · simp only [List.append_assoc]
            exact chk_tab (chk_kept (by decide) (by decide) (chk_nl (ih el (d + 1) _ (by omega) a5 hend))) d
        have hth := ih th (d + 1) _ (by omega) a4 helse
        have hthen : ∀ p, chk p ([sp, wThen, nl] ++ (psts th (d + 1) ++ ((if el.isEmpty = true then [] else tab d ++ ([wElse, nl] ++ psts el (d + 1))) ++ (tab d ++ ([wEnd] ++ ([mSemi, nl] ++ r')))))) := fun p => chk_sp (chk_kept (by decide) (by decide) (chk_nl hth))
        exact chk_tab (chk_kept (by decide) (by decide) (chk_sp (ev_C a3 0 _ (by decide) (hthen 1) (hthen 2)))) d
      · obtain ⟨rfl, rfl, a3, a4, rfl⟩ := h1
        rw [ps1_3]
        simp only [List.append_assoc]
        have hend : chk 0 (tab d ++ ([wEnd] ++ ([mSemi, nl] ++ r'))) := chk_tab (chk_kept (by decide) (by decide) (hsemi 1)) d
        have hth := ih th (d + 1) _ (by omega) a4 hend
        have hthen : ∀ p, chk p ([sp, wDo, nl] ++ (psts th (d + 1) ++ (tab d ++ ([wEnd] ++ ([mSemi, nl] ++ r'))))) := fun p => chk_sp (chk_kept (by decide) (by decide) (chk_nl hth))
        exact chk_tab (chk_kept (by decide) (by decide) (chk_sp (ev_C a3 0 _ (by decide) (hthen 1) (hthen 2)))) d
      · obtain ⟨rfl, rfl, a3, rfl, rfl⟩ := h1
        rcases hc with rfl | rfl
        · rw [ps1_4]
          simp only [List.append_assoc]
          exact chk_tab (chk_kept (by decide) (by decide) (chk_sp (ev_C a3 0 _ (by decide) (hsemi 1) (hsemi 2)))) d
        · rw [ps1_5]
          simp only [List.append_assoc]
          exact chk_tab (chk_kept (by decide) (by decide) (chk_sp (ev_C a3 0 _ (by decide) (hsemi 1) (hsemi 2)))) d
      · obtain ⟨rfl, rfl, a3, a4, rfl, rfl⟩ := h1
        rw [ps1_6]
        simp only [List.append_assoc]
        exact chk_tab (ev_C a3 0 _ (by decide) (hsemi 1) (hsemi 2)) d
theorem chk_names : ∀ (l : List Bs) (n : Bs) (p : Nat) (r : List Bs), okns (n :: l) → p ≠ 1 → chk 1 r → chk p (pnames (n :: l) ++ r) := by
  intro l
  induction l with
  | nil => intro n p r h hp hr; exact chk_name (h n (by simp)) hp hr
  | cons m l ih =>
    intro n p r h hp hr
    rw [pnames_cons, List.append_assoc]
    exact chk_name (h n (by simp)) hp (chk_mark (by decide) (by decide) (chk_sp (ih m 0 r (fun x hx => h x (by simp at hx ⊢; right; exact hx)) (by decide) hr)))
theorem chk_star {b : Bool} {p : Nat} {r : List Bs} (h1 : chk p r) (h2 : chk 2 r) : chk p (star b ++ r) := by
  cases b with
  | true => exact chk_mark (by decide) (by decide) h2
  | false => exact h1
theorem chk_pg {g : G} (h : WG g) {r : List Bs} (hr : chk 0 r) : chk 0 (pg g ++ r) := by
  unfold pg
  simp only [List.append_assoc]
  have hsemi : ∀ p, chk p ([mSemi, nl] ++ r) := fun p => chk_mark (by decide) (by decide) (chk_nl hr)
  have hrest : ∀ p, chk p ([mColon, sp] ++ ((if g.len = 0 then [wInt] else [wArray, sp, dec g.len]) ++ ([mSemi, nl] ++ r))) := fun p => by
    refine chk_mark (by decide) (by decide) (chk_sp ?_)
    split
    · exact chk_kept (by decide) (by decide) (hsemi 1)
    · exact chk_kept (by decide) (by decide) (chk_sp (chk_dec (by decide) (hsemi 1)))
  exact chk_kept (by decide) (by decide) (chk_sp (chk_name h.n (by decide) (chk_star (hrest 1) (hrest 2))))
theorem chk_pp {p : Pr} (h : WP p) {r : List Bs} (hr : chk 0 r) : chk 0 (pp p ++ r) := by
  unfold pp
  simp only [List.append_assoc]
  have hend : chk 0 ([wEnd, mSemi, nl] ++ r) := chk_kept (by decide) (by decide) (chk_mark (by decide) (by decide) (chk_nl hr))
  have hb : chk 0 ([wBegin, nl] ++ (psts p.body 1 ++ ([wEnd, mSemi, nl] ++ r))) := chk_kept (by decide) (by decide) (chk_nl (chk_psts _ p.body 1 _ (Nat.le_refl _) h.b hend))
  have hv : chk 0 ((if p.vars = [] then [] else [wVar, sp] ++ (pnames p.vars ++ [mSemi, nl])) ++ ([wBegin, nl] ++ (psts p.body 1 ++ ([wEnd, mSemi, nl] ++ r)))) := by
    split
    · exact hb
    · rename_i hn
      simp only [List.append_assoc]
      refine chk_kept (by decide) (by decide) (chk_sp ?_)
      cases hv : p.vars with
      | nil => exact absurd hv hn
      | cons n l => exact chk_names l n 0 _ (hv ▸ h.vs) (by decide) (chk_mark (by decide) (by decide) (chk_nl hb))
  have hps : chk 2 (pnames p.params ++ ([mRp, mSemi, nl] ++ ((if p.vars = [] then [] else [wVar, sp] ++ (pnames p.vars ++ [mSemi, nl])) ++ ([wBegin, nl] ++ (psts p.body 1 ++ ([wEnd, mSemi, nl] ++ r)))))) := by
    have hc : ∀ q, chk q ([mRp, mSemi, nl] ++ ((if p.vars = [] then [] else [wVar, sp] ++ (pnames p.vars ++ [mSemi, nl])) ++ ([wBegin, nl] ++ (psts p.body 1 ++ ([wEnd, mSemi, nl] ++ r))))) := fun q => chk_mark (by decide) (by decide) (chk_mark (by decide) (by decide) (chk_nl hv))
    cases hp : p.params with
    | nil => exact hc 2
    | cons n l => exact chk_names l n 2 _ (hp ▸ h.ps) (by decide) (hc 1)
  have hlp : ∀ q, chk q ([mLp] ++ (pnames p.params ++ ([mRp, mSemi, nl] ++ ((if p.vars = [] then [] else [wVar, sp] ++ (pnames p.vars ++ [mSemi, nl])) ++ ([wBegin, nl] ++ (psts p.body 1 ++ ([wEnd, mSemi, nl] ++ r))))))) := fun q => chk_mark (by decide) (by decide) hps
  exact chk_kept (by decide) (by decide) (chk_sp (chk_name h.n (by decide) (chk_star (hlp 1) (hlp 2))))
theorem chk_maps {α : Type} (f : α → List Bs) (P : α → Prop) (hf : ∀ a, P a → ∀ r, chk 0 r → chk 0 (f a ++ r)) : ∀ (l : List α) (r : List Bs), (∀ a, a ∈ l → P a) → chk 0 r → chk 0 ((l.map f).flatten ++ r) := by
  intro l
  induction l with
  | nil => intro r _ h; exact h
  | cons a l ih =>
    intro r h hr
    rw [List.map_cons, List.flatten_cons, List.append_assoc]
    exact hf a (h a (by simp)) _ (ih r (fun x hx => h x (by simp [hx])) hr)
theorem chk_pm {m : M} (h : WM m) : chk 0 (pm m) := by
  unfold pm
  simp only [List.append_assoc]
  have hend : chk 0 ([wEnd, mDot, nl]) := chk_kept (by decide) (by decide) (chk_mark (by decide) (by decide) (chk_nl (by rw [chk]; trivial)))
  have hb : chk 0 ([wBegin, nl] ++ (psts m.body 1 ++ [wEnd, mDot, nl])) := chk_kept (by decide) (by decide) (chk_nl (chk_psts _ m.body 1 _ (Nat.le_refl _) h.b hend))
  have hp := chk_maps pp WP (fun p hp r hr => chk_pp hp hr) m.procs _ h.p hb
  have hg := chk_maps pg WG (fun p hp r hr => chk_pg hp hr) m.vars _ h.g hp
  refine chk_kept (by decide) (by decide) (chk_sp (chk_name h.n (by decide) (chk_mark (by decide) (by decide) (chk_nl ?_))))
  split
  · exact hg
  · rename_i hn
    simp only [List.append_assoc]
    refine chk_kept (by decide) (by decide) (chk_sp ?_)
    cases hv : m.imports with
    | nil => exact absurd hv hn
    | cons n l => exact chk_names l n 0 _ (hv ▸ h.i) (by decide) (chk_mark (by decide) (by decide) (chk_nl hg))
end Tp
/- Scanning: what the tokens of a text are. -/
namespace Tp
theorem ld_first {c : UInt8} : (letter c = true → blank c = false ∧ ld c = true) ∧ (digit c = true → blank c = false ∧ letter c = false) := by
  refine ⟨fun h => ⟨?_, by simp [ld, h]⟩, fun h => ⟨?_, ?_⟩⟩
  · cases hb : blank c with
    | false => rfl
    | true => simp only [blank, Bool.or_eq_true, beq_iff_eq] at hb; rcases hb with rfl | rfl <;> revert h <;> decide
  · cases hb : blank c with
    | false => rfl
    | true => simp only [blank, Bool.or_eq_true, beq_iff_eq] at hb; rcases hb with rfl | rfl <;> revert h <;> decide
  · simp only [digit, letter, decide_eq_true_eq, decide_eq_false_iff_not] at h ⊢; omega
theorem takeWhile_app {p : UInt8 → Bool} : ∀ (q r : Bs), (∀ d, d ∈ q → p d = true) → (∀ c, r.head? = some c → p c = false) → (q ++ r).takeWhile p = q := by
  intro q
  induction q with
  | nil =>
    intro r _ h
    cases r with
    | nil => rfl
    | cons c l => simp [h c rfl]
  | cons d q ih =>
    intro r h1 h2
    rw [List.cons_append, List.takeWhile_cons, if_pos (h1 d (by simp)), ih r (fun x hx => h1 x (by simp [hx])) h2]
theorem kd1_first {q : Bs} (h : kd q = 1) : ∃ c l, q = c :: l ∧ letter c = true := by
  cases q with
  | nil => cases h
  | cons c l =>
    simp only [kd] at h
    refine ⟨c, l, rfl, ?_⟩
    split at h
    · assumption
    · split at h <;> omega
theorem kd2_first {q : Bs} (h : kd q = 2) : ∃ c l, q = c :: l ∧ letter c = false ∧ digit c = true := by
  cases q with
  | nil => cases h
  | cons c l =>
    simp only [kd] at h
    refine ⟨c, l, rfl, ?_⟩
    split at h
    · omega
    · rename_i h1
      split at h
      · rename_i h2; exact ⟨by simpa using h1, h2⟩
      · omega
theorem cut_mark {q r : Bs} (hq : q ∈ marks) (hr : r.head? ≠ some 61) : cut (q ++ r) = some (3, q.length) := by
  have hc : ∀ q : Bs, q ∈ marks → ∃ c l, q = c :: l ∧ letter c = false ∧ digit c = false := by
    intro q hq
    have : ∀ q : Bs, q ∈ marks → (match q with | c :: _ => !letter c && !digit c | [] => false) = true := by decide
    have := this q hq
    cases q with
    | nil => cases this
    | cons c l => simp at this; exact ⟨c, l, rfl, this⟩
  obtain ⟨c, l, e, h1, h2⟩ := hc q hq
  have h3 : marks.find? (fun m => m.isPrefixOf (q ++ r)) = some q := by
    have hne : ∀ d t, r = d :: t → (61 == d) = false := by
      intro d t e; subst e
      rw [beq_eq_false_iff_ne]; intro e; subst e; exact hr rfl
    simp only [marks, List.mem_cons, List.not_mem_nil, or_false] at hq
    rcases hq with rfl | rfl | rfl | rfl | rfl | rfl | rfl | rfl | rfl | rfl | rfl | rfl | rfl | rfl | rfl | rfl | rfl | rfl
    all_goals
      cases r with
      | nil => decide
      | cons d t =>
        have hd := hne d t rfl
        simp [marks, mSet, mLe, mGe, mNe, mEq, mLt, mGt, mPlus, mMinus, mStar, mLp, mRp, mLb, mRb, mComma, mSemi, mColon, mDot, List.find?, List.isPrefixOf, hd]
  subst e
  rw [List.cons_append] at h3 ⊢
  rw [cut, if_neg (by rw [h1]; decide), if_neg (by rw [h2]; decide), h3]
  rfl
theorem cut_tok {q r : Bs} (hq : tkp q) (h1 : kd q = 1 → ∀ c, r.head? = some c → ld c = false) (h2 : kd q = 2 → ∀ c, r.head? = some c → digit c = false) (h3 : kd q = 3 → r.head? ≠ some 61) : cut (q ++ r) = some (kd q, q.length) := by
  rcases hq with ⟨k, ha⟩ | ⟨k, ha⟩ | ⟨k, ha⟩
  · obtain ⟨c, l, e, hc⟩ := kd1_first k
    have ht := takeWhile_app q r ha (h1 k)
    rw [k]
    subst e
    rw [List.cons_append] at ht ⊢
    rw [cut, if_pos hc, ht]
  · obtain ⟨c, l, e, hc, hd⟩ := kd2_first k
    have ht := takeWhile_app q r ha (h2 k)
    rw [k]
    subst e
    rw [List.cons_append] at ht ⊢
    rw [cut, if_neg (by rw [hc]; decide), if_pos hd, ht]
  · rw [k]; exact cut_mark ha (h3 k)
theorem blank_first {c : UInt8} (h : blank c = true) : ld c = false ∧ digit c = false ∧ c ≠ 61 := by
  simp only [blank, Bool.or_eq_true, beq_iff_eq] at h
  rcases h with rfl | rfl <;> decide
theorem mark_first : ∀ q : Bs, q ∈ marks → ∃ c l, q = c :: l ∧ ld c = false ∧ digit c = false ∧ blank c = false ∧ (c = 61 → q = mEq) := by
  intro q hq
  have : ∀ q : Bs, q ∈ marks → (match q with | c :: _ => !ld c && (!digit c && (!blank c && decide (c = 61 → q = mEq))) | [] => false) = true := by decide
  have := this q hq
  cases q with
  | nil => cases this
  | cons c l =>
    rw [Bool.and_eq_true, Bool.and_eq_true, Bool.and_eq_true, decide_eq_true_eq] at this
    exact ⟨c, l, rfl, by simpa using this.1, by simpa using this.2.1, by simpa using this.2.2.1, this.2.2.2⟩
theorem chk_head {p : Nat} {qs : List Bs} (h : chk p qs) {c : UInt8} (hc : qs.flatten.head? = some c) : (p = 1 → ld c = false ∧ digit c = false) ∧ (p = 2 → c ≠ 61) := by
  cases qs with
  | nil => cases hc
  | cons q qs =>
    rw [chk] at h
    split at h
    · obtain ⟨⟨b1, b2⟩, _⟩ := h
      cases q with
      | nil => exact absurd rfl b1
      | cons d l =>
        simp at hc
        subst hc
        obtain ⟨a, b, e⟩ := blank_first (b2 d (by simp))
        exact ⟨fun _ => ⟨a, b⟩, fun _ => e⟩
    · rename_i hb
      obtain ⟨h1, h2, h3, _⟩ := h
      rcases h1 with ⟨k, ha⟩ | ⟨k, ha⟩ | ⟨k, ha⟩
      · obtain ⟨d, l, rfl, hd⟩ := kd1_first k
        simp at hc
        subst hc
        refine ⟨fun e => absurd e (h2 (by omega)), fun _ e => ?_⟩
        subst e; revert hd; decide
      · obtain ⟨d, l, rfl, _, hd⟩ := kd2_first k
        simp at hc
        subst hc
        refine ⟨fun e => absurd e (h2 (by omega)), fun _ e => ?_⟩
        subst e; revert hd; decide
      · obtain ⟨d, l, rfl, a1, a2, _, a3⟩ := mark_first q ha
        simp at hc
        subst hc
        exact ⟨fun _ => ⟨a1, a2⟩, fun e e2 => h3 (a3 e2) e⟩
theorem scan_bl : ∀ (q : Bs) (f cnt pos : Nat) (l : Bs), (∀ c, c ∈ q → blank c = true) → scan (f + q.length) cnt pos (q ++ l) = scan f cnt (pos + q.length) l := by
  intro q
  induction q with
  | nil => intro f cnt pos l _; rfl
  | cons c q ih =>
    intro f cnt pos l h
    rw [List.length_cons, show f + (q.length + 1) = (f + q.length) + 1 by omega, List.cons_append, scan, if_pos (h c (by simp)), ih f cnt (pos + 1) l (fun x hx => h x (by simp [hx]))]
    rw [show pos + 1 + q.length = pos + (q.length + 1) by omega]
theorem tkp_first {q : Bs} (h : tkp q) : ∃ c l, q = c :: l ∧ blank c = false := by
  rcases h with ⟨k, ha⟩ | ⟨k, ha⟩ | ⟨k, ha⟩
  · obtain ⟨d, l, rfl, hd⟩ := kd1_first k
    exact ⟨d, l, rfl, (ld_first.1 hd).1⟩
  · obtain ⟨d, l, rfl, _, hd⟩ := kd2_first k
    exact ⟨d, l, rfl, (ld_first.2 hd).1⟩
  · obtain ⟨d, l, rfl, _, _, hb, _⟩ := mark_first q ha
    exact ⟨d, l, rfl, hb⟩
theorem scan_chk : ∀ (qs : List Bs) (p f cnt pos : Nat), chk p qs → qs.flatten.length + 1 ≤ f → cnt + (sg qs).length ≤ 600 → ∃ t z, scan f cnt pos qs.flatten = .ok (t ++ [z]) ∧ sig t = sg qs ∧ z.kind = 0 ∧ z.text = [] := by
  intro qs
  induction qs with
  | nil =>
    intro p f cnt pos _ hf _
    obtain ⟨f, rfl⟩ : ∃ g, f = g + 1 := ⟨f - 1, by omega⟩
    exact ⟨[], ⟨0, pos, []⟩, by rw [List.flatten_nil, scan]; rfl, rfl, rfl, rfl⟩
  | cons q qs ih =>
    intro p f cnt pos hc hf hn
    rw [List.flatten_cons] at hf ⊢
    rw [List.length_append] at hf
    have hc' := hc
    rw [chk] at hc
    split at hc
    · rename_i hb
      obtain ⟨⟨b1, b2⟩, h2⟩ := hc
      obtain ⟨g, rfl⟩ : ∃ g, f = g + q.length := ⟨f - q.length, by omega⟩
      rw [sg_blank hb] at hn ⊢
      rw [scan_bl q g cnt pos qs.flatten b2]
      exact ih 0 g cnt _ h2 (by omega) hn
    · rename_i hb
      have hb' : isB q = false := by simpa using hb
      obtain ⟨h1, h2, h3, h4⟩ := hc
      obtain ⟨c, l, e, hcb⟩ := tkp_first h1
      have hcut : cut (q ++ qs.flatten) = some (kd q, q.length) := by
        refine cut_tok h1 (fun k c hc => ?_) (fun k c hc => ?_) (fun k hc => ?_)
        · rw [if_neg (by omega)] at h4; exact ((chk_head h4 hc).1 rfl).1
        · rw [if_neg (by omega)] at h4; exact ((chk_head h4 hc).1 rfl).2
        · rw [if_pos k] at h4; exact (chk_head h4 hc).2 rfl rfl
      obtain ⟨f, rfl⟩ : ∃ g, f = g + 1 := ⟨f - 1, by omega⟩
      have hl : 1 ≤ q.length := by rw [e]; simp
      rw [sg_cons hb'] at hn ⊢
      rw [List.length_cons] at hn
      obtain ⟨t, z, q1, q2, q3, q4⟩ := ih _ f (cnt + 1) (pos + q.length) h4 (by omega) (by omega)
      refine ⟨⟨kd q, pos, q⟩ :: t, z, ?_, by show (kd q, q) :: sig t = _; rw [q2], q3, q4⟩
      have e2 : q ++ qs.flatten = c :: (l ++ qs.flatten) := by rw [e]; rfl
      rw [e2] at hcut ⊢
      rw [scan, if_neg (by rw [hcb]; decide), hcut]
      simp only
      rw [if_neg (by omega), ← e2, List.drop_left, q1]
      simp only
      rw [List.take_left]
      rfl
end Tp
/- How many tokens; the same module is written the same; what was written is read. -/
namespace Tp
def sl (ps : List Bs) : Nat := (sg ps).length
theorem sl_app (a b : List Bs) : sl (a ++ b) = sl a + sl b := by simp [sl, sg_app]
theorem sl_cons (b : Bs) (l : List Bs) : sl (b :: l) ≤ 1 + sl l := by
  cases h : isB b with
  | true => unfold sl; rw [sg_blank h]; omega
  | false => unfold sl; rw [sg_cons h]; simp; omega
theorem sl_nil : sl [] = 0 := rfl
theorem sl_blank {b : Bs} {l : List Bs} (h : isB b = true) : sl (b :: l) = sl l := by unfold sl; rw [sg_blank h]
theorem sl_one (b : Bs) : sl [b] ≤ 1 := by have := sl_cons b []; rw [sl_nil] at this; exact this
theorem sl_ref (m n : Bs) : sl (ref m n) ≤ rN m := by
  unfold ref rN
  split
  · exact sl_one n
  · have := sl_cons m [mDot, n]
    have := sl_cons mDot [n]
    have := sl_one n
    omega
theorem sl_held {k : Nat} {l : List X} {ps : List Bs} : sl (held (isLow k l) ps) ≤ 2 * lowN k l + sl ps := by
  unfold held lowN
  split
  · rw [sl_app, sl_app]
    have := sl_one mLp
    have := sl_one mRp
    omega
  · omega
theorem pxs_cons (x : X) (l : List X) : pxs (x :: l) = pxs [x] ++ pxs l := by
  unfold pxs
  rw [px_cons, List.flatten_cons]
  unfold pxs
  rfl
theorem NX_cons (x : X) (l : List X) : NX (x :: l) = NX [x] + NX l := NX_app [x] l
theorem sl_commas : ∀ (l : List X) (x : X), (∀ y, y ∈ x :: l → sl (pxs [y]) ≤ NX [y]) → sl (commas (px (x :: l))) ≤ l.length + NX (x :: l) := by
  intro l
  induction l with
  | nil => intro x h; rw [px_cons, px, commas]; have := h x (by simp); simp; exact this
  | cons y l ih =>
    intro x h
    have h1 := ih y (fun z hz => h z (by simp at hz ⊢; right; exact hz))
    have h2 := h x (by simp)
    rw [px_cons, px_cons, commas_cons, ← px_cons, sl_app, sl_app, NX_cons]
    have h3 : sl [mComma, sp] ≤ 1 := by decide
    simp at h1 ⊢
    omega
theorem sl_px : ∀ (N : Nat) (l : List X), SizeOf.sizeOf l ≤ N → sl (pxs l) ≤ NX l := by
  intro N
  induction N with
  | zero => intro l h; cases l <;> simp at h <;> omega
  | succ N ih =>
    intro l hs
    cases l with
    | nil => simp [pxs, px, sl, sg]
    | cons x l =>
      have hl := ih l (by simp at hs; omega)
      rw [pxs_cons, NX_cons, sl_app]
      suffices hx : sl (pxs [x]) ≤ NX [x] by omega
      have s1 := sz_left x
      have s2 := sz_right x
      have s3 := sz_args x
      have s0 : SizeOf.sizeOf x ≤ N := by simp at hs; omega
      rw [NX1]
      obtain ⟨code, pos, n, m, nm, op, le, ri, ar⟩ := x
      simp only at s1 s2 s3 ⊢
      have hle := ih le (by omega)
      have hri := ih ri (by omega)
      match code with
      | 0 => simp [pxs, px, sl, sg]
      | 1 => rw [pxs_1]; simp; exact sl_one _
      | 2 => rw [pxs_2]; simp; exact sl_ref m nm
      | 3 =>
        rw [pxs_3, sl_app, sl_app, sl_app]
        have := sl_ref m nm
        have := sl_one mLb
        have := sl_one mRb
        simp; omega
      | 4 =>
        rw [pxs_4, sl_app, sl_app]
        have := sl_one op
        have : sl (if op = wNot then [sp] else []) = 0 := by split <;> rfl
        have := sl_held (k := 5) (l := le) (ps := pxs le)
        simp; omega
      | 5 =>
        rw [pxs_5, sl_app, sl_app]
        have := sl_held (k := lvl op) (l := le) (ps := pxs le)
        have := sl_held (k := lvl op + 1) (l := ri) (ps := pxs ri)
        have h0 : sl [sp, op, sp] ≤ 1 := by
          rw [sl_blank rfl]
          have := sl_cons op [sp]
          have e : sl [sp] = 0 := rfl
          omega
        simp; omega
      | 6 =>
        rw [pxs_6, sl_app, sl_app, sl_app]
        have := sl_ref m nm
        have := sl_one mLp
        have := sl_one mRp
        have : sl (commas (px ar)) ≤ (ar.length - 1) + NX ar := by
          cases ar with
          | nil => simp [px, commas, sl, sg]
          | cons y l =>
            have := sl_commas l y (fun z hz => ih [z] (by
              have : SizeOf.sizeOf z < SizeOf.sizeOf (y :: l) := List.sizeOf_lt_of_mem hz
              have e : SizeOf.sizeOf [z] = 1 + SizeOf.sizeOf z + 1 := by simp
              omega))
            simpa using this
        simp; omega
      | k + 7 => simp [pxs, px, sl, sg]
theorem sl_tab (d : Nat) : sl (tab d) = 0 := by unfold sl; rw [sg_tab]; rfl
theorem sl_x (l : List X) : sl (pxs l) ≤ NX l := sl_px _ l (Nat.le_refl _)
theorem NS_cons (x : S) (l : List S) : NS (x :: l) = NS [x] + NS l := NS_app [x] l
theorem sl_ps : ∀ (N : Nat) (l : List S) (d : Nat), SizeOf.sizeOf l ≤ N → WS l → sl (psts l d) ≤ NS l := by
  intro N
  induction N with
  | zero => intro l d h; cases l <;> simp at h <;> omega
  | succ N ih =>
    intro l d hs hw
    cases l with
    | nil => simp [psts, pst, sl, sg]
    | cons s l =>
      have hl := ih l d (by simp at hs; omega) (by obtain ⟨⟩ := s; rw [WS] at hw; exact hw.2)
      rw [psts_cons, NS_cons, sl_app]
      suffices hx : sl (ps1 s d) ≤ NS [s] by omega
      have hsz : SizeOf.sizeOf s.thn < SizeOf.sizeOf s ∧ SizeOf.sizeOf s.els < SizeOf.sizeOf s := by obtain ⟨⟩ := s; simp; omega
      have hss : SizeOf.sizeOf s ≤ N := by simp at hs; omega
      rw [NS1]
      obtain ⟨code, pos, nm, ix, v, th, el⟩ := s
      rw [WS] at hw
      simp only at hsz ⊢
      have hv := sl_x v
      have hi := sl_x ix
      have h0 := sl_tab d
      have hsm : sl [mSemi, nl] = 1 := rfl
      rcases hw.1 with ⟨rfl, h1⟩ | ⟨rfl, h1⟩ | ⟨rfl, h1⟩ | ⟨hc, h1⟩ | ⟨rfl, h1⟩
      · rw [ps1_1]
        simp only [sl_app]
        have := sl_one nm
        have e1 : sl [sp, mSet, sp] = 1 := rfl
        have e2 : sl (if ix.isEmpty = true then [] else [mLb] ++ pxs ix ++ [mRb]) ≤ if ix.isEmpty = true then 0 else 2 + NX ix := by
          split
          · exact Nat.le_refl _
          · rw [sl_app, sl_app]
            have := sl_one mLb
            have := sl_one mRb
            omega
        simp only [if_true]
        omega
      · obtain ⟨_, _, _, a4, a5⟩ := h1
        rw [ps1_2]
        simp only [sl_app]
        have ht := ih th (d + 1) (by omega) a4
        have he := ih el (d + 1) (by omega) a5
        have e1 : sl [wIf, sp] = 1 := rfl
        have e2 : sl [sp, wThen, nl] = 1 := rfl
        have e3 : sl [wEnd] = 1 := rfl
        have e4 : sl (if el.isEmpty = true then [] else tab d ++ [wElse, nl] ++ psts el (d + 1)) ≤ if el.isEmpty = true then 0 else 1 + NS el := by
          split
          · exact Nat.le_refl _
          · rw [sl_app, sl_app]
            have : sl [wElse, nl] = 1 := rfl
            omega
        simp only [show ¬ (2 = 1) by omega, if_false, if_true]
        omega
      · obtain ⟨_, _, _, a4, _⟩ := h1
        rw [ps1_3]
        simp only [sl_app]
        have ht := ih th (d + 1) (by omega) a4
        have e1 : sl [wWhile, sp] = 1 := rfl
        have e2 : sl [sp, wDo, nl] = 1 := rfl
        have e3 : sl [wEnd] = 1 := rfl
        simp only [show ¬ (3 = 1) by omega, show ¬ (3 = 2) by omega, if_false, if_true]
        omega
      · rcases hc with rfl | rfl
        · rw [ps1_4]
          simp only [sl_app]
          have e1 : sl [wReturn, sp] = 1 := rfl
          simp only [show ¬ (4 = 1) by omega, show ¬ (4 = 2) by omega, show ¬ (4 = 3) by omega, show ¬ (4 = 6) by omega, if_false]
          omega
        · rw [ps1_5]
          simp only [sl_app]
          have e1 : sl [wWrite, sp] = 1 := rfl
          simp only [show ¬ (5 = 1) by omega, show ¬ (5 = 2) by omega, show ¬ (5 = 3) by omega, show ¬ (5 = 6) by omega, if_false]
          omega
      · rw [ps1_6]
        simp only [sl_app]
        simp only [show ¬ (6 = 1) by omega, show ¬ (6 = 2) by omega, show ¬ (6 = 3) by omega, if_false, if_true]
        omega
theorem sl_names : ∀ (l : List Bs) (n : Bs), sl (pnames (n :: l)) ≤ 2 * l.length + 1 := by
  intro l
  induction l with
  | nil => intro n; exact sl_one n
  | cons m l ih =>
    intro n
    have := ih m
    rw [pnames_cons, sl_app]
    have := sl_cons n [mComma, sp]
    have e : sl [mComma, sp] = 1 := rfl
    simp; omega
theorem sl_nN (l : List Bs) : sl (pnames l) ≤ nN l := by
  cases l with
  | nil => simp [pnames, commas, sl, sg]
  | cons n l => have := sl_names l n; unfold nN; simp; omega
theorem sl_star (b : Bool) : sl (star b) = b2 b := by cases b <;> rfl
theorem sl_pg (g : G) : sl (pg g) ≤ nG g := by
  unfold pg nG
  simp only [sl_app]
  have e0 : sl [wVar, sp, g.name] ≤ 2 := by
    have := sl_cons wVar [sp, g.name]
    rw [sl_blank (b := sp) rfl] at this
    have := sl_one g.name
    omega
  have e1 : sl [mColon, sp] = 1 := rfl
  have e2 : sl [mSemi, nl] = 1 := rfl
  have e3 : sl (if g.len = 0 then [wInt] else [wArray, sp, dec g.len]) ≤ if g.len = 0 then 1 else 2 := by
    split
    · exact sl_one _
    · have := sl_cons wArray [sp, dec g.len]
      rw [sl_blank (b := sp) rfl] at this
      have := sl_one (dec g.len)
      omega
  rw [sl_star]
  omega
theorem sl_pp {p : Pr} (h : WP p) : sl (pp p) ≤ nP p := by
  unfold pp nP
  simp only [sl_app]
  have e0 : sl [wProc, sp, p.name] ≤ 2 := by
    have := sl_cons wProc [sp, p.name]
    rw [sl_blank (b := sp) rfl] at this
    have := sl_one p.name
    omega
  have e1 : sl [mLp] = 1 := rfl
  have e2 : sl [mRp, mSemi, nl] = 2 := rfl
  have e3 : sl [wBegin, nl] = 1 := rfl
  have e4 : sl [wEnd, mSemi, nl] = 2 := rfl
  have e5 := sl_nN p.params
  have e6 : sl (if p.vars = [] then [] else [wVar, sp] ++ pnames p.vars ++ [mSemi, nl]) ≤ if p.vars = [] then 0 else 2 + nN p.vars := by
    split
    · exact Nat.le_refl _
    · rw [sl_app, sl_app]
      have a1 : sl [wVar, sp] = 1 := rfl
      have a2 : sl [mSemi, nl] = 1 := rfl
      have := sl_nN p.vars
      omega
  have e7 := sl_ps _ p.body 1 (Nat.le_refl _) h.b
  rw [sl_star]
  omega
theorem sl_maps {α : Type} (f : α → List Bs) (g : α → Nat) : ∀ l : List α, (∀ a, a ∈ l → sl (f a) ≤ g a) → sl (l.map f).flatten ≤ (l.map g).sum := by
  intro l
  induction l with
  | nil => intro _; exact Nat.le_refl _
  | cons a l ih =>
    intro h
    have := ih (fun x hx => h x (by simp [hx]))
    have := h a (by simp)
    rw [List.map_cons, List.flatten_cons, sl_app, List.map_cons, List.sum_cons]
    omega
theorem sl_pm {m : M} (h : WM m) : sl (pm m) ≤ nM m := by
  unfold pm nM
  simp only [sl_app]
  have e0 : sl [wModule, sp, m.name, mSemi, nl] ≤ 3 := by
    have := sl_cons wModule [sp, m.name, mSemi, nl]
    rw [sl_blank (b := sp) rfl] at this
    have := sl_cons m.name [mSemi, nl]
    have e : sl [mSemi, nl] = 1 := rfl
    omega
  have e3 : sl [wBegin, nl] = 1 := rfl
  have e4 : sl [wEnd, mDot, nl] = 2 := rfl
  have e6 : sl (if m.imports = [] then [] else [wImport, sp] ++ pnames m.imports ++ [mSemi, nl]) ≤ if m.imports = [] then 0 else 2 + nN m.imports := by
    split
    · exact Nat.le_refl _
    · rw [sl_app, sl_app]
      have a1 : sl [wImport, sp] = 1 := rfl
      have a2 : sl [mSemi, nl] = 1 := rfl
      have := sl_nN m.imports
      omega
  have e7 := sl_ps _ m.body 1 (Nat.le_refl _) h.b
  have e8 := sl_maps pg nG m.vars (fun g _ => sl_pg g)
  have e9 := sl_maps pp nP m.procs (fun p hp => sl_pp (h.p p hp))
  omega
/- the same is written the same -/
theorem isLow_eL (k : Nat) (l : List X) : isLow k (eL l) = isLow k l := by
  cases l with
  | nil => rw [eL]
  | cons x l => obtain ⟨⟩ := x; rw [eL]; rfl
theorem px_eL : ∀ (N : Nat) (l : List X), SizeOf.sizeOf l ≤ N → px (eL l) = px l := by
  intro N
  induction N with
  | zero => intro l h; cases l <;> simp at h <;> omega
  | succ N ih =>
    intro l hs
    cases l with
    | nil => rw [eL]
    | cons x l =>
      have hl := ih l (by simp at hs; omega)
      have s1 := sz_left x
      have s2 := sz_right x
      have s3 := sz_args x
      have s0 : SizeOf.sizeOf x ≤ N := by simp at hs; omega
      obtain ⟨code, pos, n, m, nm, op, le, ri, ar⟩ := x
      simp only at s1 s2 s3
      have h1 := ih le (by omega)
      have h2 := ih ri (by omega)
      have h3 := ih ar (by omega)
      rw [eL]
      match code with
      | 0 => simp [px, hl]
      | 1 => simp [px, hl]
      | 2 => simp [px, hl]
      | 3 => simp [px, hl, h1]
      | 4 => simp [px, hl, h1, isLow_eL]
      | 5 => simp [px, hl, h1, h2, isLow_eL]
      | 6 => simp [px, hl, h3]
      | k + 7 => simp [px, hl]
theorem pxs_same {a b : List X} (h : eL a = eL b) : pxs a = pxs b := by
  unfold pxs
  rw [← px_eL _ a (Nat.le_refl _), ← px_eL _ b (Nat.le_refl _), h]
theorem pxs_eL (l : List X) : pxs (eL l) = pxs l := by unfold pxs; rw [px_eL _ l (Nat.le_refl _)]
theorem eL_isEmpty (l : List X) : (eL l).isEmpty = l.isEmpty := by cases l with | nil => rw [eL] | cons x l => obtain ⟨⟩ := x; rw [eL]; rfl
theorem eS_isEmpty (l : List S) : (eS l).isEmpty = l.isEmpty := by cases l with | nil => rw [eS] | cons x l => obtain ⟨⟩ := x; rw [eS]; rfl
theorem pst_eS : ∀ (N : Nat) (l : List S) (d : Nat), SizeOf.sizeOf l ≤ N → pst (eS l) d = pst l d := by
  intro N
  induction N with
  | zero => intro l d h; cases l <;> simp at h <;> omega
  | succ N ih =>
    intro l d hs
    cases l with
    | nil => rw [eS]
    | cons s l =>
      have hl := ih l d (by simp at hs; omega)
      have hsz : SizeOf.sizeOf s.thn < SizeOf.sizeOf s ∧ SizeOf.sizeOf s.els < SizeOf.sizeOf s := by obtain ⟨⟩ := s; simp; omega
      have hss : SizeOf.sizeOf s ≤ N := by simp at hs; omega
      obtain ⟨code, pos, nm, ix, v, th, el⟩ := s
      simp only at hsz
      have h1 := ih th (d + 1) (by omega)
      have h2 := ih el (d + 1) (by omega)
      rw [eS]
      match code with
      | 0 => simp [pst, hl]
      | 1 => simp [pst, hl, pxs_eL, eL_isEmpty]
      | 2 => simp [pst, hl, pxs_eL, h1, h2, eS_isEmpty]
      | 3 => simp [pst, hl, pxs_eL, h1]
      | 4 => simp [pst, hl, pxs_eL]
      | 5 => simp [pst, hl, pxs_eL]
      | 6 => simp [pst, hl, pxs_eL]
      | k + 7 => simp [pst, hl]
theorem psts_same {a b : List S} (h : eS a = eS b) (d : Nat) : psts a d = psts b d := by
  unfold psts
  rw [← pst_eS _ a d (Nat.le_refl _), ← pst_eS _ b d (Nat.le_refl _), h]
theorem maps_same {α β : Type} (e : α → α) (f : α → β) (hf : ∀ a, f (e a) = f a) {a b : List α} (h : a.map e = b.map e) : a.map f = b.map f := by
  have : ∀ l : List α, (l.map e).map f = l.map f := by intro l; rw [List.map_map]; exact List.map_congr_left (fun a _ => hf a)
  rw [← this a, ← this b, h]
theorem pm_same {m k : M} (h : Same m k) : pm k = pm m := by
  unfold pm
  have h1 := maps_same eG pg (fun g => rfl) h.v
  have h2 := maps_same eP pp (fun p => by unfold pp eP; simp only; rw [psts_same (a := eS p.body) (b := p.body) ?_ 1]; exact (by
    have : ∀ (N : Nat) (l : List S), SizeOf.sizeOf l ≤ N → eS (eS l) = eS l := by
      have hX : ∀ (N : Nat) (l : List X), SizeOf.sizeOf l ≤ N → eL (eL l) = eL l := by
        intro N
        induction N with
        | zero => intro l h; cases l <;> simp at h <;> omega
        | succ N ih =>
          intro l hs
          cases l with
          | nil => rw [eL, eL]
          | cons x l =>
            have hl := ih l (by simp at hs; omega)
            have s1 := sz_left x
            have s2 := sz_right x
            have s3 := sz_args x
            have s0 : SizeOf.sizeOf x ≤ N := by simp at hs; omega
            obtain ⟨code, pos, n, m, nm, op, le, ri, ar⟩ := x
            simp only at s1 s2 s3
            rw [eL, eL, ih le (by omega), ih ri (by omega), ih ar (by omega), hl]
      intro N
      induction N with
      | zero => intro l h; cases l <;> simp at h <;> omega
      | succ N ih =>
        intro l hs
        cases l with
        | nil => rw [eS, eS]
        | cons s l =>
          have hl := ih l (by simp at hs; omega)
          have hsz : SizeOf.sizeOf s.thn < SizeOf.sizeOf s ∧ SizeOf.sizeOf s.els < SizeOf.sizeOf s := by obtain ⟨⟩ := s; simp; omega
          have hss : SizeOf.sizeOf s ≤ N := by simp at hs; omega
          obtain ⟨code, pos, nm, ix, v, th, el⟩ := s
          simp only at hsz
          rw [eS, eS, hX _ ix (Nat.le_refl _), hX _ v (Nat.le_refl _), ih th (by omega), ih el (by omega), hl]
    exact this _ p.body (Nat.le_refl _))) h.p
  rw [h.n, h.i, h1, h2, psts_same h.b 1]
theorem print_same {m k : M} (h : Same m k) : print k = print m := by unfold print; rw [pm_same h]
theorem Same.lens {m k : M} (h : Same m k) : k.vars.length = m.vars.length ∧ k.procs.length = m.procs.length := by
  have h1 := congrArg List.length h.v
  have h2 := congrArg List.length h.p
  simp at h1 h2
  exact ⟨h1, h2⟩
end Tp
/- What is written is read, of any text that Parse reads. -/
namespace Tp
theorem mem_takeWhile {p : UInt8 → Bool} : ∀ (l : Bs) (d : UInt8), d ∈ l.takeWhile p → p d = true := by
  intro l
  induction l with
  | nil => intro d h; cases h
  | cons c l ih =>
    intro d h
    rw [List.takeWhile_cons] at h
    split at h
    · rcases List.mem_cons.mp h with rfl | h
      · assumption
      · exact ih d h
    · cases h
theorem take_takeWhile {p : UInt8 → Bool} : ∀ l : Bs, l.take (l.takeWhile p).length = l.takeWhile p := by
  intro l
  induction l with
  | nil => rfl
  | cons c l ih =>
    rw [List.takeWhile_cons]
    split
    · rw [List.length_cons, List.take_succ_cons, ih]
    · rfl
theorem cut_tk {l : Bs} {k n pos : Nat} (h : cut l = some (k, n)) : Tk ⟨k, pos, l.take n⟩ ∧ n ≤ l.length ∧ 1 ≤ n := by
  cases l with
  | nil => cases h
  | cons c t =>
    rw [cut] at h
    split at h
    · rename_i hc
      cases h
      rw [take_takeWhile]
      have hl : ld c = true := (ld_first.1 hc).2
      have e : (c :: t).takeWhile ld = c :: t.takeWhile ld := by rw [List.takeWhile_cons, if_pos hl]
      refine ⟨⟨fun e => (by cases e), fun _ => ⟨c, _, e, hc, fun d hd => mem_takeWhile _ d hd⟩, fun e => (by cases e), fun e => (by cases e), by simp⟩, (List.takeWhile_sublist _).length_le, by rw [e]; simp⟩
    · split at h
      · rename_i hc
        cases h
        rw [take_takeWhile]
        have e : (c :: t).takeWhile digit = c :: t.takeWhile digit := by rw [List.takeWhile_cons, if_pos hc]
        refine ⟨⟨fun e => (by cases e), fun e => (by cases e), fun _ => ⟨?_, fun d hd => mem_takeWhile _ d hd⟩, fun e => (by cases e), by simp⟩, (List.takeWhile_sublist _).length_le, by rw [e]; simp⟩
        show (c :: t).takeWhile digit ≠ []
        rw [e]; simp
      · rw [Option.map_eq_some_iff] at h
        obtain ⟨m, h1, h2⟩ := h
        cases h2
        have hm := List.mem_of_find?_eq_some h1
        have hp := List.find?_some h1
        rw [List.isPrefixOf_iff_prefix] at hp
        obtain ⟨r, hr⟩ := hp
        have e : (c :: t).take m.length = m := by rw [← hr, List.take_left]
        have hl := congrArg List.length hr
        rw [List.length_append] at hl
        have : ∀ m : Bs, m ∈ marks → 1 ≤ m.length := by decide
        rw [e]
        exact ⟨⟨fun e => (by cases e), fun e => (by cases e), fun e => (by cases e), fun _ => hm, by simp⟩, by omega, this m hm⟩
theorem scan_tks : ∀ (f cnt pos : Nat) (l : Bs) (ts : List Tok), scan f cnt pos l = .ok ts → Tks ts ∧ wt ts ≤ l.length ∧ (cnt ≤ 600 → cnt + ts.length ≤ 601) ∧ (∃ t z, ts = t ++ [z] ∧ z.kind = 0) := by
  intro f
  induction f with
  | zero => intro cnt pos l ts h; cases h
  | succ f ih =>
    intro cnt pos l ts h
    rw [scan.eq_def] at h
    simp only at h
    split at h
    · cases h
      refine ⟨?_, by simp [wt], fun _ => by simp; omega, [], _, rfl, rfl⟩
      intro t ht
      rw [List.mem_singleton] at ht
      subst ht
      exact ⟨fun _ => rfl, fun e => (by cases e), fun e => (by cases e), fun e => (by cases e), by simp⟩
    · rename_i c t
      split at h
      · obtain ⟨a, b, c, d⟩ := ih _ _ _ _ h
        exact ⟨a, by simp; omega, c, d⟩
      · split at h
        · cases h
        · rename_i kd n hcut
          obtain ⟨c1, c2, c3⟩ := cut_tk (pos := pos) hcut
          split at h
          · cases h
          · split at h
            · cases h
            · rename_i ts' hts
              cases h
              obtain ⟨a, b, d, t', z, e1, e2⟩ := ih _ _ _ _ hts
              refine ⟨?_, ?_, fun _ => by have := d (by omega); simp at this ⊢; omega, ⟨kd, pos, (c :: t).take n⟩ :: t', z, by rw [e1]; rfl, e2⟩
              · intro u hu
                rcases List.mem_cons.mp hu with rfl | hu
                · exact c1
                · exact a u hu
              · rw [List.length_drop] at b
                show ((c :: t).take n).length + wt ts' ≤ _
                rw [List.length_take]
                omega
theorem parse_wm {l : Bs} {m : M} (h : parse l = .ok m) : WM m ∧ nM m ≤ l.length := by
  unfold parse at h
  obtain ⟨ts, h1, h2⟩ := bind_ok h
  obtain ⟨a, b, _⟩ := scan_tks _ _ _ _ _ h1
  obtain ⟨c, d⟩ := module_wm a h2
  exact ⟨c, by omega⟩
theorem parse_back {m : M} (hm : WM m) (hn : nM m ≤ 600) {qs : List Bs} (hq : chk 0 qs) (hs : sg qs = sg (pm m)) : ∃ m', parse qs.flatten = .ok m' ∧ Same m m' := by
  have hl := sl_pm hm
  unfold sl at hl
  obtain ⟨t, z, h1, h2, h3, h4⟩ := scan_chk qs 0 (qs.flatten.length + 1) 0 0 hq (Nat.le_refl _) (by rw [hs]; omega)
  obtain ⟨a, _⟩ := scan_tks _ _ _ _ _ h1
  obtain ⟨m', h5, h6⟩ := module_same hm h3 a.gd (by rw [h2, hs]) (F := 20 * (t ++ [z]).length + 20) (by omega)
  refine ⟨m', ?_, h6⟩
  unfold parse
  rw [h1]
  exact h5
/- what a module is written as is that module, and is written just so -/
theorem back {l : Bs} {m : M} (h : parse l = .ok m) (hl : l.length ≤ 600) : ∃ m', parse (print m) = .ok m' ∧ Same m m' ∧ print m' = print m := by
  obtain ⟨a, b⟩ := parse_wm h
  obtain ⟨m', h1, h2⟩ := parse_back a (by omega) (chk_pm a) rfl
  exact ⟨m', h1, h2, print_same h2⟩
/- with other blanks -/
def spr (ch : Nat → Bs) : Nat → Bs → Bs
  | _, [] => []
  | n, c :: l => if blank c then ch n ++ spr ch (n + 1) l else c :: spr ch n l
theorem spr_app (ch : Nat → Bs) : ∀ (a b : Bs) (n : Nat), spr ch n (a ++ b) = spr ch n a ++ spr ch (n + (a.filter blank).length) b := by
  intro a
  induction a with
  | nil => intro b n; rfl
  | cons c a ih =>
    intro b n
    rw [List.cons_append, spr, spr]
    cases hc : blank c with
    | true => rw [if_pos rfl, if_pos rfl, ih, List.append_assoc]; simp [hc]; rw [show n + 1 + (a.filter blank).length = n + ((a.filter blank).length + 1) by omega]
    | false => rw [if_neg (by decide), if_neg (by decide), ih]; simp [hc]
theorem spr_tok (ch : Nat → Bs) : ∀ (q : Bs) (n : Nat), (∀ c, c ∈ q → blank c = false) → spr ch n q = q := by
  intro q
  induction q with
  | nil => intro n _; rfl
  | cons c q ih => intro n h; rw [spr, h c (by simp), if_neg (by decide), ih n (fun x hx => h x (by simp [hx]))]
theorem spr_bl (ch : Nat → Bs) (hch : ∀ n, bl (ch n)) : ∀ (q : Bs) (n : Nat), (∀ c, c ∈ q → blank c = true) → (∀ c, c ∈ spr ch n q → blank c = true) ∧ (q ≠ [] → spr ch n q ≠ []) := by
  intro q
  induction q with
  | nil => intro n _; exact ⟨fun c hc => absurd hc List.not_mem_nil, fun h => absurd rfl h⟩
  | cons c q ih =>
    intro n h
    rw [spr, h c (by simp), if_pos rfl]
    obtain ⟨a, _⟩ := ih (n + 1) (fun x hx => h x (by simp [hx]))
    refine ⟨fun d hd => ?_, fun _ e => ?_⟩
    · rcases List.mem_append.mp hd with hd | hd
      · exact (hch n).2 d hd
      · exact a d hd
    · exact (hch n).1 (List.append_eq_nil_iff.mp e).1
theorem tkp_nb {q : Bs} (h : tkp q) : ∀ c, c ∈ q → blank c = false := by
  rcases h with ⟨k, ha⟩ | ⟨k, ha⟩ | ⟨k, ha⟩
  · intro c hc
    cases hb : blank c with
    | false => rfl
    | true => have := (blank_first hb).1; rw [ha c hc] at this; cases this
  · intro c hc
    cases hb : blank c with
    | false => rfl
    | true => have := (blank_first hb).2.1; rw [ha c hc] at this; cases this
  · have : ∀ q : Bs, q ∈ marks → ∀ c, c ∈ q → blank c = false := by decide
    exact this q ha
theorem bl_isB {q : Bs} (h : bl q) : isB q = true := by
  cases q with
  | nil => rfl
  | cons c l => exact h.2 c (by simp)
theorem spr_chk (ch : Nat → Bs) (hch : ∀ n, bl (ch n)) : ∀ (qs : List Bs) (p n : Nat), chk p qs → ∃ qs', qs'.flatten = spr ch n qs.flatten ∧ sg qs' = sg qs ∧ chk p qs' := by
  intro qs
  induction qs with
  | nil => intro p n _; exact ⟨[], rfl, rfl, by rw [chk]; trivial⟩
  | cons q qs ih =>
    intro p n h
    have h' := h
    rw [chk] at h
    rw [List.flatten_cons, spr_app]
    split at h
    · rename_i hb
      obtain ⟨h1, h2⟩ := h
      obtain ⟨qs', a, b, c⟩ := ih 0 (n + (q.filter blank).length) h2
      obtain ⟨s1, s2⟩ := spr_bl ch hch q n h1.2
      have hbl : bl (spr ch n q) := ⟨s2 h1.1, s1⟩
      exact ⟨spr ch n q :: qs', by rw [List.flatten_cons, a], by rw [sg_blank (bl_isB hbl), sg_blank hb, b], chk_bl (bl_isB hbl) hbl c⟩
    · rename_i hb
      obtain ⟨h1, h2, h3, h4⟩ := h
      obtain ⟨qs', a, b, c⟩ := ih _ (n + (q.filter blank).length) h4
      have hb' : isB q = false := by simpa using hb
      refine ⟨q :: qs', by rw [List.flatten_cons, a, spr_tok ch q n (tkp_nb h1)], by rw [sg_cons hb', sg_cons hb', b], ?_⟩
      rw [chk, if_neg hb]
      exact ⟨h1, h2, h3, c⟩
theorem blanks {l : Bs} {m : M} (h : parse l = .ok m) (hl : l.length ≤ 600) (ch : Nat → Bs) (hch : ∀ n, bl (ch n)) : ∃ m', parse (spr ch 0 (print m)) = .ok m' ∧ print m' = print m := by
  obtain ⟨a, b⟩ := parse_wm h
  obtain ⟨qs', h1, h2, h3⟩ := spr_chk ch hch (pm m) 0 0 (chk_pm a)
  obtain ⟨m', h4, h5⟩ := parse_back a (by omega) h3 h2
  exact ⟨m', by rw [← show qs'.flatten = spr ch 0 (print m) from h1]; exact h4, print_same h5⟩
theorem spr_len (ch : Nat → Bs) (hch : ∀ n, (ch n).length ≤ 3) : ∀ (l : Bs) (n : Nat), (spr ch n l).length ≤ 3 * l.length := by
  intro l
  induction l with
  | nil => intro n; simp [spr]
  | cons c l ih =>
    intro n
    rw [spr]
    split
    · rw [List.length_append, List.length_cons]; have := hch n; have := ih (n + 1); omega
    · rw [List.length_cons, List.length_cons]; have := ih n; omega
end Tp
/- Where tokens stand. -/
namespace Tp
theorem scan_tl : ∀ (f cnt pos : Nat) (l : Bs) (ts : List Tok), scan f cnt pos l = .ok ts → ∀ t, t ∈ ts → t.text.length ≤ l.length ∧ t.pos ≤ pos + l.length := by
  intro f
  induction f with
  | zero => intro cnt pos l ts h; cases h
  | succ f ih =>
    intro cnt pos l ts h
    rw [scan.eq_def] at h
    simp only at h
    split at h
    · cases h
      intro t ht
      rw [List.mem_singleton] at ht
      subst ht
      simp
    · rename_i c t
      split at h
      · intro u hu
        have := ih _ _ _ _ h u hu
        simp at this ⊢
        omega
      · split at h
        · cases h
        · rename_i kd n hcut
          obtain ⟨c1, c2, c3⟩ := cut_tk (pos := pos) hcut
          split at h
          · cases h
          · split at h
            · cases h
            · rename_i ts' hts
              cases h
              intro u hu
              rcases List.mem_cons.mp hu with rfl | hu
              · simp only [List.length_take]; omega
              · have := ih _ _ _ _ hts u hu
                rw [List.length_drop] at this
                omega
theorem scan_ne99 : ∀ (f cnt pos : Nat) (l : Bs), l.length < f → ∀ e, scan f cnt pos l = .error e → e.1 ≠ 99 := by
  intro f
  induction f with
  | zero => intro cnt pos l h; omega
  | succ f ih =>
    intro cnt pos l hl e h
    rw [scan.eq_def] at h
    simp only at h
    split at h
    · cases h
    · rename_i c t
      split at h
      · exact ih _ _ _ (by simp at hl; omega) e h
      · split at h
        · cases h; simp
        · rename_i kd n hcut
          obtain ⟨c1, c2, c3⟩ := cut_tk (pos := pos) hcut
          split at h
          · cases h; simp
          · split at h
            · rename_i e' he
              cases h
              exact ih _ _ _ (by rw [List.length_drop]; omega) e he
            · cases h
end Tp
/- How many bytes are written. -/
namespace Tp
def fl (ps : List Bs) : Nat := ps.flatten.length
theorem fl_app (a b : List Bs) : fl (a ++ b) = fl a + fl b := by simp [fl]
theorem fl_cons (a : Bs) (b : List Bs) : fl (a :: b) = a.length + fl b := by simp [fl]
theorem fl_nil : fl [] = 0 := rfl
theorem dec_len : ∀ (k n : Nat), n < 10 ^ (k + 1) → (dec n).length ≤ k + 1 := by
  intro k
  induction k with
  | zero => intro n h; rw [dec, dif_pos (by omega)]; simp
  | succ k ih =>
    intro n h
    rw [dec]
    split
    · simp
    · rw [List.length_append]
      have := ih (n / 10) (by rw [Nat.pow_succ] at h; omega)
      simp; omega
theorem dec_top {n : Nat} (h : n ≤ top) : (dec n).length ≤ 19 := dec_len 18 n (by unfold top at h; omega)
theorem okn_len {n : Bs} (h : okn n) : n.length ≤ 10 := h.2.2
theorem fl_ref {m n : Bs} (h : okr m n) : fl (ref m n) ≤ 24 * rN m := by
  unfold ref rN
  have h2 := okn_len h.2
  split
  · simp [fl]; omega
  · rename_i hm
    have h1 := okn_len (h.1.resolve_left hm)
    simp [fl, mDot]; omega
theorem fl_held {k : Nat} {l : List X} {ps : List Bs} : fl (held (isLow k l) ps) ≤ 2 * lowN k l + fl ps := by
  unfold held lowN
  split
  · simp [fl, mLp, mRp]; omega
  · omega
theorem op_len {op : Bs} (h : lvl op < 5) : op.length ≤ 3 := by
  have hm : ∀ m : Bs, m ∈ marks → m.length ≤ 3 := by decide
  unfold lvl at h
  by_cases a1 : op = wOr
  · subst a1; decide
  by_cases a2 : op = wAnd
  · subst a2; decide
  rw [if_neg a1, if_neg a2] at h
  by_cases a3 : op = mEq ∨ op = mNe ∨ op = mLt ∨ op = mLe ∨ op = mGt ∨ op = mGe
  · rcases a3 with rfl | rfl | rfl | rfl | rfl | rfl <;> decide
  rw [if_neg a3] at h
  by_cases a4 : op = mPlus ∨ op = mMinus
  · rcases a4 with rfl | rfl <;> decide
  rw [if_neg a4] at h
  by_cases a5 : op = mStar ∨ op = wDiv ∨ op = wMod
  · rcases a5 with rfl | rfl | rfl <;> decide
  rw [if_neg a5] at h
  omega
theorem fl_commas : ∀ (l : List X) (x : X), (∀ y, y ∈ x :: l → fl (pxs [y]) ≤ 24 * NX [y]) → fl (commas (px (x :: l))) ≤ 24 * (l.length + NX (x :: l)) := by
  intro l
  induction l with
  | nil => intro x h; rw [px_cons, px, commas]; have := h x (by simp); simp; exact this
  | cons y l ih =>
    intro x h
    have h1 := ih y (fun z hz => h z (by simp at hz ⊢; right; exact hz))
    have h2 := h x (by simp)
    rw [px_cons, px_cons, commas_cons, ← px_cons, fl_app, fl_app, NX_cons]
    have h3 : fl [mComma, sp] = 2 := rfl
    simp at h1 ⊢
    omega
theorem wx_mem {l : List X} (h : WX l) : ∀ y, y ∈ l → WX [y] := by
  induction l with
  | nil => intro y hy; cases hy
  | cons x l ih =>
    intro y hy
    have h1 : WX [x] ∧ WX l := by obtain ⟨⟩ := x; rw [WX] at h; exact ⟨by rw [WX]; exact ⟨h.1, WX_nil⟩, h.2⟩
    rcases List.mem_cons.mp hy with rfl | hy
    · exact h1.1
    · exact ih h1.2 y hy
theorem fl_px : ∀ (N : Nat) (x : X), SizeOf.sizeOf x ≤ N → WX [x] → fl (pxs [x]) ≤ 24 * NX [x] := by
  intro N
  induction N with
  | zero => intro x h; obtain ⟨⟩ := x; simp at h
  | succ N ih =>
    intro x hs hw
    have s1 := sz_left x
    have s2 := sz_right x
    have s3 := sz_args x
    rw [NX1]
    obtain ⟨code, pos, n, m, nm, op, le, ri, ar⟩ := x
    rw [WX] at hw
    simp only at s1 s2 s3 ⊢
    rcases hw.1 with ⟨rfl, h1⟩ | ⟨rfl, h1⟩ | ⟨rfl, h1⟩ | ⟨rfl, h1⟩ | ⟨rfl, h1⟩ | ⟨rfl, h1⟩
    · rw [pxs_1]
      have := dec_top h1.1
      simp [fl]; omega
    · rw [pxs_2]
      have := fl_ref h1.2.1
      simpa using this
    · obtain ⟨_, h2, _, h3, h4, _⟩ := h1
      obtain ⟨y, rfl⟩ := len1 h4
      have z1 := sz1 y
      have hy := ih y (by omega) h3
      rw [pxs_3, fl_app, fl_app, fl_app]
      have := fl_ref h2
      have e1 : fl [mLb] = 1 := rfl
      have e2 : fl [mRb] = 1 := rfl
      simp; omega
    · obtain ⟨_, _, _, h2, h3, h4, _⟩ := h1
      obtain ⟨y, rfl⟩ := len1 h4
      have z1 := sz1 y
      have hy := ih y (by omega) h3
      rw [pxs_4, fl_app, fl_app]
      have := fl_held (k := 5) (l := [y]) (ps := pxs [y])
      have e1 : fl [op] ≤ 3 := by rcases h2 with rfl | rfl <;> decide
      have e2 : fl (if op = wNot then [sp] else []) ≤ 1 := by split <;> decide
      simp; omega
    · obtain ⟨_, _, _, h2, h3, h4, h5, h6, _⟩ := h1
      obtain ⟨y, rfl⟩ := len1 h4
      obtain ⟨z, rfl⟩ := len1 h6
      have z1 := sz1 y
      have z2 := sz1 z
      have hy := ih y (by omega) h3
      have hz := ih z (by omega) h5
      rw [pxs_5, fl_app, fl_app]
      have := fl_held (k := lvl op) (l := [y]) (ps := pxs [y])
      have := fl_held (k := lvl op + 1) (l := [z]) (ps := pxs [z])
      have := op_len h2
      have e1 : fl [sp, op, sp] = 2 + op.length := by simp [fl, sp]; omega
      simp; omega
    · obtain ⟨_, h2, _, _, _, h3⟩ := h1
      rw [pxs_6, fl_app, fl_app, fl_app]
      have := fl_ref h2
      have e1 : fl [mLp] = 1 := rfl
      have e2 : fl [mRp] = 1 := rfl
      have : fl (commas (px ar)) ≤ 24 * ((ar.length - 1) + NX ar) := by
        cases ar with
        | nil => simp [px, commas, fl]
        | cons y l =>
          have := fl_commas l y (fun z hz => ih z (by have := List.sizeOf_lt_of_mem hz; omega) (wx_mem h3 z hz))
          simpa using this
      simp; omega
theorem fl_ev {v : List X} (h : ev v) : fl (pxs v) ≤ 24 * NX v := by
  obtain ⟨x, rfl⟩ := len1 h.2.1
  exact fl_px _ x (Nat.le_refl _) h.1
theorem fl_tab (d : Nat) : fl (tab d) = 2 * d := by
  induction d with
  | zero => rfl
  | succ d ih => unfold tab at ih ⊢; rw [List.replicate_succ, fl_cons, ih]; simp; omega
theorem fl_ps : ∀ (N : Nat) (l : List S) (d : Nat), SizeOf.sizeOf l ≤ N → WS l → d + DS l ≤ 11 → fl (psts l d) ≤ 24 * NS l := by
  intro N
  induction N with
  | zero => intro l d h; cases l <;> simp at h <;> omega
  | succ N ih =>
    intro l d hs hw hd
    cases l with
    | nil => simp [psts, pst, fl]
    | cons s l =>
      have hd12 : DS (s :: l) = max (DS [s]) (DS l) := DS_app [s] l
      have hl := ih l d (by simp at hs; omega) (by obtain ⟨⟩ := s; rw [WS] at hw; exact hw.2) (by omega)
      rw [psts_cons, NS_cons, fl_app]
      suffices hx : fl (ps1 s d) ≤ 24 * NS [s] by omega
      have hd1 : d + DS [s] ≤ 11 := by omega
      have hsz : SizeOf.sizeOf s.thn < SizeOf.sizeOf s ∧ SizeOf.sizeOf s.els < SizeOf.sizeOf s := by obtain ⟨⟩ := s; simp; omega
      have hss : SizeOf.sizeOf s ≤ N := by simp at hs; omega
      rw [NS1]
      rw [DS1] at hd1
      obtain ⟨code, pos, nm, ix, v, th, el⟩ := s
      rw [WS] at hw
      simp only at hsz hd1 ⊢
      have h0 := fl_tab d
      have hsm : fl [mSemi, nl] = 2 := rfl
      rcases hw.1 with ⟨rfl, h1⟩ | ⟨rfl, h1⟩ | ⟨rfl, h1⟩ | ⟨hc, h1⟩ | ⟨rfl, h1⟩
      · obtain ⟨a1, a2, a3, rfl, rfl⟩ := h1
        rw [ps1_1]
        simp only [fl_app]
        have hv := fl_ev a3
        have e0 : fl [nm] ≤ 10 := by have := okn_len a1; simp [fl]; omega
        have e1 : fl [sp, mSet, sp] = 4 := rfl
        have e2 : fl (if ix.isEmpty = true then [] else [mLb] ++ pxs ix ++ [mRb]) ≤ 24 * (if ix.isEmpty = true then 0 else 2 + NX ix) := by
          rcases a2 with rfl | ⟨x1, x2, _⟩
          · simp [fl]
          · obtain ⟨x, rfl⟩ := len1 x2
            have := fl_px _ x (Nat.le_refl _) x1
            have q1 : fl [mLb] = 1 := rfl
            have q2 : fl [mRb] = 1 := rfl
            rw [if_neg (by simp), if_neg (by simp), fl_app, fl_app]; omega
        simp at hd1
        simp only [if_true]
        omega
      · obtain ⟨_, _, a3, a4, a5⟩ := h1
        simp at hd1
        rw [ps1_2]
        simp only [fl_app]
        have hv := fl_ev a3
        have ht := ih th (d + 1) (by omega) a4 (by omega)
        have he := ih el (d + 1) (by omega) a5 (by omega)
        have e1 : fl [wIf, sp] = 3 := rfl
        have e2 : fl [sp, wThen, nl] = 6 := rfl
        have e3 : fl [wEnd] = 3 := rfl
        have e4 : fl (if el.isEmpty = true then [] else tab d ++ [wElse, nl] ++ psts el (d + 1)) ≤ 3 + 24 * (if el.isEmpty = true then 0 else 1 + NS el) := by
          split
          · simp [fl]
          · rw [fl_app, fl_app]
            have : fl [wElse, nl] = 5 := rfl
            omega
        simp only [show ¬ (2 = 1) by omega, if_false, if_true]
        omega
      · obtain ⟨_, _, a3, a4, rfl⟩ := h1
        simp at hd1
        rw [ps1_3]
        simp only [fl_app]
        have hv := fl_ev a3
        have ht := ih th (d + 1) (by omega) a4 (by omega)
        have e1 : fl [wWhile, sp] = 6 := rfl
        have e2 : fl [sp, wDo, nl] = 4 := rfl
        have e3 : fl [wEnd] = 3 := rfl
        simp only [show ¬ (3 = 1) by omega, show ¬ (3 = 2) by omega, if_false, if_true]
        omega
      · have hv := fl_ev h1.2.2.1
        have hd2 : d ≤ 11 := by omega
        rcases hc with rfl | rfl
        · rw [ps1_4]
          simp only [fl_app]
          have e1 : fl [wReturn, sp] = 7 := rfl
          simp only [show ¬ (4 = 1) by omega, show ¬ (4 = 2) by omega, show ¬ (4 = 3) by omega, show ¬ (4 = 6) by omega, if_false]
          omega
        · rw [ps1_5]
          simp only [fl_app]
          have e1 : fl [wWrite, sp] = 6 := rfl
          simp only [show ¬ (5 = 1) by omega, show ¬ (5 = 2) by omega, show ¬ (5 = 3) by omega, show ¬ (5 = 6) by omega, if_false]
          omega
      · have hv := fl_ev h1.2.2.1
        have hd2 : d ≤ 11 := by omega
        rw [ps1_6]
        simp only [fl_app]
        simp only [show ¬ (6 = 1) by omega, show ¬ (6 = 2) by omega, show ¬ (6 = 3) by omega, if_false, if_true]
        omega
end Tp
/- How many bytes a module is written in. -/
namespace Tp
theorem fl_names : ∀ (l : List Bs) (n : Bs), okns (n :: l) → fl (pnames (n :: l)) ≤ 12 * (l.length + 1) := by
  intro l
  induction l with
  | nil => intro n h; have := okn_len (h n (by simp)); simp [pnames, commas, fl]; omega
  | cons m l ih =>
    intro n h
    have h1 := ih m (fun x hx => h x (by simp at hx ⊢; right; exact hx))
    have h2 := okn_len (h n (by simp))
    rw [pnames_cons, fl_app]
    have e : fl [n, mComma, sp] = n.length + 2 := by simp [fl, mComma, sp]
    simp; omega
theorem fl_nN {l : List Bs} (h : okns l) : fl (pnames l) ≤ 24 * nN l := by
  cases l with
  | nil => simp [pnames, commas, fl]
  | cons n l => have := fl_names l n h; unfold nN; simp; omega
theorem fl_star (b : Bool) : fl (star b) = b2 b := by cases b <;> rfl
theorem fl_pg {g : G} (h : WG g) : fl (pg g) ≤ 24 * nG g := by
  unfold pg nG
  simp only [fl_app]
  have h1 := okn_len h.n
  have h2 := h.l
  have e0 : fl [wVar, sp, g.name] = 4 + g.name.length := by simp [fl, wVar, sp]; omega
  have e1 : fl [mColon, sp] = 2 := rfl
  have e2 : fl [mSemi, nl] = 2 := rfl
  have e3 : fl (if g.len = 0 then [wInt] else [wArray, sp, dec g.len]) ≤ 25 := by
    split
    · decide
    · have := dec_top (n := g.len) (by unfold top; omega)
      simp [fl, wArray, sp]; omega
  have e4 : 1 ≤ (if g.len = 0 then 1 else 2) := by split <;> omega
  rw [fl_star]
  omega
theorem fl_pp {p : Pr} (h : WP p) : fl (pp p) ≤ 24 * nP p := by
  unfold pp nP
  simp only [fl_app]
  have h1 := okn_len h.n
  have e0 : fl [wProc, sp, p.name] = 5 + p.name.length := by simp [fl, wProc, sp]; omega
  have e1 : fl [mLp] = 1 := rfl
  have e2 : fl [mRp, mSemi, nl] = 3 := rfl
  have e3 : fl [wBegin, nl] = 6 := rfl
  have e4 : fl [wEnd, mSemi, nl] = 5 := rfl
  have e5 := fl_nN h.ps
  have e6 : fl (if p.vars = [] then [] else [wVar, sp] ++ pnames p.vars ++ [mSemi, nl]) ≤ 24 * (if p.vars = [] then 0 else 2 + nN p.vars) := by
    split
    · simp [fl]
    · rw [fl_app, fl_app]
      have a1 : fl [wVar, sp] = 4 := rfl
      have a2 : fl [mSemi, nl] = 2 := rfl
      have := fl_nN h.vs
      omega
  have e7 := fl_ps _ p.body 1 (Nat.le_refl _) h.b (by have := h.d; omega)
  rw [fl_star]
  omega
theorem fl_maps {α : Type} (f : α → List Bs) (g : α → Nat) : ∀ l : List α, (∀ a, a ∈ l → fl (f a) ≤ 24 * g a) → fl (l.map f).flatten ≤ 24 * (l.map g).sum := by
  intro l
  induction l with
  | nil => intro _; exact Nat.le_refl _
  | cons a l ih =>
    intro h
    have := ih (fun x hx => h x (by simp [hx]))
    have := h a (by simp)
    rw [List.map_cons, List.flatten_cons, fl_app, List.map_cons, List.sum_cons]
    omega
theorem print_len {m : M} (h : WM m) : (print m).length ≤ 24 * nM m := by
  show fl (pm m) ≤ _
  unfold pm nM
  simp only [fl_app]
  have h1 := okn_len h.n
  have e0 : fl [wModule, sp, m.name, mSemi, nl] = 9 + m.name.length := by simp [fl, wModule, sp, mSemi, nl]; omega
  have e3 : fl [wBegin, nl] = 6 := rfl
  have e4 : fl [wEnd, mDot, nl] = 5 := rfl
  have e6 : fl (if m.imports = [] then [] else [wImport, sp] ++ pnames m.imports ++ [mSemi, nl]) ≤ 24 * (if m.imports = [] then 0 else 2 + nN m.imports) := by
    split
    · simp [fl]
    · rw [fl_app, fl_app]
      have a1 : fl [wImport, sp] = 7 := rfl
      have a2 : fl [mSemi, nl] = 2 := rfl
      have := fl_nN h.i
      omega
  have e7 := fl_ps _ m.body 1 (Nat.le_refl _) h.b (by have := h.d; omega)
  have e8 := fl_maps pg nG m.vars (fun g hg => fl_pg (h.g g hg))
  have e9 := fl_maps pp nP m.procs (fun p hp => fl_pp (h.p p hp))
  omega
/- what a text of at most 600 bytes is written as is no longer than 14400 bytes -/
theorem print_short {l : Bs} {m : M} (h : parse l = .ok m) (hl : l.length ≤ 600) : WM m ∧ (print m).length ≤ 14400 := by
  obtain ⟨a, b⟩ := parse_wm h
  have := print_len a
  exact ⟨a, by omega⟩
end Tp
/- A closed text and how it is written. -/
namespace Tp
def txt1 : Bs := [109, 111, 100, 117, 108, 101, 32, 109, 59, 105, 109, 112, 111, 114, 116, 32, 97, 59, 118, 97, 114, 32, 120, 42, 58, 97, 114, 114, 97, 121, 32, 51, 59, 112, 114, 111, 99, 32, 102, 42, 40, 112, 44, 113, 41, 59, 118, 97, 114, 32, 116, 59, 98, 101, 103, 105, 110, 32, 116, 58, 61, 112, 42, 40, 113, 43, 49, 41, 59, 105, 102, 32, 116, 32, 116, 104, 101, 110, 32, 114, 101, 116, 117, 114, 110, 32, 45, 116, 59, 101, 110, 100, 59, 101, 110, 100, 59, 98, 101, 103, 105, 110, 32, 120, 91, 48, 93, 58, 61, 97, 46, 103, 40, 49, 41, 45, 40, 50, 45, 51, 41, 59, 101, 110, 100, 46]
def out1 : Bs := [109, 111, 100, 117, 108, 101, 32, 109, 59, 10, 105, 109, 112, 111, 114, 116, 32, 97, 59, 10, 118, 97, 114, 32, 120, 42, 58, 32, 97, 114, 114, 97, 121, 32, 51, 59, 10, 112, 114, 111, 99, 32, 102, 42, 40, 112, 44, 32, 113, 41, 59, 10, 118, 97, 114, 32, 116, 59, 10, 98, 101, 103, 105, 110, 10, 32, 32, 116, 32, 58, 61, 32, 112, 32, 42, 32, 40, 113, 32, 43, 32, 49, 41, 59, 10, 32, 32, 105, 102, 32, 116, 32, 116, 104, 101, 110, 10, 32, 32, 32, 32, 114, 101, 116, 117, 114, 110, 32, 45, 116, 59, 10, 32, 32, 101, 110, 100, 59, 10, 101, 110, 100, 59, 10, 98, 101, 103, 105, 110, 10, 32, 32, 120, 91, 48, 93, 32, 58, 61, 32, 97, 46, 103, 40, 49, 41, 32, 45, 32, 40, 50, 32, 45, 32, 51, 41, 59, 10, 101, 110, 100, 46, 10]
def mod1 : M := ⟨[109], [[97]], [⟨[120], 22, 3, true⟩], [⟨[102], 33, true, [[112], [113]], [[116]], [⟨1, 58, [116], [], [⟨5, 61, 0, [], [], [42], [⟨2, 61, 0, [], [112], [], [], [], []⟩], [⟨5, 64, 0, [], [], [43], [⟨2, 64, 0, [], [113], [], [], [], []⟩], [⟨1, 66, 1, [], [], [], [], [], []⟩], []⟩], []⟩], [], []⟩, ⟨2, 69, [], [], [⟨2, 72, 0, [], [116], [], [], [], []⟩], [⟨4, 79, [], [], [⟨4, 86, 0, [], [], [45], [⟨2, 87, 0, [], [116], [], [], [], []⟩], [], []⟩], [], []⟩], []⟩]⟩], [⟨1, 103, [120], [⟨1, 105, 0, [], [], [], [], [], []⟩], [⟨5, 109, 0, [], [], [45], [⟨6, 109, 0, [97], [103], [], [], [], [⟨1, 113, 1, [], [], [], [], [], []⟩]⟩], [⟨5, 117, 0, [], [], [45], [⟨1, 117, 2, [], [], [], [], [], []⟩], [⟨1, 119, 3, [], [], [], [], [], []⟩], []⟩], []⟩], [], []⟩]⟩
theorem parse1 : parse txt1 = .ok mod1 := by kernel_rfl
theorem dec_d {n : Nat} (h : n < 10) : dec n = [UInt8.ofNat (48 + n)] := by rw [dec]; simp [h]
set_option linter.unusedSimpArgs false in
theorem print1 : print mod1 = out1 := by
  simp [print, pm, mod1, pg, pp, psts, pst, px, pxs, star, pnames, commas, ref, held, isLow, lvl, tab, dec_d, List.replicate, out1, wModule, wImport, wVar, wProc, wBegin, wEnd, wInt, wArray, wReturn, wIf, wThen, sp, nl, mSemi, mStar, mColon, mLp, mRp, mLb, mRb, mComma, mDot, mSet, wNot, wOr, wAnd, wDiv, wMod, mEq, mNe, mLt, mLe, mGt, mGe, mPlus, mMinus]
end Tp
