import Derived.Test.YtibncofnnlbmcaaGreatDoorKPa
namespace Tp
theorem sx_lt (f : Nat) : ∀ k b r x r', Gd r → sx f k b r = .ok (x, r') → r' <:+ r ∧ (2 ≤ k → r'.length < r.length) := by
  induction f with
  | zero => intro k b r x r' _ h; rw [sx] at h; cases h
  | succ f ih =>
    intro k b r x r' hg h
    have k0 := stp_suf r
    have k0l := k0.length_le
    have g0 := hg.suf k0
    rw [sx] at h
    split at h
    · split at h
      · cases h
      · have k1 := ih _ _ _ _ _ hg h
        exact ⟨k1.1, fun _ => by omega⟩
    · split at h
      · split at h
        · cases h; exact ⟨List.suffix_refl _, fun _ => by omega⟩
        · obtain ⟨⟨s, r1⟩, h1, h2⟩ := bind_ok h
          have k1 := ih _ _ _ _ _ hg h1
          obtain ⟨⟨l, r2⟩, h3, h4⟩ := bind_ok h2
          have k2 := ih _ _ _ _ _ (hg.suf k1.1) h3
          cases h4
          exact ⟨k2.1.trans k1.1, fun _ => by omega⟩
      · split at h
        · split at h
          · obtain ⟨⟨x1, r1⟩, h1, h2⟩ := bind_ok h
            have k1 := ex_lt f _ _ _ _ _ _ _ g0 h1
            have k1l := k1.1.length_le
            obtain ⟨r2, h3, h4⟩ := bind_ok h2
            have k2 := want_lt (g0.suf k1.1) (by decide) h3
            cases h4
            exact ⟨(k2.1.trans k1.1).trans k0, fun _ => by omega⟩
          · split at h
            · obtain ⟨⟨x1, r1⟩, h1, h2⟩ := bind_ok h
              have k1 := ex_lt f _ _ _ _ _ _ _ g0 h1
              have k1l := k1.1.length_le
              obtain ⟨r2, h3, h4⟩ := bind_ok h2
              have g1 := g0.suf k1.1
              have k2 := want_lt g1 (by decide) h3
              obtain ⟨⟨l, r3⟩, h5, h6⟩ := bind_ok h4
              have g2 := g1.suf k2.1
              have k3 := ih _ _ _ _ _ g2 h5
              have k3l := k3.1.length_le
              have g3 := g2.suf k3.1
              obtain ⟨r4, h7, h8⟩ := bind_ok h6
              have k4 := want_lt g3 (by decide) h7
              obtain ⟨r5, h9, h10⟩ := bind_ok h8
              have k5 := want_lt (g3.suf k4.1) (by decide) h9
              cases h10
              exact ⟨((((k5.1.trans k4.1).trans k3.1).trans k2.1).trans k1.1).trans k0, fun _ => by omega⟩
            · split at h
              · obtain ⟨⟨s, r1⟩, h1, h2⟩ := bind_ok h
                have k1 := ih _ _ _ _ _ hg h1
                have k1l := k1.1.length_le
                obtain ⟨r2, h3, h4⟩ := bind_ok h2
                have k2 := want_lt (hg.suf k1.1) (by decide) h3
                obtain ⟨r3, h5, h6⟩ := bind_ok h4
                have k3 := want_lt ((hg.suf k1.1).suf k2.1) (by decide) h5
                cases h6
                exact ⟨(k3.1.trans k2.1).trans k1.1, fun _ => by omega⟩
              · obtain ⟨⟨x1, r1⟩, h1, h2⟩ := bind_ok h
                have k1 := ex_lt f _ _ _ _ _ _ _ hg h1
                have k1l := k1.2 (by omega)
                simp only at h2
                split at h2
                · obtain ⟨r2, h3, h4⟩ := bind_ok h2
                  have k2 := want_lt (hg.suf k1.1) (by decide) h3
                  cases h4
                  exact ⟨k2.1.trans k1.1, fun _ => by omega⟩
                · split at h2
                  · obtain ⟨r2, h3, h4⟩ := bind_ok h2
                    have k2 := want_lt (hg.suf k1.1) (by decide) h3
                    have g2 := (hg.suf k1.1).suf k2.1
                    obtain ⟨⟨y, r3⟩, h5, h6⟩ := bind_ok h4
                    have k3 := ex_lt f _ _ _ _ _ _ _ g2 h5
                    have k3l := k3.1.length_le
                    obtain ⟨r4, h7, h8⟩ := bind_ok h6
                    have k4 := want_lt (g2.suf k3.1) (by decide) h7
                    cases h8
                    exact ⟨((k4.1.trans k3.1).trans k2.1).trans k1.1, fun _ => by omega⟩
                  · cases h2
        · obtain ⟨⟨x1, r1⟩, h1, h2⟩ := bind_ok h
          have k1 := ex_lt f _ _ _ _ _ _ _ g0 h1
          have k1l := k1.1.length_le
          obtain ⟨r2, h3, h4⟩ := bind_ok h2
          have g1 := g0.suf k1.1
          have k2 := want_lt g1 (by decide) h3
          obtain ⟨⟨l, r3⟩, h5, h6⟩ := bind_ok h4
          have g2 := g1.suf k2.1
          have k3 := ih _ _ _ _ _ g2 h5
          have k3l := k3.1.length_le
          have g3 := g2.suf k3.1
          simp only at h6
          split at h6
          · obtain ⟨⟨e, r4⟩, h7, h8⟩ := bind_ok h6
            have k4 := ih _ _ _ _ _ g3 h7
            have k4l := k4.1.length_le
            cases h8
            exact ⟨(((k4.1.trans k3.1).trans k2.1).trans k1.1).trans k0, fun _ => show r4.length < r.length by omega⟩
          · split at h6
            · obtain ⟨⟨e, r4⟩, h7, h8⟩ := bind_ok h6
              have k5 := stp_suf r3
              have k5l := k5.length_le
              have k4 := ih _ _ _ _ _ (g3.suf k5) h7
              have k4l := k4.1.length_le
              cases h8
              exact ⟨((((k4.1.trans k5).trans k3.1).trans k2.1).trans k1.1).trans k0, fun _ => show r4.length < r.length by omega⟩
            · cases h6
              exact ⟨((k3.1.trans k2.1).trans k1.1).trans k0, fun _ => by omega⟩
theorem sx_fuel (f : Nat) : ∀ k b r, Gd r → 10 * r.length + 6 - k ≤ f → 10 * r.length + 2 ≤ f → (3 ≤ k → tx r ≠ []) → sx f k b r ≠ out := by
  induction f with
  | zero => intro k b r _ _ h _; omega
  | succ f ih =>
    intro k b r hg hf hf2 h3
    have k0 := stp_suf r
    have k0l := k0.length_le
    have g0 := hg.suf k0
    rw [sx]
    refine ite_ne (fun e0 => ite_ne (fun _ => er_ne (by simp)) (fun _ => ih _ _ _ hg (by omega) (by omega) (by omega))) (fun e0 => ite_ne (fun e1 => ite_ne (fun _ => ok_ne _) (fun _ => ?_)) (fun e1 => ite_ne (fun e2 => ?_) (fun e2 => ?_)))
    · refine bind_ne (ih _ _ _ hg (by omega) (by omega) (by omega)) ?_
      rintro ⟨s, r1⟩ h1
      have k1 := sx_lt f _ _ _ _ _ hg h1
      have := k1.2 (by omega)
      exact bind_ne (ih _ _ _ (hg.suf k1.1) (by omega) (by omega) (by omega)) fun u _ => ok_ne _
    · subst e2
      have hex0 : (stp r).length < r.length → ex f 0 0 0 [] (stp r) ≠ out := fun hl => ex_fuel f 0 0 0 [] (stp r) g0 (by omega) (by simp only [rk, show 0 < 5 by omega, if_true]; omega)
      refine ite_ne (fun hm => ?_) (fun _ => ite_ne (fun hm => ?_) (fun _ => ite_ne (fun hm => ?_) (fun _ => ?_)))
      · have hl : (stp r).length < r.length := by rcases hm with hm | hm <;> exact stp_lt_of hg (by decide) hm
        exact bind_ne (hex0 hl) fun u _ => bind_ne (want_ne _ _) fun u _ => ok_ne _
      · have hl : (stp r).length < r.length := stp_lt_of hg (by decide) hm
        refine bind_ne (hex0 hl) ?_
        rintro ⟨x1, r1⟩ h1
        have k1 := ex_lt f _ _ _ _ _ _ _ g0 h1
        have k1l := k1.1.length_le
        refine bind_ne (want_ne _ _) ?_
        intro r2 h3
        have k2 := want_lt (g0.suf k1.1) (by decide) h3
        exact bind_ne (ih _ _ _ ((g0.suf k1.1).suf k2.1) (by omega) (by omega) (by omega)) fun u _ => bind_ne (want_ne _ _) fun u _ => bind_ne (want_ne _ _) fun u _ => ok_ne _
      · exact bind_ne (ih _ _ _ hg (by omega) (by have := stp_lt_of hg (by decide) hm; omega) (by intro _; rw [hm]; decide)) fun u _ => bind_ne (want_ne _ _) fun u _ => bind_ne (want_ne _ _) fun u _ => ok_ne _
      · refine bind_ne (ex_fuel f 6 0 0 [] r hg (by omega) (by simp only [rk, show ¬ (6 < 5) by omega, if_false, show ¬ (6 = 5) by omega, show ¬ (6 = 7) by omega]; omega)) ?_
        rintro ⟨x1, r1⟩ h1
        have k1 := ex_lt f _ _ _ _ _ _ _ hg h1
        have k1l := k1.2 (by omega)
        refine ite_ne (fun _ => bind_ne (want_ne _ _) fun u _ => ok_ne _) (fun _ => ite_ne (fun _ => bind_ne (want_ne _ _) ?_) (fun _ => er_ne (by simp)))
        intro r2 h3
        have k2 := want_lt (hg.suf k1.1) (by decide) h3
        exact bind_ne (ex_fuel f 0 0 0 [] r2 ((hg.suf k1.1).suf k2.1) (by omega) (by simp only [rk, show 0 < 5 by omega, if_true]; omega)) fun u _ => bind_ne (want_ne _ _) fun u _ => ok_ne _
    · have hl : (stp r).length < r.length := stp_lt hg (h3 (by omega))
      · refine bind_ne (ex_fuel f 0 0 0 [] (stp r) g0 (by omega) (by simp only [rk, show 0 < 5 by omega, if_true]; omega)) ?_
        rintro ⟨x1, r1⟩ h1
        have k1 := ex_lt f _ _ _ _ _ _ _ g0 h1
        have k1l := k1.1.length_le
        refine bind_ne (want_ne _ _) ?_
        intro r2 h3
        have g1 := g0.suf k1.1
        have k2 := want_lt g1 (by decide) h3
        refine bind_ne (ih _ _ _ (g1.suf k2.1) (by omega) (by omega) (by omega)) ?_
        rintro ⟨l, r3⟩ h5
        have g2 := g1.suf k2.1
        have k3 := sx_lt f _ _ _ _ _ g2 h5
        have k3l := k3.1.length_le
        have k5 := stp_suf r3
        have k5l := k5.length_le
        exact ite_ne (fun he => bind_ne (ih _ _ _ (g2.suf k3.1) (by omega) (by omega) (by intro _; rw [he]; decide)) fun u _ => ok_ne _) (fun _ => ite_ne (fun _ => bind_ne (ih _ _ _ ((g2.suf k3.1).suf k5) (by omega) (by omega) (by omega)) fun u _ => ok_ne _) (fun _ => ok_ne _))

theorem names_suf (f : Nat) : ∀ had most r l r', names f had most r = .ok (l, r') → r' <:+ r := by
  induction f with
  | zero => intro had most r l r' h; cases h
  | succ f ih =>
    intro had most r l r' h
    rw [names] at h
    split at h
    · cases h
    · obtain ⟨⟨n, r1⟩, h1, h2⟩ := bind_ok h
      have k1 := name_lt h1
      simp only at h2
      split at h2
      · obtain ⟨⟨l', r2⟩, h3, h4⟩ := bind_ok h2
        have k2 := ih _ _ _ _ _ h3
        cases h4
        exact (k2.trans (stp_suf r1)).trans k1.1
      · cases h2
        exact k1.1
theorem names_ne (f : Nat) : ∀ had most r, 1 ≤ f → most + 1 ≤ f + had → names f had most r ≠ out := by
  induction f with
  | zero => intro had most r h; omega
  | succ f ih =>
    intro had most r _ h2
    rw [names]
    refine ite_ne (fun _ => er_ne (by simp)) (fun hm => bind_ne (name_ne r) ?_)
    rintro ⟨n, r1⟩ _
    exact ite_ne (fun _ => bind_ne (ih _ _ _ (by omega) (by omega)) fun u _ => ok_ne _) (fun _ => ok_ne _)
theorem if_suf {r r' : List Tok} {s : Bs} (h : r' = if tx r = s then stp r else r) : r' <:+ r := by
  subst h
  split
  · exact stp_suf r
  · exact List.suffix_refl _
theorem ifT_suf (r : List Tok) (s : Bs) : (if tx r = s then stp r else r) <:+ r := if_suf rfl
theorem want_suf {s : Bs} {r r' : List Tok} (h : want s r = .ok r') : r' <:+ r := by obtain ⟨_, rfl⟩ := want_ok h; exact stp_suf r
theorem global_suf {r r' : List Tok} {g : G} (h : global r = .ok (g, r')) : r' <:+ r := by
  unfold global at h
  obtain ⟨⟨n, r1⟩, h1, h2⟩ := bind_ok h
  have k1 := (name_lt h1).1
  obtain ⟨r3, h3, h4⟩ := bind_ok h2
  have k3 := (want_suf h3).trans ((ifT_suf r1 mStar).trans k1)
  simp only at h4
  split at h4
  · obtain ⟨r4, h5, h6⟩ := bind_ok h4
    cases h6
    exact (want_suf h5).trans ((stp_suf r3).trans k3)
  · obtain ⟨r4, h5, h6⟩ := bind_ok h4
    have k4 := (want_suf h5).trans k3
    obtain ⟨⟨k, r5⟩, h7, h8⟩ := bind_ok h6
    have k5 := (number_lt h7).1.trans k4
    simp only at h8
    split at h8
    · cases h8
    · obtain ⟨r6, h9, h10⟩ := bind_ok h8
      cases h10
      exact (want_suf h9).trans k5
theorem global_ne (r : List Tok) : global r ≠ out := by
  unfold global
  refine bind_ne (name_ne r) fun v _ => bind_ne (want_ne _ _) fun r3 _ => ite_ne (fun _ => bind_ne (want_ne _ _) fun _ _ => ok_ne _) (fun _ => bind_ne (want_ne _ _) fun _ _ => bind_ne (number_ne _ _) fun _ _ => ?_)
  exact ite_ne (fun _ => er_ne (by simp)) (fun _ => bind_ne (want_ne _ _) fun _ _ => ok_ne _)
theorem globals_suf (f : Nat) : ∀ had r l r', globals f had r = .ok (l, r') → r' <:+ r := by
  induction f with
  | zero => intro had r l r' h; cases h
  | succ f ih =>
    intro had r l r' h
    rw [globals] at h
    split at h
    · split at h
      · cases h
      · obtain ⟨⟨g, r1⟩, h1, h2⟩ := bind_ok h
        obtain ⟨⟨l', r2⟩, h3, h4⟩ := bind_ok h2
        cases h4
        exact (ih _ _ _ _ h3).trans ((global_suf h1).trans (stp_suf r))
    · cases h
      exact List.suffix_refl _
theorem globals_ne (f : Nat) : ∀ had r, 12 ≤ f + had → 1 ≤ f → had ≤ 10 → globals f had r ≠ out := by
  induction f with
  | zero => intro had r _ h; omega
  | succ f ih =>
    intro had r h1 _ h2
    rw [globals]
    refine ite_ne (fun _ => ite_ne (fun _ => er_ne (by simp)) (fun hh => bind_ne (global_ne _) fun v _ => bind_ne (ih _ _ (by omega) (by omega) (by omega)) fun _ _ => ok_ne _)) (fun _ => ok_ne _)
theorem proc_suf {f : Nat} {r r' : List Tok} {p : Pr} (hg : Gd r) (h : proc f r = .ok (p, r')) : r' <:+ r := by
  unfold proc at h
  obtain ⟨r1, h1, h2⟩ := bind_ok h
  have k1 := want_suf h1
  obtain ⟨⟨n, r2⟩, h3, h4⟩ := bind_ok h2
  have k2 := (name_lt h3).1.trans k1
  obtain ⟨r4, h5, h6⟩ := bind_ok h4
  have k4 := (want_suf h5).trans ((ifT_suf r2 mStar).trans k2)
  obtain ⟨⟨ps, r5⟩, h7, h8⟩ := bind_ok h6
  have k5 : r5 <:+ r := by
    split at h7
    · cases h7; exact k4
    · exact (names_suf _ _ _ _ _ _ h7).trans k4
  obtain ⟨r6, h9, h10⟩ := bind_ok h8
  obtain ⟨r7, h11, h12⟩ := bind_ok h10
  have k7 := (want_suf h11).trans ((want_suf h9).trans k5)
  obtain ⟨⟨vs, r8⟩, h13, h14⟩ := bind_ok h12
  have k8 : r8 <:+ r := by
    split at h13
    · obtain ⟨⟨vs', r8'⟩, h15, h16⟩ := bind_ok h13
      obtain ⟨r9, h17, h18⟩ := bind_ok h16
      cases h18
      exact (want_suf h17).trans ((names_suf _ _ _ _ _ _ h15).trans ((stp_suf r7).trans k7))
    · cases h13; exact k7
  obtain ⟨r9, h15, h16⟩ := bind_ok h14
  have k9 := (want_suf h15).trans k8
  obtain ⟨⟨b, r10⟩, h17, h18⟩ := bind_ok h16
  have k10 := (sx_lt f _ _ _ _ _ (hg.suf k9) h17).1.trans k9
  obtain ⟨r11, h19, h20⟩ := bind_ok h18
  obtain ⟨r12, h21, h22⟩ := bind_ok h20
  cases h22
  exact (want_suf h21).trans ((want_suf h19).trans k10)
theorem proc_ne {f : Nat} {r : List Tok} (hg : Gd r) (hf : 10 * r.length + 6 ≤ f) : proc f r ≠ out := by
  unfold proc
  refine bind_ne (want_ne _ _) fun r1 h1 => bind_ne (name_ne _) ?_
  rintro ⟨n, r2⟩ h3
  have k2 := (name_lt h3).1.trans (want_suf h1)
  refine bind_ne (want_ne _ _) fun r4 h5 => ?_
  have k4 := (want_suf h5).trans ((ifT_suf r2 mStar).trans k2)
  refine bind_ne (ite_ne (fun _ => ok_ne _) (fun _ => names_ne _ _ _ _ (by omega) (by omega))) ?_
  rintro ⟨ps, r5⟩ h7
  have k5 : r5 <:+ r := by
    split at h7
    · cases h7; exact k4
    · exact (names_suf _ _ _ _ _ _ h7).trans k4
  refine bind_ne (want_ne _ _) fun r6 h9 => bind_ne (want_ne _ _) fun r7 h11 => ?_
  have k7 := (want_suf h11).trans ((want_suf h9).trans k5)
  refine bind_ne (ite_ne (fun _ => bind_ne (names_ne _ _ _ _ (by omega) (by omega)) fun _ _ => bind_ne (want_ne _ _) fun _ _ => ok_ne _) (fun _ => ok_ne _)) ?_
  rintro ⟨vs, r8⟩ h13
  have k8 : r8 <:+ r := by
    split at h13
    · obtain ⟨⟨vs', r8'⟩, h15, h16⟩ := bind_ok h13
      obtain ⟨r9, h17, h18⟩ := bind_ok h16
      cases h18
      exact (want_suf h17).trans ((names_suf _ _ _ _ _ _ h15).trans ((stp_suf r7).trans k7))
    · cases h13; exact k7
  refine bind_ne (want_ne _ _) fun r9 h15 => ?_
  have k9 := (want_suf h15).trans k8
  have := k9.length_le
  exact bind_ne (sx_fuel f _ _ _ (hg.suf k9) (by omega) (by omega) (by omega)) fun _ _ => bind_ne (want_ne _ _) fun _ _ => bind_ne (want_ne _ _) fun _ _ => ok_ne _
theorem procs_suf (f : Nat) : ∀ g had r l r', Gd r → procs f g had r = .ok (l, r') → r' <:+ r := by
  induction f with
  | zero => intro g had r l r' _ h; cases h
  | succ f ih =>
    intro g had r l r' hg h
    rw [procs] at h
    split at h
    · split at h
      · cases h
      · obtain ⟨⟨p, r1⟩, h1, h2⟩ := bind_ok h
        have k1 := proc_suf hg h1
        obtain ⟨⟨l', r2⟩, h3, h4⟩ := bind_ok h2
        cases h4
        exact (ih _ _ _ _ _ (hg.suf k1) h3).trans k1
    · cases h
      exact List.suffix_refl _
theorem procs_ne (f : Nat) : ∀ g had r, Gd r → 10 * r.length + 6 ≤ g → 12 ≤ f + had → 1 ≤ f → had ≤ 10 → procs f g had r ≠ out := by
  induction f with
  | zero => intro g had r _ _ _ h; omega
  | succ f ih =>
    intro g had r hg hf h1 _ h2
    rw [procs]
    refine ite_ne (fun _ => ite_ne (fun _ => er_ne (by simp)) (fun hh => bind_ne (proc_ne hg hf) ?_)) (fun _ => ok_ne _)
    rintro ⟨p, r1⟩ h3
    have k1 := proc_suf hg h3
    have := k1.length_le
    exact bind_ne (ih _ _ _ (hg.suf k1) (by omega) (by omega) (by omega) (by omega)) fun _ _ => ok_ne _
theorem module_ne {f : Nat} {r : List Tok} (hg : Gd r) (hf : 10 * r.length + 6 ≤ f) : module f r ≠ out := by
  unfold module
  refine bind_ne (want_ne _ _) fun r1 h1 => bind_ne (name_ne _) ?_
  rintro ⟨n, r2⟩ h3
  have k2 := (name_lt h3).1.trans (want_suf h1)
  refine bind_ne (want_ne _ _) fun r3 h5 => ?_
  have k3 := (want_suf h5).trans k2
  refine bind_ne (ite_ne (fun _ => bind_ne (names_ne _ _ _ _ (by omega) (by omega)) fun _ _ => bind_ne (want_ne _ _) fun _ _ => ok_ne _) (fun _ => ok_ne _)) ?_
  rintro ⟨vs, r4⟩ h7
  have k4 : r4 <:+ r := by
    split at h7
    · obtain ⟨⟨vs', r8'⟩, h15, h16⟩ := bind_ok h7
      obtain ⟨r9, h17, h18⟩ := bind_ok h16
      cases h18
      exact (want_suf h17).trans ((names_suf _ _ _ _ _ _ h15).trans ((stp_suf r3).trans k3))
    · cases h7; exact k3
  refine bind_ne (globals_ne _ _ _ (by omega) (by omega) (by omega)) ?_
  rintro ⟨gs, r5⟩ h9
  have k5 := (globals_suf _ _ _ _ _ h9).trans k4
  have := k5.length_le
  refine bind_ne (procs_ne _ _ _ _ (hg.suf k5) (by omega) (by omega) (by omega) (by omega)) ?_
  rintro ⟨ps, r6⟩ h11
  have k6 := (procs_suf _ _ _ _ _ _ (hg.suf k5) h11).trans k5
  refine bind_ne (want_ne _ _) fun r7 h13 => ?_
  have k7 := (want_suf h13).trans k6
  have := k7.length_le
  refine bind_ne (sx_fuel f _ _ _ (hg.suf k7) (by omega) (by omega) (by omega)) fun _ _ => bind_ne (want_ne _ _) fun _ _ => bind_ne (want_ne _ _) fun _ _ => ite_ne (fun _ => ok_ne _) (fun _ => er_ne (by simp))
end Tp
/- What was read is well made. -/
namespace Tp
def wt (r : List Tok) : Nat := (r.map fun t => t.text.length).sum
/- a token as it is cut -/
structure Tk (t : Tok) : Prop where
  k0 : t.kind = 0 → t.text = []
  k1 : t.kind = 1 → ∃ c l, t.text = c :: l ∧ letter c = true ∧ ∀ d, d ∈ t.text → ld d = true
  k2 : t.kind = 2 → t.text ≠ [] ∧ ∀ d, d ∈ t.text → digit d = true
  k3 : t.kind = 3 → t.text ∈ marks
  kk : t.kind ≤ 3
def Tks (r : List Tok) : Prop := ∀ t, t ∈ r → Tk t
theorem Tks.gd {r : List Tok} (h : Tks r) : Gd r := fun t ht => (h t ht).k0
theorem Tks.suf {r r' : List Tok} (h : Tks r) (k : r' <:+ r) : Tks r' := fun t ht => h t (k.subset ht)
theorem wt_stp (r : List Tok) : wt (stp r) + (if (hd r).kind = 0 then 0 else (tx r).length) = wt r := by
  unfold stp
  split
  · rfl
  · cases r with
    | nil => rfl
    | cons t l => simp [wt, tx, hd]; omega
theorem wt_step {r : List Tok} (h : Tks r) : wt (stp r) + (tx r).length = wt r := by
  have := wt_stp r
  split at this
  · rename_i hz
    have : tx r = [] := by
      cases r with
      | nil => rfl
      | cons t l => exact (h t (by simp)).k0 hz
    rw [this]; simpa using ‹_›
  · exact this
def okn (n : Bs) : Prop := (∃ c l, n = c :: l ∧ letter c = true ∧ ∀ d, d ∈ n → ld d = true) ∧ n ∉ kept ∧ n.length ≤ 10
theorem name_okn {r r' : List Tok} {n : Bs} (hT : Tks r) (h : name r = .ok (n, r')) : okn n ∧ r' = stp r ∧ 1 + wt r' ≤ wt r := by
  obtain ⟨h1, h2, h3, rfl, rfl⟩ := name_ok' h
  have hk : ∃ c l, tx r = c :: l ∧ letter c = true ∧ ∀ d, d ∈ tx r → ld d = true := by
    cases r with
    | nil => exact absurd h1 (by decide)
    | cons t l => exact (hT t (by simp)).k1 h1
  refine ⟨⟨hk, h2, h3⟩, rfl, ?_⟩
  obtain ⟨c, l, e, _⟩ := hk
  have := wt_step hT
  rw [e] at this
  simp at this; omega
def lowN (k : Nat) (l : List X) : Nat := if isLow k l then 1 else 0
def DX : List X → Nat
  | [] => 0
  | ⟨code, _, _, _, _, op, le, ri, ar⟩ :: xs =>
    max (if code = 3 then 1 + DX le else if code = 4 then 1 + (lowN 5 le + DX le) else if code = 5 then max (lowN (lvl op) le + DX le) (lowN (lvl op + 1) ri + DX ri) else if code = 6 then (if ar.isEmpty then 0 else 1 + DX ar) else 0) (DX xs)
def rN (m : Bs) : Nat := if m = [] then 1 else 3
def NX : List X → Nat
  | [] => 0
  | ⟨code, _, _, m, _, op, le, ri, ar⟩ :: xs =>
    (if code = 3 then rN m + 2 + NX le else if code = 4 then 1 + (2 * lowN 5 le + NX le) else if code = 5 then 1 + (2 * lowN (lvl op) le + NX le) + (2 * lowN (lvl op + 1) ri + NX ri) else if code = 6 then rN m + 2 + (ar.length - 1) + NX ar else if code = 2 then rN m else 1) + NX xs
def okr (m n : Bs) : Prop := (m = [] ∨ okn m) ∧ okn n
def WX : List X → Prop
  | [] => True
  | ⟨code, _, n, m, nm, op, le, ri, ar⟩ :: xs =>
    (code = 1 ∧ n ≤ top ∧ m = [] ∧ nm = [] ∧ op = [] ∧ le = [] ∧ ri = [] ∧ ar = [] ∨
     code = 2 ∧ n = 0 ∧ okr m nm ∧ op = [] ∧ le = [] ∧ ri = [] ∧ ar = [] ∨
     code = 3 ∧ n = 0 ∧ okr m nm ∧ op = [] ∧ WX le ∧ le.length = 1 ∧ ri = [] ∧ ar = [] ∨
     code = 4 ∧ n = 0 ∧ m = [] ∧ nm = [] ∧ (op = mMinus ∨ op = wNot) ∧ WX le ∧ le.length = 1 ∧ ri = [] ∧ ar = [] ∨
     code = 5 ∧ n = 0 ∧ m = [] ∧ nm = [] ∧ lvl op < 5 ∧ WX le ∧ le.length = 1 ∧ WX ri ∧ ri.length = 1 ∧ ar = [] ∨
     code = 6 ∧ n = 0 ∧ okr m nm ∧ op = [] ∧ le = [] ∧ ri = [] ∧ WX ar) ∧ WX xs
theorem len1 {α : Type} {l : List α} (h : l.length = 1) : ∃ x, l = [x] := by
  match l, h with
  | [x], _ => exact ⟨x, rfl⟩
theorem refT_okr {r r' : List Tok} {m n : Bs} (hT : Tks r) (h : refT r = .ok ((m, n), r')) : okr m n ∧ rN m + wt r' ≤ wt r := by
  unfold refT at h
  obtain ⟨⟨n1, r1⟩, h1, h2⟩ := bind_ok h
  obtain ⟨a1, rfl, a2⟩ := name_okn hT h1
  simp only at h2
  have hT1 := hT.suf (stp_suf r)
  split at h2
  · rename_i hd1
    obtain ⟨⟨n2, r2⟩, h3, h4⟩ := bind_ok h2
    have hs := wt_step hT1
    rw [hd1] at hs
    simp [mDot] at hs
    obtain ⟨b1, rfl, b2⟩ := name_okn (hT1.suf (stp_suf _)) h3
    cases h4
    refine ⟨⟨Or.inr a1, b1⟩, ?_⟩
    simp only
    unfold rN
    split <;> omega
  · cases h2
    exact ⟨⟨Or.inl rfl, a1⟩, by simpa [rN] using a2⟩
theorem lowN_mono {j k : Nat} (h : j ≤ k) (l : List X) : lowN j l ≤ lowN k l := by
  unfold lowN
  match l with
  | [] => simp [isLow]
  | x :: _ =>
    simp only [isLow]
    by_cases h5 : x.code = 5
    · by_cases h1 : lvl x.op < j
      · have : lvl x.op < k := by omega
        simp [h5, h1, this]
      · simp [h5, h1]
    · simp [h5]
theorem lowN_one (k : Nat) (l : List X) : lowN k l ≤ 1 := by unfold lowN; split <;> omega
theorem lvl_len {s : Bs} (h : lvl s < 5) : 1 ≤ s.length := by
  cases s with
  | nil => exact absurd h (by decide)
  | cons c l => simp
/- what reading at k leaves -/
structure Rx (k o : Nat) (x : List X) (r r' : List Tok) : Prop where
  one : k ≠ 7 → x.length = 1
  some : 1 ≤ x.length
  wx : WX x
  dx : k ≠ 7 → o + lowN (if k < 10 then k else k - 10) x + DX x ≤ 10
  d7 : k = 7 → o + 1 + DX x ≤ 10
  nx : k ≠ 7 → k < 10 → NX x + 2 * lowN k x + wt r' ≤ wt r
  n7 : k = 7 → NX x + (x.length - 1) + wt r' ≤ wt r
theorem WX_app : ∀ (l m : List X), WX l → WX m → WX (l ++ m) := by
  intro l
  induction l with
  | nil => intro m _ h; exact h
  | cons x xs ih =>
    intro m h k
    obtain ⟨code, pos, n, md, nm, op, le, ri, ar⟩ := x
    rw [List.cons_append, WX]
    rw [WX] at h
    exact ⟨h.1, ih m h.2 k⟩
theorem DX_app : ∀ (l m : List X), DX (l ++ m) = max (DX l) (DX m) := by
  intro l
  induction l with
  | nil => intro m; simp [DX]
  | cons x xs ih =>
    intro m
    obtain ⟨code, pos, n, md, nm, op, le, ri, ar⟩ := x
    rw [List.cons_append, DX, DX, ih]
    omega
theorem NX_app : ∀ (l m : List X), NX (l ++ m) = NX l + NX m := by
  intro l
  induction l with
  | nil => intro m; simp [NX]
  | cons x xs ih =>
    intro m
    obtain ⟨code, pos, n, md, nm, op, le, ri, ar⟩ := x
    rw [List.cons_append, NX, NX, ih]
    omega
theorem low_of_code {k : Nat} {x : X} {xs : List X} (h : x.code ≠ 5) : lowN k (x :: xs) = 0 := by
  simp [lowN, isLow, h]
theorem DX1 (x : X) : DX [x] = (if x.code = 3 then 1 + DX x.left else if x.code = 4 then 1 + (lowN 5 x.left + DX x.left) else if x.code = 5 then max (lowN (lvl x.op) x.left + DX x.left) (lowN (lvl x.op + 1) x.right + DX x.right) else if x.code = 6 then (if x.args.isEmpty then 0 else 1 + DX x.args) else 0) := by
  obtain ⟨code, pos, n, md, nm, op, le, ri, ar⟩ := x
  rw [DX, DX]; simp
theorem NX1 (x : X) : NX [x] = (if x.code = 3 then rN x.mod + 2 + NX x.left else if x.code = 4 then 1 + (2 * lowN 5 x.left + NX x.left) else if x.code = 5 then 1 + (2 * lowN (lvl x.op) x.left + NX x.left) + (2 * lowN (lvl x.op + 1) x.right + NX x.right) else if x.code = 6 then rN x.mod + 2 + (x.args.length - 1) + NX x.args else if x.code = 2 then rN x.mod else 1) := by
  obtain ⟨code, pos, n, md, nm, op, le, ri, ar⟩ := x
  rw [NX, NX]; simp
theorem WX_nil : WX [] := by rw [WX]; trivial
theorem want_wt {s : Bs} {r r' : List Tok} (hT : Tks r) (h : want s r = .ok r') : r' = stp r ∧ wt r' + s.length = wt r := by
  obtain ⟨h1, rfl⟩ := want_ok h
  have := wt_step hT
  rw [h1] at this
  exact ⟨rfl, this⟩
theorem ex_rx (f : Nat) : ∀ k o a acc r x r', Tks r → (k ≤ 7 ∨ 10 ≤ k ∧ k < 15) → (k = 6 → o ≤ 10) → (10 ≤ k → acc.length = 1 ∧ WX acc ∧ o + lowN (k - 10) acc + DX acc ≤ 10) → ex f k o a acc r = .ok (x, r') →
    Rx k o x r r' ∧ (10 ≤ k → NX x + 2 * lowN (k - 10) x + wt r' ≤ NX acc + 2 * lowN (k - 10) acc + wt r) := by
  induction f with
  | zero => intro k o a acc r x r' _ _ _ _ h; rw [ex] at h; cases h
  | succ f ih =>
    intro k o a acc r x r' hT hk h6o hacc h
    have T0 := hT.suf (stp_suf r)
    have w0 := wt_step hT
    by_cases h6 : k = 6
    · subst h6
      have ho := h6o rfl
      rw [ex6] at h
      obtain ⟨⟨⟨m, n⟩, r2⟩, h1, h2⟩ := bind_ok h
      obtain ⟨kr, kw⟩ := refT_okr hT h1
      have T2 := hT.suf (refT_lt h1).1
      have T3 := T2.suf (stp_suf r2)
      have w2 := wt_step T2
      simp only [behind] at h2
      split at h2
      · rename_i hb
        rw [hb] at w2
        simp [mLb] at w2
        obtain ⟨⟨y, r3⟩, h3, h4⟩ := bind_ok h2
        obtain ⟨q, _⟩ := ih 0 (o + 1) 0 [] _ _ _ T3 (by omega) (by omega) (by omega) h3
        obtain ⟨r4, h5, h6⟩ := bind_ok h4
        have w4 := (want_wt (T3.suf (ex_lt f _ _ _ _ _ _ _ T3.gd h3).1) h5).2
        simp [mRb] at w4
        cases h6
        have q1 := q.one (by omega)
        have q4 := q.dx (by omega)
        have q5 := q.nx (by omega) (by omega)
        refine ⟨⟨fun _ => rfl, by simp, ?_, fun _ => ?_, fun e => by omega, fun _ _ => ?_, fun e => by omega⟩, fun e => by omega⟩
        · rw [WX]; exact ⟨Or.inr (Or.inr (Or.inl ⟨rfl, rfl, kr, rfl, q.wx, q1, rfl, rfl⟩)), WX_nil⟩
        · rw [low_of_code (by simp), DX1]; simp; omega
        · rw [low_of_code (by simp), NX1]; simp; omega
      · split at h2
        · rename_i hb
          rw [hb] at w2
          simp [mLp] at w2
          split at h2
          · rename_i hb3
            have w3 := wt_step T3
            rw [hb3] at w3
            simp [mRp] at w3
            cases h2
            refine ⟨⟨fun _ => rfl, by simp, ?_, fun _ => ?_, fun e => by omega, fun _ _ => ?_, fun e => by omega⟩, fun e => by omega⟩
            · rw [WX]; exact ⟨Or.inr (Or.inr (Or.inr (Or.inr (Or.inr ⟨rfl, rfl, kr, rfl, rfl, rfl, WX_nil⟩)))), WX_nil⟩
            · rw [low_of_code (by simp), DX1]; simp; omega
            · rw [low_of_code (by simp), NX1]; simp [NX]; omega
          · obtain ⟨⟨y, r3⟩, h3, h4⟩ := bind_ok h2
            obtain ⟨q, _⟩ := ih 7 o 0 [] _ _ _ T3 (by omega) (by omega) (by omega) h3
            obtain ⟨r4, h5, h6⟩ := bind_ok h4
            have w4 := (want_wt (T3.suf (ex_lt f _ _ _ _ _ _ _ T3.gd h3).1) h5).2
            simp [mRp] at w4
            cases h6
            have q1 := q.some
            have q4 := q.d7 rfl
            have q5 := q.n7 rfl
            have qe : y.isEmpty = false := by cases y <;> simp at q1 ⊢
            refine ⟨⟨fun _ => rfl, by simp, ?_, fun _ => ?_, fun e => by omega, fun _ _ => ?_, fun e => by omega⟩, fun e => by omega⟩
            · rw [WX]; exact ⟨Or.inr (Or.inr (Or.inr (Or.inr (Or.inr ⟨rfl, rfl, kr, rfl, rfl, rfl, q.wx⟩)))), WX_nil⟩
            · rw [low_of_code (by simp), DX1]; simp [qe]; omega
            · rw [low_of_code (by simp), NX1]; simp; omega
        · cases h2
          refine ⟨⟨fun _ => rfl, by simp, ?_, fun _ => ?_, fun e => by omega, fun _ _ => ?_, fun e => by omega⟩, fun e => by omega⟩
          · rw [WX]; exact ⟨Or.inr (Or.inl ⟨rfl, rfl, kr, rfl, rfl, rfl, rfl⟩), WX_nil⟩
          · rw [low_of_code (by simp), DX1]; simp; omega
          · rw [low_of_code (by simp), NX1]; simp; omega
    · rw [ex] at h
      split at h
      · rename_i h5
        obtain ⟨⟨y, r1⟩, h1, h2⟩ := bind_ok h
        obtain ⟨q, _⟩ := ih (k + 1) o 0 [] _ _ _ hT (by omega) (by intro e; omega) (by omega) h1
        have q1 := q.one (by omega)
        have q4 := q.dx (by omega)
        have q5 := q.nx (by omega) (by omega)
        rw [if_pos (by omega)] at q4
        have hm := lowN_mono (show k ≤ k + 1 by omega) y
        have e10 : 10 + k - 10 = k := by omega
        obtain ⟨u, u2⟩ := ih (10 + k) o (at' r) y _ _ _ (hT.suf (ex_lt f _ _ _ _ _ _ _ hT.gd h1).1) (by omega) (by omega) (fun _ => ⟨q1, q.wx, by rw [e10]; omega⟩) h2
        have u3 := u2 (by omega)
        have u4 := u.dx (by omega)
        rw [if_neg (by omega), e10] at u4
        rw [e10] at u3
        exact ⟨⟨fun _ => u.one (by omega), u.some, u.wx, fun _ => by rw [if_pos (by omega)]; exact u4, fun e => by omega, fun _ _ => by omega, fun e => by omega⟩, fun e => by omega⟩
      · split at h
        · rename_i h5n h5
          subst h5
          split at h
          · cases h
          · rename_i ho
            split at h
            · obtain ⟨⟨n, r1⟩, h1, h2⟩ := bind_ok h
              obtain ⟨n1, n2, n3, rfl⟩ := number_ok' h1
              have hl : 1 ≤ (tx r).length := by
                cases r with
                | nil => exact absurd n1 (by decide)
                | cons t l =>
                  have := ((hT t (by simp)).k2 n1).1
                  show 1 ≤ t.text.length
                  cases e : t.text with
                  | nil => exact absurd e this
                  | cons c l => simp
              cases h2
              refine ⟨⟨fun _ => rfl, by simp, ?_, fun _ => ?_, fun e => by omega, fun _ _ => ?_, fun e => by omega⟩, fun e => by omega⟩
              · rw [WX]; exact ⟨Or.inl ⟨rfl, n3, rfl, rfl, rfl, rfl, rfl, rfl⟩, WX_nil⟩
              · rw [low_of_code (by simp), DX1]; simp; omega
              · rw [low_of_code (by simp), NX1]; simp; omega
            · split at h
              · rename_i hm
                obtain ⟨⟨y, r1⟩, h1, h2⟩ := bind_ok h
                obtain ⟨q, _⟩ := ih 5 (o + 1) 0 [] _ _ _ T0 (by omega) (by omega) (by omega) h1
                have q1 := q.one (by omega)
                have q4 := q.dx (by omega)
                have q5 := q.nx (by omega) (by omega)
                rw [if_pos (by omega)] at q4
                have hl : 1 ≤ (tx r).length := by rcases hm with hm | hm <;> rw [hm] <;> decide
                cases h2
                refine ⟨⟨fun _ => rfl, by simp, ?_, fun _ => ?_, fun e => by omega, fun _ _ => ?_, fun e => by omega⟩, fun e => by omega⟩
                · rw [WX]; exact ⟨Or.inr (Or.inr (Or.inr (Or.inl ⟨rfl, rfl, rfl, rfl, hm, q.wx, q1, rfl, rfl⟩))), WX_nil⟩
                · rw [low_of_code (by simp), DX1]; simp; omega
                · rw [low_of_code (by simp), NX1]; simp; omega
              · split at h
                · rename_i hm
                  rw [hm] at w0
                  simp [mLp] at w0
                  obtain ⟨⟨y, r1⟩, h1, h2⟩ := bind_ok h
                  obtain ⟨q, _⟩ := ih 0 (o + 1) 0 [] _ _ _ T0 (by omega) (by omega) (by omega) h1
                  have q1 := q.one (by omega)
                  have q4 := q.dx (by omega)
                  have q5 := q.nx (by omega) (by omega)
                  rw [if_pos (by omega)] at q4
                  obtain ⟨r2, h3, h4⟩ := bind_ok h2
                  have w4 := (want_wt (T0.suf (ex_lt f _ _ _ _ _ _ _ T0.gd h1).1) h3).2
                  simp [mRp] at w4
                  cases h4
                  have := lowN_one 5 x
                  exact ⟨⟨fun _ => q1, q.some, q.wx, fun _ => by rw [if_pos (by omega)]; omega, fun e => by omega, fun _ _ => by omega, fun e => by omega⟩, fun e => by omega⟩
                · obtain ⟨q, _⟩ := ih 6 o 0 [] _ _ _ hT (by omega) (by omega) (by omega) h
                  have q4 := q.dx (by omega)
                  have q5 := q.nx (by omega) (by omega)
                  rw [if_pos (by omega)] at q4
                  have := lowN_mono (show 5 ≤ 6 by omega) x
                  exact ⟨⟨fun _ => q.one (by omega), q.some, q.wx, fun _ => by rw [if_pos (by omega)]; omega, fun e => by omega, fun _ _ => by omega, fun e => by omega⟩, fun e => by omega⟩
        · split at h
          · rename_i h7
            subst h7
            obtain ⟨⟨y, r1⟩, h1, h2⟩ := bind_ok h
            obtain ⟨q, _⟩ := ih 0 (o + 1) 0 [] _ _ _ hT (by omega) (by omega) (by omega) h1
            have q1 := q.one (by omega)
            have q4 := q.dx (by omega)
            have q5 := q.nx (by omega) (by omega)
            rw [if_pos (by omega)] at q4
            have T1 := hT.suf (ex_lt f _ _ _ _ _ _ _ hT.gd h1).1
            have w1 := wt_step T1
            simp only at h2
            split at h2
            · rename_i hc
              rw [hc] at w1
              simp [mComma] at w1
              obtain ⟨⟨l, r2⟩, h3, h4⟩ := bind_ok h2
              obtain ⟨u, _⟩ := ih 7 o 0 [] _ _ _ (T1.suf (stp_suf r1)) (by omega) (by omega) (by omega) h3
              have u1 := u.some
              have u4 := u.d7 rfl
              have u5 := u.n7 rfl
              cases h4
              refine ⟨⟨fun e => absurd rfl e, by simp; omega, WX_app _ _ q.wx u.wx, fun e => absurd rfl e, fun _ => by simp only [DX_app]; omega, fun e => absurd rfl e, fun _ => ?_⟩, fun e => by omega⟩
              rw [NX_app, List.length_append, q1]
              simp only
              omega
            · cases h2
              exact ⟨⟨fun e => absurd rfl e, q.some, q.wx, fun e => absurd rfl e, fun _ => by omega, fun e => absurd rfl e, fun _ => by rw [q1]; omega⟩, fun e => by omega⟩
          · split at h
            · rename_i h7 hl
              have hk10 : 10 ≤ k := by omega
              obtain ⟨c1, c2, c3⟩ := hacc hk10
              have ho := lvl_len (s := tx r) (by omega)
              obtain ⟨⟨y, r1⟩, h1, h2⟩ := bind_ok h
              obtain ⟨q, _⟩ := ih (k - 10 + 1) o 0 [] _ _ _ T0 (by omega) (by omega) (by omega) h1
              have q1 := q.one (by omega)
              have q4 := q.dx (by omega)
              have q5 := q.nx (by omega) (by omega)
              rw [if_pos (by omega)] at q4
              have hlow : lowN (k - 10) [(⟨5, a, 0, [], [], tx r, acc, y, []⟩ : X)] = 0 := by simp [lowN, isLow, hl]
              have hD : DX [(⟨5, a, 0, [], [], tx r, acc, y, []⟩ : X)] = max (lowN (k - 10) acc + DX acc) (lowN (k - 10 + 1) y + DX y) := by rw [DX1]; simp [hl]
              have hN : NX [(⟨5, a, 0, [], [], tx r, acc, y, []⟩ : X)] = 1 + (2 * lowN (k - 10) acc + NX acc) + (2 * lowN (k - 10 + 1) y + NX y) := by rw [NX1]; simp [hl]
              obtain ⟨u, u2⟩ := ih k o a [⟨5, a, 0, [], [], tx r, acc, y, []⟩] _ _ _ (T0.suf (ex_lt f _ _ _ _ _ _ _ T0.gd h1).1) hk (by omega) (fun _ => ⟨rfl, by
                rw [WX]; exact ⟨Or.inr (Or.inr (Or.inr (Or.inr (Or.inl ⟨rfl, rfl, rfl, rfl, by omega, c2, c1, q.wx, q1, rfl⟩)))), WX_nil⟩, by rw [hlow, hD]; omega⟩) h2
              have u3 := u2 hk10
              rw [hlow, hN] at u3
              refine ⟨⟨u.one, u.some, u.wx, u.dx, u.d7, fun e e2 => by omega, fun e => by omega⟩, fun _ => by omega⟩
            · cases h
              have hk10 : 10 ≤ k := by omega
              obtain ⟨c1, c2, c3⟩ := hacc hk10
              exact ⟨⟨fun _ => c1, by omega, c2, fun _ => by rw [if_neg (by omega)]; exact c3, fun e => by omega, fun _ e => by omega, fun e => by omega⟩, fun _ => by omega⟩
end Tp
/- What is written is read: EXPRs. -/
namespace Tp
/- numbers -/
theorem digit_of (d : Nat) (h : d < 10) : digit (UInt8.ofNat (48 + d)) = true ∧ (UInt8.ofNat (48 + d)).toNat - 48 = d := by
  have : ∀ d : Fin 10, digit (UInt8.ofNat (48 + d.val)) = true ∧ (UInt8.ofNat (48 + d.val)).toNat - 48 = d.val := by decide
  exact this ⟨d, h⟩
theorem dec_all : ∀ n : Nat, (∀ c, c ∈ dec n → digit c = true) ∧ dec n ≠ [] ∧ val (dec n) = n := by
  intro n
  induction n using Nat.strongRecOn with
  | _ n ih =>
    rw [dec]
    split
    · obtain ⟨h1, h2⟩ := digit_of n ‹_›
      refine ⟨by intro c hc; rw [List.mem_singleton] at hc; subst hc; exact h1, by simp, ?_⟩
      simp only [val, List.foldl_cons, List.foldl_nil]
      omega
    · obtain ⟨a, b, c⟩ := ih (n / 10) (by omega)
      obtain ⟨h1, h2⟩ := digit_of (n % 10) (by omega)
      refine ⟨by intro d hd; simp only [List.mem_append, List.mem_singleton] at hd; rcases hd with hd | rfl; exact a d hd; exact h1, by simp, ?_⟩
      unfold val at c ⊢
      rw [List.foldl_append, c]
      simp only [List.foldl_cons, List.foldl_nil]
      omega
end Tp
