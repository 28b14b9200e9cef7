import Derived.Test.YtfcdphgggdioeaaGreatDoorKPa
import Derived.KernelRfl
/- What was read is well made. -/
namespace Tp
def wt (r : List Tok) : Nat := (r.map fun t => t.text.length).sum
/- a token as it is cut -/
structure Tk (t : Tok) : Prop where
  k0 : t.kind = 0 → t.text = []
  k1 : t.kind = 1 → ∃ c l, t.text = c :: l ∧ letter c = true ∧ ∀ d, d ∈ t.text → ld d = true
  k2 : t.kind = 2 → t.text ≠ [] ∧ ∀ d, d ∈ t.text → digit d = true
  k3 : t.kind = 3 → t.text ∈ marks
  kk : t.kind ≤ 3
def Tks (r : List Tok) : Prop := ∀ t, t ∈ r → Tk t
theorem Tks.gd {r : List Tok} (h : Tks r) : Gd r := fun t ht => (h t ht).k0
theorem Tks.suf {r r' : List Tok} (h : Tks r) (k : r' <:+ r) : Tks r' := fun t ht => h t (k.subset ht)
theorem wt_stp (r : List Tok) : wt (stp r) + (if (hd r).kind = 0 then 0 else (tx r).length) = wt r := by
  unfold stp
  split
  · rfl
  · cases r with
    | nil => rfl
    | cons t l => simp [wt, tx, hd]; omega
theorem wt_step {r : List Tok} (h : Tks r) : wt (stp r) + (tx r).length = wt r := by
  have := wt_stp r
  split at this
  · rename_i hz
    have : tx r = [] := by
      cases r with
      | nil => rfl
      | cons t l => exact (h t (by simp)).k0 hz
    rw [this]; simpa using ‹_›
  · exact this
def okn (n : Bs) : Prop := (∃ c l, n = c :: l ∧ letter c = true ∧ ∀ d, d ∈ n → ld d = true) ∧ n ∉ kept ∧ n.length ≤ 10
theorem name_okn {r r' : List Tok} {n : Bs} (hT : Tks r) (h : name r = .ok (n, r')) : okn n ∧ r' = stp r ∧ 1 + wt r' ≤ wt r := by
  obtain ⟨h1, h2, h3, rfl, rfl⟩ := name_ok' h
  have hk : ∃ c l, tx r = c :: l ∧ letter c = true ∧ ∀ d, d ∈ tx r → ld d = true := by
    cases r with
    | nil => exact absurd h1 (by decide)
    | cons t l => exact (hT t (by simp)).k1 h1
  refine ⟨⟨hk, h2, h3⟩, rfl, ?_⟩
  obtain ⟨c, l, e, _⟩ := hk
  have := wt_step hT
  rw [e] at this
  simp at this; omega
def lowN (k : Nat) (l : List X) : Nat := if isLow k l then 1 else 0
def DX : List X → Nat
  | [] => 0
  | ⟨code, _, _, _, _, op, le, ri, ar⟩ :: xs =>
    max (if code = 3 then 1 + DX le else if code = 4 then 1 + (lowN 5 le + DX le) else if code = 5 then max (lowN (lvl op) le + DX le) (lowN (lvl op + 1) ri + DX ri) else if code = 6 then (if ar.isEmpty then 0 else 1 + DX ar) else 0) (DX xs)
def rN (m : Bs) : Nat := if m = [] then 1 else 3
def NX : List X → Nat
  | [] => 0
  | ⟨code, _, _, m, _, op, le, ri, ar⟩ :: xs =>
    (if code = 3 then rN m + 2 + NX le else if code = 4 then 1 + (2 * lowN 5 le + NX le) else if code = 5 then 1 + (2 * lowN (lvl op) le + NX le) + (2 * lowN (lvl op + 1) ri + NX ri) else if code = 6 then rN m + 2 + (ar.length - 1) + NX ar else if code = 2 then rN m else 1) + NX xs
def okr (m n : Bs) : Prop := (m = [] ∨ okn m) ∧ okn n
def WX : List X → Prop
  | [] => True
  | ⟨code, _, n, m, nm, op, le, ri, ar⟩ :: xs =>
    (code = 1 ∧ n ≤ top ∧ m = [] ∧ nm = [] ∧ op = [] ∧ le = [] ∧ ri = [] ∧ ar = [] ∨
     code = 2 ∧ n = 0 ∧ okr m nm ∧ op = [] ∧ le = [] ∧ ri = [] ∧ ar = [] ∨
     code = 3 ∧ n = 0 ∧ okr m nm ∧ op = [] ∧ WX le ∧ le.length = 1 ∧ ri = [] ∧ ar = [] ∨
     code = 4 ∧ n = 0 ∧ m = [] ∧ nm = [] ∧ (op = mMinus ∨ op = wNot) ∧ WX le ∧ le.length = 1 ∧ ri = [] ∧ ar = [] ∨
     code = 5 ∧ n = 0 ∧ m = [] ∧ nm = [] ∧ lvl op < 5 ∧ WX le ∧ le.length = 1 ∧ WX ri ∧ ri.length = 1 ∧ ar = [] ∨
     code = 6 ∧ n = 0 ∧ okr m nm ∧ op = [] ∧ le = [] ∧ ri = [] ∧ WX ar) ∧ WX xs
theorem len1 {α : Type} {l : List α} (h : l.length = 1) : ∃ x, l = [x] := by
  match l, h with
  | [x], _ => exact ⟨x, rfl⟩
theorem refT_okr {r r' : List Tok} {m n : Bs} (hT : Tks r) (h : refT r = .ok ((m, n), r')) : okr m n ∧ rN m + wt r' ≤ wt r := by
  unfold refT at h
  obtain ⟨⟨n1, r1⟩, h1, h2⟩ := bind_ok h
  obtain ⟨a1, rfl, a2⟩ := name_okn hT h1
  simp only at h2
  have hT1 := hT.suf (stp_suf r)
  split at h2
  · rename_i hd1
    obtain ⟨⟨n2, r2⟩, h3, h4⟩ := bind_ok h2
    have hs := wt_step hT1
    rw [hd1] at hs
    simp [mDot] at hs
    obtain ⟨b1, rfl, b2⟩ := name_okn (hT1.suf (stp_suf _)) h3
    cases h4
    refine ⟨⟨Or.inr a1, b1⟩, ?_⟩
    simp only
    unfold rN
    split <;> omega
  · cases h2
    exact ⟨⟨Or.inl rfl, a1⟩, by simpa [rN] using a2⟩
theorem lowN_mono {j k : Nat} (h : j ≤ k) (l : List X) : lowN j l ≤ lowN k l := by
  unfold lowN
  match l with
  | [] => simp [isLow]
  | x :: _ =>
    simp only [isLow]
    by_cases h5 : x.code = 5
    · by_cases h1 : lvl x.op < j
      · have : lvl x.op < k := by omega
        simp [h5, h1, this]
      · simp [h5, h1]
    · simp [h5]
theorem lowN_one (k : Nat) (l : List X) : lowN k l ≤ 1 := by unfold lowN; split <;> omega
theorem lvl_len {s : Bs} (h : lvl s < 5) : 1 ≤ s.length := by
  cases s with
  | nil => exact absurd h (by decide)
  | cons c l => simp
/- what reading at k leaves -/
structure Rx (k o : Nat) (x : List X) (r r' : List Tok) : Prop where
  one : k ≠ 7 → x.length = 1
  some : 1 ≤ x.length
  wx : WX x
  dx : k ≠ 7 → o + lowN (if k < 10 then k else k - 10) x + DX x ≤ 10
  d7 : k = 7 → o + 1 + DX x ≤ 10
  nx : k ≠ 7 → k < 10 → NX x + 2 * lowN k x + wt r' ≤ wt r
  n7 : k = 7 → NX x + (x.length - 1) + wt r' ≤ wt r
theorem WX_app : ∀ (l m : List X), WX l → WX m → WX (l ++ m) := by
  intro l
  induction l with
  | nil => intro m _ h; exact h
  | cons x xs ih =>
    intro m h k
    obtain ⟨code, pos, n, md, nm, op, le, ri, ar⟩ := x
    rw [List.cons_append, WX]
    rw [WX] at h
    exact ⟨h.1, ih m h.2 k⟩
theorem DX_app : ∀ (l m : List X), DX (l ++ m) = max (DX l) (DX m) := by
  intro l
  induction l with
  | nil => intro m; simp [DX]
  | cons x xs ih =>
    intro m
    obtain ⟨code, pos, n, md, nm, op, le, ri, ar⟩ := x
    rw [List.cons_append, DX, DX, ih]
    omega
theorem NX_app : ∀ (l m : List X), NX (l ++ m) = NX l + NX m := by
  intro l
  induction l with
  | nil => intro m; simp [NX]
  | cons x xs ih =>
    intro m
    obtain ⟨code, pos, n, md, nm, op, le, ri, ar⟩ := x
    rw [List.cons_append, NX, NX, ih]
    omega
theorem low_of_code {k : Nat} {x : X} {xs : List X} (h : x.code ≠ 5) : lowN k (x :: xs) = 0 := by
  simp [lowN, isLow, h]
theorem DX1 (x : X) : DX [x] = (if x.code = 3 then 1 + DX x.left else if x.code = 4 then 1 + (lowN 5 x.left + DX x.left) else if x.code = 5 then max (lowN (lvl x.op) x.left + DX x.left) (lowN (lvl x.op + 1) x.right + DX x.right) else if x.code = 6 then (if x.args.isEmpty then 0 else 1 + DX x.args) else 0) := by
  obtain ⟨code, pos, n, md, nm, op, le, ri, ar⟩ := x
  rw [DX, DX]; simp
theorem NX1 (x : X) : NX [x] = (if x.code = 3 then rN x.mod + 2 + NX x.left else if x.code = 4 then 1 + (2 * lowN 5 x.left + NX x.left) else if x.code = 5 then 1 + (2 * lowN (lvl x.op) x.left + NX x.left) + (2 * lowN (lvl x.op + 1) x.right + NX x.right) else if x.code = 6 then rN x.mod + 2 + (x.args.length - 1) + NX x.args else if x.code = 2 then rN x.mod else 1) := by
  obtain ⟨code, pos, n, md, nm, op, le, ri, ar⟩ := x
  rw [NX, NX]; simp
theorem WX_nil : WX [] := by rw [WX]; trivial
theorem want_wt {s : Bs} {r r' : List Tok} (hT : Tks r) (h : want s r = .ok r') : r' = stp r ∧ wt r' + s.length = wt r := by
  obtain ⟨h1, rfl⟩ := want_ok h
  have := wt_step hT
  rw [h1] at this
  exact ⟨rfl, this⟩
theorem ex_rx (f : Nat) : ∀ k o a acc r x r', Tks r → (k ≤ 7 ∨ 10 ≤ k ∧ k < 15) → (k = 6 → o ≤ 10) → (10 ≤ k → acc.length = 1 ∧ WX acc ∧ o + lowN (k - 10) acc + DX acc ≤ 10) → ex f k o a acc r = .ok (x, r') →
    Rx k o x r r' ∧ (10 ≤ k → NX x + 2 * lowN (k - 10) x + wt r' ≤ NX acc + 2 * lowN (k - 10) acc + wt r) := by
  induction f with
  | zero => intro k o a acc r x r' _ _ _ _ h; rw [ex] at h; cases h
  | succ f ih =>
    intro k o a acc r x r' hT hk h6o hacc h
    have T0 := hT.suf (stp_suf r)
    have w0 := wt_step hT
    by_cases h6 : k = 6
    · subst h6
      have ho := h6o rfl
      rw [ex6] at h
      obtain ⟨⟨⟨m, n⟩, r2⟩, h1, h2⟩ := bind_ok h
      obtain ⟨kr, kw⟩ := refT_okr hT h1
      have T2 := hT.suf (refT_lt h1).1
      have T3 := T2.suf (stp_suf r2)
      have w2 := wt_step T2
      simp only [behind] at h2
      split at h2
      · rename_i hb
        rw [hb] at w2
        simp [mLb] at w2
        obtain ⟨⟨y, r3⟩, h3, h4⟩ := bind_ok h2
        obtain ⟨q, _⟩ := ih 0 (o + 1) 0 [] _ _ _ T3 (by omega) (by omega) (by omega) h3
        obtain ⟨r4, h5, h6⟩ := bind_ok h4
        have w4 := (want_wt (T3.suf (ex_lt f _ _ _ _ _ _ _ T3.gd h3).1) h5).2
        simp [mRb] at w4
        cases h6
        have q1 := q.one (by omega)
        have q4 := q.dx (by omega)
        have q5 := q.nx (by omega) (by omega)
        refine ⟨⟨fun _ => rfl, by simp, ?_, fun _ => ?_, fun e => by omega, fun _ _ => ?_, fun e => by omega⟩, fun e => by omega⟩
        · rw [WX]; exact ⟨Or.inr (Or.inr (Or.inl ⟨rfl, rfl, kr, rfl, q.wx, q1, rfl, rfl⟩)), WX_nil⟩
        · rw [low_of_code (by simp), DX1]; simp; omega
        · rw [low_of_code (by simp), NX1]; simp; omega
      · split at h2
        · rename_i hb
          rw [hb] at w2
          simp [mLp] at w2
          split at h2
          · rename_i hb3
            have w3 := wt_step T3
            rw [hb3] at w3
            simp [mRp] at w3
            cases h2
            refine ⟨⟨fun _ => rfl, by simp, ?_, fun _ => ?_, fun e => by omega, fun _ _ => ?_, fun e => by omega⟩, fun e => by omega⟩
            · rw [WX]; exact ⟨Or.inr (Or.inr (Or.inr (Or.inr (Or.inr ⟨rfl, rfl, kr, rfl, rfl, rfl, WX_nil⟩)))), WX_nil⟩
            · rw [low_of_code (by simp), DX1]; simp; omega
            · rw [low_of_code (by simp), NX1]; simp [NX]; omega
          · obtain ⟨⟨y, r3⟩, h3, h4⟩ := bind_ok h2
            obtain ⟨q, _⟩ := ih 7 o 0 [] _ _ _ T3 (by omega) (by omega) (by omega) h3
            obtain ⟨r4, h5, h6⟩ := bind_ok h4
            have w4 := (want_wt (T3.suf (ex_lt f _ _ _ _ _ _ _ T3.gd h3).1) h5).2
            simp [mRp] at w4
            cases h6
            have q1 := q.some
            have q4 := q.d7 rfl
            have q5 := q.n7 rfl
            have qe : y.isEmpty = false := by cases y <;> simp at q1 ⊢
            refine ⟨⟨fun _ => rfl, by simp, ?_, fun _ => ?_, fun e => by omega, fun _ _ => ?_, fun e => by omega⟩, fun e => by omega⟩
            · rw [WX]; exact ⟨Or.inr (Or.inr (Or.inr (Or.inr (Or.inr ⟨rfl, rfl, kr, rfl, rfl, rfl, q.wx⟩)))), WX_nil⟩
            · rw [low_of_code (by simp), DX1]; simp [qe]; omega
            · rw [low_of_code (by simp), NX1]; simp; omega
        · cases h2
          refine ⟨⟨fun _ => rfl, by simp, ?_, fun _ => ?_, fun e => by omega, fun _ _ => ?_, fun e => by omega⟩, fun e => by omega⟩
          · rw [WX]; exact ⟨Or.inr (Or.inl ⟨rfl, rfl, kr, rfl, rfl, rfl, rfl⟩), WX_nil⟩
          · rw [low_of_code (by simp), DX1]; simp; omega
          · rw [low_of_code (by simp), NX1]; simp; omega
    · rw [ex] at h
      split at h
      · rename_i h5
        obtain ⟨⟨y, r1⟩, h1, h2⟩ := bind_ok h
        obtain ⟨q, _⟩ := ih (k + 1) o 0 [] _ _ _ hT (by omega) (by intro e; omega) (by omega) h1
        have q1 := q.one (by omega)
        have q4 := q.dx (by omega)
        have q5 := q.nx (by omega) (by omega)
        rw [if_pos (by omega)] at q4
        have hm := lowN_mono (show k ≤ k + 1 by omega) y
        have e10 : 10 + k - 10 = k := by omega
        obtain ⟨u, u2⟩ := ih (10 + k) o (at' r) y _ _ _ (hT.suf (ex_lt f _ _ _ _ _ _ _ hT.gd h1).1) (by omega) (by omega) (fun _ => ⟨q1, q.wx, by rw [e10]; omega⟩) h2
        have u3 := u2 (by omega)
        have u4 := u.dx (by omega)
        rw [if_neg (by omega), e10] at u4
        rw [e10] at u3
        exact ⟨⟨fun _ => u.one (by omega), u.some, u.wx, fun _ => by rw [if_pos (by omega)]; exact u4, fun e => by omega, fun _ _ => by omega, fun e => by omega⟩, fun e => by omega⟩
      · split at h
        · rename_i h5n h5
          subst h5
          split at h
          · cases h
          · rename_i ho
            split at h
            · obtain ⟨⟨n, r1⟩, h1, h2⟩ := bind_ok h
              obtain ⟨n1, n2, n3, rfl⟩ := number_ok' h1
              have hl : 1 ≤ (tx r).length := by
                cases r with
                | nil => exact absurd n1 (by decide)
                | cons t l =>
                  have := ((hT t (by simp)).k2 n1).1
                  show 1 ≤ t.text.length
                  cases e : t.text with
                  | nil => exact absurd e this
                  | cons c l => simp
              cases h2
              refine ⟨⟨fun _ => rfl, by simp, ?_, fun _ => ?_, fun e => by omega, fun _ _ => ?_, fun e => by omega⟩, fun e => by omega⟩
              · rw [WX]; exact ⟨Or.inl ⟨rfl, n3, rfl, rfl, rfl, rfl, rfl, rfl⟩, WX_nil⟩
              · rw [low_of_code (by simp), DX1]; simp; omega
              · rw [low_of_code (by simp), NX1]; simp; omega
            · split at h
              · rename_i hm
                obtain ⟨⟨y, r1⟩, h1, h2⟩ := bind_ok h
                obtain ⟨q, _⟩ := ih 5 (o + 1) 0 [] _ _ _ T0 (by omega) (by omega) (by omega) h1
                have q1 := q.one (by omega)
                have q4 := q.dx (by omega)
                have q5 := q.nx (by omega) (by omega)
                rw [if_pos (by omega)] at q4
                have hl : 1 ≤ (tx r).length := by rcases hm with hm | hm <;> rw [hm] <;> decide
                cases h2
                refine ⟨⟨fun _ => rfl, by simp, ?_, fun _ => ?_, fun e => by omega, fun _ _ => ?_, fun e => by omega⟩, fun e => by omega⟩
                · rw [WX]; exact ⟨Or.inr (Or.inr (Or.inr (Or.inl ⟨rfl, rfl, rfl, rfl, hm, q.wx, q1, rfl, rfl⟩))), WX_nil⟩
                · rw [low_of_code (by simp), DX1]; simp; omega
                · rw [low_of_code (by simp), NX1]; simp; omega
              · split at h
                · rename_i hm
                  rw [hm] at w0
                  simp [mLp] at w0
                  obtain ⟨⟨y, r1⟩, h1, h2⟩ := bind_ok h
                  obtain ⟨q, _⟩ := ih 0 (o + 1) 0 [] _ _ _ T0 (by omega) (by omega) (by omega) h1
                  have q1 := q.one (by omega)
                  have q4 := q.dx (by omega)
                  have q5 := q.nx (by omega) (by omega)
                  rw [if_pos (by omega)] at q4
                  obtain ⟨r2, h3, h4⟩ := bind_ok h2
                  have w4 := (want_wt (T0.suf (ex_lt f _ _ _ _ _ _ _ T0.gd h1).1) h3).2
                  simp [mRp] at w4
                  cases h4
                  have := lowN_one 5 x
                  exact ⟨⟨fun _ => q1, q.some, q.wx, fun _ => by rw [if_pos (by omega)]; omega, fun e => by omega, fun _ _ => by omega, fun e => by omega⟩, fun e => by omega⟩
                · obtain ⟨q, _⟩ := ih 6 o 0 [] _ _ _ hT (by omega) (by omega) (by omega) h
                  have q4 := q.dx (by omega)
                  have q5 := q.nx (by omega) (by omega)
                  rw [if_pos (by omega)] at q4
                  have := lowN_mono (show 5 ≤ 6 by omega) x
                  exact ⟨⟨fun _ => q.one (by omega), q.some, q.wx, fun _ => by rw [if_pos (by omega)]; omega, fun e => by omega, fun _ _ => by omega, fun e => by omega⟩, fun e => by omega⟩
        · split at h
          · rename_i h7
            subst h7
            obtain ⟨⟨y, r1⟩, h1, h2⟩ := bind_ok h
            obtain ⟨q, _⟩ := ih 0 (o + 1) 0 [] _ _ _ hT (by omega) (by omega) (by omega) h1
            have q1 := q.one (by omega)
            have q4 := q.dx (by omega)
            have q5 := q.nx (by omega) (by omega)
            rw [if_pos (by omega)] at q4
            have T1 := hT.suf (ex_lt f _ _ _ _ _ _ _ hT.gd h1).1
            have w1 := wt_step T1
            simp only at h2
            split at h2
            · rename_i hc
              rw [hc] at w1
              simp [mComma] at w1
              obtain ⟨⟨l, r2⟩, h3, h4⟩ := bind_ok h2
              obtain ⟨u, _⟩ := ih 7 o 0 [] _ _ _ (T1.suf (stp_suf r1)) (by omega) (by omega) (by omega) h3
              have u1 := u.some
              have u4 := u.d7 rfl
              have u5 := u.n7 rfl
              cases h4
              refine ⟨⟨fun e => absurd rfl e, by simp; omega, WX_app _ _ q.wx u.wx, fun e => absurd rfl e, fun _ => by simp only [DX_app]; omega, fun e => absurd rfl e, fun _ => ?_⟩, fun e => by omega⟩
              rw [NX_app, List.length_append, q1]
              simp only
              omega
            · cases h2
              exact ⟨⟨fun e => absurd rfl e, q.some, q.wx, fun e => absurd rfl e, fun _ => by omega, fun e => absurd rfl e, fun _ => by rw [q1]; omega⟩, fun e => by omega⟩
          · split at h
            · rename_i h7 hl
              have hk10 : 10 ≤ k := by omega
              obtain ⟨c1, c2, c3⟩ := hacc hk10
              have ho := lvl_len (s := tx r) (by omega)
              obtain ⟨⟨y, r1⟩, h1, h2⟩ := bind_ok h
              obtain ⟨q, _⟩ := ih (k - 10 + 1) o 0 [] _ _ _ T0 (by omega) (by omega) (by omega) h1
              have q1 := q.one (by omega)
              have q4 := q.dx (by omega)
              have q5 := q.nx (by omega) (by omega)
              rw [if_pos (by omega)] at q4
              have hlow : lowN (k - 10) [(⟨5, a, 0, [], [], tx r, acc, y, []⟩ : X)] = 0 := by simp [lowN, isLow, hl]
              have hD : DX [(⟨5, a, 0, [], [], tx r, acc, y, []⟩ : X)] = max (lowN (k - 10) acc + DX acc) (lowN (k - 10 + 1) y + DX y) := by rw [DX1]; simp [hl]
              have hN : NX [(⟨5, a, 0, [], [], tx r, acc, y, []⟩ : X)] = 1 + (2 * lowN (k - 10) acc + NX acc) + (2 * lowN (k - 10 + 1) y + NX y) := by rw [NX1]; simp [hl]
              obtain ⟨u, u2⟩ := ih k o a [⟨5, a, 0, [], [], tx r, acc, y, []⟩] _ _ _ (T0.suf (ex_lt f _ _ _ _ _ _ _ T0.gd h1).1) hk (by omega) (fun _ => ⟨rfl, by
                rw [WX]; exact ⟨Or.inr (Or.inr (Or.inr (Or.inr (Or.inl ⟨rfl, rfl, rfl, rfl, by omega, c2, c1, q.wx, q1, rfl⟩)))), WX_nil⟩, by rw [hlow, hD]; omega⟩) h2
              have u3 := u2 hk10
              rw [hlow, hN] at u3
              refine ⟨⟨u.one, u.some, u.wx, u.dx, u.d7, fun e e2 => by omega, fun e => by omega⟩, fun _ => by omega⟩
            · cases h
              have hk10 : 10 ≤ k := by omega
              obtain ⟨c1, c2, c3⟩ := hacc hk10
              exact ⟨⟨fun _ => c1, by omega, c2, fun _ => by rw [if_neg (by omega)]; exact c3, fun e => by omega, fun _ e => by omega, fun e => by omega⟩, fun _ => by omega⟩
end Tp
/- What was read is well made: STMTs. -/
namespace Tp
def ev (v : List X) : Prop := WX v ∧ v.length = 1 ∧ DX v ≤ 10
def WS : List S → Prop
  | [] => True
  | ⟨code, _, nm, ix, v, th, el⟩ :: ss =>
    (code = 1 ∧ okn nm ∧ (ix = [] ∨ WX ix ∧ ix.length = 1 ∧ 1 + DX ix ≤ 10) ∧ ev v ∧ th = [] ∧ el = [] ∨
     code = 2 ∧ nm = [] ∧ ix = [] ∧ ev v ∧ WS th ∧ WS el ∨
     code = 3 ∧ nm = [] ∧ ix = [] ∧ ev v ∧ WS th ∧ el = [] ∨
     (code = 4 ∨ code = 5) ∧ nm = [] ∧ ix = [] ∧ ev v ∧ th = [] ∧ el = [] ∨
     code = 6 ∧ nm = [] ∧ ix = [] ∧ ev v ∧ codeOf v = 6 ∧ th = [] ∧ el = []) ∧ WS ss
def DS : List S → Nat
  | [] => 0
  | ⟨code, _, _, _, _, th, el⟩ :: ss => max (if code = 2 ∨ code = 3 then 1 + max (DS th) (DS el) else 0) (DS ss)
def NS : List S → Nat
  | [] => 0
  | ⟨code, _, _, ix, v, th, el⟩ :: ss =>
    (if code = 1 then 3 + (if ix.isEmpty then 0 else 2 + NX ix) + NX v else if code = 2 then 4 + NX v + NS th + (if el.isEmpty then 0 else 1 + NS el) else if code = 3 then 4 + NX v + NS th else if code = 6 then 1 + NX v else 2 + NX v) + NS ss
theorem WS_nil : WS [] := by rw [WS]; trivial
theorem WS_app : ∀ (l m : List S), WS l → WS m → WS (l ++ m) := by
  intro l
  induction l with
  | nil => intro m _ h; exact h
  | cons x xs ih => intro m h k; obtain ⟨⟩ := x; rw [List.cons_append, WS]; rw [WS] at h; exact ⟨h.1, ih m h.2 k⟩
theorem DS_app : ∀ (l m : List S), DS (l ++ m) = max (DS l) (DS m) := by
  intro l
  induction l with
  | nil => intro m; simp [DS]
  | cons x xs ih => intro m; obtain ⟨⟩ := x; rw [List.cons_append, DS, DS, ih]; omega
theorem NS_app : ∀ (l m : List S), NS (l ++ m) = NS l + NS m := by
  intro l
  induction l with
  | nil => intro m; simp [NS]
  | cons x xs ih => intro m; obtain ⟨⟩ := x; rw [List.cons_append, NS, NS, ih]; omega
theorem DS1 (s : S) : DS [s] = if s.code = 2 ∨ s.code = 3 then 1 + max (DS s.thn) (DS s.els) else 0 := by
  obtain ⟨⟩ := s; rw [DS, DS]; simp
theorem NS1 (s : S) : NS [s] = if s.code = 1 then 3 + (if s.index.isEmpty then 0 else 2 + NX s.index) + NX s.value else if s.code = 2 then 4 + NX s.value + NS s.thn + (if s.els.isEmpty then 0 else 1 + NS s.els) else if s.code = 3 then 4 + NX s.value + NS s.thn else if s.code = 6 then 1 + NX s.value else 2 + NX s.value := by
  obtain ⟨⟩ := s; rw [NS, NS]; simp
structure Ry (k b : Nat) (l : List S) (r r' : List Tok) : Prop where
  ws : WS l
  one : 2 ≤ k → l.length = 1
  ds : b + DS l ≤ 10
  ns : k ≤ 2 → NS l + wt r' ≤ wt r
  n3 : k = 3 → NS l + wt r' + (tx r).length ≤ wt r + 3
theorem ex0_ev {f : Nat} {r r' : List Tok} {x : List X} (hT : Tks r) (h : ex f 0 0 0 [] r = .ok (x, r')) : ev x ∧ NX x + wt r' ≤ wt r ∧ r' <:+ r := by
  obtain ⟨q, _⟩ := ex_rx f 0 0 0 [] r x r' hT (by omega) (by omega) (by omega) h
  have q4 := q.dx (by omega)
  have q5 := q.nx (by omega) (by omega)
  exact ⟨⟨q.wx, q.one (by omega), by omega⟩, by omega, (ex_lt f _ _ _ _ _ _ _ hT.gd h).1⟩
theorem want_all {s : Bs} {r r' : List Tok} (hT : Tks r) (h : want s r = .ok r') : wt r' + s.length = wt r ∧ Tks r' := by
  obtain ⟨rfl, h2⟩ := want_wt hT h
  exact ⟨h2, hT.suf (stp_suf r)⟩
theorem sx_ry (f : Nat) : ∀ k b r l r', Tks r → k ≤ 3 → (k ≠ 0 → b ≤ 10) → (k = 3 → tx r ≠ []) → sx f k b r = .ok (l, r') → Ry k b l r r' := by
  induction f with
  | zero => intro k b r l r' _ _ _ _ h; rw [sx] at h; cases h
  | succ f ih =>
    intro k b r l r' hT hk hb h3 h
    have T0 := hT.suf (stp_suf r)
    have w0 := wt_step hT
    rw [sx] at h
    split at h
    · rename_i e0
      split at h
      · cases h
      · have q := ih 1 b r l r' hT (by omega) (by omega) (by omega) h
        exact ⟨q.ws, fun e => by omega, q.ds, fun _ => q.ns (by omega), fun e => by omega⟩
    · rename_i e0
      have hb10 := hb e0
      split at h
      · rename_i e1
        split at h
        · cases h
          exact ⟨WS_nil, fun e => by omega, by simp [DS]; omega, fun _ => by simp [NS], fun e => by omega⟩
        · obtain ⟨⟨s, r1⟩, h1, h2⟩ := bind_ok h
          have q := ih 2 b r s r1 hT (by omega) (by omega) (by omega) h1
          have T1 := hT.suf (sx_lt f _ _ _ _ _ hT.gd h1).1
          obtain ⟨⟨l2, r2⟩, h3', h4⟩ := bind_ok h2
          have u := ih 1 b r1 l2 r2 T1 (by omega) (by omega) (by omega) h3'
          have q1 := q.ns (by omega)
          have u1 := u.ns (by omega)
          have q2 := q.ds
          have u2 := u.ds
          cases h4
          exact ⟨WS_app _ _ q.ws u.ws, fun e => by omega, by simp only [DS_app]; omega, fun _ => by simp only [NS_app]; omega, fun e => by omega⟩
      · rename_i e1
        split at h
        · rename_i e2
          subst e2
          split at h
          · rename_i hm
            have hl : 1 ≤ (tx r).length := by rcases hm with hm | hm <;> rw [hm] <;> decide
            obtain ⟨⟨x, r1⟩, h1, h2⟩ := bind_ok h
            obtain ⟨x1, x2, x3⟩ := ex0_ev T0 h1
            obtain ⟨r2, h5, h6⟩ := bind_ok h2
            obtain ⟨w2, _⟩ := want_all (T0.suf x3) h5
            simp [mSemi] at w2
            cases h6
            have hc : (if tx r = wReturn then 4 else 5) = 4 ∨ (if tx r = wReturn then 4 else 5) = 5 := by split <;> simp
            refine ⟨?_, fun _ => rfl, ?_, fun _ => ?_, fun e => by omega⟩
            · rw [WS]; exact ⟨Or.inr (Or.inr (Or.inr (Or.inl ⟨hc, rfl, rfl, x1, rfl, rfl⟩))), WS_nil⟩
            · rw [DS1]; simp only; rw [if_neg (by rcases hc with e | e <;> rw [e] <;> decide)]; omega
            · rw [NS1]; simp only; rw [if_neg (by rcases hc with e | e <;> rw [e] <;> decide), if_neg (by rcases hc with e | e <;> rw [e] <;> decide), if_neg (by rcases hc with e | e <;> rw [e] <;> decide), if_neg (by rcases hc with e | e <;> rw [e] <;> decide)]; omega
          · split at h
            · rename_i hm
              rw [hm] at w0
              simp [wWhile] at w0
              obtain ⟨⟨x, r1⟩, h1, h2⟩ := bind_ok h
              obtain ⟨x1, x2, x3⟩ := ex0_ev T0 h1
              obtain ⟨r2, h5, h6⟩ := bind_ok h2
              obtain ⟨w2, T2⟩ := want_all (T0.suf x3) h5
              simp [wDo] at w2
              obtain ⟨⟨l3, r3⟩, h7, h8⟩ := bind_ok h6
              have q := ih 0 (b + 1) r2 l3 r3 T2 (by omega) (by omega) (by omega) h7
              have q1 := q.ns (by omega)
              have q2 := q.ds
              obtain ⟨r4, h9, h10⟩ := bind_ok h8
              obtain ⟨w4, T4⟩ := want_all (T2.suf (sx_lt f _ _ _ _ _ T2.gd h7).1) h9
              simp [wEnd] at w4
              obtain ⟨r5, h11, h12⟩ := bind_ok h10
              obtain ⟨w5, _⟩ := want_all T4 h11
              simp [mSemi] at w5
              cases h12
              refine ⟨?_, fun _ => rfl, ?_, fun _ => ?_, fun e => by omega⟩
              · rw [WS]; exact ⟨Or.inr (Or.inr (Or.inl ⟨rfl, rfl, rfl, x1, q.ws, rfl⟩)), WS_nil⟩
              · rw [DS1]; simp [DS]; omega
              · rw [NS1]; simp; omega
            · split at h
              · rename_i hm
                obtain ⟨⟨s, r1⟩, h1, h2⟩ := bind_ok h
                have q := ih 3 b r s r1 hT (by omega) (by omega) (by intro _; rw [hm]; decide) h1
                have q1 := q.n3 rfl
                rw [hm] at q1
                simp [wIf] at q1
                have T1 := hT.suf (sx_lt f _ _ _ _ _ hT.gd h1).1
                obtain ⟨r2, h5, h6⟩ := bind_ok h2
                obtain ⟨w2, T2⟩ := want_all T1 h5
                simp [wEnd] at w2
                obtain ⟨r3, h7, h8⟩ := bind_ok h6
                obtain ⟨w3, _⟩ := want_all T2 h7
                simp [mSemi] at w3
                cases h8
                exact ⟨q.ws, fun _ => q.one (by omega), q.ds, fun _ => by omega, fun e => by omega⟩
              · obtain ⟨⟨x, r1⟩, h1, h2⟩ := bind_ok h
                obtain ⟨q, _⟩ := ex_rx f 6 0 0 [] r x r1 hT (by omega) (by omega) (by omega) h1
                have T1 := hT.suf (ex_lt f _ _ _ _ _ _ _ hT.gd h1).1
                have q1 := q.one (by omega)
                have q4 := q.dx (by omega)
                have q5 := q.nx (by omega) (by omega)
                simp only at h2
                split at h2
                · rename_i hc
                  obtain ⟨r2, h5, h6⟩ := bind_ok h2
                  obtain ⟨w2, _⟩ := want_all T1 h5
                  simp [mSemi] at w2
                  cases h6
                  refine ⟨?_, fun _ => rfl, ?_, fun _ => ?_, fun e => by omega⟩
                  · rw [WS]; exact ⟨Or.inr (Or.inr (Or.inr (Or.inr ⟨rfl, rfl, rfl, ⟨q.wx, q1, by omega⟩, hc, rfl, rfl⟩))), WS_nil⟩
                  · rw [DS1]; simp; omega
                  · rw [NS1]; simp; omega
                · rename_i hc
                  split at h2
                  · rename_i hm
                    obtain ⟨r2, h5, h6⟩ := bind_ok h2
                    obtain ⟨w2, T2⟩ := want_all T1 h5
                    simp [mSet] at w2
                    obtain ⟨⟨y, r3⟩, h7, h8⟩ := bind_ok h6
                    obtain ⟨y1, y2, y3⟩ := ex0_ev T2 h7
                    obtain ⟨r4, h9, h10⟩ := bind_ok h8
                    obtain ⟨w4, _⟩ := want_all (T2.suf y3) h9
                    simp [mSemi] at w4
                    cases h10
                    obtain ⟨z, rfl⟩ := len1 q1
                    have hwz := q.wx
                    obtain ⟨code, pos, n, m, nm, op, le, ri, ar⟩ := z
                    rw [DX1] at q4
                    rw [NX1] at q5
                    rw [WX] at hwz
                    simp only [codeOf, modOf] at hc hm
                    subst hm
                    have hno : code ≠ 1 ∧ code ≠ 4 ∧ code ≠ 5 := by
                      cases f with
                      | zero => rw [ex] at h1; cases h1
                      | succ f =>
                        rw [ex6] at h1
                        obtain ⟨⟨⟨m', n'⟩, r5⟩, _, h12⟩ := bind_ok h1
                        simp only [behind] at h12
                        split at h12
                        · obtain ⟨_, _, h13⟩ := bind_ok h12
                          obtain ⟨_, _, h14⟩ := bind_ok h13
                          cases h14; simp
                        · split at h12
                          · split at h12
                            · cases h12; simp
                            · obtain ⟨_, _, h13⟩ := bind_ok h12
                              obtain ⟨_, _, h14⟩ := bind_ok h13
                              cases h14; simp
                          · cases h12; simp
                    rcases hwz.1 with ⟨rfl, h13⟩ | ⟨rfl, h13⟩ | ⟨rfl, h13⟩ | ⟨rfl, h13⟩ | ⟨rfl, h13⟩ | ⟨rfl, h13⟩
                    · exact absurd rfl hno.1
                    · obtain ⟨_, g1, _, rfl, _⟩ := h13
                      simp [rN] at q5
                      refine ⟨?_, fun _ => rfl, ?_, fun _ => ?_, fun e => by omega⟩
                      · rw [WS]; exact ⟨Or.inl ⟨rfl, g1.2, Or.inl rfl, y1, rfl, rfl⟩, WS_nil⟩
                      · rw [DS1]; simp; omega
                      · rw [NS1]; simp [leftOf]; omega
                    · obtain ⟨_, g1, _, g2, g3, _⟩ := h13
                      simp [rN] at q4 q5
                      refine ⟨?_, fun _ => rfl, ?_, fun _ => ?_, fun e => by omega⟩
                      · rw [WS]; exact ⟨Or.inl ⟨rfl, g1.2, Or.inr ⟨g2, g3, by simp only [leftOf]; omega⟩, y1, rfl, rfl⟩, WS_nil⟩
                      · rw [DS1]; simp; omega
                      · have : le.isEmpty = false := by obtain ⟨z, rfl⟩ := len1 g3; rfl
                        rw [NS1]; simp [leftOf, this]; omega
                    · exact absurd rfl hno.2.1
                    · exact absurd rfl hno.2.2
                    · exact absurd rfl hc
                  · cases h2
        · rename_i e2
          have e3 : k = 3 := by omega
          subst e3
          obtain ⟨⟨x, r1⟩, h1, h2⟩ := bind_ok h
          obtain ⟨x1, x2, x3⟩ := ex0_ev T0 h1
          obtain ⟨r2, h5, h6⟩ := bind_ok h2
          obtain ⟨w2, T2⟩ := want_all (T0.suf x3) h5
          simp [wThen] at w2
          obtain ⟨⟨l3, r3⟩, h7, h8⟩ := bind_ok h6
          have q := ih 0 (b + 1) r2 l3 r3 T2 (by omega) (by omega) (by omega) h7
          have q1 := q.ns (by omega)
          have q2 := q.ds
          have T3 := T2.suf (sx_lt f _ _ _ _ _ T2.gd h7).1
          have w3 := wt_step T3
          simp only at h8
          split at h8
          · rename_i he
            obtain ⟨⟨e, r4⟩, h9, h10⟩ := bind_ok h8
            have u := ih 3 (b + 1) r3 e r4 T3 (by omega) (by omega) (by intro _; rw [he]; decide) h9
            have u1 := u.n3 rfl
            rw [he] at u1
            simp [wElsif] at u1
            have u2 := u.ds
            have u3 := u.one (by omega)
            have ue : e.isEmpty = false := by obtain ⟨z, rfl⟩ := len1 u3; rfl
            cases h10
            refine ⟨?_, fun _ => rfl, ?_, fun e => by omega, fun _ => ?_⟩
            · rw [WS]; exact ⟨Or.inr (Or.inl ⟨rfl, rfl, rfl, x1, q.ws, u.ws⟩), WS_nil⟩
            · rw [DS1]; simp; omega
            · rw [NS1]; simp [ue]; omega
          · split at h8
            · rename_i he
              rw [he] at w3
              simp [wElse] at w3
              obtain ⟨⟨e, r4⟩, h9, h10⟩ := bind_ok h8
              have u := ih 0 (b + 1) (stp r3) e r4 (T3.suf (stp_suf r3)) (by omega) (by omega) (by omega) h9
              have u1 := u.ns (by omega)
              have u2 := u.ds
              cases h10
              refine ⟨?_, fun _ => rfl, ?_, fun e => by omega, fun _ => ?_⟩
              · rw [WS]; exact ⟨Or.inr (Or.inl ⟨rfl, rfl, rfl, x1, q.ws, u.ws⟩), WS_nil⟩
              · rw [DS1]; simp; omega
              · rw [NS1]; simp; split <;> omega
            · cases h8
              refine ⟨?_, fun _ => rfl, ?_, fun e => by omega, fun _ => ?_⟩
              · rw [WS]; exact ⟨Or.inr (Or.inl ⟨rfl, rfl, rfl, x1, q.ws, WS_nil⟩), WS_nil⟩
              · rw [DS1]; simp [DS]; omega
              · rw [NS1]; simp; omega
end Tp
/- A module: what was read is well made, what is written is read. -/
namespace Tp
def okns (l : List Bs) : Prop := ∀ n, n ∈ l → okn n
structure WG (g : G) : Prop where
  n : okn g.name
  l : g.len ≤ 30
structure WP (p : Pr) : Prop where
  n : okn p.name
  ps : okns p.params
  vs : okns p.vars
  c : p.params.length + p.vars.length ≤ 10
  b : WS p.body
  d : DS p.body ≤ 10
structure WM (m : M) : Prop where
  n : okn m.name
  i : okns m.imports
  ic : m.imports.length ≤ 6
  g : ∀ g, g ∈ m.vars → WG g
  gc : m.vars.length ≤ 10
  p : ∀ p, p ∈ m.procs → WP p
  pc : m.procs.length ≤ 10
  b : WS m.body
  d : DS m.body ≤ 10
def nN (l : List Bs) : Nat := 2 * l.length - 1
def b2 (b : Bool) : Nat := if b then 1 else 0
def nG (g : G) : Nat := 4 + b2 g.seen + (if g.len = 0 then 1 else 2)
def nP (p : Pr) : Nat := 2 + b2 p.seen + 3 + nN p.params + (if p.vars = [] then 0 else 2 + nN p.vars) + 1 + NS p.body + 2
def nM (m : M) : Nat := 3 + (if m.imports = [] then 0 else 2 + nN m.imports) + (m.vars.map nG).sum + (m.procs.map nP).sum + 1 + NS m.body + 2
theorem names_okn (f : Nat) : ∀ had most r l r', Tks r → names f had most r = .ok (l, r') → okns l ∧ 1 ≤ l.length ∧ had + l.length ≤ most ∧ nN l + wt r' ≤ wt r ∧ Tks r' := by
  induction f with
  | zero => intro had most r l r' _ h; cases h
  | succ f ih =>
    intro had most r l r' hT h
    rw [names] at h
    split at h
    · cases h
    · obtain ⟨⟨n, r1⟩, h1, h2⟩ := bind_ok h
      obtain ⟨a1, rfl, a2⟩ := name_okn hT h1
      have T1 := hT.suf (stp_suf r)
      have w1 := wt_step T1
      simp only at h2
      split at h2
      · rename_i hc
        rw [hc] at w1
        simp [mComma] at w1
        obtain ⟨⟨l', r2⟩, h3, h4⟩ := bind_ok h2
        obtain ⟨b1, b2, b3, b4, b5⟩ := ih _ _ _ _ _ (T1.suf (stp_suf _)) h3
        cases h4
        refine ⟨?_, by simp, by simp; omega, ?_, b5⟩
        · intro m hm
          rcases List.mem_cons.mp hm with rfl | hm
          · exact a1
          · exact b1 m hm
        · unfold nN at b4 ⊢; simp; omega
      · cases h2
        exact ⟨by intro m hm; rw [List.mem_singleton] at hm; subst hm; exact a1, by simp, by simp; omega, by unfold nN; simp; omega, T1⟩
theorem star_wt {r : List Tok} (hT : Tks r) : wt (if tx r = mStar then stp r else r) + b2 (tx r == mStar) = wt r ∧ Tks (if tx r = mStar then stp r else r) := by
  have w1 := wt_step hT
  by_cases h : tx r = mStar
  · rw [if_pos h]
    rw [h] at w1
    simp [mStar] at w1
    exact ⟨by rw [h]; simp [b2]; omega, hT.suf (stp_suf r)⟩
  · rw [if_neg h]
    have : (tx r == mStar) = false := by simpa using h
    exact ⟨by rw [this]; simp [b2], hT⟩
theorem global_wg {r r' : List Tok} {g : G} (hT : Tks r) (h : global r = .ok (g, r')) : WG g ∧ nG g + wt r' ≤ wt r + 1 ∧ Tks r' := by
  unfold global at h
  obtain ⟨⟨n, r1⟩, h1, h2⟩ := bind_ok h
  obtain ⟨a1, rfl, a2⟩ := name_okn hT h1
  have T1 := hT.suf (stp_suf r)
  obtain ⟨s1, s2⟩ := star_wt T1
  obtain ⟨r3, h3, h4⟩ := bind_ok h2
  try simp only at h3
  obtain ⟨w3, T3⟩ := want_all s2 h3
  simp [mColon] at w3
  have w3' := wt_step T3
  simp only at h4
  split at h4
  · rename_i hi
    rw [hi] at w3'
    simp [wInt] at w3'
    obtain ⟨r4, h5, h6⟩ := bind_ok h4
    obtain ⟨w4, T4⟩ := want_all (T3.suf (stp_suf _)) h5
    simp [mSemi] at w4
    cases h6
    refine ⟨⟨a1, by simp⟩, ?_, T4⟩
    simp only [nG, if_true]; omega
  · obtain ⟨r4, h5, h6⟩ := bind_ok h4
    obtain ⟨w4, T4⟩ := want_all T3 h5
    simp [wArray] at w4
    obtain ⟨⟨k, r5⟩, h7, h8⟩ := bind_ok h6
    obtain ⟨k1, k2, k3, rfl⟩ := number_ok' h7
    have T5 := T4.suf (stp_suf r4)
    have w5 := wt_step T4
    simp only at h8
    split at h8
    · cases h8
    · rename_i hk0
      obtain ⟨r6, h9, h10⟩ := bind_ok h8
      obtain ⟨w6, T6⟩ := want_all T5 h9
      simp [mSemi] at w6
      cases h10
      refine ⟨⟨a1, k3⟩, ?_, T6⟩
      simp only [nG]; rw [if_neg hk0]; omega
theorem globals_wg (f : Nat) : ∀ had r l r', Tks r → had ≤ 10 → globals f had r = .ok (l, r') → (∀ g, g ∈ l → WG g) ∧ had + l.length ≤ 10 ∧ (l.map nG).sum + wt r' ≤ wt r ∧ Tks r' := by
  induction f with
  | zero => intro had r l r' _ _ h; cases h
  | succ f ih =>
    intro had r l r' hT hh h
    have w0 := wt_step hT
    rw [globals] at h
    split at h
    · rename_i hv
      rw [hv] at w0
      simp [wVar] at w0
      split at h
      · cases h
      · rename_i hne
        obtain ⟨⟨g, r1⟩, h1, h2⟩ := bind_ok h
        obtain ⟨a1, a2, T1⟩ := global_wg (hT.suf (stp_suf r)) h1
        obtain ⟨⟨l', r2⟩, h3, h4⟩ := bind_ok h2
        obtain ⟨b1, b2, b3, b4⟩ := ih _ _ _ _ T1 (by omega) h3
        cases h4
        refine ⟨?_, by simp; omega, by simp; omega, b4⟩
        intro x hx
        rcases List.mem_cons.mp hx with rfl | hx
        · exact a1
        · exact b1 x hx
    · cases h
      exact ⟨fun g hg => absurd hg List.not_mem_nil, by simpa using hh, by simp, hT⟩
theorem proc_wp {f : Nat} {r r' : List Tok} {p : Pr} (hT : Tks r) (h : proc f r = .ok (p, r')) : WP p ∧ nP p + wt r' ≤ wt r ∧ Tks r' := by
  unfold proc at h
  obtain ⟨r1, h1, h2⟩ := bind_ok h
  obtain ⟨w1, T1⟩ := want_all hT h1
  simp [wProc] at w1
  obtain ⟨⟨n, r2⟩, h3, h4⟩ := bind_ok h2
  obtain ⟨a1, rfl, a2⟩ := name_okn T1 h3
  have T2 := T1.suf (stp_suf r1)
  obtain ⟨s1, s2⟩ := star_wt T2
  obtain ⟨r4, h5, h6⟩ := bind_ok h4
  try simp only at h5
  obtain ⟨w4, T4⟩ := want_all s2 h5
  simp [mLp] at w4
  obtain ⟨⟨ps, r5⟩, h7, h8⟩ := bind_ok h6
  have k5 : okns ps ∧ ps.length ≤ 10 ∧ nN ps + wt r5 ≤ wt r4 ∧ Tks r5 := by
    split at h7
    · cases h7; exact ⟨fun n hn => absurd hn List.not_mem_nil, by simp, by simp [nN], T4⟩
    · obtain ⟨c1, c2, c3, c4, c5⟩ := names_okn _ _ _ _ _ _ T4 h7
      exact ⟨c1, by omega, c4, c5⟩
  obtain ⟨c1, c2, c3, T5⟩ := k5
  obtain ⟨r6, h9, h10⟩ := bind_ok h8
  obtain ⟨w6, T6⟩ := want_all T5 h9
  simp [mRp] at w6
  obtain ⟨r7, h11, h12⟩ := bind_ok h10
  obtain ⟨w7, T7⟩ := want_all T6 h11
  simp [mSemi] at w7
  obtain ⟨⟨vs, r8⟩, h13, h14⟩ := bind_ok h12
  have k8 : okns vs ∧ ps.length + vs.length ≤ 10 ∧ (if vs = [] then 0 else 2 + nN vs) + wt r8 ≤ wt r7 ∧ Tks r8 := by
    split at h13
    · rename_i hv
      have w7' := wt_step T7
      rw [hv] at w7'
      simp [wVar] at w7'
      obtain ⟨⟨vs', r8'⟩, h15, h16⟩ := bind_ok h13
      obtain ⟨d1, d2, d3, d4, d5⟩ := names_okn _ _ _ _ _ _ (T7.suf (stp_suf _)) h15
      obtain ⟨r9, h17, h18⟩ := bind_ok h16
      obtain ⟨w9, T9⟩ := want_all d5 h17
      simp [mSemi] at w9
      cases h18
      refine ⟨d1, d3, ?_, T9⟩
      split <;> omega
    · cases h13; exact ⟨fun n hn => absurd hn List.not_mem_nil, by simpa using c2, by simp, T7⟩
  obtain ⟨d1, d2, d3, T8⟩ := k8
  obtain ⟨r9, h15, h16⟩ := bind_ok h14
  obtain ⟨w9, T9⟩ := want_all T8 h15
  simp [wBegin] at w9
  obtain ⟨⟨b, r10⟩, h17, h18⟩ := bind_ok h16
  have q := sx_ry f 0 0 r9 b r10 T9 (by omega) (by omega) (by omega) h17
  have q1 := q.ns (by omega)
  have q2 := q.ds
  obtain ⟨r11, h19, h20⟩ := bind_ok h18
  obtain ⟨w11, T11⟩ := want_all (T9.suf (sx_lt f _ _ _ _ _ T9.gd h17).1) h19
  simp [wEnd] at w11
  obtain ⟨r12, h21, h22⟩ := bind_ok h20
  obtain ⟨w12, T12⟩ := want_all T11 h21
  simp [mSemi] at w12
  cases h22
  refine ⟨⟨a1, c1, d1, d2, q.ws, show DS b ≤ 10 by omega⟩, ?_, T12⟩
  simp only [nP]; omega
theorem procs_wp (f : Nat) : ∀ g had r l r', Tks r → had ≤ 10 → procs f g had r = .ok (l, r') → (∀ p, p ∈ l → WP p) ∧ had + l.length ≤ 10 ∧ (l.map nP).sum + wt r' ≤ wt r ∧ Tks r' := by
  induction f with
  | zero => intro g had r l r' _ _ h; cases h
  | succ f ih =>
    intro g had r l r' hT hh h
    rw [procs] at h
    split at h
    · split at h
      · cases h
      · rename_i hne
        obtain ⟨⟨p, r1⟩, h1, h2⟩ := bind_ok h
        obtain ⟨a1, a2, T1⟩ := proc_wp hT h1
        obtain ⟨⟨l', r2⟩, h3, h4⟩ := bind_ok h2
        obtain ⟨b1, b2, b3, b4⟩ := ih _ _ _ _ _ T1 (by omega) h3
        cases h4
        refine ⟨?_, by simp; omega, by simp; omega, b4⟩
        intro x hx
        rcases List.mem_cons.mp hx with rfl | hx
        · exact a1
        · exact b1 x hx
    · cases h
      exact ⟨fun g hg => absurd hg List.not_mem_nil, by simpa using hh, by simp, hT⟩
theorem module_wm {f : Nat} {r : List Tok} {m : M} (hT : Tks r) (h : module f r = .ok m) : WM m ∧ nM m ≤ wt r := by
  unfold module at h
  obtain ⟨r1, h1, h2⟩ := bind_ok h
  obtain ⟨w1, T1⟩ := want_all hT h1
  simp [wModule] at w1
  obtain ⟨⟨n, r2⟩, h3, h4⟩ := bind_ok h2
  obtain ⟨a1, rfl, a2⟩ := name_okn T1 h3
  have T2 := T1.suf (stp_suf r1)
  obtain ⟨r3, h5, h6⟩ := bind_ok h4
  obtain ⟨w3, T3⟩ := want_all T2 h5
  simp [mSemi] at w3
  obtain ⟨⟨is, r4⟩, h7, h8⟩ := bind_ok h6
  have k4 : okns is ∧ is.length ≤ 6 ∧ (if is = [] then 0 else 2 + nN is) + wt r4 ≤ wt r3 ∧ Tks r4 := by
    split at h7
    · rename_i hv
      have w7' := wt_step T3
      rw [hv] at w7'
      simp [wImport] at w7'
      obtain ⟨⟨vs', r8'⟩, h15, h16⟩ := bind_ok h7
      obtain ⟨d1, d2, d3, d4, d5⟩ := names_okn _ _ _ _ _ _ (T3.suf (stp_suf _)) h15
      obtain ⟨r9, h17, h18⟩ := bind_ok h16
      obtain ⟨w9, T9⟩ := want_all d5 h17
      simp [mSemi] at w9
      cases h18
      refine ⟨d1, by omega, ?_, T9⟩
      split <;> omega
    · cases h7; exact ⟨fun n hn => absurd hn List.not_mem_nil, by simp, by simp, T3⟩
  obtain ⟨c1, c2, c3, T4⟩ := k4
  obtain ⟨⟨gs, r5⟩, h9, h10⟩ := bind_ok h8
  obtain ⟨d1, d2, d3, T5⟩ := globals_wg _ _ _ _ _ T4 (by omega) h9
  obtain ⟨⟨ps, r6⟩, h11, h12⟩ := bind_ok h10
  obtain ⟨e1, e2, e3, T6⟩ := procs_wp _ _ _ _ _ _ T5 (by omega) h11
  obtain ⟨r7, h13, h14⟩ := bind_ok h12
  obtain ⟨w7, T7⟩ := want_all T6 h13
  simp [wBegin] at w7
  obtain ⟨⟨b, r8⟩, h15, h16⟩ := bind_ok h14
  have q := sx_ry f 0 0 r7 b r8 T7 (by omega) (by omega) (by omega) h15
  have q1 := q.ns (by omega)
  have q2 := q.ds
  obtain ⟨r9, h17, h18⟩ := bind_ok h16
  obtain ⟨w9, T9⟩ := want_all (T7.suf (sx_lt f _ _ _ _ _ T7.gd h15).1) h17
  simp [wEnd] at w9
  obtain ⟨r10, h19, h20⟩ := bind_ok h18
  obtain ⟨w10, T10⟩ := want_all T9 h19
  simp [mDot] at w10
  split at h20
  · cases h20
    refine ⟨⟨a1, c1, c2, d1, show gs.length ≤ 10 by omega, e1, show ps.length ≤ 10 by omega, q.ws, show DS b ≤ 10 by omega⟩, ?_⟩
    simp only [nM]; omega
  · cases h20
end Tp
/- Scanning: what the tokens of a text are. -/
namespace Tp
theorem ld_first {c : UInt8} : (letter c = true → blank c = false ∧ ld c = true) ∧ (digit c = true → blank c = false ∧ letter c = false) := by
  refine ⟨fun h => ⟨?_, by simp [ld, h]⟩, fun h => ⟨?_, ?_⟩⟩
  · cases hb : blank c with
    | false => rfl
    | true => simp only [blank, Bool.or_eq_true, beq_iff_eq] at hb; rcases hb with rfl | rfl <;> revert h <;> decide
  · cases hb : blank c with
    | false => rfl
    | true => simp only [blank, Bool.or_eq_true, beq_iff_eq] at hb; rcases hb with rfl | rfl <;> revert h <;> decide
  · simp only [digit, letter, decide_eq_true_eq, decide_eq_false_iff_not] at h ⊢; omega
end Tp
/- What is written is read, of any text that Parse reads. -/
namespace Tp
theorem mem_takeWhile {p : UInt8 → Bool} : ∀ (l : Bs) (d : UInt8), d ∈ l.takeWhile p → p d = true := by
  intro l
  induction l with
  | nil => intro d h; cases h
  | cons c l ih =>
    intro d h
    rw [List.takeWhile_cons] at h
    split at h
    · rcases List.mem_cons.mp h with rfl | h
      · assumption
      · exact ih d h
    · cases h
theorem take_takeWhile {p : UInt8 → Bool} : ∀ l : Bs, l.take (l.takeWhile p).length = l.takeWhile p := by
  intro l
  induction l with
  | nil => rfl
  | cons c l ih =>
    rw [List.takeWhile_cons]
    split
    · rw [List.length_cons, List.take_succ_cons, ih]
    · rfl
theorem cut_tk {l : Bs} {k n pos : Nat} (h : cut l = some (k, n)) : Tk ⟨k, pos, l.take n⟩ ∧ n ≤ l.length ∧ 1 ≤ n := by
  cases l with
  | nil => cases h
  | cons c t =>
    rw [cut] at h
    split at h
    · rename_i hc
      cases h
      rw [take_takeWhile]
      have hl : ld c = true := (ld_first.1 hc).2
      have e : (c :: t).takeWhile ld = c :: t.takeWhile ld := by rw [List.takeWhile_cons, if_pos hl]
      refine ⟨⟨fun e => (by cases e), fun _ => ⟨c, _, e, hc, fun d hd => mem_takeWhile _ d hd⟩, fun e => (by cases e), fun e => (by cases e), by simp⟩, (List.takeWhile_sublist _).length_le, by rw [e]; simp⟩
    · split at h
      · rename_i hc
        cases h
        rw [take_takeWhile]
        have e : (c :: t).takeWhile digit = c :: t.takeWhile digit := by rw [List.takeWhile_cons, if_pos hc]
        refine ⟨⟨fun e => (by cases e), fun e => (by cases e), fun _ => ⟨?_, fun d hd => mem_takeWhile _ d hd⟩, fun e => (by cases e), by simp⟩, (List.takeWhile_sublist _).length_le, by rw [e]; simp⟩
        show (c :: t).takeWhile digit ≠ []
        rw [e]; simp
      · rw [Option.map_eq_some_iff] at h
        obtain ⟨m, h1, h2⟩ := h
        cases h2
        have hm := List.mem_of_find?_eq_some h1
        have hp := List.find?_some h1
        rw [List.isPrefixOf_iff_prefix] at hp
        obtain ⟨r, hr⟩ := hp
        have e : (c :: t).take m.length = m := by rw [← hr, List.take_left]
        have hl := congrArg List.length hr
        rw [List.length_append] at hl
        have : ∀ m : Bs, m ∈ marks → 1 ≤ m.length := by decide
        rw [e]
        exact ⟨⟨fun e => (by cases e), fun e => (by cases e), fun e => (by cases e), fun _ => hm, by simp⟩, by omega, this m hm⟩
theorem scan_tks : ∀ (f cnt pos : Nat) (l : Bs) (ts : List Tok), scan f cnt pos l = .ok ts → Tks ts ∧ wt ts ≤ l.length ∧ (cnt ≤ 600 → cnt + ts.length ≤ 601) ∧ (∃ t z, ts = t ++ [z] ∧ z.kind = 0) := by
  intro f
  induction f with
  | zero => intro cnt pos l ts h; cases h
  | succ f ih =>
    intro cnt pos l ts h
    rw [scan.eq_def] at h
    simp only at h
    split at h
    · cases h
      refine ⟨?_, by simp [wt], fun _ => by simp; omega, [], _, rfl, rfl⟩
      intro t ht
      rw [List.mem_singleton] at ht
      subst ht
      exact ⟨fun _ => rfl, fun e => (by cases e), fun e => (by cases e), fun e => (by cases e), by simp⟩
    · rename_i c t
      split at h
      · obtain ⟨a, b, c, d⟩ := ih _ _ _ _ h
        exact ⟨a, by simp; omega, c, d⟩
      · split at h
        · cases h
        · rename_i kd n hcut
          obtain ⟨c1, c2, c3⟩ := cut_tk (pos := pos) hcut
          split at h
          · cases h
          · split at h
            · cases h
            · rename_i ts' hts
              cases h
              obtain ⟨a, b, d, t', z, e1, e2⟩ := ih _ _ _ _ hts
              refine ⟨?_, ?_, fun _ => by have := d (by omega); simp at this ⊢; omega, ⟨kd, pos, (c :: t).take n⟩ :: t', z, by rw [e1]; rfl, e2⟩
              · intro u hu
                rcases List.mem_cons.mp hu with rfl | hu
                · exact c1
                · exact a u hu
              · rw [List.length_drop] at b
                show ((c :: t).take n).length + wt ts' ≤ _
                rw [List.length_take]
                omega
theorem parse_wm {l : Bs} {m : M} (h : parse l = .ok m) : WM m ∧ nM m ≤ l.length := by
  unfold parse at h
  obtain ⟨ts, h1, h2⟩ := bind_ok h
  obtain ⟨a, b, _⟩ := scan_tks _ _ _ _ _ h1
  obtain ⟨c, d⟩ := module_wm a h2
  exact ⟨c, by omega⟩
end Tp
/- Where tokens stand. -/
namespace Tp
theorem scan_tl : ∀ (f cnt pos : Nat) (l : Bs) (ts : List Tok), scan f cnt pos l = .ok ts → ∀ t, t ∈ ts → t.text.length ≤ l.length ∧ t.pos ≤ pos + l.length := by
  intro f
  induction f with
  | zero => intro cnt pos l ts h; cases h
  | succ f ih =>
    intro cnt pos l ts h
    rw [scan.eq_def] at h
    simp only at h
    split at h
    · cases h
      intro t ht
      rw [List.mem_singleton] at ht
      subst ht
      simp
    · rename_i c t
      split at h
      · intro u hu
        have := ih _ _ _ _ h u hu
        simp at this ⊢
        omega
      · split at h
        · cases h
        · rename_i kd n hcut
          obtain ⟨c1, c2, c3⟩ := cut_tk (pos := pos) hcut
          split at h
          · cases h
          · split at h
            · cases h
            · rename_i ts' hts
              cases h
              intro u hu
              rcases List.mem_cons.mp hu with rfl | hu
              · simp only [List.length_take]; omega
              · have := ih _ _ _ _ hts u hu
                rw [List.length_drop] at this
                omega
end Tp
/- How many bytes are written. -/
namespace Tp
theorem dec_len : ∀ (k n : Nat), n < 10 ^ (k + 1) → (dec n).length ≤ k + 1 := by
  intro k
  induction k with
  | zero => intro n h; rw [dec, dif_pos (by omega)]; simp
  | succ k ih =>
    intro n h
    rw [dec]
    split
    · simp
    · rw [List.length_append]
      have := ih (n / 10) (by rw [Nat.pow_succ] at h; omega)
      simp; omega
theorem okn_len {n : Bs} (h : okn n) : n.length ≤ 10 := h.2.2
end Tp
/- A closed text and how it is written. -/
namespace Tp
theorem dec_d {n : Nat} (h : n < 10) : dec n = [UInt8.ofNat (48 + n)] := by rw [dec]; simp [h]
end Tp
/- The plain functions of chapter 2: what others see of a module, how that is written. -/
namespace Tp
abbrev Sy := Bs × Nat × Int
def wArr : Bs := [97, 114, 114, 97, 121]
def wordsL (first : Bs) (ss : List Bs) : Bs := first ++ (ss.map fun s => (32 : UInt8) :: s).flatten ++ [10]
def lineOf (s : Sy) : Bs := if 0 ≤ s.2.2 then wordsL wProc [s.1, dec s.2.2.toNat] else if 0 < s.2.1 then wordsL wArr [s.1, dec s.2.1] else wordsL wInt [s.1]
def syG (g : G) : Sy := (g.name, g.len, -1)
def syP (p : Pr) : Sy := (p.name, 0, (p.params.length : Int))
def symsOf (m : M) : List Sy := (m.vars.filter (·.seen)).map syG ++ (m.procs.filter (·.seen)).map syP
def findS (l : List Sy) (n : Bs) : Option Sy := l.find? fun s => s.1 == n
def needS (l : List Sy) (n : Bs) : Bs := match findS l n with
  | some s => lineOf s
  | none => wordsL [110, 111, 110, 101] [n]
def needsS (l : List Sy) (ns : List Bs) : Bs := (ns.map (needS l)).flatten
end Tp
/- The plain functions of chapter 3: what is found of a module, by what others there are. What the statements of chapter 3 say, on plain modules. No program stands in it. -/
namespace Tp
/- what names something, from the left: its code (2 a Var, 3 an Item, 6 an Apply), where, its module, its name, how many Args -/
structure R where
  code : Nat
  pos : Nat
  mod : Bs
  name : Bs
  args : Nat
def rx : List X → List R
  | [] => []
  | ⟨code, pos, _, m, nm, _, le, ri, ar⟩ :: xs =>
    (if code = 2 ∨ code = 3 ∨ code = 6 then [⟨code, pos, m, nm, ar.length⟩] else []) ++ rx le ++ rx ri ++ rx ar ++ rx xs
def rs : List S → List R
  | [] => []
  | ⟨code, pos, nm, ix, vl, th, el⟩ :: ss =>
    (if code = 1 then [⟨if ix.isEmpty then 2 else 3, pos, [], nm, 0⟩] else []) ++ rx ix ++ rx vl ++ rs th ++ rs el ++ rs ss
def allR (m : M) : List R := (m.procs.map fun p => rs p.body).flatten ++ rs m.body
def usedR (m : M) (of : Bs) : List Bs := ((allR m).filter fun r => !(of == []) && r.mod == of).map (·.name)
end Tp
/- How long names are in a module that was read. No program stands in it. -/
namespace Tp
def Sr (l : List R) : Prop := ∀ r ∈ l, r.mod.length ≤ 1000000 ∧ r.name.length ≤ 1000000
theorem Sr.app {l m : List R} (h : Sr l) (k : Sr m) : Sr (l ++ m) := fun r hr => by
  rcases List.mem_append.1 hr with q | q
  · exact h r q
  · exact k r q
theorem Sr.nil : Sr [] := fun r hr => by cases hr
theorem okn_lenM {n : Bs} (h : okn n) : n.length ≤ 1000000 := by have := h.2.2; omega
theorem okr_len {m n : Bs} (h : okr m n) : m.length ≤ 1000000 ∧ n.length ≤ 1000000 := by
  refine ⟨?_, okn_lenM h.2⟩
  rcases h.1 with q | q
  · rw [q]; simp
  · exact okn_lenM q
theorem wx_small : ∀ (n : Nat) (l : List X), SizeOf.sizeOf l ≤ n → WX l → Sr (rx l) := by
  intro n
  induction n with
  | zero => intro l hl; cases l <;> simp at hl <;> omega
  | succ n ih =>
    intro l hl h
    cases l with
    | nil => rw [rx]; exact Sr.nil
    | cons x xs =>
      obtain ⟨code, pos, nn, m, nm, op, le, ri, ar⟩ := x
      rw [WX] at h
      simp at hl
      obtain ⟨h1, h2⟩ := h
      have hxs := ih xs (by omega) h2
      have key : Sr (if code = 2 ∨ code = 3 ∨ code = 6 then [⟨code, pos, m, nm, ar.length⟩] else []) ∧ Sr (rx le) ∧ Sr (rx ri) ∧ Sr (rx ar) := by
        have one : okr m nm → Sr (if code = 2 ∨ code = 3 ∨ code = 6 then [⟨code, pos, m, nm, ar.length⟩] else []) := by
          intro hk r hr
          split at hr
          · rw [List.mem_singleton.1 hr]; exact okr_len hk
          · cases hr
        have non : ¬ (code = 2 ∨ code = 3 ∨ code = 6) → Sr (if code = 2 ∨ code = 3 ∨ code = 6 then [⟨code, pos, m, nm, ar.length⟩] else []) := by
          intro hk
          rw [if_neg hk]; exact Sr.nil
        have nil : Sr (rx []) := by rw [rx]; exact Sr.nil
        rcases h1 with ⟨c, _, _, _, _, h5, h6, h7⟩ | ⟨c, _, h3, _, h5, h6, h7⟩ | ⟨c, _, h3, _, h5, _, h6, h7⟩ | ⟨c, _, _, _, _, h5, _, h6, h7⟩ | ⟨c, _, _, _, _, h5, _, h6, _, h7⟩ | ⟨c, _, h3, _, h5, h6, h7⟩
        · exact ⟨non (by omega), by rw [h5]; exact nil, by rw [h6]; exact nil, by rw [h7]; exact nil⟩
        · exact ⟨one h3, by rw [h5]; exact nil, by rw [h6]; exact nil, by rw [h7]; exact nil⟩
        · exact ⟨one h3, ih _ (by omega) h5, by rw [h6]; exact nil, by rw [h7]; exact nil⟩
        · exact ⟨non (by omega), ih _ (by omega) h5, by rw [h6]; exact nil, by rw [h7]; exact nil⟩
        · exact ⟨non (by omega), ih _ (by omega) h5, ih _ (by omega) h6, by rw [h7]; exact nil⟩
        · exact ⟨one h3, by rw [h5]; exact nil, by rw [h6]; exact nil, ih _ (by omega) h7⟩
      rw [rx]
      exact (((key.1.app key.2.1).app key.2.2.1).app key.2.2.2).app hxs
theorem ws_small : ∀ (n : Nat) (l : List S), SizeOf.sizeOf l ≤ n → WS l → Sr (rs l) := by
  intro n
  induction n with
  | zero => intro l hl; cases l <;> simp at hl <;> omega
  | succ n ih =>
    intro l hl h
    cases l with
    | nil => rw [rs]; exact Sr.nil
    | cons x xs =>
      obtain ⟨code, pos, nm, ix, vl, th, el⟩ := x
      rw [WS] at h
      simp at hl
      obtain ⟨h1, h2⟩ := h
      have hxs := ih xs (by omega) h2
      have nx : Sr (rx []) := by rw [rx]; exact Sr.nil
      have ns : Sr (rs []) := by rw [rs]; exact Sr.nil
      have wv : ev vl → Sr (rx vl) := fun q => wx_small _ _ (Nat.le_refl _) q.1
      have non : code ≠ 1 → Sr (if code = 1 then [⟨if ix.isEmpty then 2 else 3, pos, [], nm, 0⟩] else []) := by
        intro hk
        rw [if_neg hk]; exact Sr.nil
      have key : Sr (if code = 1 then [⟨if ix.isEmpty then 2 else 3, pos, [], nm, 0⟩] else []) ∧ Sr (rx ix) ∧ Sr (rx vl) ∧ Sr (rs th) ∧ Sr (rs el) := by
        rcases h1 with ⟨c, h3, h4, h5, h6, h7⟩ | ⟨c, _, h4, h5, h6, h7⟩ | ⟨c, _, h4, h5, h6, h7⟩ | ⟨c, _, h4, h5, h6, h7⟩ | ⟨c, _, h4, h5, _, h6, h7⟩
        · refine ⟨?_, ?_, wv h5, by rw [h6]; exact ns, by rw [h7]; exact ns⟩
          · intro r hr
            rw [if_pos c] at hr
            rw [List.mem_singleton.1 hr]
            exact ⟨by simp, okn_lenM h3⟩
          · rcases h4 with q | q
            · rw [q]; exact nx
            · exact wx_small _ _ (Nat.le_refl _) q.1
        · exact ⟨non (by omega), by rw [h4]; exact nx, wv h5, ih _ (by omega) h6, ih _ (by omega) h7⟩
        · exact ⟨non (by omega), by rw [h4]; exact nx, wv h5, ih _ (by omega) h6, by rw [h7]; exact ns⟩
        · exact ⟨non (by omega), by rw [h4]; exact nx, wv h5, by rw [h6]; exact ns, by rw [h7]; exact ns⟩
        · exact ⟨non (by omega), by rw [h4]; exact nx, wv h5, by rw [h6]; exact ns, by rw [h7]; exact ns⟩
      rw [rs]
      exact ((((key.1.app key.2.1).app key.2.2.1).app key.2.2.2.1).app key.2.2.2.2).app hxs
structure Sml (m : M) : Prop where
  ic : m.imports.length ≤ 1000
  im : ∀ n ∈ m.imports, n.length ≤ 1000000
  gc : m.vars.length ≤ 1000
  g : ∀ g ∈ m.vars, g.name.length ≤ 1000000
  pc : m.procs.length ≤ 1000
  p : ∀ p ∈ m.procs, p.name.length ≤ 1000000 ∧ p.params.length ≤ 1000 ∧ p.vars.length ≤ 1000 ∧ (∀ n ∈ p.params, n.length ≤ 1000000) ∧ (∀ n ∈ p.vars, n.length ≤ 1000000) ∧ Sr (rs p.body)
  b : Sr (rs m.body)
theorem WM.sml {m : M} (h : WM m) : Sml m := by
  refine ⟨by have := h.ic; omega, fun n hn => okn_lenM (h.i n hn), by have := h.gc; omega, fun g hg => okn_lenM (h.g g hg).n, by have := h.pc; omega, fun p hp => ?_, ws_small _ _ (Nat.le_refl _) h.b⟩
  have q := h.p p hp
  have := q.c
  exact ⟨okn_lenM q.n, by omega, by omega, fun n hn => okn_lenM (q.ps n hn), fun n hn => okn_lenM (q.vs n hn), ws_small _ _ (Nat.le_refl _) q.b⟩
end Tp
/- Chapter 4 on plain modules: how statements go, by steps. No program stands in it. -/
namespace Tp
end Tp
