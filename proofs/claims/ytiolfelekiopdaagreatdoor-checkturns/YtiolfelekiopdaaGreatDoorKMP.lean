import Derived.Test.YtiolfelekiopdaaGreatDoorKMO
/- A module with its procedures, and its variables, turned, in memory. -/
namespace Go.Proofs.YtiolfelekiopdaaGreatDoor
open Go.RowKit
open Tp (Bs G Pr)

theorem repp_mk {w : World} {D : Nat → Prop} : ∀ (l : List Pr) (cs : List Value), cs.length = l.length * 6 → (∀ i (h : i < l.length), ∃ (pv vv bv : Value) (bcs : List Value),
    (∀ j, j < 6 → cs[i * 6 + j]? = (pcells (bs l[i].name) (l[i].pos : Int) l[i].seen pv vv bv).toList[j]?) ∧ Row w D 9 1 pv l[i].params.length (strs l[i].params) ∧ Row w D 9 1 vv l[i].vars.length (strs l[i].vars) ∧ RepS w D l[i].body bcs ∧ OwnS w D bv l[i].body.length bcs) → RepP w D l cs := by
  intro l
  induction l with
  | nil => intro cs hl _; exact List.eq_nil_of_length_eq_zero (by simpa using hl)
  | cons c l ih =>
    intro cs hl h
    obtain ⟨pv, vv, bv, bcs, h1, h2, h3, h4, h5⟩ := h 0 (by simp)
    refine ⟨pv, vv, bv, bcs, cs.drop 6, ?_, h2, h3, h4, h5, ih (cs.drop 6) (by simp at hl ⊢; omega) ?_⟩
    · have e : (pcells (bs c.name) (c.pos : Int) c.seen pv vv bv).toList = cs.take 6 := by
        apply List.ext_getElem?
        intro j
        by_cases hj : j < 6
        · rw [List.getElem?_take_of_lt hj]
          have := h1 j hj
          rw [Nat.zero_mul, Nat.zero_add] at this
          exact this.symm
        · rw [List.getElem?_eq_none (by simp [pcells]; omega), List.getElem?_eq_none (by simp; omega)]
      rw [e, List.take_append_drop]
    · intro i hi
      obtain ⟨pv', vv', bv', bcs', q1, q2⟩ := h (i + 1) (by simpa using hi)
      refine ⟨pv', vv', bv', bcs', fun j hj => ?_, q2⟩
      rw [List.getElem?_drop]
      have := q1 j hj
      rw [show (i + 1) * 6 + j = 6 + (i * 6 + j) by omega] at this
      exact this
def sO : Option Value → ByteArray
  | some (.string s) => s
  | _ => ⟨#[]⟩
def iO : Option Value → Int
  | some (.int _ n) => n
  | _ => 0
def bO : Option Value → Bool
  | some (.bool b) => b
  | _ => false
def lO : Option Value → Option Addr × Nat × Nat
  | some (.slice a n c) => (a, n, c)
  | _ => (none, 0, 0)
def fP (cs : List Value) (q : Nat) : ByteArray × Int × Bool × (Option Addr × Nat × Nat) × (Option Addr × Nat × Nat) × (Option Addr × Nat × Nat) := (sO cs[q * 6]?, iO cs[q * 6 + 1]?, bO cs[q * 6 + 2]?, lO cs[q * 6 + 3]?, lO cs[q * 6 + 4]?, lO cs[q * 6 + 5]?)
def fG (cs : List Value) (q : Nat) : ByteArray × Int × Int × Bool := (sO cs[q * 4]?, iO cs[q * 4 + 1]?, iO cs[q * 4 + 2]?, bO cs[q * 4 + 3]?)
theorem fP_ok {w : World} {D : Nat → Prop} {l : List Pr} {cs : List Value} (h : RepP w D l cs) {q t : Nat} (hq : q < l.length) (ht : t < 6) : cs[q * 6 + t]? = some (vlP (fP cs) q t) := by
  obtain ⟨pv, vv, bv, bcs, r1, r2, r3, _, r5⟩ := repp_get l cs h q hq
  obtain ⟨a1, c1, rfl⟩ := r2.shape
  obtain ⟨a2, c2, rfl⟩ := r3.shape
  obtain ⟨a3, c3, rfl⟩ := r5.shape
  have e0 : cs[q * 6]? = some (.string (bs l[q].name)) := r1 0 (by omega)
  have e1 : cs[q * 6 + 1]? = some (.int .i64 (l[q].pos : Int)) := r1 1 (by omega)
  have e2 : cs[q * 6 + 2]? = some (.bool l[q].seen) := r1 2 (by omega)
  have e3 : cs[q * 6 + 3]? = some (.slice a1 l[q].params.length c1) := r1 3 (by omega)
  have e4 : cs[q * 6 + 4]? = some (.slice a2 l[q].vars.length c2) := r1 4 (by omega)
  have e5 : cs[q * 6 + 5]? = some (.slice a3 l[q].body.length c3) := r1 5 (by omega)
  unfold vlP fP
  simp only [e0, e1, e2, e3, e4, e5]
  match t, ht with
  | 0, _ => exact e0
  | 1, _ => exact e1
  | 2, _ => exact e2
  | 3, _ => exact e3
  | 4, _ => exact e4
  | 5, _ => exact e5
theorem fG_ok (l : List G) {q t : Nat} (hq : q < l.length) (ht : t < 4) : (gcs l)[q * 4 + t]? = some (vlG (fG (gcs l)) q t) := by
  have e0 : (gcs l)[q * 4]? = some (.string (bs l[q].name)) := gcs_get l q hq 0 (by omega)
  have e1 : (gcs l)[q * 4 + 1]? = some (.int .i64 (l[q].pos : Int)) := gcs_get l q hq 1 (by omega)
  have e2 : (gcs l)[q * 4 + 2]? = some (.int .i64 (l[q].len : Int)) := gcs_get l q hq 2 (by omega)
  have e3 : (gcs l)[q * 4 + 3]? = some (.bool l[q].seen) := gcs_get l q hq 3 (by omega)
  unfold vlG fG
  simp only [e0, e1, e2, e3]
  match t, ht with
  | 0, _ => exact e0
  | 1, _ => exact e1
  | 2, _ => exact e2
  | 3, _ => exact e3
theorem gcs_len (l : List G) : (gcs l).length = l.length * 4 := by
  induction l with
  | nil => rfl
  | cons g l ih =>
    have e : gcs (g :: l) = (gcells (bs g.name) (g.pos : Int) (g.len : Int) g.seen).toList ++ gcs l := rfl
    rw [e, List.length_append, ih]
    simp [gcells]
    omega
theorem repp_len {w : World} {D : Nat → Prop} : ∀ (l : List Pr) (cs : List Value), RepP w D l cs → cs.length = l.length * 6 := by
  intro l
  induction l with
  | nil => intro cs h; rw [show cs = [] from h]; rfl
  | cons c l ih =>
    intro cs h
    obtain ⟨pv, vv, bv, bcs, cs', h1, _, _, _, _, h6⟩ := h
    rw [h1, List.length_append, ih cs' h6]
    simp [pcells]
    omega
theorem vlG_one (f : Nat → ByteArray × Int × Int × Bool) (q t : Nat) (ht : t < 4) : (vlG f q t).oneCell' = true := by
  match t, ht with
  | 0, _ => rfl
  | 1, _ => rfl
  | 2, _ => rfl
  | 3, _ => rfl
theorem gcs_one (l : List G) : ∀ u ∈ gcs l, u.oneCell' = true := by
  intro u hu
  obtain ⟨i, hi, e⟩ := List.mem_iff_getElem.1 hu
  rw [gcs_len] at hi
  have h1 : i = (i / 4) * 4 + i % 4 := by omega
  have h2 := fG_ok l (q := i / 4) (t := i % 4) (by omega) (by omega)
  rw [← h1, List.getElem?_eq_getElem (by rw [gcs_len]; exact hi), e] at h2
  rw [Option.some.inj h2]
  exact vlG_one _ _ _ (by omega)
theorem vlP_one (f : Nat → ByteArray × Int × Bool × (Option Addr × Nat × Nat) × (Option Addr × Nat × Nat) × (Option Addr × Nat × Nat)) (q t : Nat) (ht : t < 6) : (vlP f q t).oneCell' = true := by
  match t, ht with
  | 0, _ => rfl
  | 1, _ => rfl
  | 2, _ => rfl
  | 3, _ => rfl
  | 4, _ => rfl
  | 5, _ => rfl
theorem pcs_one {w : World} {D : Nat → Prop} {l : List Pr} {cs : List Value} (h : RepP w D l cs) : ∀ u ∈ cs, u.oneCell' = true := by
  intro u hu
  obtain ⟨i, hi, e⟩ := List.mem_iff_getElem.1 hu
  have hi' := hi
  rw [repp_len _ _ h] at hi
  have h1 : i = (i / 6) * 6 + i % 6 := by omega
  have h2 := fP_ok h (q := i / 6) (t := i % 6) (by omega) (by omega)
  rw [← h1, List.getElem?_eq_getElem hi', e] at h2
  rw [Option.some.inj h2]
  exact vlP_one _ _ _ (by omega)
/- what is turned, and where -/
theorem revG_own {w : World} {base : Nat} {v : Value} {l : List G} (h : w.ownsRow base 42 4 v l.length (gcs l)) (hn : l.length ≤ 1000) :
    Calls Tryz.prog 13 #[v] w fun e w' => e = .returned (.tuple #[]) ∧ Below base w w' ∧ (∀ k, k < w.heap.size → v.ownBlock ≠ some k → w'.heap[k]? = w.heap[k]?) ∧ Row w' (fun b => v.ownBlock = some b) 42 4 v l.reverse.length (gcs l.reverse) := by
  rcases h.2 with ⟨rfl, hz⟩ | ⟨g, cap, cur, rfl, q1, q2, q3, q4, q5, q6⟩
  · refine (revG_nil w).mono ?_
    rintro e w' ⟨rfl, rfl⟩
    have : l = [] := List.eq_nil_of_length_eq_zero hz
    subst this
    exact ⟨rfl, Below.refl _ _, fun _ _ _ => rfl, Or.inl ⟨rfl, rfl, rfl⟩⟩
  · have hcl : ∀ q, q < l.length → ∀ t, t < 4 → cur[q * 4 + t]? = some (vlG (fG (gcs l)) q t) := by
      intro q hq t ht
      rw [← fG_ok l hq ht, ← Array.getElem?_toList, ← q6, List.getElem?_take_of_lt (by omega)]
    refine (revG_post q2 rfl hcl hn (by omega)).mono ?_
    rintro e w' ⟨rfl, hx, cur', c1, c2, c3⟩
    refine ⟨rfl, ⟨hx.os, hx.tape, hx.output, hx.size, fun k hk => ?_⟩, fun k hk hne => hx.block k hk (fun e => hne (by rw [e]; rfl)), Or.inr ⟨g, cap, cur', by simp, rfl, c1, by simpa using q3, q4, by omega, ?_⟩⟩
    · by_cases hkl : k < w.heap.size
      · exact hx.block k hkl (by omega)
      · have := lt_blk q2; omega
    · apply List.ext_getElem?
      intro p
      rw [List.length_reverse]
      by_cases hp : p < l.length * 4
      · have h1 : p = (p / 4) * 4 + p % 4 := by omega
        have hq : p / 4 < l.length := by omega
        rw [List.getElem?_take_of_lt hp, Array.getElem?_toList]
        have e1 := c3 (p / 4) hq (p % 4) (by omega)
        rw [← h1] at e1
        have e2 := fG_ok l (q := l.length - 1 - p / 4) (t := p % 4) (by omega) (by omega)
        have e3 := gcs_get l (l.length - 1 - p / 4) (by omega) (p % 4) (by omega)
        have e4 := gcs_get l.reverse (p / 4) (by simpa using hq) (p % 4) (by omega)
        rw [← h1] at e4
        rw [e1, ← e2, e3, e4, List.getElem_reverse]
      · rw [List.getElem?_eq_none (by simp; omega), List.getElem?_eq_none (by rw [gcs_len, List.length_reverse]; omega)]
theorem revP_own {w : World} {base : Nat} {D : Nat → Prop} {v : Value} {l : List Pr} {cs : List Value} (h : w.ownsRow base 39 6 v l.length cs) (hr : RepP w D l cs) (hD : ∀ b, D b → b < base) (hn : l.length ≤ 1000) :
    Calls Tryz.prog 12 #[v] w fun e w' => e = .returned (.tuple #[]) ∧ Below base w w' ∧ (∀ k, k < w.heap.size → v.ownBlock ≠ some k → w'.heap[k]? = w.heap[k]?) ∧ ∃ cs', Row w' (fun b => v.ownBlock = some b) 39 6 v l.reverse.length cs' ∧ RepP w' D l.reverse cs' := by
  rcases h.2 with ⟨rfl, hz⟩ | ⟨g, cap, cur, rfl, q1, q2, q3, q4, q5, q6⟩
  · refine (revP_nil w).mono ?_
    rintro e w' ⟨rfl, rfl⟩
    have : l = [] := List.eq_nil_of_length_eq_zero hz
    subst this
    exact ⟨rfl, Below.refl _ _, fun _ _ _ => rfl, [], Or.inl ⟨rfl, rfl, rfl⟩, rfl⟩
  · have hcl : ∀ q, q < l.length → ∀ t, t < 6 → cur[q * 6 + t]? = some (vlP (fP cs) q t) := by
      intro q hq t ht
      rw [← fP_ok hr hq ht, ← Array.getElem?_toList, ← q6, List.getElem?_take_of_lt (by omega)]
    refine (revP_post q2 rfl hcl hn (by omega)).mono ?_
    rintro e w' ⟨rfl, hx, cur', c1, c2, c3⟩
    have hbel : Below base w w' := ⟨hx.os, hx.tape, hx.output, hx.size, fun k hk => by
      by_cases hkl : k < w.heap.size
      · exact hx.block k hkl (by omega)
      · have := lt_blk q2; omega⟩
    refine ⟨rfl, hbel, fun k hk hne => hx.block k hk (fun e => hne (by rw [e]; rfl)), cur'.toList.take (l.length * 6), Or.inr ⟨g, cap, cur', by simp, rfl, c1, by simpa using q3, q4, by omega, by simp⟩, ?_⟩
    refine repp_mk _ _ (by simp; omega) (fun i hi => ?_)
    rw [List.length_reverse] at hi
    obtain ⟨pv, vv, bv, bcs, r1, r2, r3, r4, r5⟩ := repp_get l cs hr (l.length - 1 - i) (by omega)
    have hk : ∀ b, D b → b < w.heap.size → w'.heap[b]? = w.heap[b]? ∧ D b := fun b hb _ => ⟨hbel.block b (hD b hb), hb⟩
    rw [List.getElem_reverse]
    refine ⟨pv, vv, bv, bcs, fun j hj => ?_, r2.mono hk, r3.mono hk, r4.mono' hk, r5.mono hk⟩
    rw [List.getElem?_take_of_lt (by omega), Array.getElem?_toList, c3 i hi j hj, ← fP_ok hr (by omega) hj]
    exact r1 j hj
end Go.Proofs.YtiolfelekiopdaaGreatDoor
/- CheckTurns, walked. -/
namespace Go.Proofs.YtiolfelekiopdaaGreatDoor
open Go.RowKit
open Tp (Bs Sy Seen G Pr)

/- n, behind its two slices have been set -/
structure Tn (w5 wc : World) (m : Tp.M) (ia ba : Option Addr) (ic bc : Nat) (pv gv : Value) (pcs : List Value) : Prop where
  b : Below w5.heap.size w5 wc
  k : wc.heap[w5.heap.size]? = some (.cells #[.string (bs m.name), .slice ia m.imports.length ic, gv, pv, .slice ba m.body.length bc] 29 (0, 0))
  p : wc.ownsRow (w5.heap.size + 1) 39 6 pv m.procs.length pcs
  g : wc.ownsRow (w5.heap.size + 1) 42 4 gv m.vars.length (gcs m.vars)
  ne : ∀ x, pv.ownBlock = some x → gv.ownBlock ≠ some x
theorem ownsN {w w' : World} {base e size n : Nat} {v : Value} {xs : List Value} (h : w.ownsRow base e size v n xs) (hk : ∀ b, base ≤ b → b < w.heap.size → w'.heap[b]? = w.heap[b]?) : w'.ownsRow base e size v n xs := owns_keep h (fun b h1 h2 _ => hk b h1 h2)
theorem Tn.mk' {w5 w6 w7 w8 : World} {m : Tp.M} {ia ba : Option Addr} {ic bc : Nat} {g0 p0 pv gv : Value} {pcs : List Value} (h6 : w6.heap.size = w5.heap.size + 1) (hb6 : Below w5.heap.size w5 w6) (hk6 : w6.heap[w5.heap.size]? = some (.cells #[.string (bs m.name), .slice ia m.imports.length ic, g0, p0, .slice ba m.body.length bc] 29 (0, 0)))
    (hb7 : Below w6.heap.size w6 w7) (hp : w7.ownsRow w6.heap.size 39 6 pv m.procs.length pcs) (hb8 : Below w7.heap.size w7 w8) (hg : w8.ownsRow w7.heap.size 42 4 gv m.vars.length (gcs m.vars)) {wc : World} (hw : wc = (w8.setCell ⟨w5.heap.size, 3, none⟩ pv).setCell ⟨w5.heap.size, 2, none⟩ gv ∨ wc = (w8.setCell ⟨w5.heap.size, 2, none⟩ gv).setCell ⟨w5.heap.size, 3, none⟩ pv) : Tn w5 wc m ia ba ic bc pv gv pcs := by
  have hs7 := hb7.size
  have hs8 := hb8.size
  have hk8 : w8.heap[w5.heap.size]? = some (.cells #[.string (bs m.name), .slice ia m.imports.length ic, g0, p0, .slice ba m.body.length bc] 29 (0, 0)) := (hb8.block _ (by omega)).trans ((hb7.block _ (by omega)).trans hk6)
  have hne : ∀ b, b ≠ w5.heap.size → wc.heap[b]? = w8.heap[b]? := by
    intro b hb
    rcases hw with rfl | rfl
    · rw [Below.heap_setCell _ _ _ _ (by simpa using hb), Below.heap_setCell _ _ _ _ (by simpa using hb)]
    · rw [Below.heap_setCell _ _ _ _ (by simpa using hb), Below.heap_setCell _ _ _ _ (by simpa using hb)]
  have hb58 : Below w5.heap.size w5 w8 := hb6.trans ((hb7.mono (by omega)).trans (hb8.mono (by omega)))
  refine ⟨?_, ?_, ?_, ?_, ?_⟩
  · rcases hw with rfl | rfl
    · exact below_set (below_set hb58 (Nat.le_refl _) 3 _) (Nat.le_refl _) 2 _
    · exact below_set (below_set hb58 (Nat.le_refl _) 2 _) (Nat.le_refl _) 3 _
  · rcases hw with rfl | rfl
    · exact set_blk 2 gv (set_blk 3 pv hk8)
    · exact set_blk 3 pv (set_blk 2 gv hk8)
  · have h8 := ownsN (w' := w8) hp (fun b _ hl => hb8.block b hl)
    rw [h6] at h8
    exact ownsN h8 (fun b h1 _ => hne b (by omega))
  · have h8 : w8.ownsRow (w5.heap.size + 1) 42 4 gv m.vars.length (gcs m.vars) := by
      refine ⟨hg.1, ?_⟩
      rcases hg.2 with q | ⟨g, cap, cur, a1, a2, a3⟩
      · exact Or.inl q
      · exact Or.inr ⟨g, cap, cur, a1, by omega, a3⟩
    exact ownsN h8 (fun b h1 _ => hne b (by omega))
  · intro x h1 h2
    have a := hp.lt x h1
    have b := hg.lt x h2
    omega
theorem owns_row' {w : World} {base e size n : Nat} {v : Value} {xs : List Value} (h : w.ownsRow base e size v n xs) : ∃ a c, v = .slice a n c := owns_shape h
/- the turned module, in memory -/
theorem mb_turned {w5 wc w10 w11 : World} {m : Tp.M} {ia ga pa ba : Option Addr} {ic gc pc bc : Nat} {pv gv : Value} {pcs pcs' : List Value} (hmb : MB w5 w5.heap.size m ia ga pa ba ic gc pc bc) (ht : Tn w5 wc m ia ba ic bc pv gv pcs)
    (hb10 : Below (w5.heap.size + 1) wc w10) (_ : ∀ k, k < wc.heap.size → pv.ownBlock ≠ some k → w10.heap[k]? = wc.heap[k]?) (hp : Row w10 (fun b => pv.ownBlock = some b) 39 6 pv m.procs.reverse.length pcs') (hr : RepP w10 (fun b => b < w5.heap.size) m.procs.reverse pcs')
    (hb11 : Below (w5.heap.size + 1) w10 w11) (hx11 : ∀ k, k < w10.heap.size → gv.ownBlock ≠ some k → w11.heap[k]? = w10.heap[k]?) (hg : Row w11 (fun b => gv.ownBlock = some b) 42 4 gv m.vars.reverse.length (gcs m.vars.reverse)) :
    ∃ ga' gc' pa' pc', gv = .slice ga' m.vars.length gc' ∧ pv = .slice pa' m.procs.length pc' ∧ MB w11 w11.heap.size (Tp.turned m) ia ga' pa' ba ic gc' pc' bc := by
  obtain ⟨ga', gc', hgv⟩ := owns_row' ht.g
  obtain ⟨pa', pc', hpv⟩ := owns_row' ht.p
  have hbw : Below w5.heap.size w5 w11 := ht.b.trans ((hb10.mono (by omega)).trans (hb11.mono (by omega)))
  have hsz := hbw.size
  have hk : ∀ b, b < w5.heap.size → b < w5.heap.size → w11.heap[b]? = w5.heap[b]? ∧ b < w11.heap.size := fun b hi _ => ⟨hbw.block b hi, by omega⟩
  obtain ⟨bcs, b1, b2⟩ := hmb.bd
  refine ⟨ga', gc', pa', pc', hgv, hpv, ⟨?_, ?_, ⟨pcs', ?_, ?_⟩, ⟨bcs, b1.mono' hk, b2.mono hk⟩⟩⟩
  · exact hmb.im.mono hk
  · have : (Tp.turned m).vars = m.vars.reverse := rfl
    rw [this, List.length_reverse]
    rw [hgv, List.length_reverse] at hg
    exact hg.mono (fun b _ hl => ⟨rfl, hl⟩)
  · refine hr.mono (fun b hb hl => ⟨hb11.block b (by omega), by omega⟩) _ _
  · have : (Tp.turned m).procs = m.procs.reverse := rfl
    rw [this, List.length_reverse]
    have hne := ht.ne
    rw [hpv, List.length_reverse] at hp
    rw [hpv] at hne
    exact hp.mono (fun b hb hl => ⟨hx11 b hl (hne b hb), by have := hb11.size; omega⟩)
end Go.Proofs.YtiolfelekiopdaaGreatDoor
