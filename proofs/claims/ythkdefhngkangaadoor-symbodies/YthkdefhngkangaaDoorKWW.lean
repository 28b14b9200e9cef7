import Derived.Test.YthkdefhngkangaaDoorKWV
/- Writing a MODULE: addModule's contract, Print's. -/
namespace Go.Proofs.YthkdefhngkangaaDoor
open Go.RowKit
variable {kk : Nat → Prop}
open Tp (X S G Pr)

theorem gcs_get : ∀ (l : List G) (i : Nat) (h : i < l.length) (j : Nat), j < 4 → (gcs l)[i * 4 + j]? = (gcells (bs l[i].name) (l[i].pos : Int) (l[i].len : Int) l[i].seen).toList[j]? := by
  intro l
  induction l with
  | nil => intro i h; simp at h
  | cons g l ih =>
    intro i h j hj
    have e : gcs (g :: l) = (gcells (bs g.name) (g.pos : Int) (g.len : Int) g.seen).toList ++ gcs l := rfl
    rw [e]
    cases i with
    | zero => rw [Nat.zero_mul, Nat.zero_add, List.getElem?_append_left (by simpa [gcells] using hj)]; rfl
    | succ i =>
      rw [List.getElem?_append_right (by simp [gcells]; omega)]
      have : (i + 1) * 4 + j - (gcells (bs g.name) (g.pos : Int) (g.len : Int) g.seen).toList.length = i * 4 + j := by simp [gcells]; omega
      rw [this, ih i (by simpa using h) j hj]
      rfl
theorem repp_get {w : World} {D : Nat → Prop} : ∀ (l : List Pr) (cs : List Value), RepP w D l cs → ∀ (i : Nat) (h : i < l.length), ∃ (pv vv bv : Value) (bcs : List Value),
    (∀ j, j < 6 → cs[i * 6 + j]? = (pcells (bs l[i].name) (l[i].pos : Int) l[i].seen pv vv bv).toList[j]?) ∧ Row w D 9 1 pv l[i].params.length (strs l[i].params) ∧ Row w D 9 1 vv l[i].vars.length (strs l[i].vars) ∧ RepS w D l[i].body bcs ∧ OwnS w D bv l[i].body.length bcs := by
  intro l
  induction l with
  | nil => intro cs _ i h; simp at h
  | cons c l ih =>
    intro cs hr i h
    obtain ⟨pv, vv, bv, bcs, cs', h1, h2, h3, h4, h5, h6⟩ := hr
    subst h1
    cases i with
    | zero =>
      refine ⟨pv, vv, bv, bcs, fun j hj => ?_, h2, h3, h4, h5⟩
      rw [Nat.zero_mul, Nat.zero_add, List.getElem?_append_left (by simpa [pcells] using hj)]
      rfl
    | succ i =>
      obtain ⟨pv', vv', bv', bcs', q1, q2⟩ := ih cs' h6 i (by simpa using h)
      refine ⟨pv', vv', bv', bcs', fun j hj => ?_, q2⟩
      rw [List.getElem?_append_right (by simp [pcells]; omega)]
      have : (i + 1) * 6 + j - (pcells (bs c.name) (c.pos : Int) c.seen pv vv bv).toList.length = i * 6 + j := by simp [pcells]; omega
      rw [this, q1 j hj]
      rfl
theorem row_cell {w : World} {D : Nat → Prop} {e size n : Nat} {v : Value} {cs : List Value} (h : Row w D e size v n cs) (hn : 0 < n) : ∃ g cap, v = .slice (some ⟨g, 0, none⟩) n cap ∧ D g ∧ g < w.heap.size ∧ ∀ k, k < n * size → w.cell? ⟨g, k, none⟩ = cs[k]? := by
  rcases h with ⟨_, h2, _⟩ | ⟨g, cap, cur, h1, h2, h3, h4, h5, h6, h7⟩
  · omega
  · refine ⟨g, cap, h1, h2, lt_blk h3, fun k hk => ?_⟩
    rw [cell_blk h3, ← Array.getElem?_toList, ← h7, List.getElem?_take_of_lt hk]
theorem take_map_succ {α : Type} (f : α → List (List UInt8)) (l : List α) (i : Nat) (h : i < l.length) : ((l.take (i + 1)).map f).flatten.flatten = ((l.take i).map f).flatten.flatten ++ (f l[i]).flatten := by
  rw [List.take_succ_eq_append_getElem h, List.map_append, List.flatten_append, List.flatten_append]
  simp
theorem take_map_le {α : Type} (f : α → List (List UInt8)) (l : List α) (i : Nat) : ((l.take i).map f).flatten.flatten.length ≤ (l.map f).flatten.flatten.length := by
  conv => rhs; rw [← List.take_append_drop i l, List.map_append, List.flatten_append, List.flatten_append, List.length_append]
  omega
/- a module that lies below B -/
structure MB (w : World) (B : Nat) (m : Tp.M) (ia ga pa ba : Option Addr) (ic gc pc bc : Nat) : Prop where
  im : Row w (fun i => i < B) 9 1 (.slice ia m.imports.length ic) m.imports.length (strs m.imports)
  gl : Row w (fun i => i < B) 41 4 (.slice ga m.vars.length gc) m.vars.length (gcs m.vars)
  pr : ∃ pcs, RepP w (fun i => i < B) m.procs pcs ∧ Row w (fun i => i < B) 43 6 (.slice pa m.procs.length pc) m.procs.length pcs
  bd : ∃ bcs, RepS w (fun i => i < B) m.body bcs ∧ OwnS w (fun i => i < B) (.slice ba m.body.length bc) m.body.length bcs
theorem VM.mb {B : Nat} {m : Tp.M} {v : Value} {w : World} (h : VM B m v w) : ∃ ia ga pa ba ic gc pc bc, v = .agg (mcells (bs m.name) (.slice ia m.imports.length ic) (.slice ga m.vars.length gc) (.slice pa m.procs.length pc) (.slice ba m.body.length bc)) ∧ MB w w.heap.size m ia ga pa ba ic gc pc bc := by
  obtain ⟨ia, ga, pa, ba, ic, gc, pc, bc, pcs, bcs, h1, h2, h3, h4, h5, h6, h7⟩ := h
  refine ⟨ia, ga, pa, ba, ic, gc, pc, bc, h1, ⟨h2.mono fun _ _ hl => ⟨rfl, hl⟩, h3.mono fun _ _ hl => ⟨rfl, hl⟩, ⟨pcs, h4.mono (fun _ _ hl => ⟨rfl, hl⟩) _ _, h5.mono fun _ _ hl => ⟨rfl, hl⟩⟩, ⟨bcs, h6.mono' fun _ _ hl => ⟨rfl, hl⟩, h7.mono fun _ _ hl => ⟨rfl, hl⟩⟩⟩⟩
theorem MB.on {w w' : World} {B : Nat} {m : Tp.M} {ia ga pa ba : Option Addr} {ic gc pc bc : Nat} (h : MB w B m ia ga pa ba ic gc pc bc) (k : Below B w w') : MB w' B m ia ga pa ba ic gc pc bc := by
  have hk : ∀ b, b < B → b < w.heap.size → w'.heap[b]? = w.heap[b]? ∧ b < B := fun b hi _ => ⟨k.block b hi, hi⟩
  obtain ⟨pcs, p1, p2⟩ := h.pr
  obtain ⟨bcs, b1, b2⟩ := h.bd
  exact ⟨h.im.mono hk, h.gl.mono hk, ⟨pcs, p1.mono hk _ _, p2.mono hk⟩, ⟨bcs, b1.mono' hk, b2.mono hk⟩⟩
theorem addModule_post {m : Tp.M} (hm : Tp.WM m) {w : World} {B : Nat} {v : Value} {l : List UInt8} {ia ga pa ba : Option Addr} {ic gc pc bc : Nat} (h : MB w B m ia ga pa ba ic gc pc bc) (hb : Buf kk w B v l) (hr : Wr B w) (hl : (l ++ (Tp.pm m).flatten).length ≤ 1000000000) :
    Calls Tryd.prog 25 #[v, .agg (mcells (bs m.name) (.slice ia m.imports.length ic) (.slice ga m.vars.length gc) (.slice pa m.procs.length pc) (.slice ba m.body.length bc))] w (Wrote kk B w (l ++ (Tp.pm m).flatten)) := by
  obtain ⟨nm, is, gs, ps, body⟩ := m
  obtain ⟨pcs, p1, p2⟩ := h.pr
  obtain ⟨bcs, b1, b2⟩ := h.bd
  have hgl := h.gl
  have him := h.im
  simp only at hgl him p1 p2 b1 b2
  obtain ⟨m1, hm1⟩ : ∃ m1, m1 = l ++ ([[109, 111, 100, 117, 108, 101, 32], nm, [59, 10]] : List (List UInt8)).flatten := ⟨_, rfl⟩
  obtain ⟨m2, hm2⟩ : ∃ m2, m2 = m1 ++ (if is = [] then [] else [105, 109, 112, 111, 114, 116, 32] ++ (Tp.pnames is).flatten ++ [59, 10]) := ⟨_, rfl⟩
  obtain ⟨mg, hmg⟩ : ∃ mg : Nat → List UInt8, mg = fun i => m2 ++ ((gs.take i).map Tp.pg).flatten.flatten := ⟨_, rfl⟩
  obtain ⟨mp, hmp⟩ : ∃ mp : Nat → List UInt8, mp = fun i => mg gs.length ++ ((ps.take i).map Tp.pp).flatten.flatten := ⟨_, rfl⟩
  obtain ⟨m3, hm3⟩ : ∃ m3, m3 = mp ps.length ++ [98, 101, 103, 105, 110, 10] := ⟨_, rfl⟩
  obtain ⟨m4, hm4⟩ : ∃ m4, m4 = m3 ++ (Tp.psts body 1).flatten := ⟨_, rfl⟩
  obtain ⟨mf, hmf⟩ : ∃ mf, mf = m4 ++ [101, 110, 100, 46, 10] := ⟨_, rfl⟩
  have hgn : mg gs.length = m2 ++ (gs.map Tp.pg).flatten.flatten := by rw [hmg]; simp
  have hpn : mp ps.length = mg gs.length ++ (ps.map Tp.pp).flatten.flatten := by rw [hmp]; simp
  have e1 : l ++ (Tp.pm ⟨nm, is, gs, ps, body⟩).flatten = mf := by
    rw [hmf, hm4, hm3, hpn, hgn, hm2, hm1]
    unfold Tp.pm
    by_cases hi : is = [] <;> simp [hi, Tp.wModule, Tp.sp, Tp.mSemi, Tp.nl, Tp.wImport, Tp.wBegin, Tp.wEnd, Tp.mDot]
  rw [e1] at hl ⊢
  have g1 : m1.length ≤ m2.length := by rw [hm2]; simp
  have g2 : ∀ i, (mg i).length ≤ (mg gs.length).length := by
    intro i; rw [hgn, hmg]; simp only [List.length_append]; have := take_map_le Tp.pg gs i; omega
  have g2' : m2.length ≤ (mg gs.length).length := by rw [hgn]; simp
  have g3 : ∀ i, (mp i).length ≤ (mp ps.length).length := by
    intro i; rw [hpn, hmp]; simp only [List.length_append]; have := take_map_le Tp.pp ps i; omega
  have g3' : (mg gs.length).length ≤ (mp ps.length).length := by rw [hpn]; simp
  have g4 : (mp ps.length).length ≤ m3.length := by rw [hm3]; simp
  have g5 : m3.length ≤ m4.length := by rw [hm4]; simp
  have g6 : m4.length ≤ mf.length := by rw [hmf]; simp
  have hgc := hm.gc
  have hpc := hm.pc
  have hic := hm.ic
  simp only at hgc hpc hic
  have hg0 : mg 0 = m2 := by rw [hmg]; simp
  have hp0 : mp 0 = mg gs.length := by rw [hmp]; simp
  refine addModule_walk (mg := mg) (mp := mp) (m1 := m1) (m2 := m2) (inn := is.length) (gn := gs.length) (pn := ps.length) (bn := body.length) hb hm1 ?_ hg0 ?_ hp0 ?_ hm3 ?_ hmf (by omega) (by omega) (by omega) hl (by omega) (by omega) (by omega)
  · by_cases hi : is = []
    · subst hi; exact Or.inl ⟨rfl, by rw [hm2]; simp⟩
    · refine Or.inr ⟨List.length_pos_iff.2 hi, (Tp.pnames is).flatten, by rw [hm2, if_neg hi]; simp, fun W hW => join_post (row_on him hW.toBelow) ?_ (by omega)⟩
      have h2 : m2.length ≤ 1000000000 := by omega
      rw [hm2, if_neg hi] at h2
      simp only [List.length_append] at h2
      omega
  · intro i hi
    obtain ⟨g, cap, q1, q2, q3, q4⟩ := row_cell hgl (by omega)
    cases q1
    have hc := fun j (hj : j < 4) => (q4 (i * 4 + j) (by omega)).trans (gcs_get gs i hi j hj)
    refine ⟨g, gs[i].name, gs[i].pos, gs[i].len, gs[i].seen, rfl, q2, q3, hc 0 (by omega), hc 1 (by omega), hc 2 (by omega), hc 3 (by omega), ?_⟩
    intro W v' hW hB
    have e : mg (i + 1) = mg i ++ (Tp.pg gs[i]).flatten := by rw [hmg]; simp only [take_map_succ Tp.pg gs i hi, List.append_assoc]
    rw [e]
    exact addGlobal_post gs[i] (hm.g _ (List.getElem_mem hi)).l hB (by rw [← e]; have := g2 (i + 1); omega)
  · intro i hi
    obtain ⟨g, cap, q1, q2, q3, q4⟩ := row_cell p2 (by omega)
    cases q1
    obtain ⟨pv, vv, bv, bcs', r1, r2, r3, r4, r5⟩ := repp_get ps pcs p1 i hi
    have hc := fun j (hj : j < 6) => (q4 (i * 6 + j) (by omega)).trans (r1 j hj)
    obtain ⟨y3, c3, rfl⟩ := r2.shape
    obtain ⟨y4, c4, rfl⟩ := r3.shape
    obtain ⟨y5, c5, rfl⟩ := r5.shape
    refine ⟨g, ps[i].name, ps[i].pos, ps[i].seen, y3, y4, y5, ps[i].params.length, ps[i].vars.length, ps[i].body.length, c3, c4, c5, rfl, q2, q3, hc 0 (by omega), hc 1 (by omega), hc 2 (by omega), hc 3 (by omega), hc 4 (by omega), hc 5 (by omega), ?_⟩
    intro W v' hW hB
    have e : mp (i + 1) = mp i ++ (Tp.pp ps[i]).flatten := by rw [hmp]; simp only [take_map_succ Tp.pp ps i hi, List.append_assoc]
    have hwp := hm.p _ (List.getElem_mem hi)
    have hwc := hwp.c
    have hwd := hwp.d
    rw [e]
    exact addProc_post ps[i] hwp.b (by omega) (by omega) (by omega) (row_on r2 hW.toBelow) (row_on r3 hW.toBelow) (reps_on r4 hW) (owns_on r5 hW) hB (hr.on hW) (by rw [← e]; have := g3 (i + 1); omega)
  · intro W v' hW hB
    have hwd := hm.d
    have hwb := hm.b
    simp only at hwd hwb
    have := addStmts_all (d := 1) hwb (reps_on b1 hW) (owns_on b2 hW) hB (hr.on hW) (by omega) (by rw [← hm4]; omega)
    rw [← hm4] at this
    exact this
end Go.Proofs.YthkdefhngkangaaDoor
/- Print's contract. -/
namespace Go.Proofs.YthkdefhngkangaaDoor
open Go.RowKit

theorem conv_buf {kk : Nat → Prop} {w : World} {B : Nat} {v : Value} {l : List UInt8} (h : Buf kk w B v l) : (convert 62 9 v).run Tryd.prog w = .ok (.string (bs l)) w := by
  rcases h.own.2 with ⟨rfl, h2⟩ | ⟨g, cap, cur, rfl, h2, h3, h4, h5, h6, h7⟩
  · have e : l = [] := List.eq_nil_of_length_eq_zero h2
    subst e
    rw [run_convert_bytes_string w 62 9 5 none 0 0 Tryd.underlying62 Tryd.underlying5 Tryd.underlying9]
    rfl
  · refine run_convert_bytes_back w 62 9 5 ⟨g, 0, none⟩ cap l Tryd.underlying62 Tryd.underlying5 Tryd.underlying9 (fun j hj => ?_)
    have := h.own.cells (g := g) rfl j (.int .u8 (l[j].toNat : Int)) (by rw [u8s, List.getElem?_map, List.getElem?_eq_getElem hj]; rfl)
    simpa using this
set_option maxRecDepth 100000 in
set_option maxHeartbeats 2000000 in
theorem print_post {m : Tp.M} (hm : Tp.WM m) {w : World} {ia ga pa ba : Option Addr} {ic gc pc bc : Nat} (h : MB w w.heap.size m ia ga pa ba ic gc pc bc) (hr : Wr w.heap.size w) (hl : (Tp.print m).length ≤ 1000000000) :
    Calls Tryd.prog 9 #[.agg (mcells (bs m.name) (.slice ia m.imports.length ic) (.slice ga m.vars.length gc) (.slice pa m.procs.length pc) (.slice ba m.body.length bc))] w fun e w' => e = .returned (.string (bs (Tp.print m))) ∧ Below w.heap.size w w' := by
  have hal : ∀ ob, Below w.heap.size w (w.alloc ob) := fun ob => (Below.refl _ _).alloc (Nat.le_refl _) _
  have hbw : ∀ ob, Bw (fun _ => False) w.heap.size w (w.alloc ob) := fun ob => Bw.of (hal ob) (Nat.le_refl _)
  have hc : ∀ ob, Calls Tryd.prog 25 #[.slice none 0 0, .agg (mcells (bs m.name) (.slice ia m.imports.length ic) (.slice ga m.vars.length gc) (.slice pa m.procs.length pc) (.slice ba m.body.length bc))] (w.alloc ob) (Wrote (fun _ => False) w.heap.size (w.alloc ob) (Tp.print m)) := fun ob =>
    addModule_post hm (h.on (hal ob)) (Buf.nil _ _ (by simp) (fun k hk => hk.elim)) (hr.on (hbw ob)) hl
  have HC := Lib.hid hc
  have HAL := Lib.hid hal
  generalize m.name = nm at *
  generalize m.imports.length = n1 at *
  generalize m.vars.length = n2 at *
  generalize m.procs.length = n3 at *
  generalize m.body.length = n4 at *
  generalize Tp.print m = pt at *
  clear hc hbw hal hr h hm
  unfold mcells at HC ⊢
  go_enter Tryd.func9, Tryd.ntmps9
  go_wp2_with fail
  refine (HC.out _).mono ?_
  rintro e w2 ⟨v2, rfl, hbuf2, hbel2⟩
  have hcv := conv_buf hbuf2
  have HB := Lib.hid ((HAL.out _).trans hbel2.toBelow)
  clear hbuf2 hbel2
  go_wp2_with fail
  go_ret
  exact ⟨rfl, HB.out⟩
end Go.Proofs.YthkdefhngkangaaDoor
