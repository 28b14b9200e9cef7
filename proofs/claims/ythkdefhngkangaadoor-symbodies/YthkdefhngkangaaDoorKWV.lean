import Derived.Test.YthkdefhngkangaaDoorKWU
/- Writing a PROC: addProc. -/
namespace Go.Proofs.YthkdefhngkangaaDoor
open Go.RowKit
variable {kk : Nat → Prop}
open Tp (X S G Pr)

theorem cell_box6 {w : World} {b : Nat} {v0 v1 v2 v3 v4 v5 : Value} {t : TypeId} (h : w.heap[b]? = some (.cells #[v0, v1, v2, v3, v4, v5] t (0, 0))) : w.cell? ⟨b, 0, none⟩ = some v0 ∧ w.cell? ⟨b, 2, none⟩ = some v2 ∧ w.cell? ⟨b, 3, none⟩ = some v3 ∧ w.cell? ⟨b, 4, none⟩ = some v4 ∧ w.cell? ⟨b, 5, none⟩ = some v5 :=
  ⟨(cell_blk h).trans rfl, (cell_blk h).trans rfl, (cell_blk h).trans rfl, (cell_blk h).trans rfl, (cell_blk h).trans rfl⟩
def varsB (vs : List (List UInt8)) : List UInt8 := if vs = [] then [] else [118, 97, 114, 32] ++ (Tp.pnames vs).flatten ++ [59, 10]
theorem pp_flat (c : Pr) : (Tp.pp c).flatten = [112, 114, 111, 99, 32] ++ c.name ++ (Tp.star c.seen).flatten ++ [40] ++ (Tp.pnames c.params).flatten ++ [41, 59, 10] ++ varsB c.vars ++ [98, 101, 103, 105, 110, 10] ++ (Tp.psts c.body 1).flatten ++ [101, 110, 100, 59, 10] := by
  unfold Tp.pp varsB
  by_cases h : c.vars = [] <;> simp [h, Tp.wVar, Tp.sp, Tp.mSemi, Tp.nl, Tp.wProc, Tp.mLp, Tp.mRp, Tp.wBegin, Tp.wEnd]
theorem row_on {w w' : World} {B e size n : Nat} {v : Value} {cs : List Value} (h : Row w (fun i => i < B) e size v n cs) (k : Below B w w') : Row w' (fun i => i < B) e size v n cs := h.mono (fun b hi _ => ⟨k.block b hi, hi⟩)
theorem pnames_len (l : List (List UInt8)) (h : ∀ x ∈ l, x ≠ []) : l.length ≤ (Tp.pnames l).flatten.length := by
  induction l with
  | nil => simp
  | cons x r ih =>
    have h1 : 1 ≤ x.length := by have := h x (by simp); cases x <;> simp_all
    cases r with
    | nil => simp [Tp.pnames, Tp.commas]; omega
    | cons y r =>
      have := ih (fun z hz => h z (by simp [hz]))
      simp [Tp.pnames, Tp.commas] at this ⊢
      omega
set_option maxRecDepth 100000 in
set_option maxHeartbeats 4000000 in
theorem addProc_post (c : Pr) (hw : Tp.WS c.body) (hd : 1 + Tp.DS c.body ≤ 500) (hpn : c.params.length ≤ 1000000000) (hvn : c.vars.length ≤ 1000000000) {w : World} {B : Nat} {v : Value} {l : List UInt8} {qa va ba : Option Addr} {qc vc bc : Nat} {bcs : List Value}
    (hq : Row w (fun i => i < B) 9 1 (.slice qa c.params.length qc) c.params.length (strs c.params)) (hv : Row w (fun i => i < B) 9 1 (.slice va c.vars.length vc) c.vars.length (strs c.vars))
    (hb1 : RepS w (fun i => i < B) c.body bcs) (hb2 : OwnS w (fun i => i < B) (.slice ba c.body.length bc) c.body.length bcs) (hb : Buf kk w B v l) (hr : Wr B w) (hl : (l ++ (Tp.pp c).flatten).length ≤ 1000000000) :
    Calls Tryd.prog 52 #[v, .agg #[.string (bs c.name), .int .i64 (c.pos : Int), .bool c.seen, .slice qa c.params.length qc, .slice va c.vars.length vc, .slice ba c.body.length bc]] w (Wrote kk B w (l ++ (Tp.pp c).flatten)) := by
  obtain ⟨nm, pos, seen, ps, vs, body⟩ := c
  rw [pp_flat] at hl ⊢
  simp only at hl ⊢ hw hd hpn hvn hq hv hb1 hb2
  have hB := hb.2
  have hstar := fun W => star_any W seen
  obtain ⟨st, hst⟩ : ∃ st, st = (Tp.star seen).flatten := ⟨_, rfl⟩
  rw [← hst] at hl ⊢ hstar
  clear hst
  obtain ⟨m1, hm1⟩ : ∃ m1, m1 = l ++ ([[112, 114, 111, 99, 32], nm, st, [40], (Tp.pnames ps).flatten, [41, 59, 10]] : List (List UInt8)).flatten := ⟨_, rfl⟩
  obtain ⟨m2, hm2⟩ : ∃ m2, m2 = m1 ++ varsB vs := ⟨_, rfl⟩
  obtain ⟨m3, hm3⟩ : ∃ m3, m3 = m2 ++ [98, 101, 103, 105, 110, 10] := ⟨_, rfl⟩
  obtain ⟨m4, hm4⟩ : ∃ m4, m4 = m3 ++ (Tp.psts body 1).flatten := ⟨_, rfl⟩
  obtain ⟨mf, hmf⟩ : ∃ mf, mf = m4 ++ [101, 110, 100, 59, 10] := ⟨_, rfl⟩
  have e1 : l ++ ([112, 114, 111, 99, 32] ++ nm ++ st ++ [40] ++ (Tp.pnames ps).flatten ++ [41, 59, 10] ++ varsB vs ++ [98, 101, 103, 105, 110, 10] ++ (Tp.psts body 1).flatten ++ [101, 110, 100, 59, 10]) = mf := by
    rw [hmf, hm4, hm3, hm2, hm1]; simp
  rw [e1] at hl ⊢
  have g1 : m1.length ≤ m2.length := by rw [hm2]; simp
  have g2 : m2.length ≤ m3.length := by rw [hm3]; simp
  have g3 : m3.length ≤ m4.length := by rw [hm4]; simp
  have g4 : m4.length ≤ mf.length := by rw [hmf]; simp
  have gp : (Tp.pnames ps).flatten.length ≤ m1.length := by rw [hm1]; simp; omega
  have hjp : ∀ W, Below B w W → Calls Tryd.prog 50 #[.slice qa ps.length qc, .string ⟨#[44, 32]⟩] W fun e w' => e = .returned (.string (bs (Tp.pnames ps).flatten)) ∧ Below W.heap.size W w' := fun W hW => join_post (row_on hq hW) (by omega) hpn
  obtain ⟨pj, hpj⟩ : ∃ pj, pj = (Tp.pnames ps).flatten := ⟨_, rfl⟩
  rw [← hpj] at hjp hm1
  have hal : ∀ ob, Below w.heap.size w (w.alloc ob) := fun ob => (Below.refl _ _).alloc (Nat.le_refl _) _
  have hV : vs.length = 0 ∧ m2 = m1 ∨ 0 < vs.length ∧ ∃ vj, m2 = m1 ++ ([[118, 97, 114, 32], vj, [59, 10]] : List (List UInt8)).flatten ∧ ∀ W, Bw kk B w W → Calls Tryd.prog 50 #[.slice va vs.length vc, .string ⟨#[44, 32]⟩] W fun e w' => e = .returned (.string (bs vj)) ∧ Below W.heap.size W w' := by
    by_cases hne : vs = []
    · left; subst hne; exact ⟨rfl, by rw [hm2]; simp [varsB]⟩
    · right
      have hm2' := hm2
      rw [varsB, if_neg hne] at hm2'
      have h2 : m2.length ≤ 1000000000 := by omega
      rw [hm2'] at h2
      refine ⟨List.length_pos_iff.2 hne, (Tp.pnames vs).flatten, by rw [hm2']; simp, fun W hW => join_post (row_on hv hW.toBelow) ?_ hvn⟩
      simp only [List.length_append] at h2
      omega
  have HST : Hid (∀ W v', Bw kk B w W → Buf kk W B v' m3 → Calls Tryd.prog 53 #[v', .slice ba body.length bc, .int .i64 1] W (Wrote kk B W m4)) := by
    intro W v' hW hB
    have := addStmts_all (d := 1) hw (reps_on hb1 hW) (owns_on hb2 hW) hB (hr.on hW) hd (by rw [← hm4]; omega)
    rw [← hm4] at this
    exact this
  have HM3 : Hid (m3 = m2 ++ [98, 101, 103, 105, 110, 10]) := hm3
  have HM5 : Hid (mf = m4 ++ [101, 110, 100, 59, 10]) := hmf
  have HL2 : Hid (m2.length ≤ 1000000000) := by show _ ≤ _; omega
  have HL3 : Hid (m3.length ≤ 1000000000) := by show _ ≤ _; omega
  have HL5 : Hid (mf.length ≤ 1000000000) := by show _ ≤ _; omega
  have hvn' : (vs.length : Int) ≤ 1000000000 := by omega
  generalize hPN : ps.length = pn at *
  generalize hBN : body.length = bn at *
  generalize hVN : vs.length = vn at *
  have HV := Lib.hid hV
  have hJ := hjp (w.alloc (.cells #[.string (bs nm), .int .i64 (pos : Int), .bool seen, .slice qa pn qc, .slice va vn vc, .slice ba bn bc] 43)).drew ((hal _).mono hB |>.drew)
  have HJ : Hid (Calls Tryd.prog 50 #[.slice qa pn qc, .string ⟨#[44, 32]⟩] (w.alloc (.cells #[.string (bs nm), .int .i64 (pos : Int), .bool seen, .slice qa pn qc, .slice va vn vc, .slice ba bn bc] 43)).drew fun e w' => e = .returned (.string (bs pj)) ∧ Below (w.alloc (.cells #[.string (bs nm), .int .i64 (pos : Int), .bool seen, .slice qa pn qc, .slice va vn vc, .slice ba bn bc] 43)).drew.heap.size (w.alloc (.cells #[.string (bs nm), .int .i64 (pos : Int), .bool seen, .slice qa pn qc, .slice va vn vc, .slice ba bn bc] 43)).drew w') := hJ
  have HD : Hid (Below w.heap.size w (w.alloc (.cells #[.string (bs nm), .int .i64 (pos : Int), .bool seen, .slice qa pn qc, .slice va vn vc, .slice ba bn bc] 43)).drew) := (hal _).drew
  have hblk : (w.alloc (.cells #[.string (bs nm), .int .i64 (pos : Int), .bool seen, .slice qa pn qc, .slice va vn vc, .slice ba bn bc] 43)).heap[w.heap.size]? = some (.cells #[.string (bs nm), .int .i64 (pos : Int), .bool seen, .slice qa pn qc, .slice va vn vc, .slice ba bn bc] 43 (0, 0)) := new_blk _ _
  obtain ⟨k0, k2, k3, k4, k5⟩ := cell_box6 hblk
  have HK : Hid ((w.alloc (.cells #[.string (bs nm), .int .i64 (pos : Int), .bool seen, .slice qa pn qc, .slice va vn vc, .slice ba bn bc] 43)).drew.heap[w.heap.size]? = some (.cells #[.string (bs nm), .int .i64 (pos : Int), .bool seen, .slice qa pn qc, .slice va vn vc, .slice ba bn bc] 43 (0, 0))) := hblk
  have HS : Hid (∀ W, Calls Tryd.prog 68 #[.bool seen] W fun e w' => e = .returned (.string (bs st)) ∧ w' = W) := hstar
  have HA : Hid (∀ W, Below w.heap.size w W → Calls Tryd.prog 49 #[v, .slice (some ⟨W.heap.size, 0, none⟩) 6 6] (W.alloc (.cells #[.string ⟨#[112, 114, 111, 99, 32]⟩, .string (bs nm), .string (bs st), .string ⟨#[40]⟩, .string (bs pj), .string ⟨#[41, 59, 10]⟩] 9)) (Wrote kk B W m1)) := by
    intro W hW
    have := addAllN (hb.below hW) [[112, 114, 111, 99, 32], nm, st, [40], pj, [41, 59, 10]] (by simp) (by rw [← hm1]; omega)
    rw [← hm1] at this
    exact this
  have HBW : Hid (∀ W, Below w.heap.size w W → Bw kk B w W) := fun W hW => Bw.of (kk := kk) hW hB
  clear hJ hjp hV hVN hstar hpj hm1 hm2 hm3 hm4 hmf e1 g1 g2 g3 g4 gp hb hal hr hq hv hb1 hb2 hw hd hpn hvn hl hblk k4 k5 hPN hBN hB
  go_enter Tryd.func52, Tryd.ntmps52
  go_wp2_with fail
  go_region_held3 (fun w' => w'.cell? ⟨w.heap.size, 0, none⟩ = some (.string (bs nm)) ∧ w'.cell? ⟨w.heap.size, 2, none⟩ = some (.bool seen) ∧ w'.cell? ⟨w.heap.size, 3, none⟩ = some (.slice qa pn qc)) (first | (exact ⟨k0, k2, k3⟩) | (exact ⟨q0, q2, q3⟩) | (exact ⟨cell_alloc q0 _, cell_alloc q2 _, cell_alloc q3 _⟩) | (exact ⟨p0, p2, p3⟩)) (first | (go_at_call 68; refine (HS.out _).mono ?_; rintro e w2 ⟨rfl, rfl⟩) | (go_at_call 50; refine HJ.out.mono ?_; rintro e wj ⟨rfl, hbelj⟩; have hblkj := (hbelj.block w.heap.size (lt_blk HK.out)).trans HK.out; have HDJ := Lib.hid (HD.out.trans (hbelj.mono (HD.out.size))); obtain ⟨q0, q2, q3, q4, q5⟩ := cell_box6 hblkj; clear hbelj q4 q5) | (go_at_call 49; refine (HA.out _ HDJ.out).mono ?_; rintro e w3 ⟨v3, rfl, hbuf3, hbel3⟩; have hblk3 := hbel3.keeps hblkj (by decide); have hB3 := (HBW.out _ HDJ.out).trans hbel3; obtain ⟨p0, p2, p3, p4, p5⟩ := cell_box6 hblk3))
  clear HK HA HS HJ HD HDJ HBW k0 k2 k3 q0 q2 q3 p0 p2 p3 p5 hbel3 hblkj
  have hlt3 := lt_blk hblk3
  rcases HV.out with ⟨h0, h1⟩ | ⟨h0, vj, h1, h2⟩
  · rw [← h1] at hbuf3
    have h0' : ¬ (0 : Int) < (vn : Int) := by omega
    clear HV h1 h0
    have hB4 := Lib.hid hB3
    obtain ⟨r0, r2, r3, r4, r5⟩ := cell_box6 hblk3
    have hlt3 := lt_blk hblk3
    have hc4 := addAll1 hbuf3 [98, 101, 103, 105, 110, 10] (by rw [← HM3.out]; exact HL3.out)
    rw [← HM3.out] at hc4
    have HA4 : Hid (Calls Tryd.prog 49 #[v3, .slice (some ⟨w3.heap.size, 0, none⟩) 1 1] (w3.alloc (.cells #[.string ⟨#[98, 101, 103, 105, 110, 10]⟩] 9)) (Wrote kk B w3 m3)) := hc4
    have HK3 : Hid (w3.heap[w.heap.size]? = some (.cells #[.string (bs nm), .int .i64 (pos : Int), .bool seen, .slice qa pn qc, .slice va vn vc, .slice ba bn bc] 43 (0, 0))) := hblk3
    clear hc4 hbuf3 hblk3 hB3 r0 r2 r3
    go_wp2_with fail
    refine HA4.out.mono ?_
    rintro e w4 ⟨v4, rfl, hbuf4, hbel4⟩
    have HK4 : Hid (w4.heap[w.heap.size]? = some (.cells #[.string (bs nm), .int .i64 (pos : Int), .bool seen, .slice qa pn qc, .slice va vn vc, .slice ba bn bc] 43 (0, 0))) := hbel4.keeps HK3.out (by decide)
    have HB4 := Lib.hid (hB4.out.trans hbel4)
    obtain ⟨s0, s2, s3, s4, s5⟩ := cell_box6 HK4.out
    have hlt4 := lt_blk HK4.out
    have HA5 : Hid (Calls Tryd.prog 53 #[v4, .slice ba bn bc, .int .i64 1] w4 (Wrote kk B w4 m4)) := HST.out w4 v4 HB4.out hbuf4
    clear hbuf4 hbel4 s0 s2 s3 s4 r4 r5 HK3
    go_wp2_with fail
    refine HA5.out.mono ?_
    rintro e w5 ⟨v5, rfl, hbuf5, hbel5⟩
    have HB5 := Lib.hid (HB4.out.trans hbel5)
    have hc6 := addAll1 hbuf5 [101, 110, 100, 59, 10] (by rw [← HM5.out]; exact HL5.out)
    rw [← HM5.out] at hc6
    have HA6 : Hid (Calls Tryd.prog 49 #[v5, .slice (some ⟨w5.heap.size, 0, none⟩) 1 1] (w5.alloc (.cells #[.string ⟨#[101, 110, 100, 59, 10]⟩] 9)) (Wrote kk B w5 mf)) := hc6
    clear hc6 hbuf5 hbel5 s5 HK4
    go_wp2_with fail
    refine HA6.out.mono ?_
    rintro e w6 ⟨v6, rfl, hbuf6, hbel6⟩
    have HB : Hid (Buf kk w6 B v6 mf) := hbuf6
    have HBB := Lib.hid (HB5.out.trans hbel6)
    clear hbuf6 hbel6
    go_wp2_with fail
    go_ret
    exact ⟨_, rfl, HB.out, HBB.out⟩
  · have h0' : (0 : Int) < (vn : Int) := by omega
    have HV2 := Lib.hid h2
    have HM2 := Lib.hid h1
    have HB2 := Lib.hid hB3
    have hcA : ∀ W, Below w3.heap.size w3 W → Calls Tryd.prog 49 #[v3, .slice (some ⟨W.heap.size, 0, none⟩) 3 3] (W.alloc (.cells #[.string ⟨#[118, 97, 114, 32]⟩, .string (bs vj), .string ⟨#[59, 10]⟩] 9)) (Wrote kk B W m2) := by
      intro W hW
      have := addAllN (hbuf3.below hW) [[118, 97, 114, 32], vj, [59, 10]] (by simp) (by rw [← HM2.out]; exact HL2.out)
      rw [← HM2.out] at this
      exact this
    have HA3 := Lib.hid hcA
    have HJ3 : Hid (Calls Tryd.prog 50 #[.slice va vn vc, .string ⟨#[44, 32]⟩] w3 fun e w' => e = .returned (.string (bs vj)) ∧ Below w3.heap.size w3 w') := h2 w3 hB3
    have HBB3 : Hid (∀ W, Below w3.heap.size w3 W → Bw kk B w W) := fun W hW => hB3.trans (Bw.of (kk := kk) hW hbuf3.2)
    have HK2 := Lib.hid hblk3
    clear HV h0 h2 h1 hB3 hbuf3 hcA hblk3
    go_wp2_with fail
    refine HJ3.out.mono ?_
    rintro e wk ⟨rfl, hbelk⟩
    have hcA := HA3.out wk hbelk
    have HA7 : Hid (Calls Tryd.prog 49 #[v3, .slice (some ⟨wk.heap.size, 0, none⟩) 3 3] (wk.alloc (.cells #[.string ⟨#[118, 97, 114, 32]⟩, .string (bs vj), .string ⟨#[59, 10]⟩] 9)) (Wrote kk B wk m2)) := hcA
    have HKK := Lib.hid ((hbelk.block w.heap.size hlt3).trans HK2.out)
    have HBK := Lib.hid (HBB3.out wk hbelk)
    have hltk := lt_blk HKK.out
    clear hbelk hcA p4 hlt3
    go_wp2_with fail
    refine HA7.out.mono ?_
    rintro e w9 ⟨v9, rfl, hbuf9, hbel9⟩
    have hblk9 := hbel9.keeps HKK.out (by decide)
    have hB9 := HBK.out.trans hbel9
    clear hbel9 HKK HBK HA7 HK2 HBB3 HJ3 HA3 HB2 HV2 HM2 h0'
    have hB4 := Lib.hid hB9
    obtain ⟨r0, r2, r3, r4, r5⟩ := cell_box6 hblk9
    have hlt9 := lt_blk hblk9
    have hc4 := addAll1 hbuf9 [98, 101, 103, 105, 110, 10] (by rw [← HM3.out]; exact HL3.out)
    rw [← HM3.out] at hc4
    have HA4 : Hid (Calls Tryd.prog 49 #[v9, .slice (some ⟨w9.heap.size, 0, none⟩) 1 1] (w9.alloc (.cells #[.string ⟨#[98, 101, 103, 105, 110, 10]⟩] 9)) (Wrote kk B w9 m3)) := hc4
    have HK3 : Hid (w9.heap[w.heap.size]? = some (.cells #[.string (bs nm), .int .i64 (pos : Int), .bool seen, .slice qa pn qc, .slice va vn vc, .slice ba bn bc] 43 (0, 0))) := hblk9
    clear hc4 hbuf9 hblk9 hB9 r0 r2 r3
    go_wp2_with fail
    refine HA4.out.mono ?_
    rintro e w4 ⟨v4, rfl, hbuf4, hbel4⟩
    have HK4 : Hid (w4.heap[w.heap.size]? = some (.cells #[.string (bs nm), .int .i64 (pos : Int), .bool seen, .slice qa pn qc, .slice va vn vc, .slice ba bn bc] 43 (0, 0))) := hbel4.keeps HK3.out (by decide)
    have HB4 := Lib.hid (hB4.out.trans hbel4)
    obtain ⟨s0, s2, s3, s4, s5⟩ := cell_box6 HK4.out
    have hlt4 := lt_blk HK4.out
    have HA5 : Hid (Calls Tryd.prog 53 #[v4, .slice ba bn bc, .int .i64 1] w4 (Wrote kk B w4 m4)) := HST.out w4 v4 HB4.out hbuf4
    clear hbuf4 hbel4 s0 s2 s3 s4 r4 r5 HK3
    go_wp2_with fail
    refine HA5.out.mono ?_
    rintro e w5 ⟨v5, rfl, hbuf5, hbel5⟩
    have HB5 := Lib.hid (HB4.out.trans hbel5)
    have hc6 := addAll1 hbuf5 [101, 110, 100, 59, 10] (by rw [← HM5.out]; exact HL5.out)
    rw [← HM5.out] at hc6
    have HA6 : Hid (Calls Tryd.prog 49 #[v5, .slice (some ⟨w5.heap.size, 0, none⟩) 1 1] (w5.alloc (.cells #[.string ⟨#[101, 110, 100, 59, 10]⟩] 9)) (Wrote kk B w5 mf)) := hc6
    clear hc6 hbuf5 hbel5 s5 HK4
    go_wp2_with fail
    refine HA6.out.mono ?_
    rintro e w6 ⟨v6, rfl, hbuf6, hbel6⟩
    have HB : Hid (Buf kk w6 B v6 mf) := hbuf6
    have HBB := Lib.hid (HB5.out.trans hbel6)
    clear hbuf6 hbel6
    go_wp2_with fail
    go_ret
    exact ⟨_, rfl, HB.out, HBB.out⟩
end Go.Proofs.YthkdefhngkangaaDoor
/- Writing a MODULE: addModule. -/
namespace Go.Proofs.YthkdefhngkangaaDoor
open Go.RowKit
variable {kk : Nat → Prop}
open Tp (X S G Pr M)

theorem cell_box5 {w : World} {b : Nat} {v0 v1 v2 v3 v4 : Value} {t : TypeId} (h : w.heap[b]? = some (.cells #[v0, v1, v2, v3, v4] t (0, 0))) : w.cell? ⟨b, 0, none⟩ = some v0 ∧ w.cell? ⟨b, 1, none⟩ = some v1 ∧ w.cell? ⟨b, 2, none⟩ = some v2 ∧ w.cell? ⟨b, 3, none⟩ = some v3 ∧ w.cell? ⟨b, 4, none⟩ = some v4 :=
  ⟨(cell_blk h).trans rfl, (cell_blk h).trans rfl, (cell_blk h).trans rfl, (cell_blk h).trans rfl, (cell_blk h).trans rfl⟩
/- what the walk asks of the parts -/
def AskI (w : World) (kk : Nat → Prop) (B inn : Nat) (ia : Option Addr) (ic : Nat) (m1 m2 : List UInt8) : Prop :=
  inn = 0 ∧ m2 = m1 ∨ 0 < inn ∧ ∃ vj, m2 = m1 ++ ([[105, 109, 112, 111, 114, 116, 32], vj, [59, 10]] : List (List UInt8)).flatten ∧ ∀ W, Bw kk B w W → Calls Tryd.prog 50 #[.slice ia inn ic, .string ⟨#[44, 32]⟩] W fun e w' => e = .returned (.string (bs vj)) ∧ Below W.heap.size W w'
def AskG (w : World) (kk : Nat → Prop) (B gn : Nat) (ga : Option Addr) (mg : Nat → List UInt8) : Prop :=
  ∀ i, i < gn → ∃ (g : Nat) (x0 : List UInt8) (x1 x2 : Nat) (x3 : Bool), ga = some ⟨g, 0, none⟩ ∧ g < B ∧ g < w.heap.size ∧ w.cell? ⟨g, i * 4, none⟩ = some (.string (bs x0)) ∧ w.cell? ⟨g, i * 4 + 1, none⟩ = some (.int .i64 (x1 : Int)) ∧ w.cell? ⟨g, i * 4 + 2, none⟩ = some (.int .i64 (x2 : Int)) ∧ w.cell? ⟨g, i * 4 + 3, none⟩ = some (.bool x3) ∧
    ∀ W v', Bw kk B w W → Buf kk W B v' (mg i) → Calls Tryd.prog 51 #[v', .agg #[.string (bs x0), .int .i64 (x1 : Int), .int .i64 (x2 : Int), .bool x3]] W (Wrote kk B W (mg (i + 1)))
def AskP (w : World) (kk : Nat → Prop) (B pn : Nat) (pa : Option Addr) (mp : Nat → List UInt8) : Prop :=
  ∀ i, i < pn → ∃ (g : Nat) (x0 : List UInt8) (x1 : Nat) (x2 : Bool) (y3 y4 y5 : Option Addr) (n3 n4 n5 c3 c4 c5 : Nat), pa = some ⟨g, 0, none⟩ ∧ g < B ∧ g < w.heap.size ∧ w.cell? ⟨g, i * 6, none⟩ = some (.string (bs x0)) ∧ w.cell? ⟨g, i * 6 + 1, none⟩ = some (.int .i64 (x1 : Int)) ∧ w.cell? ⟨g, i * 6 + 2, none⟩ = some (.bool x2) ∧ w.cell? ⟨g, i * 6 + 3, none⟩ = some (.slice y3 n3 c3) ∧ w.cell? ⟨g, i * 6 + 4, none⟩ = some (.slice y4 n4 c4) ∧ w.cell? ⟨g, i * 6 + 5, none⟩ = some (.slice y5 n5 c5) ∧
    ∀ W v', Bw kk B w W → Buf kk W B v' (mp i) → Calls Tryd.prog 52 #[v', .agg #[.string (bs x0), .int .i64 (x1 : Int), .bool x2, .slice y3 n3 c3, .slice y4 n4 c4, .slice y5 n5 c5]] W (Wrote kk B W (mp (i + 1)))
def AskB (w : World) (kk : Nat → Prop) (B bn : Nat) (ba : Option Addr) (bc : Nat) (m3 m4 : List UInt8) : Prop :=
  ∀ W v', Bw kk B w W → Buf kk W B v' m3 → Calls Tryd.prog 53 #[v', .slice ba bn bc, .int .i64 1] W (Wrote kk B W m4)
set_option maxRecDepth 100000 in
set_option maxHeartbeats 8000000 in
theorem addModule_walk {w : World} {B : Nat} {v : Value} {l nm m1 m2 m3 m4 mf : List UInt8} {inn gn pn bn ic gc pc bc : Nat} {ia ga pa ba : Option Addr} {mg mp : Nat → List UInt8} (hb : Buf kk w B v l)
    (hm1 : m1 = l ++ ([[109, 111, 100, 117, 108, 101, 32], nm, [59, 10]] : List (List UInt8)).flatten) (hI : AskI w kk B inn ia ic m1 m2) (hg0 : mg 0 = m2) (hG : AskG w kk B gn ga mg) (hp0 : mp 0 = mg gn) (hP : AskP w kk B pn pa mp)
    (hm3 : m3 = mp pn ++ [98, 101, 103, 105, 110, 10]) (hS : AskB w kk B bn ba bc m3 m4) (hmf : mf = m4 ++ [101, 110, 100, 46, 10]) (h1 : m1.length ≤ 1000000000) (h2 : m2.length ≤ 1000000000) (h3 : m3.length ≤ 1000000000) (h4 : mf.length ≤ 1000000000) (hin : inn ≤ 1000000000) (hgn : gn ≤ 1000000000) (hpn : pn ≤ 1000000000) :
    Calls Tryd.prog 25 #[v, .agg #[.string (bs nm), .slice ia inn ic, .slice ga gn gc, .slice pa pn pc, .slice ba bn bc]] w (Wrote kk B w mf) := by
  have hal : ∀ ob, Below w.heap.size w (w.alloc ob) := fun ob => (Below.refl _ _).alloc (Nat.le_refl _) _
  have hD : Below w.heap.size w ((w.alloc (.cells #[.string (bs nm), .slice ia inn ic, .slice ga gn gc, .slice pa pn pc, .slice ba bn bc] 28)).alloc (.cells #[.string ⟨#[109, 111, 100, 117, 108, 101, 32]⟩, .string (bs nm), .string ⟨#[59, 10]⟩] 9)) := (hal _).alloc (by simp) _
  have hA := addAll_post (hb.below hD) [[109, 111, 100, 117, 108, 101, 32], nm, [59, 10]] (w.heap.size + 1) 3 (new_blk1 _ _ _) (by simp) (by rw [← hm1]; exact h1)
  rw [← hm1] at hA
  have HA : Hid (Calls Tryd.prog 49 #[v, .slice (some ⟨w.heap.size + 1, 0, none⟩) 3 3] ((w.alloc (.cells #[.string (bs nm), .slice ia inn ic, .slice ga gn gc, .slice pa pn pc, .slice ba bn bc] 28)).alloc (.cells #[.string ⟨#[109, 111, 100, 117, 108, 101, 32]⟩, .string (bs nm), .string ⟨#[59, 10]⟩] 9)) (Wrote kk B ((w.alloc (.cells #[.string (bs nm), .slice ia inn ic, .slice ga gn gc, .slice pa pn pc, .slice ba bn bc] 28)).alloc (.cells #[.string ⟨#[109, 111, 100, 117, 108, 101, 32]⟩, .string (bs nm), .string ⟨#[59, 10]⟩] 9)) m1)) := hA
  have HBA : Hid (Bw kk B w ((w.alloc (.cells #[.string (bs nm), .slice ia inn ic, .slice ga gn gc, .slice pa pn pc, .slice ba bn bc] 28)).alloc (.cells #[.string ⟨#[109, 111, 100, 117, 108, 101, 32]⟩, .string (bs nm), .string ⟨#[59, 10]⟩] 9))) := Bw.of (kk := kk) hD hb.2
  have hblk : (w.alloc (.cells #[.string (bs nm), .slice ia inn ic, .slice ga gn gc, .slice pa pn pc, .slice ba bn bc] 28)).heap[w.heap.size]? = some (.cells #[.string (bs nm), .slice ia inn ic, .slice ga gn gc, .slice pa pn pc, .slice ba bn bc] 28 (0, 0)) := new_blk _ _
  obtain ⟨k0, k1, k2, k3, k4⟩ := cell_box5 hblk
  have HK : Hid (((w.alloc (.cells #[.string (bs nm), .slice ia inn ic, .slice ga gn gc, .slice pa pn pc, .slice ba bn bc] 28)).alloc (.cells #[.string ⟨#[109, 111, 100, 117, 108, 101, 32]⟩, .string (bs nm), .string ⟨#[59, 10]⟩] 9)).heap[w.heap.size]? = some (.cells #[.string (bs nm), .slice ia inn ic, .slice ga gn gc, .slice pa pn pc, .slice ba bn bc] 28 (0, 0))) := (Below.heap_alloc _ _ w.heap.size (by simp)).trans hblk
  have HI := Lib.hid hI
  have HG0 := Lib.hid hg0
  have HG := Lib.hid hG
  have HP0 := Lib.hid hp0
  have HP := Lib.hid hP
  have HM3 := Lib.hid hm3
  have HST := Lib.hid hS
  have HMF := Lib.hid hmf
  have HL2 := Lib.hid h2
  have HL3 := Lib.hid h3
  have HL4 := Lib.hid h4
  have hin' : (inn : Int) ≤ 1000000000 := by omega
  have hgn' : (gn : Int) ≤ 1000000000 := by omega
  have hpn' : (pn : Int) ≤ 1000000000 := by omega
  clear hA hI hg0 hG hp0 hP hm3 hS hmf h2 h3 h4 hm1 h1 hb hD hal hblk k1 k2 k3 k4 hin
  go_enter Tryd.func25, Tryd.ntmps25
  go_wp2_with fail
  refine HA.out.mono ?_
  rintro e w1 ⟨v1, rfl, hbuf1, hbel1⟩
  have HK1 : Hid (w1.heap[w.heap.size]? = some (.cells #[.string (bs nm), .slice ia inn ic, .slice ga gn gc, .slice pa pn pc, .slice ba bn bc] 28 (0, 0))) := hbel1.keeps HK.out (by decide)
  have HB1 : Hid (Bw kk B w w1) := HBA.out.trans hbel1
  have HF1 : Hid (Buf kk w1 B v1 m1) := hbuf1
  obtain ⟨q0, q1, q2, q3, q4⟩ := cell_box5 HK1.out
  have hlt1 := lt_blk HK1.out
  clear hbuf1 hbel1 HK HBA HA k0 q0 q3 q4
  unfold AskI at HI
  rcases HI.out with ⟨h0, e1⟩ | ⟨h0, vj, e1, e2⟩
  · have h0' : ¬ (0 : Int) < (inn : Int) := by omega
    have HFy : Hid (Buf kk w1 B v1 m2) := by rw [e1]; exact HF1
    have HBy := HB1
    have HKy := HK1
    clear HI h0 e1 HF1 HB1 HK1 HL2
    obtain ⟨a0, a1, a2, a3, a4⟩ := cell_box5 HKy.out
    have hlty := lt_blk HKy.out
    clear a0 a1 a3 a4
    go_wp2_with fail
    generalize decide (0 < inn) = bb
    go_loopg [0, 27] gn (fun k v vi wr => ∃ i : Nat, i ≤ gn ∧ k = gn - i ∧ vi = .int .i64 (i : Int) ∧ Hid (Buf kk wr B v (mg i)) ∧ Hid (Bw kk B w wr) ∧ Hid (wr.heap[w.heap.size]? = some (.cells #[.string (bs nm), .slice ia inn ic, .slice ga gn gc, .slice pa pn pc, .slice ba bn bc] 28 (0, 0))))
    case atStart => exact ⟨0, by omega, by omega, rfl, by unfold Hid; rw [HG0.out]; exact HFy.out, HBy, HKy⟩
    case round =>
      obtain ⟨i, hid, hk, rfl, HF1, HB1, HK1⟩ := hrel
      clear HKy HBy HFy a2 hlty
      by_cases hlt : i < gn
      · have hlt' : (i : Int) < (gn : Int) := by omega
        obtain ⟨g, x0, x1, x2, x3, hga, hgB, hgs, c0, c1, c2, c3, hcall⟩ := HG.out i hlt
        subst hga
        have kc0 := (HB1.out.cell (p := ⟨g, i * 4, none⟩) hgB).trans c0
        have kc1 := (HB1.out.cell (p := ⟨g, i * 4 + 1, none⟩) hgB).trans c1
        have kc2 := (HB1.out.cell (p := ⟨g, i * 4 + 2, none⟩) hgB).trans c2
        have kc3 := (HB1.out.cell (p := ⟨g, i * 4 + 3, none⟩) hgB).trans c3
        have hlgr : g < wr.heap.size := by have := HB1.out.size; omega
        have HCL := Lib.hid hcall
        obtain ⟨m, hm⟩ : ∃ m, m = mg i := ⟨_, rfl⟩
        have hbuf := HF1.out
        rw [← hm] at hbuf
        obtain ⟨b1, d1, hv⟩ := owns_shape hbuf.1
        subst hv
        have HBUF : Hid (Buf kk wr B (.slice b1 m.length d1) m) := hbuf
        have HMM := Lib.hid hm
        clear hcall c0 c1 c2 c3 hbuf hm HF1
        go_wp2_with fail
        have hal : ∀ ob, Below wr.heap.size wr (wr.alloc ob) := fun ob => (Below.refl _ _).alloc (Nat.le_refl _) _
        refine (HCL.out _ _ (HB1.out.trans (Bw.of (kk := kk) (hal _) HBUF.out.2)) (HMM.out ▸ HBUF.out.below (hal _))).mono ?_
        rintro e w3 ⟨v3, rfl, hbuf3, hbel3⟩
        have HB3 : Hid (Buf kk w3 B v3 (mg (i + 1))) := hbuf3
        have HBW : Hid (Bw kk B w w3) := (HB1.out.trans (Bw.of (kk := kk) (hal _) HBUF.out.2)).trans hbel3
        have HK3 : Hid (w3.heap[w.heap.size]? = some (.cells #[.string (bs nm), .slice ia inn ic, .slice (some ⟨g, 0, none⟩) gn gc, .slice pa pn pc, .slice ba bn bc] 28 (0, 0))) := hbel3.keeps (((hal _).block w.heap.size (lt_blk HK1.out)).trans HK1.out) (by decide)
        clear hbuf3 hal hbel3
        go_wp2_with fail
        go_roundg (gn - (i + 1))
        case measure => omega
        case rel => exact ⟨i + 1, by omega, rfl, by go_num, HB3, HBW, HK3⟩
      · have hlt' : ¬ (i : Int) < (gn : Int) := by omega
        have hei : i = gn := by omega
        obtain ⟨a0, a1, a2, a3, a4⟩ := cell_box5 HK1.out
        have hltr := lt_blk HK1.out
        have HF2 : Hid (Buf kk wr B u0 (mp 0)) := by unfold Hid; rw [HP0.out, ← hei]; exact HF1.out
        have HB2 : Hid (Bw kk B w wr) := HB1
        have HK2 : Hid (wr.heap[w.heap.size]? = some (.cells #[.string (bs nm), .slice ia inn ic, .slice ga gn gc, .slice pa pn pc, .slice ba bn bc] 28 (0, 0))) := HK1
        clear a0 a1 a2 a4 HF1 HB1 HK1 hei hk hid HG HG0
        go_wp2_with fail
        go_loopg [0, 38] pn (fun k v vi wr => ∃ i : Nat, i ≤ pn ∧ k = pn - i ∧ vi = .int .i64 (i : Int) ∧ Hid (Buf kk wr B v (mp i)) ∧ Hid (Bw kk B w wr) ∧ Hid (wr.heap[w.heap.size]? = some (.cells #[.string (bs nm), .slice ia inn ic, .slice ga gn gc, .slice pa pn pc, .slice ba bn bc] 28 (0, 0))))
        case atStart => exact ⟨0, by omega, by omega, rfl, HF2, HB2, HK2⟩
        case round =>
          obtain ⟨j, hjd, hk2, rfl, HF1, HB1, HK1⟩ := hrel
          clear HF2 HB2 HK2 a3 hltr
          by_cases hlt2 : j < pn
          · have hlt2' : (j : Int) < (pn : Int) := by omega
            obtain ⟨g, x0, x1, x2, y3, y4, y5, n3, n4, n5, d3, d4, d5, hpa, hgB, hgs, c0, c1, c2, c3, c4, c5, hcall⟩ := HP.out j hlt2
            subst hpa
            have kc0 := (HB1.out.cell (p := ⟨g, j * 6, none⟩) hgB).trans c0
            have kc1 := (HB1.out.cell (p := ⟨g, j * 6 + 1, none⟩) hgB).trans c1
            have kc2 := (HB1.out.cell (p := ⟨g, j * 6 + 2, none⟩) hgB).trans c2
            have kc3 := (HB1.out.cell (p := ⟨g, j * 6 + 3, none⟩) hgB).trans c3
            have kc4 := (HB1.out.cell (p := ⟨g, j * 6 + 4, none⟩) hgB).trans c4
            have kc5 := (HB1.out.cell (p := ⟨g, j * 6 + 5, none⟩) hgB).trans c5
            have hlgr : g < wr.heap.size := by have := HB1.out.size; omega
            have HCL := Lib.hid hcall
            obtain ⟨m, hm⟩ : ∃ m, m = mp j := ⟨_, rfl⟩
            have hbuf := HF1.out
            rw [← hm] at hbuf
            obtain ⟨b1, d1, hv⟩ := owns_shape hbuf.1
            subst hv
            have HBUF : Hid (Buf kk wr B (.slice b1 m.length d1) m) := hbuf
            have HMM := Lib.hid hm
            clear hcall c0 c1 c2 c3 c4 c5 hbuf hm HF1
            go_wp2_with fail
            have hal : ∀ ob, Below wr.heap.size wr (wr.alloc ob) := fun ob => (Below.refl _ _).alloc (Nat.le_refl _) _
            refine (HCL.out _ _ (HB1.out.trans (Bw.of (kk := kk) (hal _) HBUF.out.2)) (HMM.out ▸ HBUF.out.below (hal _))).mono ?_
            rintro e w3 ⟨v3, rfl, hbuf3, hbel3⟩
            have HB3 : Hid (Buf kk w3 B v3 (mp (j + 1))) := hbuf3
            have HBW : Hid (Bw kk B w w3) := (HB1.out.trans (Bw.of (kk := kk) (hal _) HBUF.out.2)).trans hbel3
            have HK3 : Hid (w3.heap[w.heap.size]? = some (.cells #[.string (bs nm), .slice ia inn ic, .slice ga gn gc, .slice (some ⟨g, 0, none⟩) pn pc, .slice ba bn bc] 28 (0, 0))) := hbel3.keeps (((hal _).block w.heap.size (lt_blk HK1.out)).trans HK1.out) (by decide)
            clear hbuf3 hal hbel3
            go_wp2_with fail
            go_roundg (pn - (j + 1))
            case measure => omega
            case rel => exact ⟨j + 1, by omega, rfl, by go_num, HB3, HBW, HK3⟩
          · have hlt2' : ¬ (j : Int) < (pn : Int) := by omega
            have hej : j = pn := by omega
            obtain ⟨a0, a1, a2, a3, a4⟩ := cell_box5 HK1.out
            have hltr := lt_blk HK1.out
            have hbuf := HF1.out
            rw [hej] at hbuf
            have hc5 := addAll1 hbuf [98, 101, 103, 105, 110, 10] (by rw [← HM3.out]; exact HL3.out)
            rw [← HM3.out] at hc5
            have HA5 : Hid (Calls Tryd.prog 49 #[u0, .slice (some ⟨wr.heap.size, 0, none⟩) 1 1] (wr.alloc (.cells #[.string ⟨#[98, 101, 103, 105, 110, 10]⟩] 9)) (Wrote kk B wr m3)) := hc5
            clear hc5 hbuf HF1 a0 a1 a2 a3 a4 HP HP0 hej hjd hk2
            go_wp2_with fail
            refine HA5.out.mono ?_
            rintro e w5 ⟨v5, rfl, hbuf5, hbel5⟩
            have HK5 : Hid (w5.heap[w.heap.size]? = some (.cells #[.string (bs nm), .slice ia inn ic, .slice ga gn gc, .slice pa pn pc, .slice ba bn bc] 28 (0, 0))) := hbel5.keeps HK1.out (by decide)
            have HB5 := Lib.hid (HB1.out.trans hbel5)
            obtain ⟨s0, s1, s2, s3, s4⟩ := cell_box5 HK5.out
            have hlt5 := lt_blk HK5.out
            have HA6 : Hid (Calls Tryd.prog 53 #[v5, .slice ba bn bc, .int .i64 1] w5 (Wrote kk B w5 m4)) := HST.out w5 v5 HB5.out hbuf5
            clear hbuf5 hbel5 s0 s1 s2 s3
            go_wp2_with fail
            refine HA6.out.mono ?_
            rintro e w6 ⟨v6, rfl, hbuf6, hbel6⟩
            have HB6 := Lib.hid (HB5.out.trans hbel6)
            have hc7 := addAll1 hbuf6 [101, 110, 100, 46, 10] (by rw [← HMF.out]; exact HL4.out)
            rw [← HMF.out] at hc7
            have HA7 : Hid (Calls Tryd.prog 49 #[v6, .slice (some ⟨w6.heap.size, 0, none⟩) 1 1] (w6.alloc (.cells #[.string ⟨#[101, 110, 100, 46, 10]⟩] 9)) (Wrote kk B w6 mf)) := hc7
            clear hc7 hbuf6 hbel6 s4
            go_wp2_with fail
            refine HA7.out.mono ?_
            rintro e w7 ⟨v7, rfl, hbuf7, hbel7⟩
            have HB : Hid (Buf kk w7 B v7 mf) := hbuf7
            have HBB := Lib.hid (HB6.out.trans hbel7)
            clear hbuf7 hbel7
            go_wp2_with fail
            go_ret
            exact ⟨_, rfl, HB.out, HBB.out⟩
  · have h0' : (0 : Int) < (inn : Int) := by omega
    have HM2 := Lib.hid e1
    have HJ3 : Hid (Calls Tryd.prog 50 #[.slice ia inn ic, .string ⟨#[44, 32]⟩] w1 fun e w' => e = .returned (.string (bs vj)) ∧ Below w1.heap.size w1 w') := e2 w1 HB1.out
    clear HI h0 e2 e1
    go_wp2_with fail
    refine HJ3.out.mono ?_
    rintro e wk ⟨rfl, hbelk⟩
    have hc2 := addAllN (HF1.out.below hbelk) [[105, 109, 112, 111, 114, 116, 32], vj, [59, 10]] (by simp) (by rw [← HM2.out]; exact HL2.out)
    rw [← HM2.out] at hc2
    have HA2 : Hid (Calls Tryd.prog 49 #[v1, .slice (some ⟨wk.heap.size, 0, none⟩) 3 3] (wk.alloc (.cells #[.string ⟨#[105, 109, 112, 111, 114, 116, 32]⟩, .string (bs vj), .string ⟨#[59, 10]⟩] 9)) (Wrote kk B wk m2)) := hc2
    have HKK := Lib.hid ((hbelk.block w.heap.size hlt1).trans HK1.out)
    have HBK := Lib.hid (HB1.out.trans (Bw.of (kk := kk) hbelk HF1.out.2))
    have hltk := lt_blk HKK.out
    clear hbelk hc2 q1 q2 hlt1 HF1 HB1 HK1 HJ3 HM2 HL2
    go_wp2_with fail
    refine HA2.out.mono ?_
    rintro e wy ⟨vy, rfl, hbufy, hbely⟩
    have HKy : Hid (wy.heap[w.heap.size]? = some (.cells #[.string (bs nm), .slice ia inn ic, .slice ga gn gc, .slice pa pn pc, .slice ba bn bc] 28 (0, 0))) := hbely.keeps HKK.out (by decide)
    have HBy := Lib.hid (HBK.out.trans hbely)
    have HFy := Lib.hid hbufy
    clear hbely hbufy HKK HBK HA2 hltk
    obtain ⟨a0, a1, a2, a3, a4⟩ := cell_box5 HKy.out
    have hlty := lt_blk HKy.out
    clear a0 a1 a3 a4
    go_wp2_with fail
    generalize decide (0 < inn) = bb
    go_loopg [0, 27] gn (fun k v vi wr => ∃ i : Nat, i ≤ gn ∧ k = gn - i ∧ vi = .int .i64 (i : Int) ∧ Hid (Buf kk wr B v (mg i)) ∧ Hid (Bw kk B w wr) ∧ Hid (wr.heap[w.heap.size]? = some (.cells #[.string (bs nm), .slice ia inn ic, .slice ga gn gc, .slice pa pn pc, .slice ba bn bc] 28 (0, 0))))
    case atStart => exact ⟨0, by omega, by omega, rfl, by unfold Hid; rw [HG0.out]; exact HFy.out, HBy, HKy⟩
    case round =>
      obtain ⟨i, hid, hk, rfl, HF1, HB1, HK1⟩ := hrel
      clear HKy HBy HFy a2 hlty
      by_cases hlt : i < gn
      · have hlt' : (i : Int) < (gn : Int) := by omega
        obtain ⟨g, x0, x1, x2, x3, hga, hgB, hgs, c0, c1, c2, c3, hcall⟩ := HG.out i hlt
        subst hga
        have kc0 := (HB1.out.cell (p := ⟨g, i * 4, none⟩) hgB).trans c0
        have kc1 := (HB1.out.cell (p := ⟨g, i * 4 + 1, none⟩) hgB).trans c1
        have kc2 := (HB1.out.cell (p := ⟨g, i * 4 + 2, none⟩) hgB).trans c2
        have kc3 := (HB1.out.cell (p := ⟨g, i * 4 + 3, none⟩) hgB).trans c3
        have hlgr : g < wr.heap.size := by have := HB1.out.size; omega
        have HCL := Lib.hid hcall
        obtain ⟨m, hm⟩ : ∃ m, m = mg i := ⟨_, rfl⟩
        have hbuf := HF1.out
        rw [← hm] at hbuf
        obtain ⟨b1, d1, hv⟩ := owns_shape hbuf.1
        subst hv
        have HBUF : Hid (Buf kk wr B (.slice b1 m.length d1) m) := hbuf
        have HMM := Lib.hid hm
        clear hcall c0 c1 c2 c3 hbuf hm HF1
        go_wp2_with fail
        have hal : ∀ ob, Below wr.heap.size wr (wr.alloc ob) := fun ob => (Below.refl _ _).alloc (Nat.le_refl _) _
        refine (HCL.out _ _ (HB1.out.trans (Bw.of (kk := kk) (hal _) HBUF.out.2)) (HMM.out ▸ HBUF.out.below (hal _))).mono ?_
        rintro e w3 ⟨v3, rfl, hbuf3, hbel3⟩
        have HB3 : Hid (Buf kk w3 B v3 (mg (i + 1))) := hbuf3
        have HBW : Hid (Bw kk B w w3) := (HB1.out.trans (Bw.of (kk := kk) (hal _) HBUF.out.2)).trans hbel3
        have HK3 : Hid (w3.heap[w.heap.size]? = some (.cells #[.string (bs nm), .slice ia inn ic, .slice (some ⟨g, 0, none⟩) gn gc, .slice pa pn pc, .slice ba bn bc] 28 (0, 0))) := hbel3.keeps (((hal _).block w.heap.size (lt_blk HK1.out)).trans HK1.out) (by decide)
        clear hbuf3 hal hbel3
        go_wp2_with fail
        go_roundg (gn - (i + 1))
        case measure => omega
        case rel => exact ⟨i + 1, by omega, rfl, by go_num, HB3, HBW, HK3⟩
      · have hlt' : ¬ (i : Int) < (gn : Int) := by omega
        have hei : i = gn := by omega
        obtain ⟨a0, a1, a2, a3, a4⟩ := cell_box5 HK1.out
        have hltr := lt_blk HK1.out
        have HF2 : Hid (Buf kk wr B u0 (mp 0)) := by unfold Hid; rw [HP0.out, ← hei]; exact HF1.out
        have HB2 : Hid (Bw kk B w wr) := HB1
        have HK2 : Hid (wr.heap[w.heap.size]? = some (.cells #[.string (bs nm), .slice ia inn ic, .slice ga gn gc, .slice pa pn pc, .slice ba bn bc] 28 (0, 0))) := HK1
        clear a0 a1 a2 a4 HF1 HB1 HK1 hei hk hid HG HG0
        go_wp2_with fail
        go_loopg [0, 38] pn (fun k v vi wr => ∃ i : Nat, i ≤ pn ∧ k = pn - i ∧ vi = .int .i64 (i : Int) ∧ Hid (Buf kk wr B v (mp i)) ∧ Hid (Bw kk B w wr) ∧ Hid (wr.heap[w.heap.size]? = some (.cells #[.string (bs nm), .slice ia inn ic, .slice ga gn gc, .slice pa pn pc, .slice ba bn bc] 28 (0, 0))))
        case atStart => exact ⟨0, by omega, by omega, rfl, HF2, HB2, HK2⟩
        case round =>
          obtain ⟨j, hjd, hk2, rfl, HF1, HB1, HK1⟩ := hrel
          clear HF2 HB2 HK2 a3 hltr
          by_cases hlt2 : j < pn
          · have hlt2' : (j : Int) < (pn : Int) := by omega
            obtain ⟨g, x0, x1, x2, y3, y4, y5, n3, n4, n5, d3, d4, d5, hpa, hgB, hgs, c0, c1, c2, c3, c4, c5, hcall⟩ := HP.out j hlt2
            subst hpa
            have kc0 := (HB1.out.cell (p := ⟨g, j * 6, none⟩) hgB).trans c0
            have kc1 := (HB1.out.cell (p := ⟨g, j * 6 + 1, none⟩) hgB).trans c1
            have kc2 := (HB1.out.cell (p := ⟨g, j * 6 + 2, none⟩) hgB).trans c2
            have kc3 := (HB1.out.cell (p := ⟨g, j * 6 + 3, none⟩) hgB).trans c3
            have kc4 := (HB1.out.cell (p := ⟨g, j * 6 + 4, none⟩) hgB).trans c4
            have kc5 := (HB1.out.cell (p := ⟨g, j * 6 + 5, none⟩) hgB).trans c5
            have hlgr : g < wr.heap.size := by have := HB1.out.size; omega
            have HCL := Lib.hid hcall
            obtain ⟨m, hm⟩ : ∃ m, m = mp j := ⟨_, rfl⟩
            have hbuf := HF1.out
            rw [← hm] at hbuf
            obtain ⟨b1, d1, hv⟩ := owns_shape hbuf.1
            subst hv
            have HBUF : Hid (Buf kk wr B (.slice b1 m.length d1) m) := hbuf
            have HMM := Lib.hid hm
            clear hcall c0 c1 c2 c3 c4 c5 hbuf hm HF1
            go_wp2_with fail
            have hal : ∀ ob, Below wr.heap.size wr (wr.alloc ob) := fun ob => (Below.refl _ _).alloc (Nat.le_refl _) _
            refine (HCL.out _ _ (HB1.out.trans (Bw.of (kk := kk) (hal _) HBUF.out.2)) (HMM.out ▸ HBUF.out.below (hal _))).mono ?_
            rintro e w3 ⟨v3, rfl, hbuf3, hbel3⟩
            have HB3 : Hid (Buf kk w3 B v3 (mp (j + 1))) := hbuf3
            have HBW : Hid (Bw kk B w w3) := (HB1.out.trans (Bw.of (kk := kk) (hal _) HBUF.out.2)).trans hbel3
            have HK3 : Hid (w3.heap[w.heap.size]? = some (.cells #[.string (bs nm), .slice ia inn ic, .slice ga gn gc, .slice (some ⟨g, 0, none⟩) pn pc, .slice ba bn bc] 28 (0, 0))) := hbel3.keeps (((hal _).block w.heap.size (lt_blk HK1.out)).trans HK1.out) (by decide)
            clear hbuf3 hal hbel3
            go_wp2_with fail
            go_roundg (pn - (j + 1))
            case measure => omega
            case rel => exact ⟨j + 1, by omega, rfl, by go_num, HB3, HBW, HK3⟩
          · have hlt2' : ¬ (j : Int) < (pn : Int) := by omega
            have hej : j = pn := by omega
            obtain ⟨a0, a1, a2, a3, a4⟩ := cell_box5 HK1.out
            have hltr := lt_blk HK1.out
            have hbuf := HF1.out
            rw [hej] at hbuf
            have hc5 := addAll1 hbuf [98, 101, 103, 105, 110, 10] (by rw [← HM3.out]; exact HL3.out)
            rw [← HM3.out] at hc5
            have HA5 : Hid (Calls Tryd.prog 49 #[u0, .slice (some ⟨wr.heap.size, 0, none⟩) 1 1] (wr.alloc (.cells #[.string ⟨#[98, 101, 103, 105, 110, 10]⟩] 9)) (Wrote kk B wr m3)) := hc5
            clear hc5 hbuf HF1 a0 a1 a2 a3 a4 HP HP0 hej hjd hk2
            go_wp2_with fail
            refine HA5.out.mono ?_
            rintro e w5 ⟨v5, rfl, hbuf5, hbel5⟩
            have HK5 : Hid (w5.heap[w.heap.size]? = some (.cells #[.string (bs nm), .slice ia inn ic, .slice ga gn gc, .slice pa pn pc, .slice ba bn bc] 28 (0, 0))) := hbel5.keeps HK1.out (by decide)
            have HB5 := Lib.hid (HB1.out.trans hbel5)
            obtain ⟨s0, s1, s2, s3, s4⟩ := cell_box5 HK5.out
            have hlt5 := lt_blk HK5.out
            have HA6 : Hid (Calls Tryd.prog 53 #[v5, .slice ba bn bc, .int .i64 1] w5 (Wrote kk B w5 m4)) := HST.out w5 v5 HB5.out hbuf5
            clear hbuf5 hbel5 s0 s1 s2 s3
            go_wp2_with fail
            refine HA6.out.mono ?_
            rintro e w6 ⟨v6, rfl, hbuf6, hbel6⟩
            have HB6 := Lib.hid (HB5.out.trans hbel6)
            have hc7 := addAll1 hbuf6 [101, 110, 100, 46, 10] (by rw [← HMF.out]; exact HL4.out)
            rw [← HMF.out] at hc7
            have HA7 : Hid (Calls Tryd.prog 49 #[v6, .slice (some ⟨w6.heap.size, 0, none⟩) 1 1] (w6.alloc (.cells #[.string ⟨#[101, 110, 100, 46, 10]⟩] 9)) (Wrote kk B w6 mf)) := hc7
            clear hc7 hbuf6 hbel6 s4
            go_wp2_with fail
            refine HA7.out.mono ?_
            rintro e w7 ⟨v7, rfl, hbuf7, hbel7⟩
            have HB : Hid (Buf kk w7 B v7 mf) := hbuf7
            have HBB := Lib.hid (HB6.out.trans hbel7)
            clear hbuf7 hbel7
            go_wp2_with fail
            go_ret
            exact ⟨_, rfl, HB.out, HBB.out⟩
end Go.Proofs.YthkdefhngkangaaDoor
