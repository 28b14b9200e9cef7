import Derived.Test.YthkdefhngkangaaDoorKWS
/- Writing a STMT: a set without an index. -/
namespace Go.Proofs.YthkdefhngkangaaDoor
open Go.RowKit
variable {kk : Nat → Prop}
open Tp (X S)

set_option maxRecDepth 100000 in
set_option maxHeartbeats 2000000 in
theorem addStmt_set0 {pos d : Nat} {nm : List UInt8} {y : X} (hw : Tp.WX [y]) {w : World} {B bx : Nat} {ta ea : Option Addr} {tc ec : Nat} {v : Value} {l : List UInt8} (hx : Ex1 w B y bx) (hb : Buf kk w B v l) (hr : Wr B w) (hd : d ≤ 500) (hl : (l ++ blanks d ++ nm ++ [32, 58, 61, 32] ++ (Tp.pxs [y]).flatten ++ [59, 10]).length ≤ 1000000000) :
    Calls Tryd.prog 69 #[v, .agg #[.int .i64 1, .int .i64 (pos : Int), .string (bs nm), .pointer none, .pointer (some ⟨bx, 0, none⟩), .slice ta 0 tc, .slice ea 0 ec], .int .i64 (d : Int)] w (Wrote kk B w (l ++ blanks d ++ nm ++ [32, 58, 61, 32] ++ (Tp.pxs [y]).flatten ++ [59, 10])) := by
  have hd' : (d : Int) ≤ 500 := by omega
  have hal : ∀ ob, Below w.heap.size w (w.alloc ob) := fun ob => (Below.refl _ _).alloc (Nat.le_refl _) _
  have HBW : Hid (∀ ob, Bw kk B w (w.alloc ob)) := fun ob => Bw.of (kk := kk) (hal ob) hb.2
  have HC : Hid (∀ ob, Calls Tryd.prog 81 #[v, .int .i64 (d : Int)] (w.alloc ob) (Wrote kk B (w.alloc ob) (l ++ blanks d))) := fun ob => addBlanks_post (hb.below (hal ob)) d (by omega) (by simp only [List.length_append] at hl; omega)
  have HL : Hid ((l ++ blanks d ++ nm ++ [32, 58, 61, 32] ++ (Tp.pxs [y]).flatten ++ [59, 10]).length ≤ 1000000000) := hl
  have HX : Hid (Ex1 w B y bx) := hx
  have HR : Hid (Wr B w) := hr
  obtain ⟨mf, hmf⟩ : ∃ mf, mf = l ++ blanks d ++ nm ++ [32, 58, 61, 32] ++ (Tp.pxs [y]).flatten ++ [59, 10] := ⟨_, rfl⟩
  rw [← hmf]
  have HMF : Hid (mf = l ++ blanks d ++ nm ++ [32, 58, 61, 32] ++ (Tp.pxs [y]).flatten ++ [59, 10]) := hmf
  obtain ⟨m0', hm0⟩ : ∃ m0', m0' = l ++ blanks d := ⟨_, rfl⟩
  have HM0 : Hid (m0' = l ++ blanks d) := hm0
  have hl0 : m0'.length + nm.length ≤ 2000000000 := by rw [hm0]; simp only [List.length_append] at hl ⊢; omega
  clear hmf hl hx hr hal hb hm0
  go_enter Tryd.func69, Tryd.ntmps69
  go_wp2_with fail
  refine (HC.out _).mono ?_
  rintro e w2 ⟨v2, rfl, hbuf2, hbel2⟩
  have hblk : (w.alloc (.cells #[.int .i64 1, .int .i64 (pos : Int), .string (bs nm), .pointer none, .pointer (some ⟨bx, 0, none⟩), .slice ta 0 tc, .slice ea 0 ec] 110)).heap[w.heap.size]? = some (.cells #[.int .i64 1, .int .i64 (pos : Int), .string (bs nm), .pointer none, .pointer (some ⟨bx, 0, none⟩), .slice ta 0 tc, .slice ea 0 ec] 110 (0, 0)) := new_blk _ _
  have hblk2 := hbel2.keeps hblk (by decide)
  have hB2 : Bw kk B w w2 := (HBW.out _).trans hbel2
  obtain ⟨g0, g2, g3, g4, g5, g6⟩ := cell_box hblk2
  have hlt2 := lt_blk hblk2
  rw [← HM0.out] at hbuf2
  clear hblk hbel2 g4 g5 g6
  go_wp2_with (at_builtin; refine wpList_str rfl _ _ rfl hbuf2 nm rfl rfl ?c1 ?_)
  case c1 => exact hl0
  intro v3 w3 hbuf3 hbel3
  have hblk3 := hbel3.keeps hblk2 (by decide)
  have hB3 : Bw kk B w w3 := hB2.trans hbel3
  obtain ⟨k0, k2, k3, k4, k5, k6⟩ := cell_box hblk3
  have hlt3 := lt_blk hblk3
  have hd3 := below_drew w3
  have hbuf3d := hbuf3.below hd3
  have hB3d : Bw kk B w w3.drew := hB3.trans (Bw.of (kk := kk) hd3 hbuf3.2)
  have hblk3d := (Bw.of (kk := kk) hd3 hbuf3.2).keeps hblk3 (by decide)
  rw [HM0.out] at hbuf3d
  have hcall := addAll1 hbuf3d [32, 58, 61, 32] (by have := HL.out; simp only [List.length_append] at this ⊢; omega)
  have HA : Hid (Calls Tryd.prog 49 #[v3, .slice (some ⟨w3.drew.heap.size, 0, none⟩) 1 1] (w3.drew.alloc (.cells #[.string ⟨#[32, 58, 61, 32]⟩] 9)) (Wrote kk B w3.drew (l ++ blanks d ++ nm ++ [32, 58, 61, 32]))) := hcall
  clear hcall hbel3 k2 k5 k6 g0 g2 g3 hbuf2
  have q4 : w3.drew.cell? ⟨w.heap.size, 4, none⟩ = some (.pointer (some ⟨bx, 0, none⟩)) := (cell_box hblk3d).2.2.2.1
  have HK : Hid (∀ ob, (w3.drew.alloc ob).cell? ⟨w.heap.size, 4, none⟩ = some (.pointer (some ⟨bx, 0, none⟩))) := fun ob => cell_alloc q4 ob
  go_wp2_with fail
  go_region_held3 (fun w' => w'.cell? ⟨w.heap.size, 4, none⟩ = some (.pointer (some ⟨bx, 0, none⟩))) (first | (exact k4) | (exact q4) | (exact HK.out _) | (exact q5) | (exact q6)) (first | (go_at_call 49; refine HA.out.mono ?_; rintro e w5 ⟨v5, rfl, hbuf5, hbel5⟩; have hblk5 := hbel5.keeps hblk3d (by decide); have hB5 := hB3d.trans hbel5; have q5 : w5.cell? ⟨w.heap.size, 4, none⟩ = some (.pointer (some ⟨bx, 0, none⟩)) := (cell_box hblk5).2.2.2.1) | (go_at_call 82; refine (addExpr_all _ y (Nat.le_refl _) hw w5 B bx v5 _ (HX.out.on hB5) hbuf5 (HR.out.on hB5) (by have := HL.out; simp only [List.length_append] at this ⊢; omega)).mono ?_; rintro e w6 ⟨v6, rfl, hbuf6, hbel6⟩; have hblk6 := hbel6.keeps hblk5 (by decide); have q6 : w6.cell? ⟨w.heap.size, 4, none⟩ = some (.pointer (some ⟨bx, 0, none⟩)) := (cell_box hblk6).2.2.2.1))
  all_goals
    have hB6 := hB5.trans hbel6
    have hcall := addAll1 hbuf6 [59, 10] HL.out
    rw [← HMF.out] at hcall
    have HA2 : Hid (Calls Tryd.prog 49 #[v6, .slice (some ⟨w6.heap.size, 0, none⟩) 1 1] (w6.alloc (.cells #[.string ⟨#[59, 10]⟩] 9)) (Wrote kk B w6 mf)) := hcall
    clear hcall hbuf6 hbuf5 hbuf3 hbuf3d
    go_wp2_with fail
    refine HA2.out.mono ?_
    rintro e w7 ⟨v7, rfl, hbuf7, hbel7⟩
    have HB : Hid (Buf kk w7 B v7 mf) := hbuf7
    have HBB : Hid (Bw kk B w w7) := hB6.trans hbel7
    clear hbuf7
    go_wp2_with fail
    go_ret
    exact ⟨_, rfl, HB.out, HBB.out⟩
end Go.Proofs.YthkdefhngkangaaDoor
/- Writing a STMT: a set with an index. -/
namespace Go.Proofs.YthkdefhngkangaaDoor
open Go.RowKit
variable {kk : Nat → Prop}
open Tp (X S)

/- a contract that keeps whatever blocks are named keeps all but the text's own -/
theorem exact_of {f : Nat} {args : Array Value} {W : World} {B : Nat} {v : Value} {m m' : List UInt8} (hb : Buf kk W B v m) (h : ∀ K : Nat → Prop, Buf K W B v m → Calls Tryd.prog f args W (Wrote K B W m')) :
    Calls Tryd.prog f args W fun e w' => ∃ v', e = .returned v' ∧ Buf kk w' B v' m' ∧ Bw kk B W w' ∧ Exact v v' W w' := by
  have hown := hb.own
  have hle := hb.le
  have hnext : ∀ v' w', Exact v v' W w' → w'.ownsRow B 5 1 v' m'.length (u8s m') → Buf kk w' B v' m' := fun _ _ a b => hb.next a b
  have hbw : ∀ v' w', Below B W w' → Lib.OthersKept 5 none W w' → Exact v v' W w' → Bw kk B W w' := fun v' w' a b c => ⟨a, b, fun k hk hl => c.block k hl (hb.kp k hk).2⟩
  clear hb
  obtain ⟨K, hK⟩ : ∃ K : Nat → Prop, K = fun k => k < W.heap.size ∧ v.ownBlock ≠ some k := ⟨_, rfl⟩
  have hk : ∀ k, K k ↔ (k < W.heap.size ∧ v.ownBlock ≠ some k) := fun k => by subst hK; exact Iff.rfl
  refine (h K ⟨hown, hle, fun k h => (hk k).1 h⟩).mono ?_
  rintro e w' ⟨v', h1, h2, h3⟩
  have h4 := h3.toBelow
  have h5 := h3.oth
  have h6 := h3.kp
  have h7 := h2.kp
  have h8 := h2.own
  have hx : Exact v v' W w' := ⟨h4.size, fun k hl hn => h6 k ((hk k).2 ⟨hl, hn⟩) hl, fun g hg => by
    by_cases h9 : v.ownBlock = some g
    · exact Or.inl h9
    · refine Or.inr ?_
      by_cases h0 : W.heap.size ≤ g
      · exact h0
      · exact absurd hg (h7 g ((hk g).2 ⟨by omega, h9⟩)).2⟩
  exact ⟨v', h1, hnext v' w' hx h8, hbw v' w' h4 h5 hx, hx⟩
/- a byte's own block, apart from a text's -/
def BB (W : World) (sb : Nat) (n : Int) (v : Value) : Prop := W.heap[sb]? = some (.cells #[.int .u8 n] 5 (0, 0)) ∧ v.ownBlock ≠ some sb
theorem BB.new {W : World} {B : Nat} {v : Value} {m : List UInt8} (h : Buf kk W B v m) (n : Int) (k : Nat) (hk : k = W.heap.size) : BB (W.alloc (.cells #[.int .u8 n] 5)) k n v := by
  subst hk
  exact ⟨new_blk _ _, fun e => Nat.lt_irrefl _ (h.own.lt _ e).2⟩
theorem BB.alloc {W : World} {sb : Nat} {n : Int} {v : Value} (h : BB W sb n v) (ob : Obj) : BB (W.alloc ob) sb n v := ⟨(Below.heap_alloc W ob sb (lt_blk h.1)).trans h.1, h.2⟩
theorem BB.dr {W : World} {sb : Nat} {n : Int} {v : Value} (h : BB W sb n v) : BB W.drew sb n v := h
theorem BB.on {W W' : World} {sb : Nat} {n : Int} {v v' : Value} (h : BB W sb n v) (k : Exact v v' W W') : BB W' sb n v' :=
  ⟨(k.block sb (lt_blk h.1) h.2).trans h.1, fun e => (k.lies sb e).elim h.2 (Nat.not_le.2 (lt_blk h.1))⟩
theorem FX.step_byte {ops : Array Oper} {o : Oper} {a : Act} {K : Act → World → Prop} {Q : Exit → Act → World → Prop} {E : Prop} (hg : o.guard = none) (s x : Operand) (hop : o.op = Op.call { callee := Callee.builtin Builtin.append, args := #[s, x], argTypes := #[62, 62] })
    {B : Nat} {w0 : World} {bx : Nat} {v0 v1 v2 v3 v4 v5 v6 : Value} {W : World} {v : Value} {m : List UInt8} (h : FX kk B w0 bx v0 v1 v2 v3 v4 v5 v6 W v m) (hs : a.eval s = v) {n : Int} (c : UInt8) (hn : n = c.toNat) (hbx : ∃ sb, a.eval x = .slice (some ⟨sb, 0, none⟩) 1 1 ∧ BB W sb n v) (hl : Hid (m.length + 1 ≤ 1000000000))
    (hK : ∀ v' w', FX kk B w0 bx v0 v1 v2 v3 v4 v5 v6 w' v' (m ++ [c]) → Exact v v' W w' → K (a.put o.dst v') w') :
    if Region.wanted o (yielded ops a.tmps) = true then Oper.wp Tryd.prog o a W K Q else E := by
  subst hn
  obtain ⟨i0, hi0, hz0, hz1, hz2⟩ := info_parts Tryd.infoU8
  have hl := hl.out
  obtain ⟨sb, hx, hbb⟩ := hbx
  refine step_append_where hg s x 62 hop B 5 i0 (.int .u8 0) 1 1 Tryd.underlying62 hi0 hz0 hz1 hz2 rfl (by decide) v m.length (u8s m) hs h.buf.1 ⟨sb, 0, none⟩ 1 1 [.int .u8 (c.toNat : Int)] hx rfl ?c1 ?c2 ?c3 ?c4 h.buf.2 ?_
  case c1 =>
    intro j u hj
    rw [Addr.add_lit, cell_blk hbb.1, Nat.zero_add]
    simpa using hj
  case c2 => intro u hu; simp at hu; subst hu; rfl
  case c3 => unfold maxLen; omega
  case c4 => omega
  intro v' w' h1 h2 h4
  have hex := Exact.of h2 h4
  refine hK v' w' (h.after (h.buf.next hex ?_) (h.buf.grown h2)) hex
  rw [u8s_append, List.length_append]
  exact h1
theorem FX.exX {B : Nat} {w0 : World} {bx : Nat} {v0 v1 v2 v3 v4 v5 v6 : Value} {W : World} {v : Value} {m : List UInt8} (h : FX kk B w0 bx v0 v1 v2 v3 v4 v5 v6 W v m) {y : X} {b : Nat} (hw : Tp.WX [y]) (hx : Hid (Ex1 w0 B y b)) (hr : Hid (Wr B w0)) (hl : Hid ((m ++ (Tp.pxs [y]).flatten).length ≤ 1000000000)) :
    Calls Tryd.prog 82 #[v, .pointer (some ⟨b, 0, none⟩)] W fun e w' => ∃ v', e = .returned v' ∧ FX kk B w0 bx v0 v1 v2 v3 v4 v5 v6 w' v' (m ++ (Tp.pxs [y]).flatten) ∧ Exact v v' W w' := by
  have hx' := hx.out.on h.bw
  have hr' := hr.out.on h.bw
  refine (exact_of h.buf (m' := m ++ (Tp.pxs [y]).flatten) fun K hb => addExpr_all _ y (Nat.le_refl _) hw W B b v m hx' hb hr' hl.out).mono ?_
  rintro e w' ⟨v', h1, h2, h3, h4⟩
  exact ⟨v', h1, h.after h2 h3, h4⟩
end Go.Proofs.YthkdefhngkangaaDoor
/- Writing a STMT: a set with an index, whole. -/
namespace Go.Proofs.YthkdefhngkangaaDoor
open Go.RowKit
variable {kk : Nat → Prop}
open Tp (X S)

set_option maxRecDepth 100000 in
set_option maxHeartbeats 4000000 in
theorem addStmt_set1 {pos d : Nat} {nm : List UInt8} {z y : X} (hwz : Tp.WX [z]) (hw : Tp.WX [y]) {w : World} {B bi bx : Nat} {ta ea : Option Addr} {tc ec : Nat} {v : Value} {l : List UInt8} (hz : Ex1 w B z bi) (hx : Ex1 w B y bx) (hb : Buf kk w B v l) (hr : Wr B w) (hd : d ≤ 500) (hl : (l ++ blanks d ++ nm ++ [91] ++ (Tp.pxs [z]).flatten ++ [93] ++ [32, 58, 61, 32] ++ (Tp.pxs [y]).flatten ++ [59, 10]).length ≤ 1000000000) :
    Calls Tryd.prog 69 #[v, .agg #[.int .i64 1, .int .i64 (pos : Int), .string (bs nm), .pointer (some ⟨bi, 0, none⟩), .pointer (some ⟨bx, 0, none⟩), .slice ta 0 tc, .slice ea 0 ec], .int .i64 (d : Int)] w (Wrote kk B w (l ++ blanks d ++ nm ++ [91] ++ (Tp.pxs [z]).flatten ++ [93] ++ [32, 58, 61, 32] ++ (Tp.pxs [y]).flatten ++ [59, 10])) := by
  have hd' : (d : Int) ≤ 500 := by omega
  have hal : ∀ ob, Below w.heap.size w (w.alloc ob) := fun ob => (Below.refl _ _).alloc (Nat.le_refl _) _
  have HBW : Hid (∀ ob, Bw kk B w (w.alloc ob)) := fun ob => Bw.of (kk := kk) (hal ob) hb.2
  have HC : Hid (∀ ob, Calls Tryd.prog 81 #[v, .int .i64 (d : Int)] (w.alloc ob) (Wrote kk B (w.alloc ob) (l ++ blanks d))) := fun ob => addBlanks_post (hb.below (hal ob)) d (by omega) (by simp only [List.length_append] at hl; omega)
  have HL : Hid ((l ++ blanks d ++ nm ++ [91] ++ (Tp.pxs [z]).flatten ++ [93] ++ [32, 58, 61, 32] ++ (Tp.pxs [y]).flatten ++ [59, 10]).length ≤ 1000000000) := hl
  have HZ : Hid (Ex1 w B z bi) := hz
  have HX : Hid (Ex1 w B y bx) := hx
  have HR : Hid (Wr B w) := hr
  obtain ⟨mf, hmf⟩ : ∃ mf, mf = l ++ blanks d ++ nm ++ [91] ++ (Tp.pxs [z]).flatten ++ [93] ++ [32, 58, 61, 32] ++ (Tp.pxs [y]).flatten ++ [59, 10] := ⟨_, rfl⟩
  rw [← hmf]
  have HMF : Hid (mf = l ++ blanks d ++ nm ++ [91] ++ (Tp.pxs [z]).flatten ++ [93] ++ [32, 58, 61, 32] ++ (Tp.pxs [y]).flatten ++ [59, 10]) := hmf
  obtain ⟨m0', hm0⟩ : ∃ m0', m0' = l ++ blanks d := ⟨_, rfl⟩
  have HM0 : Hid (m0' = l ++ blanks d) := hm0
  have hl0 : m0'.length + nm.length ≤ 2000000000 := by rw [hm0]; simp only [List.length_append] at hl ⊢; omega
  have L1 : Hid ((l ++ blanks d ++ nm).length + 1 ≤ 1000000000) := by unfold Hid; simp only [List.length_append, List.length_cons, List.length_nil] at hl ⊢; omega
  have L2 : Hid ((l ++ blanks d ++ nm ++ [91] ++ (Tp.pxs [z]).flatten).length ≤ 1000000000) := by unfold Hid; simp only [List.length_append] at hl ⊢; omega
  have L3 : Hid ((l ++ blanks d ++ nm ++ [91] ++ (Tp.pxs [z]).flatten).length + 1 ≤ 1000000000) := by unfold Hid; simp only [List.length_append, List.length_cons, List.length_nil] at hl ⊢; omega
  clear hmf hl hx hz hr hal hb hm0
  go_enter Tryd.func69, Tryd.ntmps69
  go_wp2_with fail
  refine (HC.out _).mono ?_
  rintro e w2 ⟨v2, rfl, hbuf2, hbel2⟩
  have hblk : (w.alloc (.cells #[.int .i64 1, .int .i64 (pos : Int), .string (bs nm), .pointer (some ⟨bi, 0, none⟩), .pointer (some ⟨bx, 0, none⟩), .slice ta 0 tc, .slice ea 0 ec] 110)).heap[w.heap.size]? = some (.cells #[.int .i64 1, .int .i64 (pos : Int), .string (bs nm), .pointer (some ⟨bi, 0, none⟩), .pointer (some ⟨bx, 0, none⟩), .slice ta 0 tc, .slice ea 0 ec] 110 (0, 0)) := new_blk _ _
  have hblk2 := hbel2.keeps hblk (by decide)
  have hB2 : Bw kk B w w2 := (HBW.out _).trans hbel2
  obtain ⟨g0, g2, g3, g4, g5, g6⟩ := cell_box hblk2
  have hlt2 := lt_blk hblk2
  rw [← HM0.out] at hbuf2
  clear hblk hbel2 g4 g5 g6
  go_wp2_with (at_builtin; refine wpList_str rfl _ _ rfl hbuf2 nm rfl rfl ?c1 ?_)
  case c1 => exact hl0
  intro v3 w3 hbuf3 hbel3
  rw [HM0.out] at hbuf3
  have F3 : FX kk B w w.heap.size (.int .i64 1) (.int .i64 (pos : Int)) (.string (bs nm)) (.pointer (some ⟨bi, 0, none⟩)) (.pointer (some ⟨bx, 0, none⟩)) (.slice ta 0 tc) (.slice ea 0 ec) w3 v3 (l ++ blanks d ++ nm) := ⟨hbuf3, hB2.trans hbel3, hbel3.keeps hblk2 (by decide)⟩
  obtain ⟨k0, k2, k3, k4, k5, k6⟩ := cell_box F3.box
  have hlt3 := lt_blk F3.box
  have H3 : Hid (FX kk B w w.heap.size (.int .i64 1) (.int .i64 (pos : Int)) (.string (bs nm)) (.pointer (some ⟨bi, 0, none⟩)) (.pointer (some ⟨bx, 0, none⟩)) (.slice ta 0 tc) (.slice ea 0 ec) w3 v3 (l ++ blanks d ++ nm)) := F3
  have D3 : Hid (FX kk B w w.heap.size (.int .i64 1) (.int .i64 (pos : Int)) (.string (bs nm)) (.pointer (some ⟨bi, 0, none⟩)) (.pointer (some ⟨bx, 0, none⟩)) (.slice ta 0 tc) (.slice ea 0 ec) w3.drew v3 (l ++ blanks d ++ nm)) := F3.dr
  clear hbel3 hbuf3 hblk2 hB2 g0 g2 g3 hlt2 F3 k2 k5 k6
  go_wp2_with fail
  go_region_held3 (fun w' => w'.cell? ⟨w.heap.size, 3, none⟩ = some (.pointer (some ⟨bi, 0, none⟩))) (with_reducible (first | exact k3 | exact D3.out.c3 | exact (H3.out.alloc _).dr.c3 | exact ((H3.out.alloc _).alloc _).dr.c3 | exact (D3.out.alloc _).c3 | exact ((D3.out.alloc _).alloc _).c3 | exact H5.out.c3 | exact (H5.out.alloc _).c3 | exact H6.out.c3 | exact (H6.out.alloc _).c3 | exact H7.out.c3)) (first | (go_at_call 82; refine Calls.mono (FX.exX (kk := kk) (B := B) (w0 := w) (bx := w.heap.size) (v0 := .int .i64 1) (v1 := .int .i64 (pos : Int)) (v2 := .string (bs nm)) (v3 := .pointer (some ⟨bi, 0, none⟩)) (v4 := .pointer (some ⟨bx, 0, none⟩)) (v5 := .slice ta 0 tc) (v6 := .slice ea 0 ec) (m := l ++ blanks d ++ nm ++ [91]) (y := z) ?f hwz HZ HR L2) ?_; (case f => with_reducible (first | exact H5.out | exact H5.out.alloc _)); rintro e w6 ⟨v6, rfl, f6, b6⟩; have H6 : Hid (FX kk B w w.heap.size (.int .i64 1) (.int .i64 (pos : Int)) (.string (bs nm)) (.pointer (some ⟨bi, 0, none⟩)) (.pointer (some ⟨bx, 0, none⟩)) (.slice ta 0 tc) (.slice ea 0 ec) w6 v6 (l ++ blanks d ++ nm ++ [91] ++ (Tp.pxs [z]).flatten)) := f6; have X6 := Lib.hid b6; clear f6 b6) | (refine FX.step_byte (kk := kk) (B := B) (w0 := w) (bx := w.heap.size) (v0 := .int .i64 1) (v1 := .int .i64 (pos : Int)) (v2 := .string (bs nm)) (v3 := .pointer (some ⟨bi, 0, none⟩)) (v4 := .pointer (some ⟨bx, 0, none⟩)) (v5 := .slice ta 0 tc) (v6 := .slice ea 0 ec) (m := l ++ blanks d ++ nm) (v := v3) rfl (.tmp 21) (.tmp 22) rfl ?f ?hs 91 (n := 91) rfl ?bb L1 ?_; (case hs => simp [Act.eval]); (case f => with_reducible (first | exact (H3.out.alloc _).dr | exact ((H3.out.alloc _).alloc _).dr | exact D3.out.alloc _ | exact (D3.out.alloc _).alloc _)); (case bb => refine ⟨_, rfl, ?_⟩; with_reducible (first | exact (BB.new H3.out.buf _ _ rfl).dr | exact (BB.new (H3.out.alloc _).buf _ _ (by simp)).dr | exact ((BB.new H3.out.buf _ _ rfl).alloc _).dr)); intro v5 w5 f5 b5; have H5 : Hid (FX kk B w w.heap.size (.int .i64 1) (.int .i64 (pos : Int)) (.string (bs nm)) (.pointer (some ⟨bi, 0, none⟩)) (.pointer (some ⟨bx, 0, none⟩)) (.slice ta 0 tc) (.slice ea 0 ec) w5 v5 (l ++ blanks d ++ nm ++ [91])) := f5; have X5 := Lib.hid b5; clear f5 b5) | (refine FX.step_byte (kk := kk) (B := B) (w0 := w) (bx := w.heap.size) (v0 := .int .i64 1) (v1 := .int .i64 (pos : Int)) (v2 := .string (bs nm)) (v3 := .pointer (some ⟨bi, 0, none⟩)) (v4 := .pointer (some ⟨bx, 0, none⟩)) (v5 := .slice ta 0 tc) (v6 := .slice ea 0 ec) (m := l ++ blanks d ++ nm ++ [91] ++ (Tp.pxs [z]).flatten) (v := v6) rfl (.tmp 26) (.tmp 27) rfl ?f ?hs 93 (n := 93) rfl ?bb L3 ?_; (case hs => simp [Act.eval]); (case f => with_reducible (first | exact H6.out | exact H6.out.alloc _)); (case bb => refine ⟨_, rfl, ?_⟩; with_reducible (first | exact BB.new H6.out.buf _ _ rfl | exact (BB.new H5.out.buf _ _ rfl).on X6.out | exact ((BB.new H3.out.buf _ _ rfl).dr.on X5.out).on X6.out | exact ((BB.new (H3.out.alloc _).buf _ _ (by simp)).dr.on X5.out).on X6.out | exact (((BB.new H3.out.buf _ _ rfl).alloc _).dr.on X5.out).on X6.out)); intro v7 w7 f7 b7; have H7 : Hid (FX kk B w w.heap.size (.int .i64 1) (.int .i64 (pos : Int)) (.string (bs nm)) (.pointer (some ⟨bi, 0, none⟩)) (.pointer (some ⟨bx, 0, none⟩)) (.slice ta 0 tc) (.slice ea 0 ec) w7 v7 (l ++ blanks d ++ nm ++ [91] ++ (Tp.pxs [z]).flatten ++ [93])) := f7; clear f7 b7))
  all_goals
    obtain ⟨j0, j2, j3, j4, j5, j6⟩ := cell_box H7.out.box
    have hlt7 := lt_blk H7.out.box
    have hd7 := H7.out.dr
    have hcall := addAll1 hd7.buf [32, 58, 61, 32] (by have := HL.out; simp only [List.length_append] at this ⊢; omega)
    have HA : Hid (Calls Tryd.prog 49 #[v7, .slice (some ⟨w7.drew.heap.size, 0, none⟩) 1 1] (w7.drew.alloc (.cells #[.string ⟨#[32, 58, 61, 32]⟩] 9)) (Wrote kk B w7.drew (l ++ blanks d ++ nm ++ [91] ++ (Tp.pxs [z]).flatten ++ [93] ++ [32, 58, 61, 32]))) := hcall
    have hblk7d := hd7.box
    have hB7d := hd7.bw
    clear hcall
    have q4 : w7.drew.cell? ⟨w.heap.size, 4, none⟩ = some (.pointer (some ⟨bx, 0, none⟩)) := hd7.c4
    clear hd7 j2 j5 j6 k0 k3 k4 j3
    have HK : Hid (∀ ob, (w7.drew.alloc ob).cell? ⟨w.heap.size, 4, none⟩ = some (.pointer (some ⟨bx, 0, none⟩))) := fun ob => cell_alloc q4 ob
    go_wp2_with fail
    go_region_held3 (fun w' => w'.cell? ⟨w.heap.size, 4, none⟩ = some (.pointer (some ⟨bx, 0, none⟩))) (first | (exact j4) | (exact q4) | (exact HK.out _) | (exact q8) | (exact q9)) (first | (go_at_call 49; refine HA.out.mono ?_; rintro e w8 ⟨v8, rfl, hbuf8, hbel8⟩; have hblk8 := hbel8.keeps hblk7d (by decide); have hB8 := hB7d.trans hbel8; have q8 : w8.cell? ⟨w.heap.size, 4, none⟩ = some (.pointer (some ⟨bx, 0, none⟩)) := (cell_box hblk8).2.2.2.1) | (go_at_call 82; refine (addExpr_all _ y (Nat.le_refl _) hw w8 B bx v8 _ (HX.out.on hB8) hbuf8 (HR.out.on hB8) (by have := HL.out; simp only [List.length_append] at this ⊢; omega)).mono ?_; rintro e w9 ⟨v9, rfl, hbuf9, hbel9⟩; have hblk9 := hbel9.keeps hblk8 (by decide); have q9 : w9.cell? ⟨w.heap.size, 4, none⟩ = some (.pointer (some ⟨bx, 0, none⟩)) := (cell_box hblk9).2.2.2.1))
  all_goals
    have hB9 := hB8.trans hbel9
    have hcall := addAll1 hbuf9 [59, 10] HL.out
    rw [← HMF.out] at hcall
    have HA2 : Hid (Calls Tryd.prog 49 #[v9, .slice (some ⟨w9.heap.size, 0, none⟩) 1 1] (w9.alloc (.cells #[.string ⟨#[59, 10]⟩] 9)) (Wrote kk B w9 mf)) := hcall
    clear hcall hbuf9 hbuf8
    go_wp2_with fail
    refine HA2.out.mono ?_
    rintro e wZ ⟨vZ, rfl, hbufZ, hbelZ⟩
    have HB : Hid (Buf kk wZ B vZ mf) := hbufZ
    have HBB : Hid (Bw kk B w wZ) := hB9.trans hbelZ
    clear hbufZ
    go_wp2_with fail
    go_ret
    exact ⟨_, rfl, HB.out, HBB.out⟩
end Go.Proofs.YthkdefhngkangaaDoor
