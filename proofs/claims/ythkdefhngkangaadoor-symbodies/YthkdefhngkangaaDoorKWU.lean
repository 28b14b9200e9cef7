import Derived.Test.YthkdefhngkangaaDoorKWT
/- Writing STMTs: all. -/
namespace Go.Proofs.YthkdefhngkangaaDoor
open Go.RowKit
variable {kk : Nat → Prop}
open Tp (X S)

theorem ps_len {ss : List S} (hw : Tp.WS ss) (d : Nat) : ss.length ≤ (Tp.psts ss d).flatten.length := by
  induction ss with
  | nil => simp
  | cons s ss ih =>
    rw [Tp.psts_cons, List.flatten_append, List.length_append, List.length_cons]
    have h2 : 1 ≤ (Tp.ps1 s d).flatten.length := by
      obtain ⟨code, pos, nm, ix, v, th, el⟩ := s
      rw [Tp.WS] at hw
      rcases hw.1 with h1 | h1 | h1 | ⟨hc | hc, h1⟩ | h1
      · rw [h1.1, Tp.ps1_1]; simp [Tp.mSemi]; omega
      · rw [h1.1, Tp.ps1_2]; simp [Tp.mSemi]; omega
      · rw [h1.1, Tp.ps1_3]; simp [Tp.mSemi]; omega
      · rw [hc, Tp.ps1_4]; simp [Tp.mSemi]; omega
      · rw [hc, Tp.ps1_5]; simp [Tp.mSemi]; omega
      · rw [h1.1, Tp.ps1_6]; simp [Tp.mSemi]; omega
    have hw2 : Tp.WS ss := by obtain ⟨⟩ := s; rw [Tp.WS] at hw; exact hw.2
    have := ih hw2
    omega
theorem stmts_of {N : Nat} (hE : StmtW kk N) : StmtsW kk (N + 1) := by
  intro ss hs hw w B d sa sc cs v l hx ho hb hr hd hl
  rcases ho with ⟨h1, h2⟩ | ⟨g, cap, cur, h1, h2, h3, h4, h5, h6, h7⟩
  · have e : ss = [] := List.eq_nil_of_length_eq_zero h2
    subst e
    rw [h1]
    have := addStmts_none (d := d) hb
    simpa [Tp.psts, Tp.pst] using this
  · rw [h1]
    have := ps_len hw d
    exact addStmts_some hE hs hw hx rfl (by simp only [List.length_append] at hl; omega) h2 h3 h7 hb hr hd hl
theorem one_of {α : Type} {l : List α} (h : l.length = 1) : ∃ x, l = [x] := List.length_eq_one_iff.1 h
theorem stmt_of {N : Nat} (hE : StmtsW kk N) : StmtW kk (N + 1) := by
  intro s hs hw w B d ia va ta ea tc ec v l hsv hb hr hd hl
  obtain ⟨code, pos, nm, ix, vl, th, el⟩ := s
  obtain ⟨x, bx, hvl, rfl, hex⟩ := hsv.va
  simp only at hvl
  subst hvl
  have hsz : SizeOf.sizeOf th ≤ N ∧ SizeOf.sizeOf el ≤ N := by simp at hs; omega
  have hw' := hw
  rw [Tp.WS] at hw'
  rcases hw'.1 with h1 | h1 | h1 | ⟨hc, h1⟩ | h1
  · obtain ⟨rfl, a2, a3, a4, rfl, rfl⟩ := h1
    rw [Tp.ps1_1] at hl ⊢
    rcases hsv.ix with ⟨q1, rfl⟩ | ⟨z, bz, q1, rfl, q3⟩
    · simp only at q1
      subst q1
      have e : l ++ (Tp.tab d ++ ([nm] ++ (if ([] : List X).isEmpty = true then [] else [Tp.mLb] ++ Tp.pxs [] ++ [Tp.mRb]) ++ [Tp.sp, Tp.mSet, Tp.sp] ++ Tp.pxs [x]) ++ [Tp.mSemi, Tp.nl]).flatten = l ++ blanks d ++ nm ++ [32, 58, 61, 32] ++ (Tp.pxs [x]).flatten ++ [59, 10] := by
        simp [tab_blanks, Tp.sp, Tp.mSet, Tp.mSemi, Tp.nl]
      rw [e] at hl ⊢
      exact addStmt_set0 a4.1 hex hb hr (by omega) hl
    · simp only at q1
      subst q1
      have hwz : Tp.WX [z] := by
        rcases a3 with a3 | a3
        · cases a3
        · exact a3.1
      have e : l ++ (Tp.tab d ++ ([nm] ++ (if ([z] : List X).isEmpty = true then [] else [Tp.mLb] ++ Tp.pxs [z] ++ [Tp.mRb]) ++ [Tp.sp, Tp.mSet, Tp.sp] ++ Tp.pxs [x]) ++ [Tp.mSemi, Tp.nl]).flatten = l ++ blanks d ++ nm ++ [91] ++ (Tp.pxs [z]).flatten ++ [93] ++ [32, 58, 61, 32] ++ (Tp.pxs [x]).flatten ++ [59, 10] := by
        simp [tab_blanks, Tp.sp, Tp.mSet, Tp.mSemi, Tp.nl, Tp.mLb, Tp.mRb]
      rw [e] at hl ⊢
      exact addStmt_set1 hwz a4.1 q3 hex hb hr (by omega) hl
  · obtain ⟨rfl, rfl, rfl, a3, a4, a5⟩ := h1
    have hds : d + 1 + max (Tp.DS th) (Tp.DS el) ≤ 500 := by rw [Tp.DS, Tp.DS] at hd; simp at hd; omega
    have e : l ++ (Tp.ps1 ⟨2, pos, [], [], [x], th, el⟩ d).flatten = l ++ blanks d ++ [105, 102, 32] ++ (Tp.pxs [x]).flatten ++ [32, 116, 104, 101, 110, 10] ++ branchB th el d ++ [59, 10] := by
      rw [Tp.ps1_2]
      unfold branchB
      by_cases he : el.isEmpty = true
      · simp [tab_blanks, he, Tp.sp, Tp.mSemi, Tp.nl, Tp.wIf, Tp.wThen, Tp.wEnd]
      · simp [tab_blanks, he, Tp.sp, Tp.mSemi, Tp.nl, Tp.wIf, Tp.wThen, Tp.wEnd, Tp.wElse]
    rw [e] at hl ⊢
    exact addStmt_if hE a3.1 hsz.1 hsz.2 a4 a5 rfl rfl hex hsv hb hr hds hl
  · obtain ⟨rfl, rfl, rfl, a3, a4, rfl⟩ := h1
    have hds : d + 1 + Tp.DS th ≤ 500 := by rw [Tp.DS, Tp.DS] at hd; simp at hd; omega
    have e : l ++ (Tp.ps1 ⟨3, pos, [], [], [x], th, []⟩ d).flatten = l ++ blanks d ++ [119, 104, 105, 108, 101, 32] ++ (Tp.pxs [x]).flatten ++ [32, 100, 111, 10] ++ (Tp.psts th (d + 1)).flatten ++ blanks d ++ [101, 110, 100] ++ [59, 10] := by
      rw [Tp.ps1_3]
      simp [tab_blanks, Tp.sp, Tp.mSemi, Tp.nl, Tp.wWhile, Tp.wDo, Tp.wEnd]
    rw [e] at hl ⊢
    obtain ⟨cs, q1, q2⟩ := hsv.th
    rcases hsv.ix with ⟨_, rfl⟩ | ⟨z, bz, q3, _, _⟩
    · exact addStmt_while hE a3.1 hsz.1 a4 hex q1 q2 hb hr hds hl
    · cases q3
  · obtain ⟨rfl, rfl, a3, rfl, rfl⟩ := h1
    rcases hsv.ix with ⟨_, rfl⟩ | ⟨z, bz, q3, _, _⟩
    · rcases hc with rfl | rfl
      · have e : l ++ (Tp.ps1 ⟨4, pos, [], [], [x], [], []⟩ d).flatten = l ++ blanks d ++ [114, 101, 116, 117, 114, 110, 32] ++ (Tp.pxs [x]).flatten ++ [59, 10] := by
          rw [Tp.ps1_4]
          simp [tab_blanks, Tp.sp, Tp.mSemi, Tp.nl, Tp.wReturn]
        rw [e] at hl ⊢
        exact addStmt_return a3.1 hex hb hr (by omega) hl
      · have e : l ++ (Tp.ps1 ⟨5, pos, [], [], [x], [], []⟩ d).flatten = l ++ blanks d ++ [119, 114, 105, 116, 101, 32] ++ (Tp.pxs [x]).flatten ++ [59, 10] := by
          rw [Tp.ps1_5]
          simp [tab_blanks, Tp.sp, Tp.mSemi, Tp.nl, Tp.wWrite]
        rw [e] at hl ⊢
        exact addStmt_write a3.1 hex hb hr (by omega) hl
    · cases q3
  · obtain ⟨rfl, rfl, rfl, a3, a4, rfl, rfl⟩ := h1
    rcases hsv.ix with ⟨_, rfl⟩ | ⟨z, bz, q3, _, _⟩
    · have e : l ++ (Tp.ps1 ⟨6, pos, [], [], [x], [], []⟩ d).flatten = l ++ blanks d ++ (Tp.pxs [x]).flatten ++ [59, 10] := by
        rw [Tp.ps1_6]
        simp [tab_blanks, Tp.mSemi, Tp.nl]
      rw [e] at hl ⊢
      exact addStmt_call a3.1 hex hb hr (by omega) hl
    · cases q3
theorem stmtW_all : ∀ N, StmtW kk N ∧ StmtsW kk N := by
  intro N
  induction N using Nat.strongRecOn with
  | _ N ih =>
    cases N with
    | zero => exact ⟨fun s h => by obtain ⟨⟩ := s; simp at h, fun ss h => by cases ss <;> simp at h⟩
    | succ n => exact ⟨stmt_of (ih n (by omega)).2, stmts_of (ih n (by omega)).1⟩
theorem addStmts_all {ss : List S} (hw : Tp.WS ss) {w : World} {B d : Nat} {sa : Option Addr} {sc : Nat} {cs : List Value} {v : Value} {l : List UInt8} (hx : RepS w (fun i => i < B) ss cs) (ho : OwnS w (fun i => i < B) (.slice sa ss.length sc) ss.length cs) (hb : Buf kk w B v l) (hr : Wr B w) (hd : d + Tp.DS ss ≤ 500) (hl : (l ++ (Tp.psts ss d).flatten).length ≤ 1000000000) :
    Calls Tryd.prog 53 #[v, .slice sa ss.length sc, .int .i64 (d : Int)] w (Wrote kk B w (l ++ (Tp.psts ss d).flatten)) :=
  (stmtW_all (SizeOf.sizeOf ss)).2 ss (Nat.le_refl _) hw w B d sa sc cs v l hx ho hb hr hd hl
end Go.Proofs.YthkdefhngkangaaDoor
/- Writing a module's VARs: strings.Join, strconv.Itoa, addGlobal. -/
namespace Go.Proofs.YthkdefhngkangaaDoor
open Go.RowKit
variable {kk : Nat → Prop}
open Tp (X S G Pr)

theorem join_commas : ∀ is : List (List UInt8), Lib.join is [44, 32] = (Tp.pnames is).flatten := by
  intro is
  induction is with
  | nil => rfl
  | cons x r ih =>
    cases r with
    | nil => rw [Lib.join_one]; simp [Tp.pnames, Tp.commas]
    | cons y r =>
      have e : Lib.join (x :: y :: r) [44, 32] = x ++ [44, 32] ++ Lib.join (y :: r) [44, 32] := by
        simp [Lib.join, List.intercalate]
      rw [e, ih]
      simp [Tp.pnames, Tp.commas, Tp.mComma, Tp.sp]
theorem join_post {w : World} {B : Nat} {is : List (List UInt8)} {a : Option Addr} {c : Nat} (h : Row w (fun i => i < B) 9 1 (.slice a is.length c) is.length (strs is)) (hl : (Tp.pnames is).flatten.length ≤ 1000000000) (hn : is.length ≤ 1000000000) :
    Calls Tryd.prog 50 #[.slice a is.length c, .string ⟨#[44, 32]⟩] w fun e w' => e = .returned (.string (bs (Tp.pnames is).flatten)) ∧ Below w.heap.size w w' := by
  rcases h with ⟨h1, h2, h3⟩ | ⟨g, cap, cur, h1, h2, h3, h4, h5, h6, h7⟩
  · have e : is = [] := List.eq_nil_of_length_eq_zero h2
    subst e
    refine (Any.strings_Join_none Tryd.laysJoin Tryd.extraJoin a c ⟨#[44, 32]⟩ w).mono ?_
    rintro e w' ⟨rfl, rfl⟩
    exact ⟨rfl, Below.refl _ _⟩
  · cases h1
    have hsz : is.length ≤ cur.size := by omega
    have e1 : (is.map bs).map (fun x : ByteArray => x.data.toList) = is := by
      rw [List.map_map]
      conv => rhs; rw [← List.map_id is]
      apply List.map_congr_left
      intro x _
      simp [bs]
    have hc := Any.strings_Join Tryd.laysJoin Tryd.extraJoin g 0 c (is.map bs) ⟨#[44, 32]⟩ w ?c1 (lt_blk h3) (by simp; omega) (by simpa using h4) (by rw [e1]; show (Lib.join is [44, 32]).length ≤ _; rw [join_commas]; omega)
    case c1 =>
      intro j x hj
      rw [cell_blk h3, Nat.zero_add]
      have hjl : j < is.length := by
        have := (List.getElem?_eq_some_iff.1 hj).1
        simpa using this
      rw [← Array.getElem?_toList]
      have : (cur.toList.take (is.length * 1))[j]? = (strs is)[j]? := by rw [h7]
      rw [List.getElem?_take_of_lt (by omega)] at this
      rw [this]
      simp only [List.getElem?_map] at hj
      simp [strs]
      rw [Option.map_eq_some_iff] at hj
      obtain ⟨y, hy, rfl⟩ := hj
      exact ⟨y, hy, rfl⟩
    rw [e1, List.length_map] at hc
    have e2 : (⟨#[44, 32]⟩ : ByteArray).data.toList = [44, 32] := rfl
    rw [e2, join_commas] at hc
    exact hc
theorem itoa_post (w : World) (i : Nat) (hi : i < 100) : Calls Tryd.prog 54 #[.int .i64 (i : Int)] w fun e w' => e = .returned (.string (bs (Tp.dec i))) ∧ w' = w := by
  have h := Any.strconv_Itoa_small Tryd.laysItoa i hi w
  have e : Tp.dec i = Lib.decDigits i := by rw [dec_itoa, Lib.itoa_nonneg]
  rw [e]
  exact h
theorem addAllN {w : World} {B : Nat} {v : Value} {l : List UInt8} (h : Buf kk w B v l) (ss : List (List UInt8)) (hn : ss.length ≤ 1000) (hl : (l ++ ss.flatten).length ≤ 1000000000) :
    Calls Tryd.prog 49 #[v, .slice (some ⟨w.heap.size, 0, none⟩) ss.length ss.length] (w.alloc (.cells (ss.map fun s => Value.string (bs s)).toArray 9)) (Wrote kk B w (l ++ ss.flatten)) := by
  have hk : Below w.heap.size w (w.alloc (.cells (ss.map fun s => Value.string (bs s)).toArray 9)) := (Below.refl _ _).alloc (Nat.le_refl _) _
  refine (addAll_post (h.below hk) ss w.heap.size ss.length (new_blk _ _) hn hl).mono ?_
  rintro e w' ⟨v', h1, h2, h3⟩
  exact ⟨v', h1, h2, (Bw.of (kk := kk) hk h.2).trans h3⟩
end Go.Proofs.YthkdefhngkangaaDoor
/- Writing a VAR: addGlobal. -/
namespace Go.Proofs.YthkdefhngkangaaDoor
open Go.RowKit
variable {kk : Nat → Prop}
open Tp (X S G Pr)

theorem cell_box4 {w : World} {b : Nat} {v0 v1 v2 v3 : Value} {t : TypeId} (h : w.heap[b]? = some (.cells #[v0, v1, v2, v3] t (0, 0))) : w.cell? ⟨b, 0, none⟩ = some v0 ∧ w.cell? ⟨b, 2, none⟩ = some v2 ∧ w.cell? ⟨b, 3, none⟩ = some v3 :=
  ⟨(cell_blk h).trans rfl, (cell_blk h).trans rfl, (cell_blk h).trans rfl⟩
theorem pg_flat (g : G) : (Tp.pg g).flatten = [118, 97, 114, 32] ++ g.name ++ (Tp.star g.seen).flatten ++ [58, 32] ++ (if g.len = 0 then [105, 110, 116, 59, 10] else [97, 114, 114, 97, 121, 32] ++ Tp.dec g.len ++ [59, 10]) := by
  unfold Tp.pg
  by_cases h : g.len = 0 <;> simp [h, Tp.wVar, Tp.sp, Tp.mColon, Tp.wInt, Tp.wArray, Tp.mSemi, Tp.nl]
set_option maxRecDepth 100000 in
set_option maxHeartbeats 2000000 in
theorem addGlobal_post (g : G) (hg : g.len ≤ 30) {w : World} {B : Nat} {v : Value} {l : List UInt8} (hb : Buf kk w B v l) (hl : (l ++ (Tp.pg g).flatten).length ≤ 1000000000) :
    Calls Tryd.prog 51 #[v, .agg #[.string (bs g.name), .int .i64 (g.pos : Int), .int .i64 (g.len : Int), .bool g.seen]] w (Wrote kk B w (l ++ (Tp.pg g).flatten)) := by
  obtain ⟨nm, pos, len, seen⟩ := g
  simp only at hg
  rw [pg_flat] at hl ⊢
  simp only at hl ⊢
  have hstar := fun W => star_any W seen
  obtain ⟨st, hst⟩ : ∃ st, st = (Tp.star seen).flatten := ⟨_, rfl⟩
  rw [← hst] at hl ⊢ hstar
  clear hst
  obtain ⟨tl, htl⟩ : ∃ tl, tl = (if len = 0 then [105, 110, 116, 59, 10] else [97, 114, 114, 97, 121, 32] ++ Tp.dec len ++ [59, 10] : List UInt8) := ⟨_, rfl⟩
  rw [← htl] at hl ⊢
  have HTL : Hid (tl = (if len = 0 then [105, 110, 116, 59, 10] else [97, 114, 114, 97, 121, 32] ++ Tp.dec len ++ [59, 10] : List UInt8)) := htl
  obtain ⟨m1, hm1⟩ : ∃ m1, m1 = l ++ ([[118, 97, 114, 32], nm, st, [58, 32]] : List (List UInt8)).flatten := ⟨_, rfl⟩
  obtain ⟨mf, hmf⟩ : ∃ mf, mf = l ++ ([118, 97, 114, 32] ++ nm ++ st ++ [58, 32] ++ tl) := ⟨_, rfl⟩
  have e1 : mf = m1 ++ tl := by rw [hmf, hm1]; simp
  rw [← hmf] at hl ⊢
  have hl1 : m1.length ≤ 1000000000 := by rw [e1, List.length_append] at hl; omega
  have hal : ∀ ob, Below w.heap.size w (w.alloc ob) := fun ob => (Below.refl _ _).alloc (Nat.le_refl _) _
  have hD : ∀ o1 o2, Below w.heap.size w ((w.alloc o1).alloc o2).drew := fun o1 o2 => ((hal o1).alloc (by simp) _).drew
  have HBW : Hid (∀ o1 o2, Bw kk B w ((w.alloc o1).alloc o2).drew) := fun o1 o2 => Bw.of (kk := kk) (hD o1 o2) hb.2
  have hA := addAll_post (hb.below (hD (.cells #[.string (bs nm), .int .i64 (pos : Int), .int .i64 (len : Int), .bool seen] 41) (.cells #[.string ⟨#[118, 97, 114, 32]⟩, .string (bs nm), .string (bs st), .string ⟨#[58, 32]⟩] 9))) [[118, 97, 114, 32], nm, st, [58, 32]] (w.heap.size + 1) 4 (new_blk1 _ _ _) (by simp) (by rw [← hm1]; exact hl1)
  rw [← hm1] at hA
  have HA : Hid (Calls Tryd.prog 49 #[v, .slice (some ⟨w.heap.size + 1, 0, none⟩) 4 4] ((w.alloc (.cells #[.string (bs nm), .int .i64 (pos : Int), .int .i64 (len : Int), .bool seen] 41)).alloc (.cells #[.string ⟨#[118, 97, 114, 32]⟩, .string (bs nm), .string (bs st), .string ⟨#[58, 32]⟩] 9)).drew (Wrote kk B ((w.alloc (.cells #[.string (bs nm), .int .i64 (pos : Int), .int .i64 (len : Int), .bool seen] 41)).alloc (.cells #[.string ⟨#[118, 97, 114, 32]⟩, .string (bs nm), .string (bs st), .string ⟨#[58, 32]⟩] 9)).drew m1)) := hA
  have HS : Hid (∀ W, Calls Tryd.prog 68 #[.bool seen] W fun e w' => e = .returned (.string (bs st)) ∧ w' = W) := hstar
  have HE1 : Hid (mf = m1 ++ tl) := e1
  have HL : Hid (mf.length ≤ 1000000000) := hl
  clear hA hstar hm1 hmf e1 hal hb hl htl
  have hblk : (w.alloc (.cells #[.string (bs nm), .int .i64 (pos : Int), .int .i64 (len : Int), .bool seen] 41)).heap[w.heap.size]? = some (.cells #[.string (bs nm), .int .i64 (pos : Int), .int .i64 (len : Int), .bool seen] 41 (0, 0)) := new_blk _ _
  obtain ⟨k0, k2, k3⟩ := cell_box4 hblk
  have HK : Hid (((w.alloc (.cells #[.string (bs nm), .int .i64 (pos : Int), .int .i64 (len : Int), .bool seen] 41)).alloc (.cells #[.string ⟨#[118, 97, 114, 32]⟩, .string (bs nm), .string (bs st), .string ⟨#[58, 32]⟩] 9)).drew.heap[w.heap.size]? = some (.cells #[.string (bs nm), .int .i64 (pos : Int), .int .i64 (len : Int), .bool seen] 41 (0, 0))) := (Below.heap_alloc (w.alloc (.cells #[.string (bs nm), .int .i64 (pos : Int), .int .i64 (len : Int), .bool seen] 41)) _ w.heap.size (by simp)).trans hblk
  obtain ⟨j0, j2, j3⟩ := cell_box4 HK.out
  clear hblk
  go_enter Tryd.func51, Tryd.ntmps51
  go_wp2_with fail
  go_region_held3 (fun w' => w'.cell? ⟨w.heap.size, 0, none⟩ = some (.string (bs nm)) ∧ w'.cell? ⟨w.heap.size, 3, none⟩ = some (.bool seen)) (first | (exact ⟨k0, k3⟩) | (exact ⟨j0, j3⟩) | (exact ⟨q0, q3⟩)) (first | (go_at_call 68; refine (HS.out _).mono ?_; rintro e w2 ⟨rfl, rfl⟩) | (go_at_call 49; refine HA.out.mono ?_; rintro e w3 ⟨v3, rfl, hbuf3, hbel3⟩; have hblk3 := hbel3.keeps HK.out (by decide); have hB3 := (HBW.out _ _).trans hbel3; obtain ⟨q0, q2, q3⟩ := cell_box4 hblk3))
  clear HK HA HS k0 k2 k3 j0 j2 j3 q0 q3 HBW
  by_cases h0 : len = 0
  · subst h0
    have e : tl = [105, 110, 116, 59, 10] := HTL.out
    have hcall := addAll1 hbuf3 [105, 110, 116, 59, 10] (by rw [← e, ← HE1.out]; exact HL.out)
    rw [← e, ← HE1.out] at hcall
    have HA2 : Hid (Calls Tryd.prog 49 #[v3, .slice (some ⟨w3.heap.size, 0, none⟩) 1 1] (w3.alloc (.cells #[.string ⟨#[105, 110, 116, 59, 10]⟩] 9)) (Wrote kk B w3 mf)) := by rw [e] at hcall; exact hcall
    have HB3 : Hid (Bw kk B w w3) := hB3
    have q2' : w3.cell? ⟨w.heap.size, 2, none⟩ = some (.int .i64 0) := q2
    have hlt := lt_blk hblk3
    clear hcall hbuf3 hbel3 hblk3 q2 hB3
    go_wp2_with fail
    refine HA2.out.mono ?_
    rintro e w4 ⟨v4, rfl, hbuf4, hbel4⟩
    have HB : Hid (Buf kk w4 B v4 mf) := hbuf4
    clear hbuf4
    go_wp2_with fail
    go_ret
    exact ⟨_, rfl, HB.out, HB3.out.trans hbel4⟩
  · have e : tl = [97, 114, 114, 97, 121, 32] ++ Tp.dec len ++ [59, 10] := by rw [HTL.out, if_neg h0]
    obtain ⟨ds, hds⟩ : ∃ ds, ds = Tp.dec len := ⟨_, rfl⟩
    have hit := fun W => itoa_post W len (by omega)
    rw [← hds] at e hit
    have hcall := addAllN hbuf3 [[97, 114, 114, 97, 121, 32], ds, [59, 10]] (by simp) (by have := HL.out; rw [HE1.out, e] at this; simpa using this)
    have e2 : m1 ++ ([[97, 114, 114, 97, 121, 32], ds, [59, 10]] : List (List UInt8)).flatten = mf := by rw [HE1.out, e]; simp
    rw [e2] at hcall
    have HA2 : Hid (Calls Tryd.prog 49 #[v3, .slice (some ⟨w3.heap.size, 0, none⟩) 3 3] (w3.alloc (.cells #[.string ⟨#[97, 114, 114, 97, 121, 32]⟩, .string (bs ds), .string ⟨#[59, 10]⟩] 9)) (Wrote kk B w3 mf)) := hcall
    have HI : Hid (∀ W, Calls Tryd.prog 54 #[.int .i64 (len : Int)] W fun e w' => e = .returned (.string (bs ds)) ∧ w' = W) := hit
    have HB3 : Hid (Bw kk B w w3) := hB3
    have hlt := lt_blk hblk3
    have hne : (len : Int) ≠ 0 := by omega
    clear hcall hbuf3 hbel3 hblk3 hB3 hit e e2 hds
    go_wp2_with (first | (go_at_call 54; refine (HI.out _).mono ?_; rintro e w4 ⟨rfl, rfl⟩) | (go_at_call 49; refine HA2.out.mono ?_; rintro e w5 ⟨v5, rfl, hbuf5, hbel5⟩))
    have HB : Hid (Buf kk w5 B v5 mf) := hbuf5
    have HBB := Lib.hid hbel5
    clear hbuf5 hbel5
    go_wp2_with fail
    go_ret
    exact ⟨_, rfl, HB.out, HB3.out.trans HBB.out⟩
end Go.Proofs.YthkdefhngkangaaDoor
