import Derived.Test.YthkdefhngkangaaDoorKWR
/- Writing a STMT: while, if. -/
namespace Go.Proofs.YthkdefhngkangaaDoor
open Go.RowKit
variable {kk : Nat → Prop}
open Tp (X S)

/- a text that is being written while a STMT lies in its box -/
structure FX (kk : Nat → Prop) (B : Nat) (w0 : World) (bx : Nat) (v0 v1 v2 v3 v4 v5 v6 : Value) (W : World) (v : Value) (m : List UInt8) : Prop where
  buf : Buf kk W B v m
  bw : Bw kk B w0 W
  box : W.heap[bx]? = some (.cells #[v0, v1, v2, v3, v4, v5, v6] 110 (0, 0))
theorem FX.c4 {B : Nat} {w0 : World} {bx : Nat} {v0 v1 v2 v3 v4 v5 v6 : Value} {W : World} {v : Value} {m : List UInt8} (h : FX kk B w0 bx v0 v1 v2 v3 v4 v5 v6 W v m) : W.cell? ⟨bx, 4, none⟩ = some v4 := (cell_box h.box).2.2.2.1
theorem FX.c3 {B : Nat} {w0 : World} {bx : Nat} {v0 v1 v2 v3 v4 v5 v6 : Value} {W : World} {v : Value} {m : List UInt8} (h : FX kk B w0 bx v0 v1 v2 v3 v4 v5 v6 W v m) : W.cell? ⟨bx, 3, none⟩ = some v3 := (cell_box h.box).2.2.1
theorem FX.old {B : Nat} {w0 : World} {bx : Nat} {v0 v1 v2 v3 v4 v5 v6 : Value} {W W' : World} {v : Value} {m : List UInt8} (h : FX kk B w0 bx v0 v1 v2 v3 v4 v5 v6 W v m) (k : Below W.heap.size W W') : FX kk B w0 bx v0 v1 v2 v3 v4 v5 v6 W' v m :=
  ⟨h.buf.below k, h.bw.trans (Bw.of k h.buf.2), (k.block bx (lt_blk h.box)).trans h.box⟩
theorem FX.alloc {B : Nat} {w0 : World} {bx : Nat} {v0 v1 v2 v3 v4 v5 v6 : Value} {W : World} {v : Value} {m : List UInt8} (h : FX kk B w0 bx v0 v1 v2 v3 v4 v5 v6 W v m) (ob : Obj) : FX kk B w0 bx v0 v1 v2 v3 v4 v5 v6 (W.alloc ob) v m := h.old ((Below.refl _ _).alloc (Nat.le_refl _) _)
theorem FX.after {B : Nat} {w0 : World} {bx : Nat} {v0 v1 v2 v3 v4 v5 v6 : Value} {W W' : World} {v v' : Value} {m m' : List UInt8} (h : FX kk B w0 bx v0 v1 v2 v3 v4 v5 v6 W v m) (hb : Buf kk W' B v' m') (hw : Bw kk B W W') : FX kk B w0 bx v0 v1 v2 v3 v4 v5 v6 W' v' m' := ⟨hb, h.bw.trans hw, hw.keeps h.box (by decide)⟩
theorem FX.dr {B : Nat} {w0 : World} {bx : Nat} {v0 v1 v2 v3 v4 v5 v6 : Value} {W : World} {v : Value} {m : List UInt8} (h : FX kk B w0 bx v0 v1 v2 v3 v4 v5 v6 W v m) : FX kk B w0 bx v0 v1 v2 v3 v4 v5 v6 W.drew v m := h.old (below_drew W)
def SB (W : World) (sb : Nat) (x : ByteArray) : Prop := W.heap[sb]? = some (.cells #[.string x] 9 (0, 0))
theorem SB.new (W : World) (x : ByteArray) (n : Nat) (hn : n = W.heap.size) : SB (W.alloc (.cells #[.string x] 9)) n x := by subst hn; exact new_blk _ _
theorem SB.alloc {W : World} {sb : Nat} {x : ByteArray} (h : SB W sb x) (ob : Obj) : SB (W.alloc ob) sb x := (Below.heap_alloc W ob sb (lt_blk h)).trans h
theorem SB.dr {W : World} {sb : Nat} {x : ByteArray} (h : SB W sb x) : SB W.drew sb x := h
theorem SB.on {W W' : World} {B sb : Nat} {x : ByteArray} (h : SB W sb x) (k : Bw kk B W W') : SB W' sb x := k.keeps h (by decide)
theorem FX.all {B : Nat} {w0 : World} {bx : Nat} {v0 v1 v2 v3 v4 v5 v6 : Value} {W : World} {v : Value} {m : List UInt8} (h : FX kk B w0 bx v0 v1 v2 v3 v4 v5 v6 W v m) {sb : Nat} {x : ByteArray} {s : List UInt8} (hs : SB W sb x) (hx : Hid (x = bs s)) (hl : Hid ((m ++ s).length ≤ 1000000000)) :
    Calls Tryd.prog 49 #[v, .slice (some ⟨sb, 0, none⟩) 1 1] W fun e w' => ∃ v', e = .returned v' ∧ FX kk B w0 bx v0 v1 v2 v3 v4 v5 v6 w' v' (m ++ s) ∧ Bw kk B W w' := by
  have := addAll_post h.buf [s] sb 1 (by rw [hx.out] at hs; exact hs) (by simp) (by simpa using hl.out)
  refine this.mono ?_
  rintro e w' ⟨v', h1, h2, h3⟩
  exact ⟨v', h1, h.after (by simpa using h2) h3, h3⟩
theorem FX.ex {B : Nat} {w0 : World} {bx : Nat} {v0 v1 v2 v3 v4 v5 v6 : Value} {W : World} {v : Value} {m : List UInt8} (h : FX kk B w0 bx v0 v1 v2 v3 v4 v5 v6 W v m) {y : X} {b : Nat} (hw : Tp.WX [y]) (hx : Hid (Ex1 w0 B y b)) (hr : Hid (Wr B w0)) (hl : Hid ((m ++ (Tp.pxs [y]).flatten).length ≤ 1000000000)) :
    Calls Tryd.prog 82 #[v, .pointer (some ⟨b, 0, none⟩)] W fun e w' => ∃ v', e = .returned v' ∧ FX kk B w0 bx v0 v1 v2 v3 v4 v5 v6 w' v' (m ++ (Tp.pxs [y]).flatten) ∧ Bw kk B W w' := by
  refine (addExpr_all _ y (Nat.le_refl _) hw W B b v m (hx.out.on h.bw) h.buf (hr.out.on h.bw) hl.out).mono ?_
  rintro e w' ⟨v', h1, h2, h3⟩
  exact ⟨v', h1, h.after h2 h3, h3⟩
set_option maxRecDepth 100000 in
set_option maxHeartbeats 4000000 in
theorem addStmt_while {N : Nat} (hE : StmtsW kk N) {pos d : Nat} {y : X} (hw : Tp.WX [y]) {th : List S} (hs : SizeOf.sizeOf th ≤ N) (hwt : Tp.WS th) {w : World} {B bx : Nat} {ta ea : Option Addr} {tc ec : Nat} {v : Value} {l : List UInt8} {cs : List Value} (hx : Ex1 w B y bx) (ht1 : RepS w (fun i => i < B) th cs) (ht2 : OwnS w (fun i => i < B) (.slice ta th.length tc) th.length cs) (hb : Buf kk w B v l) (hr : Wr B w) (hd : d + 1 + Tp.DS th ≤ 500) (hl : (l ++ blanks d ++ [119, 104, 105, 108, 101, 32] ++ (Tp.pxs [y]).flatten ++ [32, 100, 111, 10] ++ (Tp.psts th (d + 1)).flatten ++ blanks d ++ [101, 110, 100] ++ [59, 10]).length ≤ 1000000000) :
    Calls Tryd.prog 69 #[v, .agg #[.int .i64 3, .int .i64 (pos : Int), .string ⟨#[]⟩, .pointer none, .pointer (some ⟨bx, 0, none⟩), .slice ta th.length tc, .slice ea 0 ec], .int .i64 (d : Int)] w (Wrote kk B w (l ++ blanks d ++ [119, 104, 105, 108, 101, 32] ++ (Tp.pxs [y]).flatten ++ [32, 100, 111, 10] ++ (Tp.psts th (d + 1)).flatten ++ blanks d ++ [101, 110, 100] ++ [59, 10])) := by
  have hd' : (d : Int) ≤ 500 := by omega
  have hal : ∀ ob, Below w.heap.size w (w.alloc ob) := fun ob => (Below.refl _ _).alloc (Nat.le_refl _) _
  have HBW : Hid (∀ ob, Bw kk B w (w.alloc ob)) := fun ob => Bw.of (kk := kk) (hal ob) hb.2
  have HC : Hid (∀ ob, Calls Tryd.prog 81 #[v, .int .i64 (d : Int)] (w.alloc ob) (Wrote kk B (w.alloc ob) (l ++ blanks d))) := fun ob => addBlanks_post (hb.below (hal ob)) d (by omega) (by simp only [List.length_append] at hl; omega)
  have HL : Hid ((l ++ blanks d ++ [119, 104, 105, 108, 101, 32] ++ (Tp.pxs [y]).flatten ++ [32, 100, 111, 10] ++ (Tp.psts th (d + 1)).flatten ++ blanks d ++ [101, 110, 100] ++ [59, 10]).length ≤ 1000000000) := hl
  have HR : Hid (Wr B w) := hr
  obtain ⟨mf, hmf⟩ : ∃ mf, mf = l ++ blanks d ++ [119, 104, 105, 108, 101, 32] ++ (Tp.pxs [y]).flatten ++ [32, 100, 111, 10] ++ (Tp.psts th (d + 1)).flatten ++ blanks d ++ [101, 110, 100] ++ [59, 10] := ⟨_, rfl⟩
  rw [← hmf]
  have HMF : Hid (mf = l ++ blanks d ++ [119, 104, 105, 108, 101, 32] ++ (Tp.pxs [y]).flatten ++ [32, 100, 111, 10] ++ (Tp.psts th (d + 1)).flatten ++ blanks d ++ [101, 110, 100] ++ [59, 10]) := hmf
  have HX : Hid (Ex1 w B y bx) := hx
  have HTT : Hid (∀ W v' m, Bw kk B w W → Buf kk W B v' m → (m ++ (Tp.psts th (d + 1)).flatten ++ blanks d ++ [101, 110, 100]).length ≤ 1000000000 → Calls Tryd.prog 83 #[v', .slice ta th.length tc, .int .i64 (d : Int)] W (Wrote kk B W (m ++ (Tp.psts th (d + 1)).flatten ++ blanks d ++ [101, 110, 100]))) := fun W v' m hW hB hlm => addBlock_post hE hs hwt (reps_on ht1 hW) (owns_on ht2 hW) hB (hr.on hW) hd hlm
  clear hmf hl hx hr hal hb ht1 ht2
  generalize th.length = tn at *
  go_enter Tryd.func69, Tryd.ntmps69
  go_wp2_with fail
  refine (HC.out _).mono ?_
  rintro e w3 ⟨v3, rfl, hbuf3, hbel3⟩
  have hblk : (w.alloc (.cells #[.int .i64 3, .int .i64 (pos : Int), .string ⟨#[]⟩, .pointer none, .pointer (some ⟨bx, 0, none⟩), .slice ta tn tc, .slice ea 0 ec] 110)).heap[w.heap.size]? = some (.cells #[.int .i64 3, .int .i64 (pos : Int), .string ⟨#[]⟩, .pointer none, .pointer (some ⟨bx, 0, none⟩), .slice ta tn tc, .slice ea 0 ec] 110 (0, 0)) := new_blk _ _
  have F3 : FX kk B w w.heap.size (.int .i64 3) (.int .i64 (pos : Int)) (.string ⟨#[]⟩) (.pointer none) (.pointer (some ⟨bx, 0, none⟩)) (.slice ta tn tc) (.slice ea 0 ec) w3 v3 (l ++ blanks d) := ⟨hbuf3, (HBW.out _).trans hbel3, hbel3.keeps hblk (by decide)⟩
  obtain ⟨k0, k2, k3, k4, k5, k6⟩ := cell_box F3.box
  have hlt3 := lt_blk F3.box
  clear hblk hbuf3 hbel3
  have D3 : Hid (FX kk B w w.heap.size (.int .i64 3) (.int .i64 (pos : Int)) (.string ⟨#[]⟩) (.pointer none) (.pointer (some ⟨bx, 0, none⟩)) (.slice ta tn tc) (.slice ea 0 ec) w3.drew v3 (l ++ blanks d)) := F3.old (below_drew w3)
  have H3 : Hid (FX kk B w w.heap.size (.int .i64 3) (.int .i64 (pos : Int)) (.string ⟨#[]⟩) (.pointer none) (.pointer (some ⟨bx, 0, none⟩)) (.slice ta tn tc) (.slice ea 0 ec) w3 v3 (l ++ blanks d)) := F3
  clear F3 k2 k3 k5 k6
  have L1 : Hid ((l ++ blanks d ++ [119, 104, 105, 108, 101, 32]).length ≤ 1000000000) := by have := HL.out; unfold Hid; simp only [List.length_append] at this ⊢; omega
  have L2 : Hid ((l ++ blanks d ++ [119, 104, 105, 108, 101, 32] ++ (Tp.pxs [y]).flatten).length ≤ 1000000000) := by have := HL.out; unfold Hid; simp only [List.length_append] at this ⊢; omega
  have L3 : Hid ((l ++ blanks d ++ [119, 104, 105, 108, 101, 32] ++ (Tp.pxs [y]).flatten ++ [32, 100, 111, 10]).length ≤ 1000000000) := by have := HL.out; unfold Hid; simp only [List.length_append] at this ⊢; omega
  have X1 : Hid ((⟨#[119, 104, 105, 108, 101, 32]⟩ : ByteArray) = bs [119, 104, 105, 108, 101, 32]) := rfl
  have X2 : Hid ((⟨#[32, 100, 111, 10]⟩ : ByteArray) = bs [32, 100, 111, 10]) := rfl
  go_wp2_with fail
  go_region_held3 (fun w' => w'.cell? ⟨w.heap.size, 4, none⟩ = some (.pointer (some ⟨bx, 0, none⟩))) (with_reducible (first | exact k4 | exact D3.out.c4 | exact (H3.out.alloc _).dr.c4 | exact ((H3.out.alloc _).alloc _).dr.c4 | exact (D3.out.alloc _).c4 | exact ((D3.out.alloc _).alloc _).c4 | exact H5.out.c4 | exact (H5.out.alloc _).c4 | exact H6.out.c4 | exact (H6.out.alloc _).c4 | exact H7.out.c4)) (first | (go_at_call 82; refine Calls.mono (FX.ex (kk := kk) (B := B) (w0 := w) (bx := w.heap.size) (v0 := .int .i64 3) (v1 := .int .i64 (pos : Int)) (v2 := .string ⟨#[]⟩) (v3 := .pointer none) (v4 := .pointer (some ⟨bx, 0, none⟩)) (v5 := .slice ta tn tc) (v6 := .slice ea 0 ec) (m := l ++ blanks d ++ [119, 104, 105, 108, 101, 32]) (y := y) ?f hw HX HR L2) ?_; (case f => with_reducible (first | exact H5.out | exact H5.out.alloc _)); rintro e w6 ⟨v6, rfl, f6, b6⟩; have H6 : Hid (FX kk B w w.heap.size (.int .i64 3) (.int .i64 (pos : Int)) (.string ⟨#[]⟩) (.pointer none) (.pointer (some ⟨bx, 0, none⟩)) (.slice ta tn tc) (.slice ea 0 ec) w6 v6 (l ++ blanks d ++ [119, 104, 105, 108, 101, 32] ++ (Tp.pxs [y]).flatten)) := f6; have T6 := fun sb x (h : SB _ sb x) => SB.on h b6; clear f6 b6) | (go_at_call 49; have _g := H6; refine Calls.mono (FX.all (kk := kk) (B := B) (w0 := w) (bx := w.heap.size) (v0 := .int .i64 3) (v1 := .int .i64 (pos : Int)) (v2 := .string ⟨#[]⟩) (v3 := .pointer none) (v4 := .pointer (some ⟨bx, 0, none⟩)) (v5 := .slice ta tn tc) (v6 := .slice ea 0 ec) (m := l ++ blanks d ++ [119, 104, 105, 108, 101, 32] ++ (Tp.pxs [y]).flatten) (s := [32, 100, 111, 10]) ?f ?sb X2 L3) ?_; (case f => with_reducible (first | exact H6.out | exact H6.out.alloc _)); (case sb => with_reducible (first | exact SB.new _ _ _ rfl | exact T6 _ _ (SB.new _ _ _ rfl) | exact T6 _ _ (T5 _ _ (SB.new _ _ _ rfl).dr) | exact T6 _ _ (T5 _ _ (SB.new _ _ _ (by simp)).dr) | exact T6 _ _ (T5 _ _ ((SB.new _ _ _ rfl).alloc _).dr))); rintro e w7 ⟨v7, rfl, f7, b7⟩; have H7 : Hid (FX kk B w w.heap.size (.int .i64 3) (.int .i64 (pos : Int)) (.string ⟨#[]⟩) (.pointer none) (.pointer (some ⟨bx, 0, none⟩)) (.slice ta tn tc) (.slice ea 0 ec) w7 v7 (l ++ blanks d ++ [119, 104, 105, 108, 101, 32] ++ (Tp.pxs [y]).flatten ++ [32, 100, 111, 10])) := f7; clear f7 b7 _g) | (go_at_call 49; refine Calls.mono (FX.all (kk := kk) (B := B) (w0 := w) (bx := w.heap.size) (v0 := .int .i64 3) (v1 := .int .i64 (pos : Int)) (v2 := .string ⟨#[]⟩) (v3 := .pointer none) (v4 := .pointer (some ⟨bx, 0, none⟩)) (v5 := .slice ta tn tc) (v6 := .slice ea 0 ec) (m := l ++ blanks d) (s := [119, 104, 105, 108, 101, 32]) ?f ?sb X1 L1) ?_; (case f => with_reducible (first | exact (H3.out.alloc _).dr | exact ((H3.out.alloc _).alloc _).dr | exact D3.out.alloc _ | exact (D3.out.alloc _).alloc _)); (case sb => with_reducible (first | exact (SB.new _ _ _ rfl).dr | exact (SB.new _ _ _ (by simp)).dr | exact ((SB.new _ _ _ rfl).alloc _).dr | exact ((SB.new _ _ _ (by simp)).alloc _).dr)); rintro e w5 ⟨v5, rfl, f5, b5⟩; have H5 : Hid (FX kk B w w.heap.size (.int .i64 3) (.int .i64 (pos : Int)) (.string ⟨#[]⟩) (.pointer none) (.pointer (some ⟨bx, 0, none⟩)) (.slice ta tn tc) (.slice ea 0 ec) w5 v5 (l ++ blanks d ++ [119, 104, 105, 108, 101, 32])) := f5; have T5 := fun sb x (h : SB _ sb x) => SB.on h b5; clear f5 b5))
  all_goals
    obtain ⟨j0, j2, j3, j4, j5, j6⟩ := cell_box H7.out.box
    have hlt7 := lt_blk H7.out.box
    have j1 : w7.cell? ⟨w.heap.size, 1, none⟩ = some (.int .i64 (pos : Int)) := (cell_blk H7.out.box).trans rfl
    have hcall := HTT.out w7 v7 _ H7.out.bw H7.out.buf (by have := HL.out; simp only [List.length_append] at this ⊢; omega)
    have HT9 : Hid (Calls Tryd.prog 83 #[v7, .slice ta tn tc, .int .i64 (d : Int)] w7 (Wrote kk B w7 (l ++ blanks d ++ [119, 104, 105, 108, 101, 32] ++ (Tp.pxs [y]).flatten ++ [32, 100, 111, 10] ++ (Tp.psts th (d + 1)).flatten ++ blanks d ++ [101, 110, 100]))) := hcall
    clear hcall
    go_wp2_with fail
    refine HT9.out.mono ?_
    rintro e wZ ⟨vZ, rfl, hbufZ, hbelZ⟩
    have hBZ := H7.out.bw.trans hbelZ
    have hcall := addAll1 hbufZ [59, 10] (by have := HL.out; simp only [List.length_append] at this ⊢; omega)
    rw [show l ++ blanks d ++ [119, 104, 105, 108, 101, 32] ++ (Tp.pxs [y]).flatten ++ [32, 100, 111, 10] ++ (Tp.psts th (d + 1)).flatten ++ blanks d ++ [101, 110, 100] ++ [59, 10] = mf from HMF.out.symm] at hcall
    have HA9 : Hid (Calls Tryd.prog 49 #[vZ, .slice (some ⟨wZ.heap.size, 0, none⟩) 1 1] (wZ.alloc (.cells #[.string ⟨#[59, 10]⟩] 9)) (Wrote kk B wZ mf)) := hcall
    clear hcall hbufZ
    go_wp2_with fail
    refine HA9.out.mono ?_
    rintro e w9 ⟨v9, rfl, hbuf9, hbel9⟩
    have HB : Hid (Buf kk w9 B v9 mf) := hbuf9
    have HBB : Hid (Bw kk B w w9) := hBZ.trans hbel9
    clear hbuf9
    go_wp2_with fail
    go_ret
    exact ⟨_, rfl, HB.out, HBB.out⟩
end Go.Proofs.YthkdefhngkangaaDoor
/- Writing a STMT: while, if. -/
namespace Go.Proofs.YthkdefhngkangaaDoor
open Go.RowKit
variable {kk : Nat → Prop}
open Tp (X S)

set_option maxRecDepth 100000 in
set_option maxHeartbeats 4000000 in
theorem addStmt_if {N : Nat} (hE : StmtsW kk N) {d : Nat} {y : X} (hw : Tp.WX [y]) {s : S} (hs : SizeOf.sizeOf s.thn ≤ N) (hs2 : SizeOf.sizeOf s.els ≤ N) (hwt : Tp.WS s.thn) (hwe : Tp.WS s.els) (hcode : s.code = 2) {w : World} {B bx : Nat} {ia va ta ea : Option Addr} {tc ec : Nat} {v : Value} {l : List UInt8} (hva : va = some ⟨bx, 0, none⟩) (hx : Ex1 w B y bx) (hsv : SV w B s ia va ta ea tc ec) (hb : Buf kk w B v l) (hr : Wr B w) (hd : d + 1 + max (Tp.DS s.thn) (Tp.DS s.els) ≤ 500) (hl : (l ++ blanks d ++ [105, 102, 32] ++ (Tp.pxs [y]).flatten ++ [32, 116, 104, 101, 110, 10] ++ branchB s.thn s.els d ++ [59, 10]).length ≤ 1000000000) :
    Calls Tryd.prog 69 #[v, .agg #[.int .i64 (s.code : Int), .int .i64 (s.pos : Int), .string (bs s.name), .pointer ia, .pointer va, .slice ta s.thn.length tc, .slice ea s.els.length ec], .int .i64 (d : Int)] w (Wrote kk B w (l ++ blanks d ++ [105, 102, 32] ++ (Tp.pxs [y]).flatten ++ [32, 116, 104, 101, 110, 10] ++ branchB s.thn s.els d ++ [59, 10])) := by
  have hd' : (d : Int) ≤ 500 := by omega
  have hal : ∀ ob, Below w.heap.size w (w.alloc ob) := fun ob => (Below.refl _ _).alloc (Nat.le_refl _) _
  have HBW : Hid (∀ ob, Bw kk B w (w.alloc ob)) := fun ob => Bw.of (kk := kk) (hal ob) hb.2
  have HC : Hid (∀ ob, Calls Tryd.prog 81 #[v, .int .i64 (d : Int)] (w.alloc ob) (Wrote kk B (w.alloc ob) (l ++ blanks d))) := fun ob => addBlanks_post (hb.below (hal ob)) d (by omega) (by simp only [List.length_append] at hl; omega)
  have HL : Hid ((l ++ blanks d ++ [105, 102, 32] ++ (Tp.pxs [y]).flatten ++ [32, 116, 104, 101, 110, 10] ++ branchB s.thn s.els d ++ [59, 10]).length ≤ 1000000000) := hl
  have HR : Hid (Wr B w) := hr
  obtain ⟨mf, hmf⟩ : ∃ mf, mf = l ++ blanks d ++ [105, 102, 32] ++ (Tp.pxs [y]).flatten ++ [32, 116, 104, 101, 110, 10] ++ branchB s.thn s.els d ++ [59, 10] := ⟨_, rfl⟩
  rw [← hmf]
  have HMF : Hid (mf = l ++ blanks d ++ [105, 102, 32] ++ (Tp.pxs [y]).flatten ++ [32, 116, 104, 101, 110, 10] ++ branchB s.thn s.els d ++ [59, 10]) := hmf
  have HX : Hid (Ex1 w B y bx) := hx
  have HTT : Hid (∀ W v' m, Bw kk B w W → Buf kk W B v' m → (m ++ branchB s.thn s.els d).length ≤ 1000000000 → Calls Tryd.prog 84 #[v', .agg #[.int .i64 (s.code : Int), .int .i64 (s.pos : Int), .string (bs s.name), .pointer ia, .pointer va, .slice ta s.thn.length tc, .slice ea s.els.length ec], .int .i64 (d : Int)] W (Wrote kk B W (m ++ branchB s.thn s.els d))) := fun W v' m hW hB hlm => addBranches_post hE hs hs2 hwt hwe (hsv.on hW) hB (hr.on hW) hd hlm
  clear hmf hl hx hr hal hb hsv
  subst hva
  generalize s.thn.length = tn at *
  generalize s.els.length = en at *
  generalize hx1 : s.pos = x1 at *
  generalize hx2 : s.name = x2 at *
  have hc2 : ((s.code : Nat) : Int) = 2 := by rw [hcode]; rfl
  rw [hc2] at HTT ⊢
  clear hx1 hx2 hcode hc2
  go_enter Tryd.func69, Tryd.ntmps69
  go_wp2_with fail
  refine (HC.out _).mono ?_
  rintro e w3 ⟨v3, rfl, hbuf3, hbel3⟩
  have hblk : (w.alloc (.cells #[.int .i64 2, .int .i64 (x1 : Int), .string (bs x2), .pointer ia, .pointer (some ⟨bx, 0, none⟩), .slice ta tn tc, .slice ea en ec] 110)).heap[w.heap.size]? = some (.cells #[.int .i64 2, .int .i64 (x1 : Int), .string (bs x2), .pointer ia, .pointer (some ⟨bx, 0, none⟩), .slice ta tn tc, .slice ea en ec] 110 (0, 0)) := new_blk _ _
  have F3 : FX kk B w w.heap.size (.int .i64 2) (.int .i64 (x1 : Int)) (.string (bs x2)) (.pointer ia) (.pointer (some ⟨bx, 0, none⟩)) (.slice ta tn tc) (.slice ea en ec) w3 v3 (l ++ blanks d) := ⟨hbuf3, (HBW.out _).trans hbel3, hbel3.keeps hblk (by decide)⟩
  obtain ⟨k0, k2, k3, k4, k5, k6⟩ := cell_box F3.box
  have hlt3 := lt_blk F3.box
  clear hblk hbuf3 hbel3
  have D3 : Hid (FX kk B w w.heap.size (.int .i64 2) (.int .i64 (x1 : Int)) (.string (bs x2)) (.pointer ia) (.pointer (some ⟨bx, 0, none⟩)) (.slice ta tn tc) (.slice ea en ec) w3.drew v3 (l ++ blanks d)) := F3.old (below_drew w3)
  have H3 : Hid (FX kk B w w.heap.size (.int .i64 2) (.int .i64 (x1 : Int)) (.string (bs x2)) (.pointer ia) (.pointer (some ⟨bx, 0, none⟩)) (.slice ta tn tc) (.slice ea en ec) w3 v3 (l ++ blanks d)) := F3
  clear F3 k2 k3 k5 k6
  have L1 : Hid ((l ++ blanks d ++ [105, 102, 32]).length ≤ 1000000000) := by have := HL.out; unfold Hid; simp only [List.length_append] at this ⊢; omega
  have L2 : Hid ((l ++ blanks d ++ [105, 102, 32] ++ (Tp.pxs [y]).flatten).length ≤ 1000000000) := by have := HL.out; unfold Hid; simp only [List.length_append] at this ⊢; omega
  have L3 : Hid ((l ++ blanks d ++ [105, 102, 32] ++ (Tp.pxs [y]).flatten ++ [32, 116, 104, 101, 110, 10]).length ≤ 1000000000) := by have := HL.out; unfold Hid; simp only [List.length_append] at this ⊢; omega
  have X1 : Hid ((⟨#[105, 102, 32]⟩ : ByteArray) = bs [105, 102, 32]) := rfl
  have X2 : Hid ((⟨#[32, 116, 104, 101, 110, 10]⟩ : ByteArray) = bs [32, 116, 104, 101, 110, 10]) := rfl
  go_wp2_with fail
  go_region_held3 (fun w' => w'.cell? ⟨w.heap.size, 4, none⟩ = some (.pointer (some ⟨bx, 0, none⟩))) (with_reducible (first | exact k4 | exact D3.out.c4 | exact (H3.out.alloc _).dr.c4 | exact ((H3.out.alloc _).alloc _).dr.c4 | exact (D3.out.alloc _).c4 | exact ((D3.out.alloc _).alloc _).c4 | exact H5.out.c4 | exact (H5.out.alloc _).c4 | exact H6.out.c4 | exact (H6.out.alloc _).c4 | exact H7.out.c4)) (first | (go_at_call 82; refine Calls.mono (FX.ex (kk := kk) (B := B) (w0 := w) (bx := w.heap.size) (v0 := .int .i64 2) (v1 := .int .i64 (x1 : Int)) (v2 := .string (bs x2)) (v3 := .pointer ia) (v4 := .pointer (some ⟨bx, 0, none⟩)) (v5 := .slice ta tn tc) (v6 := .slice ea en ec) (m := l ++ blanks d ++ [105, 102, 32]) (y := y) ?f hw HX HR L2) ?_; (case f => with_reducible (first | exact H5.out | exact H5.out.alloc _)); rintro e w6 ⟨v6, rfl, f6, b6⟩; have H6 : Hid (FX kk B w w.heap.size (.int .i64 2) (.int .i64 (x1 : Int)) (.string (bs x2)) (.pointer ia) (.pointer (some ⟨bx, 0, none⟩)) (.slice ta tn tc) (.slice ea en ec) w6 v6 (l ++ blanks d ++ [105, 102, 32] ++ (Tp.pxs [y]).flatten)) := f6; have T6 := fun sb x (h : SB _ sb x) => SB.on h b6; clear f6 b6) | (go_at_call 49; have _g := H6; refine Calls.mono (FX.all (kk := kk) (B := B) (w0 := w) (bx := w.heap.size) (v0 := .int .i64 2) (v1 := .int .i64 (x1 : Int)) (v2 := .string (bs x2)) (v3 := .pointer ia) (v4 := .pointer (some ⟨bx, 0, none⟩)) (v5 := .slice ta tn tc) (v6 := .slice ea en ec) (m := l ++ blanks d ++ [105, 102, 32] ++ (Tp.pxs [y]).flatten) (s := [32, 116, 104, 101, 110, 10]) ?f ?sb X2 L3) ?_; (case f => with_reducible (first | exact H6.out | exact H6.out.alloc _)); (case sb => with_reducible (first | exact SB.new _ _ _ rfl | exact T6 _ _ (SB.new _ _ _ rfl) | exact T6 _ _ (T5 _ _ (SB.new _ _ _ rfl).dr) | exact T6 _ _ (T5 _ _ (SB.new _ _ _ (by simp)).dr) | exact T6 _ _ (T5 _ _ ((SB.new _ _ _ rfl).alloc _).dr))); rintro e w7 ⟨v7, rfl, f7, b7⟩; have H7 : Hid (FX kk B w w.heap.size (.int .i64 2) (.int .i64 (x1 : Int)) (.string (bs x2)) (.pointer ia) (.pointer (some ⟨bx, 0, none⟩)) (.slice ta tn tc) (.slice ea en ec) w7 v7 (l ++ blanks d ++ [105, 102, 32] ++ (Tp.pxs [y]).flatten ++ [32, 116, 104, 101, 110, 10])) := f7; clear f7 b7 _g) | (go_at_call 49; refine Calls.mono (FX.all (kk := kk) (B := B) (w0 := w) (bx := w.heap.size) (v0 := .int .i64 2) (v1 := .int .i64 (x1 : Int)) (v2 := .string (bs x2)) (v3 := .pointer ia) (v4 := .pointer (some ⟨bx, 0, none⟩)) (v5 := .slice ta tn tc) (v6 := .slice ea en ec) (m := l ++ blanks d) (s := [105, 102, 32]) ?f ?sb X1 L1) ?_; (case f => with_reducible (first | exact (H3.out.alloc _).dr | exact ((H3.out.alloc _).alloc _).dr | exact D3.out.alloc _ | exact (D3.out.alloc _).alloc _)); (case sb => with_reducible (first | exact (SB.new _ _ _ rfl).dr | exact (SB.new _ _ _ (by simp)).dr | exact ((SB.new _ _ _ rfl).alloc _).dr | exact ((SB.new _ _ _ (by simp)).alloc _).dr)); rintro e w5 ⟨v5, rfl, f5, b5⟩; have H5 : Hid (FX kk B w w.heap.size (.int .i64 2) (.int .i64 (x1 : Int)) (.string (bs x2)) (.pointer ia) (.pointer (some ⟨bx, 0, none⟩)) (.slice ta tn tc) (.slice ea en ec) w5 v5 (l ++ blanks d ++ [105, 102, 32])) := f5; have T5 := fun sb x (h : SB _ sb x) => SB.on h b5; clear f5 b5))
  all_goals
    obtain ⟨j0, j2, j3, j4, j5, j6⟩ := cell_box H7.out.box
    have hlt7 := lt_blk H7.out.box
    have j1 : w7.cell? ⟨w.heap.size, 1, none⟩ = some (.int .i64 (x1 : Int)) := (cell_blk H7.out.box).trans rfl
    have hcall := HTT.out w7 v7 _ H7.out.bw H7.out.buf (by have := HL.out; simp only [List.length_append] at this ⊢; omega)
    have HT9 : Hid (Calls Tryd.prog 84 #[v7, .agg #[.int .i64 2, .int .i64 (x1 : Int), .string (bs x2), .pointer ia, .pointer (some ⟨bx, 0, none⟩), .slice ta tn tc, .slice ea en ec], .int .i64 (d : Int)] w7 (Wrote kk B w7 (l ++ blanks d ++ [105, 102, 32] ++ (Tp.pxs [y]).flatten ++ [32, 116, 104, 101, 110, 10] ++ branchB s.thn s.els d))) := hcall
    clear hcall
    go_wp2_with fail
    refine HT9.out.mono ?_
    rintro e wZ ⟨vZ, rfl, hbufZ, hbelZ⟩
    have hBZ := H7.out.bw.trans hbelZ
    have hcall := addAll1 hbufZ [59, 10] (by have := HL.out; simp only [List.length_append] at this ⊢; omega)
    rw [show l ++ blanks d ++ [105, 102, 32] ++ (Tp.pxs [y]).flatten ++ [32, 116, 104, 101, 110, 10] ++ branchB s.thn s.els d ++ [59, 10] = mf from HMF.out.symm] at hcall
    have HA9 : Hid (Calls Tryd.prog 49 #[vZ, .slice (some ⟨wZ.heap.size, 0, none⟩) 1 1] (wZ.alloc (.cells #[.string ⟨#[59, 10]⟩] 9)) (Wrote kk B wZ mf)) := hcall
    clear hcall hbufZ
    go_wp2_with fail
    refine HA9.out.mono ?_
    rintro e w9 ⟨v9, rfl, hbuf9, hbel9⟩
    have HB : Hid (Buf kk w9 B v9 mf) := hbuf9
    have HBB : Hid (Bw kk B w w9) := hBZ.trans hbel9
    clear hbuf9
    go_wp2_with fail
    go_ret
    exact ⟨_, rfl, HB.out, HBB.out⟩
end Go.Proofs.YthkdefhngkangaaDoor
