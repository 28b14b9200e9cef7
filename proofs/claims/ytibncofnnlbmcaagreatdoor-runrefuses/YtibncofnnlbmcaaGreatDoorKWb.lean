import Derived.Test.YtibncofnnlbmcaaGreatDoorKWa
import Derived.Deep.LoopGhost
import Derived.Handy
/- Reading NAMES. -/
namespace Go.Proofs.YtibncofnnlbmcaaGreatDoor
open Go.RowKit
open Tp (Tok hd tx at' stp)

def strs (l : List (List UInt8)) : List Value := l.map fun s => .string (bs s)
theorem Tryz.infoString : (Tryz.prog.info? 9).map (fun i => (i.zero, i.size, i.bytes)) = some (some (.string ⟨#[]⟩), 1, 16) := by kernel_rfl
theorem owns_shape {w : World} {base e size n : Nat} {v : Value} {xs : List Value} (h : w.ownsRow base e size v n xs) : ∃ ao cap, v = .slice ao n cap := by
  rcases h.2 with ⟨rfl, rfl⟩ | ⟨g, cap, cur, rfl, _⟩
  · exact ⟨_, _, rfl⟩
  · exact ⟨_, _, rfl⟩
theorem owns_ext {w w' : World} {base e size n b : Nat} {v : Value} {xs : List Value} (h : w.ownsRow base e size v n xs) (k : Ext b w w') (hb : b < base) : w'.ownsRow base e size v n xs := by
  refine ⟨h.1, ?_⟩
  rcases h.2 with h1 | ⟨g, cap, cur, h1, h2, h3, h4⟩
  · exact Or.inl h1
  · refine Or.inr ⟨g, cap, cur, h1, h2, ?_, h4⟩
    have hg : g < w.heap.size := by rw [Array.getElem?_eq_some_iff] at h3; exact h3.1
    rw [k.block g hg (by omega)]; exact h3
theorem Ext.trans' {w w1 w2 : World} {b : Nat} (h : Ext b w w1) (hb : Below w.heap.size w1 w2) : Ext b w w2 :=
  ⟨hb.os.trans h.os, hb.tape.trans h.tape, hb.output.trans h.output, Nat.le_trans h.size hb.size, fun i hi hne => (hb.block i hi).trans (h.block i hi hne)⟩
theorem owns_row {w : World} {base e size n : Nat} {v : Value} {xs : List Value} (h : w.ownsRow base e size v n xs) : ∀ g, v.ownBlock = some g → base ≤ g := by
  intro g hg
  rcases h.2 with ⟨rfl, rfl⟩ | ⟨g', cap, cur, rfl, h2, _⟩
  · simp [Value.ownBlock] at hg
  · simp [Value.ownBlock] at hg; omega
def addAll {α : Type} (l : List α) : Except Tp.Er (List α × List Tok) → Except Tp.Er (List α × List Tok)
  | .error e => .error e
  | .ok (m, r) => .ok (l ++ m, r)
theorem addAll_addAll {α : Type} (l m : List α) (x : Except Tp.Er (List α × List Tok)) : addAll l (addAll m x) = addAll (l ++ m) x := by
  cases x with
  | error e => rfl
  | ok v => simp [addAll]
theorem names_full (f had most : Nat) (r : List Tok) (h : most ≤ had) : Tp.names (f + 1) had most r = .error (4, at' r) := by
  rw [Tp.names, if_pos h]
theorem names_bad {f had most : Nat} {r : List Tok} {er : Tp.Er} (h : ¬ most ≤ had) (hn : Tp.name r = .error er) : Tp.names (f + 1) had most r = .error er := by
  rw [Tp.names, if_neg h, hn]; rfl
theorem names_more {f had most : Nat} {r r1 : List Tok} {nm : List UInt8} (h : ¬ most ≤ had) (hn : Tp.name r = .ok (nm, r1)) (hc : tx r1 = Tp.mComma) : Tp.names (f + 1) had most r = addAll [nm] (Tp.names f (had + 1) most (stp r1)) := by
  rw [Tp.names, if_neg h, hn]
  simp only [bind, Except.bind, hc, if_true]
  cases Tp.names f (had + 1) most (stp r1) with
  | error e => rfl
  | ok v => rfl
theorem names_last {f had most : Nat} {r r1 : List Tok} {nm : List UInt8} (h : ¬ most ≤ had) (hn : Tp.name r = .ok (nm, r1)) (hc : ¬ tx r1 = Tp.mComma) : Tp.names (f + 1) had most r = .ok ([nm], r1) := by
  rw [Tp.names, if_neg h, hn]
  simp only [bind, Except.bind, hc, if_false]
set_option maxRecDepth 100000 in
set_option maxHeartbeats 1000000 in
theorem names_post {w : World} {p : Ps} {ts r : List Tok} {o b : Nat} (h : St w p ts r o b) (had most f : Nat) (hm : most ≤ 10) (hh : had ≤ 10) (hf : 1 ≤ f) (hf' : most + 1 ≤ f + had) :
    Calls Tryz.prog 64 #[.pointer (some ⟨p.pb, 0, none⟩), .int .i64 (had : Int), .int .i64 (most : Int)] w fun e w' =>
      Post p ts o b w (fun l v w' => w'.ownsRow w.heap.size 9 1 v l.length (strs l)) (Tp.names f had most r) e w' := by
  obtain ⟨i0, hi, hz0, hz1, hz2⟩ := info_parts Tryz.infoString
  have hpl := lt_of_cell h.c0
  go_enter Tryz.func64, Tryz.ntmps64
  go_wp2_with fail
  go_loopg [7] (most + 1 - had) (fun k v wr => ∃ (l : List (List UInt8)) (r' : List Tok) (f' : Nat), k = most + 1 - (had + l.length) ∧ 1 ≤ f' ∧ most + 1 ≤ f' + (had + l.length) ∧ l.length ≤ 10 ∧ wr.ownsRow w.heap.size 9 1 v l.length (strs l) ∧ St wr p ts r' o b ∧ Ext p.pb w wr ∧ addAll l (Tp.names f' (had + l.length) most r') = Tp.names f had most r)
  case atStart => 
    refine ⟨[], r, f, rfl, hf, hf', by simp, World.ownsRow_nil _ _ _ _, h, Ext.refl _ _, ?_⟩
    simp only [List.length_nil, Nat.add_zero]
    cases Tp.names f had most r with
    | error e => rfl
    | ok x => rfl
  case round =>
    obtain ⟨l, r', f', hk, hf1, hf2, hll, hown, hst, hext, hspec⟩ := hrel
    obtain ⟨ao, cap, rfl⟩ := owns_shape hown
    have HS : Hid (addAll l (Tp.names f' (had + l.length) most r') = Tp.names f had most r) := hspec
    have HK : Hid (gk = most + 1 - (had + l.length)) := hk
    clear hspec hk
    obtain ⟨f2, rfl⟩ : ∃ f2, f' = f2 + 1 := ⟨f' - 1, by omega⟩
    by_cases hfull : most ≤ had + l.length
    · go_wp2_with fail
      refine (wrong_any hst 4).mono ?_
      rintro e w2 ⟨ht, hb2⟩
      obtain ⟨ab, h1, rfl, h2, h3⟩ := ht.out
      go_wp2_with fail
      refine ⟨rfl, ?_⟩
      rw [← HS.out, names_full _ _ _ _ hfull]
      exact thrown_up hext ht (Ext.below hb2)
    · go_wp2_with fail
      refine (name_post hst).mono ?_
      intro e w2 hq
      generalize hres : Tp.name r' = res at hq
      rcases res with er | ⟨nm, r1⟩
      · have HR : Hid (Tp.name r' = .error er) := hres
        clear hres
        obtain ⟨ht, hx2⟩ := hq
        obtain ⟨ab, h1, rfl, h2, h3⟩ := ht.out
        go_wp2_with fail
        refine ⟨rfl, ?_⟩
        rw [← HS.out, names_bad (by omega) HR.out]
        exact thrown_up hext ht hx2
      · have HR : Hid (Tp.name r' = .ok (nm, r1)) := hres
        clear hres
        obtain ⟨v, rfl, rfl, hst2, hx2⟩ := hq
        have hown2 := owns_ext hown hx2 hpl
        have hsz2 := (hext.trans hx2).size
        clear hown hst
        go_wp2_with (at_builtin; refine wpList_append_own _ rfl _ _ 25 rfl w.heap.size 9 i0 (.string ⟨#[]⟩) 1 16 Tryz.underlying25 hi hz0 hz1 hz2 rfl (by decide) _ _ _ rfl (hown2.alloc _) ⟨w2.heap.size, 0, none⟩ 1 1 [.string (bs nm)] rfl rfl ?c1 ?c2 ?c3 ?c4 ?c5 ?_)
        case c1 =>
          intro j u hj
          match j, hj with
          | 0, hj => simp at hj; subst hj; simp [Addr.add]
        case c2 => intro u hu; simp at hu; subst hu; rfl
        case c3 => unfold maxLen; omega
        case c4 => omega
        case c5 => simp; omega
        · intro v' w3 hown3 hgrow _
          have hb3 : Below w.heap.size w2 w3 := ((Below.refl _ _).alloc hsz2 _).trans ((Below.refl _ _).grown hgrow (by simp; omega) (owns_row hown2))
          have hst3 := hst2.belowB hb3 hpl
          have hx3 : Ext p.pb w w3 := (hext.trans hx2).trans' hb3
          clear hgrow hown2 hst2
          go_wp2_with fail
          refine (take_any hst3 Tp.mComma _ rfl).mono ?_
          rintro e w4 ⟨rfl, hst4, hx4⟩
          have hown4 := owns_ext hown3 hx4 hpl
          have HX : Hid (Ext p.pb w w4) := hx3.trans hx4
          have HO : Hid (w4.ownsRow w.heap.size 9 1 v' (l ++ [nm]).length (strs (l ++ [nm]))) := by unfold Hid; simpa [strs] using hown4
          clear hown3 hown4 hx3 hx4 hst3 hb3
          by_cases hc : tx r1 = Tp.mComma
          · have hd1 := decide_eq_true hc
            rw [if_pos hc] at hst4
            have HC : Hid (tx r1 = Tp.mComma) := hc
            clear hc
            go_wp2_with fail
            go_roundg (most + 1 - (had + (l ++ [nm]).length))
            case measure => have := HK.out; simp; omega
            case rel =>
              refine ⟨l ++ [nm], stp r1, f2, rfl, by omega, by simp; omega, by simp; omega, HO.out, hst4, HX.out, ?_⟩
              rw [← HS.out, names_more (by omega) HR.out HC.out, addAll_addAll]
              simp [Nat.add_assoc]
          · have hd1 := decide_eq_false hc
            rw [if_neg hc] at hst4
            have HC : Hid (¬ tx r1 = Tp.mComma) := hc
            clear hc
            go_wp2_with fail
            go_ret
            rw [← HS.out, names_last (by omega) HR.out HC.out]
            exact ⟨_, rfl, HO.out, hst4, HX.out⟩
end Go.Proofs.YtibncofnnlbmcaaGreatDoor
/- levelOf: the level of a mark. -/
namespace Go.Proofs.YtibncofnnlbmcaaGreatDoor
open Go.RowKit
open Tp (Tok hd tx at' stp)

theorem Lv.below {w w' : World} {B : Nat} (h : Lv w) (k : Below B w w') (hB : 3 < B) : Lv w' :=
  ⟨Nat.lt_of_lt_of_le h.1 k.size, fun i hi => (k.cell (p := ⟨3, i, none⟩) hB).trans (h.2 i hi)⟩
def lvAgg : Value := .agg levs.toArray
theorem wpList_load_is {P : Program} {w : World} {ops : Array Oper} {rest : List Oper} {o : Oper} {a : Act} {Q : Exit → Act → World → Prop} (hgd : o.guard = none) (t : TypeId) (x : Operand) (ho : o.op = .load t x) (v : Value)
    (hrun : (Instr.loadAt t (a.eval x)).run P w = .ok v w) (h : wpList P ops Q rest (a.put o.dst v) w) : wpList P ops Q (o :: rest) a w := by
  refine wpList_plain hgd fun K hK => ?_
  unfold Oper.wp
  simp [execOp, ho, hrun, Result.andThen]
  exact hK _ _ h
theorem load_cells {P : Program} {w : World} (a : Addr) (vs : List Value) : ∀ (n i : Nat) (acc : Array Value), (∀ j, i ≤ j → j < i + n → w.cell? (a.add j) = some (vs.getD j undef)) → i + n ≤ vs.length →
    (loadCellsFrom a i n acc).run P w = .ok (acc ++ ((vs.drop i).take n).toArray) w := by
  intro n
  induction n with
  | zero => intro i acc _ _; simp [loadCellsFrom]
  | succ n ih =>
    intro i acc h hl
    have h0 := h i (Nat.le_refl _) (by omega)
    have hd : vs.drop i = vs.getD i undef :: vs.drop (i + 1) := by
      rw [List.drop_eq_getElem_cons (by omega)]
      simp [List.getD_eq_getElem?_getD, List.getElem?_eq_getElem (show i < vs.length by omega)]
    simp only [loadCellsFrom, Sem.run_bind, load, Sem.run, h0, Result.andThen]
    rw [ih (i + 1) _ (fun j h1 h2 => h j (by omega) (by omega)) (by omega), hd]
    simp
theorem lev_load {w : World} (h : Lv w) : (Instr.loadAt 285 (.pointer (some ⟨3, 0, none⟩))).run Tryz.prog w = .ok lvAgg w := by
  have hc := load_cells (P := Tryz.prog) (w := w) ⟨3, 0, none⟩ levs 26 0 #[] (fun j _ hj => by have hq := h.2 j (by omega); by_cases hj0 : j = 0 <;> simpa [Addr.add, hj0] using hq) (by decide)
  have h1 : (isAgg 285).run Tryz.prog w = .ok true w := by kernel_rfl
  have h2 : (sizeOf 285).run Tryz.prog w = .ok 26 w := by kernel_rfl
  simp only [Instr.loadAt, Instr.sureAddr, loadVar, loadCells, Sem.run_bind, Result.andThen]
  simp [h1, h2, hc, lvAgg, levs]
theorem lev_idx0 (w : World) : (Instr.index 285 lvAgg (.int .i64 0)).run Tryz.prog w = .ok (.agg #[.string ⟨#[111, 114]⟩, .int .i64 0]) w := by kernel_rfl
theorem lev_idx1 (w : World) : (Instr.index 285 lvAgg (.int .i64 1)).run Tryz.prog w = .ok (.agg #[.string ⟨#[97, 110, 100]⟩, .int .i64 1]) w := by kernel_rfl
theorem lev_idx2 (w : World) : (Instr.index 285 lvAgg (.int .i64 2)).run Tryz.prog w = .ok (.agg #[.string ⟨#[61]⟩, .int .i64 2]) w := by kernel_rfl
theorem lev_idx3 (w : World) : (Instr.index 285 lvAgg (.int .i64 3)).run Tryz.prog w = .ok (.agg #[.string ⟨#[35]⟩, .int .i64 2]) w := by kernel_rfl
theorem lev_idx4 (w : World) : (Instr.index 285 lvAgg (.int .i64 4)).run Tryz.prog w = .ok (.agg #[.string ⟨#[60]⟩, .int .i64 2]) w := by kernel_rfl
theorem lev_idx5 (w : World) : (Instr.index 285 lvAgg (.int .i64 5)).run Tryz.prog w = .ok (.agg #[.string ⟨#[60, 61]⟩, .int .i64 2]) w := by kernel_rfl
theorem lev_idx6 (w : World) : (Instr.index 285 lvAgg (.int .i64 6)).run Tryz.prog w = .ok (.agg #[.string ⟨#[62]⟩, .int .i64 2]) w := by kernel_rfl
theorem lev_idx7 (w : World) : (Instr.index 285 lvAgg (.int .i64 7)).run Tryz.prog w = .ok (.agg #[.string ⟨#[62, 61]⟩, .int .i64 2]) w := by kernel_rfl
theorem lev_idx8 (w : World) : (Instr.index 285 lvAgg (.int .i64 8)).run Tryz.prog w = .ok (.agg #[.string ⟨#[43]⟩, .int .i64 3]) w := by kernel_rfl
theorem lev_idx9 (w : World) : (Instr.index 285 lvAgg (.int .i64 9)).run Tryz.prog w = .ok (.agg #[.string ⟨#[45]⟩, .int .i64 3]) w := by kernel_rfl
theorem lev_idx10 (w : World) : (Instr.index 285 lvAgg (.int .i64 10)).run Tryz.prog w = .ok (.agg #[.string ⟨#[42]⟩, .int .i64 4]) w := by kernel_rfl
theorem lev_idx11 (w : World) : (Instr.index 285 lvAgg (.int .i64 11)).run Tryz.prog w = .ok (.agg #[.string ⟨#[100, 105, 118]⟩, .int .i64 4]) w := by kernel_rfl
theorem lev_idx12 (w : World) : (Instr.index 285 lvAgg (.int .i64 12)).run Tryz.prog w = .ok (.agg #[.string ⟨#[109, 111, 100]⟩, .int .i64 4]) w := by kernel_rfl

theorem lvl_none (op : List UInt8) (h0 : ([111, 114] == op) = false) (h1 : ([97, 110, 100] == op) = false) (h2 : ([61] == op) = false) (h3 : ([35] == op) = false) (h4 : ([60] == op) = false) (h5 : ([60, 61] == op) = false) (h6 : ([62] == op) = false) (h7 : ([62, 61] == op) = false) (h8 : ([43] == op) = false) (h9 : ([45] == op) = false) (h10 : ([42] == op) = false) (h11 : ([100, 105, 118] == op) = false) (h12 : ([109, 111, 100] == op) = false) : Tp.lvl op = 5 := by
  have k : ∀ l : List UInt8, (l == op) = false → op ≠ l := fun l h e => by subst e; simp at h
  have g0 := k _ h0; have g1 := k _ h1; have g2 := k _ h2; have g3 := k _ h3; have g4 := k _ h4; have g5 := k _ h5; have g6 := k _ h6; have g7 := k _ h7; have g8 := k _ h8; have g9 := k _ h9; have g10 := k _ h10; have g11 := k _ h11; have g12 := k _ h12
  unfold Tp.lvl
  simp only [Tp.wOr, Tp.wAnd, Tp.mEq, Tp.mNe, Tp.mLt, Tp.mLe, Tp.mGt, Tp.mGe, Tp.mPlus, Tp.mMinus, Tp.mStar, Tp.wDiv, Tp.wMod, g0, g1, g2, g3, g4, g5, g6, g7, g8, g9, g10, g11, g12, or_self, if_false]
set_option maxRecDepth 100000 in
set_option maxHeartbeats 2000000 in
theorem levelOf_raw (w : World) (op : List UInt8) (hl : Lv w) :
    Calls Tryz.prog 166 #[.string (bs op)] w fun e w' => e = .returned (.int .i64 (Tp.lvl op : Int)) ∧ Below w.heap.size w w' := by
  have i0 := lev_idx0; have i1 := lev_idx1; have i2 := lev_idx2; have i3 := lev_idx3; have i4 := lev_idx4; have i5 := lev_idx5; have i6 := lev_idx6
  have i7 := lev_idx7; have i8 := lev_idx8; have i9 := lev_idx9; have i10 := lev_idx10; have i11 := lev_idx11; have i12 := lev_idx12
  have hop := bs_toList op
  go_enter Tryz.func166, Tryz.ntmps166
  go_wp2_with (refine wpList_load_is rfl 285 (.global 3) rfl lvAgg (lev_load hl) ?_)
  refine wp_loop_rounds 14 ?_
  rw [rounds_succ]
  go_wp2
  · go_ret
    have hq := eq_of_beq ‹([111, 114] == op) = true›
    exact ⟨by rw [← hq]; rfl, by go_grown⟩
  rw [rounds_succ]
  go_wp2
  · go_ret
    have hq := eq_of_beq ‹([97, 110, 100] == op) = true›
    exact ⟨by rw [← hq]; rfl, by go_grown⟩
  rw [rounds_succ]
  go_wp2
  · go_ret
    have hq := eq_of_beq ‹([61] == op) = true›
    exact ⟨by rw [← hq]; rfl, by go_grown⟩
  rw [rounds_succ]
  go_wp2
  · go_ret
    have hq := eq_of_beq ‹([35] == op) = true›
    exact ⟨by rw [← hq]; rfl, by go_grown⟩
  rw [rounds_succ]
  go_wp2
  · go_ret
    have hq := eq_of_beq ‹([60] == op) = true›
    exact ⟨by rw [← hq]; rfl, by go_grown⟩
  rw [rounds_succ]
  go_wp2
  · go_ret
    have hq := eq_of_beq ‹([60, 61] == op) = true›
    exact ⟨by rw [← hq]; rfl, by go_grown⟩
  rw [rounds_succ]
  go_wp2
  · go_ret
    have hq := eq_of_beq ‹([62] == op) = true›
    exact ⟨by rw [← hq]; rfl, by go_grown⟩
  rw [rounds_succ]
  go_wp2
  · go_ret
    have hq := eq_of_beq ‹([62, 61] == op) = true›
    exact ⟨by rw [← hq]; rfl, by go_grown⟩
  rw [rounds_succ]
  go_wp2
  · go_ret
    have hq := eq_of_beq ‹([43] == op) = true›
    exact ⟨by rw [← hq]; rfl, by go_grown⟩
  rw [rounds_succ]
  go_wp2
  · go_ret
    have hq := eq_of_beq ‹([45] == op) = true›
    exact ⟨by rw [← hq]; rfl, by go_grown⟩
  rw [rounds_succ]
  go_wp2
  · go_ret
    have hq := eq_of_beq ‹([42] == op) = true›
    exact ⟨by rw [← hq]; rfl, by go_grown⟩
  rw [rounds_succ]
  go_wp2
  · go_ret
    have hq := eq_of_beq ‹([100, 105, 118] == op) = true›
    exact ⟨by rw [← hq]; rfl, by go_grown⟩
  rw [rounds_succ]
  go_wp2
  · go_ret
    have hq := eq_of_beq ‹([109, 111, 100] == op) = true›
    exact ⟨by rw [← hq]; rfl, by go_grown⟩
  rw [rounds_succ]
  go_wp2
  go_ret
  have hq := lvl_none op ‹_› ‹_› ‹_› ‹_› ‹_› ‹_› ‹_› ‹_› ‹_› ‹_› ‹_› ‹_› ‹_›
  exact ⟨by rw [hq]; rfl, by go_grown⟩
end Go.Proofs.YtibncofnnlbmcaaGreatDoor
/- EXPRs in memory. -/
namespace Go.Proofs.YtibncofnnlbmcaaGreatDoor
open Go.RowKit
open Tp (Tok hd tx at' stp X)

/- the list's expressions lie behind these pointers, each in a block of its own of those that D tells -/
def RepL (w : World) (D : Nat → Prop) : List X → List Value → Prop
  | [], vs => vs = []
  | ⟨code, pos, n, mod, name, op, left, right, args⟩ :: xs, vs => ∃ (b : Nat) (av : Value) (ls rs gs vs' : List Value),
      vs = .pointer (some ⟨b, 0, none⟩) :: vs' ∧ D b ∧
      w.heap[b]? = some (.cells #[.int .i64 (code : Int), .int .i64 (pos : Int), .int .i64 (n : Int), .string (bs mod), .string (bs name), .string (bs op), ls.headD (.pointer none), rs.headD (.pointer none), av] 216 (0, 0)) ∧
      RepL w D left ls ∧ ls.length ≤ 1 ∧ RepL w D right rs ∧ rs.length ≤ 1 ∧ RepL w D args gs ∧ (gs = [] ∧ av = .slice none 0 0 ∨ ∃ g cap cur, av = .slice (some ⟨g, 0, none⟩) gs.length cap ∧ D g ∧ w.heap[g]? = some (.cells cur 179 (0, 0)) ∧ gs.length ≤ cap ∧ cap ≤ maxLen ∧ cur.size = cap ∧ cur.toList.take gs.length = gs) ∧
      RepL w D xs vs'
theorem RepL.mono {w w' : World} {D D' : Nat → Prop} (hw : ∀ b, D b → b < w.heap.size → w'.heap[b]? = w.heap[b]? ∧ D' b) : ∀ (n : Nat) (l : List X) (vs : List Value), SizeOf.sizeOf l ≤ n → RepL w D l vs → RepL w' D' l vs := by
  intro n
  induction n with
  | zero => intro l vs hl; cases l <;> simp at hl <;> omega
  | succ n ih =>
    intro l vs hl h
    cases l with
    | nil => rw [RepL] at h ⊢; exact h
    | cons x xs =>
      obtain ⟨code, pos, nn, mod, name, op, left, right, args⟩ := x
      rw [RepL] at h ⊢
      simp at hl
      obtain ⟨b, av, ls, rs, gs, vs', h1, h2, h3, h4, h5, h6, h7, h8, h9, h10⟩ := h
      have lt : ∀ {k : Nat} {o : Obj}, w.heap[k]? = some o → k < w.heap.size := fun hk => by rw [Array.getElem?_eq_some_iff] at hk; exact hk.1
      obtain ⟨e1, e2⟩ := hw b h2 (lt h3)
      refine ⟨b, av, ls, rs, gs, vs', h1, e2, e1.trans h3, ih _ _ (by omega) h4, h5, ih _ _ (by omega) h6, h7, ih _ _ (by omega) h8, ?_, ih _ _ (by omega) h10⟩
      rcases h9 with h9 | ⟨g, cap, cur, g1, g2, g3, g4⟩
      · exact Or.inl h9
      · obtain ⟨e3, e4⟩ := hw g g2 (lt g3)
        exact Or.inr ⟨g, cap, cur, g1, e4, e3.trans g3, g4⟩
theorem RepL.len {w : World} {D : Nat → Prop} : ∀ (l : List X) (vs : List Value), RepL w D l vs → vs.length = l.length := by
  intro l
  induction l with
  | nil => intro vs h; rw [RepL] at h; simp [h]
  | cons x xs ih =>
    intro vs h
    obtain ⟨code, pos, nn, mod, name, op, left, right, args⟩ := x
    rw [RepL] at h
    obtain ⟨b, av, ls, rs, gs, vs', h1, h2, h3, h4, h5, h6, h7, h8, h9, h10⟩ := h
    subst h1
    simp [ih _ h10]
theorem RepL.app {w : World} {D : Nat → Prop} : ∀ (l m : List X) (vs us : List Value), RepL w D l vs → RepL w D m us → RepL w D (l ++ m) (vs ++ us) := by
  intro l
  induction l with
  | nil => intro m vs us h k; rw [RepL] at h; subst h; exact k
  | cons x xs ih =>
    intro m vs us h k
    obtain ⟨code, pos, nn, mod, name, op, left, right, args⟩ := x
    rw [RepL] at h
    obtain ⟨b, av, ls, rs, gs, vs', h1, h2, h3, h4, h5, h6, h7, h8, h9, h10⟩ := h
    subst h1
    rw [List.cons_append, List.cons_append, RepL]
    exact ⟨b, av, ls, rs, gs, vs' ++ us, rfl, h2, h3, h4, h5, h6, h7, h8, h9, ih m vs' us h10 k⟩
/- of blocks from B on -/
def VX (B : Nat) (l : List X) (v : Value) (w : World) : Prop := RepL w (fun b => B ≤ b) l [v]
theorem RepL.ext {w w' : World} {D : Nat → Prop} {b : Nat} (k : Ext b w w') (hb : ¬ D b) {l : List X} {vs : List Value} (h : RepL w D l vs) : RepL w' D l vs :=
  RepL.mono (fun i hi hl => ⟨k.block i hl (fun e => hb (e ▸ hi)), hi⟩) (SizeOf.sizeOf l) l vs (Nat.le_refl _) h
theorem VX.ext {w w' : World} {B b : Nat} (k : Ext b w w') (hb : b < B) {l : List X} {v : Value} (h : VX B l v w) : VX B l v w' := RepL.ext k (by omega) h
theorem VX.base {w : World} {B B' : Nat} {l : List X} {v : Value} (h : VX B l v w) (hB : B' ≤ B) : VX B' l v w :=
  RepL.mono (fun _ hi _ => ⟨rfl, Nat.le_trans hB hi⟩) (SizeOf.sizeOf l) l [v] (Nat.le_refl _) h

theorem St.setOnes {w : World} {p : Ps} {ts r : List Tok} {o b : Nat} (h : St w p ts r o b) (o' : Nat) (z : Int) (hz : z = o') : St (w.setCell ⟨p.pb, 3, none⟩ (.int .i64 z)) p ts r o' b := by
  subst hz
  have e : ∀ j v, j ≠ 3 → w.cell? ⟨p.pb, j, none⟩ = some v → (w.setCell ⟨p.pb, 3, none⟩ (.int .i64 (o' : Int))).cell? ⟨p.pb, j, none⟩ = some v := fun j v hj hv => by
    rw [World.cell?_setCell_other w ⟨p.pb, 3, none⟩ ⟨p.pb, j, none⟩ _ (by simp <;> omega)]; exact hv
  exact ⟨e 0 _ (by omega) h.c0, e 1 _ (by omega) h.c1, e 2 _ (by omega) h.c2, World.cell?_setCell_same _ _ _ h.c3, e 4 _ (by omega) h.c4, fun j => by simpa using h.fz j,
    (Below.heap_setCell _ _ _ _ (by have := h.apart.2; simp; omega)).trans h.kept, fun i t ht => (h.toks i t ht).ext (b := p.pb) ((Ext.refl _ _).set 3 _) (by have := h.apart.1; omega), h.suf, h.ne, h.len, h.last, h.apart, h.dig, h.tl, ⟨by simpa using h.lv.1, fun i hi => by rw [World.cell?_setCell_other w ⟨p.pb, 3, none⟩ ⟨3, i, none⟩ _ (by have := h.glt; simp <;> omega)]; exact h.lv.2 i hi⟩, h.glt⟩

set_option maxRecDepth 100000 in
set_option maxHeartbeats 400000 in
theorem within_expr {w : World} {p : Ps} {ts r : List Tok} {o b : Nat} (h : St w p ts r o b) (ho : o ≤ 1000) (res : Except Tp.Er (List X × List Tok))
    (hF : ∀ w1, St w1 p ts r (o + 1) b → w1.heap.size = w.heap.size → Ext p.pb w w1 → Calls Tryz.prog 157 #[.pointer (some ⟨p.pb, 0, none⟩)] w1 fun e w' => Post p ts (o + 1) b w1 (VX w1.heap.size) res e w') :
    Calls Tryz.prog 190 #[.pointer (some ⟨p.pb, 0, none⟩), .func (.func 157) #[.pointer (some ⟨p.pb, 0, none⟩)] #[]] w fun e w' => Post p ts o b w (VX w.heap.size) res e w' := by
  have hpl := lt_of_cell h.c0
  have c3 := h.c3
  have f3 := h.fz 3
  have ho' : (o : Int) ≤ 1000 := by omega
  have HF : Hid (∀ w1, St w1 p ts r (o + 1) b → w1.heap.size = w.heap.size → Ext p.pb w w1 → Calls Tryz.prog 157 #[.pointer (some ⟨p.pb, 0, none⟩)] w1 fun e w' => Post p ts (o + 1) b w1 (VX w1.heap.size) res e w') := hF
  clear hF
  go_enter Tryz.func190, Tryz.ntmps190
  go_wp2_with fail
  refine (HF.out _ (h.setOnes (o + 1) _ (by omega)) (by simp) ((Ext.refl _ _).set 3 _)).mono ?_
  intro e w2 hq
  have hx1 : Ext p.pb w (w.setCell ⟨p.pb, 3, none⟩ (.int .i64 ((o : Int) + 1))) := (Ext.refl _ _).set 3 _
  have HX1 : Hid (Ext p.pb w (w.setCell ⟨p.pb, 3, none⟩ (.int .i64 ((o : Int) + 1)))) := hx1
  clear hx1 c3 f3
  rcases res with er | ⟨x, r1⟩
  · obtain ⟨ht, hx⟩ := hq
    obtain ⟨ab, h1, rfl, h2, h3⟩ := ht.out
    go_wp2_with fail
    exact ⟨rfl, thrown_up HX1.out ht hx⟩
  · obtain ⟨v, rfl, hv, hst, hx⟩ := hq
    have c3 := hst.c3
    have f3 := hst.fz 3
    go_wp2_with fail
    go_ret
    refine ⟨_, rfl, ?_, hst.setOnes o _ (by omega), (HX1.out.trans hx).set 3 _⟩
    refine VX.ext ((Ext.refl _ _).set 3 _) hpl ?_
    simpa using hv
set_option maxRecDepth 100000 in
set_option maxHeartbeats 400000 in
theorem within_one {w : World} {p : Ps} {ts r : List Tok} {o b : Nat} (h : St w p ts r o b) (ho : o ≤ 1000) (res : Except Tp.Er (List X × List Tok))
    (hF : ∀ w1, St w1 p ts r (o + 1) b → w1.heap.size = w.heap.size → Ext p.pb w w1 → Calls Tryz.prog 207 #[.pointer (some ⟨p.pb, 0, none⟩)] w1 fun e w' => Post p ts (o + 1) b w1 (VX w1.heap.size) res e w') :
    Calls Tryz.prog 190 #[.pointer (some ⟨p.pb, 0, none⟩), .func (.func 207) #[.pointer (some ⟨p.pb, 0, none⟩)] #[]] w fun e w' => Post p ts o b w (VX w.heap.size) res e w' := by
  have hpl := lt_of_cell h.c0
  have c3 := h.c3
  have f3 := h.fz 3
  have ho' : (o : Int) ≤ 1000 := by omega
  have HF : Hid (∀ w1, St w1 p ts r (o + 1) b → w1.heap.size = w.heap.size → Ext p.pb w w1 → Calls Tryz.prog 207 #[.pointer (some ⟨p.pb, 0, none⟩)] w1 fun e w' => Post p ts (o + 1) b w1 (VX w1.heap.size) res e w') := hF
  clear hF
  go_enter Tryz.func190, Tryz.ntmps190
  go_wp2_with fail
  refine (HF.out _ (h.setOnes (o + 1) _ (by omega)) (by simp) ((Ext.refl _ _).set 3 _)).mono ?_
  intro e w2 hq
  have hx1 : Ext p.pb w (w.setCell ⟨p.pb, 3, none⟩ (.int .i64 ((o : Int) + 1))) := (Ext.refl _ _).set 3 _
  have HX1 : Hid (Ext p.pb w (w.setCell ⟨p.pb, 3, none⟩ (.int .i64 ((o : Int) + 1)))) := hx1
  clear hx1 c3 f3
  rcases res with er | ⟨x, r1⟩
  · obtain ⟨ht, hx⟩ := hq
    obtain ⟨ab, h1, rfl, h2, h3⟩ := ht.out
    go_wp2_with fail
    exact ⟨rfl, thrown_up HX1.out ht hx⟩
  · obtain ⟨v, rfl, hv, hst, hx⟩ := hq
    have c3 := hst.c3
    have f3 := hst.fz 3
    go_wp2_with fail
    go_ret
    refine ⟨_, rfl, ?_, hst.setOnes o _ (by omega), (HX1.out.trans hx).set 3 _⟩
    refine VX.ext ((Ext.refl _ _).set 3 _) hpl ?_
    simpa using hv
end Go.Proofs.YtibncofnnlbmcaaGreatDoor
