import Derived.Test.YtadgeapgoggljaaGreatDoorKMa
import Derived.Lib.LaidTab
import Derived.OpenShut
import Derived.ProofKit
import Derived.LaidHandle
import Derived.LaidSub
/- What the row lists of the program's variables, as PlanStale's walk asks for it. -/
namespace Go.Proofs.YtadgeapgoggljaaGreatDoor
open Go.RowKit Go.ChangeShapes Go.ChangeAt Go.WideShapes

theorem gMarks : Tryz.prog.globalNamed "marquetry/tree.marks" = some 1 := by kernel_rfl
theorem gMarksT : (Tryz.prog.globals[1]?).map (·.type) = some 155 := by kernel_rfl
theorem gLevels : Tryz.prog.globalNamed "marquetry/tree.levels" = some 4 := by kernel_rfl
theorem gLevelsT : (Tryz.prog.globals[4]?).map (·.type) = some 213 := by kernel_rfl
theorem cString : Tryz.prog.cellsOf 9 = 1 := by kernel_rfl
theorem cInt : Tryz.prog.cellsOf 3 = 1 := by kernel_rfl
theorem cRanked : Tryz.prog.cellsOf 212 = 2 := by kernel_rfl
theorem var_lt {w : World} {n : String} {g : Nat} {cs : Array Value} (hg : Tryz.prog.globalNamed n = some g) (h : w.var? Tryz.prog n = some cs) : g < w.heap.size := by
  simp only [World.var?, hg, Option.bind_some] at h
  split at h
  · rename_i h1; exact lt_blk h1
  · cases h
theorem strs_of {w : World} {fuel : Nat} {cs : List Value} {ds : List (DataW Unit)} {p : List MemPlace} {n t : Nat} (ht : Tryz.prog.underlying t = some (.array n 9)) (h : DataW.trod (fun _ => ()) Tryz.prog w 0 (fun _ => true) false fuel t cs = some (.agg ds, p)) :
    ∀ (i : Nat) (b : List UInt8), i < n → ds[i]? = some (.lit (.string b)) → cs[i]? = some (.string (bs b)) := by
  obtain ⟨xs, m, _, hx, hl, hn, hf⟩ := DataW.trod_array ht h
  intro i b hi hd
  have hq := hf i hi
  rw [cString, Nat.mul_one] at hq
  have hxi : i < xs.length := by omega
  rw [List.getElem?_eq_getElem hxi] at hq
  obtain ⟨s, h1, h2, _⟩ := DataW.trod_string Tryz.underlying9 hq
  have e1 : ds = xs.map (·.1) := by have := congrArg Prod.fst hx; simpa using this
  rw [e1, List.getElem?_map, List.getElem?_eq_getElem hxi, h2] at hd
  simp at hd
  have h3 := congrArg (·[0]?) h1
  simp [List.getElem?_drop] at h3
  rw [h3, ← hd]
  simp [bs]
theorem ranks_of {w : World} {fuel : Nat} {cs : List Value} {ds : List (DataW Unit)} {p : List MemPlace} {n t : Nat} (ht : Tryz.prog.underlying t = some (.array n 212)) (h : DataW.trod (fun _ => ()) Tryz.prog w 0 (fun _ => true) false fuel t cs = some (.agg ds, p)) :
    ∀ (i : Nat) (b : List UInt8) (k : Int), i < n → ds[i]? = some (.agg [.lit (.string b), .lit (.int .i64 k)]) → cs[i * 2]? = some (.string (bs b)) ∧ cs[i * 2 + 1]? = some (.int .i64 k) := by
  obtain ⟨xs, m, _, hx, hl, hn, hf⟩ := DataW.trod_array ht h
  intro i b k hi hd
  have hq := hf i hi
  rw [cRanked] at hq
  have hxi : i < xs.length := by omega
  rw [List.getElem?_eq_getElem hxi] at hq
  obtain ⟨y0, y1, m', h2, h3, h4, h5⟩ := trod_struct2 Tryz.underlying212 hq
  have e1 : ds = xs.map (·.1) := by have := congrArg Prod.fst hx; simpa using this
  rw [e1, List.getElem?_map, List.getElem?_eq_getElem hxi, h2] at hd
  simp only [Option.map_some, Option.some.injEq, DataW.agg.injEq, List.cons.injEq, and_true] at hd
  simp only [cString, cInt] at h4 h5
  obtain ⟨s, h6, h7, _⟩ := DataW.trod_string Tryz.underlying9 h4
  obtain ⟨k', h8, h9, _⟩ := DataW.trod_int Tryz.underlying3 h5
  rw [h7, h9] at hd
  simp only [DataW.lit.injEq, Lit.string.injEq, Lit.int.injEq, true_and] at hd
  have g1 := congrArg (·[0]?) h6
  have g2 := congrArg (·[0]?) h8
  simp [List.getElem?_drop] at g1 g2
  rw [← hd.1, ← hd.2]
  refine ⟨?_, ?_⟩
  · rw [g1]; simp [bs]
  · exact g2
theorem gErr : Tryz.prog.globalNamed "errors.errorType" = some 0 := by kernel_rfl
theorem rtRow : (Tryz.prog.cutTypes.find? (·.1 == "internal/reflectlite.rtype")).map (·.2) = some 171 := by kernel_rfl
theorem oneRow : ((List.range 244).filter fun t => Tryz.prog.rowNamed t [101, 114, 114, 111, 114]) = [40] := by kernel_rfl
theorem sizeRow : Tryz.prog.types.size ≤ 244 := of_decide_eq_true (by kernel_rfl)
theorem vars_ofP {W : World} (h : laidMetH Tryz.prog Rows.planStaleRow.laid W) : VarsC W.heap.size W := by
  have hh := laidMetH_iff.1 h
  have h' : laidMet Tryz.prog [("math/bits.deBruijn32tab", Rows.laid_math_bits_deBruijn32tab), ("math/bits.deBruijn64tab", Rows.laid_math_bits_deBruijn64tab), ("internal/strconv.uint64pow10", Rows.laid_internal_strconv_uint64pow10), ("marquetry/tree.levels", Rows.laid_marquetry_tree_levels), ("marquetry/tree.marks", Rows.laid_marquetry_tree_marks)] W := hh.1
  obtain ⟨ps, ⟨g1, t1, c1, f1, p1, q1, _, _, _, _, ⟨g2, t2, c2, f2, p2, q2, _, _, _, _, ⟨g3, t3, c3, f3, p3, q3, _, _, _, _, ⟨g4, t4, c4, f4, p4, q4, b1, b2, b3, b4, ⟨g5, t5, c5, f5, p5, q5, d1, d2, d3, d4, _⟩, _⟩, _⟩, _⟩, _⟩, _⟩ := h'
  obtain rfl := Option.some.inj (gLevels.symm.trans b1)
  obtain rfl := Option.some.inj (gLevelsT.symm.trans b2)
  obtain rfl := Option.some.inj (gMarks.symm.trans d1)
  obtain rfl := Option.some.inj (gMarksT.symm.trans d2)
  have hm := strs_of Tryz.underlying155 d4
  have hl := ranks_of Tryz.underlying213 b4
  have he : handlesMet Tryz.prog [("errors.errorType", Rows.laid_errors_errorType)] W := hh.2
  obtain ⟨name, u, ty, e1, e2, e3, e4, e5⟩ := he _ (List.mem_singleton.2 rfl)
  have en : name = [101, 114, 114, 111, 114] := (Option.some.inj e1).symm
  subst en
  obtain rfl := Option.some.inj (rtRow.symm.trans e2)
  have hmm : ty ∈ (List.range 244).filter fun t => Tryz.prog.rowNamed t [101, 114, 114, 111, 114] := List.mem_filter.2 ⟨List.mem_range.2 (Nat.lt_of_lt_of_le e3 sizeRow), e4⟩
  rw [oneRow] at hmm
  obtain rfl := List.mem_singleton.1 hmm
  have hhd : typeHandle Tryz.prog 40 = .pointer (some ⟨7, 40, none⟩) := by kernel_rfl
  rw [hhd] at e5
  have hcell := World.var?_cell gErr e5 0
  refine ⟨⟨var_lt gMarks d3, fun i hi => ?_⟩, ⟨var_lt gLevels b3, fun i hi => ?_⟩, by unfold ErT; simpa using hcell, var_lt gMarks d3, var_lt gLevels b3, var_lt gErr e5⟩
  · rw [World.var?_cell gMarks d3 i, ← Array.getElem?_toList]
    match i, hi with
    | 0, _ => exact hm 0 _ (by decide) rfl
    | 1, _ => exact hm 1 _ (by decide) rfl
    | 2, _ => exact hm 2 _ (by decide) rfl
    | 3, _ => exact hm 3 _ (by decide) rfl
    | 4, _ => exact hm 4 _ (by decide) rfl
    | 5, _ => exact hm 5 _ (by decide) rfl
    | 6, _ => exact hm 6 _ (by decide) rfl
    | 7, _ => exact hm 7 _ (by decide) rfl
    | 8, _ => exact hm 8 _ (by decide) rfl
    | 9, _ => exact hm 9 _ (by decide) rfl
    | 10, _ => exact hm 10 _ (by decide) rfl
    | 11, _ => exact hm 11 _ (by decide) rfl
    | 12, _ => exact hm 12 _ (by decide) rfl
    | 13, _ => exact hm 13 _ (by decide) rfl
    | 14, _ => exact hm 14 _ (by decide) rfl
    | 15, _ => exact hm 15 _ (by decide) rfl
    | 16, _ => exact hm 16 _ (by decide) rfl
    | 17, _ => exact hm 17 _ (by decide) rfl
    | k + 18, hk => exact absurd hk (by omega)
  · rw [World.var?_cell gLevels b3 i, ← Array.getElem?_toList]
    match i, hi with
    | 0, _ => exact (hl 0 _ _ (by decide) rfl).1
    | 1, _ => exact (hl 0 _ _ (by decide) rfl).2
    | 2, _ => exact (hl 1 _ _ (by decide) rfl).1
    | 3, _ => exact (hl 1 _ _ (by decide) rfl).2
    | 4, _ => exact (hl 2 _ _ (by decide) rfl).1
    | 5, _ => exact (hl 2 _ _ (by decide) rfl).2
    | 6, _ => exact (hl 3 _ _ (by decide) rfl).1
    | 7, _ => exact (hl 3 _ _ (by decide) rfl).2
    | 8, _ => exact (hl 4 _ _ (by decide) rfl).1
    | 9, _ => exact (hl 4 _ _ (by decide) rfl).2
    | 10, _ => exact (hl 5 _ _ (by decide) rfl).1
    | 11, _ => exact (hl 5 _ _ (by decide) rfl).2
    | 12, _ => exact (hl 6 _ _ (by decide) rfl).1
    | 13, _ => exact (hl 6 _ _ (by decide) rfl).2
    | 14, _ => exact (hl 7 _ _ (by decide) rfl).1
    | 15, _ => exact (hl 7 _ _ (by decide) rfl).2
    | 16, _ => exact (hl 8 _ _ (by decide) rfl).1
    | 17, _ => exact (hl 8 _ _ (by decide) rfl).2
    | 18, _ => exact (hl 9 _ _ (by decide) rfl).1
    | 19, _ => exact (hl 9 _ _ (by decide) rfl).2
    | 20, _ => exact (hl 10 _ _ (by decide) rfl).1
    | 21, _ => exact (hl 10 _ _ (by decide) rfl).2
    | 22, _ => exact (hl 11 _ _ (by decide) rfl).1
    | 23, _ => exact (hl 11 _ _ (by decide) rfl).2
    | 24, _ => exact (hl 12 _ _ (by decide) rfl).1
    | 25, _ => exact (hl 12 _ _ (by decide) rfl).2
    | k + 26, hk => exact absurd hk (by omega)
end Go.Proofs.YtadgeapgoggljaaGreatDoor
