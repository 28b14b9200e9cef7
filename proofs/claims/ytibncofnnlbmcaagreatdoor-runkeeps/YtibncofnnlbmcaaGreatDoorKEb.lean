import Derived.Test.YtibncofnnlbmcaaGreatDoorKEa
import Derived.Test.YtibncofnnlbmcaaGreatDoorKMf
set_option maxRecDepth 100000
set_option maxHeartbeats 4000000
namespace Go.Proofs.YtibncofnnlbmcaaGreatDoor
open Go.RowKit Go.ChangeShapes Go.ChangeAt Go.WideShapes
set_option linter.unusedSimpArgs false
theorem gErr:Tryz.prog.globalNamed "errors.errorType"=some 0:=by kernel_rfl
theorem rtRow:(Tryz.prog.cutTypes.find? (·.1 == "internal/reflectlite.rtype")).map (·.2)=some 223:=by kernel_rfl
theorem oneRow:((List.range 332).filter fun t=>Tryz.prog.rowNamed t [101,114,114,111,114])=[38]:=by kernel_rfl
theorem sizeRow:Tryz.prog.types.size<=332:=of_decide_eq_true (by kernel_rfl)
theorem vars_ofA {W:World}(h:laidMetH Tryz.prog Rows.runRefusesRow.laid W):VarsC W.heap.size W:=by
 have hh:=laidMetH_iff.1 h
 have h':laidMet Tryz.prog [("math/bits.deBruijn32tab",Rows.laid_math_bits_deBruijn32tab),("math/bits.deBruijn64tab",Rows.laid_math_bits_deBruijn64tab),("internal/strconv.uint64pow10",Rows.laid_internal_strconv_uint64pow10),("marquetry/tree.levels",Rows.laid_marquetry_tree_levels),("marquetry/tree.marks",Rows.laid_marquetry_tree_marks)] W:=hh.1
 obtain⟨ps,⟨g1,t1,c1,f1,p1,q1,_,_,_,_,⟨g2,t2,c2,f2,p2,q2,_,_,_,_,⟨g3,t3,c3,f3,p3,q3,_,_,_,_,⟨g4,t4,c4,f4,p4,q4,b1,b2,b3,b4,⟨g5,t5,c5,f5,p5,q5,d1,d2,d3,d4,_⟩,_⟩,_⟩,_⟩,_⟩,_⟩:=h'
 obtain rfl:=Option.some.inj (gLevels.symm.trans b1)
 obtain rfl:=Option.some.inj (gLevelsT.symm.trans b2)
 obtain rfl:=Option.some.inj (gMarks.symm.trans d1)
 obtain rfl:=Option.some.inj (gMarksT.symm.trans d2)
 have hm:=strs_of Tryz.underlying174 d4
 have hl:=ranks_of Tryz.underlying285 b4
 have he:handlesMet Tryz.prog [("errors.errorType",Rows.laid_errors_errorType)] W:=hh.2
 obtain⟨name,u,ty,e1,e2,e3,e4,e5⟩:=he _ (List.mem_singleton.2 rfl)
 have en:name=[101,114,114,111,114]:=(Option.some.inj e1).symm
 subst en
 obtain rfl:=Option.some.inj (rtRow.symm.trans e2)
 have hmm:ty∈(List.range 332).filter fun t=>Tryz.prog.rowNamed t [101,114,114,111,114]:=List.mem_filter.2 ⟨List.mem_range.2 (Nat.lt_of_lt_of_le e3 sizeRow),e4⟩
 rw[oneRow]at hmm
 obtain rfl:=List.mem_singleton.1 hmm
 have hhd:typeHandle Tryz.prog 38=.pointer (some ⟨7,38,none⟩):=by kernel_rfl
 rw[hhd]at e5
 have hcell:=World.var?_cell gErr e5 0
 refine⟨⟨vk gMarks d3,fun i hi=>?_⟩,⟨vk gLevels b3,fun i hi=>?_⟩,by unfold ErT;simpa using hcell,vk gMarks d3,vk gLevels b3,vk gErr e5⟩
 ·rw[World.var?_cell gMarks d3 i,<-Array.getElem?_toList]
  match i,hi with
  | 0,_=>exact hm 0 _ (by decide) rfl
  | 1,_=>exact hm 1 _ (by decide) rfl
  | 2,_=>exact hm 2 _ (by decide) rfl
  | 3,_=>exact hm 3 _ (by decide) rfl
  | 4,_=>exact hm 4 _ (by decide) rfl
  | 5,_=>exact hm 5 _ (by decide) rfl
  | 6,_=>exact hm 6 _ (by decide) rfl
  | 7,_=>exact hm 7 _ (by decide) rfl
  | 8,_=>exact hm 8 _ (by decide) rfl
  | 9,_=>exact hm 9 _ (by decide) rfl
  | 10,_=>exact hm 10 _ (by decide) rfl
  | 11,_=>exact hm 11 _ (by decide) rfl
  | 12,_=>exact hm 12 _ (by decide) rfl
  | 13,_=>exact hm 13 _ (by decide) rfl
  | 14,_=>exact hm 14 _ (by decide) rfl
  | 15,_=>exact hm 15 _ (by decide) rfl
  | 16,_=>exact hm 16 _ (by decide) rfl
  | 17,_=>exact hm 17 _ (by decide) rfl
  | k+18,hk=>exact absurd hk (by omega)
 ·rw[World.var?_cell gLevels b3 i,<-Array.getElem?_toList]
  match i,hi with
  | 0,_=>exact(hl 0 _ _ (by decide) rfl).1
  | 1,_=>exact(hl 0 _ _ (by decide) rfl).2
  | 2,_=>exact(hl 1 _ _ (by decide) rfl).1
  | 3,_=>exact(hl 1 _ _ (by decide) rfl).2
  | 4,_=>exact(hl 2 _ _ (by decide) rfl).1
  | 5,_=>exact(hl 2 _ _ (by decide) rfl).2
  | 6,_=>exact(hl 3 _ _ (by decide) rfl).1
  | 7,_=>exact(hl 3 _ _ (by decide) rfl).2
  | 8,_=>exact(hl 4 _ _ (by decide) rfl).1
  | 9,_=>exact(hl 4 _ _ (by decide) rfl).2
  | 10,_=>exact(hl 5 _ _ (by decide) rfl).1
  | 11,_=>exact(hl 5 _ _ (by decide) rfl).2
  | 12,_=>exact(hl 6 _ _ (by decide) rfl).1
  | 13,_=>exact(hl 6 _ _ (by decide) rfl).2
  | 14,_=>exact(hl 7 _ _ (by decide) rfl).1
  | 15,_=>exact(hl 7 _ _ (by decide) rfl).2
  | 16,_=>exact(hl 8 _ _ (by decide) rfl).1
  | 17,_=>exact(hl 8 _ _ (by decide) rfl).2
  | 18,_=>exact(hl 9 _ _ (by decide) rfl).1
  | 19,_=>exact(hl 9 _ _ (by decide) rfl).2
  | 20,_=>exact(hl 10 _ _ (by decide) rfl).1
  | 21,_=>exact(hl 10 _ _ (by decide) rfl).2
  | 22,_=>exact(hl 11 _ _ (by decide) rfl).1
  | 23,_=>exact(hl 11 _ _ (by decide) rfl).2
  | 24,_=>exact(hl 12 _ _ (by decide) rfl).1
  | 25,_=>exact(hl 12 _ _ (by decide) rfl).2
  | k+26,hk=>exact absurd hk (by omega)
end Go.Proofs.YtibncofnnlbmcaaGreatDoor
