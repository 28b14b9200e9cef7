import Derived.Test.YtibncofnnlbmcaaGreatDoorKEa
import Derived.Test.YtibncofnnlbmcaaGreatDoorLMf
set_option maxRecDepth 100000
set_option maxHeartbeats 4000000
namespace Go.Proofs.YtibncofnnlbmcaaGreatDoor
open Go.RowKit Go.ChangeShapes Go.ChangeAt Go.WideShapes
set_option linter.unusedSimpArgs false
theorem gErr:Tryz.prog.globalNamed "errors.errorType"=some 0:=by kernel_rfl
theorem rtRow:(Tryz.prog.cutTypes.find? (·.1=="internal/reflectlite.rtype")).map (·.2)=some 223:=by kernel_rfl
theorem oneRow:((List.range 332).filter fun t=>Tryz.prog.rowNamed t [101,114,114,111,114])=[38]:=by kernel_rfl
theorem sizeRow:Tryz.prog.types.size<=332:=of_decide_eq_true (by kernel_rfl)
theorem vars_ofA {W:World}(h:laidMetH Tryz.prog Rows.runRefusesRow.laid W):VarsC W.heap.size W:=by
 have j:=laidMetH_iff.1 h
 have y:laidMet Tryz.prog [("math/bits.deBruijn32tab",Rows.laid_math_bits_deBruijn32tab),("math/bits.deBruijn64tab",Rows.laid_math_bits_deBruijn64tab),("internal/strconv.uint64pow10",Rows.laid_internal_strconv_uint64pow10),("marquetry/tree.levels",Rows.laid_marquetry_tree_levels),("marquetry/tree.marks",Rows.laid_marquetry_tree_marks)] W:=j.1
 obtain⟨ps,⟨I,t1,c1,D,N,S,_,_,_,_,⟨J,t2,c2,E,O,T,_,_,_,_,⟨K,t3,c3,F,P,U,_,_,_,_,⟨L,Y,B,G,Q,V,n,b2,c,o,⟨M,Z,C,H,R,X,p,q,d,r,_⟩,_⟩,_⟩,_⟩,_⟩,_⟩:=y
 obtain rfl:=Option.some.inj (gLevels.symm.trans n)
 obtain rfl:=Option.some.inj (gLevelsT.symm.trans b2)
 obtain rfl:=Option.some.inj (gMarks.symm.trans p)
 obtain rfl:=Option.some.inj (gMarksT.symm.trans q)
 have b:=strs_of Tryz.underlying174 r
 have a:=ranks_of Tryz.underlying285 o
 have z:handlesMet Tryz.prog [("errors.errorType",Rows.laid_errors_errorType)] W:=j.2
 obtain⟨name,u,A,s,v,w,x,e⟩:=z _ (List.mem_singleton.2 rfl)
 have en:name=[101,114,114,111,114]:=(Option.some.inj s).symm
 subst en
 obtain rfl:=Option.some.inj (rtRow.symm.trans v)
 have g:A∈(List.range 332).filter fun t=>Tryz.prog.rowNamed t [101,114,114,111,114]:=List.mem_filter.2 ⟨List.mem_range.2 (Nat.lt_of_lt_of_le w sizeRow),x⟩
 rw[oneRow]at g
 obtain rfl:=List.mem_singleton.1 g
 have m:typeHandle Tryz.prog 38=.pointer (some ⟨7,38,none⟩):=by kernel_rfl
 rw[m]at e
 have l:=World.var?_cell gErr e 0
 refine⟨⟨xU gMarks d,fun i f=>?_⟩,⟨xU gLevels c,fun i f=>?_⟩,by unfold ErT;simpa using l,xU gMarks d,xU gLevels c,xU gErr e⟩
 ·rw[World.var?_cell gMarks d i,<-Array.getElem?_toList]
  match i,f with
  | 0,_=>exact b 0 _ (by decide) rfl
  | 1,_=>exact b 1 _ (by decide) rfl
  | 2,_=>exact b 2 _ (by decide) rfl
  | 3,_=>exact b 3 _ (by decide) rfl
  | 4,_=>exact b 4 _ (by decide) rfl
  | 5,_=>exact b 5 _ (by decide) rfl
  | 6,_=>exact b 6 _ (by decide) rfl
  | 7,_=>exact b 7 _ (by decide) rfl
  | 8,_=>exact b 8 _ (by decide) rfl
  | 9,_=>exact b 9 _ (by decide) rfl
  | 10,_=>exact b 10 _ (by decide) rfl
  | 11,_=>exact b 11 _ (by decide) rfl
  | 12,_=>exact b 12 _ (by decide) rfl
  | 13,_=>exact b 13 _ (by decide) rfl
  | 14,_=>exact b 14 _ (by decide) rfl
  | 15,_=>exact b 15 _ (by decide) rfl
  | 16,_=>exact b 16 _ (by decide) rfl
  | 17,_=>exact b 17 _ (by decide) rfl
  |k+18,hk=>exact absurd hk (by omega)
 ·rw[World.var?_cell gLevels c i,<-Array.getElem?_toList]
  match i,f with
  | 0,_=>exact(a 0 _ _ (by decide) rfl).1
  | 1,_=>exact(a 0 _ _ (by decide) rfl).2
  | 2,_=>exact(a 1 _ _ (by decide) rfl).1
  | 3,_=>exact(a 1 _ _ (by decide) rfl).2
  | 4,_=>exact(a 2 _ _ (by decide) rfl).1
  | 5,_=>exact(a 2 _ _ (by decide) rfl).2
  | 6,_=>exact(a 3 _ _ (by decide) rfl).1
  | 7,_=>exact(a 3 _ _ (by decide) rfl).2
  | 8,_=>exact(a 4 _ _ (by decide) rfl).1
  | 9,_=>exact(a 4 _ _ (by decide) rfl).2
  | 10,_=>exact(a 5 _ _ (by decide) rfl).1
  | 11,_=>exact(a 5 _ _ (by decide) rfl).2
  | 12,_=>exact(a 6 _ _ (by decide) rfl).1
  | 13,_=>exact(a 6 _ _ (by decide) rfl).2
  | 14,_=>exact(a 7 _ _ (by decide) rfl).1
  | 15,_=>exact(a 7 _ _ (by decide) rfl).2
  | 16,_=>exact(a 8 _ _ (by decide) rfl).1
  | 17,_=>exact(a 8 _ _ (by decide) rfl).2
  | 18,_=>exact(a 9 _ _ (by decide) rfl).1
  | 19,_=>exact(a 9 _ _ (by decide) rfl).2
  | 20,_=>exact(a 10 _ _ (by decide) rfl).1
  | 21,_=>exact(a 10 _ _ (by decide) rfl).2
  | 22,_=>exact(a 11 _ _ (by decide) rfl).1
  | 23,_=>exact(a 11 _ _ (by decide) rfl).2
  | 24,_=>exact(a 12 _ _ (by decide) rfl).1
  | 25,_=>exact(a 12 _ _ (by decide) rfl).2
  |k+26,hk=>exact absurd hk (by omega)
end Go.Proofs.YtibncofnnlbmcaaGreatDoor
