import Derived.Test.YthnoedjbhbkdeaaGreatDoorKTd
import Derived.Lib.LaidTab
import Derived.OpenShut
import Derived.ProofKit
import Derived.LaidHandle
import Derived.LaidSub
import Derived.Shelf.Vars
set_option maxRecDepth 100000
set_option maxHeartbeats 4000000
namespace Go.Proofs.YthnoedjbhbkdeaaGreatDoor
open Go.RowKit Go.ChangeShapes Go.ChangeAt Go.WideShapes
theorem gMarks:Tryz.prog.globalNamed "marquetry/tree.marks"=some 1:=by kernel_rfl
theorem gMarksT:(Tryz.prog.globals[1]?).map (·.type)=some 206:=by kernel_rfl
theorem gLevels:Tryz.prog.globalNamed "marquetry/tree.levels"=some 5:=by kernel_rfl
theorem gLevelsT:(Tryz.prog.globals[5]?).map (·.type)=some 269:=by kernel_rfl
theorem cString:Tryz.prog.cellsOf 9=1:=by kernel_rfl
theorem cInt:Tryz.prog.cellsOf 3=1:=by kernel_rfl
theorem cRanked:Tryz.prog.cellsOf 268=2:=by kernel_rfl
theorem var_lt {w:World}{n:String}{g:Nat}{cs:Array Value}(hg:Tryz.prog.globalNamed n=some g) (h:w.var? Tryz.prog n=some cs):g<w.heap.size:=by
 simp only [World.var?,hg,Option.bind_some]at h
 split at h
 ·rename_i h1;exact zc h1
 ·cases h
theorem strs_of {w:World}{fuel:Nat}{cs:List Value}{ds:List (DataW Unit)}{p:List MemPlace}{n t:Nat}(ht:Tryz.prog.underlying t=some (.array n 9)) (h:DataW.trod (fun _=>()) Tryz.prog w 0 (fun _=>true) false fuel t cs=some (.agg ds,p)) :
  ∀(i:Nat) (b:List UInt8),i<n->ds[i]?=some (.lit (.string b))->cs[i]?=some (.string (bs b)):=by
 obtain⟨xs,m,_,hx,hl,hn,hf⟩:=DataW.trod_array ht h
 intro i b hi hd
 have hq:=hf i hi
 rw[cString,Nat.mul_one]at hq
 have hxi:i<xs.length:=by omega
 rw[List.getElem?_eq_getElem hxi]at hq
 obtain⟨s,h1,h2,_⟩:=DataW.trod_string Tryz.underlying9 hq
 have e1:ds=xs.map (·.1):=by have:=congrArg Prod.fst hx;simpa using this
 rw[e1,List.getElem?_map,List.getElem?_eq_getElem hxi,h2]at hd
 simp at hd
 have h3:=congrArg (·[0]?) h1
 simp[List.getElem?_drop]at h3
 rw[h3,<-hd]
 simp[bs]
theorem ranks_of {w:World}{fuel:Nat}{cs:List Value}{ds:List (DataW Unit)}{p:List MemPlace}{n t:Nat}(ht:Tryz.prog.underlying t=some (.array n 268)) (h:DataW.trod (fun _=>()) Tryz.prog w 0 (fun _=>true) false fuel t cs=some (.agg ds,p)) :
  ∀(i:Nat) (b:List UInt8) (k:Int),i<n->ds[i]?=some (.agg [.lit (.string b),.lit (.int .i64 k)])->cs[i * 2]?=some (.string (bs b))/\cs[i * 2+1]?=some (.int .i64 k):=by
 obtain⟨xs,m,_,hx,hl,hn,hf⟩:=DataW.trod_array ht h
 intro i b k hi hd
 have hq:=hf i hi
 rw[cRanked]at hq
 have hxi:i<xs.length:=by omega
 rw[List.getElem?_eq_getElem hxi]at hq
 obtain⟨y0,y1,m',h2,h3,h4,h5⟩:=trod_struct2 Tryz.underlying268 hq
 have e1:ds=xs.map (·.1):=by have:=congrArg Prod.fst hx;simpa using this
 rw[e1,List.getElem?_map,List.getElem?_eq_getElem hxi,h2]at hd
 simp only [Option.map_some,Option.some.injEq,DataW.agg.injEq,List.cons.injEq,and_true]at hd
 simp only [cString,cInt]at h4 h5
 obtain⟨s,h6,h7,_⟩:=DataW.trod_string Tryz.underlying9 h4
 obtain⟨k',h8,h9,_⟩:=DataW.trod_int Tryz.underlying3 h5
 rw[h7,h9]at hd
 simp only [DataW.lit.injEq,Lit.string.injEq,Lit.int.injEq,true_and]at hd
 have g1:=congrArg (·[0]?) h6
 have g2:=congrArg (·[0]?) h8
 simp[List.getElem?_drop]at g1 g2
 rw[<-hd.1,<-hd.2]
 refine⟨?_,?_⟩
 ·rw[g1];simp[bs]
 ·exact g2
theorem gErr:Tryz.prog.globalNamed "errors.errorType"=some 4:=by kernel_rfl
theorem rtRow:(Tryz.prog.cutTypes.find? (·.1 == "internal/reflectlite.rtype")).map (·.2)=some 222:=by kernel_rfl
theorem oneRow:((List.range 338).filter fun t=>Tryz.prog.rowNamed t [101,114,114,111,114])=[34]:=by kernel_rfl
theorem sizeRow:Tryz.prog.types.size<=338:=of_decide_eq_true (by kernel_rfl)
theorem gFine:Tryz.prog.globalNamed "marquetry/marquetryref.Fine"=some 0:=by kernel_rfl
theorem gFineT:(Tryz.prog.globals[0]?).map (·.type)=some 30:=by kernel_rfl
theorem gRlev:Tryz.prog.globalNamed "marquetry/marquetryref.levels"=some 2:=by kernel_rfl
theorem gRlevT:(Tryz.prog.globals[2]?).map (·.type)=some 220:=by kernel_rfl
theorem gRange:Tryz.prog.globalNamed "strconv.ErrRange"=some 7:=by kernel_rfl
theorem gRangeT:(Tryz.prog.globals[7]?).map (·.type)=some 34:=by kernel_rfl
theorem cErrno:Tryz.prog.cellsOf 28=1:=by kernel_rfl
theorem iface_of {P:Program}{w:World}{fuel t:Nat}{cs:List Value}{y:DataW Unit× List MemPlace}{ms:_}(ht:P.underlying t=some (.interface ms)) (h:DataW.trod (fun _=>()) P w 0 (fun _=>true) false fuel t cs=some y):∃ ev,cs=[ev]/\(ev=.nilIface\/∃ te pe,ev=.iface te pe):=by
 cases fuel with
 | zero=>simp[DataW.trod]at h
 | succ n =>
  match cs,h with
  | [],h=>simp[DataW.trod,ht]at h
  | [v],h =>
   refine⟨v,rfl,?_⟩
   cases v <;> first|exact Or.inl rfl|exact Or.inr ⟨_,_,rfl⟩|(simp[DataW.trod,ht]at h)
  | _ :: _ :: _,h=>simp[DataW.trod,ht]at h
theorem fine_of {w:World}{fuel:Nat}{cs:List Value}{p:List MemPlace}(h:DataW.trod (fun _=>()) Tryz.prog w 0 (fun _=>true) false fuel 30 cs=some (.agg [.lit (.int .i64 0),.lit (.int .i64 (-1))],p)):cs[0]?=some (.int .i64 0)/\cs[1]?=some (.int .i64 (-1)):=by
 obtain⟨y0,y1,m',h2,h3,h4,h5⟩:=trod_struct2 Tryz.underlying30 h
 have h2:=congrArg Prod.fst h2
 simp only [DataW.agg.injEq,List.cons.injEq,and_true]at h2
 simp only [cErrno,cInt]at h4 h5
 obtain⟨k,h6,h7,_⟩:=DataW.trod_int Tryz.underlying28 h4
 obtain⟨k',h8,h9,_⟩:=DataW.trod_int Tryz.underlying3 h5
 rw[h7,h9]at h2
 simp only [DataW.lit.injEq,Lit.int.injEq,true_and]at h2
 have g1:=congrArg (·[0]?) h6
 have g2:=congrArg (·[0]?) h8
 simp at g1 g2
 rw[<-h2.1]at g1
 rw[<-h2.2]at g2
 exact⟨g1,g2⟩
theorem vars_ofS {W:World}(h:laidMetH Tryz.prog Rows.symTellsRow.laid W) (hS:W.ShapedOpen Tryz.prog):Gl W/\Mk W/\Lv W/\Hnd W:=by
 have hh:=laidMetH_iff.1 h
 have h':laidMet Tryz.prog [("math/bits.deBruijn32tab",Rows.laid_math_bits_deBruijn32tab),("math/bits.deBruijn64tab",Rows.laid_math_bits_deBruijn64tab),("internal/strconv.uint64pow10",Rows.laid_internal_strconv_uint64pow10),("strconv.ErrRange",Rows.laid_strconv_ErrRange),("strconv.ErrSyntax",Rows.laid_strconv_ErrSyntax),("marquetry/marquetryref.Fine",Rows.laid_marquetry_marquetryref_Fine),("marquetry/marquetryref.levels",Rows.laid_marquetry_marquetryref_levels),("marquetry/tree.levels",Rows.laid_marquetry_tree_levels),("marquetry/tree.marks",Rows.laid_marquetry_tree_marks)] W:=hh.1
 obtain⟨ps,⟨aG,aT,aC,aF,aP,aQ,a1,a2,a3,a4,⟨bG,bT,bC,bF,bP,bQ,b1,b2,b3,b4,⟨cG,cT,cC,cF,cP,cQ,c1,c2,c3,c4,⟨dG,dT,dC,dF,dP,dQ,d1,d2,d3,d4,⟨eG,eT,eC,eF,eP,eQ,e1,e2,e3,e4,⟨fG,fT,fC,fF,fP,fQ,f1,f2,f3,f4,⟨gG,gT,gC,gF,gP,gQ,g1,g2,g3,g4,⟨hG,hT,hC,hF,hP,hQ,h1,h2,h3,h4,⟨iG,iT,iC,iF,iP,iQ,i1,i2,i3,i4,_⟩,_⟩,_⟩,_⟩,_⟩,_⟩,_⟩,_⟩,_⟩,_⟩:=h'
 obtain rfl:=Option.some.inj (gRange.symm.trans d1)
 obtain rfl:=Option.some.inj (gRangeT.symm.trans d2)
 obtain rfl:=Option.some.inj (gFine.symm.trans f1)
 obtain rfl:=Option.some.inj (gFineT.symm.trans f2)
 obtain rfl:=Option.some.inj (gRlev.symm.trans g1)
 obtain rfl:=Option.some.inj (gRlevT.symm.trans g2)
 obtain rfl:=Option.some.inj (gLevels.symm.trans h1)
 obtain rfl:=Option.some.inj (gLevelsT.symm.trans h2)
 obtain rfl:=Option.some.inj (gMarks.symm.trans i1)
 obtain rfl:=Option.some.inj (gMarksT.symm.trans i2)
 have hm:=strs_of Tryz.underlying206 i4
 have hl:=ranks_of Tryz.underlying269 h4
 have hr:=strs_of Tryz.underlying220 g4
 have hf:=fine_of f4
 obtain⟨ev,hev,hev2⟩:=iface_of Tryz.underlying34 d4
 have he:handlesMet Tryz.prog [("errors.errorType",Rows.laid_errors_errorType)] W:=hh.2
 obtain⟨name,u,ty,e1,e2,e3,e4,e5⟩:=he _ (List.mem_singleton.2 rfl)
 have en:name=[101,114,114,111,114]:=(Option.some.inj e1).symm
 subst en
 obtain rfl:=Option.some.inj (rtRow.symm.trans e2)
 have hmm:ty∈(List.range 338).filter fun t=>Tryz.prog.rowNamed t [101,114,114,111,114]:=List.mem_filter.2 ⟨List.mem_range.2 (Nat.lt_of_lt_of_le e3 sizeRow),e4⟩
 rw[oneRow]at hmm
 obtain rfl:=List.mem_singleton.1 hmm
 have hhd:typeHandle Tryz.prog 34=.pointer (some ⟨13,34,none⟩):=by kernel_rfl
 rw[hhd]at e5
 have hcell:=World.var?_cell gErr e5 0
 have hml:=cell_of_shapedOpen_int (g:=3) (t:=3) (zero:=#[.int .i64 0]) (k:=.i64) hS (of_decide_eq_true (by kernel_rfl)) (by kernel_rfl) rfl (by kernel_rfl) (by kernel_rfl) Tryz.underlying3
 refine⟨⟨?_,?_,hml,fun i hi=>?_,ev,?_,hev2⟩,⟨var_lt gMarks i3,fun i hi=>?_⟩,⟨var_lt gLevels h3,fun i hi=>?_⟩,by unfold Hnd;simpa using hcell⟩
 ·rw[World.var?_cell gFine f3 0,<-Array.getElem?_toList];exact hf.1
 ·rw[World.var?_cell gFine f3 1,<-Array.getElem?_toList];exact hf.2
 ·rw[World.var?_cell gRlev g3 i,<-Array.getElem?_toList]
  match i,hi with
  | 0,_=>exact hr 0 _ (by decide) rfl
  | 1,_=>exact hr 1 _ (by decide) rfl
  | 2,_=>exact hr 2 _ (by decide) rfl
  | 3,_=>exact hr 3 _ (by decide) rfl
  | 4,_=>exact hr 4 _ (by decide) rfl
  | k+5,hk=>exact absurd hk (by omega)
 ·rw[World.var?_cell gRange d3 0,<-Array.getElem?_toList,hev];rfl
 ·rw[World.var?_cell gMarks i3 i,<-Array.getElem?_toList]
  match i,hi with
  | 0,_=>exact hm 0 _ (by decide) rfl
  | 1,_=>exact hm 1 _ (by decide) rfl
  | 2,_=>exact hm 2 _ (by decide) rfl
  | 3,_=>exact hm 3 _ (by decide) rfl
  | 4,_=>exact hm 4 _ (by decide) rfl
  | 5,_=>exact hm 5 _ (by decide) rfl
  | 6,_=>exact hm 6 _ (by decide) rfl
  | 7,_=>exact hm 7 _ (by decide) rfl
  | 8,_=>exact hm 8 _ (by decide) rfl
  | 9,_=>exact hm 9 _ (by decide) rfl
  | 10,_=>exact hm 10 _ (by decide) rfl
  | 11,_=>exact hm 11 _ (by decide) rfl
  | 12,_=>exact hm 12 _ (by decide) rfl
  | 13,_=>exact hm 13 _ (by decide) rfl
  | 14,_=>exact hm 14 _ (by decide) rfl
  | 15,_=>exact hm 15 _ (by decide) rfl
  | 16,_=>exact hm 16 _ (by decide) rfl
  | 17,_=>exact hm 17 _ (by decide) rfl
  | k+18,hk=>exact absurd hk (by omega)
 ·rw[World.var?_cell gLevels h3 i,<-Array.getElem?_toList]
  match i,hi with
  | 0,_=>exact(hl 0 _ _ (by decide) rfl).1
  | 1,_=>exact(hl 0 _ _ (by decide) rfl).2
  | 2,_=>exact(hl 1 _ _ (by decide) rfl).1
  | 3,_=>exact(hl 1 _ _ (by decide) rfl).2
  | 4,_=>exact(hl 2 _ _ (by decide) rfl).1
  | 5,_=>exact(hl 2 _ _ (by decide) rfl).2
  | 6,_=>exact(hl 3 _ _ (by decide) rfl).1
  | 7,_=>exact(hl 3 _ _ (by decide) rfl).2
  | 8,_=>exact(hl 4 _ _ (by decide) rfl).1
  | 9,_=>exact(hl 4 _ _ (by decide) rfl).2
  | 10,_=>exact(hl 5 _ _ (by decide) rfl).1
  | 11,_=>exact(hl 5 _ _ (by decide) rfl).2
  | 12,_=>exact(hl 6 _ _ (by decide) rfl).1
  | 13,_=>exact(hl 6 _ _ (by decide) rfl).2
  | 14,_=>exact(hl 7 _ _ (by decide) rfl).1
  | 15,_=>exact(hl 7 _ _ (by decide) rfl).2
  | 16,_=>exact(hl 8 _ _ (by decide) rfl).1
  | 17,_=>exact(hl 8 _ _ (by decide) rfl).2
  | 18,_=>exact(hl 9 _ _ (by decide) rfl).1
  | 19,_=>exact(hl 9 _ _ (by decide) rfl).2
  | 20,_=>exact(hl 10 _ _ (by decide) rfl).1
  | 21,_=>exact(hl 10 _ _ (by decide) rfl).2
  | 22,_=>exact(hl 11 _ _ (by decide) rfl).1
  | 23,_=>exact(hl 11 _ _ (by decide) rfl).2
  | 24,_=>exact(hl 12 _ _ (by decide) rfl).1
  | 25,_=>exact(hl 12 _ _ (by decide) rfl).2
  | k+26,hk=>exact absurd hk (by omega)
end Go.Proofs.YthnoedjbhbkdeaaGreatDoor
