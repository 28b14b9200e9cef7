import Derived.Test.YtibncofnnlbmcaaGreatDoorKWk
import Derived.Test.YtibncofnnlbmcaaGreatDoorRows
import Derived.Lib.LaidTab
import Derived.OpenShut
import Derived.ProofKit
import Derived.LaidHandle
import Derived.LaidSub
set_option maxRecDepth 100000
set_option maxHeartbeats 4000000
namespace Go.Proofs.YtibncofnnlbmcaaGreatDoor
open Go.RowKit Go.ChangeShapes Go.ChangeAt Go.WideShapes
set_option linter.unusedSimpArgs false
theorem gMarks:Tryz.prog.globalNamed "marquetry/tree.marks"=some 1:=by kernel_rfl
theorem gMarksT:(Tryz.prog.globals[1]?).map (·.type)=some 174:=by kernel_rfl
theorem gLevels:Tryz.prog.globalNamed "marquetry/tree.levels"=some 3:=by kernel_rfl
theorem gLevelsT:(Tryz.prog.globals[3]?).map (·.type)=some 285:=by kernel_rfl
theorem cString:Tryz.prog.cellsOf 9=1:=by kernel_rfl
theorem cInt:Tryz.prog.cellsOf 3=1:=by kernel_rfl
theorem cRanked:Tryz.prog.cellsOf 284=2:=by kernel_rfl
theorem vk {w:World}{n:String}{g:Nat}{cs:Array Value}(hg:Tryz.prog.globalNamed n=some g) (h:w.var? Tryz.prog n=some cs):g<w.heap.size:=by
 simp only [World.var?,hg,Option.bind_some]at h
 split at h
 ·rename_i h1;exact zf h1
 ·cases h
theorem strs_of {w:World}{fuel:Nat}{cs:List Value}{ds:List (DataW Unit)}{p:List MemPlace}{n t:Nat}(ht:Tryz.prog.underlying t=some (.array n 9)) (h:DataW.trod (fun _=>()) Tryz.prog w 0 (fun _=>true) false fuel t cs=some (.agg ds,p)) :
  ∀(i:Nat) (b:List UInt8),i<n->ds[i]?=some (.lit (.string b))->cs[i]?=some (.string (bs b)):=by
 obtain⟨xs,m,_,hx,hl,hn,hf⟩:=DataW.trod_array ht h
 intro i b hi hd
 have hq:=hf i hi
 rw[cString,Nat.mul_one]at hq
 have hxi:i<xs.length:=by omega
 rw[List.getElem?_eq_getElem hxi]at hq
 obtain⟨s,h1,h2,_⟩:=DataW.trod_string Tryz.underlying9 hq
 have e1:ds=xs.map (·.1):=by have:=congrArg Prod.fst hx;simpa using this
 rw[e1,List.getElem?_map,List.getElem?_eq_getElem hxi,h2]at hd
 simp at hd
 have h3:=congrArg (·[0]?) h1
 simp[List.getElem?_take,List.getElem?_drop]at h3
 rw[h3,<-hd]
 simp[bs]
theorem ranks_of {w:World}{fuel:Nat}{cs:List Value}{ds:List (DataW Unit)}{p:List MemPlace}{n t:Nat}(ht:Tryz.prog.underlying t=some (.array n 284)) (h:DataW.trod (fun _=>()) Tryz.prog w 0 (fun _=>true) false fuel t cs=some (.agg ds,p)) :
  ∀(i:Nat) (b:List UInt8) (k:Int),i<n->ds[i]?=some (.agg [.lit (.string b),.lit (.int .i64 k)])->cs[i * 2]?=some (.string (bs b))/\cs[i * 2+1]?=some (.int .i64 k):=by
 obtain⟨xs,m,_,hx,hl,hn,hf⟩:=DataW.trod_array ht h
 intro i b k hi hd
 have hq:=hf i hi
 rw[cRanked]at hq
 have hxi:i<xs.length:=by omega
 rw[List.getElem?_eq_getElem hxi]at hq
 obtain⟨y0,y1,m',h2,h3,h4,h5⟩:=trod_struct2 Tryz.underlying284 hq
 have e1:ds=xs.map (·.1):=by have:=congrArg Prod.fst hx;simpa using this
 rw[e1,List.getElem?_map,List.getElem?_eq_getElem hxi,h2]at hd
 simp only [Option.map_some,Option.some.injEq,DataW.agg.injEq,List.cons.injEq,and_true]at hd
 simp only [cString,cInt]at h4 h5
 obtain⟨s,h6,h7,_⟩:=DataW.trod_string Tryz.underlying9 h4
 obtain⟨k',h8,h9,_⟩:=DataW.trod_int Tryz.underlying3 h5
 rw[h7,h9]at hd
 simp only [DataW.lit.injEq,Lit.string.injEq,Lit.int.injEq,true_and]at hd
 have g1:=congrArg (·[0]?) h6
 have g2:=congrArg (·[0]?) h8
 simp[List.getElem?_take,List.getElem?_drop]at g1 g2
 rw[<-hd.1,<-hd.2]
 refine⟨?_,?_⟩
 ·rw[g1];simp[bs]
 ·exact g2
end Go.Proofs.YtibncofnnlbmcaaGreatDoor
