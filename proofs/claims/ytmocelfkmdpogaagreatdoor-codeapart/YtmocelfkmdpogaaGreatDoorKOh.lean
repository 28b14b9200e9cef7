/- CodeApart: what a module's object is does not hang on what is within others: for every text and list of texts, where of all others just what is used is seen, the object's bytes are the same: the call returns true. -/
import Derived.Test.YtmocelfkmdpogaaGreatDoorKOg
import Derived.Lib.LaidTab
import Derived.OpenShut
import Derived.ProofKit
import Derived.LaidHandle
import Derived.LaidSub
import Derived.Test.YtmocelfkmdpogaaGreatDoorCards
import Derived.Test.YtmocelfkmdpogaaGreatDoorTie
import Derived.Deep.DeepHandedRow
import Derived.SliceStrings
set_option maxRecDepth 100000
set_option maxHeartbeats 4000000
namespace Go.Proofs.YtmocelfkmdpogaaGreatDoor
open Go.RowKit Go.ChangeShapes Go.ChangeAt Go.WideShapes
theorem gMarks:Tryz.prog.globalNamed "marquetry/tree.marks"=some 0:=by kernel_rfl
theorem gMarksT:(Tryz.prog.globals[0]?).map (·.type)=some 160:=by kernel_rfl
theorem gLevels:Tryz.prog.globalNamed "marquetry/tree.levels"=some 2:=by kernel_rfl
theorem gLevelsT:(Tryz.prog.globals[2]?).map (·.type)=some 253:=by kernel_rfl
theorem cString:Tryz.prog.cellsOf 9=1:=by kernel_rfl
theorem cInt:Tryz.prog.cellsOf 3=1:=by kernel_rfl
theorem cRanked:Tryz.prog.cellsOf 252=2:=by kernel_rfl
theorem vK {w:World}{n:String}{g:Nat}{a:Array Value}(c:Tryz.prog.globalNamed n=some g)(h:w.var? Tryz.prog n=some a):g<w.heap.size:=by
 simp only[World.var?,c,Option.bind_some]at h
 split at h
 ·rename_i b;exact zi b
 ·cases h
theorem strs_ofV {w:World}{j:Nat}{e:List Value}{a:List (DataW Unit)}{p:List MemPlace}{n t:Nat}(u:Tryz.prog.underlying t=some (.array n 9))(h:DataW.trod (fun _=>()) Tryz.prog w 0 (fun _=>true) false j t e=some (.agg a,p)) :
  ∀(i:Nat) (b:List UInt8),i<n->a[i]?=some (.lit (.string b))->e[i]?=some (.string (bs b)):=by
 obtain⟨g,m,_,v,x,y,q⟩:=DataW.trod_array u h
 intro i b r hd
 have c:=q i r
 rw[cString,Nat.mul_one]at c
 have d:i<g.length:=by omega
 rw[List.getElem?_eq_getElem d]at c
 obtain⟨s,l,o,_⟩:=DataW.trod_string Tryz.underlying9 c
 have k:a=g.map (·.1):=by have:=congrArg Prod.fst v;simpa using this
 rw[k,List.getElem?_map,List.getElem?_eq_getElem d,o]at hd
 simp at hd
 have f:=congrArg (·[0]?) l
 simp[List.getElem?_drop]at f
 rw[f,<-hd]
 simp[bs]
theorem ranks_of {w:World}{q:Nat}{a:List Value}{c:List (DataW Unit)}{p:List MemPlace}{n t:Nat}(C:Tryz.prog.underlying t=some (.array n 252))(h:DataW.trod (fun _=>()) Tryz.prog w 0 (fun _=>true) false q t a=some (.agg c,p)) :
  ∀(i:Nat) (b:List UInt8) (k:Int),i<n->c[i]?=some (.agg [.lit (.string b),.lit (.int .i64 k)])->a[i*2]?=some (.string (bs b))/\a[i*2+1]?=some (.int .i64 k):=by
 obtain⟨o,m,_,D,F,G,A⟩:=DataW.trod_array C h
 intro i b k B hd
 have d:=A i B
 rw[cRanked]at d
 have e:i<o.length:=by omega
 rw[List.getElem?_eq_getElem e]at d
 obtain⟨J,K,I,u,E,j,l⟩:=trod_struct2 Tryz.underlying252 d
 have r:c=o.map (·.1):=by have:=congrArg Prod.fst D;simpa using this
 rw[r,List.getElem?_map,List.getElem?_eq_getElem e,u]at hd
 simp only[Option.map_some,Option.some.injEq,DataW.agg.injEq,List.cons.injEq,and_true]at hd
 simp only[cString,cInt]at j l
 obtain⟨s,v,x,_⟩:=DataW.trod_string Tryz.underlying9 j
 obtain⟨H,y,z,_⟩:=DataW.trod_int Tryz.underlying3 l
 rw[x,z]at hd
 simp only[DataW.lit.injEq,Lit.string.injEq,Lit.int.injEq,true_and]at hd
 have f:=congrArg (·[0]?) v
 have g:=congrArg (·[0]?) y
 simp[List.getElem?_drop]at f g
 rw[<-hd.1,<-hd.2]
 refine⟨?_,?_⟩
 ·rw[f];simp[bs]
 ·exact g
theorem gCM:Tryz.prog.globalNamed "marquetry/code.Marks"=some 3:=by kernel_rfl
theorem gCMT:(Tryz.prog.globals[3]?).map (·.type)=some 258:=by kernel_rfl
theorem vars_of5 {W:World}(h:laidMetH Tryz.prog Rows.codeApartRow.laid W):VarsC W.heap.size W:=by
 have t:=laidMetH_iff.1 h
 have s:laidMet Tryz.prog [("math/bits.deBruijn32tab",Rows.laid_math_bits_deBruijn32tab),("math/bits.deBruijn64tab",Rows.laid_math_bits_deBruijn64tab),("internal/strconv.uint64pow10",Rows.laid_internal_strconv_uint64pow10),("marquetry/code.Marks",Rows.laid_marquetry_code_Marks),("marquetry/tree.levels",Rows.laid_marquetry_tree_levels),("marquetry/tree.marks",Rows.laid_marquetry_tree_marks)] W:=t.1
 obtain⟨ps,⟨G,t1,u,A,M,S,_,_,_,_,⟨H,t2,v,B,N,T,_,_,_,_,⟨I,t3,w,C,O,U,_,_,_,_,⟨L,t6,z,F,R,Y,j,l,g,m,⟨J,Z,x,D,P,V,n,b2,e,o,⟨K,t5,y,E,Q,X,p,q,f,r,_⟩,_⟩,_⟩,_⟩,_⟩,_⟩,_⟩:=s
 obtain rfl:=Option.some.inj (gLevels.symm.trans n)
 obtain rfl:=Option.some.inj (gLevelsT.symm.trans b2)
 obtain rfl:=Option.some.inj (gMarks.symm.trans p)
 obtain rfl:=Option.some.inj (gMarksT.symm.trans q)
 have b:=strs_ofV Tryz.underlying160 r
 have a:=ranks_of Tryz.underlying253 o
 obtain rfl:=Option.some.inj (gCM.symm.trans j)
 obtain rfl:=Option.some.inj (gCMT.symm.trans l)
 have c:=strs_ofV Tryz.underlying258 m
 refine⟨⟨vK gMarks f,fun i d=>?_⟩,⟨vK gLevels e,fun i d=>?_⟩,fun i d=>?_,vK gMarks f,vK gLevels e,vK gCM g⟩
 ·rw[World.var?_cell gMarks f i,<-Array.getElem?_toList]
  match i,d with
  | 0,_=>exact b 0 _ (by decide) rfl
  | 1,_=>exact b 1 _ (by decide) rfl
  | 2,_=>exact b 2 _ (by decide) rfl
  | 3,_=>exact b 3 _ (by decide) rfl
  | 4,_=>exact b 4 _ (by decide) rfl
  | 5,_=>exact b 5 _ (by decide) rfl
  | 6,_=>exact b 6 _ (by decide) rfl
  | 7,_=>exact b 7 _ (by decide) rfl
  | 8,_=>exact b 8 _ (by decide) rfl
  | 9,_=>exact b 9 _ (by decide) rfl
  | 10,_=>exact b 10 _ (by decide) rfl
  | 11,_=>exact b 11 _ (by decide) rfl
  | 12,_=>exact b 12 _ (by decide) rfl
  | 13,_=>exact b 13 _ (by decide) rfl
  | 14,_=>exact b 14 _ (by decide) rfl
  | 15,_=>exact b 15 _ (by decide) rfl
  | 16,_=>exact b 16 _ (by decide) rfl
  | 17,_=>exact b 17 _ (by decide) rfl
  |k+18,hk=>exact absurd hk (by omega)
 ·rw[World.var?_cell gLevels e i,<-Array.getElem?_toList]
  match i,d with
  | 0,_=>exact(a 0 _ _ (by decide) rfl).1
  | 1,_=>exact(a 0 _ _ (by decide) rfl).2
  | 2,_=>exact(a 1 _ _ (by decide) rfl).1
  | 3,_=>exact(a 1 _ _ (by decide) rfl).2
  | 4,_=>exact(a 2 _ _ (by decide) rfl).1
  | 5,_=>exact(a 2 _ _ (by decide) rfl).2
  | 6,_=>exact(a 3 _ _ (by decide) rfl).1
  | 7,_=>exact(a 3 _ _ (by decide) rfl).2
  | 8,_=>exact(a 4 _ _ (by decide) rfl).1
  | 9,_=>exact(a 4 _ _ (by decide) rfl).2
  | 10,_=>exact(a 5 _ _ (by decide) rfl).1
  | 11,_=>exact(a 5 _ _ (by decide) rfl).2
  | 12,_=>exact(a 6 _ _ (by decide) rfl).1
  | 13,_=>exact(a 6 _ _ (by decide) rfl).2
  | 14,_=>exact(a 7 _ _ (by decide) rfl).1
  | 15,_=>exact(a 7 _ _ (by decide) rfl).2
  | 16,_=>exact(a 8 _ _ (by decide) rfl).1
  | 17,_=>exact(a 8 _ _ (by decide) rfl).2
  | 18,_=>exact(a 9 _ _ (by decide) rfl).1
  | 19,_=>exact(a 9 _ _ (by decide) rfl).2
  | 20,_=>exact(a 10 _ _ (by decide) rfl).1
  | 21,_=>exact(a 10 _ _ (by decide) rfl).2
  | 22,_=>exact(a 11 _ _ (by decide) rfl).1
  | 23,_=>exact(a 11 _ _ (by decide) rfl).2
  | 24,_=>exact(a 12 _ _ (by decide) rfl).1
  | 25,_=>exact(a 12 _ _ (by decide) rfl).2
  |k+26,hk=>exact absurd hk (by omega)
 ·rw[World.var?_cell gCM g i,<-Array.getElem?_toList]
  match i,d with
  | 0,_=>exact c 0 _ (by decide) rfl
  | 1,_=>exact c 1 _ (by decide) rfl
  | 2,_=>exact c 2 _ (by decide) rfl
  | 3,_=>exact c 3 _ (by decide) rfl
  | 4,_=>exact c 4 _ (by decide) rfl
  | 5,_=>exact c 5 _ (by decide) rfl
  | 6,_=>exact c 6 _ (by decide) rfl
  | 7,_=>exact c 7 _ (by decide) rfl
  | 8,_=>exact c 8 _ (by decide) rfl
  | 9,_=>exact c 9 _ (by decide) rfl
  | 10,_=>exact c 10 _ (by decide) rfl
  |k+11,hk=>exact absurd hk (by omega)
end Go.Proofs.YtmocelfkmdpogaaGreatDoor
namespace Go.Proofs.YtmocelfkmdpogaaGreatDoor
open Go.RowKit
theorem xv {w:World}{B:Nat}(l:List UInt8)(ns:List (List UInt8))(a:Option Addr)(n c:Nat)(g:ns.length=n)(d:StrsAt w ns a)(f:VarsC B w)(b:B<=w.heap.size):Calls Tryz.prog 3 #[.string (bs l),.slice a n c] w fun e w'=>e=.returned (.bool true)/\Below w.heap.size w w':=by
 subst g
 exact apart_post f b l d
end Go.Proofs.YtmocelfkmdpogaaGreatDoor
namespace Go.Proofs.YtmocelfkmdpogaaGreatDoor.codeApart
open Go.ChangeShapes Go.WideShapes Go.ChangeAt Go.RowKit
open Go.ChangeMaps (open_string shut_string)
theorem own:ownKnob Tryz.prog.godebug=none:=by kernel_rfl
theorem laidOut:laidOutB Tryz.prog=true:=by kernel_rfl
theorem strs_at {H:Type}{enc:TypeId×Value->H}{W:World}{a:Option Addr}{n c:Nat}{d:DataW H}{p:List MemPlace}(h:DataW.Trod enc Tryz.prog W 0 (fun _=>true) true 22 (.slice a n c) d p):∃ns:List (List UInt8),ns.length=n/\StrsAt W ns a:=by
 obtain⟨r,q⟩:=h
 rcases open_strings Tryz.underlying22 Tryz.underlying9 cString q with⟨e,_⟩|⟨ad,len,cap,zs,e,_,hl,_,hz,_,hc,_⟩
 ·simp[Value.cells]at e
  obtain⟨rfl,rfl,rfl⟩:=e
  exact⟨[],rfl,⟨fun i g=>by simp at g⟩⟩
 ·simp[Value.cells]at e
  obtain⟨rfl,rfl,rfl⟩:=e
  simp only[if_true]at hz
  refine⟨(zs.take n).map (fun z=>z.data.toList),by rw[List.length_map,List.length_take];omega,⟨fun i g=>?_⟩⟩
  rw[List.length_map,List.length_take]at g
  have f:=hc 0 (by omega)
  have m:=hc i (by omega)
  obtain⟨b,o,j⟩:=ad
  have l:j=none:=by
   cases j with
   |none=>rfl
   |some k=>simp[World.cell?,Addr.add]at f;split at f<;>simp_all
  subst l
  refine⟨b,o,rfl,World.block_lt_of_cell? _ _ f,?_⟩
  have:bs (((zs.take n).map (fun z:ByteArray=>z.data.toList))[i]'(by rw[List.length_map,List.length_take];omega))=zs.getD i ByteArray.empty:=by simp[List.getD,show i<zs.length by omega,bs]
  rw[this,<-m,Addr.add_lit]
theorem contract (H:Type)(enc:TypeId×Value->H)(W:World)(y:Nat)(args:Array Value)(k C:List (DataW H))(w:List MemPlace)
  (b:∀(j:Nat) t v,Tryz.f3.params[j]?=some t->args[j]?=some v->Value.okWide Tryz.prog W .any y t v)
  (o:DataW.Whole enc Tryz.prog Tryz.f3.params.toList Rows.codeApartSpec.vars false W args.toList k C w)(E:laidMetH Tryz.prog Rows.codeApartRow.laid W) :
  Calls Tryz.prog 3 args W fun e i=>∃v,e=.returned v/\Rows.codeApartSpec.post enc Tryz.prog Tryz.f3 false true false false W args v i:=by
 have d:=o
 obtain⟨p,q,g,F,rfl,Q,R⟩:=o
 have m:DataW.TrodAll enc Tryz.prog W 0 (fun _=>true) true Tryz.f3.params.toList args.toList k p:=g
 rw[Tryz.params3]at m b
 obtain⟨v0,S,U,O,X,q0,N,rfl,rfl,D,r0⟩:=trodAll_cons m
 obtain⟨v1,T,V,P,u,Y,M,rfl,rfl,l,K⟩:=trodAll_cons r0
 obtain⟨rfl,rfl,rfl⟩:=trodAll_nil K
 obtain rfl:args=#[v0,v1]:=by cases args;simp_all
 obtain⟨rfl,rfl⟩:=trodVars_none F
 obtain⟨s,rfl,rfl,rfl,I⟩:=open_string Tryz.underlying9 (b 0 9 v0 rfl rfl) D
 obtain⟨a,n,c,rfl⟩:=okWide_slice Tryz.underlying22 (b 1 22 v1 rfl rfl)
 obtain⟨L,B,z⟩:=strs_at l
 clear g
 simp only[List.append_nil,List.nil_append]at d
 have A:∀x∈u,x.block<W.heap.size:=fun x J=>by simpa using d.lt x (by simpa using J)
 have e:bs s.data.toList=s:=by simp[bs]
 have f:=xv s.data.toList L a n c B z (vars_of5 E) zn
 rw[e]at f
 refine f.mono fun e i ⟨G,r⟩=>?_
 subst G
 exact⟨_,rfl,_,_,_,[],[]++(u++[]),[],d,trodAll_cons_mk (shut_bool Tryz.underlying4 _) trodAll_mk0,trodAll_cons_mk (shut_string Tryz.underlying9 I) (trodAll_cons_mk (Below.trod laidOut (by kernel_rfl) (of_decide_eq_true (by kernel_rfl)) l r A) trodAll_mk0),rfl,r.frame _,fun h=>by cases h⟩
theorem laid_met (os:Os):laidMetH Tryz.prog Rows.codeApartRow.laid (({ (World.holding Tryz.prog os ⟨#[],#[],[]⟩) with heap:=(((((((World.holding Tryz.prog os ⟨#[],#[],[]⟩).heap.modify 0 fun | .cells _ t frozen=>.cells #[.string ⟨#[58,61]⟩,.string ⟨#[60,61]⟩,.string ⟨#[62,61]⟩,.string ⟨#[35]⟩,.string ⟨#[61]⟩,.string ⟨#[60]⟩,.string ⟨#[62]⟩,.string ⟨#[43]⟩,.string ⟨#[45]⟩,.string ⟨#[42]⟩,.string ⟨#[40]⟩,.string ⟨#[41]⟩,.string ⟨#[91]⟩,.string ⟨#[93]⟩,.string ⟨#[44]⟩,.string ⟨#[59]⟩,.string ⟨#[58]⟩,.string ⟨#[46]⟩] t frozen|o=>o).modify 2 fun | .cells _ t frozen=>.cells #[.string ⟨#[111,114]⟩,.int .i64 0,.string ⟨#[97,110,100]⟩,.int .i64 1,.string ⟨#[61]⟩,.int .i64 2,.string ⟨#[35]⟩,.int .i64 2,.string ⟨#[60]⟩,.int .i64 2,.string ⟨#[60,61]⟩,.int .i64 2,.string ⟨#[62]⟩,.int .i64 2,.string ⟨#[62,61]⟩,.int .i64 2,.string ⟨#[43]⟩,.int .i64 3,.string ⟨#[45]⟩,.int .i64 3,.string ⟨#[42]⟩,.int .i64 4,.string ⟨#[100,105,118]⟩,.int .i64 4,.string ⟨#[109,111,100]⟩,.int .i64 4] t frozen|o=>o).modify 3 fun | .cells _ t frozen=>.cells #[.string ⟨#[43]⟩,.string ⟨#[45]⟩,.string ⟨#[42]⟩,.string ⟨#[100,105,118]⟩,.string ⟨#[109,111,100]⟩,.string ⟨#[61]⟩,.string ⟨#[35]⟩,.string ⟨#[60]⟩,.string ⟨#[60,61]⟩,.string ⟨#[62]⟩,.string ⟨#[62,61]⟩] t frozen|o=>o).modify 4 fun | .cells _ t frozen=>.cells #[.int .u64 1,.int .u64 10,.int .u64 100,.int .u64 1000,.int .u64 10000,.int .u64 100000,.int .u64 1000000,.int .u64 10000000,.int .u64 100000000,.int .u64 1000000000,.int .u64 10000000000,.int .u64 100000000000,.int .u64 1000000000000,.int .u64 10000000000000,.int .u64 100000000000000,.int .u64 1000000000000000,.int .u64 10000000000000000,.int .u64 100000000000000000,.int .u64 1000000000000000000,.int .u64 10000000000000000000] t frozen|o=>o).modify 5 fun | .cells _ t frozen=>.cells #[.int .u8 0,.int .u8 1,.int .u8 28,.int .u8 2,.int .u8 29,.int .u8 14,.int .u8 24,.int .u8 3,.int .u8 30,.int .u8 22,.int .u8 20,.int .u8 15,.int .u8 25,.int .u8 17,.int .u8 4,.int .u8 8,.int .u8 31,.int .u8 27,.int .u8 13,.int .u8 23,.int .u8 21,.int .u8 19,.int .u8 16,.int .u8 7,.int .u8 26,.int .u8 12,.int .u8 18,.int .u8 6,.int .u8 11,.int .u8 5,.int .u8 10,.int .u8 9] t frozen|o=>o).modify 6 fun | .cells _ t frozen=>.cells #[.int .u8 0,.int .u8 1,.int .u8 56,.int .u8 2,.int .u8 57,.int .u8 49,.int .u8 28,.int .u8 3,.int .u8 61,.int .u8 58,.int .u8 42,.int .u8 50,.int .u8 38,.int .u8 29,.int .u8 17,.int .u8 4,.int .u8 62,.int .u8 47,.int .u8 59,.int .u8 36,.int .u8 45,.int .u8 43,.int .u8 51,.int .u8 22,.int .u8 53,.int .u8 39,.int .u8 33,.int .u8 30,.int .u8 24,.int .u8 18,.int .u8 12,.int .u8 5,.int .u8 63,.int .u8 55,.int .u8 48,.int .u8 27,.int .u8 60,.int .u8 41,.int .u8 37,.int .u8 16,.int .u8 46,.int .u8 35,.int .u8 44,.int .u8 21,.int .u8 52,.int .u8 32,.int .u8 23,.int .u8 11,.int .u8 54,.int .u8 26,.int .u8 40,.int .u8 15,.int .u8 34,.int .u8 20,.int .u8 31,.int .u8 10,.int .u8 25,.int .u8 14,.int .u8 19,.int .u8 9,.int .u8 13,.int .u8 8,.int .u8 7,.int .u8 6] t frozen|o=>o) }:World).forCall (fun _ _=>0) ⟨#[],#[.string ⟨#[]⟩,.slice none 0 0],[]⟩).memory :=
 laidMetH_of_parts (laidMet_of_run' 8 (by kernel_rfl) (by kernel_rfl)) (by kernel_rfl)
theorem reads (os:Os){H:Type}(enc:TypeId×Value->H):∃places,DataW.whole enc Tryz.prog (({ (World.holding Tryz.prog os ⟨#[],#[],[]⟩) with heap:=(((((((World.holding Tryz.prog os ⟨#[],#[],[]⟩).heap.modify 0 fun | .cells _ t frozen=>.cells #[.string ⟨#[58,61]⟩,.string ⟨#[60,61]⟩,.string ⟨#[62,61]⟩,.string ⟨#[35]⟩,.string ⟨#[61]⟩,.string ⟨#[60]⟩,.string ⟨#[62]⟩,.string ⟨#[43]⟩,.string ⟨#[45]⟩,.string ⟨#[42]⟩,.string ⟨#[40]⟩,.string ⟨#[41]⟩,.string ⟨#[91]⟩,.string ⟨#[93]⟩,.string ⟨#[44]⟩,.string ⟨#[59]⟩,.string ⟨#[58]⟩,.string ⟨#[46]⟩] t frozen|o=>o).modify 2 fun | .cells _ t frozen=>.cells #[.string ⟨#[111,114]⟩,.int .i64 0,.string ⟨#[97,110,100]⟩,.int .i64 1,.string ⟨#[61]⟩,.int .i64 2,.string ⟨#[35]⟩,.int .i64 2,.string ⟨#[60]⟩,.int .i64 2,.string ⟨#[60,61]⟩,.int .i64 2,.string ⟨#[62]⟩,.int .i64 2,.string ⟨#[62,61]⟩,.int .i64 2,.string ⟨#[43]⟩,.int .i64 3,.string ⟨#[45]⟩,.int .i64 3,.string ⟨#[42]⟩,.int .i64 4,.string ⟨#[100,105,118]⟩,.int .i64 4,.string ⟨#[109,111,100]⟩,.int .i64 4] t frozen|o=>o).modify 3 fun | .cells _ t frozen=>.cells #[.string ⟨#[43]⟩,.string ⟨#[45]⟩,.string ⟨#[42]⟩,.string ⟨#[100,105,118]⟩,.string ⟨#[109,111,100]⟩,.string ⟨#[61]⟩,.string ⟨#[35]⟩,.string ⟨#[60]⟩,.string ⟨#[60,61]⟩,.string ⟨#[62]⟩,.string ⟨#[62,61]⟩] t frozen|o=>o).modify 4 fun | .cells _ t frozen=>.cells #[.int .u64 1,.int .u64 10,.int .u64 100,.int .u64 1000,.int .u64 10000,.int .u64 100000,.int .u64 1000000,.int .u64 10000000,.int .u64 100000000,.int .u64 1000000000,.int .u64 10000000000,.int .u64 100000000000,.int .u64 1000000000000,.int .u64 10000000000000,.int .u64 100000000000000,.int .u64 1000000000000000,.int .u64 10000000000000000,.int .u64 100000000000000000,.int .u64 1000000000000000000,.int .u64 10000000000000000000] t frozen|o=>o).modify 5 fun | .cells _ t frozen=>.cells #[.int .u8 0,.int .u8 1,.int .u8 28,.int .u8 2,.int .u8 29,.int .u8 14,.int .u8 24,.int .u8 3,.int .u8 30,.int .u8 22,.int .u8 20,.int .u8 15,.int .u8 25,.int .u8 17,.int .u8 4,.int .u8 8,.int .u8 31,.int .u8 27,.int .u8 13,.int .u8 23,.int .u8 21,.int .u8 19,.int .u8 16,.int .u8 7,.int .u8 26,.int .u8 12,.int .u8 18,.int .u8 6,.int .u8 11,.int .u8 5,.int .u8 10,.int .u8 9] t frozen|o=>o).modify 6 fun | .cells _ t frozen=>.cells #[.int .u8 0,.int .u8 1,.int .u8 56,.int .u8 2,.int .u8 57,.int .u8 49,.int .u8 28,.int .u8 3,.int .u8 61,.int .u8 58,.int .u8 42,.int .u8 50,.int .u8 38,.int .u8 29,.int .u8 17,.int .u8 4,.int .u8 62,.int .u8 47,.int .u8 59,.int .u8 36,.int .u8 45,.int .u8 43,.int .u8 51,.int .u8 22,.int .u8 53,.int .u8 39,.int .u8 33,.int .u8 30,.int .u8 24,.int .u8 18,.int .u8 12,.int .u8 5,.int .u8 63,.int .u8 55,.int .u8 48,.int .u8 27,.int .u8 60,.int .u8 41,.int .u8 37,.int .u8 16,.int .u8 46,.int .u8 35,.int .u8 44,.int .u8 21,.int .u8 52,.int .u8 32,.int .u8 23,.int .u8 11,.int .u8 54,.int .u8 26,.int .u8 40,.int .u8 15,.int .u8 34,.int .u8 20,.int .u8 31,.int .u8 10,.int .u8 25,.int .u8 14,.int .u8 19,.int .u8 9,.int .u8 13,.int .u8 8,.int .u8 7,.int .u8 6] t frozen|o=>o) }:World).forCall (fun _ _=>0) ⟨#[],#[.string ⟨#[]⟩,.slice none 0 0],[]⟩).memory Tryz.f3.params.toList Rows.codeApartSpec.vars false #[Value.string ⟨#[]⟩,Value.slice none 0 0].toList 8=some ([.lit (.string []),.nil],[],places) :=
 ⟨[],by kernel_rfl⟩
theorem lifted (os:Os)(a:os.Started)(H:Type)(enc:TypeId×Value->H)(F:Stop.Interp) :
  ReturnsInHanded {} Tryz.checked os 3 .any ((OpenSpec.ofChange Rows.codeApartSpec).preRow enc Tryz.prog Tryz.f3 Rows.codeApartRow.domain false Rows.codeApartRow.laid) (((OpenSpec.ofChange Rows.codeApartSpec).at F).post enc Tryz.prog Tryz.f3 false true false false):=by
 obtain⟨l,j⟩:=reads os enc
 refine returnsInHanded_of_row (C:=Tryz.checked) (s:=OpenSpec.ofChange Rows.codeApartSpec) own a (by kernel_rfl) Tryz.func3
  (witness_row_at (enc:=enc) (C:=Tryz.checked) false _ #[.string ⟨#[]⟩,.slice none 0 0] rfl (by kernel_rfl) (by kernel_rfl) (by kernel_rfl)
   (OpenSpec.preRow_of_cond 8 j (by kernel_rfl) (fun k i=>by cases i) (by kernel_rfl) (laid_met os))) ?_
 intro W c args e f b d h _ _ _ g _ _
 exact contract H enc W c args e f b d h g
theorem said:Rows.CodeApartSaid :=
 OpenClaim.holds_of_cond 3 Tryz.f3 rfl rfl rfl rfl rfl rfl rfl ⟨rfl,rfl,rfl,rfl,rfl⟩ rfl rfl rfl rfl rfl (by kernel_rfl) Tryz.func3 (by kernel_rfl)
  (of_decide_eq_true (by kernel_rfl)) (by unfold Func.isWrapper;first|(rw[if_pos (by decide +kernel)];kernel_rfl)|(rw[if_neg (by decide +kernel)];exact⟨rfl,rfl⟩))
  (fun os a H enc _ F=>by rw[OpenClaim.pre_eq_preRow];exact lifted os a H enc F)
theorem plain (f:FuncId)(a:Func)(e:Tryz.pinned.checked.prog.funcNamed "marquetry/marquetrykeep.CodeApart"=some f)(d:Tryz.pinned.checked.prog.funcs[f]?=some a) :
  true=Tryz.pinned.checked.prog.looks []/\∀(j:Nat) t,a.params[j]?=some t->Tryz.pinned.checked.prog.wantsStandIn t=false:=by
 obtain rfl:f=3:=Option.some.inj ((show Tryz.prog.funcNamed "marquetry/marquetrykeep.CodeApart"=some 3 by kernel_rfl).symm.trans e) |>.symm
 obtain rfl:a=Tryz.f3:=(Option.some.inj (Tryz.func3.symm.trans d)).symm
 refine⟨by kernel_rfl,fun j t b=>?_⟩
 rw[Tryz.params3]at b
 have g:t∈[9,22]:=by simpa using Array.mem_of_getElem? b
 have c:([9,22].all fun u=>!Tryz.prog.wantsStandIn u)=true:=by kernel_rfl
 exact(show Tryz.prog.wantsStandIn t=false by simpa using List.all_eq_true.1 c t g)
end Go.Proofs.YtmocelfkmdpogaaGreatDoor.codeApart
namespace Go.Proofs.YtmocelfkmdpogaaGreatDoor
theorem codeApart_card:Rows.CodeApartCardSaid :=
 Claim7.holds_tied_plain_at .later [] _ _ _ _ codeApart.said (fun _ h=>by cases h) (by kernel_rfl) (fun _ h=>by cases h) codeApart_row_tie rfl ⟨rfl,rfl⟩ (by kernel_rfl) rfl codeApart.plain (by kernel_rfl)
end Go.Proofs.YtmocelfkmdpogaaGreatDoor
