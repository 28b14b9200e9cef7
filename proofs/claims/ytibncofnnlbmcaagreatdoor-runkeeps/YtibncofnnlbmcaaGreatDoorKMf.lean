import Derived.Test.YtibncofnnlbmcaaGreatDoorKMe
import Derived.Test.YtibncofnnlbmcaaGreatDoorKPc
import Derived.Test.YtibncofnnlbmcaaGreatDoorKMb
import Derived.Test.YtibncofnnlbmcaaGreatDoorKWk
import Derived.Test.YtibncofnnlbmcaaGreatDoorKShb
import Derived.LaidEql
import Derived.RowKitTokens
import Derived.Stop.Asserts
set_option maxRecDepth 100000
set_option maxHeartbeats 4000000
namespace Go.Proofs.YtibncofnnlbmcaaGreatDoor
open Go.RowKit
open Tp (Bs Th Sy Seen X S G Pr)
def olOf (m:Tp.M) (i:Nat):List Th:=match m.procs[i]? with
 |some p=>Tp.ownT p
 |none=>[]
def srOf (m:Tp.M) (Sn:Seen) (i:Nat):Option (Nat×Nat):=match m.procs[i]? with
 |some p=>(Tp.rs p.body).findSome? (Tp.judgeP (Tp.standV (Tp.others m Sn) [Tp.lkT (Tp.ownT p),Tp.lkT (Tp.things m)]))
 |none=>none
theorem xM {w:World}{D:Nat->Prop}{a:Option Addr}{c:Nat}{l:List Bs}(h:Row w D 9 1 (.slice a l.length c) l.length (strs l))(i:Nat)(b:i<l.length):∃g,a=some ⟨g,0,none⟩/\g<w.heap.size/\w.cell? ⟨g,i,none⟩=some (.string (bs l[i])):=by
 obtain⟨g,cap,d,_,e,f⟩:=yu h (by omega)
 cases d
 refine⟨g,rfl,e,(f i (by omega)).trans ?_⟩
 simp[strs,b]
theorem yW {m:Tp.M}(f:Tp.Sml m){w:World}{R O H L:Option Addr}{S P T N:Nat}(h:MB w w.heap.size m R O H L S P T N){I:Value}{Sn:Seen}(Q:SeenV w I Sn) :
  Calls Tryz.prog 37 #[.agg (mcells (bs m.name) (.slice R m.imports.length S) (.slice O m.vars.length P) (.slice H m.procs.length T) (.slice L m.body.length N)),I] w (CheckP w (Tp.check m Sn)):=by
 have a4:∃so,I=.map so:=by
  rcases Q with⟨q,_⟩|⟨sb,n,q,_⟩
  ·exact⟨_,q⟩
  ·exact⟨_,q⟩
 have K:∀W,Below w.heap.size w W->∀i (a:i<m.procs.length),∃(g:Nat) (pa' va ba':Option Addr) (pc' vc bc':Nat) (r:List Value),H=some ⟨g,0,none⟩/\g<w.heap.size/\(∀j,j<6->W.cell? ⟨g,i*6+j,none⟩=(pcells (bs m.procs[i].name) (m.procs[i].pos:Int) m.procs[i].seen (.slice pa' m.procs[i].params.length pc') (.slice va m.procs[i].vars.length vc) (.slice ba' m.procs[i].body.length bc')).toList[j]?) /\
   Row W (fun b=>b<w.heap.size) 9 1 (.slice pa' m.procs[i].params.length pc') m.procs[i].params.length (strs m.procs[i].params)/\Row W (fun b=>b<w.heap.size) 9 1 (.slice va m.procs[i].vars.length vc) m.procs[i].vars.length (strs m.procs[i].vars)/\RepS W (fun b=>b<w.heap.size) m.procs[i].body r/\OwnS W (fun b=>b<w.heap.size) (.slice ba' m.procs[i].body.length bc') m.procs[i].body.length r:=by
  intro W d i a
  obtain⟨a5,p1,p2⟩:=(h.on d).pr
  obtain⟨g,cap,k,o,c,x⟩:=yu p2 (by omega)
  cases k
  obtain⟨pv,vv,bv,Y,r1,U,V,r4,X⟩:=jq m.procs a5 p1 i a
  obtain⟨y,c3,rfl⟩:=U.shape
  obtain⟨z,t,rfl⟩:=V.shape
  obtain⟨A,u,rfl⟩:=X.shape
  exact⟨g,y,z,A,c3,t,u,Y,rfl,o,fun j e=>(x (i*6+j) (by omega)).trans (r1 j e),U,V,r4,X⟩
 refine check_walk (is:=m.imports) (Sn:=Sn) (tl:=Tp.things m) (ol:=olOf m) (sr:=srOf m Sn) (br:=(Tp.rs m.body).findSome? (Tp.judgeP (Tp.standV (Tp.others m Sn) [Tp.lkT (Tp.things m)]))) a4 ?_ ?_ ?_ ?_ f.pc ?_
 ·intro W d
  refine xS (fun i a=>?_) rfl f.ic (Q.on d)
  obtain⟨g,k,o,c⟩:=xM (h.on d).im i a
  exact⟨g,m.imports[i],k,o,c,f.im _ (List.getElem_mem a),List.getElem?_eq_getElem a⟩
 ·intro W d
  have Z:=(h.on d).gl
  refine ug (l:=Tp.things m) (fun i a=>?_) (fun i a=>?_) (by simp[Tp.things]) f.gc f.pc
  ·obtain⟨g,cap,k,o,c,x⟩:=yu Z (by omega)
   cases k
   have C:=fun j (e:j<4)=>(x (i*4+j) (by omega)).trans (xT m.vars i a j e)
   refine⟨g,m.vars[i].name,m.vars[i].pos,m.vars[i].len,m.vars[i].seen,rfl,c,C 0 (by omega),C 1 (by omega),C 2 (by omega),C 3 (by omega),f.g _ (List.getElem_mem a),?_⟩
   unfold Tp.things
   rw[List.getElem?_append_left (by simpa using a)]
   simp[a,Tp.thG]
  ·obtain⟨g,y,z,A,c3,t,u,r,k,o,c,_⟩:=K W d i a
   refine⟨g,m.procs[i].name,m.procs[i].pos,m.procs[i].seen,y,z,A,m.procs[i].params.length,m.procs[i].vars.length,m.procs[i].body.length,c3,t,u,k,Nat.lt_of_lt_of_le o d.size,c 0 (by omega),c 1 (by omega),c 2 (by omega),c 3 (by omega),c 4 (by omega),c 5 (by omega),(f.p _ (List.getElem_mem a)).1,?_⟩
   unfold Tp.things
   rw[List.getElem?_append_right (by simp)]
   simp[a,Tp.thP]
 ·intro i a
  obtain⟨g,y,z,A,c3,t,u,r,k,o,c,x,q5,q6,q7⟩:=K w (Below.refl _ _) i a
  have s:=f.p _ (List.getElem_mem a)
  have J:olOf m i=Tp.ownT m.procs[i]:=by unfold olOf;rw[List.getElem?_eq_getElem a]
  have a0:srOf m Sn i=(Tp.rs m.procs[i].body).findSome? (Tp.judgeP (Tp.standV (Tp.others m Sn) [Tp.lkT (Tp.ownT m.procs[i]),Tp.lkT (Tp.things m)])):=by unfold srOf;rw[List.getElem?_eq_getElem a]
  refine⟨g,m.procs[i].name,m.procs[i].pos,m.procs[i].seen,y,z,A,m.procs[i].params.length,m.procs[i].vars.length,m.procs[i].body.length,c3,t,u,k,o,c 0 (by omega),c 1 (by omega),c 2 (by omega),c 3 (by omega),c 4 (by omega),c 5 (by omega),fun W d=>?_,fun W b d B=>?_⟩
  ·rw[J]
   have v:∀b,b<w.heap.size->b<w.heap.size->W.heap[b]?=w.heap[b]?/\b<w.heap.size:=fun b a _=>⟨d.block b a,a⟩
   refine uU (fun j e=>?_) (fun j e=>?_) (by simp[Tp.ownT,Tp.ownOf]) s.2.1 s.2.2.1
   ·obtain⟨G,D,E,F⟩:=xM (x.mono v) j e
    refine⟨G,m.procs[i].params[j],D,E,F,s.2.2.2.1 _ (List.getElem_mem e),?_⟩
    rw[Nat.zero_add]
    unfold Tp.ownT Tp.ownOf
    rw[List.map_append,List.getElem?_append_left (by simpa using e)]
    simp[e]
   ·obtain⟨G,D,E,F⟩:=xM (q5.mono v) j e
    refine⟨G,m.procs[i].vars[j],D,E,F,s.2.2.2.2.1 _ (List.getElem_mem e),?_⟩
    unfold Tp.ownT Tp.ownOf
    rw[List.map_append,List.getElem?_append_right (by simp)]
    simp[e]
  ·rw[a0]
   rw[J]at B
   have v:∀b,b<w.heap.size->b<w.heap.size->W.heap[b]?=w.heap[b]?/\b<w.heap.size:=fun b a _=>⟨d.block b a,a⟩
   exact kq B (by simp) _ _ zn s.2.2.2.2.2 W (fun b=>b<w.heap.size) _ r (Below.refl _ _) (q6.mono' v) (q7.mono v)
 ·intro W b d B
  obtain⟨r,b1,b2⟩:=(h.on d).bd
  exact kq B (by simp) _ _ zn f.b W (fun b=>b<w.heap.size) _ r (Below.refl _ _) b1 b2
 ·rw[Tp.check_eq]
  congr 2
  unfold Tp.checkV
  congr 2
  rw[Tp.find_idx]
  congr 1
  funext i
  unfold olOf srOf
  cases m.procs[i]? with
  |none=>rw[Option.bind_none,Tp.twP];rfl
  |some p=>rfl
end Go.Proofs.YtibncofnnlbmcaaGreatDoor
namespace Go.Proofs.YtibncofnnlbmcaaGreatDoor
open Go.RowKit Go.Extern.Stop Go.Stop Go.Extern
theorem vD (t:Addr)(w:World):(ReflectliteValue.unpack (.iface 113 (.pointer (some t)))).run Tryz.prog w
  = .ok (.agg #[.pointer (some ⟨7,113,none⟩),.pointer (some ⟨w.heap.size,0,none⟩),.int .u64 150]) (w.alloc (.cells #[.pointer (some t)] 113)):=by kernel_rfl
theorem vE (n:Int)(w:World):(ReflectliteValue.unpack (.iface 44 (.int .i64 n))).run Tryz.prog w
  = .ok (.agg #[.pointer (some ⟨7,44,none⟩),.pointer (some ⟨w.heap.size,0,none⟩),.int .u64 130]) (w.alloc (.cells #[.int .i64 n] 44)):=by kernel_rfl
theorem rl_typeP (a:Addr)(w:World):(ReflectliteValue.methodAny (ReflectliteValue.valueError "reflectlite.Value.Type" 0) (fun t _ _ _=>ReflectliteType.toType t) #[.agg #[.pointer (some ⟨7,113,none⟩),.pointer (some a),.int .u64 150]]).run Tryz.prog w
  = .ok (.iface 223 (.agg #[.pointer (some ⟨7,113,none⟩)])) w:=by kernel_rfl
theorem rl_kindP (w:World):((ReflectliteType.abiMethod fun t=>(fun a:Nat=>Value.int IntKind.u8 (a:Int)) <$> Rtype.kind t) #[.pointer (some ⟨7,113,none⟩)]).run Tryz.prog w=.ok (.int .u8 22) w:=by kernel_rfl
theorem rl_kindE (w:World):((ReflectliteType.abiMethod fun t=>(fun a:Nat=>Value.int IntKind.u8 (a:Int)) <$> Rtype.kind t) #[.pointer (some ⟨7,44,none⟩)]).run Tryz.prog w=.ok (.int .u8 2) w:=by kernel_rfl
theorem rlm (z:Sem Value)(f:TypeId->Addr->Nat->Nat->Sem Value)(v:Value) :
  ReflectliteValue.method z f #[v]=(do match <- ReflectliteValue.parts v with|none=>z|some (t,a,fl)=>f t a fl (fl % 32)):=rfl
theorem vF (a:Addr)(w:World):(ReflectliteValue.parts (.agg #[.pointer (some ⟨7,113,none⟩),.pointer (some a),.int .u64 150])).run Tryz.prog w=.ok (some (113,a,150)) w:=by kernel_rfl
theorem rl_isNil (a p:Addr)(W:World)(b:W.cell? a=some (.pointer (some p))) :
  (ReflectliteValue.method (ReflectliteValue.valueError "reflectlite.Value.IsNil" 0) ReflectliteValue.isNil #[.agg #[.pointer (some ⟨7,113,none⟩),.pointer (some a),.int .u64 150]]).run Tryz.prog W=.ok (.bool false) W:=by
 rw[rlm]
 simp only[Sem.run_bind,vF,Result.andThen]
 simp[ReflectliteValue.isNil,loadVar,isAgg,underlying,Tryz.underlying113,b,Result.andThen]
theorem rl_elem (w:World):(ReflectliteType.method ReflectliteType.elem #[.agg #[.pointer (some ⟨7,113,none⟩)]]).run Tryz.prog w=.ok (.iface 223 (.agg #[.pointer (some ⟨7,44,none⟩)])) w:=by kernel_rfl
theorem kJ (w:World):(ReflectliteType.relation "Implements" ReflectliteType.implements_ #[.agg #[.pointer (some ⟨7,44,none⟩)],.iface 223 (.agg #[.pointer (some ⟨7,38,none⟩)])]).run Tryz.prog w=.ok (.bool true) w:=by kernel_rfl
theorem xi (n:Int)(w:World):(ReflectliteType.typeOf #[.iface 44 (.int .i64 n)]).run Tryz.prog w=.ok (.iface 223 (.agg #[.pointer (some ⟨7,44,none⟩)])) w:=by kernel_rfl
theorem rl_typeOfA (v:Value)(w:World):(ReflectliteType.typeOf #[.iface 117 v]).run Tryz.prog w=.ok (.iface 223 (.agg #[.pointer (some ⟨7,117,none⟩)])) w:=by kernel_rfl
theorem xj (w:World):(ReflectliteType.relation "AssignableTo" ReflectliteType.assignableTo #[.agg #[.pointer (some ⟨7,44,none⟩)],.iface 223 (.agg #[.pointer (some ⟨7,44,none⟩)])]).run Tryz.prog w=.ok (.bool true) w:=by kernel_rfl
theorem rl_assignA (w:World):(ReflectliteType.relation "AssignableTo" ReflectliteType.assignableTo #[.agg #[.pointer (some ⟨7,117,none⟩)],.iface 223 (.agg #[.pointer (some ⟨7,44,none⟩)])]).run Tryz.prog w=.ok (.bool false) w:=by kernel_rfl
theorem rl_elemOf (w:World):(Rtype.elem? 113).run Tryz.prog w=.ok (some 44) w:=by kernel_rfl
theorem rl_mk (p:Addr)(w:World):(ReflectliteValue.mk 44 p ReflectliteValue.flagAddr).run Tryz.prog w=.ok (.agg #[.pointer (some ⟨7,44,none⟩),.pointer (some p),.int .u64 386]) w:=by kernel_rfl
theorem rl_elemV (a p:Addr)(W:World)(b:W.cell? a=some (.pointer (some p))) :
  (ReflectliteValue.method (ReflectliteValue.valueError "reflectlite.Value.Elem" 0) ReflectliteValue.elem #[.agg #[.pointer (some ⟨7,113,none⟩),.pointer (some a),.int .u64 150]]).run Tryz.prog W
   = .ok (.agg #[.pointer (some ⟨7,44,none⟩),.pointer (some p),.int .u64 386]) W:=by
 rw[rlm]
 simp only[Sem.run_bind,vF,Result.andThen]
 simp[ReflectliteValue.elem,loadVar,isAgg,underlying,Tryz.underlying113,b,Result.andThen,rl_elemOf,rl_mk]
theorem rl_partsA (a:Addr)(w:World):(ReflectliteValue.parts (.agg #[.pointer (some ⟨7,44,none⟩),.pointer (some a),.int .u64 386])).run Tryz.prog w=.ok (some (44,a,386)) w:=by kernel_rfl
theorem rl_partsE (a:Addr)(w:World):(ReflectliteValue.parts (.agg #[.pointer (some ⟨7,44,none⟩),.pointer (some a),.int .u64 130])).run Tryz.prog w=.ok (some (44,a,130)) w:=by kernel_rfl
theorem rl_direct (w:World):(Rtype.directlyAssignable 44 44).run Tryz.prog w=.ok true w:=by kernel_rfl
theorem rl_set (ta b:Addr)(n:Int)(a:Value)(W:World)(c:W.cell? b=some (.int .i64 n))(e:W.cell? ta=some a)(d:W.frozen? ta=false) :
  (ReflectliteValue.set #[.agg #[.pointer (some ⟨7,44,none⟩),.pointer (some ta),.int .u64 386],.agg #[.pointer (some ⟨7,44,none⟩),.pointer (some b),.int .u64 130]]).run Tryz.prog W
   = .ok (.tuple #[]) (W.setCell ta (.int .i64 n)):=by
 refine Eq.trans (congrArg (fun s:Sem Value=>s.run Tryz.prog W) (show ReflectliteValue.set #[.agg #[.pointer (some ⟨7,44,none⟩),.pointer (some ta),.int .u64 386],.agg #[.pointer (some ⟨7,44,none⟩),.pointer (some b),.int .u64 130]]=(ReflectliteValue.parts (.agg #[.pointer (some ⟨7,44,none⟩),.pointer (some ta),.int .u64 386]) >>= fun p=>ReflectliteValue.parts (.agg #[.pointer (some ⟨7,44,none⟩),.pointer (some b),.int .u64 130]) >>= fun q=>_) from rfl)) ?_
 simp only[Sem.run_bind,rl_partsA,rl_partsE,Result.andThen]
 simp[ReflectliteValue.flagAddr,loadVar,isAgg,underlying,Tryz.underlying44,c,Result.andThen,rl_direct,storeVar,Value.cells,storeCells,Addr.add]
 rw[run_store Tryz.prog W ta _ _ (by rfl)]
 simp[e,d]
theorem me_Kind (h:Value)(w:World):(Go.method 332 223 (.agg #[h]) "Kind").run Tryz.prog w=.ok (232,h) w:=by kernel_rfl
theorem me_Elem (h:Value)(w:World):(Go.method 332 223 (.agg #[h]) "Elem").run Tryz.prog w=.ok (245,.agg #[h]) w:=by kernel_rfl
theorem me_Impl (h:Value)(w:World):(Go.method 332 223 (.agg #[h]) "Implements").run Tryz.prog w=.ok (246,.agg #[h]) w:=by kernel_rfl
theorem vR (h:Value)(w:World):(Go.method 332 223 (.agg #[h]) "AssignableTo").run Tryz.prog w=.ok (243,.agg #[h]) w:=by kernel_rfl
theorem me_Unwrap (a:Option Addr)(w:World):(Go.method 332 117 (.pointer a) "Unwrap").run Tryz.prog w=.ok (237,.pointer a) w:=by kernel_rfl
theorem unwrap_any (a:Nat)(n:Int)(w:World)(h:w.cell? ⟨a,0,none⟩=some (.int .i64 n))(_hl:a<w.heap.size) :
  Calls Tryz.prog 237 #[.pointer (some ⟨a,0,none⟩)] w fun e w'=>e=.returned (.iface 44 (.int .i64 n))/\w'=w:=by
 go_enter Tryz.func237,Tryz.ntmps237
 go_wp2_with fail
 go_ret
 exact⟨rfl,rfl⟩
theorem as_en (n:Int)(t:Addr)(c:Value)(w:World)(d:w.cell? ⟨0,0,none⟩=some (.iface 223 (.agg #[.pointer (some ⟨7,38,none⟩)])))(a:w.cell? t=some c)(e:w.frozen? t=false) :
  Calls Tryz.prog 53 #[.iface 44 (.int .i64 n),.iface 113 (.pointer (some t))] w fun ev w'=>ev=.returned (.bool true)/\w'=((((w.alloc (.cells #[.pointer (some t)] 113)).alloc (.cells #[.pointer (some ⟨7,113,none⟩),.pointer (some ⟨w.heap.size,0,none⟩),.int .u64 150] 164)).alloc (.cells #[.pointer (some ⟨7,113,none⟩),.pointer (some ⟨w.heap.size,0,none⟩),.int .u64 150] 164)).alloc (.cells #[.int .i64 n] 44)).setCell t (.int .i64 n):=by
 have A:=@run_callFunc_extern Tryz.prog 94 _ (fun args=>ReflectliteValue.unpack (args.getD 0 (.tuple #[]))) Tryz.func94 (by kernel_rfl) (by kernel_rfl) (by kernel_rfl) (by kernel_rfl)
 have B:=@run_callFunc_extern Tryz.prog 95 _ (ReflectliteValue.methodAny (ReflectliteValue.valueError "reflectlite.Value.Type" 0) (fun t _ _ _=>ReflectliteType.toType t)) Tryz.func95 (by kernel_rfl) (by kernel_rfl) (by kernel_rfl) (by kernel_rfl)
 have C:=@run_callFunc_extern Tryz.prog 96 _ (ReflectliteValue.method (ReflectliteValue.valueError "reflectlite.Value.IsNil" 0) ReflectliteValue.isNil) Tryz.func96 (by kernel_rfl) (by kernel_rfl) (by kernel_rfl) (by kernel_rfl)
 have l:=@run_callFunc_extern Tryz.prog 232 _ (ReflectliteType.abiMethod fun t=>do pure (.int .u8 (<- Rtype.kind t))) Tryz.func232 (by kernel_rfl) (by kernel_rfl) (by kernel_rfl) (by kernel_rfl)
 have o:=@run_callFunc_extern Tryz.prog 245 _ (ReflectliteType.method ReflectliteType.elem) Tryz.func245 (by kernel_rfl) (by kernel_rfl) (by kernel_rfl) (by kernel_rfl)
 have p:=@run_callFunc_extern Tryz.prog 246 _ (ReflectliteType.relation "Implements" ReflectliteType.implements_) Tryz.func246 (by kernel_rfl) (by kernel_rfl) (by kernel_rfl) (by kernel_rfl)
 have i:=@run_callFunc_extern Tryz.prog 130 _ ReflectliteType.typeOf Tryz.func130 (by kernel_rfl) (by kernel_rfl) (by kernel_rfl) (by kernel_rfl)
 have m:=@run_callFunc_extern Tryz.prog 243 _ (ReflectliteType.relation "AssignableTo" ReflectliteType.assignableTo) Tryz.func243 (by kernel_rfl) (by kernel_rfl) (by kernel_rfl) (by kernel_rfl)
 have j:=@run_callFunc_extern Tryz.prog 131 _ (ReflectliteValue.method (ReflectliteValue.valueError "reflectlite.Value.Elem" 0) ReflectliteValue.elem) Tryz.func131 (by kernel_rfl) (by kernel_rfl) (by kernel_rfl) (by kernel_rfl)
 have k:=@run_callFunc_extern Tryz.prog 132 _ ReflectliteValue.set Tryz.func132 (by kernel_rfl) (by kernel_rfl) (by kernel_rfl) (by kernel_rfl)
 have I:=xi
 have D:=vR
 have g:=xj
 have v:=vE
 have y:=vD
 have z:=rl_typeP
 have F:=me_Kind
 have E:=me_Elem
 have mI:=me_Impl
 have u:=rl_kindP
 have s:=rl_kindE
 have h:=rl_elem
 have r:=kJ
 have G:=rl_isNil ⟨w.heap.size,0,none⟩ t ((w.alloc (.cells #[.pointer (some t)] 113)).alloc (.cells #[.pointer (some ⟨7,113,none⟩),.pointer (some ⟨w.heap.size,0,none⟩),.int .u64 150] 164)) (by simp)
 have f:0<w.heap.size:=zg d
 have q:((w.alloc (.cells #[.pointer (some t)] 113)).alloc (.cells #[.pointer (some ⟨7,113,none⟩),.pointer (some ⟨w.heap.size,0,none⟩),.int .u64 150] 164)).cell? ⟨0,0,none⟩=some (.iface 223 (.agg #[.pointer (some ⟨7,38,none⟩)])):=by
  rw[World.cell?_alloc_lt _ _ ⟨0,0,none⟩ (by simp<;>omega),World.cell?_alloc_lt _ _ ⟨0,0,none⟩ f];exact d
 have b:t.block<w.heap.size:=World.block_lt_of_cell? _ _ a
 have x:=rl_elemV ⟨w.heap.size,0,none⟩ t (((w.alloc (.cells #[.pointer (some t)] 113)).alloc (.cells #[.pointer (some ⟨7,113,none⟩),.pointer (some ⟨w.heap.size,0,none⟩),.int .u64 150] 164)).alloc (.cells #[.pointer (some ⟨7,113,none⟩),.pointer (some ⟨w.heap.size,0,none⟩),.int .u64 150] 164)) (by rw[World.cell?_alloc_lt _ _ ⟨w.heap.size,0,none⟩ (by simp;omega)];simp)
 have H:=rl_set t ⟨w.heap.size+1+1+1,0,none⟩ n c ((((w.alloc (.cells #[.pointer (some t)] 113)).alloc (.cells #[.pointer (some ⟨7,113,none⟩),.pointer (some ⟨w.heap.size,0,none⟩),.int .u64 150] 164)).alloc (.cells #[.pointer (some ⟨7,113,none⟩),.pointer (some ⟨w.heap.size,0,none⟩),.int .u64 150] 164)).alloc (.cells #[.int .i64 n] 44))
  (by rw[World.cell?_alloc_at _ _ _ _ (by simp)];rfl)
  (by rw[World.cell?_alloc_lt _ _ t (by simp;omega),World.cell?_alloc_lt _ _ t (by simp;omega),World.cell?_alloc_lt _ _ t (by simp;omega),World.cell?_alloc_lt _ _ t b];exact a)
  (by rw[World.frozen?_alloc_old _ _ t (by simp;omega),World.frozen?_alloc_old _ _ t (by simp;omega),World.frozen?_alloc_old _ _ t (by simp;omega),World.frozen?_alloc_old _ _ t (Nat.ne_of_lt b)];exact e)
 go_enter Tryz.func53,Tryz.ntmps53
 go_wp2
 refine wp_loop_rounds 1 ?_
 rw[rounds_succ]
 go_wp2
 go_ret
 exact⟨rfl,rfl⟩
theorem as_ta1 (a:Option Addr)(w:World):(Instr.typeAssert (.iface 117 (.pointer a)) 38 228 true).run Tryz.prog w=.ok (.tuple #[.nilIface,.bool false]) w:=run_typeAssert_lacksB Tryz.underlying228 (by kernel_rfl) (by kernel_rfl) _ _ w
theorem as_ta2 (a:Option Addr)(w:World):(Instr.typeAssert (.iface 117 (.pointer a)) 38 231 true).run Tryz.prog w=.ok (.tuple #[.iface 117 (.pointer a),.bool true]) w:=by kernel_rfl
theorem as_at (n:Int)(a:Nat)(t:Addr)(f:Value)(w:World)(g:w.cell? ⟨0,0,none⟩=some (.iface 223 (.agg #[.pointer (some ⟨7,38,none⟩)])))(j:w.cell? ⟨a,0,none⟩=some (.int .i64 n))(c:w.cell? t=some f)(h:w.frozen? t=false) :
  Calls Tryz.prog 53 #[.iface 117 (.pointer (some ⟨a,0,none⟩)),.iface 113 (.pointer (some t))] w fun ev w'=>ev=.returned (.bool true)/\w'=((((w.alloc (.cells #[.pointer (some t)] 113)).alloc (.cells #[.pointer (some ⟨7,113,none⟩),.pointer (some ⟨w.heap.size,0,none⟩),.int .u64 150] 164)).alloc (.cells #[.pointer (some ⟨7,113,none⟩),.pointer (some ⟨w.heap.size,0,none⟩),.int .u64 150] 164)).alloc (.cells #[.int .i64 n] 44)).setCell t (.int .i64 n):=by
 have H:=@run_callFunc_extern Tryz.prog 94 _ (fun args=>ReflectliteValue.unpack (args.getD 0 (.tuple #[]))) Tryz.func94 (by kernel_rfl) (by kernel_rfl) (by kernel_rfl) (by kernel_rfl)
 have I:=@run_callFunc_extern Tryz.prog 95 _ (ReflectliteValue.methodAny (ReflectliteValue.valueError "reflectlite.Value.Type" 0) (fun t _ _ _=>ReflectliteType.toType t)) Tryz.func95 (by kernel_rfl) (by kernel_rfl) (by kernel_rfl) (by kernel_rfl)
 have J:=@run_callFunc_extern Tryz.prog 96 _ (ReflectliteValue.method (ReflectliteValue.valueError "reflectlite.Value.IsNil" 0) ReflectliteValue.isNil) Tryz.func96 (by kernel_rfl) (by kernel_rfl) (by kernel_rfl) (by kernel_rfl)
 have q:=@run_callFunc_extern Tryz.prog 232 _ (ReflectliteType.abiMethod fun t=>do pure (.int .u8 (<- Rtype.kind t))) Tryz.func232 (by kernel_rfl) (by kernel_rfl) (by kernel_rfl) (by kernel_rfl)
 have s:=@run_callFunc_extern Tryz.prog 245 _ (ReflectliteType.method ReflectliteType.elem) Tryz.func245 (by kernel_rfl) (by kernel_rfl) (by kernel_rfl) (by kernel_rfl)
 have u:=@run_callFunc_extern Tryz.prog 246 _ (ReflectliteType.relation "Implements" ReflectliteType.implements_) Tryz.func246 (by kernel_rfl) (by kernel_rfl) (by kernel_rfl) (by kernel_rfl)
 have m:=@run_callFunc_extern Tryz.prog 130 _ ReflectliteType.typeOf Tryz.func130 (by kernel_rfl) (by kernel_rfl) (by kernel_rfl) (by kernel_rfl)
 have r:=@run_callFunc_extern Tryz.prog 243 _ (ReflectliteType.relation "AssignableTo" ReflectliteType.assignableTo) Tryz.func243 (by kernel_rfl) (by kernel_rfl) (by kernel_rfl) (by kernel_rfl)
 have o:=@run_callFunc_extern Tryz.prog 131 _ (ReflectliteValue.method (ReflectliteValue.valueError "reflectlite.Value.Elem" 0) ReflectliteValue.elem) Tryz.func131 (by kernel_rfl) (by kernel_rfl) (by kernel_rfl) (by kernel_rfl)
 have p:=@run_callFunc_extern Tryz.prog 132 _ ReflectliteValue.set Tryz.func132 (by kernel_rfl) (by kernel_rfl) (by kernel_rfl) (by kernel_rfl)
 have R:=xi
 have K:=vR
 have k:=xj
 have C:=vE
 have F:=vD
 have G:=rl_typeP
 have M:=me_Kind
 have L:=me_Elem
 have mI:=me_Impl
 have z:=rl_kindP
 have y:=rl_kindE
 have l:=rl_elem
 have x:=kJ
 have O:=rl_isNil ⟨w.heap.size,0,none⟩ t ((w.alloc (.cells #[.pointer (some t)] 113)).alloc (.cells #[.pointer (some ⟨7,113,none⟩),.pointer (some ⟨w.heap.size,0,none⟩),.int .u64 150] 164)) (by simp)
 have i:0<w.heap.size:=zg g
 have v:((w.alloc (.cells #[.pointer (some t)] 113)).alloc (.cells #[.pointer (some ⟨7,113,none⟩),.pointer (some ⟨w.heap.size,0,none⟩),.int .u64 150] 164)).cell? ⟨0,0,none⟩=some (.iface 223 (.agg #[.pointer (some ⟨7,38,none⟩)])):=by
  rw[World.cell?_alloc_lt _ _ ⟨0,0,none⟩ (by simp<;>omega),World.cell?_alloc_lt _ _ ⟨0,0,none⟩ i];exact g
 have d:t.block<w.heap.size:=World.block_lt_of_cell? _ _ c
 have E:=rl_elemV ⟨w.heap.size,0,none⟩ t (((w.alloc (.cells #[.pointer (some t)] 113)).alloc (.cells #[.pointer (some ⟨7,113,none⟩),.pointer (some ⟨w.heap.size,0,none⟩),.int .u64 150] 164)).alloc (.cells #[.pointer (some ⟨7,113,none⟩),.pointer (some ⟨w.heap.size,0,none⟩),.int .u64 150] 164)) (by rw[World.cell?_alloc_lt _ _ ⟨w.heap.size,0,none⟩ (by simp;omega)];simp)
 have P:=rl_set t ⟨w.heap.size+1+1+1,0,none⟩ n f ((((w.alloc (.cells #[.pointer (some t)] 113)).alloc (.cells #[.pointer (some ⟨7,113,none⟩),.pointer (some ⟨w.heap.size,0,none⟩),.int .u64 150] 164)).alloc (.cells #[.pointer (some ⟨7,113,none⟩),.pointer (some ⟨w.heap.size,0,none⟩),.int .u64 150] 164)).alloc (.cells #[.int .i64 n] 44))
  (by rw[World.cell?_alloc_at _ _ _ _ (by simp)];rfl)
  (by rw[World.cell?_alloc_lt _ _ t (by simp;omega),World.cell?_alloc_lt _ _ t (by simp;omega),World.cell?_alloc_lt _ _ t (by simp;omega),World.cell?_alloc_lt _ _ t d];exact c)
  (by rw[World.frozen?_alloc_old _ _ t (by simp;omega),World.frozen?_alloc_old _ _ t (by simp;omega),World.frozen?_alloc_old _ _ t (by simp;omega),World.frozen?_alloc_old _ _ t (Nat.ne_of_lt d)];exact h)
 have Q:=rl_typeOfA
 have D:=rl_assignA
 have N:=me_Unwrap
 have A:=as_ta1
 have B:=as_ta2
 have b:(((w.alloc (.cells #[.pointer (some t)] 113)).alloc (.cells #[.pointer (some ⟨7,113,none⟩),.pointer (some ⟨w.heap.size,0,none⟩),.int .u64 150] 164)).alloc (.cells #[.pointer (some ⟨7,113,none⟩),.pointer (some ⟨w.heap.size,0,none⟩),.int .u64 150] 164)).cell? ⟨a,0,none⟩=some (.int .i64 n):=zE (zE (zE j _) _) _
 go_enter Tryz.func53,Tryz.ntmps53
 go_wp2
 refine wp_loop_rounds 2 ?_
 rw[rounds_succ]
 go_wp2_with (go_at_call 237;refine(unwrap_any a n _ ?hx ?hy).mono ?_;(case hx=>exact b);(case hy=>exact zg b);rintro e S ⟨rfl,rfl⟩)
 rw[rounds_succ]
 go_wp2
 go_ret
 exact⟨rfl,rfl⟩
theorem ext_four (w:World)(t:Addr)(a b c d:Obj)(v:Value):Ext t.block w (((((w.alloc a).alloc b).alloc c).alloc d).setCell t v):=by
 have h:Below w.heap.size w ((((w.alloc a).alloc b).alloc c).alloc d):=(((zb _ _).alloc (by simp) _).alloc (by simp;omega) _).alloc (by simp;omega) _
 refine⟨h.os,h.tape,h.output,by simpa using h.size,fun k f e=>?_⟩
 rw[Below.heap_setCell _ _ _ _ e]
 exact h.block k f
theorem tell_en (n:Int)(w:World)(j:w.cell? ⟨0,0,none⟩=some (.iface 223 (.agg #[.pointer (some ⟨7,38,none⟩)]))) :
  Calls Tryz.prog 25 #[.iface 44 (.int .i64 n)] w fun e w'=>e=.returned (.int .i64 n)/\Below w.heap.size w w':=by
 obtain⟨a,b⟩:∃a,a=w.alloc (.cells #[.int .i64 0] 44):=⟨_,rfl⟩
 have h:Below w.heap.size w a:=by rw[b];exact zb _ _
 have c:a.heap[w.heap.size]?=some (.cells #[.int .i64 0] 44 (0,0)):=by rw[b];exact zo _ _
 have i:a.cell? ⟨0,0,none⟩=some (.iface 223 (.agg #[.pointer (some ⟨7,38,none⟩)])):=by rw[b];exact zE j _
 have o:=zh (as_en n ⟨w.heap.size,0,none⟩ (.int .i64 0) a i ((za c).trans rfl) (zi c))
 have g:=zh h
 have m:=zh c
 clear h c i j
 go_enter Tryz.func25,Tryz.ntmps25
 go_upto_region 4 with fail
 rw[<-b]
 clear b
 go_wp2_with fail
 refine o.out.mono ?_
 rintro e d⟨rfl,f⟩
 have k:Ext w.heap.size a d:=by rw[f];exact ext_four a ⟨w.heap.size,0,none⟩ _ _ _ _ _
 have p:d.cell? ⟨w.heap.size,0,none⟩=some (.int .i64 n):=by
  rw[f]
  exact World.cell?_setCell_same _ _ _ (zE (zE (zE (zE ((za m.out).trans rfl) _) _) _) _)
 have l:Hid (Below w.heap.size w d):=g.out.trans (zT k zn g.out.size)
 have q:w.heap.size<d.heap.size:=zg p
 clear f k
 go_wp2_with fail
 go_ret
 exact⟨rfl,l.out⟩
theorem tell_at (n:Int)(d:Nat)(w:World)(m:w.cell? ⟨0,0,none⟩=some (.iface 223 (.agg #[.pointer (some ⟨7,38,none⟩)])))(l:w.cell? ⟨d,0,none⟩=some (.int .i64 n)) :
  Calls Tryz.prog 25 #[.iface 117 (.pointer (some ⟨d,0,none⟩))] w fun e w'=>e=.returned (.int .i64 n)/\Below w.heap.size w w':=by
 obtain⟨a,b⟩:∃a,a=w.alloc (.cells #[.int .i64 0] 44):=⟨_,rfl⟩
 have j:Below w.heap.size w a:=by rw[b];exact zb _ _
 have c:a.heap[w.heap.size]?=some (.cells #[.int .i64 0] 44 (0,0)):=by rw[b];exact zo _ _
 have k:a.cell? ⟨0,0,none⟩=some (.iface 223 (.agg #[.pointer (some ⟨7,38,none⟩)])):=by rw[b];exact zE m _
 have i:a.cell? ⟨d,0,none⟩=some (.int .i64 n):=by rw[b];exact zE l _
 have r:=zh (as_at n d ⟨w.heap.size,0,none⟩ (.int .i64 0) a k i ((za c).trans rfl) (zi c))
 have h:=zh j
 have q:=zh c
 clear j c k m l i
 go_enter Tryz.func25,Tryz.ntmps25
 go_upto_region 4 with fail
 rw[<-b]
 clear b
 go_wp2_with fail
 refine r.out.mono ?_
 rintro e f⟨rfl,g⟩
 have o:Ext w.heap.size a f:=by rw[g];exact ext_four a ⟨w.heap.size,0,none⟩ _ _ _ _ _
 have s:f.cell? ⟨w.heap.size,0,none⟩=some (.int .i64 n):=by
  rw[g]
  exact World.cell?_setCell_same _ _ _ (zE (zE (zE (zE ((za q.out).trans rfl) _) _) _) _)
 have p:Hid (Below w.heap.size w f):=h.out.trans (zT o zn h.out.size)
 have t:w.heap.size<f.heap.size:=zg s
 clear g o
 go_wp2_with fail
 go_ret
 exact⟨rfl,p.out⟩
end Go.Proofs.YtibncofnnlbmcaaGreatDoor
namespace Go.Proofs.YtibncofnnlbmcaaGreatDoor
open Go.RowKit
open Tp (Bs Th Sy Seen X S G Pr)
def ErT (w:World):Prop:=w.cell? ⟨0,0,none⟩=some (.iface 223 (.agg #[.pointer (some ⟨7,38,none⟩)]))
theorem ErT.below {w w':World}{B:Nat}(h:ErT w)(k:Below B w w')(a:0<B):ErT w':=(k.cell (p:=⟨0,0,none⟩) a).trans h
structure VarsC (B:Nat) (w:World):Prop where
 mks:Mk w
 lv:Lv w
 et:ErT w
 m:1<B
 l:3<B
 e:0<B
theorem VarsC.on {B:Nat}{w w':World}(h:VarsC B w)(k:Below B w w'):VarsC B w':=⟨h.mks.below k h.m,h.lv.below k h.l,h.et.below k h.e,h.m,h.l,h.e⟩
theorem VarsC.on' {B:Nat}{w w':World}(h:VarsC B w)(a:B<=w.heap.size)(k:Below w.heap.size w w'):VarsC B w':=h.on (k.mono a)
structure StrsAt (w:World) (ns:List (List UInt8)) (a:Option Addr):Prop where
 c:∀i (h:i<ns.length),∃b o,a=some ⟨b,o,none⟩/\b<w.heap.size/\w.cell? ⟨b,o+i,none⟩=some (.string (bs ns[i]))
theorem StrsAt.on {w w':World}{ns:List (List UInt8)}{a:Option Addr}(h:StrsAt w ns a)(k:Below w.heap.size w w'):StrsAt w' ns a :=
 ⟨fun i g=>by obtain⟨b,o,e,d,f⟩:=h.c i g;exact⟨b,o,e,Nat.lt_of_lt_of_le d k.size,(k.cell (p:=⟨b,o+i,none⟩) d).trans f⟩⟩
end Go.Proofs.YtibncofnnlbmcaaGreatDoor
namespace Go.Proofs.YtibncofnnlbmcaaGreatDoor
open Go.RowKit
variable {kk:Nat->Prop}
open Tp (Sy)
theorem dec_itoa:∀n:Nat,Tp.dec n=Lib.itoa (n:Int):=by
 intro n
 rw[Lib.itoa_nonneg]
 induction n using Nat.strongRecOn with
 | _ n ih =>
  rw[Tp.dec,Lib.decDigits]
  split
  ·rfl
  ·rw[ih (n / 10) (by omega)]
theorem vX (w:World)(i:Nat)(a:i<100):Calls Tryz.prog 109 #[.int .i64 (i:Int)] w fun e w'=>e=.returned (.string (bs (Tp.dec i)))/\w'=w:=by
 have h:=Any.strconv_Itoa_small Tryz.laysItoa i a w
 have e:Tp.dec i=Lib.decDigits i:=by rw[dec_itoa,Lib.itoa_nonneg]
 rw[e]
 exact h
theorem yB {w:World}{B:Nat}{v:Value}{l:List UInt8}(h:Buf kk w B v l)(first:List UInt8)(a:List (List UInt8))(p cs:Nat)(O:w.heap[p]?=some (.cells (a.map fun s=>Value.string (bs s)).toArray 9 (0,0)))(hn:a.length<=1000)(b:(l++Tp.wordsL first a).length<=1000000000) :
  Calls Tryz.prog 129 #[v,.string (bs first),.slice (some ⟨p,0,none⟩) a.length cs] w (Wrote kk B w (l++Tp.wordsL first a)):=by
 obtain⟨ao,cap,z⟩:=zw h.1
 subst z
 have a3:l.length+first.length<=1000000000:=by unfold Tp.wordsL at b;simp only[List.length_append]at b;omega
 have K:∀i,i<=a.length->(l++first++((a.take i).map fun s=>(32:UInt8) :: s).flatten).length+1<=1000000000:=by
  intro i hi
  unfold Tp.wordsL at b
  have e:(a.map fun s=>(32:UInt8) :: s).flatten=((a.take i).map fun s=>(32:UInt8) :: s).flatten++((a.drop i).map fun s=>(32:UInt8) :: s).flatten:=by
   conv=>lhs;rw[<-List.take_append_drop i a,List.map_append,List.flatten_append]
  rw[e]at b
  simp only[List.length_append,List.length_cons,List.length_nil]at b ⊢
  omega
 have F:=zh K
 have HL:=zh b
 clear K b
 go_enter Tryz.func129,Tryz.ntmps129
 go_wp2_with (at_builtin;refine xc rfl _ _ rfl h first rfl rfl ?c1 ?_)
 case c1=>omega
 intro v1 w1 I q
 have L:=q.keeps O (by decide)
 have E:=zh I
 have C:=zh q
 have G:=zh L
 clear I q L O
 go_wp2_with fail
 go_loopg [0,14] a.length (fun k v Y wr=>∃i:Nat,i<=a.length/\k=a.length-i/\Y=.int .i64 (i:Int)/\Hid (Buf kk wr B v (l++first++((a.take i).map fun s=>(32:UInt8) :: s).flatten))/\Hid (Bw kk B w wr)/\Hid (wr.heap[p]?=some (.cells (a.map fun s=>Value.string (bs s)).toArray 9 (0,0))))
 case atStart=>exact⟨0,by omega,by omega,rfl,by unfold Hid;simpa using E.out,C,G⟩
 case round =>
  obtain⟨i,V,hk,rfl,M,u,n⟩:=hrel
  clear E C G
  have d:=M.out
  obtain⟨m,o⟩:∃m,m=l++first++((a.take i).map fun s=>(32:UInt8) :: s).flatten:=⟨_,rfl⟩
  rw[<-o]at d
  have W:=F.out i V
  rw[<-o]at W
  have N:=zh o
  clear o M
  obtain⟨a1,c1,z⟩:=zw d.1
  subst z
  by_cases y:i<a.length
  ·have R:(i:Int)<(a.length:Int):=by omega
   have A:wr.cell? ⟨p,i,none⟩=some (.string (bs a[i])):=by rw[za n.out];simp[y]
   have a2:=zf n.out
   have j:=F.out (i+1) y
   have t:l++first++((a.take (i+1)).map fun s=>(32:UInt8) :: s).flatten=m++[32]++a[i]:=by
    rw[List.take_succ_eq_append_getElem y,List.map_append,List.flatten_append,N.out]
    simp
   rw[t]at j
   have D:=zh t
   clear t
   generalize a[i]=x at A j D
   have a0:m.length+1+x.length<=1000000000:=by simp only[List.length_append,List.length_cons,List.length_nil]at j;omega
   clear j
   go_wp2_with (at_builtin;refine jv rfl _ _ rfl d 32 32 rfl rfl rfl ?c1 ?_)
   case c1=>omega
   intro P w2 f c
   have H:=zh (c.keeps n.out (by decide))
   have g:=zh (u.out.trans c)
   clear d c n u A
   go_wp2_with (at_builtin;refine xc rfl _ _ rfl f x rfl rfl ?c2 ?_)
   case c2=>simp only[List.length_append,List.length_cons,List.length_nil];omega
   intro X Z J r
   have T:Hid (Buf kk Z B X (l++first++((a.take (i+1)).map fun s=>(32:UInt8) :: s).flatten)):=by unfold Hid;rw[D.out];simpa using J
   have Q:=zh (g.out.trans r)
   have U:=zh (r.keeps H.out (by decide))
   clear f J r H g
   go_wp2_with fail
   go_roundg (a.length-(i+1))
   case measure=>omega
   case rel=>exact⟨i+1,by omega,rfl,by go_num,T,Q,U⟩
  ·have R:¬(i:Int)<(a.length:Int):=by omega
   have e:i=a.length:=by omega
   go_wp2_with (at_builtin;refine jv rfl _ _ rfl d 10 10 rfl rfl rfl ?c1 ?_)
   case c1=>omega
   intro P w2 f c
   have S:Hid (Buf kk w2 B P (l++Tp.wordsL first a)):=by
    unfold Hid Tp.wordsL
    rw[N.out,e,List.take_length]at f
    simpa using f
   have g:=zh (u.out.trans c)
   clear f c d
   go_wp2_with fail
   go_ret
   exact⟨_,rfl,S.out,g.out⟩
theorem yQ {w:World}{b:Nat}{a c d:Value}{t:TypeId}(h:w.heap[b]?=some (.cells #[a,c,d] t (0,0))):w.cell? ⟨b,0,none⟩=some a/\w.cell? ⟨b,1,none⟩=some c/\w.cell? ⟨b,2,none⟩=some d :=
 ⟨(za h).trans rfl,(za h).trans rfl,(za h).trans rfl⟩
theorem qB (s:Sy)(Q:s.2.1<100)(R:s.2.2<100)(S:-1<=s.2.2){w:World}{B:Nat}{v:Value}{l:List UInt8}(k:Buf kk w B v l)(c:(l++Tp.lineOf s).length<=1000000000) :
  Calls Tryz.prog 128 #[v,.agg #[.string (bs s.1),.int .i64 (s.2.1:Int),.int .i64 s.2.2]] w (Wrote kk B w (l++Tp.lineOf s)):=by
 obtain⟨nm,a,args⟩:=s
 simp only at Q R S ⊢
 unfold Tp.lineOf at c ⊢
 simp only at c ⊢
 have A:∀ob,Below w.heap.size w (w.alloc ob):=fun ob=>zb _ _
 have o:(w.alloc (.cells #[.string (bs nm),.int .i64 (a:Int),.int .i64 args] 205)).heap[w.heap.size]?=some (.cells #[.string (bs nm),.int .i64 (a:Int),.int .i64 args] 205 (0,0)):=zo _ _
 obtain⟨K,T,U⟩:=yQ o
 by_cases H:0<=args
 ·rw[if_pos H]at c ⊢
  obtain⟨d,rfl⟩:∃d:Nat,args=d:=⟨args.toNat,by omega⟩
  have e:((d:Int)).toNat=d:=by simp
  rw[e]at c ⊢
  have n:=fun W=>vX W d (by omega)
  obtain⟨b,t⟩:∃b,b=Tp.dec d:=⟨_,rfl⟩
  rw[<-t]at c n ⊢
  obtain⟨h,f⟩:∃h,h=l++Tp.wordsL Tp.wProc [nm,b]:=⟨_,rfl⟩
  rw[<-f]
  have z:=zh f
  have D:=zh c
  have C:Hid (∀W,Calls Tryz.prog 109 #[.int .i64 (d:Int)] W fun e w'=>e=.returned (.string (bs b))/\w'=W):=n
  clear n f c t e
  have g:Below w.heap.size w ((w.alloc (.cells #[.string (bs nm),.int .i64 (a:Int),.int .i64 (d:Int)] 205)).alloc (.cells #[.string (bs nm),.string (bs b)] 9)).drew:=((A _).alloc (by simp) _).drew
  have j:=yB (k.below g) Tp.wProc [nm,b] (w.heap.size+1) 2 (yj _ _ _) (by simp) D.out
  have u:Hid (Calls Tryz.prog 129 #[v,.string ⟨#[112,114,111,99]⟩,.slice (some ⟨w.heap.size+1,0,none⟩) 2 2] ((w.alloc (.cells #[.string (bs nm),.int .i64 (a:Int),.int .i64 (d:Int)] 205)).alloc (.cells #[.string (bs nm),.string (bs b)] 9)).drew (Wrote kk B ((w.alloc (.cells #[.string (bs nm),.int .i64 (a:Int),.int .i64 (d:Int)] 205)).alloc (.cells #[.string (bs nm),.string (bs b)] 9)).drew h)):=by rw[z.out];exact j
  have q:Hid (Bw kk B w ((w.alloc (.cells #[.string (bs nm),.int .i64 (a:Int),.int .i64 (d:Int)] 205)).alloc (.cells #[.string (bs nm),.string (bs b)] 9)).drew):=Bw.of (kk:=kk) g k.2
  have x:Hid (((w.alloc (.cells #[.string (bs nm),.int .i64 (a:Int),.int .i64 (d:Int)] 205)).alloc (.cells #[.string (bs nm),.string (bs b)] 9)).drew.heap[w.heap.size]?=some (.cells #[.string (bs nm),.int .i64 (a:Int),.int .i64 (d:Int)] 205 (0,0))):=(Below.heap_alloc _ _ w.heap.size (by simp)).trans o
  obtain⟨E,I,J⟩:=yQ x.out
  clear j g k o
  go_enter Tryz.func128,Tryz.ntmps128
  go_wp2_with fail
  go_region_held3 (fun w'=>w'.cell? ⟨w.heap.size,0,none⟩=some (.string (bs nm))/\w'.cell? ⟨w.heap.size,2,none⟩=some (.int .i64 (d:Int))) (first|(exact⟨K,U⟩)|(exact⟨E,J⟩)|(exact⟨F,M⟩)) (first|(go_at_call 109;refine(C.out _).mono ?_;rintro e w2 ⟨rfl,rfl⟩)|(go_at_call 129;refine u.out.mono ?_;rintro e O ⟨N,rfl,m,i⟩;have y:=i.keeps x.out (by decide);have p:=zh (q.out.trans i);have r:=zh m;obtain⟨F,L,M⟩:=yQ y;clear m i))
  go_wp2_with fail
  go_ret
  exact⟨_,rfl,r.out,p.out⟩
 ·rw[if_neg H]at c ⊢
  by_cases G:0<a
  ·rw[if_pos G]at c ⊢
   have P:(0:Int)<(a:Int):=by omega
   have n:=fun W=>vX W a (by omega)
   obtain⟨b,t⟩:∃b,b=Tp.dec a:=⟨_,rfl⟩
   rw[<-t]at c n ⊢
   obtain⟨h,f⟩:∃h,h=l++Tp.wordsL Tp.wArr [nm,b]:=⟨_,rfl⟩
   rw[<-f]
   have z:=zh f
   have D:=zh c
   have C:Hid (∀W,Calls Tryz.prog 109 #[.int .i64 (a:Int)] W fun e w'=>e=.returned (.string (bs b))/\w'=W):=n
   clear n f c t
   have g:Below w.heap.size w ((w.alloc (.cells #[.string (bs nm),.int .i64 (a:Int),.int .i64 args] 205)).alloc (.cells #[.string (bs nm),.string (bs b)] 9)).drew:=((A _).alloc (by simp) _).drew
   have j:=yB (k.below g) Tp.wArr [nm,b] (w.heap.size+1) 2 (yj _ _ _) (by simp) D.out
   have u:Hid (Calls Tryz.prog 129 #[v,.string ⟨#[97,114,114,97,121]⟩,.slice (some ⟨w.heap.size+1,0,none⟩) 2 2] ((w.alloc (.cells #[.string (bs nm),.int .i64 (a:Int),.int .i64 args] 205)).alloc (.cells #[.string (bs nm),.string (bs b)] 9)).drew (Wrote kk B ((w.alloc (.cells #[.string (bs nm),.int .i64 (a:Int),.int .i64 args] 205)).alloc (.cells #[.string (bs nm),.string (bs b)] 9)).drew h)):=by rw[z.out];exact j
   have q:Hid (Bw kk B w ((w.alloc (.cells #[.string (bs nm),.int .i64 (a:Int),.int .i64 args] 205)).alloc (.cells #[.string (bs nm),.string (bs b)] 9)).drew):=Bw.of (kk:=kk) g k.2
   have x:Hid (((w.alloc (.cells #[.string (bs nm),.int .i64 (a:Int),.int .i64 args] 205)).alloc (.cells #[.string (bs nm),.string (bs b)] 9)).drew.heap[w.heap.size]?=some (.cells #[.string (bs nm),.int .i64 (a:Int),.int .i64 args] 205 (0,0))):=(Below.heap_alloc _ _ w.heap.size (by simp)).trans o
   obtain⟨E,I,J⟩:=yQ x.out
   clear j g k o
   go_enter Tryz.func128,Tryz.ntmps128
   go_wp2_with fail
   go_region_held3 (fun w'=>w'.cell? ⟨w.heap.size,0,none⟩=some (.string (bs nm))/\w'.cell? ⟨w.heap.size,1,none⟩=some (.int .i64 (a:Int))) (first|(exact⟨K,T⟩)|(exact⟨E,I⟩)|(exact⟨F,L⟩)) (first|(go_at_call 109;refine(C.out _).mono ?_;rintro e w2 ⟨rfl,rfl⟩)|(go_at_call 129;refine u.out.mono ?_;rintro e O ⟨N,rfl,m,i⟩;have y:=i.keeps x.out (by decide);have p:=zh (q.out.trans i);have r:=zh m;obtain⟨F,L,M⟩:=yQ y;clear m i))
   go_wp2_with fail
   go_ret
   exact⟨_,rfl,r.out,p.out⟩
  ·rw[if_neg G]at c ⊢
   have P:¬(0:Int)<(a:Int):=by omega
   obtain⟨h,f⟩:∃h,h=l++Tp.wordsL Tp.wInt [nm]:=⟨_,rfl⟩
   rw[<-f]
   have g:Below w.heap.size w ((w.alloc (.cells #[.string (bs nm),.int .i64 (a:Int),.int .i64 args] 205)).alloc (.cells #[.string (bs nm)] 9)):=(A _).alloc (by simp) _
   have j:=yB (k.below g) Tp.wInt [nm] (w.heap.size+1) 1 (yj _ _ _) (by simp) c
   rw[<-f]at j
   have u:Hid (Calls Tryz.prog 129 #[v,.string ⟨#[105,110,116]⟩,.slice (some ⟨w.heap.size+1,0,none⟩) 1 1] ((w.alloc (.cells #[.string (bs nm),.int .i64 (a:Int),.int .i64 args] 205)).alloc (.cells #[.string (bs nm)] 9)) (Wrote kk B ((w.alloc (.cells #[.string (bs nm),.int .i64 (a:Int),.int .i64 args] 205)).alloc (.cells #[.string (bs nm)] 9)) h)):=j
   have q:Hid (Bw kk B w ((w.alloc (.cells #[.string (bs nm),.int .i64 (a:Int),.int .i64 args] 205)).alloc (.cells #[.string (bs nm)] 9))):=Bw.of (kk:=kk) g k.2
   clear j g k o c f
   go_enter Tryz.func128,Tryz.ntmps128
   go_wp2_with fail
   refine u.out.mono ?_
   rintro e O⟨N,rfl,m,i⟩
   have p:=zh (q.out.trans i)
   have r:=zh m
   clear m i
   go_wp2_with fail
   go_ret
   exact⟨_,rfl,r.out,p.out⟩
end Go.Proofs.YtibncofnnlbmcaaGreatDoor
