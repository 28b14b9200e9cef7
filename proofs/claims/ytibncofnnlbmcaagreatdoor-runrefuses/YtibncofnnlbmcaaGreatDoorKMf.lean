import Derived.Test.YtibncofnnlbmcaaGreatDoorKMe
import Derived.Test.YtibncofnnlbmcaaGreatDoorKPc
import Derived.Test.YtibncofnnlbmcaaGreatDoorKMb
import Derived.Test.YtibncofnnlbmcaaGreatDoorKWk
import Derived.Test.YtibncofnnlbmcaaGreatDoorKShb
import Derived.LaidEql
import Derived.RowKitTokens
import Derived.Stop.Asserts
set_option maxRecDepth 100000
set_option maxHeartbeats 4000000
namespace Go.Proofs.YtibncofnnlbmcaaGreatDoor
open Go.RowKit
open Tp (Bs Th Sy Seen X S G Pr)
def olOf (m:Tp.M) (i:Nat):List Th:=match m.procs[i]? with
 | some p=>Tp.ownT p
 | none=>[]
def srOf (m:Tp.M) (Sn:Seen) (i:Nat):Option (Nat× Nat):=match m.procs[i]? with
 | some p=>(Tp.rs p.body).findSome? (Tp.judgeP (Tp.standV (Tp.others m Sn) [Tp.lkT (Tp.ownT p),Tp.lkT (Tp.things m)]))
 | none=>none
theorem xD {w:World}{D:Nat->Prop}{a:Option Addr}{c:Nat}{l:List Bs}(h:Row w D 9 1 (.slice a l.length c) l.length (strs l)) (i:Nat) (hi:i<l.length):∃ g,a=some ⟨g,0,none⟩/\g<w.heap.size/\w.cell? ⟨g,i,none⟩=some (.string (bs l[i])):=by
 obtain⟨g,cap,q1,_,q3,q4⟩:=yt h (by omega)
 cases q1
 refine⟨g,rfl,q3,(q4 i (by omega)).trans ?_⟩
 simp[strs,hi]
theorem yU {m:Tp.M}(hm:Tp.Sml m) {w:World}{ia ga pa ba:Option Addr}{ic gc pc bc:Nat}(h:MB w w.heap.size m ia ga pa ba ic gc pc bc) {sv:Value}{Sn:Seen}(hS:SeenV w sv Sn) :
  Calls Tryz.prog 37 #[.agg (mcells (bs m.name) (.slice ia m.imports.length ic) (.slice ga m.vars.length gc) (.slice pa m.procs.length pc) (.slice ba m.body.length bc)),sv] w (CheckP w (Tp.check m Sn)):=by
 have hsv:∃ so,sv=.map so:=by
  rcases hS with⟨q,_⟩|⟨sb,n,q,_⟩
  ·exact⟨_,q⟩
  ·exact⟨_,q⟩
 have hpp:∀ W,Below w.heap.size w W->∀ i (hi:i<m.procs.length),∃(g:Nat) (pa' va ba':Option Addr) (pc' vc bc':Nat) (bcs:List Value),pa=some ⟨g,0,none⟩/\g<w.heap.size/\(∀ j,j<6->W.cell? ⟨g,i * 6+j,none⟩=(pcells (bs m.procs[i].name) (m.procs[i].pos:Int) m.procs[i].seen (.slice pa' m.procs[i].params.length pc') (.slice va m.procs[i].vars.length vc) (.slice ba' m.procs[i].body.length bc')).toList[j]?) /\
   Row W (fun b=>b<w.heap.size) 9 1 (.slice pa' m.procs[i].params.length pc') m.procs[i].params.length (strs m.procs[i].params)/\Row W (fun b=>b<w.heap.size) 9 1 (.slice va m.procs[i].vars.length vc) m.procs[i].vars.length (strs m.procs[i].vars)/\RepS W (fun b=>b<w.heap.size) m.procs[i].body bcs/\OwnS W (fun b=>b<w.heap.size) (.slice ba' m.procs[i].body.length bc') m.procs[i].body.length bcs:=by
  intro W hW i hi
  obtain⟨pcs,p1,p2⟩:=(h.on hW).pr
  obtain⟨g,cap,q1,q2,q3,q4⟩:=yt p2 (by omega)
  cases q1
  obtain⟨pv,vv,bv,bcs',r1,r2,r3,r4,r5⟩:=jk m.procs pcs p1 i hi
  obtain⟨y3,c3,rfl⟩:=r2.shape
  obtain⟨y4,c4,rfl⟩:=r3.shape
  obtain⟨y5,c5,rfl⟩:=r5.shape
  exact⟨g,y3,y4,y5,c3,c4,c5,bcs',rfl,q2,fun j hj=>(q4 (i * 6+j) (by omega)).trans (r1 j hj),r2,r3,r4,r5⟩
 refine check_walk (is:=m.imports) (Sn:=Sn) (tl:=Tp.things m) (ol:=olOf m) (sr:=srOf m Sn) (br:=(Tp.rs m.body).findSome? (Tp.judgeP (Tp.standV (Tp.others m Sn) [Tp.lkT (Tp.things m)]))) hsv ?_ ?_ ?_ ?_ hm.pc ?_
 ·intro W hW
  refine xJ (fun i hi=>?_) rfl hm.ic (hS.on hW)
  obtain⟨g,q1,q2,q3⟩:=xD (h.on hW).im i hi
  exact⟨g,m.imports[i],q1,q2,q3,hm.im _ (List.getElem_mem hi),List.getElem?_eq_getElem hi⟩
 ·intro W hW
  have hgl:=(h.on hW).gl
  refine vT (l:=Tp.things m) (fun i hi=>?_) (fun i hi=>?_) (by simp[Tp.things]) hm.gc hm.pc
  ·obtain⟨g,cap,q1,q2,q3,q4⟩:=yt hgl (by omega)
   cases q1
   have hc:=fun j (hj:j<4)=>(q4 (i * 4+j) (by omega)).trans (xK m.vars i hi j hj)
   refine⟨g,m.vars[i].name,m.vars[i].pos,m.vars[i].len,m.vars[i].seen,rfl,q3,hc 0 (by omega),hc 1 (by omega),hc 2 (by omega),hc 3 (by omega),hm.g _ (List.getElem_mem hi),?_⟩
   unfold Tp.things
   rw[List.getElem?_append_left (by simpa using hi)]
   simp[hi,Tp.thG]
  ·obtain⟨g,y3,y4,y5,c3,c4,c5,bcs,q1,q2,q3,_⟩:=hpp W hW i hi
   refine⟨g,m.procs[i].name,m.procs[i].pos,m.procs[i].seen,y3,y4,y5,m.procs[i].params.length,m.procs[i].vars.length,m.procs[i].body.length,c3,c4,c5,q1,Nat.lt_of_lt_of_le q2 hW.size,q3 0 (by omega),q3 1 (by omega),q3 2 (by omega),q3 3 (by omega),q3 4 (by omega),q3 5 (by omega),(hm.p _ (List.getElem_mem hi)).1,?_⟩
   unfold Tp.things
   rw[List.getElem?_append_right (by simp)]
   simp[hi,Tp.thP]
 ·intro i hi
  obtain⟨g,y3,y4,y5,c3,c4,c5,bcs,q1,q2,q3,q4,q5,q6,q7⟩:=hpp w (Below.refl _ _) i hi
  have hmp:=hm.p _ (List.getElem_mem hi)
  have hol:olOf m i=Tp.ownT m.procs[i]:=by unfold olOf;rw[List.getElem?_eq_getElem hi]
  have hsr:srOf m Sn i=(Tp.rs m.procs[i].body).findSome? (Tp.judgeP (Tp.standV (Tp.others m Sn) [Tp.lkT (Tp.ownT m.procs[i]),Tp.lkT (Tp.things m)])):=by unfold srOf;rw[List.getElem?_eq_getElem hi]
  refine⟨g,m.procs[i].name,m.procs[i].pos,m.procs[i].seen,y3,y4,y5,m.procs[i].params.length,m.procs[i].vars.length,m.procs[i].body.length,c3,c4,c5,q1,q2,q3 0 (by omega),q3 1 (by omega),q3 2 (by omega),q3 3 (by omega),q3 4 (by omega),q3 5 (by omega),fun W hW=>?_,fun W b hW hF=>?_⟩
  ·rw[hol]
   have hk:∀ b,b<w.heap.size->b<w.heap.size->W.heap[b]?=w.heap[b]?/\b<w.heap.size:=fun b hi _=>⟨hW.block b hi,hi⟩
   refine uJ (fun j hj=>?_) (fun j hj=>?_) (by simp[Tp.ownT,Tp.ownOf]) hmp.2.1 hmp.2.2.1
   ·obtain⟨g',a1,a2,a3⟩:=xD (q4.mono hk) j hj
    refine⟨g',m.procs[i].params[j],a1,a2,a3,hmp.2.2.2.1 _ (List.getElem_mem hj),?_⟩
    rw[Nat.zero_add]
    unfold Tp.ownT Tp.ownOf
    rw[List.map_append,List.getElem?_append_left (by simpa using hj)]
    simp[hj]
   ·obtain⟨g',a1,a2,a3⟩:=xD (q5.mono hk) j hj
    refine⟨g',m.procs[i].vars[j],a1,a2,a3,hmp.2.2.2.2.1 _ (List.getElem_mem hj),?_⟩
    unfold Tp.ownT Tp.ownOf
    rw[List.map_append,List.getElem?_append_right (by simp)]
    simp[hj]
  ·rw[hsr]
   rw[hol]at hF
   have hk:∀ b,b<w.heap.size->b<w.heap.size->W.heap[b]?=w.heap[b]?/\b<w.heap.size:=fun b hi _=>⟨hW.block b hi,hi⟩
   exact kj hF (by simp) _ _ zn hmp.2.2.2.2.2 W (fun b=>b<w.heap.size) _ bcs (Below.refl _ _) (q6.mono' hk) (q7.mono hk)
 ·intro W b hW hF
  obtain⟨bcs,b1,b2⟩:=(h.on hW).bd
  exact kj hF (by simp) _ _ zn hm.b W (fun b=>b<w.heap.size) _ bcs (Below.refl _ _) b1 b2
 ·rw[Tp.check_eq]
  congr 2
  unfold Tp.checkV
  congr 2
  rw[Tp.find_idx]
  congr 1
  funext i
  unfold olOf srOf
  cases m.procs[i]? with
  | none=>rw[Option.bind_none,Tp.twP];rfl
  | some p=>rfl
end Go.Proofs.YtibncofnnlbmcaaGreatDoor
namespace Go.Proofs.YtibncofnnlbmcaaGreatDoor
open Go.RowKit Go.Extern.Stop Go.Stop Go.Extern
theorem vh (t:Addr) (w:World):(ReflectliteValue.unpack (.iface 113 (.pointer (some t)))).run Tryz.prog w
  = .ok (.agg #[.pointer (some ⟨7,113,none⟩),.pointer (some ⟨w.heap.size,0,none⟩),.int .u64 150]) (w.alloc (.cells #[.pointer (some t)] 113)):=by kernel_rfl
theorem vk (n:Int) (w:World):(ReflectliteValue.unpack (.iface 44 (.int .i64 n))).run Tryz.prog w
  = .ok (.agg #[.pointer (some ⟨7,44,none⟩),.pointer (some ⟨w.heap.size,0,none⟩),.int .u64 130]) (w.alloc (.cells #[.int .i64 n] 44)):=by kernel_rfl
theorem rl_typeP (a:Addr) (w:World):(ReflectliteValue.methodAny (ReflectliteValue.valueError "reflectlite.Value.Type" 0) (fun t _ _ _=>ReflectliteType.toType t) #[.agg #[.pointer (some ⟨7,113,none⟩),.pointer (some a),.int .u64 150]]).run Tryz.prog w
  = .ok (.iface 223 (.agg #[.pointer (some ⟨7,113,none⟩)])) w:=by kernel_rfl
theorem rl_kindP (w:World):((ReflectliteType.abiMethod fun t=>(fun a:Nat=>Value.int IntKind.u8 (a:Int)) <$> Rtype.kind t) #[.pointer (some ⟨7,113,none⟩)]).run Tryz.prog w=.ok (.int .u8 22) w:=by kernel_rfl
theorem rl_kindE (w:World):((ReflectliteType.abiMethod fun t=>(fun a:Nat=>Value.int IntKind.u8 (a:Int)) <$> Rtype.kind t) #[.pointer (some ⟨7,44,none⟩)]).run Tryz.prog w=.ok (.int .u8 2) w:=by kernel_rfl
theorem rlm (z:Sem Value) (f:TypeId->Addr->Nat->Nat->Sem Value) (v:Value) :
  ReflectliteValue.method z f #[v]=(do match <- ReflectliteValue.parts v with|none=>z|some (t,a,fl)=>f t a fl (fl % 32)):=rfl
theorem vr (a:Addr) (w:World):(ReflectliteValue.parts (.agg #[.pointer (some ⟨7,113,none⟩),.pointer (some a),.int .u64 150])).run Tryz.prog w=.ok (some (113,a,150)) w:=by kernel_rfl
theorem rl_isNil (a p:Addr) (W:World) (ha:W.cell? a=some (.pointer (some p))) :
  (ReflectliteValue.method (ReflectliteValue.valueError "reflectlite.Value.IsNil" 0) ReflectliteValue.isNil #[.agg #[.pointer (some ⟨7,113,none⟩),.pointer (some a),.int .u64 150]]).run Tryz.prog W=.ok (.bool false) W:=by
 rw[rlm]
 simp only [Sem.run_bind,vr,Result.andThen]
 simp[ReflectliteValue.isNil,loadVar,isAgg,underlying,Tryz.underlying113,ha,Result.andThen]
theorem rl_elem (w:World):(ReflectliteType.method ReflectliteType.elem #[.agg #[.pointer (some ⟨7,113,none⟩)]]).run Tryz.prog w=.ok (.iface 223 (.agg #[.pointer (some ⟨7,44,none⟩)])) w:=by kernel_rfl
theorem kF (w:World):(ReflectliteType.relation "Implements" ReflectliteType.implements_ #[.agg #[.pointer (some ⟨7,44,none⟩)],.iface 223 (.agg #[.pointer (some ⟨7,38,none⟩)])]).run Tryz.prog w=.ok (.bool true) w:=by kernel_rfl
theorem jW (n:Int) (w:World):(ReflectliteType.typeOf #[.iface 44 (.int .i64 n)]).run Tryz.prog w=.ok (.iface 223 (.agg #[.pointer (some ⟨7,44,none⟩)])) w:=by kernel_rfl
theorem rl_typeOfA (v:Value) (w:World):(ReflectliteType.typeOf #[.iface 117 v]).run Tryz.prog w=.ok (.iface 223 (.agg #[.pointer (some ⟨7,117,none⟩)])) w:=by kernel_rfl
theorem jX (w:World):(ReflectliteType.relation "AssignableTo" ReflectliteType.assignableTo #[.agg #[.pointer (some ⟨7,44,none⟩)],.iface 223 (.agg #[.pointer (some ⟨7,44,none⟩)])]).run Tryz.prog w=.ok (.bool true) w:=by kernel_rfl
theorem rl_assignA (w:World):(ReflectliteType.relation "AssignableTo" ReflectliteType.assignableTo #[.agg #[.pointer (some ⟨7,117,none⟩)],.iface 223 (.agg #[.pointer (some ⟨7,44,none⟩)])]).run Tryz.prog w=.ok (.bool false) w:=by kernel_rfl
theorem rl_elemOf (w:World):(Rtype.elem? 113).run Tryz.prog w=.ok (some 44) w:=by kernel_rfl
theorem rl_mk (p:Addr) (w:World):(ReflectliteValue.mk 44 p ReflectliteValue.flagAddr).run Tryz.prog w=.ok (.agg #[.pointer (some ⟨7,44,none⟩),.pointer (some p),.int .u64 386]) w:=by kernel_rfl
theorem rl_elemV (a p:Addr) (W:World) (ha:W.cell? a=some (.pointer (some p))) :
  (ReflectliteValue.method (ReflectliteValue.valueError "reflectlite.Value.Elem" 0) ReflectliteValue.elem #[.agg #[.pointer (some ⟨7,113,none⟩),.pointer (some a),.int .u64 150]]).run Tryz.prog W
   = .ok (.agg #[.pointer (some ⟨7,44,none⟩),.pointer (some p),.int .u64 386]) W:=by
 rw[rlm]
 simp only [Sem.run_bind,vr,Result.andThen]
 simp[ReflectliteValue.elem,loadVar,isAgg,underlying,Tryz.underlying113,ha,Result.andThen,rl_elemOf,rl_mk]
theorem rl_partsA (a:Addr) (w:World):(ReflectliteValue.parts (.agg #[.pointer (some ⟨7,44,none⟩),.pointer (some a),.int .u64 386])).run Tryz.prog w=.ok (some (44,a,386)) w:=by kernel_rfl
theorem rl_partsE (a:Addr) (w:World):(ReflectliteValue.parts (.agg #[.pointer (some ⟨7,44,none⟩),.pointer (some a),.int .u64 130])).run Tryz.prog w=.ok (some (44,a,130)) w:=by kernel_rfl
theorem rl_direct (w:World):(Rtype.directlyAssignable 44 44).run Tryz.prog w=.ok true w:=by kernel_rfl
theorem rl_set (ta b:Addr) (n:Int) (old:Value) (W:World) (hb:W.cell? b=some (.int .i64 n)) (ht:W.cell? ta=some old) (hf:W.frozen? ta=false) :
  (ReflectliteValue.set #[.agg #[.pointer (some ⟨7,44,none⟩),.pointer (some ta),.int .u64 386],.agg #[.pointer (some ⟨7,44,none⟩),.pointer (some b),.int .u64 130]]).run Tryz.prog W
   = .ok (.tuple #[]) (W.setCell ta (.int .i64 n)):=by
 refine Eq.trans (congrArg (fun s:Sem Value=>s.run Tryz.prog W) (show ReflectliteValue.set #[.agg #[.pointer (some ⟨7,44,none⟩),.pointer (some ta),.int .u64 386],.agg #[.pointer (some ⟨7,44,none⟩),.pointer (some b),.int .u64 130]]=(ReflectliteValue.parts (.agg #[.pointer (some ⟨7,44,none⟩),.pointer (some ta),.int .u64 386]) >>= fun p=>ReflectliteValue.parts (.agg #[.pointer (some ⟨7,44,none⟩),.pointer (some b),.int .u64 130]) >>= fun q=>_) from rfl)) ?_
 simp only [Sem.run_bind,rl_partsA,rl_partsE,Result.andThen]
 simp[ReflectliteValue.flagAddr,loadVar,isAgg,underlying,Tryz.underlying44,hb,Result.andThen,rl_direct,storeVar,Value.cells,storeCells,Addr.add]
 rw[run_store Tryz.prog W ta _ _ (by rfl)]
 simp[ht,hf]
theorem me_Kind (h:Value) (w:World):(Go.method 332 223 (.agg #[h]) "Kind").run Tryz.prog w=.ok (232,h) w:=by kernel_rfl
theorem me_Elem (h:Value) (w:World):(Go.method 332 223 (.agg #[h]) "Elem").run Tryz.prog w=.ok (245,.agg #[h]) w:=by kernel_rfl
theorem me_Impl (h:Value) (w:World):(Go.method 332 223 (.agg #[h]) "Implements").run Tryz.prog w=.ok (246,.agg #[h]) w:=by kernel_rfl
theorem vH (h:Value) (w:World):(Go.method 332 223 (.agg #[h]) "AssignableTo").run Tryz.prog w=.ok (243,.agg #[h]) w:=by kernel_rfl
theorem me_Unwrap (a:Option Addr) (w:World):(Go.method 332 117 (.pointer a) "Unwrap").run Tryz.prog w=.ok (237,.pointer a) w:=by kernel_rfl
theorem unwrap_any (ab:Nat) (n:Int) (w:World) (h:w.cell? ⟨ab,0,none⟩=some (.int .i64 n)) (_hl:ab<w.heap.size) :
  Calls Tryz.prog 237 #[.pointer (some ⟨ab,0,none⟩)] w fun e w'=>e=.returned (.iface 44 (.int .i64 n))/\w'=w:=by
 go_enter Tryz.func237,Tryz.ntmps237
 go_wp2_with fail
 go_ret
 exact⟨rfl,rfl⟩
theorem as_en (n:Int) (t:Addr) (old:Value) (w:World) (hg:w.cell? ⟨0,0,none⟩=some (.iface 223 (.agg #[.pointer (some ⟨7,38,none⟩)]))) (ht0:w.cell? t=some old) (hf0:w.frozen? t=false) :
  Calls Tryz.prog 53 #[.iface 44 (.int .i64 n),.iface 113 (.pointer (some t))] w fun ev w'=>ev=.returned (.bool true)/\w'=((((w.alloc (.cells #[.pointer (some t)] 113)).alloc (.cells #[.pointer (some ⟨7,113,none⟩),.pointer (some ⟨w.heap.size,0,none⟩),.int .u64 150] 164)).alloc (.cells #[.pointer (some ⟨7,113,none⟩),.pointer (some ⟨w.heap.size,0,none⟩),.int .u64 150] 164)).alloc (.cells #[.int .i64 n] 44)).setCell t (.int .i64 n):=by
 have h6:=@run_callFunc_extern Tryz.prog 94 _ (fun args=>ReflectliteValue.unpack (args.getD 0 (.tuple #[]))) Tryz.func94 (by kernel_rfl) (by kernel_rfl) (by kernel_rfl) (by kernel_rfl)
 have h7:=@run_callFunc_extern Tryz.prog 95 _ (ReflectliteValue.methodAny (ReflectliteValue.valueError "reflectlite.Value.Type" 0) (fun t _ _ _=>ReflectliteType.toType t)) Tryz.func95 (by kernel_rfl) (by kernel_rfl) (by kernel_rfl) (by kernel_rfl)
 have h8:=@run_callFunc_extern Tryz.prog 96 _ (ReflectliteValue.method (ReflectliteValue.valueError "reflectlite.Value.IsNil" 0) ReflectliteValue.isNil) Tryz.func96 (by kernel_rfl) (by kernel_rfl) (by kernel_rfl) (by kernel_rfl)
 have h27:=@run_callFunc_extern Tryz.prog 232 _ (ReflectliteType.abiMethod fun t=>do pure (.int .u8 (<- Rtype.kind t))) Tryz.func232 (by kernel_rfl) (by kernel_rfl) (by kernel_rfl) (by kernel_rfl)
 have h37:=@run_callFunc_extern Tryz.prog 245 _ (ReflectliteType.method ReflectliteType.elem) Tryz.func245 (by kernel_rfl) (by kernel_rfl) (by kernel_rfl) (by kernel_rfl)
 have h38:=@run_callFunc_extern Tryz.prog 246 _ (ReflectliteType.relation "Implements" ReflectliteType.implements_) Tryz.func246 (by kernel_rfl) (by kernel_rfl) (by kernel_rfl) (by kernel_rfl)
 have h10:=@run_callFunc_extern Tryz.prog 130 _ ReflectliteType.typeOf Tryz.func130 (by kernel_rfl) (by kernel_rfl) (by kernel_rfl) (by kernel_rfl)
 have h35:=@run_callFunc_extern Tryz.prog 243 _ (ReflectliteType.relation "AssignableTo" ReflectliteType.assignableTo) Tryz.func243 (by kernel_rfl) (by kernel_rfl) (by kernel_rfl) (by kernel_rfl)
 have h11:=@run_callFunc_extern Tryz.prog 131 _ (ReflectliteValue.method (ReflectliteValue.valueError "reflectlite.Value.Elem" 0) ReflectliteValue.elem) Tryz.func131 (by kernel_rfl) (by kernel_rfl) (by kernel_rfl) (by kernel_rfl)
 have h12:=@run_callFunc_extern Tryz.prog 132 _ ReflectliteValue.set Tryz.func132 (by kernel_rfl) (by kernel_rfl) (by kernel_rfl) (by kernel_rfl)
 have tO:=jW
 have mA:=vH
 have a25:=jX
 have v25:=vk
 have f6:=vh
 have f7:=rl_typeP
 have mK:=me_Kind
 have mE:=me_Elem
 have mI:=me_Impl
 have k27:=rl_kindP
 have k25:=rl_kindE
 have e27:=rl_elem
 have i25:=kF
 have n8:=rl_isNil ⟨w.heap.size,0,none⟩ t ((w.alloc (.cells #[.pointer (some t)] 113)).alloc (.cells #[.pointer (some ⟨7,113,none⟩),.pointer (some ⟨w.heap.size,0,none⟩),.int .u64 150] 164)) (by simp)
 have hlt:0<w.heap.size:=zg hg
 have hg2:((w.alloc (.cells #[.pointer (some t)] 113)).alloc (.cells #[.pointer (some ⟨7,113,none⟩),.pointer (some ⟨w.heap.size,0,none⟩),.int .u64 150] 164)).cell? ⟨0,0,none⟩=some (.iface 223 (.agg #[.pointer (some ⟨7,38,none⟩)])):=by
  rw[World.cell?_alloc_lt _ _ ⟨0,0,none⟩ (by simp <;> omega),World.cell?_alloc_lt _ _ ⟨0,0,none⟩ hlt];exact hg
 have htl:t.block<w.heap.size:=World.block_lt_of_cell? _ _ ht0
 have el:=rl_elemV ⟨w.heap.size,0,none⟩ t (((w.alloc (.cells #[.pointer (some t)] 113)).alloc (.cells #[.pointer (some ⟨7,113,none⟩),.pointer (some ⟨w.heap.size,0,none⟩),.int .u64 150] 164)).alloc (.cells #[.pointer (some ⟨7,113,none⟩),.pointer (some ⟨w.heap.size,0,none⟩),.int .u64 150] 164)) (by rw[World.cell?_alloc_lt _ _ ⟨w.heap.size,0,none⟩ (by simp;omega)];simp)
 have st:=rl_set t ⟨w.heap.size+1+1+1,0,none⟩ n old ((((w.alloc (.cells #[.pointer (some t)] 113)).alloc (.cells #[.pointer (some ⟨7,113,none⟩),.pointer (some ⟨w.heap.size,0,none⟩),.int .u64 150] 164)).alloc (.cells #[.pointer (some ⟨7,113,none⟩),.pointer (some ⟨w.heap.size,0,none⟩),.int .u64 150] 164)).alloc (.cells #[.int .i64 n] 44))
  (by rw[World.cell?_alloc_at _ _ _ _ (by simp)];rfl)
  (by rw[World.cell?_alloc_lt _ _ t (by simp;omega),World.cell?_alloc_lt _ _ t (by simp;omega),World.cell?_alloc_lt _ _ t (by simp;omega),World.cell?_alloc_lt _ _ t htl];exact ht0)
  (by rw[World.frozen?_alloc_old _ _ t (by simp;omega),World.frozen?_alloc_old _ _ t (by simp;omega),World.frozen?_alloc_old _ _ t (by simp;omega),World.frozen?_alloc_old _ _ t (Nat.ne_of_lt htl)];exact hf0)
 go_enter Tryz.func53,Tryz.ntmps53
 go_wp2
 refine wp_loop_rounds 1 ?_
 rw[rounds_succ]
 go_wp2
 go_ret
 exact⟨rfl,rfl⟩
theorem as_ta1 (a:Option Addr) (w:World):(Instr.typeAssert (.iface 117 (.pointer a)) 38 228 true).run Tryz.prog w=.ok (.tuple #[.nilIface,.bool false]) w:=run_typeAssert_lacksB Tryz.underlying228 (by kernel_rfl) (by kernel_rfl) _ _ w
theorem as_ta2 (a:Option Addr) (w:World):(Instr.typeAssert (.iface 117 (.pointer a)) 38 231 true).run Tryz.prog w=.ok (.tuple #[.iface 117 (.pointer a),.bool true]) w:=by kernel_rfl
theorem as_at (n:Int) (ab:Nat) (t:Addr) (old:Value) (w:World) (hg:w.cell? ⟨0,0,none⟩=some (.iface 223 (.agg #[.pointer (some ⟨7,38,none⟩)]))) (ha:w.cell? ⟨ab,0,none⟩=some (.int .i64 n)) (ht0:w.cell? t=some old) (hf0:w.frozen? t=false) :
  Calls Tryz.prog 53 #[.iface 117 (.pointer (some ⟨ab,0,none⟩)),.iface 113 (.pointer (some t))] w fun ev w'=>ev=.returned (.bool true)/\w'=((((w.alloc (.cells #[.pointer (some t)] 113)).alloc (.cells #[.pointer (some ⟨7,113,none⟩),.pointer (some ⟨w.heap.size,0,none⟩),.int .u64 150] 164)).alloc (.cells #[.pointer (some ⟨7,113,none⟩),.pointer (some ⟨w.heap.size,0,none⟩),.int .u64 150] 164)).alloc (.cells #[.int .i64 n] 44)).setCell t (.int .i64 n):=by
 have h6:=@run_callFunc_extern Tryz.prog 94 _ (fun args=>ReflectliteValue.unpack (args.getD 0 (.tuple #[]))) Tryz.func94 (by kernel_rfl) (by kernel_rfl) (by kernel_rfl) (by kernel_rfl)
 have h7:=@run_callFunc_extern Tryz.prog 95 _ (ReflectliteValue.methodAny (ReflectliteValue.valueError "reflectlite.Value.Type" 0) (fun t _ _ _=>ReflectliteType.toType t)) Tryz.func95 (by kernel_rfl) (by kernel_rfl) (by kernel_rfl) (by kernel_rfl)
 have h8:=@run_callFunc_extern Tryz.prog 96 _ (ReflectliteValue.method (ReflectliteValue.valueError "reflectlite.Value.IsNil" 0) ReflectliteValue.isNil) Tryz.func96 (by kernel_rfl) (by kernel_rfl) (by kernel_rfl) (by kernel_rfl)
 have h27:=@run_callFunc_extern Tryz.prog 232 _ (ReflectliteType.abiMethod fun t=>do pure (.int .u8 (<- Rtype.kind t))) Tryz.func232 (by kernel_rfl) (by kernel_rfl) (by kernel_rfl) (by kernel_rfl)
 have h37:=@run_callFunc_extern Tryz.prog 245 _ (ReflectliteType.method ReflectliteType.elem) Tryz.func245 (by kernel_rfl) (by kernel_rfl) (by kernel_rfl) (by kernel_rfl)
 have h38:=@run_callFunc_extern Tryz.prog 246 _ (ReflectliteType.relation "Implements" ReflectliteType.implements_) Tryz.func246 (by kernel_rfl) (by kernel_rfl) (by kernel_rfl) (by kernel_rfl)
 have h10:=@run_callFunc_extern Tryz.prog 130 _ ReflectliteType.typeOf Tryz.func130 (by kernel_rfl) (by kernel_rfl) (by kernel_rfl) (by kernel_rfl)
 have h35:=@run_callFunc_extern Tryz.prog 243 _ (ReflectliteType.relation "AssignableTo" ReflectliteType.assignableTo) Tryz.func243 (by kernel_rfl) (by kernel_rfl) (by kernel_rfl) (by kernel_rfl)
 have h11:=@run_callFunc_extern Tryz.prog 131 _ (ReflectliteValue.method (ReflectliteValue.valueError "reflectlite.Value.Elem" 0) ReflectliteValue.elem) Tryz.func131 (by kernel_rfl) (by kernel_rfl) (by kernel_rfl) (by kernel_rfl)
 have h12:=@run_callFunc_extern Tryz.prog 132 _ ReflectliteValue.set Tryz.func132 (by kernel_rfl) (by kernel_rfl) (by kernel_rfl) (by kernel_rfl)
 have tO:=jW
 have mA:=vH
 have a25:=jX
 have v25:=vk
 have f6:=vh
 have f7:=rl_typeP
 have mK:=me_Kind
 have mE:=me_Elem
 have mI:=me_Impl
 have k27:=rl_kindP
 have k25:=rl_kindE
 have e27:=rl_elem
 have i25:=kF
 have n8:=rl_isNil ⟨w.heap.size,0,none⟩ t ((w.alloc (.cells #[.pointer (some t)] 113)).alloc (.cells #[.pointer (some ⟨7,113,none⟩),.pointer (some ⟨w.heap.size,0,none⟩),.int .u64 150] 164)) (by simp)
 have hlt:0<w.heap.size:=zg hg
 have hg2:((w.alloc (.cells #[.pointer (some t)] 113)).alloc (.cells #[.pointer (some ⟨7,113,none⟩),.pointer (some ⟨w.heap.size,0,none⟩),.int .u64 150] 164)).cell? ⟨0,0,none⟩=some (.iface 223 (.agg #[.pointer (some ⟨7,38,none⟩)])):=by
  rw[World.cell?_alloc_lt _ _ ⟨0,0,none⟩ (by simp <;> omega),World.cell?_alloc_lt _ _ ⟨0,0,none⟩ hlt];exact hg
 have htl:t.block<w.heap.size:=World.block_lt_of_cell? _ _ ht0
 have el:=rl_elemV ⟨w.heap.size,0,none⟩ t (((w.alloc (.cells #[.pointer (some t)] 113)).alloc (.cells #[.pointer (some ⟨7,113,none⟩),.pointer (some ⟨w.heap.size,0,none⟩),.int .u64 150] 164)).alloc (.cells #[.pointer (some ⟨7,113,none⟩),.pointer (some ⟨w.heap.size,0,none⟩),.int .u64 150] 164)) (by rw[World.cell?_alloc_lt _ _ ⟨w.heap.size,0,none⟩ (by simp;omega)];simp)
 have st:=rl_set t ⟨w.heap.size+1+1+1,0,none⟩ n old ((((w.alloc (.cells #[.pointer (some t)] 113)).alloc (.cells #[.pointer (some ⟨7,113,none⟩),.pointer (some ⟨w.heap.size,0,none⟩),.int .u64 150] 164)).alloc (.cells #[.pointer (some ⟨7,113,none⟩),.pointer (some ⟨w.heap.size,0,none⟩),.int .u64 150] 164)).alloc (.cells #[.int .i64 n] 44))
  (by rw[World.cell?_alloc_at _ _ _ _ (by simp)];rfl)
  (by rw[World.cell?_alloc_lt _ _ t (by simp;omega),World.cell?_alloc_lt _ _ t (by simp;omega),World.cell?_alloc_lt _ _ t (by simp;omega),World.cell?_alloc_lt _ _ t htl];exact ht0)
  (by rw[World.frozen?_alloc_old _ _ t (by simp;omega),World.frozen?_alloc_old _ _ t (by simp;omega),World.frozen?_alloc_old _ _ t (by simp;omega),World.frozen?_alloc_old _ _ t (Nat.ne_of_lt htl)];exact hf0)
 have tA:=rl_typeOfA
 have aA:=rl_assignA
 have mU:=me_Unwrap
 have ta1:=as_ta1
 have ta2:=as_ta2
 have ha3:(((w.alloc (.cells #[.pointer (some t)] 113)).alloc (.cells #[.pointer (some ⟨7,113,none⟩),.pointer (some ⟨w.heap.size,0,none⟩),.int .u64 150] 164)).alloc (.cells #[.pointer (some ⟨7,113,none⟩),.pointer (some ⟨w.heap.size,0,none⟩),.int .u64 150] 164)).cell? ⟨ab,0,none⟩=some (.int .i64 n):=zD (zD (zD ha _) _) _
 go_enter Tryz.func53,Tryz.ntmps53
 go_wp2
 refine wp_loop_rounds 2 ?_
 rw[rounds_succ]
 go_wp2_with (go_at_call 237;refine(unwrap_any ab n _ ?hx ?hy).mono ?_;(case hx=>exact ha3);(case hy=>exact zg ha3);rintro e w9 ⟨rfl,rfl⟩)
 rw[rounds_succ]
 go_wp2
 go_ret
 exact⟨rfl,rfl⟩
theorem ext_four (w:World) (t:Addr) (o1 o2 o3 o4:Obj) (v:Value):Ext t.block w (((((w.alloc o1).alloc o2).alloc o3).alloc o4).setCell t v):=by
 have h:Below w.heap.size w ((((w.alloc o1).alloc o2).alloc o3).alloc o4):=(((zb _ _).alloc (by simp) _).alloc (by simp;omega) _).alloc (by simp;omega) _
 refine⟨h.os,h.tape,h.output,by simpa using h.size,fun k hk hb=>?_⟩
 rw[Below.heap_setCell _ _ _ _ hb]
 exact h.block k hk
theorem tell_en (n:Int) (w:World) (hg:w.cell? ⟨0,0,none⟩=some (.iface 223 (.agg #[.pointer (some ⟨7,38,none⟩)]))) :
  Calls Tryz.prog 25 #[.iface 44 (.int .i64 n)] w fun e w'=>e=.returned (.int .i64 n)/\Below w.heap.size w w':=by
 obtain⟨w0,hw0⟩:∃ w0,w0=w.alloc (.cells #[.int .i64 0] 44):=⟨_,rfl⟩
 have hb0:Below w.heap.size w w0:=by rw[hw0];exact zb _ _
 have hk0:w0.heap[w.heap.size]?=some (.cells #[.int .i64 0] 44 (0,0)):=by rw[hw0];exact zo _ _
 have hg0:w0.cell? ⟨0,0,none⟩=some (.iface 223 (.agg #[.pointer (some ⟨7,38,none⟩)])):=by rw[hw0];exact zD hg _
 have HA:=zh (as_en n ⟨w.heap.size,0,none⟩ (.int .i64 0) w0 hg0 ((za hk0).trans rfl) (zi hk0))
 have HB0:=zh hb0
 have HK0:=zh hk0
 clear hb0 hk0 hg0 hg
 go_enter Tryz.func25,Tryz.ntmps25
 go_upto_region 4 with fail
 rw[<-hw0]
 clear hw0
 go_wp2_with fail
 refine HA.out.mono ?_
 rintro e w3 ⟨rfl,hw3⟩
 have hx:Ext w.heap.size w0 w3:=by rw[hw3];exact ext_four w0 ⟨w.heap.size,0,none⟩ _ _ _ _ _
 have hc:w3.cell? ⟨w.heap.size,0,none⟩=some (.int .i64 n):=by
  rw[hw3]
  exact World.cell?_setCell_same _ _ _ (zD (zD (zD (zD ((za HK0.out).trans rfl) _) _) _) _)
 have HB3:Hid (Below w.heap.size w w3):=HB0.out.trans (zX hx zn HB0.out.size)
 have hl3:w.heap.size<w3.heap.size:=zg hc
 clear hw3 hx
 go_wp2_with fail
 go_ret
 exact⟨rfl,HB3.out⟩
theorem tell_at (n:Int) (ab:Nat) (w:World) (hg:w.cell? ⟨0,0,none⟩=some (.iface 223 (.agg #[.pointer (some ⟨7,38,none⟩)]))) (ha:w.cell? ⟨ab,0,none⟩=some (.int .i64 n)) :
  Calls Tryz.prog 25 #[.iface 117 (.pointer (some ⟨ab,0,none⟩))] w fun e w'=>e=.returned (.int .i64 n)/\Below w.heap.size w w':=by
 obtain⟨w0,hw0⟩:∃ w0,w0=w.alloc (.cells #[.int .i64 0] 44):=⟨_,rfl⟩
 have hb0:Below w.heap.size w w0:=by rw[hw0];exact zb _ _
 have hk0:w0.heap[w.heap.size]?=some (.cells #[.int .i64 0] 44 (0,0)):=by rw[hw0];exact zo _ _
 have hg0:w0.cell? ⟨0,0,none⟩=some (.iface 223 (.agg #[.pointer (some ⟨7,38,none⟩)])):=by rw[hw0];exact zD hg _
 have ha0:w0.cell? ⟨ab,0,none⟩=some (.int .i64 n):=by rw[hw0];exact zD ha _
 have HA:=zh (as_at n ab ⟨w.heap.size,0,none⟩ (.int .i64 0) w0 hg0 ha0 ((za hk0).trans rfl) (zi hk0))
 have HB0:=zh hb0
 have HK0:=zh hk0
 clear hb0 hk0 hg0 hg ha ha0
 go_enter Tryz.func25,Tryz.ntmps25
 go_upto_region 4 with fail
 rw[<-hw0]
 clear hw0
 go_wp2_with fail
 refine HA.out.mono ?_
 rintro e w3 ⟨rfl,hw3⟩
 have hx:Ext w.heap.size w0 w3:=by rw[hw3];exact ext_four w0 ⟨w.heap.size,0,none⟩ _ _ _ _ _
 have hc:w3.cell? ⟨w.heap.size,0,none⟩=some (.int .i64 n):=by
  rw[hw3]
  exact World.cell?_setCell_same _ _ _ (zD (zD (zD (zD ((za HK0.out).trans rfl) _) _) _) _)
 have HB3:Hid (Below w.heap.size w w3):=HB0.out.trans (zX hx zn HB0.out.size)
 have hl3:w.heap.size<w3.heap.size:=zg hc
 clear hw3 hx
 go_wp2_with fail
 go_ret
 exact⟨rfl,HB3.out⟩
end Go.Proofs.YtibncofnnlbmcaaGreatDoor
namespace Go.Proofs.YtibncofnnlbmcaaGreatDoor
open Go.RowKit
open Tp (Bs Th Sy Seen X S G Pr)
def ErT (w:World):Prop:=w.cell? ⟨0,0,none⟩=some (.iface 223 (.agg #[.pointer (some ⟨7,38,none⟩)]))
theorem ErT.below {w w':World}{B:Nat}(h:ErT w) (k:Below B w w') (hB:0<B):ErT w':=(k.cell (p:=⟨0,0,none⟩) hB).trans h
structure VarsC (B:Nat) (w:World):Prop where
 mks:Mk w
 lv:Lv w
 et:ErT w
 m:1<B
 l:3<B
 e:0<B
theorem VarsC.on {B:Nat}{w w':World}(h:VarsC B w) (k:Below B w w'):VarsC B w':=⟨h.mks.below k h.m,h.lv.below k h.l,h.et.below k h.e,h.m,h.l,h.e⟩
theorem VarsC.on' {B:Nat}{w w':World}(h:VarsC B w) (hB:B<=w.heap.size) (k:Below w.heap.size w w'):VarsC B w':=h.on (k.mono hB)
structure StrsAt (w:World) (ns:List (List UInt8)) (a:Option Addr):Prop where
 c:∀ i (h:i<ns.length),∃ b o,a=some ⟨b,o,none⟩/\b<w.heap.size/\w.cell? ⟨b,o+i,none⟩=some (.string (bs ns[i]))
theorem StrsAt.on {w w':World}{ns:List (List UInt8)}{a:Option Addr}(h:StrsAt w ns a) (k:Below w.heap.size w w'):StrsAt w' ns a :=
 ⟨fun i hi=>by obtain⟨b,o,h1,h2,h3⟩:=h.c i hi;exact⟨b,o,h1,Nat.lt_of_lt_of_le h2 k.size,(k.cell (p:=⟨b,o+i,none⟩) h2).trans h3⟩⟩
end Go.Proofs.YtibncofnnlbmcaaGreatDoor
namespace Go.Proofs.YtibncofnnlbmcaaGreatDoor
open Go.RowKit
variable {kk:Nat->Prop}
open Tp (Sy)
theorem dec_itoa:∀ n:Nat,Tp.dec n=Lib.itoa (n:Int):=by
 intro n
 rw[Lib.itoa_nonneg]
 induction n using Nat.strongRecOn with
 | _ n ih =>
  rw[Tp.dec,Lib.decDigits]
  split
  ·rfl
  ·rw[ih (n / 10) (by omega)]
theorem vO (w:World) (i:Nat) (hi:i<100):Calls Tryz.prog 109 #[.int .i64 (i:Int)] w fun e w'=>e=.returned (.string (bs (Tp.dec i)))/\w'=w:=by
 have h:=Any.strconv_Itoa_small Tryz.laysItoa i hi w
 have e:Tp.dec i=Lib.decDigits i:=by rw[dec_itoa,Lib.itoa_nonneg]
 rw[e]
 exact h
theorem yA {w:World}{B:Nat}{v:Value}{l:List UInt8}(h:Buf kk w B v l) (first:List UInt8) (ss:List (List UInt8)) (sb cs:Nat) (hs:w.heap[sb]?=some (.cells (ss.map fun s=>Value.string (bs s)).toArray 9 (0,0))) (hn:ss.length<=1000) (hl:(l++Tp.wordsL first ss).length<=1000000000) :
  Calls Tryz.prog 129 #[v,.string (bs first),.slice (some ⟨sb,0,none⟩) ss.length cs] w (Wrote kk B w (l++Tp.wordsL first ss)):=by
 obtain⟨ao,cap,hv⟩:=zw h.1
 subst hv
 have hlf:l.length+first.length<=1000000000:=by unfold Tp.wordsL at hl;simp only [List.length_append]at hl;omega
 have hln:∀ i,i<=ss.length->(l++first++((ss.take i).map fun s=>(32:UInt8) :: s).flatten).length+1<=1000000000:=by
  intro i hi
  unfold Tp.wordsL at hl
  have e:(ss.map fun s=>(32:UInt8) :: s).flatten=((ss.take i).map fun s=>(32:UInt8) :: s).flatten++((ss.drop i).map fun s=>(32:UInt8) :: s).flatten:=by
   conv=>lhs;rw[<-List.take_append_drop i ss,List.map_append,List.flatten_append]
  rw[e]at hl
  simp only [List.length_append,List.length_cons,List.length_nil]at hl ⊢
  omega
 have HLN:=zh hln
 have HL:=zh hl
 clear hln hl
 go_enter Tryz.func129,Tryz.ntmps129
 go_wp2_with (at_builtin;refine jR rfl _ _ rfl h first rfl rfl ?c1 ?_)
 case c1=>omega
 intro v1 w1 hb1 hbel1
 have hs1:=hbel1.keeps hs (by decide)
 have HB1:=zh hb1
 have HBW1:=zh hbel1
 have HS1:=zh hs1
 clear hb1 hbel1 hs1 hs
 go_wp2_with fail
 go_loopg [0,14] ss.length (fun k v vi wr=>∃ i:Nat,i<=ss.length/\k=ss.length - i/\vi=.int .i64 (i:Int)/\Hid (Buf kk wr B v (l++first++((ss.take i).map fun s=>(32:UInt8) :: s).flatten))/\Hid (Bw kk B w wr)/\Hid (wr.heap[sb]?=some (.cells (ss.map fun s=>Value.string (bs s)).toArray 9 (0,0))))
 case atStart=>exact⟨0,by omega,by omega,rfl,by unfold Hid;simpa using HB1.out,HBW1,HS1⟩
 case round =>
  obtain⟨i,hid,hk,rfl,HB,HBW,HS⟩:=hrel
  clear HB1 HBW1 HS1
  have hbuf:=HB.out
  obtain⟨m,hm⟩:∃ m,m=l++first++((ss.take i).map fun s=>(32:UInt8) :: s).flatten:=⟨_,rfl⟩
  rw[<-hm]at hbuf
  have hml:=HLN.out i hid
  rw[<-hm]at hml
  have HM:=zh hm
  clear hm HB
  obtain⟨a1,c1,hv⟩:=zw hbuf.1
  subst hv
  by_cases hlt:i<ss.length
  ·have hlt':(i:Int)<(ss.length:Int):=by omega
   have hcell:wr.cell? ⟨sb,i,none⟩=some (.string (bs ss[i])):=by rw[za HS.out];simp[hlt]
   have hlb:=zf HS.out
   have hml2:=HLN.out (i+1) hlt
   have hnew:l++first++((ss.take (i+1)).map fun s=>(32:UInt8) :: s).flatten=m++[32]++ss[i]:=by
    rw[List.take_succ_eq_append_getElem hlt,List.map_append,List.flatten_append,HM.out]
    simp
   rw[hnew]at hml2
   have HNEW:=zh hnew
   clear hnew
   generalize ss[i]=x at hcell hml2 HNEW
   have hml3:m.length+1+x.length<=1000000000:=by simp only [List.length_append,List.length_cons,List.length_nil]at hml2;omega
   clear hml2
   go_wp2_with (at_builtin;refine jo rfl _ _ rfl hbuf 32 32 rfl rfl rfl ?c1 ?_)
   case c1=>omega
   intro v2 w2 hb2 hbel2
   have HS2:=zh (hbel2.keeps HS.out (by decide))
   have HBW2:=zh (HBW.out.trans hbel2)
   clear hbuf hbel2 HS HBW hcell
   go_wp2_with (at_builtin;refine jR rfl _ _ rfl hb2 x rfl rfl ?c2 ?_)
   case c2=>simp only [List.length_append,List.length_cons,List.length_nil];omega
   intro v3 w3 hb3 hbel3
   have HB3:Hid (Buf kk w3 B v3 (l++first++((ss.take (i+1)).map fun s=>(32:UInt8) :: s).flatten)):=by unfold Hid;rw[HNEW.out];simpa using hb3
   have HBW3:=zh (HBW2.out.trans hbel3)
   have HS3:=zh (hbel3.keeps HS2.out (by decide))
   clear hb2 hb3 hbel3 HS2 HBW2
   go_wp2_with fail
   go_roundg (ss.length - (i+1))
   case measure=>omega
   case rel=>exact⟨i+1,by omega,rfl,by go_num,HB3,HBW3,HS3⟩
  ·have hlt':¬(i:Int)<(ss.length:Int):=by omega
   have e:i=ss.length:=by omega
   go_wp2_with (at_builtin;refine jo rfl _ _ rfl hbuf 10 10 rfl rfl rfl ?c1 ?_)
   case c1=>omega
   intro v2 w2 hb2 hbel2
   have HB2:Hid (Buf kk w2 B v2 (l++Tp.wordsL first ss)):=by
    unfold Hid Tp.wordsL
    rw[HM.out,e,List.take_length]at hb2
    simpa using hb2
   have HBW2:=zh (HBW.out.trans hbel2)
   clear hb2 hbel2 hbuf
   go_wp2_with fail
   go_ret
   exact⟨_,rfl,HB2.out,HBW2.out⟩
theorem yO {w:World}{b:Nat}{v0 v1 v2:Value}{t:TypeId}(h:w.heap[b]?=some (.cells #[v0,v1,v2] t (0,0))):w.cell? ⟨b,0,none⟩=some v0/\w.cell? ⟨b,1,none⟩=some v1/\w.cell? ⟨b,2,none⟩=some v2 :=
 ⟨(za h).trans rfl,(za h).trans rfl,(za h).trans rfl⟩
theorem qi (s:Sy) (h1:s.2.1<100) (h2:s.2.2<100) (h3:-1<=s.2.2) {w:World}{B:Nat}{v:Value}{l:List UInt8}(hb:Buf kk w B v l) (hl:(l++Tp.lineOf s).length<=1000000000) :
  Calls Tryz.prog 128 #[v,.agg #[.string (bs s.1),.int .i64 (s.2.1:Int),.int .i64 s.2.2]] w (Wrote kk B w (l++Tp.lineOf s)):=by
 obtain⟨nm,len,args⟩:=s
 simp only at h1 h2 h3 ⊢
 unfold Tp.lineOf at hl ⊢
 simp only at hl ⊢
 have hal:∀ ob,Below w.heap.size w (w.alloc ob):=fun ob=>zb _ _
 have hblk:(w.alloc (.cells #[.string (bs nm),.int .i64 (len:Int),.int .i64 args] 205)).heap[w.heap.size]?=some (.cells #[.string (bs nm),.int .i64 (len:Int),.int .i64 args] 205 (0,0)):=zo _ _
 obtain⟨k0,k1,k2⟩:=yO hblk
 by_cases ha:0<=args
 ·rw[if_pos ha]at hl ⊢
  obtain⟨an,rfl⟩:∃ an:Nat,args=an:=⟨args.toNat,by omega⟩
  have e:((an:Int)).toNat=an:=by simp
  rw[e]at hl ⊢
  have hit:=fun W=>vO W an (by omega)
  obtain⟨ds,hds⟩:∃ ds,ds=Tp.dec an:=⟨_,rfl⟩
  rw[<-hds]at hl hit ⊢
  obtain⟨mf,hmf⟩:∃ mf,mf=l++Tp.wordsL Tp.wProc [nm,ds]:=⟨_,rfl⟩
  rw[<-hmf]
  have HMF:=zh hmf
  have HL:=zh hl
  have HI:Hid (∀ W,Calls Tryz.prog 109 #[.int .i64 (an:Int)] W fun e w'=>e=.returned (.string (bs ds))/\w'=W):=hit
  clear hit hmf hl hds e
  have hD:Below w.heap.size w ((w.alloc (.cells #[.string (bs nm),.int .i64 (len:Int),.int .i64 (an:Int)] 205)).alloc (.cells #[.string (bs nm),.string (bs ds)] 9)).drew:=((hal _).alloc (by simp) _).drew
  have hA:=yA (hb.below hD) Tp.wProc [nm,ds] (w.heap.size+1) 2 (yj _ _ _) (by simp) HL.out
  have HA:Hid (Calls Tryz.prog 129 #[v,.string ⟨#[112,114,111,99]⟩,.slice (some ⟨w.heap.size+1,0,none⟩) 2 2] ((w.alloc (.cells #[.string (bs nm),.int .i64 (len:Int),.int .i64 (an:Int)] 205)).alloc (.cells #[.string (bs nm),.string (bs ds)] 9)).drew (Wrote kk B ((w.alloc (.cells #[.string (bs nm),.int .i64 (len:Int),.int .i64 (an:Int)] 205)).alloc (.cells #[.string (bs nm),.string (bs ds)] 9)).drew mf)):=by rw[HMF.out];exact hA
  have HBW:Hid (Bw kk B w ((w.alloc (.cells #[.string (bs nm),.int .i64 (len:Int),.int .i64 (an:Int)] 205)).alloc (.cells #[.string (bs nm),.string (bs ds)] 9)).drew):=Bw.of (kk:=kk) hD hb.2
  have HK:Hid (((w.alloc (.cells #[.string (bs nm),.int .i64 (len:Int),.int .i64 (an:Int)] 205)).alloc (.cells #[.string (bs nm),.string (bs ds)] 9)).drew.heap[w.heap.size]?=some (.cells #[.string (bs nm),.int .i64 (len:Int),.int .i64 (an:Int)] 205 (0,0))):=(Below.heap_alloc _ _ w.heap.size (by simp)).trans hblk
  obtain⟨j0,j1,j2⟩:=yO HK.out
  clear hA hD hb hblk
  go_enter Tryz.func128,Tryz.ntmps128
  go_wp2_with fail
  go_region_held3 (fun w'=>w'.cell? ⟨w.heap.size,0,none⟩=some (.string (bs nm))/\w'.cell? ⟨w.heap.size,2,none⟩=some (.int .i64 (an:Int))) (first|(exact⟨k0,k2⟩)|(exact⟨j0,j2⟩)|(exact⟨q0,q2⟩)) (first|(go_at_call 109;refine(HI.out _).mono ?_;rintro e w2 ⟨rfl,rfl⟩)|(go_at_call 129;refine HA.out.mono ?_;rintro e w3 ⟨v3,rfl,hbuf3,hbel3⟩;have hblk3:=hbel3.keeps HK.out (by decide);have HB3:=zh (HBW.out.trans hbel3);have HF3:=zh hbuf3;obtain⟨q0,q1,q2⟩:=yO hblk3;clear hbuf3 hbel3))
  go_wp2_with fail
  go_ret
  exact⟨_,rfl,HF3.out,HB3.out⟩
 ·rw[if_neg ha]at hl ⊢
  by_cases h0:0<len
  ·rw[if_pos h0]at hl ⊢
   have h0':(0:Int)<(len:Int):=by omega
   have hit:=fun W=>vO W len (by omega)
   obtain⟨ds,hds⟩:∃ ds,ds=Tp.dec len:=⟨_,rfl⟩
   rw[<-hds]at hl hit ⊢
   obtain⟨mf,hmf⟩:∃ mf,mf=l++Tp.wordsL Tp.wArr [nm,ds]:=⟨_,rfl⟩
   rw[<-hmf]
   have HMF:=zh hmf
   have HL:=zh hl
   have HI:Hid (∀ W,Calls Tryz.prog 109 #[.int .i64 (len:Int)] W fun e w'=>e=.returned (.string (bs ds))/\w'=W):=hit
   clear hit hmf hl hds
   have hD:Below w.heap.size w ((w.alloc (.cells #[.string (bs nm),.int .i64 (len:Int),.int .i64 args] 205)).alloc (.cells #[.string (bs nm),.string (bs ds)] 9)).drew:=((hal _).alloc (by simp) _).drew
   have hA:=yA (hb.below hD) Tp.wArr [nm,ds] (w.heap.size+1) 2 (yj _ _ _) (by simp) HL.out
   have HA:Hid (Calls Tryz.prog 129 #[v,.string ⟨#[97,114,114,97,121]⟩,.slice (some ⟨w.heap.size+1,0,none⟩) 2 2] ((w.alloc (.cells #[.string (bs nm),.int .i64 (len:Int),.int .i64 args] 205)).alloc (.cells #[.string (bs nm),.string (bs ds)] 9)).drew (Wrote kk B ((w.alloc (.cells #[.string (bs nm),.int .i64 (len:Int),.int .i64 args] 205)).alloc (.cells #[.string (bs nm),.string (bs ds)] 9)).drew mf)):=by rw[HMF.out];exact hA
   have HBW:Hid (Bw kk B w ((w.alloc (.cells #[.string (bs nm),.int .i64 (len:Int),.int .i64 args] 205)).alloc (.cells #[.string (bs nm),.string (bs ds)] 9)).drew):=Bw.of (kk:=kk) hD hb.2
   have HK:Hid (((w.alloc (.cells #[.string (bs nm),.int .i64 (len:Int),.int .i64 args] 205)).alloc (.cells #[.string (bs nm),.string (bs ds)] 9)).drew.heap[w.heap.size]?=some (.cells #[.string (bs nm),.int .i64 (len:Int),.int .i64 args] 205 (0,0))):=(Below.heap_alloc _ _ w.heap.size (by simp)).trans hblk
   obtain⟨j0,j1,j2⟩:=yO HK.out
   clear hA hD hb hblk
   go_enter Tryz.func128,Tryz.ntmps128
   go_wp2_with fail
   go_region_held3 (fun w'=>w'.cell? ⟨w.heap.size,0,none⟩=some (.string (bs nm))/\w'.cell? ⟨w.heap.size,1,none⟩=some (.int .i64 (len:Int))) (first|(exact⟨k0,k1⟩)|(exact⟨j0,j1⟩)|(exact⟨q0,q1⟩)) (first|(go_at_call 109;refine(HI.out _).mono ?_;rintro e w2 ⟨rfl,rfl⟩)|(go_at_call 129;refine HA.out.mono ?_;rintro e w3 ⟨v3,rfl,hbuf3,hbel3⟩;have hblk3:=hbel3.keeps HK.out (by decide);have HB3:=zh (HBW.out.trans hbel3);have HF3:=zh hbuf3;obtain⟨q0,q1,q2⟩:=yO hblk3;clear hbuf3 hbel3))
   go_wp2_with fail
   go_ret
   exact⟨_,rfl,HF3.out,HB3.out⟩
  ·rw[if_neg h0]at hl ⊢
   have h0':¬(0:Int)<(len:Int):=by omega
   obtain⟨mf,hmf⟩:∃ mf,mf=l++Tp.wordsL Tp.wInt [nm]:=⟨_,rfl⟩
   rw[<-hmf]
   have hD:Below w.heap.size w ((w.alloc (.cells #[.string (bs nm),.int .i64 (len:Int),.int .i64 args] 205)).alloc (.cells #[.string (bs nm)] 9)):=(hal _).alloc (by simp) _
   have hA:=yA (hb.below hD) Tp.wInt [nm] (w.heap.size+1) 1 (yj _ _ _) (by simp) hl
   rw[<-hmf]at hA
   have HA:Hid (Calls Tryz.prog 129 #[v,.string ⟨#[105,110,116]⟩,.slice (some ⟨w.heap.size+1,0,none⟩) 1 1] ((w.alloc (.cells #[.string (bs nm),.int .i64 (len:Int),.int .i64 args] 205)).alloc (.cells #[.string (bs nm)] 9)) (Wrote kk B ((w.alloc (.cells #[.string (bs nm),.int .i64 (len:Int),.int .i64 args] 205)).alloc (.cells #[.string (bs nm)] 9)) mf)):=hA
   have HBW:Hid (Bw kk B w ((w.alloc (.cells #[.string (bs nm),.int .i64 (len:Int),.int .i64 args] 205)).alloc (.cells #[.string (bs nm)] 9))):=Bw.of (kk:=kk) hD hb.2
   clear hA hD hb hblk hl hmf
   go_enter Tryz.func128,Tryz.ntmps128
   go_wp2_with fail
   refine HA.out.mono ?_
   rintro e w3 ⟨v3,rfl,hbuf3,hbel3⟩
   have HB3:=zh (HBW.out.trans hbel3)
   have HF3:=zh hbuf3
   clear hbuf3 hbel3
   go_wp2_with fail
   go_ret
   exact⟨_,rfl,HF3.out,HB3.out⟩
end Go.Proofs.YtibncofnnlbmcaaGreatDoor
