import Derived.Test.YthnoedjbhbkdeaaGreatDoorKMc
import Derived.Test.YthnoedjbhbkdeaaGreatDoorKPc
import Derived.Defers
import Derived.Recover
import Derived.Maps.RangeWalk
set_option maxRecDepth 100000
set_option maxHeartbeats 4000000
namespace Go.Proofs.YthnoedjbhbkdeaaGreatDoor
open Go.RowKit Go.Maps
open Tp (Bs Th Sy Seen X S)
theorem xv (x:S) (l:List S):Tp.rs (x :: l)=Tp.rs [x]++Tp.rs l:=by
 obtain⟨code,pos,nm,ix,vl,th,el⟩:=x
 simp[Tp.rs]
theorem rs_app (l m:List S):Tp.rs (l++m)=Tp.rs l++Tp.rs m:=by
 induction l with
 | nil=>simp[Tp.rs]
 | cons x l ih=>rw[List.cons_append,xv,ih,xv x l,List.append_assoc]
theorem rs_one (code pos:Nat) (nm:Bs) (ix vl:List X) (th el:List S):Tp.rs [⟨code,pos,nm,ix,vl,th,el⟩]=(if code=1 then [⟨if ix.isEmpty then 2 else 3,pos,[],nm,0⟩] else [])++(Tp.rx ix++(Tp.rx vl++(Tp.rs th++Tp.rs el))):=by
 simp[Tp.rs]
theorem uI (J:Jd):∀(ar:List S),(List.range ar.length).findSome? (fun i=>(ar[i]?).bind fun y=>(Tp.rs [y]).findSome? J)=(Tp.rs ar).findSome? J:=by
 intro ar
 induction ar with
 | nil=>simp[Tp.rs]
 | cons x l ih =>
  rw[xv,List.findSome?_append,<-ih,List.length_cons,List.range_succ_eq_map,List.findSome?_cons,List.findSome?_map]
  have e2:((fun i=>((x :: l)[i]?).bind fun y=>(Tp.rs [y]).findSome? J) ∘ Nat.succ)=fun i=>(l[i]?).bind fun y=>(Tp.rs [y]).findSome? J:=by
   funext i
   simp
  rw[e2]
  simp only [List.getElem?_cons_zero,Option.bind_some]
  cases (Tp.rs [x]).findSome? J <;> rfl
theorem RepS.step {w w':World}{D:Nat->Prop}{l:List S}{cs:List Value}(h:RepS w D l cs) (k:Below w.heap.size w w'):RepS w' D l cs:=h.mono' (fun b hb hl=>⟨k.block b hl,hb⟩)
theorem OwnS.step {w w':World}{D:Nat->Prop}{v:Value}{n:Nat}{cs:List Value}(h:OwnS w D v n cs) (k:Below w.heap.size w w'):OwnS w' D v n cs:=h.mono (fun b hb hl=>⟨k.block b hl,hb⟩)
theorem RepS.get {w:World}{D:Nat->Prop}:∀(l:List S) (cs:List Value),RepS w D l cs->∀ i (code pos:Nat) (nm:Bs) (ix vl:List X) (th el:List S),l[i]?=some ⟨code,pos,nm,ix,vl,th,el⟩->∃(tv ev:Value) (ls vs tcs ecs:List Value),
  (∀ j,j<7->cs[i * 7+j]?=[.int .i64 (code:Int),.int .i64 (pos:Int),.string (bs nm),ls.headD (.pointer none),vs.headD (.pointer none),tv,ev][j]?)/\RepL w D ix ls/\ls.length<=1/\RepL w D vl vs/\vs.length<=1/\RepS w D th tcs/\OwnS w D tv th.length tcs/\RepS w D el ecs/\OwnS w D ev el.length ecs:=by
 intro l
 induction l with
 | nil=>intro cs _ i _ _ _ _ _ _ _ h;simp at h
 | cons x l ih =>
  intro cs h i code pos nm ix vl th el hi
  obtain⟨code',pos',nm',ix',vl',th',el'⟩:=x
  rw[RepS]at h
  obtain⟨tv,ev,ls,vs,tcs,ecs,cs',h1,h2,h3,h4,h5,h6,h7,h8,h9,h10⟩:=h
  subst h1
  cases i with
  | zero =>
   simp only [List.getElem?_cons_zero,Option.some.injEq,S.mk.injEq]at hi
   obtain⟨rfl,rfl,rfl,rfl,rfl,rfl,rfl⟩:=hi
   refine⟨tv,ev,ls,vs,tcs,ecs,fun j hj=>?_,h2,h3,h4,h5,h6,h7,h8,h9⟩
   rw[Nat.zero_mul,Nat.zero_add,List.getElem?_append_left (by simpa using hj)]
  | succ i =>
   obtain⟨tv',ev',ls',vs',tcs',ecs',q1,q2⟩:=ih cs' h10 i code pos nm ix vl th el (by simpa using hi)
   refine⟨tv',ev',ls',vs',tcs',ecs',fun j hj=>?_,q2⟩
   rw[List.getElem?_append_right (by simp;omega)]
   have:(i+1) * 7+j - [Value.int .i64 (code':Int),.int .i64 (pos':Int),.string (bs nm'),ls.headD (.pointer none),vs.headD (.pointer none),tv,ev].length=i * 7+j:=by simp;omega
   rw[this,q1 j hj]
theorem part_ask {w0 w:World}{b:Nat}{Sn:Seen}{fs:Near}(hF:Fnd w0 b Sn fs) (hfn:fs.length<=1000) (hb:Below w0.heap.size w0 w) {D:Nat->Prop}(l:List X) (vs:List Value) (hs:Sm (Tp.rx l)) (hrep:RepL w D l vs) (hle:vs.length<=1) :
  (∃ a,vs.headD (.pointer none)=.pointer a/\(a=none↔l.isEmpty=true))/\AskX w b (vs.headD (.pointer none)) ((Tp.rx l).findSome? (Tp.judgeP (Tp.standV Sn fs))):=by
 have hvl:=RepL.len _ _ hrep
 match l,vs,hrep with
 | [],vs,hrep =>
  rw[RepL]at hrep
  subst hrep
  refine⟨⟨none,rfl,by simp⟩,fun W hW=>?_⟩
  have:(Tp.rx []).findSome? (Tp.judgeP (Tp.standV Sn fs))=none:=by simp[Tp.rx]
  rw[this]
  exact kV W b
 | [y],vs,hrep =>
  obtain⟨yb,q1,q2⟩:=RepL.get _ _ hrep 0 (by simp)
  have hv:vs=[.pointer (some ⟨yb,0,none⟩)]:=by
   match vs,hle,hvl with
   | [v],_,_=>simp at q1;rw[q1]
  subst hv
  refine⟨⟨_,rfl,by simp⟩,fun W hW=>?_⟩
  exact xN hF hfn _ y zn hs W D yb (hb.trans (hW.mono hb.size)) (hrep.step hW)
 | y :: z :: t,vs,hrep=>simp at hvl;omega
theorem ku {w0:World}{b:Nat}{Sn:Seen}{fs:Near}(hF:Fnd w0 b Sn fs) (hfn:fs.length<=1000):∀(n:Nat) (l:List S),SizeOf.sizeOf l<=n->Sm (Tp.rs l)->∀(w:World) (D:Nat->Prop) (v:Value) (cs:List Value),Below w0.heap.size w0 w->RepS w D l cs->OwnS w D v l.length cs ->
  Calls Tryz.prog 76 #[v,finderV b] w (CkP w ((Tp.rs l).findSome? (Tp.judgeP (Tp.standV Sn fs)))):=by
 intro n
 induction n with
 | zero=>intro l hn;cases l <;> simp at hn <;> omega
 | succ n ih =>
  intro l hn hs w D v cs hb hrep hown
  rw[<-uI]
  have hav:∃ a c,v=.slice a l.length c/\l.length<=9223372036854775807/\∀ i,i<l.length->∃ g,a=some ⟨g,0,none⟩/\g<w.heap.size/\∀ j,j<7->w.cell? ⟨g,i * 7+j,none⟩=cs[i * 7+j]?:=by
   rcases hown with⟨q1,q2⟩|⟨g,cap,cur,q1,q2,q3,q4,q5,q6,q7⟩
   ·exact⟨none,0,by rw[q2];exact q1,by omega,fun i hi=>by omega⟩
   ·refine⟨_,cap,q1,?_,fun i hi=>⟨g,rfl,zc q3,fun j hj=>?_⟩⟩
    ·have:maxLen=9223372036854775807:=rfl
     omega
    ·rw[za q3,<-Array.getElem?_toList,<-q7,List.getElem?_take_of_lt (by omega)]
  obtain⟨a,c,rfl,hln,hcell⟩:=hav
  refine jG (fun i hi=>?_) hln
  rcases hx:l[i] with⟨code,pos,nm,ix,vl,th,el⟩
  have hxi:l[i]?=some ⟨code,pos,nm,ix,vl,th,el⟩:=by rw[List.getElem?_eq_getElem hi,hx]
  obtain⟨tv,ev,ls,vs,tcs,ecs,q1,q2,q3,q4,q5,q6,q7,q8,q9⟩:=RepS.get _ _ hrep i code pos nm ix vl th el hxi
  obtain⟨g,g1,g2,g3⟩:=hcell i hi
  have hmem:∀ r∈Tp.rs [(⟨code,pos,nm,ix,vl,th,el⟩:S)],r∈Tp.rs l:=by
   intro r hr
   have e:l=l.take i++l[i] :: l.drop (i+1):=by rw[<-List.drop_eq_getElem_cons hi,List.take_append_drop]
   rw[e,rs_app,xv,hx]
   simp[hr]
  have hone:=rs_one code pos nm ix vl th el
  have hsz:SizeOf.sizeOf l[i]<SizeOf.sizeOf l:=List.sizeOf_lt_of_mem (List.getElem_mem hi)
  rw[hx]at hsz
  simp at hsz
  have s1:Sm (Tp.rx ix):=hs.sub fun r hr=>hmem r (by rw[hone];simp[hr])
  have s2:Sm (Tp.rx vl):=hs.sub fun r hr=>hmem r (by rw[hone];simp[hr])
  have s3:Sm (Tp.rs th):=hs.sub fun r hr=>hmem r (by rw[hone];simp[hr])
  have s4:Sm (Tp.rs el):=hs.sub fun r hr=>hmem r (by rw[hone];simp[hr])
  obtain⟨⟨iv,hiv,hive⟩,hA1⟩:=part_ask hF hfn hb ix ls s1 q2 q3
  obtain⟨⟨vv,hvv,_⟩,hA2⟩:=part_ask hF hfn hb vl vs s2 q4 q5
  obtain⟨ta,tc,rfl⟩:=q7.shape
  obtain⟨ea,ec,rfl⟩:=q9.shape
  rw[hiv]at hA1 q1
  rw[hvv]at hA2 q1
  have hc:=fun j (hj:j<7)=>(g3 j hj).trans (q1 j hj)
  refine⟨g,code,pos,bs nm,iv,vv,ta,ea,th.length,tc,el.length,ec,if code=1 then Tp.judgeP (Tp.standV Sn fs) ⟨if ix.isEmpty then 2 else 3,pos,[],nm,0⟩ else none,_,_,(Tp.rs th).findSome? (Tp.judgeP (Tp.standV Sn fs)),(Tp.rs el).findSome? (Tp.judgeP (Tp.standV Sn fs)),g1,g2,hc 0 (by omega),hc 1 (by omega),hc 2 (by omega),hc 3 (by omega),hc 4 (by omega),hc 5 (by omega),hc 6 (by omega),?_,fun h=>if_neg h,hA1,hA2,fun W hW=>?_,fun W hW=>?_,?_⟩
  ·intro h1 W hW
   rw[if_pos h1]
   have hm:=hs ⟨if ix.isEmpty then 2 else 3,pos,[],nm,0⟩ (hmem _ (by rw[hone,if_pos h1];simp))
   have:=jH (code:=code) (pos:=pos) (nm:=nm) (iv:=iv) (vv:=vv) (ta:=ta) (ea:=ea) (tn:=th.length) (tc:=tc) (en:=el.length) (ec:=ec) ((hF.on hb).on (hW)) hfn hm.2
   have e:(if iv=none then 2 else 3)=(if ix.isEmpty=true then 2 else 3):=by
    by_cases hh:iv=none
    ·rw[if_pos hh,if_pos (hive.1 hh)]
    ·rw[if_neg hh,if_neg (fun q=>hh (hive.2 q))]
   rw[e]at this
   exact this
  ·exact ih th (by omega) s3 W D _ tcs (hb.trans (hW.mono hb.size)) (q6.step hW) (q7.step hW)
  ·exact ih el (by omega) s4 W D _ ecs (hb.trans (hW.mono hb.size)) (q8.step hW) (q9.step hW)
  ·rw[hxi,Option.bind_some,hone,List.findSome?_append,List.findSome?_append,List.findSome?_append,List.findSome?_append]
   congr 1
   by_cases h1:code=1
   ·rw[if_pos h1,if_pos h1,List.findSome?_cons]
    cases Tp.judgeP (Tp.standV Sn fs) ⟨if ix.isEmpty=true then 2 else 3,pos,[],nm,0⟩ <;> rfl
   ·rw[if_neg h1,if_neg h1];rfl
end Go.Proofs.YthnoedjbhbkdeaaGreatDoor
namespace Go.Proofs.YthnoedjbhbkdeaaGreatDoor
open Go.RowKit
theorem ccaught_at (a:Option Addr) (w:World) :
  Calls Tryz.prog 73 #[.iface 137 (.pointer a)] w fun e w'=>e=.returned (.iface 137 (.pointer a))/\w'=w:=by
 have hta:∀(a:Option Addr) (w:World),(Instr.typeAssert (.iface 137 (.pointer a)) 20 137 true).run Tryz.prog w=.ok (.tuple #[.pointer a,.bool true]) w:=fun a w=>by kernel_rfl
 go_enter Tryz.func73,Tryz.ntmps73
 go_wp2
 go_ret
 exact⟨rfl,rfl⟩
theorem ccaught_en (n:Int) (w:World) :
  Calls Tryz.prog 73 #[.iface 28 (.int .i64 n)] w fun e w'=>e=.returned (.iface 28 (.int .i64 n))/\w'=w:=by
 have hta:∀(n:Int) (w:World),(Instr.typeAssert (.iface 28 (.int .i64 n)) 20 137 true).run Tryz.prog w=.ok (.tuple #[.pointer none,.bool false]) w:=fun a w=>by kernel_rfl
 have htb:∀(n:Int) (w:World),(Instr.typeAssert (.iface 28 (.int .i64 n)) 20 28 true).run Tryz.prog w=.ok (.tuple #[.int .i64 n,.bool true]) w:=fun a w=>by kernel_rfl
 go_enter Tryz.func73,Tryz.ntmps73
 go_wp2
 go_ret
 exact⟨rfl,rfl⟩
theorem clate_at (eb ab:Nat) (older:List PanicEntry) (w:World) {xe:Value}(ke:w.cell? ⟨eb,0,none⟩=some xe) (ze:w.frozen? ⟨eb,0,none⟩=false) :
  CallsD Tryz.prog 72 #[.pointer (some ⟨eb,0,none⟩)] (.panicking ({ v:=.iface 137 (.pointer (some ⟨ab,0,none⟩)),recovered:=false } :: older)) w fun e u' w' =>
   e=.returned (.tuple #[])/\u'=.panicking ({ v:=.iface 137 (.pointer (some ⟨ab,0,none⟩)),recovered:=true } :: older)/\w'=w.setCell ⟨eb,0,none⟩ (.iface 137 (.pointer (some ⟨ab,0,none⟩))):=by
 refine callsD_of_wpS Tryz.func72 rfl fun c₀ cs hu=>?_
 apply wpS_seq
 apply wpS_region
 simp[wpOpsS,go_sem,recoverD,hu,Tryz.ntmps72,Exit.thenS]
 refine wpS_of_wp ?_
 generalize hQ:(fun (e:Exit) (a':Act) (w':World)=>bodyPostS Tryz.prog _ _ _ _ e a' _ w')=Q
 show Code.wp Tryz.prog _ _ { tmps:=#[.pointer (some ⟨eb,0,none⟩),.iface 137 (.pointer (some ⟨ab,0,none⟩)),.iface 137 (.pointer (some ⟨ab,0,none⟩)),undef,undef,undef,undef],defers:=[] } w
 go_wp2_with fail
 refine(ccaught_at _ w).mono ?_
 rintro e w' ⟨rfl,rfl⟩
 go_wp2_with fail
 subst hQ
 simp[bodyPostS,results,Tryz.results72]
theorem clate_en (eb:Nat) (n:Int) (older:List PanicEntry) (w:World) {xe:Value}(ke:w.cell? ⟨eb,0,none⟩=some xe) (ze:w.frozen? ⟨eb,0,none⟩=false) :
  CallsD Tryz.prog 72 #[.pointer (some ⟨eb,0,none⟩)] (.panicking ({ v:=.iface 28 (.int .i64 n),recovered:=false } :: older)) w fun e u' w' =>
   e=.returned (.tuple #[])/\u'=.panicking ({ v:=.iface 28 (.int .i64 n),recovered:=true } :: older)/\w'=w.setCell ⟨eb,0,none⟩ (.iface 28 (.int .i64 n)):=by
 refine callsD_of_wpS Tryz.func72 rfl fun c₀ cs hu=>?_
 apply wpS_seq
 apply wpS_region
 simp[wpOpsS,go_sem,recoverD,hu,Tryz.ntmps72,Exit.thenS]
 refine wpS_of_wp ?_
 generalize hQ:(fun (e:Exit) (a':Act) (w':World)=>bodyPostS Tryz.prog _ _ _ _ e a' _ w')=Q
 show Code.wp Tryz.prog _ _ { tmps:=#[.pointer (some ⟨eb,0,none⟩),.iface 28 (.int .i64 n),.iface 28 (.int .i64 n),undef,undef,undef,undef],defers:=[] } w
 go_wp2_with fail
 refine(ccaught_en _ w).mono ?_
 rintro e w' ⟨rfl,rfl⟩
 go_wp2_with fail
 subst hQ
 simp[bodyPostS,results,Tryz.results72]
theorem clate_idle (e:Addr) (w:World) :
  CallsD Tryz.prog 72 #[.pointer (some e)] .returning w fun e u' w'=>e=.returned (.tuple #[])/\u'=.returning/\w'=w:=by
 refine callsD_of_wpS Tryz.func72 rfl fun c₀ cs hu=>?_
 apply wpS_seq
 apply wpS_region
 simp[wpOpsS,go_sem,recoverD,hu,Tryz.ntmps72,Exit.thenS]
 refine wpS_of_wp ?_
 generalize hQ:(fun (e:Exit) (a':Act) (w':World)=>bodyPostS Tryz.prog _ _ _ _ e a' _ w')=Q
 show Code.wp Tryz.prog _ _ { tmps:=#[.pointer (some e),.nilIface,.nilIface,undef,undef,undef,undef],defers:=[] } w
 go_wp2_with fail
 subst hQ
 cases c₀
 simp_all [bodyPostS,results,Tryz.results72]
end Go.Proofs.YthnoedjbhbkdeaaGreatDoor
namespace Go.Proofs.YthnoedjbhbkdeaaGreatDoor
open Go.RowKit
open Tp (Bs Th Sy Seen X S)
def CheckP (w:World) (res:Tp.Ck) (e:Ending) (w':World):Prop:=Below w.heap.size w w'/\match res with
 | none=>e=.returned .nilIface
 | some (en,none)=>e=.returned (.iface 28 (.int .i64 (en:Int)))
 | some (en,some pl)=>∃ ab,e=.returned (.iface 137 (.pointer (some ⟨ab,0,none⟩)))/\w.heap.size<=ab/\w'.cell? ⟨ab,0,none⟩=some (.int .i64 (en:Int))/\w'.cell? ⟨ab,1,none⟩=some (.int .i64 (pl:Int))
theorem kC {P:Program}{fn:Func}{t1 t2:Array Value}{R:Ending->World->Prop}(h:∀ w v,(results fn t1).run P w=.ok v w->(results fn t2).run P w=.ok v w):∀(ds:List Deferred) (u:FrameMode) (w:World),Leaves P fn t1 R ds u w->Leaves P fn t2 R ds u w:=by
 intro ds
 induction ds with
 | nil =>
  intro u w hl
  cases u with
  | returning=>obtain⟨v,h1,h2⟩:=hl;exact⟨v,h w v h1,h2⟩
  | panicking c=>exact hl
  | run=>exact hl
 | cons d ds ih =>
  intro u w hl
  unfold Leaves at hl ⊢
  obtain⟨h1,fv,cap,f,args,h2,h3,h4⟩:=hl
  refine⟨h1,fv,cap,f,args,h2,h3,CallsD.mono h4 ?_⟩
  intro e u' w' hq
  cases e with
  | returned v=>exact ih _ _ hq
  | panicked c=>exact ih _ _ hq
  | outgrown=>exact hq
theorem jF {t1 t2:Array Value}(h:t1[4]?=t2[4]?):results Tryz.f27 t1=results Tryz.f27 t2:=by
 simp[results,Tryz.results27,h]
theorem kN {R:Ending->World->Prop}{d:Nat}(hd:d≠4) (v:Value) (c:List PanicEntry) (a:Act) (w:World) (h:bodyPostD Tryz.prog Tryz.f27 R (.panic c) (a.put (some d) v) w):bodyPostD Tryz.prog Tryz.f27 R (.panic c) a w:=by
 unfold bodyPostD at h ⊢
 refine kC (fun w u hv=>?_) _ _ _ h
 rw[<-hv]
 rw[jF]
 show a.tmps[4]?=(a.tmps.setIfInBounds d v)[4]?
 rw[Array.getElem?_setIfInBounds_ne hd]
def dfr (eb:Nat):List Deferred:=[{ target:=Target.fn (Fn.func 72) #[.pointer (some ⟨eb,0,none⟩)],args:=#[] }]
theorem jt {w wX:World}{res:Tp.Ck}{eb ab:Nat}{a:Act}(h4:a.tmps[4]?=some (.pointer (some ⟨eb,0,none⟩))) (hd:a.defers=dfr eb) (he:wX.heap[eb]?=some (.cells #[.nilIface] 34 (0,0)))
  (hR:CheckP w res (.returned (.iface 137 (.pointer (some ⟨ab,0,none⟩)))) (wX.setCell ⟨eb,0,none⟩ (.iface 137 (.pointer (some ⟨ab,0,none⟩))))) :
  bodyPostD Tryz.prog Tryz.f27 (CheckP w res) (.panic [{ v:=.iface 137 (.pointer (some ⟨ab,0,none⟩)),recovered:=false }]) a wX:=by
 show Leaves Tryz.prog Tryz.f27 a.tmps (CheckP w res) a.defers (.panicking _) wX
 rw[hd]
 unfold dfr
 refine leaves_cons (f:=72) (args:=#[.pointer (some ⟨eb,0,none⟩)]) (by simp) (by simp[go_sem]) ?_
 refine(clate_at eb ab [] wX ((za he).trans rfl) (zg he)).mono ?_
 rintro e u' w'' ⟨rfl,rfl,hw⟩
 have k:w''.cell? ⟨eb,0,none⟩=some (.iface 137 (.pointer (some ⟨ab,0,none⟩))):=by rw[hw];exact(za (zu 0 _ he)).trans rfl
 rw[<-hw]at hR
 refine kC (t1:=#[undef,undef,undef,undef,.pointer (some ⟨eb,0,none⟩)]) (fun w u hv=>by rw[<-hv];rw[jF];rw[h4];rfl) _ _ _ ?_
 simp[Leaves,settle,results,Tryz.results27,go_sem,k]
 exact hR
theorem cdies_en {w wX:World}{res:Tp.Ck}{eb:Nat}{n:Int}{a:Act}(h4:a.tmps[4]?=some (.pointer (some ⟨eb,0,none⟩))) (hd:a.defers=dfr eb) (he:wX.heap[eb]?=some (.cells #[.nilIface] 34 (0,0)))
  (hR:CheckP w res (.returned (.iface 28 (.int .i64 n))) (wX.setCell ⟨eb,0,none⟩ (.iface 28 (.int .i64 n)))) :
  bodyPostD Tryz.prog Tryz.f27 (CheckP w res) (.panic [{ v:=.iface 28 (.int .i64 n),recovered:=false }]) a wX:=by
 show Leaves Tryz.prog Tryz.f27 a.tmps (CheckP w res) a.defers (.panicking _) wX
 rw[hd]
 unfold dfr
 refine leaves_cons (f:=72) (args:=#[.pointer (some ⟨eb,0,none⟩)]) (by simp) (by simp[go_sem]) ?_
 refine(clate_en eb n [] wX ((za he).trans rfl) (zg he)).mono ?_
 rintro e u' w'' ⟨rfl,rfl,hw⟩
 have k:w''.cell? ⟨eb,0,none⟩=some (.iface 28 (.int .i64 n)):=by rw[hw];exact(za (zu 0 _ he)).trans rfl
 rw[<-hw]at hR
 refine kC (t1:=#[undef,undef,undef,undef,.pointer (some ⟨eb,0,none⟩)]) (fun w u hv=>by rw[<-hv];rw[jF];rw[h4];rfl) _ _ _ ?_
 simp[Leaves,settle,results,Tryz.results27,go_sem,k]
 exact hR
theorem imps_at {own:Bs}{S:Seen}:∀ {l ah:List Bs}{er:Nat× Option Nat},Tp.imps own S ah l=some er->er.2=none:=by
 intro l
 induction l with
 | nil=>intro ah er h;simp[Tp.imps]at h
 | cons n t ih =>
  intro ah er h
  rw[Tp.imps]at h
  split at h
  ·cases h;rfl
  ·split at h
   ·cases h;rfl
   ·exact ih h
theorem fnd_new {w:World}{ob n:Nat}{Sn:Seen}{fs:Near}{vs:List Value}{c:Nat}{t1 t2 t3:TypeId}(h:SeenM w ob n Sn) (_hl:vs.length=fs.length) (hv:∀ i (h:i<fs.length),∃ gb k,vs[i]?=some (.map (some gb))/\MapV w gb k (fun q=>(fs[i] q).map thV)) :
  Fnd (((w.alloc (.cells vs.toArray t1)).alloc (.cells #[.map (some ob)] t2)).alloc (.cells #[.slice (some ⟨w.heap.size,0,none⟩) fs.length c] t3)) (w.heap.size+1) Sn fs:=by
 have h1:Below w.heap.size w (((w.alloc (.cells vs.toArray t1)).alloc (.cells #[.map (some ob)] t2)).alloc (.cells #[.slice (some ⟨w.heap.size,0,none⟩) fs.length c] t3)):=((zb _ _).alloc (by simp) _).alloc (by simp;omega) _
 have e1:(((w.alloc (.cells vs.toArray t1)).alloc (.cells #[.map (some ob)] t2)).alloc (.cells #[.slice (some ⟨w.heap.size,0,none⟩) fs.length c] t3)).heap[w.heap.size]?=some (.cells vs.toArray t1 (0,0)):=((Below.heap_alloc _ _ _ (by simp;omega)).trans (Below.heap_alloc _ _ _ (by simp))).trans (zl _ _)
 have e2:(((w.alloc (.cells vs.toArray t1)).alloc (.cells #[.map (some ob)] t2)).alloc (.cells #[.slice (some ⟨w.heap.size,0,none⟩) fs.length c] t3)).heap[w.heap.size+1]?=some (.cells #[.map (some ob)] t2 (0,0)):=(Below.heap_alloc _ _ _ (by simp)).trans (by simpa using zl (w.alloc (.cells vs.toArray t1)) (.cells #[.map (some ob)] t2))
 have e3:(((w.alloc (.cells vs.toArray t1)).alloc (.cells #[.map (some ob)] t2)).alloc (.cells #[.slice (some ⟨w.heap.size,0,none⟩) fs.length c] t3)).heap[w.heap.size+1+1]?=some (.cells #[.slice (some ⟨w.heap.size,0,none⟩) fs.length c] t3 (0,0)):=by simpa using zl ((w.alloc (.cells vs.toArray t1)).alloc (.cells #[.map (some ob)] t2)) (.cells #[.slice (some ⟨w.heap.size,0,none⟩) fs.length c] t3)
 refine⟨⟨ob,n,(za e2).trans rfl,h.on h1⟩,⟨w.heap.size,c,(za e3).trans rfl,⟨zc e1,fun i hi=>?_⟩⟩,zc e3⟩
 obtain⟨gb,k,q1,q2⟩:=hv i hi
 refine⟨gb,k,?_,q2.on (h1.block _ q2.lt)⟩
 rw[za e1]
 simpa using q1
theorem check_walk {w:World}{nm:Bs}{inn gn pn bn ic gc pc bc:Nat}{ia ga pa ba:Option Addr}{sv:Value}{is:List Bs}{Sn:Seen}{tl:List Th}{ol:Nat->List Th}{sr:Nat->Option (Nat× Nat)}{br:Option (Nat× Nat)}(hsv:∃ so,sv=.map so)
  (hI:∀ W,Below w.heap.size w W->Calls Tryz.prog 74 #[.agg #[.string (bs nm),.slice ia inn ic,.slice ga gn gc,.slice pa pn pc,.slice ba bn bc],sv] W (ImpP W nm is Sn))
  (hG:∀ W,Below w.heap.size w W->Calls Tryz.prog 75 #[.agg #[.string (bs nm),.slice ia inn ic,.slice ga gn gc,.slice pa pn pc,.slice ba bn bc]] W (MapP W tl))
  (hP:∀ i,i<pn->∃(g:Nat) (x0:Bs) (x1:Nat) (x2:Bool) (y3 y4 y5:Option Addr) (n3 n4 n5 c3 c4 c5:Nat),pa=some ⟨g,0,none⟩/\g<w.heap.size/\w.cell? ⟨g,i * 6,none⟩=some (.string (bs x0))/\w.cell? ⟨g,i * 6+1,none⟩=some (.int .i64 (x1:Int))/\w.cell? ⟨g,i * 6+2,none⟩=some (.bool x2)/\w.cell? ⟨g,i * 6+3,none⟩=some (.slice y3 n3 c3)/\w.cell? ⟨g,i * 6+4,none⟩=some (.slice y4 n4 c4)/\w.cell? ⟨g,i * 6+5,none⟩=some (.slice y5 n5 c5) /\
   (∀ W,Below w.heap.size w W->Calls Tryz.prog 78 #[.agg #[.string (bs x0),.int .i64 (x1:Int),.bool x2,.slice y3 n3 c3,.slice y4 n4 c4,.slice y5 n5 c5]] W (MapP W (ol i))) /\
   (∀ W b,Below w.heap.size w W->Fnd W b (fun k=>if k∈is then Sn k else none) [Tp.lkT (ol i),Tp.lkT tl]->Calls Tryz.prog 76 #[.slice y5 n5 c5,finderV b] W (CkP W (sr i))))
  (hB:∀ W b,Below w.heap.size w W->Fnd W b (fun k=>if k∈is then Sn k else none) [Tp.lkT tl]->Calls Tryz.prog 76 #[.slice ba bn bc,finderV b] W (CkP W br)) (hpn:pn<=1000)
  {res:Tp.Ck} (hres:res=(Tp.imps nm Sn [] is).or (Tp.up ((Tp.twP tl 0).or (((List.range pn).findSome? fun i=>(Tp.twP (ol i) 0).or (sr i)).or br)))) :
  Calls Tryz.prog 27 #[.agg #[.string (bs nm),.slice ia inn ic,.slice ga gn gc,.slice pa pn pc,.slice ba bn bc],sv] w (CheckP w res):=by
 have hmf:=zm
 obtain⟨so,rfl⟩:=hsv
 obtain⟨w0,hw0⟩:∃ w0,w0=(w.alloc (.cells #[.string (bs nm),.slice ia inn ic,.slice ga gn gc,.slice pa pn pc,.slice ba bn bc] 27)).alloc (.cells #[.nilIface] 34):=⟨_,rfl⟩
 have hb0:Below w.heap.size w w0:=by rw[hw0];exact(zb _ _).alloc (by simp) _
 have hsz0:w0.heap.size=w.heap.size+2:=by rw[hw0];simp
 have hbm:w0.heap[w.heap.size]?=some (.cells #[.string (bs nm),.slice ia inn ic,.slice ga gn gc,.slice pa pn pc,.slice ba bn bc] 27 (0,0)):=by rw[hw0];exact(Below.heap_alloc _ _ _ (by simp)).trans (zl _ _)
 have hbe:w0.heap[w.heap.size+1]?=some (.cells #[.nilIface] 34 (0,0)):=by
  rw[hw0]
  have:=zl (w.alloc (.cells #[.string (bs nm),.slice ia inn ic,.slice ga gn gc,.slice pa pn pc,.slice ba bn bc] 27)) (.cells #[.nilIface] 34)
  simpa using this
 obtain⟨k0,k1,k2,k3,k4⟩:=ya hbm
 have HI:=zh (hI w0 hb0)
 have HG:=zh hG
 have HP:=zh hP
 have HBD:=zh hB
 have HRES:=zh hres
 have HB0:=zh hb0
 have HBM:=zh hbm
 have HBE:=zh hbe
 have hpn':(pn:Int)<=1000:=by omega
 have hs0:w.heap.size<w0.heap.size:=by omega
 clear hI hG hP hB hres hb0 hbm hbe
 go_enter_defers Tryz.func27,Tryz.ntmps27
 go_upto_region 2 with fail
 rw[<-hw0]
 clear hw0
 go_wp2_with fail
 have HEB:Hid (∀ wX,Below w0.heap.size w0 wX->wX.heap[w.heap.size+1]?=some (.cells #[.nilIface] 34 (0,0))):=fun wX h=>(h.block _ (by omega)).trans HBE.out
 have HOUT:Hid (∀(wX:World) (er:Nat× Nat) (ab:Nat),Below w0.heap.size w0 wX->w0.heap.size<=ab->wX.cell? ⟨ab,0,none⟩=some (.int .i64 (er.1:Int))->wX.cell? ⟨ab,1,none⟩=some (.int .i64 (er.2:Int))->res=some (er.1,some er.2) ->
   CheckP w res (.returned (.iface 137 (.pointer (some ⟨ab,0,none⟩)))) (wX.setCell ⟨w.heap.size+1,0,none⟩ (.iface 137 (.pointer (some ⟨ab,0,none⟩))))):=by
  intro wX er ab h1 h2 h3 h4 h5
  refine⟨zj (HB0.out.trans (h1.mono (by omega))) (by omega) 0 _,?_⟩
  rw[h5]
  exact⟨ab,rfl,by omega,by rw[World.cell?_setCell_far _ _ _ _ (by simp;omega)];exact h3,by rw[World.cell?_setCell_far _ _ _ _ (by simp;omega)];exact h4⟩
 refine HI.out.mono ?_
 intro e w1 hq
 unfold ImpP at hq
 cases himp:Tp.imps nm Sn [] is with
 | some er =>
  rw[himp]at hq
  obtain⟨hb1,rfl⟩:=hq
  have HR2:Hid (res=some (er.1,none)):=by unfold Hid;rw[HRES.out,himp];exact congrArg some (Prod.ext rfl (imps_at himp))
  have H1:=zh hb1
  clear himp hb1
  unfold thrownE
  go_wp2_with fail
  refine cdies_en (eb:=w.heap.size+1) rfl rfl (HEB.out w1 H1.out) ⟨zj (HB0.out.trans (H1.out.mono (by omega))) (by omega) 0 _,?_⟩
  rw[HR2.out]
 | none =>
  rw[himp]at hq
  obtain⟨hb1,ob,on,rfl,hobl,hsm⟩:=hq
  have HB1:=zh hb1
  have hsz1:=hb1.size
  have HSM:=zh hsm
  have HG1:=zh (HG.out w1 (HB0.out.trans (hb1.mono (by omega))))
  have HR2:Hid (res=Tp.up ((Tp.twP tl 0).or (((List.range pn).findSome? fun i=>(Tp.twP (ol i) 0).or (sr i)).or br))):=by unfold Hid;rw[HRES.out,himp];rfl
  obtain⟨l0,l1,l2,l3,l4⟩:=ya ((hb1.block _ hs0).trans HBM.out)
  have hsw1:w.heap.size<w1.heap.size:=by omega
  clear himp hb1 hsm k0 k1 k2 k3 k4 HRES HI HG
  go_wp2_with fail
  refine HG1.out.mono ?_
  intro e w2 hq
  obtain⟨hb2,hq⟩:=hq
  have HB2:Hid (Below w0.heap.size w0 w2):=HB1.out.trans (hb2.mono hsz1)
  have hsz2:=HB2.out.size
  cases htw:Tp.twP tl 0 with
  | some er =>
   rw[htw]at hq
   have HR3:Hid (res=some (er.1,some er.2)):=by unfold Hid;rw[HR2.out,htw];rfl
   obtain⟨ab,q1,rfl,q2,q3⟩:=hq.out
   have Q2:=zh q2
   have Q3:=zh q3
   clear htw hq q2 q3 hb2
   go_wp2_with fail
   exact jt (eb:=w.heap.size+1) rfl rfl (HEB.out w2 HB2.out) (HOUT.out w2 er ab HB2.out (by omega) Q2.out Q3.out HR3.out)
  | none =>
   rw[htw]at hq
   obtain⟨gb,gn',rfl,hgbl,_,hgm⟩:=hq
   have HGM:=zh hgm
   have HSM2:=zh (HSM.out.on hb2)
   have HR3:Hid (res=Tp.up (((List.range pn).findSome? fun i=>(Tp.twP (ol i) 0).or (sr i)).or br)):=by unfold Hid;rw[HR2.out,htw];rfl
   obtain⟨j0,j1,j2,j3,j4⟩:=ya ((HB2.out.block _ hs0).trans HBM.out)
   have hsw2:w.heap.size<w2.heap.size:=by omega
   clear htw hb2 hgm l0 l1 l2 l3 l4 HSM HR2 HG1
   go_wp2_with fail
   go_loopg [18] pn (fun k vi wr=>∃ i:Nat,i<=pn/\k=pn - i/\vi=.int .i64 (i:Int)/\Hid (Below w2.heap.size w2 wr)/\Hid (∀ j,j<i->(Tp.twP (ol j) 0).or (sr j)=none))
   case atStart=>exact⟨0,by omega,by omega,rfl,Below.refl _ _,fun j hj=>absurd hj (by omega)⟩
   case round =>
    obtain⟨i,hid,hk,rfl,HB,HN⟩:=hrel
    have hszr:=HB.out.size
    have HB3:Hid (Below w0.heap.size w0 wr):=HB2.out.trans (HB.out.mono hsz2)
    by_cases hlt:i<pn
    ·have hlt':(i:Int)<(pn:Int):=by omega
     obtain⟨g,x0,x1,x2,y3,y4,y5,n3,n4,n5,c3,c4,c5,hag,hgl,d0,d1,d2,d3,d4,d5,hlo,hst⟩:=HP.out i hlt
     subst hag
     have hbw:Below w.heap.size w wr:=HB0.out.trans (HB3.out.mono (by omega))
     have hcell:∀(o:Nat) (u:Value),w.cell? ⟨g,o,none⟩=some u->wr.cell? ⟨g,o,none⟩=some u:=fun o u h=>(hbw.cell (p:=⟨g,o,none⟩) hgl).trans h
     have kc0:=hcell _ _ d0
     have kc1:=hcell _ _ d1
     have kc2:=hcell _ _ d2
     have kc3:=hcell _ _ d3
     have kc4:=hcell _ _ d4
     have kc5:=hcell _ _ d5
     have hglr:g<wr.heap.size:=by have:=hbw.size;omega
     have HLO:=zh hlo
     have HST:=zh hst
     have HBW:=zh hbw
     clear d0 d1 d2 d3 d4 d5 hcell hlo hst hbw
     obtain⟨w4,hw4⟩:∃ w4,w4=wr.alloc (.cells #[.string (bs x0),.int .i64 (x1:Int),.bool x2,.slice y3 n3 c3,.slice y4 n4 c4,.slice y5 n5 c5] 74):=⟨_,rfl⟩
     have hb4:Below wr.heap.size wr w4:=by rw[hw4];exact zb _ _
     have hk4:w4.heap[wr.heap.size]?=some (.cells #[.string (bs x0),.int .i64 (x1:Int),.bool x2,.slice y3 n3 c3,.slice y4 n4 c4,.slice y5 n5 c5] 74 (0,0)):=by rw[hw4];exact zl _ _
     have hs4:wr.heap.size<w4.heap.size:=by rw[hw4];simp
     have HS4:Hid (∀ W,Below w4.heap.size w4 W->W.cell? ⟨wr.heap.size,0,none⟩=some (.string (bs x0))/\W.cell? ⟨wr.heap.size,1,none⟩=some (.int .i64 (x1:Int))/\W.cell? ⟨wr.heap.size,2,none⟩=some (.bool x2)/\W.cell? ⟨wr.heap.size,3,none⟩=some (.slice y3 n3 c3)/\W.cell? ⟨wr.heap.size,4,none⟩=some (.slice y4 n4 c4)/\W.cell? ⟨wr.heap.size,5,none⟩=some (.slice y5 n5 c5)):=fun W hW=>yT ((hW.block _ hs4).trans hk4)
     have HB4:=zh hb4
     clear hk4 hb4
     go_upto_region 7 with fail
     rw[<-hw4]
     clear hw4
     refine wp_region_held_drew (S:=fun W=>W.cell? ⟨wr.heap.size,0,none⟩=some (.string (bs x0))/\W.cell? ⟨wr.heap.size,1,none⟩=some (.int .i64 (x1:Int))/\W.cell? ⟨wr.heap.size,2,none⟩=some (.bool x2)/\W.cell? ⟨wr.heap.size,3,none⟩=some (.slice y3 n3 c3)/\W.cell? ⟨wr.heap.size,4,none⟩=some (.slice y4 n4 c4)/\W.cell? ⟨wr.heap.size,5,none⟩=some (.slice y5 n5 c5)) (by kernel_rfl) (HS4.out _ ((Below.refl _ _).drew)) (fun hHeld=>?_)
     refine wpAnyH_take (i:=0) (v:=.pointer (some ⟨wr.heap.size,5,none⟩)) rfl (by kernel_rfl) (by kernel_rfl) (by kernel_rfl) (fun c a w h=>kN (by decide) _ c a w h) (Or.inl ⟨by rfl,fun W hW=>by go_simp⟩) hHeld ?_
     go_frame
     refine wpAnyH_take (i:=1) (v:=.slice y5 n5 c5) rfl (by kernel_rfl) (by kernel_rfl) (by kernel_rfl) (fun c a w h=>kN (by decide) _ c a w h) (Or.inl ⟨by rfl,fun W hW=>by go_simp⟩) hHeld ?_
     go_frame
     refine wpAnyH_take (i:=2) (v:=.map (some ob)) rfl (by kernel_rfl) (by kernel_rfl) (by kernel_rfl) (fun c a w h=>kN (by decide) _ c a w h) (Or.inl ⟨by rfl,fun W hW=>by go_simp⟩) hHeld ?_
     go_frame
     refine wpAnyH_take (i:=3) (v:=.agg #[.string (bs x0),.int .i64 (x1:Int),.bool x2,.slice y3 n3 c3,.slice y4 n4 c4,.slice y5 n5 c5]) rfl (by kernel_rfl) (by kernel_rfl) (by kernel_rfl) (fun c a w h=>kN (by decide) _ c a w h) (Or.inl ⟨by rfl,fun W hW=>by go_simp⟩) hHeld ?_
     go_frame
     refine wpAnyH_take (i:=5) (v:=.map (some gb)) rfl (by kernel_rfl) (by kernel_rfl) (by kernel_rfl) (fun c a w h=>kN (by decide) _ c a w h) (Or.inl ⟨by rfl,fun W hW=>by go_simp⟩) hHeld ?_
     go_frame
     refine wpAnyH_ready (rs:=[4]) (by kernel_rfl) (by simp) ?_
     refine AllReadyH.cons rfl (fun K hK=>?_) AllReadyH.nil
     go_simp
     have HBX:Hid (Below w.heap.size w w4.drew):=(HBW.out.trans (HB4.out.mono HBW.out.size)).trans ((Below.refl _ _).drew)
     refine(HLO.out _ HBX.out).mono ?_
     intro e w5 hq
     obtain⟨hb5,hq⟩:=hq
     have hb5':Below w4.heap.size w4 w5:=((Below.refl _ _).drew).trans hb5
     have HB5:Hid (Below w0.heap.size w0 w5):=(HB3.out.trans (HB4.out.mono HB3.out.size)).trans (hb5'.mono (by have:=HB4.out.size;have:=HB3.out.size;omega))
     have hsz4:wr.heap.size<=w4.heap.size:=HB4.out.size
     have hsz5:w4.heap.size<=w5.heap.size:=hb5'.size
     cases htl:Tp.twP (ol i) 0 with
     | some er =>
      rw[htl]at hq
      have HR4:Hid (res=some (er.1,some er.2)):=by
       unfold Hid
       rw[HR3.out,zR (f:=fun i=>(Tp.twP (ol i) 0).or (sr i)) hlt HN.out (show (Tp.twP (ol i) 0).or (sr i)=some er by rw[htl];rfl)]
       rfl
      obtain⟨ab,q1,rfl,q2,q3⟩:=hq.out
      have hab:w0.heap.size<=ab:=by have:w4.drew.heap.size=w4.heap.size:=rfl;have:=HB3.out.size;omega
      exact jt (eb:=w.heap.size+1) rfl rfl (HEB.out w5 HB5.out) (HOUT.out w5 er ab HB5.out hab q2 q3 HR4.out)
     | none =>
      rw[htl]at hq
      obtain⟨lb,ln,rfl,_,_,hlm⟩:=hq
      have HLM:=zh hlm
      have HTL:=zh htl
      have HB25:Hid (Below w2.heap.size w2 w5):=HB.out.trans ((HB4.out.trans (hb5'.mono hsz4)).mono hszr)
      have HS5:=zh hb5'
      clear hlm htl hb5 hb5'
      go_frame
      refine hK.out _ _ (HS4.out _ HS5.out) (fun hHeld=>?_)
      clear hK
      refine wpAnyH_ready (rs:=[6]) (by kernel_rfl) (by simp) ?_
      refine AllReadyH.cons rfl (fun K hK=>?_) AllReadyH.nil
      go_simp
      refine hK.out _ _ (HS4.out _ (HS5.out.alloc (by omega) _)) (fun hHeld=>?_)
      clear hK K
      refine wpAnyH_ready (rs:=[7]) (by kernel_rfl) (by simp) ?_
      refine AllReadyH.cons rfl (fun K hK=>?_) AllReadyH.nil
      go_simp
      have HFD:=zh (fnd_new (w:=w5) (fs:=[Tp.lkT (ol i),Tp.lkT tl]) (vs:=[.map (some lb),.map (some gb)]) (c:=2) (t1:=122) (t2:=53) (t3:=194) (HSM2.out.on HB25.out) rfl (fun j hj=>by
       match j,hj with
       | 0,_=>exact⟨lb,ln,rfl,HLM.out⟩
       | 1,_=>exact⟨gb,gn',rfl,HGM.out.on (HB25.out.block _ HGM.out.lt)⟩))
      refine(xh _ (.map (some ob)) (.slice (some ⟨w5.heap.size,0,none⟩) 2 2) ⟨_,rfl⟩ ⟨_,_,_,rfl⟩).mono ?_
      rintro e w7 ⟨rfl,hw7⟩
      have hb7:Below w5.heap.size w5 w7:=by rw[hw7];exact((zb _ _).alloc (by simp) _).alloc (by simp;omega) _
      have hfd:Fnd w7 (w5.heap.size+1) (fun k=>if k∈is then Sn k else none) [Tp.lkT (ol i),Tp.lkT tl]:=by rw[hw7];exact HFD.out
      have hsz57:=hb7.size
      have hsz7:(w5.alloc (.cells #[.map (some lb),.map (some gb)] 122)).heap.size=w5.heap.size+1:=by simp
      rw[hsz7]
      have HB7:Hid (Below w.heap.size w w7):=(HB0.out.trans (HB5.out.mono (by omega))).trans (hb7.mono (by have:=HB5.out.size;omega))
      have HB07:Hid (Below w0.heap.size w0 w7):=HB5.out.trans (hb7.mono HB5.out.size)
      have HS7:=zh (HS5.out.trans (hb7.mono hsz5))
      have HB27:Hid (Below w2.heap.size w2 w7):=HB25.out.trans (hb7.mono HB25.out.size)
      have HCS:=zh (HST.out w7 (w5.heap.size+1) HB7.out hfd)
      clear hw7 hfd hb7 HFD
      simp only [finderV]at HCS ⊢
      try go_frame
      refine hK.out _ _ (HS4.out _ HS7.out) (fun hHeld=>?_)
      clear hK K
      refine wpAnyH_ready (rs:=[8]) (by kernel_rfl) (by simp) ?_
      refine AllReadyH.cons rfl (fun K hK=>?_) AllReadyH.nil
      go_simp
      refine HCS.out.mono ?_
      intro e w8 hq
      obtain⟨hb8,hq⟩:=hq
      have HB08:Hid (Below w0.heap.size w0 w8):=HB07.out.trans (hb8.mono HB07.out.size)
      have hsz7':=HB07.out.size
      cases hsr:sr i with
      | some er =>
       rw[hsr]at hq
       have HR4:Hid (res=some (er.1,some er.2)):=by
        unfold Hid
        rw[HR3.out,zR (f:=fun i=>(Tp.twP (ol i) 0).or (sr i)) hlt HN.out (show (Tp.twP (ol i) 0).or (sr i)=some er by rw[HTL.out,hsr];rfl)]
        rfl
       obtain⟨ab,q1,rfl,q2,q3⟩:=hq.out
       exact jt (eb:=w.heap.size+1) rfl rfl (HEB.out w8 HB08.out) (HOUT.out w8 er ab HB08.out (by omega) q2 q3 HR4.out)
      | none =>
       rw[hsr]at hq
       simp only at hq
       subst hq
       have HB28:Hid (Below w2.heap.size w2 w8):=HB27.out.trans (hb8.mono HB27.out.size)
       have HN8:Hid (∀ j,j<i+1->(Tp.twP (ol j) 0).or (sr j)=none):=fun j hj=>by
        rcases Nat.lt_or_ge j i with q|q
        ·exact HN.out j q
        ·have:j=i:=by omega
         subst this
         rw[HTL.out,hsr]
         rfl
       have HS8:=zh (HS7.out.trans (hb8.mono HS7.out.size))
       clear hsr hb8 HCS
       go_frame
       refine hK.out _ _ (HS4.out _ HS8.out) (fun hHeld=>?_)
       clear hK K
       refine wpAnyH_done (by kernel_rfl) ?_ _
       clear hHeld
       go_wp2_with fail
       go_roundg (pn - (i+1))
       case measure=>omega
       case rel=>exact⟨i+1,by omega,rfl,by go_num,HB28,HN8⟩
    ·have hlt':¬(i:Int)<(pn:Int):=by omega
     have HFS:Hid ((List.range pn).findSome? (fun i=>(Tp.twP (ol i) 0).or (sr i))=none):=yy (fun j hj=>HN.out j (by omega))
     have HR4:Hid (res=Tp.up br):=by unfold Hid;rw[HR3.out,HFS.out];rfl
     have hsz3:=HB3.out.size
     have HS4:Hid (∀ W,Below wr.heap.size wr W->W.cell? ⟨w.heap.size,4,none⟩=some (.slice ba bn bc)):=fun W hW=>(ya ((hW.block _ (by omega)).trans ((HB3.out.block _ hs0).trans HBM.out))).2.2.2.2
     have k4:=HS4.out wr (Below.refl _ _)
     have hswr:w.heap.size<wr.heap.size:=by omega
     clear HFS
     go_upto_region 9 with fail
     refine wp_region_held_drew (S:=fun W=>W.cell? ⟨w.heap.size,4,none⟩=some (.slice ba bn bc)) (by kernel_rfl) (HS4.out _ ((Below.refl _ _).drew)) (fun hHeld=>?_)
     refine wpAnyH_take (i:=0) (v:=.pointer (some ⟨w.heap.size,4,none⟩)) rfl (by kernel_rfl) (by kernel_rfl) (by kernel_rfl) (fun c a w h=>kN (by decide) _ c a w h) (Or.inl ⟨by rfl,fun W hW=>by go_simp⟩) hHeld ?_
     go_frame
     refine wpAnyH_take (i:=1) (v:=.slice ba bn bc) rfl (by kernel_rfl) (by kernel_rfl) (by kernel_rfl) (fun c a w h=>kN (by decide) _ c a w h) (Or.inl ⟨by rfl,fun W hW=>by go_simp⟩) hHeld ?_
     go_frame
     refine wpAnyH_take (i:=2) (v:=.map (some ob)) rfl (by kernel_rfl) (by kernel_rfl) (by kernel_rfl) (fun c a w h=>kN (by decide) _ c a w h) (Or.inl ⟨by rfl,fun W hW=>by go_simp⟩) hHeld ?_
     go_frame
     refine wpAnyH_take (i:=3) (v:=.map (some gb)) rfl (by kernel_rfl) (by kernel_rfl) (by kernel_rfl) (fun c a w h=>kN (by decide) _ c a w h) (Or.inl ⟨by rfl,fun W hW=>by go_simp⟩) hHeld ?_
     go_frame
     refine wpAnyH_ready (rs:=[4]) (by kernel_rfl) (by simp) ?_
     refine AllReadyH.cons rfl (fun K hK=>?_) AllReadyH.nil
     go_simp
     refine hK.out _ _ (HS4.out _ ((zb _ _).drew)) (fun hHeld=>?_)
     clear hK K
     refine wpAnyH_ready (rs:=[5]) (by kernel_rfl) (by simp) ?_
     refine AllReadyH.cons rfl (fun K hK=>?_) AllReadyH.nil
     go_simp
     have HFD:=zh (fnd_new (w:=wr.drew) (fs:=[Tp.lkT tl]) (vs:=[.map (some gb)]) (c:=1) (t1:=122) (t2:=53) (t3:=194) (HSM2.out.on (HB.out.trans ((Below.refl _ _).drew))) rfl (fun j hj=>by
      match j,hj with
      | 0,_=>exact⟨gb,gn',rfl,HGM.out.on (HB.out.block _ HGM.out.lt)⟩))
     refine(xh _ (.map (some ob)) (.slice (some ⟨wr.heap.size,0,none⟩) 1 1) ⟨_,rfl⟩ ⟨_,_,_,rfl⟩).mono ?_
     rintro e w7 ⟨rfl,hw7⟩
     have hb7:Below wr.heap.size wr w7:=by rw[hw7];exact(((zb _ _).drew).alloc (by simp) _).alloc (by simp;omega) _
     have hfd:Fnd w7 (wr.heap.size+1) (fun k=>if k∈is then Sn k else none) [Tp.lkT tl]:=by rw[hw7];exact HFD.out
     have hsz57:=hb7.size
     have hsz7:(wr.alloc (.cells #[.map (some gb)] 122)).drew.heap.size=wr.heap.size+1:=by simp
     rw[hsz7]
     have HB07:Hid (Below w0.heap.size w0 w7):=HB3.out.trans (hb7.mono hsz3)
     have HB7:Hid (Below w.heap.size w w7):=HB0.out.trans (HB07.out.mono (by omega))
     have HS7:=zh hb7
     have HCS:=zh (HBD.out w7 (wr.heap.size+1) HB7.out hfd)
     clear hw7 hfd hb7 HFD
     simp only [finderV]at HCS ⊢
     try go_frame
     refine hK.out _ _ (HS4.out _ HS7.out) (fun hHeld=>?_)
     clear hK K
     refine wpAnyH_ready (rs:=[6]) (by kernel_rfl) (by simp) ?_
     refine AllReadyH.cons rfl (fun K hK=>?_) AllReadyH.nil
     go_simp
     refine HCS.out.mono ?_
     intro e w8 hq
     obtain⟨hb8,hq⟩:=hq
     have HB08:Hid (Below w0.heap.size w0 w8):=HB07.out.trans (hb8.mono HB07.out.size)
     have hsz7':=HB07.out.size
     cases hbr:br with
     | some er =>
      rw[hbr]at hq
      have HR5:Hid (res=some (er.1,some er.2)):=by unfold Hid;rw[HR4.out,hbr];rfl
      obtain⟨ab,q1,rfl,q2,q3⟩:=hq.out
      exact jt (eb:=w.heap.size+1) rfl rfl (HEB.out w8 HB08.out) (HOUT.out w8 er ab HB08.out (by omega) q2 q3 HR5.out)
     | none =>
      rw[hbr]at hq
      simp only at hq
      subst hq
      have HR5:Hid (res=none):=by unfold Hid;rw[HR4.out,hbr];rfl
      have HS8:=zh (HS7.out.trans (hb8.mono HS7.out.size))
      clear hbr hb8 HCS
      try go_frame
      refine hK.out _ _ (HS4.out _ HS8.out) (fun hHeld=>?_)
      clear hK K
      refine wpAnyH_done (by kernel_rfl) ?_ _
      clear hHeld
      have he:=HEB.out w8 HB08.out
      have ke:w8.cell? ⟨w.heap.size+1,0,none⟩=some .nilIface:=(za he).trans rfl
      have ze:w8.frozen? ⟨w.heap.size+1,0,none⟩=false:=zg he
      have hle8:w.heap.size+1<w8.heap.size:=zc he
      have HE8:=zh he
      clear he
      go_wp2_with fail
      obtain⟨wd,hwd⟩:∃ wd,wd=w8.setCell ⟨w.heap.size+1,0,none⟩ .nilIface:=⟨_,rfl⟩
      rw[<-hwd]
      have kd:wd.cell? ⟨w.heap.size+1,0,none⟩=some .nilIface:=by rw[hwd];exact(za (zu 0 .nilIface HE8.out)).trans rfl
      have hfin:CheckP w res (.returned .nilIface) wd:=by
       refine⟨by rw[hwd];exact zj (HB0.out.trans (HB08.out.mono (by omega))) (by omega) 0 _,?_⟩
       rw[HR5.out]
      clear hwd
      refine leaves_cons (f:=72) (args:=#[.pointer (some ⟨w.heap.size+1,0,none⟩)]) (by simp) (by simp[go_sem]) ?_
      refine(clate_idle ⟨w.heap.size+1,0,none⟩ wd).mono ?_
      rintro e u' w'' ⟨rfl,rfl,rfl⟩
      simp[Leaves,settle,results,Tryz.results27,go_sem,kd]
      exact hfin
end Go.Proofs.YthnoedjbhbkdeaaGreatDoor
namespace Go.Proofs.YthnoedjbhbkdeaaGreatDoor
open Go.RowKit
open Tp (Bs Th Sy Seen X S G Pr)
def olOf (m:Tp.M) (i:Nat):List Th:=match m.procs[i]? with
 | some p=>Tp.ownT p
 | none=>[]
def srOf (m:Tp.M) (Sn:Seen) (i:Nat):Option (Nat× Nat):=match m.procs[i]? with
 | some p=>(Tp.rs p.body).findSome? (Tp.judgeP (Tp.standV (Tp.others m Sn) [Tp.lkT (Tp.ownT p),Tp.lkT (Tp.things m)]))
 | none=>none
theorem xw {w:World}{D:Nat->Prop}{a:Option Addr}{c:Nat}{l:List Bs}(h:Row w D 9 1 (.slice a l.length c) l.length (strs l)) (i:Nat) (hi:i<l.length):∃ g,a=some ⟨g,0,none⟩/\g<w.heap.size/\w.cell? ⟨g,i,none⟩=some (.string (bs l[i])):=by
 obtain⟨g,cap,q1,_,q3,q4⟩:=yu h (by omega)
 cases q1
 refine⟨g,rfl,q3,(q4 i (by omega)).trans ?_⟩
 simp[strs,hi]
theorem check_post {m:Tp.M}(hm:Tp.Sml m) {w:World}{ia ga pa ba:Option Addr}{ic gc pc bc:Nat}(h:MB w w.heap.size m ia ga pa ba ic gc pc bc) {sv:Value}{Sn:Seen}(hS:SeenV w sv Sn) :
  Calls Tryz.prog 27 #[.agg (mcells (bs m.name) (.slice ia m.imports.length ic) (.slice ga m.vars.length gc) (.slice pa m.procs.length pc) (.slice ba m.body.length bc)),sv] w (CheckP w (Tp.check m Sn)):=by
 have hsv:∃ so,sv=.map so:=by
  rcases hS with⟨q,_⟩|⟨sb,n,q,_⟩
  ·exact⟨_,q⟩
  ·exact⟨_,q⟩
 have hpp:∀ W,Below w.heap.size w W->∀ i (hi:i<m.procs.length),∃(g:Nat) (pa' va ba':Option Addr) (pc' vc bc':Nat) (bcs:List Value),pa=some ⟨g,0,none⟩/\g<w.heap.size/\(∀ j,j<6->W.cell? ⟨g,i * 6+j,none⟩=(pcells (bs m.procs[i].name) (m.procs[i].pos:Int) m.procs[i].seen (.slice pa' m.procs[i].params.length pc') (.slice va m.procs[i].vars.length vc) (.slice ba' m.procs[i].body.length bc')).toList[j]?) /\
   Row W (fun b=>b<w.heap.size) 9 1 (.slice pa' m.procs[i].params.length pc') m.procs[i].params.length (strs m.procs[i].params)/\Row W (fun b=>b<w.heap.size) 9 1 (.slice va m.procs[i].vars.length vc) m.procs[i].vars.length (strs m.procs[i].vars)/\RepS W (fun b=>b<w.heap.size) m.procs[i].body bcs/\OwnS W (fun b=>b<w.heap.size) (.slice ba' m.procs[i].body.length bc') m.procs[i].body.length bcs:=by
  intro W hW i hi
  obtain⟨pcs,p1,p2⟩:=(h.on hW).pr
  obtain⟨g,cap,q1,q2,q3,q4⟩:=yu p2 (by omega)
  cases q1
  obtain⟨pv,vv,bv,bcs',r1,r2,r3,r4,r5⟩:=jo m.procs pcs p1 i hi
  obtain⟨y3,c3,rfl⟩:=r2.shape
  obtain⟨y4,c4,rfl⟩:=r3.shape
  obtain⟨y5,c5,rfl⟩:=r5.shape
  exact⟨g,y3,y4,y5,c3,c4,c5,bcs',rfl,q2,fun j hj=>(q4 (i * 6+j) (by omega)).trans (r1 j hj),r2,r3,r4,r5⟩
 refine check_walk (is:=m.imports) (Sn:=Sn) (tl:=Tp.things m) (ol:=olOf m) (sr:=srOf m Sn) (br:=(Tp.rs m.body).findSome? (Tp.judgeP (Tp.standV (Tp.others m Sn) [Tp.lkT (Tp.things m)]))) hsv ?_ ?_ ?_ ?_ hm.pc ?_
 ·intro W hW
  refine xH (fun i hi=>?_) rfl hm.ic (hS.on hW)
  obtain⟨g,q1,q2,q3⟩:=xw (h.on hW).im i hi
  exact⟨g,m.imports[i],q1,q2,q3,hm.im _ (List.getElem_mem hi),List.getElem?_eq_getElem hi⟩
 ·intro W hW
  have hgl:=(h.on hW).gl
  refine vD (l:=Tp.things m) (fun i hi=>?_) (fun i hi=>?_) (by simp[Tp.things]) hm.gc hm.pc
  ·obtain⟨g,cap,q1,q2,q3,q4⟩:=yu hgl (by omega)
   cases q1
   have hc:=fun j (hj:j<4)=>(q4 (i * 4+j) (by omega)).trans (xJ m.vars i hi j hj)
   refine⟨g,m.vars[i].name,m.vars[i].pos,m.vars[i].len,m.vars[i].seen,rfl,q3,hc 0 (by omega),hc 1 (by omega),hc 2 (by omega),hc 3 (by omega),hm.g _ (List.getElem_mem hi),?_⟩
   unfold Tp.things
   rw[List.getElem?_append_left (by simpa using hi)]
   simp[hi,Tp.thG]
  ·obtain⟨g,y3,y4,y5,c3,c4,c5,bcs,q1,q2,q3,_⟩:=hpp W hW i hi
   refine⟨g,m.procs[i].name,m.procs[i].pos,m.procs[i].seen,y3,y4,y5,m.procs[i].params.length,m.procs[i].vars.length,m.procs[i].body.length,c3,c4,c5,q1,Nat.lt_of_lt_of_le q2 hW.size,q3 0 (by omega),q3 1 (by omega),q3 2 (by omega),q3 3 (by omega),q3 4 (by omega),q3 5 (by omega),(hm.p _ (List.getElem_mem hi)).1,?_⟩
   unfold Tp.things
   rw[List.getElem?_append_right (by simp)]
   simp[hi,Tp.thP]
 ·intro i hi
  obtain⟨g,y3,y4,y5,c3,c4,c5,bcs,q1,q2,q3,q4,q5,q6,q7⟩:=hpp w (Below.refl _ _) i hi
  have hmp:=hm.p _ (List.getElem_mem hi)
  have hol:olOf m i=Tp.ownT m.procs[i]:=by unfold olOf;rw[List.getElem?_eq_getElem hi]
  have hsr:srOf m Sn i=(Tp.rs m.procs[i].body).findSome? (Tp.judgeP (Tp.standV (Tp.others m Sn) [Tp.lkT (Tp.ownT m.procs[i]),Tp.lkT (Tp.things m)])):=by unfold srOf;rw[List.getElem?_eq_getElem hi]
  refine⟨g,m.procs[i].name,m.procs[i].pos,m.procs[i].seen,y3,y4,y5,m.procs[i].params.length,m.procs[i].vars.length,m.procs[i].body.length,c3,c4,c5,q1,q2,q3 0 (by omega),q3 1 (by omega),q3 2 (by omega),q3 3 (by omega),q3 4 (by omega),q3 5 (by omega),fun W hW=>?_,fun W b hW hF=>?_⟩
  ·rw[hol]
   have hk:∀ b,b<w.heap.size->b<w.heap.size->W.heap[b]?=w.heap[b]?/\b<w.heap.size:=fun b hi _=>⟨hW.block b hi,hi⟩
   refine uz (fun j hj=>?_) (fun j hj=>?_) (by simp[Tp.ownT,Tp.ownOf]) hmp.2.1 hmp.2.2.1
   ·obtain⟨g',a1,a2,a3⟩:=xw (q4.mono hk) j hj
    refine⟨g',m.procs[i].params[j],a1,a2,a3,hmp.2.2.2.1 _ (List.getElem_mem hj),?_⟩
    rw[Nat.zero_add]
    unfold Tp.ownT Tp.ownOf
    rw[List.map_append,List.getElem?_append_left (by simpa using hj)]
    simp[hj]
   ·obtain⟨g',a1,a2,a3⟩:=xw (q5.mono hk) j hj
    refine⟨g',m.procs[i].vars[j],a1,a2,a3,hmp.2.2.2.2.1 _ (List.getElem_mem hj),?_⟩
    unfold Tp.ownT Tp.ownOf
    rw[List.map_append,List.getElem?_append_right (by simp)]
    simp[hj]
  ·rw[hsr]
   rw[hol]at hF
   have hk:∀ b,b<w.heap.size->b<w.heap.size->W.heap[b]?=w.heap[b]?/\b<w.heap.size:=fun b hi _=>⟨hW.block b hi,hi⟩
   exact ku hF (by simp) _ _ zn hmp.2.2.2.2.2 W (fun b=>b<w.heap.size) _ bcs (Below.refl _ _) (q6.mono' hk) (q7.mono hk)
 ·intro W b hW hF
  obtain⟨bcs,b1,b2⟩:=(h.on hW).bd
  exact ku hF (by simp) _ _ zn hm.b W (fun b=>b<w.heap.size) _ bcs (Below.refl _ _) b1 b2
 ·rw[Tp.check_eq]
  congr 2
  unfold Tp.checkV
  congr 2
  rw[Tp.find_idx]
  congr 1
  funext i
  unfold olOf srOf
  cases m.procs[i]? with
  | none=>rw[Option.bind_none,Tp.twP];rfl
  | some p=>rfl
end Go.Proofs.YthnoedjbhbkdeaaGreatDoor
