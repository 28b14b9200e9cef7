import Derived.Test.YtibncofnnlbmcaaGreatDoorKMd
import Derived.Defers
import Derived.Recover
import Derived.Maps.RangeWalk
set_option maxRecDepth 100000
set_option maxHeartbeats 4000000
namespace Go.Proofs.YtibncofnnlbmcaaGreatDoor
open Go.RowKit Go.Maps
open Tp (Bs Th Sy Seen X S)
theorem jA (x:S)(l:List S):Tp.rs (x :: l)=Tp.rs [x]++Tp.rs l:=by
 obtain⟨code,pos,nm,b,d,c,a⟩:=x
 simp[Tp.rs]
theorem rs_app (l m:List S):Tp.rs (l++m)=Tp.rs l++Tp.rs m:=by
 induction l with
 |nil=>simp[Tp.rs]
 |cons x l ih=>rw[List.cons_append,jA,ih,jA x l,List.append_assoc]
theorem rs_one (code pos:Nat)(nm:Bs)(a d:List X)(c b:List S):Tp.rs [⟨code,pos,nm,a,d,c,b⟩]=(if code=1 then [⟨if a.isEmpty then 2 else 3,pos,[],nm,0⟩] else [])++(Tp.rx a++(Tp.rx d++(Tp.rs c++Tp.rs b))):=by
 simp[Tp.rs]
theorem qm (J:Jd):∀(a:List S),(List.range a.length).findSome? (fun i=>(a[i]?).bind fun y=>(Tp.rs [y]).findSome? J)=(Tp.rs a).findSome? J:=by
 intro a
 induction a with
 |nil=>simp[Tp.rs]
 |cons x l ih =>
  rw[jA,List.findSome?_append,<-ih,List.length_cons,List.range_succ_eq_map,List.findSome?_cons,List.findSome?_map]
  have b:((fun i=>((x :: l)[i]?).bind fun y=>(Tp.rs [y]).findSome? J) ∘ Nat.succ)=fun i=>(l[i]?).bind fun y=>(Tp.rs [y]).findSome? J:=by
   funext i
   simp
  rw[b]
  simp only[List.getElem?_cons_zero,Option.bind_some]
  cases (Tp.rs [x]).findSome? J<;>rfl
theorem RepS.step {w w':World}{D:Nat->Prop}{l:List S}{cs:List Value}(h:RepS w D l cs)(k:Below w.heap.size w w'):RepS w' D l cs:=h.mono' (fun b a c=>⟨k.block b c,a⟩)
theorem OwnS.step {w w':World}{D:Nat->Prop}{v:Value}{n:Nat}{cs:List Value}(h:OwnS w D v n cs)(k:Below w.heap.size w w'):OwnS w' D v n cs:=h.mono (fun b a c=>⟨k.block b c,a⟩)
theorem RepS.get {w:World}{D:Nat->Prop}:∀(l:List S) (cs:List Value),RepS w D l cs->∀i (code pos:Nat) (nm:Bs) (g k:List X) (c b:List S),l[i]?=some ⟨code,pos,nm,g,k,c,b⟩->∃(d ev:Value) (a vs f e:List Value),
  (∀j,j<7->cs[i*7+j]?=[.int .i64 (code:Int),.int .i64 (pos:Int),.string (bs nm),a.headD (.pointer none),vs.headD (.pointer none),d,ev][j]?)/\RepL w D g a/\a.length<=1/\RepL w D k vs/\vs.length<=1/\RepS w D c f/\OwnS w D d c.length f/\RepS w D b e/\OwnS w D ev b.length e:=by
 intro l
 induction l with
 |nil=>intro cs _ i _ _ _ _ _ _ _ h;simp at h
 |cons x l ih =>
  intro cs h i code pos nm g k c b m
  obtain⟨o,q,y,O,Q,P,N⟩:=x
  rw[RepS]at h
  obtain⟨d,ev,a,vs,f,e,s,B,C,E,F,G,H,I,J,K,u⟩:=h
  subst B
  cases i with
  |zero =>
   simp only[List.getElem?_cons_zero,Option.some.injEq,S.mk.injEq]at m
   obtain⟨rfl,rfl,rfl,rfl,rfl,rfl,rfl⟩:=m
   refine⟨d,ev,a,vs,f,e,fun j n=>?_,C,E,F,G,H,I,J,K⟩
   rw[Nat.zero_mul,Nat.zero_add,List.getElem?_append_left (by simpa using n)]
  |succ i =>
   obtain⟨z,t,v,A,r,p,L,M⟩:=ih s u i code pos nm g k c b (by simpa using m)
   refine⟨z,t,v,A,r,p,fun j n=>?_,M⟩
   rw[List.getElem?_append_right (by simp;omega)]
   have:(i+1)*7+j-[Value.int .i64 (o:Int),.int .i64 (q:Int),.string (bs y),a.headD (.pointer none),vs.headD (.pointer none),d,ev].length=i*7+j:=by simp;omega
   rw[this,L j n]
theorem part_ask {e w:World}{b:Nat}{Sn:Seen}{fs:Near}(m:Fnd e b Sn fs)(j:fs.length<=1000)(g:Below e.heap.size e w){D:Nat->Prop}(l:List X)(vs:List Value)(n:Sm (Tp.rx l))(c:RepL w D l vs)(k:vs.length<=1) :
  (∃a,vs.headD (.pointer none)=.pointer a/\(a=none↔l.isEmpty=true))/\AskX w b (vs.headD (.pointer none)) ((Tp.rx l).findSome? (Tp.judgeP (Tp.standV Sn fs))):=by
 have f:=RepL.len _ _ c
 match l,vs,c with
 |[],vs,c =>
  rw[RepL]at c
  subst c
  refine⟨⟨none,rfl,by simp⟩,fun W d=>?_⟩
  have:(Tp.rx []).findSome? (Tp.judgeP (Tp.standV Sn fs))=none:=by simp[Tp.rx]
  rw[this]
  exact kT W b
 |[y],vs,c =>
  obtain⟨i,h,p⟩:=RepL.get _ _ c 0 (by simp)
  have o:vs=[.pointer (some ⟨i,0,none⟩)]:=by
   match vs,k,f with
   |[v],_,_=>simp at h;rw[h]
  subst o
  refine⟨⟨_,rfl,by simp⟩,fun W d=>?_⟩
  exact xZ m j _ y zn n W D i (g.trans (d.mono g.size)) (c.step d)
 |y :: z :: t,vs,c=>simp at f;omega
theorem kq {K:World}{b:Nat}{Sn:Seen}{fs:Near}(I:Fnd K b Sn fs)(H:fs.length<=1000):∀(n:Nat) (l:List S),SizeOf.sizeOf l<=n->Sm (Tp.rs l)->∀(w:World) (D:Nat->Prop) (v:Value) (cs:List Value),Below K.heap.size K w->RepS w D l cs->OwnS w D v l.length cs ->
  Calls Tryz.prog 81 #[v,finderV b] w (CkP w ((Tp.rs l).findSome? (Tp.judgeP (Tp.standV Sn fs)))):=by
 intro n
 induction n with
 |zero=>intro l Q;cases l<;>simp at Q<;>omega
 |succ n ih =>
  intro l Q B w D v cs s Z Y
  rw[<-qm]
  have a1:∃a c,v=.slice a l.length c/\l.length<=9223372036854775807/\∀i,i<l.length->∃g,a=some ⟨g,0,none⟩/\g<w.heap.size/\∀j,j<7->w.cell? ⟨g,i*7+j,none⟩=cs[i*7+j]?:=by
   rcases Y with⟨u,E⟩|⟨g,cap,cur,u,E,F,R,T,U,G⟩
   ·exact⟨none,0,by rw[E];exact u,by omega,fun i y=>by omega⟩
   ·refine⟨_,cap,u,?_,fun i y=>⟨g,rfl,zf F,fun j J=>?_⟩⟩
    ·have:maxLen=9223372036854775807:=rfl
     omega
    ·rw[za F,<-Array.getElem?_toList,<-G,List.getElem?_take_of_lt (by omega)]
  obtain⟨a,c,rfl,a3,X⟩:=a1
  refine jR (fun i y=>?_) a3
  rcases hx:l[i] with⟨code,pos,nm,d,z,o,f⟩
  have P:l[i]?=some ⟨code,pos,nm,d,z,o,f⟩:=by rw[List.getElem?_eq_getElem y,hx]
  obtain⟨tv,ev,ls,vs,a5,a0,u,E,F,R,T,U,G,q8,V⟩:=RepS.get _ _ Z i code pos nm d z o f P
  obtain⟨g,g1,g2,g3⟩:=X i y
  have A:∀r∈Tp.rs [(⟨code,pos,nm,d,z,o,f⟩:S)],r∈Tp.rs l:=by
   intro r m
   have e:l=l.take i++l[i] :: l.drop (i+1):=by rw[<-List.drop_eq_getElem_cons y,List.take_append_drop]
   rw[e,rs_app,jA,hx]
   simp[m]
  have x:=rs_one code pos nm d z o f
  have O:SizeOf.sizeOf l[i]<SizeOf.sizeOf l:=List.sizeOf_lt_of_mem (List.getElem_mem y)
  rw[hx]at O
  simp at O
  have s1:Sm (Tp.rx d):=B.sub fun r m=>A r (by rw[x];simp[m])
  have s2:Sm (Tp.rx z):=B.sub fun r m=>A r (by rw[x];simp[m])
  have s3:Sm (Tp.rs o):=B.sub fun r m=>A r (by rw[x];simp[m])
  have s4:Sm (Tp.rs f):=B.sub fun r m=>A r (by rw[x];simp[m])
  obtain⟨⟨iv,a2,L⟩,M⟩:=part_ask I H s d ls s1 E F
  obtain⟨⟨vv,a4,_⟩,N⟩:=part_ask I H s z vs s2 R T
  obtain⟨ta,tc,rfl⟩:=G.shape
  obtain⟨ea,ec,rfl⟩:=V.shape
  rw[a2]at M u
  rw[a4]at N u
  have t:=fun j (J:j<7)=>(g3 j J).trans (u j J)
  refine⟨g,code,pos,bs nm,iv,vv,ta,ea,o.length,tc,f.length,ec,if code=1 then Tp.judgeP (Tp.standV Sn fs) ⟨if d.isEmpty then 2 else 3,pos,[],nm,0⟩ else none,_,_,(Tp.rs o).findSome? (Tp.judgeP (Tp.standV Sn fs)),(Tp.rs f).findSome? (Tp.judgeP (Tp.standV Sn fs)),g1,g2,t 0 (by omega),t 1 (by omega),t 2 (by omega),t 3 (by omega),t 4 (by omega),t 5 (by omega),t 6 (by omega),?_,fun h=>if_neg h,M,N,fun W k=>?_,fun W k=>?_,?_⟩
  ·intro p W k
   rw[if_pos p]
   have hm:=B ⟨if d.isEmpty then 2 else 3,pos,[],nm,0⟩ (A _ (by rw[x,if_pos p];simp))
   have:=jS (code:=code) (pos:=pos) (nm:=nm) (iv:=iv) (vv:=vv) (ta:=ta) (ea:=ea) (tn:=o.length) (tc:=tc) (en:=f.length) (ec:=ec) ((I.on s).on (k)) H hm.2
   have e:(if iv=none then 2 else 3)=(if d.isEmpty=true then 2 else 3):=by
    by_cases C:iv=none
    ·rw[if_pos C,if_pos (L.1 C)]
    ·rw[if_neg C,if_neg (fun q=>C (L.2 q))]
   rw[e]at this
   exact this
  ·exact ih o (by omega) s3 W D _ a5 (s.trans (k.mono s.size)) (U.step k) (G.step k)
  ·exact ih f (by omega) s4 W D _ a0 (s.trans (k.mono s.size)) (q8.step k) (V.step k)
  ·rw[P,Option.bind_some,x,List.findSome?_append,List.findSome?_append,List.findSome?_append,List.findSome?_append]
   congr 1
   by_cases p:code=1
   ·rw[if_pos p,if_pos p,List.findSome?_cons]
    cases Tp.judgeP (Tp.standV Sn fs) ⟨if d.isEmpty=true then 2 else 3,pos,[],nm,0⟩<;>rfl
   ·rw[if_neg p,if_neg p];rfl
end Go.Proofs.YtibncofnnlbmcaaGreatDoor
namespace Go.Proofs.YtibncofnnlbmcaaGreatDoor
open Go.RowKit
theorem ccaught_at (a:Option Addr)(w:World) :
  Calls Tryz.prog 78 #[.iface 117 (.pointer a)] w fun e w'=>e=.returned (.iface 117 (.pointer a))/\w'=w:=by
 have b:∀(a:Option Addr) (w:World),(Instr.typeAssert (.iface 117 (.pointer a)) 20 117 true).run Tryz.prog w=.ok (.tuple #[.pointer a,.bool true]) w:=fun a w=>by kernel_rfl
 go_enter Tryz.func78,Tryz.ntmps78
 go_wp2
 go_ret
 exact⟨rfl,rfl⟩
theorem ccaught_en (n:Int)(w:World) :
  Calls Tryz.prog 78 #[.iface 44 (.int .i64 n)] w fun e w'=>e=.returned (.iface 44 (.int .i64 n))/\w'=w:=by
 have b:∀(n:Int) (w:World),(Instr.typeAssert (.iface 44 (.int .i64 n)) 20 117 true).run Tryz.prog w=.ok (.tuple #[.pointer none,.bool false]) w:=fun a w=>by kernel_rfl
 have c:∀(n:Int) (w:World),(Instr.typeAssert (.iface 44 (.int .i64 n)) 20 44 true).run Tryz.prog w=.ok (.tuple #[.int .i64 n,.bool true]) w:=fun a w=>by kernel_rfl
 go_enter Tryz.func78,Tryz.ntmps78
 go_wp2
 go_ret
 exact⟨rfl,rfl⟩
theorem clate_at (eb a:Nat)(older:List PanicEntry)(w:World){g:Value}(i:w.cell? ⟨eb,0,none⟩=some g)(j:w.frozen? ⟨eb,0,none⟩=false) :
  CallsD Tryz.prog 77 #[.pointer (some ⟨eb,0,none⟩)] (.panicking ({ v:=.iface 117 (.pointer (some ⟨a,0,none⟩)),recovered:=false } :: older)) w fun e f w' =>
   e=.returned (.tuple #[])/\f=.panicking ({ v:=.iface 117 (.pointer (some ⟨a,0,none⟩)),recovered:=true } :: older)/\w'=w.setCell ⟨eb,0,none⟩ (.iface 117 (.pointer (some ⟨a,0,none⟩))):=by
 refine callsD_of_wpS Tryz.func77 rfl fun h cs d=>?_
 apply wpS_seq
 apply wpS_region
 simp[wpOpsS,go_sem,recoverD,d,Tryz.ntmps77,Exit.thenS]
 refine wpS_of_wp ?_
 generalize c:(fun (e:Exit) (b:Act) (w':World)=>bodyPostS Tryz.prog _ _ _ _ e b _ w')=Q
 show Code.wp Tryz.prog _ _ { tmps:=#[.pointer (some ⟨eb,0,none⟩),.iface 117 (.pointer (some ⟨a,0,none⟩)),.iface 117 (.pointer (some ⟨a,0,none⟩)),undef,undef,undef,undef],defers:=[] } w
 go_wp2_with fail
 refine(ccaught_at _ w).mono ?_
 rintro e w'⟨rfl,rfl⟩
 go_wp2_with fail
 subst c
 simp[bodyPostS,results,Tryz.results77]
theorem clate_en (eb:Nat)(n:Int)(older:List PanicEntry)(w:World){f:Value}(h:w.cell? ⟨eb,0,none⟩=some f)(i:w.frozen? ⟨eb,0,none⟩=false) :
  CallsD Tryz.prog 77 #[.pointer (some ⟨eb,0,none⟩)] (.panicking ({ v:=.iface 44 (.int .i64 n),recovered:=false } :: older)) w fun e d w' =>
   e=.returned (.tuple #[])/\d=.panicking ({ v:=.iface 44 (.int .i64 n),recovered:=true } :: older)/\w'=w.setCell ⟨eb,0,none⟩ (.iface 44 (.int .i64 n)):=by
 refine callsD_of_wpS Tryz.func77 rfl fun g cs c=>?_
 apply wpS_seq
 apply wpS_region
 simp[wpOpsS,go_sem,recoverD,c,Tryz.ntmps77,Exit.thenS]
 refine wpS_of_wp ?_
 generalize b:(fun (e:Exit) (a:Act) (w':World)=>bodyPostS Tryz.prog _ _ _ _ e a _ w')=Q
 show Code.wp Tryz.prog _ _ { tmps:=#[.pointer (some ⟨eb,0,none⟩),.iface 44 (.int .i64 n),.iface 44 (.int .i64 n),undef,undef,undef,undef],defers:=[] } w
 go_wp2_with fail
 refine(ccaught_en _ w).mono ?_
 rintro e w'⟨rfl,rfl⟩
 go_wp2_with fail
 subst b
 simp[bodyPostS,results,Tryz.results77]
theorem clate_idle (e:Addr)(w:World) :
  CallsD Tryz.prog 77 #[.pointer (some e)] .returning w fun e f w'=>e=.returned (.tuple #[])/\f=.returning/\w'=w:=by
 refine callsD_of_wpS Tryz.func77 rfl fun b cs d=>?_
 apply wpS_seq
 apply wpS_region
 simp[wpOpsS,go_sem,recoverD,d,Tryz.ntmps77,Exit.thenS]
 refine wpS_of_wp ?_
 generalize c:(fun (e:Exit) (a:Act) (w':World)=>bodyPostS Tryz.prog _ _ _ _ e a _ w')=Q
 show Code.wp Tryz.prog _ _ { tmps:=#[.pointer (some e),.nilIface,.nilIface,undef,undef,undef,undef],defers:=[] } w
 go_wp2_with fail
 subst c
 cases b
 simp_all [bodyPostS,results,Tryz.results77]
end Go.Proofs.YtibncofnnlbmcaaGreatDoor
namespace Go.Proofs.YtibncofnnlbmcaaGreatDoor
open Go.RowKit
open Tp (Bs Th Sy Seen X S)
def CheckP (w:World) (res:Tp.Ck) (e:Ending) (w':World):Prop:=Below w.heap.size w w'/\match res with
 |none=>e=.returned .nilIface
 |some (en,none)=>e=.returned (.iface 44 (.int .i64 (en:Int)))
 |some (en,some pl)=>∃ab,e=.returned (.iface 117 (.pointer (some ⟨ab,0,none⟩)))/\w.heap.size<=ab/\w'.cell? ⟨ab,0,none⟩=some (.int .i64 (en:Int))/\w'.cell? ⟨ab,1,none⟩=some (.int .i64 (pl:Int))
theorem kD {P:Program}{g:Func}{t1 t2:Array Value}{R:Ending->World->Prop}(h:∀w v,(results g t1).run P w=.ok v w->(results g t2).run P w=.ok v w):∀(b:List Deferred) (u:FrameMode) (w:World),Leaves P g t1 R b u w->Leaves P g t2 R b u w:=by
 intro b
 induction b with
 |nil =>
  intro u w a
  cases u with
  |returning=>obtain⟨v,i,j⟩:=a;exact⟨v,h w v i,j⟩
  |panicking c=>exact a
  |run=>exact a
 |cons d b ih =>
  intro u w a
  unfold Leaves at a ⊢
  obtain⟨i,l,cap,f,args,j,m,n⟩:=a
  refine⟨i,l,cap,f,args,j,m,CallsD.mono n ?_⟩
  intro e o w' k
  cases e with
  |returned v=>exact ih _ _ k
  |panicked c=>exact ih _ _ k
  |outgrown=>exact k
theorem jQ {t1 t2:Array Value}(h:t1[4]?=t2[4]?):results Tryz.f37 t1=results Tryz.f37 t2:=by
 simp[results,Tryz.results37,h]
theorem kO {R:Ending->World->Prop}{d:Nat}(hd:d≠4)(v:Value)(c:List PanicEntry)(a:Act)(w:World)(h:bodyPostD Tryz.prog Tryz.f37 R (.panic c) (a.put (some d) v) w):bodyPostD Tryz.prog Tryz.f37 R (.panic c) a w:=by
 unfold bodyPostD at h ⊢
 refine kD (fun w u b=>?_) _ _ _ h
 rw[<-b]
 rw[jQ]
 show a.tmps[4]?=(a.tmps.setIfInBounds d v)[4]?
 rw[Array.getElem?_setIfInBounds_ne hd]
def dfr (eb:Nat):List Deferred:=[{ target:=Target.fn (Fn.func 77) #[.pointer (some ⟨eb,0,none⟩)],args:=#[] }]
theorem jt {w c:World}{d:Tp.Ck}{eb b:Nat}{a:Act}(l:a.tmps[4]?=some (.pointer (some ⟨eb,0,none⟩)))(hd:a.defers=dfr eb)(g:c.heap[eb]?=some (.cells #[.nilIface] 38 (0,0)))
  (h:CheckP w d (.returned (.iface 117 (.pointer (some ⟨b,0,none⟩)))) (c.setCell ⟨eb,0,none⟩ (.iface 117 (.pointer (some ⟨b,0,none⟩))))) :
  bodyPostD Tryz.prog Tryz.f37 (CheckP w d) (.panic [{ v:=.iface 117 (.pointer (some ⟨b,0,none⟩)),recovered:=false }]) a c:=by
 show Leaves Tryz.prog Tryz.f37 a.tmps (CheckP w d) a.defers (.panicking _) c
 rw[hd]
 unfold dfr
 refine leaves_cons (f:=77) (args:=#[.pointer (some ⟨eb,0,none⟩)]) (by simp) (by simp[go_sem]) ?_
 refine(clate_at eb b [] c ((za g).trans rfl) (zi g)).mono ?_
 rintro e n j⟨rfl,rfl,i⟩
 have k:j.cell? ⟨eb,0,none⟩=some (.iface 117 (.pointer (some ⟨b,0,none⟩))):=by rw[i];exact(za (zu 0 _ g)).trans rfl
 rw[<-i]at h
 refine kD (t1:=#[undef,undef,undef,undef,.pointer (some ⟨eb,0,none⟩)]) (fun w u m=>by rw[<-m];rw[jQ];rw[l];rfl) _ _ _ ?_
 simp[Leaves,settle,results,Tryz.results37,go_sem,k]
 exact h
theorem cdies_en {w b:World}{c:Tp.Ck}{eb:Nat}{n:Int}{a:Act}(j:a.tmps[4]?=some (.pointer (some ⟨eb,0,none⟩)))(hd:a.defers=dfr eb)(d:b.heap[eb]?=some (.cells #[.nilIface] 38 (0,0)))
  (g:CheckP w c (.returned (.iface 44 (.int .i64 n))) (b.setCell ⟨eb,0,none⟩ (.iface 44 (.int .i64 n)))) :
  bodyPostD Tryz.prog Tryz.f37 (CheckP w c) (.panic [{ v:=.iface 44 (.int .i64 n),recovered:=false }]) a b:=by
 show Leaves Tryz.prog Tryz.f37 a.tmps (CheckP w c) a.defers (.panicking _) b
 rw[hd]
 unfold dfr
 refine leaves_cons (f:=77) (args:=#[.pointer (some ⟨eb,0,none⟩)]) (by simp) (by simp[go_sem]) ?_
 refine(clate_en eb n [] b ((za d).trans rfl) (zi d)).mono ?_
 rintro e m i⟨rfl,rfl,h⟩
 have k:i.cell? ⟨eb,0,none⟩=some (.iface 44 (.int .i64 n)):=by rw[h];exact(za (zu 0 _ d)).trans rfl
 rw[<-h]at g
 refine kD (t1:=#[undef,undef,undef,undef,.pointer (some ⟨eb,0,none⟩)]) (fun w u l=>by rw[<-l];rw[jQ];rw[j];rfl) _ _ _ ?_
 simp[Leaves,settle,results,Tryz.results37,go_sem,k]
 exact g
theorem imps_at {own:Bs}{S:Seen}:∀{l a:List Bs}{er:Nat×Option Nat},Tp.imps own S a l=some er->er.2=none:=by
 intro l
 induction l with
 |nil=>intro a er h;simp[Tp.imps]at h
 |cons n t ih =>
  intro a er h
  rw[Tp.imps]at h
  split at h
  ·cases h;rfl
  ·split at h
   ·cases h;rfl
   ·exact ih h
theorem fnd_new {w:World}{ob n:Nat}{Sn:Seen}{fs:Near}{vs:List Value}{c:Nat}{t1 t2 t3:TypeId}(h:SeenM w ob n Sn)(_hl:vs.length=fs.length)(l:∀i (h:i<fs.length),∃a k,vs[i]?=some (.map (some a))/\MapV w a k (fun q=>(fs[i] q).map thV)) :
  Fnd (((w.alloc (.cells vs.toArray t1)).alloc (.cells #[.map (some ob)] t2)).alloc (.cells #[.slice (some ⟨w.heap.size,0,none⟩) fs.length c] t3)) (w.heap.size+1) Sn fs:=by
 have e:Below w.heap.size w (((w.alloc (.cells vs.toArray t1)).alloc (.cells #[.map (some ob)] t2)).alloc (.cells #[.slice (some ⟨w.heap.size,0,none⟩) fs.length c] t3)):=((zb _ _).alloc (by simp) _).alloc (by simp;omega) _
 have b:(((w.alloc (.cells vs.toArray t1)).alloc (.cells #[.map (some ob)] t2)).alloc (.cells #[.slice (some ⟨w.heap.size,0,none⟩) fs.length c] t3)).heap[w.heap.size]?=some (.cells vs.toArray t1 (0,0)):=((Below.heap_alloc _ _ _ (by simp;omega)).trans (Below.heap_alloc _ _ _ (by simp))).trans (zo _ _)
 have g:(((w.alloc (.cells vs.toArray t1)).alloc (.cells #[.map (some ob)] t2)).alloc (.cells #[.slice (some ⟨w.heap.size,0,none⟩) fs.length c] t3)).heap[w.heap.size+1]?=some (.cells #[.map (some ob)] t2 (0,0)):=(Below.heap_alloc _ _ _ (by simp)).trans (by simpa using zo (w.alloc (.cells vs.toArray t1)) (.cells #[.map (some ob)] t2))
 have d:(((w.alloc (.cells vs.toArray t1)).alloc (.cells #[.map (some ob)] t2)).alloc (.cells #[.slice (some ⟨w.heap.size,0,none⟩) fs.length c] t3)).heap[w.heap.size+1+1]?=some (.cells #[.slice (some ⟨w.heap.size,0,none⟩) fs.length c] t3 (0,0)):=by simpa using zo ((w.alloc (.cells vs.toArray t1)).alloc (.cells #[.map (some ob)] t2)) (.cells #[.slice (some ⟨w.heap.size,0,none⟩) fs.length c] t3)
 refine⟨⟨ob,n,(za g).trans rfl,h.on e⟩,⟨w.heap.size,c,(za d).trans rfl,⟨zf b,fun i j=>?_⟩⟩,zf d⟩
 obtain⟨a,k,m,f⟩:=l i j
 refine⟨a,k,?_,f.on (e.block _ f.lt)⟩
 rw[za b]
 simpa using m
theorem check_walk {w:World}{nm:Bs}{b2 gn pn F ic gc pc E:Nat}{ia ga pa D:Option Addr}{sv:Value}{is:List Bs}{Sn:Seen}{tl:List Th}{ol:Nat->List Th}{sr:Nat->Option (Nat×Nat)}{br:Option (Nat×Nat)}(m7:∃so,sv=.map so)
  (hI:∀W,Below w.heap.size w W->Calls Tryz.prog 79 #[.agg #[.string (bs nm),.slice ia b2 ic,.slice ga gn gc,.slice pa pn pc,.slice D F E],sv] W (ImpP W nm is Sn))
  (hG:∀W,Below w.heap.size w W->Calls Tryz.prog 80 #[.agg #[.string (bs nm),.slice ia b2 ic,.slice ga gn gc,.slice pa pn pc,.slice D F E]] W (MapP W tl))
  (hP:∀i,i<pn->∃(g:Nat) (X:Bs) (x1:Nat) (x2:Bool) (Y Z I:Option Addr) (R T H c3 P G:Nat),pa=some ⟨g,0,none⟩/\g<w.heap.size/\w.cell? ⟨g,i*6,none⟩=some (.string (bs X))/\w.cell? ⟨g,i*6+1,none⟩=some (.int .i64 (x1:Int))/\w.cell? ⟨g,i*6+2,none⟩=some (.bool x2)/\w.cell? ⟨g,i*6+3,none⟩=some (.slice Y R c3)/\w.cell? ⟨g,i*6+4,none⟩=some (.slice Z T P)/\w.cell? ⟨g,i*6+5,none⟩=some (.slice I H G) /\
   (∀W,Below w.heap.size w W->Calls Tryz.prog 83 #[.agg #[.string (bs X),.int .i64 (x1:Int),.bool x2,.slice Y R c3,.slice Z T P,.slice I H G]] W (MapP W (ol i))) /\
   (∀W b,Below w.heap.size w W->Fnd W b (fun k=>if k∈is then Sn k else none) [Tp.lkT (ol i),Tp.lkT tl]->Calls Tryz.prog 81 #[.slice I H G,finderV b] W (CkP W (sr i))))
  (hB:∀W b,Below w.heap.size w W->Fnd W b (fun k=>if k∈is then Sn k else none) [Tp.lkT tl]->Calls Tryz.prog 81 #[.slice D F E,finderV b] W (CkP W br))(o2:pn<=1000)
  {s:Tp.Ck}(f2:s=(Tp.imps nm Sn [] is).or (Tp.up ((Tp.twP tl 0).or (((List.range pn).findSome? fun i=>(Tp.twP (ol i) 0).or (sr i)).or br)))) :
  Calls Tryz.prog 37 #[.agg #[.string (bs nm),.slice ia b2 ic,.slice ga gn gc,.slice pa pn pc,.slice D F E],sv] w (CheckP w s):=by
 have o1:=zm
 obtain⟨so,rfl⟩:=m7
 obtain⟨l,b1⟩:∃l,l=(w.alloc (.cells #[.string (bs nm),.slice ia b2 ic,.slice ga gn gc,.slice pa pn pc,.slice D F E] 36)).alloc (.cells #[.nilIface] 38):=⟨_,rfl⟩
 have e6:Below w.heap.size w l:=by rw[b1];exact(zb _ _).alloc (by simp) _
 have n9:l.heap.size=w.heap.size+2:=by rw[b1];simp
 have e7:l.heap[w.heap.size]?=some (.cells #[.string (bs nm),.slice ia b2 ic,.slice ga gn gc,.slice pa pn pc,.slice D F E] 36 (0,0)):=by rw[b1];exact(Below.heap_alloc _ _ _ (by simp)).trans (zo _ _)
 have g1:l.heap[w.heap.size+1]?=some (.cells #[.nilIface] 38 (0,0)):=by
  rw[b1]
  have:=zo (w.alloc (.cells #[.string (bs nm),.slice ia b2 ic,.slice ga gn gc,.slice pa pn pc,.slice D F E] 36)) (.cells #[.nilIface] 38)
  simpa using this
 obtain⟨k0,k1,k2,k3,k4⟩:=yd e7
 have HI:=zh (hI l e6)
 have HG:=zh hG
 have HP:=zh hP
 have i5:=zh hB
 have d9:=zh f2
 have a3:=zh e6
 have e2:=zh e7
 have i6:=zh g1
 have n2:(pn:Int)<=1000:=by omega
 have e9:w.heap.size<l.heap.size:=by omega
 clear hI hG hP hB f2 e6 e7 g1
 go_enter_defers Tryz.func37,Tryz.ntmps37
 go_upto_region 2 with fail
 rw[<-b1]
 clear b1
 go_wp2_with fail
 have a8:Hid (∀J,Below l.heap.size l J->J.heap[w.heap.size+1]?=some (.cells #[.nilIface] 38 (0,0))):=fun J h=>(h.block _ (by omega)).trans i6.out
 have c8:Hid (∀(J:World) (er:Nat×Nat) (r:Nat),Below l.heap.size l J->l.heap.size<=r->J.cell? ⟨r,0,none⟩=some (.int .i64 (er.1:Int))->J.cell? ⟨r,1,none⟩=some (.int .i64 (er.2:Int))->s=some (er.1,some er.2) ->
   CheckP w s (.returned (.iface 117 (.pointer (some ⟨r,0,none⟩)))) (J.setCell ⟨w.heap.size+1,0,none⟩ (.iface 117 (.pointer (some ⟨r,0,none⟩))))):=by
  intro J er r h1 h2 h3 h4 h5
  refine⟨zq (a3.out.trans (h1.mono (by omega))) (by omega) 0 _,?_⟩
  rw[h5]
  exact⟨r,rfl,by omega,by rw[World.cell?_setCell_far _ _ _ _ (by simp;omega)];exact h3,by rw[World.cell?_setCell_far _ _ _ _ (by simp;omega)];exact h4⟩
 refine HI.out.mono ?_
 intro e w1 d
 unfold ImpP at d
 cases a2:Tp.imps nm Sn [] is with
 |some er =>
  rw[a2]at d
  obtain⟨N,rfl⟩:=d
  have b7:Hid (s=some (er.1,none)):=by unfold Hid;rw[d9.out,a2];exact congrArg some (Prod.ext rfl (imps_at a2))
  have H1:=zh N
  clear a2 N
  unfold thrownE
  go_wp2_with fail
  refine cdies_en (eb:=w.heap.size+1) rfl rfl (a8.out w1 H1.out) ⟨zq (a3.out.trans (H1.out.mono (by omega))) (by omega) 0 _,?_⟩
  rw[b7.out]
 |none =>
  rw[a2]at d
  obtain⟨N,ob,on,rfl,n1,g6⟩:=d
  have i4:=zh N
  have h8:=N.size
  have f6:=zh g6
  have f5:=zh (HG.out w1 (a3.out.trans (N.mono (by omega))))
  have b7:Hid (s=Tp.up ((Tp.twP tl 0).or (((List.range pn).findSome? fun i=>(Tp.twP (ol i) 0).or (sr i)).or br))):=by unfold Hid;rw[d9.out,a2];rfl
  obtain⟨l0,l1,l2,l3,l4⟩:=yd ((N.block _ e9).trans e2.out)
  have n6:w.heap.size<w1.heap.size:=by omega
  clear a2 N g6 k0 k1 k2 k3 k4 d9 HI HG
  go_wp2_with fail
  refine f5.out.mono ?_
  intro e w2 d
  obtain⟨d6,d⟩:=d
  have b4:Hid (Below l.heap.size l w2):=i4.out.trans (d6.mono h8)
  have h9:=b4.out.size
  cases b0:Tp.twP tl 0 with
  |some er =>
   rw[b0]at d
   have b8:Hid (s=some (er.1,some er.2)):=by unfold Hid;rw[b7.out,b0];rfl
   obtain⟨r,q1,rfl,U,V⟩:=d.out
   have Q2:=zh U
   have Q3:=zh V
   clear b0 d U V d6
   go_wp2_with fail
   exact jt (eb:=w.heap.size+1) rfl rfl (a8.out w2 b4.out) (c8.out w2 er r b4.out (by omega) Q2.out Q3.out b8.out)
  |none =>
   rw[b0]at d
   obtain⟨Q,f8,rfl,m8,_,g2⟩:=d
   have c9:=zh g2
   have f1:=zh (f6.out.on d6)
   have b8:Hid (s=Tp.up (((List.range pn).findSome? fun i=>(Tp.twP (ol i) 0).or (sr i)).or br)):=by unfold Hid;rw[b7.out,b0];rfl
   obtain⟨j0,j1,j2,j3,j4⟩:=yd ((b4.out.block _ e9).trans e2.out)
   have n7:w.heap.size<w2.heap.size:=by omega
   clear b0 d6 g2 l0 l1 l2 l3 l4 f6 b7 f5
   go_wp2_with fail
   go_loopg [18] pn (fun k vi wr=>∃i:Nat,i<=pn/\k=pn-i/\vi=.int .i64 (i:Int)/\Hid (Below w2.heap.size w2 wr)/\Hid (∀j,j<i->(Tp.twP (ol j) 0).or (sr j)=none))
   case atStart=>exact⟨0,by omega,by omega,rfl,Below.refl _ _,fun j hj=>absurd hj (by omega)⟩
   case round =>
    obtain⟨i,o0,hk,rfl,HB,HN⟩:=hrel
    have i3:=HB.out.size
    have M:Hid (Below l.heap.size l wr):=b4.out.trans (HB.out.mono h9)
    by_cases e8:i<pn
    ·have h7:(i:Int)<(pn:Int):=by omega
     obtain⟨g,X,x1,x2,Y,Z,I,R,T,H,c3,P,G,m4,m5,d0,d1,d2,d3,d4,d5,g5,g7⟩:=HP.out i e8
     subst m4
     have d7:Below w.heap.size w wr:=a3.out.trans (M.out.mono (by omega))
     have a0:∀(o:Nat) (u:Value),w.cell? ⟨g,o,none⟩=some u->wr.cell? ⟨g,o,none⟩=some u:=fun o u h=>(d7.cell (p:=⟨g,o,none⟩) m5).trans h
     have o3:=a0 _ _ d0
     have o4:=a0 _ _ d1
     have o5:=a0 _ _ d2
     have o6:=a0 _ _ d3
     have o7:=a0 _ _ d4
     have o8:=a0 _ _ d5
     have m9:g<wr.heap.size:=by have:=d7.size;omega
     have m0:=zh g5
     have m2:=zh g7
     have f3:=zh d7
     clear d0 d1 d2 d3 d4 d5 a0 g5 g7 d7
     obtain⟨t,c6⟩:∃t,t=wr.alloc (.cells #[.string (bs X),.int .i64 (x1:Int),.bool x2,.slice Y R c3,.slice Z T P,.slice I H G] 65):=⟨_,rfl⟩
     have f9:Below wr.heap.size wr t:=by rw[c6];exact zb _ _
     have g3:t.heap[wr.heap.size]?=some (.cells #[.string (bs X),.int .i64 (x1:Int),.bool x2,.slice Y R c3,.slice Z T P,.slice I H G] 65 (0,0)):=by rw[c6];exact zo _ _
     have m6:wr.heap.size<t.heap.size:=by rw[c6];simp
     have B:Hid (∀W,Below t.heap.size t W->W.cell? ⟨wr.heap.size,0,none⟩=some (.string (bs X))/\W.cell? ⟨wr.heap.size,1,none⟩=some (.int .i64 (x1:Int))/\W.cell? ⟨wr.heap.size,2,none⟩=some (.bool x2)/\W.cell? ⟨wr.heap.size,3,none⟩=some (.slice Y R c3)/\W.cell? ⟨wr.heap.size,4,none⟩=some (.slice Z T P)/\W.cell? ⟨wr.heap.size,5,none⟩=some (.slice I H G)):=fun W z=>yP ((z.block _ m6).trans g3)
     have b5:=zh f9
     clear g3 f9
     go_upto_region 7 with fail
     rw[<-c6]
     clear c6
     refine wp_region_held_drew (S:=fun W=>W.cell? ⟨wr.heap.size,0,none⟩=some (.string (bs X))/\W.cell? ⟨wr.heap.size,1,none⟩=some (.int .i64 (x1:Int))/\W.cell? ⟨wr.heap.size,2,none⟩=some (.bool x2)/\W.cell? ⟨wr.heap.size,3,none⟩=some (.slice Y R c3)/\W.cell? ⟨wr.heap.size,4,none⟩=some (.slice Z T P)/\W.cell? ⟨wr.heap.size,5,none⟩=some (.slice I H G)) (by kernel_rfl) (B.out _ ((Below.refl _ _).drew)) (fun n=>?_)
     refine wpAnyH_take (i:=0) (v:=.pointer (some ⟨wr.heap.size,5,none⟩)) rfl (by kernel_rfl) (by kernel_rfl) (by kernel_rfl) (fun c a w h=>kO (by decide) _ c a w h) (Or.inl ⟨by rfl,fun W z=>by go_simp⟩) n ?_
     go_frame
     refine wpAnyH_take (i:=1) (v:=.slice I H G) rfl (by kernel_rfl) (by kernel_rfl) (by kernel_rfl) (fun c a w h=>kO (by decide) _ c a w h) (Or.inl ⟨by rfl,fun W z=>by go_simp⟩) n ?_
     go_frame
     refine wpAnyH_take (i:=2) (v:=.map (some ob)) rfl (by kernel_rfl) (by kernel_rfl) (by kernel_rfl) (fun c a w h=>kO (by decide) _ c a w h) (Or.inl ⟨by rfl,fun W z=>by go_simp⟩) n ?_
     go_frame
     refine wpAnyH_take (i:=3) (v:=.agg #[.string (bs X),.int .i64 (x1:Int),.bool x2,.slice Y R c3,.slice Z T P,.slice I H G]) rfl (by kernel_rfl) (by kernel_rfl) (by kernel_rfl) (fun c a w h=>kO (by decide) _ c a w h) (Or.inl ⟨by rfl,fun W z=>by go_simp⟩) n ?_
     go_frame
     refine wpAnyH_take (i:=5) (v:=.map (some Q)) rfl (by kernel_rfl) (by kernel_rfl) (by kernel_rfl) (fun c a w h=>kO (by decide) _ c a w h) (Or.inl ⟨by rfl,fun W z=>by go_simp⟩) n ?_
     go_frame
     refine wpAnyH_ready (rs:=[4]) (by kernel_rfl) (by simp) ?_
     refine AllReadyH.cons rfl (fun K m=>?_) AllReadyH.nil
     go_simp
     have i7:Hid (Below w.heap.size w t.drew):=(f3.out.trans (b5.out.mono f3.out.size)).trans ((Below.refl _ _).drew)
     refine(m0.out _ i7.out).mono ?_
     intro e x d
     obtain⟨g0,d⟩:=d
     have b3:Below t.heap.size t x:=((Below.refl _ _).drew).trans g0
     have a7:Hid (Below l.heap.size l x):=(M.out.trans (b5.out.mono M.out.size)).trans (b3.mono (by have:=b5.out.size;have:=M.out.size;omega))
     have i1:wr.heap.size<=t.heap.size:=b5.out.size
     have i2:t.heap.size<=x.heap.size:=b3.size
     cases c2:Tp.twP (ol i) 0 with
     |some er =>
      rw[c2]at d
      have a9:Hid (s=some (er.1,some er.2)):=by
       unfold Hid
       rw[b8.out,zO (f:=fun i=>(Tp.twP (ol i) 0).or (sr i)) e8 HN.out (show (Tp.twP (ol i) 0).or (sr i)=some er by rw[c2];rfl)]
       rfl
      obtain⟨r,q1,rfl,U,V⟩:=d.out
      have m3:l.heap.size<=r:=by have:t.drew.heap.size=t.heap.size:=rfl;have:=M.out.size;omega
      exact jt (eb:=w.heap.size+1) rfl rfl (a8.out x a7.out) (c8.out x er r a7.out m3 U V a9.out)
     |none =>
      rw[c2]at d
      obtain⟨lb,ln,rfl,_,_,g4⟩:=d
      have i9:=zh g4
      have f7:=zh c2
      have c7:Hid (Below w2.heap.size w2 x):=HB.out.trans ((b5.out.trans (b3.mono i1)).mono i3)
      have e4:=zh b3
      clear g4 c2 g0 b3
      go_frame
      refine m.out _ _ (B.out _ e4.out) (fun n=>?_)
      clear m
      refine wpAnyH_ready (rs:=[6]) (by kernel_rfl) (by simp) ?_
      refine AllReadyH.cons rfl (fun K m=>?_) AllReadyH.nil
      go_simp
      refine m.out _ _ (B.out _ (e4.out.alloc (by omega) _)) (fun n=>?_)
      clear m K
      refine wpAnyH_ready (rs:=[7]) (by kernel_rfl) (by simp) ?_
      refine AllReadyH.cons rfl (fun K m=>?_) AllReadyH.nil
      go_simp
      have b6:=zh (fnd_new (w:=x) (fs:=[Tp.lkT (ol i),Tp.lkT tl]) (vs:=[.map (some lb),.map (some Q)]) (c:=2) (t1:=142) (t2:=90) (t3:=199) (f1.out.on c7.out) rfl (fun j hj=>by
       match j,hj with
       | 0,_=>exact⟨lb,ln,rfl,i9.out⟩
       | 1,_=>exact⟨Q,f8,rfl,c9.out.on (c7.out.block _ c9.out.lt)⟩))
      refine(xB _ (.map (some ob)) (.slice (some ⟨x.heap.size,0,none⟩) 2 2) ⟨_,rfl⟩ ⟨_,_,_,rfl⟩).mono ?_
      rintro e A⟨rfl,a6⟩
      have C:Below x.heap.size x A:=by rw[a6];exact((zb _ _).alloc (by simp) _).alloc (by simp;omega) _
      have c0:Fnd A (x.heap.size+1) (fun k=>if k∈is then Sn k else none) [Tp.lkT (ol i),Tp.lkT tl]:=by rw[a6];exact b6.out
      have g8:=C.size
      have e0:(x.alloc (.cells #[.map (some lb),.map (some Q)] 142)).heap.size=x.heap.size+1:=by simp
      rw[e0]
      have e1:Hid (Below w.heap.size w A):=(a3.out.trans (a7.out.mono (by omega))).trans (C.mono (by have:=a7.out.size;omega))
      have L:Hid (Below l.heap.size l A):=a7.out.trans (C.mono a7.out.size)
      have a5:=zh (e4.out.trans (C.mono i2))
      have f0:Hid (Below w2.heap.size w2 A):=c7.out.trans (C.mono c7.out.size)
      have a4:=zh (m2.out A (x.heap.size+1) e1.out c0)
      clear a6 c0 C b6
      simp only[finderV]at a4 ⊢
      try go_frame
      refine m.out _ _ (B.out _ a5.out) (fun n=>?_)
      clear m K
      refine wpAnyH_ready (rs:=[8]) (by kernel_rfl) (by simp) ?_
      refine AllReadyH.cons rfl (fun K m=>?_) AllReadyH.nil
      go_simp
      refine a4.out.mono ?_
      intro e y d
      obtain⟨O,d⟩:=d
      have a1:Hid (Below l.heap.size l y):=L.out.trans (O.mono L.out.size)
      have g9:=L.out.size
      cases c1:sr i with
      |some er =>
       rw[c1]at d
       have a9:Hid (s=some (er.1,some er.2)):=by
        unfold Hid
        rw[b8.out,zO (f:=fun i=>(Tp.twP (ol i) 0).or (sr i)) e8 HN.out (show (Tp.twP (ol i) 0).or (sr i)=some er by rw[f7.out,c1];rfl)]
        rfl
       obtain⟨r,q1,rfl,U,V⟩:=d.out
       exact jt (eb:=w.heap.size+1) rfl rfl (a8.out y a1.out) (c8.out y er r a1.out (by omega) U V a9.out)
      |none =>
       rw[c1]at d
       simp only at d
       subst d
       have h0:Hid (Below w2.heap.size w2 y):=f0.out.trans (O.mono f0.out.size)
       have m1:Hid (∀j,j<i+1->(Tp.twP (ol j) 0).or (sr j)=none):=fun j hj=>by
        rcases Nat.lt_or_ge j i with q|q
        ·exact HN.out j q
        ·have:j=i:=by omega
         subst this
         rw[f7.out,c1]
         rfl
       have e5:=zh (a5.out.trans (O.mono a5.out.size))
       clear c1 O a4
       go_frame
       refine m.out _ _ (B.out _ e5.out) (fun n=>?_)
       clear m K
       refine wpAnyH_done (by kernel_rfl) ?_ _
       clear n
       go_wp2_with fail
       go_roundg (pn-(i+1))
       case measure=>omega
       case rel=>exact⟨i+1,by omega,rfl,by go_num,h0,m1⟩
    ·have h7:¬(i:Int)<(pn:Int):=by omega
     have f4:Hid ((List.range pn).findSome? (fun i=>(Tp.twP (ol i) 0).or (sr i))=none):=yq (fun j hj=>HN.out j (by omega))
     have a9:Hid (s=Tp.up br):=by unfold Hid;rw[b8.out,f4.out];rfl
     have i0:=M.out.size
     have B:Hid (∀W,Below wr.heap.size wr W->W.cell? ⟨w.heap.size,4,none⟩=some (.slice D F E)):=fun W z=>(yd ((z.block _ (by omega)).trans ((M.out.block _ e9).trans e2.out))).2.2.2.2
     have k4:=B.out wr (Below.refl _ _)
     have n8:w.heap.size<wr.heap.size:=by omega
     clear f4
     go_upto_region 9 with fail
     refine wp_region_held_drew (S:=fun W=>W.cell? ⟨w.heap.size,4,none⟩=some (.slice D F E)) (by kernel_rfl) (B.out _ ((Below.refl _ _).drew)) (fun n=>?_)
     refine wpAnyH_take (i:=0) (v:=.pointer (some ⟨w.heap.size,4,none⟩)) rfl (by kernel_rfl) (by kernel_rfl) (by kernel_rfl) (fun c a w h=>kO (by decide) _ c a w h) (Or.inl ⟨by rfl,fun W z=>by go_simp⟩) n ?_
     go_frame
     refine wpAnyH_take (i:=1) (v:=.slice D F E) rfl (by kernel_rfl) (by kernel_rfl) (by kernel_rfl) (fun c a w h=>kO (by decide) _ c a w h) (Or.inl ⟨by rfl,fun W z=>by go_simp⟩) n ?_
     go_frame
     refine wpAnyH_take (i:=2) (v:=.map (some ob)) rfl (by kernel_rfl) (by kernel_rfl) (by kernel_rfl) (fun c a w h=>kO (by decide) _ c a w h) (Or.inl ⟨by rfl,fun W z=>by go_simp⟩) n ?_
     go_frame
     refine wpAnyH_take (i:=3) (v:=.map (some Q)) rfl (by kernel_rfl) (by kernel_rfl) (by kernel_rfl) (fun c a w h=>kO (by decide) _ c a w h) (Or.inl ⟨by rfl,fun W z=>by go_simp⟩) n ?_
     go_frame
     refine wpAnyH_ready (rs:=[4]) (by kernel_rfl) (by simp) ?_
     refine AllReadyH.cons rfl (fun K m=>?_) AllReadyH.nil
     go_simp
     refine m.out _ _ (B.out _ ((zb _ _).drew)) (fun n=>?_)
     clear m K
     refine wpAnyH_ready (rs:=[5]) (by kernel_rfl) (by simp) ?_
     refine AllReadyH.cons rfl (fun K m=>?_) AllReadyH.nil
     go_simp
     have b6:=zh (fnd_new (w:=wr.drew) (fs:=[Tp.lkT tl]) (vs:=[.map (some Q)]) (c:=1) (t1:=142) (t2:=90) (t3:=199) (f1.out.on (HB.out.trans ((Below.refl _ _).drew))) rfl (fun j hj=>by
      match j,hj with
      | 0,_=>exact⟨Q,f8,rfl,c9.out.on (HB.out.block _ c9.out.lt)⟩))
     refine(xB _ (.map (some ob)) (.slice (some ⟨wr.heap.size,0,none⟩) 1 1) ⟨_,rfl⟩ ⟨_,_,_,rfl⟩).mono ?_
     rintro e A⟨rfl,a6⟩
     have C:Below wr.heap.size wr A:=by rw[a6];exact(((zb _ _).drew).alloc (by simp) _).alloc (by simp;omega) _
     have c0:Fnd A (wr.heap.size+1) (fun k=>if k∈is then Sn k else none) [Tp.lkT tl]:=by rw[a6];exact b6.out
     have g8:=C.size
     have e0:(wr.alloc (.cells #[.map (some Q)] 142)).drew.heap.size=wr.heap.size+1:=by simp
     rw[e0]
     have L:Hid (Below l.heap.size l A):=M.out.trans (C.mono i0)
     have e1:Hid (Below w.heap.size w A):=a3.out.trans (L.out.mono (by omega))
     have a5:=zh C
     have a4:=zh (i5.out A (wr.heap.size+1) e1.out c0)
     clear a6 c0 C b6
     simp only[finderV]at a4 ⊢
     try go_frame
     refine m.out _ _ (B.out _ a5.out) (fun n=>?_)
     clear m K
     refine wpAnyH_ready (rs:=[6]) (by kernel_rfl) (by simp) ?_
     refine AllReadyH.cons rfl (fun K m=>?_) AllReadyH.nil
     go_simp
     refine a4.out.mono ?_
     intro e y d
     obtain⟨O,d⟩:=d
     have a1:Hid (Below l.heap.size l y):=L.out.trans (O.mono L.out.size)
     have g9:=L.out.size
     cases b9:br with
     |some er =>
      rw[b9]at d
      have e3:Hid (s=some (er.1,some er.2)):=by unfold Hid;rw[a9.out,b9];rfl
      obtain⟨r,q1,rfl,U,V⟩:=d.out
      exact jt (eb:=w.heap.size+1) rfl rfl (a8.out y a1.out) (c8.out y er r a1.out (by omega) U V e3.out)
     |none =>
      rw[b9]at d
      simp only at d
      subst d
      have e3:Hid (s=none):=by unfold Hid;rw[a9.out,b9];rfl
      have e5:=zh (a5.out.trans (O.mono a5.out.size))
      clear b9 O a4
      try go_frame
      refine m.out _ _ (B.out _ e5.out) (fun n=>?_)
      clear m K
      refine wpAnyH_done (by kernel_rfl) ?_ _
      clear n
      have he:=a8.out y a1.out
      have ke:y.cell? ⟨w.heap.size+1,0,none⟩=some .nilIface:=(za he).trans rfl
      have ze:y.frozen? ⟨w.heap.size+1,0,none⟩=false:=zi he
      have n0:w.heap.size+1<y.heap.size:=zf he
      have i8:=zh he
      clear he
      go_wp2_with fail
      obtain⟨wd,d8⟩:∃wd,wd=y.setCell ⟨w.heap.size+1,0,none⟩ .nilIface:=⟨_,rfl⟩
      rw[<-d8]
      have kd:wd.cell? ⟨w.heap.size+1,0,none⟩=some .nilIface:=by rw[d8];exact(za (zu 0 .nilIface i8.out)).trans rfl
      have h6:CheckP w s (.returned .nilIface) wd:=by
       refine⟨by rw[d8];exact zq (a3.out.trans (a1.out.mono (by omega))) (by omega) 0 _,?_⟩
       rw[e3.out]
      clear d8
      refine leaves_cons (f:=77) (args:=#[.pointer (some ⟨w.heap.size+1,0,none⟩)]) (by simp) (by simp[go_sem]) ?_
      refine(clate_idle ⟨w.heap.size+1,0,none⟩ wd).mono ?_
      rintro e u' o9⟨rfl,rfl,rfl⟩
      simp[Leaves,settle,results,Tryz.results37,go_sem,kd]
      exact h6
end Go.Proofs.YtibncofnnlbmcaaGreatDoor
