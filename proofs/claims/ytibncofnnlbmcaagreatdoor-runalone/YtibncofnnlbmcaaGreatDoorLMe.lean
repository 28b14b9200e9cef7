import Derived.Test.YtibncofnnlbmcaaGreatDoorLMd
import Derived.Defers
import Derived.Recover
import Derived.Maps.RangeWalk
set_option maxRecDepth 100000
set_option maxHeartbeats 4000000
namespace Go.Proofs.YtibncofnnlbmcaaGreatDoor
open Go.RowKit Go.Maps
open Tp (Bs Th Sy Seen X S)
theorem jv (x:S)(l:List S):Tp.rs (x :: l)=Tp.rs [x]++Tp.rs l:=by
 obtain⟨code,pos,nm,b,d,c,a⟩:=x
 simp[Tp.rs]
theorem rs_app (l m:List S):Tp.rs (l++m)=Tp.rs l++Tp.rs m:=by
 induction l with
 |nil=>simp[Tp.rs]
 |cons x l ih=>rw[List.cons_append,jv,ih,jv x l,List.append_assoc]
theorem rs_one (code pos:Nat)(nm:Bs)(a d:List X)(c b:List S):Tp.rs [⟨code,pos,nm,a,d,c,b⟩]=(if code=1 then [⟨if a.isEmpty then 2 else 3,pos,[],nm,0⟩] else [])++(Tp.rx a++(Tp.rx d++(Tp.rs c++Tp.rs b))):=by
 simp[Tp.rs]
theorem uS (J:Jd):∀(a:List S),(List.range a.length).findSome? (fun i=>(a[i]?).bind fun y=>(Tp.rs [y]).findSome? J)=(Tp.rs a).findSome? J:=by
 intro a
 induction a with
 |nil=>simp[Tp.rs]
 |cons x l ih =>
  rw[jv,List.findSome?_append,<-ih,List.length_cons,List.range_succ_eq_map,List.findSome?_cons,List.findSome?_map]
  have b:((fun i=>((x :: l)[i]?).bind fun y=>(Tp.rs [y]).findSome? J) ∘ Nat.succ)=fun i=>(l[i]?).bind fun y=>(Tp.rs [y]).findSome? J:=by
   funext i
   simp
  rw[b]
  simp only[List.getElem?_cons_zero,Option.bind_some]
  cases (Tp.rs [x]).findSome? J<;>rfl
theorem RepS.step {w w':World}{D:Nat->Prop}{l:List S}{cs:List Value}(h:RepS w D l cs)(k:Below w.heap.size w w'):RepS w' D l cs:=h.mono' (fun b c a=>⟨k.block b a,c⟩)
theorem OwnS.step {w w':World}{D:Nat->Prop}{v:Value}{n:Nat}{cs:List Value}(h:OwnS w D v n cs)(k:Below w.heap.size w w'):OwnS w' D v n cs:=h.mono (fun b c a=>⟨k.block b a,c⟩)
theorem RepS.get {w:World}{D:Nat->Prop}:∀(l:List S) (cs:List Value),RepS w D l cs->∀i (code pos:Nat) (nm:Bs) (g k:List X) (d c:List S),l[i]?=some ⟨code,pos,nm,g,k,d,c⟩->∃(b ev:Value) (a vs f e:List Value),
  (∀j,j<7->cs[i*7+j]?=[.int .i64 (code:Int),.int .i64 (pos:Int),.string (bs nm),a.headD (.pointer none),vs.headD (.pointer none),b,ev][j]?)/\RepL w D g a/\a.length<=1/\RepL w D k vs/\vs.length<=1/\RepS w D d f/\OwnS w D b d.length f/\RepS w D c e/\OwnS w D ev c.length e:=by
 intro l
 induction l with
 |nil=>intro cs _ i _ _ _ _ _ _ _ h;simp at h
 |cons x l ih =>
  intro cs h i code pos nm g k d c n
  obtain⟨o,r,t,N,P,O,Q⟩:=x
  rw[RepS]at h
  obtain⟨b,ev,a,vs,f,e,v,C,K,G,J,H,M,I,F,E,A⟩:=h
  subst C
  cases i with
  |zero =>
   simp only[List.getElem?_cons_zero,Option.some.injEq,S.mk.injEq]at n
   obtain⟨rfl,rfl,rfl,rfl,rfl,rfl,rfl⟩:=n
   refine⟨b,ev,a,vs,f,e,fun j m=>?_,K,G,J,H,M,I,F,E⟩
   rw[Nat.zero_mul,Nat.zero_add,List.getElem?_append_left (by simpa using m)]
  |succ i =>
   obtain⟨s,z,y,u,p,q,B,L⟩:=ih v A i code pos nm g k d c (by simpa using n)
   refine⟨s,z,y,u,p,q,fun j m=>?_,L⟩
   rw[List.getElem?_append_right (by simp;omega)]
   have:(i+1)*7+j-[Value.int .i64 (o:Int),.int .i64 (r:Int),.string (bs t),a.headD (.pointer none),vs.headD (.pointer none),b,ev].length=i*7+j:=by simp;omega
   rw[this,B j m]
theorem part_ask {d w:World}{b:Nat}{Sn:Seen}{fs:Near}(n:Fnd d b Sn fs)(k:fs.length<=1000)(h:Below d.heap.size d w){D:Nat->Prop}(l:List X)(vs:List Value)(m:Sm (Tp.rx l))(c:RepL w D l vs)(j:vs.length<=1) :
  (∃a,vs.headD (.pointer none)=.pointer a/\(a=none↔l.isEmpty=true))/\AskX w b (vs.headD (.pointer none)) ((Tp.rx l).findSome? (Tp.judgeP (Tp.standV Sn fs))):=by
 have f:=RepL.len _ _ c
 match l,vs,c with
 |[],vs,c =>
  rw[RepL]at c
  subst c
  refine⟨⟨none,rfl,by simp⟩,fun W e=>?_⟩
  have:(Tp.rx []).findSome? (Tp.judgeP (Tp.standV Sn fs))=none:=by simp[Tp.rx]
  rw[this]
  exact kO W b
 |[y],vs,c =>
  obtain⟨i,g,p⟩:=RepL.get _ _ c 0 (by simp)
  have o:vs=[.pointer (some ⟨i,0,none⟩)]:=by
   match vs,j,f with
   |[v],_,_=>simp at g;rw[g]
  subst o
  refine⟨⟨_,rfl,by simp⟩,fun W e=>?_⟩
  exact xP n k _ y zn m W D i (h.trans (e.mono h.size)) (c.step e)
 |y :: z :: t,vs,c=>simp at f;omega
theorem kj {I:World}{b:Nat}{Sn:Seen}{fs:Near}(K:Fnd I b Sn fs)(H:fs.length<=1000):∀(n:Nat) (l:List S),SizeOf.sizeOf l<=n->Sm (Tp.rs l)->∀(w:World) (D:Nat->Prop) (v:Value) (cs:List Value),Below I.heap.size I w->RepS w D l cs->OwnS w D v l.length cs ->
  Calls Tryz.prog 81 #[v,finderV b] w (CkP w ((Tp.rs l).findSome? (Tp.judgeP (Tp.standV Sn fs)))):=by
 intro n
 induction n with
 |zero=>intro l R;cases l<;>simp at R<;>omega
 |succ n ih =>
  intro l R B w D v cs u Y Z
  rw[<-uS]
  have a0:∃a c,v=.slice a l.length c/\l.length<=9223372036854775807/\∀i,i<l.length->∃g,a=some ⟨g,0,none⟩/\g<w.heap.size/\∀j,j<7->w.cell? ⟨g,i*7+j,none⟩=cs[i*7+j]?:=by
   rcases Z with⟨p,G⟩|⟨g,cap,cur,p,G,F,Q,U,T,C⟩
   ·exact⟨none,0,by rw[G];exact p,by omega,fun i y=>by omega⟩
   ·refine⟨_,cap,p,?_,fun i y=>⟨g,rfl,zf F,fun j J=>?_⟩⟩
    ·have:maxLen=9223372036854775807:=rfl
     omega
    ·rw[za F,<-Array.getElem?_toList,<-C,List.getElem?_take_of_lt (by omega)]
  obtain⟨a,c,rfl,a1,X⟩:=a0
  refine jJ (fun i y=>?_) a1
  rcases hx:l[i] with⟨code,pos,nm,d,z,o,m⟩
  have P:l[i]?=some ⟨code,pos,nm,d,z,o,m⟩:=by rw[List.getElem?_eq_getElem y,hx]
  obtain⟨tv,ev,ls,vs,a4,a2,p,G,F,Q,U,T,C,q8,V⟩:=RepS.get _ _ Y i code pos nm d z o m P
  obtain⟨g,g1,g2,g3⟩:=X i y
  have A:∀r∈Tp.rs [(⟨code,pos,nm,d,z,o,m⟩:S)],r∈Tp.rs l:=by
   intro r k
   have e:l=l.take i++l[i] :: l.drop (i+1):=by rw[<-List.drop_eq_getElem_cons y,List.take_append_drop]
   rw[e,rs_app,jv,hx]
   simp[k]
  have x:=rs_one code pos nm d z o m
  have O:SizeOf.sizeOf l[i]<SizeOf.sizeOf l:=List.sizeOf_lt_of_mem (List.getElem_mem y)
  rw[hx]at O
  simp at O
  have s1:Sm (Tp.rx d):=B.sub fun r k=>A r (by rw[x];simp[k])
  have s2:Sm (Tp.rx z):=B.sub fun r k=>A r (by rw[x];simp[k])
  have s3:Sm (Tp.rs o):=B.sub fun r k=>A r (by rw[x];simp[k])
  have s4:Sm (Tp.rs m):=B.sub fun r k=>A r (by rw[x];simp[k])
  obtain⟨⟨iv,a3,L⟩,N⟩:=part_ask K H u d ls s1 G F
  obtain⟨⟨vv,a5,_⟩,M⟩:=part_ask K H u z vs s2 Q U
  obtain⟨ta,tc,rfl⟩:=C.shape
  obtain⟨ea,ec,rfl⟩:=V.shape
  rw[a3]at N p
  rw[a5]at M p
  have t:=fun j (J:j<7)=>(g3 j J).trans (p j J)
  refine⟨g,code,pos,bs nm,iv,vv,ta,ea,o.length,tc,m.length,ec,if code=1 then Tp.judgeP (Tp.standV Sn fs) ⟨if d.isEmpty then 2 else 3,pos,[],nm,0⟩ else none,_,_,(Tp.rs o).findSome? (Tp.judgeP (Tp.standV Sn fs)),(Tp.rs m).findSome? (Tp.judgeP (Tp.standV Sn fs)),g1,g2,t 0 (by omega),t 1 (by omega),t 2 (by omega),t 3 (by omega),t 4 (by omega),t 5 (by omega),t 6 (by omega),?_,fun h=>if_neg h,N,M,fun W f=>?_,fun W f=>?_,?_⟩
  ·intro s W f
   rw[if_pos s]
   have hm:=B ⟨if d.isEmpty then 2 else 3,pos,[],nm,0⟩ (A _ (by rw[x,if_pos s];simp))
   have:=jK (code:=code) (pos:=pos) (nm:=nm) (iv:=iv) (vv:=vv) (ta:=ta) (ea:=ea) (tn:=o.length) (tc:=tc) (en:=m.length) (ec:=ec) ((K.on u).on (f)) H hm.2
   have e:(if iv=none then 2 else 3)=(if d.isEmpty=true then 2 else 3):=by
    by_cases E:iv=none
    ·rw[if_pos E,if_pos (L.1 E)]
    ·rw[if_neg E,if_neg (fun q=>E (L.2 q))]
   rw[e]at this
   exact this
  ·exact ih o (by omega) s3 W D _ a4 (u.trans (f.mono u.size)) (T.step f) (C.step f)
  ·exact ih m (by omega) s4 W D _ a2 (u.trans (f.mono u.size)) (q8.step f) (V.step f)
  ·rw[P,Option.bind_some,x,List.findSome?_append,List.findSome?_append,List.findSome?_append,List.findSome?_append]
   congr 1
   by_cases s:code=1
   ·rw[if_pos s,if_pos s,List.findSome?_cons]
    cases Tp.judgeP (Tp.standV Sn fs) ⟨if d.isEmpty=true then 2 else 3,pos,[],nm,0⟩<;>rfl
   ·rw[if_neg s,if_neg s];rfl
end Go.Proofs.YtibncofnnlbmcaaGreatDoor
namespace Go.Proofs.YtibncofnnlbmcaaGreatDoor
open Go.RowKit
theorem ccaught_at (a:Option Addr)(w:World) :
  Calls Tryz.prog 78 #[.iface 117 (.pointer a)] w fun e w'=>e=.returned (.iface 117 (.pointer a))/\w'=w:=by
 have b:∀(a:Option Addr) (w:World),(Instr.typeAssert (.iface 117 (.pointer a)) 20 117 true).run Tryz.prog w=.ok (.tuple #[.pointer a,.bool true]) w:=fun a w=>by kernel_rfl
 go_enter Tryz.func78,Tryz.ntmps78
 go_wp2
 go_ret
 exact⟨rfl,rfl⟩
theorem ccaught_en (n:Int)(w:World) :
  Calls Tryz.prog 78 #[.iface 44 (.int .i64 n)] w fun e w'=>e=.returned (.iface 44 (.int .i64 n))/\w'=w:=by
 have b:∀(n:Int) (w:World),(Instr.typeAssert (.iface 44 (.int .i64 n)) 20 117 true).run Tryz.prog w=.ok (.tuple #[.pointer none,.bool false]) w:=fun a w=>by kernel_rfl
 have c:∀(n:Int) (w:World),(Instr.typeAssert (.iface 44 (.int .i64 n)) 20 44 true).run Tryz.prog w=.ok (.tuple #[.int .i64 n,.bool true]) w:=fun a w=>by kernel_rfl
 go_enter Tryz.func78,Tryz.ntmps78
 go_wp2
 go_ret
 exact⟨rfl,rfl⟩
theorem clate_at (eb a:Nat)(older:List PanicEntry)(w:World){b:Value}(j:w.cell? ⟨eb,0,none⟩=some b)(i:w.frozen? ⟨eb,0,none⟩=false) :
  CallsD Tryz.prog 77 #[.pointer (some ⟨eb,0,none⟩)] (.panicking ({ v:=.iface 117 (.pointer (some ⟨a,0,none⟩)),recovered:=false } :: older)) w fun e c w' =>
   e=.returned (.tuple #[])/\c=.panicking ({ v:=.iface 117 (.pointer (some ⟨a,0,none⟩)),recovered:=true } :: older)/\w'=w.setCell ⟨eb,0,none⟩ (.iface 117 (.pointer (some ⟨a,0,none⟩))):=by
 refine callsD_of_wpS Tryz.func77 rfl fun h cs g=>?_
 apply wpS_seq
 apply wpS_region
 simp[wpOpsS,go_sem,recoverD,g,Tryz.ntmps77,Exit.thenS]
 refine wpS_of_wp ?_
 generalize f:(fun (e:Exit) (d:Act) (w':World)=>bodyPostS Tryz.prog _ _ _ _ e d _ w')=Q
 show Code.wp Tryz.prog _ _ { tmps:=#[.pointer (some ⟨eb,0,none⟩),.iface 117 (.pointer (some ⟨a,0,none⟩)),.iface 117 (.pointer (some ⟨a,0,none⟩)),undef,undef,undef,undef],defers:=[] } w
 go_wp2_with fail
 refine(ccaught_at _ w).mono ?_
 rintro e w'⟨rfl,rfl⟩
 go_wp2_with fail
 subst f
 simp[bodyPostS,results,Tryz.results77]
theorem clate_en (eb:Nat)(n:Int)(older:List PanicEntry)(w:World){a:Value}(i:w.cell? ⟨eb,0,none⟩=some a)(h:w.frozen? ⟨eb,0,none⟩=false) :
  CallsD Tryz.prog 77 #[.pointer (some ⟨eb,0,none⟩)] (.panicking ({ v:=.iface 44 (.int .i64 n),recovered:=false } :: older)) w fun e b w' =>
   e=.returned (.tuple #[])/\b=.panicking ({ v:=.iface 44 (.int .i64 n),recovered:=true } :: older)/\w'=w.setCell ⟨eb,0,none⟩ (.iface 44 (.int .i64 n)):=by
 refine callsD_of_wpS Tryz.func77 rfl fun g cs f=>?_
 apply wpS_seq
 apply wpS_region
 simp[wpOpsS,go_sem,recoverD,f,Tryz.ntmps77,Exit.thenS]
 refine wpS_of_wp ?_
 generalize d:(fun (e:Exit) (c:Act) (w':World)=>bodyPostS Tryz.prog _ _ _ _ e c _ w')=Q
 show Code.wp Tryz.prog _ _ { tmps:=#[.pointer (some ⟨eb,0,none⟩),.iface 44 (.int .i64 n),.iface 44 (.int .i64 n),undef,undef,undef,undef],defers:=[] } w
 go_wp2_with fail
 refine(ccaught_en _ w).mono ?_
 rintro e w'⟨rfl,rfl⟩
 go_wp2_with fail
 subst d
 simp[bodyPostS,results,Tryz.results77]
theorem clate_idle (e:Addr)(w:World) :
  CallsD Tryz.prog 77 #[.pointer (some e)] .returning w fun e a w'=>e=.returned (.tuple #[])/\a=.returning/\w'=w:=by
 refine callsD_of_wpS Tryz.func77 rfl fun c cs f=>?_
 apply wpS_seq
 apply wpS_region
 simp[wpOpsS,go_sem,recoverD,f,Tryz.ntmps77,Exit.thenS]
 refine wpS_of_wp ?_
 generalize d:(fun (e:Exit) (b:Act) (w':World)=>bodyPostS Tryz.prog _ _ _ _ e b _ w')=Q
 show Code.wp Tryz.prog _ _ { tmps:=#[.pointer (some e),.nilIface,.nilIface,undef,undef,undef,undef],defers:=[] } w
 go_wp2_with fail
 subst d
 cases c
 simp_all [bodyPostS,results,Tryz.results77]
end Go.Proofs.YtibncofnnlbmcaaGreatDoor
namespace Go.Proofs.YtibncofnnlbmcaaGreatDoor
open Go.RowKit
open Tp (Bs Th Sy Seen X S)
def CheckP (w:World) (res:Tp.Ck) (e:Ending) (w':World):Prop:=Below w.heap.size w w'/\match res with
 |none=>e=.returned .nilIface
 |some (en,none)=>e=.returned (.iface 44 (.int .i64 (en:Int)))
 |some (en,some pl)=>∃ab,e=.returned (.iface 117 (.pointer (some ⟨ab,0,none⟩)))/\w.heap.size<=ab/\w'.cell? ⟨ab,0,none⟩=some (.int .i64 (en:Int))/\w'.cell? ⟨ab,1,none⟩=some (.int .i64 (pl:Int))
theorem kB {P:Program}{g:Func}{t1 t2:Array Value}{R:Ending->World->Prop}(h:∀w v,(results g t1).run P w=.ok v w->(results g t2).run P w=.ok v w):∀(b:List Deferred) (u:FrameMode) (w:World),Leaves P g t1 R b u w->Leaves P g t2 R b u w:=by
 intro b
 induction b with
 |nil =>
  intro u w a
  cases u with
  |returning=>obtain⟨v,k,i⟩:=a;exact⟨v,h w v k,i⟩
  |panicking c=>exact a
  |run=>exact a
 |cons d b ih =>
  intro u w a
  unfold Leaves at a ⊢
  obtain⟨k,l,cap,f,args,i,m,n⟩:=a
  refine⟨k,l,cap,f,args,i,m,CallsD.mono n ?_⟩
  intro e o w' j
  cases e with
  |returned v=>exact ih _ _ j
  |panicked c=>exact ih _ _ j
  |outgrown=>exact j
theorem jH {t1 t2:Array Value}(h:t1[4]?=t2[4]?):results Tryz.f37 t1=results Tryz.f37 t2:=by
 simp[results,Tryz.results37,h]
theorem kJ {R:Ending->World->Prop}{d:Nat}(hd:d≠4)(v:Value)(c:List PanicEntry)(a:Act)(w:World)(h:bodyPostD Tryz.prog Tryz.f37 R (.panic c) (a.put (some d) v) w):bodyPostD Tryz.prog Tryz.f37 R (.panic c) a w:=by
 unfold bodyPostD at h ⊢
 refine kB (fun w u b=>?_) _ _ _ h
 rw[<-b]
 rw[jH]
 show a.tmps[4]?=(a.tmps.setIfInBounds d v)[4]?
 rw[Array.getElem?_setIfInBounds_ne hd]
def dfr (eb:Nat):List Deferred:=[{ target:=Target.fn (Fn.func 77) #[.pointer (some ⟨eb,0,none⟩)],args:=#[] }]
theorem jn {w c:World}{d:Tp.Ck}{eb b:Nat}{a:Act}(l:a.tmps[4]?=some (.pointer (some ⟨eb,0,none⟩)))(hd:a.defers=dfr eb)(g:c.heap[eb]?=some (.cells #[.nilIface] 38 (0,0)))
  (i:CheckP w d (.returned (.iface 117 (.pointer (some ⟨b,0,none⟩)))) (c.setCell ⟨eb,0,none⟩ (.iface 117 (.pointer (some ⟨b,0,none⟩))))) :
  bodyPostD Tryz.prog Tryz.f37 (CheckP w d) (.panic [{ v:=.iface 117 (.pointer (some ⟨b,0,none⟩)),recovered:=false }]) a c:=by
 show Leaves Tryz.prog Tryz.f37 a.tmps (CheckP w d) a.defers (.panicking _) c
 rw[hd]
 unfold dfr
 refine leaves_cons (f:=77) (args:=#[.pointer (some ⟨eb,0,none⟩)]) (by simp) (by simp[go_sem]) ?_
 refine(clate_at eb b [] c ((za g).trans rfl) (zi g)).mono ?_
 rintro e n j⟨rfl,rfl,h⟩
 have k:j.cell? ⟨eb,0,none⟩=some (.iface 117 (.pointer (some ⟨b,0,none⟩))):=by rw[h];exact(za (zu 0 _ g)).trans rfl
 rw[<-h]at i
 refine kB (t1:=#[undef,undef,undef,undef,.pointer (some ⟨eb,0,none⟩)]) (fun w u m=>by rw[<-m];rw[jH];rw[l];rfl) _ _ _ ?_
 simp[Leaves,settle,results,Tryz.results37,go_sem,k]
 exact i
theorem cdies_en {w b:World}{c:Tp.Ck}{eb:Nat}{n:Int}{a:Act}(j:a.tmps[4]?=some (.pointer (some ⟨eb,0,none⟩)))(hd:a.defers=dfr eb)(d:b.heap[eb]?=some (.cells #[.nilIface] 38 (0,0)))
  (h:CheckP w c (.returned (.iface 44 (.int .i64 n))) (b.setCell ⟨eb,0,none⟩ (.iface 44 (.int .i64 n)))) :
  bodyPostD Tryz.prog Tryz.f37 (CheckP w c) (.panic [{ v:=.iface 44 (.int .i64 n),recovered:=false }]) a b:=by
 show Leaves Tryz.prog Tryz.f37 a.tmps (CheckP w c) a.defers (.panicking _) b
 rw[hd]
 unfold dfr
 refine leaves_cons (f:=77) (args:=#[.pointer (some ⟨eb,0,none⟩)]) (by simp) (by simp[go_sem]) ?_
 refine(clate_en eb n [] b ((za d).trans rfl) (zi d)).mono ?_
 rintro e m i⟨rfl,rfl,g⟩
 have k:i.cell? ⟨eb,0,none⟩=some (.iface 44 (.int .i64 n)):=by rw[g];exact(za (zu 0 _ d)).trans rfl
 rw[<-g]at h
 refine kB (t1:=#[undef,undef,undef,undef,.pointer (some ⟨eb,0,none⟩)]) (fun w u l=>by rw[<-l];rw[jH];rw[j];rfl) _ _ _ ?_
 simp[Leaves,settle,results,Tryz.results37,go_sem,k]
 exact h
theorem imps_at {own:Bs}{S:Seen}:∀{l a:List Bs}{er:Nat×Option Nat},Tp.imps own S a l=some er->er.2=none:=by
 intro l
 induction l with
 |nil=>intro a er h;simp[Tp.imps]at h
 |cons n t ih =>
  intro a er h
  rw[Tp.imps]at h
  split at h
  ·cases h;rfl
  ·split at h
   ·cases h;rfl
   ·exact ih h
theorem fnd_new {w:World}{ob n:Nat}{Sn:Seen}{fs:Near}{vs:List Value}{c:Nat}{t1 t2 t3:TypeId}(h:SeenM w ob n Sn)(_hl:vs.length=fs.length)(m:∀i (h:i<fs.length),∃a k,vs[i]?=some (.map (some a))/\MapV w a k (fun q=>(fs[i] q).map thV)) :
  Fnd (((w.alloc (.cells vs.toArray t1)).alloc (.cells #[.map (some ob)] t2)).alloc (.cells #[.slice (some ⟨w.heap.size,0,none⟩) fs.length c] t3)) (w.heap.size+1) Sn fs:=by
 have e:Below w.heap.size w (((w.alloc (.cells vs.toArray t1)).alloc (.cells #[.map (some ob)] t2)).alloc (.cells #[.slice (some ⟨w.heap.size,0,none⟩) fs.length c] t3)):=((zb _ _).alloc (by simp) _).alloc (by simp;omega) _
 have f:(((w.alloc (.cells vs.toArray t1)).alloc (.cells #[.map (some ob)] t2)).alloc (.cells #[.slice (some ⟨w.heap.size,0,none⟩) fs.length c] t3)).heap[w.heap.size]?=some (.cells vs.toArray t1 (0,0)):=((Below.heap_alloc _ _ _ (by simp;omega)).trans (Below.heap_alloc _ _ _ (by simp))).trans (zo _ _)
 have g:(((w.alloc (.cells vs.toArray t1)).alloc (.cells #[.map (some ob)] t2)).alloc (.cells #[.slice (some ⟨w.heap.size,0,none⟩) fs.length c] t3)).heap[w.heap.size+1]?=some (.cells #[.map (some ob)] t2 (0,0)):=(Below.heap_alloc _ _ _ (by simp)).trans (by simpa using zo (w.alloc (.cells vs.toArray t1)) (.cells #[.map (some ob)] t2))
 have d:(((w.alloc (.cells vs.toArray t1)).alloc (.cells #[.map (some ob)] t2)).alloc (.cells #[.slice (some ⟨w.heap.size,0,none⟩) fs.length c] t3)).heap[w.heap.size+1+1]?=some (.cells #[.slice (some ⟨w.heap.size,0,none⟩) fs.length c] t3 (0,0)):=by simpa using zo ((w.alloc (.cells vs.toArray t1)).alloc (.cells #[.map (some ob)] t2)) (.cells #[.slice (some ⟨w.heap.size,0,none⟩) fs.length c] t3)
 refine⟨⟨ob,n,(za g).trans rfl,h.on e⟩,⟨w.heap.size,c,(za d).trans rfl,⟨zf f,fun i l=>?_⟩⟩,zf d⟩
 obtain⟨a,k,j,b⟩:=m i l
 refine⟨a,k,?_,b.on (e.block _ b.lt)⟩
 rw[za f]
 simpa using j
theorem check_walk {w:World}{nm:Bs}{b1 gn pn F ic gc pc H:Nat}{ia ga pa G:Option Addr}{sv:Value}{is:List Bs}{Sn:Seen}{tl:List Th}{ol:Nat->List Th}{sr:Nat->Option (Nat×Nat)}{br:Option (Nat×Nat)}(m2:∃so,sv=.map so)
  (hI:∀W,Below w.heap.size w W->Calls Tryz.prog 79 #[.agg #[.string (bs nm),.slice ia b1 ic,.slice ga gn gc,.slice pa pn pc,.slice G F H],sv] W (ImpP W nm is Sn))
  (hG:∀W,Below w.heap.size w W->Calls Tryz.prog 80 #[.agg #[.string (bs nm),.slice ia b1 ic,.slice ga gn gc,.slice pa pn pc,.slice G F H]] W (MapP W tl))
  (hP:∀i,i<pn->∃(g:Nat) (Z:Bs) (x1:Nat) (x2:Bool) (R X I:Option Addr) (T U E c3 P D:Nat),pa=some ⟨g,0,none⟩/\g<w.heap.size/\w.cell? ⟨g,i*6,none⟩=some (.string (bs Z))/\w.cell? ⟨g,i*6+1,none⟩=some (.int .i64 (x1:Int))/\w.cell? ⟨g,i*6+2,none⟩=some (.bool x2)/\w.cell? ⟨g,i*6+3,none⟩=some (.slice R T c3)/\w.cell? ⟨g,i*6+4,none⟩=some (.slice X U P)/\w.cell? ⟨g,i*6+5,none⟩=some (.slice I E D) /\
   (∀W,Below w.heap.size w W->Calls Tryz.prog 83 #[.agg #[.string (bs Z),.int .i64 (x1:Int),.bool x2,.slice R T c3,.slice X U P,.slice I E D]] W (MapP W (ol i))) /\
   (∀W b,Below w.heap.size w W->Fnd W b (fun k=>if k∈is then Sn k else none) [Tp.lkT (ol i),Tp.lkT tl]->Calls Tryz.prog 81 #[.slice I E D,finderV b] W (CkP W (sr i))))
  (hB:∀W b,Below w.heap.size w W->Fnd W b (fun k=>if k∈is then Sn k else none) [Tp.lkT tl]->Calls Tryz.prog 81 #[.slice G F H,finderV b] W (CkP W br))(o8:pn<=1000)
  {s:Tp.Ck}(f0:s=(Tp.imps nm Sn [] is).or (Tp.up ((Tp.twP tl 0).or (((List.range pn).findSome? fun i=>(Tp.twP (ol i) 0).or (sr i)).or br)))) :
  Calls Tryz.prog 37 #[.agg #[.string (bs nm),.slice ia b1 ic,.slice ga gn gc,.slice pa pn pc,.slice G F H],sv] w (CheckP w s):=by
 have o1:=zm
 obtain⟨so,rfl⟩:=m2
 obtain⟨l,a8⟩:∃l,l=(w.alloc (.cells #[.string (bs nm),.slice ia b1 ic,.slice ga gn gc,.slice pa pn pc,.slice G F H] 36)).alloc (.cells #[.nilIface] 38):=⟨_,rfl⟩
 have e8:Below w.heap.size w l:=by rw[a8];exact(zb _ _).alloc (by simp) _
 have n0:l.heap.size=w.heap.size+2:=by rw[a8];simp
 have e1:l.heap[w.heap.size]?=some (.cells #[.string (bs nm),.slice ia b1 ic,.slice ga gn gc,.slice pa pn pc,.slice G F H] 36 (0,0)):=by rw[a8];exact(Below.heap_alloc _ _ _ (by simp)).trans (zo _ _)
 have g0:l.heap[w.heap.size+1]?=some (.cells #[.nilIface] 38 (0,0)):=by
  rw[a8]
  have:=zo (w.alloc (.cells #[.string (bs nm),.slice ia b1 ic,.slice ga gn gc,.slice pa pn pc,.slice G F H] 36)) (.cells #[.nilIface] 38)
  simpa using this
 obtain⟨k0,k1,k2,k3,k4⟩:=zZ e1
 have HI:=zh (hI l e8)
 have HG:=zh hG
 have HP:=zh hP
 have m4:=zh hB
 have e0:=zh f0
 have a3:=zh e8
 have e2:=zh e1
 have i8:=zh g0
 have n6:(pn:Int)<=1000:=by omega
 have e7:w.heap.size<l.heap.size:=by omega
 clear hI hG hP hB f0 e8 e1 g0
 go_enter_defers Tryz.func37,Tryz.ntmps37
 go_upto_region 2 with fail
 rw[<-a8]
 clear a8
 go_wp2_with fail
 have b0:Hid (∀J,Below l.heap.size l J->J.heap[w.heap.size+1]?=some (.cells #[.nilIface] 38 (0,0))):=fun J h=>(h.block _ (by omega)).trans i8.out
 have c8:Hid (∀(J:World) (er:Nat×Nat) (r:Nat),Below l.heap.size l J->l.heap.size<=r->J.cell? ⟨r,0,none⟩=some (.int .i64 (er.1:Int))->J.cell? ⟨r,1,none⟩=some (.int .i64 (er.2:Int))->s=some (er.1,some er.2) ->
   CheckP w s (.returned (.iface 117 (.pointer (some ⟨r,0,none⟩)))) (J.setCell ⟨w.heap.size+1,0,none⟩ (.iface 117 (.pointer (some ⟨r,0,none⟩))))):=by
  intro J er r h1 h2 h3 h4 h5
  refine⟨zq (a3.out.trans (h1.mono (by omega))) (by omega) 0 _,?_⟩
  rw[h5]
  exact⟨r,rfl,by omega,by rw[World.cell?_setCell_far _ _ _ _ (by simp;omega)];exact h3,by rw[World.cell?_setCell_far _ _ _ _ (by simp;omega)];exact h4⟩
 refine HI.out.mono ?_
 intro e w1 d
 unfold ImpP at d
 cases a2:Tp.imps nm Sn [] is with
 |some er =>
  rw[a2]at d
  obtain⟨O,rfl⟩:=d
  have b6:Hid (s=some (er.1,none)):=by unfold Hid;rw[e0.out,a2];exact congrArg some (Prod.ext rfl (imps_at a2))
  have H1:=zh O
  clear a2 O
  unfold thrownE
  go_wp2_with fail
  refine cdies_en (eb:=w.heap.size+1) rfl rfl (b0.out w1 H1.out) ⟨zq (a3.out.trans (H1.out.mono (by omega))) (by omega) 0 _,?_⟩
  rw[b6.out]
 |none =>
  rw[a2]at d
  obtain⟨O,ob,on,rfl,m8,f7⟩:=d
  have m6:=zh O
  have h7:=O.size
  have f9:=zh f7
  have f8:=zh (HG.out w1 (a3.out.trans (O.mono (by omega))))
  have b6:Hid (s=Tp.up ((Tp.twP tl 0).or (((List.range pn).findSome? fun i=>(Tp.twP (ol i) 0).or (sr i)).or br))):=by unfold Hid;rw[e0.out,a2];rfl
  obtain⟨l0,l1,l2,l3,l4⟩:=zZ ((O.block _ e7).trans e2.out)
  have n2:w.heap.size<w1.heap.size:=by omega
  clear a2 O f7 k0 k1 k2 k3 k4 e0 HI HG
  go_wp2_with fail
  refine f8.out.mono ?_
  intro e w2 d
  obtain⟨d6,d⟩:=d
  have b9:Hid (Below l.heap.size l w2):=m6.out.trans (d6.mono h7)
  have h8:=b9.out.size
  cases a7:Tp.twP tl 0 with
  |some er =>
   rw[a7]at d
   have c2:Hid (s=some (er.1,some er.2)):=by unfold Hid;rw[b6.out,a7];rfl
   obtain⟨r,q1,rfl,Y,V⟩:=d.out
   have Q2:=zh Y
   have Q3:=zh V
   clear a7 d Y V d6
   go_wp2_with fail
   exact jn (eb:=w.heap.size+1) rfl rfl (b0.out w2 b9.out) (c8.out w2 er r b9.out (by omega) Q2.out Q3.out c2.out)
  |none =>
   rw[a7]at d
   obtain⟨Q,f6,rfl,n1,_,g2⟩:=d
   have c9:=zh g2
   have f1:=zh (f9.out.on d6)
   have c2:Hid (s=Tp.up (((List.range pn).findSome? fun i=>(Tp.twP (ol i) 0).or (sr i)).or br)):=by unfold Hid;rw[b6.out,a7];rfl
   obtain⟨j0,j1,j2,j3,j4⟩:=zZ ((b9.out.block _ e7).trans e2.out)
   have n7:w.heap.size<w2.heap.size:=by omega
   clear a7 d6 g2 l0 l1 l2 l3 l4 f9 b6 f8
   go_wp2_with fail
   go_loopg [18] pn (fun k vi wr=>∃i:Nat,i<=pn/\k=pn-i/\vi=.int .i64 (i:Int)/\Hid (Below w2.heap.size w2 wr)/\Hid (∀j,j<i->(Tp.twP (ol j) 0).or (sr j)=none))
   case atStart=>exact⟨0,by omega,by omega,rfl,Below.refl _ _,fun j hj=>absurd hj (by omega)⟩
   case round =>
    obtain⟨i,o3,hk,rfl,HB,HN⟩:=hrel
    have h0:=HB.out.size
    have M:Hid (Below l.heap.size l wr):=b9.out.trans (HB.out.mono h8)
    by_cases e3:i<pn
    ·have i0:(i:Int)<(pn:Int):=by omega
     obtain⟨g,Z,x1,x2,R,X,I,T,U,E,c3,P,D,i7,m0,d0,d1,d2,d3,d4,d5,g7,g4⟩:=HP.out i e3
     subst i7
     have d7:Below w.heap.size w wr:=a3.out.trans (M.out.mono (by omega))
     have a0:∀(o:Nat) (u:Value),w.cell? ⟨g,o,none⟩=some u->wr.cell? ⟨g,o,none⟩=some u:=fun o u h=>(d7.cell (p:=⟨g,o,none⟩) m0).trans h
     have o2:=a0 _ _ d0
     have o4:=a0 _ _ d1
     have o5:=a0 _ _ d2
     have o9:=a0 _ _ d3
     have o0:=a0 _ _ d4
     have o7:=a0 _ _ d5
     have n9:g<wr.heap.size:=by have:=d7.size;omega
     have m7:=zh g7
     have i5:=zh g4
     have f3:=zh d7
     clear d0 d1 d2 d3 d4 d5 a0 g7 g4 d7
     obtain⟨x,b8⟩:∃x,x=wr.alloc (.cells #[.string (bs Z),.int .i64 (x1:Int),.bool x2,.slice R T c3,.slice X U P,.slice I E D] 65):=⟨_,rfl⟩
     have g3:Below wr.heap.size wr x:=by rw[b8];exact zb _ _
     have g1:x.heap[wr.heap.size]?=some (.cells #[.string (bs Z),.int .i64 (x1:Int),.bool x2,.slice R T c3,.slice X U P,.slice I E D] 65 (0,0)):=by rw[b8];exact zo _ _
     have m5:wr.heap.size<x.heap.size:=by rw[b8];simp
     have C:Hid (∀W,Below x.heap.size x W->W.cell? ⟨wr.heap.size,0,none⟩=some (.string (bs Z))/\W.cell? ⟨wr.heap.size,1,none⟩=some (.int .i64 (x1:Int))/\W.cell? ⟨wr.heap.size,2,none⟩=some (.bool x2)/\W.cell? ⟨wr.heap.size,3,none⟩=some (.slice R T c3)/\W.cell? ⟨wr.heap.size,4,none⟩=some (.slice X U P)/\W.cell? ⟨wr.heap.size,5,none⟩=some (.slice I E D)):=fun W A=>yN ((A.block _ m5).trans g1)
     have c1:=zh g3
     clear g1 g3
     go_upto_region 7 with fail
     rw[<-b8]
     clear b8
     refine wp_region_held_drew (S:=fun W=>W.cell? ⟨wr.heap.size,0,none⟩=some (.string (bs Z))/\W.cell? ⟨wr.heap.size,1,none⟩=some (.int .i64 (x1:Int))/\W.cell? ⟨wr.heap.size,2,none⟩=some (.bool x2)/\W.cell? ⟨wr.heap.size,3,none⟩=some (.slice R T c3)/\W.cell? ⟨wr.heap.size,4,none⟩=some (.slice X U P)/\W.cell? ⟨wr.heap.size,5,none⟩=some (.slice I E D)) (by kernel_rfl) (C.out _ ((Below.refl _ _).drew)) (fun n=>?_)
     refine wpAnyH_take (i:=0) (v:=.pointer (some ⟨wr.heap.size,5,none⟩)) rfl (by kernel_rfl) (by kernel_rfl) (by kernel_rfl) (fun c a w h=>kJ (by decide) _ c a w h) (Or.inl ⟨by rfl,fun W A=>by go_simp⟩) n ?_
     go_frame
     refine wpAnyH_take (i:=1) (v:=.slice I E D) rfl (by kernel_rfl) (by kernel_rfl) (by kernel_rfl) (fun c a w h=>kJ (by decide) _ c a w h) (Or.inl ⟨by rfl,fun W A=>by go_simp⟩) n ?_
     go_frame
     refine wpAnyH_take (i:=2) (v:=.map (some ob)) rfl (by kernel_rfl) (by kernel_rfl) (by kernel_rfl) (fun c a w h=>kJ (by decide) _ c a w h) (Or.inl ⟨by rfl,fun W A=>by go_simp⟩) n ?_
     go_frame
     refine wpAnyH_take (i:=3) (v:=.agg #[.string (bs Z),.int .i64 (x1:Int),.bool x2,.slice R T c3,.slice X U P,.slice I E D]) rfl (by kernel_rfl) (by kernel_rfl) (by kernel_rfl) (fun c a w h=>kJ (by decide) _ c a w h) (Or.inl ⟨by rfl,fun W A=>by go_simp⟩) n ?_
     go_frame
     refine wpAnyH_take (i:=5) (v:=.map (some Q)) rfl (by kernel_rfl) (by kernel_rfl) (by kernel_rfl) (fun c a w h=>kJ (by decide) _ c a w h) (Or.inl ⟨by rfl,fun W A=>by go_simp⟩) n ?_
     go_frame
     refine wpAnyH_ready (rs:=[4]) (by kernel_rfl) (by simp) ?_
     refine AllReadyH.cons rfl (fun K m=>?_) AllReadyH.nil
     go_simp
     have i4:Hid (Below w.heap.size w x.drew):=(f3.out.trans (c1.out.mono f3.out.size)).trans ((Below.refl _ _).drew)
     refine(m7.out _ i4.out).mono ?_
     intro e t d
     obtain⟨f5,d⟩:=d
     have b3:Below x.heap.size x t:=((Below.refl _ _).drew).trans f5
     have b2:Hid (Below l.heap.size l t):=(M.out.trans (c1.out.mono M.out.size)).trans (b3.mono (by have:=c1.out.size;have:=M.out.size;omega))
     have h6:wr.heap.size<=x.heap.size:=c1.out.size
     have i1:x.heap.size<=t.heap.size:=b3.size
     cases b5:Tp.twP (ol i) 0 with
     |some er =>
      rw[b5]at d
      have a9:Hid (s=some (er.1,some er.2)):=by
       unfold Hid
       rw[c2.out,zO (f:=fun i=>(Tp.twP (ol i) 0).or (sr i)) e3 HN.out (show (Tp.twP (ol i) 0).or (sr i)=some er by rw[b5];rfl)]
       rfl
      obtain⟨r,q1,rfl,Y,V⟩:=d.out
      have i6:l.heap.size<=r:=by have:x.drew.heap.size=x.heap.size:=rfl;have:=M.out.size;omega
      exact jn (eb:=w.heap.size+1) rfl rfl (b0.out t b2.out) (c8.out t er r b2.out i6 Y V a9.out)
     |none =>
      rw[b5]at d
      obtain⟨lb,ln,rfl,_,_,f4⟩:=d
      have m3:=zh f4
      have g6:=zh b5
      have c7:Hid (Below w2.heap.size w2 t):=HB.out.trans ((c1.out.trans (b3.mono h6)).mono h0)
      have e5:=zh b3
      clear f4 b5 f5 b3
      go_frame
      refine m.out _ _ (C.out _ e5.out) (fun n=>?_)
      clear m
      refine wpAnyH_ready (rs:=[6]) (by kernel_rfl) (by simp) ?_
      refine AllReadyH.cons rfl (fun K m=>?_) AllReadyH.nil
      go_simp
      refine m.out _ _ (C.out _ (e5.out.alloc (by omega) _)) (fun n=>?_)
      clear m K
      refine wpAnyH_ready (rs:=[7]) (by kernel_rfl) (by simp) ?_
      refine AllReadyH.cons rfl (fun K m=>?_) AllReadyH.nil
      go_simp
      have c0:=zh (fnd_new (w:=t) (fs:=[Tp.lkT (ol i),Tp.lkT tl]) (vs:=[.map (some lb),.map (some Q)]) (c:=2) (t1:=142) (t2:=90) (t3:=199) (f1.out.on c7.out) rfl (fun j hj=>by
       match j,hj with
       | 0,_=>exact⟨lb,ln,rfl,m3.out⟩
       | 1,_=>exact⟨Q,f6,rfl,c9.out.on (c7.out.block _ c9.out.lt)⟩))
      refine(xx _ (.map (some ob)) (.slice (some ⟨t.heap.size,0,none⟩) 2 2) ⟨_,rfl⟩ ⟨_,_,_,rfl⟩).mono ?_
      rintro e z⟨rfl,a6⟩
      have B:Below t.heap.size t z:=by rw[a6];exact((zb _ _).alloc (by simp) _).alloc (by simp;omega) _
      have b4:Fnd z (t.heap.size+1) (fun k=>if k∈is then Sn k else none) [Tp.lkT (ol i),Tp.lkT tl]:=by rw[a6];exact c0.out
      have g8:=B.size
      have d9:(t.alloc (.cells #[.map (some lb),.map (some Q)] 142)).heap.size=t.heap.size+1:=by simp
      rw[d9]
      have e4:Hid (Below w.heap.size w z):=(a3.out.trans (b2.out.mono (by omega))).trans (B.mono (by have:=b2.out.size;omega))
      have L:Hid (Below l.heap.size l z):=b2.out.trans (B.mono b2.out.size)
      have a5:=zh (e5.out.trans (B.mono i1))
      have f2:Hid (Below w2.heap.size w2 z):=c7.out.trans (B.mono c7.out.size)
      have a4:=zh (i5.out z (t.heap.size+1) e4.out b4)
      clear a6 b4 B c0
      simp only[finderV]at a4 ⊢
      try go_frame
      refine m.out _ _ (C.out _ a5.out) (fun n=>?_)
      clear m K
      refine wpAnyH_ready (rs:=[8]) (by kernel_rfl) (by simp) ?_
      refine AllReadyH.cons rfl (fun K m=>?_) AllReadyH.nil
      go_simp
      refine a4.out.mono ?_
      intro e y d
      obtain⟨N,d⟩:=d
      have a1:Hid (Below l.heap.size l y):=L.out.trans (N.mono L.out.size)
      have g9:=L.out.size
      cases b7:sr i with
      |some er =>
       rw[b7]at d
       have a9:Hid (s=some (er.1,some er.2)):=by
        unfold Hid
        rw[c2.out,zO (f:=fun i=>(Tp.twP (ol i) 0).or (sr i)) e3 HN.out (show (Tp.twP (ol i) 0).or (sr i)=some er by rw[g6.out,b7];rfl)]
        rfl
       obtain⟨r,q1,rfl,Y,V⟩:=d.out
       exact jn (eb:=w.heap.size+1) rfl rfl (b0.out y a1.out) (c8.out y er r a1.out (by omega) Y V a9.out)
      |none =>
       rw[b7]at d
       simp only at d
       subst d
       have h9:Hid (Below w2.heap.size w2 y):=f2.out.trans (N.mono f2.out.size)
       have m1:Hid (∀j,j<i+1->(Tp.twP (ol j) 0).or (sr j)=none):=fun j hj=>by
        rcases Nat.lt_or_ge j i with q|q
        ·exact HN.out j q
        ·have:j=i:=by omega
         subst this
         rw[g6.out,b7]
         rfl
       have e6:=zh (a5.out.trans (N.mono a5.out.size))
       clear b7 N a4
       go_frame
       refine m.out _ _ (C.out _ e6.out) (fun n=>?_)
       clear m K
       refine wpAnyH_done (by kernel_rfl) ?_ _
       clear n
       go_wp2_with fail
       go_roundg (pn-(i+1))
       case measure=>omega
       case rel=>exact⟨i+1,by omega,rfl,by go_num,h9,m1⟩
    ·have i0:¬(i:Int)<(pn:Int):=by omega
     have g5:Hid ((List.range pn).findSome? (fun i=>(Tp.twP (ol i) 0).or (sr i))=none):=yq (fun j hj=>HN.out j (by omega))
     have a9:Hid (s=Tp.up br):=by unfold Hid;rw[c2.out,g5.out];rfl
     have i3:=M.out.size
     have C:Hid (∀W,Below wr.heap.size wr W->W.cell? ⟨w.heap.size,4,none⟩=some (.slice G F H)):=fun W A=>(zZ ((A.block _ (by omega)).trans ((M.out.block _ e7).trans e2.out))).2.2.2.2
     have k4:=C.out wr (Below.refl _ _)
     have m9:w.heap.size<wr.heap.size:=by omega
     clear g5
     go_upto_region 9 with fail
     refine wp_region_held_drew (S:=fun W=>W.cell? ⟨w.heap.size,4,none⟩=some (.slice G F H)) (by kernel_rfl) (C.out _ ((Below.refl _ _).drew)) (fun n=>?_)
     refine wpAnyH_take (i:=0) (v:=.pointer (some ⟨w.heap.size,4,none⟩)) rfl (by kernel_rfl) (by kernel_rfl) (by kernel_rfl) (fun c a w h=>kJ (by decide) _ c a w h) (Or.inl ⟨by rfl,fun W A=>by go_simp⟩) n ?_
     go_frame
     refine wpAnyH_take (i:=1) (v:=.slice G F H) rfl (by kernel_rfl) (by kernel_rfl) (by kernel_rfl) (fun c a w h=>kJ (by decide) _ c a w h) (Or.inl ⟨by rfl,fun W A=>by go_simp⟩) n ?_
     go_frame
     refine wpAnyH_take (i:=2) (v:=.map (some ob)) rfl (by kernel_rfl) (by kernel_rfl) (by kernel_rfl) (fun c a w h=>kJ (by decide) _ c a w h) (Or.inl ⟨by rfl,fun W A=>by go_simp⟩) n ?_
     go_frame
     refine wpAnyH_take (i:=3) (v:=.map (some Q)) rfl (by kernel_rfl) (by kernel_rfl) (by kernel_rfl) (fun c a w h=>kJ (by decide) _ c a w h) (Or.inl ⟨by rfl,fun W A=>by go_simp⟩) n ?_
     go_frame
     refine wpAnyH_ready (rs:=[4]) (by kernel_rfl) (by simp) ?_
     refine AllReadyH.cons rfl (fun K m=>?_) AllReadyH.nil
     go_simp
     refine m.out _ _ (C.out _ ((zb _ _).drew)) (fun n=>?_)
     clear m K
     refine wpAnyH_ready (rs:=[5]) (by kernel_rfl) (by simp) ?_
     refine AllReadyH.cons rfl (fun K m=>?_) AllReadyH.nil
     go_simp
     have c0:=zh (fnd_new (w:=wr.drew) (fs:=[Tp.lkT tl]) (vs:=[.map (some Q)]) (c:=1) (t1:=142) (t2:=90) (t3:=199) (f1.out.on (HB.out.trans ((Below.refl _ _).drew))) rfl (fun j hj=>by
      match j,hj with
      | 0,_=>exact⟨Q,f6,rfl,c9.out.on (HB.out.block _ c9.out.lt)⟩))
     refine(xx _ (.map (some ob)) (.slice (some ⟨wr.heap.size,0,none⟩) 1 1) ⟨_,rfl⟩ ⟨_,_,_,rfl⟩).mono ?_
     rintro e z⟨rfl,a6⟩
     have B:Below wr.heap.size wr z:=by rw[a6];exact(((zb _ _).drew).alloc (by simp) _).alloc (by simp;omega) _
     have b4:Fnd z (wr.heap.size+1) (fun k=>if k∈is then Sn k else none) [Tp.lkT tl]:=by rw[a6];exact c0.out
     have g8:=B.size
     have d9:(wr.alloc (.cells #[.map (some Q)] 142)).drew.heap.size=wr.heap.size+1:=by simp
     rw[d9]
     have L:Hid (Below l.heap.size l z):=M.out.trans (B.mono i3)
     have e4:Hid (Below w.heap.size w z):=a3.out.trans (L.out.mono (by omega))
     have a5:=zh B
     have a4:=zh (m4.out z (wr.heap.size+1) e4.out b4)
     clear a6 b4 B c0
     simp only[finderV]at a4 ⊢
     try go_frame
     refine m.out _ _ (C.out _ a5.out) (fun n=>?_)
     clear m K
     refine wpAnyH_ready (rs:=[6]) (by kernel_rfl) (by simp) ?_
     refine AllReadyH.cons rfl (fun K m=>?_) AllReadyH.nil
     go_simp
     refine a4.out.mono ?_
     intro e y d
     obtain⟨N,d⟩:=d
     have a1:Hid (Below l.heap.size l y):=L.out.trans (N.mono L.out.size)
     have g9:=L.out.size
     cases c6:br with
     |some er =>
      rw[c6]at d
      have e9:Hid (s=some (er.1,some er.2)):=by unfold Hid;rw[a9.out,c6];rfl
      obtain⟨r,q1,rfl,Y,V⟩:=d.out
      exact jn (eb:=w.heap.size+1) rfl rfl (b0.out y a1.out) (c8.out y er r a1.out (by omega) Y V e9.out)
     |none =>
      rw[c6]at d
      simp only at d
      subst d
      have e9:Hid (s=none):=by unfold Hid;rw[a9.out,c6];rfl
      have e6:=zh (a5.out.trans (N.mono a5.out.size))
      clear c6 N a4
      try go_frame
      refine m.out _ _ (C.out _ e6.out) (fun n=>?_)
      clear m K
      refine wpAnyH_done (by kernel_rfl) ?_ _
      clear n
      have he:=b0.out y a1.out
      have ke:y.cell? ⟨w.heap.size+1,0,none⟩=some .nilIface:=(za he).trans rfl
      have ze:y.frozen? ⟨w.heap.size+1,0,none⟩=false:=zi he
      have n8:w.heap.size+1<y.heap.size:=zf he
      have i9:=zh he
      clear he
      go_wp2_with fail
      obtain⟨wd,d8⟩:∃wd,wd=y.setCell ⟨w.heap.size+1,0,none⟩ .nilIface:=⟨_,rfl⟩
      rw[<-d8]
      have kd:wd.cell? ⟨w.heap.size+1,0,none⟩=some .nilIface:=by rw[d8];exact(za (zu 0 .nilIface i9.out)).trans rfl
      have i2:CheckP w s (.returned .nilIface) wd:=by
       refine⟨by rw[d8];exact zq (a3.out.trans (a1.out.mono (by omega))) (by omega) 0 _,?_⟩
       rw[e9.out]
      clear d8
      refine leaves_cons (f:=77) (args:=#[.pointer (some ⟨w.heap.size+1,0,none⟩)]) (by simp) (by simp[go_sem]) ?_
      refine(clate_idle ⟨w.heap.size+1,0,none⟩ wd).mono ?_
      rintro e u' o6⟨rfl,rfl,rfl⟩
      simp[Leaves,settle,results,Tryz.results37,go_sem,kd]
      exact i2
end Go.Proofs.YtibncofnnlbmcaaGreatDoor
