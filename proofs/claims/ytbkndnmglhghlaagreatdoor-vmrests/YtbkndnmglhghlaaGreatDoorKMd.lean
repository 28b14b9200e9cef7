import Derived.Test.YtbkndnmglhghlaaGreatDoorKMc
import Derived.Test.YtbkndnmglhghlaaGreatDoorKOa
import Derived.Stop.Asserts
set_option maxRecDepth 100000
set_option maxHeartbeats 4000000

namespace Go.Proofs.YtbkndnmglhghlaaGreatDoor
open Go.RowKit Go.Maps
open Tp (Bs Th Sy Seen X S)
variable {a:List Value}{b:Nat}{D:Nat->Prop}{fs:Near}{Sn:Seen}{w w':World}
theorem xy (x:S)(l:List S):Tp.rs (x :: l)=Tp.rs [x]++Tp.rs l:=by
 obtain⟨code,pos,nm,b,d,c,a⟩:=x
 simp[Tp.rs]
theorem rs_app (l m:List S):Tp.rs (l++m)=Tp.rs l++Tp.rs m:=by
 induction l with
 |nil=>simp[Tp.rs]
 |cons x l ih=>rw[List.cons_append,xy,ih,xy x l,List.append_assoc]
theorem rs_one (code pos:Nat)(nm:Bs)(a d:List X)(c b:List S):Tp.rs [⟨code,pos,nm,a,d,c,b⟩]=(if code=1 then [⟨if a.isEmpty then 2 else 3,pos,[],nm,0⟩] else [])++(Tp.rx a++(Tp.rx d++(Tp.rs c++Tp.rs b))):=by
 simp[Tp.rs]
theorem uD (J:Jd):∀(a:List S),(List.range a.length).findSome? (fun i=>(a[i]?).bind fun y=>(Tp.rs [y]).findSome? J)=(Tp.rs a).findSome? J:=by
 intro a
 induction a with
 |nil=>simp[Tp.rs]
 |cons x l ih =>
  rw[xy,List.findSome?_append,<-ih,List.length_cons,List.range_succ_eq_map,List.findSome?_cons,List.findSome?_map]
  have b:((fun i=>((x :: l)[i]?).bind fun y=>(Tp.rs [y]).findSome? J) ∘ Nat.succ)=fun i=>(l[i]?).bind fun y=>(Tp.rs [y]).findSome? J:=by
   funext i
   simp
  rw[b]
  simp only[List.getElem?_cons_zero,Option.bind_some]
  cases (Tp.rs [x]).findSome? J<;>rfl
theorem RepS.step {l:List S}(h:RepS w D l a)(k:Below w.heap.size w w'):RepS w' D l a:=h.mono' (fun b c d=>⟨k.block b d,c⟩)
theorem OwnS.step {v:Value}{n:Nat}(h:OwnS w D v n a)(k:Below w.heap.size w w'):OwnS w' D v n a:=h.mono (fun b c d=>⟨k.block b d,c⟩)
theorem RepS.get:∀(l:List S) (g:List Value),RepS w D l g->∀i (code pos:Nat) (nm:Bs) (k m:List X) (c b:List S),l[i]?=some ⟨code,pos,nm,k,m,c,b⟩->∃(d ev:Value) (a vs f e:List Value),
  (∀j,j<7->g[i*7+j]?=[.int .i64 (code:Int),.int .i64 (pos:Int),.string (bs nm),a.headD (.pointer none),vs.headD (.pointer none),d,ev][j]?)/\RepL w D k a/\a.length<=1/\RepL w D m vs/\vs.length<=1/\RepS w D c f/\OwnS w D d c.length f/\RepS w D b e/\OwnS w D ev b.length e:=by
 intro l
 induction l with
 |nil=>intro g _ i _ _ _ _ _ _ _ h;simp at h
 |cons x l ih =>
  intro g h i code pos nm k m c b n
  obtain⟨p,r,y,O,Q,P,N⟩:=x
  rw[RepS]at h
  obtain⟨d,ev,a,vs,f,e,cs',B,C,E,F,G,H,I,J,K,u⟩:=h
  subst B
  cases i with
  |zero =>
   simp only[List.getElem?_cons_zero,Option.some.injEq,S.mk.injEq]at n
   obtain⟨rfl,rfl,rfl,rfl,rfl,rfl,rfl⟩:=n
   refine⟨d,ev,a,vs,f,e,fun j o=>?_,C,E,F,G,H,I,J,K⟩
   rw[Nat.zero_mul,Nat.zero_add,List.getElem?_append_left (by simpa using o)]
  |succ i =>
   obtain⟨z,t,v,A,s,q,L,M⟩:=ih cs' u i code pos nm k m c b (by simpa using n)
   refine⟨z,t,v,A,s,q,fun j o=>?_,M⟩
   rw[List.getElem?_append_right (by simp;omega)]
   have:(i+1)*7+j-[Value.int .i64 (p:Int),.int .i64 (r:Int),.string (bs y),a.headD (.pointer none),vs.headD (.pointer none),d,ev].length=i*7+j:=by simp;omega
   rw[this,L j o]
theorem part_ask {e:World}(m:Fnd e b Sn fs)(j:fs.length<=1000)(g:Below e.heap.size e w){D:Nat->Prop}(l:List X)(vs:List Value)(n:Sm (Tp.rx l))(c:RepL w D l vs)(k:vs.length<=1) :
  (∃a,vs.headD (.pointer none)=.pointer a/\(a=none↔l.isEmpty=true))/\AskX w b (vs.headD (.pointer none)) ((Tp.rx l).findSome? (Tp.judgeP (Tp.standV Sn fs))):=by
 have f:=RepL.len _ _ c
 match l,vs,c with
 |[],vs,c =>
  rw[RepL]at c
  subst c
  refine⟨⟨none,rfl,by simp⟩,fun W d=>?_⟩
  have:(Tp.rx []).findSome? (Tp.judgeP (Tp.standV Sn fs))=none:=by simp[Tp.rx]
  rw[this]
  exact jd W b
 |[y],vs,c =>
  obtain⟨i,h,p⟩:=RepL.get _ _ c 0 (by simp)
  have o:vs=[.pointer (some ⟨i,0,none⟩)]:=by
   match vs,k,f with
   |[v],_,_=>simp at h;rw[h]
  subst o
  refine⟨⟨_,rfl,by simp⟩,fun W d=>?_⟩
  exact xQ m j _ y zn n W D i (g.trans (d.mono g.size)) (c.step d)
 |y :: z :: t,vs,c=>simp at f;omega
theorem kH {L:World}(J:Fnd L b Sn fs)(I:fs.length<=1000):∀(n:Nat) (l:List S),SizeOf.sizeOf l<=n->Sm (Tp.rs l)->∀(w:World) (D:Nat->Prop) (v:Value) (C:List Value),Below L.heap.size L w->RepS w D l C->OwnS w D v l.length C ->
  Calls Tryz.prog 88 #[v,finderV b] w (CkP w ((Tp.rs l).findSome? (Tp.judgeP (Tp.standV Sn fs)))):=by
 intro n
 induction n with
 |zero=>intro l R;cases l<;>simp at R<;>omega
 |succ n ih =>
  intro l R B w D v C s a0 Z
  rw[<-uD]
  have a2:∃a c,v=.slice a l.length c/\l.length<=9223372036854775807/\∀i,i<l.length->∃g,a=some ⟨g,0,none⟩/\g<w.heap.size/\∀j,j<7->w.cell? ⟨g,i*7+j,none⟩=C[i*7+j]?:=by
   rcases Z with⟨u,F⟩|⟨g,cap,cur,u,F,G,T,U,V,H⟩
   ·exact⟨none,0,by rw[F];exact u,by omega,fun i y=>by omega⟩
   ·refine⟨_,cap,u,?_,fun i y=>⟨g,rfl,zc G,fun j K=>?_⟩⟩
    ·have:maxLen=9223372036854775807:=rfl
     omega
    ·rw[za G,<-Array.getElem?_toList,<-H,List.getElem?_take_of_lt (by omega)]
  obtain⟨a,c,rfl,a4,Y⟩:=a2
  refine jG (fun i y=>?_) a4
  rcases hx:l[i] with⟨code,pos,nm,d,z,o,f⟩
  have Q:l[i]?=some ⟨code,pos,nm,d,z,o,f⟩:=by rw[List.getElem?_eq_getElem y,hx]
  obtain⟨tv,ev,ls,vs,a6,a1,u,F,G,T,U,V,H,q8,X⟩:=RepS.get _ _ a0 i code pos nm d z o f Q
  obtain⟨g,g1,g2,g3⟩:=Y i y
  have A:∀r∈Tp.rs [(⟨code,pos,nm,d,z,o,f⟩:S)],r∈Tp.rs l:=by
   intro r m
   have e:l=l.take i++l[i] :: l.drop (i+1):=by rw[<-List.drop_eq_getElem_cons y,List.take_append_drop]
   rw[e,rs_app,xy,hx]
   simp[m]
  have x:=rs_one code pos nm d z o f
  have P:SizeOf.sizeOf l[i]<SizeOf.sizeOf l:=List.sizeOf_lt_of_mem (List.getElem_mem y)
  rw[hx]at P
  simp at P
  have s1:Sm (Tp.rx d):=B.sub fun r m=>A r (by rw[x];simp[m])
  have s2:Sm (Tp.rx z):=B.sub fun r m=>A r (by rw[x];simp[m])
  have s3:Sm (Tp.rs o):=B.sub fun r m=>A r (by rw[x];simp[m])
  have s4:Sm (Tp.rs f):=B.sub fun r m=>A r (by rw[x];simp[m])
  obtain⟨⟨iv,a3,M⟩,N⟩:=part_ask J I s d ls s1 F G
  obtain⟨⟨vv,a5,_⟩,O⟩:=part_ask J I s z vs s2 T U
  obtain⟨ta,tc,rfl⟩:=H.shape
  obtain⟨ea,ec,rfl⟩:=X.shape
  rw[a3]at N u
  rw[a5]at O u
  have t:=fun j (K:j<7)=>(g3 j K).trans (u j K)
  refine⟨g,code,pos,bs nm,iv,vv,ta,ea,o.length,tc,f.length,ec,if code=1 then Tp.judgeP (Tp.standV Sn fs) ⟨if d.isEmpty then 2 else 3,pos,[],nm,0⟩ else none,_,_,(Tp.rs o).findSome? (Tp.judgeP (Tp.standV Sn fs)),(Tp.rs f).findSome? (Tp.judgeP (Tp.standV Sn fs)),g1,g2,t 0 (by omega),t 1 (by omega),t 2 (by omega),t 3 (by omega),t 4 (by omega),t 5 (by omega),t 6 (by omega),?_,fun h=>if_neg h,N,O,fun W k=>?_,fun W k=>?_,?_⟩
  ·intro p W k
   rw[if_pos p]
   have hm:=B ⟨if d.isEmpty then 2 else 3,pos,[],nm,0⟩ (A _ (by rw[x,if_pos p];simp))
   have:=jH (code:=code) (pos:=pos) (nm:=nm) (iv:=iv) (vv:=vv) (ta:=ta) (ea:=ea) (tn:=o.length) (tc:=tc) (en:=f.length) (ec:=ec) ((J.on s).on (k)) I hm.2
   have e:(if iv=none then 2 else 3)=(if d.isEmpty=true then 2 else 3):=by
    by_cases E:iv=none
    ·rw[if_pos E,if_pos (M.1 E)]
    ·rw[if_neg E,if_neg (fun q=>E (M.2 q))]
   rw[e]at this
   exact this
  ·exact ih o (by omega) s3 W D _ a6 (s.trans (k.mono s.size)) (V.step k) (H.step k)
  ·exact ih f (by omega) s4 W D _ a1 (s.trans (k.mono s.size)) (q8.step k) (X.step k)
  ·rw[Q,Option.bind_some,x,List.findSome?_append,List.findSome?_append,List.findSome?_append,List.findSome?_append]
   congr 1
   by_cases p:code=1
   ·rw[if_pos p,if_pos p,List.findSome?_cons]
    cases Tp.judgeP (Tp.standV Sn fs) ⟨if d.isEmpty=true then 2 else 3,pos,[],nm,0⟩<;>rfl
   ·rw[if_neg p,if_neg p];rfl
end Go.Proofs.YtbkndnmglhghlaaGreatDoor

namespace Tp
open Ob (Sm symB lenB)
def smOf (s:Sy):Sm:=⟨s.1,(s.2.1:Int),s.2.2⟩
end Tp

namespace Tp
open Ob (O rightB)
def compileC (m:M) (syms:List Sy) (uF:Bs->List Bs) (seen:Seen):O:=objC m (syms.map smOf) uF fun n=>needsS ((seen n).getD []) (uF n)
end Tp

namespace Go.Proofs.YtbkndnmglhghlaaGreatDoor
open Go.RowKit
theorem ccaught_at (a:Option Addr)(w:World) :
  Calls Tryz.prog 85 #[.iface 141 (.pointer a)] w fun e w'=>e=.returned (.iface 141 (.pointer a))/\w'=w:=by
 have b:∀(a:Option Addr) (w:World),(Instr.typeAssert (.iface 141 (.pointer a)) 20 141 true).run Tryz.prog w=.ok (.tuple #[.pointer a,.bool true]) w:=fun a w=>by kernel_rfl
 go_enter Tryz.func85,Tryz.ntmps85
 go_wp2
 go_ret
 exact⟨rfl,rfl⟩
theorem ccaught_en (n:Int)(w:World) :
  Calls Tryz.prog 85 #[.iface 36 (.int .i64 n)] w fun e w'=>e=.returned (.iface 36 (.int .i64 n))/\w'=w:=by
 have b:∀(n:Int) (w:World),(Instr.typeAssert (.iface 36 (.int .i64 n)) 20 141 true).run Tryz.prog w=.ok (.tuple #[.pointer none,.bool false]) w:=fun a w=>by kernel_rfl
 have c:∀(n:Int) (w:World),(Instr.typeAssert (.iface 36 (.int .i64 n)) 20 36 true).run Tryz.prog w=.ok (.tuple #[.int .i64 n,.bool true]) w:=fun a w=>by kernel_rfl
 go_enter Tryz.func85,Tryz.ntmps85
 go_wp2
 go_ret
 exact⟨rfl,rfl⟩
theorem clate_at (eb a:Nat)(older:List PanicEntry)(w:World){g:Value}(j:w.cell? ⟨eb,0,none⟩=some g)(ze:w.frozen? ⟨eb,0,none⟩=false) :
  CallsD Tryz.prog 84 #[.pointer (some ⟨eb,0,none⟩)] (.panicking ({ v:=.iface 141 (.pointer (some ⟨a,0,none⟩)),recovered:=false } :: older)) w fun e f w' =>
   e=.returned (.tuple #[])/\f=.panicking ({ v:=.iface 141 (.pointer (some ⟨a,0,none⟩)),recovered:=true } :: older)/\w'=w.setCell ⟨eb,0,none⟩ (.iface 141 (.pointer (some ⟨a,0,none⟩))):=by
 refine callsD_of_wpS Tryz.func84 rfl fun i h d=>?_
 apply wpS_seq
 apply wpS_region
 simp[wpOpsS,go_sem,recoverD,d,Tryz.ntmps84,Exit.thenS]
 refine wpS_of_wp ?_
 generalize c:(fun (e:Exit) (b:Act) (w':World)=>bodyPostS Tryz.prog _ _ _ _ e b _ w')=Q
 show Code.wp Tryz.prog _ _ { tmps:=#[.pointer (some ⟨eb,0,none⟩),.iface 141 (.pointer (some ⟨a,0,none⟩)),.iface 141 (.pointer (some ⟨a,0,none⟩)),undef,undef,undef,undef],defers:=[] } w
 go_wp2_with fail
 refine(ccaught_at _ w).mono ?_
 rintro e w'⟨rfl,rfl⟩
 go_wp2_with fail
 subst c
 simp[bodyPostS,results,Tryz.results84]
theorem clate_en (eb:Nat)(n:Int)(older:List PanicEntry)(w:World){f:Value}(i:w.cell? ⟨eb,0,none⟩=some f)(ze:w.frozen? ⟨eb,0,none⟩=false) :
  CallsD Tryz.prog 84 #[.pointer (some ⟨eb,0,none⟩)] (.panicking ({ v:=.iface 36 (.int .i64 n),recovered:=false } :: older)) w fun e d w' =>
   e=.returned (.tuple #[])/\d=.panicking ({ v:=.iface 36 (.int .i64 n),recovered:=true } :: older)/\w'=w.setCell ⟨eb,0,none⟩ (.iface 36 (.int .i64 n)):=by
 refine callsD_of_wpS Tryz.func84 rfl fun h g c=>?_
 apply wpS_seq
 apply wpS_region
 simp[wpOpsS,go_sem,recoverD,c,Tryz.ntmps84,Exit.thenS]
 refine wpS_of_wp ?_
 generalize b:(fun (e:Exit) (a:Act) (w':World)=>bodyPostS Tryz.prog _ _ _ _ e a _ w')=Q
 show Code.wp Tryz.prog _ _ { tmps:=#[.pointer (some ⟨eb,0,none⟩),.iface 36 (.int .i64 n),.iface 36 (.int .i64 n),undef,undef,undef,undef],defers:=[] } w
 go_wp2_with fail
 refine(ccaught_en _ w).mono ?_
 rintro e w'⟨rfl,rfl⟩
 go_wp2_with fail
 subst b
 simp[bodyPostS,results,Tryz.results84]
theorem clate_idle (e:Addr)(w:World) :
  CallsD Tryz.prog 84 #[.pointer (some e)] .returning w fun e f w'=>e=.returned (.tuple #[])/\f=.returning/\w'=w:=by
 refine callsD_of_wpS Tryz.func84 rfl fun b g d=>?_
 apply wpS_seq
 apply wpS_region
 simp[wpOpsS,go_sem,recoverD,d,Tryz.ntmps84,Exit.thenS]
 refine wpS_of_wp ?_
 generalize c:(fun (e:Exit) (a:Act) (w':World)=>bodyPostS Tryz.prog _ _ _ _ e a _ w')=Q
 show Code.wp Tryz.prog _ _ { tmps:=#[.pointer (some e),.nilIface,.nilIface,undef,undef,undef,undef],defers:=[] } w
 go_wp2_with fail
 subst c
 cases b
 simp_all [bodyPostS,results,Tryz.results84]
end Go.Proofs.YtbkndnmglhghlaaGreatDoor

namespace Go.Proofs.YtbkndnmglhghlaaGreatDoor
open Go.RowKit
open Tp (Bs Th Sy Seen X S)
variable {a:Act}{t1 t2:Array Value}{R:Ending->World->Prop}{eb:Nat}{Sn:Seen}{w:World}
def CheckP (w:World) (res:Tp.Ck) (e:Ending) (w':World):Prop:=Below w.heap.size w w'/\match res with
 |none=>e=.returned .nilIface
 |some (en,none)=>e=.returned (.iface 36 (.int .i64 (en:Int)))
 |some (en,some pl)=>∃ab,e=.returned (.iface 141 (.pointer (some ⟨ab,0,none⟩)))/\w.heap.size<=ab/\w'.cell? ⟨ab,0,none⟩=some (.int .i64 (en:Int))/\w'.cell? ⟨ab,1,none⟩=some (.int .i64 (pl:Int))
theorem kO {P:Program}{g:Func}(h:∀w v,(results g t1).run P w=.ok v w->(results g t2).run P w=.ok v w):∀(b:List Deferred) (u:FrameMode) (w:World),Leaves P g t1 R b u w->Leaves P g t2 R b u w:=by
 intro b
 induction b with
 |nil =>
  intro u w a
  cases u with
  |returning=>obtain⟨v,i,j⟩:=a;exact⟨v,h w v i,j⟩
  |panicking c=>exact a
  |run=>exact a
 |cons d b ih =>
  intro u w a
  unfold Leaves at a ⊢
  obtain⟨i,l,cap,f,args,j,m,n⟩:=a
  refine⟨i,l,cap,f,args,j,m,CallsD.mono n ?_⟩
  intro e o w' k
  cases e with
  |returned v=>exact ih _ _ k
  |panicked c=>exact ih _ _ k
  |outgrown=>exact k
theorem jF (h:t1[4]?=t2[4]?):results Tryz.f40 t1=results Tryz.f40 t2:=by
 simp[results,Tryz.results40,h]
theorem kY {d:Nat}(hd:d≠4)(v:Value)(c:List PanicEntry)(a:Act)(w:World)(h:bodyPostD Tryz.prog Tryz.f40 R (.panic c) (a.put (some d) v) w):bodyPostD Tryz.prog Tryz.f40 R (.panic c) a w:=by
 unfold bodyPostD at h ⊢
 refine kO (fun w u b=>?_) _ _ _ h
 rw[<-b]
 rw[jF]
 show a.tmps[4]?=(a.tmps.setIfInBounds d v)[4]?
 rw[Array.getElem?_setIfInBounds_ne hd]
def dfr (eb:Nat):List Deferred:=[{ target:=Target.fn (Fn.func 84) #[.pointer (some ⟨eb,0,none⟩)],args:=#[] }]
theorem jy {c:World}{d:Tp.Ck}{b:Nat}(l:a.tmps[4]?=some (.pointer (some ⟨eb,0,none⟩)))(hd:a.defers=dfr eb)(g:c.heap[eb]?=some (.cells #[.nilIface] 33 (0,0)))
  (h:CheckP w d (.returned (.iface 141 (.pointer (some ⟨b,0,none⟩)))) (c.setCell ⟨eb,0,none⟩ (.iface 141 (.pointer (some ⟨b,0,none⟩))))) :
  bodyPostD Tryz.prog Tryz.f40 (CheckP w d) (.panic [{ v:=.iface 141 (.pointer (some ⟨b,0,none⟩)),recovered:=false }]) a c:=by
 show Leaves Tryz.prog Tryz.f40 a.tmps (CheckP w d) a.defers (.panicking _) c
 rw[hd]
 unfold dfr
 refine leaves_cons (f:=84) (args:=#[.pointer (some ⟨eb,0,none⟩)]) (by simp) (by simp[go_sem]) ?_
 refine(clate_at eb b [] c ((za g).trans rfl) (zi g)).mono ?_
 rintro e n j⟨rfl,rfl,i⟩
 have k:j.cell? ⟨eb,0,none⟩=some (.iface 141 (.pointer (some ⟨b,0,none⟩))):=by rw[i];exact(za (zy 0 _ g)).trans rfl
 rw[<-i]at h
 refine kO (t1:=#[undef,undef,undef,undef,.pointer (some ⟨eb,0,none⟩)]) (fun w u m=>by rw[<-m];rw[jF];rw[l];rfl) _ _ _ ?_
 simp[Leaves,settle,results,Tryz.results40,go_sem,k]
 exact h
theorem cdies_en {b:World}{c:Tp.Ck}{n:Int}(j:a.tmps[4]?=some (.pointer (some ⟨eb,0,none⟩)))(hd:a.defers=dfr eb)(d:b.heap[eb]?=some (.cells #[.nilIface] 33 (0,0)))
  (g:CheckP w c (.returned (.iface 36 (.int .i64 n))) (b.setCell ⟨eb,0,none⟩ (.iface 36 (.int .i64 n)))) :
  bodyPostD Tryz.prog Tryz.f40 (CheckP w c) (.panic [{ v:=.iface 36 (.int .i64 n),recovered:=false }]) a b:=by
 show Leaves Tryz.prog Tryz.f40 a.tmps (CheckP w c) a.defers (.panicking _) b
 rw[hd]
 unfold dfr
 refine leaves_cons (f:=84) (args:=#[.pointer (some ⟨eb,0,none⟩)]) (by simp) (by simp[go_sem]) ?_
 refine(clate_en eb n [] b ((za d).trans rfl) (zi d)).mono ?_
 rintro e m i⟨rfl,rfl,h⟩
 have k:i.cell? ⟨eb,0,none⟩=some (.iface 36 (.int .i64 n)):=by rw[h];exact(za (zy 0 _ d)).trans rfl
 rw[<-h]at g
 refine kO (t1:=#[undef,undef,undef,undef,.pointer (some ⟨eb,0,none⟩)]) (fun w u l=>by rw[<-l];rw[jF];rw[j];rfl) _ _ _ ?_
 simp[Leaves,settle,results,Tryz.results40,go_sem,k]
 exact g
theorem imps_at {own:Bs}{S:Seen}:∀{l b:List Bs}{a:Nat×Option Nat},Tp.imps own S b l=some a->a.2=none:=by
 intro l
 induction l with
 |nil=>intro b a h;simp[Tp.imps]at h
 |cons n t ih =>
  intro b a h
  rw[Tp.imps]at h
  split at h
  ·cases h;rfl
  ·split at h
   ·cases h;rfl
   ·exact ih h
theorem fnd_new {a n:Nat}{fs:Near}{vs:List Value}{c:Nat}{t1 t2 t3:TypeId}(h:SeenM w a n Sn)(_hl:vs.length=fs.length)(l:∀i (h:i<fs.length),∃gb k,vs[i]?=some (.map (some gb))/\MapV w gb k (fun q=>(fs[i] q).map thV)) :
  Fnd (((w.alloc (.cells vs.toArray t1)).alloc (.cells #[.map (some a)] t2)).alloc (.cells #[.slice (some ⟨w.heap.size,0,none⟩) fs.length c] t3)) (w.heap.size+1) Sn fs:=by
 have e:Below w.heap.size w (((w.alloc (.cells vs.toArray t1)).alloc (.cells #[.map (some a)] t2)).alloc (.cells #[.slice (some ⟨w.heap.size,0,none⟩) fs.length c] t3)):=((zb _ _).alloc (by simp) _).alloc (by simp;omega) _
 have b:(((w.alloc (.cells vs.toArray t1)).alloc (.cells #[.map (some a)] t2)).alloc (.cells #[.slice (some ⟨w.heap.size,0,none⟩) fs.length c] t3)).heap[w.heap.size]?=some (.cells vs.toArray t1 (0,0)):=((Below.heap_alloc _ _ _ (by simp;omega)).trans (Below.heap_alloc _ _ _ (by simp))).trans (zl _ _)
 have g:(((w.alloc (.cells vs.toArray t1)).alloc (.cells #[.map (some a)] t2)).alloc (.cells #[.slice (some ⟨w.heap.size,0,none⟩) fs.length c] t3)).heap[w.heap.size+1]?=some (.cells #[.map (some a)] t2 (0,0)):=(Below.heap_alloc _ _ _ (by simp)).trans (by simpa using zl (w.alloc (.cells vs.toArray t1)) (.cells #[.map (some a)] t2))
 have d:(((w.alloc (.cells vs.toArray t1)).alloc (.cells #[.map (some a)] t2)).alloc (.cells #[.slice (some ⟨w.heap.size,0,none⟩) fs.length c] t3)).heap[w.heap.size+1+1]?=some (.cells #[.slice (some ⟨w.heap.size,0,none⟩) fs.length c] t3 (0,0)):=by simpa using zl ((w.alloc (.cells vs.toArray t1)).alloc (.cells #[.map (some a)] t2)) (.cells #[.slice (some ⟨w.heap.size,0,none⟩) fs.length c] t3)
 refine⟨⟨a,n,(za g).trans rfl,h.on e⟩,⟨w.heap.size,c,(za d).trans rfl,⟨zc b,fun i j=>?_⟩⟩,zc d⟩
 obtain⟨gb,k,m,f⟩:=l i j
 refine⟨gb,k,?_,f.on (e.block _ f.lt)⟩
 rw[za b]
 simpa using m
theorem check_walk {nm:Bs}{b2 gn pn H ic gc pc G:Nat}{ia ga pa F:Option Addr}{sv:Value}{is:List Bs}{tl:List Th}{ol:Nat->List Th}{sr:Nat->Option (Nat×Nat)}{br:Option (Nat×Nat)}(m7:∃so,sv=.map so)
  (hI:∀W,Below w.heap.size w W->Calls Tryz.prog 86 #[.agg #[.string (bs nm),.slice ia b2 ic,.slice ga gn gc,.slice pa pn pc,.slice F H G],sv] W (ImpP W nm is Sn))
  (hG:∀W,Below w.heap.size w W->Calls Tryz.prog 87 #[.agg #[.string (bs nm),.slice ia b2 ic,.slice ga gn gc,.slice pa pn pc,.slice F H G]] W (MapP W tl))
  (hP:∀i,i<pn->∃(g:Nat) (Z:Bs) (x1:Nat) (x2:Bool) (y3 y4 L:Option Addr) (U V J R T I:Nat),pa=some ⟨g,0,none⟩/\g<w.heap.size/\w.cell? ⟨g,i*6,none⟩=some (.string (bs Z))/\w.cell? ⟨g,i*6+1,none⟩=some (.int .i64 (x1:Int))/\w.cell? ⟨g,i*6+2,none⟩=some (.bool x2)/\w.cell? ⟨g,i*6+3,none⟩=some (.slice y3 U R)/\w.cell? ⟨g,i*6+4,none⟩=some (.slice y4 V T)/\w.cell? ⟨g,i*6+5,none⟩=some (.slice L J I) /\
   (∀W,Below w.heap.size w W->Calls Tryz.prog 90 #[.agg #[.string (bs Z),.int .i64 (x1:Int),.bool x2,.slice y3 U R,.slice y4 V T,.slice L J I]] W (MapP W (ol i))) /\
   (∀W b,Below w.heap.size w W->Fnd W b (fun k=>if k∈is then Sn k else none) [Tp.lkT (ol i),Tp.lkT tl]->Calls Tryz.prog 88 #[.slice L J I,finderV b] W (CkP W (sr i))))
  (hB:∀W b,Below w.heap.size w W->Fnd W b (fun k=>if k∈is then Sn k else none) [Tp.lkT tl]->Calls Tryz.prog 88 #[.slice F H G,finderV b] W (CkP W br))(o2:pn<=1000)
  {t:Tp.Ck}(f2:t=(Tp.imps nm Sn [] is).or (Tp.up ((Tp.twP tl 0).or (((List.range pn).findSome? fun i=>(Tp.twP (ol i) 0).or (sr i)).or br)))) :
  Calls Tryz.prog 40 #[.agg #[.string (bs nm),.slice ia b2 ic,.slice ga gn gc,.slice pa pn pc,.slice F H G],sv] w (CheckP w t):=by
 have o1:=zm
 obtain⟨so,rfl⟩:=m7
 obtain⟨l,b1⟩:∃l,l=(w.alloc (.cells #[.string (bs nm),.slice ia b2 ic,.slice ga gn gc,.slice pa pn pc,.slice F H G] 66)).alloc (.cells #[.nilIface] 33):=⟨_,rfl⟩
 have e6:Below w.heap.size w l:=by rw[b1];exact(zb _ _).alloc (by simp) _
 have n9:l.heap.size=w.heap.size+2:=by rw[b1];simp
 have e7:l.heap[w.heap.size]?=some (.cells #[.string (bs nm),.slice ia b2 ic,.slice ga gn gc,.slice pa pn pc,.slice F H G] 66 (0,0)):=by rw[b1];exact(Below.heap_alloc _ _ _ (by simp)).trans (zl _ _)
 have g1:l.heap[w.heap.size+1]?=some (.cells #[.nilIface] 33 (0,0)):=by
  rw[b1]
  have:=zl (w.alloc (.cells #[.string (bs nm),.slice ia b2 ic,.slice ga gn gc,.slice pa pn pc,.slice F H G] 66)) (.cells #[.nilIface] 33)
  simpa using this
 obtain⟨k0,k1,k2,k3,k4⟩:=zW e7
 have HI:=zh (hI l e6)
 have HG:=zh hG
 have HP:=zh hP
 have i5:=zh hB
 have d9:=zh f2
 have a3:=zh e6
 have e2:=zh e7
 have i6:=zh g1
 have n2:(pn:Int)<=1000:=by omega
 have e9:w.heap.size<l.heap.size:=by omega
 clear hI hG hP hB f2 e6 e7 g1
 go_enter_defers Tryz.func40,Tryz.ntmps40
 go_upto_region 2 with fail
 rw[<-b1]
 clear b1
 go_wp2_with fail
 have a8:Hid (∀M,Below l.heap.size l M->M.heap[w.heap.size+1]?=some (.cells #[.nilIface] 33 (0,0))):=fun M h=>(h.block _ (by omega)).trans i6.out
 have c8:Hid (∀(M:World) (m:Nat×Nat) (s:Nat),Below l.heap.size l M->l.heap.size<=s->M.cell? ⟨s,0,none⟩=some (.int .i64 (m.1:Int))->M.cell? ⟨s,1,none⟩=some (.int .i64 (m.2:Int))->t=some (m.1,some m.2) ->
   CheckP w t (.returned (.iface 141 (.pointer (some ⟨s,0,none⟩)))) (M.setCell ⟨w.heap.size+1,0,none⟩ (.iface 141 (.pointer (some ⟨s,0,none⟩))))):=by
  intro M m s h1 h2 h3 h4 h5
  refine⟨zu (a3.out.trans (h1.mono (by omega))) (by omega) 0 _,?_⟩
  rw[h5]
  exact⟨s,rfl,by omega,by rw[World.cell?_setCell_far _ _ _ _ (by simp;omega)];exact h3,by rw[World.cell?_setCell_far _ _ _ _ (by simp;omega)];exact h4⟩
 refine HI.out.mono ?_
 intro e w1 d
 unfold ImpP at d
 cases a2:Tp.imps nm Sn [] is with
 |some m =>
  rw[a2]at d
  obtain⟨P,rfl⟩:=d
  have b7:Hid (t=some (m.1,none)):=by unfold Hid;rw[d9.out,a2];exact congrArg some (Prod.ext rfl (imps_at a2))
  have H1:=zh P
  clear a2 P
  unfold thrownE
  go_wp2_with fail
  refine cdies_en (eb:=w.heap.size+1) rfl rfl (a8.out w1 H1.out) ⟨zu (a3.out.trans (H1.out.mono (by omega))) (by omega) 0 _,?_⟩
  rw[b7.out]
 |none =>
  rw[a2]at d
  obtain⟨P,ob,on,rfl,n1,g6⟩:=d
  have i4:=zh P
  have h8:=P.size
  have f6:=zh g6
  have f5:=zh (HG.out w1 (a3.out.trans (P.mono (by omega))))
  have b7:Hid (t=Tp.up ((Tp.twP tl 0).or (((List.range pn).findSome? fun i=>(Tp.twP (ol i) 0).or (sr i)).or br))):=by unfold Hid;rw[d9.out,a2];rfl
  obtain⟨l0,l1,l2,l3,l4⟩:=zW ((P.block _ e9).trans e2.out)
  have n6:w.heap.size<w1.heap.size:=by omega
  clear a2 P g6 k0 k1 k2 k3 k4 d9 HI HG
  go_wp2_with fail
  refine f5.out.mono ?_
  intro e B d
  obtain⟨d6,d⟩:=d
  have b4:Hid (Below l.heap.size l B):=i4.out.trans (d6.mono h8)
  have h9:=b4.out.size
  cases b0:Tp.twP tl 0 with
  |some m =>
   rw[b0]at d
   have b8:Hid (t=some (m.1,some m.2)):=by unfold Hid;rw[b7.out,b0];rfl
   obtain⟨s,q1,rfl,X,Y⟩:=d.out
   have Q2:=zh X
   have Q3:=zh Y
   clear b0 d X Y d6
   go_wp2_with fail
   exact jy (eb:=w.heap.size+1) rfl rfl (a8.out B b4.out) (c8.out B m s b4.out (by omega) Q2.out Q3.out b8.out)
  |none =>
   rw[b0]at d
   obtain⟨gb,f8,rfl,m8,_,g2⟩:=d
   have c9:=zh g2
   have f1:=zh (f6.out.on d6)
   have b8:Hid (t=Tp.up (((List.range pn).findSome? fun i=>(Tp.twP (ol i) 0).or (sr i)).or br)):=by unfold Hid;rw[b7.out,b0];rfl
   obtain⟨j0,j1,j2,j3,j4⟩:=zW ((b4.out.block _ e9).trans e2.out)
   have n7:w.heap.size<B.heap.size:=by omega
   clear b0 d6 g2 l0 l1 l2 l3 l4 f6 b7 f5
   go_wp2_with fail
   go_loopg [18] pn (fun k vi wr=>∃i:Nat,i<=pn/\k=pn-i/\vi=.int .i64 (i:Int)/\Hid (Below B.heap.size B wr)/\Hid (∀j,j<i->(Tp.twP (ol j) 0).or (sr j)=none))
   case atStart=>exact⟨0,by omega,by omega,rfl,Below.refl _ _,fun j hj=>absurd hj (by omega)⟩
   case round =>
    obtain⟨i,o0,hk,rfl,HB,HN⟩:=hrel
    have i3:=HB.out.size
    have O:Hid (Below l.heap.size l wr):=b4.out.trans (HB.out.mono h9)
    by_cases e8:i<pn
    ·have h7:(i:Int)<(pn:Int):=by omega
     obtain⟨g,Z,x1,x2,y3,y4,L,U,V,J,R,T,I,m4,m5,d0,d1,d2,d3,d4,d5,g5,g7⟩:=HP.out i e8
     subst m4
     have d7:Below w.heap.size w wr:=a3.out.trans (O.out.mono (by omega))
     have a0:∀(o:Nat) (u:Value),w.cell? ⟨g,o,none⟩=some u->wr.cell? ⟨g,o,none⟩=some u:=fun o u h=>(d7.cell (p:=⟨g,o,none⟩) m5).trans h
     have o3:=a0 _ _ d0
     have o4:=a0 _ _ d1
     have o5:=a0 _ _ d2
     have o6:=a0 _ _ d3
     have o7:=a0 _ _ d4
     have o8:=a0 _ _ d5
     have m9:g<wr.heap.size:=by have:=d7.size;omega
     have m0:=zh g5
     have m2:=zh g7
     have f3:=zh d7
     clear d0 d1 d2 d3 d4 d5 a0 g5 g7 d7
     obtain⟨x,c6⟩:∃x,x=wr.alloc (.cells #[.string (bs Z),.int .i64 (x1:Int),.bool x2,.slice y3 U R,.slice y4 V T,.slice L J I] 157):=⟨_,rfl⟩
     have f9:Below wr.heap.size wr x:=by rw[c6];exact zb _ _
     have g3:x.heap[wr.heap.size]?=some (.cells #[.string (bs Z),.int .i64 (x1:Int),.bool x2,.slice y3 U R,.slice y4 V T,.slice L J I] 157 (0,0)):=by rw[c6];exact zl _ _
     have m6:wr.heap.size<x.heap.size:=by rw[c6];simp
     have D:Hid (∀W,Below x.heap.size x W->W.cell? ⟨wr.heap.size,0,none⟩=some (.string (bs Z))/\W.cell? ⟨wr.heap.size,1,none⟩=some (.int .i64 (x1:Int))/\W.cell? ⟨wr.heap.size,2,none⟩=some (.bool x2)/\W.cell? ⟨wr.heap.size,3,none⟩=some (.slice y3 U R)/\W.cell? ⟨wr.heap.size,4,none⟩=some (.slice y4 V T)/\W.cell? ⟨wr.heap.size,5,none⟩=some (.slice L J I)):=fun W A=>yT ((A.block _ m6).trans g3)
     have b5:=zh f9
     clear g3 f9
     go_upto_region 7 with fail
     rw[<-c6]
     clear c6
     refine wp_region_held_drew (S:=fun W=>W.cell? ⟨wr.heap.size,0,none⟩=some (.string (bs Z))/\W.cell? ⟨wr.heap.size,1,none⟩=some (.int .i64 (x1:Int))/\W.cell? ⟨wr.heap.size,2,none⟩=some (.bool x2)/\W.cell? ⟨wr.heap.size,3,none⟩=some (.slice y3 U R)/\W.cell? ⟨wr.heap.size,4,none⟩=some (.slice y4 V T)/\W.cell? ⟨wr.heap.size,5,none⟩=some (.slice L J I)) (by kernel_rfl) (D.out _ ((Below.refl _ _).drew)) (fun r=>?_)
     refine wpAnyH_take (i:=0) (v:=.pointer (some ⟨wr.heap.size,5,none⟩)) rfl (by kernel_rfl) (by kernel_rfl) (by kernel_rfl) (fun c a w h=>kY (by decide) _ c a w h) (Or.inl ⟨by rfl,fun W A=>by go_simp⟩) r ?_
     go_frame
     refine wpAnyH_take (i:=1) (v:=.slice L J I) rfl (by kernel_rfl) (by kernel_rfl) (by kernel_rfl) (fun c a w h=>kY (by decide) _ c a w h) (Or.inl ⟨by rfl,fun W A=>by go_simp⟩) r ?_
     go_frame
     refine wpAnyH_take (i:=2) (v:=.map (some ob)) rfl (by kernel_rfl) (by kernel_rfl) (by kernel_rfl) (fun c a w h=>kY (by decide) _ c a w h) (Or.inl ⟨by rfl,fun W A=>by go_simp⟩) r ?_
     go_frame
     refine wpAnyH_take (i:=3) (v:=.agg #[.string (bs Z),.int .i64 (x1:Int),.bool x2,.slice y3 U R,.slice y4 V T,.slice L J I]) rfl (by kernel_rfl) (by kernel_rfl) (by kernel_rfl) (fun c a w h=>kY (by decide) _ c a w h) (Or.inl ⟨by rfl,fun W A=>by go_simp⟩) r ?_
     go_frame
     refine wpAnyH_take (i:=5) (v:=.map (some gb)) rfl (by kernel_rfl) (by kernel_rfl) (by kernel_rfl) (fun c a w h=>kY (by decide) _ c a w h) (Or.inl ⟨by rfl,fun W A=>by go_simp⟩) r ?_
     go_frame
     refine wpAnyH_ready (rs:=[4]) (by kernel_rfl) (by simp) ?_
     refine AllReadyH.cons rfl (fun K n=>?_) AllReadyH.nil
     go_simp
     have i7:Hid (Below w.heap.size w x.drew):=(f3.out.trans (b5.out.mono f3.out.size)).trans ((Below.refl _ _).drew)
     refine(m0.out _ i7.out).mono ?_
     intro e y d
     obtain⟨g0,d⟩:=d
     have b3:Below x.heap.size x y:=((Below.refl _ _).drew).trans g0
     have a7:Hid (Below l.heap.size l y):=(O.out.trans (b5.out.mono O.out.size)).trans (b3.mono (by have:=b5.out.size;have:=O.out.size;omega))
     have i1:wr.heap.size<=x.heap.size:=b5.out.size
     have i2:x.heap.size<=y.heap.size:=b3.size
     cases c2:Tp.twP (ol i) 0 with
     |some m =>
      rw[c2]at d
      have a9:Hid (t=some (m.1,some m.2)):=by
       unfold Hid
       rw[b8.out,zP (f:=fun i=>(Tp.twP (ol i) 0).or (sr i)) e8 HN.out (show (Tp.twP (ol i) 0).or (sr i)=some m by rw[c2];rfl)]
       rfl
      obtain⟨s,q1,rfl,X,Y⟩:=d.out
      have m3:l.heap.size<=s:=by have:x.drew.heap.size=x.heap.size:=rfl;have:=O.out.size;omega
      exact jy (eb:=w.heap.size+1) rfl rfl (a8.out y a7.out) (c8.out y m s a7.out m3 X Y a9.out)
     |none =>
      rw[c2]at d
      obtain⟨lb,ln,rfl,_,_,g4⟩:=d
      have i9:=zh g4
      have f7:=zh c2
      have c7:Hid (Below B.heap.size B y):=HB.out.trans ((b5.out.trans (b3.mono i1)).mono i3)
      have e4:=zh b3
      clear g4 c2 g0 b3
      go_frame
      refine n.out _ _ (D.out _ e4.out) (fun r=>?_)
      clear n
      refine wpAnyH_ready (rs:=[6]) (by kernel_rfl) (by simp) ?_
      refine AllReadyH.cons rfl (fun K n=>?_) AllReadyH.nil
      go_simp
      refine n.out _ _ (D.out _ (e4.out.alloc (by omega) _)) (fun r=>?_)
      clear n K
      refine wpAnyH_ready (rs:=[7]) (by kernel_rfl) (by simp) ?_
      refine AllReadyH.cons rfl (fun K n=>?_) AllReadyH.nil
      go_simp
      have b6:=zh (fnd_new (w:=y) (fs:=[Tp.lkT (ol i),Tp.lkT tl]) (vs:=[.map (some lb),.map (some gb)]) (c:=2) (t1:=162) (t2:=100) (t3:=224) (f1.out.on c7.out) rfl (fun j hj=>by
       match j,hj with
       | 0,_=>exact⟨lb,ln,rfl,i9.out⟩
       | 1,_=>exact⟨gb,f8,rfl,c9.out.on (c7.out.block _ c9.out.lt)⟩))
      refine(xh _ (.map (some ob)) (.slice (some ⟨y.heap.size,0,none⟩) 2 2) ⟨_,rfl⟩ ⟨_,_,_,rfl⟩).mono ?_
      rintro e C⟨rfl,a6⟩
      have E:Below y.heap.size y C:=by rw[a6];exact((zb _ _).alloc (by simp) _).alloc (by simp;omega) _
      have c0:Fnd C (y.heap.size+1) (fun k=>if k∈is then Sn k else none) [Tp.lkT (ol i),Tp.lkT tl]:=by rw[a6];exact b6.out
      have g8:=E.size
      have e0:(y.alloc (.cells #[.map (some lb),.map (some gb)] 162)).heap.size=y.heap.size+1:=by simp
      rw[e0]
      have e1:Hid (Below w.heap.size w C):=(a3.out.trans (a7.out.mono (by omega))).trans (E.mono (by have:=a7.out.size;omega))
      have N:Hid (Below l.heap.size l C):=a7.out.trans (E.mono a7.out.size)
      have a5:=zh (e4.out.trans (E.mono i2))
      have f0:Hid (Below B.heap.size B C):=c7.out.trans (E.mono c7.out.size)
      have a4:=zh (m2.out C (y.heap.size+1) e1.out c0)
      clear a6 c0 E b6
      simp only[finderV]at a4 ⊢
      try go_frame
      refine n.out _ _ (D.out _ a5.out) (fun r=>?_)
      clear n K
      refine wpAnyH_ready (rs:=[8]) (by kernel_rfl) (by simp) ?_
      refine AllReadyH.cons rfl (fun K n=>?_) AllReadyH.nil
      go_simp
      refine a4.out.mono ?_
      intro e z d
      obtain⟨Q,d⟩:=d
      have a1:Hid (Below l.heap.size l z):=N.out.trans (Q.mono N.out.size)
      have g9:=N.out.size
      cases c1:sr i with
      |some m =>
       rw[c1]at d
       have a9:Hid (t=some (m.1,some m.2)):=by
        unfold Hid
        rw[b8.out,zP (f:=fun i=>(Tp.twP (ol i) 0).or (sr i)) e8 HN.out (show (Tp.twP (ol i) 0).or (sr i)=some m by rw[f7.out,c1];rfl)]
        rfl
       obtain⟨s,q1,rfl,X,Y⟩:=d.out
       exact jy (eb:=w.heap.size+1) rfl rfl (a8.out z a1.out) (c8.out z m s a1.out (by omega) X Y a9.out)
      |none =>
       rw[c1]at d
       simp only at d
       subst d
       have h0:Hid (Below B.heap.size B z):=f0.out.trans (Q.mono f0.out.size)
       have m1:Hid (∀j,j<i+1->(Tp.twP (ol j) 0).or (sr j)=none):=fun j hj=>by
        rcases Nat.lt_or_ge j i with q|q
        ·exact HN.out j q
        ·have:j=i:=by omega
         subst this
         rw[f7.out,c1]
         rfl
       have e5:=zh (a5.out.trans (Q.mono a5.out.size))
       clear c1 Q a4
       go_frame
       refine n.out _ _ (D.out _ e5.out) (fun r=>?_)
       clear n K
       refine wpAnyH_done (by kernel_rfl) ?_ _
       clear r
       go_wp2_with fail
       go_roundg (pn-(i+1))
       case measure=>omega
       case rel=>exact⟨i+1,by omega,rfl,by go_num,h0,m1⟩
    ·have h7:¬(i:Int)<(pn:Int):=by omega
     have f4:Hid ((List.range pn).findSome? (fun i=>(Tp.twP (ol i) 0).or (sr i))=none):=yz (fun j hj=>HN.out j (by omega))
     have a9:Hid (t=Tp.up br):=by unfold Hid;rw[b8.out,f4.out];rfl
     have i0:=O.out.size
     have D:Hid (∀W,Below wr.heap.size wr W->W.cell? ⟨w.heap.size,4,none⟩=some (.slice F H G)):=fun W A=>(zW ((A.block _ (by omega)).trans ((O.out.block _ e9).trans e2.out))).2.2.2.2
     have k4:=D.out wr (Below.refl _ _)
     have n8:w.heap.size<wr.heap.size:=by omega
     clear f4
     go_upto_region 9 with fail
     refine wp_region_held_drew (S:=fun W=>W.cell? ⟨w.heap.size,4,none⟩=some (.slice F H G)) (by kernel_rfl) (D.out _ ((Below.refl _ _).drew)) (fun r=>?_)
     refine wpAnyH_take (i:=0) (v:=.pointer (some ⟨w.heap.size,4,none⟩)) rfl (by kernel_rfl) (by kernel_rfl) (by kernel_rfl) (fun c a w h=>kY (by decide) _ c a w h) (Or.inl ⟨by rfl,fun W A=>by go_simp⟩) r ?_
     go_frame
     refine wpAnyH_take (i:=1) (v:=.slice F H G) rfl (by kernel_rfl) (by kernel_rfl) (by kernel_rfl) (fun c a w h=>kY (by decide) _ c a w h) (Or.inl ⟨by rfl,fun W A=>by go_simp⟩) r ?_
     go_frame
     refine wpAnyH_take (i:=2) (v:=.map (some ob)) rfl (by kernel_rfl) (by kernel_rfl) (by kernel_rfl) (fun c a w h=>kY (by decide) _ c a w h) (Or.inl ⟨by rfl,fun W A=>by go_simp⟩) r ?_
     go_frame
     refine wpAnyH_take (i:=3) (v:=.map (some gb)) rfl (by kernel_rfl) (by kernel_rfl) (by kernel_rfl) (fun c a w h=>kY (by decide) _ c a w h) (Or.inl ⟨by rfl,fun W A=>by go_simp⟩) r ?_
     go_frame
     refine wpAnyH_ready (rs:=[4]) (by kernel_rfl) (by simp) ?_
     refine AllReadyH.cons rfl (fun K n=>?_) AllReadyH.nil
     go_simp
     refine n.out _ _ (D.out _ ((zb _ _).drew)) (fun r=>?_)
     clear n K
     refine wpAnyH_ready (rs:=[5]) (by kernel_rfl) (by simp) ?_
     refine AllReadyH.cons rfl (fun K n=>?_) AllReadyH.nil
     go_simp
     have b6:=zh (fnd_new (w:=wr.drew) (fs:=[Tp.lkT tl]) (vs:=[.map (some gb)]) (c:=1) (t1:=162) (t2:=100) (t3:=224) (f1.out.on (HB.out.trans ((Below.refl _ _).drew))) rfl (fun j hj=>by
      match j,hj with
      | 0,_=>exact⟨gb,f8,rfl,c9.out.on (HB.out.block _ c9.out.lt)⟩))
     refine(xh _ (.map (some ob)) (.slice (some ⟨wr.heap.size,0,none⟩) 1 1) ⟨_,rfl⟩ ⟨_,_,_,rfl⟩).mono ?_
     rintro e C⟨rfl,a6⟩
     have E:Below wr.heap.size wr C:=by rw[a6];exact(((zb _ _).drew).alloc (by simp) _).alloc (by simp;omega) _
     have c0:Fnd C (wr.heap.size+1) (fun k=>if k∈is then Sn k else none) [Tp.lkT tl]:=by rw[a6];exact b6.out
     have g8:=E.size
     have e0:(wr.alloc (.cells #[.map (some gb)] 162)).drew.heap.size=wr.heap.size+1:=by simp
     rw[e0]
     have N:Hid (Below l.heap.size l C):=O.out.trans (E.mono i0)
     have e1:Hid (Below w.heap.size w C):=a3.out.trans (N.out.mono (by omega))
     have a5:=zh E
     have a4:=zh (i5.out C (wr.heap.size+1) e1.out c0)
     clear a6 c0 E b6
     simp only[finderV]at a4 ⊢
     try go_frame
     refine n.out _ _ (D.out _ a5.out) (fun r=>?_)
     clear n K
     refine wpAnyH_ready (rs:=[6]) (by kernel_rfl) (by simp) ?_
     refine AllReadyH.cons rfl (fun K n=>?_) AllReadyH.nil
     go_simp
     refine a4.out.mono ?_
     intro e z d
     obtain⟨Q,d⟩:=d
     have a1:Hid (Below l.heap.size l z):=N.out.trans (Q.mono N.out.size)
     have g9:=N.out.size
     cases b9:br with
     |some m =>
      rw[b9]at d
      have e3:Hid (t=some (m.1,some m.2)):=by unfold Hid;rw[a9.out,b9];rfl
      obtain⟨s,q1,rfl,X,Y⟩:=d.out
      exact jy (eb:=w.heap.size+1) rfl rfl (a8.out z a1.out) (c8.out z m s a1.out (by omega) X Y e3.out)
     |none =>
      rw[b9]at d
      simp only at d
      subst d
      have e3:Hid (t=none):=by unfold Hid;rw[a9.out,b9];rfl
      have e5:=zh (a5.out.trans (Q.mono a5.out.size))
      clear b9 Q a4
      try go_frame
      refine n.out _ _ (D.out _ e5.out) (fun r=>?_)
      clear n K
      refine wpAnyH_done (by kernel_rfl) ?_ _
      clear r
      have he:=a8.out z a1.out
      have ke:z.cell? ⟨w.heap.size+1,0,none⟩=some .nilIface:=(za he).trans rfl
      have ze:z.frozen? ⟨w.heap.size+1,0,none⟩=false:=zi he
      have n0:w.heap.size+1<z.heap.size:=zc he
      have i8:=zh he
      clear he
      go_wp2_with fail
      obtain⟨wd,d8⟩:∃wd,wd=z.setCell ⟨w.heap.size+1,0,none⟩ .nilIface:=⟨_,rfl⟩
      rw[<-d8]
      have kd:wd.cell? ⟨w.heap.size+1,0,none⟩=some .nilIface:=by rw[d8];exact(za (zy 0 .nilIface i8.out)).trans rfl
      have h6:CheckP w t (.returned .nilIface) wd:=by
       refine⟨by rw[d8];exact zu (a3.out.trans (a1.out.mono (by omega))) (by omega) 0 _,?_⟩
       rw[e3.out]
      clear d8
      refine leaves_cons (f:=84) (args:=#[.pointer (some ⟨w.heap.size+1,0,none⟩)]) (by simp) (by simp[go_sem]) ?_
      refine(clate_idle ⟨w.heap.size+1,0,none⟩ wd).mono ?_
      rintro e u' o9⟨rfl,rfl,rfl⟩
      simp[Leaves,settle,results,Tryz.results40,go_sem,kd]
      exact h6
end Go.Proofs.YtbkndnmglhghlaaGreatDoor

namespace Go.Proofs.YtbkndnmglhghlaaGreatDoor
open Go.RowKit
open Tp (Bs Th Sy Seen X S G Pr)
variable {B:Nat}{w w':World}
def olOf (m:Tp.M) (i:Nat):List Th:=match m.procs[i]? with
 |some p=>Tp.ownT p
 |none=>[]
def srOf (m:Tp.M) (Sn:Seen) (i:Nat):Option (Nat×Nat):=match m.procs[i]? with
 |some p=>(Tp.rs p.body).findSome? (Tp.judgeP (Tp.standV (Tp.others m Sn) [Tp.lkT (Tp.ownT p),Tp.lkT (Tp.things m)]))
 |none=>none
theorem xz {D:Nat->Prop}{a:Option Addr}{c:Nat}{l:List Bs}(h:Row w D 9 1 (.slice a l.length c) l.length (strs l))(i:Nat)(b:i<l.length):∃g,a=some ⟨g,0,none⟩/\g<w.heap.size/\w.cell? ⟨g,i,none⟩=some (.string (bs l[i])):=by
 obtain⟨g,cap,d,_,e,f⟩:=yI h (by omega)
 cases d
 refine⟨g,rfl,e,(f i (by omega)).trans ?_⟩
 simp[strs,b]
theorem check_post {m:Tp.M}(f:Tp.Sml m){w:World}{R O I L:Option Addr}{S P T N:Nat}(h:MB w w.heap.size m R O I L S P T N){sv:Value}{Sn:Seen}(Q:SeenV w sv Sn) :
  Calls Tryz.prog 40 #[.agg (mcells (bs m.name) (.slice R m.imports.length S) (.slice O m.vars.length P) (.slice I m.procs.length T) (.slice L m.body.length N)),sv] w (CheckP w (Tp.check m Sn)):=by
 have a4:∃so,sv=.map so:=by
  rcases Q with⟨q,_⟩|⟨sb,n,q,_⟩
  ·exact⟨_,q⟩
  ·exact⟨_,q⟩
 have K:∀W,Below w.heap.size w W->∀i (a:i<m.procs.length),∃(g:Nat) (pa' va ba':Option Addr) (pc' vc bc':Nat) (r:List Value),I=some ⟨g,0,none⟩/\g<w.heap.size/\(∀j,j<6->W.cell? ⟨g,i*6+j,none⟩=(pcells (bs m.procs[i].name) (m.procs[i].pos:Int) m.procs[i].seen (.slice pa' m.procs[i].params.length pc') (.slice va m.procs[i].vars.length vc) (.slice ba' m.procs[i].body.length bc')).toList[j]?) /\
   Row W (fun b=>b<w.heap.size) 9 1 (.slice pa' m.procs[i].params.length pc') m.procs[i].params.length (strs m.procs[i].params)/\Row W (fun b=>b<w.heap.size) 9 1 (.slice va m.procs[i].vars.length vc) m.procs[i].vars.length (strs m.procs[i].vars)/\RepS W (fun b=>b<w.heap.size) m.procs[i].body r/\OwnS W (fun b=>b<w.heap.size) (.slice ba' m.procs[i].body.length bc') m.procs[i].body.length r:=by
  intro W d i a
  obtain⟨a5,p1,p2⟩:=(h.on d).pr
  obtain⟨g,cap,k,o,c,y⟩:=yI p2 (by omega)
  cases k
  obtain⟨pv,vv,bv,Y,r1,U,V,r4,X⟩:=js m.procs a5 p1 i a
  obtain⟨z,t,rfl⟩:=U.shape
  obtain⟨A,u,rfl⟩:=V.shape
  obtain⟨B,v,rfl⟩:=X.shape
  exact⟨g,z,A,B,t,u,v,Y,rfl,o,fun j e=>(y (i*6+j) (by omega)).trans (r1 j e),U,V,r4,X⟩
 refine check_walk (is:=m.imports) (Sn:=Sn) (tl:=Tp.things m) (ol:=olOf m) (sr:=srOf m Sn) (br:=(Tp.rs m.body).findSome? (Tp.judgeP (Tp.standV (Tp.others m Sn) [Tp.lkT (Tp.things m)]))) a4 ?_ ?_ ?_ ?_ f.pc ?_
 ·intro W d
  refine xI (fun i a=>?_) rfl f.ic (Q.on d)
  obtain⟨g,k,o,c⟩:=xz (h.on d).im i a
  exact⟨g,m.imports[i],k,o,c,f.im _ (List.getElem_mem a),List.getElem?_eq_getElem a⟩
 ·intro W d
  have Z:=(h.on d).gl
  refine vC (l:=Tp.things m) (fun i a=>?_) (fun i a=>?_) (by simp[Tp.things]) f.gc f.pc
  ·obtain⟨g,cap,k,o,c,y⟩:=yI Z (by omega)
   cases k
   have D:=fun j (e:j<4)=>(y (i*4+j) (by omega)).trans (uA m.vars i a j e)
   refine⟨g,m.vars[i].name,m.vars[i].pos,m.vars[i].len,m.vars[i].seen,rfl,c,D 0 (by omega),D 1 (by omega),D 2 (by omega),D 3 (by omega),f.g _ (List.getElem_mem a),?_⟩
   unfold Tp.things
   rw[List.getElem?_append_left (by simpa using a)]
   simp[a,Tp.thG]
  ·obtain⟨g,z,A,B,t,u,v,r,k,o,c,_⟩:=K W d i a
   refine⟨g,m.procs[i].name,m.procs[i].pos,m.procs[i].seen,z,A,B,m.procs[i].params.length,m.procs[i].vars.length,m.procs[i].body.length,t,u,v,k,Nat.lt_of_lt_of_le o d.size,c 0 (by omega),c 1 (by omega),c 2 (by omega),c 3 (by omega),c 4 (by omega),c 5 (by omega),(f.p _ (List.getElem_mem a)).1,?_⟩
   unfold Tp.things
   rw[List.getElem?_append_right (by simp)]
   simp[a,Tp.thP]
 ·intro i a
  obtain⟨g,z,A,B,t,u,v,r,k,o,c,y,q5,q6,q7⟩:=K w (Below.refl _ _) i a
  have s:=f.p _ (List.getElem_mem a)
  have J:olOf m i=Tp.ownT m.procs[i]:=by unfold olOf;rw[List.getElem?_eq_getElem a]
  have a0:srOf m Sn i=(Tp.rs m.procs[i].body).findSome? (Tp.judgeP (Tp.standV (Tp.others m Sn) [Tp.lkT (Tp.ownT m.procs[i]),Tp.lkT (Tp.things m)])):=by unfold srOf;rw[List.getElem?_eq_getElem a]
  refine⟨g,m.procs[i].name,m.procs[i].pos,m.procs[i].seen,z,A,B,m.procs[i].params.length,m.procs[i].vars.length,m.procs[i].body.length,t,u,v,k,o,c 0 (by omega),c 1 (by omega),c 2 (by omega),c 3 (by omega),c 4 (by omega),c 5 (by omega),fun W d=>?_,fun W b d C=>?_⟩
  ·rw[J]
   have x:∀b,b<w.heap.size->b<w.heap.size->W.heap[b]?=w.heap[b]?/\b<w.heap.size:=fun b a _=>⟨d.block b a,a⟩
   refine uq (fun j e=>?_) (fun j e=>?_) (by simp[Tp.ownT,Tp.ownOf]) s.2.1 s.2.2.1
   ·obtain⟨H,E,F,G⟩:=xz (y.mono x) j e
    refine⟨H,m.procs[i].params[j],E,F,G,s.2.2.2.1 _ (List.getElem_mem e),?_⟩
    rw[Nat.zero_add]
    unfold Tp.ownT Tp.ownOf
    rw[List.map_append,List.getElem?_append_left (by simpa using e)]
    simp[e]
   ·obtain⟨H,E,F,G⟩:=xz (q5.mono x) j e
    refine⟨H,m.procs[i].vars[j],E,F,G,s.2.2.2.2.1 _ (List.getElem_mem e),?_⟩
    unfold Tp.ownT Tp.ownOf
    rw[List.map_append,List.getElem?_append_right (by simp)]
    simp[e]
  ·rw[a0]
   rw[J]at C
   have x:∀b,b<w.heap.size->b<w.heap.size->W.heap[b]?=w.heap[b]?/\b<w.heap.size:=fun b a _=>⟨d.block b a,a⟩
   exact kH C (by simp) _ _ zn s.2.2.2.2.2 W (fun b=>b<w.heap.size) _ r (Below.refl _ _) (q6.mono' x) (q7.mono x)
 ·intro W b d C
  obtain⟨r,b1,b2⟩:=(h.on d).bd
  exact kH C (by simp) _ _ zn f.b W (fun b=>b<w.heap.size) _ r (Below.refl _ _) b1 b2
 ·rw[Tp.check_eq]
  congr 2
  unfold Tp.checkV
  congr 2
  rw[Tp.find_idx]
  congr 1
  funext i
  unfold olOf srOf
  cases m.procs[i]? with
  |none=>rw[Option.bind_none,Tp.twP];rfl
  |some p=>rfl
theorem MkC.below (h:MkC w)(k:Below B w w')(a:2<B):MkC w':=fun i b=>(k.cell (p:=⟨2,i,none⟩) a).trans (h i b)
structure VarsC (B:Nat) (w:World):Prop where
 mks:Mk w
 lv:Lv w
 mc:MkC w
 m:1<B
 l:4<B
 c:2<B
theorem VarsC.on (h:VarsC B w)(k:Below B w w'):VarsC B w':=⟨h.mks.below k h.m,h.lv.below k h.l,h.mc.below k h.c,h.m,h.l,h.c⟩
theorem VarsC.on' (h:VarsC B w)(a:B<=w.heap.size)(k:Below w.heap.size w w'):VarsC B w':=h.on (k.mono a)
end Go.Proofs.YtbkndnmglhghlaaGreatDoor

namespace Go.Proofs.YtbkndnmglhghlaaGreatDoor
open Go.RowKit Go.Extern.Stop Go.Stop Go.Extern
theorem rl_valueP (t:Addr)(w:World):(ReflectliteValue.unpack (.iface 87 (.pointer (some t)))).run Tryz.prog w
  = .ok (.agg #[.pointer (some ⟨8,87,none⟩),.pointer (some ⟨w.heap.size,0,none⟩),.int .u64 150]) (w.alloc (.cells #[.pointer (some t)] 87)):=by kernel_rfl
theorem rl_valueE (n:Int)(w:World):(ReflectliteValue.unpack (.iface 36 (.int .i64 n))).run Tryz.prog w
  = .ok (.agg #[.pointer (some ⟨8,36,none⟩),.pointer (some ⟨w.heap.size,0,none⟩),.int .u64 130]) (w.alloc (.cells #[.int .i64 n] 36)):=by kernel_rfl
theorem rl_typeP (a:Addr)(w:World):(ReflectliteValue.methodAny (ReflectliteValue.valueError "reflectlite.Value.Type" 0) (fun t _ _ _=>ReflectliteType.toType t) #[.agg #[.pointer (some ⟨8,87,none⟩),.pointer (some a),.int .u64 150]]).run Tryz.prog w
  = .ok (.iface 191 (.agg #[.pointer (some ⟨8,87,none⟩)])) w:=by kernel_rfl
theorem rl_kindP (w:World):((ReflectliteType.abiMethod fun t=>(fun a:Nat=>Value.int IntKind.u8 (a:Int)) <$> Rtype.kind t) #[.pointer (some ⟨8,87,none⟩)]).run Tryz.prog w=.ok (.int .u8 22) w:=by kernel_rfl
theorem rl_kindE (w:World):((ReflectliteType.abiMethod fun t=>(fun a:Nat=>Value.int IntKind.u8 (a:Int)) <$> Rtype.kind t) #[.pointer (some ⟨8,36,none⟩)]).run Tryz.prog w=.ok (.int .u8 2) w:=by kernel_rfl
theorem rlm (z:Sem Value)(f:TypeId->Addr->Nat->Nat->Sem Value)(v:Value) :
  ReflectliteValue.method z f #[v]=(do match <- ReflectliteValue.parts v with|none=>z|some (t,a,fl)=>f t a fl (fl % 32)):=rfl
theorem vg (a:Addr)(w:World):(ReflectliteValue.parts (.agg #[.pointer (some ⟨8,87,none⟩),.pointer (some a),.int .u64 150])).run Tryz.prog w=.ok (some (87,a,150)) w:=by kernel_rfl
theorem rl_isNil (a p:Addr)(W:World)(b:W.cell? a=some (.pointer (some p))) :
  (ReflectliteValue.method (ReflectliteValue.valueError "reflectlite.Value.IsNil" 0) ReflectliteValue.isNil #[.agg #[.pointer (some ⟨8,87,none⟩),.pointer (some a),.int .u64 150]]).run Tryz.prog W=.ok (.bool false) W:=by
 rw[rlm]
 simp only[Sem.run_bind,vg,Result.andThen]
 simp[ReflectliteValue.isNil,loadVar,isAgg,underlying,Tryz.underlying87,b,Result.andThen]
theorem rl_elem (w:World):(ReflectliteType.method ReflectliteType.elem #[.agg #[.pointer (some ⟨8,87,none⟩)]]).run Tryz.prog w=.ok (.iface 191 (.agg #[.pointer (some ⟨8,36,none⟩)])) w:=by kernel_rfl
theorem x6 (w:World):(ReflectliteType.relation "Implements" ReflectliteType.implements_ #[.agg #[.pointer (some ⟨8,36,none⟩)],.iface 191 (.agg #[.pointer (some ⟨8,33,none⟩)])]).run Tryz.prog w=.ok (.bool true) w:=by kernel_rfl
theorem rl_typeOfE (n:Int)(w:World):(ReflectliteType.typeOf #[.iface 36 (.int .i64 n)]).run Tryz.prog w=.ok (.iface 191 (.agg #[.pointer (some ⟨8,36,none⟩)])) w:=by kernel_rfl
theorem rl_assignE (w:World):(ReflectliteType.relation "AssignableTo" ReflectliteType.assignableTo #[.agg #[.pointer (some ⟨8,36,none⟩)],.iface 191 (.agg #[.pointer (some ⟨8,36,none⟩)])]).run Tryz.prog w=.ok (.bool true) w:=by kernel_rfl
theorem rl_elemOf (w:World):(Rtype.elem? 87).run Tryz.prog w=.ok (some 36) w:=by kernel_rfl
theorem rl_mk (p:Addr)(w:World):(ReflectliteValue.mk 36 p ReflectliteValue.flagAddr).run Tryz.prog w=.ok (.agg #[.pointer (some ⟨8,36,none⟩),.pointer (some p),.int .u64 386]) w:=by kernel_rfl
theorem rl_elemV (a p:Addr)(W:World)(b:W.cell? a=some (.pointer (some p))) :
  (ReflectliteValue.method (ReflectliteValue.valueError "reflectlite.Value.Elem" 0) ReflectliteValue.elem #[.agg #[.pointer (some ⟨8,87,none⟩),.pointer (some a),.int .u64 150]]).run Tryz.prog W
   = .ok (.agg #[.pointer (some ⟨8,36,none⟩),.pointer (some p),.int .u64 386]) W:=by
 rw[rlm]
 simp only[Sem.run_bind,vg,Result.andThen]
 simp[ReflectliteValue.elem,loadVar,isAgg,underlying,Tryz.underlying87,b,Result.andThen,rl_elemOf,rl_mk]
theorem rl_partsA (a:Addr)(w:World):(ReflectliteValue.parts (.agg #[.pointer (some ⟨8,36,none⟩),.pointer (some a),.int .u64 386])).run Tryz.prog w=.ok (some (36,a,386)) w:=by kernel_rfl
theorem rl_partsE (a:Addr)(w:World):(ReflectliteValue.parts (.agg #[.pointer (some ⟨8,36,none⟩),.pointer (some a),.int .u64 130])).run Tryz.prog w=.ok (some (36,a,130)) w:=by kernel_rfl
theorem rl_direct (w:World):(Rtype.directlyAssignable 36 36).run Tryz.prog w=.ok true w:=by kernel_rfl
theorem rl_set (ta b:Addr)(n:Int)(a:Value)(W:World)(c:W.cell? b=some (.int .i64 n))(e:W.cell? ta=some a)(d:W.frozen? ta=false) :
  (ReflectliteValue.set #[.agg #[.pointer (some ⟨8,36,none⟩),.pointer (some ta),.int .u64 386],.agg #[.pointer (some ⟨8,36,none⟩),.pointer (some b),.int .u64 130]]).run Tryz.prog W
   = .ok (.tuple #[]) (W.setCell ta (.int .i64 n)):=by
 refine Eq.trans (congrArg (fun s:Sem Value=>s.run Tryz.prog W) (show ReflectliteValue.set #[.agg #[.pointer (some ⟨8,36,none⟩),.pointer (some ta),.int .u64 386],.agg #[.pointer (some ⟨8,36,none⟩),.pointer (some b),.int .u64 130]]=(ReflectliteValue.parts (.agg #[.pointer (some ⟨8,36,none⟩),.pointer (some ta),.int .u64 386]) >>= fun p=>ReflectliteValue.parts (.agg #[.pointer (some ⟨8,36,none⟩),.pointer (some b),.int .u64 130]) >>= fun q=>_) from rfl)) ?_
 simp only[Sem.run_bind,rl_partsA,rl_partsE,Result.andThen]
 simp[ReflectliteValue.flagAddr,loadVar,isAgg,underlying,Tryz.underlying36,c,Result.andThen,rl_direct,storeVar,Value.cells,storeCells,Addr.add]
 rw[run_store Tryz.prog W ta _ _ (by rfl)]
 simp[e,d]
theorem me_Kind (h:Value)(w:World):(Go.method 338 191 (.agg #[h]) "Kind").run Tryz.prog w=.ok (252,h) w:=by kernel_rfl
theorem me_Elem (h:Value)(w:World):(Go.method 338 191 (.agg #[h]) "Elem").run Tryz.prog w=.ok (264,.agg #[h]) w:=by kernel_rfl
theorem me_Impl (h:Value)(w:World):(Go.method 338 191 (.agg #[h]) "Implements").run Tryz.prog w=.ok (265,.agg #[h]) w:=by kernel_rfl
theorem me_Assign (h:Value)(w:World):(Go.method 338 191 (.agg #[h]) "AssignableTo").run Tryz.prog w=.ok (262,.agg #[h]) w:=by kernel_rfl
theorem as_en (n:Int)(t:Addr)(c:Value)(w:World)(d:w.cell? ⟨0,0,none⟩=some (.iface 191 (.agg #[.pointer (some ⟨8,33,none⟩)])))(a:w.cell? t=some c)(e:w.frozen? t=false) :
  Calls Tryz.prog 27 #[.iface 36 (.int .i64 n),.iface 87 (.pointer (some t))] w fun ev w'=>ev=.returned (.bool true)/\w'=((((w.alloc (.cells #[.pointer (some t)] 87)).alloc (.cells #[.pointer (some ⟨8,87,none⟩),.pointer (some ⟨w.heap.size,0,none⟩),.int .u64 150] 120)).alloc (.cells #[.pointer (some ⟨8,87,none⟩),.pointer (some ⟨w.heap.size,0,none⟩),.int .u64 150] 120)).alloc (.cells #[.int .i64 n] 36)).setCell t (.int .i64 n):=by
 have A:=@run_callFunc_extern Tryz.prog 51 _ (fun args=>ReflectliteValue.unpack (args.getD 0 (.tuple #[]))) Tryz.func51 (by kernel_rfl) (by kernel_rfl) (by kernel_rfl) (by kernel_rfl)
 have B:=@run_callFunc_extern Tryz.prog 52 _ (ReflectliteValue.methodAny (ReflectliteValue.valueError "reflectlite.Value.Type" 0) (fun t _ _ _=>ReflectliteType.toType t)) Tryz.func52 (by kernel_rfl) (by kernel_rfl) (by kernel_rfl) (by kernel_rfl)
 have C:=@run_callFunc_extern Tryz.prog 53 _ (ReflectliteValue.method (ReflectliteValue.valueError "reflectlite.Value.IsNil" 0) ReflectliteValue.isNil) Tryz.func53 (by kernel_rfl) (by kernel_rfl) (by kernel_rfl) (by kernel_rfl)
 have l:=@run_callFunc_extern Tryz.prog 252 _ (ReflectliteType.abiMethod fun t=>do pure (.int .u8 (<- Rtype.kind t))) Tryz.func252 (by kernel_rfl) (by kernel_rfl) (by kernel_rfl) (by kernel_rfl)
 have o:=@run_callFunc_extern Tryz.prog 264 _ (ReflectliteType.method ReflectliteType.elem) Tryz.func264 (by kernel_rfl) (by kernel_rfl) (by kernel_rfl) (by kernel_rfl)
 have p:=@run_callFunc_extern Tryz.prog 265 _ (ReflectliteType.relation "Implements" ReflectliteType.implements_) Tryz.func265 (by kernel_rfl) (by kernel_rfl) (by kernel_rfl) (by kernel_rfl)
 have i:=@run_callFunc_extern Tryz.prog 113 _ ReflectliteType.typeOf Tryz.func113 (by kernel_rfl) (by kernel_rfl) (by kernel_rfl) (by kernel_rfl)
 have m:=@run_callFunc_extern Tryz.prog 262 _ (ReflectliteType.relation "AssignableTo" ReflectliteType.assignableTo) Tryz.func262 (by kernel_rfl) (by kernel_rfl) (by kernel_rfl) (by kernel_rfl)
 have j:=@run_callFunc_extern Tryz.prog 114 _ (ReflectliteValue.method (ReflectliteValue.valueError "reflectlite.Value.Elem" 0) ReflectliteValue.elem) Tryz.func114 (by kernel_rfl) (by kernel_rfl) (by kernel_rfl) (by kernel_rfl)
 have k:=@run_callFunc_extern Tryz.prog 115 _ ReflectliteValue.set Tryz.func115 (by kernel_rfl) (by kernel_rfl) (by kernel_rfl) (by kernel_rfl)
 have I:=rl_typeOfE
 have D:=me_Assign
 have g:=rl_assignE
 have v:=rl_valueE
 have y:=rl_valueP
 have z:=rl_typeP
 have F:=me_Kind
 have E:=me_Elem
 have mI:=me_Impl
 have u:=rl_kindP
 have s:=rl_kindE
 have h:=rl_elem
 have r:=x6
 have G:=rl_isNil ⟨w.heap.size,0,none⟩ t ((w.alloc (.cells #[.pointer (some t)] 87)).alloc (.cells #[.pointer (some ⟨8,87,none⟩),.pointer (some ⟨w.heap.size,0,none⟩),.int .u64 150] 120)) (by simp)
 have f:0<w.heap.size:=zg d
 have q:((w.alloc (.cells #[.pointer (some t)] 87)).alloc (.cells #[.pointer (some ⟨8,87,none⟩),.pointer (some ⟨w.heap.size,0,none⟩),.int .u64 150] 120)).cell? ⟨0,0,none⟩=some (.iface 191 (.agg #[.pointer (some ⟨8,33,none⟩)])):=by
  rw[World.cell?_alloc_lt _ _ ⟨0,0,none⟩ (by simp<;>omega),World.cell?_alloc_lt _ _ ⟨0,0,none⟩ f];exact d
 have b:t.block<w.heap.size:=World.block_lt_of_cell? _ _ a
 have x:=rl_elemV ⟨w.heap.size,0,none⟩ t (((w.alloc (.cells #[.pointer (some t)] 87)).alloc (.cells #[.pointer (some ⟨8,87,none⟩),.pointer (some ⟨w.heap.size,0,none⟩),.int .u64 150] 120)).alloc (.cells #[.pointer (some ⟨8,87,none⟩),.pointer (some ⟨w.heap.size,0,none⟩),.int .u64 150] 120)) (by rw[World.cell?_alloc_lt _ _ ⟨w.heap.size,0,none⟩ (by simp;omega)];simp)
 have H:=rl_set t ⟨w.heap.size+1+1+1,0,none⟩ n c ((((w.alloc (.cells #[.pointer (some t)] 87)).alloc (.cells #[.pointer (some ⟨8,87,none⟩),.pointer (some ⟨w.heap.size,0,none⟩),.int .u64 150] 120)).alloc (.cells #[.pointer (some ⟨8,87,none⟩),.pointer (some ⟨w.heap.size,0,none⟩),.int .u64 150] 120)).alloc (.cells #[.int .i64 n] 36))
  (by rw[World.cell?_alloc_at _ _ _ _ (by simp)];rfl)
  (by rw[World.cell?_alloc_lt _ _ t (by simp;omega),World.cell?_alloc_lt _ _ t (by simp;omega),World.cell?_alloc_lt _ _ t (by simp;omega),World.cell?_alloc_lt _ _ t b];exact a)
  (by rw[World.frozen?_alloc_old _ _ t (by simp;omega),World.frozen?_alloc_old _ _ t (by simp;omega),World.frozen?_alloc_old _ _ t (by simp;omega),World.frozen?_alloc_old _ _ t (Nat.ne_of_lt b)];exact e)
 go_enter Tryz.func27,Tryz.ntmps27
 go_wp2
 refine wp_loop_rounds 1 ?_
 rw[rounds_succ]
 go_wp2
 go_ret
 exact⟨rfl,rfl⟩
theorem ext_four (w:World)(t:Addr)(a b c d:Obj)(v:Value):Ext t.block w (((((w.alloc a).alloc b).alloc c).alloc d).setCell t v):=by
 have h:Below w.heap.size w ((((w.alloc a).alloc b).alloc c).alloc d):=(((zb _ _).alloc (by simp) _).alloc (by simp;omega) _).alloc (by simp;omega) _
 refine⟨h.os,h.tape,h.output,by simpa using h.size,fun k f e=>?_⟩
 rw[Below.heap_setCell _ _ _ _ e]
 exact h.block k f
theorem tell_en (n:Int)(w:World)(j:w.cell? ⟨0,0,none⟩=some (.iface 191 (.agg #[.pointer (some ⟨8,33,none⟩)]))) :
  Calls Tryz.prog 8 #[.iface 36 (.int .i64 n)] w fun e w'=>e=.returned (.int .i64 n)/\Below w.heap.size w w':=by
 obtain⟨a,b⟩:∃a,a=w.alloc (.cells #[.int .i64 0] 36):=⟨_,rfl⟩
 have h:Below w.heap.size w a:=by rw[b];exact zb _ _
 have c:a.heap[w.heap.size]?=some (.cells #[.int .i64 0] 36 (0,0)):=by rw[b];exact zl _ _
 have i:a.cell? ⟨0,0,none⟩=some (.iface 191 (.agg #[.pointer (some ⟨8,33,none⟩)])):=by rw[b];exact yf j _
 have o:=zh (as_en n ⟨w.heap.size,0,none⟩ (.int .i64 0) a i ((za c).trans rfl) (zi c))
 have g:=zh h
 have m:=zh c
 clear h c i j
 go_enter Tryz.func8,Tryz.ntmps8
 go_upto_region 4 with fail
 rw[<-b]
 clear b
 go_wp2_with fail
 refine o.out.mono ?_
 rintro e d⟨rfl,f⟩
 have k:Ext w.heap.size a d:=by rw[f];exact ext_four a ⟨w.heap.size,0,none⟩ _ _ _ _ _
 have p:d.cell? ⟨w.heap.size,0,none⟩=some (.int .i64 n):=by
  rw[f]
  exact World.cell?_setCell_same _ _ _ (yf (yf (yf (yf ((za m.out).trans rfl) _) _) _) _)
 have l:Hid (Below w.heap.size w d):=g.out.trans (zT k zn g.out.size)
 have q:w.heap.size<d.heap.size:=zg p
 clear f k
 go_wp2_with fail
 go_ret
 exact⟨rfl,l.out⟩
end Go.Proofs.YtbkndnmglhghlaaGreatDoor
