import Derived.Test.YtmocelfkmdpogaaGreatDoorKOf
import Derived.Test.YtmocelfkmdpogaaGreatDoorKJi
import Derived.Test.YtmocelfkmdpogaaGreatDoorKMg
import Derived.Test.YtmocelfkmdpogaaGreatDoorKUb
import Derived.Defers
import Derived.Recover
set_option maxRecDepth 100000
set_option maxHeartbeats 4000000
namespace Go.Proofs.YtmocelfkmdpogaaGreatDoor
open Go.RowKit Go.Maps
open Tp (Bs Sy G Pr Seen Cn cnOf codeC entP headC smOf compileC objC)
open Ob (In En)
theorem strs_of (l:List Bs):Jo.cellsOf Jo.stC l=strs l:=by
 induction l with
 |nil=>rfl
 |cons x l ih =>
  have e:Jo.cellsOf Jo.stC (x :: l)=Jo.stC x++Jo.cellsOf Jo.stC l:=rfl
  rw[e,ih]
  rfl
theorem slJ {w:World}{D:Nat->Prop}{e k n:Nat}{v:Value}{a:List Value}(h:Row w D e k v n a):Jo.Sl w v k n a:=Jo.Row.sl (D:=D) (e:=e) h
theorem sycs_of (l:List Sy):Jo.cellsOf Jo.smC (l.map smOf)=sycs l:=by
 unfold Jo.cellsOf sycs
 rw[List.map_map]
 rfl
theorem g0s_of (l:List G):Jo.cellsOf Jo.glC (l.map fun g=>(⟨g.name,0,(g.len:Int),g.seen⟩:Ob.Gl))=g0s l:=by
 unfold Jo.cellsOf g0s
 rw[List.map_map]
 rfl
theorem repN_of {w:World}{D:Nat->Prop}{uF:Bs->List Bs}{nd:Bs->Bs}:∀(l:List Bs) (b:List Value),b.length=l.length*3->UsN w D uF nd l b->Jo.RepN w (l.map fun n=>(⟨n,nd n,uF n⟩:Ob.Us)) b:=by
 intro l
 induction l with
 |nil =>
  intro b d _
  exact List.eq_nil_of_length_eq_zero (by simpa using d)
 |cons x l ih =>
  intro b d h
  obtain⟨a,c,f,g,k,m⟩:=h 0 (by simp)
  rcases b with _|⟨v,_|⟨y,_|⟨z,b⟩⟩⟩
  ·simp at d
  ·simp at d
   omega
  ·simp at d
   omega
  simp only[Nat.zero_mul,Nat.zero_add,List.getElem_cons_zero,List.getElem?_cons_zero,List.getElem?_cons_succ,Option.some.injEq]at f g k m
  subst f
  subst g
  subst k
  refine⟨_,b,rfl,?_,ih b (by simp at d;omega) fun i q=>?_⟩
  ·show Jo.Sl w _ 1 (uF x).length (Jo.cellsOf Jo.stC (uF x))
   rw[strs_of]
   exact slJ m
  ·obtain⟨o,p,r,s,t,u⟩:=h (i+1) (by simpa using q)
   have e:∀j,(Value.string (bs x) :: Value.string (bs (nd x)) :: Value.slice a (uF x).length c :: b)[(i+1)*3+j]?=b[i*3+j]?:=fun j=>by
    rw[show (i+1)*3+j=i*3+j+1+1+1 by omega,List.getElem?_cons_succ,List.getElem?_cons_succ,List.getElem?_cons_succ]
   exact⟨o,p,(e 0).symm.trans r,(e 1).symm.trans s,(e 2).symm.trans t,u⟩
def q0 (nm:ByteArray) (sa ua va na:Option Addr) (sl sc uc vc nc:Nat):Oq:=⟨nm,sa,sl,sc,ua,uc,va,vc,none,0,0,na,nc,none,0⟩
theorem Row.shape5 {w:World}{D:Nat->Prop}{e size n:Nat}{v:Value}{b:List Value}(h:Row w D e size v n b):∃a c,v=.slice a n c:=by
 rcases h with⟨rfl,rfl,_⟩|⟨g,cap,cur,rfl,_⟩
 ·exact⟨none,0,rfl⟩
 ·exact⟨_,_,rfl⟩
theorem var_of {l:List G}:VaR (l.map (·.name)) (g0s l):=by
 induction l with
 |nil=>intro i a;simp at a
 |cons x l ih =>
  intro i a
  cases i with
  |zero=>exact⟨0,x.len,x.seen,rfl,rfl,rfl,rfl⟩
  |succ i =>
   obtain⟨p,g,s,b,c,d,f⟩:=ih i (by simpa using a)
   have e:∀j,(g0s (x :: l))[(i+1)*4+j]?=(g0s l)[i*4+j]?:=fun j=>by
    rw[show g0s (x :: l)=g0V x++g0s l from rfl,List.getElem?_append_right (by simp[g0V];omega)]
    congr 1
    simp[g0V]
    omega
   exact⟨p,g,s,(e 0).trans b,(e 1).trans c,(e 2).trans d,(e 3).trans f⟩
theorem cs_start {w a:World}{ob:Nat}{m:Tp.M}{S:Seen}{i j l f:Option Addr}{sl sc k n nc:Nat}(h:OutP w a ob m S (.slice i sl sc) (.slice j m.imports.length k) (.slice l m.vars.length n) (.slice f m.procs.length nc))(q:MkC w)(p:3<w.heap.size) :
  CS (a.alloc (.cells #[.pointer (some ⟨ob,0,none⟩),.slice none 0 0] 73)) a.heap.size ob (fun b=>b≠ob/\b<a.heap.size+1) (q0 (bs m.name) i j l f sl sc k n nc) (cnOf m (uS m) []) (.slice none 0 0) []/\PE (a.alloc (.cells #[.pointer (some ⟨ob,0,none⟩),.slice none 0 0] 73)) a.heap.size ob (fun b=>b≠ob/\b<a.heap.size+1) (q0 (bs m.name) i j l f sl sc k n nc) (.slice none 0 0) []:=by
 have r:ob<a.heap.size:=zi h.blk
 have s:w.heap.size<=a.heap.size:=h.bl.size
 have c:∀b,b≠ob->b<a.heap.size->(a.alloc (.cells #[.pointer (some ⟨ob,0,none⟩),.slice none 0 0] 73)).heap[b]?=a.heap[b]?/\(b≠ob/\b<a.heap.size+1):=fun b d z=>⟨Below.heap_alloc _ _ b z,d,by omega⟩
 obtain⟨t,u1,u2⟩:=h.us
 have u:(cnOf m (uS m) []).uses.length=m.imports.length:=by simp[cnOf]
 have v:(cnOf m (uS m) []).vars.length=m.vars.length:=by simp[cnOf]
 have x:(cnOf m (uS m) []).procs.length=m.procs.length:=by simp[cnOf]
 have o:=(Below.heap_alloc a (.cells #[.pointer (some ⟨ob,0,none⟩),.slice none 0 0] 73) ob r).trans h.blk
 refine⟨⟨zk _ _,?_,Or.inl ⟨rfl,rfl,rfl⟩,⟨t,?_,?_⟩,⟨g0s m.vars,?_,?_⟩,?_,World.ownsRow_nil _ _ _ _,?_,⟨?_,?_⟩,⟨?_,?_⟩,?_,fun e=>by cases e⟩,⟨World.ownsRow_nil _ _ _ _,rfl,fun g y=>by cases y⟩⟩
 ·rw[o]
  simp[oqc,q0,oc5,cnOf]
 ·rw[u]
  exact u1.mono c
 ·exact(u2.mono c).usr
 ·rw[v]
  exact h.vr.mono c
 ·exact var_of
 ·rw[x]
  exact h.nm.mono c
 ·exact q.below (h.bl.trans ((((Below.refl a.heap.size a)).alloc zn _).mono s)) p
 ·have:=h.lo;omega
 ·omega
 ·omega
 ·omega
 ·intro b d
  exact⟨d.1,(fun e=>by cases e),by simp;omega⟩
def Six (w w':World):Prop:=∃(x y:Nat) (cx cy:Array Value),w.heap[x]?=some (.cells cx 36 (0,0))/\w.heap[y]?=some (.cells cy 31 (0,0))/\∀b,b≠x->b≠y->w'.heap[b]?=w.heap[b]?
theorem Six.blk {w w':World}(h:Six w w'){b e:Nat}{c:Array Value}(a:w.heap[b]?=some (.cells c e (0,0)))(d:e≠36)(f:e≠31):w'.heap[b]?=w.heap[b]?:=by
 obtain⟨x,y,k,l,i,j,g⟩:=h
 refine g b (fun q=>?_) (fun q=>?_)
 ·rw[q,i]at a
  injection a with a
  injection a with _ a
  exact d a.symm
 ·rw[q,j]at a
  injection a with a
  injection a with _ a
  exact f a.symm
theorem Row.six {w w':World}(i:Six w w'){D:Nat->Prop}{e size n:Nat}{v:Value}{a:List Value}(h:Row w D e size v n a)(d:e≠36)(f:e≠31):Row w' D e size v n a:=by
 rcases h with h|⟨g,cap,c,j,k,b,l⟩
 ·exact Or.inl h
 ·exact Or.inr ⟨g,cap,c,j,k,(i.blk b d f).trans b,l⟩
theorem UsN.six {w w':World}(k:Six w w'){D:Nat->Prop}{uF:Bs->List Bs}{nd:Bs->Bs}{l:List Bs}{b:List Value}(h:UsN w D uF nd l b):UsN w' D uF nd l b:=fun i j=>by
 obtain⟨a,c,d,e,f,g⟩:=h i j
 exact⟨a,c,d,e,f,g.six k (by decide) (by decide)⟩
theorem SL.row {w:World}{B:Nat}{v:Value}{l:List Sy}(h:SL w B v l):Row w (fun _=>True) 44 3 v l.length (sycs l):=by
 rcases h with⟨rfl,rfl⟩|⟨g,cap,rfl,_,⟨cur,h1,h2⟩,h3,h4⟩
 ·exact Or.inl ⟨rfl,rfl,rfl⟩
 ·exact Or.inr ⟨g,cap,cur,rfl,trivial,h1,h3,h4,h2.1,h2.2⟩
theorem oa_of {w d n y:World}{ob:Nat}{m:Tp.M}{S:Seen}{s t v r:Option Addr}{sc u x nc:Nat}(h:OutP w d ob m S (.slice s (srt (Tp.symsOf m)).length sc) (.slice t m.imports.length u) (.slice v m.vars.length x) (.slice r m.procs.length nc))
  (k:ModP (d.alloc (.cells #[.pointer (some ⟨ob,0,none⟩),.slice none 0 0] 73)) d.heap.size ob (fun b=>b≠ob/\b<d.heap.size+1) (q0 (bs m.name) s t v r (srt (Tp.symsOf m)).length sc u x nc) m (uS m) (.slice none 0 0) (codeC m (uS m)) (entP m (uS m) (headC m (uS m)).length m.procs) n)(c:Six n y) :
  Jo.OA y ob 0 (compileC m (srt (Tp.symsOf m)) (uS m) S):=by
 obtain⟨own,D',U,v',j,p,z,_,q⟩:=k
 have V:ob<d.heap.size:=zi h.blk
 have f:∀b,b≠ob->b<d.heap.size->n.heap[b]?=d.heap[b]?/\True:=fun b R l=>⟨(z.block b (by simp;omega) R (by omega) (fun e=>by cases e) (fun e=>by cases e)).trans (Below.heap_alloc _ _ b l),trivial⟩
 have O:(cnOf m (uS m) own).uses.length=m.imports.length:=by simp[cnOf]
 have P:(cnOf m (uS m) own).vars.length=m.vars.length:=by simp[cnOf]
 have Q:(cnOf m (uS m) own).procs.length=m.procs.length:=by simp[cnOf]
 obtain⟨i,u1,u2⟩:=h.us
 obtain⟨L,N,A⟩:=zl j.cd
 subst A
 obtain⟨n',F,Z,G,H,I,J,K,D,Y,E,B,C,W,X⟩:=U
 simp only[SameQ,q0,Oq.mk.injEq]at q
 obtain⟨rfl,rfl,rfl,rfl,rfl,rfl,rfl,rfl,-,-,-,rfl,rfl,-,-⟩:=q
 have o:=p.len
 simp only at o
 subst o
 have a:=j.obk
 rw[oqc,O,P,Q]at a
 have a:=(c.blk a (by decide) (by decide)).trans a
 refine⟨F,H,J,D,B,L,G,I,K,E,C,N,⟨?_,?_,?_,?_,?_,?_,?_,?_,⟨i,?_,?_⟩,?_,?_,?_,?_⟩⟩
 ·exact(za a).trans rfl
 ·simp only[compileC,objC,List.length_map]
  exact(za a).trans rfl
 ·simp only[compileC,objC,List.length_map]
  exact(za a).trans rfl
 ·simp only[compileC,objC,List.length_map]
  exact(za a).trans rfl
 ·exact(za a).trans rfl
 ·simp only[compileC,objC,List.length_map]
  exact(za a).trans rfl
 ·exact(za a).trans rfl
 ·simp only[compileC,objC,List.length_map,sycs_of]
  exact slJ ((h.sy.1.other fun g _ T e=>(f g (h.sy.2 g e) T).1).row.six c (by decide) (by decide))
 ·have l:i.length=m.imports.length*3:=(slJ u1).choose_spec.choose_spec.2.1
  exact repN_of m.imports i l ((u2.mono f).six c)
 ·simp only[compileC,objC,List.length_map]
  exact slJ ((u1.mono f).six c (by decide) (by decide))
 ·simp only[compileC,objC,List.length_map,g0s_of]
  exact slJ ((h.vr.mono f).six c (by decide) (by decide))
 ·exact slJ ((Row.of_owns p.row).six c (by decide) (by decide))
 ·simp only[compileC,objC,List.length_map,strs_of]
  exact slJ ((h.nm.mono f).six c (by decide) (by decide))
 ·exact slJ ((Row.of_owns j.cd).six c (by decide) (by decide))
theorem late5_idle (m e:Addr)(w:World) :
  CallsD Tryz.prog 26 #[.pointer (some m),.pointer (some e)] .returning w fun e f w'=>e=.returned (.tuple #[])/\f=.returning/\w'=w:=by
 refine callsD_of_wpS Tryz.func26 rfl fun b g d=>?_
 apply wpS_seq
 apply wpS_region
 simp[wpOpsS,go_sem,recoverD,d,Tryz.ntmps26,Exit.thenS]
 refine wpS_of_wp ?_
 generalize c:(fun (e:Exit) (a:Act) (w':World)=>bodyPostS Tryz.prog _ _ _ _ e a _ w')=Q
 show Code.wp Tryz.prog _ _ { tmps:=#[.pointer (some m),.pointer (some e),.nilIface,.nilIface,undef,undef,undef,undef],defers:=[] } w
 go_wp2_with fail
 subst c
 cases b
 simp_all [bodyPostS,results,Tryz.results26]
def EvE (ev:Value):Prop:=(∃n,ev=.iface 97 (.int .i64 n))\/∃ab,ev=.iface 103 (.pointer (some ⟨ab,0,none⟩))
def CompP (w:World) (m:Tp.M) (S:Seen) (e:Ending) (w':World):Prop:=Below w.heap.size w w'/\match Tp.check m S with
 |none=>∃ob,e=.returned (.tuple #[.pointer (some ⟨ob,0,none⟩),.nilIface])/\Jo.OA w' ob 0 (compileC m (srt (Tp.symsOf m)) (uS m) S)
 |some _=>∃ev,e=.returned (.tuple #[.pointer none,ev])/\EvE ev
theorem check5 {w w':World}{a:Tp.Ck}{e:Ending}(h:CheckP w a e w'):Below w.heap.size w w'/\∃ev,e=.returned ev/\(a=none->ev=.nilIface)/\(a≠none->EvE ev):=by
 obtain⟨c,b⟩:=h
 refine⟨c,?_⟩
 rcases a with _|⟨en,_|f⟩
 ·exact⟨_,b,fun _=>rfl,fun h=>absurd rfl h⟩
 ·exact⟨_,b,(fun h=>by cases h),fun _=>Or.inl ⟨_,rfl⟩⟩
 ·obtain⟨d,q,_⟩:=b
  exact⟨_,q,(fun h=>by cases h),fun _=>Or.inr ⟨_,rfl⟩⟩
theorem vE {w:World}{m:Tp.M}(hm:Tp.WM m)(hn:Tp.nM m<=1000)(c8:(Tp.allR m).length<=1000){y r A p:Option Addr}{z t C q:Nat}(I:MB w w.heap.size m y r A p z t C q){sv:Value}{S:Seen}(hs:SeenV w sv S)(c9:MkC w)(b2:3<w.heap.size)
  (d2:Tp.check m S=none->∀n∈m.imports,(uS m n).length<=100/\∀x∈uS m n,x.length<=100)(d0:∀n,AllSmall ((S n).getD [])) :
  Calls Tryz.prog 8 #[.agg #[.string (bs m.name),.slice y m.imports.length z,.slice r m.vars.length t,.slice A m.procs.length C,.slice p m.body.length q],sv] w (CompP w m S):=by
 have d9:=zm
 obtain⟨a,G⟩:∃a,a=w.heap.size:=⟨_,rfl⟩
 obtain⟨c,E⟩:∃c,c=((w.alloc (.cells #[.string (bs m.name),.slice y m.imports.length z,.slice r m.vars.length t,.slice A m.procs.length C,.slice p m.body.length q] 29)).alloc (.cells #[.pointer none] 36)).alloc (.cells #[.nilIface] 31):=⟨_,rfl⟩
 have o:Below w.heap.size w c:=by rw[E];exact((zb _ _).alloc (by simp) _).alloc (by simp;omega) _
 have d1:c.heap.size=a+3:=by rw[E,G];simp
 have a8:c.heap[a]?=some (.cells #[.string (bs m.name),.slice y m.imports.length z,.slice r m.vars.length t,.slice A m.procs.length C,.slice p m.body.length q] 29 (0,0)):=by
  rw[E,G,Below.heap_alloc _ _ _ (by simp;omega),Below.heap_alloc _ _ _ (by simp)];exact zk _ _
 have a9:c.heap[a+1]?=some (.cells #[.pointer none] 36 (0,0)):=by
  rw[E,G,Below.heap_alloc _ _ _ (by simp)]
  have:=zk (w.alloc (.cells #[.string (bs m.name),.slice y m.imports.length z,.slice r m.vars.length t,.slice A m.procs.length C,.slice p m.body.length q] 29)) (.cells #[.pointer none] 36)
  simpa using this
 have b0:c.heap[a+2]?=some (.cells #[.nilIface] 31 (0,0)):=by
  rw[E,G]
  have:=zk ((w.alloc (.cells #[.string (bs m.name),.slice y m.imports.length z,.slice r m.vars.length t,.slice A m.procs.length C,.slice p m.body.length q] 29)).alloc (.cells #[.pointer none] 36)) (.cells #[.nilIface] 31)
  simpa using this
 have b7:MB c c.heap.size m y r A p z t C q:=I.up o
 have c7:=xO hm.sml b7 (hs.on o)
 have O:Hid (Calls Tryz.prog 9 #[.agg #[.string (bs m.name),.slice y m.imports.length z,.slice r m.vars.length t,.slice A m.procs.length C,.slice p m.body.length q],sv] c fun e w'=>Below c.heap.size c w'/\∃ev,e=.returned ev/\(Tp.check m S=none->ev=.nilIface)/\(Tp.check m S≠none->EvE ev)):=c7.mono fun e w' h=>check5 h
 obtain⟨k0,k1,k2,k3,k4⟩:=zG a8
 have ko:c.cell? ⟨a+1,0,none⟩=some (.pointer none):=za a9
 have ke:c.cell? ⟨a+2,0,none⟩=some .nilIface:=za b0
 have b1:a<c.heap.size:=by omega
 have R:Hid (∀W,Below c.heap.size c W->Tp.check m S=none->Calls Tryz.prog 28 #[.agg #[.string (bs m.name),.slice y m.imports.length z,.slice r m.vars.length t,.slice A m.procs.length C,.slice p m.body.length q],sv] W (OutR W m S)):=fun W hW i=>ve hm (by omega) (I.up (o.trans (hW.mono o.size))) (hs.on (o.trans (hW.mono o.size))) (d2 i) d0
 have Q:Hid (∀W d ob sa ua va na sc uc vc nc,Below c.heap.size c W->OutP W d ob m S (.slice sa (srt (Tp.symsOf m)).length sc) (.slice ua m.imports.length uc) (.slice va m.vars.length vc) (.slice na m.procs.length nc)->Calls Tryz.prog 29 #[.pointer (some ⟨d.heap.size,0,none⟩),.agg #[.string (bs m.name),.slice y m.imports.length z,.slice r m.vars.length t,.slice A m.procs.length C,.slice p m.body.length q]] (d.alloc (.cells #[.pointer (some ⟨ob,0,none⟩),.slice none 0 0] 73)) fun e w'=>e=.returned (.tuple #[])/\(∀l,Six w' l->Jo.OA l ob 0 (compileC m (srt (Tp.symsOf m)) (uS m) S))/\Below W.heap.size W w'/\w'.cell? ⟨d.heap.size,0,none⟩=some (.pointer (some ⟨ob,0,none⟩))/\d.heap.size<w'.heap.size):=by
  intro W d ob sa ua va na sc uc vc nc hW g
  have a1:Below w.heap.size w W:=o.trans (hW.mono o.size)
  obtain⟨c1,p1⟩:=cs_start g (c9.below a1 b2) (Nat.lt_of_lt_of_le b2 a1.size)
  have e3:ob<d.heap.size:=zi g.blk
  have d3:W.heap.size<=d.heap.size:=g.bl.size
  have c4:Below W.heap.size W (d.alloc (.cells #[.pointer (some ⟨ob,0,none⟩),.slice none 0 0] 73)):=g.bl.alloc d3 _
  refine(uo c1 p1 (by have:=a1.size;omega) hm hn (fun n=>Nat.le_trans (uS_len m n) c8) (B:=W.heap.size) (fun b I=>⟨⟨by have:=g.lo;omega,by omega⟩,by omega⟩) ((I.up a1).on c4)).mono ?_
  rintro e w'⟨rfl,hM⟩
  have Y:=fun l (h6:Six w' l)=>oa_of g hM h6
  have d4:=hM.below (B:=W.heap.size) c1 p1 (fun b I=>⟨⟨by have:=g.lo;omega,by omega⟩,by omega⟩)
  obtain⟨own,D',q',v',i,_⟩:=hM
  exact⟨rfl,Y,c4.trans d4,(za i.wbk).trans rfl,zi i.wbk⟩
 have N:=zh o
 have a5:=zh a8
 have c0:=zh a9
 have c2:=zh b0
 have P:=zh G
 have T:=zh d1
 clear hm hn c8 I hs c9 b2 d2 d0 o a8 a9 b0 b7 c7
 obtain⟨il,X⟩:∃il,il=m.imports.length:=⟨_,rfl⟩
 obtain⟨gl,V⟩:∃gl,gl=m.vars.length:=⟨_,rfl⟩
 obtain⟨pl,Z⟩:∃pl,pl=m.procs.length:=⟨_,rfl⟩
 obtain⟨bl,a7⟩:∃bl,bl=m.body.length:=⟨_,rfl⟩
 obtain⟨nm,b5⟩:∃nm,nm=bs m.name:=⟨_,rfl⟩
 rw[<-X,<-V,<-Z,<-a7,<-b5]at O a5 E R Q ⊢
 rw[<-X]at k1
 rw[<-V]at k2
 rw[<-Z]at k3
 rw[<-a7]at k4
 rw[<-b5]at k0
 have a4:=zh (And.intro X (And.intro V Z))
 clear X V Z a7 b5
 go_enter_defers Tryz.func8,Tryz.ntmps8
 go_upto_region 1 with fail
 rw[<-E,<-G]
 clear E G d1
 go_wp2_with fail
 refine O.out.mono ?_
 rintro e d⟨D,ev,rfl,b3,b4⟩
 have K:=zh D
 have j:d.heap[a+1]?=some (.cells #[.pointer none] 36 (0,0)):=(D.block _ (by have:=T.out;omega)).trans c0.out
 have k:d.heap[a+2]?=some (.cells #[.nilIface] 31 (0,0)):=(D.block _ (by have:=T.out;omega)).trans c2.out
 have e0:=(D.block _ b1).trans a5.out
 obtain⟨k0,k1,k2,k3,k4⟩:=zG e0
 have ko:d.cell? ⟨a+1,0,none⟩=some (.pointer none):=za j
 have ke:d.cell? ⟨a+2,0,none⟩=some .nilIface:=za k
 have zo:d.frozen? ⟨a+1,0,none⟩=false:=zg j
 have ze:d.frozen? ⟨a+2,0,none⟩=false:=zg k
 have d6:a<d.heap.size:=zi e0
 by_cases i:Tp.check m S=none
 ·have U:=b3 i
  subst U
  have c3:=zh (R.out d D i)
  have HC:=zh i
  clear b3 b4 i D e0 j k O R
  go_wp2_with fail
  refine c3.out.mono ?_
  intro e w3 g
  obtain⟨ob,s,u,v,n,rfl,g⟩:=g
  obtain⟨sa,sc,rfl⟩:=g.sy.1.len
  obtain⟨e4,hu,_⟩:=g.us
  obtain⟨ua,uc,rfl⟩:=hu.shape5
  obtain⟨va,vc,rfl⟩:=g.vr.shape5
  obtain⟨na,nc,rfl⟩:=g.nm.shape5
  have b6:=g.bl
  rw[<-a4.out.1,<-a4.out.2.1,<-a4.out.2.2]at g
  have a6:=zh (Q.out d w3 ob sa ua va na sc uc vc nc K.out g)
  have b8:Hid (Below c.heap.size c w3):=K.out.trans (b6.mono K.out.size)
  have HO:=zh g
  obtain⟨w4,a0⟩:∃w4,w4=w3.alloc (.cells #[.pointer (some ⟨ob,0,none⟩),.slice none 0 0] 73):=⟨_,rfl⟩
  have b9:Hid (Below c.heap.size c w4):=by rw[a0];exact b8.out.alloc b8.out.size _
  obtain⟨j0,j1,j2,j3,j4⟩:=zG ((b9.out.block _ b1).trans a5.out)
  have d7:a<w4.heap.size:=Nat.lt_of_lt_of_le b1 b9.out.size
  rw[<-a0]at a6
  clear g hu b6 Q k0 k1 k2 k3 k4 ko ke zo ze c3
  go_upto_region 6 with fail
  rw[<-a0]
  clear a0
  go_wp2_with fail
  refine a6.out.mono ?_
  rintro e F⟨rfl,Y,c6,d5,d8⟩
  have a3:Hid (Below c.heap.size c F):=K.out.trans (c6.mono K.out.size)
  have j:F.heap[a+1]?=some (.cells #[.pointer none] 36 (0,0)):=(a3.out.block _ (by have:=T.out;omega)).trans c0.out
  have k:F.heap[a+2]?=some (.cells #[.nilIface] 31 (0,0)):=(a3.out.block _ (by have:=T.out;omega)).trans c2.out
  have ko:F.cell? ⟨a+1,0,none⟩=some (.pointer none):=za j
  have ke:F.cell? ⟨a+2,0,none⟩=some .nilIface:=za k
  have zo:F.frozen? ⟨a+1,0,none⟩=false:=zg j
  have ze:F.frozen? ⟨a+2,0,none⟩=false:=zg k
  obtain⟨l,H⟩:∃l,l=(F.setCell ⟨a+1,0,none⟩ (.pointer (some ⟨ob,0,none⟩))).setCell ⟨a+2,0,none⟩ .nilIface:=⟨_,rfl⟩
  have r1:l.cell? ⟨a+1,0,none⟩=some (.pointer (some ⟨ob,0,none⟩)):=by
   rw[H]
   exact za ((Below.heap_setCell _ _ _ _ (by simp)).trans (zw 0 (.pointer (some ⟨ob,0,none⟩)) j))
  have r2:l.cell? ⟨a+2,0,none⟩=some .nilIface:=by
   rw[H]
   exact za (zw 0 .nilIface ((Below.heap_setCell _ _ _ _ (by simp)).trans k))
  have a2:CompP w m S (.returned (.tuple #[.pointer (some ⟨ob,0,none⟩),.nilIface])) l:=by
   refine⟨?_,?_⟩
   ·rw[H]
    exact((N.out.trans (a3.out.mono N.out.size)).setCell (by have:=P.out;show w.heap.size<=a+1;omega) _).setCell (by have:=P.out;show w.heap.size<=a+2;omega) _
   ·rw[HC.out]
    refine⟨ob,rfl,Y _ ⟨a+1,a+2,_,_,j,k,fun b h1 h2=>?_⟩⟩
    rw[H]
    exact(Below.heap_setCell _ _ _ _ (by simpa using h2)).trans (Below.heap_setCell _ _ _ _ (by simpa using h1))
  clear Y c6 a6 j k
  go_wp2_with fail
  rw[<-H]
  clear H
  refine leaves_cons (f:=26) (args:=#[.pointer (some ⟨a+1,0,none⟩),.pointer (some ⟨a+2,0,none⟩)]) (by simp) (by simp[go_sem]) ?_
  refine(late5_idle ⟨a+1,0,none⟩ ⟨a+2,0,none⟩ l).mono ?_
  rintro e u' e5⟨rfl,rfl,rfl⟩
  simp[Leaves,settle,results,Tryz.results8,go_sem,r1,r2]
  exact a2
 ·have U:=b4 i
  obtain⟨J,L⟩:∃J,J=(d.setCell ⟨a+1,0,none⟩ (.pointer none)).setCell ⟨a+2,0,none⟩ ev:=⟨_,rfl⟩
  have r1:J.cell? ⟨a+1,0,none⟩=some (.pointer none):=by
   rw[L]
   exact za ((Below.heap_setCell _ _ _ _ (by simp)).trans (zw 0 (.pointer none) j))
  have r2:J.cell? ⟨a+2,0,none⟩=some ev:=by
   rw[L]
   exact za (zw 0 ev ((Below.heap_setCell _ _ _ _ (by simp)).trans k))
  have c5:Below w.heap.size w J:=by
   rw[L]
   exact((N.out.trans (D.mono N.out.size)).setCell (by have:=P.out;show w.heap.size<=a+1;omega) _).setCell (by have:=P.out;show w.heap.size<=a+2;omega) _
  have a2:CompP w m S (.returned (.tuple #[.pointer none,ev])) J:=by
   refine⟨c5,?_⟩
   cases hq:Tp.check m S with
   |none=>exact absurd hq i
   |some er=>exact⟨ev,rfl,U⟩
  clear b3 b4 i D e0 j k O R Q c5
  rcases U with⟨n,rfl⟩|⟨ab,rfl⟩
  all_goals
   go_wp2_with fail
   rw[<-L]
   clear L
   simp[bodyPostD,Leaves,results,Tryz.results8,go_sem,r1,r2]
   exact a2
end Go.Proofs.YtmocelfkmdpogaaGreatDoor
namespace Go.Proofs.YtmocelfkmdpogaaGreatDoor
open Go.RowKit Go.Maps Go.Sort
open Tp (Bs Sy G Pr Seen smOf compileC objC)
theorem swp_mem {d:Array Sy}{i j:Nat}{s:Sy}(a:i<d.size)(b:j<d.size)(h:s∈(swp d i j).toList):s∈d.toList:=by
 rw[Array.mem_toList_iff]at h ⊢
 have c:s∈(d.setIfInBounds i d[j]!).setIfInBounds j d[i]!:=h
 rcases Array.mem_or_eq_of_mem_setIfInBounds c with h1|h1
 ·rcases Array.mem_or_eq_of_mem_setIfInBounds h1 with h2|h2
  ·exact h2
  ·rw[h2,getElem!_pos d j b];exact Array.getElem_mem b
 ·rw[h1,getElem!_pos d i a];exact Array.getElem_mem a
theorem uA {c:Sy->Sy->Bool}(a:Nat):∀(j:Nat) (d:Array Sy) (s:Sy),j<d.size->s∈(Sort.insInner c a j d).toList->s∈d.toList:=by
 intro j
 induction j with
 |zero=>intro d s _ h;exact h
 |succ j ih =>
  intro d s b h
  rw[Sort.insInner]at h
  split at h
  ·have:=ih _ _ (by simp[swp];omega) h
   exact swp_mem b (by omega) this
  ·exact h
theorem uz {f:Sy->Sy->Bool}(a b:Nat):∀(k i:Nat) (d:Array Sy) (s:Sy),b-i=k->b<=d.size->s∈(Sort.insOuter f a b i d).toList->s∈d.toList:=by
 intro k
 induction k with
 |zero=>intro i d s h _ c;rw[Sort.insOuter,if_neg (by omega)]at c;exact c
 |succ k ih =>
  intro i d s h e c
  rw[Sort.insOuter]at c
  split at c
  ·have:=ih (i+1) _ s (by omega) (by rw[jq];exact e) c
   exact uA a i d s (by omega) this
  ·exact c
theorem srt_mem {l:List Sy}{s:Sy}(h:s∈srt l):s∈l:=by
 unfold srt insS Sort.insertionSort at h
 have:=uz 0 l.length _ 1 l.toArray s rfl (by simp) h
 simpa using this
def FromM (S:Seen):Prop:=∀n l,S n=some l->l.length<=20/\∀s∈l,∃m:Tp.M,Tp.WM m/\s∈Tp.symsOf m
theorem xL (ns:List Bs):FromM (seenOf ns):=by
 have c:∀(ns:List Bs) (S:Seen),FromM S->FromM (ns.foldl seenF S):=by
  intro ns
  induction ns with
  |nil=>intro S h;exact h
  |cons x ns ih =>
   intro S h
   refine ih _ fun n l a=>?_
   unfold seenF at a
   rcases hp:Tp.parse x with er|m
   ·rw[hp]at a
    exact h n l a
   ·rw[hp]at a
    simp only at a
    split at a
    ·cases a
     have b:=(Tp.parse_wm hp).1
     exact⟨by rw[kj];exact Tp.syms_len b,fun s d=>⟨m,b,srt_mem d⟩⟩
    ·exact h n l a
 exact c ns _ fun n l a=>by cases a
theorem fromM_less {S:Seen}(h:FromM S)(m:Tp.M)(i:Nat):FromM (lessOf m S i):=by
 intro n l a
 unfold lessOf at a
 split at a
 ·cases a
  unfold usedF
  rcases hS:S n with _|k
  ·exact⟨by simp,by simp⟩
  ·obtain⟨b,c⟩:=h n k hS
   exact⟨Nat.le_trans (List.length_filter_le _ _) b,fun s d=>c s (List.mem_filter.1 d).1⟩
 ·cases a
theorem vz {S:Seen}(h:FromM S)(n:Bs):∀s∈(S n).getD [],Tp.okn s.1/\s.2.1<100/\s.2.2<100/\-1<=s.2.2:=by
 intro s b
 rcases hS:S n with _|k
 ·rw[hS]at b;cases b
 ·obtain⟨_,e⟩:=h n k hS
  rw[hS]at b
  obtain⟨m,d,this⟩:=e s b
  unfold Tp.symsOf at this
  rw[List.mem_append,List.mem_map,List.mem_map]at this
  rcases this with⟨g,f,rfl⟩|⟨p,hp,rfl⟩
  ·have a:=d.g g (List.mem_filter.1 f).1
   have:=a.l
   simp only[Tp.syG]
   exact⟨a.n,by omega,by decide,by decide⟩
  ·have a:=d.p p (List.mem_filter.1 hp).1
   have i:=a.c
   simp only[Tp.syP]
   exact⟨a.n,by omega,by omega,by omega⟩
theorem qK {S:Seen}(h:FromM S)(n:Bs):AllSmall ((S n).getD []):=fun s e=>by
 obtain⟨a,b,c,d⟩:=vz h n s e
 have:=a.2.2
 exact⟨b,c,d,by omega⟩
theorem fromM_ok {S:Seen}(h:FromM S):Tp.SeenOk S:=fun n l a=>⟨(h n l a).1,fun s e=>by
 obtain⟨b,c,d,_⟩:=vz h n s (by rw[a];exact e)
 exact⟨b,c,d⟩⟩
theorem uS_ok (m:Tp.M):Tp.UsedOk m (uS m):=⟨uS_nodup m,uS_mem m⟩
theorem uS_little {m:Tp.M}{S:Seen}(h:FromM S)(c:Tp.check m S=none)(n:Bs):(uS m n).length<=100/\∀x∈uS m n,x.length<=100:=by
 have d:=Tp.used_len c (fun n l b=>⟨(h n l b).1,fun s e=>(vz h n s (by rw[b];exact e)).1⟩) (uS_nodup m) (fun n x a=>(uS_mem m n x).1 a) n
 exact⟨by omega,fun x a=>by have:=(d.2 x a).2.2;omega⟩
theorem xN {l:Bs}{m:Tp.M}{S:Seen}(c:Tp.parse l=.ok m)(b:l.length<=1000)(h:FromM S)(a:Tp.check m S=none):Ob.rightB (compileC m (srt (Tp.symsOf m)) (uS m) S)=true :=
 Tp.compileC_right c b a (fromM_ok h) (uS_ok m) (kj _) fun _ d=>srt_mem d
theorem comp_bd {l:Bs}{m:Tp.M}{S:Seen}(d:Tp.parse l=.ok m)(i:l.length<=1000)(h:FromM S)(f:Tp.check m S=none):Jo.Bd (compileC m (srt (Tp.symsOf m)) (uS m) S):=by
 have e:=xN d i h f
 have g:=Tp.code_i64 e (Tp.pu_code (Tp.parse_wm d).1 (uS m))
 have a:=Jo.right_rb e g
 exact⟨by have:=a.nm;omega,by have:=a.sl;omega,fun x b=>by have:=(a.s x b).1;omega,by have:=a.ul;omega,fun x b=>⟨by have:=(a.u x b).1;omega,by have:=(a.u x b).2.2.1;omega,fun y j=>by have:=(a.u x b).2.2.2 y j;omega⟩,by have:=a.vl;omega,fun x b=>by have:=(a.v x b).1;omega,by have:=a.pl;omega,by have:=a.nl;omega,fun x b=>by have:=a.n x b;omega,by have:=a.cl;omega,fun x b=>(a.c x b).2.1⟩
theorem comp_less {m:Tp.M}{S:Seen}:compileC m (srt (Tp.symsOf m)) (uS m) (lessOf m S m.imports.length)=compileC m (srt (Tp.symsOf m)) (uS m) S:=by
 refine Tp.compileC_less fun n a=>?_
 simp only[lessOf,List.take_length,if_pos a,usedF,Option.getD_some]
 congr 1
 funext s
 simp[uS_mem]
end Go.Proofs.YtmocelfkmdpogaaGreatDoor
namespace Go.Proofs.YtmocelfkmdpogaaGreatDoor
open Go.RowKit Go.Maps
open Tp (Bs Sy Seen G Pr compileC)
theorem comp_ok {w w':World}{m:Tp.M}{S:Seen}{e:Ending}(a:Tp.check m S=none)(h:CompP w m S e w'):Below w.heap.size w w'/\∃ob,e=.returned (.tuple #[.pointer (some ⟨ob,0,none⟩),.nilIface])/\Jo.OA w' ob 0 (compileC m (srt (Tp.symsOf m)) (uS m) S):=by
 unfold CompP at h
 rw[a]at h
 exact h
theorem apart_post {w:World}{B:Nat}(hv:VarsC B w)(hB:B<=w.heap.size)(s:Bs){ns:List Bs}{na:Option Addr}{nc:Nat}(e4:StrsAt w ns na) :
  Calls Tryz.prog 3 #[.string (bs s),.slice na ns.length nc] w fun e w'=>e=.returned (.bool true)/\Below w.heap.size w w':=by
 have t1:((bs s).size:Int)=(s.length:Int):=by rw[yn]
 have a4:=zh (short_post (nc:=nc) e4)
 have b4:=zh e4
 have HV:=zh hv
 clear e4 hv
 by_cases u:s.length<=1000
 rotate_left
 ·have o9:(s.length:Int) > 1000:=by omega
  clear a4 b4 HV
  generalize ns.length=nn at *
  go_enter Tryz.func3,Tryz.ntmps3
  go_wp2_with fail
  go_ret
  exact⟨rfl,Below.refl _ _⟩
 have o9:¬(s.length:Int) > 1000:=by omega
 have h5:=zh u
 obtain⟨nn,e3⟩:∃nn,nn=ns.length:=⟨_,rfl⟩
 rw[<-e3]at a4 ⊢
 have g9:=zh e3
 clear e3
 go_enter Tryz.func3,Tryz.ntmps3
 go_wp2_with fail
 refine a4.out.mono ?_
 rintro e w'⟨l,rfl⟩
 rcases l with rfl|⟨rfl,i5,i6⟩
 ·clear a4 b4 HV
  go_wp2_with fail
  go_ret
  exact⟨rfl,Below.refl _ _⟩
 have o3:=zh i5
 have o4:=zh i6
 clear a4 i5 i6
 have T:=zh (Jo.written_any w')
 go_wp2_with fail
 refine T.out.mono ?_
 rintro e w1⟨rfl,b5⟩
 have e6:=HV.out.on' hB b5
 have d3:=zh (kG w1 s (by omega) e6.mks e6.lv)
 have n4:=zh b5
 have n1:=b5.size
 clear b5 e6 T
 go_wp2_with fail
 refine d3.out.mono ?_
 rintro e r⟨d5,l⟩
 unfold ParseP at l
 have c7:Hid (Below w'.heap.size w' r):=n4.out.trans (d5.mono n1)
 have g0:=c7.out.size
 cases E:Tp.parse s with
 |error er =>
  rw[E]at l
  obtain⟨ab,rfl,_,_,_⟩:=l
  unfold m0
  have n7:Hid (∀ob,Below w'.heap.size w' (r.alloc ob)):=fun ob=>c7.out.alloc g0 _
  clear d5 E d3
  go_wp2_with fail
  go_ret
  exact⟨rfl,n7.out _⟩
 |ok m =>
 rw[E]at l
 obtain⟨v,rfl,m2⟩:=l
 obtain⟨A,H,K,F,J,I,L,G,rfl,i4⟩:=m2.mb
 have P:=(Tp.parse_wm E).1
 have f1:=zh P.sml
 have s3:=P.gc
 have s8:=P.pc
 have p6:=P.ic
 have i8:Tp.nM m<=1000:=by have:=(Tp.parse_wm E).2;omega
 have f4:(Tp.allR m).length<=1000:=by have:=Tp.allR_count P;have:=(Tp.parse_wm E).2;omega
 have d8:(Tp.allR m).length<=100000:=by omega
 obtain⟨j,a7⟩:∃j,j=r.alloc (.cells (mcells (bs m.name) (.slice A m.imports.length J) (.slice H m.vars.length I) (.slice K m.procs.length L) (.slice F m.body.length G)) 29):=⟨_,rfl⟩
 have d6:Below r.heap.size r j:=by rw[a7];exact zb _ _
 have e1:j.heap[r.heap.size]?=some (.cells (mcells (bs m.name) (.slice A m.imports.length J) (.slice H m.vars.length I) (.slice K m.procs.length L) (.slice F m.body.length G)) 29 (0,0)):=by rw[a7];exact zk _ _
 have p8:r.heap.size<j.heap.size:=zi e1
 have b1:=zh (i4.up d6)
 have a2:Hid (Below w'.heap.size w' j):=c7.out.trans (d6.mono g0)
 have g1:=a2.out.size
 have f5:StrsAt j ns na:=b4.out.on a2.out
 have d4:=zh (syms_post (nc:=nc) (HV.out.on' hB a2.out) (by omega) f5 (by rw[<-g9.out];exact o3.out) o4.out)
 have b3:Hid (∀W,Below j.heap.size j W->W.heap[r.heap.size]?=some (.cells #[.string (bs m.name),.slice A m.imports.length J,.slice H m.vars.length I,.slice K m.procs.length L,.slice F m.body.length G] 29 (0,0))):=fun W q=>(q.block _ p8).trans e1
 rw[<-g9.out]at d4
 have n9:Hid (∀W sv Sn,Below j.heap.size j W->SeenV W sv Sn->Calls Tryz.prog 9 #[.agg #[.string (bs m.name),.slice A m.imports.length J,.slice H m.vars.length I,.slice K m.procs.length L,.slice F m.body.length G],sv] W (CheckP W (Tp.check m Sn))):=by
  intro W sv Sn q hS
  exact xO f1.out (b1.out.up q) hS
 have o8:Hid (∀W of,Below j.heap.size j W->Calls Tryz.prog 10 #[.agg #[.string (bs m.name),.slice A m.imports.length J,.slice H m.vars.length I,.slice K m.procs.length L,.slice F m.body.length G],.string (bs of)] W fun e w'=>∃(a:Option Addr) (c:Nat),e=.returned (.slice a (uS m of).length c)/\StrsAt w' (uS m of) a/\Below W.heap.size W w'):=fun W of q=>(xy (by omega) d8 (b1.out.up q) of).mono fun e w' ⟨a,c,u,R,h3⟩=>⟨a,c,u,vX R,h3⟩
 have g5:Hid (∀W sv Sn,Below j.heap.size j W->SeenV W sv Sn->FromM Sn->Calls Tryz.prog 8 #[.agg #[.string (bs m.name),.slice A m.imports.length J,.slice H m.vars.length I,.slice K m.procs.length L,.slice F m.body.length G],sv] W fun e w'=>CompP W m Sn e w'):=fun W sv Sn q hS hF=>by
  have hb:=a2.out.trans (q.mono g1)
  have hv:=HV.out.on' hB hb
  exact vE P i8 f4 (b1.out.up q) hS hv.mc (Nat.lt_of_lt_of_le hv.c (Nat.le_trans hB hb.size)) (fun hc n _=>uS_little hF hc n) (qK hF)
 have h0:=zh E
 have o0:=zh d8
 have o2:Hid (∀W i (hi:i<m.imports.length),Below j.heap.size j W->∃g,A=some ⟨g,0,none⟩/\g<W.heap.size/\W.cell? ⟨g,i,none⟩=some (.string (bs m.imports[i]))):=fun W i hi q=>by
  obtain⟨g,q1,q2,q3⟩:=jF (b1.out.on q).im i hi
  exact⟨g,q1,by have:=q.size;omega,q3⟩
 clear m2 i4 d5 d6 e1 E d3 P f5 d8 f4 i8
 simp only[mcells]at a7 ⊢
 go_upto_region 6 with fail
 rw[<-a7]
 clear a7
 go_wp2_with fail
 refine d4.out.mono ?_
 rintro e w4⟨sb,rfl,r8,⟨sk,t0,e5⟩,a5⟩
 have n5:=zh a5
 have n2:=a5.size
 have b7:=zh e5
 have d2:=zh (xL ns)
 have d0:=zh (g5.out w4 (.map (some sb)) (seenOf ns) a5 (Or.inr ⟨sb,sk,rfl,e5⟩) (xL ns))
 obtain⟨k0,k1,k2,k3,k4⟩:=zG (b3.out w4 a5)
 have s9:r.heap.size<w4.heap.size:=by omega
 clear a5 e5 d4 b4
 go_wp2_with fail
 refine d0.out.mono ?_
 intro e d l
 obtain⟨a6,l⟩:=l
 have S:Hid (Below j.heap.size j d):=n5.out.trans (a6.mono n2)
 have n3:=S.out.size
 have b0:Hid (Below w'.heap.size w' d):=a2.out.trans (S.out.mono g1)
 have f0:=zh (b7.out.on a6)
 have r7:=a6.size
 cases Y:Tp.check m (seenOf ns) with
 |some er =>
  rw[Y]at l
  obtain⟨ev,rfl,d9⟩:=l
  have i1:=n9.out d (.map (some sb)) (seenOf ns) S.out (Or.inr ⟨sb,sk,rfl,f0.out⟩)
  have o1:Hid (Calls Tryz.prog 9 #[.agg #[.string (bs m.name),.slice A m.imports.length J,.slice H m.vars.length I,.slice K m.procs.length L,.slice F m.body.length G],.map (some sb)] d fun e w'=>Below d.heap.size d w'/\∃ev,e=.returned ev/\EvE ev):=i1.mono fun e w' h=>by
   obtain⟨u,ev,R,_,h4⟩:=check5 h
   exact⟨u,ev,R,h4 (by rw[Y];exact fun e=>by cases e)⟩
  obtain⟨j0,j1,j2,j3,j4⟩:=zG (b3.out d S.out)
  have p9:r.heap.size<d.heap.size:=by omega
  clear Y a6 d0 b7 k0 k1 k2 k3 k4 i1
  rcases d9 with⟨n,rfl⟩|⟨ab,rfl⟩
  all_goals
   go_wp2_with fail
   refine o1.out.mono ?_
   rintro e w6⟨i0,ev,rfl,d9⟩
   have n6:Hid (Below w'.heap.size w' w6):=b0.out.trans (i0.mono b0.out.size)
   clear i0
   rcases d9 with⟨n,rfl⟩|⟨ab,rfl⟩
   all_goals
    go_wp2_with fail
    go_ret
    exact⟨rfl,n6.out⟩
 |none =>
  rw[Y]at l
  obtain⟨ob,rfl,i9⟩:=l
  have o6:=zh i9
  clear i9
  have T:=zh Y
  obtain⟨j0,j1,j2,j3,j4⟩:=zG (b3.out d S.out)
  have p9:r.heap.size<d.heap.size:=by omega
  have p7:=@run_makeMap Tryz.prog
  have f8:SeenM (d.alloc (.map #[] 0)) d.heap.size 0 (lessOf m (seenOf ns) 0):=⟨_,MapV.made d,fun k=>by simp[lessOf]⟩
  have f3:Below d.heap.size d (d.alloc (.map #[] 0)):=zb _ _
  have r9:(d.alloc (.map #[] 0)).heap.size=d.heap.size+1:=by simp
  have m7:=zh f8
  have m4:=zh f3
  clear Y a6 d0 b7 k0 k1 k2 k3 k4 f8 f3 j0 j1 j2 j3 j4
  go_wp2_with fail
  generalize d.alloc (.map #[] 0)=w6 at *
  clear p7
  have m9:(m.imports.length:Int)<=6:=by omega
  obtain⟨C,N⟩:∃C,C=m.imports.length:=⟨_,rfl⟩
  have s0:=zh N
  rw[<-N]at m9 p6
  go_loopg [10] C (fun k vi wr=>∃i:Nat,i<=C/\k=C-i/\vi=.int .i64 (i:Int)/\Hid (∃c,c<=i/\SeenM wr d.heap.size c (lessOf m (seenOf ns) i))/\Hid (Below d.heap.size d wr))
  case atStart=>exact⟨0,by omega,by omega,rfl,⟨0,Nat.le_refl _,m7.out⟩,m4.out⟩
  case round =>
   obtain⟨i,s4,hk,rfl,g8,a3⟩:=hrel
   have c5:=a3.out.size
   have a9:Hid (Below j.heap.size j wr):=S.out.trans (a3.out.mono n3)
   obtain⟨p0,p1,p2,p3,p4⟩:=zG (b3.out wr a9.out)
   have s7:r.heap.size<wr.heap.size:=by omega
   rw[<-N]at p1
   by_cases s6:i<C
   ·have n0:(i:Int)<(C:Int):=by omega
    have e0:i<m.imports.length:=by omega
    obtain⟨g,p5,s1,s2⟩:=o2.out wr i e0 a9.out
    subst p5
    have HU:=zh (o8.out wr m.imports[i] a9.out)
    rw[<-N]at HU
    have o7:=zh (qD (Sn:=seenOf ns) e0)
    have i7:=f1.out.im _ (List.getElem_mem e0)
    generalize m.imports[i]=x at *
    clear N
    go_wp2_with fail
    refine HU.out.mono ?_
    rintro e z⟨ua,uc,rfl,c6,U⟩
    obtain⟨Z,a1⟩:∃Z,Z=uS m x:=⟨_,rfl⟩
    rw[<-a1]at c6
    have r2:Z.length<=100000:=by rw[a1];exact Nat.le_trans (uS_len m x) o0.out
    have m1:∀y,y∈Z↔y∈Tp.usedR m x:=fun y=>by rw[a1];exact uS_mem m x y
    rw[<-a1]
    clear a1
    obtain⟨o,b6⟩:∃o,o=z.alloc (.cells #[.slice ua Z.length uc] 22):=⟨_,rfl⟩
    have M:Below z.heap.size z o:=by rw[b6];exact zb _ _
    have e2:o.heap[z.heap.size]?=some (.cells #[.slice ua Z.length uc] 22 (0,0)):=by rw[b6];exact zk _ _
    have r0:z.heap.size<o.heap.size:=zi e2
    have b9:Below wr.heap.size wr o:=U.trans (M.mono U.size)
    have f9:=(f0.out.on a3.out).on b9
    obtain⟨v8,e7,⟨a8,n8,c8,r3⟩,f6,b2⟩:=f9.look x i7 false
    subst r3
    simp only[Bool.false_eq_true,if_false]at e7
    have g4:=zh (cloneS f6 b2)
    have e9:=zh b9
    have g6:Hid (∀D v9,Below o.heap.size o D->SL D o.heap.size v9 ((seenOf ns x).getD [])->Calls Tryz.prog 11 #[v9,.func (.func 13) #[] #[.pointer (some ⟨z.heap.size,0,none⟩)]] D fun e w'=>∃v',e=.returned v'/\SL w' o.heap.size v' (usedF m (seenOf ns) x)/\Below o.heap.size D w'):=by
     intro D v9 h9 r1
     rw[<-qd m1]
     refine deleteAall r1 h9.size b2 (fun W s _ q=>?_)
     have h8:=h9.trans q
     exact qg ((h8.cell (p:=⟨z.heap.size,0,none⟩) r0).trans ((za e2).trans rfl)) ((c6.on M).on h8) r2 s
    have m8:Hid ((usedF m (seenOf ns) x).length<=1000):=usedF_len b2
    clear m1 c6 U M e2 f9 f6 b2 b9 HU
    go_upto_region 18 with fail
    rw[<-b6]
    clear b6
    go_wp2_with fail
    refine g4.out.mono ?_
    rintro e D⟨v9,rfl,V,f7⟩
    have HD:=zh (g6.out D v9 V f7)
    have c9:=zh V
    clear V f7 g4 g6 e7
    go_wp2_with fail
    refine HD.out.mono ?_
    rintro e r6⟨r5,rfl,e8,f2⟩
    have a0:Below wr.heap.size wr r6:=e9.out.trans ((c9.out.trans f2).mono e9.out.size)
    obtain⟨c,c1,f,Q,c3⟩:=g8.out
    obtain⟨m3,t2,q1,q2,q3⟩:=(Q.on (a0.block _ Q.lt)).store (t:=34) Tryz.underlying34 (by omega) x i7 r5
    have m6:Hid (∃c,c<=i+1/\SeenM m3 d.heap.size c (lessOf m (seenOf ns) (i+1))):=seen_put o7.out c1 Q c3 a0 e8 m8.out q1 q2
    have m5:Hid (Below d.heap.size d m3):=a3.out.trans ((a0.mono c5).trans (zR q2 zn (Nat.le_trans c5 a0.size)))
    clear e8 f2 a0 Q c3 q1 q2 q3 HD
    go_wp2_with fail
    go_roundg (C-(i+1))
    case measure=>omega
    case rel=>exact⟨i+1,by omega,rfl,by go_num,m6,m5⟩
   ·have n0:¬(i:Int)<(C:Int):=by omega
    have i2:i=m.imports.length:=by omega
    have g7:Hid (∃c,c<=10/\SeenM wr d.heap.size c (lessOf m (seenOf ns) m.imports.length)):=by
     obtain⟨c,c1,Q⟩:=g8.out
     rw[i2]at Q
     exact⟨c,by omega,Q⟩
    obtain⟨lc,s5,i3⟩:=g7.out
    have d1:Hid (Calls Tryz.prog 8 #[.agg #[.string (bs m.name),.slice A m.imports.length J,.slice H m.vars.length I,.slice K m.procs.length L,.slice F m.body.length G],.map (some d.heap.size)] wr fun e w'=>Below wr.heap.size wr w'/\∃ob,e=.returned (.tuple #[.pointer (some ⟨ob,0,none⟩),.nilIface])/\Jo.OA w' ob 0 (compileC m (srt (Tp.symsOf m)) (uS m) (seenOf ns))):=(g5.out wr (.map (some d.heap.size)) _ a9.out (Or.inr ⟨_,lc,rfl,i3⟩) (fromM_less d2.out m _)).mono fun e w' h=>by
     obtain⟨u,ob,R,h3⟩:=comp_ok (uT T.out) h
     rw[comp_less]at h3
     exact⟨u,ob,R,h3⟩
    rw[<-N]at d1
    clear i3 i2 g7 N
    go_wp2_with fail
    refine d1.out.mono ?_
    rintro e z⟨U,r4,rfl,c4⟩
    have hr:=xN h0.out h5.out d2.out T.out
    have d7:=comp_bd h0.out h5.out d2.out T.out
    have b8:Below d.heap.size d z:=a3.out.trans (U.mono c5)
    have c0:=o6.out.below b8
    obtain⟨O,hO⟩:∃O,O=compileC m (srt (Tp.symsOf m)) (uS m) (seenOf ns):=⟨_,rfl⟩
    rw[<-hO]at hr d7 c0 c4
    obtain⟨X,hX⟩:∃X,X=Jo.bs (Ob.obW O):=⟨_,rfl⟩
    have HW:Hid (∀W b,Jo.OA W b 0 O->Calls Tryz.prog 15 #[.pointer (some ⟨b,0,none⟩)] W fun e w'=>e=.returned (.tuple #[.string X,.nilIface])/\Below W.heap.size W w'):=fun W b h=>(Jo.write_oa h d7).mono fun e w' ⟨u,R⟩=>by
     unfold Jo.WriteP at u
     rw[if_pos hr]at u
     rw[hX]
     exact⟨u,R⟩
    have h6:=zh (HW.out z ob c0)
    have o5:=zh c4
    have g2:Hid (Below w'.heap.size w' z):=b0.out.trans (b8.mono b0.out.size)
    clear U b8 hr d7 c0 c4 hO hX d1
    go_wp2_with fail
    refine h6.out.mono ?_
    rintro e o⟨rfl,M⟩
    have h7:=zh (HW.out o r4 (o5.out.below M))
    have g3:Hid (Below w'.heap.size w' o):=g2.out.trans (M.mono g2.out.size)
    clear M h6
    go_wp2_with fail
    refine h7.out.mono ?_
    rintro e D⟨rfl,V⟩
    have c9:Hid (Below w'.heap.size w' D):=g3.out.trans (V.mono g3.out.size)
    clear V h7
    go_wp2_with fail
    go_ret
    exact⟨rfl,c9.out⟩
end Go.Proofs.YtmocelfkmdpogaaGreatDoor
