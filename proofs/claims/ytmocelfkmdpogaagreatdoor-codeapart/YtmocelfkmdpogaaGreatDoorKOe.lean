import Derived.Test.YtmocelfkmdpogaaGreatDoorKOd
import Derived.Test.YtmocelfkmdpogaaGreatDoorKMc
import Derived.Test.YtmocelfkmdpogaaGreatDoorKMe
import Derived.Test.YtmocelfkmdpogaaGreatDoorKMf
import Derived.Test.YtmocelfkmdpogaaGreatDoorKUb
set_option maxRecDepth 100000
set_option maxHeartbeats 4000000
namespace Go.Proofs.YtmocelfkmdpogaaGreatDoor
open Go.RowKit
open Tp (Bs X S G Pr Cn cX cS cnOf cP entP headC codeC bodyP ownOf)
open Ob (In En)
theorem cP_app (m:Tp.M)(uF:Bs->List Bs):∀(l r:List Pr) (k:Nat),cP m uF k (l++r)=cP m uF k l++cP m uF (k+(cP m uF k l).length) r:=by
 intro l
 induction l with
 |nil=>intro r k;simp[cP]
 |cons p l ih=>intro r k;rw[List.cons_append,cP,cP,ih,List.append_assoc,List.length_append,Nat.add_assoc]
theorem entP_app (m:Tp.M)(uF:Bs->List Bs):∀(l r:List Pr) (k:Nat),entP m uF k (l++r)=entP m uF k l++entP m uF (k+(cP m uF k l).length) r:=by
 intro l
 induction l with
 |nil=>intro r k;simp[entP,cP]
 |cons p l ih=>intro r k;rw[List.cons_append,entP,entP,cP,ih,List.cons_append,List.length_append,Nat.add_assoc]
def csAt (m:Tp.M) (uF:Bs->List Bs) (i:Nat):List In:=headC m uF++cP m uF (headC m uF).length (m.procs.take i)
def esAt (m:Tp.M) (uF:Bs->List Bs) (i:Nat):List En:=entP m uF (headC m uF).length (m.procs.take i)
theorem uO (m:Tp.M)(uF:Bs->List Bs):csAt m uF 0=headC m uF:=by simp[csAt,cP]
theorem esAt_zero (m:Tp.M)(uF:Bs->List Bs):esAt m uF 0=[]:=by simp[esAt,entP]
theorem csAt_all (m:Tp.M)(uF:Bs->List Bs):csAt m uF m.procs.length=codeC m uF:=by simp[csAt,codeC]
theorem esAt_all (m:Tp.M)(uF:Bs->List Bs):esAt m uF m.procs.length=entP m uF (headC m uF).length m.procs:=by simp[esAt]
theorem uP (m:Tp.M)(uF:Bs->List Bs)(i:Nat)(h:i<m.procs.length):csAt m uF (i+1)=csAt m uF i++bodyP m uF (csAt m uF i).length m.procs[i]:=by
 unfold csAt
 rw[List.take_succ_eq_append_getElem h,cP_app,List.length_append,List.append_assoc]
 simp[cP]
theorem esAt_succ (m:Tp.M)(uF:Bs->List Bs)(i:Nat)(h:i<m.procs.length):esAt m uF (i+1)=esAt m uF i++[⟨((csAt m uF i).length:Int),(m.procs[i].params.length:Int),((m.procs[i].params++m.procs[i].vars).length:Int)⟩]:=by
 unfold esAt csAt
 rw[List.take_succ_eq_append_getElem h,entP_app,List.length_append]
 simp[entP,ownOf]
theorem csAt_le (m:Tp.M)(uF:Bs->List Bs)(i:Nat):(csAt m uF i).length<=(codeC m uF).length:=by
 have:codeC m uF=csAt m uF i++cP m uF ((headC m uF).length+(cP m uF (headC m uF).length (m.procs.take i)).length) (m.procs.drop i):=by
  unfold csAt codeC
  rw[List.append_assoc,<-cP_app,List.take_append_drop]
 rw[this,List.length_append]
 omega
theorem esAt_le (m:Tp.M)(uF:Bs->List Bs)(i:Nat):(esAt m uF i).length<=m.procs.length:=by
 unfold esAt
 rw[Tp.entP_len,List.length_take]
 omega
theorem SameQ.trans {q a b:Oq}(h:SameQ q a)(k:SameQ a b):SameQ q b:=by
 cases q
 cases a
 cases b
 simp[SameQ]at *
 simp_all
def ModP (w:World) (wb ob:Nat) (D:Nat->Prop) (q:Oq) (m:Tp.M) (uF:Bs->List Bs) (v:Value) (cs:List In) (es:List En) (w':World):Prop:=∃own,ProcP w wb ob D q (cnOf m uF own) v cs es w'
theorem ModP.below {w w':World}{c ob B:Nat}{D:Nat->Prop}{q:Oq}{m:Tp.M}{uF:Bs->List Bs}{v:Value}{n g:List In}{o i:List En}{l:Cn}(k:ModP w c ob D q m uF v n o w')(h:CS w c ob D q l v g)(s:PE w c ob D q v i)(p:∀b,b<B->D b/\b≠c):Below B w w':=by
 obtain⟨own,t,u,v1,_,_,a,_,_⟩:=k
 refine⟨a.os,a.tape,a.output,a.size,fun b r=>?_⟩
 obtain⟨f,j⟩:=p b r
 have d:=h.ok b f
 exact a.block b d.2.2 d.1 j d.2.1 (fun e=>(s.ok b e).2.2.2 f)
theorem uo {w:World}{f ob:Nat}{D:Nat->Prop}{q:Oq}{m:Tp.M}{uF:Bs->List Bs}{v:Value}(h:CS w f ob D q (cnOf m uF []) v [])(hp:PE w f ob D q v [])(f0:f≠3)(o:Tp.WM m)(hn:Tp.nM m<=1000)(hu:∀n,(uF n).length<=1000){B:Nat}(U:∀b,b<B->D b/\b≠f){N J A r:Option Addr}{O K C s:Nat}(d:MB w B m N J A r O K C s) :
  Calls Tryz.prog 29 #[.pointer (some ⟨f,0,none⟩),.agg #[.string (bs m.name),.slice N m.imports.length O,.slice J m.vars.length K,.slice A m.procs.length C,.slice r m.body.length s]] w fun e w'=>e=.returned (.tuple #[])/\ModP w f ob D q m uF v (codeC m uF) (entP m uF (headC m uF).length m.procs) w':=by
 have a4:B<=w.heap.size:=by
  by_cases q:B<=w.heap.size
  ·exact q
  ·have:=(h.ok _ (U w.heap.size (by omega)).1).2.2
   omega
 have a7:∀own:List Bs,own.length<=1000->CnS (cnOf m uF own):=fun own ho=>⟨ho,by simpa[cnOf] using Nat.le_trans o.ic (by decide),fun u e9=>by
  obtain⟨n,_,rfl⟩:=List.mem_map.1 e9
  exact hu n,by simpa[cnOf] using Nat.le_trans o.gc (by decide),by simpa[cnOf] using Nat.le_trans o.pc (by decide)⟩
 have b6:(codeC m uF).length<=4000:=by have:=Tp.codeC_len o uF;omega
 obtain⟨l,z⟩:∃l,l=w.alloc (.cells #[.string (bs m.name),.slice N m.imports.length O,.slice J m.vars.length K,.slice A m.procs.length C,.slice r m.body.length s] 29):=⟨_,rfl⟩
 have E:Below w.heap.size w l:=by rw[z];exact zb _ _
 have Q:l.heap[w.heap.size]?=some (.cells #[.string (bs m.name),.slice N m.imports.length O,.slice J m.vars.length K,.slice A m.procs.length C,.slice r m.body.length s] 29 (0,0)):=by rw[z];exact zk _ _
 have h0:=h.on E
 have p0:=hp.next (Cg.below E)
 have c6:=d.on (E.mono a4)
 have hh:(headC m uF).length=(cS (cnOf m uF []) 0 m.body).length+1:=by simp[headC]
 have a9:=csAt_le m uF 0
 rw[uO]at a9
 obtain⟨e5,b9,c0⟩:=c6.bd
 have a5:∀b,b<B->b<l.heap.size->l.heap[b]?=l.heap[b]?/\D b:=fun b d _=>⟨rfl,(U b d).1⟩
 have a3:=zh (x8 (a7 [] (by simp)) _ m.body zn o.b l v [] (.slice r m.body.length s) e5 h0 (b9.mono' a5) (c0.mono a5) (by simp only[List.length_nil];omega))
 have c4:l.cell? ⟨w.heap.size,4,none⟩=some (.slice r m.body.length s):=(za Q).trans rfl
 have e7:w.heap.size<l.heap.size:=zi Q
 have a1:=zh Q
 have HH:=zh h
 have HP:=zh hp
 have HB:=zh U
 have c8:=zh E
 have d6:=zh d
 have d0:=zh a7
 have d8:=zh p0
 have HM:=zh o
 have b3:=zh b6
 have d3:=zh hh
 have d4:=zh a9
 have e8:(m.procs.length:Int)<=10:=by have:=o.pc;omega
 have e0:Hid (∀g,v.ownBlock=some g->g<w.heap.size):=fun g hg=>h.lt hg
 have d7:Hid (ob<w.heap.size):=zi h.obk
 have c9:=zh a4
 clear h hp U E Q h0 p0 c6 b9 c0 a5 a7 d o hn hu b6 hh a9 a4
 obtain⟨bl,a6⟩:∃bl,bl=m.body.length:=⟨_,rfl⟩
 obtain⟨pn,b0⟩:∃pn,pn=m.procs.length:=⟨_,rfl⟩
 rw[<-a6]at a3 c4 a1 z ⊢
 rw[<-b0]at a1 e8 z ⊢
 have f9:=zh a6
 have a2:=zh b0
 clear a6 b0
 go_enter Tryz.func29,Tryz.ntmps29
 go_upto_region 1 with fail
 rw[<-z]
 clear z
 go_wp2_with fail
 refine a3.out.mono ?_
 rintro e w1⟨rfl,v1,L,g1⟩
 have b2:=zh (y6 L (by have:=d3.out;have:=d4.out;have:=b3.out;simp only[List.length_append,List.length_nil];omega) 17)
 have b4:=zh (d8.out.next g1)
 have a0:=zh g1
 clear L g1 a3 c4
 go_wp2_with fail
 refine b2.out.mono ?_
 rintro e Y⟨rfl,v2,T,S⟩
 have k2:Y.heap[w.heap.size]?=some (.cells #[.string (bs m.name),.slice N m.imports.length O,.slice J m.vars.length K,.slice A pn C,.slice r bl s] 29 (0,0)):=by
  have g:=a0.out.trans S
  exact(g.block _ e7 (by have:=d7.out;omega) (fun e=>by have:=e0.out _ e;omega)).trans a1.out
 have c3:Y.cell? ⟨w.heap.size,3,none⟩=some (.slice A pn C):=(za k2).trans rfl
 have g4:w.heap.size<Y.heap.size:=zi k2
 have d5:Hid (ModP w f ob D q m uF v (csAt m uF 0) (esAt m uF 0) Y):=by
  refine⟨[],D,q,v2,?_,?_,?_,fun _ h=>h,rfl⟩
  ·rw[uO]
   exact T
  ·rw[esAt_zero]
   exact b4.out.next S
  ·exact(Cg.below c8.out).cp.trans ((a0.out.trans S).cp)
 clear T S k2 b2 b4 a0
 go_wp2_with fail
 go_loopg [15] pn (fun k vi wr=>∃i:Nat,i<=pn/\k=pn-i/\vi=.int .i64 (i:Int)/\Hid (ModP w f ob D q m uF v (csAt m uF i) (esAt m uF i) wr))
 case atStart=>exact⟨0,by omega,by omega,rfl,d5⟩
 case round =>
  obtain⟨i,g3,hk,rfl,I⟩:=hrel
  by_cases g6:i<pn
  ·have c7:(i:Int)<(pn:Int):=by omega
   have G:i<m.procs.length:=by have:=a2.out;omega
   have b5:Below B w wr:=I.out.below HH.out HP.out HB.out
   have b8:=d6.out.on b5
   obtain⟨own,D1,q1,v1,L,p1,c1,d1,s1⟩:=I.out
   obtain⟨f7,r1,r2⟩:=b8.pr
   obtain⟨g,cap,e1,e2,e3,e4⟩:=yw r2 (by omega)
   cases e1
   obtain⟨pv,vv,bv,f8,t1,t2,t3,t4,t5⟩:=jl m.procs f7 r1 i G
   obtain⟨Z,V,z3⟩:=t2.shape
   obtain⟨y4,W,z4⟩:=t3.shape
   obtain⟨y5,X,z5⟩:=t5.shape
   subst z3
   subst z4
   subst z5
   have x:=fun j (hj:j<6)=>(e4 (i*6+j) (by have:=a2.out;omega)).trans (t1 j hj)
   have f1:wr.cell? ⟨g,i*6,none⟩=some (.string (bs m.procs[i].name)):=x 0 (by omega)
   have f2:wr.cell? ⟨g,i*6+1,none⟩=some (.int .i64 (m.procs[i].pos:Int)):=x 1 (by omega)
   have f3:wr.cell? ⟨g,i*6+2,none⟩=some (.bool m.procs[i].seen):=x 2 (by omega)
   have f4:wr.cell? ⟨g,i*6+3,none⟩=some (.slice Z m.procs[i].params.length V):=x 3 (by omega)
   have f5:wr.cell? ⟨g,i*6+4,none⟩=some (.slice y4 m.procs[i].vars.length W):=x 4 (by omega)
   have f6:wr.cell? ⟨g,i*6+5,none⟩=some (.slice y5 m.procs[i].body.length X):=x 5 (by omega)
   have g0:g<wr.heap.size:=e3
   obtain⟨y,P⟩:∃y,y=wr.alloc (.cells #[.string (bs m.procs[i].name),.int .i64 (m.procs[i].pos:Int),.bool m.procs[i].seen,.slice Z m.procs[i].params.length V,.slice y4 m.procs[i].vars.length W,.slice y5 m.procs[i].body.length X] 79):=⟨_,rfl⟩
   have F:Below wr.heap.size wr y:=by rw[P];exact zb _ _
   have a8:y.heap[wr.heap.size]?=some (.cells #[.string (bs m.procs[i].name),.int .i64 (m.procs[i].pos:Int),.bool m.procs[i].seen,.slice Z m.procs[i].params.length V,.slice y4 m.procs[i].vars.length W,.slice y5 m.procs[i].body.length X] 79 (0,0)):=by rw[P];exact zk _ _
   obtain⟨l0,l1,l2,l3,l4,l5⟩:=yT a8
   have g5:wr.heap.size<y.heap.size:=zi a8
   have R:=HM.out.p _ (List.getElem_mem G)
   have e6:B<=wr.heap.size:=Nat.le_trans c9.out c1.size
   have H:∀b,b<B->b<wr.heap.size->y.heap[b]?=wr.heap[b]?/\b<B:=fun b d hl=>⟨F.block b hl,d⟩
   have b1:=proc5_post (L.on F) (p1.next (Cg.below F)) f0 (ps:=m.procs[i].params) (vs:=m.procs[i].vars) (body:=m.procs[i].body) (d0.out (m.procs[i].params++m.procs[i].vars) (by have:=R.c;simp only[List.length_append];omega)) R.b (D0:=fun b=>b<B) (fun b d=>⟨d1 b (HB.out b d).1,(HB.out b d).2⟩) (nm:=bs m.procs[i].name) (at':=(m.procs[i].pos:Int)) (sn:=m.procs[i].seen) (t2.mono H) (t3.mono H) (t4.mono' H) (t5.mono H) (by have:=R.c;omega) (by have:=esAt_le m uF i;have:=HM.out.pc;omega) (by
    have a:=csAt_le m uF (i+1)
    have b:=b3.out
    rw[uP m uF i G,List.length_append]at a
    have e:(bodyP m uF (csAt m uF i).length m.procs[i]).length=(cS (cnOf m uF (ownOf m.procs[i])) (csAt m uF i).length m.procs[i].body).length+2:=by simp[bodyP]
    have t:(csAt m uF i).length+(cS (cnOf m uF (ownOf m.procs[i])) (csAt m uF i).length m.procs[i].body).length+2<=4000:=by omega
    exact t)
   have HC:Hid (Calls Tryz.prog 70 #[.pointer (some ⟨f,0,none⟩),.agg #[.string (bs m.procs[i].name),.int .i64 (m.procs[i].pos:Int),.bool m.procs[i].seen,.slice Z m.procs[i].params.length V,.slice y4 m.procs[i].vars.length W,.slice y5 m.procs[i].body.length X]] y fun e w'=>e=.returned (.tuple #[])/\ModP w f ob D q m uF v (csAt m uF (i+1)) (esAt m uF (i+1)) w'):=by
    refine b1.mono ?_
    rintro e w4⟨rfl,D2,q2,v2,T,p2,c2,d2,s2⟩
    refine⟨rfl,m.procs[i].params++m.procs[i].vars,D2,q2,v2,?_,?_,?_,fun b d=>d2 b (d1 b d),s1.trans s2⟩
    ·rw[uP m uF i G]
     exact T
    ·rw[esAt_succ m uF i G]
     exact p2
    ·exact c1.trans ((Cg.below F).cp.trans c2)
   clear b1 x e4 t1 t2 t3 t4 t5 r1 r2 b8 b5 L p1 c1 d1 s1 F a8 R H e6 e2 I
   generalize bs m.procs[i].name=x0 at *
   generalize (m.procs[i].pos:Int)=x1 at *
   generalize m.procs[i].seen=x2 at *
   generalize m.procs[i].params.length=x3 at *
   generalize m.procs[i].vars.length=x4 at *
   generalize m.procs[i].body.length=x5 at *
   go_upto_region 6 with fail
   rw[<-P]
   clear P f1 f2 f3 f4 f5 f6
   go_wp2_with fail
   refine HC.out.mono ?_
   rintro e w4⟨rfl,c5⟩
   have d9:=zh c5
   clear c5 HC l0 l1 l2 l3 l4 l5
   go_wp2_with fail
   go_roundg (pn-(i+1))
   case measure=>omega
   case rel=>exact⟨i+1,by omega,rfl,by go_num,d9⟩
  ·have c7:¬(i:Int)<(pn:Int):=by omega
   have b7:i=m.procs.length:=by have:=a2.out;omega
   have HF:Hid (ModP w f ob D q m uF v (codeC m uF) (entP m uF (headC m uF).length m.procs) wr):=by
    have:=I.out
    rw[b7,csAt_all,esAt_all]at this
    exact this
   clear I b7
   go_wp2_with fail
   exact bodyPost_end (results_none rfl _ _ _) rfl ⟨rfl,HF.out⟩
end Go.Proofs.YtmocelfkmdpogaaGreatDoor
namespace Go.Proofs.YtmocelfkmdpogaaGreatDoor
open Go.RowKit
open Tp (Bs Sy)
theorem use5_post {w:World}{B:Nat}{A:Option Addr}{sn sc:Nat}{l:List Sy}(h:SL w B (.slice A sn sc) l)(z:AllSmall l)(y:l.length<=1000){ns:List Bs}{c:Option Addr}{nc:Nat}(x:StrsAt w ns c)(u:∀n∈ns,n.length<=100)(G:ns.length<=100)(nm:ByteArray) :
  Calls Tryz.prog 67 #[.string nm,.slice A sn sc,.slice c ns.length nc] w fun e w'=>e=.returned (.agg #[.string nm,.string (bs (Tp.needsS l ns)),.slice c ns.length nc])/\Below w.heap.size w w':=by
 obtain⟨i,k⟩:∃i,i=w.alloc (.cells #[.string ⟨#[]⟩,.string ⟨#[]⟩,.slice none 0 0] 128):=⟨_,rfl⟩
 have j:Below w.heap.size w i:=by rw[k];exact zb _ _
 have t:i.heap[w.heap.size]?=some (.cells #[.string ⟨#[]⟩,.string ⟨#[]⟩,.slice none 0 0] 128 (0,0)):=by rw[k];exact zk _ _
 have q:=zh (needs_post (h.on j) z y (nc:=nc) (x.on j) u (by omega))
 obtain⟨d,r⟩:∃d,d=ns.length:=⟨_,rfl⟩
 obtain⟨nd,o⟩:∃nd,nd=bs (Tp.needsS l ns):=⟨_,rfl⟩
 rw[<-r,<-o]at q
 rw[<-r,<-o]
 have J:(d:Int)<=100:=by omega
 have C:=zh j
 have s:=zh t
 clear h z y x u G r o j t
 go_enter Tryz.func67,Tryz.ntmps67
 go_upto_region 1 with fail
 rw[<-k]
 clear k
 go_wp2_with fail
 refine q.out.mono ?_
 rintro e a⟨rfl,m⟩
 have F:w.heap.size<i.heap.size:=zi s.out
 have b:a.heap[w.heap.size]?=some (.cells #[.string ⟨#[]⟩,.string ⟨#[]⟩,.slice none 0 0] 128 (0,0)):=(m.block _ F).trans s.out
 have O:a.frozen? ⟨w.heap.size,0,none⟩=false:=zg b
 have P:a.frozen? ⟨w.heap.size,1,none⟩=false:=zg b
 have Q:a.frozen? ⟨w.heap.size,2,none⟩=false:=zg b
 have L:a.cell? ⟨w.heap.size,0,none⟩=some (.string ⟨#[]⟩):=za b
 have M:a.cell? ⟨w.heap.size,1,none⟩=some (.string ⟨#[]⟩):=za b
 have N:a.cell? ⟨w.heap.size,2,none⟩=some (.slice none 0 0):=za b
 have K:w.heap.size<a.heap.size:=zi b
 have D:Hid (Below w.heap.size w a):=C.out.trans (m.mono (by omega))
 obtain⟨f,p⟩:∃f,f=((a.setCell ⟨w.heap.size,0,none⟩ (.string nm)).setCell ⟨w.heap.size,1,none⟩ (.string nd)).setCell ⟨w.heap.size,2,none⟩ (.slice c d nc):=⟨_,rfl⟩
 have E:Hid (Below w.heap.size w f):=by rw[p];exact((D.out.setCell zn _).setCell zn _).setCell zn _
 have g:=zw 2 (.slice c d nc) (zw 1 (.string nd) (zw 0 (.string nm) b))
 rw[<-p]at g
 have r0:f.cell? ⟨w.heap.size,0,none⟩=some (.string nm):=za g
 have H:f.cell? ⟨w.heap.size,1,none⟩=some (.string nd):=za g
 have I:f.cell? ⟨w.heap.size,2,none⟩=some (.slice c d nc):=za g
 clear m q b g
 go_wp2_with fail
 rw[<-p]
 exact bodyPost_ret (v:=.agg #[.string nm,.string nd,.slice c d nc]) (by simp[results,Tryz.results67,go_sem,r0,H,I]) rfl ⟨rfl,E.out⟩
end Go.Proofs.YtmocelfkmdpogaaGreatDoor
namespace Go.Proofs.YtmocelfkmdpogaaGreatDoor
open Go.RowKit Go.Maps
open Tp (Bs Sy G Pr Seen)
def g0V (g:G):List Value:=[.string (bs g.name),.int .i64 0,.int .i64 (g.len:Int),.bool g.seen]
def g0s (l:List G):List Value:=(l.map g0V).flatten
theorem g0s_snoc (l:List G)(g:G):g0s (l++[g])=g0s l++g0V g:=by simp[g0s]
theorem Tryz.infoUse5:(Tryz.prog.info? 128).map (fun i=>(i.zero,i.size,i.bytes))=some (some (.agg #[.string ⟨#[]⟩,.string ⟨#[]⟩,.slice none 0 0]),3,56):=by kernel_rfl
theorem Tryz.infoGlobal5:(Tryz.prog.info? 118).map (fun i=>(i.zero,i.size,i.bytes))=some (some (.agg #[.string ⟨#[]⟩,.int .i64 0,.int .i64 0,.bool false]),4,40):=by kernel_rfl
theorem Row.grown {w w':World}{D D':Nat->Prop}{e d size f n y i:Nat}{v u:Value}{c cs':List Value}(h:Row w D e size v n c)(x:w.ownsRow i d f u y cs')(s:e≠d)(t:∀b,D b->b<w.heap.size->u.ownBlock≠some b->w'.heap[b]?=w.heap[b]?/\D' b):Row w' D' e size v n c:=by
 rcases h with h|⟨g,cap,j,o,p,a,r⟩
 ·exact Or.inl h
 ·have k:u.ownBlock≠some g:=fun q=>by
   rcases x.2 with⟨rfl,_⟩|⟨g',cap',cur',rfl,q1,q2,q3⟩
   ·cases q
   ·cases q
    rw[a]at q2
    injection q2 with q2
    injection q2 with _ q2
    exact s q2
  obtain⟨l,m⟩:=t g p (zi a) k
  exact Or.inr ⟨g,cap,j,o,m,l.trans a,r⟩
def UsN (w:World) (D:Nat->Prop) (uF:Bs->List Bs) (nd:Bs->Bs) (l:List Bs) (cs:List Value):Prop:=∀i (h:i<l.length),∃(a:Option Addr) (c:Nat),cs[i*3]?=some (.string (bs l[i]))/\cs[i*3+1]?=some (.string (bs (nd l[i])))/\cs[i*3+2]?=some (.slice a (uF l[i]).length c)/\Row w D 9 1 (.slice a (uF l[i]).length c) (uF l[i]).length (strs (uF l[i]))
theorem UsN.mono {w w':World}{D D':Nat->Prop}(m:∀b,D b->b<w.heap.size->w'.heap[b]?=w.heap[b]?/\D' b){uF:Bs->List Bs}{nd:Bs->Bs}{l:List Bs}{d:List Value}(h:UsN w D uF nd l d):UsN w' D' uF nd l d:=fun i k=>by
 obtain⟨a,c,e,f,g,j⟩:=h i k
 exact⟨a,c,e,f,g,j.mono m⟩
theorem UsN.usr {w:World}{D:Nat->Prop}{uF:Bs->List Bs}{nd:Bs->Bs}{l:List Bs}{b:List Value}(h:UsN w D uF nd l b):UsR w D (l.map fun n=>(n,uF n)) b:=fun i j=>by
 obtain⟨a,c,d,e,f,g⟩:=h i (by simpa using j)
 refine⟨_,a,c,?_,e,?_,?_⟩
 ·simpa using d
 ·simpa using f
 ·simpa using g
theorem UsN.snoc {w:World}{D:Nat->Prop}{uF:Bs->List Bs}{nd:Bs->Bs}{l:List Bs}{d:List Value}(h:UsN w D uF nd l d)(f:d.length=l.length*3){x:Bs}{a:Option Addr}{c:Nat}(r:Row w D 9 1 (.slice a (uF x).length c) (uF x).length (strs (uF x))):UsN w D uF nd (l++[x]) (d++[.string (bs x),.string (bs (nd x)),.slice a (uF x).length c]):=fun i q=>by
 by_cases b:i<l.length
 ·obtain⟨j,k,m,n,o,p⟩:=h i b
  refine⟨j,k,?_,?_,?_,?_⟩
  ·rw[List.getElem?_append_left (by omega),List.getElem_append_left b];exact m
  ·rw[List.getElem?_append_left (by omega),List.getElem_append_left b];exact n
  ·rw[List.getElem?_append_left (by omega),List.getElem_append_left b];exact o
  ·rw[List.getElem_append_left b];exact p
 ·have g:i=l.length:=by simp at q;omega
  subst g
  have e:(l++[x])[l.length]=x:=by simp
  refine⟨a,c,?_,?_,?_,?_⟩
  ·rw[List.getElem?_append_right (by omega),e,f,Nat.sub_self];rfl
  ·rw[List.getElem?_append_right (by omega),e,f,Nat.add_sub_cancel_left];rfl
  ·rw[List.getElem?_append_right (by omega),e,f,Nat.add_sub_cancel_left];rfl
  ·rw[e];exact r
theorem SeenV.look' {w:World}{sv:Value}{S:Seen}(h:SeenV w sv S)(l:Bs)(e:l.length<=1000000):∃a n d,(∀W,Below w.heap.size w W->(Instr.lookup 34 sv (.string (bs l)) false).run Tryz.prog W=.ok (.slice a n d) W)/\SL w 0 (.slice a n d) ((S l).getD [])/\((S l).getD []).length<=1000:=by
 rcases h with⟨rfl,j⟩|⟨sb,n,rfl,f,h1,h2⟩
 ·rw[j l]
  exact⟨none,0,0,fun W _=>jP W (t:=34) Tryz.underlying34 (zeroSyms W) l e false,Or.inl ⟨rfl,rfl⟩,by simp⟩
 ·have c:=fun W (i:Below w.heap.size w W)=>(h1.on (i.block sb h1.lt)).look (t:=34) Tryz.underlying34 (zeroSyms W) l e false
  have:=h2 l
  cases g:S l with
  |none =>
   rw[g]at this
   rw[this]at c
   exact⟨none,0,0,c,Or.inl ⟨rfl,rfl⟩,by simp⟩
  |some ll =>
   rw[g]at this
   obtain⟨v,a,b,d⟩:=this
   rw[a]at c
   obtain⟨m,o,k⟩:=b.shape
   subst k
   exact⟨_,_,_,c,b,d⟩
theorem grown5 {e size n w:Nat}{d wr m c:World}{ob j:Nat}{s:Array Value}{v a:Value}{B r:List Value}(h:Ext ob d wr)(D:ob<d.heap.size)(u:wr.heap[ob]?=some (.cells s 59 (0,0)))(z:wr.ownsRow d.heap.size e size v n B)(f:Below wr.heap.size wr m)(A:c.ownsRow d.heap.size e size a w r)(i:m.grownBy c v.ownBlock) :
  Ext ob d (c.setCell ⟨ob,j,none⟩ a)/\(c.setCell ⟨ob,j,none⟩ a).heap[ob]?=some (.cells (s.setIfInBounds j a) 59 (0,0))/\(c.setCell ⟨ob,j,none⟩ a).ownsRow d.heap.size e size a w r/\(∀b,b<m.heap.size->b≠ob->v.ownBlock≠some b->(c.setCell ⟨ob,j,none⟩ a).heap[b]?=m.heap[b]?):=by
 have q:∀g,v.ownBlock=some g->d.heap.size<=g:=fun g y=>(z.lt g y).1
 have t:∀b,b<wr.heap.size->v.ownBlock≠some b->c.heap[b]?=wr.heap[b]?:=fun b p o=>(i.block b (Nat.lt_of_lt_of_le p f.size) (fun e=>o e.symm)).trans (f.block b p)
 have x:ob<wr.heap.size:=zi u
 refine⟨⟨i.os.trans (f.os.trans h.os),i.tape.trans (f.tape.trans h.tape),i.output.trans (f.output.trans h.output),by have E:=i.size;have F:=f.size;have G:=h.size;simp;omega,fun b k l=>(Below.heap_setCell _ _ _ _ (by simpa using l)).trans ((t b (Nat.lt_of_lt_of_le k h.size) (fun e=>by have:=q b e;omega)).trans (h.block b k l))⟩,?_,?_,?_⟩
 ·exact zw j a ((t ob x (fun e=>by have:=q ob e;omega)).trans u)
 ·exact zF A fun b C _ _=>Below.heap_setCell _ _ _ _ (by simp;omega)
 ·exact fun b k l o=>(Below.heap_setCell _ _ _ _ (by simpa using l)).trans (i.block b k (fun e=>o e.symm))
def oc5 (nm:ByteArray) (sv uv vv nv:Value):Array Value:=#[.string nm,sv,uv,vv,.slice none 0 0,nv,.slice none 0 0]
def L1 (m:Tp.M) (nd:Bs->Bs) (wM:World) (ob:Nat) (sv:Value) (i:Nat) (wr:World):Prop:=∃uv ucs,Ext ob wM wr/\wr.heap[ob]?=some (.cells (oc5 (bs m.name) sv uv (.slice none 0 0) (.slice none 0 0)) 59 (0,0))/\wr.ownsRow wM.heap.size 128 3 uv i ucs/\UsN wr (fun b=>wM.heap.size<=b) (uS m) nd (m.imports.take i) ucs
def L2 (m:Tp.M) (wM:World) (ob:Nat) (sv uv:Value) (i:Nat) (wr:World):Prop:=∃vv,Ext ob wM wr/\wr.heap[ob]?=some (.cells (oc5 (bs m.name) sv uv vv (.slice none 0 0)) 59 (0,0))/\wr.ownsRow wM.heap.size 118 4 vv i (g0s (m.vars.take i))
def L3 (m:Tp.M) (wM:World) (ob:Nat) (sv uv vv:Value) (i:Nat) (wr:World):Prop:=∃nv,Ext ob wM wr/\wr.heap[ob]?=some (.cells (oc5 (bs m.name) sv uv vv nv) 59 (0,0))/\wr.ownsRow wM.heap.size 9 1 nv i (strs ((m.procs.take i).map (·.name)))
theorem l1_next {m:Tp.M}{nd:Bs->Bs}{d wr q p:World}{ob i:Nat}{sv n o:Value}{k:List Value}{a:Option Addr}{c:Nat}(B:i<m.imports.length)(t:ob<d.heap.size)(r:Ext ob d wr)(D:wr.heap[ob]?=some (.cells (oc5 (bs m.name) sv n (.slice none 0 0) (.slice none 0 0)) 59 (0,0)))(g:wr.ownsRow d.heap.size 128 3 n i k)(G:UsN wr (fun b=>d.heap.size<=b) (uS m) nd (m.imports.take i) k)
  (l:Below wr.heap.size wr q)(F:Row q (fun b=>wr.heap.size<=b) 9 1 (.slice a (uS m m.imports[i]).length c) (uS m m.imports[i]).length (strs (uS m m.imports[i])))(H:p.ownsRow d.heap.size 128 3 o (i+1) (k++[.string (bs m.imports[i]),.string (bs (nd m.imports[i])),.slice a (uS m m.imports[i]).length c]))(I:q.grownBy p n.ownBlock):L1 m nd d ob sv (i+1) (p.setCell ⟨ob,2,none⟩ o):=by
 obtain⟨J,K,L,s⟩:=grown5 (j:=2) r t D g l H I
 have A:d.heap.size<=wr.heap.size:=r.size
 refine⟨o,_,J,K,L,?_⟩
 rw[List.take_succ_eq_append_getElem B]
 refine UsN.snoc (fun j C=>?_) ?_ (F.mono fun b h f=>⟨s b f (by omega) (fun e=>by have:=(g.lt b e).2;omega),Nat.le_trans A h⟩)
 ·obtain⟨u,v,w,x,y,z⟩:=G j C
  exact⟨u,v,w,x,y,z.grown g (by decide) fun b h f E=>⟨(s b (Nat.lt_of_lt_of_le f l.size) (by omega) E).trans (l.block b f),h⟩⟩
 ·rw[g.1,List.length_take,Nat.min_eq_left (by omega)]
theorem l2_next {m:Tp.M}{a wr e c:World}{ob i:Nat}{sv d vv b:Value}(h:i<m.vars.length)(f:ob<a.heap.size)(n:Ext ob a wr)(k:wr.heap[ob]?=some (.cells (oc5 (bs m.name) sv d vv (.slice none 0 0)) 59 (0,0)))(l:wr.ownsRow a.heap.size 118 4 vv i (g0s (m.vars.take i)))
  (g:Below wr.heap.size wr e)(o:c.ownsRow a.heap.size 118 4 b (i+1) (g0s (m.vars.take i)++g0V m.vars[i]))(p:e.grownBy c vv.ownBlock):L2 m a ob sv d (i+1) (c.setCell ⟨ob,3,none⟩ b):=by
 obtain⟨q,r,s,t⟩:=grown5 (j:=3) n f k l g o p
 refine⟨b,q,r,?_⟩
 rw[List.take_succ_eq_append_getElem h,g0s_snoc]
 exact s
theorem l3_next {m:Tp.M}{a wr g d:World}{ob i:Nat}{sv f vv b c:Value}(l:i<m.procs.length)(h:ob<a.heap.size)(p:Ext ob a wr)(n:wr.heap[ob]?=some (.cells (oc5 (bs m.name) sv f vv b) 59 (0,0)))(o:wr.ownsRow a.heap.size 9 1 b i (strs ((m.procs.take i).map (·.name))))
  (k:Below wr.heap.size wr g)(q:d.ownsRow a.heap.size 9 1 c (i+1) (strs ((m.procs.take i).map (·.name))++[.string (bs m.procs[i].name)]))(r:g.grownBy d b.ownBlock):L3 m a ob sv f vv (i+1) (d.setCell ⟨ob,5,none⟩ c):=by
 obtain⟨s,t,u,v⟩:=grown5 (j:=5) p h n o k q r
 refine⟨c,s,t,?_⟩
 rw[List.take_succ_eq_append_getElem l,List.map_append]
 have e:strs ((m.procs.take i).map (·.name)++[m.procs[i]].map (·.name))=strs ((m.procs.take i).map (·.name))++[.string (bs m.procs[i].name)]:=by simp[strs]
 rw[e]
 exact u
structure OutP (w w':World) (ob:Nat) (m:Tp.M) (S:Seen) (sv uv vv nv:Value):Prop where
 blk:w'.heap[ob]?=some (.cells (oc5 (bs m.name) sv uv vv nv) 59 (0,0))
 lo:w.heap.size<=ob
 sy:SL w' w.heap.size sv (srt (Tp.symsOf m))/\∀g,sv.ownBlock=some g->g≠ob
 us:∃ucs,Row w' (fun b=>b≠ob) 128 3 uv m.imports.length ucs/\UsN w' (fun b=>b≠ob) (uS m) (fun n=>Tp.needsS ((S n).getD []) (uS m n)) m.imports ucs
 vr:Row w' (fun b=>b≠ob) 118 4 vv m.vars.length (g0s m.vars)
 nm:Row w' (fun b=>b≠ob) 9 1 nv m.procs.length (strs (m.procs.map (·.name)))
 bl:Below w.heap.size w w'
theorem SL.other {w w':World}{B:Nat}{v:Value}{l:List Sy}(h:SL w B v l)(e:∀g,B<=g->g<w.heap.size->v.ownBlock=some g->w'.heap[g]?=w.heap[g]?):SL w' B v l:=by
 rcases h with q|⟨g,cap,a,b,⟨⟨d,c,f⟩,i,j⟩⟩
 ·exact Or.inl q
 ·exact Or.inr ⟨g,cap,a,b,⟨⟨d,(e g b (zi c) (by rw[a];rfl)).trans c,f⟩,i,j⟩⟩
theorem SL.ownlt {w:World}{B:Nat}{v:Value}{l:List Sy}(h:SL w B v l){g:Nat}(a:v.ownBlock=some g):B<=g/\g<w.heap.size:=by
 rcases h with⟨rfl,_⟩|⟨g',cap,rfl,q2,⟨⟨cur,r1,r2⟩,r3,r4⟩⟩
 ·cases a
 ·cases a
  exact⟨q2,zi r1⟩
theorem outP_of {m:Tp.M}{S:Seen}{w e c d f w':World}{ob:Nat}{sv p vv o:Value}{h:List Value}(j:Below w.heap.size w e)(k:Below e.heap.size e c)(H:e.heap.size=ob)(z:SL e w.heap.size sv (srt (Tp.symsOf m)))(G:ob<c.heap.size)
  (r:Ext ob c d)(B:d.ownsRow c.heap.size 128 3 p m.imports.length h)(s:UsN d (fun b=>c.heap.size<=b) (uS m) (fun n=>Tp.needsS ((S n).getD []) (uS m n)) (m.imports.take m.imports.length) h)
  (t:Ext ob d f)(u:f.ownsRow d.heap.size 118 4 vv m.vars.length (g0s (m.vars.take m.vars.length)))
  (v:Ext ob f w')(C:w'.heap[ob]?=some (.cells (oc5 (bs m.name) sv p vv o) 59 (0,0)))(x:w'.ownsRow f.heap.size 9 1 o m.procs.length (strs ((m.procs.take m.procs.length).map (·.name)))):OutP w w' ob m S sv p vv o:=by
 have q:w.heap.size<=ob:=by have:=j.size;omega
 have i:Ext ob d w':=t.trans v
 have y:Ext ob c w':=r.trans i
 have E:=r.size
 have F:=t.size
 rw[List.take_length]at s u x
 refine⟨C,q,⟨z.other fun g _ a _=>?_,fun g D=>?_⟩,⟨h,(Row.of_owns B).mono fun b l a=>⟨i.block b a (by omega),by omega⟩,s.mono fun b l a=>⟨i.block b a (by omega),by omega⟩⟩,(Row.of_owns u).mono fun b l a=>⟨v.block b a (by omega),by omega⟩,(Row.of_owns x).mono fun b l a=>⟨rfl,by omega⟩,?_⟩
 ·exact(y.block g (by have:=k.size;omega) (by omega)).trans (k.block g a)
 ·have:=(z.ownlt D).2
  omega
 ·have A:Below w.heap.size w c:=j.trans (k.mono j.size)
  exact A.trans (zR y q A.size)
end Go.Proofs.YtmocelfkmdpogaaGreatDoor
