import Derived.Test.YtmocelfkmdpogaaGreatDoorKOa
import Derived.Test.YtmocelfkmdpogaaGreatDoorKMd
import Derived.Deep.RegionHeld3
set_option maxRecDepth 100000
set_option maxHeartbeats 4000000
namespace Go.Proofs.YtmocelfkmdpogaaGreatDoor
open Go.RowKit
open Tp (Bs X S G Pr Cn)
open Ob (In)
theorem CS.lt {w:World}{d ob:Nat}{D:Nat->Prop}{q:Oq}{c:Cn}{v:Value}{b:List In}(h:CS w d ob D q c v b){g:Nat}(a:v.ownBlock=some g):g<w.heap.size:=by
 rcases h.cd.2 with⟨q0,_⟩|⟨g',cap,cur,q0,q1,q2,_⟩
 ·subst q0;cases a
 ·subst q0
  have:g'=g:=by simpa[Value.ownBlock] using a
  subst this
  exact zi q2
theorem kY {w:World}{f ob:Nat}{D:Nat->Prop}{q:Oq}{c:Cn}{v:Value}{B:List In}(h:CS w f ob D q c v B)(hl:B.length<4000)(hs:CnS c){x:Nat}(hx:D x){y nm:Bs}(hm:w.cell? ⟨x,3,none⟩=some (.string (bs y)))(d8:w.cell? ⟨x,4,none⟩=some (.string (bs nm)))(op:Int) :
  Calls Tryz.prog 206 #[.pointer (some ⟨f,0,none⟩),.int .i64 op,.pointer (some ⟨x,0,none⟩)] w (Laid5 w f ob D q c v (B++[Tp.reachI c op y nm])):=by
 obtain⟨r,Z⟩:∃r,r=w.alloc (.cells #[.pointer (some ⟨x,0,none⟩)] 86):=⟨_,rfl⟩
 obtain⟨s,b4⟩:∃b,b=w.heap.size:=⟨_,rfl⟩
 have F:Below w.heap.size w r:=by rw[Z];exact zb _ _
 have Y:r.heap[s]?=some (.cells #[.pointer (some ⟨x,0,none⟩)] 86 (0,0)):=by rw[Z,b4];exact zk _ _
 have C:=h.on F
 have b3:x<w.heap.size:=(h.ok x hx).2.2
 have b2:r.cell? ⟨x,3,none⟩=some (.string (bs y)):=(F.cell (p:=⟨x,3,none⟩) b3).trans hm
 have b5:r.cell? ⟨x,4,none⟩=some (.string (bs nm)):=(F.cell (p:=⟨x,4,none⟩) b3).trans d8
 obtain⟨e7,u1,u2⟩:=C.us
 have HC:=zh (vq u1 u2 (by have:=hs.u;omega) (za Y) b2)
 have k0:r.cell? ⟨f,0,none⟩=some (.pointer (some ⟨ob,0,none⟩)):=za C.wbk
 have k2:r.cell? ⟨ob,2,none⟩=some (.slice q.ua c.uses.length q.uc):=za C.obk
 have c7:=zi C.wbk
 have c6:=zi C.obk
 have c3:=zi Y
 have M:=zh F
 have U:=zh C
 have d2:=zh Y
 have e4:=zh b2
 have d3:=zh b5
 have d5:Hid (x<r.heap.size):=Nat.lt_of_lt_of_le b3 F.size
 have b9:Hid (s≠ob/\v.ownBlock≠some s):=by
  refine⟨fun e=>?_,fun e=>?_⟩
  ·have:=zi h.obk;omega
  ·have:=h.lt e;omega
 have HU:Hid (∀i (hi:i<c.uses.length),∃(g:Nat) (a:Option Addr) (k:Nat),q.ua=some ⟨g,0,none⟩/\D g/\r.cell? ⟨g,i*3+2,none⟩=some (.slice a c.uses[i].2.length k)/\Row r D 9 1 (.slice a c.uses[i].2.length k) c.uses[i].2.length (strs c.uses[i].2)):=fun i hi=>by
  obtain⟨nd,a,k,_,_,t,e3⟩:=u2 i hi
  rcases u1 with⟨_,q0,_⟩|⟨g,cap,cur,q0,q1,q2,q3,q4,q5,q6⟩
  ·omega
  ·obtain⟨d9,_,_⟩:=Value.slice.inj q0
   refine⟨g,a,k,d9,q1,?_,e3⟩
   rw[za q2,<-Array.getElem?_toList,<-t,<-q6,List.getElem?_take_of_lt (by omega)]
 clear C F Y u1 u2 b2 b5
 go_enter Tryz.func206,Tryz.ntmps206
 go_upto_region 1 with fail
 rw[<-Z,<-b4]
 clear Z b4
 go_wp2_with fail
 refine HC.out.mono ?_
 rintro e d⟨rfl,A⟩
 have b1:Below r.heap.size r d.drew:=A.drew
 have E:=U.out.on b1
 have N:=zh E
 have b8:Hid (Below w.heap.size w d.drew):=M.out.trans (b1.mono M.out.size)
 have d1:Hid (Below w.heap.size w d):=M.out.trans (A.mono M.out.size)
 have c0:d.cell? ⟨f,0,none⟩=some (.pointer (some ⟨ob,0,none⟩)):=(A.cell (p:=⟨f,0,none⟩) c7).trans k0
 have cx:d.cell? ⟨s,0,none⟩=some (.pointer (some ⟨x,0,none⟩)):=(A.cell (p:=⟨s,0,none⟩) c3).trans (za d2.out)
 have c4:d.cell? ⟨x,4,none⟩=some (.string (bs nm)):=(A.cell (p:=⟨x,4,none⟩) d5.out).trans d3.out
 have c2:d.cell? ⟨ob,2,none⟩=some (.slice q.ua c.uses.length q.uc):=(A.cell (p:=⟨ob,2,none⟩) c6).trans k2
 have c5:d.cell? ⟨ob,5,none⟩=some (.slice q.na c.procs.length q.nc):=za E.obk
 have l0:=zc c0
 have l1:=zc cx
 have l2:=zc c4
 have l3:=zc c2
 have a7:=zh hl
 have V:=zh hs
 have T:=zh A
 have a0:Hid (∀cs' e W,Laid5 d.drew f ob D q c v cs' e W->W.cell? ⟨f,0,none⟩=some (.pointer (some ⟨ob,0,none⟩))/\W.cell? ⟨ob,2,none⟩=some (.slice q.ua c.uses.length q.uc)/\W.cell? ⟨ob,5,none⟩=some (.slice q.na c.procs.length q.nc)/\W.cell? ⟨s,0,none⟩=some (.pointer (some ⟨x,0,none⟩))/\W.cell? ⟨x,4,none⟩=some (.string (bs nm))/\∀g,D g->∀j,W.cell? ⟨g,j,none⟩=d.cell? ⟨g,j,none⟩):=fun cs' e W H=>by
  obtain⟨_,v',R,S⟩:=H
  refine⟨za R.wbk,za R.obk,za R.obk,?_,?_,fun g hg j=>?_⟩
  ·exact(World.cell?_of_block (w:=d) (S.block s (by exact l1) b9.out.1 b9.out.2)).trans cx
  ·exact(N.out.cell S hx 4).trans c4
  ·exact N.out.cell S hg j
 clear k0 k2 E b1 A c7 c6 c3 HC M hl hs
 rcases hz:c.uses.findIdx? (fun u=>u.1==y) with _|i
 ·have G:uidx c.uses y=-1:=by unfold uidx;rw[hz]
  rw[G]
  by_cases ho:op=14
  ·subst ho
   have t:Tp.reachI c 14 y nm=⟨14,Tp.idx c.procs nm,-1⟩:=by unfold Tp.reachI;rw[hz];rfl
   have Q:=zh t
   have a8:Hid (Calls Tryz.prog 43 #[.slice q.na c.procs.length q.nc,.string (bs nm)] d.drew fun e w'=>e=.returned (.int .i64 (Tp.idx c.procs nm))/\w'=d.drew):=yF N.out.nm (by have:=V.out.p;omega) nm
   have L:Hid (Calls Tryz.prog 101 #[.pointer (some ⟨f,0,none⟩),.agg #[.int .i64 14,.int .i64 (Tp.idx c.procs nm),.int .i64 (-1)]] d.drew (Laid5 d.drew f ob D q c v (B++[⟨14,Tp.idx c.procs nm,-1⟩]))):=yp N.out a7.out ⟨14,Tp.idx c.procs nm,-1⟩
   have a9:Hid (d.drew.cell? ⟨f,0,none⟩=some (.pointer (some ⟨ob,0,none⟩))/\d.drew.cell? ⟨ob,5,none⟩=some (.slice q.na c.procs.length q.nc)/\d.drew.cell? ⟨s,0,none⟩=some (.pointer (some ⟨x,0,none⟩))/\d.drew.cell? ⟨x,4,none⟩=some (.string (bs nm))):=⟨c0,c5,cx,c4⟩
   generalize Tp.idx c.procs nm=z at *
   generalize c.procs.length=pl at *
   clear G t hz
   go_wp2_with fail
   go_region_held3 (fun W=>W.cell? ⟨f,0,none⟩=some (.pointer (some ⟨ob,0,none⟩))/\W.cell? ⟨ob,5,none⟩=some (.slice q.na pl q.nc)/\W.cell? ⟨s,0,none⟩=some (.pointer (some ⟨x,0,none⟩))/\W.cell? ⟨x,4,none⟩=some (.string (bs nm))) (with_reducible (first|exact b0.out|exact a9.out)) (first|(go_at_call 43;refine a8.out.mono ?_;rintro e w3 ⟨rfl,rfl⟩)|(go_at_call 101;refine L.out.mono ?_;rintro e J m;have P:=m.1;subst P;have O:=zh m;have K:=a0.out _ _ _ m;have b0:Hid (J.cell? ⟨f,0,none⟩=some (.pointer (some ⟨ob,0,none⟩))/\J.cell? ⟨ob,5,none⟩=some (.slice q.na pl q.nc)/\J.cell? ⟨s,0,none⟩=some (.pointer (some ⟨x,0,none⟩))/\J.cell? ⟨x,4,none⟩=some (.string (bs nm))):=⟨K.1,K.2.2.1,K.2.2.2.1,K.2.2.2.2.1⟩;clear m K))
   go_wp2_with fail
   exact bodyPost_end (results_none rfl _ _ _) rfl (by rw[Q.out];exact O.out.from b8.out)
  ·have t:Tp.reachI c op y nm=⟨op,Tp.idx c.vars nm,-1⟩:=by unfold Tp.reachI;rw[hz];simp only;rw[if_neg ho]
   have Q:=zh t
   have E:CS d f ob D q c v B:=U.out.on T.out
   have d4:=zh (yN E V.out nm)
   have L:Hid (∀W,Below d.heap.size d W->Calls Tryz.prog 101 #[.pointer (some ⟨f,0,none⟩),.agg #[.int .i64 op,.int .i64 (Tp.idx c.vars nm),.int .i64 (-1)]] W (Laid5 d f ob D q c v (B++[⟨op,Tp.idx c.vars nm,-1⟩]))):=fun W H=>(yp (E.on H) a7.out ⟨op,Tp.idx c.vars nm,-1⟩).mono fun _ _ hq=>Laid5.from H hq
   generalize Tp.idx c.vars nm=z at *
   clear G t hz E
   go_wp2_with fail
   refine d4.out.mono ?_
   rintro e w3⟨rfl,c1⟩
   have d0:=zh (L.out w3 c1)
   clear c1
   go_wp2_with fail
   refine d0.out.mono ?_
   rintro e J m
   have P:=m.1
   subst P
   have O:=zh m
   clear m
   go_wp2_with fail
   exact bodyPost_end (results_none rfl _ _ _) rfl (by rw[Q.out];exact O.out.from d1.out)
 ·have X:i<c.uses.length:=by
   rw[List.findIdx?_eq_some_iff_getElem]at hz
   exact hz.1
  have G:uidx c.uses y=(i:Int):=by unfold uidx;rw[hz]
  have t:Tp.reachI c op y nm=⟨op,Tp.idx c.uses[i].2 nm,(i:Int)⟩:=by unfold Tp.reachI;rw[hz];simp[List.getElem?_eq_getElem X]
  rw[G]
  obtain⟨g,I,nc,g1,g2,g3,g4⟩:=HU.out i X
  have c8:c.uses[i].2.length<=1000:=V.out.n _ (List.getElem_mem X)
  obtain⟨o,b6⟩:∃l,c.uses[i].2=l:=⟨_,rfl⟩
  rw[b6]at g3 g4 t c8
  have Q:=zh t
  rw[g1]at c2
  have c9:Hid (∀cs' e W,Laid5 d.drew f ob D q c v cs' e W->W.cell? ⟨f,0,none⟩=some (.pointer (some ⟨ob,0,none⟩))/\W.cell? ⟨ob,2,none⟩=some (.slice (some ⟨g,0,none⟩) c.uses.length q.uc)/\W.cell? ⟨s,0,none⟩=some (.pointer (some ⟨x,0,none⟩))/\W.cell? ⟨x,4,none⟩=some (.string (bs nm))/\W.cell? ⟨g,i*3+2,none⟩=some (.slice I o.length nc)):=fun cs' e W H=>by
   have d7:=(U.out.ok g g2).2.2
   obtain⟨R,S,a3,a4,a5,a6⟩:=a0.out cs' e W H
   exact⟨R,by rw[S,g1],a4,a5,(a6 g g2 _).trans ((T.out.cell (p:=⟨g,i*3+2,none⟩) d7).trans g3)⟩
  have cg:d.cell? ⟨g,i*3+2,none⟩=some (.slice I o.length nc):=(T.out.cell (p:=⟨g,i*3+2,none⟩) (U.out.ok g g2).2.2).trans g3
  have e5:=zc cg
  have b7:Row d.drew D 9 1 (.slice I o.length nc) o.length (strs o):=g4.mono fun b hb d6=>⟨T.out.drew.block b d6,hb⟩
  have a8:Hid (Calls Tryz.prog 43 #[.slice I o.length nc,.string (bs nm)] d.drew fun e w'=>e=.returned (.int .i64 (Tp.idx o nm))/\w'=d.drew):=yF b7 (by omega) nm
  have L:Hid (Calls Tryz.prog 101 #[.pointer (some ⟨f,0,none⟩),.agg #[.int .i64 op,.int .i64 (Tp.idx o nm),.int .i64 (i:Int)]] d.drew (Laid5 d.drew f ob D q c v (B++[⟨op,Tp.idx o nm,(i:Int)⟩]))):=yp N.out a7.out ⟨op,Tp.idx o nm,(i:Int)⟩
  have a9:Hid (d.drew.cell? ⟨f,0,none⟩=some (.pointer (some ⟨ob,0,none⟩))/\d.drew.cell? ⟨ob,2,none⟩=some (.slice (some ⟨g,0,none⟩) c.uses.length q.uc)/\d.drew.cell? ⟨s,0,none⟩=some (.pointer (some ⟨x,0,none⟩))/\d.drew.cell? ⟨x,4,none⟩=some (.string (bs nm))/\d.drew.cell? ⟨g,i*3+2,none⟩=some (.slice I o.length nc)):=⟨c0,c2,cx,c4,cg⟩
  have e0:(i:Int)<(c.uses.length:Int):=by omega
  have e6:(c.uses.length:Int)<=1000:=by have:=V.out.u;omega
  clear a0 HU g4 b7 hz G t g3 b6 X c8
  generalize Tp.idx o nm=z at *
  generalize o.length=nl at *
  generalize c.uses.length=ul at *
  go_wp2_with fail
  go_region_held3 (fun W=>W.cell? ⟨f,0,none⟩=some (.pointer (some ⟨ob,0,none⟩))/\W.cell? ⟨ob,2,none⟩=some (.slice (some ⟨g,0,none⟩) ul q.uc)/\W.cell? ⟨s,0,none⟩=some (.pointer (some ⟨x,0,none⟩))/\W.cell? ⟨x,4,none⟩=some (.string (bs nm))/\W.cell? ⟨g,i*3+2,none⟩=some (.slice I nl nc)) (with_reducible (first|exact b0.out|exact a9.out)) (first|(go_at_call 43;refine a8.out.mono ?_;rintro e w3 ⟨rfl,rfl⟩)|(go_at_call 101;refine L.out.mono ?_;rintro e J m;have P:=m.1;subst P;have O:=zh m;have b0:=zh (c9.out _ _ _ m);clear m))
  go_wp2_with fail
  exact bodyPost_end (results_none rfl _ _ _) rfl (by rw[Q.out];exact O.out.from b8.out)
theorem uY {w:World}{d ob:Nat}{D:Nat->Prop}{q:Oq}{c:Cn}{v:Value}{l:List In}(h:CS w d ob D q c v l)(s:l.length<4000)(y:CnS c){x:Nat}(H:D x){a nm:Bs}(G:w.cell? ⟨x,3,none⟩=some (.string (bs a)))(K:w.cell? ⟨x,4,none⟩=some (.string (bs nm))) :
  Calls Tryz.prog 205 #[.pointer (some ⟨d,0,none⟩),.pointer (some ⟨x,0,none⟩)] w (Laid5 w d ob D q c v (l++[Tp.valueI c a nm])):=by
 have f:Hid (∀n,Below w.heap.size w (w.drewN n)):=fun n=>below_drewN (Below.refl _ _) n
 have C:Hid (∀n,Calls Tryz.prog 43 #[.slice q.oa c.own.length q.oc,.string (bs nm)] (w.drewN n) fun e w'=>e=.returned (.int .i64 (Tp.idx c.own nm))/\w'=w.drewN n):=fun n=>yF (h.on (f.out n)).ow (by have:=y.o;omega) nm
 have B:Hid (∀n,Calls Tryz.prog 101 #[.pointer (some ⟨d,0,none⟩),.agg #[.int .i64 3,.int .i64 (Tp.idx c.own nm),.int .i64 0]] (w.drewN n) (Laid5 w d ob D q c v (l++[⟨3,Tp.idx c.own nm,0⟩]))):=fun n=>(yp (h.on (f.out n)) s ⟨3,Tp.idx c.own nm,0⟩).mono fun _ _ u=>Laid5.from (f.out n) u
 have E:Hid (∀n,Calls Tryz.prog 206 #[.pointer (some ⟨d,0,none⟩),.int .i64 5,.pointer (some ⟨x,0,none⟩)] (w.drewN n) (Laid5 w d ob D q c v (l++[Tp.reachI c 5 a nm]))):=fun n=>(kY (h.on (f.out n)) s y H G K 5).mono fun _ _ u=>Laid5.from (f.out n) u
 have R:w.cell? ⟨d,1,none⟩=some (.slice q.oa c.own.length q.oc):=za h.wbk
 have O:=zi h.wbk
 have M:=(h.ok x H).2.2
 have r:Hid (Tp.valueI c a nm=if 0<=Tp.idx c.own nm/\a=[] then ⟨3,Tp.idx c.own nm,0⟩ else Tp.reachI c 5 a nm):=rfl
 clear h s y
 generalize Tp.idx c.own nm=z at *
 generalize c.own.length=ol at *
 obtain⟨t,A⟩:∃t,((bs a).toList==[])=t:=⟨_,rfl⟩
 have F:Hid (t=true↔a=[]):=by
  show _↔_
  rw[<-A,zy,beq_iff_eq]
 rw[zy]at A
 have L:=A
 rw[<-zy a]at L
 go_enter Tryz.func205,Tryz.ntmps205
 go_wp2_with fail
 go_quiet ((go_at_call 43;exact Calls.quiet_of_same (C.out _)))
 have m:=zh (B.out nq)
 have p:=zh (E.out nq)
 have P:(w.drewN nq).cell? ⟨x,3,none⟩=some (.string (bs a)):=G
 have N:x<(w.drewN nq).heap.size:=M
 clear B E C f
 generalize w.drewN nq=w1 at *
 by_cases I:0<=z
 ·cases t with
  |true =>
   have j:Hid (Tp.valueI c a nm=⟨3,z,0⟩):=by show _=_;rw[r.out,if_pos ⟨I,F.out.1 rfl⟩]
   clear p
   go_wp2_with fail
   refine m.out.mono ?_
   rintro e J b
   have i:=b.1
   subst i
   have g:=zh b
   clear b
   go_wp2_with fail
   exact bodyPost_end (results_none rfl _ _ _) rfl (by rw[j.out];exact g.out)
  |false =>
   have j:Hid (Tp.valueI c a nm=Tp.reachI c 5 a nm):=by
    show _=_
    rw[r.out,if_neg]
    intro k
    have:=F.out.2 k.2
    cases this
   clear m
   go_wp2_with fail
   refine p.out.mono ?_
   rintro e J b
   have i:=b.1
   subst i
   have g:=zh b
   clear b
   go_wp2_with fail
   exact bodyPost_end (results_none rfl _ _ _) rfl (by rw[j.out];exact g.out)
 ·have j:Hid (Tp.valueI c a nm=Tp.reachI c 5 a nm):=by
   show _=_
   rw[r.out,if_neg]
   intro k
   exact I k.1
  have Q:z<0:=by omega
  clear m
  go_wp2_with fail
  refine p.out.mono ?_
  rintro e J b
  have i:=b.1
  subst i
  have g:=zh b
  clear b
  go_wp2_with fail
  exact bodyPost_end (results_none rfl _ _ _) rfl (by rw[j.out];exact g.out)
end Go.Proofs.YtmocelfkmdpogaaGreatDoor
namespace Go.Proofs.YtmocelfkmdpogaaGreatDoor
open Go.RowKit
open Tp (Bs X S G Pr Cn cX)
open Ob (In)
def AskC (wb ob:Nat) (D:Nat->Prop) (q:Oq) (c:Cn) (y:X) (yb:Nat):Prop:=∀W V cs,CS W wb ob D q c V cs->RepL W D [y] [.pointer (some ⟨yb,0,none⟩)]->cs.length+(cX c cs.length [y]).length<=4000->Calls Tryz.prog 191 #[.pointer (some ⟨wb,0,none⟩),.pointer (some ⟨yb,0,none⟩)] W (Laid5 W wb ob D q c V (cs++cX c cs.length [y]))
theorem jK {w:World}{b ob:Nat}{D:Nat->Prop}{q:Oq}{c:Cn}{v:Value}{a:List In}(h:CS w b ob D q c v a){y:X}{d:Nat}(n:AskC b ob D q c y d)(p:RepL w D [y] [.pointer (some ⟨d,0,none⟩)])(o:a.length+(cX c a.length [y]).length+2<=4000) :
  Calls Tryz.prog 221 #[.pointer (some ⟨b,0,none⟩),.pointer (some ⟨d,0,none⟩)] w (Laid5 w b ob D q c v (a++(cX c a.length [y]++[⟨11,0,0⟩,⟨11,0,0⟩]))):=by
 have A:=zh (n w v a h p (by omega))
 have f:=zh o
 clear h n p o
 generalize cX c a.length [y]=R at *
 go_enter Tryz.func221,Tryz.ntmps221
 go_wp2_with fail
 refine A.out.mono ?_
 rintro e F⟨rfl,v1,k,g⟩
 have B:=zh (y6 k (by have:=f.out;simp;omega) 11)
 have t:=zh g
 clear k g
 go_wp2_with fail
 refine B.out.mono ?_
 rintro e C⟨rfl,v2,l,i⟩
 have s:=zh (y6 l (by have:=f.out;simp;omega) 11)
 have u:Hid (Cg ob v w v2 C):=t.out.trans i
 clear l i
 go_wp2_with fail
 refine s.out.mono ?_
 rintro e E⟨rfl,r,m,j⟩
 have x:Hid (Cg ob v w r E):=u.out.trans j
 have z:=zh m
 clear m j
 go_wp2_with fail
 refine bodyPost_end (results_none rfl _ _ _) rfl ⟨rfl,r,?_,x.out⟩
 have:=z.out
 simpa[List.append_assoc] using this
def andT (K:Nat) (R:List In):List In:=⟨13,((K+R.length+4:Nat):Int),0⟩ :: (R++[⟨11,0,0⟩,⟨11,0,0⟩,⟨12,((K+R.length+5:Nat):Int),0⟩,⟨1,0,0⟩])
def orT (K:Nat) (R:List In):List In:=⟨13,((K+3:Nat):Int),0⟩ :: ⟨1,1,0⟩ :: ⟨12,((K+R.length+5:Nat):Int),0⟩ :: (R++[⟨11,0,0⟩,⟨11,0,0⟩])
theorem andI_eq (k:Nat)(l r:List In):Tp.andI k l r=l++andT (k+l.length) r:=by
 unfold Tp.andI andT
 simp
theorem orI_eq (k:Nat)(l r:List In):Tp.orI k l r=l++orT (k+l.length) r:=by
 unfold Tp.orI orT
 simp
theorem yK {w:World}{d ob:Nat}{D:Nat->Prop}{q:Oq}{c:Cn}{v:Value}{a p r:List In}{x:In}{k:Nat}(h:CS w d ob D q c v a)(e:a=p++x :: r)(g:k=p.length)(i:a.length<=4000){cs':List In}(f:cs'=p++⟨x.op,(a.length:Int),x.b⟩ :: r) :
  Calls Tryz.prog 194 #[.pointer (some ⟨d,0,none⟩),.int .i64 (k:Int)] w (Laid5 w d ob D q c v cs'):=by
 subst e
 subst g
 subst f
 exact land5_post h i
theorem and5_post {w:World}{i ob:Nat}{D:Nat->Prop}{q:Oq}{c:Cn}{v:Value}{a:List In}(h:CS w i ob D q c v a){y:X}{t:Nat}(M:AskC i ob D q c y t)(O:RepL w D [y] [.pointer (some ⟨t,0,none⟩)])(N:a.length+(cX c (a.length+1) [y]).length+5<=4000) :
  Calls Tryz.prog 214 #[.pointer (some ⟨i,0,none⟩),.pointer (some ⟨t,0,none⟩)] w (Laid5 w i ob D q c v (a++andT a.length (cX c (a.length+1) [y]))):=by
 obtain⟨k,f⟩:∃k,k=a.length:=⟨_,rfl⟩
 obtain⟨R,o⟩:∃R,R=cX c (a.length+1) [y]:=⟨_,rfl⟩
 have z:=zh (yu h (by omega) 13)
 rw[<-f]at z
 have d:=zh N
 have m:=zh f
 have b:=zh o
 have HH:=zh h
 have a2:=zh O
 have HA:=zh M
 rw[<-o,<-f]
 clear h M O N f o
 go_enter Tryz.func214,Tryz.ntmps214
 go_wp2_with fail
 refine z.out.mono ?_
 rintro e w1⟨rfl,v1,G,n⟩
 have l:cX c (a++[(⟨13,0,0⟩:In)]).length [y]=R:=by rw[b.out];simp
 have s:=jK G HA.out (HH.out.rep n a2.out) (by rw[l];have:=d.out;rw[<-b.out]at this;simp;omega)
 rw[l]at s
 have HT:=zh s
 have Q:=zh n
 clear G n s l
 go_wp2_with fail
 refine HT.out.mono ?_
 rintro e w2⟨rfl,v2,H,A⟩
 have S:Hid (Cg ob v w v2 w2):=Q.out.trans A
 obtain⟨g,j⟩:∃g,g=(a++[(⟨13,0,0⟩:In)]++(R++[(⟨11,0,0⟩:In),⟨11,0,0⟩])).length:=⟨_,rfl⟩
 have u:=zh (yu H (by have:=d.out;rw[<-b.out]at this;simp;omega) 12)
 rw[<-j]at u
 have Y:Hid (g=a.length+R.length+3):=by show _=_;rw[j];simp;omega
 clear H A j
 go_wp2_with fail
 refine u.out.mono ?_
 rintro e w3⟨rfl,v3,I,B⟩
 have T:Hid (Cg ob v w v3 w3):=S.out.trans B
 have Z:=zh (yK (p:=a) (x:=⟨13,0,0⟩) (r:=R++[⟨11,0,0⟩,⟨11,0,0⟩,⟨12,0,0⟩]) I (by simp) m.out (by have:=d.out;rw[<-b.out]at this;simp;omega) (cs':=a++⟨13,((k+R.length+4:Nat):Int),0⟩ :: (R++[⟨11,0,0⟩,⟨11,0,0⟩,⟨12,0,0⟩])) (by rw[m.out];simp;omega))
 clear I B
 go_wp2_with fail
 refine Z.out.mono ?_
 rintro e w4⟨rfl,v4,J,C⟩
 have U:Hid (Cg ob v w v4 w4):=T.out.trans C
 have a1:=zh (kF J (by have:=d.out;rw[<-b.out]at this;simp;omega) 0)
 clear J C
 go_wp2_with fail
 refine a1.out.mono ?_
 rintro e w5⟨rfl,v5,K,E⟩
 have V:Hid (Cg ob v w v5 w5):=U.out.trans E
 have a0:=zh (yK (p:=a++⟨13,((k+R.length+4:Nat):Int),0⟩ :: (R++[⟨11,0,0⟩,⟨11,0,0⟩])) (x:=⟨12,0,0⟩) (r:=[⟨1,0,0⟩]) (k:=g) K (by simp) (by rw[Y.out];simp;omega) (by have:=d.out;rw[<-b.out]at this;simp;omega) (cs':=a++andT k R) (by unfold andT;rw[m.out];simp;omega))
 clear K E
 go_wp2_with fail
 refine a0.out.mono ?_
 rintro e w6⟨rfl,P,L,F⟩
 have W:Hid (Cg ob v w P w6):=V.out.trans F
 have H6:=zh L
 clear L F
 go_wp2_with fail
 exact bodyPost_end (results_none rfl _ _ _) rfl ⟨rfl,P,H6.out,W.out⟩
theorem or5_post {w:World}{i ob:Nat}{D:Nat->Prop}{q:Oq}{c:Cn}{v:Value}{a:List In}(h:CS w i ob D q c v a){y:X}{s:Nat}(N:AskC i ob D q c y s)(P:RepL w D [y] [.pointer (some ⟨s,0,none⟩)])(O:a.length+(cX c (a.length+3) [y]).length+5<=4000) :
  Calls Tryz.prog 215 #[.pointer (some ⟨i,0,none⟩),.pointer (some ⟨s,0,none⟩)] w (Laid5 w i ob D q c v (a++orT a.length (cX c (a.length+3) [y]))):=by
 obtain⟨k,f⟩:∃k,k=a.length:=⟨_,rfl⟩
 obtain⟨R,n⟩:∃R,R=cX c (a.length+3) [y]:=⟨_,rfl⟩
 have u:=zh (yu h (by omega) 13)
 rw[<-f]at u
 have d:=zh O
 have m:=zh f
 have b:=zh n
 have HH:=zh h
 have a2:=zh P
 have HA:=zh N
 rw[<-n,<-f]
 clear h N P O f n
 go_enter Tryz.func215,Tryz.ntmps215
 go_wp2_with fail
 refine u.out.mono ?_
 rintro e w1⟨rfl,v1,H,A⟩
 have a1:=zh (kF H (by have:=d.out;rw[<-b.out]at this;simp;omega) 1)
 have S:=zh A
 clear H A
 go_wp2_with fail
 refine a1.out.mono ?_
 rintro e w2⟨rfl,v2,I,B⟩
 have T:Hid (Cg ob v w v2 w2):=S.out.trans B
 obtain⟨g,j⟩:∃g,g=(a++[(⟨13,0,0⟩:In)]++[(⟨1,1,0⟩:In)]).length:=⟨_,rfl⟩
 have t:=zh (yu I (by have:=d.out;rw[<-b.out]at this;simp;omega) 12)
 rw[<-j]at t
 have Y:Hid (g=a.length+2):=by show _=_;rw[j];simp
 clear I B j
 go_wp2_with fail
 refine t.out.mono ?_
 rintro e w3⟨rfl,v3,J,C⟩
 have U:Hid (Cg ob v w v3 w3):=T.out.trans C
 have Z:=zh (yK (p:=a) (x:=⟨13,0,0⟩) (r:=[⟨1,1,0⟩,⟨12,0,0⟩]) J (by simp) m.out (by have:=d.out;rw[<-b.out]at this;simp;omega) (cs':=a++[⟨13,((k+3:Nat):Int),0⟩,⟨1,1,0⟩,⟨12,0,0⟩]) (by rw[m.out];simp))
 clear J C
 go_wp2_with fail
 refine Z.out.mono ?_
 rintro e w4⟨rfl,v4,K,E⟩
 have z:Hid (Cg ob v w v4 w4):=U.out.trans E
 have l:cX c (a++[(⟨13,((k+3:Nat):Int),0⟩:In),⟨1,1,0⟩,⟨12,0,0⟩]).length [y]=R:=by rw[b.out];simp
 have o:=jK K HA.out (HH.out.rep z.out a2.out) (by rw[l];have:=d.out;rw[<-b.out]at this;simp;omega)
 rw[l]at o
 have HT:=zh o
 clear K E o l
 go_wp2_with fail
 refine HT.out.mono ?_
 rintro e w5⟨rfl,v5,L,F⟩
 have V:Hid (Cg ob v w v5 w5):=z.out.trans F
 have a0:=zh (yK (p:=a++[⟨13,((k+3:Nat):Int),0⟩,⟨1,1,0⟩]) (x:=⟨12,0,0⟩) (r:=R++[⟨11,0,0⟩,⟨11,0,0⟩]) (k:=g) L (by simp) (by rw[Y.out];simp) (by have:=d.out;rw[<-b.out]at this;simp;omega) (cs':=a++orT k R) (by unfold orT;rw[m.out];simp;omega))
 clear L F
 go_wp2_with fail
 refine a0.out.mono ?_
 rintro e w6⟨rfl,Q,M,G⟩
 have W:Hid (Cg ob v w Q w6):=V.out.trans G
 have H6:=zh M
 clear M G
 go_wp2_with fail
 exact bodyPost_end (results_none rfl _ _ _) rfl ⟨rfl,Q,H6.out,W.out⟩
theorem cX_app (c:Cn):∀(l m:List X) (k:Nat),cX c k (l++m)=cX c k l++cX c (k+(cX c k l).length) m:=by
 intro l
 induction l with
 |nil=>intro m k;simp[Tp.cX_nil]
 |cons x l ih =>
  intro m k
  obtain⟨code,pos,n,d,nm,op,b,e,a⟩:=x
  rw[List.cons_append,Tp.cX_cons,Tp.cX_cons,ih,List.append_assoc,List.length_append,Nat.add_assoc]
theorem xD {l:List X}{w:World}{D:Nat->Prop}{vs:List Value}(b:RepL w D l vs)(e:l.length=1):∃y a,l=[y]/\vs=[.pointer (some ⟨a,0,none⟩)]/\RepL w D [y] [.pointer (some ⟨a,0,none⟩)]:=by
 obtain⟨y,rfl⟩:=Tp.len1 e
 have d:=RepL.len _ _ b
 obtain⟨a,c,f⟩:=RepL.get _ _ b 0 (by simp)
 match vs,d with
 |[u],_ =>
  simp at c
  subst c
  exact⟨y,a,rfl,rfl,f⟩
theorem vV {w:World}{g ob:Nat}{D:Nat->Prop}{q:Oq}{c:Cn}{v:Value}{a:List In}(h:CS w g ob D q c v a){x:Nat}(p:D x){op:Bs}{y:X}{s:Nat}(C:w.cell? ⟨x,5,none⟩=some (.string (bs op)))(P:w.cell? ⟨x,6,none⟩=some (.pointer (some ⟨s,0,none⟩)))(E:AskC g ob D q c y s)(G:RepL w D [y] [.pointer (some ⟨s,0,none⟩)])(F:a.length+(cX c a.length [y]).length+1<=4000) :
  Calls Tryz.prog 207 #[.pointer (some ⟨g,0,none⟩),.pointer (some ⟨x,0,none⟩)] w (Laid5 w g ob D q c v (a++(cX c a.length [y]++[if op=Tp.wNot then ⟨11,0,0⟩ else ⟨10,0,0⟩]))):=by
 have K:=zh (E w v a h G (by omega))
 have M:=zh F
 have L:=zh h
 have N:=zh p
 have T:=(h.ok x p).2.2
 have J:=zh C
 obtain⟨I,o⟩:∃I:In,I=if op=Tp.wNot then ⟨11,0,0⟩ else ⟨10,0,0⟩:=⟨_,rfl⟩
 rw[<-o]
 have z:=zh o
 clear h E G F p o
 generalize cX c a.length [y]=R at *
 obtain⟨t,Q⟩:∃t,((bs op).toList==[110,111,116])=t:=⟨_,rfl⟩
 have A:Hid (t=true↔op=Tp.wNot):=by
  show _↔_
  rw[<-Q,zy,beq_iff_eq]
  exact Iff.rfl
 go_enter Tryz.func207,Tryz.ntmps207
 go_wp2_with fail
 refine K.out.mono ?_
 rintro e H⟨rfl,v1,B,n⟩
 have f:=fun k=>zh (y6 B (by have:=M.out;simp;omega) k)
 have O:H.cell? ⟨x,5,none⟩=some (.string (bs op)):=(L.out.cell n N.out 5).trans J.out
 have S:x<H.heap.size:=zc O
 have u:=zh n
 clear B n C P
 cases t with
 |true =>
  have m:Hid (op=Tp.wNot):=A.out.1 rfl
  have i:=f 11
  clear f
  go_wp2_with fail
  refine i.out.mono ?_
  rintro e r⟨rfl,v2,d,b⟩
  have j:Hid (Cg ob v w v2 r):=u.out.trans b
  have l:=zh d
  clear d b
  go_wp2_with fail
  refine bodyPost_end (results_none rfl _ _ _) rfl ⟨rfl,v2,?_,j.out⟩
  rw[z.out,if_pos m.out,<-List.append_assoc]
  exact l.out
 |false =>
  have m:Hid (¬op=Tp.wNot):=fun e=>by have:=A.out.2 e;cases this
  have i:=f 10
  clear f
  go_wp2_with fail
  refine i.out.mono ?_
  rintro e r⟨rfl,v2,d,b⟩
  have j:Hid (Cg ob v w v2 r):=u.out.trans b
  have l:=zh d
  clear d b
  go_wp2_with fail
  refine bodyPost_end (results_none rfl _ _ _) rfl ⟨rfl,v2,?_,j.out⟩
  rw[z.out,if_neg m.out,<-List.append_assoc]
  exact l.out
def pairT (c:Cn) (K:Nat) (op:Bs) (z:X):List In:=if op=Tp.wAnd then andT K (cX c (K+1) [z]) else if op=Tp.wOr then orT K (cX c (K+3) [z]) else cX c K [z]++[⟨9,Tp.idx Tp.marks5 op,0⟩]
theorem pair5_post {w:World}{b ob:Nat}{D:Nat->Prop}{q:Oq}{c:Cn}{v:Value}{a:List In}(h:CS w b ob D q c v a){x:Nat}(I:D x){op:Bs}{y z:X}{J zb:Nat}(U:w.cell? ⟨x,5,none⟩=some (.string (bs op)))(h6:w.cell? ⟨x,6,none⟩=some (.pointer (some ⟨J,0,none⟩)))(V:w.cell? ⟨x,7,none⟩=some (.pointer (some ⟨zb,0,none⟩)))(W:AskC b ob D q c y J)(Z:RepL w D [y] [.pointer (some ⟨J,0,none⟩)])(L:AskC b ob D q c z zb)(M:RepL w D [z] [.pointer (some ⟨zb,0,none⟩)])
  (Y:a.length+(cX c a.length [y]).length+(pairT c (a.length+(cX c a.length [y]).length) op z).length<=4000) :
  Calls Tryz.prog 208 #[.pointer (some ⟨b,0,none⟩),.pointer (some ⟨x,0,none⟩)] w (Laid5 w b ob D q c v (a++(cX c a.length [y]++pairT c (a.length+(cX c a.length [y]).length) op z))):=by
 have HA:=zh (W w v a h Z (by omega))
 have o:=zh Y
 have B:=zh h
 have E:=zh I
 have s:=zh L
 have a7:=zh M
 have b0:=(h.ok x I).2.2
 have H5:=zh U
 have H7:=zh V
 clear h W Z Y I L M
 generalize cX c a.length [y]=R at *
 obtain⟨t,ht⟩:∃t,((bs op).toList==[97,110,100])=t:=⟨_,rfl⟩
 have N:Hid (t=true↔op=Tp.wAnd):=by
  show _↔_
  rw[<-ht,zy,beq_iff_eq]
  exact Iff.rfl
 obtain⟨u,hu⟩:∃u,((bs op).toList==[111,114])=u:=⟨_,rfl⟩
 have O:Hid (u=true↔op=Tp.wOr):=by
  show _↔_
  rw[<-hu,zy,beq_iff_eq]
  exact Iff.rfl
 go_enter Tryz.func208,Tryz.ntmps208
 go_wp2_with fail
 refine HA.out.mono ?_
 rintro e d⟨rfl,v1,Q,l⟩
 have F:d.cell? ⟨x,5,none⟩=some (.string (bs op)):=(B.out.cell l E.out 5).trans H5.out
 have c7:d.cell? ⟨x,7,none⟩=some (.pointer (some ⟨zb,0,none⟩)):=(B.out.cell l E.out 7).trans H7.out
 have a8:x<d.heap.size:=zc F
 have a3:=zh l
 have n:=zh Q
 have A:Hid (RepL d D [z] [.pointer (some ⟨zb,0,none⟩)]):=B.out.rep l a7.out
 have i:Hid ((a++R).length=a.length+R.length):=List.length_append
 clear Q l U h6 V
 have r:Hid (∀w' T,pairT c (a.length+R.length) op z=T->(∃p,CS w' b ob D q c p ((a++R)++T)/\Cg ob v1 d p w')->Laid5 w b ob D q c v (a++(R++pairT c (a.length+R.length) op z)) (.returned (.tuple #[])) w'):=fun w' T hT g=>by
  obtain⟨p,a1,a2⟩:=g
  refine⟨rfl,p,?_,a3.out.trans a2⟩
  rw[hT,<-List.append_assoc]
  exact a1
 cases t with
 |true =>
  have f:Hid (pairT c (a.length+R.length) op z=andT (a.length+R.length) (cX c (a.length+R.length+1) [z])):=by show _=_;unfold pairT;rw[if_pos (N.out.1 rfl)]
  have k:Hid (Calls Tryz.prog 214 #[.pointer (some ⟨b,0,none⟩),.pointer (some ⟨zb,0,none⟩)] d (Laid5 d b ob D q c v1 ((a++R)++andT (a.length+R.length) (cX c (a.length+R.length+1) [z])))):=by
   have:=and5_post n.out s.out A.out (by have:=o.out;rw[f.out]at this;rw[i.out];simp[andT]at this;omega)
   rw[i.out]at this
   exact this
  go_wp2_with fail
  refine k.out.mono ?_
  rintro e j⟨rfl,g⟩
  have C:=zh g
  clear g
  go_wp2_with fail
  exact bodyPost_end (results_none rfl _ _ _) rfl (r.out _ _ f.out C.out)
 |false =>
  have m:¬op=Tp.wAnd:=fun e=>by have:=N.out.2 e;cases this
  cases u with
  |true =>
   have f:Hid (pairT c (a.length+R.length) op z=orT (a.length+R.length) (cX c (a.length+R.length+3) [z])):=by show _=_;unfold pairT;rw[if_neg m,if_pos (O.out.1 rfl)]
   have k:Hid (Calls Tryz.prog 215 #[.pointer (some ⟨b,0,none⟩),.pointer (some ⟨zb,0,none⟩)] d (Laid5 d b ob D q c v1 ((a++R)++orT (a.length+R.length) (cX c (a.length+R.length+3) [z])))):=by
    have:=or5_post n.out s.out A.out (by have:=o.out;rw[f.out]at this;rw[i.out];simp[orT]at this;omega)
    rw[i.out]at this
    exact this
   clear m
   go_wp2_with fail
   refine k.out.mono ?_
   rintro e j⟨rfl,g⟩
   have C:=zh g
   clear g
   go_wp2_with fail
   exact bodyPost_end (results_none rfl _ _ _) rfl (r.out _ _ f.out C.out)
  |false =>
   have K:¬op=Tp.wOr:=fun e=>by have:=O.out.2 e;cases this
   have f:Hid (pairT c (a.length+R.length) op z=cX c (a.length+R.length) [z]++[⟨9,Tp.idx Tp.marks5 op,0⟩]):=by show _=_;unfold pairT;rw[if_neg m,if_neg K]
   have k:Hid (Calls Tryz.prog 191 #[.pointer (some ⟨b,0,none⟩),.pointer (some ⟨zb,0,none⟩)] d (Laid5 d b ob D q c v1 ((a++R)++cX c (a.length+R.length) [z]))):=by
    have:=s.out d v1 (a++R) n.out A.out (by have:=o.out;rw[f.out]at this;rw[i.out];simp at this;omega)
    rw[i.out]at this
    exact this
   clear m K
   go_wp2_with fail
   refine k.out.mono ?_
   rintro e j⟨rfl,v2,H,G⟩
   have d5:j.cell? ⟨x,5,none⟩=some (.string (bs op)):=(n.out.cell G E.out 5).trans F
   have a9:x<j.heap.size:=zc d5
   have a6:=zh (mark5_post H.mkc op)
   have a0:Hid (Calls Tryz.prog 101 #[.pointer (some ⟨b,0,none⟩),.agg #[.int .i64 9,.int .i64 (Tp.idx Tp.marks5 op),.int .i64 0]] j (Laid5 j b ob D q c v2 (((a++R)++cX c (a.length+R.length) [z])++[⟨9,Tp.idx Tp.marks5 op,0⟩]))):=yp H (by have:=o.out;rw[f.out]at this;simp at this ⊢;omega) ⟨9,Tp.idx Tp.marks5 op,0⟩
   have a4:=zh G
   clear H G F c7
   generalize Tp.idx Tp.marks5 op=mz at *
   go_wp2_with fail
   refine a6.out.mono ?_
   rintro e w3⟨rfl,rfl⟩
   go_wp2_with fail
   refine a0.out.mono ?_
   rintro e w4⟨rfl,v4,S,P⟩
   have H4:=zh S
   have a5:Hid (Cg ob v1 d v4 w4):=a4.out.trans P
   clear S P
   go_wp2_with fail
   refine bodyPost_end (results_none rfl _ _ _) rfl (r.out _ _ f.out ⟨v4,?_,a5.out⟩)
   rw[<-List.append_assoc]
   exact H4.out
def EC (wb ob:Nat) (D:Nat->Prop) (q:Oq) (c:Cn) (v:Value) (x:Nat) (w:World) (cs':List In):Prop:=Calls Tryz.prog 191 #[.pointer (some ⟨wb,0,none⟩),.pointer (some ⟨x,0,none⟩)] w (Laid5 w wb ob D q c v cs')
theorem expr5_num {w:World}{g ob:Nat}{D:Nat->Prop}{q:Oq}{c:Cn}{v:Value}{a:List In}(h:CS w g ob D q c v a){x:Nat}(f:D x){n:Nat}(m:w.cell? ⟨x,0,none⟩=some (.int .i64 1))(o:w.cell? ⟨x,2,none⟩=some (.int .i64 (n:Int)))(d:a.length<4000):EC g ob D q c v x w (a++[⟨1,(n:Int),0⟩]):=by
 unfold EC
 have i:=zh (kF h d (n:Int))
 have l:=(h.ok x f).2.2
 clear h d f
 go_enter Tryz.func191,Tryz.ntmps191
 go_wp2_with fail
 refine i.out.mono ?_
 rintro e p b
 have k:=b.1
 subst k
 have j:=zh b
 clear b
 go_wp2_with fail
 exact bodyPost_end (results_none rfl _ _ _) rfl j.out
theorem expr5_var {w:World}{i ob:Nat}{D:Nat->Prop}{q:Oq}{c:Cn}{v:Value}{a:List In}(h:CS w i ob D q c v a)(o:CnS c){x:Nat}(d:D x){f nm:Bs}(r:w.cell? ⟨x,0,none⟩=some (.int .i64 2))(m:w.cell? ⟨x,3,none⟩=some (.string (bs f)))(j:w.cell? ⟨x,4,none⟩=some (.string (bs nm)))(g:a.length<4000):EC i ob D q c v x w (a++[Tp.valueI c f nm]):=by
 unfold EC
 have k:=zh (uY h g o d m j)
 have p:=(h.ok x d).2.2
 clear h g d
 generalize Tp.valueI c f nm=I at *
 go_enter Tryz.func191,Tryz.ntmps191
 go_wp2_with fail
 refine k.out.mono ?_
 rintro e s b
 have n:=b.1
 subst n
 have l:=zh b
 clear b
 go_wp2_with fail
 exact bodyPost_end (results_none rfl _ _ _) rfl l.out
theorem expr5_item {w:World}{j ob:Nat}{D:Nat->Prop}{q:Oq}{c:Cn}{v:Value}{a:List In}(h:CS w j ob D q c v a)(A:CnS c){x:Nat}(g:D x){i nm:Bs}{y:X}{k:Nat}(O:w.cell? ⟨x,0,none⟩=some (.int .i64 3))(u:w.cell? ⟨x,3,none⟩=some (.string (bs i)))(l:w.cell? ⟨x,4,none⟩=some (.string (bs nm)))(P:w.cell? ⟨x,6,none⟩=some (.pointer (some ⟨k,0,none⟩)))(r:AskC j ob D q c y k)(z:RepL w D [y] [.pointer (some ⟨k,0,none⟩)])(t:a.length+(cX c a.length [y]).length+1<=4000):EC j ob D q c v x w (a++(cX c a.length [y]++[Tp.reachI c 7 i nm])):=by
 unfold EC
 have F:=zh (r w v a h z (by omega))
 have N:=(h.ok x g).2.2
 have m:=zh h
 have d:=zh g
 have G:=zh t
 have L:=zh A
 have H:=zh u
 have J:=zh l
 clear h t g u l r z A
 generalize cX c a.length [y]=R at *
 obtain⟨I,s⟩:∃I:In,I=Tp.reachI c 7 i nm:=⟨_,rfl⟩
 rw[<-s]
 go_enter Tryz.func191,Tryz.ntmps191
 go_wp2_with fail
 refine F.out.mono ?_
 rintro e Q⟨rfl,v1,o,b⟩
 have f:=kY o (by have:=G.out;simp;omega) L.out d.out ((m.out.cell b d.out 3).trans H.out) ((m.out.cell b d.out 4).trans J.out) 7
 rw[<-s]at f
 have K:=zh f
 have B:=zh b
 clear o b f
 go_wp2_with fail
 refine K.out.mono ?_
 rintro e M⟨rfl,v2,p,n⟩
 have C:Hid (Cg ob v w v2 M):=B.out.trans n
 have E:=zh p
 clear p n
 go_wp2_with fail
 refine bodyPost_end (results_none rfl _ _ _) rfl ⟨rfl,v2,?_,C.out⟩
 rw[<-List.append_assoc]
 exact E.out
theorem expr5_un {w:World}{b ob:Nat}{D:Nat->Prop}{q:Oq}{c:Cn}{v:Value}{x:Nat}{cs':List In}(_hx:x<w.heap.size)(i:w.cell? ⟨x,0,none⟩=some (.int .i64 4))(d:Calls Tryz.prog 207 #[.pointer (some ⟨b,0,none⟩),.pointer (some ⟨x,0,none⟩)] w (Laid5 w b ob D q c v cs')):EC b ob D q c v x w cs':=by
 unfold EC
 have f:=zh d
 clear d
 go_enter Tryz.func191,Tryz.ntmps191
 go_wp2_with fail
 refine f.out.mono ?_
 rintro e j a
 have h:=a.1
 subst h
 have g:=zh a
 clear a
 go_wp2_with fail
 exact bodyPost_end (results_none rfl _ _ _) rfl g.out
theorem expr5_bin {w:World}{b ob:Nat}{D:Nat->Prop}{q:Oq}{c:Cn}{v:Value}{x:Nat}{cs':List In}(_hx:x<w.heap.size)(i:w.cell? ⟨x,0,none⟩=some (.int .i64 5))(d:Calls Tryz.prog 208 #[.pointer (some ⟨b,0,none⟩),.pointer (some ⟨x,0,none⟩)] w (Laid5 w b ob D q c v cs')):EC b ob D q c v x w cs':=by
 unfold EC
 have f:=zh d
 clear d
 go_enter Tryz.func191,Tryz.ntmps191
 go_wp2_with fail
 refine f.out.mono ?_
 rintro e j a
 have h:=a.1
 subst h
 have g:=zh a
 clear a
 go_wp2_with fail
 exact bodyPost_end (results_none rfl _ _ _) rfl g.out
theorem cX_take {c:Cn}{k:Nat}{a:List X}{i:Nat}(b:i<a.length):cX c k (a.take (i+1))=cX c k (a.take i)++cX c (k+(cX c k (a.take i)).length) [a[i]]:=by
 rw[<-cX_app,List.take_add_one,List.getElem?_eq_getElem b]
 rfl
theorem cX_take_le (c:Cn)(k:Nat)(a:List X)(i:Nat):(cX c k (a.take i)).length<=(cX c k a).length:=by
 have:=cX_app c (a.take i) (a.drop i) k
 rw[List.take_append_drop]at this
 rw[this,List.length_append]
 omega
theorem expr5_app {w:World}{o ob:Nat}{D:Nat->Prop}{q:Oq}{c:Cn}{v:Value}{b:List In}(h:CS w o ob D q c v b)(S:CnS c){x:Nat}(E:D x){F nm:Bs}{M:Option Addr}{ac:Nat}{a:List X}(h0:w.cell? ⟨x,0,none⟩=some (.int .i64 6))(R:w.cell? ⟨x,3,none⟩=some (.string (bs F)))(K:w.cell? ⟨x,4,none⟩=some (.string (bs nm)))(h8:w.cell? ⟨x,8,none⟩=some (.slice M a.length ac))(a1:a.length<=9223372036854775807)
  (H:∀i (hi:i<a.length),∃g y,M=some ⟨g,0,none⟩/\D g/\w.cell? ⟨g,i,none⟩=some (.pointer (some ⟨y,0,none⟩))/\RepL w D [a[i]] [.pointer (some ⟨y,0,none⟩)]/\AskC o ob D q c a[i] y)(Q:b.length+(cX c b.length a).length+1<=4000):EC o ob D q c v x w (b++(cX c b.length a++[Tp.reachI c 14 F nm])):=by
 unfold EC
 have a6:=(h.ok x E).2.2
 have l:=zh h
 have u:=zh E
 have L:=zh Q
 have HS:=zh S
 have HM:=zh R
 have HN:=zh K
 have HC:=zh H
 clear h Q E R K S H
 obtain⟨d,r⟩:∃d,d=a.length:=⟨_,rfl⟩
 rw[<-r]at h8 a1
 have I:=zh r
 have a2:(d:Int)<=9223372036854775807:=by omega
 obtain⟨T,B⟩:∃T,T=b++(cX c b.length a++[Tp.reachI c 14 F nm]):=⟨_,rfl⟩
 rw[<-B]
 have HT:=zh B
 clear r B
 go_enter Tryz.func191,Tryz.ntmps191
 go_wp2_with fail
 go_loopg [51] d (fun k G wr=>∃i:Nat,i<=d/\k=d-i/\G=.int .i64 (i:Int)/\Hid (∃v',CS wr o ob D q c v' (b++cX c b.length (a.take i))/\Cg ob v w v' wr))
 case atStart=>exact⟨0,by omega,by omega,rfl,v,by rw[List.take_zero,Tp.cX_nil,List.append_nil];exact l.out,Cg.refl _ _ _⟩
 case round =>
  obtain⟨i,a4,hk,rfl,t⟩:=hrel
  obtain⟨G,j,f⟩:=t.out
  by_cases a5:i<d
  ·have V:(i:Int)<(d:Int):=by omega
   have J:i<a.length:=by have:=I.out;omega
   obtain⟨g,y,rfl,dg,O,U,N⟩:=HC.out i J
   have a0:wr.cell? ⟨g,i,none⟩=some (.pointer (some ⟨y,0,none⟩)):=(l.out.cell f dg i).trans O
   have a3:=zc a0
   have z:(b++cX c b.length (a.take i)).length=b.length+(cX c b.length (a.take i)).length:=List.length_append
   have A:=cX_take (c:=c) (k:=b.length) J
   have C:=N wr G _ j (l.out.rep f U) (by
    rw[z]
    have:=cX_take_le c b.length a (i+1)
    rw[A,List.length_append]at this
    have:=L.out
    omega)
   rw[z,List.append_assoc,<-A]at C
   have W:=zh C
   have s:=zh f
   clear C j f O U N z A t
   go_wp2_with fail
   refine W.out.mono ?_
   rintro e p⟨rfl,v2,n,m⟩
   have Z:Hid (∃v',CS p o ob D q c v' (b++cX c b.length (a.take (i+1)))/\Cg ob v w v' p):=⟨v2,n,s.out.trans m⟩
   clear n m
   go_wp2_with fail
   go_roundg (d-(i+1))
   case measure=>omega
   case rel=>exact⟨i+1,by omega,rfl,by go_num,Z⟩
  ·have V:¬(i:Int)<(d:Int):=by omega
   have P:a.take i=a:=List.take_of_length_le (by have:=I.out;omega)
   rw[P]at j
   have HP:=zh (kY j (by have:=L.out;simp;omega) HS.out u.out ((l.out.cell f u.out 3).trans HM.out) ((l.out.cell f u.out 4).trans HN.out) 14)
   have s:=zh f
   clear j f P t
   go_wp2_with fail
   refine HP.out.mono ?_
   rintro e p⟨rfl,v2,n,m⟩
   have Y:Hid (Cg ob v w v2 p):=s.out.trans m
   have H2:=zh n
   clear n m
   go_wp2_with fail
   refine bodyPost_end (results_none rfl _ _ _) rfl ⟨rfl,v2,?_,Y.out⟩
   rw[HT.out,<-List.append_assoc]
   exact H2.out
theorem WX_mem:∀{l:List X}{x:X},Tp.WX l->x∈l->Tp.WX [x]:=by
 intro l
 induction l with
 |nil=>intro x _ h;cases h
 |cons y l ih =>
  intro x h a
  obtain⟨code,pos,f,d,nm,op,c,g,b⟩:=y
  rw[Tp.WX]at h
  rcases List.mem_cons.1 a with e|a
  ·subst e
   rw[Tp.WX]
   exact⟨h.1,by rw[Tp.WX];trivial⟩
  ·exact ih h.2 a
theorem uJ {wb ob:Nat}{D:Nat->Prop}{q:Oq}{c:Cn}(F:CnS c):∀(n:Nat) (x:X),SizeOf.sizeOf x<=n->Tp.WX [x]->∀f,AskC wb ob D q c x f:=by
 intro n
 induction n with
 |zero=>intro x p;cases x;simp at p
 |succ n ih =>
  intro x p R f W V d h L a
  obtain⟨code,pos,l,j,nm,op,J,w,b⟩:=x
  simp at p
  rw[Tp.WX]at R
  rw[Tp.cX_cons,Tp.cX_nil,List.append_nil]at a ⊢
  rw[RepL]at L
  obtain⟨b',P,ls,rs,gs,a4,h1,o,k,E,h5,h6,h7,Q,h9,_⟩:=L
  injection h1 with h1a _
  injection h1a with h1b
  injection h1b with h1c
  injection h1c with h1d
  subst h1d
  have s:W.cell? ⟨f,0,none⟩=some (.int .i64 (code:Int)):=za k
  have k2:W.cell? ⟨f,2,none⟩=some (.int .i64 (l:Int)):=za k
  have G:W.cell? ⟨f,3,none⟩=some (.string (bs j)):=za k
  have H:W.cell? ⟨f,4,none⟩=some (.string (bs nm)):=za k
  have S:W.cell? ⟨f,5,none⟩=some (.string (bs op)):=za k
  have I:W.cell? ⟨f,6,none⟩=some (ls.headD (.pointer none)):=za k
  have k7:W.cell? ⟨f,7,none⟩=some (rs.headD (.pointer none)):=za k
  have k8:W.cell? ⟨f,8,none⟩=some P:=za k
  have N:=(h.ok f o).2.2
  rcases R.1 with⟨rfl,_⟩|⟨rfl,_⟩|⟨rfl,_,_,_,w1,w2,_⟩|⟨rfl,_,_,_,_,w1,w2,_⟩|⟨rfl,_,_,_,_,w1,w2,w3,w4,_⟩|⟨rfl,_,_,_,_,_,w1⟩
  ·have e:Tp.oneX c d.length 1 l j nm op J w b=[⟨1,(l:Int),0⟩]:=by simp[Tp.oneX]
   rw[e]at a ⊢
   exact expr5_num h o s k2 (by simp at a;omega)
  ·have e:Tp.oneX c d.length 2 l j nm op J w b=[Tp.valueI c j nm]:=by simp[Tp.oneX]
   rw[e]at a ⊢
   exact expr5_var h F o s G H (by simp at a;omega)
  ·obtain⟨y,m,rfl,rfl,t⟩:=xD E w2
   have e:Tp.oneX c d.length 3 l j nm op [y] w b=cX c d.length [y]++[Tp.reachI c 7 j nm]:=by simp[Tp.oneX]
   rw[e]at a ⊢
   exact expr5_item h F o s G H I (ih y (by simp at p;omega) w1 m) t (by simp at a;omega)
  ·obtain⟨y,m,rfl,rfl,t⟩:=xD E w2
   have e:Tp.oneX c d.length 4 l j nm op [y] w b=cX c d.length [y]++[if op=Tp.wNot then ⟨11,0,0⟩ else ⟨10,0,0⟩]:=by simp[Tp.oneX]
   rw[e]at a ⊢
   exact expr5_un N s (vV h o S I (ih y (by simp at p;omega) w1 m) t (by simp at a;omega))
  ·obtain⟨y,m,rfl,rfl,t⟩:=xD E w2
   obtain⟨z,zb,rfl,rfl,a3⟩:=xD h6 w4
   have e:Tp.oneX c d.length 5 l j nm op [y] [z] b=cX c d.length [y]++pairT c (d.length+(cX c d.length [y]).length) op z:=by
    unfold Tp.oneX pairT
    rw[if_neg (by decide),if_neg (by decide),if_neg (by decide),if_neg (by decide),if_pos rfl]
    by_cases A:op=Tp.wAnd
    ·rw[if_pos A,if_pos A,andI_eq]
    ·rw[if_neg A,if_neg A]
     by_cases B:op=Tp.wOr
     ·rw[if_pos B,if_pos B,orI_eq]
     ·rw[if_neg B,if_neg B,List.append_assoc]
   rw[e]at a ⊢
   exact expr5_bin N s (pair5_post h o S I k7 (ih y (by simp at p;omega) w1 m) t (ih z (by simp at p;omega) w3 zb) a3 (by rw[List.length_append]at a;omega))
  ·have e:Tp.oneX c d.length 6 l j nm op J w b=cX c d.length b++[Tp.reachI c 14 j nm]:=by simp[Tp.oneX]
   rw[e]at a ⊢
   have M:=RepL.len _ _ Q
   have a0:∃C O,P=.slice C b.length O/\b.length<=9223372036854775807/\∀i,i<b.length->∃g,C=some ⟨g,0,none⟩/\D g/\W.cell? ⟨g,i,none⟩=gs[i]?:=by
    rcases h9 with⟨u,v⟩|⟨g,cap,cur,u,v,K,T,U,q6,q7⟩
    ·have:b.length=0:=by rw[<-M,u];rfl
     exact⟨none,0,by rw[this];exact v,by omega,fun i r=>by omega⟩
    ·refine⟨_,cap,by rw[<-M];exact u,?_,fun i r=>⟨g,rfl,v,?_⟩⟩
     ·have:maxLen=9223372036854775807:=rfl
      omega
     ·rw[za K,<-Array.getElem?_toList,<-q7,List.getElem?_take_of_lt (by omega)]
   obtain⟨C,O,rfl,Z,Y⟩:=a0
   refine expr5_app h F o s G H k8 Z (fun i r=>?_) (by rw[List.length_append]at a;simp at a;omega)
   obtain⟨g,u,v,K⟩:=Y i r
   obtain⟨m,T,U⟩:=RepL.get _ _ Q i r
   refine⟨g,m,u,v,K.trans T,U,ih b[i] ?_ (WX_mem w1 (List.getElem_mem r)) m⟩
   have:=List.sizeOf_lt_of_mem (List.getElem_mem r)
   omega
end Go.Proofs.YtmocelfkmdpogaaGreatDoor
