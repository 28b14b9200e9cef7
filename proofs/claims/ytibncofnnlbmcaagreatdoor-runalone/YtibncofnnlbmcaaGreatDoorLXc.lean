import Derived.Test.YtibncofnnlbmcaaGreatDoorLXb
set_option maxRecDepth 100000
set_option maxHeartbeats 4000000
namespace Go.Proofs.YtibncofnnlbmcaaGreatDoor
open Go.RowKit Go.Maps
open Tp (Bs X S G Pr Pt Rs Rr Own)
theorem alone_cf (args:Array Value)(w:World):(callFunc 15 args).run Tryz.prog w=.ok (.enter 15 args) w:=by kernel_rfl
theorem alone1_post {w:World}{j:Nat}{a:Bs}(J:Mk w)(I:Lv w)(N:w.cell? ⟨j,0,none⟩=some (.string (bs a)))(x:Ac)(L:Option Addr)(ac:Nat)(hx:x.text.length<=1000):Calls Tryz.prog 15 #[.agg (acells x L ac),.pointer (some ⟨j,0,none⟩)] w fun e w'=>e=.returned (.bool (usesB a x))/\Below w.heap.size w w':=by
 obtain⟨w2,C⟩:∃w2,w2=w.alloc (.cells (acells x L ac) 31):=⟨_,rfl⟩
 have r:Below w.heap.size w w2:=by rw[C];exact zb _ _
 have G:w2.heap[w.heap.size]?=some (.cells (acells x L ac) 31 (0,0)):=by rw[C];exact zo _ _
 have S:=zg N
 unfold acells at *
 have Y:w2.cell? ⟨w.heap.size,1,none⟩=some (.string (bs x.text)):=(za G).trans rfl
 have K:w2.cell? ⟨w.heap.size,2,none⟩=some (.string (bs x.name)):=(za G).trans rfl
 have hl:=zf G
 have X:Hid (w2.cell? ⟨j,0,none⟩=some (.string (bs a))):=(r.cell (p:=⟨j,0,none⟩) S).trans N
 have a3:=zh (yP w2 x.text (by omega) (J.below r J.1) (I.below r I.1))
 have O:=zh r
 have a0:=zh K
 have HL:=zh hl
 obtain⟨l,f⟩:∃l,l=usesB a x:=⟨_,rfl⟩
 rw[<-f]
 unfold usesB at f
 have d:=zh f
 clear r G N J I hx S f
 go_enter Tryz.func15,Tryz.ntmps15
 go_upto_region 1 with fail
 rw[<-C]
 clear C
 go_wp2_with fail
 refine a3.out.mono ?_
 rintro e g⟨s,u⟩
 unfold ParseP at u
 have f:=d.out
 clear d
 have c2:g.cell? ⟨w.heap.size,2,none⟩=some (.string (bs x.name)):=(s.cell (p:=⟨w.heap.size,2,none⟩) HL.out).trans a0.out
 have n:g.cell? ⟨j,0,none⟩=some (.string (bs a)):=(s.cell (p:=⟨j,0,none⟩) (zg X.out)).trans X.out
 have A:Hid (Below w.heap.size w g):=O.out.trans (s.mono O.out.size)
 cases o:Tp.parse x.text with
 |error er =>
  rw[o]at u f
  simp only[Bool.or_false]at f
  have d:=zh f
  clear f
  obtain⟨ab,rfl,_,_,_⟩:=u
  unfold m0
  obtain⟨b,c⟩:∃b,b=g.alloc (.cells #[.string ⟨#[]⟩,.slice none 0 0,.slice none 0 0,.slice none 0 0,.slice none 0 0] 36):=⟨_,rfl⟩
  have i:Below g.heap.size g b:=by rw[c];exact zb _ _
  have t:b.cell? ⟨w.heap.size,2,none⟩=some (.string (bs x.name)):=(i.cell (p:=⟨w.heap.size,2,none⟩) (zg c2)).trans c2
  have M:b.cell? ⟨j,0,none⟩=some (.string (bs a)):=(i.cell (p:=⟨j,0,none⟩) (zg n)).trans n
  have l2:=zg t
  have lm:=zg M
  have m:Hid (Below w.heap.size w b):=A.out.trans (i.mono A.out.size)
  clear s i o c2 n Y K
  by_cases h:x.name=a
  ·have k:Hid (l=true):=by show _=_;rw[d.out];exact decide_eq_true h
   rw[h]at t
   generalize bs a=mn' at *
   clear d
   go_upto_region 2 with fail
   rw[<-c]
   clear c
   go_wp2_with fail
   go_ret
   exact⟨by rw[k.out];rfl,m.out⟩
  ·have a5:¬(bs x.name).toList=(bs a).toList:=fun q=>h (by rw[zj,zj]at q;exact q)
   have k:Hid (l=false):=by show _=_;rw[d.out];exact decide_eq_false h
   clear d
   go_upto_region 2 with fail
   rw[<-c]
   clear c
   go_wp2_with fail
   go_ret
   exact⟨by show Ending.returned (Value.bool ((bs x.name).toList==(bs a).toList))=_;rw[beq_bs,k.out,decide_eq_false h],m.out⟩
 |ok y =>
  rw[o]at u
  have T:=o
  obtain⟨v,rfl,V⟩:=u
  have W:=(Tp.parse_wm o).1
  have a4:=W.ic
  obtain⟨E,ga,pa,Z,F,gc,pc,bc,rfl,R⟩:=V.mb
  obtain⟨b,c⟩:∃b,b=g.alloc (.cells (mcells (bs y.name) (.slice E y.imports.length F) (.slice ga y.vars.length gc) (.slice pa y.procs.length pc) (.slice Z y.body.length bc)) 36):=⟨_,rfl⟩
  have i:Below g.heap.size g b:=by rw[c];exact zb _ _
  have B:b.heap[g.heap.size]?=some (.cells (mcells (bs y.name) (.slice E y.imports.length F) (.slice ga y.vars.length gc) (.slice pa y.procs.length pc) (.slice Z y.body.length bc)) 36 (0,0)):=by rw[c];exact zo _ _
  have t:b.cell? ⟨w.heap.size,2,none⟩=some (.string (bs x.name)):=(i.cell (p:=⟨w.heap.size,2,none⟩) (zg c2)).trans c2
  have M:b.cell? ⟨j,0,none⟩=some (.string (bs a)):=(i.cell (p:=⟨j,0,none⟩) (zg n)).trans n
  have l2:=zg t
  have lm:=zg M
  have m:Hid (Below w.heap.size w b):=A.out.trans (i.mono A.out.size)
  have D:Hid (Calls Tryz.prog 16 #[.slice E y.imports.length F,.string (bs a)] b fun e w'=>(e=.returned (.bool (decide (a∈y.imports))))/\w'=b):=cont_post ((Row.strs R.im).on i) (by omega) a
  unfold mcells at *
  have a6:b.cell? ⟨g.heap.size,0,none⟩=some (.string (bs y.name)):=(za B).trans rfl
  have a7:b.cell? ⟨g.heap.size,1,none⟩=some (.slice E y.imports.length F):=(za B).trans rfl
  have a8:=zf B
  clear s i B o c2 n Y K V R W a4
  obtain⟨il,H⟩:∃il,il=y.imports.length:=⟨_,rfl⟩
  obtain⟨gl,Q⟩:∃gl,gl=y.vars.length:=⟨_,rfl⟩
  obtain⟨pl,U⟩:∃pl,pl=y.procs.length:=⟨_,rfl⟩
  obtain⟨bl,P⟩:∃bl,bl=y.body.length:=⟨_,rfl⟩
  rw[T]at f
  rw[<-H,<-Q,<-U,<-P]at c ⊢
  rw[<-H]at D a7
  have d:=zh f
  clear f H Q U P T
  by_cases h:x.name=a
  ·have k:Hid (l=true):=by show _=_;rw[d.out,decide_eq_true h];rfl
   rw[h]at t
   clear d D
   generalize bs a=mn' at *
   go_upto_region 2 with fail
   rw[<-c]
   clear c
   go_wp2_with fail
   go_ret
   exact⟨by rw[k.out];rfl,m.out⟩
  have a5:¬(bs x.name).toList=(bs a).toList:=fun q=>h (by rw[zj,zj]at q;exact q)
  by_cases z:y.name=a
  ·have k:Hid (l=true):=by show _=_;rw[d.out];simp[z]
   rw[z]at a6
   clear d D
   generalize bs y.name=yn at *
   go_upto_region 2 with fail
   rw[<-c]
   clear c
   go_wp2_with fail
   go_ret
   exact⟨by rw[k.out];rfl,m.out⟩
  have a9:¬(bs y.name).toList=(bs a).toList:=fun q=>z (by rw[zj,zj]at q;exact q)
  have k:Hid (decide (a∈y.imports)=l):=by show _=_;rw[d.out];simp[z,h]
  clear d
  go_upto_region 2 with fail
  rw[<-c]
  clear c
  go_wp2_with fail
  refine D.out.mono ?_
  rintro e w5⟨rfl,rfl⟩
  rw[k.out]
  go_wp2_with fail
  go_ret
  exact⟨by show Ending.returned (Value.bool ((bs x.name).toList==(bs a).toList || ((bs y.name).toList==(bs a).toList || l)))=_;rw[beq_bs,beq_bs,decide_eq_false h,decide_eq_false z];rfl,m.out⟩
end Go.Proofs.YtibncofnnlbmcaaGreatDoor
namespace Go.Proofs.YtibncofnnlbmcaaGreatDoor
open Go.RowKit Go.Maps
open Tp (Bs X S G Pr Pt Rs Rr Own)
theorem WZ.beside {U a V:Nat->Prop}{d:Nat}{w w':World}{c:Nat}{Q:List Pt}(h:WZ U V d w c Q)(t:Tr U a w w'):WZ a V d w' c Q:=h.other (fun b e f=>t.block b e f) t.size (fun b q=>t.more b q)
theorem IntsAt.tr {U f:Nat->Prop}{w w':World}{e:List Int}{a:Option Addr}(h:IntsAt w e a)(t:Tr U f w w')(g:∀x,a=some x->¬U x.block):IntsAt w' e a:=⟨fun i j=>by
 obtain⟨b,o,d,k,l⟩:=h.c i j
 have:=t.size
 exact⟨b,o,d,by omega,(World.cell?_of_block (t.block b k (g _ d))).trans l⟩⟩
theorem alone_post {w:World}(hv:VarsC w.heap.size w){l:List Ac}{a:Option Addr}{cap:Nat}(hS:ActAt w l a)(s:Bs) :
  Calls Tryz.prog 4 #[.slice a l.length cap,.string (bs s)] w fun e w'=>e=.returned (.bool true)/\Below w.heap.size w w':=by
 have HV:=zh hv
 have HS:=zh hS
 have HH:=zh (held_post (cap:=cap) hS)
 have bE:((bs s).size:Int)=(s.length:Int):=by rw[yz]
 clear hv hS
 obtain⟨H,i6⟩:∃H,H=l.length:=⟨_,rfl⟩
 rw[<-i6]at HH ⊢
 have i0:=zh i6
 clear i6
 obtain⟨sb,i8⟩:∃sb,sb=bs s:=⟨_,rfl⟩
 rw[<-i8]at bE ⊢
 have aR:=zh i8
 clear i8
 go_enter Tryz.func4,Tryz.ntmps4
 go_wp2_with fail
 refine HH.out.mono ?_
 rintro e w1⟨⟨bb,rfl,f5⟩,c8⟩
 have c5:=zh c8
 cases bb with
 |false =>
  clear f5 c8
  go_wp2_with fail
  go_ret
  exact⟨rfl,c5.out⟩
 |true =>
  by_cases h9:900<s.length
  ·have aW:(s.length:Int) > 900:=by omega
   clear f5 c8
   go_wp2_with fail
   go_ret
   exact⟨rfl,c5.out⟩
  have aW:¬(s.length:Int) > 900:=by omega
  have e9:=zh (f5 rfl)
  have m1:=HV.out.on c8
  have HR:=zh (ran_any m1.mks m1.lv)
  clear f5 c8 m1 HH
  go_wp2_with fail
  refine HR.out.mono ?_
  rintro e w2⟨rfl,r4⟩
  have e8:Hid (Below w.heap.size w w2):=c5.out.trans (r4.mono c5.out.size)
  have m2:=HV.out.on e8.out
  have i1:=zh (yP w2 s (by omega) m2.mks m2.lv)
  rw[<-aR.out]at i1
  clear r4 m2 HR c5
  go_wp2_with fail
  refine i1.out.mono ?_
  rintro e t⟨r5,hq⟩
  have c6:Hid (Below w.heap.size w t):=e8.out.trans (r5.mono e8.out.size)
  clear r5 e8 i1
  unfold ParseP at hq
  cases hp:Tp.parse s with
  |error er =>
   rw[hp]at hq
   obtain⟨ab,rfl,_,_,_⟩:=hq
   unfold m0
   obtain⟨o,a0⟩:∃o,o=t.alloc (.cells #[.string ⟨#[]⟩,.slice none 0 0,.slice none 0 0,.slice none 0 0,.slice none 0 0] 36):=⟨_,rfl⟩
   have L:Hid (Below w.heap.size w o):=c6.out.trans (by rw[a0];exact(Below.refl _ _).alloc (c6.out.size) _)
   go_upto_region 6 with fail
   rw[<-a0]
   clear a0
   go_wp2_with fail
   go_ret
   exact⟨rfl,L.out⟩
  |ok m =>
   rw[hp]at hq
   obtain⟨v,rfl,s8⟩:=hq
   obtain⟨m4,bC⟩:=Tp.parse_wm hp
   have o0:Tp.nM m<=1000:=by omega
   obtain⟨ia,ga,pa,ba,ic,gc,pc,bc,rfl,i7⟩:=s8.mb
   obtain⟨o,a0⟩:∃o,o=t.alloc (.cells (mcells (bs m.name) (.slice ia m.imports.length ic) (.slice ga m.vars.length gc) (.slice pa m.procs.length pc) (.slice ba m.body.length bc)) 36):=⟨_,rfl⟩
   have b3:Below t.heap.size t o:=by rw[a0];exact zb _ _
   have T:o.heap[t.heap.size]?=some (.cells (mcells (bs m.name) (.slice ia m.imports.length ic) (.slice ga m.vars.length gc) (.slice pa m.procs.length pc) (.slice ba m.body.length bc)) 36 (0,0)):=by rw[a0];exact zo _ _
   have L:Hid (Below w.heap.size w o):=c6.out.trans (b3.mono c6.out.size)
   have h7:Hid (Calls Tryz.prog 14 #[.slice a l.length cap,.func (.func 15) #[] #[.pointer (some ⟨t.heap.size,0,none⟩)]] o fun e w'=>e=.returned (.bool (l.any (usesB m.name)))/\Below o.heap.size o w'):=by
    refine containsA1 (HS.out.on L.out) (by have:=e9.out.n;omega) alone_cf (fun W x aa ac hx hW _=>?_)
    have s7:=HV.out.on (L.out.trans (hW.mono L.out.size))
    exact alone1_post s7.mks s7.lv ((hW.cell (p:=⟨t.heap.size,0,none⟩) (zf T)).trans ((za T).trans rfl)) x aa ac (e9.out.x x hx).1
   have o8:Hid (l.any (usesB m.name)=false->∀x∈l,usesB m.name x=false):=fun e x hx=>by simpa using List.any_eq_false.1 e x hx
   have p3:Hid (∀(C W6:World),Below o.heap.size o C->Below C.heap.size C W6->W6.heap.size=C.heap.size+2->WZ (fun b=>b=C.heap.size) (fun b=>b=C.heap.size+1) 0 W6 (C.heap.size+1) []->Calls Tryz.prog 17 #[.pointer (some ⟨C.heap.size+1,0,none⟩),.agg (mcells (bs m.name) (.slice ia m.imports.length ic) (.slice ga m.vars.length gc) (.slice pa m.procs.length pc) (.slice ba m.body.length bc)),.int .i64 ((300:Nat):Int)] W6 (LoadQ (fun b=>b=C.heap.size) (fun b=>b=C.heap.size+1) 0 W6 (C.heap.size+1) (Tp.loadW ofS [] m 300))):=fun C W6 k5 k6 k7 k8=>by
    have j6:=(b3.trans (k5.mono b3.size)).trans (k6.mono (by have:=b3.size;have:=k5.size;omega))
    have bB:MD W6 (fun b=>b<t.heap.size) m ia ga pa ba ic gc pc bc:=(i7.md).mono (fun b hb hl=>⟨j6.block b hl,hb⟩)
    have:=b3.size
    have:=k5.size
    exact vJ (fuel:=300) k8 (fun b q=>by omega) (by omega) (i7.up j6) bB (fun b hb _=>⟨by omega,by omega⟩) m4 o0 (by omega)
   have p4:Hid (m.name≠[]):=fun e=>by
    obtain⟨⟨_,_,q,_⟩,_⟩:=m4.n
    rw[e]at q
    cases q
   have h8:Hid ((Tp.loadW ofS [] m 300).err=none->∃q,(Tp.loadW ofS [] m 300).w=[q]/\q.m=m/\∀n,Tp.usedR m n=[]):=load_first1
   unfold mcells at *
   have t3:o.cell? ⟨t.heap.size,0,none⟩=some (.string (bs m.name)):=(za T).trans rfl
   have t4:o.cell? ⟨t.heap.size,1,none⟩=some (.slice ia m.imports.length ic):=(za T).trans rfl
   have t5:o.cell? ⟨t.heap.size,2,none⟩=some (.slice ga m.vars.length gc):=(za T).trans rfl
   have t6:o.cell? ⟨t.heap.size,3,none⟩=some (.slice pa m.procs.length pc):=(za T).trans rfl
   have t7:o.cell? ⟨t.heap.size,4,none⟩=some (.slice ba m.body.length bc):=(za T).trans rfl
   have b4:=zf T
   have b1:=zh (And.intro t3 (And.intro t4 (And.intro t5 (And.intro t6 t7))))
   clear t3 t4 t5 t6 t7 b3 T s8 i7 m4 bC o0 hp c6
   generalize bs m.name=mn at *
   generalize m.imports.length=il at *
   generalize m.vars.length=gl at *
   generalize m.procs.length=pl at *
   generalize m.body.length=bl at *
   rw[<-i0.out]at h7
   generalize l.any (usesB m.name)=ub at *
   go_upto_region 8 with fail
   rw[<-a0]
   clear a0
   go_wp2_with fail
   refine h7.out.mono ?_
   rintro e u⟨rfl,Z⟩
   have aM:=zh Z
   obtain⟨I,G⟩:∃I,I=(u.alloc (.cells #[.slice none 0 0,.map none] 28)).alloc (.cells #[.slice none 0 0,.map none] 28):=⟨_,rfl⟩
   have O:Below u.heap.size u I:=by rw[G];exact(zb _ _).alloc (by simp) _
   have s6:I.heap.size=u.heap.size+2:=by rw[G];simp
   have m3:I.heap[u.heap.size]?=some (.cells #[.slice none 0 0,.map none] 28 (0,0)):=by rw[G];exact(Below.heap_alloc _ _ _ (by simp)).trans (zo _ _)
   have a6:I.heap[u.heap.size+1]?=some (.cells #[.slice none 0 0,.map none] 28 (0,0)):=by rw[G];exact yj _ _ _
   have t0:WZ (fun b=>b=u.heap.size) (fun b=>b=u.heap.size+1) 0 I (u.heap.size+1) []:=WZ.zero a6 (by omega)
   have N:Hid (WZ (fun b=>b=u.heap.size+1) (fun b=>b=u.heap.size) 0 I u.heap.size []):=WZ.zero m3 (by omega)
   have HL:=zh (p3.out u I Z O s6 t0)
   have F:Hid (Below w.heap.size w I):=(L.out.trans (Z.mono L.out.size)).trans (O.mono (by have:=L.out.size;have:=Z.size;omega))
   have b2:Below o.heap.size o I:=Z.trans (O.mono Z.size)
   have n0:=(b2.cell (p:=⟨t.heap.size,0,none⟩) b4).trans b1.out.1
   have n1:=(b2.cell (p:=⟨t.heap.size,1,none⟩) b4).trans b1.out.2.1
   have n2:=(b2.cell (p:=⟨t.heap.size,2,none⟩) b4).trans b1.out.2.2.1
   have n3:=(b2.cell (p:=⟨t.heap.size,3,none⟩) b4).trans b1.out.2.2.2.1
   have n4:=(b2.cell (p:=⟨t.heap.size,4,none⟩) b4).trans b1.out.2.2.2.2
   have bA:=zg n0
   have e6:=zf m3
   have e7:=zf a6
   have f4:Hid (w.heap.size<=u.heap.size):=by have:=L.out.size;have:=Z.size;show _<=_;omega
   obtain⟨D,f9⟩:∃D,D=u.heap.size:=⟨_,rfl⟩
   obtain⟨J,g4⟩:∃J,J=u.heap.size+1:=⟨_,rfl⟩
   rw[<-g4]at N HL e7
   rw[<-f9]at N HL e6 f4
   have r0:Hid (J=D+1):=by show _=_;rw[g4,f9]
   clear Z O m3 a6 t0 b2 p3 b1 aM h7 s6
   go_upto_region 10 with fail
   rw[<-G,<-g4,<-f9]
   clear G g4 f9
   obtain⟨r,hr⟩:∃r,r=Tp.loadW ofS [] m 300:=⟨_,rfl⟩
   rw[<-hr]at HL h8
   have c3:((300:Nat):Int)=300:=rfl
   rw[c3]at HL
   clear hr c3
   go_wp2_with fail
   refine HL.out.mono ?_
   rintro e w7⟨oa,oc,ev,rfl,_,n8,a5⟩
   obtain⟨i2,d6,A⟩:=n8.wz
   obtain⟨on,r9⟩:∃on,on=r.e.out.length:=⟨_,rfl⟩
   rw[<-r9]
   obtain⟨w8,a1⟩:∃w8,w8=w7.alloc (.cells #[.int .i64 (r.e.way:Int),.slice oa on oc] 43):=⟨_,rfl⟩
   have B:Below w7.heap.size w7 w8:=by rw[a1];exact zb _ _
   have E:Hid (WZ i2 (fun b=>b=D) 0 w8 D []):=(N.out.beside A).on B
   have K:Hid (WZ (fun b=>b=D) i2 1 w8 J r.w):=d6.on B
   have n5:Hid (∀b,i2 b->w.heap.size<=b):=fun b q=>by
    have:=f4.out
    have:=r0.out
    have:=F.out.size
    rcases A.more b q with z|z
    ·rw[z];omega
    ·omega
   have M:Hid (Below w.heap.size w w8):=(F.out.trans (A.toBelow F.out.size (fun b e=>by have:=f4.out;have:=r0.out;rw[e];omega))).trans (B.mono (by have:=F.out.size;have:=A.size;omega))
   have o1:=(E.out.lt E.out.wb).1
   have o2:=(K.out.lt K.out.wb).1
   clear r9 d6 A B n8 HL N n0 n1 n2 n3 n4 bA e6 e7 b4 L
   go_upto_region 11 with fail
   rw[<-a1]
   clear a1
   cases ub with
   |true =>
    clear a5
    go_wp2_with fail
    go_ret
    exact⟨rfl,M.out⟩
   |false =>
    have p9:=zh (o8.out rfl)
    cases c9:r.err with
    |some er =>
     rw[c9]at a5
     have bO:=a5.gd
     have bS:=a5.ne
     clear a5 c9
     go_wp2_with fail
     go_ret
     exact⟨rfl,M.out⟩
    |none =>
     rw[c9]at a5
     obtain rfl:ev=.nilIface:=a5
     obtain⟨q,s2,f6,s3⟩:=h8.out c9
     rw[s2]at K
     have g6:=zh K.out.all
     obtain⟨s0,f7⟩:∃s0,s0=allB [q]:=⟨_,rfl⟩
     rw[<-f7]at g6
     have aQ:=zh f7
     have aS:Hid (s0.size<=20000000):=by show s0.size<=_;rw[f7];exact K.out.small
     have aB:Hid (∀x∈l,usesB q.m.name x=false):=by rw[f6];exact p9.out
     have aA:Hid (q.m.name≠[]):=by rw[f6];exact p4.out
     have aP:Hid (∀n,Tp.usedR q.m n=[]):=by rw[f6];exact s3
     clear f7 c9 s2 f6 s3 p9 p4 h8 o8
     go_wp2_with fail
     refine g6.out.mono ?_
     rintro e w9⟨rfl,S⟩
     have n6:=zh (E.out.on S)
     have n7:=zh (K.out.on S)
     have a9:Hid (Below w.heap.size w w9):=M.out.trans (S.mono M.out.size)
     have m9:Hid (∀b,b=D->w.heap.size<=b):=fun b e=>by rw[e];exact f4.out
     have bI:H<=12:=by have:=e9.out.n;have:=i0.out;omega
     have bH:(H:Int)<=12:=by omega
     clear S g6 E K M o1 o2 F
     go_wp2_with fail
     go_loopg [13] H (fun k vi wr=>∃(i:Nat) (Uv Uw:Nat->Prop) (P:List Pt),i<=H/\k=H-i/\vi=.int .i64 (i:Int)/\Hid (WZ Uw Uv i wr D P)/\Hid (WZ Uv Uw (i+1) wr J (q :: P))/\Hid (Below w.heap.size w wr)/\Hid (∀b,Uv b->w.heap.size<=b)/\Hid (∀b,Uw b->w.heap.size<=b)/\Hid (Tp.Inv q.m.name P))
     case atStart=>exact⟨0,_,_,[],by omega,by omega,rfl,n6,n7,a9,m9,n5,fun p hp=>by cases hp⟩
     case round =>
      obtain⟨i,Uv,Uw,P,bQ,hk,rfl,N,Y,b0,f0,f3,HI⟩:=hrel
      clear n6 n7 a9 m9 n5
      by_cases bR:i<H
      ·have aI:(i:Int)<(H:Int):=by omega
       have bP:¬(i:Int)<0:=by omega
       have i5:i<l.length:=by have:=i0.out;omega
       obtain⟨g,go,aa,ac,aX,i4,r8,r3⟩:=HS.out.c i i5
       have aZ:g<w.heap.size:=zg (i4 0 (by omega))
       subst aX
       obtain⟨x1,x2,x3,x4⟩:=e9.out.x _ (List.getElem_mem i5)
       have aT:=zh (aB.out _ (List.getElem_mem i5))
       have h6:Hid (∀W,Below w.heap.size w W->W.cell? ⟨g,go+i*5,none⟩=some (.int .i64 l[i].what)/\W.cell? ⟨g,go+i*5+1,none⟩=some (.string (bs l[i].text))/\W.cell? ⟨g,go+i*5+2,none⟩=some (.string (bs l[i].name))/\W.cell? ⟨g,go+i*5+3,none⟩=some (.string (bs l[i].proc))/\W.cell? ⟨g,go+i*5+4,none⟩=some (.slice aa l[i].args.length ac)):=fun W hW=>by
        have hc:=fun j (hj:j<5)=>(hW.cell (p:=⟨g,go+(i*5+j),none⟩) aZ).trans (i4 j hj)
        exact⟨hc 0 (by omega),by rw[Nat.add_assoc];exact hc 1 (by omega),by rw[Nat.add_assoc];exact hc 2 (by omega),by rw[Nat.add_assoc];exact hc 3 (by omega),by rw[Nat.add_assoc];exact hc 4 (by omega)⟩
       have c4:Hid (∀{X U:Nat->Prop} {c:Nat} {W:World} {ob:Nat} {Q:List Pt},Below w.heap.size w W->(∀b,U b->w.heap.size<=b)->(∀b,X b->b<W.heap.size)->WZ X U c W ob Q->c<=80->Calls Tryz.prog 11 #[.pointer (some ⟨ob,0,none⟩),.agg (acells l[i] aa ac),.int .i64 ((300:Nat):Int)] W fun e w'=>∃r,ActIs Q l[i] 300 r/\ActQ X U c W ob r e w'):=fun k1 k2 k3 k4 k5=>act_post (fuel:=300) (ac:=ac) (HV.out.on k1) k1.size k2 k3 k4 k5 (by omega) x1 (by omega) r3 (r8.on k1) (by omega)
       have c3:((300:Nat):Int)=300:=rfl
       rw[c3]at c4
       unfold acells at c4
       generalize l[i]=x at *
       clear i4 r8 r3 x1 x2 x3 x4 c3
       obtain⟨e0,e1,e2,e3,e4⟩:=h6.out wr b0.out
       have aY:g<wr.heap.size:=zg e0
       have aK:=(N.out.lt N.out.wb).1
       have aL:=(Y.out.lt Y.out.wb).1
       have HA:=zh (c4.out b0.out f0.out (fun b q=>(Y.out.lt q).1) N.out (by omega))
       go_wp2_with fail
       refine HA.out.mono ?_
       rintro e a3⟨f,s4,a2,b5,rfl,b9⟩
       obtain⟨a4,s9,d5⟩:=b9.wz
       obtain⟨b6,g9⟩:∃b6,b6=f.e.out.length:=⟨_,rfl⟩
       rw[<-g9]
       obtain⟨R,G⟩:∃R,R=a3.alloc (.cells #[.int .i64 (f.e.way:Int),.slice a2 b6 b5] 43):=⟨_,rfl⟩
       have O:Below a3.heap.size a3 R:=by rw[G];exact zb _ _
       have a6:R.heap[a3.heap.size]?=some (.cells #[.int .i64 (f.e.way:Int),.slice a2 b6 b5] 43 (0,0)):=by rw[G];exact zo _ _
       have r7:=b0.out.size
       have bF:=d5.size
       have F:Hid (Below w.heap.size w R):=(b0.out.trans (d5.toBelow r7 f0.out)).trans (O.mono (by omega))
       have c0:Hid (WZ Uw a4 (i+1) R D f.w):=s9.on O
       have d9:Hid (WZ a4 Uw (i+1) R J (q :: P)):=(Y.out.beside d5).on O
       have aC:Hid (∀b,a4 b->w.heap.size<=b):=fun b q=>by
        rcases d5.more b q with z|z
        ·exact f0.out b z
        ·omega
       have m6:Hid (IntsAt R f.e.out a2):=b9.it.on O
       have o9:Hid (∀x,a2=some x->¬Uw x.block):=fun x hx q=>by
        have:=b9.far x hx
        have:=(Y.out.lt q).1
        omega
       have o6:Hid (¬Uw a3.heap.size):=fun q=>by
        have:=(Y.out.lt q).1
        omega
       have p5:Hid (f.e.out.length<=200):=b9.ol
       have p0:=zh a6
       have aG:=zf a6
       have p6:=zh s4
       have g7:=zh g9
       obtain⟨d0,d1,d2,d3,d4⟩:=h6.out R F.out
       have aH:g<R.heap.size:=zg d0
       have e6:=(c0.out.lt c0.out.wb).1
       have e7:=(d9.out.lt d9.out.wb).1
       have o3:=zh (c4.out F.out f3.out (fun b q=>(c0.out.lt q).1) d9.out (by omega))
       clear s9 d5 O a6 b9 s4 g9 HA N Y b0 f0 e0 e1 e2 e3 e4 aY aK aL r7 bF
       go_upto_region 18 with fail
       rw[<-G]
       clear G
       go_wp2_with fail
       refine o3.out.mono ?_
       rintro e b7⟨r2,s5,d7,d8,rfl,g5⟩
       obtain⟨c7,d6,A⟩:=g5.wz
       obtain⟨V,h0⟩:∃V,V=r2.e.out.length:=⟨_,rfl⟩
       rw[<-h0]
       obtain⟨d,a1⟩:∃d,d=b7.alloc (.cells #[.int .i64 (r2.e.way:Int),.slice d7 V d8] 43):=⟨_,rfl⟩
       have B:Below b7.heap.size b7 d:=by rw[a1];exact zb _ _
       have a8:d.heap[b7.heap.size]?=some (.cells #[.int .i64 (r2.e.way:Int),.slice d7 V d8] 43 (0,0)):=by rw[a1];exact zo _ _
       have n9:=F.out.size
       have bG:=A.size
       have M:Hid (Below w.heap.size w d):=(F.out.trans (A.toBelow n9 f3.out)).trans (B.mono (by omega))
       have E:Hid (WZ c7 a4 (i+1) d D f.w):=(c0.out.beside A).on B
       have K:Hid (WZ a4 c7 (i+1+1) d J r2.w):=d6.on B
       have aD:Hid (∀b,c7 b->w.heap.size<=b):=fun b q=>by
        rcases A.more b q with z|z
        ·exact f3.out b z
        ·omega
       have m5:Hid (IntsAt d f.e.out a2):=(m6.out.tr A o9.out).on B
       have m7:Hid (IntsAt d r2.e.out d7):=g5.it.on B
       have a7:d.heap[a3.heap.size]?=some (.cells #[.int .i64 (f.e.way:Int),.slice a2 b6 b5] 43 (0,0)):=((B.block _ (by omega)).trans (A.block _ aG o6.out)).trans p0.out
       have h3:Hid (tellN r2.err≠12->r2=⟨q :: f.w,f.e,f.n,f.err⟩/\Tp.Inv q.m.name f.w):=fun hf=>act_alone aA.out HI.out aP.out aT.out p6.out s5 hf
       have p1:=zh a7
       have p2:=zh a8
       have m8:=zh h0
       clear d6 A B a7 a8 g5 s5 h0 o3 c0 d9 F f3 m6 o9 o6 p0 d0 d1 d2 d3 d4 aH e6 e7 n9 bG c4 h6
       obtain⟨t1,i9⟩:∃t1,t1=tellN f.err:=⟨_,rfl⟩
       obtain⟨t2,f8⟩:∃t2,t2=tellN r2.err:=⟨_,rfl⟩
       rw[<-i9,<-f8]
       rw[<-f8]at h3
       have p7:=zh i9
       have p8:=zh f8
       clear i9 f8
       go_upto_region 19 with fail
       rw[<-a1]
       clear a1
       by_cases f1:t1=12
       ·subst f1
        have hz:((12:Nat):Int)=12:=rfl
        rw[hz]
        go_wp2_with fail
        go_ret
        exact⟨rfl,M.out⟩
       have bM:¬(t1:Int)=12:=by omega
       by_cases f2:t2=12
       ·subst f2
        have hz:((12:Nat):Int)=12:=rfl
        rw[hz]
        go_wp2_with fail
        go_ret
        exact⟨rfl,M.out⟩
       have bN:¬(t2:Int)=12:=by omega
       obtain⟨bD,g8⟩:=h3.out f2
       subst bD
       have aJ:t2=t1:=by rw[p8.out,p7.out]
       have t9:V=b6:=by rw[m8.out,g7.out]
       subst aJ t9
       have o7:Hid (Calls Tryz.prog 12 #[.agg #[.int .i64 (f.e.way:Int),.slice a2 V b5],.agg #[.int .i64 (f.e.way:Int),.slice d7 V d8]] d fun e w'=>e=.returned (.bool true)/\Below d.heap.size d w'):=by
        have:=ends_post (x:=f.e.way) (y:=f.e.way) (c1:=b5) (c2:=d8) m5.out m7.out (by have:=p5.out;omega)
        rw[<-g7.out]at this
        exact this.mono fun e w' h=>by simpa using h
       have b8:Hid (WZ a4 c7 (i+1+1) d J (q :: f.w)):=K
       have a7:=p1.out
       have a8:=p2.out
       have g0:d.cell? ⟨a3.heap.size,0,none⟩=some (.int .i64 (f.e.way:Int)):=(za a7).trans rfl
       have g1:d.cell? ⟨a3.heap.size,1,none⟩=some (.slice a2 V b5):=(za a7).trans rfl
       have g2:d.cell? ⟨b7.heap.size,0,none⟩=some (.int .i64 (f.e.way:Int)):=(za a8).trans rfl
       have g3:d.cell? ⟨b7.heap.size,1,none⟩=some (.slice d7 V d8):=(za a8).trans rfl
       have aU:=zf a7
       have aV:=zf a8
       obtain⟨s1,e5⟩:∃s1,s1=allB f.w:=⟨_,rfl⟩
       have o4:Hid (∀W,Below d.heap.size d W->Calls Tryz.prog 13 #[.pointer (some ⟨D,0,none⟩)] W fun e w'=>e=.returned (.string s1)/\Below W.heap.size W w'):=fun W hW=>by rw[e5];exact(E.out.on hW).all
       have o5:Hid (∀W,Below d.heap.size d W->Calls Tryz.prog 13 #[.pointer (some ⟨J,0,none⟩)] W fun e w'=>e=.returned (.string (s0++s1))/\Below W.heap.size W w'):=fun W hW=>by
        have:=(b8.out.on hW).all
        rw[allB_cons (fun p hp=>(g8 p hp).1),<-aQ.out,<-e5]at this
        exact this
       have bT:¬9223372036854775807<s0.size+s1.size:=by
        have h1:=aS.out
        have h2:=E.out.small
        rw[<-e5]at h2
        omega
       have aO:=zh g8
       clear a7 a8 p1 p2 e5 g8 m5 m7 p5 p7 p8 g7 m8 h3 K p6
       generalize f.e.way=wy at *
       generalize f.n=rn at *
       have o1:=(E.out.lt E.out.wb).1
       have o2:=(b8.out.lt b8.out.wb).1
       go_wp2_with fail
       refine o7.out.mono ?_
       rintro e t8⟨rfl,S⟩
       have a9:=zh S
       have bJ:D<t8.heap.size:=by have:=S.size;omega
       have bK:J<t8.heap.size:=by have:=S.size;omega
       clear S g0 g1 g2 g3 aU aV
       go_wp2_with fail
       refine(o4.out _ a9.out).mono ?_
       rintro e wa⟨rfl,i3⟩
       have h4:Hid (Below d.heap.size d wa):=a9.out.trans (i3.mono a9.out.size)
       have bL:J<wa.heap.size:=by have:=i3.size;omega
       clear i3
       go_wp2_with fail
       refine(o5.out _ h4.out).mono ?_
       rintro e wc⟨rfl,r6⟩
       have h5:Hid (Below d.heap.size d wc):=h4.out.trans (r6.mono h4.out.size)
       clear r6
       have aN:Hid (Below w.heap.size w wc):=M.out.trans (h5.out.mono M.out.size)
       have aE:=zh (E.out.on h5.out)
       have aF:=zh (b8.out.on h5.out)
       clear o4 o5 o7 E b8
       go_wp2_with fail
       go_roundg (H-(i+1))
       case measure=>omega
       case rel=>exact⟨i+1,a4,c7,_,by omega,rfl,by go_num,aE,aF,aN,aC,aD,aO⟩
      ·have aI:¬(i:Int)<(H:Int):=by omega
       clear N Y
       go_wp2_with fail
       go_ret
       exact⟨rfl,b0.out⟩
end Go.Proofs.YtibncofnnlbmcaaGreatDoor
