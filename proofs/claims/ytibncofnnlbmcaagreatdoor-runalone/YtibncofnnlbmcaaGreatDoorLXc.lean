import Derived.Test.YtibncofnnlbmcaaGreatDoorLXb
set_option maxRecDepth 100000
set_option maxHeartbeats 4000000
namespace Go.Proofs.YtibncofnnlbmcaaGreatDoor
open Go.RowKit Go.Maps
open Tp (Bs X S G Pr Pt Rs Rr Own)
theorem alone_cf (args:Array Value)(w:World):(callFunc 15 args).run Tryz.prog w=.ok (.enter 15 args) w:=by kernel_rfl
theorem alone1_post {w:World}{j:Nat}{a:Bs}(J:Mk w)(I:Lv w)(L:w.cell? ⟨j,0,none⟩=some (.string (bs a)))(x:Ac)(M:Option Addr)(ac:Nat)(hx:x.text.length<=1000):Calls Tryz.prog 15 #[.agg (acells x M ac),.pointer (some ⟨j,0,none⟩)] w fun e w'=>e=.returned (.bool (usesB a x))/\Below w.heap.size w w':=by
 obtain⟨w2,C⟩:∃w2,w2=w.alloc (.cells (acells x M ac) 31):=⟨_,rfl⟩
 have s:Below w.heap.size w w2:=by rw[C];exact zb _ _
 have D:w2.heap[w.heap.size]?=some (.cells (acells x M ac) 31 (0,0)):=by rw[C];exact zo _ _
 have O:=zg L
 unfold acells at *
 have a1:w2.cell? ⟨w.heap.size,1,none⟩=some (.string (bs x.text)):=(za D).trans rfl
 have N:w2.cell? ⟨w.heap.size,2,none⟩=some (.string (bs x.name)):=(za D).trans rfl
 have hl:=zf D
 have HM:Hid (w2.cell? ⟨j,0,none⟩=some (.string (bs a))):=(s.cell (p:=⟨j,0,none⟩) O).trans L
 have a7:=zh (yP w2 x.text (by omega) (J.below s J.1) (I.below s I.1))
 have T:=zh s
 have a4:=zh N
 have HL:=zh hl
 obtain⟨l,f⟩:∃l,l=usesB a x:=⟨_,rfl⟩
 rw[<-f]
 unfold usesB at f
 have d:=zh f
 clear s D L J I hx O f
 go_enter Tryz.func15,Tryz.ntmps15
 go_upto_region 1 with fail
 rw[<-C]
 clear C
 go_wp2_with fail
 refine a7.out.mono ?_
 rintro e g⟨r,z⟩
 unfold ParseP at z
 have f:=d.out
 clear d
 have c2:g.cell? ⟨w.heap.size,2,none⟩=some (.string (bs x.name)):=(r.cell (p:=⟨w.heap.size,2,none⟩) HL.out).trans a4.out
 have o:g.cell? ⟨j,0,none⟩=some (.string (bs a)):=(r.cell (p:=⟨j,0,none⟩) (zg HM.out)).trans HM.out
 have B:Hid (Below w.heap.size w g):=T.out.trans (r.mono T.out.size)
 cases n:Tp.parse x.text with
 |error er =>
  rw[n]at z f
  simp only[Bool.or_false]at f
  have d:=zh f
  clear f
  obtain⟨ab,rfl,_,_,_⟩:=z
  unfold m0
  obtain⟨b,c⟩:∃b,b=g.alloc (.cells #[.string ⟨#[]⟩,.slice none 0 0,.slice none 0 0,.slice none 0 0,.slice none 0 0] 36):=⟨_,rfl⟩
  have i:Below g.heap.size g b:=by rw[c];exact zb _ _
  have u:b.cell? ⟨w.heap.size,2,none⟩=some (.string (bs x.name)):=(i.cell (p:=⟨w.heap.size,2,none⟩) (zg c2)).trans c2
  have K:b.cell? ⟨j,0,none⟩=some (.string (bs a)):=(i.cell (p:=⟨j,0,none⟩) (zg o)).trans o
  have l2:=zg u
  have lm:=zg K
  have m:Hid (Below w.heap.size w b):=B.out.trans (i.mono B.out.size)
  clear r i n c2 o a1 N
  by_cases h:x.name=a
  ·have k:Hid (l=true):=by show _=_;rw[d.out];exact decide_eq_true h
   rw[h]at u
   generalize bs a=mn' at *
   clear d
   go_upto_region 2 with fail
   rw[<-c]
   clear c
   go_wp2_with fail
   go_ret
   exact⟨by rw[k.out];rfl,m.out⟩
  ·have a5:¬(bs x.name).toList=(bs a).toList:=fun q=>h (by rw[zj,zj]at q;exact q)
   have k:Hid (l=false):=by show _=_;rw[d.out];exact decide_eq_false h
   clear d
   go_upto_region 2 with fail
   rw[<-c]
   clear c
   go_wp2_with fail
   go_ret
   exact⟨by show Ending.returned (Value.bool ((bs x.name).toList==(bs a).toList))=_;rw[beq_bs,k.out,decide_eq_false h],m.out⟩
 |ok y =>
  rw[n]at z
  have V:=n
  obtain⟨v,rfl,S⟩:=z
  have U:=(Tp.parse_wm n).1
  have a6:=U.ic
  obtain⟨E,ga,pa,ba,F,X,pc,bc,rfl,W⟩:=S.mb
  obtain⟨b,c⟩:∃b,b=g.alloc (.cells (mcells (bs y.name) (.slice E y.imports.length F) (.slice ga y.vars.length X) (.slice pa y.procs.length pc) (.slice ba y.body.length bc)) 36):=⟨_,rfl⟩
  have i:Below g.heap.size g b:=by rw[c];exact zb _ _
  have A:b.heap[g.heap.size]?=some (.cells (mcells (bs y.name) (.slice E y.imports.length F) (.slice ga y.vars.length X) (.slice pa y.procs.length pc) (.slice ba y.body.length bc)) 36 (0,0)):=by rw[c];exact zo _ _
  have u:b.cell? ⟨w.heap.size,2,none⟩=some (.string (bs x.name)):=(i.cell (p:=⟨w.heap.size,2,none⟩) (zg c2)).trans c2
  have K:b.cell? ⟨j,0,none⟩=some (.string (bs a)):=(i.cell (p:=⟨j,0,none⟩) (zg o)).trans o
  have l2:=zg u
  have lm:=zg K
  have m:Hid (Below w.heap.size w b):=B.out.trans (i.mono B.out.size)
  have G:Hid (Calls Tryz.prog 16 #[.slice E y.imports.length F,.string (bs a)] b fun e w'=>(e=.returned (.bool (decide (a∈y.imports))))/\w'=b):=cont_post ((Row.strs W.im).on i) (by omega) a
  unfold mcells at *
  have a0:b.cell? ⟨g.heap.size,0,none⟩=some (.string (bs y.name)):=(za A).trans rfl
  have a3:b.cell? ⟨g.heap.size,1,none⟩=some (.slice E y.imports.length F):=(za A).trans rfl
  have a8:=zf A
  clear r i A n c2 o a1 N S W U a6
  obtain⟨il,H⟩:∃il,il=y.imports.length:=⟨_,rfl⟩
  obtain⟨gl,P⟩:∃gl,gl=y.vars.length:=⟨_,rfl⟩
  obtain⟨Y,Q⟩:∃Y,Y=y.procs.length:=⟨_,rfl⟩
  obtain⟨Z,R⟩:∃Z,Z=y.body.length:=⟨_,rfl⟩
  rw[V]at f
  rw[<-H,<-P,<-Q,<-R]at c ⊢
  rw[<-H]at G a3
  have d:=zh f
  clear f H P Q R V
  by_cases h:x.name=a
  ·have k:Hid (l=true):=by show _=_;rw[d.out,decide_eq_true h];rfl
   rw[h]at u
   clear d G
   generalize bs a=mn' at *
   go_upto_region 2 with fail
   rw[<-c]
   clear c
   go_wp2_with fail
   go_ret
   exact⟨by rw[k.out];rfl,m.out⟩
  have a5:¬(bs x.name).toList=(bs a).toList:=fun q=>h (by rw[zj,zj]at q;exact q)
  by_cases t:y.name=a
  ·have k:Hid (l=true):=by show _=_;rw[d.out];simp[t]
   rw[t]at a0
   clear d G
   generalize bs y.name=yn at *
   go_upto_region 2 with fail
   rw[<-c]
   clear c
   go_wp2_with fail
   go_ret
   exact⟨by rw[k.out];rfl,m.out⟩
  have a9:¬(bs y.name).toList=(bs a).toList:=fun q=>t (by rw[zj,zj]at q;exact q)
  have k:Hid (decide (a∈y.imports)=l):=by show _=_;rw[d.out];simp[t,h]
  clear d
  go_upto_region 2 with fail
  rw[<-c]
  clear c
  go_wp2_with fail
  refine G.out.mono ?_
  rintro e w5⟨rfl,rfl⟩
  rw[k.out]
  go_wp2_with fail
  go_ret
  exact⟨by show Ending.returned (Value.bool ((bs x.name).toList==(bs a).toList || ((bs y.name).toList==(bs a).toList || l)))=_;rw[beq_bs,beq_bs,decide_eq_false h,decide_eq_false t];rfl,m.out⟩
end Go.Proofs.YtibncofnnlbmcaaGreatDoor
namespace Go.Proofs.YtibncofnnlbmcaaGreatDoor
open Go.RowKit Go.Maps
open Tp (Bs X S G Pr Pt Rs Rr Own)
theorem WZ.beside {U c V:Nat->Prop}{d:Nat}{w w':World}{a:Nat}{Q:List Pt}(h:WZ U V d w a Q)(t:Tr U c w w'):WZ c V d w' a Q:=h.other (fun b f e=>t.block b f e) t.size (fun b q=>t.more b q)
theorem IntsAt.tr {U j:Nat->Prop}{w w':World}{e:List Int}{a:Option Addr}(h:IntsAt w e a)(t:Tr U j w w')(f:∀x,a=some x->¬U x.block):IntsAt w' e a:=⟨fun i g=>by
 obtain⟨b,o,d,l,k⟩:=h.c i g
 have:=t.size
 exact⟨b,o,d,by omega,(World.cell?_of_block (t.block b l (f _ d))).trans k⟩⟩
theorem alone_post {w:World}(hv:VarsC w.heap.size w){l:List Ac}{a:Option Addr}{cap:Nat}(hS:ActAt w l a)(s:Bs) :
  Calls Tryz.prog 4 #[.slice a l.length cap,.string (bs s)] w fun e w'=>e=.returned (.bool true)/\Below w.heap.size w w':=by
 have HV:=zh hv
 have HS:=zh hS
 have HH:=zh (held_post (cap:=cap) hS)
 have bD:((bs s).size:Int)=(s.length:Int):=by rw[yz]
 clear hv hS
 obtain⟨J,i1⟩:∃J,J=l.length:=⟨_,rfl⟩
 rw[<-i1]at HH ⊢
 have h8:=zh i1
 clear i1
 obtain⟨sb,m1⟩:∃sb,sb=bs s:=⟨_,rfl⟩
 rw[<-m1]at bD ⊢
 have bB:=zh m1
 clear m1
 go_enter Tryz.func4,Tryz.ntmps4
 go_wp2_with fail
 refine HH.out.mono ?_
 rintro e w1⟨⟨bb,rfl,f3⟩,c8⟩
 have d6:=zh c8
 cases bb with
 |false =>
  clear f3 c8
  go_wp2_with fail
  go_ret
  exact⟨rfl,d6.out⟩
 |true =>
  by_cases h9:900<s.length
  ·have aS:(s.length:Int) > 900:=by omega
   clear f3 c8
   go_wp2_with fail
   go_ret
   exact⟨rfl,d6.out⟩
  have aS:¬(s.length:Int) > 900:=by omega
  have g4:=zh (f3 rfl)
  have h4:=HV.out.on c8
  have HR:=zh (ran_any h4.mks h4.lv)
  clear f3 c8 h4 HH
  go_wp2_with fail
  refine HR.out.mono ?_
  rintro e w2⟨rfl,p9⟩
  have e8:Hid (Below w.heap.size w w2):=d6.out.trans (p9.mono d6.out.size)
  have i2:=HV.out.on e8.out
  have i0:=zh (yP w2 s (by omega) i2.mks i2.lv)
  rw[<-bB.out]at i0
  clear p9 i2 HR d6
  go_wp2_with fail
  refine i0.out.mono ?_
  rintro e t⟨s5,hq⟩
  have c5:Hid (Below w.heap.size w t):=e8.out.trans (s5.mono e8.out.size)
  clear s5 e8 i0
  unfold ParseP at hq
  cases hp:Tp.parse s with
  |error er =>
   rw[hp]at hq
   obtain⟨ab,rfl,_,_,_⟩:=hq
   unfold m0
   obtain⟨o,Z⟩:∃o,o=t.alloc (.cells #[.string ⟨#[]⟩,.slice none 0 0,.slice none 0 0,.slice none 0 0,.slice none 0 0] 36):=⟨_,rfl⟩
   have O:Hid (Below w.heap.size w o):=c5.out.trans (by rw[Z];exact(Below.refl _ _).alloc (c5.out.size) _)
   go_upto_region 6 with fail
   rw[<-Z]
   clear Z
   go_wp2_with fail
   go_ret
   exact⟨rfl,O.out⟩
  |ok m =>
   rw[hp]at hq
   obtain⟨v,rfl,o7⟩:=hq
   obtain⟨m4,aM⟩:=Tp.parse_wm hp
   have n8:Tp.nM m<=1000:=by omega
   obtain⟨ia,ga,pa,ba,ic,gc,pc,bc,rfl,i6⟩:=o7.mb
   obtain⟨o,Z⟩:∃o,o=t.alloc (.cells (mcells (bs m.name) (.slice ia m.imports.length ic) (.slice ga m.vars.length gc) (.slice pa m.procs.length pc) (.slice ba m.body.length bc)) 36):=⟨_,rfl⟩
   have b3:Below t.heap.size t o:=by rw[Z];exact zb _ _
   have V:o.heap[t.heap.size]?=some (.cells (mcells (bs m.name) (.slice ia m.imports.length ic) (.slice ga m.vars.length gc) (.slice pa m.procs.length pc) (.slice ba m.body.length bc)) 36 (0,0)):=by rw[Z];exact zo _ _
   have O:Hid (Below w.heap.size w o):=c5.out.trans (b3.mono c5.out.size)
   have i3:Hid (Calls Tryz.prog 14 #[.slice a l.length cap,.func (.func 15) #[] #[.pointer (some ⟨t.heap.size,0,none⟩)]] o fun e w'=>e=.returned (.bool (l.any (usesB m.name)))/\Below o.heap.size o w'):=by
    refine containsA1 (HS.out.on O.out) (by have:=g4.out.n;omega) alone_cf (fun W x aa ac hx hW _=>?_)
    have o4:=HV.out.on (O.out.trans (hW.mono O.out.size))
    exact alone1_post o4.mks o4.lv ((hW.cell (p:=⟨t.heap.size,0,none⟩) (zf V)).trans ((za V).trans rfl)) x aa ac (g4.out.x x hx).1
   have p4:Hid (l.any (usesB m.name)=false->∀x∈l,usesB m.name x=false):=fun e x hx=>by simpa using List.any_eq_false.1 e x hx
   have s6:Hid (∀(D W6:World),Below o.heap.size o D->Below D.heap.size D W6->W6.heap.size=D.heap.size+2->WZ (fun b=>b=D.heap.size) (fun b=>b=D.heap.size+1) 0 W6 (D.heap.size+1) []->Calls Tryz.prog 17 #[.pointer (some ⟨D.heap.size+1,0,none⟩),.agg (mcells (bs m.name) (.slice ia m.imports.length ic) (.slice ga m.vars.length gc) (.slice pa m.procs.length pc) (.slice ba m.body.length bc)),.int .i64 ((300:Nat):Int)] W6 (LoadQ (fun b=>b=D.heap.size) (fun b=>b=D.heap.size+1) 0 W6 (D.heap.size+1) (Tp.loadW ofS [] m 300))):=fun D W6 k5 k6 k7 k8=>by
    have j6:=(b3.trans (k5.mono b3.size)).trans (k6.mono (by have:=b3.size;have:=k5.size;omega))
    have aX:MD W6 (fun b=>b<t.heap.size) m ia ga pa ba ic gc pc bc:=(i6.md).mono (fun b hb hl=>⟨j6.block b hl,hb⟩)
    have:=b3.size
    have:=k5.size
    exact vJ (fuel:=300) k8 (fun b q=>by omega) (by omega) (i6.up j6) aX (fun b hb _=>⟨by omega,by omega⟩) m4 n8 (by omega)
   have p3:Hid (m.name≠[]):=fun e=>by
    obtain⟨⟨_,_,q,_⟩,_⟩:=m4.n
    rw[e]at q
    cases q
   have h3:Hid ((Tp.loadW ofS [] m 300).err=none->∃q,(Tp.loadW ofS [] m 300).w=[q]/\q.m=m/\∀n,Tp.usedR m n=[]):=load_first1
   unfold mcells at *
   have p1:o.cell? ⟨t.heap.size,0,none⟩=some (.string (bs m.name)):=(za V).trans rfl
   have s2:o.cell? ⟨t.heap.size,1,none⟩=some (.slice ia m.imports.length ic):=(za V).trans rfl
   have p5:o.cell? ⟨t.heap.size,2,none⟩=some (.slice ga m.vars.length gc):=(za V).trans rfl
   have o3:o.cell? ⟨t.heap.size,3,none⟩=some (.slice pa m.procs.length pc):=(za V).trans rfl
   have t3:o.cell? ⟨t.heap.size,4,none⟩=some (.slice ba m.body.length bc):=(za V).trans rfl
   have b6:=zf V
   have b7:=zh (And.intro p1 (And.intro s2 (And.intro p5 (And.intro o3 t3))))
   clear p1 s2 p5 o3 t3 b3 V o7 i6 m4 aM n8 hp c5
   generalize bs m.name=mn at *
   generalize m.imports.length=il at *
   generalize m.vars.length=gl at *
   generalize m.procs.length=pl at *
   generalize m.body.length=bl at *
   rw[<-h8.out]at i3
   generalize l.any (usesB m.name)=ub at *
   go_upto_region 8 with fail
   rw[<-Z]
   clear Z
   go_wp2_with fail
   refine i3.out.mono ?_
   rintro e u⟨rfl,Y⟩
   have bF:=zh Y
   obtain⟨H,F⟩:∃H,H=(u.alloc (.cells #[.slice none 0 0,.map none] 28)).alloc (.cells #[.slice none 0 0,.map none] 28):=⟨_,rfl⟩
   have R:Below u.heap.size u H:=by rw[F];exact(zb _ _).alloc (by simp) _
   have p2:H.heap.size=u.heap.size+2:=by rw[F];simp
   have i9:H.heap[u.heap.size]?=some (.cells #[.slice none 0 0,.map none] 28 (0,0)):=by rw[F];exact(Below.heap_alloc _ _ _ (by simp)).trans (zo _ _)
   have a4:H.heap[u.heap.size+1]?=some (.cells #[.slice none 0 0,.map none] 28 (0,0)):=by rw[F];exact yj _ _ _
   have r9:WZ (fun b=>b=u.heap.size) (fun b=>b=u.heap.size+1) 0 H (u.heap.size+1) []:=WZ.zero a4 (by omega)
   have N:Hid (WZ (fun b=>b=u.heap.size+1) (fun b=>b=u.heap.size) 0 H u.heap.size []):=WZ.zero i9 (by omega)
   have HL:=zh (s6.out u H Y R p2 r9)
   have G:Hid (Below w.heap.size w H):=(O.out.trans (Y.mono O.out.size)).trans (R.mono (by have:=O.out.size;have:=Y.size;omega))
   have b0:Below o.heap.size o H:=Y.trans (R.mono Y.size)
   have n0:=(b0.cell (p:=⟨t.heap.size,0,none⟩) b6).trans b7.out.1
   have n1:=(b0.cell (p:=⟨t.heap.size,1,none⟩) b6).trans b7.out.2.1
   have n2:=(b0.cell (p:=⟨t.heap.size,2,none⟩) b6).trans b7.out.2.2.1
   have n3:=(b0.cell (p:=⟨t.heap.size,3,none⟩) b6).trans b7.out.2.2.2.1
   have n4:=(b0.cell (p:=⟨t.heap.size,4,none⟩) b6).trans b7.out.2.2.2.2
   have aQ:=zg n0
   have e5:=zf i9
   have e6:=zf a4
   have f0:Hid (w.heap.size<=u.heap.size):=by have:=O.out.size;have:=Y.size;show _<=_;omega
   obtain⟨C,f9⟩:∃C,C=u.heap.size:=⟨_,rfl⟩
   obtain⟨I,f6⟩:∃I,I=u.heap.size+1:=⟨_,rfl⟩
   rw[<-f6]at N HL e6
   rw[<-f9]at N HL e5 f0
   have r8:Hid (I=C+1):=by show _=_;rw[f6,f9]
   clear Y R i9 a4 r9 b0 s6 b7 bF i3 p2
   go_upto_region 10 with fail
   rw[<-F,<-f6,<-f9]
   clear F f6 f9
   obtain⟨r,hr⟩:∃r,r=Tp.loadW ofS [] m 300:=⟨_,rfl⟩
   rw[<-hr]at HL h3
   have c0:((300:Nat):Int)=300:=rfl
   rw[c0]at HL
   clear hr c0
   go_wp2_with fail
   refine HL.out.mono ?_
   rintro e w7⟨oa,oc,ev,rfl,_,m9,a5⟩
   obtain⟨h6,d8,A⟩:=m9.wz
   obtain⟨on,r6⟩:∃on,on=r.e.out.length:=⟨_,rfl⟩
   rw[<-r6]
   obtain⟨w8,a3⟩:∃w8,w8=w7.alloc (.cells #[.int .i64 (r.e.way:Int),.slice oa on oc] 43):=⟨_,rfl⟩
   have B:Below w7.heap.size w7 w8:=by rw[a3];exact zb _ _
   have E:Hid (WZ h6 (fun b=>b=C) 0 w8 C []):=(N.out.beside A).on B
   have K:Hid (WZ (fun b=>b=C) h6 1 w8 I r.w):=d8.on B
   have n6:Hid (∀b,h6 b->w.heap.size<=b):=fun b q=>by
    have:=f0.out
    have:=r8.out
    have:=G.out.size
    rcases A.more b q with z|z
    ·rw[z];omega
    ·omega
   have L:Hid (Below w.heap.size w w8):=(G.out.trans (A.toBelow G.out.size (fun b e=>by have:=f0.out;have:=r8.out;rw[e];omega))).trans (B.mono (by have:=G.out.size;have:=A.size;omega))
   have n5:=(E.out.lt E.out.wb).1
   have o2:=(K.out.lt K.out.wb).1
   clear r6 d8 A B m9 HL N n0 n1 n2 n3 n4 aQ e5 e6 b6 O
   go_upto_region 11 with fail
   rw[<-a3]
   clear a3
   cases ub with
   |true =>
    clear a5
    go_wp2_with fail
    go_ret
    exact⟨rfl,L.out⟩
   |false =>
    have p6:=zh (p4.out rfl)
    cases d7:r.err with
    |some er =>
     rw[d7]at a5
     have bS:=a5.gd
     have bR:=a5.ne
     clear a5 d7
     go_wp2_with fail
     go_ret
     exact⟨rfl,L.out⟩
    |none =>
     rw[d7]at a5
     obtain rfl:ev=.nilIface:=a5
     obtain⟨q,s3,f5,r4⟩:=h3.out d7
     rw[s3]at K
     have g8:=zh K.out.all
     obtain⟨s0,f7⟩:∃s0,s0=allB [q]:=⟨_,rfl⟩
     rw[<-f7]at g8
     have aO:=zh f7
     have aW:Hid (s0.size<=20000000):=by show s0.size<=_;rw[f7];exact K.out.small
     have aF:Hid (∀x∈l,usesB q.m.name x=false):=by rw[f5];exact p6.out
     have aE:Hid (q.m.name≠[]):=by rw[f5];exact p3.out
     have aZ:Hid (∀n,Tp.usedR q.m n=[]):=by rw[f5];exact r4
     clear f7 d7 s3 f5 r4 p6 p3 h3 p4
     go_wp2_with fail
     refine g8.out.mono ?_
     rintro e w9⟨rfl,T⟩
     have m8:=zh (E.out.on T)
     have m7:=zh (K.out.on T)
     have a9:Hid (Below w.heap.size w w9):=L.out.trans (T.mono L.out.size)
     have m6:Hid (∀b,b=C->w.heap.size<=b):=fun b e=>by rw[e];exact f0.out
     have bK:J<=12:=by have:=g4.out.n;have:=h8.out;omega
     have bH:(J:Int)<=12:=by omega
     clear T g8 E K L n5 o2 G
     go_wp2_with fail
     go_loopg [13] J (fun k vi wr=>∃(i:Nat) (Uv Uw:Nat->Prop) (P:List Pt),i<=J/\k=J-i/\vi=.int .i64 (i:Int)/\Hid (WZ Uw Uv i wr C P)/\Hid (WZ Uv Uw (i+1) wr I (q :: P))/\Hid (Below w.heap.size w wr)/\Hid (∀b,Uv b->w.heap.size<=b)/\Hid (∀b,Uw b->w.heap.size<=b)/\Hid (Tp.Inv q.m.name P))
     case atStart=>exact⟨0,_,_,[],by omega,by omega,rfl,m8,m7,a9,m6,n6,fun p hp=>by cases hp⟩
     case round =>
      obtain⟨i,Uv,Uw,P,bO,hk,rfl,N,a1,b5,e9,f8,HI⟩:=hrel
      clear m8 m7 a9 m6 n6
      by_cases bN:i<J
      ·have aB:(i:Int)<(J:Int):=by omega
       have bP:¬(i:Int)<0:=by omega
       have h7:i<l.length:=by have:=h8.out;omega
       obtain⟨g,go,aa,ac,aU,i5,s9,p7⟩:=HS.out.c i h7
       have aY:g<w.heap.size:=zg (i5 0 (by omega))
       subst aU
       obtain⟨x1,x2,x3,x4⟩:=g4.out.x _ (List.getElem_mem h7)
       have bG:=zh (aF.out _ (List.getElem_mem h7))
       have m3:Hid (∀W,Below w.heap.size w W->W.cell? ⟨g,go+i*5,none⟩=some (.int .i64 l[i].what)/\W.cell? ⟨g,go+i*5+1,none⟩=some (.string (bs l[i].text))/\W.cell? ⟨g,go+i*5+2,none⟩=some (.string (bs l[i].name))/\W.cell? ⟨g,go+i*5+3,none⟩=some (.string (bs l[i].proc))/\W.cell? ⟨g,go+i*5+4,none⟩=some (.slice aa l[i].args.length ac)):=fun W hW=>by
        have hc:=fun j (hj:j<5)=>(hW.cell (p:=⟨g,go+(i*5+j),none⟩) aY).trans (i5 j hj)
        exact⟨hc 0 (by omega),by rw[Nat.add_assoc];exact hc 1 (by omega),by rw[Nat.add_assoc];exact hc 2 (by omega),by rw[Nat.add_assoc];exact hc 3 (by omega),by rw[Nat.add_assoc];exact hc 4 (by omega)⟩
       have c7:Hid (∀{X U:Nat->Prop} {c:Nat} {W:World} {ob:Nat} {Q:List Pt},Below w.heap.size w W->(∀b,U b->w.heap.size<=b)->(∀b,X b->b<W.heap.size)->WZ X U c W ob Q->c<=80->Calls Tryz.prog 11 #[.pointer (some ⟨ob,0,none⟩),.agg (acells l[i] aa ac),.int .i64 ((300:Nat):Int)] W fun e w'=>∃r,ActIs Q l[i] 300 r/\ActQ X U c W ob r e w'):=fun k1 k2 k3 k4 k5=>act_post (fuel:=300) (ac:=ac) (HV.out.on k1) k1.size k2 k3 k4 k5 (by omega) x1 (by omega) p7 (s9.on k1) (by omega)
       have c0:((300:Nat):Int)=300:=rfl
       rw[c0]at c7
       unfold acells at c7
       generalize l[i]=x at *
       clear i5 s9 p7 x1 x2 x3 x4 c0
       obtain⟨e0,e1,e2,e3,e4⟩:=m3.out wr b5.out
       have aR:g<wr.heap.size:=zg e0
       have aG:=(N.out.lt N.out.wb).1
       have aH:=(a1.out.lt a1.out.wb).1
       have HA:=zh (c7.out b5.out e9.out (fun b q=>(a1.out.lt q).1) N.out (by omega))
       go_wp2_with fail
       refine HA.out.mono ?_
       rintro e a0⟨f,t8,a2,b2,rfl,b8⟩
       obtain⟨a8,t7,c9⟩:=b8.wz
       obtain⟨b4,g9⟩:∃b4,b4=f.e.out.length:=⟨_,rfl⟩
       rw[<-g9]
       obtain⟨M,F⟩:∃M,M=a0.alloc (.cells #[.int .i64 (f.e.way:Int),.slice a2 b4 b2] 43):=⟨_,rfl⟩
       have R:Below a0.heap.size a0 M:=by rw[F];exact zb _ _
       have a4:M.heap[a0.heap.size]?=some (.cells #[.int .i64 (f.e.way:Int),.slice a2 b4 b2] 43 (0,0)):=by rw[F];exact zo _ _
       have s4:=b5.out.size
       have aV:=c9.size
       have G:Hid (Below w.heap.size w M):=(b5.out.trans (c9.toBelow s4 e9.out)).trans (R.mono (by omega))
       have c3:Hid (WZ Uw a8 (i+1) M C f.w):=t7.on R
       have e7:Hid (WZ a8 Uw (i+1) M I (q :: P)):=(a1.out.beside c9).on R
       have aJ:Hid (∀b,a8 b->w.heap.size<=b):=fun b q=>by
        rcases c9.more b q with z|z
        ·exact e9.out b z
        ·omega
       have n9:Hid (IntsAt M f.e.out a2):=b8.it.on R
       have t5:Hid (∀x,a2=some x->¬Uw x.block):=fun x hx q=>by
        have:=b8.far x hx
        have:=(a1.out.lt q).1
        omega
       have o5:Hid (¬Uw a0.heap.size):=fun q=>by
        have:=(a1.out.lt q).1
        omega
       have p0:Hid (f.e.out.length<=200):=b8.ol
       have s7:=zh a4
       have aK:=zf a4
       have t0:=zh t8
       have g6:=zh g9
       obtain⟨d0,d1,d2,d3,d4⟩:=m3.out M G.out
       have aA:g<M.heap.size:=zg d0
       have e5:=(c3.out.lt c3.out.wb).1
       have e6:=(e7.out.lt e7.out.wb).1
       have t6:=zh (c7.out G.out f8.out (fun b q=>(c3.out.lt q).1) e7.out (by omega))
       clear t7 c9 R a4 b8 t8 g9 HA N a1 b5 e9 e0 e1 e2 e3 e4 aR aG aH s4 aV
       go_upto_region 18 with fail
       rw[<-F]
       clear F
       go_wp2_with fail
       refine t6.out.mono ?_
       rintro e b1⟨r2,r3,c4,c6,rfl,g5⟩
       obtain⟨d5,d8,A⟩:=g5.wz
       obtain⟨S,g7⟩:∃S,S=r2.e.out.length:=⟨_,rfl⟩
       rw[<-g7]
       obtain⟨d,a3⟩:∃d,d=b1.alloc (.cells #[.int .i64 (r2.e.way:Int),.slice c4 S c6] 43):=⟨_,rfl⟩
       have B:Below b1.heap.size b1 d:=by rw[a3];exact zb _ _
       have a7:d.heap[b1.heap.size]?=some (.cells #[.int .i64 (r2.e.way:Int),.slice c4 S c6] 43 (0,0)):=by rw[a3];exact zo _ _
       have o0:=G.out.size
       have bC:=A.size
       have L:Hid (Below w.heap.size w d):=(G.out.trans (A.toBelow o0 f8.out)).trans (B.mono (by omega))
       have E:Hid (WZ d5 a8 (i+1) d C f.w):=(c3.out.beside A).on B
       have K:Hid (WZ a8 d5 (i+1+1) d I r2.w):=d8.on B
       have aI:Hid (∀b,d5 b->w.heap.size<=b):=fun b q=>by
        rcases A.more b q with z|z
        ·exact f8.out b z
        ·omega
       have m5:Hid (IntsAt d f.e.out a2):=(n9.out.tr A t5.out).on B
       have n7:Hid (IntsAt d r2.e.out c4):=g5.it.on B
       have a6:d.heap[a0.heap.size]?=some (.cells #[.int .i64 (f.e.way:Int),.slice a2 b4 b2] 43 (0,0)):=((B.block _ (by omega)).trans (A.block _ aK o5.out)).trans s7.out
       have i7:Hid (tellN r2.err≠12->r2=⟨q :: f.w,f.e,f.n,f.err⟩/\Tp.Inv q.m.name f.w):=fun hf=>act_alone aE.out HI.out aZ.out bG.out t0.out r3 hf
       have r5:=zh a6
       have o6:=zh a7
       have o1:=zh g7
       clear d8 A B a6 a7 g5 r3 g7 t6 c3 e7 G f8 n9 t5 o5 s7 d0 d1 d2 d3 d4 aA e5 e6 o0 bC c7 m3
       obtain⟨t1,m2⟩:∃t1,t1=tellN f.err:=⟨_,rfl⟩
       obtain⟨t2,f4⟩:∃t2,t2=tellN r2.err:=⟨_,rfl⟩
       rw[<-m2,<-f4]
       rw[<-f4]at i7
       have r0:=zh m2
       have t4:=zh f4
       clear m2 f4
       go_upto_region 19 with fail
       rw[<-a3]
       clear a3
       by_cases f1:t1=12
       ·subst f1
        have hz:((12:Nat):Int)=12:=rfl
        rw[hz]
        go_wp2_with fail
        go_ret
        exact⟨rfl,L.out⟩
       have bQ:¬(t1:Int)=12:=by omega
       by_cases f2:t2=12
       ·subst f2
        have hz:((12:Nat):Int)=12:=rfl
        rw[hz]
        go_wp2_with fail
        go_ret
        exact⟨rfl,L.out⟩
       have bM:¬(t2:Int)=12:=by omega
       obtain⟨bA,h0⟩:=i7.out f2
       subst bA
       have aC:t2=t1:=by rw[t4.out,r0.out]
       have t9:S=b4:=by rw[o1.out,g6.out]
       subst aC t9
       have s8:Hid (Calls Tryz.prog 12 #[.agg #[.int .i64 (f.e.way:Int),.slice a2 S b2],.agg #[.int .i64 (f.e.way:Int),.slice c4 S c6]] d fun e w'=>e=.returned (.bool true)/\Below d.heap.size d w'):=by
        have:=ends_post (x:=f.e.way) (y:=f.e.way) (c1:=b2) (c2:=c6) m5.out n7.out (by have:=p0.out;omega)
        rw[<-g6.out]at this
        exact this.mono fun e w' h=>by simpa using h
       have b9:Hid (WZ a8 d5 (i+1+1) d I (q :: f.w)):=K
       have a6:=r5.out
       have a7:=o6.out
       have g0:d.cell? ⟨a0.heap.size,0,none⟩=some (.int .i64 (f.e.way:Int)):=(za a6).trans rfl
       have g1:d.cell? ⟨a0.heap.size,1,none⟩=some (.slice a2 S b2):=(za a6).trans rfl
       have g2:d.cell? ⟨b1.heap.size,0,none⟩=some (.int .i64 (f.e.way:Int)):=(za a7).trans rfl
       have g3:d.cell? ⟨b1.heap.size,1,none⟩=some (.slice c4 S c6):=(za a7).trans rfl
       have aN:=zf a6
       have aP:=zf a7
       obtain⟨s1,d9⟩:∃s1,s1=allB f.w:=⟨_,rfl⟩
       have o8:Hid (∀W,Below d.heap.size d W->Calls Tryz.prog 13 #[.pointer (some ⟨C,0,none⟩)] W fun e w'=>e=.returned (.string s1)/\Below W.heap.size W w'):=fun W hW=>by rw[d9];exact(E.out.on hW).all
       have o9:Hid (∀W,Below d.heap.size d W->Calls Tryz.prog 13 #[.pointer (some ⟨I,0,none⟩)] W fun e w'=>e=.returned (.string (s0++s1))/\Below W.heap.size W w'):=fun W hW=>by
        have:=(b9.out.on hW).all
        rw[allB_cons (fun p hp=>(h0 p hp).1),<-aO.out,<-d9]at this
        exact this
       have bT:¬9223372036854775807<s0.size+s1.size:=by
        have h1:=aW.out
        have h2:=E.out.small
        rw[<-d9]at h2
        omega
       have aT:=zh h0
       clear a6 a7 r5 o6 d9 h0 m5 n7 p0 r0 t4 g6 o1 i7 K t0
       generalize f.e.way=wy at *
       generalize f.n=rn at *
       have n5:=(E.out.lt E.out.wb).1
       have o2:=(b9.out.lt b9.out.wb).1
       go_wp2_with fail
       refine s8.out.mono ?_
       rintro e r7⟨rfl,T⟩
       have a9:=zh T
       have bI:C<r7.heap.size:=by have:=T.size;omega
       have bJ:I<r7.heap.size:=by have:=T.size;omega
       clear T g0 g1 g2 g3 aN aP
       go_wp2_with fail
       refine(o8.out _ a9.out).mono ?_
       rintro e wa⟨rfl,h5⟩
       have i4:Hid (Below d.heap.size d wa):=a9.out.trans (h5.mono a9.out.size)
       have bL:I<wa.heap.size:=by have:=h5.size;omega
       clear h5
       go_wp2_with fail
       refine(o9.out _ i4.out).mono ?_
       rintro e wc⟨rfl,p8⟩
       have i8:Hid (Below d.heap.size d wc):=i4.out.trans (p8.mono i4.out.size)
       clear p8
       have bE:Hid (Below w.heap.size w wc):=L.out.trans (i8.out.mono L.out.size)
       have aD:=zh (E.out.on i8.out)
       have aL:=zh (b9.out.on i8.out)
       clear o8 o9 s8 E b9
       go_wp2_with fail
       go_roundg (J-(i+1))
       case measure=>omega
       case rel=>exact⟨i+1,a8,d5,_,by omega,rfl,by go_num,aD,aL,bE,aJ,aI,aT⟩
      ·have aB:¬(i:Int)<(J:Int):=by omega
       clear N a1
       go_wp2_with fail
       go_ret
       exact⟨rfl,b5.out⟩
end Go.Proofs.YtibncofnnlbmcaaGreatDoor
