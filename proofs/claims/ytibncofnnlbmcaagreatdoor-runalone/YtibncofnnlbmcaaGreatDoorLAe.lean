import Derived.Test.YtibncofnnlbmcaaGreatDoorLAa
import Derived.Test.YtibncofnnlbmcaaGreatDoorLAd
import Derived.Test.YtibncofnnlbmcaaGreatDoorLQi
set_option maxRecDepth 100000
set_option maxHeartbeats 4000000
namespace Go.Proofs.YtibncofnnlbmcaaGreatDoor
open Go.RowKit Go.Maps
open Tp (Bs X S G Pr Pt Rs Rr Own)
structure AnsP (X U:Nat->Prop) (c:Nat) (w:World) (wb:Nat) (a:Tp.Ans) (oa:Option Addr) (w':World):Prop where
 wz:∃U',WZ X U' (c+1) w' wb a.w/\Tr U U' w w'
 it:IntsAt w' a.e.out oa
 oi:∀v∈a.e.out,Tp.I64 v
 ol:a.e.out.length<=200
 far:∀x,oa=some x->w.heap.size<=x.block
def LoadQ (X U:Nat->Prop) (c:Nat) (w:World) (wb:Nat) (a:Tp.Ans) (e:Ending) (w':World):Prop:=∃oa oc ev,e=.returned (.tuple #[.agg #[.int .i64 (a.e.way:Int),.slice oa a.e.out.length oc],ev])/\a.e.out.length<=oc/\AnsP X U c w wb a oa w'/\EvT w.heap.size w' a.err ev
theorem yW {X U:Nat->Prop}{c:Nat}{w w':World}{a:Nat}{P:List Pt}{er:Nat×Option Nat}{n:Int}(h:WZ X U c w a P)(b:Below w.heap.size w w'):AnsP X U c w a ⟨P,Tp.no,n,some er⟩ none w' :=
 ⟨⟨U,(h.on b).more (by omega),Tr.below b⟩,⟨fun i d=>(by cases d)⟩,(fun v f=>(by cases f)),(by show (0:Nat)<=200;omega),fun x e=>(by cases e)⟩
theorem loadS_ok {P:List Pt}{m:Tp.M}{fuel:Nat}(a:Tp.partOf P m.name=none)(h:Tp.check m (Tp.seenW ofS P)=none)(b:P.length<10):Tp.loadW ofS P m fuel=⟨(Tp.endOf (Tp.goS (Tp.gasOf (P++[⟨m,Tp.fresh m⟩]) m.body fuel) 0 m.name (fun _=>none) m.body ⟨P++[⟨m,Tp.fresh m⟩],fuel,[]⟩)).1,(Tp.endOf (Tp.goS (Tp.gasOf (P++[⟨m,Tp.fresh m⟩]) m.body fuel) 0 m.name (fun _=>none) m.body ⟨P++[⟨m,Tp.fresh m⟩],fuel,[]⟩)).2,0,none⟩:=by
 unfold Tp.loadW
 rw[if_neg (by rw[a];simp),h]
 simp only
 rw[if_neg (by omega)]
theorem loadA_ok {X:Nat->Prop}{w:World}{d fuel:Nat}{L:List Lo}{P:List Pt}{N:Value}{H:Option Nat}{m:Tp.M}{u E t r:Option Addr}{y C A s:Nat}(h:WX X w d L P N H)(hL:L.length<=10)(m4:MB w w.heap.size m u E t r y C A s)(hm:Tp.WM m){D:Nat->Prop}{c:Nat}(hX:∀b,X b->b<w.heap.size)(c9:Tp.WI ofS P)(f3:MapC w H L c)(hc:c<=90)(b8:MD w D m u E t r y C A s)(hD:∀b,D b->b<w.heap.size->¬X b/\¬Mut L d H N b)(hf:fuel<=800000)(g0:∀x∈Tp.ms P,Tp.nM x<=1000)(i3:Tp.nM m<=1000)(b4:Tp.partOf P m.name=none)(h0:ptrV L m.name=none) :
  Calls Tryz.prog 17 #[.pointer (some ⟨d,0,none⟩),.agg (mcells (bs m.name) (.slice u m.imports.length y) (.slice E m.vars.length C) (.slice t m.procs.length A) (.slice r m.body.length s)),.int .i64 (fuel:Int)] w (LoadQ X (Mut L d H N) c w d (Tp.loadW ofS P m fuel)):=by
 have i9:P.length=L.length:=by have:=congrArg List.length h.mw;simpa[Tp.ms] using this
 have e7:Tp.WI ofS (Tp.loadW ofS P m fuel).w:=Tp.WI.load c9
 obtain⟨a,ha⟩:∃a,a=Tp.loadW ofS P m fuel:=⟨_,rfl⟩
 obtain⟨ck,b5⟩:∃ck,ck=Tp.check m (Tp.seenW ofS P):=⟨_,rfl⟩
 have r1:Hid (ck=none->P.length<10->a=_):=fun e1 e2=>ha.trans (loadS_ok (fuel:=fuel) b4 (b5.symm.trans e1) e2)
 have o3:Hid (∀er,ck=some er->a=⟨P,Tp.no,0,some er⟩):=fun er e=>by
  rw[ha]
  unfold Tp.loadW
  rw[if_neg (by rw[b4];simp),<-b5,e]
 have s7:Hid (ck=none->10<=P.length->a=⟨P,Tp.no,0,some (12,none)⟩):=fun e1 e2=>by
  rw[ha]
  unfold Tp.loadW
  rw[if_neg (by rw[b4];simp),<-b5,e1]
  exact if_pos e2
 have hz:WZ X (Mut L d H N) c w d P:=⟨L,N,H,h,hL,c9,fun b=>Iff.rfl,f3,g0⟩
 have h7:Hid (∀er ev k,a=⟨P,Tp.no,0,some er⟩->Below w.heap.size w k->EvT w.heap.size k (some er) ev->LoadQ X (Mut L d H N) c w d a (.returned (.tuple #[no2,ev])) k):=fun er ev k e l f6=>by
  rw[e]
  exact⟨none,0,ev,rfl,Nat.le_refl _,yW hz l,f6⟩
 rw[<-ha]at e7 ⊢
 have h5:=zh b5
 have i8:=zh i9
 have o1:=zh e7
 have o8:=zh hX
 have i6:=zh c9
 have p5:=zh f3
 have r0:=zh b8
 have HD:=zh hD
 have i0:=zh b4
 have s5:=zh g0
 have r6:=zh i3
 clear hz g0 i3 ha e7 hX c9 f3 b8 hD i9 b4 b5
 have t5:=zQ hm.n
 have r7:=zf h.blk
 obtain⟨W,hW⟩:∃W,W=(w.alloc (.cells (mcells (bs m.name) (.slice u m.imports.length y) (.slice E m.vars.length C) (.slice t m.procs.length A) (.slice r m.body.length s)) 36)).alloc (.cells #[.int .i64 0,.slice none 0 0] 43):=⟨_,rfl⟩
 have c1:Below w.heap.size w W:=by rw[hW];exact(zb _ _).alloc (by simp) _
 have f9:W.heap.size=w.heap.size+2:=by rw[hW];simp
 have g1:W.heap[w.heap.size]?=some (.cells (mcells (bs m.name) (.slice u m.imports.length y) (.slice E m.vars.length C) (.slice t m.procs.length A) (.slice r m.body.length s)) 36 (0,0)):=by rw[hW];exact(Below.heap_alloc _ _ _ (by simp)).trans (zo _ _)
 have i7:W.heap[w.heap.size+1]?=some (.cells #[.int .i64 0,.slice none 0 0] 43 (0,0)):=by
  have:=zo (w.alloc (.cells (mcells (bs m.name) (.slice u m.imports.length y) (.slice E m.vars.length C) (.slice t m.procs.length A) (.slice r m.body.length s)) 36)) (.cells #[.int .i64 0,.slice none 0 0] 43)
  rw[hW]
  simpa using this
 have V:=(c1.block d r7).trans h.blk
 have k1:W.cell? ⟨d,1,none⟩=some (.map H):=(za V).trans rfl
 have km:W.cell? ⟨w.heap.size,0,none⟩=some (.string (bs m.name)):=(za g1).trans rfl
 have i4:∀n,(Instr.lookup 26 (.map H) (.string (bs m.name)) false).run Tryz.prog (W.drewN n)=.ok (.pointer none) (W.drewN n):=fun n=>by
  have:=((h.on c1).on (below_drewN (Below.refl W.heap.size W) n)).look m.name (by omega)
  rw[h0]at this
  exact this
 have m2:=zh m4
 have r4:=zh hm.sml
 have b6:=zh c1
 have b2:=zh g1
 have f8:=zh i7
 have n0:=zh V
 have HM:=zh hm
 have a4:=zh h
 have a7:=zh f9
 have h3:d<W.heap.size:=by omega
 have e4:w.heap.size<W.heap.size:=by omega
 unfold mcells at *
 obtain⟨Y,c7⟩:∃Y,Y=bs m.name:=⟨_,rfl⟩
 obtain⟨Sn,i5⟩:∃Sn,Sn=Tp.seenW ofS P:=⟨_,rfl⟩
 have e8:Hid (∀W' I,Below w.heap.size w W'->SeenV W' (.map (some I)) Sn->Calls Tryz.prog 37 #[.agg #[.string Y,.slice u m.imports.length y,.slice E m.vars.length C,.slice t m.procs.length A,.slice r m.body.length s],.map (some I)] W' (CheckP W' (Tp.check m Sn))):=fun W' I r8 n7=>by
  have:=yU r4.out (m2.out.up r8) n7
  unfold mcells at this
  rw[c7]
  exact this
 rw[<-c7]at hW km i4 b2 ⊢
 have o7:Hid (Y=bs m.name):=c7
 have m7:Hid (Sn=Tp.seenW ofS P):=i5
 clear m4 hm V g1 i7 c1 f9 c7 i5 h h0
 obtain⟨il,f7⟩:∃il,il=m.imports.length:=⟨_,rfl⟩
 obtain⟨gl,f5⟩:∃gl,gl=m.vars.length:=⟨_,rfl⟩
 obtain⟨pl,g2⟩:∃pl,pl=m.procs.length:=⟨_,rfl⟩
 obtain⟨bl,K⟩:∃bl,bl=m.body.length:=⟨_,rfl⟩
 rw[<-f7,<-f5,<-g2,<-K]at hW b2 e8 ⊢
 have HQ:=zh (And.intro f7 (And.intro f5 (And.intro g2 K)))
 clear f7 f5 g2 K
 go_enter Tryz.func17,Tryz.ntmps17
 go_upto_region 1 with fail
 rw[<-hW]
 clear hW
 go_quiet (fail)
 obtain⟨O,d6⟩:∃O,O=W.drewN nq:=⟨_,rfl⟩
 have e1:O.heap=W.heap:=by rw[d6];rfl
 have s6:Hid (Below W.heap.size W O):=by rw[d6];exact below_drewN (Below.refl _ _) _
 rw[<-d6]
 clear d6 i4 k1 km
 have d2:Below W.heap.size W O.drew:=s6.out.drew
 have b8:=(d2.block _ e4).trans b2.out
 have c2:Hid (O.drew.cell? ⟨w.heap.size,0,none⟩=some (.string Y)/\O.drew.cell? ⟨w.heap.size,1,none⟩=some (.slice u il y)/\O.drew.cell? ⟨w.heap.size,2,none⟩=some (.slice E gl C)/\O.drew.cell? ⟨w.heap.size,3,none⟩=some (.slice t pl A)/\O.drew.cell? ⟨w.heap.size,4,none⟩=some (.slice r bl s)):=ym b8
 have g7:O.drew.heap.size=W.heap.size:=by show O.heap.size=_;rw[e1]
 have c3:Hid (Calls Tryz.prog 38 #[.pointer (some ⟨d,0,none⟩)] O.drew fun e w2=>∃I,e=.returned (.map (some I))/\(Below W.heap.size W w2/\SeenV w2 (.map (some I)) Sn)/\(w2.cell? ⟨w.heap.size,0,none⟩=some (.string Y)/\w2.cell? ⟨w.heap.size,1,none⟩=some (.slice u il y)/\w2.cell? ⟨w.heap.size,2,none⟩=some (.slice E gl C)/\w2.cell? ⟨w.heap.size,3,none⟩=some (.slice t pl A)/\w2.cell? ⟨w.heap.size,4,none⟩=some (.slice r bl s))):=by
  refine(seen_any (a4.out.on (b6.out.trans (d2.mono (by omega)))) hL).mono ?_
  rintro e w2⟨I,rfl,c6,c8⟩
  have i2:Below W.heap.size W w2:=d2.trans (c6.mono (by rw[g7];exact Nat.le_refl _))
  exact⟨I,rfl,⟨i2,by rw[m7.out];exact c8⟩,ym ((i2.block _ e4).trans b2.out)⟩
 have c0:Hid (∀w2 I,Below W.heap.size W w2/\SeenV w2 (.map (some I)) Sn->Calls Tryz.prog 37 #[.agg #[.string Y,.slice u il y,.slice E gl C,.slice t pl A,.slice r bl s],.map (some I)] w2 fun e f=>∃ev,e=.returned ev/\(Below W.heap.size W f/\EvT W.heap.size f ck ev)/\(f.cell? ⟨w.heap.size,0,none⟩=some (.string Y)/\f.cell? ⟨w.heap.size,1,none⟩=some (.slice u il y)/\f.cell? ⟨w.heap.size,2,none⟩=some (.slice E gl C)/\f.cell? ⟨w.heap.size,3,none⟩=some (.slice t pl A)/\f.cell? ⟨w.heap.size,4,none⟩=some (.slice r bl s))):=fun w2 I h2=>by
  have:=e8.out w2 I (b6.out.trans (h2.1.mono (by omega))) h2.2
  rw[m7.out,<-h5.out]at this
  refine this.mono ?_
  intro e f hq
  obtain⟨d4,ev,he,f6⟩:=ui hq
  have m0:Below W.heap.size W f:=h2.1.trans (d4.mono h2.1.size)
  exact⟨ev,he,⟨m0,f6.lower h2.1.size⟩,ym ((m0.block _ e4).trans b2.out)⟩
 clear d2 b8 e8 g7
 go_upto_region 3 with fail
 go_region_held3 (fun w'=>w'.cell? ⟨w.heap.size,0,none⟩=some (.string Y)/\w'.cell? ⟨w.heap.size,1,none⟩=some (.slice u il y)/\w'.cell? ⟨w.heap.size,2,none⟩=some (.slice E gl C)/\w'.cell? ⟨w.heap.size,3,none⟩=some (.slice t pl A)/\w'.cell? ⟨w.heap.size,4,none⟩=some (.slice r bl s)) (with_reducible (first|exact f2.out|exact o4.out|exact c2.out)) (first|(go_at_call 38;refine c3.out.mono ?_;rintro e w2 ⟨I,rfl,c6,c8⟩;have r2:=zh c6;have o4:=zh c8;clear c6 c8)|(go_at_call 37;refine(c0.out _ _ r2.out).mono ?_;rintro e f ⟨ev,rfl,d4,g4⟩;have e3:=zh d4;have f2:=zh g4;clear d4 g4))
 have U:Hid (Below W.heap.size W f):=e3.out.1
 cases a8:ck with
 |some er =>
  have a5:=e3.out.2
  rw[a8]at a5
  have d7:=a5.ne
  have t8:=a5.gd
  have r3:=zh a5
  have c5:=zh a8
  clear a5 a8
  have J:=(U.out.block _ (show w.heap.size+1<W.heap.size by have:=a7.out;omega)).trans f8.out
  have e0:f.cell? ⟨w.heap.size+1,0,none⟩=some (.int .i64 0):=(za J).trans rfl
  have m1:f.cell? ⟨w.heap.size+1,1,none⟩=some (.slice none 0 0):=(za J).trans rfl
  have ez:∀j,f.frozen? ⟨w.heap.size+1,j,none⟩=false:=fun j=>zi J
  have m3:=zf J
  have T:=zu 1 (.slice none 0 0) (zu 0 (.int .i64 0) J)
  obtain⟨k,G⟩:∃k,k=(f.setCell ⟨w.heap.size+1,0,none⟩ (.int .i64 0)).setCell ⟨w.heap.size+1,1,none⟩ (.slice none 0 0):=⟨_,rfl⟩
  have f0:k.cell? ⟨w.heap.size+1,0,none⟩=some (.int .i64 0):=by rw[G];exact(za T).trans rfl
  have f1:k.cell? ⟨w.heap.size+1,1,none⟩=some (.slice none 0 0):=by rw[G];exact(za T).trans rfl
  have HR:Hid (LoadQ X (Mut L d H N) c w d a (.returned (.tuple #[no2,ev])) k):=by
   have hx:Ext (w.heap.size+1) f k:=by rw[G];exact((Ext.refl _ _).set 0 _).set 1 _
   have l:Below w.heap.size w k:=by
    rw[G]
    exact zq (zq (b6.out.trans (U.out.mono (by have:=a7.out;omega))) (by omega) 0 _) (by omega) 1 _
   exact h7.out _ _ _ (o3.out er c5.out) l ((r3.out.on hx (by have:=a7.out;omega)).lower (by have:=a7.out;omega))
  clear J T c2 c3 c0
  go_wp2_with fail
  rw[<-G]
  exact bodyPost_ret (v:=.tuple #[no2,ev]) (by simp[results,Tryz.results17,go_sem,no2,f0,f1]) rfl HR.out
 |none =>
  have a5:=e3.out.2
  rw[a8]at a5
  obtain rfl:ev=.nilIface:=a5
  have g6:Hid (Tp.check m (Tp.seenW ofS P)=none):=by show _=_;rw[<-h5.out];exact a8
  have c5:=zh a8
  clear a8
  by_cases t6:L.length<10
  rotate_left
  ·have n2:L.length=10:=by omega
   obtain⟨na,nc,b9⟩:=zw a4.out.nm
   have k0:f.cell? ⟨d,0,none⟩=some (.slice na 10 nc):=by
    rw[(za ((U.out.block d h3).trans n0.out)).trans rfl,b9,n2]
    rfl
   have o0:d<f.heap.size:=by have:=U.out.size;omega
   clear b9
   have J:=(U.out.block _ (show w.heap.size+1<W.heap.size by have:=a7.out;omega)).trans f8.out
   have e0:f.cell? ⟨w.heap.size+1,0,none⟩=some (.int .i64 0):=(za J).trans rfl
   have m1:f.cell? ⟨w.heap.size+1,1,none⟩=some (.slice none 0 0):=(za J).trans rfl
   have ez:∀j,f.frozen? ⟨w.heap.size+1,j,none⟩=false:=fun j=>zi J
   have m3:=zf J
   have T:=zu 1 (.slice none 0 0) (zu 0 (.int .i64 0) J)
   obtain⟨k,G⟩:∃k,k=(f.setCell ⟨w.heap.size+1,0,none⟩ (.int .i64 0)).setCell ⟨w.heap.size+1,1,none⟩ (.slice none 0 0):=⟨_,rfl⟩
   have f0:k.cell? ⟨w.heap.size+1,0,none⟩=some (.int .i64 0):=by rw[G];exact(za T).trans rfl
   have f1:k.cell? ⟨w.heap.size+1,1,none⟩=some (.slice none 0 0):=by rw[G];exact(za T).trans rfl
   have HR:Hid (LoadQ X (Mut L d H N) c w d a (.returned (.tuple #[no2,.iface 44 (.int .i64 12)])) k):=by
    have hx:Ext (w.heap.size+1) f k:=by rw[G];exact((Ext.refl _ _).set 0 _).set 1 _
    have l:Below w.heap.size w k:=by
     rw[G]
     exact zq (zq (b6.out.trans (U.out.mono (by have:=a7.out;omega))) (by omega) 0 _) (by omega) 1 _
    exact h7.out _ _ _ (s7.out c5.out (by have:=i8.out;omega)) l (rfl)
   clear J T c2 c3 c0
   go_wp2_with fail
   rw[<-G]
   exact bodyPost_ret (v:=.tuple #[no2,.iface 44 (.int .i64 12)]) (by simp[results,Tryz.results17,go_sem,no2,f0,f1]) rfl HR.out
  have a3:Hid (Below w.heap.size w f):=b6.out.trans (U.out.mono (by omega))
  have e5:=(U.out.block d h3).trans n0.out
  obtain⟨na,nc,b9⟩:=zw a4.out.nm
  have k0:f.cell? ⟨d,0,none⟩=some (.slice na L.length nc):=by
   rw[(za e5).trans rfl,b9]
   rfl
  have i1:Hid (MB f f.heap.size m u E t r y C A s):=m2.out.up a3.out
  have m8:(m.vars.map (·.name)).Nodup:=by
   have h1:Tp.WI ofS (P++[⟨m,Tp.fresh m⟩]):=Tp.WI.add (q:=⟨m,Tp.fresh m⟩) i6.out i0.out g6.out
   exact(h1.fit jx (m:=m) (by simp[Tp.ms]) HM.out).vn
  have m9:Hid (Calls Tryz.prog 39 #[.agg #[.string Y,.slice u il y,.slice E gl C,.slice t pl A,.slice r bl s]] f (FreshP f m u E t r y C A s)):=by
   have:=xv i1.out HM.out m8
   unfold mcells at this
   rw[<-o7.out,<-HQ.out.1,<-HQ.out.2.1,<-HQ.out.2.2.1,<-HQ.out.2.2.2]at this
   exact this
  obtain⟨s0,s1,s2,s3,s4⟩:=f2.out
  have o0:d<f.heap.size:=zf e5
  have t0:¬(L.length:Int)=10:=by omega
  clear e5 c2 c3 c0 f2 b9 m8
  generalize m5:L.length=ln at *
  have f4:=zh m5
  clear m5
  go_wp2_with fail
  refine m9.out.mono ?_
  rintro e w6⟨a9,B,vb,sl,rfl,d8,d3,d7,K,d0,d5⟩
  obtain⟨w7,d1⟩:∃w7,w7=w6.alloc (.cells #[.pointer (some ⟨B,0,none⟩)] 88):=⟨_,rfl⟩
  have a1:Below w6.heap.size w6 w7:=by rw[d1];exact zb _ _
  have c4:w7.cell? ⟨w6.heap.size,0,none⟩=some (.pointer (some ⟨B,0,none⟩)):=by rw[d1];exact(za (zo w6 _)).trans rfl
  have t4:=a9.size
  have g9:Hid (Below w.heap.size w w7):=(a3.out.trans (a9.mono a3.out.size)).trans (a1.mono (by have:=a3.out.size;omega))
  have h6:Hid (Calls Tryz.prog 40 #[.pointer (some ⟨d,0,none⟩),.pointer (some ⟨B,0,none⟩)] w7 fun e w'=>e=.returned (.tuple #[])/\∃a2 a6,AddA c w7 d B m.name L N H w' a2 a6):=by
   refine add_gen (a4.out.on g9.out) (by rw[f4.out];omega) ((a1.block B (zf K)).trans K) (fun q=>?_) (by have:=zQ HM.out.n;omega) (fun tb e=>?_) hc
   ·have:=(a4.out.mlt q).1;have:=a3.out.size;omega
   ·obtain⟨n,q1,q2⟩:=p5.out tb e;exact⟨n,q1,q2.on (g9.out.block _ q2.lt)⟩
  have HX:=zh (And.intro a9 (And.intro d8 (And.intro d3 (And.intro d7 (And.intro K (And.intro d0 (And.intro d5 (And.intro a1 c4))))))))
  clear a9 d8 d3 d7 K d0 d5 a1 s0 s1 s2 s3 s4 k0
  go_upto_region 9 with fail
  rw[<-d1]
  clear d1
  go_wp2_with fail
  refine h6.out.mono ?_
  rintro e Q⟨rfl,a2,a6,b3⟩
  have m6:Hid (Calls Tryz.prog 41 #[.pointer (some ⟨d,0,none⟩),.int .i64 (fuel:Int),.func (.func 42) #[] #[.pointer (some ⟨w6.heap.size,0,none⟩),.pointer (some ⟨w.heap.size,0,none⟩)]] Q fun e w9=>∃R Z,e=.returned (.agg #[.int .i64 (a.e.way:Int),.slice R a.e.out.length Z])/\w9.heap[w.heap.size+1]?=some (.cells #[.int .i64 0,.slice none 0 0] 43 (0,0))/\∀b7,Ext (w.heap.size+1) w9 b7->LoadQ X (Mut L d H N) c w d a (.returned (.tuple #[.agg #[.int .i64 (a.e.way:Int),.slice R a.e.out.length Z],.nilIface])) b7):=by
   obtain⟨a9,d8,d3,d7,K,d0,d5,a1,c4⟩:=HX.out
   have g4:=U.out.size
   have f9:=a7.out
   have t7:=a1.size
   have n3:MD f (fun b=>D b/\b<w.heap.size) m u E t r y C A s:=r0.out.mono (fun b l S=>⟨a3.out.block b S,l,S⟩)
   have n5:WX (fun b=>X b\/b=w.heap.size+1) f d L P N H:=(a4.out.more a3.out).less (fun b q=>q.imp id (fun z=>by omega))
   obtain⟨V,s9,n6,p8⟩:=ww_add HM.out n5 (fun b q=>by
    rcases q with q|q
    ·have:=o8.out b q;omega
    ·omega) i6.out i0.out g6.out n3 (fun b l S=>⟨fun q=>by
     rcases q with q|q
     ·exact(HD.out b l.1 l.2).1 q
     ·omega,(HD.out b l.1 l.2).2⟩) a9 d8 d3 K d0 d5 a1 hc b3
   have n1:(⟨m,B,vb,sl⟩:Lo)∈L++[(⟨m,B,vb,sl⟩:Lo)]:=by simp
   have d9:∀b,w.heap.size<=b->¬Mut L d H N b:=fun b l q=>by have:=(a4.out.mlt q).1;omega
   have e6:∀b,b<w7.heap.size->w.heap.size<=b->Q.heap[b]?=w7.heap[b]?:=fun b l S=>b3.block b l (fun e=>d9 b S (Or.inr (Or.inl e))) (fun e=>d9 b S (Or.inr (Or.inr (Or.inl e)))) (fun e=>d9 b S (Or.inr (Or.inr (Or.inr e))))
   have g8:∀b,b<f.heap.size->w.heap.size<=b->Q.heap[b]?=f.heap[b]?:=fun b l S=>((e6 b (by omega) S).trans (a1.block b (by omega))).trans (a9.block b l)
   have o2:Q.heap[B]?=some (.cells (lcells m u E t r y C A s vb) 107 (0,0)):=((e6 B (by have:=zf K;omega) (by omega)).trans (a1.block B (zf K))).trans K
   have p0:Q.heap[w.heap.size]?=some (.cells #[.string Y,.slice u il y,.slice E gl C,.slice t pl A,.slice r bl s] 36 (0,0)):=((g8 w.heap.size (by omega) (by omega)).trans (U.out.block w.heap.size (by omega))).trans b2.out
   have p4:Q.heap[w.heap.size+1]?=some (.cells #[.int .i64 0,.slice none 0 0] 43 (0,0)):=((g8 _ (by omega) (by omega)).trans (U.out.block _ (by omega))).trans f8.out
   have s8:Q.cell? ⟨w6.heap.size,0,none⟩=some (.pointer (some ⟨B,0,none⟩)):=(World.cell?_of_block (w:=w7) (e6 w6.heap.size (zg c4) (by omega))).trans c4
   have p9:Q.cell? ⟨w.heap.size,4,none⟩=some (.slice r bl s):=(za p0).trans rfl
   have o5:=ss_body V hf n1 o2
   have r9:=load1_post (gas:=Tp.gasOf (P++[⟨m,Tp.fresh m⟩]) m.body fuel) V hf n1 s8 p9 (by rw[HQ.out.2.2.2];exact o5) Tp.goS_enough
   have p6:=vS (caps:=#[.pointer (some ⟨w6.heap.size,0,none⟩),.pointer (some ⟨w.heap.size,0,none⟩)]) cf_load ((za V.blk).trans rfl) r9
   refine p6.mono ?_
   intro e w9 hG
   obtain⟨R,Z,he,n9,o9⟩:=gone V hf hG
   have g3:=r1.out c5.out (by have:=i8.out;have:=f4.out;omega)
   have e9:a.e=(Tp.endOf (Tp.goS (Tp.gasOf (P++[⟨m,Tp.fresh m⟩]) m.body fuel) 0 m.name (fun _=>none) m.body ⟨P++[⟨m,Tp.fresh m⟩],fuel,[]⟩)).2:=by rw[g3]
   have p7:a.w=(Tp.endOf (Tp.goS (Tp.gasOf (P++[⟨m,Tp.fresh m⟩]) m.body fuel) 0 m.name (fun _=>none) m.body ⟨P++[⟨m,Tp.fresh m⟩],fuel,[]⟩)).1:=by rw[g3]
   have n8:a.err=none:=by rw[g3]
   have r5:e=.returned (.agg #[.int .i64 (a.e.way:Int),.slice R a.e.out.length Z]):=by rw[e9];exact he
   have F:GonP (fun b=>X b\/b=w.heap.size+1) Q d (L++[⟨m,B,vb,sl⟩]) a6 a2 a.w a.e.out R w9:=by rw[e9,p7];exact o9
   have n4:¬VLo (L++[⟨m,B,vb,sl⟩]) (w.heap.size+1):=fun q=>(V.sv _ q).2 (Or.inr rfl)
   have h8:=b3.size
   refine⟨R,Z,r5,(F.keep _ (by omega) n4).trans p4,fun b7 a0=>?_⟩
   have h9:=F.size
   have t2:=a0.size
   have g5:WW X b7 d (L++[⟨m,B,vb,sl⟩]) a.w a6 a2:=(F.ww.keep (fun b l hX hv=>a0.block b l (fun e=>hX (Or.inr e))) a0.size (fun lo S=>by
    obtain⟨p,p1,p2,p3⟩:=F.ww.vals lo S
    exact⟨p,p1,p2,fun g hg=>⟨(p3 g hg).1,(a0.block _ (zf (p3 g hg).2.1) (fun e=>(F.ww.sv _ ⟨lo,S,g,hg,rfl⟩).2 (Or.inr e))).trans (p3 g hg).2.1,(p3 g hg).2.2⟩⟩) F.ww.mw).less (fun b l=>Or.inl l)
   refine⟨R,Z,.nilIface,rfl,by rw[e9];exact n9,⟨⟨Mut (L++[⟨m,B,vb,sl⟩]) d (some a2) a6,⟨L++[⟨m,B,vb,sl⟩],a6,some a2,(show WX X b7 d (L++[⟨m,B,vb,sl⟩]) a.w a6 (some a2) from g5),by simp;have:=f4.out;omega,o1.out,fun b=>Iff.rfl,(fun tb e=>?_),fun x hx=>?_⟩,?_⟩,⟨fun i hi=>?_⟩,F.oi,F.ol,fun x hx=>by have:=F.far x hx;omega⟩,by unfold EvT;rw[n8]⟩
   ·cases e
    obtain⟨n,q1,q2⟩:=n6 a2 rfl
    refine⟨n,q1,q2.on ?_⟩
    have o6:=q2.lt
    exact(a0.block _ (by omega) (fun e=>V.tx.1 (Or.inr e))).trans (F.keep _ o6 V.tx.2.2)
   ·rw[g5.mw,List.map_append,<-a4.out.mw]at hx
    rcases List.mem_append.1 hx with q|q
    ·exact s5.out x q
    ·have q':x=m:=by simpa using q
     rw[q']
     exact r6.out
   ·have b0:Tr (Mut L d H N) (Mut (L++[⟨m,B,vb,sl⟩]) d (some a2) a6) w Q:=Tr.ahead a3.out p8
    refine⟨((a0.os.trans F.os).trans b0.os),((a0.tape.trans F.tape).trans b0.tape),((a0.output.trans F.output).trans b0.output),by omega,fun b l hu=>?_,b0.more⟩
    refine((a0.block b (by omega) (by omega)).trans (F.keep b (by omega) (fun q=>?_))).trans (b0.block b l hu)
    rcases b0.more b (Or.inl q) with z|z
    ·exact hu z
    ·omega
   ·obtain⟨b,o,q1,q2,q3⟩:=F.it.c i hi
    have t1:Q.heap.size<=b:=F.far _ q1
    exact⟨b,o,q1,by omega,(World.cell?_of_block (w:=w9) (a0.block b q2 (by omega))).trans q3⟩
  have t3:d<Q.heap.size:=zf b3.blk
  clear b3 h6 HX m9 i1
  go_wp2_with fail
  refine m6.out.mono ?_
  rintro e w9⟨R,Z,rfl,b1,h4⟩
  have e0:w9.cell? ⟨w.heap.size+1,0,none⟩=some (.int .i64 0):=(za b1).trans rfl
  have m1:w9.cell? ⟨w.heap.size+1,1,none⟩=some (.slice none 0 0):=(za b1).trans rfl
  have ez:∀j,w9.frozen? ⟨w.heap.size+1,j,none⟩=false:=fun j=>zi b1
  have m3:=zf b1
  have T:=zu 1 (.slice R a.e.out.length Z) (zu 0 (.int .i64 (a.e.way:Int)) b1)
  obtain⟨k,G⟩:∃k,k=(w9.setCell ⟨w.heap.size+1,0,none⟩ (.int .i64 (a.e.way:Int))).setCell ⟨w.heap.size+1,1,none⟩ (.slice R a.e.out.length Z):=⟨_,rfl⟩
  have f0:k.cell? ⟨w.heap.size+1,0,none⟩=some (.int .i64 (a.e.way:Int)):=by rw[G];exact(za T).trans rfl
  have f1:k.cell? ⟨w.heap.size+1,1,none⟩=some (.slice R a.e.out.length Z):=by rw[G];exact(za T).trans rfl
  have HR:=zh (h4 k (by rw[G];exact((Ext.refl _ _).set 0 _).set 1 _))
  clear b1 T h4 m6
  go_wp2_with fail
  rw[<-G]
  exact bodyPost_ret (v:=.tuple #[.agg #[.int .i64 (a.e.way:Int),.slice R a.e.out.length Z],.nilIface]) (by simp[results,Tryz.results17,go_sem,f0,f1]) rfl HR.out
def ErrC (w:World) (er:Int) (e:Ending) (w':World):Prop:=Below w.heap.size w w'/\e=.returned (.tuple #[no2,.int .i64 0,.iface 44 (.int .i64 er)])
theorem kP {w a V:World}{er:Int}(h:Below w.heap.size w a)(k:a.heap.size=w.heap.size+5)(g:a.heap[w.heap.size+2]?=some (.cells #[.int .i64 0,.slice none 0 0] 43 (0,0)))(f:a.heap[w.heap.size+3]?=some (.cells #[.int .i64 0] 2 (0,0)))(d:Below a.heap.size a V) :
  V.cell? ⟨w.heap.size+2,0,none⟩=some (.int .i64 0)/\V.cell? ⟨w.heap.size+2,1,none⟩=some (.slice none 0 0)/\(∀j,V.frozen? ⟨w.heap.size+2,j,none⟩=false)/\(∀j,V.frozen? ⟨w.heap.size+3,j,none⟩=false)/\V.cell? ⟨w.heap.size+3,0,none⟩=some (.int .i64 0)/\w.heap.size+2<V.heap.size/\w.heap.size+3<V.heap.size /\
  ∃w11,w11=((V.setCell ⟨w.heap.size+2,0,none⟩ (.int .i64 0)).setCell ⟨w.heap.size+2,1,none⟩ (.slice none 0 0)).setCell ⟨w.heap.size+3,0,none⟩ (.int .i64 0)/\w11.cell? ⟨w.heap.size+2,0,none⟩=some (.int .i64 0)/\w11.cell? ⟨w.heap.size+2,1,none⟩=some (.slice none 0 0)/\w11.cell? ⟨w.heap.size+3,0,none⟩=some (.int .i64 0)/\Hid (ErrC w er (.returned (.tuple #[no2,.int .i64 0,.iface 44 (.int .i64 er)])) w11):=by
 have b:=(d.block _ (zf g)).trans g
 have c:=(d.block _ (zf f)).trans f
 have e:(((V.setCell ⟨w.heap.size+2,0,none⟩ (.int .i64 0)).setCell ⟨w.heap.size+2,1,none⟩ (.slice none 0 0)).setCell ⟨w.heap.size+3,0,none⟩ (.int .i64 0)).heap[w.heap.size+2]?=some (.cells #[.int .i64 0,.slice none 0 0] 43 (0,0)):=(zx _ (by omega)).trans (zu 1 (.slice none 0 0) (zu 0 (.int .i64 0) b))
 have i:(((V.setCell ⟨w.heap.size+2,0,none⟩ (.int .i64 0)).setCell ⟨w.heap.size+2,1,none⟩ (.slice none 0 0)).setCell ⟨w.heap.size+3,0,none⟩ (.int .i64 0)).heap[w.heap.size+3]?=some (.cells #[.int .i64 0] 2 (0,0)):=zu 0 (.int .i64 0) ((zx _ (by omega)).trans ((zx _ (by omega)).trans c))
 refine⟨(za b).trans rfl,(za b).trans rfl,fun j=>zi b,fun j=>zi c,(za c).trans rfl,zf b,zf c,_,rfl,(za e).trans rfl,(za e).trans rfl,(za i).trans rfl,?_,rfl⟩
 exact zq (zq (zq (h.trans (d.mono (by omega))) (by omega) 0 _) (by omega) 1 _) (by omega) 0 _
theorem call_noM {X:Nat->Prop}{w:World}{j fuel d ac:Nat}{f:Option Addr}{L:List Lo}{P:List Pt}{R:Value}{m:Option Nat}{md nm:Bs}(h:WX X w j L P R m)(z:md.length<=1000000)(_:d<=1000000)(p:ptrV L md=none) :
  Calls Tryz.prog 27 #[.pointer (some ⟨j,0,none⟩),.string (bs md),.string (bs nm),.slice f d ac,.int .i64 (fuel:Int)] w (ErrC w 7):=by
 obtain⟨a,c⟩:∃a,a=(((w.alloc (.cells #[.string (bs nm)] 9)).alloc (.cells #[.slice f d ac] 29)).alloc (.cells #[.int .i64 0,.slice none 0 0] 43)).alloc (.cells #[.int .i64 0] 2):=⟨_,rfl⟩
 obtain⟨b,g⟩:∃b,b=a.alloc (.cells #[.pointer none] 88):=⟨_,rfl⟩
 have r:a.heap.size=w.heap.size+4:=by rw[c];simp
 have i:Below w.heap.size w a:=by rw[c];exact(((zb _ _).alloc (by simp) _).alloc (by simp;omega) _).alloc (by simp;omega) _
 have e:Below a.heap.size a b:=by rw[g];exact zb _ _
 have q:Below w.heap.size w b:=i.trans (e.mono (by omega))
 have G:b.heap.size=w.heap.size+5:=by rw[g];simp[r]
 have l:a.heap[w.heap.size]?=some (.cells #[.string (bs nm)] 9 (0,0)):=by rw[c];exact(((Below.heap_alloc _ _ _ (by simp;omega)).trans (Below.heap_alloc _ _ _ (by simp;omega))).trans (Below.heap_alloc _ _ _ (by simp))).trans (zo _ _)
 have k:a.heap[w.heap.size+1]?=some (.cells #[.slice f d ac] 29 (0,0)):=by
  have:=zo (w.alloc (.cells #[.string (bs nm)] 9)) (.cells #[.slice f d ac] 29)
  rw[c];exact((Below.heap_alloc _ _ _ (by simp)).trans (Below.heap_alloc _ _ _ (by simp))).trans (by simpa using this)
 have o:a.heap[w.heap.size+2]?=some (.cells #[.int .i64 0,.slice none 0 0] 43 (0,0)):=by
  have:=zo ((w.alloc (.cells #[.string (bs nm)] 9)).alloc (.cells #[.slice f d ac] 29)) (.cells #[.int .i64 0,.slice none 0 0] 43)
  rw[c];exact(Below.heap_alloc _ _ _ (by simp)).trans (by simpa using this)
 have n:a.heap[w.heap.size+3]?=some (.cells #[.int .i64 0] 2 (0,0)):=by
  have:=zo (((w.alloc (.cells #[.string (bs nm)] 9)).alloc (.cells #[.slice f d ac] 29)).alloc (.cells #[.int .i64 0,.slice none 0 0] 43)) (.cells #[.int .i64 0] 2)
  rw[c];simpa using this
 have s:b.heap[w.heap.size+4]?=some (.cells #[.pointer none] 88 (0,0)):=by
  have:=zo a (.cells #[.pointer none] 88)
  rw[r]at this
  rw[g];exact this
 have t:=(e.block _ (zf l)).trans l
 have u:=(e.block _ (zf k)).trans k
 have x:=(e.block _ (zf o)).trans o
 have y:=(e.block _ (zf n)).trans n
 have C:=zf h.blk
 have O:a.cell? ⟨j,1,none⟩=some (.map m):=(za ((i.block _ C).trans h.blk)).trans rfl
 have D:(Instr.lookup 26 (.map m) (.string (bs md)) false).run Tryz.prog a=.ok (.pointer none) a:=by
  have:=(h.on i).look md z
  rw[p]at this
  exact this
 have Z:b.cell? ⟨w.heap.size+4,0,none⟩=some (.pointer none):=(za s).trans rfl
 have N:b.cell? ⟨w.heap.size,0,none⟩=some (.string (bs nm)):=(za t).trans rfl
 have U:w.heap.size+4<b.heap.size:=by omega
 have T:w.heap.size<b.heap.size:=by omega
 have S:j<a.heap.size:=by omega
 have H:=zh u
 have F:=zh x
 have B:=zh y
 have I:=zh q
 have E:=zh G
 clear l k o n s t u x y i e q p h H N
 generalize bs md=lmn at *
 generalize bs nm=pnm at *
 go_enter Tryz.func27,Tryz.ntmps27
 go_upto_region 1 with fail
 rw[<-c]
 clear c
 go_upto_region 2 with fail
 rw[<-g,show w.heap.size+1+1+1=w.heap.size+3 from rfl,show w.heap.size+1+1=w.heap.size+2 from rfl]
 clear g D O
 obtain⟨e0,e1,ez,nz,n0,Y,W,V,A,J,Q,K,M⟩:=kP (er:=7) I.out E.out F.out B.out (Below.refl b.heap.size b)
 go_wp2_with fail
 rw[<-A]
 exact bodyPost_ret (v:=.tuple #[no2,.int .i64 0,.iface 44 (.int .i64 7)]) (by simp[results,Tryz.results27,go_sem,no2,J,Q,K]) rfl M.out
theorem uY {X:Nat->Prop}{w:World}{F fuel c ac:Nat}{j:Option Addr}{L:List Lo}{P:List Pt}{nv:Value}{R:Option Nat}{md nm:Bs}(h:WX X w F L P nv R)(a9:md.length<=1000000)(_:c<=1000000){lo:Lo}(O:lo∈L)(a0:ptrV L md=some ⟨lo.lb,0,none⟩){er:Int}(hp:(Tp.procIn lo.m nm=none/\er=7)\/∃p,Tp.procIn lo.m nm=some p/\(p.seen=false/\er=7\/p.seen=true/\c≠p.params.length/\er=2)) :
  Calls Tryz.prog 27 #[.pointer (some ⟨F,0,none⟩),.string (bs md),.string (bs nm),.slice j c ac,.int .i64 (fuel:Int)] w (ErrC w er):=by
 obtain⟨a,g⟩:∃a,a=(((w.alloc (.cells #[.string (bs nm)] 9)).alloc (.cells #[.slice j c ac] 29)).alloc (.cells #[.int .i64 0,.slice none 0 0] 43)).alloc (.cells #[.int .i64 0] 2):=⟨_,rfl⟩
 obtain⟨b,t⟩:∃b,b=a.alloc (.cells #[.pointer (some ⟨lo.lb,0,none⟩)] 88):=⟨_,rfl⟩
 have a7:a.heap.size=w.heap.size+4:=by rw[g];simp
 have E:Below w.heap.size w a:=by rw[g];exact(((zb _ _).alloc (by simp) _).alloc (by simp;omega) _).alloc (by simp;omega) _
 have k:Below a.heap.size a b:=by rw[t];exact zb _ _
 have H:Below w.heap.size w b:=E.trans (k.mono (by omega))
 have b4:b.heap.size=w.heap.size+5:=by rw[t];simp[a7]
 have V:a.heap[w.heap.size]?=some (.cells #[.string (bs nm)] 9 (0,0)):=by rw[g];exact(((Below.heap_alloc _ _ _ (by simp;omega)).trans (Below.heap_alloc _ _ _ (by simp;omega))).trans (Below.heap_alloc _ _ _ (by simp))).trans (zo _ _)
 have Z:a.heap[w.heap.size+1]?=some (.cells #[.slice j c ac] 29 (0,0)):=by
  have:=zo (w.alloc (.cells #[.string (bs nm)] 9)) (.cells #[.slice j c ac] 29)
  rw[g];exact((Below.heap_alloc _ _ _ (by simp)).trans (Below.heap_alloc _ _ _ (by simp))).trans (by simpa using this)
 have q2:a.heap[w.heap.size+2]?=some (.cells #[.int .i64 0,.slice none 0 0] 43 (0,0)):=by
  have:=zo ((w.alloc (.cells #[.string (bs nm)] 9)).alloc (.cells #[.slice j c ac] 29)) (.cells #[.int .i64 0,.slice none 0 0] 43)
  rw[g];exact(Below.heap_alloc _ _ _ (by simp)).trans (by simpa using this)
 have Y:a.heap[w.heap.size+3]?=some (.cells #[.int .i64 0] 2 (0,0)):=by
  have:=zo (((w.alloc (.cells #[.string (bs nm)] 9)).alloc (.cells #[.slice j c ac] 29)).alloc (.cells #[.int .i64 0,.slice none 0 0] 43)) (.cells #[.int .i64 0] 2)
  rw[g];simpa using this
 have q4:b.heap[w.heap.size+4]?=some (.cells #[.pointer (some ⟨lo.lb,0,none⟩)] 88 (0,0)):=by
  have:=zo a (.cells #[.pointer (some ⟨lo.lb,0,none⟩)] 88)
  rw[a7]at this
  rw[t];exact this
 have p0:=(k.block _ (zf V)).trans V
 have p1:=(k.block _ (zf Z)).trans Z
 have p2:=(k.block _ (zf q2)).trans q2
 have p3:=(k.block _ (zf Y)).trans Y
 have b3:=zf h.blk
 have k1:a.cell? ⟨F,1,none⟩=some (.map R):=(za ((E.block _ b3).trans h.blk)).trans rfl
 have b0:(Instr.lookup 26 (.map R) (.string (bs md)) false).run Tryz.prog a=.ok (.pointer (some ⟨lo.lb,0,none⟩)) a:=by
  have:=(h.on E).look md a9
  rw[a0]at this
  exact this
 have W:b.cell? ⟨w.heap.size+4,0,none⟩=some (.pointer (some ⟨lo.lb,0,none⟩)):=(za q4).trans rfl
 have S:b.cell? ⟨w.heap.size,0,none⟩=some (.string (bs nm)):=(za p0).trans rfl
 have c1:w.heap.size+4<b.heap.size:=by omega
 have b9:w.heap.size<b.heap.size:=by omega
 have b6:F<a.heap.size:=by omega
 have s:=zh p1
 have G:=zh p2
 have I:=zh p3
 have N:=zh H
 have J:=zh b4
 obtain⟨tb,b5,a5⟩:=h.ww O
 have a2:=a5.more H
 obtain⟨⟨ia,ga,pa,ba,ic,gc,pc,bc,m1,m2⟩,_,_,_,a1⟩:=a2.lo lo O
 have D:=zh (rprocD m1 m2 (by have:=a1.wm.pc;omega) nm)
 have C:Hid (∀v,ProcP (cwF b) lo.m nm v->(v=none/\er=7)\/∃d o A x sn pn,v=some ⟨d,o,none⟩/\b.cell? ⟨d,o+2,none⟩=some (.bool sn)/\b.cell? ⟨d,o+3,none⟩=some (.slice A pn x)/\(sn=false/\er=7\/sn=true/\c≠pn/\er=2)):=by
  intro v f
  unfold ProcP at f
  rcases hp with⟨Q,U⟩|⟨p,Q,U⟩
  ·rw[Q]at f
   exact Or.inl ⟨f,U⟩
  ·rw[Q]at f
   obtain⟨d,o,e,q⟩:=f
   obtain⟨pv,vv,bv,b8,r1,r2,r3,r4,_⟩:=q.r
   obtain⟨A,x,rfl⟩:=r4.shape
   exact Or.inr ⟨d,o,A,x,p.seen,p.params.length,e,q.sn,r1,U⟩
 clear V Z q2 Y q4 p0 p1 p2 p3 E k H a0 b5 h O a5 a2 m1 m2 a1 hp
 generalize bs md=lmn at *
 generalize bs nm=pnm at *
 go_enter Tryz.func27,Tryz.ntmps27
 go_upto_region 1 with fail
 rw[<-g]
 clear g
 go_upto_region 2 with fail
 rw[<-t,show w.heap.size+1+1+1=w.heap.size+3 from rfl,show w.heap.size+1+1=w.heap.size+2 from rfl]
 clear t b0 k1
 go_wp2_with fail
 refine D.out.mono ?_
 rintro e l⟨v,rfl,f,i⟩
 have K:=zh i
 rcases C.out v f with⟨rfl,rfl⟩|⟨d,o,A,x,sn,pn,rfl,c2,c3,hs⟩
 ·clear f i W S D C s
  obtain⟨e0,e1,ez,nz,n0,a6,a4,a3,n,B,y,z,u⟩:=kP (er:=7) N.out J.out G.out I.out K.out
  go_wp2_with fail
  rw[<-n]
  exact bodyPost_ret (v:=.tuple #[no2,.int .i64 0,.iface 44 (.int .i64 7)]) (by simp[results,Tryz.results27,go_sem,no2,B,y,z]) rfl u.out
 ·have a8:l.cell? ⟨d,o+2,none⟩=some (.bool sn):=(i.cell (p:=⟨d,o+2,none⟩) (zg c2)).trans c2
  have b2:l.cell? ⟨d,o+3,none⟩=some (.slice A pn x):=(i.cell (p:=⟨d,o+3,none⟩) (zg c3)).trans c3
  have c4:d<l.heap.size:=zg a8
  rcases hs with⟨rfl,rfl⟩|⟨rfl,hne,rfl⟩
  ·clear f i c2 c3 W S D C s
   obtain⟨e0,e1,ez,nz,n0,a6,a4,a3,n,B,y,z,u⟩:=kP (er:=7) N.out J.out G.out I.out K.out
   go_wp2_with fail
   rw[<-n]
   exact bodyPost_ret (v:=.tuple #[no2,.int .i64 0,.iface 44 (.int .i64 7)]) (by simp[results,Tryz.results27,go_sem,no2,B,y,z]) rfl u.out
  ·have b7:¬(c:Int)=(pn:Int):=by omega
   have k8:l.cell? ⟨w.heap.size+1,0,none⟩=some (.slice j c ac):=(za ((i.block _ (zf s.out)).trans s.out)).trans rfl
   have c0:w.heap.size+1<l.heap.size:=zg k8
   clear f i c2 c3 W S D C s
   go_upto_region 7 with fail
   go_quiet (fail)
   obtain⟨T,M⟩:∃T,T=l.drewN nq:=⟨_,rfl⟩
   have b1:Hid (Below b.heap.size b T):=by rw[M];exact below_drewN K.out _
   rw[<-M]
   clear M a8 b2 k8
   obtain⟨e0,e1,ez,nz,n0,a6,a4,a3,n,B,y,z,u⟩:=kP (er:=2) N.out J.out G.out I.out b1.out
   go_wp2_with fail
   rw[<-n]
   exact bodyPost_ret (v:=.tuple #[no2,.int .i64 0,.iface 44 (.int .i64 2)]) (by simp[results,Tryz.results27,go_sem,no2,B,y,z]) rfl u.out
def CallQ (X U:Nat->Prop) (c:Nat) (w:World) (wb:Nat) (a:Tp.Ans) (e:Ending) (w':World):Prop:=∃oa oc ev,e=.returned (.tuple #[.agg #[.int .i64 (a.e.way:Int),.slice oa a.e.out.length oc],.int .i64 a.n,ev])/\AnsP X U c w wb a oa w'/\EvT w.heap.size w' a.err ev
theorem vw {m:Tp.M}{nm:Bs}(c:(m.procs.map (·.name)).Nodup):(m.procs.find? fun q=>q.name==nm&&q.seen)=(Tp.procIn m nm).bind fun p=>if p.seen then some p else none:=by
 unfold Tp.procIn
 generalize m.procs=l at *
 induction l with
 |nil=>rfl
 |cons q t ih =>
  rw[List.map_cons,List.nodup_cons]at c
  by_cases e:q.name=nm
  ·rw[List.find?_cons_of_pos (a:=q) (p:=fun q=>q.name==nm) (by simpa using e)]
   simp only[Option.bind_some]
   by_cases b:q.seen=true
   ·rw[List.find?_cons_of_pos (by simp[e,b]),if_pos b]
   ·rw[List.find?_cons_of_neg (by simp[b]),if_neg b,List.find?_eq_none]
    intro x f d
    simp only[Bool.and_eq_true,beq_iff_eq]at d
    exact c.1 (List.mem_map.2 ⟨x,f,d.1.trans e.symm⟩)
  ·rw[List.find?_cons_of_neg (by simp[e]),List.find?_cons_of_neg (by simpa using e)]
   exact ih c.2
theorem call_any {X U:Nat->Prop}{c:Nat}{w:World}{s fuel ac:Nat}{F:Option Addr}{P:List Pt}{md nm:Bs}{vs:List Int}(h:WZ X U c w s P)(hf:fuel<=800000)(i:md.length<=1000000)(K:∀v∈vs,Tp.I64 v)(O:IntsAt w vs F)(o:vs.length<=1000000) :
  Calls Tryz.prog 27 #[.pointer (some ⟨s,0,none⟩),.string (bs md),.string (bs nm),.slice F vs.length ac,.int .i64 (fuel:Int)] w (CallQ X U c w s (Tp.callW P md nm vs fuel)):=by
 obtain⟨L,nv,tv,a,hL,S,H,J,Q⟩:=id h
 have r:∀er:Nat,(∀e w',ErrC w (er:Int) e w'->CallQ X U c w s ⟨P,Tp.no,0,some (er,none)⟩ e w'):=fun er e w' q=>⟨none,0,_,q.2,yW h q.1,rfl⟩
 have e7:((7:Nat):Int)=7:=rfl
 have e2:((2:Nat):Int)=2:=rfl
 unfold Tp.callW
 rcases jl a md with⟨l,k⟩|⟨p,lo,hlo,l,hpm,hlm,k⟩
 ·rw[l]
  exact(call_noM a i o k).mono (fun e w' q=>r 7 e w' q)
 ·rw[l]
  obtain⟨E,rfl,t⟩:=a.ww hlo
  have A:=(t.lo lo hlo).2.2.2.2
  simp only[Option.bind_some]
  rw[hpm,vw A.pn]
  cases d:Tp.procIn lo.m nm with
  |none=>exact(uY a i o hlo k (er:=7) (Or.inl ⟨d,rfl⟩)).mono (fun e w' q=>r 7 e w' q)
  |some pr =>
   simp only[Option.bind_some]
   have I:pr∈lo.m.procs:=List.mem_of_find?_eq_some d
   by_cases g:pr.seen=true
   ·rw[if_pos g]
    simp only
    by_cases j:pr.params.length=vs.length
    ·rw[if_neg (by simpa using j)]
     have R:SizeOf.sizeOf pr.body<=Tp.bodySz P:=Tp.bodySz_bd P 0 [] p (List.mem_of_find?_eq_some l) pr (by rw[hpm];exact I)
     have Z:=Tp.callP_enough (fuel:=fuel) (md:=md) (vs:=vs) (out:=[]) R
     have y:=call_ok (ac:=ac) (gas:=Tp.nd (Tp.bodySz P) fuel 0) t hf hlo d g j.symm K O (by rw[hlm];exact i) o (by rw[hlm];exact Z)
     have B:=Tp.WI.call (md:=md) (pn:=nm) (args:=vs) (f:=fuel) S
     have M:(Tp.callW P md nm vs fuel).w=(Tp.endOf (Tp.callP (Tp.nd (Tp.bodySz P) fuel 0) 0 md pr vs ⟨P,fuel,[]⟩)).1:=by
      unfold Tp.callW
      rw[l]
      simp only[Option.bind_some]
      rw[hpm,vw A.pn,d]
      simp only[Option.bind_some]
      rw[if_pos g]
      simp only
      rw[if_neg (by simpa using j)]
     rw[M]at B
     rw[hlm]at y
     refine y.mono ?_
     rintro e w'⟨V,oc,T,C,q2,q3,D,q5,q6,Y,q8,q9,N⟩
     refine⟨V,oc,.nilIface,?_,⟨⟨U,⟨L,nv,some E,C,hL,B,H,(fun a0 e'=>?_),fun x W=>Q x (by rw[a.mw,<-C.mw];exact W)⟩,⟨q6,Y,q8,q5,fun b u hu=>D b u (fun z=>hu ((H b).2 (Or.inl z))),fun b u=>Or.inl u⟩⟩,q2,q3,q9,N⟩,rfl⟩
     ·rw[T]
      unfold nOf
      cases Tp.callP (Tp.nd (Tp.bodySz P) fuel 0) 0 md pr vs ⟨P,fuel,[]⟩<;>rfl
     ·cases e'
      obtain⟨n,r1,G⟩:=J E rfl
      exact⟨n,by omega,G.on (D _ G.lt t.tx.2.2)⟩
    ·rw[if_pos (by simpa using j)]
     exact(uY a i o hlo k (er:=2) (Or.inr ⟨pr,d,Or.inr ⟨g,fun e=>j e.symm,rfl⟩⟩)).mono (fun e w' q=>r 2 e w' q)
   ·rw[if_neg g]
    exact(uY a i o hlo k (er:=7) (Or.inr ⟨pr,d,Or.inl ⟨by simpa using g,rfl⟩⟩)).mono (fun e w' q=>r 7 e w' q)
theorem WZ.eqU {X U:Nat->Prop}{c:Nat}{w:World}{e:Nat}{P:List Pt}(h:WZ X U c w e P):∃L d a,U=Mut L e a d/\WX X w e L P d a/\L.length<=10/\Tp.WI ofS P/\MapC w a L c/\∀m∈Tp.ms P,Tp.nM m<=1000:=by
 obtain⟨L,d,a,k,f,i,g,j,l⟩:=h
 exact⟨L,d,a,funext fun b=>propext (g b),k,f,i,j,l⟩
theorem vJ {X U D:Nat->Prop}{c:Nat}{w:World}{a fuel:Nat}{P:List Pt}{m:Tp.M}{f n o i:Option Addr}{g d j l:Nat}(h:WZ X U c w a P)(N:∀b,X b->b<w.heap.size)(R:c<=90)(u:MB w w.heap.size m f n o i g d j l)(I:MD w D m f n o i g d j l)(O:∀b,D b->b<w.heap.size->¬X b/\¬U b)(x:Tp.WM m)(F:Tp.nM m<=1000)(Q:fuel<=800000) :
  Calls Tryz.prog 17 #[.pointer (some ⟨a,0,none⟩),.agg (mcells (bs m.name) (.slice f m.imports.length g) (.slice n m.vars.length d) (.slice o m.procs.length j) (.slice i m.body.length l)),.int .i64 (fuel:Int)] w (LoadQ X U c w a (Tp.loadW ofS P m fuel)):=by
 have C:∀er:Nat×Option Nat,(∀e w',ErrP w er e w'->LoadQ X U c w a ⟨P,Tp.no,0,some er⟩ e w'):=fun er e w' q=>by
  obtain⟨S,v,K,H⟩:=q
  exact⟨none,0,v,K,Nat.le_refl _,yW h S,H⟩
 obtain⟨L,A,z,rfl,t,y,J,E,G⟩:=h.eqU
 have B:∀v,Tp.loadW ofS P m fuel=v->Calls Tryz.prog 17 #[.pointer (some ⟨a,0,none⟩),.agg (mcells (bs m.name) (.slice f m.imports.length g) (.slice n m.vars.length d) (.slice o m.procs.length j) (.slice i m.body.length l)),.int .i64 (fuel:Int)] w (LoadQ X (Mut L a z A) c w a v)->Calls Tryz.prog 17 #[.pointer (some ⟨a,0,none⟩),.agg (mcells (bs m.name) (.slice f m.imports.length g) (.slice n m.vars.length d) (.slice o m.procs.length j) (.slice i m.body.length l)),.int .i64 (fuel:Int)] w (LoadQ X (Mut L a z A) c w a (Tp.loadW ofS P m fuel)):=fun v e k=>by rw[e];exact k
 rcases jl t m.name with⟨s,r⟩|⟨p,lo,hlo,s,hpm,hlm,r⟩
 ·exact loadA_ok t y u x N J E R I O Q G F s r
 ·have e:Tp.loadW ofS P m fuel=⟨P,Tp.no,0,some (9,none)⟩:=by
   unfold Tp.loadW
   rw[if_pos (by rw[s];rfl)]
  exact B _ e ((load_twice t y u x r).mono (fun e w' q=>C _ e w' q))
theorem swap_anyZ {X U D:Nat->Prop}{c:Nat}{w:World}{a:Nat}{P:List Pt}{m:Tp.M}{f n o i:Option Addr}{g d j l:Nat}(h:WZ X U c w a P)(Q:∀b,X b->b<w.heap.size)(S:c<=90)(u:MB w w.heap.size m f n o i g d j l)(K:MD w D m f n o i g d j l)(R:∀b,D b->b<w.heap.size->¬X b/\¬U b)(x:Tp.WM m)(H:Tp.nM m<=1000) :
  Calls Tryz.prog 18 #[.pointer (some ⟨a,0,none⟩),.agg (mcells (bs m.name) (.slice f m.imports.length g) (.slice n m.vars.length d) (.slice o m.procs.length j) (.slice i m.body.length l))] w (SwapQ X U c w a (Tp.swapW ofS P m)):=by
 have E:∀er:Nat×Option Nat,(∀e w',ErrS w er e w'->SwapQ X U c w a ⟨P,Tp.no,0,some er⟩ e w'):=fun er e w' q=>by
  obtain⟨A,v,O,J⟩:=q
  exact⟨v,O,⟨U,(h.on A).more (by omega),Tr.below A⟩,J⟩
 obtain⟨L,B,z,rfl,r,y,N,F,I⟩:=h.eqU
 have C:∀v,Tp.swapW ofS P m=v->Calls Tryz.prog 18 #[.pointer (some ⟨a,0,none⟩),.agg (mcells (bs m.name) (.slice f m.imports.length g) (.slice n m.vars.length d) (.slice o m.procs.length j) (.slice i m.body.length l))] w (SwapQ X (Mut L a z B) c w a v)->Calls Tryz.prog 18 #[.pointer (some ⟨a,0,none⟩),.agg (mcells (bs m.name) (.slice f m.imports.length g) (.slice n m.vars.length d) (.slice o m.procs.length j) (.slice i m.body.length l))] w (SwapQ X (Mut L a z B) c w a (Tp.swapW ofS P m)):=fun v e k=>by rw[e];exact k
 rcases jl r m.name with⟨t,s⟩|⟨p,lo,hlo,t,hpm,hlm,s⟩
 ·have e:Tp.swapW ofS P m=⟨P,Tp.no,0,some (7,none)⟩:=by unfold Tp.swapW;rw[t]
  exact C _ e ((swap_none r y u x s).mono (fun e w' q=>E _ e w' q))
 ·obtain⟨T,G,_⟩:=r.ww hlo
  exact swapN r y u x G Q F S K R H t hpm hlo hlm s N I
end Go.Proofs.YtibncofnnlbmcaaGreatDoor
