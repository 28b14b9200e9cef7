import Derived.Test.YtibncofnnlbmcaaGreatDoorKAa
import Derived.Test.YtibncofnnlbmcaaGreatDoorKAd
import Derived.Test.YtibncofnnlbmcaaGreatDoorKQi
set_option maxRecDepth 100000
set_option maxHeartbeats 4000000
namespace Go.Proofs.YtibncofnnlbmcaaGreatDoor
open Go.RowKit Go.Maps
open Tp (Bs X S G Pr Pt Rs Rr Own)
structure AnsP (X U:Nat->Prop) (c:Nat) (w:World) (wb:Nat) (a:Tp.Ans) (oa:Option Addr) (w':World):Prop where
 wz:∃U',WZ X U' (c+1) w' wb a.w/\Tr U U' w w'
 it:IntsAt w' a.e.out oa
 oi:∀v∈a.e.out,Tp.I64 v
 ol:a.e.out.length<=200
 far:∀x,oa=some x->w.heap.size<=x.block
def LoadQ (X U:Nat->Prop) (c:Nat) (w:World) (wb:Nat) (a:Tp.Ans) (e:Ending) (w':World):Prop:=∃oa oc ev,e=.returned (.tuple #[.agg #[.int .i64 (a.e.way:Int),.slice oa a.e.out.length oc],ev])/\a.e.out.length<=oc/\AnsP X U c w wb a oa w'/\EvT w.heap.size w' a.err ev
theorem yY {X U:Nat->Prop}{c:Nat}{w w':World}{b:Nat}{P:List Pt}{er:Nat×Option Nat}{n:Int}(h:WZ X U c w b P)(a:Below w.heap.size w w'):AnsP X U c w b ⟨P,Tp.no,n,some er⟩ none w' :=
 ⟨⟨U,(h.on a).more (by omega),Tr.below a⟩,⟨fun i d=>(by cases d)⟩,(fun v e=>(by cases e)),(by show (0:Nat)<=200;omega),fun x f=>(by cases f)⟩
theorem loadS_ok {P:List Pt}{m:Tp.M}{fuel:Nat}(a:Tp.partOf P m.name=none)(h:Tp.check m (Tp.seenW ofS P)=none)(b:P.length<10):Tp.loadW ofS P m fuel=⟨(Tp.endOf (Tp.goS (Tp.gasOf (P++[⟨m,Tp.fresh m⟩]) m.body fuel) 0 m.name (fun _=>none) m.body ⟨P++[⟨m,Tp.fresh m⟩],fuel,[]⟩)).1,(Tp.endOf (Tp.goS (Tp.gasOf (P++[⟨m,Tp.fresh m⟩]) m.body fuel) 0 m.name (fun _=>none) m.body ⟨P++[⟨m,Tp.fresh m⟩],fuel,[]⟩)).2,0,none⟩:=by
 unfold Tp.loadW
 rw[if_neg (by rw[a];simp),h]
 simp only
 rw[if_neg (by omega)]
theorem loadA_ok {X:Nat->Prop}{w:World}{d fuel:Nat}{L:List Lo}{P:List Pt}{N:Value}{H:Option Nat}{m:Tp.M}{y t C r:Option Addr}{A u E s:Nat}(h:WX X w d L P N H)(hL:L.length<=10)(m9:MB w w.heap.size m y t C r A u E s)(hm:Tp.WM m){D:Nat->Prop}{c:Nat}(hX:∀b,X b->b<w.heap.size)(c4:Tp.WI ofS P)(g0:MapC w H L c)(hc:c<=90)(b7:MD w D m y t C r A u E s)(hD:∀b,D b->b<w.heap.size->¬X b/\¬Mut L d H N b)(hf:fuel<=800000)(g1:∀x∈Tp.ms P,Tp.nM x<=9000)(n0:Tp.nM m<=9000)(b5:Tp.partOf P m.name=none)(h7:ptrV L m.name=none) :
  Calls Tryz.prog 17 #[.pointer (some ⟨d,0,none⟩),.agg (mcells (bs m.name) (.slice y m.imports.length A) (.slice t m.vars.length u) (.slice C m.procs.length E) (.slice r m.body.length s)),.int .i64 (fuel:Int)] w (LoadQ X (Mut L d H N) c w d (Tp.loadW ofS P m fuel)):=by
 have m3:P.length=L.length:=by have:=congrArg List.length h.mw;simpa[Tp.ms] using this
 have e4:Tp.WI ofS (Tp.loadW ofS P m fuel).w:=Tp.WI.load c4
 obtain⟨a,ha⟩:∃a,a=Tp.loadW ofS P m fuel:=⟨_,rfl⟩
 obtain⟨ck,b4⟩:∃ck,ck=Tp.check m (Tp.seenW ofS P):=⟨_,rfl⟩
 have o5:Hid (ck=none->P.length<10->a=_):=fun e1 e2=>ha.trans (loadS_ok (fuel:=fuel) b5 (b4.symm.trans e1) e2)
 have o3:Hid (∀er,ck=some er->a=⟨P,Tp.no,0,some er⟩):=fun er e=>by
  rw[ha]
  unfold Tp.loadW
  rw[if_neg (by rw[b5];simp),<-b4,e]
 have o4:Hid (ck=none->10<=P.length->a=⟨P,Tp.no,0,some (12,none)⟩):=fun e1 e2=>by
  rw[ha]
  unfold Tp.loadW
  rw[if_neg (by rw[b5];simp),<-b4,e1]
  exact if_pos e2
 have hz:WZ X (Mut L d H N) c w d P:=⟨L,N,H,h,hL,c4,fun b=>Iff.rfl,g0,g1⟩
 have h0:Hid (∀er ev k,a=⟨P,Tp.no,0,some er⟩->Below w.heap.size w k->EvT w.heap.size k (some er) ev->LoadQ X (Mut L d H N) c w d a (.returned (.tuple #[no2,ev])) k):=fun er ev k e l f6=>by
  rw[e]
  exact⟨none,0,ev,rfl,Nat.le_refl _,yY hz l,f6⟩
 rw[<-ha]at e4 ⊢
 have g9:=zh b4
 have i5:=zh m3
 have n3:=zh e4
 have p9:=zh hX
 have i7:=zh c4
 have o9:=zh g0
 have p0:=zh b7
 have HD:=zh hD
 have h4:=zh b5
 have p6:=zh g1
 have p5:=zh n0
 clear hz g1 n0 ha e4 hX c4 g0 b7 hD m3 b5 b4
 have t6:=zQ hm.n
 have s6:=zf h.blk
 obtain⟨W,hW⟩:∃W,W=(w.alloc (.cells (mcells (bs m.name) (.slice y m.imports.length A) (.slice t m.vars.length u) (.slice C m.procs.length E) (.slice r m.body.length s)) 36)).alloc (.cells #[.int .i64 0,.slice none 0 0] 43):=⟨_,rfl⟩
 have c7:Below w.heap.size w W:=by rw[hW];exact(zb _ _).alloc (by simp) _
 have g4:W.heap.size=w.heap.size+2:=by rw[hW];simp
 have f9:W.heap[w.heap.size]?=some (.cells (mcells (bs m.name) (.slice y m.imports.length A) (.slice t m.vars.length u) (.slice C m.procs.length E) (.slice r m.body.length s)) 36 (0,0)):=by rw[hW];exact(Below.heap_alloc _ _ _ (by simp)).trans (zo _ _)
 have m6:W.heap[w.heap.size+1]?=some (.cells #[.int .i64 0,.slice none 0 0] 43 (0,0)):=by
  have:=zo (w.alloc (.cells (mcells (bs m.name) (.slice y m.imports.length A) (.slice t m.vars.length u) (.slice C m.procs.length E) (.slice r m.body.length s)) 36)) (.cells #[.int .i64 0,.slice none 0 0] 43)
  rw[hW]
  simpa using this
 have V:=(c7.block d s6).trans h.blk
 have k1:W.cell? ⟨d,1,none⟩=some (.map H):=(za V).trans rfl
 have km:W.cell? ⟨w.heap.size,0,none⟩=some (.string (bs m.name)):=(za f9).trans rfl
 have m7:∀n,(Instr.lookup 26 (.map H) (.string (bs m.name)) false).run Tryz.prog (W.drewN n)=.ok (.pointer none) (W.drewN n):=fun n=>by
  have:=((h.on c7).on (below_drewN (Below.refl W.heap.size W) n)).look m.name (by omega)
  rw[h7]at this
  exact this
 have i4:=zh m9
 have p8:=zh hm.sml
 have b6:=zh c7
 have b1:=zh f9
 have e9:=zh m6
 have i8:=zh V
 have HM:=zh hm
 have a5:=zh h
 have a7:=zh g4
 have i1:d<W.heap.size:=by omega
 have e6:w.heap.size<W.heap.size:=by omega
 unfold mcells at *
 obtain⟨Y,d1⟩:∃Y,Y=bs m.name:=⟨_,rfl⟩
 obtain⟨Sn,m4⟩:∃Sn,Sn=Tp.seenW ofS P:=⟨_,rfl⟩
 have e8:Hid (∀W' I,Below w.heap.size w W'->SeenV W' (.map (some I)) Sn->Calls Tryz.prog 37 #[.agg #[.string Y,.slice y m.imports.length A,.slice t m.vars.length u,.slice C m.procs.length E,.slice r m.body.length s],.map (some I)] W' (CheckP W' (Tp.check m Sn))):=fun W' I r0 n7=>by
  have:=yW p8.out (i4.out.up r0) n7
  unfold mcells at this
  rw[d1]
  exact this
 rw[<-d1]at hW km m7 b1 ⊢
 have p4:Hid (Y=bs m.name):=d1
 have i6:Hid (Sn=Tp.seenW ofS P):=m4
 clear m9 hm V f9 m6 c7 g4 d1 m4 h h7
 obtain⟨il,f8⟩:∃il,il=m.imports.length:=⟨_,rfl⟩
 obtain⟨gl,f7⟩:∃gl,gl=m.vars.length:=⟨_,rfl⟩
 obtain⟨pl,g2⟩:∃pl,pl=m.procs.length:=⟨_,rfl⟩
 obtain⟨bl,K⟩:∃bl,bl=m.body.length:=⟨_,rfl⟩
 rw[<-f8,<-f7,<-g2,<-K]at hW b1 e8 ⊢
 have HQ:=zh (And.intro f8 (And.intro f7 (And.intro g2 K)))
 clear f8 f7 g2 K
 go_enter Tryz.func17,Tryz.ntmps17
 go_upto_region 1 with fail
 rw[<-hW]
 clear hW
 go_quiet (fail)
 obtain⟨O,d6⟩:∃O,O=W.drewN nq:=⟨_,rfl⟩
 have e1:O.heap=W.heap:=by rw[d6];rfl
 have o6:Hid (Below W.heap.size W O):=by rw[d6];exact below_drewN (Below.refl _ _) _
 rw[<-d6]
 clear d6 m7 k1 km
 have c8:Below W.heap.size W O.drew:=o6.out.drew
 have b7:=(c8.block _ e6).trans b1.out
 have c2:Hid (O.drew.cell? ⟨w.heap.size,0,none⟩=some (.string Y)/\O.drew.cell? ⟨w.heap.size,1,none⟩=some (.slice y il A)/\O.drew.cell? ⟨w.heap.size,2,none⟩=some (.slice t gl u)/\O.drew.cell? ⟨w.heap.size,3,none⟩=some (.slice C pl E)/\O.drew.cell? ⟨w.heap.size,4,none⟩=some (.slice r bl s)):=ym b7
 have i0:O.drew.heap.size=W.heap.size:=by show O.heap.size=_;rw[e1]
 have c3:Hid (Calls Tryz.prog 38 #[.pointer (some ⟨d,0,none⟩)] O.drew fun e w2=>∃I,e=.returned (.map (some I))/\(Below W.heap.size W w2/\SeenV w2 (.map (some I)) Sn)/\(w2.cell? ⟨w.heap.size,0,none⟩=some (.string Y)/\w2.cell? ⟨w.heap.size,1,none⟩=some (.slice y il A)/\w2.cell? ⟨w.heap.size,2,none⟩=some (.slice t gl u)/\w2.cell? ⟨w.heap.size,3,none⟩=some (.slice C pl E)/\w2.cell? ⟨w.heap.size,4,none⟩=some (.slice r bl s))):=by
  refine(seen_any (a5.out.on (b6.out.trans (c8.mono (by omega)))) hL).mono ?_
  rintro e w2⟨I,rfl,c5,d3⟩
  have m0:Below W.heap.size W w2:=c8.trans (c5.mono (by rw[i0];exact Nat.le_refl _))
  exact⟨I,rfl,⟨m0,by rw[i6.out];exact d3⟩,ym ((m0.block _ e6).trans b1.out)⟩
 have c0:Hid (∀w2 I,Below W.heap.size W w2/\SeenV w2 (.map (some I)) Sn->Calls Tryz.prog 37 #[.agg #[.string Y,.slice y il A,.slice t gl u,.slice C pl E,.slice r bl s],.map (some I)] w2 fun e f=>∃ev,e=.returned ev/\(Below W.heap.size W f/\EvT W.heap.size f ck ev)/\(f.cell? ⟨w.heap.size,0,none⟩=some (.string Y)/\f.cell? ⟨w.heap.size,1,none⟩=some (.slice y il A)/\f.cell? ⟨w.heap.size,2,none⟩=some (.slice t gl u)/\f.cell? ⟨w.heap.size,3,none⟩=some (.slice C pl E)/\f.cell? ⟨w.heap.size,4,none⟩=some (.slice r bl s))):=fun w2 I h2=>by
  have:=e8.out w2 I (b6.out.trans (h2.1.mono (by omega))) h2.2
  rw[i6.out,<-g9.out]at this
  refine this.mono ?_
  intro e f hq
  obtain⟨c6,ev,he,f6⟩:=ux hq
  have m1:Below W.heap.size W f:=h2.1.trans (c6.mono h2.1.size)
  exact⟨ev,he,⟨m1,f6.lower h2.1.size⟩,ym ((m1.block _ e6).trans b1.out)⟩
 clear c8 b7 e8 i0
 go_upto_region 3 with fail
 go_region_held3 (fun w'=>w'.cell? ⟨w.heap.size,0,none⟩=some (.string Y)/\w'.cell? ⟨w.heap.size,1,none⟩=some (.slice y il A)/\w'.cell? ⟨w.heap.size,2,none⟩=some (.slice t gl u)/\w'.cell? ⟨w.heap.size,3,none⟩=some (.slice C pl E)/\w'.cell? ⟨w.heap.size,4,none⟩=some (.slice r bl s)) (with_reducible (first|exact f3.out|exact p7.out|exact c2.out)) (first|(go_at_call 38;refine c3.out.mono ?_;rintro e w2 ⟨I,rfl,c5,d3⟩;have o7:=zh c5;have p7:=zh d3;clear c5 d3)|(go_at_call 37;refine(c0.out _ _ o7.out).mono ?_;rintro e f ⟨ev,rfl,c6,g3⟩;have e3:=zh c6;have f3:=zh g3;clear c6 g3))
 have U:Hid (Below W.heap.size W f):=e3.out.1
 cases a9:ck with
 |some er =>
  have a4:=e3.out.2
  rw[a9]at a4
  have d2:=a4.ne
  have t5:=a4.gd
  have o8:=zh a4
  have c1:=zh a9
  clear a4 a9
  have J:=(U.out.block _ (show w.heap.size+1<W.heap.size by have:=a7.out;omega)).trans e9.out
  have e0:f.cell? ⟨w.heap.size+1,0,none⟩=some (.int .i64 0):=(za J).trans rfl
  have i9:f.cell? ⟨w.heap.size+1,1,none⟩=some (.slice none 0 0):=(za J).trans rfl
  have ez:∀j,f.frozen? ⟨w.heap.size+1,j,none⟩=false:=fun j=>zi J
  have m5:=zf J
  have T:=zu 1 (.slice none 0 0) (zu 0 (.int .i64 0) J)
  obtain⟨k,G⟩:∃k,k=(f.setCell ⟨w.heap.size+1,0,none⟩ (.int .i64 0)).setCell ⟨w.heap.size+1,1,none⟩ (.slice none 0 0):=⟨_,rfl⟩
  have f0:k.cell? ⟨w.heap.size+1,0,none⟩=some (.int .i64 0):=by rw[G];exact(za T).trans rfl
  have f1:k.cell? ⟨w.heap.size+1,1,none⟩=some (.slice none 0 0):=by rw[G];exact(za T).trans rfl
  have HR:Hid (LoadQ X (Mut L d H N) c w d a (.returned (.tuple #[no2,ev])) k):=by
   have hx:Ext (w.heap.size+1) f k:=by rw[G];exact((Ext.refl _ _).set 0 _).set 1 _
   have l:Below w.heap.size w k:=by
    rw[G]
    exact zq (zq (b6.out.trans (U.out.mono (by have:=a7.out;omega))) (by omega) 0 _) (by omega) 1 _
   exact h0.out _ _ _ (o3.out er c1.out) l ((o8.out.on hx (by have:=a7.out;omega)).lower (by have:=a7.out;omega))
  clear J T c2 c3 c0
  go_wp2_with fail
  rw[<-G]
  exact bodyPost_ret (v:=.tuple #[no2,ev]) (by simp[results,Tryz.results17,go_sem,no2,f0,f1]) rfl HR.out
 |none =>
  have a4:=e3.out.2
  rw[a9]at a4
  obtain rfl:ev=.nilIface:=a4
  have g5:Hid (Tp.check m (Tp.seenW ofS P)=none):=by show _=_;rw[<-g9.out];exact a9
  have c1:=zh a9
  clear a9
  by_cases t4:L.length<10
  rotate_left
  ·have n2:L.length=10:=by omega
   obtain⟨na,nc,b8⟩:=zw a5.out.nm
   have k0:f.cell? ⟨d,0,none⟩=some (.slice na 10 nc):=by
    rw[(za ((U.out.block d i1).trans i8.out)).trans rfl,b8,n2]
    rfl
   have o1:d<f.heap.size:=by have:=U.out.size;omega
   clear b8
   have J:=(U.out.block _ (show w.heap.size+1<W.heap.size by have:=a7.out;omega)).trans e9.out
   have e0:f.cell? ⟨w.heap.size+1,0,none⟩=some (.int .i64 0):=(za J).trans rfl
   have i9:f.cell? ⟨w.heap.size+1,1,none⟩=some (.slice none 0 0):=(za J).trans rfl
   have ez:∀j,f.frozen? ⟨w.heap.size+1,j,none⟩=false:=fun j=>zi J
   have m5:=zf J
   have T:=zu 1 (.slice none 0 0) (zu 0 (.int .i64 0) J)
   obtain⟨k,G⟩:∃k,k=(f.setCell ⟨w.heap.size+1,0,none⟩ (.int .i64 0)).setCell ⟨w.heap.size+1,1,none⟩ (.slice none 0 0):=⟨_,rfl⟩
   have f0:k.cell? ⟨w.heap.size+1,0,none⟩=some (.int .i64 0):=by rw[G];exact(za T).trans rfl
   have f1:k.cell? ⟨w.heap.size+1,1,none⟩=some (.slice none 0 0):=by rw[G];exact(za T).trans rfl
   have HR:Hid (LoadQ X (Mut L d H N) c w d a (.returned (.tuple #[no2,.iface 44 (.int .i64 12)])) k):=by
    have hx:Ext (w.heap.size+1) f k:=by rw[G];exact((Ext.refl _ _).set 0 _).set 1 _
    have l:Below w.heap.size w k:=by
     rw[G]
     exact zq (zq (b6.out.trans (U.out.mono (by have:=a7.out;omega))) (by omega) 0 _) (by omega) 1 _
    exact h0.out _ _ _ (o4.out c1.out (by have:=i5.out;omega)) l (rfl)
   clear J T c2 c3 c0
   go_wp2_with fail
   rw[<-G]
   exact bodyPost_ret (v:=.tuple #[no2,.iface 44 (.int .i64 12)]) (by simp[results,Tryz.results17,go_sem,no2,f0,f1]) rfl HR.out
  have a3:Hid (Below w.heap.size w f):=b6.out.trans (U.out.mono (by omega))
  have e7:=(U.out.block d i1).trans i8.out
  obtain⟨na,nc,b8⟩:=zw a5.out.nm
  have k0:f.cell? ⟨d,0,none⟩=some (.slice na L.length nc):=by
   rw[(za e7).trans rfl,b8]
   rfl
  have h3:Hid (MB f f.heap.size m y t C r A u E s):=i4.out.up a3.out
  have n1:(m.vars.map (·.name)).Nodup:=by
   have h1:Tp.WI ofS (P++[⟨m,Tp.fresh m⟩]):=Tp.WI.add (q:=⟨m,Tp.fresh m⟩) i7.out h4.out g5.out
   exact(h1.fit jC (m:=m) (by simp[Tp.ms]) HM.out).vn
  have i2:Hid (Calls Tryz.prog 39 #[.agg #[.string Y,.slice y il A,.slice t gl u,.slice C pl E,.slice r bl s]] f (FreshP f m y t C r A u E s)):=by
   have:=xA h3.out HM.out n1
   unfold mcells at this
   rw[<-p4.out,<-HQ.out.1,<-HQ.out.2.1,<-HQ.out.2.2.1,<-HQ.out.2.2.2]at this
   exact this
  obtain⟨s0,s1,s2,s3,s4⟩:=f3.out
  have o1:d<f.heap.size:=zf e7
  have t1:¬(L.length:Int)=10:=by omega
  clear e7 c2 c3 c0 f3 b8 n1
  generalize m2:L.length=ln at *
  have f2:=zh m2
  clear m2
  go_wp2_with fail
  refine i2.out.mono ?_
  rintro e w6⟨a8,B,vb,sl,rfl,d0,d5,d2,K,c9,d4⟩
  obtain⟨w7,d7⟩:∃w7,w7=w6.alloc (.cells #[.pointer (some ⟨B,0,none⟩)] 88):=⟨_,rfl⟩
  have a1:Below w6.heap.size w6 w7:=by rw[d7];exact zb _ _
  have d8:w7.cell? ⟨w6.heap.size,0,none⟩=some (.pointer (some ⟨B,0,none⟩)):=by rw[d7];exact(za (zo w6 _)).trans rfl
  have t7:=a8.size
  have g8:Hid (Below w.heap.size w w7):=(a3.out.trans (a8.mono a3.out.size)).trans (a1.mono (by have:=a3.out.size;omega))
  have g7:Hid (Calls Tryz.prog 40 #[.pointer (some ⟨d,0,none⟩),.pointer (some ⟨B,0,none⟩)] w7 fun e w'=>e=.returned (.tuple #[])/\∃a2 a6,AddA c w7 d B m.name L N H w' a2 a6):=by
   refine add_gen (a5.out.on g8.out) (by rw[f2.out];omega) ((a1.block B (zf K)).trans K) (fun q=>?_) (by have:=zQ HM.out.n;omega) (fun tb e=>?_) hc
   ·have:=(a5.out.mlt q).1;have:=a3.out.size;omega
   ·obtain⟨n,q1,q2⟩:=o9.out tb e;exact⟨n,q1,q2.on (g8.out.block _ q2.lt)⟩
  have HX:=zh (And.intro a8 (And.intro d0 (And.intro d5 (And.intro d2 (And.intro K (And.intro c9 (And.intro d4 (And.intro a1 d8))))))))
  clear a8 d0 d5 d2 K c9 d4 a1 s0 s1 s2 s3 s4 k0
  go_upto_region 9 with fail
  rw[<-d7]
  clear d7
  go_wp2_with fail
  refine g7.out.mono ?_
  rintro e S⟨rfl,a2,a6,b3⟩
  have i3:Hid (Calls Tryz.prog 41 #[.pointer (some ⟨d,0,none⟩),.int .i64 (fuel:Int),.func (.func 42) #[] #[.pointer (some ⟨w6.heap.size,0,none⟩),.pointer (some ⟨w.heap.size,0,none⟩)]] S fun e w9=>∃R Z,e=.returned (.agg #[.int .i64 (a.e.way:Int),.slice R a.e.out.length Z])/\w9.heap[w.heap.size+1]?=some (.cells #[.int .i64 0,.slice none 0 0] 43 (0,0))/\∀b9,Ext (w.heap.size+1) w9 b9->LoadQ X (Mut L d H N) c w d a (.returned (.tuple #[.agg #[.int .i64 (a.e.way:Int),.slice R a.e.out.length Z],.nilIface])) b9):=by
   obtain⟨a8,d0,d5,d2,K,c9,d4,a1,d8⟩:=HX.out
   have g3:=U.out.size
   have g4:=a7.out
   have t8:=a1.size
   have n9:MD f (fun b=>D b/\b<w.heap.size) m y t C r A u E s:=p0.out.mono (fun b l Q=>⟨a3.out.block b Q,l,Q⟩)
   have o2:WX (fun b=>X b\/b=w.heap.size+1) f d L P N H:=(a5.out.more a3.out).less (fun b q=>q.imp id (fun z=>by omega))
   obtain⟨V,s9,n8,s5⟩:=ww_add HM.out o2 (fun b q=>by
    rcases q with q|q
    ·have:=p9.out b q;omega
    ·omega) i7.out h4.out g5.out n9 (fun b l Q=>⟨fun q=>by
     rcases q with q|q
     ·exact(HD.out b l.1 l.2).1 q
     ·omega,(HD.out b l.1 l.2).2⟩) a8 d0 d5 K c9 d4 a1 hc b3
   have m8:(⟨m,B,vb,sl⟩:Lo)∈L++[(⟨m,B,vb,sl⟩:Lo)]:=by simp
   have d9:∀b,w.heap.size<=b->¬Mut L d H N b:=fun b l q=>by have:=(a5.out.mlt q).1;omega
   have e5:∀b,b<w7.heap.size->w.heap.size<=b->S.heap[b]?=w7.heap[b]?:=fun b l Q=>b3.block b l (fun e=>d9 b Q (Or.inr (Or.inl e))) (fun e=>d9 b Q (Or.inr (Or.inr (Or.inl e)))) (fun e=>d9 b Q (Or.inr (Or.inr (Or.inr e))))
   have h6:∀b,b<f.heap.size->w.heap.size<=b->S.heap[b]?=f.heap[b]?:=fun b l Q=>((e5 b (by omega) Q).trans (a1.block b (by omega))).trans (a8.block b l)
   have n6:S.heap[B]?=some (.cells (lcells m y t C r A u E s vb) 107 (0,0)):=((e5 B (by have:=zf K;omega) (by omega)).trans (a1.block B (zf K))).trans K
   have r7:S.heap[w.heap.size]?=some (.cells #[.string Y,.slice y il A,.slice t gl u,.slice C pl E,.slice r bl s] 36 (0,0)):=((h6 w.heap.size (by omega) (by omega)).trans (U.out.block w.heap.size (by omega))).trans b1.out
   have r3:S.heap[w.heap.size+1]?=some (.cells #[.int .i64 0,.slice none 0 0] 43 (0,0)):=((h6 _ (by omega) (by omega)).trans (U.out.block _ (by omega))).trans e9.out
   have s7:S.cell? ⟨w6.heap.size,0,none⟩=some (.pointer (some ⟨B,0,none⟩)):=(World.cell?_of_block (w:=w7) (e5 w6.heap.size (zg d8) (by omega))).trans d8
   have s8:S.cell? ⟨w.heap.size,4,none⟩=some (.slice r bl s):=(za r7).trans rfl
   have r8:=ss_body V hf m8 n6
   have r6:=load1_post (gas:=Tp.gasOf (P++[⟨m,Tp.fresh m⟩]) m.body fuel) V hf m8 s7 s8 (by rw[HQ.out.2.2.2];exact r8) Tp.goS_enough
   have r5:=uf (caps:=#[.pointer (some ⟨w6.heap.size,0,none⟩),.pointer (some ⟨w.heap.size,0,none⟩)]) cf_load ((za V.blk).trans rfl) r6
   refine r5.mono ?_
   intro e w9 hG
   obtain⟨R,Z,he,n4,r4⟩:=gone V hf hG
   have f5:=o5.out c1.out (by have:=i5.out;have:=f2.out;omega)
   have f4:a.e=(Tp.endOf (Tp.goS (Tp.gasOf (P++[⟨m,Tp.fresh m⟩]) m.body fuel) 0 m.name (fun _=>none) m.body ⟨P++[⟨m,Tp.fresh m⟩],fuel,[]⟩)).2:=by rw[f5]
   have r1:a.w=(Tp.endOf (Tp.goS (Tp.gasOf (P++[⟨m,Tp.fresh m⟩]) m.body fuel) 0 m.name (fun _=>none) m.body ⟨P++[⟨m,Tp.fresh m⟩],fuel,[]⟩)).1:=by rw[f5]
   have n5:a.err=none:=by rw[f5]
   have r2:e=.returned (.agg #[.int .i64 (a.e.way:Int),.slice R a.e.out.length Z]):=by rw[f4];exact he
   have F:GonP (fun b=>X b\/b=w.heap.size+1) S d (L++[⟨m,B,vb,sl⟩]) a6 a2 a.w a.e.out R w9:=by rw[f4,r1];exact r4
   have o0:¬VLo (L++[⟨m,B,vb,sl⟩]) (w.heap.size+1):=fun q=>(V.sv _ q).2 (Or.inr rfl)
   have h8:=b3.size
   refine⟨R,Z,r2,(F.keep _ (by omega) o0).trans r3,fun b9 a0=>?_⟩
   have h9:=F.size
   have t2:=a0.size
   have g6:WW X b9 d (L++[⟨m,B,vb,sl⟩]) a.w a6 a2:=(F.ww.keep (fun b l hX hv=>a0.block b l (fun e=>hX (Or.inr e))) a0.size (fun lo Q=>by
    obtain⟨p,p1,p2,p3⟩:=F.ww.vals lo Q
    exact⟨p,p1,p2,fun g hg=>⟨(p3 g hg).1,(a0.block _ (zf (p3 g hg).2.1) (fun e=>(F.ww.sv _ ⟨lo,Q,g,hg,rfl⟩).2 (Or.inr e))).trans (p3 g hg).2.1,(p3 g hg).2.2⟩⟩) F.ww.mw).less (fun b l=>Or.inl l)
   refine⟨R,Z,.nilIface,rfl,by rw[f4];exact n4,⟨⟨Mut (L++[⟨m,B,vb,sl⟩]) d (some a2) a6,⟨L++[⟨m,B,vb,sl⟩],a6,some a2,(show WX X b9 d (L++[⟨m,B,vb,sl⟩]) a.w a6 (some a2) from g6),by simp;have:=f2.out;omega,n3.out,fun b=>Iff.rfl,(fun tb e=>?_),fun x hx=>?_⟩,?_⟩,⟨fun i hi=>?_⟩,F.oi,F.ol,fun x hx=>by have:=F.far x hx;omega⟩,by unfold EvT;rw[n5]⟩
   ·cases e
    obtain⟨n,q1,q2⟩:=n8 a2 rfl
    refine⟨n,q1,q2.on ?_⟩
    have r9:=q2.lt
    exact(a0.block _ (by omega) (fun e=>V.tx.1 (Or.inr e))).trans (F.keep _ r9 V.tx.2.2)
   ·rw[g6.mw,List.map_append,<-a5.out.mw]at hx
    rcases List.mem_append.1 hx with q|q
    ·exact p6.out x q
    ·have q':x=m:=by simpa using q
     rw[q']
     exact p5.out
   ·have b0:Tr (Mut L d H N) (Mut (L++[⟨m,B,vb,sl⟩]) d (some a2) a6) w S:=Tr.ahead a3.out s5
    refine⟨((a0.os.trans F.os).trans b0.os),((a0.tape.trans F.tape).trans b0.tape),((a0.output.trans F.output).trans b0.output),by omega,fun b l hu=>?_,b0.more⟩
    refine((a0.block b (by omega) (by omega)).trans (F.keep b (by omega) (fun q=>?_))).trans (b0.block b l hu)
    rcases b0.more b (Or.inl q) with z|z
    ·exact hu z
    ·omega
   ·obtain⟨b,o,q1,q2,q3⟩:=F.it.c i hi
    have t0:S.heap.size<=b:=F.far _ q1
    exact⟨b,o,q1,by omega,(World.cell?_of_block (w:=w9) (a0.block b q2 (by omega))).trans q3⟩
  have t3:d<S.heap.size:=zf b3.blk
  clear b3 g7 HX i2 h3
  go_wp2_with fail
  refine i3.out.mono ?_
  rintro e w9⟨R,Z,rfl,b2,h5⟩
  have e0:w9.cell? ⟨w.heap.size+1,0,none⟩=some (.int .i64 0):=(za b2).trans rfl
  have i9:w9.cell? ⟨w.heap.size+1,1,none⟩=some (.slice none 0 0):=(za b2).trans rfl
  have ez:∀j,w9.frozen? ⟨w.heap.size+1,j,none⟩=false:=fun j=>zi b2
  have m5:=zf b2
  have T:=zu 1 (.slice R a.e.out.length Z) (zu 0 (.int .i64 (a.e.way:Int)) b2)
  obtain⟨k,G⟩:∃k,k=(w9.setCell ⟨w.heap.size+1,0,none⟩ (.int .i64 (a.e.way:Int))).setCell ⟨w.heap.size+1,1,none⟩ (.slice R a.e.out.length Z):=⟨_,rfl⟩
  have f0:k.cell? ⟨w.heap.size+1,0,none⟩=some (.int .i64 (a.e.way:Int)):=by rw[G];exact(za T).trans rfl
  have f1:k.cell? ⟨w.heap.size+1,1,none⟩=some (.slice R a.e.out.length Z):=by rw[G];exact(za T).trans rfl
  have HR:=zh (h5 k (by rw[G];exact((Ext.refl _ _).set 0 _).set 1 _))
  clear b2 T h5 i3
  go_wp2_with fail
  rw[<-G]
  exact bodyPost_ret (v:=.tuple #[.agg #[.int .i64 (a.e.way:Int),.slice R a.e.out.length Z],.nilIface]) (by simp[results,Tryz.results17,go_sem,f0,f1]) rfl HR.out
def ErrC (w:World) (er:Int) (e:Ending) (w':World):Prop:=Below w.heap.size w w'/\e=.returned (.tuple #[no2,.int .i64 0,.iface 44 (.int .i64 er)])
theorem kU {w a V:World}{er:Int}(i:Below w.heap.size w a)(k:a.heap.size=w.heap.size+5)(f:a.heap[w.heap.size+2]?=some (.cells #[.int .i64 0,.slice none 0 0] 43 (0,0)))(g:a.heap[w.heap.size+3]?=some (.cells #[.int .i64 0] 2 (0,0)))(d:Below a.heap.size a V) :
  V.cell? ⟨w.heap.size+2,0,none⟩=some (.int .i64 0)/\V.cell? ⟨w.heap.size+2,1,none⟩=some (.slice none 0 0)/\(∀j,V.frozen? ⟨w.heap.size+2,j,none⟩=false)/\(∀j,V.frozen? ⟨w.heap.size+3,j,none⟩=false)/\V.cell? ⟨w.heap.size+3,0,none⟩=some (.int .i64 0)/\w.heap.size+2<V.heap.size/\w.heap.size+3<V.heap.size /\
  ∃w11,w11=((V.setCell ⟨w.heap.size+2,0,none⟩ (.int .i64 0)).setCell ⟨w.heap.size+2,1,none⟩ (.slice none 0 0)).setCell ⟨w.heap.size+3,0,none⟩ (.int .i64 0)/\w11.cell? ⟨w.heap.size+2,0,none⟩=some (.int .i64 0)/\w11.cell? ⟨w.heap.size+2,1,none⟩=some (.slice none 0 0)/\w11.cell? ⟨w.heap.size+3,0,none⟩=some (.int .i64 0)/\Hid (ErrC w er (.returned (.tuple #[no2,.int .i64 0,.iface 44 (.int .i64 er)])) w11):=by
 have b:=(d.block _ (zf f)).trans f
 have c:=(d.block _ (zf g)).trans g
 have e:(((V.setCell ⟨w.heap.size+2,0,none⟩ (.int .i64 0)).setCell ⟨w.heap.size+2,1,none⟩ (.slice none 0 0)).setCell ⟨w.heap.size+3,0,none⟩ (.int .i64 0)).heap[w.heap.size+2]?=some (.cells #[.int .i64 0,.slice none 0 0] 43 (0,0)):=(zx _ (by omega)).trans (zu 1 (.slice none 0 0) (zu 0 (.int .i64 0) b))
 have h:(((V.setCell ⟨w.heap.size+2,0,none⟩ (.int .i64 0)).setCell ⟨w.heap.size+2,1,none⟩ (.slice none 0 0)).setCell ⟨w.heap.size+3,0,none⟩ (.int .i64 0)).heap[w.heap.size+3]?=some (.cells #[.int .i64 0] 2 (0,0)):=zu 0 (.int .i64 0) ((zx _ (by omega)).trans ((zx _ (by omega)).trans c))
 refine⟨(za b).trans rfl,(za b).trans rfl,fun j=>zi b,fun j=>zi c,(za c).trans rfl,zf b,zf c,_,rfl,(za e).trans rfl,(za e).trans rfl,(za h).trans rfl,?_,rfl⟩
 exact zq (zq (zq (i.trans (d.mono (by omega))) (by omega) 0 _) (by omega) 1 _) (by omega) 0 _
theorem call_noM {X:Nat->Prop}{w:World}{j fuel d ac:Nat}{f:Option Addr}{L:List Lo}{P:List Pt}{R:Value}{o:Option Nat}{md nm:Bs}(h:WX X w j L P R o)(z:md.length<=1000000)(_:d<=1000000)(p:ptrV L md=none) :
  Calls Tryz.prog 27 #[.pointer (some ⟨j,0,none⟩),.string (bs md),.string (bs nm),.slice f d ac,.int .i64 (fuel:Int)] w (ErrC w 7):=by
 obtain⟨a,c⟩:∃a,a=(((w.alloc (.cells #[.string (bs nm)] 9)).alloc (.cells #[.slice f d ac] 29)).alloc (.cells #[.int .i64 0,.slice none 0 0] 43)).alloc (.cells #[.int .i64 0] 2):=⟨_,rfl⟩
 obtain⟨b,g⟩:∃b,b=a.alloc (.cells #[.pointer none] 88):=⟨_,rfl⟩
 have r:a.heap.size=w.heap.size+4:=by rw[c];simp
 have i:Below w.heap.size w a:=by rw[c];exact(((zb _ _).alloc (by simp) _).alloc (by simp;omega) _).alloc (by simp;omega) _
 have e:Below a.heap.size a b:=by rw[g];exact zb _ _
 have q:Below w.heap.size w b:=i.trans (e.mono (by omega))
 have H:b.heap.size=w.heap.size+5:=by rw[g];simp[r]
 have k:a.heap[w.heap.size]?=some (.cells #[.string (bs nm)] 9 (0,0)):=by rw[c];exact(((Below.heap_alloc _ _ _ (by simp;omega)).trans (Below.heap_alloc _ _ _ (by simp;omega))).trans (Below.heap_alloc _ _ _ (by simp))).trans (zo _ _)
 have l:a.heap[w.heap.size+1]?=some (.cells #[.slice f d ac] 29 (0,0)):=by
  have:=zo (w.alloc (.cells #[.string (bs nm)] 9)) (.cells #[.slice f d ac] 29)
  rw[c];exact((Below.heap_alloc _ _ _ (by simp)).trans (Below.heap_alloc _ _ _ (by simp))).trans (by simpa using this)
 have m:a.heap[w.heap.size+2]?=some (.cells #[.int .i64 0,.slice none 0 0] 43 (0,0)):=by
  have:=zo ((w.alloc (.cells #[.string (bs nm)] 9)).alloc (.cells #[.slice f d ac] 29)) (.cells #[.int .i64 0,.slice none 0 0] 43)
  rw[c];exact(Below.heap_alloc _ _ _ (by simp)).trans (by simpa using this)
 have n:a.heap[w.heap.size+3]?=some (.cells #[.int .i64 0] 2 (0,0)):=by
  have:=zo (((w.alloc (.cells #[.string (bs nm)] 9)).alloc (.cells #[.slice f d ac] 29)).alloc (.cells #[.int .i64 0,.slice none 0 0] 43)) (.cells #[.int .i64 0] 2)
  rw[c];simpa using this
 have y:b.heap[w.heap.size+4]?=some (.cells #[.pointer none] 88 (0,0)):=by
  have:=zo a (.cells #[.pointer none] 88)
  rw[r]at this
  rw[g];exact this
 have s:=(e.block _ (zf k)).trans k
 have t:=(e.block _ (zf l)).trans l
 have u:=(e.block _ (zf m)).trans m
 have x:=(e.block _ (zf n)).trans n
 have I:=zf h.blk
 have O:a.cell? ⟨j,1,none⟩=some (.map o):=(za ((i.block _ I).trans h.blk)).trans rfl
 have G:(Instr.lookup 26 (.map o) (.string (bs md)) false).run Tryz.prog a=.ok (.pointer none) a:=by
  have:=(h.on i).look md z
  rw[p]at this
  exact this
 have k5:b.cell? ⟨w.heap.size+4,0,none⟩=some (.pointer none):=(za y).trans rfl
 have Q:b.cell? ⟨w.heap.size,0,none⟩=some (.string (bs nm)):=(za s).trans rfl
 have V:w.heap.size+4<b.heap.size:=by omega
 have U:w.heap.size<b.heap.size:=by omega
 have S:j<a.heap.size:=by omega
 have C:=zh t
 have D:=zh u
 have E:=zh x
 have B:=zh q
 have F:=zh H
 clear k l m n y s t u x i e q p h C Q
 generalize bs md=lmn at *
 generalize bs nm=pnm at *
 go_enter Tryz.func27,Tryz.ntmps27
 go_upto_region 1 with fail
 rw[<-c]
 clear c
 go_upto_region 2 with fail
 rw[<-g,show w.heap.size+1+1+1=w.heap.size+3 from rfl,show w.heap.size+1+1=w.heap.size+2 from rfl]
 clear g G O
 obtain⟨Z,e1,ez,nz,n0,T,W,Y,A,K,M,N,J⟩:=kU (er:=7) B.out F.out D.out E.out (Below.refl b.heap.size b)
 go_wp2_with fail
 rw[<-A]
 exact bodyPost_ret (v:=.tuple #[no2,.int .i64 0,.iface 44 (.int .i64 7)]) (by simp[results,Tryz.results27,go_sem,no2,K,M,N]) rfl J.out
theorem qu {X:Nat->Prop}{w:World}{F fuel c ac:Nat}{j:Option Addr}{L:List Lo}{P:List Pt}{nv:Value}{Z:Option Nat}{md nm:Bs}(h:WX X w F L P nv Z)(a9:md.length<=1000000)(_:c<=1000000){lo:Lo}(N:lo∈L)(a1:ptrV L md=some ⟨lo.lb,0,none⟩){er:Int}(hp:(Tp.procIn lo.m nm=none/\er=7)\/∃p,Tp.procIn lo.m nm=some p/\(p.seen=false/\er=7\/p.seen=true/\c≠p.params.length/\er=2)) :
  Calls Tryz.prog 27 #[.pointer (some ⟨F,0,none⟩),.string (bs md),.string (bs nm),.slice j c ac,.int .i64 (fuel:Int)] w (ErrC w er):=by
 obtain⟨a,g⟩:∃a,a=(((w.alloc (.cells #[.string (bs nm)] 9)).alloc (.cells #[.slice j c ac] 29)).alloc (.cells #[.int .i64 0,.slice none 0 0] 43)).alloc (.cells #[.int .i64 0] 2):=⟨_,rfl⟩
 obtain⟨b,t⟩:∃b,b=a.alloc (.cells #[.pointer (some ⟨lo.lb,0,none⟩)] 88):=⟨_,rfl⟩
 have a6:a.heap.size=w.heap.size+4:=by rw[g];simp
 have E:Below w.heap.size w a:=by rw[g];exact(((zb _ _).alloc (by simp) _).alloc (by simp;omega) _).alloc (by simp;omega) _
 have k:Below a.heap.size a b:=by rw[t];exact zb _ _
 have M:Below w.heap.size w b:=E.trans (k.mono (by omega))
 have b3:b.heap.size=w.heap.size+5:=by rw[t];simp[a6]
 have U:a.heap[w.heap.size]?=some (.cells #[.string (bs nm)] 9 (0,0)):=by rw[g];exact(((Below.heap_alloc _ _ _ (by simp;omega)).trans (Below.heap_alloc _ _ _ (by simp;omega))).trans (Below.heap_alloc _ _ _ (by simp))).trans (zo _ _)
 have V:a.heap[w.heap.size+1]?=some (.cells #[.slice j c ac] 29 (0,0)):=by
  have:=zo (w.alloc (.cells #[.string (bs nm)] 9)) (.cells #[.slice j c ac] 29)
  rw[g];exact((Below.heap_alloc _ _ _ (by simp)).trans (Below.heap_alloc _ _ _ (by simp))).trans (by simpa using this)
 have W:a.heap[w.heap.size+2]?=some (.cells #[.int .i64 0,.slice none 0 0] 43 (0,0)):=by
  have:=zo ((w.alloc (.cells #[.string (bs nm)] 9)).alloc (.cells #[.slice j c ac] 29)) (.cells #[.int .i64 0,.slice none 0 0] 43)
  rw[g];exact(Below.heap_alloc _ _ _ (by simp)).trans (by simpa using this)
 have Y:a.heap[w.heap.size+3]?=some (.cells #[.int .i64 0] 2 (0,0)):=by
  have:=zo (((w.alloc (.cells #[.string (bs nm)] 9)).alloc (.cells #[.slice j c ac] 29)).alloc (.cells #[.int .i64 0,.slice none 0 0] 43)) (.cells #[.int .i64 0] 2)
  rw[g];simpa using this
 have q4:b.heap[w.heap.size+4]?=some (.cells #[.pointer (some ⟨lo.lb,0,none⟩)] 88 (0,0)):=by
  have:=zo a (.cells #[.pointer (some ⟨lo.lb,0,none⟩)] 88)
  rw[a6]at this
  rw[t];exact this
 have p0:=(k.block _ (zf U)).trans U
 have p1:=(k.block _ (zf V)).trans V
 have p2:=(k.block _ (zf W)).trans W
 have p3:=(k.block _ (zf Y)).trans Y
 have b5:=zf h.blk
 have k1:a.cell? ⟨F,1,none⟩=some (.map Z):=(za ((E.block _ b5).trans h.blk)).trans rfl
 have b2:(Instr.lookup 26 (.map Z) (.string (bs md)) false).run Tryz.prog a=.ok (.pointer (some ⟨lo.lb,0,none⟩)) a:=by
  have:=(h.on E).look md a9
  rw[a1]at this
  exact this
 have S:b.cell? ⟨w.heap.size+4,0,none⟩=some (.pointer (some ⟨lo.lb,0,none⟩)):=(za q4).trans rfl
 have T:b.cell? ⟨w.heap.size,0,none⟩=some (.string (bs nm)):=(za p0).trans rfl
 have c1:w.heap.size+4<b.heap.size:=by omega
 have b9:w.heap.size<b.heap.size:=by omega
 have b7:F<a.heap.size:=by omega
 have s:=zh p1
 have I:=zh p2
 have J:=zh p3
 have G:=zh M
 have K:=zh b3
 obtain⟨tb,b4,a7⟩:=h.ww N
 have a2:=a7.more M
 obtain⟨⟨ia,ga,pa,ba,ic,gc,pc,bc,m1,m2⟩,_,_,_,a0⟩:=a2.lo lo N
 have D:=zh (rprocD m1 m2 (by have:=a0.wm.pc;omega) nm)
 have C:Hid (∀v,ProcP (cwF b) lo.m nm v->(v=none/\er=7)\/∃d o A B sn pn,v=some ⟨d,o,none⟩/\b.cell? ⟨d,o+2,none⟩=some (.bool sn)/\b.cell? ⟨d,o+3,none⟩=some (.slice A pn B)/\(sn=false/\er=7\/sn=true/\c≠pn/\er=2)):=by
  intro v f
  unfold ProcP at f
  rcases hp with⟨Q,R⟩|⟨p,Q,R⟩
  ·rw[Q]at f
   exact Or.inl ⟨f,R⟩
  ·rw[Q]at f
   obtain⟨d,o,e,q⟩:=f
   obtain⟨pv,vv,bv,b8,r1,r2,r3,r4,_⟩:=q.r
   obtain⟨A,B,rfl⟩:=r4.shape
   exact Or.inr ⟨d,o,A,B,p.seen,p.params.length,e,q.sn,r1,R⟩
 clear U V W Y q4 p0 p1 p2 p3 E k M a1 b4 h N a7 a2 m1 m2 a0 hp
 generalize bs md=lmn at *
 generalize bs nm=pnm at *
 go_enter Tryz.func27,Tryz.ntmps27
 go_upto_region 1 with fail
 rw[<-g]
 clear g
 go_upto_region 2 with fail
 rw[<-t,show w.heap.size+1+1+1=w.heap.size+3 from rfl,show w.heap.size+1+1=w.heap.size+2 from rfl]
 clear t b2 k1
 go_wp2_with fail
 refine D.out.mono ?_
 rintro e l⟨v,rfl,f,i⟩
 have H:=zh i
 rcases C.out v f with⟨rfl,rfl⟩|⟨d,o,A,B,sn,pn,rfl,c2,c3,hs⟩
 ·clear f i S T D C s
  obtain⟨e0,e1,ez,nz,n0,a4,a5,a8,n,x,y,z,u⟩:=kU (er:=7) G.out K.out I.out J.out H.out
  go_wp2_with fail
  rw[<-n]
  exact bodyPost_ret (v:=.tuple #[no2,.int .i64 0,.iface 44 (.int .i64 7)]) (by simp[results,Tryz.results27,go_sem,no2,x,y,z]) rfl u.out
 ·have a3:l.cell? ⟨d,o+2,none⟩=some (.bool sn):=(i.cell (p:=⟨d,o+2,none⟩) (zg c2)).trans c2
  have b1:l.cell? ⟨d,o+3,none⟩=some (.slice A pn B):=(i.cell (p:=⟨d,o+3,none⟩) (zg c3)).trans c3
  have c4:d<l.heap.size:=zg a3
  rcases hs with⟨rfl,rfl⟩|⟨rfl,hne,rfl⟩
  ·clear f i c2 c3 S T D C s
   obtain⟨e0,e1,ez,nz,n0,a4,a5,a8,n,x,y,z,u⟩:=kU (er:=7) G.out K.out I.out J.out H.out
   go_wp2_with fail
   rw[<-n]
   exact bodyPost_ret (v:=.tuple #[no2,.int .i64 0,.iface 44 (.int .i64 7)]) (by simp[results,Tryz.results27,go_sem,no2,x,y,z]) rfl u.out
  ·have b6:¬(c:Int)=(pn:Int):=by omega
   have k8:l.cell? ⟨w.heap.size+1,0,none⟩=some (.slice j c ac):=(za ((i.block _ (zf s.out)).trans s.out)).trans rfl
   have c0:w.heap.size+1<l.heap.size:=zg k8
   clear f i c2 c3 S T D C s
   go_upto_region 7 with fail
   go_quiet (fail)
   obtain⟨w7,O⟩:∃w7,w7=l.drewN nq:=⟨_,rfl⟩
   have b0:Hid (Below b.heap.size b w7):=by rw[O];exact below_drewN H.out _
   rw[<-O]
   clear O a3 b1 k8
   obtain⟨e0,e1,ez,nz,n0,a4,a5,a8,n,x,y,z,u⟩:=kU (er:=2) G.out K.out I.out J.out b0.out
   go_wp2_with fail
   rw[<-n]
   exact bodyPost_ret (v:=.tuple #[no2,.int .i64 0,.iface 44 (.int .i64 2)]) (by simp[results,Tryz.results27,go_sem,no2,x,y,z]) rfl u.out
def CallQ (X U:Nat->Prop) (c:Nat) (w:World) (wb:Nat) (a:Tp.Ans) (e:Ending) (w':World):Prop:=∃oa oc ev,e=.returned (.tuple #[.agg #[.int .i64 (a.e.way:Int),.slice oa a.e.out.length oc],.int .i64 a.n,ev])/\AnsP X U c w wb a oa w'/\EvT w.heap.size w' a.err ev
theorem vG {m:Tp.M}{nm:Bs}(c:(m.procs.map (·.name)).Nodup):(m.procs.find? fun q=>q.name==nm&&q.seen)=(Tp.procIn m nm).bind fun p=>if p.seen then some p else none:=by
 unfold Tp.procIn
 generalize m.procs=l at *
 induction l with
 |nil=>rfl
 |cons q t ih =>
  rw[List.map_cons,List.nodup_cons]at c
  by_cases e:q.name=nm
  ·rw[List.find?_cons_of_pos (a:=q) (p:=fun q=>q.name==nm) (by simpa using e)]
   simp only[Option.bind_some]
   by_cases b:q.seen=true
   ·rw[List.find?_cons_of_pos (by simp[e,b]),if_pos b]
   ·rw[List.find?_cons_of_neg (by simp[b]),if_neg b,List.find?_eq_none]
    intro x f d
    simp only[Bool.and_eq_true,beq_iff_eq]at d
    exact c.1 (List.mem_map.2 ⟨x,f,d.1.trans e.symm⟩)
  ·rw[List.find?_cons_of_neg (by simp[e]),List.find?_cons_of_neg (by simpa using e)]
   exact ih c.2
theorem call_any {X U:Nat->Prop}{c:Nat}{w:World}{s fuel ac:Nat}{C:Option Addr}{P:List Pt}{md nm:Bs}{vs:List Int}(h:WZ X U c w s P)(Y:fuel<=800000)(j:md.length<=1000000)(Q:∀v∈vs,Tp.I64 v)(K:IntsAt w vs C)(o:vs.length<=1000000) :
  Calls Tryz.prog 27 #[.pointer (some ⟨s,0,none⟩),.string (bs md),.string (bs nm),.slice C vs.length ac,.int .i64 (fuel:Int)] w (CallQ X U c w s (Tp.callW P md nm vs fuel)):=by
 obtain⟨L,nv,tv,a,V,J,D,M,N⟩:=id h
 have r:∀er:Nat,(∀e w',ErrC w (er:Int) e w'->CallQ X U c w s ⟨P,Tp.no,0,some (er,none)⟩ e w'):=fun er e w' q=>⟨none,0,_,q.2,yY h q.1,rfl⟩
 have e7:((7:Nat):Int)=7:=rfl
 have e2:((2:Nat):Int)=2:=rfl
 unfold Tp.callW
 rcases jr a md with⟨k,l⟩|⟨p,lo,hlo,k,hpm,hlm,l⟩
 ·rw[k]
  exact(call_noM a j o l).mono (fun e w' q=>r 7 e w' q)
 ·rw[k]
  obtain⟨H,rfl,t⟩:=a.ww hlo
  have B:=(t.lo lo hlo).2.2.2.2
  simp only[Option.bind_some]
  rw[hpm,vG B.pn]
  cases d:Tp.procIn lo.m nm with
  |none=>exact(qu a j o hlo l (er:=7) (Or.inl ⟨d,rfl⟩)).mono (fun e w' q=>r 7 e w' q)
  |some pr =>
   simp only[Option.bind_some]
   have I:pr∈lo.m.procs:=List.mem_of_find?_eq_some d
   by_cases g:pr.seen=true
   ·rw[if_pos g]
    simp only
    by_cases i:pr.params.length=vs.length
    ·rw[if_neg (by simpa using i)]
     have O:SizeOf.sizeOf pr.body<=Tp.bodySz P:=Tp.bodySz_bd P 0 [] p (List.mem_of_find?_eq_some k) pr (by rw[hpm];exact I)
     have Z:=Tp.callP_enough (fuel:=fuel) (md:=md) (vs:=vs) (out:=[]) O
     have y:=call_ok (ac:=ac) (gas:=Tp.nd (Tp.bodySz P) fuel 0) t Y hlo d g i.symm Q K (by rw[hlm];exact j) o (by rw[hlm];exact Z)
     have A:=Tp.WI.call (md:=md) (pn:=nm) (args:=vs) (f:=fuel) J
     have R:(Tp.callW P md nm vs fuel).w=(Tp.endOf (Tp.callP (Tp.nd (Tp.bodySz P) fuel 0) 0 md pr vs ⟨P,fuel,[]⟩)).1:=by
      unfold Tp.callW
      rw[k]
      simp only[Option.bind_some]
      rw[hpm,vG B.pn,d]
      simp only[Option.bind_some]
      rw[if_pos g]
      simp only
      rw[if_neg (by simpa using i)]
     rw[R]at A
     rw[hlm]at y
     refine y.mono ?_
     rintro e w'⟨oa,oc,W,E,q2,q3,F,q5,q6,q7,q8,q9,S⟩
     refine⟨oa,oc,.nilIface,?_,⟨⟨U,⟨L,nv,some H,E,V,A,D,(fun a0 T=>?_),fun x hx=>N x (by rw[a.mw,<-E.mw];exact hx)⟩,⟨q6,q7,q8,q5,fun b u hu=>F b u (fun z=>hu ((D b).2 (Or.inl z))),fun b u=>Or.inl u⟩⟩,q2,q3,q9,S⟩,rfl⟩
     ·rw[W]
      unfold nOf
      cases Tp.callP (Tp.nd (Tp.bodySz P) fuel 0) 0 md pr vs ⟨P,fuel,[]⟩<;>rfl
     ·cases T
      obtain⟨n,r1,G⟩:=M H rfl
      exact⟨n,by omega,G.on (F _ G.lt t.tx.2.2)⟩
    ·rw[if_pos (by simpa using i)]
     exact(qu a j o hlo l (er:=2) (Or.inr ⟨pr,d,Or.inr ⟨g,fun e=>i e.symm,rfl⟩⟩)).mono (fun e w' q=>r 2 e w' q)
   ·rw[if_neg g]
    exact(qu a j o hlo l (er:=7) (Or.inr ⟨pr,d,Or.inl ⟨by simpa using g,rfl⟩⟩)).mono (fun e w' q=>r 7 e w' q)
theorem WZ.eqU {X U:Nat->Prop}{c:Nat}{w:World}{e:Nat}{P:List Pt}(h:WZ X U c w e P):∃L d a,U=Mut L e a d/\WX X w e L P d a/\L.length<=10/\Tp.WI ofS P/\MapC w a L c/\∀m∈Tp.ms P,Tp.nM m<=9000:=by
 obtain⟨L,d,a,f,g,i,j,k,l⟩:=h
 exact⟨L,d,a,funext fun b=>propext (j b),f,g,i,k,l⟩
theorem vT {X U D:Nat->Prop}{c:Nat}{w:World}{a fuel:Nat}{P:List Pt}{m:Tp.M}{j g n d:Option Addr}{l i o f:Nat}(h:WZ X U c w a P)(N:∀b,X b->b<w.heap.size)(Q:c<=90)(u:MB w w.heap.size m j g n d l i o f)(H:MD w D m j g n d l i o f)(K:∀b,D b->b<w.heap.size->¬X b/\¬U b)(y:Tp.WM m)(J:Tp.nM m<=9000)(S:fuel<=800000) :
  Calls Tryz.prog 17 #[.pointer (some ⟨a,0,none⟩),.agg (mcells (bs m.name) (.slice j m.imports.length l) (.slice g m.vars.length i) (.slice n m.procs.length o) (.slice d m.body.length f)),.int .i64 (fuel:Int)] w (LoadQ X U c w a (Tp.loadW ofS P m fuel)):=by
 have B:∀er:Nat×Option Nat,(∀e w',ErrP w er e w'->LoadQ X U c w a ⟨P,Tp.no,0,some er⟩ e w'):=fun er e w' q=>by
  obtain⟨O,v,R,F⟩:=q
  exact⟨none,0,v,R,Nat.le_refl _,yY h O,F⟩
 obtain⟨L,z,A,rfl,t,x,E,G,I⟩:=h.eqU
 have C:∀v,Tp.loadW ofS P m fuel=v->Calls Tryz.prog 17 #[.pointer (some ⟨a,0,none⟩),.agg (mcells (bs m.name) (.slice j m.imports.length l) (.slice g m.vars.length i) (.slice n m.procs.length o) (.slice d m.body.length f)),.int .i64 (fuel:Int)] w (LoadQ X (Mut L a A z) c w a v)->Calls Tryz.prog 17 #[.pointer (some ⟨a,0,none⟩),.agg (mcells (bs m.name) (.slice j m.imports.length l) (.slice g m.vars.length i) (.slice n m.procs.length o) (.slice d m.body.length f)),.int .i64 (fuel:Int)] w (LoadQ X (Mut L a A z) c w a (Tp.loadW ofS P m fuel)):=fun v e k=>by rw[e];exact k
 rcases jr t m.name with⟨r,s⟩|⟨p,lo,hlo,r,hpm,hlm,s⟩
 ·exact loadA_ok t x u y N E G Q H K S I J r s
 ·have e:Tp.loadW ofS P m fuel=⟨P,Tp.no,0,some (9,none)⟩:=by
   unfold Tp.loadW
   rw[if_pos (by rw[r];rfl)]
  exact C _ e ((load_twice t x u y s).mono (fun e w' q=>B _ e w' q))
theorem kI {X U D:Nat->Prop}{c:Nat}{w:World}{a:Nat}{P:List Pt}{m:Tp.M}{j g n d:Option Addr}{l i o f:Nat}(h:WZ X U c w a P)(Q:∀b,X b->b<w.heap.size)(R:c<=90)(u:MB w w.heap.size m j g n d l i o f)(I:MD w D m j g n d l i o f)(O:∀b,D b->b<w.heap.size->¬X b/\¬U b)(z:Tp.WM m)(K:Tp.nM m<=9000) :
  Calls Tryz.prog 18 #[.pointer (some ⟨a,0,none⟩),.agg (mcells (bs m.name) (.slice j m.imports.length l) (.slice g m.vars.length i) (.slice n m.procs.length o) (.slice d m.body.length f))] w (SwapQ X U c w a (Tp.swapW ofS P m)):=by
 have C:∀er:Nat×Option Nat,(∀e w',ErrS w er e w'->SwapQ X U c w a ⟨P,Tp.no,0,some er⟩ e w'):=fun er e w' q=>by
  obtain⟨y,v,S,G⟩:=q
  exact⟨v,S,⟨U,(h.on y).more (by omega),Tr.below y⟩,G⟩
 obtain⟨L,A,B,rfl,r,x,F,H,J⟩:=h.eqU
 have E:∀v,Tp.swapW ofS P m=v->Calls Tryz.prog 18 #[.pointer (some ⟨a,0,none⟩),.agg (mcells (bs m.name) (.slice j m.imports.length l) (.slice g m.vars.length i) (.slice n m.procs.length o) (.slice d m.body.length f))] w (SwapQ X (Mut L a B A) c w a v)->Calls Tryz.prog 18 #[.pointer (some ⟨a,0,none⟩),.agg (mcells (bs m.name) (.slice j m.imports.length l) (.slice g m.vars.length i) (.slice n m.procs.length o) (.slice d m.body.length f))] w (SwapQ X (Mut L a B A) c w a (Tp.swapW ofS P m)):=fun v e k=>by rw[e];exact k
 rcases jr r m.name with⟨s,t⟩|⟨p,lo,hlo,s,hpm,hlm,t⟩
 ·have e:Tp.swapW ofS P m=⟨P,Tp.no,0,some (7,none)⟩:=by unfold Tp.swapW;rw[s]
  exact E _ e ((swap_none r x u z t).mono (fun e w' q=>C _ e w' q))
 ·obtain⟨T,N,_⟩:=r.ww hlo
  exact swapN r x u z N Q H R I O K s hpm hlo hlm t F J
end Go.Proofs.YtibncofnnlbmcaaGreatDoor
