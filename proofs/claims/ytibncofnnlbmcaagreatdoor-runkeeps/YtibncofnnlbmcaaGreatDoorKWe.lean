import Derived.Test.YtibncofnnlbmcaaGreatDoorKWd
set_option maxRecDepth 100000
set_option maxHeartbeats 4000000
namespace Go.Proofs.YtibncofnnlbmcaaGreatDoor
open Go.RowKit
open Tp (Tok hd tx at' stp X S)
def VPd (D:Nat->Prop) (l:List X) (v:Value) (w:World):Prop:=∃ls:List Value,v=ls.headD (.pointer none)/\RepL w D l ls/\ls.length<=1
def VOd (D:Nat->Prop) (l:List S) (v:Value) (w:World):Prop:=∃cs,RepS w D l cs/\OwnS w D v l.length cs
theorem VPd.mono {w w':World}{D D':Nat->Prop}(e:∀b,D b->b<w.heap.size->w'.heap[b]?=w.heap[b]?/\D' b){l:List X}{v:Value}(h:VPd D l v w):VPd D' l v w':=by
 obtain⟨f,a,c,d⟩:=h;exact⟨f,a,RepL.mono e _ _ _ zn c,d⟩
theorem VOd.mono {w w':World}{D D':Nat->Prop}(a:∀b,D b->b<w.heap.size->w'.heap[b]?=w.heap[b]?/\D' b){l:List S}{v:Value}(h:VOd D l v w):VOd D' l v w':=by
 obtain⟨cs,c,d⟩:=h;exact⟨cs,c.mono' a,d.mono a⟩
theorem VPd.ext {w w':World}{D:Nat->Prop}{b:Nat}(k:Ext b w w')(c:¬D b){l:List X}{v:Value}(h:VPd D l v w):VPd D l v w' :=
 h.mono (fun i a d=>⟨k.block i d (fun e=>c (e ▸ a)),a⟩)
theorem VOd.ext {w w':World}{D:Nat->Prop}{b:Nat}(k:Ext b w w')(c:¬D b){l:List S}{v:Value}(h:VOd D l v w):VOd D l v w' :=
 h.mono (fun i a d=>⟨k.block i d (fun e=>c (e ▸ a)),a⟩)
theorem VP.d {B C:Nat}{l:List X}{v:Value}{w:World}(h:VP B l v w)(e:B=C):VPd (fun i=>C<=i) l v w:=by subst e;exact h
theorem VO.d {B C:Nat}{l:List S}{v:Value}{w:World}(h:VO B l v w)(e:B=C):VOd (fun i=>C<=i) l v w:=by subst e;exact h
theorem VPd.p {B:Nat}{D:Nat->Prop}{l:List X}{v:Value}{w:World}(h:VPd D l v w)(e:∀i,D i->B<=i):VP B l v w:=h.mono (fun i a _=>⟨rfl,e i a⟩)
theorem VOd.o {B:Nat}{D:Nat->Prop}{l:List S}{v:Value}{w:World}(h:VOd D l v w)(e:∀i,D i->B<=i):VO B l v w:=h.mono (fun i a _=>⟨rfl,e i a⟩)
theorem sx3_len {f b:Nat}{r g:List Tok}{s:List S}(h:Tp.sx f 3 b r=.ok (s,g)):s.length=1:=by
 cases f with
 |zero=>cases h
 |succ f =>
  rcases hb:blockS f 2 b Tp.wThen r with er|⟨i,c⟩
  ·rw[uD hb]at h;cases h
  ·obtain⟨d,⟨x,l,rfl⟩,_⟩:=sx3_ok hb
   rw[d]at h
   unfold branchT withElse at h
   by_cases c1:tx c=Tp.wElsif
   ·simp only[c1,if_true,bind,Except.bind]at h
    cases a:Tp.sx f 3 (b+1) c with
    |error e=>rw[a]at h;cases h
    |ok u=>rw[a]at h;simp only[Except.ok.injEq,Prod.mk.injEq]at h;rw[<-h.1];rfl
   ·by_cases c2:tx c=Tp.wElse
    ·simp only[c2,if_true,bind,Except.bind,show ¬(Tp.wElse=Tp.wElsif) by decide,if_false]at h
     cases a:Tp.sx f 0 (b+1) (stp c) with
     |error e=>rw[a]at h;cases h
     |ok u=>rw[a]at h;simp only[Except.ok.injEq,Prod.mk.injEq]at h;rw[<-h.1];rfl
    ·simp only[c1,c2,if_false,Except.ok.injEq,Prod.mk.injEq]at h;rw[<-h.1];rfl
theorem qw {p:Ps}{n:List Tok}{f:Nat}(hL:LevelC p n f)(hS:StmtsC p n f)(hB:BranchC p n f):BranchC p n (f+1):=by
 intro w r b h hb hn
 have m7:=zg h.c0
 have m6:(b:Int)<=10:=by omega
 have h9:blockS f 2 b Tp.wThen r≠.error (99,0):=fun e=>hn (uD e)
 have e8:=fun W (hW:St W p n r 0 b)=>xE hL hS hW hb 2 Tp.wThen (bs Tp.wThen) rfl h9
 have HN:Hid (Tp.sx (f+1) 3 b r≠.error (99,0)):=hn
 have m4:Hid (StmtsC p n f):=hS
 have m3:Hid (BranchC p n f):=hB
 generalize h4:blockS f 2 b Tp.wThen r=res at e8
 have HR:Hid (blockS f 2 b Tp.wThen r=res):=h4
 have HC:Hid (∀W,St W p n r 0 b->Calls Tryz.prog 135 #[.pointer (some ⟨p.pb,0,none⟩),.int .i64 2,.string ⟨#[116,104,101,110]⟩] W fun e w'=>Post p n 0 b W (VS W.heap.size) res e w'):=e8
 clear e8 hn h9 hL hS hB h4
 go_enter Tryz.func136,Tryz.ntmps136
 go_wp2_with fail
 have f9:∀(W:World) ob,Below W.heap.size W (W.alloc ob):=fun W ob=>zb _ _
 refine(HC.out _ (h.below (f9 _ _))).mono ?_
 intro e u H
 have HA:Hid (∀(W:World) ob,Below W.heap.size W (W.alloc ob)):=f9
 clear f9
 rcases res with er|⟨s,j⟩
 ·obtain⟨I,c3⟩:=H
  obtain⟨ab,h1,rfl,h2,h3⟩:=I.out
  go_wp2_with fail
  refine⟨rfl,?_⟩
  rw[uD HR.out]
  exact zt (Ext.below (HA.out _ _)) I c3
 ·obtain⟨v,rfl,J,d6,c3⟩:=H
  obtain⟨a6,⟨x,l,rfl⟩,m0⟩:=sx3_ok HR.out
  have O:Hid (Tp.sx (f+1) 3 b r=branchT f b [⟨2,at' r,[],[],x,l,[]⟩] j):=a6
  clear a6
  obtain⟨C,E,ta,tc,ea,ec,rfl,i3,i6,i5,i2⟩:=J.inv
  have f0:u.heap[w.heap.size]?=some (.cells (scells 0 0 ⟨#[]⟩ (.pointer none) (.pointer none) (.slice none 0 0) (.slice none 0 0)) 181 (0,0)):=(c3.block _ (by simp) (by omega)).trans (zo _ _)
  have g1:Ext p.pb w u:=(Ext.below (HA.out _ _)).trans c3
  have h7:=zf f0
  clear c3 J
  have c4:=d6.c4
  have f4:=d6.fz 4
  have m2:=zg c4
  simp only[scells]
  go_wp2_with fail
  clear c4 f4
  obtain⟨c,U⟩:∃c,c=w.heap.size:=⟨_,rfl⟩
  obtain⟨a,g0⟩:∃a,a=u.heap.size:=⟨_,rfl⟩
  have g4:∀ob i,c+1<=i->i<u.heap.size->((u.setCell ⟨p.pb,4,none⟩ (.int .i64 ((b:Int)+1))).alloc ob).heap[i]?=u.heap[i]?/\(c+1<=i/\i≠a):=by
   intro ob i h1 h2
   exact⟨(Below.heap_alloc _ _ _ (by simpa using h2)).trans (Below.heap_setCell _ _ _ _ (by simp;omega)),h1,by omega⟩
  have i1:(u.setCell ⟨p.pb,4,none⟩ (.int .i64 ((b:Int)+1))).heap.size=a:=by rw[g0];simp
  obtain⟨w2,V⟩:∃w2,w2=(u.setCell ⟨p.pb,4,none⟩ (.int .i64 ((b:Int)+1))).alloc (.cells #[.int .i64 2,.int .i64 (at' r:Int),.string (bs []),.pointer C,.pointer E,.slice ta l.length tc,.slice ea 0 ec] 181):=⟨_,rfl⟩
  have f7:St w2 p n j 0 (b+1):=by rw[V];exact(d6.setBlocks (b+1) ((b:Int)+1) (by omega)).below (HA.out _ _)
  have g2:Ext p.pb w w2:=by rw[V];exact(g1.set 4 _).trans (Ext.below (HA.out _ _))
  have f1:w2.heap[c]?=some (.cells (scells 0 0 ⟨#[]⟩ (.pointer none) (.pointer none) (.slice none 0 0) (.slice none 0 0)) 181 (0,0)):=by
   rw[V,U];exact(Below.heap_alloc _ _ _ (by simpa using h7)).trans ((Below.heap_setCell _ _ _ _ (by simp;omega)).trans f0)
  have f5:w2.heap[a]?=some (.cells (scells 2 (at' r) (bs []) (.pointer C) (.pointer E) (.slice ta l.length tc) (.slice ea 0 ec)) 181 (0,0)):=by
   rw[V,<-i1];exact zo _ _
  have b9:∀i,c+1<=i->i<u.heap.size->w2.heap[i]?=u.heap[i]?/\(c+1<=i/\i≠a):=by rw[V];exact g4 _
  have b6:VPd (fun i=>c+1<=i/\i≠a) [] (.pointer C) w2:=VPd.mono b9 (i3.d (by rw[U];simp))
  have b8:VPd (fun i=>c+1<=i/\i≠a) x (.pointer E) w2:=VPd.mono b9 (i6.d (by rw[U];simp))
  have b7:VOd (fun i=>c+1<=i/\i≠a) l (.slice ta l.length tc) w2:=VOd.mono b9 (i5.d (by rw[U];simp))
  have b5:VOd (fun i=>c+1<=i/\i≠a) [] (.slice ea 0 ec) w2:=VOd.mono b9 (i2.d (by rw[U];simp))
  rw[<-V,<-U,<-g0]
  have m8:p.pb<c:=by omega
  have i0:c<a:=by omega
  have m5:w.heap.size<=c:=by omega
  clear g4 b9 i3 i6 i5 i2 d6 g1 f0 h7 i1 V g0 U m2
  refine(yp f7 Tp.wElsif _ rfl).mono ?_
  rintro e w3⟨rfl,a3⟩
  have b4:=f7.below a3
  have Y:=g2.trans (Ext.below a3)
  have L:=(a3.block c (zf f1)).trans f1
  have M:=(a3.block a (zf f5)).trans f5
  have c2:∀i,(c+1<=i/\i≠a)->i<w2.heap.size->w3.heap[i]?=w2.heap[i]?/\(c+1<=i/\i≠a):=fun i X hl=>⟨a3.block i hl,X⟩
  have a7:=b6.mono c2
  have b1:=b8.mono c2
  have a9:=b7.mono c2
  have c9:=b5.mono c2
  clear f7 g2 f1 f5 b6 b8 b7 b5 c2 a3
  go_upto_if 14 with fail
  go_cut [] (fun wc=>∃(g:List S) (P:Option Addr) (Q:Nat) (t:List Tok),St wc p n t 0 (b+1)/\Ext p.pb w wc /\
   wc.heap[c]?=some (.cells (scells 0 0 ⟨#[]⟩ (.pointer none) (.pointer none) (.slice none 0 0) (.slice none 0 0)) 181 (0,0)) /\
   wc.heap[a]?=some (.cells (scells 2 (at' r) (bs []) (.pointer C) (.pointer E) (.slice ta l.length tc) (.slice P g.length Q)) 181 (0,0)) /\
   VPd (fun i=>c+1<=i/\i≠a) [] (.pointer C) wc/\VPd (fun i=>c+1<=i/\i≠a) x (.pointer E) wc/\VOd (fun i=>c+1<=i/\i≠a) l (.slice ta l.length tc) wc /\
   VOd (fun i=>c+1<=i/\i≠a) g (.slice P g.length Q) wc/\Tp.sx (f+1) 3 b r=.ok ([⟨2,at' r,[],[],x,l,g⟩],t))
  case first =>
   by_cases a4:tx j=Tp.wElsif
   ·have m1:=decide_eq_true a4
    have G:Hid (tx j=Tp.wElsif):=a4
    clear a4
    have c1:Tp.sx f 3 (b+1) j≠.error (99,0):=by
     intro e;apply HN.out;rw[O.out];unfold branchT;rw[if_pos G.out,e];rfl
    have T:=m3.out w3 j (b+1) b4 m0 c1
    generalize a5:Tp.sx f 3 (b+1) j=res2 at T
    have a2:Hid (Tp.sx f 3 (b+1) j=res2):=a5
    have f8:Hid (Calls Tryz.prog 136 #[.pointer (some ⟨p.pb,0,none⟩)] w3 fun e w'=>Post p n 0 (b+1) w3 (VS w3.heap.size) res2 e w'):=T
    clear T a5 c1
    go_wp2_with fail
    refine f8.out.mono ?_
    intro e m H
    rcases res2 with er|⟨g,t⟩
    ·obtain⟨I,k⟩:=H
     obtain⟨ab,h1,rfl,h2,h3⟩:=I.out
     go_wp2_with fail
     refine⟨rfl,?_⟩
     rw[O.out,show branchT f b [⟨2,at' r,[],[],x,l,[]⟩] j=.error er by unfold branchT;rw[if_pos G.out,a2.out];rfl]
     exact zt Y I k
    ·obtain⟨v,rfl,J,N,k⟩:=H
     have e9:=sx3_len a2.out
     obtain⟨c5,c8,c6,e1,e5,e2,d8,e4,e3,e0,d9,rfl,i4⟩:=J
     have b3:=VO.one (s:=g) ⟨c5,c8,c6,e1,e5,e2,d8,e4,e3,e0,d9,rfl,i4⟩ k.size e9
     have d3:=zf M
     have a0:=(k.block c (zf L) (by omega)).trans L
     have y:=(k.block a d3 (by omega)).trans M
     have d4:=zf y
     have Z:=Y.trans k
     have a8:=a7.ext k (by omega)
     have b2:=b1.ext k (by omega)
     have b0:=a9.ext k (by omega)
     clear a7 b1 a9 c9 Y b4 k L M i4
     have k6:m.cell? ⟨a,6,none⟩=some (.slice ea 0 ec):=za y
     have z6:m.frozen? ⟨a,6,none⟩=false:=zi y
     simp only[scells]
     go_wp2_with fail
     go_meet
     case rel =>
      have K:=HA.out m (.cells #[.int .i64 (c5:Int),.int .i64 (c8:Int),.string (bs c6),.pointer e1,.pointer e5,.slice e2 e4 e3,.slice d8 e0 d9] 181)
      rw[<-World.setCell_alloc_past (w:=m) (.cells #[.int .i64 (c5:Int),.int .i64 (c8:Int),.string (bs c6),.pointer e1,.pointer e5,.slice e2 e4 e3,.slice d8 e0 d9] 181) a 6 (.slice (some ⟨m.heap.size,0,none⟩) 1 1) d4]
      simp only[scells]at b3
      have d7:=N.below K
      have c7:=Z.trans (Ext.below K)
      have d5:=(K.block c (by omega)).trans a0
      have a1:=(K.block a d4).trans y
      have d0:=a8.ext (b:=p.pb) (Ext.below K) (by omega)
      have d2:=b2.ext (b:=p.pb) (Ext.below K) (by omega)
      have d1:=b0.ext (b:=p.pb) (Ext.below K) (by omega)
      generalize m.alloc (.cells #[.int .i64 (c5:Int),.int .i64 (c8:Int),.string (bs c6),.pointer e1,.pointer e5,.slice e2 e4 e3,.slice d8 e0 d9] 181)=q at b3 d7 c7 d5 a1 d0 d2 d1 ⊢
      have R:Below a q (q.setCell ⟨a,6,none⟩ (.slice (some ⟨m.heap.size,0,none⟩) 1 1)):=zq (Below.refl _ _) zn 6 _
      have B:Ext a q (q.setCell ⟨a,6,none⟩ (.slice (some ⟨m.heap.size,0,none⟩) 1 1)):=(Ext.refl _ _).set 6 _
      have i8:VOd (fun i=>c+1<=i/\i≠a) g (.slice (some ⟨m.heap.size,0,none⟩) g.length 1) q:=by
       rw[e9];exact VOd.mono (D:=fun i=>w3.heap.size<=i) (fun i X _=>⟨rfl,by omega⟩) (b3.d rfl)
      refine⟨g,some ⟨m.heap.size,0,none⟩,1,t,d7.belowB R (by omega),c7.trans' (R.mono (by omega)),(R.block c i0).trans d5,?_,d0.ext B (by omega),d2.ext B (by omega),d1.ext B (by omega),i8.ext B (by omega),?_⟩
      ·rw[e9];exact zu 6 _ a1
      ·rw[O.out,show branchT f b [⟨2,at' r,[],[],x,l,[]⟩] j=.ok ([⟨2,at' r,[],[],x,l,g⟩],t) by unfold branchT;rw[if_pos G.out,a2.out];rfl]
   ·have m1:=decide_eq_false a4
    have G:Hid (¬tx j=Tp.wElsif):=a4
    clear a4
    go_wp2_with fail
    refine(zP b4 Tp.wElse _ rfl).mono ?_
    rintro e m⟨rfl,N,k⟩
    have d3:=zf M
    have a0:=(k.block c (zf L) (by omega)).trans L
    have y:=(k.block a d3 (by omega)).trans M
    have d4:=zf y
    have Z:=Y.trans k
    have a8:=a7.ext k (by omega)
    have b2:=b1.ext k (by omega)
    have b0:=a9.ext k (by omega)
    have g5:=c9.ext k (by omega)
    clear a7 b1 a9 c9 Y b4 k L M d3
    by_cases F:tx j=Tp.wElse
    ·have i7:=decide_eq_true F
     rw[if_pos F]at N
     have HL:Hid (tx j=Tp.wElse):=F
     clear F
     have c1:Tp.sx f 0 (b+1) (stp j)≠.error (99,0):=by
      intro e;apply HN.out;rw[O.out];unfold branchT;rw[if_neg G.out,if_pos HL.out,e];rfl
     have T:=m4.out m (stp j) (b+1) N (by omega) c1
     generalize a5:Tp.sx f 0 (b+1) (stp j)=res2 at T
     have a2:Hid (Tp.sx f 0 (b+1) (stp j)=res2):=a5
     have f8:Hid (Calls Tryz.prog 69 #[.pointer (some ⟨p.pb,0,none⟩)] m fun e w'=>Post p n 0 (b+1) m (VL m.heap.size) res2 e w'):=T
     clear T a5 c1
     go_wp2_with fail
     refine f8.out.mono ?_
     intro e q H
     rcases res2 with er|⟨g,t⟩
     ·obtain⟨I,z⟩:=H
      obtain⟨ab,h1,rfl,h2,h3⟩:=I.out
      go_wp2_with fail
      refine⟨rfl,?_⟩
      rw[O.out,show branchT f b [⟨2,at' r,[],[],x,l,[]⟩] j=.error er by unfold branchT;rw[if_neg G.out,if_pos HL.out,a2.out];rfl]
      exact zt Z I z
     ·obtain⟨v,rfl,J,d7,z⟩:=H
      obtain⟨ao,cap,rfl⟩:=J.shape
      have d5:=(z.block c (zf a0) (by omega)).trans a0
      have a1:=(z.block a d4 (by omega)).trans y
      have c7:=Z.trans z
      have d0:=a8.ext z (by omega)
      have d2:=b2.ext z (by omega)
      have d1:=b0.ext z (by omega)
      have b3:VOd (fun i=>c+1<=i/\i≠a) g (.slice ao g.length cap) q:=VOd.mono (D:=fun i=>m.heap.size<=i) (fun i X _=>⟨rfl,by omega⟩) (J.vo.d rfl)
      clear a8 b2 b0 g5 Z N z a0 y J
      have k6:q.cell? ⟨a,6,none⟩=some (.slice ea 0 ec):=za a1
      have z6:q.frozen? ⟨a,6,none⟩=false:=zi a1
      go_wp2_with fail
      go_meet
      case rel =>
       have R:Below a q (q.setCell ⟨a,6,none⟩ (.slice ao g.length cap)):=zq (Below.refl _ _) zn 6 _
       have B:Ext a q (q.setCell ⟨a,6,none⟩ (.slice ao g.length cap)):=(Ext.refl _ _).set 6 _
       refine⟨g,ao,cap,t,d7.belowB R (by omega),c7.trans' (R.mono (by omega)),(R.block c i0).trans d5,zu 6 _ a1,d0.ext B (by omega),d2.ext B (by omega),d1.ext B (by omega),b3.ext B (by omega),?_⟩
       rw[O.out,show branchT f b [⟨2,at' r,[],[],x,l,[]⟩] j=.ok ([⟨2,at' r,[],[],x,l,g⟩],t) by unfold branchT;rw[if_neg G.out,if_pos HL.out,a2.out];rfl]
    ·have i7:=decide_eq_false F
     rw[if_neg F]at N
     have HL:Hid (¬tx j=Tp.wElse):=F
     clear F
     go_wp2_with fail
     go_meet
     case rel =>
      refine⟨[],ea,ec,j,N,Z,a0,y,a8,b2,b0,g5,?_⟩
      rw[O.out,show branchT f b [⟨2,at' r,[],[],x,l,[]⟩] j=.ok ([⟨2,at' r,[],[],x,l,[]⟩],j) by unfold branchT;rw[if_neg G.out,if_neg HL.out]]
  case rest =>
   obtain⟨g,P,Q,t,e6,h0,f3,f6,b6,b8,b7,b5,a6⟩:=hcut
   have i9:Hid (Tp.sx (f+1) 3 b r=.ok ([⟨2,at' r,[],[],x,l,g⟩],t)):=a6
   clear a6 a7 b1 a9 c9 Y b4 L M
   have c4:=e6.c4
   have f4:=e6.fz 4
   go_upto_region 8 with fail
   clear c4 f4
   have A:Ext p.pb wc (wc.setCell ⟨p.pb,4,none⟩ (.int .i64 (b:Int))):=(Ext.refl _ _).set 4 _
   have h6:=e6.setBlocks b (b:Int) rfl
   have g3:=h0.trans A
   have h5:=(A.block a (zf f6) (by omega)).trans f6
   have f2:=(A.block c (zf f3) (by omega)).trans f3
   have g7:=b6.ext A (by omega)
   have g9:=b8.ext A (by omega)
   have g8:=b7.ext A (by omega)
   have g6:=b5.ext A (by omega)
   generalize wc.setCell ⟨p.pb,4,none⟩ (.int .i64 (b:Int))=w7 at A h6 g3 h5 f2 g7 g9 g8 g6 ⊢
   clear A e6 h0 f6 f3 b6 b8 b7 b5
   have ks:∀i,w7.cell? ⟨a,i,none⟩=(scells 2 (at' r) (bs []) (.pointer C) (.pointer E) (.slice ta l.length tc) (.slice P g.length Q))[i]?:=fun i=>za h5
   have kr:∀i,w7.cell? ⟨c,i,none⟩=(scells 0 0 ⟨#[]⟩ (.pointer none) (.pointer none) (.slice none 0 0) (.slice none 0 0))[i]?:=fun i=>za f2
   have zr:∀i,w7.frozen? ⟨c,i,none⟩=false:=fun i=>zi f2
   simp only[scells]at ks kr
   go_wp2_with fail
   refine bodyPost_ret (v:=.agg (scells (2:Nat) (at' r) (bs []) (.pointer C) (.pointer E) (.slice ta l.length tc) (.slice P g.length Q))) (by simp[results,Tryz.results136,go_sem,kr,scells]) rfl ?_
   rw[i9.out]
   have e7:=yn w7 c (.int .i64 2) (.int .i64 (at' r:Int)) (.string (bs [])) (.pointer C) (.pointer E) (.slice ta l.length tc) (.slice P g.length Q)
   have h8:=zL w7 c (.int .i64 2) (.int .i64 (at' r:Int)) (.string (bs [])) (.pointer C) (.pointer E) (.slice ta l.length tc) (.slice P g.length Q)
   refine⟨_,rfl,VS.mk' ?_ ?_ ?_ ?_,?_,?_⟩
   ·exact(g7.ext e7 (by omega)).p (fun i X=>by omega)
   ·exact(g9.ext e7 (by omega)).p (fun i X=>by omega)
   ·exact(g8.ext e7 (by omega)).o (fun i X=>by omega)
   ·exact(g6.ext e7 (by omega)).o (fun i X=>by omega)
   ·exact h6.belowB h8 (by omega)
   ·exact g3.trans' (h8.mono m5)
theorem VX.inv {w:World}{B bb:Nat}{x:List X}(h:VX B x (.pointer (some ⟨bb,0,none⟩)) w) :
  ∃(code pos n:Nat) (a name d:List UInt8) (left right args:List X) (c:Option Addr) (rv e:Value),x=[⟨code,pos,n,a,name,d,left,right,args⟩]/\B<=bb /\
   w.heap[bb]?=some (.cells (xcells code pos n (bs a) (bs name) (bs d) (.pointer c) rv e) 216 (0,0))/\VP B left (.pointer c) w:=by
 unfold VX at h
 cases x with
 |nil=>rw[RepL]at h;simp at h
 |cons x xs =>
  obtain⟨code,pos,r,a,name,d,left,right,args⟩:=x
  rw[RepL]at h
  obtain⟨b,e,j,rs,t,s,g,o,i,p,q,u,v,y,z,k⟩:=h
  simp only[List.cons.injEq,Value.pointer.injEq,Option.some.injEq,Addr.mk.injEq,and_true]at g
  obtain⟨rfl,rfl⟩:=g
  have m:xs=[]:=List.eq_nil_of_length_eq_zero (by rw[<-RepL.len _ _ k];rfl)
  subst m
  have f:VP B left (j.headD (.pointer none)) w:=⟨j,rfl,p,q⟩
  obtain⟨c,l⟩:=f.ptr
  rw[l]at i f
  exact⟨code,pos,r,a,name,d,left,right,args,c,_,e,rfl,o,i,f⟩
structure Plainly (r:List Tok):Prop where
 a:tx r≠Tp.wReturn
 b:tx r≠Tp.wWrite
 c:tx r≠Tp.wWhile
 d:tx r≠Tp.wIf
theorem VX.d {B:Nat}{D:Nat->Prop}{l:List X}{v:Value}{w:World}(h:VX B l v w)(e:∀i,B<=i->D i):VPd D l v w:=⟨[v],rfl,RepL.mono (fun i a _=>⟨rfl,e i a⟩) _ _ _ zn h,by simp⟩
theorem blk_set7 {w:World}{b:Nat}{j c1 c2 c3 k l m:Value}{t:TypeId}(h:w.heap[b]?=some (.cells #[j,c1,c2,c3,k,l,m] t (0,0)))(a c d e f g i:Value) :
  (((((((w.setCell ⟨b,0,none⟩ a).setCell ⟨b,1,none⟩ c).setCell ⟨b,2,none⟩ d).setCell ⟨b,3,none⟩ e).setCell ⟨b,4,none⟩ f).setCell ⟨b,5,none⟩ g).setCell ⟨b,6,none⟩ i).heap[b]?=some (.cells #[a,c,d,e,f,g,i] t (0,0)) :=
 by simpa using zu 6 i (zu 5 g (zu 4 f (zu 3 e (zu 2 d (zu 1 c (zu 0 a h))))))
theorem sx2_bad {f b:Nat}{r:List Tok}{er:Tp.Er}(k:Plainly r)(h:Tp.ex f 6 0 0 [] r=.error er):Tp.sx (f+1) 2 b r=.error er:=by
 rw[Tp.sx];simp only[show ¬(2=0) by omega,show ¬(2=1) by omega,if_false,if_true,k.a,k.b,k.c,k.d,or_self,h,bind,Except.bind]
theorem sx2_call {f b:Nat}{r e:List Tok}{x:List X}(k:Plainly r)(h:Tp.ex f 6 0 0 [] r=.ok (x,e))(g:Tp.codeOf x=6) :
  Tp.sx (f+1) 2 b r=(do let r2 <- Tp.want Tp.mSemi e;.ok ([⟨6,at' r,[],[],x,[],[]⟩],r2)):=by
 rw[Tp.sx];simp only[show ¬(2=0) by omega,show ¬(2=1) by omega,if_false,if_true,k.a,k.b,k.c,k.d,or_self,h,g,bind,Except.bind]
theorem sx2_far {f b:Nat}{r e:List Tok}{x:List X}(k:Plainly r)(h:Tp.ex f 6 0 0 [] r=.ok (x,e))(g:Tp.codeOf x≠6)(i:Tp.modOf x≠[]) :
  Tp.sx (f+1) 2 b r=.error (3,at' e):=by
 rw[Tp.sx];simp only[show ¬(2=0) by omega,show ¬(2=1) by omega,if_false,if_true,k.a,k.b,k.c,k.d,or_self,h,g,i,bind,Except.bind]
theorem sx2_set {f b:Nat}{r e:List Tok}{x:List X}(k:Plainly r)(h:Tp.ex f 6 0 0 [] r=.ok (x,e))(g:Tp.codeOf x≠6)(i:Tp.modOf x=[]) :
  Tp.sx (f+1) 2 b r=(do let r2 <- Tp.want Tp.mSet e;let (y,r3) <- Tp.ex f 0 0 0 [] r2;let r4 <- Tp.want Tp.mSemi r3;.ok ([⟨1,at' r,Tp.nameOf x,Tp.leftOf x,y,[],[]⟩],r4)):=by
 rw[Tp.sx];simp only[show ¬(2=0) by omega,show ¬(2=1) by omega,if_false,if_true,k.a,k.b,k.c,k.d,or_self,h,g,i,bind,Except.bind]
theorem expr_er {p:Ps}{c:List Tok}{f:Nat}(g:Hid (LevelC p c f)){w:World}{r:List Tok}{o b:Nat}{er:Tp.Er}(h:St w p c r o b)(i:o<=11)(a:Hid (Tp.ex f 0 o 0 [] r=.error er))(d:Hid (er≠(99,0))) :
  Calls Tryz.prog 157 #[.pointer (some ⟨p.pb,0,none⟩)] w fun e w'=>Thrown w.heap.size er e w'/\Ext p.pb w w':=by
 have:=y6 g.out h i (by rw[a.out];intro e;exact d.out (by injection e))
 rw[a.out]at this
 exact this
theorem expr_ok {p:Ps}{a:List Tok}{f:Nat}(k:Hid (LevelC p a f)){w:World}{r g:List Tok}{o b:Nat}{x:List X}(h:St w p a r o b)(l:o<=11)(d:Hid (Tp.ex f 0 o 0 [] r=.ok (x,g))) :
  Calls Tryz.prog 157 #[.pointer (some ⟨p.pb,0,none⟩)] w fun e w'=>∃bb,e=.returned (.pointer (some ⟨bb,0,none⟩))/\VX w.heap.size x (.pointer (some ⟨bb,0,none⟩)) w'/\St w' p a g o b/\Ext p.pb w w':=by
 have:=y6 k.out h l (by rw[d.out];intro e;cases e)
 rw[d.out]at this
 refine this.mono ?_
 intro e w' m
 obtain⟨v,i,c,j⟩:=m
 obtain⟨bb,rfl⟩:=c.ptr
 exact⟨bb,i,c,j⟩
theorem jX {p:Ps}{u:List Tok}{f:Nat}(hL:LevelC p u f)(hM:NamedC p u f){w:World}{r:List Tok}{b:Nat}(h:St w p u r 0 b)(hk:Plainly r)(hn:Tp.sx (f+1) 2 b r≠.error (99,0)) :
  Calls Tryz.prog 137 #[.pointer (some ⟨p.pb,0,none⟩)] w fun e w'=>Post p u 0 b w (VS w.heap.size) (Tp.sx (f+1) 2 b r) e w':=by
 have f5:=zg h.c0
 have e1:Tp.ex f 6 0 0 [] r≠.error (99,0):=fun e=>hn (sx2_bad hk e)
 have b2:=fun W (hW:St W p u r 0 b)=>hM W r 0 b hW (by omega) e1
 have HN:Hid (Tp.sx (f+1) 2 b r≠.error (99,0)):=hn
 have HL:Hid (LevelC p u f):=hL
 have HK:Hid (Plainly r):=hk
 generalize d5:Tp.ex f 6 0 0 [] r=res at b2
 have HR:Hid (Tp.ex f 6 0 0 [] r=res):=d5
 have HC:Hid (∀W,St W p u r 0 b->Calls Tryz.prog 158 #[.pointer (some ⟨p.pb,0,none⟩)] W fun e w'=>Post p u 0 b W (VX W.heap.size) res e w'):=b2
 clear b2 hn e1 hL hM hk d5
 go_enter Tryz.func137,Tryz.ntmps137
 go_wp2_with fail
 have b0:∀ob,Below w.heap.size w (w.alloc ob):=fun ob=>zb _ _
 refine(zK (h.below (b0 _))).mono ?_
 rintro e w1⟨rfl,a8⟩
 have d6:=(h.below (b0 _)).below a8
 have b8:w1.heap[w.heap.size]?=some (.cells (scells 0 0 ⟨#[]⟩ (.pointer none) (.pointer none) (.slice none 0 0) (.slice none 0 0)) 181 (0,0)):=(a8.block _ (by simp)).trans (zo _ _)
 have b3:Ext p.pb w w1:=(Ext.below (b0 _)).trans (Ext.below a8)
 have c4:=zf b8
 clear b0 a8
 go_wp2_with fail
 refine(HC.out _ d6).mono ?_
 intro e w2 E
 rcases res with er|⟨x,g⟩
 ·obtain⟨m,a3⟩:=E
  obtain⟨U,V,rfl,X,Y⟩:=m.out
  go_wp2_with fail
  refine⟨rfl,?_⟩
  rw[sx2_bad HK.out HR.out]
  exact zt b3 m a3
 ·obtain⟨v,rfl,K,O,a3⟩:=E
  obtain⟨bb,rfl⟩:=K.ptr
  obtain⟨code,pos,n,a4,name,op,left,right,args,o,rv,av,I,f1,Q,d1⟩:=K.inv
  have N:=(a3.block w.heap.size c4 (by omega)).trans b8
  have M:=b3.trans a3
  obtain⟨a,e2⟩:∃a,a=w.heap.size:=⟨_,rfl⟩
  rw[<-e2]at N c4 ⊢
  have c9:VX (a+1) x (.pointer (some ⟨bb,0,none⟩)) w2:=K.base (by omega)
  have b6:VP (a+1) left (.pointer o) w2:=d1.base (by omega)
  have f6:p.pb<a:=by omega
  have e3:w.heap.size<=a:=by omega
  have f4:a<bb:=by omega
  clear K d1 a3 b3 b8 d6 c4 e2 f1
  have k0:w2.cell? ⟨bb,0,none⟩=some (.int .i64 (code:Int)):=za Q
  have k3:w2.cell? ⟨bb,3,none⟩=some (.string (bs a4)):=za Q
  by_cases a1:code=6
  ·have c7:((code:Int)==6)=true:=by simp;omega
   have z:Hid (Tp.sx (f+1) 2 b r=(do let r2 <- Tp.want Tp.mSemi g;.ok ([⟨6,at' r,[],[],x,[],[]⟩],r2))):=sx2_call HK.out HR.out (by rw[I];exact a1)
   clear a1 I
   go_wp2_with fail
   clear k0 k3
   by_cases t:tx g=Tp.mSemi
   ·refine(zF O Tp.mSemi _ rfl t).mono ?_
    rintro e c⟨rfl,R,l⟩
    have A:Hid (Tp.want Tp.mSemi g=.ok (stp g)):=by unfold Hid Tp.want;rw[if_pos t]
    have G:=(l.block a (zf N) (by omega)).trans N
    have f2:=VX.ext l (by omega) c9
    have P:=M.trans l
    clear t O l N c9 b6 M Q
    have kr:∀i,c.cell? ⟨a,i,none⟩=(scells 0 0 ⟨#[]⟩ (.pointer none) (.pointer none) (.slice none 0 0) (.slice none 0 0))[i]?:=fun i=>za G
    have zr:∀i,c.frozen? ⟨a,i,none⟩=false:=fun i=>zi G
    simp only[scells]at kr
    go_wp2_with fail
    refine bodyPost_ret (v:=.agg (scells (6:Nat) (at' r) (bs []) (.pointer none) (.pointer (some ⟨bb,0,none⟩)) (.slice none 0 0) (.slice none 0 0))) (by simp[results,Tryz.results137,go_sem,kr,scells,bs,at']) rfl ?_
    rw[z.out]
    simp only[bind,Except.bind,A.out]
    refine⟨_,rfl,VS.node (Or.inl ⟨rfl,rfl⟩) (Or.inr ?_) (Or.inl ⟨rfl,rfl⟩) (Or.inl ⟨rfl,rfl⟩),?_,?_⟩
    ·exact VX.base (VX.ext (b:=a) (yn c a _ _ _ _ _ _ _) (by omega) f2) (by omega)
    ·exact R.belowB (zL c a _ _ _ _ _ _ _) (by omega)
    ·exact P.trans' ((zL c a _ _ _ _ _ _ _).mono e3)
   ·refine(zM O Tp.mSemi _ rfl t).mono ?_
    rintro e c⟨m,l⟩
    have A:Hid (Tp.want Tp.mSemi g=.error (3,at' g)):=by unfold Hid Tp.want;rw[if_neg t]
    clear t
    obtain⟨U,V,rfl,X,Y⟩:=m.out
    go_wp2_with fail
    refine⟨rfl,?_⟩
    rw[z.out]
    simp only[bind,Except.bind,A.out]
    exact zt M m l
  ·have c7:((code:Int)==6)=false:=by simp;omega
   have b1:Tp.codeOf x≠6:=by rw[I];exact a1
   by_cases S:a4=[]
   ·have c8:(!(bs a4).toList.isEmpty)=false:=by rw[zj,S];rfl
    have z:Hid (Tp.sx (f+1) 2 b r=(do let r2 <- Tp.want Tp.mSet g;let (y,F) <- Tp.ex f 0 0 0 [] r2;let r4 <- Tp.want Tp.mSemi F;.ok ([⟨1,at' r,name,left,y,[],[]⟩],r4))):=by
     have q:=sx2_set (b:=b) HK.out HR.out b1 (by rw[I];exact S)
     rw[I]at q
     exact q
    clear a1 b1 I S
    go_wp2_with fail
    clear k0 k3 c8 c7
    by_cases t:tx g=Tp.mSet
    ·refine(zF O Tp.mSet _ rfl t).mono ?_
     rintro e c⟨rfl,R,l⟩
     have A:Hid (Tp.want Tp.mSet g=.ok (stp g)):=by unfold Hid Tp.want;rw[if_pos t]
     have G:=(l.block a (zf N) (by omega)).trans N
     have a5:=(l.block bb (zf Q) (by omega)).trans Q
     have b7:=b6.ext l (by omega)
     have P:=M.trans l
     clear t O l N c9 b6 M Q
     have y1:c.cell? ⟨bb,4,none⟩=some (.string (bs name)):=za a5
     have y2:c.cell? ⟨bb,6,none⟩=some (.pointer o):=za a5
     have c6:Hid (St c.drew p u (stp g) 0 b):=R.below (zB _)
     have b5:Hid (Ext p.pb w c.drew):=P.trans (Ext.below (zB _))
     have d2:=zf a5
     rcases hres2:Tp.ex f 0 0 0 [] (stp g) with er|⟨y,F⟩
     ·have C:Hid (Tp.ex f 0 0 0 [] (stp g)=.error er):=hres2
      have d7:Hid (er≠(99,0)):=by intro e;apply HN.out;rw[z.out];simp only[bind,Except.bind,A.out,C.out,e]
      clear hres2
      have a6:Hid (∀ob,St (c.alloc ob).drew p u (stp g) 0 b):=fun ob=>R.below (zb _ _).drew
      have a7:Hid (∀ob,Ext p.pb w (c.alloc ob).drew):=fun ob=>P.trans (Ext.below (zb _ _).drew)
      go_wp2_with fail
      go_region_dies
      all_goals first
       | (refine(expr_er HL c6.out (by omega) C d7).mono ?_;intro e j E;obtain⟨U,V,h0,X,Y⟩:=E.1.out;subst h0;refine⟨rfl,?_⟩;rw[z.out];simp only[bind,Except.bind,A.out,C.out];exact zt b5.out E.1 E.2)
       | (refine(expr_er HL (a6.out _) (by omega) C d7).mono ?_;intro e j E;obtain⟨U,V,h0,X,Y⟩:=E.1.out;subst h0;refine⟨rfl,?_⟩;rw[z.out];simp only[bind,Except.bind,A.out,C.out];exact zt (a7.out _) E.1 E.2)
     ·have C:Hid (Tp.ex f 0 0 0 [] (stp g)=.ok (y,F)):=hres2
      have a6:Hid (∀ob,St (c.alloc ob).drew p u (stp g) 0 b):=fun ob=>R.below (zb _ _).drew
      have a7:Hid (∀ob,Ext p.pb w (c.alloc ob).drew):=fun ob=>P.trans (Ext.below (zb _ _).drew)
      clear hres2
      go_upto_region 9 with fail
      go_cut [5] (fun s5 wc=>∃(L s:Nat),s5=.pointer (some ⟨L,0,none⟩)/\a<L/\St wc p u F 0 b/\Ext p.pb w wc /\
       wc.heap[a]?=some (.cells (scells 0 0 ⟨#[]⟩ (.pointer none) (.pointer none) (.slice none 0 0) (.slice none 0 0)) 181 (0,0)) /\
       wc.heap[L]?=some (.cells (scells 1 (at' r) (bs name) (.pointer o) (.pointer (some ⟨s,0,none⟩)) (.slice none 0 0) (.slice none 0 0)) 181 (0,0)) /\
       VPd (fun i=>a+1<=i/\i≠L) left (.pointer o) wc/\VPd (fun i=>a+1<=i/\i≠L) y (.pointer (some ⟨s,0,none⟩)) wc)
      case first =>
       go_region_held3 (fun w'=>w'.cell? ⟨bb,4,none⟩=some (.string (bs name))/\w'.cell? ⟨bb,6,none⟩=some (.pointer o)) (first|(constructor<;>simp[z1,z2,d3,go_sem])|(constructor<;>simp[y1,y2,d2,go_sem])) ((go_at_call 157;first|(refine(expr_ok HL c6.out (by omega) C).mono ?_;rintro e j ⟨s,rfl,K,c2,k⟩;have z1:j.cell? ⟨bb,4,none⟩=some (.string (bs name)):=k.cell (by simpa using y1) (by simp;omega);have z2:j.cell? ⟨bb,6,none⟩=some (.pointer o):=k.cell (by simpa using y2) (by simp;omega);have d3:=zg z1)|(refine(expr_ok HL (a6.out _) (by omega) C).mono ?_;rintro e j ⟨s,rfl,K,c2,k⟩;have z1:j.cell? ⟨bb,4,none⟩=some (.string (bs name)):=k.cell (yf y1 _) (by simp;omega);have z2:j.cell? ⟨bb,6,none⟩=some (.pointer o):=k.cell (yf y2 _) (by simp;omega);have d3:=zg z1;have d0:j.heap[c.heap.size]?=some (.cells #[.int .i64 0,.int .i64 0,.string ⟨#[]⟩,.pointer none,.pointer none,.slice none 0 0,.slice none 0 0] 181 (0,0)):=(k.block _ (by simp) (by omega)).trans (zo _ _);have kz:∀i,j.cell? ⟨c.heap.size,i,none⟩=(#[.int .i64 0,.int .i64 0,.string ⟨#[]⟩,.pointer none,.pointer none,.slice none 0 0,.slice none 0 0]:Array Value)[i]?:=fun i=>za d0;have zz:∀i,j.frozen? ⟨c.heap.size,i,none⟩=false:=fun i=>zi d0)))
       ·go_wp2_with fail
        go_meet
        case rel =>
         have c5:=k.size
         have c5:c.heap.size<=j.heap.size:=k.size
         have a2:=zf G
         have a0:Below j.heap.size j (j.alloc (.cells #[.int .i64 1,.int .i64 ((hd r).pos:Int),.string (bs name),.pointer o,.pointer (some ⟨s,0,none⟩),.slice none 0 0,.slice none 0 0] 181)):=zb _ _
         refine⟨j.heap.size,s,rfl,by omega,c2.below a0,(b5.out.trans k).trans (Ext.below a0),(a0.block a (by omega)).trans ((k.block a a2 (by omega)).trans G),zo _ _,?_,?_⟩
         ·exact VPd.mono (w:=c) (D:=fun i=>a+1<=i) (fun i B J=>⟨(a0.block i (by omega)).trans (k.block i J (by omega)),B,by omega⟩) (b7.d rfl)
         ·refine VPd.mono (D:=fun i=>c.heap.size<=i) (fun i B J=>⟨a0.block i J,by omega,by omega⟩) (VX.d K (fun i B=>B))
       ·go_wp2_with fail
        go_meet
        case rel =>
         have c5:=k.size
         simp at c5
         have a2:=zf G
         have f3:=yn j c.heap.size (.int .i64 1) (.int .i64 ((hd r).pos:Int)) (.string (bs name)) (.pointer o) (.pointer (some ⟨s,0,none⟩)) (.slice none 0 0) (.slice none 0 0)
         have a9:=zL j c.heap.size (.int .i64 1) (.int .i64 ((hd r).pos:Int)) (.string (bs name)) (.pointer o) (.pointer (some ⟨s,0,none⟩)) (.slice none 0 0) (.slice none 0 0)
         refine⟨c.heap.size,s,rfl,a2,c2.belowB a9 (by omega),((a7.out _).trans k).trans' (a9.mono (by omega)),(a9.block a a2).trans ((k.block a (by simp;omega) (by omega)).trans ((Below.heap_alloc c _ a a2).trans G)),blk_set7 d0 _ _ _ _ _ _ _,?_,?_⟩
         ·exact VPd.mono (w:=c) (D:=fun i=>a+1<=i) (fun i B J=>⟨(a9.block i J).trans ((k.block i (by simp;omega) (by omega)).trans (Below.heap_alloc c _ i J)),B,by omega⟩) (b7.d rfl)
         ·exact VPd.mono (D:=fun i=>c.heap.size+1<=i) (fun i B J=>⟨f3.block i J (by omega),by omega,by omega⟩) (VX.d K (fun i B=>by simpa using B))
      case rest =>
       obtain⟨L,s,rfl,f7,c3,b4,b9,c1,d9,e0⟩:=hcut
       clear y1 y2 R P G a5 b7 c6 b5 a6 a7 d2
       go_wp2_with fail
       by_cases T:tx F=Tp.mSemi
       ·refine(zF c3 Tp.mSemi _ rfl T).mono ?_
        rintro e Z⟨rfl,e9,H⟩
        have HM:Hid (Tp.want Tp.mSemi F=.ok (stp F)):=by unfold Hid Tp.want;rw[if_pos T]
        have e8:=(H.block L (zf c1) (by omega)).trans c1
        have d4:=(H.block a (zf b9) (by omega)).trans b9
        have e5:=b4.trans H
        have e6:=d9.ext H (by omega)
        have e7:=e0.ext H (by omega)
        clear T c3 H c1 b9 b4 d9 e0
        have ks:∀i,Z.cell? ⟨L,i,none⟩=(scells 1 (at' r) (bs name) (.pointer o) (.pointer (some ⟨s,0,none⟩)) (.slice none 0 0) (.slice none 0 0))[i]?:=fun i=>za e8
        have kr:∀i,Z.cell? ⟨a,i,none⟩=(scells 0 0 ⟨#[]⟩ (.pointer none) (.pointer none) (.slice none 0 0) (.slice none 0 0))[i]?:=fun i=>za d4
        have zr:∀i,Z.frozen? ⟨a,i,none⟩=false:=fun i=>zi d4
        simp only[scells]at ks kr
        go_wp2_with fail
        refine bodyPost_ret (v:=.agg (scells (1:Nat) (at' r) (bs name) (.pointer o) (.pointer (some ⟨s,0,none⟩)) (.slice none 0 0) (.slice none 0 0))) (by simp[results,Tryz.results137,go_sem,kr,scells]) rfl ?_
        rw[z.out]
        simp only[bind,Except.bind,A.out,C.out,HM.out]
        have e4:=yn Z a (.int .i64 1) (.int .i64 (at' r:Int)) (.string (bs name)) (.pointer o) (.pointer (some ⟨s,0,none⟩)) (.slice none 0 0) (.slice none 0 0)
        have d8:=zL Z a (.int .i64 1) (.int .i64 (at' r:Int)) (.string (bs name)) (.pointer o) (.pointer (some ⟨s,0,none⟩)) (.slice none 0 0) (.slice none 0 0)
        refine⟨_,rfl,VS.mk' ?_ ?_ (VO.nil _ _) (VO.nil _ _),?_,?_⟩
        ·exact(e6.ext e4 (by omega)).p (fun i B=>by omega)
        ·exact(e7.ext e4 (by omega)).p (fun i B=>by omega)
        ·exact e9.belowB d8 (by omega)
        ·exact e5.trans' (d8.mono e3)
       ·refine(zM c3 Tp.mSemi _ rfl T).mono ?_
        rintro e Z⟨m,H⟩
        have HM:Hid (Tp.want Tp.mSemi F=.error (3,at' F)):=by unfold Hid Tp.want;rw[if_neg T]
        clear T
        obtain⟨U,V,rfl,X,Y⟩:=m.out
        go_wp2_with fail
        refine⟨rfl,?_⟩
        rw[z.out]
        simp only[bind,Except.bind,A.out,C.out,HM.out]
        exact zt b4 m H
    ·refine(zM O Tp.mSet _ rfl t).mono ?_
     rintro e c⟨m,l⟩
     have A:Hid (Tp.want Tp.mSet g=.error (3,at' g)):=by unfold Hid Tp.want;rw[if_neg t]
     clear t
     obtain⟨U,V,rfl,X,Y⟩:=m.out
     go_wp2_with fail
     refine⟨rfl,?_⟩
     rw[z.out]
     simp only[bind,Except.bind,A.out]
     exact zt M m l
   ·have c8:(!(bs a4).toList.isEmpty)=true:=by rw[zj];cases a4 with|nil=>exact absurd rfl S|cons _ _=>rfl
    have z:Hid (Tp.sx (f+1) 2 b r=.error (3,at' g)):=sx2_far HK.out HR.out b1 (by rw[I];exact S)
    clear a1 b1 I S
    go_wp2_with fail
    clear k0 k3 c8 c7
    refine(zV O 3).mono ?_
    rintro e c⟨m,f0⟩
    obtain⟨U,V,rfl,X,Y⟩:=m.out
    go_wp2_with fail
    refine⟨rfl,?_⟩
    rw[z.out]
    exact zt M m (Ext.below f0)
end Go.Proofs.YtibncofnnlbmcaaGreatDoor
