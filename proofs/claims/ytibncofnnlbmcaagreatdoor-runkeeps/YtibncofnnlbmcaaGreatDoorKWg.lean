import Derived.Test.YtibncofnnlbmcaaGreatDoorKWf
set_option maxRecDepth 100000
set_option maxHeartbeats 4000000
namespace Go.Proofs.YtibncofnnlbmcaaGreatDoor
open Go.RowKit
open Tp (Tok hd tx at' stp X S G Pr)
def pcells (name:ByteArray) (pos:Int) (seen:Bool) (ps vs bd:Value):Array Value:=#[.string name,.int .i64 pos,.bool seen,ps,vs,bd]
theorem yE {w:World}{a base' e size n:Nat}{v:Value}{b:List Value}(h:w.ownsRow a e size v n b)(d:base'<=a):w.ownsRow base' e size v n b:=by
 refine⟨h.1,?_⟩
 rcases h.2 with q|⟨g,cap,c,f,i,j⟩
 ·exact Or.inl q
 ·exact Or.inr ⟨g,cap,c,f,Nat.le_trans d i,j⟩
def VPr (B:Nat) (c:Pr) (v:Value) (w:World):Prop:=∃(pa va ba:Option Addr) (pc vc bc:Nat),
 v=.agg (pcells (bs c.name) (c.pos:Int) c.seen (.slice pa c.params.length pc) (.slice va c.vars.length vc) (.slice ba c.body.length bc)) /\
 w.ownsRow B 9 1 (.slice pa c.params.length pc) c.params.length (strs c.params)/\w.ownsRow B 9 1 (.slice va c.vars.length vc) c.vars.length (strs c.vars)/\VO B c.body (.slice ba c.body.length bc) w
theorem ext_set6 (w:World)(b:Nat)(a c d e f g:Value):Ext b w ((((((w.setCell ⟨b,0,none⟩ a).setCell ⟨b,1,none⟩ c).setCell ⟨b,2,none⟩ d).setCell ⟨b,3,none⟩ e).setCell ⟨b,4,none⟩ f).setCell ⟨b,5,none⟩ g):=(((((((Ext.refl b w).set 0 a).set 1 c).set 2 d).set 3 e).set 4 f).set 5 g)
theorem below_set6 (w:World)(b:Nat)(a c d e f g:Value):Below b w ((((((w.setCell ⟨b,0,none⟩ a).setCell ⟨b,1,none⟩ c).setCell ⟨b,2,none⟩ d).setCell ⟨b,3,none⟩ e).setCell ⟨b,4,none⟩ f).setCell ⟨b,5,none⟩ g):=(zq (zq (zq (zq (zq (zq (Below.refl b w) zn 0 a) zn 1 c) zn 2 d) zn 3 e) zn 4 f) zn 5 g)
def procT (f:Nat) (r:List Tok) (nm:List UInt8) (seen:Bool) (ps vs:List (List UInt8)) (r8:List Tok):Except Tp.Er (Pr×List Tok):=do
 let r9 <- Tp.want Tp.wBegin r8
 let (b,r10) <- Tp.sx f 0 0 r9
 let r11 <- Tp.want Tp.wEnd r10
 let r12 <- Tp.want Tp.mSemi r11
 .ok (⟨nm,at' r,seen,ps,vs,b⟩,r12)
theorem names_len:∀(f b a:Nat) (r d:List Tok) (l:List (List UInt8)),Tp.names f b a r=.ok (l,d)->b+l.length<=a:=by
 intro f
 induction f with
 |zero=>intro b a r d l h;cases h
 |succ f ih =>
  intro b a r d l h
  by_cases c:a<=b
  ·rw[x5 _ _ _ _ c]at h;cases h
  ·rcases hn:Tp.name r with er|⟨nm,g⟩
   ·rw[vO c hn]at h;cases h
   ·by_cases e:tx g=Tp.mComma
    ·rw[xy c hn e]at h
     rcases hq:Tp.names f (b+1) a (stp g) with er|⟨i,j⟩
     ·rw[hq]at h;cases h
     ·rw[hq]at h
      simp only[addAll,Except.ok.injEq,Prod.mk.injEq]at h
      have:=ih _ _ _ _ _ hq
      rw[<-h.1];simp;omega
    ·rw[xz c hn e]at h
     simp only[Except.ok.injEq,Prod.mk.injEq]at h
     rw[<-h.1];simp;omega
theorem yT {w:World}{p:Ps}{g r:List Tok}{o b c a:Nat}{d:Except Tp.Er (List (List UInt8)×List Tok)}(h:St w p g r o b)(m:a<=10)(k:c<=10)(f:Nat)(j:1<=f)(i:a+1<=f+c)(n:Hid (Tp.names f c a r=d)) :
  Calls Tryz.prog 64 #[.pointer (some ⟨p.pb,0,none⟩),.int .i64 (c:Int),.int .i64 (a:Int)] w fun e w'=>Post p g o b w (fun l v w'=>w'.ownsRow w.heap.size 9 1 v l.length (strs l)) d e w':=by
 have:=names_post h c a f m k j i
 rw[n.out]at this
 exact this
theorem vH {p:Ps}{W:List Tok}{f:Nat}(hS:StmtsC p W f){w:World}{r:List Tok}(h:St w p W r 0 0)(hn:Tp.proc f r≠.error (99,0)) :
  Calls Tryz.prog 68 #[.pointer (some ⟨p.pb,0,none⟩)] w fun e w'=>Post p W 0 0 w (VPr w.heap.size) (Tp.proc f r) e w':=by
 have d5:=zg h.c0
 have HS:Hid (StmtsC p W f):=hS
 have HN:Hid (Tp.proc f r≠.error (99,0)):=hn
 clear hS hn
 go_enter Tryz.func68,Tryz.ntmps68
 go_wp2_with fail
 have d:∀ob,St (w.alloc ob) p W r 0 0:=fun ob=>h.below (zb _ _)
 have j:∀ob,Ext p.pb w (w.alloc ob):=fun ob=>Ext.below (zb _ _)
 obtain⟨g,b5⟩:∃g,g=w.heap.size:=⟨_,rfl⟩
 have c:=zo w (.cells (pcells ⟨#[]⟩ 0 false (.slice none 0 0) (.slice none 0 0) (.slice none 0 0)) 65)
 obtain⟨w0,a4⟩:∃w0,w0=w.alloc (.cells #[.string ⟨#[]⟩,.int .i64 0,.bool false,.slice none 0 0,.slice none 0 0,.slice none 0 0] 65):=⟨_,rfl⟩
 replace d:St w0 p W r 0 0:=by rw[a4];exact d _
 replace j:Ext p.pb w w0:=by rw[a4];exact j _
 replace c:w0.heap[g]?=some (.cells (pcells ⟨#[]⟩ 0 false (.slice none 0 0) (.slice none 0 0) (.slice none 0 0)) 65 (0,0)):=by rw[a4,b5];exact c
 rw[<-a4,<-b5]
 have a0:w.heap.size<=g:=by omega
 have d6:p.pb<g:=by omega
 clear a4 b5
 by_cases k:tx r=Tp.wProc
 rotate_left
 ·refine(zM d Tp.wProc _ rfl k).mono ?_
  rintro e X⟨o,a⟩
  have t:Hid (¬tx r=Tp.wProc):=k
  clear k
  obtain⟨H,L,rfl,M,N⟩:=o.out
  go_wp2_with fail
  refine⟨rfl,?_⟩
  rw[show Tp.proc f r=.error (3,at' r) by unfold Tp.proc;simp only[if_neg t.out,bind,Except.bind,Tp.want]]
  exact zt j o a
 refine(zF d Tp.wProc _ rfl k).mono ?_
 rintro e w1⟨rfl,n,a⟩
 have H1:Hid (tx r=Tp.wProc):=k
 clear k d
 have d:=n
 clear n
 have m:=(a.block g (zf c) (by omega)).trans c
 have l:=j.trans a
 clear c j
 have c:=m
 clear m
 have j:=l
 clear l
 clear a
 have S:w1.cell? ⟨g,1,none⟩=some (.int .i64 0):=za c
 have T:w1.frozen? ⟨g,1,none⟩=false:=zi c
 go_wp2_with fail
 clear S T
 have q:Below g w1 (w1.setCell ⟨g,1,none⟩ (.int .i64 (at' r:Int))):=zq (Below.refl _ _) zn 1 _
 have u:Ext g w1 (w1.setCell ⟨g,1,none⟩ (.int .i64 (at' r:Int))):=(Ext.refl _ _).set 1 _
 have n:=d.belowB q (by omega)
 have l:=j.trans' (q.mono a0)
 have m:=zu 1 (.int .i64 (at' r:Int)) c
 generalize w1.setCell ⟨g,1,none⟩ (.int .i64 (at' r:Int))=w3 at q u n l m  ⊢
 clear q u d j c
 have d:=n
 clear n
 have j:=l
 clear l
 have c:=m
 clear m
 generalize z:stp r=r1 at d
 have Z:Hid (stp r=r1):=z
 clear z
 rcases B:Tp.name r1 with er|⟨nm,A⟩
 ·have t:Hid (Tp.name r1=.error er):=B
  clear B
  refine(uR d t).mono ?_
  rintro e X⟨o,a⟩
  obtain⟨H,L,rfl,M,N⟩:=o.out
  go_wp2_with fail
  refine⟨rfl,?_⟩
  rw[show Tp.proc f r=.error er by unfold Tp.proc;simp only[if_pos H1.out,Z.out,t.out,bind,Except.bind,Tp.want]]
  exact zt j o a
 have H2:Hid (Tp.name r1=.ok (nm,A)):=B
 clear B
 refine(uQ d H2).mono ?_
 rintro e w4⟨rfl,n,a⟩
 clear d
 have d:=n
 clear n
 have m:=(a.block g (zf c) (by omega)).trans c
 have l:=j.trans a
 clear c j
 have c:=m
 clear m
 have j:=l
 clear l
 clear a
 have S:w4.cell? ⟨g,0,none⟩=some (.string ⟨#[]⟩):=za c
 have T:w4.frozen? ⟨g,0,none⟩=false:=zi c
 go_wp2_with fail
 clear S T
 have q:Below g w4 (w4.setCell ⟨g,0,none⟩ (.string (bs nm))):=zq (Below.refl _ _) zn 0 _
 have u:Ext g w4 (w4.setCell ⟨g,0,none⟩ (.string (bs nm))):=(Ext.refl _ _).set 0 _
 have n:=d.belowB q (by omega)
 have l:=j.trans' (q.mono a0)
 have m:=zu 0 (.string (bs nm)) c
 generalize w4.setCell ⟨g,0,none⟩ (.string (bs nm))=w6 at q u n l m  ⊢
 clear q u d j c
 have d:=n
 clear n
 have j:=l
 clear l
 have c:=m
 clear m
 refine(zP d Tp.mStar _ rfl).mono ?_
 rintro e w7⟨rfl,n,a⟩
 clear d
 have d:=n
 clear n
 have m:=(a.block g (zf c) (by omega)).trans c
 have l:=j.trans a
 clear c j
 have c:=m
 clear m
 have j:=l
 clear l
 clear a
 have S:w7.cell? ⟨g,2,none⟩=some (.bool false):=za c
 have T:w7.frozen? ⟨g,2,none⟩=false:=zi c
 go_wp2_with fail
 clear S T
 have q:Below g w7 (w7.setCell ⟨g,2,none⟩ (.bool (decide (tx A=Tp.mStar)))):=zq (Below.refl _ _) zn 2 _
 have u:Ext g w7 (w7.setCell ⟨g,2,none⟩ (.bool (decide (tx A=Tp.mStar)))):=(Ext.refl _ _).set 2 _
 have n:=d.belowB q (by omega)
 have l:=j.trans' (q.mono a0)
 have m:=zu 2 (.bool (decide (tx A=Tp.mStar))) c
 generalize w7.setCell ⟨g,2,none⟩ (.bool (decide (tx A=Tp.mStar)))=w9 at q u n l m  ⊢
 clear q u d j c
 have d:=n
 clear n
 have j:=l
 clear l
 have c:=m
 clear m
 generalize z:(if tx A=Tp.mStar then stp A else A)=r3 at d
 have E3:Hid ((if tx A=Tp.mStar then stp A else A)=r3):=z
 clear z
 by_cases k:tx r3=Tp.mLp
 rotate_left
 ·refine(zM d Tp.mLp _ rfl k).mono ?_
  rintro e X⟨o,a⟩
  have t:Hid (¬tx r3=Tp.mLp):=k
  clear k
  obtain⟨H,L,rfl,M,N⟩:=o.out
  go_wp2_with fail
  refine⟨rfl,?_⟩
  rw[show Tp.proc f r=.error (3,at' r3) by unfold Tp.proc;simp only[if_pos H1.out,Z.out,H2.out,E3.out,if_neg t.out,bind,Except.bind,Tp.want]]
  exact zt j o a
 refine(zF d Tp.mLp _ rfl k).mono ?_
 rintro e d7⟨rfl,n,a⟩
 have H4:Hid (tx r3=Tp.mLp):=k
 clear k d
 have d:=n
 clear n
 have m:=(a.block g (zf c) (by omega)).trans c
 have l:=j.trans a
 clear c j
 have c:=m
 clear m
 have j:=l
 clear l
 clear a
 generalize z:stp r3=r4 at d
 have E4:Hid (stp r3=r4):=z
 clear z
 go_wp2_with fail
 refine(yp d Tp.mRp _ rfl).mono ?_
 rintro e wi⟨rfl,b1⟩
 generalize a3:decide (tx r4=Tp.mRp)=tt
 have c4:Hid (decide (tx r4=Tp.mRp)=tt):=a3
 clear a3
 have n:=d.below b1
 clear d
 have d:=n
 clear n
 have m:=((Ext.below (b:=p.pb) b1).block g (zf c) (by omega)).trans c
 have l:=j.trans (Ext.below (b:=p.pb) b1)
 clear c j
 have c:=m
 clear m
 have j:=l
 clear l
 clear b1
 go_upto_if 16 with fail
 go_cut [] (fun wc=>∃(ps:List (List UInt8)) (J:Option Addr) (K:Nat) (G:List Tok),ps.length<=10/\St wc p W G 0 0/\Ext p.pb w wc/\wc.heap[g]?=some (.cells (pcells (bs nm) (at' r) (decide (tx A=Tp.mStar)) (.slice J ps.length K) (.slice none 0 0) (.slice none 0 0)) 65 (0,0)) /\
  wc.ownsRow (g+1) 9 1 (.slice J ps.length K) ps.length (strs ps)/\(if tx r4=Tp.mRp then .ok ([],r4) else Tp.names 11 0 10 r4:Except Tp.Er (List (List UInt8)×List Tok))=.ok (ps,G))
 case first =>
  cases tt
  rotate_left
  ·have F:tx r4=Tp.mRp:=of_decide_eq_true c4.out
   have P:Hid (tx r4=Tp.mRp):=F
   clear F
   go_wp2_with fail
   go_meet
   case rel=>exact⟨[],none,0,r4,by simp,d,j,c,World.ownsRow_nil _ _ _ _,by rw[if_pos P.out]⟩
  ·have F:¬tx r4=Tp.mRp:=of_decide_eq_false c4.out
   have P:Hid (¬tx r4=Tp.mRp):=F
   clear F
   rcases B:Tp.names 11 0 10 r4 with er|⟨ps,G⟩
   ·have t:Hid (Tp.names 11 0 10 r4=.error er):=B
    clear B
    go_wp2_with fail
    refine(yT d (by omega) (by omega) 11 (by omega) (by omega) t).mono ?_
    rintro e X⟨o,a⟩
    obtain⟨H,L,rfl,M,N⟩:=o.out
    go_wp2_with fail
    refine⟨rfl,?_⟩
    rw[show Tp.proc f r=.error er by unfold Tp.proc;simp only[if_pos H1.out,Z.out,H2.out,E3.out,if_pos H4.out,E4.out,if_neg P.out,t.out,bind,Except.bind,Tp.want]]
    exact zt j o a
   ·have t:Hid (Tp.names 11 0 10 r4=.ok (ps,G)):=B
    have d3:=names_len _ _ _ _ _ _ B
    clear B
    go_wp2_with fail
    refine(yT d (by omega) (by omega) 11 (by omega) (by omega) t).mono ?_
    intro e E hq
    obtain⟨v,rfl,I,b0,a⟩:=hq
    obtain⟨V,cap,rfl⟩:=zw I
    have b7:=zf c
    have Y:=(a.block g b7 (by omega)).trans c
    have a6:=j.trans a
    have a7:=yE (base':=g+1) I (by omega)
    have S:E.cell? ⟨g,3,none⟩=some (.slice none 0 0):=za Y
    have T:E.frozen? ⟨g,3,none⟩=false:=zi Y
    clear I d j c a
    go_wp2_with fail
    go_meet
    case rel =>
     have q:Below g E (E.setCell ⟨g,3,none⟩ (.slice V ps.length cap)):=zq (Below.refl _ _) zn 3 _
     have u:Ext g E (E.setCell ⟨g,3,none⟩ (.slice V ps.length cap)):=(Ext.refl _ _).set 3 _
     exact⟨ps,V,cap,G,by omega,b0.belowB q (by omega),a6.trans' (q.mono a0),zu 3 _ Y,zA a7 u (by omega),by rw[if_neg P.out,t.out]⟩
 clear d j c
 obtain⟨ps,J,K,G,d4,d,j,c,s,a2⟩:=hcut
 have E5:Hid ((if tx r4=Tp.mRp then .ok ([],r4) else Tp.names 11 0 10 r4:Except Tp.Er (List (List UInt8)×List Tok))=.ok (ps,G)):=a2
 clear a2
 go_wp2_with fail
 by_cases k:tx G=Tp.mRp
 rotate_left
 ·refine(zM d Tp.mRp _ rfl k).mono ?_
  rintro e X⟨o,a⟩
  have t:Hid (¬tx G=Tp.mRp):=k
  clear k
  obtain⟨H,L,rfl,M,N⟩:=o.out
  go_wp2_with fail
  refine⟨rfl,?_⟩
  rw[show Tp.proc f r=.error (3,at' G) by unfold Tp.proc;simp only[if_pos H1.out,Z.out,H2.out,E3.out,if_pos H4.out,E4.out,E5.out,if_neg t.out,bind,Except.bind,Tp.want]]
  exact zt j o a
 refine(zF d Tp.mRp _ rfl k).mono ?_
 rintro e d8⟨rfl,n,a⟩
 have H6:Hid (tx G=Tp.mRp):=k
 clear k d
 have d:=n
 clear n
 have m:=(a.block g (zf c) (by omega)).trans c
 have l:=j.trans a
 have x:=zA s a (by omega)
 clear c j s
 have c:=m
 clear m
 have j:=l
 clear l
 have s:=x
 clear x
 clear a
 generalize z:stp G=r6 at d
 have E6:Hid (stp G=r6):=z
 clear z
 go_wp2_with fail
 by_cases k:tx r6=Tp.mSemi
 rotate_left
 ·refine(zM d Tp.mSemi _ rfl k).mono ?_
  rintro e X⟨o,a⟩
  have t:Hid (¬tx r6=Tp.mSemi):=k
  clear k
  obtain⟨H,L,rfl,M,N⟩:=o.out
  go_wp2_with fail
  refine⟨rfl,?_⟩
  rw[show Tp.proc f r=.error (3,at' r6) by unfold Tp.proc;simp only[if_pos H1.out,Z.out,H2.out,E3.out,if_pos H4.out,E4.out,E5.out,if_pos H6.out,E6.out,if_neg t.out,bind,Except.bind,Tp.want]]
  exact zt j o a
 refine(zF d Tp.mSemi _ rfl k).mono ?_
 rintro e d9⟨rfl,n,a⟩
 have H7:Hid (tx r6=Tp.mSemi):=k
 clear k d
 have d:=n
 clear n
 have m:=(a.block g (zf c) (by omega)).trans c
 have l:=j.trans a
 have x:=zA s a (by omega)
 clear c j s
 have c:=m
 clear m
 have j:=l
 clear l
 have s:=x
 clear x
 clear a
 generalize z:stp r6=r7 at d
 have E7:Hid (stp r6=r7):=z
 clear z
 go_wp2_with fail
 refine(zP d Tp.wVar _ rfl).mono ?_
 rintro e wt⟨rfl,n,a⟩
 generalize a3:decide (tx r7=Tp.wVar)=tv
 have c5:Hid (decide (tx r7=Tp.wVar)=tv):=a3
 clear a3 d
 have d:=n
 clear n
 have m:=(a.block g (zf c) (by omega)).trans c
 have l:=j.trans a
 have x:=zA s a (by omega)
 clear c j s
 have c:=m
 clear m
 have j:=l
 clear l
 have s:=x
 clear x
 clear a
 go_upto_if 25 with fail
 go_cut [] (fun wc=>∃(vs:List (List UInt8)) (va:Option Addr) (vc:Nat) (y:List Tok),St wc p W y 0 0/\Ext p.pb w wc/\wc.heap[g]?=some (.cells (pcells (bs nm) (at' r) (decide (tx A=Tp.mStar)) (.slice J ps.length K) (.slice va vs.length vc) (.slice none 0 0)) 65 (0,0)) /\
  wc.ownsRow (g+1) 9 1 (.slice J ps.length K) ps.length (strs ps)/\wc.ownsRow (g+1) 9 1 (.slice va vs.length vc) vs.length (strs vs) /\
  (if tx r7=Tp.wVar then do let (vs,y) <- Tp.names 11 ps.length 10 (stp r7);let r9 <- Tp.want Tp.mSemi y;.ok (vs,r9) else .ok ([],r7):Except Tp.Er (List (List UInt8)×List Tok))=.ok (vs,y))
 case first =>
  cases tv
  ·have F:¬tx r7=Tp.wVar:=of_decide_eq_false c5.out
   rw[if_neg F]at d
   have P:Hid (¬tx r7=Tp.wVar):=F
   clear F
   go_wp2_with fail
   go_meet
   case rel=>exact⟨[],none,0,r7,d,j,c,s,World.ownsRow_nil _ _ _ _,by rw[if_neg P.out]⟩
  ·have F:tx r7=Tp.wVar:=of_decide_eq_true c5.out
   rw[if_pos F]at d
   have P:Hid (tx r7=Tp.wVar):=F
   clear F
   have kL:wt.cell? ⟨g,3,none⟩=some (.slice J ps.length K):=za c
   rcases B:Tp.names 11 ps.length 10 (stp r7) with er|⟨vs,y⟩
   ·have t:Hid (Tp.names 11 ps.length 10 (stp r7)=.error er):=B
    clear B
    go_wp2_with fail
    clear kL
    refine(yT d (by omega) (by omega) 11 (by omega) (by omega) t).mono ?_
    rintro e X⟨o,a⟩
    obtain⟨H,L,rfl,M,N⟩:=o.out
    go_wp2_with fail
    refine⟨rfl,?_⟩
    rw[show Tp.proc f r=.error er by unfold Tp.proc;simp only[if_pos H1.out,Z.out,H2.out,E3.out,if_pos H4.out,E4.out,E5.out,if_pos H6.out,E6.out,if_pos H7.out,E7.out,if_pos P.out,t.out,bind,Except.bind,Tp.want]]
    exact zt j o a
   ·have t:Hid (Tp.names 11 ps.length 10 (stp r7)=.ok (vs,y)):=B
    clear B
    go_wp2_with fail
    clear kL
    refine(yT d (by omega) (by omega) 11 (by omega) (by omega) t).mono ?_
    intro e E hq
    obtain⟨v,rfl,I,b0,a⟩:=hq
    obtain⟨V,cap,rfl⟩:=zw I
    have b7:=zf c
    have Y:=(a.block g b7 (by omega)).trans c
    have a6:=j.trans a
    have b9:=zA s a (by omega)
    have a7:=yE (base':=g+1) I (by omega)
    have S:E.cell? ⟨g,4,none⟩=some (.slice none 0 0):=za Y
    have T:E.frozen? ⟨g,4,none⟩=false:=zi Y
    clear I d j c a s
    go_wp2_with fail
    clear S T
    have q:Below g E (E.setCell ⟨g,4,none⟩ (.slice V vs.length cap)):=zq (Below.refl _ _) zn 4 _
    have u:Ext g E (E.setCell ⟨g,4,none⟩ (.slice V vs.length cap)):=(Ext.refl _ _).set 4 _
    have a9:=b0.belowB q (by omega)
    have a5:=a6.trans' (q.mono a0)
    have a8:=zu 4 (.slice V vs.length cap) Y
    have b4:=zA b9 u (by omega)
    have b3:=zA a7 u (by omega)
    generalize E.setCell ⟨g,4,none⟩ (.slice V vs.length cap)=wa at q u a9 a5 a8 b4 b3 ⊢
    clear q u b0 a6 Y b9 a7
    by_cases k:tx y=Tp.mSemi
    ·refine(zF a9 Tp.mSemi _ rfl k).mono ?_
     rintro e wb⟨rfl,d1,a⟩
     have HC:Hid (tx y=Tp.mSemi):=k
     clear k a9
     have d0:=(a.block g (zf a8) (by omega)).trans a8
     have c7:=a5.trans a
     have c9:=zA b4 a (by omega)
     have c8:=zA b3 a (by omega)
     clear a a5 a8 b4 b3
     go_wp2_with fail
     go_meet
     case rel=>exact⟨vs,V,cap,stp y,d1,c7,d0,c9,c8,by rw[if_pos P.out,t.out];simp only[bind,Except.bind,Tp.want,if_pos HC.out]⟩
    ·refine(zM a9 Tp.mSemi _ rfl k).mono ?_
     rintro e wb⟨o,a⟩
     have HC:Hid (¬tx y=Tp.mSemi):=k
     clear k
     obtain⟨H,L,rfl,M,N⟩:=o.out
     go_wp2_with fail
     refine⟨rfl,?_⟩
     rw[show Tp.proc f r=.error (3,at' y) by unfold Tp.proc;simp only[if_pos H1.out,Z.out,H2.out,E3.out,if_pos H4.out,E4.out,E5.out,if_pos H6.out,E6.out,if_pos H7.out,E7.out,if_pos P.out,t.out,if_neg HC.out,bind,Except.bind,Tp.want]]
     exact zt a5 o a
 clear d j c s
 obtain⟨vs,va,vc,y,d,j,c,s,C,a2⟩:=hcut
 have E8:Hid ((if tx r7=Tp.wVar then do let (vs,y) <- Tp.names 11 ps.length 10 (stp r7);let r9 <- Tp.want Tp.mSemi y;.ok (vs,r9) else .ok ([],r7):Except Tp.Er (List (List UInt8)×List Tok))=.ok (vs,y)):=a2
 clear a2
 have HT:Hid (Tp.proc f r=procT f r nm (tx A==Tp.mStar) ps vs y):=by
  have e8:=E8.out
  simp only[bind,Except.bind,Tp.want]at e8
  unfold Hid procT Tp.proc
  simp only[if_pos H1.out,Z.out,H2.out,E3.out,if_pos H4.out,E4.out,E5.out,if_pos H6.out,E6.out,if_pos H7.out,E7.out,e8,bind,Except.bind,Tp.want]
 go_wp2_with fail
 by_cases k:tx y=Tp.wBegin
 rotate_left
 ·refine(zM d Tp.wBegin _ rfl k).mono ?_
  rintro e X⟨o,a⟩
  have t:Hid (¬tx y=Tp.wBegin):=k
  clear k
  obtain⟨H,L,rfl,M,N⟩:=o.out
  go_wp2_with fail
  refine⟨rfl,?_⟩
  rw[show Tp.proc f r=.error (3,at' y) by rw[HT.out];unfold procT;simp only[if_neg t.out,bind,Except.bind,Tp.want]]
  exact zt j o a
 refine(zF d Tp.wBegin _ rfl k).mono ?_
 rintro e b8⟨rfl,n,a⟩
 have H9:Hid (tx y=Tp.wBegin):=k
 clear k d
 have d:=n
 clear n
 have m:=(a.block g (zf c) (by omega)).trans c
 have l:=j.trans a
 have x:=zA s a (by omega)
 have D:=zA C a (by omega)
 clear c j s C
 have c:=m
 clear m
 have j:=l
 clear l
 have s:=x
 clear x
 have C:=D
 clear D
 clear a
 generalize z:stp y=r9 at d
 have E9:Hid (stp y=r9):=z
 clear z
 go_wp2_with fail
 have c6:Tp.sx f 0 0 r9≠.error (99,0):=by
  intro e;apply HN.out;rw[HT.out];unfold procT;simp only[if_pos H9.out,E9.out,e,bind,Except.bind,Tp.want]
 have b6:=HS.out _ r9 0 d (by omega) c6
 generalize B:Tp.sx f 0 0 r9=res at b6
 have HR:Hid (Tp.sx f 0 0 r9=res):=B
 have c3:Hid (Calls Tryz.prog 69 #[.pointer (some ⟨p.pb,0,none⟩)] b8 fun e w'=>Post p W 0 0 b8 (VL b8.heap.size) res e w'):=b6
 clear b6 B c6
 refine c3.out.mono ?_
 intro e ws hq
 rcases res with er|⟨bd,a1⟩
 ·obtain⟨o,a⟩:=hq
  obtain⟨H,L,rfl,M,N⟩:=o.out
  go_wp2_with fail
  refine⟨rfl,?_⟩
  rw[show Tp.proc f r=.error er by rw[HT.out];unfold procT;simp only[if_pos H9.out,E9.out,HR.out,bind,Except.bind,Tp.want]]
  exact zt j o a
 obtain⟨v,rfl,I,n,a⟩:=hq
 obtain⟨Q,R,rfl⟩:=I.shape
 have O:VL (g+1) bd (.slice Q bd.length R) ws:=I.base (by have:=zf c;omega)
 clear d I
 have d:=n
 clear n
 have m:=(a.block g (zf c) (by omega)).trans c
 have l:=j.trans a
 have x:=zA s a (by omega)
 have D:=zA C a (by omega)
 clear c j s C
 have c:=m
 clear m
 have j:=l
 clear l
 have s:=x
 clear x
 have C:=D
 clear D
 clear a c3
 have S:ws.cell? ⟨g,5,none⟩=some (.slice none 0 0):=za c
 have T:ws.frozen? ⟨g,5,none⟩=false:=zi c
 go_wp2_with fail
 clear S T
 have q:Below g ws (ws.setCell ⟨g,5,none⟩ (.slice Q bd.length R)):=zq (Below.refl _ _) zn 5 _
 have u:Ext g ws (ws.setCell ⟨g,5,none⟩ (.slice Q bd.length R)):=(Ext.refl _ _).set 5 _
 have n:=d.belowB q (by omega)
 have l:=j.trans' (q.mono a0)
 have m:=zu 5 (.slice Q bd.length R) c
 have x:=zA s u (by omega)
 have D:=zA C u (by omega)
 have U:=VL.ext u (by omega) O
 generalize ws.setCell ⟨g,5,none⟩ (.slice Q bd.length R)=w16 at q u n l m x D U ⊢
 clear q u d j c s C O
 have d:=n
 clear n
 have j:=l
 clear l
 have c:=m
 clear m
 have s:=x
 clear x
 have C:=D
 clear D
 have O:=U
 clear U
 by_cases k:tx a1=Tp.wEnd
 rotate_left
 ·refine(zM d Tp.wEnd _ rfl k).mono ?_
  rintro e X⟨o,a⟩
  have t:Hid (¬tx a1=Tp.wEnd):=k
  clear k
  obtain⟨H,L,rfl,M,N⟩:=o.out
  go_wp2_with fail
  refine⟨rfl,?_⟩
  rw[show Tp.proc f r=.error (3,at' a1) by rw[HT.out];unfold procT;simp only[if_pos H9.out,E9.out,HR.out,if_neg t.out,bind,Except.bind,Tp.want]]
  exact zt j o a
 refine(zF d Tp.wEnd _ rfl k).mono ?_
 rintro e e0⟨rfl,n,a⟩
 have c2:Hid (tx a1=Tp.wEnd):=k
 clear k d
 have d:=n
 clear n
 have m:=(a.block g (zf c) (by omega)).trans c
 have l:=j.trans a
 have x:=zA s a (by omega)
 have D:=zA C a (by omega)
 have U:=VL.ext a (by omega) O
 clear c j s C O
 have c:=m
 clear m
 have j:=l
 clear l
 have s:=x
 clear x
 have C:=D
 clear D
 have O:=U
 clear U
 clear a
 generalize z:stp a1=r11 at d
 have c1:Hid (stp a1=r11):=z
 clear z
 go_wp2_with fail
 by_cases k:tx r11=Tp.mSemi
 rotate_left
 ·refine(zM d Tp.mSemi _ rfl k).mono ?_
  rintro e X⟨o,a⟩
  have t:Hid (¬tx r11=Tp.mSemi):=k
  clear k
  obtain⟨H,L,rfl,M,N⟩:=o.out
  go_wp2_with fail
  refine⟨rfl,?_⟩
  rw[show Tp.proc f r=.error (3,at' r11) by rw[HT.out];unfold procT;simp only[if_pos H9.out,E9.out,HR.out,if_pos c2.out,c1.out,if_neg t.out,bind,Except.bind,Tp.want]]
  exact zt j o a
 refine(zF d Tp.mSemi _ rfl k).mono ?_
 rintro e b2⟨rfl,n,a⟩
 have d2:Hid (tx r11=Tp.mSemi):=k
 clear k d
 have d:=n
 clear n
 have m:=(a.block g (zf c) (by omega)).trans c
 have l:=j.trans a
 have x:=zA s a (by omega)
 have D:=zA C a (by omega)
 have U:=VL.ext a (by omega) O
 clear c j s C O
 have c:=m
 clear m
 have j:=l
 clear l
 have s:=x
 clear x
 have C:=D
 clear D
 have O:=U
 clear U
 clear a
 have kr:∀i,b2.cell? ⟨g,i,none⟩=(pcells (bs nm) (at' r) (decide (tx A=Tp.mStar)) (.slice J ps.length K) (.slice va vs.length vc) (.slice Q bd.length R))[i]?:=fun i=>za c
 have zr:∀i,b2.frozen? ⟨g,i,none⟩=false:=fun i=>zi c
 simp only[pcells]at kr
 go_wp2_with fail
 refine bodyPost_ret (v:=.agg (pcells (bs nm) (at' r) (decide (tx A=Tp.mStar)) (.slice J ps.length K) (.slice va vs.length vc) (.slice Q bd.length R))) (by simp[results,Tryz.results68,go_sem,kr,pcells]) rfl ?_
 rw[show Tp.proc f r=.ok (⟨nm,at' r,tx A==Tp.mStar,ps,vs,bd⟩,stp r11) by rw[HT.out];unfold procT;simp only[if_pos H9.out,E9.out,HR.out,if_pos c2.out,c1.out,if_pos d2.out,bind,Except.bind,Tp.want]]
 have q:=below_set6 b2 g (.string (bs nm)) (.int .i64 (at' r:Int)) (.bool (decide (tx A=Tp.mStar))) (.slice J ps.length K) (.slice va vs.length vc) (.slice Q bd.length R)
 have u:=ext_set6 b2 g (.string (bs nm)) (.int .i64 (at' r:Int)) (.bool (decide (tx A=Tp.mStar))) (.slice J ps.length K) (.slice va vs.length vc) (.slice Q bd.length R)
 exact⟨_,rfl,⟨J,va,Q,K,vc,R,by rw[qz],yE (zA s u (by omega)) (by omega),yE (zA C u (by omega)) (by omega),(VL.ext u (by omega) O).vo.base (by omega)⟩,d.belowB q (by omega),j.trans' (q.mono a0)⟩
end Go.Proofs.YtibncofnnlbmcaaGreatDoor
namespace Go.Proofs.YtibncofnnlbmcaaGreatDoor
open Go.RowKit
open Tp (Tok hd tx at' stp X)
theorem um {f n o:Nat}{r:List Tok}{er:Tp.Er}(a:n<5)(h:Tp.ex f (n+1) o 0 [] r=.error er):Tp.ex (f+1) n o 0 [] r=.error er:=by
 rw[Tp.ex,if_pos a,h];rfl
theorem ex_lv_ok {f n o:Nat}{r a:List Tok}{x:List X}(b:n<5)(h:Tp.ex f (n+1) o 0 [] r=.ok (x,a)):Tp.ex (f+1) n o 0 [] r=Tp.ex f (10+n) o (at' r) x a:=by
 rw[Tp.ex,if_pos b,h];rfl
theorem ex_lp_end {k n o a:Nat}{b:List X}{r:List Tok}(h:Tp.lvl (tx r)≠n):Tp.ex (k+1) (10+n) o a b r=.ok (b,r):=by
 rw[Tp.ex,if_neg (by omega),if_neg (by omega),if_neg (by omega),if_neg (by omega),if_neg (by omega)]
theorem uo {k n o a:Nat}{b:List X}{r:List Tok}{er:Tp.Er}(h:Tp.lvl (tx r)=n)(c:Tp.ex k (n+1) o 0 [] (stp r)=.error er):Tp.ex (k+1) (10+n) o a b r=.error er:=by
 rw[Tp.ex,if_neg (by omega),if_neg (by omega),if_neg (by omega),if_neg (by omega),if_pos (by omega),show 10+n-10+1=n+1 by omega,c];rfl
theorem ex_lp_ok {k n o a:Nat}{b y:List X}{r c:List Tok}(h:Tp.lvl (tx r)=n)(d:Tp.ex k (n+1) o 0 [] (stp r)=.ok (y,c)):Tp.ex (k+1) (10+n) o a b r=Tp.ex k (10+n) o a [⟨5,a,0,[],[],tx r,b,y,[]⟩] c:=by
 rw[Tp.ex,if_neg (by omega),if_neg (by omega),if_neg (by omega),if_neg (by omega),if_pos (by omega),show 10+n-10+1=n+1 by omega,d];rfl
theorem level_one {p:Ps}{a:List Tok}{f:Nat}(g:OneC p a f){w:World}{r:List Tok}{o b:Nat}(h:St w p a r o b)(q:o<=11)(i:Tp.ex f 5 o 0 [] r≠.error (99,0)) :
  Calls Tryz.prog 189 #[.pointer (some ⟨p.pb,0,none⟩),.int .i64 5] w fun e w'=>Post p a o b w (VX w.heap.size) (Tp.ex f 5 o 0 [] r) e w':=by
 have c:=g w r o b h q i
 generalize l:Tp.ex f 5 o 0 [] r=res at c
 have n:Hid (Calls Tryz.prog 207 #[.pointer (some ⟨p.pb,0,none⟩)] w fun e w'=>Post p a o b w (VX w.heap.size) res e w'):=c
 clear c l i g
 go_enter Tryz.func189,Tryz.ntmps189
 go_wp2_with fail
 refine n.out.mono ?_
 intro e B j
 rcases res with er|⟨x,A⟩
 ·obtain⟨k,d⟩:=j
  obtain⟨t,u,rfl,y,z⟩:=k.out
  go_wp2_with fail
  exact⟨rfl,k,d⟩
 ·obtain⟨v,rfl,s,m,d⟩:=j
  go_wp2_with fail
  go_ret
  exact⟨_,rfl,s,m,d⟩
theorem level_some {p:Ps}{d:List Tok}{f:Nat}(hL:LevelC p d f){w:World}{r:List Tok}{o b n:Nat}(h:St w p d r o b)(ho:o<=11)(a7:n<5)(hn:Tp.ex (f+1) n o 0 [] r≠.error (99,0)) :
  Calls Tryz.prog 189 #[.pointer (some ⟨p.pb,0,none⟩),.int .i64 (n:Int)] w fun e w'=>Post p d o b w (VX w.heap.size) (Tp.ex (f+1) n o 0 [] r) e w':=by
 have i:=zg h.c0
 have c4:(n:Int)<5:=by omega
 have c3:((n:Int)==5)=false:=by simp;omega
 have N:Hid (n<5):=a7
 have HL:Hid (∀g,g<=f->∀W q,St W p d q o b->Tp.ex g (n+1) o 0 [] q≠.error (99,0)->Calls Tryz.prog 189 #[.pointer (some ⟨p.pb,0,none⟩),.int .i64 ((n:Int)+1)] W fun e w'=>Post p d o b W (VX W.heap.size) (Tp.ex g (n+1) o 0 [] q) e w') :=
  fun g hg W q hW c=>(hL.mono hg) W q o b (n+1) hW ho (by omega) c
 have T:Hid (Tp.ex (f+1) n o 0 [] r≠.error (99,0)):=hn
 clear hL hn a7
 go_enter Tryz.func189,Tryz.ntmps189
 go_wp2_with fail
 refine(zK h).mono ?_
 rintro e w1⟨rfl,s⟩
 have a1:=h.below s
 have b5:=s.size
 go_wp2_with fail
 have t:Tp.ex f (n+1) o 0 [] r≠.error (99,0):=fun e=>T.out (um N.out e)
 refine(HL.out f zn _ r a1 t).mono ?_
 intro e w2 c
 generalize l:Tp.ex f (n+1) o 0 [] r=res at c
 have a6:Hid (Tp.ex f (n+1) o 0 [] r=res):=l
 clear l t
 rcases res with er|⟨x,r1⟩
 ·obtain⟨B,H⟩:=c
  obtain⟨A,h1,rfl,h2,h3⟩:=B.out
  go_wp2_with fail
  refine⟨rfl,?_⟩
  rw[um N.out a6.out]
  exact zt (Ext.below s) B H
 ·obtain⟨v,rfl,U,a2,H⟩:=c
  obtain⟨bb,rfl⟩:=U.ptr
  have a5:Ext p.pb w w2:=(Ext.below s).trans H
  have a8:VX w.heap.size x (.pointer (some ⟨bb,0,none⟩)) w2:=U.base b5
  have b9:Hid (Tp.ex f (10+n) o (at' r) x r1=Tp.ex (f+1) n o 0 [] r):=(ex_lv_ok N.out a6.out).symm
  go_wp2_with fail
  clear a1 s H U
  go_loopg [6] f (fun k v wr=>∃(F:List X) (a:List Tok) (A:Nat),k<=f/\v=.pointer (some ⟨A,0,none⟩)/\VX w.heap.size F v wr/\St wr p d a o b/\Ext p.pb w wr/\Hid (Tp.ex k (10+n) o (at' r) F a=Tp.ex (f+1) n o 0 [] r))
  case atStart=>exact⟨x,r1,bb,Nat.le_refl _,rfl,a8,a2,a5,b9⟩
  case round =>
   obtain⟨F,a,A,hk,rfl,b2,R,a0,z⟩:=hrel
   clear a2 a5 a8
   obtain⟨g,rfl⟩:∃g,gk=g+1:=by
    cases gk with
    |zero=>exact absurd z.out.symm T.out
    |succ g=>exact⟨g,rfl⟩
   go_wp2_with fail
   refine(zK R).mono ?_
   rintro e w3⟨rfl,O⟩
   have M:=R.below O
   have V:=a0.trans (Ext.below O)
   have a9:=VX.ext (Ext.below (b:=p.pb) O) i b2
   clear R a0 b2
   go_wp2_with fail
   refine(uV w3 (hd a).text M.lv).mono ?_
   rintro e w4⟨rfl,P⟩
   have E:=M.below P
   have L:=V.trans (Ext.below P)
   have S:=VX.ext (Ext.below (b:=p.pb) P) i a9
   clear M V a9
   by_cases j:Tp.lvl (tx a)=n
   ·have c1:((Tp.lvl (hd a).text:Int)==(n:Int))=true:=by have:=(show Tp.lvl (hd a).text=n from j);simp;omega
    have m:Hid (Tp.lvl (tx a)=n):=j
    clear j
    go_wp2_with fail
    refine(zK E).mono ?_
    rintro e w5⟨rfl,Q⟩
    have a3:=E.below Q
    have Y:=L.trans (Ext.below Q)
    have b0:=VX.ext (Ext.below (b:=p.pb) Q) i S
    clear E L S
    go_wp2_with fail
    refine(yF a3).mono ?_
    rintro e J⟨rfl,a4,b3⟩
    have D:=Y.trans b3
    have b1:=VX.ext b3 i b0
    clear a3 Y b0
    have t:Tp.ex g (n+1) o 0 [] (stp a)≠.error (99,0):=by
     intro e;apply T.out;rw[<-z.out];exact uo m.out e
    have K:=HL.out g (by omega) J (stp a) a4 t
    generalize l:Tp.ex g (n+1) o 0 [] (stp a)=res at K
    have HR:Hid (Tp.ex g (n+1) o 0 [] (stp a)=res):=l
    have b8:Hid (Calls Tryz.prog 189 #[.pointer (some ⟨p.pb,0,none⟩),.int .i64 ((n:Int)+1)] J fun e w'=>Post p d o b J (VX J.heap.size) res e w'):=K
    clear t l K
    go_wp2_with fail
    refine b8.out.mono ?_
    intro e C c
    rcases res with er|⟨y,r2⟩
    ·obtain⟨B,I⟩:=c
     obtain⟨A,h1,rfl,h2,h3⟩:=B.out
     go_wp2_with fail
     refine⟨rfl,?_⟩
     rw[<-z.out,uo m.out HR.out]
     exact zt D B I
    ·obtain⟨u,rfl,hu,b4,I⟩:=c
     obtain⟨ub,rfl⟩:=hu.ptr
     have b6:=D.size
     have Z:=D.trans I
     have b7:=Z.size
     have c2:=VX.ext I i b1
     clear a4 D b1
     go_wp2_with fail
     go_roundg g
     case rel =>
      have G:Below C.heap.size C (C.alloc (.cells (xcells 5 (hd r).pos 0 ⟨#[]⟩ ⟨#[]⟩ (bs (hd a).text) (.pointer (some ⟨A,0,none⟩)) (.pointer (some ⟨ub,0,none⟩)) (.slice none 0 0)) 216)):=zb _ _
      refine⟨[⟨5,at' r,0,[],[],tx a,F,y,[]⟩],r2,C.heap.size,by omega,rfl,?_,b4.below G,Z.trans (Ext.below G),?_⟩
      ·exact VX.node b7 (zo C _) (Or.inr (VX.ext (b:=p.pb) (Ext.below G) i c2)) (Or.inr ((VX.ext (b:=p.pb) (Ext.below G) (by omega) hu).base b6)) (Or.inl ⟨rfl,rfl⟩)
      ·show _=_
       rw[<-z.out]
       exact(ex_lp_ok m.out HR.out).symm
     all_goals omega
   ·have c1:((Tp.lvl (hd a).text:Int)==(n:Int))=false:=by have:=(show ¬Tp.lvl (hd a).text=n from j);simp;omega
    have m:Hid (¬Tp.lvl (tx a)=n):=j
    clear j
    go_wp2_with fail
    go_ret
    rw[<-z.out,ex_lp_end m.out]
    exact⟨_,rfl,S,E,L⟩
theorem level_post {p:Ps}{a:List Tok}{f:Nat}(g:LevelC p a f)(i:OneC p a (f+1)):LevelC p a (f+1):=by
 intro w r o b n h c j d
 by_cases e:n=5
 ·subst e
  exact level_one i h c d
 ·exact level_some g h c (by omega) d
theorem zero_all (p:Ps)(a:List Tok):LevelC p a 0/\OneC p a 0/\NamedC p a 0 :=
 ⟨fun _ _ _ _ _ _ _ _ h=>absurd rfl h,fun _ _ _ _ _ _ h=>absurd rfl h,fun _ _ _ _ _ _ h=>absurd rfl h⟩
theorem expr_all (p:Ps)(c:List Tok):∀f,f<=100000->LevelC p c f/\OneC p c f/\NamedC p c f:=by
 intro f
 induction f with
 |zero=>intro _;exact zero_all p c
 |succ f ih =>
  intro l
  obtain⟨a,i,g⟩:=ih (by omega)
  have e:=args_post (by omega) a
  have d:=one_post a i g
  exact⟨level_post a d,d,fun w r o b h k j=>named_post a e h k j⟩
theorem stmt_all (p:Ps)(a:List Tok):∀f,f<=100000->StmtsC p a f/\StmtC p a f/\BranchC p a f:=by
 intro f
 induction f with
 |zero=>intro _;exact⟨fun _ _ _ _ _ h=>absurd rfl h,fun _ _ _ _ _ h=>absurd rfl h,fun _ _ _ _ _ h=>absurd rfl h⟩
 |succ f ih =>
  intro j
  obtain⟨d,g,b⟩:=ih (by omega)
  obtain⟨c,i,e⟩:=expr_all p a f (by omega)
  exact⟨stmts_post (by omega) g,stmt_post c e d b,qw c d b⟩
end Go.Proofs.YtibncofnnlbmcaaGreatDoor
