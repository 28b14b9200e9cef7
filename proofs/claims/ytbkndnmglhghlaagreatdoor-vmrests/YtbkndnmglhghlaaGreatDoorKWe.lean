import Derived.Test.YtbkndnmglhghlaaGreatDoorKWd
import Derived.Deep.RegionLawGrows
set_option maxRecDepth 100000
set_option maxHeartbeats 4000000

namespace Go.Proofs.YtbkndnmglhghlaaGreatDoor
open Go.RowKit
open Tp (Tok hd tx at' stp X S G)
variable {c r:List Tok}{b o:Nat}{p:Ps}{w:World}
def gcells (name:ByteArray) (pos len:Int) (seen:Bool):Array Value:=#[.string name,.int .i64 pos,.int .i64 len,.bool seen]
def VG (g:G) (v:Value):Prop:=v=.agg (gcells (bs g.name) (g.pos:Int) (g.len:Int) g.seen)
theorem kC (w:World)(b:Nat)(a c d e:Value):Below b w ((((w.setCell ⟨b,0,none⟩ a).setCell ⟨b,1,none⟩ c).setCell ⟨b,2,none⟩ d).setCell ⟨b,3,none⟩ e):=(zu (zu (zu (zu (Below.refl b w) zn 0 a) zn 1 c) zn 2 d) zn 3 e)
theorem uL (a b:List UInt8):(a==b)=decide (a=b):=by rw[Bool.eq_iff_iff,decide_eq_true_iff,beq_iff_eq]
theorem vu {a:Except Tp.Er (Nat×List Tok)}(h:St w p c r o b)(d:Hid (Tp.number 30 r=a)) :
  Calls Tryz.prog 131 #[.pointer (some ⟨p.pb,0,none⟩),.int .i64 30] w fun e w'=>Post p c o b w (fun (n:Nat) v _=>v=.int .i64 (n:Int)) a e w':=by
 have:=kM h 30 (by omega) (by omega)
 rw[d.out]at this
 exact this
theorem number_le {n:Nat}(h:Tp.number 30 r=.ok (n,c)):n<=30:=by
 unfold Tp.number at h
 by_cases a:(hd r).kind≠2
 ·simp[a]at h
 ·by_cases b:30<Tp.val (tx r)
  ·simp[a,b]at h
  ·simp[a,b]at h;omega
theorem jC {ts:List Tok}(h:St w p ts r o b) :
  Calls Tryz.prog 79 #[.pointer (some ⟨p.pb,0,none⟩)] w fun e w'=>Post p ts o b w (fun g v _=>VG g v) (Tp.global r) e w':=by
 have e4:=zg h.c0
 go_enter Tryz.func79,Tryz.ntmps79
 go_wp2_with fail
 have b0:∀ob,Below w.heap.size w (w.alloc ob):=fun ob=>zb _ _
 refine(zK (h.below (b0 _))).mono ?_
 rintro e G⟨rfl,a9⟩
 have d3:=(h.below (b0 _)).below a9
 have U:G.heap[w.heap.size]?=some (.cells (gcells ⟨#[]⟩ 0 0 false) 57 (0,0)):=(a9.block _ (by simp)).trans (zl _ _)
 have c7:Ext p.pb w G:=(Ext.below (b0 _)).trans (Ext.below a9)
 obtain⟨a,d8⟩:∃a,a=w.heap.size:=⟨_,rfl⟩
 rw[<-d8]at U ⊢
 have B:w.heap.size<=a:=by omega
 have e5:p.pb<a:=by omega
 clear b0 a9 d8
 have k1:G.cell? ⟨a,1,none⟩=some (.int .i64 0):=za U
 have z1:G.frozen? ⟨a,1,none⟩=false:=zi U
 go_wp2_with fail
 clear k1 z1
 have c:Below a G (G.setCell ⟨a,1,none⟩ (.int .i64 ((hd r).pos:Int))):=zu (Below.refl _ _) zn 1 _
 have b7:=d3.belowB c (by omega)
 have a0:=c7.trans' (c.mono B)
 have a4:=zy 1 (.int .i64 ((hd r).pos:Int)) U
 generalize G.setCell ⟨a,1,none⟩ (.int .i64 ((hd r).pos:Int))=w2 at c b7 a0 a4 ⊢
 clear c d3 c7 U
 refine(ki b7).mono ?_
 intro e Z X
 generalize d2:Tp.name r=res at X
 have q:Hid (Tp.name r=res):=d2
 clear d2
 rcases res with er|⟨nm,f⟩
 ·obtain⟨d,l⟩:=X
  obtain⟨N,Q,rfl,R,S⟩:=d.out
  go_wp2_with fail
  refine⟨rfl,?_⟩
  rw[show Tp.global r=.error er by unfold Tp.global;simp only[q.out,bind,Except.bind]]
  exact zw a0 d l
 obtain⟨v,rfl,rfl,d4,c3⟩:=X
 have a5:=(c3.block a (zc a4) (by omega)).trans a4
 have c8:=a0.trans c3
 clear b7 c3 a0 a4
 have k0:Z.cell? ⟨a,0,none⟩=some (.string ⟨#[]⟩):=za a5
 have z0:Z.frozen? ⟨a,0,none⟩=false:=zi a5
 go_wp2_with fail
 clear k0 z0
 have c:Below a Z (Z.setCell ⟨a,0,none⟩ (.string (bs nm))):=zu (Below.refl _ _) zn 0 _
 have b8:=d4.belowB c (by omega)
 have b3:=c8.trans' (c.mono B)
 have a6:=zy 0 (.string (bs nm)) a5
 generalize Z.setCell ⟨a,0,none⟩ (.string (bs nm))=w4 at c b8 b3 a6 ⊢
 clear c d4 c8 a5
 refine(zQ b8 Tp.mStar _ rfl).mono ?_
 rintro e w5⟨rfl,d5,c4⟩
 have a7:=(c4.block a (zc a6) (by omega)).trans a6
 have c9:=b3.trans c4
 clear b8 c4 b3 a6
 have k3:w5.cell? ⟨a,3,none⟩=some (.bool false):=za a7
 have z3:w5.frozen? ⟨a,3,none⟩=false:=zi a7
 go_wp2_with fail
 clear k3 z3
 have c:Below a w5 (w5.setCell ⟨a,3,none⟩ (.bool (decide (tx f=Tp.mStar)))):=zu (Below.refl _ _) zn 3 _
 have V:=d5.belowB c (by omega)
 have a1:=c9.trans' (c.mono B)
 have a8:=zy 3 (.bool (decide (tx f=Tp.mStar))) a7
 generalize w5.setCell ⟨a,3,none⟩ (.bool (decide (tx f=Tp.mStar)))=w6 at c V a1 a8 ⊢
 clear c d5 c9 a7
 generalize d6:(if tx f=Tp.mStar then stp f else f)=r2 at V
 have t:Hid ((if tx f=Tp.mStar then stp f else f)=r2):=d6
 clear d6
 by_cases P:tx r2=Tp.mColon
 rotate_left
 ·refine(zN V Tp.mColon _ rfl P).mono ?_
  rintro e w7⟨d,l⟩
  have n:Hid (¬tx r2=Tp.mColon):=P
  clear P
  obtain⟨N,Q,rfl,R,S⟩:=d.out
  go_wp2_with fail
  refine⟨rfl,?_⟩
  rw[show Tp.global r=.error (3,at' r2) by unfold Tp.global;simp only[q.out,t.out,bind,Except.bind,Tp.want,if_neg n.out]]
  exact zw a1 d l
 refine(zF V Tp.mColon _ rfl P).mono ?_
 rintro e w7⟨rfl,b9,c5⟩
 have n:Hid (tx r2=Tp.mColon):=P
 have b6:=(c5.block a (zc a8) (by omega)).trans a8
 have d0:=a1.trans c5
 clear P V c5 a1 a8
 generalize d7:stp r2=r3 at b9
 have A:Hid (stp r2=r3):=d7
 clear d7
 go_wp2_with fail
 refine(zQ b9 Tp.wInt _ rfl).mono ?_
 rintro e w8⟨rfl,s,c6⟩
 have J:=(c6.block a (zc b6) (by omega)).trans b6
 have I:=d0.trans c6
 clear b9 c6 d0 b6
 by_cases x:tx r3=Tp.wInt
 ·have b5:=decide_eq_true x
  rw[if_pos x]at s
  have u:Hid (tx r3=Tp.wInt):=x
  clear x
  go_wp2_with fail
  clear b5
  by_cases j:tx (stp r3)=Tp.mSemi
  ·refine(zF s Tp.mSemi _ rfl j).mono ?_
   rintro e H⟨rfl,W,C⟩
   have E:Hid (tx (stp r3)=Tp.mSemi):=j
   have K:=(C.block a (zc J) (by omega)).trans J
   have T:=I.trans C
   clear j s C I J
   have Y:∀i,H.cell? ⟨a,i,none⟩=(gcells (bs nm) (hd r).pos 0 (decide (tx f=Tp.mStar)))[i]?:=fun i=>za K
   have zr:∀i,H.frozen? ⟨a,i,none⟩=false:=fun i=>zi K
   simp only[gcells]at Y
   go_wp2_with fail
   refine bodyPost_ret (v:=.agg (gcells (bs nm) (at' r) (0) (decide (tx f=Tp.mStar)))) (by simp[results,Tryz.results79,go_sem,Y,gcells,at']) rfl ?_
   rw[show Tp.global r=.ok (⟨nm,at' r,0,tx f==Tp.mStar⟩,stp (stp r3)) by unfold Tp.global;simp only[q.out,t.out,A.out,bind,Except.bind,Tp.want,if_pos n.out,if_pos u.out,if_pos E.out]]
   exact⟨_,rfl,by unfold VG;rw[uL]<;>rfl,W.belowB (kC H a _ _ _ _) (by omega),T.trans' ((kC H a _ _ _ _).mono B)⟩
  ·refine(zN s Tp.mSemi _ rfl j).mono ?_
   rintro e H⟨d,l⟩
   have E:Hid (¬tx (stp r3)=Tp.mSemi):=j
   clear j
   obtain⟨N,Q,rfl,R,S⟩:=d.out
   go_wp2_with fail
   refine⟨rfl,?_⟩
   rw[show Tp.global r=.error (3,at' (stp r3)) by unfold Tp.global;simp only[q.out,t.out,A.out,bind,Except.bind,Tp.want,if_pos n.out,if_pos u.out,if_neg E.out]]
   exact zw I d l
 ·have b5:=decide_eq_false x
  rw[if_neg x]at s
  have u:Hid (¬tx r3=Tp.wInt):=x
  clear x
  go_wp2_with fail
  clear b5
  by_cases O:tx r3=Tp.wArray
  rotate_left
  ·refine(zN s Tp.wArray _ rfl O).mono ?_
   rintro e H⟨d,l⟩
   have M:Hid (¬tx r3=Tp.wArray):=O
   clear O
   obtain⟨N,Q,rfl,R,S⟩:=d.out
   go_wp2_with fail
   refine⟨rfl,?_⟩
   rw[show Tp.global r=.error (3,at' r3) by unfold Tp.global;simp only[q.out,t.out,A.out,bind,Except.bind,Tp.want,if_pos n.out,if_neg u.out,if_neg M.out]]
   exact zw I d l
  refine(zF s Tp.wArray _ rfl O).mono ?_
  rintro e H⟨rfl,W,C⟩
  have M:Hid (tx r3=Tp.wArray):=O
  have K:=(C.block a (zc J) (by omega)).trans J
  have T:=I.trans C
  clear O s C I J
  go_wp2_with fail
  rcases hres2:Tp.number 30 (stp r3) with er|⟨k,F⟩
  ·have D:Hid (Tp.number 30 (stp r3)=.error er):=hres2
   clear hres2
   refine(vu W D).mono ?_
   rintro e m⟨d,l⟩
   obtain⟨N,Q,rfl,R,S⟩:=d.out
   go_wp2_with fail
   refine⟨rfl,?_⟩
   rw[show Tp.global r=.error er by unfold Tp.global;simp only[q.out,t.out,A.out,bind,Except.bind,Tp.want,if_pos n.out,if_neg u.out,if_pos M.out,D.out]]
   exact zw T d l
  have D:Hid (Tp.number 30 (stp r3)=.ok (k,F)):=hres2
  have e3:=number_le hres2
  clear hres2
  refine(vu W D).mono ?_
  intro e m X
  obtain⟨v,rfl,rfl,b4,c1⟩:=X
  have a2:=(c1.block a (zc K) (by omega)).trans K
  have b2:=T.trans c1
  clear W c1 T K
  have k2:m.cell? ⟨a,2,none⟩=some (.int .i64 0):=za a2
  have z2:m.frozen? ⟨a,2,none⟩=false:=zi a2
  by_cases b1:k=0
  ·have e2:((k:Int)==0)=true:=by simp;omega
   have HK:Hid (k=0):=b1
   clear b1
   go_wp2_with fail
   clear k2 z2
   have c:Below a m (m.setCell ⟨a,2,none⟩ (.int .i64 (k:Int))):=zu (Below.refl _ _) zn 2 _
   have z:=b4.belowB c (by omega)
   have y:=b2.trans' (c.mono B)
   generalize m.setCell ⟨a,2,none⟩ (.int .i64 (k:Int))=w11 at c z y ⊢
   refine(zY z 2).mono ?_
   rintro e L⟨d,e1⟩
   obtain⟨N,Q,rfl,R,S⟩:=d.out
   go_wp2_with fail
   refine⟨rfl,?_⟩
   rw[show Tp.global r=.error (2,at' F) by unfold Tp.global;simp only[q.out,t.out,A.out,bind,Except.bind,Tp.want,if_pos n.out,if_neg u.out,if_pos M.out,D.out,if_pos HK.out]]
   exact zw y d (Ext.below e1)
  ·have e2:((k:Int)==0)=false:=by simp;omega
   have HK:Hid (¬k=0):=b1
   clear b1
   go_wp2_with fail
   clear k2 z2
   have c:Below a m (m.setCell ⟨a,2,none⟩ (.int .i64 (k:Int))):=zu (Below.refl _ _) zn 2 _
   have z:=b4.belowB c (by omega)
   have y:=b2.trans' (c.mono B)
   have a3:=zy 2 (.int .i64 (k:Int)) a2
   generalize m.setCell ⟨a,2,none⟩ (.int .i64 (k:Int))=w11 at c z y a3 ⊢
   clear c b4 b2 a2
   by_cases j:tx F=Tp.mSemi
   ·refine(zF z Tp.mSemi _ rfl j).mono ?_
    rintro e L⟨rfl,e0,c2⟩
    have E:Hid (tx F=Tp.mSemi):=j
    have d1:=(c2.block a (zc a3) (by omega)).trans a3
    have d9:=y.trans c2
    clear j z c2 y a3
    have Y:∀i,L.cell? ⟨a,i,none⟩=(gcells (bs nm) (hd r).pos k (decide (tx f=Tp.mStar)))[i]?:=fun i=>za d1
    have zr:∀i,L.frozen? ⟨a,i,none⟩=false:=fun i=>zi d1
    simp only[gcells]at Y
    go_wp2_with fail
    refine bodyPost_ret (v:=.agg (gcells (bs nm) (at' r) ((k:Int)) (decide (tx f=Tp.mStar)))) (by simp[results,Tryz.results79,go_sem,Y,gcells,at']) rfl ?_
    rw[show Tp.global r=.ok (⟨nm,at' r,k,tx f==Tp.mStar⟩,stp F) by unfold Tp.global;simp only[q.out,t.out,A.out,bind,Except.bind,Tp.want,if_pos n.out,if_neg u.out,if_pos M.out,D.out,if_neg HK.out,if_pos E.out]]
    exact⟨_,rfl,by unfold VG;rw[uL]<;>rfl,e0.belowB (kC L a _ _ _ _) (by omega),d9.trans' ((kC L a _ _ _ _).mono B)⟩
   ·refine(zN z Tp.mSemi _ rfl j).mono ?_
    rintro e L⟨d,l⟩
    have E:Hid (¬tx F=Tp.mSemi):=j
    clear j
    obtain⟨N,Q,rfl,R,S⟩:=d.out
    go_wp2_with fail
    refine⟨rfl,?_⟩
    rw[show Tp.global r=.error (3,at' F) by unfold Tp.global;simp only[q.out,t.out,A.out,bind,Except.bind,Tp.want,if_pos n.out,if_neg u.out,if_pos M.out,D.out,if_neg HK.out,if_neg E.out]]
    exact zw y d l
end Go.Proofs.YtbkndnmglhghlaaGreatDoor

namespace Go.Proofs.YtbkndnmglhghlaaGreatDoor
open Go.RowKit
open Tp (Tok hd tx at' stp X S G Pr)
variable {a:Nat}{p:Ps}{w:World}
def pcells (name:ByteArray) (pos:Int) (seen:Bool) (ps vs bd:Value):Array Value:=#[.string name,.int .i64 pos,.bool seen,ps,vs,bd]
theorem yQ {base' e size n:Nat}{v:Value}{xs:List Value}(h:w.ownsRow a e size v n xs)(c:base'<=a):w.ownsRow base' e size v n xs:=by
 refine⟨h.1,?_⟩
 rcases h.2 with q|⟨g,cap,b,d,f,i⟩
 ·exact Or.inl q
 ·exact Or.inr ⟨g,cap,b,d,Nat.le_trans c f,i⟩
def VPr (B:Nat) (c:Pr) (v:Value) (w:World):Prop:=∃(pa va ba:Option Addr) (pc vc bc:Nat),
 v=.agg (pcells (bs c.name) (c.pos:Int) c.seen (.slice pa c.params.length pc) (.slice va c.vars.length vc) (.slice ba c.body.length bc)) /\
 w.ownsRow B 9 1 (.slice pa c.params.length pc) c.params.length (strs c.params)/\w.ownsRow B 9 1 (.slice va c.vars.length vc) c.vars.length (strs c.vars)/\VO B c.body (.slice ba c.body.length bc) w
theorem ext_set6 (w:World)(b:Nat)(a c d e f g:Value):Ext b w ((((((w.setCell ⟨b,0,none⟩ a).setCell ⟨b,1,none⟩ c).setCell ⟨b,2,none⟩ d).setCell ⟨b,3,none⟩ e).setCell ⟨b,4,none⟩ f).setCell ⟨b,5,none⟩ g):=(((((((Ext.refl b w).set 0 a).set 1 c).set 2 d).set 3 e).set 4 f).set 5 g)
theorem below_set6 (w:World)(b:Nat)(a c d e f g:Value):Below b w ((((((w.setCell ⟨b,0,none⟩ a).setCell ⟨b,1,none⟩ c).setCell ⟨b,2,none⟩ d).setCell ⟨b,3,none⟩ e).setCell ⟨b,4,none⟩ f).setCell ⟨b,5,none⟩ g):=(zu (zu (zu (zu (zu (zu (Below.refl b w) zn 0 a) zn 1 c) zn 2 d) zn 3 e) zn 4 f) zn 5 g)
def procT (f:Nat) (r:List Tok) (nm:List UInt8) (seen:Bool) (ps vs:List (List UInt8)) (r8:List Tok):Except Tp.Er (Pr×List Tok):=do
 let r9 <- Tp.want Tp.wBegin r8
 let (b,r10) <- Tp.sx f 0 0 r9
 let r11 <- Tp.want Tp.wEnd r10
 let r12 <- Tp.want Tp.mSemi r11
 .ok (⟨nm,at' r,seen,ps,vs,b⟩,r12)
theorem names_len:∀(f a most:Nat) (r c:List Tok) (l:List (List UInt8)),Tp.names f a most r=.ok (l,c)->a+l.length<=most:=by
 intro f
 induction f with
 |zero=>intro a most r c l h;cases h
 |succ f ih =>
  intro a most r c l h
  by_cases b:most<=a
  ·rw[xd _ _ _ _ b]at h;cases h
  ·rcases hn:Tp.name r with er|⟨nm,e⟩
   ·rw[vw b hn]at h;cases h
   ·by_cases d:tx e=Tp.mComma
    ·rw[jY b hn d]at h
     rcases hq:Tp.names f (a+1) most (stp e) with er|⟨g,i⟩
     ·rw[hq]at h;cases h
     ·rw[hq]at h
      simp only[addAll,Except.ok.injEq,Prod.mk.injEq]at h
      have:=ih _ _ _ _ _ hq
      rw[<-h.1];simp;omega
    ·rw[jZ b hn d]at h
     simp only[Except.ok.injEq,Prod.mk.injEq]at h
     rw[<-h.1];simp;omega
theorem kt {d r:List Tok}{o b most:Nat}{c:Except Tp.Er (List (List UInt8)×List Tok)}(h:St w p d r o b)(k:most<=10)(j:a<=10)(f:Nat)(i:1<=f)(g:most+1<=f+a)(m:Hid (Tp.names f a most r=c)) :
  Calls Tryz.prog 77 #[.pointer (some ⟨p.pb,0,none⟩),.int .i64 (a:Int),.int .i64 (most:Int)] w fun e w'=>Post p d o b w (fun l v w'=>w'.ownsRow w.heap.size 9 1 v l.length (strs l)) c e w':=by
 have:=names_post h a most f k j i g
 rw[m.out]at this
 exact this
theorem vh {X:List Tok}{f:Nat}(hS:StmtsC p X f){w:World}{r:List Tok}(h:St w p X r 0 0)(hn:Tp.proc f r≠.error (99,0)) :
  Calls Tryz.prog 81 #[.pointer (some ⟨p.pb,0,none⟩)] w fun e w'=>Post p X 0 0 w (VPr w.heap.size) (Tp.proc f r) e w':=by
 have d5:=zg h.c0
 have HS:Hid (StmtsC p X f):=hS
 have HN:Hid (Tp.proc f r≠.error (99,0)):=hn
 clear hS hn
 go_enter Tryz.func81,Tryz.ntmps81
 go_wp2_with fail
 have d:∀ob,St (w.alloc ob) p X r 0 0:=fun ob=>h.below (zb _ _)
 have j:∀ob,Ext p.pb w (w.alloc ob):=fun ob=>Ext.below (zb _ _)
 obtain⟨g,b5⟩:∃g,g=w.heap.size:=⟨_,rfl⟩
 have c:=zl w (.cells (pcells ⟨#[]⟩ 0 false (.slice none 0 0) (.slice none 0 0) (.slice none 0 0)) 157)
 obtain⟨w0,a4⟩:∃w0,w0=w.alloc (.cells #[.string ⟨#[]⟩,.int .i64 0,.bool false,.slice none 0 0,.slice none 0 0,.slice none 0 0] 157):=⟨_,rfl⟩
 replace d:St w0 p X r 0 0:=by rw[a4];exact d _
 replace j:Ext p.pb w w0:=by rw[a4];exact j _
 replace c:w0.heap[g]?=some (.cells (pcells ⟨#[]⟩ 0 false (.slice none 0 0) (.slice none 0 0) (.slice none 0 0)) 157 (0,0)):=by rw[a4,b5];exact c
 rw[<-a4,<-b5]
 have a0:w.heap.size<=g:=by omega
 have d6:p.pb<g:=by omega
 clear a4 b5
 by_cases k:tx r=Tp.wProc
 rotate_left
 ·refine(zN d Tp.wProc _ rfl k).mono ?_
  rintro e Y⟨o,a⟩
  have t:Hid (¬tx r=Tp.wProc):=k
  clear k
  obtain⟨H,M,rfl,N,O⟩:=o.out
  go_wp2_with fail
  refine⟨rfl,?_⟩
  rw[show Tp.proc f r=.error (3,at' r) by unfold Tp.proc;simp only[if_neg t.out,bind,Except.bind,Tp.want]]
  exact zw j o a
 refine(zF d Tp.wProc _ rfl k).mono ?_
 rintro e w1⟨rfl,n,a⟩
 have H1:Hid (tx r=Tp.wProc):=k
 clear k d
 have d:=n
 clear n
 have m:=(a.block g (zc c) (by omega)).trans c
 have l:=j.trans a
 clear c j
 have c:=m
 clear m
 have j:=l
 clear l
 clear a
 have T:w1.cell? ⟨g,1,none⟩=some (.int .i64 0):=za c
 have U:w1.frozen? ⟨g,1,none⟩=false:=zi c
 go_wp2_with fail
 clear T U
 have q:Below g w1 (w1.setCell ⟨g,1,none⟩ (.int .i64 (at' r:Int))):=zu (Below.refl _ _) zn 1 _
 have u:Ext g w1 (w1.setCell ⟨g,1,none⟩ (.int .i64 (at' r:Int))):=(Ext.refl _ _).set 1 _
 have n:=d.belowB q (by omega)
 have l:=j.trans' (q.mono a0)
 have m:=zy 1 (.int .i64 (at' r:Int)) c
 generalize w1.setCell ⟨g,1,none⟩ (.int .i64 (at' r:Int))=w3 at q u n l m  ⊢
 clear q u d j c
 have d:=n
 clear n
 have j:=l
 clear l
 have c:=m
 clear m
 generalize z:stp r=r1 at d
 have E1:Hid (stp r=r1):=z
 clear z
 rcases B:Tp.name r1 with er|⟨nm,A⟩
 ·have t:Hid (Tp.name r1=.error er):=B
  clear B
  refine(um d t).mono ?_
  rintro e Y⟨o,a⟩
  obtain⟨H,M,rfl,N,O⟩:=o.out
  go_wp2_with fail
  refine⟨rfl,?_⟩
  rw[show Tp.proc f r=.error er by unfold Tp.proc;simp only[if_pos H1.out,E1.out,t.out,bind,Except.bind,Tp.want]]
  exact zw j o a
 have H2:Hid (Tp.name r1=.ok (nm,A)):=B
 clear B
 refine(uk d H2).mono ?_
 rintro e w4⟨rfl,n,a⟩
 clear d
 have d:=n
 clear n
 have m:=(a.block g (zc c) (by omega)).trans c
 have l:=j.trans a
 clear c j
 have c:=m
 clear m
 have j:=l
 clear l
 clear a
 have T:w4.cell? ⟨g,0,none⟩=some (.string ⟨#[]⟩):=za c
 have U:w4.frozen? ⟨g,0,none⟩=false:=zi c
 go_wp2_with fail
 clear T U
 have q:Below g w4 (w4.setCell ⟨g,0,none⟩ (.string (bs nm))):=zu (Below.refl _ _) zn 0 _
 have u:Ext g w4 (w4.setCell ⟨g,0,none⟩ (.string (bs nm))):=(Ext.refl _ _).set 0 _
 have n:=d.belowB q (by omega)
 have l:=j.trans' (q.mono a0)
 have m:=zy 0 (.string (bs nm)) c
 generalize w4.setCell ⟨g,0,none⟩ (.string (bs nm))=w6 at q u n l m  ⊢
 clear q u d j c
 have d:=n
 clear n
 have j:=l
 clear l
 have c:=m
 clear m
 refine(zQ d Tp.mStar _ rfl).mono ?_
 rintro e w7⟨rfl,n,a⟩
 clear d
 have d:=n
 clear n
 have m:=(a.block g (zc c) (by omega)).trans c
 have l:=j.trans a
 clear c j
 have c:=m
 clear m
 have j:=l
 clear l
 clear a
 have T:w7.cell? ⟨g,2,none⟩=some (.bool false):=za c
 have U:w7.frozen? ⟨g,2,none⟩=false:=zi c
 go_wp2_with fail
 clear T U
 have q:Below g w7 (w7.setCell ⟨g,2,none⟩ (.bool (decide (tx A=Tp.mStar)))):=zu (Below.refl _ _) zn 2 _
 have u:Ext g w7 (w7.setCell ⟨g,2,none⟩ (.bool (decide (tx A=Tp.mStar)))):=(Ext.refl _ _).set 2 _
 have n:=d.belowB q (by omega)
 have l:=j.trans' (q.mono a0)
 have m:=zy 2 (.bool (decide (tx A=Tp.mStar))) c
 generalize w7.setCell ⟨g,2,none⟩ (.bool (decide (tx A=Tp.mStar)))=w9 at q u n l m  ⊢
 clear q u d j c
 have d:=n
 clear n
 have j:=l
 clear l
 have c:=m
 clear m
 generalize z:(if tx A=Tp.mStar then stp A else A)=r3 at d
 have E3:Hid ((if tx A=Tp.mStar then stp A else A)=r3):=z
 clear z
 by_cases k:tx r3=Tp.mLp
 rotate_left
 ·refine(zN d Tp.mLp _ rfl k).mono ?_
  rintro e Y⟨o,a⟩
  have t:Hid (¬tx r3=Tp.mLp):=k
  clear k
  obtain⟨H,M,rfl,N,O⟩:=o.out
  go_wp2_with fail
  refine⟨rfl,?_⟩
  rw[show Tp.proc f r=.error (3,at' r3) by unfold Tp.proc;simp only[if_pos H1.out,E1.out,H2.out,E3.out,if_neg t.out,bind,Except.bind,Tp.want]]
  exact zw j o a
 refine(zF d Tp.mLp _ rfl k).mono ?_
 rintro e d7⟨rfl,n,a⟩
 have H4:Hid (tx r3=Tp.mLp):=k
 clear k d
 have d:=n
 clear n
 have m:=(a.block g (zc c) (by omega)).trans c
 have l:=j.trans a
 clear c j
 have c:=m
 clear m
 have j:=l
 clear l
 clear a
 generalize z:stp r3=r4 at d
 have E4:Hid (stp r3=r4):=z
 clear z
 go_wp2_with fail
 refine(yy d Tp.mRp _ rfl).mono ?_
 rintro e wi⟨rfl,b1⟩
 generalize a3:decide (tx r4=Tp.mRp)=tt
 have c4:Hid (decide (tx r4=Tp.mRp)=tt):=a3
 clear a3
 have n:=d.below b1
 clear d
 have d:=n
 clear n
 have m:=((Ext.below (b:=p.pb) b1).block g (zc c) (by omega)).trans c
 have l:=j.trans (Ext.below (b:=p.pb) b1)
 clear c j
 have c:=m
 clear m
 have j:=l
 clear l
 clear b1
 go_upto_if 16 with fail
 go_cut [] (fun wc=>∃(ps:List (List UInt8)) (K:Option Addr) (L:Nat) (G:List Tok),ps.length<=10/\St wc p X G 0 0/\Ext p.pb w wc/\wc.heap[g]?=some (.cells (pcells (bs nm) (at' r) (decide (tx A=Tp.mStar)) (.slice K ps.length L) (.slice none 0 0) (.slice none 0 0)) 157 (0,0)) /\
  wc.ownsRow (g+1) 9 1 (.slice K ps.length L) ps.length (strs ps)/\(if tx r4=Tp.mRp then .ok ([],r4) else Tp.names 11 0 10 r4:Except Tp.Er (List (List UInt8)×List Tok))=.ok (ps,G))
 case first =>
  cases tt
  rotate_left
  ·have F:tx r4=Tp.mRp:=of_decide_eq_true c4.out
   have Q:Hid (tx r4=Tp.mRp):=F
   clear F
   go_wp2_with fail
   go_meet
   case rel=>exact⟨[],none,0,r4,by simp,d,j,c,World.ownsRow_nil _ _ _ _,by rw[if_pos Q.out]⟩
  ·have F:¬tx r4=Tp.mRp:=of_decide_eq_false c4.out
   have Q:Hid (¬tx r4=Tp.mRp):=F
   clear F
   rcases B:Tp.names 11 0 10 r4 with er|⟨ps,G⟩
   ·have t:Hid (Tp.names 11 0 10 r4=.error er):=B
    clear B
    go_wp2_with fail
    refine(kt d (by omega) (by omega) 11 (by omega) (by omega) t).mono ?_
    rintro e Y⟨o,a⟩
    obtain⟨H,M,rfl,N,O⟩:=o.out
    go_wp2_with fail
    refine⟨rfl,?_⟩
    rw[show Tp.proc f r=.error er by unfold Tp.proc;simp only[if_pos H1.out,E1.out,H2.out,E3.out,if_pos H4.out,E4.out,if_neg Q.out,t.out,bind,Except.bind,Tp.want]]
    exact zw j o a
   ·have t:Hid (Tp.names 11 0 10 r4=.ok (ps,G)):=B
    have d3:=names_len _ _ _ _ _ _ B
    clear B
    go_wp2_with fail
    refine(kt d (by omega) (by omega) 11 (by omega) (by omega) t).mono ?_
    intro e E hq
    obtain⟨v,rfl,J,b0,a⟩:=hq
    obtain⟨W,cap,rfl⟩:=z7 J
    have b7:=zc c
    have Z:=(a.block g b7 (by omega)).trans c
    have a6:=j.trans a
    have a7:=yQ (base':=g+1) J (by omega)
    have T:E.cell? ⟨g,3,none⟩=some (.slice none 0 0):=za Z
    have U:E.frozen? ⟨g,3,none⟩=false:=zi Z
    clear J d j c a
    go_wp2_with fail
    go_meet
    case rel =>
     have q:Below g E (E.setCell ⟨g,3,none⟩ (.slice W ps.length cap)):=zu (Below.refl _ _) zn 3 _
     have u:Ext g E (E.setCell ⟨g,3,none⟩ (.slice W ps.length cap)):=(Ext.refl _ _).set 3 _
     exact⟨ps,W,cap,G,by omega,b0.belowB q (by omega),a6.trans' (q.mono a0),zy 3 _ Z,zD a7 u (by omega),by rw[if_neg Q.out,t.out]⟩
 clear d j c
 obtain⟨ps,K,L,G,d4,d,j,c,s,a2⟩:=hcut
 have E5:Hid ((if tx r4=Tp.mRp then .ok ([],r4) else Tp.names 11 0 10 r4:Except Tp.Er (List (List UInt8)×List Tok))=.ok (ps,G)):=a2
 clear a2
 go_wp2_with fail
 by_cases k:tx G=Tp.mRp
 rotate_left
 ·refine(zN d Tp.mRp _ rfl k).mono ?_
  rintro e Y⟨o,a⟩
  have t:Hid (¬tx G=Tp.mRp):=k
  clear k
  obtain⟨H,M,rfl,N,O⟩:=o.out
  go_wp2_with fail
  refine⟨rfl,?_⟩
  rw[show Tp.proc f r=.error (3,at' G) by unfold Tp.proc;simp only[if_pos H1.out,E1.out,H2.out,E3.out,if_pos H4.out,E4.out,E5.out,if_neg t.out,bind,Except.bind,Tp.want]]
  exact zw j o a
 refine(zF d Tp.mRp _ rfl k).mono ?_
 rintro e d8⟨rfl,n,a⟩
 have H6:Hid (tx G=Tp.mRp):=k
 clear k d
 have d:=n
 clear n
 have m:=(a.block g (zc c) (by omega)).trans c
 have l:=j.trans a
 have x:=zD s a (by omega)
 clear c j s
 have c:=m
 clear m
 have j:=l
 clear l
 have s:=x
 clear x
 clear a
 generalize z:stp G=r6 at d
 have E6:Hid (stp G=r6):=z
 clear z
 go_wp2_with fail
 by_cases k:tx r6=Tp.mSemi
 rotate_left
 ·refine(zN d Tp.mSemi _ rfl k).mono ?_
  rintro e Y⟨o,a⟩
  have t:Hid (¬tx r6=Tp.mSemi):=k
  clear k
  obtain⟨H,M,rfl,N,O⟩:=o.out
  go_wp2_with fail
  refine⟨rfl,?_⟩
  rw[show Tp.proc f r=.error (3,at' r6) by unfold Tp.proc;simp only[if_pos H1.out,E1.out,H2.out,E3.out,if_pos H4.out,E4.out,E5.out,if_pos H6.out,E6.out,if_neg t.out,bind,Except.bind,Tp.want]]
  exact zw j o a
 refine(zF d Tp.mSemi _ rfl k).mono ?_
 rintro e d9⟨rfl,n,a⟩
 have H7:Hid (tx r6=Tp.mSemi):=k
 clear k d
 have d:=n
 clear n
 have m:=(a.block g (zc c) (by omega)).trans c
 have l:=j.trans a
 have x:=zD s a (by omega)
 clear c j s
 have c:=m
 clear m
 have j:=l
 clear l
 have s:=x
 clear x
 clear a
 generalize z:stp r6=r7 at d
 have E7:Hid (stp r6=r7):=z
 clear z
 go_wp2_with fail
 refine(zQ d Tp.wVar _ rfl).mono ?_
 rintro e wt⟨rfl,n,a⟩
 generalize a3:decide (tx r7=Tp.wVar)=tv
 have c5:Hid (decide (tx r7=Tp.wVar)=tv):=a3
 clear a3 d
 have d:=n
 clear n
 have m:=(a.block g (zc c) (by omega)).trans c
 have l:=j.trans a
 have x:=zD s a (by omega)
 clear c j s
 have c:=m
 clear m
 have j:=l
 clear l
 have s:=x
 clear x
 clear a
 go_upto_if 25 with fail
 go_cut [] (fun wc=>∃(vs:List (List UInt8)) (va:Option Addr) (vc:Nat) (y:List Tok),St wc p X y 0 0/\Ext p.pb w wc/\wc.heap[g]?=some (.cells (pcells (bs nm) (at' r) (decide (tx A=Tp.mStar)) (.slice K ps.length L) (.slice va vs.length vc) (.slice none 0 0)) 157 (0,0)) /\
  wc.ownsRow (g+1) 9 1 (.slice K ps.length L) ps.length (strs ps)/\wc.ownsRow (g+1) 9 1 (.slice va vs.length vc) vs.length (strs vs) /\
  (if tx r7=Tp.wVar then do let (vs,y) <- Tp.names 11 ps.length 10 (stp r7);let r9 <- Tp.want Tp.mSemi y;.ok (vs,r9) else .ok ([],r7):Except Tp.Er (List (List UInt8)×List Tok))=.ok (vs,y))
 case first =>
  cases tv
  ·have F:¬tx r7=Tp.wVar:=of_decide_eq_false c5.out
   rw[if_neg F]at d
   have Q:Hid (¬tx r7=Tp.wVar):=F
   clear F
   go_wp2_with fail
   go_meet
   case rel=>exact⟨[],none,0,r7,d,j,c,s,World.ownsRow_nil _ _ _ _,by rw[if_neg Q.out]⟩
  ·have F:tx r7=Tp.wVar:=of_decide_eq_true c5.out
   rw[if_pos F]at d
   have Q:Hid (tx r7=Tp.wVar):=F
   clear F
   have kL:wt.cell? ⟨g,3,none⟩=some (.slice K ps.length L):=za c
   rcases B:Tp.names 11 ps.length 10 (stp r7) with er|⟨vs,y⟩
   ·have t:Hid (Tp.names 11 ps.length 10 (stp r7)=.error er):=B
    clear B
    go_wp2_with fail
    clear kL
    refine(kt d (by omega) (by omega) 11 (by omega) (by omega) t).mono ?_
    rintro e Y⟨o,a⟩
    obtain⟨H,M,rfl,N,O⟩:=o.out
    go_wp2_with fail
    refine⟨rfl,?_⟩
    rw[show Tp.proc f r=.error er by unfold Tp.proc;simp only[if_pos H1.out,E1.out,H2.out,E3.out,if_pos H4.out,E4.out,E5.out,if_pos H6.out,E6.out,if_pos H7.out,E7.out,if_pos Q.out,t.out,bind,Except.bind,Tp.want]]
    exact zw j o a
   ·have t:Hid (Tp.names 11 ps.length 10 (stp r7)=.ok (vs,y)):=B
    clear B
    go_wp2_with fail
    clear kL
    refine(kt d (by omega) (by omega) 11 (by omega) (by omega) t).mono ?_
    intro e E hq
    obtain⟨v,rfl,J,b0,a⟩:=hq
    obtain⟨W,cap,rfl⟩:=z7 J
    have b7:=zc c
    have Z:=(a.block g b7 (by omega)).trans c
    have a6:=j.trans a
    have b9:=zD s a (by omega)
    have a7:=yQ (base':=g+1) J (by omega)
    have T:E.cell? ⟨g,4,none⟩=some (.slice none 0 0):=za Z
    have U:E.frozen? ⟨g,4,none⟩=false:=zi Z
    clear J d j c a s
    go_wp2_with fail
    clear T U
    have q:Below g E (E.setCell ⟨g,4,none⟩ (.slice W vs.length cap)):=zu (Below.refl _ _) zn 4 _
    have u:Ext g E (E.setCell ⟨g,4,none⟩ (.slice W vs.length cap)):=(Ext.refl _ _).set 4 _
    have a9:=b0.belowB q (by omega)
    have a5:=a6.trans' (q.mono a0)
    have a8:=zy 4 (.slice W vs.length cap) Z
    have b4:=zD b9 u (by omega)
    have b3:=zD a7 u (by omega)
    generalize E.setCell ⟨g,4,none⟩ (.slice W vs.length cap)=wa at q u a9 a5 a8 b4 b3 ⊢
    clear q u b0 a6 Z b9 a7
    by_cases k:tx y=Tp.mSemi
    ·refine(zF a9 Tp.mSemi _ rfl k).mono ?_
     rintro e wb⟨rfl,d1,a⟩
     have HC:Hid (tx y=Tp.mSemi):=k
     clear k a9
     have d0:=(a.block g (zc a8) (by omega)).trans a8
     have c7:=a5.trans a
     have c9:=zD b4 a (by omega)
     have c8:=zD b3 a (by omega)
     clear a a5 a8 b4 b3
     go_wp2_with fail
     go_meet
     case rel=>exact⟨vs,W,cap,stp y,d1,c7,d0,c9,c8,by rw[if_pos Q.out,t.out];simp only[bind,Except.bind,Tp.want,if_pos HC.out]⟩
    ·refine(zN a9 Tp.mSemi _ rfl k).mono ?_
     rintro e wb⟨o,a⟩
     have HC:Hid (¬tx y=Tp.mSemi):=k
     clear k
     obtain⟨H,M,rfl,N,O⟩:=o.out
     go_wp2_with fail
     refine⟨rfl,?_⟩
     rw[show Tp.proc f r=.error (3,at' y) by unfold Tp.proc;simp only[if_pos H1.out,E1.out,H2.out,E3.out,if_pos H4.out,E4.out,E5.out,if_pos H6.out,E6.out,if_pos H7.out,E7.out,if_pos Q.out,t.out,if_neg HC.out,bind,Except.bind,Tp.want]]
     exact zw a5 o a
 clear d j c s
 obtain⟨vs,va,vc,y,d,j,c,s,C,a2⟩:=hcut
 have E8:Hid ((if tx r7=Tp.wVar then do let (vs,y) <- Tp.names 11 ps.length 10 (stp r7);let r9 <- Tp.want Tp.mSemi y;.ok (vs,r9) else .ok ([],r7):Except Tp.Er (List (List UInt8)×List Tok))=.ok (vs,y)):=a2
 clear a2
 have HT:Hid (Tp.proc f r=procT f r nm (tx A==Tp.mStar) ps vs y):=by
  have e8:=E8.out
  simp only[bind,Except.bind,Tp.want]at e8
  unfold Hid procT Tp.proc
  simp only[if_pos H1.out,E1.out,H2.out,E3.out,if_pos H4.out,E4.out,E5.out,if_pos H6.out,E6.out,if_pos H7.out,E7.out,e8,bind,Except.bind,Tp.want]
 go_wp2_with fail
 by_cases k:tx y=Tp.wBegin
 rotate_left
 ·refine(zN d Tp.wBegin _ rfl k).mono ?_
  rintro e Y⟨o,a⟩
  have t:Hid (¬tx y=Tp.wBegin):=k
  clear k
  obtain⟨H,M,rfl,N,O⟩:=o.out
  go_wp2_with fail
  refine⟨rfl,?_⟩
  rw[show Tp.proc f r=.error (3,at' y) by rw[HT.out];unfold procT;simp only[if_neg t.out,bind,Except.bind,Tp.want]]
  exact zw j o a
 refine(zF d Tp.wBegin _ rfl k).mono ?_
 rintro e b8⟨rfl,n,a⟩
 have H9:Hid (tx y=Tp.wBegin):=k
 clear k d
 have d:=n
 clear n
 have m:=(a.block g (zc c) (by omega)).trans c
 have l:=j.trans a
 have x:=zD s a (by omega)
 have D:=zD C a (by omega)
 clear c j s C
 have c:=m
 clear m
 have j:=l
 clear l
 have s:=x
 clear x
 have C:=D
 clear D
 clear a
 generalize z:stp y=r9 at d
 have E9:Hid (stp y=r9):=z
 clear z
 go_wp2_with fail
 have c6:Tp.sx f 0 0 r9≠.error (99,0):=by
  intro e;apply HN.out;rw[HT.out];unfold procT;simp only[if_pos H9.out,E9.out,e,bind,Except.bind,Tp.want]
 have b6:=HS.out _ r9 0 d (by omega) c6
 generalize B:Tp.sx f 0 0 r9=res at b6
 have HR:Hid (Tp.sx f 0 0 r9=res):=B
 have c3:Hid (Calls Tryz.prog 82 #[.pointer (some ⟨p.pb,0,none⟩)] b8 fun e w'=>Post p X 0 0 b8 (VL b8.heap.size) res e w'):=b6
 clear b6 B c6
 refine c3.out.mono ?_
 intro e ws hq
 rcases res with er|⟨I,a1⟩
 ·obtain⟨o,a⟩:=hq
  obtain⟨H,M,rfl,N,O⟩:=o.out
  go_wp2_with fail
  refine⟨rfl,?_⟩
  rw[show Tp.proc f r=.error er by rw[HT.out];unfold procT;simp only[if_pos H9.out,E9.out,HR.out,bind,Except.bind,Tp.want]]
  exact zw j o a
 obtain⟨v,rfl,J,n,a⟩:=hq
 obtain⟨R,S,rfl⟩:=J.shape
 have P:VL (g+1) I (.slice R I.length S) ws:=J.base (by have:=zc c;omega)
 clear d J
 have d:=n
 clear n
 have m:=(a.block g (zc c) (by omega)).trans c
 have l:=j.trans a
 have x:=zD s a (by omega)
 have D:=zD C a (by omega)
 clear c j s C
 have c:=m
 clear m
 have j:=l
 clear l
 have s:=x
 clear x
 have C:=D
 clear D
 clear a c3
 have T:ws.cell? ⟨g,5,none⟩=some (.slice none 0 0):=za c
 have U:ws.frozen? ⟨g,5,none⟩=false:=zi c
 go_wp2_with fail
 clear T U
 have q:Below g ws (ws.setCell ⟨g,5,none⟩ (.slice R I.length S)):=zu (Below.refl _ _) zn 5 _
 have u:Ext g ws (ws.setCell ⟨g,5,none⟩ (.slice R I.length S)):=(Ext.refl _ _).set 5 _
 have n:=d.belowB q (by omega)
 have l:=j.trans' (q.mono a0)
 have m:=zy 5 (.slice R I.length S) c
 have x:=zD s u (by omega)
 have D:=zD C u (by omega)
 have V:=VL.ext u (by omega) P
 generalize ws.setCell ⟨g,5,none⟩ (.slice R I.length S)=w16 at q u n l m x D V ⊢
 clear q u d j c s C P
 have d:=n
 clear n
 have j:=l
 clear l
 have c:=m
 clear m
 have s:=x
 clear x
 have C:=D
 clear D
 have P:=V
 clear V
 by_cases k:tx a1=Tp.wEnd
 rotate_left
 ·refine(zN d Tp.wEnd _ rfl k).mono ?_
  rintro e Y⟨o,a⟩
  have t:Hid (¬tx a1=Tp.wEnd):=k
  clear k
  obtain⟨H,M,rfl,N,O⟩:=o.out
  go_wp2_with fail
  refine⟨rfl,?_⟩
  rw[show Tp.proc f r=.error (3,at' a1) by rw[HT.out];unfold procT;simp only[if_pos H9.out,E9.out,HR.out,if_neg t.out,bind,Except.bind,Tp.want]]
  exact zw j o a
 refine(zF d Tp.wEnd _ rfl k).mono ?_
 rintro e e0⟨rfl,n,a⟩
 have c2:Hid (tx a1=Tp.wEnd):=k
 clear k d
 have d:=n
 clear n
 have m:=(a.block g (zc c) (by omega)).trans c
 have l:=j.trans a
 have x:=zD s a (by omega)
 have D:=zD C a (by omega)
 have V:=VL.ext a (by omega) P
 clear c j s C P
 have c:=m
 clear m
 have j:=l
 clear l
 have s:=x
 clear x
 have C:=D
 clear D
 have P:=V
 clear V
 clear a
 generalize z:stp a1=r11 at d
 have c1:Hid (stp a1=r11):=z
 clear z
 go_wp2_with fail
 by_cases k:tx r11=Tp.mSemi
 rotate_left
 ·refine(zN d Tp.mSemi _ rfl k).mono ?_
  rintro e Y⟨o,a⟩
  have t:Hid (¬tx r11=Tp.mSemi):=k
  clear k
  obtain⟨H,M,rfl,N,O⟩:=o.out
  go_wp2_with fail
  refine⟨rfl,?_⟩
  rw[show Tp.proc f r=.error (3,at' r11) by rw[HT.out];unfold procT;simp only[if_pos H9.out,E9.out,HR.out,if_pos c2.out,c1.out,if_neg t.out,bind,Except.bind,Tp.want]]
  exact zw j o a
 refine(zF d Tp.mSemi _ rfl k).mono ?_
 rintro e b2⟨rfl,n,a⟩
 have d2:Hid (tx r11=Tp.mSemi):=k
 clear k d
 have d:=n
 clear n
 have m:=(a.block g (zc c) (by omega)).trans c
 have l:=j.trans a
 have x:=zD s a (by omega)
 have D:=zD C a (by omega)
 have V:=VL.ext a (by omega) P
 clear c j s C P
 have c:=m
 clear m
 have j:=l
 clear l
 have s:=x
 clear x
 have C:=D
 clear D
 have P:=V
 clear V
 clear a
 have kr:∀i,b2.cell? ⟨g,i,none⟩=(pcells (bs nm) (at' r) (decide (tx A=Tp.mStar)) (.slice K ps.length L) (.slice va vs.length vc) (.slice R I.length S))[i]?:=fun i=>za c
 have zr:∀i,b2.frozen? ⟨g,i,none⟩=false:=fun i=>zi c
 simp only[pcells]at kr
 go_wp2_with fail
 refine bodyPost_ret (v:=.agg (pcells (bs nm) (at' r) (decide (tx A=Tp.mStar)) (.slice K ps.length L) (.slice va vs.length vc) (.slice R I.length S))) (by simp[results,Tryz.results81,go_sem,kr,pcells]) rfl ?_
 rw[show Tp.proc f r=.ok (⟨nm,at' r,tx A==Tp.mStar,ps,vs,I⟩,stp r11) by rw[HT.out];unfold procT;simp only[if_pos H9.out,E9.out,HR.out,if_pos c2.out,c1.out,if_pos d2.out,bind,Except.bind,Tp.want]]
 have q:=below_set6 b2 g (.string (bs nm)) (.int .i64 (at' r:Int)) (.bool (decide (tx A=Tp.mStar))) (.slice K ps.length L) (.slice va vs.length vc) (.slice R I.length S)
 have u:=ext_set6 b2 g (.string (bs nm)) (.int .i64 (at' r:Int)) (.bool (decide (tx A=Tp.mStar))) (.slice K ps.length L) (.slice va vs.length vc) (.slice R I.length S)
 exact⟨_,rfl,⟨K,va,R,L,vc,S,by rw[uL],yQ (zD s u (by omega)) (by omega),yQ (zD C u (by omega)) (by omega),(VL.ext u (by omega) P).vo.base (by omega)⟩,d.belowB q (by omega),j.trans' (q.mono a0)⟩
end Go.Proofs.YtbkndnmglhghlaaGreatDoor

namespace Go.Proofs.YtbkndnmglhghlaaGreatDoor
open Go.RowKit
open Tp (Tok hd tx at' stp X)
variable {a r:List Tok}{b:List X}{f k n o:Nat}{p:Ps}
theorem vI {a:Tp.Er}(b:n<5)(h:Tp.ex f (n+1) o 0 [] r=.error a):Tp.ex (f+1) n o 0 [] r=.error a:=by
 rw[Tp.ex,if_pos b,h];rfl
theorem ex_lv_ok {x:List X}(b:n<5)(h:Tp.ex f (n+1) o 0 [] r=.ok (x,a)):Tp.ex (f+1) n o 0 [] r=Tp.ex f (10+n) o (at' r) x a:=by
 rw[Tp.ex,if_pos b,h];rfl
theorem ex_lp_end {a:Nat}(h:Tp.lvl (tx r)≠n):Tp.ex (k+1) (10+n) o a b r=.ok (b,r):=by
 rw[Tp.ex,if_neg (by omega),if_neg (by omega),if_neg (by omega),if_neg (by omega),if_neg (by omega)]
theorem vJ {a:Nat}{c:List X}{b:Tp.Er}(h:Tp.lvl (tx r)=n)(d:Tp.ex k (n+1) o 0 [] (stp r)=.error b):Tp.ex (k+1) (10+n) o a c r=.error b:=by
 rw[Tp.ex,if_neg (by omega),if_neg (by omega),if_neg (by omega),if_neg (by omega),if_pos (by omega),show 10+n-10+1=n+1 by omega,d];rfl
theorem ex_lp_ok {a:Nat}{y:List X}{c:List Tok}(h:Tp.lvl (tx r)=n)(d:Tp.ex k (n+1) o 0 [] (stp r)=.ok (y,c)):Tp.ex (k+1) (10+n) o a b r=Tp.ex k (10+n) o a [⟨5,a,0,[],[],tx r,b,y,[]⟩] c:=by
 rw[Tp.ex,if_neg (by omega),if_neg (by omega),if_neg (by omega),if_neg (by omega),if_pos (by omega),show 10+n-10+1=n+1 by omega,d];rfl
theorem level_one (g:OneC p a f){w:World}{r:List Tok}{o b:Nat}(h:St w p a r o b)(q:o<=11)(i:Tp.ex f 5 o 0 [] r≠.error (99,0)) :
  Calls Tryz.prog 203 #[.pointer (some ⟨p.pb,0,none⟩),.int .i64 5] w fun e w'=>Post p a o b w (VX w.heap.size) (Tp.ex f 5 o 0 [] r) e w':=by
 have c:=g w r o b h q i
 generalize l:Tp.ex f 5 o 0 [] r=res at c
 have n:Hid (Calls Tryz.prog 219 #[.pointer (some ⟨p.pb,0,none⟩)] w fun e w'=>Post p a o b w (VX w.heap.size) res e w'):=c
 clear c l i g
 go_enter Tryz.func203,Tryz.ntmps203
 go_wp2_with fail
 refine n.out.mono ?_
 intro e B j
 rcases res with er|⟨x,A⟩
 ·obtain⟨k,d⟩:=j
  obtain⟨t,u,rfl,y,z⟩:=k.out
  go_wp2_with fail
  exact⟨rfl,k,d⟩
 ·obtain⟨v,rfl,s,m,d⟩:=j
  go_wp2_with fail
  go_ret
  exact⟨_,rfl,s,m,d⟩
theorem level_some {d:List Tok}(hL:LevelC p d f){w:World}{r:List Tok}{o b n:Nat}(h:St w p d r o b)(ho:o<=11)(a7:n<5)(hn:Tp.ex (f+1) n o 0 [] r≠.error (99,0)) :
  Calls Tryz.prog 203 #[.pointer (some ⟨p.pb,0,none⟩),.int .i64 (n:Int)] w fun e w'=>Post p d o b w (VX w.heap.size) (Tp.ex (f+1) n o 0 [] r) e w':=by
 have i:=zg h.c0
 have c4:(n:Int)<5:=by omega
 have c3:((n:Int)==5)=false:=by simp;omega
 have N:Hid (n<5):=a7
 have HL:Hid (∀g,g<=f->∀W q,St W p d q o b->Tp.ex g (n+1) o 0 [] q≠.error (99,0)->Calls Tryz.prog 203 #[.pointer (some ⟨p.pb,0,none⟩),.int .i64 ((n:Int)+1)] W fun e w'=>Post p d o b W (VX W.heap.size) (Tp.ex g (n+1) o 0 [] q) e w') :=
  fun g hg W q hW c=>(hL.mono hg) W q o b (n+1) hW ho (by omega) c
 have T:Hid (Tp.ex (f+1) n o 0 [] r≠.error (99,0)):=hn
 clear hL hn a7
 go_enter Tryz.func203,Tryz.ntmps203
 go_wp2_with fail
 refine(zK h).mono ?_
 rintro e w1⟨rfl,s⟩
 have a1:=h.below s
 have b5:=s.size
 go_wp2_with fail
 have t:Tp.ex f (n+1) o 0 [] r≠.error (99,0):=fun e=>T.out (vI N.out e)
 refine(HL.out f zn _ r a1 t).mono ?_
 intro e w2 c
 generalize l:Tp.ex f (n+1) o 0 [] r=res at c
 have a6:Hid (Tp.ex f (n+1) o 0 [] r=res):=l
 clear l t
 rcases res with er|⟨x,r1⟩
 ·obtain⟨B,H⟩:=c
  obtain⟨A,h1,rfl,h2,h3⟩:=B.out
  go_wp2_with fail
  refine⟨rfl,?_⟩
  rw[vI N.out a6.out]
  exact zw (Ext.below s) B H
 ·obtain⟨v,rfl,U,a2,H⟩:=c
  obtain⟨bb,rfl⟩:=U.ptr
  have a5:Ext p.pb w w2:=(Ext.below s).trans H
  have a8:VX w.heap.size x (.pointer (some ⟨bb,0,none⟩)) w2:=U.base b5
  have b9:Hid (Tp.ex f (10+n) o (at' r) x r1=Tp.ex (f+1) n o 0 [] r):=(ex_lv_ok N.out a6.out).symm
  go_wp2_with fail
  clear a1 s H U
  go_loopg [6] f (fun k v wr=>∃(F:List X) (a:List Tok) (A:Nat),k<=f/\v=.pointer (some ⟨A,0,none⟩)/\VX w.heap.size F v wr/\St wr p d a o b/\Ext p.pb w wr/\Hid (Tp.ex k (10+n) o (at' r) F a=Tp.ex (f+1) n o 0 [] r))
  case atStart=>exact⟨x,r1,bb,Nat.le_refl _,rfl,a8,a2,a5,b9⟩
  case round =>
   obtain⟨F,a,A,hk,rfl,b2,R,a0,z⟩:=hrel
   clear a2 a5 a8
   obtain⟨g,rfl⟩:∃g,gk=g+1:=by
    cases gk with
    |zero=>exact absurd z.out.symm T.out
    |succ g=>exact⟨g,rfl⟩
   go_wp2_with fail
   refine(zK R).mono ?_
   rintro e w3⟨rfl,O⟩
   have M:=R.below O
   have V:=a0.trans (Ext.below O)
   have a9:=VX.ext (Ext.below (b:=p.pb) O) i b2
   clear R a0 b2
   go_wp2_with fail
   refine(ur w3 (hd a).text M.lv).mono ?_
   rintro e w4⟨rfl,P⟩
   have E:=M.below P
   have L:=V.trans (Ext.below P)
   have S:=VX.ext (Ext.below (b:=p.pb) P) i a9
   clear M V a9
   by_cases j:Tp.lvl (tx a)=n
   ·have c1:((Tp.lvl (hd a).text:Int)==(n:Int))=true:=by have:=(show Tp.lvl (hd a).text=n from j);simp;omega
    have m:Hid (Tp.lvl (tx a)=n):=j
    clear j
    go_wp2_with fail
    refine(zK E).mono ?_
    rintro e w5⟨rfl,Q⟩
    have a3:=E.below Q
    have Y:=L.trans (Ext.below Q)
    have b0:=VX.ext (Ext.below (b:=p.pb) Q) i S
    clear E L S
    go_wp2_with fail
    refine(yW a3).mono ?_
    rintro e J⟨rfl,a4,b3⟩
    have D:=Y.trans b3
    have b1:=VX.ext b3 i b0
    clear a3 Y b0
    have t:Tp.ex g (n+1) o 0 [] (stp a)≠.error (99,0):=by
     intro e;apply T.out;rw[<-z.out];exact vJ m.out e
    have K:=HL.out g (by omega) J (stp a) a4 t
    generalize l:Tp.ex g (n+1) o 0 [] (stp a)=res at K
    have HR:Hid (Tp.ex g (n+1) o 0 [] (stp a)=res):=l
    have b8:Hid (Calls Tryz.prog 203 #[.pointer (some ⟨p.pb,0,none⟩),.int .i64 ((n:Int)+1)] J fun e w'=>Post p d o b J (VX J.heap.size) res e w'):=K
    clear t l K
    go_wp2_with fail
    refine b8.out.mono ?_
    intro e C c
    rcases res with er|⟨y,r2⟩
    ·obtain⟨B,I⟩:=c
     obtain⟨A,h1,rfl,h2,h3⟩:=B.out
     go_wp2_with fail
     refine⟨rfl,?_⟩
     rw[<-z.out,vJ m.out HR.out]
     exact zw D B I
    ·obtain⟨u,rfl,hu,b4,I⟩:=c
     obtain⟨ub,rfl⟩:=hu.ptr
     have b6:=D.size
     have Z:=D.trans I
     have b7:=Z.size
     have c2:=VX.ext I i b1
     clear a4 D b1
     go_wp2_with fail
     go_roundg g
     case rel =>
      have G:Below C.heap.size C (C.alloc (.cells (xcells 5 (hd r).pos 0 ⟨#[]⟩ ⟨#[]⟩ (bs (hd a).text) (.pointer (some ⟨A,0,none⟩)) (.pointer (some ⟨ub,0,none⟩)) (.slice none 0 0)) 236)):=zb _ _
      refine⟨[⟨5,at' r,0,[],[],tx a,F,y,[]⟩],r2,C.heap.size,by omega,rfl,?_,b4.below G,Z.trans (Ext.below G),?_⟩
      ·exact VX.node b7 (zl C _) (Or.inr (VX.ext (b:=p.pb) (Ext.below G) i c2)) (Or.inr ((VX.ext (b:=p.pb) (Ext.below G) (by omega) hu).base b6)) (Or.inl ⟨rfl,rfl⟩)
      ·show _=_
       rw[<-z.out]
       exact(ex_lp_ok m.out HR.out).symm
     all_goals omega
   ·have c1:((Tp.lvl (hd a).text:Int)==(n:Int))=false:=by have:=(show ¬Tp.lvl (hd a).text=n from j);simp;omega
    have m:Hid (¬Tp.lvl (tx a)=n):=j
    clear j
    go_wp2_with fail
    go_ret
    rw[<-z.out,ex_lp_end m.out]
    exact⟨_,rfl,S,E,L⟩
theorem level_post (g:LevelC p a f)(i:OneC p a (f+1)):LevelC p a (f+1):=by
 intro w r o b n h c j d
 by_cases e:n=5
 ·subst e
  exact level_one i h c d
 ·exact level_some g h c (by omega) d
theorem zero_all (p:Ps)(a:List Tok):LevelC p a 0/\OneC p a 0/\NamedC p a 0 :=
 ⟨fun _ _ _ _ _ _ _ _ h=>absurd rfl h,fun _ _ _ _ _ _ h=>absurd rfl h,fun _ _ _ _ _ _ h=>absurd rfl h⟩
theorem expr_all (p:Ps)(c:List Tok):∀f,f<=100000->LevelC p c f/\OneC p c f/\NamedC p c f:=by
 intro f
 induction f with
 |zero=>intro _;exact zero_all p c
 |succ f ih =>
  intro l
  obtain⟨a,i,g⟩:=ih (by omega)
  have e:=args_post (by omega) a
  have d:=one_post a i g
  exact⟨level_post a d,d,fun w r o b h k j=>named_post a e h k j⟩
theorem stmt_all (p:Ps)(a:List Tok):∀f,f<=100000->StmtsC p a f/\StmtC p a f/\BranchC p a f:=by
 intro f
 induction f with
 |zero=>intro _;exact⟨fun _ _ _ _ _ h=>absurd rfl h,fun _ _ _ _ _ h=>absurd rfl h,fun _ _ _ _ _ h=>absurd rfl h⟩
 |succ f ih =>
  intro j
  obtain⟨d,g,b⟩:=ih (by omega)
  obtain⟨c,i,e⟩:=expr_all p a f (by omega)
  exact⟨stmts_post (by omega) g,stmt_post c e d b,uJ c d b⟩
end Go.Proofs.YtbkndnmglhghlaaGreatDoor

namespace Go.Proofs.YtbkndnmglhghlaaGreatDoor
open Go.RowKit
open Tp (Tok hd tx at' stp X S G Pr)
variable {is:List (List UInt8)}{ps:List Pr}{nm:List UInt8}{b c:List Value}{a e f n size:Nat}{D:Nat->Prop}{d iv j v:Value}{w w':World}
theorem zE {P:Program}{l:Array Oper}{o:Oper}{a:Act}{K:Act->World->Prop}{Q:Exit->Act->World->Prop}{E:Prop}
  (J:o.guard=none)(s x:Operand)(t:TypeId)(D:o.op=Op.call { callee:=Callee.builtin Builtin.append,args:=#[s,x],argTypes:=#[t,t] })
  (f:Nat)(e:TypeId)(i:TypeInfo)(z:Value)(size h:Nat)(O:P.underlying t=some (.slice e))(L:P.info? e=some i)(T:i.zero=some z)
  (y:i.size=size)(C:i.bytes=h)(G:z.cells.size=size)(F:0<size)
  (v:Value)(n:Nat)(xs:List Value)(N:a.eval s=v)(A:w.ownsRow f e size v n xs)
  (k:Addr)(m c:Nat)(b:List Value)(S:a.eval x=.slice (some k) m c)(M:b.length=m*size)(r:∀j u,b[j]?=some u->w.cell? (k.add j)=some u)(H:∀u∈b,u.oneCell'=true)
  (B:n+m<=maxLen)(p:(n+m)*h<=140737488355328)(q:f<=w.heap.size)
  (I:∀d w',w'.ownsRow f e size d (n+m) (xs++b)->w.grownBy w' v.ownBlock->(∀g,d.ownBlock=some g->v.ownBlock=some g\/w.heap.size<=g)->K (a.put o.dst d) w') :
  if Region.wanted o (yielded l a.tmps)=true then Oper.wp P o a w K Q else E:=by
 have R:Region.wanted o (yielded l a.tmps)=true:=by simp[Region.wanted,J]
 rw[if_pos R]
 obtain⟨d,w',U,V,W,X⟩:=yg (P:=P) w f t o.type e i z size h O L T y C G F v n xs A k m c b M r H B p q
 unfold Oper.wp
 simp[execOp,D,resolve,invoke,builtin,N,S,U,Result.andThen]
 exact I d w' V W X
def Row (w:World) (D:Nat->Prop) (e size:Nat) (v:Value) (n:Nat) (cs:List Value):Prop :=
 v=.slice none 0 0/\n=0/\cs=[]\/∃g cap cur,v=.slice (some ⟨g,0,none⟩) n cap/\D g/\w.heap[g]?=some (.cells cur e (0,0))/\n<=cap/\cap<=maxLen/\cur.size=cap*size/\cur.toList.take (n*size)=cs
theorem Row.mono {D':Nat->Prop}(m:∀b,D b->b<w.heap.size->w'.heap[b]?=w.heap[b]?/\D' b){e size:Nat}{v:Value}{n:Nat}{a:List Value}(h:Row w D e size v n a):Row w' D' e size v n a:=by
 rcases h with h|⟨g,cap,d,j,k,c,l⟩
 ·exact Or.inl h
 ·obtain⟨f,i⟩:=m g k (zc c)
  exact Or.inr ⟨g,cap,d,j,i,f.trans c,l⟩
theorem Row.of_owns (h:w.ownsRow a e size v n c):Row w (fun b=>a<=b/\v.ownBlock=some b) e size v n c:=by
 rcases h.2 with⟨rfl,rfl⟩|⟨g,cap,cur,rfl,q1,q2,q3,q4,q5,q6⟩
 ·exact Or.inl ⟨rfl,rfl,List.eq_nil_of_length_eq_zero (by simpa using h.1)⟩
 ·exact Or.inr ⟨g,cap,cur,rfl,⟨q1,rfl⟩,q2,q3,q4,q5,q6⟩
def RepP (w:World) (D:Nat->Prop):List Pr->List Value->Prop
 |[],cs=>cs=[]
 |c :: l,cs=>∃(pv vv bv:Value) (bcs cs':List Value),
   cs=(pcells (bs c.name) (c.pos:Int) c.seen pv vv bv).toList++cs'/\Row w D 9 1 pv c.params.length (strs c.params)/\Row w D 9 1 vv c.vars.length (strs c.vars) /\
   RepS w D c.body bcs/\OwnS w D bv c.body.length bcs/\RepP w D l cs'
theorem RepP.mono {w w':World}{D D':Nat->Prop}(d:∀b,D b->b<w.heap.size->w'.heap[b]?=w.heap[b]?/\D' b):∀(l:List Pr) (a:List Value),RepP w D l a->RepP w' D' l a:=by
 intro l
 induction l with
 |nil=>intro a h;exact h
 |cons c l ih =>
  intro a h
  obtain⟨o,vv,f,e,cs',g,i,j,k,m,n⟩:=h
  exact⟨o,vv,f,e,cs',g,i.mono d,j.mono d,k.mono' d,m.mono d,ih cs' n⟩
theorem RepP.app:∀(l m:List Pr) (b a:List Value),RepP w D l b->RepP w D m a->RepP w D (l++m) (b++a):=by
 intro l
 induction l with
 |nil=>intro m b a h k;rw[show b=[] from h];exact k
 |cons c l ih =>
  intro m b a h k
  obtain⟨p,vv,e,d,cs',f,g,i,j,n,o⟩:=h
  exact⟨p,vv,e,d,cs'++a,by rw[f,List.append_assoc],g,i,j,n,ih m cs' a o k⟩
def gcs (l:List G):List Value:=(l.map fun g=>(gcells (bs g.name) (g.pos:Int) (g.len:Int) g.seen).toList).flatten
theorem gcs_app (l m:List G):gcs (l++m)=gcs l++gcs m:=by simp[gcs]
def mcells (name:ByteArray) (iv gv pv bv:Value):Array Value:=#[.string name,iv,gv,pv,bv]
structure MS (w:World) (rb:Nat) (nm:List UInt8) (is:List (List UInt8)) (gs:List G) (ps:List Pr) (iv gv pv:Value) (pcs:List Value):Prop where
 blk:w.heap[rb]?=some (.cells (mcells (bs nm) iv gv pv (.slice none 0 0)) 66 (0,0))
 im:Row w (fun b=>rb<b/\gv.ownBlock≠some b/\pv.ownBlock≠some b) 9 1 iv is.length (strs is)
 gl:w.ownsRow (rb+1) 57 4 gv gs.length (gcs gs)
 pl:w.ownsRow (rb+1) 157 6 pv ps.length pcs
 ne:∀g,gv.ownBlock=some g->pv.ownBlock≠some g
 rp:RepP w (fun b=>rb<b/\gv.ownBlock≠some b/\pv.ownBlock≠some b) ps pcs
theorem zB {xs:List Value}(h:w.ownsRow a e size v n xs)(i:∀b,a<=b->b<w.heap.size->v.ownBlock=some b->w'.heap[b]?=w.heap[b]?):w'.ownsRow a e size v n xs:=by
 refine⟨h.1,?_⟩
 rcases h.2 with q|⟨g,cap,f,rfl,c,d,j⟩
 ·exact Or.inl q
 ·exact Or.inr ⟨g,cap,f,rfl,c,(i g c (zc d) rfl).trans d,j⟩
theorem MS.mono {w w':World}{c:Nat}{nm:List UInt8}{is:List (List UInt8)}{i:List G}{ps:List Pr}{iv j k:Value}{g:List Value}(h:MS w c nm is i ps iv j k g)(a:∀b,c<=b->b<w.heap.size->w'.heap[b]?=w.heap[b]?):MS w' c nm is i ps iv j k g :=
 ⟨(a c zn (zc h.blk)).trans h.blk,h.im.mono (fun b e f=>⟨a b (by omega) f,e⟩),zB h.gl (fun b l d _=>a b (by omega) d),zB h.pl (fun b l d _=>a b (by omega) d),h.ne,RepP.mono (fun b e f=>⟨a b (by omega) f,e⟩) _ _ h.rp⟩
theorem MS.ext {d:List G}{e g:Value}(h:MS w a nm is d ps iv e g c)(k:Ext f w w')(l:f<a):MS w' a nm is d ps iv e g c :=
 h.mono (fun b j i=>k.block b i (by omega))
theorem MS.below {c:List G}{e:Value}{a:List Value}(h:MS w f nm is c ps iv d e a)(k:Below w.heap.size w w'):MS w' f nm is c ps iv d e a :=
 h.mono (fun b _ g=>k.block b g)
theorem MS.addG {f:World}{i:List G}{g:G}(h:MS w a nm is i [] iv j (.slice none 0 0) [])
  (m:f.ownsRow (a+1) 57 4 d (i.length+1) (gcs i++(gcells (bs g.name) (g.pos:Int) (g.len:Int) g.seen).toList))(k:w.grownBy f j.ownBlock)(t:∀b,d.ownBlock=some b->j.ownBlock=some b\/w.heap.size<=b) :
  MS (f.setCell ⟨a,2,none⟩ d) a nm is (i++[g]) [] iv d (.slice none 0 0) []:=by
 have p:=zc h.blk
 have s:j.ownBlock≠some a:=fun e=>by have:=zL h.gl a e;omega
 have o:f.heap[a]?=w.heap[a]?:=k.block a p (fun e=>s e.symm)
 have n:=zy 2 d (o.trans h.blk)
 have l:∀b,b≠a->(f.setCell ⟨a,2,none⟩ d).heap[b]?=f.heap[b]?:=fun b c=>Below.heap_setCell _ _ _ _ (by simpa using c)
 refine⟨n,?_,?_,World.ownsRow_nil _ _ _ _,fun b c e=>(by cases e),rfl⟩
 ·refine h.im.mono (fun b c r=>⟨(l b (by omega)).trans (k.block b r (fun e=>c.2.1 e.symm)),c.1,fun e=>?_,c.2.2⟩)
  rcases t b e with q|q
  ·exact c.2.1 q
  ·omega
 ·rw[gcs_app,List.length_append]
  have:gcs [g]=(gcells (bs g.name) (g.pos:Int) (g.len:Int) g.seen).toList:=by simp[gcs]
  rw[this]
  exact zB m (fun b u _ _=>l b (by omega))
theorem MS.addP {g:World}{p:List G}{i f:Value}{l:List Value}{c:Pr}{o:List Value}(h:MS w a nm is p ps iv j i l)
  (A:RepP w (fun b=>a<b/\j.ownBlock≠some b/\i.ownBlock≠some b) [c] o)
  (s:g.ownsRow (a+1) 157 6 f (ps.length+1) (l++o))(k:w.grownBy g i.ownBlock)(r:∀b,f.ownBlock=some b->i.ownBlock=some b\/w.heap.size<=b) :
  MS (g.setCell ⟨a,3,none⟩ f) a nm is p (ps++[c]) iv j f (l++o):=by
 have v:=zc h.blk
 have C:i.ownBlock≠some a:=fun e=>by have:=zL h.pl a e;omega
 have u:g.heap[a]?=w.heap[a]?:=k.block a v (fun e=>C e.symm)
 have t:=zy 3 f (u.trans h.blk)
 have n:∀b,b≠a->(g.setCell ⟨a,3,none⟩ f).heap[b]?=g.heap[b]?:=fun b d=>Below.heap_setCell _ _ _ _ (by simpa using d)
 have m:∀b,(a<b/\j.ownBlock≠some b/\i.ownBlock≠some b)->b<w.heap.size->(g.setCell ⟨a,3,none⟩ f).heap[b]?=w.heap[b]?/\(a<b/\j.ownBlock≠some b/\f.ownBlock≠some b):=fun b d B =>
  ⟨(n b (by omega)).trans (k.block b B (fun e=>d.2.2 e.symm)),d.1,d.2.1,fun e=>by
   rcases r b e with q|q
   ·exact d.2.2 q
   ·omega⟩
 refine⟨t,h.im.mono m,?_,?_,fun b d e=>?_,RepP.app _ _ _ _ (RepP.mono m _ _ h.rp) (RepP.mono m _ _ A)⟩
 ·exact zB h.gl (fun b x y z=>(n b (by omega)).trans (k.block b y (fun e=>h.ne b z e.symm)))
 ·rw[List.length_append]
  exact zB s (fun b x _ _=>n b (by omega))
 ·rcases r b e with q|q
  ·exact h.ne b d q
  ·have:=(h.gl.lt b d).2;omega
def VM (B:Nat) (m:Tp.M) (v:Value) (w:World):Prop:=∃(ia ga pa ba:Option Addr) (ic gc pc bc:Nat) (pcs bcs:List Value),
 v=.agg (mcells (bs m.name) (.slice ia m.imports.length ic) (.slice ga m.vars.length gc) (.slice pa m.procs.length pc) (.slice ba m.body.length bc)) /\
 Row w (fun b=>B<=b) 9 1 (.slice ia m.imports.length ic) m.imports.length (strs m.imports)/\Row w (fun b=>B<=b) 57 4 (.slice ga m.vars.length gc) m.vars.length (gcs m.vars) /\
 RepP w (fun b=>B<=b) m.procs pcs/\Row w (fun b=>B<=b) 157 6 (.slice pa m.procs.length pc) m.procs.length pcs/\RepS w (fun b=>B<=b) m.body bcs/\OwnS w (fun b=>B<=b) (.slice ba m.body.length bc) m.body.length bcs
theorem Row.shape (h:Row w D e size v n b):∃a c,v=.slice a n c:=by
 rcases h with⟨rfl,rfl,_⟩|⟨g,cap,cur,rfl,_⟩
 ·exact⟨none,0,rfl⟩
 ·exact⟨_,_,rfl⟩
theorem OwnS.shape (h:OwnS w D v n b):∃a c,v=.slice a n c:=by
 rcases h with⟨rfl,rfl⟩|⟨g,cap,cur,rfl,_⟩
 ·exact⟨none,0,rfl⟩
 ·exact⟨_,_,rfl⟩
end Go.Proofs.YtbkndnmglhghlaaGreatDoor
