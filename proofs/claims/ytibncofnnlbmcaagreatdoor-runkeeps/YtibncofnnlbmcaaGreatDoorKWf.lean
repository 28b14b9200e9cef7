import Derived.Test.YtibncofnnlbmcaaGreatDoorKWe
set_option maxRecDepth 100000
set_option maxHeartbeats 4000000
namespace Go.Proofs.YtibncofnnlbmcaaGreatDoor
open Go.RowKit
open Tp (Tok hd tx at' stp X S)
def closedS (r:List Tok):Except Tp.Er (Unit×List Tok):=do let r2 <- Tp.want Tp.wEnd r;let r3 <- Tp.want Tp.mSemi r2;.ok ((),r3)
theorem xg {f b:Nat}{r:List Tok}(h:tx r=Tp.wReturn):Tp.sx (f+1) 2 b r=(do let (x,r1) <- Tp.ex f 0 0 0 [] (stp r);let r2 <- Tp.want Tp.mSemi r1;.ok ([⟨4,at' r,[],[],x,[],[]⟩],r2)):=by
 rw[Tp.sx];simp only[show ¬(2=0) by omega,show ¬(2=1) by omega,if_false,if_true,h,true_or]
theorem vw {f b:Nat}{r:List Tok}(h:tx r=Tp.wWrite):Tp.sx (f+1) 2 b r=(do let (x,r1) <- Tp.ex f 0 0 0 [] (stp r);let r2 <- Tp.want Tp.mSemi r1;.ok ([⟨5,at' r,[],[],x,[],[]⟩],r2)):=by
 rw[Tp.sx];simp only[show ¬(2=0) by omega,show ¬(2=1) by omega,if_false,if_true,h,or_true,show ¬(Tp.wWrite=Tp.wReturn) by decide]
theorem vy {f b:Nat}{r:List Tok}(h:tx r=Tp.wWhile):Tp.sx (f+1) 2 b r=(do let (s,r3) <- blockS f 3 b Tp.wDo r;let (_,r5) <- closedS r3;.ok (s,r5)):=by
 rw[Tp.sx];simp only[show ¬(2=0) by omega,show ¬(2=1) by omega,if_false,if_true,h,show ¬(Tp.wWhile=Tp.wReturn\/Tp.wWhile=Tp.wWrite) by decide]
 unfold blockS closedS
 simp only[bind,Except.bind]
 cases Tp.ex f 0 0 0 [] (stp r) with
 |error e=>rfl
 |ok v =>
  simp only
  cases Tp.want Tp.wDo v.2 with
  |error e=>rfl
  |ok r2 =>
   simp only
   cases Tp.sx f 0 (b+1) r2 with
   |error e=>rfl
   |ok u =>
    simp only
    cases Tp.want Tp.wEnd u.2 with
    |error e=>rfl
    |ok r4 =>
     simp only
     cases Tp.want Tp.mSemi r4<;>rfl
theorem sx2_if {f b:Nat}{r:List Tok}(h:tx r=Tp.wIf):Tp.sx (f+1) 2 b r=(do let (s,r3) <- Tp.sx f 3 b r;let (_,r5) <- closedS r3;.ok (s,r5)):=by
 rw[Tp.sx];simp only[show ¬(2=0) by omega,show ¬(2=1) by omega,if_false,if_true,h,show ¬(Tp.wIf=Tp.wReturn\/Tp.wIf=Tp.wWrite) by decide,show ¬(Tp.wIf=Tp.wWhile) by decide]
 unfold closedS
 simp only[bind,Except.bind]
 cases Tp.sx f 3 b r with
 |error e=>rfl
 |ok v =>
  simp only
  cases Tp.want Tp.wEnd v.2 with
  |error e=>rfl
  |ok r4 =>
   simp only
   cases Tp.want Tp.mSemi r4<;>rfl
theorem uF {p:Ps}{c:List Tok}{f:Nat}(F:LevelC p c f){w:World}{r:List Tok}{b:Nat}(h:St w p c r 0 b)(u:tx r=Tp.wReturn)(G:Tp.sx (f+1) 2 b r≠.error (99,0)) :
  Calls Tryz.prog 104 #[.pointer (some ⟨p.pb,0,none⟩)] w fun e w'=>Post p c 0 b w (VS w.heap.size) (Tp.sx (f+1) 2 b r) e w':=by
 have C:Tp.ex f 0 0 0 [] (stp r)≠.error (99,0):=by intro e;apply G;rw[xg u,e];rfl
 have d:=fun W (T:St W p c r 0 b)=>jk F T 4 C
 rw[<-xg (b:=b) u]at d
 generalize z:Tp.sx (f+1) 2 b r=res at d
 have Z:Hid (Tp.sx (f+1) 2 b r=res):=z
 have S:Hid (∀W,St W p c r 0 b->Calls Tryz.prog 133 #[.pointer (some ⟨p.pb,0,none⟩),.int .i64 4] W fun e w'=>Post p c 0 b W (VS W.heap.size) res e w'):=d
 clear d G C F z
 have V:=zg h.c0
 have O:=zj (hd r).text
 have K:((hd r).text==[114,101,116,117,114,110])=true:=by rw[beq_iff_eq];exact u
 go_enter Tryz.func104,Tryz.ntmps104
 go_wp2_with fail
 have j:∀ob,Below w.heap.size w (w.alloc ob):=fun ob=>zb _ _
 refine(zK (h.below (j _))).mono ?_
 rintro e J⟨rfl,g⟩
 have M:=(h.below (j _)).below g
 have t:J.heap[w.heap.size]?=some (.cells (scells 0 0 ⟨#[]⟩ (.pointer none) (.pointer none) (.slice none 0 0) (.slice none 0 0)) 181 (0,0)):=(g.block _ (by simp)).trans (zo _ _)
 have x:Ext p.pb w J:=(Ext.below (j _)).trans (Ext.below g)
 have A:=zf t
 clear j g
 go_wp2_with fail
 clear O K
 refine(S.out _ M).mono ?_
 intro e w2 H
 rcases res with er|⟨s,r3⟩
 ·obtain⟨E,k⟩:=H
  obtain⟨ab,h1,rfl,h2,h3⟩:=E.out
  go_wp2_with fail
  exact⟨rfl,zt x E k⟩
 ·obtain⟨v,rfl,U,N,k⟩:=H
  obtain⟨a,D⟩:∃a,a=w.heap.size:=⟨_,rfl⟩
  rw[<-D]at t A ⊢
  have Y:w.heap.size<=a:=by omega
  have X:p.pb<a:=by omega
  clear D
  have y:=(k.block a A (by omega)).trans t
  have L:=x.trans k
  obtain⟨n,q,o,l,m,ta,ea,tn,tc,en,ec,Q,P⟩:=U
  subst Q
  have I:∀i,w2.cell? ⟨a,i,none⟩=(scells 0 0 ⟨#[]⟩ (.pointer none) (.pointer none) (.slice none 0 0) (.slice none 0 0))[i]?:=fun i=>za y
  have zr:∀i,w2.frozen? ⟨a,i,none⟩=false:=fun i=>zi y
  simp only[scells]at I
  simp only[scells]
  go_wp2_with fail
  refine bodyPost_ret (v:=.agg (scells n q (bs o) (.pointer l) (.pointer m) (.slice ta tn tc) (.slice ea en ec))) (by simp[results,Tryz.results104,go_sem,I,scells]) rfl ?_
  have R:=yn w2 a (.int .i64 (n:Int)) (.int .i64 (q:Int)) (.string (bs o)) (.pointer l) (.pointer m) (.slice ta tn tc) (.slice ea en ec)
  have B:=zL w2 a (.int .i64 (n:Int)) (.int .i64 (q:Int)) (.string (bs o)) (.pointer l) (.pointer m) (.slice ta tn tc) (.slice ea en ec)
  exact⟨_,rfl,VS.base (VS.ext R (by omega) ⟨n,q,o,l,m,ta,ea,tn,tc,en,ec,rfl,P⟩) (by omega),N.belowB B (by omega),L.trans' (B.mono (by omega))⟩
theorem stmt_write {p:Ps}{c:List Tok}{f:Nat}(F:LevelC p c f){w:World}{r:List Tok}{b:Nat}(h:St w p c r 0 b)(l:tx r=Tp.wWrite)(G:Tp.sx (f+1) 2 b r≠.error (99,0)) :
  Calls Tryz.prog 104 #[.pointer (some ⟨p.pb,0,none⟩)] w fun e w'=>Post p c 0 b w (VS w.heap.size) (Tp.sx (f+1) 2 b r) e w':=by
 have C:Tp.ex f 0 0 0 [] (stp r)≠.error (99,0):=by intro e;apply G;rw[vw l,e];rfl
 have d:=fun W (U:St W p c r 0 b)=>jk F U 5 C
 rw[<-vw (b:=b) l]at d
 generalize z:Tp.sx (f+1) 2 b r=res at d
 have HR:Hid (Tp.sx (f+1) 2 b r=res):=z
 have T:Hid (∀W,St W p c r 0 b->Calls Tryz.prog 133 #[.pointer (some ⟨p.pb,0,none⟩),.int .i64 5] W fun e w'=>Post p c 0 b W (VS W.heap.size) res e w'):=d
 clear d G C F z
 have X:=zg h.c0
 have P:=zj (hd r).text
 have K:((hd r).text==[114,101,116,117,114,110])=false:=by rw[beq_eq_false_iff_ne];have:=l;unfold tx at this;rw[this];decide
 have L:((hd r).text==[119,114,105,116,101])=true:=by rw[beq_iff_eq];exact l
 go_enter Tryz.func104,Tryz.ntmps104
 go_wp2_with fail
 have j:∀ob,Below w.heap.size w (w.alloc ob):=fun ob=>zb _ _
 refine(zK (h.below (j _))).mono ?_
 rintro e J⟨rfl,g⟩
 have N:=(h.below (j _)).below g
 have u:J.heap[w.heap.size]?=some (.cells (scells 0 0 ⟨#[]⟩ (.pointer none) (.pointer none) (.slice none 0 0) (.slice none 0 0)) 181 (0,0)):=(g.block _ (by simp)).trans (zo _ _)
 have x:Ext p.pb w J:=(Ext.below (j _)).trans (Ext.below g)
 have A:=zf u
 clear j g
 go_wp2_with fail
 clear P K L
 refine(T.out _ N).mono ?_
 intro e w2 H
 rcases res with er|⟨s,r3⟩
 ·obtain⟨E,k⟩:=H
  obtain⟨ab,h1,rfl,h2,h3⟩:=E.out
  go_wp2_with fail
  exact⟨rfl,zt x E k⟩
 ·obtain⟨v,rfl,V,O,k⟩:=H
  obtain⟨a,D⟩:∃a,a=w.heap.size:=⟨_,rfl⟩
  rw[<-D]at u A ⊢
  have Z:w.heap.size<=a:=by omega
  have Y:p.pb<a:=by omega
  clear D
  have y:=(k.block a A (by omega)).trans u
  have M:=x.trans k
  obtain⟨o,t,q,m,n,ta,ea,tn,tc,en,ec,R,Q⟩:=V
  subst R
  have I:∀i,w2.cell? ⟨a,i,none⟩=(scells 0 0 ⟨#[]⟩ (.pointer none) (.pointer none) (.slice none 0 0) (.slice none 0 0))[i]?:=fun i=>za y
  have zr:∀i,w2.frozen? ⟨a,i,none⟩=false:=fun i=>zi y
  simp only[scells]at I
  simp only[scells]
  go_wp2_with fail
  refine bodyPost_ret (v:=.agg (scells o t (bs q) (.pointer m) (.pointer n) (.slice ta tn tc) (.slice ea en ec))) (by simp[results,Tryz.results104,go_sem,I,scells]) rfl ?_
  have S:=yn w2 a (.int .i64 (o:Int)) (.int .i64 (t:Int)) (.string (bs q)) (.pointer m) (.pointer n) (.slice ta tn tc) (.slice ea en ec)
  have B:=zL w2 a (.int .i64 (o:Int)) (.int .i64 (t:Int)) (.string (bs q)) (.pointer m) (.pointer n) (.slice ta tn tc) (.slice ea en ec)
  exact⟨_,rfl,VS.base (VS.ext S (by omega) ⟨o,t,q,m,n,ta,ea,tn,tc,en,ec,rfl,Q⟩) (by omega),O.belowB B (by omega),M.trans' (B.mono (by omega))⟩
theorem stmt_plain {p:Ps}{j:List Tok}{f:Nat}(H:LevelC p j f)(I:NamedC p j f){w:World}{r:List Tok}{b:Nat}(h:St w p j r 0 b)(k:Plainly r)(J:Tp.sx (f+1) 2 b r≠.error (99,0)) :
  Calls Tryz.prog 104 #[.pointer (some ⟨p.pb,0,none⟩)] w fun e w'=>Post p j 0 b w (VS w.heap.size) (Tp.sx (f+1) 2 b r) e w':=by
 have y:=fun W (hW:St W p j r 0 b)=>jX H I hW k J
 generalize C:Tp.sx (f+1) 2 b r=res at y
 have HR:Hid (Tp.sx (f+1) 2 b r=res):=C
 have Z:Hid (∀W,St W p j r 0 b->Calls Tryz.prog 137 #[.pointer (some ⟨p.pb,0,none⟩)] W fun e w'=>Post p j 0 b W (VS W.heap.size) res e w'):=y
 clear y J H I C
 have a0:=zg h.c0
 have U:=zj (hd r).text
 have N:((hd r).text==[114,101,116,117,114,110])=false:=by rw[beq_eq_false_iff_ne];exact k.a
 have P:((hd r).text==[119,114,105,116,101])=false:=by rw[beq_eq_false_iff_ne];exact k.b
 have O:((hd r).text==[119,104,105,108,101])=false:=by rw[beq_eq_false_iff_ne];exact k.c
 have T:((hd r).text==[105,102])=false:=by rw[beq_eq_false_iff_ne];exact k.d
 go_enter Tryz.func104,Tryz.ntmps104
 go_wp2_with fail
 have m:∀ob,Below w.heap.size w (w.alloc ob):=fun ob=>zb _ _
 refine(zK (h.below (m _))).mono ?_
 rintro e M⟨rfl,l⟩
 have R:=(h.below (m _)).below l
 have z:M.heap[w.heap.size]?=some (.cells (scells 0 0 ⟨#[]⟩ (.pointer none) (.pointer none) (.slice none 0 0) (.slice none 0 0)) 181 (0,0)):=(l.block _ (by simp)).trans (zo _ _)
 have A:Ext p.pb w M:=(Ext.below (m _)).trans (Ext.below l)
 have D:=zf z
 clear m l
 go_wp2_with fail
 clear U N P O T
 refine(Z.out _ R).mono ?_
 intro e w2 K
 rcases res with er|⟨s,r3⟩
 ·obtain⟨G,n⟩:=K
  obtain⟨ab,h1,rfl,h2,h3⟩:=G.out
  go_wp2_with fail
  exact⟨rfl,zt A G n⟩
 ·obtain⟨v,rfl,hv,S,n⟩:=K
  obtain⟨g,F⟩:∃g,g=w.heap.size:=⟨_,rfl⟩
  rw[<-F]at z D ⊢
  have a2:w.heap.size<=g:=by omega
  have a1:p.pb<g:=by omega
  clear F
  have B:=(n.block g D (by omega)).trans z
  have Q:=A.trans n
  obtain⟨t,x,u,o,q,ta,ea,tn,tc,en,ec,X,V⟩:=hv
  subst X
  have L:∀i,w2.cell? ⟨g,i,none⟩=(scells 0 0 ⟨#[]⟩ (.pointer none) (.pointer none) (.slice none 0 0) (.slice none 0 0))[i]?:=fun i=>za B
  have zr:∀i,w2.frozen? ⟨g,i,none⟩=false:=fun i=>zi B
  simp only[scells]at L
  simp only[scells]
  go_wp2_with fail
  refine bodyPost_ret (v:=.agg (scells t x (bs u) (.pointer o) (.pointer q) (.slice ta tn tc) (.slice ea en ec))) (by simp[results,Tryz.results104,go_sem,L,scells]) rfl ?_
  have Y:=yn w2 g (.int .i64 (t:Int)) (.int .i64 (x:Int)) (.string (bs u)) (.pointer o) (.pointer q) (.slice ta tn tc) (.slice ea en ec)
  have E:=zL w2 g (.int .i64 (t:Int)) (.int .i64 (x:Int)) (.string (bs u)) (.pointer o) (.pointer q) (.slice ta tn tc) (.slice ea en ec)
  exact⟨_,rfl,VS.base (VS.ext Y (by omega) ⟨t,x,u,o,q,ta,ea,tn,tc,en,ec,rfl,V⟩) (by omega),S.belowB E (by omega),Q.trans' (E.mono (by omega))⟩
theorem stmt_while {p:Ps}{d:List Tok}{f:Nat}(hL:LevelC p d f)(hS:StmtsC p d f){w:World}{r:List Tok}{b:Nat}(h:St w p d r 0 b)(hb:b<=10)(B:tx r=Tp.wWhile)(hn:Tp.sx (f+1) 2 b r≠.error (99,0)) :
  Calls Tryz.prog 104 #[.pointer (some ⟨p.pb,0,none⟩)] w fun e w'=>Post p d 0 b w (VS w.heap.size) (Tp.sx (f+1) 2 b r) e w':=by
 have a2:blockS f 3 b Tp.wDo r≠.error (99,0):=by intro e;apply hn;rw[vy B,e];rfl
 have M:=fun W (hW:St W p d r 0 b)=>xE hL hS hW hb 3 Tp.wDo (bs Tp.wDo) rfl a2
 generalize X:blockS f 3 b Tp.wDo r=res at M
 have P:Hid (blockS f 3 b Tp.wDo r=res):=X
 have O:Hid (Tp.sx (f+1) 2 b r=(do let (s,c) <- blockS f 3 b Tp.wDo r;let (_,r5) <- closedS c;.ok (s,r5))):=vy B
 have HC:Hid (∀W,St W p d r 0 b->Calls Tryz.prog 135 #[.pointer (some ⟨p.pb,0,none⟩),.int .i64 3,.string ⟨#[100,111]⟩] W fun e w'=>Post p d 0 b W (VS W.heap.size) res e w'):=M
 clear M hn a2 hL hS X
 have b8:=zg h.c0
 have b2:=zj (hd r).text
 have a5:((hd r).text==[114,101,116,117,114,110])=false:=by rw[beq_eq_false_iff_ne];have:=B;unfold tx at this;rw[this];decide
 have a7:((hd r).text==[119,114,105,116,101])=false:=by rw[beq_eq_false_iff_ne];have:=B;unfold tx at this;rw[this];decide
 have a6:((hd r).text==[119,104,105,108,101])=true:=by rw[beq_iff_eq];exact B
 go_enter Tryz.func104,Tryz.ntmps104
 go_wp2_with fail
 have E:∀ob,Below w.heap.size w (w.alloc ob):=fun ob=>zb _ _
 refine(zK (h.below (E _))).mono ?_
 rintro e Q⟨rfl,D⟩
 have a9:=(h.below (E _)).below D
 have N:Q.heap[w.heap.size]?=some (.cells (scells 0 0 ⟨#[]⟩ (.pointer none) (.pointer none) (.slice none 0 0) (.slice none 0 0)) 181 (0,0)):=(D.block _ (by simp)).trans (zo _ _)
 have R:Ext p.pb w Q:=(Ext.below (E _)).trans (Ext.below D)
 have Z:=zf N
 clear E D
 go_wp2_with fail
 clear b2 a5 a7 a6
 refine(HC.out _ a9).mono ?_
 intro e w2 A
 rcases res with er|⟨s,c⟩
 ·obtain⟨y,G⟩:=A
  obtain⟨ab,h1,rfl,h2,h3⟩:=y.out
  go_wp2_with fail
  refine⟨rfl,?_⟩
  rw[O.out,P.out]
  exact zt R y G
 ·obtain⟨v,rfl,b4,Y,G⟩:=A
  obtain⟨a,a3⟩:∃a,a=w.heap.size:=⟨_,rfl⟩
  rw[<-a3]at N Z ⊢
  have c1:w.heap.size<=a:=by omega
  have b9:p.pb<a:=by omega
  clear a3
  have U:=(G.block a Z (by omega)).trans N
  have S:=R.trans G
  obtain⟨t,up,x,l,q,m,g,o,n,k,j,b3,a4⟩:=b4
  subst b3
  have F:=jP Y t up (bs x) l q m g o n k j
  rw[show (do let r2 <- Tp.want Tp.wEnd c;let c <- Tp.want Tp.mSemi r2;.ok ((),c):Except Tp.Er (Unit×List Tok))=closedS c from rfl]at F
  generalize T:closedS c=res2 at F
  have a0:Hid (closedS c=res2):=T
  have b1:Hid (Calls Tryz.prog 134 #[.pointer (some ⟨p.pb,0,none⟩),.agg (scells t up (bs x) (.pointer l) (.pointer q) (.slice m o n) (.slice g k j))] w2 fun e w'=>Post p d 0 b w2 (fun (_:Unit) v _=>v=.agg (scells t up (bs x) (.pointer l) (.pointer q) (.slice m o n) (.slice g k j))) res2 e w'):=F
  clear F T Y
  go_wp2_with fail
  refine b1.out.mono ?_
  intro e C A
  rcases res2 with er|⟨u,r5⟩
  ·obtain⟨y,z⟩:=A
   obtain⟨ab,h1,rfl,h2,h3⟩:=y.out
   go_wp2_with fail
   refine⟨rfl,?_⟩
   rw[O.out,P.out]
   simp only[bind,Except.bind,a0.out]
   exact zt S y z
  ·obtain⟨v,rfl,rfl,b0,z⟩:=A
   have V:=(z.block a (zf U) (by omega)).trans U
   have a8:=S.trans z
   have hv:VS Q.heap.size s (.agg (scells t up (bs x) (.pointer l) (.pointer q) (.slice m o n) (.slice g k j))) C:=VS.ext z (by omega) ⟨t,up,x,l,q,m,g,o,n,k,j,rfl,a4⟩
   clear a4
   generalize Value.agg (scells (t:Int) (up:Int) (bs x) (.pointer l) (.pointer q) (.slice m o n) (.slice g k j))=vv at hv ⊢
   obtain⟨J,L,K,H,I,ta,ea,tn,tc,en,ec,b6,b5⟩:=hv
   subst b6
   have kr:∀i,C.cell? ⟨a,i,none⟩=(scells 0 0 ⟨#[]⟩ (.pointer none) (.pointer none) (.slice none 0 0) (.slice none 0 0))[i]?:=fun i=>za V
   have zr:∀i,C.frozen? ⟨a,i,none⟩=false:=fun i=>zi V
   simp only[scells]at kr
   simp only[scells]
   go_wp2_with fail
   refine bodyPost_ret (v:=.agg (scells J L (bs K) (.pointer H) (.pointer I) (.slice ta tn tc) (.slice ea en ec))) (by simp[results,Tryz.results104,go_sem,kr,scells]) rfl ?_
   rw[O.out,P.out]
   simp only[bind,Except.bind,a0.out]
   have b7:=yn C a (.int .i64 (J:Int)) (.int .i64 (L:Int)) (.string (bs K)) (.pointer H) (.pointer I) (.slice ta tn tc) (.slice ea en ec)
   have a1:=zL C a (.int .i64 (J:Int)) (.int .i64 (L:Int)) (.string (bs K)) (.pointer H) (.pointer I) (.slice ta tn tc) (.slice ea en ec)
   exact⟨_,rfl,VS.base (VS.ext b7 (by omega) ⟨J,L,K,H,I,ta,ea,tn,tc,en,ec,rfl,b5⟩) (by omega),b0.belowB a1 (by omega),a8.trans' (a1.mono (by omega))⟩
theorem stmt_if {p:Ps}{d:List Tok}{f:Nat}(hB:BranchC p d f){w:World}{r:List Tok}{b:Nat}(h:St w p d r 0 b)(hb:b<=10)(t:tx r=Tp.wIf)(hn:Tp.sx (f+1) 2 b r≠.error (99,0)) :
  Calls Tryz.prog 104 #[.pointer (some ⟨p.pb,0,none⟩)] w fun e w'=>Post p d 0 b w (VS w.heap.size) (Tp.sx (f+1) 2 b r) e w':=by
 have a2:Tp.sx f 3 b r≠.error (99,0):=by intro e;apply hn;rw[sx2_if t,e];rfl
 have M:=fun W (hW:St W p d r 0 b)=>hB W r b hW hb a2
 generalize X:Tp.sx f 3 b r=res at M
 have P:Hid (Tp.sx f 3 b r=res):=X
 have O:Hid (Tp.sx (f+1) 2 b r=(do let (s,c) <- Tp.sx f 3 b r;let (_,r5) <- closedS c;.ok (s,r5))):=sx2_if t
 have HC:Hid (∀W,St W p d r 0 b->Calls Tryz.prog 136 #[.pointer (some ⟨p.pb,0,none⟩)] W fun e w'=>Post p d 0 b W (VS W.heap.size) res e w'):=M
 clear M hn a2 hB X
 have b9:=zg h.c0
 have b3:=zj (hd r).text
 have a5:((hd r).text==[114,101,116,117,114,110])=false:=by rw[beq_eq_false_iff_ne];have:=t;unfold tx at this;rw[this];decide
 have a7:((hd r).text==[119,114,105,116,101])=false:=by rw[beq_eq_false_iff_ne];have:=t;unfold tx at this;rw[this];decide
 have a6:((hd r).text==[119,104,105,108,101])=false:=by rw[beq_eq_false_iff_ne];have:=t;unfold tx at this;rw[this];decide
 have b1:((hd r).text==[105,102])=true:=by rw[beq_iff_eq];exact t
 go_enter Tryz.func104,Tryz.ntmps104
 go_wp2_with fail
 have E:∀ob,Below w.heap.size w (w.alloc ob):=fun ob=>zb _ _
 refine(zK (h.below (E _))).mono ?_
 rintro e Q⟨rfl,D⟩
 have a9:=(h.below (E _)).below D
 have N:Q.heap[w.heap.size]?=some (.cells (scells 0 0 ⟨#[]⟩ (.pointer none) (.pointer none) (.slice none 0 0) (.slice none 0 0)) 181 (0,0)):=(D.block _ (by simp)).trans (zo _ _)
 have R:Ext p.pb w Q:=(Ext.below (E _)).trans (Ext.below D)
 have Z:=zf N
 clear E D
 go_wp2_with fail
 clear b3 a5 a7 a6 b1
 refine(HC.out _ a9).mono ?_
 intro e w2 B
 rcases res with er|⟨s,c⟩
 ·obtain⟨z,G⟩:=B
  obtain⟨ab,h1,rfl,h2,h3⟩:=z.out
  go_wp2_with fail
  refine⟨rfl,?_⟩
  rw[O.out,P.out]
  exact zt R z G
 ·obtain⟨v,rfl,b5,Y,G⟩:=B
  obtain⟨a,a3⟩:∃a,a=w.heap.size:=⟨_,rfl⟩
  rw[<-a3]at N Z ⊢
  have c2:w.heap.size<=a:=by omega
  have c1:p.pb<a:=by omega
  clear a3
  have U:=(G.block a Z (by omega)).trans N
  have S:=R.trans G
  obtain⟨x,up,y,l,q,m,g,o,n,k,j,b4,a4⟩:=b5
  subst b4
  have F:=jP Y x up (bs y) l q m g o n k j
  rw[show (do let r2 <- Tp.want Tp.wEnd c;let c <- Tp.want Tp.mSemi r2;.ok ((),c):Except Tp.Er (Unit×List Tok))=closedS c from rfl]at F
  generalize T:closedS c=res2 at F
  have a0:Hid (closedS c=res2):=T
  have b2:Hid (Calls Tryz.prog 134 #[.pointer (some ⟨p.pb,0,none⟩),.agg (scells x up (bs y) (.pointer l) (.pointer q) (.slice m o n) (.slice g k j))] w2 fun e w'=>Post p d 0 b w2 (fun (_:Unit) v _=>v=.agg (scells x up (bs y) (.pointer l) (.pointer q) (.slice m o n) (.slice g k j))) res2 e w'):=F
  clear F T Y
  go_wp2_with fail
  refine b2.out.mono ?_
  intro e C B
  rcases res2 with er|⟨u,r5⟩
  ·obtain⟨z,A⟩:=B
   obtain⟨ab,h1,rfl,h2,h3⟩:=z.out
   go_wp2_with fail
   refine⟨rfl,?_⟩
   rw[O.out,P.out]
   simp only[bind,Except.bind,a0.out]
   exact zt S z A
  ·obtain⟨v,rfl,rfl,b0,A⟩:=B
   have V:=(A.block a (zf U) (by omega)).trans U
   have a8:=S.trans A
   have hv:VS Q.heap.size s (.agg (scells x up (bs y) (.pointer l) (.pointer q) (.slice m o n) (.slice g k j))) C:=VS.ext A (by omega) ⟨x,up,y,l,q,m,g,o,n,k,j,rfl,a4⟩
   clear a4
   generalize Value.agg (scells (x:Int) (up:Int) (bs y) (.pointer l) (.pointer q) (.slice m o n) (.slice g k j))=vv at hv ⊢
   obtain⟨J,L,K,H,I,ta,ea,tn,tc,en,ec,b7,b6⟩:=hv
   subst b7
   have kr:∀i,C.cell? ⟨a,i,none⟩=(scells 0 0 ⟨#[]⟩ (.pointer none) (.pointer none) (.slice none 0 0) (.slice none 0 0))[i]?:=fun i=>za V
   have zr:∀i,C.frozen? ⟨a,i,none⟩=false:=fun i=>zi V
   simp only[scells]at kr
   simp only[scells]
   go_wp2_with fail
   refine bodyPost_ret (v:=.agg (scells J L (bs K) (.pointer H) (.pointer I) (.slice ta tn tc) (.slice ea en ec))) (by simp[results,Tryz.results104,go_sem,kr,scells]) rfl ?_
   rw[O.out,P.out]
   simp only[bind,Except.bind,a0.out]
   have b8:=yn C a (.int .i64 (J:Int)) (.int .i64 (L:Int)) (.string (bs K)) (.pointer H) (.pointer I) (.slice ta tn tc) (.slice ea en ec)
   have a1:=zL C a (.int .i64 (J:Int)) (.int .i64 (L:Int)) (.string (bs K)) (.pointer H) (.pointer I) (.slice ta tn tc) (.slice ea en ec)
   exact⟨_,rfl,VS.base (VS.ext b8 (by omega) ⟨J,L,K,H,I,ta,ea,tn,tc,en,ec,rfl,b6⟩) (by omega),b0.belowB a1 (by omega),a8.trans' (a1.mono (by omega))⟩
theorem stmt_post {p:Ps}{c:List Tok}{f:Nat}(d:LevelC p c f)(m:NamedC p c f)(n:StmtsC p c f)(l:BranchC p c f):StmtC p c (f+1):=by
 intro w r b h k a
 by_cases e:tx r=Tp.wReturn
 ·exact uF d h e a
 ·by_cases g:tx r=Tp.wWrite
  ·exact stmt_write d h g a
  ·by_cases i:tx r=Tp.wWhile
   ·exact stmt_while d n h k i a
   ·by_cases j:tx r=Tp.wIf
    ·exact stmt_if l h k j a
    ·exact stmt_plain d m h ⟨e,g,i,j⟩ a
theorem Tryz.infoStmt:(Tryz.prog.info? 181).map (fun i=>(i.zero,i.size,i.bytes))=some (some (.agg #[.int .i64 0,.int .i64 0,.string ⟨#[]⟩,.pointer none,.pointer none,.slice none 0 0,.slice none 0 0]),7,96):=by kernel_rfl
theorem StmtC.mono {p:Ps}{c:List Tok}{f g:Nat}(h:StmtC p c g)(j:f<=g):StmtC p c f:=by
 intro w r b d i a
 have e:=(Tp.sx_le j 2 b r).eq rfl a
 have:=h w r b d i (by rw[e];exact a)
 rw[e]at this
 exact this
def Ends (r:List Tok):Prop:=tx r=Tp.wEnd\/tx r=Tp.wElsif\/tx r=Tp.wElse
theorem uE {f b:Nat}{r:List Tok}(h:Ends r):Tp.sx (f+1) 1 b r=.ok ([],r):=by
 unfold Ends at h
 rw[Tp.sx];simp only[show ¬(1=0) by omega,if_false,if_true,h]
theorem sx1_bad {f b:Nat}{r:List Tok}{er:Tp.Er}(h:¬Ends r)(a:Tp.sx f 2 b r=.error er):Tp.sx (f+1) 1 b r=.error er:=by
 unfold Ends at h
 rw[Tp.sx];simp only[show ¬(1=0) by omega,if_false,if_true,h,a,bind,Except.bind]
theorem sx1_ok {f b:Nat}{r a:List Tok}{s:List S}(h:¬Ends r)(c:Tp.sx f 2 b r=.ok (s,a)):Tp.sx (f+1) 1 b r=addAll s (Tp.sx f 1 b a):=by
 unfold Ends at h
 rw[Tp.sx];simp only[show ¬(1=0) by omega,if_false,if_true,h,c,bind,Except.bind]
 cases Tp.sx f 1 b a with
 |error e=>rfl
 |ok v=>rfl
theorem RepS.grown {w w':World}{B:Nat}{v c:Value}{l:List S}{cs:List Value}(h:RepS w (fun b=>B<=b/\v.ownBlock≠some b) l cs)(d:w.grownBy w' v.ownBlock)(i:∀g,c.ownBlock=some g->v.ownBlock=some g\/w.heap.size<=g) :
  RepS w' (fun b=>B<=b/\c.ownBlock≠some b) l cs:=by
 refine h.mono' (fun b a f=>⟨d.block b f (fun e=>a.2 e.symm),a.1,fun e=>?_⟩)
 rcases i b e with h1|h1
 ·exact a.2 h1
 ·omega
theorem RepS.of_new {w:World}{B C:Nat}{v:Value}{l:List S}{cs:List Value}(h:RepS w (fun b=>C<=b) l cs)(a:B<=C)(d:∀g,v.ownBlock=some g->g<C):RepS w (fun b=>B<=b/\v.ownBlock≠some b) l cs :=
 h.mono' (fun b c _=>⟨rfl,Nat.le_trans a c,fun e=>by have:=d b e;omega⟩)
theorem RepS.alloc {w:World}{D:Nat->Prop}{l:List S}{cs:List Value}(h:RepS w D l cs)(ob:Obj):RepS (w.alloc ob) D l cs :=
 h.mono' (fun b a c=>⟨Below.heap_alloc w ob b c,a⟩)
theorem news7 (w:World)(a b c d e f g:Value)(t:TypeId):∀j u,[a,b,c,d,e,f,g][j]?=some u->(w.alloc (.cells #[a,b,c,d,e,f,g] t)).cell? ((⟨w.heap.size,0,none⟩:Addr).add j)=some u:=by
 intro j u h
 rw[Addr.add_lit,za (zo _ _),Nat.zero_add]
 simpa using h
theorem stmts_deep {p:Ps}{g:List Tok}{w:World}{r:List Tok}{o b:Nat}(h:St w p g r o b)(f:10<b) :
  Calls Tryz.prog 69 #[.pointer (some ⟨p.pb,0,none⟩)] w fun e w'=>Thrown w.heap.size (4,at' r) e w'/\Ext p.pb w w':=by
 have d:=h.c4
 have i:(10:Int)<(b:Int):=by omega
 clear f
 go_enter Tryz.func69,Tryz.ntmps69
 go_wp2_with fail
 clear d
 refine(zV h 4).mono ?_
 rintro e w2⟨a,c⟩
 obtain⟨j,k,rfl,l,m⟩:=a.out
 go_wp2_with fail
 exact⟨rfl,a,Ext.below c⟩
theorem stmts_some {p:Ps}{G:List Tok}{f:Nat}(hT:StmtC p G f)(c8:f<=100000){w:World}{r:List Tok}{b:Nat}(h:St w p G r 0 b)(hb:b<=10)(hn:Tp.sx f 1 b r≠.error (99,0)) :
  Calls Tryz.prog 69 #[.pointer (some ⟨p.pb,0,none⟩)] w fun e w'=>Post p G 0 b w (VL w.heap.size) (Tp.sx f 1 b r) e w':=by
 obtain⟨i0,m,b8,b9,c6⟩:=info_parts Tryz.infoStmt
 have A:=zg h.c0
 have c4:=h.c4
 have b4:¬(10:Int)<(b:Int):=by omega
 have HT:Hid (StmtC p G f):=hT
 have HN:Hid (Tp.sx f 1 b r≠.error (99,0)):=hn
 clear hT hn
 go_enter Tryz.func69,Tryz.ntmps69
 go_wp2_with fail
 clear c4 b4
 go_loopg [3] f (fun k v wr=>∃(l:List S) (cs:List Value) (a:List Tok),k<=f/\RepS wr (fun b=>w.heap.size<=b/\v.ownBlock≠some b) l cs/\wr.ownsRow w.heap.size 181 7 v l.length cs/\St wr p G a 0 b/\Ext p.pb w wr/\addAll l (Tp.sx k 1 b a)=Tp.sx f 1 b r/\l.length+k<=f)
 case atStart =>
  refine⟨[],[],r,Nat.le_refl _,by rw[RepS],World.ownsRow_nil _ _ _ _,h,Ext.refl _ _,?_,by simp⟩
  cases Tp.sx f 1 b r with
  |error e=>rfl
  |ok x=>rfl
 case round =>
  obtain⟨l,cs,a,hk,I,z,j,H,a2,c7⟩:=hrel
  have C:Hid (addAll l (Tp.sx gk 1 b a)=Tp.sx f 1 b r):=a2
  obtain⟨ao,cap,X⟩:=zw z
  subst X
  have T:Tp.sx gk 1 b a≠.error (99,0):=by intro e;apply HN.out;rw[<-C.out,e];rfl
  obtain⟨g,rfl⟩:∃g,gk=g+1:=by
   cases gk with
   |zero=>exact absurd rfl T
   |succ k=>exact⟨k,rfl⟩
  clear a2
  by_cases D:tx a=Tp.wEnd
  ·have d1:=decide_eq_true D
   have Y:Hid (tx a=Tp.wEnd):=D
   clear D
   go_wp2_with fail
   refine(yp j Tp.wEnd _ rfl).mono ?_
   rintro e N⟨rfl,d⟩
   have o:Hid (Tp.sx (g+1) 1 b a=.ok ([],a)):=uE (Or.inl Y.out)
   go_wp2_with fail
   go_ret
   rw[<-C.out,o.out]
   have c:Below wr.heap.size wr N:=d
   exact⟨_,rfl,⟨cs,by simpa using I.mono' (fun i m t=>⟨c.block i t,m⟩),by simpa using zA z (Ext.below (b:=p.pb) c) A⟩,j.below c,H.trans (Ext.below c)⟩
  ·have d1:=decide_eq_false D
   have Y:Hid (¬tx a=Tp.wEnd):=D
   clear D
   by_cases E:tx a=Tp.wElsif
   ·have d2:=decide_eq_true E
    have Z:Hid (tx a=Tp.wElsif):=E
    clear E
    go_wp2_with fail
    refine(yp j Tp.wEnd _ rfl).mono ?_
    rintro e N⟨rfl,d⟩
    go_wp2_with fail
    refine(yp (j.below d) Tp.wElsif _ rfl).mono ?_
    rintro e w6⟨rfl,n⟩
    have o:Hid (Tp.sx (g+1) 1 b a=.ok ([],a)):=uE (Or.inr (Or.inl Z.out))
    go_wp2_with fail
    go_ret
    rw[<-C.out,o.out]
    have c:Below wr.heap.size wr w6:=d.trans (n.mono d.size)
    exact⟨_,rfl,⟨cs,by simpa using I.mono' (fun i m t=>⟨c.block i t,m⟩),by simpa using zA z (Ext.below (b:=p.pb) c) A⟩,j.below c,H.trans (Ext.below c)⟩
   ·have d2:=decide_eq_false E
    have Z:Hid (¬tx a=Tp.wElsif):=E
    clear E
    by_cases F:tx a=Tp.wElse
    ·have d3:=decide_eq_true F
     have H3:Hid (tx a=Tp.wElse):=F
     clear F
     go_wp2_with fail
     refine(yp j Tp.wEnd _ rfl).mono ?_
     rintro e N⟨rfl,d⟩
     go_wp2_with fail
     refine(yp (j.below d) Tp.wElsif _ rfl).mono ?_
     rintro e w6⟨rfl,n⟩
     go_wp2_with fail
     refine(yp ((j.below d).below n) Tp.wElse _ rfl).mono ?_
     rintro e y⟨rfl,L⟩
     have o:Hid (Tp.sx (g+1) 1 b a=.ok ([],a)):=uE (Or.inr (Or.inr H3.out))
     go_wp2_with fail
     go_ret
     rw[<-C.out,o.out]
     have c:Below wr.heap.size wr y:=(d.trans (n.mono d.size)).trans (L.mono (Nat.le_trans d.size n.size))
     exact⟨_,rfl,⟨cs,by simpa using I.mono' (fun i m t=>⟨c.block i t,m⟩),by simpa using zA z (Ext.below (b:=p.pb) c) A⟩,j.below c,H.trans (Ext.below c)⟩
    ·have d3:=decide_eq_false F
     have o:Hid (¬Ends a):=by intro e;rcases e with e|e|e;exact Y.out e;exact Z.out e;exact F e
     clear F
     go_wp2_with fail
     refine(yp j Tp.wEnd _ rfl).mono ?_
     rintro e N⟨rfl,d⟩
     go_wp2_with fail
     refine(yp (j.below d) Tp.wElsif _ rfl).mono ?_
     rintro e w6⟨rfl,n⟩
     go_wp2_with fail
     refine(yp ((j.below d).below n) Tp.wElse _ rfl).mono ?_
     rintro e y⟨rfl,L⟩
     have c:Below wr.heap.size wr y:=(d.trans (n.mono d.size)).trans (L.mono (Nat.le_trans d.size n.size))
     have a5:=j.below c
     have J:=H.trans (Ext.below c)
     have a0:=I.mono' (fun i m t=>⟨c.block i t,m⟩)
     have Q:=zA z (Ext.below (b:=p.pb) c) A
     have a3:Tp.sx g 2 b a≠.error (99,0):=fun e=>T (sx1_bad o.out e)
     have V:=(HT.out.mono (f:=g) (by omega)) y a b a5 hb a3
     generalize a4:Tp.sx g 2 b a=res at V
     have HR:Hid (Tp.sx g 2 b a=res):=a4
     have b3:Hid (Calls Tryz.prog 104 #[.pointer (some ⟨p.pb,0,none⟩)] y fun e w'=>Post p G 0 b y (VS y.heap.size) res e w'):=V
     clear V a4 T a3 c d n L j H I z a5
     go_wp2_with fail
     refine b3.out.mono ?_
     intro e w8 M
     rcases res with er|⟨s,r1⟩
     ·obtain⟨ht,B⟩:=M
      obtain⟨ab,q1,rfl,q2,q3⟩:=ht.out
      go_wp2_with fail
      refine⟨rfl,?_⟩
      rw[<-C.out,sx1_bad o.out HR.out]
      exact zt J ht B
     ·obtain⟨v,rfl,hv,a6,B⟩:=M
      obtain⟨vc,vp,vn,ia,va,ta,ea,tn,tc,en,ec,X,W⟩:=hv
      subst X
      have b7:s.length=1:=by have:=RepS.len _ _ W;simp[scells]at this;omega
      have R:=zA Q B A
      have a1:=a0.mono' (fun i m t=>⟨B.block i t (by omega),m⟩)
      have P:=J.trans B
      have b1:=J.size
      have b2:=P.size
      have b5:∀q,(Value.slice ao l.length cap).ownBlock=some q->q<y.heap.size:=fun q M=>(Q.lt q M).2
      have a7:=W.of_new (v:=.slice ao l.length cap) b1 b5
      clear W Q a0 J B
      simp only[scells]
      go_wp2_with (at_builtin;refine zC _ rfl _ _ 34 rfl w.heap.size 181 i0 (.agg #[.int .i64 0,.int .i64 0,.string ⟨#[]⟩,.pointer none,.pointer none,.slice none 0 0,.slice none 0 0]) 7 96 Tryz.underlying34 m b8 b9 c6 rfl (by decide) _ _ _ rfl (R.alloc _) ⟨w8.heap.size,0,none⟩ 1 1 [.int .i64 (vc:Int),.int .i64 (vp:Int),.string (bs vn),.pointer ia,.pointer va,.slice ta tn tc,.slice ea en ec] rfl rfl ?c1 ?c2 ?c3 ?c4 ?c5 ?_)
      case c1=>exact news7 w8 _ _ _ _ _ _ _ _
      case c2=>intro u hu;simp at hu;rcases hu with rfl|rfl|rfl|rfl|rfl|rfl|rfl<;>rfl
      case c3=>unfold maxLen;omega
      case c4=>omega
      case c5=>simp;omega
      ·intro v' w9 a9 K O
       have U:Below w.heap.size w8 w9:=((Below.refl _ _).alloc b2 _).trans ((Below.refl _ _).grown K (by simp;omega) (zU R))
       have b0:=a6.belowB U A
       have a8:Ext p.pb w w9:=P.trans' U
       have b6:=RepS.app _ _ _ _ ((a1.alloc _).grown K (by simpa using O)) ((a7.alloc _).grown K (by simpa using O))
       clear K O R a1 a7 a6 P U
       go_wp2_with fail
       go_roundg g
       case measure=>omega
       case rel =>
        refine⟨l++s,_,r1,by omega,b6,?_,b0,a8,?_,by simp;omega⟩
        ·rw[List.length_append,b7];exact a9
        ·rw[<-C.out,sx1_ok o.out HR.out,yJ]
theorem stmts_post {p:Ps}{c:List Tok}{f:Nat}(d:f<=100000)(g:StmtC p c f):StmtsC p c (f+1):=by
 intro w r b h i a
 by_cases hd:10<b
 ·rw[show Tp.sx (f+1) 0 b r=.error (4,at' r) by rw[Tp.sx];simp[hd]]
  exact stmts_deep h hd
 ·have e:Tp.sx (f+1) 0 b r=Tp.sx f 1 b r:=by rw[Tp.sx];simp[hd]
  rw[e]at a ⊢
  exact stmts_some g d h (by omega) a
end Go.Proofs.YtibncofnnlbmcaaGreatDoor
namespace Go.Proofs.YtibncofnnlbmcaaGreatDoor
open Go.RowKit
open Tp (Tok hd tx at' stp X S G)
def gcells (name:ByteArray) (pos len:Int) (seen:Bool):Array Value:=#[.string name,.int .i64 pos,.int .i64 len,.bool seen]
def VG (g:G) (v:Value):Prop:=v=.agg (gcells (bs g.name) (g.pos:Int) (g.len:Int) g.seen)
theorem yX (w:World)(b:Nat)(a c d e:Value):Below b w ((((w.setCell ⟨b,0,none⟩ a).setCell ⟨b,1,none⟩ c).setCell ⟨b,2,none⟩ d).setCell ⟨b,3,none⟩ e):=(zq (zq (zq (zq (Below.refl b w) zn 0 a) zn 1 c) zn 2 d) zn 3 e)
theorem qz (a b:List UInt8):(a==b)=decide (a=b):=by rw[Bool.eq_iff_iff,decide_eq_true_iff,beq_iff_eq]
theorem vN {w:World}{p:Ps}{c r:List Tok}{o b:Nat}{a:Except Tp.Er (Nat×List Tok)}(h:St w p c r o b)(d:Hid (Tp.number 30 r=a)) :
  Calls Tryz.prog 103 #[.pointer (some ⟨p.pb,0,none⟩),.int .i64 30] w fun e w'=>Post p c o b w (fun (n:Nat) v _=>v=.int .i64 (n:Int)) a e w':=by
 have:=kA h 30 (by omega) (by omega)
 rw[d.out]at this
 exact this
theorem number_le {r c:List Tok}{n:Nat}(h:Tp.number 30 r=.ok (n,c)):n<=30:=by
 unfold Tp.number at h
 by_cases a:(hd r).kind≠2
 ·simp[a]at h
 ·by_cases b:30<Tp.val (tx r)
  ·simp[a,b]at h
  ·simp[a,b]at h;omega
theorem jL {p:Ps}{ts:List Tok}{w:World}{r:List Tok}{o b:Nat}(h:St w p ts r o b) :
  Calls Tryz.prog 66 #[.pointer (some ⟨p.pb,0,none⟩)] w fun e w'=>Post p ts o b w (fun g v _=>VG g v) (Tp.global r) e w':=by
 have e4:=zg h.c0
 go_enter Tryz.func66,Tryz.ntmps66
 go_wp2_with fail
 have b0:∀ob,Below w.heap.size w (w.alloc ob):=fun ob=>zb _ _
 refine(zK (h.below (b0 _))).mono ?_
 rintro e G⟨rfl,a9⟩
 have d3:=(h.below (b0 _)).below a9
 have U:G.heap[w.heap.size]?=some (.cells (gcells ⟨#[]⟩ 0 0 false) 61 (0,0)):=(a9.block _ (by simp)).trans (zo _ _)
 have c7:Ext p.pb w G:=(Ext.below (b0 _)).trans (Ext.below a9)
 obtain⟨a,d8⟩:∃a,a=w.heap.size:=⟨_,rfl⟩
 rw[<-d8]at U ⊢
 have B:w.heap.size<=a:=by omega
 have e5:p.pb<a:=by omega
 clear b0 a9 d8
 have k1:G.cell? ⟨a,1,none⟩=some (.int .i64 0):=za U
 have z1:G.frozen? ⟨a,1,none⟩=false:=zi U
 go_wp2_with fail
 clear k1 z1
 have c:Below a G (G.setCell ⟨a,1,none⟩ (.int .i64 ((hd r).pos:Int))):=zq (Below.refl _ _) zn 1 _
 have b7:=d3.belowB c (by omega)
 have a0:=c7.trans' (c.mono B)
 have a4:=zu 1 (.int .i64 ((hd r).pos:Int)) U
 generalize G.setCell ⟨a,1,none⟩ (.int .i64 ((hd r).pos:Int))=w2 at c b7 a0 a4 ⊢
 clear c d3 c7 U
 refine(yN b7).mono ?_
 intro e Z X
 generalize d2:Tp.name r=res at X
 have q:Hid (Tp.name r=res):=d2
 clear d2
 rcases res with er|⟨nm,f⟩
 ·obtain⟨d,l⟩:=X
  obtain⟨N,Q,rfl,R,S⟩:=d.out
  go_wp2_with fail
  refine⟨rfl,?_⟩
  rw[show Tp.global r=.error er by unfold Tp.global;simp only[q.out,bind,Except.bind]]
  exact zt a0 d l
 obtain⟨v,rfl,rfl,d4,c3⟩:=X
 have a5:=(c3.block a (zf a4) (by omega)).trans a4
 have c8:=a0.trans c3
 clear b7 c3 a0 a4
 have k0:Z.cell? ⟨a,0,none⟩=some (.string ⟨#[]⟩):=za a5
 have z0:Z.frozen? ⟨a,0,none⟩=false:=zi a5
 go_wp2_with fail
 clear k0 z0
 have c:Below a Z (Z.setCell ⟨a,0,none⟩ (.string (bs nm))):=zq (Below.refl _ _) zn 0 _
 have b8:=d4.belowB c (by omega)
 have b3:=c8.trans' (c.mono B)
 have a6:=zu 0 (.string (bs nm)) a5
 generalize Z.setCell ⟨a,0,none⟩ (.string (bs nm))=w4 at c b8 b3 a6 ⊢
 clear c d4 c8 a5
 refine(zP b8 Tp.mStar _ rfl).mono ?_
 rintro e w5⟨rfl,d5,c4⟩
 have a7:=(c4.block a (zf a6) (by omega)).trans a6
 have c9:=b3.trans c4
 clear b8 c4 b3 a6
 have k3:w5.cell? ⟨a,3,none⟩=some (.bool false):=za a7
 have z3:w5.frozen? ⟨a,3,none⟩=false:=zi a7
 go_wp2_with fail
 clear k3 z3
 have c:Below a w5 (w5.setCell ⟨a,3,none⟩ (.bool (decide (tx f=Tp.mStar)))):=zq (Below.refl _ _) zn 3 _
 have V:=d5.belowB c (by omega)
 have a1:=c9.trans' (c.mono B)
 have a8:=zu 3 (.bool (decide (tx f=Tp.mStar))) a7
 generalize w5.setCell ⟨a,3,none⟩ (.bool (decide (tx f=Tp.mStar)))=w6 at c V a1 a8 ⊢
 clear c d5 c9 a7
 generalize d6:(if tx f=Tp.mStar then stp f else f)=r2 at V
 have t:Hid ((if tx f=Tp.mStar then stp f else f)=r2):=d6
 clear d6
 by_cases P:tx r2=Tp.mColon
 rotate_left
 ·refine(zM V Tp.mColon _ rfl P).mono ?_
  rintro e w7⟨d,l⟩
  have n:Hid (¬tx r2=Tp.mColon):=P
  clear P
  obtain⟨N,Q,rfl,R,S⟩:=d.out
  go_wp2_with fail
  refine⟨rfl,?_⟩
  rw[show Tp.global r=.error (3,at' r2) by unfold Tp.global;simp only[q.out,t.out,bind,Except.bind,Tp.want,if_neg n.out]]
  exact zt a1 d l
 refine(zF V Tp.mColon _ rfl P).mono ?_
 rintro e w7⟨rfl,b9,c5⟩
 have n:Hid (tx r2=Tp.mColon):=P
 have b6:=(c5.block a (zf a8) (by omega)).trans a8
 have d0:=a1.trans c5
 clear P V c5 a1 a8
 generalize d7:stp r2=r3 at b9
 have A:Hid (stp r2=r3):=d7
 clear d7
 go_wp2_with fail
 refine(zP b9 Tp.wInt _ rfl).mono ?_
 rintro e w8⟨rfl,s,c6⟩
 have J:=(c6.block a (zf b6) (by omega)).trans b6
 have I:=d0.trans c6
 clear b9 c6 d0 b6
 by_cases x:tx r3=Tp.wInt
 ·have b5:=decide_eq_true x
  rw[if_pos x]at s
  have u:Hid (tx r3=Tp.wInt):=x
  clear x
  go_wp2_with fail
  clear b5
  by_cases j:tx (stp r3)=Tp.mSemi
  ·refine(zF s Tp.mSemi _ rfl j).mono ?_
   rintro e H⟨rfl,W,C⟩
   have E:Hid (tx (stp r3)=Tp.mSemi):=j
   have K:=(C.block a (zf J) (by omega)).trans J
   have T:=I.trans C
   clear j s C I J
   have Y:∀i,H.cell? ⟨a,i,none⟩=(gcells (bs nm) (hd r).pos 0 (decide (tx f=Tp.mStar)))[i]?:=fun i=>za K
   have zr:∀i,H.frozen? ⟨a,i,none⟩=false:=fun i=>zi K
   simp only[gcells]at Y
   go_wp2_with fail
   refine bodyPost_ret (v:=.agg (gcells (bs nm) (at' r) (0) (decide (tx f=Tp.mStar)))) (by simp[results,Tryz.results66,go_sem,Y,gcells,at']) rfl ?_
   rw[show Tp.global r=.ok (⟨nm,at' r,0,tx f==Tp.mStar⟩,stp (stp r3)) by unfold Tp.global;simp only[q.out,t.out,A.out,bind,Except.bind,Tp.want,if_pos n.out,if_pos u.out,if_pos E.out]]
   exact⟨_,rfl,by unfold VG;rw[qz]<;>rfl,W.belowB (yX H a _ _ _ _) (by omega),T.trans' ((yX H a _ _ _ _).mono B)⟩
  ·refine(zM s Tp.mSemi _ rfl j).mono ?_
   rintro e H⟨d,l⟩
   have E:Hid (¬tx (stp r3)=Tp.mSemi):=j
   clear j
   obtain⟨N,Q,rfl,R,S⟩:=d.out
   go_wp2_with fail
   refine⟨rfl,?_⟩
   rw[show Tp.global r=.error (3,at' (stp r3)) by unfold Tp.global;simp only[q.out,t.out,A.out,bind,Except.bind,Tp.want,if_pos n.out,if_pos u.out,if_neg E.out]]
   exact zt I d l
 ·have b5:=decide_eq_false x
  rw[if_neg x]at s
  have u:Hid (¬tx r3=Tp.wInt):=x
  clear x
  go_wp2_with fail
  clear b5
  by_cases O:tx r3=Tp.wArray
  rotate_left
  ·refine(zM s Tp.wArray _ rfl O).mono ?_
   rintro e H⟨d,l⟩
   have M:Hid (¬tx r3=Tp.wArray):=O
   clear O
   obtain⟨N,Q,rfl,R,S⟩:=d.out
   go_wp2_with fail
   refine⟨rfl,?_⟩
   rw[show Tp.global r=.error (3,at' r3) by unfold Tp.global;simp only[q.out,t.out,A.out,bind,Except.bind,Tp.want,if_pos n.out,if_neg u.out,if_neg M.out]]
   exact zt I d l
  refine(zF s Tp.wArray _ rfl O).mono ?_
  rintro e H⟨rfl,W,C⟩
  have M:Hid (tx r3=Tp.wArray):=O
  have K:=(C.block a (zf J) (by omega)).trans J
  have T:=I.trans C
  clear O s C I J
  go_wp2_with fail
  rcases hres2:Tp.number 30 (stp r3) with er|⟨k,F⟩
  ·have D:Hid (Tp.number 30 (stp r3)=.error er):=hres2
   clear hres2
   refine(vN W D).mono ?_
   rintro e m⟨d,l⟩
   obtain⟨N,Q,rfl,R,S⟩:=d.out
   go_wp2_with fail
   refine⟨rfl,?_⟩
   rw[show Tp.global r=.error er by unfold Tp.global;simp only[q.out,t.out,A.out,bind,Except.bind,Tp.want,if_pos n.out,if_neg u.out,if_pos M.out,D.out]]
   exact zt T d l
  have D:Hid (Tp.number 30 (stp r3)=.ok (k,F)):=hres2
  have e3:=number_le hres2
  clear hres2
  refine(vN W D).mono ?_
  intro e m X
  obtain⟨v,rfl,rfl,b4,c1⟩:=X
  have a2:=(c1.block a (zf K) (by omega)).trans K
  have b2:=T.trans c1
  clear W c1 T K
  have k2:m.cell? ⟨a,2,none⟩=some (.int .i64 0):=za a2
  have z2:m.frozen? ⟨a,2,none⟩=false:=zi a2
  by_cases b1:k=0
  ·have e2:((k:Int)==0)=true:=by simp;omega
   have HK:Hid (k=0):=b1
   clear b1
   go_wp2_with fail
   clear k2 z2
   have c:Below a m (m.setCell ⟨a,2,none⟩ (.int .i64 (k:Int))):=zq (Below.refl _ _) zn 2 _
   have z:=b4.belowB c (by omega)
   have y:=b2.trans' (c.mono B)
   generalize m.setCell ⟨a,2,none⟩ (.int .i64 (k:Int))=w11 at c z y ⊢
   refine(zV z 2).mono ?_
   rintro e L⟨d,e1⟩
   obtain⟨N,Q,rfl,R,S⟩:=d.out
   go_wp2_with fail
   refine⟨rfl,?_⟩
   rw[show Tp.global r=.error (2,at' F) by unfold Tp.global;simp only[q.out,t.out,A.out,bind,Except.bind,Tp.want,if_pos n.out,if_neg u.out,if_pos M.out,D.out,if_pos HK.out]]
   exact zt y d (Ext.below e1)
  ·have e2:((k:Int)==0)=false:=by simp;omega
   have HK:Hid (¬k=0):=b1
   clear b1
   go_wp2_with fail
   clear k2 z2
   have c:Below a m (m.setCell ⟨a,2,none⟩ (.int .i64 (k:Int))):=zq (Below.refl _ _) zn 2 _
   have z:=b4.belowB c (by omega)
   have y:=b2.trans' (c.mono B)
   have a3:=zu 2 (.int .i64 (k:Int)) a2
   generalize m.setCell ⟨a,2,none⟩ (.int .i64 (k:Int))=w11 at c z y a3 ⊢
   clear c b4 b2 a2
   by_cases j:tx F=Tp.mSemi
   ·refine(zF z Tp.mSemi _ rfl j).mono ?_
    rintro e L⟨rfl,e0,c2⟩
    have E:Hid (tx F=Tp.mSemi):=j
    have d1:=(c2.block a (zf a3) (by omega)).trans a3
    have d9:=y.trans c2
    clear j z c2 y a3
    have Y:∀i,L.cell? ⟨a,i,none⟩=(gcells (bs nm) (hd r).pos k (decide (tx f=Tp.mStar)))[i]?:=fun i=>za d1
    have zr:∀i,L.frozen? ⟨a,i,none⟩=false:=fun i=>zi d1
    simp only[gcells]at Y
    go_wp2_with fail
    refine bodyPost_ret (v:=.agg (gcells (bs nm) (at' r) ((k:Int)) (decide (tx f=Tp.mStar)))) (by simp[results,Tryz.results66,go_sem,Y,gcells,at']) rfl ?_
    rw[show Tp.global r=.ok (⟨nm,at' r,k,tx f==Tp.mStar⟩,stp F) by unfold Tp.global;simp only[q.out,t.out,A.out,bind,Except.bind,Tp.want,if_pos n.out,if_neg u.out,if_pos M.out,D.out,if_neg HK.out,if_pos E.out]]
    exact⟨_,rfl,by unfold VG;rw[qz]<;>rfl,e0.belowB (yX L a _ _ _ _) (by omega),d9.trans' ((yX L a _ _ _ _).mono B)⟩
   ·refine(zM z Tp.mSemi _ rfl j).mono ?_
    rintro e L⟨d,l⟩
    have E:Hid (¬tx F=Tp.mSemi):=j
    clear j
    obtain⟨N,Q,rfl,R,S⟩:=d.out
    go_wp2_with fail
    refine⟨rfl,?_⟩
    rw[show Tp.global r=.error (3,at' F) by unfold Tp.global;simp only[q.out,t.out,A.out,bind,Except.bind,Tp.want,if_pos n.out,if_neg u.out,if_pos M.out,D.out,if_neg HK.out,if_neg E.out]]
    exact zt y d l
end Go.Proofs.YtibncofnnlbmcaaGreatDoor
