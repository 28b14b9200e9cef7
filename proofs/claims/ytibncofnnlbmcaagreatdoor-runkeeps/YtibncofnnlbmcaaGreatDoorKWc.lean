import Derived.Test.YtibncofnnlbmcaaGreatDoorKWb
import Derived.Deep.RegionHeld3
set_option maxRecDepth 100000
set_option maxHeartbeats 4000000
namespace Go.Proofs.YtibncofnnlbmcaaGreatDoor
open Go.RowKit
open Tp (Tok hd tx at' stp X)
theorem Tryz.infoPExpr:(Tryz.prog.info? 179).map (fun i=>(i.zero,i.size,i.bytes))=some (some (.pointer none),1,8):=by kernel_rfl
theorem LevelC.mono {p:Ps}{c:List Tok}{f g:Nat}(h:LevelC p c g)(k:f<=g):LevelC p c f:=by
 intro w r o b n d i j a
 have e:=(Tp.ex_le k n o 0 [] r).eq rfl a
 have:=h w r o b n d i j (by rw[e];exact a)
 rw[e]at this
 exact this
def argsT (f o:Nat) (r:List Tok):Except Tp.Er (List X×List Tok):=if tx r=Tp.mComma then Tp.ex f 7 o 0 [] (stp r) else .ok ([],r)
theorem xW {f o:Nat}{r:List Tok}{er:Tp.Er}(h:Tp.ex f 0 (o+1) 0 [] r=.error er):Tp.ex (f+1) 7 o 0 [] r=.error er:=by
 rw[Tp.ex];simp only[h];rfl
theorem ex7_ok {f o:Nat}{r a:List Tok}{x:List X}(h:Tp.ex f 0 (o+1) 0 [] r=.ok (x,a)):Tp.ex (f+1) 7 o 0 [] r=addAll x (argsT f o a):=by
 rw[Tp.ex]
 simp only[h,bind,Except.bind,argsT]
 by_cases b:tx a=Tp.mComma
 ·simp[b]
  cases Tp.ex f 7 o 0 [] (stp a) with
  |error e=>rfl
  |ok v=>rfl
 ·simp[b,addAll]
theorem RepL.grown {w w':World}{B:Nat}{v c:Value}{l:List X}{vs:List Value}(h:RepL w (fun b=>B<=b/\v.ownBlock≠some b) l vs)(d:w.grownBy w' v.ownBlock)(i:∀g,c.ownBlock=some g->v.ownBlock=some g\/w.heap.size<=g) :
  RepL w' (fun b=>B<=b/\c.ownBlock≠some b) l vs:=by
 refine RepL.mono (fun b a f=>⟨d.block b f (fun e=>a.2 e.symm),a.1,fun e=>?_⟩) (SizeOf.sizeOf l) l vs zn h
 rcases i b e with h1|h1
 ·exact a.2 h1
 ·omega
theorem VA.snoc {w w':World}{B:Nat}{v a u:Value}{l x:List X}{vs:List Value}(h:RepL w (fun b=>B<=b/\v.ownBlock≠some b) l vs)(f:RepL w (fun b=>B<=b/\v.ownBlock≠some b) x [u])
  (e:w'.ownsRow B 179 1 a (vs.length+1) (vs++[u]))(c:w.grownBy w' v.ownBlock)(d:∀g,a.ownBlock=some g->v.ownBlock=some g\/w.heap.size<=g) :
  RepL w' (fun b=>B<=b/\a.ownBlock≠some b) (l++x) (vs++[u])/\w'.ownsRow B 179 1 a (vs++[u]).length (vs++[u]) :=
 ⟨RepL.app _ _ _ _ (h.grown c d) (f.grown c d),by simpa using e⟩
theorem RepL.of_new {w:World}{B C:Nat}{v:Value}{l:List X}{vs:List Value}(h:RepL w (fun b=>C<=b) l vs)(a:B<=C)(d:∀g,v.ownBlock=some g->g<C):RepL w (fun b=>B<=b/\v.ownBlock≠some b) l vs :=
 RepL.mono (fun b c _=>⟨rfl,Nat.le_trans a c,fun e=>by have:=d b e;omega⟩) (SizeOf.sizeOf l) l vs zn h
theorem RepL.alloc {w:World}{D:Nat->Prop}{l:List X}{vs:List Value}(h:RepL w D l vs)(ob:Obj):RepL (w.alloc ob) D l vs :=
 RepL.mono (fun b a c=>⟨Below.heap_alloc w ob b c,a⟩) (SizeOf.sizeOf l) l vs zn h
theorem args_none {p:Ps}{d:List Tok}{w:World}{r:List Tok}{o b:Nat}(h:St w p d r o b)(c:tx r=Tp.mRp) :
  Calls Tryz.prog 191 #[.pointer (some ⟨p.pb,0,none⟩)] w fun e w'=>e=.returned (.slice none 0 0)/\St w' p d r o b/\Ext p.pb w w':=by
 have f:=decide_eq_true c
 clear c
 go_enter Tryz.func191,Tryz.ntmps191
 go_wp2_with fail
 refine(yp h Tp.mRp _ rfl).mono ?_
 rintro e g⟨rfl,a⟩
 go_wp2_with fail
 go_ret
 exact⟨rfl,h.below a,Ext.below a⟩
theorem args_some {p:Ps}{i:List Tok}{f:Nat}(hL:LevelC p i f){w:World}{r:List Tok}{o b:Nat}(h:St w p i r o b)(ho:o<=10)(hr:tx r≠Tp.mRp)(d9:f<=100000)(V:Tp.ex f 7 o 0 [] r≠.error (99,0)) :
  Calls Tryz.prog 191 #[.pointer (some ⟨p.pb,0,none⟩)] w fun e w'=>Post p i o b w (VA w.heap.size) (Tp.ex f 7 o 0 [] r) e w':=by
 obtain⟨i0,hi,d2,d3,d4⟩:=info_parts Tryz.infoPExpr
 have e0:=zm
 have T:=zg h.c0
 have d5:=decide_eq_false hr
 obtain⟨c,rfl⟩:∃c,f=c+1:=by
  cases f with
  |zero=>exact absurd rfl V
  |succ k=>exact⟨k,rfl⟩
 have b3:LevelC p i c:=hL.mono (by omega)
 have HL:Hid (∀g,g<=c->∀W q,St W p i q o b->Tp.ex g 0 (o+1) 0 [] q≠.error (99,0)->Calls Tryz.prog 190 #[.pointer (some ⟨p.pb,0,none⟩),.func (.func 157) #[.pointer (some ⟨p.pb,0,none⟩)] #[]] W fun e w'=>Post p i o b W (VX W.heap.size) (Tp.ex g 0 (o+1) 0 [] q) e w') :=
  fun g hg W q hW d=>ky hW (by omega) _ (fun w1 U _ _=>y6 (b3.mono hg) U (by omega) d)
 have HN:Hid (Tp.ex (c+1) 7 o 0 [] r≠.error (99,0)):=V
 clear hr V hL b3
 go_enter Tryz.func191,Tryz.ntmps191
 go_wp2_with fail
 refine(yp h Tp.mRp _ rfl).mono ?_
 rintro e w1⟨rfl,B⟩
 have a9:=h.below B
 go_wp2_with fail
 have C:Tp.ex c 0 (o+1) 0 [] r≠.error (99,0):=fun e=>HN.out (xW e)
 refine(HL.out c zn _ r a9 C).mono ?_
 intro e w2 d
 generalize z:Tp.ex c 0 (o+1) 0 [] r=res at d
 have b2:Hid (Tp.ex c 0 (o+1) 0 [] r=res):=z
 clear z C
 rcases res with er|⟨x,r1⟩
 ·obtain⟨F,D⟩:=d
  obtain⟨ab,U,rfl,h2,h3⟩:=F.out
  go_wp2_with fail
  refine⟨rfl,?_⟩
  rw[xW b2.out]
  exact zt (Ext.below B) F D
 ·obtain⟨v,rfl,Y,b0,D⟩:=d
  obtain⟨bb,rfl⟩:=Y.ptr
  have d7:=B.size
  have d8:=D.size
  have c8:Ext p.pb w w2:=(Ext.below B).trans D
  go_wp2_with fail
  have a6:St (w2.alloc (.cells #[.pointer (some ⟨bb,0,none⟩)] 179)) p i r1 o b:=b0.below (zb _ _)
  have a0:Ext p.pb w (w2.alloc (.cells #[.pointer (some ⟨bb,0,none⟩)] 179)):=c8.trans (Ext.below (zb _ _))
  have a1:(w2.alloc (.cells #[.pointer (some ⟨bb,0,none⟩)] 179)).ownsRow w.heap.size 179 1 (.slice (some ⟨w2.heap.size,0,none⟩) 1 1) 1 [.pointer (some ⟨bb,0,none⟩)] :=
   ⟨rfl,Or.inr ⟨w2.heap.size,1,#[.pointer (some ⟨bb,0,none⟩)],rfl,by omega,zo _ _,by omega,by unfold maxLen;omega,rfl,rfl⟩⟩
  have a2:RepL (w2.alloc (.cells #[.pointer (some ⟨bb,0,none⟩)] 179)) (fun b=>w.heap.size<=b/\(Value.slice (some ⟨w2.heap.size,0,none⟩) 1 1).ownBlock≠some b) x [.pointer (some ⟨bb,0,none⟩)]:=by
   refine RepL.mono (fun b hb hl=>⟨Below.heap_alloc w2 _ b hl,by omega,fun e=>?_⟩) (SizeOf.sizeOf x) x _ zn Y
   simp[Value.ownBlock]at e;omega
  clear b0 D B a9 Y
  go_loopg [3] c (fun k v wr=>∃(l:List X) (vs:List Value) (a:List Tok),k<=c/\RepL wr (fun b=>w.heap.size<=b/\v.ownBlock≠some b) l vs/\wr.ownsRow w.heap.size 179 1 v vs.length vs/\St wr p i a o b/\Ext p.pb w wr/\addAll l (argsT k o a)=Tp.ex (c+1) 7 o 0 [] r/\vs.length+k<=c+1)
  case atStart=>exact⟨x,_,r1,Nat.le_refl _,a2,a1,a6,a0,(ex7_ok b2.out).symm,by simp;omega⟩
  case round =>
   obtain⟨l,vs,a,hk,a8,R,b5,a7,a5,d6⟩:=hrel
   have J:Hid (addAll l (argsT gk o a)=Tp.ex (c+1) 7 o 0 [] r):=a5
   obtain⟨ao,cap,d1⟩:=zw R
   subst d1
   clear a5 a6 a0 a1 a2
   go_wp2_with fail
   refine(zP b5 Tp.mComma _ rfl).mono ?_
   rintro e G⟨rfl,A,I⟩
   have P:=RepL.ext I (by omega) a8
   have H:=zA R I T
   have t:=a7.trans I
   clear a8 R a7 b5
   by_cases m:tx a=Tp.mComma
   ·have b7:=decide_eq_true m
    rw[if_pos m]at A
    have E:Hid (tx a=Tp.mComma):=m
    have Q:Tp.ex gk 7 o 0 [] (stp a)≠.error (99,0):=by
     intro e;apply HN.out;rw[<-J.out];unfold argsT;rw[if_pos E.out,e];rfl
    obtain⟨g,rfl⟩:∃g,gk=g+1:=by
     cases gk with
     |zero=>exact absurd rfl Q
     |succ k=>exact⟨k,rfl⟩
    have C:Tp.ex g 0 (o+1) 0 [] (stp a)≠.error (99,0):=fun e=>Q (xW e)
    have L:=HL.out g (by omega) G (stp a) A C
    clear m Q C
    generalize z:Tp.ex g 0 (o+1) 0 [] (stp a)=res at L
    have HR:Hid (Tp.ex g 0 (o+1) 0 [] (stp a)=res):=z
    have c9:Hid (Calls Tryz.prog 190 #[.pointer (some ⟨p.pb,0,none⟩),.func (.func 157) #[.pointer (some ⟨p.pb,0,none⟩)] #[]] G fun e w'=>Post p i o b G (VX G.heap.size) res e w'):=L
    clear z L
    go_wp2_with fail
    refine c9.out.mono ?_
    intro e w6 d
    rcases res with er|⟨y,r2⟩
    ·obtain⟨F,n⟩:=d
     obtain⟨ab,U,rfl,h2,h3⟩:=F.out
     go_wp2_with fail
     refine⟨rfl,?_⟩
     rw[<-J.out,show argsT (g+1) o a=.error er by unfold argsT;rw[if_pos E.out,xW HR.out]]
     exact zt t F n
    ·obtain⟨u,rfl,s,b1,n⟩:=d
     obtain⟨ub,rfl⟩:=s.ptr
     have O:=zA H n T
     have a4:=RepL.ext n (by omega) P
     have M:=t.trans n
     have c7:=M.size
     have c6:=t.size
     have d0:∀q,(Value.slice ao vs.length cap).ownBlock=some q->q<G.heap.size:=fun q d=>(H.lt q d).2
     have b6:=s.of_new (v:=.slice ao vs.length cap) c6 d0
     clear s H P A I n t
     go_wp2_with (at_builtin;refine zC _ rfl _ _ 214 rfl w.heap.size 179 i0 (.pointer none) 1 8 Tryz.underlying214 hi d2 d3 d4 rfl (by decide) _ _ _ rfl (O.alloc _) ⟨w6.heap.size,0,none⟩ 1 1 [.pointer (some ⟨ub,0,none⟩)] rfl rfl ?c1 ?c2 ?c3 ?c4 ?c5 ?_)
     case c1 =>
      intro j u K
      match j,K with
      | 0,K=>simp at K;subst K;simp[Addr.add]
     case c2=>intro u s;simp at s;subst s;rfl
     case c3=>unfold maxLen;omega
     case c4=>omega
     case c5=>simp;omega
     ·intro v' w7 a3 N Z
      have S:Below w.heap.size w6 w7:=((Below.refl _ _).alloc c7 _).trans ((Below.refl _ _).grown N (by simp;omega) (zU O))
      have b9:=b1.belowB S T
      have b8:Ext p.pb w w7:=M.trans' S
      have b4:=VA.snoc (a4.alloc _) (b6.alloc _) a3 N (by simpa using Z)
      clear N Z O a3 a4 b6 b1 M S
      go_wp2_with fail
      go_roundg g
      case measure=>omega
      case rel =>
       refine⟨l++y,vs++[.pointer (some ⟨ub,0,none⟩)],r2,by omega,b4.1,b4.2,b9,b8,?_,by simp;omega⟩
       rw[<-J.out,<-yJ,<-ex7_ok HR.out,show argsT (g+1) o a=Tp.ex (g+1) 7 o 0 [] (stp a) by unfold argsT;rw[if_pos E.out]]
   ·have b7:=decide_eq_false m
    rw[if_neg m]at A
    have E:Hid (¬tx a=Tp.mComma):=m
    clear m
    go_wp2_with fail
    go_ret
    rw[<-J.out,show argsT gk o a=.ok ([],a) by unfold argsT;rw[if_neg E.out]]
    exact⟨_,rfl,⟨vs,by simpa using P,H⟩,A,t⟩
theorem args_post {p:Ps}{d:List Tok}{f:Nat}(g:f<=100000)(k:LevelC p d f):ArgsC p d f:=by
 intro w r o b h l c
 unfold argsS at c ⊢
 by_cases a:tx r=Tp.mRp
 ·rw[if_pos a]
  refine(args_none h a).mono ?_
  rintro e w'⟨rfl,i,j⟩
  exact⟨_,rfl,⟨[],by rw[RepL],World.ownsRow_nil _ _ _ _⟩,i,j⟩
 ·rw[if_neg a]at c ⊢
  exact args_some k h l a g c
def NamedC (p:Ps) (ts:List Tok) (f:Nat):Prop:=∀(w:World) (r:List Tok) (o b:Nat),St w p ts r o b->o<=10->Tp.ex f 6 o 0 [] r≠.error (99,0) ->
 Calls Tryz.prog 158 #[.pointer (some ⟨p.pb,0,none⟩)] w fun e w'=>Post p ts o b w (VX w.heap.size) (Tp.ex f 6 o 0 [] r) e w'
def OneC (p:Ps) (ts:List Tok) (f:Nat):Prop:=∀(w:World) (r:List Tok) (o b:Nat),St w p ts r o b->o<=11->Tp.ex f 5 o 0 [] r≠.error (99,0) ->
 Calls Tryz.prog 207 #[.pointer (some ⟨p.pb,0,none⟩)] w fun e w'=>Post p ts o b w (VX w.heap.size) (Tp.ex f 5 o 0 [] r) e w'
theorem one_deep {p:Ps}{f:List Tok}{w:World}{r:List Tok}{o b:Nat}(h:St w p f r o b)(d:10<o) :
  Calls Tryz.prog 207 #[.pointer (some ⟨p.pb,0,none⟩)] w fun e w'=>Thrown w.heap.size (4,at' r) e w'/\Ext p.pb w w':=by
 have c3:=h.c3
 have g:(10:Int)<(o:Int):=by omega
 clear d
 go_enter Tryz.func207,Tryz.ntmps207
 go_wp2_with fail
 clear c3
 refine(zV h 4).mono ?_
 rintro e w2⟨a,c⟩
 obtain⟨i,j,rfl,k,l⟩:=a.out
 go_wp2_with fail
 exact⟨rfl,a,Ext.below c⟩
theorem number_ok {w:World}{p:Ps}{d r c:List Tok}{o b n:Nat}(h:St w p d r o b)(i:Hid (Tp.number Tp.top r=.ok (n,c))) :
  Calls Tryz.prog 103 #[.pointer (some ⟨p.pb,0,none⟩),.int .i64 9223372036854775807] w fun e w'=>e=.returned (.int .i64 (n:Int))/\St w' p d c o b/\Ext p.pb w w':=by
 refine(kA h Tp.top (by unfold Tp.top;omega) zn).mono ?_
 intro e w' a
 rw[i.out]at a
 obtain⟨v,f,rfl,g⟩:=a
 exact⟨f,g⟩
theorem number_er {w:World}{p:Ps}{d r:List Tok}{o b:Nat}{er:Tp.Er}(h:St w p d r o b)(c:Hid (Tp.number Tp.top r=.error er)) :
  Calls Tryz.prog 103 #[.pointer (some ⟨p.pb,0,none⟩),.int .i64 9223372036854775807] w fun e w'=>Thrown w.heap.size er e w'/\Ext p.pb w w':=by
 refine(kA h Tp.top (by unfold Tp.top;omega) zn).mono ?_
 intro e w' a
 rw[c.out]at a
 exact a
theorem one_number {p:Ps}{i:List Tok}{w:World}{r:List Tok}{o b:Nat}(h:St w p i r o b)(v:¬10<o)(u:(hd r).kind=2)(f:Nat) :
  Calls Tryz.prog 207 #[.pointer (some ⟨p.pb,0,none⟩)] w fun e w'=>Post p i o b w (VX w.heap.size) (Tp.ex (f+1) 5 o 0 [] r) e w':=by
 have c3:=h.c3
 have D:=zg c3
 have C:¬(10:Int)<(o:Int):=by omega
 have B:(((hd r).kind:Int)==2)=true:=by simp;omega
 have t:Hid (Tp.ex (f+1) 5 o 0 [] r=(do let (n,q) <- Tp.number Tp.top r;.ok ([⟨1,at' r,n,[],[],[],[],[],[]⟩],q))):=by
  unfold Hid;rw[Tp.ex];simp[v,u]
 clear v u
 rcases hres:Tp.number Tp.top r with er|⟨n,q⟩
 ·have g:Hid (Tp.number Tp.top r=.error er):=hres
  clear hres
  go_enter Tryz.func207,Tryz.ntmps207
  go_wp2_with fail
  clear c3
  refine(zK h).mono ?_
  rintro e a⟨rfl,d⟩
  have c:∀ob,Below a.heap.size a (a.alloc ob).drew:=fun ob=>(zb _ _).drew
  have l:Hid (∀ob,Ext p.pb w (a.alloc ob).drew):=fun ob=>(Ext.below d).trans (Ext.below (c ob))
  have j:Hid (∀ob,St (a.alloc ob).drew p i r o b):=fun ob=>(h.below d).below (c ob)
  clear c
  go_wp2_with fail
  go_region_dies
  all_goals (refine(number_er (j.out _) g).mono ?_;intro e s m;obtain⟨E,F,z,G,H⟩:=m.1.out;subst z;refine⟨rfl,?_⟩;rw[t.out,g.out];exact zt (l.out _) m.1 m.2)
 ·have g:Hid (Tp.number Tp.top r=.ok (n,q)):=hres
  clear hres
  go_enter Tryz.func207,Tryz.ntmps207
  go_wp2_with fail
  clear c3
  refine(zK h).mono ?_
  rintro e a⟨rfl,d⟩
  have c:∀ob,Below a.heap.size a (a.alloc ob).drew:=fun ob=>(zb _ _).drew
  have l:Hid (∀ob,Ext p.pb w (a.alloc ob).drew):=fun ob=>(Ext.below d).trans (Ext.below (c ob))
  have j:Hid (∀ob,St (a.alloc ob).drew p i r o b):=fun ob=>(h.below d).below (c ob)
  have A:=d.size
  clear c
  go_wp2_with fail
  go_region_with (go_at_call 103;refine(number_ok (j.out _) g).mono ?_;rintro e s ⟨rfl,x,k⟩;have I:s.cell? ⟨a.heap.size,1,none⟩=some (.int .i64 ((hd r).pos:Int)):=k.cell (by simp[go_sem]) (by simp;omega))
  all_goals
   have y:=k.size
   simp at y
   go_wp2_with fail
   go_ret
   rw[t.out,g.out]
   exact⟨_,rfl,VX.node (by omega) (zo s _) (Or.inl ⟨rfl,rfl⟩) (Or.inl ⟨rfl,rfl⟩) (Or.inl ⟨rfl,rfl⟩),x.below (zb _ _),((l.out _).trans k).trans (Ext.below (zb _ _))⟩
theorem yf {w:World}{a:Addr}{v:Value}(h:w.cell? a=some v)(ob:Obj):(w.alloc ob).cell? a=some v:=(World.cell?_alloc_lt _ _ _ (World.block_lt_of_cell? _ _ h)).trans h
theorem ex5_un {f o:Nat}{r:List Tok}(b:¬10<o)(a:(hd r).kind≠2)(c:tx r=Tp.mMinus\/tx r=Tp.wNot) :
  Tp.ex (f+1) 5 o 0 [] r=(do let (x,r1) <- Tp.ex f 5 (o+1) 0 [] (stp r);.ok ([⟨4,at' r,0,[],[],tx r,x,[],[]⟩],r1)):=by
 rw[Tp.ex];simp only[show ¬(5<5) by omega,if_false,if_true,b,a,c]
theorem ex5_paren {f o:Nat}{r:List Tok}(b:¬10<o)(a:(hd r).kind≠2)(c:tx r=Tp.mLp) :
  Tp.ex (f+1) 5 o 0 [] r=(do let (x,r1) <- Tp.ex f 0 (o+1) 0 [] (stp r);let r2 <- Tp.want Tp.mRp r1;.ok (x,r2)):=by
 rw[Tp.ex];simp only[show ¬(5<5) by omega,if_false,if_true,b,a,c,show ¬(Tp.mLp=Tp.mMinus\/Tp.mLp=Tp.wNot) by decide]
theorem ex5_named {f o:Nat}{r:List Tok}(e:¬10<o)(d:(hd r).kind≠2)(a:tx r≠Tp.mMinus)(b:tx r≠Tp.wNot)(c:tx r≠Tp.mLp) :
  Tp.ex (f+1) 5 o 0 [] r=Tp.ex f 6 o 0 [] r:=by
 rw[Tp.ex];simp only[show ¬(5<5) by omega,if_false,if_true,e,d,a,b,c,or_self]
theorem kH {w:World}{p:Ps}{c r:List Tok}{o b f:Nat}{er:Tp.Er}(i:Hid (OneC p c f))(h:St w p c r o b)(l:o<=10)(a:Hid (Tp.ex f 5 (o+1) 0 [] r=.error er))(d:Hid (er≠(99,0))) :
  Calls Tryz.prog 190 #[.pointer (some ⟨p.pb,0,none⟩),.func (.func 207) #[.pointer (some ⟨p.pb,0,none⟩)] #[]] w fun e w'=>Thrown w.heap.size er e w'/\Ext p.pb w w':=by
 have j:Tp.ex f 5 (o+1) 0 [] r≠.error (99,0):=by rw[a.out];intro e;exact d.out (by injection e)
 have:=xd h (by omega) _ (fun k g _ _=>i.out k r (o+1) b g (by omega) j)
 rw[a.out]at this
 exact this
theorem kG {w:World}{p:Ps}{d r j:List Tok}{o b f:Nat}{x:List X}(l:Hid (OneC p d f))(h:St w p d r o b)(n:o<=10)(i:Hid (Tp.ex f 5 (o+1) 0 [] r=.ok (x,j))) :
  Calls Tryz.prog 190 #[.pointer (some ⟨p.pb,0,none⟩),.func (.func 207) #[.pointer (some ⟨p.pb,0,none⟩)] #[]] w fun e w'=>∃bb,e=.returned (.pointer (some ⟨bb,0,none⟩))/\VX w.heap.size x (.pointer (some ⟨bb,0,none⟩)) w'/\St w' p d j o b/\Ext p.pb w w':=by
 have c:Tp.ex f 5 (o+1) 0 [] r≠.error (99,0):=by rw[i.out];intro e;cases e
 have:=xd h (by omega) _ (fun m a _ _=>l.out m r (o+1) b a (by omega) c)
 rw[i.out]at this
 refine this.mono ?_
 intro e w' c
 obtain⟨v,a,g,k⟩:=c
 obtain⟨bb,rfl⟩:=g.ptr
 exact⟨bb,a,g,k⟩
theorem one_minus {p:Ps}{c:List Tok}{f:Nat}(H:OneC p c f){w:World}{r:List Tok}{o b:Nat}(h:St w p c r o b)(K:¬10<o)(I:(hd r).kind≠2)(C:tx r=Tp.mMinus)(J:Tp.ex (f+1) 5 o 0 [] r≠.error (99,0)) :
  Calls Tryz.prog 207 #[.pointer (some ⟨p.pb,0,none⟩)] w fun e w'=>Post p c o b w (VX w.heap.size) (Tp.ex (f+1) 5 o 0 [] r) e w':=by
 have Y:=zm
 have c3:=h.c3
 have a0:=zg c3
 have Z:¬(10:Int)<(o:Int):=by omega
 have F:o<=10:=by omega
 have X:(((hd r).kind:Int)==2)=false:=by simp;omega
 have z:Hid (Tp.ex (f+1) 5 o 0 [] r=(do let (x,D) <- Tp.ex f 5 (o+1) 0 [] (stp r);.ok ([⟨4,at' r,0,[],[],tx r,x,[],[]⟩],D))):=ex5_un K I (Or.inl C)
 have G:Hid (OneC p c f):=H
 have t:Hid (tx r=Tp.mMinus):=C
 have U:Hid (Tp.ex (f+1) 5 o 0 [] r≠.error (99,0)):=J
 clear K I C H J
 rcases hres:Tp.ex f 5 (o+1) 0 [] (stp r) with er|⟨x,D⟩
 ·have k:Hid (Tp.ex f 5 (o+1) 0 [] (stp r)=.error er):=hres
  have S:Hid (er≠(99,0)):=by intro e;apply U.out;rw[z.out,k.out,e];rfl
  clear hres
  go_enter Tryz.func207,Tryz.ntmps207
  go_wp2_with fail
  clear c3
  refine(zK h).mono ?_
  rintro e a⟨rfl,d⟩
  have P:=d.size
  have g:∀ob,Below a.heap.size a (a.alloc ob):=fun ob=>zb _ _
  have A:Hid (∀ob,Ext p.pb w (a.alloc ob)):=fun ob=>(Ext.below d).trans (Ext.below (g ob))
  have v:Hid (∀ob,St (a.alloc ob) p c r o b):=fun ob=>(h.below d).below (g ob)
  clear g
  go_wp2_with fail
  refine(zP (v.out _) Tp.mMinus _ rfl).mono ?_
  rintro e w2⟨rfl,m,i⟩
  rw[if_pos t.out]at m
  have N:=decide_eq_true t.out
  have n:w2.cell? ⟨a.heap.size,1,none⟩=some (.int .i64 ((hd r).pos:Int)):=i.cell (by simp[go_sem]) (by simp;omega)
  have E:w2.cell? ⟨a.heap.size,2,none⟩=some (.string (bs (hd r).text)):=i.cell (by simp[go_sem]) (by simp;omega)
  have l:Ext p.pb w w2:=((A.out _).trans i)
  have T:=zg n
  have q:Hid (Ext p.pb w w2.drew):=l.trans (Ext.below (zB _))
  have u:Hid (St w2.drew p c (stp r) o b):=m.below (zB _)
  clear l
  go_wp2_with fail
  go_region_dies
  all_goals (refine(kH G u.out F k S).mono ?_;intro e j B;obtain⟨ab,h1,V,h2,h3⟩:=B.1.out;subst V;refine⟨rfl,?_⟩;rw[z.out,k.out];exact zt q.out B.1 B.2)
 ·have k:Hid (Tp.ex f 5 (o+1) 0 [] (stp r)=.ok (x,D)):=hres
  clear hres
  go_enter Tryz.func207,Tryz.ntmps207
  go_wp2_with fail
  clear c3
  refine(zK h).mono ?_
  rintro e a⟨rfl,d⟩
  have P:=d.size
  have g:∀ob,Below a.heap.size a (a.alloc ob):=fun ob=>zb _ _
  have A:Hid (∀ob,Ext p.pb w (a.alloc ob)):=fun ob=>(Ext.below d).trans (Ext.below (g ob))
  have v:Hid (∀ob,St (a.alloc ob) p c r o b):=fun ob=>(h.below d).below (g ob)
  clear g
  go_wp2_with fail
  refine(zP (v.out _) Tp.mMinus _ rfl).mono ?_
  rintro e w2⟨rfl,m,i⟩
  rw[if_pos t.out]at m
  have N:=decide_eq_true t.out
  have n:w2.cell? ⟨a.heap.size,1,none⟩=some (.int .i64 ((hd r).pos:Int)):=i.cell (by simp[go_sem]) (by simp;omega)
  have E:w2.cell? ⟨a.heap.size,2,none⟩=some (.string (bs (hd r).text)):=i.cell (by simp[go_sem]) (by simp;omega)
  have l:Ext p.pb w w2:=((A.out _).trans i)
  have T:=zg n
  have q:Hid (Ext p.pb w w2.drew):=l.trans (Ext.below (zB _))
  have u:Hid (St w2.drew p c (stp r) o b):=m.below (zB _)
  clear l
  go_wp2_with fail
  go_region_held3 (fun w'=>w'.cell? ⟨a.heap.size,1,none⟩=some (.int .i64 ((hd r).pos:Int))/\w'.cell? ⟨a.heap.size,2,none⟩=some (.string (bs (hd r).text))) (first|(exact⟨n,E⟩)|(exact⟨L,M⟩)|(exact⟨yf L _,yf M _⟩)) ((go_at_call 190;refine(kG G u.out F k).mono ?_;rintro e j ⟨bb,rfl,W,O,s⟩;have L:j.cell? ⟨a.heap.size,1,none⟩=some (.int .i64 ((hd r).pos:Int)):=s.cell (by simpa using n) (by simp;omega);have M:j.cell? ⟨a.heap.size,2,none⟩=some (.string (bs (hd r).text)):=s.cell (by simpa using E) (by simp;omega)))
  all_goals
   have Q:=s.size
   have R:=q.out.size
   simp at Q R
   go_wp2_with fail
   go_ret
   rw[z.out,k.out]
   have y:Below j.heap.size j (j.alloc (.cells (xcells 4 (hd r).pos 0 ⟨#[]⟩ ⟨#[]⟩ (bs (hd r).text) (.pointer (some ⟨bb,0,none⟩)) (.pointer none) (.slice none 0 0)) 216)):=zb _ _
   exact⟨_,rfl,VX.node (by omega) (zo j _) (Or.inr ((VX.ext (b:=p.pb) (Ext.below y) (by simp;omega) W).base (by simp;omega))) (Or.inl ⟨rfl,rfl⟩) (Or.inl ⟨rfl,rfl⟩),O.below y,(q.out.trans s).trans (Ext.below y)⟩
theorem one_not {p:Ps}{i:List Tok}{f:Nat}(M:OneC p i f){w:World}{r:List Tok}{o b:Nat}(h:St w p i r o b)(P:¬10<o)(N:(hd r).kind≠2)(H:tx r=Tp.wNot)(O:Tp.ex (f+1) 5 o 0 [] r≠.error (99,0)) :
  Calls Tryz.prog 207 #[.pointer (some ⟨p.pb,0,none⟩)] w fun e w'=>Post p i o b w (VX w.heap.size) (Tp.ex (f+1) 5 o 0 [] r) e w':=by
 have a1:=zm
 have c3:=h.c3
 have a3:=zg c3
 have a2:¬(10:Int)<(o:Int):=by omega
 have K:o<=10:=by omega
 have a0:(((hd r).kind:Int)==2)=false:=by simp;omega
 have E:Hid (Tp.ex (f+1) 5 o 0 [] r=(do let (x,I) <- Tp.ex f 5 (o+1) 0 [] (stp r);.ok ([⟨4,at' r,0,[],[],tx r,x,[],[]⟩],I))):=ex5_un P N (Or.inr H)
 have L:Hid (OneC p i f):=M
 have g:Hid (tx r=Tp.wNot):=H
 have Y:Hid (Tp.ex (f+1) 5 o 0 [] r≠.error (99,0)):=O
 clear P N H M O
 rcases hres:Tp.ex f 5 (o+1) 0 [] (stp r) with er|⟨x,I⟩
 ·have n:Hid (Tp.ex f 5 (o+1) 0 [] (stp r)=.error er):=hres
  have W:Hid (er≠(99,0)):=by intro e;apply Y.out;rw[E.out,n.out,e];rfl
  clear hres
  go_enter Tryz.func207,Tryz.ntmps207
  go_wp2_with fail
  clear c3
  refine(zK h).mono ?_
  rintro e a⟨rfl,j⟩
  have T:=j.size
  have k:∀ob,Below a.heap.size a (a.alloc ob):=fun ob=>zb _ _
  have F:Hid (∀ob,Ext p.pb w (a.alloc ob)):=fun ob=>(Ext.below j).trans (Ext.below (k ob))
  have B:Hid (∀ob,St (a.alloc ob) p i r o b):=fun ob=>(h.below j).below (k ob)
  clear k
  go_wp2_with fail
  refine(zP (B.out _) Tp.mMinus _ rfl).mono ?_
  rintro e w2⟨rfl,t,d⟩
  rw[if_neg (by rw[g.out];decide)]at t
  have q:decide (tx r=Tp.mMinus)=false:=by rw[g.out];decide
  have D:=d.cell (show (a.alloc (.cells #[.int .i64 ((hd r).kind:Int),.int .i64 ((hd r).pos:Int),.string (bs (hd r).text)] 125)).cell? ⟨a.heap.size,0,none⟩=some (.int .i64 ((hd r).kind:Int)) by simp[go_sem]) (by simp;omega)
  go_wp2_with fail
  clear q D
  refine(zP t Tp.wNot _ rfl).mono ?_
  rintro e c⟨rfl,u,l⟩
  rw[if_pos g.out]at u
  have q:=decide_eq_true g.out
  have v:c.cell? ⟨a.heap.size,1,none⟩=some (.int .i64 ((hd r).pos:Int)):=l.cell (d.cell (by simp[go_sem]) (by simp;omega)) (by simp;omega)
  have J:c.cell? ⟨a.heap.size,2,none⟩=some (.string (bs (hd r).text)):=l.cell (d.cell (by simp[go_sem]) (by simp;omega)) (by simp;omega)
  have s:Ext p.pb w c:=(((F.out _).trans d).trans l)
  have X:=zg v
  have y:Hid (Ext p.pb w c.drew):=s.trans (Ext.below (zB _))
  have A:Hid (St c.drew p i (stp r) o b):=u.below (zB _)
  clear s
  go_wp2_with fail
  go_region_dies
  all_goals (refine(kH L A.out K n W).mono ?_;intro e m G;obtain⟨ab,h1,Z,h2,h3⟩:=G.1.out;subst Z;refine⟨rfl,?_⟩;rw[E.out,n.out];exact zt y.out G.1 G.2)
 ·have n:Hid (Tp.ex f 5 (o+1) 0 [] (stp r)=.ok (x,I)):=hres
  clear hres
  go_enter Tryz.func207,Tryz.ntmps207
  go_wp2_with fail
  clear c3
  refine(zK h).mono ?_
  rintro e a⟨rfl,j⟩
  have T:=j.size
  have k:∀ob,Below a.heap.size a (a.alloc ob):=fun ob=>zb _ _
  have F:Hid (∀ob,Ext p.pb w (a.alloc ob)):=fun ob=>(Ext.below j).trans (Ext.below (k ob))
  have B:Hid (∀ob,St (a.alloc ob) p i r o b):=fun ob=>(h.below j).below (k ob)
  clear k
  go_wp2_with fail
  refine(zP (B.out _) Tp.mMinus _ rfl).mono ?_
  rintro e w2⟨rfl,t,d⟩
  rw[if_neg (by rw[g.out];decide)]at t
  have q:decide (tx r=Tp.mMinus)=false:=by rw[g.out];decide
  have D:=d.cell (show (a.alloc (.cells #[.int .i64 ((hd r).kind:Int),.int .i64 ((hd r).pos:Int),.string (bs (hd r).text)] 125)).cell? ⟨a.heap.size,0,none⟩=some (.int .i64 ((hd r).kind:Int)) by simp[go_sem]) (by simp;omega)
  go_wp2_with fail
  clear q D
  refine(zP t Tp.wNot _ rfl).mono ?_
  rintro e c⟨rfl,u,l⟩
  rw[if_pos g.out]at u
  have q:=decide_eq_true g.out
  have v:c.cell? ⟨a.heap.size,1,none⟩=some (.int .i64 ((hd r).pos:Int)):=l.cell (d.cell (by simp[go_sem]) (by simp;omega)) (by simp;omega)
  have J:c.cell? ⟨a.heap.size,2,none⟩=some (.string (bs (hd r).text)):=l.cell (d.cell (by simp[go_sem]) (by simp;omega)) (by simp;omega)
  have s:Ext p.pb w c:=(((F.out _).trans d).trans l)
  have X:=zg v
  have y:Hid (Ext p.pb w c.drew):=s.trans (Ext.below (zB _))
  have A:Hid (St c.drew p i (stp r) o b):=u.below (zB _)
  clear s
  go_wp2_with fail
  go_region_held3 (fun w'=>w'.cell? ⟨a.heap.size,1,none⟩=some (.int .i64 ((hd r).pos:Int))/\w'.cell? ⟨a.heap.size,2,none⟩=some (.string (bs (hd r).text))) (first|(exact⟨v,J⟩)|(exact⟨Q,R⟩)|(exact⟨yf Q _,yf R _⟩)) ((go_at_call 190;refine(kG L A.out K n).mono ?_;rintro e m ⟨bb,rfl,hv,S,z⟩;have Q:m.cell? ⟨a.heap.size,1,none⟩=some (.int .i64 ((hd r).pos:Int)):=z.cell (by simpa using v) (by simp;omega);have R:m.cell? ⟨a.heap.size,2,none⟩=some (.string (bs (hd r).text)):=z.cell (by simpa using J) (by simp;omega)))
  all_goals
   have U:=z.size
   have V:=y.out.size
   simp at U V
   go_wp2_with fail
   go_ret
   rw[E.out,n.out]
   have C:Below m.heap.size m (m.alloc (.cells (xcells 4 (hd r).pos 0 ⟨#[]⟩ ⟨#[]⟩ (bs (hd r).text) (.pointer (some ⟨bb,0,none⟩)) (.pointer none) (.slice none 0 0)) 216)):=zb _ _
   exact⟨_,rfl,VX.node (by omega) (zo m _) (Or.inr ((VX.ext (b:=p.pb) (Ext.below C) (by simp;omega) hv).base (by simp;omega))) (Or.inl ⟨rfl,rfl⟩) (Or.inl ⟨rfl,rfl⟩),S.below C,(y.out.trans z).trans (Ext.below C)⟩
theorem kf {w:World}{p:Ps}{c r:List Tok}{o b f:Nat}{a:Except Tp.Er (List X×List Tok)}(j:Hid (LevelC p c f))(h:St w p c r o b)(l:o<=10)(d:Hid (Tp.ex f 0 (o+1) 0 [] r=a))(g:Hid (a≠.error (99,0))) :
  Calls Tryz.prog 190 #[.pointer (some ⟨p.pb,0,none⟩),.func (.func 157) #[.pointer (some ⟨p.pb,0,none⟩)] #[]] w fun e w'=>Post p c o b w (VX w.heap.size) a e w':=by
 have k:Tp.ex f 0 (o+1) 0 [] r≠.error (99,0):=by rw[d.out];exact g.out
 have:=ky h (by omega) _ (fun m i _ _=>y6 j.out i (by omega) k)
 rw[d.out]at this
 exact this
theorem one_rest {p:Ps}{j:List Tok}{f:Nat}(hL:LevelC p j f)(hM:NamedC p j f){w:World}{r:List Tok}{o b:Nat}(h:St w p j r o b)(N:¬10<o)(M:(hd r).kind≠2)(t1:tx r≠Tp.mMinus)(t2:tx r≠Tp.wNot)(hn:Tp.ex (f+1) 5 o 0 [] r≠.error (99,0)) :
  Calls Tryz.prog 207 #[.pointer (some ⟨p.pb,0,none⟩)] w fun e w'=>Post p j o b w (VX w.heap.size) (Tp.ex (f+1) 5 o 0 [] r) e w':=by
 have a7:=zm
 have c3:=h.c3
 have a9:=zg c3
 have a8:¬(10:Int)<(o:Int):=by omega
 have L:o<=10:=by omega
 have a6:(((hd r).kind:Int)==2)=false:=by simp;omega
 have F:Hid (tx r=Tp.mLp->Tp.ex (f+1) 5 o 0 [] r=(do let (x,d) <- Tp.ex f 0 (o+1) 0 [] (stp r);let r2 <- Tp.want Tp.mRp d;.ok (x,r2))):=fun a=>ex5_paren N M a
 have G:Hid (tx r≠Tp.mLp->Tp.ex (f+1) 5 o 0 [] r=Tp.ex f 6 o 0 [] r):=fun a=>ex5_named N M t1 t2 a
 have U:Hid (LevelC p j f):=hL
 have HM:Hid (NamedC p j f):=hM
 have V:Hid (Tp.ex (f+1) 5 o 0 [] r≠.error (99,0)):=hn
 have a4:=decide_eq_false t1
 have a5:=decide_eq_false t2
 have T1:Hid (¬tx r=Tp.mMinus):=t1
 have T2:Hid (¬tx r=Tp.wNot):=t2
 clear N M hL hM hn t1 t2
 go_enter Tryz.func207,Tryz.ntmps207
 go_wp2_with fail
 clear c3
 refine(zK h).mono ?_
 rintro e u⟨rfl,J⟩
 have a3:=J.size
 have K:∀ob,Below u.heap.size u (u.alloc ob):=fun ob=>zb _ _
 have HX:Hid (∀ob,Ext p.pb w (u.alloc ob)):=fun ob=>(Ext.below J).trans (Ext.below (K ob))
 have a1:Hid (∀ob,St (u.alloc ob) p j r o b):=fun ob=>(h.below J).below (K ob)
 clear K
 go_wp2_with fail
 refine(zP (a1.out _) Tp.mMinus _ rfl).mono ?_
 rintro e w2⟨rfl,C,O⟩
 rw[if_neg T1.out]at C
 have R:=(HX.out _).trans O
 go_wp2_with fail
 refine(zP C Tp.wNot _ rfl).mono ?_
 rintro e w3⟨rfl,D,P⟩
 rw[if_neg T2.out]at D
 have S:=R.trans P
 clear C O R P
 go_wp2_with fail
 refine(zP D Tp.mLp _ rfl).mono ?_
 rintro e B⟨rfl,n,Q⟩
 have l:=S.trans Q
 clear D Q S
 by_cases g:tx r=Tp.mLp
 ·have a2:=decide_eq_true g
  rw[if_pos g]at n
  have m:Hid (Tp.ex (f+1) 5 o 0 [] r=(do let (x,d) <- Tp.ex f 0 (o+1) 0 [] (stp r);let r2 <- Tp.want Tp.mRp d;.ok (x,r2))):=F.out g
  clear g F G
  rcases k:Tp.ex f 0 (o+1) 0 [] (stp r) with er|⟨x,d⟩
  ·have c:Hid (Tp.ex f 0 (o+1) 0 [] (stp r)=.error er):=k
   have H:Hid ((.error er:Except Tp.Er (List X×List Tok))≠.error (99,0)):=by intro e;apply V.out;rw[m.out,c.out,e];rfl
   clear k
   go_wp2_with fail
   refine(kf U n L c H).mono ?_
   intro e w5 s
   obtain⟨a,i⟩:=s
   obtain⟨W,Y,rfl,Z,h3⟩:=a.out
   go_wp2_with fail
   refine⟨rfl,?_⟩
   rw[m.out,c.out]
   exact zt l a i
  ·have c:Hid (Tp.ex f 0 (o+1) 0 [] (stp r)=.ok (x,d)):=k
   have H:Hid ((.ok (x,d):Except Tp.Er (List X×List Tok))≠.error (99,0)):=by intro e;cases e
   clear k
   go_wp2_with fail
   refine(kf U n L c H).mono ?_
   intro e w5 s
   obtain⟨v,rfl,A,t,i⟩:=s
   obtain⟨bb,rfl⟩:=A.ptr
   have E:=l.size
   have T:=l.trans i
   clear n i l
   go_wp2_with fail
   by_cases q:tx d=Tp.mRp
   ·refine(zF t Tp.mRp _ rfl q).mono ?_
    rintro e w6⟨rfl,a0,z⟩
    have I:Hid (tx d=Tp.mRp):=q
    clear q t
    go_wp2_with fail
    go_ret
    rw[m.out,c.out]
    simp only[bind,Except.bind,Tp.want,if_pos I.out]
    exact⟨_,rfl,(VX.ext z (by omega) A).base E,a0,T.trans z⟩
   ·refine(zM t Tp.mRp _ rfl q).mono ?_
    rintro e w6⟨a,z⟩
    have I:Hid (¬tx d=Tp.mRp):=q
    clear q
    obtain⟨W,Y,rfl,Z,h3⟩:=a.out
    go_wp2_with fail
    refine⟨rfl,?_⟩
    rw[m.out,c.out]
    simp only[bind,Except.bind,Tp.want,if_neg I.out]
    exact zt T a z
 ·have a2:=decide_eq_false g
  rw[if_neg g]at n
  have m:Hid (Tp.ex (f+1) 5 o 0 [] r=Tp.ex f 6 o 0 [] r):=G.out g
  clear g F G
  have y:=HM.out B r o b n L (by rw[<-m.out];exact V.out)
  rw[<-m.out]at y
  generalize k:Tp.ex (f+1) 5 o 0 [] r=res at y
  have HC:Hid (Calls Tryz.prog 158 #[.pointer (some ⟨p.pb,0,none⟩)] B fun e w'=>Post p j o b B (VX B.heap.size) res e w'):=y
  have c:Hid (Tp.ex (f+1) 5 o 0 [] r=res):=k
  clear y k
  go_wp2_with fail
  refine HC.out.mono ?_
  intro e w5 s
  rcases res with er|⟨x,d⟩
  ·obtain⟨a,i⟩:=s
   obtain⟨W,Y,rfl,Z,h3⟩:=a.out
   go_wp2_with fail
   refine⟨rfl,?_⟩
   rw[c.out]
   exact zt l a i
  ·obtain⟨v,rfl,A,t,i⟩:=s
   have E:=l.size
   go_wp2_with fail
   go_ret
   rw[c.out]
   exact⟨_,rfl,A.base E,t,l.trans i⟩
theorem one_post {p:Ps}{c:List Tok}{f:Nat}(j:LevelC p c f)(i:OneC p c f)(k:NamedC p c f):OneC p c (f+1):=by
 intro w r o b h l d
 by_cases hd:10<o
 ·rw[show Tp.ex (f+1) 5 o 0 [] r=.error (4,at' r) by rw[Tp.ex];simp[hd]]
  exact one_deep h hd
 ·by_cases a:(Tp.hd r).kind=2
  ·exact one_number h hd a f
  ·by_cases e:tx r=Tp.mMinus
   ·exact one_minus i h hd a e d
   ·by_cases g:tx r=Tp.wNot
    ·exact one_not i h hd a g d
    ·exact one_rest j k h hd a e g d
end Go.Proofs.YtibncofnnlbmcaaGreatDoor
