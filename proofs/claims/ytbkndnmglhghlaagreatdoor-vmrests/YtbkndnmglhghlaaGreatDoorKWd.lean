import Derived.Test.YtbkndnmglhghlaaGreatDoorKWc
set_option maxRecDepth 100000
set_option maxHeartbeats 4000000

namespace Go.Proofs.YtbkndnmglhghlaaGreatDoor
open Go.RowKit
open Tp (Tok hd tx at' stp X S)
variable {l:List S}{a c e r:List Tok}{x:List X}{B b f:Nat}{p:Ps}{v:Value}{w:World}
theorem VX.inv {bb:Nat}(h:VX B x (.pointer (some ⟨bb,0,none⟩)) w) :
  ∃(code pos n:Nat) (a name op:List UInt8) (left right args:List X) (c:Option Addr) (rv d:Value),x=[⟨code,pos,n,a,name,op,left,right,args⟩]/\B<=bb /\
   w.heap[bb]?=some (.cells (xcells code pos n (bs a) (bs name) (bs op) (.pointer c) rv d) 236 (0,0))/\VP B left (.pointer c) w:=by
 unfold VX at h
 cases x with
 |nil=>rw[RepL]at h;simp at h
 |cons x xs =>
  obtain⟨code,pos,q,a,name,op,left,right,args⟩:=x
  rw[RepL]at h
  obtain⟨b,d,i,rs,s,r,f,m,g,o,p,t,u,v,y,j⟩:=h
  simp only[List.cons.injEq,Value.pointer.injEq,Option.some.injEq,Addr.mk.injEq,and_true]at f
  obtain⟨rfl,rfl⟩:=f
  have l:xs=[]:=List.eq_nil_of_length_eq_zero (by rw[<-RepL.len _ _ j];rfl)
  subst l
  have e:VP B left (i.headD (.pointer none)) w:=⟨i,rfl,o,p⟩
  obtain⟨c,k⟩:=e.ptr
  rw[k]at g e
  exact⟨code,pos,q,a,name,op,left,right,args,c,_,d,rfl,m,g,e⟩
structure Plainly (r:List Tok):Prop where
 a:tx r≠Tp.wReturn
 b:tx r≠Tp.wWrite
 c:tx r≠Tp.wWhile
 d:tx r≠Tp.wIf
theorem VX.d {D:Nat->Prop}{l:List X}(h:VX B l v w)(e:∀i,B<=i->D i):VPd D l v w:=⟨[v],rfl,RepL.mono (fun i a _=>⟨rfl,e i a⟩) _ _ _ zn h,by simp⟩
theorem blk_set7 {j c1 c2 k l m n:Value}{t:TypeId}(h:w.heap[b]?=some (.cells #[j,c1,c2,k,l,m,n] t (0,0)))(a c d e f g i:Value) :
  (((((((w.setCell ⟨b,0,none⟩ a).setCell ⟨b,1,none⟩ c).setCell ⟨b,2,none⟩ d).setCell ⟨b,3,none⟩ e).setCell ⟨b,4,none⟩ f).setCell ⟨b,5,none⟩ g).setCell ⟨b,6,none⟩ i).heap[b]?=some (.cells #[a,c,d,e,f,g,i] t (0,0)) :=
 by simpa using zy 6 i (zy 5 g (zy 4 f (zy 3 e (zy 2 d (zy 1 c (zy 0 a h))))))
theorem sx2_bad {e:Tp.Er}(k:Plainly r)(h:Tp.ex f 6 0 0 [] r=.error e):Tp.sx (f+1) 2 b r=.error e:=by
 rw[Tp.sx];simp only[show ¬(2=0) by omega,show ¬(2=1) by omega,if_false,if_true,k.a,k.b,k.c,k.d,or_self,h,bind,Except.bind]
theorem sx2_call (k:Plainly r)(h:Tp.ex f 6 0 0 [] r=.ok (x,e))(g:Tp.codeOf x=6) :
  Tp.sx (f+1) 2 b r=(do let r2 <- Tp.want Tp.mSemi e;.ok ([⟨6,at' r,[],[],x,[],[]⟩],r2)):=by
 rw[Tp.sx];simp only[show ¬(2=0) by omega,show ¬(2=1) by omega,if_false,if_true,k.a,k.b,k.c,k.d,or_self,h,g,bind,Except.bind]
theorem sx2_far (k:Plainly r)(h:Tp.ex f 6 0 0 [] r=.ok (x,e))(g:Tp.codeOf x≠6)(i:Tp.modOf x≠[]) :
  Tp.sx (f+1) 2 b r=.error (3,at' e):=by
 rw[Tp.sx];simp only[show ¬(2=0) by omega,show ¬(2=1) by omega,if_false,if_true,k.a,k.b,k.c,k.d,or_self,h,g,i,bind,Except.bind]
theorem sx2_set (k:Plainly r)(h:Tp.ex f 6 0 0 [] r=.ok (x,e))(g:Tp.codeOf x≠6)(i:Tp.modOf x=[]) :
  Tp.sx (f+1) 2 b r=(do let r2 <- Tp.want Tp.mSet e;let (y,r3) <- Tp.ex f 0 0 0 [] r2;let r4 <- Tp.want Tp.mSemi r3;.ok ([⟨1,at' r,Tp.nameOf x,Tp.leftOf x,y,[],[]⟩],r4)):=by
 rw[Tp.sx];simp only[show ¬(2=0) by omega,show ¬(2=1) by omega,if_false,if_true,k.a,k.b,k.c,k.d,or_self,h,g,i,bind,Except.bind]
theorem expr_er {d:List Tok}(i:Hid (LevelC p d f)){w:World}{r:List Tok}{o b:Nat}{a:Tp.Er}(h:St w p d r o b)(j:o<=11)(c:Hid (Tp.ex f 0 o 0 [] r=.error a))(g:Hid (a≠(99,0))) :
  Calls Tryz.prog 180 #[.pointer (some ⟨p.pb,0,none⟩)] w fun e w'=>Thrown w.heap.size a e w'/\Ext p.pb w w':=by
 have:=yG i.out h j (by rw[c.out];intro e;exact g.out (by injection e))
 rw[c.out]at this
 exact this
theorem expr_ok (k:Hid (LevelC p a f)){w:World}{r g:List Tok}{o b:Nat}{x:List X}(h:St w p a r o b)(l:o<=11)(d:Hid (Tp.ex f 0 o 0 [] r=.ok (x,g))) :
  Calls Tryz.prog 180 #[.pointer (some ⟨p.pb,0,none⟩)] w fun e w'=>∃bb,e=.returned (.pointer (some ⟨bb,0,none⟩))/\VX w.heap.size x (.pointer (some ⟨bb,0,none⟩)) w'/\St w' p a g o b/\Ext p.pb w w':=by
 have:=yG k.out h l (by rw[d.out];intro e;cases e)
 rw[d.out]at this
 refine this.mono ?_
 intro e w' m
 obtain⟨v,i,c,j⟩:=m
 obtain⟨bb,rfl⟩:=c.ptr
 exact⟨bb,i,c,j⟩
theorem jL {z:List Tok}(hL:LevelC p z f)(hM:NamedC p z f){w:World}{r:List Tok}{b:Nat}(h:St w p z r 0 b)(hk:Plainly r)(hn:Tp.sx (f+1) 2 b r≠.error (99,0)) :
  Calls Tryz.prog 163 #[.pointer (some ⟨p.pb,0,none⟩)] w fun e w'=>Post p z 0 b w (VS w.heap.size) (Tp.sx (f+1) 2 b r) e w':=by
 have f5:=zg h.c0
 have e1:Tp.ex f 6 0 0 [] r≠.error (99,0):=fun e=>hn (sx2_bad hk e)
 have b2:=fun W (hW:St W p z r 0 b)=>hM W r 0 b hW (by omega) e1
 have HN:Hid (Tp.sx (f+1) 2 b r≠.error (99,0)):=hn
 have HL:Hid (LevelC p z f):=hL
 have HK:Hid (Plainly r):=hk
 generalize d5:Tp.ex f 6 0 0 [] r=res at b2
 have HR:Hid (Tp.ex f 6 0 0 [] r=res):=d5
 have HC:Hid (∀W,St W p z r 0 b->Calls Tryz.prog 181 #[.pointer (some ⟨p.pb,0,none⟩)] W fun e w'=>Post p z 0 b W (VX W.heap.size) res e w'):=b2
 clear b2 hn e1 hL hM hk d5
 go_enter Tryz.func163,Tryz.ntmps163
 go_wp2_with fail
 have b0:∀s,Below w.heap.size w (w.alloc s):=fun s=>zb _ _
 refine(zK (h.below (b0 _))).mono ?_
 rintro e w1⟨rfl,a8⟩
 have d6:=(h.below (b0 _)).below a8
 have b8:w1.heap[w.heap.size]?=some (.cells (scells 0 0 ⟨#[]⟩ (.pointer none) (.pointer none) (.slice none 0 0) (.slice none 0 0)) 216 (0,0)):=(a8.block _ (by simp)).trans (zl _ _)
 have b3:Ext p.pb w w1:=(Ext.below (b0 _)).trans (Ext.below a8)
 have c4:=zc b8
 clear b0 a8
 go_wp2_with fail
 refine(HC.out _ d6).mono ?_
 intro e w2 F
 rcases res with er|⟨x,g⟩
 ·obtain⟨m,a3⟩:=F
  obtain⟨V,X,rfl,Y,Z⟩:=m.out
  go_wp2_with fail
  refine⟨rfl,?_⟩
  rw[sx2_bad HK.out HR.out]
  exact zw b3 m a3
 ·obtain⟨v,rfl,L,P,a3⟩:=F
  obtain⟨bb,rfl⟩:=L.ptr
  obtain⟨code,pos,n,a4,name,op,left,right,args,o,rv,av,J,f1,R,d1⟩:=L.inv
  have O:=(a3.block w.heap.size c4 (by omega)).trans b8
  have N:=b3.trans a3
  obtain⟨a,e2⟩:∃a,a=w.heap.size:=⟨_,rfl⟩
  rw[<-e2]at O c4 ⊢
  have c9:VX (a+1) x (.pointer (some ⟨bb,0,none⟩)) w2:=L.base (by omega)
  have b6:VP (a+1) left (.pointer o) w2:=d1.base (by omega)
  have f6:p.pb<a:=by omega
  have e3:w.heap.size<=a:=by omega
  have f4:a<bb:=by omega
  clear L d1 a3 b3 b8 d6 c4 e2 f1
  have k0:w2.cell? ⟨bb,0,none⟩=some (.int .i64 (code:Int)):=za R
  have k3:w2.cell? ⟨bb,3,none⟩=some (.string (bs a4)):=za R
  by_cases a1:code=6
  ·have c7:((code:Int)==6)=true:=by simp;omega
   have A:Hid (Tp.sx (f+1) 2 b r=(do let r2 <- Tp.want Tp.mSemi g;.ok ([⟨6,at' r,[],[],x,[],[]⟩],r2))):=sx2_call HK.out HR.out (by rw[J];exact a1)
   clear a1 J
   go_wp2_with fail
   clear k0 k3
   by_cases u:tx g=Tp.mSemi
   ·refine(zF P Tp.mSemi _ rfl u).mono ?_
    rintro e c⟨rfl,S,l⟩
    have B:Hid (Tp.want Tp.mSemi g=.ok (stp g)):=by unfold Hid Tp.want;rw[if_pos u]
    have H:=(l.block a (zc O) (by omega)).trans O
    have f2:=VX.ext l (by omega) c9
    have Q:=N.trans l
    clear u P l O c9 b6 N R
    have kr:∀i,c.cell? ⟨a,i,none⟩=(scells 0 0 ⟨#[]⟩ (.pointer none) (.pointer none) (.slice none 0 0) (.slice none 0 0))[i]?:=fun i=>za H
    have zr:∀i,c.frozen? ⟨a,i,none⟩=false:=fun i=>zi H
    simp only[scells]at kr
    go_wp2_with fail
    refine bodyPost_ret (v:=.agg (scells (6:Nat) (at' r) (bs []) (.pointer none) (.pointer (some ⟨bb,0,none⟩)) (.slice none 0 0) (.slice none 0 0))) (by simp[results,Tryz.results163,go_sem,kr,scells,bs,at']) rfl ?_
    rw[A.out]
    simp only[bind,Except.bind,B.out]
    refine⟨_,rfl,VS.node (Or.inl ⟨rfl,rfl⟩) (Or.inr ?_) (Or.inl ⟨rfl,rfl⟩) (Or.inl ⟨rfl,rfl⟩),?_,?_⟩
    ·exact VX.base (VX.ext (b:=a) (yt c a _ _ _ _ _ _ _) (by omega) f2) (by omega)
    ·exact S.belowB (zM c a _ _ _ _ _ _ _) (by omega)
    ·exact Q.trans' ((zM c a _ _ _ _ _ _ _).mono e3)
   ·refine(zN P Tp.mSemi _ rfl u).mono ?_
    rintro e c⟨m,l⟩
    have B:Hid (Tp.want Tp.mSemi g=.error (3,at' g)):=by unfold Hid Tp.want;rw[if_neg u]
    clear u
    obtain⟨V,X,rfl,Y,Z⟩:=m.out
    go_wp2_with fail
    refine⟨rfl,?_⟩
    rw[A.out]
    simp only[bind,Except.bind,B.out]
    exact zw N m l
  ·have c7:((code:Int)==6)=false:=by simp;omega
   have b1:Tp.codeOf x≠6:=by rw[J];exact a1
   by_cases T:a4=[]
   ·have c8:(!(bs a4).toList.isEmpty)=false:=by rw[zk,T];rfl
    have A:Hid (Tp.sx (f+1) 2 b r=(do let r2 <- Tp.want Tp.mSet g;let (y,G) <- Tp.ex f 0 0 0 [] r2;let r4 <- Tp.want Tp.mSemi G;.ok ([⟨1,at' r,name,left,y,[],[]⟩],r4))):=by
     have q:=sx2_set (b:=b) HK.out HR.out b1 (by rw[J];exact T)
     rw[J]at q
     exact q
    clear a1 b1 J T
    go_wp2_with fail
    clear k0 k3 c8 c7
    by_cases u:tx g=Tp.mSet
    ·refine(zF P Tp.mSet _ rfl u).mono ?_
     rintro e c⟨rfl,S,l⟩
     have B:Hid (Tp.want Tp.mSet g=.ok (stp g)):=by unfold Hid Tp.want;rw[if_pos u]
     have H:=(l.block a (zc O) (by omega)).trans O
     have a5:=(l.block bb (zc R) (by omega)).trans R
     have b7:=b6.ext l (by omega)
     have Q:=N.trans l
     clear u P l O c9 b6 N R
     have y1:c.cell? ⟨bb,4,none⟩=some (.string (bs name)):=za a5
     have y2:c.cell? ⟨bb,6,none⟩=some (.pointer o):=za a5
     have c6:Hid (St c.drew p z (stp g) 0 b):=S.below (zt _)
     have b5:Hid (Ext p.pb w c.drew):=Q.trans (Ext.below (zt _))
     have d2:=zc a5
     rcases hres2:Tp.ex f 0 0 0 [] (stp g) with er|⟨y,G⟩
     ·have E:Hid (Tp.ex f 0 0 0 [] (stp g)=.error er):=hres2
      have d7:Hid (er≠(99,0)):=by intro e;apply HN.out;rw[A.out];simp only[bind,Except.bind,B.out,E.out,e]
      clear hres2
      have a6:Hid (∀s,St (c.alloc s).drew p z (stp g) 0 b):=fun s=>S.below (zb _ _).drew
      have a7:Hid (∀s,Ext p.pb w (c.alloc s).drew):=fun s=>Q.trans (Ext.below (zb _ _).drew)
      go_wp2_with fail
      go_region_dies
      all_goals first
       | (refine(expr_er HL c6.out (by omega) E d7).mono ?_;intro e j F;obtain⟨V,X,h0,Y,Z⟩:=F.1.out;subst h0;refine⟨rfl,?_⟩;rw[A.out];simp only[bind,Except.bind,B.out,E.out];exact zw b5.out F.1 F.2)
       | (refine(expr_er HL (a6.out _) (by omega) E d7).mono ?_;intro e j F;obtain⟨V,X,h0,Y,Z⟩:=F.1.out;subst h0;refine⟨rfl,?_⟩;rw[A.out];simp only[bind,Except.bind,B.out,E.out];exact zw (a7.out _) F.1 F.2)
     ·have E:Hid (Tp.ex f 0 0 0 [] (stp g)=.ok (y,G)):=hres2
      have a6:Hid (∀s,St (c.alloc s).drew p z (stp g) 0 b):=fun s=>S.below (zb _ _).drew
      have a7:Hid (∀s,Ext p.pb w (c.alloc s).drew):=fun s=>Q.trans (Ext.below (zb _ _).drew)
      clear hres2
      go_upto_region 9 with fail
      go_cut [5] (fun s5 wc=>∃(M t:Nat),s5=.pointer (some ⟨M,0,none⟩)/\a<M/\St wc p z G 0 b/\Ext p.pb w wc /\
       wc.heap[a]?=some (.cells (scells 0 0 ⟨#[]⟩ (.pointer none) (.pointer none) (.slice none 0 0) (.slice none 0 0)) 216 (0,0)) /\
       wc.heap[M]?=some (.cells (scells 1 (at' r) (bs name) (.pointer o) (.pointer (some ⟨t,0,none⟩)) (.slice none 0 0) (.slice none 0 0)) 216 (0,0)) /\
       VPd (fun i=>a+1<=i/\i≠M) left (.pointer o) wc/\VPd (fun i=>a+1<=i/\i≠M) y (.pointer (some ⟨t,0,none⟩)) wc)
      case first =>
       go_region_held3 (fun w'=>w'.cell? ⟨bb,4,none⟩=some (.string (bs name))/\w'.cell? ⟨bb,6,none⟩=some (.pointer o)) (first|(constructor<;>simp[z1,z2,d3,go_sem])|(constructor<;>simp[y1,y2,d2,go_sem])) ((go_at_call 180;first|(refine(expr_ok HL c6.out (by omega) E).mono ?_;rintro e j ⟨t,rfl,L,c2,k⟩;have z1:j.cell? ⟨bb,4,none⟩=some (.string (bs name)):=k.cell (by simpa using y1) (by simp;omega);have z2:j.cell? ⟨bb,6,none⟩=some (.pointer o):=k.cell (by simpa using y2) (by simp;omega);have d3:=zg z1)|(refine(expr_ok HL (a6.out _) (by omega) E).mono ?_;rintro e j ⟨t,rfl,L,c2,k⟩;have z1:j.cell? ⟨bb,4,none⟩=some (.string (bs name)):=k.cell (zX y1 _) (by simp;omega);have z2:j.cell? ⟨bb,6,none⟩=some (.pointer o):=k.cell (zX y2 _) (by simp;omega);have d3:=zg z1;have d0:j.heap[c.heap.size]?=some (.cells #[.int .i64 0,.int .i64 0,.string ⟨#[]⟩,.pointer none,.pointer none,.slice none 0 0,.slice none 0 0] 216 (0,0)):=(k.block _ (by simp) (by omega)).trans (zl _ _);have kz:∀i,j.cell? ⟨c.heap.size,i,none⟩=(#[.int .i64 0,.int .i64 0,.string ⟨#[]⟩,.pointer none,.pointer none,.slice none 0 0,.slice none 0 0]:Array Value)[i]?:=fun i=>za d0;have zz:∀i,j.frozen? ⟨c.heap.size,i,none⟩=false:=fun i=>zi d0)))
       ·go_wp2_with fail
        go_meet
        case rel =>
         have c5:=k.size
         have c5:c.heap.size<=j.heap.size:=k.size
         have a2:=zc H
         have a0:Below j.heap.size j (j.alloc (.cells #[.int .i64 1,.int .i64 ((hd r).pos:Int),.string (bs name),.pointer o,.pointer (some ⟨t,0,none⟩),.slice none 0 0,.slice none 0 0] 216)):=zb _ _
         refine⟨j.heap.size,t,rfl,by omega,c2.below a0,(b5.out.trans k).trans (Ext.below a0),(a0.block a (by omega)).trans ((k.block a a2 (by omega)).trans H),zl _ _,?_,?_⟩
         ·exact VPd.mono (w:=c) (D:=fun i=>a+1<=i) (fun i C K=>⟨(a0.block i (by omega)).trans (k.block i K (by omega)),C,by omega⟩) (b7.d rfl)
         ·refine VPd.mono (D:=fun i=>c.heap.size<=i) (fun i C K=>⟨a0.block i K,by omega,by omega⟩) (VX.d L (fun i C=>C))
       ·go_wp2_with fail
        go_meet
        case rel =>
         have c5:=k.size
         simp at c5
         have a2:=zc H
         have f3:=yt j c.heap.size (.int .i64 1) (.int .i64 ((hd r).pos:Int)) (.string (bs name)) (.pointer o) (.pointer (some ⟨t,0,none⟩)) (.slice none 0 0) (.slice none 0 0)
         have a9:=zM j c.heap.size (.int .i64 1) (.int .i64 ((hd r).pos:Int)) (.string (bs name)) (.pointer o) (.pointer (some ⟨t,0,none⟩)) (.slice none 0 0) (.slice none 0 0)
         refine⟨c.heap.size,t,rfl,a2,c2.belowB a9 (by omega),((a7.out _).trans k).trans' (a9.mono (by omega)),(a9.block a a2).trans ((k.block a (by simp;omega) (by omega)).trans ((Below.heap_alloc c _ a a2).trans H)),blk_set7 d0 _ _ _ _ _ _ _,?_,?_⟩
         ·exact VPd.mono (w:=c) (D:=fun i=>a+1<=i) (fun i C K=>⟨(a9.block i K).trans ((k.block i (by simp;omega) (by omega)).trans (Below.heap_alloc c _ i K)),C,by omega⟩) (b7.d rfl)
         ·exact VPd.mono (D:=fun i=>c.heap.size+1<=i) (fun i C K=>⟨f3.block i K (by omega),by omega,by omega⟩) (VX.d L (fun i C=>by simpa using C))
      case rest =>
       obtain⟨M,t,rfl,f7,c3,b4,b9,c1,d9,e0⟩:=hcut
       clear y1 y2 S Q H a5 b7 c6 b5 a6 a7 d2
       go_wp2_with fail
       by_cases U:tx G=Tp.mSemi
       ·refine(zF c3 Tp.mSemi _ rfl U).mono ?_
        rintro e w6⟨rfl,e9,I⟩
        have HM:Hid (Tp.want Tp.mSemi G=.ok (stp G)):=by unfold Hid Tp.want;rw[if_pos U]
        have e8:=(I.block M (zc c1) (by omega)).trans c1
        have d4:=(I.block a (zc b9) (by omega)).trans b9
        have e5:=b4.trans I
        have e6:=d9.ext I (by omega)
        have e7:=e0.ext I (by omega)
        clear U c3 I c1 b9 b4 d9 e0
        have ks:∀i,w6.cell? ⟨M,i,none⟩=(scells 1 (at' r) (bs name) (.pointer o) (.pointer (some ⟨t,0,none⟩)) (.slice none 0 0) (.slice none 0 0))[i]?:=fun i=>za e8
        have kr:∀i,w6.cell? ⟨a,i,none⟩=(scells 0 0 ⟨#[]⟩ (.pointer none) (.pointer none) (.slice none 0 0) (.slice none 0 0))[i]?:=fun i=>za d4
        have zr:∀i,w6.frozen? ⟨a,i,none⟩=false:=fun i=>zi d4
        simp only[scells]at ks kr
        go_wp2_with fail
        refine bodyPost_ret (v:=.agg (scells (1:Nat) (at' r) (bs name) (.pointer o) (.pointer (some ⟨t,0,none⟩)) (.slice none 0 0) (.slice none 0 0))) (by simp[results,Tryz.results163,go_sem,kr,scells]) rfl ?_
        rw[A.out]
        simp only[bind,Except.bind,B.out,E.out,HM.out]
        have e4:=yt w6 a (.int .i64 1) (.int .i64 (at' r:Int)) (.string (bs name)) (.pointer o) (.pointer (some ⟨t,0,none⟩)) (.slice none 0 0) (.slice none 0 0)
        have d8:=zM w6 a (.int .i64 1) (.int .i64 (at' r:Int)) (.string (bs name)) (.pointer o) (.pointer (some ⟨t,0,none⟩)) (.slice none 0 0) (.slice none 0 0)
        refine⟨_,rfl,VS.mk' ?_ ?_ (VO.nil _ _) (VO.nil _ _),?_,?_⟩
        ·exact(e6.ext e4 (by omega)).p (fun i C=>by omega)
        ·exact(e7.ext e4 (by omega)).p (fun i C=>by omega)
        ·exact e9.belowB d8 (by omega)
        ·exact e5.trans' (d8.mono e3)
       ·refine(zN c3 Tp.mSemi _ rfl U).mono ?_
        rintro e w6⟨m,I⟩
        have HM:Hid (Tp.want Tp.mSemi G=.error (3,at' G)):=by unfold Hid Tp.want;rw[if_neg U]
        clear U
        obtain⟨V,X,rfl,Y,Z⟩:=m.out
        go_wp2_with fail
        refine⟨rfl,?_⟩
        rw[A.out]
        simp only[bind,Except.bind,B.out,E.out,HM.out]
        exact zw b4 m I
    ·refine(zN P Tp.mSet _ rfl u).mono ?_
     rintro e c⟨m,l⟩
     have B:Hid (Tp.want Tp.mSet g=.error (3,at' g)):=by unfold Hid Tp.want;rw[if_neg u]
     clear u
     obtain⟨V,X,rfl,Y,Z⟩:=m.out
     go_wp2_with fail
     refine⟨rfl,?_⟩
     rw[A.out]
     simp only[bind,Except.bind,B.out]
     exact zw N m l
   ·have c8:(!(bs a4).toList.isEmpty)=true:=by rw[zk];cases a4 with|nil=>exact absurd rfl T|cons _ _=>rfl
    have A:Hid (Tp.sx (f+1) 2 b r=.error (3,at' g)):=sx2_far HK.out HR.out b1 (by rw[J];exact T)
    clear a1 b1 J T
    go_wp2_with fail
    clear k0 k3 c8 c7
    refine(zY P 3).mono ?_
    rintro e c⟨m,f0⟩
    obtain⟨V,X,rfl,Y,Z⟩:=m.out
    go_wp2_with fail
    refine⟨rfl,?_⟩
    rw[A.out]
    exact zw N m (Ext.below f0)
def closedS (r:List Tok):Except Tp.Er (Unit×List Tok):=do let r2 <- Tp.want Tp.wEnd r;let r3 <- Tp.want Tp.mSemi r2;.ok ((),r3)
theorem jQ (h:tx r=Tp.wReturn):Tp.sx (f+1) 2 b r=(do let (x,r1) <- Tp.ex f 0 0 0 [] (stp r);let r2 <- Tp.want Tp.mSemi r1;.ok ([⟨4,at' r,[],[],x,[],[]⟩],r2)):=by
 rw[Tp.sx];simp only[show ¬(2=0) by omega,show ¬(2=1) by omega,if_false,if_true,h,true_or]
theorem xY (h:tx r=Tp.wWrite):Tp.sx (f+1) 2 b r=(do let (x,r1) <- Tp.ex f 0 0 0 [] (stp r);let r2 <- Tp.want Tp.mSemi r1;.ok ([⟨5,at' r,[],[],x,[],[]⟩],r2)):=by
 rw[Tp.sx];simp only[show ¬(2=0) by omega,show ¬(2=1) by omega,if_false,if_true,h,or_true,show ¬(Tp.wWrite=Tp.wReturn) by decide]
theorem xZ (h:tx r=Tp.wWhile):Tp.sx (f+1) 2 b r=(do let (s,r3) <- blockS f 3 b Tp.wDo r;let (_,r5) <- closedS r3;.ok (s,r5)):=by
 rw[Tp.sx];simp only[show ¬(2=0) by omega,show ¬(2=1) by omega,if_false,if_true,h,show ¬(Tp.wWhile=Tp.wReturn\/Tp.wWhile=Tp.wWrite) by decide]
 unfold blockS closedS
 simp only[bind,Except.bind]
 cases Tp.ex f 0 0 0 [] (stp r) with
 |error e=>rfl
 |ok v =>
  simp only
  cases Tp.want Tp.wDo v.2 with
  |error e=>rfl
  |ok r2 =>
   simp only
   cases Tp.sx f 0 (b+1) r2 with
   |error e=>rfl
   |ok u =>
    simp only
    cases Tp.want Tp.wEnd u.2 with
    |error e=>rfl
    |ok r4 =>
     simp only
     cases Tp.want Tp.mSemi r4<;>rfl
theorem sx2_if (h:tx r=Tp.wIf):Tp.sx (f+1) 2 b r=(do let (s,r3) <- Tp.sx f 3 b r;let (_,r5) <- closedS r3;.ok (s,r5)):=by
 rw[Tp.sx];simp only[show ¬(2=0) by omega,show ¬(2=1) by omega,if_false,if_true,h,show ¬(Tp.wIf=Tp.wReturn\/Tp.wIf=Tp.wWrite) by decide,show ¬(Tp.wIf=Tp.wWhile) by decide]
 unfold closedS
 simp only[bind,Except.bind]
 cases Tp.sx f 3 b r with
 |error e=>rfl
 |ok v =>
  simp only
  cases Tp.want Tp.wEnd v.2 with
  |error e=>rfl
  |ok r4 =>
   simp only
   cases Tp.want Tp.mSemi r4<;>rfl
theorem vY (G:LevelC p c f){w:World}{r:List Tok}{b:Nat}(h:St w p c r 0 b)(x:tx r=Tp.wReturn)(H:Tp.sx (f+1) 2 b r≠.error (99,0)) :
  Calls Tryz.prog 132 #[.pointer (some ⟨p.pb,0,none⟩)] w fun e w'=>Post p c 0 b w (VS w.heap.size) (Tp.sx (f+1) 2 b r) e w':=by
 have D:Tp.ex f 0 0 0 [] (stp r)≠.error (99,0):=by intro e;apply H;rw[jQ x,e];rfl
 have d:=fun W (V:St W p c r 0 b)=>jn G V 4 D
 rw[<-jQ (b:=b) x]at d
 generalize A:Tp.sx (f+1) 2 b r=res at d
 have HR:Hid (Tp.sx (f+1) 2 b r=res):=A
 have U:Hid (∀W,St W p c r 0 b->Calls Tryz.prog 159 #[.pointer (some ⟨p.pb,0,none⟩),.int .i64 4] W fun e w'=>Post p c 0 b W (VS W.heap.size) res e w'):=d
 clear d H D G A
 have Y:=zg h.c0
 have Q:=zk (hd r).text
 have M:((hd r).text==[114,101,116,117,114,110])=true:=by rw[beq_iff_eq];exact x
 go_enter Tryz.func132,Tryz.ntmps132
 go_wp2_with fail
 have j:∀K,Below w.heap.size w (w.alloc K):=fun K=>zb _ _
 refine(zK (h.below (j _))).mono ?_
 rintro e L⟨rfl,g⟩
 have O:=(h.below (j _)).below g
 have u:L.heap[w.heap.size]?=some (.cells (scells 0 0 ⟨#[]⟩ (.pointer none) (.pointer none) (.slice none 0 0) (.slice none 0 0)) 216 (0,0)):=(g.block _ (by simp)).trans (zl _ _)
 have y:Ext p.pb w L:=(Ext.below (j _)).trans (Ext.below g)
 have B:=zc u
 clear j g
 go_wp2_with fail
 clear Q M
 refine(U.out _ O).mono ?_
 intro e t I
 rcases res with er|⟨s,r3⟩
 ·obtain⟨F,k⟩:=I
  obtain⟨ab,h1,rfl,h2,h3⟩:=F.out
  go_wp2_with fail
  exact⟨rfl,zw y F k⟩
 ·obtain⟨v,rfl,X,P,k⟩:=I
  obtain⟨a,E⟩:∃a,a=w.heap.size:=⟨_,rfl⟩
  rw[<-E]at u B ⊢
  have a0:w.heap.size<=a:=by omega
  have Z:p.pb<a:=by omega
  clear E
  have z:=(k.block a B (by omega)).trans u
  have N:=y.trans k
  obtain⟨n,q,o,l,m,ta,ea,tn,tc,en,ec,S,R⟩:=X
  subst S
  have J:∀i,t.cell? ⟨a,i,none⟩=(scells 0 0 ⟨#[]⟩ (.pointer none) (.pointer none) (.slice none 0 0) (.slice none 0 0))[i]?:=fun i=>za z
  have zr:∀i,t.frozen? ⟨a,i,none⟩=false:=fun i=>zi z
  simp only[scells]at J
  simp only[scells]
  go_wp2_with fail
  refine bodyPost_ret (v:=.agg (scells n q (bs o) (.pointer l) (.pointer m) (.slice ta tn tc) (.slice ea en ec))) (by simp[results,Tryz.results132,go_sem,J,scells]) rfl ?_
  have T:=yt t a (.int .i64 (n:Int)) (.int .i64 (q:Int)) (.string (bs o)) (.pointer l) (.pointer m) (.slice ta tn tc) (.slice ea en ec)
  have C:=zM t a (.int .i64 (n:Int)) (.int .i64 (q:Int)) (.string (bs o)) (.pointer l) (.pointer m) (.slice ta tn tc) (.slice ea en ec)
  exact⟨_,rfl,VS.base (VS.ext T (by omega) ⟨n,q,o,l,m,ta,ea,tn,tc,en,ec,rfl,R⟩) (by omega),P.belowB C (by omega),N.trans' (C.mono (by omega))⟩
theorem stmt_write (G:LevelC p c f){w:World}{r:List Tok}{b:Nat}(h:St w p c r 0 b)(l:tx r=Tp.wWrite)(H:Tp.sx (f+1) 2 b r≠.error (99,0)) :
  Calls Tryz.prog 132 #[.pointer (some ⟨p.pb,0,none⟩)] w fun e w'=>Post p c 0 b w (VS w.heap.size) (Tp.sx (f+1) 2 b r) e w':=by
 have D:Tp.ex f 0 0 0 [] (stp r)≠.error (99,0):=by intro e;apply H;rw[xY l,e];rfl
 have d:=fun W (X:St W p c r 0 b)=>jn G X 5 D
 rw[<-xY (b:=b) l]at d
 generalize A:Tp.sx (f+1) 2 b r=res at d
 have HR:Hid (Tp.sx (f+1) 2 b r=res):=A
 have V:Hid (∀W,St W p c r 0 b->Calls Tryz.prog 159 #[.pointer (some ⟨p.pb,0,none⟩),.int .i64 5] W fun e w'=>Post p c 0 b W (VS W.heap.size) res e w'):=d
 clear d H D G A
 have Z:=zg h.c0
 have R:=zk (hd r).text
 have M:((hd r).text==[114,101,116,117,114,110])=false:=by rw[beq_eq_false_iff_ne];have:=l;unfold tx at this;rw[this];decide
 have N:((hd r).text==[119,114,105,116,101])=true:=by rw[beq_iff_eq];exact l
 go_enter Tryz.func132,Tryz.ntmps132
 go_wp2_with fail
 have j:∀K,Below w.heap.size w (w.alloc K):=fun K=>zb _ _
 refine(zK (h.below (j _))).mono ?_
 rintro e L⟨rfl,g⟩
 have P:=(h.below (j _)).below g
 have x:L.heap[w.heap.size]?=some (.cells (scells 0 0 ⟨#[]⟩ (.pointer none) (.pointer none) (.slice none 0 0) (.slice none 0 0)) 216 (0,0)):=(g.block _ (by simp)).trans (zl _ _)
 have y:Ext p.pb w L:=(Ext.below (j _)).trans (Ext.below g)
 have B:=zc x
 clear j g
 go_wp2_with fail
 clear R M N
 refine(V.out _ P).mono ?_
 intro e u I
 rcases res with er|⟨s,r3⟩
 ·obtain⟨F,k⟩:=I
  obtain⟨ab,h1,rfl,h2,h3⟩:=F.out
  go_wp2_with fail
  exact⟨rfl,zw y F k⟩
 ·obtain⟨v,rfl,Y,Q,k⟩:=I
  obtain⟨a,E⟩:∃a,a=w.heap.size:=⟨_,rfl⟩
  rw[<-E]at x B ⊢
  have a1:w.heap.size<=a:=by omega
  have a0:p.pb<a:=by omega
  clear E
  have z:=(k.block a B (by omega)).trans x
  have O:=y.trans k
  obtain⟨o,t,q,m,n,ta,ea,tn,tc,en,ec,T,S⟩:=Y
  subst T
  have J:∀i,u.cell? ⟨a,i,none⟩=(scells 0 0 ⟨#[]⟩ (.pointer none) (.pointer none) (.slice none 0 0) (.slice none 0 0))[i]?:=fun i=>za z
  have zr:∀i,u.frozen? ⟨a,i,none⟩=false:=fun i=>zi z
  simp only[scells]at J
  simp only[scells]
  go_wp2_with fail
  refine bodyPost_ret (v:=.agg (scells o t (bs q) (.pointer m) (.pointer n) (.slice ta tn tc) (.slice ea en ec))) (by simp[results,Tryz.results132,go_sem,J,scells]) rfl ?_
  have U:=yt u a (.int .i64 (o:Int)) (.int .i64 (t:Int)) (.string (bs q)) (.pointer m) (.pointer n) (.slice ta tn tc) (.slice ea en ec)
  have C:=zM u a (.int .i64 (o:Int)) (.int .i64 (t:Int)) (.string (bs q)) (.pointer m) (.pointer n) (.slice ta tn tc) (.slice ea en ec)
  exact⟨_,rfl,VS.base (VS.ext U (by omega) ⟨o,t,q,m,n,ta,ea,tn,tc,en,ec,rfl,S⟩) (by omega),Q.belowB C (by omega),O.trans' (C.mono (by omega))⟩
theorem stmt_plain {j:List Tok}(I:LevelC p j f)(J:NamedC p j f){w:World}{r:List Tok}{b:Nat}(h:St w p j r 0 b)(k:Plainly r)(K:Tp.sx (f+1) 2 b r≠.error (99,0)) :
  Calls Tryz.prog 132 #[.pointer (some ⟨p.pb,0,none⟩)] w fun e w'=>Post p j 0 b w (VS w.heap.size) (Tp.sx (f+1) 2 b r) e w':=by
 have z:=fun W (hW:St W p j r 0 b)=>jL I J hW k K
 generalize D:Tp.sx (f+1) 2 b r=res at z
 have HR:Hid (Tp.sx (f+1) 2 b r=res):=D
 have HC:Hid (∀W,St W p j r 0 b->Calls Tryz.prog 163 #[.pointer (some ⟨p.pb,0,none⟩)] W fun e w'=>Post p j 0 b W (VS W.heap.size) res e w'):=z
 clear z K I J D
 have a1:=zg h.c0
 have X:=zk (hd r).text
 have P:((hd r).text==[114,101,116,117,114,110])=false:=by rw[beq_eq_false_iff_ne];exact k.a
 have R:((hd r).text==[119,114,105,116,101])=false:=by rw[beq_eq_false_iff_ne];exact k.b
 have Q:((hd r).text==[119,104,105,108,101])=false:=by rw[beq_eq_false_iff_ne];exact k.c
 have V:((hd r).text==[105,102])=false:=by rw[beq_eq_false_iff_ne];exact k.d
 go_enter Tryz.func132,Tryz.ntmps132
 go_wp2_with fail
 have m:∀N,Below w.heap.size w (w.alloc N):=fun N=>zb _ _
 refine(zK (h.below (m _))).mono ?_
 rintro e O⟨rfl,l⟩
 have T:=(h.below (m _)).below l
 have A:O.heap[w.heap.size]?=some (.cells (scells 0 0 ⟨#[]⟩ (.pointer none) (.pointer none) (.slice none 0 0) (.slice none 0 0)) 216 (0,0)):=(l.block _ (by simp)).trans (zl _ _)
 have B:Ext p.pb w O:=(Ext.below (m _)).trans (Ext.below l)
 have E:=zc A
 clear m l
 go_wp2_with fail
 clear X P R Q V
 refine(HC.out _ T).mono ?_
 intro e y L
 rcases res with er|⟨s,r3⟩
 ·obtain⟨H,n⟩:=L
  obtain⟨ab,h1,rfl,h2,h3⟩:=H.out
  go_wp2_with fail
  exact⟨rfl,zw B H n⟩
 ·obtain⟨v,rfl,hv,U,n⟩:=L
  obtain⟨g,G⟩:∃g,g=w.heap.size:=⟨_,rfl⟩
  rw[<-G]at A E ⊢
  have a3:w.heap.size<=g:=by omega
  have a2:p.pb<g:=by omega
  clear G
  have C:=(n.block g E (by omega)).trans A
  have S:=B.trans n
  obtain⟨t,x,u,o,q,ta,ea,tn,tc,en,ec,Z,Y⟩:=hv
  subst Z
  have M:∀i,y.cell? ⟨g,i,none⟩=(scells 0 0 ⟨#[]⟩ (.pointer none) (.pointer none) (.slice none 0 0) (.slice none 0 0))[i]?:=fun i=>za C
  have zr:∀i,y.frozen? ⟨g,i,none⟩=false:=fun i=>zi C
  simp only[scells]at M
  simp only[scells]
  go_wp2_with fail
  refine bodyPost_ret (v:=.agg (scells t x (bs u) (.pointer o) (.pointer q) (.slice ta tn tc) (.slice ea en ec))) (by simp[results,Tryz.results132,go_sem,M,scells]) rfl ?_
  have a0:=yt y g (.int .i64 (t:Int)) (.int .i64 (x:Int)) (.string (bs u)) (.pointer o) (.pointer q) (.slice ta tn tc) (.slice ea en ec)
  have F:=zM y g (.int .i64 (t:Int)) (.int .i64 (x:Int)) (.string (bs u)) (.pointer o) (.pointer q) (.slice ta tn tc) (.slice ea en ec)
  exact⟨_,rfl,VS.base (VS.ext a0 (by omega) ⟨t,x,u,o,q,ta,ea,tn,tc,en,ec,rfl,Y⟩) (by omega),U.belowB F (by omega),S.trans' (F.mono (by omega))⟩
theorem stmt_while {d:List Tok}(hL:LevelC p d f)(hS:StmtsC p d f){w:World}{r:List Tok}{b:Nat}(h:St w p d r 0 b)(hb:b<=10)(B:tx r=Tp.wWhile)(hn:Tp.sx (f+1) 2 b r≠.error (99,0)) :
  Calls Tryz.prog 132 #[.pointer (some ⟨p.pb,0,none⟩)] w fun e w'=>Post p d 0 b w (VS w.heap.size) (Tp.sx (f+1) 2 b r) e w':=by
 have a2:blockS f 3 b Tp.wDo r≠.error (99,0):=by intro e;apply hn;rw[xZ B,e];rfl
 have M:=fun W (hW:St W p d r 0 b)=>xm hL hS hW hb 3 Tp.wDo (bs Tp.wDo) rfl a2
 generalize X:blockS f 3 b Tp.wDo r=res at M
 have P:Hid (blockS f 3 b Tp.wDo r=res):=X
 have O:Hid (Tp.sx (f+1) 2 b r=(do let (s,c) <- blockS f 3 b Tp.wDo r;let (_,r5) <- closedS c;.ok (s,r5))):=xZ B
 have HC:Hid (∀W,St W p d r 0 b->Calls Tryz.prog 161 #[.pointer (some ⟨p.pb,0,none⟩),.int .i64 3,.string ⟨#[100,111]⟩] W fun e w'=>Post p d 0 b W (VS W.heap.size) res e w'):=M
 clear M hn a2 hL hS X
 have b8:=zg h.c0
 have b2:=zk (hd r).text
 have a5:((hd r).text==[114,101,116,117,114,110])=false:=by rw[beq_eq_false_iff_ne];have:=B;unfold tx at this;rw[this];decide
 have a7:((hd r).text==[119,114,105,116,101])=false:=by rw[beq_eq_false_iff_ne];have:=B;unfold tx at this;rw[this];decide
 have a6:((hd r).text==[119,104,105,108,101])=true:=by rw[beq_iff_eq];exact B
 go_enter Tryz.func132,Tryz.ntmps132
 go_wp2_with fail
 have E:∀ob,Below w.heap.size w (w.alloc ob):=fun ob=>zb _ _
 refine(zK (h.below (E _))).mono ?_
 rintro e Q⟨rfl,D⟩
 have a9:=(h.below (E _)).below D
 have N:Q.heap[w.heap.size]?=some (.cells (scells 0 0 ⟨#[]⟩ (.pointer none) (.pointer none) (.slice none 0 0) (.slice none 0 0)) 216 (0,0)):=(D.block _ (by simp)).trans (zl _ _)
 have R:Ext p.pb w Q:=(Ext.below (E _)).trans (Ext.below D)
 have Z:=zc N
 clear E D
 go_wp2_with fail
 clear b2 a5 a7 a6
 refine(HC.out _ a9).mono ?_
 intro e w2 A
 rcases res with er|⟨s,c⟩
 ·obtain⟨y,G⟩:=A
  obtain⟨ab,h1,rfl,h2,h3⟩:=y.out
  go_wp2_with fail
  refine⟨rfl,?_⟩
  rw[O.out,P.out]
  exact zw R y G
 ·obtain⟨v,rfl,b4,Y,G⟩:=A
  obtain⟨a,a3⟩:∃a,a=w.heap.size:=⟨_,rfl⟩
  rw[<-a3]at N Z ⊢
  have c1:w.heap.size<=a:=by omega
  have b9:p.pb<a:=by omega
  clear a3
  have U:=(G.block a Z (by omega)).trans N
  have S:=R.trans G
  obtain⟨t,up,x,l,q,m,g,o,n,k,j,b3,a4⟩:=b4
  subst b3
  have F:=jE Y t up (bs x) l q m g o n k j
  rw[show (do let r2 <- Tp.want Tp.wEnd c;let c <- Tp.want Tp.mSemi r2;.ok ((),c):Except Tp.Er (Unit×List Tok))=closedS c from rfl]at F
  generalize T:closedS c=res2 at F
  have a0:Hid (closedS c=res2):=T
  have b1:Hid (Calls Tryz.prog 160 #[.pointer (some ⟨p.pb,0,none⟩),.agg (scells t up (bs x) (.pointer l) (.pointer q) (.slice m o n) (.slice g k j))] w2 fun e w'=>Post p d 0 b w2 (fun (_:Unit) v _=>v=.agg (scells t up (bs x) (.pointer l) (.pointer q) (.slice m o n) (.slice g k j))) res2 e w'):=F
  clear F T Y
  go_wp2_with fail
  refine b1.out.mono ?_
  intro e C A
  rcases res2 with er|⟨u,r5⟩
  ·obtain⟨y,z⟩:=A
   obtain⟨ab,h1,rfl,h2,h3⟩:=y.out
   go_wp2_with fail
   refine⟨rfl,?_⟩
   rw[O.out,P.out]
   simp only[bind,Except.bind,a0.out]
   exact zw S y z
  ·obtain⟨v,rfl,rfl,b0,z⟩:=A
   have V:=(z.block a (zc U) (by omega)).trans U
   have a8:=S.trans z
   have hv:VS Q.heap.size s (.agg (scells t up (bs x) (.pointer l) (.pointer q) (.slice m o n) (.slice g k j))) C:=VS.ext z (by omega) ⟨t,up,x,l,q,m,g,o,n,k,j,rfl,a4⟩
   clear a4
   generalize Value.agg (scells (t:Int) (up:Int) (bs x) (.pointer l) (.pointer q) (.slice m o n) (.slice g k j))=vv at hv ⊢
   obtain⟨J,L,K,H,I,ta,ea,tn,tc,en,ec,b6,b5⟩:=hv
   subst b6
   have kr:∀i,C.cell? ⟨a,i,none⟩=(scells 0 0 ⟨#[]⟩ (.pointer none) (.pointer none) (.slice none 0 0) (.slice none 0 0))[i]?:=fun i=>za V
   have zr:∀i,C.frozen? ⟨a,i,none⟩=false:=fun i=>zi V
   simp only[scells]at kr
   simp only[scells]
   go_wp2_with fail
   refine bodyPost_ret (v:=.agg (scells J L (bs K) (.pointer H) (.pointer I) (.slice ta tn tc) (.slice ea en ec))) (by simp[results,Tryz.results132,go_sem,kr,scells]) rfl ?_
   rw[O.out,P.out]
   simp only[bind,Except.bind,a0.out]
   have b7:=yt C a (.int .i64 (J:Int)) (.int .i64 (L:Int)) (.string (bs K)) (.pointer H) (.pointer I) (.slice ta tn tc) (.slice ea en ec)
   have a1:=zM C a (.int .i64 (J:Int)) (.int .i64 (L:Int)) (.string (bs K)) (.pointer H) (.pointer I) (.slice ta tn tc) (.slice ea en ec)
   exact⟨_,rfl,VS.base (VS.ext b7 (by omega) ⟨J,L,K,H,I,ta,ea,tn,tc,en,ec,rfl,b5⟩) (by omega),b0.belowB a1 (by omega),a8.trans' (a1.mono (by omega))⟩
theorem stmt_if {d:List Tok}(hB:BranchC p d f){w:World}{r:List Tok}{b:Nat}(h:St w p d r 0 b)(hb:b<=10)(t:tx r=Tp.wIf)(hn:Tp.sx (f+1) 2 b r≠.error (99,0)) :
  Calls Tryz.prog 132 #[.pointer (some ⟨p.pb,0,none⟩)] w fun e w'=>Post p d 0 b w (VS w.heap.size) (Tp.sx (f+1) 2 b r) e w':=by
 have a2:Tp.sx f 3 b r≠.error (99,0):=by intro e;apply hn;rw[sx2_if t,e];rfl
 have M:=fun W (hW:St W p d r 0 b)=>hB W r b hW hb a2
 generalize X:Tp.sx f 3 b r=res at M
 have P:Hid (Tp.sx f 3 b r=res):=X
 have O:Hid (Tp.sx (f+1) 2 b r=(do let (s,c) <- Tp.sx f 3 b r;let (_,r5) <- closedS c;.ok (s,r5))):=sx2_if t
 have HC:Hid (∀W,St W p d r 0 b->Calls Tryz.prog 162 #[.pointer (some ⟨p.pb,0,none⟩)] W fun e w'=>Post p d 0 b W (VS W.heap.size) res e w'):=M
 clear M hn a2 hB X
 have b9:=zg h.c0
 have b3:=zk (hd r).text
 have a5:((hd r).text==[114,101,116,117,114,110])=false:=by rw[beq_eq_false_iff_ne];have:=t;unfold tx at this;rw[this];decide
 have a7:((hd r).text==[119,114,105,116,101])=false:=by rw[beq_eq_false_iff_ne];have:=t;unfold tx at this;rw[this];decide
 have a6:((hd r).text==[119,104,105,108,101])=false:=by rw[beq_eq_false_iff_ne];have:=t;unfold tx at this;rw[this];decide
 have b1:((hd r).text==[105,102])=true:=by rw[beq_iff_eq];exact t
 go_enter Tryz.func132,Tryz.ntmps132
 go_wp2_with fail
 have E:∀ob,Below w.heap.size w (w.alloc ob):=fun ob=>zb _ _
 refine(zK (h.below (E _))).mono ?_
 rintro e Q⟨rfl,D⟩
 have a9:=(h.below (E _)).below D
 have N:Q.heap[w.heap.size]?=some (.cells (scells 0 0 ⟨#[]⟩ (.pointer none) (.pointer none) (.slice none 0 0) (.slice none 0 0)) 216 (0,0)):=(D.block _ (by simp)).trans (zl _ _)
 have R:Ext p.pb w Q:=(Ext.below (E _)).trans (Ext.below D)
 have Z:=zc N
 clear E D
 go_wp2_with fail
 clear b3 a5 a7 a6 b1
 refine(HC.out _ a9).mono ?_
 intro e w2 B
 rcases res with er|⟨s,c⟩
 ·obtain⟨z,G⟩:=B
  obtain⟨ab,h1,rfl,h2,h3⟩:=z.out
  go_wp2_with fail
  refine⟨rfl,?_⟩
  rw[O.out,P.out]
  exact zw R z G
 ·obtain⟨v,rfl,b5,Y,G⟩:=B
  obtain⟨a,a3⟩:∃a,a=w.heap.size:=⟨_,rfl⟩
  rw[<-a3]at N Z ⊢
  have c2:w.heap.size<=a:=by omega
  have c1:p.pb<a:=by omega
  clear a3
  have U:=(G.block a Z (by omega)).trans N
  have S:=R.trans G
  obtain⟨x,up,y,l,q,m,g,o,n,k,j,b4,a4⟩:=b5
  subst b4
  have F:=jE Y x up (bs y) l q m g o n k j
  rw[show (do let r2 <- Tp.want Tp.wEnd c;let c <- Tp.want Tp.mSemi r2;.ok ((),c):Except Tp.Er (Unit×List Tok))=closedS c from rfl]at F
  generalize T:closedS c=res2 at F
  have a0:Hid (closedS c=res2):=T
  have b2:Hid (Calls Tryz.prog 160 #[.pointer (some ⟨p.pb,0,none⟩),.agg (scells x up (bs y) (.pointer l) (.pointer q) (.slice m o n) (.slice g k j))] w2 fun e w'=>Post p d 0 b w2 (fun (_:Unit) v _=>v=.agg (scells x up (bs y) (.pointer l) (.pointer q) (.slice m o n) (.slice g k j))) res2 e w'):=F
  clear F T Y
  go_wp2_with fail
  refine b2.out.mono ?_
  intro e C B
  rcases res2 with er|⟨u,r5⟩
  ·obtain⟨z,A⟩:=B
   obtain⟨ab,h1,rfl,h2,h3⟩:=z.out
   go_wp2_with fail
   refine⟨rfl,?_⟩
   rw[O.out,P.out]
   simp only[bind,Except.bind,a0.out]
   exact zw S z A
  ·obtain⟨v,rfl,rfl,b0,A⟩:=B
   have V:=(A.block a (zc U) (by omega)).trans U
   have a8:=S.trans A
   have hv:VS Q.heap.size s (.agg (scells x up (bs y) (.pointer l) (.pointer q) (.slice m o n) (.slice g k j))) C:=VS.ext A (by omega) ⟨x,up,y,l,q,m,g,o,n,k,j,rfl,a4⟩
   clear a4
   generalize Value.agg (scells (x:Int) (up:Int) (bs y) (.pointer l) (.pointer q) (.slice m o n) (.slice g k j))=vv at hv ⊢
   obtain⟨J,L,K,H,I,ta,ea,tn,tc,en,ec,b7,b6⟩:=hv
   subst b7
   have kr:∀i,C.cell? ⟨a,i,none⟩=(scells 0 0 ⟨#[]⟩ (.pointer none) (.pointer none) (.slice none 0 0) (.slice none 0 0))[i]?:=fun i=>za V
   have zr:∀i,C.frozen? ⟨a,i,none⟩=false:=fun i=>zi V
   simp only[scells]at kr
   simp only[scells]
   go_wp2_with fail
   refine bodyPost_ret (v:=.agg (scells J L (bs K) (.pointer H) (.pointer I) (.slice ta tn tc) (.slice ea en ec))) (by simp[results,Tryz.results132,go_sem,kr,scells]) rfl ?_
   rw[O.out,P.out]
   simp only[bind,Except.bind,a0.out]
   have b8:=yt C a (.int .i64 (J:Int)) (.int .i64 (L:Int)) (.string (bs K)) (.pointer H) (.pointer I) (.slice ta tn tc) (.slice ea en ec)
   have a1:=zM C a (.int .i64 (J:Int)) (.int .i64 (L:Int)) (.string (bs K)) (.pointer H) (.pointer I) (.slice ta tn tc) (.slice ea en ec)
   exact⟨_,rfl,VS.base (VS.ext b8 (by omega) ⟨J,L,K,H,I,ta,ea,tn,tc,en,ec,rfl,b6⟩) (by omega),b0.belowB a1 (by omega),a8.trans' (a1.mono (by omega))⟩
theorem stmt_post (d:LevelC p c f)(m:NamedC p c f)(n:StmtsC p c f)(l:BranchC p c f):StmtC p c (f+1):=by
 intro w r b h k a
 by_cases e:tx r=Tp.wReturn
 ·exact vY d h e a
 ·by_cases g:tx r=Tp.wWrite
  ·exact stmt_write d h g a
  ·by_cases i:tx r=Tp.wWhile
   ·exact stmt_while d n h k i a
   ·by_cases j:tx r=Tp.wIf
    ·exact stmt_if l h k j a
    ·exact stmt_plain d m h ⟨e,g,i,j⟩ a
theorem Tryz.infoStmt:(Tryz.prog.info? 216).map (fun i=>(i.zero,i.size,i.bytes))=some (some (.agg #[.int .i64 0,.int .i64 0,.string ⟨#[]⟩,.pointer none,.pointer none,.slice none 0 0,.slice none 0 0]),7,96):=by kernel_rfl
theorem StmtC.mono {g:Nat}(h:StmtC p c g)(j:f<=g):StmtC p c f:=by
 intro w r b d i a
 have e:=(Tp.sx_le j 2 b r).eq rfl a
 have:=h w r b d i (by rw[e];exact a)
 rw[e]at this
 exact this
def Ends (r:List Tok):Prop:=tx r=Tp.wEnd\/tx r=Tp.wElsif\/tx r=Tp.wElse
theorem vW (h:Ends r):Tp.sx (f+1) 1 b r=.ok ([],r):=by
 unfold Ends at h
 rw[Tp.sx];simp only[show ¬(1=0) by omega,if_false,if_true,h]
theorem sx1_bad {a:Tp.Er}(h:¬Ends r)(c:Tp.sx f 2 b r=.error a):Tp.sx (f+1) 1 b r=.error a:=by
 unfold Ends at h
 rw[Tp.sx];simp only[show ¬(1=0) by omega,if_false,if_true,h,c,bind,Except.bind]
theorem sx1_ok {s:List S}(h:¬Ends r)(c:Tp.sx f 2 b r=.ok (s,a)):Tp.sx (f+1) 1 b r=addAll s (Tp.sx f 1 b a):=by
 unfold Ends at h
 rw[Tp.sx];simp only[show ¬(1=0) by omega,if_false,if_true,h,c,bind,Except.bind]
 cases Tp.sx f 1 b a with
 |error e=>rfl
 |ok v=>rfl
theorem RepS.grown {w':World}{d:Value}{c:List Value}(h:RepS w (fun b=>B<=b/\v.ownBlock≠some b) l c)(f:w.grownBy w' v.ownBlock)(j:∀g,d.ownBlock=some g->v.ownBlock=some g\/w.heap.size<=g) :
  RepS w' (fun b=>B<=b/\d.ownBlock≠some b) l c:=by
 refine h.mono' (fun b a i=>⟨f.block b i (fun e=>a.2 e.symm),a.1,fun e=>?_⟩)
 rcases j b e with h1|h1
 ·exact a.2 h1
 ·omega
theorem RepS.of_new {C:Nat}{a:List Value}(h:RepS w (fun b=>C<=b) l a)(c:B<=C)(f:∀g,v.ownBlock=some g->g<C):RepS w (fun b=>B<=b/\v.ownBlock≠some b) l a :=
 h.mono' (fun b d _=>⟨rfl,Nat.le_trans c d,fun e=>by have:=f b e;omega⟩)
theorem RepS.alloc {w:World}{D:Nat->Prop}{l:List S}{a:List Value}(h:RepS w D l a)(c:Obj):RepS (w.alloc c) D l a :=
 h.mono' (fun b d e=>⟨Below.heap_alloc w c b e,d⟩)
theorem news7 (w:World)(a b c d e f g:Value)(t:TypeId):∀j u,[a,b,c,d,e,f,g][j]?=some u->(w.alloc (.cells #[a,b,c,d,e,f,g] t)).cell? ((⟨w.heap.size,0,none⟩:Addr).add j)=some u:=by
 intro j u h
 rw[Addr.add_lit,za (zl _ _),Nat.zero_add]
 simpa using h
theorem stmts_deep {g:List Tok}{o:Nat}(h:St w p g r o b)(f:10<b) :
  Calls Tryz.prog 82 #[.pointer (some ⟨p.pb,0,none⟩)] w fun e w'=>Thrown w.heap.size (4,at' r) e w'/\Ext p.pb w w':=by
 have d:=h.c4
 have i:(10:Int)<(b:Int):=by omega
 clear f
 go_enter Tryz.func82,Tryz.ntmps82
 go_wp2_with fail
 clear d
 refine(zY h 4).mono ?_
 rintro e n⟨a,c⟩
 obtain⟨j,k,rfl,l,m⟩:=a.out
 go_wp2_with fail
 exact⟨rfl,a,Ext.below c⟩
theorem stmts_some {H:List Tok}(hT:StmtC p H f)(c8:f<=100000){w:World}{r:List Tok}{b:Nat}(h:St w p H r 0 b)(hb:b<=10)(hn:Tp.sx f 1 b r≠.error (99,0)) :
  Calls Tryz.prog 82 #[.pointer (some ⟨p.pb,0,none⟩)] w fun e w'=>Post p H 0 b w (VL w.heap.size) (Tp.sx f 1 b r) e w':=by
 obtain⟨i0,m,b8,b9,c6⟩:=info_parts Tryz.infoStmt
 have A:=zg h.c0
 have c4:=h.c4
 have b4:¬(10:Int)<(b:Int):=by omega
 have HT:Hid (StmtC p H f):=hT
 have HN:Hid (Tp.sx f 1 b r≠.error (99,0)):=hn
 clear hT hn
 go_enter Tryz.func82,Tryz.ntmps82
 go_wp2_with fail
 clear c4 b4
 go_loopg [3] f (fun k v wr=>∃(l:List S) (D:List Value) (a:List Tok),k<=f/\RepS wr (fun b=>w.heap.size<=b/\v.ownBlock≠some b) l D/\wr.ownsRow w.heap.size 216 7 v l.length D/\St wr p H a 0 b/\Ext p.pb w wr/\addAll l (Tp.sx k 1 b a)=Tp.sx f 1 b r/\l.length+k<=f)
 case atStart =>
  refine⟨[],[],r,Nat.le_refl _,by rw[RepS],World.ownsRow_nil _ _ _ _,h,Ext.refl _ _,?_,by simp⟩
  cases Tp.sx f 1 b r with
  |error e=>rfl
  |ok x=>rfl
 case round =>
  obtain⟨l,D,a,hk,J,z,j,I,a2,c7⟩:=hrel
  have C:Hid (addAll l (Tp.sx gk 1 b a)=Tp.sx f 1 b r):=a2
  obtain⟨ao,cap,Y⟩:=z7 z
  subst Y
  have U:Tp.sx gk 1 b a≠.error (99,0):=by intro e;apply HN.out;rw[<-C.out,e];rfl
  obtain⟨g,rfl⟩:∃g,gk=g+1:=by
   cases gk with
   |zero=>exact absurd rfl U
   |succ k=>exact⟨k,rfl⟩
  clear a2
  by_cases E:tx a=Tp.wEnd
  ·have d1:=decide_eq_true E
   have Z:Hid (tx a=Tp.wEnd):=E
   clear E
   go_wp2_with fail
   refine(yy j Tp.wEnd _ rfl).mono ?_
   rintro e O⟨rfl,d⟩
   have o:Hid (Tp.sx (g+1) 1 b a=.ok ([],a)):=vW (Or.inl Z.out)
   go_wp2_with fail
   go_ret
   rw[<-C.out,o.out]
   have c:Below wr.heap.size wr O:=d
   exact⟨_,rfl,⟨D,by simpa using J.mono' (fun i m t=>⟨c.block i t,m⟩),by simpa using zD z (Ext.below (b:=p.pb) c) A⟩,j.below c,I.trans (Ext.below c)⟩
  ·have d1:=decide_eq_false E
   have Z:Hid (¬tx a=Tp.wEnd):=E
   clear E
   by_cases F:tx a=Tp.wElsif
   ·have d2:=decide_eq_true F
    have H2:Hid (tx a=Tp.wElsif):=F
    clear F
    go_wp2_with fail
    refine(yy j Tp.wEnd _ rfl).mono ?_
    rintro e O⟨rfl,d⟩
    go_wp2_with fail
    refine(yy (j.below d) Tp.wElsif _ rfl).mono ?_
    rintro e w6⟨rfl,n⟩
    have o:Hid (Tp.sx (g+1) 1 b a=.ok ([],a)):=vW (Or.inr (Or.inl H2.out))
    go_wp2_with fail
    go_ret
    rw[<-C.out,o.out]
    have c:Below wr.heap.size wr w6:=d.trans (n.mono d.size)
    exact⟨_,rfl,⟨D,by simpa using J.mono' (fun i m t=>⟨c.block i t,m⟩),by simpa using zD z (Ext.below (b:=p.pb) c) A⟩,j.below c,I.trans (Ext.below c)⟩
   ·have d2:=decide_eq_false F
    have H2:Hid (¬tx a=Tp.wElsif):=F
    clear F
    by_cases G:tx a=Tp.wElse
    ·have d3:=decide_eq_true G
     have H3:Hid (tx a=Tp.wElse):=G
     clear G
     go_wp2_with fail
     refine(yy j Tp.wEnd _ rfl).mono ?_
     rintro e O⟨rfl,d⟩
     go_wp2_with fail
     refine(yy (j.below d) Tp.wElsif _ rfl).mono ?_
     rintro e w6⟨rfl,n⟩
     go_wp2_with fail
     refine(yy ((j.below d).below n) Tp.wElse _ rfl).mono ?_
     rintro e y⟨rfl,M⟩
     have o:Hid (Tp.sx (g+1) 1 b a=.ok ([],a)):=vW (Or.inr (Or.inr H3.out))
     go_wp2_with fail
     go_ret
     rw[<-C.out,o.out]
     have c:Below wr.heap.size wr y:=(d.trans (n.mono d.size)).trans (M.mono (Nat.le_trans d.size n.size))
     exact⟨_,rfl,⟨D,by simpa using J.mono' (fun i m t=>⟨c.block i t,m⟩),by simpa using zD z (Ext.below (b:=p.pb) c) A⟩,j.below c,I.trans (Ext.below c)⟩
    ·have d3:=decide_eq_false G
     have o:Hid (¬Ends a):=by intro e;rcases e with e|e|e;exact Z.out e;exact H2.out e;exact G e
     clear G
     go_wp2_with fail
     refine(yy j Tp.wEnd _ rfl).mono ?_
     rintro e O⟨rfl,d⟩
     go_wp2_with fail
     refine(yy (j.below d) Tp.wElsif _ rfl).mono ?_
     rintro e w6⟨rfl,n⟩
     go_wp2_with fail
     refine(yy ((j.below d).below n) Tp.wElse _ rfl).mono ?_
     rintro e y⟨rfl,M⟩
     have c:Below wr.heap.size wr y:=(d.trans (n.mono d.size)).trans (M.mono (Nat.le_trans d.size n.size))
     have a5:=j.below c
     have K:=I.trans (Ext.below c)
     have a0:=J.mono' (fun i m t=>⟨c.block i t,m⟩)
     have R:=zD z (Ext.below (b:=p.pb) c) A
     have a3:Tp.sx g 2 b a≠.error (99,0):=fun e=>U (sx1_bad o.out e)
     have W:=(HT.out.mono (f:=g) (by omega)) y a b a5 hb a3
     generalize a4:Tp.sx g 2 b a=res at W
     have HR:Hid (Tp.sx g 2 b a=res):=a4
     have b3:Hid (Calls Tryz.prog 132 #[.pointer (some ⟨p.pb,0,none⟩)] y fun e w'=>Post p H 0 b y (VS y.heap.size) res e w'):=W
     clear W a4 U a3 c d n M j I J z a5
     go_wp2_with fail
     refine b3.out.mono ?_
     intro e w8 N
     rcases res with er|⟨s,r1⟩
     ·obtain⟨ht,B⟩:=N
      obtain⟨ab,q1,rfl,q2,q3⟩:=ht.out
      go_wp2_with fail
      refine⟨rfl,?_⟩
      rw[<-C.out,sx1_bad o.out HR.out]
      exact zw K ht B
     ·obtain⟨v,rfl,hv,a6,B⟩:=N
      obtain⟨vc,vp,vn,ia,va,ta,ea,tn,tc,en,ec,Y,X⟩:=hv
      subst Y
      have b7:s.length=1:=by have:=RepS.len _ _ X;simp[scells]at this;omega
      have T:=zD R B A
      have a1:=a0.mono' (fun i m t=>⟨B.block i t (by omega),m⟩)
      have Q:=K.trans B
      have b1:=K.size
      have b2:=Q.size
      have b5:∀q,(Value.slice ao l.length cap).ownBlock=some q->q<y.heap.size:=fun q N=>(R.lt q N).2
      have a7:=X.of_new (v:=.slice ao l.length cap) b1 b5
      clear X R a0 K B
      simp only[scells]
      go_wp2_with (at_builtin;refine zH _ rfl _ _ 64 rfl w.heap.size 216 i0 (.agg #[.int .i64 0,.int .i64 0,.string ⟨#[]⟩,.pointer none,.pointer none,.slice none 0 0,.slice none 0 0]) 7 96 Tryz.underlying64 m b8 b9 c6 rfl (by decide) _ _ _ rfl (T.alloc _) ⟨w8.heap.size,0,none⟩ 1 1 [.int .i64 (vc:Int),.int .i64 (vp:Int),.string (bs vn),.pointer ia,.pointer va,.slice ta tn tc,.slice ea en ec] rfl rfl ?c1 ?c2 ?c3 ?c4 ?c5 ?_)
      case c1=>exact news7 w8 _ _ _ _ _ _ _ _
      case c2=>intro u hu;simp at hu;rcases hu with rfl|rfl|rfl|rfl|rfl|rfl|rfl<;>rfl
      case c3=>unfold maxLen;omega
      case c4=>omega
      case c5=>simp;omega
      ·intro v' w9 a9 L P
       have V:Below w.heap.size w8 w9:=((Below.refl _ _).alloc b2 _).trans ((Below.refl _ _).grown L (by simp;omega) (zL T))
       have b0:=a6.belowB V A
       have a8:Ext p.pb w w9:=Q.trans' V
       have b6:=RepS.app _ _ _ _ ((a1.alloc _).grown L (by simpa using P)) ((a7.alloc _).grown L (by simpa using P))
       clear L P T a1 a7 a6 Q V
       go_wp2_with fail
       go_roundg g
       case measure=>omega
       case rel =>
        refine⟨l++s,_,r1,by omega,b6,?_,b0,a8,?_,by simp;omega⟩
        ·rw[List.length_append,b7];exact a9
        ·rw[<-C.out,sx1_ok o.out HR.out,yZ]
theorem stmts_post (d:f<=100000)(g:StmtC p c f):StmtsC p c (f+1):=by
 intro w r b h i a
 by_cases hd:10<b
 ·rw[show Tp.sx (f+1) 0 b r=.error (4,at' r) by rw[Tp.sx];simp[hd]]
  exact stmts_deep h hd
 ·have e:Tp.sx (f+1) 0 b r=Tp.sx f 1 b r:=by rw[Tp.sx];simp[hd]
  rw[e]at a ⊢
  exact stmts_some g d h (by omega) a
end Go.Proofs.YtbkndnmglhghlaaGreatDoor
