import Derived.Test.YtibncofnnlbmcaaGreatDoorKWh
import Derived.Test.YtibncofnnlbmcaaGreatDoorKWg
set_option maxRecDepth 100000
set_option maxHeartbeats 4000000
namespace Go.Proofs.YtibncofnnlbmcaaGreatDoor
open Go.RowKit
open Tp (Tok hd tx at' stp X S G Pr)
theorem gv_slice {w:World}{g:Nat}{nm:List UInt8}{is:List (List UInt8)}{b:List G}{ps:List Pr}{iv d e:Value}{f:List Value}(h:MS w g nm is b ps iv d e f):(∃a c,d=.slice a b.length c)/\(∃a c,e=.slice a ps.length c)/\(∃a c,iv=.slice a is.length c) :=
 ⟨zw h.gl,zw h.pl,h.im.shape⟩
theorem MS.setI {w:World}{a:Nat}{nm:List UInt8}{is:List (List UInt8)}{iv:Value}(h:MS w a nm [] [] [] (.slice none 0 0) (.slice none 0 0) (.slice none 0 0) [])(d:w.ownsRow (a+1) 9 1 iv is.length (strs is)):MS (w.setCell ⟨a,1,none⟩ iv) a nm is [] [] iv (.slice none 0 0) (.slice none 0 0) []:=by
 have f:∀b,b≠a->(w.setCell ⟨a,1,none⟩ iv).heap[b]?=w.heap[b]?:=fun b c=>Below.heap_setCell _ _ _ _ (by simpa using c)
 exact⟨zu 1 iv h.blk,(Row.of_owns d).mono (fun b c _=>⟨f b (by omega),by omega,(by simp[Value.ownBlock]),(by simp[Value.ownBlock])⟩),World.ownsRow_nil _ _ _ _,World.ownsRow_nil _ _ _ _,fun b c e=>(by cases e),rfl⟩
theorem proc_ok' {w:World}{p:Ps}{k r n:List Tok}{f:Nat}{c:Pr}(y:Hid (StmtsC p k f))(h:St w p k r 0 0)(m:Hid (Tp.proc f r=.ok (c,n))) :
  Calls Tryz.prog 68 #[.pointer (some ⟨p.pb,0,none⟩)] w fun e w'=>(∃(d i a:Option Addr) (g j b:Nat),e=.returned (.agg #[.string (bs c.name),.int .i64 (c.pos:Int),.bool c.seen,.slice d c.params.length g,.slice i c.vars.length j,.slice a c.body.length b]) /\
   Hid (w'.ownsRow w.heap.size 9 1 (.slice d c.params.length g) c.params.length (strs c.params)/\w'.ownsRow w.heap.size 9 1 (.slice i c.vars.length j) c.vars.length (strs c.vars)/\VO w.heap.size c.body (.slice a c.body.length b) w'))/\St w' p k n 0 0/\Ext p.pb w w':=by
 refine(vH y.out h (by rw[m.out];intro e;cases e)).mono ?_
 intro e w' l
 rw[m.out]at l
 obtain⟨v,rfl,⟨d,i,a,g,j,b,s,t,u,x⟩,o,q⟩:=l
 subst s
 exact⟨⟨d,i,a,g,j,b,rfl,⟨t,u,x⟩⟩,o,q⟩
theorem MS.newP {w w':World}{i C:Nat}{nm:List UInt8}{is:List (List UInt8)}{r:List G}{ps:List Pr}{iv f g:Value}{q:List Value}{c:Pr}{l n j:Option Addr}{m o k:Nat}(h:MS w i nm is r ps iv f g q)(x:C=w.heap.size)
  (y:w'.ownsRow C 9 1 (.slice l c.params.length m) c.params.length (strs c.params)/\w'.ownsRow C 9 1 (.slice n c.vars.length o) c.vars.length (strs c.vars)/\VO C c.body (.slice j c.body.length k) w') :
  RepP w' (fun b=>i<b/\f.ownBlock≠some b/\g.ownBlock≠some b) [c] [.string (bs c.name),.int .i64 (c.pos:Int),.bool c.seen,.slice l c.params.length m,.slice n c.vars.length o,.slice j c.body.length k]:=by
 subst x
 have z:=zf h.blk
 have d:∀b,w.heap.size<=b->i<b/\f.ownBlock≠some b/\g.ownBlock≠some b:=fun b a=>⟨by omega,fun e=>by have:=(h.gl.lt b e).2;omega,fun e=>by have:=(h.pl.lt b e).2;omega⟩
 obtain⟨s,t,p,u,v⟩:=y
 exact⟨_,_,_,p,[],rfl,(Row.of_owns s).mono (fun b a _=>⟨rfl,d b a.1⟩),(Row.of_owns t).mono (fun b a _=>⟨rfl,d b a.1⟩),u.mono' (fun b a _=>⟨rfl,d b a⟩),v.mono (fun b a _=>⟨rfl,d b a⟩),rfl⟩
theorem ext_set5 (w:World)(b:Nat)(a c d e f:Value):Ext b w (((((w.setCell ⟨b,0,none⟩ a).setCell ⟨b,1,none⟩ c).setCell ⟨b,2,none⟩ d).setCell ⟨b,3,none⟩ e).setCell ⟨b,4,none⟩ f):=((((((Ext.refl b w).set 0 a).set 1 c).set 2 d).set 3 e).set 4 f)
theorem jj (w:World)(b:Nat)(a c d e f:Value):Below b w (((((w.setCell ⟨b,0,none⟩ a).setCell ⟨b,1,none⟩ c).setCell ⟨b,2,none⟩ d).setCell ⟨b,3,none⟩ e).setCell ⟨b,4,none⟩ f):=(zq (zq (zq (zq (zq (Below.refl b w) zn 0 a) zn 1 c) zn 2 d) zn 3 e) zn 4 f)
structure MK (w:World) (rb:Nat) (is:List (List UInt8)) (gs:List G) (ps:List Pr) (iv gv pv:Value) (pcs:List Value):Prop where
 im:Row w (fun b=>rb<b) 9 1 iv is.length (strs is)
 gl:Row w (fun b=>rb<b) 61 4 gv gs.length (gcs gs)
 pl:Row w (fun b=>rb<b) 65 6 pv ps.length pcs
 rp:RepP w (fun b=>rb<b) ps pcs
theorem MS.keep {w:World}{g:Nat}{nm:List UInt8}{is:List (List UInt8)}{d:List G}{ps:List Pr}{iv e f:Value}{c:List Value}(h:MS w g nm is d ps iv e f c):MK w g is d ps iv e f c :=
 ⟨h.im.mono (fun b a _=>⟨rfl,a.1⟩),(Row.of_owns h.gl).mono (fun b a _=>⟨rfl,by omega⟩),(Row.of_owns h.pl).mono (fun b a _=>⟨rfl,by omega⟩),RepP.mono (fun b a _=>⟨rfl,a.1⟩) _ _ h.rp⟩
theorem MK.mono {w w':World}{e:Nat}{is:List (List UInt8)}{g:List G}{ps:List Pr}{iv i j:Value}{f:List Value}(h:MK w e is g ps iv i j f)(d:∀b,e<b->b<w.heap.size->w'.heap[b]?=w.heap[b]?):MK w' e is g ps iv i j f :=
 ⟨h.im.mono (fun b a c=>⟨d b a c,a⟩),h.gl.mono (fun b a c=>⟨d b a c,a⟩),h.pl.mono (fun b a c=>⟨d b a c,a⟩),RepP.mono (fun b a c=>⟨d b a c,a⟩) _ _ h.rp⟩
theorem MK.ext {w w':World}{a f:Nat}{is:List (List UInt8)}{d:List G}{ps:List Pr}{iv e g:Value}{c:List Value}(h:MK w a is d ps iv e g c)(k:Ext f w w')(l:f<=a):MK w' a is d ps iv e g c :=
 h.mono (fun b j i=>k.block b i (by omega))
theorem MK.done {w:World}{m B:Nat}{nm:List UInt8}{is:List (List UInt8)}{c:List G}{ps:List Pr}{i f k d:Option Addr}{j g l e:Nat}{n:List Value}{bd:List S}(q:B<=m)(h:MK w m is c ps (.slice i is.length j) (.slice f c.length g) (.slice k ps.length l) n)(a:VO (m+1) bd (.slice d bd.length e) w) :
  VM B ⟨nm,is,c,ps,bd⟩ (.agg (mcells (bs nm) (.slice i is.length j) (.slice f c.length g) (.slice k ps.length l) (.slice d bd.length e))) w:=by
 obtain⟨o,p,b2⟩:=a
 exact⟨i,f,k,d,j,g,l,e,n,o,rfl,h.im.mono (fun b a _=>⟨rfl,by omega⟩),h.gl.mono (fun b a _=>⟨rfl,by omega⟩),RepP.mono (fun b a _=>⟨rfl,by omega⟩) _ _ h.rp,h.pl.mono (fun b a _=>⟨rfl,by omega⟩),p.mono' (fun b a _=>⟨rfl,by omega⟩),b2.mono (fun b a _=>⟨rfl,by omega⟩)⟩
theorem proc_er' {w:World}{p:Ps}{c r:List Tok}{f:Nat}{er:Tp.Er}(g:Hid (StmtsC p c f))(h:St w p c r 0 0)(b:Hid (Tp.proc f r=.error er))(d:Hid (er≠(99,0))) :
  Calls Tryz.prog 68 #[.pointer (some ⟨p.pb,0,none⟩)] w fun e w'=>Thrown w.heap.size er e w'/\Ext p.pb w w':=by
 refine(vH g.out h (by rw[b.out];intro e;injection e with e;exact d.out e)).mono ?_
 intro e w' a
 rw[b.out]at a
 exact a
theorem MS.grewG {w w':World}{ob:Obj}{a:Nat}{nm:List UInt8}{is:List (List UInt8)}{g:List G}{ps:List Pr}{iv b c:Value}{f:List Value}(h:MS w a nm is g ps iv b c f)(i:(w.alloc ob).grownBy w' b.ownBlock):w'.heap[a]?=some (.cells (mcells (bs nm) iv b c (.slice none 0 0)) 36 (0,0)):=by
 have d:=zf h.blk
 have j:b.ownBlock≠some a:=fun e=>by have:=zU h.gl a e;omega
 exact(i.block a (by simp;omega) (fun e=>j e.symm)).trans ((Below.heap_alloc w ob a d).trans h.blk)
theorem MS.grewP {w w':World}{ob:Obj}{a:Nat}{nm:List UInt8}{is:List (List UInt8)}{g:List G}{ps:List Pr}{iv c b:Value}{f:List Value}(h:MS w a nm is g ps iv c b f)(i:(w.alloc ob).grownBy w' b.ownBlock):w'.heap[a]?=some (.cells (mcells (bs nm) iv c b (.slice none 0 0)) 36 (0,0)):=by
 have d:=zf h.blk
 have j:b.ownBlock≠some a:=fun e=>by have:=zU h.pl a e;omega
 exact(i.block a (by simp;omega) (fun e=>j e.symm)).trans ((Below.heap_alloc w ob a d).trans h.blk)
theorem j8 {P:Program}{ops:Array Oper}{o:Oper}{a:Act}{w:World}{K:Act->World->Prop}{Q:Exit->Act->World->Prop}{E:Prop}(b:o.guard=none)(h:Oper.wp P o a w K Q):if Region.wanted o (yielded ops a.tmps)=true then Oper.wp P o a w K Q else E:=by
 rw[if_pos (by simp[Region.wanted,b])];exact h
theorem uS {p:Ps}{ts:List Tok}{f:Nat}(hf:f<=100000){w:World}{r:List Tok}(h:St w p ts r 0 0)(hn:Tp.module f r≠.error (99,0)) :
  Calls Tryz.prog 32 #[.pointer (some ⟨p.pb,0,none⟩)] w fun e w'=>PostM p w (Tp.module f r) e w':=by
 obtain⟨i4,n2,m4,m5,m6⟩:=info_parts Tryz.infoGlobal
 obtain⟨i6,n3,m7,m8,m9⟩:=info_parts Tryz.infoProc
 have n8:=zg h.c0
 have f5:Hid (StmtsC p ts f):=(stmt_all p ts f hf).1
 have HM:Hid (Tp.module f r=(do
  let r1 <- Tp.want Tp.wModule r
  let (n,x) <- Tp.name r1
  let r3 <- Tp.want Tp.mSemi x
  let (is,C) <- mI r3
  mG f n is 12 [] C)):=module_eq f r
 have HN:Hid (Tp.module f r≠.error (99,0)):=hn
 clear hn
 obtain⟨j,h8⟩:∃j,j=w.heap.size:=⟨_,rfl⟩
 go_enter Tryz.func32,Tryz.ntmps32
 go_wp2_with fail
 have f6:∀ob,Below w.heap.size w (w.alloc ob):=fun ob=>zb _ _
 have c9:=h.below (f6 (.cells (mcells ⟨#[]⟩ (.slice none 0 0) (.slice none 0 0) (.slice none 0 0) (.slice none 0 0)) 36))
 have c5:Ext p.pb w (w.alloc (.cells (mcells ⟨#[]⟩ (.slice none 0 0) (.slice none 0 0) (.slice none 0 0) (.slice none 0 0)) 36)):=Ext.below (f6 _)
 have a3:(w.alloc (.cells (mcells ⟨#[]⟩ (.slice none 0 0) (.slice none 0 0) (.slice none 0 0) (.slice none 0 0)) 36)).heap[w.heap.size]?=some (.cells (mcells ⟨#[]⟩ (.slice none 0 0) (.slice none 0 0) (.slice none 0 0) (.slice none 0 0)) 36 (0,0)):=zo _ _
 simp only[mcells]at c9 c5 a3
 generalize w.alloc (.cells #[.string ⟨#[]⟩,.slice none 0 0,.slice none 0 0,.slice none 0 0,.slice none 0 0] 36)=w0 at c9 c5 a3 ⊢
 rw[<-h8]at a3 ⊢
 have b1:w.heap.size<=j:=by omega
 have a5:p.pb<j:=by omega
 clear f6 h h8
 by_cases d:tx r=Tp.wModule
 rotate_left
 ·refine(zM c9 Tp.wModule _ rfl d).mono ?_
  rintro e Y⟨o,a⟩
  have m:Hid (¬tx r=Tp.wModule):=d
  clear d
  obtain⟨N,R,rfl,S,T⟩:=o.out
  go_wp2_with fail
  refine⟨rfl,?_⟩
  rw[HM.out,show Tp.want Tp.wModule r=.error (3,at' r) by simp only[Tp.want,if_neg m.out]]
  exact yg c5 o a
 refine(zF c9 Tp.wModule _ rfl d).mono ?_
 rintro e w1⟨rfl,f2,a⟩
 have f3:Hid (Tp.module f r=(do
  let (n,x) <- Tp.name (stp r)
  let r3 <- Tp.want Tp.mSemi x
  let (is,C) <- mI r3
  mG f n is 12 [] C)):=by show _=_;rw[HM.out,show Tp.want Tp.wModule r=.ok (stp r) by simp only[Tp.want,if_pos d]];rfl
 have e8:=c5.trans a
 have e5:=(a.block j (zf a3) (by omega)).trans a3
 clear d c9 HM c5 a3 a
 go_wp2_with fail
 rcases A:Tp.name (stp r) with er|⟨nm,x⟩
 ·have m:Hid (Tp.name (stp r)=.error er):=A
  clear A
  refine(uR f2 m).mono ?_
  rintro e Y⟨o,a⟩
  obtain⟨N,R,rfl,S,T⟩:=o.out
  go_wp2_with fail
  refine⟨rfl,?_⟩
  rw[f3.out,m.out]
  exact yg e8 o a
 have m:Hid (Tp.name (stp r)=.ok (nm,x)):=A
 clear A
 refine(uQ f2 m).mono ?_
 rintro e w2⟨rfl,i0,a⟩
 have f4:Hid (Tp.module f r=(do
  let r3 <- Tp.want Tp.mSemi x
  let (is,C) <- mI r3
  mG f nm is 12 [] C)):=by show _=_;rw[f3.out,m.out];rfl
 have g9:=e8.trans a
 have d3:=(a.block j (zf e5) (by omega)).trans e5
 clear m f2 f3 e8 e5 a
 have kS:w2.cell? ⟨j,0,none⟩=some (.string ⟨#[]⟩):=za d3
 have zS:w2.frozen? ⟨j,0,none⟩=false:=zi d3
 go_wp2_with fail
 clear kS zS
 have y:Below j w2 (w2.setCell ⟨j,0,none⟩ (.string (bs nm))):=zq (Below.refl _ _) zn 0 _
 have d8:=i0.belowB y (by omega)
 have d4:=g9.trans' (y.mono b1)
 have e6:=zu 0 (.string (bs nm)) d3
 generalize w2.setCell ⟨j,0,none⟩ (.string (bs nm))=w3 at y d8 d4 e6 ⊢
 have i8:MS w3 j nm [] [] [] (.slice none 0 0) (.slice none 0 0) (.slice none 0 0) []:=⟨e6,Or.inl ⟨rfl,rfl,rfl⟩,World.ownsRow_nil _ _ _ _,World.ownsRow_nil _ _ _ _,fun b hb e=>(by cases e),rfl⟩
 clear i0 g9 d3 y e6
 by_cases d:tx x=Tp.mSemi
 rotate_left
 ·refine(zM d8 Tp.mSemi _ rfl d).mono ?_
  rintro e Y⟨o,a⟩
  have m:Hid (¬tx x=Tp.mSemi):=d
  clear d
  obtain⟨N,R,rfl,S,T⟩:=o.out
  go_wp2_with fail
  refine⟨rfl,?_⟩
  rw[f4.out,show Tp.want Tp.mSemi x=.error (3,at' x) by simp only[Tp.want,if_neg m.out]]
  exact yg d4 o a
 refine(zF d8 Tp.mSemi _ rfl d).mono ?_
 rintro e w4⟨rfl,i1,a⟩
 have c7:Hid (Tp.module f r=(do
  let (is,C) <- mI (stp x)
  mG f nm is 12 [] C)):=by show _=_;rw[f4.out,show Tp.want Tp.mSemi x=.ok (stp x) by simp only[Tp.want,if_pos d]];rfl
 have h4:=d4.trans a
 have h7:=i8.ext a a5
 clear d d8 f4 d4 i8 a
 go_wp2_with fail
 refine(zP i1 Tp.wImport _ rfl).mono ?_
 rintro e w5⟨rfl,b7,a⟩
 have d5:=h4.trans a
 have d7:=h7.ext a a5
 clear i1 h4 h7 a
 go_upto_if 11 with fail
 go_cut [] (fun wc=>∃is iv C,St wc p ts C 0 0/\MS wc j nm is [] [] iv (.slice none 0 0) (.slice none 0 0) []/\Ext p.pb w wc/\Hid (Tp.module f r=mG f nm is 12 [] C))
 case first =>
  by_cases d:tx (stp x)=Tp.wImport
  ·have c8:=decide_eq_true d
   rw[if_pos d]at b7
   have K:Hid (tx (stp x)=Tp.wImport):=d
   clear d
   rcases A:Tp.names 7 0 6 (stp (stp x)) with er|⟨is,C⟩
   ·have m:Hid (Tp.names 7 0 6 (stp (stp x))=.error er):=A
    clear A
    go_wp2_with fail
    refine(yT b7 (by omega) (by omega) 7 (by omega) (by omega) m).mono ?_
    rintro e Y⟨o,a⟩
    obtain⟨N,R,rfl,S,T⟩:=o.out
    go_wp2_with fail
    refine⟨rfl,?_⟩
    rw[c7.out,show mI (stp x)=.error er by unfold mI;rw[if_pos K.out,m.out];rfl]
    exact yg d5 o a
   ·have m:Hid (Tp.names 7 0 6 (stp (stp x))=.ok (is,C)):=A
    clear A
    go_wp2_with fail
    refine(yT b7 (by omega) (by omega) 7 (by omega) (by omega) m).mono ?_
    intro e w6 B
    obtain⟨v,rfl,hv,c6,a⟩:=B
    have c2:=d5.trans a
    have a8:=d7.ext a a5
    have n6:=zf d7.blk
    clear b7 d5 d7 a
    obtain⟨va,vc,rfl⟩:=zw hv
    have kS:w6.cell? ⟨j,1,none⟩=some (.slice none 0 0):=za a8.blk
    have zS:w6.frozen? ⟨j,1,none⟩=false:=zi a8.blk
    go_wp2_with fail
    clear kS zS
    have y:Below j w6 (w6.setCell ⟨j,1,none⟩ (.slice va is.length vc)):=zq (Below.refl _ _) zn 1 _
    have V:=c6.belowB y (by omega)
    have a0:=c2.trans' (y.mono b1)
    have U:=a8.setI (yE hv (by omega))
    generalize w6.setCell ⟨j,1,none⟩ (.slice va is.length vc)=w7 at y V a0 U ⊢
    clear c6 c2 a8 y hv
    by_cases d:tx C=Tp.mSemi
    rotate_left
    ·refine(zM V Tp.mSemi _ rfl d).mono ?_
     rintro e Y⟨o,a⟩
     have HY:Hid (¬tx C=Tp.mSemi):=d
     clear d
     obtain⟨N,R,rfl,S,T⟩:=o.out
     go_wp2_with fail
     refine⟨rfl,?_⟩
     rw[c7.out,show mI (stp x)=.error (3,at' C) by unfold mI;rw[if_pos K.out,m.out];simp only[bind,Except.bind,Tp.want,if_neg HY.out]]
     exact yg a0 o a
    refine(zF V Tp.mSemi _ rfl d).mono ?_
    rintro e D⟨rfl,F,a⟩
    have HY:Hid (tx C=Tp.mSemi):=d
    clear d
    go_wp2_with fail
    go_meet
    case rel =>
     refine⟨is,_,stp C,F,U.ext a a5,a0.trans a,?_⟩
     show _=_
     rw[c7.out,show mI (stp x)=.ok (is,stp C) by unfold mI;rw[if_pos K.out,m.out];simp only[bind,Except.bind,Tp.want,if_pos HY.out]]
     rfl
  ·have c8:=decide_eq_false d
   rw[if_neg d]at b7
   have K:Hid (¬tx (stp x)=Tp.wImport):=d
   clear d
   go_wp2_with fail
   go_meet
   case rel =>
    refine⟨[],_,stp x,b7,d7,d5,?_⟩
    show _=_
    rw[c7.out,show mI (stp x)=.ok ([],stp x) by unfold mI;rw[if_neg K.out]]
    rfl
 case rest =>
  obtain⟨is,iv,C,c6,a8,c2,i3⟩:=hcut
  clear c7
  go_wp2_with fail
  go_loopg [] 12 (fun k wr=>∃(l:List G) (gv:Value) (s:List Tok),k+l.length=12/\l.length<=10/\St wr p ts s 0 0/\MS wr j nm is l [] iv gv (.slice none 0 0) []/\Ext p.pb w wr/\Hid (Tp.module f r=mG f nm is k l s))
  case atStart=>exact⟨[],_,C,rfl,by simp,c6,a8,c2,i3⟩
  case round =>
   obtain⟨l,gv,s,hk,n1,V,U,a0,O⟩:=hrel
   clear c6 a8 c2 i3
   obtain⟨k,rfl⟩:∃k,gk=k+1:=⟨gk-1,by omega⟩
   obtain⟨⟨W,X,rfl⟩,_,_⟩:=gv_slice U
   go_wp2_with fail
   refine(zP V Tp.wVar _ rfl).mono ?_
   rintro e D⟨rfl,F,a⟩
   have I:=a0.trans a
   have H:=U.ext a a5
   clear V a0 U a
   by_cases d:tx s=Tp.wVar
   ·have c8:=decide_eq_true d
    rw[if_pos d]at F
    have K:Hid (tx s=Tp.wVar):=d
    clear d
    have k2:D.cell? ⟨j,2,none⟩=some (.slice W l.length X):=za H.blk
    have m3:=zf H.blk
    by_cases a4:l.length=10
    ·have f8:((l.length:Int)==10)=true:=by simp;omega
     have L:Hid (l.length=10):=a4
     clear a4
     go_wp2_with fail
     refine(zV F 4).mono ?_
     rintro e Y⟨o,a⟩
     obtain⟨N,R,rfl,S,T⟩:=o.out
     go_wp2_with fail
     refine⟨rfl,?_⟩
     rw[O.out,mG_full K.out L.out]
     exact yg I o (Ext.below a)
    ·have f8:((l.length:Int)==10)=false:=by simp;omega
     have L:Hid (¬l.length=10):=a4
     clear a4
     have a9:=F.below (zB D)
     rcases A:Tp.global (stp s) with er|⟨g,r1⟩
     ·have m:Hid (Tp.global (stp s)=.error er):=A
      clear A
      have HF:Hid (∀e w',Thrown D.drew.heap.size er e w'/\Ext p.pb D.drew w'->PostM p w (Tp.module f r) e w'):=by
       intro e w' B
       rw[O.out,mG_bad K.out L.out m.out]
       exact yg (I.trans (Ext.below (zB D))) B.1 B.2
      go_wp2_with fail
      go_region_dies
      all_goals (refine(global_er' a9 m).mono ?_;intro e t B;obtain⟨N,h1,h0,h2,h3⟩:=B.1.out;subst h0;exact⟨rfl,HF.out _ _ B⟩)
     ·have m:Hid (Tp.global (stp s)=.ok (g,r1)):=A
      clear A
      have z2:D.frozen? ⟨j,2,none⟩=false:=zi H.blk
      have b6:=H.below (zB D)
      have c3:=I.trans (Ext.below (zB D))
      go_wp2_with fail
      go_region_law (first|(refine j8 rfl ?_;go_simp;go_at_call 66;refine(global_ok' a9 m).mono ?_;rintro e t ⟨rfl,a6,d0⟩;have z:=b6.ext d0 a5;have a1:=c3.trans d0;have k9:t.cell? ⟨j,2,none⟩=some (.slice W l.length X):=za z.blk;have z9:t.frozen? ⟨j,2,none⟩=false:=zi z.blk;have n5:j<t.heap.size:=zf z.blk;have g1:∀ob,(t.alloc ob).cell? ⟨j,2,none⟩=some (.slice W l.length X):=fun ob=>yf k9 ob)|(refine zY rfl (.tmp 26) (.tmp 29) 32 rfl (j+1) 61 i4 (.agg #[.string ⟨#[]⟩,.int .i64 0,.int .i64 0,.bool false]) 4 40 Tryz.underlying32 n2 m4 m5 m6 rfl (by decide) (.slice W l.length X) l.length (gcs l) (by simp[Act.eval]) (z.gl.alloc _) ⟨t.heap.size,0,none⟩ 1 1 [.string (bs g.name),.int .i64 (g.pos:Int),.int .i64 (g.len:Int),.bool g.seen] (by simp[Act.eval]) rfl (news4 t _ _ _ _ _) (by intro u hu;simp at hu;rcases hu with rfl|rfl|rfl|rfl<;>rfl) (by unfold maxLen;omega) (by omega) (by have:=zf z.blk;simp;omega) ?_;intro v' E a7 Z c1;have b0:=z.grewG Z;have g0:E.cell? ⟨j,2,none⟩=some (.slice W l.length X):=za b0;have g3:E.frozen? ⟨j,2,none⟩=false:=zi b0;obtain⟨va,vc,f9⟩:=zw a7;subst f9))
      all_goals
       have b8:Below t.heap.size t (t.alloc (.cells #[.string (bs g.name),.int .i64 (g.pos:Int),.int .i64 (g.len:Int),.bool g.seen] 61)):=zb _ _
       have c4:Below j t E:=((Below.refl _ _).alloc (by omega) _).trans ((Below.refl _ _).grown Z (by simp;omega) (fun q B=>by have:=zU z.gl q B;omega))
       have y:Below j t (E.setCell ⟨j,2,none⟩ (.slice va (l.length+1) vc)):=zq c4 zn 2 _
       have a2:=(z.below b8).addG (g:=g) a7 Z c1
       have b4:=a6.belowB y (by omega)
       have b3:=a1.trans' (y.mono b1)
       have J:Hid (Tp.module f r=mG f nm is k (l++[g]) r1):=by show _=_;rw[O.out];exact mG_ok K.out L.out m.out
       clear Z c1 a7 z a6 a1 H I F b6 c3 a9 b0 g0 g3 k9 z9 k2 z2 c4 y b8 g1
       go_wp2_with fail
       go_roundg k
       case rel=>exact⟨l++[g],_,r1,by have:=L.out;simp;omega,by have:=L.out;simp;omega,b4,a2,b3,J⟩
       all_goals omega
   ·have c8:=decide_eq_false d
    rw[if_neg d]at F
    have J:Hid (Tp.module f r=mP f nm is l 12 [] s):=by show _=_;rw[O.out];exact mG_end d
    clear d O
    go_wp2_with fail
    go_loopg [] 12 (fun k wr=>∃(ps:List Pr) (pv:Value) (g2:List Value) (s:List Tok),k+ps.length=12/\ps.length<=10/\St wr p ts s 0 0/\MS wr j nm is l ps iv (.slice W l.length X) pv g2/\Ext p.pb w wr/\Hid (Tp.module f r=mP f nm is l k ps s))
    case atStart=>exact⟨[],_,[],s,rfl,by simp,F,H,I,J⟩
    case round =>
     obtain⟨ps,pv,g2,s,hk,n1,V,U,a0,O⟩:=hrel
     clear F H I J
     obtain⟨k,rfl⟩:∃k,gk=k+1:=⟨gk-1,by omega⟩
     obtain⟨_,⟨pa,pc,rfl⟩,⟨ia,ic,rfl⟩⟩:=gv_slice U
     go_wp2_with fail
     refine(yp V Tp.wProc _ rfl).mono ?_
     rintro e D⟨rfl,d9⟩
     have F:=V.below d9
     have I:=a0.trans (Ext.below d9)
     have H:=U.below d9
     clear V a0 U d9
     by_cases d:tx s=Tp.wProc
     ·have c8:=decide_eq_true d
      have K:Hid (tx s=Tp.wProc):=d
      clear d
      have k2:D.cell? ⟨j,3,none⟩=some (.slice pa ps.length pc):=za H.blk
      have m3:=zf H.blk
      by_cases a4:ps.length=10
      ·have f8:((ps.length:Int)==10)=true:=by simp;omega
       have L:Hid (ps.length=10):=a4
       clear a4
       go_wp2_with fail
       refine(zV F 4).mono ?_
       rintro e Y⟨o,a⟩
       obtain⟨N,R,rfl,S,T⟩:=o.out
       go_wp2_with fail
       refine⟨rfl,?_⟩
       rw[O.out,mP_full K.out L.out]
       exact yg I o (Ext.below a)
      ·have f8:((ps.length:Int)==10)=false:=by simp;omega
       have L:Hid (¬ps.length=10):=a4
       clear a4
       have a9:=F.below (zB D)
       rcases A:Tp.proc f s with er|⟨c,r1⟩
       ·have m:Hid (Tp.proc f s=.error er):=A
        clear A
        have n0:Hid (er≠(99,0)):=by intro e;apply HN.out;rw[O.out,mP_bad K.out L.out m.out,e]
        have HF:Hid (∀e w',Thrown D.drew.heap.size er e w'/\Ext p.pb D.drew w'->PostM p w (Tp.module f r) e w'):=by
         intro e w' B
         rw[O.out,mP_bad K.out L.out m.out]
         exact yg (I.trans (Ext.below (zB D))) B.1 B.2
        go_wp2_with fail
        go_region_dies
        all_goals (refine(proc_er' f5 a9 m n0).mono ?_;intro e t B;obtain⟨N,h1,h0,h2,h3⟩:=B.1.out;subst h0;exact⟨rfl,HF.out _ _ B⟩)
       ·have m:Hid (Tp.proc f s=.ok (c,r1)):=A
        clear A
        have z2:D.frozen? ⟨j,3,none⟩=false:=zi H.blk
        have b6:=H.below (zB D)
        have c3:=I.trans (Ext.below (zB D))
        go_wp2_with fail
        go_region_law (first|(refine j8 rfl ?_;go_simp;go_at_call 68;refine(proc_ok' f5 a9 m).mono ?_;rintro e t ⟨⟨qa,va,P,qc,vc,Q,rfl,i5⟩,a6,d0⟩;have z:=b6.ext d0 a5;have a1:=c3.trans d0;have k9:t.cell? ⟨j,3,none⟩=some (.slice pa ps.length pc):=za z.blk;have z9:t.frozen? ⟨j,3,none⟩=false:=zi z.blk;have n5:j<t.heap.size:=zf z.blk;have g1:∀ob,(t.alloc ob).cell? ⟨j,3,none⟩=some (.slice pa ps.length pc):=fun ob=>yf k9 ob)|(refine zY rfl (.tmp 41) (.tmp 44) 33 rfl (j+1) 65 i6 (.agg #[.string ⟨#[]⟩,.int .i64 0,.bool false,.slice none 0 0,.slice none 0 0,.slice none 0 0]) 6 104 Tryz.underlying33 n3 m7 m8 m9 rfl (by decide) (.slice pa ps.length pc) ps.length g2 (by simp[Act.eval]) (z.pl.alloc _) ⟨t.heap.size,0,none⟩ 1 1 [.string (bs c.name),.int .i64 (c.pos:Int),.bool c.seen,.slice qa c.params.length qc,.slice va c.vars.length vc,.slice P c.body.length Q] (by simp[Act.eval]) rfl (news6 t _ _ _ _ _ _ _) (by intro u hu;simp at hu;rcases hu with rfl|rfl|rfl|rfl|rfl|rfl<;>rfl) (by unfold maxLen;omega) (by omega) (by have:=zf z.blk;simp;omega) ?_;intro v' E a7 Z c1;have b0:=z.grewP Z;have g0:E.cell? ⟨j,3,none⟩=some (.slice pa ps.length pc):=za b0;have g3:E.frozen? ⟨j,3,none⟩=false:=zi b0;obtain⟨ua,uc,f9⟩:=zw a7;subst f9))
        all_goals
         have b8:Below t.heap.size t (t.alloc (.cells #[.string (bs c.name),.int .i64 (c.pos:Int),.bool c.seen,.slice qa c.params.length qc,.slice va c.vars.length vc,.slice P c.body.length Q] 65)):=zb _ _
         have c4:Below j t E:=((Below.refl _ _).alloc (by omega) _).trans ((Below.refl _ _).grown Z (by simp;omega) (fun q B=>by have:=zU z.pl q B;omega))
         have y:Below j t (E.setCell ⟨j,3,none⟩ (.slice ua (ps.length+1) uc)):=zq c4 zn 3 _
         have h9:=MS.newP b6 rfl i5.out
         have a2:=(z.below b8).addP (c:=c) (RepP.mono (fun b hb hl=>⟨b8.block b hl,hb⟩) _ _ h9) a7 Z c1
         have b4:=a6.belowB y (by omega)
         have b3:=a1.trans' (y.mono b1)
         have J:Hid (Tp.module f r=mP f nm is l k (ps++[c]) r1):=by show _=_;rw[O.out];exact mP_ok K.out L.out m.out
         clear Z c1 a7 z a6 a1 H I F b6 c3 a9 b0 g0 g3 k9 z9 k2 z2 c4 y b8 g1 h9 i5
         go_wp2_with fail
         go_roundg k
         case rel=>exact⟨ps++[c],_,_,r1,by have:=L.out;simp;omega,by have:=L.out;simp;omega,b4,a2,b3,J⟩
         all_goals omega
     ·have c8:=decide_eq_false d
      have J:Hid (Tp.module f r=mB f nm is l ps s):=by show _=_;rw[O.out];exact mP_end d
      clear d O
      go_wp2_with fail
      by_cases d:tx s=Tp.wBegin
      rotate_left
      ·refine(zM F Tp.wBegin _ rfl d).mono ?_
       rintro e Y⟨o,a⟩
       have m:Hid (¬tx s=Tp.wBegin):=d
       clear d
       obtain⟨N,R,rfl,S,T⟩:=o.out
       go_wp2_with fail
       refine⟨rfl,?_⟩
       rw[J.out,show mB f nm is l ps s=.error (3,at' s) by unfold mB;simp only[Tp.want,if_neg m.out];rfl]
       exact yg I o a
      refine(zF F Tp.wBegin _ rfl d).mono ?_
      rintro e t⟨rfl,a6,a⟩
      have HB:Hid (tx s=Tp.wBegin):=d
      have a1:=I.trans a
      have z:=H.ext a a5
      clear d F I H a
      have i9:Tp.sx f 0 0 (stp s)≠.error (99,0):=by
       intro e;apply HN.out;rw[J.out];unfold mB;simp only[Tp.want,if_pos HB.out,bind,Except.bind,e]
      have e7:=f5.out t (stp s) 0 a6 (by omega) i9
      generalize A:Tp.sx f 0 0 (stp s)=res at e7
      have HR:Hid (Tp.sx f 0 0 (stp s)=res):=A
      have i2:Hid (Calls Tryz.prog 69 #[.pointer (some ⟨p.pb,0,none⟩)] t fun e w'=>Post p ts 0 0 t (VL t.heap.size) res e w'):=e7
      clear i9 A e7
      go_wp2_with fail
      refine i2.out.mono ?_
      intro e E B
      rcases res with er|⟨bd,M⟩
      ·obtain⟨o,a⟩:=B
       obtain⟨N,R,rfl,S,T⟩:=o.out
       go_wp2_with fail
       refine⟨rfl,?_⟩
       rw[J.out,show mB f nm is l ps s=.error er by unfold mB;simp only[Tp.want,if_pos HB.out,bind,Except.bind,HR.out]]
       exact yg a1 o a
      obtain⟨v,rfl,hv,b4,a⟩:=B
      have n7:=zf z.blk
      have b3:=a1.trans a
      have a2:=z.ext a a5
      have f7:=(hv.vo.base (show j+1<=t.heap.size by omega))
      clear a6 a1 z a hv i2
      obtain⟨P,Q,rfl⟩:=f7.shape
      have kS:E.cell? ⟨j,4,none⟩=some (.slice none 0 0):=za a2.blk
      have zS:E.frozen? ⟨j,4,none⟩=false:=zi a2.blk
      have i7:=a2.keep
      have a3:=a2.blk
      go_wp2_with fail
      clear kS zS
      have y:Below j E (E.setCell ⟨j,4,none⟩ (.slice P bd.length Q)):=zq (Below.refl _ _) zn 4 _
      have b2:Ext j E (E.setCell ⟨j,4,none⟩ (.slice P bd.length Q)):=(Ext.refl _ _).set 4 _
      have d6:=b4.belowB y (by omega)
      have d2:=b3.trans' (y.mono b1)
      have e9:=i7.ext b2 zn
      have e4:=VO.ext b2 (by omega) f7
      have d1:=zu 4 (.slice P bd.length Q) a3
      generalize E.setCell ⟨j,4,none⟩ (.slice P bd.length Q)=w11 at y b2 d6 d2 e9 e4 d1 ⊢
      clear y b2 b4 b3 a2 i7 f7 a3
      by_cases d:tx M=Tp.wEnd
      rotate_left
      ·refine(zM d6 Tp.wEnd _ rfl d).mono ?_
       rintro e Y⟨o,a⟩
       have m:Hid (¬tx M=Tp.wEnd):=d
       clear d
       obtain⟨N,R,rfl,S,T⟩:=o.out
       go_wp2_with fail
       refine⟨rfl,?_⟩
       rw[J.out,show mB f nm is l ps s=.error (3,at' M) by unfold mB;simp only[Tp.want,if_pos HB.out,bind,Except.bind,HR.out,if_neg m.out]]
       exact yg d2 o a
      refine(zF d6 Tp.wEnd _ rfl d).mono ?_
      rintro e n9⟨rfl,f0,a⟩
      have HE:Hid (tx M=Tp.wEnd):=d
      have e3:=d2.trans a
      have h5:=e9.ext a (by omega)
      have g7:=VO.ext a (by omega) e4
      have e1:=(a.block j (zf d1) (by omega)).trans d1
      clear d d6 d2 e9 e4 d1 a
      go_wp2_with fail
      by_cases d:tx (stp M)=Tp.mDot
      rotate_left
      ·refine(zM f0 Tp.mDot _ rfl d).mono ?_
       rintro e Y⟨o,a⟩
       have m:Hid (¬tx (stp M)=Tp.mDot):=d
       clear d
       obtain⟨N,R,rfl,S,T⟩:=o.out
       go_wp2_with fail
       refine⟨rfl,?_⟩
       rw[J.out,show mB f nm is l ps s=.error (3,at' (stp M)) by unfold mB;simp only[Tp.want,if_pos HB.out,bind,Except.bind,HR.out,if_pos HE.out,if_neg m.out]]
       exact yg e3 o a
      refine(zF f0 Tp.mDot _ rfl d).mono ?_
      rintro e o0⟨rfl,f1,a⟩
      have HD:Hid (tx (stp M)=Tp.mDot):=d
      have g5:=e3.trans a
      have h6:=h5.ext a (by omega)
      have g8:=VO.ext a (by omega) g7
      have e2:=(a.block j (zf e1) (by omega)).trans e1
      clear d f0 e3 h5 g7 e1 a
      go_wp2_with fail
      refine(zK f1).mono ?_
      rintro e e0⟨rfl,b5⟩
      have m2:=f1.below b5
      have g6:=g5.trans (Ext.below b5)
      have m1:=h6.mono (fun b _ h2=>b5.block b h2)
      have m0:=VO.ext (Ext.below (b:=p.pb) b5) (by omega) g8
      have g4:=(b5.block j (zf e2)).trans e2
      clear f1 g5 h6 g8 e2 b5
      by_cases b9:(hd (stp (stp M))).kind=0
      ·have n4:(((hd (stp (stp M))).kind:Int) != 0)=false:=by simp[b9]
       have HK:Hid ((hd (stp (stp M))).kind=0):=b9
       clear b9
       have kr:∀i,e0.cell? ⟨j,i,none⟩=(mcells (bs nm) (.slice ia is.length ic) (.slice W l.length X) (.slice pa ps.length pc) (.slice P bd.length Q))[i]?:=fun i=>za g4
       have zr:∀i,e0.frozen? ⟨j,i,none⟩=false:=fun i=>zi g4
       simp only[mcells]at kr
       go_wp2_with fail
       refine bodyPost_ret (v:=.agg (mcells (bs nm) (.slice ia is.length ic) (.slice W l.length X) (.slice pa ps.length pc) (.slice P bd.length Q))) (by simp[results,Tryz.results32,go_sem,kr,mcells]) rfl ?_
       rw[J.out,show mB f nm is l ps s=.ok ⟨nm,is,l,ps,bd⟩ by unfold mB;simp only[Tp.want,if_pos HB.out,bind,Except.bind,HR.out,if_pos HE.out,if_pos HD.out,if_pos HK.out]]
       have y:=jj e0 j (.string (bs nm)) (.slice ia is.length ic) (.slice W l.length X) (.slice pa ps.length pc) (.slice P bd.length Q)
       have b2:=ext_set5 e0 j (.string (bs nm)) (.slice ia is.length ic) (.slice W l.length X) (.slice pa ps.length pc) (.slice P bd.length Q)
       exact⟨_,rfl,(m1.ext b2 zn).done b1 (VO.ext b2 (by omega) m0),g6.trans' (y.mono b1)⟩
      ·have n4:(((hd (stp (stp M))).kind:Int) != 0)=true:=by simp[b9]
       have HK:Hid (¬(hd (stp (stp M))).kind=0):=b9
       clear b9
       go_wp2_with fail
       refine(zV m2 3).mono ?_
       rintro e Y⟨o,a⟩
       obtain⟨N,R,rfl,S,T⟩:=o.out
       go_wp2_with fail
       refine⟨rfl,?_⟩
       rw[J.out,show mB f nm is l ps s=.error (3,at' (stp (stp M))) by unfold mB;simp only[Tp.want,if_pos HB.out,bind,Except.bind,HR.out,if_pos HE.out,if_pos HD.out,if_neg HK.out]]
       exact yg g6 o (Ext.below a)
end Go.Proofs.YtibncofnnlbmcaaGreatDoor
namespace Go.Proofs.YtibncofnnlbmcaaGreatDoor
open Go.RowKit
open Tp (Tok hd tx at' stp)
def TxAt (w:World) (tb:Nat) (l:List UInt8):Prop:=∀j c,l[j]?=some c->w.cell? ⟨tb,j,none⟩=some (.int .u8 (c.toNat:Int))
def pastI (f:UInt8->Bool) (l:List UInt8) (i:Nat):Nat:=i+((l.drop i).takeWhile f).length
theorem yL {f:UInt8->Bool}{l:List UInt8}{i:Nat}(h:i<l.length)(a:f l[i]=true):pastI f l (i+1)=pastI f l i:=by
 unfold pastI
 rw[List.drop_eq_getElem_cons h,List.takeWhile_cons,if_pos a]
 simp;omega
theorem kK {f:UInt8->Bool}{l:List UInt8}{i:Nat}(h:i<l.length)(a:f l[i]=false):pastI f l i=i:=by
 unfold pastI
 rw[List.drop_eq_getElem_cons h,List.takeWhile_cons,a]
 simp
theorem yz {f:UInt8->Bool}{l:List UInt8}{i:Nat}(h:¬i<l.length):pastI f l i=i:=by
 unfold pastI
 rw[List.drop_eq_nil_of_le (by omega)]
 simp
theorem js {f:UInt8->Bool}{l:List UInt8}{i:Nat}(h:i<=l.length):i<=pastI f l i/\pastI f l i<=l.length:=by
 unfold pastI
 have:=(List.takeWhile_prefix f (l:=l.drop i)).length_le
 simp at this
 omega
theorem blank_eq (c:UInt8):Tp.blank c=(decide ((c.toNat:Int)=32) || decide ((c.toNat:Int)=10)):=by
 rw[Bool.eq_iff_iff];simp[Tp.blank,<-UInt8.toNat_inj];omega
theorem letter_eq (c:UInt8):Tp.letter c=(decide ((97:Int)<=(c.toNat:Int))&&decide ((c.toNat:Int)<=122)):=by
 rw[Bool.eq_iff_iff];simp[Tp.letter];omega
theorem digit_eq (c:UInt8):Tp.digit c=(decide ((48:Int)<=(c.toNat:Int))&&decide ((c.toNat:Int)<=57)):=by
 rw[Bool.eq_iff_iff];simp[Tp.digit];omega
theorem uy (w:World)(c:UInt8):Calls Tryz.prog 57 #[.int .u8 (c.toNat:Int)] w fun e w'=>e=.returned (.bool (Tp.blank c))/\w'=w:=by
 rw[blank_eq]
 generalize (c.toNat:Int)=z
 by_cases a:z=32
 ·subst a
  go_enter Tryz.func57,Tryz.ntmps57
  go_wp2_with fail
  go_ret
  exact⟨rfl,rfl⟩
 ·have g:(z==32)=false:=by simp[a]
  have d:decide (z=32)=false:=by simp[a]
  rw[d]
  clear a
  by_cases b:z=10
  ·subst b
   go_enter Tryz.func57,Tryz.ntmps57
   go_wp2_with fail
   go_ret
   exact⟨rfl,rfl⟩
  ·have h:(z==10)=false:=by simp[b]
   have f:decide (z=10)=false:=by simp[b]
   rw[f]
   clear b f d
   go_enter Tryz.func57,Tryz.ntmps57
   go_wp2_with fail
   go_ret
   exact⟨rfl,rfl⟩
theorem jd (w:World)(c:UInt8):Calls Tryz.prog 99 #[.int .u8 (c.toNat:Int)] w fun e w'=>e=.returned (.bool (Tp.letter c))/\w'=w:=by
 rw[letter_eq]
 generalize (c.toNat:Int)=z
 by_cases a:(97:Int)<=z
 ·rw[decide_eq_true a]
  by_cases b:z<=122
  ·rw[decide_eq_true b]
   go_enter Tryz.func99,Tryz.ntmps99
   go_wp2_with fail
   go_ret
   exact⟨rfl,rfl⟩
  ·have d:=decide_eq_false b
   rw[d]
   have g:(122:Int)<z:=by omega
   clear b
   go_enter Tryz.func99,Tryz.ntmps99
   go_wp2_with fail
   go_ret
   exact⟨rfl,rfl⟩
 ·rw[decide_eq_false a]
  have f:z<(97:Int):=by omega
  clear a
  go_enter Tryz.func99,Tryz.ntmps99
  go_wp2_with fail
  go_ret
  exact⟨rfl,rfl⟩
theorem kP (w:World)(c:UInt8):Calls Tryz.prog 100 #[.int .u8 (c.toNat:Int)] w fun e w'=>e=.returned (.bool (Tp.digit c))/\w'=w:=by
 rw[digit_eq]
 generalize (c.toNat:Int)=z
 by_cases a:(48:Int)<=z
 ·rw[decide_eq_true a]
  by_cases b:z<=57
  ·rw[decide_eq_true b]
   go_enter Tryz.func100,Tryz.ntmps100
   go_wp2_with fail
   go_ret
   exact⟨rfl,rfl⟩
  ·have d:=decide_eq_false b
   rw[d]
   have g:(57:Int)<z:=by omega
   clear b
   go_enter Tryz.func100,Tryz.ntmps100
   go_wp2_with fail
   go_ret
   exact⟨rfl,rfl⟩
 ·rw[decide_eq_false a]
  have f:z<(48:Int):=by omega
  clear a
  go_enter Tryz.func100,Tryz.ntmps100
  go_wp2_with fail
  go_ret
  exact⟨rfl,rfl⟩
theorem ld_any (w:World)(c:UInt8)(b a:Nat)(g:w.cell? ⟨b,0,none⟩=some (.func (.func 99) #[] #[]))(hd:w.cell? ⟨a,0,none⟩=some (.func (.func 100) #[] #[])) :
  Calls Tryz.prog 101 #[.int .u8 (c.toNat:Int),.pointer (some ⟨b,0,none⟩),.pointer (some ⟨a,0,none⟩)] w fun e w'=>e=.returned (.bool (Tp.ld c))/\w'=w:=by
 unfold Tp.ld
 cases f:Tp.letter c
 ·go_enter Tryz.func101,Tryz.ntmps101
  go_wp2_with fail
  refine(jd w c).mono ?_
  rintro e d⟨rfl,rfl⟩
  go_wp2_with fail
  refine(kP d c).mono ?_
  rintro e w2⟨rfl,rfl⟩
  go_wp2_with fail
  go_ret
  exact⟨rfl,rfl⟩
 ·go_enter Tryz.func101,Tryz.ntmps101
  go_wp2_with fail
  refine(jd w c).mono ?_
  rintro e d⟨rfl,rfl⟩
  go_wp2_with fail
  go_ret
  exact⟨rfl,rfl⟩
theorem xq {w:World}{d cap:Nat}{l:List UInt8}(h:TxAt w d l)(i:Nat)(m:i<=l.length)(r:l.length<=100000) :
  Calls Tryz.prog 58 #[.slice (some ⟨d,0,none⟩) l.length cap,.int .i64 (i:Int),.func (.func 57) #[] #[]] w fun e w'=>e=.returned (.int .i64 (pastI Tp.blank l i:Int))/\w'=w:=by
 have j:Hid (TxAt w d l):=h
 clear h
 go_enter Tryz.func58,Tryz.ntmps58
 go_wp2_with fail
 go_loop [1] (fun v=>∃k:Nat,k<=l.length/\v=.int .i64 (k:Int)/\pastI Tp.blank l k=pastI Tp.blank l i) (fun v=>l.length-(intOf v).toNat)
 case atStart=>exact⟨i,m,rfl,rfl⟩
 case round =>
  obtain⟨k,q,rfl,f⟩:=hrel
  have c:Hid (pastI Tp.blank l k=pastI Tp.blank l i):=f
  clear f
  by_cases b:k<l.length
  ·have p:=j.out k l[k] (List.getElem?_eq_getElem b)
   have o:(k:Int)<(l.length:Int):=by omega
   cases g:Tp.blank l[k]
   ·go_wp2_with fail
    refine(uy _ l[k]).mono ?_
    rintro e n⟨rfl,rfl⟩
    have a:Hid (pastI Tp.blank l k=k):=kK b g
    go_wp2_with fail
    go_ret
    exact⟨by rw[<-c.out,a.out];rfl,rfl⟩
   ·go_wp2_with fail
    refine(uy _ l[k]).mono ?_
    rintro e n⟨rfl,rfl⟩
    have a:Hid (pastI Tp.blank l (k+1)=pastI Tp.blank l k):=yL b g
    go_wp2_with fail
    go_round
    case rel=>exact⟨k+1,by omega,by go_num,by rw[a.out,c.out]⟩
    case measure=>simp[intOf];omega
  ·have a:Hid (pastI Tp.blank l k=k):=yz b
   go_wp2_with fail
   go_ret
   exact⟨by rw[<-c.out,a.out];rfl,rfl⟩
theorem past_digit {w:World}{d cap:Nat}{l:List UInt8}(h:TxAt w d l)(i:Nat)(m:i<=l.length)(r:l.length<=100000) :
  Calls Tryz.prog 58 #[.slice (some ⟨d,0,none⟩) l.length cap,.int .i64 (i:Int),.func (.func 100) #[] #[]] w fun e w'=>e=.returned (.int .i64 (pastI Tp.digit l i:Int))/\w'=w:=by
 have j:Hid (TxAt w d l):=h
 clear h
 go_enter Tryz.func58,Tryz.ntmps58
 go_wp2_with fail
 go_loop [1] (fun v=>∃k:Nat,k<=l.length/\v=.int .i64 (k:Int)/\pastI Tp.digit l k=pastI Tp.digit l i) (fun v=>l.length-(intOf v).toNat)
 case atStart=>exact⟨i,m,rfl,rfl⟩
 case round =>
  obtain⟨k,q,rfl,f⟩:=hrel
  have c:Hid (pastI Tp.digit l k=pastI Tp.digit l i):=f
  clear f
  by_cases b:k<l.length
  ·have p:=j.out k l[k] (List.getElem?_eq_getElem b)
   have o:(k:Int)<(l.length:Int):=by omega
   cases g:Tp.digit l[k]
   ·go_wp2_with fail
    refine(kP _ l[k]).mono ?_
    rintro e n⟨rfl,rfl⟩
    have a:Hid (pastI Tp.digit l k=k):=kK b g
    go_wp2_with fail
    go_ret
    exact⟨by rw[<-c.out,a.out];rfl,rfl⟩
   ·go_wp2_with fail
    refine(kP _ l[k]).mono ?_
    rintro e n⟨rfl,rfl⟩
    have a:Hid (pastI Tp.digit l (k+1)=pastI Tp.digit l k):=yL b g
    go_wp2_with fail
    go_round
    case rel=>exact⟨k+1,by omega,by go_num,by rw[a.out,c.out]⟩
    case measure=>simp[intOf];omega
  ·have a:Hid (pastI Tp.digit l k=k):=yz b
   go_wp2_with fail
   go_ret
   exact⟨by rw[<-c.out,a.out];rfl,rfl⟩
theorem past_ld {w:World}{g cap:Nat}{l:List UInt8}(o:TxAt w g l)(i:Nat)(q:i<=l.length)(x:l.length<=100000)(d c:Nat)(j:w.cell? ⟨d,0,none⟩=some (.func (.func 99) #[] #[]))(h:w.cell? ⟨c,0,none⟩=some (.func (.func 100) #[] #[])) :
  Calls Tryz.prog 58 #[.slice (some ⟨g,0,none⟩) l.length cap,.int .i64 (i:Int),.func (.func 101) #[] #[.pointer (some ⟨d,0,none⟩),.pointer (some ⟨c,0,none⟩)]] w fun e w'=>e=.returned (.int .i64 (pastI Tp.ld l i:Int))/\w'=w:=by
 have p:Hid (TxAt w g l):=o
 clear o
 go_enter Tryz.func58,Tryz.ntmps58
 go_wp2_with fail
 go_loop [1] (fun v=>∃k:Nat,k<=l.length/\v=.int .i64 (k:Int)/\pastI Tp.ld l k=pastI Tp.ld l i) (fun v=>l.length-(intOf v).toNat)
 case atStart=>exact⟨i,q,rfl,rfl⟩
 case round =>
  obtain⟨k,u,rfl,m⟩:=hrel
  have f:Hid (pastI Tp.ld l k=pastI Tp.ld l i):=m
  clear m
  by_cases b:k<l.length
  ·have t:=p.out k l[k] (List.getElem?_eq_getElem b)
   have s:(k:Int)<(l.length:Int):=by omega
   cases n:Tp.ld l[k]
   ·go_wp2_with fail
    refine(ld_any _ l[k] d c j h).mono ?_
    rintro e r⟨rfl,rfl⟩
    have a:Hid (pastI Tp.ld l k=k):=kK b n
    go_wp2_with fail
    go_ret
    exact⟨by rw[<-f.out,a.out];rfl,rfl⟩
   ·go_wp2_with fail
    refine(ld_any _ l[k] d c j h).mono ?_
    rintro e r⟨rfl,rfl⟩
    have a:Hid (pastI Tp.ld l (k+1)=pastI Tp.ld l k):=yL b n
    go_wp2_with fail
    go_round
    case rel=>exact⟨k+1,by omega,by go_num,by rw[a.out,f.out]⟩
    case measure=>simp[intOf];omega
  ·have a:Hid (pastI Tp.ld l k=k):=yz b
   go_wp2_with fail
   go_ret
   exact⟨by rw[<-f.out,a.out];rfl,rfl⟩
end Go.Proofs.YtibncofnnlbmcaaGreatDoor
