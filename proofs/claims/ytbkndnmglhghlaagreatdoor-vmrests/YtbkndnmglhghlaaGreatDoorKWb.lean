import Derived.Test.YtbkndnmglhghlaaGreatDoorKWa
import Derived.RegionDies
import Derived.Deep.DeepCutAuto
import Derived.Deep.RegionHeld3
set_option maxRecDepth 100000
set_option maxHeartbeats 4000000

namespace Go.Proofs.YtbkndnmglhghlaaGreatDoor
open Go.RowKit
open Tp (Tok hd tx at' stp X)
variable {a c d g j r:List Tok}{vs:List Value}{l x:List X}{B b f i n o:Nat}{p:Ps}{t:TypeId}{v:Value}{w w':World}
theorem za {a:Array Value}(h:w.heap[b]?=some (.cells a t (0,0))):w.cell? ⟨b,i,none⟩=a[i]?:=by
 simp[World.cell?,h]
theorem zi {a:Array Value}(h:w.heap[b]?=some (.cells a t (0,0))):w.frozen? ⟨b,i,none⟩=false:=by
 simp[World.frozen?,h]
theorem zy {a:Array Value}(i:Nat)(v:Value)(h:w.heap[b]?=some (.cells a t (0,0))):(w.setCell ⟨b,i,none⟩ v).heap[b]?=some (.cells (a.setIfInBounds i v) t (0,0)):=by
 exact heap_setCell_same w b i a t v h
theorem zc {a:Obj}(h:w.heap[b]?=some a):b<w.heap.size:=by rw[Array.getElem?_eq_some_iff]at h;exact h.1
theorem zl (w:World)(a:Obj):(w.alloc a).heap[w.heap.size]?=some a:=by show (w.heap.push _)[w.heap.size]?=_;simp
def xcells (code pos n:Int) (mod name op:ByteArray) (lv rv av:Value):Array Value:=#[.int .i64 code,.int .i64 pos,.int .i64 n,.string mod,.string name,.string op,lv,rv,av]
def LevelC (p:Ps) (ts:List Tok) (f:Nat):Prop:=∀(w:World) (r:List Tok) (o b n:Nat),St w p ts r o b->o<=11->n<=5->Tp.ex f n o 0 [] r≠.error (99,0) ->
 Calls Tryz.prog 203 #[.pointer (some ⟨p.pb,0,none⟩),.int .i64 (n:Int)] w fun e w'=>Post p ts o b w (VX w.heap.size) (Tp.ex f n o 0 [] r) e w'
def argsS (f o:Nat) (r:List Tok):Except Tp.Er (List X×List Tok):=if tx r=Tp.mRp then .ok ([],r) else Tp.ex f 7 o 0 [] r
def VA (B:Nat) (l:List X) (v:Value) (w:World):Prop:=∃vs,RepL w (fun b=>B<=b/\v.ownBlock≠some b) l vs/\w.ownsRow B 214 1 v vs.length vs
def ArgsC (p:Ps) (ts:List Tok) (f:Nat):Prop:=∀(w:World) (r:List Tok) (o b:Nat),St w p ts r o b->o<=10->argsS f o r≠.error (99,0) ->
 Calls Tryz.prog 205 #[.pointer (some ⟨p.pb,0,none⟩)] w fun e w'=>Post p ts o b w (VA w.heap.size) (argsS f o r) e w'
theorem yG (j:LevelC p a f){w:World}{r:List Tok}{o b:Nat}(h:St w p a r o b)(q:o<=11)(g:Tp.ex f 0 o 0 [] r≠.error (99,0)) :
  Calls Tryz.prog 180 #[.pointer (some ⟨p.pb,0,none⟩)] w fun e w'=>Post p a o b w (VX w.heap.size) (Tp.ex f 0 o 0 [] r) e w':=by
 generalize c:Tp.ex f 0 o 0 [] r=res at g
 have d:=j w r o b 0 h q (by omega) (by rw[c];exact g)
 rw[c]at d
 have n:Hid (Calls Tryz.prog 203 #[.pointer (some ⟨p.pb,0,none⟩),.int .i64 ((0:Nat):Int)] w fun e w'=>Post p a o b w (VX w.heap.size) res e w'):=d
 clear d j c g
 go_enter Tryz.func180,Tryz.ntmps180
 go_wp2_with fail
 refine n.out.mono ?_
 intro e B k
 rcases res with er|⟨x,A⟩
 ·obtain⟨l,i⟩:=k
  obtain⟨t,u,rfl,y,z⟩:=l.out
  go_wp2_with fail
  exact⟨rfl,l,i⟩
 ·obtain⟨v,rfl,s,m,i⟩:=k
  go_wp2_with fail
  go_ret
  exact⟨_,rfl,s,m,i⟩
theorem zu (h:Below B w w')(a:B<=b)(i:Nat)(v:Value):Below B w (w'.setCell ⟨b,i,none⟩ v):=h.setCell a v
theorem VX.ptr (h:VX B l v w):∃bb,v=.pointer (some ⟨bb,0,none⟩):=by
 unfold VX at h
 cases l with
 |nil=>rw[RepL]at h;simp at h
 |cons x xs =>
  obtain⟨code,pos,i,c,name,op,left,right,args⟩:=x
  rw[RepL]at h
  obtain⟨b,e,g,rs,f,d,a,_⟩:=h
  simp at a
  exact⟨b,a.1⟩
theorem VA.ext {w w':World}{B b:Nat}(k:Ext b w w')(d:b<B){l:List X}{v:Value}(h:VA B l v w):VA B l v w':=by
 obtain⟨vs,a,c⟩:=h
 exact⟨vs,RepL.ext k (by omega) a,zD c k d⟩
theorem VA.base {B':Nat}(h:VA B l v w)(b:B'<=B):VA B' l v w:=by
 obtain⟨vs,e,a⟩:=h
 refine⟨vs,RepL.mono (fun _ c _=>⟨rfl,Nat.le_trans b c.1,c.2⟩) (SizeOf.sizeOf l) l vs zn e,a.1,?_⟩
 rcases a.2 with q|⟨g,cap,d,f,i,j⟩
 ·exact Or.inl q
 ·exact Or.inr ⟨g,cap,d,f,Nat.le_trans b i,j⟩
theorem VX.node {code pos:Nat}{m name op:List UInt8}{left right args:List X}{d e c:Value}(o:B<=b)
  (j:w.heap[b]?=some (.cells (xcells code pos n (bs m) (bs name) (bs op) d e c) 236 (0,0)))
  (x:left=[]/\d=.pointer none\/VX B left d w)(y:right=[]/\e=.pointer none\/VX B right e w)(t:args=[]/\c=.slice none 0 0\/VA B args c w) :
  VX B [⟨code,pos,n,m,name,op,left,right,args⟩] (.pointer (some ⟨b,0,none⟩)) w:=by
 have k:∀(l:List X) (v:Value),(l=[]/\v=.pointer none\/VX B l v w)->∃a:List Value,v=a.headD (.pointer none)/\RepL w (fun b=>B<=b) l a/\a.length<=1:=by
  intro l v h
  rcases h with⟨rfl,rfl⟩|h
  ·exact⟨[],rfl,by rw[RepL],by simp⟩
  ·exact⟨[v],rfl,h,by simp⟩
 obtain⟨a,rfl,p,q⟩:=k left d x
 obtain⟨rs,rfl,r,s⟩:=k right e y
 unfold VX
 rw[RepL]
 rcases t with⟨rfl,rfl⟩|⟨vs,a1,a2⟩
 ·exact⟨b,.slice none 0 0,a,rs,[],[],rfl,o,j,p,q,r,s,by rw[RepL],Or.inl ⟨rfl,rfl⟩,by rw[RepL]⟩
 ·refine⟨b,c,a,rs,vs,[],rfl,o,j,p,q,r,s,RepL.mono (fun _ u _=>⟨rfl,u.1⟩) (SizeOf.sizeOf args) _ _ zn a1,?_,by rw[RepL]⟩
  rcases a2.2 with⟨f,i⟩|⟨g,cap,cur,f,i,q3,q4,q5,q6,q7⟩
  ·exact Or.inl ⟨List.eq_nil_of_length_eq_zero i,f⟩
  ·exact Or.inr ⟨g,cap,cur,f,i,q3,q4,q5,by simpa using q6,by simpa using q7⟩
def namedT (f o pos:Nat) (m n:List UInt8) (r2:List Tok):Except Tp.Er (List X×List Tok) :=
 if tx r2=Tp.mLb then do
  let (x,r3) <- Tp.ex f 0 (o+1) 0 [] (stp r2)
  let r4 <- Tp.want Tp.mRb r3
  .ok ([⟨3,pos,0,m,n,[],x,[],[]⟩],r4)
 else if tx r2=Tp.mLp then do
  let (l,r3) <- argsS f o (stp r2)
  let r4 <- Tp.want Tp.mRp r3
  .ok ([⟨6,pos,0,m,n,[],[],[],l⟩],r4)
 else .ok ([⟨2,pos,0,m,n,[],[],[],[]⟩],r2)
theorem ex6_bad {a:Tp.Er}(h:Tp.name r=.error a):Tp.ex (f+1) 6 o 0 [] r=.error a:=by
 rw[Tp.ex,h];rfl
theorem uG {d:List UInt8}{b:Tp.Er}(h:Tp.name r=.ok (d,a))(hd:tx a=Tp.mDot)(c:Tp.name (stp a)=.error b):Tp.ex (f+1) 6 o 0 [] r=.error b:=by
 rw[Tp.ex];simp only[h,hd,c,bind,Except.bind];rfl
theorem vy (f o pos:Nat)(m n:List UInt8)(a:List Tok) :
  (if tx a=Tp.mLb then do
   let (x,r3) <- Tp.ex f 0 (o+1) 0 [] (stp a)
   let r4 <- Tp.want Tp.mRb r3
   .ok ([⟨3,pos,0,m,n,[],x,[],[]⟩],r4)
  else if tx a=Tp.mLp then
   if tx (stp a)=Tp.mRp then .ok ([⟨6,pos,0,m,n,[],[],[],[]⟩],stp (stp a))
   else do
    let (l,r3) <- Tp.ex f 7 o 0 [] (stp a)
    let r4 <- Tp.want Tp.mRp r3
    .ok ([⟨6,pos,0,m,n,[],[],[],l⟩],r4)
  else .ok ([⟨2,pos,0,m,n,[],[],[],[]⟩],a):Except Tp.Er (List X×List Tok))=namedT f o pos m n a:=by
 unfold namedT argsS
 by_cases c:tx a=Tp.mLb
 ·simp only[c,if_true]
 ·by_cases b:tx a=Tp.mLp
  ·by_cases d:tx (stp a)=Tp.mRp
   ·simp[b,d,bind,Except.bind,Tp.want]
   ·simp[b,d]
  ·simp only[c,b,if_false]
theorem ex6_dot {b c:List UInt8}(h:Tp.name r=.ok (b,a))(hd:tx a=Tp.mDot)(e:Tp.name (stp a)=.ok (c,d)):Tp.ex (f+1) 6 o 0 [] r=namedT f o (at' r) b c d:=by
 rw[Tp.ex,<-vy]
 simp only[h,hd,e,bind,Except.bind,if_true]
 rfl
theorem ex6_no {b:List UInt8}(h:Tp.name r=.ok (b,a))(hd:¬tx a=Tp.mDot):Tp.ex (f+1) 6 o 0 [] r=namedT f o (at' r) [] b a:=by
 rw[Tp.ex,<-vy]
 simp only[h,hd,bind,Except.bind,if_false]
 rfl
theorem uk {nm:List UInt8}(h:St w p d r o b)(i:Hid (Tp.name r=.ok (nm,c))) :
  Calls Tryz.prog 75 #[.pointer (some ⟨p.pb,0,none⟩)] w fun e w'=>e=.returned (.string (bs nm))/\St w' p d c o b/\Ext p.pb w w':=by
 refine(ki h).mono ?_
 intro e w' a
 rw[i.out]at a
 obtain⟨v,f,rfl,g⟩:=a
 exact⟨f,g⟩
theorem um {f:List Tok}{a:Tp.Er}(h:St w p f r o b)(d:Hid (Tp.name r=.error a)) :
  Calls Tryz.prog 75 #[.pointer (some ⟨p.pb,0,none⟩)] w fun e w'=>Thrown w.heap.size a e w'/\Ext p.pb w w':=by
 refine(ki h).mono ?_
 intro e w' c
 rw[d.out]at c
 exact c
theorem zt (w:World):Below w.heap.size w w.drew:=(Below.refl _ _).drew
theorem named_post (hL:LevelC p g f)(hA:ArgsC p g f){w:World}{r:List Tok}{o b:Nat}(h:St w p g r o b)(ho:o<=10)(hn:Tp.ex (f+1) 6 o 0 [] r≠.error (99,0)) :
  Calls Tryz.prog 181 #[.pointer (some ⟨p.pb,0,none⟩)] w fun e w'=>Post p g o b w (VX w.heap.size) (Tp.ex (f+1) 6 o 0 [] r) e w':=by
 have HL:Hid (LevelC p g f):=hL
 have HA:Hid (ArgsC p g f):=hA
 have e1:=zg h.c0
 have HN:Hid (Tp.ex (f+1) 6 o 0 [] r≠.error (99,0)):=hn
 clear hL hA hn
 go_enter Tryz.func181,Tryz.ntmps181
 go_wp2_with fail
 refine(zK h).mono ?_
 rintro e w1⟨rfl,a1⟩
 have d8:=a1.size
 go_wp2_with fail
 refine(ki (h.below a1)).mono ?_
 intro e w2 d
 generalize z:Tp.name r=res at d
 rcases res with er|⟨nm,J⟩
 ·have HR:Hid (Tp.name r=.error er):=z
  clear z
  obtain⟨i,a3⟩:=d
  obtain⟨ab,N,rfl,h2,h3⟩:=i.out
  go_wp2_with fail
  refine⟨rfl,?_⟩
  rw[ex6_bad HR.out]
  exact zw (Ext.below a1) i a3
 ·have HR:Hid (Tp.name r=.ok (nm,J)):=z
  clear z
  obtain⟨v,rfl,rfl,c7,a3⟩:=d
  have d9:=a3.size
  go_wp2_with fail
  have b8:∀ob,Below w2.heap.size w2 (w2.alloc ob):=fun ob=>zb _ _
  refine(zQ (c7.below (b8 _)) Tp.mDot _ rfl).mono ?_
  rintro e j⟨rfl,Z,c1⟩
  obtain⟨a,d2⟩:∃a,a=w2.heap.size:=⟨_,rfl⟩
  have q:j.heap[w2.heap.size]?=some (.cells (xcells 2 (hd r).pos 0 ⟨#[]⟩ (bs nm) ⟨#[]⟩ (.pointer none) (.pointer none) (.slice none 0 0)) 236 (0,0)):=by
   rw[c1.block _ (by simp) (by omega)];exact zl _ _
  have b7:Ext p.pb w j:=((Ext.below a1).trans a3).trans ((Ext.below (b8 _)).trans c1)
  clear b8 c1 a3 c7 a1
  rw[<-d2]at q ⊢
  have T:w.heap.size<=a:=by omega
  have c2:p.pb<a:=by omega
  clear d2
  go_upto_if 12 with fail
  go_cut [] (fun wc=>∃m n c,St wc p g c o b/\wc.heap[a]?=some (.cells (xcells 2 (hd r).pos 0 (bs m) (bs n) ⟨#[]⟩ (.pointer none) (.pointer none) (.slice none 0 0)) 236 (0,0))/\Ext p.pb w wc/\Tp.ex (f+1) 6 o 0 [] r=namedT f o (at' r) m n c)
  case first =>
   by_cases G:tx J=Tp.mDot
   ·have Y:=decide_eq_true G
    rw[if_pos G]at Z
    have HD:Hid (tx J=Tp.mDot):=G
    clear G
    have d7:=zc q
    have k3:j.cell? ⟨a,3,none⟩=some (.string ⟨#[]⟩):=za q
    have k4:j.cell? ⟨a,4,none⟩=some (.string (bs nm)):=za q
    have z3:j.frozen? ⟨a,3,none⟩=false:=zi q
    have z4:j.frozen? ⟨a,4,none⟩=false:=zi q
    rcases hres2:Tp.name (stp J) with er|⟨c3,c⟩
    ·have a0:Hid (Tp.name (stp J)=.error er):=hres2
     clear hres2
     have c5:∀e w',Thrown j.drew.heap.size er e w'/\Ext p.pb j.drew w'->Post p g o b w (VX w.heap.size) (Tp.ex (f+1) 6 o 0 [] r) e w':=by
      intro e w' d
      rw[uG HR.out HD.out a0.out]
      exact zw (b7.trans (Ext.below (zt j))) d.1 d.2
     have HF:Hid (∀e w',Thrown j.drew.heap.size er e w'/\Ext p.pb j.drew w'->Post p g o b w (VX w.heap.size) (Tp.ex (f+1) 6 o 0 [] r) e w'):=c5
     clear c5
     go_wp2_with fail
     go_region_dies
     all_goals (refine(um (Z.below (zt j)) a0).mono ?_;intro e Q d;obtain⟨ab,N,h0,h2,h3⟩:=d.1.out;subst h0;exact⟨rfl,HF.out _ _ d⟩)
    ·have a0:Hid (Tp.name (stp J)=.ok (c3,c)):=hres2
     clear hres2
     go_wp2_with fail
     go_region_with (go_at_call 75;refine(uk (Z.below (zt j)) a0).mono ?_;rintro e Q ⟨rfl,d3,d1⟩;have V:=(d1.block a (by simpa using d7) (by omega)).trans q;have y3:Q.cell? ⟨a,3,none⟩=some (.string ⟨#[]⟩):=za V;have y4:Q.cell? ⟨a,4,none⟩=some (.string (bs nm)):=za V;have e2:Q.frozen? ⟨a,3,none⟩=false:=zi V;have e3:Q.frozen? ⟨a,4,none⟩=false:=zi V)
     all_goals
      go_wp2_with fail
      go_meet
      case rel =>
       have c8:Below a Q ((Q.setCell ⟨a,3,none⟩ (.string (bs nm))).setCell ⟨a,4,none⟩ (.string (bs c3))):=zu (zu (Below.refl _ _) zn 3 _) zn 4 _
       exact⟨nm,c3,c,d3.belowB c8 c2,zy 4 _ (zy 3 _ V),((b7.trans (Ext.below (zt j))).trans d1).trans' (c8.mono T),ex6_dot HR.out HD.out a0.out⟩
   ·have Y:=decide_eq_false G
    rw[if_neg G]at Z
    have HD:Hid (¬tx J=Tp.mDot):=G
    clear G
    go_wp2_with fail
    go_meet
    case rel=>exact⟨[],nm,J,Z,q,b7,ex6_no HR.out HD.out⟩
  case rest =>
   obtain⟨m,n,c,b9,q,b5,c4⟩:=hcut
   have D:Hid (Tp.ex (f+1) 6 o 0 [] r=namedT f o (at' r) m n c):=c4
   have e0:=zm
   clear c4
   go_wp2_with fail
   refine(zQ b9 Tp.mLb _ rfl).mono ?_
   rintro e w5⟨rfl,R,b1⟩
   have X:=(b1.block a (zc q) (by omega)).trans q
   have a7:=b5.trans b1
   have b6:=zc X
   by_cases H:tx c=Tp.mLb
   ·have Y:=decide_eq_true H
    rw[if_pos H]at R
    have A:Hid (tx c=Tp.mLb):=H
    clear H
    have a2:Tp.ex f 0 (o+1) 0 [] (stp c)≠.error (99,0):=by
     intro e;apply HN.out;rw[D.out];unfold namedT;rw[if_pos A.out,e];rfl
    have P:=fun W (hW:St W p g (stp c) o b)=>kJ hW (by omega) (Tp.ex f 0 (o+1) 0 [] (stp c)) (fun w1 N _ _=>yG HL.out N (by omega) a2)
    generalize z:Tp.ex f 0 (o+1) 0 [] (stp c)=res at P
    have M:Hid (Tp.ex f 0 (o+1) 0 [] (stp c)=res):=z
    have HW:Hid (∀W,St W p g (stp c) o b->Calls Tryz.prog 204 #[.pointer (some ⟨p.pb,0,none⟩),.func (.func 180) #[.pointer (some ⟨p.pb,0,none⟩)] #[]] W fun e w'=>Post p g o b W (VX W.heap.size) res e w'):=P
    clear P z a2
    go_wp2_with fail
    refine(HW.out _ R).mono ?_
    intro e u d
    rcases res with er|⟨x,t⟩
    ·obtain⟨i,C⟩:=d
     obtain⟨ab,N,rfl,h2,h3⟩:=i.out
     go_wp2_with fail
     refine⟨rfl,?_⟩
     rw[D.out,show namedT f o (at' r) m n c=.error er by unfold namedT;rw[if_pos A.out,M.out];rfl]
     exact zw a7 i C
    ·obtain⟨v,rfl,O,F,C⟩:=d
     obtain⟨bb,rfl⟩:=O.ptr
     have s:=(C.block a b6 (by omega)).trans X
     have k0:u.cell? ⟨a,0,none⟩=some (.int .i64 2):=za s
     have k6:u.cell? ⟨a,6,none⟩=some (.pointer none):=za s
     have z0:u.frozen? ⟨a,0,none⟩=false:=zi s
     have z6:u.frozen? ⟨a,6,none⟩=false:=zi s
     go_wp2_with fail
     clear k0 k6 z0 z6
     have a9:Below a u ((u.setCell ⟨a,0,none⟩ (.int .i64 3)).setCell ⟨a,6,none⟩ (.pointer (some ⟨bb,0,none⟩))):=zu (zu (Below.refl _ _) zn 0 _) zn 6 _
     have y:=zy 6 (.pointer (some ⟨bb,0,none⟩)) (zy 0 (.int .i64 3) s)
     have c9:VX w5.heap.size x (.pointer (some ⟨bb,0,none⟩)) ((u.setCell ⟨a,0,none⟩ (.int .i64 3)).setCell ⟨a,6,none⟩ (.pointer (some ⟨bb,0,none⟩))):=VX.ext (((Ext.refl a u).set 0 _).set 6 _) b6 O
     have K:=F.belowB a9 c2
     have b3:=(a7.trans C).trans' (a9.mono T)
     generalize (u.setCell ⟨a,0,none⟩ (.int .i64 3)).setCell ⟨a,6,none⟩ (.pointer (some ⟨bb,0,none⟩))=B at a9 y c9 K b3 ⊢
     have d5:=a7.size
     clear s a9 O F C R X b1 b9 b5
     by_cases k:tx t=Tp.mRb
     ·refine(zF K Tp.mRb _ rfl k).mono ?_
      rintro e w8⟨rfl,S,a5⟩
      have L:Hid (tx t=Tp.mRb):=k
      clear k K
      go_wp2_with fail
      go_ret
      rw[D.out,show namedT f o (at' r) m n c=.ok ([⟨3,at' r,0,m,n,[],x,[],[]⟩],stp t) by unfold namedT;rw[if_pos A.out,M.out];simp only[bind,Except.bind,Tp.want,if_pos L.out]]
      exact⟨_,rfl,VX.node T ((a5.block a (zc y) (by omega)).trans y) (Or.inr ((VX.ext a5 (by omega) c9).base d5)) (Or.inl ⟨rfl,rfl⟩) (Or.inl ⟨rfl,rfl⟩),S,b3.trans a5⟩
     ·refine(zN K Tp.mRb _ rfl k).mono ?_
      rintro e w8⟨i,a5⟩
      have L:Hid (¬tx t=Tp.mRb):=k
      clear k
      obtain⟨ab,N,rfl,h2,h3⟩:=i.out
      go_wp2_with fail
      refine⟨rfl,?_⟩
      rw[D.out,show namedT f o (at' r) m n c=.error (3,at' t) by unfold namedT;rw[if_pos A.out,M.out];simp only[bind,Except.bind,Tp.want,if_neg L.out]]
      exact zw b3 i a5
   ·have Y:=decide_eq_false H
    rw[if_neg H]at R
    have A:Hid (¬tx c=Tp.mLb):=H
    clear H
    go_wp2_with fail
    refine(zQ R Tp.mLp _ rfl).mono ?_
    rintro e u⟨rfl,F,C⟩
    have s:=(C.block a b6 (by omega)).trans X
    have a8:=a7.trans C
    have c6:=zc s
    clear R b1 b9 b5 q X
    by_cases I:tx c=Tp.mLp
    ·have Y:=decide_eq_true I
     rw[if_pos I]at F
     have U:Hid (tx c=Tp.mLp):=I
     clear I
     have a2:argsS f o (stp c)≠.error (99,0):=by
      intro e;apply HN.out;rw[D.out];unfold namedT;rw[if_neg A.out,if_pos U.out,e];rfl
     have P:=fun W (hW:St W p g (stp c) o b)=>HA.out W (stp c) o b hW ho a2
     generalize z:argsS f o (stp c)=res at P
     have M:Hid (argsS f o (stp c)=res):=z
     have HW:Hid (∀W,St W p g (stp c) o b->Calls Tryz.prog 205 #[.pointer (some ⟨p.pb,0,none⟩)] W fun e w'=>Post p g o b W (VA W.heap.size) res e w'):=P
     clear P z a2
     go_wp2_with fail
     refine(HW.out _ F).mono ?_
     intro e B d
     rcases res with er|⟨l,t⟩
     ·obtain⟨i,a4⟩:=d
      obtain⟨ab,N,rfl,h2,h3⟩:=i.out
      go_wp2_with fail
      refine⟨rfl,?_⟩
      rw[D.out,show namedT f o (at' r) m n c=.error er by unfold namedT;rw[if_neg A.out,if_pos U.out,M.out];rfl]
      exact zw a8 i a4
     ·obtain⟨v,rfl,O,K,a4⟩:=d
      obtain⟨E,cap,rfl⟩:∃E cap,v=.slice E l.length cap:=by
       obtain⟨vs,q1,q2⟩:=O
       obtain⟨E,cap,q3⟩:=z7 q2
       exact⟨E,cap,by rw[q3,RepL.len _ _ q1]⟩
      have y:=(a4.block a c6 (by omega)).trans s
      have k0:B.cell? ⟨a,0,none⟩=some (.int .i64 2):=za y
      have k8:B.cell? ⟨a,8,none⟩=some (.slice none 0 0):=za y
      have z0:B.frozen? ⟨a,0,none⟩=false:=zi y
      have z8:B.frozen? ⟨a,8,none⟩=false:=zi y
      go_wp2_with fail
      clear k0 k8 z0 z8
      have b0:Below a B ((B.setCell ⟨a,0,none⟩ (.int .i64 6)).setCell ⟨a,8,none⟩ (.slice E l.length cap)):=zu (zu (Below.refl _ _) zn 0 _) zn 8 _
      have b2:=zy 8 (.slice E l.length cap) (zy 0 (.int .i64 6) y)
      have d0:VA u.heap.size l (.slice E l.length cap) ((B.setCell ⟨a,0,none⟩ (.int .i64 6)).setCell ⟨a,8,none⟩ (.slice E l.length cap)):=VA.ext (((Ext.refl a B).set 0 _).set 8 _) c6 O
      have S:=K.belowB b0 c2
      have b4:=(a8.trans a4).trans' (b0.mono T)
      generalize (B.setCell ⟨a,0,none⟩ (.int .i64 6)).setCell ⟨a,8,none⟩ (.slice E l.length cap)=w8 at b0 b2 d0 S b4 ⊢
      have d6:=a8.size
      clear y b0 O K a4 F s C
      by_cases k:tx t=Tp.mRp
      ·refine(zF S Tp.mRp _ rfl k).mono ?_
       rintro e w9⟨rfl,d4,a6⟩
       have L:Hid (tx t=Tp.mRp):=k
       clear k S
       go_wp2_with fail
       go_ret
       rw[D.out,show namedT f o (at' r) m n c=.ok ([⟨6,at' r,0,m,n,[],[],[],l⟩],stp t) by unfold namedT;rw[if_neg A.out,if_pos U.out,M.out];simp only[bind,Except.bind,Tp.want,if_pos L.out]]
       exact⟨_,rfl,VX.node T ((a6.block a (zc b2) (by omega)).trans b2) (Or.inl ⟨rfl,rfl⟩) (Or.inl ⟨rfl,rfl⟩) (Or.inr ((VA.ext a6 (by omega) d0).base d6)),d4,b4.trans a6⟩
      ·refine(zN S Tp.mRp _ rfl k).mono ?_
       rintro e w9⟨i,a6⟩
       have L:Hid (¬tx t=Tp.mRp):=k
       clear k
       obtain⟨ab,N,rfl,h2,h3⟩:=i.out
       go_wp2_with fail
       refine⟨rfl,?_⟩
       rw[D.out,show namedT f o (at' r) m n c=.error (3,at' t) by unfold namedT;rw[if_neg A.out,if_pos U.out,M.out];simp only[bind,Except.bind,Tp.want,if_neg L.out]]
       exact zw b4 i a6
    ·have Y:=decide_eq_false I
     rw[if_neg I]at F
     have U:Hid (¬tx c=Tp.mLp):=I
     clear I
     go_wp2_with fail
     go_ret
     rw[D.out,show namedT f o (at' r) m n c=.ok ([⟨2,at' r,0,m,n,[],[],[],[]⟩],c) by unfold namedT;rw[if_neg A.out,if_neg U.out]]
     exact⟨_,rfl,VX.node T s (Or.inl ⟨rfl,rfl⟩) (Or.inl ⟨rfl,rfl⟩) (Or.inl ⟨rfl,rfl⟩),F,a8⟩
theorem yg {P:Program}(w:World)(s:Nat)(t p e:TypeId)(i:TypeInfo)(z:Value)(size d:Nat)(y:P.underlying t=some (.slice e))(x:P.info? e=some i)(H:i.zero=some z)
  (f:i.size=size)(D:i.bytes=d)(F:z.cells.size=size)(E:0<size)
  (v:Value)(n:Nat)(xs:List Value)(h:w.ownsRow s e size v n xs)
  (a:Addr)(m c:Nat)(b:List Value)(o:b.length=m*size)(r:∀j u,b[j]?=some u->w.cell? (a.add j)=some u)(G:∀u∈b,u.oneCell'=true)
  (C:n+m<=maxLen)(B:(n+m)*d<=140737488355328)(K:s<=w.heap.size) :
  ∃q w',(Builtin.append_ #[t,t] p #[v,.slice (some a) m c]).run P w=.ok q w'/\w'.ownsRow s e size q (n+m) (xs++b)/\w.grownBy w' v.ownBlock /\
   (∀g,q.ownBlock=some g->v.ownBlock=some g\/w.heap.size<=g):=by
 obtain⟨q,w',A,N,O,_⟩:=run_append_own (P:=P) w s t p e i z size d y x H f D F E v n xs h a m c b o r G C B K
 refine⟨q,w',A,N,O,?_⟩
 rcases h.2 with⟨rfl,rfl⟩|⟨g,cap,cur,rfl,q1,q2,q3,q4,q5,q6⟩
 ·have M:xs=[]:=List.eq_nil_of_length_eq_zero (by simpa using h.1)
  subst M
  obtain⟨Q,R,s1,s2,_⟩:=run_append_own (P:=P) w w.heap.size t p e i z size d y x H f D F E (.slice none 0 0) 0 [] (World.ownsRow_nil _ _ _ _) a m c b o r G C B zn
  rw[A]at s1
  cases s1
  intro g k
  exact Or.inr (zL s2 g k)
 ·have S:∀j,j<cap*size->w.cell? ⟨g,j,none⟩=cur[j]?:=fun j _=>za q2
  by_cases I:n+m<=cap
  ·have T:n*size+b.length<=cap*size:=by rw[o,<-Nat.add_mul];exact Nat.mul_le_mul_right _ I
   have s1:=run_append_room_cells (P:=P) w t p e i y x g 0 n cap a m c b (by rw[f];exact o) r G I
    (fun j l=>by rw[f,za q2,Nat.zero_add,Array.getElem?_eq_getElem (by omega)];rfl) (fun j l=>zi q2)
   rw[A]at s1
   cases s1
   intro J k
   exact Or.inl k
  ·obtain⟨Q,R,s1,s2,_⟩:=run_append_arg_grows (P:=P) w t p e i z size d y x H f D F E ⟨g,0,none⟩ n cap xs h.1
    (fun j u l=>by
     have L:j<xs.length:=by rw[List.getElem?_eq_some_iff]at l;exact l.1
     rw[Addr.add_lit,za q2,Nat.zero_add,<-Array.getElem?_toList,<-l,<-q6,List.getElem?_take_of_lt (by rw[<-h.1];exact L)])
    a m c b o r (by omega) C B
   rw[A]at s1
   cases s1
   intro J k
   exact Or.inr (zL s2 J k)
theorem zH {P:Program}(w:World){p:Array Oper}{rest:List Oper}{o:Oper}{a:Act}{Q:Exit->Act->World->Prop}(E:o.guard=none)(s x:Operand)(t:TypeId)
  (M:o.op=.call { callee:=.builtin .append,args:=#[s,x],argTypes:=#[t,t] })
  (f:Nat)(e:TypeId)(i:TypeInfo)(z:Value)(size k:Nat)(O:P.underlying t=some (.slice e))(J:P.info? e=some i)(S:i.zero=some z)
  (A:i.size=size)(D:i.bytes=k)(G:z.cells.size=size)(F:0<size)
  (v:Value)(n:Nat)(xs:List Value)(N:a.eval s=v)(B:w.ownsRow f e size v n xs)
  (l:Addr)(m c:Nat)(b:List Value)(R:a.eval x=.slice (some l) m c)(L:b.length=m*size)(y:∀j u,b[j]?=some u->w.cell? (l.add j)=some u)(H:∀u∈b,u.oneCell'=true)
  (C:n+m<=maxLen)(q:(n+m)*k<=140737488355328)(r:f<=w.heap.size)
  (h:∀d w',w'.ownsRow f e size d (n+m) (xs++b)->w.grownBy w' v.ownBlock->(∀g,d.ownBlock=some g->v.ownBlock=some g\/w.heap.size<=g)->wpList P p Q rest (a.put o.dst d) w'):wpList P p Q (o :: rest) a w:=by
 refine wpList_plain E fun K I=>?_
 obtain⟨d,w',T,U,V,W⟩:=yg (P:=P) w f t o.type e i z size k O J S A D G F v n xs B l m c b L y H C q r
 unfold Oper.wp
 simp[execOp,M,resolve,invoke,builtin,N,R,T,Result.andThen]
 exact I _ _ (h d w' U V W)
theorem Tryz.infoPExpr:(Tryz.prog.info? 214).map (fun i=>(i.zero,i.size,i.bytes))=some (some (.pointer none),1,8):=by kernel_rfl
theorem LevelC.mono {g:Nat}(h:LevelC p c g)(k:f<=g):LevelC p c f:=by
 intro w r o b n d i j a
 have e:=(Tp.ex_le k n o 0 [] r).eq rfl a
 have:=h w r o b n d i j (by rw[e];exact a)
 rw[e]at this
 exact this
def argsT (f o:Nat) (r:List Tok):Except Tp.Er (List X×List Tok):=if tx r=Tp.mComma then Tp.ex f 7 o 0 [] (stp r) else .ok ([],r)
theorem xN {a:Tp.Er}(h:Tp.ex f 0 (o+1) 0 [] r=.error a):Tp.ex (f+1) 7 o 0 [] r=.error a:=by
 rw[Tp.ex];simp only[h];rfl
theorem ex7_ok (h:Tp.ex f 0 (o+1) 0 [] r=.ok (x,a)):Tp.ex (f+1) 7 o 0 [] r=addAll x (argsT f o a):=by
 rw[Tp.ex]
 simp only[h,bind,Except.bind,argsT]
 by_cases b:tx a=Tp.mComma
 ·simp[b]
  cases Tp.ex f 7 o 0 [] (stp a) with
  |error e=>rfl
  |ok v=>rfl
 ·simp[b,addAll]
theorem RepL.grown {c:Value}(h:RepL w (fun b=>B<=b/\v.ownBlock≠some b) l vs)(d:w.grownBy w' v.ownBlock)(i:∀g,c.ownBlock=some g->v.ownBlock=some g\/w.heap.size<=g) :
  RepL w' (fun b=>B<=b/\c.ownBlock≠some b) l vs:=by
 refine RepL.mono (fun b a f=>⟨d.block b f (fun e=>a.2 e.symm),a.1,fun e=>?_⟩) (SizeOf.sizeOf l) l vs zn h
 rcases i b e with h1|h1
 ·exact a.2 h1
 ·omega
theorem VA.snoc {a u:Value}(h:RepL w (fun b=>B<=b/\v.ownBlock≠some b) l vs)(f:RepL w (fun b=>B<=b/\v.ownBlock≠some b) x [u])
  (e:w'.ownsRow B 214 1 a (vs.length+1) (vs++[u]))(c:w.grownBy w' v.ownBlock)(d:∀g,a.ownBlock=some g->v.ownBlock=some g\/w.heap.size<=g) :
  RepL w' (fun b=>B<=b/\a.ownBlock≠some b) (l++x) (vs++[u])/\w'.ownsRow B 214 1 a (vs++[u]).length (vs++[u]) :=
 ⟨RepL.app _ _ _ _ (h.grown c d) (f.grown c d),by simpa using e⟩
theorem RepL.of_new {C:Nat}(h:RepL w (fun b=>C<=b) l vs)(a:B<=C)(d:∀g,v.ownBlock=some g->g<C):RepL w (fun b=>B<=b/\v.ownBlock≠some b) l vs :=
 RepL.mono (fun b c _=>⟨rfl,Nat.le_trans a c,fun e=>by have:=d b e;omega⟩) (SizeOf.sizeOf l) l vs zn h
theorem RepL.alloc {w:World}{D:Nat->Prop}{l:List X}{vs:List Value}(h:RepL w D l vs)(a:Obj):RepL (w.alloc a) D l vs :=
 RepL.mono (fun b c d=>⟨Below.heap_alloc w a b d,c⟩) (SizeOf.sizeOf l) l vs zn h
theorem args_none (h:St w p d r o b)(c:tx r=Tp.mRp) :
  Calls Tryz.prog 205 #[.pointer (some ⟨p.pb,0,none⟩)] w fun e w'=>e=.returned (.slice none 0 0)/\St w' p d r o b/\Ext p.pb w w':=by
 have f:=decide_eq_true c
 clear c
 go_enter Tryz.func205,Tryz.ntmps205
 go_wp2_with fail
 refine(yy h Tp.mRp _ rfl).mono ?_
 rintro e g⟨rfl,a⟩
 go_wp2_with fail
 go_ret
 exact⟨rfl,h.below a,Ext.below a⟩
theorem args_some {i:List Tok}(hL:LevelC p i f){w:World}{r:List Tok}{o b:Nat}(h:St w p i r o b)(ho:o<=10)(hr:tx r≠Tp.mRp)(e0:f<=100000)(Y:Tp.ex f 7 o 0 [] r≠.error (99,0)) :
  Calls Tryz.prog 205 #[.pointer (some ⟨p.pb,0,none⟩)] w fun e w'=>Post p i o b w (VA w.heap.size) (Tp.ex f 7 o 0 [] r) e w':=by
 obtain⟨i0,hi,d3,d4,d5⟩:=info_parts Tryz.infoPExpr
 have e1:=zm
 have U:=zg h.c0
 have d6:=decide_eq_false hr
 obtain⟨c,rfl⟩:∃c,f=c+1:=by
  cases f with
  |zero=>exact absurd rfl Y
  |succ k=>exact⟨k,rfl⟩
 have b4:LevelC p i c:=hL.mono (by omega)
 have HL:Hid (∀g,g<=c->∀W q,St W p i q o b->Tp.ex g 0 (o+1) 0 [] q≠.error (99,0)->Calls Tryz.prog 204 #[.pointer (some ⟨p.pb,0,none⟩),.func (.func 180) #[.pointer (some ⟨p.pb,0,none⟩)] #[]] W fun e w'=>Post p i o b W (VX W.heap.size) (Tp.ex g 0 (o+1) 0 [] q) e w') :=
  fun g hg W q hW d=>kJ hW (by omega) _ (fun w1 V _ _=>yG (b4.mono hg) V (by omega) d)
 have HN:Hid (Tp.ex (c+1) 7 o 0 [] r≠.error (99,0)):=Y
 clear hr Y hL b4
 go_enter Tryz.func205,Tryz.ntmps205
 go_wp2_with fail
 refine(yy h Tp.mRp _ rfl).mono ?_
 rintro e w1⟨rfl,C⟩
 have b0:=h.below C
 go_wp2_with fail
 have D:Tp.ex c 0 (o+1) 0 [] r≠.error (99,0):=fun e=>HN.out (xN e)
 refine(HL.out c zn _ r b0 D).mono ?_
 intro e m d
 generalize A:Tp.ex c 0 (o+1) 0 [] r=res at d
 have b3:Hid (Tp.ex c 0 (o+1) 0 [] r=res):=A
 clear A D
 rcases res with er|⟨x,r1⟩
 ·obtain⟨G,E⟩:=d
  obtain⟨ab,V,rfl,h2,h3⟩:=G.out
  go_wp2_with fail
  refine⟨rfl,?_⟩
  rw[xN b3.out]
  exact zw (Ext.below C) G E
 ·obtain⟨v,rfl,Z,b1,E⟩:=d
  obtain⟨bb,rfl⟩:=Z.ptr
  have d8:=C.size
  have d9:=E.size
  have c9:Ext p.pb w m:=(Ext.below C).trans E
  go_wp2_with fail
  have a7:St (m.alloc (.cells #[.pointer (some ⟨bb,0,none⟩)] 214)) p i r1 o b:=b1.below (zb _ _)
  have a1:Ext p.pb w (m.alloc (.cells #[.pointer (some ⟨bb,0,none⟩)] 214)):=c9.trans (Ext.below (zb _ _))
  have a2:(m.alloc (.cells #[.pointer (some ⟨bb,0,none⟩)] 214)).ownsRow w.heap.size 214 1 (.slice (some ⟨m.heap.size,0,none⟩) 1 1) 1 [.pointer (some ⟨bb,0,none⟩)] :=
   ⟨rfl,Or.inr ⟨m.heap.size,1,#[.pointer (some ⟨bb,0,none⟩)],rfl,by omega,zl _ _,by omega,by unfold maxLen;omega,rfl,rfl⟩⟩
  have a3:RepL (m.alloc (.cells #[.pointer (some ⟨bb,0,none⟩)] 214)) (fun b=>w.heap.size<=b/\(Value.slice (some ⟨m.heap.size,0,none⟩) 1 1).ownBlock≠some b) x [.pointer (some ⟨bb,0,none⟩)]:=by
   refine RepL.mono (fun b hb hl=>⟨Below.heap_alloc m _ b hl,by omega,fun e=>?_⟩) (SizeOf.sizeOf x) x _ zn Z
   simp[Value.ownBlock]at e;omega
  clear b1 E C b0 Z
  go_loopg [3] c (fun k v wr=>∃(l:List X) (vs:List Value) (a:List Tok),k<=c/\RepL wr (fun b=>w.heap.size<=b/\v.ownBlock≠some b) l vs/\wr.ownsRow w.heap.size 214 1 v vs.length vs/\St wr p i a o b/\Ext p.pb w wr/\addAll l (argsT k o a)=Tp.ex (c+1) 7 o 0 [] r/\vs.length+k<=c+1)
  case atStart=>exact⟨x,_,r1,Nat.le_refl _,a3,a2,a7,a1,(ex7_ok b3.out).symm,by simp;omega⟩
  case round =>
   obtain⟨l,vs,a,hk,a9,S,b6,a8,a6,d7⟩:=hrel
   have K:Hid (addAll l (argsT gk o a)=Tp.ex (c+1) 7 o 0 [] r):=a6
   obtain⟨ao,cap,d2⟩:=z7 S
   subst d2
   clear a6 a7 a1 a2 a3
   go_wp2_with fail
   refine(zQ b6 Tp.mComma _ rfl).mono ?_
   rintro e H⟨rfl,B,J⟩
   have Q:=RepL.ext J (by omega) a9
   have I:=zD S J U
   have z:=a8.trans J
   clear a9 S a8 b6
   by_cases n:tx a=Tp.mComma
   ·have b8:=decide_eq_true n
    rw[if_pos n]at B
    have F:Hid (tx a=Tp.mComma):=n
    have R:Tp.ex gk 7 o 0 [] (stp a)≠.error (99,0):=by
     intro e;apply HN.out;rw[<-K.out];unfold argsT;rw[if_pos F.out,e];rfl
    obtain⟨g,rfl⟩:∃g,gk=g+1:=by
     cases gk with
     |zero=>exact absurd rfl R
     |succ k=>exact⟨k,rfl⟩
    have D:Tp.ex g 0 (o+1) 0 [] (stp a)≠.error (99,0):=fun e=>R (xN e)
    have M:=HL.out g (by omega) H (stp a) B D
    clear n R D
    generalize A:Tp.ex g 0 (o+1) 0 [] (stp a)=res at M
    have HR:Hid (Tp.ex g 0 (o+1) 0 [] (stp a)=res):=A
    have d0:Hid (Calls Tryz.prog 204 #[.pointer (some ⟨p.pb,0,none⟩),.func (.func 180) #[.pointer (some ⟨p.pb,0,none⟩)] #[]] H fun e w'=>Post p i o b H (VX H.heap.size) res e w'):=M
    clear A M
    go_wp2_with fail
    refine d0.out.mono ?_
    intro e w6 d
    rcases res with er|⟨y,r2⟩
    ·obtain⟨G,s⟩:=d
     obtain⟨ab,V,rfl,h2,h3⟩:=G.out
     go_wp2_with fail
     refine⟨rfl,?_⟩
     rw[<-K.out,show argsT (g+1) o a=.error er by unfold argsT;rw[if_pos F.out,xN HR.out]]
     exact zw z G s
    ·obtain⟨u,rfl,t,b2,s⟩:=d
     obtain⟨ub,rfl⟩:=t.ptr
     have P:=zD I s U
     have a5:=RepL.ext s (by omega) Q
     have N:=z.trans s
     have c8:=N.size
     have c7:=z.size
     have d1:∀q,(Value.slice ao vs.length cap).ownBlock=some q->q<H.heap.size:=fun q d=>(I.lt q d).2
     have b7:=t.of_new (v:=.slice ao vs.length cap) c7 d1
     clear t I Q B J s z
     go_wp2_with (at_builtin;refine zH _ rfl _ _ 234 rfl w.heap.size 214 i0 (.pointer none) 1 8 Tryz.underlying234 hi d3 d4 d5 rfl (by decide) _ _ _ rfl (P.alloc _) ⟨w6.heap.size,0,none⟩ 1 1 [.pointer (some ⟨ub,0,none⟩)] rfl rfl ?c1 ?c2 ?c3 ?c4 ?c5 ?_)
     case c1 =>
      intro j u L
      match j,L with
      | 0,L=>simp at L;subst L;simp[Addr.add]
     case c2=>intro u t;simp at t;subst t;rfl
     case c3=>unfold maxLen;omega
     case c4=>omega
     case c5=>simp;omega
     ·intro v' w7 a4 O a0
      have T:Below w.heap.size w6 w7:=((Below.refl _ _).alloc c8 _).trans ((Below.refl _ _).grown O (by simp;omega) (zL P))
      have c6:=b2.belowB T U
      have b9:Ext p.pb w w7:=N.trans' T
      have b5:=VA.snoc (a5.alloc _) (b7.alloc _) a4 O (by simpa using a0)
      clear O a0 P a4 a5 b7 b2 N T
      go_wp2_with fail
      go_roundg g
      case measure=>omega
      case rel =>
       refine⟨l++y,vs++[.pointer (some ⟨ub,0,none⟩)],r2,by omega,b5.1,b5.2,c6,b9,?_,by simp;omega⟩
       rw[<-K.out,<-yZ,<-ex7_ok HR.out,show argsT (g+1) o a=Tp.ex (g+1) 7 o 0 [] (stp a) by unfold argsT;rw[if_pos F.out]]
   ·have b8:=decide_eq_false n
    rw[if_neg n]at B
    have F:Hid (¬tx a=Tp.mComma):=n
    clear n
    go_wp2_with fail
    go_ret
    rw[<-K.out,show argsT gk o a=.ok ([],a) by unfold argsT;rw[if_neg F.out]]
    exact⟨_,rfl,⟨vs,by simpa using Q,I⟩,B,z⟩
theorem args_post (g:f<=100000)(k:LevelC p d f):ArgsC p d f:=by
 intro w r o b h l c
 unfold argsS at c ⊢
 by_cases a:tx r=Tp.mRp
 ·rw[if_pos a]
  refine(args_none h a).mono ?_
  rintro e w'⟨rfl,i,j⟩
  exact⟨_,rfl,⟨[],by rw[RepL],World.ownsRow_nil _ _ _ _⟩,i,j⟩
 ·rw[if_neg a]at c ⊢
  exact args_some k h l a g c
def NamedC (p:Ps) (ts:List Tok) (f:Nat):Prop:=∀(w:World) (r:List Tok) (o b:Nat),St w p ts r o b->o<=10->Tp.ex f 6 o 0 [] r≠.error (99,0) ->
 Calls Tryz.prog 181 #[.pointer (some ⟨p.pb,0,none⟩)] w fun e w'=>Post p ts o b w (VX w.heap.size) (Tp.ex f 6 o 0 [] r) e w'
def OneC (p:Ps) (ts:List Tok) (f:Nat):Prop:=∀(w:World) (r:List Tok) (o b:Nat),St w p ts r o b->o<=11->Tp.ex f 5 o 0 [] r≠.error (99,0) ->
 Calls Tryz.prog 219 #[.pointer (some ⟨p.pb,0,none⟩)] w fun e w'=>Post p ts o b w (VX w.heap.size) (Tp.ex f 5 o 0 [] r) e w'
theorem one_deep (h:St w p g r o b)(f:10<o) :
  Calls Tryz.prog 219 #[.pointer (some ⟨p.pb,0,none⟩)] w fun e w'=>Thrown w.heap.size (4,at' r) e w'/\Ext p.pb w w':=by
 have d:=h.c3
 have i:(10:Int)<(o:Int):=by omega
 clear f
 go_enter Tryz.func219,Tryz.ntmps219
 go_wp2_with fail
 clear d
 refine(zY h 4).mono ?_
 rintro e n⟨a,c⟩
 obtain⟨j,k,rfl,l,m⟩:=a.out
 go_wp2_with fail
 exact⟨rfl,a,Ext.below c⟩
theorem number_ok (h:St w p d r o b)(i:Hid (Tp.number Tp.top r=.ok (n,c))) :
  Calls Tryz.prog 131 #[.pointer (some ⟨p.pb,0,none⟩),.int .i64 9223372036854775807] w fun e w'=>e=.returned (.int .i64 (n:Int))/\St w' p d c o b/\Ext p.pb w w':=by
 refine(kM h Tp.top (by unfold Tp.top;omega) zn).mono ?_
 intro e w' a
 rw[i.out]at a
 obtain⟨v,f,rfl,g⟩:=a
 exact⟨f,g⟩
theorem number_er {f:List Tok}{a:Tp.Er}(h:St w p f r o b)(d:Hid (Tp.number Tp.top r=.error a)) :
  Calls Tryz.prog 131 #[.pointer (some ⟨p.pb,0,none⟩),.int .i64 9223372036854775807] w fun e w'=>Thrown w.heap.size a e w'/\Ext p.pb w w':=by
 refine(kM h Tp.top (by unfold Tp.top;omega) zn).mono ?_
 intro e w' c
 rw[d.out]at c
 exact c
theorem one_number (h:St w p j r o b)(y:¬10<o)(x:(hd r).kind=2)(f:Nat) :
  Calls Tryz.prog 219 #[.pointer (some ⟨p.pb,0,none⟩)] w fun e w'=>Post p j o b w (VX w.heap.size) (Tp.ex (f+1) 5 o 0 [] r) e w':=by
 have q:=h.c3
 have F:=zg q
 have E:¬(10:Int)<(o:Int):=by omega
 have D:(((hd r).kind:Int)==2)=true:=by simp;omega
 have v:Hid (Tp.ex (f+1) 5 o 0 [] r=(do let (n,t) <- Tp.number Tp.top r;.ok ([⟨1,at' r,n,[],[],[],[],[],[]⟩],t))):=by
  unfold Hid;rw[Tp.ex];simp[y,x]
 clear y x
 rcases hres:Tp.number Tp.top r with er|⟨n,t⟩
 ·have i:Hid (Tp.number Tp.top r=.error er):=hres
  clear hres
  go_enter Tryz.func219,Tryz.ntmps219
  go_wp2_with fail
  clear q
  refine(zK h).mono ?_
  rintro e c⟨rfl,g⟩
  have d:∀a,Below c.heap.size c (c.alloc a).drew:=fun a=>(zb _ _).drew
  have m:Hid (∀a,Ext p.pb w (c.alloc a).drew):=fun a=>(Ext.below g).trans (Ext.below (d a))
  have k:Hid (∀a,St (c.alloc a).drew p j r o b):=fun a=>(h.below g).below (d a)
  clear d
  go_wp2_with fail
  go_region_dies
  all_goals (refine(number_er (k.out _) i).mono ?_;intro e u s;obtain⟨G,H,B,I,J⟩:=s.1.out;subst B;refine⟨rfl,?_⟩;rw[v.out,i.out];exact zw (m.out _) s.1 s.2)
 ·have i:Hid (Tp.number Tp.top r=.ok (n,t)):=hres
  clear hres
  go_enter Tryz.func219,Tryz.ntmps219
  go_wp2_with fail
  clear q
  refine(zK h).mono ?_
  rintro e c⟨rfl,g⟩
  have d:∀a,Below c.heap.size c (c.alloc a).drew:=fun a=>(zb _ _).drew
  have m:Hid (∀a,Ext p.pb w (c.alloc a).drew):=fun a=>(Ext.below g).trans (Ext.below (d a))
  have k:Hid (∀a,St (c.alloc a).drew p j r o b):=fun a=>(h.below g).below (d a)
  have C:=g.size
  clear d
  go_wp2_with fail
  go_region_with (go_at_call 131;refine(number_ok (k.out _) i).mono ?_;rintro e u ⟨rfl,z,l⟩;have K:u.cell? ⟨c.heap.size,1,none⟩=some (.int .i64 ((hd r).pos:Int)):=l.cell (by simp[go_sem]) (by simp;omega))
  all_goals
   have A:=l.size
   simp at A
   go_wp2_with fail
   go_ret
   rw[v.out,i.out]
   exact⟨_,rfl,VX.node (by omega) (zl u _) (Or.inl ⟨rfl,rfl⟩) (Or.inl ⟨rfl,rfl⟩) (Or.inl ⟨rfl,rfl⟩),z.below (zb _ _),((m.out _).trans l).trans (Ext.below (zb _ _))⟩
theorem zX {a:Addr}(h:w.cell? a=some v)(b:Obj):(w.alloc b).cell? a=some v:=(World.cell?_alloc_lt _ _ _ (World.block_lt_of_cell? _ _ h)).trans h
theorem ex5_un (b:¬10<o)(a:(hd r).kind≠2)(c:tx r=Tp.mMinus\/tx r=Tp.wNot) :
  Tp.ex (f+1) 5 o 0 [] r=(do let (x,r1) <- Tp.ex f 5 (o+1) 0 [] (stp r);.ok ([⟨4,at' r,0,[],[],tx r,x,[],[]⟩],r1)):=by
 rw[Tp.ex];simp only[show ¬(5<5) by omega,if_false,if_true,b,a,c]
theorem ex5_paren (b:¬10<o)(a:(hd r).kind≠2)(c:tx r=Tp.mLp) :
  Tp.ex (f+1) 5 o 0 [] r=(do let (x,r1) <- Tp.ex f 0 (o+1) 0 [] (stp r);let r2 <- Tp.want Tp.mRp r1;.ok (x,r2)):=by
 rw[Tp.ex];simp only[show ¬(5<5) by omega,if_false,if_true,b,a,c,show ¬(Tp.mLp=Tp.mMinus\/Tp.mLp=Tp.wNot) by decide]
theorem ex5_named (e:¬10<o)(d:(hd r).kind≠2)(a:tx r≠Tp.mMinus)(b:tx r≠Tp.wNot)(c:tx r≠Tp.mLp) :
  Tp.ex (f+1) 5 o 0 [] r=Tp.ex f 6 o 0 [] r:=by
 rw[Tp.ex];simp only[show ¬(5<5) by omega,if_false,if_true,e,d,a,b,c,or_self]
theorem kT {a:Tp.Er}(j:Hid (OneC p d f))(h:St w p d r o b)(m:o<=10)(c:Hid (Tp.ex f 5 (o+1) 0 [] r=.error a))(g:Hid (a≠(99,0))) :
  Calls Tryz.prog 204 #[.pointer (some ⟨p.pb,0,none⟩),.func (.func 219) #[.pointer (some ⟨p.pb,0,none⟩)] #[]] w fun e w'=>Thrown w.heap.size a e w'/\Ext p.pb w w':=by
 have k:Tp.ex f 5 (o+1) 0 [] r≠.error (99,0):=by rw[c.out];intro e;exact g.out (by injection e)
 have:=jO h (by omega) _ (fun l i _ _=>j.out l r (o+1) b i (by omega) k)
 rw[c.out]at this
 exact this
theorem kR (l:Hid (OneC p d f))(h:St w p d r o b)(n:o<=10)(i:Hid (Tp.ex f 5 (o+1) 0 [] r=.ok (x,j))) :
  Calls Tryz.prog 204 #[.pointer (some ⟨p.pb,0,none⟩),.func (.func 219) #[.pointer (some ⟨p.pb,0,none⟩)] #[]] w fun e w'=>∃bb,e=.returned (.pointer (some ⟨bb,0,none⟩))/\VX w.heap.size x (.pointer (some ⟨bb,0,none⟩)) w'/\St w' p d j o b/\Ext p.pb w w':=by
 have c:Tp.ex f 5 (o+1) 0 [] r≠.error (99,0):=by rw[i.out];intro e;cases e
 have:=jO h (by omega) _ (fun m a _ _=>l.out m r (o+1) b a (by omega) c)
 rw[i.out]at this
 refine this.mono ?_
 intro e w' c
 obtain⟨v,a,g,k⟩:=c
 obtain⟨bb,rfl⟩:=g.ptr
 exact⟨bb,a,g,k⟩
theorem one_minus (K:OneC p g f){w:World}{r:List Tok}{o b:Nat}(h:St w p g r o b)(N:¬10<o)(L:(hd r).kind≠2)(F:tx r=Tp.mMinus)(M:Tp.ex (f+1) 5 o 0 [] r≠.error (99,0)) :
  Calls Tryz.prog 219 #[.pointer (some ⟨p.pb,0,none⟩)] w fun e w'=>Post p g o b w (VX w.heap.size) (Tp.ex (f+1) 5 o 0 [] r) e w':=by
 have a1:=zm
 have D:=h.c3
 have a3:=zg D
 have a2:¬(10:Int)<(o:Int):=by omega
 have I:o<=10:=by omega
 have a0:(((hd r).kind:Int)==2)=false:=by simp;omega
 have B:Hid (Tp.ex (f+1) 5 o 0 [] r=(do let (x,G) <- Tp.ex f 5 (o+1) 0 [] (stp r);.ok ([⟨4,at' r,0,[],[],tx r,x,[],[]⟩],G))):=ex5_un N L (Or.inl F)
 have J:Hid (OneC p g f):=K
 have v:Hid (tx r=Tp.mMinus):=F
 have X:Hid (Tp.ex (f+1) 5 o 0 [] r≠.error (99,0)):=M
 clear N L F K M
 rcases hres:Tp.ex f 5 (o+1) 0 [] (stp r) with er|⟨x,G⟩
 ·have m:Hid (Tp.ex f 5 (o+1) 0 [] (stp r)=.error er):=hres
  have V:Hid (er≠(99,0)):=by intro e;apply X.out;rw[B.out,m.out,e];rfl
  clear hres
  go_enter Tryz.func219,Tryz.ntmps219
  go_wp2_with fail
  clear D
  refine(zK h).mono ?_
  rintro e c⟨rfl,i⟩
  have S:=i.size
  have j:∀a,Below c.heap.size c (c.alloc a):=fun a=>zb _ _
  have C:Hid (∀a,Ext p.pb w (c.alloc a)):=fun a=>(Ext.below i).trans (Ext.below (j a))
  have z:Hid (∀a,St (c.alloc a) p g r o b):=fun a=>(h.below i).below (j a)
  clear j
  go_wp2_with fail
  refine(zQ (z.out _) Tp.mMinus _ rfl).mono ?_
  rintro e d⟨rfl,q,k⟩
  rw[if_pos v.out]at q
  have Q:=decide_eq_true v.out
  have s:d.cell? ⟨c.heap.size,1,none⟩=some (.int .i64 ((hd r).pos:Int)):=k.cell (by simp[go_sem]) (by simp;omega)
  have H:d.cell? ⟨c.heap.size,2,none⟩=some (.string (bs (hd r).text)):=k.cell (by simp[go_sem]) (by simp;omega)
  have n:Ext p.pb w d:=((C.out _).trans k)
  have W:=zg s
  have t:Hid (Ext p.pb w d.drew):=n.trans (Ext.below (zt _))
  have y:Hid (St d.drew p g (stp r) o b):=q.below (zt _)
  clear n
  go_wp2_with fail
  go_region_dies
  all_goals (refine(kT J y.out I m V).mono ?_;intro e l E;obtain⟨ab,h1,Y,h2,h3⟩:=E.1.out;subst Y;refine⟨rfl,?_⟩;rw[B.out,m.out];exact zw t.out E.1 E.2)
 ·have m:Hid (Tp.ex f 5 (o+1) 0 [] (stp r)=.ok (x,G)):=hres
  clear hres
  go_enter Tryz.func219,Tryz.ntmps219
  go_wp2_with fail
  clear D
  refine(zK h).mono ?_
  rintro e c⟨rfl,i⟩
  have S:=i.size
  have j:∀a,Below c.heap.size c (c.alloc a):=fun a=>zb _ _
  have C:Hid (∀a,Ext p.pb w (c.alloc a)):=fun a=>(Ext.below i).trans (Ext.below (j a))
  have z:Hid (∀a,St (c.alloc a) p g r o b):=fun a=>(h.below i).below (j a)
  clear j
  go_wp2_with fail
  refine(zQ (z.out _) Tp.mMinus _ rfl).mono ?_
  rintro e d⟨rfl,q,k⟩
  rw[if_pos v.out]at q
  have Q:=decide_eq_true v.out
  have s:d.cell? ⟨c.heap.size,1,none⟩=some (.int .i64 ((hd r).pos:Int)):=k.cell (by simp[go_sem]) (by simp;omega)
  have H:d.cell? ⟨c.heap.size,2,none⟩=some (.string (bs (hd r).text)):=k.cell (by simp[go_sem]) (by simp;omega)
  have n:Ext p.pb w d:=((C.out _).trans k)
  have W:=zg s
  have t:Hid (Ext p.pb w d.drew):=n.trans (Ext.below (zt _))
  have y:Hid (St d.drew p g (stp r) o b):=q.below (zt _)
  clear n
  go_wp2_with fail
  go_region_held3 (fun w'=>w'.cell? ⟨c.heap.size,1,none⟩=some (.int .i64 ((hd r).pos:Int))/\w'.cell? ⟨c.heap.size,2,none⟩=some (.string (bs (hd r).text))) (first|(exact⟨s,H⟩)|(exact⟨O,P⟩)|(exact⟨zX O _,zX P _⟩)) ((go_at_call 204;refine(kR J y.out I m).mono ?_;rintro e l ⟨bb,rfl,Z,R,u⟩;have O:l.cell? ⟨c.heap.size,1,none⟩=some (.int .i64 ((hd r).pos:Int)):=u.cell (by simpa using s) (by simp;omega);have P:l.cell? ⟨c.heap.size,2,none⟩=some (.string (bs (hd r).text)):=u.cell (by simpa using H) (by simp;omega)))
  all_goals
   have T:=u.size
   have U:=t.out.size
   simp at T U
   go_wp2_with fail
   go_ret
   rw[B.out,m.out]
   have A:Below l.heap.size l (l.alloc (.cells (xcells 4 (hd r).pos 0 ⟨#[]⟩ ⟨#[]⟩ (bs (hd r).text) (.pointer (some ⟨bb,0,none⟩)) (.pointer none) (.slice none 0 0)) 236)):=zb _ _
   exact⟨_,rfl,VX.node (by omega) (zl l _) (Or.inr ((VX.ext (b:=p.pb) (Ext.below A) (by simp;omega) Z).base (by simp;omega))) (Or.inl ⟨rfl,rfl⟩) (Or.inl ⟨rfl,rfl⟩),R.below A,(t.out.trans u).trans (Ext.below A)⟩
theorem one_not (O:OneC p j f){w:World}{r:List Tok}{o b:Nat}(h:St w p j r o b)(R:¬10<o)(P:(hd r).kind≠2)(J:tx r=Tp.wNot)(Q:Tp.ex (f+1) 5 o 0 [] r≠.error (99,0)) :
  Calls Tryz.prog 219 #[.pointer (some ⟨p.pb,0,none⟩)] w fun e w'=>Post p j o b w (VX w.heap.size) (Tp.ex (f+1) 5 o 0 [] r) e w':=by
 have a1:=zm
 have H:=h.c3
 have a3:=zg H
 have a2:¬(10:Int)<(o:Int):=by omega
 have M:o<=10:=by omega
 have a0:(((hd r).kind:Int)==2)=false:=by simp;omega
 have F:Hid (Tp.ex (f+1) 5 o 0 [] r=(do let (x,K) <- Tp.ex f 5 (o+1) 0 [] (stp r);.ok ([⟨4,at' r,0,[],[],tx r,x,[],[]⟩],K))):=ex5_un R P (Or.inr J)
 have N:Hid (OneC p j f):=O
 have i:Hid (tx r=Tp.wNot):=J
 have HN:Hid (Tp.ex (f+1) 5 o 0 [] r≠.error (99,0)):=Q
 clear R P J O Q
 rcases hres:Tp.ex f 5 (o+1) 0 [] (stp r) with er|⟨x,K⟩
 ·have q:Hid (Tp.ex f 5 (o+1) 0 [] (stp r)=.error er):=hres
  have Y:Hid (er≠(99,0)):=by intro e;apply HN.out;rw[F.out,q.out,e];rfl
  clear hres
  go_enter Tryz.func219,Tryz.ntmps219
  go_wp2_with fail
  clear H
  refine(zK h).mono ?_
  rintro e a⟨rfl,k⟩
  have V:=k.size
  have l:∀c,Below a.heap.size a (a.alloc c):=fun c=>zb _ _
  have G:Hid (∀c,Ext p.pb w (a.alloc c)):=fun c=>(Ext.below k).trans (Ext.below (l c))
  have C:Hid (∀c,St (a.alloc c) p j r o b):=fun c=>(h.below k).below (l c)
  clear l
  go_wp2_with fail
  refine(zQ (C.out _) Tp.mMinus _ rfl).mono ?_
  rintro e w2⟨rfl,u,g⟩
  rw[if_neg (by rw[i.out];decide)]at u
  have s:decide (tx r=Tp.mMinus)=false:=by rw[i.out];decide
  have E:=g.cell (show (a.alloc (.cells #[.int .i64 ((hd r).kind:Int),.int .i64 ((hd r).pos:Int),.string (bs (hd r).text)] 150)).cell? ⟨a.heap.size,0,none⟩=some (.int .i64 ((hd r).kind:Int)) by simp[go_sem]) (by simp;omega)
  go_wp2_with fail
  clear s E
  refine(zQ u Tp.wNot _ rfl).mono ?_
  rintro e d⟨rfl,v,m⟩
  rw[if_pos i.out]at v
  have s:=decide_eq_true i.out
  have y:d.cell? ⟨a.heap.size,1,none⟩=some (.int .i64 ((hd r).pos:Int)):=m.cell (g.cell (by simp[go_sem]) (by simp;omega)) (by simp;omega)
  have L:d.cell? ⟨a.heap.size,2,none⟩=some (.string (bs (hd r).text)):=m.cell (g.cell (by simp[go_sem]) (by simp;omega)) (by simp;omega)
  have t:Ext p.pb w d:=(((G.out _).trans g).trans m)
  have Z:=zg y
  have z:Hid (Ext p.pb w d.drew):=t.trans (Ext.below (zt _))
  have B:Hid (St d.drew p j (stp r) o b):=v.below (zt _)
  clear t
  go_wp2_with fail
  go_region_dies
  all_goals (refine(kT N B.out M q Y).mono ?_;intro e n I;obtain⟨ab,h1,h0,h2,h3⟩:=I.1.out;subst h0;refine⟨rfl,?_⟩;rw[F.out,q.out];exact zw z.out I.1 I.2)
 ·have q:Hid (Tp.ex f 5 (o+1) 0 [] (stp r)=.ok (x,K)):=hres
  clear hres
  go_enter Tryz.func219,Tryz.ntmps219
  go_wp2_with fail
  clear H
  refine(zK h).mono ?_
  rintro e a⟨rfl,k⟩
  have V:=k.size
  have l:∀c,Below a.heap.size a (a.alloc c):=fun c=>zb _ _
  have G:Hid (∀c,Ext p.pb w (a.alloc c)):=fun c=>(Ext.below k).trans (Ext.below (l c))
  have C:Hid (∀c,St (a.alloc c) p j r o b):=fun c=>(h.below k).below (l c)
  clear l
  go_wp2_with fail
  refine(zQ (C.out _) Tp.mMinus _ rfl).mono ?_
  rintro e w2⟨rfl,u,g⟩
  rw[if_neg (by rw[i.out];decide)]at u
  have s:decide (tx r=Tp.mMinus)=false:=by rw[i.out];decide
  have E:=g.cell (show (a.alloc (.cells #[.int .i64 ((hd r).kind:Int),.int .i64 ((hd r).pos:Int),.string (bs (hd r).text)] 150)).cell? ⟨a.heap.size,0,none⟩=some (.int .i64 ((hd r).kind:Int)) by simp[go_sem]) (by simp;omega)
  go_wp2_with fail
  clear s E
  refine(zQ u Tp.wNot _ rfl).mono ?_
  rintro e d⟨rfl,v,m⟩
  rw[if_pos i.out]at v
  have s:=decide_eq_true i.out
  have y:d.cell? ⟨a.heap.size,1,none⟩=some (.int .i64 ((hd r).pos:Int)):=m.cell (g.cell (by simp[go_sem]) (by simp;omega)) (by simp;omega)
  have L:d.cell? ⟨a.heap.size,2,none⟩=some (.string (bs (hd r).text)):=m.cell (g.cell (by simp[go_sem]) (by simp;omega)) (by simp;omega)
  have t:Ext p.pb w d:=(((G.out _).trans g).trans m)
  have Z:=zg y
  have z:Hid (Ext p.pb w d.drew):=t.trans (Ext.below (zt _))
  have B:Hid (St d.drew p j (stp r) o b):=v.below (zt _)
  clear t
  go_wp2_with fail
  go_region_held3 (fun w'=>w'.cell? ⟨a.heap.size,1,none⟩=some (.int .i64 ((hd r).pos:Int))/\w'.cell? ⟨a.heap.size,2,none⟩=some (.string (bs (hd r).text))) (first|(exact⟨y,L⟩)|(exact⟨S,T⟩)|(exact⟨zX S _,zX T _⟩)) ((go_at_call 204;refine(kR N B.out M q).mono ?_;rintro e n ⟨bb,rfl,hv,U,A⟩;have S:n.cell? ⟨a.heap.size,1,none⟩=some (.int .i64 ((hd r).pos:Int)):=A.cell (by simpa using y) (by simp;omega);have T:n.cell? ⟨a.heap.size,2,none⟩=some (.string (bs (hd r).text)):=A.cell (by simpa using L) (by simp;omega)))
  all_goals
   have W:=A.size
   have X:=z.out.size
   simp at W X
   go_wp2_with fail
   go_ret
   rw[F.out,q.out]
   have D:Below n.heap.size n (n.alloc (.cells (xcells 4 (hd r).pos 0 ⟨#[]⟩ ⟨#[]⟩ (bs (hd r).text) (.pointer (some ⟨bb,0,none⟩)) (.pointer none) (.slice none 0 0)) 236)):=zb _ _
   exact⟨_,rfl,VX.node (by omega) (zl n _) (Or.inr ((VX.ext (b:=p.pb) (Ext.below D) (by simp;omega) hv).base (by simp;omega))) (Or.inl ⟨rfl,rfl⟩) (Or.inl ⟨rfl,rfl⟩),U.below D,(z.out.trans A).trans (Ext.below D)⟩
theorem kE {a:Except Tp.Er (List X×List Tok)}(j:Hid (LevelC p c f))(h:St w p c r o b)(l:o<=10)(d:Hid (Tp.ex f 0 (o+1) 0 [] r=a))(g:Hid (a≠.error (99,0))) :
  Calls Tryz.prog 204 #[.pointer (some ⟨p.pb,0,none⟩),.func (.func 180) #[.pointer (some ⟨p.pb,0,none⟩)] #[]] w fun e w'=>Post p c o b w (VX w.heap.size) a e w':=by
 have k:Tp.ex f 0 (o+1) 0 [] r≠.error (99,0):=by rw[d.out];exact g.out
 have:=kJ h (by omega) _ (fun m i _ _=>yG j.out i (by omega) k)
 rw[d.out]at this
 exact this
theorem one_rest {k:List Tok}(hL:LevelC p k f)(hM:NamedC p k f){w:World}{r:List Tok}{o b:Nat}(h:St w p k r o b)(O:¬10<o)(N:(hd r).kind≠2)(t1:tx r≠Tp.mMinus)(t2:tx r≠Tp.wNot)(hn:Tp.ex (f+1) 5 o 0 [] r≠.error (99,0)) :
  Calls Tryz.prog 219 #[.pointer (some ⟨p.pb,0,none⟩)] w fun e w'=>Post p k o b w (VX w.heap.size) (Tp.ex (f+1) 5 o 0 [] r) e w':=by
 have a7:=zm
 have Z:=h.c3
 have a9:=zg Z
 have a8:¬(10:Int)<(o:Int):=by omega
 have M:o<=10:=by omega
 have a6:(((hd r).kind:Int)==2)=false:=by simp;omega
 have G:Hid (tx r=Tp.mLp->Tp.ex (f+1) 5 o 0 [] r=(do let (x,g) <- Tp.ex f 0 (o+1) 0 [] (stp r);let r2 <- Tp.want Tp.mRp g;.ok (x,r2))):=fun a=>ex5_paren O N a
 have H:Hid (tx r≠Tp.mLp->Tp.ex (f+1) 5 o 0 [] r=Tp.ex f 6 o 0 [] r):=fun a=>ex5_named O N t1 t2 a
 have V:Hid (LevelC p k f):=hL
 have HM:Hid (NamedC p k f):=hM
 have W:Hid (Tp.ex (f+1) 5 o 0 [] r≠.error (99,0)):=hn
 have a4:=decide_eq_false t1
 have a5:=decide_eq_false t2
 have T1:Hid (¬tx r=Tp.mMinus):=t1
 have T2:Hid (¬tx r=Tp.wNot):=t2
 clear O N hL hM hn t1 t2
 go_enter Tryz.func219,Tryz.ntmps219
 go_wp2_with fail
 clear Z
 refine(zK h).mono ?_
 rintro e y⟨rfl,K⟩
 have a3:=K.size
 have L:∀d,Below y.heap.size y (y.alloc d):=fun d=>zb _ _
 have HX:Hid (∀d,Ext p.pb w (y.alloc d)):=fun d=>(Ext.below K).trans (Ext.below (L d))
 have a1:Hid (∀d,St (y.alloc d) p k r o b):=fun d=>(h.below K).below (L d)
 clear L
 go_wp2_with fail
 refine(zQ (a1.out _) Tp.mMinus _ rfl).mono ?_
 rintro e w2⟨rfl,D,P⟩
 rw[if_neg T1.out]at D
 have S:=(HX.out _).trans P
 go_wp2_with fail
 refine(zQ D Tp.wNot _ rfl).mono ?_
 rintro e w3⟨rfl,E,Q⟩
 rw[if_neg T2.out]at E
 have T:=S.trans Q
 clear D P S Q
 go_wp2_with fail
 refine(zQ E Tp.mLp _ rfl).mono ?_
 rintro e C⟨rfl,q,R⟩
 have m:=T.trans R
 clear E R T
 by_cases i:tx r=Tp.mLp
 ·have a2:=decide_eq_true i
  rw[if_pos i]at q
  have n:Hid (Tp.ex (f+1) 5 o 0 [] r=(do let (x,g) <- Tp.ex f 0 (o+1) 0 [] (stp r);let r2 <- Tp.want Tp.mRp g;.ok (x,r2))):=G.out i
  clear i G H
  rcases l:Tp.ex f 0 (o+1) 0 [] (stp r) with er|⟨x,g⟩
  ·have c:Hid (Tp.ex f 0 (o+1) 0 [] (stp r)=.error er):=l
   have I:Hid ((.error er:Except Tp.Er (List X×List Tok))≠.error (99,0)):=by intro e;apply W.out;rw[n.out,c.out,e];rfl
   clear l
   go_wp2_with fail
   refine(kE V q M c I).mono ?_
   intro e w5 t
   obtain⟨a,j⟩:=t
   obtain⟨Y,h1,rfl,h2,h3⟩:=a.out
   go_wp2_with fail
   refine⟨rfl,?_⟩
   rw[n.out,c.out]
   exact zw m a j
  ·have c:Hid (Tp.ex f 0 (o+1) 0 [] (stp r)=.ok (x,g)):=l
   have I:Hid ((.ok (x,g):Except Tp.Er (List X×List Tok))≠.error (99,0)):=by intro e;cases e
   clear l
   go_wp2_with fail
   refine(kE V q M c I).mono ?_
   intro e w5 t
   obtain⟨v,rfl,B,u,j⟩:=t
   obtain⟨bb,rfl⟩:=B.ptr
   have F:=m.size
   have U:=m.trans j
   clear q j m
   go_wp2_with fail
   by_cases s:tx g=Tp.mRp
   ·refine(zF u Tp.mRp _ rfl s).mono ?_
    rintro e w6⟨rfl,a0,A⟩
    have J:Hid (tx g=Tp.mRp):=s
    clear s u
    go_wp2_with fail
    go_ret
    rw[n.out,c.out]
    simp only[bind,Except.bind,Tp.want,if_pos J.out]
    exact⟨_,rfl,(VX.ext A (by omega) B).base F,a0,U.trans A⟩
   ·refine(zN u Tp.mRp _ rfl s).mono ?_
    rintro e w6⟨a,A⟩
    have J:Hid (¬tx g=Tp.mRp):=s
    clear s
    obtain⟨Y,h1,rfl,h2,h3⟩:=a.out
    go_wp2_with fail
    refine⟨rfl,?_⟩
    rw[n.out,c.out]
    simp only[bind,Except.bind,Tp.want,if_neg J.out]
    exact zw U a A
 ·have a2:=decide_eq_false i
  rw[if_neg i]at q
  have n:Hid (Tp.ex (f+1) 5 o 0 [] r=Tp.ex f 6 o 0 [] r):=H.out i
  clear i G H
  have z:=HM.out C r o b q M (by rw[<-n.out];exact W.out)
  rw[<-n.out]at z
  generalize l:Tp.ex (f+1) 5 o 0 [] r=res at z
  have HC:Hid (Calls Tryz.prog 181 #[.pointer (some ⟨p.pb,0,none⟩)] C fun e w'=>Post p k o b C (VX C.heap.size) res e w'):=z
  have c:Hid (Tp.ex (f+1) 5 o 0 [] r=res):=l
  clear z l
  go_wp2_with fail
  refine HC.out.mono ?_
  intro e w5 t
  rcases res with er|⟨x,g⟩
  ·obtain⟨a,j⟩:=t
   obtain⟨Y,h1,rfl,h2,h3⟩:=a.out
   go_wp2_with fail
   refine⟨rfl,?_⟩
   rw[c.out]
   exact zw m a j
  ·obtain⟨v,rfl,B,u,j⟩:=t
   have F:=m.size
   go_wp2_with fail
   go_ret
   rw[c.out]
   exact⟨_,rfl,B.base F,u,m.trans j⟩
theorem one_post (j:LevelC p c f)(i:OneC p c f)(k:NamedC p c f):OneC p c (f+1):=by
 intro w r o b h l d
 by_cases hd:10<o
 ·rw[show Tp.ex (f+1) 5 o 0 [] r=.error (4,at' r) by rw[Tp.ex];simp[hd]]
  exact one_deep h hd
 ·by_cases a:(Tp.hd r).kind=2
  ·exact one_number h hd a f
  ·by_cases e:tx r=Tp.mMinus
   ·exact one_minus i h hd a e d
   ·by_cases g:tx r=Tp.wNot
    ·exact one_not i h hd a g d
    ·exact one_rest j k h hd a e g d
end Go.Proofs.YtbkndnmglhghlaaGreatDoor
