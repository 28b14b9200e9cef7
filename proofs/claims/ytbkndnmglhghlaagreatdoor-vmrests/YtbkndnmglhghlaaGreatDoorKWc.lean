import Derived.Test.YtbkndnmglhghlaaGreatDoorKWb
set_option maxRecDepth 100000
set_option maxHeartbeats 4000000

namespace Go.Proofs.YtbkndnmglhghlaaGreatDoor
open Go.RowKit
open Tp (Tok hd tx at' stp X S)
variable {a l s:List S}{g r:List Tok}{name:List UInt8}{index value:List X}{B B' C b code f pos:Nat}{D D':Nat->Prop}{ev iv v vv:Value}{w w':World}
def OwnS (w:World) (D:Nat->Prop) (v:Value) (n:Nat) (cs:List Value):Prop :=
 v=.slice none 0 0/\n=0\/∃g cap cur,v=.slice (some ⟨g,0,none⟩) n cap/\D g/\w.heap[g]?=some (.cells cur 216 (0,0))/\n<=cap/\cap<=maxLen/\cur.size=cap*7/\cur.toList.take (n*7)=cs
def RepS (w:World) (D:Nat->Prop):List S->List Value->Prop
 |[],cs=>cs=[]
 | ⟨code,pos,name,index,value,thn,els⟩ :: ss,cs=>∃(tv ev:Value) (ls vs tcs ecs cs':List Value),
   cs=[.int .i64 (code:Int),.int .i64 (pos:Int),.string (bs name),ls.headD (.pointer none),vs.headD (.pointer none),tv,ev]++cs' /\
   RepL w D index ls/\ls.length<=1/\RepL w D value vs/\vs.length<=1/\RepS w D thn tcs/\OwnS w D tv thn.length tcs/\RepS w D els ecs/\OwnS w D ev els.length ecs/\RepS w D ss cs'
theorem OwnS.mono (l:∀b,D b->b<w.heap.size->w'.heap[b]?=w.heap[b]?/\D' b){v:Value}{n:Nat}{a:List Value}(h:OwnS w D v n a):OwnS w' D' v n a:=by
 rcases h with h|⟨g,cap,d,i,j,c,k⟩
 ·exact Or.inl h
 ·obtain⟨e,f⟩:=l g j (zc c)
  exact Or.inr ⟨g,cap,d,i,f,e.trans c,k⟩
theorem RepS.mono {w w':World}{D D':Nat->Prop}(a:∀b,D b->b<w.heap.size->w'.heap[b]?=w.heap[b]?/\D' b):∀(n:Nat) (l:List S) (cs:List Value),SizeOf.sizeOf l<=n->RepS w D l cs->RepS w' D' l cs:=by
 intro n
 induction n with
 |zero=>intro l vs c;cases l<;>simp at c<;>omega
 |succ n ih =>
  intro l vs c h
  cases l with
  |nil=>rw[RepS]at h ⊢;exact h
  |cons x xs =>
   obtain⟨code,pos,name,index,value,v,u⟩:=x
   rw[RepS]at h ⊢
   simp at c
   obtain⟨t,ev,s,vs,f,d,cs',g,i,j,k,m,o,p,q,r,e⟩:=h
   exact⟨t,ev,s,vs,f,d,cs',g,RepL.mono a _ _ _ zn i,j,RepL.mono a _ _ _ zn k,m,ih _ _ (by omega) o,p.mono a,ih _ _ (by omega) q,r.mono a,ih _ _ (by omega) e⟩
theorem RepS.mono' (c:∀b,D b->b<w.heap.size->w'.heap[b]?=w.heap[b]?/\D' b){l:List S}{a:List Value}(h:RepS w D l a):RepS w' D' l a:=RepS.mono c _ l a zn h
theorem RepS.len:∀(l:List S) (a:List Value),RepS w D l a->a.length=l.length*7:=by
 intro l
 induction l with
 |nil=>intro vs h;rw[RepS]at h;simp[h]
 |cons x xs ih =>
  intro a h
  obtain⟨code,pos,name,index,value,g,e⟩:=x
  rw[RepS]at h
  obtain⟨s,ev,r,vs,f,d,cs',c,i,j,k,m,n,o,p,q,b⟩:=h
  subst c
  simp[ih _ b];omega
theorem RepS.app:∀(l m:List S) (b a:List Value),RepS w D l b->RepS w D m a->RepS w D (l++m) (b++a):=by
 intro l
 induction l with
 |nil=>intro m b a h k;rw[RepS]at h;subst h;exact k
 |cons x xs ih =>
  intro m b a h k
  obtain⟨code,pos,name,index,value,v,u⟩:=x
  rw[RepS]at h
  obtain⟨t,ev,s,vs,e,c,cs',f,g,i,j,n,o,p,q,r,d⟩:=h
  subst f
  rw[List.cons_append,RepS]
  exact⟨t,ev,s,vs,e,c,cs'++a,by simp,g,i,j,n,o,p,q,r,ih m cs' a d k⟩
def scells (code pos:Int) (name:ByteArray) (iv vv tv ev:Value):Array Value:=#[.int .i64 code,.int .i64 pos,.string name,iv,vv,tv,ev]
def VS (B:Nat) (l:List S) (v:Value) (w:World):Prop:=∃(code pos:Nat) (name:List UInt8) (ia va ta ea:Option Addr) (tn tc en ec:Nat),
 v=.agg (scells code pos (bs name) (.pointer ia) (.pointer va) (.slice ta tn tc) (.slice ea en ec))/\RepS w (fun b=>B<=b) l (scells code pos (bs name) (.pointer ia) (.pointer va) (.slice ta tn tc) (.slice ea en ec)).toList
def VL (B:Nat) (l:List S) (v:Value) (w:World):Prop:=∃cs,RepS w (fun b=>B<=b/\v.ownBlock≠some b) l cs/\w.ownsRow B 216 7 v l.length cs
theorem VS.ext (k:Ext b w w')(m:b<B){l:List S}{v:Value}(h:VS B l v w):VS B l v w':=by
 obtain⟨c,p,n,g,j,ta,ea,tn,tc,en,ec,a,d⟩:=h
 exact⟨c,p,n,g,j,ta,ea,tn,tc,en,ec,a,d.mono' (fun i e f=>⟨k.block i f (by omega),e⟩)⟩
theorem VS.base (h:VS B l v w)(d:B'<=B):VS B' l v w:=by
 obtain⟨c,p,n,f,g,ta,ea,tn,tc,en,ec,a,b⟩:=h
 exact⟨c,p,n,f,g,ta,ea,tn,tc,en,ec,a,b.mono' (fun _ e _=>⟨rfl,Nat.le_trans d e⟩)⟩
theorem VL.ext (k:Ext b w w')(e:b<B){l:List S}{v:Value}(h:VL B l v w):VL B l v w':=by
 obtain⟨a,c,d⟩:=h
 exact⟨a,c.mono' (fun i f g=>⟨k.block i g (by omega),f⟩),zD d k e⟩
theorem VL.base (h:VL B l v w)(b:B'<=B):VL B' l v w:=by
 obtain⟨e,f,a⟩:=h
 refine⟨e,f.mono' (fun _ c _=>⟨rfl,Nat.le_trans b c.1,c.2⟩),a.1,?_⟩
 rcases a.2 with q|⟨g,cap,d,i,j,k⟩
 ·exact Or.inl q
 ·exact Or.inr ⟨g,cap,d,i,Nat.le_trans b j,k⟩
theorem VL.shape (h:VL B l v w):∃ao cap,v=.slice ao l.length cap:=by
 obtain⟨b,_,a⟩:=h
 exact z7 a
theorem VL.own (h:VL B l v w):∃a,RepS w (fun b=>B<=b) l a/\OwnS w (fun b=>B<=b) v l.length a:=by
 obtain⟨a,d,e⟩:=h
 refine⟨a,d.mono' (fun _ f _=>⟨rfl,f.1⟩),?_⟩
 rcases e.2 with q|⟨g,cap,c,i,j,k⟩
 ·exact Or.inl q
 ·exact Or.inr ⟨g,cap,c,i,j,k⟩
theorem VS.node {c:List S}{e:Value}
  (n:index=[]/\iv=.pointer none\/VX B index iv w)(p:value=[]/\vv=.pointer none\/VX B value vv w)
  (o:c=[]/\e=.slice none 0 0\/VL B c e w)(m:a=[]/\ev=.slice none 0 0\/VL B a ev w) :
  VS B [⟨code,pos,name,index,value,c,a⟩] (.agg (scells code pos (bs name) iv vv e ev)) w:=by
 have i:∀(l:List X) (v:Value),(l=[]/\v=.pointer none\/VX B l v w)->∃d:List Value,v=d.headD (.pointer none)/\RepL w (fun b=>B<=b) l d/\d.length<=1:=by
  intro l v h
  rcases h with⟨rfl,rfl⟩|h
  ·exact⟨[],rfl,by rw[RepL],by simp⟩
  ·exact⟨[v],rfl,h,by simp⟩
 have g:∀(l:List S) (v:Value),(l=[]/\v=.slice none 0 0\/VL B l v w)->∃cs,RepS w (fun b=>B<=b) l cs/\OwnS w (fun b=>B<=b) v l.length cs:=by
  intro l v h
  rcases h with⟨rfl,rfl⟩|h
  ·exact⟨[],by rw[RepS],Or.inl ⟨rfl,rfl⟩⟩
  ·exact h.own
 have j:∀(l:List X) (v:Value),(l=[]/\v=.pointer none\/VX B l v w)->∃f,v=.pointer f:=by
  intro l v h
  rcases h with⟨rfl,rfl⟩|h
  ·exact⟨_,rfl⟩
  ·obtain⟨bb,rfl⟩:=h.ptr;exact⟨_,rfl⟩
 have k:∀(l:List S) (v:Value),(l=[]/\v=.slice none 0 0\/VL B l v w)->∃ta tn tc,v=.slice ta tn tc:=by
  intro l v h
  rcases h with⟨rfl,rfl⟩|h
  ·exact⟨_,_,_,rfl⟩
  ·obtain⟨E,cap,rfl⟩:=h.shape;exact⟨_,_,_,rfl⟩
 obtain⟨f,rfl⟩:=j index iv n
 obtain⟨D,rfl⟩:=j value vv p
 obtain⟨ta,tn,tc,rfl⟩:=k c e o
 obtain⟨ea,en,ec,rfl⟩:=k a ev m
 obtain⟨d,u,x,y⟩:=i index _ n
 obtain⟨vs,z,A,C⟩:=i value _ p
 obtain⟨r,t1,t2⟩:=g c _ o
 obtain⟨q,s,t⟩:=g a _ m
 refine⟨code,pos,name,f,D,ta,ea,tn,tc,en,ec,rfl,?_⟩
 rw[RepS]
 exact⟨_,_,d,vs,r,q,[],by rw[<-u,<-z];simp[scells],x,y,A,C,t1,t2,s,t,by rw[RepS]⟩
theorem St.setBlocks {p:Ps}{c:List Tok}{o:Nat}(h:St w p c r o b)(a:Nat)(z:Int)(k:z=a):St (w.setCell ⟨p.pb,4,none⟩ (.int .i64 z)) p c r o a:=by
 subst k
 have e:∀j v,j≠4->w.cell? ⟨p.pb,j,none⟩=some v->(w.setCell ⟨p.pb,4,none⟩ (.int .i64 (a:Int))).cell? ⟨p.pb,j,none⟩=some v:=fun j v l g=>by
  rw[World.cell?_setCell_other w ⟨p.pb,4,none⟩ ⟨p.pb,j,none⟩ _ (by simp<;>omega)];exact g
 exact⟨e 0 _ (by omega) h.c0,e 1 _ (by omega) h.c1,e 2 _ (by omega) h.c2,e 3 _ (by omega) h.c3,World.cell?_setCell_same _ _ _ h.c4,fun j=>by simpa using h.fz j,
  (Below.heap_setCell _ _ _ _ (by have:=h.apart.2;simp;omega)).trans h.kept,fun i t f=>(h.toks i t f).ext (b:=p.pb) ((Ext.refl _ _).set 4 _) (by have:=h.apart.1;omega),h.suf,h.ne,h.len,h.last,h.apart,h.dig,h.tl,⟨by simpa using h.lv.1,fun i d=>by rw[World.cell?_setCell_other w ⟨p.pb,4,none⟩ ⟨4,i,none⟩ _ (by have:=h.glt;simp<;>omega)];exact h.lv.2 i d⟩,h.glt⟩
theorem yt (w:World)(b:Nat)(a c d e f g h:Value):Ext b w (((((((w.setCell ⟨b,0,none⟩ a).setCell ⟨b,1,none⟩ c).setCell ⟨b,2,none⟩ d).setCell ⟨b,3,none⟩ e).setCell ⟨b,4,none⟩ f).setCell ⟨b,5,none⟩ g).setCell ⟨b,6,none⟩ h):=((((((((Ext.refl b w).set 0 a).set 1 c).set 2 d).set 3 e).set 4 f).set 5 g).set 6 h)
theorem zM (w:World)(b:Nat)(a c d e f g h:Value):Below b w (((((((w.setCell ⟨b,0,none⟩ a).setCell ⟨b,1,none⟩ c).setCell ⟨b,2,none⟩ d).setCell ⟨b,3,none⟩ e).setCell ⟨b,4,none⟩ f).setCell ⟨b,5,none⟩ g).setCell ⟨b,6,none⟩ h):=(zu (zu (zu (zu (zu (zu (zu (Below.refl b w) zn 0 a) zn 1 c) zn 2 d) zn 3 e) zn 4 f) zn 5 g) zn 6 h)
theorem jn {p:Ps}{o:List Tok}(X:LevelC p o f){w:World}{r:List Tok}{b:Nat}(h:St w p o r 0 b)(code:Nat)(Y:Tp.ex f 0 0 0 [] (stp r)≠.error (99,0)) :
  Calls Tryz.prog 159 #[.pointer (some ⟨p.pb,0,none⟩),.int .i64 (code:Int)] w fun e w'=>Post p o 0 b w (VS w.heap.size)
   (do let (x,d) <- Tp.ex f 0 0 0 [] (stp r);let r2 <- Tp.want Tp.mSemi d;.ok ([⟨code,at' r,[],[],x,[],[]⟩],r2)) e w':=by
 have a5:=zg h.c0
 have A:=fun W (hW:St W p o (stp r) 0 b)=>yG X hW (by omega) Y
 generalize Tp.ex f 0 0 0 [] (stp r)=res at A
 have HC:Hid (∀W,St W p o (stp r) 0 b->Calls Tryz.prog 180 #[.pointer (some ⟨p.pb,0,none⟩)] W fun e w'=>Post p o 0 b W (VX W.heap.size) res e w'):=A
 clear A Y X
 go_enter Tryz.func159,Tryz.ntmps159
 go_wp2_with fail
 have z:∀(W:World) k,Below W.heap.size W (W.alloc k):=fun W k=>zb _ _
 refine(yW (h.below (z _ _))).mono ?_
 rintro e u⟨rfl,P,J⟩
 have C:u.heap[w.heap.size]?=some (.cells (scells 0 0 ⟨#[]⟩ (.pointer none) (.pointer none) (.slice none 0 0) (.slice none 0 0)) 216 (0,0)):=(J.block _ (by simp) (by omega)).trans (zl _ _)
 have M:Ext p.pb w u:=(Ext.below (z _ _)).trans J
 have R:=zc C
 have V:Hid (∀(W:World) k,Below W.heap.size W (W.alloc k)):=z
 clear J z
 go_wp2_with fail
 refine(HC.out _ (P.below (V.out _ _))).mono ?_
 intro e g Z
 have H:Hid (∀k,Ext p.pb w (u.alloc k)):=fun k=>M.trans (Ext.below (V.out _ _))
 clear P
 rcases res with er|⟨x,d⟩
 ·obtain⟨t,m⟩:=Z
  obtain⟨ab,h1,rfl,h2,h3⟩:=t.out
  go_wp2_with fail
  exact⟨rfl,zw (H.out _) t m⟩
 ·obtain⟨v,rfl,K,Q,m⟩:=Z
  obtain⟨bb,rfl⟩:=K.ptr
  have D:=(m.block w.heap.size (by simp;omega) (by omega)).trans ((Below.heap_alloc _ _ _ R).trans C)
  have q:g.heap[u.heap.size]?=some (.cells (scells code (at' r) ⟨#[]⟩ (.pointer none) (.pointer none) (.slice none 0 0) (.slice none 0 0)) 216 (0,0)):=(m.block _ (by simp) (by omega)).trans (zl _ _)
  have N:=(H.out _).trans m
  obtain⟨a,S⟩:∃a,a=u.heap.size:=⟨_,rfl⟩
  obtain⟨c,I⟩:∃c,c=w.heap.size:=⟨_,rfl⟩
  have T:VX (a+1) x (.pointer (some ⟨bb,0,none⟩)) g:=K.base (by simp;omega)
  have a7:w.heap.size<a:=by omega
  rw[<-S]at q ⊢
  rw[<-I]at D ⊢
  have a3:w.heap.size<=c:=by omega
  have a2:c<a:=by omega
  have a6:p.pb<c:=by omega
  have a4:Hid (c=w.heap.size):=I
  clear S I C M R K m H
  have k4:g.cell? ⟨a,4,none⟩=some (.pointer none):=za q
  have z4:g.frozen? ⟨a,4,none⟩=false:=zi q
  go_wp2_with fail
  clear k4 z4
  have s:Below a g (g.setCell ⟨a,4,none⟩ (.pointer (some ⟨bb,0,none⟩))):=zu (Below.refl _ _) zn 4 _
  have y:=Q.belowB s (by omega)
  have B:=N.trans' (s.mono (by omega))
  have F:=zy 4 (.pointer (some ⟨bb,0,none⟩)) q
  have E:=(s.block c a2).trans D
  have U:VX (a+1) x (.pointer (some ⟨bb,0,none⟩)) (g.setCell ⟨a,4,none⟩ (.pointer (some ⟨bb,0,none⟩))):=VX.ext ((Ext.refl a g).set 4 _) (by omega) T
  generalize g.setCell ⟨a,4,none⟩ (.pointer (some ⟨bb,0,none⟩))=w3 at s y B F E U ⊢
  clear s Q N q D T
  by_cases l:tx d=Tp.mSemi
  ·refine(zF y Tp.mSemi _ rfl l).mono ?_
   rintro e j⟨rfl,a1,n⟩
   have G:Hid (tx d=Tp.mSemi):=l
   clear l y
   have a0:j.heap[a]?=some (.cells (scells code (at' r) ⟨#[]⟩ (.pointer none) (.pointer (some ⟨bb,0,none⟩)) (.slice none 0 0) (.slice none 0 0)) 216 (0,0)):=(n.block a (zc F) (by omega)).trans F
   have O:j.heap[c]?=some (.cells (scells 0 0 ⟨#[]⟩ (.pointer none) (.pointer none) (.slice none 0 0) (.slice none 0 0)) 216 (0,0)):=(n.block c (zc E) (by omega)).trans E
   have ks:∀i,j.cell? ⟨a,i,none⟩=(scells code (at' r) ⟨#[]⟩ (.pointer none) (.pointer (some ⟨bb,0,none⟩)) (.slice none 0 0) (.slice none 0 0))[i]?:=fun i=>za a0
   have kr:∀i,j.cell? ⟨c,i,none⟩=(scells 0 0 ⟨#[]⟩ (.pointer none) (.pointer none) (.slice none 0 0) (.slice none 0 0))[i]?:=fun i=>za O
   have zr:∀i,j.frozen? ⟨c,i,none⟩=false:=fun i=>zi O
   simp only[scells]at ks kr
   go_wp2_with fail
   refine bodyPost_ret (v:=.agg (scells code (at' r) (bs []) (.pointer none) (.pointer (some ⟨bb,0,none⟩)) (.slice none 0 0) (.slice none 0 0))) (by simp[results,Tryz.results159,go_sem,kr,scells,bs]) rfl ?_
   have L:Tp.want Tp.mSemi d=.ok (stp d):=by unfold Tp.want;rw[if_pos G.out]
   simp only[bind,Except.bind,L]
   refine⟨_,rfl,VS.node (Or.inl ⟨rfl,rfl⟩) (Or.inr ?_) (Or.inl ⟨rfl,rfl⟩) (Or.inl ⟨rfl,rfl⟩),?_,?_⟩
   ·exact VX.base (VX.ext (b:=c) (yt j c _ _ _ _ _ _ _) (by omega) (VX.ext n (by omega) U)) (by omega)
   ·exact a1.belowB (zM j c _ _ _ _ _ _ _) (by omega)
   ·exact(B.trans n).trans' ((zM j c _ _ _ _ _ _ _).mono a3)
  ·refine(zN y Tp.mSemi _ rfl l).mono ?_
   rintro e j⟨t,n⟩
   have G:Hid (¬tx d=Tp.mSemi):=l
   clear l
   obtain⟨ab,h1,rfl,h2,h3⟩:=t.out
   go_wp2_with fail
   refine⟨rfl,?_⟩
   have L:Tp.want Tp.mSemi d=.error (3,at' d):=by unfold Tp.want;rw[if_neg G.out]
   simp only[bind,Except.bind,L]
   exact zw B t n
theorem new_blk1 (w:World)(a b:Obj):((w.alloc a).alloc b).heap[w.heap.size+1]?=some b:=by
 have h:=zl (w.alloc a) b
 rw[show (w.alloc a).heap.size=w.heap.size+1 by simp]at h
 exact h
theorem jE {p:Ps}{D:List Tok}{o:Nat}(h:St w p D r o b)(code pos:Nat)(name:ByteArray)(n q ta ea:Option Addr)(tn tc en ec:Nat) :
  Calls Tryz.prog 160 #[.pointer (some ⟨p.pb,0,none⟩),.agg (scells code pos name (.pointer n) (.pointer q) (.slice ta tn tc) (.slice ea en ec))] w fun e w' =>
   Post p D o b w (fun (_:Unit) v _=>v=.agg (scells code pos name (.pointer n) (.pointer q) (.slice ta tn tc) (.slice ea en ec))) (do let r2 <- Tp.want Tp.wEnd r;let r3 <- Tp.want Tp.mSemi r2;.ok ((),r3)) e w':=by
 have N:=zg h.c0
 simp only[scells]
 go_enter Tryz.func160,Tryz.ntmps160
 go_wp2_with fail
 have a:∀j k,Below w.heap.size w ((w.alloc j).alloc k):=fun j k=>(zb _ _).alloc (by simp) _
 by_cases g:tx r=Tp.wEnd
 ·refine(zF (h.below (a _ _)) Tp.wEnd _ rfl g).mono ?_
  rintro e t⟨rfl,z,d⟩
  have s:Hid (Tp.want Tp.wEnd r=.ok (stp r)):=by unfold Hid Tp.want;rw[if_pos g]
  clear g
  have y:t.heap[w.heap.size]?=some (.cells (scells code pos name (.pointer n) (.pointer q) (.slice ta tn tc) (.slice ea en ec)) 216 (0,0)):=(d.block _ (by simp;omega) (by omega)).trans ((Below.heap_alloc _ _ _ (by simp)).trans (zl _ _))
  have x:t.heap[w.heap.size+1]?=some (.cells (scells 0 0 ⟨#[]⟩ (.pointer none) (.pointer none) (.slice none 0 0) (.slice none 0 0)) 216 (0,0)):=(d.block _ (by simp) (by omega)).trans (new_blk1 _ _ _)
  have u:Ext p.pb w t:=(Ext.below (a _ _)).trans d
  clear d a
  go_wp2_with fail
  by_cases c:tx (stp r)=Tp.mSemi
  ·refine(zF z Tp.mSemi _ rfl c).mono ?_
   rintro e l⟨rfl,G,f⟩
   have A:Hid (Tp.want Tp.mSemi (stp r)=.ok (stp (stp r))):=by unfold Hid Tp.want;rw[if_pos c]
   clear c z
   have F:=(f.block _ (zc y) (by omega)).trans y
   have B:=(f.block _ (zc x) (by omega)).trans x
   have E:=u.trans f
   clear f u y x
   have M:∀i,l.cell? ⟨w.heap.size,i,none⟩=(scells code pos name (.pointer n) (.pointer q) (.slice ta tn tc) (.slice ea en ec))[i]?:=fun i=>za F
   have C:∀i,l.cell? ⟨w.heap.size+1,i,none⟩=(scells 0 0 ⟨#[]⟩ (.pointer none) (.pointer none) (.slice none 0 0) (.slice none 0 0))[i]?:=fun i=>za B
   have O:∀i,l.frozen? ⟨w.heap.size+1,i,none⟩=false:=fun i=>zi B
   simp only[scells]at M C
   go_wp2_with fail
   refine bodyPost_ret (v:=.agg (scells code pos name (.pointer n) (.pointer q) (.slice ta tn tc) (.slice ea en ec))) (by simp[results,Tryz.results160,go_sem,C,scells]) rfl ?_
   simp only[bind,Except.bind,s.out,A.out]
   exact⟨_,rfl,rfl,G.belowB (zM l (w.heap.size+1) _ _ _ _ _ _ _) (by omega),E.trans' ((zM l (w.heap.size+1) _ _ _ _ _ _ _).mono (by omega))⟩
  ·refine(zN z Tp.mSemi _ rfl c).mono ?_
   rintro e l⟨m,f⟩
   have A:Hid (Tp.want Tp.mSemi (stp r)=.error (3,at' (stp r))):=by unfold Hid Tp.want;rw[if_neg c]
   clear c
   obtain⟨I,J,rfl,K,L⟩:=m.out
   go_wp2_with fail
   refine⟨rfl,?_⟩
   simp only[bind,Except.bind,s.out,A.out]
   exact zw u m f
 ·refine(zN (h.below (a _ _)) Tp.wEnd _ rfl g).mono ?_
  rintro e t⟨m,d⟩
  have s:Hid (Tp.want Tp.wEnd r=.error (3,at' r)):=by unfold Hid Tp.want;rw[if_neg g]
  have H:Hid (∀j k,Ext p.pb w ((w.alloc j).alloc k)):=fun j k=>Ext.below (a j k)
  clear g a
  obtain⟨I,J,rfl,K,L⟩:=m.out
  go_wp2_with fail
  refine⟨rfl,?_⟩
  simp only[bind,Except.bind,s.out]
  exact zw (H.out _ _) m d
def StmtsC (p:Ps) (ts:List Tok) (f:Nat):Prop:=∀(w:World) (r:List Tok) (b:Nat),St w p ts r 0 b->b<=11->Tp.sx f 0 b r≠.error (99,0) ->
 Calls Tryz.prog 82 #[.pointer (some ⟨p.pb,0,none⟩)] w fun e w'=>Post p ts 0 b w (VL w.heap.size) (Tp.sx f 0 b r) e w'
def StmtC (p:Ps) (ts:List Tok) (f:Nat):Prop:=∀(w:World) (r:List Tok) (b:Nat),St w p ts r 0 b->b<=10->Tp.sx f 2 b r≠.error (99,0) ->
 Calls Tryz.prog 132 #[.pointer (some ⟨p.pb,0,none⟩)] w fun e w'=>Post p ts 0 b w (VS w.heap.size) (Tp.sx f 2 b r) e w'
def BranchC (p:Ps) (ts:List Tok) (f:Nat):Prop:=∀(w:World) (r:List Tok) (b:Nat),St w p ts r 0 b->b<=10->Tp.sx f 3 b r≠.error (99,0) ->
 Calls Tryz.prog 162 #[.pointer (some ⟨p.pb,0,none⟩)] w fun e w'=>Post p ts 0 b w (VS w.heap.size) (Tp.sx f 3 b r) e w'
def blockS (f code b:Nat) (m:List UInt8) (r:List Tok):Except Tp.Er (List S×List Tok):=do
 let (x,r1) <- Tp.ex f 0 0 0 [] (stp r)
 let r2 <- Tp.want m r1
 let (l,r3) <- Tp.sx f 0 (b+1) r2
 .ok ([⟨code,at' r,[],[],x,l,[]⟩],r3)
theorem xm {p:Ps}{k:List Tok}(hL:LevelC p k f)(hS:StmtsC p k f){w:World}{r:List Tok}{b:Nat}(h:St w p k r 0 b)(hb:b<=10)(code:Nat)(m:List UInt8)(y:ByteArray)(hy:Hid (y=bs m))(hn:blockS f code b m r≠.error (99,0)) :
  Calls Tryz.prog 161 #[.pointer (some ⟨p.pb,0,none⟩),.int .i64 (code:Int),.string y] w fun e w'=>Post p k 0 b w (VS w.heap.size) (blockS f code b m r) e w':=by
 have e2:=zg h.c0
 have e1:(b:Int)<=10:=by omega
 have c8:Tp.ex f 0 0 0 [] (stp r)≠.error (99,0):=by intro e;apply hn;unfold blockS;rw[e];rfl
 have U:=fun W (hW:St W p k (stp r) 0 b)=>yG hL hW (by omega) c8
 have HS:Hid (StmtsC p k f):=hS
 have HN:Hid (blockS f code b m r≠.error (99,0)):=hn
 generalize b6:Tp.ex f 0 0 0 [] (stp r)=res at U
 have H:Hid (Tp.ex f 0 0 0 [] (stp r)=res):=b6
 have HC:Hid (∀W,St W p k (stp r) 0 b->Calls Tryz.prog 180 #[.pointer (some ⟨p.pb,0,none⟩)] W fun e w'=>Post p k 0 b W (VX W.heap.size) res e w'):=U
 clear U hn c8 hL hS b6
 go_enter Tryz.func161,Tryz.ntmps161
 go_wp2_with fail
 have T:∀(W:World) z,Below W.heap.size W (W.alloc z):=fun W z=>zb _ _
 refine(yW (h.below (T _ _))).mono ?_
 rintro e J⟨rfl,b8,a7⟩
 have V:J.heap[w.heap.size]?=some (.cells (scells 0 0 ⟨#[]⟩ (.pointer none) (.pointer none) (.slice none 0 0) (.slice none 0 0)) 216 (0,0)):=(a7.block _ (by simp) (by omega)).trans (zl _ _)
 have a9:Ext p.pb w J:=(Ext.below (T _ _)).trans a7
 have c2:=zc V
 have HB:Hid (∀(W:World) z,Below W.heap.size W (W.alloc z)):=T
 clear a7 T
 go_wp2_with fail
 refine(HC.out _ (b8.below (HB.out _ _))).mono ?_
 intro e n I
 have a3:Hid (∀z,Ext p.pb w (J.alloc z)):=fun z=>a9.trans (Ext.below (HB.out _ _))
 clear b8
 rcases res with er|⟨x,g⟩
 ·obtain⟨q,B⟩:=I
  obtain⟨ab,h1,rfl,h2,h3⟩:=q.out
  go_wp2_with fail
  refine⟨rfl,?_⟩
  rw[show blockS f code b m r=.error er by unfold blockS;rw[H.out];rfl]
  exact zw (a3.out _) q B
 ·obtain⟨v,rfl,hv,b9,B⟩:=I
  obtain⟨bb,rfl⟩:=hv.ptr
  have X:=(B.block w.heap.size (by simp;omega) (by omega)).trans ((Below.heap_alloc _ _ _ c2).trans V)
  have C:n.heap[J.heap.size]?=some (.cells (scells code (at' r) ⟨#[]⟩ (.pointer none) (.pointer none) (.slice none 0 0) (.slice none 0 0)) 216 (0,0)):=(B.block _ (by simp) (by omega)).trans (zl _ _)
  have b0:=(a3.out _).trans B
  obtain⟨a,d2⟩:∃a,a=J.heap.size:=⟨_,rfl⟩
  obtain⟨c,d0⟩:∃c,c=w.heap.size:=⟨_,rfl⟩
  have d3:VX (a+1) x (.pointer (some ⟨bb,0,none⟩)) n:=hv.base (by simp;omega)
  have e4:w.heap.size<a:=by omega
  rw[<-d2]at C ⊢
  rw[<-d0]at X ⊢
  have e0:w.heap.size<=c:=by omega
  have d1:c<a:=by omega
  have e3:p.pb<c:=by omega
  clear d2 d0 V a9 c2 hv B a3
  have k4:n.cell? ⟨a,4,none⟩=some (.pointer none):=za C
  have z4:n.frozen? ⟨a,4,none⟩=false:=zi C
  go_wp2_with fail
  clear k4 z4
  have F:Below a n (n.setCell ⟨a,4,none⟩ (.pointer (some ⟨bb,0,none⟩))):=zu (Below.refl _ _) zn 4 _
  have P:=b9.belowB F (by omega)
  have K:=b0.trans' (F.mono (by omega))
  have N:=zy 4 (.pointer (some ⟨bb,0,none⟩)) C
  have M:=(F.block c d1).trans X
  have a5:VX (a+1) x (.pointer (some ⟨bb,0,none⟩)) (n.setCell ⟨a,4,none⟩ (.pointer (some ⟨bb,0,none⟩))):=VX.ext ((Ext.refl a n).set 4 _) (by omega) d3
  generalize n.setCell ⟨a,4,none⟩ (.pointer (some ⟨bb,0,none⟩))=w3 at F P K N M a5 ⊢
  clear F b9 b0 C X d3
  by_cases A:tx g=m
  ·refine(zF P m _ hy A).mono ?_
   rintro e o⟨rfl,Q,s⟩
   have E:Hid (Tp.want m g=.ok (stp g)):=by unfold Hid Tp.want;rw[if_pos A]
   clear A P
   have a1:o.heap[a]?=some (.cells (scells code (at' r) ⟨#[]⟩ (.pointer none) (.pointer (some ⟨bb,0,none⟩)) (.slice none 0 0) (.slice none 0 0)) 216 (0,0)):=(s.block a (zc N) (by omega)).trans N
   have b5:o.heap[c]?=some (.cells (scells 0 0 ⟨#[]⟩ (.pointer none) (.pointer none) (.slice none 0 0) (.slice none 0 0)) 216 (0,0)):=(s.block c (zc M) (by omega)).trans M
   have b1:=K.trans s
   have d4:=VX.ext s (by omega) a5
   have d7:=zc a1
   clear s K N M a5
   have c9:Tp.sx f 0 (b+1) (stp g)≠.error (99,0):=by
    intro e;apply HN.out;unfold blockS;simp only[H.out,E.out,e,bind,Except.bind]
   have a4:=fun W (hW:St W p k (stp g) 0 (b+1))=>HS.out W (stp g) (b+1) hW (by omega) c9
   generalize b4:Tp.sx f 0 (b+1) (stp g)=res2 at a4
   have c5:Hid (Tp.sx f 0 (b+1) (stp g)=res2):=b4
   have d9:Hid (∀W,St W p k (stp g) 0 (b+1)->Calls Tryz.prog 82 #[.pointer (some ⟨p.pb,0,none⟩)] W fun e w'=>Post p k 0 (b+1) W (VL W.heap.size) res2 e w'):=a4
   clear a4 b4 c9
   have c4:=Q.c4
   have f4:=Q.fz 4
   go_wp2_with fail
   clear c4 f4
   have a2:=Q.setBlocks (b+1) ((b:Int)+1) (by omega)
   have L:Ext p.pb w (o.setCell ⟨p.pb,4,none⟩ (.int .i64 ((b:Int)+1))):=b1.set 4 _
   have G:Ext p.pb o (o.setCell ⟨p.pb,4,none⟩ (.int .i64 ((b:Int)+1))):=(Ext.refl _ _).set 4 _
   have c3:(o.setCell ⟨p.pb,4,none⟩ (.int .i64 ((b:Int)+1))).heap.size=o.heap.size:=by simp
   have a6:=VX.ext G (by omega) d4
   have O:=(G.block a d7 (by omega)).trans a1
   have Y:=(G.block c (by omega) (by omega)).trans b5
   generalize o.setCell ⟨p.pb,4,none⟩ (.int .i64 ((b:Int)+1))=w5 at a2 L G c3 a6 O Y ⊢
   refine(d9.out _ a2).mono ?_
   intro e d I
   clear G Q b1 a1 b5 d4 a2
   rcases res2 with er|⟨l,r3⟩
   ·obtain⟨q,t⟩:=I
    obtain⟨ab,h1,rfl,h2,h3⟩:=q.out
    go_wp2_with fail
    refine⟨rfl,?_⟩
    rw[show blockS f code b m r=.error er by unfold blockS;simp only[H.out,E.out,c5.out,bind,Except.bind]]
    exact zw L q t
   ·obtain⟨v,rfl,hl,R,t⟩:=I
    obtain⟨j,cap,rfl⟩:=hl.shape
    have d8:=zc O
    have D:=(t.block a d8 (by omega)).trans O
    have Z:=(t.block c (by omega) (by omega)).trans Y
    have b2:=L.trans t
    have d5:=VX.ext t (by omega) a6
    have c6:VL (a+1) l (.slice j l.length cap) d:=hl.base (by omega)
    clear L O Y a6 hl t c3
    have k5:d.cell? ⟨a,5,none⟩=some (.slice none 0 0):=za D
    have z5:d.frozen? ⟨a,5,none⟩=false:=zi D
    have c4:(d.setCell ⟨a,5,none⟩ (.slice j l.length cap)).cell? ⟨p.pb,4,none⟩=some (.int .i64 ((b+1:Nat):Int)):=by
     rw[World.cell?_setCell_other d ⟨a,5,none⟩ ⟨p.pb,4,none⟩ _ (by simp<;>omega)];exact R.c4
    have f4:(d.setCell ⟨a,5,none⟩ (.slice j l.length cap)).frozen? ⟨p.pb,4,none⟩=false:=by simpa using R.fz 4
    go_upto_region 7 with fail
    clear k5 z5 c4 f4
    have S:Below a d (d.setCell ⟨a,5,none⟩ (.slice j l.length cap)):=zu (Below.refl _ _) zn 5 _
    have c1:=(R.belowB S (by omega)).setBlocks b (b:Int) rfl
    have u:Ext p.pb (d.setCell ⟨a,5,none⟩ (.slice j l.length cap)) ((d.setCell ⟨a,5,none⟩ (.slice j l.length cap)).setCell ⟨p.pb,4,none⟩ (.int .i64 (b:Int))):=(Ext.refl _ _).set 4 _
    have a8:Ext a d (d.setCell ⟨a,5,none⟩ (.slice j l.length cap)):=(Ext.refl _ _).set 5 _
    have b3:=(b2.trans' (S.mono (by omega))).trans u
    have b7:=(u.block a (by simpa using zc D) (by omega)).trans (zy 5 (.slice j l.length cap) D)
    have a0:=(u.block c (by simpa using zc Z) (by omega)).trans ((S.block c d1).trans Z)
    have d6:=VX.ext u (by omega) (VX.ext a8 (by omega) d5)
    have c7:=VL.ext u (by omega) (VL.ext a8 (by omega) c6)
    generalize (d.setCell ⟨a,5,none⟩ (.slice j l.length cap)).setCell ⟨p.pb,4,none⟩ (.int .i64 (b:Int))=w7 at c1 u b3 b7 a0 d6 c7 ⊢
    clear S u a8 R b2 D Z d5 c6
    have ks:∀i,w7.cell? ⟨a,i,none⟩=(scells code (at' r) ⟨#[]⟩ (.pointer none) (.pointer (some ⟨bb,0,none⟩)) (.slice j l.length cap) (.slice none 0 0))[i]?:=fun i=>za b7
    have kr:∀i,w7.cell? ⟨c,i,none⟩=(scells 0 0 ⟨#[]⟩ (.pointer none) (.pointer none) (.slice none 0 0) (.slice none 0 0))[i]?:=fun i=>za a0
    have zr:∀i,w7.frozen? ⟨c,i,none⟩=false:=fun i=>zi a0
    simp only[scells]at ks kr
    go_wp2_with fail
    refine bodyPost_ret (v:=.agg (scells code (at' r) (bs []) (.pointer none) (.pointer (some ⟨bb,0,none⟩)) (.slice j l.length cap) (.slice none 0 0))) (by simp[results,Tryz.results161,go_sem,kr,scells,bs]) rfl ?_
    rw[show blockS f code b m r=.ok ([⟨code,at' r,[],[],x,l,[]⟩],r3) by unfold blockS;simp only[H.out,E.out,c5.out,bind,Except.bind]]
    refine⟨_,rfl,VS.node (Or.inl ⟨rfl,rfl⟩) (Or.inr ?_) (Or.inr ?_) (Or.inl ⟨rfl,rfl⟩),?_,?_⟩
    ·exact VX.base (VX.ext (b:=c) (yt w7 c _ _ _ _ _ _ _) (by omega) d6) (by omega)
    ·exact VL.base (VL.ext (b:=c) (yt w7 c _ _ _ _ _ _ _) (by omega) c7) (by omega)
    ·exact c1.belowB (zM w7 c _ _ _ _ _ _ _) (by omega)
    ·exact b3.trans' ((zM w7 c _ _ _ _ _ _ _).mono e0)
  ·refine(zN P m _ hy A).mono ?_
   rintro e o⟨q,s⟩
   have E:Hid (Tp.want m g=.error (3,at' g)):=by unfold Hid Tp.want;rw[if_neg A]
   clear A
   obtain⟨ab,h1,rfl,h2,h3⟩:=q.out
   go_wp2_with fail
   refine⟨rfl,?_⟩
   rw[show blockS f code b m r=.error (3,at' g) by unfold blockS;simp only[H.out,E.out,bind,Except.bind]]
   exact zw K q s
def VP (B:Nat) (l:List X) (v:Value) (w:World):Prop:=∃ls:List Value,v=ls.headD (.pointer none)/\RepL w (fun b=>B<=b) l ls/\ls.length<=1
def VO (B:Nat) (l:List S) (v:Value) (w:World):Prop:=∃cs,RepS w (fun b=>B<=b) l cs/\OwnS w (fun b=>B<=b) v l.length cs
theorem VP.ext {w w':World}{B b:Nat}(k:Ext b w w')(f:b<B){l:List X}{v:Value}(h:VP B l v w):VP B l v w':=by
 obtain⟨e,a,c,d⟩:=h;exact⟨e,a,RepL.ext k (by omega) c,d⟩
theorem VP.base {l:List X}(h:VP B l v w)(d:B'<=B):VP B' l v w:=by
 obtain⟨f,a,b,c⟩:=h;exact⟨f,a,RepL.mono (fun _ e _=>⟨rfl,Nat.le_trans d e⟩) _ _ _ zn b,c⟩
theorem VO.ext (k:Ext b w w')(j:b<B){l:List S}{v:Value}(h:VO B l v w):VO B l v w':=by
 obtain⟨c,d,e⟩:=h
 have a:∀i,B<=i->i<w.heap.size->w'.heap[i]?=w.heap[i]?/\B<=i:=fun i f g=>⟨k.block i g (by omega),f⟩
 exact⟨c,d.mono' a,e.mono a⟩
theorem VO.base (h:VO B l v w)(e:B'<=B):VO B' l v w:=by
 obtain⟨b,c,d⟩:=h
 have a:∀i,B<=i->i<w.heap.size->w.heap[i]?=w.heap[i]?/\B'<=i:=fun i f _=>⟨rfl,Nat.le_trans e f⟩
 exact⟨b,c.mono' a,d.mono a⟩
theorem VP.ptr {l:List X}(h:VP B l v w):∃ia,v=.pointer ia:=by
 obtain⟨i,c,a,g⟩:=h
 cases l with
 |nil=>rw[RepL]at a;subst a;exact⟨none,c⟩
 |cons x xs =>
  obtain⟨code,pos,j,d,name,op,left,right,args⟩:=x
  rw[RepL]at a
  obtain⟨b,f,_,_,_,e,q,_⟩:=a
  subst q
  exact⟨_,c⟩
theorem VO.shape (h:VO B l v w):∃ta tc,v=.slice ta l.length tc:=by
 obtain⟨c,_,b⟩:=h
 rcases b with⟨rfl,a⟩|⟨g,cap,cur,rfl,_⟩
 ·rw[a];exact⟨_,_,rfl⟩
 ·exact⟨_,_,rfl⟩
theorem VS.mk' {b:List S}{g:Value}(d:VP B index iv w)(f:VP B value vv w)(e:VO B b g w)(c:VO B a ev w) :
  VS B [⟨code,pos,name,index,value,b,a⟩] (.agg (scells code pos (bs name) iv vv g ev)) w:=by
 obtain⟨l,rfl⟩:=d.ptr
 obtain⟨t,rfl⟩:=f.ptr
 obtain⟨ta,tc,rfl⟩:=e.shape
 obtain⟨ea,ec,rfl⟩:=c.shape
 obtain⟨p,m,n,o⟩:=d
 obtain⟨vs,q,r,s⟩:=f
 obtain⟨i,t1,t2⟩:=e
 obtain⟨h,j,k⟩:=c
 refine⟨code,pos,name,l,t,ta,ea,_,tc,_,ec,rfl,?_⟩
 rw[RepS]
 exact⟨_,_,p,vs,i,h,[],by rw[<-m,<-q];simp[scells],n,o,r,s,t1,t2,j,k,by rw[RepS]⟩
theorem VS.inv {b:List S}(h:VS B [⟨code,pos,name,index,value,b,a⟩] v w) :
  ∃d f ta tc ea ec,v=.agg (scells code pos (bs name) (.pointer d) (.pointer f) (.slice ta b.length tc) (.slice ea a.length ec))/\VP B index (.pointer d) w/\VP B value (.pointer f) w/\VO B b (.slice ta b.length tc) w/\VO B a (.slice ea a.length ec) w:=by
 obtain⟨c,p,n,d,f,ta,ea,tn,tc,en,ec,m,j⟩:=h
 rw[RepS]at j
 obtain⟨M,ev,s,vs,l,k,cs',q,C,D,E,F,G,H,I,J,L⟩:=j
 simp only[scells,List.cons_append,List.nil_append,List.cons.injEq]at q
 obtain⟨q0,t,u,x,y,z,A,K⟩:=q
 subst z;subst A
 have g:VO B b (.slice ta tn tc) w:=⟨l,G,H⟩
 have i:VO B a (.slice ea en ec) w:=⟨k,I,J⟩
 have o:tn=b.length:=by obtain⟨_,_,e⟩:=g.shape;cases e;rfl
 have r:en=a.length:=by obtain⟨_,_,e⟩:=i.shape;cases e;rfl
 subst o;subst r
 refine⟨d,f,ta,tc,ea,ec,?_,⟨s,x,C,D⟩,⟨vs,y,E,F⟩,g,i⟩
 rw[m]
 simp only[scells,q0,t,u]
theorem VL.vo (h:VL B l v w):VO B l v w:=h.own
theorem VO.nil (B:Nat)(w:World):VO B [] (.slice none 0 0) w:=⟨[],by rw[RepS],Or.inl ⟨rfl,rfl⟩⟩
theorem VO.one {b c ta ea:Option Addr}{tn tc en ec:Nat}(h:VS B s (.agg (scells code pos (bs name) (.pointer b) (.pointer c) (.slice ta tn tc) (.slice ea en ec))) w)(e:B<=w.heap.size)(j:s.length=1) :
  VO B s (.slice (some ⟨w.heap.size,0,none⟩) 1 1) (w.alloc (.cells (scells code pos (bs name) (.pointer b) (.pointer c) (.slice ta tn tc) (.slice ea en ec)) 216)):=by
 obtain⟨t,v,u,n,r,o,k,q,p,m,l,d,a⟩:=h
 rw[<-Value.agg.inj d]at a
 refine⟨_,a.mono' (fun i f g=>⟨Below.heap_alloc _ _ _ g,f⟩),?_⟩
 rw[j]
 exact Or.inr ⟨w.heap.size,1,_,rfl,e,zl _ _,Nat.le_refl _,by unfold maxLen;omega,rfl,rfl⟩
def withElse (e:List S) (l:List S):List S:=l.map fun s=>⟨s.code,s.pos,s.name,s.index,s.value,s.thn,e⟩
def branchT (f b:Nat) (s:List S) (r3:List Tok):Except Tp.Er (List S×List Tok) :=
 if tx r3=Tp.wElsif then do
  let (e,r4) <- Tp.sx f 3 (b+1) r3
  .ok (withElse e s,r4)
 else if tx r3=Tp.wElse then do
  let (e,r4) <- Tp.sx f 0 (b+1) (stp r3)
  .ok (withElse e s,r4)
 else .ok (s,r3)
theorem vV {a:Tp.Er}(h:blockS f 2 b Tp.wThen r=.error a):Tp.sx (f+1) 3 b r=.error a:=by
 unfold blockS at h
 rw[Tp.sx]
 simp only[show ¬(3=0) by omega,show ¬(3=1) by omega,show ¬(3=2) by omega,if_false,bind,Except.bind]at h ⊢
 cases c:Tp.ex f 0 0 0 [] (stp r) with
 |error e=>rw[c]at h;exact h
 |ok v =>
  rw[c]at h;simp only at h ⊢
  cases d:Tp.want Tp.wThen v.2 with
  |error e=>rw[d]at h;exact h
  |ok r2 =>
   rw[d]at h;simp only at h ⊢
   cases g:Tp.sx f 0 (b+1) r2 with
   |error e=>rw[g]at h;exact h
   |ok u=>rw[g]at h;cases h
theorem sx3_ok (h:blockS f 2 b Tp.wThen r=.ok (s,g)):Tp.sx (f+1) 3 b r=branchT f b s g/\(∃x l,s=[⟨2,at' r,[],[],x,l,[]⟩])/\b+1<=10:=by
 unfold blockS at h
 rw[Tp.sx]
 simp only[show ¬(3=0) by omega,show ¬(3=1) by omega,show ¬(3=2) by omega,if_false,bind,Except.bind]at h ⊢
 cases c:Tp.ex f 0 0 0 [] (stp r) with
 |error e=>rw[c]at h;cases h
 |ok v =>
  rw[c]at h;simp only at h ⊢
  cases d:Tp.want Tp.wThen v.2 with
  |error e=>rw[d]at h;cases h
  |ok r2 =>
   rw[d]at h;simp only at h ⊢
   cases a:Tp.sx f 0 (b+1) r2 with
   |error e=>rw[a]at h;cases h
   |ok u =>
    rw[a]at h;simp only[Except.ok.injEq,Prod.mk.injEq]at h
    obtain⟨rfl,rfl⟩:=h
    refine⟨?_,⟨v.1,u.1,rfl⟩,?_⟩
    ·unfold branchT withElse
     by_cases c1:tx u.2=Tp.wElsif
     ·simp only[c1,if_true,bind,Except.bind];cases Tp.sx f 3 (b+1) u.2<;>rfl
     ·by_cases c2:tx u.2=Tp.wElse
      ·simp only[c2,if_true,bind,Except.bind,show ¬(Tp.wElse=Tp.wElsif) by decide,if_false];cases Tp.sx f 0 (b+1) (stp u.2)<;>rfl
      ·simp only[c1,c2,if_false]
    ·cases f with
     |zero=>cases a
     |succ k =>
      rw[Tp.sx]at a
      by_cases i:10<b+1
      ·simp[i]at a
      ·omega
def VPd (D:Nat->Prop) (l:List X) (v:Value) (w:World):Prop:=∃ls:List Value,v=ls.headD (.pointer none)/\RepL w D l ls/\ls.length<=1
def VOd (D:Nat->Prop) (l:List S) (v:Value) (w:World):Prop:=∃cs,RepS w D l cs/\OwnS w D v l.length cs
theorem VPd.mono {w w':World}{D D':Nat->Prop}(e:∀b,D b->b<w.heap.size->w'.heap[b]?=w.heap[b]?/\D' b){l:List X}{v:Value}(h:VPd D l v w):VPd D' l v w':=by
 obtain⟨f,a,c,d⟩:=h;exact⟨f,a,RepL.mono e _ _ _ zn c,d⟩
theorem VOd.mono {w w':World}{D D':Nat->Prop}(a:∀b,D b->b<w.heap.size->w'.heap[b]?=w.heap[b]?/\D' b){l:List S}{v:Value}(h:VOd D l v w):VOd D' l v w':=by
 obtain⟨c,d,e⟩:=h;exact⟨c,d.mono' a,e.mono a⟩
theorem VPd.ext (k:Ext b w w')(c:¬D b){l:List X}{v:Value}(h:VPd D l v w):VPd D l v w' :=
 h.mono (fun i a d=>⟨k.block i d (fun e=>c (e ▸ a)),a⟩)
theorem VOd.ext (k:Ext b w w')(c:¬D b){l:List S}{v:Value}(h:VOd D l v w):VOd D l v w' :=
 h.mono (fun i a d=>⟨k.block i d (fun e=>c (e ▸ a)),a⟩)
theorem VP.d {l:List X}(h:VP B l v w)(e:B=C):VPd (fun i=>C<=i) l v w:=by subst e;exact h
theorem VO.d (h:VO B l v w)(e:B=C):VOd (fun i=>C<=i) l v w:=by subst e;exact h
theorem VPd.p {l:List X}(h:VPd D l v w)(e:∀i,D i->B<=i):VP B l v w:=h.mono (fun i a _=>⟨rfl,e i a⟩)
theorem VOd.o (h:VOd D l v w)(e:∀i,D i->B<=i):VO B l v w:=h.mono (fun i a _=>⟨rfl,e i a⟩)
theorem sx3_len (h:Tp.sx f 3 b r=.ok (s,g)):s.length=1:=by
 cases f with
 |zero=>cases h
 |succ f =>
  rcases hb:blockS f 2 b Tp.wThen r with er|⟨i,c⟩
  ·rw[vV hb]at h;cases h
  ·obtain⟨d,⟨x,l,rfl⟩,_⟩:=sx3_ok hb
   rw[d]at h
   unfold branchT withElse at h
   by_cases c1:tx c=Tp.wElsif
   ·simp only[c1,if_true,bind,Except.bind]at h
    cases a:Tp.sx f 3 (b+1) c with
    |error e=>rw[a]at h;cases h
    |ok u=>rw[a]at h;simp only[Except.ok.injEq,Prod.mk.injEq]at h;rw[<-h.1];rfl
   ·by_cases c2:tx c=Tp.wElse
    ·simp only[c2,if_true,bind,Except.bind,show ¬(Tp.wElse=Tp.wElsif) by decide,if_false]at h
     cases a:Tp.sx f 0 (b+1) (stp c) with
     |error e=>rw[a]at h;cases h
     |ok u=>rw[a]at h;simp only[Except.ok.injEq,Prod.mk.injEq]at h;rw[<-h.1];rfl
    ·simp only[c1,c2,if_false,Except.ok.injEq,Prod.mk.injEq]at h;rw[<-h.1];rfl
theorem uJ {p:Ps}{n:List Tok}(hL:LevelC p n f)(hS:StmtsC p n f)(hB:BranchC p n f):BranchC p n (f+1):=by
 intro w r b h hb hn
 have m9:=zg h.c0
 have m8:(b:Int)<=10:=by omega
 have i1:blockS f 2 b Tp.wThen r≠.error (99,0):=fun e=>hn (vV e)
 have f0:=fun W (hW:St W p n r 0 b)=>xm hL hS hW hb 2 Tp.wThen (bs Tp.wThen) rfl i1
 have HN:Hid (Tp.sx (f+1) 3 b r≠.error (99,0)):=hn
 have m6:Hid (StmtsC p n f):=hS
 have m5:Hid (BranchC p n f):=hB
 generalize h6:blockS f 2 b Tp.wThen r=res at f0
 have HR:Hid (blockS f 2 b Tp.wThen r=res):=h6
 have HC:Hid (∀W,St W p n r 0 b->Calls Tryz.prog 161 #[.pointer (some ⟨p.pb,0,none⟩),.int .i64 2,.string ⟨#[116,104,101,110]⟩] W fun e w'=>Post p n 0 b W (VS W.heap.size) res e w'):=f0
 clear f0 hn i1 hL hS hB h6
 go_enter Tryz.func162,Tryz.ntmps162
 go_wp2_with fail
 have g1:∀(W:World) Z,Below W.heap.size W (W.alloc Z):=fun W Z=>zb _ _
 refine(HC.out _ (h.below (g1 _ _))).mono ?_
 intro e y I
 have HA:Hid (∀(W:World) Z,Below W.heap.size W (W.alloc Z)):=g1
 clear g1
 rcases res with er|⟨s,j⟩
 ·obtain⟨J,c6⟩:=I
  obtain⟨ab,h1,rfl,h2,h3⟩:=J.out
  go_wp2_with fail
  refine⟨rfl,?_⟩
  rw[vV HR.out]
  exact zw (Ext.below (HA.out _ _)) J c6
 ·obtain⟨v,rfl,K,d8,c6⟩:=I
  obtain⟨a8,⟨x,l,rfl⟩,m2⟩:=sx3_ok HR.out
  have P:Hid (Tp.sx (f+1) 3 b r=branchT f b [⟨2,at' r,[],[],x,l,[]⟩] j):=a8
  clear a8
  obtain⟨E,F,ta,tc,ea,ec,rfl,i5,i8,i7,i4⟩:=K.inv
  have f2:y.heap[w.heap.size]?=some (.cells (scells 0 0 ⟨#[]⟩ (.pointer none) (.pointer none) (.slice none 0 0) (.slice none 0 0)) 216 (0,0)):=(c6.block _ (by simp) (by omega)).trans (zl _ _)
  have g3:Ext p.pb w y:=(Ext.below (HA.out _ _)).trans c6
  have h9:=zc f2
  clear c6 K
  have c4:=d8.c4
  have f4:=d8.fz 4
  have m4:=zg c4
  simp only[scells]
  go_wp2_with fail
  clear c4 f4
  obtain⟨c,V⟩:∃c,c=w.heap.size:=⟨_,rfl⟩
  obtain⟨a,g2⟩:∃a,a=y.heap.size:=⟨_,rfl⟩
  have g6:∀Z i,c+1<=i->i<y.heap.size->((y.setCell ⟨p.pb,4,none⟩ (.int .i64 ((b:Int)+1))).alloc Z).heap[i]?=y.heap[i]?/\(c+1<=i/\i≠a):=by
   intro Z i h1 h2
   exact⟨(Below.heap_alloc _ _ _ (by simpa using h2)).trans (Below.heap_setCell _ _ _ _ (by simp;omega)),h1,by omega⟩
  have i3:(y.setCell ⟨p.pb,4,none⟩ (.int .i64 ((b:Int)+1))).heap.size=a:=by rw[g2];simp
  obtain⟨q,X⟩:∃q,q=(y.setCell ⟨p.pb,4,none⟩ (.int .i64 ((b:Int)+1))).alloc (.cells #[.int .i64 2,.int .i64 (at' r:Int),.string (bs []),.pointer E,.pointer F,.slice ta l.length tc,.slice ea 0 ec] 216):=⟨_,rfl⟩
  have f9:St q p n j 0 (b+1):=by rw[X];exact(d8.setBlocks (b+1) ((b:Int)+1) (by omega)).below (HA.out _ _)
  have g4:Ext p.pb w q:=by rw[X];exact(g3.set 4 _).trans (Ext.below (HA.out _ _))
  have f3:q.heap[c]?=some (.cells (scells 0 0 ⟨#[]⟩ (.pointer none) (.pointer none) (.slice none 0 0) (.slice none 0 0)) 216 (0,0)):=by
   rw[X,V];exact(Below.heap_alloc _ _ _ (by simpa using h9)).trans ((Below.heap_setCell _ _ _ _ (by simp;omega)).trans f2)
  have f7:q.heap[a]?=some (.cells (scells 2 (at' r) (bs []) (.pointer E) (.pointer F) (.slice ta l.length tc) (.slice ea 0 ec)) 216 (0,0)):=by
   rw[X,<-i3];exact zl _ _
  have c2:∀i,c+1<=i->i<y.heap.size->q.heap[i]?=y.heap[i]?/\(c+1<=i/\i≠a):=by rw[X];exact g6 _
  have b8:VPd (fun i=>c+1<=i/\i≠a) [] (.pointer E) q:=VPd.mono c2 (i5.d (by rw[V];simp))
  have c1:VPd (fun i=>c+1<=i/\i≠a) x (.pointer F) q:=VPd.mono c2 (i8.d (by rw[V];simp))
  have b9:VOd (fun i=>c+1<=i/\i≠a) l (.slice ta l.length tc) q:=VOd.mono c2 (i7.d (by rw[V];simp))
  have b7:VOd (fun i=>c+1<=i/\i≠a) [] (.slice ea 0 ec) q:=VOd.mono c2 (i4.d (by rw[V];simp))
  rw[<-X,<-V,<-g2]
  have n0:p.pb<c:=by omega
  have i2:c<a:=by omega
  have m7:w.heap.size<=c:=by omega
  clear g6 c2 i5 i8 i7 i4 d8 g3 f2 h9 i3 X g2 V m4
  refine(yy f9 Tp.wElsif _ rfl).mono ?_
  rintro e w3⟨rfl,a5⟩
  have b6:=f9.below a5
  have a0:=g4.trans (Ext.below a5)
  have M:=(a5.block c (zc f3)).trans f3
  have N:=(a5.block a (zc f7)).trans f7
  have c5:∀i,(c+1<=i/\i≠a)->i<q.heap.size->w3.heap[i]?=q.heap[i]?/\(c+1<=i/\i≠a):=fun i Y hl=>⟨a5.block i hl,Y⟩
  have a9:=b8.mono c5
  have b3:=c1.mono c5
  have b1:=b9.mono c5
  have d1:=b7.mono c5
  clear f9 g4 f3 f7 b8 c1 b9 b7 c5 a5
  go_upto_if 14 with fail
  go_cut [] (fun wc=>∃(g:List S) (Q:Option Addr) (R:Nat) (u:List Tok),St wc p n u 0 (b+1)/\Ext p.pb w wc /\
   wc.heap[c]?=some (.cells (scells 0 0 ⟨#[]⟩ (.pointer none) (.pointer none) (.slice none 0 0) (.slice none 0 0)) 216 (0,0)) /\
   wc.heap[a]?=some (.cells (scells 2 (at' r) (bs []) (.pointer E) (.pointer F) (.slice ta l.length tc) (.slice Q g.length R)) 216 (0,0)) /\
   VPd (fun i=>c+1<=i/\i≠a) [] (.pointer E) wc/\VPd (fun i=>c+1<=i/\i≠a) x (.pointer F) wc/\VOd (fun i=>c+1<=i/\i≠a) l (.slice ta l.length tc) wc /\
   VOd (fun i=>c+1<=i/\i≠a) g (.slice Q g.length R) wc/\Tp.sx (f+1) 3 b r=.ok ([⟨2,at' r,[],[],x,l,g⟩],u))
  case first =>
   by_cases a6:tx j=Tp.wElsif
   ·have m3:=decide_eq_true a6
    have H:Hid (tx j=Tp.wElsif):=a6
    clear a6
    have c3:Tp.sx f 3 (b+1) j≠.error (99,0):=by
     intro e;apply HN.out;rw[P.out];unfold branchT;rw[if_pos H.out,e];rfl
    have U:=m5.out w3 j (b+1) b6 m2 c3
    generalize a7:Tp.sx f 3 (b+1) j=res2 at U
    have a4:Hid (Tp.sx f 3 (b+1) j=res2):=a7
    have g0:Hid (Calls Tryz.prog 162 #[.pointer (some ⟨p.pb,0,none⟩)] w3 fun e w'=>Post p n 0 (b+1) w3 (VS w3.heap.size) res2 e w'):=U
    clear U a7 c3
    go_wp2_with fail
    refine g0.out.mono ?_
    intro e m I
    rcases res2 with er|⟨g,u⟩
    ·obtain⟨J,k⟩:=I
     obtain⟨ab,h1,rfl,h2,h3⟩:=J.out
     go_wp2_with fail
     refine⟨rfl,?_⟩
     rw[P.out,show branchT f b [⟨2,at' r,[],[],x,l,[]⟩] j=.error er by unfold branchT;rw[if_pos H.out,a4.out];rfl]
     exact zw a0 J k
    ·obtain⟨v,rfl,K,O,k⟩:=I
     have f1:=sx3_len a4.out
     obtain⟨c7,d0,c8,e3,e7,e4,e0,e6,e5,e2,e1,rfl,i6⟩:=K
     have b5:=VO.one (s:=g) ⟨c7,d0,c8,e3,e7,e4,e0,e6,e5,e2,e1,rfl,i6⟩ k.size f1
     have d5:=zc N
     have a2:=(k.block c (zc M) (by omega)).trans M
     have z:=(k.block a d5 (by omega)).trans N
     have d6:=zc z
     have a1:=a0.trans k
     have b0:=a9.ext k (by omega)
     have b4:=b3.ext k (by omega)
     have b2:=b1.ext k (by omega)
     clear a9 b3 b1 d1 a0 b6 k M N i6
     have k6:m.cell? ⟨a,6,none⟩=some (.slice ea 0 ec):=za z
     have z6:m.frozen? ⟨a,6,none⟩=false:=zi z
     simp only[scells]
     go_wp2_with fail
     go_meet
     case rel =>
      have L:=HA.out m (.cells #[.int .i64 (c7:Int),.int .i64 (d0:Int),.string (bs c8),.pointer e3,.pointer e7,.slice e4 e6 e5,.slice e0 e2 e1] 216)
      rw[<-World.setCell_alloc_past (w:=m) (.cells #[.int .i64 (c7:Int),.int .i64 (d0:Int),.string (bs c8),.pointer e3,.pointer e7,.slice e4 e6 e5,.slice e0 e2 e1] 216) a 6 (.slice (some ⟨m.heap.size,0,none⟩) 1 1) d6]
      simp only[scells]at b5
      have d9:=O.below L
      have c9:=a1.trans (Ext.below L)
      have d7:=(L.block c (by omega)).trans a2
      have a3:=(L.block a d6).trans z
      have d2:=b0.ext (b:=p.pb) (Ext.below L) (by omega)
      have d4:=b4.ext (b:=p.pb) (Ext.below L) (by omega)
      have d3:=b2.ext (b:=p.pb) (Ext.below L) (by omega)
      generalize m.alloc (.cells #[.int .i64 (c7:Int),.int .i64 (d0:Int),.string (bs c8),.pointer e3,.pointer e7,.slice e4 e6 e5,.slice e0 e2 e1] 216)=t at b5 d9 c9 d7 a3 d2 d4 d3 ⊢
      have T:Below a t (t.setCell ⟨a,6,none⟩ (.slice (some ⟨m.heap.size,0,none⟩) 1 1)):=zu (Below.refl _ _) zn 6 _
      have C:Ext a t (t.setCell ⟨a,6,none⟩ (.slice (some ⟨m.heap.size,0,none⟩) 1 1)):=(Ext.refl _ _).set 6 _
      have m0:VOd (fun i=>c+1<=i/\i≠a) g (.slice (some ⟨m.heap.size,0,none⟩) g.length 1) t:=by
       rw[f1];exact VOd.mono (D:=fun i=>w3.heap.size<=i) (fun i Y _=>⟨rfl,by omega⟩) (b5.d rfl)
      refine⟨g,some ⟨m.heap.size,0,none⟩,1,u,d9.belowB T (by omega),c9.trans' (T.mono (by omega)),(T.block c i2).trans d7,?_,d2.ext C (by omega),d4.ext C (by omega),d3.ext C (by omega),m0.ext C (by omega),?_⟩
      ·rw[f1];exact zy 6 _ a3
      ·rw[P.out,show branchT f b [⟨2,at' r,[],[],x,l,[]⟩] j=.ok ([⟨2,at' r,[],[],x,l,g⟩],u) by unfold branchT;rw[if_pos H.out,a4.out];rfl]
   ·have m3:=decide_eq_false a6
    have H:Hid (¬tx j=Tp.wElsif):=a6
    clear a6
    go_wp2_with fail
    refine(zQ b6 Tp.wElse _ rfl).mono ?_
    rintro e m⟨rfl,O,k⟩
    have d5:=zc N
    have a2:=(k.block c (zc M) (by omega)).trans M
    have z:=(k.block a d5 (by omega)).trans N
    have d6:=zc z
    have a1:=a0.trans k
    have b0:=a9.ext k (by omega)
    have b4:=b3.ext k (by omega)
    have b2:=b1.ext k (by omega)
    have g7:=d1.ext k (by omega)
    clear a9 b3 b1 d1 a0 b6 k M N d5
    by_cases G:tx j=Tp.wElse
    ·have i9:=decide_eq_true G
     rw[if_pos G]at O
     have HL:Hid (tx j=Tp.wElse):=G
     clear G
     have c3:Tp.sx f 0 (b+1) (stp j)≠.error (99,0):=by
      intro e;apply HN.out;rw[P.out];unfold branchT;rw[if_neg H.out,if_pos HL.out,e];rfl
     have U:=m6.out m (stp j) (b+1) O (by omega) c3
     generalize a7:Tp.sx f 0 (b+1) (stp j)=res2 at U
     have a4:Hid (Tp.sx f 0 (b+1) (stp j)=res2):=a7
     have g0:Hid (Calls Tryz.prog 82 #[.pointer (some ⟨p.pb,0,none⟩)] m fun e w'=>Post p n 0 (b+1) m (VL m.heap.size) res2 e w'):=U
     clear U a7 c3
     go_wp2_with fail
     refine g0.out.mono ?_
     intro e t I
     rcases res2 with er|⟨g,u⟩
     ·obtain⟨J,A⟩:=I
      obtain⟨ab,h1,rfl,h2,h3⟩:=J.out
      go_wp2_with fail
      refine⟨rfl,?_⟩
      rw[P.out,show branchT f b [⟨2,at' r,[],[],x,l,[]⟩] j=.error er by unfold branchT;rw[if_neg H.out,if_pos HL.out,a4.out];rfl]
      exact zw a1 J A
     ·obtain⟨v,rfl,K,d9,A⟩:=I
      obtain⟨ao,cap,rfl⟩:=K.shape
      have d7:=(A.block c (zc a2) (by omega)).trans a2
      have a3:=(A.block a d6 (by omega)).trans z
      have c9:=a1.trans A
      have d2:=b0.ext A (by omega)
      have d4:=b4.ext A (by omega)
      have d3:=b2.ext A (by omega)
      have b5:VOd (fun i=>c+1<=i/\i≠a) g (.slice ao g.length cap) t:=VOd.mono (D:=fun i=>m.heap.size<=i) (fun i Y _=>⟨rfl,by omega⟩) (K.vo.d rfl)
      clear b0 b4 b2 g7 a1 O A a2 z K
      have k6:t.cell? ⟨a,6,none⟩=some (.slice ea 0 ec):=za a3
      have z6:t.frozen? ⟨a,6,none⟩=false:=zi a3
      go_wp2_with fail
      go_meet
      case rel =>
       have T:Below a t (t.setCell ⟨a,6,none⟩ (.slice ao g.length cap)):=zu (Below.refl _ _) zn 6 _
       have C:Ext a t (t.setCell ⟨a,6,none⟩ (.slice ao g.length cap)):=(Ext.refl _ _).set 6 _
       refine⟨g,ao,cap,u,d9.belowB T (by omega),c9.trans' (T.mono (by omega)),(T.block c i2).trans d7,zy 6 _ a3,d2.ext C (by omega),d4.ext C (by omega),d3.ext C (by omega),b5.ext C (by omega),?_⟩
       rw[P.out,show branchT f b [⟨2,at' r,[],[],x,l,[]⟩] j=.ok ([⟨2,at' r,[],[],x,l,g⟩],u) by unfold branchT;rw[if_neg H.out,if_pos HL.out,a4.out];rfl]
    ·have i9:=decide_eq_false G
     rw[if_neg G]at O
     have HL:Hid (¬tx j=Tp.wElse):=G
     clear G
     go_wp2_with fail
     go_meet
     case rel =>
      refine⟨[],ea,ec,j,O,a1,a2,z,b0,b4,b2,g7,?_⟩
      rw[P.out,show branchT f b [⟨2,at' r,[],[],x,l,[]⟩] j=.ok ([⟨2,at' r,[],[],x,l,[]⟩],j) by unfold branchT;rw[if_neg H.out,if_neg HL.out]]
  case rest =>
   obtain⟨g,Q,R,u,e8,h5,f6,f8,b8,c1,b9,b7,a8⟩:=hcut
   have m1:Hid (Tp.sx (f+1) 3 b r=.ok ([⟨2,at' r,[],[],x,l,g⟩],u)):=a8
   clear a8 a9 b3 b1 d1 a0 b6 M N
   have c4:=e8.c4
   have f4:=e8.fz 4
   go_upto_region 8 with fail
   clear c4 f4
   have B:Ext p.pb wc (wc.setCell ⟨p.pb,4,none⟩ (.int .i64 (b:Int))):=(Ext.refl _ _).set 4 _
   have h8:=e8.setBlocks b (b:Int) rfl
   have g5:=h5.trans B
   have h7:=(B.block a (zc f8) (by omega)).trans f8
   have f5:=(B.block c (zc f6) (by omega)).trans f6
   have g9:=b8.ext B (by omega)
   have h4:=c1.ext B (by omega)
   have h0:=b9.ext B (by omega)
   have g8:=b7.ext B (by omega)
   generalize wc.setCell ⟨p.pb,4,none⟩ (.int .i64 (b:Int))=w7 at B h8 g5 h7 f5 g9 h4 h0 g8 ⊢
   clear B e8 h5 f8 f6 b8 c1 b9 b7
   have ks:∀i,w7.cell? ⟨a,i,none⟩=(scells 2 (at' r) (bs []) (.pointer E) (.pointer F) (.slice ta l.length tc) (.slice Q g.length R))[i]?:=fun i=>za h7
   have kr:∀i,w7.cell? ⟨c,i,none⟩=(scells 0 0 ⟨#[]⟩ (.pointer none) (.pointer none) (.slice none 0 0) (.slice none 0 0))[i]?:=fun i=>za f5
   have zr:∀i,w7.frozen? ⟨c,i,none⟩=false:=fun i=>zi f5
   simp only[scells]at ks kr
   go_wp2_with fail
   refine bodyPost_ret (v:=.agg (scells (2:Nat) (at' r) (bs []) (.pointer E) (.pointer F) (.slice ta l.length tc) (.slice Q g.length R))) (by simp[results,Tryz.results162,go_sem,kr,scells]) rfl ?_
   rw[m1.out]
   have e9:=yt w7 c (.int .i64 2) (.int .i64 (at' r:Int)) (.string (bs [])) (.pointer E) (.pointer F) (.slice ta l.length tc) (.slice Q g.length R)
   have i0:=zM w7 c (.int .i64 2) (.int .i64 (at' r:Int)) (.string (bs [])) (.pointer E) (.pointer F) (.slice ta l.length tc) (.slice Q g.length R)
   refine⟨_,rfl,VS.mk' ?_ ?_ ?_ ?_,?_,?_⟩
   ·exact(g9.ext e9 (by omega)).p (fun i Y=>by omega)
   ·exact(h4.ext e9 (by omega)).p (fun i Y=>by omega)
   ·exact(h0.ext e9 (by omega)).o (fun i Y=>by omega)
   ·exact(g8.ext e9 (by omega)).o (fun i Y=>by omega)
   ·exact h8.belowB i0 (by omega)
   ·exact g5.trans' (i0.mono m7)
end Go.Proofs.YtbkndnmglhghlaaGreatDoor
