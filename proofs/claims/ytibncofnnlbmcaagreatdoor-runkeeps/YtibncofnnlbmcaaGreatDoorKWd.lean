import Derived.Test.YtibncofnnlbmcaaGreatDoorKWc
set_option maxRecDepth 100000
set_option maxHeartbeats 4000000
namespace Go.Proofs.YtibncofnnlbmcaaGreatDoor
open Go.RowKit
open Tp (Tok hd tx at' stp X S)
def OwnS (w:World) (D:Nat->Prop) (v:Value) (n:Nat) (cs:List Value):Prop :=
 v=.slice none 0 0/\n=0\/∃g cap cur,v=.slice (some ⟨g,0,none⟩) n cap/\D g/\w.heap[g]?=some (.cells cur 181 (0,0))/\n<=cap/\cap<=maxLen/\cur.size=cap*7/\cur.toList.take (n*7)=cs
def RepS (w:World) (D:Nat->Prop):List S->List Value->Prop
 |[],cs=>cs=[]
 | ⟨code,pos,name,index,value,thn,els⟩ :: ss,cs=>∃(tv ev:Value) (ls vs tcs ecs cs':List Value),
   cs=[.int .i64 (code:Int),.int .i64 (pos:Int),.string (bs name),ls.headD (.pointer none),vs.headD (.pointer none),tv,ev]++cs' /\
   RepL w D index ls/\ls.length<=1/\RepL w D value vs/\vs.length<=1/\RepS w D thn tcs/\OwnS w D tv thn.length tcs/\RepS w D els ecs/\OwnS w D ev els.length ecs/\RepS w D ss cs'
theorem OwnS.mono {w w':World}{D D':Nat->Prop}(k:∀b,D b->b<w.heap.size->w'.heap[b]?=w.heap[b]?/\D' b){v:Value}{n:Nat}{cs:List Value}(h:OwnS w D v n cs):OwnS w' D' v n cs:=by
 rcases h with h|⟨g,cap,c,f,i,a,j⟩
 ·exact Or.inl h
 ·obtain⟨d,e⟩:=k g i (zf a)
  exact Or.inr ⟨g,cap,c,f,e,d.trans a,j⟩
theorem RepS.mono {w w':World}{D D':Nat->Prop}(a:∀b,D b->b<w.heap.size->w'.heap[b]?=w.heap[b]?/\D' b):∀(n:Nat) (l:List S) (cs:List Value),SizeOf.sizeOf l<=n->RepS w D l cs->RepS w' D' l cs:=by
 intro n
 induction n with
 |zero=>intro l vs c;cases l<;>simp at c<;>omega
 |succ n ih =>
  intro l vs c h
  cases l with
  |nil=>rw[RepS]at h ⊢;exact h
  |cons x xs =>
   obtain⟨code,pos,name,index,value,y,v⟩:=x
   rw[RepS]at h ⊢
   simp at c
   obtain⟨u,ev,t,vs,g,e,d,i,j,k,m,o,p,q,r,s,f⟩:=h
   exact⟨u,ev,t,vs,g,e,d,i,RepL.mono a _ _ _ zn j,k,RepL.mono a _ _ _ zn m,o,ih _ _ (by omega) p,q.mono a,ih _ _ (by omega) r,s.mono a,ih _ _ (by omega) f⟩
theorem RepS.mono' {w w':World}{D D':Nat->Prop}(a:∀b,D b->b<w.heap.size->w'.heap[b]?=w.heap[b]?/\D' b){l:List S}{cs:List Value}(h:RepS w D l cs):RepS w' D' l cs:=RepS.mono a _ l cs zn h
theorem RepS.len {w:World}{D:Nat->Prop}:∀(l:List S) (cs:List Value),RepS w D l cs->cs.length=l.length*7:=by
 intro l
 induction l with
 |nil=>intro vs h;rw[RepS]at h;simp[h]
 |cons x xs ih =>
  intro cs h
  obtain⟨code,pos,name,index,value,g,e⟩:=x
  rw[RepS]at h
  obtain⟨s,ev,r,vs,f,d,c,b,i,j,k,m,n,o,p,q,a⟩:=h
  subst b
  simp[ih _ a];omega
theorem RepS.app {w:World}{D:Nat->Prop}:∀(l m:List S) (cs us:List Value),RepS w D l cs->RepS w D m us->RepS w D (l++m) (cs++us):=by
 intro l
 induction l with
 |nil=>intro m cs us h k;rw[RepS]at h;subst h;exact k
 |cons x xs ih =>
  intro m cs us h k
  obtain⟨code,pos,name,index,value,u,t⟩:=x
  rw[RepS]at h
  obtain⟨s,ev,r,vs,d,b,a,e,f,g,i,j,n,o,p,q,c⟩:=h
  subst e
  rw[List.cons_append,RepS]
  exact⟨s,ev,r,vs,d,b,a++us,by simp,f,g,i,j,n,o,p,q,ih m a us c k⟩
def scells (code pos:Int) (name:ByteArray) (iv vv tv ev:Value):Array Value:=#[.int .i64 code,.int .i64 pos,.string name,iv,vv,tv,ev]
def VS (B:Nat) (l:List S) (v:Value) (w:World):Prop:=∃(code pos:Nat) (name:List UInt8) (ia va ta ea:Option Addr) (tn tc en ec:Nat),
 v=.agg (scells code pos (bs name) (.pointer ia) (.pointer va) (.slice ta tn tc) (.slice ea en ec))/\RepS w (fun b=>B<=b) l (scells code pos (bs name) (.pointer ia) (.pointer va) (.slice ta tn tc) (.slice ea en ec)).toList
def VL (B:Nat) (l:List S) (v:Value) (w:World):Prop:=∃cs,RepS w (fun b=>B<=b/\v.ownBlock≠some b) l cs/\w.ownsRow B 181 7 v l.length cs
theorem VS.ext {w w':World}{B b:Nat}(k:Ext b w w')(m:b<B){l:List S}{v:Value}(h:VS B l v w):VS B l v w':=by
 obtain⟨c,p,n,g,j,ta,ea,tn,tc,en,ec,a,d⟩:=h
 exact⟨c,p,n,g,j,ta,ea,tn,tc,en,ec,a,d.mono' (fun i e f=>⟨k.block i f (by omega),e⟩)⟩
theorem VS.base {w:World}{B B':Nat}{l:List S}{v:Value}(h:VS B l v w)(d:B'<=B):VS B' l v w:=by
 obtain⟨c,p,n,f,g,ta,ea,tn,tc,en,ec,a,b⟩:=h
 exact⟨c,p,n,f,g,ta,ea,tn,tc,en,ec,a,b.mono' (fun _ e _=>⟨rfl,Nat.le_trans d e⟩)⟩
theorem VL.ext {w w':World}{B b:Nat}(k:Ext b w w')(d:b<B){l:List S}{v:Value}(h:VL B l v w):VL B l v w':=by
 obtain⟨cs,a,c⟩:=h
 exact⟨cs,a.mono' (fun i e f=>⟨k.block i f (by omega),e⟩),zA c k d⟩
theorem VL.base {w:World}{B B':Nat}{l:List S}{v:Value}(h:VL B l v w)(b:B'<=B):VL B' l v w:=by
 obtain⟨cs,e,a⟩:=h
 refine⟨cs,e.mono' (fun _ c _=>⟨rfl,Nat.le_trans b c.1,c.2⟩),a.1,?_⟩
 rcases a.2 with q|⟨g,cap,d,f,i,j⟩
 ·exact Or.inl q
 ·exact Or.inr ⟨g,cap,d,f,Nat.le_trans b i,j⟩
theorem VL.shape {w:World}{B:Nat}{l:List S}{v:Value}(h:VL B l v w):∃ao cap,v=.slice ao l.length cap:=by
 obtain⟨cs,_,a⟩:=h
 exact zw a
theorem VL.own {w:World}{B:Nat}{l:List S}{v:Value}(h:VL B l v w):∃cs,RepS w (fun b=>B<=b) l cs/\OwnS w (fun b=>B<=b) v l.length cs:=by
 obtain⟨cs,c,d⟩:=h
 refine⟨cs,c.mono' (fun _ e _=>⟨rfl,e.1⟩),?_⟩
 rcases d.2 with q|⟨g,cap,a,f,i,j⟩
 ·exact Or.inl q
 ·exact Or.inr ⟨g,cap,a,f,i,j⟩
theorem VS.node {w:World}{B code pos:Nat}{name:List UInt8}{index value:List X}{c a:List S}{iv vv e ev:Value}
  (n:index=[]/\iv=.pointer none\/VX B index iv w)(p:value=[]/\vv=.pointer none\/VX B value vv w)
  (o:c=[]/\e=.slice none 0 0\/VL B c e w)(m:a=[]/\ev=.slice none 0 0\/VL B a ev w) :
  VS B [⟨code,pos,name,index,value,c,a⟩] (.agg (scells code pos (bs name) iv vv e ev)) w:=by
 have i:∀(l:List X) (v:Value),(l=[]/\v=.pointer none\/VX B l v w)->∃d:List Value,v=d.headD (.pointer none)/\RepL w (fun b=>B<=b) l d/\d.length<=1:=by
  intro l v h
  rcases h with⟨rfl,rfl⟩|h
  ·exact⟨[],rfl,by rw[RepL],by simp⟩
  ·exact⟨[v],rfl,h,by simp⟩
 have g:∀(l:List S) (v:Value),(l=[]/\v=.slice none 0 0\/VL B l v w)->∃cs,RepS w (fun b=>B<=b) l cs/\OwnS w (fun b=>B<=b) v l.length cs:=by
  intro l v h
  rcases h with⟨rfl,rfl⟩|h
  ·exact⟨[],by rw[RepS],Or.inl ⟨rfl,rfl⟩⟩
  ·exact h.own
 have j:∀(l:List X) (v:Value),(l=[]/\v=.pointer none\/VX B l v w)->∃f,v=.pointer f:=by
  intro l v h
  rcases h with⟨rfl,rfl⟩|h
  ·exact⟨_,rfl⟩
  ·obtain⟨bb,rfl⟩:=h.ptr;exact⟨_,rfl⟩
 have k:∀(l:List S) (v:Value),(l=[]/\v=.slice none 0 0\/VL B l v w)->∃ta tn tc,v=.slice ta tn tc:=by
  intro l v h
  rcases h with⟨rfl,rfl⟩|h
  ·exact⟨_,_,_,rfl⟩
  ·obtain⟨E,cap,rfl⟩:=h.shape;exact⟨_,_,_,rfl⟩
 obtain⟨f,rfl⟩:=j index iv n
 obtain⟨D,rfl⟩:=j value vv p
 obtain⟨ta,tn,tc,rfl⟩:=k c e o
 obtain⟨ea,en,ec,rfl⟩:=k a ev m
 obtain⟨d,u,x,y⟩:=i index _ n
 obtain⟨vs,z,A,C⟩:=i value _ p
 obtain⟨r,t1,t2⟩:=g c _ o
 obtain⟨q,s,t⟩:=g a _ m
 refine⟨code,pos,name,f,D,ta,ea,tn,tc,en,ec,rfl,?_⟩
 rw[RepS]
 exact⟨_,_,d,vs,r,q,[],by rw[<-u,<-z];simp[scells],x,y,A,C,t1,t2,s,t,by rw[RepS]⟩
theorem St.setBlocks {w:World}{p:Ps}{c r:List Tok}{o b:Nat}(h:St w p c r o b)(a:Nat)(z:Int)(k:z=a):St (w.setCell ⟨p.pb,4,none⟩ (.int .i64 z)) p c r o a:=by
 subst k
 have e:∀j v,j≠4->w.cell? ⟨p.pb,j,none⟩=some v->(w.setCell ⟨p.pb,4,none⟩ (.int .i64 (a:Int))).cell? ⟨p.pb,j,none⟩=some v:=fun j v l g=>by
  rw[World.cell?_setCell_other w ⟨p.pb,4,none⟩ ⟨p.pb,j,none⟩ _ (by simp<;>omega)];exact g
 exact⟨e 0 _ (by omega) h.c0,e 1 _ (by omega) h.c1,e 2 _ (by omega) h.c2,e 3 _ (by omega) h.c3,World.cell?_setCell_same _ _ _ h.c4,fun j=>by simpa using h.fz j,
  (Below.heap_setCell _ _ _ _ (by have:=h.apart.2;simp;omega)).trans h.kept,fun i t f=>(h.toks i t f).ext (b:=p.pb) ((Ext.refl _ _).set 4 _) (by have:=h.apart.1;omega),h.suf,h.ne,h.len,h.last,h.apart,h.dig,h.tl,⟨by simpa using h.lv.1,fun i d=>by rw[World.cell?_setCell_other w ⟨p.pb,4,none⟩ ⟨3,i,none⟩ _ (by have:=h.glt;simp<;>omega)];exact h.lv.2 i d⟩,h.glt⟩
theorem yn (w:World)(b:Nat)(a c d e f g h:Value):Ext b w (((((((w.setCell ⟨b,0,none⟩ a).setCell ⟨b,1,none⟩ c).setCell ⟨b,2,none⟩ d).setCell ⟨b,3,none⟩ e).setCell ⟨b,4,none⟩ f).setCell ⟨b,5,none⟩ g).setCell ⟨b,6,none⟩ h):=((((((((Ext.refl b w).set 0 a).set 1 c).set 2 d).set 3 e).set 4 f).set 5 g).set 6 h)
theorem zL (w:World)(b:Nat)(a c d e f g h:Value):Below b w (((((((w.setCell ⟨b,0,none⟩ a).setCell ⟨b,1,none⟩ c).setCell ⟨b,2,none⟩ d).setCell ⟨b,3,none⟩ e).setCell ⟨b,4,none⟩ f).setCell ⟨b,5,none⟩ g).setCell ⟨b,6,none⟩ h):=(zq (zq (zq (zq (zq (zq (zq (Below.refl b w) zn 0 a) zn 1 c) zn 2 d) zn 3 e) zn 4 f) zn 5 g) zn 6 h)
theorem jk {p:Ps}{m:List Tok}{f:Nat}(U:LevelC p m f){w:World}{r:List Tok}{b:Nat}(h:St w p m r 0 b)(code:Nat)(V:Tp.ex f 0 0 0 [] (stp r)≠.error (99,0)) :
  Calls Tryz.prog 133 #[.pointer (some ⟨p.pb,0,none⟩),.int .i64 (code:Int)] w fun e w'=>Post p m 0 b w (VS w.heap.size)
   (do let (x,d) <- Tp.ex f 0 0 0 [] (stp r);let r2 <- Tp.want Tp.mSemi d;.ok ([⟨code,at' r,[],[],x,[],[]⟩],r2)) e w':=by
 have a4:=zg h.c0
 have y:=fun W (hW:St W p m (stp r) 0 b)=>y6 U hW (by omega) V
 generalize Tp.ex f 0 0 0 [] (stp r)=res at y
 have HC:Hid (∀W,St W p m (stp r) 0 b->Calls Tryz.prog 157 #[.pointer (some ⟨p.pb,0,none⟩)] W fun e w'=>Post p m 0 b W (VX W.heap.size) res e w'):=y
 clear y V U
 go_enter Tryz.func133,Tryz.ntmps133
 go_wp2_with fail
 have u:∀(W:World) ob,Below W.heap.size W (W.alloc ob):=fun W ob=>zb _ _
 refine(yF (h.below (u _ _))).mono ?_
 rintro e s⟨rfl,N,H⟩
 have A:s.heap[w.heap.size]?=some (.cells (scells 0 0 ⟨#[]⟩ (.pointer none) (.pointer none) (.slice none 0 0) (.slice none 0 0)) 181 (0,0)):=(H.block _ (by simp) (by omega)).trans (zo _ _)
 have K:Ext p.pb w s:=(Ext.below (u _ _)).trans H
 have P:=zf A
 have T:Hid (∀(W:World) ob,Below W.heap.size W (W.alloc ob)):=u
 clear H u
 go_wp2_with fail
 refine(HC.out _ (N.below (T.out _ _))).mono ?_
 intro e w2 X
 have F:Hid (∀ob,Ext p.pb w (s.alloc ob)):=fun ob=>K.trans (Ext.below (T.out _ _))
 clear N
 rcases res with er|⟨x,d⟩
 ·obtain⟨q,k⟩:=X
  obtain⟨ab,h1,rfl,h2,h3⟩:=q.out
  go_wp2_with fail
  exact⟨rfl,zt (F.out _) q k⟩
 ·obtain⟨v,rfl,I,O,k⟩:=X
  obtain⟨bb,rfl⟩:=I.ptr
  have B:=(k.block w.heap.size (by simp;omega) (by omega)).trans ((Below.heap_alloc _ _ _ P).trans A)
  have n:w2.heap[s.heap.size]?=some (.cells (scells code (at' r) ⟨#[]⟩ (.pointer none) (.pointer none) (.slice none 0 0) (.slice none 0 0)) 181 (0,0)):=(k.block _ (by simp) (by omega)).trans (zo _ _)
  have L:=(F.out _).trans k
  obtain⟨a,Q⟩:∃a,a=s.heap.size:=⟨_,rfl⟩
  obtain⟨c,G⟩:∃c,c=w.heap.size:=⟨_,rfl⟩
  have R:VX (a+1) x (.pointer (some ⟨bb,0,none⟩)) w2:=I.base (by simp;omega)
  have a6:w.heap.size<a:=by omega
  rw[<-Q]at n ⊢
  rw[<-G]at B ⊢
  have a2:w.heap.size<=c:=by omega
  have a1:c<a:=by omega
  have a5:p.pb<c:=by omega
  have a3:Hid (c=w.heap.size):=G
  clear Q G A K P I k F
  have k4:w2.cell? ⟨a,4,none⟩=some (.pointer none):=za n
  have z4:w2.frozen? ⟨a,4,none⟩=false:=zi n
  go_wp2_with fail
  clear k4 z4
  have o:Below a w2 (w2.setCell ⟨a,4,none⟩ (.pointer (some ⟨bb,0,none⟩))):=zq (Below.refl _ _) zn 4 _
  have t:=O.belowB o (by omega)
  have z:=L.trans' (o.mono (by omega))
  have D:=zu 4 (.pointer (some ⟨bb,0,none⟩)) n
  have C:=(o.block c a1).trans B
  have S:VX (a+1) x (.pointer (some ⟨bb,0,none⟩)) (w2.setCell ⟨a,4,none⟩ (.pointer (some ⟨bb,0,none⟩))):=VX.ext ((Ext.refl a w2).set 4 _) (by omega) R
  generalize w2.setCell ⟨a,4,none⟩ (.pointer (some ⟨bb,0,none⟩))=w3 at o t z D C S ⊢
  clear o O L n B R
  by_cases j:tx d=Tp.mSemi
  ·refine(zF t Tp.mSemi _ rfl j).mono ?_
   rintro e g⟨rfl,a0,l⟩
   have E:Hid (tx d=Tp.mSemi):=j
   clear j t
   have Z:g.heap[a]?=some (.cells (scells code (at' r) ⟨#[]⟩ (.pointer none) (.pointer (some ⟨bb,0,none⟩)) (.slice none 0 0) (.slice none 0 0)) 181 (0,0)):=(l.block a (zf D) (by omega)).trans D
   have M:g.heap[c]?=some (.cells (scells 0 0 ⟨#[]⟩ (.pointer none) (.pointer none) (.slice none 0 0) (.slice none 0 0)) 181 (0,0)):=(l.block c (zf C) (by omega)).trans C
   have ks:∀i,g.cell? ⟨a,i,none⟩=(scells code (at' r) ⟨#[]⟩ (.pointer none) (.pointer (some ⟨bb,0,none⟩)) (.slice none 0 0) (.slice none 0 0))[i]?:=fun i=>za Z
   have Y:∀i,g.cell? ⟨c,i,none⟩=(scells 0 0 ⟨#[]⟩ (.pointer none) (.pointer none) (.slice none 0 0) (.slice none 0 0))[i]?:=fun i=>za M
   have zr:∀i,g.frozen? ⟨c,i,none⟩=false:=fun i=>zi M
   simp only[scells]at ks Y
   go_wp2_with fail
   refine bodyPost_ret (v:=.agg (scells code (at' r) (bs []) (.pointer none) (.pointer (some ⟨bb,0,none⟩)) (.slice none 0 0) (.slice none 0 0))) (by simp[results,Tryz.results133,go_sem,Y,scells,bs]) rfl ?_
   have J:Tp.want Tp.mSemi d=.ok (stp d):=by unfold Tp.want;rw[if_pos E.out]
   simp only[bind,Except.bind,J]
   refine⟨_,rfl,VS.node (Or.inl ⟨rfl,rfl⟩) (Or.inr ?_) (Or.inl ⟨rfl,rfl⟩) (Or.inl ⟨rfl,rfl⟩),?_,?_⟩
   ·exact VX.base (VX.ext (b:=c) (yn g c _ _ _ _ _ _ _) (by omega) (VX.ext l (by omega) S)) (by omega)
   ·exact a0.belowB (zL g c _ _ _ _ _ _ _) (by omega)
   ·exact(z.trans l).trans' ((zL g c _ _ _ _ _ _ _).mono a2)
  ·refine(zM t Tp.mSemi _ rfl j).mono ?_
   rintro e g⟨q,l⟩
   have E:Hid (¬tx d=Tp.mSemi):=j
   clear j
   obtain⟨ab,h1,rfl,h2,h3⟩:=q.out
   go_wp2_with fail
   refine⟨rfl,?_⟩
   have J:Tp.want Tp.mSemi d=.error (3,at' d):=by unfold Tp.want;rw[if_neg E.out]
   simp only[bind,Except.bind,J]
   exact zt z q l
theorem yj (w:World)(a b:Obj):((w.alloc a).alloc b).heap[w.heap.size+1]?=some b:=by
 have h:=zo (w.alloc a) b
 rw[show (w.alloc a).heap.size=w.heap.size+1 by simp]at h
 exact h
theorem jP {p:Ps}{C:List Tok}{w:World}{r:List Tok}{o b:Nat}(h:St w p C r o b)(code pos:Nat)(name:ByteArray)(m n ta ea:Option Addr)(tn tc en ec:Nat) :
  Calls Tryz.prog 134 #[.pointer (some ⟨p.pb,0,none⟩),.agg (scells code pos name (.pointer m) (.pointer n) (.slice ta tn tc) (.slice ea en ec))] w fun e w' =>
   Post p C o b w (fun (_:Unit) v _=>v=.agg (scells code pos name (.pointer m) (.pointer n) (.slice ta tn tc) (.slice ea en ec))) (do let r2 <- Tp.want Tp.wEnd r;let r3 <- Tp.want Tp.mSemi r2;.ok ((),r3)) e w':=by
 have M:=zg h.c0
 simp only[scells]
 go_enter Tryz.func134,Tryz.ntmps134
 go_wp2_with fail
 have a:∀j k,Below w.heap.size w ((w.alloc j).alloc k):=fun j k=>(zb _ _).alloc (by simp) _
 by_cases g:tx r=Tp.wEnd
 ·refine(zF (h.below (a _ _)) Tp.wEnd _ rfl g).mono ?_
  rintro e s⟨rfl,y,d⟩
  have q:Hid (Tp.want Tp.wEnd r=.ok (stp r)):=by unfold Hid Tp.want;rw[if_pos g]
  clear g
  have x:s.heap[w.heap.size]?=some (.cells (scells code pos name (.pointer m) (.pointer n) (.slice ta tn tc) (.slice ea en ec)) 181 (0,0)):=(d.block _ (by simp;omega) (by omega)).trans ((Below.heap_alloc _ _ _ (by simp)).trans (zo _ _))
  have u:s.heap[w.heap.size+1]?=some (.cells (scells 0 0 ⟨#[]⟩ (.pointer none) (.pointer none) (.slice none 0 0) (.slice none 0 0)) 181 (0,0)):=(d.block _ (by simp) (by omega)).trans (yj _ _ _)
  have t:Ext p.pb w s:=(Ext.below (a _ _)).trans d
  clear d a
  go_wp2_with fail
  by_cases c:tx (stp r)=Tp.mSemi
  ·refine(zF y Tp.mSemi _ rfl c).mono ?_
   rintro e w2⟨rfl,F,f⟩
   have z:Hid (Tp.want Tp.mSemi (stp r)=.ok (stp (stp r))):=by unfold Hid Tp.want;rw[if_pos c]
   clear c y
   have E:=(f.block _ (zf x) (by omega)).trans x
   have A:=(f.block _ (zf u) (by omega)).trans u
   have D:=t.trans f
   clear f t x u
   have L:∀i,w2.cell? ⟨w.heap.size,i,none⟩=(scells code pos name (.pointer m) (.pointer n) (.slice ta tn tc) (.slice ea en ec))[i]?:=fun i=>za E
   have B:∀i,w2.cell? ⟨w.heap.size+1,i,none⟩=(scells 0 0 ⟨#[]⟩ (.pointer none) (.pointer none) (.slice none 0 0) (.slice none 0 0))[i]?:=fun i=>za A
   have N:∀i,w2.frozen? ⟨w.heap.size+1,i,none⟩=false:=fun i=>zi A
   simp only[scells]at L B
   go_wp2_with fail
   refine bodyPost_ret (v:=.agg (scells code pos name (.pointer m) (.pointer n) (.slice ta tn tc) (.slice ea en ec))) (by simp[results,Tryz.results134,go_sem,B,scells]) rfl ?_
   simp only[bind,Except.bind,q.out,z.out]
   exact⟨_,rfl,rfl,F.belowB (zL w2 (w.heap.size+1) _ _ _ _ _ _ _) (by omega),D.trans' ((zL w2 (w.heap.size+1) _ _ _ _ _ _ _).mono (by omega))⟩
  ·refine(zM y Tp.mSemi _ rfl c).mono ?_
   rintro e w2⟨l,f⟩
   have z:Hid (Tp.want Tp.mSemi (stp r)=.error (3,at' (stp r))):=by unfold Hid Tp.want;rw[if_neg c]
   clear c
   obtain⟨H,I,rfl,J,K⟩:=l.out
   go_wp2_with fail
   refine⟨rfl,?_⟩
   simp only[bind,Except.bind,q.out,z.out]
   exact zt t l f
 ·refine(zM (h.below (a _ _)) Tp.wEnd _ rfl g).mono ?_
  rintro e s⟨l,d⟩
  have q:Hid (Tp.want Tp.wEnd r=.error (3,at' r)):=by unfold Hid Tp.want;rw[if_neg g]
  have G:Hid (∀j k,Ext p.pb w ((w.alloc j).alloc k)):=fun j k=>Ext.below (a j k)
  clear g a
  obtain⟨H,I,rfl,J,K⟩:=l.out
  go_wp2_with fail
  refine⟨rfl,?_⟩
  simp only[bind,Except.bind,q.out]
  exact zt (G.out _ _) l d
def StmtsC (p:Ps) (ts:List Tok) (f:Nat):Prop:=∀(w:World) (r:List Tok) (b:Nat),St w p ts r 0 b->b<=11->Tp.sx f 0 b r≠.error (99,0) ->
 Calls Tryz.prog 69 #[.pointer (some ⟨p.pb,0,none⟩)] w fun e w'=>Post p ts 0 b w (VL w.heap.size) (Tp.sx f 0 b r) e w'
def StmtC (p:Ps) (ts:List Tok) (f:Nat):Prop:=∀(w:World) (r:List Tok) (b:Nat),St w p ts r 0 b->b<=10->Tp.sx f 2 b r≠.error (99,0) ->
 Calls Tryz.prog 104 #[.pointer (some ⟨p.pb,0,none⟩)] w fun e w'=>Post p ts 0 b w (VS w.heap.size) (Tp.sx f 2 b r) e w'
def BranchC (p:Ps) (ts:List Tok) (f:Nat):Prop:=∀(w:World) (r:List Tok) (b:Nat),St w p ts r 0 b->b<=10->Tp.sx f 3 b r≠.error (99,0) ->
 Calls Tryz.prog 136 #[.pointer (some ⟨p.pb,0,none⟩)] w fun e w'=>Post p ts 0 b w (VS w.heap.size) (Tp.sx f 3 b r) e w'
def blockS (f code b:Nat) (m:List UInt8) (r:List Tok):Except Tp.Er (List S×List Tok):=do
 let (x,r1) <- Tp.ex f 0 0 0 [] (stp r)
 let r2 <- Tp.want m r1
 let (l,r3) <- Tp.sx f 0 (b+1) r2
 .ok ([⟨code,at' r,[],[],x,l,[]⟩],r3)
theorem xE {p:Ps}{k:List Tok}{f:Nat}(hL:LevelC p k f)(hS:StmtsC p k f){w:World}{r:List Tok}{b:Nat}(h:St w p k r 0 b)(hb:b<=10)(code:Nat)(m:List UInt8)(y:ByteArray)(hy:Hid (y=bs m))(hn:blockS f code b m r≠.error (99,0)) :
  Calls Tryz.prog 135 #[.pointer (some ⟨p.pb,0,none⟩),.int .i64 (code:Int),.string y] w fun e w'=>Post p k 0 b w (VS w.heap.size) (blockS f code b m r) e w':=by
 have e0:=zg h.c0
 have d9:(b:Int)<=10:=by omega
 have c6:Tp.ex f 0 0 0 [] (stp r)≠.error (99,0):=by intro e;apply hn;unfold blockS;rw[e];rfl
 have S:=fun W (hW:St W p k (stp r) 0 b)=>y6 hL hW (by omega) c6
 have HS:Hid (StmtsC p k f):=hS
 have HN:Hid (blockS f code b m r≠.error (99,0)):=hn
 generalize b4:Tp.ex f 0 0 0 [] (stp r)=res at S
 have F:Hid (Tp.ex f 0 0 0 [] (stp r)=res):=b4
 have HC:Hid (∀W,St W p k (stp r) 0 b->Calls Tryz.prog 157 #[.pointer (some ⟨p.pb,0,none⟩)] W fun e w'=>Post p k 0 b W (VX W.heap.size) res e w'):=S
 clear S hn c6 hL hS b4
 go_enter Tryz.func135,Tryz.ntmps135
 go_wp2_with fail
 have R:∀(W:World) ob,Below W.heap.size W (W.alloc ob):=fun W ob=>zb _ _
 refine(yF (h.below (R _ _))).mono ?_
 rintro e H⟨rfl,b6,a5⟩
 have T:H.heap[w.heap.size]?=some (.cells (scells 0 0 ⟨#[]⟩ (.pointer none) (.pointer none) (.slice none 0 0) (.slice none 0 0)) 181 (0,0)):=(a5.block _ (by simp) (by omega)).trans (zo _ _)
 have a7:Ext p.pb w H:=(Ext.below (R _ _)).trans a5
 have b9:=zf T
 have HB:Hid (∀(W:World) ob,Below W.heap.size W (W.alloc ob)):=R
 clear a5 R
 go_wp2_with fail
 refine(HC.out _ (b6.below (HB.out _ _))).mono ?_
 intro e w2 G
 have a1:Hid (∀ob,Ext p.pb w (H.alloc ob)):=fun ob=>a7.trans (Ext.below (HB.out _ _))
 clear b6
 rcases res with er|⟨x,g⟩
 ·obtain⟨o,z⟩:=G
  obtain⟨ab,h1,rfl,h2,h3⟩:=o.out
  go_wp2_with fail
  refine⟨rfl,?_⟩
  rw[show blockS f code b m r=.error er by unfold blockS;rw[F.out];rfl]
  exact zt (a1.out _) o z
 ·obtain⟨v,rfl,hv,b7,z⟩:=G
  obtain⟨bb,rfl⟩:=hv.ptr
  have U:=(z.block w.heap.size (by simp;omega) (by omega)).trans ((Below.heap_alloc _ _ _ b9).trans T)
  have A:w2.heap[H.heap.size]?=some (.cells (scells code (at' r) ⟨#[]⟩ (.pointer none) (.pointer none) (.slice none 0 0) (.slice none 0 0)) 181 (0,0)):=(z.block _ (by simp) (by omega)).trans (zo _ _)
  have a8:=(a1.out _).trans z
  obtain⟨a,d0⟩:∃a,a=H.heap.size:=⟨_,rfl⟩
  obtain⟨c,c8⟩:∃c,c=w.heap.size:=⟨_,rfl⟩
  have d1:VX (a+1) x (.pointer (some ⟨bb,0,none⟩)) w2:=hv.base (by simp;omega)
  have e2:w.heap.size<a:=by omega
  rw[<-d0]at A ⊢
  rw[<-c8]at U ⊢
  have d8:w.heap.size<=c:=by omega
  have c9:c<a:=by omega
  have e1:p.pb<c:=by omega
  clear d0 c8 T a7 b9 hv z a1
  have k4:w2.cell? ⟨a,4,none⟩=some (.pointer none):=za A
  have z4:w2.frozen? ⟨a,4,none⟩=false:=zi A
  go_wp2_with fail
  clear k4 z4
  have D:Below a w2 (w2.setCell ⟨a,4,none⟩ (.pointer (some ⟨bb,0,none⟩))):=zq (Below.refl _ _) zn 4 _
  have N:=b7.belowB D (by omega)
  have I:=a8.trans' (D.mono (by omega))
  have L:=zu 4 (.pointer (some ⟨bb,0,none⟩)) A
  have K:=(D.block c c9).trans U
  have a3:VX (a+1) x (.pointer (some ⟨bb,0,none⟩)) (w2.setCell ⟨a,4,none⟩ (.pointer (some ⟨bb,0,none⟩))):=VX.ext ((Ext.refl a w2).set 4 _) (by omega) d1
  generalize w2.setCell ⟨a,4,none⟩ (.pointer (some ⟨bb,0,none⟩))=w3 at D N I L K a3 ⊢
  clear D b7 a8 A U d1
  by_cases u:tx g=m
  ·refine(zF N m _ hy u).mono ?_
   rintro e n⟨rfl,O,q⟩
   have C:Hid (Tp.want m g=.ok (stp g)):=by unfold Hid Tp.want;rw[if_pos u]
   clear u N
   have Z:n.heap[a]?=some (.cells (scells code (at' r) ⟨#[]⟩ (.pointer none) (.pointer (some ⟨bb,0,none⟩)) (.slice none 0 0) (.slice none 0 0)) 181 (0,0)):=(q.block a (zf L) (by omega)).trans L
   have b3:n.heap[c]?=some (.cells (scells 0 0 ⟨#[]⟩ (.pointer none) (.pointer none) (.slice none 0 0) (.slice none 0 0)) 181 (0,0)):=(q.block c (zf K) (by omega)).trans K
   have a9:=I.trans q
   have d2:=VX.ext q (by omega) a3
   have d5:=zf Z
   clear q I L K a3
   have c7:Tp.sx f 0 (b+1) (stp g)≠.error (99,0):=by
    intro e;apply HN.out;unfold blockS;simp only[F.out,C.out,e,bind,Except.bind]
   have a2:=fun W (hW:St W p k (stp g) 0 (b+1))=>HS.out W (stp g) (b+1) hW (by omega) c7
   generalize b2:Tp.sx f 0 (b+1) (stp g)=res2 at a2
   have c2:Hid (Tp.sx f 0 (b+1) (stp g)=res2):=b2
   have d7:Hid (∀W,St W p k (stp g) 0 (b+1)->Calls Tryz.prog 69 #[.pointer (some ⟨p.pb,0,none⟩)] W fun e w'=>Post p k 0 (b+1) W (VL W.heap.size) res2 e w'):=a2
   clear a2 b2 c7
   have c4:=O.c4
   have f4:=O.fz 4
   go_wp2_with fail
   clear c4 f4
   have a0:=O.setBlocks (b+1) ((b:Int)+1) (by omega)
   have J:Ext p.pb w (n.setCell ⟨p.pb,4,none⟩ (.int .i64 ((b:Int)+1))):=a9.set 4 _
   have E:Ext p.pb n (n.setCell ⟨p.pb,4,none⟩ (.int .i64 ((b:Int)+1))):=(Ext.refl _ _).set 4 _
   have c1:(n.setCell ⟨p.pb,4,none⟩ (.int .i64 ((b:Int)+1))).heap.size=n.heap.size:=by simp
   have a4:=VX.ext E (by omega) d2
   have M:=(E.block a d5 (by omega)).trans Z
   have V:=(E.block c (by omega) (by omega)).trans b3
   generalize n.setCell ⟨p.pb,4,none⟩ (.int .i64 ((b:Int)+1))=w5 at a0 J E c1 a4 M V ⊢
   refine(d7.out _ a0).mono ?_
   intro e d G
   clear E O a9 Z b3 d2 a0
   rcases res2 with er|⟨l,r3⟩
   ·obtain⟨o,s⟩:=G
    obtain⟨ab,h1,rfl,h2,h3⟩:=o.out
    go_wp2_with fail
    refine⟨rfl,?_⟩
    rw[show blockS f code b m r=.error er by unfold blockS;simp only[F.out,C.out,c2.out,bind,Except.bind]]
    exact zt J o s
   ·obtain⟨v,rfl,hl,P,s⟩:=G
    obtain⟨j,cap,rfl⟩:=hl.shape
    have d6:=zf M
    have B:=(s.block a d6 (by omega)).trans M
    have X:=(s.block c (by omega) (by omega)).trans V
    have b0:=J.trans s
    have d3:=VX.ext s (by omega) a4
    have c3:VL (a+1) l (.slice j l.length cap) d:=hl.base (by omega)
    clear J M V a4 hl s c1
    have k5:d.cell? ⟨a,5,none⟩=some (.slice none 0 0):=za B
    have z5:d.frozen? ⟨a,5,none⟩=false:=zi B
    have c4:(d.setCell ⟨a,5,none⟩ (.slice j l.length cap)).cell? ⟨p.pb,4,none⟩=some (.int .i64 ((b+1:Nat):Int)):=by
     rw[World.cell?_setCell_other d ⟨a,5,none⟩ ⟨p.pb,4,none⟩ _ (by simp<;>omega)];exact P.c4
    have f4:(d.setCell ⟨a,5,none⟩ (.slice j l.length cap)).frozen? ⟨p.pb,4,none⟩=false:=by simpa using P.fz 4
    go_upto_region 7 with fail
    clear k5 z5 c4 f4
    have Q:Below a d (d.setCell ⟨a,5,none⟩ (.slice j l.length cap)):=zq (Below.refl _ _) zn 5 _
    have b8:=(P.belowB Q (by omega)).setBlocks b (b:Int) rfl
    have t:Ext p.pb (d.setCell ⟨a,5,none⟩ (.slice j l.length cap)) ((d.setCell ⟨a,5,none⟩ (.slice j l.length cap)).setCell ⟨p.pb,4,none⟩ (.int .i64 (b:Int))):=(Ext.refl _ _).set 4 _
    have a6:Ext a d (d.setCell ⟨a,5,none⟩ (.slice j l.length cap)):=(Ext.refl _ _).set 5 _
    have b1:=(b0.trans' (Q.mono (by omega))).trans t
    have b5:=(t.block a (by simpa using zf B) (by omega)).trans (zu 5 (.slice j l.length cap) B)
    have Y:=(t.block c (by simpa using zf X) (by omega)).trans ((Q.block c c9).trans X)
    have d4:=VX.ext t (by omega) (VX.ext a6 (by omega) d3)
    have c5:=VL.ext t (by omega) (VL.ext a6 (by omega) c3)
    generalize (d.setCell ⟨a,5,none⟩ (.slice j l.length cap)).setCell ⟨p.pb,4,none⟩ (.int .i64 (b:Int))=w7 at b8 t b1 b5 Y d4 c5 ⊢
    clear Q t a6 P b0 B X d3 c3
    have ks:∀i,w7.cell? ⟨a,i,none⟩=(scells code (at' r) ⟨#[]⟩ (.pointer none) (.pointer (some ⟨bb,0,none⟩)) (.slice j l.length cap) (.slice none 0 0))[i]?:=fun i=>za b5
    have kr:∀i,w7.cell? ⟨c,i,none⟩=(scells 0 0 ⟨#[]⟩ (.pointer none) (.pointer none) (.slice none 0 0) (.slice none 0 0))[i]?:=fun i=>za Y
    have zr:∀i,w7.frozen? ⟨c,i,none⟩=false:=fun i=>zi Y
    simp only[scells]at ks kr
    go_wp2_with fail
    refine bodyPost_ret (v:=.agg (scells code (at' r) (bs []) (.pointer none) (.pointer (some ⟨bb,0,none⟩)) (.slice j l.length cap) (.slice none 0 0))) (by simp[results,Tryz.results135,go_sem,kr,scells,bs]) rfl ?_
    rw[show blockS f code b m r=.ok ([⟨code,at' r,[],[],x,l,[]⟩],r3) by unfold blockS;simp only[F.out,C.out,c2.out,bind,Except.bind]]
    refine⟨_,rfl,VS.node (Or.inl ⟨rfl,rfl⟩) (Or.inr ?_) (Or.inr ?_) (Or.inl ⟨rfl,rfl⟩),?_,?_⟩
    ·exact VX.base (VX.ext (b:=c) (yn w7 c _ _ _ _ _ _ _) (by omega) d4) (by omega)
    ·exact VL.base (VL.ext (b:=c) (yn w7 c _ _ _ _ _ _ _) (by omega) c5) (by omega)
    ·exact b8.belowB (zL w7 c _ _ _ _ _ _ _) (by omega)
    ·exact b1.trans' ((zL w7 c _ _ _ _ _ _ _).mono d8)
  ·refine(zM N m _ hy u).mono ?_
   rintro e n⟨o,q⟩
   have C:Hid (Tp.want m g=.error (3,at' g)):=by unfold Hid Tp.want;rw[if_neg u]
   clear u
   obtain⟨ab,h1,rfl,h2,h3⟩:=o.out
   go_wp2_with fail
   refine⟨rfl,?_⟩
   rw[show blockS f code b m r=.error (3,at' g) by unfold blockS;simp only[F.out,C.out,bind,Except.bind]]
   exact zt I o q
def VP (B:Nat) (l:List X) (v:Value) (w:World):Prop:=∃ls:List Value,v=ls.headD (.pointer none)/\RepL w (fun b=>B<=b) l ls/\ls.length<=1
def VO (B:Nat) (l:List S) (v:Value) (w:World):Prop:=∃cs,RepS w (fun b=>B<=b) l cs/\OwnS w (fun b=>B<=b) v l.length cs
theorem VP.ext {w w':World}{B b:Nat}(k:Ext b w w')(f:b<B){l:List X}{v:Value}(h:VP B l v w):VP B l v w':=by
 obtain⟨e,a,c,d⟩:=h;exact⟨e,a,RepL.ext k (by omega) c,d⟩
theorem VP.base {w:World}{B B':Nat}{l:List X}{v:Value}(h:VP B l v w)(d:B'<=B):VP B' l v w:=by
 obtain⟨f,a,b,c⟩:=h;exact⟨f,a,RepL.mono (fun _ e _=>⟨rfl,Nat.le_trans d e⟩) _ _ _ zn b,c⟩
theorem VO.ext {w w':World}{B b:Nat}(k:Ext b w w')(g:b<B){l:List S}{v:Value}(h:VO B l v w):VO B l v w':=by
 obtain⟨cs,c,d⟩:=h
 have a:∀i,B<=i->i<w.heap.size->w'.heap[i]?=w.heap[i]?/\B<=i:=fun i e f=>⟨k.block i f (by omega),e⟩
 exact⟨cs,c.mono' a,d.mono a⟩
theorem VO.base {w:World}{B B':Nat}{l:List S}{v:Value}(h:VO B l v w)(d:B'<=B):VO B' l v w:=by
 obtain⟨cs,b,c⟩:=h
 have a:∀i,B<=i->i<w.heap.size->w.heap[i]?=w.heap[i]?/\B'<=i:=fun i e _=>⟨rfl,Nat.le_trans d e⟩
 exact⟨cs,b.mono' a,c.mono a⟩
theorem VP.ptr {B:Nat}{l:List X}{v:Value}{w:World}(h:VP B l v w):∃ia,v=.pointer ia:=by
 obtain⟨i,c,a,g⟩:=h
 cases l with
 |nil=>rw[RepL]at a;subst a;exact⟨none,c⟩
 |cons x xs =>
  obtain⟨code,pos,j,d,name,k,left,right,args⟩:=x
  rw[RepL]at a
  obtain⟨b,f,_,_,_,e,q,_⟩:=a
  subst q
  exact⟨_,c⟩
theorem VO.shape {B:Nat}{l:List S}{v:Value}{w:World}(h:VO B l v w):∃ta tc,v=.slice ta l.length tc:=by
 obtain⟨cs,_,b⟩:=h
 rcases b with⟨rfl,a⟩|⟨g,cap,cur,rfl,_⟩
 ·rw[a];exact⟨_,_,rfl⟩
 ·exact⟨_,_,rfl⟩
theorem VS.mk' {w:World}{B code pos:Nat}{name:List UInt8}{index value:List X}{b a:List S}{iv vv g ev:Value}(d:VP B index iv w)(f:VP B value vv w)(e:VO B b g w)(c:VO B a ev w) :
  VS B [⟨code,pos,name,index,value,b,a⟩] (.agg (scells code pos (bs name) iv vv g ev)) w:=by
 obtain⟨l,rfl⟩:=d.ptr
 obtain⟨t,rfl⟩:=f.ptr
 obtain⟨ta,tc,rfl⟩:=e.shape
 obtain⟨ea,ec,rfl⟩:=c.shape
 obtain⟨p,m,n,o⟩:=d
 obtain⟨vs,q,r,s⟩:=f
 obtain⟨i,t1,t2⟩:=e
 obtain⟨h,j,k⟩:=c
 refine⟨code,pos,name,l,t,ta,ea,_,tc,_,ec,rfl,?_⟩
 rw[RepS]
 exact⟨_,_,p,vs,i,h,[],by rw[<-m,<-q];simp[scells],n,o,r,s,t1,t2,j,k,by rw[RepS]⟩
theorem VS.inv {w:World}{B code pos:Nat}{name:List UInt8}{index value:List X}{b a:List S}{v:Value}(h:VS B [⟨code,pos,name,index,value,b,a⟩] v w) :
  ∃d f ta tc ea ec,v=.agg (scells code pos (bs name) (.pointer d) (.pointer f) (.slice ta b.length tc) (.slice ea a.length ec))/\VP B index (.pointer d) w/\VP B value (.pointer f) w/\VO B b (.slice ta b.length tc) w/\VO B a (.slice ea a.length ec) w:=by
 obtain⟨c,p,n,d,f,ta,ea,tn,tc,en,ec,m,j⟩:=h
 rw[RepS]at j
 obtain⟨O,ev,s,vs,l,k,L,q,D,E,F,G,H,I,J,K,N⟩:=j
 simp only[scells,List.cons_append,List.nil_append,List.cons.injEq]at q
 obtain⟨t,u,x,y,z,A,C,M⟩:=q
 subst A;subst C
 have g:VO B b (.slice ta tn tc) w:=⟨l,H,I⟩
 have i:VO B a (.slice ea en ec) w:=⟨k,J,K⟩
 have o:tn=b.length:=by obtain⟨_,_,e⟩:=g.shape;cases e;rfl
 have r:en=a.length:=by obtain⟨_,_,e⟩:=i.shape;cases e;rfl
 subst o;subst r
 refine⟨d,f,ta,tc,ea,ec,?_,⟨s,y,D,E⟩,⟨vs,z,F,G⟩,g,i⟩
 rw[m]
 simp only[scells,t,u,x]
theorem VL.vo {w:World}{B:Nat}{l:List S}{v:Value}(h:VL B l v w):VO B l v w:=h.own
theorem VO.nil (B:Nat)(w:World):VO B [] (.slice none 0 0) w:=⟨[],by rw[RepS],Or.inl ⟨rfl,rfl⟩⟩
theorem VO.one {w:World}{B code pos:Nat}{name:List UInt8}{s:List S}{b c ta ea:Option Addr}{tn tc en ec:Nat}(h:VS B s (.agg (scells code pos (bs name) (.pointer b) (.pointer c) (.slice ta tn tc) (.slice ea en ec))) w)(e:B<=w.heap.size)(j:s.length=1) :
  VO B s (.slice (some ⟨w.heap.size,0,none⟩) 1 1) (w.alloc (.cells (scells code pos (bs name) (.pointer b) (.pointer c) (.slice ta tn tc) (.slice ea en ec)) 181)):=by
 obtain⟨t,v,u,n,r,o,k,q,p,m,l,d,a⟩:=h
 rw[<-Value.agg.inj d]at a
 refine⟨_,a.mono' (fun i f g=>⟨Below.heap_alloc _ _ _ g,f⟩),?_⟩
 rw[j]
 exact Or.inr ⟨w.heap.size,1,_,rfl,e,zo _ _,Nat.le_refl _,by unfold maxLen;omega,rfl,rfl⟩
def withElse (e:List S) (l:List S):List S:=l.map fun s=>⟨s.code,s.pos,s.name,s.index,s.value,s.thn,e⟩
def branchT (f b:Nat) (s:List S) (r3:List Tok):Except Tp.Er (List S×List Tok) :=
 if tx r3=Tp.wElsif then do
  let (e,r4) <- Tp.sx f 3 (b+1) r3
  .ok (withElse e s,r4)
 else if tx r3=Tp.wElse then do
  let (e,r4) <- Tp.sx f 0 (b+1) (stp r3)
  .ok (withElse e s,r4)
 else .ok (s,r3)
theorem uD {f b:Nat}{r:List Tok}{er:Tp.Er}(h:blockS f 2 b Tp.wThen r=.error er):Tp.sx (f+1) 3 b r=.error er:=by
 unfold blockS at h
 rw[Tp.sx]
 simp only[show ¬(3=0) by omega,show ¬(3=1) by omega,show ¬(3=2) by omega,if_false,bind,Except.bind]at h ⊢
 cases a:Tp.ex f 0 0 0 [] (stp r) with
 |error e=>rw[a]at h;exact h
 |ok v =>
  rw[a]at h;simp only at h ⊢
  cases c:Tp.want Tp.wThen v.2 with
  |error e=>rw[c]at h;exact h
  |ok r2 =>
   rw[c]at h;simp only at h ⊢
   cases d:Tp.sx f 0 (b+1) r2 with
   |error e=>rw[d]at h;exact h
   |ok u=>rw[d]at h;cases h
theorem sx3_ok {f b:Nat}{r g:List Tok}{s:List S}(h:blockS f 2 b Tp.wThen r=.ok (s,g)):Tp.sx (f+1) 3 b r=branchT f b s g/\(∃x l,s=[⟨2,at' r,[],[],x,l,[]⟩])/\b+1<=10:=by
 unfold blockS at h
 rw[Tp.sx]
 simp only[show ¬(3=0) by omega,show ¬(3=1) by omega,show ¬(3=2) by omega,if_false,bind,Except.bind]at h ⊢
 cases c:Tp.ex f 0 0 0 [] (stp r) with
 |error e=>rw[c]at h;cases h
 |ok v =>
  rw[c]at h;simp only at h ⊢
  cases d:Tp.want Tp.wThen v.2 with
  |error e=>rw[d]at h;cases h
  |ok r2 =>
   rw[d]at h;simp only at h ⊢
   cases a:Tp.sx f 0 (b+1) r2 with
   |error e=>rw[a]at h;cases h
   |ok u =>
    rw[a]at h;simp only[Except.ok.injEq,Prod.mk.injEq]at h
    obtain⟨rfl,rfl⟩:=h
    refine⟨?_,⟨v.1,u.1,rfl⟩,?_⟩
    ·unfold branchT withElse
     by_cases c1:tx u.2=Tp.wElsif
     ·simp only[c1,if_true,bind,Except.bind];cases Tp.sx f 3 (b+1) u.2<;>rfl
     ·by_cases c2:tx u.2=Tp.wElse
      ·simp only[c2,if_true,bind,Except.bind,show ¬(Tp.wElse=Tp.wElsif) by decide,if_false];cases Tp.sx f 0 (b+1) (stp u.2)<;>rfl
      ·simp only[c1,c2,if_false]
    ·cases f with
     |zero=>cases a
     |succ k =>
      rw[Tp.sx]at a
      by_cases i:10<b+1
      ·simp[i]at a
      ·omega
end Go.Proofs.YtibncofnnlbmcaaGreatDoor
