import Derived.Test.YtmocelfkmdpogaaGreatDoorKWa
import Derived.Deep.RegionWith
import Derived.RegionDies
import Derived.Deep.DeepCutAuto
import Derived.ArgAppend
set_option maxRecDepth 100000
set_option maxHeartbeats 4000000
namespace Go.Proofs.YtmocelfkmdpogaaGreatDoor
open Go.RowKit
open Tp (Tok hd tx at' stp X)
def RepL (w:World) (D:Nat->Prop):List X->List Value->Prop
 | [],vs=>vs=[]
 | ⟨code,pos,n,mod,name,op,left,right,args⟩ :: xs,vs=>∃(b:Nat) (av:Value) (ls rs gs vs':List Value),
   vs=.pointer (some ⟨b,0,none⟩) :: vs'/\D b /\
   w.heap[b]?=some (.cells #[.int .i64 (code:Int),.int .i64 (pos:Int),.int .i64 (n:Int),.string (bs mod),.string (bs name),.string (bs op),ls.headD (.pointer none),rs.headD (.pointer none),av] 90 (0,0)) /\
   RepL w D left ls/\ls.length<=1/\RepL w D right rs/\rs.length<=1/\RepL w D args gs/\(gs=[]/\av=.slice none 0 0\/∃ g cap cur,av=.slice (some ⟨g,0,none⟩) gs.length cap/\D g/\w.heap[g]?=some (.cells cur 86 (0,0))/\gs.length<=cap/\cap<=maxLen/\cur.size=cap/\cur.toList.take gs.length=gs) /\
   RepL w D xs vs'
theorem RepL.mono {w w':World}{D D':Nat->Prop}(hw:∀ b,D b->b<w.heap.size->w'.heap[b]?=w.heap[b]?/\D' b):∀(n:Nat) (l:List X) (vs:List Value),SizeOf.sizeOf l<=n->RepL w D l vs->RepL w' D' l vs:=by
 intro n
 induction n with
 | zero=>intro l vs hl;cases l <;> simp at hl <;> omega
 | succ n ih =>
  intro l vs hl h
  cases l with
  | nil=>rw[RepL]at h ⊢;exact h
  | cons x xs =>
   obtain⟨code,pos,nn,mod,name,op,left,right,args⟩:=x
   rw[RepL]at h ⊢
   simp at hl
   obtain⟨b,av,ls,rs,gs,vs',h1,h2,h3,h4,h5,h6,h7,h8,h9,h10⟩:=h
   have lt:∀ {k:Nat} {o:Obj},w.heap[k]?=some o->k<w.heap.size:=fun hk=>by rw[Array.getElem?_eq_some_iff]at hk;exact hk.1
   obtain⟨e1,e2⟩:=hw b h2 (lt h3)
   refine⟨b,av,ls,rs,gs,vs',h1,e2,e1.trans h3,ih _ _ (by omega) h4,h5,ih _ _ (by omega) h6,h7,ih _ _ (by omega) h8,?_,ih _ _ (by omega) h10⟩
   rcases h9 with h9|⟨g,cap,cur,g1,g2,g3,g4⟩
   ·exact Or.inl h9
   ·obtain⟨e3,e4⟩:=hw g g2 (lt g3)
    exact Or.inr ⟨g,cap,cur,g1,e4,e3.trans g3,g4⟩
theorem RepL.len {w:World}{D:Nat->Prop}:∀(l:List X) (vs:List Value),RepL w D l vs->vs.length=l.length:=by
 intro l
 induction l with
 | nil=>intro vs h;rw[RepL]at h;simp[h]
 | cons x xs ih =>
  intro vs h
  obtain⟨code,pos,nn,mod,name,op,left,right,args⟩:=x
  rw[RepL]at h
  obtain⟨b,av,ls,rs,gs,vs',h1,h2,h3,h4,h5,h6,h7,h8,h9,h10⟩:=h
  subst h1
  simp[ih _ h10]
theorem RepL.app {w:World}{D:Nat->Prop}:∀(l m:List X) (vs us:List Value),RepL w D l vs->RepL w D m us->RepL w D (l++m) (vs++us):=by
 intro l
 induction l with
 | nil=>intro m vs us h k;rw[RepL]at h;subst h;exact k
 | cons x xs ih =>
  intro m vs us h k
  obtain⟨code,pos,nn,mod,name,op,left,right,args⟩:=x
  rw[RepL]at h
  obtain⟨b,av,ls,rs,gs,vs',h1,h2,h3,h4,h5,h6,h7,h8,h9,h10⟩:=h
  subst h1
  rw[List.cons_append,List.cons_append,RepL]
  exact⟨b,av,ls,rs,gs,vs'++us,rfl,h2,h3,h4,h5,h6,h7,h8,h9,ih m vs' us h10 k⟩
def VX (B:Nat) (l:List X) (v:Value) (w:World):Prop:=RepL w (fun b=>B<=b) l [v]
theorem RepL.ext {w w':World}{D:Nat->Prop}{b:Nat}(k:Ext b w w') (hb:¬D b) {l:List X}{vs:List Value}(h:RepL w D l vs):RepL w' D l vs :=
 RepL.mono (fun i hi hl=>⟨k.block i hl (fun e=>hb (e ▸ hi)),hi⟩) (SizeOf.sizeOf l) l vs zn h
theorem VX.ext {w w':World}{B b:Nat}(k:Ext b w w') (hb:b<B) {l:List X}{v:Value}(h:VX B l v w):VX B l v w':=RepL.ext k (by omega) h
theorem VX.base {w:World}{B B':Nat}{l:List X}{v:Value}(h:VX B l v w) (hB:B'<=B):VX B' l v w :=
 RepL.mono (fun _ hi _=>⟨rfl,Nat.le_trans hB hi⟩) (SizeOf.sizeOf l) l [v] zn h
theorem St.setOnes {w:World}{p:Ps}{ts r:List Tok}{o b:Nat}(h:St w p ts r o b) (o':Nat) (z:Int) (hz:z=o'):St (w.setCell ⟨p.pb,3,none⟩ (.int .i64 z)) p ts r o' b:=by
 subst hz
 have e:∀ j v,j≠3->w.cell? ⟨p.pb,j,none⟩=some v->(w.setCell ⟨p.pb,3,none⟩ (.int .i64 (o':Int))).cell? ⟨p.pb,j,none⟩=some v:=fun j v hj hv=>by
  rw[World.cell?_setCell_other w ⟨p.pb,3,none⟩ ⟨p.pb,j,none⟩ _ (by simp <;> omega)];exact hv
 exact⟨e 0 _ (by omega) h.c0,e 1 _ (by omega) h.c1,e 2 _ (by omega) h.c2,World.cell?_setCell_same _ _ _ h.c3,e 4 _ (by omega) h.c4,fun j=>by simpa using h.fz j,
  (Below.heap_setCell _ _ _ _ (by have:=h.apart.2;simp;omega)).trans h.kept,fun i t ht=>(h.toks i t ht).ext (b:=p.pb) ((Ext.refl _ _).set 3 _) (by have:=h.apart.1;omega),h.suf,h.ne,h.len,h.last,h.apart,h.dig,h.tl,⟨by simpa using h.lv.1,fun i hi=>by rw[World.cell?_setCell_other w ⟨p.pb,3,none⟩ ⟨2,i,none⟩ _ (by have:=h.glt;simp <;> omega)];exact h.lv.2 i hi⟩,h.glt⟩
theorem kX {w:World}{p:Ps}{ts r:List Tok}{o b:Nat}(h:St w p ts r o b) (ho:o<=1000) (res:Except Tp.Er (List X× List Tok))
  (hF:∀ w1,St w1 p ts r (o+1) b->w1.heap.size=w.heap.size->Ext p.pb w w1->Calls Tryz.prog 187 #[.pointer (some ⟨p.pb,0,none⟩)] w1 fun e w'=>Post p ts (o+1) b w1 (VX w1.heap.size) res e w') :
  Calls Tryz.prog 201 #[.pointer (some ⟨p.pb,0,none⟩),.func (.func 187) #[.pointer (some ⟨p.pb,0,none⟩)] #[]] w fun e w'=>Post p ts o b w (VX w.heap.size) res e w':=by
 have hpl:=zc h.c0
 have c3:=h.c3
 have f3:=h.fz 3
 have ho':(o:Int)<=1000:=by omega
 have HF:Hid (∀ w1,St w1 p ts r (o+1) b->w1.heap.size=w.heap.size->Ext p.pb w w1->Calls Tryz.prog 187 #[.pointer (some ⟨p.pb,0,none⟩)] w1 fun e w'=>Post p ts (o+1) b w1 (VX w1.heap.size) res e w'):=hF
 clear hF
 go_enter Tryz.func201,Tryz.ntmps201
 go_wp2_with fail
 refine(HF.out _ (h.setOnes (o+1) _ (by omega)) (by simp) ((Ext.refl _ _).set 3 _)).mono ?_
 intro e w2 hq
 have hx1:Ext p.pb w (w.setCell ⟨p.pb,3,none⟩ (.int .i64 ((o:Int)+1))):=(Ext.refl _ _).set 3 _
 have HX1:Hid (Ext p.pb w (w.setCell ⟨p.pb,3,none⟩ (.int .i64 ((o:Int)+1)))):=hx1
 clear hx1 c3 f3
 rcases res with er|⟨x,r1⟩
 ·obtain⟨ht,hx⟩:=hq
  obtain⟨ab,h1,rfl,h2,h3⟩:=ht.out
  go_wp2_with fail
  exact⟨rfl,zt HX1.out ht hx⟩
 ·obtain⟨v,rfl,hv,hst,hx⟩:=hq
  have c3:=hst.c3
  have f3:=hst.fz 3
  go_wp2_with fail
  go_ret
  refine⟨_,rfl,?_,hst.setOnes o _ (by omega),(HX1.out.trans hx).set 3 _⟩
  refine VX.ext ((Ext.refl _ _).set 3 _) hpl ?_
  simpa using hv
theorem xx {w:World}{p:Ps}{ts r:List Tok}{o b:Nat}(h:St w p ts r o b) (ho:o<=1000) (res:Except Tp.Er (List X× List Tok))
  (hF:∀ w1,St w1 p ts r (o+1) b->w1.heap.size=w.heap.size->Ext p.pb w w1->Calls Tryz.prog 210 #[.pointer (some ⟨p.pb,0,none⟩)] w1 fun e w'=>Post p ts (o+1) b w1 (VX w1.heap.size) res e w') :
  Calls Tryz.prog 201 #[.pointer (some ⟨p.pb,0,none⟩),.func (.func 210) #[.pointer (some ⟨p.pb,0,none⟩)] #[]] w fun e w'=>Post p ts o b w (VX w.heap.size) res e w':=by
 have hpl:=zc h.c0
 have c3:=h.c3
 have f3:=h.fz 3
 have ho':(o:Int)<=1000:=by omega
 have HF:Hid (∀ w1,St w1 p ts r (o+1) b->w1.heap.size=w.heap.size->Ext p.pb w w1->Calls Tryz.prog 210 #[.pointer (some ⟨p.pb,0,none⟩)] w1 fun e w'=>Post p ts (o+1) b w1 (VX w1.heap.size) res e w'):=hF
 clear hF
 go_enter Tryz.func201,Tryz.ntmps201
 go_wp2_with fail
 refine(HF.out _ (h.setOnes (o+1) _ (by omega)) (by simp) ((Ext.refl _ _).set 3 _)).mono ?_
 intro e w2 hq
 have hx1:Ext p.pb w (w.setCell ⟨p.pb,3,none⟩ (.int .i64 ((o:Int)+1))):=(Ext.refl _ _).set 3 _
 have HX1:Hid (Ext p.pb w (w.setCell ⟨p.pb,3,none⟩ (.int .i64 ((o:Int)+1)))):=hx1
 clear hx1 c3 f3
 rcases res with er|⟨x,r1⟩
 ·obtain⟨ht,hx⟩:=hq
  obtain⟨ab,h1,rfl,h2,h3⟩:=ht.out
  go_wp2_with fail
  exact⟨rfl,zt HX1.out ht hx⟩
 ·obtain⟨v,rfl,hv,hst,hx⟩:=hq
  have c3:=hst.c3
  have f3:=hst.fz 3
  go_wp2_with fail
  go_ret
  refine⟨_,rfl,?_,hst.setOnes o _ (by omega),(HX1.out.trans hx).set 3 _⟩
  refine VX.ext ((Ext.refl _ _).set 3 _) hpl ?_
  simpa using hv
theorem za {w:World}{b i:Nat}{cs:Array Value}{t:TypeId}(h:w.heap[b]?=some (.cells cs t (0,0))):w.cell? ⟨b,i,none⟩=cs[i]?:=by
 simp[World.cell?,h]
theorem zg {w:World}{b i:Nat}{cs:Array Value}{t:TypeId}(h:w.heap[b]?=some (.cells cs t (0,0))):w.frozen? ⟨b,i,none⟩=false:=by
 simp[World.frozen?,h]
theorem zw {w:World}{b:Nat}{cs:Array Value}{t:TypeId}(i:Nat) (v:Value) (h:w.heap[b]?=some (.cells cs t (0,0))):(w.setCell ⟨b,i,none⟩ v).heap[b]?=some (.cells (cs.setIfInBounds i v) t (0,0)):=by
 exact heap_setCell_same w b i cs t v h
theorem zi {w:World}{b:Nat}{ob:Obj}(h:w.heap[b]?=some ob):b<w.heap.size:=by rw[Array.getElem?_eq_some_iff]at h;exact h.1
theorem zk (w:World) (ob:Obj):(w.alloc ob).heap[w.heap.size]?=some ob:=by show (w.heap.push _)[w.heap.size]?=_;simp
def xcells (code pos n:Int) (mod name op:ByteArray) (lv rv av:Value):Array Value:=#[.int .i64 code,.int .i64 pos,.int .i64 n,.string mod,.string name,.string op,lv,rv,av]
def LevelC (p:Ps) (ts:List Tok) (f:Nat):Prop:=∀(w:World) (r:List Tok) (o b n:Nat),St w p ts r o b->o<=11->n<=5->Tp.ex f n o 0 [] r≠.error (99,0) ->
 Calls Tryz.prog 200 #[.pointer (some ⟨p.pb,0,none⟩),.int .i64 (n:Int)] w fun e w'=>Post p ts o b w (VX w.heap.size) (Tp.ex f n o 0 [] r) e w'
def argsS (f o:Nat) (r:List Tok):Except Tp.Er (List X× List Tok):=if tx r=Tp.mRp then .ok ([],r) else Tp.ex f 7 o 0 [] r
def VA (B:Nat) (l:List X) (v:Value) (w:World):Prop:=∃ vs,RepL w (fun b=>B<=b/\v.ownBlock≠some b) l vs/\w.ownsRow B 86 1 v vs.length vs
def ArgsC (p:Ps) (ts:List Tok) (f:Nat):Prop:=∀(w:World) (r:List Tok) (o b:Nat),St w p ts r o b->o<=10->argsS f o r≠.error (99,0) ->
 Calls Tryz.prog 202 #[.pointer (some ⟨p.pb,0,none⟩)] w fun e w'=>Post p ts o b w (VA w.heap.size) (argsS f o r) e w'
theorem yG {p:Ps}{ts:List Tok}{f:Nat}(hL:LevelC p ts f) {w:World}{r:List Tok}{o b:Nat}(h:St w p ts r o b) (ho:o<=11) (hn:Tp.ex f 0 o 0 [] r≠.error (99,0)) :
  Calls Tryz.prog 187 #[.pointer (some ⟨p.pb,0,none⟩)] w fun e w'=>Post p ts o b w (VX w.heap.size) (Tp.ex f 0 o 0 [] r) e w':=by
 generalize hres:Tp.ex f 0 o 0 [] r=res at hn
 have hc:=hL w r o b 0 h ho (by omega) (by rw[hres];exact hn)
 rw[hres]at hc
 have HC:Hid (Calls Tryz.prog 200 #[.pointer (some ⟨p.pb,0,none⟩),.int .i64 ((0:Nat):Int)] w fun e w'=>Post p ts o b w (VX w.heap.size) res e w'):=hc
 clear hc hL hres hn
 go_enter Tryz.func187,Tryz.ntmps187
 go_wp2_with fail
 refine HC.out.mono ?_
 intro e w1 hq
 rcases res with er|⟨x,r1⟩
 ·obtain⟨ht,hx⟩:=hq
  obtain⟨ab,h1,rfl,h2,h3⟩:=ht.out
  go_wp2_with fail
  exact⟨rfl,ht,hx⟩
 ·obtain⟨v,rfl,hv,hst,hx⟩:=hq
  go_wp2_with fail
  go_ret
  exact⟨_,rfl,hv,hst,hx⟩
theorem zq {B b:Nat}{w w':World}(h:Below B w w') (hb:B<=b) (i:Nat) (v:Value):Below B w (w'.setCell ⟨b,i,none⟩ v):=h.setCell hb v
theorem VX.ptr {B:Nat}{l:List X}{v:Value}{w:World}(h:VX B l v w):∃ bb,v=.pointer (some ⟨bb,0,none⟩):=by
 unfold VX at h
 cases l with
 | nil=>rw[RepL]at h;simp at h
 | cons x xs =>
  obtain⟨code,pos,nn,mod,name,op,left,right,args⟩:=x
  rw[RepL]at h
  obtain⟨b,av,ls,rs,gs,vs',h1,_⟩:=h
  simp at h1
  exact⟨b,h1.1⟩
theorem VA.ext {w w':World}{B b:Nat}(k:Ext b w w') (hb:b<B) {l:List X}{v:Value}(h:VA B l v w):VA B l v w':=by
 obtain⟨vs,h1,h2⟩:=h
 exact⟨vs,RepL.ext k (by omega) h1,zA h2 k hb⟩
theorem VA.base {w:World}{B B':Nat}{l:List X}{v:Value}(h:VA B l v w) (hB:B'<=B):VA B' l v w:=by
 obtain⟨vs,h1,h2⟩:=h
 refine⟨vs,RepL.mono (fun _ hi _=>⟨rfl,Nat.le_trans hB hi.1,hi.2⟩) (SizeOf.sizeOf l) l vs zn h1,h2.1,?_⟩
 rcases h2.2 with q|⟨g,cap,cur,q1,q2,q3⟩
 ·exact Or.inl q
 ·exact Or.inr ⟨g,cap,cur,q1,Nat.le_trans hB q2,q3⟩
theorem VX.node {w:World}{B b:Nat}{code pos n:Nat}{mod name op:List UInt8}{left right args:List X}{lv rv av:Value}(hb:B<=b)
  (hblk:w.heap[b]?=some (.cells (xcells code pos n (bs mod) (bs name) (bs op) lv rv av) 90 (0,0)))
  (hl:left=[]/\lv=.pointer none\/VX B left lv w) (hr:right=[]/\rv=.pointer none\/VX B right rv w) (ha:args=[]/\av=.slice none 0 0\/VA B args av w) :
  VX B [⟨code,pos,n,mod,name,op,left,right,args⟩] (.pointer (some ⟨b,0,none⟩)) w:=by
 have side:∀(l:List X) (v:Value),(l=[]/\v=.pointer none\/VX B l v w)->∃ ls:List Value,v=ls.headD (.pointer none)/\RepL w (fun b=>B<=b) l ls/\ls.length<=1:=by
  intro l v h
  rcases h with⟨rfl,rfl⟩|h
  ·exact⟨[],rfl,by rw[RepL],by simp⟩
  ·exact⟨[v],rfl,h,by simp⟩
 obtain⟨ls,rfl,l1,l2⟩:=side left lv hl
 obtain⟨rs,rfl,r1,r2⟩:=side right rv hr
 unfold VX
 rw[RepL]
 rcases ha with⟨rfl,rfl⟩|⟨vs,a1,a2⟩
 ·exact⟨b,.slice none 0 0,ls,rs,[],[],rfl,hb,hblk,l1,l2,r1,r2,by rw[RepL],Or.inl ⟨rfl,rfl⟩,by rw[RepL]⟩
 ·refine⟨b,av,ls,rs,vs,[],rfl,hb,hblk,l1,l2,r1,r2,RepL.mono (fun _ hi _=>⟨rfl,hi.1⟩) (SizeOf.sizeOf args) _ _ zn a1,?_,by rw[RepL]⟩
  rcases a2.2 with⟨q1,q2⟩|⟨g,cap,cur,q1,q2,q3,q4,q5,q6,q7⟩
  ·exact Or.inl ⟨List.eq_nil_of_length_eq_zero q2,q1⟩
  ·exact Or.inr ⟨g,cap,cur,q1,q2,q3,q4,q5,by simpa using q6,by simpa using q7⟩
def namedT (f o pos:Nat) (m n:List UInt8) (r2:List Tok):Except Tp.Er (List X× List Tok) :=
 if tx r2=Tp.mLb then do
  let (x,r3) <- Tp.ex f 0 (o+1) 0 [] (stp r2)
  let r4 <- Tp.want Tp.mRb r3
  .ok ([⟨3,pos,0,m,n,[],x,[],[]⟩],r4)
 else if tx r2=Tp.mLp then do
  let (l,r3) <- argsS f o (stp r2)
  let r4 <- Tp.want Tp.mRp r3
  .ok ([⟨6,pos,0,m,n,[],[],[],l⟩],r4)
 else .ok ([⟨2,pos,0,m,n,[],[],[],[]⟩],r2)
theorem ex6_bad {f o:Nat}{r:List Tok}{er:Tp.Er}(h:Tp.name r=.error er):Tp.ex (f+1) 6 o 0 [] r=.error er:=by
 rw[Tp.ex,h];rfl
theorem qN {f o:Nat}{r r1:List Tok}{n1:List UInt8}{er:Tp.Er}(h:Tp.name r=.ok (n1,r1)) (hd:tx r1=Tp.mDot) (h2:Tp.name (stp r1)=.error er):Tp.ex (f+1) 6 o 0 [] r=.error er:=by
 rw[Tp.ex];simp only [h,hd,h2,bind,Except.bind];rfl
theorem um (f o pos:Nat) (m n:List UInt8) (r2:List Tok) :
  (if tx r2=Tp.mLb then do
   let (x,r3) <- Tp.ex f 0 (o+1) 0 [] (stp r2)
   let r4 <- Tp.want Tp.mRb r3
   .ok ([⟨3,pos,0,m,n,[],x,[],[]⟩],r4)
  else if tx r2=Tp.mLp then
   if tx (stp r2)=Tp.mRp then .ok ([⟨6,pos,0,m,n,[],[],[],[]⟩],stp (stp r2))
   else do
    let (l,r3) <- Tp.ex f 7 o 0 [] (stp r2)
    let r4 <- Tp.want Tp.mRp r3
    .ok ([⟨6,pos,0,m,n,[],[],[],l⟩],r4)
  else .ok ([⟨2,pos,0,m,n,[],[],[],[]⟩],r2):Except Tp.Er (List X× List Tok))=namedT f o pos m n r2:=by
 unfold namedT argsS
 by_cases h1:tx r2=Tp.mLb
 ·simp only [h1,if_true]
 ·by_cases h2:tx r2=Tp.mLp
  ·by_cases h3:tx (stp r2)=Tp.mRp
   ·simp[h2,h3,bind,Except.bind,Tp.want]
   ·simp[h2,h3]
  ·simp only [h1,h2,if_false]
theorem ex6_dot {f o:Nat}{r r1 r2:List Tok}{n1 n2:List UInt8}(h:Tp.name r=.ok (n1,r1)) (hd:tx r1=Tp.mDot) (h2:Tp.name (stp r1)=.ok (n2,r2)):Tp.ex (f+1) 6 o 0 [] r=namedT f o (at' r) n1 n2 r2:=by
 rw[Tp.ex,<-um]
 simp only [h,hd,h2,bind,Except.bind,if_true]
 rfl
theorem ex6_no {f o:Nat}{r r1:List Tok}{n1:List UInt8}(h:Tp.name r=.ok (n1,r1)) (hd:¬tx r1=Tp.mDot):Tp.ex (f+1) 6 o 0 [] r=namedT f o (at' r) [] n1 r1:=by
 rw[Tp.ex,<-um]
 simp only [h,hd,bind,Except.bind,if_false]
 rfl
theorem qu {w:World}{p:Ps}{ts r r1:List Tok}{o b:Nat}{nm:List UInt8}(h:St w p ts r o b) (hr:Hid (Tp.name r=.ok (nm,r1))) :
  Calls Tryz.prog 55 #[.pointer (some ⟨p.pb,0,none⟩)] w fun e w'=>e=.returned (.string (bs nm))/\St w' p ts r1 o b/\Ext p.pb w w':=by
 refine(ku h).mono ?_
 intro e w' hq
 rw[hr.out]at hq
 obtain⟨v,h1,rfl,h2⟩:=hq
 exact⟨h1,h2⟩
theorem qv {w:World}{p:Ps}{ts r:List Tok}{o b:Nat}{er:Tp.Er}(h:St w p ts r o b) (hr:Hid (Tp.name r=.error er)) :
  Calls Tryz.prog 55 #[.pointer (some ⟨p.pb,0,none⟩)] w fun e w'=>Thrown w.heap.size er e w'/\Ext p.pb w w':=by
 refine(ku h).mono ?_
 intro e w' hq
 rw[hr.out]at hq
 exact hq
theorem zu (w:World):Below w.heap.size w w.drew:=(Below.refl _ _).drew
theorem named_post {p:Ps}{ts:List Tok}{f:Nat}(hL:LevelC p ts f) (hA:ArgsC p ts f) {w:World}{r:List Tok}{o b:Nat}(h:St w p ts r o b) (ho:o<=10) (hn:Tp.ex (f+1) 6 o 0 [] r≠.error (99,0)) :
  Calls Tryz.prog 188 #[.pointer (some ⟨p.pb,0,none⟩)] w fun e w'=>Post p ts o b w (VX w.heap.size) (Tp.ex (f+1) 6 o 0 [] r) e w':=by
 have HL:Hid (LevelC p ts f):=hL
 have HA:Hid (ArgsC p ts f):=hA
 have hpl:=zc h.c0
 have HN:Hid (Tp.ex (f+1) 6 o 0 [] r≠.error (99,0)):=hn
 clear hL hA hn
 go_enter Tryz.func188,Tryz.ntmps188
 go_wp2_with fail
 refine(zK h).mono ?_
 rintro e w1 ⟨rfl,hb1⟩
 have hsz1:=hb1.size
 go_wp2_with fail
 refine(ku (h.below hb1)).mono ?_
 intro e w2 hq
 generalize hres:Tp.name r=res at hq
 rcases res with er|⟨nm,r1⟩
 ·have HR:Hid (Tp.name r=.error er):=hres
  clear hres
  obtain⟨ht,hx2⟩:=hq
  obtain⟨ab,h1,rfl,h2,h3⟩:=ht.out
  go_wp2_with fail
  refine⟨rfl,?_⟩
  rw[ex6_bad HR.out]
  exact zt (Ext.below hb1) ht hx2
 ·have HR:Hid (Tp.name r=.ok (nm,r1)):=hres
  clear hres
  obtain⟨v,rfl,rfl,hst2,hx2⟩:=hq
  have hsz2:=hx2.size
  go_wp2_with fail
  have hb3:∀ ob,Below w2.heap.size w2 (w2.alloc ob):=fun ob=>zb _ _
  refine(zH (hst2.below (hb3 _)) Tp.mDot _ rfl).mono ?_
  rintro e w3 ⟨rfl,hst3,hx3⟩
  obtain⟨xb,hxb⟩:∃ xb,xb=w2.heap.size:=⟨_,rfl⟩
  have hblk:w3.heap[w2.heap.size]?=some (.cells (xcells 2 (hd r).pos 0 ⟨#[]⟩ (bs nm) ⟨#[]⟩ (.pointer none) (.pointer none) (.slice none 0 0)) 90 (0,0)):=by
   rw[hx3.block _ (by simp) (by omega)];exact zk _ _
  have hx3':Ext p.pb w w3:=((Ext.below hb1).trans hx2).trans ((Ext.below (hb3 _)).trans hx3)
  clear hb3 hx3 hx2 hst2 hb1
  rw[<-hxb]at hblk ⊢
  have hxw:w.heap.size<=xb:=by omega
  have hxp:p.pb<xb:=by omega
  clear hxb
  go_upto_if 12 with fail
  go_cut [] (fun wc=>∃ m n r2,St wc p ts r2 o b/\wc.heap[xb]?=some (.cells (xcells 2 (hd r).pos 0 (bs m) (bs n) ⟨#[]⟩ (.pointer none) (.pointer none) (.slice none 0 0)) 90 (0,0))/\Ext p.pb w wc/\Tp.ex (f+1) 6 o 0 [] r=namedT f o (at' r) m n r2)
  case first =>
   by_cases hd1:tx r1=Tp.mDot
   ·have hdec:=decide_eq_true hd1
    rw[if_pos hd1]at hst3
    have HD:Hid (tx r1=Tp.mDot):=hd1
    clear hd1
    have hlx:=zi hblk
    have k3:w3.cell? ⟨xb,3,none⟩=some (.string ⟨#[]⟩):=za hblk
    have k4:w3.cell? ⟨xb,4,none⟩=some (.string (bs nm)):=za hblk
    have z3:w3.frozen? ⟨xb,3,none⟩=false:=zg hblk
    have z4:w3.frozen? ⟨xb,4,none⟩=false:=zg hblk
    rcases hres2:Tp.name (stp r1) with er|⟨nm2,r2⟩
    ·have HR2:Hid (Tp.name (stp r1)=.error er):=hres2
     clear hres2
     have hfin:∀ e w',Thrown w3.drew.heap.size er e w'/\Ext p.pb w3.drew w'->Post p ts o b w (VX w.heap.size) (Tp.ex (f+1) 6 o 0 [] r) e w':=by
      intro e w' hq
      rw[qN HR.out HD.out HR2.out]
      exact zt (hx3'.trans (Ext.below (zu w3))) hq.1 hq.2
     have HF:Hid (∀ e w',Thrown w3.drew.heap.size er e w'/\Ext p.pb w3.drew w'->Post p ts o b w (VX w.heap.size) (Tp.ex (f+1) 6 o 0 [] r) e w'):=hfin
     clear hfin
     go_wp2_with fail
     go_region_dies
     all_goals (refine(qv (hst3.below (zu w3)) HR2).mono ?_;intro e w4 hq;obtain⟨ab,h1,h0,h2,h3⟩:=hq.1.out;subst h0;exact⟨rfl,HF.out _ _ hq⟩)
    ·have HR2:Hid (Tp.name (stp r1)=.ok (nm2,r2)):=hres2
     clear hres2
     go_wp2_with fail
     go_region_with (go_at_call 55;refine(qu (hst3.below (zu w3)) HR2).mono ?_;rintro e w4 ⟨rfl,hst4,hx4⟩;have hblk4:=(hx4.block xb (by simpa using hlx) (by omega)).trans hblk;have y3:w4.cell? ⟨xb,3,none⟩=some (.string ⟨#[]⟩):=za hblk4;have y4:w4.cell? ⟨xb,4,none⟩=some (.string (bs nm)):=za hblk4;have zz3:w4.frozen? ⟨xb,3,none⟩=false:=zg hblk4;have zz4:w4.frozen? ⟨xb,4,none⟩=false:=zg hblk4)
     all_goals
      go_wp2_with fail
      go_meet
      case rel =>
       have hb5:Below xb w4 ((w4.setCell ⟨xb,3,none⟩ (.string (bs nm))).setCell ⟨xb,4,none⟩ (.string (bs nm2))):=zq (zq (Below.refl _ _) zn 3 _) zn 4 _
       exact⟨nm,nm2,r2,hst4.belowB hb5 hxp,zw 4 _ (zw 3 _ hblk4),((hx3'.trans (Ext.below (zu w3))).trans hx4).trans' (hb5.mono hxw),ex6_dot HR.out HD.out HR2.out⟩
   ·have hdec:=decide_eq_false hd1
    rw[if_neg hd1]at hst3
    have HD:Hid (¬tx r1=Tp.mDot):=hd1
    clear hd1
    go_wp2_with fail
    go_meet
    case rel=>exact⟨[],nm,r1,hst3,hblk,hx3',ex6_no HR.out HD.out⟩
  case rest =>
   obtain⟨m,n,r2,hst,hblk,hext,hspec⟩:=hcut
   have HS:Hid (Tp.ex (f+1) 6 o 0 [] r=namedT f o (at' r) m n r2):=hspec
   have hmf:=zm
   clear hspec
   go_wp2_with fail
   refine(zH hst Tp.mLb _ rfl).mono ?_
   rintro e w5 ⟨rfl,hst5,hx5⟩
   have hblk5:=(hx5.block xb (zi hblk) (by omega)).trans hblk
   have hext5:=hext.trans hx5
   have hlx5:=zi hblk5
   by_cases hlb:tx r2=Tp.mLb
   ·have hdec:=decide_eq_true hlb
    rw[if_pos hlb]at hst5
    have HB:Hid (tx r2=Tp.mLb):=hlb
    clear hlb
    have hno:Tp.ex f 0 (o+1) 0 [] (stp r2)≠.error (99,0):=by
     intro e;apply HN.out;rw[HS.out];unfold namedT;rw[if_pos HB.out,e];rfl
    have hw:=fun W (hW:St W p ts (stp r2) o b)=>kX hW (by omega) (Tp.ex f 0 (o+1) 0 [] (stp r2)) (fun w1 h1 _ _=>yG HL.out h1 (by omega) hno)
    generalize hres:Tp.ex f 0 (o+1) 0 [] (stp r2)=res at hw
    have HRX:Hid (Tp.ex f 0 (o+1) 0 [] (stp r2)=res):=hres
    have HW:Hid (∀ W,St W p ts (stp r2) o b->Calls Tryz.prog 201 #[.pointer (some ⟨p.pb,0,none⟩),.func (.func 187) #[.pointer (some ⟨p.pb,0,none⟩)] #[]] W fun e w'=>Post p ts o b W (VX W.heap.size) res e w'):=hw
    clear hw hres hno
    go_wp2_with fail
    refine(HW.out _ hst5).mono ?_
    intro e w6 hq
    rcases res with er|⟨x,r3⟩
    ·obtain⟨ht,hx6⟩:=hq
     obtain⟨ab,h1,rfl,h2,h3⟩:=ht.out
     go_wp2_with fail
     refine⟨rfl,?_⟩
     rw[HS.out,show namedT f o (at' r) m n r2=.error er by unfold namedT;rw[if_pos HB.out,HRX.out];rfl]
     exact zt hext5 ht hx6
    ·obtain⟨v,rfl,hv,hst6,hx6⟩:=hq
     obtain⟨bb,rfl⟩:=hv.ptr
     have hblk6:=(hx6.block xb hlx5 (by omega)).trans hblk5
     have k0:w6.cell? ⟨xb,0,none⟩=some (.int .i64 2):=za hblk6
     have k6:w6.cell? ⟨xb,6,none⟩=some (.pointer none):=za hblk6
     have z0:w6.frozen? ⟨xb,0,none⟩=false:=zg hblk6
     have z6:w6.frozen? ⟨xb,6,none⟩=false:=zg hblk6
     go_wp2_with fail
     clear k0 k6 z0 z6
     have hb7:Below xb w6 ((w6.setCell ⟨xb,0,none⟩ (.int .i64 3)).setCell ⟨xb,6,none⟩ (.pointer (some ⟨bb,0,none⟩))):=zq (zq (Below.refl _ _) zn 0 _) zn 6 _
     have hblk7:=zw 6 (.pointer (some ⟨bb,0,none⟩)) (zw 0 (.int .i64 3) hblk6)
     have hv7:VX w5.heap.size x (.pointer (some ⟨bb,0,none⟩)) ((w6.setCell ⟨xb,0,none⟩ (.int .i64 3)).setCell ⟨xb,6,none⟩ (.pointer (some ⟨bb,0,none⟩))):=VX.ext (((Ext.refl xb w6).set 0 _).set 6 _) hlx5 hv
     have hst7:=hst6.belowB hb7 hxp
     have hext7:=(hext5.trans hx6).trans' (hb7.mono hxw)
     generalize (w6.setCell ⟨xb,0,none⟩ (.int .i64 3)).setCell ⟨xb,6,none⟩ (.pointer (some ⟨bb,0,none⟩))=w7 at hb7 hblk7 hv7 hst7 hext7 ⊢
     have hsz7:=hext5.size
     clear hblk6 hb7 hv hst6 hx6 hst5 hblk5 hx5 hst hext
     by_cases hrb:tx r3=Tp.mRb
     ·refine(zD hst7 Tp.mRb _ rfl hrb).mono ?_
      rintro e w8 ⟨rfl,hst8,hx8⟩
      have HRB:Hid (tx r3=Tp.mRb):=hrb
      clear hrb hst7
      go_wp2_with fail
      go_ret
      rw[HS.out,show namedT f o (at' r) m n r2=.ok ([⟨3,at' r,0,m,n,[],x,[],[]⟩],stp r3) by unfold namedT;rw[if_pos HB.out,HRX.out];simp only [bind,Except.bind,Tp.want,if_pos HRB.out]]
      exact⟨_,rfl,VX.node hxw ((hx8.block xb (zi hblk7) (by omega)).trans hblk7) (Or.inr ((VX.ext hx8 (by omega) hv7).base hsz7)) (Or.inl ⟨rfl,rfl⟩) (Or.inl ⟨rfl,rfl⟩),hst8,hext7.trans hx8⟩
     ·refine(zO hst7 Tp.mRb _ rfl hrb).mono ?_
      rintro e w8 ⟨ht,hx8⟩
      have HRB:Hid (¬tx r3=Tp.mRb):=hrb
      clear hrb
      obtain⟨ab,h1,rfl,h2,h3⟩:=ht.out
      go_wp2_with fail
      refine⟨rfl,?_⟩
      rw[HS.out,show namedT f o (at' r) m n r2=.error (3,at' r3) by unfold namedT;rw[if_pos HB.out,HRX.out];simp only [bind,Except.bind,Tp.want,if_neg HRB.out]]
      exact zt hext7 ht hx8
   ·have hdec:=decide_eq_false hlb
    rw[if_neg hlb]at hst5
    have HB:Hid (¬tx r2=Tp.mLb):=hlb
    clear hlb
    go_wp2_with fail
    refine(zH hst5 Tp.mLp _ rfl).mono ?_
    rintro e w6 ⟨rfl,hst6,hx6⟩
    have hblk6:=(hx6.block xb hlx5 (by omega)).trans hblk5
    have hext6:=hext5.trans hx6
    have hlx6:=zi hblk6
    clear hst5 hx5 hst hext hblk hblk5
    by_cases hlp:tx r2=Tp.mLp
    ·have hdec:=decide_eq_true hlp
     rw[if_pos hlp]at hst6
     have HP:Hid (tx r2=Tp.mLp):=hlp
     clear hlp
     have hno:argsS f o (stp r2)≠.error (99,0):=by
      intro e;apply HN.out;rw[HS.out];unfold namedT;rw[if_neg HB.out,if_pos HP.out,e];rfl
     have hw:=fun W (hW:St W p ts (stp r2) o b)=>HA.out W (stp r2) o b hW ho hno
     generalize hres:argsS f o (stp r2)=res at hw
     have HRX:Hid (argsS f o (stp r2)=res):=hres
     have HW:Hid (∀ W,St W p ts (stp r2) o b->Calls Tryz.prog 202 #[.pointer (some ⟨p.pb,0,none⟩)] W fun e w'=>Post p ts o b W (VA W.heap.size) res e w'):=hw
     clear hw hres hno
     go_wp2_with fail
     refine(HW.out _ hst6).mono ?_
     intro e w7 hq
     rcases res with er|⟨l,r3⟩
     ·obtain⟨ht,hx7⟩:=hq
      obtain⟨ab,h1,rfl,h2,h3⟩:=ht.out
      go_wp2_with fail
      refine⟨rfl,?_⟩
      rw[HS.out,show namedT f o (at' r) m n r2=.error er by unfold namedT;rw[if_neg HB.out,if_pos HP.out,HRX.out];rfl]
      exact zt hext6 ht hx7
     ·obtain⟨v,rfl,hv,hst7,hx7⟩:=hq
      obtain⟨ao,cap,rfl⟩:∃ ao cap,v=.slice ao l.length cap:=by
       obtain⟨vs,q1,q2⟩:=hv
       obtain⟨ao,cap,q3⟩:=zl q2
       exact⟨ao,cap,by rw[q3,RepL.len _ _ q1]⟩
      have hblk7:=(hx7.block xb hlx6 (by omega)).trans hblk6
      have k0:w7.cell? ⟨xb,0,none⟩=some (.int .i64 2):=za hblk7
      have k8:w7.cell? ⟨xb,8,none⟩=some (.slice none 0 0):=za hblk7
      have z0:w7.frozen? ⟨xb,0,none⟩=false:=zg hblk7
      have z8:w7.frozen? ⟨xb,8,none⟩=false:=zg hblk7
      go_wp2_with fail
      clear k0 k8 z0 z8
      have hb8:Below xb w7 ((w7.setCell ⟨xb,0,none⟩ (.int .i64 6)).setCell ⟨xb,8,none⟩ (.slice ao l.length cap)):=zq (zq (Below.refl _ _) zn 0 _) zn 8 _
      have hblk8:=zw 8 (.slice ao l.length cap) (zw 0 (.int .i64 6) hblk7)
      have hv8:VA w6.heap.size l (.slice ao l.length cap) ((w7.setCell ⟨xb,0,none⟩ (.int .i64 6)).setCell ⟨xb,8,none⟩ (.slice ao l.length cap)):=VA.ext (((Ext.refl xb w7).set 0 _).set 8 _) hlx6 hv
      have hst8:=hst7.belowB hb8 hxp
      have hext8:=(hext6.trans hx7).trans' (hb8.mono hxw)
      generalize (w7.setCell ⟨xb,0,none⟩ (.int .i64 6)).setCell ⟨xb,8,none⟩ (.slice ao l.length cap)=w8 at hb8 hblk8 hv8 hst8 hext8 ⊢
      have hsz8:=hext6.size
      clear hblk7 hb8 hv hst7 hx7 hst6 hblk6 hx6
      by_cases hrb:tx r3=Tp.mRp
      ·refine(zD hst8 Tp.mRp _ rfl hrb).mono ?_
       rintro e w9 ⟨rfl,hst9,hx9⟩
       have HRB:Hid (tx r3=Tp.mRp):=hrb
       clear hrb hst8
       go_wp2_with fail
       go_ret
       rw[HS.out,show namedT f o (at' r) m n r2=.ok ([⟨6,at' r,0,m,n,[],[],[],l⟩],stp r3) by unfold namedT;rw[if_neg HB.out,if_pos HP.out,HRX.out];simp only [bind,Except.bind,Tp.want,if_pos HRB.out]]
       exact⟨_,rfl,VX.node hxw ((hx9.block xb (zi hblk8) (by omega)).trans hblk8) (Or.inl ⟨rfl,rfl⟩) (Or.inl ⟨rfl,rfl⟩) (Or.inr ((VA.ext hx9 (by omega) hv8).base hsz8)),hst9,hext8.trans hx9⟩
      ·refine(zO hst8 Tp.mRp _ rfl hrb).mono ?_
       rintro e w9 ⟨ht,hx9⟩
       have HRB:Hid (¬tx r3=Tp.mRp):=hrb
       clear hrb
       obtain⟨ab,h1,rfl,h2,h3⟩:=ht.out
       go_wp2_with fail
       refine⟨rfl,?_⟩
       rw[HS.out,show namedT f o (at' r) m n r2=.error (3,at' r3) by unfold namedT;rw[if_neg HB.out,if_pos HP.out,HRX.out];simp only [bind,Except.bind,Tp.want,if_neg HRB.out]]
       exact zt hext8 ht hx9
    ·have hdec:=decide_eq_false hlp
     rw[if_neg hlp]at hst6
     have HP:Hid (¬tx r2=Tp.mLp):=hlp
     clear hlp
     go_wp2_with fail
     go_ret
     rw[HS.out,show namedT f o (at' r) m n r2=.ok ([⟨2,at' r,0,m,n,[],[],[],[]⟩],r2) by unfold namedT;rw[if_neg HB.out,if_neg HP.out]]
     exact⟨_,rfl,VX.node hxw hblk6 (Or.inl ⟨rfl,rfl⟩) (Or.inl ⟨rfl,rfl⟩) (Or.inl ⟨rfl,rfl⟩),hst6,hext6⟩
theorem yg {P:Program}(w:World) (base:Nat) (t ty e:TypeId) (i:TypeInfo) (z:Value) (size bytes:Nat) (ht:P.underlying t=some (.slice e)) (hi:P.info? e=some i) (hz:i.zero=some z)
  (hsize:i.size=size) (hby:i.bytes=bytes) (hzs:z.cells.size=size) (hsz:0<size)
  (v:Value) (n:Nat) (xs:List Value) (hown:w.ownsRow base e size v n xs)
  (a:Addr) (m c:Nat) (news:List Value) (hl:news.length=m * size) (hnews:∀ j u,news[j]?=some u->w.cell? (a.add j)=some u) (h1:∀ u∈news,u.oneCell'=true)
  (h63:n+m<=maxLen) (hbytes:(n+m) * bytes<=140737488355328) (hbase:base<=w.heap.size) :
  ∃ v' w',(Builtin.append_ #[t,t] ty #[v,.slice (some a) m c]).run P w=.ok v' w'/\w'.ownsRow base e size v' (n+m) (xs++news)/\w.grownBy w' v.ownBlock /\
   (∀ g,v'.ownBlock=some g->v.ownBlock=some g\/w.heap.size<=g):=by
 obtain⟨v',w',r1,r2,r3,_⟩:=run_append_own (P:=P) w base t ty e i z size bytes ht hi hz hsize hby hzs hsz v n xs hown a m c news hl hnews h1 h63 hbytes hbase
 refine⟨v',w',r1,r2,r3,?_⟩
 rcases hown.2 with⟨rfl,rfl⟩|⟨g,cap,cur,rfl,q1,q2,q3,q4,q5,q6⟩
 ·have hx:xs=[]:=List.eq_nil_of_length_eq_zero (by simpa using hown.1)
  subst hx
  obtain⟨v2,w2,s1,s2,_⟩:=run_append_own (P:=P) w w.heap.size t ty e i z size bytes ht hi hz hsize hby hzs hsz (.slice none 0 0) 0 [] (World.ownsRow_nil _ _ _ _) a m c news hl hnews h1 h63 hbytes zn
  rw[r1]at s1
  cases s1
  intro g hg
  exact Or.inr (zL s2 g hg)
 ·have hcell:∀ j,j<cap * size->w.cell? ⟨g,j,none⟩=cur[j]?:=fun j _=>za q2
  by_cases hroom:n+m<=cap
  ·have hle:n * size+news.length<=cap * size:=by rw[hl,<-Nat.add_mul];exact Nat.mul_le_mul_right _ hroom
   have s1:=run_append_room_cells (P:=P) w t ty e i ht hi g 0 n cap a m c news (by rw[hsize];exact hl) hnews h1 hroom
    (fun j hj=>by rw[hsize,za q2,Nat.zero_add,Array.getElem?_eq_getElem (by omega)];rfl) (fun j hj=>zg q2)
   rw[r1]at s1
   cases s1
   intro g' hg
   exact Or.inl hg
  ·obtain⟨v2,w2,s1,s2,_⟩:=run_append_arg_grows (P:=P) w t ty e i z size bytes ht hi hz hsize hby hzs hsz ⟨g,0,none⟩ n cap xs hown.1
    (fun j u hj=>by
     have hjl:j<xs.length:=by rw[List.getElem?_eq_some_iff]at hj;exact hj.1
     rw[Addr.add_lit,za q2,Nat.zero_add,<-Array.getElem?_toList,<-hj,<-q6,List.getElem?_take_of_lt (by rw[<-hown.1];exact hjl)])
    a m c news hl hnews (by omega) h63 hbytes
   rw[r1]at s1
   cases s1
   intro g' hg
   exact Or.inr (zL s2 g' hg)
theorem zC {P:Program}(w:World) {ops:Array Oper}{rest:List Oper}{o:Oper}{a:Act}{Q:Exit->Act->World->Prop}(hgd:o.guard=none) (s x:Operand) (t:TypeId)
  (ho:o.op=.call { callee:=.builtin .append,args:=#[s,x],argTypes:=#[t,t] })
  (base:Nat) (e:TypeId) (i:TypeInfo) (z:Value) (size bytes:Nat) (ht:P.underlying t=some (.slice e)) (hi:P.info? e=some i) (hz:i.zero=some z)
  (hsize:i.size=size) (hby:i.bytes=bytes) (hzs:z.cells.size=size) (hsz:0<size)
  (v:Value) (n:Nat) (xs:List Value) (hs:a.eval s=v) (hown:w.ownsRow base e size v n xs)
  (ad:Addr) (m c:Nat) (news:List Value) (hx:a.eval x=.slice (some ad) m c) (hl:news.length=m * size) (hnews:∀ j u,news[j]?=some u->w.cell? (ad.add j)=some u) (h1:∀ u∈news,u.oneCell'=true)
  (h63:n+m<=maxLen) (hbytes:(n+m) * bytes<=140737488355328) (hbase:base<=w.heap.size)
  (h:∀ v' w',w'.ownsRow base e size v' (n+m) (xs++news)->w.grownBy w' v.ownBlock->(∀ g,v'.ownBlock=some g->v.ownBlock=some g\/w.heap.size<=g)->wpList P ops Q rest (a.put o.dst v') w'):wpList P ops Q (o :: rest) a w:=by
 refine wpList_plain hgd fun K hK=>?_
 obtain⟨v',w',r1,r2,r3,r4⟩:=yg (P:=P) w base t o.type e i z size bytes ht hi hz hsize hby hzs hsz v n xs hown ad m c news hl hnews h1 h63 hbytes hbase
 unfold Oper.wp
 simp[execOp,ho,resolve,invoke,builtin,hs,hx,r1,Result.andThen]
 exact hK _ _ (h v' w' r2 r3 r4)
theorem Tryz.infoPExpr:(Tryz.prog.info? 86).map (fun i=>(i.zero,i.size,i.bytes))=some (some (.pointer none),1,8):=by kernel_rfl
theorem LevelC.mono {p:Ps}{ts:List Tok}{f g:Nat}(h:LevelC p ts g) (hf:f<=g):LevelC p ts f:=by
 intro w r o b n h1 h2 h3 h4
 have e:=(Tp.ex_le hf n o 0 [] r).eq rfl h4
 have:=h w r o b n h1 h2 h3 (by rw[e];exact h4)
 rw[e]at this
 exact this
def argsT (f o:Nat) (r:List Tok):Except Tp.Er (List X× List Tok):=if tx r=Tp.mComma then Tp.ex f 7 o 0 [] (stp r) else .ok ([],r)
theorem vC {f o:Nat}{r:List Tok}{er:Tp.Er}(h:Tp.ex f 0 (o+1) 0 [] r=.error er):Tp.ex (f+1) 7 o 0 [] r=.error er:=by
 rw[Tp.ex];simp only [h];rfl
theorem ex7_ok {f o:Nat}{r r1:List Tok}{x:List X}(h:Tp.ex f 0 (o+1) 0 [] r=.ok (x,r1)):Tp.ex (f+1) 7 o 0 [] r=addAll x (argsT f o r1):=by
 rw[Tp.ex]
 simp only [h,bind,Except.bind,argsT]
 by_cases hc:tx r1=Tp.mComma
 ·simp[hc]
  cases Tp.ex f 7 o 0 [] (stp r1) with
  | error e=>rfl
  | ok v=>rfl
 ·simp[hc,addAll]
theorem RepL.grown {w w':World}{B:Nat}{v v':Value}{l:List X}{vs:List Value}(h:RepL w (fun b=>B<=b/\v.ownBlock≠some b) l vs) (hg:w.grownBy w' v.ownBlock) (hv:∀ g,v'.ownBlock=some g->v.ownBlock=some g\/w.heap.size<=g) :
  RepL w' (fun b=>B<=b/\v'.ownBlock≠some b) l vs:=by
 refine RepL.mono (fun b hb hl=>⟨hg.block b hl (fun e=>hb.2 e.symm),hb.1,fun e=>?_⟩) (SizeOf.sizeOf l) l vs zn h
 rcases hv b e with h1|h1
 ·exact hb.2 h1
 ·omega
theorem VA.snoc {w w':World}{B:Nat}{v v' u:Value}{l x:List X}{vs:List Value}(h:RepL w (fun b=>B<=b/\v.ownBlock≠some b) l vs) (hx:RepL w (fun b=>B<=b/\v.ownBlock≠some b) x [u])
  (hown:w'.ownsRow B 86 1 v' (vs.length+1) (vs++[u])) (hg:w.grownBy w' v.ownBlock) (hv:∀ g,v'.ownBlock=some g->v.ownBlock=some g\/w.heap.size<=g) :
  RepL w' (fun b=>B<=b/\v'.ownBlock≠some b) (l++x) (vs++[u])/\w'.ownsRow B 86 1 v' (vs++[u]).length (vs++[u]) :=
 ⟨RepL.app _ _ _ _ (h.grown hg hv) (hx.grown hg hv),by simpa using hown⟩
theorem RepL.of_new {w:World}{B C:Nat}{v:Value}{l:List X}{vs:List Value}(h:RepL w (fun b=>C<=b) l vs) (hB:B<=C) (hv:∀ g,v.ownBlock=some g->g<C):RepL w (fun b=>B<=b/\v.ownBlock≠some b) l vs :=
 RepL.mono (fun b hb _=>⟨rfl,Nat.le_trans hB hb,fun e=>by have:=hv b e;omega⟩) (SizeOf.sizeOf l) l vs zn h
theorem RepL.alloc {w:World}{D:Nat->Prop}{l:List X}{vs:List Value}(h:RepL w D l vs) (ob:Obj):RepL (w.alloc ob) D l vs :=
 RepL.mono (fun b hb hl=>⟨Below.heap_alloc w ob b hl,hb⟩) (SizeOf.sizeOf l) l vs zn h
theorem args_none {p:Ps}{ts:List Tok}{w:World}{r:List Tok}{o b:Nat}(h:St w p ts r o b) (hr:tx r=Tp.mRp) :
  Calls Tryz.prog 202 #[.pointer (some ⟨p.pb,0,none⟩)] w fun e w'=>e=.returned (.slice none 0 0)/\St w' p ts r o b/\Ext p.pb w w':=by
 have hdec:=decide_eq_true hr
 clear hr
 go_enter Tryz.func202,Tryz.ntmps202
 go_wp2_with fail
 refine(yy h Tp.mRp _ rfl).mono ?_
 rintro e w1 ⟨rfl,hb1⟩
 go_wp2_with fail
 go_ret
 exact⟨rfl,h.below hb1,Ext.below hb1⟩
theorem args_some {p:Ps}{ts:List Tok}{f:Nat}(hL:LevelC p ts f) {w:World}{r:List Tok}{o b:Nat}(h:St w p ts r o b) (ho:o<=10) (hr:tx r≠Tp.mRp) (hfb:f<=100000) (hn:Tp.ex f 7 o 0 [] r≠.error (99,0)) :
  Calls Tryz.prog 202 #[.pointer (some ⟨p.pb,0,none⟩)] w fun e w'=>Post p ts o b w (VA w.heap.size) (Tp.ex f 7 o 0 [] r) e w':=by
 obtain⟨i0,hi,hz0,hz1,hz2⟩:=info_parts Tryz.infoPExpr
 have hmf:=zm
 have hpl:=zc h.c0
 have hdec:=decide_eq_false hr
 obtain⟨f1,rfl⟩:∃ f1,f=f1+1:=by
  cases f with
  | zero=>exact absurd rfl hn
  | succ k=>exact⟨k,rfl⟩
 have hL1:LevelC p ts f1:=hL.mono (by omega)
 have HL:Hid (∀ g,g<=f1->∀ W q,St W p ts q o b->Tp.ex g 0 (o+1) 0 [] q≠.error (99,0)->Calls Tryz.prog 201 #[.pointer (some ⟨p.pb,0,none⟩),.func (.func 187) #[.pointer (some ⟨p.pb,0,none⟩)] #[]] W fun e w'=>Post p ts o b W (VX W.heap.size) (Tp.ex g 0 (o+1) 0 [] q) e w') :=
  fun g hg W q hW hq=>kX hW (by omega) _ (fun w1 h1 _ _=>yG (hL1.mono hg) h1 (by omega) hq)
 have HN:Hid (Tp.ex (f1+1) 7 o 0 [] r≠.error (99,0)):=hn
 clear hr hn hL hL1
 go_enter Tryz.func202,Tryz.ntmps202
 go_wp2_with fail
 refine(yy h Tp.mRp _ rfl).mono ?_
 rintro e w1 ⟨rfl,hb1⟩
 have hst1:=h.below hb1
 go_wp2_with fail
 have hno:Tp.ex f1 0 (o+1) 0 [] r≠.error (99,0):=fun e=>HN.out (vC e)
 refine(HL.out f1 zn _ r hst1 hno).mono ?_
 intro e w2 hq
 generalize hres:Tp.ex f1 0 (o+1) 0 [] r=res at hq
 have HRX:Hid (Tp.ex f1 0 (o+1) 0 [] r=res):=hres
 clear hres hno
 rcases res with er|⟨x,r1⟩
 ·obtain⟨ht,hx2⟩:=hq
  obtain⟨ab,h1,rfl,h2,h3⟩:=ht.out
  go_wp2_with fail
  refine⟨rfl,?_⟩
  rw[vC HRX.out]
  exact zt (Ext.below hb1) ht hx2
 ·obtain⟨v,rfl,hv,hst2,hx2⟩:=hq
  obtain⟨bb,rfl⟩:=hv.ptr
  have hsz1:=hb1.size
  have hsz2:=hx2.size
  have hx2':Ext p.pb w w2:=(Ext.below hb1).trans hx2
  go_wp2_with fail
  have h0st:St (w2.alloc (.cells #[.pointer (some ⟨bb,0,none⟩)] 86)) p ts r1 o b:=hst2.below (zb _ _)
  have h0ext:Ext p.pb w (w2.alloc (.cells #[.pointer (some ⟨bb,0,none⟩)] 86)):=hx2'.trans (Ext.below (zb _ _))
  have h0own:(w2.alloc (.cells #[.pointer (some ⟨bb,0,none⟩)] 86)).ownsRow w.heap.size 86 1 (.slice (some ⟨w2.heap.size,0,none⟩) 1 1) 1 [.pointer (some ⟨bb,0,none⟩)] :=
   ⟨rfl,Or.inr ⟨w2.heap.size,1,#[.pointer (some ⟨bb,0,none⟩)],rfl,by omega,zk _ _,by omega,by unfold maxLen;omega,rfl,rfl⟩⟩
  have h0rep:RepL (w2.alloc (.cells #[.pointer (some ⟨bb,0,none⟩)] 86)) (fun b=>w.heap.size<=b/\(Value.slice (some ⟨w2.heap.size,0,none⟩) 1 1).ownBlock≠some b) x [.pointer (some ⟨bb,0,none⟩)]:=by
   refine RepL.mono (fun b hb hl=>⟨Below.heap_alloc w2 _ b hl,by omega,fun e=>?_⟩) (SizeOf.sizeOf x) x _ zn hv
   simp[Value.ownBlock]at e;omega
  clear hst2 hx2 hb1 hst1 hv
  go_loopg [3] f1 (fun k v wr=>∃(l:List X) (vs:List Value) (r':List Tok),k<=f1/\RepL wr (fun b=>w.heap.size<=b/\v.ownBlock≠some b) l vs/\wr.ownsRow w.heap.size 86 1 v vs.length vs/\St wr p ts r' o b/\Ext p.pb w wr/\addAll l (argsT k o r')=Tp.ex (f1+1) 7 o 0 [] r/\vs.length+k<=f1+1)
  case atStart=>exact⟨x,_,r1,Nat.le_refl _,h0rep,h0own,h0st,h0ext,(ex7_ok HRX.out).symm,by simp;omega⟩
  case round =>
   obtain⟨l,vs,r',hk,hrep,hown,hst,hext,hspec,hlen⟩:=hrel
   have HS:Hid (addAll l (argsT gk o r')=Tp.ex (f1+1) 7 o 0 [] r):=hspec
   obtain⟨ao,cap,hvv⟩:=zl hown
   subst hvv
   clear hspec h0st h0ext h0own h0rep
   go_wp2_with fail
   refine(zH hst Tp.mComma _ rfl).mono ?_
   rintro e w5 ⟨rfl,hst5,hx5⟩
   have hrep5:=RepL.ext hx5 (by omega) hrep
   have hown5:=zA hown hx5 hpl
   have hext5:=hext.trans hx5
   clear hrep hown hext hst
   by_cases hc:tx r'=Tp.mComma
   ·have hdec5:=decide_eq_true hc
    rw[if_pos hc]at hst5
    have HC:Hid (tx r'=Tp.mComma):=hc
    have hno7:Tp.ex gk 7 o 0 [] (stp r')≠.error (99,0):=by
     intro e;apply HN.out;rw[<-HS.out];unfold argsT;rw[if_pos HC.out,e];rfl
    obtain⟨g,rfl⟩:∃ g,gk=g+1:=by
     cases gk with
     | zero=>exact absurd rfl hno7
     | succ k=>exact⟨k,rfl⟩
    have hno:Tp.ex g 0 (o+1) 0 [] (stp r')≠.error (99,0):=fun e=>hno7 (vC e)
    have hcall:=HL.out g (by omega) w5 (stp r') hst5 hno
    clear hc hno7 hno
    generalize hres:Tp.ex g 0 (o+1) 0 [] (stp r')=res at hcall
    have HR:Hid (Tp.ex g 0 (o+1) 0 [] (stp r')=res):=hres
    have HCL:Hid (Calls Tryz.prog 201 #[.pointer (some ⟨p.pb,0,none⟩),.func (.func 187) #[.pointer (some ⟨p.pb,0,none⟩)] #[]] w5 fun e w'=>Post p ts o b w5 (VX w5.heap.size) res e w'):=hcall
    clear hres hcall
    go_wp2_with fail
    refine HCL.out.mono ?_
    intro e w6 hq
    rcases res with er|⟨y,r2⟩
    ·obtain⟨ht,hx6⟩:=hq
     obtain⟨ab,h1,rfl,h2,h3⟩:=ht.out
     go_wp2_with fail
     refine⟨rfl,?_⟩
     rw[<-HS.out,show argsT (g+1) o r'=.error er by unfold argsT;rw[if_pos HC.out,vC HR.out]]
     exact zt hext5 ht hx6
    ·obtain⟨u,rfl,hu,hst6,hx6⟩:=hq
     obtain⟨ub,rfl⟩:=hu.ptr
     have hown6:=zA hown5 hx6 hpl
     have hrep6:=RepL.ext hx6 (by omega) hrep5
     have hext6:=hext5.trans hx6
     have hsz6:=hext6.size
     have hsz5:=hext5.size
     have hob:∀ q,(Value.slice ao vs.length cap).ownBlock=some q->q<w5.heap.size:=fun q hq=>(hown5.lt q hq).2
     have hu6:=hu.of_new (v:=.slice ao vs.length cap) hsz5 hob
     clear hu hown5 hrep5 hst5 hx5 hx6 hext5
     go_wp2_with (at_builtin;refine zC _ rfl _ _ 88 rfl w.heap.size 86 i0 (.pointer none) 1 8 Tryz.underlying88 hi hz0 hz1 hz2 rfl (by decide) _ _ _ rfl (hown6.alloc _) ⟨w6.heap.size,0,none⟩ 1 1 [.pointer (some ⟨ub,0,none⟩)] rfl rfl ?c1 ?c2 ?c3 ?c4 ?c5 ?_)
     case c1 =>
      intro j u hj
      match j,hj with
      | 0,hj=>simp at hj;subst hj;simp[Addr.add]
     case c2=>intro u hu;simp at hu;subst hu;rfl
     case c3=>unfold maxLen;omega
     case c4=>omega
     case c5=>simp;omega
     ·intro v' w7 hown7 hgrow hwhere
      have hb7:Below w.heap.size w6 w7:=((Below.refl _ _).alloc hsz6 _).trans ((Below.refl _ _).grown hgrow (by simp;omega) (zL hown6))
      have hst7:=hst6.belowB hb7 hpl
      have hext7:Ext p.pb w w7:=hext6.trans' hb7
      have hsn:=VA.snoc (hrep6.alloc _) (hu6.alloc _) hown7 hgrow (by simpa using hwhere)
      clear hgrow hwhere hown6 hown7 hrep6 hu6 hst6 hext6 hb7
      go_wp2_with fail
      go_roundg g
      case measure=>omega
      case rel =>
       refine⟨l++y,vs++[.pointer (some ⟨ub,0,none⟩)],r2,by omega,hsn.1,hsn.2,hst7,hext7,?_,by simp;omega⟩
       rw[<-HS.out,<-ki,<-ex7_ok HR.out,show argsT (g+1) o r'=Tp.ex (g+1) 7 o 0 [] (stp r') by unfold argsT;rw[if_pos HC.out]]
   ·have hdec5:=decide_eq_false hc
    rw[if_neg hc]at hst5
    have HC:Hid (¬tx r'=Tp.mComma):=hc
    clear hc
    go_wp2_with fail
    go_ret
    rw[<-HS.out,show argsT gk o r'=.ok ([],r') by unfold argsT;rw[if_neg HC.out]]
    exact⟨_,rfl,⟨vs,by simpa using hrep5,hown5⟩,hst5,hext5⟩
theorem args_post {p:Ps}{ts:List Tok}{f:Nat}(hfb:f<=100000) (hL:LevelC p ts f):ArgsC p ts f:=by
 intro w r o b h ho hn
 unfold argsS at hn ⊢
 by_cases hr:tx r=Tp.mRp
 ·rw[if_pos hr]
  refine(args_none h hr).mono ?_
  rintro e w' ⟨rfl,h2,h3⟩
  exact⟨_,rfl,⟨[],by rw[RepL],World.ownsRow_nil _ _ _ _⟩,h2,h3⟩
 ·rw[if_neg hr]at hn ⊢
  exact args_some hL h ho hr hfb hn
end Go.Proofs.YtmocelfkmdpogaaGreatDoor
