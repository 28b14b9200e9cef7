import Derived.Test.YtibncofnnlbmcaaGreatDoorKWc
set_option maxRecDepth 100000
set_option maxHeartbeats 4000000
namespace Go.Proofs.YtibncofnnlbmcaaGreatDoor
open Go.RowKit
open Tp (Tok hd tx at' stp X S)
def OwnS (w:World) (D:Nat->Prop) (v:Value) (n:Nat) (cs:List Value):Prop :=
 v=.slice none 0 0/\n=0\/∃ g cap cur,v=.slice (some ⟨g,0,none⟩) n cap/\D g/\w.heap[g]?=some (.cells cur 181 (0,0))/\n<=cap/\cap<=maxLen/\cur.size=cap * 7/\cur.toList.take (n * 7)=cs
def RepS (w:World) (D:Nat->Prop):List S->List Value->Prop
 | [],cs=>cs=[]
 | ⟨code,pos,name,index,value,thn,els⟩ :: ss,cs=>∃(tv ev:Value) (ls vs tcs ecs cs':List Value),
   cs=[.int .i64 (code:Int),.int .i64 (pos:Int),.string (bs name),ls.headD (.pointer none),vs.headD (.pointer none),tv,ev]++cs' /\
   RepL w D index ls/\ls.length<=1/\RepL w D value vs/\vs.length<=1/\RepS w D thn tcs/\OwnS w D tv thn.length tcs/\RepS w D els ecs/\OwnS w D ev els.length ecs/\RepS w D ss cs'
theorem OwnS.mono {w w':World}{D D':Nat->Prop}(hw:∀ b,D b->b<w.heap.size->w'.heap[b]?=w.heap[b]?/\D' b) {v:Value}{n:Nat}{cs:List Value}(h:OwnS w D v n cs):OwnS w' D' v n cs:=by
 rcases h with h|⟨g,cap,cur,h1,h2,h3,h4⟩
 ·exact Or.inl h
 ·obtain⟨e1,e2⟩:=hw g h2 (zf h3)
  exact Or.inr ⟨g,cap,cur,h1,e2,e1.trans h3,h4⟩
theorem RepS.mono {w w':World}{D D':Nat->Prop}(hw:∀ b,D b->b<w.heap.size->w'.heap[b]?=w.heap[b]?/\D' b):∀(n:Nat) (l:List S) (cs:List Value),SizeOf.sizeOf l<=n->RepS w D l cs->RepS w' D' l cs:=by
 intro n
 induction n with
 | zero=>intro l vs hl;cases l <;> simp at hl <;> omega
 | succ n ih =>
  intro l vs hl h
  cases l with
  | nil=>rw[RepS]at h ⊢;exact h
  | cons x xs =>
   obtain⟨code,pos,name,index,value,thn,els⟩:=x
   rw[RepS]at h ⊢
   simp at hl
   obtain⟨tv,ev,ls,vs,tcs,ecs,cs',h1,h2,h3,h4,h5,h6,h7,h8,h9,h10⟩:=h
   exact⟨tv,ev,ls,vs,tcs,ecs,cs',h1,RepL.mono hw _ _ _ zn h2,h3,RepL.mono hw _ _ _ zn h4,h5,ih _ _ (by omega) h6,h7.mono hw,ih _ _ (by omega) h8,h9.mono hw,ih _ _ (by omega) h10⟩
theorem RepS.mono' {w w':World}{D D':Nat->Prop}(hw:∀ b,D b->b<w.heap.size->w'.heap[b]?=w.heap[b]?/\D' b) {l:List S}{cs:List Value}(h:RepS w D l cs):RepS w' D' l cs:=RepS.mono hw _ l cs zn h
theorem RepS.len {w:World}{D:Nat->Prop}:∀(l:List S) (cs:List Value),RepS w D l cs->cs.length=l.length * 7:=by
 intro l
 induction l with
 | nil=>intro vs h;rw[RepS]at h;simp[h]
 | cons x xs ih =>
  intro cs h
  obtain⟨code,pos,name,index,value,thn,els⟩:=x
  rw[RepS]at h
  obtain⟨tv,ev,ls,vs,tcs,ecs,cs',h1,h2,h3,h4,h5,h6,h7,h8,h9,h10⟩:=h
  subst h1
  simp[ih _ h10];omega
theorem RepS.app {w:World}{D:Nat->Prop}:∀(l m:List S) (cs us:List Value),RepS w D l cs->RepS w D m us->RepS w D (l++m) (cs++us):=by
 intro l
 induction l with
 | nil=>intro m cs us h k;rw[RepS]at h;subst h;exact k
 | cons x xs ih =>
  intro m cs us h k
  obtain⟨code,pos,name,index,value,thn,els⟩:=x
  rw[RepS]at h
  obtain⟨tv,ev,ls,vs,tcs,ecs,cs',h1,h2,h3,h4,h5,h6,h7,h8,h9,h10⟩:=h
  subst h1
  rw[List.cons_append,RepS]
  exact⟨tv,ev,ls,vs,tcs,ecs,cs'++us,by simp,h2,h3,h4,h5,h6,h7,h8,h9,ih m cs' us h10 k⟩
def scells (code pos:Int) (name:ByteArray) (iv vv tv ev:Value):Array Value:=#[.int .i64 code,.int .i64 pos,.string name,iv,vv,tv,ev]
def VS (B:Nat) (l:List S) (v:Value) (w:World):Prop:=∃(code pos:Nat) (name:List UInt8) (ia va ta ea:Option Addr) (tn tc en ec:Nat),
 v=.agg (scells code pos (bs name) (.pointer ia) (.pointer va) (.slice ta tn tc) (.slice ea en ec))/\RepS w (fun b=>B<=b) l (scells code pos (bs name) (.pointer ia) (.pointer va) (.slice ta tn tc) (.slice ea en ec)).toList
def VL (B:Nat) (l:List S) (v:Value) (w:World):Prop:=∃ cs,RepS w (fun b=>B<=b/\v.ownBlock≠some b) l cs/\w.ownsRow B 181 7 v l.length cs
theorem VS.ext {w w':World}{B b:Nat}(k:Ext b w w') (hb:b<B) {l:List S}{v:Value}(h:VS B l v w):VS B l v w':=by
 obtain⟨c,p,n,ia,va,ta,ea,tn,tc,en,ec,h1,h2⟩:=h
 exact⟨c,p,n,ia,va,ta,ea,tn,tc,en,ec,h1,h2.mono' (fun i hi hl=>⟨k.block i hl (by omega),hi⟩)⟩
theorem VS.base {w:World}{B B':Nat}{l:List S}{v:Value}(h:VS B l v w) (hB:B'<=B):VS B' l v w:=by
 obtain⟨c,p,n,ia,va,ta,ea,tn,tc,en,ec,h1,h2⟩:=h
 exact⟨c,p,n,ia,va,ta,ea,tn,tc,en,ec,h1,h2.mono' (fun _ hi _=>⟨rfl,Nat.le_trans hB hi⟩)⟩
theorem VL.ext {w w':World}{B b:Nat}(k:Ext b w w') (hb:b<B) {l:List S}{v:Value}(h:VL B l v w):VL B l v w':=by
 obtain⟨cs,h1,h2⟩:=h
 exact⟨cs,h1.mono' (fun i hi hl=>⟨k.block i hl (by omega),hi⟩),zA h2 k hb⟩
theorem VL.base {w:World}{B B':Nat}{l:List S}{v:Value}(h:VL B l v w) (hB:B'<=B):VL B' l v w:=by
 obtain⟨cs,h1,h2⟩:=h
 refine⟨cs,h1.mono' (fun _ hi _=>⟨rfl,Nat.le_trans hB hi.1,hi.2⟩),h2.1,?_⟩
 rcases h2.2 with q|⟨g,cap,cur,q1,q2,q3⟩
 ·exact Or.inl q
 ·exact Or.inr ⟨g,cap,cur,q1,Nat.le_trans hB q2,q3⟩
theorem VL.shape {w:World}{B:Nat}{l:List S}{v:Value}(h:VL B l v w):∃ ao cap,v=.slice ao l.length cap:=by
 obtain⟨cs,_,h2⟩:=h
 exact zw h2
theorem VL.own {w:World}{B:Nat}{l:List S}{v:Value}(h:VL B l v w):∃ cs,RepS w (fun b=>B<=b) l cs/\OwnS w (fun b=>B<=b) v l.length cs:=by
 obtain⟨cs,h1,h2⟩:=h
 refine⟨cs,h1.mono' (fun _ hi _=>⟨rfl,hi.1⟩),?_⟩
 rcases h2.2 with q|⟨g,cap,cur,q1,q2,q3⟩
 ·exact Or.inl q
 ·exact Or.inr ⟨g,cap,cur,q1,q2,q3⟩
theorem VS.node {w:World}{B code pos:Nat}{name:List UInt8}{index value:List X}{thn els:List S}{iv vv tv ev:Value}
  (hi:index=[]/\iv=.pointer none\/VX B index iv w) (hv:value=[]/\vv=.pointer none\/VX B value vv w)
  (ht:thn=[]/\tv=.slice none 0 0\/VL B thn tv w) (he:els=[]/\ev=.slice none 0 0\/VL B els ev w) :
  VS B [⟨code,pos,name,index,value,thn,els⟩] (.agg (scells code pos (bs name) iv vv tv ev)) w:=by
 have side:∀(l:List X) (v:Value),(l=[]/\v=.pointer none\/VX B l v w)->∃ ls:List Value,v=ls.headD (.pointer none)/\RepL w (fun b=>B<=b) l ls/\ls.length<=1:=by
  intro l v h
  rcases h with⟨rfl,rfl⟩|h
  ·exact⟨[],rfl,by rw[RepL],by simp⟩
  ·exact⟨[v],rfl,h,by simp⟩
 have down:∀(l:List S) (v:Value),(l=[]/\v=.slice none 0 0\/VL B l v w)->∃ cs,RepS w (fun b=>B<=b) l cs/\OwnS w (fun b=>B<=b) v l.length cs:=by
  intro l v h
  rcases h with⟨rfl,rfl⟩|h
  ·exact⟨[],by rw[RepS],Or.inl ⟨rfl,rfl⟩⟩
  ·exact h.own
 have ptr:∀(l:List X) (v:Value),(l=[]/\v=.pointer none\/VX B l v w)->∃ ia,v=.pointer ia:=by
  intro l v h
  rcases h with⟨rfl,rfl⟩|h
  ·exact⟨_,rfl⟩
  ·obtain⟨bb,rfl⟩:=h.ptr;exact⟨_,rfl⟩
 have slc:∀(l:List S) (v:Value),(l=[]/\v=.slice none 0 0\/VL B l v w)->∃ ta tn tc,v=.slice ta tn tc:=by
  intro l v h
  rcases h with⟨rfl,rfl⟩|h
  ·exact⟨_,_,_,rfl⟩
  ·obtain⟨ao,cap,rfl⟩:=h.shape;exact⟨_,_,_,rfl⟩
 obtain⟨ia,rfl⟩:=ptr index iv hi
 obtain⟨va,rfl⟩:=ptr value vv hv
 obtain⟨ta,tn,tc,rfl⟩:=slc thn tv ht
 obtain⟨ea,en,ec,rfl⟩:=slc els ev he
 obtain⟨ls,l0,l1,l2⟩:=side index _ hi
 obtain⟨vs,v0,v1,v2⟩:=side value _ hv
 obtain⟨tcs,t1,t2⟩:=down thn _ ht
 obtain⟨ecs,e1,e2⟩:=down els _ he
 refine⟨code,pos,name,ia,va,ta,ea,tn,tc,en,ec,rfl,?_⟩
 rw[RepS]
 exact⟨_,_,ls,vs,tcs,ecs,[],by rw[<-l0,<-v0];simp[scells],l1,l2,v1,v2,t1,t2,e1,e2,by rw[RepS]⟩
theorem St.setBlocks {w:World}{p:Ps}{ts r:List Tok}{o b:Nat}(h:St w p ts r o b) (b':Nat) (z:Int) (hz:z=b'):St (w.setCell ⟨p.pb,4,none⟩ (.int .i64 z)) p ts r o b':=by
 subst hz
 have e:∀ j v,j≠4->w.cell? ⟨p.pb,j,none⟩=some v->(w.setCell ⟨p.pb,4,none⟩ (.int .i64 (b':Int))).cell? ⟨p.pb,j,none⟩=some v:=fun j v hj hv=>by
  rw[World.cell?_setCell_other w ⟨p.pb,4,none⟩ ⟨p.pb,j,none⟩ _ (by simp <;> omega)];exact hv
 exact⟨e 0 _ (by omega) h.c0,e 1 _ (by omega) h.c1,e 2 _ (by omega) h.c2,e 3 _ (by omega) h.c3,World.cell?_setCell_same _ _ _ h.c4,fun j=>by simpa using h.fz j,
  (Below.heap_setCell _ _ _ _ (by have:=h.apart.2;simp;omega)).trans h.kept,fun i t ht=>(h.toks i t ht).ext (b:=p.pb) ((Ext.refl _ _).set 4 _) (by have:=h.apart.1;omega),h.suf,h.ne,h.len,h.last,h.apart,h.dig,h.tl,⟨by simpa using h.lv.1,fun i hi=>by rw[World.cell?_setCell_other w ⟨p.pb,4,none⟩ ⟨3,i,none⟩ _ (by have:=h.glt;simp <;> omega)];exact h.lv.2 i hi⟩,h.glt⟩
theorem yn (w:World) (b:Nat) (v0 v1 v2 v3 v4 v5 v6:Value):Ext b w (((((((w.setCell ⟨b,0,none⟩ v0).setCell ⟨b,1,none⟩ v1).setCell ⟨b,2,none⟩ v2).setCell ⟨b,3,none⟩ v3).setCell ⟨b,4,none⟩ v4).setCell ⟨b,5,none⟩ v5).setCell ⟨b,6,none⟩ v6):=((((((((Ext.refl b w).set 0 v0).set 1 v1).set 2 v2).set 3 v3).set 4 v4).set 5 v5).set 6 v6)
theorem zL (w:World) (b:Nat) (v0 v1 v2 v3 v4 v5 v6:Value):Below b w (((((((w.setCell ⟨b,0,none⟩ v0).setCell ⟨b,1,none⟩ v1).setCell ⟨b,2,none⟩ v2).setCell ⟨b,3,none⟩ v3).setCell ⟨b,4,none⟩ v4).setCell ⟨b,5,none⟩ v5).setCell ⟨b,6,none⟩ v6):=(zq (zq (zq (zq (zq (zq (zq (Below.refl b w) zn 0 v0) zn 1 v1) zn 2 v2) zn 3 v3) zn 4 v4) zn 5 v5) zn 6 v6)
theorem je {p:Ps}{ts:List Tok}{f:Nat}(hL:LevelC p ts f) {w:World}{r:List Tok}{b:Nat}(h:St w p ts r 0 b) (code:Nat) (hn:Tp.ex f 0 0 0 [] (stp r)≠.error (99,0)) :
  Calls Tryz.prog 133 #[.pointer (some ⟨p.pb,0,none⟩),.int .i64 (code:Int)] w fun e w'=>Post p ts 0 b w (VS w.heap.size)
   (do let (x,r1) <- Tp.ex f 0 0 0 [] (stp r);let r2 <- Tp.want Tp.mSemi r1;.ok ([⟨code,at' r,[],[],x,[],[]⟩],r2)) e w':=by
 have hpl:=zg h.c0
 have hcall:=fun W (hW:St W p ts (stp r) 0 b)=>yy hL hW (by omega) hn
 generalize Tp.ex f 0 0 0 [] (stp r)=res at hcall
 have HC:Hid (∀ W,St W p ts (stp r) 0 b->Calls Tryz.prog 157 #[.pointer (some ⟨p.pb,0,none⟩)] W fun e w'=>Post p ts 0 b W (VX W.heap.size) res e w'):=hcall
 clear hcall hn hL
 go_enter Tryz.func133,Tryz.ntmps133
 go_wp2_with fail
 have hba:∀(W:World) ob,Below W.heap.size W (W.alloc ob):=fun W ob=>zb _ _
 refine(yD (h.below (hba _ _))).mono ?_
 rintro e w1 ⟨rfl,hst1,hx1⟩
 have hrb1:w1.heap[w.heap.size]?=some (.cells (scells 0 0 ⟨#[]⟩ (.pointer none) (.pointer none) (.slice none 0 0) (.slice none 0 0)) 181 (0,0)):=(hx1.block _ (by simp) (by omega)).trans (zo _ _)
 have hext1:Ext p.pb w w1:=(Ext.below (hba _ _)).trans hx1
 have hsz1:=zf hrb1
 have HB:Hid (∀(W:World) ob,Below W.heap.size W (W.alloc ob)):=hba
 clear hx1 hba
 go_wp2_with fail
 refine(HC.out _ (hst1.below (HB.out _ _))).mono ?_
 intro e w2 hq
 have HX1:Hid (∀ ob,Ext p.pb w (w1.alloc ob)):=fun ob=>hext1.trans (Ext.below (HB.out _ _))
 clear hst1
 rcases res with er|⟨x,r1⟩
 ·obtain⟨ht,hx2⟩:=hq
  obtain⟨ab,h1,rfl,h2,h3⟩:=ht.out
  go_wp2_with fail
  exact⟨rfl,zt (HX1.out _) ht hx2⟩
 ·obtain⟨v,rfl,hv,hst2,hx2⟩:=hq
  obtain⟨bb,rfl⟩:=hv.ptr
  have hrb2:=(hx2.block w.heap.size (by simp;omega) (by omega)).trans ((Below.heap_alloc _ _ _ hsz1).trans hrb1)
  have hsb2:w2.heap[w1.heap.size]?=some (.cells (scells code (at' r) ⟨#[]⟩ (.pointer none) (.pointer none) (.slice none 0 0) (.slice none 0 0)) 181 (0,0)):=(hx2.block _ (by simp) (by omega)).trans (zo _ _)
  have hext2:=(HX1.out _).trans hx2
  obtain⟨sb,hsb⟩:∃ sb,sb=w1.heap.size:=⟨_,rfl⟩
  obtain⟨rb,hrb⟩:∃ rb,rb=w.heap.size:=⟨_,rfl⟩
  have hv2:VX (sb+1) x (.pointer (some ⟨bb,0,none⟩)) w2:=hv.base (by simp;omega)
  have hsw:w.heap.size<sb:=by omega
  rw[<-hsb]at hsb2 ⊢
  rw[<-hrb]at hrb2 ⊢
  have hrw:w.heap.size<=rb:=by omega
  have hrs:rb<sb:=by omega
  have hps:p.pb<rb:=by omega
  have HRB:Hid (rb=w.heap.size):=hrb
  clear hsb hrb hrb1 hext1 hsz1 hv hx2 HX1
  have k4:w2.cell? ⟨sb,4,none⟩=some (.pointer none):=za hsb2
  have z4:w2.frozen? ⟨sb,4,none⟩=false:=zi hsb2
  go_wp2_with fail
  clear k4 z4
  have hb3:Below sb w2 (w2.setCell ⟨sb,4,none⟩ (.pointer (some ⟨bb,0,none⟩))):=zq (Below.refl _ _) zn 4 _
  have hst3:=hst2.belowB hb3 (by omega)
  have hext3:=hext2.trans' (hb3.mono (by omega))
  have hsb3:=zu 4 (.pointer (some ⟨bb,0,none⟩)) hsb2
  have hrb3:=(hb3.block rb hrs).trans hrb2
  have hv3:VX (sb+1) x (.pointer (some ⟨bb,0,none⟩)) (w2.setCell ⟨sb,4,none⟩ (.pointer (some ⟨bb,0,none⟩))):=VX.ext ((Ext.refl sb w2).set 4 _) (by omega) hv2
  generalize w2.setCell ⟨sb,4,none⟩ (.pointer (some ⟨bb,0,none⟩))=w3 at hb3 hst3 hext3 hsb3 hrb3 hv3 ⊢
  clear hb3 hst2 hext2 hsb2 hrb2 hv2
  by_cases hse:tx r1=Tp.mSemi
  ·refine(zE hst3 Tp.mSemi _ rfl hse).mono ?_
   rintro e w4 ⟨rfl,hst4,hx4⟩
   have HSE:Hid (tx r1=Tp.mSemi):=hse
   clear hse hst3
   have hsb4:w4.heap[sb]?=some (.cells (scells code (at' r) ⟨#[]⟩ (.pointer none) (.pointer (some ⟨bb,0,none⟩)) (.slice none 0 0) (.slice none 0 0)) 181 (0,0)):=(hx4.block sb (zf hsb3) (by omega)).trans hsb3
   have hrb4:w4.heap[rb]?=some (.cells (scells 0 0 ⟨#[]⟩ (.pointer none) (.pointer none) (.slice none 0 0) (.slice none 0 0)) 181 (0,0)):=(hx4.block rb (zf hrb3) (by omega)).trans hrb3
   have ks:∀ i,w4.cell? ⟨sb,i,none⟩=(scells code (at' r) ⟨#[]⟩ (.pointer none) (.pointer (some ⟨bb,0,none⟩)) (.slice none 0 0) (.slice none 0 0))[i]?:=fun i=>za hsb4
   have kr:∀ i,w4.cell? ⟨rb,i,none⟩=(scells 0 0 ⟨#[]⟩ (.pointer none) (.pointer none) (.slice none 0 0) (.slice none 0 0))[i]?:=fun i=>za hrb4
   have zr:∀ i,w4.frozen? ⟨rb,i,none⟩=false:=fun i=>zi hrb4
   simp only [scells]at ks kr
   go_wp2_with fail
   refine bodyPost_ret (v:=.agg (scells code (at' r) (bs []) (.pointer none) (.pointer (some ⟨bb,0,none⟩)) (.slice none 0 0) (.slice none 0 0))) (by simp[results,Tryz.results133,go_sem,kr,scells,bs]) rfl ?_
   have hw:Tp.want Tp.mSemi r1=.ok (stp r1):=by unfold Tp.want;rw[if_pos HSE.out]
   simp only [bind,Except.bind,hw]
   refine⟨_,rfl,VS.node (Or.inl ⟨rfl,rfl⟩) (Or.inr ?_) (Or.inl ⟨rfl,rfl⟩) (Or.inl ⟨rfl,rfl⟩),?_,?_⟩
   ·exact VX.base (VX.ext (b:=rb) (yn w4 rb _ _ _ _ _ _ _) (by omega) (VX.ext hx4 (by omega) hv3)) (by omega)
   ·exact hst4.belowB (zL w4 rb _ _ _ _ _ _ _) (by omega)
   ·exact(hext3.trans hx4).trans' ((zL w4 rb _ _ _ _ _ _ _).mono hrw)
  ·refine(zM hst3 Tp.mSemi _ rfl hse).mono ?_
   rintro e w4 ⟨ht,hx4⟩
   have HSE:Hid (¬tx r1=Tp.mSemi):=hse
   clear hse
   obtain⟨ab,h1,rfl,h2,h3⟩:=ht.out
   go_wp2_with fail
   refine⟨rfl,?_⟩
   have hw:Tp.want Tp.mSemi r1=.error (3,at' r1):=by unfold Tp.want;rw[if_neg HSE.out]
   simp only [bind,Except.bind,hw]
   exact zt hext3 ht hx4
theorem yj (w:World) (a b:Obj):((w.alloc a).alloc b).heap[w.heap.size+1]?=some b:=by
 have h:=zo (w.alloc a) b
 rw[show (w.alloc a).heap.size=w.heap.size+1 by simp]at h
 exact h
theorem jG {p:Ps}{ts:List Tok}{w:World}{r:List Tok}{o b:Nat}(h:St w p ts r o b) (code pos:Nat) (name:ByteArray) (ia va ta ea:Option Addr) (tn tc en ec:Nat) :
  Calls Tryz.prog 134 #[.pointer (some ⟨p.pb,0,none⟩),.agg (scells code pos name (.pointer ia) (.pointer va) (.slice ta tn tc) (.slice ea en ec))] w fun e w' =>
   Post p ts o b w (fun (_:Unit) v _=>v=.agg (scells code pos name (.pointer ia) (.pointer va) (.slice ta tn tc) (.slice ea en ec))) (do let r2 <- Tp.want Tp.wEnd r;let r3 <- Tp.want Tp.mSemi r2;.ok ((),r3)) e w':=by
 have hpl:=zg h.c0
 simp only [scells]
 go_enter Tryz.func134,Tryz.ntmps134
 go_wp2_with fail
 have hba:∀ o1 o2,Below w.heap.size w ((w.alloc o1).alloc o2):=fun o1 o2=>(zb _ _).alloc (by simp) _
 by_cases he:tx r=Tp.wEnd
 ·refine(zE (h.below (hba _ _)) Tp.wEnd _ rfl he).mono ?_
  rintro e w1 ⟨rfl,hst1,hx1⟩
  have HE:Hid (Tp.want Tp.wEnd r=.ok (stp r)):=by unfold Hid Tp.want;rw[if_pos he]
  clear he
  have hsb1:w1.heap[w.heap.size]?=some (.cells (scells code pos name (.pointer ia) (.pointer va) (.slice ta tn tc) (.slice ea en ec)) 181 (0,0)):=(hx1.block _ (by simp;omega) (by omega)).trans ((Below.heap_alloc _ _ _ (by simp)).trans (zo _ _))
  have hrb1:w1.heap[w.heap.size+1]?=some (.cells (scells 0 0 ⟨#[]⟩ (.pointer none) (.pointer none) (.slice none 0 0) (.slice none 0 0)) 181 (0,0)):=(hx1.block _ (by simp) (by omega)).trans (yj _ _ _)
  have hext1:Ext p.pb w w1:=(Ext.below (hba _ _)).trans hx1
  clear hx1 hba
  go_wp2_with fail
  by_cases hse:tx (stp r)=Tp.mSemi
  ·refine(zE hst1 Tp.mSemi _ rfl hse).mono ?_
   rintro e w2 ⟨rfl,hst2,hx2⟩
   have HS:Hid (Tp.want Tp.mSemi (stp r)=.ok (stp (stp r))):=by unfold Hid Tp.want;rw[if_pos hse]
   clear hse hst1
   have hsb2:=(hx2.block _ (zf hsb1) (by omega)).trans hsb1
   have hrb2:=(hx2.block _ (zf hrb1) (by omega)).trans hrb1
   have hext2:=hext1.trans hx2
   clear hx2 hext1 hsb1 hrb1
   have ks:∀ i,w2.cell? ⟨w.heap.size,i,none⟩=(scells code pos name (.pointer ia) (.pointer va) (.slice ta tn tc) (.slice ea en ec))[i]?:=fun i=>za hsb2
   have kr:∀ i,w2.cell? ⟨w.heap.size+1,i,none⟩=(scells 0 0 ⟨#[]⟩ (.pointer none) (.pointer none) (.slice none 0 0) (.slice none 0 0))[i]?:=fun i=>za hrb2
   have zr:∀ i,w2.frozen? ⟨w.heap.size+1,i,none⟩=false:=fun i=>zi hrb2
   simp only [scells]at ks kr
   go_wp2_with fail
   refine bodyPost_ret (v:=.agg (scells code pos name (.pointer ia) (.pointer va) (.slice ta tn tc) (.slice ea en ec))) (by simp[results,Tryz.results134,go_sem,kr,scells]) rfl ?_
   simp only [bind,Except.bind,HE.out,HS.out]
   exact⟨_,rfl,rfl,hst2.belowB (zL w2 (w.heap.size+1) _ _ _ _ _ _ _) (by omega),hext2.trans' ((zL w2 (w.heap.size+1) _ _ _ _ _ _ _).mono (by omega))⟩
  ·refine(zM hst1 Tp.mSemi _ rfl hse).mono ?_
   rintro e w2 ⟨ht,hx2⟩
   have HS:Hid (Tp.want Tp.mSemi (stp r)=.error (3,at' (stp r))):=by unfold Hid Tp.want;rw[if_neg hse]
   clear hse
   obtain⟨ab,h1,rfl,h2,h3⟩:=ht.out
   go_wp2_with fail
   refine⟨rfl,?_⟩
   simp only [bind,Except.bind,HE.out,HS.out]
   exact zt hext1 ht hx2
 ·refine(zM (h.below (hba _ _)) Tp.wEnd _ rfl he).mono ?_
  rintro e w1 ⟨ht,hx1⟩
  have HE:Hid (Tp.want Tp.wEnd r=.error (3,at' r)):=by unfold Hid Tp.want;rw[if_neg he]
  have HX:Hid (∀ o1 o2,Ext p.pb w ((w.alloc o1).alloc o2)):=fun o1 o2=>Ext.below (hba o1 o2)
  clear he hba
  obtain⟨ab,h1,rfl,h2,h3⟩:=ht.out
  go_wp2_with fail
  refine⟨rfl,?_⟩
  simp only [bind,Except.bind,HE.out]
  exact zt (HX.out _ _) ht hx1
def StmtsC (p:Ps) (ts:List Tok) (f:Nat):Prop:=∀(w:World) (r:List Tok) (b:Nat),St w p ts r 0 b->b<=11->Tp.sx f 0 b r≠.error (99,0) ->
 Calls Tryz.prog 69 #[.pointer (some ⟨p.pb,0,none⟩)] w fun e w'=>Post p ts 0 b w (VL w.heap.size) (Tp.sx f 0 b r) e w'
def StmtC (p:Ps) (ts:List Tok) (f:Nat):Prop:=∀(w:World) (r:List Tok) (b:Nat),St w p ts r 0 b->b<=10->Tp.sx f 2 b r≠.error (99,0) ->
 Calls Tryz.prog 104 #[.pointer (some ⟨p.pb,0,none⟩)] w fun e w'=>Post p ts 0 b w (VS w.heap.size) (Tp.sx f 2 b r) e w'
def BranchC (p:Ps) (ts:List Tok) (f:Nat):Prop:=∀(w:World) (r:List Tok) (b:Nat),St w p ts r 0 b->b<=10->Tp.sx f 3 b r≠.error (99,0) ->
 Calls Tryz.prog 136 #[.pointer (some ⟨p.pb,0,none⟩)] w fun e w'=>Post p ts 0 b w (VS w.heap.size) (Tp.sx f 3 b r) e w'
def blockS (f code b:Nat) (m:List UInt8) (r:List Tok):Except Tp.Er (List S× List Tok):=do
 let (x,r1) <- Tp.ex f 0 0 0 [] (stp r)
 let r2 <- Tp.want m r1
 let (l,r3) <- Tp.sx f 0 (b+1) r2
 .ok ([⟨code,at' r,[],[],x,l,[]⟩],r3)
theorem x5 {p:Ps}{ts:List Tok}{f:Nat}(hL:LevelC p ts f) (hS:StmtsC p ts f) {w:World}{r:List Tok}{b:Nat}(h:St w p ts r 0 b) (hb:b<=10) (code:Nat) (m:List UInt8) (y:ByteArray) (hy:Hid (y=bs m)) (hn:blockS f code b m r≠.error (99,0)) :
  Calls Tryz.prog 135 #[.pointer (some ⟨p.pb,0,none⟩),.int .i64 (code:Int),.string y] w fun e w'=>Post p ts 0 b w (VS w.heap.size) (blockS f code b m r) e w':=by
 have hpl:=zg h.c0
 have hbi:(b:Int)<=10:=by omega
 have hn0:Tp.ex f 0 0 0 [] (stp r)≠.error (99,0):=by intro e;apply hn;unfold blockS;rw[e];rfl
 have hcall:=fun W (hW:St W p ts (stp r) 0 b)=>yy hL hW (by omega) hn0
 have HS:Hid (StmtsC p ts f):=hS
 have HN:Hid (blockS f code b m r≠.error (99,0)):=hn
 generalize hres:Tp.ex f 0 0 0 [] (stp r)=res at hcall
 have HR:Hid (Tp.ex f 0 0 0 [] (stp r)=res):=hres
 have HC:Hid (∀ W,St W p ts (stp r) 0 b->Calls Tryz.prog 157 #[.pointer (some ⟨p.pb,0,none⟩)] W fun e w'=>Post p ts 0 b W (VX W.heap.size) res e w'):=hcall
 clear hcall hn hn0 hL hS hres
 go_enter Tryz.func135,Tryz.ntmps135
 go_wp2_with fail
 have hba:∀(W:World) ob,Below W.heap.size W (W.alloc ob):=fun W ob=>zb _ _
 refine(yD (h.below (hba _ _))).mono ?_
 rintro e w1 ⟨rfl,hst1,hx1⟩
 have hrb1:w1.heap[w.heap.size]?=some (.cells (scells 0 0 ⟨#[]⟩ (.pointer none) (.pointer none) (.slice none 0 0) (.slice none 0 0)) 181 (0,0)):=(hx1.block _ (by simp) (by omega)).trans (zo _ _)
 have hext1:Ext p.pb w w1:=(Ext.below (hba _ _)).trans hx1
 have hsz1:=zf hrb1
 have HB:Hid (∀(W:World) ob,Below W.heap.size W (W.alloc ob)):=hba
 clear hx1 hba
 go_wp2_with fail
 refine(HC.out _ (hst1.below (HB.out _ _))).mono ?_
 intro e w2 hq
 have HX1:Hid (∀ ob,Ext p.pb w (w1.alloc ob)):=fun ob=>hext1.trans (Ext.below (HB.out _ _))
 clear hst1
 rcases res with er|⟨x,r1⟩
 ·obtain⟨ht,hx2⟩:=hq
  obtain⟨ab,h1,rfl,h2,h3⟩:=ht.out
  go_wp2_with fail
  refine⟨rfl,?_⟩
  rw[show blockS f code b m r=.error er by unfold blockS;rw[HR.out];rfl]
  exact zt (HX1.out _) ht hx2
 ·obtain⟨v,rfl,hv,hst2,hx2⟩:=hq
  obtain⟨bb,rfl⟩:=hv.ptr
  have hrb2:=(hx2.block w.heap.size (by simp;omega) (by omega)).trans ((Below.heap_alloc _ _ _ hsz1).trans hrb1)
  have hsb2:w2.heap[w1.heap.size]?=some (.cells (scells code (at' r) ⟨#[]⟩ (.pointer none) (.pointer none) (.slice none 0 0) (.slice none 0 0)) 181 (0,0)):=(hx2.block _ (by simp) (by omega)).trans (zo _ _)
  have hext2:=(HX1.out _).trans hx2
  obtain⟨sb,hsb⟩:∃ sb,sb=w1.heap.size:=⟨_,rfl⟩
  obtain⟨rb,hrb⟩:∃ rb,rb=w.heap.size:=⟨_,rfl⟩
  have hv2:VX (sb+1) x (.pointer (some ⟨bb,0,none⟩)) w2:=hv.base (by simp;omega)
  have hsw:w.heap.size<sb:=by omega
  rw[<-hsb]at hsb2 ⊢
  rw[<-hrb]at hrb2 ⊢
  have hrw:w.heap.size<=rb:=by omega
  have hrs:rb<sb:=by omega
  have hps:p.pb<rb:=by omega
  clear hsb hrb hrb1 hext1 hsz1 hv hx2 HX1
  have k4:w2.cell? ⟨sb,4,none⟩=some (.pointer none):=za hsb2
  have z4:w2.frozen? ⟨sb,4,none⟩=false:=zi hsb2
  go_wp2_with fail
  clear k4 z4
  have hb3:Below sb w2 (w2.setCell ⟨sb,4,none⟩ (.pointer (some ⟨bb,0,none⟩))):=zq (Below.refl _ _) zn 4 _
  have hst3:=hst2.belowB hb3 (by omega)
  have hext3:=hext2.trans' (hb3.mono (by omega))
  have hsb3:=zu 4 (.pointer (some ⟨bb,0,none⟩)) hsb2
  have hrb3:=(hb3.block rb hrs).trans hrb2
  have hv3:VX (sb+1) x (.pointer (some ⟨bb,0,none⟩)) (w2.setCell ⟨sb,4,none⟩ (.pointer (some ⟨bb,0,none⟩))):=VX.ext ((Ext.refl sb w2).set 4 _) (by omega) hv2
  generalize w2.setCell ⟨sb,4,none⟩ (.pointer (some ⟨bb,0,none⟩))=w3 at hb3 hst3 hext3 hsb3 hrb3 hv3 ⊢
  clear hb3 hst2 hext2 hsb2 hrb2 hv2
  by_cases hse:tx r1=m
  ·refine(zE hst3 m _ hy hse).mono ?_
   rintro e w4 ⟨rfl,hst4,hx4⟩
   have HSE:Hid (Tp.want m r1=.ok (stp r1)):=by unfold Hid Tp.want;rw[if_pos hse]
   clear hse hst3
   have hsb4:w4.heap[sb]?=some (.cells (scells code (at' r) ⟨#[]⟩ (.pointer none) (.pointer (some ⟨bb,0,none⟩)) (.slice none 0 0) (.slice none 0 0)) 181 (0,0)):=(hx4.block sb (zf hsb3) (by omega)).trans hsb3
   have hrb4:w4.heap[rb]?=some (.cells (scells 0 0 ⟨#[]⟩ (.pointer none) (.pointer none) (.slice none 0 0) (.slice none 0 0)) 181 (0,0)):=(hx4.block rb (zf hrb3) (by omega)).trans hrb3
   have hext4:=hext3.trans hx4
   have hv4:=VX.ext hx4 (by omega) hv3
   have hls4:=zf hsb4
   clear hx4 hext3 hsb3 hrb3 hv3
   have hno:Tp.sx f 0 (b+1) (stp r1)≠.error (99,0):=by
    intro e;apply HN.out;unfold blockS;simp only [HR.out,HSE.out,e,bind,Except.bind]
   have hcl:=fun W (hW:St W p ts (stp r1) 0 (b+1))=>HS.out W (stp r1) (b+1) hW (by omega) hno
   generalize hres2:Tp.sx f 0 (b+1) (stp r1)=res2 at hcl
   have HR2:Hid (Tp.sx f 0 (b+1) (stp r1)=res2):=hres2
   have HCL:Hid (∀ W,St W p ts (stp r1) 0 (b+1)->Calls Tryz.prog 69 #[.pointer (some ⟨p.pb,0,none⟩)] W fun e w'=>Post p ts 0 (b+1) W (VL W.heap.size) res2 e w'):=hcl
   clear hcl hres2 hno
   have c4:=hst4.c4
   have f4:=hst4.fz 4
   go_wp2_with fail
   clear c4 f4
   have hst5:=hst4.setBlocks (b+1) ((b:Int)+1) (by omega)
   have hext5:Ext p.pb w (w4.setCell ⟨p.pb,4,none⟩ (.int .i64 ((b:Int)+1))):=hext4.set 4 _
   have hx5:Ext p.pb w4 (w4.setCell ⟨p.pb,4,none⟩ (.int .i64 ((b:Int)+1))):=(Ext.refl _ _).set 4 _
   have hsz5:(w4.setCell ⟨p.pb,4,none⟩ (.int .i64 ((b:Int)+1))).heap.size=w4.heap.size:=by simp
   have hv5:=VX.ext hx5 (by omega) hv4
   have hsb5:=(hx5.block sb hls4 (by omega)).trans hsb4
   have hrb5:=(hx5.block rb (by omega) (by omega)).trans hrb4
   generalize w4.setCell ⟨p.pb,4,none⟩ (.int .i64 ((b:Int)+1))=w5 at hst5 hext5 hx5 hsz5 hv5 hsb5 hrb5 ⊢
   refine(HCL.out _ hst5).mono ?_
   intro e w6 hq
   clear hx5 hst4 hext4 hsb4 hrb4 hv4 hst5
   rcases res2 with er|⟨l,r3⟩
   ·obtain⟨ht,hx6⟩:=hq
    obtain⟨ab,h1,rfl,h2,h3⟩:=ht.out
    go_wp2_with fail
    refine⟨rfl,?_⟩
    rw[show blockS f code b m r=.error er by unfold blockS;simp only [HR.out,HSE.out,HR2.out,bind,Except.bind]]
    exact zt hext5 ht hx6
   ·obtain⟨v,rfl,hl,hst6,hx6⟩:=hq
    obtain⟨ao,cap,rfl⟩:=hl.shape
    have hls5:=zf hsb5
    have hsb6:=(hx6.block sb hls5 (by omega)).trans hsb5
    have hrb6:=(hx6.block rb (by omega) (by omega)).trans hrb5
    have hext6:=hext5.trans hx6
    have hv6:=VX.ext hx6 (by omega) hv5
    have hl6:VL (sb+1) l (.slice ao l.length cap) w6:=hl.base (by omega)
    clear hext5 hsb5 hrb5 hv5 hl hx6 hsz5
    have k5:w6.cell? ⟨sb,5,none⟩=some (.slice none 0 0):=za hsb6
    have z5:w6.frozen? ⟨sb,5,none⟩=false:=zi hsb6
    have c4:(w6.setCell ⟨sb,5,none⟩ (.slice ao l.length cap)).cell? ⟨p.pb,4,none⟩=some (.int .i64 ((b+1:Nat):Int)):=by
     rw[World.cell?_setCell_other w6 ⟨sb,5,none⟩ ⟨p.pb,4,none⟩ _ (by simp <;> omega)];exact hst6.c4
    have f4:(w6.setCell ⟨sb,5,none⟩ (.slice ao l.length cap)).frozen? ⟨p.pb,4,none⟩=false:=by simpa using hst6.fz 4
    go_upto_region 7 with fail
    clear k5 z5 c4 f4
    have hb7:Below sb w6 (w6.setCell ⟨sb,5,none⟩ (.slice ao l.length cap)):=zq (Below.refl _ _) zn 5 _
    have hst7:=(hst6.belowB hb7 (by omega)).setBlocks b (b:Int) rfl
    have hx7:Ext p.pb (w6.setCell ⟨sb,5,none⟩ (.slice ao l.length cap)) ((w6.setCell ⟨sb,5,none⟩ (.slice ao l.length cap)).setCell ⟨p.pb,4,none⟩ (.int .i64 (b:Int))):=(Ext.refl _ _).set 4 _
    have hxs:Ext sb w6 (w6.setCell ⟨sb,5,none⟩ (.slice ao l.length cap)):=(Ext.refl _ _).set 5 _
    have hext7:=(hext6.trans' (hb7.mono (by omega))).trans hx7
    have hsb7:=(hx7.block sb (by simpa using zf hsb6) (by omega)).trans (zu 5 (.slice ao l.length cap) hsb6)
    have hrb7:=(hx7.block rb (by simpa using zf hrb6) (by omega)).trans ((hb7.block rb hrs).trans hrb6)
    have hv7:=VX.ext hx7 (by omega) (VX.ext hxs (by omega) hv6)
    have hl7:=VL.ext hx7 (by omega) (VL.ext hxs (by omega) hl6)
    generalize (w6.setCell ⟨sb,5,none⟩ (.slice ao l.length cap)).setCell ⟨p.pb,4,none⟩ (.int .i64 (b:Int))=w7 at hst7 hx7 hext7 hsb7 hrb7 hv7 hl7 ⊢
    clear hb7 hx7 hxs hst6 hext6 hsb6 hrb6 hv6 hl6
    have ks:∀ i,w7.cell? ⟨sb,i,none⟩=(scells code (at' r) ⟨#[]⟩ (.pointer none) (.pointer (some ⟨bb,0,none⟩)) (.slice ao l.length cap) (.slice none 0 0))[i]?:=fun i=>za hsb7
    have kr:∀ i,w7.cell? ⟨rb,i,none⟩=(scells 0 0 ⟨#[]⟩ (.pointer none) (.pointer none) (.slice none 0 0) (.slice none 0 0))[i]?:=fun i=>za hrb7
    have zr:∀ i,w7.frozen? ⟨rb,i,none⟩=false:=fun i=>zi hrb7
    simp only [scells]at ks kr
    go_wp2_with fail
    refine bodyPost_ret (v:=.agg (scells code (at' r) (bs []) (.pointer none) (.pointer (some ⟨bb,0,none⟩)) (.slice ao l.length cap) (.slice none 0 0))) (by simp[results,Tryz.results135,go_sem,kr,scells,bs]) rfl ?_
    rw[show blockS f code b m r=.ok ([⟨code,at' r,[],[],x,l,[]⟩],r3) by unfold blockS;simp only [HR.out,HSE.out,HR2.out,bind,Except.bind]]
    refine⟨_,rfl,VS.node (Or.inl ⟨rfl,rfl⟩) (Or.inr ?_) (Or.inr ?_) (Or.inl ⟨rfl,rfl⟩),?_,?_⟩
    ·exact VX.base (VX.ext (b:=rb) (yn w7 rb _ _ _ _ _ _ _) (by omega) hv7) (by omega)
    ·exact VL.base (VL.ext (b:=rb) (yn w7 rb _ _ _ _ _ _ _) (by omega) hl7) (by omega)
    ·exact hst7.belowB (zL w7 rb _ _ _ _ _ _ _) (by omega)
    ·exact hext7.trans' ((zL w7 rb _ _ _ _ _ _ _).mono hrw)
  ·refine(zM hst3 m _ hy hse).mono ?_
   rintro e w4 ⟨ht,hx4⟩
   have HSE:Hid (Tp.want m r1=.error (3,at' r1)):=by unfold Hid Tp.want;rw[if_neg hse]
   clear hse
   obtain⟨ab,h1,rfl,h2,h3⟩:=ht.out
   go_wp2_with fail
   refine⟨rfl,?_⟩
   rw[show blockS f code b m r=.error (3,at' r1) by unfold blockS;simp only [HR.out,HSE.out,bind,Except.bind]]
   exact zt hext3 ht hx4
def VP (B:Nat) (l:List X) (v:Value) (w:World):Prop:=∃ ls:List Value,v=ls.headD (.pointer none)/\RepL w (fun b=>B<=b) l ls/\ls.length<=1
def VO (B:Nat) (l:List S) (v:Value) (w:World):Prop:=∃ cs,RepS w (fun b=>B<=b) l cs/\OwnS w (fun b=>B<=b) v l.length cs
theorem VP.ext {w w':World}{B b:Nat}(k:Ext b w w') (hb:b<B) {l:List X}{v:Value}(h:VP B l v w):VP B l v w':=by
 obtain⟨ls,h1,h2,h3⟩:=h;exact⟨ls,h1,RepL.ext k (by omega) h2,h3⟩
theorem VP.base {w:World}{B B':Nat}{l:List X}{v:Value}(h:VP B l v w) (hB:B'<=B):VP B' l v w:=by
 obtain⟨ls,h1,h2,h3⟩:=h;exact⟨ls,h1,RepL.mono (fun _ hi _=>⟨rfl,Nat.le_trans hB hi⟩) _ _ _ zn h2,h3⟩
theorem VO.ext {w w':World}{B b:Nat}(k:Ext b w w') (hb:b<B) {l:List S}{v:Value}(h:VO B l v w):VO B l v w':=by
 obtain⟨cs,h1,h2⟩:=h
 have hw:∀ i,B<=i->i<w.heap.size->w'.heap[i]?=w.heap[i]?/\B<=i:=fun i hi hl=>⟨k.block i hl (by omega),hi⟩
 exact⟨cs,h1.mono' hw,h2.mono hw⟩
theorem VO.base {w:World}{B B':Nat}{l:List S}{v:Value}(h:VO B l v w) (hB:B'<=B):VO B' l v w:=by
 obtain⟨cs,h1,h2⟩:=h
 have hw:∀ i,B<=i->i<w.heap.size->w.heap[i]?=w.heap[i]?/\B'<=i:=fun i hi _=>⟨rfl,Nat.le_trans hB hi⟩
 exact⟨cs,h1.mono' hw,h2.mono hw⟩
theorem VP.ptr {B:Nat}{l:List X}{v:Value}{w:World}(h:VP B l v w):∃ ia,v=.pointer ia:=by
 obtain⟨ls,h1,h2,h3⟩:=h
 cases l with
 | nil=>rw[RepL]at h2;subst h2;exact⟨none,h1⟩
 | cons x xs =>
  obtain⟨code,pos,nn,mod,name,op,left,right,args⟩:=x
  rw[RepL]at h2
  obtain⟨b,av,_,_,_,vs',q,_⟩:=h2
  subst q
  exact⟨_,h1⟩
theorem VO.shape {B:Nat}{l:List S}{v:Value}{w:World}(h:VO B l v w):∃ ta tc,v=.slice ta l.length tc:=by
 obtain⟨cs,_,h2⟩:=h
 rcases h2 with⟨rfl,h0⟩|⟨g,cap,cur,rfl,_⟩
 ·rw[h0];exact⟨_,_,rfl⟩
 ·exact⟨_,_,rfl⟩
theorem VS.mk' {w:World}{B code pos:Nat}{name:List UInt8}{index value:List X}{thn els:List S}{iv vv tv ev:Value}(hi:VP B index iv w) (hv:VP B value vv w) (ht:VO B thn tv w) (he:VO B els ev w) :
  VS B [⟨code,pos,name,index,value,thn,els⟩] (.agg (scells code pos (bs name) iv vv tv ev)) w:=by
 obtain⟨ia,rfl⟩:=hi.ptr
 obtain⟨va,rfl⟩:=hv.ptr
 obtain⟨ta,tc,rfl⟩:=ht.shape
 obtain⟨ea,ec,rfl⟩:=he.shape
 obtain⟨ls,l0,l1,l2⟩:=hi
 obtain⟨vs,v0,v1,v2⟩:=hv
 obtain⟨tcs,t1,t2⟩:=ht
 obtain⟨ecs,e1,e2⟩:=he
 refine⟨code,pos,name,ia,va,ta,ea,_,tc,_,ec,rfl,?_⟩
 rw[RepS]
 exact⟨_,_,ls,vs,tcs,ecs,[],by rw[<-l0,<-v0];simp[scells],l1,l2,v1,v2,t1,t2,e1,e2,by rw[RepS]⟩
theorem VS.inv {w:World}{B code pos:Nat}{name:List UInt8}{index value:List X}{thn els:List S}{v:Value}(h:VS B [⟨code,pos,name,index,value,thn,els⟩] v w) :
  ∃ ia va ta tc ea ec,v=.agg (scells code pos (bs name) (.pointer ia) (.pointer va) (.slice ta thn.length tc) (.slice ea els.length ec))/\VP B index (.pointer ia) w/\VP B value (.pointer va) w/\VO B thn (.slice ta thn.length tc) w/\VO B els (.slice ea els.length ec) w:=by
 obtain⟨c,p,n,ia,va,ta,ea,tn,tc,en,ec,h1,h2⟩:=h
 rw[RepS]at h2
 obtain⟨tv,ev,ls,vs,tcs,ecs,cs',q,r1,r2,r3,r4,r5,r6,r7,r8,r9⟩:=h2
 simp only [scells,List.cons_append,List.nil_append,List.cons.injEq]at q
 obtain⟨q0,q1,q2,q3,q4,q5,q6,q7⟩:=q
 subst q5;subst q6
 have ho1:VO B thn (.slice ta tn tc) w:=⟨tcs,r5,r6⟩
 have ho2:VO B els (.slice ea en ec) w:=⟨ecs,r7,r8⟩
 have k1:tn=thn.length:=by obtain⟨_,_,e⟩:=ho1.shape;cases e;rfl
 have k2:en=els.length:=by obtain⟨_,_,e⟩:=ho2.shape;cases e;rfl
 subst k1;subst k2
 refine⟨ia,va,ta,tc,ea,ec,?_,⟨ls,q3,r1,r2⟩,⟨vs,q4,r3,r4⟩,ho1,ho2⟩
 rw[h1]
 simp only [scells,q0,q1,q2]
theorem VL.vo {w:World}{B:Nat}{l:List S}{v:Value}(h:VL B l v w):VO B l v w:=h.own
theorem VO.nil (B:Nat) (w:World):VO B [] (.slice none 0 0) w:=⟨[],by rw[RepS],Or.inl ⟨rfl,rfl⟩⟩
theorem VO.one {w:World}{B code pos:Nat}{name:List UInt8}{s:List S}{ia va ta ea:Option Addr}{tn tc en ec:Nat}(h:VS B s (.agg (scells code pos (bs name) (.pointer ia) (.pointer va) (.slice ta tn tc) (.slice ea en ec))) w) (hB:B<=w.heap.size) (hs:s.length=1) :
  VO B s (.slice (some ⟨w.heap.size,0,none⟩) 1 1) (w.alloc (.cells (scells code pos (bs name) (.pointer ia) (.pointer va) (.slice ta tn tc) (.slice ea en ec)) 181)):=by
 obtain⟨c',p',n',ia',va',ta',ea',tn',tc',en',ec',h1,h2⟩:=h
 rw[<-Value.agg.inj h1]at h2
 refine⟨_,h2.mono' (fun i hi hl=>⟨Below.heap_alloc _ _ _ hl,hi⟩),?_⟩
 rw[hs]
 exact Or.inr ⟨w.heap.size,1,_,rfl,hB,zo _ _,Nat.le_refl _,by unfold maxLen;omega,rfl,rfl⟩
def withElse (e:List S) (l:List S):List S:=l.map fun s=>⟨s.code,s.pos,s.name,s.index,s.value,s.thn,e⟩
def branchT (f b:Nat) (s:List S) (r3:List Tok):Except Tp.Er (List S× List Tok) :=
 if tx r3=Tp.wElsif then do
  let (e,r4) <- Tp.sx f 3 (b+1) r3
  .ok (withElse e s,r4)
 else if tx r3=Tp.wElse then do
  let (e,r4) <- Tp.sx f 0 (b+1) (stp r3)
  .ok (withElse e s,r4)
 else .ok (s,r3)
theorem uq {f b:Nat}{r:List Tok}{er:Tp.Er}(h:blockS f 2 b Tp.wThen r=.error er):Tp.sx (f+1) 3 b r=.error er:=by
 unfold blockS at h
 rw[Tp.sx]
 simp only [show ¬(3=0) by omega,show ¬(3=1) by omega,show ¬(3=2) by omega,if_false,bind,Except.bind]at h ⊢
 cases h1:Tp.ex f 0 0 0 [] (stp r) with
 | error e=>rw[h1]at h;exact h
 | ok v =>
  rw[h1]at h;simp only at h ⊢
  cases h2:Tp.want Tp.wThen v.2 with
  | error e=>rw[h2]at h;exact h
  | ok r2 =>
   rw[h2]at h;simp only at h ⊢
   cases h3:Tp.sx f 0 (b+1) r2 with
   | error e=>rw[h3]at h;exact h
   | ok u=>rw[h3]at h;cases h
theorem sx3_ok {f b:Nat}{r r3:List Tok}{s:List S}(h:blockS f 2 b Tp.wThen r=.ok (s,r3)):Tp.sx (f+1) 3 b r=branchT f b s r3/\(∃ x l,s=[⟨2,at' r,[],[],x,l,[]⟩])/\b+1<=10:=by
 unfold blockS at h
 rw[Tp.sx]
 simp only [show ¬(3=0) by omega,show ¬(3=1) by omega,show ¬(3=2) by omega,if_false,bind,Except.bind]at h ⊢
 cases h1:Tp.ex f 0 0 0 [] (stp r) with
 | error e=>rw[h1]at h;cases h
 | ok v =>
  rw[h1]at h;simp only at h ⊢
  cases h2:Tp.want Tp.wThen v.2 with
  | error e=>rw[h2]at h;cases h
  | ok r2 =>
   rw[h2]at h;simp only at h ⊢
   cases h3:Tp.sx f 0 (b+1) r2 with
   | error e=>rw[h3]at h;cases h
   | ok u =>
    rw[h3]at h;simp only [Except.ok.injEq,Prod.mk.injEq]at h
    obtain⟨rfl,rfl⟩:=h
    refine⟨?_,⟨v.1,u.1,rfl⟩,?_⟩
    ·unfold branchT withElse
     by_cases c1:tx u.2=Tp.wElsif
     ·simp only [c1,if_true,bind,Except.bind];cases Tp.sx f 3 (b+1) u.2 <;> rfl
     ·by_cases c2:tx u.2=Tp.wElse
      ·simp only [c2,if_true,bind,Except.bind,show ¬(Tp.wElse=Tp.wElsif) by decide,if_false];cases Tp.sx f 0 (b+1) (stp u.2) <;> rfl
      ·simp only [c1,c2,if_false]
    ·cases f with
     | zero=>cases h3
     | succ k =>
      rw[Tp.sx]at h3
      by_cases hb:10<b+1
      ·simp[hb]at h3
      ·omega
end Go.Proofs.YtibncofnnlbmcaaGreatDoor
