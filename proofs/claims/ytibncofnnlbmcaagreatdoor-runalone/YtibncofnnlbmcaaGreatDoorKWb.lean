import Derived.Test.YtibncofnnlbmcaaGreatDoorKWa
import Derived.Handy
import Derived.Deep.RegionWith
import Derived.RegionDies
import Derived.Deep.DeepCutAuto
import Derived.ArgAppend
set_option maxRecDepth 100000
set_option maxHeartbeats 4000000
namespace Go.Proofs.YtibncofnnlbmcaaGreatDoor
open Go.RowKit
open Tp (Tok hd tx at' stp)
theorem Lv.below {w w':World}{B:Nat}(h:Lv w) (k:Below B w w') (hB:3<B):Lv w' :=
 ⟨Nat.lt_of_lt_of_le h.1 k.size,fun i hi=>(k.cell (p:=⟨3,i,none⟩) hB).trans (h.2 i hi)⟩
def lvAgg:Value:=.agg levs.toArray
theorem yX {P:Program}{w:World}{ops:Array Oper}{rest:List Oper}{o:Oper}{a:Act}{Q:Exit->Act->World->Prop}(hgd:o.guard=none) (t:TypeId) (x:Operand) (ho:o.op=.load t x) (v:Value)
  (hrun:(Instr.loadAt t (a.eval x)).run P w=.ok v w) (h:wpList P ops Q rest (a.put o.dst v) w):wpList P ops Q (o :: rest) a w:=by
 refine wpList_plain hgd fun K hK=>?_
 unfold Oper.wp
 simp[execOp,ho,hrun,Result.andThen]
 exact hK _ _ h
theorem xq {P:Program}{w:World}(a:Addr) (vs:List Value):∀(n i:Nat) (acc:Array Value),(∀ j,i<=j->j<i+n->w.cell? (a.add j)=some (vs.getD j undef))->i+n<=vs.length ->
  (loadCellsFrom a i n acc).run P w=.ok (acc++((vs.drop i).take n).toArray) w:=by
 intro n
 induction n with
 | zero=>intro i acc _ _;simp[loadCellsFrom]
 | succ n ih =>
  intro i acc h hl
  have h0:=h i zn (by omega)
  have hd:vs.drop i=vs.getD i undef :: vs.drop (i+1):=by
   rw[List.drop_eq_getElem_cons (by omega)]
   simp[List.getD_eq_getElem?_getD,List.getElem?_eq_getElem (show i<vs.length by omega)]
  simp only [loadCellsFrom,Sem.run_bind,load,Sem.run,h0,Result.andThen]
  rw[ih (i+1) _ (fun j h1 h2=>h j (by omega) (by omega)) (by omega),hd]
  simp
theorem lev_load {w:World}(h:Lv w):(Instr.loadAt 285 (.pointer (some ⟨3,0,none⟩))).run Tryz.prog w=.ok lvAgg w:=by
 have hc:=xq (P:=Tryz.prog) (w:=w) ⟨3,0,none⟩ levs 26 0 #[] (fun j _ hj=>by have hq:=h.2 j (by omega);by_cases hj0:j=0 <;> simpa[Addr.add,hj0] using hq) (by decide)
 have h1:(isAgg 285).run Tryz.prog w=.ok true w:=by kernel_rfl
 have h2:(sizeOf 285).run Tryz.prog w=.ok 26 w:=by kernel_rfl
 simp only [Instr.loadAt,Instr.sureAddr,loadVar,loadCells,Sem.run_bind,Result.andThen]
 simp[h1,h2,hc,lvAgg,levs]
theorem lev_idx0 (w:World):(Instr.index 285 lvAgg (.int .i64 0)).run Tryz.prog w=.ok (.agg #[.string ⟨#[111,114]⟩,.int .i64 0]) w:=by kernel_rfl
theorem lev_idx1 (w:World):(Instr.index 285 lvAgg (.int .i64 1)).run Tryz.prog w=.ok (.agg #[.string ⟨#[97,110,100]⟩,.int .i64 1]) w:=by kernel_rfl
theorem lev_idx2 (w:World):(Instr.index 285 lvAgg (.int .i64 2)).run Tryz.prog w=.ok (.agg #[.string ⟨#[61]⟩,.int .i64 2]) w:=by kernel_rfl
theorem lev_idx3 (w:World):(Instr.index 285 lvAgg (.int .i64 3)).run Tryz.prog w=.ok (.agg #[.string ⟨#[35]⟩,.int .i64 2]) w:=by kernel_rfl
theorem lev_idx4 (w:World):(Instr.index 285 lvAgg (.int .i64 4)).run Tryz.prog w=.ok (.agg #[.string ⟨#[60]⟩,.int .i64 2]) w:=by kernel_rfl
theorem lev_idx5 (w:World):(Instr.index 285 lvAgg (.int .i64 5)).run Tryz.prog w=.ok (.agg #[.string ⟨#[60,61]⟩,.int .i64 2]) w:=by kernel_rfl
theorem lev_idx6 (w:World):(Instr.index 285 lvAgg (.int .i64 6)).run Tryz.prog w=.ok (.agg #[.string ⟨#[62]⟩,.int .i64 2]) w:=by kernel_rfl
theorem lev_idx7 (w:World):(Instr.index 285 lvAgg (.int .i64 7)).run Tryz.prog w=.ok (.agg #[.string ⟨#[62,61]⟩,.int .i64 2]) w:=by kernel_rfl
theorem lev_idx8 (w:World):(Instr.index 285 lvAgg (.int .i64 8)).run Tryz.prog w=.ok (.agg #[.string ⟨#[43]⟩,.int .i64 3]) w:=by kernel_rfl
theorem lev_idx9 (w:World):(Instr.index 285 lvAgg (.int .i64 9)).run Tryz.prog w=.ok (.agg #[.string ⟨#[45]⟩,.int .i64 3]) w:=by kernel_rfl
theorem lev_idx10 (w:World):(Instr.index 285 lvAgg (.int .i64 10)).run Tryz.prog w=.ok (.agg #[.string ⟨#[42]⟩,.int .i64 4]) w:=by kernel_rfl
theorem lev_idx11 (w:World):(Instr.index 285 lvAgg (.int .i64 11)).run Tryz.prog w=.ok (.agg #[.string ⟨#[100,105,118]⟩,.int .i64 4]) w:=by kernel_rfl
theorem lev_idx12 (w:World):(Instr.index 285 lvAgg (.int .i64 12)).run Tryz.prog w=.ok (.agg #[.string ⟨#[109,111,100]⟩,.int .i64 4]) w:=by kernel_rfl
theorem lvl_none (op:List UInt8) (h0:([111,114] == op)=false) (h1:([97,110,100] == op)=false) (h2:([61] == op)=false) (h3:([35] == op)=false) (h4:([60] == op)=false) (h5:([60,61] == op)=false) (h6:([62] == op)=false) (h7:([62,61] == op)=false) (h8:([43] == op)=false) (h9:([45] == op)=false) (h10:([42] == op)=false) (h11:([100,105,118] == op)=false) (h12:([109,111,100] == op)=false):Tp.lvl op=5:=by
 have k:∀ l:List UInt8,(l == op)=false->op≠l:=fun l h e=>by subst e;simp at h
 have g0:=k _ h0;have g1:=k _ h1;have g2:=k _ h2;have g3:=k _ h3;have g4:=k _ h4;have g5:=k _ h5;have g6:=k _ h6;have g7:=k _ h7;have g8:=k _ h8;have g9:=k _ h9;have g10:=k _ h10;have g11:=k _ h11;have g12:=k _ h12
 unfold Tp.lvl
 simp only [Tp.wOr,Tp.wAnd,Tp.mEq,Tp.mNe,Tp.mLt,Tp.mLe,Tp.mGt,Tp.mGe,Tp.mPlus,Tp.mMinus,Tp.mStar,Tp.wDiv,Tp.wMod,g0,g1,g2,g3,g4,g5,g6,g7,g8,g9,g10,g11,g12,or_self,if_false]
theorem uK (w:World) (op:List UInt8) (hl:Lv w) :
  Calls Tryz.prog 166 #[.string (bs op)] w fun e w'=>e=.returned (.int .i64 (Tp.lvl op:Int))/\Below w.heap.size w w':=by
 have i0:=lev_idx0;have i1:=lev_idx1;have i2:=lev_idx2;have i3:=lev_idx3;have i4:=lev_idx4;have i5:=lev_idx5;have i6:=lev_idx6
 have i7:=lev_idx7;have i8:=lev_idx8;have i9:=lev_idx9;have i10:=lev_idx10;have i11:=lev_idx11;have i12:=lev_idx12
 have hop:=zj op
 go_enter Tryz.func166,Tryz.ntmps166
 go_wp2_with (refine yX rfl 285 (.global 3) rfl lvAgg (lev_load hl) ?_)
 refine wp_loop_rounds 14 ?_
 rw[rounds_succ]
 go_wp2
 ·go_ret
  have hq:=eq_of_beq ‹([111,114] == op)=true›
  exact⟨by rw[<-hq];rfl,by go_grown⟩
 rw[rounds_succ]
 go_wp2
 ·go_ret
  have hq:=eq_of_beq ‹([97,110,100] == op)=true›
  exact⟨by rw[<-hq];rfl,by go_grown⟩
 rw[rounds_succ]
 go_wp2
 ·go_ret
  have hq:=eq_of_beq ‹([61] == op)=true›
  exact⟨by rw[<-hq];rfl,by go_grown⟩
 rw[rounds_succ]
 go_wp2
 ·go_ret
  have hq:=eq_of_beq ‹([35] == op)=true›
  exact⟨by rw[<-hq];rfl,by go_grown⟩
 rw[rounds_succ]
 go_wp2
 ·go_ret
  have hq:=eq_of_beq ‹([60] == op)=true›
  exact⟨by rw[<-hq];rfl,by go_grown⟩
 rw[rounds_succ]
 go_wp2
 ·go_ret
  have hq:=eq_of_beq ‹([60,61] == op)=true›
  exact⟨by rw[<-hq];rfl,by go_grown⟩
 rw[rounds_succ]
 go_wp2
 ·go_ret
  have hq:=eq_of_beq ‹([62] == op)=true›
  exact⟨by rw[<-hq];rfl,by go_grown⟩
 rw[rounds_succ]
 go_wp2
 ·go_ret
  have hq:=eq_of_beq ‹([62,61] == op)=true›
  exact⟨by rw[<-hq];rfl,by go_grown⟩
 rw[rounds_succ]
 go_wp2
 ·go_ret
  have hq:=eq_of_beq ‹([43] == op)=true›
  exact⟨by rw[<-hq];rfl,by go_grown⟩
 rw[rounds_succ]
 go_wp2
 ·go_ret
  have hq:=eq_of_beq ‹([45] == op)=true›
  exact⟨by rw[<-hq];rfl,by go_grown⟩
 rw[rounds_succ]
 go_wp2
 ·go_ret
  have hq:=eq_of_beq ‹([42] == op)=true›
  exact⟨by rw[<-hq];rfl,by go_grown⟩
 rw[rounds_succ]
 go_wp2
 ·go_ret
  have hq:=eq_of_beq ‹([100,105,118] == op)=true›
  exact⟨by rw[<-hq];rfl,by go_grown⟩
 rw[rounds_succ]
 go_wp2
 ·go_ret
  have hq:=eq_of_beq ‹([109,111,100] == op)=true›
  exact⟨by rw[<-hq];rfl,by go_grown⟩
 rw[rounds_succ]
 go_wp2
 go_ret
 have hq:=lvl_none op ‹_› ‹_› ‹_› ‹_› ‹_› ‹_› ‹_› ‹_› ‹_› ‹_› ‹_› ‹_› ‹_›
 exact⟨by rw[hq];rfl,by go_grown⟩
end Go.Proofs.YtibncofnnlbmcaaGreatDoor
namespace Go.Proofs.YtibncofnnlbmcaaGreatDoor
open Go.RowKit
open Tp (Tok hd tx at' stp X)
def RepL (w:World) (D:Nat->Prop):List X->List Value->Prop
 | [],vs=>vs=[]
 | ⟨code,pos,n,mod,name,op,left,right,args⟩ :: xs,vs=>∃(b:Nat) (av:Value) (ls rs gs vs':List Value),
   vs=.pointer (some ⟨b,0,none⟩) :: vs'/\D b /\
   w.heap[b]?=some (.cells #[.int .i64 (code:Int),.int .i64 (pos:Int),.int .i64 (n:Int),.string (bs mod),.string (bs name),.string (bs op),ls.headD (.pointer none),rs.headD (.pointer none),av] 216 (0,0)) /\
   RepL w D left ls/\ls.length<=1/\RepL w D right rs/\rs.length<=1/\RepL w D args gs/\(gs=[]/\av=.slice none 0 0\/∃ g cap cur,av=.slice (some ⟨g,0,none⟩) gs.length cap/\D g/\w.heap[g]?=some (.cells cur 179 (0,0))/\gs.length<=cap/\cap<=maxLen/\cur.size=cap/\cur.toList.take gs.length=gs) /\
   RepL w D xs vs'
theorem RepL.mono {w w':World}{D D':Nat->Prop}(hw:∀ b,D b->b<w.heap.size->w'.heap[b]?=w.heap[b]?/\D' b):∀(n:Nat) (l:List X) (vs:List Value),SizeOf.sizeOf l<=n->RepL w D l vs->RepL w' D' l vs:=by
 intro n
 induction n with
 | zero=>intro l vs hl;cases l <;> simp at hl <;> omega
 | succ n ih =>
  intro l vs hl h
  cases l with
  | nil=>rw[RepL]at h ⊢;exact h
  | cons x xs =>
   obtain⟨code,pos,nn,mod,name,op,left,right,args⟩:=x
   rw[RepL]at h ⊢
   simp at hl
   obtain⟨b,av,ls,rs,gs,vs',h1,h2,h3,h4,h5,h6,h7,h8,h9,h10⟩:=h
   have lt:∀ {k:Nat} {o:Obj},w.heap[k]?=some o->k<w.heap.size:=fun hk=>by rw[Array.getElem?_eq_some_iff]at hk;exact hk.1
   obtain⟨e1,e2⟩:=hw b h2 (lt h3)
   refine⟨b,av,ls,rs,gs,vs',h1,e2,e1.trans h3,ih _ _ (by omega) h4,h5,ih _ _ (by omega) h6,h7,ih _ _ (by omega) h8,?_,ih _ _ (by omega) h10⟩
   rcases h9 with h9|⟨g,cap,cur,g1,g2,g3,g4⟩
   ·exact Or.inl h9
   ·obtain⟨e3,e4⟩:=hw g g2 (lt g3)
    exact Or.inr ⟨g,cap,cur,g1,e4,e3.trans g3,g4⟩
theorem RepL.len {w:World}{D:Nat->Prop}:∀(l:List X) (vs:List Value),RepL w D l vs->vs.length=l.length:=by
 intro l
 induction l with
 | nil=>intro vs h;rw[RepL]at h;simp[h]
 | cons x xs ih =>
  intro vs h
  obtain⟨code,pos,nn,mod,name,op,left,right,args⟩:=x
  rw[RepL]at h
  obtain⟨b,av,ls,rs,gs,vs',h1,h2,h3,h4,h5,h6,h7,h8,h9,h10⟩:=h
  subst h1
  simp[ih _ h10]
theorem RepL.app {w:World}{D:Nat->Prop}:∀(l m:List X) (vs us:List Value),RepL w D l vs->RepL w D m us->RepL w D (l++m) (vs++us):=by
 intro l
 induction l with
 | nil=>intro m vs us h k;rw[RepL]at h;subst h;exact k
 | cons x xs ih =>
  intro m vs us h k
  obtain⟨code,pos,nn,mod,name,op,left,right,args⟩:=x
  rw[RepL]at h
  obtain⟨b,av,ls,rs,gs,vs',h1,h2,h3,h4,h5,h6,h7,h8,h9,h10⟩:=h
  subst h1
  rw[List.cons_append,List.cons_append,RepL]
  exact⟨b,av,ls,rs,gs,vs'++us,rfl,h2,h3,h4,h5,h6,h7,h8,h9,ih m vs' us h10 k⟩
def VX (B:Nat) (l:List X) (v:Value) (w:World):Prop:=RepL w (fun b=>B<=b) l [v]
theorem RepL.ext {w w':World}{D:Nat->Prop}{b:Nat}(k:Ext b w w') (hb:¬D b) {l:List X}{vs:List Value}(h:RepL w D l vs):RepL w' D l vs :=
 RepL.mono (fun i hi hl=>⟨k.block i hl (fun e=>hb (e ▸ hi)),hi⟩) (SizeOf.sizeOf l) l vs zn h
theorem VX.ext {w w':World}{B b:Nat}(k:Ext b w w') (hb:b<B) {l:List X}{v:Value}(h:VX B l v w):VX B l v w':=RepL.ext k (by omega) h
theorem VX.base {w:World}{B B':Nat}{l:List X}{v:Value}(h:VX B l v w) (hB:B'<=B):VX B' l v w :=
 RepL.mono (fun _ hi _=>⟨rfl,Nat.le_trans hB hi⟩) (SizeOf.sizeOf l) l [v] zn h
theorem St.setOnes {w:World}{p:Ps}{ts r:List Tok}{o b:Nat}(h:St w p ts r o b) (o':Nat) (z:Int) (hz:z=o'):St (w.setCell ⟨p.pb,3,none⟩ (.int .i64 z)) p ts r o' b:=by
 subst hz
 have e:∀ j v,j≠3->w.cell? ⟨p.pb,j,none⟩=some v->(w.setCell ⟨p.pb,3,none⟩ (.int .i64 (o':Int))).cell? ⟨p.pb,j,none⟩=some v:=fun j v hj hv=>by
  rw[World.cell?_setCell_other w ⟨p.pb,3,none⟩ ⟨p.pb,j,none⟩ _ (by simp <;> omega)];exact hv
 exact⟨e 0 _ (by omega) h.c0,e 1 _ (by omega) h.c1,e 2 _ (by omega) h.c2,World.cell?_setCell_same _ _ _ h.c3,e 4 _ (by omega) h.c4,fun j=>by simpa using h.fz j,
  (Below.heap_setCell _ _ _ _ (by have:=h.apart.2;simp;omega)).trans h.kept,fun i t ht=>(h.toks i t ht).ext (b:=p.pb) ((Ext.refl _ _).set 3 _) (by have:=h.apart.1;omega),h.suf,h.ne,h.len,h.last,h.apart,h.dig,h.tl,⟨by simpa using h.lv.1,fun i hi=>by rw[World.cell?_setCell_other w ⟨p.pb,3,none⟩ ⟨3,i,none⟩ _ (by have:=h.glt;simp <;> omega)];exact h.lv.2 i hi⟩,h.glt⟩
theorem kq {w:World}{p:Ps}{ts r:List Tok}{o b:Nat}(h:St w p ts r o b) (ho:o<=1000) (res:Except Tp.Er (List X× List Tok))
  (hF:∀ w1,St w1 p ts r (o+1) b->w1.heap.size=w.heap.size->Ext p.pb w w1->Calls Tryz.prog 157 #[.pointer (some ⟨p.pb,0,none⟩)] w1 fun e w'=>Post p ts (o+1) b w1 (VX w1.heap.size) res e w') :
  Calls Tryz.prog 190 #[.pointer (some ⟨p.pb,0,none⟩),.func (.func 157) #[.pointer (some ⟨p.pb,0,none⟩)] #[]] w fun e w'=>Post p ts o b w (VX w.heap.size) res e w':=by
 have hpl:=zg h.c0
 have c3:=h.c3
 have f3:=h.fz 3
 have ho':(o:Int)<=1000:=by omega
 have HF:Hid (∀ w1,St w1 p ts r (o+1) b->w1.heap.size=w.heap.size->Ext p.pb w w1->Calls Tryz.prog 157 #[.pointer (some ⟨p.pb,0,none⟩)] w1 fun e w'=>Post p ts (o+1) b w1 (VX w1.heap.size) res e w'):=hF
 clear hF
 go_enter Tryz.func190,Tryz.ntmps190
 go_wp2_with fail
 refine(HF.out _ (h.setOnes (o+1) _ (by omega)) (by simp) ((Ext.refl _ _).set 3 _)).mono ?_
 intro e w2 hq
 have hx1:Ext p.pb w (w.setCell ⟨p.pb,3,none⟩ (.int .i64 ((o:Int)+1))):=(Ext.refl _ _).set 3 _
 have HX1:Hid (Ext p.pb w (w.setCell ⟨p.pb,3,none⟩ (.int .i64 ((o:Int)+1)))):=hx1
 clear hx1 c3 f3
 rcases res with er|⟨x,r1⟩
 ·obtain⟨ht,hx⟩:=hq
  obtain⟨ab,h1,rfl,h2,h3⟩:=ht.out
  go_wp2_with fail
  exact⟨rfl,zt HX1.out ht hx⟩
 ·obtain⟨v,rfl,hv,hst,hx⟩:=hq
  have c3:=hst.c3
  have f3:=hst.fz 3
  go_wp2_with fail
  go_ret
  refine⟨_,rfl,?_,hst.setOnes o _ (by omega),(HX1.out.trans hx).set 3 _⟩
  refine VX.ext ((Ext.refl _ _).set 3 _) hpl ?_
  simpa using hv
theorem jS {w:World}{p:Ps}{ts r:List Tok}{o b:Nat}(h:St w p ts r o b) (ho:o<=1000) (res:Except Tp.Er (List X× List Tok))
  (hF:∀ w1,St w1 p ts r (o+1) b->w1.heap.size=w.heap.size->Ext p.pb w w1->Calls Tryz.prog 207 #[.pointer (some ⟨p.pb,0,none⟩)] w1 fun e w'=>Post p ts (o+1) b w1 (VX w1.heap.size) res e w') :
  Calls Tryz.prog 190 #[.pointer (some ⟨p.pb,0,none⟩),.func (.func 207) #[.pointer (some ⟨p.pb,0,none⟩)] #[]] w fun e w'=>Post p ts o b w (VX w.heap.size) res e w':=by
 have hpl:=zg h.c0
 have c3:=h.c3
 have f3:=h.fz 3
 have ho':(o:Int)<=1000:=by omega
 have HF:Hid (∀ w1,St w1 p ts r (o+1) b->w1.heap.size=w.heap.size->Ext p.pb w w1->Calls Tryz.prog 207 #[.pointer (some ⟨p.pb,0,none⟩)] w1 fun e w'=>Post p ts (o+1) b w1 (VX w1.heap.size) res e w'):=hF
 clear hF
 go_enter Tryz.func190,Tryz.ntmps190
 go_wp2_with fail
 refine(HF.out _ (h.setOnes (o+1) _ (by omega)) (by simp) ((Ext.refl _ _).set 3 _)).mono ?_
 intro e w2 hq
 have hx1:Ext p.pb w (w.setCell ⟨p.pb,3,none⟩ (.int .i64 ((o:Int)+1))):=(Ext.refl _ _).set 3 _
 have HX1:Hid (Ext p.pb w (w.setCell ⟨p.pb,3,none⟩ (.int .i64 ((o:Int)+1)))):=hx1
 clear hx1 c3 f3
 rcases res with er|⟨x,r1⟩
 ·obtain⟨ht,hx⟩:=hq
  obtain⟨ab,h1,rfl,h2,h3⟩:=ht.out
  go_wp2_with fail
  exact⟨rfl,zt HX1.out ht hx⟩
 ·obtain⟨v,rfl,hv,hst,hx⟩:=hq
  have c3:=hst.c3
  have f3:=hst.fz 3
  go_wp2_with fail
  go_ret
  refine⟨_,rfl,?_,hst.setOnes o _ (by omega),(HX1.out.trans hx).set 3 _⟩
  refine VX.ext ((Ext.refl _ _).set 3 _) hpl ?_
  simpa using hv
theorem za {w:World}{b i:Nat}{cs:Array Value}{t:TypeId}(h:w.heap[b]?=some (.cells cs t (0,0))):w.cell? ⟨b,i,none⟩=cs[i]?:=by
 simp[World.cell?,h]
theorem zi {w:World}{b i:Nat}{cs:Array Value}{t:TypeId}(h:w.heap[b]?=some (.cells cs t (0,0))):w.frozen? ⟨b,i,none⟩=false:=by
 simp[World.frozen?,h]
theorem zu {w:World}{b:Nat}{cs:Array Value}{t:TypeId}(i:Nat) (v:Value) (h:w.heap[b]?=some (.cells cs t (0,0))):(w.setCell ⟨b,i,none⟩ v).heap[b]?=some (.cells (cs.setIfInBounds i v) t (0,0)):=by
 exact heap_setCell_same w b i cs t v h
theorem zf {w:World}{b:Nat}{ob:Obj}(h:w.heap[b]?=some ob):b<w.heap.size:=by rw[Array.getElem?_eq_some_iff]at h;exact h.1
theorem zo (w:World) (ob:Obj):(w.alloc ob).heap[w.heap.size]?=some ob:=by show (w.heap.push _)[w.heap.size]?=_;simp
def xcells (code pos n:Int) (mod name op:ByteArray) (lv rv av:Value):Array Value:=#[.int .i64 code,.int .i64 pos,.int .i64 n,.string mod,.string name,.string op,lv,rv,av]
def LevelC (p:Ps) (ts:List Tok) (f:Nat):Prop:=∀(w:World) (r:List Tok) (o b n:Nat),St w p ts r o b->o<=11->n<=5->Tp.ex f n o 0 [] r≠.error (99,0) ->
 Calls Tryz.prog 189 #[.pointer (some ⟨p.pb,0,none⟩),.int .i64 (n:Int)] w fun e w'=>Post p ts o b w (VX w.heap.size) (Tp.ex f n o 0 [] r) e w'
def argsS (f o:Nat) (r:List Tok):Except Tp.Er (List X× List Tok):=if tx r=Tp.mRp then .ok ([],r) else Tp.ex f 7 o 0 [] r
def VA (B:Nat) (l:List X) (v:Value) (w:World):Prop:=∃ vs,RepL w (fun b=>B<=b/\v.ownBlock≠some b) l vs/\w.ownsRow B 179 1 v vs.length vs
def ArgsC (p:Ps) (ts:List Tok) (f:Nat):Prop:=∀(w:World) (r:List Tok) (o b:Nat),St w p ts r o b->o<=10->argsS f o r≠.error (99,0) ->
 Calls Tryz.prog 191 #[.pointer (some ⟨p.pb,0,none⟩)] w fun e w'=>Post p ts o b w (VA w.heap.size) (argsS f o r) e w'
theorem yy {p:Ps}{ts:List Tok}{f:Nat}(hL:LevelC p ts f) {w:World}{r:List Tok}{o b:Nat}(h:St w p ts r o b) (ho:o<=11) (hn:Tp.ex f 0 o 0 [] r≠.error (99,0)) :
  Calls Tryz.prog 157 #[.pointer (some ⟨p.pb,0,none⟩)] w fun e w'=>Post p ts o b w (VX w.heap.size) (Tp.ex f 0 o 0 [] r) e w':=by
 generalize hres:Tp.ex f 0 o 0 [] r=res at hn
 have hc:=hL w r o b 0 h ho (by omega) (by rw[hres];exact hn)
 rw[hres]at hc
 have HC:Hid (Calls Tryz.prog 189 #[.pointer (some ⟨p.pb,0,none⟩),.int .i64 ((0:Nat):Int)] w fun e w'=>Post p ts o b w (VX w.heap.size) res e w'):=hc
 clear hc hL hres hn
 go_enter Tryz.func157,Tryz.ntmps157
 go_wp2_with fail
 refine HC.out.mono ?_
 intro e w1 hq
 rcases res with er|⟨x,r1⟩
 ·obtain⟨ht,hx⟩:=hq
  obtain⟨ab,h1,rfl,h2,h3⟩:=ht.out
  go_wp2_with fail
  exact⟨rfl,ht,hx⟩
 ·obtain⟨v,rfl,hv,hst,hx⟩:=hq
  go_wp2_with fail
  go_ret
  exact⟨_,rfl,hv,hst,hx⟩
theorem zq {B b:Nat}{w w':World}(h:Below B w w') (hb:B<=b) (i:Nat) (v:Value):Below B w (w'.setCell ⟨b,i,none⟩ v):=h.setCell hb v
theorem VX.ptr {B:Nat}{l:List X}{v:Value}{w:World}(h:VX B l v w):∃ bb,v=.pointer (some ⟨bb,0,none⟩):=by
 unfold VX at h
 cases l with
 | nil=>rw[RepL]at h;simp at h
 | cons x xs =>
  obtain⟨code,pos,nn,mod,name,op,left,right,args⟩:=x
  rw[RepL]at h
  obtain⟨b,av,ls,rs,gs,vs',h1,_⟩:=h
  simp at h1
  exact⟨b,h1.1⟩
theorem VA.ext {w w':World}{B b:Nat}(k:Ext b w w') (hb:b<B) {l:List X}{v:Value}(h:VA B l v w):VA B l v w':=by
 obtain⟨vs,h1,h2⟩:=h
 exact⟨vs,RepL.ext k (by omega) h1,zA h2 k hb⟩
theorem VA.base {w:World}{B B':Nat}{l:List X}{v:Value}(h:VA B l v w) (hB:B'<=B):VA B' l v w:=by
 obtain⟨vs,h1,h2⟩:=h
 refine⟨vs,RepL.mono (fun _ hi _=>⟨rfl,Nat.le_trans hB hi.1,hi.2⟩) (SizeOf.sizeOf l) l vs zn h1,h2.1,?_⟩
 rcases h2.2 with q|⟨g,cap,cur,q1,q2,q3⟩
 ·exact Or.inl q
 ·exact Or.inr ⟨g,cap,cur,q1,Nat.le_trans hB q2,q3⟩
theorem VX.node {w:World}{B b:Nat}{code pos n:Nat}{mod name op:List UInt8}{left right args:List X}{lv rv av:Value}(hb:B<=b)
  (hblk:w.heap[b]?=some (.cells (xcells code pos n (bs mod) (bs name) (bs op) lv rv av) 216 (0,0)))
  (hl:left=[]/\lv=.pointer none\/VX B left lv w) (hr:right=[]/\rv=.pointer none\/VX B right rv w) (ha:args=[]/\av=.slice none 0 0\/VA B args av w) :
  VX B [⟨code,pos,n,mod,name,op,left,right,args⟩] (.pointer (some ⟨b,0,none⟩)) w:=by
 have side:∀(l:List X) (v:Value),(l=[]/\v=.pointer none\/VX B l v w)->∃ ls:List Value,v=ls.headD (.pointer none)/\RepL w (fun b=>B<=b) l ls/\ls.length<=1:=by
  intro l v h
  rcases h with⟨rfl,rfl⟩|h
  ·exact⟨[],rfl,by rw[RepL],by simp⟩
  ·exact⟨[v],rfl,h,by simp⟩
 obtain⟨ls,rfl,l1,l2⟩:=side left lv hl
 obtain⟨rs,rfl,r1,r2⟩:=side right rv hr
 unfold VX
 rw[RepL]
 rcases ha with⟨rfl,rfl⟩|⟨vs,a1,a2⟩
 ·exact⟨b,.slice none 0 0,ls,rs,[],[],rfl,hb,hblk,l1,l2,r1,r2,by rw[RepL],Or.inl ⟨rfl,rfl⟩,by rw[RepL]⟩
 ·refine⟨b,av,ls,rs,vs,[],rfl,hb,hblk,l1,l2,r1,r2,RepL.mono (fun _ hi _=>⟨rfl,hi.1⟩) (SizeOf.sizeOf args) _ _ zn a1,?_,by rw[RepL]⟩
  rcases a2.2 with⟨q1,q2⟩|⟨g,cap,cur,q1,q2,q3,q4,q5,q6,q7⟩
  ·exact Or.inl ⟨List.eq_nil_of_length_eq_zero q2,q1⟩
  ·exact Or.inr ⟨g,cap,cur,q1,q2,q3,q4,q5,by simpa using q6,by simpa using q7⟩
def namedT (f o pos:Nat) (m n:List UInt8) (r2:List Tok):Except Tp.Er (List X× List Tok) :=
 if tx r2=Tp.mLb then do
  let (x,r3) <- Tp.ex f 0 (o+1) 0 [] (stp r2)
  let r4 <- Tp.want Tp.mRb r3
  .ok ([⟨3,pos,0,m,n,[],x,[],[]⟩],r4)
 else if tx r2=Tp.mLp then do
  let (l,r3) <- argsS f o (stp r2)
  let r4 <- Tp.want Tp.mRp r3
  .ok ([⟨6,pos,0,m,n,[],[],[],l⟩],r4)
 else .ok ([⟨2,pos,0,m,n,[],[],[],[]⟩],r2)
theorem ex6_bad {f o:Nat}{r:List Tok}{er:Tp.Er}(h:Tp.name r=.error er):Tp.ex (f+1) 6 o 0 [] r=.error er:=by
 rw[Tp.ex,h];rfl
theorem uU {f o:Nat}{r r1:List Tok}{n1:List UInt8}{er:Tp.Er}(h:Tp.name r=.ok (n1,r1)) (hd:tx r1=Tp.mDot) (h2:Tp.name (stp r1)=.error er):Tp.ex (f+1) 6 o 0 [] r=.error er:=by
 rw[Tp.ex];simp only [h,hd,h2,bind,Except.bind];rfl
theorem vG (f o pos:Nat) (m n:List UInt8) (r2:List Tok) :
  (if tx r2=Tp.mLb then do
   let (x,r3) <- Tp.ex f 0 (o+1) 0 [] (stp r2)
   let r4 <- Tp.want Tp.mRb r3
   .ok ([⟨3,pos,0,m,n,[],x,[],[]⟩],r4)
  else if tx r2=Tp.mLp then
   if tx (stp r2)=Tp.mRp then .ok ([⟨6,pos,0,m,n,[],[],[],[]⟩],stp (stp r2))
   else do
    let (l,r3) <- Tp.ex f 7 o 0 [] (stp r2)
    let r4 <- Tp.want Tp.mRp r3
    .ok ([⟨6,pos,0,m,n,[],[],[],l⟩],r4)
  else .ok ([⟨2,pos,0,m,n,[],[],[],[]⟩],r2):Except Tp.Er (List X× List Tok))=namedT f o pos m n r2:=by
 unfold namedT argsS
 by_cases h1:tx r2=Tp.mLb
 ·simp only [h1,if_true]
 ·by_cases h2:tx r2=Tp.mLp
  ·by_cases h3:tx (stp r2)=Tp.mRp
   ·simp[h2,h3,bind,Except.bind,Tp.want]
   ·simp[h2,h3]
  ·simp only [h1,h2,if_false]
theorem ex6_dot {f o:Nat}{r r1 r2:List Tok}{n1 n2:List UInt8}(h:Tp.name r=.ok (n1,r1)) (hd:tx r1=Tp.mDot) (h2:Tp.name (stp r1)=.ok (n2,r2)):Tp.ex (f+1) 6 o 0 [] r=namedT f o (at' r) n1 n2 r2:=by
 rw[Tp.ex,<-vG]
 simp only [h,hd,h2,bind,Except.bind,if_true]
 rfl
theorem ex6_no {f o:Nat}{r r1:List Tok}{n1:List UInt8}(h:Tp.name r=.ok (n1,r1)) (hd:¬tx r1=Tp.mDot):Tp.ex (f+1) 6 o 0 [] r=namedT f o (at' r) [] n1 r1:=by
 rw[Tp.ex,<-vG]
 simp only [h,hd,bind,Except.bind,if_false]
 rfl
theorem uF {w:World}{p:Ps}{ts r r1:List Tok}{o b:Nat}{nm:List UInt8}(h:St w p ts r o b) (hr:Hid (Tp.name r=.ok (nm,r1))) :
  Calls Tryz.prog 62 #[.pointer (some ⟨p.pb,0,none⟩)] w fun e w'=>e=.returned (.string (bs nm))/\St w' p ts r1 o b/\Ext p.pb w w':=by
 refine(yL h).mono ?_
 intro e w' hq
 rw[hr.out]at hq
 obtain⟨v,h1,rfl,h2⟩:=hq
 exact⟨h1,h2⟩
theorem uG {w:World}{p:Ps}{ts r:List Tok}{o b:Nat}{er:Tp.Er}(h:St w p ts r o b) (hr:Hid (Tp.name r=.error er)) :
  Calls Tryz.prog 62 #[.pointer (some ⟨p.pb,0,none⟩)] w fun e w'=>Thrown w.heap.size er e w'/\Ext p.pb w w':=by
 refine(yL h).mono ?_
 intro e w' hq
 rw[hr.out]at hq
 exact hq
theorem zB (w:World):Below w.heap.size w w.drew:=(Below.refl _ _).drew
theorem named_post {p:Ps}{ts:List Tok}{f:Nat}(hL:LevelC p ts f) (hA:ArgsC p ts f) {w:World}{r:List Tok}{o b:Nat}(h:St w p ts r o b) (ho:o<=10) (hn:Tp.ex (f+1) 6 o 0 [] r≠.error (99,0)) :
  Calls Tryz.prog 158 #[.pointer (some ⟨p.pb,0,none⟩)] w fun e w'=>Post p ts o b w (VX w.heap.size) (Tp.ex (f+1) 6 o 0 [] r) e w':=by
 have HL:Hid (LevelC p ts f):=hL
 have HA:Hid (ArgsC p ts f):=hA
 have hpl:=zg h.c0
 have HN:Hid (Tp.ex (f+1) 6 o 0 [] r≠.error (99,0)):=hn
 clear hL hA hn
 go_enter Tryz.func158,Tryz.ntmps158
 go_wp2_with fail
 refine(zK h).mono ?_
 rintro e w1 ⟨rfl,hb1⟩
 have hsz1:=hb1.size
 go_wp2_with fail
 refine(yL (h.below hb1)).mono ?_
 intro e w2 hq
 generalize hres:Tp.name r=res at hq
 rcases res with er|⟨nm,r1⟩
 ·have HR:Hid (Tp.name r=.error er):=hres
  clear hres
  obtain⟨ht,hx2⟩:=hq
  obtain⟨ab,h1,rfl,h2,h3⟩:=ht.out
  go_wp2_with fail
  refine⟨rfl,?_⟩
  rw[ex6_bad HR.out]
  exact zt (Ext.below hb1) ht hx2
 ·have HR:Hid (Tp.name r=.ok (nm,r1)):=hres
  clear hres
  obtain⟨v,rfl,rfl,hst2,hx2⟩:=hq
  have hsz2:=hx2.size
  go_wp2_with fail
  have hb3:∀ ob,Below w2.heap.size w2 (w2.alloc ob):=fun ob=>zb _ _
  refine(zP (hst2.below (hb3 _)) Tp.mDot _ rfl).mono ?_
  rintro e w3 ⟨rfl,hst3,hx3⟩
  obtain⟨xb,hxb⟩:∃ xb,xb=w2.heap.size:=⟨_,rfl⟩
  have hblk:w3.heap[w2.heap.size]?=some (.cells (xcells 2 (hd r).pos 0 ⟨#[]⟩ (bs nm) ⟨#[]⟩ (.pointer none) (.pointer none) (.slice none 0 0)) 216 (0,0)):=by
   rw[hx3.block _ (by simp) (by omega)];exact zo _ _
  have hx3':Ext p.pb w w3:=((Ext.below hb1).trans hx2).trans ((Ext.below (hb3 _)).trans hx3)
  clear hb3 hx3 hx2 hst2 hb1
  rw[<-hxb]at hblk ⊢
  have hxw:w.heap.size<=xb:=by omega
  have hxp:p.pb<xb:=by omega
  clear hxb
  go_upto_if 12 with fail
  go_cut [] (fun wc=>∃ m n r2,St wc p ts r2 o b/\wc.heap[xb]?=some (.cells (xcells 2 (hd r).pos 0 (bs m) (bs n) ⟨#[]⟩ (.pointer none) (.pointer none) (.slice none 0 0)) 216 (0,0))/\Ext p.pb w wc/\Tp.ex (f+1) 6 o 0 [] r=namedT f o (at' r) m n r2)
  case first =>
   by_cases hd1:tx r1=Tp.mDot
   ·have hdec:=decide_eq_true hd1
    rw[if_pos hd1]at hst3
    have HD:Hid (tx r1=Tp.mDot):=hd1
    clear hd1
    have hlx:=zf hblk
    have k3:w3.cell? ⟨xb,3,none⟩=some (.string ⟨#[]⟩):=za hblk
    have k4:w3.cell? ⟨xb,4,none⟩=some (.string (bs nm)):=za hblk
    have z3:w3.frozen? ⟨xb,3,none⟩=false:=zi hblk
    have z4:w3.frozen? ⟨xb,4,none⟩=false:=zi hblk
    rcases hres2:Tp.name (stp r1) with er|⟨nm2,r2⟩
    ·have HR2:Hid (Tp.name (stp r1)=.error er):=hres2
     clear hres2
     have hfin:∀ e w',Thrown w3.drew.heap.size er e w'/\Ext p.pb w3.drew w'->Post p ts o b w (VX w.heap.size) (Tp.ex (f+1) 6 o 0 [] r) e w':=by
      intro e w' hq
      rw[uU HR.out HD.out HR2.out]
      exact zt (hx3'.trans (Ext.below (zB w3))) hq.1 hq.2
     have HF:Hid (∀ e w',Thrown w3.drew.heap.size er e w'/\Ext p.pb w3.drew w'->Post p ts o b w (VX w.heap.size) (Tp.ex (f+1) 6 o 0 [] r) e w'):=hfin
     clear hfin
     go_wp2_with fail
     go_region_dies
     all_goals (refine(uG (hst3.below (zB w3)) HR2).mono ?_;intro e w4 hq;obtain⟨ab,h1,h0,h2,h3⟩:=hq.1.out;subst h0;exact⟨rfl,HF.out _ _ hq⟩)
    ·have HR2:Hid (Tp.name (stp r1)=.ok (nm2,r2)):=hres2
     clear hres2
     go_wp2_with fail
     go_region_with (go_at_call 62;refine(uF (hst3.below (zB w3)) HR2).mono ?_;rintro e w4 ⟨rfl,hst4,hx4⟩;have hblk4:=(hx4.block xb (by simpa using hlx) (by omega)).trans hblk;have y3:w4.cell? ⟨xb,3,none⟩=some (.string ⟨#[]⟩):=za hblk4;have y4:w4.cell? ⟨xb,4,none⟩=some (.string (bs nm)):=za hblk4;have zz3:w4.frozen? ⟨xb,3,none⟩=false:=zi hblk4;have zz4:w4.frozen? ⟨xb,4,none⟩=false:=zi hblk4)
     all_goals
      go_wp2_with fail
      go_meet
      case rel =>
       have hb5:Below xb w4 ((w4.setCell ⟨xb,3,none⟩ (.string (bs nm))).setCell ⟨xb,4,none⟩ (.string (bs nm2))):=zq (zq (Below.refl _ _) zn 3 _) zn 4 _
       exact⟨nm,nm2,r2,hst4.belowB hb5 hxp,zu 4 _ (zu 3 _ hblk4),((hx3'.trans (Ext.below (zB w3))).trans hx4).trans' (hb5.mono hxw),ex6_dot HR.out HD.out HR2.out⟩
   ·have hdec:=decide_eq_false hd1
    rw[if_neg hd1]at hst3
    have HD:Hid (¬tx r1=Tp.mDot):=hd1
    clear hd1
    go_wp2_with fail
    go_meet
    case rel=>exact⟨[],nm,r1,hst3,hblk,hx3',ex6_no HR.out HD.out⟩
  case rest =>
   obtain⟨m,n,r2,hst,hblk,hext,hspec⟩:=hcut
   have HS:Hid (Tp.ex (f+1) 6 o 0 [] r=namedT f o (at' r) m n r2):=hspec
   have hmf:=zm
   clear hspec
   go_wp2_with fail
   refine(zP hst Tp.mLb _ rfl).mono ?_
   rintro e w5 ⟨rfl,hst5,hx5⟩
   have hblk5:=(hx5.block xb (zf hblk) (by omega)).trans hblk
   have hext5:=hext.trans hx5
   have hlx5:=zf hblk5
   by_cases hlb:tx r2=Tp.mLb
   ·have hdec:=decide_eq_true hlb
    rw[if_pos hlb]at hst5
    have HB:Hid (tx r2=Tp.mLb):=hlb
    clear hlb
    have hno:Tp.ex f 0 (o+1) 0 [] (stp r2)≠.error (99,0):=by
     intro e;apply HN.out;rw[HS.out];unfold namedT;rw[if_pos HB.out,e];rfl
    have hw:=fun W (hW:St W p ts (stp r2) o b)=>kq hW (by omega) (Tp.ex f 0 (o+1) 0 [] (stp r2)) (fun w1 h1 _ _=>yy HL.out h1 (by omega) hno)
    generalize hres:Tp.ex f 0 (o+1) 0 [] (stp r2)=res at hw
    have HRX:Hid (Tp.ex f 0 (o+1) 0 [] (stp r2)=res):=hres
    have HW:Hid (∀ W,St W p ts (stp r2) o b->Calls Tryz.prog 190 #[.pointer (some ⟨p.pb,0,none⟩),.func (.func 157) #[.pointer (some ⟨p.pb,0,none⟩)] #[]] W fun e w'=>Post p ts o b W (VX W.heap.size) res e w'):=hw
    clear hw hres hno
    go_wp2_with fail
    refine(HW.out _ hst5).mono ?_
    intro e w6 hq
    rcases res with er|⟨x,r3⟩
    ·obtain⟨ht,hx6⟩:=hq
     obtain⟨ab,h1,rfl,h2,h3⟩:=ht.out
     go_wp2_with fail
     refine⟨rfl,?_⟩
     rw[HS.out,show namedT f o (at' r) m n r2=.error er by unfold namedT;rw[if_pos HB.out,HRX.out];rfl]
     exact zt hext5 ht hx6
    ·obtain⟨v,rfl,hv,hst6,hx6⟩:=hq
     obtain⟨bb,rfl⟩:=hv.ptr
     have hblk6:=(hx6.block xb hlx5 (by omega)).trans hblk5
     have k0:w6.cell? ⟨xb,0,none⟩=some (.int .i64 2):=za hblk6
     have k6:w6.cell? ⟨xb,6,none⟩=some (.pointer none):=za hblk6
     have z0:w6.frozen? ⟨xb,0,none⟩=false:=zi hblk6
     have z6:w6.frozen? ⟨xb,6,none⟩=false:=zi hblk6
     go_wp2_with fail
     clear k0 k6 z0 z6
     have hb7:Below xb w6 ((w6.setCell ⟨xb,0,none⟩ (.int .i64 3)).setCell ⟨xb,6,none⟩ (.pointer (some ⟨bb,0,none⟩))):=zq (zq (Below.refl _ _) zn 0 _) zn 6 _
     have hblk7:=zu 6 (.pointer (some ⟨bb,0,none⟩)) (zu 0 (.int .i64 3) hblk6)
     have hv7:VX w5.heap.size x (.pointer (some ⟨bb,0,none⟩)) ((w6.setCell ⟨xb,0,none⟩ (.int .i64 3)).setCell ⟨xb,6,none⟩ (.pointer (some ⟨bb,0,none⟩))):=VX.ext (((Ext.refl xb w6).set 0 _).set 6 _) hlx5 hv
     have hst7:=hst6.belowB hb7 hxp
     have hext7:=(hext5.trans hx6).trans' (hb7.mono hxw)
     generalize (w6.setCell ⟨xb,0,none⟩ (.int .i64 3)).setCell ⟨xb,6,none⟩ (.pointer (some ⟨bb,0,none⟩))=w7 at hb7 hblk7 hv7 hst7 hext7 ⊢
     have hsz7:=hext5.size
     clear hblk6 hb7 hv hst6 hx6 hst5 hblk5 hx5 hst hext
     by_cases hrb:tx r3=Tp.mRb
     ·refine(zE hst7 Tp.mRb _ rfl hrb).mono ?_
      rintro e w8 ⟨rfl,hst8,hx8⟩
      have HRB:Hid (tx r3=Tp.mRb):=hrb
      clear hrb hst7
      go_wp2_with fail
      go_ret
      rw[HS.out,show namedT f o (at' r) m n r2=.ok ([⟨3,at' r,0,m,n,[],x,[],[]⟩],stp r3) by unfold namedT;rw[if_pos HB.out,HRX.out];simp only [bind,Except.bind,Tp.want,if_pos HRB.out]]
      exact⟨_,rfl,VX.node hxw ((hx8.block xb (zf hblk7) (by omega)).trans hblk7) (Or.inr ((VX.ext hx8 (by omega) hv7).base hsz7)) (Or.inl ⟨rfl,rfl⟩) (Or.inl ⟨rfl,rfl⟩),hst8,hext7.trans hx8⟩
     ·refine(zM hst7 Tp.mRb _ rfl hrb).mono ?_
      rintro e w8 ⟨ht,hx8⟩
      have HRB:Hid (¬tx r3=Tp.mRb):=hrb
      clear hrb
      obtain⟨ab,h1,rfl,h2,h3⟩:=ht.out
      go_wp2_with fail
      refine⟨rfl,?_⟩
      rw[HS.out,show namedT f o (at' r) m n r2=.error (3,at' r3) by unfold namedT;rw[if_pos HB.out,HRX.out];simp only [bind,Except.bind,Tp.want,if_neg HRB.out]]
      exact zt hext7 ht hx8
   ·have hdec:=decide_eq_false hlb
    rw[if_neg hlb]at hst5
    have HB:Hid (¬tx r2=Tp.mLb):=hlb
    clear hlb
    go_wp2_with fail
    refine(zP hst5 Tp.mLp _ rfl).mono ?_
    rintro e w6 ⟨rfl,hst6,hx6⟩
    have hblk6:=(hx6.block xb hlx5 (by omega)).trans hblk5
    have hext6:=hext5.trans hx6
    have hlx6:=zf hblk6
    clear hst5 hx5 hst hext hblk hblk5
    by_cases hlp:tx r2=Tp.mLp
    ·have hdec:=decide_eq_true hlp
     rw[if_pos hlp]at hst6
     have HP:Hid (tx r2=Tp.mLp):=hlp
     clear hlp
     have hno:argsS f o (stp r2)≠.error (99,0):=by
      intro e;apply HN.out;rw[HS.out];unfold namedT;rw[if_neg HB.out,if_pos HP.out,e];rfl
     have hw:=fun W (hW:St W p ts (stp r2) o b)=>HA.out W (stp r2) o b hW ho hno
     generalize hres:argsS f o (stp r2)=res at hw
     have HRX:Hid (argsS f o (stp r2)=res):=hres
     have HW:Hid (∀ W,St W p ts (stp r2) o b->Calls Tryz.prog 191 #[.pointer (some ⟨p.pb,0,none⟩)] W fun e w'=>Post p ts o b W (VA W.heap.size) res e w'):=hw
     clear hw hres hno
     go_wp2_with fail
     refine(HW.out _ hst6).mono ?_
     intro e w7 hq
     rcases res with er|⟨l,r3⟩
     ·obtain⟨ht,hx7⟩:=hq
      obtain⟨ab,h1,rfl,h2,h3⟩:=ht.out
      go_wp2_with fail
      refine⟨rfl,?_⟩
      rw[HS.out,show namedT f o (at' r) m n r2=.error er by unfold namedT;rw[if_neg HB.out,if_pos HP.out,HRX.out];rfl]
      exact zt hext6 ht hx7
     ·obtain⟨v,rfl,hv,hst7,hx7⟩:=hq
      obtain⟨ao,cap,rfl⟩:∃ ao cap,v=.slice ao l.length cap:=by
       obtain⟨vs,q1,q2⟩:=hv
       obtain⟨ao,cap,q3⟩:=zw q2
       exact⟨ao,cap,by rw[q3,RepL.len _ _ q1]⟩
      have hblk7:=(hx7.block xb hlx6 (by omega)).trans hblk6
      have k0:w7.cell? ⟨xb,0,none⟩=some (.int .i64 2):=za hblk7
      have k8:w7.cell? ⟨xb,8,none⟩=some (.slice none 0 0):=za hblk7
      have z0:w7.frozen? ⟨xb,0,none⟩=false:=zi hblk7
      have z8:w7.frozen? ⟨xb,8,none⟩=false:=zi hblk7
      go_wp2_with fail
      clear k0 k8 z0 z8
      have hb8:Below xb w7 ((w7.setCell ⟨xb,0,none⟩ (.int .i64 6)).setCell ⟨xb,8,none⟩ (.slice ao l.length cap)):=zq (zq (Below.refl _ _) zn 0 _) zn 8 _
      have hblk8:=zu 8 (.slice ao l.length cap) (zu 0 (.int .i64 6) hblk7)
      have hv8:VA w6.heap.size l (.slice ao l.length cap) ((w7.setCell ⟨xb,0,none⟩ (.int .i64 6)).setCell ⟨xb,8,none⟩ (.slice ao l.length cap)):=VA.ext (((Ext.refl xb w7).set 0 _).set 8 _) hlx6 hv
      have hst8:=hst7.belowB hb8 hxp
      have hext8:=(hext6.trans hx7).trans' (hb8.mono hxw)
      generalize (w7.setCell ⟨xb,0,none⟩ (.int .i64 6)).setCell ⟨xb,8,none⟩ (.slice ao l.length cap)=w8 at hb8 hblk8 hv8 hst8 hext8 ⊢
      have hsz8:=hext6.size
      clear hblk7 hb8 hv hst7 hx7 hst6 hblk6 hx6
      by_cases hrb:tx r3=Tp.mRp
      ·refine(zE hst8 Tp.mRp _ rfl hrb).mono ?_
       rintro e w9 ⟨rfl,hst9,hx9⟩
       have HRB:Hid (tx r3=Tp.mRp):=hrb
       clear hrb hst8
       go_wp2_with fail
       go_ret
       rw[HS.out,show namedT f o (at' r) m n r2=.ok ([⟨6,at' r,0,m,n,[],[],[],l⟩],stp r3) by unfold namedT;rw[if_neg HB.out,if_pos HP.out,HRX.out];simp only [bind,Except.bind,Tp.want,if_pos HRB.out]]
       exact⟨_,rfl,VX.node hxw ((hx9.block xb (zf hblk8) (by omega)).trans hblk8) (Or.inl ⟨rfl,rfl⟩) (Or.inl ⟨rfl,rfl⟩) (Or.inr ((VA.ext hx9 (by omega) hv8).base hsz8)),hst9,hext8.trans hx9⟩
      ·refine(zM hst8 Tp.mRp _ rfl hrb).mono ?_
       rintro e w9 ⟨ht,hx9⟩
       have HRB:Hid (¬tx r3=Tp.mRp):=hrb
       clear hrb
       obtain⟨ab,h1,rfl,h2,h3⟩:=ht.out
       go_wp2_with fail
       refine⟨rfl,?_⟩
       rw[HS.out,show namedT f o (at' r) m n r2=.error (3,at' r3) by unfold namedT;rw[if_neg HB.out,if_pos HP.out,HRX.out];simp only [bind,Except.bind,Tp.want,if_neg HRB.out]]
       exact zt hext8 ht hx9
    ·have hdec:=decide_eq_false hlp
     rw[if_neg hlp]at hst6
     have HP:Hid (¬tx r2=Tp.mLp):=hlp
     clear hlp
     go_wp2_with fail
     go_ret
     rw[HS.out,show namedT f o (at' r) m n r2=.ok ([⟨2,at' r,0,m,n,[],[],[],[]⟩],r2) by unfold namedT;rw[if_neg HB.out,if_neg HP.out]]
     exact⟨_,rfl,VX.node hxw hblk6 (Or.inl ⟨rfl,rfl⟩) (Or.inl ⟨rfl,rfl⟩) (Or.inl ⟨rfl,rfl⟩),hst6,hext6⟩
theorem yI {P:Program}(w:World) (base:Nat) (t ty e:TypeId) (i:TypeInfo) (z:Value) (size bytes:Nat) (ht:P.underlying t=some (.slice e)) (hi:P.info? e=some i) (hz:i.zero=some z)
  (hsize:i.size=size) (hby:i.bytes=bytes) (hzs:z.cells.size=size) (hsz:0<size)
  (v:Value) (n:Nat) (xs:List Value) (hown:w.ownsRow base e size v n xs)
  (a:Addr) (m c:Nat) (news:List Value) (hl:news.length=m * size) (hnews:∀ j u,news[j]?=some u->w.cell? (a.add j)=some u) (h1:∀ u∈news,u.oneCell'=true)
  (h63:n+m<=maxLen) (hbytes:(n+m) * bytes<=140737488355328) (hbase:base<=w.heap.size) :
  ∃ v' w',(Builtin.append_ #[t,t] ty #[v,.slice (some a) m c]).run P w=.ok v' w'/\w'.ownsRow base e size v' (n+m) (xs++news)/\w.grownBy w' v.ownBlock /\
   (∀ g,v'.ownBlock=some g->v.ownBlock=some g\/w.heap.size<=g):=by
 obtain⟨v',w',r1,r2,r3,_⟩:=run_append_own (P:=P) w base t ty e i z size bytes ht hi hz hsize hby hzs hsz v n xs hown a m c news hl hnews h1 h63 hbytes hbase
 refine⟨v',w',r1,r2,r3,?_⟩
 rcases hown.2 with⟨rfl,rfl⟩|⟨g,cap,cur,rfl,q1,q2,q3,q4,q5,q6⟩
 ·have hx:xs=[]:=List.eq_nil_of_length_eq_zero (by simpa using hown.1)
  subst hx
  obtain⟨v2,w2,s1,s2,_⟩:=run_append_own (P:=P) w w.heap.size t ty e i z size bytes ht hi hz hsize hby hzs hsz (.slice none 0 0) 0 [] (World.ownsRow_nil _ _ _ _) a m c news hl hnews h1 h63 hbytes zn
  rw[r1]at s1
  cases s1
  intro g hg
  exact Or.inr (zT s2 g hg)
 ·have hcell:∀ j,j<cap * size->w.cell? ⟨g,j,none⟩=cur[j]?:=fun j _=>za q2
  by_cases hroom:n+m<=cap
  ·have hle:n * size+news.length<=cap * size:=by rw[hl,<-Nat.add_mul];exact Nat.mul_le_mul_right _ hroom
   have s1:=run_append_room_cells (P:=P) w t ty e i ht hi g 0 n cap a m c news (by rw[hsize];exact hl) hnews h1 hroom
    (fun j hj=>by rw[hsize,za q2,Nat.zero_add,Array.getElem?_eq_getElem (by omega)];rfl) (fun j hj=>zi q2)
   rw[r1]at s1
   cases s1
   intro g' hg
   exact Or.inl hg
  ·obtain⟨v2,w2,s1,s2,_⟩:=run_append_arg_grows (P:=P) w t ty e i z size bytes ht hi hz hsize hby hzs hsz ⟨g,0,none⟩ n cap xs hown.1
    (fun j u hj=>by
     have hjl:j<xs.length:=by rw[List.getElem?_eq_some_iff]at hj;exact hj.1
     rw[Addr.add_lit,za q2,Nat.zero_add,<-Array.getElem?_toList,<-hj,<-q6,List.getElem?_take_of_lt (by rw[<-hown.1];exact hjl)])
    a m c news hl hnews (by omega) h63 hbytes
   rw[r1]at s1
   cases s1
   intro g' hg
   exact Or.inr (zT s2 g' hg)
theorem zG {P:Program}(w:World) {ops:Array Oper}{rest:List Oper}{o:Oper}{a:Act}{Q:Exit->Act->World->Prop}(hgd:o.guard=none) (s x:Operand) (t:TypeId)
  (ho:o.op=.call { callee:=.builtin .append,args:=#[s,x],argTypes:=#[t,t] })
  (base:Nat) (e:TypeId) (i:TypeInfo) (z:Value) (size bytes:Nat) (ht:P.underlying t=some (.slice e)) (hi:P.info? e=some i) (hz:i.zero=some z)
  (hsize:i.size=size) (hby:i.bytes=bytes) (hzs:z.cells.size=size) (hsz:0<size)
  (v:Value) (n:Nat) (xs:List Value) (hs:a.eval s=v) (hown:w.ownsRow base e size v n xs)
  (ad:Addr) (m c:Nat) (news:List Value) (hx:a.eval x=.slice (some ad) m c) (hl:news.length=m * size) (hnews:∀ j u,news[j]?=some u->w.cell? (ad.add j)=some u) (h1:∀ u∈news,u.oneCell'=true)
  (h63:n+m<=maxLen) (hbytes:(n+m) * bytes<=140737488355328) (hbase:base<=w.heap.size)
  (h:∀ v' w',w'.ownsRow base e size v' (n+m) (xs++news)->w.grownBy w' v.ownBlock->(∀ g,v'.ownBlock=some g->v.ownBlock=some g\/w.heap.size<=g)->wpList P ops Q rest (a.put o.dst v') w'):wpList P ops Q (o :: rest) a w:=by
 refine wpList_plain hgd fun K hK=>?_
 obtain⟨v',w',r1,r2,r3,r4⟩:=yI (P:=P) w base t o.type e i z size bytes ht hi hz hsize hby hzs hsz v n xs hown ad m c news hl hnews h1 h63 hbytes hbase
 unfold Oper.wp
 simp[execOp,ho,resolve,invoke,builtin,hs,hx,r1,Result.andThen]
 exact hK _ _ (h v' w' r2 r3 r4)
end Go.Proofs.YtibncofnnlbmcaaGreatDoor
