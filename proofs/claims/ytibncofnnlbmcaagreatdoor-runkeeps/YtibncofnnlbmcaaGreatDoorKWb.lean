import Derived.Test.YtibncofnnlbmcaaGreatDoorKWa
import Derived.Handy
import Derived.Deep.RegionWith
import Derived.RegionDies
import Derived.Deep.DeepCutAuto
import Derived.ArgAppend
set_option maxRecDepth 100000
set_option maxHeartbeats 4000000
namespace Go.Proofs.YtibncofnnlbmcaaGreatDoor
open Go.RowKit
open Tp (Tok hd tx at' stp)
theorem Lv.below {w w':World}{B:Nat}(h:Lv w)(k:Below B w w')(a:3<B):Lv w' :=
 ⟨Nat.lt_of_lt_of_le h.1 k.size,fun i b=>(k.cell (p:=⟨3,i,none⟩) a).trans (h.2 i b)⟩
def lvAgg:Value:=.agg levs.toArray
theorem yZ {P:Program}{w:World}{ops:Array Oper}{rest:List Oper}{o:Oper}{a:Act}{Q:Exit->Act->World->Prop}(c:o.guard=none)(t:TypeId)(x:Operand)(e:o.op=.load t x)(v:Value)
  (b:(Instr.loadAt t (a.eval x)).run P w=.ok v w)(h:wpList P ops Q rest (a.put o.dst v) w):wpList P ops Q (o :: rest) a w:=by
 refine wpList_plain c fun K d=>?_
 unfold Oper.wp
 simp[execOp,e,b,Result.andThen]
 exact d _ _ h
theorem x6 {P:Program}{w:World}(a:Addr)(vs:List Value):∀(n i:Nat) (b:Array Value),(∀j,i<=j->j<i+n->w.cell? (a.add j)=some (vs.getD j undef))->i+n<=vs.length ->
  (loadCellsFrom a i n b).run P w=.ok (b++((vs.drop i).take n).toArray) w:=by
 intro n
 induction n with
 |zero=>intro i b _ _;simp[loadCellsFrom]
 |succ n ih =>
  intro i b h f
  have c:=h i zn (by omega)
  have hd:vs.drop i=vs.getD i undef :: vs.drop (i+1):=by
   rw[List.drop_eq_getElem_cons (by omega)]
   simp[List.getD_eq_getElem?_getD,List.getElem?_eq_getElem (show i<vs.length by omega)]
  simp only[loadCellsFrom,Sem.run_bind,load,Sem.run,c,Result.andThen]
  rw[ih (i+1) _ (fun j d e=>h j (by omega) (by omega)) (by omega),hd]
  simp
theorem lev_load {w:World}(h:Lv w):(Instr.loadAt 285 (.pointer (some ⟨3,0,none⟩))).run Tryz.prog w=.ok lvAgg w:=by
 have d:=x6 (P:=Tryz.prog) (w:=w) ⟨3,0,none⟩ levs 26 0 #[] (fun j _ f=>by have e:=h.2 j (by omega);by_cases a:j=0<;>simpa[Addr.add,a] using e) (by decide)
 have b:(isAgg 285).run Tryz.prog w=.ok true w:=by kernel_rfl
 have c:(sizeOf 285).run Tryz.prog w=.ok 26 w:=by kernel_rfl
 simp only[Instr.loadAt,Instr.sureAddr,loadVar,loadCells,Sem.run_bind,Result.andThen]
 simp[b,c,d,lvAgg,levs]
theorem lev_idx0 (w:World):(Instr.index 285 lvAgg (.int .i64 0)).run Tryz.prog w=.ok (.agg #[.string ⟨#[111,114]⟩,.int .i64 0]) w:=by kernel_rfl
theorem lev_idx1 (w:World):(Instr.index 285 lvAgg (.int .i64 1)).run Tryz.prog w=.ok (.agg #[.string ⟨#[97,110,100]⟩,.int .i64 1]) w:=by kernel_rfl
theorem lev_idx2 (w:World):(Instr.index 285 lvAgg (.int .i64 2)).run Tryz.prog w=.ok (.agg #[.string ⟨#[61]⟩,.int .i64 2]) w:=by kernel_rfl
theorem lev_idx3 (w:World):(Instr.index 285 lvAgg (.int .i64 3)).run Tryz.prog w=.ok (.agg #[.string ⟨#[35]⟩,.int .i64 2]) w:=by kernel_rfl
theorem lev_idx4 (w:World):(Instr.index 285 lvAgg (.int .i64 4)).run Tryz.prog w=.ok (.agg #[.string ⟨#[60]⟩,.int .i64 2]) w:=by kernel_rfl
theorem lev_idx5 (w:World):(Instr.index 285 lvAgg (.int .i64 5)).run Tryz.prog w=.ok (.agg #[.string ⟨#[60,61]⟩,.int .i64 2]) w:=by kernel_rfl
theorem lev_idx6 (w:World):(Instr.index 285 lvAgg (.int .i64 6)).run Tryz.prog w=.ok (.agg #[.string ⟨#[62]⟩,.int .i64 2]) w:=by kernel_rfl
theorem lev_idx7 (w:World):(Instr.index 285 lvAgg (.int .i64 7)).run Tryz.prog w=.ok (.agg #[.string ⟨#[62,61]⟩,.int .i64 2]) w:=by kernel_rfl
theorem lev_idx8 (w:World):(Instr.index 285 lvAgg (.int .i64 8)).run Tryz.prog w=.ok (.agg #[.string ⟨#[43]⟩,.int .i64 3]) w:=by kernel_rfl
theorem lev_idx9 (w:World):(Instr.index 285 lvAgg (.int .i64 9)).run Tryz.prog w=.ok (.agg #[.string ⟨#[45]⟩,.int .i64 3]) w:=by kernel_rfl
theorem lev_idx10 (w:World):(Instr.index 285 lvAgg (.int .i64 10)).run Tryz.prog w=.ok (.agg #[.string ⟨#[42]⟩,.int .i64 4]) w:=by kernel_rfl
theorem lev_idx11 (w:World):(Instr.index 285 lvAgg (.int .i64 11)).run Tryz.prog w=.ok (.agg #[.string ⟨#[100,105,118]⟩,.int .i64 4]) w:=by kernel_rfl
theorem lev_idx12 (w:World):(Instr.index 285 lvAgg (.int .i64 12)).run Tryz.prog w=.ok (.agg #[.string ⟨#[109,111,100]⟩,.int .i64 4]) w:=by kernel_rfl
theorem lvl_none (a:List UInt8)(v:([111,114]==a)=false)(w:([97,110,100]==a)=false)(x:([61]==a)=false)(y:([35]==a)=false)(z:([60]==a)=false)(A:([60,61]==a)=false)(B:([62]==a)=false)(C:([62,61]==a)=false)(D:([43]==a)=false)(E:([45]==a)=false)(f:([42]==a)=false)(g:([100,105,118]==a)=false)(i:([109,111,100]==a)=false):Tp.lvl a=5:=by
 have k:∀l:List UInt8,(l==a)=false->a≠l:=fun l h e=>by subst e;simp at h
 have j:=k _ v;have m:=k _ w;have n:=k _ x;have o:=k _ y;have p:=k _ z;have q:=k _ A;have r:=k _ B;have s:=k _ C;have t:=k _ D;have u:=k _ E;have b:=k _ f;have c:=k _ g;have d:=k _ i
 unfold Tp.lvl
 simp only[Tp.wOr,Tp.wAnd,Tp.mEq,Tp.mNe,Tp.mLt,Tp.mLe,Tp.mGt,Tp.mGe,Tp.mPlus,Tp.mMinus,Tp.mStar,Tp.wDiv,Tp.wMod,j,m,n,o,p,q,r,s,t,u,b,c,d,or_self,if_false]
theorem uV (w:World)(b:List UInt8)(c:Lv w) :
  Calls Tryz.prog 166 #[.string (bs b)] w fun e w'=>e=.returned (.int .i64 (Tp.lvl b:Int))/\Below w.heap.size w w':=by
 have i:=lev_idx0;have j:=lev_idx1;have k:=lev_idx2;have l:=lev_idx3;have m:=lev_idx4;have n:=lev_idx5;have o:=lev_idx6
 have p:=lev_idx7;have q:=lev_idx8;have r:=lev_idx9;have f:=lev_idx10;have g:=lev_idx11;have h:=lev_idx12
 have d:=zj b
 go_enter Tryz.func166,Tryz.ntmps166
 go_wp2_with (refine yZ rfl 285 (.global 3) rfl lvAgg (lev_load c) ?_)
 refine wp_loop_rounds 14 ?_
 rw[rounds_succ]
 go_wp2
 ·go_ret
  have a:=eq_of_beq ‹([111,114]==b)=true›
  exact⟨by rw[<-a];rfl,by go_grown⟩
 rw[rounds_succ]
 go_wp2
 ·go_ret
  have a:=eq_of_beq ‹([97,110,100]==b)=true›
  exact⟨by rw[<-a];rfl,by go_grown⟩
 rw[rounds_succ]
 go_wp2
 ·go_ret
  have a:=eq_of_beq ‹([61]==b)=true›
  exact⟨by rw[<-a];rfl,by go_grown⟩
 rw[rounds_succ]
 go_wp2
 ·go_ret
  have a:=eq_of_beq ‹([35]==b)=true›
  exact⟨by rw[<-a];rfl,by go_grown⟩
 rw[rounds_succ]
 go_wp2
 ·go_ret
  have a:=eq_of_beq ‹([60]==b)=true›
  exact⟨by rw[<-a];rfl,by go_grown⟩
 rw[rounds_succ]
 go_wp2
 ·go_ret
  have a:=eq_of_beq ‹([60,61]==b)=true›
  exact⟨by rw[<-a];rfl,by go_grown⟩
 rw[rounds_succ]
 go_wp2
 ·go_ret
  have a:=eq_of_beq ‹([62]==b)=true›
  exact⟨by rw[<-a];rfl,by go_grown⟩
 rw[rounds_succ]
 go_wp2
 ·go_ret
  have a:=eq_of_beq ‹([62,61]==b)=true›
  exact⟨by rw[<-a];rfl,by go_grown⟩
 rw[rounds_succ]
 go_wp2
 ·go_ret
  have a:=eq_of_beq ‹([43]==b)=true›
  exact⟨by rw[<-a];rfl,by go_grown⟩
 rw[rounds_succ]
 go_wp2
 ·go_ret
  have a:=eq_of_beq ‹([45]==b)=true›
  exact⟨by rw[<-a];rfl,by go_grown⟩
 rw[rounds_succ]
 go_wp2
 ·go_ret
  have a:=eq_of_beq ‹([42]==b)=true›
  exact⟨by rw[<-a];rfl,by go_grown⟩
 rw[rounds_succ]
 go_wp2
 ·go_ret
  have a:=eq_of_beq ‹([100,105,118]==b)=true›
  exact⟨by rw[<-a];rfl,by go_grown⟩
 rw[rounds_succ]
 go_wp2
 ·go_ret
  have a:=eq_of_beq ‹([109,111,100]==b)=true›
  exact⟨by rw[<-a];rfl,by go_grown⟩
 rw[rounds_succ]
 go_wp2
 go_ret
 have a:=lvl_none b ‹_› ‹_› ‹_› ‹_› ‹_› ‹_› ‹_› ‹_› ‹_› ‹_› ‹_› ‹_› ‹_›
 exact⟨by rw[a];rfl,by go_grown⟩
end Go.Proofs.YtibncofnnlbmcaaGreatDoor
namespace Go.Proofs.YtibncofnnlbmcaaGreatDoor
open Go.RowKit
open Tp (Tok hd tx at' stp X)
def RepL (w:World) (D:Nat->Prop):List X->List Value->Prop
 |[],vs=>vs=[]
 | ⟨code,pos,n,mod,name,op,left,right,args⟩ :: xs,vs=>∃(b:Nat) (av:Value) (ls rs gs vs':List Value),
   vs=.pointer (some ⟨b,0,none⟩) :: vs'/\D b /\
   w.heap[b]?=some (.cells #[.int .i64 (code:Int),.int .i64 (pos:Int),.int .i64 (n:Int),.string (bs mod),.string (bs name),.string (bs op),ls.headD (.pointer none),rs.headD (.pointer none),av] 216 (0,0)) /\
   RepL w D left ls/\ls.length<=1/\RepL w D right rs/\rs.length<=1/\RepL w D args gs/\(gs=[]/\av=.slice none 0 0\/∃g cap cur,av=.slice (some ⟨g,0,none⟩) gs.length cap/\D g/\w.heap[g]?=some (.cells cur 179 (0,0))/\gs.length<=cap/\cap<=maxLen/\cur.size=cap/\cur.toList.take gs.length=gs) /\
   RepL w D xs vs'
theorem RepL.mono {w w':World}{D D':Nat->Prop}(i:∀b,D b->b<w.heap.size->w'.heap[b]?=w.heap[b]?/\D' b):∀(n:Nat) (l:List X) (vs:List Value),SizeOf.sizeOf l<=n->RepL w D l vs->RepL w' D' l vs:=by
 intro n
 induction n with
 |zero=>intro l vs c;cases l<;>simp at c<;>omega
 |succ n ih =>
  intro l vs c h
  cases l with
  |nil=>rw[RepL]at h ⊢;exact h
  |cons x xs =>
   obtain⟨code,pos,M,L,name,N,left,right,args⟩:=x
   rw[RepL]at h ⊢
   simp at c
   obtain⟨b,r,K,rs,B,q,C,E,e,F,G,H,I,J,a,p⟩:=h
   have j:∀{k:Nat} {o:Obj},w.heap[k]?=some o->k<w.heap.size:=fun f=>by rw[Array.getElem?_eq_some_iff]at f;exact f.1
   obtain⟨s,t⟩:=i b E (j e)
   refine⟨b,r,K,rs,B,q,C,t,s.trans e,ih _ _ (by omega) F,G,ih _ _ (by omega) H,I,ih _ _ (by omega) J,?_,ih _ _ (by omega) p⟩
   rcases a with a|⟨g,cap,m,y,z,d,A⟩
   ·exact Or.inl a
   ·obtain⟨u,v⟩:=i g z (j d)
    exact Or.inr ⟨g,cap,m,y,v,u.trans d,A⟩
theorem RepL.len {w:World}{D:Nat->Prop}:∀(l:List X) (vs:List Value),RepL w D l vs->vs.length=l.length:=by
 intro l
 induction l with
 |nil=>intro vs h;rw[RepL]at h;simp[h]
 |cons x xs ih =>
  intro vs h
  obtain⟨code,pos,s,d,name,t,left,right,args⟩:=x
  rw[RepL]at h
  obtain⟨b,f,r,rs,g,e,c,i,j,k,m,n,o,p,q,a⟩:=h
  subst c
  simp[ih _ a]
theorem RepL.app {w:World}{D:Nat->Prop}:∀(l m:List X) (vs us:List Value),RepL w D l vs->RepL w D m us->RepL w D (l++m) (vs++us):=by
 intro l
 induction l with
 |nil=>intro m vs us h k;rw[RepL]at h;subst h;exact k
 |cons x xs ih =>
  intro m vs us h k
  obtain⟨code,pos,u,t,name,v,left,right,args⟩:=x
  rw[RepL]at h
  obtain⟨b,d,s,rs,e,a,f,g,i,j,n,o,p,q,r,c⟩:=h
  subst f
  rw[List.cons_append,List.cons_append,RepL]
  exact⟨b,d,s,rs,e,a++us,rfl,g,i,j,n,o,p,q,r,ih m a us c k⟩
def VX (B:Nat) (l:List X) (v:Value) (w:World):Prop:=RepL w (fun b=>B<=b) l [v]
theorem RepL.ext {w w':World}{D:Nat->Prop}{b:Nat}(k:Ext b w w')(c:¬D b){l:List X}{vs:List Value}(h:RepL w D l vs):RepL w' D l vs :=
 RepL.mono (fun i a d=>⟨k.block i d (fun e=>c (e ▸ a)),a⟩) (SizeOf.sizeOf l) l vs zn h
theorem VX.ext {w w':World}{B b:Nat}(k:Ext b w w')(a:b<B){l:List X}{v:Value}(h:VX B l v w):VX B l v w':=RepL.ext k (by omega) h
theorem VX.base {w:World}{B B':Nat}{l:List X}{v:Value}(h:VX B l v w)(a:B'<=B):VX B' l v w :=
 RepL.mono (fun _ b _=>⟨rfl,Nat.le_trans a b⟩) (SizeOf.sizeOf l) l [v] zn h
theorem St.setOnes {w:World}{p:Ps}{c r:List Tok}{o b:Nat}(h:St w p c r o b)(a:Nat)(z:Int)(k:z=a):St (w.setCell ⟨p.pb,3,none⟩ (.int .i64 z)) p c r a b:=by
 subst k
 have e:∀j v,j≠3->w.cell? ⟨p.pb,j,none⟩=some v->(w.setCell ⟨p.pb,3,none⟩ (.int .i64 (a:Int))).cell? ⟨p.pb,j,none⟩=some v:=fun j v l g=>by
  rw[World.cell?_setCell_other w ⟨p.pb,3,none⟩ ⟨p.pb,j,none⟩ _ (by simp<;>omega)];exact g
 exact⟨e 0 _ (by omega) h.c0,e 1 _ (by omega) h.c1,e 2 _ (by omega) h.c2,World.cell?_setCell_same _ _ _ h.c3,e 4 _ (by omega) h.c4,fun j=>by simpa using h.fz j,
  (Below.heap_setCell _ _ _ _ (by have:=h.apart.2;simp;omega)).trans h.kept,fun i t f=>(h.toks i t f).ext (b:=p.pb) ((Ext.refl _ _).set 3 _) (by have:=h.apart.1;omega),h.suf,h.ne,h.len,h.last,h.apart,h.dig,h.tl,⟨by simpa using h.lv.1,fun i d=>by rw[World.cell?_setCell_other w ⟨p.pb,3,none⟩ ⟨3,i,none⟩ _ (by have:=h.glt;simp<;>omega)];exact h.lv.2 i d⟩,h.glt⟩
theorem ky {w:World}{p:Ps}{a r:List Tok}{o b:Nat}(h:St w p a r o b)(B:o<=1000)(c:Except Tp.Er (List X×List Tok))
  (k:∀w1,St w1 p a r (o+1) b->w1.heap.size=w.heap.size->Ext p.pb w w1->Calls Tryz.prog 157 #[.pointer (some ⟨p.pb,0,none⟩)] w1 fun e w'=>Post p a (o+1) b w1 (VX w1.heap.size) c e w') :
  Calls Tryz.prog 190 #[.pointer (some ⟨p.pb,0,none⟩),.func (.func 157) #[.pointer (some ⟨p.pb,0,none⟩)] #[]] w fun e w'=>Post p a o b w (VX w.heap.size) c e w':=by
 have n:=zg h.c0
 have c3:=h.c3
 have j:=h.fz 3
 have t:(o:Int)<=1000:=by omega
 have q:Hid (∀w1,St w1 p a r (o+1) b->w1.heap.size=w.heap.size->Ext p.pb w w1->Calls Tryz.prog 157 #[.pointer (some ⟨p.pb,0,none⟩)] w1 fun e w'=>Post p a (o+1) b w1 (VX w1.heap.size) c e w'):=k
 clear k
 go_enter Tryz.func190,Tryz.ntmps190
 go_wp2_with fail
 refine(q.out _ (h.setOnes (o+1) _ (by omega)) (by simp) ((Ext.refl _ _).set 3 _)).mono ?_
 intro e w2 l
 have i:Ext p.pb w (w.setCell ⟨p.pb,3,none⟩ (.int .i64 ((o:Int)+1))):=(Ext.refl _ _).set 3 _
 have g:Hid (Ext p.pb w (w.setCell ⟨p.pb,3,none⟩ (.int .i64 ((o:Int)+1)))):=i
 clear i c3 j
 rcases c with er|⟨x,C⟩
 ·obtain⟨m,f⟩:=l
  obtain⟨u,y,rfl,z,A⟩:=m.out
  go_wp2_with fail
  exact⟨rfl,zt g.out m f⟩
 ·obtain⟨v,rfl,s,d,f⟩:=l
  have c3:=d.c3
  have j:=d.fz 3
  go_wp2_with fail
  go_ret
  refine⟨_,rfl,?_,d.setOnes o _ (by omega),(g.out.trans f).set 3 _⟩
  refine VX.ext ((Ext.refl _ _).set 3 _) n ?_
  simpa using s
theorem xd {w:World}{p:Ps}{a r:List Tok}{o b:Nat}(h:St w p a r o b)(B:o<=1000)(c:Except Tp.Er (List X×List Tok))
  (k:∀w1,St w1 p a r (o+1) b->w1.heap.size=w.heap.size->Ext p.pb w w1->Calls Tryz.prog 207 #[.pointer (some ⟨p.pb,0,none⟩)] w1 fun e w'=>Post p a (o+1) b w1 (VX w1.heap.size) c e w') :
  Calls Tryz.prog 190 #[.pointer (some ⟨p.pb,0,none⟩),.func (.func 207) #[.pointer (some ⟨p.pb,0,none⟩)] #[]] w fun e w'=>Post p a o b w (VX w.heap.size) c e w':=by
 have n:=zg h.c0
 have c3:=h.c3
 have j:=h.fz 3
 have t:(o:Int)<=1000:=by omega
 have q:Hid (∀w1,St w1 p a r (o+1) b->w1.heap.size=w.heap.size->Ext p.pb w w1->Calls Tryz.prog 207 #[.pointer (some ⟨p.pb,0,none⟩)] w1 fun e w'=>Post p a (o+1) b w1 (VX w1.heap.size) c e w'):=k
 clear k
 go_enter Tryz.func190,Tryz.ntmps190
 go_wp2_with fail
 refine(q.out _ (h.setOnes (o+1) _ (by omega)) (by simp) ((Ext.refl _ _).set 3 _)).mono ?_
 intro e w2 l
 have i:Ext p.pb w (w.setCell ⟨p.pb,3,none⟩ (.int .i64 ((o:Int)+1))):=(Ext.refl _ _).set 3 _
 have g:Hid (Ext p.pb w (w.setCell ⟨p.pb,3,none⟩ (.int .i64 ((o:Int)+1)))):=i
 clear i c3 j
 rcases c with er|⟨x,C⟩
 ·obtain⟨m,f⟩:=l
  obtain⟨u,y,rfl,z,A⟩:=m.out
  go_wp2_with fail
  exact⟨rfl,zt g.out m f⟩
 ·obtain⟨v,rfl,s,d,f⟩:=l
  have c3:=d.c3
  have j:=d.fz 3
  go_wp2_with fail
  go_ret
  refine⟨_,rfl,?_,d.setOnes o _ (by omega),(g.out.trans f).set 3 _⟩
  refine VX.ext ((Ext.refl _ _).set 3 _) n ?_
  simpa using s
theorem za {w:World}{b i:Nat}{cs:Array Value}{t:TypeId}(h:w.heap[b]?=some (.cells cs t (0,0))):w.cell? ⟨b,i,none⟩=cs[i]?:=by
 simp[World.cell?,h]
theorem zi {w:World}{b i:Nat}{cs:Array Value}{t:TypeId}(h:w.heap[b]?=some (.cells cs t (0,0))):w.frozen? ⟨b,i,none⟩=false:=by
 simp[World.frozen?,h]
theorem zu {w:World}{b:Nat}{cs:Array Value}{t:TypeId}(i:Nat)(v:Value)(h:w.heap[b]?=some (.cells cs t (0,0))):(w.setCell ⟨b,i,none⟩ v).heap[b]?=some (.cells (cs.setIfInBounds i v) t (0,0)):=by
 exact heap_setCell_same w b i cs t v h
theorem zf {w:World}{b:Nat}{ob:Obj}(h:w.heap[b]?=some ob):b<w.heap.size:=by rw[Array.getElem?_eq_some_iff]at h;exact h.1
theorem zo (w:World)(ob:Obj):(w.alloc ob).heap[w.heap.size]?=some ob:=by show (w.heap.push _)[w.heap.size]?=_;simp
def xcells (code pos n:Int) (mod name op:ByteArray) (lv rv av:Value):Array Value:=#[.int .i64 code,.int .i64 pos,.int .i64 n,.string mod,.string name,.string op,lv,rv,av]
def LevelC (p:Ps) (ts:List Tok) (f:Nat):Prop:=∀(w:World) (r:List Tok) (o b n:Nat),St w p ts r o b->o<=11->n<=5->Tp.ex f n o 0 [] r≠.error (99,0) ->
 Calls Tryz.prog 189 #[.pointer (some ⟨p.pb,0,none⟩),.int .i64 (n:Int)] w fun e w'=>Post p ts o b w (VX w.heap.size) (Tp.ex f n o 0 [] r) e w'
def argsS (f o:Nat) (r:List Tok):Except Tp.Er (List X×List Tok):=if tx r=Tp.mRp then .ok ([],r) else Tp.ex f 7 o 0 [] r
def VA (B:Nat) (l:List X) (v:Value) (w:World):Prop:=∃vs,RepL w (fun b=>B<=b/\v.ownBlock≠some b) l vs/\w.ownsRow B 179 1 v vs.length vs
def ArgsC (p:Ps) (ts:List Tok) (f:Nat):Prop:=∀(w:World) (r:List Tok) (o b:Nat),St w p ts r o b->o<=10->argsS f o r≠.error (99,0) ->
 Calls Tryz.prog 191 #[.pointer (some ⟨p.pb,0,none⟩)] w fun e w'=>Post p ts o b w (VA w.heap.size) (argsS f o r) e w'
theorem y6 {p:Ps}{a:List Tok}{f:Nat}(j:LevelC p a f){w:World}{r:List Tok}{o b:Nat}(h:St w p a r o b)(q:o<=11)(g:Tp.ex f 0 o 0 [] r≠.error (99,0)) :
  Calls Tryz.prog 157 #[.pointer (some ⟨p.pb,0,none⟩)] w fun e w'=>Post p a o b w (VX w.heap.size) (Tp.ex f 0 o 0 [] r) e w':=by
 generalize c:Tp.ex f 0 o 0 [] r=res at g
 have d:=j w r o b 0 h q (by omega) (by rw[c];exact g)
 rw[c]at d
 have n:Hid (Calls Tryz.prog 189 #[.pointer (some ⟨p.pb,0,none⟩),.int .i64 ((0:Nat):Int)] w fun e w'=>Post p a o b w (VX w.heap.size) res e w'):=d
 clear d j c g
 go_enter Tryz.func157,Tryz.ntmps157
 go_wp2_with fail
 refine n.out.mono ?_
 intro e B k
 rcases res with er|⟨x,A⟩
 ·obtain⟨l,i⟩:=k
  obtain⟨t,u,rfl,y,z⟩:=l.out
  go_wp2_with fail
  exact⟨rfl,l,i⟩
 ·obtain⟨v,rfl,s,m,i⟩:=k
  go_wp2_with fail
  go_ret
  exact⟨_,rfl,s,m,i⟩
theorem zq {B b:Nat}{w w':World}(h:Below B w w')(a:B<=b)(i:Nat)(v:Value):Below B w (w'.setCell ⟨b,i,none⟩ v):=h.setCell a v
theorem VX.ptr {B:Nat}{l:List X}{v:Value}{w:World}(h:VX B l v w):∃bb,v=.pointer (some ⟨bb,0,none⟩):=by
 unfold VX at h
 cases l with
 |nil=>rw[RepL]at h;simp at h
 |cons x xs =>
  obtain⟨code,pos,i,c,name,j,left,right,args⟩:=x
  rw[RepL]at h
  obtain⟨b,e,g,rs,f,d,a,_⟩:=h
  simp at a
  exact⟨b,a.1⟩
theorem VA.ext {w w':World}{B b:Nat}(k:Ext b w w')(d:b<B){l:List X}{v:Value}(h:VA B l v w):VA B l v w':=by
 obtain⟨vs,a,c⟩:=h
 exact⟨vs,RepL.ext k (by omega) a,zA c k d⟩
theorem VA.base {w:World}{B B':Nat}{l:List X}{v:Value}(h:VA B l v w)(b:B'<=B):VA B' l v w:=by
 obtain⟨vs,e,a⟩:=h
 refine⟨vs,RepL.mono (fun _ c _=>⟨rfl,Nat.le_trans b c.1,c.2⟩) (SizeOf.sizeOf l) l vs zn e,a.1,?_⟩
 rcases a.2 with q|⟨g,cap,d,f,i,j⟩
 ·exact Or.inl q
 ·exact Or.inr ⟨g,cap,d,f,Nat.le_trans b i,j⟩
theorem VX.node {w:World}{B b:Nat}{code pos n:Nat}{m name r:List UInt8}{left right args:List X}{d e c:Value}(o:B<=b)
  (j:w.heap[b]?=some (.cells (xcells code pos n (bs m) (bs name) (bs r) d e c) 216 (0,0)))
  (y:left=[]/\d=.pointer none\/VX B left d w)(z:right=[]/\e=.pointer none\/VX B right e w)(u:args=[]/\c=.slice none 0 0\/VA B args c w) :
  VX B [⟨code,pos,n,m,name,r,left,right,args⟩] (.pointer (some ⟨b,0,none⟩)) w:=by
 have k:∀(l:List X) (v:Value),(l=[]/\v=.pointer none\/VX B l v w)->∃a:List Value,v=a.headD (.pointer none)/\RepL w (fun b=>B<=b) l a/\a.length<=1:=by
  intro l v h
  rcases h with⟨rfl,rfl⟩|h
  ·exact⟨[],rfl,by rw[RepL],by simp⟩
  ·exact⟨[v],rfl,h,by simp⟩
 obtain⟨a,rfl,p,q⟩:=k left d y
 obtain⟨rs,rfl,s,t⟩:=k right e z
 unfold VX
 rw[RepL]
 rcases u with⟨rfl,rfl⟩|⟨vs,a1,a2⟩
 ·exact⟨b,.slice none 0 0,a,rs,[],[],rfl,o,j,p,q,s,t,by rw[RepL],Or.inl ⟨rfl,rfl⟩,by rw[RepL]⟩
 ·refine⟨b,c,a,rs,vs,[],rfl,o,j,p,q,s,t,RepL.mono (fun _ x _=>⟨rfl,x.1⟩) (SizeOf.sizeOf args) _ _ zn a1,?_,by rw[RepL]⟩
  rcases a2.2 with⟨f,i⟩|⟨g,cap,cur,f,i,q3,q4,q5,q6,q7⟩
  ·exact Or.inl ⟨List.eq_nil_of_length_eq_zero i,f⟩
  ·exact Or.inr ⟨g,cap,cur,f,i,q3,q4,q5,by simpa using q6,by simpa using q7⟩
def namedT (f o pos:Nat) (m n:List UInt8) (r2:List Tok):Except Tp.Er (List X×List Tok) :=
 if tx r2=Tp.mLb then do
  let (x,r3) <- Tp.ex f 0 (o+1) 0 [] (stp r2)
  let r4 <- Tp.want Tp.mRb r3
  .ok ([⟨3,pos,0,m,n,[],x,[],[]⟩],r4)
 else if tx r2=Tp.mLp then do
  let (l,r3) <- argsS f o (stp r2)
  let r4 <- Tp.want Tp.mRp r3
  .ok ([⟨6,pos,0,m,n,[],[],[],l⟩],r4)
 else .ok ([⟨2,pos,0,m,n,[],[],[],[]⟩],r2)
theorem ex6_bad {f o:Nat}{r:List Tok}{er:Tp.Er}(h:Tp.name r=.error er):Tp.ex (f+1) 6 o 0 [] r=.error er:=by
 rw[Tp.ex,h];rfl
theorem qp {f o:Nat}{r a:List Tok}{c:List UInt8}{er:Tp.Er}(h:Tp.name r=.ok (c,a))(hd:tx a=Tp.mDot)(b:Tp.name (stp a)=.error er):Tp.ex (f+1) 6 o 0 [] r=.error er:=by
 rw[Tp.ex];simp only[h,hd,b,bind,Except.bind];rfl
theorem vQ (f o pos:Nat)(m n:List UInt8)(a:List Tok) :
  (if tx a=Tp.mLb then do
   let (x,r3) <- Tp.ex f 0 (o+1) 0 [] (stp a)
   let r4 <- Tp.want Tp.mRb r3
   .ok ([⟨3,pos,0,m,n,[],x,[],[]⟩],r4)
  else if tx a=Tp.mLp then
   if tx (stp a)=Tp.mRp then .ok ([⟨6,pos,0,m,n,[],[],[],[]⟩],stp (stp a))
   else do
    let (l,r3) <- Tp.ex f 7 o 0 [] (stp a)
    let r4 <- Tp.want Tp.mRp r3
    .ok ([⟨6,pos,0,m,n,[],[],[],l⟩],r4)
  else .ok ([⟨2,pos,0,m,n,[],[],[],[]⟩],a):Except Tp.Er (List X×List Tok))=namedT f o pos m n a:=by
 unfold namedT argsS
 by_cases c:tx a=Tp.mLb
 ·simp only[c,if_true]
 ·by_cases b:tx a=Tp.mLp
  ·by_cases d:tx (stp a)=Tp.mRp
   ·simp[b,d,bind,Except.bind,Tp.want]
   ·simp[b,d]
  ·simp only[c,b,if_false]
theorem ex6_dot {f o:Nat}{r a d:List Tok}{b c:List UInt8}(h:Tp.name r=.ok (b,a))(hd:tx a=Tp.mDot)(e:Tp.name (stp a)=.ok (c,d)):Tp.ex (f+1) 6 o 0 [] r=namedT f o (at' r) b c d:=by
 rw[Tp.ex,<-vQ]
 simp only[h,hd,e,bind,Except.bind,if_true]
 rfl
theorem ex6_no {f o:Nat}{r a:List Tok}{b:List UInt8}(h:Tp.name r=.ok (b,a))(hd:¬tx a=Tp.mDot):Tp.ex (f+1) 6 o 0 [] r=namedT f o (at' r) [] b a:=by
 rw[Tp.ex,<-vQ]
 simp only[h,hd,bind,Except.bind,if_false]
 rfl
theorem uQ {w:World}{p:Ps}{d r c:List Tok}{o b:Nat}{nm:List UInt8}(h:St w p d r o b)(i:Hid (Tp.name r=.ok (nm,c))) :
  Calls Tryz.prog 62 #[.pointer (some ⟨p.pb,0,none⟩)] w fun e w'=>e=.returned (.string (bs nm))/\St w' p d c o b/\Ext p.pb w w':=by
 refine(yN h).mono ?_
 intro e w' a
 rw[i.out]at a
 obtain⟨v,f,rfl,g⟩:=a
 exact⟨f,g⟩
theorem uR {w:World}{p:Ps}{d r:List Tok}{o b:Nat}{er:Tp.Er}(h:St w p d r o b)(c:Hid (Tp.name r=.error er)) :
  Calls Tryz.prog 62 #[.pointer (some ⟨p.pb,0,none⟩)] w fun e w'=>Thrown w.heap.size er e w'/\Ext p.pb w w':=by
 refine(yN h).mono ?_
 intro e w' a
 rw[c.out]at a
 exact a
theorem zB (w:World):Below w.heap.size w w.drew:=(Below.refl _ _).drew
theorem named_post {p:Ps}{g:List Tok}{f:Nat}(hL:LevelC p g f)(hA:ArgsC p g f){w:World}{r:List Tok}{o b:Nat}(h:St w p g r o b)(ho:o<=10)(hn:Tp.ex (f+1) 6 o 0 [] r≠.error (99,0)) :
  Calls Tryz.prog 158 #[.pointer (some ⟨p.pb,0,none⟩)] w fun e w'=>Post p g o b w (VX w.heap.size) (Tp.ex (f+1) 6 o 0 [] r) e w':=by
 have HL:Hid (LevelC p g f):=hL
 have HA:Hid (ArgsC p g f):=hA
 have e1:=zg h.c0
 have HN:Hid (Tp.ex (f+1) 6 o 0 [] r≠.error (99,0)):=hn
 clear hL hA hn
 go_enter Tryz.func158,Tryz.ntmps158
 go_wp2_with fail
 refine(zK h).mono ?_
 rintro e w1⟨rfl,a1⟩
 have d8:=a1.size
 go_wp2_with fail
 refine(yN (h.below a1)).mono ?_
 intro e w2 d
 generalize z:Tp.name r=res at d
 rcases res with er|⟨nm,J⟩
 ·have HR:Hid (Tp.name r=.error er):=z
  clear z
  obtain⟨i,a3⟩:=d
  obtain⟨ab,N,rfl,h2,h3⟩:=i.out
  go_wp2_with fail
  refine⟨rfl,?_⟩
  rw[ex6_bad HR.out]
  exact zt (Ext.below a1) i a3
 ·have HR:Hid (Tp.name r=.ok (nm,J)):=z
  clear z
  obtain⟨v,rfl,rfl,c7,a3⟩:=d
  have d9:=a3.size
  go_wp2_with fail
  have b8:∀ob,Below w2.heap.size w2 (w2.alloc ob):=fun ob=>zb _ _
  refine(zP (c7.below (b8 _)) Tp.mDot _ rfl).mono ?_
  rintro e j⟨rfl,Z,c1⟩
  obtain⟨a,d2⟩:∃a,a=w2.heap.size:=⟨_,rfl⟩
  have q:j.heap[w2.heap.size]?=some (.cells (xcells 2 (hd r).pos 0 ⟨#[]⟩ (bs nm) ⟨#[]⟩ (.pointer none) (.pointer none) (.slice none 0 0)) 216 (0,0)):=by
   rw[c1.block _ (by simp) (by omega)];exact zo _ _
  have b7:Ext p.pb w j:=((Ext.below a1).trans a3).trans ((Ext.below (b8 _)).trans c1)
  clear b8 c1 a3 c7 a1
  rw[<-d2]at q ⊢
  have T:w.heap.size<=a:=by omega
  have c2:p.pb<a:=by omega
  clear d2
  go_upto_if 12 with fail
  go_cut [] (fun wc=>∃m n c,St wc p g c o b/\wc.heap[a]?=some (.cells (xcells 2 (hd r).pos 0 (bs m) (bs n) ⟨#[]⟩ (.pointer none) (.pointer none) (.slice none 0 0)) 216 (0,0))/\Ext p.pb w wc/\Tp.ex (f+1) 6 o 0 [] r=namedT f o (at' r) m n c)
  case first =>
   by_cases G:tx J=Tp.mDot
   ·have Y:=decide_eq_true G
    rw[if_pos G]at Z
    have HD:Hid (tx J=Tp.mDot):=G
    clear G
    have d7:=zf q
    have k3:j.cell? ⟨a,3,none⟩=some (.string ⟨#[]⟩):=za q
    have k4:j.cell? ⟨a,4,none⟩=some (.string (bs nm)):=za q
    have z3:j.frozen? ⟨a,3,none⟩=false:=zi q
    have z4:j.frozen? ⟨a,4,none⟩=false:=zi q
    rcases hres2:Tp.name (stp J) with er|⟨c3,c⟩
    ·have a0:Hid (Tp.name (stp J)=.error er):=hres2
     clear hres2
     have c5:∀e w',Thrown j.drew.heap.size er e w'/\Ext p.pb j.drew w'->Post p g o b w (VX w.heap.size) (Tp.ex (f+1) 6 o 0 [] r) e w':=by
      intro e w' d
      rw[qp HR.out HD.out a0.out]
      exact zt (b7.trans (Ext.below (zB j))) d.1 d.2
     have HF:Hid (∀e w',Thrown j.drew.heap.size er e w'/\Ext p.pb j.drew w'->Post p g o b w (VX w.heap.size) (Tp.ex (f+1) 6 o 0 [] r) e w'):=c5
     clear c5
     go_wp2_with fail
     go_region_dies
     all_goals (refine(uR (Z.below (zB j)) a0).mono ?_;intro e Q d;obtain⟨ab,N,h0,h2,h3⟩:=d.1.out;subst h0;exact⟨rfl,HF.out _ _ d⟩)
    ·have a0:Hid (Tp.name (stp J)=.ok (c3,c)):=hres2
     clear hres2
     go_wp2_with fail
     go_region_with (go_at_call 62;refine(uQ (Z.below (zB j)) a0).mono ?_;rintro e Q ⟨rfl,d3,d1⟩;have V:=(d1.block a (by simpa using d7) (by omega)).trans q;have y3:Q.cell? ⟨a,3,none⟩=some (.string ⟨#[]⟩):=za V;have y4:Q.cell? ⟨a,4,none⟩=some (.string (bs nm)):=za V;have e2:Q.frozen? ⟨a,3,none⟩=false:=zi V;have e3:Q.frozen? ⟨a,4,none⟩=false:=zi V)
     all_goals
      go_wp2_with fail
      go_meet
      case rel =>
       have c8:Below a Q ((Q.setCell ⟨a,3,none⟩ (.string (bs nm))).setCell ⟨a,4,none⟩ (.string (bs c3))):=zq (zq (Below.refl _ _) zn 3 _) zn 4 _
       exact⟨nm,c3,c,d3.belowB c8 c2,zu 4 _ (zu 3 _ V),((b7.trans (Ext.below (zB j))).trans d1).trans' (c8.mono T),ex6_dot HR.out HD.out a0.out⟩
   ·have Y:=decide_eq_false G
    rw[if_neg G]at Z
    have HD:Hid (¬tx J=Tp.mDot):=G
    clear G
    go_wp2_with fail
    go_meet
    case rel=>exact⟨[],nm,J,Z,q,b7,ex6_no HR.out HD.out⟩
  case rest =>
   obtain⟨m,n,c,b9,q,b5,c4⟩:=hcut
   have D:Hid (Tp.ex (f+1) 6 o 0 [] r=namedT f o (at' r) m n c):=c4
   have e0:=zm
   clear c4
   go_wp2_with fail
   refine(zP b9 Tp.mLb _ rfl).mono ?_
   rintro e w5⟨rfl,R,b1⟩
   have X:=(b1.block a (zf q) (by omega)).trans q
   have a7:=b5.trans b1
   have b6:=zf X
   by_cases H:tx c=Tp.mLb
   ·have Y:=decide_eq_true H
    rw[if_pos H]at R
    have A:Hid (tx c=Tp.mLb):=H
    clear H
    have a2:Tp.ex f 0 (o+1) 0 [] (stp c)≠.error (99,0):=by
     intro e;apply HN.out;rw[D.out];unfold namedT;rw[if_pos A.out,e];rfl
    have P:=fun W (hW:St W p g (stp c) o b)=>ky hW (by omega) (Tp.ex f 0 (o+1) 0 [] (stp c)) (fun w1 N _ _=>y6 HL.out N (by omega) a2)
    generalize z:Tp.ex f 0 (o+1) 0 [] (stp c)=res at P
    have M:Hid (Tp.ex f 0 (o+1) 0 [] (stp c)=res):=z
    have HW:Hid (∀W,St W p g (stp c) o b->Calls Tryz.prog 190 #[.pointer (some ⟨p.pb,0,none⟩),.func (.func 157) #[.pointer (some ⟨p.pb,0,none⟩)] #[]] W fun e w'=>Post p g o b W (VX W.heap.size) res e w'):=P
    clear P z a2
    go_wp2_with fail
    refine(HW.out _ R).mono ?_
    intro e u d
    rcases res with er|⟨x,t⟩
    ·obtain⟨i,C⟩:=d
     obtain⟨ab,N,rfl,h2,h3⟩:=i.out
     go_wp2_with fail
     refine⟨rfl,?_⟩
     rw[D.out,show namedT f o (at' r) m n c=.error er by unfold namedT;rw[if_pos A.out,M.out];rfl]
     exact zt a7 i C
    ·obtain⟨v,rfl,O,F,C⟩:=d
     obtain⟨bb,rfl⟩:=O.ptr
     have s:=(C.block a b6 (by omega)).trans X
     have k0:u.cell? ⟨a,0,none⟩=some (.int .i64 2):=za s
     have k6:u.cell? ⟨a,6,none⟩=some (.pointer none):=za s
     have z0:u.frozen? ⟨a,0,none⟩=false:=zi s
     have z6:u.frozen? ⟨a,6,none⟩=false:=zi s
     go_wp2_with fail
     clear k0 k6 z0 z6
     have a9:Below a u ((u.setCell ⟨a,0,none⟩ (.int .i64 3)).setCell ⟨a,6,none⟩ (.pointer (some ⟨bb,0,none⟩))):=zq (zq (Below.refl _ _) zn 0 _) zn 6 _
     have y:=zu 6 (.pointer (some ⟨bb,0,none⟩)) (zu 0 (.int .i64 3) s)
     have c9:VX w5.heap.size x (.pointer (some ⟨bb,0,none⟩)) ((u.setCell ⟨a,0,none⟩ (.int .i64 3)).setCell ⟨a,6,none⟩ (.pointer (some ⟨bb,0,none⟩))):=VX.ext (((Ext.refl a u).set 0 _).set 6 _) b6 O
     have K:=F.belowB a9 c2
     have b3:=(a7.trans C).trans' (a9.mono T)
     generalize (u.setCell ⟨a,0,none⟩ (.int .i64 3)).setCell ⟨a,6,none⟩ (.pointer (some ⟨bb,0,none⟩))=B at a9 y c9 K b3 ⊢
     have d5:=a7.size
     clear s a9 O F C R X b1 b9 b5
     by_cases k:tx t=Tp.mRb
     ·refine(zF K Tp.mRb _ rfl k).mono ?_
      rintro e w8⟨rfl,S,a5⟩
      have L:Hid (tx t=Tp.mRb):=k
      clear k K
      go_wp2_with fail
      go_ret
      rw[D.out,show namedT f o (at' r) m n c=.ok ([⟨3,at' r,0,m,n,[],x,[],[]⟩],stp t) by unfold namedT;rw[if_pos A.out,M.out];simp only[bind,Except.bind,Tp.want,if_pos L.out]]
      exact⟨_,rfl,VX.node T ((a5.block a (zf y) (by omega)).trans y) (Or.inr ((VX.ext a5 (by omega) c9).base d5)) (Or.inl ⟨rfl,rfl⟩) (Or.inl ⟨rfl,rfl⟩),S,b3.trans a5⟩
     ·refine(zM K Tp.mRb _ rfl k).mono ?_
      rintro e w8⟨i,a5⟩
      have L:Hid (¬tx t=Tp.mRb):=k
      clear k
      obtain⟨ab,N,rfl,h2,h3⟩:=i.out
      go_wp2_with fail
      refine⟨rfl,?_⟩
      rw[D.out,show namedT f o (at' r) m n c=.error (3,at' t) by unfold namedT;rw[if_pos A.out,M.out];simp only[bind,Except.bind,Tp.want,if_neg L.out]]
      exact zt b3 i a5
   ·have Y:=decide_eq_false H
    rw[if_neg H]at R
    have A:Hid (¬tx c=Tp.mLb):=H
    clear H
    go_wp2_with fail
    refine(zP R Tp.mLp _ rfl).mono ?_
    rintro e u⟨rfl,F,C⟩
    have s:=(C.block a b6 (by omega)).trans X
    have a8:=a7.trans C
    have c6:=zf s
    clear R b1 b9 b5 q X
    by_cases I:tx c=Tp.mLp
    ·have Y:=decide_eq_true I
     rw[if_pos I]at F
     have U:Hid (tx c=Tp.mLp):=I
     clear I
     have a2:argsS f o (stp c)≠.error (99,0):=by
      intro e;apply HN.out;rw[D.out];unfold namedT;rw[if_neg A.out,if_pos U.out,e];rfl
     have P:=fun W (hW:St W p g (stp c) o b)=>HA.out W (stp c) o b hW ho a2
     generalize z:argsS f o (stp c)=res at P
     have M:Hid (argsS f o (stp c)=res):=z
     have HW:Hid (∀W,St W p g (stp c) o b->Calls Tryz.prog 191 #[.pointer (some ⟨p.pb,0,none⟩)] W fun e w'=>Post p g o b W (VA W.heap.size) res e w'):=P
     clear P z a2
     go_wp2_with fail
     refine(HW.out _ F).mono ?_
     intro e B d
     rcases res with er|⟨l,t⟩
     ·obtain⟨i,a4⟩:=d
      obtain⟨ab,N,rfl,h2,h3⟩:=i.out
      go_wp2_with fail
      refine⟨rfl,?_⟩
      rw[D.out,show namedT f o (at' r) m n c=.error er by unfold namedT;rw[if_neg A.out,if_pos U.out,M.out];rfl]
      exact zt a8 i a4
     ·obtain⟨v,rfl,O,K,a4⟩:=d
      obtain⟨E,cap,rfl⟩:∃E cap,v=.slice E l.length cap:=by
       obtain⟨vs,q1,q2⟩:=O
       obtain⟨E,cap,q3⟩:=zw q2
       exact⟨E,cap,by rw[q3,RepL.len _ _ q1]⟩
      have y:=(a4.block a c6 (by omega)).trans s
      have k0:B.cell? ⟨a,0,none⟩=some (.int .i64 2):=za y
      have k8:B.cell? ⟨a,8,none⟩=some (.slice none 0 0):=za y
      have z0:B.frozen? ⟨a,0,none⟩=false:=zi y
      have z8:B.frozen? ⟨a,8,none⟩=false:=zi y
      go_wp2_with fail
      clear k0 k8 z0 z8
      have b0:Below a B ((B.setCell ⟨a,0,none⟩ (.int .i64 6)).setCell ⟨a,8,none⟩ (.slice E l.length cap)):=zq (zq (Below.refl _ _) zn 0 _) zn 8 _
      have b2:=zu 8 (.slice E l.length cap) (zu 0 (.int .i64 6) y)
      have d0:VA u.heap.size l (.slice E l.length cap) ((B.setCell ⟨a,0,none⟩ (.int .i64 6)).setCell ⟨a,8,none⟩ (.slice E l.length cap)):=VA.ext (((Ext.refl a B).set 0 _).set 8 _) c6 O
      have S:=K.belowB b0 c2
      have b4:=(a8.trans a4).trans' (b0.mono T)
      generalize (B.setCell ⟨a,0,none⟩ (.int .i64 6)).setCell ⟨a,8,none⟩ (.slice E l.length cap)=w8 at b0 b2 d0 S b4 ⊢
      have d6:=a8.size
      clear y b0 O K a4 F s C
      by_cases k:tx t=Tp.mRp
      ·refine(zF S Tp.mRp _ rfl k).mono ?_
       rintro e w9⟨rfl,d4,a6⟩
       have L:Hid (tx t=Tp.mRp):=k
       clear k S
       go_wp2_with fail
       go_ret
       rw[D.out,show namedT f o (at' r) m n c=.ok ([⟨6,at' r,0,m,n,[],[],[],l⟩],stp t) by unfold namedT;rw[if_neg A.out,if_pos U.out,M.out];simp only[bind,Except.bind,Tp.want,if_pos L.out]]
       exact⟨_,rfl,VX.node T ((a6.block a (zf b2) (by omega)).trans b2) (Or.inl ⟨rfl,rfl⟩) (Or.inl ⟨rfl,rfl⟩) (Or.inr ((VA.ext a6 (by omega) d0).base d6)),d4,b4.trans a6⟩
      ·refine(zM S Tp.mRp _ rfl k).mono ?_
       rintro e w9⟨i,a6⟩
       have L:Hid (¬tx t=Tp.mRp):=k
       clear k
       obtain⟨ab,N,rfl,h2,h3⟩:=i.out
       go_wp2_with fail
       refine⟨rfl,?_⟩
       rw[D.out,show namedT f o (at' r) m n c=.error (3,at' t) by unfold namedT;rw[if_neg A.out,if_pos U.out,M.out];simp only[bind,Except.bind,Tp.want,if_neg L.out]]
       exact zt b4 i a6
    ·have Y:=decide_eq_false I
     rw[if_neg I]at F
     have U:Hid (¬tx c=Tp.mLp):=I
     clear I
     go_wp2_with fail
     go_ret
     rw[D.out,show namedT f o (at' r) m n c=.ok ([⟨2,at' r,0,m,n,[],[],[],[]⟩],c) by unfold namedT;rw[if_neg A.out,if_neg U.out]]
     exact⟨_,rfl,VX.node T s (Or.inl ⟨rfl,rfl⟩) (Or.inl ⟨rfl,rfl⟩) (Or.inl ⟨rfl,rfl⟩),F,a8⟩
theorem yK {P:Program}(w:World)(x:Nat)(t q e:TypeId)(i:TypeInfo)(z:Value)(size f:Nat)(A:P.underlying t=some (.slice e))(y:P.info? e=some i)(I:i.zero=some z)
  (h:i.size=size)(E:i.bytes=f)(G:z.cells.size=size)(F:0<size)
  (v:Value)(n:Nat)(d:List Value)(k:w.ownsRow x e size v n d)
  (a:Addr)(m c:Nat)(b:List Value)(p:b.length=m*size)(s:∀j u,b[j]?=some u->w.cell? (a.add j)=some u)(H:∀u∈b,u.oneCell'=true)
  (D:n+m<=maxLen)(C:(n+m)*f<=140737488355328)(L:x<=w.heap.size) :
  ∃r w',(Builtin.append_ #[t,t] q #[v,.slice (some a) m c]).run P w=.ok r w'/\w'.ownsRow x e size r (n+m) (d++b)/\w.grownBy w' v.ownBlock /\
   (∀g,r.ownBlock=some g->v.ownBlock=some g\/w.heap.size<=g):=by
 obtain⟨r,w',B,O,Q,_⟩:=run_append_own (P:=P) w x t q e i z size f A y I h E G F v n d k a m c b p s H D C L
 refine⟨r,w',B,O,Q,?_⟩
 rcases k.2 with⟨rfl,rfl⟩|⟨g,cap,cur,rfl,q1,q2,q3,q4,q5,q6⟩
 ·have N:d=[]:=List.eq_nil_of_length_eq_zero (by simpa using k.1)
  subst N
  obtain⟨R,w2,s1,s2,_⟩:=run_append_own (P:=P) w w.heap.size t q e i z size f A y I h E G F (.slice none 0 0) 0 [] (World.ownsRow_nil _ _ _ _) a m c b p s H D C zn
  rw[B]at s1
  cases s1
  intro g l
  exact Or.inr (zU s2 g l)
 ·have S:∀j,j<cap*size->w.cell? ⟨g,j,none⟩=cur[j]?:=fun j _=>za q2
  by_cases J:n+m<=cap
  ·have T:n*size+b.length<=cap*size:=by rw[p,<-Nat.add_mul];exact Nat.mul_le_mul_right _ J
   have s1:=run_append_room_cells (P:=P) w t q e i A y g 0 n cap a m c b (by rw[h];exact p) s H J
    (fun j o=>by rw[h,za q2,Nat.zero_add,Array.getElem?_eq_getElem (by omega)];rfl) (fun j o=>zi q2)
   rw[B]at s1
   cases s1
   intro K l
   exact Or.inl l
  ·obtain⟨R,w2,s1,s2,_⟩:=run_append_arg_grows (P:=P) w t q e i z size f A y I h E G F ⟨g,0,none⟩ n cap d k.1
    (fun j u o=>by
     have M:j<d.length:=by rw[List.getElem?_eq_some_iff]at o;exact o.1
     rw[Addr.add_lit,za q2,Nat.zero_add,<-Array.getElem?_toList,<-o,<-q6,List.getElem?_take_of_lt (by rw[<-k.1];exact M)])
    a m c b p s (by omega) D C
   rw[B]at s1
   cases s1
   intro K l
   exact Or.inr (zU s2 K l)
theorem zC {P:Program}(w:World){ops:Array Oper}{rest:List Oper}{o:Oper}{a:Act}{Q:Exit->Act->World->Prop}(E:o.guard=none)(s x:Operand)(t:TypeId)
  (M:o.op=.call { callee:=.builtin .append,args:=#[s,x],argTypes:=#[t,t] })
  (f:Nat)(e:TypeId)(i:TypeInfo)(z:Value)(size k:Nat)(O:P.underlying t=some (.slice e))(J:P.info? e=some i)(S:i.zero=some z)
  (A:i.size=size)(D:i.bytes=k)(G:z.cells.size=size)(F:0<size)
  (v:Value)(n:Nat)(p:List Value)(N:a.eval s=v)(B:w.ownsRow f e size v n p)
  (l:Addr)(m c:Nat)(b:List Value)(R:a.eval x=.slice (some l) m c)(L:b.length=m*size)(y:∀j u,b[j]?=some u->w.cell? (l.add j)=some u)(H:∀u∈b,u.oneCell'=true)
  (C:n+m<=maxLen)(q:(n+m)*k<=140737488355328)(r:f<=w.heap.size)
  (h:∀d w',w'.ownsRow f e size d (n+m) (p++b)->w.grownBy w' v.ownBlock->(∀g,d.ownBlock=some g->v.ownBlock=some g\/w.heap.size<=g)->wpList P ops Q rest (a.put o.dst d) w'):wpList P ops Q (o :: rest) a w:=by
 refine wpList_plain E fun K I=>?_
 obtain⟨d,w',T,U,V,W⟩:=yK (P:=P) w f t o.type e i z size k O J S A D G F v n p B l m c b L y H C q r
 unfold Oper.wp
 simp[execOp,M,resolve,invoke,builtin,N,R,T,Result.andThen]
 exact I _ _ (h d w' U V W)
end Go.Proofs.YtibncofnnlbmcaaGreatDoor
