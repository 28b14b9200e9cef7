import Derived.Test.YtibncofnnlbmcaaGreatDoorKWg
import Derived.Deep.RegionLawGrows
set_option maxRecDepth 100000
set_option maxHeartbeats 4000000
namespace Go.Proofs.YtibncofnnlbmcaaGreatDoor
open Go.RowKit
open Tp (Tok hd tx at' stp X S G Pr)
theorem zY {P:Program}{ops:Array Oper}{o:Oper}{a:Act}{w:World}{K:Act->World->Prop}{Q:Exit->Act->World->Prop}{E:Prop}
  (J:o.guard=none)(s x:Operand)(t:TypeId)(D:o.op=Op.call { callee:=Callee.builtin Builtin.append,args:=#[s,x],argTypes:=#[t,t] })
  (f:Nat)(e:TypeId)(i:TypeInfo)(z:Value)(size h:Nat)(O:P.underlying t=some (.slice e))(L:P.info? e=some i)(T:i.zero=some z)
  (y:i.size=size)(C:i.bytes=h)(G:z.cells.size=size)(F:0<size)
  (v:Value)(n:Nat)(l:List Value)(N:a.eval s=v)(A:w.ownsRow f e size v n l)
  (k:Addr)(m c:Nat)(b:List Value)(S:a.eval x=.slice (some k) m c)(M:b.length=m*size)(r:∀j u,b[j]?=some u->w.cell? (k.add j)=some u)(H:∀u∈b,u.oneCell'=true)
  (B:n+m<=maxLen)(p:(n+m)*h<=140737488355328)(q:f<=w.heap.size)
  (I:∀d w',w'.ownsRow f e size d (n+m) (l++b)->w.grownBy w' v.ownBlock->(∀g,d.ownBlock=some g->v.ownBlock=some g\/w.heap.size<=g)->K (a.put o.dst d) w') :
  if Region.wanted o (yielded ops a.tmps)=true then Oper.wp P o a w K Q else E:=by
 have R:Region.wanted o (yielded ops a.tmps)=true:=by simp[Region.wanted,J]
 rw[if_pos R]
 obtain⟨d,w',U,V,W,X⟩:=yK (P:=P) w f t o.type e i z size h O L T y C G F v n l A k m c b M r H B p q
 unfold Oper.wp
 simp[execOp,D,resolve,invoke,builtin,N,S,U,Result.andThen]
 exact I d w' V W X
def Row (w:World) (D:Nat->Prop) (e size:Nat) (v:Value) (n:Nat) (cs:List Value):Prop :=
 v=.slice none 0 0/\n=0/\cs=[]\/∃g cap cur,v=.slice (some ⟨g,0,none⟩) n cap/\D g/\w.heap[g]?=some (.cells cur e (0,0))/\n<=cap/\cap<=maxLen/\cur.size=cap*size/\cur.toList.take (n*size)=cs
theorem Row.mono {w w':World}{D D':Nat->Prop}(l:∀b,D b->b<w.heap.size->w'.heap[b]?=w.heap[b]?/\D' b){e size:Nat}{v:Value}{n:Nat}{cs:List Value}(h:Row w D e size v n cs):Row w' D' e size v n cs:=by
 rcases h with h|⟨g,cap,c,i,j,a,k⟩
 ·exact Or.inl h
 ·obtain⟨d,f⟩:=l g j (zf a)
  exact Or.inr ⟨g,cap,c,i,f,d.trans a,k⟩
theorem Row.of_owns {w:World}{a e size n:Nat}{v:Value}{cs:List Value}(h:w.ownsRow a e size v n cs):Row w (fun b=>a<=b/\v.ownBlock=some b) e size v n cs:=by
 rcases h.2 with⟨rfl,rfl⟩|⟨g,cap,cur,rfl,q1,q2,q3,q4,q5,q6⟩
 ·exact Or.inl ⟨rfl,rfl,List.eq_nil_of_length_eq_zero (by simpa using h.1)⟩
 ·exact Or.inr ⟨g,cap,cur,rfl,⟨q1,rfl⟩,q2,q3,q4,q5,q6⟩
def RepP (w:World) (D:Nat->Prop):List Pr->List Value->Prop
 |[],cs=>cs=[]
 |c :: l,cs=>∃(pv vv bv:Value) (bcs cs':List Value),
   cs=(pcells (bs c.name) (c.pos:Int) c.seen pv vv bv).toList++cs'/\Row w D 9 1 pv c.params.length (strs c.params)/\Row w D 9 1 vv c.vars.length (strs c.vars) /\
   RepS w D c.body bcs/\OwnS w D bv c.body.length bcs/\RepP w D l cs'
theorem RepP.mono {w w':World}{D D':Nat->Prop}(a:∀b,D b->b<w.heap.size->w'.heap[b]?=w.heap[b]?/\D' b):∀(l:List Pr) (cs:List Value),RepP w D l cs->RepP w' D' l cs:=by
 intro l
 induction l with
 |nil=>intro cs h;exact h
 |cons c l ih =>
  intro cs h
  obtain⟨o,vv,f,e,d,g,i,j,k,m,n⟩:=h
  exact⟨o,vv,f,e,d,g,i.mono a,j.mono a,k.mono' a,m.mono a,ih d n⟩
theorem RepP.app {w:World}{D:Nat->Prop}:∀(l m:List Pr) (cs us:List Value),RepP w D l cs->RepP w D m us->RepP w D (l++m) (cs++us):=by
 intro l
 induction l with
 |nil=>intro m cs us h k;rw[show cs=[] from h];exact k
 |cons c l ih =>
  intro m cs us h k
  obtain⟨o,vv,d,b,a,e,f,g,i,j,n⟩:=h
  exact⟨o,vv,d,b,a++us,by rw[e,List.append_assoc],f,g,i,j,ih m a us n k⟩
def gcs (l:List G):List Value:=(l.map fun g=>(gcells (bs g.name) (g.pos:Int) (g.len:Int) g.seen).toList).flatten
theorem qi (l m:List G):gcs (l++m)=gcs l++gcs m:=by simp[gcs]
def mcells (name:ByteArray) (iv gv pv bv:Value):Array Value:=#[.string name,iv,gv,pv,bv]
structure MS (w:World) (rb:Nat) (nm:List UInt8) (is:List (List UInt8)) (gs:List G) (ps:List Pr) (iv gv pv:Value) (pcs:List Value):Prop where
 blk:w.heap[rb]?=some (.cells (mcells (bs nm) iv gv pv (.slice none 0 0)) 36 (0,0))
 im:Row w (fun b=>rb<b/\gv.ownBlock≠some b/\pv.ownBlock≠some b) 9 1 iv is.length (strs is)
 gl:w.ownsRow (rb+1) 61 4 gv gs.length (gcs gs)
 pl:w.ownsRow (rb+1) 65 6 pv ps.length pcs
 ne:∀g,gv.ownBlock=some g->pv.ownBlock≠some g
 rp:RepP w (fun b=>rb<b/\gv.ownBlock≠some b/\pv.ownBlock≠some b) ps pcs
theorem zH {w w':World}{a e size n:Nat}{v:Value}{f:List Value}(h:w.ownsRow a e size v n f)(j:∀b,a<=b->b<w.heap.size->v.ownBlock=some b->w'.heap[b]?=w.heap[b]?):w'.ownsRow a e size v n f:=by
 refine⟨h.1,?_⟩
 rcases h.2 with q|⟨g,cap,i,rfl,c,d,k⟩
 ·exact Or.inl q
 ·exact Or.inr ⟨g,cap,i,rfl,c,(j g c (zf d) rfl).trans d,k⟩
theorem MS.mono {w w':World}{c:Nat}{nm:List UInt8}{is:List (List UInt8)}{i:List G}{ps:List Pr}{iv j k:Value}{g:List Value}(h:MS w c nm is i ps iv j k g)(a:∀b,c<=b->b<w.heap.size->w'.heap[b]?=w.heap[b]?):MS w' c nm is i ps iv j k g :=
 ⟨(a c zn (zf h.blk)).trans h.blk,h.im.mono (fun b e f=>⟨a b (by omega) f,e⟩),zH h.gl (fun b l d _=>a b (by omega) d),zH h.pl (fun b l d _=>a b (by omega) d),h.ne,RepP.mono (fun b e f=>⟨a b (by omega) f,e⟩) _ _ h.rp⟩
theorem MS.ext {w w':World}{a f:Nat}{nm:List UInt8}{is:List (List UInt8)}{d:List G}{ps:List Pr}{iv e g:Value}{c:List Value}(h:MS w a nm is d ps iv e g c)(k:Ext f w w')(l:f<a):MS w' a nm is d ps iv e g c :=
 h.mono (fun b j i=>k.block b i (by omega))
theorem MS.below {w w':World}{f:Nat}{nm:List UInt8}{is:List (List UInt8)}{c:List G}{ps:List Pr}{iv d e:Value}{a:List Value}(h:MS w f nm is c ps iv d e a)(k:Below w.heap.size w w'):MS w' f nm is c ps iv d e a :=
 h.mono (fun b _ g=>k.block b g)
theorem MS.addG {w f:World}{a:Nat}{nm:List UInt8}{is:List (List UInt8)}{i:List G}{iv j d:Value}{g:G}(h:MS w a nm is i [] iv j (.slice none 0 0) [])
  (m:f.ownsRow (a+1) 61 4 d (i.length+1) (gcs i++(gcells (bs g.name) (g.pos:Int) (g.len:Int) g.seen).toList))(k:w.grownBy f j.ownBlock)(t:∀b,d.ownBlock=some b->j.ownBlock=some b\/w.heap.size<=b) :
  MS (f.setCell ⟨a,2,none⟩ d) a nm is (i++[g]) [] iv d (.slice none 0 0) []:=by
 have p:=zf h.blk
 have s:j.ownBlock≠some a:=fun e=>by have:=zU h.gl a e;omega
 have o:f.heap[a]?=w.heap[a]?:=k.block a p (fun e=>s e.symm)
 have n:=zu 2 d (o.trans h.blk)
 have l:∀b,b≠a->(f.setCell ⟨a,2,none⟩ d).heap[b]?=f.heap[b]?:=fun b c=>Below.heap_setCell _ _ _ _ (by simpa using c)
 refine⟨n,?_,?_,World.ownsRow_nil _ _ _ _,fun b c e=>(by cases e),rfl⟩
 ·refine h.im.mono (fun b c r=>⟨(l b (by omega)).trans (k.block b r (fun e=>c.2.1 e.symm)),c.1,fun e=>?_,c.2.2⟩)
  rcases t b e with q|q
  ·exact c.2.1 q
  ·omega
 ·rw[qi,List.length_append]
  have:gcs [g]=(gcells (bs g.name) (g.pos:Int) (g.len:Int) g.seen).toList:=by simp[gcs]
  rw[this]
  exact zH m (fun b u _ _=>l b (by omega))
theorem MS.addP {w g:World}{a:Nat}{nm:List UInt8}{is:List (List UInt8)}{o:List G}{ps:List Pr}{iv j i f:Value}{l:List Value}{c:Pr}{us:List Value}(h:MS w a nm is o ps iv j i l)
  (z:RepP w (fun b=>a<b/\j.ownBlock≠some b/\i.ownBlock≠some b) [c] us)
  (r:g.ownsRow (a+1) 65 6 f (ps.length+1) (l++us))(k:w.grownBy g i.ownBlock)(p:∀b,f.ownBlock=some b->i.ownBlock=some b\/w.heap.size<=b) :
  MS (g.setCell ⟨a,3,none⟩ f) a nm is o (ps++[c]) iv j f (l++us):=by
 have u:=zf h.blk
 have B:i.ownBlock≠some a:=fun e=>by have:=zU h.pl a e;omega
 have t:g.heap[a]?=w.heap[a]?:=k.block a u (fun e=>B e.symm)
 have s:=zu 3 f (t.trans h.blk)
 have n:∀b,b≠a->(g.setCell ⟨a,3,none⟩ f).heap[b]?=g.heap[b]?:=fun b d=>Below.heap_setCell _ _ _ _ (by simpa using d)
 have m:∀b,(a<b/\j.ownBlock≠some b/\i.ownBlock≠some b)->b<w.heap.size->(g.setCell ⟨a,3,none⟩ f).heap[b]?=w.heap[b]?/\(a<b/\j.ownBlock≠some b/\f.ownBlock≠some b):=fun b d A =>
  ⟨(n b (by omega)).trans (k.block b A (fun e=>d.2.2 e.symm)),d.1,d.2.1,fun e=>by
   rcases p b e with q|q
   ·exact d.2.2 q
   ·omega⟩
 refine⟨s,h.im.mono m,?_,?_,fun b d e=>?_,RepP.app _ _ _ _ (RepP.mono m _ _ h.rp) (RepP.mono m _ _ z)⟩
 ·exact zH h.gl (fun b v x y=>(n b (by omega)).trans (k.block b x (fun e=>h.ne b y e.symm)))
 ·rw[List.length_append]
  exact zH r (fun b v _ _=>n b (by omega))
 ·rcases p b e with q|q
  ·exact h.ne b d q
  ·have:=(h.gl.lt b d).2;omega
def VM (B:Nat) (m:Tp.M) (v:Value) (w:World):Prop:=∃(ia ga pa ba:Option Addr) (ic gc pc bc:Nat) (pcs bcs:List Value),
 v=.agg (mcells (bs m.name) (.slice ia m.imports.length ic) (.slice ga m.vars.length gc) (.slice pa m.procs.length pc) (.slice ba m.body.length bc)) /\
 Row w (fun b=>B<=b) 9 1 (.slice ia m.imports.length ic) m.imports.length (strs m.imports)/\Row w (fun b=>B<=b) 61 4 (.slice ga m.vars.length gc) m.vars.length (gcs m.vars) /\
 RepP w (fun b=>B<=b) m.procs pcs/\Row w (fun b=>B<=b) 65 6 (.slice pa m.procs.length pc) m.procs.length pcs/\RepS w (fun b=>B<=b) m.body bcs/\OwnS w (fun b=>B<=b) (.slice ba m.body.length bc) m.body.length bcs
theorem Row.shape {w:World}{D:Nat->Prop}{e size:Nat}{v:Value}{n:Nat}{cs:List Value}(h:Row w D e size v n cs):∃a c,v=.slice a n c:=by
 rcases h with⟨rfl,rfl,_⟩|⟨g,cap,cur,rfl,_⟩
 ·exact⟨none,0,rfl⟩
 ·exact⟨_,_,rfl⟩
theorem OwnS.shape {w:World}{D:Nat->Prop}{v:Value}{n:Nat}{cs:List Value}(h:OwnS w D v n cs):∃a c,v=.slice a n c:=by
 rcases h with⟨rfl,rfl⟩|⟨g,cap,cur,rfl,_⟩
 ·exact⟨none,0,rfl⟩
 ·exact⟨_,_,rfl⟩
def mB (f:Nat) (nm:List UInt8) (is:List (List UInt8)) (gs:List G) (ps:List Pr) (r6:List Tok):Except Tp.Er Tp.M:=do
 let r7 <- Tp.want Tp.wBegin r6
 let (b,r8) <- Tp.sx f 0 0 r7
 let r9 <- Tp.want Tp.wEnd r8
 let r10 <- Tp.want Tp.mDot r9
 if (hd r10).kind=0 then .ok ⟨nm,is,gs,ps,b⟩ else .error (3,at' r10)
def mP (f:Nat) (nm:List UInt8) (is:List (List UInt8)) (gs:List G) (k:Nat) (ps:List Pr) (r5:List Tok):Except Tp.Er Tp.M:=do
 let (l,r6) <- Tp.procs k f ps.length r5
 mB f nm is gs (ps++l) r6
def mG (f:Nat) (nm:List UInt8) (is:List (List UInt8)) (k:Nat) (gs:List G) (r4:List Tok):Except Tp.Er Tp.M:=do
 let (l,r5) <- Tp.globals k gs.length r4
 mP f nm is (gs++l) 12 [] r5
def mI (r3:List Tok):Except Tp.Er (List (List UInt8)×List Tok):=if tx r3=Tp.wImport then do
   let (is,r4) <- Tp.names 7 0 6 (stp r3)
   let r5 <- Tp.want Tp.mSemi r4
   .ok (is,r5)
  else .ok ([],r3)
theorem module_eq (f:Nat)(r:List Tok):Tp.module f r=(do
  let r1 <- Tp.want Tp.wModule r
  let (n,r2) <- Tp.name r1
  let r3 <- Tp.want Tp.mSemi r2
  let (is,r4) <- mI r3
  mG f n is 12 [] r4):=by
 unfold Tp.module mG mP mB mI
 simp only[List.nil_append,List.length_nil]
theorem mG_end {f k:Nat}{nm:List UInt8}{is:List (List UInt8)}{a:List G}{r:List Tok}(h:tx r≠Tp.wVar):mG f nm is (k+1) a r=mP f nm is a 12 [] r:=by
 unfold mG;rw[Tp.globals,if_neg h];simp only[bind,Except.bind,List.append_nil]
theorem mG_full {f k:Nat}{nm:List UInt8}{is:List (List UInt8)}{a:List G}{r:List Tok}(h:tx r=Tp.wVar)(b:a.length=10):mG f nm is (k+1) a r=.error (4,at' (stp r)):=by
 unfold mG;rw[Tp.globals,if_pos h,if_pos b];rfl
theorem mG_bad {f k:Nat}{nm:List UInt8}{is:List (List UInt8)}{a:List G}{r:List Tok}{er:Tp.Er}(h:tx r=Tp.wVar)(c:¬a.length=10)(b:Tp.global (stp r)=.error er):mG f nm is (k+1) a r=.error er:=by
 unfold mG;rw[Tp.globals,if_pos h,if_neg c,b];rfl
theorem mG_ok {f k:Nat}{nm:List UInt8}{is:List (List UInt8)}{a:List G}{r b:List Tok}{g:G}(h:tx r=Tp.wVar)(d:¬a.length=10)(c:Tp.global (stp r)=.ok (g,b)):mG f nm is (k+1) a r=mG f nm is k (a++[g]) b:=by
 unfold mG;rw[Tp.globals,if_pos h,if_neg d,c]
 simp only[bind,Except.bind,List.length_append,List.length_singleton]
 cases Tp.globals k (a.length+1) b with
 |error e=>rfl
 |ok v=>simp only[List.append_assoc,List.singleton_append]
theorem mP_end {f k:Nat}{nm:List UInt8}{is:List (List UInt8)}{a:List G}{ps:List Pr}{r:List Tok}(h:tx r≠Tp.wProc):mP f nm is a (k+1) ps r=mB f nm is a ps r:=by
 unfold mP;rw[Tp.procs,if_neg h];simp only[bind,Except.bind,List.append_nil]
theorem mP_full {f k:Nat}{nm:List UInt8}{is:List (List UInt8)}{a:List G}{ps:List Pr}{r:List Tok}(h:tx r=Tp.wProc)(b:ps.length=10):mP f nm is a (k+1) ps r=.error (4,at' r):=by
 unfold mP;rw[Tp.procs,if_pos h,if_pos b];rfl
theorem mP_bad {f k:Nat}{nm:List UInt8}{is:List (List UInt8)}{a:List G}{ps:List Pr}{r:List Tok}{er:Tp.Er}(h:tx r=Tp.wProc)(c:¬ps.length=10)(b:Tp.proc f r=.error er):mP f nm is a (k+1) ps r=.error er:=by
 unfold mP;rw[Tp.procs,if_pos h,if_neg c,b];rfl
theorem mP_ok {f k:Nat}{nm:List UInt8}{is:List (List UInt8)}{b:List G}{ps:List Pr}{r a:List Tok}{c:Pr}(h:tx r=Tp.wProc)(g:¬ps.length=10)(d:Tp.proc f r=.ok (c,a)):mP f nm is b (k+1) ps r=mP f nm is b k (ps++[c]) a:=by
 unfold mP;rw[Tp.procs,if_pos h,if_neg g,d]
 simp only[bind,Except.bind,List.length_append,List.length_singleton]
 cases Tp.procs k f (ps.length+1) a with
 |error e=>rfl
 |ok v=>simp only[List.append_assoc,List.singleton_append]
def PostM (p:Ps) (w:World) (res:Except Tp.Er Tp.M) (e:Ending) (w':World):Prop :=
 match res with
 | .ok m=>∃v,e=.returned v/\VM w.heap.size m v w'/\Ext p.pb w w'
 | .error er=>Thrown w.heap.size er e w'/\Ext p.pb w w'
theorem yg {p:Ps}{w a w':World}{er:Tp.Er}{e:Ending}(b:Ext p.pb w a)(d:Thrown a.heap.size er e w')(c:Ext p.pb a w'):PostM p w (.error er) e w' :=
 ⟨d.mono b.size,b.trans c⟩
theorem Tryz.infoGlobal:(Tryz.prog.info? 61).map (fun i=>(i.zero,i.size,i.bytes))=some (some (.agg #[.string ⟨#[]⟩,.int .i64 0,.int .i64 0,.bool false]),4,40):=by kernel_rfl
theorem Tryz.infoProc:(Tryz.prog.info? 65).map (fun i=>(i.zero,i.size,i.bytes))=some (some (.agg #[.string ⟨#[]⟩,.int .i64 0,.bool false,.slice none 0 0,.slice none 0 0,.slice none 0 0]),6,104):=by kernel_rfl
theorem global_ok' {w:World}{p:Ps}{d r c:List Tok}{o b:Nat}{g:G}(h:St w p d r o b)(j:Hid (Tp.global r=.ok (g,c))) :
  Calls Tryz.prog 66 #[.pointer (some ⟨p.pb,0,none⟩)] w fun e w'=>e=.returned (.agg #[.string (bs g.name),.int .i64 (g.pos:Int),.int .i64 (g.len:Int),.bool g.seen])/\St w' p d c o b/\Ext p.pb w w':=by
 refine(jL h).mono ?_
 intro e w' a
 rw[j.out]at a
 obtain⟨v,rfl,k,f,i⟩:=a
 exact⟨by rw[show v=_ from k];rfl,f,i⟩
theorem global_er' {w:World}{p:Ps}{d r:List Tok}{o b:Nat}{er:Tp.Er}(h:St w p d r o b)(c:Hid (Tp.global r=.error er)) :
  Calls Tryz.prog 66 #[.pointer (some ⟨p.pb,0,none⟩)] w fun e w'=>Thrown w.heap.size er e w'/\Ext p.pb w w':=by
 refine(jL h).mono ?_
 intro e w' a
 rw[c.out]at a
 exact a
theorem news4 (w:World)(e:Nat)(b c d f:Value):∀j u,[b,c,d,f][j]?=some u->(w.alloc (.cells #[b,c,d,f] e)).cell? ((⟨w.heap.size,0,none⟩:Addr).add j)=some u:=by
 intro j u a
 match j,a with
 | 0,a=>simp at a;subst a;simp[Addr.add]
 | 1,a=>simp at a;subst a;simp[Addr.add]
 | 2,a=>simp at a;subst a;simp[Addr.add]
 | 3,a=>simp at a;subst a;simp[Addr.add]
theorem news6 (w:World)(e:Nat)(b c d f g h:Value):∀j u,[b,c,d,f,g,h][j]?=some u->(w.alloc (.cells #[b,c,d,f,g,h] e)).cell? ((⟨w.heap.size,0,none⟩:Addr).add j)=some u:=by
 intro j u a
 match j,a with
 | 0,a=>simp at a;subst a;simp[Addr.add]
 | 1,a=>simp at a;subst a;simp[Addr.add]
 | 2,a=>simp at a;subst a;simp[Addr.add]
 | 3,a=>simp at a;subst a;simp[Addr.add]
 | 4,a=>simp at a;subst a;simp[Addr.add]
 | 5,a=>simp at a;subst a;simp[Addr.add]
end Go.Proofs.YtibncofnnlbmcaaGreatDoor
