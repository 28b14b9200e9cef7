import Derived.Test.YtbkndnmglhghlaaGreatDoorKWe
set_option maxRecDepth 100000
set_option maxHeartbeats 4000000

namespace Go.Proofs.YtbkndnmglhghlaaGreatDoor
open Go.RowKit
open Tp (Tok hd tx at' stp X S G Pr)
variable {g:G}{is:List (List UInt8)}{a b d:List G}{ps:List Pr}{r:List Tok}{nm:List UInt8}{f i k m o:Nat}{j l:Option Addr}{c:Pr}{p:Ps}{e iv:Value}{w w':World}
def mB (f:Nat) (nm:List UInt8) (is:List (List UInt8)) (gs:List G) (ps:List Pr) (r6:List Tok):Except Tp.Er Tp.M:=do
 let r7 <- Tp.want Tp.wBegin r6
 let (b,r8) <- Tp.sx f 0 0 r7
 let r9 <- Tp.want Tp.wEnd r8
 let r10 <- Tp.want Tp.mDot r9
 if (hd r10).kind=0 then .ok ⟨nm,is,gs,ps,b⟩ else .error (3,at' r10)
def mP (f:Nat) (nm:List UInt8) (is:List (List UInt8)) (gs:List G) (k:Nat) (ps:List Pr) (r5:List Tok):Except Tp.Er Tp.M:=do
 let (l,r6) <- Tp.procs k f ps.length r5
 mB f nm is gs (ps++l) r6
def mG (f:Nat) (nm:List UInt8) (is:List (List UInt8)) (k:Nat) (gs:List G) (r4:List Tok):Except Tp.Er Tp.M:=do
 let (l,r5) <- Tp.globals k gs.length r4
 mP f nm is (gs++l) 12 [] r5
def mI (r3:List Tok):Except Tp.Er (List (List UInt8)×List Tok):=if tx r3=Tp.wImport then do
   let (is,r4) <- Tp.names 7 0 6 (stp r3)
   let r5 <- Tp.want Tp.mSemi r4
   .ok (is,r5)
  else .ok ([],r3)
theorem module_eq (f:Nat)(r:List Tok):Tp.module f r=(do
  let r1 <- Tp.want Tp.wModule r
  let (n,r2) <- Tp.name r1
  let r3 <- Tp.want Tp.mSemi r2
  let (is,r4) <- mI r3
  mG f n is 12 [] r4):=by
 unfold Tp.module mG mP mB mI
 simp only[List.nil_append,List.length_nil]
theorem mG_end (h:tx r≠Tp.wVar):mG f nm is (k+1) a r=mP f nm is a 12 [] r:=by
 unfold mG;rw[Tp.globals,if_neg h];simp only[bind,Except.bind,List.append_nil]
theorem mG_full (h:tx r=Tp.wVar)(b:a.length=10):mG f nm is (k+1) a r=.error (4,at' (stp r)):=by
 unfold mG;rw[Tp.globals,if_pos h,if_pos b];rfl
theorem mG_bad {a:Tp.Er}(h:tx r=Tp.wVar)(d:¬b.length=10)(c:Tp.global (stp r)=.error a):mG f nm is (k+1) b r=.error a:=by
 unfold mG;rw[Tp.globals,if_pos h,if_neg d,c];rfl
theorem mG_ok {b:List Tok}(h:tx r=Tp.wVar)(d:¬a.length=10)(c:Tp.global (stp r)=.ok (g,b)):mG f nm is (k+1) a r=mG f nm is k (a++[g]) b:=by
 unfold mG;rw[Tp.globals,if_pos h,if_neg d,c]
 simp only[bind,Except.bind,List.length_append,List.length_singleton]
 cases Tp.globals k (a.length+1) b with
 |error e=>rfl
 |ok v=>simp only[List.append_assoc,List.singleton_append]
theorem mP_end (h:tx r≠Tp.wProc):mP f nm is a (k+1) ps r=mB f nm is a ps r:=by
 unfold mP;rw[Tp.procs,if_neg h];simp only[bind,Except.bind,List.append_nil]
theorem mP_full (h:tx r=Tp.wProc)(b:ps.length=10):mP f nm is a (k+1) ps r=.error (4,at' r):=by
 unfold mP;rw[Tp.procs,if_pos h,if_pos b];rfl
theorem mP_bad {a:Tp.Er}(h:tx r=Tp.wProc)(d:¬ps.length=10)(c:Tp.proc f r=.error a):mP f nm is b (k+1) ps r=.error a:=by
 unfold mP;rw[Tp.procs,if_pos h,if_neg d,c];rfl
theorem mP_ok {a:List Tok}(h:tx r=Tp.wProc)(g:¬ps.length=10)(d:Tp.proc f r=.ok (c,a)):mP f nm is b (k+1) ps r=mP f nm is b k (ps++[c]) a:=by
 unfold mP;rw[Tp.procs,if_pos h,if_neg g,d]
 simp only[bind,Except.bind,List.length_append,List.length_singleton]
 cases Tp.procs k f (ps.length+1) a with
 |error e=>rfl
 |ok v=>simp only[List.append_assoc,List.singleton_append]
def PostM (p:Ps) (w:World) (res:Except Tp.Er Tp.M) (e:Ending) (w':World):Prop :=
 match res with
 | .ok m=>∃v,e=.returned v/\VM w.heap.size m v w'/\Ext p.pb w w'
 | .error er=>Thrown w.heap.size er e w'/\Ext p.pb w w'
theorem yh {a:World}{b:Tp.Er}{e:Ending}(c:Ext p.pb w a)(f:Thrown a.heap.size b e w')(d:Ext p.pb a w'):PostM p w (.error b) e w' :=
 ⟨f.mono c.size,c.trans d⟩
theorem Tryz.infoGlobal:(Tryz.prog.info? 57).map (fun i=>(i.zero,i.size,i.bytes))=some (some (.agg #[.string ⟨#[]⟩,.int .i64 0,.int .i64 0,.bool false]),4,40):=by kernel_rfl
theorem Tryz.infoProc:(Tryz.prog.info? 157).map (fun i=>(i.zero,i.size,i.bytes))=some (some (.agg #[.string ⟨#[]⟩,.int .i64 0,.bool false,.slice none 0 0,.slice none 0 0,.slice none 0 0]),6,104):=by kernel_rfl
theorem global_ok' {d c:List Tok}{b:Nat}(h:St w p d r o b)(j:Hid (Tp.global r=.ok (g,c))) :
  Calls Tryz.prog 79 #[.pointer (some ⟨p.pb,0,none⟩)] w fun e w'=>e=.returned (.agg #[.string (bs g.name),.int .i64 (g.pos:Int),.int .i64 (g.len:Int),.bool g.seen])/\St w' p d c o b/\Ext p.pb w w':=by
 refine(jC h).mono ?_
 intro e w' a
 rw[j.out]at a
 obtain⟨v,rfl,k,f,i⟩:=a
 exact⟨by rw[show v=_ from k];rfl,f,i⟩
theorem global_er' {f:List Tok}{b:Nat}{a:Tp.Er}(h:St w p f r o b)(d:Hid (Tp.global r=.error a)) :
  Calls Tryz.prog 79 #[.pointer (some ⟨p.pb,0,none⟩)] w fun e w'=>Thrown w.heap.size a e w'/\Ext p.pb w w':=by
 refine(jC h).mono ?_
 intro e w' c
 rw[d.out]at c
 exact c
theorem news4 (w:World)(e:Nat)(b c d f:Value):∀j u,[b,c,d,f][j]?=some u->(w.alloc (.cells #[b,c,d,f] e)).cell? ((⟨w.heap.size,0,none⟩:Addr).add j)=some u:=by
 intro j u a
 match j,a with
 | 0,a=>simp at a;subst a;simp[Addr.add]
 | 1,a=>simp at a;subst a;simp[Addr.add]
 | 2,a=>simp at a;subst a;simp[Addr.add]
 | 3,a=>simp at a;subst a;simp[Addr.add]
theorem news6 (w:World)(e:Nat)(b c d f g h:Value):∀j u,[b,c,d,f,g,h][j]?=some u->(w.alloc (.cells #[b,c,d,f,g,h] e)).cell? ((⟨w.heap.size,0,none⟩:Addr).add j)=some u:=by
 intro j u a
 match j,a with
 | 0,a=>simp at a;subst a;simp[Addr.add]
 | 1,a=>simp at a;subst a;simp[Addr.add]
 | 2,a=>simp at a;subst a;simp[Addr.add]
 | 3,a=>simp at a;subst a;simp[Addr.add]
 | 4,a=>simp at a;subst a;simp[Addr.add]
 | 5,a=>simp at a;subst a;simp[Addr.add]
theorem gv_slice {g:Nat}{d:Value}{f:List Value}(h:MS w g nm is b ps iv d e f):(∃a c,d=.slice a b.length c)/\(∃a c,e=.slice a ps.length c)/\(∃a c,iv=.slice a is.length c) :=
 ⟨z7 h.gl,z7 h.pl,h.im.shape⟩
theorem MS.setI {a:Nat}(h:MS w a nm [] [] [] (.slice none 0 0) (.slice none 0 0) (.slice none 0 0) [])(d:w.ownsRow (a+1) 9 1 iv is.length (strs is)):MS (w.setCell ⟨a,1,none⟩ iv) a nm is [] [] iv (.slice none 0 0) (.slice none 0 0) []:=by
 have f:∀b,b≠a->(w.setCell ⟨a,1,none⟩ iv).heap[b]?=w.heap[b]?:=fun b c=>Below.heap_setCell _ _ _ _ (by simpa using c)
 exact⟨zy 1 iv h.blk,(Row.of_owns d).mono (fun b c _=>⟨f b (by omega),by omega,(by simp[Value.ownBlock]),(by simp[Value.ownBlock])⟩),World.ownsRow_nil _ _ _ _,World.ownsRow_nil _ _ _ _,fun b c e=>(by cases e),rfl⟩
theorem proc_ok' {k n:List Tok}(y:Hid (StmtsC p k f))(h:St w p k r 0 0)(m:Hid (Tp.proc f r=.ok (c,n))) :
  Calls Tryz.prog 81 #[.pointer (some ⟨p.pb,0,none⟩)] w fun e w'=>(∃(d i a:Option Addr) (g j b:Nat),e=.returned (.agg #[.string (bs c.name),.int .i64 (c.pos:Int),.bool c.seen,.slice d c.params.length g,.slice i c.vars.length j,.slice a c.body.length b]) /\
   Hid (w'.ownsRow w.heap.size 9 1 (.slice d c.params.length g) c.params.length (strs c.params)/\w'.ownsRow w.heap.size 9 1 (.slice i c.vars.length j) c.vars.length (strs c.vars)/\VO w.heap.size c.body (.slice a c.body.length b) w'))/\St w' p k n 0 0/\Ext p.pb w w':=by
 refine(vh y.out h (by rw[m.out];intro e;cases e)).mono ?_
 intro e w' l
 rw[m.out]at l
 obtain⟨v,rfl,⟨d,i,a,g,j,b,s,t,u,x⟩,o,q⟩:=l
 subst s
 exact⟨⟨d,i,a,g,j,b,rfl,⟨t,u,x⟩⟩,o,q⟩
theorem MS.newP {C:Nat}{r:List G}{f g:Value}{q:List Value}{n:Option Addr}(h:MS w i nm is r ps iv f g q)(x:C=w.heap.size)
  (y:w'.ownsRow C 9 1 (.slice l c.params.length m) c.params.length (strs c.params)/\w'.ownsRow C 9 1 (.slice n c.vars.length o) c.vars.length (strs c.vars)/\VO C c.body (.slice j c.body.length k) w') :
  RepP w' (fun b=>i<b/\f.ownBlock≠some b/\g.ownBlock≠some b) [c] [.string (bs c.name),.int .i64 (c.pos:Int),.bool c.seen,.slice l c.params.length m,.slice n c.vars.length o,.slice j c.body.length k]:=by
 subst x
 have z:=zc h.blk
 have d:∀b,w.heap.size<=b->i<b/\f.ownBlock≠some b/\g.ownBlock≠some b:=fun b a=>⟨by omega,fun e=>by have:=(h.gl.lt b e).2;omega,fun e=>by have:=(h.pl.lt b e).2;omega⟩
 obtain⟨s,t,p,u,v⟩:=y
 exact⟨_,_,_,p,[],rfl,(Row.of_owns s).mono (fun b a _=>⟨rfl,d b a.1⟩),(Row.of_owns t).mono (fun b a _=>⟨rfl,d b a.1⟩),u.mono' (fun b a _=>⟨rfl,d b a⟩),v.mono (fun b a _=>⟨rfl,d b a⟩),rfl⟩
theorem ext_set5 (w:World)(b:Nat)(a c d e f:Value):Ext b w (((((w.setCell ⟨b,0,none⟩ a).setCell ⟨b,1,none⟩ c).setCell ⟨b,2,none⟩ d).setCell ⟨b,3,none⟩ e).setCell ⟨b,4,none⟩ f):=((((((Ext.refl b w).set 0 a).set 1 c).set 2 d).set 3 e).set 4 f)
theorem jm (w:World)(b:Nat)(a c d e f:Value):Below b w (((((w.setCell ⟨b,0,none⟩ a).setCell ⟨b,1,none⟩ c).setCell ⟨b,2,none⟩ d).setCell ⟨b,3,none⟩ e).setCell ⟨b,4,none⟩ f):=(zu (zu (zu (zu (zu (Below.refl b w) zn 0 a) zn 1 c) zn 2 d) zn 3 e) zn 4 f)
structure MK (w:World) (rb:Nat) (is:List (List UInt8)) (gs:List G) (ps:List Pr) (iv gv pv:Value) (pcs:List Value):Prop where
 im:Row w (fun b=>rb<b) 9 1 iv is.length (strs is)
 gl:Row w (fun b=>rb<b) 57 4 gv gs.length (gcs gs)
 pl:Row w (fun b=>rb<b) 157 6 pv ps.length pcs
 rp:RepP w (fun b=>rb<b) ps pcs
theorem MS.keep {g:Nat}{f:Value}{c:List Value}(h:MS w g nm is d ps iv e f c):MK w g is d ps iv e f c :=
 ⟨h.im.mono (fun b a _=>⟨rfl,a.1⟩),(Row.of_owns h.gl).mono (fun b a _=>⟨rfl,by omega⟩),(Row.of_owns h.pl).mono (fun b a _=>⟨rfl,by omega⟩),RepP.mono (fun b a _=>⟨rfl,a.1⟩) _ _ h.rp⟩
theorem MK.mono {w w':World}{e:Nat}{is:List (List UInt8)}{g:List G}{ps:List Pr}{iv i j:Value}{f:List Value}(h:MK w e is g ps iv i j f)(d:∀b,e<b->b<w.heap.size->w'.heap[b]?=w.heap[b]?):MK w' e is g ps iv i j f :=
 ⟨h.im.mono (fun b a c=>⟨d b a c,a⟩),h.gl.mono (fun b a c=>⟨d b a c,a⟩),h.pl.mono (fun b a c=>⟨d b a c,a⟩),RepP.mono (fun b a c=>⟨d b a c,a⟩) _ _ h.rp⟩
theorem MK.ext {a:Nat}{g:Value}{c:List Value}(h:MK w a is d ps iv e g c)(k:Ext f w w')(l:f<=a):MK w' a is d ps iv e g c :=
 h.mono (fun b j i=>k.block b i (by omega))
theorem MK.done {n B:Nat}{g e:Option Addr}{o:List Value}{c:List S}(r:B<=n)(h:MK w n is d ps (.slice j is.length k) (.slice g d.length i) (.slice l ps.length m) o)(a:VO (n+1) c (.slice e c.length f) w) :
  VM B ⟨nm,is,d,ps,c⟩ (.agg (mcells (bs nm) (.slice j is.length k) (.slice g d.length i) (.slice l ps.length m) (.slice e c.length f))) w:=by
 obtain⟨p,q,b2⟩:=a
 exact⟨j,g,l,e,k,i,m,f,o,p,rfl,h.im.mono (fun b a _=>⟨rfl,by omega⟩),h.gl.mono (fun b a _=>⟨rfl,by omega⟩),RepP.mono (fun b a _=>⟨rfl,by omega⟩) _ _ h.rp,h.pl.mono (fun b a _=>⟨rfl,by omega⟩),q.mono' (fun b a _=>⟨rfl,by omega⟩),b2.mono (fun b a _=>⟨rfl,by omega⟩)⟩
theorem proc_er' {d:List Tok}{a:Tp.Er}(i:Hid (StmtsC p d f))(h:St w p d r 0 0)(c:Hid (Tp.proc f r=.error a))(g:Hid (a≠(99,0))) :
  Calls Tryz.prog 81 #[.pointer (some ⟨p.pb,0,none⟩)] w fun e w'=>Thrown w.heap.size a e w'/\Ext p.pb w w':=by
 refine(vh i.out h (by rw[c.out];intro e;injection e with e;exact g.out e)).mono ?_
 intro e w' b
 rw[c.out]at b
 exact b
theorem MS.grewG {c:Obj}{a:Nat}{i:List G}{b d:Value}{g:List Value}(h:MS w a nm is i ps iv b d g)(j:(w.alloc c).grownBy w' b.ownBlock):w'.heap[a]?=some (.cells (mcells (bs nm) iv b d (.slice none 0 0)) 66 (0,0)):=by
 have f:=zc h.blk
 have k:b.ownBlock≠some a:=fun e=>by have:=zL h.gl a e;omega
 exact(j.block a (by simp;omega) (fun e=>k e.symm)).trans ((Below.heap_alloc w c a f).trans h.blk)
theorem MS.grewP {d:Obj}{a:Nat}{i:List G}{c b:Value}{g:List Value}(h:MS w a nm is i ps iv c b g)(j:(w.alloc d).grownBy w' b.ownBlock):w'.heap[a]?=some (.cells (mcells (bs nm) iv c b (.slice none 0 0)) 66 (0,0)):=by
 have f:=zc h.blk
 have k:b.ownBlock≠some a:=fun e=>by have:=zL h.pl a e;omega
 exact(j.block a (by simp;omega) (fun e=>k e.symm)).trans ((Below.heap_alloc w d a f).trans h.blk)
theorem yj {P:Program}{b:Array Oper}{o:Oper}{a:Act}{K:Act->World->Prop}{Q:Exit->Act->World->Prop}{E:Prop}(c:o.guard=none)(h:Oper.wp P o a w K Q):if Region.wanted o (yielded b a.tmps)=true then Oper.wp P o a w K Q else E:=by
 rw[if_pos (by simp[Region.wanted,c])];exact h
theorem uo {ts:List Tok}(hf:f<=100000){w:World}{r:List Tok}(h:St w p ts r 0 0)(hn:Tp.module f r≠.error (99,0)) :
  Calls Tryz.prog 39 #[.pointer (some ⟨p.pb,0,none⟩)] w fun e w'=>PostM p w (Tp.module f r) e w':=by
 obtain⟨i4,n3,m5,m6,m7⟩:=info_parts Tryz.infoGlobal
 obtain⟨i6,n4,m8,m9,n0⟩:=info_parts Tryz.infoProc
 have n9:=zg h.c0
 have f6:Hid (StmtsC p ts f):=(stmt_all p ts f hf).1
 have HM:Hid (Tp.module f r=(do
  let r1 <- Tp.want Tp.wModule r
  let (n,x) <- Tp.name r1
  let r3 <- Tp.want Tp.mSemi x
  let (is,C) <- mI r3
  mG f n is 12 [] C)):=module_eq f r
 have HN:Hid (Tp.module f r≠.error (99,0)):=hn
 clear hn
 obtain⟨j,h9⟩:∃j,j=w.heap.size:=⟨_,rfl⟩
 go_enter Tryz.func39,Tryz.ntmps39
 go_wp2_with fail
 have f7:∀Y,Below w.heap.size w (w.alloc Y):=fun Y=>zb _ _
 have d0:=h.below (f7 (.cells (mcells ⟨#[]⟩ (.slice none 0 0) (.slice none 0 0) (.slice none 0 0) (.slice none 0 0)) 66))
 have c6:Ext p.pb w (w.alloc (.cells (mcells ⟨#[]⟩ (.slice none 0 0) (.slice none 0 0) (.slice none 0 0) (.slice none 0 0)) 66)):=Ext.below (f7 _)
 have a4:(w.alloc (.cells (mcells ⟨#[]⟩ (.slice none 0 0) (.slice none 0 0) (.slice none 0 0) (.slice none 0 0)) 66)).heap[w.heap.size]?=some (.cells (mcells ⟨#[]⟩ (.slice none 0 0) (.slice none 0 0) (.slice none 0 0) (.slice none 0 0)) 66 (0,0)):=zl _ _
 simp only[mcells]at d0 c6 a4
 generalize w.alloc (.cells #[.string ⟨#[]⟩,.slice none 0 0,.slice none 0 0,.slice none 0 0,.slice none 0 0] 66)=w0 at d0 c6 a4 ⊢
 rw[<-h9]at a4 ⊢
 have b2:w.heap.size<=j:=by omega
 have a6:p.pb<j:=by omega
 clear f7 h h9
 by_cases d:tx r=Tp.wModule
 rotate_left
 ·refine(zN d0 Tp.wModule _ rfl d).mono ?_
  rintro e Z⟨o,a⟩
  have m:Hid (¬tx r=Tp.wModule):=d
  clear d
  obtain⟨N,R,rfl,S,T⟩:=o.out
  go_wp2_with fail
  refine⟨rfl,?_⟩
  rw[HM.out,show Tp.want Tp.wModule r=.error (3,at' r) by simp only[Tp.want,if_neg m.out]]
  exact yh c6 o a
 refine(zF d0 Tp.wModule _ rfl d).mono ?_
 rintro e w1⟨rfl,f3,a⟩
 have f4:Hid (Tp.module f r=(do
  let (n,x) <- Tp.name (stp r)
  let r3 <- Tp.want Tp.mSemi x
  let (is,C) <- mI r3
  mG f n is 12 [] C)):=by show _=_;rw[HM.out,show Tp.want Tp.wModule r=.ok (stp r) by simp only[Tp.want,if_pos d]];rfl
 have e9:=c6.trans a
 have e6:=(a.block j (zc a4) (by omega)).trans a4
 clear d d0 HM c6 a4 a
 go_wp2_with fail
 rcases A:Tp.name (stp r) with er|⟨nm,x⟩
 ·have m:Hid (Tp.name (stp r)=.error er):=A
  clear A
  refine(um f3 m).mono ?_
  rintro e Z⟨o,a⟩
  obtain⟨N,R,rfl,S,T⟩:=o.out
  go_wp2_with fail
  refine⟨rfl,?_⟩
  rw[f4.out,m.out]
  exact yh e9 o a
 have m:Hid (Tp.name (stp r)=.ok (nm,x)):=A
 clear A
 refine(uk f3 m).mono ?_
 rintro e w2⟨rfl,i1,a⟩
 have f5:Hid (Tp.module f r=(do
  let r3 <- Tp.want Tp.mSemi x
  let (is,C) <- mI r3
  mG f nm is 12 [] C)):=by show _=_;rw[f4.out,m.out];rfl
 have h4:=e9.trans a
 have d4:=(a.block j (zc e6) (by omega)).trans e6
 clear m f3 f4 e9 e6 a
 have kS:w2.cell? ⟨j,0,none⟩=some (.string ⟨#[]⟩):=za d4
 have zS:w2.frozen? ⟨j,0,none⟩=false:=zi d4
 go_wp2_with fail
 clear kS zS
 have y:Below j w2 (w2.setCell ⟨j,0,none⟩ (.string (bs nm))):=zu (Below.refl _ _) zn 0 _
 have d9:=i1.belowB y (by omega)
 have d5:=h4.trans' (y.mono b2)
 have e7:=zy 0 (.string (bs nm)) d4
 generalize w2.setCell ⟨j,0,none⟩ (.string (bs nm))=w3 at y d9 d5 e7 ⊢
 have i9:MS w3 j nm [] [] [] (.slice none 0 0) (.slice none 0 0) (.slice none 0 0) []:=⟨e7,Or.inl ⟨rfl,rfl,rfl⟩,World.ownsRow_nil _ _ _ _,World.ownsRow_nil _ _ _ _,fun b hb e=>(by cases e),rfl⟩
 clear i1 h4 d4 y e7
 by_cases d:tx x=Tp.mSemi
 rotate_left
 ·refine(zN d9 Tp.mSemi _ rfl d).mono ?_
  rintro e Z⟨o,a⟩
  have m:Hid (¬tx x=Tp.mSemi):=d
  clear d
  obtain⟨N,R,rfl,S,T⟩:=o.out
  go_wp2_with fail
  refine⟨rfl,?_⟩
  rw[f5.out,show Tp.want Tp.mSemi x=.error (3,at' x) by simp only[Tp.want,if_neg m.out]]
  exact yh d5 o a
 refine(zF d9 Tp.mSemi _ rfl d).mono ?_
 rintro e w4⟨rfl,i2,a⟩
 have c8:Hid (Tp.module f r=(do
  let (is,C) <- mI (stp x)
  mG f nm is 12 [] C)):=by show _=_;rw[f5.out,show Tp.want Tp.mSemi x=.ok (stp x) by simp only[Tp.want,if_pos d]];rfl
 have h5:=d5.trans a
 have h8:=i9.ext a a6
 clear d d9 f5 d5 i9 a
 go_wp2_with fail
 refine(zQ i2 Tp.wImport _ rfl).mono ?_
 rintro e w5⟨rfl,b8,a⟩
 have d6:=h5.trans a
 have d8:=h8.ext a a6
 clear i2 h5 h8 a
 go_upto_if 11 with fail
 go_cut [] (fun wc=>∃is iv C,St wc p ts C 0 0/\MS wc j nm is [] [] iv (.slice none 0 0) (.slice none 0 0) []/\Ext p.pb w wc/\Hid (Tp.module f r=mG f nm is 12 [] C))
 case first =>
  by_cases d:tx (stp x)=Tp.wImport
  ·have c9:=decide_eq_true d
   rw[if_pos d]at b8
   have K:Hid (tx (stp x)=Tp.wImport):=d
   clear d
   rcases A:Tp.names 7 0 6 (stp (stp x)) with er|⟨is,C⟩
   ·have m:Hid (Tp.names 7 0 6 (stp (stp x))=.error er):=A
    clear A
    go_wp2_with fail
    refine(kt b8 (by omega) (by omega) 7 (by omega) (by omega) m).mono ?_
    rintro e Z⟨o,a⟩
    obtain⟨N,R,rfl,S,T⟩:=o.out
    go_wp2_with fail
    refine⟨rfl,?_⟩
    rw[c8.out,show mI (stp x)=.error er by unfold mI;rw[if_pos K.out,m.out];rfl]
    exact yh d6 o a
   ·have m:Hid (Tp.names 7 0 6 (stp (stp x))=.ok (is,C)):=A
    clear A
    go_wp2_with fail
    refine(kt b8 (by omega) (by omega) 7 (by omega) (by omega) m).mono ?_
    intro e w6 B
    obtain⟨v,rfl,hv,c7,a⟩:=B
    have c3:=d6.trans a
    have a9:=d8.ext a a6
    have n7:=zc d8.blk
    clear b8 d6 d8 a
    obtain⟨va,vc,rfl⟩:=z7 hv
    have kS:w6.cell? ⟨j,1,none⟩=some (.slice none 0 0):=za a9.blk
    have zS:w6.frozen? ⟨j,1,none⟩=false:=zi a9.blk
    go_wp2_with fail
    clear kS zS
    have y:Below j w6 (w6.setCell ⟨j,1,none⟩ (.slice va is.length vc)):=zu (Below.refl _ _) zn 1 _
    have V:=c7.belowB y (by omega)
    have a1:=c3.trans' (y.mono b2)
    have U:=a9.setI (yQ hv (by omega))
    generalize w6.setCell ⟨j,1,none⟩ (.slice va is.length vc)=w7 at y V a1 U ⊢
    clear c7 c3 a9 y hv
    by_cases d:tx C=Tp.mSemi
    rotate_left
    ·refine(zN V Tp.mSemi _ rfl d).mono ?_
     rintro e Z⟨o,a⟩
     have HY:Hid (¬tx C=Tp.mSemi):=d
     clear d
     obtain⟨N,R,rfl,S,T⟩:=o.out
     go_wp2_with fail
     refine⟨rfl,?_⟩
     rw[c8.out,show mI (stp x)=.error (3,at' C) by unfold mI;rw[if_pos K.out,m.out];simp only[bind,Except.bind,Tp.want,if_neg HY.out]]
     exact yh a1 o a
    refine(zF V Tp.mSemi _ rfl d).mono ?_
    rintro e D⟨rfl,F,a⟩
    have HY:Hid (tx C=Tp.mSemi):=d
    clear d
    go_wp2_with fail
    go_meet
    case rel =>
     refine⟨is,_,stp C,F,U.ext a a6,a1.trans a,?_⟩
     show _=_
     rw[c8.out,show mI (stp x)=.ok (is,stp C) by unfold mI;rw[if_pos K.out,m.out];simp only[bind,Except.bind,Tp.want,if_pos HY.out]]
     rfl
  ·have c9:=decide_eq_false d
   rw[if_neg d]at b8
   have K:Hid (¬tx (stp x)=Tp.wImport):=d
   clear d
   go_wp2_with fail
   go_meet
   case rel =>
    refine⟨[],_,stp x,b8,d8,d6,?_⟩
    show _=_
    rw[c8.out,show mI (stp x)=.ok ([],stp x) by unfold mI;rw[if_neg K.out]]
    rfl
 case rest =>
  obtain⟨is,iv,C,c7,a9,c3,i5⟩:=hcut
  clear c8
  go_wp2_with fail
  go_loopg [] 12 (fun k wr=>∃(l:List G) (gv:Value) (s:List Tok),k+l.length=12/\l.length<=10/\St wr p ts s 0 0/\MS wr j nm is l [] iv gv (.slice none 0 0) []/\Ext p.pb w wr/\Hid (Tp.module f r=mG f nm is k l s))
  case atStart=>exact⟨[],_,C,rfl,by simp,c7,a9,c3,i5⟩
  case round =>
   obtain⟨l,gv,s,hk,n2,V,U,a1,O⟩:=hrel
   clear c7 a9 c3 i5
   obtain⟨k,rfl⟩:∃k,gk=k+1:=⟨gk-1,by omega⟩
   obtain⟨⟨W,X,rfl⟩,_,_⟩:=gv_slice U
   go_wp2_with fail
   refine(zQ V Tp.wVar _ rfl).mono ?_
   rintro e D⟨rfl,F,a⟩
   have I:=a1.trans a
   have H:=U.ext a a6
   clear V a1 U a
   by_cases d:tx s=Tp.wVar
   ·have c9:=decide_eq_true d
    rw[if_pos d]at F
    have K:Hid (tx s=Tp.wVar):=d
    clear d
    have k2:D.cell? ⟨j,2,none⟩=some (.slice W l.length X):=za H.blk
    have m4:=zc H.blk
    by_cases a5:l.length=10
    ·have f9:((l.length:Int)==10)=true:=by simp;omega
     have L:Hid (l.length=10):=a5
     clear a5
     go_wp2_with fail
     refine(zY F 4).mono ?_
     rintro e Z⟨o,a⟩
     obtain⟨N,R,rfl,S,T⟩:=o.out
     go_wp2_with fail
     refine⟨rfl,?_⟩
     rw[O.out,mG_full K.out L.out]
     exact yh I o (Ext.below a)
    ·have f9:((l.length:Int)==10)=false:=by simp;omega
     have L:Hid (¬l.length=10):=a5
     clear a5
     have b0:=F.below (zt D)
     rcases A:Tp.global (stp s) with er|⟨g,r1⟩
     ·have m:Hid (Tp.global (stp s)=.error er):=A
      clear A
      have HF:Hid (∀e w',Thrown D.drew.heap.size er e w'/\Ext p.pb D.drew w'->PostM p w (Tp.module f r) e w'):=by
       intro e w' B
       rw[O.out,mG_bad K.out L.out m.out]
       exact yh (I.trans (Ext.below (zt D))) B.1 B.2
      go_wp2_with fail
      go_region_dies
      all_goals (refine(global_er' b0 m).mono ?_;intro e t B;obtain⟨N,h1,h0,h2,h3⟩:=B.1.out;subst h0;exact⟨rfl,HF.out _ _ B⟩)
     ·have m:Hid (Tp.global (stp s)=.ok (g,r1)):=A
      clear A
      have z2:D.frozen? ⟨j,2,none⟩=false:=zi H.blk
      have b7:=H.below (zt D)
      have c4:=I.trans (Ext.below (zt D))
      go_wp2_with fail
      go_region_law (first|(refine yj rfl ?_;go_simp;go_at_call 79;refine(global_ok' b0 m).mono ?_;rintro e t ⟨rfl,a7,d1⟩;have z:=b7.ext d1 a6;have a2:=c4.trans d1;have k9:t.cell? ⟨j,2,none⟩=some (.slice W l.length X):=za z.blk;have z9:t.frozen? ⟨j,2,none⟩=false:=zi z.blk;have n6:j<t.heap.size:=zc z.blk;have g2:∀Y,(t.alloc Y).cell? ⟨j,2,none⟩=some (.slice W l.length X):=fun Y=>zX k9 Y)|(refine zE rfl (.tmp 26) (.tmp 29) 44 rfl (j+1) 57 i4 (.agg #[.string ⟨#[]⟩,.int .i64 0,.int .i64 0,.bool false]) 4 40 Tryz.underlying44 n3 m5 m6 m7 rfl (by decide) (.slice W l.length X) l.length (gcs l) (by simp[Act.eval]) (z.gl.alloc _) ⟨t.heap.size,0,none⟩ 1 1 [.string (bs g.name),.int .i64 (g.pos:Int),.int .i64 (g.len:Int),.bool g.seen] (by simp[Act.eval]) rfl (news4 t _ _ _ _ _) (by intro u hu;simp at hu;rcases hu with rfl|rfl|rfl|rfl<;>rfl) (by unfold maxLen;omega) (by omega) (by have:=zc z.blk;simp;omega) ?_;intro v' E a8 a0 c2;have b1:=z.grewG a0;have g1:E.cell? ⟨j,2,none⟩=some (.slice W l.length X):=za b1;have g4:E.frozen? ⟨j,2,none⟩=false:=zi b1;obtain⟨va,vc,g0⟩:=z7 a8;subst g0))
      all_goals
       have b9:Below t.heap.size t (t.alloc (.cells #[.string (bs g.name),.int .i64 (g.pos:Int),.int .i64 (g.len:Int),.bool g.seen] 57)):=zb _ _
       have c5:Below j t E:=((Below.refl _ _).alloc (by omega) _).trans ((Below.refl _ _).grown a0 (by simp;omega) (fun q B=>by have:=zL z.gl q B;omega))
       have y:Below j t (E.setCell ⟨j,2,none⟩ (.slice va (l.length+1) vc)):=zu c5 zn 2 _
       have a3:=(z.below b9).addG (g:=g) a8 a0 c2
       have b5:=a7.belowB y (by omega)
       have b4:=a2.trans' (y.mono b2)
       have J:Hid (Tp.module f r=mG f nm is k (l++[g]) r1):=by show _=_;rw[O.out];exact mG_ok K.out L.out m.out
       clear a0 c2 a8 z a7 a2 H I F b7 c4 b0 b1 g1 g4 k9 z9 k2 z2 c5 y b9 g2
       go_wp2_with fail
       go_roundg k
       case rel=>exact⟨l++[g],_,r1,by have:=L.out;simp;omega,by have:=L.out;simp;omega,b5,a3,b4,J⟩
       all_goals omega
   ·have c9:=decide_eq_false d
    rw[if_neg d]at F
    have J:Hid (Tp.module f r=mP f nm is l 12 [] s):=by show _=_;rw[O.out];exact mG_end d
    clear d O
    go_wp2_with fail
    go_loopg [] 12 (fun k wr=>∃(ps:List Pr) (pv:Value) (g3:List Value) (s:List Tok),k+ps.length=12/\ps.length<=10/\St wr p ts s 0 0/\MS wr j nm is l ps iv (.slice W l.length X) pv g3/\Ext p.pb w wr/\Hid (Tp.module f r=mP f nm is l k ps s))
    case atStart=>exact⟨[],_,[],s,rfl,by simp,F,H,I,J⟩
    case round =>
     obtain⟨ps,pv,g3,s,hk,n2,V,U,a1,O⟩:=hrel
     clear F H I J
     obtain⟨k,rfl⟩:∃k,gk=k+1:=⟨gk-1,by omega⟩
     obtain⟨_,⟨pa,pc,rfl⟩,⟨ia,ic,rfl⟩⟩:=gv_slice U
     go_wp2_with fail
     refine(yy V Tp.wProc _ rfl).mono ?_
     rintro e D⟨rfl,e0⟩
     have F:=V.below e0
     have I:=a1.trans (Ext.below e0)
     have H:=U.below e0
     clear V a1 U e0
     by_cases d:tx s=Tp.wProc
     ·have c9:=decide_eq_true d
      have K:Hid (tx s=Tp.wProc):=d
      clear d
      have k2:D.cell? ⟨j,3,none⟩=some (.slice pa ps.length pc):=za H.blk
      have m4:=zc H.blk
      by_cases a5:ps.length=10
      ·have f9:((ps.length:Int)==10)=true:=by simp;omega
       have L:Hid (ps.length=10):=a5
       clear a5
       go_wp2_with fail
       refine(zY F 4).mono ?_
       rintro e Z⟨o,a⟩
       obtain⟨N,R,rfl,S,T⟩:=o.out
       go_wp2_with fail
       refine⟨rfl,?_⟩
       rw[O.out,mP_full K.out L.out]
       exact yh I o (Ext.below a)
      ·have f9:((ps.length:Int)==10)=false:=by simp;omega
       have L:Hid (¬ps.length=10):=a5
       clear a5
       have b0:=F.below (zt D)
       rcases A:Tp.proc f s with er|⟨c,r1⟩
       ·have m:Hid (Tp.proc f s=.error er):=A
        clear A
        have n1:Hid (er≠(99,0)):=by intro e;apply HN.out;rw[O.out,mP_bad K.out L.out m.out,e]
        have HF:Hid (∀e w',Thrown D.drew.heap.size er e w'/\Ext p.pb D.drew w'->PostM p w (Tp.module f r) e w'):=by
         intro e w' B
         rw[O.out,mP_bad K.out L.out m.out]
         exact yh (I.trans (Ext.below (zt D))) B.1 B.2
        go_wp2_with fail
        go_region_dies
        all_goals (refine(proc_er' f6 b0 m n1).mono ?_;intro e t B;obtain⟨N,h1,h0,h2,h3⟩:=B.1.out;subst h0;exact⟨rfl,HF.out _ _ B⟩)
       ·have m:Hid (Tp.proc f s=.ok (c,r1)):=A
        clear A
        have z2:D.frozen? ⟨j,3,none⟩=false:=zi H.blk
        have b7:=H.below (zt D)
        have c4:=I.trans (Ext.below (zt D))
        go_wp2_with fail
        go_region_law (first|(refine yj rfl ?_;go_simp;go_at_call 81;refine(proc_ok' f6 b0 m).mono ?_;rintro e t ⟨⟨qa,va,P,qc,vc,Q,rfl,i7⟩,a7,d1⟩;have z:=b7.ext d1 a6;have a2:=c4.trans d1;have k9:t.cell? ⟨j,3,none⟩=some (.slice pa ps.length pc):=za z.blk;have z9:t.frozen? ⟨j,3,none⟩=false:=zi z.blk;have n6:j<t.heap.size:=zc z.blk;have g2:∀Y,(t.alloc Y).cell? ⟨j,3,none⟩=some (.slice pa ps.length pc):=fun Y=>zX k9 Y)|(refine zE rfl (.tmp 41) (.tmp 44) 63 rfl (j+1) 157 i6 (.agg #[.string ⟨#[]⟩,.int .i64 0,.bool false,.slice none 0 0,.slice none 0 0,.slice none 0 0]) 6 104 Tryz.underlying63 n4 m8 m9 n0 rfl (by decide) (.slice pa ps.length pc) ps.length g3 (by simp[Act.eval]) (z.pl.alloc _) ⟨t.heap.size,0,none⟩ 1 1 [.string (bs c.name),.int .i64 (c.pos:Int),.bool c.seen,.slice qa c.params.length qc,.slice va c.vars.length vc,.slice P c.body.length Q] (by simp[Act.eval]) rfl (news6 t _ _ _ _ _ _ _) (by intro u hu;simp at hu;rcases hu with rfl|rfl|rfl|rfl|rfl|rfl<;>rfl) (by unfold maxLen;omega) (by omega) (by have:=zc z.blk;simp;omega) ?_;intro v' E a8 a0 c2;have b1:=z.grewP a0;have g1:E.cell? ⟨j,3,none⟩=some (.slice pa ps.length pc):=za b1;have g4:E.frozen? ⟨j,3,none⟩=false:=zi b1;obtain⟨ua,uc,g0⟩:=z7 a8;subst g0))
        all_goals
         have b9:Below t.heap.size t (t.alloc (.cells #[.string (bs c.name),.int .i64 (c.pos:Int),.bool c.seen,.slice qa c.params.length qc,.slice va c.vars.length vc,.slice P c.body.length Q] 157)):=zb _ _
         have c5:Below j t E:=((Below.refl _ _).alloc (by omega) _).trans ((Below.refl _ _).grown a0 (by simp;omega) (fun q B=>by have:=zL z.pl q B;omega))
         have y:Below j t (E.setCell ⟨j,3,none⟩ (.slice ua (ps.length+1) uc)):=zu c5 zn 3 _
         have i0:=MS.newP b7 rfl i7.out
         have a3:=(z.below b9).addP (c:=c) (RepP.mono (fun b hb hl=>⟨b9.block b hl,hb⟩) _ _ i0) a8 a0 c2
         have b5:=a7.belowB y (by omega)
         have b4:=a2.trans' (y.mono b2)
         have J:Hid (Tp.module f r=mP f nm is l k (ps++[c]) r1):=by show _=_;rw[O.out];exact mP_ok K.out L.out m.out
         clear a0 c2 a8 z a7 a2 H I F b7 c4 b0 b1 g1 g4 k9 z9 k2 z2 c5 y b9 g2 i0 i7
         go_wp2_with fail
         go_roundg k
         case rel=>exact⟨ps++[c],_,_,r1,by have:=L.out;simp;omega,by have:=L.out;simp;omega,b5,a3,b4,J⟩
         all_goals omega
     ·have c9:=decide_eq_false d
      have J:Hid (Tp.module f r=mB f nm is l ps s):=by show _=_;rw[O.out];exact mP_end d
      clear d O
      go_wp2_with fail
      by_cases d:tx s=Tp.wBegin
      rotate_left
      ·refine(zN F Tp.wBegin _ rfl d).mono ?_
       rintro e Z⟨o,a⟩
       have m:Hid (¬tx s=Tp.wBegin):=d
       clear d
       obtain⟨N,R,rfl,S,T⟩:=o.out
       go_wp2_with fail
       refine⟨rfl,?_⟩
       rw[J.out,show mB f nm is l ps s=.error (3,at' s) by unfold mB;simp only[Tp.want,if_neg m.out];rfl]
       exact yh I o a
      refine(zF F Tp.wBegin _ rfl d).mono ?_
      rintro e t⟨rfl,a7,a⟩
      have HB:Hid (tx s=Tp.wBegin):=d
      have a2:=I.trans a
      have z:=H.ext a a6
      clear d F I H a
      have m0:Tp.sx f 0 0 (stp s)≠.error (99,0):=by
       intro e;apply HN.out;rw[J.out];unfold mB;simp only[Tp.want,if_pos HB.out,bind,Except.bind,e]
      have e8:=f6.out t (stp s) 0 a7 (by omega) m0
      generalize A:Tp.sx f 0 0 (stp s)=res at e8
      have HR:Hid (Tp.sx f 0 0 (stp s)=res):=A
      have i3:Hid (Calls Tryz.prog 82 #[.pointer (some ⟨p.pb,0,none⟩)] t fun e w'=>Post p ts 0 0 t (VL t.heap.size) res e w'):=e8
      clear m0 A e8
      go_wp2_with fail
      refine i3.out.mono ?_
      intro e E B
      rcases res with er|⟨bd,M⟩
      ·obtain⟨o,a⟩:=B
       obtain⟨N,R,rfl,S,T⟩:=o.out
       go_wp2_with fail
       refine⟨rfl,?_⟩
       rw[J.out,show mB f nm is l ps s=.error er by unfold mB;simp only[Tp.want,if_pos HB.out,bind,Except.bind,HR.out]]
       exact yh a2 o a
      obtain⟨v,rfl,hv,b5,a⟩:=B
      have n8:=zc z.blk
      have b4:=a2.trans a
      have a3:=z.ext a a6
      have f8:=(hv.vo.base (show j+1<=t.heap.size by omega))
      clear a7 a2 z a hv i3
      obtain⟨P,Q,rfl⟩:=f8.shape
      have kS:E.cell? ⟨j,4,none⟩=some (.slice none 0 0):=za a3.blk
      have zS:E.frozen? ⟨j,4,none⟩=false:=zi a3.blk
      have i8:=a3.keep
      have a4:=a3.blk
      go_wp2_with fail
      clear kS zS
      have y:Below j E (E.setCell ⟨j,4,none⟩ (.slice P bd.length Q)):=zu (Below.refl _ _) zn 4 _
      have b3:Ext j E (E.setCell ⟨j,4,none⟩ (.slice P bd.length Q)):=(Ext.refl _ _).set 4 _
      have d7:=b5.belowB y (by omega)
      have d3:=b4.trans' (y.mono b2)
      have f0:=i8.ext b3 zn
      have e5:=VO.ext b3 (by omega) f8
      have d2:=zy 4 (.slice P bd.length Q) a4
      generalize E.setCell ⟨j,4,none⟩ (.slice P bd.length Q)=w11 at y b3 d7 d3 f0 e5 d2 ⊢
      clear y b3 b5 b4 a3 i8 f8 a4
      by_cases d:tx M=Tp.wEnd
      rotate_left
      ·refine(zN d7 Tp.wEnd _ rfl d).mono ?_
       rintro e Z⟨o,a⟩
       have m:Hid (¬tx M=Tp.wEnd):=d
       clear d
       obtain⟨N,R,rfl,S,T⟩:=o.out
       go_wp2_with fail
       refine⟨rfl,?_⟩
       rw[J.out,show mB f nm is l ps s=.error (3,at' M) by unfold mB;simp only[Tp.want,if_pos HB.out,bind,Except.bind,HR.out,if_neg m.out]]
       exact yh d3 o a
      refine(zF d7 Tp.wEnd _ rfl d).mono ?_
      rintro e o0⟨rfl,f1,a⟩
      have HE:Hid (tx M=Tp.wEnd):=d
      have e4:=d3.trans a
      have h6:=f0.ext a (by omega)
      have g8:=VO.ext a (by omega) e5
      have e2:=(a.block j (zc d2) (by omega)).trans d2
      clear d d7 d3 f0 e5 d2 a
      go_wp2_with fail
      by_cases d:tx (stp M)=Tp.mDot
      rotate_left
      ·refine(zN f1 Tp.mDot _ rfl d).mono ?_
       rintro e Z⟨o,a⟩
       have m:Hid (¬tx (stp M)=Tp.mDot):=d
       clear d
       obtain⟨N,R,rfl,S,T⟩:=o.out
       go_wp2_with fail
       refine⟨rfl,?_⟩
       rw[J.out,show mB f nm is l ps s=.error (3,at' (stp M)) by unfold mB;simp only[Tp.want,if_pos HB.out,bind,Except.bind,HR.out,if_pos HE.out,if_neg m.out]]
       exact yh e4 o a
      refine(zF f1 Tp.mDot _ rfl d).mono ?_
      rintro e o1⟨rfl,f2,a⟩
      have HD:Hid (tx (stp M)=Tp.mDot):=d
      have g6:=e4.trans a
      have h7:=h6.ext a (by omega)
      have g9:=VO.ext a (by omega) g8
      have e3:=(a.block j (zc e2) (by omega)).trans e2
      clear d f1 e4 h6 g8 e2 a
      go_wp2_with fail
      refine(zK f2).mono ?_
      rintro e e1⟨rfl,b6⟩
      have m3:=f2.below b6
      have g7:=g6.trans (Ext.below b6)
      have m2:=h7.mono (fun b _ h2=>b6.block b h2)
      have m1:=VO.ext (Ext.below (b:=p.pb) b6) (by omega) g9
      have g5:=(b6.block j (zc e3)).trans e3
      clear f2 g6 h7 g9 e3 b6
      by_cases c1:(hd (stp (stp M))).kind=0
      ·have n5:(((hd (stp (stp M))).kind:Int) != 0)=false:=by simp[c1]
       have HK:Hid ((hd (stp (stp M))).kind=0):=c1
       clear c1
       have kr:∀i,e1.cell? ⟨j,i,none⟩=(mcells (bs nm) (.slice ia is.length ic) (.slice W l.length X) (.slice pa ps.length pc) (.slice P bd.length Q))[i]?:=fun i=>za g5
       have zr:∀i,e1.frozen? ⟨j,i,none⟩=false:=fun i=>zi g5
       simp only[mcells]at kr
       go_wp2_with fail
       refine bodyPost_ret (v:=.agg (mcells (bs nm) (.slice ia is.length ic) (.slice W l.length X) (.slice pa ps.length pc) (.slice P bd.length Q))) (by simp[results,Tryz.results39,go_sem,kr,mcells]) rfl ?_
       rw[J.out,show mB f nm is l ps s=.ok ⟨nm,is,l,ps,bd⟩ by unfold mB;simp only[Tp.want,if_pos HB.out,bind,Except.bind,HR.out,if_pos HE.out,if_pos HD.out,if_pos HK.out]]
       have y:=jm e1 j (.string (bs nm)) (.slice ia is.length ic) (.slice W l.length X) (.slice pa ps.length pc) (.slice P bd.length Q)
       have b3:=ext_set5 e1 j (.string (bs nm)) (.slice ia is.length ic) (.slice W l.length X) (.slice pa ps.length pc) (.slice P bd.length Q)
       exact⟨_,rfl,(m2.ext b3 zn).done b2 (VO.ext b3 (by omega) m1),g7.trans' (y.mono b2)⟩
      ·have n5:(((hd (stp (stp M))).kind:Int) != 0)=true:=by simp[c1]
       have HK:Hid (¬(hd (stp (stp M))).kind=0):=c1
       clear c1
       go_wp2_with fail
       refine(zY m3 3).mono ?_
       rintro e Z⟨o,a⟩
       obtain⟨N,R,rfl,S,T⟩:=o.out
       go_wp2_with fail
       refine⟨rfl,?_⟩
       rw[J.out,show mB f nm is l ps s=.error (3,at' (stp (stp M))) by unfold mB;simp only[Tp.want,if_pos HB.out,bind,Except.bind,HR.out,if_pos HE.out,if_pos HD.out,if_neg HK.out]]
       exact yh g7 o (Ext.below a)
end Go.Proofs.YtbkndnmglhghlaaGreatDoor

namespace Go.Proofs.YtbkndnmglhghlaaGreatDoor
open Go.RowKit
open Tp (Tok hd tx at' stp)
variable {l:List UInt8}{cap d i:Nat}{f:UInt8->Bool}{w:World}
def TxAt (w:World) (tb:Nat) (l:List UInt8):Prop:=∀j c,l[j]?=some c->w.cell? ⟨tb,j,none⟩=some (.int .u8 (c.toNat:Int))
def pastI (f:UInt8->Bool) (l:List UInt8) (i:Nat):Nat:=i+((l.drop i).takeWhile f).length
theorem ka (h:i<l.length)(a:f l[i]=true):pastI f l (i+1)=pastI f l i:=by
 unfold pastI
 rw[List.drop_eq_getElem_cons h,List.takeWhile_cons,if_pos a]
 simp;omega
theorem kU (h:i<l.length)(a:f l[i]=false):pastI f l i=i:=by
 unfold pastI
 rw[List.drop_eq_getElem_cons h,List.takeWhile_cons,a]
 simp
theorem yE (h:¬i<l.length):pastI f l i=i:=by
 unfold pastI
 rw[List.drop_eq_nil_of_le (by omega)]
 simp
theorem jt (h:i<=l.length):i<=pastI f l i/\pastI f l i<=l.length:=by
 unfold pastI
 have:=(List.takeWhile_prefix f (l:=l.drop i)).length_le
 simp at this
 omega
theorem blank_eq (c:UInt8):Tp.blank c=(decide ((c.toNat:Int)=32) || decide ((c.toNat:Int)=10)):=by
 rw[Bool.eq_iff_iff];simp[Tp.blank,<-UInt8.toNat_inj];omega
theorem letter_eq (c:UInt8):Tp.letter c=(decide ((97:Int)<=(c.toNat:Int))&&decide ((c.toNat:Int)<=122)):=by
 rw[Bool.eq_iff_iff];simp[Tp.letter];omega
theorem digit_eq (c:UInt8):Tp.digit c=(decide ((48:Int)<=(c.toNat:Int))&&decide ((c.toNat:Int)<=57)):=by
 rw[Bool.eq_iff_iff];simp[Tp.digit];omega
theorem vQ (w:World)(c:UInt8):Calls Tryz.prog 70 #[.int .u8 (c.toNat:Int)] w fun e w'=>e=.returned (.bool (Tp.blank c))/\w'=w:=by
 rw[blank_eq]
 generalize (c.toNat:Int)=z
 by_cases a:z=32
 ·subst a
  go_enter Tryz.func70,Tryz.ntmps70
  go_wp2_with fail
  go_ret
  exact⟨rfl,rfl⟩
 ·have g:(z==32)=false:=by simp[a]
  have d:decide (z=32)=false:=by simp[a]
  rw[d]
  clear a
  by_cases b:z=10
  ·subst b
   go_enter Tryz.func70,Tryz.ntmps70
   go_wp2_with fail
   go_ret
   exact⟨rfl,rfl⟩
  ·have h:(z==10)=false:=by simp[b]
   have f:decide (z=10)=false:=by simp[b]
   rw[f]
   clear b f d
   go_enter Tryz.func70,Tryz.ntmps70
   go_wp2_with fail
   go_ret
   exact⟨rfl,rfl⟩
theorem jj (w:World)(c:UInt8):Calls Tryz.prog 127 #[.int .u8 (c.toNat:Int)] w fun e w'=>e=.returned (.bool (Tp.letter c))/\w'=w:=by
 rw[letter_eq]
 generalize (c.toNat:Int)=z
 by_cases a:(97:Int)<=z
 ·rw[decide_eq_true a]
  by_cases b:z<=122
  ·rw[decide_eq_true b]
   go_enter Tryz.func127,Tryz.ntmps127
   go_wp2_with fail
   go_ret
   exact⟨rfl,rfl⟩
  ·have d:=decide_eq_false b
   rw[d]
   have g:(122:Int)<z:=by omega
   clear b
   go_enter Tryz.func127,Tryz.ntmps127
   go_wp2_with fail
   go_ret
   exact⟨rfl,rfl⟩
 ·rw[decide_eq_false a]
  have f:z<(97:Int):=by omega
  clear a
  go_enter Tryz.func127,Tryz.ntmps127
  go_wp2_with fail
  go_ret
  exact⟨rfl,rfl⟩
theorem kZ (w:World)(c:UInt8):Calls Tryz.prog 128 #[.int .u8 (c.toNat:Int)] w fun e w'=>e=.returned (.bool (Tp.digit c))/\w'=w:=by
 rw[digit_eq]
 generalize (c.toNat:Int)=z
 by_cases a:(48:Int)<=z
 ·rw[decide_eq_true a]
  by_cases b:z<=57
  ·rw[decide_eq_true b]
   go_enter Tryz.func128,Tryz.ntmps128
   go_wp2_with fail
   go_ret
   exact⟨rfl,rfl⟩
  ·have d:=decide_eq_false b
   rw[d]
   have g:(57:Int)<z:=by omega
   clear b
   go_enter Tryz.func128,Tryz.ntmps128
   go_wp2_with fail
   go_ret
   exact⟨rfl,rfl⟩
 ·rw[decide_eq_false a]
  have f:z<(48:Int):=by omega
  clear a
  go_enter Tryz.func128,Tryz.ntmps128
  go_wp2_with fail
  go_ret
  exact⟨rfl,rfl⟩
theorem ld_any (w:World)(c:UInt8)(b a:Nat)(g:w.cell? ⟨b,0,none⟩=some (.func (.func 127) #[] #[]))(hd:w.cell? ⟨a,0,none⟩=some (.func (.func 128) #[] #[])) :
  Calls Tryz.prog 129 #[.int .u8 (c.toNat:Int),.pointer (some ⟨b,0,none⟩),.pointer (some ⟨a,0,none⟩)] w fun e w'=>e=.returned (.bool (Tp.ld c))/\w'=w:=by
 unfold Tp.ld
 cases f:Tp.letter c
 ·go_enter Tryz.func129,Tryz.ntmps129
  go_wp2_with fail
  refine(jj w c).mono ?_
  rintro e d⟨rfl,rfl⟩
  go_wp2_with fail
  refine(kZ d c).mono ?_
  rintro e h⟨rfl,rfl⟩
  go_wp2_with fail
  go_ret
  exact⟨rfl,rfl⟩
 ·go_enter Tryz.func129,Tryz.ntmps129
  go_wp2_with fail
  refine(jj w c).mono ?_
  rintro e d⟨rfl,rfl⟩
  go_wp2_with fail
  go_ret
  exact⟨rfl,rfl⟩
theorem jT (h:TxAt w d l)(i:Nat)(m:i<=l.length)(r:l.length<=100000) :
  Calls Tryz.prog 71 #[.slice (some ⟨d,0,none⟩) l.length cap,.int .i64 (i:Int),.func (.func 70) #[] #[]] w fun e w'=>e=.returned (.int .i64 (pastI Tp.blank l i:Int))/\w'=w:=by
 have j:Hid (TxAt w d l):=h
 clear h
 go_enter Tryz.func71,Tryz.ntmps71
 go_wp2_with fail
 go_loop [1] (fun v=>∃k:Nat,k<=l.length/\v=.int .i64 (k:Int)/\pastI Tp.blank l k=pastI Tp.blank l i) (fun v=>l.length-(intOf v).toNat)
 case atStart=>exact⟨i,m,rfl,rfl⟩
 case round =>
  obtain⟨k,q,rfl,f⟩:=hrel
  have c:Hid (pastI Tp.blank l k=pastI Tp.blank l i):=f
  clear f
  by_cases b:k<l.length
  ·have p:=j.out k l[k] (List.getElem?_eq_getElem b)
   have o:(k:Int)<(l.length:Int):=by omega
   cases g:Tp.blank l[k]
   ·go_wp2_with fail
    refine(vQ _ l[k]).mono ?_
    rintro e n⟨rfl,rfl⟩
    have a:Hid (pastI Tp.blank l k=k):=kU b g
    go_wp2_with fail
    go_ret
    exact⟨by rw[<-c.out,a.out];rfl,rfl⟩
   ·go_wp2_with fail
    refine(vQ _ l[k]).mono ?_
    rintro e n⟨rfl,rfl⟩
    have a:Hid (pastI Tp.blank l (k+1)=pastI Tp.blank l k):=ka b g
    go_wp2_with fail
    go_round
    case rel=>exact⟨k+1,by omega,by go_num,by rw[a.out,c.out]⟩
    case measure=>simp[intOf];omega
  ·have a:Hid (pastI Tp.blank l k=k):=yE b
   go_wp2_with fail
   go_ret
   exact⟨by rw[<-c.out,a.out];rfl,rfl⟩
theorem past_digit (h:TxAt w d l)(i:Nat)(m:i<=l.length)(r:l.length<=100000) :
  Calls Tryz.prog 71 #[.slice (some ⟨d,0,none⟩) l.length cap,.int .i64 (i:Int),.func (.func 128) #[] #[]] w fun e w'=>e=.returned (.int .i64 (pastI Tp.digit l i:Int))/\w'=w:=by
 have j:Hid (TxAt w d l):=h
 clear h
 go_enter Tryz.func71,Tryz.ntmps71
 go_wp2_with fail
 go_loop [1] (fun v=>∃k:Nat,k<=l.length/\v=.int .i64 (k:Int)/\pastI Tp.digit l k=pastI Tp.digit l i) (fun v=>l.length-(intOf v).toNat)
 case atStart=>exact⟨i,m,rfl,rfl⟩
 case round =>
  obtain⟨k,q,rfl,f⟩:=hrel
  have c:Hid (pastI Tp.digit l k=pastI Tp.digit l i):=f
  clear f
  by_cases b:k<l.length
  ·have p:=j.out k l[k] (List.getElem?_eq_getElem b)
   have o:(k:Int)<(l.length:Int):=by omega
   cases g:Tp.digit l[k]
   ·go_wp2_with fail
    refine(kZ _ l[k]).mono ?_
    rintro e n⟨rfl,rfl⟩
    have a:Hid (pastI Tp.digit l k=k):=kU b g
    go_wp2_with fail
    go_ret
    exact⟨by rw[<-c.out,a.out];rfl,rfl⟩
   ·go_wp2_with fail
    refine(kZ _ l[k]).mono ?_
    rintro e n⟨rfl,rfl⟩
    have a:Hid (pastI Tp.digit l (k+1)=pastI Tp.digit l k):=ka b g
    go_wp2_with fail
    go_round
    case rel=>exact⟨k+1,by omega,by go_num,by rw[a.out,c.out]⟩
    case measure=>simp[intOf];omega
  ·have a:Hid (pastI Tp.digit l k=k):=yE b
   go_wp2_with fail
   go_ret
   exact⟨by rw[<-c.out,a.out];rfl,rfl⟩
theorem past_ld {g:Nat}(o:TxAt w g l)(i:Nat)(q:i<=l.length)(x:l.length<=100000)(d c:Nat)(j:w.cell? ⟨d,0,none⟩=some (.func (.func 127) #[] #[]))(h:w.cell? ⟨c,0,none⟩=some (.func (.func 128) #[] #[])) :
  Calls Tryz.prog 71 #[.slice (some ⟨g,0,none⟩) l.length cap,.int .i64 (i:Int),.func (.func 129) #[] #[.pointer (some ⟨d,0,none⟩),.pointer (some ⟨c,0,none⟩)]] w fun e w'=>e=.returned (.int .i64 (pastI Tp.ld l i:Int))/\w'=w:=by
 have p:Hid (TxAt w g l):=o
 clear o
 go_enter Tryz.func71,Tryz.ntmps71
 go_wp2_with fail
 go_loop [1] (fun v=>∃k:Nat,k<=l.length/\v=.int .i64 (k:Int)/\pastI Tp.ld l k=pastI Tp.ld l i) (fun v=>l.length-(intOf v).toNat)
 case atStart=>exact⟨i,q,rfl,rfl⟩
 case round =>
  obtain⟨k,u,rfl,m⟩:=hrel
  have f:Hid (pastI Tp.ld l k=pastI Tp.ld l i):=m
  clear m
  by_cases b:k<l.length
  ·have t:=p.out k l[k] (List.getElem?_eq_getElem b)
   have s:(k:Int)<(l.length:Int):=by omega
   cases n:Tp.ld l[k]
   ·go_wp2_with fail
    refine(ld_any _ l[k] d c j h).mono ?_
    rintro e r⟨rfl,rfl⟩
    have a:Hid (pastI Tp.ld l k=k):=kU b n
    go_wp2_with fail
    go_ret
    exact⟨by rw[<-f.out,a.out];rfl,rfl⟩
   ·go_wp2_with fail
    refine(ld_any _ l[k] d c j h).mono ?_
    rintro e r⟨rfl,rfl⟩
    have a:Hid (pastI Tp.ld l (k+1)=pastI Tp.ld l k):=ka b n
    go_wp2_with fail
    go_round
    case rel=>exact⟨k+1,by omega,by go_num,by rw[a.out,f.out]⟩
    case measure=>simp[intOf];omega
  ·have a:Hid (pastI Tp.ld l k=k):=yE b
   go_wp2_with fail
   go_ret
   exact⟨by rw[<-f.out,a.out];rfl,rfl⟩
end Go.Proofs.YtbkndnmglhghlaaGreatDoor
