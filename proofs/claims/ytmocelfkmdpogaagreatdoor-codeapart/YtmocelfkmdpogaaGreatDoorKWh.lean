import Derived.Test.YtmocelfkmdpogaaGreatDoorKWg
set_option maxRecDepth 100000
set_option maxHeartbeats 4000000
namespace Go.Proofs.YtmocelfkmdpogaaGreatDoor
open Go.RowKit
open Tp (Tok hd tx at' stp X S G Pr)
def mB (f:Nat) (nm:List UInt8) (is:List (List UInt8)) (gs:List G) (ps:List Pr) (r6:List Tok):Except Tp.Er Tp.M:=do
 let r7 <- Tp.want Tp.wBegin r6
 let (b,r8) <- Tp.sx f 0 0 r7
 let r9 <- Tp.want Tp.wEnd r8
 let r10 <- Tp.want Tp.mDot r9
 if (hd r10).kind=0 then .ok ⟨nm,is,gs,ps,b⟩ else .error (3,at' r10)
def mP (f:Nat) (nm:List UInt8) (is:List (List UInt8)) (gs:List G) (k:Nat) (ps:List Pr) (r5:List Tok):Except Tp.Er Tp.M:=do
 let (l,r6) <- Tp.procs k f ps.length r5
 mB f nm is gs (ps++l) r6
def mG (f:Nat) (nm:List UInt8) (is:List (List UInt8)) (k:Nat) (gs:List G) (r4:List Tok):Except Tp.Er Tp.M:=do
 let (l,r5) <- Tp.globals k gs.length r4
 mP f nm is (gs++l) 12 [] r5
def mI (r3:List Tok):Except Tp.Er (List (List UInt8)× List Tok):=if tx r3=Tp.wImport then do
   let (is,r4) <- Tp.names 7 0 6 (stp r3)
   let r5 <- Tp.want Tp.mSemi r4
   .ok (is,r5)
  else .ok ([],r3)
theorem module_eq (f:Nat) (r:List Tok):Tp.module f r=(do
  let r1 <- Tp.want Tp.wModule r
  let (n,r2) <- Tp.name r1
  let r3 <- Tp.want Tp.mSemi r2
  let (is,r4) <- mI r3
  mG f n is 12 [] r4):=by
 unfold Tp.module mG mP mB mI
 simp only [List.nil_append,List.length_nil]
theorem mG_end {f k:Nat}{nm:List UInt8}{is:List (List UInt8)}{gs:List G}{r:List Tok}(h:tx r≠Tp.wVar):mG f nm is (k+1) gs r=mP f nm is gs 12 [] r:=by
 unfold mG;rw[Tp.globals,if_neg h];simp only [bind,Except.bind,List.append_nil]
theorem mG_full {f k:Nat}{nm:List UInt8}{is:List (List UInt8)}{gs:List G}{r:List Tok}(h:tx r=Tp.wVar) (hl:gs.length=10):mG f nm is (k+1) gs r=.error (4,at' (stp r)):=by
 unfold mG;rw[Tp.globals,if_pos h,if_pos hl];rfl
theorem mG_bad {f k:Nat}{nm:List UInt8}{is:List (List UInt8)}{gs:List G}{r:List Tok}{er:Tp.Er}(h:tx r=Tp.wVar) (hl:¬gs.length=10) (hg:Tp.global (stp r)=.error er):mG f nm is (k+1) gs r=.error er:=by
 unfold mG;rw[Tp.globals,if_pos h,if_neg hl,hg];rfl
theorem mG_ok {f k:Nat}{nm:List UInt8}{is:List (List UInt8)}{gs:List G}{r r1:List Tok}{g:G}(h:tx r=Tp.wVar) (hl:¬gs.length=10) (hg:Tp.global (stp r)=.ok (g,r1)):mG f nm is (k+1) gs r=mG f nm is k (gs++[g]) r1:=by
 unfold mG;rw[Tp.globals,if_pos h,if_neg hl,hg]
 simp only [bind,Except.bind,List.length_append,List.length_singleton]
 cases Tp.globals k (gs.length+1) r1 with
 | error e=>rfl
 | ok v=>simp only [List.append_assoc,List.singleton_append]
theorem mP_end {f k:Nat}{nm:List UInt8}{is:List (List UInt8)}{gs:List G}{ps:List Pr}{r:List Tok}(h:tx r≠Tp.wProc):mP f nm is gs (k+1) ps r=mB f nm is gs ps r:=by
 unfold mP;rw[Tp.procs,if_neg h];simp only [bind,Except.bind,List.append_nil]
theorem mP_full {f k:Nat}{nm:List UInt8}{is:List (List UInt8)}{gs:List G}{ps:List Pr}{r:List Tok}(h:tx r=Tp.wProc) (hl:ps.length=10):mP f nm is gs (k+1) ps r=.error (4,at' r):=by
 unfold mP;rw[Tp.procs,if_pos h,if_pos hl];rfl
theorem mP_bad {f k:Nat}{nm:List UInt8}{is:List (List UInt8)}{gs:List G}{ps:List Pr}{r:List Tok}{er:Tp.Er}(h:tx r=Tp.wProc) (hl:¬ps.length=10) (hg:Tp.proc f r=.error er):mP f nm is gs (k+1) ps r=.error er:=by
 unfold mP;rw[Tp.procs,if_pos h,if_neg hl,hg];rfl
theorem mP_ok {f k:Nat}{nm:List UInt8}{is:List (List UInt8)}{gs:List G}{ps:List Pr}{r r1:List Tok}{c:Pr}(h:tx r=Tp.wProc) (hl:¬ps.length=10) (hg:Tp.proc f r=.ok (c,r1)):mP f nm is gs (k+1) ps r=mP f nm is gs k (ps++[c]) r1:=by
 unfold mP;rw[Tp.procs,if_pos h,if_neg hl,hg]
 simp only [bind,Except.bind,List.length_append,List.length_singleton]
 cases Tp.procs k f (ps.length+1) r1 with
 | error e=>rfl
 | ok v=>simp only [List.append_assoc,List.singleton_append]
def PostM (p:Ps) (w:World) (res:Except Tp.Er Tp.M) (e:Ending) (w':World):Prop :=
 match res with
 | .ok m=>∃ v,e=.returned v/\VM w.heap.size m v w'/\Ext p.pb w w'
 | .error er=>Thrown w.heap.size er e w'/\Ext p.pb w w'
theorem yi {p:Ps}{w w1 w':World}{er:Tp.Er}{e:Ending}(hx:Ext p.pb w w1) (ht:Thrown w1.heap.size er e w') (hx2:Ext p.pb w1 w'):PostM p w (.error er) e w' :=
 ⟨ht.mono hx.size,hx.trans hx2⟩
theorem Tryz.infoGlobal:(Tryz.prog.info? 118).map (fun i=>(i.zero,i.size,i.bytes))=some (some (.agg #[.string ⟨#[]⟩,.int .i64 0,.int .i64 0,.bool false]),4,40):=by kernel_rfl
theorem Tryz.infoProc:(Tryz.prog.info? 79).map (fun i=>(i.zero,i.size,i.bytes))=some (some (.agg #[.string ⟨#[]⟩,.int .i64 0,.bool false,.slice none 0 0,.slice none 0 0,.slice none 0 0]),6,104):=by kernel_rfl
theorem global_ok' {w:World}{p:Ps}{ts r r1:List Tok}{o b:Nat}{g:G}(h:St w p ts r o b) (hr:Hid (Tp.global r=.ok (g,r1))) :
  Calls Tryz.prog 59 #[.pointer (some ⟨p.pb,0,none⟩)] w fun e w'=>e=.returned (.agg #[.string (bs g.name),.int .i64 (g.pos:Int),.int .i64 (g.len:Int),.bool g.seen])/\St w' p ts r1 o b/\Ext p.pb w w':=by
 refine(jW h).mono ?_
 intro e w' hq
 rw[hr.out]at hq
 obtain⟨v,rfl,hv,h1,h2⟩:=hq
 exact⟨by rw[show v=_ from hv];rfl,h1,h2⟩
theorem global_er' {w:World}{p:Ps}{ts r:List Tok}{o b:Nat}{er:Tp.Er}(h:St w p ts r o b) (hr:Hid (Tp.global r=.error er)) :
  Calls Tryz.prog 59 #[.pointer (some ⟨p.pb,0,none⟩)] w fun e w'=>Thrown w.heap.size er e w'/\Ext p.pb w w':=by
 refine(jW h).mono ?_
 intro e w' hq
 rw[hr.out]at hq
 exact hq
theorem news4 (w:World) (e:Nat) (v0 v1 v2 v3:Value):∀ j u,[v0,v1,v2,v3][j]?=some u->(w.alloc (.cells #[v0,v1,v2,v3] e)).cell? ((⟨w.heap.size,0,none⟩:Addr).add j)=some u:=by
 intro j u hj
 match j,hj with
 | 0,hj=>simp at hj;subst hj;simp[Addr.add]
 | 1,hj=>simp at hj;subst hj;simp[Addr.add]
 | 2,hj=>simp at hj;subst hj;simp[Addr.add]
 | 3,hj=>simp at hj;subst hj;simp[Addr.add]
theorem news6 (w:World) (e:Nat) (v0 v1 v2 v3 v4 v5:Value):∀ j u,[v0,v1,v2,v3,v4,v5][j]?=some u->(w.alloc (.cells #[v0,v1,v2,v3,v4,v5] e)).cell? ((⟨w.heap.size,0,none⟩:Addr).add j)=some u:=by
 intro j u hj
 match j,hj with
 | 0,hj=>simp at hj;subst hj;simp[Addr.add]
 | 1,hj=>simp at hj;subst hj;simp[Addr.add]
 | 2,hj=>simp at hj;subst hj;simp[Addr.add]
 | 3,hj=>simp at hj;subst hj;simp[Addr.add]
 | 4,hj=>simp at hj;subst hj;simp[Addr.add]
 | 5,hj=>simp at hj;subst hj;simp[Addr.add]
theorem gv_slice {w:World}{rb:Nat}{nm:List UInt8}{is:List (List UInt8)}{gs:List G}{ps:List Pr}{iv gv pv:Value}{pcs:List Value}(h:MS w rb nm is gs ps iv gv pv pcs):(∃ a c,gv=.slice a gs.length c)/\(∃ a c,pv=.slice a ps.length c)/\(∃ a c,iv=.slice a is.length c) :=
 ⟨zl h.gl,zl h.pl,h.im.shape⟩
theorem MS.setI {w:World}{rb:Nat}{nm:List UInt8}{is:List (List UInt8)}{iv:Value}(h:MS w rb nm [] [] [] (.slice none 0 0) (.slice none 0 0) (.slice none 0 0) []) (hi:w.ownsRow (rb+1) 9 1 iv is.length (strs is)):MS (w.setCell ⟨rb,1,none⟩ iv) rb nm is [] [] iv (.slice none 0 0) (.slice none 0 0) []:=by
 have hx:∀ b,b≠rb->(w.setCell ⟨rb,1,none⟩ iv).heap[b]?=w.heap[b]?:=fun b hb=>Below.heap_setCell _ _ _ _ (by simpa using hb)
 exact⟨zw 1 iv h.blk,(Row.of_owns hi).mono (fun b hb _=>⟨hx b (by omega),by omega,(by simp[Value.ownBlock]),(by simp[Value.ownBlock])⟩),World.ownsRow_nil _ _ _ _,World.ownsRow_nil _ _ _ _,fun b hb e=>(by cases e),rfl⟩
theorem proc_ok' {w:World}{p:Ps}{ts r r1:List Tok}{f:Nat}{c:Pr}(hS:Hid (StmtsC p ts f)) (h:St w p ts r 0 0) (hr:Hid (Tp.proc f r=.ok (c,r1))) :
  Calls Tryz.prog 61 #[.pointer (some ⟨p.pb,0,none⟩)] w fun e w'=>(∃(pa va ba:Option Addr) (pc vc bc:Nat),e=.returned (.agg #[.string (bs c.name),.int .i64 (c.pos:Int),.bool c.seen,.slice pa c.params.length pc,.slice va c.vars.length vc,.slice ba c.body.length bc]) /\
   Hid (w'.ownsRow w.heap.size 9 1 (.slice pa c.params.length pc) c.params.length (strs c.params)/\w'.ownsRow w.heap.size 9 1 (.slice va c.vars.length vc) c.vars.length (strs c.vars)/\VO w.heap.size c.body (.slice ba c.body.length bc) w'))/\St w' p ts r1 0 0/\Ext p.pb w w':=by
 refine(ud hS.out h (by rw[hr.out];intro e;cases e)).mono ?_
 intro e w' hq
 rw[hr.out]at hq
 obtain⟨v,rfl,⟨pa,va,ba,pc,vc,bc,h3,h4,h5,h6⟩,h1,h2⟩:=hq
 subst h3
 exact⟨⟨pa,va,ba,pc,vc,bc,rfl,⟨h4,h5,h6⟩⟩,h1,h2⟩
theorem MS.newP {w w':World}{rb C:Nat}{nm:List UInt8}{is:List (List UInt8)}{gs:List G}{ps:List Pr}{iv gv pv:Value}{pcs:List Value}{c:Pr}{pa va ba:Option Addr}{pc vc bc:Nat}(h:MS w rb nm is gs ps iv gv pv pcs) (hC:C=w.heap.size)
  (hv:w'.ownsRow C 9 1 (.slice pa c.params.length pc) c.params.length (strs c.params)/\w'.ownsRow C 9 1 (.slice va c.vars.length vc) c.vars.length (strs c.vars)/\VO C c.body (.slice ba c.body.length bc) w') :
  RepP w' (fun b=>rb<b/\gv.ownBlock≠some b/\pv.ownBlock≠some b) [c] [.string (bs c.name),.int .i64 (c.pos:Int),.bool c.seen,.slice pa c.params.length pc,.slice va c.vars.length vc,.slice ba c.body.length bc]:=by
 subst hC
 have hrl:=zi h.blk
 have hD:∀ b,w.heap.size<=b->rb<b/\gv.ownBlock≠some b/\pv.ownBlock≠some b:=fun b hb=>⟨by omega,fun e=>by have:=(h.gl.lt b e).2;omega,fun e=>by have:=(h.pl.lt b e).2;omega⟩
 obtain⟨h1,h2,bcs,h3,h4⟩:=hv
 exact⟨_,_,_,bcs,[],rfl,(Row.of_owns h1).mono (fun b hb _=>⟨rfl,hD b hb.1⟩),(Row.of_owns h2).mono (fun b hb _=>⟨rfl,hD b hb.1⟩),h3.mono' (fun b hb _=>⟨rfl,hD b hb⟩),h4.mono (fun b hb _=>⟨rfl,hD b hb⟩),rfl⟩
theorem ext_set5 (w:World) (b:Nat) (v0 v1 v2 v3 v4:Value):Ext b w (((((w.setCell ⟨b,0,none⟩ v0).setCell ⟨b,1,none⟩ v1).setCell ⟨b,2,none⟩ v2).setCell ⟨b,3,none⟩ v3).setCell ⟨b,4,none⟩ v4):=((((((Ext.refl b w).set 0 v0).set 1 v1).set 2 v2).set 3 v3).set 4 v4)
theorem j8 (w:World) (b:Nat) (v0 v1 v2 v3 v4:Value):Below b w (((((w.setCell ⟨b,0,none⟩ v0).setCell ⟨b,1,none⟩ v1).setCell ⟨b,2,none⟩ v2).setCell ⟨b,3,none⟩ v3).setCell ⟨b,4,none⟩ v4):=(zq (zq (zq (zq (zq (Below.refl b w) zn 0 v0) zn 1 v1) zn 2 v2) zn 3 v3) zn 4 v4)
structure MK (w:World) (rb:Nat) (is:List (List UInt8)) (gs:List G) (ps:List Pr) (iv gv pv:Value) (pcs:List Value):Prop where
 im:Row w (fun b=>rb<b) 9 1 iv is.length (strs is)
 gl:Row w (fun b=>rb<b) 118 4 gv gs.length (gcs gs)
 pl:Row w (fun b=>rb<b) 79 6 pv ps.length pcs
 rp:RepP w (fun b=>rb<b) ps pcs
theorem MS.keep {w:World}{rb:Nat}{nm:List UInt8}{is:List (List UInt8)}{gs:List G}{ps:List Pr}{iv gv pv:Value}{pcs:List Value}(h:MS w rb nm is gs ps iv gv pv pcs):MK w rb is gs ps iv gv pv pcs :=
 ⟨h.im.mono (fun b hb _=>⟨rfl,hb.1⟩),(Row.of_owns h.gl).mono (fun b hb _=>⟨rfl,by omega⟩),(Row.of_owns h.pl).mono (fun b hb _=>⟨rfl,by omega⟩),RepP.mono (fun b hb _=>⟨rfl,hb.1⟩) _ _ h.rp⟩
theorem MK.mono {w w':World}{rb:Nat}{is:List (List UInt8)}{gs:List G}{ps:List Pr}{iv gv pv:Value}{pcs:List Value}(h:MK w rb is gs ps iv gv pv pcs) (hk:∀ b,rb<b->b<w.heap.size->w'.heap[b]?=w.heap[b]?):MK w' rb is gs ps iv gv pv pcs :=
 ⟨h.im.mono (fun b hb hl=>⟨hk b hb hl,hb⟩),h.gl.mono (fun b hb hl=>⟨hk b hb hl,hb⟩),h.pl.mono (fun b hb hl=>⟨hk b hb hl,hb⟩),RepP.mono (fun b hb hl=>⟨hk b hb hl,hb⟩) _ _ h.rp⟩
theorem MK.ext {w w':World}{rb pb:Nat}{is:List (List UInt8)}{gs:List G}{ps:List Pr}{iv gv pv:Value}{pcs:List Value}(h:MK w rb is gs ps iv gv pv pcs) (k:Ext pb w w') (hp:pb<=rb):MK w' rb is gs ps iv gv pv pcs :=
 h.mono (fun b h1 h2=>k.block b h2 (by omega))
theorem MK.done {w:World}{rb B:Nat}{nm:List UInt8}{is:List (List UInt8)}{gs:List G}{ps:List Pr}{ia ga pa ba:Option Addr}{ic gc pc bc:Nat}{pcs:List Value}{bd:List S}(hB:B<=rb) (h:MK w rb is gs ps (.slice ia is.length ic) (.slice ga gs.length gc) (.slice pa ps.length pc) pcs) (hb:VO (rb+1) bd (.slice ba bd.length bc) w) :
  VM B ⟨nm,is,gs,ps,bd⟩ (.agg (mcells (bs nm) (.slice ia is.length ic) (.slice ga gs.length gc) (.slice pa ps.length pc) (.slice ba bd.length bc))) w:=by
 obtain⟨bcs,b1,b2⟩:=hb
 exact⟨ia,ga,pa,ba,ic,gc,pc,bc,pcs,bcs,rfl,h.im.mono (fun b hb _=>⟨rfl,by omega⟩),h.gl.mono (fun b hb _=>⟨rfl,by omega⟩),RepP.mono (fun b hb _=>⟨rfl,by omega⟩) _ _ h.rp,h.pl.mono (fun b hb _=>⟨rfl,by omega⟩),b1.mono' (fun b hb _=>⟨rfl,by omega⟩),b2.mono (fun b hb _=>⟨rfl,by omega⟩)⟩
theorem proc_er' {w:World}{p:Ps}{ts r:List Tok}{f:Nat}{er:Tp.Er}(hS:Hid (StmtsC p ts f)) (h:St w p ts r 0 0) (hr:Hid (Tp.proc f r=.error er)) (hne:Hid (er≠(99,0))) :
  Calls Tryz.prog 61 #[.pointer (some ⟨p.pb,0,none⟩)] w fun e w'=>Thrown w.heap.size er e w'/\Ext p.pb w w':=by
 refine(ud hS.out h (by rw[hr.out];intro e;injection e with e;exact hne.out e)).mono ?_
 intro e w' hq
 rw[hr.out]at hq
 exact hq
theorem MS.grewG {w w':World}{ob:Obj}{rb:Nat}{nm:List UInt8}{is:List (List UInt8)}{gs:List G}{ps:List Pr}{iv gv pv:Value}{pcs:List Value}(h:MS w rb nm is gs ps iv gv pv pcs) (hg:(w.alloc ob).grownBy w' gv.ownBlock):w'.heap[rb]?=some (.cells (mcells (bs nm) iv gv pv (.slice none 0 0)) 29 (0,0)):=by
 have hrl:=zi h.blk
 have hr:gv.ownBlock≠some rb:=fun e=>by have:=zL h.gl rb e;omega
 exact(hg.block rb (by simp;omega) (fun e=>hr e.symm)).trans ((Below.heap_alloc w ob rb hrl).trans h.blk)
theorem MS.grewP {w w':World}{ob:Obj}{rb:Nat}{nm:List UInt8}{is:List (List UInt8)}{gs:List G}{ps:List Pr}{iv gv pv:Value}{pcs:List Value}(h:MS w rb nm is gs ps iv gv pv pcs) (hg:(w.alloc ob).grownBy w' pv.ownBlock):w'.heap[rb]?=some (.cells (mcells (bs nm) iv gv pv (.slice none 0 0)) 29 (0,0)):=by
 have hrl:=zi h.blk
 have hr:pv.ownBlock≠some rb:=fun e=>by have:=zL h.pl rb e;omega
 exact(hg.block rb (by simp;omega) (fun e=>hr e.symm)).trans ((Below.heap_alloc w ob rb hrl).trans h.blk)
theorem yV {P:Program}{ops:Array Oper}{o:Oper}{a:Act}{w:World}{K:Act->World->Prop}{Q:Exit->Act->World->Prop}{E:Prop}(hg:o.guard=none) (h:Oper.wp P o a w K Q):if Region.wanted o (yielded ops a.tmps)=true then Oper.wp P o a w K Q else E:=by
 rw[if_pos (by simp[Region.wanted,hg])];exact h
theorem qw {p:Ps}{ts:List Tok}{f:Nat}(hf:f<=100000) {w:World}{r:List Tok}(h:St w p ts r 0 0) (hn:Tp.module f r≠.error (99,0)) :
  Calls Tryz.prog 24 #[.pointer (some ⟨p.pb,0,none⟩)] w fun e w'=>PostM p w (Tp.module f r) e w':=by
 obtain⟨i4,hi4,hz40,hz41,hz42⟩:=info_parts Tryz.infoGlobal
 obtain⟨i6,hi6,hz60,hz61,hz62⟩:=info_parts Tryz.infoProc
 have hpl:=zc h.c0
 have HSC:Hid (StmtsC p ts f):=(stmt_all p ts f hf).1
 have HM:Hid (Tp.module f r=(do
  let r1 <- Tp.want Tp.wModule r
  let (n,r2) <- Tp.name r1
  let r3 <- Tp.want Tp.mSemi r2
  let (is,r4) <- mI r3
  mG f n is 12 [] r4)):=module_eq f r
 have HN:Hid (Tp.module f r≠.error (99,0)):=hn
 clear hn
 obtain⟨rb,hrbe⟩:∃ rb,rb=w.heap.size:=⟨_,rfl⟩
 go_enter Tryz.func24,Tryz.ntmps24
 go_wp2_with fail
 have hba:∀ ob,Below w.heap.size w (w.alloc ob):=fun ob=>zb _ _
 have hst:=h.below (hba (.cells (mcells ⟨#[]⟩ (.slice none 0 0) (.slice none 0 0) (.slice none 0 0) (.slice none 0 0)) 29))
 have hext:Ext p.pb w (w.alloc (.cells (mcells ⟨#[]⟩ (.slice none 0 0) (.slice none 0 0) (.slice none 0 0) (.slice none 0 0)) 29)):=Ext.below (hba _)
 have hblk:(w.alloc (.cells (mcells ⟨#[]⟩ (.slice none 0 0) (.slice none 0 0) (.slice none 0 0) (.slice none 0 0)) 29)).heap[w.heap.size]?=some (.cells (mcells ⟨#[]⟩ (.slice none 0 0) (.slice none 0 0) (.slice none 0 0) (.slice none 0 0)) 29 (0,0)):=zk _ _
 simp only [mcells]at hst hext hblk
 generalize w.alloc (.cells #[.string ⟨#[]⟩,.slice none 0 0,.slice none 0 0,.slice none 0 0,.slice none 0 0] 29)=w0 at hst hext hblk ⊢
 rw[<-hrbe]at hblk ⊢
 have hrw:w.heap.size<=rb:=by omega
 have hrp:p.pb<rb:=by omega
 clear hba h hrbe
 by_cases hc:tx r=Tp.wModule
 rotate_left
 ·refine(zO hst Tp.wModule _ rfl hc).mono ?_
  rintro e wX ⟨ht,hx⟩
  have HX:Hid (¬tx r=Tp.wModule):=hc
  clear hc
  obtain⟨ab,q1,rfl,q2,q3⟩:=ht.out
  go_wp2_with fail
  refine⟨rfl,?_⟩
  rw[HM.out,show Tp.want Tp.wModule r=.error (3,at' r) by simp only [Tp.want,if_neg HX.out]]
  exact yi hext ht hx
 refine(zD hst Tp.wModule _ rfl hc).mono ?_
 rintro e w1 ⟨rfl,hst1,hx⟩
 have HM1:Hid (Tp.module f r=(do
  let (n,r2) <- Tp.name (stp r)
  let r3 <- Tp.want Tp.mSemi r2
  let (is,r4) <- mI r3
  mG f n is 12 [] r4)):=by show _=_;rw[HM.out,show Tp.want Tp.wModule r=.ok (stp r) by simp only [Tp.want,if_pos hc]];rfl
 have hext1:=hext.trans hx
 have hblk1:=(hx.block rb (zi hblk) (by omega)).trans hblk
 clear hc hst HM hext hblk hx
 go_wp2_with fail
 rcases hres:Tp.name (stp r) with er|⟨nm,r2⟩
 ·have HX:Hid (Tp.name (stp r)=.error er):=hres
  clear hres
  refine(qv hst1 HX).mono ?_
  rintro e wX ⟨ht,hx⟩
  obtain⟨ab,q1,rfl,q2,q3⟩:=ht.out
  go_wp2_with fail
  refine⟨rfl,?_⟩
  rw[HM1.out,HX.out]
  exact yi hext1 ht hx
 have HX:Hid (Tp.name (stp r)=.ok (nm,r2)):=hres
 clear hres
 refine(qu hst1 HX).mono ?_
 rintro e w2 ⟨rfl,hst2,hx⟩
 have HM2:Hid (Tp.module f r=(do
  let r3 <- Tp.want Tp.mSemi r2
  let (is,r4) <- mI r3
  mG f nm is 12 [] r4)):=by show _=_;rw[HM1.out,HX.out];rfl
 have hext2:=hext1.trans hx
 have hblk2:=(hx.block rb (zi hblk1) (by omega)).trans hblk1
 clear HX hst1 HM1 hext1 hblk1 hx
 have kS:w2.cell? ⟨rb,0,none⟩=some (.string ⟨#[]⟩):=za hblk2
 have zS:w2.frozen? ⟨rb,0,none⟩=false:=zg hblk2
 go_wp2_with fail
 clear kS zS
 have hbS:Below rb w2 (w2.setCell ⟨rb,0,none⟩ (.string (bs nm))):=zq (Below.refl _ _) zn 0 _
 have hst3:=hst2.belowB hbS (by omega)
 have hext3:=hext2.trans' (hbS.mono hrw)
 have hblk3:=zw 0 (.string (bs nm)) hblk2
 generalize w2.setCell ⟨rb,0,none⟩ (.string (bs nm))=w3 at hbS hst3 hext3 hblk3 ⊢
 have hms:MS w3 rb nm [] [] [] (.slice none 0 0) (.slice none 0 0) (.slice none 0 0) []:=⟨hblk3,Or.inl ⟨rfl,rfl,rfl⟩,World.ownsRow_nil _ _ _ _,World.ownsRow_nil _ _ _ _,fun b hb e=>(by cases e),rfl⟩
 clear hst2 hext2 hblk2 hbS hblk3
 by_cases hc:tx r2=Tp.mSemi
 rotate_left
 ·refine(zO hst3 Tp.mSemi _ rfl hc).mono ?_
  rintro e wX ⟨ht,hx⟩
  have HX:Hid (¬tx r2=Tp.mSemi):=hc
  clear hc
  obtain⟨ab,q1,rfl,q2,q3⟩:=ht.out
  go_wp2_with fail
  refine⟨rfl,?_⟩
  rw[HM2.out,show Tp.want Tp.mSemi r2=.error (3,at' r2) by simp only [Tp.want,if_neg HX.out]]
  exact yi hext3 ht hx
 refine(zD hst3 Tp.mSemi _ rfl hc).mono ?_
 rintro e w4 ⟨rfl,hst4,hx⟩
 have HM3:Hid (Tp.module f r=(do
  let (is,r4) <- mI (stp r2)
  mG f nm is 12 [] r4)):=by show _=_;rw[HM2.out,show Tp.want Tp.mSemi r2=.ok (stp r2) by simp only [Tp.want,if_pos hc]];rfl
 have hext4:=hext3.trans hx
 have hms4:=hms.ext hx hrp
 clear hc hst3 HM2 hext3 hms hx
 go_wp2_with fail
 refine(zH hst4 Tp.wImport _ rfl).mono ?_
 rintro e w5 ⟨rfl,hst5,hx⟩
 have hext5:=hext4.trans hx
 have hms5:=hms4.ext hx hrp
 clear hst4 hext4 hms4 hx
 go_upto_if 11 with fail
 go_cut [] (fun wc=>∃ is iv r4,St wc p ts r4 0 0/\MS wc rb nm is [] [] iv (.slice none 0 0) (.slice none 0 0) []/\Ext p.pb w wc/\Hid (Tp.module f r=mG f nm is 12 [] r4))
 case first =>
  by_cases hc:tx (stp r2)=Tp.wImport
  ·have hd1:=decide_eq_true hc
   rw[if_pos hc]at hst5
   have HC:Hid (tx (stp r2)=Tp.wImport):=hc
   clear hc
   rcases hres:Tp.names 7 0 6 (stp (stp r2)) with er|⟨is,r4⟩
   ·have HX:Hid (Tp.names 7 0 6 (stp (stp r2))=.error er):=hres
    clear hres
    go_wp2_with fail
    refine(kH hst5 (by omega) (by omega) 7 (by omega) (by omega) HX).mono ?_
    rintro e wX ⟨ht,hx⟩
    obtain⟨ab,q1,rfl,q2,q3⟩:=ht.out
    go_wp2_with fail
    refine⟨rfl,?_⟩
    rw[HM3.out,show mI (stp r2)=.error er by unfold mI;rw[if_pos HC.out,HX.out];rfl]
    exact yi hext5 ht hx
   ·have HX:Hid (Tp.names 7 0 6 (stp (stp r2))=.ok (is,r4)):=hres
    clear hres
    go_wp2_with fail
    refine(kH hst5 (by omega) (by omega) 7 (by omega) (by omega) HX).mono ?_
    intro e w6 hq
    obtain⟨v,rfl,hv,hst6,hx⟩:=hq
    have hext6:=hext5.trans hx
    have hms6:=hms5.ext hx hrp
    have hrl5:=zi hms5.blk
    clear hst5 hext5 hms5 hx
    obtain⟨va,vc,rfl⟩:=zl hv
    have kS:w6.cell? ⟨rb,1,none⟩=some (.slice none 0 0):=za hms6.blk
    have zS:w6.frozen? ⟨rb,1,none⟩=false:=zg hms6.blk
    go_wp2_with fail
    clear kS zS
    have hbS:Below rb w6 (w6.setCell ⟨rb,1,none⟩ (.slice va is.length vc)):=zq (Below.refl _ _) zn 1 _
    have hst7:=hst6.belowB hbS (by omega)
    have hext7:=hext6.trans' (hbS.mono hrw)
    have hms7:=hms6.setI (yQ hv (by omega))
    generalize w6.setCell ⟨rb,1,none⟩ (.slice va is.length vc)=w7 at hbS hst7 hext7 hms7 ⊢
    clear hst6 hext6 hms6 hbS hv
    by_cases hc:tx r4=Tp.mSemi
    rotate_left
    ·refine(zO hst7 Tp.mSemi _ rfl hc).mono ?_
     rintro e wX ⟨ht,hx⟩
     have HY:Hid (¬tx r4=Tp.mSemi):=hc
     clear hc
     obtain⟨ab,q1,rfl,q2,q3⟩:=ht.out
     go_wp2_with fail
     refine⟨rfl,?_⟩
     rw[HM3.out,show mI (stp r2)=.error (3,at' r4) by unfold mI;rw[if_pos HC.out,HX.out];simp only [bind,Except.bind,Tp.want,if_neg HY.out]]
     exact yi hext7 ht hx
    refine(zD hst7 Tp.mSemi _ rfl hc).mono ?_
    rintro e w8 ⟨rfl,hst8,hx⟩
    have HY:Hid (tx r4=Tp.mSemi):=hc
    clear hc
    go_wp2_with fail
    go_meet
    case rel =>
     refine⟨is,_,stp r4,hst8,hms7.ext hx hrp,hext7.trans hx,?_⟩
     show _=_
     rw[HM3.out,show mI (stp r2)=.ok (is,stp r4) by unfold mI;rw[if_pos HC.out,HX.out];simp only [bind,Except.bind,Tp.want,if_pos HY.out]]
     rfl
  ·have hd1:=decide_eq_false hc
   rw[if_neg hc]at hst5
   have HC:Hid (¬tx (stp r2)=Tp.wImport):=hc
   clear hc
   go_wp2_with fail
   go_meet
   case rel =>
    refine⟨[],_,stp r2,hst5,hms5,hext5,?_⟩
    show _=_
    rw[HM3.out,show mI (stp r2)=.ok ([],stp r2) by unfold mI;rw[if_neg HC.out]]
    rfl
 case rest =>
  obtain⟨is,iv,r4,hst6,hms6,hext6,HM4⟩:=hcut
  clear HM3
  go_wp2_with fail
  go_loopg [] 12 (fun k wr=>∃(gs:List G) (gv:Value) (r':List Tok),k+gs.length=12/\gs.length<=10/\St wr p ts r' 0 0/\MS wr rb nm is gs [] iv gv (.slice none 0 0) []/\Ext p.pb w wr/\Hid (Tp.module f r=mG f nm is k gs r'))
  case atStart=>exact⟨[],_,r4,rfl,by simp,hst6,hms6,hext6,HM4⟩
  case round =>
   obtain⟨gs,gv,r',hk,hgl,hst7,hms7,hext7,HM5⟩:=hrel
   clear hst6 hms6 hext6 HM4
   obtain⟨k,rfl⟩:∃ k,gk=k+1:=⟨gk - 1,by omega⟩
   obtain⟨⟨ga,gc,rfl⟩,_,_⟩:=gv_slice hms7
   go_wp2_with fail
   refine(zH hst7 Tp.wVar _ rfl).mono ?_
   rintro e w8 ⟨rfl,hst8,hx⟩
   have hext8:=hext7.trans hx
   have hms8:=hms7.ext hx hrp
   clear hst7 hext7 hms7 hx
   by_cases hc:tx r'=Tp.wVar
   ·have hd1:=decide_eq_true hc
    rw[if_pos hc]at hst8
    have HC:Hid (tx r'=Tp.wVar):=hc
    clear hc
    have k2:w8.cell? ⟨rb,2,none⟩=some (.slice ga gs.length gc):=za hms8.blk
    have hrl8:=zi hms8.blk
    by_cases hten:gs.length=10
    ·have ht1:((gs.length:Int) == 10)=true:=by simp;omega
     have HT:Hid (gs.length=10):=hten
     clear hten
     go_wp2_with fail
     refine(zX hst8 4).mono ?_
     rintro e wX ⟨ht,hx⟩
     obtain⟨ab,q1,rfl,q2,q3⟩:=ht.out
     go_wp2_with fail
     refine⟨rfl,?_⟩
     rw[HM5.out,mG_full HC.out HT.out]
     exact yi hext8 ht (Ext.below hx)
    ·have ht1:((gs.length:Int) == 10)=false:=by simp;omega
     have HT:Hid (¬gs.length=10):=hten
     clear hten
     have hstd:=hst8.below (zu w8)
     rcases hres:Tp.global (stp r') with er|⟨g,r1⟩
     ·have HX:Hid (Tp.global (stp r')=.error er):=hres
      clear hres
      have HF:Hid (∀ e w',Thrown w8.drew.heap.size er e w'/\Ext p.pb w8.drew w'->PostM p w (Tp.module f r) e w'):=by
       intro e w' hq
       rw[HM5.out,mG_bad HC.out HT.out HX.out]
       exact yi (hext8.trans (Ext.below (zu w8))) hq.1 hq.2
      go_wp2_with fail
      go_region_dies
      all_goals (refine(global_er' hstd HX).mono ?_;intro e w9 hq;obtain⟨ab,h1,h0,h2,h3⟩:=hq.1.out;subst h0;exact⟨rfl,HF.out _ _ hq⟩)
     ·have HX:Hid (Tp.global (stp r')=.ok (g,r1)):=hres
      clear hres
      have z2:w8.frozen? ⟨rb,2,none⟩=false:=zg hms8.blk
      have hmsd:=hms8.below (zu w8)
      have hextd:=hext8.trans (Ext.below (zu w8))
      go_wp2_with fail
      go_region_law (first|(refine yV rfl ?_;go_simp;go_at_call 59;refine(global_ok' hstd HX).mono ?_;rintro e w9 ⟨rfl,hst9,hx9⟩;have hms9:=hmsd.ext hx9 hrp;have hext9:=hextd.trans hx9;have k9:w9.cell? ⟨rb,2,none⟩=some (.slice ga gs.length gc):=za hms9.blk;have z9:w9.frozen? ⟨rb,2,none⟩=false:=zg hms9.blk;have hl9:rb<w9.heap.size:=zi hms9.blk;have k9a:∀ ob,(w9.alloc ob).cell? ⟨rb,2,none⟩=some (.slice ga gs.length gc):=fun ob=>zV k9 ob)|(refine z7 rfl (.tmp 26) (.tmp 29) 25 rfl (rb+1) 118 i4 (.agg #[.string ⟨#[]⟩,.int .i64 0,.int .i64 0,.bool false]) 4 40 Tryz.underlying25 hi4 hz40 hz41 hz42 rfl (by decide) (.slice ga gs.length gc) gs.length (gcs gs) (by simp[Act.eval]) (hms9.gl.alloc _) ⟨w9.heap.size,0,none⟩ 1 1 [.string (bs g.name),.int .i64 (g.pos:Int),.int .i64 (g.len:Int),.bool g.seen] (by simp[Act.eval]) rfl (news4 w9 _ _ _ _ _) (by intro u hu;simp at hu;rcases hu with rfl|rfl|rfl|rfl <;> rfl) (by unfold maxLen;omega) (by omega) (by have:=zi hms9.blk;simp;omega) ?_;intro v' w10 hown10 hgrow10 hwhere10;have b10:=hms9.grewG hgrow10;have k10:w10.cell? ⟨rb,2,none⟩=some (.slice ga gs.length gc):=za b10;have z10:w10.frozen? ⟨rb,2,none⟩=false:=zg b10;obtain⟨va,vc,hvv⟩:=zl hown10;subst hvv))
      all_goals
       have hal:Below w9.heap.size w9 (w9.alloc (.cells #[.string (bs g.name),.int .i64 (g.pos:Int),.int .i64 (g.len:Int),.bool g.seen] 118)):=zb _ _
       have hb10:Below rb w9 w10:=((Below.refl _ _).alloc (by omega) _).trans ((Below.refl _ _).grown hgrow10 (by simp;omega) (fun q hq=>by have:=zL hms9.gl q hq;omega))
       have hbS:Below rb w9 (w10.setCell ⟨rb,2,none⟩ (.slice va (gs.length+1) vc)):=zq hb10 zn 2 _
       have hms10:=(hms9.below hal).addG (g:=g) hown10 hgrow10 hwhere10
       have hst10:=hst9.belowB hbS (by omega)
       have hext10:=hext9.trans' (hbS.mono hrw)
       have HM6:Hid (Tp.module f r=mG f nm is k (gs++[g]) r1):=by show _=_;rw[HM5.out];exact mG_ok HC.out HT.out HX.out
       clear hgrow10 hwhere10 hown10 hms9 hst9 hext9 hms8 hext8 hst8 hmsd hextd hstd b10 k10 z10 k9 z9 k2 z2 hb10 hbS hal k9a
       go_wp2_with fail
       go_roundg k
       case rel=>exact⟨gs++[g],_,r1,by have:=HT.out;simp;omega,by have:=HT.out;simp;omega,hst10,hms10,hext10,HM6⟩
       all_goals omega
   ·have hd1:=decide_eq_false hc
    rw[if_neg hc]at hst8
    have HM6:Hid (Tp.module f r=mP f nm is gs 12 [] r'):=by show _=_;rw[HM5.out];exact mG_end hc
    clear hc HM5
    go_wp2_with fail
    go_loopg [] 12 (fun k wr=>∃(ps:List Pr) (pv:Value) (pcs:List Value) (r':List Tok),k+ps.length=12/\ps.length<=10/\St wr p ts r' 0 0/\MS wr rb nm is gs ps iv (.slice ga gs.length gc) pv pcs/\Ext p.pb w wr/\Hid (Tp.module f r=mP f nm is gs k ps r'))
    case atStart=>exact⟨[],_,[],r',rfl,by simp,hst8,hms8,hext8,HM6⟩
    case round =>
     obtain⟨ps,pv,pcs,r',hk,hgl,hst7,hms7,hext7,HM5⟩:=hrel
     clear hst8 hms8 hext8 HM6
     obtain⟨k,rfl⟩:∃ k,gk=k+1:=⟨gk - 1,by omega⟩
     obtain⟨_,⟨pa,pc,rfl⟩,⟨ia,ic,rfl⟩⟩:=gv_slice hms7
     go_wp2_with fail
     refine(yy hst7 Tp.wProc _ rfl).mono ?_
     rintro e w8 ⟨rfl,hb8⟩
     have hst8:=hst7.below hb8
     have hext8:=hext7.trans (Ext.below hb8)
     have hms8:=hms7.below hb8
     clear hst7 hext7 hms7 hb8
     by_cases hc:tx r'=Tp.wProc
     ·have hd1:=decide_eq_true hc
      have HC:Hid (tx r'=Tp.wProc):=hc
      clear hc
      have k2:w8.cell? ⟨rb,3,none⟩=some (.slice pa ps.length pc):=za hms8.blk
      have hrl8:=zi hms8.blk
      by_cases hten:ps.length=10
      ·have ht1:((ps.length:Int) == 10)=true:=by simp;omega
       have HT:Hid (ps.length=10):=hten
       clear hten
       go_wp2_with fail
       refine(zX hst8 4).mono ?_
       rintro e wX ⟨ht,hx⟩
       obtain⟨ab,q1,rfl,q2,q3⟩:=ht.out
       go_wp2_with fail
       refine⟨rfl,?_⟩
       rw[HM5.out,mP_full HC.out HT.out]
       exact yi hext8 ht (Ext.below hx)
      ·have ht1:((ps.length:Int) == 10)=false:=by simp;omega
       have HT:Hid (¬ps.length=10):=hten
       clear hten
       have hstd:=hst8.below (zu w8)
       rcases hres:Tp.proc f r' with er|⟨c,r1⟩
       ·have HX:Hid (Tp.proc f r'=.error er):=hres
        clear hres
        have HER:Hid (er≠(99,0)):=by intro e;apply HN.out;rw[HM5.out,mP_bad HC.out HT.out HX.out,e]
        have HF:Hid (∀ e w',Thrown w8.drew.heap.size er e w'/\Ext p.pb w8.drew w'->PostM p w (Tp.module f r) e w'):=by
         intro e w' hq
         rw[HM5.out,mP_bad HC.out HT.out HX.out]
         exact yi (hext8.trans (Ext.below (zu w8))) hq.1 hq.2
        go_wp2_with fail
        go_region_dies
        all_goals (refine(proc_er' HSC hstd HX HER).mono ?_;intro e w9 hq;obtain⟨ab,h1,h0,h2,h3⟩:=hq.1.out;subst h0;exact⟨rfl,HF.out _ _ hq⟩)
       ·have HX:Hid (Tp.proc f r'=.ok (c,r1)):=hres
        clear hres
        have z2:w8.frozen? ⟨rb,3,none⟩=false:=zg hms8.blk
        have hmsd:=hms8.below (zu w8)
        have hextd:=hext8.trans (Ext.below (zu w8))
        go_wp2_with fail
        go_region_law (first|(refine yV rfl ?_;go_simp;go_at_call 61;refine(proc_ok' HSC hstd HX).mono ?_;rintro e w9 ⟨⟨qa,va,ba,qc,vc,bc,rfl,HV9⟩,hst9,hx9⟩;have hms9:=hmsd.ext hx9 hrp;have hext9:=hextd.trans hx9;have k9:w9.cell? ⟨rb,3,none⟩=some (.slice pa ps.length pc):=za hms9.blk;have z9:w9.frozen? ⟨rb,3,none⟩=false:=zg hms9.blk;have hl9:rb<w9.heap.size:=zi hms9.blk;have k9a:∀ ob,(w9.alloc ob).cell? ⟨rb,3,none⟩=some (.slice pa ps.length pc):=fun ob=>zV k9 ob)|(refine z7 rfl (.tmp 41) (.tmp 44) 26 rfl (rb+1) 79 i6 (.agg #[.string ⟨#[]⟩,.int .i64 0,.bool false,.slice none 0 0,.slice none 0 0,.slice none 0 0]) 6 104 Tryz.underlying26 hi6 hz60 hz61 hz62 rfl (by decide) (.slice pa ps.length pc) ps.length pcs (by simp[Act.eval]) (hms9.pl.alloc _) ⟨w9.heap.size,0,none⟩ 1 1 [.string (bs c.name),.int .i64 (c.pos:Int),.bool c.seen,.slice qa c.params.length qc,.slice va c.vars.length vc,.slice ba c.body.length bc] (by simp[Act.eval]) rfl (news6 w9 _ _ _ _ _ _ _) (by intro u hu;simp at hu;rcases hu with rfl|rfl|rfl|rfl|rfl|rfl <;> rfl) (by unfold maxLen;omega) (by omega) (by have:=zi hms9.blk;simp;omega) ?_;intro v' w10 hown10 hgrow10 hwhere10;have b10:=hms9.grewP hgrow10;have k10:w10.cell? ⟨rb,3,none⟩=some (.slice pa ps.length pc):=za b10;have z10:w10.frozen? ⟨rb,3,none⟩=false:=zg b10;obtain⟨ua,uc,hvv⟩:=zl hown10;subst hvv))
        all_goals
         have hal:Below w9.heap.size w9 (w9.alloc (.cells #[.string (bs c.name),.int .i64 (c.pos:Int),.bool c.seen,.slice qa c.params.length qc,.slice va c.vars.length vc,.slice ba c.body.length bc] 79)):=zb _ _
         have hb10:Below rb w9 w10:=((Below.refl _ _).alloc (by omega) _).trans ((Below.refl _ _).grown hgrow10 (by simp;omega) (fun q hq=>by have:=zL hms9.pl q hq;omega))
         have hbS:Below rb w9 (w10.setCell ⟨rb,3,none⟩ (.slice ua (ps.length+1) uc)):=zq hb10 zn 3 _
         have hrp9:=MS.newP hmsd rfl HV9.out
         have hms10:=(hms9.below hal).addP (c:=c) (RepP.mono (fun b hb hl=>⟨hal.block b hl,hb⟩) _ _ hrp9) hown10 hgrow10 hwhere10
         have hst10:=hst9.belowB hbS (by omega)
         have hext10:=hext9.trans' (hbS.mono hrw)
         have HM6:Hid (Tp.module f r=mP f nm is gs k (ps++[c]) r1):=by show _=_;rw[HM5.out];exact mP_ok HC.out HT.out HX.out
         clear hgrow10 hwhere10 hown10 hms9 hst9 hext9 hms8 hext8 hst8 hmsd hextd hstd b10 k10 z10 k9 z9 k2 z2 hb10 hbS hal k9a hrp9 HV9
         go_wp2_with fail
         go_roundg k
         case rel=>exact⟨ps++[c],_,_,r1,by have:=HT.out;simp;omega,by have:=HT.out;simp;omega,hst10,hms10,hext10,HM6⟩
         all_goals omega
     ·have hd1:=decide_eq_false hc
      have HM6:Hid (Tp.module f r=mB f nm is gs ps r'):=by show _=_;rw[HM5.out];exact mP_end hc
      clear hc HM5
      go_wp2_with fail
      by_cases hc:tx r'=Tp.wBegin
      rotate_left
      ·refine(zO hst8 Tp.wBegin _ rfl hc).mono ?_
       rintro e wX ⟨ht,hx⟩
       have HX:Hid (¬tx r'=Tp.wBegin):=hc
       clear hc
       obtain⟨ab,q1,rfl,q2,q3⟩:=ht.out
       go_wp2_with fail
       refine⟨rfl,?_⟩
       rw[HM6.out,show mB f nm is gs ps r'=.error (3,at' r') by unfold mB;simp only [Tp.want,if_neg HX.out];rfl]
       exact yi hext8 ht hx
      refine(zD hst8 Tp.wBegin _ rfl hc).mono ?_
      rintro e w9 ⟨rfl,hst9,hx⟩
      have HB:Hid (tx r'=Tp.wBegin):=hc
      have hext9:=hext8.trans hx
      have hms9:=hms8.ext hx hrp
      clear hc hst8 hext8 hms8 hx
      have hno:Tp.sx f 0 0 (stp r')≠.error (99,0):=by
       intro e;apply HN.out;rw[HM6.out];unfold mB;simp only [Tp.want,if_pos HB.out,bind,Except.bind,e]
      have hcall:=HSC.out w9 (stp r') 0 hst9 (by omega) hno
      generalize hres:Tp.sx f 0 0 (stp r')=res at hcall
      have HR:Hid (Tp.sx f 0 0 (stp r')=res):=hres
      have HCL:Hid (Calls Tryz.prog 62 #[.pointer (some ⟨p.pb,0,none⟩)] w9 fun e w'=>Post p ts 0 0 w9 (VL w9.heap.size) res e w'):=hcall
      clear hno hres hcall
      go_wp2_with fail
      refine HCL.out.mono ?_
      intro e w10 hq
      rcases res with er|⟨bd,r8⟩
      ·obtain⟨ht,hx⟩:=hq
       obtain⟨ab,q1,rfl,q2,q3⟩:=ht.out
       go_wp2_with fail
       refine⟨rfl,?_⟩
       rw[HM6.out,show mB f nm is gs ps r'=.error er by unfold mB;simp only [Tp.want,if_pos HB.out,bind,Except.bind,HR.out]]
       exact yi hext9 ht hx
      obtain⟨v,rfl,hv,hst10,hx⟩:=hq
      have hrl9:=zi hms9.blk
      have hext10:=hext9.trans hx
      have hms10:=hms9.ext hx hrp
      have hbd:=(hv.vo.base (show rb+1<=w9.heap.size by omega))
      clear hst9 hext9 hms9 hx hv HCL
      obtain⟨ba,bc,rfl⟩:=hbd.shape
      have kS:w10.cell? ⟨rb,4,none⟩=some (.slice none 0 0):=za hms10.blk
      have zS:w10.frozen? ⟨rb,4,none⟩=false:=zg hms10.blk
      have hmk:=hms10.keep
      have hblk:=hms10.blk
      go_wp2_with fail
      clear kS zS
      have hbS:Below rb w10 (w10.setCell ⟨rb,4,none⟩ (.slice ba bd.length bc)):=zq (Below.refl _ _) zn 4 _
      have hxS:Ext rb w10 (w10.setCell ⟨rb,4,none⟩ (.slice ba bd.length bc)):=(Ext.refl _ _).set 4 _
      have hst11:=hst10.belowB hbS (by omega)
      have hext11:=hext10.trans' (hbS.mono hrw)
      have hmk11:=hmk.ext hxS zn
      have hbd11:=VO.ext hxS (by omega) hbd
      have hblk11:=zw 4 (.slice ba bd.length bc) hblk
      generalize w10.setCell ⟨rb,4,none⟩ (.slice ba bd.length bc)=w11 at hbS hxS hst11 hext11 hmk11 hbd11 hblk11 ⊢
      clear hbS hxS hst10 hext10 hms10 hmk hbd hblk
      by_cases hc:tx r8=Tp.wEnd
      rotate_left
      ·refine(zO hst11 Tp.wEnd _ rfl hc).mono ?_
       rintro e wX ⟨ht,hx⟩
       have HX:Hid (¬tx r8=Tp.wEnd):=hc
       clear hc
       obtain⟨ab,q1,rfl,q2,q3⟩:=ht.out
       go_wp2_with fail
       refine⟨rfl,?_⟩
       rw[HM6.out,show mB f nm is gs ps r'=.error (3,at' r8) by unfold mB;simp only [Tp.want,if_pos HB.out,bind,Except.bind,HR.out,if_neg HX.out]]
       exact yi hext11 ht hx
      refine(zD hst11 Tp.wEnd _ rfl hc).mono ?_
      rintro e w12 ⟨rfl,hst12,hx⟩
      have HE:Hid (tx r8=Tp.wEnd):=hc
      have hext12:=hext11.trans hx
      have hmk12:=hmk11.ext hx (by omega)
      have hbd12:=VO.ext hx (by omega) hbd11
      have hblk12:=(hx.block rb (zi hblk11) (by omega)).trans hblk11
      clear hc hst11 hext11 hmk11 hbd11 hblk11 hx
      go_wp2_with fail
      by_cases hc:tx (stp r8)=Tp.mDot
      rotate_left
      ·refine(zO hst12 Tp.mDot _ rfl hc).mono ?_
       rintro e wX ⟨ht,hx⟩
       have HX:Hid (¬tx (stp r8)=Tp.mDot):=hc
       clear hc
       obtain⟨ab,q1,rfl,q2,q3⟩:=ht.out
       go_wp2_with fail
       refine⟨rfl,?_⟩
       rw[HM6.out,show mB f nm is gs ps r'=.error (3,at' (stp r8)) by unfold mB;simp only [Tp.want,if_pos HB.out,bind,Except.bind,HR.out,if_pos HE.out,if_neg HX.out]]
       exact yi hext12 ht hx
      refine(zD hst12 Tp.mDot _ rfl hc).mono ?_
      rintro e w13 ⟨rfl,hst13,hx⟩
      have HD:Hid (tx (stp r8)=Tp.mDot):=hc
      have hext13:=hext12.trans hx
      have hmk13:=hmk12.ext hx (by omega)
      have hbd13:=VO.ext hx (by omega) hbd12
      have hblk13:=(hx.block rb (zi hblk12) (by omega)).trans hblk12
      clear hc hst12 hext12 hmk12 hbd12 hblk12 hx
      go_wp2_with fail
      refine(zK hst13).mono ?_
      rintro e w14 ⟨rfl,hb14⟩
      have hst14:=hst13.below hb14
      have hext14:=hext13.trans (Ext.below hb14)
      have hmk14:=hmk13.mono (fun b _ h2=>hb14.block b h2)
      have hbd14:=VO.ext (Ext.below (b:=p.pb) hb14) (by omega) hbd13
      have hblk14:=(hb14.block rb (zi hblk13)).trans hblk13
      clear hst13 hext13 hmk13 hbd13 hblk13 hb14
      by_cases hk0:(hd (stp (stp r8))).kind=0
      ·have hkk:(((hd (stp (stp r8))).kind:Int) != 0)=false:=by simp[hk0]
       have HK:Hid ((hd (stp (stp r8))).kind=0):=hk0
       clear hk0
       have kr:∀ i,w14.cell? ⟨rb,i,none⟩=(mcells (bs nm) (.slice ia is.length ic) (.slice ga gs.length gc) (.slice pa ps.length pc) (.slice ba bd.length bc))[i]?:=fun i=>za hblk14
       have zr:∀ i,w14.frozen? ⟨rb,i,none⟩=false:=fun i=>zg hblk14
       simp only [mcells]at kr
       go_wp2_with fail
       refine bodyPost_ret (v:=.agg (mcells (bs nm) (.slice ia is.length ic) (.slice ga gs.length gc) (.slice pa ps.length pc) (.slice ba bd.length bc))) (by simp[results,Tryz.results24,go_sem,kr,mcells]) rfl ?_
       rw[HM6.out,show mB f nm is gs ps r'=.ok ⟨nm,is,gs,ps,bd⟩ by unfold mB;simp only [Tp.want,if_pos HB.out,bind,Except.bind,HR.out,if_pos HE.out,if_pos HD.out,if_pos HK.out]]
       have hbS:=j8 w14 rb (.string (bs nm)) (.slice ia is.length ic) (.slice ga gs.length gc) (.slice pa ps.length pc) (.slice ba bd.length bc)
       have hxS:=ext_set5 w14 rb (.string (bs nm)) (.slice ia is.length ic) (.slice ga gs.length gc) (.slice pa ps.length pc) (.slice ba bd.length bc)
       exact⟨_,rfl,(hmk14.ext hxS zn).done hrw (VO.ext hxS (by omega) hbd14),hext14.trans' (hbS.mono hrw)⟩
      ·have hkk:(((hd (stp (stp r8))).kind:Int) != 0)=true:=by simp[hk0]
       have HK:Hid (¬(hd (stp (stp r8))).kind=0):=hk0
       clear hk0
       go_wp2_with fail
       refine(zX hst14 3).mono ?_
       rintro e wX ⟨ht,hx⟩
       obtain⟨ab,q1,rfl,q2,q3⟩:=ht.out
       go_wp2_with fail
       refine⟨rfl,?_⟩
       rw[HM6.out,show mB f nm is gs ps r'=.error (3,at' (stp (stp r8))) by unfold mB;simp only [Tp.want,if_pos HB.out,bind,Except.bind,HR.out,if_pos HE.out,if_pos HD.out,if_neg HK.out]]
       exact yi hext14 ht (Ext.below hx)
end Go.Proofs.YtmocelfkmdpogaaGreatDoor
