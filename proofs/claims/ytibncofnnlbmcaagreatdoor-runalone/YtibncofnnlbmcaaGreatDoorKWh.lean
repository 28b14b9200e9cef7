import Derived.Test.YtibncofnnlbmcaaGreatDoorKWg
import Derived.Deep.RegionLawGrows
set_option maxRecDepth 100000
set_option maxHeartbeats 4000000
namespace Go.Proofs.YtibncofnnlbmcaaGreatDoor
open Go.RowKit
open Tp (Tok hd tx at' stp X S G Pr)
theorem zW {P:Program}{ops:Array Oper}{o:Oper}{a:Act}{w:World}{K:Act->World->Prop}{Q:Exit->Act->World->Prop}{E:Prop}
  (hg:o.guard=none) (s x:Operand) (t:TypeId) (hop:o.op=Op.call { callee:=Callee.builtin Builtin.append,args:=#[s,x],argTypes:=#[t,t] })
  (base:Nat) (e:TypeId) (i:TypeInfo) (z:Value) (size bytes:Nat) (ht:P.underlying t=some (.slice e)) (hi:P.info? e=some i) (hz:i.zero=some z)
  (hsize:i.size=size) (hby:i.bytes=bytes) (hzs:z.cells.size=size) (hsz:0<size)
  (v:Value) (n:Nat) (xs:List Value) (hs:a.eval s=v) (hown:w.ownsRow base e size v n xs)
  (ad:Addr) (m c:Nat) (news:List Value) (hx:a.eval x=.slice (some ad) m c) (hl:news.length=m * size) (hnews:∀ j u,news[j]?=some u->w.cell? (ad.add j)=some u) (h1:∀ u∈news,u.oneCell'=true)
  (h63:n+m<=maxLen) (hbytes:(n+m) * bytes<=140737488355328) (hbase:base<=w.heap.size)
  (hK:∀ v' w',w'.ownsRow base e size v' (n+m) (xs++news)->w.grownBy w' v.ownBlock->(∀ g,v'.ownBlock=some g->v.ownBlock=some g\/w.heap.size<=g)->K (a.put o.dst v') w') :
  if Region.wanted o (yielded ops a.tmps)=true then Oper.wp P o a w K Q else E:=by
 have hw:Region.wanted o (yielded ops a.tmps)=true:=by simp[Region.wanted,hg]
 rw[if_pos hw]
 obtain⟨v',w',r1,r2,r3,r4⟩:=yI (P:=P) w base t o.type e i z size bytes ht hi hz hsize hby hzs hsz v n xs hown ad m c news hl hnews h1 h63 hbytes hbase
 unfold Oper.wp
 simp[execOp,hop,resolve,invoke,builtin,hs,hx,r1,Result.andThen]
 exact hK v' w' r2 r3 r4
def Row (w:World) (D:Nat->Prop) (e size:Nat) (v:Value) (n:Nat) (cs:List Value):Prop :=
 v=.slice none 0 0/\n=0/\cs=[]\/∃ g cap cur,v=.slice (some ⟨g,0,none⟩) n cap/\D g/\w.heap[g]?=some (.cells cur e (0,0))/\n<=cap/\cap<=maxLen/\cur.size=cap * size/\cur.toList.take (n * size)=cs
theorem Row.mono {w w':World}{D D':Nat->Prop}(hw:∀ b,D b->b<w.heap.size->w'.heap[b]?=w.heap[b]?/\D' b) {e size:Nat}{v:Value}{n:Nat}{cs:List Value}(h:Row w D e size v n cs):Row w' D' e size v n cs:=by
 rcases h with h|⟨g,cap,cur,h1,h2,h3,h4⟩
 ·exact Or.inl h
 ·obtain⟨e1,e2⟩:=hw g h2 (zf h3)
  exact Or.inr ⟨g,cap,cur,h1,e2,e1.trans h3,h4⟩
theorem Row.of_owns {w:World}{base e size n:Nat}{v:Value}{cs:List Value}(h:w.ownsRow base e size v n cs):Row w (fun b=>base<=b/\v.ownBlock=some b) e size v n cs:=by
 rcases h.2 with⟨rfl,rfl⟩|⟨g,cap,cur,rfl,q1,q2,q3,q4,q5,q6⟩
 ·exact Or.inl ⟨rfl,rfl,List.eq_nil_of_length_eq_zero (by simpa using h.1)⟩
 ·exact Or.inr ⟨g,cap,cur,rfl,⟨q1,rfl⟩,q2,q3,q4,q5,q6⟩
def RepP (w:World) (D:Nat->Prop):List Pr->List Value->Prop
 | [],cs=>cs=[]
 | c :: l,cs=>∃(pv vv bv:Value) (bcs cs':List Value),
   cs=(pcells (bs c.name) (c.pos:Int) c.seen pv vv bv).toList++cs'/\Row w D 9 1 pv c.params.length (strs c.params)/\Row w D 9 1 vv c.vars.length (strs c.vars) /\
   RepS w D c.body bcs/\OwnS w D bv c.body.length bcs/\RepP w D l cs'
theorem RepP.mono {w w':World}{D D':Nat->Prop}(hw:∀ b,D b->b<w.heap.size->w'.heap[b]?=w.heap[b]?/\D' b):∀(l:List Pr) (cs:List Value),RepP w D l cs->RepP w' D' l cs:=by
 intro l
 induction l with
 | nil=>intro cs h;exact h
 | cons c l ih =>
  intro cs h
  obtain⟨pv,vv,bv,bcs,cs',h1,h2,h3,h4,h5,h6⟩:=h
  exact⟨pv,vv,bv,bcs,cs',h1,h2.mono hw,h3.mono hw,h4.mono' hw,h5.mono hw,ih cs' h6⟩
theorem RepP.app {w:World}{D:Nat->Prop}:∀(l m:List Pr) (cs us:List Value),RepP w D l cs->RepP w D m us->RepP w D (l++m) (cs++us):=by
 intro l
 induction l with
 | nil=>intro m cs us h k;rw[show cs=[] from h];exact k
 | cons c l ih =>
  intro m cs us h k
  obtain⟨pv,vv,bv,bcs,cs',h1,h2,h3,h4,h5,h6⟩:=h
  exact⟨pv,vv,bv,bcs,cs'++us,by rw[h1,List.append_assoc],h2,h3,h4,h5,ih m cs' us h6 k⟩
def gcs (l:List G):List Value:=(l.map fun g=>(gcells (bs g.name) (g.pos:Int) (g.len:Int) g.seen).toList).flatten
theorem gcs_app (l m:List G):gcs (l++m)=gcs l++gcs m:=by simp[gcs]
def mcells (name:ByteArray) (iv gv pv bv:Value):Array Value:=#[.string name,iv,gv,pv,bv]
structure MS (w:World) (rb:Nat) (nm:List UInt8) (is:List (List UInt8)) (gs:List G) (ps:List Pr) (iv gv pv:Value) (pcs:List Value):Prop where
 blk:w.heap[rb]?=some (.cells (mcells (bs nm) iv gv pv (.slice none 0 0)) 36 (0,0))
 im:Row w (fun b=>rb<b/\gv.ownBlock≠some b/\pv.ownBlock≠some b) 9 1 iv is.length (strs is)
 gl:w.ownsRow (rb+1) 61 4 gv gs.length (gcs gs)
 pl:w.ownsRow (rb+1) 65 6 pv ps.length pcs
 ne:∀ g,gv.ownBlock=some g->pv.ownBlock≠some g
 rp:RepP w (fun b=>rb<b/\gv.ownBlock≠some b/\pv.ownBlock≠some b) ps pcs
theorem zH {w w':World}{base e size n:Nat}{v:Value}{xs:List Value}(h:w.ownsRow base e size v n xs) (hk:∀ b,base<=b->b<w.heap.size->v.ownBlock=some b->w'.heap[b]?=w.heap[b]?):w'.ownsRow base e size v n xs:=by
 refine⟨h.1,?_⟩
 rcases h.2 with q|⟨g,cap,cur,rfl,q1,q2,q3⟩
 ·exact Or.inl q
 ·exact Or.inr ⟨g,cap,cur,rfl,q1,(hk g q1 (zf q2) rfl).trans q2,q3⟩
theorem MS.mono {w w':World}{rb:Nat}{nm:List UInt8}{is:List (List UInt8)}{gs:List G}{ps:List Pr}{iv gv pv:Value}{pcs:List Value}(h:MS w rb nm is gs ps iv gv pv pcs) (hk:∀ b,rb<=b->b<w.heap.size->w'.heap[b]?=w.heap[b]?):MS w' rb nm is gs ps iv gv pv pcs :=
 ⟨(hk rb zn (zf h.blk)).trans h.blk,h.im.mono (fun b hb hl=>⟨hk b (by omega) hl,hb⟩),zH h.gl (fun b h1 h2 _=>hk b (by omega) h2),zH h.pl (fun b h1 h2 _=>hk b (by omega) h2),h.ne,RepP.mono (fun b hb hl=>⟨hk b (by omega) hl,hb⟩) _ _ h.rp⟩
theorem MS.ext {w w':World}{rb pb:Nat}{nm:List UInt8}{is:List (List UInt8)}{gs:List G}{ps:List Pr}{iv gv pv:Value}{pcs:List Value}(h:MS w rb nm is gs ps iv gv pv pcs) (k:Ext pb w w') (hp:pb<rb):MS w' rb nm is gs ps iv gv pv pcs :=
 h.mono (fun b h1 h2=>k.block b h2 (by omega))
theorem MS.below {w w':World}{rb:Nat}{nm:List UInt8}{is:List (List UInt8)}{gs:List G}{ps:List Pr}{iv gv pv:Value}{pcs:List Value}(h:MS w rb nm is gs ps iv gv pv pcs) (k:Below w.heap.size w w'):MS w' rb nm is gs ps iv gv pv pcs :=
 h.mono (fun b _ h2=>k.block b h2)
theorem MS.addG {w w5:World}{rb:Nat}{nm:List UInt8}{is:List (List UInt8)}{gs:List G}{iv gv gv':Value}{g:G}(h:MS w rb nm is gs [] iv gv (.slice none 0 0) [])
  (hown:w5.ownsRow (rb+1) 61 4 gv' (gs.length+1) (gcs gs++(gcells (bs g.name) (g.pos:Int) (g.len:Int) g.seen).toList)) (hgrow:w.grownBy w5 gv.ownBlock) (hw:∀ b,gv'.ownBlock=some b->gv.ownBlock=some b\/w.heap.size<=b) :
  MS (w5.setCell ⟨rb,2,none⟩ gv') rb nm is (gs++[g]) [] iv gv' (.slice none 0 0) []:=by
 have hrl:=zf h.blk
 have hr:gv.ownBlock≠some rb:=fun e=>by have:=zT h.gl rb e;omega
 have hb5:w5.heap[rb]?=w.heap[rb]?:=hgrow.block rb hrl (fun e=>hr e.symm)
 have hset:=zu 2 gv' (hb5.trans h.blk)
 have hx:∀ b,b≠rb->(w5.setCell ⟨rb,2,none⟩ gv').heap[b]?=w5.heap[b]?:=fun b hb=>Below.heap_setCell _ _ _ _ (by simpa using hb)
 refine⟨hset,?_,?_,World.ownsRow_nil _ _ _ _,fun b hb e=>(by cases e),rfl⟩
 ·refine h.im.mono (fun b hb hl=>⟨(hx b (by omega)).trans (hgrow.block b hl (fun e=>hb.2.1 e.symm)),hb.1,fun e=>?_,hb.2.2⟩)
  rcases hw b e with q|q
  ·exact hb.2.1 q
  ·omega
 ·rw[gcs_app,List.length_append]
  have:gcs [g]=(gcells (bs g.name) (g.pos:Int) (g.len:Int) g.seen).toList:=by simp[gcs]
  rw[this]
  exact zH hown (fun b h1 _ _=>hx b (by omega))
theorem MS.addP {w w5:World}{rb:Nat}{nm:List UInt8}{is:List (List UInt8)}{gs:List G}{ps:List Pr}{iv gv pv pv':Value}{pcs:List Value}{c:Pr}{us:List Value}(h:MS w rb nm is gs ps iv gv pv pcs)
  (hc:RepP w (fun b=>rb<b/\gv.ownBlock≠some b/\pv.ownBlock≠some b) [c] us)
  (hown:w5.ownsRow (rb+1) 65 6 pv' (ps.length+1) (pcs++us)) (hgrow:w.grownBy w5 pv.ownBlock) (hw:∀ b,pv'.ownBlock=some b->pv.ownBlock=some b\/w.heap.size<=b) :
  MS (w5.setCell ⟨rb,3,none⟩ pv') rb nm is gs (ps++[c]) iv gv pv' (pcs++us):=by
 have hrl:=zf h.blk
 have hr:pv.ownBlock≠some rb:=fun e=>by have:=zT h.pl rb e;omega
 have hb5:w5.heap[rb]?=w.heap[rb]?:=hgrow.block rb hrl (fun e=>hr e.symm)
 have hset:=zu 3 pv' (hb5.trans h.blk)
 have hx:∀ b,b≠rb->(w5.setCell ⟨rb,3,none⟩ pv').heap[b]?=w5.heap[b]?:=fun b hb=>Below.heap_setCell _ _ _ _ (by simpa using hb)
 have hD:∀ b,(rb<b/\gv.ownBlock≠some b/\pv.ownBlock≠some b)->b<w.heap.size->(w5.setCell ⟨rb,3,none⟩ pv').heap[b]?=w.heap[b]?/\(rb<b/\gv.ownBlock≠some b/\pv'.ownBlock≠some b):=fun b hb hl =>
  ⟨(hx b (by omega)).trans (hgrow.block b hl (fun e=>hb.2.2 e.symm)),hb.1,hb.2.1,fun e=>by
   rcases hw b e with q|q
   ·exact hb.2.2 q
   ·omega⟩
 refine⟨hset,h.im.mono hD,?_,?_,fun b hb e=>?_,RepP.app _ _ _ _ (RepP.mono hD _ _ h.rp) (RepP.mono hD _ _ hc)⟩
 ·exact zH h.gl (fun b h1 h2 h3=>(hx b (by omega)).trans (hgrow.block b h2 (fun e=>h.ne b h3 e.symm)))
 ·rw[List.length_append]
  exact zH hown (fun b h1 _ _=>hx b (by omega))
 ·rcases hw b e with q|q
  ·exact h.ne b hb q
  ·have:=(h.gl.lt b hb).2;omega
def VM (B:Nat) (m:Tp.M) (v:Value) (w:World):Prop:=∃(ia ga pa ba:Option Addr) (ic gc pc bc:Nat) (pcs bcs:List Value),
 v=.agg (mcells (bs m.name) (.slice ia m.imports.length ic) (.slice ga m.vars.length gc) (.slice pa m.procs.length pc) (.slice ba m.body.length bc)) /\
 Row w (fun b=>B<=b) 9 1 (.slice ia m.imports.length ic) m.imports.length (strs m.imports)/\Row w (fun b=>B<=b) 61 4 (.slice ga m.vars.length gc) m.vars.length (gcs m.vars) /\
 RepP w (fun b=>B<=b) m.procs pcs/\Row w (fun b=>B<=b) 65 6 (.slice pa m.procs.length pc) m.procs.length pcs/\RepS w (fun b=>B<=b) m.body bcs/\OwnS w (fun b=>B<=b) (.slice ba m.body.length bc) m.body.length bcs
theorem Row.shape {w:World}{D:Nat->Prop}{e size:Nat}{v:Value}{n:Nat}{cs:List Value}(h:Row w D e size v n cs):∃ a c,v=.slice a n c:=by
 rcases h with⟨rfl,rfl,_⟩|⟨g,cap,cur,rfl,_⟩
 ·exact⟨none,0,rfl⟩
 ·exact⟨_,_,rfl⟩
theorem OwnS.shape {w:World}{D:Nat->Prop}{v:Value}{n:Nat}{cs:List Value}(h:OwnS w D v n cs):∃ a c,v=.slice a n c:=by
 rcases h with⟨rfl,rfl⟩|⟨g,cap,cur,rfl,_⟩
 ·exact⟨none,0,rfl⟩
 ·exact⟨_,_,rfl⟩
def mB (f:Nat) (nm:List UInt8) (is:List (List UInt8)) (gs:List G) (ps:List Pr) (r6:List Tok):Except Tp.Er Tp.M:=do
 let r7 <- Tp.want Tp.wBegin r6
 let (b,r8) <- Tp.sx f 0 0 r7
 let r9 <- Tp.want Tp.wEnd r8
 let r10 <- Tp.want Tp.mDot r9
 if (hd r10).kind=0 then .ok ⟨nm,is,gs,ps,b⟩ else .error (3,at' r10)
def mP (f:Nat) (nm:List UInt8) (is:List (List UInt8)) (gs:List G) (k:Nat) (ps:List Pr) (r5:List Tok):Except Tp.Er Tp.M:=do
 let (l,r6) <- Tp.procs k f ps.length r5
 mB f nm is gs (ps++l) r6
def mG (f:Nat) (nm:List UInt8) (is:List (List UInt8)) (k:Nat) (gs:List G) (r4:List Tok):Except Tp.Er Tp.M:=do
 let (l,r5) <- Tp.globals k gs.length r4
 mP f nm is (gs++l) 12 [] r5
def mI (r3:List Tok):Except Tp.Er (List (List UInt8)× List Tok):=if tx r3=Tp.wImport then do
   let (is,r4) <- Tp.names 7 0 6 (stp r3)
   let r5 <- Tp.want Tp.mSemi r4
   .ok (is,r5)
  else .ok ([],r3)
theorem module_eq (f:Nat) (r:List Tok):Tp.module f r=(do
  let r1 <- Tp.want Tp.wModule r
  let (n,r2) <- Tp.name r1
  let r3 <- Tp.want Tp.mSemi r2
  let (is,r4) <- mI r3
  mG f n is 12 [] r4):=by
 unfold Tp.module mG mP mB mI
 simp only [List.nil_append,List.length_nil]
theorem mG_end {f k:Nat}{nm:List UInt8}{is:List (List UInt8)}{gs:List G}{r:List Tok}(h:tx r≠Tp.wVar):mG f nm is (k+1) gs r=mP f nm is gs 12 [] r:=by
 unfold mG;rw[Tp.globals,if_neg h];simp only [bind,Except.bind,List.append_nil]
theorem mG_full {f k:Nat}{nm:List UInt8}{is:List (List UInt8)}{gs:List G}{r:List Tok}(h:tx r=Tp.wVar) (hl:gs.length=10):mG f nm is (k+1) gs r=.error (4,at' (stp r)):=by
 unfold mG;rw[Tp.globals,if_pos h,if_pos hl];rfl
theorem mG_bad {f k:Nat}{nm:List UInt8}{is:List (List UInt8)}{gs:List G}{r:List Tok}{er:Tp.Er}(h:tx r=Tp.wVar) (hl:¬gs.length=10) (hg:Tp.global (stp r)=.error er):mG f nm is (k+1) gs r=.error er:=by
 unfold mG;rw[Tp.globals,if_pos h,if_neg hl,hg];rfl
theorem mG_ok {f k:Nat}{nm:List UInt8}{is:List (List UInt8)}{gs:List G}{r r1:List Tok}{g:G}(h:tx r=Tp.wVar) (hl:¬gs.length=10) (hg:Tp.global (stp r)=.ok (g,r1)):mG f nm is (k+1) gs r=mG f nm is k (gs++[g]) r1:=by
 unfold mG;rw[Tp.globals,if_pos h,if_neg hl,hg]
 simp only [bind,Except.bind,List.length_append,List.length_singleton]
 cases Tp.globals k (gs.length+1) r1 with
 | error e=>rfl
 | ok v=>simp only [List.append_assoc,List.singleton_append]
theorem mP_end {f k:Nat}{nm:List UInt8}{is:List (List UInt8)}{gs:List G}{ps:List Pr}{r:List Tok}(h:tx r≠Tp.wProc):mP f nm is gs (k+1) ps r=mB f nm is gs ps r:=by
 unfold mP;rw[Tp.procs,if_neg h];simp only [bind,Except.bind,List.append_nil]
theorem mP_full {f k:Nat}{nm:List UInt8}{is:List (List UInt8)}{gs:List G}{ps:List Pr}{r:List Tok}(h:tx r=Tp.wProc) (hl:ps.length=10):mP f nm is gs (k+1) ps r=.error (4,at' r):=by
 unfold mP;rw[Tp.procs,if_pos h,if_pos hl];rfl
theorem mP_bad {f k:Nat}{nm:List UInt8}{is:List (List UInt8)}{gs:List G}{ps:List Pr}{r:List Tok}{er:Tp.Er}(h:tx r=Tp.wProc) (hl:¬ps.length=10) (hg:Tp.proc f r=.error er):mP f nm is gs (k+1) ps r=.error er:=by
 unfold mP;rw[Tp.procs,if_pos h,if_neg hl,hg];rfl
theorem mP_ok {f k:Nat}{nm:List UInt8}{is:List (List UInt8)}{gs:List G}{ps:List Pr}{r r1:List Tok}{c:Pr}(h:tx r=Tp.wProc) (hl:¬ps.length=10) (hg:Tp.proc f r=.ok (c,r1)):mP f nm is gs (k+1) ps r=mP f nm is gs k (ps++[c]) r1:=by
 unfold mP;rw[Tp.procs,if_pos h,if_neg hl,hg]
 simp only [bind,Except.bind,List.length_append,List.length_singleton]
 cases Tp.procs k f (ps.length+1) r1 with
 | error e=>rfl
 | ok v=>simp only [List.append_assoc,List.singleton_append]
def PostM (p:Ps) (w:World) (res:Except Tp.Er Tp.M) (e:Ending) (w':World):Prop :=
 match res with
 | .ok m=>∃ v,e=.returned v/\VM w.heap.size m v w'/\Ext p.pb w w'
 | .error er=>Thrown w.heap.size er e w'/\Ext p.pb w w'
theorem yg {p:Ps}{w w1 w':World}{er:Tp.Er}{e:Ending}(hx:Ext p.pb w w1) (ht:Thrown w1.heap.size er e w') (hx2:Ext p.pb w1 w'):PostM p w (.error er) e w' :=
 ⟨ht.mono hx.size,hx.trans hx2⟩
theorem Tryz.infoGlobal:(Tryz.prog.info? 61).map (fun i=>(i.zero,i.size,i.bytes))=some (some (.agg #[.string ⟨#[]⟩,.int .i64 0,.int .i64 0,.bool false]),4,40):=by kernel_rfl
theorem Tryz.infoProc:(Tryz.prog.info? 65).map (fun i=>(i.zero,i.size,i.bytes))=some (some (.agg #[.string ⟨#[]⟩,.int .i64 0,.bool false,.slice none 0 0,.slice none 0 0,.slice none 0 0]),6,104):=by kernel_rfl
theorem global_ok' {w:World}{p:Ps}{ts r r1:List Tok}{o b:Nat}{g:G}(h:St w p ts r o b) (hr:Hid (Tp.global r=.ok (g,r1))) :
  Calls Tryz.prog 66 #[.pointer (some ⟨p.pb,0,none⟩)] w fun e w'=>e=.returned (.agg #[.string (bs g.name),.int .i64 (g.pos:Int),.int .i64 (g.len:Int),.bool g.seen])/\St w' p ts r1 o b/\Ext p.pb w w':=by
 refine(jC h).mono ?_
 intro e w' hq
 rw[hr.out]at hq
 obtain⟨v,rfl,hv,h1,h2⟩:=hq
 exact⟨by rw[show v=_ from hv];rfl,h1,h2⟩
theorem global_er' {w:World}{p:Ps}{ts r:List Tok}{o b:Nat}{er:Tp.Er}(h:St w p ts r o b) (hr:Hid (Tp.global r=.error er)) :
  Calls Tryz.prog 66 #[.pointer (some ⟨p.pb,0,none⟩)] w fun e w'=>Thrown w.heap.size er e w'/\Ext p.pb w w':=by
 refine(jC h).mono ?_
 intro e w' hq
 rw[hr.out]at hq
 exact hq
theorem news4 (w:World) (e:Nat) (v0 v1 v2 v3:Value):∀ j u,[v0,v1,v2,v3][j]?=some u->(w.alloc (.cells #[v0,v1,v2,v3] e)).cell? ((⟨w.heap.size,0,none⟩:Addr).add j)=some u:=by
 intro j u hj
 match j,hj with
 | 0,hj=>simp at hj;subst hj;simp[Addr.add]
 | 1,hj=>simp at hj;subst hj;simp[Addr.add]
 | 2,hj=>simp at hj;subst hj;simp[Addr.add]
 | 3,hj=>simp at hj;subst hj;simp[Addr.add]
theorem news6 (w:World) (e:Nat) (v0 v1 v2 v3 v4 v5:Value):∀ j u,[v0,v1,v2,v3,v4,v5][j]?=some u->(w.alloc (.cells #[v0,v1,v2,v3,v4,v5] e)).cell? ((⟨w.heap.size,0,none⟩:Addr).add j)=some u:=by
 intro j u hj
 match j,hj with
 | 0,hj=>simp at hj;subst hj;simp[Addr.add]
 | 1,hj=>simp at hj;subst hj;simp[Addr.add]
 | 2,hj=>simp at hj;subst hj;simp[Addr.add]
 | 3,hj=>simp at hj;subst hj;simp[Addr.add]
 | 4,hj=>simp at hj;subst hj;simp[Addr.add]
 | 5,hj=>simp at hj;subst hj;simp[Addr.add]
end Go.Proofs.YtibncofnnlbmcaaGreatDoor
