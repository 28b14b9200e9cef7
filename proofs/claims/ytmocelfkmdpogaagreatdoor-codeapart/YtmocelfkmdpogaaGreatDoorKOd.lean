import Derived.Test.YtmocelfkmdpogaaGreatDoorKOc
import Derived.Deep.DeepCutAuto
set_option maxRecDepth 100000
set_option maxHeartbeats 4000000
namespace Go.Proofs.YtmocelfkmdpogaaGreatDoor
open Go.RowKit
open Tp (Bs X S G Pr Cn cX cS)
open Ob (In En)
def enV (x:En):List Value:=[.int .i64 x.at',.int .i64 x.args,.int .i64 x.locals]
def ens (l:List En):List Value:=(l.map enV).flatten
theorem ens_app (l m:List En):ens (l++m)=ens l++ens m:=by simp[ens]
theorem ens_one (x:En):ens [x]=enV x:=by simp[ens]
theorem Tryz.infoEntry:(Tryz.prog.info? 156).map (fun i=>(i.zero,i.size,i.bytes))=some (some (.agg #[.int .i64 0,.int .i64 0,.int .i64 0]),3,24):=by kernel_rfl
structure PE (w:World) (wb ob:Nat) (D:Nat->Prop) (q:Oq) (v:Value) (es:List En):Prop where
 row:w.ownsRow 0 156 3 (.slice q.pa q.pl q.pc) es.length (ens es)
 len:q.pl=es.length
 ok:∀g,(Value.slice q.pa q.pl q.pc).ownBlock=some g->g≠ob/\g≠wb/\v.ownBlock≠some g/\¬D g
structure Cp (ob wb:Nat) (v pv:Value) (w:World) (v' pv':Value) (w':World):Prop where
 os:w'.os=w.os
 tape:w'.tape=w.tape
 output:w'.output=w.output
 size:w.heap.size<=w'.heap.size
 block:∀b,b<w.heap.size->b≠ob->b≠wb->v.ownBlock≠some b->pv.ownBlock≠some b->w'.heap[b]?=w.heap[b]?
 own:∀g,v'.ownBlock=some g->v.ownBlock=some g\/w.heap.size<=g
 pown:∀g,pv'.ownBlock=some g->pv.ownBlock=some g\/w.heap.size<=g
theorem Cp.trans {ob c:Nat}{v1 v2 p m n o:Value}{r s t:World}(h:Cp ob c v1 m r v2 n s)(k:Cp ob c v2 n s p o t):Cp ob c v1 m r p o t:=by
 refine⟨k.os.trans h.os,k.tape.trans h.tape,k.output.trans h.output,Nat.le_trans h.size k.size,fun b l d f i j=>(k.block b (Nat.lt_of_lt_of_le l h.size) d f (fun e=>?_) (fun e=>?_)).trans (h.block b l d f i j),fun g a=>?_,fun g a=>?_⟩
 ·rcases h.own b e with q|q
  ·exact i q
  ·omega
 ·rcases h.pown b e with q|q
  ·exact j q
  ·omega
 ·rcases k.own g a with q|q
  ·exact h.own g q
  ·exact Or.inr (Nat.le_trans h.size q)
 ·rcases k.pown g a with q|q
  ·exact h.pown g q
  ·exact Or.inr (Nat.le_trans h.size q)
theorem Cg.cp {ob g:Nat}{v a c:Value}{w w':World}(h:Cg ob v w c w'):Cp ob g v a w c a w':=⟨h.os,h.tape,h.output,h.size,fun b f d _ e _=>h.block b f d e,h.own,fun _ q=>Or.inl q⟩
theorem PE.next {w w':World}{i ob:Nat}{D:Nat->Prop}{q:Oq}{v f:Value}{c:List En}(h:PE w i ob D q v c)(k:Cg ob v w f w'):PE w' i ob D q f c:=by
 have j:∀g,(Value.slice q.pa q.pl q.pc).ownBlock=some g->g<w.heap.size:=fun g a=>(h.row.lt g a).2
 refine⟨zF h.row fun b _ p d=>k.block b p (h.ok b d).1 (h.ok b d).2.2.1,h.len,fun g a=>?_⟩
 obtain⟨l,m,n,o⟩:=h.ok g a
 refine⟨l,m,fun e=>?_,o⟩
 rcases k.own g e with z|z
 ·exact n z
 ·have:=j g a;omega
def pQ (q:Oq) (a:Option Addr) (n c:Nat):Oq:={ q with pa:=a,pl:=n,pc:=c }
theorem CS.entry {w E j:World}{n ob:Nat}{D:Nat->Prop}{q:Oq}{c:Cn}{v:Value}{G:List In}{a:List En}(h:CS w n ob D q c v G)(s:PE w n ob D q v a)(k:Below w.heap.size w E){d:Option Addr}{f:Nat}{x:En}(P:j.ownsRow 0 156 3 (.slice d (a.length+1) f) (a.length+1) (ens a++enV x))(t:E.grownBy j (Value.slice q.pa q.pl q.pc).ownBlock)(C:∀g,(Value.slice d (a.length+1) f).ownBlock=some g->(Value.slice q.pa q.pl q.pc).ownBlock=some g\/E.heap.size<=g) :
  CS (j.setCell ⟨ob,4,none⟩ (.slice d (a.length+1) f)) n ob D (pQ q d (a.length+1) f) c v G/\PE (j.setCell ⟨ob,4,none⟩ (.slice d (a.length+1) f)) n ob D (pQ q d (a.length+1) f) v (a++[x])/\Cp ob n v (.slice q.pa q.pl q.pc) w v (.slice d (a.length+1) f) (j.setCell ⟨ob,4,none⟩ (.slice d (a.length+1) f)):=by
 have F:w.heap.size<=j.heap.size:=Nat.le_trans k.size t.size
 have I:=zi h.obk
 have H:∀b,b<w.heap.size->(Value.slice q.pa q.pl q.pc).ownBlock≠some b->j.heap[b]?=w.heap[b]?:=fun b m r=>(t.block b (Nat.lt_of_lt_of_le m k.size) (fun e=>r e.symm)).trans (k.block b m)
 have A:∀b,b<w.heap.size->b≠ob->(Value.slice q.pa q.pl q.pc).ownBlock≠some b->(j.setCell ⟨ob,4,none⟩ (.slice d (a.length+1) f)).heap[b]?=w.heap[b]?:=fun b m B r=>(Below.heap_setCell _ _ _ _ (by simpa using B)).trans (H b m r)
 have l:∀b,D b->b<w.heap.size->(j.setCell ⟨ob,4,none⟩ (.slice d (a.length+1) f)).heap[b]?=w.heap[b]?/\D b:=fun b o y=>⟨A b y (h.ok b o).1 (fun e=>(s.ok b e).2.2.2 o),o⟩
 obtain⟨J,u1,u2⟩:=h.us
 obtain⟨K,v1,v2⟩:=h.vr
 refine⟨⟨(l n h.dw (zi h.wbk)).1.trans h.wbk,?_,h.ow.mono l,⟨J,u1.mono l,u2.mono l⟩,⟨K,v1.mono l,v2⟩,h.nm.mono l,?_,fun i O=>(World.cell?_of_block (w:=w) (l _ h.dm (h.ok _ h.dm).2.2).1).trans (h.mkc i O),h.dm,h.dw,fun b o=>?_,h.nb⟩,⟨?_,?_,fun g p=>?_⟩,⟨?_,?_,?_,?_,fun b m B _ _ r=>A b m B r,fun g p=>Or.inl p,fun g p=>?_⟩⟩
 ·have e:j.heap[ob]?=some (.cells (oqc q c v) 59 (0,0)):=(H ob I (fun e=>(s.ok ob e).1 rfl)).trans h.obk
  have:=zw 4 (.slice d (a.length+1) f) e
  rw[this]
  rfl
 ·exact zF h.cd fun b _ y u=>A b y (fun e=>h.nb (e ▸ u)) (fun e=>(s.ok b e).2.2.1 u)
 ·obtain⟨L,M,N⟩:=h.ok b o
  exact⟨L,M,by simpa using Nat.lt_of_lt_of_le N F⟩
 ·rw[List.length_append,ens_app,ens_one]
  refine zF P fun b _ y u=>Below.heap_setCell _ _ _ _ (by
   have:b≠ob:=fun e=>by
    subst e
    rcases C b u with z|z
    ·exact(s.ok b z).1 rfl
    ·have:=k.size;omega
   simpa using this)
 ·show a.length+1=_
  simp
 ·rcases C g p with z|z
  ·exact s.ok g z
  ·have Q:w.heap.size<=g:=Nat.le_trans k.size z
   refine⟨by omega,by have:=zi h.wbk;omega,fun e=>?_,fun e=>?_⟩
   ·have:=(h.cd.lt g e).2;omega
   ·have:=(h.ok g e).2.2;omega
 ·exact t.os.trans k.os
 ·exact t.tape.trans k.tape
 ·exact t.output.trans k.output
 ·simpa using F
 ·rcases C g p with z|z
  ·exact Or.inl z
  ·exact Or.inr (Nat.le_trans k.size z)
def procV (nm:ByteArray) (at':Int) (sn:Bool) (pa va ba:Option Addr) (p pc n vc bl bc:Nat):Array Value:=#[.string nm,.int .i64 at',.bool sn,.slice pa p pc,.slice va n vc,.slice ba bl bc]
def SameQ (q q':Oq):Prop:=q'={ q with oa:=q'.oa,oc:=q'.oc,pa:=q'.pa,pl:=q'.pl,pc:=q'.pc }
def ProcP (w:World) (wb ob:Nat) (D:Nat->Prop) (q:Oq) (c:Cn) (v:Value) (cs:List In) (es:List En) (w':World):Prop:=∃D' q' v',CS w' wb ob D' q' c v' cs/\PE w' wb ob D' q' v' es/\Cp ob wb v (.slice q.pa q.pl q.pc) w v' (.slice q'.pa q'.pl q'.pc) w'/\(∀b,D b->D' b)/\SameQ q q'
theorem proc5_post {w:World}{d ob:Nat}{D:Nat->Prop}{q:Oq}{c:Cn}{v:Value}{x:List In}{H:List En}(h:CS w d ob D q c v x)(hp:PE w d ob D q v H)(p0:d≠3){ps vs:List Bs}{body:List S}(hs:CnS { c with own:=ps++vs })(hW:Tp.WS body){D0:Nat->Prop}(h0:∀b,D0 b->D b/\b≠d){nm:ByteArray}{at':Int}{sn:Bool}{y va P:Option Addr}{z vc Q:Nat}{b7:List Value}(m7:Row w D0 9 1 (.slice y ps.length z) ps.length (strs ps))(m9:Row w D0 9 1 (.slice va vs.length vc) vs.length (strs vs))(m8:RepS w D0 body b7)(m4:OwnS w D0 (.slice P body.length Q) body.length b7)(hn:ps.length+vs.length<=1000)(m3:H.length<=1000)(I:x.length+(cS { c with own:=ps++vs } x.length body).length+2<=4000) :
  Calls Tryz.prog 70 #[.pointer (some ⟨d,0,none⟩),.agg (procV nm at' sn y va P ps.length z vs.length vc body.length Q)] w fun e w'=>e=.returned (.tuple #[])/\ProcP w d ob D q { c with own:=ps++vs } v (x++(cS { c with own:=ps++vs } x.length body++[⟨1,0,0⟩,⟨15,0,0⟩])) (H++[⟨(x.length:Int),(ps.length:Int),((ps++vs).length:Int)⟩]) w':=by
 unfold procV
 obtain⟨i1,hi,f8,f9,g0⟩:=info_parts Tryz.infoEntry
 obtain⟨c',d1⟩:∃c',c'=({ c with own:=ps++vs }:Cn):=⟨_,rfl⟩
 obtain⟨p,d2⟩:∃p,p=ps.length:=⟨_,rfl⟩
 obtain⟨n,f2⟩:∃n,n=vs.length:=⟨_,rfl⟩
 obtain⟨R,f0⟩:∃R,R=body.length:=⟨_,rfl⟩
 obtain⟨s,c9⟩:∃b,b=w.heap.size:=⟨_,rfl⟩
 obtain⟨N,d3⟩:∃N,N=w.alloc (.cells #[.string nm,.int .i64 at',.bool sn,.slice y p z,.slice va n vc,.slice P R Q] 79):=⟨_,rfl⟩
 obtain⟨w2,c0⟩:∃w2,w2=N.alloc (.cells #[.slice y p z,.slice va n vc] 22):=⟨_,rfl⟩
 have k1:Below w.heap.size w N:=by rw[d3];exact zb _ _
 have k2:Below N.heap.size N w2:=by rw[c0];exact zb _ _
 have d4:Below w.heap.size w w2:=k1.trans (k2.mono k1.size)
 have b9:N.heap[s]?=some (.cells #[.string nm,.int .i64 at',.bool sn,.slice y p z,.slice va n vc,.slice P R Q] 79 (0,0)):=by rw[d3,c9];exact zk _ _
 have f1:w2.heap[N.heap.size]?=some (.cells #[.slice y p z,.slice va n vc] 22 (0,0)):=by rw[c0];exact zk _ _
 have d6:∀b,D0 b->b<w.heap.size->w2.heap[b]?=w.heap[b]?/\D0 b:=fun b r o5=>⟨d4.block b o5,r⟩
 have m1:=uQ (w:=w2) (D:=D0) (fun b r=>Nat.lt_of_lt_of_le (h.ok b (h0 b r).1).2.2 d4.size) (b:=N.heap.size) (by rw[<-d2];exact za f1) (by rw[<-f2];exact za f1) (m7.mono d6) (m9.mono d6) hn
 have e4:=zh m1
 rw[c0]at e4
 have c3:N.cell? ⟨s,3,none⟩=some (.slice y p z):=za b9
 have c4:N.cell? ⟨s,4,none⟩=some (.slice va n vc):=za b9
 have b4:=zi b9
 have HH:=zh h
 have M:=zh hp
 have p5:=zh k1
 have d7:=zh d4
 have o0:=zh b9
 have i4:=zh k2
 have b5:=zh c9
 have c2:=zh I
 have m0:=zh m8
 have i6:=zh m4
 have n4:=zh f0
 have o2:=zh d2
 have h9:=zh d1
 obtain⟨CC,e7⟩:∃CC,CC=x++(cS c' x.length body++[⟨1,0,0⟩,⟨15,0,0⟩]):=⟨_,rfl⟩
 obtain⟨EE,e9⟩:∃EE,EE=H++[⟨(x.length:Int),(ps.length:Int),((ps++vs).length:Int)⟩]:=⟨_,rfl⟩
 rw[<-d1,<-e7,<-e9,<-d2,<-f2,<-f0]
 have n1:=zh e7
 have n2:=zh e9
 obtain⟨ol,f3⟩:∃ol,ol=(ps++vs).length:=⟨_,rfl⟩
 rw[<-f3]at e4
 have c6:=zh f3
 rw[<-d1]at c2 hs
 have HS:=zh hs
 have o4:=zh c0
 have n9:=zh m3
 have p7:=zh hn
 have i5:Hid (d<w.heap.size/\ob<w.heap.size/\d≠ob):=⟨zi h.wbk,zi h.obk,(h.ok d h.dw).1⟩
 clear m1 h hp I m8 m4 f0 f1 b9 k1 k2 d4 d6 m7 m9 c0 d2 f2 d1 e7 e9 f3 hs m3 hn
 go_enter Tryz.func70,Tryz.ntmps70
 go_upto_region 1 with fail
 rw[<-d3,<-c9]
 clear d3 c9
 go_wp2_with fail
 refine e4.out.mono ?_
 rintro e w3⟨oa,oc,rfl,d9,d0⟩
 rw[<-o4.out]at d9 d0
 have b0:Below w.heap.size w w3:=d7.out.trans (d0.mono d7.out.size)
 have h3:=HH.out.on b0
 obtain⟨X,a6,p9⟩:=i5.out
 have s3:=b0.size
 have o6:d<w3.heap.size:=by omega
 have z1:w3.cell? ⟨d,1,none⟩=some (.slice q.oa c.own.length q.oc):=za h3.wbk
 have zf:w3.frozen? ⟨d,1,none⟩=false:=zg h3.wbk
 obtain⟨l,Y⟩:∃l,l=w3.setCell ⟨d,1,none⟩ (.slice oa ol oc):=⟨_,rfl⟩
 have f6:∀g,v.ownBlock=some g->g<w.heap.size:=fun g hg=>HH.out.lt hg
 have f4:∀g,(Value.slice q.pa q.pl q.pc).ownBlock=some g->g<w.heap.size:=fun g hg=>(M.out.row.lt g hg).2
 have s12:=d7.out.size
 obtain⟨J,c8⟩:∃J:Nat->Prop,J=fun b=>D b\/(w2.heap.size<=b/\b<w3.heap.size):=⟨_,rfl⟩
 have h4:CS l d ob J (reQ q oa oc) c' v x:=by
  have:=h3.reown (E:=fun b=>w2.heap.size<=b/\b<w3.heap.size) p0 (fun b r=>⟨by omega,by omega,fun e=>by have:=f6 b e;omega,r.2⟩) (own:=ps++vs) (oa:=oa) (oc:=oc) (by rw[<-c6.out]at *;exact d9.mono fun b r I=>⟨rfl,r,I⟩)
  rw[<-c6.out,<-Y,<-c8,<-h9.out]at this
  exact this
 have b8:∀b,b<w.heap.size->b≠d->l.heap[b]?=w.heap[b]?:=fun b r o8=>by
  rw[Y]
  exact(Below.heap_setCell _ _ _ _ (by simpa using o8)).trans (b0.block b r)
 have m6:PE l d ob J (reQ q oa oc) v H:=by
  refine⟨zF M.out.row fun b _ I r=>b8 b I (M.out.ok b r).2.1,M.out.len,fun g hg=>?_⟩
  obtain⟨a1,a2,a3,a4⟩:=M.out.ok g hg
  refine⟨a1,a2,a3,?_⟩
  rw[c8]
  rintro(e|e)
  ·exact a4 e
  ·have:=f4 g hg
   omega
 have m2:Cp ob d v (.slice q.pa q.pl q.pc) w v (.slice q.pa q.pl q.pc) l:=by
  refine⟨?_,?_,?_,?_,fun b r _ hn _ _=>b8 b r hn,fun _ h=>Or.inl h,fun _ h=>Or.inl h⟩
  ·rw[Y];exact b0.os
  ·rw[Y];exact b0.tape
  ·rw[Y];exact b0.output
  ·rw[Y];simpa using s3
 have a8:l.heap[s]?=some (.cells #[.string nm,.int .i64 at',.bool sn,.slice y p z,.slice va n vc,.slice P R Q] 79 (0,0)):=by
  rw[Y]
  refine(Below.heap_setCell _ _ _ _ (by have:=b5.out;simp;omega)).trans ?_
  exact(d0.block s (by have:=i4.out.size;omega)).trans ((i4.out.block s b4).trans o0.out)
 have T:=zh h4
 have b2:=zh m6
 have n7:=zh m2
 have e0:=zh a8
 have g3:Hid (RepS l D0 body b7):=m0.out.mono' fun b r I=>⟨b8 b I (h0 b r).2,r⟩
 have g2:Hid (OwnS l D0 (.slice P R Q) body.length b7):=by
  have:=i6.out.mono (w':=l) (D':=D0) fun b r I=>⟨b8 b I (h0 b r).2,r⟩
  rw[n4.out]
  exact this
 have i3:Hid (∀b,D b->J b):=fun b r=>by rw[c8];exact Or.inl r
 have b6:Hid (v.ownBlock≠some s/\s≠ob/\(Value.slice q.pa q.pl q.pc).ownBlock≠some s):=⟨fun e=>by have:=f6 s e;have:=b5.out;omega,by have:=b5.out;omega,fun e=>by have:=f4 s e;have:=b5.out;omega⟩
 clear h3 h4 m6 m2 d9 d0 b0 b8 c8 f4 f6 a8 c3 c4 b4
 go_upto_region 2 with fail
 rw[<-Y]
 clear Y z1 zf o6 s3 s12 X a6
 obtain⟨C,F,rfl⟩:=zl T.out.cd
 obtain⟨k,hk⟩:∃k,k=x.length:=⟨_,rfl⟩
 obtain⟨en,a9⟩:∃en,en=H.length:=⟨_,rfl⟩
 have k0:l.cell? ⟨d,0,none⟩=some (.pointer (some ⟨ob,0,none⟩)):=za T.out.wbk
 have k1:l.cell? ⟨d,1,none⟩=some (.slice oa ol oc):=by
  have:=T.out.wbk
  rw[h9.out]at this
  rw[za this,c6.out]
  rfl
 have k4:l.cell? ⟨ob,4,none⟩=some (.slice q.pa en q.pc):=by
  rw[za T.out.obk,a9,<-M.out.len]
  rfl
 have k6:l.cell? ⟨ob,6,none⟩=some (.slice C k F):=by rw[za T.out.obk,hk];rfl
 have b3:l.cell? ⟨s,3,none⟩=some (.slice y p z):=za e0.out
 have X:=zc k0
 have a6:=zc k4
 have b4:=zc b3
 have p1:∀o,(l.alloc o).cell? ⟨d,0,none⟩=some (.pointer (some ⟨ob,0,none⟩)):=fun o=>(World.cell?_of_block (w:=l) (Below.heap_alloc _ _ _ X)).trans k0
 have p2:∀o,(l.alloc o).cell? ⟨ob,4,none⟩=some (.slice q.pa en q.pc):=fun o=>(World.cell?_of_block (w:=l) (Below.heap_alloc _ _ _ a6)).trans k4
 have c7:Hid (∀o,(l.alloc o).ownsRow 0 156 3 (.slice q.pa en q.pc) en (ens H)):=fun o=>zF (by have:=b2.out.row;rw[a9];have e:=M.out.len;rw[<-e]at this ⊢;exact this) (fun b _ I _=>Below.heap_alloc _ _ _ I)
 have a7:Hid (∀b,(Value.slice q.pa en q.pc).ownBlock=some b->b≠ob/\b≠d):=fun b r=>by
  rw[a9,<-M.out.len]at r
  exact⟨(M.out.ok b r).1,(M.out.ok b r).2.1⟩
 have e6:=zh T.out.wbk
 have d8:=zh T.out.obk
 have c1:Hid (∀wx f A B,Below l.heap.size l wx->f.ownsRow 0 156 3 (.slice A (en+1) B) (en+1) (ens H++[.int .i64 (k:Int),.int .i64 (p:Int),.int .i64 (ol:Int)])->wx.grownBy f (Value.slice q.pa en q.pc).ownBlock->(∀g,(Value.slice A (en+1) B).ownBlock=some g->(Value.slice q.pa en q.pc).ownBlock=some g\/wx.heap.size<=g)->Hid (CS (f.setCell ⟨ob,4,none⟩ (.slice A (en+1) B)) d ob J (pQ (reQ q oa oc) A (en+1) B) c' (.slice C x.length F) x/\PE (f.setCell ⟨ob,4,none⟩ (.slice A (en+1) B)) d ob J (pQ (reQ q oa oc) A (en+1) B) (.slice C x.length F) EE/\Cp ob d (.slice C x.length F) (.slice q.pa q.pl q.pc) l (.slice C x.length F) (.slice A (en+1) B) (f.setCell ⟨ob,4,none⟩ (.slice A (en+1) B)))):=fun wx f A B a8 q1 G q3=>by
  subst a9
  subst hk
  have p3:f.ownsRow 0 156 3 (.slice A (H.length+1) B) (H.length+1) (ens H++enV ⟨(x.length:Int),(ps.length:Int),((ps++vs).length:Int)⟩):=by rw[<-o2.out,<-c6.out];exact q1
  obtain⟨r1,r2,r3⟩:=CS.entry T.out b2.out a8 p3 (by have e:(reQ q oa oc).pl=H.length:=b2.out.len;rw[e];exact G) (by have e:(reQ q oa oc).pl=H.length:=b2.out.len;rw[e];exact q3)
  exact⟨r1,by rw[n2.out];exact r2,r3⟩
 have n3:en<=1000:=by rw[a9];exact n9.out
 have p6:=zh hk
 have n8:=zh a9
 clear hk a9 M
 generalize o9:ens H=ss at c7 c1
 clear o9
 generalize n0:Value.slice C x.length F=vv at *
 have o3:=zh n0
 clear n0
 go_cut [] (fun wc=>∃A B,Hid (CS wc d ob J (pQ (reQ q oa oc) A (en+1) B) c' vv x/\PE wc d ob J (pQ (reQ q oa oc) A (en+1) B) vv EE/\Cp ob d vv (.slice q.pa q.pl q.pc) l vv (.slice A (en+1) B) wc))
 case first =>
  have U:Hid (l.drew.cell? ⟨d,0,none⟩=some (.pointer (some ⟨ob,0,none⟩))/\l.drew.cell? ⟨d,1,none⟩=some (.slice oa ol oc)/\l.drew.cell? ⟨ob,6,none⟩=some (.slice C k F)/\l.drew.cell? ⟨s,3,none⟩=some (.slice y p z)):=⟨k0,k1,k6,b3⟩
  have a0:Hid (∀o,(l.alloc o).drew.cell? ⟨d,0,none⟩=some (.pointer (some ⟨ob,0,none⟩))/\(l.alloc o).drew.cell? ⟨d,1,none⟩=some (.slice oa ol oc)/\(l.alloc o).drew.cell? ⟨ob,6,none⟩=some (.slice C k F)/\(l.alloc o).drew.cell? ⟨s,3,none⟩=some (.slice y p z)):=fun o=>⟨(World.cell?_of_block (w:=l) (Below.heap_alloc _ _ _ X)).trans k0,(World.cell?_of_block (w:=l) (Below.heap_alloc _ _ _ X)).trans k1,(World.cell?_of_block (w:=l) (Below.heap_alloc _ _ _ a6)).trans k6,(World.cell?_of_block (w:=l) (Below.heap_alloc _ _ _ b4)).trans b3⟩
  have g4:Hid (∀wx,Below l.heap.size l wx->∀f,wx.grownBy f (Value.slice q.pa en q.pc).ownBlock->f.cell? ⟨d,0,none⟩=some (.pointer (some ⟨ob,0,none⟩))/\f.cell? ⟨d,1,none⟩=some (.slice oa ol oc)/\f.cell? ⟨ob,6,none⟩=some (.slice C k F)/\f.cell? ⟨s,3,none⟩=some (.slice y p z)):=fun wx a8 f G=>by
   have hh:∀b,b<l.heap.size->(Value.slice q.pa en q.pc).ownBlock≠some b->f.heap[b]?=l.heap[b]?:=fun b r hn=>(G.block b (Nat.lt_of_lt_of_le r a8.size) (fun e=>hn e.symm)).trans (a8.block b r)
   have e1:=hh d X (fun e=>(a7.out d e).2 rfl)
   have e2:=hh ob a6 (fun e=>(a7.out ob e).1 rfl)
   have l':q.pl=en:=by rw[n8.out];exact b2.out.len
   have e3:=hh s b4 (fun e=>b6.out.2.2 (by rw[l'];exact e))
   exact⟨(World.cell?_of_block (w:=l) e1).trans k0,(World.cell?_of_block (w:=l) e1).trans k1,(World.cell?_of_block (w:=l) e2).trans k6,(World.cell?_of_block (w:=l) e3).trans b3⟩
  have g5:Hid (∀f:World,(f.cell? ⟨d,0,none⟩=some (.pointer (some ⟨ob,0,none⟩))/\f.cell? ⟨d,1,none⟩=some (.slice oa ol oc)/\f.cell? ⟨ob,6,none⟩=some (.slice C k F)/\f.cell? ⟨s,3,none⟩=some (.slice y p z))->∀u,(f.setCell ⟨ob,4,none⟩ u).cell? ⟨d,0,none⟩=some (.pointer (some ⟨ob,0,none⟩))/\(f.setCell ⟨ob,4,none⟩ u).cell? ⟨d,1,none⟩=some (.slice oa ol oc)/\(f.setCell ⟨ob,4,none⟩ u).cell? ⟨ob,6,none⟩=some (.slice C k F)/\(f.setCell ⟨ob,4,none⟩ u).cell? ⟨s,3,none⟩=some (.slice y p z)):=fun f h u=>by
   have p8:=b6.out.2.1
   refine⟨?_,?_,?_,?_⟩
   ·rw[World.cell?_setCell_other f ⟨ob,4,none⟩ ⟨d,0,none⟩ _ (by simp<;>omega)];exact h.1
   ·rw[World.cell?_setCell_other f ⟨ob,4,none⟩ ⟨d,1,none⟩ _ (by simp<;>omega)];exact h.2.1
   ·rw[World.cell?_setCell_other f ⟨ob,4,none⟩ ⟨ob,6,none⟩ _ (by simp)];exact h.2.2.1
   ·rw[World.cell?_setCell_other f ⟨ob,4,none⟩ ⟨s,3,none⟩ _ (by simp<;>omega)];exact h.2.2.2
  refine wp_region_noPanic ?_
  refine wp_region_held_drew (S:=(fun W=>W.cell? ⟨d,0,none⟩=some (.pointer (some ⟨ob,0,none⟩))/\W.cell? ⟨d,1,none⟩=some (.slice oa ol oc)/\W.cell? ⟨ob,6,none⟩=some (.slice C k F)/\W.cell? ⟨s,3,none⟩=some (.slice y p z))) (by kernel_rfl) U.out (fun m=>?_)
  refine wpAnyH_take (i:=0) (v:=?_) rfl (by kernel_rfl) (by kernel_rfl) (by kernel_rfl) (fun _ _ _ h=>h) (Or.inl ⟨by rfl,?_⟩) m ?_
  rotate_left
  ·first|(intro w a;go_simp;done)|(intro w a;(try dsimp only at a);go_simp;with_reducible rfl)
  try go_frame
  refine wpAnyH_take (i:=1) (v:=?_) rfl (by kernel_rfl) (by kernel_rfl) (by kernel_rfl) (fun _ _ _ h=>h) (Or.inl ⟨by rfl,?_⟩) m ?_
  rotate_left
  ·first|(intro w a;go_simp;done)|(intro w a;(try dsimp only at a);go_simp;with_reducible rfl)
  try go_frame
  refine wpAnyH_take (i:=2) (v:=?_) rfl (by kernel_rfl) (by kernel_rfl) (by kernel_rfl) (fun _ _ _ h=>h) (Or.inl ⟨by rfl,?_⟩) m ?_
  rotate_left
  ·first|(intro w a;go_simp;done)|(intro w a;(try dsimp only at a);go_simp;with_reducible rfl)
  try go_frame
  refine wpAnyH_take (i:=3) (v:=?_) rfl (by kernel_rfl) (by kernel_rfl) (by kernel_rfl) (fun _ _ _ h=>h) (Or.inl ⟨by rfl,?_⟩) m ?_
  rotate_left
  ·first|(intro w a;go_simp;done)|(intro w a;(try dsimp only at a);go_simp;with_reducible rfl)
  try go_frame
  refine wpAnyH_take (i:=4) (v:=?_) rfl (by kernel_rfl) (by kernel_rfl) (by kernel_rfl) (fun _ _ _ h=>h) (Or.inl ⟨by rfl,?_⟩) m ?_
  rotate_left
  ·first|(intro w a;go_simp;done)|(intro w a;(try dsimp only at a);go_simp;with_reducible rfl)
  try go_frame
  refine wpAnyH_take (i:=5) (v:=?_) rfl (by kernel_rfl) (by kernel_rfl) (by kernel_rfl) (fun _ _ _ h=>h) (Or.inl ⟨by rfl,?_⟩) m ?_
  rotate_left
  ·first|(intro w a;go_simp;done)|(intro w a;(try dsimp only at a);go_simp;with_reducible rfl)
  try go_frame
  refine wpAnyH_take (i:=6) (v:=?_) rfl (by kernel_rfl) (by kernel_rfl) (by kernel_rfl) (fun _ _ _ h=>h) (Or.inl ⟨by rfl,?_⟩) m ?_
  rotate_left
  ·first|(intro w a;go_simp;done)|(intro w a;(try dsimp only at a);go_simp;with_reducible rfl)
  try go_frame
  refine wpAnyH_take (i:=7) (v:=?_) rfl (by kernel_rfl) (by kernel_rfl) (by kernel_rfl) (fun _ _ _ h=>h) (Or.inl ⟨by rfl,?_⟩) m ?_
  rotate_left
  ·first|(intro w a;go_simp;done)|(intro w a;(try dsimp only at a);go_simp;with_reducible rfl)
  try go_frame
  refine wpAnyH_take (i:=8) (v:=?_) rfl (by kernel_rfl) (by kernel_rfl) (by kernel_rfl) (fun _ _ _ h=>h) (Or.inl ⟨by rfl,?_⟩) m ?_
  rotate_left
  ·first|(intro w a;go_simp;done)|(intro w a;(try dsimp only at a);go_simp;with_reducible rfl)
  try go_frame
  refine wpAnyH_take (i:=9) (v:=?_) rfl (by kernel_rfl) (by kernel_rfl) (by kernel_rfl) (fun _ _ _ h=>h) (Or.inl ⟨by rfl,?_⟩) m ?_
  rotate_left
  ·first|(intro w a;go_simp;done)|(intro w a;(try dsimp only at a);go_simp;with_reducible rfl)
  try go_frame
  refine wpAnyH_take (i:=11) (v:=?_) rfl (by kernel_rfl) (by kernel_rfl) (by kernel_rfl) (fun _ _ _ h=>h) (Or.inl ⟨by rfl,?_⟩) m ?_
  rotate_left
  ·first|(intro w a;go_simp;done)|(intro w a;(try dsimp only at a);go_simp;with_reducible rfl)
  try go_frame
  refine wpAnyH_take (i:=12) (v:=?_) rfl (by kernel_rfl) (by kernel_rfl) (by kernel_rfl) (fun _ _ _ h=>h) (Or.inl ⟨by rfl,?_⟩) m ?_
  rotate_left
  ·first|(intro w a;go_simp;done)|(intro w a;(try dsimp only at a);go_simp;with_reducible rfl)
  try go_frame
  refine wpAnyH_take (i:=13) (v:=?_) rfl (by kernel_rfl) (by kernel_rfl) (by kernel_rfl) (fun _ _ _ h=>h) (Or.inl ⟨by rfl,?_⟩) m ?_
  rotate_left
  ·first|(intro w a;go_simp;done)|(intro w a;(try dsimp only at a);go_simp;with_reducible rfl)
  try go_frame
  refine wpAnyH_take (i:=14) (v:=?_) rfl (by kernel_rfl) (by kernel_rfl) (by kernel_rfl) (fun _ _ _ h=>h) (Or.inl ⟨by rfl,?_⟩) m ?_
  rotate_left
  ·first|(intro w a;go_simp;done)|(intro w a;(try dsimp only at a);go_simp;with_reducible rfl)
  try go_frame
  refine wpAnyH_take (i:=15) (v:=?_) rfl (by kernel_rfl) (by kernel_rfl) (by kernel_rfl) (fun _ _ _ h=>h) (Or.inl ⟨by rfl,?_⟩) m ?_
  rotate_left
  ·first|(intro w a;go_simp;done)|(intro w a;(try dsimp only at a);go_simp;with_reducible rfl)
  try go_frame
  refine wpAnyH_take (i:=16) (v:=?_) rfl (by kernel_rfl) (by kernel_rfl) (by kernel_rfl) (fun _ _ _ h=>h) (Or.inl ⟨by rfl,?_⟩) m ?_
  rotate_left
  ·first|(intro w a;go_simp;done)|(intro w a;(try dsimp only at a);go_simp;with_reducible rfl)
  try go_frame
  refine wpAnyH_take (i:=17) (v:=?_) rfl (by kernel_rfl) (by kernel_rfl) (by kernel_rfl) (fun _ _ _ h=>h) (Or.inl ⟨by rfl,?_⟩) m ?_
  rotate_left
  ·first|(intro w a;go_simp;done)|(intro w a;(try dsimp only at a);go_simp;with_reducible rfl)
  try go_frame
  refine wpAnyH_take (i:=18) (v:=?_) rfl (by kernel_rfl) (by kernel_rfl) (by kernel_rfl) (fun _ _ _ h=>h) (Or.inl ⟨by rfl,?_⟩) m ?_
  rotate_left
  ·first|(intro w a;go_simp;done)|(intro w a;(try dsimp only at a);go_simp;with_reducible rfl)
  try go_frame
  refine wpAnyH_take (i:=19) (v:=?_) rfl (by kernel_rfl) (by kernel_rfl) (by kernel_rfl) (fun _ _ _ h=>h) (Or.inl ⟨by rfl,?_⟩) m ?_
  rotate_left
  ·first|(intro w a;go_simp;done)|(intro w a;(try dsimp only at a);go_simp;with_reducible rfl)
  try go_frame
  refine wpAnyH_take (i:=20) (v:=?_) rfl (by kernel_rfl) (by kernel_rfl) (by kernel_rfl) (fun _ _ _ h=>h) (Or.inl ⟨by rfl,?_⟩) m ?_
  rotate_left
  ·first|(intro w a;go_simp;done)|(intro w a;(try dsimp only at a);go_simp;with_reducible rfl)
  try go_frame
  refine wpAnyH_take (i:=21) (v:=?_) rfl (by kernel_rfl) (by kernel_rfl) (by kernel_rfl) (fun _ _ _ h=>h) (Or.inl ⟨by rfl,?_⟩) m ?_
  rotate_left
  ·first|(intro w a;go_simp;done)|(intro w a;(try dsimp only at a);go_simp;with_reducible rfl)
  try go_frame
  refine wpAnyH_take (i:=22) (v:=?_) rfl (by kernel_rfl) (by kernel_rfl) (by kernel_rfl) (fun _ _ _ h=>h) (Or.inl ⟨by rfl,?_⟩) m ?_
  rotate_left
  ·first|(intro w a;go_simp;done)|(intro w a;(try dsimp only at a);go_simp;with_reducible rfl)
  try go_frame
  refine wpAnyH_take (i:=23) (v:=?_) rfl (by kernel_rfl) (by kernel_rfl) (by kernel_rfl) (fun _ _ _ h=>h) (Or.inl ⟨by rfl,?_⟩) m ?_
  rotate_left
  ·first|(intro w a;go_simp;done)|(intro w a;(try dsimp only at a);go_simp;with_reducible rfl)
  try go_frame
  refine wpAnyH_take (i:=24) (v:=?_) rfl (by kernel_rfl) (by kernel_rfl) (by kernel_rfl) (fun _ _ _ h=>h) (Or.inl ⟨by rfl,?_⟩) m ?_
  rotate_left
  ·first|(intro w a;go_simp;done)|(intro w a;(try dsimp only at a);go_simp;with_reducible rfl)
  try go_frame
  refine wpAnyH_take (i:=25) (v:=?_) rfl (by kernel_rfl) (by kernel_rfl) (by kernel_rfl) (fun _ _ _ h=>h) (Or.inl ⟨by rfl,?_⟩) m ?_
  rotate_left
  ·first|(intro w a;go_simp;done)|(intro w a;(try dsimp only at a);go_simp;with_reducible rfl)
  try go_frame
  refine wpAnyH_take (i:=26) (v:=?_) rfl (by kernel_rfl) (by kernel_rfl) (by kernel_rfl) (fun _ _ _ h=>h) (Or.inl ⟨by rfl,?_⟩) m ?_
  rotate_left
  ·first|(intro w a;go_simp;done)|(intro w a;(try dsimp only at a);go_simp;with_reducible rfl)
  try go_frame
  refine wpAnyH_take (i:=27) (v:=?_) rfl (by kernel_rfl) (by kernel_rfl) (by kernel_rfl) (fun _ _ _ h=>h) (Or.inl ⟨by rfl,?_⟩) m ?_
  rotate_left
  ·first|(intro w a;go_simp;done)|(intro w a;(try dsimp only at a);go_simp;with_reducible rfl)
  try go_frame
  refine wpAnyH_ready (rs:=[10,28]) (by kernel_rfl) (by simp) ?_
  refine AllReadyH.cons rfl (fun K t=>?_) (AllReadyH.cons rfl (fun K t=>?_) AllReadyH.nil)
  ·go_simp
   refine t.out _ _ ?_ (fun m=>?_)
   ·with_reducible (first|exact V.out _|exact L.out|exact a0.out _|exact U.out)
   clear t K
   try go_frame
   refine wpAnyH_ready (rs:=[28]) (by kernel_rfl) (by simp) ?_
   refine AllReadyH.cons rfl (fun K t=>?_) AllReadyH.nil
   go_simp
   refine t.out _ _ ?_ (fun m=>?_)
   ·with_reducible (first|exact V.out _|exact L.out|exact a0.out _|exact U.out)
   clear t K
   try go_frame
   refine wpAnyH_ready (rs:=[29]) (by kernel_rfl) (by simp) ?_
   refine AllReadyH.cons rfl (fun K t=>?_) AllReadyH.nil
   (refine z7 rfl (.tmp 23) (.tmp 41) 57 rfl 0 156 i1 (.agg #[.int .i64 0,.int .i64 0,.int .i64 0]) 3 24 Tryz.underlying57 hi f8 f9 g0 rfl (by decide) (.slice q.pa en q.pc) en ss (by simp[Act.eval]) ?hown ⟨l.heap.size,0,none⟩ 1 1 [.int .i64 (k:Int),.int .i64 (p:Int),.int .i64 (ol:Int)] (by simp[Act.eval]) rfl ?news (by intro u hu;simp at hu;rcases hu with rfl|rfl|rfl<;>rfl) (by unfold maxLen;omega) (by omega) (by omega) ?_;(case hown=>exact c7.out _);(case news=>(intro j u hj;rw[Addr.add_lit];first|exact((za (zk l _)).trans (by simpa using hj))|exact((za (zk l.drew _)).trans (by simpa using hj))));intro p4 f q1 G q3;obtain⟨a3,c3,f5⟩:=zl q1;subst f5;have Z:=(G.block ob (by simp;omega) (fun e=>(a7.out ob e.symm).1 rfl)).trans ((Below.heap_alloc l _ ob a6).trans d8.out);have m5:f.cell? ⟨d,0,none⟩=some (.pointer (some ⟨ob,0,none⟩)):=za ((G.block d (by simp;omega) (fun e=>(a7.out d e.symm).2 rfl)).trans ((Below.heap_alloc l _ d X).trans e6.out));have n5:f.cell? ⟨ob,4,none⟩=some (.slice q.pa q.pl q.pc):=(za Z).trans rfl;have z5:f.frozen? ⟨ob,4,none⟩=false:=zg Z;have l5:ob<f.heap.size:=zi Z;have l6:d<f.heap.size:=zc m5;have L:Hid (f.cell? ⟨d,0,none⟩=some (.pointer (some ⟨ob,0,none⟩))/\f.cell? ⟨d,1,none⟩=some (.slice oa ol oc)/\f.cell? ⟨ob,6,none⟩=some (.slice C k F)/\f.cell? ⟨s,3,none⟩=some (.slice y p z)):=g4.out _ (by first|exact(zb _ _)|exact((Below.refl _ _).drew.alloc zn _)) f G;have V:Hid (∀u,(f.setCell ⟨ob,4,none⟩ u).cell? ⟨d,0,none⟩=some (.pointer (some ⟨ob,0,none⟩))/\(f.setCell ⟨ob,4,none⟩ u).cell? ⟨d,1,none⟩=some (.slice oa ol oc)/\(f.setCell ⟨ob,4,none⟩ u).cell? ⟨ob,6,none⟩=some (.slice C k F)/\(f.setCell ⟨ob,4,none⟩ u).cell? ⟨s,3,none⟩=some (.slice y p z)):=g5.out f L.out;have O:=c1.out _ f a3 c3 (by first|exact(zb _ _)|exact((Below.refl _ _).drew.alloc zn _)) q1 G q3;clear q1 G q3 Z)
   refine t.out _ _ ?_ (fun m=>?_)
   ·with_reducible (first|exact V.out _|exact L.out|exact a0.out _|exact U.out)
   clear t K
   try go_frame
   refine wpAnyH_take (i:=30) (v:=?_) rfl (by kernel_rfl) (by kernel_rfl) (by kernel_rfl) (fun _ _ _ h=>h) (Or.inl ⟨by rfl,?_⟩) m ?_
   rotate_left
   ·first|(intro w a;go_simp;done)|(intro w a;(try dsimp only at a);go_simp;with_reducible rfl)
   try go_frame
   refine wpAnyH_take (i:=31) (v:=?_) rfl (by kernel_rfl) (by kernel_rfl) (by kernel_rfl) (fun _ _ _ h=>h) (Or.inl ⟨by rfl,?_⟩) m ?_
   rotate_left
   ·first|(intro w a;go_simp;done)|(intro w a;(try dsimp only at a);go_simp;with_reducible rfl)
   try go_frame
   refine wpAnyH_ready (rs:=[32]) (by kernel_rfl) (by simp) ?_
   refine AllReadyH.cons rfl (fun K t=>?_) AllReadyH.nil
   go_simp
   refine t.out _ _ ?_ (fun m=>?_)
   ·with_reducible (first|exact V.out _|exact L.out|exact a0.out _|exact U.out)
   clear t K
   try go_frame
   refine wpAnyH_done (by kernel_rfl) ?_ _
   refine NoPanic.normal ?_
   go_wp2_with fail
   go_meet
   case rel=>exact⟨_,_,O⟩
  ·go_simp
   refine t.out _ _ ?_ (fun m=>?_)
   ·with_reducible (first|exact V.out _|exact L.out|exact a0.out _|exact U.out)
   clear t K
   try go_frame
   refine wpAnyH_ready (rs:=[10]) (by kernel_rfl) (by simp) ?_
   refine AllReadyH.cons rfl (fun K t=>?_) AllReadyH.nil
   go_simp
   refine t.out _ _ ?_ (fun m=>?_)
   ·with_reducible (first|exact V.out _|exact L.out|exact a0.out _|exact U.out)
   clear t K
   try go_frame
   refine wpAnyH_ready (rs:=[29]) (by kernel_rfl) (by simp) ?_
   refine AllReadyH.cons rfl (fun K t=>?_) AllReadyH.nil
   (refine z7 rfl (.tmp 23) (.tmp 41) 57 rfl 0 156 i1 (.agg #[.int .i64 0,.int .i64 0,.int .i64 0]) 3 24 Tryz.underlying57 hi f8 f9 g0 rfl (by decide) (.slice q.pa en q.pc) en ss (by simp[Act.eval]) ?hown ⟨l.heap.size,0,none⟩ 1 1 [.int .i64 (k:Int),.int .i64 (p:Int),.int .i64 (ol:Int)] (by simp[Act.eval]) rfl ?news (by intro u hu;simp at hu;rcases hu with rfl|rfl|rfl<;>rfl) (by unfold maxLen;omega) (by omega) (by omega) ?_;(case hown=>exact c7.out _);(case news=>(intro j u hj;rw[Addr.add_lit];first|exact((za (zk l _)).trans (by simpa using hj))|exact((za (zk l.drew _)).trans (by simpa using hj))));intro p4 f q1 G q3;obtain⟨a3,c3,f5⟩:=zl q1;subst f5;have Z:=(G.block ob (by simp;omega) (fun e=>(a7.out ob e.symm).1 rfl)).trans ((Below.heap_alloc l _ ob a6).trans d8.out);have m5:f.cell? ⟨d,0,none⟩=some (.pointer (some ⟨ob,0,none⟩)):=za ((G.block d (by simp;omega) (fun e=>(a7.out d e.symm).2 rfl)).trans ((Below.heap_alloc l _ d X).trans e6.out));have n5:f.cell? ⟨ob,4,none⟩=some (.slice q.pa q.pl q.pc):=(za Z).trans rfl;have z5:f.frozen? ⟨ob,4,none⟩=false:=zg Z;have l5:ob<f.heap.size:=zi Z;have l6:d<f.heap.size:=zc m5;have L:Hid (f.cell? ⟨d,0,none⟩=some (.pointer (some ⟨ob,0,none⟩))/\f.cell? ⟨d,1,none⟩=some (.slice oa ol oc)/\f.cell? ⟨ob,6,none⟩=some (.slice C k F)/\f.cell? ⟨s,3,none⟩=some (.slice y p z)):=g4.out _ (by first|exact(zb _ _)|exact((Below.refl _ _).drew.alloc zn _)) f G;have V:Hid (∀u,(f.setCell ⟨ob,4,none⟩ u).cell? ⟨d,0,none⟩=some (.pointer (some ⟨ob,0,none⟩))/\(f.setCell ⟨ob,4,none⟩ u).cell? ⟨d,1,none⟩=some (.slice oa ol oc)/\(f.setCell ⟨ob,4,none⟩ u).cell? ⟨ob,6,none⟩=some (.slice C k F)/\(f.setCell ⟨ob,4,none⟩ u).cell? ⟨s,3,none⟩=some (.slice y p z)):=g5.out f L.out;have O:=c1.out _ f a3 c3 (by first|exact(zb _ _)|exact((Below.refl _ _).drew.alloc zn _)) q1 G q3;clear q1 G q3 Z)
   refine t.out _ _ ?_ (fun m=>?_)
   ·with_reducible (first|exact V.out _|exact L.out|exact a0.out _|exact U.out)
   clear t K
   try go_frame
   refine wpAnyH_take (i:=30) (v:=?_) rfl (by kernel_rfl) (by kernel_rfl) (by kernel_rfl) (fun _ _ _ h=>h) (Or.inl ⟨by rfl,?_⟩) m ?_
   rotate_left
   ·first|(intro w a;go_simp;done)|(intro w a;(try dsimp only at a);go_simp;with_reducible rfl)
   try go_frame
   refine wpAnyH_take (i:=31) (v:=?_) rfl (by kernel_rfl) (by kernel_rfl) (by kernel_rfl) (fun _ _ _ h=>h) (Or.inl ⟨by rfl,?_⟩) m ?_
   rotate_left
   ·first|(intro w a;go_simp;done)|(intro w a;(try dsimp only at a);go_simp;with_reducible rfl)
   try go_frame
   refine wpAnyH_ready (rs:=[32]) (by kernel_rfl) (by simp) ?_
   refine AllReadyH.cons rfl (fun K t=>?_) AllReadyH.nil
   go_simp
   refine t.out _ _ ?_ (fun m=>?_)
   ·with_reducible (first|exact V.out _|exact L.out|exact a0.out _|exact U.out)
   clear t K
   try go_frame
   refine wpAnyH_done (by kernel_rfl) ?_ _
   refine NoPanic.normal ?_
   go_wp2_with fail
   go_meet
   case rel=>exact⟨_,_,O⟩
 case rest =>
  obtain⟨A,B,O⟩:=hcut
  clear c7 c1 k0 k1 k4 k6 b3 p1 p2 a7 e6 d8 X a6 b4 n3 hi f8 f9 g0
  rename World=>wc
  have f7:wc.heap[s]?=some (.cells #[.string nm,.int .i64 at',.bool sn,.slice y p z,.slice va n vc,.slice P R Q] 79 (0,0)):=(O.out.2.2.block s (zi e0.out) b6.out.2.1 (by have:=b5.out;have:=i5.out.1;omega) b6.out.1 b6.out.2.2).trans e0.out
  have d5:wc.cell? ⟨s,5,none⟩=some (.slice P R Q):=za f7
  have o7:s<wc.heap.size:=zi f7
  have e8:∀b,D0 b->b<l.heap.size->wc.heap[b]?=l.heap[b]?/\J b:=fun b r I=>by
   have h1:=i3.out b (h0 b r).1
   have h2:=T.out.ok b h1
   exact⟨O.out.2.2.block b I h2.1 (h0 b r).2 h2.2.1 (fun e=>(b2.out.ok b e).2.2.2 h1),h1⟩
  have g9:Hid (Calls Tryz.prog 68 #[.pointer (some ⟨d,0,none⟩),.slice P R Q] wc (Laid5 wc d ob J (pQ (reQ q oa oc) A (en+1) B) c' vv (x++cS c' x.length body))) :=
   x8 HS.out _ body zn hW wc vv x (.slice P R Q) b7 O.out.1 (g3.out.mono' e8) (g2.out.mono e8) (by have:=c2.out;omega)
  have g1:Hid (Cp ob d vv (.slice q.pa q.pl q.pc) w vv (.slice A (en+1) B) wc):=n7.out.trans O.out.2.2
  clear e8 f7 g3 g2 m0 i6
  go_upto_region 4 with fail
  refine g9.out.mono ?_
  rintro e w6⟨rfl,v6,h6,g6⟩
  have i9:=zh (kF h6 (by have:=c2.out;simp only[List.length_append];omega) 0)
  have i7:=zh (O.out.2.1.next g6)
  have i0:=zh (g1.out.trans g6.cp)
  clear h6 g6 d5 o7 O g1 g9
  go_upto_region 5 with fail
  refine i9.out.mono ?_
  rintro e w7⟨rfl,v7,h7,g7⟩
  have h5:=zh (y6 h7 (by have:=c2.out;simp only[List.length_append,List.length_cons,List.length_nil];omega) 15)
  have i8:=zh (i7.out.next g7)
  have i2:=zh (i0.out.trans g7.cp)
  clear h7 g7 i7 i0 i9
  go_wp2_with fail
  refine h5.out.mono ?_
  rintro e w8⟨rfl,v8,h8,g8⟩
  have o1:=zh (i8.out.next g8)
  have n6:=zh (i2.out.trans g8.cp)
  have H8:=zh h8
  clear h8 g8 i8 i2 h5
  go_wp2_with fail
  go_end0
  refine⟨rfl,J,pQ (reQ q oa oc) A (en+1) B,v8,?_,o1.out,?_,i3.out,rfl⟩
  ·rw[n1.out]
   simpa only [List.append_assoc,List.cons_append,List.nil_append] using H8.out
  ·rw[o3.out];exact n6.out
end Go.Proofs.YtmocelfkmdpogaaGreatDoor
