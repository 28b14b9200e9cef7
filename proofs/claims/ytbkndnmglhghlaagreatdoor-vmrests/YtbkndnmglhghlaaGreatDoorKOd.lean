import Derived.Test.YtbkndnmglhghlaaGreatDoorKOc
import Derived.Test.YtbkndnmglhghlaaGreatDoorKUa
set_option maxRecDepth 100000
set_option maxHeartbeats 4000000

namespace Go.Proofs.YtbkndnmglhghlaaGreatDoor
open Go.RowKit
open Tp (Bs X S G Pr Cn cX cS)
open Ob (In En)
def procV (nm:ByteArray) (at':Int) (sn:Bool) (pa va ba:Option Addr) (p pc n vc bl bc:Nat):Array Value:=#[.string nm,.int .i64 at',.bool sn,.slice pa p pc,.slice va n vc,.slice ba bl bc]
def SameQ (q q':Oq):Prop:=q'={ q with oa:=q'.oa,oc:=q'.oc,pa:=q'.pa,pl:=q'.pl,pc:=q'.pc }
def ProcP (w:World) (wb ob:Nat) (D:Nat->Prop) (q:Oq) (c:Cn) (v:Value) (cs:List In) (es:List En) (w':World):Prop:=∃D' q' v',CS w' wb ob D' q' c v' cs/\PE w' wb ob D' q' v' es/\Cp ob wb v (.slice q.pa q.pl q.pc) w v' (.slice q'.pa q'.pl q'.pc) w'/\(∀b,D b->D' b)/\SameQ q q'
theorem proc5_post {w:World}{f d:Nat}{D:Nat->Prop}{q:Oq}{c:Cn}{v:Value}{y:List In}{I:List En}(h:CS w f d D q c v y)(hp:PE w f d D q v I)(p0:f≠2){ps vs:List Bs}{body:List S}(hs:CnS { c with own:=ps++vs })(hW:Tp.WS body){D0:Nat->Prop}(h0:∀b,D0 b->D b/\b≠f){nm:ByteArray}{at':Int}{sn:Bool}{z va Q:Option Addr}{A vc R:Nat}{b7:List Value}(m7:Row w D0 9 1 (.slice z ps.length A) ps.length (strs ps))(m9:Row w D0 9 1 (.slice va vs.length vc) vs.length (strs vs))(m8:RepS w D0 body b7)(m4:OwnS w D0 (.slice Q body.length R) body.length b7)(hn:ps.length+vs.length<=1000)(m3:I.length<=1000)(J:y.length+(cS { c with own:=ps++vs } y.length body).length+2<=4000) :
  Calls Tryz.prog 96 #[.pointer (some ⟨f,0,none⟩),.agg (procV nm at' sn z va Q ps.length A vs.length vc body.length R)] w fun e w'=>e=.returned (.tuple #[])/\ProcP w f d D q { c with own:=ps++vs } v (y++(cS { c with own:=ps++vs } y.length body++[⟨1,0,0⟩,⟨15,0,0⟩])) (I++[⟨(y.length:Int),(ps.length:Int),((ps++vs).length:Int)⟩]) w':=by
 unfold procV
 obtain⟨i1,hi,f8,f9,g0⟩:=info_parts Tryz.infoEntry
 obtain⟨c',d1⟩:∃c',c'=({ c with own:=ps++vs }:Cn):=⟨_,rfl⟩
 obtain⟨p,d2⟩:∃p,p=ps.length:=⟨_,rfl⟩
 obtain⟨n,f2⟩:∃n,n=vs.length:=⟨_,rfl⟩
 obtain⟨T,f0⟩:∃T,T=body.length:=⟨_,rfl⟩
 obtain⟨t,c9⟩:∃b,b=w.heap.size:=⟨_,rfl⟩
 obtain⟨O,d3⟩:∃O,O=w.alloc (.cells #[.string nm,.int .i64 at',.bool sn,.slice z p A,.slice va n vc,.slice Q T R] 157):=⟨_,rfl⟩
 obtain⟨w2,c0⟩:∃w2,w2=O.alloc (.cells #[.slice z p A,.slice va n vc] 46):=⟨_,rfl⟩
 have k1:Below w.heap.size w O:=by rw[d3];exact zb _ _
 have k2:Below O.heap.size O w2:=by rw[c0];exact zb _ _
 have d4:Below w.heap.size w w2:=k1.trans (k2.mono k1.size)
 have b9:O.heap[t]?=some (.cells #[.string nm,.int .i64 at',.bool sn,.slice z p A,.slice va n vc,.slice Q T R] 157 (0,0)):=by rw[d3,c9];exact zl _ _
 have f1:w2.heap[O.heap.size]?=some (.cells #[.slice z p A,.slice va n vc] 46 (0,0)):=by rw[c0];exact zl _ _
 have d6:∀b,D0 b->b<w.heap.size->w2.heap[b]?=w.heap[b]?/\D0 b:=fun b s o5=>⟨d4.block b o5,s⟩
 have m1:=vM (w:=w2) (D:=D0) (fun b s=>Nat.lt_of_lt_of_le (h.ok b (h0 b s).1).2.2 d4.size) (b:=O.heap.size) (by rw[<-d2];exact za f1) (by rw[<-f2];exact za f1) (m7.mono d6) (m9.mono d6) hn
 have e4:=zh m1
 rw[c0]at e4
 have c3:O.cell? ⟨t,3,none⟩=some (.slice z p A):=za b9
 have c4:O.cell? ⟨t,4,none⟩=some (.slice va n vc):=za b9
 have b4:=zc b9
 have HH:=zh h
 have N:=zh hp
 have p5:=zh k1
 have d7:=zh d4
 have o0:=zh b9
 have i4:=zh k2
 have b5:=zh c9
 have c2:=zh J
 have m0:=zh m8
 have i6:=zh m4
 have n4:=zh f0
 have o2:=zh d2
 have h9:=zh d1
 obtain⟨CC,e7⟩:∃CC,CC=y++(cS c' y.length body++[⟨1,0,0⟩,⟨15,0,0⟩]):=⟨_,rfl⟩
 obtain⟨EE,e9⟩:∃EE,EE=I++[⟨(y.length:Int),(ps.length:Int),((ps++vs).length:Int)⟩]:=⟨_,rfl⟩
 rw[<-d1,<-e7,<-e9,<-d2,<-f2,<-f0]
 have n1:=zh e7
 have n2:=zh e9
 obtain⟨ol,f3⟩:∃ol,ol=(ps++vs).length:=⟨_,rfl⟩
 rw[<-f3]at e4
 have c6:=zh f3
 rw[<-d1]at c2 hs
 have HS:=zh hs
 have o4:=zh c0
 have n9:=zh m3
 have p7:=zh hn
 have i5:Hid (f<w.heap.size/\d<w.heap.size/\f≠d):=⟨zc h.wbk,zc h.obk,(h.ok f h.dw).1⟩
 clear m1 h hp J m8 m4 f0 f1 b9 k1 k2 d4 d6 m7 m9 c0 d2 f2 d1 e7 e9 f3 hs m3 hn
 go_enter Tryz.func96,Tryz.ntmps96
 go_upto_region 1 with fail
 rw[<-d3,<-c9]
 clear d3 c9
 go_wp2_with fail
 refine e4.out.mono ?_
 rintro e w3⟨oa,oc,rfl,d9,d0⟩
 rw[<-o4.out]at d9 d0
 have b0:Below w.heap.size w w3:=d7.out.trans (d0.mono d7.out.size)
 have h3:=HH.out.on b0
 obtain⟨Y,a6,p9⟩:=i5.out
 have s3:=b0.size
 have o6:f<w3.heap.size:=by omega
 have z1:w3.cell? ⟨f,1,none⟩=some (.slice q.oa c.own.length q.oc):=za h3.wbk
 have zf:w3.frozen? ⟨f,1,none⟩=false:=zi h3.wbk
 obtain⟨m,Z⟩:∃m,m=w3.setCell ⟨f,1,none⟩ (.slice oa ol oc):=⟨_,rfl⟩
 have f6:∀g,v.ownBlock=some g->g<w.heap.size:=fun g hg=>HH.out.lt hg
 have f4:∀g,(Value.slice q.pa q.pl q.pc).ownBlock=some g->g<w.heap.size:=fun g hg=>(N.out.row.lt g hg).2
 have s12:=d7.out.size
 obtain⟨L,c8⟩:∃L:Nat->Prop,L=fun b=>D b\/(w2.heap.size<=b/\b<w3.heap.size):=⟨_,rfl⟩
 have h4:CS m f d L (reQ q oa oc) c' v y:=by
  have:=h3.reown (E:=fun b=>w2.heap.size<=b/\b<w3.heap.size) p0 (fun b s=>⟨by omega,by omega,fun e=>by have:=f6 b e;omega,s.2⟩) (own:=ps++vs) (oa:=oa) (oc:=oc) (by rw[<-c6.out]at *;exact d9.mono fun b s J=>⟨rfl,s,J⟩)
  rw[<-c6.out,<-Z,<-c8,<-h9.out]at this
  exact this
 have b8:∀b,b<w.heap.size->b≠f->m.heap[b]?=w.heap[b]?:=fun b s o8=>by
  rw[Z]
  exact(Below.heap_setCell _ _ _ _ (by simpa using o8)).trans (b0.block b s)
 have m6:PE m f d L (reQ q oa oc) v I:=by
  refine⟨zB N.out.row fun b _ J s=>b8 b J (N.out.ok b s).2.1,N.out.len,fun g hg=>?_⟩
  obtain⟨a1,a2,a3,a4⟩:=N.out.ok g hg
  refine⟨a1,a2,a3,?_⟩
  rw[c8]
  rintro(e|e)
  ·exact a4 e
  ·have:=f4 g hg
   omega
 have m2:Cp d f v (.slice q.pa q.pl q.pc) w v (.slice q.pa q.pl q.pc) m:=by
  refine⟨?_,?_,?_,?_,fun b s _ hn _ _=>b8 b s hn,fun _ h=>Or.inl h,fun _ h=>Or.inl h⟩
  ·rw[Z];exact b0.os
  ·rw[Z];exact b0.tape
  ·rw[Z];exact b0.output
  ·rw[Z];simpa using s3
 have a8:m.heap[t]?=some (.cells #[.string nm,.int .i64 at',.bool sn,.slice z p A,.slice va n vc,.slice Q T R] 157 (0,0)):=by
  rw[Z]
  refine(Below.heap_setCell _ _ _ _ (by have:=b5.out;simp;omega)).trans ?_
  exact(d0.block t (by have:=i4.out.size;omega)).trans ((i4.out.block t b4).trans o0.out)
 have U:=zh h4
 have b2:=zh m6
 have n7:=zh m2
 have e0:=zh a8
 have g3:Hid (RepS m D0 body b7):=m0.out.mono' fun b s J=>⟨b8 b J (h0 b s).2,s⟩
 have g2:Hid (OwnS m D0 (.slice Q T R) body.length b7):=by
  have:=i6.out.mono (w':=m) (D':=D0) fun b s J=>⟨b8 b J (h0 b s).2,s⟩
  rw[n4.out]
  exact this
 have i3:Hid (∀b,D b->L b):=fun b s=>by rw[c8];exact Or.inl s
 have b6:Hid (v.ownBlock≠some t/\t≠d/\(Value.slice q.pa q.pl q.pc).ownBlock≠some t):=⟨fun e=>by have:=f6 t e;have:=b5.out;omega,by have:=b5.out;omega,fun e=>by have:=f4 t e;have:=b5.out;omega⟩
 clear h3 h4 m6 m2 d9 d0 b0 b8 c8 f4 f6 a8 c3 c4 b4
 go_upto_region 2 with fail
 rw[<-Z]
 clear Z z1 zf o6 s3 s12 Y a6
 obtain⟨F,G,rfl⟩:=z7 U.out.cd
 obtain⟨k,hk⟩:∃k,k=y.length:=⟨_,rfl⟩
 obtain⟨en,a9⟩:∃en,en=I.length:=⟨_,rfl⟩
 have k0:m.cell? ⟨f,0,none⟩=some (.pointer (some ⟨d,0,none⟩)):=za U.out.wbk
 have k1:m.cell? ⟨f,1,none⟩=some (.slice oa ol oc):=by
  have:=U.out.wbk
  rw[h9.out]at this
  rw[za this,c6.out]
  rfl
 have k4:m.cell? ⟨d,4,none⟩=some (.slice q.pa en q.pc):=by
  rw[za U.out.obk,a9,<-N.out.len]
  rfl
 have k6:m.cell? ⟨d,6,none⟩=some (.slice F k G):=by rw[za U.out.obk,hk];rfl
 have b3:m.cell? ⟨t,3,none⟩=some (.slice z p A):=za e0.out
 have Y:=zg k0
 have a6:=zg k4
 have b4:=zg b3
 have p1:∀o,(m.alloc o).cell? ⟨f,0,none⟩=some (.pointer (some ⟨d,0,none⟩)):=fun o=>(World.cell?_of_block (w:=m) (Below.heap_alloc _ _ _ Y)).trans k0
 have p2:∀o,(m.alloc o).cell? ⟨d,4,none⟩=some (.slice q.pa en q.pc):=fun o=>(World.cell?_of_block (w:=m) (Below.heap_alloc _ _ _ a6)).trans k4
 have c7:Hid (∀o,(m.alloc o).ownsRow 0 112 3 (.slice q.pa en q.pc) en (ens I)):=fun o=>zB (by have:=b2.out.row;rw[a9];have e:=N.out.len;rw[<-e]at this ⊢;exact this) (fun b _ J _=>Below.heap_alloc _ _ _ J)
 have a7:Hid (∀b,(Value.slice q.pa en q.pc).ownBlock=some b->b≠d/\b≠f):=fun b s=>by
  rw[a9,<-N.out.len]at s
  exact⟨(N.out.ok b s).1,(N.out.ok b s).2.1⟩
 have e6:=zh U.out.wbk
 have d8:=zh U.out.obk
 have c1:Hid (∀wx l B C,Below m.heap.size m wx->l.ownsRow 0 112 3 (.slice B (en+1) C) (en+1) (ens I++[.int .i64 (k:Int),.int .i64 (p:Int),.int .i64 (ol:Int)])->wx.grownBy l (Value.slice q.pa en q.pc).ownBlock->(∀g,(Value.slice B (en+1) C).ownBlock=some g->(Value.slice q.pa en q.pc).ownBlock=some g\/wx.heap.size<=g)->Hid (CS (l.setCell ⟨d,4,none⟩ (.slice B (en+1) C)) f d L (pQ (reQ q oa oc) B (en+1) C) c' (.slice F y.length G) y/\PE (l.setCell ⟨d,4,none⟩ (.slice B (en+1) C)) f d L (pQ (reQ q oa oc) B (en+1) C) (.slice F y.length G) EE/\Cp d f (.slice F y.length G) (.slice q.pa q.pl q.pc) m (.slice F y.length G) (.slice B (en+1) C) (l.setCell ⟨d,4,none⟩ (.slice B (en+1) C)))):=fun wx l B C a8 q1 H q3=>by
  subst a9
  subst hk
  have p3:l.ownsRow 0 112 3 (.slice B (I.length+1) C) (I.length+1) (ens I++enV ⟨(y.length:Int),(ps.length:Int),((ps++vs).length:Int)⟩):=by rw[<-o2.out,<-c6.out];exact q1
  obtain⟨r1,r2,r3⟩:=CS.entry U.out b2.out a8 p3 (by have e:(reQ q oa oc).pl=I.length:=b2.out.len;rw[e];exact H) (by have e:(reQ q oa oc).pl=I.length:=b2.out.len;rw[e];exact q3)
  exact⟨r1,by rw[n2.out];exact r2,r3⟩
 have n3:en<=1000:=by rw[a9];exact n9.out
 have p6:=zh hk
 have n8:=zh a9
 clear hk a9 N
 generalize o9:ens I=ss at c7 c1
 clear o9
 generalize n0:Value.slice F y.length G=vv at *
 have o3:=zh n0
 clear n0
 go_cut [] (fun wc=>∃B C,Hid (CS wc f d L (pQ (reQ q oa oc) B (en+1) C) c' vv y/\PE wc f d L (pQ (reQ q oa oc) B (en+1) C) vv EE/\Cp d f vv (.slice q.pa q.pl q.pc) m vv (.slice B (en+1) C) wc))
 case first =>
  have V:Hid (m.drew.cell? ⟨f,0,none⟩=some (.pointer (some ⟨d,0,none⟩))/\m.drew.cell? ⟨f,1,none⟩=some (.slice oa ol oc)/\m.drew.cell? ⟨d,6,none⟩=some (.slice F k G)/\m.drew.cell? ⟨t,3,none⟩=some (.slice z p A)):=⟨k0,k1,k6,b3⟩
  have a0:Hid (∀o,(m.alloc o).drew.cell? ⟨f,0,none⟩=some (.pointer (some ⟨d,0,none⟩))/\(m.alloc o).drew.cell? ⟨f,1,none⟩=some (.slice oa ol oc)/\(m.alloc o).drew.cell? ⟨d,6,none⟩=some (.slice F k G)/\(m.alloc o).drew.cell? ⟨t,3,none⟩=some (.slice z p A)):=fun o=>⟨(World.cell?_of_block (w:=m) (Below.heap_alloc _ _ _ Y)).trans k0,(World.cell?_of_block (w:=m) (Below.heap_alloc _ _ _ Y)).trans k1,(World.cell?_of_block (w:=m) (Below.heap_alloc _ _ _ a6)).trans k6,(World.cell?_of_block (w:=m) (Below.heap_alloc _ _ _ b4)).trans b3⟩
  have g4:Hid (∀wx,Below m.heap.size m wx->∀l,wx.grownBy l (Value.slice q.pa en q.pc).ownBlock->l.cell? ⟨f,0,none⟩=some (.pointer (some ⟨d,0,none⟩))/\l.cell? ⟨f,1,none⟩=some (.slice oa ol oc)/\l.cell? ⟨d,6,none⟩=some (.slice F k G)/\l.cell? ⟨t,3,none⟩=some (.slice z p A)):=fun wx a8 l H=>by
   have hh:∀b,b<m.heap.size->(Value.slice q.pa en q.pc).ownBlock≠some b->l.heap[b]?=m.heap[b]?:=fun b s hn=>(H.block b (Nat.lt_of_lt_of_le s a8.size) (fun e=>hn e.symm)).trans (a8.block b s)
   have e1:=hh f Y (fun e=>(a7.out f e).2 rfl)
   have e2:=hh d a6 (fun e=>(a7.out d e).1 rfl)
   have l':q.pl=en:=by rw[n8.out];exact b2.out.len
   have e3:=hh t b4 (fun e=>b6.out.2.2 (by rw[l'];exact e))
   exact⟨(World.cell?_of_block (w:=m) e1).trans k0,(World.cell?_of_block (w:=m) e1).trans k1,(World.cell?_of_block (w:=m) e2).trans k6,(World.cell?_of_block (w:=m) e3).trans b3⟩
  have g5:Hid (∀l:World,(l.cell? ⟨f,0,none⟩=some (.pointer (some ⟨d,0,none⟩))/\l.cell? ⟨f,1,none⟩=some (.slice oa ol oc)/\l.cell? ⟨d,6,none⟩=some (.slice F k G)/\l.cell? ⟨t,3,none⟩=some (.slice z p A))->∀u,(l.setCell ⟨d,4,none⟩ u).cell? ⟨f,0,none⟩=some (.pointer (some ⟨d,0,none⟩))/\(l.setCell ⟨d,4,none⟩ u).cell? ⟨f,1,none⟩=some (.slice oa ol oc)/\(l.setCell ⟨d,4,none⟩ u).cell? ⟨d,6,none⟩=some (.slice F k G)/\(l.setCell ⟨d,4,none⟩ u).cell? ⟨t,3,none⟩=some (.slice z p A)):=fun l h u=>by
   have p8:=b6.out.2.1
   refine⟨?_,?_,?_,?_⟩
   ·rw[World.cell?_setCell_other l ⟨d,4,none⟩ ⟨f,0,none⟩ _ (by simp<;>omega)];exact h.1
   ·rw[World.cell?_setCell_other l ⟨d,4,none⟩ ⟨f,1,none⟩ _ (by simp<;>omega)];exact h.2.1
   ·rw[World.cell?_setCell_other l ⟨d,4,none⟩ ⟨d,6,none⟩ _ (by simp)];exact h.2.2.1
   ·rw[World.cell?_setCell_other l ⟨d,4,none⟩ ⟨t,3,none⟩ _ (by simp<;>omega)];exact h.2.2.2
  refine wp_region_noPanic ?_
  refine wp_region_held_drew (S:=(fun W=>W.cell? ⟨f,0,none⟩=some (.pointer (some ⟨d,0,none⟩))/\W.cell? ⟨f,1,none⟩=some (.slice oa ol oc)/\W.cell? ⟨d,6,none⟩=some (.slice F k G)/\W.cell? ⟨t,3,none⟩=some (.slice z p A))) (by kernel_rfl) V.out (fun r=>?_)
  refine wpAnyH_take (i:=0) (v:=?_) rfl (by kernel_rfl) (by kernel_rfl) (by kernel_rfl) (fun _ _ _ h=>h) (Or.inl ⟨by rfl,?_⟩) r ?_
  rotate_left
  ·first|(intro w a;go_simp;done)|(intro w a;(try dsimp only at a);go_simp;with_reducible rfl)
  try go_frame
  refine wpAnyH_take (i:=1) (v:=?_) rfl (by kernel_rfl) (by kernel_rfl) (by kernel_rfl) (fun _ _ _ h=>h) (Or.inl ⟨by rfl,?_⟩) r ?_
  rotate_left
  ·first|(intro w a;go_simp;done)|(intro w a;(try dsimp only at a);go_simp;with_reducible rfl)
  try go_frame
  refine wpAnyH_take (i:=2) (v:=?_) rfl (by kernel_rfl) (by kernel_rfl) (by kernel_rfl) (fun _ _ _ h=>h) (Or.inl ⟨by rfl,?_⟩) r ?_
  rotate_left
  ·first|(intro w a;go_simp;done)|(intro w a;(try dsimp only at a);go_simp;with_reducible rfl)
  try go_frame
  refine wpAnyH_take (i:=3) (v:=?_) rfl (by kernel_rfl) (by kernel_rfl) (by kernel_rfl) (fun _ _ _ h=>h) (Or.inl ⟨by rfl,?_⟩) r ?_
  rotate_left
  ·first|(intro w a;go_simp;done)|(intro w a;(try dsimp only at a);go_simp;with_reducible rfl)
  try go_frame
  refine wpAnyH_take (i:=4) (v:=?_) rfl (by kernel_rfl) (by kernel_rfl) (by kernel_rfl) (fun _ _ _ h=>h) (Or.inl ⟨by rfl,?_⟩) r ?_
  rotate_left
  ·first|(intro w a;go_simp;done)|(intro w a;(try dsimp only at a);go_simp;with_reducible rfl)
  try go_frame
  refine wpAnyH_take (i:=5) (v:=?_) rfl (by kernel_rfl) (by kernel_rfl) (by kernel_rfl) (fun _ _ _ h=>h) (Or.inl ⟨by rfl,?_⟩) r ?_
  rotate_left
  ·first|(intro w a;go_simp;done)|(intro w a;(try dsimp only at a);go_simp;with_reducible rfl)
  try go_frame
  refine wpAnyH_take (i:=6) (v:=?_) rfl (by kernel_rfl) (by kernel_rfl) (by kernel_rfl) (fun _ _ _ h=>h) (Or.inl ⟨by rfl,?_⟩) r ?_
  rotate_left
  ·first|(intro w a;go_simp;done)|(intro w a;(try dsimp only at a);go_simp;with_reducible rfl)
  try go_frame
  refine wpAnyH_take (i:=7) (v:=?_) rfl (by kernel_rfl) (by kernel_rfl) (by kernel_rfl) (fun _ _ _ h=>h) (Or.inl ⟨by rfl,?_⟩) r ?_
  rotate_left
  ·first|(intro w a;go_simp;done)|(intro w a;(try dsimp only at a);go_simp;with_reducible rfl)
  try go_frame
  refine wpAnyH_take (i:=8) (v:=?_) rfl (by kernel_rfl) (by kernel_rfl) (by kernel_rfl) (fun _ _ _ h=>h) (Or.inl ⟨by rfl,?_⟩) r ?_
  rotate_left
  ·first|(intro w a;go_simp;done)|(intro w a;(try dsimp only at a);go_simp;with_reducible rfl)
  try go_frame
  refine wpAnyH_take (i:=9) (v:=?_) rfl (by kernel_rfl) (by kernel_rfl) (by kernel_rfl) (fun _ _ _ h=>h) (Or.inl ⟨by rfl,?_⟩) r ?_
  rotate_left
  ·first|(intro w a;go_simp;done)|(intro w a;(try dsimp only at a);go_simp;with_reducible rfl)
  try go_frame
  refine wpAnyH_take (i:=11) (v:=?_) rfl (by kernel_rfl) (by kernel_rfl) (by kernel_rfl) (fun _ _ _ h=>h) (Or.inl ⟨by rfl,?_⟩) r ?_
  rotate_left
  ·first|(intro w a;go_simp;done)|(intro w a;(try dsimp only at a);go_simp;with_reducible rfl)
  try go_frame
  refine wpAnyH_take (i:=12) (v:=?_) rfl (by kernel_rfl) (by kernel_rfl) (by kernel_rfl) (fun _ _ _ h=>h) (Or.inl ⟨by rfl,?_⟩) r ?_
  rotate_left
  ·first|(intro w a;go_simp;done)|(intro w a;(try dsimp only at a);go_simp;with_reducible rfl)
  try go_frame
  refine wpAnyH_take (i:=13) (v:=?_) rfl (by kernel_rfl) (by kernel_rfl) (by kernel_rfl) (fun _ _ _ h=>h) (Or.inl ⟨by rfl,?_⟩) r ?_
  rotate_left
  ·first|(intro w a;go_simp;done)|(intro w a;(try dsimp only at a);go_simp;with_reducible rfl)
  try go_frame
  refine wpAnyH_take (i:=14) (v:=?_) rfl (by kernel_rfl) (by kernel_rfl) (by kernel_rfl) (fun _ _ _ h=>h) (Or.inl ⟨by rfl,?_⟩) r ?_
  rotate_left
  ·first|(intro w a;go_simp;done)|(intro w a;(try dsimp only at a);go_simp;with_reducible rfl)
  try go_frame
  refine wpAnyH_take (i:=15) (v:=?_) rfl (by kernel_rfl) (by kernel_rfl) (by kernel_rfl) (fun _ _ _ h=>h) (Or.inl ⟨by rfl,?_⟩) r ?_
  rotate_left
  ·first|(intro w a;go_simp;done)|(intro w a;(try dsimp only at a);go_simp;with_reducible rfl)
  try go_frame
  refine wpAnyH_take (i:=16) (v:=?_) rfl (by kernel_rfl) (by kernel_rfl) (by kernel_rfl) (fun _ _ _ h=>h) (Or.inl ⟨by rfl,?_⟩) r ?_
  rotate_left
  ·first|(intro w a;go_simp;done)|(intro w a;(try dsimp only at a);go_simp;with_reducible rfl)
  try go_frame
  refine wpAnyH_take (i:=17) (v:=?_) rfl (by kernel_rfl) (by kernel_rfl) (by kernel_rfl) (fun _ _ _ h=>h) (Or.inl ⟨by rfl,?_⟩) r ?_
  rotate_left
  ·first|(intro w a;go_simp;done)|(intro w a;(try dsimp only at a);go_simp;with_reducible rfl)
  try go_frame
  refine wpAnyH_take (i:=18) (v:=?_) rfl (by kernel_rfl) (by kernel_rfl) (by kernel_rfl) (fun _ _ _ h=>h) (Or.inl ⟨by rfl,?_⟩) r ?_
  rotate_left
  ·first|(intro w a;go_simp;done)|(intro w a;(try dsimp only at a);go_simp;with_reducible rfl)
  try go_frame
  refine wpAnyH_take (i:=19) (v:=?_) rfl (by kernel_rfl) (by kernel_rfl) (by kernel_rfl) (fun _ _ _ h=>h) (Or.inl ⟨by rfl,?_⟩) r ?_
  rotate_left
  ·first|(intro w a;go_simp;done)|(intro w a;(try dsimp only at a);go_simp;with_reducible rfl)
  try go_frame
  refine wpAnyH_take (i:=20) (v:=?_) rfl (by kernel_rfl) (by kernel_rfl) (by kernel_rfl) (fun _ _ _ h=>h) (Or.inl ⟨by rfl,?_⟩) r ?_
  rotate_left
  ·first|(intro w a;go_simp;done)|(intro w a;(try dsimp only at a);go_simp;with_reducible rfl)
  try go_frame
  refine wpAnyH_take (i:=21) (v:=?_) rfl (by kernel_rfl) (by kernel_rfl) (by kernel_rfl) (fun _ _ _ h=>h) (Or.inl ⟨by rfl,?_⟩) r ?_
  rotate_left
  ·first|(intro w a;go_simp;done)|(intro w a;(try dsimp only at a);go_simp;with_reducible rfl)
  try go_frame
  refine wpAnyH_take (i:=22) (v:=?_) rfl (by kernel_rfl) (by kernel_rfl) (by kernel_rfl) (fun _ _ _ h=>h) (Or.inl ⟨by rfl,?_⟩) r ?_
  rotate_left
  ·first|(intro w a;go_simp;done)|(intro w a;(try dsimp only at a);go_simp;with_reducible rfl)
  try go_frame
  refine wpAnyH_take (i:=23) (v:=?_) rfl (by kernel_rfl) (by kernel_rfl) (by kernel_rfl) (fun _ _ _ h=>h) (Or.inl ⟨by rfl,?_⟩) r ?_
  rotate_left
  ·first|(intro w a;go_simp;done)|(intro w a;(try dsimp only at a);go_simp;with_reducible rfl)
  try go_frame
  refine wpAnyH_take (i:=24) (v:=?_) rfl (by kernel_rfl) (by kernel_rfl) (by kernel_rfl) (fun _ _ _ h=>h) (Or.inl ⟨by rfl,?_⟩) r ?_
  rotate_left
  ·first|(intro w a;go_simp;done)|(intro w a;(try dsimp only at a);go_simp;with_reducible rfl)
  try go_frame
  refine wpAnyH_take (i:=25) (v:=?_) rfl (by kernel_rfl) (by kernel_rfl) (by kernel_rfl) (fun _ _ _ h=>h) (Or.inl ⟨by rfl,?_⟩) r ?_
  rotate_left
  ·first|(intro w a;go_simp;done)|(intro w a;(try dsimp only at a);go_simp;with_reducible rfl)
  try go_frame
  refine wpAnyH_take (i:=26) (v:=?_) rfl (by kernel_rfl) (by kernel_rfl) (by kernel_rfl) (fun _ _ _ h=>h) (Or.inl ⟨by rfl,?_⟩) r ?_
  rotate_left
  ·first|(intro w a;go_simp;done)|(intro w a;(try dsimp only at a);go_simp;with_reducible rfl)
  try go_frame
  refine wpAnyH_take (i:=27) (v:=?_) rfl (by kernel_rfl) (by kernel_rfl) (by kernel_rfl) (fun _ _ _ h=>h) (Or.inl ⟨by rfl,?_⟩) r ?_
  rotate_left
  ·first|(intro w a;go_simp;done)|(intro w a;(try dsimp only at a);go_simp;with_reducible rfl)
  try go_frame
  refine wpAnyH_ready (rs:=[10,28]) (by kernel_rfl) (by simp) ?_
  refine AllReadyH.cons rfl (fun K x=>?_) (AllReadyH.cons rfl (fun K x=>?_) AllReadyH.nil)
  ·go_simp
   refine x.out _ _ ?_ (fun r=>?_)
   ·with_reducible (first|exact X.out _|exact M.out|exact a0.out _|exact V.out)
   clear x K
   try go_frame
   refine wpAnyH_ready (rs:=[28]) (by kernel_rfl) (by simp) ?_
   refine AllReadyH.cons rfl (fun K x=>?_) AllReadyH.nil
   go_simp
   refine x.out _ _ ?_ (fun r=>?_)
   ·with_reducible (first|exact X.out _|exact M.out|exact a0.out _|exact V.out)
   clear x K
   try go_frame
   refine wpAnyH_ready (rs:=[29]) (by kernel_rfl) (by simp) ?_
   refine AllReadyH.cons rfl (fun K x=>?_) AllReadyH.nil
   (refine zE rfl (.tmp 23) (.tmp 41) 45 rfl 0 112 i1 (.agg #[.int .i64 0,.int .i64 0,.int .i64 0]) 3 24 Tryz.underlying45 hi f8 f9 g0 rfl (by decide) (.slice q.pa en q.pc) en ss (by simp[Act.eval]) ?hown ⟨m.heap.size,0,none⟩ 1 1 [.int .i64 (k:Int),.int .i64 (p:Int),.int .i64 (ol:Int)] (by simp[Act.eval]) rfl ?news (by intro u hu;simp at hu;rcases hu with rfl|rfl|rfl<;>rfl) (by unfold maxLen;omega) (by omega) (by omega) ?_;(case hown=>exact c7.out _);(case news=>(intro j u hj;rw[Addr.add_lit];first|exact((za (zl m _)).trans (by simpa using hj))|exact((za (zl m.drew _)).trans (by simpa using hj))));intro p4 l q1 H q3;obtain⟨a3,c3,f5⟩:=z7 q1;subst f5;have e5:=(H.block d (by simp;omega) (fun e=>(a7.out d e.symm).1 rfl)).trans ((Below.heap_alloc m _ d a6).trans d8.out);have m5:l.cell? ⟨f,0,none⟩=some (.pointer (some ⟨d,0,none⟩)):=za ((H.block f (by simp;omega) (fun e=>(a7.out f e.symm).2 rfl)).trans ((Below.heap_alloc m _ f Y).trans e6.out));have n5:l.cell? ⟨d,4,none⟩=some (.slice q.pa q.pl q.pc):=(za e5).trans rfl;have z5:l.frozen? ⟨d,4,none⟩=false:=zi e5;have l5:d<l.heap.size:=zc e5;have l6:f<l.heap.size:=zg m5;have M:Hid (l.cell? ⟨f,0,none⟩=some (.pointer (some ⟨d,0,none⟩))/\l.cell? ⟨f,1,none⟩=some (.slice oa ol oc)/\l.cell? ⟨d,6,none⟩=some (.slice F k G)/\l.cell? ⟨t,3,none⟩=some (.slice z p A)):=g4.out _ (by first|exact(zb _ _)|exact((Below.refl _ _).drew.alloc zn _)) l H;have X:Hid (∀u,(l.setCell ⟨d,4,none⟩ u).cell? ⟨f,0,none⟩=some (.pointer (some ⟨d,0,none⟩))/\(l.setCell ⟨d,4,none⟩ u).cell? ⟨f,1,none⟩=some (.slice oa ol oc)/\(l.setCell ⟨d,4,none⟩ u).cell? ⟨d,6,none⟩=some (.slice F k G)/\(l.setCell ⟨d,4,none⟩ u).cell? ⟨t,3,none⟩=some (.slice z p A)):=g5.out l M.out;have P:=c1.out _ l a3 c3 (by first|exact(zb _ _)|exact((Below.refl _ _).drew.alloc zn _)) q1 H q3;clear q1 H q3 e5)
   refine x.out _ _ ?_ (fun r=>?_)
   ·with_reducible (first|exact X.out _|exact M.out|exact a0.out _|exact V.out)
   clear x K
   try go_frame
   refine wpAnyH_take (i:=30) (v:=?_) rfl (by kernel_rfl) (by kernel_rfl) (by kernel_rfl) (fun _ _ _ h=>h) (Or.inl ⟨by rfl,?_⟩) r ?_
   rotate_left
   ·first|(intro w a;go_simp;done)|(intro w a;(try dsimp only at a);go_simp;with_reducible rfl)
   try go_frame
   refine wpAnyH_take (i:=31) (v:=?_) rfl (by kernel_rfl) (by kernel_rfl) (by kernel_rfl) (fun _ _ _ h=>h) (Or.inl ⟨by rfl,?_⟩) r ?_
   rotate_left
   ·first|(intro w a;go_simp;done)|(intro w a;(try dsimp only at a);go_simp;with_reducible rfl)
   try go_frame
   refine wpAnyH_ready (rs:=[32]) (by kernel_rfl) (by simp) ?_
   refine AllReadyH.cons rfl (fun K x=>?_) AllReadyH.nil
   go_simp
   refine x.out _ _ ?_ (fun r=>?_)
   ·with_reducible (first|exact X.out _|exact M.out|exact a0.out _|exact V.out)
   clear x K
   try go_frame
   refine wpAnyH_done (by kernel_rfl) ?_ _
   refine NoPanic.normal ?_
   go_wp2_with fail
   go_meet
   case rel=>exact⟨_,_,P⟩
  ·go_simp
   refine x.out _ _ ?_ (fun r=>?_)
   ·with_reducible (first|exact X.out _|exact M.out|exact a0.out _|exact V.out)
   clear x K
   try go_frame
   refine wpAnyH_ready (rs:=[10]) (by kernel_rfl) (by simp) ?_
   refine AllReadyH.cons rfl (fun K x=>?_) AllReadyH.nil
   go_simp
   refine x.out _ _ ?_ (fun r=>?_)
   ·with_reducible (first|exact X.out _|exact M.out|exact a0.out _|exact V.out)
   clear x K
   try go_frame
   refine wpAnyH_ready (rs:=[29]) (by kernel_rfl) (by simp) ?_
   refine AllReadyH.cons rfl (fun K x=>?_) AllReadyH.nil
   (refine zE rfl (.tmp 23) (.tmp 41) 45 rfl 0 112 i1 (.agg #[.int .i64 0,.int .i64 0,.int .i64 0]) 3 24 Tryz.underlying45 hi f8 f9 g0 rfl (by decide) (.slice q.pa en q.pc) en ss (by simp[Act.eval]) ?hown ⟨m.heap.size,0,none⟩ 1 1 [.int .i64 (k:Int),.int .i64 (p:Int),.int .i64 (ol:Int)] (by simp[Act.eval]) rfl ?news (by intro u hu;simp at hu;rcases hu with rfl|rfl|rfl<;>rfl) (by unfold maxLen;omega) (by omega) (by omega) ?_;(case hown=>exact c7.out _);(case news=>(intro j u hj;rw[Addr.add_lit];first|exact((za (zl m _)).trans (by simpa using hj))|exact((za (zl m.drew _)).trans (by simpa using hj))));intro p4 l q1 H q3;obtain⟨a3,c3,f5⟩:=z7 q1;subst f5;have e5:=(H.block d (by simp;omega) (fun e=>(a7.out d e.symm).1 rfl)).trans ((Below.heap_alloc m _ d a6).trans d8.out);have m5:l.cell? ⟨f,0,none⟩=some (.pointer (some ⟨d,0,none⟩)):=za ((H.block f (by simp;omega) (fun e=>(a7.out f e.symm).2 rfl)).trans ((Below.heap_alloc m _ f Y).trans e6.out));have n5:l.cell? ⟨d,4,none⟩=some (.slice q.pa q.pl q.pc):=(za e5).trans rfl;have z5:l.frozen? ⟨d,4,none⟩=false:=zi e5;have l5:d<l.heap.size:=zc e5;have l6:f<l.heap.size:=zg m5;have M:Hid (l.cell? ⟨f,0,none⟩=some (.pointer (some ⟨d,0,none⟩))/\l.cell? ⟨f,1,none⟩=some (.slice oa ol oc)/\l.cell? ⟨d,6,none⟩=some (.slice F k G)/\l.cell? ⟨t,3,none⟩=some (.slice z p A)):=g4.out _ (by first|exact(zb _ _)|exact((Below.refl _ _).drew.alloc zn _)) l H;have X:Hid (∀u,(l.setCell ⟨d,4,none⟩ u).cell? ⟨f,0,none⟩=some (.pointer (some ⟨d,0,none⟩))/\(l.setCell ⟨d,4,none⟩ u).cell? ⟨f,1,none⟩=some (.slice oa ol oc)/\(l.setCell ⟨d,4,none⟩ u).cell? ⟨d,6,none⟩=some (.slice F k G)/\(l.setCell ⟨d,4,none⟩ u).cell? ⟨t,3,none⟩=some (.slice z p A)):=g5.out l M.out;have P:=c1.out _ l a3 c3 (by first|exact(zb _ _)|exact((Below.refl _ _).drew.alloc zn _)) q1 H q3;clear q1 H q3 e5)
   refine x.out _ _ ?_ (fun r=>?_)
   ·with_reducible (first|exact X.out _|exact M.out|exact a0.out _|exact V.out)
   clear x K
   try go_frame
   refine wpAnyH_take (i:=30) (v:=?_) rfl (by kernel_rfl) (by kernel_rfl) (by kernel_rfl) (fun _ _ _ h=>h) (Or.inl ⟨by rfl,?_⟩) r ?_
   rotate_left
   ·first|(intro w a;go_simp;done)|(intro w a;(try dsimp only at a);go_simp;with_reducible rfl)
   try go_frame
   refine wpAnyH_take (i:=31) (v:=?_) rfl (by kernel_rfl) (by kernel_rfl) (by kernel_rfl) (fun _ _ _ h=>h) (Or.inl ⟨by rfl,?_⟩) r ?_
   rotate_left
   ·first|(intro w a;go_simp;done)|(intro w a;(try dsimp only at a);go_simp;with_reducible rfl)
   try go_frame
   refine wpAnyH_ready (rs:=[32]) (by kernel_rfl) (by simp) ?_
   refine AllReadyH.cons rfl (fun K x=>?_) AllReadyH.nil
   go_simp
   refine x.out _ _ ?_ (fun r=>?_)
   ·with_reducible (first|exact X.out _|exact M.out|exact a0.out _|exact V.out)
   clear x K
   try go_frame
   refine wpAnyH_done (by kernel_rfl) ?_ _
   refine NoPanic.normal ?_
   go_wp2_with fail
   go_meet
   case rel=>exact⟨_,_,P⟩
 case rest =>
  obtain⟨B,C,P⟩:=hcut
  clear c7 c1 k0 k1 k4 k6 b3 p1 p2 a7 e6 d8 Y a6 b4 n3 hi f8 f9 g0
  rename World=>wc
  have f7:wc.heap[t]?=some (.cells #[.string nm,.int .i64 at',.bool sn,.slice z p A,.slice va n vc,.slice Q T R] 157 (0,0)):=(P.out.2.2.block t (zc e0.out) b6.out.2.1 (by have:=b5.out;have:=i5.out.1;omega) b6.out.1 b6.out.2.2).trans e0.out
  have d5:wc.cell? ⟨t,5,none⟩=some (.slice Q T R):=za f7
  have o7:t<wc.heap.size:=zc f7
  have e8:∀b,D0 b->b<m.heap.size->wc.heap[b]?=m.heap[b]?/\L b:=fun b s J=>by
   have h1:=i3.out b (h0 b s).1
   have h2:=U.out.ok b h1
   exact⟨P.out.2.2.block b J h2.1 (h0 b s).2 h2.2.1 (fun e=>(b2.out.ok b e).2.2.2 h1),h1⟩
  have g9:Hid (Calls Tryz.prog 94 #[.pointer (some ⟨f,0,none⟩),.slice Q T R] wc (Laid5 wc f d L (pQ (reQ q oa oc) B (en+1) C) c' vv (y++cS c' y.length body))) :=
   jR HS.out _ body zn hW wc vv y (.slice Q T R) b7 P.out.1 (g3.out.mono' e8) (g2.out.mono e8) (by have:=c2.out;omega)
  have g1:Hid (Cp d f vv (.slice q.pa q.pl q.pc) w vv (.slice B (en+1) C) wc):=n7.out.trans P.out.2.2
  clear e8 f7 g3 g2 m0 i6
  go_upto_region 4 with fail
  refine g9.out.mono ?_
  rintro e w6⟨rfl,v6,h6,g6⟩
  have i9:=zh (km h6 (by have:=c2.out;simp only[List.length_append];omega) 0)
  have i7:=zh (P.out.2.1.next g6)
  have i0:=zh (g1.out.trans g6.cp)
  clear h6 g6 d5 o7 P g1 g9
  go_upto_region 5 with fail
  refine i9.out.mono ?_
  rintro e w7⟨rfl,v7,h7,g7⟩
  have h5:=zh (yA h7 (by have:=c2.out;simp only[List.length_append,List.length_cons,List.length_nil];omega) 15)
  have i8:=zh (i7.out.next g7)
  have i2:=zh (i0.out.trans g7.cp)
  clear h7 g7 i7 i0 i9
  go_wp2_with fail
  refine h5.out.mono ?_
  rintro e w8⟨rfl,v8,h8,g8⟩
  have o1:=zh (i8.out.next g8)
  have n6:=zh (i2.out.trans g8.cp)
  have H8:=zh h8
  clear h8 g8 i8 i2 h5
  go_wp2_with fail
  go_end0
  refine⟨rfl,L,pQ (reQ q oa oc) B (en+1) C,v8,?_,o1.out,?_,i3.out,rfl⟩
  ·rw[n1.out]
   simpa only [List.append_assoc,List.cons_append,List.nil_append] using H8.out
  ·rw[o3.out];exact n6.out
end Go.Proofs.YtbkndnmglhghlaaGreatDoor

namespace Go.Proofs.YtbkndnmglhghlaaGreatDoor
open Go.RowKit
open Tp (Bs X S G Pr Cn cX cS cnOf cP entP headC codeC bodyP ownOf)
open Ob (In En)
variable {D:Nat->Prop}{q:Oq}{m:Tp.M}{v:Value}{w:World}
theorem cP_app (m:Tp.M)(a:Bs->List Bs):∀(l r:List Pr) (k:Nat),cP m a k (l++r)=cP m a k l++cP m a (k+(cP m a k l).length) r:=by
 intro l
 induction l with
 |nil=>intro r k;simp[cP]
 |cons p l ih=>intro r k;rw[List.cons_append,cP,cP,ih,List.append_assoc,List.length_append,Nat.add_assoc]
theorem entP_app (m:Tp.M)(a:Bs->List Bs):∀(l r:List Pr) (k:Nat),entP m a k (l++r)=entP m a k l++entP m a (k+(cP m a k l).length) r:=by
 intro l
 induction l with
 |nil=>intro r k;simp[entP,cP]
 |cons p l ih=>intro r k;rw[List.cons_append,entP,entP,cP,ih,List.cons_append,List.length_append,Nat.add_assoc]
def csAt (m:Tp.M) (uF:Bs->List Bs) (i:Nat):List In:=headC m uF++cP m uF (headC m uF).length (m.procs.take i)
def esAt (m:Tp.M) (uF:Bs->List Bs) (i:Nat):List En:=entP m uF (headC m uF).length (m.procs.take i)
theorem vK (m:Tp.M)(a:Bs->List Bs):csAt m a 0=headC m a:=by simp[csAt,cP]
theorem esAt_zero (m:Tp.M)(a:Bs->List Bs):esAt m a 0=[]:=by simp[esAt,entP]
theorem csAt_all (m:Tp.M)(a:Bs->List Bs):csAt m a m.procs.length=codeC m a:=by simp[csAt,codeC]
theorem esAt_all (m:Tp.M)(a:Bs->List Bs):esAt m a m.procs.length=entP m a (headC m a).length m.procs:=by simp[esAt]
theorem vL (m:Tp.M)(a:Bs->List Bs)(i:Nat)(h:i<m.procs.length):csAt m a (i+1)=csAt m a i++bodyP m a (csAt m a i).length m.procs[i]:=by
 unfold csAt
 rw[List.take_succ_eq_append_getElem h,cP_app,List.length_append,List.append_assoc]
 simp[cP]
theorem esAt_succ (m:Tp.M)(a:Bs->List Bs)(i:Nat)(h:i<m.procs.length):esAt m a (i+1)=esAt m a i++[⟨((csAt m a i).length:Int),(m.procs[i].params.length:Int),((m.procs[i].params++m.procs[i].vars).length:Int)⟩]:=by
 unfold esAt csAt
 rw[List.take_succ_eq_append_getElem h,entP_app,List.length_append]
 simp[entP,ownOf]
theorem csAt_le (m:Tp.M)(a:Bs->List Bs)(i:Nat):(csAt m a i).length<=(codeC m a).length:=by
 have:codeC m a=csAt m a i++cP m a ((headC m a).length+(cP m a (headC m a).length (m.procs.take i)).length) (m.procs.drop i):=by
  unfold csAt codeC
  rw[List.append_assoc,<-cP_app,List.take_append_drop]
 rw[this,List.length_append]
 omega
theorem esAt_le (m:Tp.M)(a:Bs->List Bs)(i:Nat):(esAt m a i).length<=m.procs.length:=by
 unfold esAt
 rw[Tp.entP_len,List.length_take]
 omega
theorem SameQ.trans {a b:Oq}(h:SameQ q a)(k:SameQ a b):SameQ q b:=by
 cases q
 cases a
 cases b
 simp[SameQ]at *
 simp_all
def ModP (w:World) (wb ob:Nat) (D:Nat->Prop) (q:Oq) (m:Tp.M) (uF:Bs->List Bs) (v:Value) (cs:List In) (es:List En) (w':World):Prop:=∃own,ProcP w wb ob D q (cnOf m uF own) v cs es w'
theorem ModP.below {w':World}{a d B:Nat}{t:Bs->List Bs}{n g:List In}{o i:List En}{l:Cn}(k:ModP w a d D q m t v n o w')(h:CS w a d D q l v g)(s:PE w a d D q v i)(p:∀b,b<B->D b/\b≠a):Below B w w':=by
 obtain⟨own,u,x,y,_,_,c1,_,_⟩:=k
 refine⟨c1.os,c1.tape,c1.output,c1.size,fun b r=>?_⟩
 obtain⟨f,j⟩:=p b r
 have c:=h.ok b f
 exact c1.block b c.2.2 c.1 j c.2.1 (fun e=>(s.ok b e).2.2.2 f)
theorem vz {l s:Nat}{d:Bs->List Bs}(h:CS w l s D q (cnOf m d []) v [])(hp:PE w l s D q v [])(f0:l≠2)(r:Tp.WM m)(hn:Tp.nM m<=1000)(hu:∀n,(d n).length<=1000){B:Nat}(W:∀b,b<B->D b/\b≠l){P L E x:Option Addr}{Q N F y:Nat}(f:MB w B m P L E x Q N F y) :
  Calls Tryz.prog 44 #[.pointer (some ⟨l,0,none⟩),.agg #[.string (bs m.name),.slice P m.imports.length Q,.slice L m.vars.length N,.slice E m.procs.length F,.slice x m.body.length y]] w fun e w'=>e=.returned (.tuple #[])/\ModP w l s D q m d v (codeC m d) (entP m d (headC m d).length m.procs) w':=by
 have a4:B<=w.heap.size:=by
  by_cases q:B<=w.heap.size
  ·exact q
  ·have:=(h.ok _ (W w.heap.size (by omega)).1).2.2
   omega
 have a7:∀own:List Bs,own.length<=1000->CnS (cnOf m d own):=fun own ho=>⟨ho,by simpa[cnOf] using Nat.le_trans r.ic (by decide),fun u e9=>by
  obtain⟨n,_,rfl⟩:=List.mem_map.1 e9
  exact hu n,by simpa[cnOf] using Nat.le_trans r.gc (by decide),by simpa[cnOf] using Nat.le_trans r.pc (by decide)⟩
 have b6:(codeC m d).length<=4000:=by have:=Tp.codeC_len r d;omega
 obtain⟨o,C⟩:∃o,o=w.alloc (.cells #[.string (bs m.name),.slice P m.imports.length Q,.slice L m.vars.length N,.slice E m.procs.length F,.slice x m.body.length y] 66):=⟨_,rfl⟩
 have G:Below w.heap.size w o:=by rw[C];exact zb _ _
 have S:o.heap[w.heap.size]?=some (.cells #[.string (bs m.name),.slice P m.imports.length Q,.slice L m.vars.length N,.slice E m.procs.length F,.slice x m.body.length y] 66 (0,0)):=by rw[C];exact zl _ _
 have h0:=h.on G
 have p0:=hp.next (Cg.below G)
 have c6:=f.on (G.mono a4)
 have hh:(headC m d).length=(cS (cnOf m d []) 0 m.body).length+1:=by simp[headC]
 have a9:=csAt_le m d 0
 rw[vK]at a9
 obtain⟨e5,b9,c0⟩:=c6.bd
 have a5:∀b,b<B->b<o.heap.size->o.heap[b]?=o.heap[b]?/\D b:=fun b f _=>⟨rfl,(W b f).1⟩
 have a3:=zh (jR (a7 [] (by simp)) _ m.body zn r.b o v [] (.slice x m.body.length y) e5 h0 (b9.mono' a5) (c0.mono a5) (by simp only[List.length_nil];omega))
 have c4:o.cell? ⟨w.heap.size,4,none⟩=some (.slice x m.body.length y):=(za S).trans rfl
 have e7:w.heap.size<o.heap.size:=zc S
 have a1:=zh S
 have HH:=zh h
 have HP:=zh hp
 have HB:=zh W
 have c8:=zh G
 have d6:=zh f
 have d0:=zh a7
 have d8:=zh p0
 have HM:=zh r
 have b3:=zh b6
 have d3:=zh hh
 have d4:=zh a9
 have e8:(m.procs.length:Int)<=10:=by have:=r.pc;omega
 have e0:Hid (∀g,v.ownBlock=some g->g<w.heap.size):=fun g hg=>h.lt hg
 have d7:Hid (s<w.heap.size):=zc h.obk
 have c9:=zh a4
 clear h hp W G S h0 p0 c6 b9 c0 a5 a7 f r hn hu b6 hh a9 a4
 obtain⟨bl,a6⟩:∃bl,bl=m.body.length:=⟨_,rfl⟩
 obtain⟨pn,b0⟩:∃pn,pn=m.procs.length:=⟨_,rfl⟩
 rw[<-a6]at a3 c4 a1 C ⊢
 rw[<-b0]at a1 e8 C ⊢
 have f9:=zh a6
 have a2:=zh b0
 clear a6 b0
 go_enter Tryz.func44,Tryz.ntmps44
 go_upto_region 1 with fail
 rw[<-C]
 clear C
 go_wp2_with fail
 refine a3.out.mono ?_
 rintro e w1⟨rfl,v1,O,g1⟩
 have b2:=zh (yA O (by have:=d3.out;have:=d4.out;have:=b3.out;simp only[List.length_append,List.length_nil];omega) 17)
 have b4:=zh (d8.out.next g1)
 have a0:=zh g1
 clear O g1 a3 c4
 go_wp2_with fail
 refine b2.out.mono ?_
 rintro e w2⟨rfl,v2,V,U⟩
 have k2:w2.heap[w.heap.size]?=some (.cells #[.string (bs m.name),.slice P m.imports.length Q,.slice L m.vars.length N,.slice E pn F,.slice x bl y] 66 (0,0)):=by
  have g:=a0.out.trans U
  exact(g.block _ e7 (by have:=d7.out;omega) (fun e=>by have:=e0.out _ e;omega)).trans a1.out
 have c3:w2.cell? ⟨w.heap.size,3,none⟩=some (.slice E pn F):=(za k2).trans rfl
 have g4:w.heap.size<w2.heap.size:=zc k2
 have d5:Hid (ModP w l s D q m d v (csAt m d 0) (esAt m d 0) w2):=by
  refine⟨[],D,q,v2,?_,?_,?_,fun _ h=>h,rfl⟩
  ·rw[vK]
   exact V
  ·rw[esAt_zero]
   exact b4.out.next U
  ·exact(Cg.below c8.out).cp.trans ((a0.out.trans U).cp)
 clear V U k2 b2 b4 a0
 go_wp2_with fail
 go_loopg [15] pn (fun k vi wr=>∃i:Nat,i<=pn/\k=pn-i/\vi=.int .i64 (i:Int)/\Hid (ModP w l s D q m d v (csAt m d i) (esAt m d i) wr))
 case atStart=>exact⟨0,by omega,by omega,rfl,d5⟩
 case round =>
  obtain⟨i,g3,hk,rfl,K⟩:=hrel
  by_cases g6:i<pn
  ·have c7:(i:Int)<(pn:Int):=by omega
   have I:i<m.procs.length:=by have:=a2.out;omega
   have b5:Below B w wr:=K.out.below HH.out HP.out HB.out
   have b8:=d6.out.on b5
   obtain⟨own,D1,q1,v1,O,p1,c1,d1,s1⟩:=K.out
   obtain⟨f7,r1,r2⟩:=b8.pr
   obtain⟨g,cap,e1,e2,e3,e4⟩:=yI r2 (by omega)
   cases e1
   obtain⟨pv,vv,bv,f8,t1,t2,t3,t4,t5⟩:=js m.procs f7 r1 i I
   obtain⟨y3,X,z3⟩:=t2.shape
   obtain⟨y4,Y,z4⟩:=t3.shape
   obtain⟨y5,Z,z5⟩:=t5.shape
   subst z3
   subst z4
   subst z5
   have z:=fun j (hj:j<6)=>(e4 (i*6+j) (by have:=a2.out;omega)).trans (t1 j hj)
   have f1:wr.cell? ⟨g,i*6,none⟩=some (.string (bs m.procs[i].name)):=z 0 (by omega)
   have f2:wr.cell? ⟨g,i*6+1,none⟩=some (.int .i64 (m.procs[i].pos:Int)):=z 1 (by omega)
   have f3:wr.cell? ⟨g,i*6+2,none⟩=some (.bool m.procs[i].seen):=z 2 (by omega)
   have f4:wr.cell? ⟨g,i*6+3,none⟩=some (.slice y3 m.procs[i].params.length X):=z 3 (by omega)
   have f5:wr.cell? ⟨g,i*6+4,none⟩=some (.slice y4 m.procs[i].vars.length Y):=z 4 (by omega)
   have f6:wr.cell? ⟨g,i*6+5,none⟩=some (.slice y5 m.procs[i].body.length Z):=z 5 (by omega)
   have g0:g<wr.heap.size:=e3
   obtain⟨A,R⟩:∃A,A=wr.alloc (.cells #[.string (bs m.procs[i].name),.int .i64 (m.procs[i].pos:Int),.bool m.procs[i].seen,.slice y3 m.procs[i].params.length X,.slice y4 m.procs[i].vars.length Y,.slice y5 m.procs[i].body.length Z] 157):=⟨_,rfl⟩
   have H:Below wr.heap.size wr A:=by rw[R];exact zb _ _
   have a8:A.heap[wr.heap.size]?=some (.cells #[.string (bs m.procs[i].name),.int .i64 (m.procs[i].pos:Int),.bool m.procs[i].seen,.slice y3 m.procs[i].params.length X,.slice y4 m.procs[i].vars.length Y,.slice y5 m.procs[i].body.length Z] 157 (0,0)):=by rw[R];exact zl _ _
   obtain⟨l0,l1,l2,l3,l4,l5⟩:=yT a8
   have g5:wr.heap.size<A.heap.size:=zc a8
   have T:=HM.out.p _ (List.getElem_mem I)
   have e6:B<=wr.heap.size:=Nat.le_trans c9.out c1.size
   have J:∀b,b<B->b<wr.heap.size->A.heap[b]?=wr.heap[b]?/\b<B:=fun b f hl=>⟨H.block b hl,f⟩
   have b1:=proc5_post (O.on H) (p1.next (Cg.below H)) f0 (ps:=m.procs[i].params) (vs:=m.procs[i].vars) (body:=m.procs[i].body) (d0.out (m.procs[i].params++m.procs[i].vars) (by have:=T.c;simp only[List.length_append];omega)) T.b (D0:=fun b=>b<B) (fun b f=>⟨d1 b (HB.out b f).1,(HB.out b f).2⟩) (nm:=bs m.procs[i].name) (at':=(m.procs[i].pos:Int)) (sn:=m.procs[i].seen) (t2.mono J) (t3.mono J) (t4.mono' J) (t5.mono J) (by have:=T.c;omega) (by have:=esAt_le m d i;have:=HM.out.pc;omega) (by
    have a:=csAt_le m d (i+1)
    have b:=b3.out
    rw[vL m d i I,List.length_append]at a
    have e:(bodyP m d (csAt m d i).length m.procs[i]).length=(cS (cnOf m d (ownOf m.procs[i])) (csAt m d i).length m.procs[i].body).length+2:=by simp[bodyP]
    have t:(csAt m d i).length+(cS (cnOf m d (ownOf m.procs[i])) (csAt m d i).length m.procs[i].body).length+2<=4000:=by omega
    exact t)
   have HC:Hid (Calls Tryz.prog 96 #[.pointer (some ⟨l,0,none⟩),.agg #[.string (bs m.procs[i].name),.int .i64 (m.procs[i].pos:Int),.bool m.procs[i].seen,.slice y3 m.procs[i].params.length X,.slice y4 m.procs[i].vars.length Y,.slice y5 m.procs[i].body.length Z]] A fun e w'=>e=.returned (.tuple #[])/\ModP w l s D q m d v (csAt m d (i+1)) (esAt m d (i+1)) w'):=by
    refine b1.mono ?_
    rintro e w4⟨rfl,D2,q2,v2,V,p2,c2,d2,s2⟩
    refine⟨rfl,m.procs[i].params++m.procs[i].vars,D2,q2,v2,?_,?_,?_,fun b f=>d2 b (d1 b f),s1.trans s2⟩
    ·rw[vL m d i I]
     exact V
    ·rw[esAt_succ m d i I]
     exact p2
    ·exact c1.trans ((Cg.below H).cp.trans c2)
   clear b1 z e4 t1 t2 t3 t4 t5 r1 r2 b8 b5 O p1 c1 d1 s1 H a8 T J e6 e2 K
   generalize bs m.procs[i].name=x0 at *
   generalize (m.procs[i].pos:Int)=x1 at *
   generalize m.procs[i].seen=x2 at *
   generalize m.procs[i].params.length=x3 at *
   generalize m.procs[i].vars.length=x4 at *
   generalize m.procs[i].body.length=x5 at *
   go_upto_region 6 with fail
   rw[<-R]
   clear R f1 f2 f3 f4 f5 f6
   go_wp2_with fail
   refine HC.out.mono ?_
   rintro e w4⟨rfl,c5⟩
   have d9:=zh c5
   clear c5 HC l0 l1 l2 l3 l4 l5
   go_wp2_with fail
   go_roundg (pn-(i+1))
   case measure=>omega
   case rel=>exact⟨i+1,by omega,rfl,by go_num,d9⟩
  ·have c7:¬(i:Int)<(pn:Int):=by omega
   have b7:i=m.procs.length:=by have:=a2.out;omega
   have HF:Hid (ModP w l s D q m d v (codeC m d) (entP m d (headC m d).length m.procs) wr):=by
    have:=K.out
    rw[b7,csAt_all,esAt_all]at this
    exact this
   clear K b7
   go_wp2_with fail
   exact ze rfl rfl ⟨rfl,HF.out⟩
end Go.Proofs.YtbkndnmglhghlaaGreatDoor

namespace Go.Proofs.YtbkndnmglhghlaaGreatDoor
open Go.RowKit Go.Maps
open Tp (Bs Sy G Pr Seen)
variable {l:List Sy}{B a i:Nat}{m:Tp.M}{c sv v vv:Value}{b d f h w w' wr:World}
def g0V (g:G):List Value:=[.string (bs g.name),.int .i64 0,.int .i64 (g.len:Int),.bool g.seen]
def g0s (l:List G):List Value:=(l.map g0V).flatten
theorem g0s_snoc (l:List G)(g:G):g0s (l++[g])=g0s l++g0V g:=by simp[g0s]
theorem Tryz.infoGlobal5:(Tryz.prog.info? 57).map (fun i=>(i.zero,i.size,i.bytes))=some (some (.agg #[.string ⟨#[]⟩,.int .i64 0,.int .i64 0,.bool false]),4,40):=by kernel_rfl
def UsN (w:World) (D:Nat->Prop) (uF:Bs->List Bs) (nd:Bs->Bs) (l:List Bs) (cs:List Value):Prop:=∀i (h:i<l.length),∃(a:Option Addr) (c:Nat),cs[i*3]?=some (.string (bs l[i]))/\cs[i*3+1]?=some (.string (bs (nd l[i])))/\cs[i*3+2]?=some (.slice a (uF l[i]).length c)/\Row w D 9 1 (.slice a (uF l[i]).length c) (uF l[i]).length (strs (uF l[i]))
theorem UsN.mono {w w':World}{D D':Nat->Prop}(n:∀b,D b->b<w.heap.size->w'.heap[b]?=w.heap[b]?/\D' b){e:Bs->List Bs}{nd:Bs->Bs}{l:List Bs}{d:List Value}(h:UsN w D e nd l d):UsN w' D' e nd l d:=fun i m=>by
 obtain⟨a,c,f,g,j,k⟩:=h i m
 exact⟨a,c,f,g,j,k.mono n⟩
theorem UsN.usr {D:Nat->Prop}{d:Bs->List Bs}{nd:Bs->Bs}{l:List Bs}{b:List Value}(h:UsN w D d nd l b):UsR w D (l.map fun n=>(n,d n)) b:=fun i k=>by
 obtain⟨a,c,e,f,g,j⟩:=h i (by simpa using k)
 refine⟨_,a,c,?_,f,?_,?_⟩
 ·simpa using e
 ·simpa using g
 ·simpa using j
theorem grown5 {e size n x:Nat}{o:World}{j:Nat}{t:Array Value}{xs s:List Value}(i:Ext a f wr)(D:a<f.heap.size)(w:wr.heap[a]?=some (.cells t 49 (0,0)))(A:wr.ownsRow f.heap.size e size v n xs)(h:Below wr.heap.size wr o)(B:d.ownsRow f.heap.size e size c x s)(k:o.grownBy d v.ownBlock) :
  Ext a f (d.setCell ⟨a,j,none⟩ c)/\(d.setCell ⟨a,j,none⟩ c).heap[a]?=some (.cells (t.setIfInBounds j c) 49 (0,0))/\(d.setCell ⟨a,j,none⟩ c).ownsRow f.heap.size e size c x s/\(∀b,b<o.heap.size->b≠a->v.ownBlock≠some b->(d.setCell ⟨a,j,none⟩ c).heap[b]?=o.heap[b]?):=by
 have r:∀g,v.ownBlock=some g->f.heap.size<=g:=fun g z=>(A.lt g z).1
 have u:∀b,b<wr.heap.size->v.ownBlock≠some b->d.heap[b]?=wr.heap[b]?:=fun b q p=>(k.block b (Nat.lt_of_lt_of_le q h.size) (fun e=>p e.symm)).trans (h.block b q)
 have y:a<wr.heap.size:=zc w
 refine⟨⟨k.os.trans (h.os.trans i.os),k.tape.trans (h.tape.trans i.tape),k.output.trans (h.output.trans i.output),by have E:=k.size;have F:=h.size;have G:=i.size;simp;omega,fun b l m=>(Below.heap_setCell _ _ _ _ (by simpa using m)).trans ((u b (Nat.lt_of_lt_of_le l i.size) (fun e=>by have:=r b e;omega)).trans (i.block b l m))⟩,?_,?_,?_⟩
 ·exact zy j c ((u a y (fun e=>by have:=r a e;omega)).trans w)
 ·exact zB B fun b C _ _=>Below.heap_setCell _ _ _ _ (by simp;omega)
 ·exact fun b l m p=>(Below.heap_setCell _ _ _ _ (by simpa using m)).trans (k.block b l (fun e=>p e.symm))
def oc5 (nm:ByteArray) (sv uv vv nv:Value):Array Value:=#[.string nm,sv,uv,vv,.slice none 0 0,nv,.slice none 0 0]
def L1 (m:Tp.M) (nd:Bs->Bs) (wM:World) (ob:Nat) (sv:Value) (i:Nat) (wr:World):Prop:=∃uv ucs,Ext ob wM wr/\wr.heap[ob]?=some (.cells (oc5 (bs m.name) sv uv (.slice none 0 0) (.slice none 0 0)) 49 (0,0))/\wr.ownsRow wM.heap.size 61 3 uv i ucs/\UsN wr (fun b=>wM.heap.size<=b) (uS m) nd (m.imports.take i) ucs
def L2 (m:Tp.M) (wM:World) (ob:Nat) (sv uv:Value) (i:Nat) (wr:World):Prop:=∃vv,Ext ob wM wr/\wr.heap[ob]?=some (.cells (oc5 (bs m.name) sv uv vv (.slice none 0 0)) 49 (0,0))/\wr.ownsRow wM.heap.size 57 4 vv i (g0s (m.vars.take i))
def L3 (m:Tp.M) (wM:World) (ob:Nat) (sv uv vv:Value) (i:Nat) (wr:World):Prop:=∃nv,Ext ob wM wr/\wr.heap[ob]?=some (.cells (oc5 (bs m.name) sv uv vv nv) 49 (0,0))/\wr.ownsRow wM.heap.size 9 1 nv i (strs ((m.procs.take i).map (·.name)))
theorem l2_next {e:Value}(k:i<m.vars.length)(g:a<b.heap.size)(o:Ext a b wr)(l:wr.heap[a]?=some (.cells (oc5 (bs m.name) sv e vv (.slice none 0 0)) 49 (0,0)))(n:wr.ownsRow b.heap.size 57 4 vv i (g0s (m.vars.take i)))
  (h:Below wr.heap.size wr f)(p:d.ownsRow b.heap.size 57 4 c (i+1) (g0s (m.vars.take i)++g0V m.vars[i]))(q:f.grownBy d vv.ownBlock):L2 m b a sv e (i+1) (d.setCell ⟨a,3,none⟩ c):=by
 obtain⟨r,s,t,u⟩:=grown5 (j:=3) o g l n h p q
 refine⟨c,r,s,?_⟩
 rw[List.take_succ_eq_append_getElem k,g0s_snoc]
 exact t
theorem l3_next {g d:Value}(n:i<m.procs.length)(k:a<b.heap.size)(q:Ext a b wr)(o:wr.heap[a]?=some (.cells (oc5 (bs m.name) sv g vv c) 49 (0,0)))(p:wr.ownsRow b.heap.size 9 1 c i (strs ((m.procs.take i).map (·.name))))
  (l:Below wr.heap.size wr h)(r:f.ownsRow b.heap.size 9 1 d (i+1) (strs ((m.procs.take i).map (·.name))++[.string (bs m.procs[i].name)]))(s:h.grownBy f c.ownBlock):L3 m b a sv g vv (i+1) (f.setCell ⟨a,5,none⟩ d):=by
 obtain⟨t,u,v,w⟩:=grown5 (j:=5) q k o p l r s
 refine⟨d,t,u,?_⟩
 rw[List.take_succ_eq_append_getElem n,List.map_append]
 have e:strs ((m.procs.take i).map (·.name)++[m.procs[i]].map (·.name))=strs ((m.procs.take i).map (·.name))++[.string (bs m.procs[i].name)]:=by simp[strs]
 rw[e]
 exact v
structure OutP (w w':World) (ob:Nat) (m:Tp.M) (S:Seen) (sv uv vv nv:Value):Prop where
 blk:w'.heap[ob]?=some (.cells (oc5 (bs m.name) sv uv vv nv) 49 (0,0))
 lo:w.heap.size<=ob
 sy:SL w' w.heap.size sv (srt (Tp.symsOf m))/\∀g,sv.ownBlock=some g->g≠ob
 us:∃ucs,Row w' (fun b=>b≠ob) 61 3 uv m.imports.length ucs/\UsN w' (fun b=>b≠ob) (uS m) (fun n=>Tp.needsS ((S n).getD []) (uS m n)) m.imports ucs
 vr:Row w' (fun b=>b≠ob) 57 4 vv m.vars.length (g0s m.vars)
 nm:Row w' (fun b=>b≠ob) 9 1 nv m.procs.length (strs (m.procs.map (·.name)))
 bl:Below w.heap.size w w'
theorem SL.other (h:SL w B v l)(e:∀g,B<=g->g<w.heap.size->v.ownBlock=some g->w'.heap[g]?=w.heap[g]?):SL w' B v l:=by
 rcases h with q|⟨g,cap,a,b,⟨⟨d,c,f⟩,i,j⟩⟩
 ·exact Or.inl q
 ·exact Or.inr ⟨g,cap,a,b,⟨⟨d,(e g b (zc c) (by rw[a];rfl)).trans c,f⟩,i,j⟩⟩
theorem SL.ownlt (h:SL w B v l){g:Nat}(a:v.ownBlock=some g):B<=g/\g<w.heap.size:=by
 rcases h with⟨rfl,_⟩|⟨g',cap,rfl,q2,⟨⟨cur,r1,r2⟩,r3,r4⟩⟩
 ·cases a
 ·cases a
  exact⟨q2,zc r1⟩
theorem outP_of {S:Seen}{e:World}{q p:Value}{i:List Value}(k:Below w.heap.size w f)(l:Below f.heap.size f d)(G:f.heap.size=a)(z:SL f w.heap.size sv (srt (Tp.symsOf m)))(F:a<d.heap.size)
  (s:Ext a d e)(B:e.ownsRow d.heap.size 61 3 q m.imports.length i)(t:UsN e (fun b=>d.heap.size<=b) (uS m) (fun n=>Tp.needsS ((S n).getD []) (uS m n)) (m.imports.take m.imports.length) i)
  (u:Ext a e h)(v:h.ownsRow e.heap.size 57 4 vv m.vars.length (g0s (m.vars.take m.vars.length)))
  (c1:Ext a h w')(c2:w'.heap[a]?=some (.cells (oc5 (bs m.name) sv q vv p) 49 (0,0)))(x:w'.ownsRow h.heap.size 9 1 p m.procs.length (strs ((m.procs.take m.procs.length).map (·.name)))):OutP w w' a m S sv q vv p:=by
 have r:w.heap.size<=a:=by have:=k.size;omega
 have j:Ext a e w':=u.trans c1
 have y:Ext a d w':=s.trans j
 have D:=s.size
 have E:=u.size
 rw[List.take_length]at t v x
 refine⟨c2,r,⟨z.other fun g _ c _=>?_,fun g C=>?_⟩,⟨i,(Row.of_owns B).mono fun b o c=>⟨j.block b c (by omega),by omega⟩,t.mono fun b o c=>⟨j.block b c (by omega),by omega⟩⟩,(Row.of_owns v).mono fun b o c=>⟨c1.block b c (by omega),by omega⟩,(Row.of_owns x).mono fun b o c=>⟨rfl,by omega⟩,?_⟩
 ·exact(y.block g (by have:=l.size;omega) (by omega)).trans (l.block g c)
 ·have:=(z.ownlt C).2
  omega
 ·have A:Below w.heap.size w d:=k.trans (l.mono k.size)
  exact A.trans (zT y r A.size)
end Go.Proofs.YtbkndnmglhghlaaGreatDoor
