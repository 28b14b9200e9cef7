import Derived.Test.YtbkndnmglhghlaaGreatDoorKMa
set_option maxRecDepth 100000
set_option maxHeartbeats 4000000

namespace Go.Proofs.YtbkndnmglhghlaaGreatDoor
open Go.RowKit
open Tp (Bs X S G Pr Cn)
open Ob (In)
variable {c:Cn}{l:List Bs}{b cap d e f g i j k m n size t x:Nat}{D:Nat->Prop}{a:Option Addr}{v:Value}{w w':World}
def inV (x:In):List Value:=[.int .i64 x.op,.int .i64 x.a,.int .i64 x.b]
def ics (l:List In):List Value:=(l.map inV).flatten
theorem xJ (l m:List In):ics (l++m)=ics l++ics m:=by simp[ics]
theorem ics_one (x:In):ics [x]=inV x:=by simp[ics]
theorem jx (x:In)(l:List In):ics (x :: l)=inV x++ics l:=by simp[ics]
theorem jB (l:List In):(ics l).length=l.length*3:=by
 induction l with
 |nil=>rfl
 |cons x l ih=>rw[jx,List.length_append,ih,List.length_cons];simp[inV];omega
theorem ics_cell (l:List In):∀u∈ics l,u.oneCell'=true:=by
 intro u a
 unfold ics at a
 obtain⟨c,b,a⟩:=List.mem_flatten.1 a
 obtain⟨g,_,rfl⟩:=List.mem_map.1 b
 simp[inV]at a
 rcases a with rfl|rfl|rfl<;>rfl
structure Cg (ob:Nat) (v:Value) (w:World) (v':Value) (w':World):Prop where
 os:w'.os=w.os
 tape:w'.tape=w.tape
 output:w'.output=w.output
 size:w.heap.size<=w'.heap.size
 block:∀b,b<w.heap.size->b≠ob->v.ownBlock≠some b->w'.heap[b]?=w.heap[b]?
 own:∀g,v'.ownBlock=some g->v.ownBlock=some g\/w.heap.size<=g
theorem Cg.refl (a:Nat)(v:Value)(w:World):Cg a v w v w:=⟨rfl,rfl,rfl,Nat.le_refl _,fun _ _ _ _=>rfl,fun _ h=>Or.inl h⟩
theorem Cg.trans {a:Nat}{i j l:Value}{m n o:World}(h:Cg a i m j n)(k:Cg a j n l o):Cg a i m l o :=
 ⟨k.os.trans h.os,k.tape.trans h.tape,k.output.trans h.output,Nat.le_trans h.size k.size,fun b c d f=>(k.block b (Nat.lt_of_lt_of_le c h.size) d (fun e=>by
  rcases h.own b e with q|q
  ·exact f q
  ·omega)).trans (h.block b c d f),fun g p=>by
  rcases k.own g p with q|q
  ·exact h.own g q
  ·exact Or.inr (Nat.le_trans h.size q)⟩
theorem Cg.below {c:Nat}(h:Below w.heap.size w w'):Cg c v w v w':=⟨h.os,h.tape,h.output,h.size,fun b a _ _=>h.block b a,fun _ q=>Or.inl q⟩
def UsR (w:World) (D:Nat->Prop) (us:List (Bs×List Bs)) (cs:List Value):Prop:=∀i (h:i<us.length),∃(nd:ByteArray) (a:Option Addr) (c:Nat),cs[i*3]?=some (.string (bs us[i].1))/\cs[i*3+1]?=some (.string nd)/\cs[i*3+2]?=some (.slice a us[i].2.length c)/\Row w D 9 1 (.slice a us[i].2.length c) us[i].2.length (strs us[i].2)
def VaR (vs:List Bs) (cs:List Value):Prop:=∀i (h:i<vs.length),∃(p l:Int) (s:Bool),cs[i*4]?=some (.string (bs vs[i]))/\cs[i*4+1]?=some (.int .i64 p)/\cs[i*4+2]?=some (.int .i64 l)/\cs[i*4+3]?=some (.bool s)
structure Oq where
 n0:ByteArray
 sa:Option Addr
 sl:Nat
 sc:Nat
 ua:Option Addr
 uc:Nat
 va:Option Addr
 vc:Nat
 pa:Option Addr
 pl:Nat
 pc:Nat
 na:Option Addr
 nc:Nat
 oa:Option Addr
 oc:Nat
def oqc (q:Oq) (c:Cn) (v:Value):Array Value:=#[.string q.n0,.slice q.sa q.sl q.sc,.slice q.ua c.uses.length q.uc,.slice q.va c.vars.length q.vc,.slice q.pa q.pl q.pc,.slice q.na c.procs.length q.nc,v]
def mcs:List Value:=Tp.marks5.map fun m=>.string (bs m)
def MkC (w:World):Prop:=∀i,i<11->w.cell? ⟨2,i,none⟩=some (mcs.getD i undef)
structure CS (w:World) (wb ob:Nat) (D:Nat->Prop) (q:Oq) (c:Cn) (v:Value) (cs:List In):Prop where
 wbk:w.heap[wb]?=some (.cells #[.pointer (some ⟨ob,0,none⟩),.slice q.oa c.own.length q.oc] 104 (0,0))
 obk:w.heap[ob]?=some (.cells (oqc q c v) 49 (0,0))
 ow:Row w D 9 1 (.slice q.oa c.own.length q.oc) c.own.length (strs c.own)
 us:∃ucs,Row w D 61 3 (.slice q.ua c.uses.length q.uc) c.uses.length ucs/\UsR w D c.uses ucs
 vr:∃vcs,Row w D 57 4 (.slice q.va c.vars.length q.vc) c.vars.length vcs/\VaR c.vars vcs
 nm:Row w D 9 1 (.slice q.na c.procs.length q.nc) c.procs.length (strs c.procs)
 cd:w.ownsRow 0 138 3 v cs.length (ics cs)
 mkc:MkC w
 dm:D 2
 dw:D wb
 ok:∀b,D b->b≠ob/\v.ownBlock≠some b/\b<w.heap.size
 nb:v.ownBlock≠some ob
theorem UsR.mono {w w':World}{D D':Nat->Prop}(m:∀b,D b->b<w.heap.size->w'.heap[b]?=w.heap[b]?/\D' b){e:List (Bs×List Bs)}{d:List Value}(h:UsR w D e d):UsR w' D' e d:=fun i l=>by
 obtain⟨nd,a,c,f,g,j,k⟩:=h i l
 exact⟨nd,a,c,f,g,j,k.mono m⟩
variable {q:Oq}
theorem CS.next {g:Value}{s cs':List In}(h:CS w j f D q c v s)(k:Cg f v w g w')(l:w'.heap[f]?=some (.cells (oqc q c g) 49 (0,0)))(t:w'.ownsRow 0 138 3 g cs'.length (ics cs'))(y:g.ownBlock≠some f):CS w' j f D q c g cs':=by
 have a:∀b,D b->b<w.heap.size->w'.heap[b]?=w.heap[b]?/\D b:=fun b d x=>⟨k.block b x (h.ok b d).1 (h.ok b d).2.1,d⟩
 obtain⟨m,u1,u2⟩:=h.us
 obtain⟨n,A,B⟩:=h.vr
 refine⟨(a j h.dw (zc h.wbk)).1.trans h.wbk,l,h.ow.mono a,⟨m,u1.mono a,u2.mono a⟩,⟨n,A.mono a,B⟩,h.nm.mono a,t,fun i u=>(World.cell?_of_block (w:=w) (a _ h.dm (h.ok _ h.dm).2.2).1).trans (h.mkc i u),h.dm,h.dw,fun b d=>?_,y⟩
 obtain⟨o,p,r⟩:=h.ok b d
 refine⟨o,fun e=>?_,Nat.lt_of_lt_of_le r k.size⟩
 rcases k.own b e with z|z
 ·exact p z
 ·omega
theorem CS.on {a:Nat}{d:List In}(h:CS w e a D q c v d)(k:Below w.heap.size w w'):CS w' e a D q c v d :=
 h.next (Cg.below k) ((k.block a (zc h.obk)).trans h.obk) (zB h.cd fun b _ f _=>k.block b f) h.nb
theorem CS.keep {f:Value}{e:List In}(h:CS w g d D q c v e)(k:Cg d v w f w'){b:Nat}(a:D b):w'.heap[b]?=w.heap[b]?:=k.block b (h.ok b a).2.2 (h.ok b a).1 (h.ok b a).2.1
theorem CS.cell {w w':World}{g a:Nat}{D:Nat->Prop}{q:Oq}{c:Cn}{v f:Value}{d:List In}(h:CS w g a D q c v d)(k:Cg a v w f w'){b:Nat}(e:D b)(j:Nat):w'.cell? ⟨b,j,none⟩=w.cell? ⟨b,j,none⟩:=World.cell?_of_block (w:=w) (h.keep k e)
theorem CS.rep {f:Value}{d:List In}(h:CS w g b D q c v d)(k:Cg b v w f w'){l:List X}{vs:List Value}(e:RepL w D l vs):RepL w' D l vs:=RepL.mono (fun _ a _=>⟨h.keep k a,a⟩) _ l vs zn e
theorem CS.reps {f:Value}{d:List In}(h:CS w g b D q c v d)(k:Cg b v w f w'){l:List S}{vs:List Value}(e:RepS w D l vs):RepS w' D l vs:=e.mono' fun _ a _=>⟨h.keep k a,a⟩
theorem CS.owns {f:Value}{d:List In}(h:CS w g b D q c v d)(k:Cg b v w f w'){u:Value}{n:Nat}{vs:List Value}(e:OwnS w D u n vs):OwnS w' D u n vs:=e.mono fun _ a _=>⟨h.keep k a,a⟩
def Laid5 (w:World) (wb ob:Nat) (D:Nat->Prop) (q:Oq) (c:Cn) (v:Value) (cs:List In) (e:Ending) (w':World):Prop:=e=.returned (.tuple #[])/\∃v',CS w' wb ob D q c v' cs/\Cg ob v w v' w'
theorem Tryz.infoInst:(Tryz.prog.info? 138).map (fun i=>(i.zero,i.size,i.bytes))=some (some (.agg #[.int .i64 0,.int .i64 0,.int .i64 0]),3,24):=by kernel_rfl
theorem yq {p:Nat}{k:List In}(h:CS w p f D q c v k)(U:k.length<4000)(x:In) :
  Calls Tryz.prog 148 #[.pointer (some ⟨p,0,none⟩),.agg #[.int .i64 x.op,.int .i64 x.a,.int .i64 x.b]] w (Laid5 w p f D q c v (k++[x])):=by
 obtain⟨i1,hi,a7,a8,a9⟩:=info_parts Tryz.infoInst
 obtain⟨l,m,rfl⟩:=z7 h.cd
 obtain⟨n,t⟩:∃n,n=k.length:=⟨_,rfl⟩
 have b4:((n:Nat):Int)<4000:=by omega
 have b5:¬((n:Nat):Int)=4000:=by omega
 obtain⟨B,M⟩:∃B,B=w.heap.size:=⟨_,rfl⟩
 obtain⟨d,H⟩:∃d,d=w.alloc (.cells #[.int .i64 x.op,.int .i64 x.a,.int .i64 x.b] 138):=⟨_,rfl⟩
 have r:Below w.heap.size w d:=by rw[H];exact zb _ _
 have C:d.heap[B]?=some (.cells #[.int .i64 x.op,.int .i64 x.a,.int .i64 x.b] 138 (0,0)):=by rw[H,M];exact zl _ _
 have I:=h.on r
 have F:=I.wbk
 have E:d.heap[f]?=some (.cells #[.string q.n0,.slice q.sa q.sl q.sc,.slice q.ua c.uses.length q.uc,.slice q.va c.vars.length q.vc,.slice q.pa q.pl q.pc,.slice q.na c.procs.length q.nc,.slice l n m] 49 (0,0)):=by have:=I.obk;unfold oqc at this;rw[t];exact this
 have K:d.ownsRow 0 138 3 (.slice l n m) n (ics k):=by rw[t];exact I.cd
 have HH:=zh h
 have b0:=zh r
 have k0:d.cell? ⟨p,0,none⟩=some (.pointer (some ⟨f,0,none⟩)):=za F
 have k6:d.cell? ⟨f,6,none⟩=some (.slice l n m):=za E
 have x0:d.cell? ⟨B,0,none⟩=some (.int .i64 x.op):=za C
 have x1:d.cell? ⟨B,1,none⟩=some (.int .i64 x.a):=za C
 have x2:d.cell? ⟨B,2,none⟩=some (.int .i64 x.b):=za C
 have S:=zc F
 have R:=zc E
 have b7:=zc C
 have b9:∀o,(d.alloc o).cell? ⟨p,0,none⟩=some (.pointer (some ⟨f,0,none⟩)):=fun o=>(World.cell?_of_block (w:=d) (Below.heap_alloc _ _ _ S)).trans k0
 have c0:∀o,(d.alloc o).cell? ⟨f,6,none⟩=some (.slice l n m):=fun o=>(World.cell?_of_block (w:=d) (Below.heap_alloc _ _ _ R)).trans k6
 have a1:Hid (∀o,(d.alloc o).ownsRow 0 138 3 (.slice l n m) n (ics k)):=fun o=>zB K (fun b _ U _=>Below.heap_alloc _ _ _ U)
 have P:Hid ((Value.slice l n m).ownBlock≠some f):=by have:=h.nb;rw[<-t]at this;exact this
 have Z:Hid ((Value.slice l n m).ownBlock≠some p):=by have:=(h.ok p h.dw).2.1;rw[<-t]at this;exact this
 have b3:Hid (p≠f):=(h.ok p h.dw).1
 have a0:=zh E
 have a2:=zh F
 have b1:=zh K
 have Y:Hid (∀(i:World) (s:Value),i.heap[f]?=some (.cells #[.string q.n0,.slice q.sa q.sl q.sc,.slice q.ua c.uses.length q.uc,.slice q.va c.vars.length q.vc,.slice q.pa q.pl q.pc,.slice q.na c.procs.length q.nc,.slice l n m] 49 (0,0))->i.os=d.os->i.tape=d.tape->i.output=d.output->d.heap.size<=i.heap.size->(∀b,b<d.heap.size->(Value.slice l n m).ownBlock≠some b->i.heap[b]?=d.heap[b]?)->i.ownsRow 0 138 3 s (n+1) (ics k++inV x)->(∀g,s.ownBlock=some g->(Value.slice l n m).ownBlock=some g\/d.heap.size<=g)->Laid5 w p f D q c (.slice l k.length m) (k++[x]) (.returned (.tuple #[])) (i.setCell ⟨f,6,none⟩ s)):=fun i s A o1 o2 o3 o4 a4 r1 X=>by
  have G:s.ownBlock≠some f:=fun e=>by
   rcases X f e with z|z
   ·exact P.out z
   ·omega
  have Q:Cg f (.slice l k.length m) w s (i.setCell ⟨f,6,none⟩ s):=by
   rw[<-t]
   refine⟨o1.trans r.os,o2.trans r.tape,o3.trans r.output,?_,fun b J L ho=>?_,fun g N=>?_⟩
   ·have:=r.size
    simp
    omega
   ·rw[Below.heap_setCell _ _ _ _ (by simpa using L)]
    exact(a4 b (Nat.lt_of_lt_of_le J r.size) ho).trans (r.block b J)
   ·rcases X g N with z|z
    ·exact Or.inl z
    ·exact Or.inr (by have:=r.size;omega)
  refine⟨rfl,s,h.next Q ?_ ?_ G,Q⟩
  ·have:=zy 6 s A
   rw[this]
   unfold oqc
   rfl
  ·have e1:(k++[x]).length=n+1:=by rw[t];simp
   rw[e1,xJ,ics_one]
   exact zB r1 (fun b _ _ a5=>Below.heap_setCell _ _ _ _ (by simpa using fun e:b=f=>G (e ▸ a5)))
 have b2:Hid ((ics k).length=n*3/\∀u∈ics k,u.oneCell'=true):=⟨by rw[t];exact jB k,ics_cell k⟩
 have b8:n<=4000:=by omega
 rw[<-t]at *
 clear h I r F E K C
 generalize a6:ics k=ss at *
 clear a6
 go_enter Tryz.func148,Tryz.ntmps148
 go_upto_region 1 with fail
 rw[<-H,<-M]
 clear H M
 go_upto_region 3 with fail
 go_region_law (first|(refine zE rfl (.tmp 24) (.tmp 26) 47 rfl 0 138 i1 (.agg #[.int .i64 0,.int .i64 0,.int .i64 0]) 3 24 Tryz.underlying47 hi a7 a8 a9 rfl (by decide) (.slice l n m) n ss (by simp[Act.eval]) ?hown ⟨d.heap.size,0,none⟩ 1 1 [.int .i64 x.op,.int .i64 x.a,.int .i64 x.b] (by simp[Act.eval]) rfl ?news (by intro u V;simp at V;rcases V with rfl|rfl|rfl<;>rfl) (by unfold maxLen;omega) (by omega) (by omega) ?_;(case hown=>exact a1.out _);(case news=>(intro j u T;rw[Addr.add_lit];first|exact((za (zl d _)).trans (by simpa using T))|exact((za (zl d.drew _)).trans (by simpa using T))));intro c1 i O y W;obtain⟨a3,c3,G⟩:=z7 O;subst G;have A:i.heap[f]?=some (.cells #[.string q.n0,.slice q.sa q.sl q.sc,.slice q.ua c.uses.length q.uc,.slice q.va c.vars.length q.vc,.slice q.pa q.pl q.pc,.slice q.na c.procs.length q.nc,.slice l n m] 49 (0,0)):=(y.block f (by simp;omega) (fun e=>P.out e.symm)).trans ((Below.heap_alloc d _ f R).trans a0.out);have m3:i.cell? ⟨p,0,none⟩=some (.pointer (some ⟨f,0,none⟩)):=za ((y.block p (by simp;omega) (fun e=>Z.out e.symm)).trans ((Below.heap_alloc d _ p S).trans a2.out));have n3:i.cell? ⟨f,6,none⟩=some (.slice l n m):=za A;have z3:i.frozen? ⟨f,6,none⟩=false:=zi A;have b6:f<i.heap.size:=zc A;have HF:=zh (Y.out i _ A y.os y.tape y.output (by have:=y.size;simp at this;omega) (fun b J L=>(y.block b (by simp;omega) (fun e=>L e.symm)).trans (Below.heap_alloc d _ b J)) O (fun g N=>(W g N).elim Or.inl (fun z=>Or.inr (by simp at z;omega))));clear O y W A))
 all_goals exact ze rfl rfl HF.out
theorem yA {a:List In}(h:CS w b f D q c v a)(j:a.length<4000)(op:Int) :
  Calls Tryz.prog 95 #[.pointer (some ⟨b,0,none⟩),.int .i64 op] w (Laid5 w b f D q c v (a++[⟨op,0,0⟩])):=by
 have i:=zh (yq h j ⟨op,0,0⟩)
 clear h
 go_enter Tryz.func95,Tryz.ntmps95
 go_wp2_with fail
 refine i.out.mono ?_
 rintro e k⟨rfl,d⟩
 have g:=zh d
 clear d
 go_wp2_with fail
 go_end0
 exact⟨rfl,g.out⟩
theorem km {a:List In}(h:CS w b f D q c v a)(j:a.length<4000)(n:Int) :
  Calls Tryz.prog 150 #[.pointer (some ⟨b,0,none⟩),.int .i64 n] w (Laid5 w b f D q c v (a++[⟨1,n,0⟩])):=by
 have i:=zh (yq h j ⟨1,n,0⟩)
 clear h
 go_enter Tryz.func150,Tryz.ntmps150
 go_wp2_with fail
 refine i.out.mono ?_
 rintro e k⟨rfl,d⟩
 have g:=zh d
 clear d
 go_wp2_with fail
 go_end0
 exact⟨rfl,g.out⟩
theorem yw {a:List In}(h:CS w f d D q c v a)(x:a.length<4000)(op:Int) :
  Calls Tryz.prog 200 #[.pointer (some ⟨f,0,none⟩),.int .i64 op] w fun e w'=>e=.returned (.int .i64 (a.length:Int))/\∃v',CS w' f d D q c v' (a++[⟨op,0,0⟩])/\Cg d v w v' w':=by
 have r:=zh (yA h x op)
 have m:((a.length:Nat):Int)<4000:=by omega
 clear h
 go_enter Tryz.func200,Tryz.ntmps200
 go_wp2_with fail
 refine r.out.mono ?_
 rintro e l⟨rfl,B,b,j⟩
 obtain⟨t,u,rfl⟩:=z7 b.cd
 have A:l.cell? ⟨f,0,none⟩=some (.pointer (some ⟨d,0,none⟩)):=za b.wbk
 have k:l.cell? ⟨d,6,none⟩=some (.slice t (a++[(⟨op,0,0⟩:In)]).length u):=za b.obk
 have i:(a++[(⟨op,0,0⟩:In)]).length=a.length+1:=by simp
 rw[i]at k
 have z:=zc b.wbk
 have y:=zc b.obk
 have o:=zh b
 have p:=zh j
 clear b j i
 obtain⟨n,g⟩:∃n,n=a.length:=⟨_,rfl⟩
 rw[<-g]at k m
 have s:=zh g
 clear g
 go_wp2_with fail
 go_ret
 refine⟨?_,_,o.out,p.out⟩
 rw[<-s.out]
 rfl
theorem ics_set (p r:List In)(x:In)(a:Int):ics (p++⟨x.op,a,x.b⟩ :: r)=(ics (p++x :: r)).set (p.length*3+1) (.int .i64 a):=by
 rw[xJ,xJ,jx,jx,List.set_append_right _ _ (by rw[jB];omega),jB]
 congr 1
 rw[show p.length*3+1-p.length*3=1 by omega]
 rfl
theorem owns_set {a:Nat}{xs:List Value}{u:Value}(h:w.ownsRow a e size (.slice (some ⟨g,0,none⟩) n cap) n xs)(_hj:j<n*size)(_hs:0<n):(w.setCell ⟨g,j,none⟩ u).ownsRow a e size (.slice (some ⟨g,0,none⟩) n cap) n (xs.set j u):=by
 refine⟨by rw[List.length_set];exact h.1,?_⟩
 rcases h.2 with⟨q,_⟩|⟨g',cap',cur,e1,q1,q2,q3,q4,q5,q6⟩
 ·cases q
 ·cases e1
  refine Or.inr ⟨g,cap,cur.setIfInBounds j u,rfl,q1,zy j u q2,q3,q4,by simpa using q5,?_⟩
  rw[Array.toList_setIfInBounds,<-q6,List.take_set]
theorem land5_post {p r:List In}{x:In}(h:CS w k f D q c v (p++x :: r))(Q:(p++x :: r).length<=4000) :
  Calls Tryz.prog 201 #[.pointer (some ⟨k,0,none⟩),.int .i64 (p.length:Int)] w (Laid5 w k f D q c v (p++⟨x.op,((p++x :: r).length:Int),x.b⟩ :: r)):=by
 obtain⟨n,d⟩:∃n,n=(p++x :: r).length:=⟨_,rfl⟩
 obtain⟨i,l⟩:∃i,i=p.length:=⟨_,rfl⟩
 have I:i<n:=by rw[l,d];simp
 obtain⟨g,cap,j,rfl,A,m,B,C,E,s⟩:∃g cap j,v=.slice (some ⟨g,0,none⟩) n cap/\0<=g/\w.heap[g]?=some (.cells j 138 (0,0))/\n<=cap/\cap<=maxLen/\j.size=cap*3/\j.toList.take (n*3)=ics (p++x :: r):=by
  rcases h.cd.2 with⟨_,q0⟩|⟨g,cap,j,q0,q1,q2,q3,q4,q5,q6⟩
  ·omega
  ·exact⟨g,cap,j,by rw[d];exact q0,q1,q2,by rw[d];exact q3,q4,q5,by rw[d];exact q6⟩
 have R:w.cell? ⟨k,0,none⟩=some (.pointer (some ⟨f,0,none⟩)):=za h.wbk
 have S:w.cell? ⟨f,6,none⟩=some (.slice (some ⟨g,0,none⟩) n cap):=za h.obk
 have T:w.cell? ⟨g,i*3+1,none⟩=some (.int .i64 x.a):=by
  rw[za m,<-Array.getElem?_toList]
  have e:(j.toList.take (n*3))[i*3+1]?=(ics (p++x :: r))[i*3+1]?:=by rw[s]
  rw[List.getElem?_take_of_lt (by omega)]at e
  rw[e,xJ,jx,List.getElem?_append_right (by rw[jB];omega),jB,l]
  rw[show p.length*3+1-p.length*3=1 by omega]
  rfl
 have U:w.frozen? ⟨g,i*3+1,none⟩=false:=zi m
 have L:=zc h.wbk
 have K:=zc h.obk
 have J:=zc m
 have G:(i:Int)<(n:Int):=by omega
 have M:(n:Int)<=4000:=by omega
 have u:g≠f:=fun e=>h.nb (by rw[e];rfl)
 have H:g≠k:=fun e=>(h.ok k h.dw).2.1 (by rw[e];rfl)
 have y:Hid (Laid5 w k f D q c (.slice (some ⟨g,0,none⟩) n cap) (p++⟨x.op,(n:Int),x.b⟩ :: r) (.returned (.tuple #[])) (w.setCell ⟨g,i*3+1,none⟩ (.int .i64 (n:Int))).drew):=by
  have o:=h.cd
  rw[<-d]at o
  have t:Cg f (.slice (some ⟨g,0,none⟩) n cap) w (.slice (some ⟨g,0,none⟩) n cap) (w.setCell ⟨g,i*3+1,none⟩ (.int .i64 (n:Int))).drew:=by
   refine⟨rfl,?_,rfl,?_,fun b P N F=>?_,fun _ q=>Or.inl q⟩
   ·simp
   ·simp
   ·exact Below.heap_setCell _ _ _ _ (by simpa using fun e:b=g=>F (by rw[e];rfl))
  refine⟨rfl,_,h.next t ?_ ?_ h.nb,t⟩
  ·exact(Below.heap_setCell _ _ _ _ (by simpa using fun e:f=g=>u e.symm)).trans h.obk
  ·have z:(p++(⟨x.op,(n:Int),x.b⟩:In) :: r).length=n:=by rw[d];simp
   rw[z,ics_set p r x,<-l]
   exact owns_set o (by omega) (by omega)
 rw[<-d,<-l]
 have O:=zh h
 clear h A m B C E s d l
 go_enter Tryz.func201,Tryz.ntmps201
 go_wp2_with fail
 go_region
 all_goals go_wp2_with fail
 all_goals exact ze rfl rfl y.out
theorem idx_at {n:Bs}(b:i<l.length)(h:l[i]=n)(a:∀k (hk:k<l.length),k<i->l[k]≠n):Tp.idx l n=(i:Int):=by
 unfold Tp.idx
 have:l.findIdx? (fun s=>s==n)=some i:=by
  rw[List.findIdx?_eq_some_iff_getElem]
  exact⟨b,by simpa using h,fun j c=>by simpa using a j (by omega) c⟩
 rw[this]
theorem idx_no {n:Bs}(a:∀k (hk:k<l.length),l[k]≠n):Tp.idx l n=-1:=by
 unfold Tp.idx
 have:l.findIdx? (fun s=>s==n)=none:=by
  rw[List.findIdx?_eq_none_iff]
  intro x c
  obtain⟨j,b,rfl⟩:=List.getElem_of_mem c
  have:=a j b
  simpa using this
 rw[this]
theorem row_str {c:Nat}(h:Row w D 9 1 (.slice a n c) l.length (strs l))(i:Nat)(b:i<l.length):∃g,a=some ⟨g,0,none⟩/\g<w.heap.size/\w.cell? ⟨g,i,none⟩=some (.string (bs l[i])):=by
 rcases h with⟨_,q,_⟩|⟨g,cap,cur,q0,q1,q2,q3,q4,q5,q6⟩
 ·omega
 ·cases q0
  refine⟨g,rfl,zc q2,?_⟩
  have e:(strs l)[i]?=some (.string (bs l[i])):=by simp[strs,b]
  rw[za q2,<-Array.getElem?_toList,<-e,<-q6,List.getElem?_take_of_lt (by omega)]
theorem yF (r:Row w D 9 1 (.slice a l.length cap) l.length (strs l))(H:l.length<=1000000)(x:Bs) :
  Calls Tryz.prog 98 #[.slice a l.length cap,.string (bs x)] w fun e w'=>e=.returned (.int .i64 (Tp.idx l x))/\w'=w:=by
 have v:(l.length:Int)<=1000000:=by omega
 have t:=zh r
 clear r
 obtain⟨b,j⟩:∃b,b=l.length:=⟨_,rfl⟩
 rw[<-j]at v ⊢
 have o:=zh j
 clear j
 go_enter Tryz.func98,Tryz.ntmps98
 go_wp2_with fail
 go_loopg [8] b (fun k B wr=>∃i:Nat,i<=b/\k=b-i/\B=.int .i64 (i:Int)/\Hid (∀k (c:k<l.length),k<i->l[k]≠x)/\wr=w)
 case atStart=>exact⟨0,by omega,by omega,rfl,fun k _ h=>by omega,rfl⟩
 case round =>
  obtain⟨i,E,c,rfl,n,rfl⟩:=hrel
  by_cases F:i<b
  ·have s:(i:Int)<(b:Int):=by omega
   have p:i<l.length:=by have:=o.out;omega
   obtain⟨g,rfl,C,G⟩:=row_str t.out i p
   obtain⟨d,hd⟩:∃d,((bs x).toList==(bs l[i]).toList)=d:=⟨_,rfl⟩
   have u:((bs l[i]).toList==(bs x).toList)=d:=by
    rw[<-hd,Bool.eq_iff_iff,beq_iff_eq,beq_iff_eq]
    exact eq_comm
   have f:Hid (d=true↔l[i]=x):=by
    show _↔_
    rw[<-u,zk,zk,beq_iff_eq]
   cases d with
   |true =>
    have m:Hid (Tp.idx l x=(i:Int)):=idx_at p (f.out.1 rfl) n.out
    clear f
    generalize bs l[i]=y at *
    go_wp2_with fail
    go_ret
    exact⟨congrArg (fun z=>Ending.returned (Value.int .i64 z)) m.out.symm,rfl⟩
   |false =>
    have A:Hid (∀k (c:k<l.length),k<i+1->l[k]≠x):=fun k c h=>by
     by_cases e:k=i
     ·subst e;intro q;have:=f.out.2 q;cases this
     ·exact n.out k c (by omega)
    clear f
    generalize bs l[i]=y at *
    go_wp2_with fail
    go_roundg (b-(i+1))
    case measure=>omega
    case rel=>exact⟨i+1,by omega,rfl,by go_num,A,rfl⟩
  ·have s:¬(i:Int)<(b:Int):=by omega
   have m:Hid (Tp.idx l x=-1):=idx_no fun k c=>n.out k c (by have:=o.out;omega)
   go_wp2_with fail
   go_ret
   exact⟨congrArg (fun z=>Ending.returned (Value.int .i64 z)) m.out.symm,rfl⟩
def uidx (us:List (Bs×List Bs)) (md:Bs):Int:=match us.findIdx? (fun u=>u.1==md) with
 |some i=>(i:Int)
 |none=>-1
theorem uidx_at {a:List (Bs×List Bs)}{b:Bs}(d:i<a.length)(h:a[i].1=b)(c:∀k (hk:k<a.length),k<i->a[k].1≠b):a.findIdx? (fun u=>u.1==b)=some i:=by
 rw[List.findIdx?_eq_some_iff_getElem]
 exact⟨d,by simpa using h,fun j e=>by simpa using c j (by omega) e⟩
theorem uidx_no {a:List (Bs×List Bs)}{b:Bs}(c:∀k (hk:k<a.length),a[k].1≠b):a.findIdx? (fun u=>u.1==b)=none:=by
 rw[List.findIdx?_eq_none_iff]
 intro x e
 obtain⟨j,d,rfl⟩:=List.getElem_of_mem e
 have:=c j d
 simpa using this
theorem uh {n j nd:ByteArray}{sv:Option Addr}{sl sc:Nat}(h:w.cell? ⟨f,0,none⟩=some (.pointer (some ⟨x,0,none⟩)))(i:w.cell? ⟨x,3,none⟩=some (.string j)) :
  Calls Tryz.prog 223 #[.agg #[.string n,.string nd,.slice sv sl sc],.pointer (some ⟨f,0,none⟩)] w fun e w'=>e=.returned (.bool (n.toList==j.toList))/\Below w.heap.size w w':=by
 obtain⟨a,d⟩:∃a,a=w.alloc (.cells #[.string n,.string nd,.slice sv sl sc] 61):=⟨_,rfl⟩
 obtain⟨b,g⟩:∃b,b=w.heap.size:=⟨_,rfl⟩
 have c:Below w.heap.size w a:=by rw[d];exact zb _ _
 have k:a.heap[b]?=some (.cells #[.string n,.string nd,.slice sv sl sc] 61 (0,0)):=by rw[d,g];exact zl _ _
 have m:a.cell? ⟨b,0,none⟩=some (.string n):=za k
 have o:a.cell? ⟨f,0,none⟩=some (.pointer (some ⟨x,0,none⟩)):=(c.cell (p:=⟨f,0,none⟩) (zg h)).trans h
 have r:a.cell? ⟨x,3,none⟩=some (.string j):=(c.cell (p:=⟨x,3,none⟩) (zg i)).trans i
 have s:=zg m
 have t:=zg o
 have u:=zg r
 have l:Hid (∀q,Below w.heap.size w (a.drewN q)):=fun q=>below_drewN c q
 clear c k h i
 go_enter Tryz.func223,Tryz.ntmps223
 go_upto_region 1 with fail
 rw[<-d,<-g]
 clear d g
 go_quiet (fail)
 go_wp2_with fail
 go_ret
 exact⟨rfl,l.out _⟩
theorem jK {n nm:ByteArray}{p l:Int}{s:Bool}(h:w.cell? ⟨d,0,none⟩=some (.string nm)) :
  Calls Tryz.prog 217 #[.agg #[.string n,.int .i64 p,.int .i64 l,.bool s],.pointer (some ⟨d,0,none⟩)] w fun e w'=>e=.returned (.bool (n.toList==nm.toList))/\Below w.heap.size w w':=by
 obtain⟨a,c⟩:∃a,a=w.alloc (.cells #[.string n,.int .i64 p,.int .i64 l,.bool s] 57):=⟨_,rfl⟩
 obtain⟨b,g⟩:∃b,b=w.heap.size:=⟨_,rfl⟩
 have f:Below w.heap.size w a:=by rw[c];exact zb _ _
 have i:a.heap[b]?=some (.cells #[.string n,.int .i64 p,.int .i64 l,.bool s] 57 (0,0)):=by rw[c,g];exact zl _ _
 have k:a.cell? ⟨b,0,none⟩=some (.string n):=za i
 have m:a.cell? ⟨d,0,none⟩=some (.string nm):=(f.cell (p:=⟨d,0,none⟩) (zg h)).trans h
 have o:=zg k
 have q:=zg m
 have j:=zh f
 clear f i h
 go_enter Tryz.func217,Tryz.ntmps217
 go_upto_region 1 with fail
 rw[<-c,<-g]
 clear c g
 go_wp2_with fail
 go_ret
 exact⟨rfl,j.out⟩
theorem row_at {c:Nat}{b:List Value}(h:Row w D e size (.slice a n c) n b)(f:0<n):∃g,a=some ⟨g,0,none⟩/\g<w.heap.size/\∀k,k<n*size->w.cell? ⟨g,k,none⟩=b[k]?:=by
 rcases h with⟨_,q,_⟩|⟨g,cap,cur,q0,q1,q2,q3,q4,q5,q6⟩
 ·omega
 ·cases q0
  exact⟨g,rfl,zc q2,fun k d=>by rw[za q2,<-Array.getElem?_toList,<-q6,List.getElem?_take_of_lt d]⟩
theorem xG {b:List (Bs×List Bs)}{E:List Value}(N:Row w D 61 3 (.slice a b.length cap) b.length E)(O:UsR w D b E)(hn:b.length<=1000000){j:Bs}(P:w.cell? ⟨t,0,none⟩=some (.pointer (some ⟨x,0,none⟩)))(Q:w.cell? ⟨x,3,none⟩=some (.string (bs j))) :
  Calls Tryz.prog 34 #[.slice a b.length cap,.func (.func 223) #[] #[.pointer (some ⟨t,0,none⟩)]] w fun e w'=>e=.returned (.int .i64 (uidx b j))/\Below w.heap.size w w':=by
 have W:(b.length:Int)<=1000000:=by omega
 have Y:=zh N
 have Z:=zh O
 have H:=zh P
 have I:=zh Q
 clear N O P Q
 obtain⟨c,o⟩:∃c,c=b.length:=⟨_,rfl⟩
 have v:=zh o
 rw[<-o]at W ⊢
 clear o
 go_enter Tryz.func34,Tryz.ntmps34
 go_wp2_with fail
 go_loopg [8] c (fun k vi wr=>∃i:Nat,i<=c/\k=c-i/\vi=.int .i64 (i:Int)/\Hid (∀k (f:k<b.length),k<i->b[k].1≠j)/\Hid (Below w.heap.size w wr))
 case atStart=>exact⟨0,by omega,by omega,rfl,fun k _ h=>by omega,Below.refl _ _⟩
 case round =>
  obtain⟨i,a0,f,rfl,s,l⟩:=hrel
  by_cases a1:i<c
  ·have T:(i:Int)<(c:Int):=by omega
   have C:i<b.length:=by have:=v.out;omega
   obtain⟨g,rfl,U,u⟩:=row_at Y.out (by omega)
   obtain⟨nd,R,S,K,L,M,_⟩:=Z.out i C
   have m:=fun k (f:k<b.length*3)=>(l.out.cell (p:=⟨g,k,none⟩) U).trans (u k f)
   have J:wr.cell? ⟨g,i*3,none⟩=some (.string (bs b[i].1)):=(m _ (by omega)).trans K
   have c1:wr.cell? ⟨g,i*3+1,none⟩=some (.string nd):=(m _ (by omega)).trans L
   have c2:wr.cell? ⟨g,i*3+2,none⟩=some (.slice R b[i].2.length S):=(m _ (by omega)).trans M
   have V:=zg J
   have F:=zh (uh (n:=bs b[i].1) (nd:=nd) (sv:=R) (sl:=b[i].2.length) (sc:=S) ((l.out.cell (p:=⟨t,0,none⟩) (zg H.out)).trans H.out) ((l.out.cell (p:=⟨x,3,none⟩) (zg I.out)).trans I.out))
   obtain⟨d,hd⟩:∃d,((bs b[i].1).toList==(bs j).toList)=d:=⟨_,rfl⟩
   have G:Hid (d=true↔b[i].1=j):=by
    show _↔_
    rw[<-hd,zk,zk,beq_iff_eq]
   rw[hd]at F
   clear hd m u K L M
   generalize bs b[i].1=y at *
   generalize b[i].2.length=yl at *
   go_wp2_with fail
   refine F.out.mono ?_
   rintro e w3⟨rfl,B⟩
   have A:Hid (Below w.heap.size w w3):=l.out.trans (B.mono l.out.size)
   clear B J c1 c2 V
   cases d with
   |true =>
    have r:Hid (uidx b j=(i:Int)):=by show _=_;unfold uidx;rw[uidx_at C (G.out.1 rfl) s.out]
    go_wp2_with fail
    go_ret
    exact⟨congrArg (fun z=>Ending.returned (Value.int .i64 z)) r.out.symm,A.out⟩
   |false =>
    have X:Hid (∀k (f:k<b.length),k<i+1->b[k].1≠j):=fun k f h=>by
     by_cases e:k=i
     ·subst e;intro q;have:=G.out.2 q;cases this
     ·exact s.out k f (by omega)
    go_wp2_with fail
    go_roundg (c-(i+1))
    case measure=>omega
    case rel=>exact⟨i+1,by omega,rfl,by go_num,X,A⟩
  ·have T:¬(i:Int)<(c:Int):=by omega
   have r:Hid (uidx b j=-1):=by show _=_;unfold uidx;rw[uidx_no fun k f=>s.out k f (by have:=v.out;omega)]
   go_wp2_with fail
   go_ret
   exact⟨congrArg (fun z=>Ending.returned (Value.int .i64 z)) r.out.symm,l.out⟩
theorem xF {vs:List Bs}{C:List Value}(M:Row w D 57 4 (.slice a vs.length cap) vs.length C)(N:VaR vs C)(hn:vs.length<=1000000){nm:Bs}(O:w.cell? ⟨t,0,none⟩=some (.string (bs nm))) :
  Calls Tryz.prog 33 #[.slice a vs.length cap,.func (.func 217) #[] #[.pointer (some ⟨t,0,none⟩)]] w fun e w'=>e=.returned (.int .i64 (Tp.idx vs nm))/\Below w.heap.size w w':=by
 have S:(vs.length:Int)<=1000000:=by omega
 have U:=zh M
 have V:=zh N
 have G:=zh O
 clear M N O
 obtain⟨b,m⟩:∃b,b=vs.length:=⟨_,rfl⟩
 have v:=zh m
 rw[<-m]at S ⊢
 clear m
 go_enter Tryz.func33,Tryz.ntmps33
 go_wp2_with fail
 go_loopg [8] b (fun k X wr=>∃i:Nat,i<=b/\k=b-i/\X=.int .i64 (i:Int)/\Hid (∀k (c:k<vs.length),k<i->vs[k]≠nm)/\Hid (Below w.heap.size w wr))
 case atStart=>exact⟨0,by omega,by omega,rfl,fun k _ h=>by omega,Below.refl _ _⟩
 case round =>
  obtain⟨i,Z,c,rfl,r,f⟩:=hrel
  by_cases a0:i<b
  ·have P:(i:Int)<(b:Int):=by omega
   have B:i<vs.length:=by have:=v.out;omega
   obtain⟨g,rfl,Q,u⟩:=row_at U.out (by omega)
   obtain⟨p,l,s,I,J,K,L⟩:=V.out i B
   have j:=fun k (c:k<vs.length*4)=>(f.out.cell (p:=⟨g,k,none⟩) Q).trans (u k c)
   have H:wr.cell? ⟨g,i*4,none⟩=some (.string (bs vs[i])):=(j _ (by omega)).trans I
   have c1:wr.cell? ⟨g,i*4+1,none⟩=some (.int .i64 p):=(j _ (by omega)).trans J
   have c2:wr.cell? ⟨g,i*4+2,none⟩=some (.int .i64 l):=(j _ (by omega)).trans K
   have W:wr.cell? ⟨g,i*4+3,none⟩=some (.bool s):=(j _ (by omega)).trans L
   have R:=zg H
   have E:=zh (jK (n:=bs vs[i]) (p:=p) (l:=l) (s:=s) ((f.out.cell (p:=⟨t,0,none⟩) (zg G.out)).trans G.out))
   obtain⟨d,hd⟩:∃d,((bs vs[i]).toList==(bs nm).toList)=d:=⟨_,rfl⟩
   have F:Hid (d=true↔vs[i]=nm):=by
    show _↔_
    rw[<-hd,zk,zk,beq_iff_eq]
   rw[hd]at E
   clear hd j u I J K L
   generalize bs vs[i]=y at *
   go_wp2_with fail
   refine E.out.mono ?_
   rintro e Y⟨rfl,A⟩
   have x:Hid (Below w.heap.size w Y):=f.out.trans (A.mono f.out.size)
   clear A H c1 c2 W R
   cases d with
   |true =>
    have o:Hid (Tp.idx vs nm=(i:Int)):=idx_at B (F.out.1 rfl) r.out
    go_wp2_with fail
    go_ret
    exact⟨congrArg (fun z=>Ending.returned (Value.int .i64 z)) o.out.symm,x.out⟩
   |false =>
    have T:Hid (∀k (c:k<vs.length),k<i+1->vs[k]≠nm):=fun k c h=>by
     by_cases e:k=i
     ·subst e;intro q;have:=F.out.2 q;cases this
     ·exact r.out k c (by omega)
    go_wp2_with fail
    go_roundg (b-(i+1))
    case measure=>omega
    case rel=>exact⟨i+1,by omega,rfl,by go_num,T,x⟩
  ·have P:¬(i:Int)<(b:Int):=by omega
   have o:Hid (Tp.idx vs nm=-1):=idx_no fun k c=>r.out k c (by have:=v.out;omega)
   go_wp2_with fail
   go_ret
   exact⟨congrArg (fun z=>Ending.returned (Value.int .i64 z)) o.out.symm,f.out⟩
theorem Laid5.from {d:World}{a:List In}{e:Ending}(k:Below w.heap.size w d)(h:Laid5 d f b D q c v a e w'):Laid5 w f b D q c v a e w':=by
 obtain⟨g,l,i,j⟩:=h
 exact⟨g,l,i,(Cg.below k).trans j⟩
theorem Laid5.then {f:World}{a:Nat}{d:Value}{b:List In}{e:Ending}(l:Cg a v w d f)(h:Laid5 f g a D q c d b e w'):Laid5 w g a D q c v b e w':=by
 obtain⟨i,m,j,k⟩:=h
 exact⟨i,m,j,l.trans k⟩
structure CnS (c:Cn):Prop where
 o:c.own.length<=1000
 u:c.uses.length<=1000
 n:∀u∈c.uses,u.2.length<=1000
 v:c.vars.length<=1000
 p:c.procs.length<=1000
theorem yM {l:Nat}{t:List In}(h:CS w l k D q c v t)(u:CnS c)(nm:Bs) :
  Calls Tryz.prog 199 #[.pointer (some ⟨l,0,none⟩),.string (bs nm)] w fun e w'=>e=.returned (.int .i64 (Tp.idx c.vars nm))/\Below w.heap.size w w':=by
 obtain⟨d,f⟩:∃d,d=w.alloc (.cells #[.string (bs nm)] 9):=⟨_,rfl⟩
 obtain⟨b,i⟩:∃b,b=w.heap.size:=⟨_,rfl⟩
 have g:Below w.heap.size w d:=by rw[f];exact zb _ _
 have j:d.heap[b]?=some (.cells #[.string (bs nm)] 9 (0,0)):=by rw[f,i];exact zl _ _
 have a:=h.on g
 obtain⟨B,o,p⟩:=a.vr
 have s:=zh (xF o p (by have:=u.v;omega) (za j))
 have C:d.cell? ⟨l,0,none⟩=some (.pointer (some ⟨k,0,none⟩)):=za a.wbk
 have E:d.cell? ⟨k,3,none⟩=some (.slice q.va c.vars.length q.vc):=za a.obk
 have A:=zc a.wbk
 have y:=zc a.obk
 have x:=zc j
 have n:=zh g
 clear h a g j o p
 generalize Tp.idx c.vars nm=z at *
 generalize c.vars.length=vl at *
 go_enter Tryz.func199,Tryz.ntmps199
 go_upto_region 1 with fail
 rw[<-f,<-i]
 clear f i
 go_wp2_with fail
 refine s.out.mono ?_
 rintro e F⟨rfl,m⟩
 have r:=zh m
 clear m
 go_wp2_with fail
 go_ret
 exact⟨rfl,n.out.trans (r.out.mono n.out.size)⟩
def mkA5:Value:=.agg mcs.toArray
theorem mk5_load (h:MkC w):(Instr.loadAt 250 (.pointer (some ⟨2,0,none⟩))).run Tryz.prog w=.ok mkA5 w:=by
 have d:=ji (P:=Tryz.prog) (w:=w) ⟨2,0,none⟩ mcs 11 0 #[] (fun j _ g=>by have f:=h j (by omega);by_cases a:j=0<;>simpa[Addr.add,a] using f) (by decide)
 have b:(isAgg 250).run Tryz.prog w=.ok true w:=by kernel_rfl
 have c:(sizeOf 250).run Tryz.prog w=.ok 11 w:=by kernel_rfl
 simp only[Instr.loadAt,Instr.sureAddr,loadVar,loadCells,Sem.run_bind,Result.andThen]
 have e:mcs.take 11=mcs:=List.take_of_length_le (by decide)
 simp[b,c,d,mkA5,e]
theorem mk5_i0 (w:World):(Instr.index 250 mkA5 (.int .i64 0)).run Tryz.prog w=.ok (.string (bs (Tp.marks5.getD 0 []))) w:=by kernel_rfl
theorem mk5_i1 (w:World):(Instr.index 250 mkA5 (.int .i64 1)).run Tryz.prog w=.ok (.string (bs (Tp.marks5.getD 1 []))) w:=by kernel_rfl
theorem mk5_i2 (w:World):(Instr.index 250 mkA5 (.int .i64 2)).run Tryz.prog w=.ok (.string (bs (Tp.marks5.getD 2 []))) w:=by kernel_rfl
theorem mk5_i3 (w:World):(Instr.index 250 mkA5 (.int .i64 3)).run Tryz.prog w=.ok (.string (bs (Tp.marks5.getD 3 []))) w:=by kernel_rfl
theorem mk5_i4 (w:World):(Instr.index 250 mkA5 (.int .i64 4)).run Tryz.prog w=.ok (.string (bs (Tp.marks5.getD 4 []))) w:=by kernel_rfl
theorem mk5_i5 (w:World):(Instr.index 250 mkA5 (.int .i64 5)).run Tryz.prog w=.ok (.string (bs (Tp.marks5.getD 5 []))) w:=by kernel_rfl
theorem mk5_i6 (w:World):(Instr.index 250 mkA5 (.int .i64 6)).run Tryz.prog w=.ok (.string (bs (Tp.marks5.getD 6 []))) w:=by kernel_rfl
theorem mk5_i7 (w:World):(Instr.index 250 mkA5 (.int .i64 7)).run Tryz.prog w=.ok (.string (bs (Tp.marks5.getD 7 []))) w:=by kernel_rfl
theorem mk5_i8 (w:World):(Instr.index 250 mkA5 (.int .i64 8)).run Tryz.prog w=.ok (.string (bs (Tp.marks5.getD 8 []))) w:=by kernel_rfl
theorem mk5_i9 (w:World):(Instr.index 250 mkA5 (.int .i64 9)).run Tryz.prog w=.ok (.string (bs (Tp.marks5.getD 9 []))) w:=by kernel_rfl
theorem mk5_i10 (w:World):(Instr.index 250 mkA5 (.int .i64 10)).run Tryz.prog w=.ok (.string (bs (Tp.marks5.getD 10 []))) w:=by kernel_rfl
theorem mk5_idx (w:World):∀(k:Nat),k<11->(Instr.index 250 mkA5 (.int .i64 (k:Int))).run Tryz.prog w=.ok (.string (bs (Tp.marks5.getD k []))) w:=by
 intro k a
 match k,a with
 | 0,_=>exact mk5_i0 w
 | 1,_=>exact mk5_i1 w
 | 2,_=>exact mk5_i2 w
 | 3,_=>exact mk5_i3 w
 | 4,_=>exact mk5_i4 w
 | 5,_=>exact mk5_i5 w
 | 6,_=>exact mk5_i6 w
 | 7,_=>exact mk5_i7 w
 | 8,_=>exact mk5_i8 w
 | 9,_=>exact mk5_i9 w
 | 10,_=>exact mk5_i10 w
theorem xf:Tp.marks5.length=11:=rfl
theorem mark5_post (h:MkC w)(op:Bs) :
  Calls Tryz.prog 226 #[.string (bs op)] w fun e w'=>e=.returned (.int .i64 (Tp.idx Tp.marks5 op))/\w'=w:=by
 have n:=mk5_load h
 clear h
 go_enter Tryz.func226,Tryz.ntmps226
 go_wp2_with (refine yL rfl 250 (.global 2) rfl mkA5 n ?_)
 go_loopg [6] 11 (fun k p wr=>∃i:Nat,i<=11/\k=11-i/\p=.int .i64 (i:Int)/\Hid (∀k (a:k<Tp.marks5.length),k<i->Tp.marks5[k]≠op)/\wr=w)
 case atStart=>exact⟨0,by omega,by omega,rfl,fun k _ h=>by omega,rfl⟩
 case round =>
  obtain⟨i,r,a,rfl,f,rfl⟩:=hrel
  by_cases j:i<11
  ·have l:(i:Int)<11:=by omega
   have g:i<Tp.marks5.length:=by rw[xf];exact j
   have m:=mk5_idx wr i j
   rw[show Tp.marks5.getD i []=Tp.marks5[i] by simp[List.getD_eq_getElem?_getD,List.getElem?_eq_getElem g]]at m
   obtain⟨d,hd⟩:∃d,((bs Tp.marks5[i]).toList==(bs op).toList)=d:=⟨_,rfl⟩
   have b:Hid (d=true↔Tp.marks5[i]=op):=by
    show _↔_
    rw[<-hd,zk,zk,beq_iff_eq]
   cases d with
   |true =>
    have c:Hid (Tp.idx Tp.marks5 op=(i:Int)):=idx_at g (b.out.1 rfl) f.out
    clear b
    generalize bs Tp.marks5[i]=y at *
    go_wp2_with fail
    go_ret
    exact⟨congrArg (fun z=>Ending.returned (Value.int .i64 z)) c.out.symm,rfl⟩
   |false =>
    have o:Hid (∀k (a:k<Tp.marks5.length),k<i+1->Tp.marks5[k]≠op):=fun k a h=>by
     by_cases e:k=i
     ·subst e;intro q;have:=b.out.2 q;cases this
     ·exact f.out k a (by omega)
    clear b
    generalize bs Tp.marks5[i]=y at *
    go_wp2_with fail
    go_roundg (11-(i+1))
    case measure=>omega
    case rel=>exact⟨i+1,by omega,rfl,by go_num,o,rfl⟩
  ·have l:¬(i:Int)<11:=by omega
   have c:Hid (Tp.idx Tp.marks5 op=-1):=idx_no fun k a=>f.out k a (by have:=xf;omega)
   go_wp2_with fail
   go_ret
   exact⟨congrArg (fun z=>Ending.returned (Value.int .i64 z)) c.out.symm,rfl⟩
theorem CS.lt {b:List In}(h:CS w e d D q c v b){g:Nat}(a:v.ownBlock=some g):g<w.heap.size:=by
 rcases h.cd.2 with⟨q0,_⟩|⟨g',cap,cur,q0,q1,q2,_⟩
 ·subst q0;cases a
 ·subst q0
  have:g'=g:=by simpa[Value.ownBlock] using a
  subst this
  exact zc q2
theorem kK {C:List In}(h:CS w m f D q c v C)(hl:C.length<4000)(hs:CnS c){x:Nat}(hx:D x){A nm:Bs}(hm:w.cell? ⟨x,3,none⟩=some (.string (bs A)))(e0:w.cell? ⟨x,4,none⟩=some (.string (bs nm)))(op:Int) :
  Calls Tryz.prog 214 #[.pointer (some ⟨m,0,none⟩),.int .i64 op,.pointer (some ⟨x,0,none⟩)] w (Laid5 w m f D q c v (C++[Tp.reachI c op A nm])):=by
 obtain⟨s,a7⟩:∃s,s=w.alloc (.cells #[.pointer (some ⟨x,0,none⟩)] 214):=⟨_,rfl⟩
 obtain⟨t,b6⟩:∃b,b=w.heap.size:=⟨_,rfl⟩
 have G:Below w.heap.size w s:=by rw[a7];exact zb _ _
 have a0:s.heap[t]?=some (.cells #[.pointer (some ⟨x,0,none⟩)] 214 (0,0)):=by rw[a7,b6];exact zl _ _
 have E:=h.on G
 have b5:x<w.heap.size:=(h.ok x hx).2.2
 have b4:s.cell? ⟨x,3,none⟩=some (.string (bs A)):=(G.cell (p:=⟨x,3,none⟩) b5).trans hm
 have b7:s.cell? ⟨x,4,none⟩=some (.string (bs nm)):=(G.cell (p:=⟨x,4,none⟩) b5).trans e0
 obtain⟨e9,u1,u2⟩:=E.us
 have HC:=zh (xG u1 u2 (by have:=hs.u;omega) (za a0) b4)
 have k0:s.cell? ⟨m,0,none⟩=some (.pointer (some ⟨f,0,none⟩)):=za E.wbk
 have k2:s.cell? ⟨f,2,none⟩=some (.slice q.ua c.uses.length q.uc):=za E.obk
 have c9:=zc E.wbk
 have c8:=zc E.obk
 have c7:=zc a0
 have O:=zh G
 have X:=zh E
 have d4:=zh a0
 have e6:=zh b4
 have d5:=zh b7
 have d7:Hid (x<s.heap.size):=Nat.lt_of_lt_of_le b5 G.size
 have c3:Hid (t≠f/\v.ownBlock≠some t):=by
  refine⟨fun e=>?_,fun e=>?_⟩
  ·have:=zc h.obk;omega
  ·have:=h.lt e;omega
 have HU:Hid (∀i (hi:i<c.uses.length),∃(g:Nat) (a:Option Addr) (k:Nat),q.ua=some ⟨g,0,none⟩/\D g/\s.cell? ⟨g,i*3+2,none⟩=some (.slice a c.uses[i].2.length k)/\Row s D 9 1 (.slice a c.uses[i].2.length k) c.uses[i].2.length (strs c.uses[i].2)):=fun i hi=>by
  obtain⟨nd,a,k,_,_,y,e3⟩:=u2 i hi
  rcases u1 with⟨_,q0,_⟩|⟨g,cap,cur,q0,q1,q2,q3,q4,q5,q6⟩
  ·omega
  ·obtain⟨e4,_,_⟩:=Value.slice.inj q0
   refine⟨g,a,k,e4,q1,?_,e3⟩
   rw[za q2,<-Array.getElem?_toList,<-y,<-q6,List.getElem?_take_of_lt (by omega)]
 clear E G a0 u1 u2 b4 b7
 go_enter Tryz.func214,Tryz.ntmps214
 go_upto_region 1 with fail
 rw[<-a7,<-b6]
 clear a7 b6
 go_wp2_with fail
 refine HC.out.mono ?_
 rintro e d⟨rfl,B⟩
 have b3:Below s.heap.size s d.drew:=B.drew
 have F:=X.out.on b3
 have P:=zh F
 have c1:Hid (Below w.heap.size w d.drew):=O.out.trans (b3.mono O.out.size)
 have d3:Hid (Below w.heap.size w d):=O.out.trans (B.mono O.out.size)
 have c0:d.cell? ⟨m,0,none⟩=some (.pointer (some ⟨f,0,none⟩)):=(B.cell (p:=⟨m,0,none⟩) c9).trans k0
 have cx:d.cell? ⟨t,0,none⟩=some (.pointer (some ⟨x,0,none⟩)):=(B.cell (p:=⟨t,0,none⟩) c7).trans (za d4.out)
 have c4:d.cell? ⟨x,4,none⟩=some (.string (bs nm)):=(B.cell (p:=⟨x,4,none⟩) d7.out).trans d5.out
 have c2:d.cell? ⟨f,2,none⟩=some (.slice q.ua c.uses.length q.uc):=(B.cell (p:=⟨f,2,none⟩) c8).trans k2
 have c5:d.cell? ⟨f,5,none⟩=some (.slice q.na c.procs.length q.nc):=za F.obk
 have l0:=zg c0
 have l1:=zg cx
 have l2:=zg c4
 have l3:=zg c2
 have a9:=zh hl
 have Y:=zh hs
 have V:=zh B
 have a8:Hid (∀cs' e W,Laid5 d.drew m f D q c v cs' e W->W.cell? ⟨m,0,none⟩=some (.pointer (some ⟨f,0,none⟩))/\W.cell? ⟨f,2,none⟩=some (.slice q.ua c.uses.length q.uc)/\W.cell? ⟨f,5,none⟩=some (.slice q.na c.procs.length q.nc)/\W.cell? ⟨t,0,none⟩=some (.pointer (some ⟨x,0,none⟩))/\W.cell? ⟨x,4,none⟩=some (.string (bs nm))/\∀g,D g->∀j,W.cell? ⟨g,j,none⟩=d.cell? ⟨g,j,none⟩):=fun cs' e W I=>by
  obtain⟨_,v',T,U⟩:=I
  refine⟨za T.wbk,za T.obk,za T.obk,?_,?_,fun g hg j=>?_⟩
  ·exact(World.cell?_of_block (w:=d) (U.block t (by exact l1) c3.out.1 c3.out.2)).trans cx
  ·exact(P.out.cell U hx 4).trans c4
  ·exact P.out.cell U hg j
 clear k0 k2 F b3 B c9 c8 c7 HC O hl hs
 rcases hz:c.uses.findIdx? (fun u=>u.1==A) with _|i
 ·have H:uidx c.uses A=-1:=by unfold uidx;rw[hz]
  rw[H]
  by_cases ho:op=14
  ·subst ho
   have y:Tp.reachI c 14 A nm=⟨14,Tp.idx c.procs nm,-1⟩:=by unfold Tp.reachI;rw[hz];rfl
   have S:=zh y
   have b0:Hid (Calls Tryz.prog 98 #[.slice q.na c.procs.length q.nc,.string (bs nm)] d.drew fun e w'=>e=.returned (.int .i64 (Tp.idx c.procs nm))/\w'=d.drew):=yF P.out.nm (by have:=Y.out.p;omega) nm
   have N:Hid (Calls Tryz.prog 148 #[.pointer (some ⟨m,0,none⟩),.agg #[.int .i64 14,.int .i64 (Tp.idx c.procs nm),.int .i64 (-1)]] d.drew (Laid5 d.drew m f D q c v (C++[⟨14,Tp.idx c.procs nm,-1⟩]))):=yq P.out a9.out ⟨14,Tp.idx c.procs nm,-1⟩
   have b1:Hid (d.drew.cell? ⟨m,0,none⟩=some (.pointer (some ⟨f,0,none⟩))/\d.drew.cell? ⟨f,5,none⟩=some (.slice q.na c.procs.length q.nc)/\d.drew.cell? ⟨t,0,none⟩=some (.pointer (some ⟨x,0,none⟩))/\d.drew.cell? ⟨x,4,none⟩=some (.string (bs nm))):=⟨c0,c5,cx,c4⟩
   generalize Tp.idx c.procs nm=z at *
   generalize c.procs.length=pl at *
   clear H y hz
   go_wp2_with fail
   go_region_held3 (fun W=>W.cell? ⟨m,0,none⟩=some (.pointer (some ⟨f,0,none⟩))/\W.cell? ⟨f,5,none⟩=some (.slice q.na pl q.nc)/\W.cell? ⟨t,0,none⟩=some (.pointer (some ⟨x,0,none⟩))/\W.cell? ⟨x,4,none⟩=some (.string (bs nm))) (with_reducible (first|exact b2.out|exact b1.out)) (first|(go_at_call 98;refine b0.out.mono ?_;rintro e w3 ⟨rfl,rfl⟩)|(go_at_call 148;refine N.out.mono ?_;rintro e L o;have R:=o.1;subst R;have Q:=zh o;have M:=a8.out _ _ _ o;have b2:Hid (L.cell? ⟨m,0,none⟩=some (.pointer (some ⟨f,0,none⟩))/\L.cell? ⟨f,5,none⟩=some (.slice q.na pl q.nc)/\L.cell? ⟨t,0,none⟩=some (.pointer (some ⟨x,0,none⟩))/\L.cell? ⟨x,4,none⟩=some (.string (bs nm))):=⟨M.1,M.2.2.1,M.2.2.2.1,M.2.2.2.2.1⟩;clear o M))
   go_wp2_with fail
   exact ze rfl rfl (by rw[S.out];exact Q.out.from c1.out)
  ·have y:Tp.reachI c op A nm=⟨op,Tp.idx c.vars nm,-1⟩:=by unfold Tp.reachI;rw[hz];simp only;rw[if_neg ho]
   have S:=zh y
   have F:CS d m f D q c v C:=X.out.on V.out
   have d6:=zh (yM F Y.out nm)
   have N:Hid (∀W,Below d.heap.size d W->Calls Tryz.prog 148 #[.pointer (some ⟨m,0,none⟩),.agg #[.int .i64 op,.int .i64 (Tp.idx c.vars nm),.int .i64 (-1)]] W (Laid5 d m f D q c v (C++[⟨op,Tp.idx c.vars nm,-1⟩]))):=fun W I=>(yq (F.on I) a9.out ⟨op,Tp.idx c.vars nm,-1⟩).mono fun _ _ hq=>Laid5.from I hq
   generalize Tp.idx c.vars nm=z at *
   clear H y hz F
   go_wp2_with fail
   refine d6.out.mono ?_
   rintro e w3⟨rfl,c6⟩
   have d2:=zh (N.out w3 c6)
   clear c6
   go_wp2_with fail
   refine d2.out.mono ?_
   rintro e L o
   have R:=o.1
   subst R
   have Q:=zh o
   clear o
   go_wp2_with fail
   exact ze rfl rfl (by rw[S.out];exact Q.out.from d3.out)
 ·have Z:i<c.uses.length:=by
   rw[List.findIdx?_eq_some_iff_getElem]at hz
   exact hz.1
  have H:uidx c.uses A=(i:Int):=by unfold uidx;rw[hz]
  have y:Tp.reachI c op A nm=⟨op,Tp.idx c.uses[i].2 nm,(i:Int)⟩:=by unfold Tp.reachI;rw[hz];simp[List.getElem?_eq_getElem Z]
  rw[H]
  obtain⟨g,J,K,g1,g2,g3,g4⟩:=HU.out i Z
  have d0:c.uses[i].2.length<=1000:=Y.out.n _ (List.getElem_mem Z)
  obtain⟨r,b8⟩:∃l,c.uses[i].2=l:=⟨_,rfl⟩
  rw[b8]at g3 g4 y d0
  have S:=zh y
  rw[g1]at c2
  have d1:Hid (∀cs' e W,Laid5 d.drew m f D q c v cs' e W->W.cell? ⟨m,0,none⟩=some (.pointer (some ⟨f,0,none⟩))/\W.cell? ⟨f,2,none⟩=some (.slice (some ⟨g,0,none⟩) c.uses.length q.uc)/\W.cell? ⟨t,0,none⟩=some (.pointer (some ⟨x,0,none⟩))/\W.cell? ⟨x,4,none⟩=some (.string (bs nm))/\W.cell? ⟨g,i*3+2,none⟩=some (.slice J r.length K)):=fun cs' e W I=>by
   have d9:=(X.out.ok g g2).2.2
   obtain⟨T,U,a3,a4,a5,a6⟩:=a8.out cs' e W I
   exact⟨T,by rw[U,g1],a4,a5,(a6 g g2 _).trans ((V.out.cell (p:=⟨g,i*3+2,none⟩) d9).trans g3)⟩
  have cg:d.cell? ⟨g,i*3+2,none⟩=some (.slice J r.length K):=(V.out.cell (p:=⟨g,i*3+2,none⟩) (X.out.ok g g2).2.2).trans g3
  have e7:=zg cg
  have b9:Row d.drew D 9 1 (.slice J r.length K) r.length (strs r):=g4.mono fun b hb d8=>⟨V.out.drew.block b d8,hb⟩
  have b0:Hid (Calls Tryz.prog 98 #[.slice J r.length K,.string (bs nm)] d.drew fun e w'=>e=.returned (.int .i64 (Tp.idx r nm))/\w'=d.drew):=yF b9 (by omega) nm
  have N:Hid (Calls Tryz.prog 148 #[.pointer (some ⟨m,0,none⟩),.agg #[.int .i64 op,.int .i64 (Tp.idx r nm),.int .i64 (i:Int)]] d.drew (Laid5 d.drew m f D q c v (C++[⟨op,Tp.idx r nm,(i:Int)⟩]))):=yq P.out a9.out ⟨op,Tp.idx r nm,(i:Int)⟩
  have b1:Hid (d.drew.cell? ⟨m,0,none⟩=some (.pointer (some ⟨f,0,none⟩))/\d.drew.cell? ⟨f,2,none⟩=some (.slice (some ⟨g,0,none⟩) c.uses.length q.uc)/\d.drew.cell? ⟨t,0,none⟩=some (.pointer (some ⟨x,0,none⟩))/\d.drew.cell? ⟨x,4,none⟩=some (.string (bs nm))/\d.drew.cell? ⟨g,i*3+2,none⟩=some (.slice J r.length K)):=⟨c0,c2,cx,c4,cg⟩
  have e5:(i:Int)<(c.uses.length:Int):=by omega
  have e8:(c.uses.length:Int)<=1000:=by have:=Y.out.u;omega
  clear a8 HU g4 b9 hz H y g3 b8 Z d0
  generalize Tp.idx r nm=z at *
  generalize r.length=nl at *
  generalize c.uses.length=ul at *
  go_wp2_with fail
  go_region_held3 (fun W=>W.cell? ⟨m,0,none⟩=some (.pointer (some ⟨f,0,none⟩))/\W.cell? ⟨f,2,none⟩=some (.slice (some ⟨g,0,none⟩) ul q.uc)/\W.cell? ⟨t,0,none⟩=some (.pointer (some ⟨x,0,none⟩))/\W.cell? ⟨x,4,none⟩=some (.string (bs nm))/\W.cell? ⟨g,i*3+2,none⟩=some (.slice J nl K)) (with_reducible (first|exact b2.out|exact b1.out)) (first|(go_at_call 98;refine b0.out.mono ?_;rintro e w3 ⟨rfl,rfl⟩)|(go_at_call 148;refine N.out.mono ?_;rintro e L o;have R:=o.1;subst R;have Q:=zh o;have b2:=zh (d1.out _ _ _ o);clear o))
  go_wp2_with fail
  exact ze rfl rfl (by rw[S.out];exact Q.out.from c1.out)
theorem vS {l:List In}(h:CS w d m D q c v l)(u:l.length<4000)(A:CnS c){x:Nat}(I:D x){a nm:Bs}(H:w.cell? ⟨x,3,none⟩=some (.string (bs a)))(L:w.cell? ⟨x,4,none⟩=some (.string (bs nm))) :
  Calls Tryz.prog 213 #[.pointer (some ⟨d,0,none⟩),.pointer (some ⟨x,0,none⟩)] w (Laid5 w d m D q c v (l++[Tp.valueI c a nm])):=by
 have f:Hid (∀n,Below w.heap.size w (w.drewN n)):=fun n=>below_drewN (Below.refl _ _) n
 have E:Hid (∀n,Calls Tryz.prog 98 #[.slice q.oa c.own.length q.oc,.string (bs nm)] (w.drewN n) fun e w'=>e=.returned (.int .i64 (Tp.idx c.own nm))/\w'=w.drewN n):=fun n=>yF (h.on (f.out n)).ow (by have:=A.o;omega) nm
 have C:Hid (∀n,Calls Tryz.prog 148 #[.pointer (some ⟨d,0,none⟩),.agg #[.int .i64 3,.int .i64 (Tp.idx c.own nm),.int .i64 0]] (w.drewN n) (Laid5 w d m D q c v (l++[⟨3,Tp.idx c.own nm,0⟩]))):=fun n=>(yq (h.on (f.out n)) u ⟨3,Tp.idx c.own nm,0⟩).mono fun _ _ y=>Laid5.from (f.out n) y
 have F:Hid (∀n,Calls Tryz.prog 214 #[.pointer (some ⟨d,0,none⟩),.int .i64 5,.pointer (some ⟨x,0,none⟩)] (w.drewN n) (Laid5 w d m D q c v (l++[Tp.reachI c 5 a nm]))):=fun n=>(kK (h.on (f.out n)) u A I H L 5).mono fun _ _ y=>Laid5.from (f.out n) y
 have S:w.cell? ⟨d,1,none⟩=some (.slice q.oa c.own.length q.oc):=za h.wbk
 have P:=zc h.wbk
 have N:=(h.ok x I).2.2
 have s:Hid (Tp.valueI c a nm=if 0<=Tp.idx c.own nm/\a=[] then ⟨3,Tp.idx c.own nm,0⟩ else Tp.reachI c 5 a nm):=rfl
 clear h u A
 generalize Tp.idx c.own nm=z at *
 generalize c.own.length=ol at *
 obtain⟨t,B⟩:∃t,((bs a).toList==[])=t:=⟨_,rfl⟩
 have G:Hid (t=true↔a=[]):=by
  show _↔_
  rw[<-B,zk,beq_iff_eq]
 rw[zk]at B
 have M:=B
 rw[<-zk a]at M
 go_enter Tryz.func213,Tryz.ntmps213
 go_wp2_with fail
 go_quiet ((go_at_call 98;exact Calls.quiet_of_same (E.out _)))
 have p:=zh (C.out nq)
 have r:=zh (F.out nq)
 have Q:(w.drewN nq).cell? ⟨x,3,none⟩=some (.string (bs a)):=H
 have O:x<(w.drewN nq).heap.size:=N
 clear C F E f
 generalize w.drewN nq=w1 at *
 by_cases J:0<=z
 ·cases t with
  |true =>
   have j:Hid (Tp.valueI c a nm=⟨3,z,0⟩):=by show _=_;rw[s.out,if_pos ⟨J,G.out.1 rfl⟩]
   clear r
   go_wp2_with fail
   refine p.out.mono ?_
   rintro e K b
   have i:=b.1
   subst i
   have g:=zh b
   clear b
   go_wp2_with fail
   exact ze rfl rfl (by rw[j.out];exact g.out)
  |false =>
   have j:Hid (Tp.valueI c a nm=Tp.reachI c 5 a nm):=by
    show _=_
    rw[s.out,if_neg]
    intro k
    have:=G.out.2 k.2
    cases this
   clear p
   go_wp2_with fail
   refine r.out.mono ?_
   rintro e K b
   have i:=b.1
   subst i
   have g:=zh b
   clear b
   go_wp2_with fail
   exact ze rfl rfl (by rw[j.out];exact g.out)
 ·have j:Hid (Tp.valueI c a nm=Tp.reachI c 5 a nm):=by
   show _=_
   rw[s.out,if_neg]
   intro k
   exact J k.1
  have R:z<0:=by omega
  clear p
  go_wp2_with fail
  refine r.out.mono ?_
  rintro e K b
  have i:=b.1
  subst i
  have g:=zh b
  clear b
  go_wp2_with fail
  exact ze rfl rfl (by rw[j.out];exact g.out)
end Go.Proofs.YtbkndnmglhghlaaGreatDoor
