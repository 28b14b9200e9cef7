import Derived.Test.YtmocelfkmdpogaaGreatDoorKWg
import Derived.Test.YtmocelfkmdpogaaGreatDoorKMa
import Derived.Lib.Hide
import Derived.Deep.RegionLawGrows
import Derived.BigQuiet
set_option maxRecDepth 100000
set_option maxHeartbeats 4000000
namespace Go.Proofs.YtmocelfkmdpogaaGreatDoor
open Go.RowKit
open Tp (Bs X S G Pr Cn)
open Ob (In)
def inV (x:In):List Value:=[.int .i64 x.op,.int .i64 x.a,.int .i64 x.b]
def ics (l:List In):List Value:=(l.map inV).flatten
theorem vy (l m:List In):ics (l++m)=ics l++ics m:=by simp[ics]
theorem ics_one (x:In):ics [x]=inV x:=by simp[ics]
theorem jH (x:In)(l:List In):ics (x :: l)=inV x++ics l:=by simp[ics]
theorem jV (l:List In):(ics l).length=l.length*3:=by
 induction l with
 |nil=>rfl
 |cons x l ih=>rw[jH,List.length_append,ih,List.length_cons];simp[inV];omega
theorem ics_cell (l:List In):∀u∈ics l,u.oneCell'=true:=by
 intro u a
 unfold ics at a
 obtain⟨c,b,a⟩:=List.mem_flatten.1 a
 obtain⟨g,_,rfl⟩:=List.mem_map.1 b
 simp[inV]at a
 rcases a with rfl|rfl|rfl<;>rfl
structure Cg (ob:Nat) (v:Value) (w:World) (v':Value) (w':World):Prop where
 os:w'.os=w.os
 tape:w'.tape=w.tape
 output:w'.output=w.output
 size:w.heap.size<=w'.heap.size
 block:∀b,b<w.heap.size->b≠ob->v.ownBlock≠some b->w'.heap[b]?=w.heap[b]?
 own:∀g,v'.ownBlock=some g->v.ownBlock=some g\/w.heap.size<=g
theorem Cg.refl (ob:Nat)(v:Value)(w:World):Cg ob v w v w:=⟨rfl,rfl,rfl,Nat.le_refl _,fun _ _ _ _=>rfl,fun _ h=>Or.inl h⟩
theorem Cg.trans {ob:Nat}{v1 v2 f:Value}{i j l:World}(h:Cg ob v1 i v2 j)(k:Cg ob v2 j f l):Cg ob v1 i f l :=
 ⟨k.os.trans h.os,k.tape.trans h.tape,k.output.trans h.output,Nat.le_trans h.size k.size,fun b a c d=>(k.block b (Nat.lt_of_lt_of_le a h.size) c (fun e=>by
  rcases h.own b e with q|q
  ·exact d q
  ·omega)).trans (h.block b a c d),fun g m=>by
  rcases k.own g m with q|q
  ·exact h.own g q
  ·exact Or.inr (Nat.le_trans h.size q)⟩
theorem Cg.below {ob:Nat}{v:Value}{w w':World}(h:Below w.heap.size w w'):Cg ob v w v w':=⟨h.os,h.tape,h.output,h.size,fun b a _ _=>h.block b a,fun _ q=>Or.inl q⟩
def UsR (w:World) (D:Nat->Prop) (us:List (Bs×List Bs)) (cs:List Value):Prop:=∀i (h:i<us.length),∃(nd:ByteArray) (a:Option Addr) (c:Nat),cs[i*3]?=some (.string (bs us[i].1))/\cs[i*3+1]?=some (.string nd)/\cs[i*3+2]?=some (.slice a us[i].2.length c)/\Row w D 9 1 (.slice a us[i].2.length c) us[i].2.length (strs us[i].2)
def VaR (vs:List Bs) (cs:List Value):Prop:=∀i (h:i<vs.length),∃(p l:Int) (s:Bool),cs[i*4]?=some (.string (bs vs[i]))/\cs[i*4+1]?=some (.int .i64 p)/\cs[i*4+2]?=some (.int .i64 l)/\cs[i*4+3]?=some (.bool s)
structure Oq where
 n0:ByteArray
 sa:Option Addr
 sl:Nat
 sc:Nat
 ua:Option Addr
 uc:Nat
 va:Option Addr
 vc:Nat
 pa:Option Addr
 pl:Nat
 pc:Nat
 na:Option Addr
 nc:Nat
 oa:Option Addr
 oc:Nat
def oqc (q:Oq) (c:Cn) (v:Value):Array Value:=#[.string q.n0,.slice q.sa q.sl q.sc,.slice q.ua c.uses.length q.uc,.slice q.va c.vars.length q.vc,.slice q.pa q.pl q.pc,.slice q.na c.procs.length q.nc,v]
def mcs:List Value:=Tp.marks5.map fun m=>.string (bs m)
def MkC (w:World):Prop:=∀i,i<11->w.cell? ⟨3,i,none⟩=some (mcs.getD i undef)
structure CS (w:World) (wb ob:Nat) (D:Nat->Prop) (q:Oq) (c:Cn) (v:Value) (cs:List In):Prop where
 wbk:w.heap[wb]?=some (.cells #[.pointer (some ⟨ob,0,none⟩),.slice q.oa c.own.length q.oc] 73 (0,0))
 obk:w.heap[ob]?=some (.cells (oqc q c v) 59 (0,0))
 ow:Row w D 9 1 (.slice q.oa c.own.length q.oc) c.own.length (strs c.own)
 us:∃ucs,Row w D 128 3 (.slice q.ua c.uses.length q.uc) c.uses.length ucs/\UsR w D c.uses ucs
 vr:∃vcs,Row w D 118 4 (.slice q.va c.vars.length q.vc) c.vars.length vcs/\VaR c.vars vcs
 nm:Row w D 9 1 (.slice q.na c.procs.length q.nc) c.procs.length (strs c.procs)
 cd:w.ownsRow 0 54 3 v cs.length (ics cs)
 mkc:MkC w
 dm:D 3
 dw:D wb
 ok:∀b,D b->b≠ob/\v.ownBlock≠some b/\b<w.heap.size
 nb:v.ownBlock≠some ob
theorem UsR.mono {w w':World}{D D':Nat->Prop}(l:∀b,D b->b<w.heap.size->w'.heap[b]?=w.heap[b]?/\D' b){us:List (Bs×List Bs)}{d:List Value}(h:UsR w D us d):UsR w' D' us d:=fun i k=>by
 obtain⟨nd,a,c,e,f,g,j⟩:=h i k
 exact⟨nd,a,c,e,f,g,j.mono l⟩
theorem CS.next {w w':World}{g ob:Nat}{D:Nat->Prop}{q:Oq}{c:Cn}{v f:Value}{r cs':List In}(h:CS w g ob D q c v r)(k:Cg ob v w f w')(j:w'.heap[ob]?=some (.cells (oqc q c f) 59 (0,0)))(s:w'.ownsRow 0 54 3 f cs'.length (ics cs'))(x:f.ownBlock≠some ob):CS w' g ob D q c f cs':=by
 have a:∀b,D b->b<w.heap.size->w'.heap[b]?=w.heap[b]?/\D b:=fun b d u=>⟨k.block b u (h.ok b d).1 (h.ok b d).2.1,d⟩
 obtain⟨l,u1,u2⟩:=h.us
 obtain⟨m,v1,v2⟩:=h.vr
 refine⟨(a g h.dw (zi h.wbk)).1.trans h.wbk,j,h.ow.mono a,⟨l,u1.mono a,u2.mono a⟩,⟨m,v1.mono a,v2⟩,h.nm.mono a,s,fun i t=>(World.cell?_of_block (w:=w) (a _ h.dm (h.ok _ h.dm).2.2).1).trans (h.mkc i t),h.dm,h.dw,fun b d=>?_,x⟩
 obtain⟨n,o,p⟩:=h.ok b d
 refine⟨n,fun e=>?_,Nat.lt_of_lt_of_le p k.size⟩
 rcases k.own b e with z|z
 ·exact o z
 ·omega
theorem CS.on {w w':World}{d ob:Nat}{D:Nat->Prop}{q:Oq}{c:Cn}{v:Value}{a:List In}(h:CS w d ob D q c v a)(k:Below w.heap.size w w'):CS w' d ob D q c v a :=
 h.next (Cg.below k) ((k.block ob (zi h.obk)).trans h.obk) (zF h.cd fun b _ e _=>k.block b e) h.nb
theorem CS.keep {w w':World}{f ob:Nat}{D:Nat->Prop}{q:Oq}{c:Cn}{v e:Value}{d:List In}(h:CS w f ob D q c v d)(k:Cg ob v w e w'){b:Nat}(a:D b):w'.heap[b]?=w.heap[b]?:=k.block b (h.ok b a).2.2 (h.ok b a).1 (h.ok b a).2.1
theorem CS.cell {w w':World}{f ob:Nat}{D:Nat->Prop}{q:Oq}{c:Cn}{v e:Value}{a:List In}(h:CS w f ob D q c v a)(k:Cg ob v w e w'){b:Nat}(d:D b)(j:Nat):w'.cell? ⟨b,j,none⟩=w.cell? ⟨b,j,none⟩:=World.cell?_of_block (w:=w) (h.keep k d)
theorem CS.rep {w w':World}{f ob:Nat}{D:Nat->Prop}{q:Oq}{c:Cn}{v e:Value}{b:List In}(h:CS w f ob D q c v b)(k:Cg ob v w e w'){l:List X}{vs:List Value}(d:RepL w D l vs):RepL w' D l vs:=RepL.mono (fun _ a _=>⟨h.keep k a,a⟩) _ l vs zn d
theorem CS.reps {w w':World}{f ob:Nat}{D:Nat->Prop}{q:Oq}{c:Cn}{v e:Value}{b:List In}(h:CS w f ob D q c v b)(k:Cg ob v w e w'){l:List S}{vs:List Value}(d:RepS w D l vs):RepS w' D l vs:=d.mono' fun _ a _=>⟨h.keep k a,a⟩
theorem CS.owns {w w':World}{f ob:Nat}{D:Nat->Prop}{q:Oq}{c:Cn}{v e:Value}{b:List In}(h:CS w f ob D q c v b)(k:Cg ob v w e w'){u:Value}{n:Nat}{vs:List Value}(d:OwnS w D u n vs):OwnS w' D u n vs:=d.mono fun _ a _=>⟨h.keep k a,a⟩
def Laid5 (w:World) (wb ob:Nat) (D:Nat->Prop) (q:Oq) (c:Cn) (v:Value) (cs:List In) (e:Ending) (w':World):Prop:=e=.returned (.tuple #[])/\∃v',CS w' wb ob D q c v' cs/\Cg ob v w v' w'
theorem Tryz.infoInst:(Tryz.prog.info? 54).map (fun i=>(i.zero,i.size,i.bytes))=some (some (.agg #[.int .i64 0,.int .i64 0,.int .i64 0]),3,24):=by kernel_rfl
theorem yp {w:World}{m ob:Nat}{D:Nat->Prop}{q:Oq}{c:Cn}{v:Value}{i:List In}(h:CS w m ob D q c v i)(T:i.length<4000)(x:In) :
  Calls Tryz.prog 101 #[.pointer (some ⟨m,0,none⟩),.agg #[.int .i64 x.op,.int .i64 x.a,.int .i64 x.b]] w (Laid5 w m ob D q c v (i++[x])):=by
 obtain⟨i1,hi,a6,a7,a8⟩:=info_parts Tryz.infoInst
 obtain⟨k,l,rfl⟩:=zl h.cd
 obtain⟨n,s⟩:∃n,n=i.length:=⟨_,rfl⟩
 have b3:((n:Nat):Int)<4000:=by omega
 have b4:¬((n:Nat):Int)=4000:=by omega
 obtain⟨A,L⟩:∃A,A=w.heap.size:=⟨_,rfl⟩
 obtain⟨d,G⟩:∃d,d=w.alloc (.cells #[.int .i64 x.op,.int .i64 x.a,.int .i64 x.b] 54):=⟨_,rfl⟩
 have p:Below w.heap.size w d:=by rw[G];exact zb _ _
 have B:d.heap[A]?=some (.cells #[.int .i64 x.op,.int .i64 x.a,.int .i64 x.b] 54 (0,0)):=by rw[G,L];exact zk _ _
 have H:=h.on p
 have E:=H.wbk
 have C:d.heap[ob]?=some (.cells #[.string q.n0,.slice q.sa q.sl q.sc,.slice q.ua c.uses.length q.uc,.slice q.va c.vars.length q.vc,.slice q.pa q.pl q.pc,.slice q.na c.procs.length q.nc,.slice k n l] 59 (0,0)):=by have:=H.obk;unfold oqc at this;rw[s];exact this
 have J:d.ownsRow 0 54 3 (.slice k n l) n (ics i):=by rw[s];exact H.cd
 have HH:=zh h
 have a9:=zh p
 have k0:d.cell? ⟨m,0,none⟩=some (.pointer (some ⟨ob,0,none⟩)):=za E
 have k6:d.cell? ⟨ob,6,none⟩=some (.slice k n l):=za C
 have x0:d.cell? ⟨A,0,none⟩=some (.int .i64 x.op):=za B
 have x1:d.cell? ⟨A,1,none⟩=some (.int .i64 x.a):=za B
 have x2:d.cell? ⟨A,2,none⟩=some (.int .i64 x.b):=za B
 have R:=zi E
 have Q:=zi C
 have b6:=zi B
 have b8:∀o,(d.alloc o).cell? ⟨m,0,none⟩=some (.pointer (some ⟨ob,0,none⟩)):=fun o=>(World.cell?_of_block (w:=d) (Below.heap_alloc _ _ _ R)).trans k0
 have b9:∀o,(d.alloc o).cell? ⟨ob,6,none⟩=some (.slice k n l):=fun o=>(World.cell?_of_block (w:=d) (Below.heap_alloc _ _ _ Q)).trans k6
 have a0:Hid (∀o,(d.alloc o).ownsRow 0 54 3 (.slice k n l) n (ics i)):=fun o=>zF J (fun b _ T _=>Below.heap_alloc _ _ _ T)
 have O:Hid ((Value.slice k n l).ownBlock≠some ob):=by have:=h.nb;rw[<-s]at this;exact this
 have Y:Hid ((Value.slice k n l).ownBlock≠some m):=by have:=(h.ok m h.dw).2.1;rw[<-s]at this;exact this
 have b2:Hid (m≠ob):=(h.ok m h.dw).1
 have Z:=zh C
 have a1:=zh E
 have b0:=zh J
 have X:Hid (∀(f:World) (r:Value),f.heap[ob]?=some (.cells #[.string q.n0,.slice q.sa q.sl q.sc,.slice q.ua c.uses.length q.uc,.slice q.va c.vars.length q.vc,.slice q.pa q.pl q.pc,.slice q.na c.procs.length q.nc,.slice k n l] 59 (0,0))->f.os=d.os->f.tape=d.tape->f.output=d.output->d.heap.size<=f.heap.size->(∀b,b<d.heap.size->(Value.slice k n l).ownBlock≠some b->f.heap[b]?=d.heap[b]?)->f.ownsRow 0 54 3 r (n+1) (ics i++inV x)->(∀g,r.ownBlock=some g->(Value.slice k n l).ownBlock=some g\/d.heap.size<=g)->Laid5 w m ob D q c (.slice k i.length l) (i++[x]) (.returned (.tuple #[])) (f.setCell ⟨ob,6,none⟩ r)):=fun f r y o1 o2 o3 o4 a2 r1 W=>by
  have F:r.ownBlock≠some ob:=fun e=>by
   rcases W ob e with z|z
   ·exact O.out z
   ·omega
  have P:Cg ob (.slice k i.length l) w r (f.setCell ⟨ob,6,none⟩ r):=by
   rw[<-s]
   refine⟨o1.trans p.os,o2.trans p.tape,o3.trans p.output,?_,fun b I K ho=>?_,fun g M=>?_⟩
   ·have:=p.size
    simp
    omega
   ·rw[Below.heap_setCell _ _ _ _ (by simpa using K)]
    exact(a2 b (Nat.lt_of_lt_of_le I p.size) ho).trans (p.block b I)
   ·rcases W g M with z|z
    ·exact Or.inl z
    ·exact Or.inr (by have:=p.size;omega)
  refine⟨rfl,r,h.next P ?_ ?_ F,P⟩
  ·have:=zw 6 r y
   rw[this]
   unfold oqc
   rfl
  ·have e1:(i++[x]).length=n+1:=by rw[s];simp
   rw[e1,vy,ics_one]
   exact zF r1 (fun b _ _ a4=>Below.heap_setCell _ _ _ _ (by simpa using fun e:b=ob=>F (e ▸ a4)))
 have b1:Hid ((ics i).length=n*3/\∀u∈ics i,u.oneCell'=true):=⟨by rw[s];exact jV i,ics_cell i⟩
 have b7:n<=4000:=by omega
 rw[<-s]at *
 clear h H p E C J B
 generalize a5:ics i=ss at *
 clear a5
 go_enter Tryz.func101,Tryz.ntmps101
 go_upto_region 1 with fail
 rw[<-G,<-L]
 clear G L
 go_upto_region 3 with fail
 go_region_law (first|(refine z7 rfl (.tmp 24) (.tmp 26) 55 rfl 0 54 i1 (.agg #[.int .i64 0,.int .i64 0,.int .i64 0]) 3 24 Tryz.underlying55 hi a6 a7 a8 rfl (by decide) (.slice k n l) n ss (by simp[Act.eval]) ?hown ⟨d.heap.size,0,none⟩ 1 1 [.int .i64 x.op,.int .i64 x.a,.int .i64 x.b] (by simp[Act.eval]) rfl ?news (by intro u U;simp at U;rcases U with rfl|rfl|rfl<;>rfl) (by unfold maxLen;omega) (by omega) (by omega) ?_;(case hown=>exact a0.out _);(case news=>(intro j u S;rw[Addr.add_lit];first|exact((za (zk d _)).trans (by simpa using S))|exact((za (zk d.drew _)).trans (by simpa using S))));intro c0 f N t V;obtain⟨a3,c3,F⟩:=zl N;subst F;have y:f.heap[ob]?=some (.cells #[.string q.n0,.slice q.sa q.sl q.sc,.slice q.ua c.uses.length q.uc,.slice q.va c.vars.length q.vc,.slice q.pa q.pl q.pc,.slice q.na c.procs.length q.nc,.slice k n l] 59 (0,0)):=(t.block ob (by simp;omega) (fun e=>O.out e.symm)).trans ((Below.heap_alloc d _ ob Q).trans Z.out);have m3:f.cell? ⟨m,0,none⟩=some (.pointer (some ⟨ob,0,none⟩)):=za ((t.block m (by simp;omega) (fun e=>Y.out e.symm)).trans ((Below.heap_alloc d _ m R).trans a1.out));have n3:f.cell? ⟨ob,6,none⟩=some (.slice k n l):=za y;have z3:f.frozen? ⟨ob,6,none⟩=false:=zg y;have b5:ob<f.heap.size:=zi y;have HF:=zh (X.out f _ y t.os t.tape t.output (by have:=t.size;simp at this;omega) (fun b I K=>(t.block b (by simp;omega) (fun e=>K e.symm)).trans (Below.heap_alloc d _ b I)) N (fun g M=>(V g M).elim Or.inl (fun z=>Or.inr (by simp at z;omega))));clear N t V y))
 all_goals exact bodyPost_end (results_none rfl _ _ _) rfl HF.out
theorem y6 {w:World}{b ob:Nat}{D:Nat->Prop}{q:Oq}{c:Cn}{v:Value}{a:List In}(h:CS w b ob D q c v a)(i:a.length<4000)(op:Int) :
  Calls Tryz.prog 69 #[.pointer (some ⟨b,0,none⟩),.int .i64 op] w (Laid5 w b ob D q c v (a++[⟨op,0,0⟩])):=by
 have g:=zh (yp h i ⟨op,0,0⟩)
 clear h
 go_enter Tryz.func69,Tryz.ntmps69
 go_wp2_with fail
 refine g.out.mono ?_
 rintro e j⟨rfl,d⟩
 have f:=zh d
 clear d
 go_wp2_with fail
 go_end0
 exact⟨rfl,f.out⟩
theorem kF {w:World}{b ob:Nat}{D:Nat->Prop}{q:Oq}{c:Cn}{v:Value}{a:List In}(h:CS w b ob D q c v a)(i:a.length<4000)(n:Int) :
  Calls Tryz.prog 103 #[.pointer (some ⟨b,0,none⟩),.int .i64 n] w (Laid5 w b ob D q c v (a++[⟨1,n,0⟩])):=by
 have g:=zh (yp h i ⟨1,n,0⟩)
 clear h
 go_enter Tryz.func103,Tryz.ntmps103
 go_wp2_with fail
 refine g.out.mono ?_
 rintro e j⟨rfl,d⟩
 have f:=zh d
 clear d
 go_wp2_with fail
 go_end0
 exact⟨rfl,f.out⟩
theorem yu {w:World}{d ob:Nat}{D:Nat->Prop}{q:Oq}{c:Cn}{v:Value}{a:List In}(h:CS w d ob D q c v a)(u:a.length<4000)(op:Int) :
  Calls Tryz.prog 193 #[.pointer (some ⟨d,0,none⟩),.int .i64 op] w fun e w'=>e=.returned (.int .i64 (a.length:Int))/\∃v',CS w' d ob D q c v' (a++[⟨op,0,0⟩])/\Cg ob v w v' w':=by
 have p:=zh (y6 h u op)
 have l:((a.length:Nat):Int)<4000:=by omega
 clear h
 go_enter Tryz.func193,Tryz.ntmps193
 go_wp2_with fail
 refine p.out.mono ?_
 rintro e k⟨rfl,v1,b,i⟩
 obtain⟨s,t,rfl⟩:=zl b.cd
 have z:k.cell? ⟨d,0,none⟩=some (.pointer (some ⟨ob,0,none⟩)):=za b.wbk
 have j:k.cell? ⟨ob,6,none⟩=some (.slice s (a++[(⟨op,0,0⟩:In)]).length t):=za b.obk
 have g:(a++[(⟨op,0,0⟩:In)]).length=a.length+1:=by simp
 rw[g]at j
 have y:=zi b.wbk
 have x:=zi b.obk
 have m:=zh b
 have o:=zh i
 clear b i g
 obtain⟨n,f⟩:∃n,n=a.length:=⟨_,rfl⟩
 rw[<-f]at j l
 have r:=zh f
 clear f
 go_wp2_with fail
 go_ret
 refine⟨?_,_,m.out,o.out⟩
 rw[<-r.out]
 rfl
theorem ics_set (p r:List In)(x:In)(a:Int):ics (p++⟨x.op,a,x.b⟩ :: r)=(ics (p++x :: r)).set (p.length*3+1) (.int .i64 a):=by
 rw[vy,vy,jH,jH,List.set_append_right _ _ (by rw[jV];omega),jV]
 congr 1
 rw[show p.length*3+1-p.length*3=1 by omega]
 rfl
theorem owns_set {w:World}{a e size n g cap j:Nat}{b:List Value}{u:Value}(h:w.ownsRow a e size (.slice (some ⟨g,0,none⟩) n cap) n b)(_hj:j<n*size)(_hs:0<n):(w.setCell ⟨g,j,none⟩ u).ownsRow a e size (.slice (some ⟨g,0,none⟩) n cap) n (b.set j u):=by
 refine⟨by rw[List.length_set];exact h.1,?_⟩
 rcases h.2 with⟨q,_⟩|⟨g',cap',cur,e1,q1,q2,q3,q4,q5,q6⟩
 ·cases q
 ·cases e1
  refine Or.inr ⟨g,cap,cur.setIfInBounds j u,rfl,q1,zw j u q2,q3,q4,by simpa using q5,?_⟩
  rw[Array.toList_setIfInBounds,<-q6,List.take_set]
theorem land5_post {w:World}{j ob:Nat}{D:Nat->Prop}{q:Oq}{c:Cn}{v:Value}{p r:List In}{x:In}(h:CS w j ob D q c v (p++x :: r))(P:(p++x :: r).length<=4000) :
  Calls Tryz.prog 194 #[.pointer (some ⟨j,0,none⟩),.int .i64 (p.length:Int)] w (Laid5 w j ob D q c v (p++⟨x.op,((p++x :: r).length:Int),x.b⟩ :: r)):=by
 obtain⟨n,d⟩:∃n,n=(p++x :: r).length:=⟨_,rfl⟩
 obtain⟨i,k⟩:∃i,i=p.length:=⟨_,rfl⟩
 have H:i<n:=by rw[k,d];simp
 obtain⟨g,cap,f,rfl,z,l,A,B,C,o⟩:∃g cap f,v=.slice (some ⟨g,0,none⟩) n cap/\0<=g/\w.heap[g]?=some (.cells f 54 (0,0))/\n<=cap/\cap<=maxLen/\f.size=cap*3/\f.toList.take (n*3)=ics (p++x :: r):=by
  rcases h.cd.2 with⟨_,q0⟩|⟨g,cap,f,q0,q1,q2,q3,q4,q5,q6⟩
  ·omega
  ·exact⟨g,cap,f,by rw[d];exact q0,q1,q2,by rw[d];exact q3,q4,q5,by rw[d];exact q6⟩
 have Q:w.cell? ⟨j,0,none⟩=some (.pointer (some ⟨ob,0,none⟩)):=za h.wbk
 have R:w.cell? ⟨ob,6,none⟩=some (.slice (some ⟨g,0,none⟩) n cap):=za h.obk
 have S:w.cell? ⟨g,i*3+1,none⟩=some (.int .i64 x.a):=by
  rw[za l,<-Array.getElem?_toList]
  have e:(f.toList.take (n*3))[i*3+1]?=(ics (p++x :: r))[i*3+1]?:=by rw[o]
  rw[List.getElem?_take_of_lt (by omega)]at e
  rw[e,vy,jH,List.getElem?_append_right (by rw[jV];omega),jV,k]
  rw[show p.length*3+1-p.length*3=1 by omega]
  rfl
 have T:w.frozen? ⟨g,i*3+1,none⟩=false:=zg l
 have K:=zi h.wbk
 have J:=zi h.obk
 have I:=zi l
 have F:(i:Int)<(n:Int):=by omega
 have L:(n:Int)<=4000:=by omega
 have t:g≠ob:=fun e=>h.nb (by rw[e];rfl)
 have G:g≠j:=fun e=>(h.ok j h.dw).2.1 (by rw[e];rfl)
 have u:Hid (Laid5 w j ob D q c (.slice (some ⟨g,0,none⟩) n cap) (p++⟨x.op,(n:Int),x.b⟩ :: r) (.returned (.tuple #[])) (w.setCell ⟨g,i*3+1,none⟩ (.int .i64 (n:Int))).drew):=by
  have m:=h.cd
  rw[<-d]at m
  have s:Cg ob (.slice (some ⟨g,0,none⟩) n cap) w (.slice (some ⟨g,0,none⟩) n cap) (w.setCell ⟨g,i*3+1,none⟩ (.int .i64 (n:Int))).drew:=by
   refine⟨rfl,?_,rfl,?_,fun b O M E=>?_,fun _ q=>Or.inl q⟩
   ·simp
   ·simp
   ·exact Below.heap_setCell _ _ _ _ (by simpa using fun e:b=g=>E (by rw[e];rfl))
  refine⟨rfl,_,h.next s ?_ ?_ h.nb,s⟩
  ·exact(Below.heap_setCell _ _ _ _ (by simpa using fun e:ob=g=>t e.symm)).trans h.obk
  ·have y:(p++(⟨x.op,(n:Int),x.b⟩:In) :: r).length=n:=by rw[d];simp
   rw[y,ics_set p r x,<-k]
   exact owns_set m (by omega) (by omega)
 rw[<-d,<-k]
 have N:=zh h
 clear h z l A B C o d k
 go_enter Tryz.func194,Tryz.ntmps194
 go_wp2_with fail
 go_region
 all_goals go_wp2_with fail
 all_goals exact bodyPost_end (results_none rfl _ _ _) rfl u.out
theorem idx_at {l:List Bs}{n:Bs}{i:Nat}(b:i<l.length)(h:l[i]=n)(a:∀k (hk:k<l.length),k<i->l[k]≠n):Tp.idx l n=(i:Int):=by
 unfold Tp.idx
 have:l.findIdx? (fun s=>s==n)=some i:=by
  rw[List.findIdx?_eq_some_iff_getElem]
  exact⟨b,by simpa using h,fun j c=>by simpa using a j (by omega) c⟩
 rw[this]
theorem idx_no {l:List Bs}{n:Bs}(a:∀k (hk:k<l.length),l[k]≠n):Tp.idx l n=-1:=by
 unfold Tp.idx
 have:l.findIdx? (fun s=>s==n)=none:=by
  rw[List.findIdx?_eq_none_iff]
  intro x c
  obtain⟨j,b,rfl⟩:=List.getElem_of_mem c
  have:=a j b
  simpa using this
 rw[this]
theorem row_str {w:World}{D:Nat->Prop}{a:Option Addr}{c n:Nat}{l:List Bs}(h:Row w D 9 1 (.slice a n c) l.length (strs l))(i:Nat)(b:i<l.length):∃g,a=some ⟨g,0,none⟩/\g<w.heap.size/\w.cell? ⟨g,i,none⟩=some (.string (bs l[i])):=by
 rcases h with⟨_,q,_⟩|⟨g,cap,cur,q0,q1,q2,q3,q4,q5,q6⟩
 ·omega
 ·cases q0
  refine⟨g,rfl,zi q2,?_⟩
  have e:(strs l)[i]?=some (.string (bs l[i])):=by simp[strs,b]
  rw[za q2,<-Array.getElem?_toList,<-e,<-q6,List.getElem?_take_of_lt (by omega)]
theorem yF {w:World}{D:Nat->Prop}{a:Option Addr}{cap:Nat}{l:List Bs}(r:Row w D 9 1 (.slice a l.length cap) l.length (strs l))(H:l.length<=1000000)(x:Bs) :
  Calls Tryz.prog 43 #[.slice a l.length cap,.string (bs x)] w fun e w'=>e=.returned (.int .i64 (Tp.idx l x))/\w'=w:=by
 have v:(l.length:Int)<=1000000:=by omega
 have t:=zh r
 clear r
 obtain⟨b,j⟩:∃b,b=l.length:=⟨_,rfl⟩
 rw[<-j]at v ⊢
 have o:=zh j
 clear j
 go_enter Tryz.func43,Tryz.ntmps43
 go_wp2_with fail
 go_loopg [8] b (fun k B wr=>∃i:Nat,i<=b/\k=b-i/\B=.int .i64 (i:Int)/\Hid (∀k (c:k<l.length),k<i->l[k]≠x)/\wr=w)
 case atStart=>exact⟨0,by omega,by omega,rfl,fun k _ h=>by omega,rfl⟩
 case round =>
  obtain⟨i,E,c,rfl,n,rfl⟩:=hrel
  by_cases F:i<b
  ·have s:(i:Int)<(b:Int):=by omega
   have p:i<l.length:=by have:=o.out;omega
   obtain⟨g,rfl,C,G⟩:=row_str t.out i p
   obtain⟨d,hd⟩:∃d,((bs x).toList==(bs l[i]).toList)=d:=⟨_,rfl⟩
   have u:((bs l[i]).toList==(bs x).toList)=d:=by
    rw[<-hd,Bool.eq_iff_iff,beq_iff_eq,beq_iff_eq]
    exact eq_comm
   have f:Hid (d=true↔l[i]=x):=by
    show _↔_
    rw[<-u,zy,zy,beq_iff_eq]
   cases d with
   |true =>
    have m:Hid (Tp.idx l x=(i:Int)):=idx_at p (f.out.1 rfl) n.out
    clear f
    generalize bs l[i]=y at *
    go_wp2_with fail
    go_ret
    exact⟨congrArg (fun z=>Ending.returned (Value.int .i64 z)) m.out.symm,rfl⟩
   |false =>
    have A:Hid (∀k (c:k<l.length),k<i+1->l[k]≠x):=fun k c h=>by
     by_cases e:k=i
     ·subst e;intro q;have:=f.out.2 q;cases this
     ·exact n.out k c (by omega)
    clear f
    generalize bs l[i]=y at *
    go_wp2_with fail
    go_roundg (b-(i+1))
    case measure=>omega
    case rel=>exact⟨i+1,by omega,rfl,by go_num,A,rfl⟩
  ·have s:¬(i:Int)<(b:Int):=by omega
   have m:Hid (Tp.idx l x=-1):=idx_no fun k c=>n.out k c (by have:=o.out;omega)
   go_wp2_with fail
   go_ret
   exact⟨congrArg (fun z=>Ending.returned (Value.int .i64 z)) m.out.symm,rfl⟩
def uidx (us:List (Bs×List Bs)) (md:Bs):Int:=match us.findIdx? (fun u=>u.1==md) with
 |some i=>(i:Int)
 |none=>-1
theorem uidx_at {us:List (Bs×List Bs)}{a:Bs}{i:Nat}(c:i<us.length)(h:us[i].1=a)(b:∀k (hk:k<us.length),k<i->us[k].1≠a):us.findIdx? (fun u=>u.1==a)=some i:=by
 rw[List.findIdx?_eq_some_iff_getElem]
 exact⟨c,by simpa using h,fun j d=>by simpa using b j (by omega) d⟩
theorem uidx_no {us:List (Bs×List Bs)}{a:Bs}(b:∀k (hk:k<us.length),us[k].1≠a):us.findIdx? (fun u=>u.1==a)=none:=by
 rw[List.findIdx?_eq_none_iff]
 intro x d
 obtain⟨j,c,rfl⟩:=List.getElem_of_mem d
 have:=b j c
 simpa using this
theorem qp {w:World}{f x:Nat}{n j nd:ByteArray}{sv:Option Addr}{sl sc:Nat}(h:w.cell? ⟨f,0,none⟩=some (.pointer (some ⟨x,0,none⟩)))(i:w.cell? ⟨x,3,none⟩=some (.string j)) :
  Calls Tryz.prog 213 #[.agg #[.string n,.string nd,.slice sv sl sc],.pointer (some ⟨f,0,none⟩)] w fun e w'=>e=.returned (.bool (n.toList==j.toList))/\Below w.heap.size w w':=by
 obtain⟨a,d⟩:∃a,a=w.alloc (.cells #[.string n,.string nd,.slice sv sl sc] 128):=⟨_,rfl⟩
 obtain⟨b,g⟩:∃b,b=w.heap.size:=⟨_,rfl⟩
 have c:Below w.heap.size w a:=by rw[d];exact zb _ _
 have k:a.heap[b]?=some (.cells #[.string n,.string nd,.slice sv sl sc] 128 (0,0)):=by rw[d,g];exact zk _ _
 have m:a.cell? ⟨b,0,none⟩=some (.string n):=za k
 have o:a.cell? ⟨f,0,none⟩=some (.pointer (some ⟨x,0,none⟩)):=(c.cell (p:=⟨f,0,none⟩) (zc h)).trans h
 have r:a.cell? ⟨x,3,none⟩=some (.string j):=(c.cell (p:=⟨x,3,none⟩) (zc i)).trans i
 have s:=zc m
 have t:=zc o
 have u:=zc r
 have l:Hid (∀q,Below w.heap.size w (a.drewN q)):=fun q=>below_drewN c q
 clear c k h i
 go_enter Tryz.func213,Tryz.ntmps213
 go_upto_region 1 with fail
 rw[<-d,<-g]
 clear d g
 go_quiet (fail)
 go_wp2_with fail
 go_ret
 exact⟨rfl,l.out _⟩
theorem xm {w:World}{d:Nat}{n nm:ByteArray}{p l:Int}{s:Bool}(h:w.cell? ⟨d,0,none⟩=some (.string nm)) :
  Calls Tryz.prog 209 #[.agg #[.string n,.int .i64 p,.int .i64 l,.bool s],.pointer (some ⟨d,0,none⟩)] w fun e w'=>e=.returned (.bool (n.toList==nm.toList))/\Below w.heap.size w w':=by
 obtain⟨a,c⟩:∃a,a=w.alloc (.cells #[.string n,.int .i64 p,.int .i64 l,.bool s] 118):=⟨_,rfl⟩
 obtain⟨b,g⟩:∃b,b=w.heap.size:=⟨_,rfl⟩
 have f:Below w.heap.size w a:=by rw[c];exact zb _ _
 have i:a.heap[b]?=some (.cells #[.string n,.int .i64 p,.int .i64 l,.bool s] 118 (0,0)):=by rw[c,g];exact zk _ _
 have k:a.cell? ⟨b,0,none⟩=some (.string n):=za i
 have m:a.cell? ⟨d,0,none⟩=some (.string nm):=(f.cell (p:=⟨d,0,none⟩) (zc h)).trans h
 have o:=zc k
 have q:=zc m
 have j:=zh f
 clear f i h
 go_enter Tryz.func209,Tryz.ntmps209
 go_upto_region 1 with fail
 rw[<-c,<-g]
 clear c g
 go_wp2_with fail
 go_ret
 exact⟨rfl,j.out⟩
theorem row_at {w:World}{D:Nat->Prop}{e size:Nat}{a:Option Addr}{n c:Nat}{b:List Value}(h:Row w D e size (.slice a n c) n b)(f:0<n):∃g,a=some ⟨g,0,none⟩/\g<w.heap.size/\∀k,k<n*size->w.cell? ⟨g,k,none⟩=b[k]?:=by
 rcases h with⟨_,q,_⟩|⟨g,cap,cur,q0,q1,q2,q3,q4,q5,q6⟩
 ·omega
 ·cases q0
  exact⟨g,rfl,zi q2,fun k d=>by rw[za q2,<-Array.getElem?_toList,<-q6,List.getElem?_take_of_lt d]⟩
theorem vq {w:World}{D:Nat->Prop}{a:Option Addr}{cap s x:Nat}{us:List (Bs×List Bs)}{C:List Value}(M:Row w D 128 3 (.slice a us.length cap) us.length C)(N:UsR w D us C)(hn:us.length<=1000000){f:Bs}(O:w.cell? ⟨s,0,none⟩=some (.pointer (some ⟨x,0,none⟩)))(P:w.cell? ⟨x,3,none⟩=some (.string (bs f))) :
  Calls Tryz.prog 196 #[.slice a us.length cap,.func (.func 213) #[] #[.pointer (some ⟨s,0,none⟩)]] w fun e w'=>e=.returned (.int .i64 (uidx us f))/\Below w.heap.size w w':=by
 have U:(us.length:Int)<=1000000:=by omega
 have W:=zh M
 have X:=zh N
 have G:=zh O
 have H:=zh P
 clear M N O P
 obtain⟨b,m⟩:∃b,b=us.length:=⟨_,rfl⟩
 have u:=zh m
 rw[<-m]at U ⊢
 clear m
 go_enter Tryz.func196,Tryz.ntmps196
 go_wp2_with fail
 go_loopg [8] b (fun k vi wr=>∃i:Nat,i<=b/\k=b-i/\vi=.int .i64 (i:Int)/\Hid (∀k (c:k<us.length),k<i->us[k].1≠f)/\Hid (Below w.heap.size w wr))
 case atStart=>exact⟨0,by omega,by omega,rfl,fun k _ h=>by omega,Below.refl _ _⟩
 case round =>
  obtain⟨i,a0,c,rfl,r,j⟩:=hrel
  by_cases a1:i<b
  ·have R:(i:Int)<(b:Int):=by omega
   have B:i<us.length:=by have:=u.out;omega
   obtain⟨g,rfl,S,t⟩:=row_at W.out (by omega)
   obtain⟨nd,Q,nc,J,K,L,_⟩:=X.out i B
   have l:=fun k (c:k<us.length*3)=>(j.out.cell (p:=⟨g,k,none⟩) S).trans (t k c)
   have I:wr.cell? ⟨g,i*3,none⟩=some (.string (bs us[i].1)):=(l _ (by omega)).trans J
   have Y:wr.cell? ⟨g,i*3+1,none⟩=some (.string nd):=(l _ (by omega)).trans K
   have Z:wr.cell? ⟨g,i*3+2,none⟩=some (.slice Q us[i].2.length nc):=(l _ (by omega)).trans L
   have T:=zc I
   have E:=zh (qp (n:=bs us[i].1) (nd:=nd) (sv:=Q) (sl:=us[i].2.length) (sc:=nc) ((j.out.cell (p:=⟨s,0,none⟩) (zc G.out)).trans G.out) ((j.out.cell (p:=⟨x,3,none⟩) (zc H.out)).trans H.out))
   obtain⟨d,hd⟩:∃d,((bs us[i].1).toList==(bs f).toList)=d:=⟨_,rfl⟩
   have F:Hid (d=true↔us[i].1=f):=by
    show _↔_
    rw[<-hd,zy,zy,beq_iff_eq]
   rw[hd]at E
   clear hd l t J K L
   generalize bs us[i].1=y at *
   generalize us[i].2.length=yl at *
   go_wp2_with fail
   refine E.out.mono ?_
   rintro e w3⟨rfl,A⟩
   have v:Hid (Below w.heap.size w w3):=j.out.trans (A.mono j.out.size)
   clear A I Y Z T
   cases d with
   |true =>
    have o:Hid (uidx us f=(i:Int)):=by show _=_;unfold uidx;rw[uidx_at B (F.out.1 rfl) r.out]
    go_wp2_with fail
    go_ret
    exact⟨congrArg (fun z=>Ending.returned (Value.int .i64 z)) o.out.symm,v.out⟩
   |false =>
    have V:Hid (∀k (c:k<us.length),k<i+1->us[k].1≠f):=fun k c h=>by
     by_cases e:k=i
     ·subst e;intro q;have:=F.out.2 q;cases this
     ·exact r.out k c (by omega)
    go_wp2_with fail
    go_roundg (b-(i+1))
    case measure=>omega
    case rel=>exact⟨i+1,by omega,rfl,by go_num,V,v⟩
  ·have R:¬(i:Int)<(b:Int):=by omega
   have o:Hid (uidx us f=-1):=by show _=_;unfold uidx;rw[uidx_no fun k c=>r.out k c (by have:=u.out;omega)]
   go_wp2_with fail
   go_ret
   exact⟨congrArg (fun z=>Ending.returned (Value.int .i64 z)) o.out.symm,j.out⟩
theorem vm {w:World}{D:Nat->Prop}{a:Option Addr}{cap t:Nat}{vs:List Bs}{C:List Value}(M:Row w D 118 4 (.slice a vs.length cap) vs.length C)(N:VaR vs C)(hn:vs.length<=1000000){nm:Bs}(O:w.cell? ⟨t,0,none⟩=some (.string (bs nm))) :
  Calls Tryz.prog 197 #[.slice a vs.length cap,.func (.func 209) #[] #[.pointer (some ⟨t,0,none⟩)]] w fun e w'=>e=.returned (.int .i64 (Tp.idx vs nm))/\Below w.heap.size w w':=by
 have S:(vs.length:Int)<=1000000:=by omega
 have U:=zh M
 have V:=zh N
 have G:=zh O
 clear M N O
 obtain⟨b,m⟩:∃b,b=vs.length:=⟨_,rfl⟩
 have v:=zh m
 rw[<-m]at S ⊢
 clear m
 go_enter Tryz.func197,Tryz.ntmps197
 go_wp2_with fail
 go_loopg [8] b (fun k Z wr=>∃i:Nat,i<=b/\k=b-i/\Z=.int .i64 (i:Int)/\Hid (∀k (c:k<vs.length),k<i->vs[k]≠nm)/\Hid (Below w.heap.size w wr))
 case atStart=>exact⟨0,by omega,by omega,rfl,fun k _ h=>by omega,Below.refl _ _⟩
 case round =>
  obtain⟨i,a0,c,rfl,r,f⟩:=hrel
  by_cases a1:i<b
  ·have P:(i:Int)<(b:Int):=by omega
   have B:i<vs.length:=by have:=v.out;omega
   obtain⟨g,rfl,Q,u⟩:=row_at U.out (by omega)
   obtain⟨p,l,s,I,J,K,L⟩:=V.out i B
   have j:=fun k (c:k<vs.length*4)=>(f.out.cell (p:=⟨g,k,none⟩) Q).trans (u k c)
   have H:wr.cell? ⟨g,i*4,none⟩=some (.string (bs vs[i])):=(j _ (by omega)).trans I
   have W:wr.cell? ⟨g,i*4+1,none⟩=some (.int .i64 p):=(j _ (by omega)).trans J
   have X:wr.cell? ⟨g,i*4+2,none⟩=some (.int .i64 l):=(j _ (by omega)).trans K
   have Y:wr.cell? ⟨g,i*4+3,none⟩=some (.bool s):=(j _ (by omega)).trans L
   have R:=zc H
   have E:=zh (xm (n:=bs vs[i]) (p:=p) (l:=l) (s:=s) ((f.out.cell (p:=⟨t,0,none⟩) (zc G.out)).trans G.out))
   obtain⟨d,hd⟩:∃d,((bs vs[i]).toList==(bs nm).toList)=d:=⟨_,rfl⟩
   have F:Hid (d=true↔vs[i]=nm):=by
    show _↔_
    rw[<-hd,zy,zy,beq_iff_eq]
   rw[hd]at E
   clear hd j u I J K L
   generalize bs vs[i]=y at *
   go_wp2_with fail
   refine E.out.mono ?_
   rintro e w3⟨rfl,A⟩
   have x:Hid (Below w.heap.size w w3):=f.out.trans (A.mono f.out.size)
   clear A H W X Y R
   cases d with
   |true =>
    have o:Hid (Tp.idx vs nm=(i:Int)):=idx_at B (F.out.1 rfl) r.out
    go_wp2_with fail
    go_ret
    exact⟨congrArg (fun z=>Ending.returned (Value.int .i64 z)) o.out.symm,x.out⟩
   |false =>
    have T:Hid (∀k (c:k<vs.length),k<i+1->vs[k]≠nm):=fun k c h=>by
     by_cases e:k=i
     ·subst e;intro q;have:=F.out.2 q;cases this
     ·exact r.out k c (by omega)
    go_wp2_with fail
    go_roundg (b-(i+1))
    case measure=>omega
    case rel=>exact⟨i+1,by omega,rfl,by go_num,T,x⟩
  ·have P:¬(i:Int)<(b:Int):=by omega
   have o:Hid (Tp.idx vs nm=-1):=idx_no fun k c=>r.out k c (by have:=v.out;omega)
   go_wp2_with fail
   go_ret
   exact⟨congrArg (fun z=>Ending.returned (Value.int .i64 z)) o.out.symm,f.out⟩
theorem Laid5.from {w b:World}{d ob:Nat}{D:Nat->Prop}{q:Oq}{c:Cn}{v:Value}{a:List In}{e:Ending}{w':World}(j:Below w.heap.size w b)(h:Laid5 b d ob D q c v a e w'):Laid5 w d ob D q c v a e w':=by
 obtain⟨f,k,g,i⟩:=h
 exact⟨f,k,g,(Cg.below j).trans i⟩
theorem Laid5.then {w b:World}{d ob:Nat}{D:Nat->Prop}{q:Oq}{c:Cn}{v v1:Value}{a:List In}{e:Ending}{w':World}(j:Cg ob v w v1 b)(h:Laid5 b d ob D q c v1 a e w'):Laid5 w d ob D q c v a e w':=by
 obtain⟨f,k,g,i⟩:=h
 exact⟨f,k,g,j.trans i⟩
structure CnS (c:Cn):Prop where
 o:c.own.length<=1000
 u:c.uses.length<=1000
 n:∀u∈c.uses,u.2.length<=1000
 v:c.vars.length<=1000
 p:c.procs.length<=1000
theorem yN {w:World}{k ob:Nat}{D:Nat->Prop}{q:Oq}{c:Cn}{v:Value}{p:List In}(h:CS w k ob D q c v p)(r:CnS c)(nm:Bs) :
  Calls Tryz.prog 192 #[.pointer (some ⟨k,0,none⟩),.string (bs nm)] w fun e w'=>e=.returned (.int .i64 (Tp.idx c.vars nm))/\Below w.heap.size w w':=by
 obtain⟨d,f⟩:∃d,d=w.alloc (.cells #[.string (bs nm)] 9):=⟨_,rfl⟩
 obtain⟨b,i⟩:∃b,b=w.heap.size:=⟨_,rfl⟩
 have g:Below w.heap.size w d:=by rw[f];exact zb _ _
 have j:d.heap[b]?=some (.cells #[.string (bs nm)] 9 (0,0)):=by rw[f,i];exact zk _ _
 have a:=h.on g
 obtain⟨x,v1,v2⟩:=a.vr
 have o:=zh (vm v1 v2 (by have:=r.v;omega) (za j))
 have y:d.cell? ⟨k,0,none⟩=some (.pointer (some ⟨ob,0,none⟩)):=za a.wbk
 have A:d.cell? ⟨ob,3,none⟩=some (.slice q.va c.vars.length q.vc):=za a.obk
 have u:=zi a.wbk
 have t:=zi a.obk
 have s:=zi j
 have m:=zh g
 clear h a g j v1 v2
 generalize Tp.idx c.vars nm=z at *
 generalize c.vars.length=vl at *
 go_enter Tryz.func192,Tryz.ntmps192
 go_upto_region 1 with fail
 rw[<-f,<-i]
 clear f i
 go_wp2_with fail
 refine o.out.mono ?_
 rintro e B⟨rfl,l⟩
 have n:=zh l
 clear l
 go_wp2_with fail
 go_ret
 exact⟨rfl,m.out.trans (n.out.mono m.out.size)⟩
def mkA5:Value:=.agg mcs.toArray
theorem mk5_load {w:World}(h:MkC w):(Instr.loadAt 258 (.pointer (some ⟨3,0,none⟩))).run Tryz.prog w=.ok mkA5 w:=by
 have d:=jz (P:=Tryz.prog) (w:=w) ⟨3,0,none⟩ mcs 11 0 #[] (fun j _ g=>by have f:=h j (by omega);by_cases a:j=0<;>simpa[Addr.add,a] using f) (by decide)
 have b:(isAgg 258).run Tryz.prog w=.ok true w:=by kernel_rfl
 have c:(sizeOf 258).run Tryz.prog w=.ok 11 w:=by kernel_rfl
 simp only[Instr.loadAt,Instr.sureAddr,loadVar,loadCells,Sem.run_bind,Result.andThen]
 have e:mcs.take 11=mcs:=List.take_of_length_le (by decide)
 simp[b,c,d,mkA5,e]
theorem mk5_i0 (w:World):(Instr.index 258 mkA5 (.int .i64 0)).run Tryz.prog w=.ok (.string (bs (Tp.marks5.getD 0 []))) w:=by kernel_rfl
theorem mk5_i1 (w:World):(Instr.index 258 mkA5 (.int .i64 1)).run Tryz.prog w=.ok (.string (bs (Tp.marks5.getD 1 []))) w:=by kernel_rfl
theorem mk5_i2 (w:World):(Instr.index 258 mkA5 (.int .i64 2)).run Tryz.prog w=.ok (.string (bs (Tp.marks5.getD 2 []))) w:=by kernel_rfl
theorem mk5_i3 (w:World):(Instr.index 258 mkA5 (.int .i64 3)).run Tryz.prog w=.ok (.string (bs (Tp.marks5.getD 3 []))) w:=by kernel_rfl
theorem mk5_i4 (w:World):(Instr.index 258 mkA5 (.int .i64 4)).run Tryz.prog w=.ok (.string (bs (Tp.marks5.getD 4 []))) w:=by kernel_rfl
theorem mk5_i5 (w:World):(Instr.index 258 mkA5 (.int .i64 5)).run Tryz.prog w=.ok (.string (bs (Tp.marks5.getD 5 []))) w:=by kernel_rfl
theorem mk5_i6 (w:World):(Instr.index 258 mkA5 (.int .i64 6)).run Tryz.prog w=.ok (.string (bs (Tp.marks5.getD 6 []))) w:=by kernel_rfl
theorem mk5_i7 (w:World):(Instr.index 258 mkA5 (.int .i64 7)).run Tryz.prog w=.ok (.string (bs (Tp.marks5.getD 7 []))) w:=by kernel_rfl
theorem mk5_i8 (w:World):(Instr.index 258 mkA5 (.int .i64 8)).run Tryz.prog w=.ok (.string (bs (Tp.marks5.getD 8 []))) w:=by kernel_rfl
theorem mk5_i9 (w:World):(Instr.index 258 mkA5 (.int .i64 9)).run Tryz.prog w=.ok (.string (bs (Tp.marks5.getD 9 []))) w:=by kernel_rfl
theorem mk5_i10 (w:World):(Instr.index 258 mkA5 (.int .i64 10)).run Tryz.prog w=.ok (.string (bs (Tp.marks5.getD 10 []))) w:=by kernel_rfl
theorem mk5_idx (w:World):∀(k:Nat),k<11->(Instr.index 258 mkA5 (.int .i64 (k:Int))).run Tryz.prog w=.ok (.string (bs (Tp.marks5.getD k []))) w:=by
 intro k a
 match k,a with
 | 0,_=>exact mk5_i0 w
 | 1,_=>exact mk5_i1 w
 | 2,_=>exact mk5_i2 w
 | 3,_=>exact mk5_i3 w
 | 4,_=>exact mk5_i4 w
 | 5,_=>exact mk5_i5 w
 | 6,_=>exact mk5_i6 w
 | 7,_=>exact mk5_i7 w
 | 8,_=>exact mk5_i8 w
 | 9,_=>exact mk5_i9 w
 | 10,_=>exact mk5_i10 w
theorem xH:Tp.marks5.length=11:=rfl
theorem mark5_post {w:World}(h:MkC w)(op:Bs) :
  Calls Tryz.prog 216 #[.string (bs op)] w fun e w'=>e=.returned (.int .i64 (Tp.idx Tp.marks5 op))/\w'=w:=by
 have n:=mk5_load h
 clear h
 go_enter Tryz.func216,Tryz.ntmps216
 go_wp2_with (refine yM rfl 258 (.global 3) rfl mkA5 n ?_)
 go_loopg [6] 11 (fun k p wr=>∃i:Nat,i<=11/\k=11-i/\p=.int .i64 (i:Int)/\Hid (∀k (a:k<Tp.marks5.length),k<i->Tp.marks5[k]≠op)/\wr=w)
 case atStart=>exact⟨0,by omega,by omega,rfl,fun k _ h=>by omega,rfl⟩
 case round =>
  obtain⟨i,r,a,rfl,f,rfl⟩:=hrel
  by_cases j:i<11
  ·have l:(i:Int)<11:=by omega
   have g:i<Tp.marks5.length:=by rw[xH];exact j
   have m:=mk5_idx wr i j
   rw[show Tp.marks5.getD i []=Tp.marks5[i] by simp[List.getD_eq_getElem?_getD,List.getElem?_eq_getElem g]]at m
   obtain⟨d,hd⟩:∃d,((bs Tp.marks5[i]).toList==(bs op).toList)=d:=⟨_,rfl⟩
   have b:Hid (d=true↔Tp.marks5[i]=op):=by
    show _↔_
    rw[<-hd,zy,zy,beq_iff_eq]
   cases d with
   |true =>
    have c:Hid (Tp.idx Tp.marks5 op=(i:Int)):=idx_at g (b.out.1 rfl) f.out
    clear b
    generalize bs Tp.marks5[i]=y at *
    go_wp2_with fail
    go_ret
    exact⟨congrArg (fun z=>Ending.returned (Value.int .i64 z)) c.out.symm,rfl⟩
   |false =>
    have o:Hid (∀k (a:k<Tp.marks5.length),k<i+1->Tp.marks5[k]≠op):=fun k a h=>by
     by_cases e:k=i
     ·subst e;intro q;have:=b.out.2 q;cases this
     ·exact f.out k a (by omega)
    clear b
    generalize bs Tp.marks5[i]=y at *
    go_wp2_with fail
    go_roundg (11-(i+1))
    case measure=>omega
    case rel=>exact⟨i+1,by omega,rfl,by go_num,o,rfl⟩
  ·have l:¬(i:Int)<11:=by omega
   have c:Hid (Tp.idx Tp.marks5 op=-1):=idx_no fun k a=>f.out k a (by have:=xH;omega)
   go_wp2_with fail
   go_ret
   exact⟨congrArg (fun z=>Ending.returned (Value.int .i64 z)) c.out.symm,rfl⟩
end Go.Proofs.YtmocelfkmdpogaaGreatDoor
