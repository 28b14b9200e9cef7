import Derived.Test.YtibncofnnlbmcaaGreatDoorLQh
import Derived.Test.YtibncofnnlbmcaaGreatDoorLQa
import Derived.Test.YtibncofnnlbmcaaGreatDoorKPc
import Derived.Test.YtibncofnnlbmcaaGreatDoorKWk
import Derived.KernelRfl
import Derived.Laws.IdiomStrings
set_option maxRecDepth 100000
set_option maxHeartbeats 4000000
namespace Go.Proofs.YtibncofnnlbmcaaGreatDoor
open Go.RowKit Go.Maps
open Tp (Bs X S G Pr Pt Rs Rr Own)
theorem MD.prc {w:World}{D:Nat->Prop}{m:Tp.M}{k x d p:Option Addr}{l g r t:Nat}(j:MD w D m k x d p l g r t):PrC w m.procs d:=by
 refine⟨fun i A=>?_⟩
 obtain⟨c,I,vv,G,E,e,hd,F,a,y,q,H,n⟩:=j.procs i A
 obtain⟨s,c3,rfl⟩:=y.shape
 obtain⟨C,v,rfl⟩:=q.shape
 obtain⟨B,h,rfl⟩:=n.shape
 have b:∀o u,w.cell? ⟨c,o,none⟩=some u->w.cell? ⟨c,o,none⟩=some u:=fun o u z=>z
 have f:=zg (b _ _ (a 0 (by omega)))
 exact⟨c,_,s,C,B,_,_,_,c3,v,h,e,f,b _ _ (a 0 (by omega)),b _ _ (a 1 (by omega)),b _ _ (a 2 (by omega)),b _ _ (a 3 (by omega)),b _ _ (a 4 (by omega)),b _ _ (a 5 (by omega))⟩
def cwF (w:World):Cx:=⟨w,w.heap.size,0,[]⟩
theorem rprocD {w:World}{D:Nat->Prop}{m:Tp.M}{x E j z:Option Addr}{y u d C c U:Nat}(A:w.heap[c]?=some (.cells (lcells m x E j z y u d C U) 107 (0,0)))(G:MD w D m x E j z y u d C)(R:m.procs.length<=1000)(nm:Bs) :
  Calls Tryz.prog 54 #[.pointer (some ⟨c,0,none⟩),.string (bs nm)] w fun e w'=>∃v,e=.returned (.pointer v)/\ProcP (cwF w) m nm v/\Below w.heap.size w w':=by
 have t:MD w (cwF w).D m x E j z y u d C:=G.mono (fun b _ V=>⟨rfl,V,fun ⟨_,q,_⟩=>by cases q⟩)
 have N:=zf A
 have Z:(m.procs.length:Int)<=1000:=by omega
 have r:Below w.heap.size w (w.alloc (.cells #[.string (bs nm)] 9)):=zb _ _
 have k:=(r.block _ N).trans A
 have T:(w.alloc (.cells #[.string (bs nm)] 9)).cell? ⟨c,3,none⟩=some (.slice j m.procs.length d):=(za k).trans rfl
 have S:Hid (PrC (w.alloc (.cells #[.string (bs nm)] 9)) m.procs j):=t.prc.on r
 have l:=zh (jB (cp:=d) S.out R nm w.heap.size ((za (zo _ _)).trans rfl))
 have o:=zh r
 have H:c<(w.alloc (.cells #[.string (bs nm)] 9)).heap.size:=zf k
 have a1:=zm
 have Q:=zh t
 have a2:=zh k
 clear A t G k r
 rcases pidx_in (m:=m) (n:=nm) with⟨g,h⟩|⟨i,hi,g,h⟩
 ·rw[h]at l
  have B:Hid (∀v,v=none->ProcP (cwF w) m nm v):=fun v X=>by unfold ProcP;rw[g];exact X
  clear g h
  generalize m.procs.length=ln at *
  go_enter Tryz.func54,Tryz.ntmps54
  go_wp2_with fail
  refine l.out.mono ?_
  rintro e w2⟨rfl,a⟩
  have s:Hid (Below w.heap.size w w2):=o.out.trans (a.mono o.out.size)
  clear a
  go_wp2_with fail
  go_ret
  exact⟨_,rfl,B.out _ rfl,s.out⟩
 ·rw[g]at l
  obtain⟨F,Y,vv,W,O,e,hd,P,f,L,K,I,J⟩:=Q.out.procs i hi
  subst e
  have B:Hid (ProcP (cwF w) m nm (some ⟨F,i*6,none⟩)):=by
   show ProcP _ _ _ _
   unfold ProcP
   rw[h]
   exact⟨F,i*6,rfl,⟨hd,f 0 (by omega),f 2 (by omega),Y,vv,W,O,f 3 (by omega),f 4 (by omega),f 5 (by omega),L,K,I,J⟩⟩
  have a5:(i:Int)<(m.procs.length:Int):=by omega
  have a4:¬(i:Int)<0:=by omega
  clear g h hd P f L K I J hi
  generalize m.procs.length=ln at *
  go_enter Tryz.func54,Tryz.ntmps54
  go_wp2_with fail
  refine l.out.mono ?_
  rintro e w2⟨rfl,a⟩
  have s:Hid (Below w.heap.size w w2):=o.out.trans (a.mono o.out.size)
  have a3:w2.cell? ⟨c,3,none⟩=some (.slice (some ⟨F,0,none⟩) ln d):=(a.cell (p:=⟨c,3,none⟩) H).trans T
  have a0:c<w2.heap.size:=Nat.lt_of_lt_of_le H a.size
  clear a
  go_wp2_with fail
  go_ret
  exact⟨_,rfl,B.out,s.out⟩
theorem WW.more {X:Nat->Prop}{w w':World}{k:Nat}{L:List Lo}{P:List Pt}{i:Value}{f:Nat}(h:WW X w k L P i f)(c:Below w.heap.size w w'):WW (fun b=>X b\/w.heap.size<=b) w' k L P i f:=by
 have y:=zf h.blk
 have x:f<w.heap.size:=by obtain⟨n,_,l⟩:=h.th;exact l.lt
 have A:∀b,i.ownBlock=some b->b<w.heap.size:=fun b e=>(h.nm.lt b e).2
 have d:∀b,StB X L k f i b->b<w.heap.size->w'.heap[b]?=w.heap[b]?/\StB (fun b=>X b\/w.heap.size<=b) L k f i b:=fun b u a=>⟨c.block b a,fun q=>q.elim u.1 (fun z=>by omega),u.2⟩
 refine⟨(c.block _ y).trans h.blk,⟨fun q=>q.elim h.xw.1 (fun z=>by omega),h.xw.2⟩,zH h.nm (fun b _ a _=>c.block b a),fun b e=>⟨fun q=>q.elim (h.nx b e).1 (fun z=>by have:=A b e;omega),(h.nx b e).2⟩,⟨fun q=>q.elim h.tx.1 (fun z=>by omega),h.tx.2⟩,?_,fun lo a=>?_,fun b o=>⟨Nat.lt_of_lt_of_le (h.sv b o).1 c.size,fun q=>q.elim (h.sv b o).2 (fun z=>by have:=(h.sv b o).1;omega)⟩,h.nd,h.inj,fun lo a=>?_,h.mw⟩
 ·obtain⟨n,F,l⟩:=h.th
  exact⟨n,F,l.on (c.block _ x)⟩
 ·obtain⟨⟨C,J,O,E,D,B,G,H,m,M⟩,t,v,⟨n,r⟩,N⟩:=h.lo lo a
  exact⟨⟨C,J,O,E,D,B,G,H,((d _ t (zf m)).1).trans m,M.mono d⟩,(d _ t (zf m)).2,(d _ v r.lt).2,⟨n,r.on (d _ v r.lt).1⟩,N⟩
 ·obtain⟨p,I,K,s⟩:=h.vals lo a
  exact⟨p,I,K,fun g j=>⟨(s g j).1,(c.block _ (h.sv _ ⟨lo,a,g,j,rfl⟩).1).trans (s g j).2.1,(s g j).2.2⟩⟩
def nOf:Rr Int->Int
 | .ok v _=>v
 | _=>0
def WayN (c:Cx) (w1:World) (xn:Nat) (r:Rr Int) (way:Int) (w2:World):Prop:=∃w3,WayA c w1 r way w3/\Ext xn w3 w2/\w2.heap[xn]?=some (.cells #[.int .i64 (nOf r)] 2 (0,0))
theorem call1_post {X:Nat->Prop}{w:World}{wb:Nat}{L:List Lo}{P:List Pt}{nv:Value}{a fuel o n u d ac gas:Nat}{z:Option Addr}{nm:Bs}{p:Pr}{vs:List Int}(h:WW X w wb L P nv a)(hf:fuel<=800000){lo:Lo}(U:lo∈L)(Q:Tp.procIn lo.m nm=some p)(J:vs.length=p.params.length)(H:∀v∈vs,Tp.I64 v)(K:IntsAt w vs z)
  (F:w.cell? ⟨o,0,none⟩=some (.pointer (some ⟨lo.lb,0,none⟩)))(D:w.cell? ⟨n,0,none⟩=some (.string (bs nm)))(C:w.cell? ⟨u,0,none⟩=some (.slice z vs.length ac))(G:w.heap[d]?=some (.cells #[.int .i64 0] 2 (0,0)))(S:X d)
  (x:Tp.callP gas 0 lo.m.name p vs ⟨P,fuel,[]⟩≠.gas) :
  Calls Tryz.prog 55 #[.pointer (some ⟨w.heap.size+1,0,none⟩),.pointer (some ⟨o,0,none⟩),.pointer (some ⟨n,0,none⟩),.pointer (some ⟨u,0,none⟩),.pointer (some ⟨d,0,none⟩)] (goesW w (some a) (fuel:Int)) fun e w2=>GoHeld w (goesW w (some a) (fuel:Int)) w2/\((e=.returned (.tuple #[])/\WayN (cxOf w a fuel L) (goesW w (some a) (fuel:Int)) d (Tp.callP gas 0 lo.m.name p vs ⟨P,fuel,[]⟩) 1 w2)\/∃way:Int,thrE endT way e/\WayN (cxOf w a fuel L) (goesW w (some a) (fuel:Int)) d (Tp.callP gas 0 lo.m.name p vs ⟨P,fuel,[]⟩) way w2):=by
 obtain⟨A,I,B⟩:=h.cx fuel hf
 have O:∀b,VLo L b->b<w.heap.size:=fun b i=>(h.sv b i).1
 have i:=yi w (some a) (fuel:Int)
 have hs:=yv w (some a) (fuel:Int)
 have N:=zh (fun w2 k s=>held_of (w2:=w2) (k:=k) (s:=s) A B O)
 have T:=zf G
 have R:Hid (∀w2,Kp (cxOf w a fuel L) nY (goesW w (some a) (fuel:Int)) w2->w2.heap[d]?=some (.cells #[.int .i64 0] 2 (0,0))):=fun w2 hk =>
  ((hk.block d (by omega) (by show d≠w.heap.size+1;omega) (fun q=>(h.sv d q).2 S) (B d) (fun q=>q)).trans (i.block d T)).trans G
 have E:=zh ((run_all A gas).cl 0 lo nm p vs (goesW w (some a) (fuel:Int)) ⟨P,fuel,[]⟩ z ac U Q J H I (K.on i) x)
 have M:(cxOf w a fuel L).gb=w.heap.size+1:=rfl
 rw[M]at E
 have k1:(goesW w (some a) (fuel:Int)).cell? ⟨o,0,none⟩=some (.pointer (some ⟨lo.lb,0,none⟩)):=(i.cell (p:=⟨o,0,none⟩) (zg F)).trans F
 have Z:(goesW w (some a) (fuel:Int)).cell? ⟨n,0,none⟩=some (.string (bs nm)):=(i.cell (p:=⟨n,0,none⟩) (zg D)).trans D
 have W:(goesW w (some a) (fuel:Int)).cell? ⟨u,0,none⟩=some (.slice z vs.length ac):=(i.cell (p:=⟨u,0,none⟩) (zg C)).trans C
 have a0:o<(goesW w (some a) (fuel:Int)).heap.size:=zg k1
 have a1:n<(goesW w (some a) (fuel:Int)).heap.size:=zg Z
 have a2:u<(goesW w (some a) (fuel:Int)).heap.size:=zg W
 clear h A I B O i F D C G S K H
 generalize cxOf w a fuel L=c at *
 generalize goesW w (some a) (fuel:Int)=w1 at *
 generalize Tp.callP gas 0 lo.m.name p vs ⟨P,fuel,[]⟩=r at *
 generalize vs.length=vn at *
 generalize bs nm=nb at *
 clear M J Q
 cases r with
 |gas=>exact absurd rfl x
 |stop way s' =>
  clear x
  go_enter Tryz.func55,Tryz.ntmps55
  go_wp2_with fail
  refine E.out.mono ?_
  rintro e f⟨⟨older,rfl⟩,⟨k',j⟩,g⟩
  have t:Hid (GoHeld w w1 f/\WayN c w1 d (.stop way s':Rr Int) (way:Int) f):=⟨N.out _ _ _ j g,f,⟨rfl,k',j,g⟩,Ext.refl _ _,R.out _ g⟩
  clear j g
  go_wp2_with fail
  exact⟨rfl,t.out.1,Or.inr ⟨(way:Int),⟨older,rfl⟩,t.out.2⟩⟩
 |ok r1 s' =>
  clear x
  go_enter Tryz.func55,Tryz.ntmps55
  go_wp2_with fail
  refine E.out.mono ?_
  rintro e f⟨rfl,j,g,_,_⟩
  have l:=R.out _ g
  have t:Hid (GoHeld w w1 (f.setCell ⟨d,0,none⟩ (.int .i64 r1))/\WayN c w1 d (.ok r1 s') 1 (f.setCell ⟨d,0,none⟩ (.int .i64 r1))):=by
   obtain⟨g1,Y,V,on,oc,g3⟩:=N.out _ _ _ j g
   have y:Ext d f (f.setCell ⟨d,0,none⟩ (.int .i64 r1)):=(Ext.refl _ _).set 0 _
   have a4:=g.size
   exact⟨⟨(y.block _ (by omega) (by omega)).trans g1,(y.block _ (by omega) (by omega)).trans Y,V,on,oc,(World.cell?_of_block (w:=f) (y.block _ (by show w.heap.size+1<_;omega) (by show w.heap.size+1≠_;omega))).trans g3⟩,f,⟨rfl,0,j,g⟩,y,zu 0 (.int .i64 r1) l⟩
  have n0:f.cell? ⟨d,0,none⟩=some (.int .i64 0):=(za l).trans rfl
  have nz:f.frozen? ⟨d,0,none⟩=false:=zi l
  have a3:=zf l
  clear j g l
  go_wp2_with fail
  exact bodyPost_end (results_none rfl _ _ _) rfl ⟨t.out.1,Or.inl ⟨rfl,t.out.2⟩⟩
structure GonQ (X:Nat->Prop) (w:World) (wb:Nat) (L:List Lo) (nv:Value) (tb xn:Nat) (P':List Pt) (out:List Int) (n:Int) (oa:Option Addr) (w':World):Prop where
 ww:WW X w' wb L P' nv tb
 keep:∀b,b<w.heap.size->b≠xn->¬VLo L b->w'.heap[b]?=w.heap[b]?
 nn:w'.heap[xn]?=some (.cells #[.int .i64 n] 2 (0,0))
 it:IntsAt w' out oa
 oi:∀v∈out,Tp.I64 v
 ol:out.length<=200
 far:∀a,oa=some a->w.heap.size<=a.block
 size:w.heap.size<=w'.heap.size
 os:w'.os=w.os
 tape:w'.tape=w.tape
 output:w'.output=w.output
theorem WW.after2 {X:Nat->Prop}{w w2 w':World}{o:Nat}{L:List Lo}{P:List Pt}{t:Value}{c fuel k f:Nat}{s:Rs}(h:WW X w o L P t c)(B:fuel<=800000)(n:GS (cxOf w c fuel L) w2 s k)(r:Kp (cxOf w c fuel L) nY (goesW w (some c) (fuel:Int)) w2)(m:∀b,b<w2.heap.size->b≠w.heap.size->b≠f->w'.heap[b]?=w2.heap[b]?)(E:w2.heap.size<=w'.heap.size)(u:X f):WW X w' o L s.w t c/\∀b,b<w.heap.size->b≠f->¬VLo L b->w'.heap[b]?=w.heap[b]?:=by
 obtain⟨F,D,x⟩:=h.cx fuel B
 have C:=yi w (some c) (fuel:Int)
 have H:=yv w (some c) (fuel:Int)
 have G:=r.size
 have l:∀b,b<w.heap.size->b≠f->¬VLo L b->w'.heap[b]?=w.heap[b]?:=fun b a y j =>
  ((m b (by omega) (by omega) y).trans (r.block b (by omega) (by show b≠w.heap.size+1;omega) j (x b) (fun q=>q))).trans (C.block b a)
 refine⟨h.keep (fun b a v j=>l b a (fun e=>v (e ▸ u)) j) (by omega) (fun lo a=>?_) n.mw,l⟩
 obtain⟨p,z,A,i⟩:=n.vals lo a
 exact⟨p,z,A,fun g d=>⟨(i g d).1,(m _ (zf (i g d).2.1) (by have:=(h.sv _ ⟨lo,a,g,d,rfl⟩).1;omega) (fun e=>(h.sv _ ⟨lo,a,g,d,rfl⟩).2 (e ▸ u))).trans (i g d).2.1,(i g d).2.2⟩⟩
theorem gone2 {X:Nat->Prop}{w w':World}{y:Nat}{L:List Lo}{P:List Pt}{z:Value}{c fuel i:Nat}{r:Rr Int}{e:Ending}(h:WW X w y L P z c)(T:fuel<=800000)(V:X i)(a3:i<w.heap.size)(O:GoesP w (WayN (cxOf w c fuel L) (goesW w (some c) (fuel:Int)) i r) e w') :
  ∃l o,e=.returned (.agg #[.int .i64 ((Tp.endOf r).2.way:Int),.slice l (Tp.endOf r).2.out.length o])/\GonQ X w y L z c i (Tp.endOf r).1 (Tp.endOf r).2.out (nOf r) l w':=by
 obtain⟨w2,Y,l,S,o,⟨n,t,j,E⟩,U,D,m⟩:=O
 have F:w'.heap[i]?=some (.cells #[.int .i64 (nOf r)] 2 (0,0)):=(m.block i (zf E) (by omega)).trans E
 have B:∀b,b<n.heap.size->b≠w.heap.size->b≠i->w'.heap[b]?=n.heap[b]?:=fun b d u p=>(m.block b (by have:=j.size;omega) u).trans (j.block b d p)
 have J:n.heap.size<=w'.heap.size:=by have:=m.size;have:=j.size;omega
 have C:∀(s:Rs) (k:Nat),GS (cxOf w c fuel L) n s k->Kp (cxOf w c fuel L) nY (goesW w (some c) (fuel:Int)) n->S=s.out.length/\GonQ X w y L z c i s.w s.out (nOf r) l w':=by
  intro s k g f
  have d:=yi w (some c) (fuel:Int)
  have a2:=d.size
  have Z:=yv w (some c) (fuel:Int)
  have a1:=f.size
  obtain⟨H,I⟩:=h.after2 T g f B J V
  obtain⟨N,u,p⟩:=g.outIs
  have A:w2.cell? ⟨w.heap.size+1,3,none⟩=some N:=(World.cell?_of_block (w:=n) (j.block (w.heap.size+1) (by omega) (by omega))).trans u
  rw[U]at A
  have Q:=(Option.some.inj A).symm
  rw[Q]at p
  have G:=zH (w':=w') p (fun b d M _=>B b M (by have:w.heap.size+1+1<=b:=d;omega) (by have:w.heap.size+1+1<=b:=d;omega))
  obtain⟨a0,W,v,R,K,_⟩:=uM G
  injection v with v e4 e5
  subst v
  exact⟨e4,H,I,F,R,g.oi,g.ol,fun a q=>by have:w.heap.size+1+1<=a.block:=K a q;omega,by omega,((m.os.trans j.os).trans f.os).trans d.os,((m.tape.trans j.tape).trans f.tape).trans d.tape,((m.output.trans j.output).trans f.output).trans d.output⟩
 cases r with
 |gas=>exact t.elim
 |ok x s=>obtain⟨rfl,k,g,f⟩:=t;obtain⟨rfl,q⟩:=C s k g f;exact⟨l,o,D,q⟩
 |stop wy s=>obtain⟨rfl,k,g,f⟩:=t;obtain⟨rfl,q⟩:=C s k g f;exact⟨l,o,D,q⟩
def CallP (X:Nat->Prop) (w:World) (wb:Nat) (L:List Lo) (nv:Value) (tb:Nat) (r:Rr Int) (e:Ending) (w':World):Prop:=∃oa oc,e=.returned (.tuple #[.agg #[.int .i64 ((Tp.endOf r).2.way:Int),.slice oa (Tp.endOf r).2.out.length oc],.int .i64 (nOf r),.nilIface])/\WW X w' wb L (Tp.endOf r).1 nv tb/\IntsAt w' (Tp.endOf r).2.out oa/\(∀v∈(Tp.endOf r).2.out,Tp.I64 v)/\(∀b,b<w.heap.size->¬VLo L b->w'.heap[b]?=w.heap[b]?)/\w.heap.size<=w'.heap.size/\w'.os=w.os/\w'.tape=w.tape/\w'.output=w.output/\(Tp.endOf r).2.out.length<=200/\∀a,oa=some a->w.heap.size<=a.block
structure Ext2 (a b:Nat) (w w':World):Prop where
 os:w'.os=w.os
 tape:w'.tape=w.tape
 output:w'.output=w.output
 size:w.heap.size<=w'.heap.size
 block:∀k,k<w.heap.size->k≠a->k≠b->w'.heap[k]?=w.heap[k]?
theorem Ext2.refl (a b:Nat)(w:World):Ext2 a b w w:=⟨rfl,rfl,rfl,Nat.le_refl _,fun _ _ _ _=>rfl⟩
theorem Ext2.set {a b:Nat}{w w':World}(h:Ext2 a b w w'){c:Nat}(l:c=a\/c=b)(i:Nat)(v:Value):Ext2 a b w (w'.setCell ⟨c,i,none⟩ v):=by
 have d:Ext c w' (w'.setCell ⟨c,i,none⟩ v):=(Ext.refl _ _).set i _
 exact⟨d.os.trans h.os,d.tape.trans h.tape,d.output.trans h.output,Nat.le_trans h.size d.size,fun k g j f=>(d.block k (Nat.lt_of_lt_of_le g h.size) (fun e=>l.elim (fun z=>j (e.trans z)) (fun z=>f (e.trans z)))).trans (h.block k g j f)⟩
theorem Ext2.drew {a b:Nat}{w w':World}(h:Ext2 a b w w'):Ext2 a b w w'.drew:=⟨h.os,h.tape,h.output,h.size,h.block⟩
theorem call_ok {X:Nat->Prop}{w:World}{C:Nat}{L:List Lo}{P:List Pt}{nv:Value}{Q fuel ac gas:Nat}{F:Option Addr}{nm:Bs}{p:Pr}{vs:List Int}(h:WW X w C L P nv Q)(hf:fuel<=800000){lo:Lo}(a4:lo∈L)(hp:Tp.procIn lo.m nm=some p)(b9:p.seen=true)(a9:vs.length=p.params.length)(b6:∀v∈vs,Tp.I64 v)(d2:IntsAt w vs F)(e2:lo.m.name.length<=1000000)(g3:vs.length<=1000000)
  (b7:Tp.callP gas 0 lo.m.name p vs ⟨P,fuel,[]⟩≠.gas) :
  Calls Tryz.prog 27 #[.pointer (some ⟨C,0,none⟩),.string (bs lo.m.name),.string (bs nm),.slice F vs.length ac,.int .i64 (fuel:Int)] w (CallP X w C L nv Q (Tp.callP gas 0 lo.m.name p vs ⟨P,fuel,[]⟩)):=by
 obtain⟨x,E⟩:∃x,x=(((w.alloc (.cells #[.string (bs nm)] 9)).alloc (.cells #[.slice F vs.length ac] 29)).alloc (.cells #[.int .i64 0,.slice none 0 0] 43)).alloc (.cells #[.int .i64 0] 2):=⟨_,rfl⟩
 obtain⟨u,U⟩:∃u,u=x.alloc (.cells #[.pointer (some ⟨lo.lb,0,none⟩)] 88):=⟨_,rfl⟩
 have c8:x.heap.size=w.heap.size+4:=by rw[E];simp
 have a3:Below w.heap.size w x:=by rw[E];exact(((zb _ _).alloc (by simp) _).alloc (by simp;omega) _).alloc (by simp;omega) _
 have J:Below x.heap.size x u:=by rw[U];exact zb _ _
 have a0:Below w.heap.size w u:=a3.trans (J.mono (by omega))
 have f5:u.heap.size=w.heap.size+5:=by rw[U];simp[c8]
 have q0:x.heap[w.heap.size]?=some (.cells #[.string (bs nm)] 9 (0,0)):=by rw[E];exact(((Below.heap_alloc _ _ _ (by simp;omega)).trans (Below.heap_alloc _ _ _ (by simp;omega))).trans (Below.heap_alloc _ _ _ (by simp))).trans (zo _ _)
 have q1:x.heap[w.heap.size+1]?=some (.cells #[.slice F vs.length ac] 29 (0,0)):=by
  have:=zo (w.alloc (.cells #[.string (bs nm)] 9)) (.cells #[.slice F vs.length ac] 29)
  rw[E];exact((Below.heap_alloc _ _ _ (by simp)).trans (Below.heap_alloc _ _ _ (by simp))).trans (by simpa using this)
 have q2:x.heap[w.heap.size+2]?=some (.cells #[.int .i64 0,.slice none 0 0] 43 (0,0)):=by
  have:=zo ((w.alloc (.cells #[.string (bs nm)] 9)).alloc (.cells #[.slice F vs.length ac] 29)) (.cells #[.int .i64 0,.slice none 0 0] 43)
  rw[E];exact(Below.heap_alloc _ _ _ (by simp)).trans (by simpa using this)
 have q3:x.heap[w.heap.size+3]?=some (.cells #[.int .i64 0] 2 (0,0)):=by
  have:=zo (((w.alloc (.cells #[.string (bs nm)] 9)).alloc (.cells #[.slice F vs.length ac] 29)).alloc (.cells #[.int .i64 0,.slice none 0 0] 43)) (.cells #[.int .i64 0] 2)
  rw[E];simpa using this
 have q4:u.heap[w.heap.size+4]?=some (.cells #[.pointer (some ⟨lo.lb,0,none⟩)] 88 (0,0)):=by
  have:=zo x (.cells #[.pointer (some ⟨lo.lb,0,none⟩)] 88)
  rw[c8]at this
  rw[U];exact this
 have p0:=(J.block _ (zf q0)).trans q0
 have p1:=(J.block _ (zf q1)).trans q1
 have p2:=(J.block _ (zf q2)).trans q2
 have p3:=(J.block _ (zf q3)).trans q3
 have c5:=zf h.blk
 have k1:x.cell? ⟨C,1,none⟩=some (.map (some Q)):=(za ((a3.block _ c5).trans h.blk)).trans rfl
 have d8:(Instr.lookup 26 (.map (some Q)) (.string (bs lo.m.name)) false).run Tryz.prog x=.ok (.pointer (some ⟨lo.lb,0,none⟩)) x:=by
  obtain⟨n,_,hm⟩:=h.th
  have h1:=(hm.on (a3.block _ hm.lt)).look (t:=26) Tryz.underlying26 (zeroLo _) lo.m.name e2 false
  rw[h1]
  have:thrL L lo.m.name=some (.pointer (some ⟨lo.lb,0,none⟩)):=by
   unfold thrL
   rw[(Tp.find_key (key:=fun lo:Lo=>lo.m.name) h.nd lo).2 ⟨a4,rfl⟩]
   rfl
  simp[this]
 have c0:=h.more a0
 obtain⟨⟨ia,ga,pa,ba,ic,gc,pc,bc,m1,m2⟩,_,_,_,b1⟩:=c0.lo lo a4
 have c4:=zh (rprocD m1 m2 (by have:=b1.wm.pc;omega) nm)
 obtain⟨r,hr⟩:∃r,r=Tp.callP gas 0 lo.m.name p vs ⟨P,fuel,[]⟩:=⟨_,rfl⟩
 have c1:Hid (∀v,ProcP (cwF u) lo.m nm v->∃A o Y W,v=some ⟨A,o,none⟩/\u.cell? ⟨A,o+2,none⟩=some (.bool true)/\u.cell? ⟨A,o+3,none⟩=some (.slice Y vs.length W)):=by
  intro v D
  unfold ProcP at D
  rw[hp]at D
  obtain⟨A,o,e,q⟩:=D
  obtain⟨pv,vv,bv,f3,r1,r2,r3,r4,_⟩:=q.r
  obtain⟨Y,W,rfl⟩:=r4.shape
  exact⟨A,o,Y,W,e,by have:=q.sn;rw[b9]at this;exact this,by rw[a9];exact r1⟩
 have d1:Hid (∀z,Below u.heap.size u z->Calls Tryz.prog 41 #[.pointer (some ⟨C,0,none⟩),.int .i64 (fuel:Int),.func (.func 55) #[] #[.pointer (some ⟨w.heap.size+4,0,none⟩),.pointer (some ⟨w.heap.size,0,none⟩),.pointer (some ⟨w.heap.size+1,0,none⟩),.pointer (some ⟨w.heap.size+3,0,none⟩)]] z fun e s=>∃f k,e=.returned (.agg #[.int .i64 ((Tp.endOf r).2.way:Int),.slice f (Tp.endOf r).2.out.length k])/\s.heap[w.heap.size+2]?=some (.cells #[.int .i64 0,.slice none 0 0] 43 (0,0))/\s.heap[w.heap.size+3]?=some (.cells #[.int .i64 (nOf r)] 2 (0,0))/\∀d,d.os=s.os->d.tape=s.tape->d.output=s.output->s.heap.size<=d.heap.size->(∀b,b<s.heap.size->b≠w.heap.size+2->b≠w.heap.size+3->d.heap[b]?=s.heap[b]?)->CallP X w C L nv Q r (.returned (.tuple #[.agg #[.int .i64 ((Tp.endOf r).2.way:Int),.slice f (Tp.endOf r).2.out.length k],.int .i64 (nOf r),.nilIface])) d):=by
  intro z y
  have G:Below w.heap.size w z:=a0.trans (y.mono (by omega))
  have f4:=y.size
  have a1:=h.more G
  have t0:=(y.block _ (zf p0)).trans p0
  have t1:=(y.block _ (zf p1)).trans p1
  have t2:=(y.block _ (zf p2)).trans p2
  have t3:=(y.block _ (zf p3)).trans p3
  have t4:=(y.block _ (zf q4)).trans q4
  have hX:(fun b=>X b\/w.heap.size<=b) (w.heap.size+3):=Or.inr (by omega)
  have d0:=call1_post (gas:=gas) a1 hf a4 hp a9 b6 (d2.on G) ((za t4).trans rfl) ((za t0).trans rfl) ((za t1).trans rfl) t3 hX b7
  rw[<-hr]at d0
  have d9:=vS (caps:=#[.pointer (some ⟨w.heap.size+4,0,none⟩),.pointer (some ⟨w.heap.size,0,none⟩),.pointer (some ⟨w.heap.size+1,0,none⟩),.pointer (some ⟨w.heap.size+3,0,none⟩)]) cf_call ((za a1.blk).trans rfl) d0
  refine d9.mono ?_
  intro e s hG
  obtain⟨f,k,he,l⟩:=gone2 a1 hf hX (by omega) hG
  have e7:∀b,w.heap.size<=b->¬VLo L b:=fun b H q=>(a1.sv _ q).2 (Or.inr H)
  have h9:=l.size
  refine⟨f,k,he,(l.keep _ (by omega) (by omega) (e7 _ (by omega))).trans t2,l.nn,fun d o1 o2 o3 o4 o5=>?_⟩
  refine⟨f,k,rfl,(l.ww.keep (fun b H d3 D=>o5 b H (fun e=>d3 (Or.inr (by omega))) (fun e=>d3 (Or.inr (by omega)))) o4 (fun a6 hl=>?_) l.ww.mw).less (fun b H=>Or.inl H),⟨fun i hi=>?_⟩,l.oi,fun b H D=>?_,by omega,(o1.trans l.os).trans G.os,(o2.trans l.tape).trans G.tape,(o3.trans l.output).trans G.output,l.ol,fun a q=>by have:=l.far a q;have:=G.size;omega⟩
  ·obtain⟨p',e5,e3,Z⟩:=l.ww.vals a6 hl
   exact⟨p',e5,e3,fun g O=>⟨(Z g O).1,(o5 _ (zf (Z g O).2.1) (fun e=>(l.ww.sv _ ⟨a6,hl,g,O,rfl⟩).2 (Or.inr (by omega))) (fun e=>(l.ww.sv _ ⟨a6,hl,g,O,rfl⟩).2 (Or.inr (by omega)))).trans (Z g O).2.1,(Z g O).2.2⟩⟩
  ·obtain⟨b,o,u1,u2,u3⟩:=l.it.c i hi
   have e8:z.heap.size<=b:=l.far _ u1
   exact⟨b,o,u1,by omega,(World.cell?_of_block (w:=s) (o5 b u2 (by omega) (by omega))).trans u3⟩
  ·exact((o5 b (by omega) (by omega) (by omega)).trans (l.keep b (by omega) (by omega) D)).trans (G.block b H)
 have k5:u.cell? ⟨w.heap.size+4,0,none⟩=some (.pointer (some ⟨lo.lb,0,none⟩)):=(za q4).trans rfl
 have k6:u.cell? ⟨w.heap.size,0,none⟩=some (.string (bs nm)):=(za p0).trans rfl
 have a5:=zh p1
 have b0:Hid (u.heap[C]?=some (.cells #[nv,.map (some Q)] 28 (0,0))):=(a0.block _ c5).trans h.blk
 rw[<-hr]
 clear h a4 hp b9 b6 d2 b7 q0 q1 q2 q3 q4 p0 p1 p2 p3 c0 m1 m2 b1 a3 J a0 hr
 have f2:(vs.length:Int)<=1000000:=by omega
 clear a9
 generalize vs.length=vn at *
 generalize bs lo.m.name=lmn at *
 generalize bs nm=pnm at *
 generalize (Tp.endOf r).2.out.length=on at *
 go_enter Tryz.func27,Tryz.ntmps27
 go_upto_region 1 with fail
 rw[<-E]
 clear E
 go_upto_region 2 with fail
 rw[<-U,show w.heap.size+1+1+1=w.heap.size+3 from rfl,show w.heap.size+1+1=w.heap.size+2 from rfl]
 clear U d8 k1
 go_wp2_with fail
 refine c4.out.mono ?_
 rintro e z⟨v,rfl,D,y⟩
 obtain⟨A,o,Y,W,rfl,c2,c3⟩:=c1.out v D
 have c9:z.cell? ⟨A,o+2,none⟩=some (.bool true):=(y.cell (p:=⟨A,o+2,none⟩) (zg c2)).trans c2
 have e4:z.cell? ⟨A,o+3,none⟩=some (.slice Y vn W):=(y.cell (p:=⟨A,o+3,none⟩) (zg c3)).trans c3
 have k8:z.cell? ⟨w.heap.size+1,0,none⟩=some (.slice F vn ac):=(za ((y.block _ (zf a5.out)).trans a5.out)).trans rfl
 have f9:A<z.heap.size:=zg c9
 have d5:C<z.heap.size:=zf ((y.block _ (zf b0.out)).trans b0.out)
 have c6:=zh y
 clear D y c2 c3 k5 k6 c4 c1 a5 b0
 go_upto_region 7 with fail
 go_quiet (fail)
 obtain⟨V,a2⟩:∃V,V=z.drewN nq:=⟨_,rfl⟩
 have b8:Hid (Below u.heap.size u V):=by rw[a2];exact below_drewN c6.out _
 have e9:C<V.heap.size:=by rw[a2];exact d5
 rw[<-a2]
 clear a2 c9 e4 k8
 have HG:=zh (d1.out V b8.out)
 go_wp2_with fail
 refine HG.out.mono ?_
 rintro e s⟨f,k,rfl,N,a8,b2⟩
 have b3:=zu 1 (.slice f on k) (zu 0 (.int .i64 ((Tp.endOf r).2.way:Int)) N)
 obtain⟨d,R⟩:∃d,d=(s.setCell ⟨w.heap.size+2,0,none⟩ (.int .i64 ((Tp.endOf r).2.way:Int))).setCell ⟨w.heap.size+2,1,none⟩ (.slice f on k):=⟨_,rfl⟩
 have M:d.heap[w.heap.size+2]?=some (.cells #[.int .i64 ((Tp.endOf r).2.way:Int),.slice f on k] 43 (0,0)):=by rw[R];exact b3
 have b4:Ext2 (w.heap.size+2) (w.heap.size+3) s d:=by rw[R];exact((Ext2.refl _ _ _).set (Or.inl rfl) 0 _).set (Or.inl rfl) 1 _
 have b5:Ext (w.heap.size+2) s d:=by rw[R];exact((Ext.refl _ _).set 0 _).set 1 _
 have T:d.heap[w.heap.size+3]?=some (.cells #[.int .i64 (nOf r)] 2 (0,0)):=(b5.block _ (zf a8) (by omega)).trans a8
 have e0:s.cell? ⟨w.heap.size+2,0,none⟩=some (.int .i64 0):=(za N).trans rfl
 have e1:s.cell? ⟨w.heap.size+2,1,none⟩=some (.slice none 0 0):=(za N).trans rfl
 have ez:∀j,s.frozen? ⟨w.heap.size+2,j,none⟩=false:=fun j=>zi N
 have f7:=zf N
 have K:=zh b4
 have d7:=zh b2
 have f0:d.cell? ⟨w.heap.size+2,0,none⟩=some (.int .i64 ((Tp.endOf r).2.way:Int)):=(za M).trans rfl
 have f1:d.cell? ⟨w.heap.size+2,1,none⟩=some (.slice f on k):=(za M).trans rfl
 have fz:∀j,d.frozen? ⟨w.heap.size+2,j,none⟩=false:=fun j=>zi M
 have n0:d.cell? ⟨w.heap.size+3,0,none⟩=some (.int .i64 (nOf r)):=(za T).trans rfl
 have nz:d.frozen? ⟨w.heap.size+3,0,none⟩=false:=zi T
 have f8:=zf M
 have e6:=zf T
 have d4:=zh M
 have d6:=zh T
 clear N a8 b2 b3 M T b4 b5 HG d1 c6 b8
 generalize (Tp.endOf r).2.way=wy at *
 generalize f6:nOf r=nn at *
 go_upto_region 10 with fail
 rw[<-R]
 clear R e0 e1 ez
 go_region
 obtain⟨B,S⟩:∃B,B=(((d.setCell ⟨w.heap.size+2,0,none⟩ (.int .i64 (wy:Int))).setCell ⟨w.heap.size+2,1,none⟩ (.slice f on k)).setCell ⟨w.heap.size+3,0,none⟩ (.int .i64 nn)).drew:=⟨_,rfl⟩
 have I:Ext2 (w.heap.size+2) (w.heap.size+3) d B:=by rw[S];exact((((Ext2.refl _ _ _).set (Or.inl rfl) 0 _).set (Or.inl rfl) 1 _).set (Or.inr rfl) 0 _).drew
 have a7:B.heap[w.heap.size+2]?=some (.cells #[.int .i64 (wy:Int),.slice f on k] 43 (0,0)):=by
  rw[S]
  have hx:Ext (w.heap.size+3) ((d.setCell ⟨w.heap.size+2,0,none⟩ (.int .i64 (wy:Int))).setCell ⟨w.heap.size+2,1,none⟩ (.slice f on k)) (((d.setCell ⟨w.heap.size+2,0,none⟩ (.int .i64 (wy:Int))).setCell ⟨w.heap.size+2,1,none⟩ (.slice f on k)).setCell ⟨w.heap.size+3,0,none⟩ (.int .i64 nn)):=(Ext.refl _ _).set 0 _
  have hs:=zu 1 (.slice f on k) (zu 0 (.int .i64 (wy:Int)) d4.out)
  exact(hx.block _ (zf hs) (by omega)).trans hs
 have c7:B.heap[w.heap.size+3]?=some (.cells #[.int .i64 nn] 2 (0,0)):=by
  rw[S]
  have hx:Ext (w.heap.size+2) d ((d.setCell ⟨w.heap.size+2,0,none⟩ (.int .i64 (wy:Int))).setCell ⟨w.heap.size+2,1,none⟩ (.slice f on k)):=((Ext.refl _ _).set 0 _).set 1 _
  exact zu 0 (.int .i64 nn) ((hx.block _ e6 (by omega)).trans d6.out)
 have g0:B.cell? ⟨w.heap.size+2,0,none⟩=some (.int .i64 (wy:Int)):=(za a7).trans rfl
 have g1:B.cell? ⟨w.heap.size+2,1,none⟩=some (.slice f on k):=(za a7).trans rfl
 have g2:B.cell? ⟨w.heap.size+3,0,none⟩=some (.int .i64 nn):=(za c7).trans rfl
 have HR:=zh (d7.out B (I.os.trans K.out.os) (I.tape.trans K.out.tape) (I.output.trans K.out.output) (Nat.le_trans K.out.size I.size) (fun b h1 h2 h3=>(I.block b (Nat.lt_of_lt_of_le h1 K.out.size) h2 h3).trans (K.out.block b h1 h2 h3)))
 rw[<-S]
 clear S I a7 c7 f0 f1 fz n0 nz
 go_wp2_with fail
 exact bodyPost_ret (v:=.tuple #[.agg #[.int .i64 (wy:Int),.slice f on k],.int .i64 nn,.nilIface]) (by simp[results,Tryz.results27,go_sem,g0,g1,g2]) rfl HR.out
theorem eq_one {w:World}{c d b2 f c1 c2:Nat}{x:Int}(g:w.cell? ⟨c,d,none⟩=some (.int .i64 x))(h:w.cell? ⟨b2,f,none⟩=some (.int .i64 x)) :
  Calls Tryz.prog 24 #[.slice (some ⟨c,d,none⟩) 1 c1,.slice (some ⟨b2,f,none⟩) 1 c2] w fun e w'=>e=.returned (.bool true)/\Below w.heap.size w w':=by
 have k:c<w.heap.size:=zg g
 have j:b2<w.heap.size:=zg h
 go_enter Tryz.func24,Tryz.ntmps24
 go_wp2_with fail
 refine wp_loop_rounds 2 ?_
 rw[rounds_succ]
 go_upto_region 6 with fail
 go_quiet (fail)
 obtain⟨b,a⟩:∃b,b=w.drewN nq:=⟨_,rfl⟩
 have i:Hid (Below w.heap.size w b):=by rw[a];exact below_drewN (Below.refl _ _) _
 rw[<-a]
 clear a
 go_wp2_with fail
 rw[rounds_succ]
 go_wp2_with fail
 go_ret
 exact⟨rfl,i.out⟩
end Go.Proofs.YtibncofnnlbmcaaGreatDoor
namespace Tp
def txtR:Bs:=[109,111,100,117,108,101,32,109,59,32,118,97,114,32,120,58,32,105,110,116,59,32,112,114,111,99,32,102,42,40,97,41,59,32,98,101,103,105,110,32,120,32,58,61,32,120,32,43,32,97,59,32,114,101,116,117,114,110,32,120,32,42,32,50,59,32,101,110,100,59,32,98,101,103,105,110,32,119,114,105,116,101,32,102,40,51,41,59,32,101,110,100,46]
def modR:M:=⟨[109],[],[⟨[120],14,0,false⟩],[⟨[102],22,true,[[97]],[],[⟨1,40,[120],[],[⟨5,45,0,[],[],[43],[⟨2,45,0,[],[120],[],[],[],[]⟩],[⟨2,49,0,[],[97],[],[],[],[]⟩],[]⟩],[],[]⟩,⟨4,52,[],[],[⟨5,59,0,[],[],[42],[⟨2,59,0,[],[120],[],[],[],[]⟩],[⟨1,63,2,[],[],[],[],[],[]⟩],[]⟩],[],[]⟩]⟩],[⟨5,77,[],[],[⟨6,83,0,[],[102],[],[],[],[⟨1,85,3,[],[],[],[],[],[]⟩]⟩],[],[]⟩]⟩
theorem parseR:parse txtR=.ok modR:=by kernel_rfl
theorem checkR:check modR (fun _=>none)=none:=by simp[check,imps,tw,checkP,rs,rx,judge,stand,kindOf,ownOf,modR]
def fR:Pr:=modR.procs.headD ⟨[],0,false,[],[],[]⟩
def goesR:Bool:=match goS 60 0 [109] (fun _=>none) modR.body ⟨[⟨modR,fresh modR⟩],100,[]⟩ with
 | .ok r s1=>r.2.isNone&&s1.out==[6]&&(match callP 60 0 [109] fR [4] ⟨s1.w,100,[]⟩ with
  | .ok v s2=>v==14&&s2.out==[]
  | _=>false)
 | _=>false
theorem goesR_is:goesR=true:=by kernel_rfl
theorem ranR (a:M->List Sy):(loadW a [] modR 100).err=none/\(loadW a [] modR 100).e=⟨1,[6]⟩/\(callW (loadW a [] modR 100).w [109] [102] [4] 100).err=none/\(callW (loadW a [] modR 100).w [109] [102] [4] 100).e.way=1/\(callW (loadW a [] modR 100).w [109] [102] [4] 100).n=14:=by
 have h:=goesR_is
 unfold goesR at h
 have D:seenW a []=fun _=>none:=by funext k;rfl
 cases b:goS 60 0 [109] (fun _=>none) modR.body ⟨[⟨modR,fresh modR⟩],100,[]⟩ with
 |stop way s1=>rw[b]at h;simp at h
 |gas=>rw[b]at h;simp at h
 |ok r s1 =>
  rw[b]at h
  simp only[Bool.and_eq_true]at h
  obtain⟨⟨g,F⟩,c⟩:=h
  have A:goS (gasOf [⟨modR,fresh modR⟩] modR.body 100) 0 [109] (fun _=>none) modR.body ⟨[⟨modR,fresh modR⟩],100,[]⟩=.ok r s1:=by
   rw[<-b];exact goS_gas goS_enough (by rw[b];simp)
  have E:loadW a [] modR 100=⟨s1.w,⟨1,s1.out⟩,0,none⟩:=by
   unfold loadW
   rw[if_neg (by simp[partOf]),D,checkR]
   simp only
   rw[if_neg (by simp)]
   show (Ans.mk (endOf (goS (gasOf [⟨modR,fresh modR⟩] modR.body 100) 0 [109] (fun _=>none) modR.body ⟨[⟨modR,fresh modR⟩],100,[]⟩)).1 (endOf (goS (gasOf [⟨modR,fresh modR⟩] modR.body 100) 0 [109] (fun _=>none) modR.body ⟨[⟨modR,fresh modR⟩],100,[]⟩)).2 0 none)=_
   rw[A]
   rfl
  have u:s1.out=[6]:=by simpa using F
  have x:ms s1.w=[modR]:=by
   have:=endOf_ms (n:=60) (k:=0) (md:=[109]) (own:=fun _=>none) (l:=modR.body) (s:=⟨[⟨modR,fresh modR⟩],100,[]⟩) (by rw[b];simp)
   rw[b]at this
   exact this
  have C:∃p,partOf s1.w [109]=some p/\p.m=modR:=by
   have:=xd s1.w [109]
   rw[x]at this
   cases t:partOf s1.w [109] with
   |none=>rw[t]at this;simp[partM,modR]at this
   |some p =>
    rw[t]at this
    refine⟨p,rfl,?_⟩
    have e:partM [modR] [109]=some modR:=by simp[partM,modR]
    rw[e]at this
    simpa using this
  obtain⟨p,i,j⟩:=C
  cases f:callP 60 0 [109] fR [4] ⟨s1.w,100,[]⟩ with
  |stop way s2=>rw[f]at c;simp at c
  |gas=>rw[f]at c;simp at c
  |ok v s2 =>
   rw[f]at c
   simp only[Bool.and_eq_true]at c
   have y:v=14:=by simpa using c.1
   have B:callP (nd (bodySz s1.w) 100 0) 0 [109] fR [4] ⟨s1.w,100,[]⟩=.ok v s2:=by
    have z:callP (nd (bodySz s1.w) 100 0) 0 [109] fR [4] ⟨s1.w,100,[]⟩≠.gas:=callP_enough (by
     have g:=bodySz_bd s1.w 100 [] p (part_name i).1 fR (by rw[j];simp[fR,modR])
     exact g)
    have G:=xz (d:=60) z
    have o:=xz (d:=nd (bodySz s1.w) 100 0) (n:=60) (k:=0) (md:=[109]) (p:=fR) (vs:=[4]) (s:=⟨s1.w,100,[]⟩) (by rw[f];simp)
    rw[Nat.add_comm]at o
    rw[<-G,o,f]
   have ec:callW s1.w [109] [102] [4] 100=⟨s2.w,⟨1,s2.out⟩,14,none⟩:=by
    unfold callW
    rw[i]
    simp only[Option.bind_some]
    rw[j]
    show (match (some fR:Option Pr) with
     |none=>(⟨s1.w,no,0,some (7,none)⟩:Ans)
     |some q=>if q.params.length≠[(4:Int)].length then ⟨s1.w,no,0,some (2,none)⟩
      else
       let r:=callP (nd (bodySz s1.w) 100 0) 0 [109] q [4] ⟨s1.w,100,[]⟩
       ⟨(endOf r).1,(endOf r).2,(match r with | .ok v _=>v|_=>0),none⟩)=_
    simp only
    rw[if_neg (by simp[fR,modR]),B]
    simp[endOf,y]
   rw[E]
   exact⟨rfl,by rw[u],by rw[ec],by rw[ec],by rw[ec]⟩
end Tp
namespace Go.Proofs.YtibncofnnlbmcaaGreatDoor
open Go.RowKit Go.Maps
open Tp (Bs X S G Pr Pt Rs Rr Own)
def fd (u:Int):Int:=IntKind.u64.wrap (97+bits .and .u64 u 15) % 256
def bd (u:Int):UInt8:=UInt8.ofNat (fd u).toNat
def twoB (u:Int):ByteArray:=⟨#[bd u,bd (u / 16)]⟩
def it4 (s:ByteArray) (u:Int):Nat->ByteArray×Int
 | 0=>(s,u)
 |j+1=>((it4 s u j).1++twoB (it4 s u j).2,(it4 s u j).2 / 256)
def numS (s:ByteArray) (x:Int):ByteArray:=(it4 s (IntKind.u64.wrap x) 8).1
def varS (P:List Pt) (n:Bs) (s:ByteArray) (v:Bs):ByteArray:=match Tp.getW P n v with
 |none=>s++⟨#[45]⟩
 |some xs=>xs.foldl numS (s++bs v)
def vars5:List Bs:=[[120],[121],[116],[117],[122]]
def modS (P:List Pt) (s:ByteArray) (n:Bs):ByteArray:=vars5.foldl (varS P n) (s++bs n)++⟨#[59]⟩
def allB (P:List Pt):ByteArray:=(P.map fun p=>p.m.name).foldl (modS P) ⟨#[]⟩
theorem bd_nat (u:Int):((bd u).toNat:Int)=fd u:=by
 have h:0<=fd u/\fd u<256:=by unfold fd;omega
 unfold bd
 rw[UInt8.toNat_ofNat_of_lt' (by show _<256;omega)]
 omega
theorem it4_size (s:ByteArray)(u:Int)(j:Nat):(it4 s u j).1.size=s.size+2*j:=by
 induction j with
 |zero=>rfl
 |succ j ih =>
  show ((it4 s u j).1++twoB (it4 s u j).2).size=_
  rw[ByteArray.size_append,ih]
  show _+2=_
  omega
theorem vA (a:List Int):∀s:ByteArray,(a.foldl numS s).size=s.size+16*a.length:=by
 induction a with
 |nil=>intro s;rfl
 |cons x t ih =>
  intro s
  show (t.foldl numS (numS s x)).size=_
  rw[ih]
  unfold numS
  rw[it4_size,List.length_cons]
  omega
theorem jD {α β:Type}(f:β->α->β)(a:β)(l:List α)(i:Nat)(b:i<l.length):(l.take (i+1)).foldl f a=f ((l.take i).foldl f a) l[i]:=by
 rw[List.take_succ_eq_append_getElem b,List.foldl_append]
 rfl
theorem WW.getlen {X:Nat->Prop}{w:World}{n:Nat}{L:List Lo}{P:List Pt}{q:Value}{j:Nat}(h:WW X w n L P q j){lo:Lo}(b:lo∈L){nm:Bs}{d:List Int}(a:Tp.getW P lo.m.name nm=some d):d.length<=30:=by
 obtain⟨p,i,o,k⟩:=h.vals lo b
 obtain⟨_,_,_,_,f⟩:=h.lo lo b
 unfold Tp.getW at a
 rw[i,Option.bind_some,o]at a
 split at a
 ·rename_i s
  obtain⟨g,c,r⟩:=List.any_eq_true.1 s
  have e:g.name=nm:=by simpa using r
  cases a
  have:=(k g c).1
  rw[e]at this
  have t:=(f.wm.g g c).l
  rw[this]
  unfold vlen
  split<;>omega
 ·cases a
theorem var_size {P:List Pt}{n v:Bs}(c:v.length=1)(b:∀a,Tp.getW P n v=some a->a.length<=30)(s:ByteArray):(varS P n s v).size<=s.size+500:=by
 unfold varS
 split
 ·rw[ByteArray.size_append]
  show _+1<=_
  omega
 ·rename_i a h
  rw[vA,ByteArray.size_append,yz,c]
  have:=b a h
  omega
theorem Tryz.convB (W:World)(b:Nat)(u:Int)(c:W.cell? ⟨b,0,none⟩=some (.int .u8 (fd u)))(d:W.cell? ⟨b,1,none⟩=some (.int .u8 (fd (u / 16)))):(convert 81 9 (.slice (some ⟨b,0,none⟩) 2 2)).run Tryz.prog W=.ok (.string (twoB u)) W:=by
 refine run_convert_bytes_back (P:=Tryz.prog) W 81 9 5 ⟨b,0,none⟩ 2 [bd u,bd (u / 16)] Tryz.underlying81 Tryz.underlying5 Tryz.underlying9 ?_
 intro j a
 rw[Addr.add_lit]
 match j,a with
 | 0,_=>rw[c];exact congrArg (fun z=>some (Value.int .u8 z)) (bd_nat u).symm
 | 1,_=>rw[d];exact congrArg (fun z=>some (Value.int .u8 z)) (bd_nat (u / 16)).symm
 |k+2,hk=>exact absurd hk (by simp)
end Go.Proofs.YtibncofnnlbmcaaGreatDoor
