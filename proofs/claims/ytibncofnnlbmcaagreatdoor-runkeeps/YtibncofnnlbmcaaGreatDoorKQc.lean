import Derived.Test.YtibncofnnlbmcaaGreatDoorKQb
import Derived.Test.YtibncofnnlbmcaaGreatDoorKMb
import Derived.Test.YtibncofnnlbmcaaGreatDoorKMa
import Derived.Deep.RegionHeld3
set_option maxRecDepth 100000
set_option maxHeartbeats 4000000
namespace Go.Proofs.YtibncofnnlbmcaaGreatDoor
open Go.RowKit Go.Maps
open Tp (Bs X S G Pr Pt Rs Rr Own)
theorem proc1_post (x n:Bs)(b c:Value)(o p q:Option Addr)(k l m c3 d f:Nat)(x1:Int)(x2:Bool)(g:b=.int .i64 x1)(i:c=.bool x2)(W:World)(a:Nat)(j:W.cell? ⟨a,0,none⟩=some (.string (bs n))) :
  Calls Tryz.prog 98 #[.agg #[.string (bs x),b,c,.slice o k c3,.slice p l d,.slice q m f],.pointer (some ⟨a,0,none⟩)] W fun e w'=>e=.returned (.bool (decide (x=n)))/\Below W.heap.size W w':=by
 subst g i
 have r:=World.block_lt_of_cell? _ _ j
 by_cases h:x=n
 ·subst h
  go_enter Tryz.func98,Tryz.ntmps98
  go_wp2_with fail
  go_ret
  exact⟨by simp,zb _ _⟩
 ·have s:¬bs x=bs n:=fun e=>h (bs_inj e)
  go_enter Tryz.func98,Tryz.ntmps98
  go_wp2_with fail
  go_ret
  exact⟨by simp[h,zj],zb _ _⟩
structure PrC (w:World) (l:List Pr) (pa:Option Addr):Prop where
 c:∀i (hi:i<l.length),∃pb x1 y3 y4 y5 n3 n4 n5 c3 c4 c5,pa=some ⟨pb,0,none⟩/\pb<w.heap.size/\w.cell? ⟨pb,i*6,none⟩=some (.string (bs l[i].name))/\w.cell? ⟨pb,i*6+1,none⟩=some (.int .i64 x1)/\w.cell? ⟨pb,i*6+2,none⟩=some (.bool l[i].seen)/\w.cell? ⟨pb,i*6+3,none⟩=some (.slice y3 n3 c3)/\w.cell? ⟨pb,i*6+4,none⟩=some (.slice y4 n4 c4)/\w.cell? ⟨pb,i*6+5,none⟩=some (.slice y5 n5 c5)
theorem PrC.on {w w':World}{l:List Pr}{f:Option Addr}(h:PrC w l f)(k:Below w.heap.size w w'):PrC w' l f:=by
 refine⟨fun i v=>?_⟩
 obtain⟨b,x1,B,C,D,y,z,A,c3,g,j,e,d,m,n,q,r,s,t⟩:=h.c i v
 have a:∀o u,w.cell? ⟨b,o,none⟩=some u->w'.cell? ⟨b,o,none⟩=some u:=fun o u x=>(k.cell (p:=⟨b,o,none⟩) d).trans x
 exact⟨b,x1,B,C,D,y,z,A,c3,g,j,e,Nat.lt_of_lt_of_le d k.size,a _ _ m,a _ _ n,a _ _ q,a _ _ r,a _ _ s,a _ _ t⟩
def pidx (l:List Pr) (n:Bs):Int:=match l.findIdx? (fun p=>p.name==n) with
 |some i=>(i:Int)
 |none=>-1
theorem pidx_at {l:List Pr}{n:Bs}{i:Nat}(b:i<l.length)(h:l[i].name=n)(a:∀k (hk:k<i),l[k].name≠n):pidx l n=(i:Int):=by
 unfold pidx
 have:l.findIdx? (fun s=>s.name==n)=some i:=by
  rw[List.findIdx?_eq_some_iff_getElem]
  exact⟨b,by simpa using h,fun j c=>by simpa using a j c⟩
 rw[this]
theorem pidx_no {l:List Pr}{n:Bs}(b:∀k (a:k<l.length),l[k].name≠n):pidx l n=-1:=by
 unfold pidx
 have:l.findIdx? (fun s=>s.name==n)=none:=by
  rw[List.findIdx?_eq_none_iff]
  intro x c
  obtain⟨k,a,rfl⟩:=List.getElem_of_mem c
  simpa using b k a
 rw[this]
theorem pidx_in {m:Tp.M}{n:Bs}:(Tp.procIn m n=none/\pidx m.procs n=-1)\/∃i,∃a:i<m.procs.length,pidx m.procs n=(i:Int)/\Tp.procIn m n=some m.procs[i]:=by
 unfold pidx Tp.procIn
 cases h:m.procs.findIdx? (fun p=>p.name==n) with
 |none =>
  refine Or.inl ⟨?_,rfl⟩
  rw[List.findIdx?_eq_none_iff]at h
  rw[List.find?_eq_none]
  intro x e
  simpa using h x e
 |some i =>
  rw[List.findIdx?_eq_some_iff_getElem]at h
  obtain⟨a,b,c⟩:=h
  refine Or.inr ⟨i,a,rfl,?_⟩
  rw[List.find?_eq_some_iff_getElem]
  exact⟨b,i,a,rfl,fun j d=>by simpa using c j d⟩
theorem jK {w:World}{a:Option Addr}{cp:Nat}{l:List Pr}(h:PrC w l a)(hn:l.length<=1000)(n:Bs)(g:Nat)(r:w.cell? ⟨g,0,none⟩=some (.string (bs n))) :
  Calls Tryz.prog 51 #[.slice a l.length cp,.func (.func 98) #[] #[.pointer (some ⟨g,0,none⟩)]] w fun e w'=>e=.returned (.int .i64 (pidx l n))/\Below w.heap.size w w':=by
 have G:(l.length:Int)<=1000:=by omega
 have z:=World.block_lt_of_cell? _ _ r
 have E:=zh h
 have I:=zh r
 obtain⟨d,m⟩:∃d,d=l.length:=⟨_,rfl⟩
 rw[<-m]at G ⊢
 have v:=zh m
 clear h m r
 go_enter Tryz.func51,Tryz.ntmps51
 go_wp2_with fail
 go_loopg [8] d (fun k P wr=>∃i:Nat,i<=d/\k=d-i/\P=.int .i64 (i:Int)/\Hid (∀k (b:k<l.length),k<i->l[k].name≠n)/\Hid (Below w.heap.size w wr))
 case atStart=>exact⟨0,by omega,by omega,rfl,fun k _ b=>by omega,Below.refl _ _⟩
 case round =>
  obtain⟨i,U,b,rfl,o,f⟩:=hrel
  have A:=f.out.size
  by_cases F:i<d
  ·have y:(i:Int)<(d:Int):=by omega
   have u:i<l.length:=by have:=v.out;omega
   obtain⟨pb,x1,R,S,T,M,N,O,c3,K,L,rfl,V,W,X,Y,Z,d4,d5⟩:=(E.out.on f.out).c i u
   have J:=zh (proc1_post l[i].name n (.int .i64 x1) (.bool l[i].seen) R S T M N O c3 K L x1 l[i].seen rfl rfl wr g ((f.out.cell (p:=⟨g,0,none⟩) z).trans I.out))
   have D:Hid (l[i].name≠n->∀k (b:k<l.length),k<i+1->l[k].name≠n):=by
    intro H k b F
    by_cases e:k=i
    ·subst e;exact H
    ·exact o.out k b (by omega)
   have B:Hid (l[i].name=n->pidx l n=(i:Int)):=fun e=>pidx_at u e (fun k b=>o.out k (by omega) b)
   generalize l[i].name=x at *
   generalize l[i].seen=sn at *
   go_wp2_with fail
   refine J.out.mono ?_
   rintro e Q⟨rfl,t⟩
   have s:Hid (Below w.heap.size w Q):=f.out.trans (t.mono A)
   clear t
   by_cases j:x=n
   ·rw[decide_eq_true j]
    have q:=zh (B.out j)
    go_wp2_with fail
    go_ret
    exact⟨by rw[q.out];rfl,s.out⟩
   ·rw[decide_eq_false j]
    have C:=zh (D.out j)
    go_wp2_with fail
    go_roundg (d-(i+1))
    case measure=>omega
    case rel=>exact⟨i+1,by omega,rfl,by go_num,C,s⟩
  ·have y:¬(i:Int)<(d:Int):=by omega
   have q:=zh (pidx_no (l:=l) (n:=n) (fun k b=>o.out k b (by have:=v.out;omega)))
   go_wp2_with fail
   go_ret
   exact⟨by rw[q.out];rfl,f.out⟩
structure PrAt (c:Cx) (p:Pr) (pb o:Nat):Prop where
 d:c.D pb
 nm:c.w0.cell? ⟨pb,o,none⟩=some (.string (bs p.name))
 sn:c.w0.cell? ⟨pb,o+2,none⟩=some (.bool p.seen)
 r:∃pv vv bv bcs,c.w0.cell? ⟨pb,o+3,none⟩=some pv/\c.w0.cell? ⟨pb,o+4,none⟩=some vv/\c.w0.cell? ⟨pb,o+5,none⟩=some bv/\Row c.w0 c.D 9 1 pv p.params.length (strs p.params)/\Row c.w0 c.D 9 1 vv p.vars.length (strs p.vars)/\RepS c.w0 c.D p.body bcs/\OwnS c.w0 c.D bv p.body.length bcs
theorem MD.procs {a:World}{D:Nat->Prop}{m:Tp.M}{r n e k:Option Addr}{s o v l:Nat}(h:MD a D m r n e k s o v l)(i:Nat)(p:i<m.procs.length):∃pb d vv c b,e=some ⟨pb,0,none⟩/\D pb/\pb<a.heap.size/\(∀j,j<6->a.cell? ⟨pb,i*6+j,none⟩=(pcells (bs m.procs[i].name) (m.procs[i].pos:Int) m.procs[i].seen d vv c).toList[j]?)/\Row a D 9 1 d m.procs[i].params.length (strs m.procs[i].params)/\Row a D 9 1 vv m.procs[i].vars.length (strs m.procs[i].vars)/\RepS a D m.procs[i].body b/\OwnS a D c m.procs[i].body.length b:=by
 obtain⟨f,t,u⟩:=h.pr
 obtain⟨g,cap,w,x,y,z⟩:=yu u (by omega)
 cases w
 obtain⟨d,vv,c,b,A,B⟩:=jq m.procs f t i p
 exact⟨g,d,vv,c,b,rfl,x,y,fun j q=>(z (i*6+j) (by omega)).trans (A j q),B⟩
theorem GS.cell0 {c:Cx}{w:World}{s:Rs}{k:Nat}(h:GS c w s k){b o:Nat}(hd:c.D b){v:Value}(a:c.w0.cell? ⟨b,o,none⟩=some v):w.cell? ⟨b,o,none⟩=some v:=by
 rw[World.cell?_of_block (w:=c.w0) (h.st b hd)];exact a
theorem GS.prc {c:Cx}{w:World}{s:Rs}{k:Nat}(h:GS c w s k){m:Tp.M}{y q f j:Option Addr}{z r A l:Nat}(v:MD c.w0 c.D m y q f j z r A l):PrC w m.procs f:=by
 refine⟨fun i t=>?_⟩
 obtain⟨d,L,vv,J,I,e,hd,K,a,B,C,N,E⟩:=v.procs i t
 obtain⟨F,c3,rfl⟩:=B.shape
 obtain⟨G,n,rfl⟩:=C.shape
 obtain⟨H,p,rfl⟩:=E.shape
 have b:∀o u,c.w0.cell? ⟨d,o,none⟩=some u->w.cell? ⟨d,o,none⟩=some u:=fun o u x=>h.cell0 hd x
 have g:=zg (b _ _ (a 0 (by omega)))
 exact⟨d,_,F,G,H,_,_,_,c3,n,p,e,g,b _ _ (a 0 (by omega)),b _ _ (a 1 (by omega)),b _ _ (a 2 (by omega)),b _ _ (a 3 (by omega)),b _ _ (a 4 (by omega)),b _ _ (a 5 (by omega))⟩
def ProcP (c:Cx) (m:Tp.M) (nm:Bs) (v:Option Addr):Prop:=match Tp.procIn m nm with
 |none=>v=none
 |some p=>∃pb o,v=some ⟨pb,o,none⟩/\PrAt c p pb o
theorem rproc {c:Cx}{w:World}{s:Rs}{k:Nat}(h:GS c w s k)(ok:CxOk c){lo:Lo}(x:lo∈c.L)(nm:Bs) :
  Calls Tryz.prog 54 #[.pointer (some ⟨lo.lb,0,none⟩),.string (bs nm)] w fun e w'=>∃v,e=.returned (.pointer v)/\ProcP c lo.m nm v/\Below w.heap.size w w':=by
 obtain⟨ia,ga,B,Y,ic,gc,z,Z,u,r⟩:=h.loB ok x
 have G:=zf u
 have M:lo.m.procs.length<=1000:=by have:=(ok.lo lo x).fit.wm.pc;omega
 have S:(lo.m.procs.length:Int)<=1000:=by omega
 have o:Below w.heap.size w (w.alloc (.cells #[.string (bs nm)] 9)):=zb _ _
 have j:=(o.block _ G).trans u
 have P:(w.alloc (.cells #[.string (bs nm)] 9)).cell? ⟨lo.lb,3,none⟩=some (.slice B lo.m.procs.length z):=(za j).trans rfl
 have I:Hid (PrC (w.alloc (.cells #[.string (bs nm)] 9)) lo.m.procs B):=(h.prc r).on o
 have g:=zh (jK (cp:=z) I.out M nm w.heap.size ((za (zo _ _)).trans rfl))
 have l:=zh o
 have A:lo.lb<(w.alloc (.cells #[.string (bs nm)] 9)).heap.size:=zf j
 have W:=zm
 have H:=zh r
 have T:=zh j
 clear h ok x u r j o
 rcases pidx_in (m:=lo.m) (n:=nm) with⟨d,f⟩|⟨i,hi,d,f⟩
 ·rw[f]at g
  have t:Hid (∀v,v=none->ProcP c lo.m nm v):=fun v O=>by unfold ProcP;rw[d];exact O
  clear d f
  generalize lo.m.procs.length=ln at *
  go_enter Tryz.func54,Tryz.ntmps54
  go_wp2_with fail
  refine g.out.mono ?_
  rintro e w2⟨rfl,a⟩
  have q:Hid (Below w.heap.size w w2):=l.out.trans (a.mono l.out.size)
  clear a
  go_wp2_with fail
  go_ret
  exact⟨_,rfl,t.out _ rfl,q.out⟩
 ·rw[d]at g
  obtain⟨y,Q,vv,N,J,e,hd,K,b,C,D,E,F⟩:=H.out.procs i hi
  subst e
  have t:Hid (ProcP c lo.m nm (some ⟨y,i*6,none⟩)):=by
   show ProcP _ _ _ _
   unfold ProcP
   rw[f]
   exact⟨y,i*6,rfl,⟨hd,b 0 (by omega),b 2 (by omega),Q,vv,N,J,b 3 (by omega),b 4 (by omega),b 5 (by omega),C,D,E,F⟩⟩
  have U:(i:Int)<(lo.m.procs.length:Int):=by omega
  have V:¬(i:Int)<0:=by omega
  clear d f hd K b C D E F hi
  generalize lo.m.procs.length=ln at *
  go_enter Tryz.func54,Tryz.ntmps54
  go_wp2_with fail
  refine g.out.mono ?_
  rintro e w2⟨rfl,a⟩
  have q:Hid (Below w.heap.size w w2):=l.out.trans (a.mono l.out.size)
  have X:w2.cell? ⟨lo.lb,3,none⟩=some (.slice (some ⟨y,0,none⟩) ln z):=(a.cell (p:=⟨lo.lb,3,none⟩) A).trans P
  have R:lo.lb<w2.heap.size:=Nat.lt_of_lt_of_le A a.size
  clear a
  go_wp2_with fail
  go_ret
  exact⟨_,rfl,t.out,q.out⟩
theorem GS.drew {c:Cx}{w:World}{s:Rs}{k:Nat}(h:GS c w s k)(ok:CxOk c):GS c w.drew s k:=h.below ok (Below.refl _ _).drew
theorem Kp.drew (c:Cx)(Y:Nat->Prop){w:World}(a:c.gb<w.heap.size):Kp c Y w w.drew:=Kp.below (Below.refl _ _).drew a
theorem Sc.below {c:Cx}{w w':World}{a:Nat}{ob:Option Nat}{lo:Lo}{own:Own}{names:List Bs}{left:Nat}(h:Sc c w a ob lo own names left)(ok:CxOk c)(k:Below w.heap.size w w')(b:c.gb<w.heap.size):Sc c w' a ob lo own names left:=h.kp (Kp.below k b) ok.Vlt zn
theorem Sc.drew {c:Cx}{w:World}{a:Nat}{ob:Option Nat}{lo:Lo}{own:Own}{names:List Bs}{left:Nat}(h:Sc c w a ob lo own names left)(ok:CxOk c)(b:c.gb<w.heap.size):Sc c w.drew a ob lo own names left:=h.below ok (Below.refl _ _).drew b
theorem Ex.blk {c:Cx}{lo:Lo}{names:List Bs}{code pos n:Nat}{md nm d:Bs}{b ri a:List X}{x:Nat}(h:Ex c lo names [⟨code,pos,n,md,nm,d,b,ri,a⟩] x):∃(av:Value) (ls rs gs:List Value),c.D x/\c.w0.heap[x]?=some (.cells #[.int .i64 (code:Int),.int .i64 (pos:Int),.int .i64 (n:Int),.string (bs md),.string (bs nm),.string (bs d),ls.headD (.pointer none),rs.headD (.pointer none),av] 216 (0,0))/\RepL c.w0 c.D b ls/\ls.length<=1/\RepL c.w0 c.D ri rs/\rs.length<=1/\RepL c.w0 c.D a gs/\(gs=[]/\av=.slice none 0 0\/∃g cap cur,av=.slice (some ⟨g,0,none⟩) gs.length cap/\c.D g/\c.w0.heap[g]?=some (.cells cur 179 (0,0))/\gs.length<=cap/\cap<=maxLen/\cur.size=cap/\cur.toList.take gs.length=gs):=h.rep.one
theorem RepL.part {w:World}{D:Nat->Prop}{l:List X}{d:List Value}(h:RepL w D l d)(f:l.length=1):∃y,d=[.pointer (some ⟨y,0,none⟩)]/\D y:=by
 obtain⟨x,rfl⟩:=Tp.len1 f
 obtain⟨code,pos,n,md,nm,p,o,ri,i⟩:=x
 have c:=h
 rw[RepL]at c
 obtain⟨b,j,m,rs,k,g,e,hd,_,_,_,_,_,_,_,a⟩:=c
 rw[RepL]at a
 subst a
 exact⟨b,e,hd⟩
theorem Ex.left {c:Cx}{lo:Lo}{names:List Bs}{code pos n:Nat}{md nm g:Bs}{a ri b:List X}{x y:Nat}(h:Ex c lo names [⟨code,pos,n,md,nm,g,a,ri,b⟩] x)(e:RepL c.w0 c.D a [.pointer (some ⟨y,0,none⟩)])(f:Tp.WX a):Ex c lo names a y :=
 ⟨e,f,fun r d=>h.fit r (by rw[Tp.rx];simp[d])⟩
theorem Ex.right {c:Cx}{lo:Lo}{names:List Bs}{code pos n:Nat}{md nm g:Bs}{f ri a:List X}{x y:Nat}(h:Ex c lo names [⟨code,pos,n,md,nm,g,f,ri,a⟩] x)(d:RepL c.w0 c.D ri [.pointer (some ⟨y,0,none⟩)])(e:Tp.WX ri):Ex c lo names ri y :=
 ⟨d,e,fun r b=>h.fit r (by rw[Tp.rx];simp[b])⟩
theorem Rr.bind_gas {α β:Type}{f:Tp.Ru α}{g:α->Tp.Ru β}{s:Rs}(h:(f.bind g) s≠.gas):f s≠.gas:=fun e=>h (by unfold Tp.Ru.bind;rw[e])
theorem value_num {c:Cx}{g:Nat}{k:Nat}{lo:Lo}{own:Own}{names:List Bs}{x:Nat}{w:World}{s:Rs}{t pos n:Nat}{md nm i:Bs}{f ri b:List X}(e:Ex c lo names [⟨1,pos,n,md,nm,i,f,ri,b⟩] x)(h:GS c w s k) :
  Calls Tryz.prog 150 #[.pointer (some ⟨t,0,none⟩),.pointer (some ⟨x,0,none⟩)] w (EvP c k w s (Tp.evX (g+1) k lo.m.name own [⟨1,pos,n,md,nm,i,f,ri,b⟩] s)):=by
 obtain⟨v,B,rs,y,r,l,_⟩:=e.blk
 have a:=(h.st x r).trans l
 have u:=zf a
 have z:w.cell? ⟨x,0,none⟩=some (.int .i64 1):=(za a).trans rfl
 have A:w.cell? ⟨x,2,none⟩=some (.int .i64 (n:Int)):=(za a).trans rfl
 have j:Tp.evX (g+1) k lo.m.name own [⟨1,pos,n,md,nm,i,f,ri,b⟩] s=.ok (n:Int) s:=by rw[Tp.evX];rfl
 have d:=e.wx
 rw[Tp.WX]at d
 have o:Tp.I64 (n:Int):=by
  rcases d.1 with q|q|q|q|q|q
  ·have:=q.2.1;unfold Tp.top at this;unfold Tp.I64;omega
  all_goals exact absurd q.1 (by decide)
 rw[j]
 have p:Hid (EvP c k w s (.ok (n:Int) s) (.returned (.int .i64 (n:Int))) w):=⟨rfl,h,Kp.refl _ _ _,Nat.le_refl _,o⟩
 clear j d o l a h e
 go_enter Tryz.func150,Tryz.ntmps150
 go_wp2_with fail
 go_ret
 exact p.out
def unV (op:Bs) (v:Int):Int:=if op=Tp.mMinus then Tp.w64 (0-v) else Tp.b01 (v=0)
theorem unV_in (a:Bs)(v:Int):Tp.I64 (unV a v):=by
 unfold unV
 split
 ·exact Tp.w64_in _
 ·unfold Tp.b01 Tp.I64;split<;>omega
theorem rsingle {a:Bs}(b:a=Tp.mMinus\/a=Tp.wNot)(n:Int)(w:World):Calls Tryz.prog 174 #[.string (bs a),.int .i64 n] w fun e w'=>e=.returned (.int .i64 (unV a n))/\w'=w:=by
 unfold unV
 rcases b with rfl|rfl
 ·rw[if_pos rfl];exact xL n w
 ·rw[if_neg (by decide)];exact uK n w
theorem value_un {c:Cx}{g:Nat}(ok:CxOk c)(Q:EvC c g){k:Nat}{lo:Lo}{own:Own}{names:List Bs}{x:Nat}{w:World}{s:Rs}{D pos n:Nat}{ob:Option Nat}{md nm a:Bs}{d ri j:List X}(p:Ex c lo names [⟨4,pos,n,md,nm,a,d,ri,j⟩] x)(h:GS c w s k)(R:Sc c w D ob lo own names s.left)(o:Tp.evX (g+1) k lo.m.name own [⟨4,pos,n,md,nm,a,d,ri,j⟩] s≠.gas) :
  Calls Tryz.prog 150 #[.pointer (some ⟨D,0,none⟩),.pointer (some ⟨x,0,none⟩)] w (EvP c k w s (Tp.evX (g+1) k lo.m.name own [⟨4,pos,n,md,nm,a,d,ri,j⟩] s)):=by
 have B:=p.wx
 rw[Tp.WX]at B
 obtain⟨N,O,L⟩:(a=Tp.mMinus\/a=Tp.wNot)/\Tp.WX d/\d.length=1:=by
  rcases B.1 with q|q|q|q|q|q
  ·exact absurd q.1 (by decide)
  ·exact absurd q.1 (by decide)
  ·exact absurd q.1 (by decide)
  ·exact⟨q.2.2.2.2.1,q.2.2.2.2.2.1,q.2.2.2.2.2.2.1⟩
  ·exact absurd q.1 (by decide)
  ·exact absurd q.1 (by decide)
 have E:Tp.evX (g+1) k lo.m.name own [⟨4,pos,n,md,nm,a,d,ri,j⟩] s=((Tp.evX g k lo.m.name own d).bind fun v=>Tp.Ru.pure (unV a v)) s:=by rw[Tp.evX];rfl
 rw[E]at o ⊢
 obtain⟨av,ls,rs,gs,z,l,C,_⟩:=p.blk
 obtain⟨y,rfl,_⟩:=C.part L
 have I:=p.left C O
 have i:=(h.st x z).trans l
 have a4:=zf i
 have J:=h.lt
 have k0:w.cell? ⟨x,0,none⟩=some (.int .i64 4):=(za i).trans rfl
 have G:Hid (w.drew.cell? ⟨x,5,none⟩=some (.string (bs a))/\w.drew.cell? ⟨x,6,none⟩=some (.pointer (some ⟨y,0,none⟩))):=⟨(za i).trans rfl,(za i).trans rfl⟩
 have a0:Hid (∀W f k',GS c W f k'->W.cell? ⟨x,5,none⟩=some (.string (bs a))/\W.cell? ⟨x,6,none⟩=some (.pointer (some ⟨y,0,none⟩))):=fun W f k' b=>⟨(za ((b.st x z).trans l)).trans rfl,(za ((b.st x z).trans l)).trans rfl⟩
 have P:=zh (Q k lo own names d y w.drew s D ob I (h.drew ok) (R.drew ok J) (Rr.bind_gas o))
 have F:=zh (Kp.drew c nY J)
 have Z:=zh (fun n W=>rsingle N n W)
 unfold Tp.Ru.bind at o ⊢
 clear E l i h R p I C B O L Q N
 generalize hr:Tp.evX g k lo.m.name own d s=r at *
 clear hr
 cases r with
 |gas=>exact absurd rfl o
 |ok v f =>
  simp only
  have u:Hid (∀W,GS c W f k/\Kp c nY w.drew W/\f.left<=s.left->EvP c k w s (Tp.Ru.pure (unV a v) f) (.returned (.int .i64 (unV a v))) W):=fun W b=>⟨rfl,b.1,F.out.trans b.2.1,b.2.2,unV_in _ _⟩
  go_enter Tryz.func150,Tryz.ntmps150
  go_wp2_with fail
  go_region_held3 (fun w'=>w'.cell? ⟨x,5,none⟩=some (.string (bs a))/\w'.cell? ⟨x,6,none⟩=some (.pointer (some ⟨y,0,none⟩))) (with_reducible (first|exact Y.out|exact H.out|exact G.out)) (first|(go_at_call 150;refine P.out.mono ?_;rintro e w2 ⟨rfl,t,K,M,_⟩;have S:=zh t;have U:=zh K;have V:=zh M;have H:=zh (a0.out _ _ _ t);clear t K M)|(go_at_call 174;refine(Z.out v _).mono ?_;rintro e w3 ⟨rfl,rfl⟩;have Y:=H))
  go_wp2_with fail
  go_ret
  exact u.out _ ⟨S.out,U.out,V.out⟩
 |stop way f =>
  simp only
  have u:Hid (∀e W,thrE endT (way:Int) e/\(∃k',GS c W f k')/\Kp c nY w.drew W->EvP c k w s (.stop way f) e W):=fun e W b=>⟨b.1,b.2.1,F.out.trans b.2.2⟩
  go_enter Tryz.func150,Tryz.ntmps150
  go_wp2_with fail
  go_region_held (fun w'=>w'.cell? ⟨x,5,none⟩=some (.string (bs a))/\w'.cell? ⟨x,6,none⟩=some (.pointer (some ⟨y,0,none⟩))) (with_reducible (first|exact A.out.elim|exact G.out)) (first|(go_at_call 150;refine yo P.out ?hT ?_;(case hT=>(rintro e w3 ⟨⟨older,rfl⟩,a1,a2⟩;exact⟨rfl,u.out _ _ ⟨⟨older,rfl⟩,a1,a2⟩⟩));intro A)|(go_at_call 174;refine yo (T:=fun _ _=>False) A.out.elim ?hT2 ?_;(case hT2=>(intro e w h;exact h.elim));intro a3))
  exact A.out.elim
theorem atM_of {c:Cx}{lo:Lo}(_:CxOk c)(e:lo∈c.L){md:Bs}{d:Tp.M}(h:Tp.atM c.ms lo.m md d):∃lo',lo'∈c.L/\lo'.m=d/\ofLo c lo md lo'/\lo'.m.name=(if md=[] then lo.m.name else md):=by
 unfold Tp.atM at h
 by_cases a:md=[]
 ·rw[if_pos a]at h
  exact⟨lo,e,h.symm,by unfold ofLo;rw[if_pos a],by rw[if_pos a]⟩
 ·rw[if_neg a]at h
  rw[c.partM]at h
  cases b:c.lo md with
  |none=>rw[b]at h;cases h
  |some lo' =>
   rw[b]at h
   simp only[Option.map_some,Option.some.injEq]at h
   have:=CxOk.lo_mem b
   exact⟨lo',this.1,h,by unfold ofLo;rw[if_neg a];exact b,by rw[if_neg a];exact this.2⟩
theorem evX_var (g k:Nat)(m:Bs)(own:Own)(pos n:Nat)(md nm c:Bs)(b ri a:List X):Tp.evX (g+1) k m own [⟨2,pos,n,md,nm,c,b,ri,a⟩]=if md=[] then (match own nm with
    |some v=>Tp.Ru.pure v
    |none=>(Tp.getV m nm).bind fun l=>Tp.Ru.pure (l.headD 0))
   else (Tp.getV md nm).bind fun l=>Tp.Ru.pure (l.headD 0):=by rw[Tp.evX];rfl
theorem GS.val {c:Cx}{w:World}{s:Rs}{k:Nat}(h:GS c w s k)(ok:CxOk c){lo:Lo}(n:lo∈c.L){nm:Bs}{g:G}(j:Tp.varOf lo.m nm=some g):∃p,Tp.partOf s.w lo.m.name=some p/\(p.vars nm).length=vlen g/\(∀i,w.cell? ⟨lo.sl nm,i,none⟩=((p.vars nm)[i]?).map fun v=>.int .i64 v)/\(∀v∈p.vars nm,Tp.I64 v)/\vlen g<=1000/\g∈lo.m.vars/\g.name=nm:=by
 obtain⟨p,o,r,q⟩:=h.vals lo n
 have a:g∈lo.m.vars:=List.mem_of_find?_eq_some j
 have b:g.name=nm:=by simpa using List.find?_some j
 obtain⟨d,e,f⟩:=q g a
 rw[b]at d e f
 refine⟨p,o,d,fun i=>?_,f,?_,a,b⟩
 ·rw[za e]
  simp[ints]
 ·have:=((ok.lo lo n).fit.wm.g g a).l
  unfold vlen
  split<;>omega
theorem qh {s:Rs}{md nm:Bs}{p:Pt}(h:Tp.partOf s.w md=some p):Tp.getV md nm s=.ok (p.vars nm) s:=by unfold Tp.getV;rw[h];rfl
theorem head_at {l:List Int}{n:Nat}(h:l.length=n)(b:0<n):l[0]?=some (l.headD 0):=by
 cases l with
 |nil=>simp at h;omega
 |cons a t=>rfl
theorem vlen_pos (g:G):0<vlen g:=by unfold vlen;split<;>omega
theorem wx_okr {code pos n:Nat}{md nm c:Bs}{b ri a:List X}(h:Tp.WX [⟨code,pos,n,md,nm,c,b,ri,a⟩])(d:code=2\/code=3\/code=6):md.length<=1000000/\nm.length<=1000000:=by
 rw[Tp.WX]at h
 have key:Tp.okr md nm:=by
  rcases h.1 with q|q|q|q|q|q
  ·omega
  ·exact q.2.2.1
  ·exact q.2.2.1
  ·omega
  ·omega
  ·exact q.2.2.1
 refine⟨?_,zQ key.2⟩
 rcases key.1 with q|q
 ·rw[q];simp
 ·exact zQ q
theorem jl {c:Cx}{w:World}{s:Rs}{k:Nat}(_:GS c w s k){lo a:Lo}{md:Bs}(e:a.m.name=(if md=[] then lo.m.name else md)){p:Pt}(b:Tp.partOf s.w a.m.name=some p):Tp.partOf s.w (if md=[] then lo.m.name else md)=some p:=by rw[<-e];exact b
theorem value_var {c:Cx}{g:Nat}(ok:CxOk c){k:Nat}{lo:Lo}{own:Own}{names:List Bs}{x:Nat}{w:World}{s:Rs}{A pos n:Nat}{ob:Option Nat}{md nm z:Bs}{y ri j:List X}(o:Ex c lo names [⟨2,pos,n,md,nm,z,y,ri,j⟩] x)(h:GS c w s k)(a:Sc c w A ob lo own names s.left) :
  Calls Tryz.prog 150 #[.pointer (some ⟨A,0,none⟩),.pointer (some ⟨x,0,none⟩)] w (EvP c k w s (Tp.evX (g+1) k lo.m.name own [⟨2,pos,n,md,nm,z,y,ri,j⟩] s)):=by
 obtain⟨av,ls,rs,gs,V,I,_⟩:=o.blk
 have d:=(h.st x V).trans I
 have F:=zf d
 have N:=h.lt
 have k0:w.cell? ⟨x,0,none⟩=some (.int .i64 2):=(za d).trans rfl
 have r:w.cell? ⟨x,3,none⟩=some (.string (bs md)):=(za d).trans rfl
 have t:w.cell? ⟨x,4,none⟩=some (.string (bs nm)):=(za d).trans rfl
 obtain⟨P,E⟩:=wx_okr o.wx (by omega)
 have J:=o.fit ⟨2,pos,md,nm,j.length⟩ (by rw[Tp.rx];simp)
 obtain⟨v,b,T⟩:∃v,(Tp.evX (g+1) k lo.m.name own [⟨2,pos,n,md,nm,z,y,ri,j⟩] s=.ok v s/\Tp.I64 v)/\Hid (Calls Tryz.prog 172 #[.pointer (some ⟨A,0,none⟩),.pointer (some ⟨x,0,none⟩)] w fun e w'=>e=.returned (.int .i64 v)/\Below w.heap.size w w'):=by
  rcases J.v2 rfl with⟨f,i⟩|⟨f,m',g',i,q3,q4⟩
  ·simp only at f i
   subst f
   have R:=(a.dom nm).2 i
   obtain⟨v,b⟩:=Option.isSome_iff_exists.1 R
   refine⟨v,⟨?_,a.i64 _ _ b⟩,xJ a E b F r t⟩
   rw[evX_var,if_pos rfl,b]
   rfl
  ·simp only at f i q3
   obtain⟨S,D,O,Q,K⟩:=atM_of ok a.mem i
   rw[<-O]at q3
   obtain⟨p,Z,p2,p3,p4,p5,_,_⟩:=h.val ok D q3
   have G:=head_at p2 (vlen_pos g')
   have M:w.cell? ⟨S.sl nm,0,none⟩=some (.int .i64 ((p.vars nm).headD 0)):=by rw[p3 0,G];rfl
   have B:md=[]->own nm=none:=fun e=>by
    cases Y:own nm with
    |none=>rfl
    |some u=>exact absurd ((a.dom nm).1 (by rw[Y];rfl)) (f e)
   refine⟨(p.vars nm).headD 0,⟨?_,p4 _ (List.mem_of_getElem? G)⟩,xK h ok a E P B Q D q3 M F r t⟩
   rw[evX_var]
   have l:=jl h K Z
   by_cases q:md=[]
   ·rw[if_pos q]at l ⊢
    rw[B q]
    unfold Tp.Ru.bind
    simp only[qh l]
    rfl
   ·rw[if_neg q]at l ⊢
    unfold Tp.Ru.bind
    simp only[qh l]
    rfl
 rw[b.1]
 have U:Hid (∀W,Below w.heap.size w W->EvP c k w s (.ok v s) (.returned (.int .i64 v)) W):=fun W H=>⟨rfl,h.below ok H,Kp.below H N,Nat.le_refl _,b.2⟩
 clear b I d h o a J r t
 go_enter Tryz.func150,Tryz.ntmps150
 go_wp2_with fail
 refine T.out.mono ?_
 rintro e w2⟨rfl,C⟩
 have L:=zh C
 clear C
 go_wp2_with fail
 go_ret
 exact U.out _ L.out
def itemR (l:List Int) (i:Int) (s:Rs):Rr Int:=if 0<=i/\i<l.length then .ok (l.getD i.toNat 0) s else .stop Tp.bounds s
theorem value_item {c:Cx}{g:Nat}(ok:CxOk c)(hE:EvC c g){k:Nat}{lo:Lo}{own:Own}{names:List Bs}{x:Nat}{w:World}{s:Rs}{L pos n:Nat}{ob:Option Nat}{md nm J:Bs}{f ri C:List X}(E:Ex c lo names [⟨3,pos,n,md,nm,J,f,ri,C⟩] x)(h:GS c w s k)(Q:Sc c w L ob lo own names s.left)(D:Tp.evX (g+1) k lo.m.name own [⟨3,pos,n,md,nm,J,f,ri,C⟩] s≠.gas) :
  Calls Tryz.prog 150 #[.pointer (some ⟨L,0,none⟩),.pointer (some ⟨x,0,none⟩)] w (EvP c k w s (Tp.evX (g+1) k lo.m.name own [⟨3,pos,n,md,nm,J,f,ri,C⟩] s)):=by
 have hw:=E.wx
 rw[Tp.WX]at hw
 obtain⟨b1,a6⟩:Tp.WX f/\f.length=1:=by
  rcases hw.1 with q|q|q|q|q|q
  ·exact absurd q.1 (by decide)
  ·exact absurd q.1 (by decide)
  ·exact⟨q.2.2.2.2.1,q.2.2.2.2.2.1⟩
  ·exact absurd q.1 (by decide)
  ·exact absurd q.1 (by decide)
  ·exact absurd q.1 (by decide)
 have a2:Tp.evX (g+1) k lo.m.name own [⟨3,pos,n,md,nm,J,f,ri,C⟩] s=((Tp.evX g k lo.m.name own f).bind fun i=>(Tp.getV (if md=[] then lo.m.name else md) nm).bind fun l=>(if 0<=i/\i<l.length then Tp.Ru.pure (l.getD i.toNat 0) else Tp.Ru.stop Tp.bounds)) s:=by rw[Tp.evX];rfl
 obtain⟨A,z⟩:∃A,A=Tp.evX (g+1) k lo.m.name own [⟨3,pos,n,md,nm,J,f,ri,C⟩] s:=⟨_,rfl⟩
 rw[<-z]
 rw[a2]at D z
 obtain⟨av,ls,rs,gs,hD,I,rl,_⟩:=E.blk
 obtain⟨y,rfl,_⟩:=rl.part a6
 have a4:=E.left rl b1
 have N:=(h.st x hD).trans I
 have b5:=zf N
 have b4:=h.lt
 have k0:w.cell? ⟨x,0,none⟩=some (.int .i64 3):=(za N).trans rfl
 have k6:w.cell? ⟨x,6,none⟩=some (.pointer (some ⟨y,0,none⟩)):=(za N).trans rfl
 have HC:=zh (hE k lo own names f y w s L ob a4 h Q (Rr.bind_gas D))
 obtain⟨a8,a9⟩:=wx_okr E.wx (by omega)
 have hf:=E.fit ⟨3,pos,md,nm,C.length⟩ (by rw[Tp.rx];simp)
 obtain⟨_,m',g',q2,F,q4⟩:=hf.v3 rfl
 simp only at q2 F
 obtain⟨b6,O,a7,Z,a1⟩:=atM_of ok Q.mem q2
 rw[<-a7]at F
 have HI:Hid (∀W b (i:Int),GS c W b k->Kp c nY w W->b.left<=s.left->∃p,Tp.partOf b.w (if md=[] then lo.m.name else md)=some p/\(∀(hi:0<=i/\i<(p.vars nm).length),Tp.I64 ((p.vars nm).getD i.toNat 0)/\Calls Tryz.prog 173 #[.pointer (some ⟨L,0,none⟩),.pointer (some ⟨x,0,none⟩),.int .i64 i] W fun e w'=>e=.returned (.int .i64 ((p.vars nm).getD i.toNat 0))/\Below W.heap.size W w')/\(¬(0<=i/\i<(p.vars nm).length)->Calls Tryz.prog 173 #[.pointer (some ⟨L,0,none⟩),.pointer (some ⟨x,0,none⟩),.int .i64 i] W fun e w'=>thrE endT (Tp.bounds:Int) e/\Below W.heap.size W w')):=by
  intro W b i a hK hL
  obtain⟨p,K,p2,p3,p4,p5,_,_⟩:=a.val ok O F
  have V:=(a.st x hD).trans I
  have b2:=zf V
  have j3:W.cell? ⟨x,3,none⟩=some (.string (bs md)):=(za V).trans rfl
  have j4:W.cell? ⟨x,4,none⟩=some (.string (bs nm)):=(za V).trans rfl
  have b0:=Q.kp hK ok.Vlt hL
  refine⟨p,jl a a1 K,fun hi=>?_,fun hi=>?_⟩
  ·obtain⟨j,rfl⟩:∃j:Nat,i=(j:Int):=⟨i.toNat,by omega⟩
   have hj:j<(p.vars nm).length:=by omega
   have e:(p.vars nm).getD (j:Int).toNat 0=(p.vars nm)[j]:=by simp[hj]
   rw[e]
   exact⟨p4 _ (List.getElem_mem hj),ritem_ok a ok b0 a9 a8 Z O F (by omega) p5 (by rw[p3 j,List.getElem?_eq_getElem hj];rfl) b2 j3 j4⟩
  ·exact ritem_out a ok b0 a9 a8 Z O F (by omega) p5 b2 j3 j4
 have HG:Hid (∀W W' b,GS c W b k->Below W.heap.size W W'->GS c W' b k):=fun W W' b q I=>q.below ok I
 unfold Tp.Ru.bind at D z
 clear a2 I N h Q E a4 rl hw b1 a6 hE hf q2 F Z a1 a7 O
 generalize hr:Tp.evX g k lo.m.name own f s=r at *
 clear hr
 cases r with
 |gas=>exact absurd rfl D
 |stop way b =>
  have H:Hid (∀e W,thrE endT (way:Int) e/\(∃k',GS c W b k')/\Kp c nY w W->EvP c k w s A e W):=fun e W a=>by rw[z];exact⟨a.1,a.2.1,a.2.2⟩
  clear z D
  go_enter Tryz.func150,Tryz.ntmps150
  go_wp2_with fail
  refine HC.out.mono ?_
  rintro e w2⟨⟨older,rfl⟩,t,u⟩
  have B:=zh t
  have M:=zh u
  clear t u
  go_wp2_with fail
  exact⟨rfl,H.out _ _ ⟨⟨older,rfl⟩,B.out,M.out⟩⟩
 |ok i b =>
  have U:Hid (A=_):=z
  clear D z
  go_enter Tryz.func150,Tryz.ntmps150
  go_wp2_with fail
  refine HC.out.mono ?_
  rintro e w2⟨rfl,t,u,P,a5⟩
  obtain⟨p,K,Y,R⟩:=HI.out w2 b i t u P
  have B:=zh t
  have M:=zh u
  have b3:=zh P
  have o:A=itemR (p.vars nm) i b:=by
   rw[U.out]
   simp only[qh K]
   unfold itemR
   by_cases d:0<=i/\i<(p.vars nm).length
   ·rw[if_pos d,if_pos d];rfl
   ·rw[if_neg d,if_neg d];rfl
  unfold itemR at o
  by_cases d:0<=i/\i<(p.vars nm).length
  ·obtain⟨a0,a3⟩:=Y d
   have T:=zh a3
   rw[if_pos d]at o
   have H:Hid (∀W,Below w2.heap.size w2 W->EvP c k w s A (.returned (.int .i64 ((p.vars nm).getD i.toNat 0))) W):=fun W a=>by rw[o];exact⟨rfl,HG.out _ _ _ B.out a,M.out.trans (Kp.below a B.out.lt),b3.out,a0⟩
   clear a3 Y R t u P a5 K d a0 o U
   generalize (p.vars nm).getD i.toNat 0=v at *
   go_wp2_with fail
   refine T.out.mono ?_
   rintro e w3⟨rfl,G⟩
   have S:=zh G
   clear G
   go_wp2_with fail
   go_ret
   exact H.out _ S.out
  ·have T:=zh (R d)
   rw[if_neg d]at o
   have H:Hid (∀e W,thrE endT (Tp.bounds:Int) e->Below w2.heap.size w2 W->EvP c k w s A e W):=fun e W he a=>by rw[o];exact⟨he,⟨k,HG.out _ _ _ B.out a⟩,M.out.trans (Kp.below a B.out.lt)⟩
   clear Y R t u P a5 K d o U
   go_wp2_with fail
   refine T.out.mono ?_
   rintro e w3⟨⟨older,rfl⟩,G⟩
   have S:=zh G
   clear G
   go_wp2_with fail
   exact⟨rfl,H.out _ _ ⟨older,rfl⟩ S.out⟩
theorem EvP.up {c:Cx}{k:Nat}{w W w':World}{s b:Rs}{r:Rr Int}{e:Ending}(h:EvP c k W b r e w')(a:Kp c nY w W)(d:b.left<=s.left):EvP c k w s r e w':=by
 cases r with
 |ok v s2=>exact⟨h.1,h.2.1,a.trans h.2.2.1,Nat.le_trans h.2.2.2.1 d,h.2.2.2.2⟩
 |stop way s2=>exact⟨h.1,h.2.1,a.trans h.2.2⟩
 |gas=>trivial
def bindR (r:Rr Int) (f:Int->Rs->Rr Int):Rr Int:=match r with
 | .ok v s=>f v s
 | .stop way s=>.stop way s
 | .gas=>.gas
def CellX (c:Cx) (x:Nat) (bop:ByteArray) (y z:Nat):Prop:=∀W s' k',GS c W s' k'->x<W.heap.size/\W.cell? ⟨x,5,none⟩=some (.string bop)/\W.cell? ⟨x,6,none⟩=some (.pointer (some ⟨y,0,none⟩))/\W.cell? ⟨x,7,none⟩=some (.pointer (some ⟨z,0,none⟩))
def RightC (c:Cx) (k:Nat) (w:World) (s:Rs) (sb z:Nat) (rr:Rs->Rr Int):Prop:=∀W s',GS c W s' k->Kp c nY w W->s'.left<=s.left->rr s'≠.gas->Calls Tryz.prog 150 #[.pointer (some ⟨sb,0,none⟩),.pointer (some ⟨z,0,none⟩)] W (EvP c k W s' (rr s'))
theorem jo (p:Prop)[Decidable p]:Tp.I64 (Tp.b01 p):=by unfold Tp.b01 Tp.I64;split<;>omega
theorem ne_bool (b:Int):(!(b==0))=decide (b≠0):=by by_cases h:b=0<;>simp[h]
theorem pair_and {c:Cx}{k:Nat}{w:World}{s:Rs}{Q x y z:Nat}{P:Rr Int}{rr:Rs->Rr Int}{U:ByteArray}(h1:(U.toList==[97,110,100])=true)(h:GS c w s k)(N:CellX c x U y z)
  (X:Calls Tryz.prog 150 #[.pointer (some ⟨Q,0,none⟩),.pointer (some ⟨y,0,none⟩)] w (EvP c k w s P))(Y:RightC c k w s Q z rr)
  {j:Rr Int}(r:j=bindR P fun a I=>if a=0 then .ok 0 I else bindR (rr I) fun b s2=>.ok (Tp.b01 (b≠0)) s2)(p:j≠.gas) :
  Calls Tryz.prog 175 #[.pointer (some ⟨Q,0,none⟩),.pointer (some ⟨x,0,none⟩)] w (EvP c k w s j):=by
 obtain⟨a7,_,k6,_⟩:=N w s k h
 have M:=zh N
 have H:=zh X
 have T:=zh Y
 clear N X Y h
 cases P with
 |gas=>exact absurd (r.trans rfl) p
 |stop way I =>
  have o:Hid (∀e W,EvP c k w s (.stop way I) e W->EvP c k w s j e W):=fun e W hW=>by rw[r];exact hW
  clear r p
  go_enter Tryz.func175,Tryz.ntmps175
  go_wp2_with fail
  refine H.out.mono ?_
  rintro e w2⟨⟨older,rfl⟩,d,f⟩
  have J:=zh d
  have m:=zh f
  clear d f
  go_wp2_with fail
  exact⟨rfl,o.out _ _ ⟨⟨older,rfl⟩,J.out,m.out⟩⟩
 |ok a s1 =>
  have g:j=if a=0 then .ok 0 s1 else bindR (rr s1) fun b s2=>.ok (Tp.b01 (b≠0)) s2:=r
  clear r
  by_cases G:a=0
  ·rw[if_pos G]at g
   have o:Hid (∀W,GS c W s1 k->Kp c nY w W->s1.left<=s.left->EvP c k w s j (.returned (.int .i64 0)) W):=fun W D E F=>by rw[g];exact⟨rfl,D,E,F,by decide⟩
   subst G
   clear g p
   go_enter Tryz.func175,Tryz.ntmps175
   go_wp2_with fail
   refine H.out.mono ?_
   rintro e w2⟨rfl,d,f,i,_⟩
   obtain⟨S,Z,_,j7⟩:=M.out w2 _ _ d
   have J:=zh d
   have m:=zh f
   have u:=zh i
   clear d f i
   go_wp2_with fail
   refine(yh _ 0 (by rfl) w2).mono ?_
   rintro e R⟨rfl,rfl⟩
   go_wp2_with fail
   go_ret
   exact o.out _ J.out m.out u.out
  ·rw[if_neg G]at g
   have a6:(a==0)=false:=by simpa using G
   cases n:rr s1 with
   |gas=>rw[n]at g;exact absurd g p
   |stop way s2 =>
    rw[n]at g
    have o:Hid (∀W e l,Kp c nY w W->s1.left<=s.left->EvP c k W s1 (.stop way s2) e l->EvP c k w s j e l):=fun W e l D E F=>by rw[g];exact F.up D E
    have A:Hid (rr s1=.stop way s2):=n
    clear g p n
    go_enter Tryz.func175,Tryz.ntmps175
    go_wp2_with fail
    refine H.out.mono ?_
    rintro e w2⟨rfl,d,f,i,_⟩
    obtain⟨S,Z,_,j7⟩:=M.out w2 _ _ d
    have t:=zh (T.out w2 s1 d f i (by rw[A.out];simp))
    rw[A.out]at t
    have m:=zh f
    have u:=zh i
    clear d f i
    go_wp2_with fail
    refine t.out.mono ?_
    rintro e R⟨⟨older,rfl⟩,B,C⟩
    have K:=zh B
    have L:=zh C
    clear B C
    go_wp2_with fail
    exact⟨rfl,o.out _ _ _ m.out u.out ⟨⟨older,rfl⟩,K.out,L.out⟩⟩
   |ok b s2 =>
    rw[n]at g
    have o:Hid (∀W l,Kp c nY w W->s1.left<=s.left->GS c l s2 k->Kp c nY W l->s2.left<=s1.left->EvP c k w s j (.returned (.int .i64 (Tp.b01 (b≠0)))) l):=fun W l D E F a4 a5=>by rw[g];exact⟨rfl,F,D.trans a4,Nat.le_trans a5 E,jo _⟩
    have A:Hid (rr s1=.ok b s2):=n
    have HT:Hid (∀q:Bool,q=decide (b≠0)->Tp.b01 (b≠0)=if q then (1:Int) else 0):=fun q h=>by rw[h];exact(yw _).symm
    clear g p n
    generalize Tp.b01 (b≠0)=v at *
    go_enter Tryz.func175,Tryz.ntmps175
    go_wp2_with fail
    refine H.out.mono ?_
    rintro e w2⟨rfl,d,f,i,_⟩
    obtain⟨S,Z,_,j7⟩:=M.out w2 _ _ d
    have t:=zh (T.out w2 s1 d f i (by rw[A.out];simp))
    rw[A.out]at t
    have m:=zh f
    have u:=zh i
    clear d f i
    go_wp2_with fail
    refine t.out.mono ?_
    rintro e R⟨rfl,B,C,V,_⟩
    have K:=zh B
    have L:=zh C
    have a0:=zh V
    clear B C V
    go_wp2_with fail
    refine(yh _ v (HT.out _ (by first|rfl|exact ne_bool b|(by_cases O:b=0<;>simp[O,G]<;>done)|(by_cases O:b=0<;>simp[O]<;>done))) R).mono ?_
    rintro e w4⟨rfl,rfl⟩
    go_wp2_with fail
    go_ret
    exact o.out _ _ m.out u.out K.out L.out a0.out
theorem pair_or {c:Cx}{k:Nat}{w:World}{s:Rs}{R x y z:Nat}{Q:Rr Int}{rr:Rs->Rr Int}{M:ByteArray}(h0:(M.toList==[97,110,100])=false)(h1:(M.toList==[111,114])=true)(h:GS c w s k)(O:CellX c x M y z)
  (Y:Calls Tryz.prog 150 #[.pointer (some ⟨R,0,none⟩),.pointer (some ⟨y,0,none⟩)] w (EvP c k w s Q))(Z:RightC c k w s R z rr)
  {j:Rr Int}(r:j=bindR Q fun a I=>if a≠0 then .ok 1 I else bindR (rr I) fun b s2=>.ok (Tp.b01 (b≠0)) s2)(p:j≠.gas) :
  Calls Tryz.prog 175 #[.pointer (some ⟨R,0,none⟩),.pointer (some ⟨x,0,none⟩)] w (EvP c k w s j):=by
 obtain⟨a6,_,k6,_⟩:=O w s k h
 have N:=zh O
 have H:=zh Y
 have U:=zh Z
 clear O Y Z h
 cases Q with
 |gas=>exact absurd (r.trans rfl) p
 |stop way I =>
  have o:Hid (∀e W,EvP c k w s (.stop way I) e W->EvP c k w s j e W):=fun e W hW=>by rw[r];exact hW
  clear r p
  go_enter Tryz.func175,Tryz.ntmps175
  go_wp2_with fail
  refine H.out.mono ?_
  rintro e w2⟨⟨older,rfl⟩,d,f⟩
  have J:=zh d
  have m:=zh f
  clear d f
  go_wp2_with fail
  exact⟨rfl,o.out _ _ ⟨⟨older,rfl⟩,J.out,m.out⟩⟩
 |ok a s1 =>
  have g:j=if a≠0 then .ok 1 s1 else bindR (rr s1) fun b s2=>.ok (Tp.b01 (b≠0)) s2:=r
  clear r
  by_cases G:a≠0
  ·rw[if_pos G]at g
   have o:Hid (∀W,GS c W s1 k->Kp c nY w W->s1.left<=s.left->EvP c k w s j (.returned (.int .i64 1)) W):=fun W D E F=>by rw[g];exact⟨rfl,D,E,F,by decide⟩
   have V:(a==0)=false:=by simpa using G
   clear g p
   go_enter Tryz.func175,Tryz.ntmps175
   go_wp2_with fail
   refine H.out.mono ?_
   rintro e w2⟨rfl,d,f,i,_⟩
   obtain⟨T,j5,_,j7⟩:=N.out w2 _ _ d
   have J:=zh d
   have m:=zh f
   have u:=zh i
   clear d f i
   go_wp2_with fail
   refine(yh _ 1 (by rfl) w2).mono ?_
   rintro e S⟨rfl,rfl⟩
   go_wp2_with fail
   go_ret
   exact o.out _ J.out m.out u.out
  ·rw[if_neg G]at g
   have V:a=0:=by simpa using G
   subst V
   cases n:rr s1 with
   |gas=>rw[n]at g;exact absurd g p
   |stop way s2 =>
    rw[n]at g
    have o:Hid (∀W e l,Kp c nY w W->s1.left<=s.left->EvP c k W s1 (.stop way s2) e l->EvP c k w s j e l):=fun W e l D E F=>by rw[g];exact F.up D E
    have A:Hid (rr s1=.stop way s2):=n
    clear g p n
    go_enter Tryz.func175,Tryz.ntmps175
    go_wp2_with fail
    refine H.out.mono ?_
    rintro e w2⟨rfl,d,f,i,_⟩
    obtain⟨T,j5,_,j7⟩:=N.out w2 _ _ d
    have t:=zh (U.out w2 s1 d f i (by rw[A.out];simp))
    rw[A.out]at t
    have m:=zh f
    have u:=zh i
    clear d f i
    go_wp2_with fail
    refine t.out.mono ?_
    rintro e S⟨⟨older,rfl⟩,B,C⟩
    have K:=zh B
    have L:=zh C
    clear B C
    go_wp2_with fail
    exact⟨rfl,o.out _ _ _ m.out u.out ⟨⟨older,rfl⟩,K.out,L.out⟩⟩
   |ok b s2 =>
    rw[n]at g
    have o:Hid (∀W l,Kp c nY w W->s1.left<=s.left->GS c l s2 k->Kp c nY W l->s2.left<=s1.left->EvP c k w s j (.returned (.int .i64 (Tp.b01 (b≠0)))) l):=fun W l D E F a4 a5=>by rw[g];exact⟨rfl,F,D.trans a4,Nat.le_trans a5 E,jo _⟩
    have A:Hid (rr s1=.ok b s2):=n
    have HT:Hid (∀q:Bool,q=decide (b≠0)->Tp.b01 (b≠0)=if q then (1:Int) else 0):=fun q h=>by rw[h];exact(yw _).symm
    clear g p n
    generalize Tp.b01 (b≠0)=v at *
    go_enter Tryz.func175,Tryz.ntmps175
    go_wp2_with fail
    refine H.out.mono ?_
    rintro e w2⟨rfl,d,f,i,_⟩
    obtain⟨T,j5,_,j7⟩:=N.out w2 _ _ d
    have t:=zh (U.out w2 s1 d f i (by rw[A.out];simp))
    rw[A.out]at t
    have m:=zh f
    have u:=zh i
    clear d f i
    go_wp2_with fail
    refine t.out.mono ?_
    rintro e S⟨rfl,B,C,X,_⟩
    have K:=zh B
    have L:=zh C
    have a0:=zh X
    clear B C X
    go_wp2_with fail
    refine(yh _ v (HT.out _ (by first|rfl|exact ne_bool b|(by_cases P:b=0<;>simp[P,G]<;>done)|(by_cases P:b=0<;>simp[P]<;>done))) S).mono ?_
    rintro e w4⟨rfl,rfl⟩
    go_wp2_with fail
    go_ret
    exact o.out _ _ m.out u.out K.out L.out a0.out
end Go.Proofs.YtibncofnnlbmcaaGreatDoor
