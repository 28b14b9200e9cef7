import Derived.Test.YtibncofnnlbmcaaGreatDoorLQb
import Derived.Test.YtibncofnnlbmcaaGreatDoorLMb
import Derived.Test.YtibncofnnlbmcaaGreatDoorLMa
import Derived.Deep.RegionHeld3
set_option maxRecDepth 100000
set_option maxHeartbeats 4000000
namespace Go.Proofs.YtibncofnnlbmcaaGreatDoor
open Go.RowKit Go.Maps
open Tp (Bs X S G Pr Pt Rs Rr Own)
theorem proc1_post (x n:Bs)(a b:Value)(q o m:Option Addr)(g f d c3 l k:Nat)(x1:Int)(x2:Bool)(p:a=.int .i64 x1)(i:b=.bool x2)(W:World)(c:Nat)(j:W.cell? ⟨c,0,none⟩=some (.string (bs n))) :
  Calls Tryz.prog 98 #[.agg #[.string (bs x),a,b,.slice q g c3,.slice o f l,.slice m d k],.pointer (some ⟨c,0,none⟩)] W fun e w'=>e=.returned (.bool (decide (x=n)))/\Below W.heap.size W w':=by
 subst p i
 have s:=World.block_lt_of_cell? _ _ j
 by_cases h:x=n
 ·subst h
  go_enter Tryz.func98,Tryz.ntmps98
  go_wp2_with fail
  go_ret
  exact⟨by simp,zb _ _⟩
 ·have r:¬bs x=bs n:=fun e=>h (bs_inj e)
  go_enter Tryz.func98,Tryz.ntmps98
  go_wp2_with fail
  go_ret
  exact⟨by simp[h,zj],zb _ _⟩
structure PrC (w:World) (l:List Pr) (pa:Option Addr):Prop where
 c:∀i (hi:i<l.length),∃pb x1 y3 y4 y5 n3 n4 n5 c3 c4 c5,pa=some ⟨pb,0,none⟩/\pb<w.heap.size/\w.cell? ⟨pb,i*6,none⟩=some (.string (bs l[i].name))/\w.cell? ⟨pb,i*6+1,none⟩=some (.int .i64 x1)/\w.cell? ⟨pb,i*6+2,none⟩=some (.bool l[i].seen)/\w.cell? ⟨pb,i*6+3,none⟩=some (.slice y3 n3 c3)/\w.cell? ⟨pb,i*6+4,none⟩=some (.slice y4 n4 c4)/\w.cell? ⟨pb,i*6+5,none⟩=some (.slice y5 n5 c5)
theorem PrC.on {w w':World}{l:List Pr}{f:Option Addr}(h:PrC w l f)(k:Below w.heap.size w w'):PrC w' l f:=by
 refine⟨fun i z=>?_⟩
 obtain⟨b,x1,r,B,A,t,x,n,c3,s,j,e,d,D,m,y,g,q,C⟩:=h.c i z
 have a:∀o u,w.cell? ⟨b,o,none⟩=some u->w'.cell? ⟨b,o,none⟩=some u:=fun o u v=>(k.cell (p:=⟨b,o,none⟩) d).trans v
 exact⟨b,x1,r,B,A,t,x,n,c3,s,j,e,Nat.lt_of_lt_of_le d k.size,a _ _ D,a _ _ m,a _ _ y,a _ _ g,a _ _ q,a _ _ C⟩
def pidx (l:List Pr) (n:Bs):Int:=match l.findIdx? (fun p=>p.name==n) with
 |some i=>(i:Int)
 |none=>-1
theorem pidx_at {l:List Pr}{n:Bs}{i:Nat}(a:i<l.length)(h:l[i].name=n)(c:∀k (hk:k<i),l[k].name≠n):pidx l n=(i:Int):=by
 unfold pidx
 have:l.findIdx? (fun s=>s.name==n)=some i:=by
  rw[List.findIdx?_eq_some_iff_getElem]
  exact⟨a,by simpa using h,fun j b=>by simpa using c j b⟩
 rw[this]
theorem pidx_no {l:List Pr}{n:Bs}(c:∀k (a:k<l.length),l[k].name≠n):pidx l n=-1:=by
 unfold pidx
 have:l.findIdx? (fun s=>s.name==n)=none:=by
  rw[List.findIdx?_eq_none_iff]
  intro x b
  obtain⟨k,a,rfl⟩:=List.getElem_of_mem b
  simpa using c k a
 rw[this]
theorem pidx_in {m:Tp.M}{n:Bs}:(Tp.procIn m n=none/\pidx m.procs n=-1)\/∃i,∃a:i<m.procs.length,pidx m.procs n=(i:Int)/\Tp.procIn m n=some m.procs[i]:=by
 unfold pidx Tp.procIn
 cases h:m.procs.findIdx? (fun p=>p.name==n) with
 |none =>
  refine Or.inl ⟨?_,rfl⟩
  rw[List.findIdx?_eq_none_iff]at h
  rw[List.find?_eq_none]
  intro x c
  simpa using h x c
 |some i =>
  rw[List.findIdx?_eq_some_iff_getElem]at h
  obtain⟨a,d,b⟩:=h
  refine Or.inr ⟨i,a,rfl,?_⟩
  rw[List.find?_eq_some_iff_getElem]
  exact⟨d,i,a,rfl,fun j e=>by simpa using b j e⟩
theorem jB {w:World}{a:Option Addr}{cp:Nat}{l:List Pr}(h:PrC w l a)(Z:l.length<=1000)(n:Bs)(j:Nat)(r:w.cell? ⟨j,0,none⟩=some (.string (bs n))) :
  Calls Tryz.prog 51 #[.slice a l.length cp,.func (.func 98) #[] #[.pointer (some ⟨j,0,none⟩)]] w fun e w'=>e=.returned (.int .i64 (pidx l n))/\Below w.heap.size w w':=by
 have C:(l.length:Int)<=1000:=by omega
 have y:=World.block_lt_of_cell? _ _ r
 have B:=zh h
 have T:=zh r
 obtain⟨d,m⟩:∃d,d=l.length:=⟨_,rfl⟩
 rw[<-m]at C ⊢
 have v:=zh m
 clear h m r
 go_enter Tryz.func51,Tryz.ntmps51
 go_wp2_with fail
 go_loopg [8] d (fun k L wr=>∃i:Nat,i<=d/\k=d-i/\L=.int .i64 (i:Int)/\Hid (∀k (b:k<l.length),k<i->l[k].name≠n)/\Hid (Below w.heap.size w wr))
 case atStart=>exact⟨0,by omega,by omega,rfl,fun k _ b=>by omega,Below.refl _ _⟩
 case round =>
  obtain⟨i,U,b,rfl,o,f⟩:=hrel
  have z:=f.out.size
  by_cases G:i<d
  ·have A:(i:Int)<(d:Int):=by omega
   have s:i<l.length:=by have:=v.out;omega
   obtain⟨pb,x1,K,S,R,P,Q,J,c3,M,I,rfl,V,d0,X,d2,W,Y,d5⟩:=(B.out.on f.out).c i s
   have O:=zh (proc1_post l[i].name n (.int .i64 x1) (.bool l[i].seen) K S R P Q J c3 M I x1 l[i].seen rfl rfl wr j ((f.out.cell (p:=⟨j,0,none⟩) y).trans T.out))
   have E:Hid (l[i].name≠n->∀k (b:k<l.length),k<i+1->l[k].name≠n):=by
    intro F k b G
    by_cases e:k=i
    ·subst e;exact F
    ·exact o.out k b (by omega)
   have D:Hid (l[i].name=n->pidx l n=(i:Int)):=fun e=>pidx_at s e (fun k b=>o.out k (by omega) b)
   generalize l[i].name=x at *
   generalize l[i].seen=sn at *
   go_wp2_with fail
   refine O.out.mono ?_
   rintro e N⟨rfl,u⟩
   have t:Hid (Below w.heap.size w N):=f.out.trans (u.mono z)
   clear u
   by_cases g:x=n
   ·rw[decide_eq_true g]
    have q:=zh (D.out g)
    go_wp2_with fail
    go_ret
    exact⟨by rw[q.out];rfl,t.out⟩
   ·rw[decide_eq_false g]
    have H:=zh (E.out g)
    go_wp2_with fail
    go_roundg (d-(i+1))
    case measure=>omega
    case rel=>exact⟨i+1,by omega,rfl,by go_num,H,t⟩
  ·have A:¬(i:Int)<(d:Int):=by omega
   have q:=zh (pidx_no (l:=l) (n:=n) (fun k b=>o.out k b (by have:=v.out;omega)))
   go_wp2_with fail
   go_ret
   exact⟨by rw[q.out];rfl,f.out⟩
structure PrAt (c:Cx) (p:Pr) (pb o:Nat):Prop where
 d:c.D pb
 nm:c.w0.cell? ⟨pb,o,none⟩=some (.string (bs p.name))
 sn:c.w0.cell? ⟨pb,o+2,none⟩=some (.bool p.seen)
 r:∃pv vv bv bcs,c.w0.cell? ⟨pb,o+3,none⟩=some pv/\c.w0.cell? ⟨pb,o+4,none⟩=some vv/\c.w0.cell? ⟨pb,o+5,none⟩=some bv/\Row c.w0 c.D 9 1 pv p.params.length (strs p.params)/\Row c.w0 c.D 9 1 vv p.vars.length (strs p.vars)/\RepS c.w0 c.D p.body bcs/\OwnS c.w0 c.D bv p.body.length bcs
theorem MD.procs {a:World}{D:Nat->Prop}{m:Tp.M}{p w e r:Option Addr}{q l t u:Nat}(h:MD a D m p w e r q l t u)(i:Nat)(z:i<m.procs.length):∃pb d vv c b,e=some ⟨pb,0,none⟩/\D pb/\pb<a.heap.size/\(∀j,j<6->a.cell? ⟨pb,i*6+j,none⟩=(pcells (bs m.procs[i].name) (m.procs[i].pos:Int) m.procs[i].seen d vv c).toList[j]?)/\Row a D 9 1 d m.procs[i].params.length (strs m.procs[i].params)/\Row a D 9 1 vv m.procs[i].vars.length (strs m.procs[i].vars)/\RepS a D m.procs[i].body b/\OwnS a D c m.procs[i].body.length b:=by
 obtain⟨f,v,x⟩:=h.pr
 obtain⟨g,cap,k,B,A,o⟩:=yt x (by omega)
 cases k
 obtain⟨d,vv,c,b,n,y⟩:=jk m.procs f v i z
 exact⟨g,d,vv,c,b,rfl,B,A,fun j s=>(o (i*6+j) (by omega)).trans (n j s),y⟩
theorem GS.cell0 {c:Cx}{w:World}{s:Rs}{k:Nat}(h:GS c w s k){b o:Nat}(hd:c.D b){v:Value}(a:c.w0.cell? ⟨b,o,none⟩=some v):w.cell? ⟨b,o,none⟩=some v:=by
 rw[World.cell?_of_block (w:=c.w0) (h.st b hd)];exact a
theorem GS.prc {c:Cx}{w:World}{s:Rs}{k:Nat}(h:GS c w s k){m:Tp.M}{p B f t:Option Addr}{q j x z:Nat}(n:MD c.w0 c.D m p B f t q j x z):PrC w m.procs f:=by
 refine⟨fun i F=>?_⟩
 obtain⟨d,N,vv,K,I,e,hd,J,a,C,v,L,r⟩:=n.procs i F
 obtain⟨y,c3,rfl⟩:=C.shape
 obtain⟨H,A,rfl⟩:=v.shape
 obtain⟨G,l,rfl⟩:=r.shape
 have b:∀o u,c.w0.cell? ⟨d,o,none⟩=some u->w.cell? ⟨d,o,none⟩=some u:=fun o u E=>h.cell0 hd E
 have g:=zg (b _ _ (a 0 (by omega)))
 exact⟨d,_,y,H,G,_,_,_,c3,A,l,e,g,b _ _ (a 0 (by omega)),b _ _ (a 1 (by omega)),b _ _ (a 2 (by omega)),b _ _ (a 3 (by omega)),b _ _ (a 4 (by omega)),b _ _ (a 5 (by omega))⟩
def ProcP (c:Cx) (m:Tp.M) (nm:Bs) (v:Option Addr):Prop:=match Tp.procIn m nm with
 |none=>v=none
 |some p=>∃pb o,v=some ⟨pb,o,none⟩/\PrAt c p pb o
theorem rproc {c:Cx}{w:World}{s:Rs}{k:Nat}(h:GS c w s k)(A:CxOk c){lo:Lo}(t:lo∈c.L)(nm:Bs) :
  Calls Tryz.prog 54 #[.pointer (some ⟨lo.lb,0,none⟩),.string (bs nm)] w fun e w'=>∃v,e=.returned (.pointer v)/\ProcP c lo.m nm v/\Below w.heap.size w w':=by
 obtain⟨ia,ga,G,ba,ic,Z,y,bc,u,r⟩:=h.loB A t
 have H:=zf u
 have M:lo.m.procs.length<=1000:=by have:=(A.lo lo t).fit.wm.pc;omega
 have S:(lo.m.procs.length:Int)<=1000:=by omega
 have o:Below w.heap.size w (w.alloc (.cells #[.string (bs nm)] 9)):=zb _ _
 have g:=(o.block _ H).trans u
 have O:(w.alloc (.cells #[.string (bs nm)] 9)).cell? ⟨lo.lb,3,none⟩=some (.slice G lo.m.procs.length y):=(za g).trans rfl
 have N:Hid (PrC (w.alloc (.cells #[.string (bs nm)] 9)) lo.m.procs G):=(h.prc r).on o
 have j:=zh (jB (cp:=y) N.out M nm w.heap.size ((za (zo _ _)).trans rfl))
 have l:=zh o
 have B:lo.lb<(w.alloc (.cells #[.string (bs nm)] 9)).heap.size:=zf g
 have U:=zm
 have K:=zh r
 have V:=zh g
 clear h A t u r g o
 rcases pidx_in (m:=lo.m) (n:=nm) with⟨d,f⟩|⟨i,hi,d,f⟩
 ·rw[f]at j
  have x:Hid (∀v,v=none->ProcP c lo.m nm v):=fun v Q=>by unfold ProcP;rw[d];exact Q
  clear d f
  generalize lo.m.procs.length=ln at *
  go_enter Tryz.func54,Tryz.ntmps54
  go_wp2_with fail
  refine j.out.mono ?_
  rintro e w2⟨rfl,a⟩
  have q:Hid (Below w.heap.size w w2):=l.out.trans (a.mono l.out.size)
  clear a
  go_wp2_with fail
  go_ret
  exact⟨_,rfl,x.out _ rfl,q.out⟩
 ·rw[d]at j
  obtain⟨z,R,vv,P,I,e,hd,J,b,F,E,C,D⟩:=K.out.procs i hi
  subst e
  have x:Hid (ProcP c lo.m nm (some ⟨z,i*6,none⟩)):=by
   show ProcP _ _ _ _
   unfold ProcP
   rw[f]
   exact⟨z,i*6,rfl,⟨hd,b 0 (by omega),b 2 (by omega),R,vv,P,I,b 3 (by omega),b 4 (by omega),b 5 (by omega),F,E,C,D⟩⟩
  have Y:(i:Int)<(lo.m.procs.length:Int):=by omega
  have X:¬(i:Int)<0:=by omega
  clear d f hd J b F E C D hi
  generalize lo.m.procs.length=ln at *
  go_enter Tryz.func54,Tryz.ntmps54
  go_wp2_with fail
  refine j.out.mono ?_
  rintro e w2⟨rfl,a⟩
  have q:Hid (Below w.heap.size w w2):=l.out.trans (a.mono l.out.size)
  have W:w2.cell? ⟨lo.lb,3,none⟩=some (.slice (some ⟨z,0,none⟩) ln y):=(a.cell (p:=⟨lo.lb,3,none⟩) B).trans O
  have T:lo.lb<w2.heap.size:=Nat.lt_of_lt_of_le B a.size
  clear a
  go_wp2_with fail
  go_ret
  exact⟨_,rfl,x.out,q.out⟩
theorem GS.drew {c:Cx}{w:World}{s:Rs}{k:Nat}(h:GS c w s k)(a:CxOk c):GS c w.drew s k:=h.below a (Below.refl _ _).drew
theorem Kp.drew (c:Cx)(Y:Nat->Prop){w:World}(a:c.gb<w.heap.size):Kp c Y w w.drew:=Kp.below (Below.refl _ _).drew a
theorem Sc.below {c:Cx}{w w':World}{a:Nat}{ob:Option Nat}{lo:Lo}{own:Own}{names:List Bs}{left:Nat}(h:Sc c w a ob lo own names left)(b:CxOk c)(k:Below w.heap.size w w')(d:c.gb<w.heap.size):Sc c w' a ob lo own names left:=h.kp (Kp.below k d) b.Vlt zn
theorem Sc.drew {c:Cx}{w:World}{a:Nat}{ob:Option Nat}{lo:Lo}{own:Own}{names:List Bs}{left:Nat}(h:Sc c w a ob lo own names left)(b:CxOk c)(d:c.gb<w.heap.size):Sc c w.drew a ob lo own names left:=h.below b (Below.refl _ _).drew d
theorem Ex.blk {c:Cx}{lo:Lo}{names:List Bs}{code pos n:Nat}{md nm a:Bs}{b ri d:List X}{x:Nat}(h:Ex c lo names [⟨code,pos,n,md,nm,a,b,ri,d⟩] x):∃(av:Value) (ls rs gs:List Value),c.D x/\c.w0.heap[x]?=some (.cells #[.int .i64 (code:Int),.int .i64 (pos:Int),.int .i64 (n:Int),.string (bs md),.string (bs nm),.string (bs a),ls.headD (.pointer none),rs.headD (.pointer none),av] 216 (0,0))/\RepL c.w0 c.D b ls/\ls.length<=1/\RepL c.w0 c.D ri rs/\rs.length<=1/\RepL c.w0 c.D d gs/\(gs=[]/\av=.slice none 0 0\/∃g cap cur,av=.slice (some ⟨g,0,none⟩) gs.length cap/\c.D g/\c.w0.heap[g]?=some (.cells cur 179 (0,0))/\gs.length<=cap/\cap<=maxLen/\cur.size=cap/\cur.toList.take gs.length=gs):=h.rep.one
theorem RepL.part {w:World}{D:Nat->Prop}{l:List X}{d:List Value}(h:RepL w D l d)(e:l.length=1):∃y,d=[.pointer (some ⟨y,0,none⟩)]/\D y:=by
 obtain⟨x,rfl⟩:=Tp.len1 e
 obtain⟨code,pos,n,md,nm,i,j,ri,p⟩:=x
 have c:=h
 rw[RepL]at c
 obtain⟨b,o,k,rs,m,g,f,hd,_,_,_,_,_,_,_,a⟩:=c
 rw[RepL]at a
 subst a
 exact⟨b,f,hd⟩
theorem Ex.left {c:Cx}{lo:Lo}{names:List Bs}{code pos n:Nat}{md nm f:Bs}{a ri g:List X}{x y:Nat}(h:Ex c lo names [⟨code,pos,n,md,nm,f,a,ri,g⟩] x)(e:RepL c.w0 c.D a [.pointer (some ⟨y,0,none⟩)])(b:Tp.WX a):Ex c lo names a y :=
 ⟨e,b,fun r d=>h.fit r (by rw[Tp.rx];simp[d])⟩
theorem Ex.right {c:Cx}{lo:Lo}{names:List Bs}{code pos n:Nat}{md nm f:Bs}{a ri g:List X}{x y:Nat}(h:Ex c lo names [⟨code,pos,n,md,nm,f,a,ri,g⟩] x)(e:RepL c.w0 c.D ri [.pointer (some ⟨y,0,none⟩)])(b:Tp.WX ri):Ex c lo names ri y :=
 ⟨e,b,fun r d=>h.fit r (by rw[Tp.rx];simp[d])⟩
theorem Rr.bind_gas {α β:Type}{f:Tp.Ru α}{g:α->Tp.Ru β}{s:Rs}(h:(f.bind g) s≠.gas):f s≠.gas:=fun e=>h (by unfold Tp.Ru.bind;rw[e])
theorem value_num {c:Cx}{g:Nat}{k:Nat}{lo:Lo}{own:Own}{names:List Bs}{x:Nat}{w:World}{s:Rs}{r pos n:Nat}{md nm f:Bs}{b ri i:List X}(e:Ex c lo names [⟨1,pos,n,md,nm,f,b,ri,i⟩] x)(h:GS c w s k) :
  Calls Tryz.prog 150 #[.pointer (some ⟨r,0,none⟩),.pointer (some ⟨x,0,none⟩)] w (EvP c k w s (Tp.evX (g+1) k lo.m.name own [⟨1,pos,n,md,nm,f,b,ri,i⟩] s)):=by
 obtain⟨v,A,rs,z,p,o,_⟩:=e.blk
 have a:=(h.st x p).trans o
 have u:=zf a
 have y:w.cell? ⟨x,0,none⟩=some (.int .i64 1):=(za a).trans rfl
 have B:w.cell? ⟨x,2,none⟩=some (.int .i64 (n:Int)):=(za a).trans rfl
 have j:Tp.evX (g+1) k lo.m.name own [⟨1,pos,n,md,nm,f,b,ri,i⟩] s=.ok (n:Int) s:=by rw[Tp.evX];rfl
 have d:=e.wx
 rw[Tp.WX]at d
 have l:Tp.I64 (n:Int):=by
  rcases d.1 with q|q|q|q|q|q
  ·have:=q.2.1;unfold Tp.top at this;unfold Tp.I64;omega
  all_goals exact absurd q.1 (by decide)
 rw[j]
 have t:Hid (EvP c k w s (.ok (n:Int) s) (.returned (.int .i64 (n:Int))) w):=⟨rfl,h,Kp.refl _ _ _,Nat.le_refl _,l⟩
 clear j d l o a h e
 go_enter Tryz.func150,Tryz.ntmps150
 go_wp2_with fail
 go_ret
 exact t.out
def unV (op:Bs) (v:Int):Int:=if op=Tp.mMinus then Tp.w64 (0-v) else Tp.b01 (v=0)
theorem unV_in (a:Bs)(v:Int):Tp.I64 (unV a v):=by
 unfold unV
 split
 ·exact Tp.w64_in _
 ·unfold Tp.b01 Tp.I64;split<;>omega
theorem rsingle {a:Bs}(b:a=Tp.mMinus\/a=Tp.wNot)(n:Int)(w:World):Calls Tryz.prog 174 #[.string (bs a),.int .i64 n] w fun e w'=>e=.returned (.int .i64 (unV a n))/\w'=w:=by
 unfold unV
 rcases b with rfl|rfl
 ·rw[if_pos rfl];exact xC n w
 ·rw[if_neg (by decide)];exact uy n w
theorem value_un {c:Cx}{g:Nat}(E:CxOk c)(R:EvC c g){k:Nat}{lo:Lo}{own:Own}{names:List Bs}{x:Nat}{w:World}{s:Rs}{u pos n:Nat}{ob:Option Nat}{md nm a:Bs}{d ri l:List X}(j:Ex c lo names [⟨4,pos,n,md,nm,a,d,ri,l⟩] x)(h:GS c w s k)(Q:Sc c w u ob lo own names s.left)(o:Tp.evX (g+1) k lo.m.name own [⟨4,pos,n,md,nm,a,d,ri,l⟩] s≠.gas) :
  Calls Tryz.prog 150 #[.pointer (some ⟨u,0,none⟩),.pointer (some ⟨x,0,none⟩)] w (EvP c k w s (Tp.evX (g+1) k lo.m.name own [⟨4,pos,n,md,nm,a,d,ri,l⟩] s)):=by
 have B:=j.wx
 rw[Tp.WX]at B
 obtain⟨I,M,H⟩:(a=Tp.mMinus\/a=Tp.wNot)/\Tp.WX d/\d.length=1:=by
  rcases B.1 with q|q|q|q|q|q
  ·exact absurd q.1 (by decide)
  ·exact absurd q.1 (by decide)
  ·exact absurd q.1 (by decide)
  ·exact⟨q.2.2.2.2.1,q.2.2.2.2.2.1,q.2.2.2.2.2.2.1⟩
  ·exact absurd q.1 (by decide)
  ·exact absurd q.1 (by decide)
 have F:Tp.evX (g+1) k lo.m.name own [⟨4,pos,n,md,nm,a,d,ri,l⟩] s=((Tp.evX g k lo.m.name own d).bind fun v=>Tp.Ru.pure (unV a v)) s:=by rw[Tp.evX];rfl
 rw[F]at o ⊢
 obtain⟨av,ls,rs,gs,A,p,z,_⟩:=j.blk
 obtain⟨y,rfl,_⟩:=z.part H
 have P:=j.left z M
 have i:=(h.st x A).trans p
 have a5:=zf i
 have N:=h.lt
 have k0:w.cell? ⟨x,0,none⟩=some (.int .i64 4):=(za i).trans rfl
 have O:Hid (w.drew.cell? ⟨x,5,none⟩=some (.string (bs a))/\w.drew.cell? ⟨x,6,none⟩=some (.pointer (some ⟨y,0,none⟩))):=⟨(za i).trans rfl,(za i).trans rfl⟩
 have a0:Hid (∀W f k',GS c W f k'->W.cell? ⟨x,5,none⟩=some (.string (bs a))/\W.cell? ⟨x,6,none⟩=some (.pointer (some ⟨y,0,none⟩))):=fun W f k' b=>⟨(za ((b.st x A).trans p)).trans rfl,(za ((b.st x A).trans p)).trans rfl⟩
 have S:=zh (R k lo own names d y w.drew s u ob P (h.drew E) (Q.drew E N) (Rr.bind_gas o))
 have J:=zh (Kp.drew c nY N)
 have U:=zh (fun n W=>rsingle I n W)
 unfold Tp.Ru.bind at o ⊢
 clear F p i h Q j P z B M H R I
 generalize hr:Tp.evX g k lo.m.name own d s=r at *
 clear hr
 cases r with
 |gas=>exact absurd rfl o
 | E v f =>
  simp only
  have C:Hid (∀W,GS c W f k/\Kp c nY w.drew W/\f.left<=s.left->EvP c k w s (Tp.Ru.pure (unV a v) f) (.returned (.int .i64 (unV a v))) W):=fun W b=>⟨rfl,b.1,J.out.trans b.2.1,b.2.2,unV_in _ _⟩
  go_enter Tryz.func150,Tryz.ntmps150
  go_wp2_with fail
  go_region_held3 (fun w'=>w'.cell? ⟨x,5,none⟩=some (.string (bs a))/\w'.cell? ⟨x,6,none⟩=some (.pointer (some ⟨y,0,none⟩))) (with_reducible (first|exact a1.out|exact G.out|exact O.out)) (first|(go_at_call 150;refine S.out.mono ?_;rintro e w2 ⟨rfl,t,L,K,_⟩;have a2:=zh t;have Y:=zh L;have a3:=zh K;have G:=zh (a0.out _ _ _ t);clear t L K)|(go_at_call 174;refine(U.out v _).mono ?_;rintro e w3 ⟨rfl,rfl⟩;have a1:=G))
  go_wp2_with fail
  go_ret
  exact C.out _ ⟨a2.out,Y.out,a3.out⟩
 |stop way f =>
  simp only
  have C:Hid (∀e W,thrE endT (way:Int) e/\(∃k',GS c W f k')/\Kp c nY w.drew W->EvP c k w s (.stop way f) e W):=fun e W b=>⟨b.1,b.2.1,J.out.trans b.2.2⟩
  go_enter Tryz.func150,Tryz.ntmps150
  go_wp2_with fail
  go_region_held (fun w'=>w'.cell? ⟨x,5,none⟩=some (.string (bs a))/\w'.cell? ⟨x,6,none⟩=some (.pointer (some ⟨y,0,none⟩))) (with_reducible (first|exact D.out.elim|exact O.out)) (first|(go_at_call 150;refine yo S.out ?hT ?_;(case hT=>(rintro e w3 ⟨⟨older,rfl⟩,Z,V⟩;exact⟨rfl,C.out _ _ ⟨⟨older,rfl⟩,Z,V⟩⟩));intro D)|(go_at_call 174;refine yo (T:=fun _ _=>False) D.out.elim ?hT2 ?_;(case hT2=>(intro e w h;exact h.elim));intro a4))
  exact D.out.elim
theorem atM_of {c:Cx}{lo:Lo}(_:CxOk c)(e:lo∈c.L){md:Bs}{d:Tp.M}(h:Tp.atM c.ms lo.m md d):∃lo',lo'∈c.L/\lo'.m=d/\ofLo c lo md lo'/\lo'.m.name=(if md=[] then lo.m.name else md):=by
 unfold Tp.atM at h
 by_cases a:md=[]
 ·rw[if_pos a]at h
  exact⟨lo,e,h.symm,by unfold ofLo;rw[if_pos a],by rw[if_pos a]⟩
 ·rw[if_neg a]at h
  rw[c.partM]at h
  cases b:c.lo md with
  |none=>rw[b]at h;cases h
  |some lo' =>
   rw[b]at h
   simp only[Option.map_some,Option.some.injEq]at h
   have:=CxOk.lo_mem b
   exact⟨lo',this.1,h,by unfold ofLo;rw[if_neg a];exact b,by rw[if_neg a];exact this.2⟩
theorem evX_var (g k:Nat)(m:Bs)(own:Own)(pos n:Nat)(md nm a:Bs)(b ri c:List X):Tp.evX (g+1) k m own [⟨2,pos,n,md,nm,a,b,ri,c⟩]=if md=[] then (match own nm with
    |some v=>Tp.Ru.pure v
    |none=>(Tp.getV m nm).bind fun l=>Tp.Ru.pure (l.headD 0))
   else (Tp.getV md nm).bind fun l=>Tp.Ru.pure (l.headD 0):=by rw[Tp.evX];rfl
theorem GS.val {c:Cx}{w:World}{s:Rs}{k:Nat}(h:GS c w s k)(r:CxOk c){lo:Lo}(n:lo∈c.L){nm:Bs}{g:G}(f:Tp.varOf lo.m nm=some g):∃p,Tp.partOf s.w lo.m.name=some p/\(p.vars nm).length=vlen g/\(∀i,w.cell? ⟨lo.sl nm,i,none⟩=((p.vars nm)[i]?).map fun v=>.int .i64 v)/\(∀v∈p.vars nm,Tp.I64 v)/\vlen g<=1000/\g∈lo.m.vars/\g.name=nm:=by
 obtain⟨p,o,t,q⟩:=h.vals lo n
 have a:g∈lo.m.vars:=List.mem_of_find?_eq_some f
 have b:g.name=nm:=by simpa using List.find?_some f
 obtain⟨e,d,j⟩:=q g a
 rw[b]at e d j
 refine⟨p,o,e,fun i=>?_,j,?_,a,b⟩
 ·rw[za d]
  simp[ints]
 ·have:=((r.lo lo n).fit.wm.g g a).l
  unfold vlen
  split<;>omega
theorem uR {s:Rs}{md nm:Bs}{p:Pt}(h:Tp.partOf s.w md=some p):Tp.getV md nm s=.ok (p.vars nm) s:=by unfold Tp.getV;rw[h];rfl
theorem head_at {l:List Int}{n:Nat}(h:l.length=n)(b:0<n):l[0]?=some (l.headD 0):=by
 cases l with
 |nil=>simp at h;omega
 |cons a t=>rfl
theorem vlen_pos (g:G):0<vlen g:=by unfold vlen;split<;>omega
theorem wx_okr {code pos n:Nat}{md nm a:Bs}{b ri c:List X}(h:Tp.WX [⟨code,pos,n,md,nm,a,b,ri,c⟩])(d:code=2\/code=3\/code=6):md.length<=1000000/\nm.length<=1000000:=by
 rw[Tp.WX]at h
 have key:Tp.okr md nm:=by
  rcases h.1 with q|q|q|q|q|q
  ·omega
  ·exact q.2.2.1
  ·exact q.2.2.1
  ·omega
  ·omega
  ·exact q.2.2.1
 refine⟨?_,zQ key.2⟩
 rcases key.1 with q|q
 ·rw[q];simp
 ·exact zQ q
theorem jf {c:Cx}{w:World}{s:Rs}{k:Nat}(_:GS c w s k){lo a:Lo}{md:Bs}(e:a.m.name=(if md=[] then lo.m.name else md)){p:Pt}(b:Tp.partOf s.w a.m.name=some p):Tp.partOf s.w (if md=[] then lo.m.name else md)=some p:=by rw[<-e];exact b
theorem value_var {c:Cx}{g:Nat}(q:CxOk c){k:Nat}{lo:Lo}{own:Own}{names:List Bs}{x:Nat}{w:World}{s:Rs}{A pos n:Nat}{ob:Option Nat}{md nm B:Bs}{r ri l:List X}(j:Ex c lo names [⟨2,pos,n,md,nm,B,r,ri,l⟩] x)(h:GS c w s k)(b:Sc c w A ob lo own names s.left) :
  Calls Tryz.prog 150 #[.pointer (some ⟨A,0,none⟩),.pointer (some ⟨x,0,none⟩)] w (EvP c k w s (Tp.evX (g+1) k lo.m.name own [⟨2,pos,n,md,nm,B,r,ri,l⟩] s)):=by
 obtain⟨av,ls,rs,gs,V,I,_⟩:=j.blk
 have d:=(h.st x V).trans I
 have G:=zf d
 have O:=h.lt
 have k0:w.cell? ⟨x,0,none⟩=some (.int .i64 2):=(za d).trans rfl
 have y:w.cell? ⟨x,3,none⟩=some (.string (bs md)):=(za d).trans rfl
 have t:w.cell? ⟨x,4,none⟩=some (.string (bs nm)):=(za d).trans rfl
 obtain⟨N,E⟩:=wx_okr j.wx (by omega)
 have J:=j.fit ⟨2,pos,md,nm,l.length⟩ (by rw[Tp.rx];simp)
 obtain⟨v,a,HC⟩:∃v,(Tp.evX (g+1) k lo.m.name own [⟨2,pos,n,md,nm,B,r,ri,l⟩] s=.ok v s/\Tp.I64 v)/\Hid (Calls Tryz.prog 172 #[.pointer (some ⟨A,0,none⟩),.pointer (some ⟨x,0,none⟩)] w fun e w'=>e=.returned (.int .i64 v)/\Below w.heap.size w w'):=by
  rcases J.v2 rfl with⟨f,i⟩|⟨f,m',g',i,q3,q4⟩
  ·simp only at f i
   subst f
   have R:=(b.dom nm).2 i
   obtain⟨v,a⟩:=Option.isSome_iff_exists.1 R
   refine⟨v,⟨?_,b.i64 _ _ a⟩,xA b E a G y t⟩
   rw[evX_var,if_pos rfl,a]
   rfl
  ·simp only at f i q3
   obtain⟨P,D,M,T,L⟩:=atM_of q b.mem i
   rw[<-M]at q3
   obtain⟨p,Y,Z,p3,p4,p5,_,_⟩:=h.val q D q3
   have K:=head_at Z (vlen_pos g')
   have Q:w.cell? ⟨P.sl nm,0,none⟩=some (.int .i64 ((p.vars nm).headD 0)):=by rw[p3 0,K];rfl
   have C:md=[]->own nm=none:=fun e=>by
    cases U:own nm with
    |none=>rfl
    |some u=>exact absurd ((b.dom nm).1 (by rw[U];rfl)) (f e)
   refine⟨(p.vars nm).headD 0,⟨?_,p4 _ (List.mem_of_getElem? K)⟩,xB h q b E N C T D q3 Q G y t⟩
   rw[evX_var]
   have o:=jf h L Y
   by_cases z:md=[]
   ·rw[if_pos z]at o ⊢
    rw[C z]
    unfold Tp.Ru.bind
    simp only[uR o]
    rfl
   ·rw[if_neg z]at o ⊢
    unfold Tp.Ru.bind
    simp only[uR o]
    rfl
 rw[a.1]
 have HR:Hid (∀W,Below w.heap.size w W->EvP c k w s (.ok v s) (.returned (.int .i64 v)) W):=fun W H=>⟨rfl,h.below q H,Kp.below H O,Nat.le_refl _,a.2⟩
 clear a I d h j b J y t
 go_enter Tryz.func150,Tryz.ntmps150
 go_wp2_with fail
 refine HC.out.mono ?_
 rintro e w2⟨rfl,F⟩
 have S:=zh F
 clear F
 go_wp2_with fail
 go_ret
 exact HR.out _ S.out
def itemR (l:List Int) (i:Int) (s:Rs):Rr Int:=if 0<=i/\i<l.length then .ok (l.getD i.toNat 0) s else .stop Tp.bounds s
theorem value_item {c:Cx}{g:Nat}(B:CxOk c)(hE:EvC c g){k:Nat}{lo:Lo}{own:Own}{names:List Bs}{x:Nat}{w:World}{s:Rs}{I pos n:Nat}{ob:Option Nat}{md nm J:Bs}{f ri F:List X}(E:Ex c lo names [⟨3,pos,n,md,nm,J,f,ri,F⟩] x)(h:GS c w s k)(R:Sc c w I ob lo own names s.left)(D:Tp.evX (g+1) k lo.m.name own [⟨3,pos,n,md,nm,J,f,ri,F⟩] s≠.gas) :
  Calls Tryz.prog 150 #[.pointer (some ⟨I,0,none⟩),.pointer (some ⟨x,0,none⟩)] w (EvP c k w s (Tp.evX (g+1) k lo.m.name own [⟨3,pos,n,md,nm,J,f,ri,F⟩] s)):=by
 have hw:=E.wx
 rw[Tp.WX]at hw
 obtain⟨b0,b2⟩:Tp.WX f/\f.length=1:=by
  rcases hw.1 with q|q|q|q|q|q
  ·exact absurd q.1 (by decide)
  ·exact absurd q.1 (by decide)
  ·exact⟨q.2.2.2.2.1,q.2.2.2.2.2.1⟩
  ·exact absurd q.1 (by decide)
  ·exact absurd q.1 (by decide)
  ·exact absurd q.1 (by decide)
 have a1:Tp.evX (g+1) k lo.m.name own [⟨3,pos,n,md,nm,J,f,ri,F⟩] s=((Tp.evX g k lo.m.name own f).bind fun i=>(Tp.getV (if md=[] then lo.m.name else md) nm).bind fun l=>(if 0<=i/\i<l.length then Tp.Ru.pure (l.getD i.toNat 0) else Tp.Ru.stop Tp.bounds)) s:=by rw[Tp.evX];rfl
 obtain⟨A,u⟩:∃A,A=Tp.evX (g+1) k lo.m.name own [⟨3,pos,n,md,nm,J,f,ri,F⟩] s:=⟨_,rfl⟩
 rw[<-u]
 rw[a1]at D u
 obtain⟨av,ls,rs,gs,hD,L,rl,_⟩:=E.blk
 obtain⟨y,rfl,_⟩:=rl.part b2
 have a9:=E.left rl b0
 have O:=(h.st x hD).trans L
 have b7:=zf O
 have b5:=h.lt
 have k0:w.cell? ⟨x,0,none⟩=some (.int .i64 3):=(za O).trans rfl
 have k6:w.cell? ⟨x,6,none⟩=some (.pointer (some ⟨y,0,none⟩)):=(za O).trans rfl
 have HC:=zh (hE k lo own names f y w s I ob a9 h R (Rr.bind_gas D))
 obtain⟨a4,a6⟩:=wx_okr E.wx (by omega)
 have hf:=E.fit ⟨3,pos,md,nm,F.length⟩ (by rw[Tp.rx];simp)
 obtain⟨_,m',g',q2,G,q4⟩:=hf.v3 rfl
 simp only at q2 G
 obtain⟨b6,Q,a5,Y,a2⟩:=atM_of B R.mem q2
 rw[<-a5]at G
 have HI:Hid (∀W b (i:Int),GS c W b k->Kp c nY w W->b.left<=s.left->∃p,Tp.partOf b.w (if md=[] then lo.m.name else md)=some p/\(∀(hi:0<=i/\i<(p.vars nm).length),Tp.I64 ((p.vars nm).getD i.toNat 0)/\Calls Tryz.prog 173 #[.pointer (some ⟨I,0,none⟩),.pointer (some ⟨x,0,none⟩),.int .i64 i] W fun e w'=>e=.returned (.int .i64 ((p.vars nm).getD i.toNat 0))/\Below W.heap.size W w')/\(¬(0<=i/\i<(p.vars nm).length)->Calls Tryz.prog 173 #[.pointer (some ⟨I,0,none⟩),.pointer (some ⟨x,0,none⟩),.int .i64 i] W fun e w'=>thrE endT (Tp.bounds:Int) e/\Below W.heap.size W w')):=by
  intro W b i a hK hL
  obtain⟨p,M,p2,p3,p4,p5,_,_⟩:=a.val B Q G
  have T:=(a.st x hD).trans L
  have a8:=zf T
  have j3:W.cell? ⟨x,3,none⟩=some (.string (bs md)):=(za T).trans rfl
  have j4:W.cell? ⟨x,4,none⟩=some (.string (bs nm)):=(za T).trans rfl
  have b1:=R.kp hK B.Vlt hL
  refine⟨p,jf a a2 M,fun hi=>?_,fun hi=>?_⟩
  ·obtain⟨j,rfl⟩:∃j:Nat,i=(j:Int):=⟨i.toNat,by omega⟩
   have hj:j<(p.vars nm).length:=by omega
   have e:(p.vars nm).getD (j:Int).toNat 0=(p.vars nm)[j]:=by simp[hj]
   rw[e]
   exact⟨p4 _ (List.getElem_mem hj),ritem_ok a B b1 a6 a4 Y Q G (by omega) p5 (by rw[p3 j,List.getElem?_eq_getElem hj];rfl) a8 j3 j4⟩
  ·exact ritem_out a B b1 a6 a4 Y Q G (by omega) p5 a8 j3 j4
 have HG:Hid (∀W W' b,GS c W b k->Below W.heap.size W W'->GS c W' b k):=fun W W' b q L=>q.below B L
 unfold Tp.Ru.bind at D u
 clear a1 L O h R E a9 rl hw b0 b2 hE hf q2 G Y a2 a5 Q
 generalize hr:Tp.evX g k lo.m.name own f s=r at *
 clear hr
 cases r with
 |gas=>exact absurd rfl D
 |stop way b =>
  have K:Hid (∀e W,thrE endT (way:Int) e/\(∃k',GS c W b k')/\Kp c nY w W->EvP c k w s A e W):=fun e W a=>by rw[u];exact⟨a.1,a.2.1,a.2.2⟩
  clear u D
  go_enter Tryz.func150,Tryz.ntmps150
  go_wp2_with fail
  refine HC.out.mono ?_
  rintro e w2⟨⟨older,rfl⟩,t,z⟩
  have C:=zh t
  have N:=zh z
  clear t z
  go_wp2_with fail
  exact⟨rfl,K.out _ _ ⟨⟨older,rfl⟩,C.out,N.out⟩⟩
 | B i b =>
  have a0:Hid (A=_):=u
  clear D u
  go_enter Tryz.func150,Tryz.ntmps150
  go_wp2_with fail
  refine HC.out.mono ?_
  rintro e w2⟨rfl,t,z,P,a7⟩
  obtain⟨p,M,Z,S⟩:=HI.out w2 b i t z P
  have C:=zh t
  have N:=zh z
  have b4:=zh P
  have o:A=itemR (p.vars nm) i b:=by
   rw[a0.out]
   simp only[uR M]
   unfold itemR
   by_cases d:0<=i/\i<(p.vars nm).length
   ·rw[if_pos d,if_pos d];rfl
   ·rw[if_neg d,if_neg d];rfl
  unfold itemR at o
  by_cases d:0<=i/\i<(p.vars nm).length
  ·obtain⟨a3,b3⟩:=Z d
   have V:=zh b3
   rw[if_pos d]at o
   have K:Hid (∀W,Below w2.heap.size w2 W->EvP c k w s A (.returned (.int .i64 ((p.vars nm).getD i.toNat 0))) W):=fun W a=>by rw[o];exact⟨rfl,HG.out _ _ _ C.out a,N.out.trans (Kp.below a C.out.lt),b4.out,a3⟩
   clear b3 Z S t z P a7 M d a3 o a0
   generalize (p.vars nm).getD i.toNat 0=v at *
   go_wp2_with fail
   refine V.out.mono ?_
   rintro e w3⟨rfl,H⟩
   have U:=zh H
   clear H
   go_wp2_with fail
   go_ret
   exact K.out _ U.out
  ·have V:=zh (S d)
   rw[if_neg d]at o
   have K:Hid (∀e W,thrE endT (Tp.bounds:Int) e->Below w2.heap.size w2 W->EvP c k w s A e W):=fun e W he a=>by rw[o];exact⟨he,⟨k,HG.out _ _ _ C.out a⟩,N.out.trans (Kp.below a C.out.lt)⟩
   clear Z S t z P a7 M d o a0
   go_wp2_with fail
   refine V.out.mono ?_
   rintro e w3⟨⟨older,rfl⟩,H⟩
   have U:=zh H
   clear H
   go_wp2_with fail
   exact⟨rfl,K.out _ _ ⟨older,rfl⟩ U.out⟩
theorem EvP.up {c:Cx}{k:Nat}{w W w':World}{s a:Rs}{r:Rr Int}{e:Ending}(h:EvP c k W a r e w')(b:Kp c nY w W)(d:a.left<=s.left):EvP c k w s r e w':=by
 cases r with
 |ok v s2=>exact⟨h.1,h.2.1,b.trans h.2.2.1,Nat.le_trans h.2.2.2.1 d,h.2.2.2.2⟩
 |stop way s2=>exact⟨h.1,h.2.1,b.trans h.2.2⟩
 |gas=>trivial
def bindR (r:Rr Int) (f:Int->Rs->Rr Int):Rr Int:=match r with
 | .ok v s=>f v s
 | .stop way s=>.stop way s
 | .gas=>.gas
def CellX (c:Cx) (x:Nat) (bop:ByteArray) (y z:Nat):Prop:=∀W s' k',GS c W s' k'->x<W.heap.size/\W.cell? ⟨x,5,none⟩=some (.string bop)/\W.cell? ⟨x,6,none⟩=some (.pointer (some ⟨y,0,none⟩))/\W.cell? ⟨x,7,none⟩=some (.pointer (some ⟨z,0,none⟩))
def RightC (c:Cx) (k:Nat) (w:World) (s:Rs) (sb z:Nat) (rr:Rs->Rr Int):Prop:=∀W s',GS c W s' k->Kp c nY w W->s'.left<=s.left->rr s'≠.gas->Calls Tryz.prog 150 #[.pointer (some ⟨sb,0,none⟩),.pointer (some ⟨z,0,none⟩)] W (EvP c k W s' (rr s'))
theorem ji (p:Prop)[Decidable p]:Tp.I64 (Tp.b01 p):=by unfold Tp.b01 Tp.I64;split<;>omega
theorem ne_bool (b:Int):(!(b==0))=decide (b≠0):=by by_cases h:b=0<;>simp[h]
theorem pair_and {c:Cx}{k:Nat}{w:World}{s:Rs}{M x y z:Nat}{O:Rr Int}{rr:Rs->Rr Int}{V:ByteArray}(h1:(V.toList==[97,110,100])=true)(h:GS c w s k)(R:CellX c x V y z)
  (Z:Calls Tryz.prog 150 #[.pointer (some ⟨M,0,none⟩),.pointer (some ⟨y,0,none⟩)] w (EvP c k w s O))(Y:RightC c k w s M z rr)
  {j:Rr Int}(r:j=bindR O fun a H=>if a=0 then .ok 0 H else bindR (rr H) fun b s2=>.ok (Tp.b01 (b≠0)) s2)(p:j≠.gas) :
  Calls Tryz.prog 175 #[.pointer (some ⟨M,0,none⟩),.pointer (some ⟨x,0,none⟩)] w (EvP c k w s j):=by
 obtain⟨a7,_,k6,_⟩:=R w s k h
 have P:=zh R
 have I:=zh Z
 have T:=zh Y
 clear R Z Y h
 cases O with
 |gas=>exact absurd (r.trans rfl) p
 |stop way H =>
  have o:Hid (∀e W,EvP c k w s (.stop way H) e W->EvP c k w s j e W):=fun e W hW=>by rw[r];exact hW
  clear r p
  go_enter Tryz.func175,Tryz.ntmps175
  go_wp2_with fail
  refine I.out.mono ?_
  rintro e w2⟨⟨older,rfl⟩,d,f⟩
  have L:=zh d
  have m:=zh f
  clear d f
  go_wp2_with fail
  exact⟨rfl,o.out _ _ ⟨⟨older,rfl⟩,L.out,m.out⟩⟩
 |ok a s1 =>
  have g:j=if a=0 then .ok 0 s1 else bindR (rr s1) fun b s2=>.ok (Tp.b01 (b≠0)) s2:=r
  clear r
  by_cases E:a=0
  ·rw[if_pos E]at g
   have o:Hid (∀W,GS c W s1 k->Kp c nY w W->s1.left<=s.left->EvP c k w s j (.returned (.int .i64 0)) W):=fun W G F D=>by rw[g];exact⟨rfl,G,F,D,by decide⟩
   subst E
   clear g p
   go_enter Tryz.func175,Tryz.ntmps175
   go_wp2_with fail
   refine I.out.mono ?_
   rintro e w2⟨rfl,d,f,i,_⟩
   obtain⟨S,j5,_,X⟩:=P.out w2 _ _ d
   have L:=zh d
   have m:=zh f
   have B:=zh i
   clear d f i
   go_wp2_with fail
   refine(yh _ 0 (by rfl) w2).mono ?_
   rintro e Q⟨rfl,rfl⟩
   go_wp2_with fail
   go_ret
   exact o.out _ L.out m.out B.out
  ·rw[if_neg E]at g
   have a6:(a==0)=false:=by simpa using E
   cases n:rr s1 with
   |gas=>rw[n]at g;exact absurd g p
   |stop way s2 =>
    rw[n]at g
    have o:Hid (∀W e l,Kp c nY w W->s1.left<=s.left->EvP c k W s1 (.stop way s2) e l->EvP c k w s j e l):=fun W e l G F D=>by rw[g];exact D.up G F
    have t:Hid (rr s1=.stop way s2):=n
    clear g p n
    go_enter Tryz.func175,Tryz.ntmps175
    go_wp2_with fail
    refine I.out.mono ?_
    rintro e w2⟨rfl,d,f,i,_⟩
    obtain⟨S,j5,_,X⟩:=P.out w2 _ _ d
    have u:=zh (T.out w2 s1 d f i (by rw[t.out];simp))
    rw[t.out]at u
    have m:=zh f
    have B:=zh i
    clear d f i
    go_wp2_with fail
    refine u.out.mono ?_
    rintro e Q⟨⟨older,rfl⟩,C,A⟩
    have K:=zh C
    have J:=zh A
    clear C A
    go_wp2_with fail
    exact⟨rfl,o.out _ _ _ m.out B.out ⟨⟨older,rfl⟩,K.out,J.out⟩⟩
   |ok b s2 =>
    rw[n]at g
    have o:Hid (∀W l,Kp c nY w W->s1.left<=s.left->GS c l s2 k->Kp c nY W l->s2.left<=s1.left->EvP c k w s j (.returned (.int .i64 (Tp.b01 (b≠0)))) l):=fun W l G F D a4 a5=>by rw[g];exact⟨rfl,D,G.trans a4,Nat.le_trans a5 F,ji _⟩
    have t:Hid (rr s1=.ok b s2):=n
    have HT:Hid (∀q:Bool,q=decide (b≠0)->Tp.b01 (b≠0)=if q then (1:Int) else 0):=fun q h=>by rw[h];exact(yu _).symm
    clear g p n
    generalize Tp.b01 (b≠0)=v at *
    go_enter Tryz.func175,Tryz.ntmps175
    go_wp2_with fail
    refine I.out.mono ?_
    rintro e w2⟨rfl,d,f,i,_⟩
    obtain⟨S,j5,_,X⟩:=P.out w2 _ _ d
    have u:=zh (T.out w2 s1 d f i (by rw[t.out];simp))
    rw[t.out]at u
    have m:=zh f
    have B:=zh i
    clear d f i
    go_wp2_with fail
    refine u.out.mono ?_
    rintro e Q⟨rfl,C,A,U,_⟩
    have K:=zh C
    have J:=zh A
    have a0:=zh U
    clear C A U
    go_wp2_with fail
    refine(yh _ v (HT.out _ (by first|rfl|exact ne_bool b|(by_cases N:b=0<;>simp[N,E]<;>done)|(by_cases N:b=0<;>simp[N]<;>done))) Q).mono ?_
    rintro e w4⟨rfl,rfl⟩
    go_wp2_with fail
    go_ret
    exact o.out _ _ m.out B.out K.out J.out a0.out
theorem pair_or {c:Cx}{k:Nat}{w:World}{s:Rs}{N x y z:Nat}{P:Rr Int}{rr:Rs->Rr Int}{K:ByteArray}(h0:(K.toList==[97,110,100])=false)(h1:(K.toList==[111,114])=true)(h:GS c w s k)(S:CellX c x K y z)
  (hL:Calls Tryz.prog 150 #[.pointer (some ⟨N,0,none⟩),.pointer (some ⟨y,0,none⟩)] w (EvP c k w s P))(Z:RightC c k w s N z rr)
  {j:Rr Int}(r:j=bindR P fun a H=>if a≠0 then .ok 1 H else bindR (rr H) fun b s2=>.ok (Tp.b01 (b≠0)) s2)(p:j≠.gas) :
  Calls Tryz.prog 175 #[.pointer (some ⟨N,0,none⟩),.pointer (some ⟨x,0,none⟩)] w (EvP c k w s j):=by
 obtain⟨a6,_,k6,_⟩:=S w s k h
 have Q:=zh S
 have I:=zh hL
 have V:=zh Z
 clear S hL Z h
 cases P with
 |gas=>exact absurd (r.trans rfl) p
 |stop way H =>
  have o:Hid (∀e W,EvP c k w s (.stop way H) e W->EvP c k w s j e W):=fun e W hW=>by rw[r];exact hW
  clear r p
  go_enter Tryz.func175,Tryz.ntmps175
  go_wp2_with fail
  refine I.out.mono ?_
  rintro e w2⟨⟨older,rfl⟩,d,f⟩
  have M:=zh d
  have m:=zh f
  clear d f
  go_wp2_with fail
  exact⟨rfl,o.out _ _ ⟨⟨older,rfl⟩,M.out,m.out⟩⟩
 |ok a s1 =>
  have g:j=if a≠0 then .ok 1 s1 else bindR (rr s1) fun b s2=>.ok (Tp.b01 (b≠0)) s2:=r
  clear r
  by_cases E:a≠0
  ·rw[if_pos E]at g
   have o:Hid (∀W,GS c W s1 k->Kp c nY w W->s1.left<=s.left->EvP c k w s j (.returned (.int .i64 1)) W):=fun W G F D=>by rw[g];exact⟨rfl,G,F,D,by decide⟩
   have U:(a==0)=false:=by simpa using E
   clear g p
   go_enter Tryz.func175,Tryz.ntmps175
   go_wp2_with fail
   refine I.out.mono ?_
   rintro e w2⟨rfl,d,f,i,_⟩
   obtain⟨T,j5,_,Y⟩:=Q.out w2 _ _ d
   have M:=zh d
   have m:=zh f
   have B:=zh i
   clear d f i
   go_wp2_with fail
   refine(yh _ 1 (by rfl) w2).mono ?_
   rintro e R⟨rfl,rfl⟩
   go_wp2_with fail
   go_ret
   exact o.out _ M.out m.out B.out
  ·rw[if_neg E]at g
   have U:a=0:=by simpa using E
   subst U
   cases n:rr s1 with
   |gas=>rw[n]at g;exact absurd g p
   |stop way s2 =>
    rw[n]at g
    have o:Hid (∀W e l,Kp c nY w W->s1.left<=s.left->EvP c k W s1 (.stop way s2) e l->EvP c k w s j e l):=fun W e l G F D=>by rw[g];exact D.up G F
    have t:Hid (rr s1=.stop way s2):=n
    clear g p n
    go_enter Tryz.func175,Tryz.ntmps175
    go_wp2_with fail
    refine I.out.mono ?_
    rintro e w2⟨rfl,d,f,i,_⟩
    obtain⟨T,j5,_,Y⟩:=Q.out w2 _ _ d
    have u:=zh (V.out w2 s1 d f i (by rw[t.out];simp))
    rw[t.out]at u
    have m:=zh f
    have B:=zh i
    clear d f i
    go_wp2_with fail
    refine u.out.mono ?_
    rintro e R⟨⟨older,rfl⟩,C,A⟩
    have L:=zh C
    have J:=zh A
    clear C A
    go_wp2_with fail
    exact⟨rfl,o.out _ _ _ m.out B.out ⟨⟨older,rfl⟩,L.out,J.out⟩⟩
   |ok b s2 =>
    rw[n]at g
    have o:Hid (∀W l,Kp c nY w W->s1.left<=s.left->GS c l s2 k->Kp c nY W l->s2.left<=s1.left->EvP c k w s j (.returned (.int .i64 (Tp.b01 (b≠0)))) l):=fun W l G F D a4 a5=>by rw[g];exact⟨rfl,D,G.trans a4,Nat.le_trans a5 F,ji _⟩
    have t:Hid (rr s1=.ok b s2):=n
    have HT:Hid (∀q:Bool,q=decide (b≠0)->Tp.b01 (b≠0)=if q then (1:Int) else 0):=fun q h=>by rw[h];exact(yu _).symm
    clear g p n
    generalize Tp.b01 (b≠0)=v at *
    go_enter Tryz.func175,Tryz.ntmps175
    go_wp2_with fail
    refine I.out.mono ?_
    rintro e w2⟨rfl,d,f,i,_⟩
    obtain⟨T,j5,_,Y⟩:=Q.out w2 _ _ d
    have u:=zh (V.out w2 s1 d f i (by rw[t.out];simp))
    rw[t.out]at u
    have m:=zh f
    have B:=zh i
    clear d f i
    go_wp2_with fail
    refine u.out.mono ?_
    rintro e R⟨rfl,C,A,X,_⟩
    have L:=zh C
    have J:=zh A
    have a0:=zh X
    clear C A X
    go_wp2_with fail
    refine(yh _ v (HT.out _ (by first|rfl|exact ne_bool b|(by_cases O:b=0<;>simp[O,E]<;>done)|(by_cases O:b=0<;>simp[O]<;>done))) R).mono ?_
    rintro e w4⟨rfl,rfl⟩
    go_wp2_with fail
    go_ret
    exact o.out _ _ m.out B.out L.out J.out a0.out
end Go.Proofs.YtibncofnnlbmcaaGreatDoor
