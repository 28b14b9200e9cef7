import Derived.Test.YtibncofnnlbmcaaGreatDoorKQb
import Derived.Test.YtibncofnnlbmcaaGreatDoorKMb
import Derived.Test.YtibncofnnlbmcaaGreatDoorKMa
import Derived.Deep.RegionHeld3
set_option maxRecDepth 100000
set_option maxHeartbeats 4000000
namespace Go.Proofs.YtibncofnnlbmcaaGreatDoor
open Go.RowKit Go.Maps
open Tp (Bs X S G Pr Pt Rs Rr Own)
theorem proc1_post (x n:Bs) (v1 v2:Value) (y3 y4 y5:Option Addr) (n3 n4 n5 c3 c4 c5:Nat) (x1:Int) (x2:Bool) (h1:v1=.int .i64 x1) (h2:v2=.bool x2) (W:World) (bp:Nat) (hc:W.cell? ⟨bp,0,none⟩=some (.string (bs n))) :
  Calls Tryz.prog 98 #[.agg #[.string (bs x),v1,v2,.slice y3 n3 c3,.slice y4 n4 c4,.slice y5 n5 c5],.pointer (some ⟨bp,0,none⟩)] W fun e w'=>e=.returned (.bool (decide (x=n)))/\Below W.heap.size W w':=by
 subst h1 h2
 have hlt:=World.block_lt_of_cell? _ _ hc
 by_cases h:x=n
 ·subst h
  go_enter Tryz.func98,Tryz.ntmps98
  go_wp2_with fail
  go_ret
  exact⟨by simp,zb _ _⟩
 ·have hne:¬bs x=bs n:=fun e=>h (bs_inj e)
  go_enter Tryz.func98,Tryz.ntmps98
  go_wp2_with fail
  go_ret
  exact⟨by simp[h,zj],zb _ _⟩
structure PrC (w:World) (l:List Pr) (pa:Option Addr):Prop where
 c:∀ i (hi:i<l.length),∃ pb x1 y3 y4 y5 n3 n4 n5 c3 c4 c5,pa=some ⟨pb,0,none⟩/\pb<w.heap.size/\w.cell? ⟨pb,i * 6,none⟩=some (.string (bs l[i].name))/\w.cell? ⟨pb,i * 6+1,none⟩=some (.int .i64 x1)/\w.cell? ⟨pb,i * 6+2,none⟩=some (.bool l[i].seen)/\w.cell? ⟨pb,i * 6+3,none⟩=some (.slice y3 n3 c3)/\w.cell? ⟨pb,i * 6+4,none⟩=some (.slice y4 n4 c4)/\w.cell? ⟨pb,i * 6+5,none⟩=some (.slice y5 n5 c5)
theorem PrC.on {w w':World}{l:List Pr}{pa:Option Addr}(h:PrC w l pa) (k:Below w.heap.size w w'):PrC w' l pa:=by
 refine⟨fun i hi=>?_⟩
 obtain⟨pb,x1,y3,y4,y5,n3,n4,n5,c3,c4,c5,e,hl,d0,d1,d2,d3,d4,d5⟩:=h.c i hi
 have hk:∀ o u,w.cell? ⟨pb,o,none⟩=some u->w'.cell? ⟨pb,o,none⟩=some u:=fun o u hu=>(k.cell (p:=⟨pb,o,none⟩) hl).trans hu
 exact⟨pb,x1,y3,y4,y5,n3,n4,n5,c3,c4,c5,e,Nat.lt_of_lt_of_le hl k.size,hk _ _ d0,hk _ _ d1,hk _ _ d2,hk _ _ d3,hk _ _ d4,hk _ _ d5⟩
def pidx (l:List Pr) (n:Bs):Int:=match l.findIdx? (fun p=>p.name == n) with
 | some i=>(i:Int)
 | none=>-1
theorem pidx_at {l:List Pr}{n:Bs}{i:Nat}(hi:i<l.length) (h:l[i].name=n) (hb:∀ k (hk:k<i),l[k].name≠n):pidx l n=(i:Int):=by
 unfold pidx
 have:l.findIdx? (fun s=>s.name == n)=some i:=by
  rw[List.findIdx?_eq_some_iff_getElem]
  exact⟨hi,by simpa using h,fun j hj=>by simpa using hb j hj⟩
 rw[this]
theorem pidx_no {l:List Pr}{n:Bs}(hb:∀ k (hk:k<l.length),l[k].name≠n):pidx l n=-1:=by
 unfold pidx
 have:l.findIdx? (fun s=>s.name == n)=none:=by
  rw[List.findIdx?_eq_none_iff]
  intro x hx
  obtain⟨k,hk,rfl⟩:=List.getElem_of_mem hx
  simpa using hb k hk
 rw[this]
theorem pidx_in {m:Tp.M}{n:Bs}:(Tp.procIn m n=none/\pidx m.procs n=-1)\/∃ i,∃ hi:i<m.procs.length,pidx m.procs n=(i:Int)/\Tp.procIn m n=some m.procs[i]:=by
 unfold pidx Tp.procIn
 cases h:m.procs.findIdx? (fun p=>p.name == n) with
 | none =>
  refine Or.inl ⟨?_,rfl⟩
  rw[List.findIdx?_eq_none_iff]at h
  rw[List.find?_eq_none]
  intro x hx
  simpa using h x hx
 | some i =>
  rw[List.findIdx?_eq_some_iff_getElem]at h
  obtain⟨hi,h1,h2⟩:=h
  refine Or.inr ⟨i,hi,rfl,?_⟩
  rw[List.find?_eq_some_iff_getElem]
  exact⟨h1,i,hi,rfl,fun j hj=>by simpa using h2 j hj⟩
theorem jB {w:World}{a:Option Addr}{cp:Nat}{l:List Pr}(h:PrC w l a) (hn:l.length<=1000) (n:Bs) (bp:Nat) (hc:w.cell? ⟨bp,0,none⟩=some (.string (bs n))) :
  Calls Tryz.prog 51 #[.slice a l.length cp,.func (.func 98) #[] #[.pointer (some ⟨bp,0,none⟩)]] w fun e w'=>e=.returned (.int .i64 (pidx l n))/\Below w.heap.size w w':=by
 have hn':(l.length:Int)<=1000:=by omega
 have hltp:=World.block_lt_of_cell? _ _ hc
 have HSL:=zh h
 have HC:=zh hc
 obtain⟨ln,hnl⟩:∃ ln,ln=l.length:=⟨_,rfl⟩
 rw[<-hnl]at hn' ⊢
 have HN:=zh hnl
 clear h hnl hc
 go_enter Tryz.func51,Tryz.ntmps51
 go_wp2_with fail
 go_loopg [8] ln (fun k vi wr=>∃ i:Nat,i<=ln/\k=ln - i/\vi=.int .i64 (i:Int)/\Hid (∀ k (hk:k<l.length),k<i->l[k].name≠n)/\Hid (Below w.heap.size w wr))
 case atStart=>exact⟨0,by omega,by omega,rfl,fun k _ hk=>by omega,Below.refl _ _⟩
 case round =>
  obtain⟨i,hid,hk,rfl,HI,HB⟩:=hrel
  have hszr:=HB.out.size
  by_cases hlt:i<ln
  ·have hlt':(i:Int)<(ln:Int):=by omega
   have hia:i<l.length:=by have:=HN.out;omega
   obtain⟨pb,x1,y3,y4,y5,n3,n4,n5,c3,c4,c5,rfl,hpl,d0,d1,d2,d3,d4,d5⟩:=(HSL.out.on HB.out).c i hia
   have HF:=zh (proc1_post l[i].name n (.int .i64 x1) (.bool l[i].seen) y3 y4 y5 n3 n4 n5 c3 c4 c5 x1 l[i].seen rfl rfl wr bp ((HB.out.cell (p:=⟨bp,0,none⟩) hltp).trans HC.out))
   have HNX:Hid (l[i].name≠n->∀ k (hk:k<l.length),k<i+1->l[k].name≠n):=by
    intro hne k hk hlt
    by_cases e:k=i
    ·subst e;exact hne
    ·exact HI.out k hk (by omega)
   have HAT:Hid (l[i].name=n->pidx l n=(i:Int)):=fun e=>pidx_at hia e (fun k hk=>HI.out k (by omega) hk)
   generalize l[i].name=x at *
   generalize l[i].seen=sn at *
   go_wp2_with fail
   refine HF.out.mono ?_
   rintro e w3 ⟨rfl,hb3⟩
   have HB3:Hid (Below w.heap.size w w3):=HB.out.trans (hb3.mono hszr)
   clear hb3
   by_cases hx:x=n
   ·rw[decide_eq_true hx]
    have HR:=zh (HAT.out hx)
    go_wp2_with fail
    go_ret
    exact⟨by rw[HR.out];rfl,HB3.out⟩
   ·rw[decide_eq_false hx]
    have HI3:=zh (HNX.out hx)
    go_wp2_with fail
    go_roundg (ln - (i+1))
    case measure=>omega
    case rel=>exact⟨i+1,by omega,rfl,by go_num,HI3,HB3⟩
  ·have hlt':¬(i:Int)<(ln:Int):=by omega
   have HR:=zh (pidx_no (l:=l) (n:=n) (fun k hk=>HI.out k hk (by have:=HN.out;omega)))
   go_wp2_with fail
   go_ret
   exact⟨by rw[HR.out];rfl,HB.out⟩
structure PrAt (c:Cx) (p:Pr) (pb o:Nat):Prop where
 d:c.D pb
 nm:c.w0.cell? ⟨pb,o,none⟩=some (.string (bs p.name))
 sn:c.w0.cell? ⟨pb,o+2,none⟩=some (.bool p.seen)
 r:∃ pv vv bv bcs,c.w0.cell? ⟨pb,o+3,none⟩=some pv/\c.w0.cell? ⟨pb,o+4,none⟩=some vv/\c.w0.cell? ⟨pb,o+5,none⟩=some bv/\Row c.w0 c.D 9 1 pv p.params.length (strs p.params)/\Row c.w0 c.D 9 1 vv p.vars.length (strs p.vars)/\RepS c.w0 c.D p.body bcs/\OwnS c.w0 c.D bv p.body.length bcs
theorem MD.procs {w0:World}{D:Nat->Prop}{m:Tp.M}{ia ga pa ba:Option Addr}{ic gc pc bc:Nat}(h:MD w0 D m ia ga pa ba ic gc pc bc) (i:Nat) (hi:i<m.procs.length):∃ pb pv vv bv bcs,pa=some ⟨pb,0,none⟩/\D pb/\pb<w0.heap.size/\(∀ j,j<6->w0.cell? ⟨pb,i * 6+j,none⟩=(pcells (bs m.procs[i].name) (m.procs[i].pos:Int) m.procs[i].seen pv vv bv).toList[j]?)/\Row w0 D 9 1 pv m.procs[i].params.length (strs m.procs[i].params)/\Row w0 D 9 1 vv m.procs[i].vars.length (strs m.procs[i].vars)/\RepS w0 D m.procs[i].body bcs/\OwnS w0 D bv m.procs[i].body.length bcs:=by
 obtain⟨pcs,p1,p2⟩:=h.pr
 obtain⟨g,cap,q1,q2,q3,q4⟩:=yt p2 (by omega)
 cases q1
 obtain⟨pv,vv,bv,bcs,r1,r2⟩:=jk m.procs pcs p1 i hi
 exact⟨g,pv,vv,bv,bcs,rfl,q2,q3,fun j hj=>(q4 (i * 6+j) (by omega)).trans (r1 j hj),r2⟩
theorem GS.cell0 {c:Cx}{w:World}{s:Rs}{k:Nat}(h:GS c w s k) {b o:Nat}(hd:c.D b) {v:Value}(hv:c.w0.cell? ⟨b,o,none⟩=some v):w.cell? ⟨b,o,none⟩=some v:=by
 rw[World.cell?_of_block (w:=c.w0) (h.st b hd)];exact hv
theorem GS.prc {c:Cx}{w:World}{s:Rs}{k:Nat}(h:GS c w s k) {m:Tp.M}{ia ga pa ba:Option Addr}{ic gc pc bc:Nat}(hm:MD c.w0 c.D m ia ga pa ba ic gc pc bc):PrC w m.procs pa:=by
 refine⟨fun i hi=>?_⟩
 obtain⟨pb,pv,vv,bv,bcs,e,hd,hl,hc,r2,r3,r4,r5⟩:=hm.procs i hi
 obtain⟨y3,c3,rfl⟩:=r2.shape
 obtain⟨y4,c4,rfl⟩:=r3.shape
 obtain⟨y5,c5,rfl⟩:=r5.shape
 have hk:∀ o u,c.w0.cell? ⟨pb,o,none⟩=some u->w.cell? ⟨pb,o,none⟩=some u:=fun o u hu=>h.cell0 hd hu
 have hlw:=zg (hk _ _ (hc 0 (by omega)))
 exact⟨pb,_,y3,y4,y5,_,_,_,c3,c4,c5,e,hlw,hk _ _ (hc 0 (by omega)),hk _ _ (hc 1 (by omega)),hk _ _ (hc 2 (by omega)),hk _ _ (hc 3 (by omega)),hk _ _ (hc 4 (by omega)),hk _ _ (hc 5 (by omega))⟩
def ProcP (c:Cx) (m:Tp.M) (nm:Bs) (v:Option Addr):Prop:=match Tp.procIn m nm with
 | none=>v=none
 | some p=>∃ pb o,v=some ⟨pb,o,none⟩/\PrAt c p pb o
theorem rproc {c:Cx}{w:World}{s:Rs}{k:Nat}(h:GS c w s k) (ok:CxOk c) {lo:Lo}(hl:lo∈c.L) (nm:Bs) :
  Calls Tryz.prog 54 #[.pointer (some ⟨lo.lb,0,none⟩),.string (bs nm)] w fun e w'=>∃ v,e=.returned (.pointer v)/\ProcP c lo.m nm v/\Below w.heap.size w w':=by
 obtain⟨ia,ga,pa,ba,ic,gc,pc,bc,b1,hmd⟩:=h.loB ok hl
 have hlbl:=zf b1
 have hpn:lo.m.procs.length<=1000:=by have:=(ok.lo lo hl).fit.wm.pc;omega
 have hpn':(lo.m.procs.length:Int)<=1000:=by omega
 have ha:Below w.heap.size w (w.alloc (.cells #[.string (bs nm)] 9)):=zb _ _
 have hbb:=(ha.block _ hlbl).trans b1
 have k3:(w.alloc (.cells #[.string (bs nm)] 9)).cell? ⟨lo.lb,3,none⟩=some (.slice pa lo.m.procs.length pc):=(za hbb).trans rfl
 have HPC:Hid (PrC (w.alloc (.cells #[.string (bs nm)] 9)) lo.m.procs pa):=(h.prc hmd).on ha
 have HIX:=zh (jB (cp:=pc) HPC.out hpn nm w.heap.size ((za (zo _ _)).trans rfl))
 have HA:=zh ha
 have hal:lo.lb<(w.alloc (.cells #[.string (bs nm)] 9)).heap.size:=zf hbb
 have hmf:=zm
 have HMD:=zh hmd
 have HB1:=zh hbb
 clear h ok hl b1 hmd hbb ha
 rcases pidx_in (m:=lo.m) (n:=nm) with⟨q1,q2⟩|⟨i,hi,q1,q2⟩
 ·rw[q2]at HIX
  have HQ:Hid (∀ v,v=none->ProcP c lo.m nm v):=fun v hv=>by unfold ProcP;rw[q1];exact hv
  clear q1 q2
  generalize lo.m.procs.length=ln at *
  go_enter Tryz.func54,Tryz.ntmps54
  go_wp2_with fail
  refine HIX.out.mono ?_
  rintro e w2 ⟨rfl,hb2⟩
  have HB2:Hid (Below w.heap.size w w2):=HA.out.trans (hb2.mono HA.out.size)
  clear hb2
  go_wp2_with fail
  go_ret
  exact⟨_,rfl,HQ.out _ rfl,HB2.out⟩
 ·rw[q1]at HIX
  obtain⟨pb,pv,vv,bv,bcs,e,hd,hpl,hc,r2,r3,r4,r5⟩:=HMD.out.procs i hi
  subst e
  have HQ:Hid (ProcP c lo.m nm (some ⟨pb,i * 6,none⟩)):=by
   show ProcP _ _ _ _
   unfold ProcP
   rw[q2]
   exact⟨pb,i * 6,rfl,⟨hd,hc 0 (by omega),hc 2 (by omega),pv,vv,bv,bcs,hc 3 (by omega),hc 4 (by omega),hc 5 (by omega),r2,r3,r4,r5⟩⟩
  have hi':(i:Int)<(lo.m.procs.length:Int):=by omega
  have hi0:¬(i:Int)<0:=by omega
  clear q1 q2 hd hpl hc r2 r3 r4 r5 hi
  generalize lo.m.procs.length=ln at *
  go_enter Tryz.func54,Tryz.ntmps54
  go_wp2_with fail
  refine HIX.out.mono ?_
  rintro e w2 ⟨rfl,hb2⟩
  have HB2:Hid (Below w.heap.size w w2):=HA.out.trans (hb2.mono HA.out.size)
  have k3':w2.cell? ⟨lo.lb,3,none⟩=some (.slice (some ⟨pb,0,none⟩) ln pc):=(hb2.cell (p:=⟨lo.lb,3,none⟩) hal).trans k3
  have hal2:lo.lb<w2.heap.size:=Nat.lt_of_lt_of_le hal hb2.size
  clear hb2
  go_wp2_with fail
  go_ret
  exact⟨_,rfl,HQ.out,HB2.out⟩
theorem GS.drew {c:Cx}{w:World}{s:Rs}{k:Nat}(h:GS c w s k) (ok:CxOk c):GS c w.drew s k:=h.below ok (Below.refl _ _).drew
theorem Kp.drew (c:Cx) (Y:Nat->Prop) {w:World}(hg:c.gb<w.heap.size):Kp c Y w w.drew:=Kp.below (Below.refl _ _).drew hg
theorem Sc.below {c:Cx}{w w':World}{sb:Nat}{ob:Option Nat}{lo:Lo}{own:Own}{names:List Bs}{left:Nat}(h:Sc c w sb ob lo own names left) (ok:CxOk c) (k:Below w.heap.size w w') (hg:c.gb<w.heap.size):Sc c w' sb ob lo own names left:=h.kp (Kp.below k hg) ok.Vlt zn
theorem Sc.drew {c:Cx}{w:World}{sb:Nat}{ob:Option Nat}{lo:Lo}{own:Own}{names:List Bs}{left:Nat}(h:Sc c w sb ob lo own names left) (ok:CxOk c) (hg:c.gb<w.heap.size):Sc c w.drew sb ob lo own names left:=h.below ok (Below.refl _ _).drew hg
theorem Ex.blk {c:Cx}{lo:Lo}{names:List Bs}{code pos n:Nat}{md nm op:Bs}{le ri ar:List X}{x:Nat}(h:Ex c lo names [⟨code,pos,n,md,nm,op,le,ri,ar⟩] x):∃(av:Value) (ls rs gs:List Value),c.D x/\c.w0.heap[x]?=some (.cells #[.int .i64 (code:Int),.int .i64 (pos:Int),.int .i64 (n:Int),.string (bs md),.string (bs nm),.string (bs op),ls.headD (.pointer none),rs.headD (.pointer none),av] 216 (0,0))/\RepL c.w0 c.D le ls/\ls.length<=1/\RepL c.w0 c.D ri rs/\rs.length<=1/\RepL c.w0 c.D ar gs/\(gs=[]/\av=.slice none 0 0\/∃ g cap cur,av=.slice (some ⟨g,0,none⟩) gs.length cap/\c.D g/\c.w0.heap[g]?=some (.cells cur 179 (0,0))/\gs.length<=cap/\cap<=maxLen/\cur.size=cap/\cur.toList.take gs.length=gs):=h.rep.one
theorem RepL.part {w:World}{D:Nat->Prop}{l:List X}{ls:List Value}(h:RepL w D l ls) (hl:l.length=1):∃ y,ls=[.pointer (some ⟨y,0,none⟩)]/\D y:=by
 obtain⟨x,rfl⟩:=Tp.len1 hl
 obtain⟨code,pos,n,md,nm,op,le,ri,ar⟩:=x
 have h2:=h
 rw[RepL]at h2
 obtain⟨b,av,l1,rs,gs,vs',h1,hd,_,_,_,_,_,_,_,h10⟩:=h2
 rw[RepL]at h10
 subst h10
 exact⟨b,h1,hd⟩
theorem Ex.left {c:Cx}{lo:Lo}{names:List Bs}{code pos n:Nat}{md nm op:Bs}{le ri ar:List X}{x y:Nat}(h:Ex c lo names [⟨code,pos,n,md,nm,op,le,ri,ar⟩] x) (hr:RepL c.w0 c.D le [.pointer (some ⟨y,0,none⟩)]) (hw:Tp.WX le):Ex c lo names le y :=
 ⟨hr,hw,fun r hm=>h.fit r (by rw[Tp.rx];simp[hm])⟩
theorem Ex.right {c:Cx}{lo:Lo}{names:List Bs}{code pos n:Nat}{md nm op:Bs}{le ri ar:List X}{x y:Nat}(h:Ex c lo names [⟨code,pos,n,md,nm,op,le,ri,ar⟩] x) (hr:RepL c.w0 c.D ri [.pointer (some ⟨y,0,none⟩)]) (hw:Tp.WX ri):Ex c lo names ri y :=
 ⟨hr,hw,fun r hm=>h.fit r (by rw[Tp.rx];simp[hm])⟩
theorem Rr.bind_gas {α β:Type}{f:Tp.Ru α}{g:α->Tp.Ru β}{s:Rs}(h:(f.bind g) s≠.gas):f s≠.gas:=fun e=>h (by unfold Tp.Ru.bind;rw[e])
theorem value_num {c:Cx}{g:Nat}{k:Nat}{lo:Lo}{own:Own}{names:List Bs}{x:Nat}{w:World}{s:Rs}{sb pos n:Nat}{md nm op:Bs}{le ri ar:List X}(hx:Ex c lo names [⟨1,pos,n,md,nm,op,le,ri,ar⟩] x) (h:GS c w s k) :
  Calls Tryz.prog 150 #[.pointer (some ⟨sb,0,none⟩),.pointer (some ⟨x,0,none⟩)] w (EvP c k w s (Tp.evX (g+1) k lo.m.name own [⟨1,pos,n,md,nm,op,le,ri,ar⟩] s)):=by
 obtain⟨av,ls,rs,gs,hD,hb,_⟩:=hx.blk
 have hb1:=(h.st x hD).trans hb
 have hxl:=zf hb1
 have k0:w.cell? ⟨x,0,none⟩=some (.int .i64 1):=(za hb1).trans rfl
 have k2:w.cell? ⟨x,2,none⟩=some (.int .i64 (n:Int)):=(za hb1).trans rfl
 have hres:Tp.evX (g+1) k lo.m.name own [⟨1,pos,n,md,nm,op,le,ri,ar⟩] s=.ok (n:Int) s:=by rw[Tp.evX];rfl
 have hw:=hx.wx
 rw[Tp.WX]at hw
 have hi:Tp.I64 (n:Int):=by
  rcases hw.1 with q|q|q|q|q|q
  ·have:=q.2.1;unfold Tp.top at this;unfold Tp.I64;omega
  all_goals exact absurd q.1 (by decide)
 rw[hres]
 have HR:Hid (EvP c k w s (.ok (n:Int) s) (.returned (.int .i64 (n:Int))) w):=⟨rfl,h,Kp.refl _ _ _,Nat.le_refl _,hi⟩
 clear hres hw hi hb hb1 h hx
 go_enter Tryz.func150,Tryz.ntmps150
 go_wp2_with fail
 go_ret
 exact HR.out
def unV (op:Bs) (v:Int):Int:=if op=Tp.mMinus then Tp.w64 (0 - v) else Tp.b01 (v=0)
theorem unV_in (op:Bs) (v:Int):Tp.I64 (unV op v):=by
 unfold unV
 split
 ·exact Tp.w64_in _
 ·unfold Tp.b01 Tp.I64;split <;> omega
theorem rsingle {op:Bs}(ho:op=Tp.mMinus\/op=Tp.wNot) (n:Int) (w:World):Calls Tryz.prog 174 #[.string (bs op),.int .i64 n] w fun e w'=>e=.returned (.int .i64 (unV op n))/\w'=w:=by
 unfold unV
 rcases ho with rfl|rfl
 ·rw[if_pos rfl];exact xC n w
 ·rw[if_neg (by decide)];exact uy n w
theorem value_un {c:Cx}{g:Nat}(ok:CxOk c) (hE:EvC c g) {k:Nat}{lo:Lo}{own:Own}{names:List Bs}{x:Nat}{w:World}{s:Rs}{sb pos n:Nat}{ob:Option Nat}{md nm op:Bs}{le ri ar:List X}(hx:Ex c lo names [⟨4,pos,n,md,nm,op,le,ri,ar⟩] x) (h:GS c w s k) (hs:Sc c w sb ob lo own names s.left) (hn:Tp.evX (g+1) k lo.m.name own [⟨4,pos,n,md,nm,op,le,ri,ar⟩] s≠.gas) :
  Calls Tryz.prog 150 #[.pointer (some ⟨sb,0,none⟩),.pointer (some ⟨x,0,none⟩)] w (EvP c k w s (Tp.evX (g+1) k lo.m.name own [⟨4,pos,n,md,nm,op,le,ri,ar⟩] s)):=by
 have hw:=hx.wx
 rw[Tp.WX]at hw
 obtain⟨hop,hwl,hl1⟩:(op=Tp.mMinus\/op=Tp.wNot)/\Tp.WX le/\le.length=1:=by
  rcases hw.1 with q|q|q|q|q|q
  ·exact absurd q.1 (by decide)
  ·exact absurd q.1 (by decide)
  ·exact absurd q.1 (by decide)
  ·exact⟨q.2.2.2.2.1,q.2.2.2.2.2.1,q.2.2.2.2.2.2.1⟩
  ·exact absurd q.1 (by decide)
  ·exact absurd q.1 (by decide)
 have hres:Tp.evX (g+1) k lo.m.name own [⟨4,pos,n,md,nm,op,le,ri,ar⟩] s=((Tp.evX g k lo.m.name own le).bind fun v=>Tp.Ru.pure (unV op v)) s:=by rw[Tp.evX];rfl
 rw[hres]at hn ⊢
 obtain⟨av,ls,rs,gs,hD,hb,rl,_⟩:=hx.blk
 obtain⟨y,rfl,_⟩:=rl.part hl1
 have hex:=hx.left rl hwl
 have hb1:=(h.st x hD).trans hb
 have hxl:=zf hb1
 have hgl:=h.lt
 have k0:w.cell? ⟨x,0,none⟩=some (.int .i64 4):=(za hb1).trans rfl
 have HS0:Hid (w.drew.cell? ⟨x,5,none⟩=some (.string (bs op))/\w.drew.cell? ⟨x,6,none⟩=some (.pointer (some ⟨y,0,none⟩))):=⟨(za hb1).trans rfl,(za hb1).trans rfl⟩
 have HSW:Hid (∀ W s' k',GS c W s' k'->W.cell? ⟨x,5,none⟩=some (.string (bs op))/\W.cell? ⟨x,6,none⟩=some (.pointer (some ⟨y,0,none⟩))):=fun W s' k' hW=>⟨(za ((hW.st x hD).trans hb)).trans rfl,(za ((hW.st x hD).trans hb)).trans rfl⟩
 have HC:=zh (hE k lo own names le y w.drew s sb ob hex (h.drew ok) (hs.drew ok hgl) (Rr.bind_gas hn))
 have HK0:=zh (Kp.drew c nY hgl)
 have HSG:=zh (fun n W=>rsingle hop n W)
 unfold Tp.Ru.bind at hn ⊢
 clear hres hb hb1 h hs hx hex rl hw hwl hl1 hE hop
 generalize hr:Tp.evX g k lo.m.name own le s=r at *
 clear hr
 cases r with
 | gas=>exact absurd rfl hn
 | ok v s' =>
  simp only
  have HR:Hid (∀ W,GS c W s' k/\Kp c nY w.drew W/\s'.left<=s.left->EvP c k w s (Tp.Ru.pure (unV op v) s') (.returned (.int .i64 (unV op v))) W):=fun W hW=>⟨rfl,hW.1,HK0.out.trans hW.2.1,hW.2.2,unV_in _ _⟩
  go_enter Tryz.func150,Tryz.ntmps150
  go_wp2_with fail
  go_region_held3 (fun w'=>w'.cell? ⟨x,5,none⟩=some (.string (bs op))/\w'.cell? ⟨x,6,none⟩=some (.pointer (some ⟨y,0,none⟩))) (with_reducible (first|exact HS3.out|exact HS2.out|exact HS0.out)) (first|(go_at_call 150;refine HC.out.mono ?_;rintro e w2 ⟨rfl,hg2,hk2,hl2,_⟩;have HG2:=zh hg2;have HK2:=zh hk2;have HL2:=zh hl2;have HS2:=zh (HSW.out _ _ _ hg2);clear hg2 hk2 hl2)|(go_at_call 174;refine(HSG.out v _).mono ?_;rintro e w3 ⟨rfl,rfl⟩;have HS3:=HS2))
  go_wp2_with fail
  go_ret
  exact HR.out _ ⟨HG2.out,HK2.out,HL2.out⟩
 | stop way s' =>
  simp only
  have HR:Hid (∀ e W,thrE endT (way:Int) e/\(∃ k',GS c W s' k')/\Kp c nY w.drew W->EvP c k w s (.stop way s') e W):=fun e W hW=>⟨hW.1,hW.2.1,HK0.out.trans hW.2.2⟩
  go_enter Tryz.func150,Tryz.ntmps150
  go_wp2_with fail
  go_region_held (fun w'=>w'.cell? ⟨x,5,none⟩=some (.string (bs op))/\w'.cell? ⟨x,6,none⟩=some (.pointer (some ⟨y,0,none⟩))) (with_reducible (first|exact hF.out.elim|exact HS0.out)) (first|(go_at_call 150;refine yo HC.out ?hT ?_;(case hT=>(rintro e w3 ⟨⟨older,rfl⟩,hg3,hk3⟩;exact⟨rfl,HR.out _ _ ⟨⟨older,rfl⟩,hg3,hk3⟩⟩));intro hF)|(go_at_call 174;refine yo (T:=fun _ _=>False) hF.out.elim ?hT2 ?_;(case hT2=>(intro e w h;exact h.elim));intro hF2))
  exact hF.out.elim
theorem atM_of {c:Cx}{lo:Lo}(_:CxOk c) (hl:lo∈c.L) {md:Bs}{m':Tp.M}(h:Tp.atM c.ms lo.m md m'):∃ lo',lo'∈c.L/\lo'.m=m'/\ofLo c lo md lo'/\lo'.m.name=(if md=[] then lo.m.name else md):=by
 unfold Tp.atM at h
 by_cases hm:md=[]
 ·rw[if_pos hm]at h
  exact⟨lo,hl,h.symm,by unfold ofLo;rw[if_pos hm],by rw[if_pos hm]⟩
 ·rw[if_neg hm]at h
  rw[c.partM]at h
  cases hc:c.lo md with
  | none=>rw[hc]at h;cases h
  | some lo' =>
   rw[hc]at h
   simp only [Option.map_some,Option.some.injEq]at h
   have:=CxOk.lo_mem hc
   exact⟨lo',this.1,h,by unfold ofLo;rw[if_neg hm];exact hc,by rw[if_neg hm];exact this.2⟩
theorem evX_var (g k:Nat) (m:Bs) (own:Own) (pos n:Nat) (md nm op:Bs) (le ri ar:List X):Tp.evX (g+1) k m own [⟨2,pos,n,md,nm,op,le,ri,ar⟩]=if md=[] then (match own nm with
    | some v=>Tp.Ru.pure v
    | none=>(Tp.getV m nm).bind fun l=>Tp.Ru.pure (l.headD 0))
   else (Tp.getV md nm).bind fun l=>Tp.Ru.pure (l.headD 0):=by rw[Tp.evX];rfl
theorem GS.val {c:Cx}{w:World}{s:Rs}{k:Nat}(h:GS c w s k) (ok:CxOk c) {lo:Lo}(hl:lo∈c.L) {nm:Bs}{g:G}(hg:Tp.varOf lo.m nm=some g):∃ p,Tp.partOf s.w lo.m.name=some p/\(p.vars nm).length=vlen g/\(∀ i,w.cell? ⟨lo.sl nm,i,none⟩=((p.vars nm)[i]?).map fun v=>.int .i64 v)/\(∀ v∈p.vars nm,Tp.I64 v)/\vlen g<=1000/\g∈lo.m.vars/\g.name=nm:=by
 obtain⟨p,p1,p2,p3⟩:=h.vals lo hl
 have hgm:g∈lo.m.vars:=List.mem_of_find?_eq_some hg
 have hgn:g.name=nm:=by simpa using List.find?_some hg
 obtain⟨a1,a2,a3⟩:=p3 g hgm
 rw[hgn]at a1 a2 a3
 refine⟨p,p1,a1,fun i=>?_,a3,?_,hgm,hgn⟩
 ·rw[za a2]
  simp[ints]
 ·have:=((ok.lo lo hl).fit.wm.g g hgm).l
  unfold vlen
  split <;> omega
theorem uR {s:Rs}{md nm:Bs}{p:Pt}(h:Tp.partOf s.w md=some p):Tp.getV md nm s=.ok (p.vars nm) s:=by unfold Tp.getV;rw[h];rfl
theorem head_at {l:List Int}{n:Nat}(h:l.length=n) (hn:0<n):l[0]?=some (l.headD 0):=by
 cases l with
 | nil=>simp at h;omega
 | cons a t=>rfl
theorem vlen_pos (g:G):0<vlen g:=by unfold vlen;split <;> omega
theorem wx_okr {code pos n:Nat}{md nm op:Bs}{le ri ar:List X}(h:Tp.WX [⟨code,pos,n,md,nm,op,le,ri,ar⟩]) (hc:code=2\/code=3\/code=6):md.length<=1000000/\nm.length<=1000000:=by
 rw[Tp.WX]at h
 have key:Tp.okr md nm:=by
  rcases h.1 with q|q|q|q|q|q
  ·omega
  ·exact q.2.2.1
  ·exact q.2.2.1
  ·omega
  ·omega
  ·exact q.2.2.1
 refine⟨?_,zQ key.2⟩
 rcases key.1 with q|q
 ·rw[q];simp
 ·exact zQ q
theorem jf {c:Cx}{w:World}{s:Rs}{k:Nat}(_:GS c w s k) {lo lo':Lo}{md:Bs}(e:lo'.m.name=(if md=[] then lo.m.name else md)) {p:Pt}(hp:Tp.partOf s.w lo'.m.name=some p):Tp.partOf s.w (if md=[] then lo.m.name else md)=some p:=by rw[<-e];exact hp
theorem value_var {c:Cx}{g:Nat}(ok:CxOk c) {k:Nat}{lo:Lo}{own:Own}{names:List Bs}{x:Nat}{w:World}{s:Rs}{sb pos n:Nat}{ob:Option Nat}{md nm op:Bs}{le ri ar:List X}(hx:Ex c lo names [⟨2,pos,n,md,nm,op,le,ri,ar⟩] x) (h:GS c w s k) (hs:Sc c w sb ob lo own names s.left) :
  Calls Tryz.prog 150 #[.pointer (some ⟨sb,0,none⟩),.pointer (some ⟨x,0,none⟩)] w (EvP c k w s (Tp.evX (g+1) k lo.m.name own [⟨2,pos,n,md,nm,op,le,ri,ar⟩] s)):=by
 obtain⟨av,ls,rs,gs,hD,hb,_⟩:=hx.blk
 have hb1:=(h.st x hD).trans hb
 have hxl:=zf hb1
 have hgl:=h.lt
 have k0:w.cell? ⟨x,0,none⟩=some (.int .i64 2):=(za hb1).trans rfl
 have k3:w.cell? ⟨x,3,none⟩=some (.string (bs md)):=(za hb1).trans rfl
 have k4:w.cell? ⟨x,4,none⟩=some (.string (bs nm)):=(za hb1).trans rfl
 obtain⟨hml,hnl⟩:=wx_okr hx.wx (by omega)
 have hf:=hx.fit ⟨2,pos,md,nm,ar.length⟩ (by rw[Tp.rx];simp)
 obtain⟨v,hv,HC⟩:∃ v,(Tp.evX (g+1) k lo.m.name own [⟨2,pos,n,md,nm,op,le,ri,ar⟩] s=.ok v s/\Tp.I64 v)/\Hid (Calls Tryz.prog 172 #[.pointer (some ⟨sb,0,none⟩),.pointer (some ⟨x,0,none⟩)] w fun e w'=>e=.returned (.int .i64 v)/\Below w.heap.size w w'):=by
  rcases hf.v2 rfl with⟨q1,q2⟩|⟨q1,m',g',q2,q3,q4⟩
  ·simp only at q1 q2
   subst q1
   have hso:=(hs.dom nm).2 q2
   obtain⟨v,hv⟩:=Option.isSome_iff_exists.1 hso
   refine⟨v,⟨?_,hs.i64 _ _ hv⟩,xA hs hnl hv hxl k3 k4⟩
   rw[evX_var,if_pos rfl,hv]
   rfl
  ·simp only at q1 q2 q3
   obtain⟨lo',hl',hm',hof,hnm'⟩:=atM_of ok hs.mem q2
   rw[<-hm']at q3
   obtain⟨p,p1,p2,p3,p4,p5,_,_⟩:=h.val ok hl' q3
   have h0:=head_at p2 (vlen_pos g')
   have hc0:w.cell? ⟨lo'.sl nm,0,none⟩=some (.int .i64 ((p.vars nm).headD 0)):=by rw[p3 0,h0];rfl
   have hown:md=[]->own nm=none:=fun e=>by
    cases ho:own nm with
    | none=>rfl
    | some u=>exact absurd ((hs.dom nm).1 (by rw[ho];rfl)) (q1 e)
   refine⟨(p.vars nm).headD 0,⟨?_,p4 _ (List.mem_of_getElem? h0)⟩,xB h ok hs hnl hml hown hof hl' q3 hc0 hxl k3 k4⟩
   rw[evX_var]
   have hp:=jf h hnm' p1
   by_cases hm:md=[]
   ·rw[if_pos hm]at hp ⊢
    rw[hown hm]
    unfold Tp.Ru.bind
    simp only [uR hp]
    rfl
   ·rw[if_neg hm]at hp ⊢
    unfold Tp.Ru.bind
    simp only [uR hp]
    rfl
 rw[hv.1]
 have HR:Hid (∀ W,Below w.heap.size w W->EvP c k w s (.ok v s) (.returned (.int .i64 v)) W):=fun W hW=>⟨rfl,h.below ok hW,Kp.below hW hgl,Nat.le_refl _,hv.2⟩
 clear hv hb hb1 h hx hs hf k3 k4
 go_enter Tryz.func150,Tryz.ntmps150
 go_wp2_with fail
 refine HC.out.mono ?_
 rintro e w2 ⟨rfl,hb2⟩
 have HB2:=zh hb2
 clear hb2
 go_wp2_with fail
 go_ret
 exact HR.out _ HB2.out
def itemR (l:List Int) (i:Int) (s:Rs):Rr Int:=if 0<=i/\i<l.length then .ok (l.getD i.toNat 0) s else .stop Tp.bounds s
theorem value_item {c:Cx}{g:Nat}(ok:CxOk c) (hE:EvC c g) {k:Nat}{lo:Lo}{own:Own}{names:List Bs}{x:Nat}{w:World}{s:Rs}{sb pos n:Nat}{ob:Option Nat}{md nm op:Bs}{le ri ar:List X}(hx:Ex c lo names [⟨3,pos,n,md,nm,op,le,ri,ar⟩] x) (h:GS c w s k) (hs:Sc c w sb ob lo own names s.left) (hn:Tp.evX (g+1) k lo.m.name own [⟨3,pos,n,md,nm,op,le,ri,ar⟩] s≠.gas) :
  Calls Tryz.prog 150 #[.pointer (some ⟨sb,0,none⟩),.pointer (some ⟨x,0,none⟩)] w (EvP c k w s (Tp.evX (g+1) k lo.m.name own [⟨3,pos,n,md,nm,op,le,ri,ar⟩] s)):=by
 have hw:=hx.wx
 rw[Tp.WX]at hw
 obtain⟨hwl,hl1⟩:Tp.WX le/\le.length=1:=by
  rcases hw.1 with q|q|q|q|q|q
  ·exact absurd q.1 (by decide)
  ·exact absurd q.1 (by decide)
  ·exact⟨q.2.2.2.2.1,q.2.2.2.2.2.1⟩
  ·exact absurd q.1 (by decide)
  ·exact absurd q.1 (by decide)
  ·exact absurd q.1 (by decide)
 have hres:Tp.evX (g+1) k lo.m.name own [⟨3,pos,n,md,nm,op,le,ri,ar⟩] s=((Tp.evX g k lo.m.name own le).bind fun i=>(Tp.getV (if md=[] then lo.m.name else md) nm).bind fun l=>(if 0<=i/\i<l.length then Tp.Ru.pure (l.getD i.toNat 0) else Tp.Ru.stop Tp.bounds)) s:=by rw[Tp.evX];rfl
 obtain⟨res,hrs⟩:∃ res,res=Tp.evX (g+1) k lo.m.name own [⟨3,pos,n,md,nm,op,le,ri,ar⟩] s:=⟨_,rfl⟩
 rw[<-hrs]
 rw[hres]at hn hrs
 obtain⟨av,ls,rs,gs,hD,hb,rl,_⟩:=hx.blk
 obtain⟨y,rfl,_⟩:=rl.part hl1
 have hex:=hx.left rl hwl
 have hb1:=(h.st x hD).trans hb
 have hxl:=zf hb1
 have hgl:=h.lt
 have k0:w.cell? ⟨x,0,none⟩=some (.int .i64 3):=(za hb1).trans rfl
 have k6:w.cell? ⟨x,6,none⟩=some (.pointer (some ⟨y,0,none⟩)):=(za hb1).trans rfl
 have HC:=zh (hE k lo own names le y w s sb ob hex h hs (Rr.bind_gas hn))
 obtain⟨hml,hnl⟩:=wx_okr hx.wx (by omega)
 have hf:=hx.fit ⟨3,pos,md,nm,ar.length⟩ (by rw[Tp.rx];simp)
 obtain⟨_,m',g',q2,q3,q4⟩:=hf.v3 rfl
 simp only at q2 q3
 obtain⟨lo',hl',hm',hof,hnm'⟩:=atM_of ok hs.mem q2
 rw[<-hm']at q3
 have HI:Hid (∀ W s' (i:Int),GS c W s' k->Kp c nY w W->s'.left<=s.left->∃ p,Tp.partOf s'.w (if md=[] then lo.m.name else md)=some p/\(∀(hi:0<=i/\i<(p.vars nm).length),Tp.I64 ((p.vars nm).getD i.toNat 0)/\Calls Tryz.prog 173 #[.pointer (some ⟨sb,0,none⟩),.pointer (some ⟨x,0,none⟩),.int .i64 i] W fun e w'=>e=.returned (.int .i64 ((p.vars nm).getD i.toNat 0))/\Below W.heap.size W w')/\(¬(0<=i/\i<(p.vars nm).length)->Calls Tryz.prog 173 #[.pointer (some ⟨sb,0,none⟩),.pointer (some ⟨x,0,none⟩),.int .i64 i] W fun e w'=>thrE endT (Tp.bounds:Int) e/\Below W.heap.size W w')):=by
  intro W s' i hW hK hL
  obtain⟨p,p1,p2,p3,p4,p5,_,_⟩:=hW.val ok hl' q3
  have hbW:=(hW.st x hD).trans hb
  have hxW:=zf hbW
  have j3:W.cell? ⟨x,3,none⟩=some (.string (bs md)):=(za hbW).trans rfl
  have j4:W.cell? ⟨x,4,none⟩=some (.string (bs nm)):=(za hbW).trans rfl
  have hsW:=hs.kp hK ok.Vlt hL
  refine⟨p,jf hW hnm' p1,fun hi=>?_,fun hi=>?_⟩
  ·obtain⟨j,rfl⟩:∃ j:Nat,i=(j:Int):=⟨i.toNat,by omega⟩
   have hj:j<(p.vars nm).length:=by omega
   have e:(p.vars nm).getD (j:Int).toNat 0=(p.vars nm)[j]:=by simp[hj]
   rw[e]
   exact⟨p4 _ (List.getElem_mem hj),ritem_ok hW ok hsW hnl hml hof hl' q3 (by omega) p5 (by rw[p3 j,List.getElem?_eq_getElem hj];rfl) hxW j3 j4⟩
  ·exact ritem_out hW ok hsW hnl hml hof hl' q3 (by omega) p5 hxW j3 j4
 have HG:Hid (∀ W W' s',GS c W s' k->Below W.heap.size W W'->GS c W' s' k):=fun W W' s' q hb=>q.below ok hb
 unfold Tp.Ru.bind at hn hrs
 clear hres hb hb1 h hs hx hex rl hw hwl hl1 hE hf q2 q3 hof hnm' hm' hl'
 generalize hr:Tp.evX g k lo.m.name own le s=r at *
 clear hr
 cases r with
 | gas=>exact absurd rfl hn
 | stop way s' =>
  have HR:Hid (∀ e W,thrE endT (way:Int) e/\(∃ k',GS c W s' k')/\Kp c nY w W->EvP c k w s res e W):=fun e W hW=>by rw[hrs];exact⟨hW.1,hW.2.1,hW.2.2⟩
  clear hrs hn
  go_enter Tryz.func150,Tryz.ntmps150
  go_wp2_with fail
  refine HC.out.mono ?_
  rintro e w2 ⟨⟨older,rfl⟩,hg2,hk2⟩
  have HG2:=zh hg2
  have HK2:=zh hk2
  clear hg2 hk2
  go_wp2_with fail
  exact⟨rfl,HR.out _ _ ⟨⟨older,rfl⟩,HG2.out,HK2.out⟩⟩
 | ok i s' =>
  have HRS:Hid (res=_):=hrs
  clear hn hrs
  go_enter Tryz.func150,Tryz.ntmps150
  go_wp2_with fail
  refine HC.out.mono ?_
  rintro e w2 ⟨rfl,hg2,hk2,hl2,hi2⟩
  obtain⟨p,p1,hin,hout⟩:=HI.out w2 s' i hg2 hk2 hl2
  have HG2:=zh hg2
  have HK2:=zh hk2
  have HL2:=zh hl2
  have hrs2:res=itemR (p.vars nm) i s':=by
   rw[HRS.out]
   simp only [uR p1]
   unfold itemR
   by_cases hc:0<=i/\i<(p.vars nm).length
   ·rw[if_pos hc,if_pos hc];rfl
   ·rw[if_neg hc,if_neg hc];rfl
  unfold itemR at hrs2
  by_cases hc:0<=i/\i<(p.vars nm).length
  ·obtain⟨hi64,hca⟩:=hin hc
   have HCA:=zh hca
   rw[if_pos hc]at hrs2
   have HR:Hid (∀ W,Below w2.heap.size w2 W->EvP c k w s res (.returned (.int .i64 ((p.vars nm).getD i.toNat 0))) W):=fun W hW=>by rw[hrs2];exact⟨rfl,HG.out _ _ _ HG2.out hW,HK2.out.trans (Kp.below hW HG2.out.lt),HL2.out,hi64⟩
   clear hca hin hout hg2 hk2 hl2 hi2 p1 hc hi64 hrs2 HRS
   generalize (p.vars nm).getD i.toNat 0=v at *
   go_wp2_with fail
   refine HCA.out.mono ?_
   rintro e w3 ⟨rfl,hb3⟩
   have HB3:=zh hb3
   clear hb3
   go_wp2_with fail
   go_ret
   exact HR.out _ HB3.out
  ·have HCA:=zh (hout hc)
   rw[if_neg hc]at hrs2
   have HR:Hid (∀ e W,thrE endT (Tp.bounds:Int) e->Below w2.heap.size w2 W->EvP c k w s res e W):=fun e W he hW=>by rw[hrs2];exact⟨he,⟨k,HG.out _ _ _ HG2.out hW⟩,HK2.out.trans (Kp.below hW HG2.out.lt)⟩
   clear hin hout hg2 hk2 hl2 hi2 p1 hc hrs2 HRS
   go_wp2_with fail
   refine HCA.out.mono ?_
   rintro e w3 ⟨⟨older,rfl⟩,hb3⟩
   have HB3:=zh hb3
   clear hb3
   go_wp2_with fail
   exact⟨rfl,HR.out _ _ ⟨older,rfl⟩ HB3.out⟩
theorem EvP.up {c:Cx}{k:Nat}{w W w':World}{s s':Rs}{r:Rr Int}{e:Ending}(h:EvP c k W s' r e w') (hk:Kp c nY w W) (hl:s'.left<=s.left):EvP c k w s r e w':=by
 cases r with
 | ok v s2=>exact⟨h.1,h.2.1,hk.trans h.2.2.1,Nat.le_trans h.2.2.2.1 hl,h.2.2.2.2⟩
 | stop way s2=>exact⟨h.1,h.2.1,hk.trans h.2.2⟩
 | gas=>trivial
def bindR (r:Rr Int) (f:Int->Rs->Rr Int):Rr Int:=match r with
 | .ok v s=>f v s
 | .stop way s=>.stop way s
 | .gas=>.gas
def CellX (c:Cx) (x:Nat) (bop:ByteArray) (y z:Nat):Prop:=∀ W s' k',GS c W s' k'->x<W.heap.size/\W.cell? ⟨x,5,none⟩=some (.string bop)/\W.cell? ⟨x,6,none⟩=some (.pointer (some ⟨y,0,none⟩))/\W.cell? ⟨x,7,none⟩=some (.pointer (some ⟨z,0,none⟩))
def RightC (c:Cx) (k:Nat) (w:World) (s:Rs) (sb z:Nat) (rr:Rs->Rr Int):Prop:=∀ W s',GS c W s' k->Kp c nY w W->s'.left<=s.left->rr s'≠.gas->Calls Tryz.prog 150 #[.pointer (some ⟨sb,0,none⟩),.pointer (some ⟨z,0,none⟩)] W (EvP c k W s' (rr s'))
theorem ji (p:Prop) [Decidable p]:Tp.I64 (Tp.b01 p):=by unfold Tp.b01 Tp.I64;split <;> omega
theorem ne_bool (b:Int):(!(b == 0))=decide (b≠0):=by by_cases h:b=0 <;> simp[h]
theorem pair_and {c:Cx}{k:Nat}{w:World}{s:Rs}{sb x y z:Nat}{rl:Rr Int}{rr:Rs->Rr Int}{bop:ByteArray}(h1:(bop.toList == [97,110,100])=true) (h:GS c w s k) (hX:CellX c x bop y z)
  (hL:Calls Tryz.prog 150 #[.pointer (some ⟨sb,0,none⟩),.pointer (some ⟨y,0,none⟩)] w (EvP c k w s rl)) (hR:RightC c k w s sb z rr)
  {res:Rr Int} (hres:res=bindR rl fun a s'=>if a=0 then .ok 0 s' else bindR (rr s') fun b s2=>.ok (Tp.b01 (b≠0)) s2) (hn:res≠.gas) :
  Calls Tryz.prog 175 #[.pointer (some ⟨sb,0,none⟩),.pointer (some ⟨x,0,none⟩)] w (EvP c k w s res):=by
 obtain⟨hxl,_,k6,_⟩:=hX w s k h
 have HX:=zh hX
 have HL:=zh hL
 have HRT:=zh hR
 clear hX hL hR h
 cases rl with
 | gas=>exact absurd (hres.trans rfl) hn
 | stop way s' =>
  have HR:Hid (∀ e W,EvP c k w s (.stop way s') e W->EvP c k w s res e W):=fun e W hW=>by rw[hres];exact hW
  clear hres hn
  go_enter Tryz.func175,Tryz.ntmps175
  go_wp2_with fail
  refine HL.out.mono ?_
  rintro e w2 ⟨⟨older,rfl⟩,hg2,hk2⟩
  have HG2:=zh hg2
  have HK2:=zh hk2
  clear hg2 hk2
  go_wp2_with fail
  exact⟨rfl,HR.out _ _ ⟨⟨older,rfl⟩,HG2.out,HK2.out⟩⟩
 | ok a s1 =>
  have hres1:res=if a=0 then .ok 0 s1 else bindR (rr s1) fun b s2=>.ok (Tp.b01 (b≠0)) s2:=hres
  clear hres
  by_cases ha:a=0
  ·rw[if_pos ha]at hres1
   have HR:Hid (∀ W,GS c W s1 k->Kp c nY w W->s1.left<=s.left->EvP c k w s res (.returned (.int .i64 0)) W):=fun W a1 a2 a3=>by rw[hres1];exact⟨rfl,a1,a2,a3,by decide⟩
   subst ha
   clear hres1 hn
   go_enter Tryz.func175,Tryz.ntmps175
   go_wp2_with fail
   refine HL.out.mono ?_
   rintro e w2 ⟨rfl,hg2,hk2,hl2,_⟩
   obtain⟨hxl2,j5,_,j7⟩:=HX.out w2 _ _ hg2
   have HG2:=zh hg2
   have HK2:=zh hk2
   have HL2:=zh hl2
   clear hg2 hk2 hl2
   go_wp2_with fail
   refine(yh _ 0 (by rfl) w2).mono ?_
   rintro e w3 ⟨rfl,rfl⟩
   go_wp2_with fail
   go_ret
   exact HR.out _ HG2.out HK2.out HL2.out
  ·rw[if_neg ha]at hres1
   have ha':(a == 0)=false:=by simpa using ha
   cases hrr:rr s1 with
   | gas=>rw[hrr]at hres1;exact absurd hres1 hn
   | stop way s2 =>
    rw[hrr]at hres1
    have HR:Hid (∀ W e W',Kp c nY w W->s1.left<=s.left->EvP c k W s1 (.stop way s2) e W'->EvP c k w s res e W'):=fun W e W' a1 a2 a3=>by rw[hres1];exact a3.up a1 a2
    have HRR:Hid (rr s1=.stop way s2):=hrr
    clear hres1 hn hrr
    go_enter Tryz.func175,Tryz.ntmps175
    go_wp2_with fail
    refine HL.out.mono ?_
    rintro e w2 ⟨rfl,hg2,hk2,hl2,_⟩
    obtain⟨hxl2,j5,_,j7⟩:=HX.out w2 _ _ hg2
    have HC2:=zh (HRT.out w2 s1 hg2 hk2 hl2 (by rw[HRR.out];simp))
    rw[HRR.out]at HC2
    have HK2:=zh hk2
    have HL2:=zh hl2
    clear hg2 hk2 hl2
    go_wp2_with fail
    refine HC2.out.mono ?_
    rintro e w3 ⟨⟨older,rfl⟩,hg3,hk3⟩
    have HG3:=zh hg3
    have HK3:=zh hk3
    clear hg3 hk3
    go_wp2_with fail
    exact⟨rfl,HR.out _ _ _ HK2.out HL2.out ⟨⟨older,rfl⟩,HG3.out,HK3.out⟩⟩
   | ok b s2 =>
    rw[hrr]at hres1
    have HR:Hid (∀ W W',Kp c nY w W->s1.left<=s.left->GS c W' s2 k->Kp c nY W W'->s2.left<=s1.left->EvP c k w s res (.returned (.int .i64 (Tp.b01 (b≠0)))) W'):=fun W W' a1 a2 a3 a4 a5=>by rw[hres1];exact⟨rfl,a3,a1.trans a4,Nat.le_trans a5 a2,ji _⟩
    have HRR:Hid (rr s1=.ok b s2):=hrr
    have HT:Hid (∀ q:Bool,q=decide (b≠0)->Tp.b01 (b≠0)=if q then (1:Int) else 0):=fun q h=>by rw[h];exact(yu _).symm
    clear hres1 hn hrr
    generalize Tp.b01 (b≠0)=v at *
    go_enter Tryz.func175,Tryz.ntmps175
    go_wp2_with fail
    refine HL.out.mono ?_
    rintro e w2 ⟨rfl,hg2,hk2,hl2,_⟩
    obtain⟨hxl2,j5,_,j7⟩:=HX.out w2 _ _ hg2
    have HC2:=zh (HRT.out w2 s1 hg2 hk2 hl2 (by rw[HRR.out];simp))
    rw[HRR.out]at HC2
    have HK2:=zh hk2
    have HL2:=zh hl2
    clear hg2 hk2 hl2
    go_wp2_with fail
    refine HC2.out.mono ?_
    rintro e w3 ⟨rfl,hg3,hk3,hl3,_⟩
    have HG3:=zh hg3
    have HK3:=zh hk3
    have HL3:=zh hl3
    clear hg3 hk3 hl3
    go_wp2_with fail
    refine(yh _ v (HT.out _ (by first|rfl|exact ne_bool b|(by_cases hh:b=0 <;> simp[hh,ha] <;> done)|(by_cases hh:b=0 <;> simp[hh] <;> done))) w3).mono ?_
    rintro e w4 ⟨rfl,rfl⟩
    go_wp2_with fail
    go_ret
    exact HR.out _ _ HK2.out HL2.out HG3.out HK3.out HL3.out
theorem pair_or {c:Cx}{k:Nat}{w:World}{s:Rs}{sb x y z:Nat}{rl:Rr Int}{rr:Rs->Rr Int}{bop:ByteArray}(h0:(bop.toList == [97,110,100])=false) (h1:(bop.toList == [111,114])=true) (h:GS c w s k) (hX:CellX c x bop y z)
  (hL:Calls Tryz.prog 150 #[.pointer (some ⟨sb,0,none⟩),.pointer (some ⟨y,0,none⟩)] w (EvP c k w s rl)) (hR:RightC c k w s sb z rr)
  {res:Rr Int} (hres:res=bindR rl fun a s'=>if a≠0 then .ok 1 s' else bindR (rr s') fun b s2=>.ok (Tp.b01 (b≠0)) s2) (hn:res≠.gas) :
  Calls Tryz.prog 175 #[.pointer (some ⟨sb,0,none⟩),.pointer (some ⟨x,0,none⟩)] w (EvP c k w s res):=by
 obtain⟨hxl,_,k6,_⟩:=hX w s k h
 have HX:=zh hX
 have HL:=zh hL
 have HRT:=zh hR
 clear hX hL hR h
 cases rl with
 | gas=>exact absurd (hres.trans rfl) hn
 | stop way s' =>
  have HR:Hid (∀ e W,EvP c k w s (.stop way s') e W->EvP c k w s res e W):=fun e W hW=>by rw[hres];exact hW
  clear hres hn
  go_enter Tryz.func175,Tryz.ntmps175
  go_wp2_with fail
  refine HL.out.mono ?_
  rintro e w2 ⟨⟨older,rfl⟩,hg2,hk2⟩
  have HG2:=zh hg2
  have HK2:=zh hk2
  clear hg2 hk2
  go_wp2_with fail
  exact⟨rfl,HR.out _ _ ⟨⟨older,rfl⟩,HG2.out,HK2.out⟩⟩
 | ok a s1 =>
  have hres1:res=if a≠0 then .ok 1 s1 else bindR (rr s1) fun b s2=>.ok (Tp.b01 (b≠0)) s2:=hres
  clear hres
  by_cases ha:a≠0
  ·rw[if_pos ha]at hres1
   have HR:Hid (∀ W,GS c W s1 k->Kp c nY w W->s1.left<=s.left->EvP c k w s res (.returned (.int .i64 1)) W):=fun W a1 a2 a3=>by rw[hres1];exact⟨rfl,a1,a2,a3,by decide⟩
   have ha':(a == 0)=false:=by simpa using ha
   clear hres1 hn
   go_enter Tryz.func175,Tryz.ntmps175
   go_wp2_with fail
   refine HL.out.mono ?_
   rintro e w2 ⟨rfl,hg2,hk2,hl2,_⟩
   obtain⟨hxl2,j5,_,j7⟩:=HX.out w2 _ _ hg2
   have HG2:=zh hg2
   have HK2:=zh hk2
   have HL2:=zh hl2
   clear hg2 hk2 hl2
   go_wp2_with fail
   refine(yh _ 1 (by rfl) w2).mono ?_
   rintro e w3 ⟨rfl,rfl⟩
   go_wp2_with fail
   go_ret
   exact HR.out _ HG2.out HK2.out HL2.out
  ·rw[if_neg ha]at hres1
   have ha':a=0:=by simpa using ha
   subst ha'
   cases hrr:rr s1 with
   | gas=>rw[hrr]at hres1;exact absurd hres1 hn
   | stop way s2 =>
    rw[hrr]at hres1
    have HR:Hid (∀ W e W',Kp c nY w W->s1.left<=s.left->EvP c k W s1 (.stop way s2) e W'->EvP c k w s res e W'):=fun W e W' a1 a2 a3=>by rw[hres1];exact a3.up a1 a2
    have HRR:Hid (rr s1=.stop way s2):=hrr
    clear hres1 hn hrr
    go_enter Tryz.func175,Tryz.ntmps175
    go_wp2_with fail
    refine HL.out.mono ?_
    rintro e w2 ⟨rfl,hg2,hk2,hl2,_⟩
    obtain⟨hxl2,j5,_,j7⟩:=HX.out w2 _ _ hg2
    have HC2:=zh (HRT.out w2 s1 hg2 hk2 hl2 (by rw[HRR.out];simp))
    rw[HRR.out]at HC2
    have HK2:=zh hk2
    have HL2:=zh hl2
    clear hg2 hk2 hl2
    go_wp2_with fail
    refine HC2.out.mono ?_
    rintro e w3 ⟨⟨older,rfl⟩,hg3,hk3⟩
    have HG3:=zh hg3
    have HK3:=zh hk3
    clear hg3 hk3
    go_wp2_with fail
    exact⟨rfl,HR.out _ _ _ HK2.out HL2.out ⟨⟨older,rfl⟩,HG3.out,HK3.out⟩⟩
   | ok b s2 =>
    rw[hrr]at hres1
    have HR:Hid (∀ W W',Kp c nY w W->s1.left<=s.left->GS c W' s2 k->Kp c nY W W'->s2.left<=s1.left->EvP c k w s res (.returned (.int .i64 (Tp.b01 (b≠0)))) W'):=fun W W' a1 a2 a3 a4 a5=>by rw[hres1];exact⟨rfl,a3,a1.trans a4,Nat.le_trans a5 a2,ji _⟩
    have HRR:Hid (rr s1=.ok b s2):=hrr
    have HT:Hid (∀ q:Bool,q=decide (b≠0)->Tp.b01 (b≠0)=if q then (1:Int) else 0):=fun q h=>by rw[h];exact(yu _).symm
    clear hres1 hn hrr
    generalize Tp.b01 (b≠0)=v at *
    go_enter Tryz.func175,Tryz.ntmps175
    go_wp2_with fail
    refine HL.out.mono ?_
    rintro e w2 ⟨rfl,hg2,hk2,hl2,_⟩
    obtain⟨hxl2,j5,_,j7⟩:=HX.out w2 _ _ hg2
    have HC2:=zh (HRT.out w2 s1 hg2 hk2 hl2 (by rw[HRR.out];simp))
    rw[HRR.out]at HC2
    have HK2:=zh hk2
    have HL2:=zh hl2
    clear hg2 hk2 hl2
    go_wp2_with fail
    refine HC2.out.mono ?_
    rintro e w3 ⟨rfl,hg3,hk3,hl3,_⟩
    have HG3:=zh hg3
    have HK3:=zh hk3
    have HL3:=zh hl3
    clear hg3 hk3 hl3
    go_wp2_with fail
    refine(yh _ v (HT.out _ (by first|rfl|exact ne_bool b|(by_cases hh:b=0 <;> simp[hh,ha] <;> done)|(by_cases hh:b=0 <;> simp[hh] <;> done))) w3).mono ?_
    rintro e w4 ⟨rfl,rfl⟩
    go_wp2_with fail
    go_ret
    exact HR.out _ _ HK2.out HL2.out HG3.out HK3.out HL3.out
end Go.Proofs.YtibncofnnlbmcaaGreatDoor
