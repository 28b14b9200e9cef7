import Derived.Test.YtibncofnnlbmcaaGreatDoorKQh
import Derived.Test.YtibncofnnlbmcaaGreatDoorKQa
import Derived.Test.YtibncofnnlbmcaaGreatDoorKPc
import Derived.Test.YtibncofnnlbmcaaGreatDoorKWk
import Derived.KernelRfl
import Derived.Laws.IdiomStrings
set_option maxRecDepth 100000
set_option maxHeartbeats 4000000
namespace Go.Proofs.YtibncofnnlbmcaaGreatDoor
open Go.RowKit Go.Maps
open Tp (Bs X S G Pr Pt Rs Rr Own)
theorem MD.prc {w:World}{D:Nat->Prop}{m:Tp.M}{ia ga pa ba:Option Addr}{ic gc pc bc:Nat}(hm:MD w D m ia ga pa ba ic gc pc bc):PrC w m.procs pa:=by
 refine⟨fun i hi=>?_⟩
 obtain⟨pb,pv,vv,bv,bcs,e,hd,hl,hc,r2,r3,r4,r5⟩:=hm.procs i hi
 obtain⟨y3,c3,rfl⟩:=r2.shape
 obtain⟨y4,c4,rfl⟩:=r3.shape
 obtain⟨y5,c5,rfl⟩:=r5.shape
 have hk:∀ o u,w.cell? ⟨pb,o,none⟩=some u->w.cell? ⟨pb,o,none⟩=some u:=fun o u hu=>hu
 have hlw:=zg (hk _ _ (hc 0 (by omega)))
 exact⟨pb,_,y3,y4,y5,_,_,_,c3,c4,c5,e,hlw,hk _ _ (hc 0 (by omega)),hk _ _ (hc 1 (by omega)),hk _ _ (hc 2 (by omega)),hk _ _ (hc 3 (by omega)),hk _ _ (hc 4 (by omega)),hk _ _ (hc 5 (by omega))⟩
def cwF (w:World):Cx:=⟨w,w.heap.size,0,[]⟩
theorem rprocD {w:World}{D:Nat->Prop}{m:Tp.M}{ia ga pa ba:Option Addr}{ic gc pc bc lb vb:Nat}(b1:w.heap[lb]?=some (.cells (lcells m ia ga pa ba ic gc pc bc vb) 107 (0,0))) (hmd0:MD w D m ia ga pa ba ic gc pc bc) (hpn:m.procs.length<=1000) (nm:Bs) :
  Calls Tryz.prog 54 #[.pointer (some ⟨lb,0,none⟩),.string (bs nm)] w fun e w'=>∃ v,e=.returned (.pointer v)/\ProcP (cwF w) m nm v/\Below w.heap.size w w':=by
 have hmd:MD w (cwF w).D m ia ga pa ba ic gc pc bc:=hmd0.mono (fun b _ hl=>⟨rfl,hl,fun ⟨_,q,_⟩=>by cases q⟩)
 have hlbl:=zf b1
 have hpn':(m.procs.length:Int)<=1000:=by omega
 have ha:Below w.heap.size w (w.alloc (.cells #[.string (bs nm)] 9)):=zb _ _
 have hbb:=(ha.block _ hlbl).trans b1
 have k3:(w.alloc (.cells #[.string (bs nm)] 9)).cell? ⟨lb,3,none⟩=some (.slice pa m.procs.length pc):=(za hbb).trans rfl
 have HPC:Hid (PrC (w.alloc (.cells #[.string (bs nm)] 9)) m.procs pa):=hmd.prc.on ha
 have HIX:=zh (jB (cp:=pc) HPC.out hpn nm w.heap.size ((za (zo _ _)).trans rfl))
 have HA:=zh ha
 have hal:lb<(w.alloc (.cells #[.string (bs nm)] 9)).heap.size:=zf hbb
 have hmf:=zm
 have HMD:=zh hmd
 have HB1:=zh hbb
 clear b1 hmd hmd0 hbb ha
 rcases pidx_in (m:=m) (n:=nm) with⟨q1,q2⟩|⟨i,hi,q1,q2⟩
 ·rw[q2]at HIX
  have HQ:Hid (∀ v,v=none->ProcP (cwF w) m nm v):=fun v hv=>by unfold ProcP;rw[q1];exact hv
  clear q1 q2
  generalize m.procs.length=ln at *
  go_enter Tryz.func54,Tryz.ntmps54
  go_wp2_with fail
  refine HIX.out.mono ?_
  rintro e w2 ⟨rfl,hb2⟩
  have HB2:Hid (Below w.heap.size w w2):=HA.out.trans (hb2.mono HA.out.size)
  clear hb2
  go_wp2_with fail
  go_ret
  exact⟨_,rfl,HQ.out _ rfl,HB2.out⟩
 ·rw[q1]at HIX
  obtain⟨pb,pv,vv,bv,bcs,e,hd,hpl,hc,r2,r3,r4,r5⟩:=HMD.out.procs i hi
  subst e
  have HQ:Hid (ProcP (cwF w) m nm (some ⟨pb,i * 6,none⟩)):=by
   show ProcP _ _ _ _
   unfold ProcP
   rw[q2]
   exact⟨pb,i * 6,rfl,⟨hd,hc 0 (by omega),hc 2 (by omega),pv,vv,bv,bcs,hc 3 (by omega),hc 4 (by omega),hc 5 (by omega),r2,r3,r4,r5⟩⟩
  have hi':(i:Int)<(m.procs.length:Int):=by omega
  have hi0:¬(i:Int)<0:=by omega
  clear q1 q2 hd hpl hc r2 r3 r4 r5 hi
  generalize m.procs.length=ln at *
  go_enter Tryz.func54,Tryz.ntmps54
  go_wp2_with fail
  refine HIX.out.mono ?_
  rintro e w2 ⟨rfl,hb2⟩
  have HB2:Hid (Below w.heap.size w w2):=HA.out.trans (hb2.mono HA.out.size)
  have k3':w2.cell? ⟨lb,3,none⟩=some (.slice (some ⟨pb,0,none⟩) ln pc):=(hb2.cell (p:=⟨lb,3,none⟩) hal).trans k3
  have hal2:lb<w2.heap.size:=Nat.lt_of_lt_of_le hal hb2.size
  clear hb2
  go_wp2_with fail
  go_ret
  exact⟨_,rfl,HQ.out,HB2.out⟩
theorem WW.more {X:Nat->Prop}{w w':World}{wb:Nat}{L:List Lo}{P:List Pt}{nv:Value}{tb:Nat}(h:WW X w wb L P nv tb) (hb:Below w.heap.size w w'):WW (fun b=>X b\/w.heap.size<=b) w' wb L P nv tb:=by
 have hwl:=zf h.blk
 have htl:tb<w.heap.size:=by obtain⟨n,_,hm⟩:=h.th;exact hm.lt
 have hnl:∀ b,nv.ownBlock=some b->b<w.heap.size:=fun b e=>(h.nm.lt b e).2
 have hD:∀ b,StB X L wb tb nv b->b<w.heap.size->w'.heap[b]?=w.heap[b]?/\StB (fun b=>X b\/w.heap.size<=b) L wb tb nv b:=fun b hs hl=>⟨hb.block b hl,fun q=>q.elim hs.1 (fun z=>by omega),hs.2⟩
 refine⟨(hb.block _ hwl).trans h.blk,⟨fun q=>q.elim h.xw.1 (fun z=>by omega),h.xw.2⟩,zH h.nm (fun b _ hl _=>hb.block b hl),fun b e=>⟨fun q=>q.elim (h.nx b e).1 (fun z=>by have:=hnl b e;omega),(h.nx b e).2⟩,⟨fun q=>q.elim h.tx.1 (fun z=>by omega),h.tx.2⟩,?_,fun lo hl=>?_,fun b hv=>⟨Nat.lt_of_lt_of_le (h.sv b hv).1 hb.size,fun q=>q.elim (h.sv b hv).2 (fun z=>by have:=(h.sv b hv).1;omega)⟩,h.nd,h.inj,fun lo hl=>?_,h.mw⟩
 ·obtain⟨n,hn,hm⟩:=h.th
  exact⟨n,hn,hm.on (hb.block _ htl)⟩
 ·obtain⟨⟨ia,ga,pa,ba,ic,gc,pc,bc,h1,h2⟩,h3,h4,⟨n,h5⟩,h6⟩:=h.lo lo hl
  exact⟨⟨ia,ga,pa,ba,ic,gc,pc,bc,((hD _ h3 (zf h1)).1).trans h1,h2.mono hD⟩,(hD _ h3 (zf h1)).2,(hD _ h4 h5.lt).2,⟨n,h5.on (hD _ h4 h5.lt).1⟩,h6⟩
 ·obtain⟨p,p1,p2,p3⟩:=h.vals lo hl
  exact⟨p,p1,p2,fun g hg=>⟨(p3 g hg).1,(hb.block _ (h.sv _ ⟨lo,hl,g,hg,rfl⟩).1).trans (p3 g hg).2.1,(p3 g hg).2.2⟩⟩
def nOf:Rr Int->Int
 | .ok v _=>v
 | _=>0
def WayN (c:Cx) (w1:World) (xn:Nat) (r:Rr Int) (way:Int) (w2:World):Prop:=∃ w3,WayA c w1 r way w3/\Ext xn w3 w2/\w2.heap[xn]?=some (.cells #[.int .i64 (nOf r)] 2 (0,0))
theorem call1_post {X:Nat->Prop}{w:World}{wb:Nat}{L:List Lo}{P:List Pt}{nv:Value}{tb fuel xl xp xa xn ac gas:Nat}{aa:Option Addr}{nm:Bs}{p:Pr}{vs:List Int}(h:WW X w wb L P nv tb) (hf:fuel<=800000) {lo:Lo}(hlo:lo∈L) (hp:Tp.procIn lo.m nm=some p) (hvl:vs.length=p.params.length) (hvi:∀ v∈vs,Tp.I64 v) (hia:IntsAt w vs aa)
  (kl:w.cell? ⟨xl,0,none⟩=some (.pointer (some ⟨lo.lb,0,none⟩))) (kp:w.cell? ⟨xp,0,none⟩=some (.string (bs nm))) (ka:w.cell? ⟨xa,0,none⟩=some (.slice aa vs.length ac)) (kn:w.heap[xn]?=some (.cells #[.int .i64 0] 2 (0,0))) (hX:X xn)
  (hng:Tp.callP gas 0 lo.m.name p vs ⟨P,fuel,[]⟩≠.gas) :
  Calls Tryz.prog 55 #[.pointer (some ⟨w.heap.size+1,0,none⟩),.pointer (some ⟨xl,0,none⟩),.pointer (some ⟨xp,0,none⟩),.pointer (some ⟨xa,0,none⟩),.pointer (some ⟨xn,0,none⟩)] (goesW w (some tb) (fuel:Int)) fun e w2=>GoHeld w (goesW w (some tb) (fuel:Int)) w2/\((e=.returned (.tuple #[])/\WayN (cxOf w tb fuel L) (goesW w (some tb) (fuel:Int)) xn (Tp.callP gas 0 lo.m.name p vs ⟨P,fuel,[]⟩) 1 w2)\/∃ way:Int,thrE endT way e/\WayN (cxOf w tb fuel L) (goesW w (some tb) (fuel:Int)) xn (Tp.callP gas 0 lo.m.name p vs ⟨P,fuel,[]⟩) way w2):=by
 obtain⟨hok,hg0,hno⟩:=h.cx fuel hf
 have hV:∀ b,VLo L b->b<w.heap.size:=fun b hb=>(h.sv b hb).1
 have hb:=yi w (some tb) (fuel:Int)
 have hs:=yv w (some tb) (fuel:Int)
 have HHE:=zh (fun w2 k s=>held_of (w2:=w2) (k:=k) (s:=s) hok hno hV)
 have hxl:=zf kn
 have HN:Hid (∀ w2,Kp (cxOf w tb fuel L) nY (goesW w (some tb) (fuel:Int)) w2->w2.heap[xn]?=some (.cells #[.int .i64 0] 2 (0,0))):=fun w2 hk =>
  ((hk.block xn (by omega) (by show xn≠w.heap.size+1;omega) (fun q=>(h.sv xn q).2 hX) (hno xn) (fun q=>q)).trans (hb.block xn hxl)).trans kn
 have HB:=zh ((run_all hok gas).cl 0 lo nm p vs (goesW w (some tb) (fuel:Int)) ⟨P,fuel,[]⟩ aa ac hlo hp hvl hvi hg0 (hia.on hb) hng)
 have hcg:(cxOf w tb fuel L).gb=w.heap.size+1:=rfl
 rw[hcg]at HB
 have k1:(goesW w (some tb) (fuel:Int)).cell? ⟨xl,0,none⟩=some (.pointer (some ⟨lo.lb,0,none⟩)):=(hb.cell (p:=⟨xl,0,none⟩) (zg kl)).trans kl
 have k2:(goesW w (some tb) (fuel:Int)).cell? ⟨xp,0,none⟩=some (.string (bs nm)):=(hb.cell (p:=⟨xp,0,none⟩) (zg kp)).trans kp
 have k3:(goesW w (some tb) (fuel:Int)).cell? ⟨xa,0,none⟩=some (.slice aa vs.length ac):=(hb.cell (p:=⟨xa,0,none⟩) (zg ka)).trans ka
 have hl1:xl<(goesW w (some tb) (fuel:Int)).heap.size:=zg k1
 have hl2:xp<(goesW w (some tb) (fuel:Int)).heap.size:=zg k2
 have hl3:xa<(goesW w (some tb) (fuel:Int)).heap.size:=zg k3
 clear h hok hg0 hno hV hb kl kp ka kn hX hia hvi
 generalize cxOf w tb fuel L=c at *
 generalize goesW w (some tb) (fuel:Int)=w1 at *
 generalize Tp.callP gas 0 lo.m.name p vs ⟨P,fuel,[]⟩=r at *
 generalize vs.length=vn at *
 generalize bs nm=nb at *
 clear hcg hvl hp
 cases r with
 | gas=>exact absurd rfl hng
 | stop way s' =>
  clear hng
  go_enter Tryz.func55,Tryz.ntmps55
  go_wp2_with fail
  refine HB.out.mono ?_
  rintro e w4 ⟨⟨older,rfl⟩,⟨k',hg4⟩,hk4⟩
  have HF:Hid (GoHeld w w1 w4/\WayN c w1 xn (.stop way s':Rr Int) (way:Int) w4):=⟨HHE.out _ _ _ hg4 hk4,w4,⟨rfl,k',hg4,hk4⟩,Ext.refl _ _,HN.out _ hk4⟩
  clear hg4 hk4
  go_wp2_with fail
  exact⟨rfl,HF.out.1,Or.inr ⟨(way:Int),⟨older,rfl⟩,HF.out.2⟩⟩
 | ok r1 s' =>
  clear hng
  go_enter Tryz.func55,Tryz.ntmps55
  go_wp2_with fail
  refine HB.out.mono ?_
  rintro e w4 ⟨rfl,hg4,hk4,_,_⟩
  have hn4:=HN.out _ hk4
  have HF:Hid (GoHeld w w1 (w4.setCell ⟨xn,0,none⟩ (.int .i64 r1))/\WayN c w1 xn (.ok r1 s') 1 (w4.setCell ⟨xn,0,none⟩ (.int .i64 r1))):=by
   obtain⟨g1,g2,oa,on,oc,g3⟩:=HHE.out _ _ _ hg4 hk4
   have hx:Ext xn w4 (w4.setCell ⟨xn,0,none⟩ (.int .i64 r1)):=(Ext.refl _ _).set 0 _
   have hsz:=hk4.size
   exact⟨⟨(hx.block _ (by omega) (by omega)).trans g1,(hx.block _ (by omega) (by omega)).trans g2,oa,on,oc,(World.cell?_of_block (w:=w4) (hx.block _ (by show w.heap.size+1<_;omega) (by show w.heap.size+1≠_;omega))).trans g3⟩,w4,⟨rfl,0,hg4,hk4⟩,hx,zu 0 (.int .i64 r1) hn4⟩
  have n0:w4.cell? ⟨xn,0,none⟩=some (.int .i64 0):=(za hn4).trans rfl
  have nz:w4.frozen? ⟨xn,0,none⟩=false:=zi hn4
  have hnl:=zf hn4
  clear hg4 hk4 hn4
  go_wp2_with fail
  exact bodyPost_end (results_none rfl _ _ _) rfl ⟨HF.out.1,Or.inl ⟨rfl,HF.out.2⟩⟩
structure GonQ (X:Nat->Prop) (w:World) (wb:Nat) (L:List Lo) (nv:Value) (tb xn:Nat) (P':List Pt) (out:List Int) (n:Int) (oa:Option Addr) (w':World):Prop where
 ww:WW X w' wb L P' nv tb
 keep:∀ b,b<w.heap.size->b≠xn->¬VLo L b->w'.heap[b]?=w.heap[b]?
 nn:w'.heap[xn]?=some (.cells #[.int .i64 n] 2 (0,0))
 it:IntsAt w' out oa
 oi:∀ v∈out,Tp.I64 v
 ol:out.length<=200
 far:∀ a,oa=some a->w.heap.size<=a.block
 size:w.heap.size<=w'.heap.size
 os:w'.os=w.os
 tape:w'.tape=w.tape
 output:w'.output=w.output
theorem WW.after2 {X:Nat->Prop}{w w2 w':World}{wb:Nat}{L:List Lo}{P:List Pt}{nv:Value}{tb fuel k xn:Nat}{s:Rs}(h:WW X w wb L P nv tb) (hf:fuel<=800000) (hg:GS (cxOf w tb fuel L) w2 s k) (hk:Kp (cxOf w tb fuel L) nY (goesW w (some tb) (fuel:Int)) w2) (hx:∀ b,b<w2.heap.size->b≠w.heap.size->b≠xn->w'.heap[b]?=w2.heap[b]?) (hs2:w2.heap.size<=w'.heap.size) (hX:X xn):WW X w' wb L s.w nv tb/\∀ b,b<w.heap.size->b≠xn->¬VLo L b->w'.heap[b]?=w.heap[b]?:=by
 obtain⟨hok,hg0,hno⟩:=h.cx fuel hf
 have hb:=yi w (some tb) (fuel:Int)
 have hs:=yv w (some tb) (fuel:Int)
 have hsz:=hk.size
 have hkk:∀ b,b<w.heap.size->b≠xn->¬VLo L b->w'.heap[b]?=w.heap[b]?:=fun b hl hn hv =>
  ((hx b (by omega) (by omega) hn).trans (hk.block b (by omega) (by show b≠w.heap.size+1;omega) hv (hno b) (fun q=>q))).trans (hb.block b hl)
 refine⟨h.keep (fun b hl hX' hv=>hkk b hl (fun e=>hX' (e ▸ hX)) hv) (by omega) (fun lo hl=>?_) hg.mw,hkk⟩
 obtain⟨p,p1,p2,p3⟩:=hg.vals lo hl
 exact⟨p,p1,p2,fun g hgm=>⟨(p3 g hgm).1,(hx _ (zf (p3 g hgm).2.1) (by have:=(h.sv _ ⟨lo,hl,g,hgm,rfl⟩).1;omega) (fun e=>(h.sv _ ⟨lo,hl,g,hgm,rfl⟩).2 (e ▸ hX))).trans (p3 g hgm).2.1,(p3 g hgm).2.2⟩⟩
theorem gone2 {X:Nat->Prop}{w w':World}{wb:Nat}{L:List Lo}{P:List Pt}{nv:Value}{tb fuel xn:Nat}{r:Rr Int}{e:Ending}(h:WW X w wb L P nv tb) (hf:fuel<=800000) (hX:X xn) (hxn:xn<w.heap.size) (hg:GoesP w (WayN (cxOf w tb fuel L) (goesW w (some tb) (fuel:Int)) xn r) e w') :
  ∃ oa oc,e=.returned (.agg #[.int .i64 ((Tp.endOf r).2.way:Int),.slice oa (Tp.endOf r).2.out.length oc])/\GonQ X w wb L nv tb xn (Tp.endOf r).1 (Tp.endOf r).2.out (nOf r) oa w':=by
 obtain⟨w2,way,oa,on,oc,⟨w3,hA,hx3,hn⟩,hc,he,hx⟩:=hg
 have hnw:w'.heap[xn]?=some (.cells #[.int .i64 (nOf r)] 2 (0,0)):=(hx.block xn (zf hn) (by omega)).trans hn
 have hxx:∀ b,b<w3.heap.size->b≠w.heap.size->b≠xn->w'.heap[b]?=w3.heap[b]?:=fun b hb h1 h2=>(hx.block b (by have:=hx3.size;omega) h1).trans (hx3.block b hb h2)
 have hs3:w3.heap.size<=w'.heap.size:=by have:=hx.size;have:=hx3.size;omega
 have fin:∀(s:Rs) (k:Nat),GS (cxOf w tb fuel L) w3 s k->Kp (cxOf w tb fuel L) nY (goesW w (some tb) (fuel:Int)) w3->on=s.out.length/\GonQ X w wb L nv tb xn s.w s.out (nOf r) oa w':=by
  intro s k hgs hk
  have hb:=yi w (some tb) (fuel:Int)
  have hsz:=hb.size
  have hgz:=yv w (some tb) (fuel:Int)
  have hkz:=hk.size
  obtain⟨hww,hkk⟩:=h.after2 hf hgs hk hxx hs3 hX
  obtain⟨ov,h1,h2⟩:=hgs.outIs
  have h1':w2.cell? ⟨w.heap.size+1,3,none⟩=some ov:=(World.cell?_of_block (w:=w3) (hx3.block (w.heap.size+1) (by omega) (by omega))).trans h1
  rw[hc]at h1'
  have h3:=(Option.some.inj h1').symm
  rw[h3]at h2
  have h2':=zH (w':=w') h2 (fun b hb hl _=>hxx b hl (by have:w.heap.size+1+1<=b:=hb;omega) (by have:w.heap.size+1+1<=b:=hb;omega))
  obtain⟨oa',oc',e1,e2,e3,_⟩:=uM h2'
  injection e1 with e1 e4 e5
  subst e1
  exact⟨e4,hww,hkk,hnw,e2,hgs.oi,hgs.ol,fun a q=>by have:w.heap.size+1+1<=a.block:=e3 a q;omega,by omega,((hx.os.trans hx3.os).trans hk.os).trans hb.os,((hx.tape.trans hx3.tape).trans hk.tape).trans hb.tape,((hx.output.trans hx3.output).trans hk.output).trans hb.output⟩
 cases r with
 | gas=>exact hA.elim
 | ok x s=>obtain⟨rfl,k,hgs,hk⟩:=hA;obtain⟨rfl,q⟩:=fin s k hgs hk;exact⟨oa,oc,he,q⟩
 | stop wy s=>obtain⟨rfl,k,hgs,hk⟩:=hA;obtain⟨rfl,q⟩:=fin s k hgs hk;exact⟨oa,oc,he,q⟩
def CallP (X:Nat->Prop) (w:World) (wb:Nat) (L:List Lo) (nv:Value) (tb:Nat) (r:Rr Int) (e:Ending) (w':World):Prop:=∃ oa oc,e=.returned (.tuple #[.agg #[.int .i64 ((Tp.endOf r).2.way:Int),.slice oa (Tp.endOf r).2.out.length oc],.int .i64 (nOf r),.nilIface])/\WW X w' wb L (Tp.endOf r).1 nv tb/\IntsAt w' (Tp.endOf r).2.out oa/\(∀ v∈(Tp.endOf r).2.out,Tp.I64 v)/\(∀ b,b<w.heap.size->¬VLo L b->w'.heap[b]?=w.heap[b]?)/\w.heap.size<=w'.heap.size/\w'.os=w.os/\w'.tape=w.tape/\w'.output=w.output/\(Tp.endOf r).2.out.length<=200/\∀ a,oa=some a->w.heap.size<=a.block
structure Ext2 (a b:Nat) (w w':World):Prop where
 os:w'.os=w.os
 tape:w'.tape=w.tape
 output:w'.output=w.output
 size:w.heap.size<=w'.heap.size
 block:∀ k,k<w.heap.size->k≠a->k≠b->w'.heap[k]?=w.heap[k]?
theorem Ext2.refl (a b:Nat) (w:World):Ext2 a b w w:=⟨rfl,rfl,rfl,Nat.le_refl _,fun _ _ _ _=>rfl⟩
theorem Ext2.set {a b:Nat}{w w':World}(h:Ext2 a b w w') {c:Nat}(hc:c=a\/c=b) (i:Nat) (v:Value):Ext2 a b w (w'.setCell ⟨c,i,none⟩ v):=by
 have hx:Ext c w' (w'.setCell ⟨c,i,none⟩ v):=(Ext.refl _ _).set i _
 exact⟨hx.os.trans h.os,hx.tape.trans h.tape,hx.output.trans h.output,Nat.le_trans h.size hx.size,fun k hk h1 h2=>(hx.block k (Nat.lt_of_lt_of_le hk h.size) (fun e=>hc.elim (fun z=>h1 (e.trans z)) (fun z=>h2 (e.trans z)))).trans (h.block k hk h1 h2)⟩
theorem Ext2.drew {a b:Nat}{w w':World}(h:Ext2 a b w w'):Ext2 a b w w'.drew:=⟨h.os,h.tape,h.output,h.size,h.block⟩
theorem call_ok {X:Nat->Prop}{w:World}{wb:Nat}{L:List Lo}{P:List Pt}{nv:Value}{tb fuel ac gas:Nat}{aa:Option Addr}{nm:Bs}{p:Pr}{vs:List Int}(h:WW X w wb L P nv tb) (hf:fuel<=800000) {lo:Lo}(hlo:lo∈L) (hp:Tp.procIn lo.m nm=some p) (hsn:p.seen=true) (hvl:vs.length=p.params.length) (hvi:∀ v∈vs,Tp.I64 v) (hia:IntsAt w vs aa) (hmn:lo.m.name.length<=1000000) (hvn:vs.length<=1000000)
  (hng:Tp.callP gas 0 lo.m.name p vs ⟨P,fuel,[]⟩≠.gas) :
  Calls Tryz.prog 27 #[.pointer (some ⟨wb,0,none⟩),.string (bs lo.m.name),.string (bs nm),.slice aa vs.length ac,.int .i64 (fuel:Int)] w (CallP X w wb L nv tb (Tp.callP gas 0 lo.m.name p vs ⟨P,fuel,[]⟩)):=by
 obtain⟨W4,hW4⟩:∃ W4,W4=(((w.alloc (.cells #[.string (bs nm)] 9)).alloc (.cells #[.slice aa vs.length ac] 29)).alloc (.cells #[.int .i64 0,.slice none 0 0] 43)).alloc (.cells #[.int .i64 0] 2):=⟨_,rfl⟩
 obtain⟨W5,hW5⟩:∃ W5,W5=W4.alloc (.cells #[.pointer (some ⟨lo.lb,0,none⟩)] 88):=⟨_,rfl⟩
 have hs4:W4.heap.size=w.heap.size+4:=by rw[hW4];simp
 have hb4:Below w.heap.size w W4:=by rw[hW4];exact(((zb _ _).alloc (by simp) _).alloc (by simp;omega) _).alloc (by simp;omega) _
 have hb45:Below W4.heap.size W4 W5:=by rw[hW5];exact zb _ _
 have hb5:Below w.heap.size w W5:=hb4.trans (hb45.mono (by omega))
 have hs5:W5.heap.size=w.heap.size+5:=by rw[hW5];simp[hs4]
 have q0:W4.heap[w.heap.size]?=some (.cells #[.string (bs nm)] 9 (0,0)):=by rw[hW4];exact(((Below.heap_alloc _ _ _ (by simp;omega)).trans (Below.heap_alloc _ _ _ (by simp;omega))).trans (Below.heap_alloc _ _ _ (by simp))).trans (zo _ _)
 have q1:W4.heap[w.heap.size+1]?=some (.cells #[.slice aa vs.length ac] 29 (0,0)):=by
  have:=zo (w.alloc (.cells #[.string (bs nm)] 9)) (.cells #[.slice aa vs.length ac] 29)
  rw[hW4];exact((Below.heap_alloc _ _ _ (by simp)).trans (Below.heap_alloc _ _ _ (by simp))).trans (by simpa using this)
 have q2:W4.heap[w.heap.size+2]?=some (.cells #[.int .i64 0,.slice none 0 0] 43 (0,0)):=by
  have:=zo ((w.alloc (.cells #[.string (bs nm)] 9)).alloc (.cells #[.slice aa vs.length ac] 29)) (.cells #[.int .i64 0,.slice none 0 0] 43)
  rw[hW4];exact(Below.heap_alloc _ _ _ (by simp)).trans (by simpa using this)
 have q3:W4.heap[w.heap.size+3]?=some (.cells #[.int .i64 0] 2 (0,0)):=by
  have:=zo (((w.alloc (.cells #[.string (bs nm)] 9)).alloc (.cells #[.slice aa vs.length ac] 29)).alloc (.cells #[.int .i64 0,.slice none 0 0] 43)) (.cells #[.int .i64 0] 2)
  rw[hW4];simpa using this
 have q4:W5.heap[w.heap.size+4]?=some (.cells #[.pointer (some ⟨lo.lb,0,none⟩)] 88 (0,0)):=by
  have:=zo W4 (.cells #[.pointer (some ⟨lo.lb,0,none⟩)] 88)
  rw[hs4]at this
  rw[hW5];exact this
 have p0:=(hb45.block _ (zf q0)).trans q0
 have p1:=(hb45.block _ (zf q1)).trans q1
 have p2:=(hb45.block _ (zf q2)).trans q2
 have p3:=(hb45.block _ (zf q3)).trans q3
 have hwl:=zf h.blk
 have k1:W4.cell? ⟨wb,1,none⟩=some (.map (some tb)):=(za ((hb4.block _ hwl).trans h.blk)).trans rfl
 have hlk:(Instr.lookup 26 (.map (some tb)) (.string (bs lo.m.name)) false).run Tryz.prog W4=.ok (.pointer (some ⟨lo.lb,0,none⟩)) W4:=by
  obtain⟨n,_,hm⟩:=h.th
  have h1:=(hm.on (hb4.block _ hm.lt)).look (t:=26) Tryz.underlying26 (zeroLo _) lo.m.name hmn false
  rw[h1]
  have:thrL L lo.m.name=some (.pointer (some ⟨lo.lb,0,none⟩)):=by
   unfold thrL
   rw[(Tp.find_key (key:=fun lo:Lo=>lo.m.name) h.nd lo).2 ⟨hlo,rfl⟩]
   rfl
  simp[this]
 have hww:=h.more hb5
 obtain⟨⟨ia,ga,pa,ba,ic,gc,pc,bc,m1,m2⟩,_,_,_,hfit⟩:=hww.lo lo hlo
 have HPR:=zh (rprocD m1 m2 (by have:=hfit.wm.pc;omega) nm)
 obtain⟨r,hr⟩:∃ r,r=Tp.callP gas 0 lo.m.name p vs ⟨P,fuel,[]⟩:=⟨_,rfl⟩
 have HPP:Hid (∀ v,ProcP (cwF W5) lo.m nm v->∃ pb o ya yc,v=some ⟨pb,o,none⟩/\W5.cell? ⟨pb,o+2,none⟩=some (.bool true)/\W5.cell? ⟨pb,o+3,none⟩=some (.slice ya vs.length yc)):=by
  intro v hv
  unfold ProcP at hv
  rw[hp]at hv
  obtain⟨pb,o,e,q⟩:=hv
  obtain⟨pv,vv,bv,bcs,r1,r2,r3,r4,_⟩:=q.r
  obtain⟨ya,yc,rfl⟩:=r4.shape
  exact⟨pb,o,ya,yc,e,by have:=q.sn;rw[hsn]at this;exact this,by rw[hvl];exact r1⟩
 have HGO:Hid (∀ w6,Below W5.heap.size W5 w6->Calls Tryz.prog 41 #[.pointer (some ⟨wb,0,none⟩),.int .i64 (fuel:Int),.func (.func 55) #[] #[.pointer (some ⟨w.heap.size+4,0,none⟩),.pointer (some ⟨w.heap.size,0,none⟩),.pointer (some ⟨w.heap.size+1,0,none⟩),.pointer (some ⟨w.heap.size+3,0,none⟩)]] w6 fun e w9=>∃ oa oc,e=.returned (.agg #[.int .i64 ((Tp.endOf r).2.way:Int),.slice oa (Tp.endOf r).2.out.length oc])/\w9.heap[w.heap.size+2]?=some (.cells #[.int .i64 0,.slice none 0 0] 43 (0,0))/\w9.heap[w.heap.size+3]?=some (.cells #[.int .i64 (nOf r)] 2 (0,0))/\∀ w10,w10.os=w9.os->w10.tape=w9.tape->w10.output=w9.output->w9.heap.size<=w10.heap.size->(∀ b,b<w9.heap.size->b≠w.heap.size+2->b≠w.heap.size+3->w10.heap[b]?=w9.heap[b]?)->CallP X w wb L nv tb r (.returned (.tuple #[.agg #[.int .i64 ((Tp.endOf r).2.way:Int),.slice oa (Tp.endOf r).2.out.length oc],.int .i64 (nOf r),.nilIface])) w10):=by
  intro w6 hb6
  have hbw:Below w.heap.size w w6:=hb5.trans (hb6.mono (by omega))
  have hs6:=hb6.size
  have hw6:=h.more hbw
  have t0:=(hb6.block _ (zf p0)).trans p0
  have t1:=(hb6.block _ (zf p1)).trans p1
  have t2:=(hb6.block _ (zf p2)).trans p2
  have t3:=(hb6.block _ (zf p3)).trans p3
  have t4:=(hb6.block _ (zf q4)).trans q4
  have hX:(fun b=>X b\/w.heap.size<=b) (w.heap.size+3):=Or.inr (by omega)
  have hl1:=call1_post (gas:=gas) hw6 hf hlo hp hvl hvi (hia.on hbw) ((za t4).trans rfl) ((za t0).trans rfl) ((za t1).trans rfl) t3 hX hng
  rw[<-hr]at hl1
  have hgo:=vS (caps:=#[.pointer (some ⟨w.heap.size+4,0,none⟩),.pointer (some ⟨w.heap.size,0,none⟩),.pointer (some ⟨w.heap.size+1,0,none⟩),.pointer (some ⟨w.heap.size+3,0,none⟩)]) cf_call ((za hw6.blk).trans rfl) hl1
  refine hgo.mono ?_
  intro e w9 hG
  obtain⟨oa,oc,he,hgn⟩:=gone2 hw6 hf hX (by omega) hG
  have hnv:∀ b,w.heap.size<=b->¬VLo L b:=fun b hb q=>(hw6.sv _ q).2 (Or.inr hb)
  have h9:=hgn.size
  refine⟨oa,oc,he,(hgn.keep _ (by omega) (by omega) (hnv _ (by omega))).trans t2,hgn.nn,fun w10 o1 o2 o3 o4 o5=>?_⟩
  refine⟨oa,oc,rfl,(hgn.ww.keep (fun b hb hX' hv=>o5 b hb (fun e=>hX' (Or.inr (by omega))) (fun e=>hX' (Or.inr (by omega)))) o4 (fun lo' hl=>?_) hgn.ww.mw).less (fun b hb=>Or.inl hb),⟨fun i hi=>?_⟩,hgn.oi,fun b hb hv=>?_,by omega,(o1.trans hgn.os).trans hbw.os,(o2.trans hgn.tape).trans hbw.tape,(o3.trans hgn.output).trans hbw.output,hgn.ol,fun a q=>by have:=hgn.far a q;have:=hbw.size;omega⟩
  ·obtain⟨p',p1',p2',p3'⟩:=hgn.ww.vals lo' hl
   exact⟨p',p1',p2',fun g hg=>⟨(p3' g hg).1,(o5 _ (zf (p3' g hg).2.1) (fun e=>(hgn.ww.sv _ ⟨lo',hl,g,hg,rfl⟩).2 (Or.inr (by omega))) (fun e=>(hgn.ww.sv _ ⟨lo',hl,g,hg,rfl⟩).2 (Or.inr (by omega)))).trans (p3' g hg).2.1,(p3' g hg).2.2⟩⟩
  ·obtain⟨b,o,u1,u2,u3⟩:=hgn.it.c i hi
   have hfar:w6.heap.size<=b:=hgn.far _ u1
   exact⟨b,o,u1,by omega,(World.cell?_of_block (w:=w9) (o5 b u2 (by omega) (by omega))).trans u3⟩
  ·exact((o5 b (by omega) (by omega) (by omega)).trans (hgn.keep b (by omega) (by omega) hv)).trans (hbw.block b hb)
 have k5:W5.cell? ⟨w.heap.size+4,0,none⟩=some (.pointer (some ⟨lo.lb,0,none⟩)):=(za q4).trans rfl
 have k6:W5.cell? ⟨w.heap.size,0,none⟩=some (.string (bs nm)):=(za p0).trans rfl
 have HK1:=zh p1
 have HWB:Hid (W5.heap[wb]?=some (.cells #[nv,.map (some tb)] 28 (0,0))):=(hb5.block _ hwl).trans h.blk
 rw[<-hr]
 clear h hlo hp hsn hvi hia hng q0 q1 q2 q3 q4 p0 p1 p2 p3 hww m1 m2 hfit hb4 hb45 hb5 hr
 have hvn':(vs.length:Int)<=1000000:=by omega
 clear hvl
 generalize vs.length=vn at *
 generalize bs lo.m.name=lmn at *
 generalize bs nm=pnm at *
 generalize (Tp.endOf r).2.out.length=on at *
 go_enter Tryz.func27,Tryz.ntmps27
 go_upto_region 1 with fail
 rw[<-hW4]
 clear hW4
 go_upto_region 2 with fail
 rw[<-hW5,show w.heap.size+1+1+1=w.heap.size+3 from rfl,show w.heap.size+1+1=w.heap.size+2 from rfl]
 clear hW5 hlk k1
 go_wp2_with fail
 refine HPR.out.mono ?_
 rintro e w6 ⟨v,rfl,hv,hb6⟩
 obtain⟨pb,o,ya,yc,rfl,c2,c3⟩:=HPP.out v hv
 have c2':w6.cell? ⟨pb,o+2,none⟩=some (.bool true):=(hb6.cell (p:=⟨pb,o+2,none⟩) (zg c2)).trans c2
 have c3':w6.cell? ⟨pb,o+3,none⟩=some (.slice ya vn yc):=(hb6.cell (p:=⟨pb,o+3,none⟩) (zg c3)).trans c3
 have k8:w6.cell? ⟨w.heap.size+1,0,none⟩=some (.slice aa vn ac):=(za ((hb6.block _ (zf HK1.out)).trans HK1.out)).trans rfl
 have hpl:pb<w6.heap.size:=zg c2'
 have hwl6:wb<w6.heap.size:=zf ((hb6.block _ (zf HWB.out)).trans HWB.out)
 have HB6:=zh hb6
 clear hv hb6 c2 c3 k5 k6 HPR HPP HK1 HWB
 go_upto_region 7 with fail
 go_quiet (fail)
 obtain⟨w7,hw7⟩:∃ w7,w7=w6.drewN nq:=⟨_,rfl⟩
 have HB7:Hid (Below W5.heap.size W5 w7):=by rw[hw7];exact below_drewN HB6.out _
 have hwl7:wb<w7.heap.size:=by rw[hw7];exact hwl6
 rw[<-hw7]
 clear hw7 c2' c3' k8
 have HG:=zh (HGO.out w7 HB7.out)
 go_wp2_with fail
 refine HG.out.mono ?_
 rintro e w9 ⟨oa,oc,rfl,hE9,hN9,hfin⟩
 have hset:=zu 1 (.slice oa on oc) (zu 0 (.int .i64 ((Tp.endOf r).2.way:Int)) hE9)
 obtain⟨w10,hw10⟩:∃ w10,w10=(w9.setCell ⟨w.heap.size+2,0,none⟩ (.int .i64 ((Tp.endOf r).2.way:Int))).setCell ⟨w.heap.size+2,1,none⟩ (.slice oa on oc):=⟨_,rfl⟩
 have hE10:w10.heap[w.heap.size+2]?=some (.cells #[.int .i64 ((Tp.endOf r).2.way:Int),.slice oa on oc] 43 (0,0)):=by rw[hw10];exact hset
 have hX10:Ext2 (w.heap.size+2) (w.heap.size+3) w9 w10:=by rw[hw10];exact((Ext2.refl _ _ _).set (Or.inl rfl) 0 _).set (Or.inl rfl) 1 _
 have hxx:Ext (w.heap.size+2) w9 w10:=by rw[hw10];exact((Ext.refl _ _).set 0 _).set 1 _
 have hN10:w10.heap[w.heap.size+3]?=some (.cells #[.int .i64 (nOf r)] 2 (0,0)):=(hxx.block _ (zf hN9) (by omega)).trans hN9
 have e0:w9.cell? ⟨w.heap.size+2,0,none⟩=some (.int .i64 0):=(za hE9).trans rfl
 have e1':w9.cell? ⟨w.heap.size+2,1,none⟩=some (.slice none 0 0):=(za hE9).trans rfl
 have ez:∀ j,w9.frozen? ⟨w.heap.size+2,j,none⟩=false:=fun j=>zi hE9
 have hel:=zf hE9
 have HX10:=zh hX10
 have HFIN:=zh hfin
 have f0:w10.cell? ⟨w.heap.size+2,0,none⟩=some (.int .i64 ((Tp.endOf r).2.way:Int)):=(za hE10).trans rfl
 have f1:w10.cell? ⟨w.heap.size+2,1,none⟩=some (.slice oa on oc):=(za hE10).trans rfl
 have fz:∀ j,w10.frozen? ⟨w.heap.size+2,j,none⟩=false:=fun j=>zi hE10
 have n0:w10.cell? ⟨w.heap.size+3,0,none⟩=some (.int .i64 (nOf r)):=(za hN10).trans rfl
 have nz:w10.frozen? ⟨w.heap.size+3,0,none⟩=false:=zi hN10
 have hl2:=zf hE10
 have hl3:=zf hN10
 have HE10:=zh hE10
 have HN10:=zh hN10
 clear hE9 hN9 hfin hset hE10 hN10 hX10 hxx HG HGO HB6 HB7
 generalize (Tp.endOf r).2.way=wy at *
 generalize hnn:nOf r=nn at *
 go_upto_region 10 with fail
 rw[<-hw10]
 clear hw10 e0 e1' ez
 go_region
 obtain⟨w11,hw11⟩:∃ w11,w11=(((w10.setCell ⟨w.heap.size+2,0,none⟩ (.int .i64 (wy:Int))).setCell ⟨w.heap.size+2,1,none⟩ (.slice oa on oc)).setCell ⟨w.heap.size+3,0,none⟩ (.int .i64 nn)).drew:=⟨_,rfl⟩
 have hX11:Ext2 (w.heap.size+2) (w.heap.size+3) w10 w11:=by rw[hw11];exact((((Ext2.refl _ _ _).set (Or.inl rfl) 0 _).set (Or.inl rfl) 1 _).set (Or.inr rfl) 0 _).drew
 have hEb:w11.heap[w.heap.size+2]?=some (.cells #[.int .i64 (wy:Int),.slice oa on oc] 43 (0,0)):=by
  rw[hw11]
  have hx:Ext (w.heap.size+3) ((w10.setCell ⟨w.heap.size+2,0,none⟩ (.int .i64 (wy:Int))).setCell ⟨w.heap.size+2,1,none⟩ (.slice oa on oc)) (((w10.setCell ⟨w.heap.size+2,0,none⟩ (.int .i64 (wy:Int))).setCell ⟨w.heap.size+2,1,none⟩ (.slice oa on oc)).setCell ⟨w.heap.size+3,0,none⟩ (.int .i64 nn)):=(Ext.refl _ _).set 0 _
  have hs:=zu 1 (.slice oa on oc) (zu 0 (.int .i64 (wy:Int)) HE10.out)
  exact(hx.block _ (zf hs) (by omega)).trans hs
 have hNb:w11.heap[w.heap.size+3]?=some (.cells #[.int .i64 nn] 2 (0,0)):=by
  rw[hw11]
  have hx:Ext (w.heap.size+2) w10 ((w10.setCell ⟨w.heap.size+2,0,none⟩ (.int .i64 (wy:Int))).setCell ⟨w.heap.size+2,1,none⟩ (.slice oa on oc)):=((Ext.refl _ _).set 0 _).set 1 _
  exact zu 0 (.int .i64 nn) ((hx.block _ hl3 (by omega)).trans HN10.out)
 have g0:w11.cell? ⟨w.heap.size+2,0,none⟩=some (.int .i64 (wy:Int)):=(za hEb).trans rfl
 have g1:w11.cell? ⟨w.heap.size+2,1,none⟩=some (.slice oa on oc):=(za hEb).trans rfl
 have g2:w11.cell? ⟨w.heap.size+3,0,none⟩=some (.int .i64 nn):=(za hNb).trans rfl
 have HR:=zh (HFIN.out w11 (hX11.os.trans HX10.out.os) (hX11.tape.trans HX10.out.tape) (hX11.output.trans HX10.out.output) (Nat.le_trans HX10.out.size hX11.size) (fun b h1 h2 h3=>(hX11.block b (Nat.lt_of_lt_of_le h1 HX10.out.size) h2 h3).trans (HX10.out.block b h1 h2 h3)))
 rw[<-hw11]
 clear hw11 hX11 hEb hNb f0 f1 fz n0 nz
 go_wp2_with fail
 exact bodyPost_ret (v:=.tuple #[.agg #[.int .i64 (wy:Int),.slice oa on oc],.int .i64 nn,.nilIface]) (by simp[results,Tryz.results27,go_sem,g0,g1,g2]) rfl HR.out
theorem eq_one {w:World}{b1 o1 b2 o2 c1 c2:Nat}{x:Int}(k1:w.cell? ⟨b1,o1,none⟩=some (.int .i64 x)) (k2:w.cell? ⟨b2,o2,none⟩=some (.int .i64 x)) :
  Calls Tryz.prog 24 #[.slice (some ⟨b1,o1,none⟩) 1 c1,.slice (some ⟨b2,o2,none⟩) 1 c2] w fun e w'=>e=.returned (.bool true)/\Below w.heap.size w w':=by
 have hl1:b1<w.heap.size:=zg k1
 have hl2:b2<w.heap.size:=zg k2
 go_enter Tryz.func24,Tryz.ntmps24
 go_wp2_with fail
 refine wp_loop_rounds 2 ?_
 rw[rounds_succ]
 go_upto_region 6 with fail
 go_quiet (fail)
 obtain⟨w1,hw1⟩:∃ w1,w1=w.drewN nq:=⟨_,rfl⟩
 have HB:Hid (Below w.heap.size w w1):=by rw[hw1];exact below_drewN (Below.refl _ _) _
 rw[<-hw1]
 clear hw1
 go_wp2_with fail
 rw[rounds_succ]
 go_wp2_with fail
 go_ret
 exact⟨rfl,HB.out⟩
end Go.Proofs.YtibncofnnlbmcaaGreatDoor
namespace Tp
def txtR:Bs:=[109,111,100,117,108,101,32,109,59,32,118,97,114,32,120,58,32,105,110,116,59,32,112,114,111,99,32,102,42,40,97,41,59,32,98,101,103,105,110,32,120,32,58,61,32,120,32,43,32,97,59,32,114,101,116,117,114,110,32,120,32,42,32,50,59,32,101,110,100,59,32,98,101,103,105,110,32,119,114,105,116,101,32,102,40,51,41,59,32,101,110,100,46]
def modR:M:=⟨[109],[],[⟨[120],14,0,false⟩],[⟨[102],22,true,[[97]],[],[⟨1,40,[120],[],[⟨5,45,0,[],[],[43],[⟨2,45,0,[],[120],[],[],[],[]⟩],[⟨2,49,0,[],[97],[],[],[],[]⟩],[]⟩],[],[]⟩,⟨4,52,[],[],[⟨5,59,0,[],[],[42],[⟨2,59,0,[],[120],[],[],[],[]⟩],[⟨1,63,2,[],[],[],[],[],[]⟩],[]⟩],[],[]⟩]⟩],[⟨5,77,[],[],[⟨6,83,0,[],[102],[],[],[],[⟨1,85,3,[],[],[],[],[],[]⟩]⟩],[],[]⟩]⟩
theorem parseR:parse txtR=.ok modR:=by kernel_rfl
theorem checkR:check modR (fun _=>none)=none:=by simp[check,imps,tw,checkP,rs,rx,judge,stand,kindOf,ownOf,modR]
def fR:Pr:=modR.procs.headD ⟨[],0,false,[],[],[]⟩
def goesR:Bool:=match goS 60 0 [109] (fun _=>none) modR.body ⟨[⟨modR,fresh modR⟩],100,[]⟩ with
 | .ok r s1=>r.2.isNone && s1.out == [6] && (match callP 60 0 [109] fR [4] ⟨s1.w,100,[]⟩ with
  | .ok v s2=>v == 14 && s2.out == []
  | _=>false)
 | _=>false
theorem goesR_is:goesR=true:=by kernel_rfl
theorem ranR (ofF:M->List Sy):(loadW ofF [] modR 100).err=none/\(loadW ofF [] modR 100).e=⟨1,[6]⟩/\(callW (loadW ofF [] modR 100).w [109] [102] [4] 100).err=none/\(callW (loadW ofF [] modR 100).w [109] [102] [4] 100).e.way=1/\(callW (loadW ofF [] modR 100).w [109] [102] [4] 100).n=14:=by
 have h:=goesR_is
 unfold goesR at h
 have hs:seenW ofF []=fun _=>none:=by funext k;rfl
 cases hg:goS 60 0 [109] (fun _=>none) modR.body ⟨[⟨modR,fresh modR⟩],100,[]⟩ with
 | stop way s1=>rw[hg]at h;simp at h
 | gas=>rw[hg]at h;simp at h
 | ok r s1 =>
  rw[hg]at h
  simp only [Bool.and_eq_true]at h
  obtain⟨⟨h1,h2⟩,h3⟩:=h
  have e1:goS (gasOf [⟨modR,fresh modR⟩] modR.body 100) 0 [109] (fun _=>none) modR.body ⟨[⟨modR,fresh modR⟩],100,[]⟩=.ok r s1:=by
   rw[<-hg];exact goS_gas goS_enough (by rw[hg];simp)
  have el:loadW ofF [] modR 100=⟨s1.w,⟨1,s1.out⟩,0,none⟩:=by
   unfold loadW
   rw[if_neg (by simp[partOf]),hs,checkR]
   simp only
   rw[if_neg (by simp)]
   show (Ans.mk (endOf (goS (gasOf [⟨modR,fresh modR⟩] modR.body 100) 0 [109] (fun _=>none) modR.body ⟨[⟨modR,fresh modR⟩],100,[]⟩)).1 (endOf (goS (gasOf [⟨modR,fresh modR⟩] modR.body 100) 0 [109] (fun _=>none) modR.body ⟨[⟨modR,fresh modR⟩],100,[]⟩)).2 0 none)=_
   rw[e1]
   rfl
  have h2':s1.out=[6]:=by simpa using h2
  have hms:ms s1.w=[modR]:=by
   have:=endOf_ms (n:=60) (k:=0) (md:=[109]) (own:=fun _=>none) (l:=modR.body) (s:=⟨[⟨modR,fresh modR⟩],100,[]⟩) (by rw[hg];simp)
   rw[hg]at this
   exact this
  have hp:∃ p,partOf s1.w [109]=some p/\p.m=modR:=by
   have:=xd s1.w [109]
   rw[hms]at this
   cases hq:partOf s1.w [109] with
   | none=>rw[hq]at this;simp[partM,modR]at this
   | some p =>
    rw[hq]at this
    refine⟨p,rfl,?_⟩
    have e:partM [modR] [109]=some modR:=by simp[partM,modR]
    rw[e]at this
    simpa using this
  obtain⟨p,p1,p2⟩:=hp
  cases hc:callP 60 0 [109] fR [4] ⟨s1.w,100,[]⟩ with
  | stop way s2=>rw[hc]at h3;simp at h3
  | gas=>rw[hc]at h3;simp at h3
  | ok v s2 =>
   rw[hc]at h3
   simp only [Bool.and_eq_true]at h3
   have hv:v=14:=by simpa using h3.1
   have e2:callP (nd (bodySz s1.w) 100 0) 0 [109] fR [4] ⟨s1.w,100,[]⟩=.ok v s2:=by
    have hn:callP (nd (bodySz s1.w) 100 0) 0 [109] fR [4] ⟨s1.w,100,[]⟩≠.gas:=callP_enough (by
     have h1:=bodySz_bd s1.w 100 [] p (part_name p1).1 fR (by rw[p2];simp[fR,modR])
     exact h1)
    have a1:=xz (d:=60) hn
    have a2:=xz (d:=nd (bodySz s1.w) 100 0) (n:=60) (k:=0) (md:=[109]) (p:=fR) (vs:=[4]) (s:=⟨s1.w,100,[]⟩) (by rw[hc];simp)
    rw[Nat.add_comm]at a2
    rw[<-a1,a2,hc]
   have ec:callW s1.w [109] [102] [4] 100=⟨s2.w,⟨1,s2.out⟩,14,none⟩:=by
    unfold callW
    rw[p1]
    simp only [Option.bind_some]
    rw[p2]
    show (match (some fR:Option Pr) with
     | none=>(⟨s1.w,no,0,some (7,none)⟩:Ans)
     | some q=>if q.params.length≠[(4:Int)].length then ⟨s1.w,no,0,some (2,none)⟩
      else
       let r:=callP (nd (bodySz s1.w) 100 0) 0 [109] q [4] ⟨s1.w,100,[]⟩
       ⟨(endOf r).1,(endOf r).2,(match r with | .ok v _=>v|_=>0),none⟩)=_
    simp only
    rw[if_neg (by simp[fR,modR]),e2]
    simp[endOf,hv]
   rw[el]
   exact⟨rfl,by rw[h2'],by rw[ec],by rw[ec],by rw[ec]⟩
end Tp
namespace Go.Proofs.YtibncofnnlbmcaaGreatDoor
open Go.RowKit Go.Maps
open Tp (Bs X S G Pr Pt Rs Rr Own)
def fd (u:Int):Int:=IntKind.u64.wrap (97+bits .and .u64 u 15) % 256
def bd (u:Int):UInt8:=UInt8.ofNat (fd u).toNat
def twoB (u:Int):ByteArray:=⟨#[bd u,bd (u / 16)]⟩
def it4 (s:ByteArray) (u:Int):Nat->ByteArray× Int
 | 0=>(s,u)
 | j+1=>((it4 s u j).1++twoB (it4 s u j).2,(it4 s u j).2 / 256)
def numS (s:ByteArray) (x:Int):ByteArray:=(it4 s (IntKind.u64.wrap x) 8).1
def varS (P:List Pt) (n:Bs) (s:ByteArray) (v:Bs):ByteArray:=match Tp.getW P n v with
 | none=>s++⟨#[45]⟩
 | some xs=>xs.foldl numS (s++bs v)
def vars5:List Bs:=[[120],[121],[116],[117],[122]]
def modS (P:List Pt) (s:ByteArray) (n:Bs):ByteArray:=vars5.foldl (varS P n) (s++bs n)++⟨#[59]⟩
def allB (P:List Pt):ByteArray:=(P.map fun p=>p.m.name).foldl (modS P) ⟨#[]⟩
theorem bd_nat (u:Int):((bd u).toNat:Int)=fd u:=by
 have h:0<=fd u/\fd u<256:=by unfold fd;omega
 unfold bd
 rw[UInt8.toNat_ofNat_of_lt' (by show _<256;omega)]
 omega
theorem it4_size (s:ByteArray) (u:Int) (j:Nat):(it4 s u j).1.size=s.size+2 * j:=by
 induction j with
 | zero=>rfl
 | succ j ih =>
  show ((it4 s u j).1++twoB (it4 s u j).2).size=_
  rw[ByteArray.size_append,ih]
  show _+2=_
  omega
theorem vA (xs:List Int):∀ s:ByteArray,(xs.foldl numS s).size=s.size+16 * xs.length:=by
 induction xs with
 | nil=>intro s;rfl
 | cons x t ih =>
  intro s
  show (t.foldl numS (numS s x)).size=_
  rw[ih]
  unfold numS
  rw[it4_size,List.length_cons]
  omega
theorem jD {α β:Type}(f:β->α->β) (a:β) (l:List α) (i:Nat) (hi:i<l.length):(l.take (i+1)).foldl f a=f ((l.take i).foldl f a) l[i]:=by
 rw[List.take_succ_eq_append_getElem hi,List.foldl_append]
 rfl
theorem WW.getlen {X:Nat->Prop}{w:World}{wb:Nat}{L:List Lo}{P:List Pt}{nv:Value}{tb:Nat}(h:WW X w wb L P nv tb) {lo:Lo}(hlo:lo∈L) {nm:Bs}{xs:List Int}(hg:Tp.getW P lo.m.name nm=some xs):xs.length<=30:=by
 obtain⟨p,p1,p2,p3⟩:=h.vals lo hlo
 obtain⟨_,_,_,_,hfit⟩:=h.lo lo hlo
 unfold Tp.getW at hg
 rw[p1,Option.bind_some,p2]at hg
 split at hg
 ·rename_i hv
  obtain⟨g,g1,g2⟩:=List.any_eq_true.1 hv
  have e:g.name=nm:=by simpa using g2
  cases hg
  have:=(p3 g g1).1
  rw[e]at this
  have hl:=(hfit.wm.g g g1).l
  rw[this]
  unfold vlen
  split <;> omega
 ·cases hg
theorem var_size {P:List Pt}{n v:Bs}(hv:v.length=1) (hx:∀ xs,Tp.getW P n v=some xs->xs.length<=30) (s:ByteArray):(varS P n s v).size<=s.size+500:=by
 unfold varS
 split
 ·rw[ByteArray.size_append]
  show _+1<=_
  omega
 ·rename_i xs h
  rw[vA,ByteArray.size_append,yz,hv]
  have:=hx xs h
  omega
theorem Tryz.convB (W:World) (b:Nat) (u:Int) (h0:W.cell? ⟨b,0,none⟩=some (.int .u8 (fd u))) (h1:W.cell? ⟨b,1,none⟩=some (.int .u8 (fd (u / 16)))):(convert 81 9 (.slice (some ⟨b,0,none⟩) 2 2)).run Tryz.prog W=.ok (.string (twoB u)) W:=by
 refine run_convert_bytes_back (P:=Tryz.prog) W 81 9 5 ⟨b,0,none⟩ 2 [bd u,bd (u / 16)] Tryz.underlying81 Tryz.underlying5 Tryz.underlying9 ?_
 intro j hj
 rw[Addr.add_lit]
 match j,hj with
 | 0,_=>rw[h0];exact congrArg (fun z=>some (Value.int .u8 z)) (bd_nat u).symm
 | 1,_=>rw[h1];exact congrArg (fun z=>some (Value.int .u8 z)) (bd_nat (u / 16)).symm
 | k+2,hk=>exact absurd hk (by simp)
end Go.Proofs.YtibncofnnlbmcaaGreatDoor
