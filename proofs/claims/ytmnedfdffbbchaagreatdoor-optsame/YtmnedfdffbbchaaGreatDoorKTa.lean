import Derived.Test.YtmnedfdffbbchaaGreatDoorKSh
import Derived.Test.YtmnedfdffbbchaaGreatDoorKIg
import Derived.Test.YtmnedfdffbbchaaGreatDoorKDa
import Derived.Test.YtmnedfdffbbchaaGreatDoorKXa
import Derived.Test.YtmnedfdffbbchaaGreatDoorKFa
import Derived.Test.YtmnedfdffbbchaaGreatDoorKJd
set_option maxRecDepth 100000
set_option maxHeartbeats 4000000

namespace Go.Proofs.YtmnedfdffbbchaaGreatDoor.Jo
open Go.RowKit Go.Maps
open Ob (O In I64)
open Vm (St Fr Pl)
theorem nm_zeros (n:Nat):Vm.Nm (zeros n):=fun v hv=>by
 have:=List.eq_of_mem_replicate hv
 rw[this]
 unfold Tp.I64
 omega
theorem sh_vv0 (o:O):Vm.Sh o (vv0 o):=by
 refine⟨by unfold vv0;simp,fun l hl=>?_⟩
 unfold vv0 at hl
 obtain⟨i,hi,rfl⟩:=List.mem_map.1 hl
 refine⟨fun q=>?_,fun v hv=>?_⟩
 ·have:=congrArg List.length q
  rw[List.length_replicate]at this
  unfold gl8 at this
  simp at this
  omega
 ·rw[List.eq_of_mem_replicate hv]
  unfold Tp.I64
  omega
theorem s0_st0 (o:O):s0 o=Vm.st0 o (vv0 o) (f0 o):=rfl
theorem vv0_eq {o p:O}(h:p.vars=o.vars):vv0 p=vv0 o:=by unfold vv0;rw[h]
theorem load_rel {o p:O}(h:Vm.Stp o p) (hu:o.uses=[]) (n:Nat):Vm.Bad (Vm.goes 31 n (s0 o)).way\/Vm.Rb o p (Vm.goes 31 n (s0 o)) (Vm.goes 31 n (s0 p)):=by
 rw[s0_st0 o,s0_st0 p,vv0_eq h.eq.vr]
 exact h.load hu 31 n (sh_vv0 o) (f:=f0 o) (g:=f0 p) rfl h.eq.nm rfl rfl rfl (by simp[f0,zeros]) (nm_zeros 10) rfl rfl
def lessL:O:=⟨[109],[],[],[],[],[],[⟨1,1,0⟩,⟨1,2,0⟩,⟨9,0,0⟩,⟨16,0,0⟩,⟨17,0,0⟩]⟩
theorem vX:Ob.rightB lessL=true:=by kernel_rfl
theorem vu:(Vm.goes 31 10 (s0 lessL)).way=1:=by kernel_rfl
theorem lessL_out:(Vm.goes 31 10 (s0 lessL)).out=[3]:=by kernel_rfl
theorem lessL_p {p:O}(h:Vm.Stp lessL p):(Vm.goes 31 10 (s0 p)).way=1/\(Vm.goes 31 10 (s0 p)).out=[3]:=by
 rcases load_rel h rfl 10 with q|q
 ·rw[vu]at q
  unfold Vm.Bad at q
  omega
 ·exact⟨q.way.trans vu,q.out.trans lessL_out⟩
theorem call_rel {o p:O}(h:Vm.Stp o p) (hu:o.uses=[]) {vv:List (List Int)}(hS:Vm.Sh o vv) {j:Nat}{e e':Ob.En}(h1:o.procs[j]?=some e) (h2:p.procs[j]?=some e') (m n:Nat) {l:List Int}(hl:l.length<=10) (hm:Vm.Nm l):Vm.Bad (Vm.goes 30 n (sA o vv e.at'.toNat m l)).way\/Vm.Rb o p (Vm.goes 30 n (sA o vv e.at'.toNat m l)) (Vm.goes 30 n (sA p vv e'.at'.toNat m l)) :=
 h.call hu 30 n hS (f:=argF o e.at'.toNat m l) (g:=argF p e'.at'.toNat m l) rfl h.eq.nm rfl rfl rfl (xQ hl) (fun v hv=>by
  have hv:v∈l++zeros (10 - l.length):=hv
  rcases List.mem_append.1 hv with q|q
  ·exact hm v q
  ·exact nm_zeros _ v q) h1 h2 rfl rfl
theorem told_rel {o p:O}{s t:St}(h:Vm.Rb o p s t):toldS t=toldS s:=by
 unfold toldS
 exact h.tells.2.2
def sR (o:O) (vv:List (List Int)):St:=⟨thr o vv,[],[],[],0⟩
theorem MM.rest {c:Vx}{W:World}{s:St}{vv:List (List Int)}{fv sv ov:Value}(h:MM c W s vv fv sv ov):MM c W (sR c.O vv) vv (.slice none 0 0) (.slice none 0 0) (.slice none 0 0) :=
 ⟨h.be,h.pk,h.vk,rfl,h.vn,h.vm,World.ownsRow_nil _ _ _ _,World.ownsRow_nil _ _ _ _,World.ownsRow_nil _ _ _ _,fun b hb=>(by cases hb),Nat.zero_le _,fun v hv=>(by cases hv),Nat.zero_le _,fun v hv=>(by cases hv),Nat.zero_le _,Nat.zero_le _,fun f hf=>(by cases hf),fun b o hb=>⟨(h.ek b o hb).1,(h.ek b o hb).2.rows (yC (h.ek b o hb).1) (fun g q=>by cases q) fun g q=>by cases q⟩⟩
theorem MM.rest_on {c:Vx}{W w:World}{vv:List (List Int)}(h:MM c W (sR c.O vv) vv (.slice none 0 0) (.slice none 0 0) (.slice none 0 0)) (hb:Below W.heap.size W w):MM c w (sR c.O vv) vv (.slice none 0 0) (.slice none 0 0) (.slice none 0 0) :=
 ⟨h.be.trans (hb.mono h.be.size),(hb.block _ (zk h.pk)).trans h.pk,yq h.vk fun b cur _ hc=>hb.block b (zk hc),h.th,h.vn,fun i hi=>⟨(h.vm i hi).1,(hb.block _ (zk (h.vm i hi).2.1)).trans (h.vm i hi).2.1,(h.vm i hi).2.2⟩,World.ownsRow_nil _ _ _ _,World.ownsRow_nil _ _ _ _,World.ownsRow_nil _ _ _ _,h.dj,h.sl,h.si,h.ol,h.oi,h.fl,h.fm,fun f hf=>(by cases hf),fun b o q=>⟨(hb.block _ (yC (h.ek b o q).1)).trans (h.ek b o q).1,(h.ek b o q).2⟩⟩
def Vx.keep (c:Vx) (eb:Nat->Option Obj):Vx:={ c with eb:=eb }
theorem VxOk.keep {c:Vx}(ok:VxOk c) (eb:Nat->Option Obj):VxOk (c.keep eb):=⟨ok.oa,ok.rt,ok.i64,ok.us,ok.gb,ok.pb,ok.vb,ok.vs,ok.inj,ok.ml,ok.gm,ok.mrk⟩
theorem MM.keep {c:Vx}{W:World}{vv:List (List Int)}(h:MM c W (sR c.O vv) vv (.slice none 0 0) (.slice none 0 0) (.slice none 0 0)) {eb:Nat->Option Obj}(hk:∀ b o,eb b=some o->W.heap[b]?=some o/\Far c (.slice none 0 0) (.slice none 0 0) b o):MM (c.keep eb) W (sR c.O vv) vv (.slice none 0 0) (.slice none 0 0) (.slice none 0 0) :=
 ⟨h.be,h.pk,h.vk,h.th,h.vn,h.vm,h.fr,h.st,h.ou,h.dj,h.sl,h.si,h.ol,h.oi,h.fl,h.fm,fun f hf=>(by cases hf),hk⟩
def cutW (W:World) (n:Nat):World:={ W with heap:=W.heap.extract 0 n }
theorem yS {W:World}{n:Nat}(h:n<=W.heap.size):(cutW W n).heap.size=n:=by
 show (W.heap.extract 0 n).size=n
 simp
 omega
theorem cutW_at {W:World}{n b:Nat}(h:n<=W.heap.size) (hb:b<n):(cutW W n).heap[b]?=W.heap[b]?:=by
 show (W.heap.extract 0 n)[b]?=_
 rw[Array.getElem?_extract]
 simp
 omega
theorem below_cut {W:World}{n:Nat}(h:n<=W.heap.size):Below n (cutW W n) W:=⟨rfl,rfl,rfl,by rw[yS h];exact h,fun k hk=>(cutW_at h hk).symm⟩
theorem cut_below {wa W:World}{n:Nat}(h:Below wa.heap.size wa W) (h1:wa.heap.size<=n) (h2:n<=W.heap.size):Below wa.heap.size wa (cutW W n):=⟨h.os,h.tape,h.output,by rw[yS h2];exact h1,fun k hk=>(cutW_at h2 (Nat.lt_of_lt_of_le hk h1)).trans (h.block k hk)⟩
def Vx.based (c:Vx) (W:World):Vx:={ c with w0:=cutW W c.w0.heap.size,eb:=fun _=>none }
theorem VxOk.based {c:Vx}{W wa:World}(ok:VxOk c) (hn:c.w0.heap.size<=W.heap.size) (hoa:OA wa c.ob c.oo c.O) (hb:Below wa.heap.size wa W) (ha:wa.heap.size<=c.w0.heap.size) (hm:Mk8 wa):VxOk (c.based W):=by
 have hs:(cutW W c.w0.heap.size).heap.size=c.w0.heap.size:=yS hn
 have hb':=cut_below hb ha hn
 have hm':=hm.on hb'
 exact⟨hoa.below hb',ok.rt,ok.i64,ok.us,by rw[show (c.based W).w0.heap.size=c.w0.heap.size from hs];exact ok.gb,by rw[show (c.based W).w0.heap.size=c.w0.heap.size from hs];exact ok.pb,by rw[show (c.based W).w0.heap.size=c.w0.heap.size from hs];exact ok.vb,fun i hi=>by rw[show (c.based W).w0.heap.size=c.w0.heap.size from hs];exact ok.vs i hi,ok.inj,ok.ml,hm'.lt,hm'.at'⟩
theorem MM.based {c:Vx}{W W':World}{s:St}{vv:List (List Int)}{fv sv ov:Value}(h:MM c W s vv fv sv ov) (hn:c.w0.heap.size<=W'.heap.size) (hp:W'.heap[c.pb]?=W.heap[c.pb]?) (hv:W'.heap[c.vb]?=W.heap[c.vb]?) (hs:∀ i,i<c.O.vars.length->W'.heap[c.vs i]?=W.heap[c.vs i]?):MM (c.based W') W' (sR c.O vv) vv (.slice none 0 0) (.slice none 0 0) (.slice none 0 0) :=
 ⟨by rw[show (c.based W').w0.heap.size=c.w0.heap.size from yS hn];exact below_cut hn,hp.trans h.pk,yq h.vk fun b cur hb _=>by rw[hb];exact hv,rfl,h.vn,fun i hi=>⟨(h.vm i hi).1,(hs i (by rw[<-h.vn];exact hi)).trans (h.vm i hi).2.1,(h.vm i hi).2.2⟩,World.ownsRow_nil _ _ _ _,World.ownsRow_nil _ _ _ _,World.ownsRow_nil _ _ _ _,fun b hb=>(by cases hb),Nat.zero_le _,fun v hv=>(by cases hv),Nat.zero_le _,fun v hv=>(by cases hv),Nat.zero_le _,Nat.zero_le _,fun f hf=>(by cases hf),fun b o hb=>(by cases hb)⟩
theorem pick_all {α β:Type}(f:β->Option α) (p:β->α->Prop):∃ g:β->Option α,∀ b o,g b=some o↔f b=some o/\p b o:=by
 have key:∀ b,∃ r:Option α,∀ o,r=some o↔f b=some o/\p b o:=fun b=>by
  by_cases h:∃ o,f b=some o/\p b o
  ·obtain⟨o',h1,h2⟩:=h
   refine⟨some o',fun o=>⟨fun q=>?_,fun q=>?_⟩⟩
   ·cases q;exact⟨h1,h2⟩
   ·rw[<-h1];exact q.1
  ·exact⟨none,fun o=>⟨fun q=>(by cases q),fun q=>absurd ⟨o,q⟩ h⟩⟩
 exact⟨fun b=>Classical.choose (key b),fun b=>Classical.choose_spec (key b)⟩
theorem far_all (c:Vx) (W:World):∃ eb:Nat->Option Obj,∀ b o,eb b=some o↔W.heap[b]?=some o/\Far c (.slice none 0 0) (.slice none 0 0) b o:=pick_all (fun b=>W.heap[b]?) fun b o=>Far c (.slice none 0 0) (.slice none 0 0) b o
end Go.Proofs.YtmnedfdffbbchaaGreatDoor.Jo

namespace Go.Proofs.YtmnedfdffbbchaaGreatDoor.Jo
open Go.RowKit Go.Maps
open Ob (O In I64)
def CallB8 (W:World) (k:Nat) (e:Ending) (W':World):Prop:=e=.returned (.tuple #[.agg #[.int .i64 0,.slice none 0 0],.int .i64 0,.iface 30 (.int .i64 (k:Int))])/\Below W.heap.size W W'
def Ref8 (o:O) (x:Tp.Bs) (n k:Nat):Prop:=(fx8 o.syms x<0/\k=7)\/∃(i:Nat) (hi:i<o.syms.length),fx8 o.syms x=(i:Int)/\((o.syms[i].args<0/\k=7)\/(¬o.syms[i].args<0/\k=2/\(¬o.syms[i].args=(n:Int)\/(o.syms[i].args=(n:Int)/\(ix8 o.names x<0\/∃(j:Nat) (hj:j<o.procs.length),ix8 o.names x=(j:Int)/\¬o.procs[j].args=(n:Int))))))
theorem call8_fin {W w1 wz:World}{k:Nat}(hb:Below (W.alloc (.cells #[.int .i64 0,.slice none 0 0] 46)).heap.size (W.alloc (.cells #[.int .i64 0,.slice none 0 0] 46)) w1) (hz:wz=(w1.setCell ⟨W.heap.size,0,none⟩ (.int .i64 0)).setCell ⟨W.heap.size,1,none⟩ (.slice none 0 0)):CallB8 W k (.returned (.tuple #[.agg #[.int .i64 0,.slice none 0 0],.int .i64 0,.iface 30 (.int .i64 (k:Int))])) wz/\wz.cell? ⟨W.heap.size,0,none⟩=some (.int .i64 0)/\wz.cell? ⟨W.heap.size,1,none⟩=some (.slice none 0 0):=by
 obtain⟨⟨_,h1⟩,h2,h3⟩:=jE (k:=k) hb hz
 exact⟨⟨rfl,h1⟩,h2,h3⟩
theorem call8_no {c:Vx}{W:World}{s:Vm.St}{vv:List (List Int)}{fv sv ov:Value}{mb:Nat}{l:List Int}{sp:Option Addr}{lc:Nat}{x:Tp.Bs}(h:MM c W s vv fv sv ov) (ok:VxOk c) (hbl:∀ w,Below W.heap.size W w->MM c w s vv fv sv ov)
  (hm:W.heap[mb]?=some (.cells #[.map (some c.tb)] 44 (0,0))) (hmap:MapV W c.tb 1 (updV (fun _=>none) c.O.name (.pointer (some ⟨c.pb,0,none⟩)))) (hnl:c.O.name.length<=1000000) (hsl:c.O.syms.length<=1000) (hnn:c.O.names.length<=1000000)
  (hl:l.length<=10) {k:Nat} (hk:Ref8 c.O x l.length k) (fuel:Int) :
  Calls Tryz.prog 13 #[.pointer (some ⟨mb,0,none⟩),.string (bs c.O.name),.string (bs x),.slice sp l.length lc,.int .i64 fuel] W (CallB8 W k):=by
 obtain⟨w0,hw0⟩:∃ w0,w0=W.alloc (.cells #[.int .i64 0,.slice none 0 0] 46):=⟨_,rfl⟩
 have hb0:Below W.heap.size W w0:=by rw[hw0];exact zb _ _
 have hm0:=(hb0.block _ (zk hm)).trans hm
 have hmap0:=hmap.on (hb0.block _ hmap.lt)
 have hlk:(Instr.lookup 42 (.map (some c.tb)) (.string (bs c.O.name)) false).run Tryz.prog w0=.ok (.pointer (some ⟨c.pb,0,none⟩)) w0:=by
  have:=hmap0.look (t:=42) (e:=81) Tryz.underlying42 (z:=.pointer none) (by kernel_rfl) c.O.name hnl false
  simp[updV]at this
  exact this
 have k0:w0.cell? ⟨mb,0,none⟩=some (.map (some c.tb)):=(zc hm0).trans rfl
 have hml:mb<w0.heap.size:=zk hm0
 have hp0:=(hb0.block _ (zk h.pk)).trans h.pk
 have kp:w0.cell? ⟨c.pb,0,none⟩=some (.pointer (some ⟨c.ob,c.oo,none⟩)):=(zc hp0).trans rfl
 have hpl:c.pb<w0.heap.size:=zk hp0
 obtain⟨sa,ua,va,pa,na,ca,sc,uc,vc,pc,nc,cc,hv⟩:=ok.oa.below (h.be.trans (hb0.mono h.be.size))
 have k1:=hv.c1
 have hol:c.ob<w0.heap.size:=zi k1
 have HFI:=zh (find8 hv.s hsl x)
 have HH:=zh h
 have HOK:=zh ok
 have HK0:Hid (w0.heap[W.heap.size]?=some (.cells #[.int .i64 0,.slice none 0 0] 46 (0,0))):=by rw[hw0];exact zw _ _
 have hl':(l.length:Int)<=10:=by omega
 have HB0:=zh hb0
 have HW0:=zh hw0
 have HPR:Hid (∀ w,Below W.heap.size W w->Calls Tryz.prog 39 #[.pointer (some ⟨c.pb,0,none⟩),.string (bs x)] w fun e W'=>e=.returned (.int .i64 (ix8 c.O.names x))/\W'=w):=fun w hb=>proc8 (hbl _ hb) ok x hnn
 have HRF:=zh hk
 have HFIN:Hid (∀ w1,Below w0.heap.size w0 w1->(w1.cell? ⟨W.heap.size,0,none⟩=some (.int .i64 0)/\w1.cell? ⟨W.heap.size,1,none⟩=some (.slice none 0 0)/\w1.frozen? ⟨W.heap.size,0,none⟩=false/\w1.frozen? ⟨W.heap.size,1,none⟩=false/\W.heap.size<w1.heap.size)/\∀ wz,wz=(w1.setCell ⟨W.heap.size,0,none⟩ (.int .i64 0)).setCell ⟨W.heap.size,1,none⟩ (.slice none 0 0)->CallB8 W k (.returned (.tuple #[.agg #[.int .i64 0,.slice none 0 0],.int .i64 0,.iface 30 (.int .i64 (k:Int))])) wz/\wz.cell? ⟨W.heap.size,0,none⟩=some (.int .i64 0)/\wz.cell? ⟨W.heap.size,1,none⟩=some (.slice none 0 0)):=fun w1 hb1=>by
  have hx1:=(hb1.block _ (zk HK0.out)).trans HK0.out
  refine⟨⟨(zc hx1).trans rfl,(zc hx1).trans rfl,zr hx1,zr hx1,zk hx1⟩,fun wz hz=>?_⟩
  rw[HW0.out]at hb1
  exact call8_fin hb1 hz
 clear h ok hb0 hm hm0 hmap hmap0 hv hp0 hbl hk
 go_enter Tryz.func13,Tryz.ntmps13
 go_upto_region 1 with fail
 rw[<-hw0]
 clear hw0 HW0
 go_wp2_with fail
 refine HFI.out.mono ?_
 rintro e w1 ⟨rfl,hb1⟩
 have HB1:Hid (Below w0.heap.size w0 w1):=hb1
 have hbW:Below W.heap.size W w1:=HB0.out.trans (hb1.mono HB0.out.size)
 have hpk1:=(hbW.block _ (zk HH.out.pk)).trans HH.out.pk
 have kp1:w1.cell? ⟨c.pb,0,none⟩=some (.pointer (some ⟨c.ob,c.oo,none⟩)):=(zc hpk1).trans rfl
 have hpl1:c.pb<w1.heap.size:=zk hpk1
 obtain⟨⟨x0,x1,z0,z1,hxl⟩,hfn⟩:=HFIN.out w1 hb1
 have HFN:=zh (hfn _ rfl)
 clear hlk k0 kp k1 hml hpl hol hpk1 hfn HFIN
 rcases HRF.out with⟨hneg,hk7⟩|⟨i,hi,hx,hrest⟩
 ·subst hk7
  generalize fx8 c.O.syms x=fi at *
  clear hb1 hbW
  go_wp2_with fail
  obtain⟨hr,f0',f1'⟩:=HFN.out
  exact bodyPost_ret (v:=.tuple #[.agg #[.int .i64 0,.slice none 0 0],.int .i64 0,.iface 30 (.int .i64 7)]) (by simp[results,Tryz.results13,go_sem,f0',f1']) rfl hr
 ·obtain⟨sa1,ua1,va1,pa1,na1,ca1,sc1,uc1,vc1,pc1,nc1,cc1,hv1⟩:=HOK.out.oa.below (HH.out.be.trans (hbW.mono HH.out.be.size))
  have k11:=hv1.c1
  have k14:=hv1.c4
  have hol1:c.ob<w1.heap.size:=zi k11
  obtain⟨sb,so,rfl,hsb,hsc⟩:=Sl.at' kI (by omega) hv1.s i hi
  obtain⟨ar,har⟩:∃ ar,ar=c.O.syms[i].args:=⟨_,rfl⟩
  have ks:w1.cell? ⟨sb,so+i * 3+2,none⟩=some (.int .i64 ar):=by
   have:=hsc 2 _ rfl
   rw[har]
   simpa[Nat.add_assoc] using this
  have hil:(i:Int)<(c.O.syms.length:Int):=by omega
  have hi0:¬(i:Int)<0:=by omega
  rw[<-har]at hrest
  rw[hx]
  have HV1:=zh hv1.p
  clear hb1 hv1 hsc har hx
  rcases hrest with⟨hneg,hk7⟩|⟨hnn',hk2,hrest⟩
  ·subst hk7
   clear hbW
   go_wp2_with fail
   obtain⟨hr,f0',f1'⟩:=HFN.out
   exact bodyPost_ret (v:=.tuple #[.agg #[.int .i64 0,.slice none 0 0],.int .i64 0,.iface 30 (.int .i64 7)]) (by simp[results,Tryz.results13,go_sem,f0',f1']) rfl hr
  ·subst hk2
   have HPW:=zh (HPR.out w1 hbW)
   clear hbW HPR
   rcases hrest with hne|⟨he,hj⟩
   ·generalize ix8 c.O.names x=ji at *
    go_wp2_with fail
    refine HPW.out.mono ?_
    rintro e w2 ⟨rfl,rfl⟩
    go_wp2_with fail
    obtain⟨hr,f0',f1'⟩:=HFN.out
    exact bodyPost_ret (v:=.tuple #[.agg #[.int .i64 0,.slice none 0 0],.int .i64 0,.iface 30 (.int .i64 2)]) (by simp[results,Tryz.results13,go_sem,f0',f1']) rfl hr
   ·rcases hj with hj|⟨j,hjl,hjx,hja⟩
    ·generalize ix8 c.O.names x=ji at *
     go_wp2_with fail
     refine HPW.out.mono ?_
     rintro e w2 ⟨rfl,rfl⟩
     go_wp2_with fail
     obtain⟨hr,f0',f1'⟩:=HFN.out
     exact bodyPost_ret (v:=.tuple #[.agg #[.int .i64 0,.slice none 0 0],.int .i64 0,.iface 30 (.int .i64 2)]) (by simp[results,Tryz.results13,go_sem,f0',f1']) rfl hr
    ·obtain⟨pbb,pso,rfl,hpb',hpc⟩:=Sl.at' jK (by omega) HV1.out j hjl
     obtain⟨aj,haj⟩:∃ aj,aj=c.O.procs[j].args:=⟨_,rfl⟩
     have kj:w1.cell? ⟨pbb,pso+j * 3+1,none⟩=some (.int .i64 aj):=by
      have:=hpc 1 _ rfl
      rw[haj]
      simpa[Nat.add_assoc] using this
     rw[<-haj]at hja
     have hjl:(j:Int)<(c.O.procs.length:Int):=by omega
     have hj0:¬(j:Int)<0:=by omega
     rw[hjx]at HPW
     have hjb:(aj != (l.length:Int))=true:=by simpa using hja
     clear hpc haj hjx HV1
     go_wp2_with fail
     refine HPW.out.mono ?_
     rintro e w2 ⟨rfl,rfl⟩
     go_wp2_with fail
     obtain⟨hr,f0',f1'⟩:=HFN.out
     exact bodyPost_ret (v:=.tuple #[.agg #[.int .i64 0,.slice none 0 0],.int .i64 0,.iface 30 (.int .i64 2)]) (by simp[results,Tryz.results13,go_sem,f0',f1']) rfl hr
end Go.Proofs.YtmnedfdffbbchaaGreatDoor.Jo

namespace Go.Proofs.YtmnedfdffbbchaaGreatDoor.Jo
open Go.RowKit Go.Maps
open Ob (O In I64)
open Vm (St Fr Pl)
theorem lessL_bd:Bd lessL:=⟨by simp[lessL],by simp[lessL],by simp[lessL],by simp[lessL],by simp[lessL],by simp[lessL],by simp[lessL],by simp[lessL],by simp[lessL],by simp[lessL],by simp[lessL],by
 intro x hx
 simp only [lessL,List.mem_cons,List.not_mem_nil,or_false]at hx
 unfold Ob.I64
 rcases hx with h|h|h|h|h <;> (subst h;simp)⟩
theorem stp_bd {o p:O}(h:Vm.Stp o p) (hB:Bd o):Bd p:=⟨by rw[h.eq.nm];exact hB.nm,by rw[h.eq.sy];exact hB.sl,by rw[h.eq.sy];exact hB.s,by rw[h.eq.us];exact hB.ul,by rw[h.eq.us];exact hB.u,by rw[h.eq.vr];exact hB.vl,by rw[h.eq.vr];exact hB.v,by rw[h.eq.pl];exact hB.pl,by rw[h.eq.ns];exact hB.nl,by rw[h.eq.ns];exact hB.n,Nat.le_trans h.le hB.cl,h.rg.i⟩
theorem xW (w:World) (k:Nat):Sl w (.slice none 0 0) k 0 []:=⟨none,0,rfl,by simp,fun j u h=>by simp at h⟩
theorem lessL_ov {w w1 w2:World}(h1:w1.heap[w.heap.size]?=some (.cells (cellsOf inC lessL.code).toArray 68 (0,0))) (hb:Below w1.heap.size w1 w2) (h2:w2.heap[w1.heap.size]?=some (.cells #[.string (bs [109]),.slice none 0 0,.slice none 0 0,.slice none 0 0,.slice none 0 0,.slice none 0 0,.slice (some ⟨w.heap.size,0,none⟩) 5 5] 40 (0,0))):OV w2 w1.heap.size 0 lessL none none none none none (some ⟨w.heap.size,0,none⟩) 0 0 0 0 0 5:=by
 have h1':=(hb.block _ (zk h1)).trans h1
 refine⟨(zc h2).trans rfl,(zc h2).trans rfl,(zc h2).trans rfl,(zc h2).trans rfl,(zc h2).trans rfl,(zc h2).trans rfl,(zc h2).trans rfl,xW _ _,⟨[],rfl,xW _ _⟩,xW _ _,xW _ _,xW _ _,⟨_,_,rfl,rfl,fun j u hj=>⟨w.heap.size,0,rfl,?_⟩⟩⟩
 rw[zc h1',Nat.zero_add,List.getElem?_toArray]
 exact hj
theorem lessL_len:lessL.code.length=5:=rfl
theorem lessL_uses:lessL.uses=[]:=rfl
theorem less_le {p:O}(h:Vm.Stp lessL p):(p.code.length:Int)<=5:=by
 have h1:=h.le
 rw[lessL_len]at h1
 omega
theorem less_load {w3 w5:World}{ob:Nat}{p:O}(hst:Vm.Stp lessL p) (hoa:OA w3 ob 0 p) (hm3:Mk8 w3) (hb5:Below w3.heap.size w3 w5) (hk5:w5.heap[w3.heap.size]?=some (.cells #[.map none] 44 (0,0))):Calls Tryz.prog 11 #[.pointer (some ⟨w3.heap.size,0,none⟩),.pointer (some ⟨ob,0,none⟩),.int .i64 ((10:Nat):Int)] w5 (LoadP8 w5 w3.heap.size p 10):=by
 have hu:p.uses=[]:=hst.eq.us.trans lessL_uses
 refine(jF hoa hb5 zn hk5 hm3.lt hm3.at' (stp_bd hst lessL_bd) hst.rg.i 10 (by omega)).mono ?_
 intro e W' h
 unfold LoadN at h
 rw[if_pos hst.rg.r,if_pos hu]at h
 exact h
def LessQ (w:World) (o:O) (e:Ending) (w':World):Prop:=Below w.heap.size w w'/\∃ p ob,e=.returned (.tuple #[.pointer (some ⟨ob,0,none⟩),.nilIface])/\Vm.Stp o p/\OA w' ob 0 p
theorem less_yes {w:World}{o:O}(hr:Ob.rightB o=true) {e:Ending}{w':World}(h:LessP w o e w'):LessQ w o e w':=⟨h.1,(h.2.resolve_left fun q=>Bool.noConfusion (hr.symm.trans q.1)).2⟩
theorem kX {w:World}(hm:Mk8 w):Calls Tryz.prog 5 #[] w fun e w'=>e=.returned (.bool true)/\Below w.heap.size w w':=by
 obtain⟨w1,hw1⟩:∃ w1,w1=w.alloc (.cells (cellsOf inC lessL.code).toArray 68):=⟨_,rfl⟩
 have hb1:Below w.heap.size w w1:=by rw[hw1];exact zb _ _
 obtain⟨w2,hw2⟩:∃ w2,w2=w1.alloc (.cells #[.string (bs [109]),.slice none 0 0,.slice none 0 0,.slice none 0 0,.slice none 0 0,.slice none 0 0,.slice (some ⟨w.heap.size,0,none⟩) 5 5] 40):=⟨_,rfl⟩
 have hb2:Below w1.heap.size w1 w2:=by rw[hw2];exact zb _ _
 have hov:OV w2 w1.heap.size 0 lessL none none none none none (some ⟨w.heap.size,0,none⟩) 0 0 0 0 0 5:=lessL_ov (by rw[hw1];exact zw w _) hb2 (by rw[hw2];exact zw w1 _)
 have hbw2:Below w.heap.size w w2:=hb1.trans (hb2.mono hb1.size)
 obtain⟨ol,hol⟩:∃ ol,ol=lessL:=⟨_,rfl⟩
 have HLE:=zh ((xH hov lessL_bd (hm.on hbw2)).mono fun e w' h=>less_yes vX h)
 rw[<-hol]at HLE
 have HOL:=zh hol
 have HM:=zh hm
 have HB2:=zh hbw2
 have HS1:Hid (w1.heap.size=w.heap.size+1):=by show w1.heap.size=_;rw[hw1];show (w.heap.push _).size=_;rw[Array.size_push]
 have HW1:Hid (w1=w.alloc (.cells #[.int .i64 1,.int .i64 1,.int .i64 0,.int .i64 1,.int .i64 2,.int .i64 0,.int .i64 9,.int .i64 0,.int .i64 0,.int .i64 16,.int .i64 0,.int .i64 0,.int .i64 17,.int .i64 0,.int .i64 0] 68)):=hw1
 have HW2:Hid (w2=w1.alloc (.cells #[.string ⟨#[109]⟩,.slice none 0 0,.slice none 0 0,.slice none 0 0,.slice none 0 0,.slice none 0 0,.slice (some ⟨w.heap.size,0,none⟩) 5 5] 40)):=hw2
 clear hm hw1 hb1 hw2 hb2 hov hbw2 hol
 go_enter Tryz.func5,Tryz.ntmps5
 go_upto_region 2 with fail
 rw[<-HW1.out]
 try rw[<-HW2.out]
 go_wp2_with fail
 rw[<-HS1.out]
 refine HLE.out.mono ?_
 rintro e w3 ⟨hb3,p,ob,rfl,hst,hoa⟩
 rw[HOL.out]at hst
 have HB3:Hid (Below w.heap.size w w3):=HB2.out.trans (hb3.mono HB2.out.size)
 have HST:=zh hst
 have HOA:=zh hoa
 obtain⟨sa,ua,va,pa,na,ca,sc,uc,vc,pc,nc,cc,hov⟩:=hoa
 have k6:=hov.c6
 have lo:=zi k6
 have hle:=less_le hst
 obtain⟨w5,hw5⟩:∃ w5,w5=w3.alloc (.cells #[.map none] 44):=⟨_,rfl⟩
 have hb5:Below w3.heap.size w3 w5:=by rw[hw5];exact zb _ _
 have hk5:w5.heap[w3.heap.size]?=some (.cells #[.map none] 44 (0,0)):=by rw[hw5];exact zw _ _
 have HB5:Hid (Below w.heap.size w w5):=HB3.out.trans (hb5.mono HB3.out.size)
 have HB35:Hid (w3.heap.size<=w5.heap.size):=hb5.size
 have hm3:=HM.out.on HB3.out
 have HL:=zh (less_load hst HOA.out hm3 hb5 hk5)
 generalize p.code.length=pl at *
 clear hb3 hst hov HLE hb5 hk5 hm3 HW1 HW2
 go_upto_region 6 with fail
 rw[<-hw5]
 clear hw5
 go_wp2_with fail
 refine HL.out.mono ?_
 rintro e w6 ⟨c,oa,oc,rfl,ok,hO,hgb,hcw,hmv,how,hold,hmb6,hmap,hb06,hcv⟩
 obtain⟨ew',eo⟩:=lessL_p HST.out
 have ew:((Vm.goes 31 10 (s0 p)).way:Int)=1:=by rw[ew'];rfl
 rw[eo]at how
 rw[ew,eo]
 obtain⟨hia,hoc⟩:=own_ints how
 obtain⟨w7,hw7⟩:∃ w7,w7=w6.alloc (.cells #[.int .i64 1,.slice oa 1 oc] 46):=⟨_,rfl⟩
 have hb7:Below w6.heap.size w6 w7:=by rw[hw7];exact zb _ _
 have hk7:w7.heap[w6.heap.size]?=some (.cells #[.int .i64 1,.slice oa 1 oc] 46 (0,0)):=by rw[hw7];exact zw _ _
 obtain⟨w8,hw8⟩:∃ w8,w8=w7.alloc (.cells #[.int .i64 3] 2):=⟨_,rfl⟩
 have hb8:Below w7.heap.size w7 w8:=by rw[hw8];exact zb _ _
 have hk8:w8.heap[w7.heap.size]?=some (.cells #[.int .i64 3] 2 (0,0)):=by rw[hw8];exact zw _ _
 have hb68:Below w6.heap.size w6 w8:=hb7.trans (hb8.mono hb7.size)
 have HEQ:Hid (Calls Tryz.prog 22 #[.slice oa 1 oc,.slice (some ⟨w7.heap.size,0,none⟩) 1 1] w8 fun e w'=>e=.returned (.bool true)/\Below w8.heap.size w8 w'):=by
  have h2:IntsAt w8 [3] (some ⟨w7.heap.size,0,none⟩):=⟨fun i hi=>by
   have:i=0:=by simp at hi;omega
   subst this
   exact⟨w7.heap.size,0,rfl,zk hk8,(zc hk8).trans rfl⟩⟩
  exact ieq_post (c1:=oc) (c2:=1) (hia.on hb68) h2 (by simp)
 have h35:w3.heap.size<=w5.heap.size:=HB35.out
 have h56:Below w.heap.size w5 w6:=⟨hb06.os,hb06.tape,hb06.output,hb06.size,fun b hb=>hold b (Nat.lt_of_lt_of_le hb HB5.out.size) (by have:=HB3.out.size;omega)⟩
 have HB8:Hid (Below w.heap.size w w8):=(HB5.out.trans h56).trans (hb68.mono (HB5.out.trans h56).size)
 have e0:w7.cell? ⟨w6.heap.size,0,none⟩=some (.int .i64 1):=(zc hk7).trans rfl
 have e1:w7.cell? ⟨w6.heap.size,1,none⟩=some (.slice oa 1 oc):=(zc hk7).trans rfl
 have el:=zk hk7
 have HW8:=zh hw8
 clear how hold hmb6 hmap hb06 hcv hmv hcw hgb hO ok hia hoc hb7 hk7 hb8 hk8 hb68 h35 h56 ew eo ew' HL HOA HST hw8
 go_upto_region 7 with fail
 rw[<-hw7]
 clear hw7
 go_wp2_with fail
 try rw[<-HW8.out]
 refine HEQ.out.mono ?_
 rintro e w9 ⟨rfl,hb9⟩
 have HB9:Hid (Below w.heap.size w w9):=HB8.out.trans (hb9.mono HB8.out.size)
 clear hb9 HEQ
 go_wp2_with fail
 go_ret
 exact⟨rfl,HB9.out⟩
structure Bx (n:Nat) (w w':World):Prop where
 os:w'.os=w.os
 tape:w'.tape=w.tape
 output:w'.output=w.output
 size:n<=w'.heap.size
 block:∀ k,k<n->w'.heap[k]?=w.heap[k]?
theorem bx_of {n:Nat}{w w':World}(h:Below n w w') (hn:n<=w.heap.size):Bx n w w':=⟨h.os,h.tape,h.output,Nat.le_trans hn h.size,h.block⟩
theorem Bx.mono {n m:Nat}{a b:World}(h:Bx n a b) (hm:m<=n):Bx m a b:=⟨h.os,h.tape,h.output,Nat.le_trans hm h.size,fun i hi=>h.block i (by omega)⟩
theorem Bx.after {B:Nat}{w w' w'':World}(h:Below B w w') (k:Bx B w' w'') (hw:w.heap.size<=B):Below B w w'':=⟨k.os.trans h.os,k.tape.trans h.tape,k.output.trans h.output,Nat.le_trans hw k.size,fun i hi=>(k.block i hi).trans (h.block i hi)⟩
def Mine (mb:Nat) (c:Vx) (b:Nat):Prop:=b=mb\/b=c.pb\/b=c.vb\/b=c.tb\/∃ i,i<c.O.vars.length/\b=c.vs i
structure RM (wa W:World) (mb:Nat) (o:O) (vv:List (List Int)) (c:Vx):Prop where
 ok:VxOk c
 hO:c.O=o
 mm:MM c W (sR c.O vv) vv (.slice none 0 0) (.slice none 0 0) (.slice none 0 0)
 vb:c.vb<W.heap.size
 vt:c.vb=c.pb\/∃ cur,W.heap[c.vb]?=some (.cells cur 23 (0,0))
 mbk:W.heap[mb]?=some (.cells #[.map (some c.tb)] 44 (0,0))
 mp:MapV W c.tb 1 (updV (fun _=>none) o.name (.pointer (some ⟨c.pb,0,none⟩)))
 oa:OA wa c.ob c.oo o
 mr:Mk8 wa
 ba:Below wa.heap.size wa W
 lo:wa.heap.size<=c.w0.heap.size
theorem lt_same {w w':World}{b:Nat}(h:b<w.heap.size) (k:w'.heap[b]?=w.heap[b]?):b<w'.heap.size:=yC (k.trans (Array.getElem?_eq_getElem h))
theorem RM.sz {wa W W':World}{mb:Nat}{o:O}{vv:List (List Int)}{c:Vx}(h:RM wa W mb o vv c) (hp:W'.heap[c.pb]?=W.heap[c.pb]?):c.w0.heap.size<=W'.heap.size:=Nat.le_trans h.ok.pb.1 (Nat.le_of_lt (zk (hp.trans h.mm.pk)))
theorem RM.move {wa W W':World}{mb:Nat}{o:O}{vv:List (List Int)}{c:Vx}(h:RM wa W mb o vv c) (hb:Below wa.heap.size wa W') (hk:∀ b,Mine mb c b->W'.heap[b]?=W.heap[b]?):RM wa W' mb o vv (c.based W'):=by
 have hp:=hk c.pb (Or.inr (Or.inl rfl))
 have hv:=hk c.vb (Or.inr (Or.inr (Or.inl rfl)))
 have ht:=hk c.tb (Or.inr (Or.inr (Or.inr (Or.inl rfl))))
 have hn:=h.sz hp
 exact⟨h.ok.based hn (by rw[h.hO];exact h.oa) hb h.lo h.mr,h.hO,h.mm.based hn hp hv fun i hi=>hk _ (Or.inr (Or.inr (Or.inr (Or.inr ⟨i,hi,rfl⟩)))),lt_same h.vb hv,h.vt.imp id fun ⟨cur,q⟩=>⟨cur,hv.trans q⟩,(hk mb (Or.inl rfl)).trans h.mbk,h.mp.on ht,h.oa,h.mr,hb,by rw[show (c.based W').w0.heap.size=c.w0.heap.size from yS hn];exact h.lo⟩
theorem RM.sh {wa W:World}{mb:Nat}{o:O}{vv:List (List Int)}{c:Vx}(h:RM wa W mb o vv c):Vm.Sh o vv:=by
 refine⟨by rw[h.mm.vn,h.hO],fun l hl=>?_⟩
 obtain⟨i,hi,rfl⟩:=List.getElem_of_mem hl
 obtain⟨a1,_,a3⟩:=h.mm.vm i hi
 refine⟨fun q=>?_,fun v hv=>?_⟩
 ·rw[q]at a1
  unfold Vx.vl at a1
  have a1:0=(max 1 _:Int).toNat:=a1
  omega
 ·have:=a3 v hv
  unfold Ob.I64 at this
  unfold Tp.I64
  omega
def erV (k:Nat):Value:=if k=0 then .nilIface else .iface 30 (.int .i64 (k:Int))
structure LQ (W:World) (mb:Nat) (o:O) (s:St) (k:Nat) (oa:Option Addr) (W':World):Prop where
 it:IntsAt W' s.out oa
 ol:s.out.length<=200
 ext:Ext mb W W'
 rm:k=0->∃ wb c vv,RM wb W' mb o vv c/\wb.heap.size<=mb/\c.w0.heap.size=W.heap.size/\s.there=thr o vv
def LoQ (W:World) (mb:Nat) (o:O) (s:St) (k:Nat) (e:Ending) (W':World):Prop:=∃ oa oc,e=.returned (.tuple #[.agg #[.int .i64 (s.way:Int),.slice oa s.out.length oc],erV k])/\LQ W mb o s k oa W'
theorem loadP_lo {W W':World}{mb:Nat}{o:O}{fuel:Nat}{e:Ending}(h:LoadP8 W mb o fuel e W'):LoQ W mb o (Vm.goes 31 fuel (s0 o)) 0 e W':=by
 obtain⟨c,oa,oc,rfl,ok,hO,hgb,hcw,hmv,how,hold,hmb,hmap,hb0,hcv,hvt,wb,hoa,hbw,hwm,hG,hM⟩:=h
 obtain⟨vv,fv,sv,ov,hm,hg⟩:=hmv
 refine⟨oa,oc,rfl,(own_ints how).1,hm.ol,⟨hb0.os,hb0.tape,hb0.output,hb0.size,hold⟩,fun _=>⟨wb,c,vv,⟨ok,hO,hm.rest,hcv,hvt,hmb,hmap,hoa,⟨hG,hM⟩,⟨hb0.os.trans hbw.os,hb0.tape.trans hbw.tape,hb0.output.trans hbw.output,Nat.le_trans hbw.size hb0.size,fun k hk=>(hold k (Nat.lt_of_lt_of_le hk hbw.size) (by omega)).trans (hbw.block k hk)⟩,by rw[hcw];exact hbw.size⟩,hwm,hcw,hm.th.trans (by rw[hO])⟩⟩
def sNo:St:=⟨fun _=>none,[],[],[],0⟩
theorem loadB_lo {W W':World}{mb k:Nat}{o:O}{e:Ending}(hk:k≠0) (h:LoadB8 W k e W'):LoQ W mb o sNo k e W':=by
 obtain⟨rfl,hb⟩:=h
 refine⟨none,0,by rw[erV,if_neg hk];rfl,⟨fun i hi=>by cases hi⟩,Nat.zero_le _,⟨hb.os,hb.tape,hb.output,hb.size,fun b q _=>hb.block b q⟩,fun q=>absurd q hk⟩
structure CR (W:World) (c:Vx) (out:List Int) (oa:Option Addr) (oc:Nat) (W':World):Prop where
 own:W'.ownsRow W.heap.size 2 1 (.slice oa out.length oc) out.length (ints out)
 ol:out.length<=200
 keep:∀ b ob,W.heap[b]?=some ob->Far c (.slice none 0 0) (.slice none 0 0) b ob->W'.heap[b]?=some ob
 bx:Bx c.w0.heap.size W W'
def CallQ (W:World) (c:Vx) (way:Nat) (told:Int) (out:List Int) (k:Nat) (e:Ending) (W':World):Prop:=∃ oa oc,e=.returned (.tuple #[.agg #[.int .i64 (way:Int),.slice oa out.length oc],.int .i64 told,erV k])/\CR W c out oa oc W'
def Good8 (o:O) (x:Tp.Bs) (n j:Nat):Prop:=∃(i:Nat) (hi:i<o.syms.length) (hj:j<o.procs.length),fx8 o.syms x=(i:Int)/\o.syms[i].args=(n:Int)/\ix8 o.names x=(j:Int)/\o.procs[j].args=(n:Int)
structure Rx (o:O):Prop where
 nm:o.name.length<=10
 sy:o.syms.length<=20
 ns:o.names.length<=10
 nl:o.names.length=o.procs.length
 pr:∀ e∈o.procs,0<=e.at'/\e.at'.toNat<o.code.length/\0<=e.locals/\e.locals<=10
theorem right_rx {o:O}(h:Ob.rightB o=true):Rx o:=by
 unfold Ob.rightB Ob.headB Ob.procsB at h
 simp only [Bool.and_eq_true,decide_eq_true_eq]at h
 obtain⟨⟨h1,h2,_,_⟩,⟨h5,h6,h7⟩,_⟩:=h
 refine⟨Ob.nameB_len h1,(Ob.allB_le h2).1,(Ob.allB_le h7).1,h6,fun e he=>?_⟩
 have:=(Ob.allB_le h5).2 e he
 unfold Ob.entB Ob.countsB at this
 simp only [Bool.and_eq_true,decide_eq_true_eq]at this
 omega
theorem RM.call_no {wa W:World}{mb:Nat}{o:O}{vv:List (List Int)}{c:Vx}(h:RM wa W mb o vv c) (hr:Rx o) {l:List Int}(hl:l.length<=10) {x:Tp.Bs}{k:Nat}(hk:Ref8 o x l.length k) (hk0:k≠0) (sp:Option Addr) (lc:Nat) (fuel:Int) :
  Calls Tryz.prog 13 #[.pointer (some ⟨mb,0,none⟩),.string (bs o.name),.string (bs x),.slice sp l.length lc,.int .i64 fuel] W (CallQ W c 0 0 [] k):=by
 have hO:=h.hO
 subst hO
 refine(call8_no (sp:=sp) (lc:=lc) h.mm h.ok (fun w hb=>h.mm.rest_on hb) h.mbk h.mp (by have:=hr.nm;omega) (by have:=hr.sy;omega) (by have:=hr.ns;omega) hl hk fuel).mono ?_
 rintro e W' ⟨rfl,hb⟩
 refine⟨none,0,by rw[erV,if_neg hk0];rfl,World.ownsRow_nil _ _ _ _,Nat.zero_le _,fun b ob h1 _=>(hb.block b (yC h1)).trans h1,?_⟩
 exact(bx_of hb zn).mono h.mm.be.size
theorem own_low {w:World}{base base' e size n:Nat}{v:Value}{xs:List Value}(h:w.ownsRow base e size v n xs) (hb:base'<=base):w.ownsRow base' e size v n xs:=by
 refine⟨h.1,?_⟩
 rcases h.2 with q|⟨g,cap,cur,q0,q1,q2⟩
 ·exact Or.inl q
 ·exact Or.inr ⟨g,cap,cur,q0,Nat.le_trans hb q1,q2⟩
theorem RM.call_ok {wa W:World}{mb:Nat}{o:O}{vv:List (List Int)}{c:Vx}(h:RM wa W mb o vv c) (hr:Rx o) {l:List Int}(hl:l.length<=10) (h64:∀ v∈l,I64 v) {x:Tp.Bs}{j:Nat}{en:Ob.En}(he:o.procs[j]?=some en) (hg:Good8 o x l.length j) {sp:Option Addr}(ha:Args8 W sp l) (lc:Nat) (fuel:Nat) (hfu:fuel<=1000000) :
  Calls Tryz.prog 13 #[.pointer (some ⟨mb,0,none⟩),.string (bs o.name),.string (bs x),.slice sp l.length lc,.int .i64 (fuel:Int)] W (CallQ W c (Vm.goes 30 fuel (sA o vv en.at'.toNat en.locals.toNat l)).way (toldS (Vm.goes 30 fuel (sA o vv en.at'.toNat en.locals.toNat l))) (Vm.goes 30 fuel (sA o vv en.at'.toNat en.locals.toNat l)).out 0):=by
 have hO:=h.hO
 subst hO
 obtain⟨i,hi,hj,g1,g2,g3,g4⟩:=hg
 have ej:c.O.procs[j]=en:=by
  rw[List.getElem?_eq_getElem hj]at he
  exact Option.some.inj he
 obtain⟨p1,p2,p3,p4⟩:=hr.pr en (List.mem_of_getElem? he)
 obtain⟨eb,heb⟩:=far_all c W
 have hmk:=h.mm.keep (eb:=eb) fun b ob q=>(heb b ob).1 q
 refine(call8 (c:=c.keep eb) (lc:=lc) (i:=i) (j:=j) (at':=en.at'.toNat) (many:=en.locals.toNat) (l:=l) (x:=x) (sp:=sp) hmk (h.ok.keep eb) (fun w hb=>hmk.rest_on hb) h.vb h.mbk h.mp (by have:=hr.nm;show c.O.name.length<=_;omega) (by have:=hr.sy;show c.O.syms.length<=_;omega) (by have:=hr.ns;show c.O.names.length<=_;omega) g1 hi g2 g3 hj g4 (by show c.O.procs[j].at'=_;rw[ej];omega) (by show c.O.procs[j].locals=_;rw[ej];omega) ha hl h64 (by omega) p2 fuel hfu).mono ?_
 rintro e W' ⟨gb,oa,oc,hgb,rfl,ok',hmv,how⟩
 obtain⟨vv',fv',sv',ov',hm,_⟩:=hmv
 have be1:Below c.w0.heap.size c.w0 W':=hm.be
 have be0:=h.mm.be
 exact⟨oa,oc,rfl,own_low how (by omega),hm.ol,fun b ob q1 q2=>(hm.ek b ob ((heb b ob).2 ⟨q1,q2⟩)).1,be1.os.trans be0.os.symm,be1.tape.trans be0.tape.symm,be1.output.trans be0.output.symm,be1.size,fun k hk=>(be1.block k hk).trans (be0.block k hk).symm⟩
theorem eqh_ref {o p:O}(q:Vm.Eqh o p) {x:Tp.Bs}{n k:Nat}(h:Ref8 o x n k):Ref8 p x n k:=by
 obtain⟨n1,s1,u1,v1,p1,m1,c1⟩:=o
 obtain⟨n2,s2,u2,v2,p2,m2,c2⟩:=p
 obtain⟨q1,q2,q3,q4,q5,q6,q7⟩:=q
 dsimp only at q1 q2 q3 q4 q5 q6 q7
 subst q1 q2 q5
 refine h.imp id fun ⟨i,hi,a,r⟩=>⟨i,hi,a,r.imp id fun ⟨b1,b2,b3⟩=>⟨b1,b2,b3.imp id fun ⟨d1,d2⟩=>⟨d1,d2.imp id fun ⟨j,hj,e1,e2⟩=>?_⟩⟩⟩
 have hj':j<p2.length:=by rw[q6];exact hj
 refine⟨j,hj',e1,?_⟩
 have:=(q7 j _ _ (List.getElem?_eq_getElem hj) (List.getElem?_eq_getElem hj')).1
 show ¬p2[j].args=_
 rw[this]
 exact e2
theorem eqh_good {o p:O}(q:Vm.Eqh o p) {x:Tp.Bs}{n j:Nat}(h:Good8 o x n j):Good8 p x n j:=by
 obtain⟨n1,s1,u1,v1,p1,m1,c1⟩:=o
 obtain⟨n2,s2,u2,v2,p2,m2,c2⟩:=p
 obtain⟨q1,q2,q3,q4,q5,q6,q7⟩:=q
 dsimp only at q1 q2 q3 q4 q5 q6 q7
 subst q1 q2 q5
 obtain⟨i,hi,hj,e1,e2,e3,e4⟩:=h
 have hj0:j<p1.length:=hj
 have hj':j<p2.length:=by rw[q6];exact hj
 refine⟨i,hi,hj',e1,e2,e3,?_⟩
 have:=(q7 j _ _ (List.getElem?_eq_getElem hj0) (List.getElem?_eq_getElem hj')).1
 show p2[j].args=_
 rw[this]
 exact e4
theorem fx8_ix {l:List Ob.Sm}{n:Tp.Bs}(h:¬fx8 l n<0):∃ i,i<l.length/\fx8 l n=(i:Int):=by
 unfold fx8 at h ⊢
 cases hf:l.findIdx? (fun s=>s.name == n) with
 | none=>rw[hf]at h;exact absurd (by decide) h
 | some i =>
  rw[List.findIdx?_eq_some_iff_getElem]at hf
  exact⟨i,hf.1,rfl⟩
theorem ix8_ix {l:List Tp.Bs}{n:Tp.Bs}(h:¬ix8 l n<0):∃ i,i<l.length/\ix8 l n=(i:Int):=by
 unfold ix8 at h ⊢
 cases hf:l.findIdx? (fun s=>s == n) with
 | none=>rw[hf]at h;exact absurd (by decide) h
 | some i =>
  rw[List.findIdx?_eq_some_iff_getElem]at hf
  exact⟨i,hf.1,rfl⟩
theorem vS {o:O}(hr:Rx o) (x:Tp.Bs) (n:Nat):(∃ k,k≠0/\k<=100/\Ref8 o x n k)\/∃ j,Good8 o x n j:=by
 by_cases h1:fx8 o.syms x<0
 ·exact Or.inl ⟨7,by omega,by omega,Or.inl ⟨h1,rfl⟩⟩
 obtain⟨i,hi,hx⟩:=fx8_ix h1
 by_cases h2:o.syms[i].args<0
 ·exact Or.inl ⟨7,by omega,by omega,Or.inr ⟨i,hi,hx,Or.inl ⟨h2,rfl⟩⟩⟩
 by_cases h3:o.syms[i].args=(n:Int)
 ·by_cases h4:ix8 o.names x<0
  ·exact Or.inl ⟨2,by omega,by omega,Or.inr ⟨i,hi,hx,Or.inr ⟨h2,rfl,Or.inr ⟨h3,Or.inl h4⟩⟩⟩⟩
  ·obtain⟨j,hj,hy⟩:=ix8_ix h4
   have hj:j<o.procs.length:=by rw[<-hr.nl];exact hj
   by_cases h5:o.procs[j].args=(n:Int)
   ·exact Or.inr ⟨j,i,hi,hj,hx,h3,hy,h5⟩
   ·exact Or.inl ⟨2,by omega,by omega,Or.inr ⟨i,hi,hx,Or.inr ⟨h2,rfl,Or.inr ⟨h3,Or.inr ⟨j,hj,hy,h5⟩⟩⟩⟩⟩
 ·exact Or.inl ⟨2,by omega,by omega,Or.inr ⟨i,hi,hx,Or.inr ⟨h2,rfl,Or.inl h3⟩⟩⟩
def CallB (o:O) (nm x:Tp.Bs) (vv:List (List Int)) (l:List Int) (way:Nat) (told:Int) (out:List Int) (k:Nat):Prop:=∀(wa W:World) (mb:Nat) (c:Vx) (sp:Option Addr) (lc:Nat),RM wa W mb o vv c->Args8 W sp l ->
  Calls Tryz.prog 13 #[.pointer (some ⟨mb,0,none⟩),.string (bs nm),.string (bs x),.slice sp l.length lc,.int .i64 500] W (CallQ W c way told out k)
theorem two_calls {o p:O}(h:Vm.Stp o p) (hu:o.uses=[]) (hro:Rx o) (hrp:Rx p) {vv:List (List Int)}(hS:Vm.Sh o vv) (x:Tp.Bs) {l:List Int}(hl:l.length<=10) (h64:∀ v∈l,I64 v) :
  ∃(k w1:Nat) (t1:Int) (o1:List Int) (w2:Nat) (t2:Int) (o2:List Int),k<=100/\(Vm.Bad w1\/(w2=w1/\t2=t1/\o2=o1))/\CallB o o.name x vv l w1 t1 o1 k/\CallB p o.name x vv l w2 t2 o2 k:=by
 rcases vS hro x l.length with⟨k,hk0,hk,hf⟩|⟨j,hg⟩
 ·refine⟨k,0,0,[],0,0,[],hk,Or.inr ⟨rfl,rfl,rfl⟩,fun wa W mb c sp lc hm ha=>hm.call_no hro hl hf hk0 sp lc 500,fun wa W mb c sp lc hm ha=>?_⟩
  rw[<-h.eq.nm]
  exact hm.call_no hrp hl (eqh_ref h.eq hf) hk0 sp lc 500
 ·have hj:j<o.procs.length:=by obtain⟨_,_,q,_⟩:=hg;exact q
  have h1:o.procs[j]?=some o.procs[j]:=List.getElem?_eq_getElem hj
  obtain⟨e',h2,_,el,_⟩:=h.proc h1
  have hm:Vm.Nm l:=fun v hv=>by have:=h64 v hv;unfold Ob.I64 at this;unfold Tp.I64;omega
  have hcp:CallB p o.name x vv l (Vm.goes 30 500 (sA p vv e'.at'.toNat o.procs[j].locals.toNat l)).way (toldS (Vm.goes 30 500 (sA p vv e'.at'.toNat o.procs[j].locals.toNat l))) (Vm.goes 30 500 (sA p vv e'.at'.toNat o.procs[j].locals.toNat l)).out 0:=fun wa W mb c sp lc q ha=>by
   have:=q.call_ok hrp hl h64 h2 (eqh_good h.eq hg) ha lc 500 (by omega)
   rw[h.eq.nm,el]at this
   exact this
  refine⟨0,_,_,_,_,_,_,Nat.zero_le _,?_,fun wa W mb c sp lc q ha=>q.call_ok hro hl h64 h1 hg ha lc 500 (by omega),hcp⟩
  rcases call_rel h hu hS h1 h2 o.procs[j].locals.toNat 500 hl hm with q|q
  ·exact Or.inl q
  ·exact Or.inr ⟨q.way,told_rel q,q.out⟩
def LoadB (o:O) (s:St) (k:Nat):Prop:=∀(wa W:World) (mb ob oo:Nat),OA wa ob oo o->Mk8 wa->Below wa.heap.size wa W->wa.heap.size<=mb->W.heap[mb]?=some (.cells #[.map none] 44 (0,0)) ->
  Calls Tryz.prog 11 #[.pointer (some ⟨mb,0,none⟩),.pointer (some ⟨ob,oo,none⟩),.int .i64 500] W (LoQ W mb o s k)
theorem load_b {o:O}(hr:Ob.rightB o=true) (hB:Bd o) (hu:o.uses=[]):LoadB o (Vm.goes 31 500 (s0 o)) 0:=fun wa W mb ob oo h1 h2 h3 h4 h5=>by
 refine(jF h1 h3 h4 h5 h2.lt h2.at' hB hB.c 500 (by omega)).mono fun e W' h=>?_
 unfold LoadN at h
 rw[if_pos hr,if_pos hu]at h
 exact loadP_lo h
theorem load_n {o:O}(hr:Ob.rightB o=true) (hB:Bd o) (hu:o.uses≠[]):LoadB o sNo 8:=fun wa W mb ob oo h1 h2 h3 h4 h5=>by
 refine(jF h1 h3 h4 h5 h2.lt h2.at' hB hB.c 500 (by omega)).mono fun e W' h=>?_
 unfold LoadN at h
 rw[if_pos hr,if_neg hu]at h
 exact loadB_lo (by omega) h
theorem th_eq {o:O}{a b:List (List Int)}(h:thr o a=Vm.th o b):a=b:=by
 have:=congrFun h o.name
 unfold thr Vm.th at this
 rw[if_pos rfl,if_pos rfl]at this
 exact congrArg Pl.vars (Option.some.inj this)
theorem two_loads {o p:O}(h:Vm.Stp o p) (hr:Ob.rightB o=true) (hB:Bd o) (hBp:Bd p) :
  ∃(k:Nat) (s t:St),k<=100/\(k=0->o.uses=[])/\(Vm.Bad s.way\/(t.way=s.way/\t.out=s.out/\(k=0->∀ a b,s.there=thr o a->t.there=thr p b->b=a)))/\LoadB o s k/\LoadB p t k:=by
 by_cases hu:o.uses=[]
 ·refine⟨0,_,_,Nat.zero_le _,fun _=>hu,?_,load_b hr hB hu,load_b h.rg.r hBp (h.eq.us.trans hu)⟩
  rcases load_rel h hu 500 with q|q
  ·exact Or.inl q
  ·refine Or.inr ⟨q.way,q.out,fun _ a b ha hb=>?_⟩
   obtain⟨vv,e1,e2,_⟩:=q.th
   rw[th_eq (ha.symm.trans e1),th_eq (hb.symm.trans e2)]
 ·exact⟨8,_,_,by omega,fun q=>absurd q (by omega),Or.inr ⟨rfl,rfl,fun q=>absurd q (by omega)⟩,load_n hr hB hu,load_n h.rg.r hBp (by rw[h.eq.us];exact hu)⟩
theorem jo (n:Nat) (w:World):Calls Tryz.prog 10 #[.int .i64 (n:Int)] w fun e w'=>e=.returned (.bool (decide (n=5\/n=7\/n=8)))/\Below w.heap.size w w':=by
 by_cases h1:n=5
 ·subst h1
  go_enter Tryz.func10,Tryz.ntmps10
  go_wp2_with fail
  go_ret
  exact⟨rfl,Below.refl _ _⟩
 by_cases h2:n=7
 ·subst h2
  go_enter Tryz.func10,Tryz.ntmps10
  go_wp2_with fail
  go_ret
  exact⟨rfl,Below.refl _ _⟩
 by_cases h3:n=8
 ·subst h3
  go_enter Tryz.func10,Tryz.ntmps10
  go_wp2_with fail
  go_ret
  exact⟨rfl,Below.refl _ _⟩
 have a1:((n:Int) == 5)=false:=beq_false_of_ne (by omega)
 have a2:((n:Int) == 7)=false:=beq_false_of_ne (by omega)
 have a3:((n:Int) == 8)=false:=beq_false_of_ne (by omega)
 rw[decide_eq_false (by omega)]
 clear h1 h2 h3
 go_enter Tryz.func10,Tryz.ntmps10
 go_wp2_with fail
 go_ret
 exact⟨rfl,Below.refl _ _⟩
theorem tell_nil (w:World):Calls Tryz.prog 8 #[.nilIface] w fun e w'=>e=.returned (.int .i64 0)/\Below w.heap.size w w':=by
 go_enter Tryz.func8,Tryz.ntmps8
 go_wp2_with fail
 go_ret
 exact⟨rfl,Below.refl _ _⟩
def ErT (w:World):Prop:=w.cell? ⟨0,0,none⟩=some (.iface 156 (.agg #[.pointer (some ⟨5,27,none⟩)]))
structure VarsO (w:World):Prop where
 mr:Mk8 w
 et:ErT w
theorem VarsO.on {w w':World}(h:VarsO w) (k:Below w.heap.size w w'):VarsO w':=⟨h.mr.on k,(k.cell (p:=⟨0,0,none⟩) (zi h.et)).trans h.et⟩
theorem j9 {w:World}(h:ErT w) (k:Nat):Calls Tryz.prog 8 #[erV k] w fun e w'=>e=.returned (.int .i64 (k:Int))/\Below w.heap.size w w':=by
 unfold erV
 by_cases hk:k=0
 ·subst hk
  rw[if_pos rfl]
  exact tell_nil w
 ·rw[if_neg hk]
  exact tell_en _ w h
theorem vG {α:Type}{p:α->Bool}{l:List α}(h:l.any p=false):∀ x∈l,p x=false:=by
 intro x hx
 rcases hp:p x with _|_
 ·rfl
 ·rw[List.any_eq_true.2 ⟨x,hx,hp⟩]at h;cases h
theorem kD {s:Ob.Bs}(h:longB s=false):s.length<=40:=by
 unfold longB at h
 have:=of_decide_eq_false h
 omega
theorem small_bd {o:O}(h:smallB o=true) (hc:∀ x∈o.code,Ob.I64 x.a):Bd o:=by
 unfold smallB at h
 simp only [Bool.and_eq_true,decide_eq_true_eq,Bool.not_eq_true']at h
 obtain⟨h0,h1,h2,h3,h4,h5,h6,h7,h8,h9,h10⟩:=h
 refine⟨by have:=kD h0;omega,by omega,fun x hx=>by have:=kD (vG h8 x hx);omega,by omega,fun x hx=>?_,by omega,fun x hx=>by have:=kD (vG h9 x hx);omega,by omega,by omega,fun x hx=>by have:=kD (vG h7 x hx);omega,by omega,hc⟩
 have:=vG h10 x hx
 unfold useL at this
 simp only [Bool.or_eq_false_iff,decide_eq_false_iff_not]at this
 obtain⟨q0,q1,q2,q3⟩:=this
 exact⟨by have:=kD q0;omega,by omega,fun y hy=>by have:=kD (vG q3 y hy);omega⟩
theorem xx {w:World}{b oo:Nat}{o:O}(h:OA w b oo o):Calls Tryz.prog 4 #[.pointer (some ⟨b,oo,none⟩)] w fun e w'=>e=.returned (.bool (smallB o))/\Below w.heap.size w w':=by
 obtain⟨sa,ua,va,pa,na,ca,sc,uc,vc,pc,nc,cc,h⟩:=h
 exact small_ov h
theorem alike_oa {w:World}{b b' oo:Nat}{o p:O}(h:Vm.Stp o p) (ho:OA w b oo o) (hp:OA w b' 0 p) (hB:Bd p):Calls Tryz.prog 9 #[.pointer (some ⟨b',0,none⟩),.pointer (some ⟨b,oo,none⟩)] w fun e w'=>e=.returned (.bool true)/\Below w.heap.size w w':=by
 obtain⟨sa,ua,va,pa,na,ca,sc,uc,vc,pc,nc,cc,ho⟩:=ho
 obtain⟨sa',ua',va',pa',na',ca',sc',uc',vc',pc',nc',cc',hp⟩:=hp
 have e:o={ p with procs:=o.procs,code:=o.code }:=by
  obtain⟨n1,s1,u1,v1,p1,m1,c1⟩:=o
  obtain⟨n2,s2,u2,v2,p2,m2,c2⟩:=p
  obtain⟨q1,q2,q3,q4,q5,q6,q7⟩:=h.eq
  dsimp only at q1 q2 q3 q4 q5 q6 q7
  subst q1 q2 q3 q4 q5
  rfl
 rw[e]at ho
 exact alike_ov hp ho hB
theorem less_nil (w:World):Calls Tryz.prog 6 #[.pointer none] w fun e w'=>e=.returned (.tuple #[.pointer none,erV 1])/\Below w.heap.size w w':=by
 have HR:=zh (vf w)
 go_enter Tryz.func6,Tryz.ntmps6
 go_wp2_with fail
 refine HR.out.mono ?_
 rintro e w1 ⟨rfl,hb1⟩
 have HB:=zh hb1
 clear hb1
 go_wp2_with fail
 go_ret2
 exact⟨rfl,HB.out⟩
theorem ints_on2 {w w':World}{xs:List Int}{oa:Option Addr}{b2:Nat}(h:IntsAt w xs oa) (hz:w.heap[b2]?=some (.cells #[.map none] 44 (0,0))) (hx:Ext b2 w w'):IntsAt w' xs oa:=by
 refine⟨fun i hi=>?_⟩
 obtain⟨b,o,h1,h2,h3⟩:=h.c i hi
 have hne:b≠b2:=by
  intro e
  subst e
  rw[zc hz]at h3
  match o+i,h3 with
  | 0,h3=>cases h3
  | k+1,h3=>simp at h3
 exact⟨b,o,h1,Nat.lt_of_lt_of_le h2 hx.size,(World.cell?_of_block (w:=w) (hx.block b h2 hne)).trans h3⟩
theorem map_cells {w:World}{b n z:Nat}{f:Tp.Bs->Option Value}{cs:Array Value}{t:TypeId}(h:MapV w b n f) (hk:w.heap[z]?=some (.cells cs t (0,0))):b≠z:=by
 obtain⟨es,cl,q⟩:=j0 h
 intro e
 rw[e,hk]at q
 cases q
theorem RM.mine_lt {wa W:World}{mb:Nat}{o:O}{vv:List (List Int)}{c:Vx}(h:RM wa W mb o vv c) {b:Nat}(hb:Mine mb c b):b<W.heap.size:=by
 rcases hb with e|e|e|e|⟨i,hi,e⟩
 ·rw[e];exact zk h.mbk
 ·rw[e];exact zk h.mm.pk
 ·rw[e];exact h.vb
 ·rw[e];exact h.mp.lt
 ·rw[e];exact zk (h.mm.vm i (by rw[h.mm.vn];exact hi)).2.1
theorem RM.mine_ne {wa W:World}{mb:Nat}{o:O}{vv:List (List Int)}{c:Vx}(h:RM wa W mb o vv c) {b z:Nat}(hb:Mine mb c b) (hz:z<c.w0.heap.size) (hm:z≠mb) {cs:Array Value}{t:TypeId}(hk:W.heap[z]?=some (.cells cs t (0,0))):b≠z:=by
 rcases hb with e|e|e|e|⟨i,hi,e⟩
 ·rw[e];exact fun q=>hm q.symm
 ·have:=h.ok.pb.1;omega
 ·have:=h.ok.vb.1;omega
 ·rw[e];exact map_cells h.mp hk
 ·have:=(h.ok.vs i hi).1;omega
theorem RM.pass {wa W W':World}{mb:Nat}{o:O}{vv:List (List Int)}{c:Vx}(h:RM wa W mb o vv c) {z:Nat}(hz:z<c.w0.heap.size) (hm:z≠mb) {cs:Array Value}{t:TypeId}(hk:W.heap[z]?=some (.cells cs t (0,0))) (ha:wa.heap.size<=z) (hx:Ext z W W'):RM wa W' mb o vv (c.based W') :=
 h.move (h.ba.trans (yH hx ha h.ba.size)) fun _ hb=>hx.block _ (h.mine_lt hb) (h.mine_ne hb hz hm hk)
theorem RM.on {wa W W':World}{mb:Nat}{o:O}{vv:List (List Int)}{c:Vx}(h:RM wa W mb o vv c) (hb:Below W.heap.size W W'):RM wa W' mb o vv (c.based W') :=
 h.move (h.ba.trans (hb.mono h.ba.size)) fun _ q=>hb.block _ (h.mine_lt q)
theorem RM.wz {wa W:World}{mb:Nat}{o:O}{vv:List (List Int)}{c:Vx}(h:RM wa W mb o vv c):c.w0.heap.size<=W.heap.size:=h.sz rfl
theorem yp {W':World}{c:Vx}(h:c.w0.heap.size<=W'.heap.size):(c.based W').w0.heap.size=c.w0.heap.size:=yS h
structure Hi (n:Nat) (W:World) (out:List Int) (oa:Option Addr):Prop where
 c:∀ i (h:i<out.length),∃ b cur,oa=some ⟨b,0,none⟩/\n<=b/\W.heap[b]?=some (.cells cur 2 (0,0))/\W.cell? ⟨b,i,none⟩=some (.int .i64 out[i])
theorem own_hi {w:World}{base c:Nat}{a:Option Addr}{l:List Int}(h:w.ownsRow base 2 1 (.slice a l.length c) l.length (ints l)):Hi base w l a:=by
 refine⟨fun i hi=>?_⟩
 obtain⟨h0,h⟩:=h
 rcases h with⟨_,q⟩|⟨g,cap,cur,h1,h2,h3,h4,h5,h6,h7⟩
 ·omega
 ·injection h1 with h1 _ _
  refine⟨g,cur,h1,h2,h3,?_⟩
  rw[zc h3,<-Array.getElem?_toList,<-ints_get l i hi,<-h7,List.getElem?_take_of_lt (by omega)]
theorem Hi.on {n:Nat}{W W':World}{out:List Int}{oa:Option Addr}(h:Hi n W out oa) (k:∀ b cur,n<=b->W.heap[b]?=some (.cells cur 2 (0,0))->W'.heap[b]?=W.heap[b]?):Hi n W' out oa:=by
 refine⟨fun i hi=>?_⟩
 obtain⟨b,cur,h1,h2,h3,h4⟩:=h.c i hi
 have e:=k b cur h2 h3
 exact⟨b,cur,h1,h2,e.trans h3,(World.cell?_of_block (w:=W) e).trans h4⟩
theorem Hi.ints {n:Nat}{W:World}{out:List Int}{oa:Option Addr}(h:Hi n W out oa):IntsAt W out oa:=⟨fun i hi=>by
 obtain⟨b,cur,h1,h2,h3,h4⟩:=h.c i hi
 exact⟨b,0,h1,zk h3,by rw[Nat.zero_add];exact h4⟩⟩
structure Ta (w W:World) (mA mB eA eB:Nat) (xA xB:Array Value) (o p:O) (vv:List (List Int)) (cA cB:Vx):Prop where
 be:Below w.heap.size w W
 a:∃ wA,RM wA W mA o vv cA
 b:∃ wB,RM wB W mB p vv cB/\wB.heap.size<=mB
 lo:w.heap.size<=cA.w0.heap.size
 s1:mB<cA.w0.heap.size
 s2:cA.w0.heap.size<=eA
 s3:eA<cB.w0.heap.size
 s4:cB.w0.heap.size<=eB
 va:∀ i,i<cA.O.vars.length->cA.vs i<eA
 ea:W.heap[eA]?=some (.cells xA 46 (0,0))
 eb:W.heap[eB]?=some (.cells xB 46 (0,0))
theorem Ta.on {w W W':World}{mA mB eA eB:Nat}{xA xB:Array Value}{o p:O}{vv:List (List Int)}{cA cB:Vx}(h:Ta w W mA mB eA eB xA xB o p vv cA cB) (hb:Below W.heap.size W W'):Ta w W' mA mB eA eB xA xB o p vv (cA.based W') (cB.based W'):=by
 obtain⟨wA,a⟩:=h.a
 obtain⟨wB,b,b0⟩:=h.b
 have e1:=yp (c:=cA) (Nat.le_trans a.wz hb.size)
 have e2:=yp (c:=cB) (Nat.le_trans b.wz hb.size)
 exact⟨h.be.trans (hb.mono h.be.size),⟨wA,a.on hb⟩,⟨wB,b.on hb,b0⟩,by rw[e1];exact h.lo,by rw[e1];exact h.s1,by rw[e1];exact h.s2,by rw[e2];exact h.s3,by rw[e2];exact h.s4,h.va,(hb.block _ (zk h.ea)).trans h.ea,(hb.block _ (zk h.eb)).trans h.eb⟩
theorem own_none (b:Nat):(Value.slice none 0 0).ownBlock≠some b:=fun q=>by cases q
theorem jr {c:Vx}{b:Nat}{cs:Array Value}{t:TypeId}{f:Nat× Nat}(h1:¬Wet t) (h2:t≠2):Far c (.slice none 0 0) (.slice none 0 0) b (.cells cs t f):=fun cs' e f' q=>by
 cases q
 exact⟨h1,fun r=>absurd r h2⟩
theorem far_hi {c:Vx}{b n:Nat}{cs:Array Value}{t:TypeId}{f:Nat× Nat}(h1:¬Wet t) (hv:∀ i,i<c.O.vars.length->c.vs i<n) (hb:n<=b):Far c (.slice none 0 0) (.slice none 0 0) b (.cells cs t f):=fun cs' e f' q=>by
 cases q
 exact⟨h1,fun _=>⟨fun i hi r=>by have:=hv i hi;omega,own_none b,own_none b⟩⟩
theorem far_map {c:Vx}{b:Nat}{es:_}{n:Nat}:Far c (.slice none 0 0) (.slice none 0 0) b (.map es n):=fun cs' e f' q=>by cases q
theorem wet_mach:¬Wet 44:=by unfold Wet;omega
theorem wet_plc:¬Wet 95:=by unfold Wet;omega
theorem wet_row:¬Wet 23:=by unfold Wet;omega
theorem wet_int:¬Wet 2:=by unfold Wet;omega
theorem xr:¬Wet 46:=by unfold Wet;omega
theorem far_mine {wB W W':World}{mB n:Nat}{p:O}{vv:List (List Int)}{cA cB:Vx}(h:RM wB W mB p vv cB) (hv:∀ i,i<cA.O.vars.length->cA.vs i<n) (hn:n<=cB.w0.heap.size) (keep:∀ b ob,W.heap[b]?=some ob->Far cA (.slice none 0 0) (.slice none 0 0) b ob->W'.heap[b]?=some ob):∀ b,Mine mB cB b->W'.heap[b]?=W.heap[b]?:=by
 intro b hb
 rcases hb with e|e|e|e|⟨i,hi,e⟩
 ·rw[e,h.mbk];exact keep _ _ h.mbk (jr wet_mach (by decide))
 ·rw[e,h.mm.pk];exact keep _ _ h.mm.pk (jr wet_plc (by decide))
 ·rcases h.vt with q|⟨cur,q⟩
  ·rw[e,q,h.mm.pk];exact keep _ _ h.mm.pk (jr wet_plc (by decide))
  ·rw[e,q];exact keep _ _ q (jr wet_row (by decide))
 ·obtain⟨es,cl,q⟩:=j0 h.mp
  rw[e,q];exact keep _ _ q far_map
 ·have q:=(h.mm.vm i (by rw[h.mm.vn];exact hi)).2.1
  rw[e,q];exact keep _ _ q (far_hi wet_int hv (by have:=(h.ok.vs i hi).1;omega))
structure Tb (w W:World) (n mB eA eB:Nat) (xA xB:Array Value) (p:O) (vv:List (List Int)) (cB:Vx) (out:List Int) (oa:Option Addr):Prop where
 be:Below w.heap.size w W
 b:∃ wB,RM wB W mB p vv cB/\wB.heap.size<=mB
 lo:w.heap.size<=mB
 s1:mB<eA
 s3:eA<cB.w0.heap.size
 s4:cB.w0.heap.size<=eB
 s5:eB<n
 vb:∀ i,i<cB.O.vars.length->cB.vs i<n
 ea:W.heap[eA]?=some (.cells xA 46 (0,0))
 eb:W.heap[eB]?=some (.cells xB 46 (0,0))
 hi:Hi n W out oa
theorem Ta.call {w W W':World}{mA mB eA eB:Nat}{xA xB:Array Value}{o p:O}{vv:List (List Int)}{cA cB:Vx}(h:Ta w W mA mB eA eB xA xB o p vv cA cB) (hm:w.heap.size<=mB) {out:List Int}{oa:Option Addr}{oc:Nat}(k:CR W cA out oa oc W'):Tb w W' W.heap.size mB eA eB xA xB p vv (cB.based W') out oa:=by
 obtain⟨wB,b,b0⟩:=h.b
 have hk:=far_mine b h.va (Nat.le_of_lt h.s3) k.keep
 have hbb:Below wB.heap.size wB W':=Bx.after b.ba (k.bx.mono (by have:=h.s1;omega)) zn
 have hp:=hk cB.pb (Or.inr (Or.inl rfl))
 have e2:(cB.based W').w0.heap.size=cB.w0.heap.size:=yp (b.sz hp)
 exact⟨Bx.after h.be (k.bx.mono h.lo) zn,⟨wB,b.move hbb hk,b0⟩,hm,Nat.lt_of_lt_of_le h.s1 h.s2,by rw[e2];exact h.s3,by rw[e2];exact h.s4,zk h.eb,fun i hi=>b.mine_lt (Or.inr (Or.inr (Or.inr (Or.inr ⟨i,hi,rfl⟩)))),k.keep _ _ h.ea (jr xr (by decide)),k.keep _ _ h.eb (jr xr (by decide)),own_hi k.own⟩
theorem ext_set2 {b:Nat}(w:World) (v0 v1:Value):Ext b w ((w.setCell ⟨b,0,none⟩ v0).setCell ⟨b,1,none⟩ v1):=⟨rfl,rfl,rfl,by simp,fun k hk hb=>by rw[Below.heap_setCell _ _ _ _ hb,Below.heap_setCell _ _ _ _ hb]⟩
theorem Tb.set {w W:World}{n mB eA eB:Nat}{xA xB:Array Value}{p:O}{vv:List (List Int)}{cB:Vx}{out:List Int}{oa:Option Addr}(h:Tb w W n mB eA eB xA xB p vv cB out oa) (hx:xA.size=2) (v0 v1:Value) {W':World}(hW:W'=(W.setCell ⟨eA,0,none⟩ v0).setCell ⟨eA,1,none⟩ v1):Tb w W' n mB eA eB #[v0,v1] xB p vv (cB.based W') out oa:=by
 obtain⟨wB,b,b0⟩:=h.b
 have hxt:Ext eA W W':=by rw[hW];exact ext_set2 W v0 v1
 have hs1:=h.s1
 have hs3:=h.s3
 have hs4:=h.s4
 have hs5:=h.s5
 have e2:(cB.based W').w0.heap.size=cB.w0.heap.size:=yp (Nat.le_trans b.wz hxt.size)
 refine⟨h.be.trans (yH hxt (by have:=h.lo;omega) h.be.size),⟨wB,b.pass hs3 (by omega) h.ea (by omega) hxt,b0⟩,h.lo,hs1,by rw[e2];exact hs3,by rw[e2];exact hs4,hs5,h.vb,?_,(hxt.block _ (zk h.eb) (by omega)).trans h.eb,h.hi.on fun b cur hb hc=>hxt.block b (zk hc) (by omega)⟩
 have:=zC 1 v1 (zC 0 v0 h.ea)
 rw[hW,this]
 obtain⟨l⟩:=xA
 match l,hx with
 | [a0,a1],_=>rfl
structure Tc (w W:World) (eA eB:Nat) (xA xB:Array Value) (o1 o2:List Int) (a1 a2:Option Addr):Prop where
 be:Below w.heap.size w W
 lo:w.heap.size<=eB
 ea:W.heap[eA]?=some (.cells xA 46 (0,0))
 eb:W.heap[eB]?=some (.cells xB 46 (0,0))
 ne:eA≠eB
 h1:Hi (eB+1) W o1 a1
 h2:Hi (eB+1) W o2 a2
theorem Tb.call {w W W':World}{n mB eA eB:Nat}{xA xB:Array Value}{p:O}{vv:List (List Int)}{cB:Vx}{o1 o2:List Int}{a1 a2:Option Addr}(h:Tb w W n mB eA eB xA xB p vv cB o1 a1) {oc:Nat}(k:CR W cB o2 a2 oc W'):Tc w W' eA eB xA xB o1 o2 a1 a2:=by
 have hs1:=h.s1
 have hs3:=h.s3
 have hs4:=h.s4
 have hs5:=h.s5
 have hlo:=h.lo
 have hl:=zk h.eb
 refine⟨Bx.after h.be (k.bx.mono (by omega)) zn,by omega,k.keep _ _ h.ea (jr xr (by decide)),k.keep _ _ h.eb (jr xr (by decide)),by omega,?_,?_⟩
 ·have:=h.hi.on (W':=W') fun b cur hb hc=>(k.keep _ _ hc (far_hi wet_int h.vb hb)).trans hc.symm
  exact⟨fun i hi=>by obtain⟨b,cur,q1,q2,q3⟩:=this.c i hi;exact⟨b,cur,q1,by omega,q3⟩⟩
 ·have:=own_hi k.own
  exact⟨fun i hi=>by obtain⟨b,cur,q1,q2,q3⟩:=this.c i hi;exact⟨b,cur,q1,by omega,q3⟩⟩
theorem Tc.set {w W:World}{eA eB:Nat}{xA xB:Array Value}{o1 o2:List Int}{a1 a2:Option Addr}(h:Tc w W eA eB xA xB o1 o2 a1 a2) (hx:xB.size=2) (v0 v1:Value) {W':World}(hW:W'=(W.setCell ⟨eB,0,none⟩ v0).setCell ⟨eB,1,none⟩ v1):Tc w W' eA eB xA #[v0,v1] o1 o2 a1 a2:=by
 have hxt:Ext eB W W':=by rw[hW];exact ext_set2 W v0 v1
 refine⟨h.be.trans (yH hxt h.lo h.be.size),h.lo,(hxt.block _ (zk h.ea) h.ne).trans h.ea,?_,h.ne,h.h1.on fun b cur hb hc=>hxt.block b (zk hc) (by omega),h.h2.on fun b cur hb hc=>hxt.block b (zk hc) (by omega)⟩
 have:=zC 1 v1 (zC 0 v0 h.eb)
 rw[hW,this]
 obtain⟨l⟩:=xB
 match l,hx with
 | [b0,b1],_=>rfl
theorem yh {W:World}{b:Nat}{v0 v1:Value}(h:W.heap[b]?=some (.cells #[v0,v1] 46 (0,0))):W.cell? ⟨b,0,none⟩=some v0/\W.cell? ⟨b,1,none⟩=some v1/\W.frozen? ⟨b,0,none⟩=false/\W.frozen? ⟨b,1,none⟩=false/\b<W.heap.size:=⟨(zc h).trans rfl,(zc h).trans rfl,zr h,zr h,zk h⟩
structure Tz (w W:World) (eA eB:Nat) (xA xB:Array Value) (o1 o2:List Int) (a1 a2:Option Addr):Prop where
 be:Below w.heap.size w W
 ea:W.heap[eA]?=some (.cells xA 46 (0,0))
 eb:W.heap[eB]?=some (.cells xB 46 (0,0))
 h1:IntsAt W o1 a1
 h2:IntsAt W o2 a2
theorem Tz.on {w W W':World}{eA eB:Nat}{xA xB:Array Value}{o1 o2:List Int}{a1 a2:Option Addr}(h:Tz w W eA eB xA xB o1 o2 a1 a2) (hb:Below W.heap.size W W'):Tz w W' eA eB xA xB o1 o2 a1 a2 :=
 ⟨h.be.trans (hb.mono h.be.size),(hb.block _ (zk h.ea)).trans h.ea,(hb.block _ (zk h.eb)).trans h.eb,h.h1.on hb,h.h2.on hb⟩
theorem Tc.tz {w W:World}{eA eB:Nat}{xA xB:Array Value}{o1 o2:List Int}{a1 a2:Option Addr}(h:Tc w W eA eB xA xB o1 o2 a1 a2):Tz w W eA eB xA xB o1 o2 a1 a2:=⟨h.be,h.ea,h.eb,h.h1.ints,h.h2.ints⟩
theorem kQ (w:World) (ob:Obj):Below w.heap.size w (w.alloc ob):=zb _ _
theorem alloc_size (w:World) (ob:Obj):(w.alloc ob).heap.size=w.heap.size+1:=by simp
theorem vd {w6 W w7 w8:World}(hb:Below w6.heap.size w6 W) (hs:W.heap.size=w6.heap.size+2) (hq:W.heap[w6.heap.size+1]?=some (.cells #[.map none] 44 (0,0))) (hx:Ext w6.heap.size W w7) (h8:Below w7.heap.size w7 w8):Below w6.heap.size w6 w8/\w8.heap[w6.heap.size+1]?=some (.cells #[.map none] 44 (0,0)):=by
 have h1:Below w6.heap.size W w7:=yH hx zn (by omega)
 have h2:=hx.size
 refine⟨(hb.trans h1).trans (h8.mono (by omega)),?_⟩
 rw[h8.block _ (by omega),hx.block _ (by omega) (by omega)]
 exact hq
theorem two_lq {w w6 W w7 w8 w9 w10:World}{o p:O}{s t:St}{k:Nat}{oa ob:Option Addr}{xA xB:Array Value}(h6:Below w.heap.size w w6) (hb:Below w6.heap.size w6 W) (hs:W.heap.size=w6.heap.size+2) (hq:W.heap[w6.heap.size+1]?=some (.cells #[.map none] 44 (0,0))) (l1:LQ W w6.heap.size o s k oa w7) (h8:w8=w7.alloc (.cells xA 46)) (l2:LQ w8 (w6.heap.size+1) p t k ob w9) (h10:w10=w9.alloc (.cells xB 46)) :
  Tz w w10 w7.heap.size w9.heap.size xA xB s.out t.out oa ob/\(k=0->(∀ a b,s.there=thr o a->t.there=thr p b->b=a)->∃ vv cA cB,Ta w w10 w6.heap.size (w6.heap.size+1) w7.heap.size w9.heap.size xA xB o p vv cA cB):=by
 have hx1:=l1.ext
 have hx2:=l2.ext
 have hb8:Below w7.heap.size w7 w8:=by rw[h8];exact kQ _ _
 have hb10:Below w9.heap.size w9 w10:=by rw[h10];exact kQ _ _
 have z8:w8.heap.size=w7.heap.size+1:=by rw[h8];exact alloc_size _ _
 have z1:=hx1.size
 have z2:=hx2.size
 have z6:=h6.size
 obtain⟨_,q8⟩:=vd hb hs hq hx1 hb8
 have eA:w8.heap[w7.heap.size]?=some (.cells xA 46 (0,0)):=by rw[h8];exact zw _ _
 have eB:w10.heap[w9.heap.size]?=some (.cells xB 46 (0,0)):=by rw[h10];exact zw _ _
 have eA9:w9.heap[w7.heap.size]?=some (.cells xA 46 (0,0)):=(hx2.block _ (by omega) (by omega)).trans eA
 have eA10:w10.heap[w7.heap.size]?=some (.cells xA 46 (0,0)):=(hb10.block _ (by omega)).trans eA9
 have k1:Below w.heap.size w W:=h6.trans (hb.mono z6)
 have k2:Below w.heap.size w w7:=k1.trans (yH hx1 z6 (by omega))
 have k3:Below w.heap.size w w8:=k2.trans (hb8.mono k2.size)
 have k4:Below w.heap.size w w9:=k3.trans (yH hx2 (by omega) (by omega))
 have be:Below w.heap.size w w10:=k4.trans (hb10.mono k4.size)
 refine⟨⟨be,eA10,eB,(ints_on2 (l1.it.on hb8) q8 hx2).on hb10,l2.it.on hb10⟩,fun hk hth=>?_⟩
 obtain⟨wA,cA,vA,rA,sA,zA,tA⟩:=l1.rm hk
 obtain⟨wB,cB,vB,rB,sB,zB,tB⟩:=l2.rm hk
 have hv:=hth vA vB tA tB
 subst hv
 have a1:=yp (c:=cA) (Nat.le_trans rA.wz hb8.size)
 have rA8:=rA.on hb8
 have rA9:=rA8.pass (z:=w6.heap.size+1) (by rw[a1];omega) (by omega) q8 (by omega) hx2
 have a2:=yp (c:=cA.based w8) (W':=w9) (by rw[a1];omega)
 have rA10:=rA9.on hb10
 have a3:=yp (c:=(cA.based w8).based w9) (W':=w10) (by rw[a2,a1];have:=hb10.size;omega)
 have b1:=yp (c:=cB) (W':=w10) (Nat.le_trans rB.wz hb10.size)
 have a4:(((cA.based w8).based w9).based w10).w0.heap.size=W.heap.size:=by rw[a3,a2,a1,zA]
 have b2:(cB.based w10).w0.heap.size=w8.heap.size:=by rw[b1,zB]
 exact⟨vB,((cA.based w8).based w9).based w10,cB.based w10,be,⟨wA,rA10⟩,⟨wB,rB.on hb10,sB⟩,by rw[a4];omega,by rw[a4];omega,by rw[a4];omega,by rw[b2];omega,by rw[b2];omega,fun i hi=>rA.mine_lt (Or.inr (Or.inr (Or.inr (Or.inr ⟨i,hi,rfl⟩)))),eA10,eB⟩
end Go.Proofs.YtmnedfdffbbchaaGreatDoor.Jo
