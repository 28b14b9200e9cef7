import Derived.Test.YtmnedfdffbbchaaGreatDoorKIc
import Derived.Test.YtmnedfdffbbchaaGreatDoorKId
import Derived.Test.YtmnedfdffbbchaaGreatDoorKIe
import Derived.Test.YtmnedfdffbbchaaGreatDoorKAa
import Derived.Test.YtmnedfdffbbchaaGreatDoorKIa
import Derived.Test.YtmnedfdffbbchaaGreatDoorKIb
import Derived.Laws.MakeOwn
set_option maxRecDepth 100000
set_option maxHeartbeats 4000000

namespace Go.Proofs.YtmnedfdffbbchaaGreatDoor.Jo
open Go.RowKit Go.Maps
open Ob (O In I64)
open Vm (St Fr Pl)
theorem ops8 {c:Vx}(ok:VxOk c) {i:Nat}(hi:i<c.O.code.length):1<=c.O.code[i].op/\c.O.code[i].op<=17:=by
 have h:=inst8 ok hi
 unfold Ob.instB at h
 split at h
 ·omega
 ·split at h
  ·omega
  ·split at h
   ·omega
   ·simp only [Bool.and_eq_true,Ob.countsB,decide_eq_true_eq]at h
    exact Ob.choices_op (o:=c.O) (op:=c.O.code[i].op) (by omega)
theorem step8 {c:Vx}{W:World}{s:Vm.St}(h:MV c W s) (ok:VxOk c) (inv:Inv c.O s) :
  Calls Tryz.prog 76 #[.pointer (some ⟨c.gb,0,none⟩)] W (StepP c (Vm.step c.most s)):=by
 obtain⟨vv,fv,sv,ov,hm,hg⟩:=h
 obtain⟨f,fs,hf⟩:∃ f fs,s.frames=f :: fs:=by
  cases hq:s.frames with
  | nil=>exact absurd hq inv.ne
  | cons f fs=>exact⟨f,fs,rfl⟩
 have hat:f.at'<c.O.code.length:=inv.at' f (by rw[hf];simp)
 have hbs:=inv.bs
 rw[hf]at hbs
 have hb1:=hbs.1
 have hfo:f.of=c.O.name:=(hm.ff f (by rw[hf];simp)).of
 have e:Vm.step c.most s=Vm.exec c.most { f with at':=f.at'+1 } fs ⟨c.O,vv⟩ c.O.code[f.at'] (Vm.going { f with at':=f.at'+1 } fs s):=by
  unfold Vm.step
  rw[hf]
  simp only
  rw[hm.th,hfo,thr,if_pos rfl]
  simp only
  rw[List.getElem?_eq_getElem hat]
 rw[e]
 obtain⟨o1,o2⟩:=ops8 ok hat
 by_cases e1:c.O.code[f.at'].op=1
 ·exact step_1 hm ok hg hf hb1 hat e1
 by_cases e2:c.O.code[f.at'].op=2
 ·exact step_2 hm ok hg hf hb1 hat e2
 by_cases e3:c.O.code[f.at'].op=3
 ·exact step_3 hm ok hg hf hb1 hat e3
 by_cases e4:c.O.code[f.at'].op=4
 ·exact step_4 hm ok hg hf hb1 hat e4
 by_cases e5:c.O.code[f.at'].op=5
 ·exact step_5 hm ok hg hf hb1 hat e5
 by_cases e6:c.O.code[f.at'].op=6
 ·exact step_6 hm ok hg hf hb1 hat e6
 by_cases e7:c.O.code[f.at'].op=7
 ·exact step_7 hm ok hg hf hb1 hat e7
 by_cases e8:c.O.code[f.at'].op=8
 ·exact step_8 hm ok hg hf hb1 hat e8
 by_cases e9:c.O.code[f.at'].op=9
 ·exact step_9 hm ok hg hf hb1 hat e9
 by_cases e10:c.O.code[f.at'].op=10
 ·exact step_10 hm ok hg hf hb1 hat e10
 by_cases e11:c.O.code[f.at'].op=11
 ·exact step_11 hm ok hg hf hb1 hat e11
 by_cases e12:c.O.code[f.at'].op=12
 ·exact step_12 hm ok hg hf hb1 hat e12
 by_cases e13:c.O.code[f.at'].op=13
 ·exact step_13 hm ok hg hf hb1 hat e13
 by_cases e14:c.O.code[f.at'].op=14
 ·exact step_14 hm ok hg hf hb1 hat e14
 by_cases e15:c.O.code[f.at'].op=15
 ·exact step_15 hm ok hg hf hb1 hat e15
 by_cases e16:c.O.code[f.at'].op=16
 ·exact step_16 hm ok hg hf hb1 hat e16
 exact step_17 hm ok hg hf hb1 hat (by omega)
def GoP (c:Vx) (s:Vm.St) (e:Ending) (W':World):Prop:=MV c W' s/\∃ oa oc,e=.returned (.agg #[.int .i64 (s.way:Int),.slice oa s.out.length oc])/\W'.ownsRow (c.gb+1) 2 1 (.slice oa s.out.length oc) s.out.length (ints s.out)
theorem goes_back (most:Nat):∀(n:Nat) (s:Vm.St),s.way=0->Vm.goes most (n+1) s=Vm.goes most n (Vm.step most s):=fun n s h=>by
 rw[Vm.goes,if_pos h]
def Vx.with (c:Vx) (b:Option Nat):Vx:={ c with eb:=fun x=>if b=some x then some (.cells #[.int .i64 0,.slice none 0 0] 46 (0,0)) else c.eb x }
theorem VxOk.with {c:Vx}(ok:VxOk c) (b:Option Nat):VxOk (c.with b):=⟨ok.oa,ok.rt,ok.i64,ok.us,ok.gb,ok.pb,ok.vb,ok.vs,ok.inj,ok.ml,ok.gm,ok.mrk⟩
theorem MM.with {c:Vx}{W:World}{s:Vm.St}{vv:List (List Int)}{fv sv ov:Value}(h:MM c W s vv fv sv ov) (b:Option Nat) (hb:∀ x,b=some x->W.heap[x]?=some (.cells #[.int .i64 0,.slice none 0 0] 46 (0,0))):MM (c.with b) W s vv fv sv ov :=
 ⟨h.be,h.pk,h.vk,h.th,h.vn,h.vm,h.fr,h.st,h.ou,h.dj,h.sl,h.si,h.ol,h.oi,h.fl,h.fm,fun f hf=>⟨(h.ff f hf).of,(h.ff f hf).ll,(h.ff f hf).li,(h.ff f hf).mn,(h.ff f hf).at',(h.ff f hf).bs⟩,fun x o hx=>by
  have hx:(if b=some x then some (Obj.cells #[.int .i64 0,.slice none 0 0] 46 (0,0)) else c.eb x)=some o:=hx
  by_cases e:b=some x
  ·rw[if_pos e]at hx
   cases hx
   exact⟨hb x e,fun cs e' f q=>by cases q;exact⟨by unfold Wet;decide,fun k=>absurd k (by decide)⟩⟩
  ·rw[if_neg e]at hx
   exact h.ek x o hx⟩
theorem MM.ebox {c:Vx}{W:World}{s:Vm.St}{vv:List (List Int)}{fv sv ov:Value}{way x:Nat}{cs:Array Value}(h:MM c W s vv fv sv ov) (hg:G8 c W fv sv ov way) (he:c.eb x=none) (hx:W.heap[x]?=some (.cells cs 46 (0,0))) (hb:c.w0.heap.size<=x) (j:Nat) (u:Value):MM c (W.setCell ⟨x,j,none⟩ u) s vv fv sv ov/\G8 c (W.setCell ⟨x,j,none⟩ u) fv sv ov way:=by
 have k6:∀ b,b≠x->(W.setCell ⟨x,j,none⟩ u).heap[b]?=W.heap[b]?:=fun b hb=>Below.heap_setCell _ _ _ _ (by simpa using hb)
 refine⟨⟨h.be.setCell hb _,(k6 _ (vK h.pk hx (by decide))).trans h.pk,yq h.vk fun b cur _ hc=>k6 b (vK hc hx (by decide)),h.th,h.vn,fun i hi=>?_,?_,?_,?_,h.dj,h.sl,h.si,h.ol,h.oi,h.fl,h.fm,h.ff,fun b o hb=>⟨(k6 b fun q=>by rw[q,he]at hb;cases hb).trans (h.ek b o hb).1,(h.ek b o hb).2⟩⟩,(k6 _ (vK hg hx (by decide))).trans hg⟩
 ·obtain⟨a1,a2,a3⟩:=h.vm i hi
  exact⟨a1,(k6 _ (vK a2 hx (by decide))).trans a2,a3⟩
 ·exact z7 h.fr fun b _ _ q=>k6 b fun e=>zJ h.fr hx (by decide) (e ▸ q)
 ·exact z7 h.st fun b _ _ q=>k6 b fun e=>zJ h.st hx (by decide) (e ▸ q)
 ·exact z7 h.ou fun b _ _ q=>k6 b fun e=>zJ h.ou hx (by decide) (e ▸ q)
theorem goes_end (most:Nat):∀(n:Nat) {s:Vm.St},¬s.way=0->Vm.goes most n s=s
 | 0,s,h=>by rw[Vm.goes,if_neg h]
 | n+1,s,h=>by rw[Vm.goes,if_neg h]
theorem goes_fin {c:Vx}{x:Nat}{t:Vm.St}{wr:World}(ok:VxOk c) (heb:c.eb x=none) (hxw:c.w0.heap.size<=x) (h:MV (c.with (some x)) wr t):∃ oa oc,wr.cell? ⟨c.gb,4,none⟩=some (.slice oa t.out.length oc)/\wr.cell? ⟨c.gb,5,none⟩=some (.int .i64 (t.way:Int))/\wr.cell? ⟨x,0,none⟩=some (.int .i64 0)/\wr.cell? ⟨x,1,none⟩=some (.slice none 0 0)/\(∀ j,wr.frozen? ⟨x,j,none⟩=false)/\x<wr.heap.size/\c.gb<wr.heap.size/\(∀ wy,wy=((wr.setCell ⟨x,0,none⟩ (.int .i64 (t.way:Int))).setCell ⟨x,1,none⟩ (.slice oa t.out.length oc)).drew->GoP c t (.returned (.agg #[.int .i64 (t.way:Int),.slice oa t.out.length oc])) wy/\wy.cell? ⟨x,0,none⟩=some (.int .i64 (t.way:Int))/\wy.cell? ⟨x,1,none⟩=some (.slice oa t.out.length oc)):=by
 obtain⟨vv,fv,sv,ov,hm,hg⟩:=h
 obtain⟨oa,oc,hov⟩:=zy hm.ou
 have hov:ov=.slice oa t.out.length oc:=hov
 subst hov
 have hx:=(hm.ek x _ (by show (if some x=some x then _ else _)=_;rw[if_pos rfl])).1
 refine⟨oa,oc,(zc hg).trans rfl,(zc hg).trans rfl,(zc hx).trans rfl,(zc hx).trans rfl,fun j=>zr hx,zk hx,zk hg,fun wy hy=>?_⟩
 have hm0:MM c wr t vv fv sv (.slice oa t.out.length oc) :=
  ⟨hm.be,hm.pk,hm.vk,hm.th,hm.vn,hm.vm,hm.fr,hm.st,hm.ou,hm.dj,hm.sl,hm.si,hm.ol,hm.oi,hm.fl,hm.fm,fun f hf=>⟨(hm.ff f hf).of,(hm.ff f hf).ll,(hm.ff f hf).li,(hm.ff f hf).mn,(hm.ff f hf).at',(hm.ff f hf).bs⟩,fun b o hb=>hm.ek b o (by
   show (if some x=some b then _ else _)=_
   rw[if_neg (fun q=>by cases q;rw[heb]at hb;cases hb)]
   exact hb)⟩
 have hg0:G8 c wr fv sv (.slice oa t.out.length oc) t.way:=hg
 obtain⟨a1,a2⟩:=hm0.ebox hg0 heb hx hxw 0 (.int .i64 (t.way:Int))
 obtain⟨b1,b2⟩:=a1.ebox a2 heb (zC 0 (.int .i64 (t.way:Int)) hx) hxw 1 (.slice oa t.out.length oc)
 have hb:=zt ((wr.setCell ⟨x,0,none⟩ (.int .i64 (t.way:Int))).setCell ⟨x,1,none⟩ (.slice oa t.out.length oc))
 have hxy:=zC 1 (.slice oa t.out.length oc) (zC 0 (.int .i64 (t.way:Int)) hx)
 rw[<-hy]at hb
 have c1:=b1.below ok b2 hb
 have hxy:=(hb.block _ (zk hxy)).trans hxy
 exact⟨⟨⟨vv,fv,sv,_,c1,(hb.block _ (zk b2)).trans b2⟩,oa,oc,rfl,c1.ou⟩,(zc hxy).trans rfl,(zc hxy).trans rfl⟩
theorem goes8 {c:Vx}{W:World}{s:Vm.St}(h:MV c W s) (ok:VxOk c) (inv:Inv c.O s) (n:Nat) (hn:n<=1000000) :
  Calls Tryz.prog 37 #[.pointer (some ⟨c.gb,0,none⟩),.int .i64 (n:Int)] W (GoP c (Vm.goes c.most n s)):=by
 obtain⟨w0,hw0⟩:∃ w0,w0=W.alloc (.cells #[.int .i64 0,.slice none 0 0] 46):=⟨_,rfl⟩
 have hb0:Below W.heap.size W w0:=by rw[hw0];exact zb _ _
 have hk0:w0.heap[W.heap.size]?=some (.cells #[.int .i64 0,.slice none 0 0] 46 (0,0)):=by rw[hw0];exact zw _ _
 have okd:=ok.with (some W.heap.size)
 have hm0:MV (c.with (some W.heap.size)) w0 s:=by
  obtain⟨vv,fv,sv,ov,h1,h2⟩:=h.below ok hb0
  exact⟨vv,fv,sv,ov,h1.with _ fun x hx=>by cases hx;exact hk0,h2⟩
 obtain⟨x,hx⟩:∃ x,x=W.heap.size:=⟨_,rfl⟩
 have hxw:c.w0.heap.size<=x:=by
  obtain⟨vv,fv,sv,ov,h1,h2⟩:=h
  rw[hx]
  exact h1.be.size
 rw[<-hx]at okd hm0
 have HM0:=zh hm0
 have HOD:=zh okd
 have HOK:=zh ok
 have HINV:=zh inv
 have HEB:Hid (c.eb x=none):=by
  cases q:c.eb x with
  | none=>rfl
  | some o =>
   obtain⟨vv,fv,sv,ov,h1,h2⟩:=h
   have:=yC (h1.ek x o q).1
   omega
 have HST:Hid (∀ wr t,MV (c.with (some x)) wr t->Inv c.O t->Calls Tryz.prog 76 #[.pointer (some ⟨c.gb,0,none⟩)] wr (StepP (c.with (some x)) (Vm.step c.most t))):=fun wr t q1 q2=>step8 q1 okd q2
 clear h inv hb0 hk0 okd hm0 ok
 go_enter Tryz.func37,Tryz.ntmps37
 go_upto_region 1 with fail
 rw[<-hx,<-hw0]
 clear hw0 hx
 go_wp2_with fail
 go_loopg [5] n (fun k vi wr=>∃(i:Nat) (t:Vm.St),i<=n/\k=n - i/\vi=.int .i64 (i:Int)/\Hid (MV (c.with (some x)) wr t)/\Hid (Vm.goes c.most n s=Vm.goes c.most (n - i) t)/\Hid (t.way=0->Inv c.O t))
 case atStart=>exact⟨0,s,by omega,by omega,by simp,HM0,zh rfl,zh fun _=>HINV.out⟩
 case round =>
  obtain⟨i,t,hin,hki,rfl,HM,HG,HI⟩:=hrel
  clear HM0
  by_cases hw:t.way=0
  ·obtain⟨vv,fv,sv,ov,hm,hg⟩:=HM.out
   have k5:wr.cell? ⟨c.gb,5,none⟩=some (.int .i64 0):=(zc hg).trans (by rw[hw];rfl)
   have z5:wr.frozen? ⟨c.gb,5,none⟩=false:=zr hg
   have hgl:c.gb<wr.heap.size:=zk hg
   by_cases hlt:i<n
   ·have hlt':(i:Int)<(n:Int):=by omega
    have HS:=zh (HST.out wr t HM.out (HI.out hw))
    have HNX:Hid (∀ w6,MV (c.with (some x)) w6 (Vm.step c.most t)->Hid (MV (c.with (some x)) w6 (Vm.step c.most t))/\Hid (Vm.goes c.most n s=Vm.goes c.most (n - (i+1)) (Vm.step c.most t))/\Hid ((Vm.step c.most t).way=0->Inv c.O (Vm.step c.most t))):=fun w6 q=>⟨q,zh (HG.out.trans (by rw[show n - i=(n - (i+1))+1 by omega,goes_back _ _ _ hw])),zh fun q0=>inv_step HOK.out hm.th (fun f hf=>(hm.ff f hf).of) (HI.out hw) q0⟩
    clear hm hg hw HI HG HM
    go_wp2_with fail
    refine HS.out.mono ?_
    rintro e w6 ⟨rfl,hm6⟩
    obtain⟨H1,H2,H3⟩:=HNX.out w6 hm6
    clear hm6 HS HNX k5 z5 hgl
    go_wp2_with fail
    go_roundg (n - (i+1))
    case measure=>omega
    case rel=>exact⟨i+1,Vm.step c.most t,by omega,rfl,by first|rfl|(congr 1;done)|(simp;done),H1,H2,H3⟩
   ·have hin':i=n:=by omega
    subst hin'
    have hlt':¬((i:Int)<(i:Int)):=by omega
    have HF:=zh (goes_fin (x:=x) (t:=Vm.ended 5 t) (wr:=wr.setCell ⟨c.gb,5,none⟩ (.int .i64 5)) HOK.out HEB.out hxw (MV.end hm HOD.out hg 5))
    have hgo:Vm.goes c.most i s=Vm.ended 5 t:=by rw[HG.out,Nat.sub_self,Vm.goes,if_pos hw]
    have HGO:=zh hgo
    clear hm hg hw HI HG HM hgo hlt HST HINV HOD
    go_wp2_with fail
    obtain⟨wz,hwz⟩:∃ wz,wz=wr.setCell ⟨c.gb,5,none⟩ (.int .i64 5):=⟨_,rfl⟩
    rw[<-hwz]at HF
    obtain⟨oa,oc,k4,k5',kx0,kx1,zx,hxl,hgz,hfin⟩:=HF.out
    have HFIN:=zh hfin
    clear HF hfin k5 z5 hgl
    rw[<-hwz]
    clear hwz
    generalize (Vm.ended 5 t).out.length=ol at *
    have z0:=zx 0
    have z1:=zx 1
    clear zx
    go_region_law (fail)
    all_goals (
     obtain⟨wy,hwy⟩:∃ wy,wy=((wz.setCell ⟨x,0,none⟩ (.int .i64 ((Vm.ended 5 t).way:Int))).setCell ⟨x,1,none⟩ (.slice oa ol oc)).drew:=⟨_,rfl⟩
     rw[<-hwy]
     obtain⟨hr,f0,f1⟩:=HFIN.out wy hwy
     have HR:=zh hr
     clear hr hwy HFIN
     go_wp2_with fail
     exact bodyPost_ret (v:=.agg #[.int .i64 ((Vm.ended 5 t).way:Int),.slice oa ol oc]) (by simp[results,Tryz.results37,go_sem,f0,f1]) rfl (by rw[HGO.out];exact HR.out))
  ·obtain⟨oa,oc,k4,k5,kx0,kx1,zx,hxl,hgz,hfin⟩:=goes_fin (x:=x) HOK.out HEB.out hxw HM.out
   have hw':¬((t.way:Int)=0):=by omega
   have hgo:Vm.goes c.most n s=t:=by rw[HG.out,goes_end _ _ hw]
   have HGO:=zh hgo
   have HFIN:=zh hfin
   clear hfin hw HI HG HM hgo HST HINV HOD
   go_wp2_with fail
   generalize t.out.length=ol at *
   have z0:=zx 0
   have z1:=zx 1
   clear zx
   go_region_law (fail)
   all_goals (
    obtain⟨wy,hwy⟩:∃ wy,wy=((wr.setCell ⟨x,0,none⟩ (.int .i64 (t.way:Int))).setCell ⟨x,1,none⟩ (.slice oa ol oc)).drew:=⟨_,rfl⟩
    rw[<-hwy]
    obtain⟨hr,f0,f1⟩:=HFIN.out wy hwy
    have HR:=zh hr
    clear hr hwy HFIN
    go_wp2_with fail
    exact bodyPost_ret (v:=.agg #[.int .i64 (t.way:Int),.slice oa ol oc]) (by simp[results,Tryz.results37,go_sem,f0,f1]) rfl (by rw[HGO.out];exact HR.out))
def FitsP (W:World) (o:O) (e:Ending) (W':World):Prop:=e=.returned (if o.uses=[] then .nilIface else .iface 30 (.int .i64 8))/\Below W.heap.size W W'
theorem fits8 {W:World}{mb ob oo:Nat}{o:O}(hm:W.cell? ⟨mb,0,none⟩=some (.map none)) (h:Jo.OA W ob oo o) (hn:∀ u∈o.uses,u.name.length<=1000000) :
  Calls Tryz.prog 34 #[.pointer (some ⟨mb,0,none⟩),.pointer (some ⟨ob,oo,none⟩)] W (FitsP W o):=by
 obtain⟨sa,ua,va,pa,na,ca,sc,uc,vc,pc,nc,cc,h⟩:=h
 have k2:=h.c2
 have hob:ob<W.heap.size:=zi h.c2
 have hml:mb<W.heap.size:=zi hm
 by_cases hu:o.uses=[]
 ·have HP:Hid (FitsP W o (.returned .nilIface) W):=⟨by rw[if_pos hu],Below.refl _ _⟩
  rw[hu]at k2
  have k2:W.cell? ⟨ob,oo+2,none⟩=some (.slice ua 0 uc):=k2
  clear h hn hu hm hml
  go_enter Tryz.func34,Tryz.ntmps34
  go_wp2_with fail
  go_loopg [13] 0 (fun k vi wr=>vi=.int .i64 0/\wr=W)
  case atStart=>exact⟨rfl,rfl⟩
  case round =>
   obtain⟨rfl,rfl⟩:=hrel
   go_wp2_with fail
   go_ret
   exact HP.out
 ·obtain⟨u,us,hus⟩:∃ u us,o.uses=u :: us:=by
   cases hq:o.uses with
   | nil=>exact absurd hq hu
   | cons u us=>exact⟨u,us,rfl⟩
  obtain⟨ucs,hr,hs⟩:=h.u
  obtain⟨na',nc',e0,e1,e2,e2'⟩:=RepN.get _ _ hr 0 (by rw[hus];simp)
  obtain⟨a',c',e3,_,hc⟩:=hs
  cases e3
  obtain⟨b,q,rfl,y0⟩:=hc 0 _ e0
  obtain⟨b1,q1,z1,y1⟩:=hc 1 _ e1
  cases z1
  obtain⟨b2,q2,z2,y2⟩:=hc 2 _ e2
  cases z2
  have hl:=hn u (by rw[hus];simp)
  have eu:o.uses[0]'(by rw[hus];simp)=u:=by simp[hus]
  rw[eu]at y0 y1 y2
  have hbl:b<W.heap.size:=zi y0
  obtain⟨w0,hw0⟩:∃ w0,w0=W.alloc (.cells #[.string (bs u.name),.string (bs u.need),.slice na' u.names.length nc'] 65):=⟨_,rfl⟩
  have hb0:Below W.heap.size W w0:=by rw[hw0];exact zb _ _
  have hk0:w0.heap[W.heap.size]?=some (.cells #[.string (bs u.name),.string (bs u.need),.slice na' u.names.length nc'] 65 (0,0)):=by rw[hw0];exact zw _ _
  have hx0:w0.cell? ⟨W.heap.size,0,none⟩=some (.string (bs u.name)):=(zc hk0).trans rfl
  have hm0:w0.cell? ⟨mb,0,none⟩=some (.map none):=(hb0.cell (p:=⟨mb,0,none⟩) hml).trans hm
  have hl0:W.heap.size<w0.heap.size:=zk hk0
  have hml0:mb<w0.heap.size:=by omega
  have hlk:∀ n,(Instr.lookup 42 (.map none) (.string (bs u.name)) false).run Tryz.prog (w0.drewN n)=.ok (.pointer none) (w0.drewN n):=fun n=>kL (w0.drewN n) (t:=42) (e:=81) Tryz.underlying42 (by kernel_rfl) u.name hl false
  have HP:Hid (∀ n,FitsP W o (.returned (.iface 30 (.int .i64 8))) (w0.drewN n)):=fun n=>⟨by rw[if_neg hu],hb0.trans ((below_drewN w0 n).mono hb0.size)⟩
  have hpos:0<o.uses.length:=by rw[hus];simp
  have hul:(0:Int)<(o.uses.length:Int):=by omega
  clear e2'
  obtain⟨ul,hule⟩:∃ ul,ul=o.uses.length:=⟨_,rfl⟩
  rw[<-hule]at k2 hul
  have y0:W.cell? ⟨b,q,none⟩=some (.string (bs u.name)):=y0
  have y1:W.cell? ⟨b,q+1,none⟩=some (.string (bs u.need)):=y1
  have y2:W.cell? ⟨b,q+2,none⟩=some (.slice na' u.names.length nc'):=y2
  clear h hn hm hr hc e0 e1 e2 hb0 hk0 hu hus eu hpos hule
  go_enter Tryz.func34,Tryz.ntmps34
  go_wp2_with fail
  go_loopg [13] 1 (fun k vi wr=>vi=.int .i64 0/\k=1/\wr=W)
  case atStart=>exact⟨rfl,rfl,rfl⟩
  case round =>
   obtain⟨rfl,rfl,rfl⟩:=hrel
   go_upto_region 4 with fail
   rw[<-hw0]
   clear hw0
   go_quiet (fail)
   have HQ:=HP.out nq
   go_wp2_with fail
   go_ret
   exact HQ
end Go.Proofs.YtmnedfdffbbchaaGreatDoor.Jo

namespace Go.Proofs.YtmnedfdffbbchaaGreatDoor.Jo
open Go.RowKit Go.Maps
open Ob (O In I64)
theorem mapNil8 (w:World):(binOp .eql 42 (.map none) (.map none)).run Tryz.prog w=.ok (.bool true) w:=by kernel_rfl
def PlaceP (W:World) (mb pb:Nat) (nm:Tp.Bs) (e:Ending) (W':World):Prop:=e=.returned (.tuple #[])/\Ext mb W W'/\W'.heap[mb]?=some (.cells #[.map (some W.heap.size)] 44 (0,0))/\MapV W' W.heap.size 1 (updV (fun _=>none) nm (.pointer (some ⟨pb,0,none⟩)))
theorem place8 {W:World}{mb pb ob oo:Nat}{nm:Tp.Bs}{vv:Value}(hw:W.heap[mb]?=some (.cells #[.map none] 44 (0,0))) (hl:W.heap[pb]?=some (.cells #[.pointer (some ⟨ob,oo,none⟩),vv] 95 (0,0))) (hne:pb≠mb) (ho:W.cell? ⟨ob,oo,none⟩=some (.string (bs nm))) (hom:ob≠mb) (hn:nm.length<=1000000) :
  Calls Tryz.prog 36 #[.pointer (some ⟨mb,0,none⟩),.pointer (some ⟨pb,0,none⟩)] W (PlaceP W mb pb nm):=by
 have hmm:=@run_makeMap Tryz.prog
 have hmn:=@mapNil8
 have hwl:=zk hw
 have hll:=zk hl
 have hol:=zi ho
 have k1:W.cell? ⟨mb,0,none⟩=some (.map none):=(zc hw).trans rfl
 have hz:W.frozen? ⟨mb,0,none⟩=false:=zr hw
 obtain⟨w1,hw1⟩:∃ w1,w1=(W.setCell ⟨mb,0,none⟩ (.map (some W.heap.size))).alloc (.map #[] 0):=⟨_,rfl⟩
 have hb1:w1.heap[mb]?=some (.cells #[.map (some W.heap.size)] 44 (0,0)):=by rw[hw1];exact(Below.heap_alloc _ _ _ (by simpa using hwl)).trans ((zC 0 _ hw).trans rfl)
 have hs1:w1.heap.size=W.heap.size+1:=by rw[hw1];simp
 have hx1:Ext mb W w1:=by
  rw[hw1]
  exact((Ext.refl mb W).set 0 _).trans (Ext.below (zb _ _))
 have hl1:w1.heap[pb]?=some (.cells #[.pointer (some ⟨ob,oo,none⟩),vv] 95 (0,0)):=(hx1.block pb hll hne).trans hl
 have ho1:w1.cell? ⟨ob,oo,none⟩=some (.string (bs nm)):=(World.cell?_of_block (w:=W) (hx1.block ob hol hom)).trans ho
 have hm1:MapV w1 W.heap.size 0 (fun _=>none):=by
  have:=MapV.made (W.setCell ⟨mb,0,none⟩ (.map (some W.heap.size)))
  rw[show (W.setCell ⟨mb,0,none⟩ (.map (some W.heap.size))).heap.size=W.heap.size by simp]at this
  rw[hw1]
  exact this
 obtain⟨w2,hmu,q1,q2,q3⟩:=(hm1.on (w':=w1.drew) rfl).store (t:=42) Tryz.underlying42 (by omega) nm hn (.pointer (some ⟨pb,0,none⟩))
 have hmu:(Instr.mapUpdate 42 (.map (some W.heap.size)) (.string (bs nm)) (.pointer (some ⟨pb,0,none⟩))).run Tryz.prog w1.drew=.ok () w2:=hmu
 have hb2:w2.heap[mb]?=some (.cells #[.map (some W.heap.size)] 44 (0,0)):=(q2.block mb (by show mb<w1.heap.size;omega) (by omega)).trans hb1
 have hx2:∀ b,b<W.heap.size->b≠mb->w2.heap[b]?=W.heap[b]?:=fun b h1 h2=>(q2.block b (by show b<w1.heap.size;omega) (by omega)).trans (hx1.block b h1 h2)
 have HFIN:Hid (PlaceP W mb pb nm (.returned (.tuple #[])) w2):=⟨rfl,⟨q2.os.trans hx1.os,q2.tape.trans hx1.tape,q2.output.trans hx1.output,by have:w2.heap.size=w1.heap.size:=q3;omega,hx2⟩,hb2,q1⟩
 have m1:w1.cell? ⟨mb,0,none⟩=some (.map (some W.heap.size)):=(zc hb1).trans rfl
 have ml:w1.cell? ⟨pb,0,none⟩=some (.pointer (some ⟨ob,oo,none⟩)):=(zc hl1).trans rfl
 have hwl1:mb<w1.heap.size:=zk hb1
 have hll1:pb<w1.heap.size:=zk hl1
 have hol1:ob<w1.heap.size:=zi ho1
 clear hw hl hb1 hl1 hs1 hx1 hm1 q1 q2 q3 hb2 hx2 ho
 go_enter Tryz.func36,Tryz.ntmps36
 go_upto_region 2 with fail
 rw[<-hw1]
 clear hw1 hz k1
 go_region
 go_wp2_with fail
 exact ze rfl rfl HFIN.out
theorem Tryz.infoInt64s:(Tryz.prog.info? 23).map (fun i=>(i.zero,i.size,i.bytes))=some (some (.slice none 0 0),1,24):=by kernel_rfl
theorem madeZ8 (n:Nat):madeCells (Value.cells (.int .i64 0)) n=(ints (List.replicate n 0)).toArray:=by
 apply Array.ext
 ·simp[madeCells,ints]
 ·intro i h1 h2
  simp[madeCells,ints,Value.cells]
  rw[Nat.mod_one]
  rfl
theorem run_makeI8 (n:Nat) (hn:n<=100000) (w:World):(Instr.makeSlice 23 (.int .i64 (n:Int)) (.int .i64 (n:Int))).run Tryz.prog w=.ok (.slice (some ⟨w.heap.size,0,none⟩) n n) (w.alloc (.cells (ints (List.replicate n 0)).toArray 2)):=by
 obtain⟨i0,hi,hz0,hz1,hz2⟩:=info_parts Tryz.infoInt64
 have h:=run_make (P:=Tryz.prog) w 23 2 i0 (.int .i64 0) Tryz.underlying23 hi hz0 .i64 .i64 (n:Int) (n:Int) (by omega) (by omega) (by rw[hz2];omega) (by omega)
 rw[h,hz1,<-madeZ8]
 simp
def gl8 (l:List Ob.Gl) (i:Nat):Nat:=(max 1 ((l[i]?.map fun g:Ob.Gl=>g.len).getD 1)).toNat
def sl8 (l:List Ob.Gl) (vs:Nat->Nat) (i:Nat):Value:=.slice (some ⟨vs i,0,none⟩) (gl8 l i) (gl8 l i)
structure FI (W:World) (ob oo pb:Nat) (l:List Ob.Gl) (i:Nat) (wr:World) (vs:Nat->Nat) (va:Option Addr) (vc:Nat):Prop where
 be:Below W.heap.size W wr
 pk:wr.heap[pb]?=some (.cells #[.pointer (some ⟨ob,oo,none⟩),.slice va i vc] 95 (0,0))
 ow:wr.ownsRow W.heap.size 23 1 (.slice va i vc) i ((List.range i).map (sl8 l vs))
 vk:∀ j,j<i->W.heap.size<=vs j/\wr.heap[vs j]?=some (.cells (ints (List.replicate (gl8 l j) 0)).toArray 2 (0,0))
 inj:∀ j k,j<i->k<i->vs j=vs k->j=k
theorem FI.next {W wr wq w5:World}{ob oo pb i x vc vc':Nat}{l:List Ob.Gl}{vs:Nat->Nat}{va va':Option Addr}(h:FI W ob oo pb l i wr vs va vc) (hp:W.heap.size<=pb) (h1:Below wr.heap.size wr wq) (hx:wr.heap.size<=x) (hk:wq.heap[x]?=some (.cells (ints (List.replicate (gl8 l i) 0)).toArray 2 (0,0)))
  (q1:w5.ownsRow W.heap.size 23 1 (.slice va' (i+1) vc') (i+1) ((List.range i).map (sl8 l vs)++[.slice (some ⟨x,0,none⟩) (gl8 l i) (gl8 l i)])) (q2:wq.grownBy w5 (Value.slice va i vc).ownBlock) :
  ∃ vs',FI W ob oo pb l (i+1) (w5.setCell ⟨pb,1,none⟩ (.slice va' (i+1) vc')) vs' va' vc':=by
 have hlt:∀ j,j<i->vs j<wr.heap.size:=fun j hj=>zk (h.vk j hj).2
 have hpl:pb<wr.heap.size:=zk h.pk
 have hsz:=h1.size
 have hown:∀ b,(Value.slice va i vc).ownBlock=some b->W.heap.size<=b:=fun b hb=>zG h.ow b hb
 have k5:∀ b,b<wq.heap.size->(Value.slice va i vc).ownBlock≠some b->w5.heap[b]?=wq.heap[b]?:=fun b hb hn=>q2.block b hb fun e=>hn e.symm
 have pq:wq.heap[pb]?=_:=(h1.block _ hpl).trans h.pk
 have p5:w5.heap[pb]?=_:=(k5 _ (Nat.lt_of_lt_of_le hpl hsz) (zJ h.ow h.pk (by decide))).trans pq
 have hv5:∀ j,j<i->w5.heap[vs j]?=some (.cells (ints (List.replicate (gl8 l j) 0)).toArray 2 (0,0)):=fun j hj=>(k5 _ (Nat.lt_of_lt_of_le (hlt j hj) hsz) (zJ h.ow (h.vk j hj).2 (by decide))).trans ((h1.block _ (hlt j hj)).trans (h.vk j hj).2)
 have hx5:w5.heap[x]?=some (.cells (ints (List.replicate (gl8 l i) 0)).toArray 2 (0,0)):=(k5 _ (zk hk) fun e=>by
  have:=(h.ow.lt x e).2
  omega).trans hk
 have hn:∀ {b:Nat} {cs:Array Value},w5.heap[b]?=some (.cells cs 2 (0,0))->(w5.setCell ⟨pb,1,none⟩ (.slice va' (i+1) vc')).heap[b]?=some (.cells cs 2 (0,0)):=fun {b cs} q=>(Below.heap_setCell _ _ _ _ (vK q p5 (by decide))).trans q
 refine⟨fun j=>if j=i then x else vs j,?_,?_,?_,?_,?_⟩
 ·exact((h.be.trans (h1.mono h.be.size)).grown q2 (Nat.le_trans h.be.size hsz) (fun k hk=>hown k hk)).setCell hp _
 ·exact(zC 1 _ p5).trans rfl
 ·have e:(List.range (i+1)).map (sl8 l fun j=>if j=i then x else vs j)=(List.range i).map (sl8 l vs)++[.slice (some ⟨x,0,none⟩) (gl8 l i) (gl8 l i)]:=by
   rw[List.range_succ,List.map_append]
   congr 1
   ·apply List.map_congr_left
    intro j hj
    have:=List.mem_range.1 hj
    have e0:j≠i:=by omega
    simp[sl8,e0]
   ·simp[sl8]
  rw[e]
  exact z7 q1 fun b _ _ q=>Below.heap_setCell _ _ _ _ fun e'=>by
   have e':b=pb:=e'
   exact zJ q1 p5 (by decide) (e' ▸ q)
 ·intro j hj
  by_cases e:j=i
  ·subst e
   rw[if_pos rfl]
   exact⟨by have:=h.be.size;omega,hn hx5⟩
  ·rw[if_neg e]
   exact⟨(h.vk j (by omega)).1,hn (hv5 j (by omega))⟩
 ·intro j k hj hk' e
  by_cases e1:j=i <;> by_cases e2:k=i
  ·omega
  ·rw[if_pos e1,if_neg e2]at e
   have:=hlt k (by omega)
   omega
  ·rw[if_neg e1,if_pos e2]at e
   have:=hlt j (by omega)
   omega
  ·rw[if_neg e1,if_neg e2]at e
   exact h.inj j k (by omega) (by omega) e
def FreshP (W:World) (ob oo:Nat) (l:List Ob.Gl) (e:Ending) (W':World):Prop:=∃ pb vs va vc,e=.returned (.pointer (some ⟨pb,0,none⟩))/\W.heap.size<=pb/\FI W ob oo pb l l.length W' vs va vc
theorem fresh8 {W:World}{ob oo:Nat}{o:O}(h:Jo.OA W ob oo o) (hl:o.vars.length<=1000) (hg:∀ g∈o.vars,g.len<=1000) :
  Calls Tryz.prog 35 #[.pointer (some ⟨ob,oo,none⟩)] W (FreshP W ob oo o.vars):=by
 obtain⟨sa,ua,va,pa,na,ca,sc,uc,vc,pc,nc,cc,h⟩:=h
 obtain⟨pb,hpb⟩:∃ pb,pb=W.heap.size:=⟨_,rfl⟩
 obtain⟨w0,hw0⟩:∃ w0,w0=W.alloc (.cells #[.pointer (some ⟨ob,oo,none⟩),.slice none 0 0] 95):=⟨_,rfl⟩
 have hb0:Below W.heap.size W w0:=by rw[hw0];exact zb _ _
 have hk0:w0.heap[pb]?=some (.cells #[.pointer (some ⟨ob,oo,none⟩),.slice none 0 0] 95 (0,0)):=by rw[hw0,hpb];exact zw _ _
 have HF0:Hid (∃ vs va vc,FI W ob oo pb o.vars 0 w0 vs va vc):=⟨fun _=>0,none,0,hb0,hk0,World.ownsRow_nil _ _ _ _,fun j hj=>by omega,fun j k hj=>by omega⟩
 have HPB:Hid (W.heap.size<=pb):=by rw[hpb];exact Nat.le_refl _
 have HV:Hid (∀ i (hi:i<o.vars.length),∃ b q,va=some ⟨b,q,none⟩/\∀ wr,Below W.heap.size W wr->b<wr.heap.size/\wr.cell? ⟨b,q+i * 4,none⟩=some (.string (bs o.vars[i].name))/\wr.cell? ⟨b,q+i * 4+1,none⟩=some (.int .i64 o.vars[i].at')/\wr.cell? ⟨b,q+i * 4+2,none⟩=some (.int .i64 o.vars[i].len)/\wr.cell? ⟨b,q+i * 4+3,none⟩=some (.bool o.vars[i].seen)):=fun i hi=>by
  obtain⟨b,q,e,hb,hc⟩:=Sl.at' jH (by omega) h.v i hi
  refine⟨b,q,e,fun wr hr=>?_⟩
  have k:∀ j u,(glC o.vars[i])[j]?=some u->wr.cell? ⟨b,q+(i * 4+j),none⟩=some u:=fun j u hj=>(hr.cell (p:=⟨b,q+(i * 4+j),none⟩) hb).trans (hc j u hj)
  exact⟨Nat.lt_of_lt_of_le hb hr.size,k 0 _ rfl,by simpa[Nat.add_assoc] using k 1 _ rfl,by simpa[Nat.add_assoc] using k 2 _ rfl,by simpa[Nat.add_assoc] using k 3 _ rfl⟩
 have k3:w0.cell? ⟨ob,oo+3,none⟩=some (.slice va o.vars.length vc):=(hb0.cell (p:=⟨ob,oo+3,none⟩) (zi h.c3)).trans h.c3
 have hol:ob<w0.heap.size:=zi k3
 have hmk:=fun i=>run_makeI8 (gl8 o.vars i) (by
  unfold gl8
  cases q:o.vars[i]? with
  | none=>simp
  | some g =>
   have:=hg g (List.mem_of_getElem? q)
   simp only [Option.map_some,Option.getD_some]
   omega)
 have HMK:Hid (∀(i:Nat) (w:World),(Instr.makeSlice 23 (.int .i64 (gl8 o.vars i:Int)) (.int .i64 (gl8 o.vars i:Int))).run Tryz.prog w=.ok (.slice (some ⟨w.heap.size,0,none⟩) (gl8 o.vars i) (gl8 o.vars i)) (w.alloc (.cells (ints (List.replicate (gl8 o.vars i) 0)).toArray 2))):=hmk
 have HGL:Hid (∀ i (hi:i<o.vars.length),(if o.vars[i].len<1 then 1 else o.vars[i].len)=(gl8 o.vars i:Int)):=fun i hi=>by
  unfold gl8
  rw[List.getElem?_eq_getElem hi]
  simp only [Option.map_some,Option.getD_some]
  split <;> omega
 have HLE:Hid (∀ i (hi:i<o.vars.length),o.vars[i].len<=1000):=fun i hi=>hg _ (List.getElem_mem hi)
 obtain⟨n,hnn⟩:∃ n,n=o.vars.length:=⟨_,rfl⟩
 have HN:=zh hnn
 rw[<-hnn]at k3 hl
 have hn':(n:Int)<=1000:=by omega
 clear h hb0 hk0 hmk hg
 go_enter Tryz.func35,Tryz.ntmps35
 go_upto_region 2 with fail
 rw[<-hpb,<-hw0]
 clear hpb hw0
 go_wp2_with fail
 go_loopg [14] n (fun k vi wr=>∃ i:Nat,i<=n/\k=n - i/\vi=.int .i64 (i:Int)/\Hid (∃ vs va vc,FI W ob oo pb o.vars i wr vs va vc))
 case atStart=>exact⟨0,by omega,by omega,by simp,HF0⟩
 case round =>
  obtain⟨i,hin,hki,rfl,HFI⟩:=hrel
  by_cases hlt:i<n
  ·have hlt':(i:Int)<(n:Int):=by omega
   have hi:i<o.vars.length:=by rw[<-HN.out];exact hlt
   obtain⟨vs,pa',pc',hfi⟩:=HFI.out
   obtain⟨b,q,rfl,hv⟩:=HV.out i hi
   obtain⟨hbl,y0,y1,y2,y3⟩:=hv wr hfi.be
   have hmx:=HGL.out i hi
   have hmk:=HMK.out i
   obtain⟨w1,hw1⟩:∃ w1,w1=wr.alloc (.cells #[.string (bs o.vars[i].name),.int .i64 o.vars[i].at',.int .i64 o.vars[i].len,.bool o.vars[i].seen] 61):=⟨_,rfl⟩
   have hb1:Below wr.heap.size wr w1:=by rw[hw1];exact zb _ _
   have hk1:w1.heap[wr.heap.size]?=some (.cells #[.string (bs o.vars[i].name),.int .i64 o.vars[i].at',.int .i64 o.vars[i].len,.bool o.vars[i].seen] 61 (0,0)):=by rw[hw1];exact zw _ _
   have hp1:=(hb1.block _ (zk hfi.pk)).trans hfi.pk
   have x2:w1.cell? ⟨wr.heap.size,2,none⟩=some (.int .i64 o.vars[i].len):=(zc hk1).trans rfl
   have p1:w1.cell? ⟨pb,1,none⟩=some (.slice pa' i pc'):=(zc hp1).trans rfl
   have hxl:wr.heap.size<w1.heap.size:=zk hk1
   have hpl:pb<w1.heap.size:=zk hp1
   obtain⟨gn,hgn⟩:∃ gn,gn=gl8 o.vars i:=⟨_,rfl⟩
   rw[<-hgn]at hmx hmk
   have hgn9:gn<=1000:=by
    have hle:o.vars[i].len<=1000:=HLE.out i hi
    split at hmx <;> omega
   have hq0:Below w1.heap.size w1 ((w1.alloc (.cells (ints (List.replicate gn 0)).toArray 2)).alloc (.cells #[.slice (some ⟨w1.heap.size,0,none⟩) gn gn] 23)):=(zb _ _).alloc (by simp) _
   have HQ0:=zh hq0
   have hsz1:(w1.alloc (.cells (ints (List.replicate gn 0)).toArray 2)).heap.size=w1.heap.size+1:=by simp
   have HNB:Hid (((w1.alloc (.cells (ints (List.replicate gn 0)).toArray 2)).alloc (.cells #[.slice (some ⟨w1.heap.size,0,none⟩) gn gn] 23)).heap[w1.heap.size+1]?=some (.cells #[.slice (some ⟨w1.heap.size,0,none⟩) gn gn] 23 (0,0))):=by
    have:=zw (w1.alloc (.cells (ints (List.replicate gn 0)).toArray 2)) (.cells #[.slice (some ⟨w1.heap.size,0,none⟩) gn gn] 23)
    rw[hsz1]at this
    exact this
   have HNA:Hid (((w1.alloc (.cells (ints (List.replicate gn 0)).toArray 2)).alloc (.cells #[.slice (some ⟨w1.heap.size,0,none⟩) gn gn] 23)).heap[w1.heap.size]?=some (.cells (ints (List.replicate gn 0)).toArray 2 (0,0))):=(Below.heap_alloc _ _ _ (by simp)).trans (zw w1 _)
   have HOW:Hid (∀ wq,Below w1.heap.size w1 wq->wq.ownsRow W.heap.size 23 1 (.slice pa' i pc') i ((List.range i).map (sl8 o.vars vs))):=fun wq hb=>z7 hfi.ow fun b' _ q2 _=>(hb.block b' (Nat.lt_of_lt_of_le q2 hb1.size)).trans (hb1.block b' q2)
   have HBS:Hid (W.heap.size<=w1.heap.size):=Nat.le_trans hfi.be.size hb1.size
   have HNX:Hid (∀ wq w5 va' vc',Below w1.heap.size w1 wq->wq.heap[w1.heap.size]?=some (.cells (ints (List.replicate gn 0)).toArray 2 (0,0))->w5.ownsRow W.heap.size 23 1 (.slice va' (i+1) vc') (i+1) ((List.range i).map (sl8 o.vars vs)++[.slice (some ⟨w1.heap.size,0,none⟩) gn gn])->wq.grownBy w5 (Value.slice pa' i pc').ownBlock->(∃ vs' va vc,FI W ob oo pb o.vars (i+1) (w5.setCell ⟨pb,1,none⟩ (.slice va' (i+1) vc')) vs' va vc)/\w5.heap[pb]?=some (.cells #[.pointer (some ⟨ob,oo,none⟩),.slice pa' i pc'] 95 (0,0))):=fun wq w5 va' vc' hb hk q1 q2=>by
    rw[hgn]at hk q1
    obtain⟨vs',hfi'⟩:=hfi.next HPB.out (hb1.trans (hb.mono hb1.size)) hb1.size hk q1 q2
    refine⟨⟨vs',_,_,hfi'⟩,?_⟩
    have:=hfi.pk
    have hpq:=(hb.block _ (zk hp1)).trans hp1
    exact(q2.block _ (zk hpq) (fun e=>zJ hfi.ow hfi.pk (by decide) e.symm)).trans hpq
   clear hfi HFI hb1 hk1 hp1 HF0 hv hgn hq0 hsz1
   generalize o.vars[i].len=ln at *
   obtain⟨i0,hi0,hz0,hz1,hz2⟩:=info_parts Tryz.infoInt64s
   go_upto_region 5 with fail
   rw[<-hw1]
   clear hw1 y0 y1 y2 y3
   go_region_law (first|(refine yv rfl (.tmp 22) (.tmp 27) 93 rfl W.heap.size 23 i0 (.slice none 0 0) 1 24 Tryz.underlying93 hi0 hz0 hz1 hz2 rfl (by decide) (.slice pa' i pc') i ((List.range i).map (sl8 o.vars vs)) (by simp[Act.eval]) ?own ⟨w1.heap.size+1,0,none⟩ 1 1 [.slice (some ⟨w1.heap.size,0,none⟩) gn gn] (by simp[Act.eval]) rfl ?news (by intro u hu;simp at hu;subst hu;rfl) (by unfold maxLen;omega) (by omega) ?base ?_;(case own=>first|exact HOW.out _ HQ0.out.drew.drew|exact HOW.out _ HQ0.out.drew|exact HOW.out _ HQ0.out);(case news=>(intro j u hj;rw[Addr.add_lit];cases j with|zero=>(simp at hj;subst hj;exact(zc HNB.out).trans rfl)|succ j=>simp at hj));(case base=>have:=HBS.out;have:=HQ0.out.size;simp;omega);intro v8' w8 q1 q2 q3;obtain⟨a8,c8',hv8⟩:=zy q1;subst hv8;have HN:=HNX.out _ w8 _ _ (by first|exact HQ0.out.drew.drew|exact HQ0.out.drew|exact HQ0.out) (by exact HNA.out) q1 q2;have HG8:=HN.2;have k18:w8.cell? ⟨pb,1,none⟩=some (.slice pa' i pc'):=(zc HG8).trans rfl;have z18:w8.frozen? ⟨pb,1,none⟩=false:=zr HG8;have l18:pb<w8.heap.size:=zi k18;have HFIN:=zh HN.1;clear HN HG8 q1 q2 q3))
   all_goals (
    clear HNX HOW HQ0 HNB HNA HBS k18 z18 l18 hmk hmx x2 p1 hpl hxl
    go_wp2_with fail
    go_roundg (n - (i+1))
    case measure=>omega
    case rel=>exact⟨i+1,by omega,rfl,by first|rfl|(congr 1;done)|(simp;done),HFIN⟩)
  ·have hin':i=n:=by omega
   subst hin'
   have hlt':¬((i:Int)<(i:Int)):=by omega
   have HR:Hid (FreshP W ob oo o.vars (.returned (.pointer (some ⟨pb,0,none⟩))) wr):=by
    obtain⟨vs,va',vc',hfi⟩:=HFI.out
    refine⟨pb,vs,va',vc',rfl,HPB.out,?_⟩
    rw[<-HN.out]
    exact hfi
   clear HFI HF0 HMK HGL HLE HV
   go_wp2_with fail
   go_ret
   exact HR.out
end Go.Proofs.YtmnedfdffbbchaaGreatDoor.Jo

namespace Go.Proofs.YtmnedfdffbbchaaGreatDoor.Jo
open Go.RowKit Go.Maps
open Ob (O In I64)
open Vm (St Fr Pl)
def vv0 (o:O):List (List Int):=(List.range o.vars.length).map fun i=>List.replicate (gl8 o.vars i) 0
def f0 (o:O):Fr:=⟨o.name,0,0,0,zeros 10⟩
def s0 (o:O):Vm.St:=⟨thr o (vv0 o),[f0 o],[],[],0⟩
def ldc (We Wp:World) (mb gb pb tb ob oo:Nat) (o:O) (vs:Nat->Nat) (va:Option Addr) (vc:Nat):Vx :=
 ⟨We.setCell ⟨mb,0,none⟩ (.map (some tb)),gb,pb,(va.map (·.block)).getD pb,tb,ob,oo,o,31,vs,va,vc,fun b=>if b=tb then Wp.heap[tb]? else none⟩
theorem j0 {w:World}{b n:Nat}{f:Tp.Bs->Option Value}(h:MapV w b n f):∃ es c,w.heap[b]?=some (.map es c):=by
 obtain⟨D,⟨es,clock,h1,_⟩,_⟩:=h.own
 exact⟨es,clock,h1⟩
theorem code_pos {o:O}(h:Ob.rightB o=true):0<o.code.length:=by
 unfold Ob.rightB Ob.codeB at h
 simp only [Bool.and_eq_true]at h
 have hl:=h.2.2.2
 unfold Ob.lastB at hl
 cases hc:o.code with
 | nil=>rw[hc]at hl;simp at hl
 | cons x l=>simp
theorem inv0 {o:O}(h:Ob.rightB o=true):Inv o (s0 o):=⟨by simp[s0],fun f hf=>by
 have e:f=f0 o:=by simpa[s0] using hf
 rw[e]
 exact code_pos h,⟨Nat.le_refl _,trivial⟩⟩
theorem start8 {wa We Ws Wf Wp Wg:World}{mb pb ob oo fb gb:Nat}{o:O}{vs:Nat->Nat}{va:Option Addr}{vc:Nat}
  (hoa:Jo.OA wa ob oo o) (ha:Below wa.heap.size wa We) (hmb:wa.heap.size<=mb) (hme:mb<We.heap.size) (hmt:∃ v,We.heap[mb]?=some (.cells #[v] 44 (0,0)))
  (hgm:1<wa.heap.size) (hmrk:∀ i,i<11->wa.cell? ⟨1,i,none⟩=some (.string (bs (Vm.marks8.getD i []))))
  (hrt:Ob.rightB o=true) (h64:∀ x∈o.code,I64 x.a) (hus:o.uses=[])
  (hs:Below We.heap.size We Ws) (hf:FI Ws ob oo pb o.vars o.vars.length Wf vs va vc) (hpb:Ws.heap.size<=pb)
  (hx:PlaceP Wf mb pb o.name (.returned (.tuple #[])) Wp) (hg:Below Wp.heap.size Wp Wg) (hgb:Wp.heap.size<=gb) (hfb:Wp.heap.size<=fb)
  (hfk:Wg.heap[fb]?=some (.cells (frC (ldc We Wp mb gb pb Wf.heap.size ob oo o vs va vc) (f0 o)).toArray 87 (0,0))) :
  VxOk (ldc We Wp mb gb pb Wf.heap.size ob oo o vs va vc)/\MM (ldc We Wp mb gb pb Wf.heap.size ob oo o vs va vc) Wg (s0 o) (vv0 o) (.slice (some ⟨fb,0,none⟩) 1 1) (.slice none 0 0) (.slice none 0 0):=by
 obtain⟨_,hxe,hxm,hmap⟩:=hx
 obtain⟨mv,hmt⟩:=hmt
 have hsw:(We.setCell ⟨mb,0,none⟩ (.map (some Wf.heap.size))).heap.size=We.heap.size:=by simp
 have hfw:We.heap.size<=Wf.heap.size:=Nat.le_trans hs.size hf.be.size
 have hfp:Wf.heap.size<=Wp.heap.size:=hxe.size
 have hpl:pb<Wf.heap.size:=zk hf.pk
 have hws:We.heap.size<=Ws.heap.size:=hs.size
 have hk:∀ b,b<Wf.heap.size->b≠mb->Wg.heap[b]?=Wf.heap[b]?:=fun b h1 h2=>(hg.block b (Nat.lt_of_lt_of_le h1 hfp)).trans (hxe.block b h1 h2)
 have hw0:Below wa.heap.size wa (We.setCell ⟨mb,0,none⟩ (.map (some Wf.heap.size))):=ha.setCell hmb _
 have hvsl:∀ i,i<o.vars.length->vs i<Wf.heap.size:=fun i hi=>zk (hf.vk i hi).2
 have hvm:∀ i,i<o.vars.length->vs i≠mb:=fun i hi e=>by have:=(hf.vk i hi).1;omega
 have hvb:∀ b q,va=some ⟨b,q,none⟩->Ws.heap.size<=b/\b<Wf.heap.size/\∃ cur,Wf.heap[b]?=some (.cells cur 23 (0,0)):=fun b q e=>by
  rcases hf.ow.2 with⟨e1,_⟩|⟨g,cap,cur,e1,e2,e3,_⟩
  ·rw[e]at e1
   injection e1 with e1
   cases e1
  ·rw[e]at e1
   injection e1 with e1
   cases e1
   exact⟨e2,zk e3,cur,e3⟩
 have hva:va=none\/∃ b,va=some ⟨b,0,none⟩:=by
  rcases hf.ow.2 with⟨e1,_⟩|⟨g,cap,cur,e1,_⟩
  ·injection e1 with e1
   exact Or.inl e1
  ·injection e1 with e1
   exact Or.inr ⟨g,e1⟩
 have ok:VxOk (ldc We Wp mb gb pb Wf.heap.size ob oo o vs va vc):=by
  refine⟨hoa.below hw0,hrt,h64,hus,?_,?_,?_,?_,hf.inj,Nat.le_refl _,?_,?_⟩
  ·show (We.setCell _ _).heap.size<=gb
   rw[hsw];omega
  ·show (We.setCell _ _).heap.size<=pb/\pb≠gb
   rw[hsw];omega
  ·show (We.setCell _ _).heap.size<=(va.map (·.block)).getD pb/\(va.map (·.block)).getD pb≠gb
   rw[hsw]
   rcases hva with rfl|⟨b,rfl⟩
   ·simp only [Option.map_none,Option.getD_none];omega
   ·have:=hvb b 0 rfl
    simp only [Option.map_some,Option.getD_some];omega
  ·intro i hi
   show (We.setCell _ _).heap.size<=vs i/\vs i<gb/\vs i≠pb/\vs i≠(va.map (·.block)).getD pb
   have h1:=hf.vk i hi
   have h2:=hvsl i hi
   have h3:vs i≠pb:=vK h1.2 hf.pk (by decide)
   rw[hsw]
   refine⟨by omega,by omega,h3,?_⟩
   rcases hva with rfl|⟨b,rfl⟩
   ·exact h3
   ·obtain⟨_,_,cur,h4⟩:=hvb b 0 rfl
    exact vK h1.2 h4 (by decide)
  ·show _<(We.setCell _ _).heap.size
   rw[hsw]
   exact Nat.lt_of_lt_of_le hgm ha.size
  ·intro i hi
   exact(hw0.cell (p:=⟨_,i,none⟩) hgm).trans (hmrk i hi)
 refine⟨ok,?_⟩
 have hbe:Below (We.setCell ⟨mb,0,none⟩ (.map (some Wf.heap.size))).heap.size (We.setCell ⟨mb,0,none⟩ (.map (some Wf.heap.size))) Wg:=by
  have e1:=(Below.refl 0 We).setCell (p:=⟨mb,0,none⟩) (Nat.zero_le _) (.map (some Wf.heap.size))
  refine⟨hg.os.trans (hxe.os.trans (hf.be.os.trans (hs.os.trans e1.os.symm))),hg.tape.trans (hxe.tape.trans (hf.be.tape.trans (hs.tape.trans e1.tape.symm))),hg.output.trans (hxe.output.trans (hf.be.output.trans (hs.output.trans e1.output.symm))),?_,?_⟩
  ·rw[hsw];have:=hg.size;omega
  ·intro k hk'
   rw[hsw]at hk'
   by_cases e:k=mb
   ·rw[e]
    exact(hg.block mb (by omega)).trans (hxm.trans ((zC 0 _ hmt).trans rfl).symm)
   ·exact(hk k (by omega) e).trans ((hf.be.block k (by omega)).trans ((hs.block k hk').trans (Below.heap_setCell _ _ _ _ (by simpa using e)).symm))
 have hpm:pb≠mb:=by omega
 refine⟨hbe,(hk pb hpl hpm).trans hf.pk,?_,rfl,by simp[vv0,ldc],fun i hi=>?_,?_,World.ownsRow_nil _ _ _ _,World.ownsRow_nil _ _ _ _,fun b hb=>by (cases hb),Nat.zero_le _,fun v hv=>by (cases hv),Nat.zero_le _,fun v hv=>by (cases hv),by simp[s0],by simp[s0,ldc],fun f hf'=>?_,fun b ob' hb=>?_⟩
 ·show Row Wg (fun b=>b=(va.map (·.block)).getD pb) 23 1 (.slice va o.vars.length vc) o.vars.length ((List.range o.vars.length).map (sl8 o.vars vs))
  rcases hf.ow.2 with⟨e1,e2⟩|⟨g,cap,cur,e1,e2,e3,e4,e5,e6,e7⟩
  ·exact Or.inl ⟨e1,e2,by rw[e2];simp⟩
  ·have e1':=e1
   injection e1' with e1'
   refine Or.inr ⟨g,cap,cur,e1,by rw[e1'];rfl,(hk g (zk e3) (by omega)).trans e3,e4,e5,e6,e7⟩
 ·have hi':i<o.vars.length:=by simpa[vv0] using hi
  have hv:=hf.vk i hi'
  have e:(vv0 o)[i]=List.replicate (gl8 o.vars i) 0:=by simp[vv0]
  rw[e]
  refine⟨List.length_replicate,(hk _ (zk hv.2) (hvm i hi')).trans hv.2,fun v hv'=>?_⟩
  rw[List.eq_of_mem_replicate hv']
  unfold I64
  omega
 ·have hl:(frC (ldc We Wp mb gb pb Wf.heap.size ob oo o vs va vc) (f0 o)).length=14:=by simp[frC,ints,f0,zeros]
  have e:frs (ldc We Wp mb gb pb Wf.heap.size ob oo o vs va vc) [f0 o]=frC (ldc We Wp mb gb pb Wf.heap.size ob oo o vs va vc) (f0 o):=by simp[frs]
  show World.ownsRow Wg (We.setCell _ _).heap.size _ 14 _ 1 (frs _ [f0 o])
  rw[e,hsw]
  refine⟨by rw[hl],Or.inr ⟨fb,1,_,rfl,by omega,hfk,Nat.le_refl _,by unfold maxLen;omega,by simp[hl],?_⟩⟩
  rw[List.take_of_length_le (by simp[hl])]
 ·have e:f=f0 o:=by simpa[s0] using hf'
  rw[e]
  exact⟨rfl,by simp[f0,zeros],fun v hv=>by
   have:=List.eq_of_mem_replicate hv
   rw[this]
   unfold I64
   omega,Nat.zero_le _,Nat.zero_le _,Nat.zero_le _⟩
 ·have hb:(if b=Wf.heap.size then Wp.heap[Wf.heap.size]? else none)=some ob':=hb
  by_cases e:b=Wf.heap.size
  ·rw[if_pos e]at hb
   rw[e]
   refine⟨(hg.block _ (yC hb)).trans hb,fun cs e' f q=>?_⟩
   obtain⟨es,cl,hm⟩:=j0 hmap
   rw[hm]at hb
   cases hb
   cases q
  ·rw[if_neg e]at hb
   cases hb
end Go.Proofs.YtmnedfdffbbchaaGreatDoor.Jo

namespace Go.Proofs.YtmnedfdffbbchaaGreatDoor.Jo
open Go.RowKit Go.Maps
open Ob (O In I64)
theorem MM.without {c:Vx}{W:World}{s:Vm.St}{vv:List (List Int)}{fv sv ov:Value}{x:Nat}(h:MM (c.with (some x)) W s vv fv sv ov) (he:c.eb x=none):MM c W s vv fv sv ov :=
 ⟨h.be,h.pk,h.vk,h.th,h.vn,h.vm,h.fr,h.st,h.ou,h.dj,h.sl,h.si,h.ol,h.oi,h.fl,h.fm,fun f hf=>⟨(h.ff f hf).of,(h.ff f hf).ll,(h.ff f hf).li,(h.ff f hf).mn,(h.ff f hf).at',(h.ff f hf).bs⟩,fun b o hb=>h.ek b o (by
   show (if some x=some b then _ else _)=_
   rw[if_neg (fun q=>by cases q;rw[he]at hb;cases hb)]
   exact hb)⟩
def LoadP8 (W:World) (mb:Nat) (o:O) (fuel:Nat) (e:Ending) (W':World):Prop:=∃ c oa oc,e=.returned (.tuple #[.agg #[.int .i64 ((Vm.goes 31 fuel (s0 o)).way:Int),.slice oa (Vm.goes 31 fuel (s0 o)).out.length oc],.nilIface])/\VxOk c/\c.O=o/\W.heap.size<=c.gb/\c.w0.heap.size=W.heap.size/\MV c W' (Vm.goes 31 fuel (s0 o))/\W'.ownsRow (c.gb+1) 2 1 (.slice oa (Vm.goes 31 fuel (s0 o)).out.length oc) (Vm.goes 31 fuel (s0 o)).out.length (ints (Vm.goes 31 fuel (s0 o)).out)/\(∀ b,b<W.heap.size->b≠mb->W'.heap[b]?=W.heap[b]?)/\W'.heap[mb]?=some (.cells #[.map (some c.tb)] 44 (0,0))/\MapV W' c.tb 1 (updV (fun _=>none) o.name (.pointer (some ⟨c.pb,0,none⟩)))/\Below 0 W W'/\c.vb<W'.heap.size/\(c.vb=c.pb\/∃ cur,W'.heap[c.vb]?=some (.cells cur 23 (0,0)))/\∃ wb,Jo.OA wb c.ob c.oo o/\Below wb.heap.size wb W/\wb.heap.size<=mb/\1<wb.heap.size/\∀ i,i<11->wb.cell? ⟨1,i,none⟩=some (.string (bs (Vm.marks8.getD i [])))
theorem load8 {wa W:World}{mb ob oo:Nat}{o:O}(hoa:Jo.OA wa ob oo o) (ha:Below wa.heap.size wa W) (hmb:wa.heap.size<=mb) (hm:W.heap[mb]?=some (.cells #[.map none] 44 (0,0)))
  (hgm:1<wa.heap.size) (hmrk:∀ i,i<11->wa.cell? ⟨1,i,none⟩=some (.string (bs (Vm.marks8.getD i []))))
  (hB:Bd o) (hrt:Ob.rightB o=true) (h64:∀ x∈o.code,I64 x.a) (hus:o.uses=[]) (hnl:o.name.length<=1000000) (hvl:o.vars.length<=1000) (hvg:∀ g∈o.vars,g.len<=1000) (fuel:Nat) (hfu:fuel<=1000000) :
  Calls Tryz.prog 11 #[.pointer (some ⟨mb,0,none⟩),.pointer (some ⟨ob,oo,none⟩),.int .i64 (fuel:Int)] W (LoadP8 W mb o fuel):=by
 obtain⟨w0,hw0⟩:∃ w0,w0=W.alloc (.cells #[.int .i64 0,.slice none 0 0] 46):=⟨_,rfl⟩
 have hb0:Below W.heap.size W w0:=by rw[hw0];exact zb _ _
 have hk0:w0.heap[W.heap.size]?=some (.cells #[.int .i64 0,.slice none 0 0] 46 (0,0)):=by rw[hw0];exact zw _ _
 have hml:=zk hm
 have hol:ob<wa.heap.size:=by
  obtain⟨_,_,_,_,_,_,_,_,_,_,_,_,h⟩:=hoa
  exact zi h.c0
 have hnm:wa.cell? ⟨ob,oo,none⟩=some (.string (bs o.name)):=by
  obtain⟨_,_,_,_,_,_,_,_,_,_,_,_,h⟩:=hoa
  exact h.c0
 have h0W:Below wa.heap.size wa w0:=ha.trans (hb0.mono ha.size)
 have HOA:Hid (∀ w,Below w0.heap.size w0 w->Jo.OA w ob oo o):=fun w hb=>hoa.below (h0W.trans (hb.mono h0W.size))
 have HNM:Hid (∀ w,Below w0.heap.size w0 w->w.cell? ⟨ob,oo,none⟩=some (.string (bs o.name))/\ob<w.heap.size):=fun w hb=>by
  have hk:=h0W.trans (hb.mono h0W.size)
  exact⟨(hk.cell (p:=⟨ob,oo,none⟩) hol).trans hnm,Nat.lt_of_lt_of_le hol hk.size⟩
 have HMB:Hid (∀ w,Below w0.heap.size w0 w->w.heap[mb]?=some (.cells #[.map none] 44 (0,0))):=fun w hb=>(hb.block _ (Nat.lt_of_lt_of_le hml hb0.size)).trans ((hb0.block _ hml).trans hm)
 have HR:=zh (k8 (HOA.out w0 (Below.refl _ _)) hB)
 rw[hrt]at HR
 have hfits:∀ w,Below w0.heap.size w0 w->Calls Tryz.prog 34 #[.pointer (some ⟨mb,0,none⟩),.pointer (some ⟨ob,oo,none⟩)] w fun e W'=>e=.returned .nilIface/\Below w.heap.size w W':=fun w hb=>by
  refine(fits8 ((zc (HMB.out w hb)).trans rfl) (HOA.out w hb) (fun u hu=>by rw[hus]at hu;cases hu)).mono ?_
  rintro e W' ⟨h1,h2⟩
  rw[if_pos hus]at h1
  exact⟨h1,h2⟩
 have HFITS:=zh hfits
 have HFRESH:Hid (∀ w,Below w0.heap.size w0 w->Calls Tryz.prog 35 #[.pointer (some ⟨ob,oo,none⟩)] w (FreshP w ob oo o.vars)):=fun w hb=>fresh8 (HOA.out w hb) hvl hvg
 have hlk:∀(w:World) n,(Instr.lookup 42 (.map none) (.string (bs o.name)) false).run Tryz.prog (w.drewN n)=.ok (.pointer none) (w.drewN n):=fun w n=>kL (w.drewN n) (t:=42) (e:=81) Tryz.underlying42 (by kernel_rfl) o.name hnl false
 have HLK:=zh hlk
 have HB0:=zh hb0
 have HK0:=zh hk0
 have HALL:Hid (Jo.OA wa ob oo o/\Below wa.heap.size wa W/\wa.heap.size<=mb/\mb<W.heap.size/\W.heap[mb]?=some (.cells #[.map none] 44 (0,0))/\1<wa.heap.size/\(∀ i,i<11->wa.cell? ⟨1,i,none⟩=some (.string (bs (Vm.marks8.getD i []))))/\Ob.rightB o=true/\(∀ x∈o.code,I64 x.a)/\o.uses=[]):=⟨hoa,ha,hmb,hml,hm,hgm,hmrk,hrt,h64,hus⟩
 have HNL:=zh hnl
 have hHOL:=zh hol
 clear hoa ha hb0 hk0 hol hnm h0W hB hrt h64 hus hvl hvg hfits hlk hm hgm hmrk hnl
 go_enter Tryz.func11,Tryz.ntmps11
 go_upto_region 1 with fail
 rw[<-hw0]
 clear hw0
 go_wp2_with fail
 refine HR.out.mono ?_
 rintro e w1 ⟨rfl,hb1⟩
 have HB1:Hid (Below w0.heap.size w0 w1):=hb1
 have m1:w1.cell? ⟨mb,0,none⟩=some (.map none):=(zc (HMB.out w1 hb1)).trans rfl
 obtain⟨n1,hol1⟩:=HNM.out w1 hb1
 have hlk1:=HLK.out w1
 have hml1:mb<w1.heap.size:=zi m1
 clear hb1
 go_wp2_with fail
 go_quiet (fail)
 go_wp2_with fail
 have HB2:Hid (Below w0.heap.size w0 (w1.drewN nq)):=HB1.out.trans ((below_drewN w1 nq).mono HB1.out.size)
 refine(HFITS.out _ HB2.out).mono ?_
 rintro e w3 ⟨rfl,hb3⟩
 have HB3:Hid (Below w0.heap.size w0 w3):=HB2.out.trans (hb3.mono HB2.out.size)
 clear hb3 m1 n1 hol1 hlk1 hml1 HFITS
 have m3:w3.cell? ⟨mb,0,none⟩=some (.map none):=(zc (HMB.out w3 HB3.out)).trans rfl
 have hml3:mb<w3.heap.size:=zi m3
 go_wp2_with fail
 refine(HFRESH.out _ HB3.out).mono ?_
 rintro e w4 ⟨pb,vs,va,vc,rfl,hpb,hfi⟩
 have HFI:=zh hfi
 have HPB:=zh hpb
 have HB4:Hid (Below w0.heap.size w0 w4):=HB3.out.trans (hfi.be.mono HB3.out.size)
 have hpm:pb≠mb:=by omega
 have HPL:Hid (Calls Tryz.prog 36 #[.pointer (some ⟨mb,0,none⟩),.pointer (some ⟨pb,0,none⟩)] w4 (PlaceP w4 mb pb o.name)):=place8 (HMB.out w4 HB4.out) hfi.pk hpm (HNM.out w4 HB4.out).1 (by have:=HALL.out.2.2.1;have:=hHOL.out;omega) HNL.out
 clear hfi hpb m3 hml3 HFRESH
 go_wp2_with fail
 refine HPL.out.mono ?_
 intro e w5 hp5
 obtain⟨rfl,hp5x,hp5m,hp5k⟩:=hp5
 have m5:w5.cell? ⟨mb,0,none⟩=some (.map (some w4.heap.size)):=(zc hp5m).trans rfl
 have hml5:mb<w5.heap.size:=zi m5
 have HP5:Hid (PlaceP w4 mb pb o.name (.returned (.tuple #[])) w5):=⟨rfl,hp5x,hp5m,hp5k⟩
 clear hp5x hp5m hp5k HPL
 obtain⟨hoa,ha,hmb,hml,hm,hgm,hmrk,hrt,h64,hus⟩:=HALL.out
 obtain⟨w6,hw6⟩:∃ w6,w6=((w5.alloc (.cells #[.pointer (some ⟨pb,0,none⟩),.int .i64 0,.int .i64 0,.int .i64 0,.int .i64 0,.int .i64 0,.int .i64 0,.int .i64 0,.int .i64 0,.int .i64 0,.int .i64 0,.int .i64 0,.int .i64 0,.int .i64 0] 87)).alloc (.cells #[.map (some w4.heap.size),.slice (some ⟨w5.heap.size,0,none⟩) 1 1,.int .i64 31,.slice none 0 0,.slice none 0 0,.int .i64 0] 90)):=⟨_,rfl⟩
 have hg6:Below w5.heap.size w5 w6:=by rw[hw6];exact(zb _ _).alloc (by simp) _
 have hf6:w6.heap[w5.heap.size]?=some (.cells #[.pointer (some ⟨pb,0,none⟩),.int .i64 0,.int .i64 0,.int .i64 0,.int .i64 0,.int .i64 0,.int .i64 0,.int .i64 0,.int .i64 0,.int .i64 0,.int .i64 0,.int .i64 0,.int .i64 0,.int .i64 0] 87 (0,0)):=by
  rw[hw6];exact(Below.heap_alloc _ _ _ (by simp)).trans (zw w5 _)
 have hgo6:w6.heap[w5.heap.size+1]?=some (.cells #[.map (some w4.heap.size),.slice (some ⟨w5.heap.size,0,none⟩) 1 1,.int .i64 31,.slice none 0 0,.slice none 0 0,.int .i64 0] 90 (0,0)):=by
  have:=zw (w5.alloc (.cells #[.pointer (some ⟨pb,0,none⟩),.int .i64 0,.int .i64 0,.int .i64 0,.int .i64 0,.int .i64 0,.int .i64 0,.int .i64 0,.int .i64 0,.int .i64 0,.int .i64 0,.int .i64 0,.int .i64 0,.int .i64 0] 87)) (.cells #[.map (some w4.heap.size),.slice (some ⟨w5.heap.size,0,none⟩) 1 1,.int .i64 31,.slice none 0 0,.slice none 0 0,.int .i64 0] 90)
  rw[show (w5.alloc (.cells #[.pointer (some ⟨pb,0,none⟩),.int .i64 0,.int .i64 0,.int .i64 0,.int .i64 0,.int .i64 0,.int .i64 0,.int .i64 0,.int .i64 0,.int .i64 0,.int .i64 0,.int .i64 0,.int .i64 0,.int .i64 0] 87)).heap.size=w5.heap.size+1 by simp]at this
  rw[hw6]
  exact this
 have h03:Below W.heap.size W w3:=HB0.out.trans (HB3.out.mono HB0.out.size)
 obtain⟨ok,hmm⟩:=start8 (gb:=w5.heap.size+1) (fb:=w5.heap.size) hoa ha hmb hml ⟨_,hm⟩ hgm hmrk hrt h64 hus h03 HFI.out HPB.out HP5.out hg6 (by omega) zn (hf6.trans rfl)
 obtain⟨c,hc⟩:∃ c,c=ldc W w5 mb (w5.heap.size+1) pb w4.heap.size ob oo o vs va vc:=⟨_,rfl⟩
 have hcg:c.gb=w5.heap.size+1:=by rw[hc];rfl
 have hcm:c.most=31:=by rw[hc];rfl
 have hcO:c.O=o:=by rw[hc];rfl
 have hcw:c.w0.heap.size=W.heap.size:=by rw[hc];show (W.setCell _ _).heap.size=_;simp
 have hct:c.tb=w4.heap.size:=by rw[hc];rfl
 have hcpb:c.pb=pb:=by rw[hc];rfl
 have hw0e:c.w0=W.setCell ⟨mb,0,none⟩ (.map (some w4.heap.size)):=by rw[hc];rfl
 have hG8:G8 c w6 (.slice (some ⟨w5.heap.size,0,none⟩) 1 1) (.slice none 0 0) (.slice none 0 0) 0:=by rw[hc];exact hgo6
 have hx45:=HP5.out.2.1.size
 have hx34:=HFI.out.be.size
 have hx03:=HB3.out.size
 have hxl:W.heap.size<w0.heap.size:=zk HK0.out
 have hce:c.eb W.heap.size=none:=by
  rw[hc]
  show (if W.heap.size=w4.heap.size then _ else none)=none
  rw[if_neg (by omega)]
 have hx6:w6.heap[W.heap.size]?=some (.cells #[.int .i64 0,.slice none 0 0] 46 (0,0)):=(hg6.block _ (by omega)).trans ((HP5.out.2.1.block _ (by omega) (by omega)).trans ((HB4.out.block _ hxl).trans HK0.out))
 rw[<-hc]at ok hmm
 have hmv:MV (c.with (some W.heap.size)) w6 (s0 o):=⟨_,_,_,_,hmm.with _ (fun x hx=>by cases hx;exact hx6),hG8⟩
 have HGO:Hid (Calls Tryz.prog 37 #[.pointer (some ⟨w5.heap.size+1,0,none⟩),.int .i64 (fuel:Int)] w6 (GoP (c.with (some W.heap.size)) (Vm.goes 31 fuel (s0 o)))):=by
  have:=goes8 hmv (ok.with _) (by show Inv c.O _;rw[hcO];exact inv0 hrt) fuel hfu
  rw[show (c.with (some W.heap.size)).gb=w5.heap.size+1 from hcg,show (c.with (some W.heap.size)).most=31 from hcm]at this
  exact this
 have HFIN:Hid (∀ w7 oa oc,MV (c.with (some W.heap.size)) w7 (Vm.goes 31 fuel (s0 o))->w7.ownsRow (c.gb+1) 2 1 (.slice oa (Vm.goes 31 fuel (s0 o)).out.length oc) (Vm.goes 31 fuel (s0 o)).out.length (ints (Vm.goes 31 fuel (s0 o)).out)->w7.heap[W.heap.size]?=some (.cells #[.int .i64 0,.slice none 0 0] 46 (0,0))/\∀ wz,wz=(w7.setCell ⟨W.heap.size,0,none⟩ (.int .i64 ((Vm.goes 31 fuel (s0 o)).way:Int))).setCell ⟨W.heap.size,1,none⟩ (.slice oa (Vm.goes 31 fuel (s0 o)).out.length oc)->LoadP8 W mb o fuel (.returned (.tuple #[.agg #[.int .i64 ((Vm.goes 31 fuel (s0 o)).way:Int),.slice oa (Vm.goes 31 fuel (s0 o)).out.length oc],.nilIface])) wz/\wz.cell? ⟨W.heap.size,0,none⟩=some (.int .i64 ((Vm.goes 31 fuel (s0 o)).way:Int))/\wz.cell? ⟨W.heap.size,1,none⟩=some (.slice oa (Vm.goes 31 fuel (s0 o)).out.length oc)):=fun w7 oa oc hmv how=>by
  obtain⟨vv,fv,sv,ov,h1,h2⟩:=hmv
  have hx:=(h1.ek W.heap.size _ (by show (if some W.heap.size=some W.heap.size then _ else _)=_;rw[if_pos rfl])).1
  refine⟨hx,fun wz hz=>?_⟩
  have hm0:=h1.without hce
  have hg0:G8 c w7 fv sv ov (Vm.goes 31 fuel (s0 o)).way:=h2
  obtain⟨a1,a2⟩:=hm0.ebox hg0 hce hx (by rw[hcw];exact Nat.le_refl _) 0 (.int .i64 ((Vm.goes 31 fuel (s0 o)).way:Int))
  have hx1:=zC 0 (.int .i64 ((Vm.goes 31 fuel (s0 o)).way:Int)) hx
  obtain⟨b1,b2⟩:=a1.ebox a2 hce hx1 (by rw[hcw];exact Nat.le_refl _) 1 (.slice oa (Vm.goes 31 fuel (s0 o)).out.length oc)
  have hx2:=zC 1 (.slice oa (Vm.goes 31 fuel (s0 o)).out.length oc) hx1
  rw[<-hz]at b1 b2 hx2
  obtain⟨es,cl,hmb'⟩:=j0 HP5.out.2.2.2
  have hek:=(b1.ek c.tb (.map es cl) (by
   rw[hct,hc]
   show (if w4.heap.size=w4.heap.size then w5.heap[w4.heap.size]? else none)=_
   rw[if_pos rfl]
   exact hmb')).1
  have hvt:c.vb=c.pb\/∃ cur,wz.heap[c.vb]?=some (.cells cur 23 (0,0)):=by
   rcases b1.vk with⟨e1,_⟩|⟨g,cap,cur,e1,e2,e3,_⟩
   ·injection e1 with e1
    refine Or.inl ?_
    rw[hc]at e1 ⊢
    have e1:va=none:=e1
    show (va.map (·.block)).getD pb=pb
    rw[e1]
    rfl
   ·have e2:g=c.vb:=e2
    rw[<-e2]
    exact Or.inr ⟨cur,e3⟩
  have hvbz:c.vb<wz.heap.size:=by
   rcases hvt with e4|⟨cur,e3⟩
   ·rw[e4]
    exact zk b1.pk
   ·exact zk e3
  have hend:∃ wb,Jo.OA wb c.ob c.oo o/\Below wb.heap.size wb W/\wb.heap.size<=mb/\1<wb.heap.size/\∀ i,i<11->wb.cell? ⟨1,i,none⟩=some (.string (bs (Vm.marks8.getD i []))):=⟨wa,by rw[hc];exact hoa,ha,hmb,hgm,hmrk⟩
  refine⟨⟨c,oa,oc,rfl,ok,hcO,by rw[hcg];omega,hcw,⟨vv,fv,sv,ov,b1,b2⟩,?_,fun b hb hn=>(b1.be.block b (by rw[hcw];exact hb)).trans (by rw[hw0e];exact Below.heap_setCell _ _ _ _ (by simpa using hn)),(b1.be.block mb (by rw[hcw];exact hml)).trans (by rw[hw0e,hct];exact(zC 0 _ hm).trans rfl),?_,?_,hvbz,hvt,hend⟩,(zc hx2).trans rfl,(zc hx2).trans rfl⟩
  ·refine z7 how fun b q0 q1 q2=>?_
   have hbx:b≠W.heap.size:=by
    have:=zG how b q2
    rw[hcg]at this
    omega
   rw[hz]
   exact(Below.heap_setCell _ _ _ _ (by simpa using hbx)).trans (Below.heap_setCell _ _ _ _ (by simpa using hbx))
  ·rw[hcpb,hct]
   rw[hct]at hek
   exact HP5.out.2.2.2.on (hek.trans hmb'.symm)
  ·have e:=(Below.refl 0 W).setCell (p:=⟨mb,0,none⟩) (Nat.zero_le _) (.map (some w4.heap.size))
   rw[<-hw0e]at e
   exact e.trans (b1.be.mono (Nat.zero_le _))
 have HCG:=zh hcg
 clear hoa ha hmb hm hgm hmrk hrt h64 hus hg6 hf6 hgo6 h03 ok hmm hc hcg hcm hcO hcw hct hcpb hw0e hG8 hce hx6 hmv HALL HFI HPB HP5 hpm hx45 hx34 hx03
 go_upto_region 13 with fail
 rw[<-hw6]
 clear hw6
 go_wp2_with fail
 refine HGO.out.mono ?_
 rintro e w7 ⟨hmv,oa,oc,rfl,how⟩
 obtain⟨hx7,hfin⟩:=HFIN.out w7 oa oc hmv how
 have x0:w7.cell? ⟨W.heap.size,0,none⟩=some (.int .i64 0):=(zc hx7).trans rfl
 have x1:w7.cell? ⟨W.heap.size,1,none⟩=some (.slice none 0 0):=(zc hx7).trans rfl
 have z0:w7.frozen? ⟨W.heap.size,0,none⟩=false:=zr hx7
 have z1:w7.frozen? ⟨W.heap.size,1,none⟩=false:=zr hx7
 have hxl7:W.heap.size<w7.heap.size:=zk hx7
 have HF:=zh hfin
 clear hx7 hfin hmv how HGO HFIN
 generalize hwy:(Vm.goes 31 fuel (s0 o)).way=wy at *
 generalize hol':(Vm.goes 31 fuel (s0 o)).out.length=ol at *
 clear hwy hol'
 go_wp2_with fail
 obtain⟨hr,f0',f1'⟩:=HF.out _ rfl
 exact bodyPost_ret (v:=.tuple #[.agg #[.int .i64 (wy:Int),.slice oa ol oc],.nilIface]) (by simp[results,Tryz.results11,go_sem,f0',f1']) rfl hr
def Vx.call (c:Vx) (gb most:Nat):Vx:={ c with gb:=gb,most:=most }
def s9 (o:O) (vv:List (List Int)) (f:Vm.Fr):Vm.St:=⟨thr o vv,[f],[],[],0⟩
theorem inv9 {o:O}{vv:List (List Int)}{f:Vm.Fr}(ha:f.at'<o.code.length) (hb:f.base=0):Inv o (s9 o vv f):=⟨by simp[s9],fun g hg=>by
 have e:g=f:=by simpa[s9] using hg
 rw[e]
 exact ha,⟨by rw[hb];exact Nat.le_refl _,trivial⟩⟩
theorem start9 {c:Vx}{W Wg:World}{s:Vm.St}{vv:List (List Int)}{fv sv ov:Value}{gb fb most:Nat}{f:Vm.Fr}(h:MM c W s vv fv sv ov) (ok:VxOk c) (hvb:c.vb<W.heap.size) (hg:Below W.heap.size W Wg) (hgb:W.heap.size<=gb) (hfb:W.heap.size<=fb) (hm:1<=most) (hm':most<=31) (hf:FrOk c f)
  (hfk:Wg.heap[fb]?=some (.cells (frC c f).toArray 87 (0,0))) :
  VxOk (c.call gb most)/\MM (c.call gb most) Wg (s9 c.O vv f) vv (.slice (some ⟨fb,0,none⟩) 1 1) (.slice none 0 0) (.slice none 0 0):=by
 have hsz:=h.be.size
 have hpl:=zk h.pk
 have hcv:∀ b cur,b=c.vb->W.heap[b]?=some (.cells cur 23 (0,0))->Wg.heap[b]?=W.heap[b]?:=fun b cur _ hc=>hg.block b (zk hc)
 ·refine⟨⟨ok.oa,ok.rt,ok.i64,ok.us,?_,⟨ok.pb.1,?_⟩,⟨ok.vb.1,?_⟩,fun i hi=>?_,ok.inj,hm',ok.gm,ok.mrk⟩,?_⟩
  ·show c.w0.heap.size<=gb
   omega
  ·show c.pb≠gb
   omega
  ·show c.vb≠gb
   omega
  ·obtain⟨a1,a2,a3,a4⟩:=ok.vs i hi
   have hi':i<vv.length:=by rw[h.vn];exact hi
   have:=zk (h.vm i hi').2.1
   exact⟨a1,by show c.vs i<gb;omega,a3,a4⟩
  ·refine⟨h.be.trans (hg.mono hsz),(hg.block _ hpl).trans h.pk,yq h.vk hcv,rfl,h.vn,fun i hi=>?_,?_,World.ownsRow_nil _ _ _ _,World.ownsRow_nil _ _ _ _,fun b hb=>by (cases hb),Nat.zero_le _,fun v hv=>by (cases hv),Nat.zero_le _,fun v hv=>by (cases hv),by simp[s9],hm,fun g hg'=>?_,fun b o' hb=>⟨(hg.block _ (yC (h.ek b o' hb).1)).trans (h.ek b o' hb).1,(h.ek b o' hb).2.rows (yC (h.ek b o' hb).1) (fun g q=>by cases q) fun g q=>by cases q⟩⟩
   ·obtain⟨a1,a2,a3⟩:=h.vm i hi
    exact⟨a1,(hg.block _ (zk a2)).trans a2,a3⟩
   ·have hl:(frC c f).length=14:=by simp[frC,ints,hf.ll]
    have e:frs (c.call gb most) [f]=frC c f:=by simp[frs];rfl
    show World.ownsRow Wg c.w0.heap.size _ 14 _ 1 (frs _ [f])
    rw[e]
    refine⟨by rw[hl],Or.inr ⟨fb,1,_,rfl,by omega,hfk,Nat.le_refl _,by unfold maxLen;omega,by simp[hl],?_⟩⟩
    rw[List.take_of_length_le (by simp[hl])]
   ·have e:g=f:=by simpa[s9] using hg'
    rw[e]
    exact⟨hf.of,hf.ll,hf.li,hf.mn,hf.at',hf.bs⟩
end Go.Proofs.YtmnedfdffbbchaaGreatDoor.Jo
