import Derived.Test.YtmnedfdffbbchaaGreatDoorKIf
import Derived.Test.YtmnedfdffbbchaaGreatDoorKIb
import Derived.Test.YtmnedfdffbbchaaGreatDoorKIa
import Derived.Laws.CopyOwn
set_option maxRecDepth 100000
set_option maxHeartbeats 4000000

namespace Go.Proofs.YtmnedfdffbbchaaGreatDoor.Jo
open Go.RowKit Go.Maps
open Ob (O In I64)
open Tp (Bs)
def ix8 (l:List Bs) (n:Bs):Int:=match l.findIdx? (fun s=>s == n) with
 | some i=>(i:Int)
 | none=>-1
theorem ix8_at {l:List Bs}{n:Bs}{i:Nat}(hi:i<l.length) (h:l[i]=n) (hb:∀ k (hk:k<l.length),k<i->l[k]≠n):ix8 l n=(i:Int):=by
 unfold ix8
 have:l.findIdx? (fun s=>s == n)=some i:=by
  rw[List.findIdx?_eq_some_iff_getElem]
  exact⟨hi,by simpa using h,fun j hj=>by simpa using hb j (by omega) hj⟩
 rw[this]
theorem ix8_no {l:List Bs}{n:Bs}(hb:∀ k (hk:k<l.length),l[k]≠n):ix8 l n=-1:=by
 unfold ix8
 have:l.findIdx? (fun s=>s == n)=none:=by
  rw[List.findIdx?_eq_none_iff]
  intro x hx
  obtain⟨j,hj,rfl⟩:=List.getElem_of_mem hx
  have:=hb j hj
  simpa using this
 rw[this]
theorem sl_str {w:World}{a:Option Addr}{c:Nat}{l:List Bs}(h:Sl w (.slice a l.length c) 1 l.length (cellsOf stC l)) (i:Nat) (hi:i<l.length):∃ g o,a=some ⟨g,o,none⟩/\g<w.heap.size/\w.cell? ⟨g,o+i,none⟩=some (.string (bs l[i])):=by
 obtain⟨g,o,e,hb,hc⟩:=Sl.at' jg (by omega) h i hi
 exact⟨g,o,e,hb,by simpa using hc 0 _ rfl⟩
theorem index8 {w:World}{a:Option Addr}{cap:Nat}{l:List Bs}(hS:Sl w (.slice a l.length cap) 1 l.length (cellsOf stC l)) (hn:l.length<=1000000) (x:Bs) :
  Calls Tryz.prog 78 #[.slice a l.length cap,.string (bs x)] w fun e w'=>e=.returned (.int .i64 (ix8 l x))/\w'=w:=by
 have hn':(l.length:Int)<=1000000:=by omega
 have HSL:=zh hS
 clear hS
 obtain⟨ln,hln⟩:∃ ln,ln=l.length:=⟨_,rfl⟩
 rw[<-hln]at hn' ⊢
 have HLN:=zh hln
 clear hln
 go_enter Tryz.func78,Tryz.ntmps78
 go_wp2_with fail
 go_loopg [8] ln (fun k vi wr=>∃ i:Nat,i<=ln/\k=ln - i/\vi=.int .i64 (i:Int)/\Hid (∀ k (hk:k<l.length),k<i->l[k]≠x)/\wr=w)
 case atStart=>exact⟨0,by omega,by omega,rfl,fun k _ h=>by omega,rfl⟩
 case round =>
  obtain⟨i,hid,hk,rfl,HI,rfl⟩:=hrel
  by_cases hlt:i<ln
  ·have hlt':(i:Int)<(ln:Int):=by omega
   have hil:i<l.length:=by have:=HLN.out;omega
   obtain⟨g,o,rfl,hbl,e0⟩:=sl_str HSL.out i hil
   obtain⟨d,hd⟩:∃ d,((bs x).toList == (bs l[i]).toList)=d:=⟨_,rfl⟩
   have hd':((bs l[i]).toList == (bs x).toList)=d:=by
    rw[<-hd,Bool.eq_iff_iff,beq_iff_eq,beq_iff_eq]
    exact eq_comm
   have HD:Hid (d=true↔l[i]=x):=by
    show _↔_
    rw[<-hd',zu,zu,beq_iff_eq]
   cases d with
   | true =>
    have HF:Hid (ix8 l x=(i:Int)):=ix8_at hil (HD.out.1 rfl) HI.out
    clear HD
    generalize bs l[i]=y at *
    go_wp2_with fail
    go_ret
    exact⟨congrArg (fun z=>Ending.returned (Value.int .i64 z)) HF.out.symm,rfl⟩
   | false =>
    have HN:Hid (∀ k (hk:k<l.length),k<i+1->l[k]≠x):=fun k hk h=>by
     by_cases e:k=i
     ·subst e;intro q;have:=HD.out.2 q;cases this
     ·exact HI.out k hk (by omega)
    clear HD
    generalize bs l[i]=y at *
    go_wp2_with fail
    go_roundg (ln - (i+1))
    case measure=>omega
    case rel=>exact⟨i+1,by omega,rfl,by go_num,HN,rfl⟩
  ·have hlt':¬(i:Int)<(ln:Int):=by omega
   have HF:Hid (ix8 l x=-1):=ix8_no fun k hk=>HI.out k hk (by have:=HLN.out;omega)
   go_wp2_with fail
   go_ret
   exact⟨congrArg (fun z=>Ending.returned (Value.int .i64 z)) HF.out.symm,rfl⟩
theorem proc8 {c:Vx}{W:World}{s:Vm.St}{vv:List (List Int)}{fv sv ov:Value}(h:MM c W s vv fv sv ov) (ok:VxOk c) (x:Bs) (hn:c.O.names.length<=1000000) :
  Calls Tryz.prog 39 #[.pointer (some ⟨c.pb,0,none⟩),.string (bs x)] W fun e W'=>e=.returned (.int .i64 (ix8 c.O.names x))/\W'=W:=by
 have kp:W.cell? ⟨c.pb,0,none⟩=some (.pointer (some ⟨c.ob,c.oo,none⟩)):=(zc h.pk).trans rfl
 have hpl:=zk h.pk
 obtain⟨sa,ua,va,pa,na,ca,sc,uc,vc,pc,nc,cc,hv⟩:=ok.oa.below h.be
 have k5:=hv.c5
 have hol:=zi k5
 have HIX:=zh (index8 hv.n hn x)
 clear h ok hv hn
 go_enter Tryz.func39,Tryz.ntmps39
 go_wp2_with fail
 refine HIX.out.mono ?_
 rintro e w1 ⟨rfl,rfl⟩
 go_wp2_with fail
 go_ret
 exact⟨rfl,rfl⟩
end Go.Proofs.YtmnedfdffbbchaaGreatDoor.Jo

namespace Go.Proofs.YtmnedfdffbbchaaGreatDoor.Jo
open Go.RowKit Go.Maps
open Ob (O In I64)
theorem bs_inj8 {a b:List UInt8}(h:bs a=bs b):a=b:=by
 have:=congrArg (fun x:ByteArray=>x.data.toList) h
 simpa[bs] using this
theorem find1_8 (s:Ob.Sm) (n:List UInt8) (W:World) (bp:Nat) (hc:W.cell? ⟨bp,0,none⟩=some (.string (bs n))) :
  Calls Tryz.prog 77 #[.agg #[.string (bs s.name),.int .i64 s.len,.int .i64 s.args],.pointer (some ⟨bp,0,none⟩)] W fun e w'=>e=.returned (.bool (decide (s.name=n)))/\Below W.heap.size W w':=by
 obtain⟨nm,x1,x2⟩:=s
 simp only
 have hlt:=World.block_lt_of_cell? _ _ hc
 by_cases h:nm=n
 ·subst h
  go_enter Tryz.func77,Tryz.ntmps77
  go_wp2_with fail
  go_ret
  exact⟨by simp,zb _ _⟩
 ·have hne:¬bs nm=bs n:=fun e=>h (bs_inj8 e)
  go_enter Tryz.func77,Tryz.ntmps77
  go_wp2_with fail
  go_ret
  exact⟨by simp[h,zu],zb _ _⟩
def fx8 (l:List Ob.Sm) (n:List UInt8):Int:=match l.findIdx? (fun s=>s.name == n) with
 | some i=>(i:Int)
 | none=>-1
theorem fx8_at {l:List Ob.Sm}{n:List UInt8}{i:Nat}(hi:i<l.length) (h:l[i].name=n) (hb:∀ k (hk:k<i),l[k].name≠n):fx8 l n=(i:Int):=by
 unfold fx8
 have:l.findIdx? (fun s=>s.name == n)=some i:=by
  rw[List.findIdx?_eq_some_iff_getElem]
  exact⟨hi,by simpa using h,fun j hj=>by simpa using hb j hj⟩
 rw[this]
theorem fx8_no {l:List Ob.Sm}{n:List UInt8}(hb:∀ k (hk:k<l.length),l[k].name≠n):fx8 l n=-1:=by
 unfold fx8
 have:l.findIdx? (fun s=>s.name == n)=none:=by
  rw[List.findIdx?_eq_none_iff]
  intro x hx
  obtain⟨k,hk,rfl⟩:=List.getElem_of_mem hx
  simpa using hb k hk
 rw[this]
theorem vY {w:World}{a:Option Addr}{c:Nat}{l:List Ob.Sm}(h:Sl w (.slice a l.length c) 3 l.length (cellsOf smC l)) (hn:l.length<=1000) (n:List UInt8) (bp:Nat) (hc:w.cell? ⟨bp,0,none⟩=some (.string (bs n))) :
  Calls Tryz.prog 43 #[.slice a l.length c,.func (.func 77) #[] #[.pointer (some ⟨bp,0,none⟩)]] w fun e w'=>e=.returned (.int .i64 (fx8 l n))/\Below w.heap.size w w':=by
 have hn':(l.length:Int)<=1000:=by omega
 have hltp:=World.block_lt_of_cell? _ _ hc
 have HSL:=zh h
 have HC:=zh hc
 obtain⟨ln,hnl⟩:∃ ln,ln=l.length:=⟨_,rfl⟩
 rw[<-hnl]at hn' ⊢
 have HN:=zh hnl
 clear h hnl hc
 go_enter Tryz.func43,Tryz.ntmps43
 go_wp2_with fail
 go_loopg [8] ln (fun k vi wr=>∃ i:Nat,i<=ln/\k=ln - i/\vi=.int .i64 (i:Int)/\Hid (∀ k (hk:k<l.length),k<i->l[k].name≠n)/\Hid (Below w.heap.size w wr))
 case atStart=>exact⟨0,by omega,by omega,rfl,fun k _ hk=>by omega,Below.refl _ _⟩
 case round =>
  obtain⟨i,hid,hk,rfl,HI,HW⟩:=hrel
  by_cases hlt:i<ln
  ·have hlt':(i:Int)<(ln:Int):=by omega
   have hia:i<l.length:=by have:=HN.out;omega
   obtain⟨g,o,rfl,hgl,hcell⟩:=Sl.at' kI (by omega) HSL.out i hia
   have hc:=fun j u (hj:(smC l[i])[j]?=some u)=>(HW.out.cell (p:=⟨g,o+(i * 3+j),none⟩) hgl).trans (hcell j u hj)
   have kc0:wr.cell? ⟨g,o+i * 3,none⟩=some (.string (bs l[i].name)):=hc 0 _ rfl
   have kc1:wr.cell? ⟨g,o+i * 3+1,none⟩=some (.int .i64 l[i].len):=by simpa[Nat.add_assoc] using hc 1 _ rfl
   have kc2:wr.cell? ⟨g,o+i * 3+2,none⟩=some (.int .i64 l[i].args):=by simpa[Nat.add_assoc] using hc 2 _ rfl
   have hlgr:g<wr.heap.size:=by have:=HW.out.size;omega
   have HF:=zh (find1_8 l[i] n wr bp ((HW.out.cell (p:=⟨bp,0,none⟩) hltp).trans HC.out))
   have HAT:Hid (l[i].name=n->fx8 l n=(i:Int)):=fun e=>fx8_at hia e (fun k hk=>HI.out k (by omega) hk)
   have HNX:Hid (¬l[i].name=n->∀ k (hk:k<l.length),k<i+1->l[k].name≠n):=by
    intro hne k hk hlt
    by_cases e:k=i
    ·subst e;exact hne
    ·exact HI.out k hk (by omega)
   clear hc hcell
   generalize l[i].name=x0 at *
   generalize l[i].len=x1 at *
   generalize l[i].args=x2 at *
   go_wp2_with fail
   refine HF.out.mono ?_
   rintro e w3 ⟨rfl,h3⟩
   have HW3:=zh (HW.out.trans (h3.mono HW.out.size))
   clear h3
   by_cases hx:x0=n
   ·rw[decide_eq_true hx]
    have he:=HAT.out hx
    go_wp2_with fail
    go_ret
    exact⟨by first|rfl|(rw[he];rfl),HW3.out⟩
   ·rw[decide_eq_false hx]
    have HI3:=zh (HNX.out hx)
    go_wp2_with fail
    go_roundg (ln - (i+1))
    case measure=>omega
    case rel=>exact⟨i+1,by omega,rfl,by go_num,HI3,HW3⟩
  ·have hlt':¬(i:Int)<(ln:Int):=by omega
   have he:fx8 l n=-1:=fx8_no (fun k hk=>HI.out k hk (by have:=HN.out;omega))
   go_wp2_with fail
   go_ret
   exact⟨by first|rfl|(rw[he];rfl),HW.out⟩
theorem find8 {w:World}{a:Option Addr}{c:Nat}{l:List Ob.Sm}(h:Sl w (.slice a l.length c) 3 l.length (cellsOf smC l)) (hn:l.length<=1000) (n:List UInt8) :
  Calls Tryz.prog 38 #[.slice a l.length c,.string (bs n)] w fun e w'=>e=.returned (.int .i64 (fx8 l n))/\Below w.heap.size w w':=by
 have hmf:=zm
 have hal:Below w.heap.size w (w.alloc (.cells #[.string (bs n)] 9)):=zb _ _
 have HC:=zh (vY (h.below hal) hn n w.heap.size (zc (zw _ _)))
 have HAL:=zh hal
 clear h
 generalize l.length=ln at *
 go_enter Tryz.func38,Tryz.ntmps38
 go_wp2_with fail
 refine HC.out.mono ?_
 rintro e w1 ⟨rfl,h1⟩
 have H1:=zh (HAL.out.trans (h1.mono (by simp)))
 clear h1
 go_wp2_with fail
 go_ret
 exact⟨rfl,H1.out⟩
end Go.Proofs.YtmnedfdffbbchaaGreatDoor.Jo

namespace Go.Proofs.YtmnedfdffbbchaaGreatDoor.Jo
open Go.RowKit Go.Maps
open Ob (O In I64)
open Vm (St Fr Pl)
def toldS (s:Vm.St):Int:=if s.way=1 then s.stack.headD 0 else 0
theorem told8 {c:Vx}{W:World}{s:Vm.St}(h:MV c W s) :
  Calls Tryz.prog 41 #[.pointer (some ⟨c.gb,0,none⟩)] W fun e W'=>e=.returned (.int .i64 (toldS s))/\Below W.heap.size W W':=by
 obtain⟨vv,fv,sv,ov,hm,hg⟩:=h
 obtain⟨sa,sc,hsv⟩:=zy hm.st
 subst hsv
 have k3:W.cell? ⟨c.gb,3,none⟩=some (.slice sa s.stack.length sc):=(zc hg).trans rfl
 have k5:W.cell? ⟨c.gb,5,none⟩=some (.int .i64 (s.way:Int)):=(zc hg).trans rfl
 have hgl:=zk hg
 have hsl:=hm.sl
 by_cases hw:s.way=1
 ·by_cases hl:s.stack.length=0
  ·have hs:toldS s=0:=by
    unfold toldS
    rw[if_pos hw,List.length_eq_zero_iff.1 hl]
    rfl
   rw[hs]
   rw[hw]at k5
   rw[hl]at k3
   clear hm hg hw hl hs hsl
   go_enter Tryz.func41,Tryz.ntmps41
   go_wp2_with fail
   go_ret
   exact⟨rfl,Below.refl _ _⟩
  ·obtain⟨n,r,hst⟩:∃ n r,s.stack=n :: r:=by
    cases hq:s.stack with
    | nil=>rw[hq]at hl;simp at hl
    | cons n r=>exact⟨n,r,rfl⟩
   have hs:toldS s=n:=by
    unfold toldS
    rw[if_pos hw,hst]
    rfl
   have hrl:s.stack.length=r.length+1:=by rw[hst];rfl
   have hstk:=hm.st
   obtain⟨sb,sc',hsv',_,hsb,hsc,hcell⟩:=jz hstk (by omega)
   cases hsv'
   have hc:=hcell r.length (by omega)
   rw[hst,List.reverse_cons,kZ,List.getElem?_append_right (by simp[ints]),show r.length - (ints r.reverse).length=0 by simp[ints]]at hc
   have hc:W.cell? ⟨sb,r.length,none⟩=some (.int .i64 n):=hc
   rw[hs]
   rw[hw]at k5
   rw[hrl]at k3 hsl hsc
   clear hm hg hw hl hs hrl hst hstk hcell
   generalize r.length=m at *
   have hm:(m:Int)<=10000:=by omega
   have hn0:¬((m:Int)+1=0):=by omega
   have e1:((m+1:Nat):Int)=(m:Int)+1:=by omega
   have hsc':(m:Int)<(sc:Int):=by omega
   go_enter Tryz.func41,Tryz.ntmps41
   go_wp2_with fail
   go_quiet (fail)
   go_wp2_with fail
   go_ret
   exact⟨rfl,below_drewN W nq⟩
 ·have hs:toldS s=0:=by
   unfold toldS
   rw[if_neg hw]
  have hw':¬((s.way:Int)=1):=by omega
  rw[hs]
  clear hm hg hw hs hsl
  go_enter Tryz.func41,Tryz.ntmps41
  go_wp2_with fail
  go_ret
  exact⟨rfl,Below.refl _ _⟩
end Go.Proofs.YtmnedfdffbbchaaGreatDoor.Jo

namespace Go.Proofs.YtmnedfdffbbchaaGreatDoor.Jo
open Go.RowKit Go.Maps
open Ob (O In I64)
def Args8 (W:World) (sp:Option Addr) (l:List Int):Prop:=0<l.length->∃ ad,sp=some ad/\ad.spot=none/\ad.block<W.heap.size/\∀ j v,(ints l)[j]?=some v->W.cell? (ad.add j)=some v
theorem args_on {W w:World}{sp:Option Addr}{l:List Int}(h:Args8 W sp l) (hb:Below W.heap.size W w):0<(ints l).length->∃ ad,sp=some ad/\∀ j v,(ints l)[j]?=some v->w.cell? (ad.add j)=some v:=fun hl=>by
 obtain⟨ad,h1,h2,h3,h4⟩:=h (by simpa[ints] using hl)
 refine⟨ad,h1,fun j v hj=>?_⟩
 obtain⟨b,o,q⟩:=ad
 have h2:q=none:=h2
 subst h2
 rw[<-h4 j v hj,Addr.add_lit]
 exact hb.cell (p:=⟨b,o+j,none⟩) h3
def argF (o:O) (a m:Nat) (l:List Int):Vm.Fr:=⟨o.name,a,0,m,l++zeros (10 - l.length)⟩
def sA (o:O) (vv:List (List Int)) (a m:Nat) (l:List Int):Vm.St:=s9 o vv (argF o a m l)
theorem xQ {l:List Int}(h:l.length<=10):(l++zeros (10 - l.length)).length=10:=by
 simp[zeros]
 omega
theorem vP (x0 x1 x2 x3:Value) (l:List Int) (h:l.length<=10):splice ([x0,x1,x2,x3]++ints (zeros 10)) 4 (ints l)=[x0,x1,x2,x3]++ints (l++zeros (10 - l.length)):=by
 unfold splice
 rw[List.take_left' (by rfl),List.drop_append,List.drop_eq_nil_of_le (by simp)]
 have e:∀ n,ints (zeros n)=List.replicate n (.int .i64 0):=fun n=>by simp[ints,zeros]
 have e2:ints (l++zeros (10 - l.length))=ints l++ints (zeros (10 - l.length)):=by simp[ints]
 rw[e2,e,e,List.drop_replicate,List.nil_append,show 10 - (4+(ints l).length - [x0,x1,x2,x3].length)=10 - l.length by rw[j6];show 10 - (4+l.length - 4)=_;omega]
def ar4 (c:Vx) (a m:Nat):List Value:=[.pointer (some ⟨c.pb,0,none⟩),.int .i64 (a:Int),.int .i64 0,.int .i64 (m:Int)]
def CallP8 (W:World) (c:Vx) (a m:Nat) (l:List Int) (vv:List (List Int)) (fuel:Nat) (e:Ending) (W':World):Prop:=∃ gb oa oc,W.heap.size<=gb/\e=.returned (.tuple #[.agg #[.int .i64 ((Vm.goes 30 fuel (sA c.O vv a m l)).way:Int),.slice oa (Vm.goes 30 fuel (sA c.O vv a m l)).out.length oc],.int .i64 (toldS (Vm.goes 30 fuel (sA c.O vv a m l))),.nilIface])/\VxOk (c.call gb 30)/\MV (c.call gb 30) W' (Vm.goes 30 fuel (sA c.O vv a m l))/\W'.ownsRow (gb+1) 2 1 (.slice oa (Vm.goes 30 fuel (sA c.O vv a m l)).out.length oc) (Vm.goes 30 fuel (sA c.O vv a m l)).out.length (ints (Vm.goes 30 fuel (sA c.O vv a m l)).out)
theorem call8 {c:Vx}{W:World}{s:Vm.St}{vv:List (List Int)}{fv sv ov:Value}{mb i j at' many:Nat}{l:List Int}{sp:Option Addr}{lc:Nat}{x:Tp.Bs}(h:MM c W s vv fv sv ov) (ok:VxOk c) (hbl:∀ w,Below W.heap.size W w->MM c w s vv fv sv ov) (hvb:c.vb<W.heap.size)
  (hm:W.heap[mb]?=some (.cells #[.map (some c.tb)] 44 (0,0))) (hmap:MapV W c.tb 1 (updV (fun _=>none) c.O.name (.pointer (some ⟨c.pb,0,none⟩)))) (hnl:c.O.name.length<=1000000) (hsl:c.O.syms.length<=1000) (hnn:c.O.names.length<=1000000)
  (hx:fx8 c.O.syms x=(i:Int)) (hi:i<c.O.syms.length) (hia:c.O.syms[i].args=(l.length:Int)) (hy:ix8 c.O.names x=(j:Int)) (hj:j<c.O.procs.length) (hja:c.O.procs[j].args=(l.length:Int)) (hat:c.O.procs[j].at'=(at':Int)) (hmany:c.O.procs[j].locals=(many:Int))
  (ha:Args8 W sp l) (hl:l.length<=10) (h64:∀ v∈l,I64 v) (hmn:many<=10) (hatl:at'<c.O.code.length) (fuel:Nat) (hfu:fuel<=1000000) :
  Calls Tryz.prog 13 #[.pointer (some ⟨mb,0,none⟩),.string (bs c.O.name),.string (bs x),.slice sp l.length lc,.int .i64 (fuel:Int)] W (CallP8 W c at' many l vv fuel):=by
 obtain⟨w0,hw0⟩:∃ w0,w0=W.alloc (.cells #[.int .i64 0,.slice none 0 0] 46):=⟨_,rfl⟩
 have hb0:Below W.heap.size W w0:=by rw[hw0];exact zb _ _
 have hm0:=(hb0.block _ (zk hm)).trans hm
 have hmap0:=hmap.on (hb0.block _ hmap.lt)
 have hlk:(Instr.lookup 42 (.map (some c.tb)) (.string (bs c.O.name)) false).run Tryz.prog w0=.ok (.pointer (some ⟨c.pb,0,none⟩)) w0:=by
  have:=hmap0.look (t:=42) (e:=81) Tryz.underlying42 (z:=.pointer none) (by kernel_rfl) c.O.name hnl false
  simp[updV]at this
  exact this
 have k0:w0.cell? ⟨mb,0,none⟩=some (.map (some c.tb)):=(zc hm0).trans rfl
 have hml:mb<w0.heap.size:=zk hm0
 have hp0:=(hb0.block _ (zk h.pk)).trans h.pk
 have kp:w0.cell? ⟨c.pb,0,none⟩=some (.pointer (some ⟨c.ob,c.oo,none⟩)):=(zc hp0).trans rfl
 have hpl:c.pb<w0.heap.size:=zk hp0
 obtain⟨sa,ua,va,pa,na,ca,sc,uc,vc,pc,nc,cc,hv⟩:=ok.oa.below (h.be.trans (hb0.mono h.be.size))
 have k1:=hv.c1
 have hol:c.ob<w0.heap.size:=zi k1
 have HFI:=zh (find8 hv.s hsl x)
 rw[hx]at HFI
 have HH:=zh h
 have HOK:=zh ok
 have HVB:=zh hvb
 have HK0:Hid (w0.heap[W.heap.size]?=some (.cells #[.int .i64 0,.slice none 0 0] 46 (0,0))):=by rw[hw0];exact zw _ _
 have HARG:Hid (∀ w,Below W.heap.size W w->0<(ints l).length->∃ ad,sp=some ad/\∀ j v,(ints l)[j]?=some v->w.cell? (ad.add j)=some v):=fun w hb=>args_on ha hb
 have H64:=zh h64
 have HAL:=zh (And.intro hatl hmn)
 obtain⟨a0,a1,a2,a3,a4,a5,a6,a7,a8,a9,hten⟩:=ten (xQ hl)
 have HTEN:=zh hten
 have HLL:=zh hl
 have HLI:Hid ((ints l).length=l.length):=j6 l
 have hl':(l.length:Int)<=10:=by omega
 have HMB0:Hid (W.heap[mb]?=some (.cells #[.map (some c.tb)] 44 (0,0))):=hm
 clear ha h64 hten hatl hmn
 have HB0:=zh hb0
 have HMW:Hid (∀ w,Below W.heap.size W w->MM c w s vv fv sv ov):=fun w hb=>hbl w hb
 have HPR:Hid (∀ w,Below W.heap.size W w->Calls Tryz.prog 39 #[.pointer (some ⟨c.pb,0,none⟩),.string (bs x)] w fun e W'=>e=.returned (.int .i64 (j:Int))/\W'=w):=fun w hb=>by
  have:=proc8 (hbl _ hb) ok x hnn
  rw[hy]at this
  exact this
 have HEN:Hid (∀ w,Below W.heap.size W w->Calls Tryz.prog 40 #[.pointer (some ⟨c.pb,0,none⟩),.int .i64 (j:Int)] w fun e W'=>e=.returned (.agg #[.pointer (some ⟨c.pb,0,none⟩),.int .i64 (at':Int),.int .i64 0,.int .i64 (many:Int),.int .i64 0,.int .i64 0,.int .i64 0,.int .i64 0,.int .i64 0,.int .i64 0,.int .i64 0,.int .i64 0,.int .i64 0,.int .i64 0])/\Below w.heap.size w W'):=fun w hb=>entered8 (hbl _ hb) ok hj at' many hat hmany
 clear h ok hb0 hm hm0 hmap hmap0 hv hp0
 go_enter Tryz.func13,Tryz.ntmps13
 go_upto_region 1 with fail
 rw[<-hw0]
 clear hw0
 go_wp2_with fail
 refine HFI.out.mono ?_
 rintro e w1 ⟨rfl,hb1⟩
 have HB1:Hid (Below w0.heap.size w0 w1):=hb1
 have hbW:Below W.heap.size W w1:=HB0.out.trans (hb1.mono HB0.out.size)
 have hpk1:=(hbW.block _ (zk HH.out.pk)).trans HH.out.pk
 have kp1:w1.cell? ⟨c.pb,0,none⟩=some (.pointer (some ⟨c.ob,c.oo,none⟩)):=(zc hpk1).trans rfl
 have hpl1:c.pb<w1.heap.size:=zk hpk1
 obtain⟨sa1,ua1,va1,pa1,na1,ca1,sc1,uc1,vc1,pc1,nc1,cc1,hv1⟩:=HOK.out.oa.below (HH.out.be.trans (hbW.mono HH.out.be.size))
 have k11:=hv1.c1
 have hol1:c.ob<w1.heap.size:=zi k11
 obtain⟨sb,so,rfl,hsb,hsc⟩:=Sl.at' kI (by omega) hv1.s i hi
 have ks:w1.cell? ⟨sb,so+i * 3+2,none⟩=some (.int .i64 (l.length:Int)):=by
  have:=hsc 2 _ rfl
  rw[hia]at this
  simpa[Nat.add_assoc] using this
 have hil:(i:Int)<(c.O.syms.length:Int):=by omega
 have hi0:¬(i:Int)<0:=by omega
 clear hb1 hbW hpk1 hv1 hsc hlk k0 kp k1 hml hpl hol
 go_wp2_with fail
 refine(HPR.out w1 (HB0.out.trans (HB1.out.mono HB0.out.size))).mono ?_
 rintro e w2 ⟨rfl,rfl⟩
 have hbW:Below W.heap.size W w2:=HB0.out.trans (HB1.out.mono HB0.out.size)
 obtain⟨sa2,ua2,va2,pa2,na2,ca2,sc2,uc2,vc2,pc2,nc2,cc2,hv2⟩:=HOK.out.oa.below (HH.out.be.trans (hbW.mono HH.out.be.size))
 have k14:=hv2.c4
 obtain⟨pbb,pso,rfl,hpb',hpc⟩:=Sl.at' jK (by omega) hv2.p j hj
 have kj:w2.cell? ⟨pbb,pso+j * 3+1,none⟩=some (.int .i64 (l.length:Int)):=by
  have:=hpc 1 _ rfl
  rw[hja]at this
  simpa[Nat.add_assoc] using this
 have hjl:(j:Int)<(c.O.procs.length:Int):=by omega
 have hj0:¬(j:Int)<0:=by omega
 clear hbW hv2 hpc
 go_wp2_with fail
 refine(HEN.out w2 (HB0.out.trans (HB1.out.mono HB0.out.size))).mono ?_
 rintro e w3 ⟨rfl,hb3⟩
 have HB3:Hid (Below w0.heap.size w0 w3):=HB1.out.trans (hb3.mono HB1.out.size)
 have hbW3:Below W.heap.size W w3:=HB0.out.trans (HB3.out.mono HB0.out.size)
 clear hb3 hbW3 kj k14 hol1 hpl1 kp1 k11 ks
 have HFU:=zh hfu
 clear hfu hnn hsl hnl hvb hbl
 go_upto_region 11 with fail
 obtain⟨w4,hw4⟩:∃ w4,w4=w3.alloc (.cells #[.pointer (some ⟨c.pb,0,none⟩),.int .i64 (at':Int),.int .i64 0,.int .i64 (many:Int),.int .i64 0,.int .i64 0,.int .i64 0,.int .i64 0,.int .i64 0,.int .i64 0,.int .i64 0,.int .i64 0,.int .i64 0,.int .i64 0] 87):=⟨_,rfl⟩
 have hf4:w4.heap[w3.heap.size]?=some (.cells (ar4 c at' many++ints (zeros 10)).toArray 87 (0,0)):=by rw[hw4];exact(zw _ _).trans rfl
 have hb4:Below w3.heap.size w3 w4:=by rw[hw4];exact zb _ _
 have hbW3:Below W.heap.size W w3:=HB0.out.trans (HB3.out.mono HB0.out.size)
 have hcn:(ints l).length=Nat.min l.length 10:=by rw[j6];exact(Nat.min_eq_left hl).symm
 have hcp:0<(ints l).length->∃ ad,sp=some ad/\∀ j v,(ints l)[j]?=some v->w4.cell? (ad.add j)=some v:=fun q=>HARG.out w4 (hbW3.trans (hb4.mono hbW3.size)) q
 have hcf:4+(ints l).length<=(ar4 c at' many++ints (zeros 10)).length:=by rw[j6];show 4+l.length<=14;omega
 have hc1:∀ v∈ints l,v.oneCell'=true:=fun v hv=>by
  simp only [ints,List.mem_map]at hv
  obtain⟨n,_,rfl⟩:=hv
  rfl
 have HS:Hid (splice (ar4 c at' many++ints (zeros 10)) 4 (ints l)=ar4 c at' many++ints (l++zeros (10 - l.length))):=vP _ _ _ _ l hl
 rw[<-hw4]
 have HB34:=zh hb4
 have HW3:=zh hbW3
 have HF4:=zh hf4
 have HCN:=zh hcn
 have HCP:=zh hcp
 have HCF:=zh hcf
 have HC1:=zh hc1
 clear hw4 hf4 hb4 hbW3 hcn hcp hcf hc1 HARG hl
 go_wp2_with (refine wpList_copy_splice rfl (.tmp 99) (.tmp 100) 23 23 rfl 2 Tryz.underlying23 (by kernel_rfl) (some ⟨w3.heap.size,4,none⟩) sp 10 10 l.length lc rfl rfl w3.heap.size 4 _ 87 HF4.out (ints l) HCN.out (fun q=>⟨rfl,HCP.out q⟩) HCF.out HC1.out w3.heap.size w3 HB34.out zn ?_)
 intro w5 HG5 hb5
 have HB5:Hid (Below W.heap.size W w5):=HW3.out.trans (hb5.mono HW3.out.size)
 have hg5:=HG5.out
 rw[HS.out,HTEN.out]at hg5
 have y0:w5.cell? ⟨w3.heap.size,0,none⟩=some (.pointer (some ⟨c.pb,0,none⟩)):=(zc hg5).trans rfl
 have y1:w5.cell? ⟨w3.heap.size,1,none⟩=some (.int .i64 (at':Int)):=(zc hg5).trans rfl
 have y2:w5.cell? ⟨w3.heap.size,2,none⟩=some (.int .i64 0):=(zc hg5).trans rfl
 have y3:w5.cell? ⟨w3.heap.size,3,none⟩=some (.int .i64 (many:Int)):=(zc hg5).trans rfl
 have y4:w5.cell? ⟨w3.heap.size,4,none⟩=some (.int .i64 a0):=(zc hg5).trans rfl
 have y5:w5.cell? ⟨w3.heap.size,5,none⟩=some (.int .i64 a1):=(zc hg5).trans rfl
 have y6:w5.cell? ⟨w3.heap.size,6,none⟩=some (.int .i64 a2):=(zc hg5).trans rfl
 have y7:w5.cell? ⟨w3.heap.size,7,none⟩=some (.int .i64 a3):=(zc hg5).trans rfl
 have y8:w5.cell? ⟨w3.heap.size,8,none⟩=some (.int .i64 a4):=(zc hg5).trans rfl
 have y9:w5.cell? ⟨w3.heap.size,9,none⟩=some (.int .i64 a5):=(zc hg5).trans rfl
 have y10:w5.cell? ⟨w3.heap.size,10,none⟩=some (.int .i64 a6):=(zc hg5).trans rfl
 have y11:w5.cell? ⟨w3.heap.size,11,none⟩=some (.int .i64 a7):=(zc hg5).trans rfl
 have y12:w5.cell? ⟨w3.heap.size,12,none⟩=some (.int .i64 a8):=(zc hg5).trans rfl
 have y13:w5.cell? ⟨w3.heap.size,13,none⟩=some (.int .i64 a9):=(zc hg5).trans rfl
 have fl:w3.heap.size<w5.heap.size:=zk hg5
 have hm5:=(HB5.out.block _ (zk HMB0.out)).trans HMB0.out
 have m5:w5.cell? ⟨mb,0,none⟩=some (.map (some c.tb)):=(zc hm5).trans rfl
 have ml5:mb<w5.heap.size:=zi m5
 obtain⟨S,hS⟩:∃ S,S=Vm.goes 30 fuel (sA c.O vv at' many l):=⟨_,rfl⟩
 have hfr:FrOk c (argF c.O at' many l):=⟨rfl,xQ HLL.out,fun v hv=>by
  rcases List.mem_append.1 hv with q|q
  ·exact H64.out v q
  ·have e:v=0:=by
    unfold zeros at q
    exact List.eq_of_mem_replicate q
   rw[e]
   unfold I64
   omega,HAL.out.2,by have:=HAL.out.1;have:=zP HOK.out;show at'<=4000;omega,Nat.zero_le _⟩
 have hloc:frC c (argF c.O at' many l)=[.pointer (some ⟨c.pb,0,none⟩),.int .i64 (at':Int),.int .i64 0,.int .i64 (many:Int),.int .i64 a0,.int .i64 a1,.int .i64 a2,.int .i64 a3,.int .i64 a4,.int .i64 a5,.int .i64 a6,.int .i64 a7,.int .i64 a8,.int .i64 a9]:=by
  show [Value.pointer (some ⟨c.pb,0,none⟩),.int .i64 (at':Int),.int .i64 ((0:Nat):Int),.int .i64 (many:Int)]++ints (l++zeros (10 - l.length))=_
  rw[HTEN.out]
  rfl
 have hce:c.eb W.heap.size=none:=by
  cases q:c.eb W.heap.size with
  | none=>rfl
  | some o =>
   have:=yC (HH.out.ek _ o q).1
   omega
 have hw0s:=HH.out.be.size
 have hx5:∀ w6,Below w5.heap.size w5 w6->w6.heap[W.heap.size]?=some (.cells #[.int .i64 0,.slice none 0 0] 46 (0,0)):=fun w6 hb6=>by
  have h03:Below w0.heap.size w0 w3:=HB3.out
  have hl:=zk HK0.out
  have h05:Below w0.heap.size w0 w5:=h03.trans (hb5.mono h03.size)
  exact((h05.trans (hb6.mono h05.size)).block _ hl).trans HK0.out
 have HGO:Hid (∀(w6:World) (gb fb:Nat),Below w5.heap.size w5 w6->w5.heap.size<=gb->w5.heap.size<=fb->w6.heap[fb]?=some (.cells #[.pointer (some ⟨c.pb,0,none⟩),.int .i64 (at':Int),.int .i64 0,.int .i64 (many:Int),.int .i64 a0,.int .i64 a1,.int .i64 a2,.int .i64 a3,.int .i64 a4,.int .i64 a5,.int .i64 a6,.int .i64 a7,.int .i64 a8,.int .i64 a9] 87 (0,0))->w6.heap[gb]?=some (.cells #[.map (some c.tb),.slice (some ⟨fb,0,none⟩) 1 1,.int .i64 30,.slice none 0 0,.slice none 0 0,.int .i64 0] 90 (0,0))->VxOk (c.call gb 30)/\Calls Tryz.prog 37 #[.pointer (some ⟨gb,0,none⟩),.int .i64 (fuel:Int)] w6 (GoP ((c.call gb 30).with (some W.heap.size)) S)):=fun w6 gb fb hb6 h1 h2 h3 h4=>by
  have hbw:Below W.heap.size W w6:=HB5.out.trans (hb6.mono HB5.out.size)
  have hsz:=HB5.out.size
  obtain⟨ok,hmm⟩:=start9 (gb:=gb) (fb:=fb) (most:=30) (f:=argF c.O at' many l) HH.out HOK.out HVB.out hbw (by omega) (by omega) (by omega) (by omega) hfr (by rw[hloc];exact h3)
  refine⟨ok,?_⟩
  have hmv:MV ((c.call gb 30).with (some W.heap.size)) w6 (sA c.O vv at' many l):=⟨_,_,_,_,hmm.with _ (fun x hx=>by cases hx;exact hx5 w6 hb6),h4⟩
  have:=goes8 hmv (ok.with _) (inv9 HAL.out.1 rfl) fuel HFU.out
  rw[hS]
  exact this
 have HFIN:Hid (∀(gb:Nat) w7 oa oc,w5.heap.size<=gb->VxOk (c.call gb 30)->MV ((c.call gb 30).with (some W.heap.size)) w7 S->w7.ownsRow (gb+1) 2 1 (.slice oa S.out.length oc) S.out.length (ints S.out)->(∀ w9,Below w7.heap.size w7 w9->Calls Tryz.prog 41 #[.pointer (some ⟨gb,0,none⟩)] w9 fun e W'=>e=.returned (.int .i64 (toldS S))/\Below w9.heap.size w9 W')/\∀ w9,Below w7.heap.size w7 w9->w9.heap[W.heap.size]?=some (.cells #[.int .i64 0,.slice none 0 0] 46 (0,0))/\∀ wz,wz=(w9.setCell ⟨W.heap.size,0,none⟩ (.int .i64 (S.way:Int))).setCell ⟨W.heap.size,1,none⟩ (.slice oa S.out.length oc)->CallP8 W c at' many l vv fuel (.returned (.tuple #[.agg #[.int .i64 (S.way:Int),.slice oa S.out.length oc],.int .i64 (toldS S),.nilIface])) wz/\wz.cell? ⟨W.heap.size,0,none⟩=some (.int .i64 (S.way:Int))/\wz.cell? ⟨W.heap.size,1,none⟩=some (.slice oa S.out.length oc)):=fun gb w7 oa oc hgb ok hmv how=>by
  refine⟨fun w9 h9=>told8 (c:=(c.call gb 30).with (some W.heap.size)) (s:=S) (hmv.below (ok.with (some W.heap.size)) h9),fun w9 h9=>?_⟩
  obtain⟨vv',fv',sv',ov',h1,h2⟩:=hmv.below (ok.with (some W.heap.size)) h9
  have hx:=(h1.ek W.heap.size _ (by show (if some W.heap.size=some W.heap.size then _ else _)=_;rw[if_pos rfl])).1
  refine⟨hx,fun wz hz=>?_⟩
  have hm0:=h1.without hce
  have hg0:G8 (c.call gb 30) w9 fv' sv' ov' S.way:=h2
  obtain⟨q1,q2⟩:=hm0.ebox hg0 hce hx hw0s 0 (.int .i64 (S.way:Int))
  have hx1:=zC 0 (.int .i64 (S.way:Int)) hx
  obtain⟨r1,r2⟩:=q1.ebox q2 hce hx1 hw0s 1 (.slice oa S.out.length oc)
  have hx2:=zC 1 (.slice oa S.out.length oc) hx1
  rw[<-hz]at r1 r2 hx2
  rw[hS]at how r1 r2 hz ⊢
  refine⟨⟨gb,oa,oc,by have:=HB5.out.size;omega,rfl,ok,⟨vv',fv',sv',ov',r1,r2⟩,?_⟩,?_,?_⟩
  ·refine z7 (zD how h9) fun b q0 q1 q2=>?_
   have hgbx:W.heap.size<=gb:=by have:=HB5.out.size;omega
   have hbx:b≠W.heap.size:=by
    have:=zG how b q2
    omega
   rw[hz]
   exact(Below.heap_setCell _ _ _ _ (by simpa using hbx)).trans (Below.heap_setCell _ _ _ _ (by simpa using hbx))
  ·rw[<-hS]
   exact(zc hx2).trans rfl
  ·rw[<-hS]
   exact(zc hx2).trans rfl
 have HX5:=zh hx5
 have HSZ:Hid (W.heap.size<w5.heap.size):=Nat.lt_of_lt_of_le (zk HK0.out) (by have:=HB3.out.size;have:=hb5.size;omega)
 have HHE:=zh (And.intro hS HMW.out)
 clear hb5 hg5 hm5 hfr hloc hce hw0s hx5 hS HH HOK HVB HK0 H64 HAL HTEN HMB0 HMW HPR HEN HFI
 obtain⟨td,htd⟩:∃ td,td=toldS S:=⟨_,rfl⟩
 obtain⟨wy,hwy⟩:∃ wy:Nat,wy=S.way:=⟨_,rfl⟩
 obtain⟨on,hon⟩:∃ on,on=S.out.length:=⟨_,rfl⟩
 rw[<-htd,<-hwy,<-hon]at HFIN
 have HSE:=zh (And.intro hwy hon)
 clear htd hwy hon
 go_upto_region 12 with fail
 go_region
 ·obtain⟨w6,hw6⟩:∃ w6,w6=((w5.alloc (.cells #[.pointer (some ⟨c.pb,0,none⟩),.int .i64 (at':Int),.int .i64 0,.int .i64 (many:Int),.int .i64 a0,.int .i64 a1,.int .i64 a2,.int .i64 a3,.int .i64 a4,.int .i64 a5,.int .i64 a6,.int .i64 a7,.int .i64 a8,.int .i64 a9] 87)).alloc (.cells #[.map (some c.tb),.slice (some ⟨w5.heap.size,0,none⟩) 1 1,.int .i64 30,.slice none 0 0,.slice none 0 0,.int .i64 0] 90)).drew:=⟨_,rfl⟩
  have hb6:Below w5.heap.size w5 w6:=by rw[hw6];exact((zb _ _).alloc (by simp) _).drew
  have q1:w6.heap[w5.heap.size]?=some (.cells #[.pointer (some ⟨c.pb,0,none⟩),.int .i64 (at':Int),.int .i64 0,.int .i64 (many:Int),.int .i64 a0,.int .i64 a1,.int .i64 a2,.int .i64 a3,.int .i64 a4,.int .i64 a5,.int .i64 a6,.int .i64 a7,.int .i64 a8,.int .i64 a9] 87 (0,0)):=by
   rw[hw6]
   exact(Below.heap_alloc _ _ _ (by simp)).trans (zw w5 _)
  have q2:w6.heap[w5.heap.size+1]?=some (.cells #[.map (some c.tb),.slice (some ⟨w5.heap.size,0,none⟩) 1 1,.int .i64 30,.slice none 0 0,.slice none 0 0,.int .i64 0] 90 (0,0)):=by
   have:=zw (w5.alloc (.cells #[.pointer (some ⟨c.pb,0,none⟩),.int .i64 (at':Int),.int .i64 0,.int .i64 (many:Int),.int .i64 a0,.int .i64 a1,.int .i64 a2,.int .i64 a3,.int .i64 a4,.int .i64 a5,.int .i64 a6,.int .i64 a7,.int .i64 a8,.int .i64 a9] 87)) (.cells #[.map (some c.tb),.slice (some ⟨w5.heap.size,0,none⟩) 1 1,.int .i64 30,.slice none 0 0,.slice none 0 0,.int .i64 0] 90)
   rw[show (w5.alloc (.cells #[.pointer (some ⟨c.pb,0,none⟩),.int .i64 (at':Int),.int .i64 0,.int .i64 (many:Int),.int .i64 a0,.int .i64 a1,.int .i64 a2,.int .i64 a3,.int .i64 a4,.int .i64 a5,.int .i64 a6,.int .i64 a7,.int .i64 a8,.int .i64 a9] 87)).heap.size=w5.heap.size+1 by simp]at this
   rw[hw6]
   exact this
  obtain⟨ok,hgo⟩:=HGO.out w6 (w5.heap.size+1) (w5.heap.size) hb6 (by omega) (by omega) q1 q2
  have HFN:=zh (HFIN.out (w5.heap.size+1))
  have HGB:Hid (w5.heap.size<=w5.heap.size+1):=by show _<=_;omega
  rw[<-hw6]
  generalize w5.heap.size+1=gb at *
  generalize w5.heap.size=fb at *
  have HG:=zh hgo
  have HOK:=zh ok
  clear hw6 hb6 q1 q2 ok hgo
  clear y0 y1 y2 y3 y4 y5 y6 y7 y8 y9 y10 y11 y12 y13 fl m5 ml5 HGO HFIN
  go_wp2_with fail
  refine HG.out.mono ?_
  rintro e w7 ⟨hmv,oa,oc,rfl,how⟩
  rw[<-HSE.out.2]at how
  rw[<-HSE.out.1,<-HSE.out.2]
  obtain⟨htl,hfin⟩:=HFN.out w7 oa oc HGB.out HOK.out hmv how
  obtain⟨w8,hw8⟩:∃ w8,w8=w7.alloc (.cells #[.int .i64 (wy:Int),.slice oa on oc] 46):=⟨_,rfl⟩
  have hb8:Below w7.heap.size w7 w8:=by rw[hw8];exact zb _ _
  have hk8:w8.heap[w7.heap.size]?=some (.cells #[.int .i64 (wy:Int),.slice oa on oc] 46 (0,0)):=by rw[hw8];exact zw _ _
  have e0:w8.cell? ⟨w7.heap.size,0,none⟩=some (.int .i64 (wy:Int)):=(zc hk8).trans rfl
  have e1:w8.cell? ⟨w7.heap.size,1,none⟩=some (.slice oa on oc):=(zc hk8).trans rfl
  have HTL:=zh (htl w8.drew hb8.drew)
  have HCC:Hid (∀ w9,Below w8.drew.heap.size w8.drew w9->w9.cell? ⟨w7.heap.size,0,none⟩=some (.int .i64 (wy:Int))/\w9.cell? ⟨w7.heap.size,1,none⟩=some (.slice oa on oc)/\w9.cell? ⟨W.heap.size,0,none⟩=some (.int .i64 0)/\w9.cell? ⟨W.heap.size,1,none⟩=some (.slice none 0 0)/\w9.frozen? ⟨W.heap.size,0,none⟩=false/\w9.frozen? ⟨W.heap.size,1,none⟩=false/\w7.heap.size<w9.heap.size/\W.heap.size<w9.heap.size/\∀ wz,wz=(w9.setCell ⟨W.heap.size,0,none⟩ (.int .i64 (wy:Int))).setCell ⟨W.heap.size,1,none⟩ (.slice oa on oc)->CallP8 W c at' many l vv fuel (.returned (.tuple #[.agg #[.int .i64 (wy:Int),.slice oa on oc],.int .i64 td,.nilIface])) wz/\wz.cell? ⟨W.heap.size,0,none⟩=some (.int .i64 (wy:Int))/\wz.cell? ⟨W.heap.size,1,none⟩=some (.slice oa on oc)):=fun w9 hb9=>by
   have hk9:=(hb9.block _ (zk hk8)).trans hk8
   have h79:Below w7.heap.size w7 w9:=hb8.drew.trans (hb9.mono hb8.size)
   obtain⟨hx9,hz9⟩:=hfin w9 h79
   exact⟨(zc hk9).trans rfl,(zc hk9).trans rfl,(zc hx9).trans rfl,(zc hx9).trans rfl,zr hx9,zr hx9,zk hk9,zk hx9,hz9⟩
  have d0:w8.drew.cell? ⟨w7.heap.size,0,none⟩=some (.int .i64 (wy:Int)):=e0
  have d1:w8.drew.cell? ⟨w7.heap.size,1,none⟩=some (.slice oa on oc):=e1
  have hl8:w7.heap.size<w8.heap.size:=zk hk8
  clear hmv how htl hfin hb8 hk8 HG HFN HOK HGB HHE HSE
  go_upto_region 14 with fail
  rw[<-hw8]
  clear hw8
  go_region_with (go_at_call 41;refine HTL.out.mono ?_;rintro e w9 ⟨rfl,hb9⟩;obtain⟨x0,x1,r0,r1,z0,z1,l1,l2,hz9⟩:=HCC.out w9 hb9;have HZ9:=zh hz9;clear hz9 hb9)
  all_goals go_wp2_with fail
  all_goals obtain⟨hr,f0',f1'⟩:=HZ9.out _ rfl
  all_goals exact bodyPost_ret (v:=.tuple #[.agg #[.int .i64 (wy:Int),.slice oa on oc],.int .i64 td,.nilIface]) (by simp[results,Tryz.results13,go_sem,f0',f1']) rfl hr
 ·obtain⟨w6,hw6⟩:∃ w6,w6=((w5.alloc (.cells #[.map (some c.tb),.slice (some ⟨w5.heap.size+1,0,none⟩) 1 1,.int .i64 30,.slice none 0 0,.slice none 0 0,.int .i64 0] 90)).alloc (.cells #[.pointer (some ⟨c.pb,0,none⟩),.int .i64 (at':Int),.int .i64 0,.int .i64 (many:Int),.int .i64 a0,.int .i64 a1,.int .i64 a2,.int .i64 a3,.int .i64 a4,.int .i64 a5,.int .i64 a6,.int .i64 a7,.int .i64 a8,.int .i64 a9] 87)).drew:=⟨_,rfl⟩
  have hb6:Below w5.heap.size w5 w6:=by rw[hw6];exact((zb _ _).alloc (by simp) _).drew
  have q1:w6.heap[w5.heap.size]?=some (.cells #[.map (some c.tb),.slice (some ⟨w5.heap.size+1,0,none⟩) 1 1,.int .i64 30,.slice none 0 0,.slice none 0 0,.int .i64 0] 90 (0,0)):=by
   rw[hw6]
   exact(Below.heap_alloc _ _ _ (by simp)).trans (zw w5 _)
  have q2:w6.heap[w5.heap.size+1]?=some (.cells #[.pointer (some ⟨c.pb,0,none⟩),.int .i64 (at':Int),.int .i64 0,.int .i64 (many:Int),.int .i64 a0,.int .i64 a1,.int .i64 a2,.int .i64 a3,.int .i64 a4,.int .i64 a5,.int .i64 a6,.int .i64 a7,.int .i64 a8,.int .i64 a9] 87 (0,0)):=by
   have:=zw (w5.alloc (.cells #[.map (some c.tb),.slice (some ⟨w5.heap.size+1,0,none⟩) 1 1,.int .i64 30,.slice none 0 0,.slice none 0 0,.int .i64 0] 90)) (.cells #[.pointer (some ⟨c.pb,0,none⟩),.int .i64 (at':Int),.int .i64 0,.int .i64 (many:Int),.int .i64 a0,.int .i64 a1,.int .i64 a2,.int .i64 a3,.int .i64 a4,.int .i64 a5,.int .i64 a6,.int .i64 a7,.int .i64 a8,.int .i64 a9] 87)
   rw[show (w5.alloc (.cells #[.map (some c.tb),.slice (some ⟨w5.heap.size+1,0,none⟩) 1 1,.int .i64 30,.slice none 0 0,.slice none 0 0,.int .i64 0] 90)).heap.size=w5.heap.size+1 by simp]at this
   rw[hw6]
   exact this
  obtain⟨ok,hgo⟩:=HGO.out w6 (w5.heap.size) (w5.heap.size+1) hb6 (by omega) (by omega) q2 q1
  have HFN:=zh (HFIN.out (w5.heap.size))
  have HGB:Hid (w5.heap.size<=w5.heap.size):=by show _<=_;omega
  rw[<-hw6]
  generalize w5.heap.size=gb at *
  generalize w5.heap.size+1=fb at *
  have HG:=zh hgo
  have HOK:=zh ok
  clear hw6 hb6 q1 q2 ok hgo
  clear y0 y1 y2 y3 y4 y5 y6 y7 y8 y9 y10 y11 y12 y13 fl m5 ml5 HGO HFIN
  go_wp2_with fail
  refine HG.out.mono ?_
  rintro e w7 ⟨hmv,oa,oc,rfl,how⟩
  rw[<-HSE.out.2]at how
  rw[<-HSE.out.1,<-HSE.out.2]
  obtain⟨htl,hfin⟩:=HFN.out w7 oa oc HGB.out HOK.out hmv how
  obtain⟨w8,hw8⟩:∃ w8,w8=w7.alloc (.cells #[.int .i64 (wy:Int),.slice oa on oc] 46):=⟨_,rfl⟩
  have hb8:Below w7.heap.size w7 w8:=by rw[hw8];exact zb _ _
  have hk8:w8.heap[w7.heap.size]?=some (.cells #[.int .i64 (wy:Int),.slice oa on oc] 46 (0,0)):=by rw[hw8];exact zw _ _
  have e0:w8.cell? ⟨w7.heap.size,0,none⟩=some (.int .i64 (wy:Int)):=(zc hk8).trans rfl
  have e1:w8.cell? ⟨w7.heap.size,1,none⟩=some (.slice oa on oc):=(zc hk8).trans rfl
  have HTL:=zh (htl w8.drew hb8.drew)
  have HCC:Hid (∀ w9,Below w8.drew.heap.size w8.drew w9->w9.cell? ⟨w7.heap.size,0,none⟩=some (.int .i64 (wy:Int))/\w9.cell? ⟨w7.heap.size,1,none⟩=some (.slice oa on oc)/\w9.cell? ⟨W.heap.size,0,none⟩=some (.int .i64 0)/\w9.cell? ⟨W.heap.size,1,none⟩=some (.slice none 0 0)/\w9.frozen? ⟨W.heap.size,0,none⟩=false/\w9.frozen? ⟨W.heap.size,1,none⟩=false/\w7.heap.size<w9.heap.size/\W.heap.size<w9.heap.size/\∀ wz,wz=(w9.setCell ⟨W.heap.size,0,none⟩ (.int .i64 (wy:Int))).setCell ⟨W.heap.size,1,none⟩ (.slice oa on oc)->CallP8 W c at' many l vv fuel (.returned (.tuple #[.agg #[.int .i64 (wy:Int),.slice oa on oc],.int .i64 td,.nilIface])) wz/\wz.cell? ⟨W.heap.size,0,none⟩=some (.int .i64 (wy:Int))/\wz.cell? ⟨W.heap.size,1,none⟩=some (.slice oa on oc)):=fun w9 hb9=>by
   have hk9:=(hb9.block _ (zk hk8)).trans hk8
   have h79:Below w7.heap.size w7 w9:=hb8.drew.trans (hb9.mono hb8.size)
   obtain⟨hx9,hz9⟩:=hfin w9 h79
   exact⟨(zc hk9).trans rfl,(zc hk9).trans rfl,(zc hx9).trans rfl,(zc hx9).trans rfl,zr hx9,zr hx9,zk hk9,zk hx9,hz9⟩
  have d0:w8.drew.cell? ⟨w7.heap.size,0,none⟩=some (.int .i64 (wy:Int)):=e0
  have d1:w8.drew.cell? ⟨w7.heap.size,1,none⟩=some (.slice oa on oc):=e1
  have hl8:w7.heap.size<w8.heap.size:=zk hk8
  clear hmv how htl hfin hb8 hk8 HG HFN HOK HGB HHE HSE
  go_upto_region 14 with fail
  rw[<-hw8]
  clear hw8
  go_region_with (go_at_call 41;refine HTL.out.mono ?_;rintro e w9 ⟨rfl,hb9⟩;obtain⟨x0,x1,r0,r1,z0,z1,l1,l2,hz9⟩:=HCC.out w9 hb9;have HZ9:=zh hz9;clear hz9 hb9)
  all_goals go_wp2_with fail
  all_goals obtain⟨hr,f0',f1'⟩:=HZ9.out _ rfl
  all_goals exact bodyPost_ret (v:=.tuple #[.agg #[.int .i64 (wy:Int),.slice oa on oc],.int .i64 td,.nilIface]) (by simp[results,Tryz.results13,go_sem,f0',f1']) rfl hr
def LoadB8 (W:World) (k:Nat) (e:Ending) (W':World):Prop:=e=.returned (.tuple #[.agg #[.int .i64 0,.slice none 0 0],.iface 30 (.int .i64 (k:Int))])/\Below W.heap.size W W'
theorem jE {W w1 wz:World}{k:Nat}(hb:Below (W.alloc (.cells #[.int .i64 0,.slice none 0 0] 46)).heap.size (W.alloc (.cells #[.int .i64 0,.slice none 0 0] 46)) w1) (hz:wz=(w1.setCell ⟨W.heap.size,0,none⟩ (.int .i64 0)).setCell ⟨W.heap.size,1,none⟩ (.slice none 0 0)):LoadB8 W k (.returned (.tuple #[.agg #[.int .i64 0,.slice none 0 0],.iface 30 (.int .i64 (k:Int))])) wz/\wz.cell? ⟨W.heap.size,0,none⟩=some (.int .i64 0)/\wz.cell? ⟨W.heap.size,1,none⟩=some (.slice none 0 0):=by
 have hb0:Below W.heap.size W (W.alloc (.cells #[.int .i64 0,.slice none 0 0] 46)):=zb _ _
 have hx:=zw W (.cells #[.int .i64 0,.slice none 0 0] 46)
 have h1:=(hb.block _ (zk hx)).trans hx
 have h2:=zC 1 (.slice none 0 0) (zC 0 (.int .i64 0) h1)
 rw[<-hz]at h2
 refine⟨⟨rfl,?_⟩,(zc h2).trans rfl,(zc h2).trans rfl⟩
 rw[hz]
 exact((hb0.trans (hb.mono hb0.size)).setCell zn _).setCell zn _
theorem load8_form {W:World}{mb ob oo:Nat}{o:O}(hoa:Jo.OA W ob oo o) (hB:Bd o) (hrt:Ob.rightB o=false) (fuel:Int) :
  Calls Tryz.prog 11 #[.pointer (some ⟨mb,0,none⟩),.pointer (some ⟨ob,oo,none⟩),.int .i64 fuel] W (LoadB8 W 3):=by
 obtain⟨w0,hw0⟩:∃ w0,w0=W.alloc (.cells #[.int .i64 0,.slice none 0 0] 46):=⟨_,rfl⟩
 have hb0:Below W.heap.size W w0:=by rw[hw0];exact zb _ _
 have hk0:w0.heap[W.heap.size]?=some (.cells #[.int .i64 0,.slice none 0 0] 46 (0,0)):=by rw[hw0];exact zw _ _
 have HR:=zh (k8 (hoa.below hb0) hB)
 rw[hrt]at HR
 have HK0:=zh hk0
 have HW0:=zh hw0
 clear hoa hB hrt hb0 hk0
 go_enter Tryz.func11,Tryz.ntmps11
 go_upto_region 1 with fail
 rw[<-hw0]
 clear hw0
 go_wp2_with fail
 refine HR.out.mono ?_
 rintro e w1 ⟨rfl,hb1⟩
 have hx1:=(hb1.block _ (zk HK0.out)).trans HK0.out
 have x0:w1.cell? ⟨W.heap.size,0,none⟩=some (.int .i64 0):=(zc hx1).trans rfl
 have x1:w1.cell? ⟨W.heap.size,1,none⟩=some (.slice none 0 0):=(zc hx1).trans rfl
 have z0:w1.frozen? ⟨W.heap.size,0,none⟩=false:=zr hx1
 have z1:w1.frozen? ⟨W.heap.size,1,none⟩=false:=zr hx1
 have hxl:W.heap.size<w1.heap.size:=zk hx1
 rw[HW0.out]at hb1
 obtain⟨hr,f0',f1'⟩:=jE (k:=3) hb1 rfl
 have HF:=zh hr
 clear hb1 hx1 hr
 go_wp2_with fail
 exact bodyPost_ret (v:=.tuple #[.agg #[.int .i64 0,.slice none 0 0],.iface 30 (.int .i64 3)]) (by simp[results,Tryz.results11,go_sem,f0',f1']) rfl HF.out
theorem load8_none {W:World}{mb ob oo:Nat}{o:O}(hoa:Jo.OA W ob oo o) (hm:W.heap[mb]?=some (.cells #[.map none] 44 (0,0))) (hB:Bd o) (hrt:Ob.rightB o=true) (hus:o.uses≠[]) (hun:∀ u∈o.uses,u.name.length<=1000000) (hnl:o.name.length<=1000000) (fuel:Int) :
  Calls Tryz.prog 11 #[.pointer (some ⟨mb,0,none⟩),.pointer (some ⟨ob,oo,none⟩),.int .i64 fuel] W (LoadB8 W 8):=by
 obtain⟨w0,hw0⟩:∃ w0,w0=W.alloc (.cells #[.int .i64 0,.slice none 0 0] 46):=⟨_,rfl⟩
 have hb0:Below W.heap.size W w0:=by rw[hw0];exact zb _ _
 have hk0:w0.heap[W.heap.size]?=some (.cells #[.int .i64 0,.slice none 0 0] 46 (0,0)):=by rw[hw0];exact zw _ _
 have HOA:Hid (∀ w,Below w0.heap.size w0 w->Jo.OA w ob oo o):=fun w hb=>hoa.below (hb0.trans (hb.mono hb0.size))
 have HMB:Hid (∀ w,Below w0.heap.size w0 w->w.heap[mb]?=some (.cells #[.map none] 44 (0,0))):=fun w hb=>(hb.block _ (Nat.lt_of_lt_of_le (zk hm) hb0.size)).trans ((hb0.block _ (zk hm)).trans hm)
 have HR:=zh (k8 (hoa.below hb0) hB)
 rw[hrt]at HR
 have HFITS:Hid (∀ w,Below w0.heap.size w0 w->Calls Tryz.prog 34 #[.pointer (some ⟨mb,0,none⟩),.pointer (some ⟨ob,oo,none⟩)] w fun e W'=>e=.returned (.iface 30 (.int .i64 8))/\Below w.heap.size w W'):=fun w hb=>by
  refine(fits8 ((zc (HMB.out w hb)).trans rfl) (HOA.out w hb) hun).mono ?_
  rintro e W' ⟨h1,h2⟩
  rw[if_neg hus]at h1
  exact⟨h1,h2⟩
 have hlk:∀(w:World) n,(Instr.lookup 42 (.map none) (.string (bs o.name)) false).run Tryz.prog (w.drewN n)=.ok (.pointer none) (w.drewN n):=fun w n=>kL (w.drewN n) (t:=42) (e:=81) Tryz.underlying42 (by kernel_rfl) o.name hnl false
 have HLK:=zh hlk
 have HK0:=zh hk0
 have HW0:=zh hw0
 clear hoa hB hrt hb0 hk0 hm hus hun hnl hlk
 go_enter Tryz.func11,Tryz.ntmps11
 go_upto_region 1 with fail
 rw[<-hw0]
 clear hw0
 go_wp2_with fail
 refine HR.out.mono ?_
 rintro e w1 ⟨rfl,hb1⟩
 have HB1:=zh hb1
 have m1:w1.cell? ⟨mb,0,none⟩=some (.map none):=(zc (HMB.out w1 hb1)).trans rfl
 obtain⟨n1,hol1⟩:w1.cell? ⟨ob,oo,none⟩=some (.string (bs o.name))/\ob<w1.heap.size:=by
  obtain⟨_,_,_,_,_,_,_,_,_,_,_,_,h⟩:=HOA.out w1 hb1
  exact⟨h.c0,zi h.c0⟩
 have hlk1:=HLK.out w1
 have hml1:mb<w1.heap.size:=zi m1
 clear hb1
 go_wp2_with fail
 go_quiet (fail)
 go_wp2_with fail
 have HB2:Hid (Below w0.heap.size w0 (w1.drewN nq)):=HB1.out.trans ((below_drewN w1 nq).mono HB1.out.size)
 refine(HFITS.out _ HB2.out).mono ?_
 rintro e w3 ⟨rfl,hb3⟩
 have hb3':=HB2.out.trans (hb3.mono HB2.out.size)
 have hx1:=(hb3'.block _ (zk HK0.out)).trans HK0.out
 have x0:w3.cell? ⟨W.heap.size,0,none⟩=some (.int .i64 0):=(zc hx1).trans rfl
 have x1:w3.cell? ⟨W.heap.size,1,none⟩=some (.slice none 0 0):=(zc hx1).trans rfl
 have z0:w3.frozen? ⟨W.heap.size,0,none⟩=false:=zr hx1
 have z1:w3.frozen? ⟨W.heap.size,1,none⟩=false:=zr hx1
 have hxl:W.heap.size<w3.heap.size:=zk hx1
 rw[HW0.out]at hb3'
 obtain⟨hr,f0',f1'⟩:=jE (k:=8) hb3' rfl
 have HF:=zh hr
 clear hb3 hb3' hx1 hr m1 n1 hol1 hlk1 hml1
 go_wp2_with fail
 exact bodyPost_ret (v:=.tuple #[.agg #[.int .i64 0,.slice none 0 0],.iface 30 (.int .i64 8)]) (by simp[results,Tryz.results11,go_sem,f0',f1']) rfl HF.out
theorem right_less {o:O}(h:Ob.rightB o=true):o.name.length<=10/\o.vars.length<=10/\(∀ g∈o.vars,g.len<=30)/\∀ u∈o.uses,u.name.length<=10:=by
 unfold Ob.rightB Ob.headB at h
 simp only [Bool.and_eq_true]at h
 obtain⟨⟨h1,_,h3,h4⟩,_⟩:=h
 refine⟨Ob.nameB_len h1,(Ob.allB_le h4).1,fun g hg=>?_,fun u hu=>?_⟩
 ·have:=(Ob.allB_le h4).2 g hg
  unfold Ob.varB Ob.lenB at this
  simp only [Bool.and_eq_true,decide_eq_true_eq]at this
  omega
 ·have:=(Ob.allB_le h3).2 u hu
  unfold Ob.otherB Ob.useB at this
  simp only [Bool.and_eq_true]at this
  exact Ob.nameB_len (by first|exact this.1.1|exact this.2.1)
def LoadN (W:World) (mb:Nat) (o:O) (fuel:Nat) (e:Ending) (W':World):Prop:=if Ob.rightB o=true then (if o.uses=[] then LoadP8 W mb o fuel e W' else LoadB8 W 8 e W') else LoadB8 W 3 e W'
theorem jF {wa W:World}{mb ob oo:Nat}{o:O}(hoa:Jo.OA wa ob oo o) (ha:Below wa.heap.size wa W) (hmb:wa.heap.size<=mb) (hm:W.heap[mb]?=some (.cells #[.map none] 44 (0,0)))
  (hgm:1<wa.heap.size) (hmrk:∀ i,i<11->wa.cell? ⟨1,i,none⟩=some (.string (bs (Vm.marks8.getD i []))))
  (hB:Bd o) (h64:∀ x∈o.code,I64 x.a) (fuel:Nat) (hfu:fuel<=1000000) :
  Calls Tryz.prog 11 #[.pointer (some ⟨mb,0,none⟩),.pointer (some ⟨ob,oo,none⟩),.int .i64 (fuel:Int)] W (LoadN W mb o fuel):=by
 unfold LoadN
 by_cases hrt:Ob.rightB o=true
 ·obtain⟨l1,l2,l3,l4⟩:=right_less hrt
  by_cases hus:o.uses=[]
  ·simp only [if_pos hrt,if_pos hus]
   exact load8 hoa ha hmb hm hgm hmrk hB hrt h64 hus (by omega) (by omega) (fun g hg=>by have:=l3 g hg;omega) fuel hfu
  ·simp only [if_pos hrt,if_neg hus]
   exact load8_none (hoa.below ha) hm hB hrt hus (fun u hu=>by have:=l4 u hu;omega) (by omega) _
 ·simp only [if_neg hrt]
  exact load8_form (hoa.below ha) hB (by simpa using hrt) _
end Go.Proofs.YtmnedfdffbbchaaGreatDoor.Jo
