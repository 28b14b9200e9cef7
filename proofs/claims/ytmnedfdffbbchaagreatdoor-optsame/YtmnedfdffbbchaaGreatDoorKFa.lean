import Derived.Test.YtmnedfdffbbchaaGreatDoorKJd
import Derived.Laws.EntriesVeiled
set_option maxRecDepth 100000
set_option maxHeartbeats 4000000

namespace Go.Proofs.YtmnedfdffbbchaaGreatDoor.Jo
open Go.RowKit
open Ob (Bs)
def longB (s:Bs):Bool:=decide (40<s.length)
def useL (u:Ob.Us):Bool:=longB u.name || (decide (110<u.names.length) || (decide (4100<u.need.length) || u.names.any longB))
def smallB (O:Ob.O):Bool:=!longB O.name && (decide (O.syms.length<=30) && (decide (O.uses.length<=10) && (decide (O.vars.length<=15) && (decide (O.procs.length<=15) && (decide (O.names.length<=15) && (decide (O.code.length<=80) && (!O.names.any longB && (!(O.syms.any fun x=>longB x.name) && (!(O.vars.any fun x=>longB x.name) && !O.uses.any useL)))))))))
theorem cf14 (args:Array Value) (w:World):(callFunc 14 args).run Tryz.prog w=.ok (.enter 14 args) w:=by kernel_rfl
theorem cf17 (args:Array Value) (w:World):(callFunc 17 args).run Tryz.prog w=.ok (.enter 17 args) w:=by kernel_rfl
theorem cf19 (args:Array Value) (w:World):(callFunc 19 args).run Tryz.prog w=.ok (.enter 19 args) w:=by kernel_rfl
theorem cf21 (args:Array Value) (w:World):(callFunc 21 args).run Tryz.prog w=.ok (.enter 21 args) w:=by kernel_rfl
theorem kC (w:World) (s:Bs):Calls Tryz.prog 14 #[.string (bs s)] w fun e w'=>e=.returned (.bool (longB s))/\w'=w:=by
 have hz:=kP s
 by_cases h:40<s.length
 ·have h':(40:Int)<(s.length:Int):=by omega
  have HV:Hid (longB s=true):=decide_eq_true h
  go_enter Tryz.func14,Tryz.ntmps14
  go_wp2_with fail
  go_ret
  exact⟨by rw[HV.out];rfl,rfl⟩
 ·have h':¬(40:Int)<(s.length:Int):=by omega
  have h'':decide ((40:Int)<(s.length:Int))=false:=decide_eq_false h'
  have HV:Hid (longB s=false):=decide_eq_false h
  go_enter Tryz.func14,Tryz.ntmps14
  go_wp2_with fail
  go_ret
  exact⟨by rw[HV.out];rfl,rfl⟩
theorem longSym {w:World}{fb:Nat}(hk:w.cell? ⟨fb,0,none⟩=some (.func (.func 14) #[] #[])) (x:Ob.Sm):Calls Tryz.prog 17 #[.agg #[.string (bs x.name),.int .i64 x.len,.int .i64 x.args],.pointer (some ⟨fb,0,none⟩)] w fun e w'=>e=.returned (.bool (longB x.name))/\Below w.heap.size w w':=by
 have hfl:=zi hk
 have HB0:Hid (Below w.heap.size w (w.alloc (.cells #[.string (bs x.name),.int .i64 x.len,.int .i64 x.args] 57))):=zb _ _
 have HC:=zh (fun W=>kC W x.name)
 generalize longB x.name=d at *
 go_enter Tryz.func17,Tryz.ntmps17
 go_wp2_with fail
 refine(HC.out _).mono ?_
 rintro e wq ⟨rfl,hwq⟩
 rw[hwq]
 clear hwq
 go_wp2_with fail
 go_ret
 exact⟨rfl,HB0.out⟩
theorem longGl {w:World}{fb:Nat}(hk:w.cell? ⟨fb,0,none⟩=some (.func (.func 14) #[] #[])) (x:Ob.Gl):Calls Tryz.prog 19 #[.agg #[.string (bs x.name),.int .i64 x.at',.int .i64 x.len,.bool x.seen],.pointer (some ⟨fb,0,none⟩)] w fun e w'=>e=.returned (.bool (longB x.name))/\Below w.heap.size w w':=by
 have hfl:=zi hk
 have HB0:Hid (Below w.heap.size w (w.alloc (.cells #[.string (bs x.name),.int .i64 x.at',.int .i64 x.len,.bool x.seen] 61))):=zb _ _
 have HC:=zh (fun W=>kC W x.name)
 generalize longB x.name=d at *
 go_enter Tryz.func19,Tryz.ntmps19
 go_wp2_with fail
 refine(HC.out _).mono ?_
 rintro e wq ⟨rfl,hwq⟩
 rw[hwq]
 clear hwq
 go_wp2_with fail
 go_ret
 exact⟨rfl,HB0.out⟩
theorem longUs {w:World}{fb:Nat}(hk:w.cell? ⟨fb,0,none⟩=some (.func (.func 14) #[] #[])) (x:Ob.Us) {na:Option Addr}{nc:Nat}(hS:Sl w (.slice na x.names.length nc) 1 x.names.length (cellsOf stC x.names)):Calls Tryz.prog 21 #[.agg #[.string (bs x.name),.string (bs x.need),.slice na x.names.length nc],.pointer (some ⟨fb,0,none⟩)] w fun e w'=>e=.returned (.bool (useL x))/\Below w.heap.size w w':=by
 have hfl:=zi hk
 have hz:=kP x.need
 have hb0:Below w.heap.size w (w.alloc (.cells #[.string (bs x.name),.string (bs x.need),.slice na x.names.length nc] 65)):=zb _ _
 have HB0:=zh hb0
 have HC:=zh (fun W=>kC W x.name)
 have HCN:Hid (x.names.length<=1000000->∀ W,Below w.heap.size w W->Calls Tryz.prog 15 #[.slice na x.names.length nc,.func (.func 14) #[] #[]] W fun e w'=>e=.returned (.bool (x.names.any longB))/\Below W.heap.size W w'):=fun hn W hW=>containsStr0 (hS.below hW) hn cf14 (fun W' y _ _=>(kC W' y).mono (fun e w' h=>⟨h.1,by rw[h.2];exact Below.refl _ _⟩))
 have HR:Hid (useL x=(longB x.name || (decide (110<x.names.length) || (decide (4100<x.need.length) || x.names.any longB)))):=rfl
 generalize useL x=r at *
 generalize longB x.name=b1 at *
 generalize x.names.any longB=b2 at *
 clear hS hb0
 cases b1 with
 | true =>
  have HV:Hid (r=true):=by
   show _=_
   rw[HR.out]
   simp[*]
  clear HR
  go_enter Tryz.func21,Tryz.ntmps21
  go_wp2_with fail
  refine(HC.out _).mono ?_
  rintro e wq ⟨rfl,hwq⟩
  rw[hwq]
  clear hwq
  go_wp2_with fail
  go_ret
  exact⟨by rw[HV.out];rfl,HB0.out⟩
 | false =>
  by_cases h1:110<x.names.length
  ·have h1':(110:Int)<(x.names.length:Int):=by omega
   have h1d:decide ((110:Int)<(x.names.length:Int))=true:=decide_eq_true h1'
   have HV:Hid (r=true):=by
    show _=_
    rw[HR.out]
    simp[*]
   clear HR
   go_enter Tryz.func21,Tryz.ntmps21
   go_wp2_with fail
   refine(HC.out _).mono ?_
   rintro e wq ⟨rfl,hwq⟩
   rw[hwq]
   clear hwq
   go_wp2_with fail
   go_ret
   exact⟨by rw[HV.out];rfl,HB0.out⟩
  ·have h1':(x.names.length:Int)<=110:=by omega
   have h1d:decide ((110:Int)<(x.names.length:Int))=false:=decide_eq_false (by omega)
   by_cases h2:4100<x.need.length
   ·have h2':(4100:Int)<(x.need.length:Int):=by omega
    have h2d:decide ((4100:Int)<(x.need.length:Int))=true:=decide_eq_true h2'
    have HV:Hid (r=true):=by
     show _=_
     rw[HR.out]
     simp[*]
    clear HR
    go_enter Tryz.func21,Tryz.ntmps21
    go_wp2_with fail
    refine(HC.out _).mono ?_
    rintro e wq ⟨rfl,hwq⟩
    rw[hwq]
    clear hwq
    go_wp2_with fail
    go_ret
    exact⟨by rw[HV.out];rfl,HB0.out⟩
   ·have h2':(x.need.length:Int)<=4100:=by omega
    have h2d:decide ((4100:Int)<(x.need.length:Int))=false:=decide_eq_false (by omega)
    cases b2 with
    | true =>
     have HV:Hid (r=true):=by
      show _=_
      rw[HR.out]
      simp[*]
     clear HR
     go_enter Tryz.func21,Tryz.ntmps21
     go_wp2_with fail
     refine(HC.out _).mono ?_
     rintro e wq ⟨rfl,hwq⟩
     rw[hwq]
     clear hwq
     go_wp2_with fail
     refine(HCN.out (by omega) _ HB0.out).mono ?_
     rintro e w2 ⟨rfl,hb2⟩
     have HB2:=zh (HB0.out.trans (hb2.mono HB0.out.size))
     clear hb2
     go_wp2_with fail
     go_ret
     exact⟨by rw[HV.out];rfl,HB2.out⟩
    | false =>
     have HV:Hid (r=false):=by
      show _=_
      rw[HR.out]
      simp[*]
     clear HR
     go_enter Tryz.func21,Tryz.ntmps21
     go_wp2_with fail
     refine(HC.out _).mono ?_
     rintro e wq ⟨rfl,hwq⟩
     rw[hwq]
     clear hwq
     go_wp2_with fail
     refine(HCN.out (by omega) _ HB0.out).mono ?_
     rintro e w2 ⟨rfl,hb2⟩
     have HB2:=zh (HB0.out.trans (hb2.mono HB0.out.size))
     clear hb2
     go_wp2_with fail
     go_ret
     exact⟨by rw[HV.out];rfl,HB2.out⟩
def yieldV (ops:Array Oper) (a:Act) (o:Oper):Option Value :=
 if Region.wanted o (yielded ops a.tmps)=false then some undef else
 match o.op with
 | .move x=>some (a.eval x)
 | .assign x=>some (a.eval x)
 | .pick c x y=>match a.eval c with
  | .bool true=>some (a.eval x)
  | .bool false=>some (a.eval y)
  | _=>none
 | _=>none
theorem yieldV_ok {P:Program}{ops:Array Oper}{S:World->Prop}{a:Act}{o:Oper}{v:Value}(h:yieldV ops a o=some v):YieldsIf P ops S o v a:=by
 unfold yieldV at h
 split at h
 ·rename_i hw
  cases h
  exact Or.inr ⟨hw,rfl⟩
 ·rename_i hw
  have hw':Region.wanted o (yielded ops a.tmps)=true:=by simpa using hw
  refine Or.inl ⟨hw',fun w _=>?_⟩
  split at h
  ·rename_i x ho;cases h;simp[execOp,ho]
  ·rename_i x ho;cases h;simp[execOp,ho]
  ·rename_i c x y ho
   split at h
   ·rename_i hc;cases h;simp[execOp,ho,hc,asBool]
   ·rename_i hc;cases h;simp[execOp,ho,hc,asBool]
   ·cases h
  ·cases h
def lst (m:Nat):Nat->Array Bool
 | 0=>Array.replicate m false
 | n+1=>(lst m n).setIfInBounds n true
def inOrder (ops:Array Oper):Bool:=Region.noSelect ops && ((List.range ops.size).all fun i=>Region.free .any ops (lst ops.size i) i && (Region.ready .any ops (lst ops.size i)).contains i) && (Region.ready .any ops (lst ops.size ops.size)).isEmpty
theorem xi {ops:Array Oper}(h:inOrder ops=true) {i:Nat}(hi:i<ops.size):Region.noSelect ops=true/\Region.free .any ops (lst ops.size i) i=true/\(Region.ready .any ops (lst ops.size i)).contains i=true:=by
 unfold inOrder at h
 rw[Bool.and_eq_true,Bool.and_eq_true,List.all_eq_true]at h
 have:=h.1.2 i (List.mem_range.2 hi)
 rw[Bool.and_eq_true]at this
 exact⟨h.1.1,this.1,this.2⟩
theorem takeI {P:Program}{ops:Array Oper}{Q:Exit->Act->World->Prop}{S:World->Prop}{d:Option Tmp}{v:Value}{fuel:Nat}{a:Act}{w:World}(n:Nat) (hin:inOrder ops=true) (hn:n<ops.size) (hd:(ops[n]?).map (fun o=>o.dst)=some d)
  (hQ:∀ c a w,Q (.panic c) (a.put d v) w->Q (.panic c) a w) (hy:∀ oi,ops[n]?=some oi->YieldsIf P ops S oi v a) (hS:S w)
  (h:wpAnyH P .any ops Q S fuel (lst ops.size (n+1)) (a.put d v) w):wpAnyH P .any ops Q S (fuel+1) (lst ops.size n) a w:=by
 obtain⟨h1,h2,h3⟩:=xi hin hn
 rcases ho:ops[n]? with _|oi
 ·rw[ho]at hd;cases hd
 ·rw[ho]at hd
  cases hd
  exact wpAnyH_take ho h1 h2 h3 hQ (hy oi ho) hS h
def restB (ops:Array Oper):Nat->Nat->Act->Option Act
 | 0,_,a=>some a
 | n+1,i,a=>match ops[i]? with
  | none=>none
  | some o=>match yieldV ops a o with
   | some v=>restB ops n (i+1) (a.put o.dst v)
   | none=>none
theorem rest_go {P:Program}{ops:Array Oper}{Q:Exit->Act->World->Prop}{S:World->Prop}(hin:inOrder ops=true) (hQ:∀ c a d v w,Q (.panic c) (a.put d v) w->Q (.panic c) a w) {w:World}(hS:S w) :
  ∀(n i:Nat) (a a':Act) (fuel:Nat),restB ops n i a=some a'->n+i=ops.size->n<=fuel->Q .normal a' w->wpAnyH P .any ops Q S fuel (lst ops.size i) a w:=by
 intro n
 induction n with
 | zero =>
  intro i a a' fuel h hi _ hq
  cases h
  rw[Nat.zero_add]at hi
  subst hi
  refine wpAnyH_done ?_ hq fuel
  have h2:=hin
  unfold inOrder at h2
  rw[Bool.and_eq_true]at h2
  simpa using h2.2
 | succ n ih =>
  intro i a a' fuel h hi hf hq
  obtain⟨f,rfl⟩:∃ f,fuel=f+1:=⟨fuel - 1,by omega⟩
  have hil:i<ops.size:=by omega
  obtain⟨h1,h2,h3⟩:=xi hin hil
  unfold restB at h
  split at h
  ·cases h
  ·rename_i o ho
   split at h
   ·rename_i v hv
    exact wpAnyH_take ho h1 h2 h3 (fun c a w h=>hQ c a _ _ w h) (yieldV_ok hv) hS (ih (i+1) _ _ f h (by omega) (by omega) hq)
   ·cases h
theorem yi {P:Program}{ops:Array Oper}{Q:Exit->Act->World->Prop}{S:World->Prop}{w:World}{t:Nat}{v:Value}{fuel:Nat}{a:Act}(n i:Nat) (hin:inOrder ops=true) (hQ:∀ c a d v w,Q (.panic c) (a.put d v) w->Q (.panic c) a w) (hS:S w)
  (hr:(restB ops n i a).map (fun a=>(a.tmps.getD t undef,a.defers.length))=some (v,0)) (hi:n+i=ops.size) (hf:n<=fuel) (h:∀ a',a'.tmps.getD t undef=v->a'.defers=[]->Q .normal a' w):wpAnyH P .any ops Q S fuel (lst ops.size i) a w:=by
 rcases hx:restB ops n i a with _|a'
 ·rw[hx]at hr;cases hr
 ·rw[hx]at hr
  simp at hr
  exact rest_go hin hQ hS n i a a' fuel hx hi hf (h a' (by simpa using hr.1) hr.2)
theorem region_abs {P:Program}{id:Nat}{ops:Array Oper}{b:Bool}{Q:Exit->Act->World->Prop}{a:Act}{w:World}(h:∀ ops',Hid (ops'=ops)->(Code.region id ops' b).wp P Q a w):(Code.region id ops b).wp P Q a w:=h ops rfl
theorem uq {P:Program}{id:Nat}{ops:Array Oper}{Q:Exit->Act->World->Prop}{S:World->Prop}{a:Act}{w:World}{m:Nat}(hm:P.follows .mixedOrders=true) (hz:ops.size=m) (hS:S w.drew)
  (h:S w.drew->wpAnyH P .any ops Q S m (lst ops.size 0) a w.drew):(Code.region id ops true).wp P Q a w:=by
 refine wp_region_held_drew hm hS (fun hS=>?_)
 have:=h hS
 rw[<-hz]at this
 exact this
theorem yU {P:Program}{ops:Array Oper}{Q:Exit->Act->World->Prop}{S:World->Prop}{fuel:Nat}{a:Act}{w:World}(n:Nat) (hr:Region.ready .any ops (lst ops.size n)=[n]) (o:Oper) (ho:ops[n]?=some o)
  (h:∀ K':Act->World->Prop,Shut (∀ a w,S w->(S w->wpAnyH P .any ops Q S fuel (lst ops.size (n+1)) a w)->K' a w)->if Region.wanted o (yielded ops a.tmps)=true then Oper.wp P o a w K' Q else K' (a.put o.dst undef) w):wpAnyH P .any ops Q S (fuel+1) (lst ops.size n) a w :=
 wpAnyH_ready (rs:=[n]) hr (by simp) (AllReadyH.cons ho h AllReadyH.nil)
theorem xV (w:World):Calls Tryz.prog 4 #[.pointer none] w fun e w'=>e=.returned (.bool true)/\Below w.heap.size w w':=by
 go_enter Tryz.func4,Tryz.ntmps4
 go_wp2_with fail
 go_ret
 exact⟨rfl,Below.refl _ _⟩
theorem small_ov {w:World}{b o:Nat}{O:Ob.O}{sa ua va pa na ca:Option Addr}{sc uc vc pc nc cc:Nat}(hV:OV w b o O sa ua va pa na ca sc uc vc pc nc cc) :
  Calls Tryz.prog 4 #[.pointer (some ⟨b,o,none⟩)] w fun e w'=>e=.returned (.bool (smallB O))/\Below w.heap.size w w':=by
 have hmf:=zm
 have hbl:=zi hV.c0
 obtain⟨w1,hw1⟩:∃ w1,w1=w.alloc (.cells #[.func (.func 14) #[] #[]] 53):=⟨_,rfl⟩
 have hb0:Below w.heap.size w w1:=by rw[hw1];exact zb _ _
 have hblk:w1.heap[w.heap.size]?=some (.cells #[.func (.func 14) #[] #[]] 53 (0,0)):=by rw[hw1];exact zw _ _
 have hsz:w.heap.size<w1.heap.size:=zk hblk
 have kb:w1.cell? ⟨w.heap.size,0,none⟩=some (.func (.func 14) #[] #[]):=zc hblk
 have hV1:=hV.below hb0
 have HB0:=zh hb0
 have HW1:=zh hw1
 clear hw1
 have HK:Hid (∀ W,Below w1.heap.size w1 W->W.cell? ⟨w.heap.size,0,none⟩=some (.func (.func 14) #[] #[])/\W.cell? ⟨b,o,none⟩=some (.string (bs O.name))/\W.cell? ⟨b,o+1,none⟩=some (.slice sa O.syms.length sc)/\W.cell? ⟨b,o+2,none⟩=some (.slice ua O.uses.length uc)/\W.cell? ⟨b,o+3,none⟩=some (.slice va O.vars.length vc)/\W.cell? ⟨b,o+4,none⟩=some (.slice pa O.procs.length pc)/\W.cell? ⟨b,o+5,none⟩=some (.slice na O.names.length nc)/\W.cell? ⟨b,o+6,none⟩=some (.slice ca O.code.length cc)) :=
  fun W hW=>⟨(hW.cell (p:=⟨w.heap.size,0,none⟩) hsz).trans kb,(hV1.below hW).c0,(hV1.below hW).c1,(hV1.below hW).c2,(hV1.below hW).c3,(hV1.below hW).c4,(hV1.below hW).c5,(hV1.below hW).c6⟩
 have hbx:∀ W W',Below w1.heap.size w1 W->Below W.heap.size W W'->W'.cell? ⟨w.heap.size,0,none⟩=some (.func (.func 14) #[] #[]):=fun W W' hW hW'=>(hW'.cell (p:=⟨w.heap.size,0,none⟩) (show w.heap.size<W.heap.size by have:=hW.size;omega)).trans ((hW.cell (p:=⟨w.heap.size,0,none⟩) hsz).trans kb)
 have HC1:Hid (∀ W,Below w1.heap.size w1 W->Calls Tryz.prog 14 #[.string (bs O.name)] W fun e w'=>e=.returned (.bool (longB O.name))/\w'=W):=fun W _=>kC W O.name
 have HC2:Hid (O.names.length<=1000000->∀ W,Below w1.heap.size w1 W->Calls Tryz.prog 15 #[.slice na O.names.length nc,.func (.func 14) #[] #[]] W fun e w'=>e=.returned (.bool (O.names.any longB))/\Below W.heap.size W w'):=fun hn W hW=>containsStr0 (hV1.below hW).n hn cf14 (fun W' y _ _=>(kC W' y).mono (fun e w' h=>⟨h.1,by rw[h.2];exact Below.refl _ _⟩))
 have HC3:Hid (O.syms.length<=1000000->∀ W,Below w1.heap.size w1 W->Calls Tryz.prog 16 #[.slice sa O.syms.length sc,.func (.func 17) #[] #[.pointer (some ⟨w.heap.size,0,none⟩)]] W fun e w'=>e=.returned (.bool (O.syms.any fun x=>longB x.name))/\Below W.heap.size W w'):=fun hn W hW=>containsSym (p:=fun x=>longB x.name) (hV1.below hW).s hn cf17 (fun W' y _ hW'=>longSym (hbx W W' hW hW') y)
 have HC4:Hid (O.vars.length<=1000000->∀ W,Below w1.heap.size w1 W->Calls Tryz.prog 18 #[.slice va O.vars.length vc,.func (.func 19) #[] #[.pointer (some ⟨w.heap.size,0,none⟩)]] W fun e w'=>e=.returned (.bool (O.vars.any fun x=>longB x.name))/\Below W.heap.size W w'):=fun hn W hW=>containsGl (p:=fun x=>longB x.name) (hV1.below hW).v hn cf19 (fun W' y _ hW'=>longGl (hbx W W' hW hW') y)
 have HC5:Hid (O.uses.length<=1000000->∀ W,Below w1.heap.size w1 W->Calls Tryz.prog 20 #[.slice ua O.uses.length uc,.func (.func 21) #[] #[.pointer (some ⟨w.heap.size,0,none⟩)]] W fun e w'=>e=.returned (.bool (O.uses.any useL))/\Below W.heap.size W w'):=fun hn W hW=>by
  obtain⟨ucs,hu1,hu2⟩:=(hV1.below hW).u
  exact containsUs hu1 hu2 hn cf21 (fun W' y na' nc' _ hW' hs=>longUs (hbx W W' hW hW') y (hs.below hW'))
 have HR:Hid (smallB O=(!longB O.name && (decide (O.syms.length<=30) && (decide (O.uses.length<=10) && (decide (O.vars.length<=15) && (decide (O.procs.length<=15) && (decide (O.names.length<=15) && (decide (O.code.length<=80) && (!O.names.any longB && (!(O.syms.any fun x=>longB x.name) && (!(O.vars.any fun x=>longB x.name) && !O.uses.any useL))))))))))):=rfl
 have hc0:=hV.c0
 have hc1:=hV.c1
 generalize smallB O=r at *
 generalize longB O.name=b1 at *
 generalize O.names.any longB=b2 at *
 generalize (O.syms.any fun x=>longB x.name)=b3 at *
 generalize (O.vars.any fun x=>longB x.name)=b4 at *
 generalize O.uses.any useL=b5 at *
 clear hV1 hblk hb0 kb hV hbx
 have HK0:=zh (HK.out _ (zt w1))
 have HQ0:Hid (Below w1.heap.size w1 w1.drew):=zt w1
 go_enter Tryz.func4,Tryz.ntmps4
 go_wp2_with fail
 rw[<-HW1.out]
 clear HW1
 refine region_abs (fun ops HOPS=>?_)
 have HIN:Hid (inOrder ops=true):=by show _=_;rw[HOPS.out];as_aux_lemma=>kernel_rfl
 have HSZ:Hid (ops.size=92):=by show _=_;rw[HOPS.out];rfl
 refine uq (m:=92) (S:=(fun W=>W.cell? ⟨w.heap.size,0,none⟩=some (.func (.func 14) #[] #[])/\W.cell? ⟨b,o,none⟩=some (.string (bs O.name))/\W.cell? ⟨b,o+1,none⟩=some (.slice sa O.syms.length sc)/\W.cell? ⟨b,o+2,none⟩=some (.slice ua O.uses.length uc)/\W.cell? ⟨b,o+3,none⟩=some (.slice va O.vars.length vc)/\W.cell? ⟨b,o+4,none⟩=some (.slice pa O.procs.length pc)/\W.cell? ⟨b,o+5,none⟩=some (.slice na O.names.length nc)/\W.cell? ⟨b,o+6,none⟩=some (.slice ca O.code.length cc))) (by kernel_rfl) HSZ.out HK0.out (fun hHeld=>?_)
 refine takeI 0 (d:=some 6) (v:=.func (.func 14) #[] #[]) HIN.out (by have:=HSZ.out;omega) (by rw[HOPS.out];kernel_rfl) (fun _ _ _ h=>h) (fun oi ho=>by rw[HOPS.out]at ho;cases ho;exact Or.inl ⟨by rw[HOPS.out];kernel_rfl,fun W hW=>by go_simp⟩) hHeld ?_
 go_frame
 refine takeI 1 (d:=some 7) (v:=.pointer (some ⟨b,o,none⟩)) HIN.out (by have:=HSZ.out;omega) (by rw[HOPS.out];kernel_rfl) (fun _ _ _ h=>h) (fun oi ho=>by rw[HOPS.out]at ho;cases ho;exact Or.inl ⟨by rw[HOPS.out];kernel_rfl,fun W hW=>by go_simp⟩) hHeld ?_
 go_frame
 refine takeI 2 (d:=some 8) (v:=.pointer (some ⟨b,o,none⟩)) HIN.out (by have:=HSZ.out;omega) (by rw[HOPS.out];kernel_rfl) (fun _ _ _ h=>h) (fun oi ho=>by rw[HOPS.out]at ho;cases ho;exact Or.inl ⟨by rw[HOPS.out];kernel_rfl,fun W hW=>by go_simp⟩) hHeld ?_
 go_frame
 refine takeI 3 (d:=some 9) (v:=.pointer (some ⟨b,o,none⟩)) HIN.out (by have:=HSZ.out;omega) (by rw[HOPS.out];kernel_rfl) (fun _ _ _ h=>h) (fun oi ho=>by rw[HOPS.out]at ho;cases ho;exact Or.inl ⟨by rw[HOPS.out];kernel_rfl,fun W hW=>by go_simp⟩) hHeld ?_
 go_frame
 refine takeI 4 (d:=some 10) (v:=.string (bs O.name)) HIN.out (by have:=HSZ.out;omega) (by rw[HOPS.out];kernel_rfl) (fun _ _ _ h=>h) (fun oi ho=>by rw[HOPS.out]at ho;cases ho;exact Or.inl ⟨by rw[HOPS.out];kernel_rfl,fun W hW=>by go_simp⟩) hHeld ?_
 go_frame
 refine yU 5 (by rw[HOPS.out];as_aux_lemma=>kernel_rfl) _ (by rw[HOPS.out];rfl) (fun K hK=>?_)
 rw[if_pos (by rw[HOPS.out];kernel_rfl)]
 go_simp
 refine(HC1.out _ HQ0.out).mono ?_
 rintro e wq ⟨rfl,hwq⟩
 rw[hwq]
 clear hwq
 go_frame
 refine hK.out _ _ HK0.out (fun hHeld=>?_)
 clear hK
 cases b1 with
 | true =>
  refine takeI 6 (d:=some 12) (v:=.bool false) HIN.out (by have:=HSZ.out;omega) (by rw[HOPS.out];kernel_rfl) (fun _ _ _ h=>h) (fun oi ho=>by rw[HOPS.out]at ho;cases ho;exact Or.inl ⟨by rw[HOPS.out];kernel_rfl,fun W hW=>by go_simp⟩) hHeld ?_
  go_frame
  refine takeI 7 (d:=some 13) (v:=.bool false) HIN.out (by have:=HSZ.out;omega) (by rw[HOPS.out];kernel_rfl) (fun _ _ _ h=>h) (fun oi ho=>by rw[HOPS.out]at ho;cases ho;exact Or.inl ⟨by rw[HOPS.out];kernel_rfl,fun W hW=>by go_simp⟩) hHeld ?_
  go_frame
  refine yi (t:=2) (v:=.bool false) 84 8 HIN.out (fun _ _ d _ _ h=>by cases d <;> exact h) hHeld (by rw[HOPS.out];as_aux_lemma=>kernel_rfl) (by have:=HSZ.out;omega) (by decide) ?_
  intro a' h1 h2
  clear hHeld
  have HV:Hid (r=false):=by
   show _=_
   rw[HR.out]
   simp[*]
  go_wp2_with fail
  exact bodyPost_ret ((results_tmp rfl _ _ _).trans (by rw[h1])) h2 ⟨by rw[HV.out],HB0.out.trans (HQ0.out.mono HB0.out.size)⟩
 | false =>
  refine takeI 6 (d:=some 12) (v:=.bool true) HIN.out (by have:=HSZ.out;omega) (by rw[HOPS.out];kernel_rfl) (fun _ _ _ h=>h) (fun oi ho=>by rw[HOPS.out]at ho;cases ho;exact Or.inl ⟨by rw[HOPS.out];kernel_rfl,fun W hW=>by go_simp⟩) hHeld ?_
  go_frame
  refine takeI 7 (d:=some 13) (v:=.bool true) HIN.out (by have:=HSZ.out;omega) (by rw[HOPS.out];kernel_rfl) (fun _ _ _ h=>h) (fun oi ho=>by rw[HOPS.out]at ho;cases ho;exact Or.inl ⟨by rw[HOPS.out];kernel_rfl,fun W hW=>by go_simp⟩) hHeld ?_
  go_frame
  refine takeI 8 (d:=some 14) (v:=.pointer (some ⟨b,o,none⟩)) HIN.out (by have:=HSZ.out;omega) (by rw[HOPS.out];kernel_rfl) (fun _ _ _ h=>h) (fun oi ho=>by rw[HOPS.out]at ho;cases ho;exact Or.inl ⟨by rw[HOPS.out];kernel_rfl,fun W hW=>by go_simp⟩) hHeld ?_
  go_frame
  refine takeI 9 (d:=some 15) (v:=.pointer (some ⟨b,o,none⟩)) HIN.out (by have:=HSZ.out;omega) (by rw[HOPS.out];kernel_rfl) (fun _ _ _ h=>h) (fun oi ho=>by rw[HOPS.out]at ho;cases ho;exact Or.inl ⟨by rw[HOPS.out];kernel_rfl,fun W hW=>by go_simp⟩) hHeld ?_
  go_frame
  refine takeI 10 (d:=some 16) (v:=.pointer (some ⟨b,o+1,none⟩)) HIN.out (by have:=HSZ.out;omega) (by rw[HOPS.out];kernel_rfl) (fun _ _ _ h=>h) (fun oi ho=>by rw[HOPS.out]at ho;cases ho;exact Or.inl ⟨by rw[HOPS.out];kernel_rfl,fun W hW=>by go_simp⟩) hHeld ?_
  go_frame
  refine takeI 11 (d:=some 17) (v:=.slice sa O.syms.length sc) HIN.out (by have:=HSZ.out;omega) (by rw[HOPS.out];kernel_rfl) (fun _ _ _ h=>h) (fun oi ho=>by rw[HOPS.out]at ho;cases ho;exact Or.inl ⟨by rw[HOPS.out];kernel_rfl,fun W hW=>by go_simp⟩) hHeld ?_
  go_frame
  refine takeI 12 (d:=some 18) (v:=.int .i64 (O.syms.length:Int)) HIN.out (by have:=HSZ.out;omega) (by rw[HOPS.out];kernel_rfl) (fun _ _ _ h=>h) (fun oi ho=>by rw[HOPS.out]at ho;cases ho;exact Or.inl ⟨by rw[HOPS.out];kernel_rfl,fun W hW=>by go_simp⟩) hHeld ?_
  go_frame
  by_cases h0:O.syms.length<=30
  ·have l0:(O.syms.length:Int)<=30:=by omega
   have l0d:decide ((O.syms.length:Int)<=30)=true:=decide_eq_true l0
   refine takeI 13 (d:=some 19) (v:=.bool true) HIN.out (by have:=HSZ.out;omega) (by rw[HOPS.out];kernel_rfl) (fun _ _ _ h=>h) (fun oi ho=>by rw[HOPS.out]at ho;cases ho;exact Or.inl ⟨by rw[HOPS.out];kernel_rfl,fun W hW=>by go_simp⟩) hHeld ?_
   go_frame
   refine takeI 14 (d:=some 20) (v:=.bool true) HIN.out (by have:=HSZ.out;omega) (by rw[HOPS.out];kernel_rfl) (fun _ _ _ h=>h) (fun oi ho=>by rw[HOPS.out]at ho;cases ho;exact Or.inl ⟨by rw[HOPS.out];kernel_rfl,fun W hW=>by go_simp⟩) hHeld ?_
   go_frame
   refine takeI 15 (d:=some 21) (v:=.bool true) HIN.out (by have:=HSZ.out;omega) (by rw[HOPS.out];kernel_rfl) (fun _ _ _ h=>h) (fun oi ho=>by rw[HOPS.out]at ho;cases ho;exact Or.inl ⟨by rw[HOPS.out];kernel_rfl,fun W hW=>by go_simp⟩) hHeld ?_
   go_frame
   refine takeI 16 (d:=some 22) (v:=.pointer (some ⟨b,o,none⟩)) HIN.out (by have:=HSZ.out;omega) (by rw[HOPS.out];kernel_rfl) (fun _ _ _ h=>h) (fun oi ho=>by rw[HOPS.out]at ho;cases ho;exact Or.inl ⟨by rw[HOPS.out];kernel_rfl,fun W hW=>by go_simp⟩) hHeld ?_
   go_frame
   refine takeI 17 (d:=some 23) (v:=.pointer (some ⟨b,o,none⟩)) HIN.out (by have:=HSZ.out;omega) (by rw[HOPS.out];kernel_rfl) (fun _ _ _ h=>h) (fun oi ho=>by rw[HOPS.out]at ho;cases ho;exact Or.inl ⟨by rw[HOPS.out];kernel_rfl,fun W hW=>by go_simp⟩) hHeld ?_
   go_frame
   refine takeI 18 (d:=some 24) (v:=.pointer (some ⟨b,o+2,none⟩)) HIN.out (by have:=HSZ.out;omega) (by rw[HOPS.out];kernel_rfl) (fun _ _ _ h=>h) (fun oi ho=>by rw[HOPS.out]at ho;cases ho;exact Or.inl ⟨by rw[HOPS.out];kernel_rfl,fun W hW=>by go_simp⟩) hHeld ?_
   go_frame
   refine takeI 19 (d:=some 25) (v:=.slice ua O.uses.length uc) HIN.out (by have:=HSZ.out;omega) (by rw[HOPS.out];kernel_rfl) (fun _ _ _ h=>h) (fun oi ho=>by rw[HOPS.out]at ho;cases ho;exact Or.inl ⟨by rw[HOPS.out];kernel_rfl,fun W hW=>by go_simp⟩) hHeld ?_
   go_frame
   refine takeI 20 (d:=some 26) (v:=.int .i64 (O.uses.length:Int)) HIN.out (by have:=HSZ.out;omega) (by rw[HOPS.out];kernel_rfl) (fun _ _ _ h=>h) (fun oi ho=>by rw[HOPS.out]at ho;cases ho;exact Or.inl ⟨by rw[HOPS.out];kernel_rfl,fun W hW=>by go_simp⟩) hHeld ?_
   go_frame
   by_cases h1:O.uses.length<=10
   ·have l1:(O.uses.length:Int)<=10:=by omega
    have l1d:decide ((O.uses.length:Int)<=10)=true:=decide_eq_true l1
    refine takeI 21 (d:=some 27) (v:=.bool true) HIN.out (by have:=HSZ.out;omega) (by rw[HOPS.out];kernel_rfl) (fun _ _ _ h=>h) (fun oi ho=>by rw[HOPS.out]at ho;cases ho;exact Or.inl ⟨by rw[HOPS.out];kernel_rfl,fun W hW=>by go_simp⟩) hHeld ?_
    go_frame
    refine takeI 22 (d:=some 28) (v:=.bool true) HIN.out (by have:=HSZ.out;omega) (by rw[HOPS.out];kernel_rfl) (fun _ _ _ h=>h) (fun oi ho=>by rw[HOPS.out]at ho;cases ho;exact Or.inl ⟨by rw[HOPS.out];kernel_rfl,fun W hW=>by go_simp⟩) hHeld ?_
    go_frame
    refine takeI 23 (d:=some 29) (v:=.bool true) HIN.out (by have:=HSZ.out;omega) (by rw[HOPS.out];kernel_rfl) (fun _ _ _ h=>h) (fun oi ho=>by rw[HOPS.out]at ho;cases ho;exact Or.inl ⟨by rw[HOPS.out];kernel_rfl,fun W hW=>by go_simp⟩) hHeld ?_
    go_frame
    refine takeI 24 (d:=some 30) (v:=.pointer (some ⟨b,o,none⟩)) HIN.out (by have:=HSZ.out;omega) (by rw[HOPS.out];kernel_rfl) (fun _ _ _ h=>h) (fun oi ho=>by rw[HOPS.out]at ho;cases ho;exact Or.inl ⟨by rw[HOPS.out];kernel_rfl,fun W hW=>by go_simp⟩) hHeld ?_
    go_frame
    refine takeI 25 (d:=some 31) (v:=.pointer (some ⟨b,o,none⟩)) HIN.out (by have:=HSZ.out;omega) (by rw[HOPS.out];kernel_rfl) (fun _ _ _ h=>h) (fun oi ho=>by rw[HOPS.out]at ho;cases ho;exact Or.inl ⟨by rw[HOPS.out];kernel_rfl,fun W hW=>by go_simp⟩) hHeld ?_
    go_frame
    refine takeI 26 (d:=some 32) (v:=.pointer (some ⟨b,o+3,none⟩)) HIN.out (by have:=HSZ.out;omega) (by rw[HOPS.out];kernel_rfl) (fun _ _ _ h=>h) (fun oi ho=>by rw[HOPS.out]at ho;cases ho;exact Or.inl ⟨by rw[HOPS.out];kernel_rfl,fun W hW=>by go_simp⟩) hHeld ?_
    go_frame
    refine takeI 27 (d:=some 33) (v:=.slice va O.vars.length vc) HIN.out (by have:=HSZ.out;omega) (by rw[HOPS.out];kernel_rfl) (fun _ _ _ h=>h) (fun oi ho=>by rw[HOPS.out]at ho;cases ho;exact Or.inl ⟨by rw[HOPS.out];kernel_rfl,fun W hW=>by go_simp⟩) hHeld ?_
    go_frame
    refine takeI 28 (d:=some 34) (v:=.int .i64 (O.vars.length:Int)) HIN.out (by have:=HSZ.out;omega) (by rw[HOPS.out];kernel_rfl) (fun _ _ _ h=>h) (fun oi ho=>by rw[HOPS.out]at ho;cases ho;exact Or.inl ⟨by rw[HOPS.out];kernel_rfl,fun W hW=>by go_simp⟩) hHeld ?_
    go_frame
    by_cases h2:O.vars.length<=15
    ·have l2:(O.vars.length:Int)<=15:=by omega
     have l2d:decide ((O.vars.length:Int)<=15)=true:=decide_eq_true l2
     refine takeI 29 (d:=some 35) (v:=.bool true) HIN.out (by have:=HSZ.out;omega) (by rw[HOPS.out];kernel_rfl) (fun _ _ _ h=>h) (fun oi ho=>by rw[HOPS.out]at ho;cases ho;exact Or.inl ⟨by rw[HOPS.out];kernel_rfl,fun W hW=>by go_simp⟩) hHeld ?_
     go_frame
     refine takeI 30 (d:=some 36) (v:=.bool true) HIN.out (by have:=HSZ.out;omega) (by rw[HOPS.out];kernel_rfl) (fun _ _ _ h=>h) (fun oi ho=>by rw[HOPS.out]at ho;cases ho;exact Or.inl ⟨by rw[HOPS.out];kernel_rfl,fun W hW=>by go_simp⟩) hHeld ?_
     go_frame
     refine takeI 31 (d:=some 37) (v:=.bool true) HIN.out (by have:=HSZ.out;omega) (by rw[HOPS.out];kernel_rfl) (fun _ _ _ h=>h) (fun oi ho=>by rw[HOPS.out]at ho;cases ho;exact Or.inl ⟨by rw[HOPS.out];kernel_rfl,fun W hW=>by go_simp⟩) hHeld ?_
     go_frame
     refine takeI 32 (d:=some 38) (v:=.pointer (some ⟨b,o,none⟩)) HIN.out (by have:=HSZ.out;omega) (by rw[HOPS.out];kernel_rfl) (fun _ _ _ h=>h) (fun oi ho=>by rw[HOPS.out]at ho;cases ho;exact Or.inl ⟨by rw[HOPS.out];kernel_rfl,fun W hW=>by go_simp⟩) hHeld ?_
     go_frame
     refine takeI 33 (d:=some 39) (v:=.pointer (some ⟨b,o,none⟩)) HIN.out (by have:=HSZ.out;omega) (by rw[HOPS.out];kernel_rfl) (fun _ _ _ h=>h) (fun oi ho=>by rw[HOPS.out]at ho;cases ho;exact Or.inl ⟨by rw[HOPS.out];kernel_rfl,fun W hW=>by go_simp⟩) hHeld ?_
     go_frame
     refine takeI 34 (d:=some 40) (v:=.pointer (some ⟨b,o+4,none⟩)) HIN.out (by have:=HSZ.out;omega) (by rw[HOPS.out];kernel_rfl) (fun _ _ _ h=>h) (fun oi ho=>by rw[HOPS.out]at ho;cases ho;exact Or.inl ⟨by rw[HOPS.out];kernel_rfl,fun W hW=>by go_simp⟩) hHeld ?_
     go_frame
     refine takeI 35 (d:=some 41) (v:=.slice pa O.procs.length pc) HIN.out (by have:=HSZ.out;omega) (by rw[HOPS.out];kernel_rfl) (fun _ _ _ h=>h) (fun oi ho=>by rw[HOPS.out]at ho;cases ho;exact Or.inl ⟨by rw[HOPS.out];kernel_rfl,fun W hW=>by go_simp⟩) hHeld ?_
     go_frame
     refine takeI 36 (d:=some 42) (v:=.int .i64 (O.procs.length:Int)) HIN.out (by have:=HSZ.out;omega) (by rw[HOPS.out];kernel_rfl) (fun _ _ _ h=>h) (fun oi ho=>by rw[HOPS.out]at ho;cases ho;exact Or.inl ⟨by rw[HOPS.out];kernel_rfl,fun W hW=>by go_simp⟩) hHeld ?_
     go_frame
     by_cases h3:O.procs.length<=15
     ·have l3:(O.procs.length:Int)<=15:=by omega
      have l3d:decide ((O.procs.length:Int)<=15)=true:=decide_eq_true l3
      refine takeI 37 (d:=some 43) (v:=.bool true) HIN.out (by have:=HSZ.out;omega) (by rw[HOPS.out];kernel_rfl) (fun _ _ _ h=>h) (fun oi ho=>by rw[HOPS.out]at ho;cases ho;exact Or.inl ⟨by rw[HOPS.out];kernel_rfl,fun W hW=>by go_simp⟩) hHeld ?_
      go_frame
      refine takeI 38 (d:=some 44) (v:=.bool true) HIN.out (by have:=HSZ.out;omega) (by rw[HOPS.out];kernel_rfl) (fun _ _ _ h=>h) (fun oi ho=>by rw[HOPS.out]at ho;cases ho;exact Or.inl ⟨by rw[HOPS.out];kernel_rfl,fun W hW=>by go_simp⟩) hHeld ?_
      go_frame
      refine takeI 39 (d:=some 45) (v:=.bool true) HIN.out (by have:=HSZ.out;omega) (by rw[HOPS.out];kernel_rfl) (fun _ _ _ h=>h) (fun oi ho=>by rw[HOPS.out]at ho;cases ho;exact Or.inl ⟨by rw[HOPS.out];kernel_rfl,fun W hW=>by go_simp⟩) hHeld ?_
      go_frame
      refine takeI 40 (d:=some 46) (v:=.pointer (some ⟨b,o,none⟩)) HIN.out (by have:=HSZ.out;omega) (by rw[HOPS.out];kernel_rfl) (fun _ _ _ h=>h) (fun oi ho=>by rw[HOPS.out]at ho;cases ho;exact Or.inl ⟨by rw[HOPS.out];kernel_rfl,fun W hW=>by go_simp⟩) hHeld ?_
      go_frame
      refine takeI 41 (d:=some 47) (v:=.pointer (some ⟨b,o,none⟩)) HIN.out (by have:=HSZ.out;omega) (by rw[HOPS.out];kernel_rfl) (fun _ _ _ h=>h) (fun oi ho=>by rw[HOPS.out]at ho;cases ho;exact Or.inl ⟨by rw[HOPS.out];kernel_rfl,fun W hW=>by go_simp⟩) hHeld ?_
      go_frame
      refine takeI 42 (d:=some 48) (v:=.pointer (some ⟨b,o+5,none⟩)) HIN.out (by have:=HSZ.out;omega) (by rw[HOPS.out];kernel_rfl) (fun _ _ _ h=>h) (fun oi ho=>by rw[HOPS.out]at ho;cases ho;exact Or.inl ⟨by rw[HOPS.out];kernel_rfl,fun W hW=>by go_simp⟩) hHeld ?_
      go_frame
      refine takeI 43 (d:=some 49) (v:=.slice na O.names.length nc) HIN.out (by have:=HSZ.out;omega) (by rw[HOPS.out];kernel_rfl) (fun _ _ _ h=>h) (fun oi ho=>by rw[HOPS.out]at ho;cases ho;exact Or.inl ⟨by rw[HOPS.out];kernel_rfl,fun W hW=>by go_simp⟩) hHeld ?_
      go_frame
      refine takeI 44 (d:=some 50) (v:=.int .i64 (O.names.length:Int)) HIN.out (by have:=HSZ.out;omega) (by rw[HOPS.out];kernel_rfl) (fun _ _ _ h=>h) (fun oi ho=>by rw[HOPS.out]at ho;cases ho;exact Or.inl ⟨by rw[HOPS.out];kernel_rfl,fun W hW=>by go_simp⟩) hHeld ?_
      go_frame
      by_cases h4:O.names.length<=15
      ·have l4:(O.names.length:Int)<=15:=by omega
       have l4d:decide ((O.names.length:Int)<=15)=true:=decide_eq_true l4
       refine takeI 45 (d:=some 51) (v:=.bool true) HIN.out (by have:=HSZ.out;omega) (by rw[HOPS.out];kernel_rfl) (fun _ _ _ h=>h) (fun oi ho=>by rw[HOPS.out]at ho;cases ho;exact Or.inl ⟨by rw[HOPS.out];kernel_rfl,fun W hW=>by go_simp⟩) hHeld ?_
       go_frame
       refine takeI 46 (d:=some 52) (v:=.bool true) HIN.out (by have:=HSZ.out;omega) (by rw[HOPS.out];kernel_rfl) (fun _ _ _ h=>h) (fun oi ho=>by rw[HOPS.out]at ho;cases ho;exact Or.inl ⟨by rw[HOPS.out];kernel_rfl,fun W hW=>by go_simp⟩) hHeld ?_
       go_frame
       refine takeI 47 (d:=some 53) (v:=.bool true) HIN.out (by have:=HSZ.out;omega) (by rw[HOPS.out];kernel_rfl) (fun _ _ _ h=>h) (fun oi ho=>by rw[HOPS.out]at ho;cases ho;exact Or.inl ⟨by rw[HOPS.out];kernel_rfl,fun W hW=>by go_simp⟩) hHeld ?_
       go_frame
       refine takeI 48 (d:=some 54) (v:=.pointer (some ⟨b,o,none⟩)) HIN.out (by have:=HSZ.out;omega) (by rw[HOPS.out];kernel_rfl) (fun _ _ _ h=>h) (fun oi ho=>by rw[HOPS.out]at ho;cases ho;exact Or.inl ⟨by rw[HOPS.out];kernel_rfl,fun W hW=>by go_simp⟩) hHeld ?_
       go_frame
       refine takeI 49 (d:=some 55) (v:=.pointer (some ⟨b,o,none⟩)) HIN.out (by have:=HSZ.out;omega) (by rw[HOPS.out];kernel_rfl) (fun _ _ _ h=>h) (fun oi ho=>by rw[HOPS.out]at ho;cases ho;exact Or.inl ⟨by rw[HOPS.out];kernel_rfl,fun W hW=>by go_simp⟩) hHeld ?_
       go_frame
       refine takeI 50 (d:=some 56) (v:=.pointer (some ⟨b,o+6,none⟩)) HIN.out (by have:=HSZ.out;omega) (by rw[HOPS.out];kernel_rfl) (fun _ _ _ h=>h) (fun oi ho=>by rw[HOPS.out]at ho;cases ho;exact Or.inl ⟨by rw[HOPS.out];kernel_rfl,fun W hW=>by go_simp⟩) hHeld ?_
       go_frame
       refine takeI 51 (d:=some 57) (v:=.slice ca O.code.length cc) HIN.out (by have:=HSZ.out;omega) (by rw[HOPS.out];kernel_rfl) (fun _ _ _ h=>h) (fun oi ho=>by rw[HOPS.out]at ho;cases ho;exact Or.inl ⟨by rw[HOPS.out];kernel_rfl,fun W hW=>by go_simp⟩) hHeld ?_
       go_frame
       refine takeI 52 (d:=some 58) (v:=.int .i64 (O.code.length:Int)) HIN.out (by have:=HSZ.out;omega) (by rw[HOPS.out];kernel_rfl) (fun _ _ _ h=>h) (fun oi ho=>by rw[HOPS.out]at ho;cases ho;exact Or.inl ⟨by rw[HOPS.out];kernel_rfl,fun W hW=>by go_simp⟩) hHeld ?_
       go_frame
       by_cases h5:O.code.length<=80
       ·have l5:(O.code.length:Int)<=80:=by omega
        have l5d:decide ((O.code.length:Int)<=80)=true:=decide_eq_true l5
        refine takeI 53 (d:=some 59) (v:=.bool true) HIN.out (by have:=HSZ.out;omega) (by rw[HOPS.out];kernel_rfl) (fun _ _ _ h=>h) (fun oi ho=>by rw[HOPS.out]at ho;cases ho;exact Or.inl ⟨by rw[HOPS.out];kernel_rfl,fun W hW=>by go_simp⟩) hHeld ?_
        go_frame
        refine takeI 54 (d:=some 60) (v:=.bool true) HIN.out (by have:=HSZ.out;omega) (by rw[HOPS.out];kernel_rfl) (fun _ _ _ h=>h) (fun oi ho=>by rw[HOPS.out]at ho;cases ho;exact Or.inl ⟨by rw[HOPS.out];kernel_rfl,fun W hW=>by go_simp⟩) hHeld ?_
        go_frame
        refine takeI 55 (d:=some 61) (v:=.bool true) HIN.out (by have:=HSZ.out;omega) (by rw[HOPS.out];kernel_rfl) (fun _ _ _ h=>h) (fun oi ho=>by rw[HOPS.out]at ho;cases ho;exact Or.inl ⟨by rw[HOPS.out];kernel_rfl,fun W hW=>by go_simp⟩) hHeld ?_
        go_frame
        refine takeI 56 (d:=some 62) (v:=.pointer (some ⟨b,o,none⟩)) HIN.out (by have:=HSZ.out;omega) (by rw[HOPS.out];kernel_rfl) (fun _ _ _ h=>h) (fun oi ho=>by rw[HOPS.out]at ho;cases ho;exact Or.inl ⟨by rw[HOPS.out];kernel_rfl,fun W hW=>by go_simp⟩) hHeld ?_
        go_frame
        refine takeI 57 (d:=some 63) (v:=.pointer (some ⟨b,o,none⟩)) HIN.out (by have:=HSZ.out;omega) (by rw[HOPS.out];kernel_rfl) (fun _ _ _ h=>h) (fun oi ho=>by rw[HOPS.out]at ho;cases ho;exact Or.inl ⟨by rw[HOPS.out];kernel_rfl,fun W hW=>by go_simp⟩) hHeld ?_
        go_frame
        refine takeI 58 (d:=some 64) (v:=.pointer (some ⟨b,o+5,none⟩)) HIN.out (by have:=HSZ.out;omega) (by rw[HOPS.out];kernel_rfl) (fun _ _ _ h=>h) (fun oi ho=>by rw[HOPS.out]at ho;cases ho;exact Or.inl ⟨by rw[HOPS.out];kernel_rfl,fun W hW=>by go_simp⟩) hHeld ?_
        go_frame
        refine takeI 59 (d:=some 65) (v:=.slice na O.names.length nc) HIN.out (by have:=HSZ.out;omega) (by rw[HOPS.out];kernel_rfl) (fun _ _ _ h=>h) (fun oi ho=>by rw[HOPS.out]at ho;cases ho;exact Or.inl ⟨by rw[HOPS.out];kernel_rfl,fun W hW=>by go_simp⟩) hHeld ?_
        go_frame
        refine takeI 60 (d:=some 66) (v:=.func (.func 14) #[] #[]) HIN.out (by have:=HSZ.out;omega) (by rw[HOPS.out];kernel_rfl) (fun _ _ _ h=>h) (fun oi ho=>by rw[HOPS.out]at ho;cases ho;exact Or.inl ⟨by rw[HOPS.out];kernel_rfl,fun W hW=>by go_simp⟩) hHeld ?_
        go_frame
        refine yU 61 (by rw[HOPS.out];as_aux_lemma=>kernel_rfl) _ (by rw[HOPS.out];rfl) (fun K hK=>?_)
        rw[if_pos (by rw[HOPS.out];kernel_rfl)]
        go_simp
        refine(HC2.out (by omega) _ HQ0.out).mono ?_
        rintro e wq1 ⟨rfl,hq1⟩
        have HQ1:Hid (Below w1.heap.size w1 wq1):=HQ0.out.trans (hq1.mono HQ0.out.size)
        have HK1:=zh (HK.out _ HQ1.out)
        clear hq1 hHeld
        go_frame
        refine hK.out _ _ HK1.out (fun hHeld=>?_)
        clear hK
        cases b2 with
        | true =>
         refine takeI 62 (d:=some 68) (v:=.bool false) HIN.out (by have:=HSZ.out;omega) (by rw[HOPS.out];kernel_rfl) (fun _ _ _ h=>h) (fun oi ho=>by rw[HOPS.out]at ho;cases ho;exact Or.inl ⟨by rw[HOPS.out];kernel_rfl,fun W hW=>by go_simp⟩) hHeld ?_
         go_frame
         refine yi (t:=2) (v:=.bool false) 29 63 HIN.out (fun _ _ d _ _ h=>by cases d <;> exact h) hHeld (by rw[HOPS.out];as_aux_lemma=>kernel_rfl) (by have:=HSZ.out;omega) (by decide) ?_
         intro a' h1 h2
         clear hHeld
         have HV:Hid (r=false):=by
          show _=_
          rw[HR.out]
          simp[*]
         go_wp2_with fail
         exact bodyPost_ret ((results_tmp rfl _ _ _).trans (by rw[h1])) h2 ⟨by rw[HV.out],HB0.out.trans (HQ1.out.mono HB0.out.size)⟩
        | false =>
         refine takeI 62 (d:=some 68) (v:=.bool true) HIN.out (by have:=HSZ.out;omega) (by rw[HOPS.out];kernel_rfl) (fun _ _ _ h=>h) (fun oi ho=>by rw[HOPS.out]at ho;cases ho;exact Or.inl ⟨by rw[HOPS.out];kernel_rfl,fun W hW=>by go_simp⟩) hHeld ?_
         go_frame
         refine takeI 63 (d:=some 69) (v:=.bool true) HIN.out (by have:=HSZ.out;omega) (by rw[HOPS.out];kernel_rfl) (fun _ _ _ h=>h) (fun oi ho=>by rw[HOPS.out]at ho;cases ho;exact Or.inl ⟨by rw[HOPS.out];kernel_rfl,fun W hW=>by go_simp⟩) hHeld ?_
         go_frame
         refine takeI 64 (d:=some 70) (v:=.bool true) HIN.out (by have:=HSZ.out;omega) (by rw[HOPS.out];kernel_rfl) (fun _ _ _ h=>h) (fun oi ho=>by rw[HOPS.out]at ho;cases ho;exact Or.inl ⟨by rw[HOPS.out];kernel_rfl,fun W hW=>by go_simp⟩) hHeld ?_
         go_frame
         refine takeI 65 (d:=some 71) (v:=.pointer (some ⟨b,o,none⟩)) HIN.out (by have:=HSZ.out;omega) (by rw[HOPS.out];kernel_rfl) (fun _ _ _ h=>h) (fun oi ho=>by rw[HOPS.out]at ho;cases ho;exact Or.inl ⟨by rw[HOPS.out];kernel_rfl,fun W hW=>by go_simp⟩) hHeld ?_
         go_frame
         refine takeI 66 (d:=some 72) (v:=.pointer (some ⟨b,o,none⟩)) HIN.out (by have:=HSZ.out;omega) (by rw[HOPS.out];kernel_rfl) (fun _ _ _ h=>h) (fun oi ho=>by rw[HOPS.out]at ho;cases ho;exact Or.inl ⟨by rw[HOPS.out];kernel_rfl,fun W hW=>by go_simp⟩) hHeld ?_
         go_frame
         refine takeI 67 (d:=some 73) (v:=.pointer (some ⟨b,o+1,none⟩)) HIN.out (by have:=HSZ.out;omega) (by rw[HOPS.out];kernel_rfl) (fun _ _ _ h=>h) (fun oi ho=>by rw[HOPS.out]at ho;cases ho;exact Or.inl ⟨by rw[HOPS.out];kernel_rfl,fun W hW=>by go_simp⟩) hHeld ?_
         go_frame
         refine takeI 68 (d:=some 74) (v:=.slice sa O.syms.length sc) HIN.out (by have:=HSZ.out;omega) (by rw[HOPS.out];kernel_rfl) (fun _ _ _ h=>h) (fun oi ho=>by rw[HOPS.out]at ho;cases ho;exact Or.inl ⟨by rw[HOPS.out];kernel_rfl,fun W hW=>by go_simp⟩) hHeld ?_
         go_frame
         refine takeI 69 (d:=some 75) (v:=.func (.func 17) #[] #[.pointer (some ⟨w.heap.size,0,none⟩)]) HIN.out (by have:=HSZ.out;omega) (by rw[HOPS.out];kernel_rfl) (fun _ _ _ h=>h) (fun oi ho=>by rw[HOPS.out]at ho;cases ho;exact Or.inl ⟨by rw[HOPS.out];kernel_rfl,fun W hW=>by go_simp⟩) hHeld ?_
         go_frame
         refine yU 70 (by rw[HOPS.out];as_aux_lemma=>kernel_rfl) _ (by rw[HOPS.out];rfl) (fun K hK=>?_)
         rw[if_pos (by rw[HOPS.out];kernel_rfl)]
         go_simp
         refine(HC3.out (by omega) _ HQ1.out).mono ?_
         rintro e wq2 ⟨rfl,hq2⟩
         have HQ2:Hid (Below w1.heap.size w1 wq2):=HQ1.out.trans (hq2.mono HQ1.out.size)
         have HK2:=zh (HK.out _ HQ2.out)
         clear hq2 hHeld
         go_frame
         refine hK.out _ _ HK2.out (fun hHeld=>?_)
         clear hK
         cases b3 with
         | true =>
          refine takeI 71 (d:=some 77) (v:=.bool false) HIN.out (by have:=HSZ.out;omega) (by rw[HOPS.out];kernel_rfl) (fun _ _ _ h=>h) (fun oi ho=>by rw[HOPS.out]at ho;cases ho;exact Or.inl ⟨by rw[HOPS.out];kernel_rfl,fun W hW=>by go_simp⟩) hHeld ?_
          go_frame
          refine yi (t:=2) (v:=.bool false) 20 72 HIN.out (fun _ _ d _ _ h=>by cases d <;> exact h) hHeld (by rw[HOPS.out];as_aux_lemma=>kernel_rfl) (by have:=HSZ.out;omega) (by decide) ?_
          intro a' h1 h2
          clear hHeld
          have HV:Hid (r=false):=by
           show _=_
           rw[HR.out]
           simp[*]
          go_wp2_with fail
          exact bodyPost_ret ((results_tmp rfl _ _ _).trans (by rw[h1])) h2 ⟨by rw[HV.out],HB0.out.trans (HQ2.out.mono HB0.out.size)⟩
         | false =>
          refine takeI 71 (d:=some 77) (v:=.bool true) HIN.out (by have:=HSZ.out;omega) (by rw[HOPS.out];kernel_rfl) (fun _ _ _ h=>h) (fun oi ho=>by rw[HOPS.out]at ho;cases ho;exact Or.inl ⟨by rw[HOPS.out];kernel_rfl,fun W hW=>by go_simp⟩) hHeld ?_
          go_frame
          refine takeI 72 (d:=some 78) (v:=.bool true) HIN.out (by have:=HSZ.out;omega) (by rw[HOPS.out];kernel_rfl) (fun _ _ _ h=>h) (fun oi ho=>by rw[HOPS.out]at ho;cases ho;exact Or.inl ⟨by rw[HOPS.out];kernel_rfl,fun W hW=>by go_simp⟩) hHeld ?_
          go_frame
          refine takeI 73 (d:=some 79) (v:=.bool true) HIN.out (by have:=HSZ.out;omega) (by rw[HOPS.out];kernel_rfl) (fun _ _ _ h=>h) (fun oi ho=>by rw[HOPS.out]at ho;cases ho;exact Or.inl ⟨by rw[HOPS.out];kernel_rfl,fun W hW=>by go_simp⟩) hHeld ?_
          go_frame
          refine takeI 74 (d:=some 80) (v:=.pointer (some ⟨b,o,none⟩)) HIN.out (by have:=HSZ.out;omega) (by rw[HOPS.out];kernel_rfl) (fun _ _ _ h=>h) (fun oi ho=>by rw[HOPS.out]at ho;cases ho;exact Or.inl ⟨by rw[HOPS.out];kernel_rfl,fun W hW=>by go_simp⟩) hHeld ?_
          go_frame
          refine takeI 75 (d:=some 81) (v:=.pointer (some ⟨b,o,none⟩)) HIN.out (by have:=HSZ.out;omega) (by rw[HOPS.out];kernel_rfl) (fun _ _ _ h=>h) (fun oi ho=>by rw[HOPS.out]at ho;cases ho;exact Or.inl ⟨by rw[HOPS.out];kernel_rfl,fun W hW=>by go_simp⟩) hHeld ?_
          go_frame
          refine takeI 76 (d:=some 82) (v:=.pointer (some ⟨b,o+3,none⟩)) HIN.out (by have:=HSZ.out;omega) (by rw[HOPS.out];kernel_rfl) (fun _ _ _ h=>h) (fun oi ho=>by rw[HOPS.out]at ho;cases ho;exact Or.inl ⟨by rw[HOPS.out];kernel_rfl,fun W hW=>by go_simp⟩) hHeld ?_
          go_frame
          refine takeI 77 (d:=some 83) (v:=.slice va O.vars.length vc) HIN.out (by have:=HSZ.out;omega) (by rw[HOPS.out];kernel_rfl) (fun _ _ _ h=>h) (fun oi ho=>by rw[HOPS.out]at ho;cases ho;exact Or.inl ⟨by rw[HOPS.out];kernel_rfl,fun W hW=>by go_simp⟩) hHeld ?_
          go_frame
          refine takeI 78 (d:=some 84) (v:=.func (.func 19) #[] #[.pointer (some ⟨w.heap.size,0,none⟩)]) HIN.out (by have:=HSZ.out;omega) (by rw[HOPS.out];kernel_rfl) (fun _ _ _ h=>h) (fun oi ho=>by rw[HOPS.out]at ho;cases ho;exact Or.inl ⟨by rw[HOPS.out];kernel_rfl,fun W hW=>by go_simp⟩) hHeld ?_
          go_frame
          refine yU 79 (by rw[HOPS.out];as_aux_lemma=>kernel_rfl) _ (by rw[HOPS.out];rfl) (fun K hK=>?_)
          rw[if_pos (by rw[HOPS.out];kernel_rfl)]
          go_simp
          refine(HC4.out (by omega) _ HQ2.out).mono ?_
          rintro e wq3 ⟨rfl,hq3⟩
          have HQ3:Hid (Below w1.heap.size w1 wq3):=HQ2.out.trans (hq3.mono HQ2.out.size)
          have HK3:=zh (HK.out _ HQ3.out)
          clear hq3 hHeld
          go_frame
          refine hK.out _ _ HK3.out (fun hHeld=>?_)
          clear hK
          cases b4 with
          | true =>
           refine takeI 80 (d:=some 86) (v:=.bool false) HIN.out (by have:=HSZ.out;omega) (by rw[HOPS.out];kernel_rfl) (fun _ _ _ h=>h) (fun oi ho=>by rw[HOPS.out]at ho;cases ho;exact Or.inl ⟨by rw[HOPS.out];kernel_rfl,fun W hW=>by go_simp⟩) hHeld ?_
           go_frame
           refine yi (t:=2) (v:=.bool false) 11 81 HIN.out (fun _ _ d _ _ h=>by cases d <;> exact h) hHeld (by rw[HOPS.out];as_aux_lemma=>kernel_rfl) (by have:=HSZ.out;omega) (by decide) ?_
           intro a' h1 h2
           clear hHeld
           have HV:Hid (r=false):=by
            show _=_
            rw[HR.out]
            simp[*]
           go_wp2_with fail
           exact bodyPost_ret ((results_tmp rfl _ _ _).trans (by rw[h1])) h2 ⟨by rw[HV.out],HB0.out.trans (HQ3.out.mono HB0.out.size)⟩
          | false =>
           refine takeI 80 (d:=some 86) (v:=.bool true) HIN.out (by have:=HSZ.out;omega) (by rw[HOPS.out];kernel_rfl) (fun _ _ _ h=>h) (fun oi ho=>by rw[HOPS.out]at ho;cases ho;exact Or.inl ⟨by rw[HOPS.out];kernel_rfl,fun W hW=>by go_simp⟩) hHeld ?_
           go_frame
           refine takeI 81 (d:=some 87) (v:=.bool true) HIN.out (by have:=HSZ.out;omega) (by rw[HOPS.out];kernel_rfl) (fun _ _ _ h=>h) (fun oi ho=>by rw[HOPS.out]at ho;cases ho;exact Or.inl ⟨by rw[HOPS.out];kernel_rfl,fun W hW=>by go_simp⟩) hHeld ?_
           go_frame
           refine takeI 82 (d:=some 88) (v:=.bool true) HIN.out (by have:=HSZ.out;omega) (by rw[HOPS.out];kernel_rfl) (fun _ _ _ h=>h) (fun oi ho=>by rw[HOPS.out]at ho;cases ho;exact Or.inl ⟨by rw[HOPS.out];kernel_rfl,fun W hW=>by go_simp⟩) hHeld ?_
           go_frame
           refine takeI 83 (d:=some 89) (v:=.pointer (some ⟨b,o,none⟩)) HIN.out (by have:=HSZ.out;omega) (by rw[HOPS.out];kernel_rfl) (fun _ _ _ h=>h) (fun oi ho=>by rw[HOPS.out]at ho;cases ho;exact Or.inl ⟨by rw[HOPS.out];kernel_rfl,fun W hW=>by go_simp⟩) hHeld ?_
           go_frame
           refine takeI 84 (d:=some 90) (v:=.pointer (some ⟨b,o,none⟩)) HIN.out (by have:=HSZ.out;omega) (by rw[HOPS.out];kernel_rfl) (fun _ _ _ h=>h) (fun oi ho=>by rw[HOPS.out]at ho;cases ho;exact Or.inl ⟨by rw[HOPS.out];kernel_rfl,fun W hW=>by go_simp⟩) hHeld ?_
           go_frame
           refine takeI 85 (d:=some 91) (v:=.pointer (some ⟨b,o+2,none⟩)) HIN.out (by have:=HSZ.out;omega) (by rw[HOPS.out];kernel_rfl) (fun _ _ _ h=>h) (fun oi ho=>by rw[HOPS.out]at ho;cases ho;exact Or.inl ⟨by rw[HOPS.out];kernel_rfl,fun W hW=>by go_simp⟩) hHeld ?_
           go_frame
           refine takeI 86 (d:=some 92) (v:=.slice ua O.uses.length uc) HIN.out (by have:=HSZ.out;omega) (by rw[HOPS.out];kernel_rfl) (fun _ _ _ h=>h) (fun oi ho=>by rw[HOPS.out]at ho;cases ho;exact Or.inl ⟨by rw[HOPS.out];kernel_rfl,fun W hW=>by go_simp⟩) hHeld ?_
           go_frame
           refine takeI 87 (d:=some 93) (v:=.func (.func 21) #[] #[.pointer (some ⟨w.heap.size,0,none⟩)]) HIN.out (by have:=HSZ.out;omega) (by rw[HOPS.out];kernel_rfl) (fun _ _ _ h=>h) (fun oi ho=>by rw[HOPS.out]at ho;cases ho;exact Or.inl ⟨by rw[HOPS.out];kernel_rfl,fun W hW=>by go_simp⟩) hHeld ?_
           go_frame
           refine yU 88 (by rw[HOPS.out];as_aux_lemma=>kernel_rfl) _ (by rw[HOPS.out];rfl) (fun K hK=>?_)
           rw[if_pos (by rw[HOPS.out];kernel_rfl)]
           go_simp
           refine(HC5.out (by omega) _ HQ3.out).mono ?_
           rintro e wq4 ⟨rfl,hq4⟩
           have HQ4:Hid (Below w1.heap.size w1 wq4):=HQ3.out.trans (hq4.mono HQ3.out.size)
           have HK4:=zh (HK.out _ HQ4.out)
           clear hq4 hHeld
           go_frame
           refine hK.out _ _ HK4.out (fun hHeld=>?_)
           clear hK
           cases b5 with
           | true =>
            refine takeI 89 (d:=some 95) (v:=.bool false) HIN.out (by have:=HSZ.out;omega) (by rw[HOPS.out];kernel_rfl) (fun _ _ _ h=>h) (fun oi ho=>by rw[HOPS.out]at ho;cases ho;exact Or.inl ⟨by rw[HOPS.out];kernel_rfl,fun W hW=>by go_simp⟩) hHeld ?_
            go_frame
            refine yi (t:=2) (v:=.bool false) 2 90 HIN.out (fun _ _ d _ _ h=>by cases d <;> exact h) hHeld (by rw[HOPS.out];as_aux_lemma=>kernel_rfl) (by have:=HSZ.out;omega) (by decide) ?_
            intro a' h1 h2
            clear hHeld
            have HV:Hid (r=false):=by
             show _=_
             rw[HR.out]
             simp[*]
            go_wp2_with fail
            exact bodyPost_ret ((results_tmp rfl _ _ _).trans (by rw[h1])) h2 ⟨by rw[HV.out],HB0.out.trans (HQ4.out.mono HB0.out.size)⟩
           | false =>
            refine takeI 89 (d:=some 95) (v:=.bool true) HIN.out (by have:=HSZ.out;omega) (by rw[HOPS.out];kernel_rfl) (fun _ _ _ h=>h) (fun oi ho=>by rw[HOPS.out]at ho;cases ho;exact Or.inl ⟨by rw[HOPS.out];kernel_rfl,fun W hW=>by go_simp⟩) hHeld ?_
            go_frame
            refine yi (t:=2) (v:=.bool true) 2 90 HIN.out (fun _ _ d _ _ h=>by cases d <;> exact h) hHeld (by rw[HOPS.out];as_aux_lemma=>kernel_rfl) (by have:=HSZ.out;omega) (by decide) ?_
            intro a' h1 h2
            clear hHeld
            have HV:Hid (r=true):=by
             show _=_
             rw[HR.out]
             simp[*]
            go_wp2_with fail
            exact bodyPost_ret ((results_tmp rfl _ _ _).trans (by rw[h1])) h2 ⟨by rw[HV.out],HB0.out.trans (HQ4.out.mono HB0.out.size)⟩
       ·have l5:(80:Int)<(O.code.length:Int):=by omega
        have l5d:decide ((O.code.length:Int)<=80)=false:=decide_eq_false (by omega)
        refine takeI 53 (d:=some 59) (v:=.bool false) HIN.out (by have:=HSZ.out;omega) (by rw[HOPS.out];kernel_rfl) (fun _ _ _ h=>h) (fun oi ho=>by rw[HOPS.out]at ho;cases ho;exact Or.inl ⟨by rw[HOPS.out];kernel_rfl,fun W hW=>by go_simp⟩) hHeld ?_
        go_frame
        refine yi (t:=2) (v:=.bool false) 38 54 HIN.out (fun _ _ d _ _ h=>by cases d <;> exact h) hHeld (by rw[HOPS.out];as_aux_lemma=>kernel_rfl) (by have:=HSZ.out;omega) (by decide) ?_
        intro a' h1 h2
        clear hHeld
        have HV:Hid (r=false):=by
         show _=_
         rw[HR.out]
         simp[*]
        go_wp2_with fail
        exact bodyPost_ret ((results_tmp rfl _ _ _).trans (by rw[h1])) h2 ⟨by rw[HV.out],HB0.out.trans (HQ0.out.mono HB0.out.size)⟩
      ·have l4:(15:Int)<(O.names.length:Int):=by omega
       have l4d:decide ((O.names.length:Int)<=15)=false:=decide_eq_false (by omega)
       refine takeI 45 (d:=some 51) (v:=.bool false) HIN.out (by have:=HSZ.out;omega) (by rw[HOPS.out];kernel_rfl) (fun _ _ _ h=>h) (fun oi ho=>by rw[HOPS.out]at ho;cases ho;exact Or.inl ⟨by rw[HOPS.out];kernel_rfl,fun W hW=>by go_simp⟩) hHeld ?_
       go_frame
       refine yi (t:=2) (v:=.bool false) 46 46 HIN.out (fun _ _ d _ _ h=>by cases d <;> exact h) hHeld (by rw[HOPS.out];as_aux_lemma=>kernel_rfl) (by have:=HSZ.out;omega) (by decide) ?_
       intro a' h1 h2
       clear hHeld
       have HV:Hid (r=false):=by
        show _=_
        rw[HR.out]
        simp[*]
       go_wp2_with fail
       exact bodyPost_ret ((results_tmp rfl _ _ _).trans (by rw[h1])) h2 ⟨by rw[HV.out],HB0.out.trans (HQ0.out.mono HB0.out.size)⟩
     ·have l3:(15:Int)<(O.procs.length:Int):=by omega
      have l3d:decide ((O.procs.length:Int)<=15)=false:=decide_eq_false (by omega)
      refine takeI 37 (d:=some 43) (v:=.bool false) HIN.out (by have:=HSZ.out;omega) (by rw[HOPS.out];kernel_rfl) (fun _ _ _ h=>h) (fun oi ho=>by rw[HOPS.out]at ho;cases ho;exact Or.inl ⟨by rw[HOPS.out];kernel_rfl,fun W hW=>by go_simp⟩) hHeld ?_
      go_frame
      refine yi (t:=2) (v:=.bool false) 54 38 HIN.out (fun _ _ d _ _ h=>by cases d <;> exact h) hHeld (by rw[HOPS.out];as_aux_lemma=>kernel_rfl) (by have:=HSZ.out;omega) (by decide) ?_
      intro a' h1 h2
      clear hHeld
      have HV:Hid (r=false):=by
       show _=_
       rw[HR.out]
       simp[*]
      go_wp2_with fail
      exact bodyPost_ret ((results_tmp rfl _ _ _).trans (by rw[h1])) h2 ⟨by rw[HV.out],HB0.out.trans (HQ0.out.mono HB0.out.size)⟩
    ·have l2:(15:Int)<(O.vars.length:Int):=by omega
     have l2d:decide ((O.vars.length:Int)<=15)=false:=decide_eq_false (by omega)
     refine takeI 29 (d:=some 35) (v:=.bool false) HIN.out (by have:=HSZ.out;omega) (by rw[HOPS.out];kernel_rfl) (fun _ _ _ h=>h) (fun oi ho=>by rw[HOPS.out]at ho;cases ho;exact Or.inl ⟨by rw[HOPS.out];kernel_rfl,fun W hW=>by go_simp⟩) hHeld ?_
     go_frame
     refine yi (t:=2) (v:=.bool false) 62 30 HIN.out (fun _ _ d _ _ h=>by cases d <;> exact h) hHeld (by rw[HOPS.out];as_aux_lemma=>kernel_rfl) (by have:=HSZ.out;omega) (by decide) ?_
     intro a' h1 h2
     clear hHeld
     have HV:Hid (r=false):=by
      show _=_
      rw[HR.out]
      simp[*]
     go_wp2_with fail
     exact bodyPost_ret ((results_tmp rfl _ _ _).trans (by rw[h1])) h2 ⟨by rw[HV.out],HB0.out.trans (HQ0.out.mono HB0.out.size)⟩
   ·have l1:(10:Int)<(O.uses.length:Int):=by omega
    have l1d:decide ((O.uses.length:Int)<=10)=false:=decide_eq_false (by omega)
    refine takeI 21 (d:=some 27) (v:=.bool false) HIN.out (by have:=HSZ.out;omega) (by rw[HOPS.out];kernel_rfl) (fun _ _ _ h=>h) (fun oi ho=>by rw[HOPS.out]at ho;cases ho;exact Or.inl ⟨by rw[HOPS.out];kernel_rfl,fun W hW=>by go_simp⟩) hHeld ?_
    go_frame
    refine yi (t:=2) (v:=.bool false) 70 22 HIN.out (fun _ _ d _ _ h=>by cases d <;> exact h) hHeld (by rw[HOPS.out];as_aux_lemma=>kernel_rfl) (by have:=HSZ.out;omega) (by decide) ?_
    intro a' h1 h2
    clear hHeld
    have HV:Hid (r=false):=by
     show _=_
     rw[HR.out]
     simp[*]
    go_wp2_with fail
    exact bodyPost_ret ((results_tmp rfl _ _ _).trans (by rw[h1])) h2 ⟨by rw[HV.out],HB0.out.trans (HQ0.out.mono HB0.out.size)⟩
  ·have l0:(30:Int)<(O.syms.length:Int):=by omega
   have l0d:decide ((O.syms.length:Int)<=30)=false:=decide_eq_false (by omega)
   refine takeI 13 (d:=some 19) (v:=.bool false) HIN.out (by have:=HSZ.out;omega) (by rw[HOPS.out];kernel_rfl) (fun _ _ _ h=>h) (fun oi ho=>by rw[HOPS.out]at ho;cases ho;exact Or.inl ⟨by rw[HOPS.out];kernel_rfl,fun W hW=>by go_simp⟩) hHeld ?_
   go_frame
   refine yi (t:=2) (v:=.bool false) 78 14 HIN.out (fun _ _ d _ _ h=>by cases d <;> exact h) hHeld (by rw[HOPS.out];as_aux_lemma=>kernel_rfl) (by have:=HSZ.out;omega) (by decide) ?_
   intro a' h1 h2
   clear hHeld
   have HV:Hid (r=false):=by
    show _=_
    rw[HR.out]
    simp[*]
   go_wp2_with fail
   exact bodyPost_ret ((results_tmp rfl _ _ _).trans (by rw[h1])) h2 ⟨by rw[HV.out],HB0.out.trans (HQ0.out.mono HB0.out.size)⟩
end Go.Proofs.YtmnedfdffbbchaaGreatDoor.Jo
