import Derived.Test.YtmnedfdffbbchaaGreatDoorKJb
set_option maxRecDepth 100000
set_option maxHeartbeats 4000000

namespace Go.Proofs.YtmnedfdffbbchaaGreatDoor.Jo
open Go.RowKit
open Ob (Bs)
theorem sym_r (w:World) (x:Ob.Sm) (hx:x.name.length<=1000000000) :
  Calls Tryz.prog 60 #[.agg #[.string (bs x.name),.int .i64 x.len,.int .i64 x.args]] w fun e w'=>e=.returned (.bool (Ob.symB x))/\Below w.heap.size w w':=by
 have HC1:Hid (∀ W,Below w.heap.size w W->Calls Tryz.prog 58 #[.string (bs x.name)] W fun e w'=>e=.returned (.bool (Ob.nameB x.name))/\w'=W):=fun W _=>kA W x.name hx
 have HC2:Hid (∀ W,Below w.heap.size w W->Calls Tryz.prog 90 #[.int .i64 x.len] W fun e w'=>e=.returned (.bool (Ob.lenB x.len))/\w'=W):=fun W _=>len_any W x.len
 have HR:Hid (Ob.symB x=(Ob.nameB x.name && (decide (-1<=x.args) && (decide (x.args<=10) && (Ob.lenB x.len && (decide (x.args<0) || decide (x.len=0))))))):=rfl
 generalize Ob.symB x=r at *
 generalize Ob.nameB x.name=b1 at *
 generalize Ob.lenB x.len=b2 at *
 generalize x.args=xa at *
 generalize x.len=xl at *
 have HB0:Hid (Below w.heap.size w (w.alloc (.cells #[.string (bs x.name),.int .i64 xl,.int .i64 xa] 57))):=zb _ _
 cases b1 with
 | false =>
  have HV:Hid (r=false):=by
   show _=_
   rw[HR.out]
   simp[*]
  clear HR
  go_enter Tryz.func60,Tryz.ntmps60
  go_wp2_with fail
  refine(HC1.out _ HB0.out).mono ?_
  rintro e wq ⟨rfl,rfl⟩
  go_wp2_with fail
  go_ret
  exact⟨by rw[HV.out];rfl,HB0.out⟩
 | true =>
  by_cases hc1:-1<=xa
  ·have hc1_0:decide (-1<=xa)=true:=decide_eq_true (by omega)
   by_cases hc2:xa<=10
   ·have hc2_0:decide (xa<=10)=true:=decide_eq_true (by omega)
    cases b2 with
    | false =>
     have HV:Hid (r=false):=by
      show _=_
      rw[HR.out]
      simp[*]
     clear HR
     go_enter Tryz.func60,Tryz.ntmps60
     go_wp2_with fail
     refine(HC1.out _ HB0.out).mono ?_
     rintro e wq ⟨rfl,rfl⟩
     go_wp2_with fail
     refine(HC2.out _ HB0.out).mono ?_
     rintro e wq ⟨rfl,rfl⟩
     go_wp2_with fail
     go_ret
     exact⟨by rw[HV.out];rfl,HB0.out⟩
    | true =>
     by_cases ho0:xa<0
     ·have ho0_0:decide (xa<0)=true:=decide_eq_true (by omega)
      have HV:Hid (r=true):=by
       show _=_
       rw[HR.out]
       simp[*]
      clear HR
      go_enter Tryz.func60,Tryz.ntmps60
      go_wp2_with fail
      refine(HC1.out _ HB0.out).mono ?_
      rintro e wq ⟨rfl,rfl⟩
      go_wp2_with fail
      refine(HC2.out _ HB0.out).mono ?_
      rintro e wq ⟨rfl,rfl⟩
      go_wp2_with fail
      go_ret
      exact⟨by rw[HV.out];rfl,HB0.out⟩
     ·have ho0_0:0<=xa:=by omega
      have ho0_1:decide (xa<0)=false:=decide_eq_false (by omega)
      by_cases ho1:xl=0
      ·have ho1_0:(xl == 0)=true:=by simp[ho1]
       have HV:Hid (r=true):=by
        show _=_
        rw[HR.out]
        simp[*]
       clear HR ho1
       go_enter Tryz.func60,Tryz.ntmps60
       go_wp2_with fail
       refine(HC1.out _ HB0.out).mono ?_
       rintro e wq ⟨rfl,rfl⟩
       go_wp2_with fail
       refine(HC2.out _ HB0.out).mono ?_
       rintro e wq ⟨rfl,rfl⟩
       go_wp2_with fail
       go_ret
       exact⟨by rw[HV.out];rfl,HB0.out⟩
      ·have ho1_0:(xl == 0)=false:=by simp[ho1]
       have HV:Hid (r=false):=by
        show _=_
        rw[HR.out]
        simp[*]
       clear HR
       go_enter Tryz.func60,Tryz.ntmps60
       go_wp2_with fail
       refine(HC1.out _ HB0.out).mono ?_
       rintro e wq ⟨rfl,rfl⟩
       go_wp2_with fail
       refine(HC2.out _ HB0.out).mono ?_
       rintro e wq ⟨rfl,rfl⟩
       go_wp2_with fail
       go_ret
       exact⟨by rw[HV.out];rfl,HB0.out⟩
   ·have hc2_0:10<xa:=by omega
    have hc2_1:decide (xa<=10)=false:=decide_eq_false (by omega)
    have HV:Hid (r=false):=by
     show _=_
     rw[HR.out]
     simp[*]
    clear HR
    go_enter Tryz.func60,Tryz.ntmps60
    go_wp2_with fail
    refine(HC1.out _ HB0.out).mono ?_
    rintro e wq ⟨rfl,rfl⟩
    go_wp2_with fail
    go_ret
    exact⟨by rw[HV.out];rfl,HB0.out⟩
  ·have hc1_0:xa < -1:=by omega
   have hc1_1:decide (-1<=xa)=false:=decide_eq_false (by omega)
   have HV:Hid (r=false):=by
    show _=_
    rw[HR.out]
    simp[*]
   clear HR
   go_enter Tryz.func60,Tryz.ntmps60
   go_wp2_with fail
   refine(HC1.out _ HB0.out).mono ?_
   rintro e wq ⟨rfl,rfl⟩
   go_wp2_with fail
   go_ret
   exact⟨by rw[HV.out];rfl,HB0.out⟩
theorem var_r (w:World) (x:Ob.Gl) (hx:x.name.length<=1000000000) :
  Calls Tryz.prog 63 #[.agg #[.string (bs x.name),.int .i64 x.at',.int .i64 x.len,.bool x.seen]] w fun e w'=>e=.returned (.bool (Ob.varB x))/\Below w.heap.size w w':=by
 have HC1:Hid (∀ W,Below w.heap.size w W->Calls Tryz.prog 58 #[.string (bs x.name)] W fun e w'=>e=.returned (.bool (Ob.nameB x.name))/\w'=W):=fun W _=>kA W x.name hx
 have HC2:Hid (∀ W,Below w.heap.size w W->Calls Tryz.prog 90 #[.int .i64 x.len] W fun e w'=>e=.returned (.bool (Ob.lenB x.len))/\w'=W):=fun W _=>len_any W x.len
 have HR:Hid (Ob.varB x=(Ob.nameB x.name && (decide (x.at'=0) && Ob.lenB x.len))):=rfl
 generalize Ob.varB x=r at *
 generalize Ob.nameB x.name=b1 at *
 generalize Ob.lenB x.len=b2 at *
 generalize x.at'=xa at *
 have HB0:Hid (Below w.heap.size w (w.alloc (.cells #[.string (bs x.name),.int .i64 xa,.int .i64 x.len,.bool x.seen] 61))):=zb _ _
 cases b1 with
 | false =>
  have HV:Hid (r=false):=by
   show _=_
   rw[HR.out]
   simp[*]
  clear HR
  go_enter Tryz.func63,Tryz.ntmps63
  go_wp2_with fail
  refine(HC1.out _ HB0.out).mono ?_
  rintro e wq ⟨rfl,rfl⟩
  go_wp2_with fail
  go_ret
  exact⟨by rw[HV.out];rfl,HB0.out⟩
 | true =>
  by_cases hc1:xa=0
  ·have hc1_0:(xa == 0)=true:=by simp[hc1]
   cases b2 with
   | false =>
    have HV:Hid (r=false):=by
     show _=_
     rw[HR.out]
     simp[*]
    clear HR hc1
    go_enter Tryz.func63,Tryz.ntmps63
    go_wp2_with fail
    refine(HC1.out _ HB0.out).mono ?_
    rintro e wq ⟨rfl,rfl⟩
    go_wp2_with fail
    refine(HC2.out _ HB0.out).mono ?_
    rintro e wq ⟨rfl,rfl⟩
    go_wp2_with fail
    go_ret
    exact⟨by rw[HV.out];rfl,HB0.out⟩
   | true =>
    have HV:Hid (r=true):=by
     show _=_
     rw[HR.out]
     simp[*]
    clear HR hc1
    go_enter Tryz.func63,Tryz.ntmps63
    go_wp2_with fail
    refine(HC1.out _ HB0.out).mono ?_
    rintro e wq ⟨rfl,rfl⟩
    go_wp2_with fail
    refine(HC2.out _ HB0.out).mono ?_
    rintro e wq ⟨rfl,rfl⟩
    go_wp2_with fail
    go_ret
    exact⟨by rw[HV.out];rfl,HB0.out⟩
  ·have hc1_0:(xa == 0)=false:=by simp[hc1]
   have HV:Hid (r=false):=by
    show _=_
    rw[HR.out]
    simp[*]
   clear HR
   go_enter Tryz.func63,Tryz.ntmps63
   go_wp2_with fail
   refine(HC1.out _ HB0.out).mono ?_
   rintro e wq ⟨rfl,rfl⟩
   go_wp2_with fail
   go_ret
   exact⟨by rw[HV.out];rfl,HB0.out⟩
theorem cfName (args:Array Value) (w:World):(callFunc 58 args).run Tryz.prog w=.ok (.enter 58 args) w:=by kernel_rfl
theorem use_r {w:World}(x:Ob.Us) (na:Option Addr) (nc:Nat) (hS:Sl w (.slice na x.names.length nc) 1 x.names.length (cellsOf stC x.names)) (hx:x.name.length<=1000000000) (hl:x.names.length<=140737488355328) (hn:∀ y∈x.names,y.length<=1000000000) :
  Calls Tryz.prog 57 #[.agg #[.string (bs x.name),.string (bs x.need),.slice na x.names.length nc]] w fun e w'=>e=.returned (.bool (Ob.useB x))/\Below w.heap.size w w':=by
 have HC1:Hid (∀ W,Below w.heap.size w W->Calls Tryz.prog 58 #[.string (bs x.name)] W fun e w'=>e=.returned (.bool (Ob.nameB x.name))/\w'=W):=fun W _=>kA W x.name hx
 have HC2:Hid (∀ W,Below w.heap.size w W->Calls Tryz.prog 67 #[.slice na x.names.length nc,.int .i64 100,.func (.func 58) #[] #[]] W fun e w'=>e=.returned (.bool (Ob.allB Ob.nameB 100 x.names))/\Below W.heap.size W w'):=fun W hW=>allStr (hS.below hW) hl 100 (by omega) cfName (fun W' y hy _=>(kA W' y (hn y hy)).mono (fun e w' h=>⟨h.1,by rw[h.2];exact Below.refl _ _⟩))
 have hsz:=kP x.need
 have HR:Hid (Ob.useB x=(Ob.nameB x.name && (decide (x.need.length<=4000) && Ob.allB Ob.nameB 100 x.names))):=rfl
 generalize Ob.useB x=r at *
 generalize Ob.nameB x.name=b1 at *
 generalize Ob.allB Ob.nameB 100 x.names=b2 at *
 clear hS hn
 have HB0:Hid (Below w.heap.size w (w.alloc (.cells #[.string (bs x.name),.string (bs x.need),.slice na x.names.length nc] 65))):=zb _ _
 cases b1 with
 | false =>
  have HV:Hid (r=false):=by
   show _=_
   rw[HR.out]
   simp[*]
  clear HR
  go_enter Tryz.func57,Tryz.ntmps57
  go_wp2_with fail
  refine(HC1.out _ HB0.out).mono ?_
  rintro e wq ⟨rfl,rfl⟩
  go_wp2_with fail
  go_ret
  exact⟨by rw[HV.out];rfl,HB0.out⟩
 | true =>
  by_cases hc1:x.need.length<=4000
  ·have hc1_0:((bs x.need).size:Int)<=4000:=by omega
   have hc1_1:(x.need.length:Int)<=4000:=by omega
   have hc1_2:decide (x.need.length<=4000)=true:=decide_eq_true (by omega)
   cases b2 with
   | false =>
    have HV:Hid (r=false):=by
     show _=_
     rw[HR.out]
     simp[*]
    clear HR
    go_enter Tryz.func57,Tryz.ntmps57
    go_wp2_with fail
    refine(HC1.out _ HB0.out).mono ?_
    rintro e wq ⟨rfl,rfl⟩
    go_wp2_with fail
    refine(HC2.out _ HB0.out).mono ?_
    rintro e wq1 ⟨rfl,hq1⟩
    have HB2:=zh (HB0.out.trans (hq1.mono HB0.out.size))
    clear hq1
    go_wp2_with fail
    go_ret
    exact⟨by rw[HV.out];rfl,HB2.out⟩
   | true =>
    have HV:Hid (r=true):=by
     show _=_
     rw[HR.out]
     simp[*]
    clear HR
    go_enter Tryz.func57,Tryz.ntmps57
    go_wp2_with fail
    refine(HC1.out _ HB0.out).mono ?_
    rintro e wq ⟨rfl,rfl⟩
    go_wp2_with fail
    refine(HC2.out _ HB0.out).mono ?_
    rintro e wq1 ⟨rfl,hq1⟩
    have HB2:=zh (HB0.out.trans (hq1.mono HB0.out.size))
    clear hq1
    go_wp2_with fail
    go_ret
    exact⟨by rw[HV.out];rfl,HB2.out⟩
  ·have hc1_0:(4000:Int)<(x.need.length:Int):=by omega
   have hc1_1:decide (x.need.length<=4000)=false:=decide_eq_false (by omega)
   have HV:Hid (r=false):=by
    show _=_
    rw[HR.out]
    simp[*]
   clear HR
   go_enter Tryz.func57,Tryz.ntmps57
   go_wp2_with fail
   refine(HC1.out _ HB0.out).mono ?_
   rintro e wq ⟨rfl,rfl⟩
   go_wp2_with fail
   go_ret
   exact⟨by rw[HV.out];rfl,HB0.out⟩
theorem below_drewN (w:World) (q:Nat):Below w.heap.size w (w.drewN q):=by
 refine⟨?_,?_,?_,?_,fun k _=>?_⟩ <;> simp[World.drewN]
theorem cfOther (args:Array Value) (w:World):(callFunc 56 args).run Tryz.prog w=.ok (.enter 56 args) w:=by kernel_rfl
theorem bs_beq (a b:Bs):((bs a).toList == (bs b).toList)=decide (a=b):=by rw[zu,zu,Bool.eq_iff_iff];simp
theorem other_r {w:World}(x:Ob.Us) (na:Option Addr) (nc:Nat) (nm:Bs) {cb b o:Nat}(hcb:w.cell? ⟨cb,0,none⟩=some (.pointer (some ⟨b,o,none⟩))) (hnm:w.cell? ⟨b,o,none⟩=some (.string (bs nm))) (hS:Sl w (.slice na x.names.length nc) 1 x.names.length (cellsOf stC x.names)) (hx:x.name.length<=1000000000) (hl:x.names.length<=140737488355328) (hn:∀ y∈x.names,y.length<=1000000000) :
  Calls Tryz.prog 56 #[.agg #[.string (bs x.name),.string (bs x.need),.slice na x.names.length nc],.pointer (some ⟨cb,0,none⟩)] w fun e w'=>e=.returned (.bool (Ob.otherB nm x))/\Below w.heap.size w w':=by
 have hcl:=zi hcb
 have hbl:=zi hnm
 obtain⟨wm,hwm⟩:∃ wm,wm=w.alloc (.cells #[.string (bs x.name),.string (bs x.need),.slice na x.names.length nc] 65):=⟨_,rfl⟩
 have hb0:Below w.heap.size w wm:=by rw[hwm];exact zb _ _
 have hblk:wm.heap[w.heap.size]?=some (.cells #[.string (bs x.name),.string (bs x.need),.slice na x.names.length nc] 65 (0,0)):=by rw[hwm];exact zw _ _
 have hsz:w.heap.size<wm.heap.size:=zk hblk
 have k0:wm.cell? ⟨w.heap.size,0,none⟩=some (.string (bs x.name)):=zc hblk
 have k1:wm.cell? ⟨w.heap.size,1,none⟩=some (.string (bs x.need)):=zc hblk
 have k2:wm.cell? ⟨w.heap.size,2,none⟩=some (.slice na x.names.length nc):=zc hblk
 have kc:wm.cell? ⟨cb,0,none⟩=some (.pointer (some ⟨b,o,none⟩)):=(hb0.cell (p:=⟨cb,0,none⟩) hcl).trans hcb
 have kn:wm.cell? ⟨b,o,none⟩=some (.string (bs nm)):=(hb0.cell (p:=⟨b,o,none⟩) hbl).trans hnm
 have HB0:=zh hb0
 have hbq:=bs_beq x.name nm
 by_cases he:x.name=nm
 ·have heq:((bs x.name).toList == (bs nm).toList)=true:=by rw[hbq];exact decide_eq_true he
  have HR:Hid (Ob.otherB nm x=false):=by show _=_;unfold Ob.otherB;simp[he]
  generalize Ob.otherB nm x=r at *
  clear hbq he hb0 hblk hcb hnm hS hn
  go_enter Tryz.func56,Tryz.ntmps56
  go_wp2_with fail
  rw[<-hwm]
  clear hwm
  go_quiet (fail)
  go_wp2_with fail
  go_ret
  exact⟨by rw[HR.out];rfl,HB0.out.trans ((below_drewN _ _).mono HB0.out.size)⟩
 ·have heq:((bs x.name).toList == (bs nm).toList)=false:=by rw[hbq];exact decide_eq_false he
  have HR:Hid (Ob.otherB nm x=Ob.useB x):=by show _=_;unfold Ob.otherB;simp[he]
  have HC:Hid (∀ W,Below w.heap.size w W->Calls Tryz.prog 57 #[.agg #[.string (bs x.name),.string (bs x.need),.slice na x.names.length nc]] W fun e w'=>e=.returned (.bool (Ob.useB x))/\Below W.heap.size W w'):=fun W hW=>use_r x na nc (hS.below hW) hx hl hn
  generalize Ob.otherB nm x=r at *
  generalize Ob.useB x=d at *
  clear hbq he hb0 hblk hcb hnm hS hn
  have HK:Hid (∀ W,Below wm.heap.size wm W->W.cell? ⟨w.heap.size,0,none⟩=some (.string (bs x.name))/\W.cell? ⟨w.heap.size,1,none⟩=some (.string (bs x.need))/\W.cell? ⟨w.heap.size,2,none⟩=some (.slice na x.names.length nc)/\W.cell? ⟨cb,0,none⟩=some (.pointer (some ⟨b,o,none⟩))/\W.cell? ⟨b,o,none⟩=some (.string (bs nm))) :=
   fun W hW=>⟨(hW.cell (p:=⟨w.heap.size,0,none⟩) hsz).trans k0,(hW.cell (p:=⟨w.heap.size,1,none⟩) hsz).trans k1,(hW.cell (p:=⟨w.heap.size,2,none⟩) hsz).trans k2,(hW.cell (p:=⟨cb,0,none⟩) (zi kc)).trans kc,(hW.cell (p:=⟨b,o,none⟩) (zi kn)).trans kn⟩
  have HK1:=zh (HK.out _ (zt wm))
  go_enter Tryz.func56,Tryz.ntmps56
  go_wp2_with fail
  rw[<-hwm]
  clear hwm
  go_region_held3 (fun w'=>w'.cell? ⟨w.heap.size,0,none⟩=some (.string (bs x.name))/\w'.cell? ⟨w.heap.size,1,none⟩=some (.string (bs x.need))/\w'.cell? ⟨w.heap.size,2,none⟩=some (.slice na x.names.length nc)/\w'.cell? ⟨cb,0,none⟩=some (.pointer (some ⟨b,o,none⟩))/\w'.cell? ⟨b,o,none⟩=some (.string (bs nm))) (with_reducible (first|exact HK2.out|exact HK1.out)) (first|(go_at_call 57;refine(HC.out _ (HB0.out.trans ((zt wm).mono HB0.out.size))).mono ?_;rintro e w2 ⟨rfl,hb2⟩;have HB2:Hid (Below wm.heap.size wm w2):=(zt wm).trans hb2;have HK2:=zh (HK.out _ HB2.out);clear hb2))
  go_wp2_with fail
  go_ret
  exact⟨by rw[HR.out];rfl,HB0.out.trans (HB2.out.mono HB0.out.size)⟩
structure Bd (O:Ob.O):Prop where
 nm:O.name.length<=1000000000
 sl:O.syms.length<=1000000
 s:∀ x∈O.syms,x.name.length<=1000000000
 ul:O.uses.length<=1000000
 u:∀ x∈O.uses,x.name.length<=1000000000/\x.names.length<=1000000/\∀ y∈x.names,y.length<=1000000000
 vl:O.vars.length<=1000000
 v:∀ x∈O.vars,x.name.length<=1000000000
 pl:O.procs.length<=1000000
 nl:O.names.length<=1000000
 n:∀ x∈O.names,x.length<=1000000000
 cl:O.code.length<=1000000
 c:∀ x∈O.code,Ob.I64 x.a
theorem cfSym51 (args:Array Value) (w:World):(callFunc 60 args).run Tryz.prog w=.ok (.enter 60 args) w:=by kernel_rfl
theorem cfVar54 (args:Array Value) (w:World):(callFunc 63 args).run Tryz.prog w=.ok (.enter 63 args) w:=by kernel_rfl
theorem head_r {w:World}{b o:Nat}{O:Ob.O}{sa ua va pa na ca:Option Addr}{sc uc vc pc nc cc:Nat}(hV:OV w b o O sa ua va pa na ca sc uc vc pc nc cc) (hB:Bd O) :
  Calls Tryz.prog 25 #[.pointer (some ⟨b,o,none⟩)] w fun e w'=>e=.returned (.bool (Ob.headB O))/\Below w.heap.size w w':=by
 have hmf:=zm
 have hbl:=zi hV.c0
 obtain⟨w1,hw1⟩:∃ w1,w1=w.alloc (.cells #[.pointer (some ⟨b,o,none⟩)] 22):=⟨_,rfl⟩
 have hb0:Below w.heap.size w w1:=by rw[hw1];exact zb _ _
 have hblk:w1.heap[w.heap.size]?=some (.cells #[.pointer (some ⟨b,o,none⟩)] 22 (0,0)):=by rw[hw1];exact zw _ _
 have hsz:w.heap.size<w1.heap.size:=zk hblk
 have kb:w1.cell? ⟨w.heap.size,0,none⟩=some (.pointer (some ⟨b,o,none⟩)):=zc hblk
 have hV1:=hV.below hb0
 have HB0:=zh hb0
 have HW1:=zh hw1
 clear hw1
 have HK:Hid (∀ W,Below w1.heap.size w1 W->W.cell? ⟨w.heap.size,0,none⟩=some (.pointer (some ⟨b,o,none⟩))/\W.cell? ⟨b,o,none⟩=some (.string (bs O.name))/\W.cell? ⟨b,o+1,none⟩=some (.slice sa O.syms.length sc)/\W.cell? ⟨b,o+2,none⟩=some (.slice ua O.uses.length uc)/\W.cell? ⟨b,o+3,none⟩=some (.slice va O.vars.length vc)/\b<W.heap.size/\w.heap.size<W.heap.size) :=
  fun W hW=>⟨(hW.cell (p:=⟨w.heap.size,0,none⟩) hsz).trans kb,(hV1.below hW).c0,(hV1.below hW).c1,(hV1.below hW).c2,(hV1.below hW).c3,zi (hV1.below hW).c0,Nat.lt_of_lt_of_le hsz hW.size⟩
 have HC1:Hid (∀ W,Below w1.heap.size w1 W->Calls Tryz.prog 58 #[.string (bs O.name)] W fun e w'=>e=.returned (.bool (Ob.nameB O.name))/\w'=W):=fun W _=>kA W O.name hB.nm
 have HC2:Hid (∀ W,Below w1.heap.size w1 W->Calls Tryz.prog 59 #[.slice sa O.syms.length sc,.int .i64 20,.func (.func 60) #[] #[]] W fun e w'=>e=.returned (.bool (Ob.allB Ob.symB 20 O.syms))/\Below W.heap.size W w') :=
  fun W hW=>allSym (hV1.below hW).s (by have:=hB.sl;omega) 20 (by omega) cfSym51 (fun W' y hy _=>sym_r W' y (hB.s y hy))
 have HC3:Hid (∀ W,Below w1.heap.size w1 W->Calls Tryz.prog 61 #[.slice ua O.uses.length uc,.int .i64 6,.func (.func 56) #[] #[.pointer (some ⟨w.heap.size,0,none⟩)]] W fun e w'=>e=.returned (.bool (Ob.allB (Ob.otherB O.name) 6 O.uses))/\Below W.heap.size W w') :=
  fun W hW=>by
   obtain⟨ucs,hu1,hu2⟩:=(hV1.below hW).u
   exact allUs hu1 hu2 (by have:=hB.ul;omega) 6 (by omega) cfOther (fun W' y na' nc' hy hW' hs=>other_r y na' nc' O.name ((hW'.cell (p:=⟨w.heap.size,0,none⟩) (show w.heap.size<W.heap.size by have:=hW.size;omega)).trans ((hW.cell (p:=⟨w.heap.size,0,none⟩) hsz).trans kb)) ((hV1.below hW).below hW').c0 hs (hB.u y hy).1 (by have:=(hB.u y hy).2.1;omega) (hB.u y hy).2.2)
 have HC4:Hid (∀ W,Below w1.heap.size w1 W->Calls Tryz.prog 62 #[.slice va O.vars.length vc,.int .i64 10,.func (.func 63) #[] #[]] W fun e w'=>e=.returned (.bool (Ob.allB Ob.varB 10 O.vars))/\Below W.heap.size W w') :=
  fun W hW=>allGl (hV1.below hW).v (by have:=hB.vl;omega) 10 (by omega) cfVar54 (fun W' y hy _=>var_r W' y (hB.v y hy))
 have HR:Hid (Ob.headB O=(Ob.nameB O.name && (Ob.allB Ob.symB 20 O.syms && (Ob.allB (Ob.otherB O.name) 6 O.uses && Ob.allB Ob.varB 10 O.vars)))):=rfl
 generalize Ob.headB O=r at *
 generalize Ob.nameB O.name=b1 at *
 generalize Ob.allB Ob.symB 20 O.syms=b2 at *
 generalize Ob.allB (Ob.otherB O.name) 6 O.uses=b3 at *
 generalize Ob.allB Ob.varB 10 O.vars=b4 at *
 have hc0:=hV.c0
 clear hB hV1 hblk hb0 kb hV
 cases b1 with
 | false =>
  have HV:Hid (r=false):=by
   show _=_
   rw[HR.out]
   simp[*]
  clear HR
  obtain⟨f0,f1,f2,f3,f4,f5,f6⟩:=HK.out w1 (Below.refl _ _)
  go_enter Tryz.func25,Tryz.ntmps25
  go_wp2_with fail
  rw[<-HW1.out]
  clear HW1
  refine(HC1.out _ (Below.refl w1.heap.size w1)).mono ?_
  rintro e wq ⟨rfl,hwq⟩
  rw[hwq]
  clear hwq
  go_wp2_with fail
  go_ret
  exact⟨by rw[HV.out];rfl,HB0.out.trans ((Below.refl w1.heap.size w1).mono HB0.out.size)⟩
 | true =>
  cases b2 with
  | false =>
   have HV:Hid (r=false):=by
    show _=_
    rw[HR.out]
    simp[*]
   clear HR
   obtain⟨f0,f1,f2,f3,f4,f5,f6⟩:=HK.out w1 (Below.refl _ _)
   go_enter Tryz.func25,Tryz.ntmps25
   go_wp2_with fail
   rw[<-HW1.out]
   clear HW1
   refine(HC1.out _ (Below.refl w1.heap.size w1)).mono ?_
   rintro e wq ⟨rfl,hwq⟩
   rw[hwq]
   clear hwq
   go_wp2_with fail
   refine(HC2.out _ (Below.refl w1.heap.size w1)).mono ?_
   rintro e wq1 ⟨rfl,hq1⟩
   have HQ1:Hid (Below w1.heap.size w1 wq1):=(Below.refl w1.heap.size w1).trans (hq1.mono (Below.refl w1.heap.size w1).size)
   clear hq1 f0 f1 f2 f3 f4 f5 f6
   obtain⟨f0,f1,f2,f3,f4,f5,f6⟩:=HK.out wq1 HQ1.out
   go_wp2_with fail
   go_ret
   exact⟨by rw[HV.out];rfl,HB0.out.trans (HQ1.out.mono HB0.out.size)⟩
  | true =>
   cases b3 with
   | false =>
    have HV:Hid (r=false):=by
     show _=_
     rw[HR.out]
     simp[*]
    clear HR
    obtain⟨f0,f1,f2,f3,f4,f5,f6⟩:=HK.out w1 (Below.refl _ _)
    go_enter Tryz.func25,Tryz.ntmps25
    go_wp2_with fail
    rw[<-HW1.out]
    clear HW1
    refine(HC1.out _ (Below.refl w1.heap.size w1)).mono ?_
    rintro e wq ⟨rfl,hwq⟩
    rw[hwq]
    clear hwq
    go_wp2_with fail
    refine(HC2.out _ (Below.refl w1.heap.size w1)).mono ?_
    rintro e wq1 ⟨rfl,hq1⟩
    have HQ1:Hid (Below w1.heap.size w1 wq1):=(Below.refl w1.heap.size w1).trans (hq1.mono (Below.refl w1.heap.size w1).size)
    clear hq1 f0 f1 f2 f3 f4 f5 f6
    obtain⟨f0,f1,f2,f3,f4,f5,f6⟩:=HK.out wq1 HQ1.out
    go_wp2_with fail
    refine(HC3.out _ HQ1.out).mono ?_
    rintro e wq2 ⟨rfl,hq2⟩
    have HQ2:Hid (Below w1.heap.size w1 wq2):=HQ1.out.trans (hq2.mono HQ1.out.size)
    clear hq2 f0 f1 f2 f3 f4 f5 f6
    obtain⟨f0,f1,f2,f3,f4,f5,f6⟩:=HK.out wq2 HQ2.out
    go_wp2_with fail
    go_ret
    exact⟨by rw[HV.out];rfl,HB0.out.trans (HQ2.out.mono HB0.out.size)⟩
   | true =>
    cases b4 with
    | false =>
     have HV:Hid (r=false):=by
      show _=_
      rw[HR.out]
      simp[*]
     clear HR
     obtain⟨f0,f1,f2,f3,f4,f5,f6⟩:=HK.out w1 (Below.refl _ _)
     go_enter Tryz.func25,Tryz.ntmps25
     go_wp2_with fail
     rw[<-HW1.out]
     clear HW1
     refine(HC1.out _ (Below.refl w1.heap.size w1)).mono ?_
     rintro e wq ⟨rfl,hwq⟩
     rw[hwq]
     clear hwq
     go_wp2_with fail
     refine(HC2.out _ (Below.refl w1.heap.size w1)).mono ?_
     rintro e wq1 ⟨rfl,hq1⟩
     have HQ1:Hid (Below w1.heap.size w1 wq1):=(Below.refl w1.heap.size w1).trans (hq1.mono (Below.refl w1.heap.size w1).size)
     clear hq1 f0 f1 f2 f3 f4 f5 f6
     obtain⟨f0,f1,f2,f3,f4,f5,f6⟩:=HK.out wq1 HQ1.out
     go_wp2_with fail
     refine(HC3.out _ HQ1.out).mono ?_
     rintro e wq2 ⟨rfl,hq2⟩
     have HQ2:Hid (Below w1.heap.size w1 wq2):=HQ1.out.trans (hq2.mono HQ1.out.size)
     clear hq2 f0 f1 f2 f3 f4 f5 f6
     obtain⟨f0,f1,f2,f3,f4,f5,f6⟩:=HK.out wq2 HQ2.out
     go_wp2_with fail
     refine(HC4.out _ HQ2.out).mono ?_
     rintro e wq3 ⟨rfl,hq3⟩
     have HQ3:Hid (Below w1.heap.size w1 wq3):=HQ2.out.trans (hq3.mono HQ2.out.size)
     clear hq3 f0 f1 f2 f3 f4 f5 f6
     obtain⟨f0,f1,f2,f3,f4,f5,f6⟩:=HK.out wq3 HQ3.out
     go_wp2_with fail
     go_ret
     exact⟨by rw[HV.out];rfl,HB0.out.trans (HQ3.out.mono HB0.out.size)⟩
    | true =>
     have HV:Hid (r=true):=by
      show _=_
      rw[HR.out]
      simp[*]
     clear HR
     obtain⟨f0,f1,f2,f3,f4,f5,f6⟩:=HK.out w1 (Below.refl _ _)
     go_enter Tryz.func25,Tryz.ntmps25
     go_wp2_with fail
     rw[<-HW1.out]
     clear HW1
     refine(HC1.out _ (Below.refl w1.heap.size w1)).mono ?_
     rintro e wq ⟨rfl,hwq⟩
     rw[hwq]
     clear hwq
     go_wp2_with fail
     refine(HC2.out _ (Below.refl w1.heap.size w1)).mono ?_
     rintro e wq1 ⟨rfl,hq1⟩
     have HQ1:Hid (Below w1.heap.size w1 wq1):=(Below.refl w1.heap.size w1).trans (hq1.mono (Below.refl w1.heap.size w1).size)
     clear hq1 f0 f1 f2 f3 f4 f5 f6
     obtain⟨f0,f1,f2,f3,f4,f5,f6⟩:=HK.out wq1 HQ1.out
     go_wp2_with fail
     refine(HC3.out _ HQ1.out).mono ?_
     rintro e wq2 ⟨rfl,hq2⟩
     have HQ2:Hid (Below w1.heap.size w1 wq2):=HQ1.out.trans (hq2.mono HQ1.out.size)
     clear hq2 f0 f1 f2 f3 f4 f5 f6
     obtain⟨f0,f1,f2,f3,f4,f5,f6⟩:=HK.out wq2 HQ2.out
     go_wp2_with fail
     refine(HC4.out _ HQ2.out).mono ?_
     rintro e wq3 ⟨rfl,hq3⟩
     have HQ3:Hid (Below w1.heap.size w1 wq3):=HQ2.out.trans (hq3.mono HQ2.out.size)
     clear hq3 f0 f1 f2 f3 f4 f5 f6
     obtain⟨f0,f1,f2,f3,f4,f5,f6⟩:=HK.out wq3 HQ3.out
     go_wp2_with fail
     go_ret
     exact⟨by rw[HV.out];rfl,HB0.out.trans (HQ3.out.mono HB0.out.size)⟩
theorem cfEnt (args:Array Value) (w:World):(callFunc 64 args).run Tryz.prog w=.ok (.enter 64 args) w:=by kernel_rfl
theorem ent_r {w:World}(x:Ob.En) {cb b o n cap:Nat}{a:Option Addr}(hcb:w.cell? ⟨cb,0,none⟩=some (.pointer (some ⟨b,o,none⟩))) (hnm:w.cell? ⟨b,o+6,none⟩=some (.slice a n cap)) :
  Calls Tryz.prog 64 #[.agg #[.int .i64 x.at',.int .i64 x.args,.int .i64 x.locals],.pointer (some ⟨cb,0,none⟩)] w fun e w'=>e=.returned (.bool (Ob.entB n x))/\Below w.heap.size w w':=by
 have HR:Hid (Ob.entB n x=(Ob.countsB x.at' n && (decide (0<=x.args) && (decide (x.args<=x.locals) && decide (x.locals<=10))))):=rfl
 have HC:Hid (∀ W,Calls Tryz.prog 65 #[.int .i64 x.at',.int .i64 (n:Int)] W fun e w'=>e=.returned (.bool (Ob.countsB x.at' n))/\w'=W):=fun W=>yT W x.at' n
 generalize Ob.entB n x=r at *
 generalize Ob.countsB x.at' n=b1 at *
 generalize x.at'=xa at *
 generalize x.args=xb at *
 generalize x.locals=xc at *
 have hcl:=zi hcb
 have hbl:=zi hnm
 obtain⟨w1,hw1⟩:∃ w1,w1=w.alloc (.cells #[.int .i64 xa,.int .i64 xb,.int .i64 xc] 98):=⟨_,rfl⟩
 have hb0:Below w.heap.size w w1:=by rw[hw1];exact zb _ _
 have hblk:w1.heap[w.heap.size]?=some (.cells #[.int .i64 xa,.int .i64 xb,.int .i64 xc] 98 (0,0)):=by rw[hw1];exact zw _ _
 have hsz:w.heap.size<w1.heap.size:=zk hblk
 have k0:w1.cell? ⟨w.heap.size,0,none⟩=some (.int .i64 xa):=zc hblk
 have k1:w1.cell? ⟨w.heap.size,1,none⟩=some (.int .i64 xb):=zc hblk
 have k2:w1.cell? ⟨w.heap.size,2,none⟩=some (.int .i64 xc):=zc hblk
 have kc:w1.cell? ⟨cb,0,none⟩=some (.pointer (some ⟨b,o,none⟩)):=(hb0.cell (p:=⟨cb,0,none⟩) hcl).trans hcb
 have kn:w1.cell? ⟨b,o+6,none⟩=some (.slice a n cap):=(hb0.cell (p:=⟨b,o+6,none⟩) hbl).trans hnm
 have HB0:=zh hb0
 have HW1:=zh hw1
 clear hw1 hb0 hblk hcb hnm
 cases b1 with
 | false =>
  have HV:Hid (r=false):=by
   show _=_
   rw[HR.out]
   simp[*]
  clear HR
  go_enter Tryz.func64,Tryz.ntmps64
  go_wp2_with fail
  rw[<-HW1.out]
  clear HW1
  go_quiet ((go_at_call 65;exact Calls.quiet_of_same (HC.out _)))
  go_wp2_with fail
  go_ret
  exact⟨by rw[HV.out];rfl,HB0.out.trans ((below_drewN _ _).mono HB0.out.size)⟩
 | true =>
  by_cases h1:0<=xb
  ·have h1d:decide (0<=xb)=true:=decide_eq_true (by omega)
   by_cases h2:xb<=xc
   ·have h2d:decide (xb<=xc)=true:=decide_eq_true (by omega)
    by_cases h3:xc<=10
    ·have h3d:decide (xc<=10)=true:=decide_eq_true (by omega)
     have HV:Hid (r=true):=by
      show _=_
      rw[HR.out]
      simp[*]
     clear HR
     go_enter Tryz.func64,Tryz.ntmps64
     go_wp2_with fail
     rw[<-HW1.out]
     clear HW1
     go_quiet ((go_at_call 65;exact Calls.quiet_of_same (HC.out _)))
     go_wp2_with fail
     go_ret
     exact⟨by rw[HV.out];rfl,HB0.out.trans ((below_drewN _ _).mono HB0.out.size)⟩
    ·have h3d:decide (xc<=10)=false:=decide_eq_false (by omega)
     have h3n:10<xc:=by omega
     have HV:Hid (r=false):=by
      show _=_
      rw[HR.out]
      simp[*]
     clear HR
     go_enter Tryz.func64,Tryz.ntmps64
     go_wp2_with fail
     rw[<-HW1.out]
     clear HW1
     go_quiet ((go_at_call 65;exact Calls.quiet_of_same (HC.out _)))
     go_wp2_with fail
     go_ret
     exact⟨by rw[HV.out];rfl,HB0.out.trans ((below_drewN _ _).mono HB0.out.size)⟩
   ·have h2d:decide (xb<=xc)=false:=decide_eq_false (by omega)
    have h2n:xc<xb:=by omega
    have HV:Hid (r=false):=by
     show _=_
     rw[HR.out]
     simp[*]
    clear HR
    go_enter Tryz.func64,Tryz.ntmps64
    go_wp2_with fail
    rw[<-HW1.out]
    clear HW1
    go_quiet ((go_at_call 65;exact Calls.quiet_of_same (HC.out _)))
    go_wp2_with fail
    go_ret
    exact⟨by rw[HV.out];rfl,HB0.out.trans ((below_drewN _ _).mono HB0.out.size)⟩
  ·have h1d:decide (0<=xb)=false:=decide_eq_false (by omega)
   have h1n:xb<0:=by omega
   have HV:Hid (r=false):=by
    show _=_
    rw[HR.out]
    simp[*]
   clear HR
   go_enter Tryz.func64,Tryz.ntmps64
   go_wp2_with fail
   rw[<-HW1.out]
   clear HW1
   go_quiet ((go_at_call 65;exact Calls.quiet_of_same (HC.out _)))
   go_wp2_with fail
   go_ret
   exact⟨by rw[HV.out];rfl,HB0.out.trans ((below_drewN _ _).mono HB0.out.size)⟩
theorem takeD {P:Program}{ops:Array Oper}{Q:Exit->Act->World->Prop}{md:Region.Mode}{S:World->Prop}{i:Nat}{d:Option Tmp}{v:Value}{fuel:Nat}{listed:Array Bool}{a:Act}{w:World}(hd:(ops[i]?).map (fun o=>o.dst)=some d)
  (hs:Region.noSelect ops=true) (hf:Region.free md ops listed i=true) (hr:(Region.ready md ops listed).contains i=true)
  (hQ:∀ c a w,Q (.panic c) (a.put d v) w->Q (.panic c) a w) (hy:∀ oi,ops[i]?=some oi->YieldsIf P ops S oi v a) (hS:S w)
  (h:wpAnyH P md ops Q S fuel (listed.setIfInBounds i true) (a.put d v) w):wpAnyH P md ops Q S (fuel+1) listed a w:=by
 rcases ho:ops[i]? with _|oi
 ·rw[ho]at hd;cases hd
 ·rw[ho]at hd
  cases hd
  exact wpAnyH_take ho hs hf hr hQ (hy oi ho) hS h
theorem procs_r {w:World}{b o:Nat}{O:Ob.O}{sa ua va pa na ca:Option Addr}{sc uc vc pc nc cc:Nat}(hV:OV w b o O sa ua va pa na ca sc uc vc pc nc cc) (hB:Bd O) :
  Calls Tryz.prog 26 #[.pointer (some ⟨b,o,none⟩)] w fun e w'=>e=.returned (.bool (Ob.procsB O))/\Below w.heap.size w w':=by
 have hmf:=zm
 have hbl:=zi hV.c0
 obtain⟨w1,hw1⟩:∃ w1,w1=w.alloc (.cells #[.pointer (some ⟨b,o,none⟩)] 22):=⟨_,rfl⟩
 have hb0:Below w.heap.size w w1:=by rw[hw1];exact zb _ _
 have hblk:w1.heap[w.heap.size]?=some (.cells #[.pointer (some ⟨b,o,none⟩)] 22 (0,0)):=by rw[hw1];exact zw _ _
 have hsz:w.heap.size<w1.heap.size:=zk hblk
 have kb:w1.cell? ⟨w.heap.size,0,none⟩=some (.pointer (some ⟨b,o,none⟩)):=zc hblk
 have hV1:=hV.below hb0
 have HB0:=zh hb0
 have HW1:=zh hw1
 clear hw1
 have HK:Hid (∀ W,Below w1.heap.size w1 W->W.cell? ⟨w.heap.size,0,none⟩=some (.pointer (some ⟨b,o,none⟩))/\W.cell? ⟨b,o+4,none⟩=some (.slice pa O.procs.length pc)/\W.cell? ⟨b,o+5,none⟩=some (.slice na O.names.length nc)) :=
  fun W hW=>⟨(hW.cell (p:=⟨w.heap.size,0,none⟩) hsz).trans kb,(hV1.below hW).c4,(hV1.below hW).c5⟩
 have hbl1:b<w1.heap.size:=Nat.lt_of_lt_of_le hbl hb0.size
 have HC1:Hid (∀ W,Below w1.heap.size w1 W->Calls Tryz.prog 66 #[.slice pa O.procs.length pc,.int .i64 10,.func (.func 64) #[] #[.pointer (some ⟨w.heap.size,0,none⟩)]] W fun e w'=>e=.returned (.bool (Ob.allB (Ob.entB O.code.length) 10 O.procs))/\Below W.heap.size W w') :=
  fun W hW=>allEn (hV1.below hW).p (by have:=hB.pl;omega) 10 (by omega) cfEnt (fun W' y hy hW'=>ent_r y ((hW'.cell (p:=⟨w.heap.size,0,none⟩) (show w.heap.size<W.heap.size by have:=hW.size;omega)).trans ((hW.cell (p:=⟨w.heap.size,0,none⟩) hsz).trans kb)) ((hV1.below hW).below hW').c6)
 have HC2:Hid (∀ W,Below w1.heap.size w1 W->Calls Tryz.prog 67 #[.slice na O.names.length nc,.int .i64 10,.func (.func 58) #[] #[]] W fun e w'=>e=.returned (.bool (Ob.allB Ob.nameB 10 O.names))/\Below W.heap.size W w') :=
  fun W hW=>allStr (hV1.below hW).n (by have:=hB.nl;omega) 10 (by omega) cfName (fun W' y hy _=>(kA W' y (hB.n y hy)).mono (fun e w' h=>⟨h.1,by rw[h.2];exact Below.refl _ _⟩))
 have HR:Hid (Ob.procsB O=(Ob.allB (Ob.entB O.code.length) 10 O.procs && (decide (O.names.length=O.procs.length) && Ob.allB Ob.nameB 10 O.names))):=rfl
 generalize Ob.procsB O=r at *
 generalize Ob.allB (Ob.entB O.code.length) 10 O.procs=b1 at *
 generalize Ob.allB Ob.nameB 10 O.names=b2 at *
 have HK1:=zh (HK.out _ (zt w1))
 have hc0:=hV.c0
 clear hB hV1 hblk hb0 hV
 cases b1 with
 | false =>
  have HV:Hid (r=false):=by
   show _=_
   rw[HR.out]
   simp[*]
  clear HR
  go_enter Tryz.func26,Tryz.ntmps26
  go_wp2_with fail
  rw[<-HW1.out]
  clear HW1
  refine wp_region_held_drew (S:=(fun w'=>w'.cell? ⟨w.heap.size,0,none⟩=some (.pointer (some ⟨b,o,none⟩))/\w'.cell? ⟨b,o+4,none⟩=some (.slice pa O.procs.length pc)/\w'.cell? ⟨b,o+5,none⟩=some (.slice na O.names.length nc))) (by kernel_rfl) HK1.out (fun hHeld=>?_)
  refine takeD (i:=0) (d:=some 5) (v:=(.pointer (some ⟨b,o,none⟩))) (by kernel_rfl) (by kernel_rfl) (by kernel_rfl) (by kernel_rfl) (fun _ _ _ h=>h) (fun oi ho=>by cases ho;exact Or.inl ⟨by kernel_rfl,fun W hW=>by go_simp⟩) hHeld ?_
  go_frame
  refine takeD (i:=1) (d:=some 6) (v:=(.pointer (some ⟨b,o,none⟩))) (by kernel_rfl) (by kernel_rfl) (by kernel_rfl) (by kernel_rfl) (fun _ _ _ h=>h) (fun oi ho=>by cases ho;exact Or.inl ⟨by kernel_rfl,fun W hW=>by go_simp⟩) hHeld ?_
  go_frame
  refine takeD (i:=2) (d:=some 7) (v:=.pointer (some ⟨b,o+4,none⟩)) (by kernel_rfl) (by kernel_rfl) (by kernel_rfl) (by kernel_rfl) (fun _ _ _ h=>h) (fun oi ho=>by cases ho;exact Or.inl ⟨by kernel_rfl,fun W hW=>by go_simp⟩) hHeld ?_
  go_frame
  refine takeD (i:=3) (d:=some 8) (v:=.slice pa O.procs.length pc) (by kernel_rfl) (by kernel_rfl) (by kernel_rfl) (by kernel_rfl) (fun _ _ _ h=>h) (fun oi ho=>by cases ho;exact Or.inl ⟨by kernel_rfl,fun W hW=>by go_simp⟩) hHeld ?_
  go_frame
  refine takeD (i:=4) (d:=some 9) (v:=.func (.func 64) #[] #[.pointer (some ⟨w.heap.size,0,none⟩)]) (by kernel_rfl) (by kernel_rfl) (by kernel_rfl) (by kernel_rfl) (fun _ _ _ h=>h) (fun oi ho=>by cases ho;exact Or.inl ⟨by kernel_rfl,fun W hW=>by go_simp⟩) hHeld ?_
  go_frame
  refine wpAnyH_ready (rs:=[5]) (by kernel_rfl) (by simp) ?_
  refine AllReadyH.cons rfl (fun K hK=>?_) AllReadyH.nil
  go_simp
  refine(HC1.out _ (zt w1)).mono ?_
  rintro e w2 ⟨rfl,hb2⟩
  have HB2:Hid (Below w1.heap.size w1 w2):=(zt w1).trans hb2
  have HK2:=zh (HK.out _ HB2.out)
  clear hb2
  go_frame
  refine hK.out _ _ HK2.out (fun hHeld=>?_)
  clear hK
  refine takeD (i:=6) (d:=some 11) (v:=.bool false) (by kernel_rfl) (by kernel_rfl) (by kernel_rfl) (by kernel_rfl) (fun _ _ _ h=>h) (fun oi ho=>by cases ho;exact Or.inl ⟨by kernel_rfl,fun W hW=>by go_simp⟩) hHeld ?_
  go_frame
  refine takeD (i:=7) (d:=some 12) (v:=undef) (by kernel_rfl) (by kernel_rfl) (by kernel_rfl) (by kernel_rfl) (fun _ _ _ h=>h) (fun oi ho=>by cases ho;exact Or.inr ⟨by kernel_rfl,rfl⟩) hHeld ?_
  go_frame
  refine takeD (i:=8) (d:=some 13) (v:=undef) (by kernel_rfl) (by kernel_rfl) (by kernel_rfl) (by kernel_rfl) (fun _ _ _ h=>h) (fun oi ho=>by cases ho;exact Or.inr ⟨by kernel_rfl,rfl⟩) hHeld ?_
  go_frame
  refine takeD (i:=9) (d:=some 14) (v:=undef) (by kernel_rfl) (by kernel_rfl) (by kernel_rfl) (by kernel_rfl) (fun _ _ _ h=>h) (fun oi ho=>by cases ho;exact Or.inr ⟨by kernel_rfl,rfl⟩) hHeld ?_
  go_frame
  refine takeD (i:=10) (d:=some 15) (v:=undef) (by kernel_rfl) (by kernel_rfl) (by kernel_rfl) (by kernel_rfl) (fun _ _ _ h=>h) (fun oi ho=>by cases ho;exact Or.inr ⟨by kernel_rfl,rfl⟩) hHeld ?_
  go_frame
  refine takeD (i:=11) (d:=some 16) (v:=undef) (by kernel_rfl) (by kernel_rfl) (by kernel_rfl) (by kernel_rfl) (fun _ _ _ h=>h) (fun oi ho=>by cases ho;exact Or.inr ⟨by kernel_rfl,rfl⟩) hHeld ?_
  go_frame
  refine takeD (i:=12) (d:=some 17) (v:=undef) (by kernel_rfl) (by kernel_rfl) (by kernel_rfl) (by kernel_rfl) (fun _ _ _ h=>h) (fun oi ho=>by cases ho;exact Or.inr ⟨by kernel_rfl,rfl⟩) hHeld ?_
  go_frame
  refine takeD (i:=13) (d:=some 18) (v:=undef) (by kernel_rfl) (by kernel_rfl) (by kernel_rfl) (by kernel_rfl) (fun _ _ _ h=>h) (fun oi ho=>by cases ho;exact Or.inr ⟨by kernel_rfl,rfl⟩) hHeld ?_
  go_frame
  refine takeD (i:=14) (d:=some 19) (v:=undef) (by kernel_rfl) (by kernel_rfl) (by kernel_rfl) (by kernel_rfl) (fun _ _ _ h=>h) (fun oi ho=>by cases ho;exact Or.inr ⟨by kernel_rfl,rfl⟩) hHeld ?_
  go_frame
  refine takeD (i:=15) (d:=some 20) (v:=undef) (by kernel_rfl) (by kernel_rfl) (by kernel_rfl) (by kernel_rfl) (fun _ _ _ h=>h) (fun oi ho=>by cases ho;exact Or.inr ⟨by kernel_rfl,rfl⟩) hHeld ?_
  go_frame
  refine takeD (i:=16) (d:=some 21) (v:=undef) (by kernel_rfl) (by kernel_rfl) (by kernel_rfl) (by kernel_rfl) (fun _ _ _ h=>h) (fun oi ho=>by cases ho;exact Or.inr ⟨by kernel_rfl,rfl⟩) hHeld ?_
  go_frame
  refine takeD (i:=17) (d:=some 22) (v:=undef) (by kernel_rfl) (by kernel_rfl) (by kernel_rfl) (by kernel_rfl) (fun _ _ _ h=>h) (fun oi ho=>by cases ho;exact Or.inr ⟨by kernel_rfl,rfl⟩) hHeld ?_
  go_frame
  refine takeD (i:=18) (d:=some 23) (v:=.bool false) (by kernel_rfl) (by kernel_rfl) (by kernel_rfl) (by kernel_rfl) (fun _ _ _ h=>h) (fun oi ho=>by cases ho;exact Or.inl ⟨by kernel_rfl,fun W hW=>by go_simp⟩) hHeld ?_
  go_frame
  refine takeD (i:=19) (d:=some 24) (v:=.bool false) (by kernel_rfl) (by kernel_rfl) (by kernel_rfl) (by kernel_rfl) (fun _ _ _ h=>h) (fun oi ho=>by cases ho;exact Or.inl ⟨by kernel_rfl,fun W hW=>by go_simp⟩) hHeld ?_
  go_frame
  refine takeD (i:=20) (d:=some 25) (v:=undef) (by kernel_rfl) (by kernel_rfl) (by kernel_rfl) (by kernel_rfl) (fun _ _ _ h=>h) (fun oi ho=>by cases ho;exact Or.inr ⟨by kernel_rfl,rfl⟩) hHeld ?_
  go_frame
  refine takeD (i:=21) (d:=some 26) (v:=undef) (by kernel_rfl) (by kernel_rfl) (by kernel_rfl) (by kernel_rfl) (fun _ _ _ h=>h) (fun oi ho=>by cases ho;exact Or.inr ⟨by kernel_rfl,rfl⟩) hHeld ?_
  go_frame
  refine takeD (i:=22) (d:=some 27) (v:=undef) (by kernel_rfl) (by kernel_rfl) (by kernel_rfl) (by kernel_rfl) (fun _ _ _ h=>h) (fun oi ho=>by cases ho;exact Or.inr ⟨by kernel_rfl,rfl⟩) hHeld ?_
  go_frame
  refine takeD (i:=23) (d:=some 28) (v:=undef) (by kernel_rfl) (by kernel_rfl) (by kernel_rfl) (by kernel_rfl) (fun _ _ _ h=>h) (fun oi ho=>by cases ho;exact Or.inr ⟨by kernel_rfl,rfl⟩) hHeld ?_
  go_frame
  refine takeD (i:=24) (d:=some 29) (v:=undef) (by kernel_rfl) (by kernel_rfl) (by kernel_rfl) (by kernel_rfl) (fun _ _ _ h=>h) (fun oi ho=>by cases ho;exact Or.inr ⟨by kernel_rfl,rfl⟩) hHeld ?_
  go_frame
  refine takeD (i:=25) (d:=some 30) (v:=.bool false) (by kernel_rfl) (by kernel_rfl) (by kernel_rfl) (by kernel_rfl) (fun _ _ _ h=>h) (fun oi ho=>by cases ho;exact Or.inl ⟨by kernel_rfl,fun W hW=>by go_simp⟩) hHeld ?_
  go_frame
  refine takeD (i:=26) (d:=some 2) (v:=.bool false) (by kernel_rfl) (by kernel_rfl) (by kernel_rfl) (by kernel_rfl) (fun _ _ _ h=>h) (fun oi ho=>by cases ho;exact Or.inl ⟨by kernel_rfl,fun W hW=>by go_simp⟩) hHeld ?_
  go_frame
  refine wpAnyH_done (by kernel_rfl) ?_ _
  clear hHeld
  go_wp2_with fail
  go_ret
  exact⟨by rw[HV.out];rfl,HB0.out.trans (HB2.out.mono HB0.out.size)⟩
 | true =>
  by_cases hl:O.names.length=O.procs.length
  ·have he:((O.names.length:Int) == (O.procs.length:Int))=true:=by simp[hl]
   have HL:=zh hl
   cases b2 with
   | false =>
    have HV:Hid (r=false):=by
     show _=_
     rw[HR.out]
     simp[*]
    clear HR hl
    go_enter Tryz.func26,Tryz.ntmps26
    go_wp2_with fail
    rw[<-HW1.out]
    clear HW1
    go_region_held3 (fun w'=>w'.cell? ⟨w.heap.size,0,none⟩=some (.pointer (some ⟨b,o,none⟩))/\w'.cell? ⟨b,o+4,none⟩=some (.slice pa O.procs.length pc)/\w'.cell? ⟨b,o+5,none⟩=some (.slice na O.names.length nc)) (with_reducible (first|exact HK3.out|exact HK2.out|exact HK1.out)) (first|(go_at_call 66;refine(HC1.out _ (zt w1)).mono ?_;rintro e w2 ⟨rfl,hb2⟩;have HB2:Hid (Below w1.heap.size w1 w2):=(zt w1).trans hb2;have HK2:=zh (HK.out _ HB2.out);clear hb2)|(go_at_call 67;refine(HC2.out _ HB2.out).mono ?_;rintro e w3 ⟨rfl,hb3⟩;have HB3:Hid (Below w1.heap.size w1 w3):=HB2.out.trans (hb3.mono HB2.out.size);have HK3:=zh (HK.out _ HB3.out);clear hb3))
    go_wp2_with fail
    go_ret
    exact⟨by rw[HV.out];rfl,HB0.out.trans (HB3.out.mono HB0.out.size)⟩
   | true =>
    have HV:Hid (r=true):=by
     show _=_
     rw[HR.out]
     simp[*]
    clear HR hl
    go_enter Tryz.func26,Tryz.ntmps26
    go_wp2_with fail
    rw[<-HW1.out]
    clear HW1
    go_region_held3 (fun w'=>w'.cell? ⟨w.heap.size,0,none⟩=some (.pointer (some ⟨b,o,none⟩))/\w'.cell? ⟨b,o+4,none⟩=some (.slice pa O.procs.length pc)/\w'.cell? ⟨b,o+5,none⟩=some (.slice na O.names.length nc)) (with_reducible (first|exact HK3.out|exact HK2.out|exact HK1.out)) (first|(go_at_call 66;refine(HC1.out _ (zt w1)).mono ?_;rintro e w2 ⟨rfl,hb2⟩;have HB2:Hid (Below w1.heap.size w1 w2):=(zt w1).trans hb2;have HK2:=zh (HK.out _ HB2.out);clear hb2)|(go_at_call 67;refine(HC2.out _ HB2.out).mono ?_;rintro e w3 ⟨rfl,hb3⟩;have HB3:Hid (Below w1.heap.size w1 w3):=HB2.out.trans (hb3.mono HB2.out.size);have HK3:=zh (HK.out _ HB3.out);clear hb3))
    go_wp2_with fail
    go_ret
    exact⟨by rw[HV.out];rfl,HB0.out.trans (HB3.out.mono HB0.out.size)⟩
  ·have he:((O.names.length:Int) == (O.procs.length:Int))=false:=by simp;omega
   have HV:Hid (r=false):=by
    show _=_
    rw[HR.out]
    simp[*]
   clear HR
   go_enter Tryz.func26,Tryz.ntmps26
   go_wp2_with fail
   rw[<-HW1.out]
   clear HW1
   refine wp_region_held_drew (S:=(fun w'=>w'.cell? ⟨w.heap.size,0,none⟩=some (.pointer (some ⟨b,o,none⟩))/\w'.cell? ⟨b,o+4,none⟩=some (.slice pa O.procs.length pc)/\w'.cell? ⟨b,o+5,none⟩=some (.slice na O.names.length nc))) (by kernel_rfl) HK1.out (fun hHeld=>?_)
   refine takeD (i:=0) (d:=some 5) (v:=(.pointer (some ⟨b,o,none⟩))) (by kernel_rfl) (by kernel_rfl) (by kernel_rfl) (by kernel_rfl) (fun _ _ _ h=>h) (fun oi ho=>by cases ho;exact Or.inl ⟨by kernel_rfl,fun W hW=>by go_simp⟩) hHeld ?_
   go_frame
   refine takeD (i:=1) (d:=some 6) (v:=(.pointer (some ⟨b,o,none⟩))) (by kernel_rfl) (by kernel_rfl) (by kernel_rfl) (by kernel_rfl) (fun _ _ _ h=>h) (fun oi ho=>by cases ho;exact Or.inl ⟨by kernel_rfl,fun W hW=>by go_simp⟩) hHeld ?_
   go_frame
   refine takeD (i:=2) (d:=some 7) (v:=.pointer (some ⟨b,o+4,none⟩)) (by kernel_rfl) (by kernel_rfl) (by kernel_rfl) (by kernel_rfl) (fun _ _ _ h=>h) (fun oi ho=>by cases ho;exact Or.inl ⟨by kernel_rfl,fun W hW=>by go_simp⟩) hHeld ?_
   go_frame
   refine takeD (i:=3) (d:=some 8) (v:=.slice pa O.procs.length pc) (by kernel_rfl) (by kernel_rfl) (by kernel_rfl) (by kernel_rfl) (fun _ _ _ h=>h) (fun oi ho=>by cases ho;exact Or.inl ⟨by kernel_rfl,fun W hW=>by go_simp⟩) hHeld ?_
   go_frame
   refine takeD (i:=4) (d:=some 9) (v:=.func (.func 64) #[] #[.pointer (some ⟨w.heap.size,0,none⟩)]) (by kernel_rfl) (by kernel_rfl) (by kernel_rfl) (by kernel_rfl) (fun _ _ _ h=>h) (fun oi ho=>by cases ho;exact Or.inl ⟨by kernel_rfl,fun W hW=>by go_simp⟩) hHeld ?_
   go_frame
   refine wpAnyH_ready (rs:=[5]) (by kernel_rfl) (by simp) ?_
   refine AllReadyH.cons rfl (fun K hK=>?_) AllReadyH.nil
   go_simp
   refine(HC1.out _ (zt w1)).mono ?_
   rintro e w2 ⟨rfl,hb2⟩
   have HB2:Hid (Below w1.heap.size w1 w2):=(zt w1).trans hb2
   have HK2:=zh (HK.out _ HB2.out)
   clear hb2
   go_frame
   refine hK.out _ _ HK2.out (fun hHeld=>?_)
   clear hK
   refine takeD (i:=6) (d:=some 11) (v:=.bool true) (by kernel_rfl) (by kernel_rfl) (by kernel_rfl) (by kernel_rfl) (fun _ _ _ h=>h) (fun oi ho=>by cases ho;exact Or.inl ⟨by kernel_rfl,fun W hW=>by go_simp⟩) hHeld ?_
   go_frame
   refine takeD (i:=7) (d:=some 12) (v:=(.pointer (some ⟨b,o,none⟩))) (by kernel_rfl) (by kernel_rfl) (by kernel_rfl) (by kernel_rfl) (fun _ _ _ h=>h) (fun oi ho=>by cases ho;exact Or.inl ⟨by kernel_rfl,fun W hW=>by go_simp⟩) hHeld ?_
   go_frame
   refine takeD (i:=8) (d:=some 13) (v:=(.pointer (some ⟨b,o,none⟩))) (by kernel_rfl) (by kernel_rfl) (by kernel_rfl) (by kernel_rfl) (fun _ _ _ h=>h) (fun oi ho=>by cases ho;exact Or.inl ⟨by kernel_rfl,fun W hW=>by go_simp⟩) hHeld ?_
   go_frame
   refine takeD (i:=9) (d:=some 14) (v:=.pointer (some ⟨b,o+5,none⟩)) (by kernel_rfl) (by kernel_rfl) (by kernel_rfl) (by kernel_rfl) (fun _ _ _ h=>h) (fun oi ho=>by cases ho;exact Or.inl ⟨by kernel_rfl,fun W hW=>by go_simp⟩) hHeld ?_
   go_frame
   refine takeD (i:=10) (d:=some 15) (v:=.slice na O.names.length nc) (by kernel_rfl) (by kernel_rfl) (by kernel_rfl) (by kernel_rfl) (fun _ _ _ h=>h) (fun oi ho=>by cases ho;exact Or.inl ⟨by kernel_rfl,fun W hW=>by go_simp⟩) hHeld ?_
   go_frame
   refine takeD (i:=11) (d:=some 16) (v:=.int .i64 (O.names.length:Int)) (by kernel_rfl) (by kernel_rfl) (by kernel_rfl) (by kernel_rfl) (fun _ _ _ h=>h) (fun oi ho=>by cases ho;exact Or.inl ⟨by kernel_rfl,fun W hW=>by go_simp⟩) hHeld ?_
   go_frame
   refine takeD (i:=12) (d:=some 17) (v:=(.pointer (some ⟨b,o,none⟩))) (by kernel_rfl) (by kernel_rfl) (by kernel_rfl) (by kernel_rfl) (fun _ _ _ h=>h) (fun oi ho=>by cases ho;exact Or.inl ⟨by kernel_rfl,fun W hW=>by go_simp⟩) hHeld ?_
   go_frame
   refine takeD (i:=13) (d:=some 18) (v:=(.pointer (some ⟨b,o,none⟩))) (by kernel_rfl) (by kernel_rfl) (by kernel_rfl) (by kernel_rfl) (fun _ _ _ h=>h) (fun oi ho=>by cases ho;exact Or.inl ⟨by kernel_rfl,fun W hW=>by go_simp⟩) hHeld ?_
   go_frame
   refine takeD (i:=14) (d:=some 19) (v:=.pointer (some ⟨b,o+4,none⟩)) (by kernel_rfl) (by kernel_rfl) (by kernel_rfl) (by kernel_rfl) (fun _ _ _ h=>h) (fun oi ho=>by cases ho;exact Or.inl ⟨by kernel_rfl,fun W hW=>by go_simp⟩) hHeld ?_
   go_frame
   refine takeD (i:=15) (d:=some 20) (v:=.slice pa O.procs.length pc) (by kernel_rfl) (by kernel_rfl) (by kernel_rfl) (by kernel_rfl) (fun _ _ _ h=>h) (fun oi ho=>by cases ho;exact Or.inl ⟨by kernel_rfl,fun W hW=>by go_simp⟩) hHeld ?_
   go_frame
   refine takeD (i:=16) (d:=some 21) (v:=.int .i64 (O.procs.length:Int)) (by kernel_rfl) (by kernel_rfl) (by kernel_rfl) (by kernel_rfl) (fun _ _ _ h=>h) (fun oi ho=>by cases ho;exact Or.inl ⟨by kernel_rfl,fun W hW=>by go_simp⟩) hHeld ?_
   go_frame
   refine takeD (i:=17) (d:=some 22) (v:=.bool false) (by kernel_rfl) (by kernel_rfl) (by kernel_rfl) (by kernel_rfl) (fun _ _ _ h=>h) (fun oi ho=>by cases ho;exact Or.inl ⟨by kernel_rfl,fun W hW=>by go_simp⟩) hHeld ?_
   go_frame
   refine takeD (i:=18) (d:=some 23) (v:=.bool false) (by kernel_rfl) (by kernel_rfl) (by kernel_rfl) (by kernel_rfl) (fun _ _ _ h=>h) (fun oi ho=>by cases ho;exact Or.inl ⟨by kernel_rfl,fun W hW=>by go_simp⟩) hHeld ?_
   go_frame
   refine takeD (i:=19) (d:=some 24) (v:=.bool false) (by kernel_rfl) (by kernel_rfl) (by kernel_rfl) (by kernel_rfl) (fun _ _ _ h=>h) (fun oi ho=>by cases ho;exact Or.inl ⟨by kernel_rfl,fun W hW=>by go_simp⟩) hHeld ?_
   go_frame
   refine takeD (i:=20) (d:=some 25) (v:=undef) (by kernel_rfl) (by kernel_rfl) (by kernel_rfl) (by kernel_rfl) (fun _ _ _ h=>h) (fun oi ho=>by cases ho;exact Or.inr ⟨by kernel_rfl,rfl⟩) hHeld ?_
   go_frame
   refine takeD (i:=21) (d:=some 26) (v:=undef) (by kernel_rfl) (by kernel_rfl) (by kernel_rfl) (by kernel_rfl) (fun _ _ _ h=>h) (fun oi ho=>by cases ho;exact Or.inr ⟨by kernel_rfl,rfl⟩) hHeld ?_
   go_frame
   refine takeD (i:=22) (d:=some 27) (v:=undef) (by kernel_rfl) (by kernel_rfl) (by kernel_rfl) (by kernel_rfl) (fun _ _ _ h=>h) (fun oi ho=>by cases ho;exact Or.inr ⟨by kernel_rfl,rfl⟩) hHeld ?_
   go_frame
   refine takeD (i:=23) (d:=some 28) (v:=undef) (by kernel_rfl) (by kernel_rfl) (by kernel_rfl) (by kernel_rfl) (fun _ _ _ h=>h) (fun oi ho=>by cases ho;exact Or.inr ⟨by kernel_rfl,rfl⟩) hHeld ?_
   go_frame
   refine takeD (i:=24) (d:=some 29) (v:=undef) (by kernel_rfl) (by kernel_rfl) (by kernel_rfl) (by kernel_rfl) (fun _ _ _ h=>h) (fun oi ho=>by cases ho;exact Or.inr ⟨by kernel_rfl,rfl⟩) hHeld ?_
   go_frame
   refine takeD (i:=25) (d:=some 30) (v:=.bool false) (by kernel_rfl) (by kernel_rfl) (by kernel_rfl) (by kernel_rfl) (fun _ _ _ h=>h) (fun oi ho=>by cases ho;exact Or.inl ⟨by kernel_rfl,fun W hW=>by go_simp⟩) hHeld ?_
   go_frame
   refine takeD (i:=26) (d:=some 2) (v:=.bool false) (by kernel_rfl) (by kernel_rfl) (by kernel_rfl) (by kernel_rfl) (fun _ _ _ h=>h) (fun oi ho=>by cases ho;exact Or.inl ⟨by kernel_rfl,fun W hW=>by go_simp⟩) hHeld ?_
   go_frame
   refine wpAnyH_done (by kernel_rfl) ?_ _
   clear hHeld
   go_wp2_with fail
   go_ret
   exact⟨by rw[HV.out];rfl,HB0.out.trans (HB2.out.mono HB0.out.size)⟩
theorem yg {a b:Int}(h:a≠b):(a == b)=false:=by simpa using h
theorem uj {w:World}{b o:Nat}{O:Ob.O}{sa ua va pa na ca:Option Addr}{sc uc vc pc nc cc:Nat}(hV:OV w b o O sa ua va pa na ca sc uc vc pc nc cc) (op:Int) :
  Calls Tryz.prog 99 #[.pointer (some ⟨b,o,none⟩),.int .i64 op] w fun e w'=>e=.returned (.int .i64 (Ob.choices O op:Int))/\w'=w:=by
 have c3:=hV.c3
 have c6:=hV.c6
 have hbl:=zi hV.c0
 clear hV
 by_cases h3:op=3
 ·subst h3
  have HV:Hid (Ob.choices O 3=10):=by show _=_;simp[Ob.choices]
  generalize Ob.choices O 3=r at *
  go_enter Tryz.func99,Tryz.ntmps99
  go_wp2_with fail
  go_ret
  exact⟨by rw[HV.out];rfl,rfl⟩
 by_cases h4:op=4
 ·subst h4
  have HV:Hid (Ob.choices O 4=10):=by show _=_;simp[Ob.choices]
  generalize Ob.choices O 4=r at *
  go_enter Tryz.func99,Tryz.ntmps99
  go_wp2_with fail
  go_ret
  exact⟨by rw[HV.out];rfl,rfl⟩
 by_cases h6:op=6
 ·subst h6
  have HV:Hid (Ob.choices O 6=O.vars.length):=by show _=_;simp[Ob.choices]
  generalize Ob.choices O 6=r at *
  go_enter Tryz.func99,Tryz.ntmps99
  go_wp2_with fail
  go_ret
  exact⟨by rw[HV.out];rfl,rfl⟩
 by_cases h8:op=8
 ·subst h8
  have HV:Hid (Ob.choices O 8=O.vars.length):=by show _=_;simp[Ob.choices]
  generalize Ob.choices O 8=r at *
  go_enter Tryz.func99,Tryz.ntmps99
  go_wp2_with fail
  go_ret
  exact⟨by rw[HV.out];rfl,rfl⟩
 by_cases h9:op=9
 ·subst h9
  have HV:Hid (Ob.choices O 9=11):=by show _=_;simp[Ob.choices]
  generalize Ob.choices O 9=r at *
  go_enter Tryz.func99,Tryz.ntmps99
  go_wp2_with fail
  go_ret
  exact⟨by rw[HV.out];rfl,rfl⟩
 by_cases h12:op=12
 ·subst h12
  have HV:Hid (Ob.choices O 12=O.code.length):=by show _=_;simp[Ob.choices]
  generalize Ob.choices O 12=r at *
  go_enter Tryz.func99,Tryz.ntmps99
  go_wp2_with fail
  go_ret
  exact⟨by rw[HV.out];rfl,rfl⟩
 by_cases h13:op=13
 ·subst h13
  have HV:Hid (Ob.choices O 13=O.code.length):=by show _=_;simp[Ob.choices]
  generalize Ob.choices O 13=r at *
  go_enter Tryz.func99,Tryz.ntmps99
  go_wp2_with fail
  go_ret
  exact⟨by rw[HV.out];rfl,rfl⟩
 by_cases h2:op=2
 ·subst h2
  have HV:Hid (Ob.choices O 2=1):=by show _=_;simp[Ob.choices]
  generalize Ob.choices O 2=r at *
  go_enter Tryz.func99,Tryz.ntmps99
  go_wp2_with fail
  go_ret
  exact⟨by rw[HV.out];rfl,rfl⟩
 by_cases h10:op=10
 ·subst h10
  have HV:Hid (Ob.choices O 10=1):=by show _=_;simp[Ob.choices]
  generalize Ob.choices O 10=r at *
  go_enter Tryz.func99,Tryz.ntmps99
  go_wp2_with fail
  go_ret
  exact⟨by rw[HV.out];rfl,rfl⟩
 by_cases h11:op=11
 ·subst h11
  have HV:Hid (Ob.choices O 11=1):=by show _=_;simp[Ob.choices]
  generalize Ob.choices O 11=r at *
  go_enter Tryz.func99,Tryz.ntmps99
  go_wp2_with fail
  go_ret
  exact⟨by rw[HV.out];rfl,rfl⟩
 by_cases h15:op=15
 ·subst h15
  have HV:Hid (Ob.choices O 15=1):=by show _=_;simp[Ob.choices]
  generalize Ob.choices O 15=r at *
  go_enter Tryz.func99,Tryz.ntmps99
  go_wp2_with fail
  go_ret
  exact⟨by rw[HV.out];rfl,rfl⟩
 by_cases h16:op=16
 ·subst h16
  have HV:Hid (Ob.choices O 16=1):=by show _=_;simp[Ob.choices]
  generalize Ob.choices O 16=r at *
  go_enter Tryz.func99,Tryz.ntmps99
  go_wp2_with fail
  go_ret
  exact⟨by rw[HV.out];rfl,rfl⟩
 by_cases h17:op=17
 ·subst h17
  have HV:Hid (Ob.choices O 17=1):=by show _=_;simp[Ob.choices]
  generalize Ob.choices O 17=r at *
  go_enter Tryz.func99,Tryz.ntmps99
  go_wp2_with fail
  go_ret
  exact⟨by rw[HV.out];rfl,rfl⟩
 have HV:Hid (Ob.choices O op=0):=by show _=_;simp[Ob.choices, *]
 generalize Ob.choices O op=r at *
 replace h3:=yg h3
 replace h4:=yg h4
 replace h6:=yg h6
 replace h8:=yg h8
 replace h9:=yg h9
 replace h12:=yg h12
 replace h13:=yg h13
 replace h2:=yg h2
 replace h10:=yg h10
 replace h11:=yg h11
 replace h15:=yg h15
 replace h16:=yg h16
 replace h17:=yg h17
 go_enter Tryz.func99,Tryz.ntmps99
 go_wp2_with fail
 go_ret
 exact⟨by rw[HV.out];rfl,rfl⟩
theorem vT {w:World}{b o:Nat}{O:Ob.O}{sa ua va pa na ca:Option Addr}{sc uc vc pc nc cc:Nat}(hV:OV w b o O sa ua va pa na ca sc uc vc pc nc cc) (hu:O.uses.length<=1000000) (x:Ob.In) (own:Nat) :
  Calls Tryz.prog 98 #[.pointer (some ⟨b,o,none⟩),.agg #[.int .i64 x.op,.int .i64 x.a,.int .i64 x.b],.int .i64 (own:Int)] w fun e w'=>e=.returned (.bool (Ob.reachB O x own))/\Below w.heap.size w w':=by
 have hbl:=zi hV.c0
 obtain⟨w1,hw1⟩:∃ w1,w1=w.alloc (.cells #[.int .i64 x.op,.int .i64 x.a,.int .i64 x.b] 68):=⟨_,rfl⟩
 have hb0:Below w.heap.size w w1:=by rw[hw1];exact zb _ _
 have hblk:w1.heap[w.heap.size]?=some (.cells #[.int .i64 x.op,.int .i64 x.a,.int .i64 x.b] 68 (0,0)):=by rw[hw1];exact zw _ _
 have hsz:w.heap.size<w1.heap.size:=zk hblk
 have k0:w1.cell? ⟨w.heap.size,0,none⟩=some (.int .i64 x.op):=zc hblk
 have k1:w1.cell? ⟨w.heap.size,1,none⟩=some (.int .i64 x.a):=zc hblk
 have k2:w1.cell? ⟨w.heap.size,2,none⟩=some (.int .i64 x.b):=zc hblk
 have hV1:=hV.below hb0
 have u2:=hV1.c2
 have HB0:=zh hb0
 have HW1:=zh hw1
 have HU:=zh hV1.u
 have hu':(O.uses.length:Int)<=1000000:=by omega
 clear hw1 hb0 hblk hV hV1
 by_cases hb:x.b=-1
 ·have hbe:(x.b == -1)=true:=by simp[hb]
  have HV:Hid (Ob.reachB O x own=Ob.countsB x.a own):=by show _=_;unfold Ob.reachB;rw[if_pos hb]
  have HC:=zh (yT w1 x.a own)
  generalize Ob.reachB O x own=r at *
  generalize Ob.countsB x.a own=d at *
  generalize x.a=xa at *
  generalize x.b=xb at *
  generalize x.op=xo at *
  clear hb
  go_enter Tryz.func98,Tryz.ntmps98
  go_wp2_with fail
  rw[<-HW1.out]
  clear HW1
  refine HC.out.mono ?_
  rintro e wq ⟨rfl,hwq⟩
  rw[hwq]
  clear hwq
  go_wp2_with fail
  go_ret
  exact⟨by rw[HV.out];rfl,HB0.out⟩
 ·have hbe:(x.b == -1)=false:=by simpa using hb
  have HC1:Hid (∀ W,Calls Tryz.prog 65 #[.int .i64 x.b,.int .i64 (O.uses.length:Int)] W fun e w'=>e=.returned (.bool (Ob.countsB x.b O.uses.length))/\w'=W):=fun W=>yT W x.b O.uses.length
  by_cases hcb:Ob.countsB x.b O.uses.length=true
  ·have hr:0<=x.b/\x.b<(O.uses.length:Int):=by
    simp only [Ob.countsB,Bool.and_eq_true,decide_eq_true_eq]at hcb;exact hcb
   obtain⟨i,hi⟩:∃ i:Nat,x.b=(i:Int):=⟨x.b.toNat,by omega⟩
   have hil:i<O.uses.length:=by omega
   have HV:Hid (Ob.reachB O x own=Ob.countsB x.a O.uses[i].names.length):=by
    show _=_
    unfold Ob.reachB
    rw[if_neg hb,hcb,Bool.true_and,hi,Int.toNat_natCast,List.getElem?_eq_getElem hil]
    rfl
   have e1:=hcb
   obtain⟨ucs,hU1,hU2⟩:=HU.out
   obtain⟨na',nc',q0,q1,q2,q3⟩:=RepN.get _ _ hU1 i hil
   obtain⟨a0,c0',hsl0,_,hall⟩:=hU2
   cases hsl0
   obtain⟨g,go,rfl,hg2⟩:=hall _ _ q2
   have e2:w1.cell? ⟨g,go+i * 3+2,none⟩=some (.slice na' O.uses[i].names.length nc'):=hg2
   have hgl:=zi hg2
   have hil':(i:Int)<(O.uses.length:Int):=by omega
   have hi0:(0:Int)<=(i:Int):=by omega
   generalize Ob.reachB O x own=r at *
   obtain⟨d,hd⟩:∃ d,Ob.countsB x.a O.uses[i].names.length=d:=⟨_,rfl⟩
   rw[hd]at HV
   generalize O.uses[i].names.length=nn at *
   generalize x.a=xa at *
   generalize x.op=xo at *
   clear hb hcb hr hall HC1 q0 q1 q2 q3 hg2 hU1 HU
   rw[hi]at e1 k2 hbe HW1 ⊢
   clear hi
   cases d
   all_goals
    go_enter Tryz.func98,Tryz.ntmps98
    go_wp2_with fail
    rw[<-HW1.out]
    clear HW1
    go_quiet ((go_at_call 65;exact Calls.quiet_of_same (yT _ _ _)))
    go_wp2_with fail
    go_ret
    exact⟨by rw[HV.out];rfl,HB0.out.trans ((below_drewN _ _).mono HB0.out.size)⟩
  ·have hcf:Ob.countsB x.b O.uses.length=false:=by simpa using hcb
   have HV:Hid (Ob.reachB O x own=false):=by
    show _=_
    unfold Ob.reachB
    rw[if_neg hb,hcf,Bool.false_and]
   rw[hcf]at HC1
   generalize Ob.reachB O x own=r at *
   generalize x.a=xa at *
   generalize x.op=xo at *
   generalize x.b=xb at *
   clear hb hcb hcf HU
   go_enter Tryz.func98,Tryz.ntmps98
   go_wp2_with fail
   rw[<-HW1.out]
   clear HW1
   go_quiet ((go_at_call 65;exact Calls.quiet_of_same (HC1.out _)))
   go_wp2_with fail
   go_ret
   exact⟨by rw[HV.out];rfl,HB0.out.trans ((below_drewN _ _).mono HB0.out.size)⟩
end Go.Proofs.YtmnedfdffbbchaaGreatDoor.Jo
