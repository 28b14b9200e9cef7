import Derived.Test.YtmnedfdffbbchaaGreatDoorKJc
import Derived.Lib.ConvBytes
import Derived.Deep.Fields
import Derived.Deep.Slices
import Derived.Deep.Strs
set_option maxRecDepth 100000
set_option maxHeartbeats 4000000

namespace Go.Proofs.YtmnedfdffbbchaaGreatDoor.Jo
open Go.RowKit
open Ob (Bs)
theorem inst_r {w:World}{b o:Nat}{O:Ob.O}{sa ua va pa na ca:Option Addr}{sc uc vc pc nc cc:Nat}(hV:OV w b o O sa ua va pa na ca sc uc vc pc nc cc) (hu:O.uses.length<=1000000) (x:Ob.In) :
  Calls Tryz.prog 70 #[.pointer (some ⟨b,o,none⟩),.agg #[.int .i64 x.op,.int .i64 x.a,.int .i64 x.b]] w fun e w'=>e=.returned (.bool (Ob.instB O x))/\Below w.heap.size w w':=by
 have hbl:=zi hV.c0
 obtain⟨w1,hw1⟩:∃ w1,w1=w.alloc (.cells #[.int .i64 x.op,.int .i64 x.a,.int .i64 x.b] 68):=⟨_,rfl⟩
 have hb0:Below w.heap.size w w1:=by rw[hw1];exact zb _ _
 have hblk:w1.heap[w.heap.size]?=some (.cells #[.int .i64 x.op,.int .i64 x.a,.int .i64 x.b] 68 (0,0)):=by rw[hw1];exact zw _ _
 have hsz:w.heap.size<w1.heap.size:=zk hblk
 have hV1:=hV.below hb0
 have k0:w1.cell? ⟨w.heap.size,0,none⟩=some (.int .i64 x.op):=zc hblk
 have k1:w1.cell? ⟨w.heap.size,1,none⟩=some (.int .i64 x.a):=zc hblk
 have k2:w1.cell? ⟨w.heap.size,2,none⟩=some (.int .i64 x.b):=zc hblk
 have HK:Hid (∀ W,Below w1.heap.size w1 W->W.cell? ⟨w.heap.size,0,none⟩=some (.int .i64 x.op)/\W.cell? ⟨w.heap.size,1,none⟩=some (.int .i64 x.a)/\W.cell? ⟨w.heap.size,2,none⟩=some (.int .i64 x.b)/\W.cell? ⟨b,o+3,none⟩=some (.slice va O.vars.length vc)/\W.cell? ⟨b,o+4,none⟩=some (.slice pa O.procs.length pc)) :=
  fun W hW=>⟨(hW.cell (p:=⟨w.heap.size,0,none⟩) hsz).trans k0,(hW.cell (p:=⟨w.heap.size,1,none⟩) hsz).trans k1,(hW.cell (p:=⟨w.heap.size,2,none⟩) hsz).trans k2,(hV1.below hW).c3,(hV1.below hW).c4⟩
 have HCR:Hid (∀ W own,Below w1.heap.size w1 W->Calls Tryz.prog 98 #[.pointer (some ⟨b,o,none⟩),.agg #[.int .i64 x.op,.int .i64 x.a,.int .i64 x.b],.int .i64 ((own:Nat):Int)] W fun e w'=>e=.returned (.bool (Ob.reachB O x own))/\Below W.heap.size W w'):=fun W own hW=>vT (hV1.below hW) hu x own
 have HV1:=zh hV1
 have HB0:=zh hb0
 have HW1:=zh hw1
 have hbl1:b<w1.heap.size:=Nat.lt_of_lt_of_le hbl hb0.size
 clear hw1 hb0 hblk hV hV1
 by_cases h5:x.op=5
 ·have HV:Hid (Ob.instB O x=Ob.reachB O x O.vars.length):=by show _=_;unfold Ob.instB;simp[h5]
  have HC:=zh (fun W hW=>HCR.out W O.vars.length hW)
  rw[h5]at HK HC HW1 k0 ⊢
  generalize Ob.instB O x=r at *
  generalize Ob.reachB O x O.vars.length=d at *
  clear HCR HV1 h5
  generalize x.a=xa at *
  generalize x.b=xb at *
  have HK1:=zh (HK.out _ (zt w1))
  obtain⟨_,_,_,f3,f4⟩:=HK.out w1 (Below.refl _ _)
  go_enter Tryz.func70,Tryz.ntmps70
  go_wp2_with fail
  rw[<-HW1.out]
  clear HW1
  go_region_held3 (fun w'=>w'.cell? ⟨w.heap.size,0,none⟩=some (.int .i64 5)/\w'.cell? ⟨w.heap.size,1,none⟩=some (.int .i64 xa)/\w'.cell? ⟨w.heap.size,2,none⟩=some (.int .i64 xb)/\w'.cell? ⟨b,o+3,none⟩=some (.slice va O.vars.length vc)/\w'.cell? ⟨b,o+4,none⟩=some (.slice pa O.procs.length pc)) (with_reducible (first|exact HK2.out|exact HK1.out)) (first|(go_at_call 98;refine(HC.out _ (zt w1)).mono ?_;rintro e w2 ⟨rfl,hb2⟩;have HB2:Hid (Below w1.heap.size w1 w2):=(zt w1).trans hb2;have HK2:=zh (HK.out _ HB2.out);clear hb2))
  go_wp2_with fail
  go_ret
  exact⟨by rw[HV.out];rfl,HB0.out.trans (HB2.out.mono HB0.out.size)⟩
 by_cases h7:x.op=7
 ·have HV:Hid (Ob.instB O x=Ob.reachB O x O.vars.length):=by show _=_;unfold Ob.instB;simp[h7]
  have HC:=zh (fun W hW=>HCR.out W O.vars.length hW)
  rw[h7]at HK HC HW1 k0 ⊢
  generalize Ob.instB O x=r at *
  generalize Ob.reachB O x O.vars.length=d at *
  clear HCR HV1 h7
  generalize x.a=xa at *
  generalize x.b=xb at *
  have HK1:=zh (HK.out _ (zt w1))
  obtain⟨_,_,_,f3,f4⟩:=HK.out w1 (Below.refl _ _)
  go_enter Tryz.func70,Tryz.ntmps70
  go_wp2_with fail
  rw[<-HW1.out]
  clear HW1
  go_region_held3 (fun w'=>w'.cell? ⟨w.heap.size,0,none⟩=some (.int .i64 7)/\w'.cell? ⟨w.heap.size,1,none⟩=some (.int .i64 xa)/\w'.cell? ⟨w.heap.size,2,none⟩=some (.int .i64 xb)/\w'.cell? ⟨b,o+3,none⟩=some (.slice va O.vars.length vc)/\w'.cell? ⟨b,o+4,none⟩=some (.slice pa O.procs.length pc)) (with_reducible (first|exact HK2.out|exact HK1.out)) (first|(go_at_call 98;refine(HC.out _ (zt w1)).mono ?_;rintro e w2 ⟨rfl,hb2⟩;have HB2:Hid (Below w1.heap.size w1 w2):=(zt w1).trans hb2;have HK2:=zh (HK.out _ HB2.out);clear hb2))
  go_wp2_with fail
  go_ret
  exact⟨by rw[HV.out];rfl,HB0.out.trans (HB2.out.mono HB0.out.size)⟩
 by_cases h14:x.op=14
 ·have HV:Hid (Ob.instB O x=Ob.reachB O x O.procs.length):=by show _=_;unfold Ob.instB;simp[h14]
  have HC:=zh (fun W hW=>HCR.out W O.procs.length hW)
  rw[h14]at HK HC HW1 k0 ⊢
  generalize Ob.instB O x=r at *
  generalize Ob.reachB O x O.procs.length=d at *
  clear HCR HV1 h14
  generalize x.a=xa at *
  generalize x.b=xb at *
  have HK1:=zh (HK.out _ (zt w1))
  obtain⟨_,_,_,f3,f4⟩:=HK.out w1 (Below.refl _ _)
  go_enter Tryz.func70,Tryz.ntmps70
  go_wp2_with fail
  rw[<-HW1.out]
  clear HW1
  go_region_held3 (fun w'=>w'.cell? ⟨w.heap.size,0,none⟩=some (.int .i64 14)/\w'.cell? ⟨w.heap.size,1,none⟩=some (.int .i64 xa)/\w'.cell? ⟨w.heap.size,2,none⟩=some (.int .i64 xb)/\w'.cell? ⟨b,o+3,none⟩=some (.slice va O.vars.length vc)/\w'.cell? ⟨b,o+4,none⟩=some (.slice pa O.procs.length pc)) (with_reducible (first|exact HK2.out|exact HK1.out)) (first|(go_at_call 98;refine(HC.out _ (zt w1)).mono ?_;rintro e w2 ⟨rfl,hb2⟩;have HB2:Hid (Below w1.heap.size w1 w2):=(zt w1).trans hb2;have HK2:=zh (HK.out _ HB2.out);clear hb2))
  go_wp2_with fail
  go_ret
  exact⟨by rw[HV.out];rfl,HB0.out.trans (HB2.out.mono HB0.out.size)⟩
 by_cases h1:x.op=1
 ·have HK':=HK.out w1 (Below.refl _ _)
  by_cases hb:x.b=0
  ·have hbe:(x.b == 0)=true:=by simp[hb]
   have HV:Hid (Ob.instB O x=true):=by show _=_;unfold Ob.instB;simp[h1,hb]
   rw[h1]at HW1 k0 ⊢
   generalize Ob.instB O x=r at *
   clear HCR HV1 h1 hb HK HK'
   generalize x.a=xa at *
   generalize x.b=xb at *
   go_enter Tryz.func70,Tryz.ntmps70
   go_wp2_with fail
   go_ret
   rw[<-HW1.out]
   exact⟨by rw[HV.out];rfl,HB0.out⟩
  ·have hbe:(x.b == 0)=false:=by simpa using hb
   have HV:Hid (Ob.instB O x=false):=by show _=_;unfold Ob.instB;simp[h1,hb]
   rw[h1]at HW1 k0 ⊢
   generalize Ob.instB O x=r at *
   clear HCR HV1 h1 hb HK HK'
   generalize x.a=xa at *
   generalize x.b=xb at *
   go_enter Tryz.func70,Tryz.ntmps70
   go_wp2_with fail
   go_ret
   rw[<-HW1.out]
   exact⟨by rw[HV.out];rfl,HB0.out⟩
 have HD:Hid (Ob.instB O x=(decide (x.b=0) && Ob.countsB x.a (Ob.choices O x.op))):=by show _=_;unfold Ob.instB;rw[if_neg (by omega),if_neg h14,if_neg h1]
 have q5:=yg h5
 have q7:=yg h7
 have q14:=yg h14
 have q1:=yg h1
 have HCC:Hid (∀ W,Below w1.heap.size w1 W->Calls Tryz.prog 99 #[.pointer (some ⟨b,o,none⟩),.int .i64 x.op] W fun e w'=>e=.returned (.int .i64 (Ob.choices O x.op:Int))/\w'=W):=fun W hW=>uj (HV1.out.below hW) x.op
 generalize Ob.instB O x=r at *
 generalize Ob.choices O x.op=nch at *
 generalize x.a=xa at *
 generalize x.op=xo at *
 clear HCR HV1 HK h5 h7 h14 h1
 by_cases hb:x.b=0
 ·have hbe:(x.b == 0)=true:=by simp[hb]
  obtain⟨d,hd⟩:∃ d,Ob.countsB xa nch=d:=⟨_,rfl⟩
  have HV:Hid (r=d):=by show _=_;rw[HD.out,hd,decide_eq_true hb,Bool.true_and]
  clear HD hb
  generalize x.b=xb at *
  cases d
  all_goals
   go_enter Tryz.func70,Tryz.ntmps70
   go_wp2_with fail
   rw[<-HW1.out]
   clear HW1
   go_quiet ((first|(go_at_call 99;exact Calls.quiet_of_same (HCC.out _ (below_drewN _ _)))|(go_at_call 65;exact Calls.quiet_of_same (yT _ _ _))))
   go_wp2_with fail
   go_ret
   exact⟨by rw[HV.out];rfl,HB0.out.trans ((below_drewN _ _).mono HB0.out.size)⟩
 ·have hbe:(x.b == 0)=false:=by simpa using hb
  have HV:Hid (r=false):=by show _=_;rw[HD.out,decide_eq_false hb,Bool.false_and]
  clear HD hb
  generalize x.b=xb at *
  go_enter Tryz.func70,Tryz.ntmps70
  go_wp2_with fail
  rw[<-HW1.out]
  clear HW1
  go_quiet (fail)
  go_wp2_with fail
  go_ret
  exact⟨by rw[HV.out];rfl,HB0.out.trans ((below_drewN _ _).mono HB0.out.size)⟩
theorem cfInst (args:Array Value) (w:World):(callFunc 69 args).run Tryz.prog w=.ok (.enter 69 args) w:=by kernel_rfl
theorem instOf_r {w:World}{b o cb:Nat}{O:Ob.O}{sa ua va pa na ca:Option Addr}{sc uc vc pc nc cc:Nat}(hcb:w.cell? ⟨cb,0,none⟩=some (.pointer (some ⟨b,o,none⟩))) (hV:OV w b o O sa ua va pa na ca sc uc vc pc nc cc) (hu:O.uses.length<=1000000) (x:Ob.In) :
  Calls Tryz.prog 69 #[.agg #[.int .i64 x.op,.int .i64 x.a,.int .i64 x.b],.pointer (some ⟨cb,0,none⟩)] w fun e w'=>e=.returned (.bool (Ob.instB O x))/\Below w.heap.size w w':=by
 have hcl:=zi hcb
 have hb0:Below w.heap.size w (w.alloc (.cells #[.int .i64 x.op,.int .i64 x.a,.int .i64 x.b] 68)):=zb _ _
 have HB0:=zh hb0
 have HC:=zh (inst_r (hV.below hb0) hu x)
 clear hV hb0
 generalize Ob.instB O x=d at *
 go_enter Tryz.func69,Tryz.ntmps69
 go_wp2_with fail
 refine HC.out.mono ?_
 rintro e w1 ⟨rfl,h1⟩
 have HB:=zh (HB0.out.trans (h1.mono HB0.out.size))
 clear h1
 go_wp2_with fail
 go_ret
 exact⟨rfl,HB.out⟩
theorem lastB_eq {O:Ob.O}{k:Nat}{x:Ob.In}(h:O.code.length=k+1) (hx:O.code[k]?=some x):Ob.lastB O=(decide (x.op=12) || (decide (x.op=15) || decide (x.op=17))):=by
 unfold Ob.lastB
 have e:O.code.getLast?=some x:=by
  rw[List.getLast?_eq_getElem?,h]
  exact hx
 rw[e]
theorem code_r {w:World}{b o:Nat}{O:Ob.O}{sa ua va pa na ca:Option Addr}{sc uc vc pc nc cc:Nat}(hV:OV w b o O sa ua va pa na ca sc uc vc pc nc cc) (hB:Bd O) :
  Calls Tryz.prog 27 #[.pointer (some ⟨b,o,none⟩)] w fun e w'=>e=.returned (.bool (Ob.codeB O))/\Below w.heap.size w w':=by
 have hmf:=zm
 have hbl:=zi hV.c0
 obtain⟨w1,hw1⟩:∃ w1,w1=w.alloc (.cells #[.pointer (some ⟨b,o,none⟩)] 22):=⟨_,rfl⟩
 have hb0:Below w.heap.size w w1:=by rw[hw1];exact zb _ _
 have hblk:w1.heap[w.heap.size]?=some (.cells #[.pointer (some ⟨b,o,none⟩)] 22 (0,0)):=by rw[hw1];exact zw _ _
 have hsz:w.heap.size<w1.heap.size:=zk hblk
 have kb:w1.cell? ⟨w.heap.size,0,none⟩=some (.pointer (some ⟨b,o,none⟩)):=zc hblk
 have hV1:=hV.below hb0
 have HB0:=zh hb0
 have HW1:=zh hw1
 clear hw1
 have c6:=hV.c6
 have hbl1:b<w1.heap.size:=Nat.lt_of_lt_of_le hbl hb0.size
 have HK:Hid (∀ W,Below w1.heap.size w1 W->W.cell? ⟨w.heap.size,0,none⟩=some (.pointer (some ⟨b,o,none⟩))/\W.cell? ⟨b,o+6,none⟩=some (.slice ca O.code.length cc)) :=
  fun W hW=>⟨(hW.cell (p:=⟨w.heap.size,0,none⟩) hsz).trans kb,(hV1.below hW).c6⟩
 have HC1:Hid (∀ W,Below w1.heap.size w1 W->Calls Tryz.prog 68 #[.slice ca O.code.length cc,.int .i64 4000,.func (.func 69) #[] #[.pointer (some ⟨w.heap.size,0,none⟩)]] W fun e w'=>e=.returned (.bool (Ob.allB (Ob.instB O) 4000 O.code))/\Below W.heap.size W w') :=
  fun W hW=>allIn (hV1.below hW).c (by have:=hB.cl;omega) 4000 (by omega) cfInst (fun W' y hy hW'=>instOf_r ((hW'.cell (p:=⟨w.heap.size,0,none⟩) (show w.heap.size<W.heap.size by have:=hW.size;omega)).trans ((hW.cell (p:=⟨w.heap.size,0,none⟩) hsz).trans kb)) ((hV1.below hW).below hW') hB.ul y)
 have HCL:=zh hV1.c
 have HR:Hid (Ob.codeB O=(Ob.allB (Ob.instB O) 4000 O.code && Ob.lastB O)):=rfl
 have hcl:=hB.cl
 generalize Ob.codeB O=r at *
 generalize Ob.allB (Ob.instB O) 4000 O.code=b1 at *
 clear hB hV1 hblk hb0 hV
 by_cases h0:O.code.length=0
 ·have h0':((O.code.length:Int) == 0)=true:=by simp[h0]
  have HV:Hid (r=false):=by
   show _=_
   rw[HR.out]
   have e:Ob.lastB O=false:=by unfold Ob.lastB;rw[List.eq_nil_of_length_eq_zero h0];rfl
   rw[e,Bool.and_false]
  clear HR HC1 HCL HK h0 HW1 kb
  go_enter Tryz.func27,Tryz.ntmps27
  go_wp2_with fail
  go_ret
  exact⟨by rw[HV.out];rfl,zb _ _⟩
 ·have h0':((O.code.length:Int) == 0)=false:=yg (by omega)
  obtain⟨k,hk⟩:∃ k,O.code.length=k+1:=⟨O.code.length - 1,by omega⟩
  have HL:=zh (lastB_eq hk (List.getElem?_eq_getElem (show k<O.code.length by omega)))
  obtain⟨g,go,rfl,hgl,hcell⟩:=HCL.out.at' jn (by omega) k (by omega)
  have e0:w1.cell? ⟨g,go+k * 3,none⟩=some (.int .i64 (O.code[k]'(show k<O.code.length by omega)).op):=hcell 0 _ rfl
  clear hcell HCL
  rw[HL.out]at HR
  clear HL
  generalize (O.code[k]'(show k<O.code.length by omega)).op=xo at *
  rw[hk]at h0' HK HC1 c6 hcl
  clear hk h0
  have hkc:(k:Int)<=1000000:=by omega
  cases b1 with
  | false =>
   have HV:Hid (r=false):=HR
   clear HR
   go_enter Tryz.func27,Tryz.ntmps27
   go_wp2_with fail
   rw[<-HW1.out]
   clear HW1
   refine(HC1.out _ (Below.refl _ _)).mono ?_
   rintro e w2 ⟨rfl,hb2⟩
   have HB2:=zh hb2
   clear hb2
   go_wp2_with fail
   go_ret
   exact⟨by rw[HV.out];rfl,HB0.out.trans (HB2.out.mono HB0.out.size)⟩
  | true =>
   have HV:Hid (r=(decide (xo=12) || (decide (xo=15) || decide (xo=17)))):=HR
   clear HR
   by_cases h12:xo=12
   ·have q:(xo == 12)=true:=by simp[h12]
    have HX:Hid (r=true):=by show _=_;rw[HV.out];simp[h12]
    clear HV h12
    go_enter Tryz.func27,Tryz.ntmps27
    go_wp2_with fail
    rw[<-HW1.out]
    clear HW1
    refine(HC1.out _ (Below.refl _ _)).mono ?_
    rintro e w2 ⟨rfl,hb2⟩
    have HB2:=zh hb2
    obtain⟨f0,f1⟩:=HK.out w2 hb2
    have hz1:w.heap.size<w2.heap.size:=Nat.lt_of_lt_of_le hsz hb2.size
    have hz2:b<w2.heap.size:=Nat.lt_of_lt_of_le hbl1 hb2.size
    have hz3:g<w2.heap.size:=Nat.lt_of_lt_of_le hgl hb2.size
    have f2:w2.cell? ⟨g,go+k * 3,none⟩=some (.int .i64 xo):=(hb2.cell (p:=⟨g,go+k * 3,none⟩) hgl).trans e0
    clear hb2 e0 kb
    go_wp2_with fail
    go_quiet (fail)
    go_wp2_with fail
    go_ret
    exact⟨by rw[HX.out];rfl,HB0.out.trans ((HB2.out.trans ((below_drewN _ _).mono HB2.out.size)).mono HB0.out.size)⟩
   ·have q12:=yg h12
    by_cases h15:xo=15
    ·have q:(xo == 15)=true:=by simp[h15]
     have HX:Hid (r=true):=by show _=_;rw[HV.out];simp[h15]
     clear HV h15
     go_enter Tryz.func27,Tryz.ntmps27
     go_wp2_with fail
     rw[<-HW1.out]
     clear HW1
     refine(HC1.out _ (Below.refl _ _)).mono ?_
     rintro e w2 ⟨rfl,hb2⟩
     have HB2:=zh hb2
     obtain⟨f0,f1⟩:=HK.out w2 hb2
     have hz1:w.heap.size<w2.heap.size:=Nat.lt_of_lt_of_le hsz hb2.size
     have hz2:b<w2.heap.size:=Nat.lt_of_lt_of_le hbl1 hb2.size
     have hz3:g<w2.heap.size:=Nat.lt_of_lt_of_le hgl hb2.size
     have f2:w2.cell? ⟨g,go+k * 3,none⟩=some (.int .i64 xo):=(hb2.cell (p:=⟨g,go+k * 3,none⟩) hgl).trans e0
     clear hb2 e0 kb
     go_wp2_with fail
     go_quiet (fail)
     go_wp2_with fail
     go_ret
     exact⟨by rw[HX.out];rfl,HB0.out.trans ((HB2.out.trans ((below_drewN _ _).mono HB2.out.size)).mono HB0.out.size)⟩
    ·have q15:=yg h15
     by_cases h17:xo=17
     ·have q:(xo == 17)=true:=by simp[h17]
      have HX:Hid (r=true):=by show _=_;rw[HV.out];simp[h17]
      clear HV h17
      go_enter Tryz.func27,Tryz.ntmps27
      go_wp2_with fail
      rw[<-HW1.out]
      clear HW1
      refine(HC1.out _ (Below.refl _ _)).mono ?_
      rintro e w2 ⟨rfl,hb2⟩
      have HB2:=zh hb2
      obtain⟨f0,f1⟩:=HK.out w2 hb2
      have hz1:w.heap.size<w2.heap.size:=Nat.lt_of_lt_of_le hsz hb2.size
      have hz2:b<w2.heap.size:=Nat.lt_of_lt_of_le hbl1 hb2.size
      have hz3:g<w2.heap.size:=Nat.lt_of_lt_of_le hgl hb2.size
      have f2:w2.cell? ⟨g,go+k * 3,none⟩=some (.int .i64 xo):=(hb2.cell (p:=⟨g,go+k * 3,none⟩) hgl).trans e0
      clear hb2 e0 kb
      go_wp2_with fail
      go_quiet (fail)
      go_wp2_with fail
      go_ret
      exact⟨by rw[HX.out];rfl,HB0.out.trans ((HB2.out.trans ((below_drewN _ _).mono HB2.out.size)).mono HB0.out.size)⟩
     ·have q17:=yg h17
      have HX:Hid (r=false):=by show _=_;rw[HV.out];simp[h12,h15,h17]
      clear HV
      go_enter Tryz.func27,Tryz.ntmps27
      go_wp2_with fail
      rw[<-HW1.out]
      clear HW1
      refine(HC1.out _ (Below.refl _ _)).mono ?_
      rintro e w2 ⟨rfl,hb2⟩
      have HB2:=zh hb2
      obtain⟨f0,f1⟩:=HK.out w2 hb2
      have hz1:w.heap.size<w2.heap.size:=Nat.lt_of_lt_of_le hsz hb2.size
      have hz2:b<w2.heap.size:=Nat.lt_of_lt_of_le hbl1 hb2.size
      have hz3:g<w2.heap.size:=Nat.lt_of_lt_of_le hgl hb2.size
      have f2:w2.cell? ⟨g,go+k * 3,none⟩=some (.int .i64 xo):=(hb2.cell (p:=⟨g,go+k * 3,none⟩) hgl).trans e0
      clear hb2 e0 kb
      go_wp2_with fail
      go_quiet (fail)
      go_wp2_with fail
      go_ret
      exact⟨by rw[HX.out];rfl,HB0.out.trans ((HB2.out.trans ((below_drewN _ _).mono HB2.out.size)).mono HB0.out.size)⟩
theorem right_r {w:World}{b o:Nat}{O:Ob.O}{sa ua va pa na ca:Option Addr}{sc uc vc pc nc cc:Nat}(hV:OV w b o O sa ua va pa na ca sc uc vc pc nc cc) (hB:Bd O) :
  Calls Tryz.prog 7 #[.pointer (some ⟨b,o,none⟩)] w fun e w'=>e=.returned (.bool (Ob.rightB O))/\Below w.heap.size w w':=by
 have HC1:Hid (∀ W,Below w.heap.size w W->Calls Tryz.prog 25 #[.pointer (some ⟨b,o,none⟩)] W fun e w'=>e=.returned (.bool (Ob.headB O))/\Below W.heap.size W w'):=fun W hW=>head_r (hV.below hW) hB
 have HC2:Hid (∀ W,Below w.heap.size w W->Calls Tryz.prog 26 #[.pointer (some ⟨b,o,none⟩)] W fun e w'=>e=.returned (.bool (Ob.procsB O))/\Below W.heap.size W w'):=fun W hW=>procs_r (hV.below hW) hB
 have HC3:Hid (∀ W,Below w.heap.size w W->Calls Tryz.prog 27 #[.pointer (some ⟨b,o,none⟩)] W fun e w'=>e=.returned (.bool (Ob.codeB O))/\Below W.heap.size W w'):=fun W hW=>code_r (hV.below hW) hB
 have HR:Hid (Ob.rightB O=(Ob.headB O && (Ob.procsB O && Ob.codeB O))):=rfl
 generalize Ob.rightB O=r at *
 generalize Ob.headB O=b1 at *
 generalize Ob.procsB O=b2 at *
 generalize Ob.codeB O=b3 at *
 clear hV hB
 have HB0:Hid (Below w.heap.size w w):=Below.refl _ _
 cases b1 with
 | false =>
  have HV:Hid (r=false):=by
   show _=_
   rw[HR.out]
   simp[*]
  clear HR
  go_enter Tryz.func7,Tryz.ntmps7
  go_wp2_with fail
  refine(HC1.out _ HB0.out).mono ?_
  rintro e wq0 ⟨rfl,hq0⟩
  have HB1:=zh (HB0.out.trans (hq0.mono HB0.out.size))
  clear hq0
  go_wp2_with fail
  go_ret
  exact⟨by rw[HV.out];rfl,HB1.out⟩
 | true =>
  cases b2 with
  | false =>
   have HV:Hid (r=false):=by
    show _=_
    rw[HR.out]
    simp[*]
   clear HR
   go_enter Tryz.func7,Tryz.ntmps7
   go_wp2_with fail
   refine(HC1.out _ HB0.out).mono ?_
   rintro e wq0 ⟨rfl,hq0⟩
   have HB1:=zh (HB0.out.trans (hq0.mono HB0.out.size))
   clear hq0
   go_wp2_with fail
   refine(HC2.out _ HB1.out).mono ?_
   rintro e wq1 ⟨rfl,hq1⟩
   have HB2:=zh (HB1.out.trans (hq1.mono HB1.out.size))
   clear hq1
   go_wp2_with fail
   go_ret
   exact⟨by rw[HV.out];rfl,HB2.out⟩
  | true =>
   cases b3 with
   | false =>
    have HV:Hid (r=false):=by
     show _=_
     rw[HR.out]
     simp[*]
    clear HR
    go_enter Tryz.func7,Tryz.ntmps7
    go_wp2_with fail
    refine(HC1.out _ HB0.out).mono ?_
    rintro e wq0 ⟨rfl,hq0⟩
    have HB1:=zh (HB0.out.trans (hq0.mono HB0.out.size))
    clear hq0
    go_wp2_with fail
    refine(HC2.out _ HB1.out).mono ?_
    rintro e wq1 ⟨rfl,hq1⟩
    have HB2:=zh (HB1.out.trans (hq1.mono HB1.out.size))
    clear hq1
    go_wp2_with fail
    refine(HC3.out _ HB2.out).mono ?_
    rintro e wq2 ⟨rfl,hq2⟩
    have HB3:=zh (HB2.out.trans (hq2.mono HB2.out.size))
    clear hq2
    go_wp2_with fail
    go_ret
    exact⟨by rw[HV.out];rfl,HB3.out⟩
   | true =>
    have HV:Hid (r=true):=by
     show _=_
     rw[HR.out]
     simp[*]
    clear HR
    go_enter Tryz.func7,Tryz.ntmps7
    go_wp2_with fail
    refine(HC1.out _ HB0.out).mono ?_
    rintro e wq0 ⟨rfl,hq0⟩
    have HB1:=zh (HB0.out.trans (hq0.mono HB0.out.size))
    clear hq0
    go_wp2_with fail
    refine(HC2.out _ HB1.out).mono ?_
    rintro e wq1 ⟨rfl,hq1⟩
    have HB2:=zh (HB1.out.trans (hq1.mono HB1.out.size))
    clear hq1
    go_wp2_with fail
    refine(HC3.out _ HB2.out).mono ?_
    rintro e wq2 ⟨rfl,hq2⟩
    have HB3:=zh (HB2.out.trans (hq2.mono HB2.out.size))
    clear hq2
    go_wp2_with fail
    go_ret
    exact⟨by rw[HV.out];rfl,HB3.out⟩
theorem k8 {w:World}{b o:Nat}{O:Ob.O}(h:OA w b o O) (hB:Bd O):Calls Tryz.prog 7 #[.pointer (some ⟨b,o,none⟩)] w fun e w'=>e=.returned (.bool (Ob.rightB O))/\Below w.heap.size w w':=by
 obtain⟨sa,ua,va,pa,na,ca,sc,uc,vc,pc,nc,cc,h⟩:=h
 exact right_r h hB
theorem vf (w:World):Calls Tryz.prog 7 #[.pointer none] w fun e w'=>e=.returned (.bool false)/\Below w.heap.size w w':=by
 go_enter Tryz.func7,Tryz.ntmps7
 go_wp2_with fail
 go_ret
 exact⟨rfl,Below.refl _ _⟩
end Go.Proofs.YtmnedfdffbbchaaGreatDoor.Jo

namespace Go.Proofs.YtmnedfdffbbchaaGreatDoor.Jo
open Go.RowKit
open Ob (Bs)
open Go.Deep
section
variable {H:Type} {enc:TypeId× Value->H} {P:Program} {w:World} {base:Nat} {spare:Nat->Bool} {held:Bool}
theorem yR {α:Type}{P:Nat->α->Prop}:∀(n:Nat),(∀ i,i<n->∃ x,P i x)->∃ l:List α,l.length=n/\∀ i (h:i<l.length),P i l[i]:=by
 intro n
 induction n with
 | zero=>intro _;exact⟨[],rfl,fun i h=>by simp at h⟩
 | succ n ih =>
  intro h
  obtain⟨l,h1,h2⟩:=ih (fun i hi=>h i (by omega))
  obtain⟨x,hx⟩:=h n (by omega)
  refine⟨l++[x],by simp[h1],fun i hi=>?_⟩
  by_cases hil:i<l.length
  ·rw[List.getElem_append_left hil];exact h2 i hil
  ·have:i=l.length:=by simp at hi;omega
   subst this
   rw[List.getElem_append_right (by omega)]
   simp only [Nat.sub_self,List.getElem_cons_zero]
   rw[h1];exact hx
theorem sl_of {α:Type}{c:α->List Value}{k:Nat}(hc:∀ x,(c x).length=k) (hk:0<k) {a:Option Addr}{cap:Nat}{l:List α}(h:∀ i (hi:i<l.length) r,r<k->∃ b o,a=some ⟨b,o,none⟩/\w.cell? ⟨b,o+(i * k+r),none⟩=(c l[i])[r]?):Sl w (.slice a l.length cap) k l.length (cellsOf c l):=by
 refine⟨a,cap,rfl,kg hc l,fun j u hj=>?_⟩
 have hjl:=(List.getElem?_eq_some_iff.1 hj).1
 rw[kg hc]at hjl
 have hi:j / k<l.length:=by rw[Nat.div_lt_iff_lt_mul hk];exact hjl
 have hr:j % k<k:=Nat.mod_lt _ hk
 have e:j / k * k+j % k=j:=by rw[Nat.mul_comm];exact Nat.div_add_mod j k
 obtain⟨b,o,h1,h2⟩:=h (j / k) hi (j % k) hr
 refine⟨b,o,h1,?_⟩
 rw[e]at h2
 rw[h2,<-kO hc l (j / k) (j % k) hi hr,e]
 exact hj
theorem ku {t e:TypeId}{fs:Array Field}{fuel:Nat}{cs:List Value}{x:DataW H× List MemPlace}(ht:P.underlying t=some (.slice e)) (he:P.underlying e=some (.struct fs))
  (hone:∀(i:Nat) (f:Field),fs[i]?=some f->f.offset=i/\P.cellsOf f.type=1) (hC:P.cellsOf e=fs.size) (hpos:0<fs.size) (h:DataW.trod enc P w base spare held fuel t cs=some x) :
  ∃(a:Option Addr) (len cap:Nat),cs=[.slice a len cap]/\∀ i,i<len->∃(b o n:Nat) (V:Nat->Value),a=some ⟨b,o,none⟩ /\
   ∀(j:Nat) (f:Field),fs[j]?=some f->w.cell? ⟨b,o+(i * fs.size+j),none⟩=some (V j)/\∃ y,DataW.trod enc P w base spare held n f.type [V j]=some y:=by
 rcases open_slice ht h with⟨rfl,_⟩|⟨a,len,cap,m,n,D,Pl,rfl,hb,hlc,hcm,hm,_,hall⟩
 ·exact⟨none,0,0,rfl,fun i hi=>by omega⟩
 ·refine⟨some a,len,cap,rfl,fun i hi=>?_⟩
  have him:i<m:=by rw[hm];split <;> omega
  have hspot:a.spot=none:=by
   obtain⟨cs0,g1,g2⟩:=hall 0 (by omega)
   obtain⟨_,hlen0,hcell0⟩:=World.cells?_some g1
   rw[hC]at hlen0 hcell0
   have h0:=hcell0 0 hpos
   rw[List.getElem?_eq_getElem (by omega)]at h0
   simpa[Addr.add] using World.cell?_spot h0
  obtain⟨cs',h1,h2⟩:=hall i him
  obtain⟨_,hlen,hcell⟩:=World.cells?_some h1
  rw[hC]at hlen hcell
  obtain⟨xs,n',_,_,_,hxl,hf⟩:=DataW.trod_struct he h2
  obtain⟨b,o,spot⟩:=a
  simp only at hspot
  subst hspot
  refine⟨b,o,n',fun j=>cs'.getD j undef,rfl,fun j f hj=>?_⟩
  have hjl:j<fs.size:=(Array.getElem?_eq_some_iff.1 hj).1
  obtain⟨ho,hone1⟩:=hone j f hj
  have hcj:=hcell j hjl
  rw[List.getElem?_eq_getElem (by omega)]at hcj
  have hV:cs'.getD j undef=cs'[j]'(by omega):=by simp[List.getD,List.getElem?_eq_getElem (show j<cs'.length by omega)]
  have hfj:=hf j f hj
  rw[ho,hone1]at hfj
  have hdt:(cs'.drop j).take 1=[cs'[j]'(by omega)]:=by
   rw[List.drop_eq_getElem_cons (by omega)];rfl
  rw[hdt,List.getElem?_eq_getElem (by omega)]at hfj
  refine⟨?_,_,by simp only [hV];exact hfj⟩
  simp only [hV]
  rw[<-hcj,Addr.add_lit,Addr.add_lit,Nat.add_assoc]
theorem kV {t:TypeId}{fuel:Nat}{v:Value}{x:DataW H× List MemPlace}(ht:P.underlying t=some .string) (h:DataW.trod enc P w base spare held fuel t [v]=some x):∃ s:Bs,v=.string (bs s):=by
 obtain⟨s,h1,_⟩:=DataW.trod_string ht h
 simp at h1
 exact⟨s.data.toList,by rw[h1,bs_data]⟩
theorem yw {t:TypeId}{fuel:Nat}{v:Value}{x:DataW H× List MemPlace}(ht:P.underlying t=some (.int .i64)) (h:DataW.trod enc P w base spare held fuel t [v]=some x):∃ n:Int,v=.int .i64 n/\Ob.I64 n:=by
 obtain⟨n,h1,_,h3⟩:=DataW.trod_int ht h
 simp at h1
 refine⟨n,h1,?_⟩
 simp only [Lit.wf,IntKind.min,IntKind.max,IntKind.signed,IntKind.bits,Bool.and_eq_true,decide_eq_true_eq,if_true]at h3
 unfold Ob.I64
 omega
theorem open_bool {t:TypeId}{fuel:Nat}{v:Value}{x:DataW H× List MemPlace}(ht:P.underlying t=some .bool) (h:DataW.trod enc P w base spare held fuel t [v]=some x):∃ b:Bool,v=.bool b:=by
 obtain⟨b,h1,_⟩:=DataW.trod_bool ht h
 simp at h1
 exact⟨b,h1⟩
theorem xd {t e:TypeId}{fuel:Nat}{v:Value}{x:DataW H× List MemPlace}(ht:P.underlying t=some (.slice e)) (he:P.underlying e=some .string) (hc:P.cellsOf e=1) (h:DataW.trod enc P w base spare held fuel t [v]=some x) :
  ∃(ns:List Bs) (a:Option Addr) (cap:Nat),v=.slice a ns.length cap/\Sl w (.slice a ns.length cap) 1 ns.length (cellsOf stC ns):=by
 rcases open_strs ht he hc h with⟨h1,_⟩|⟨a,len,cap,m,Sx,h1,_,hlc,_,hm,_,hall⟩
 ·simp at h1
  exact⟨[],none,0,h1,⟨_,_,rfl,by simp[cellsOf],fun j u hj=>by simp[cellsOf]at hj⟩⟩
 ·simp at h1
  obtain⟨l,hl,hp⟩:=yR (P:=fun i (s:Bs)=>∃ b o,a=⟨b,o,none⟩/\w.cell? ⟨b,o+i,none⟩=some (.string (bs s))) len (fun i hi=>by
   have him:i<m:=by rw[hm];split <;> omega
   obtain⟨hc1,_⟩:=hall i him
   obtain⟨hc0,_⟩:=hall 0 (by omega)
   obtain⟨b,o,spot⟩:=a
   have hspot:spot=none:=by simpa[Addr.add] using World.cell?_spot hc0
   subst hspot
   exact⟨(Sx i).data.toList,b,o,rfl,by rw[bs_data,<-hc1,Addr.add_lit]⟩)
  refine⟨l,some a,cap,by rw[h1,hl],sl_of jg (by omega) (fun i hi r hr=>?_)⟩
  obtain⟨b,o,rfl,hcell⟩:=hp i hi
  obtain rfl:r=0:=by omega
  exact⟨b,o,rfl,by rw[Nat.mul_one,Nat.add_zero];exact hcell⟩
theorem repN_of:∀(l:List (Ob.Us× Value)),(∀ x∈l,Sl w x.2 1 x.1.names.length (cellsOf stC x.1.names))->RepN w (l.map (·.1)) (cellsOf (fun x:Ob.Us× Value=>[.string (bs x.1.name),.string (bs x.1.need),x.2]) l):=by
 intro l
 induction l with
 | nil=>intro _;exact rfl
 | cons x l ih=>intro h;exact⟨x.2,_,rfl,h x (by simp),ih (fun y hy=>h y (by simp[hy]))⟩
end
theorem two_of (P:Nat->Prop) (h0:P 0) (h1:P 1) (h2:P 2):∀ r,r<3->P r:=by
 intro r hr
 match r,hr with
 | 0,_=>exact h0
 | 1,_=>exact h1
 | 2,_=>exact h2
theorem open_object {H:Type}{enc:TypeId× Value->H}{w:World}{base:Nat}{spare:Nat->Bool}{held:Bool}{fuel:Nat}{v:Value}{x:DataW H× List MemPlace}(h:DataW.trod enc Tryz.prog w base spare held fuel 22 [v]=some x) :
  ∃ p,v=.pointer p/\(p=none\/∃ b o O,p=some ⟨b,o,none⟩/\OA w b o O/\∀ x∈O.code,Ob.I64 x.a):=by
 rcases open_ptr_fields Tryz.underlying22 Tryz.underlying40 (hone_of (by kernel_rfl)) (by kernel_rfl) (by decide) h with⟨h1,_⟩|⟨b,o,n,V,Y,h1,_,_,hf⟩
 ·simp at h1
  exact⟨none,h1,Or.inl rfl⟩
 ·simp at h1
  refine⟨_,h1,Or.inr ?_⟩
  obtain⟨c0,t0⟩:=hf 0 _ rfl
  obtain⟨c1,t1⟩:=hf 1 _ rfl
  obtain⟨c2,t2⟩:=hf 2 _ rfl
  obtain⟨c3,t3⟩:=hf 3 _ rfl
  obtain⟨c4,t4⟩:=hf 4 _ rfl
  obtain⟨c5,t5⟩:=hf 5 _ rfl
  obtain⟨c6,t6⟩:=hf 6 _ rfl
  obtain⟨nm,hnm⟩:=kV Tryz.underlying9 t0
  obtain⟨sa,sl,sc,hs,hsr⟩:=ku Tryz.underlying33 Tryz.underlying57 (hone_of (by kernel_rfl)) (by kernel_rfl) (by decide) t1
  obtain⟨ss,hsl,hsp⟩:=yR (P:=fun i (s:Ob.Sm)=>∃ b o,sa=some ⟨b,o,none⟩/\∀ r,r<3->w.cell? ⟨b,o+(i * 3+r),none⟩=(smC s)[r]?) sl (fun i hi=>by
   obtain⟨b,o,n',U,he,hj⟩:=hsr i hi
   obtain⟨k0,y0,q0⟩:=hj 0 _ rfl
   obtain⟨k1,y1,q1⟩:=hj 1 _ rfl
   obtain⟨k2,y2,q2⟩:=hj 2 _ rfl
   obtain⟨s0,e0⟩:=kV Tryz.underlying9 q0
   obtain⟨n1,e1,_⟩:=yw Tryz.underlying3 q1
   obtain⟨n2,e2,_⟩:=yw Tryz.underlying3 q2
   exact⟨⟨s0,n1,n2⟩,b,o,he,two_of _ (by rw[e0]at k0;exact k0) (by rw[e1]at k1;exact k1) (by rw[e2]at k2;exact k2)⟩)
  obtain⟨ua,ul,uc,hu,hur⟩:=ku Tryz.underlying34 Tryz.underlying65 (hone_of (by kernel_rfl)) (by kernel_rfl) (by decide) t2
  obtain⟨us,hul,hup⟩:=yR (P:=fun i (s:Ob.Us× Value)=>Sl w s.2 1 s.1.names.length (cellsOf stC s.1.names)/\∃ b o,ua=some ⟨b,o,none⟩/\∀ r,r<3->w.cell? ⟨b,o+(i * 3+r),none⟩=[Value.string (bs s.1.name),Value.string (bs s.1.need),s.2][r]?) ul (fun i hi=>by
   obtain⟨b,o,n',U,he,hj⟩:=hur i hi
   obtain⟨k0,y0,q0⟩:=hj 0 _ rfl
   obtain⟨k1,y1,q1⟩:=hj 1 _ rfl
   obtain⟨k2,y2,q2⟩:=hj 2 _ rfl
   obtain⟨s0,e0⟩:=kV Tryz.underlying9 q0
   obtain⟨s1,e1⟩:=kV Tryz.underlying9 q1
   obtain⟨ns,a',cap',e2,e3⟩:=xd Tryz.underlying37 Tryz.underlying9 (by kernel_rfl) q2
   exact⟨(⟨s0,s1,ns⟩,.slice a' ns.length cap'),e3,b,o,he,two_of _ (by rw[e0]at k0;exact k0) (by rw[e1]at k1;exact k1) (by rw[e2]at k2;exact k2)⟩)
  obtain⟨va,vl,vc,hv,hvr⟩:=ku Tryz.underlying35 Tryz.underlying61 (hone_of (by kernel_rfl)) (by kernel_rfl) (by decide) t3
  obtain⟨vs,hvl,hvp⟩:=yR (P:=fun i (s:Ob.Gl)=>∃ b o,va=some ⟨b,o,none⟩/\∀ r,r<4->w.cell? ⟨b,o+(i * 4+r),none⟩=(glC s)[r]?) vl (fun i hi=>by
   obtain⟨b,o,n',U,he,hj⟩:=hvr i hi
   obtain⟨k0,y0,q0⟩:=hj 0 _ rfl
   obtain⟨k1,y1,q1⟩:=hj 1 _ rfl
   obtain⟨k2,y2,q2⟩:=hj 2 _ rfl
   obtain⟨k3,y3,q3⟩:=hj 3 _ rfl
   obtain⟨s0,e0⟩:=kV Tryz.underlying9 q0
   obtain⟨n1,e1,_⟩:=yw Tryz.underlying3 q1
   obtain⟨n2,e2,_⟩:=yw Tryz.underlying3 q2
   obtain⟨b3,e3⟩:=open_bool Tryz.underlying4 q3
   refine⟨⟨s0,n1,n2,b3⟩,b,o,he,fun r hr=>?_⟩
   match r,hr with
   | 0,_=>rw[e0]at k0;exact k0
   | 1,_=>rw[e1]at k1;exact k1
   | 2,_=>rw[e2]at k2;exact k2
   | 3,_=>rw[e3]at k3;exact k3)
  obtain⟨pa,pl,pc,hp,hpr⟩:=ku Tryz.underlying36 Tryz.underlying98 (hone_of (by kernel_rfl)) (by kernel_rfl) (by decide) t4
  obtain⟨ps,hpl,hpp⟩:=yR (P:=fun i (s:Ob.En)=>∃ b o,pa=some ⟨b,o,none⟩/\∀ r,r<3->w.cell? ⟨b,o+(i * 3+r),none⟩=(enC s)[r]?) pl (fun i hi=>by
   obtain⟨b,o,n',U,he,hj⟩:=hpr i hi
   obtain⟨k0,y0,q0⟩:=hj 0 _ rfl
   obtain⟨k1,y1,q1⟩:=hj 1 _ rfl
   obtain⟨k2,y2,q2⟩:=hj 2 _ rfl
   obtain⟨n0,e0,_⟩:=yw Tryz.underlying3 q0
   obtain⟨n1,e1,_⟩:=yw Tryz.underlying3 q1
   obtain⟨n2,e2,_⟩:=yw Tryz.underlying3 q2
   exact⟨⟨n0,n1,n2⟩,b,o,he,two_of _ (by rw[e0]at k0;exact k0) (by rw[e1]at k1;exact k1) (by rw[e2]at k2;exact k2)⟩)
  obtain⟨ns,na,nc,hn,hnS⟩:=xd Tryz.underlying37 Tryz.underlying9 (by kernel_rfl) t5
  obtain⟨ca,cl,cc,hc,hcr⟩:=ku Tryz.underlying38 Tryz.underlying68 (hone_of (by kernel_rfl)) (by kernel_rfl) (by decide) t6
  obtain⟨cs,hcl,hcp⟩:=yR (P:=fun i (s:Ob.In)=>Ob.I64 s.a/\∃ b o,ca=some ⟨b,o,none⟩/\∀ r,r<3->w.cell? ⟨b,o+(i * 3+r),none⟩=(inC s)[r]?) cl (fun i hi=>by
   obtain⟨b,o,n',U,he,hj⟩:=hcr i hi
   obtain⟨k0,y0,q0⟩:=hj 0 _ rfl
   obtain⟨k1,y1,q1⟩:=hj 1 _ rfl
   obtain⟨k2,y2,q2⟩:=hj 2 _ rfl
   obtain⟨n0,e0,_⟩:=yw Tryz.underlying3 q0
   obtain⟨n1,e1,r1⟩:=yw Tryz.underlying2 q1
   obtain⟨n2,e2,_⟩:=yw Tryz.underlying2 q2
   exact⟨⟨n0,n1,n2⟩,r1,b,o,he,two_of _ (by rw[e0]at k0;exact k0) (by rw[e1]at k1;exact k1) (by rw[e2]at k2;exact k2)⟩)
  simp at hs hu hv hp hc
  rw[hnm]at c0
  rw[hs,<-hsl]at c1
  rw[hu,<-hul]at c2
  rw[hv,<-hvl]at c3
  rw[hp,<-hpl]at c4
  rw[hn]at c5
  rw[hc,<-hcl]at c6
  have hul':(us.map (·.1)).length=us.length:=by simp
  refine⟨b,o,⟨nm,ss,us.map (·.1),vs,ps,ns,cs⟩,rfl,⟨sa,ua,va,pa,na,ca,sc,uc,vc,pc,nc,cc,⟨c0,c1,by rw[hul'];exact c2,c3,c4,c5,c6,?_,?_,?_,?_,hnS,?_⟩⟩,?_⟩
  ·exact sl_of kI (by omega) (fun i hi r hr=>by obtain⟨b,o,he,hall⟩:=hsp i hi;exact⟨b,o,he,hall r hr⟩)
  ·refine⟨_,repN_of us (fun x hx=>by obtain⟨i,hi,rfl⟩:=List.getElem_of_mem hx;exact(hup i hi).1),?_⟩
   rw[hul']
   exact sl_of (c:=fun x:Ob.Us× Value=>[.string (bs x.1.name),.string (bs x.1.need),x.2]) (fun _=>rfl) (by omega) (fun i hi r hr=>by obtain⟨_,b,o,he,hall⟩:=hup i hi;exact⟨b,o,he,hall r hr⟩)
  ·exact sl_of jH (by omega) (fun i hi r hr=>by obtain⟨b,o,he,hall⟩:=hvp i hi;exact⟨b,o,he,hall r hr⟩)
  ·exact sl_of jK (by omega) (fun i hi r hr=>by obtain⟨b,o,he,hall⟩:=hpp i hi;exact⟨b,o,he,hall r hr⟩)
  ·exact sl_of jn (by omega) (fun i hi r hr=>by obtain⟨_,b,o,he,hall⟩:=hcp i hi;exact⟨b,o,he,hall r hr⟩)
  ·intro x hx
   obtain⟨i,hi,rfl⟩:=List.getElem_of_mem hx
   exact(hcp i hi).1
end Go.Proofs.YtmnedfdffbbchaaGreatDoor.Jo

namespace Go.Proofs.YtmnedfdffbbchaaGreatDoor.Jo
open Go.RowKit
open Ob (Bs)
theorem eqStr {w:World}{a b:Option Addr}{c d:Nat}{l:List Bs}(hA:Sl w (.slice a l.length c) 1 l.length (cellsOf stC l)) (hB:Sl w (.slice b l.length d) 1 l.length (cellsOf stC l)) (hn:l.length<=1000000) :
  Calls Tryz.prog 32 #[.slice a l.length c,.slice b l.length d] w fun e w'=>e=.returned (.bool true)/\Below w.heap.size w w':=by
 have hn':(l.length:Int)<=1000000:=by omega
 have HA:=zh hA
 have HB:=zh hB
 clear hA hB
 go_enter Tryz.func32,Tryz.ntmps32
 go_wp2_with fail
 go_loopg [13] l.length (fun k vi wr=>∃ i:Nat,i<=l.length/\k=l.length - i/\vi=.int .i64 (i:Int)/\Hid (Below w.heap.size w wr))
 case atStart=>exact⟨0,by omega,by omega,rfl,Below.refl _ _⟩
 case round =>
  obtain⟨i,hid,hk,rfl,HW⟩:=hrel
  by_cases hlt:i<l.length
  ·have hlt':(i:Int)<(l.length:Int):=by omega
   obtain⟨g,go,rfl,hgl,hcell⟩:=HA.out.at' jg (by omega) i hlt
   obtain⟨g2,go2,rfl,hgl2,hcell2⟩:=HB.out.at' jg (by omega) i hlt
   have e0:wr.cell? ⟨g,go+i,none⟩=some (.string (bs l[i])):=(HW.out.cell (p:=⟨g,go+i,none⟩) hgl).trans (by have q:=hcell 0 _ rfl;rw[Nat.mul_one,Nat.add_zero]at q;exact q)
   have d0:wr.cell? ⟨g2,go2+i,none⟩=some (.string (bs l[i])):=(HW.out.cell (p:=⟨g2,go2+i,none⟩) hgl2).trans (by have q:=hcell2 0 _ rfl;rw[Nat.mul_one,Nat.add_zero]at q;exact q)
   have hz1:g<wr.heap.size:=zi e0
   have hz2:g2<wr.heap.size:=zi d0
   clear hcell hcell2
   generalize l[i]=x at *
   go_wp2_with fail
   go_quiet (fail)
   have HW2:=zh (HW.out.trans ((below_drewN wr nq).mono HW.out.size))
   go_wp2_with fail
   go_roundg (l.length - (i+1))
   case measure=>omega
   case rel=>exact⟨i+1,by omega,rfl,by go_num,HW2⟩
  ·have hlt':¬(i:Int)<(l.length:Int):=by omega
   go_wp2_with fail
   go_ret
   exact⟨rfl,HW.out⟩
theorem eqSym {w:World}{a b:Option Addr}{c d:Nat}{l:List Ob.Sm}(hA:Sl w (.slice a l.length c) 3 l.length (cellsOf smC l)) (hB:Sl w (.slice b l.length d) 3 l.length (cellsOf smC l)) (hn:l.length<=1000000) :
  Calls Tryz.prog 29 #[.slice a l.length c,.slice b l.length d] w fun e w'=>e=.returned (.bool true)/\Below w.heap.size w w':=by
 have hn':(l.length:Int)<=1000000:=by omega
 have HA:=zh hA
 have HB:=zh hB
 clear hA hB
 go_enter Tryz.func29,Tryz.ntmps29
 go_wp2_with fail
 go_loopg [13] l.length (fun k vi wr=>∃ i:Nat,i<=l.length/\k=l.length - i/\vi=.int .i64 (i:Int)/\Hid (Below w.heap.size w wr))
 case atStart=>exact⟨0,by omega,by omega,rfl,Below.refl _ _⟩
 case round =>
  obtain⟨i,hid,hk,rfl,HW⟩:=hrel
  by_cases hlt:i<l.length
  ·have hlt':(i:Int)<(l.length:Int):=by omega
   obtain⟨g,go,rfl,hgl,hcell⟩:=HA.out.at' kI (by omega) i hlt
   obtain⟨g2,go2,rfl,hgl2,hcell2⟩:=HB.out.at' kI (by omega) i hlt
   have e0:wr.cell? ⟨g,go+i * 3,none⟩=some (.string (bs l[i].name)):=(HW.out.cell (p:=⟨g,go+i * 3,none⟩) hgl).trans (hcell 0 _ rfl)
   have e1:wr.cell? ⟨g,go+i * 3+1,none⟩=some (.int .i64 l[i].len):=(HW.out.cell (p:=⟨g,go+i * 3+1,none⟩) hgl).trans (hcell 1 _ rfl)
   have e2:wr.cell? ⟨g,go+i * 3+2,none⟩=some (.int .i64 l[i].args):=(HW.out.cell (p:=⟨g,go+i * 3+2,none⟩) hgl).trans (hcell 2 _ rfl)
   have d0:wr.cell? ⟨g2,go2+i * 3,none⟩=some (.string (bs l[i].name)):=(HW.out.cell (p:=⟨g2,go2+i * 3,none⟩) hgl2).trans (hcell2 0 _ rfl)
   have d1:wr.cell? ⟨g2,go2+i * 3+1,none⟩=some (.int .i64 l[i].len):=(HW.out.cell (p:=⟨g2,go2+i * 3+1,none⟩) hgl2).trans (hcell2 1 _ rfl)
   have d2:wr.cell? ⟨g2,go2+i * 3+2,none⟩=some (.int .i64 l[i].args):=(HW.out.cell (p:=⟨g2,go2+i * 3+2,none⟩) hgl2).trans (hcell2 2 _ rfl)
   have hz1:g<wr.heap.size:=zi e0
   have hz2:g2<wr.heap.size:=zi d0
   clear hcell hcell2
   generalize l[i]=x at *
   go_wp2_with fail
   go_quiet (fail)
   have HW2:=zh (HW.out.trans ((below_drewN wr nq).mono HW.out.size))
   go_wp2_with fail
   go_roundg (l.length - (i+1))
   case measure=>omega
   case rel=>exact⟨i+1,by omega,rfl,by go_num,HW2⟩
  ·have hlt':¬(i:Int)<(l.length:Int):=by omega
   go_wp2_with fail
   go_ret
   exact⟨rfl,HW.out⟩
theorem eqGl {w:World}{a b:Option Addr}{c d:Nat}{l:List Ob.Gl}(hA:Sl w (.slice a l.length c) 4 l.length (cellsOf glC l)) (hB:Sl w (.slice b l.length d) 4 l.length (cellsOf glC l)) (hn:l.length<=1000000) :
  Calls Tryz.prog 33 #[.slice a l.length c,.slice b l.length d] w fun e w'=>e=.returned (.bool true)/\Below w.heap.size w w':=by
 have hn':(l.length:Int)<=1000000:=by omega
 have HA:=zh hA
 have HB:=zh hB
 clear hA hB
 go_enter Tryz.func33,Tryz.ntmps33
 go_wp2_with fail
 go_loopg [13] l.length (fun k vi wr=>∃ i:Nat,i<=l.length/\k=l.length - i/\vi=.int .i64 (i:Int)/\Hid (Below w.heap.size w wr))
 case atStart=>exact⟨0,by omega,by omega,rfl,Below.refl _ _⟩
 case round =>
  obtain⟨i,hid,hk,rfl,HW⟩:=hrel
  by_cases hlt:i<l.length
  ·have hlt':(i:Int)<(l.length:Int):=by omega
   obtain⟨g,go,rfl,hgl,hcell⟩:=HA.out.at' jH (by omega) i hlt
   obtain⟨g2,go2,rfl,hgl2,hcell2⟩:=HB.out.at' jH (by omega) i hlt
   have e0:wr.cell? ⟨g,go+i * 4,none⟩=some (.string (bs l[i].name)):=(HW.out.cell (p:=⟨g,go+i * 4,none⟩) hgl).trans (hcell 0 _ rfl)
   have e1:wr.cell? ⟨g,go+i * 4+1,none⟩=some (.int .i64 l[i].at'):=(HW.out.cell (p:=⟨g,go+i * 4+1,none⟩) hgl).trans (hcell 1 _ rfl)
   have e2:wr.cell? ⟨g,go+i * 4+2,none⟩=some (.int .i64 l[i].len):=(HW.out.cell (p:=⟨g,go+i * 4+2,none⟩) hgl).trans (hcell 2 _ rfl)
   have e3:wr.cell? ⟨g,go+i * 4+3,none⟩=some (.bool l[i].seen):=(HW.out.cell (p:=⟨g,go+i * 4+3,none⟩) hgl).trans (hcell 3 _ rfl)
   have d0:wr.cell? ⟨g2,go2+i * 4,none⟩=some (.string (bs l[i].name)):=(HW.out.cell (p:=⟨g2,go2+i * 4,none⟩) hgl2).trans (hcell2 0 _ rfl)
   have d1:wr.cell? ⟨g2,go2+i * 4+1,none⟩=some (.int .i64 l[i].at'):=(HW.out.cell (p:=⟨g2,go2+i * 4+1,none⟩) hgl2).trans (hcell2 1 _ rfl)
   have d2:wr.cell? ⟨g2,go2+i * 4+2,none⟩=some (.int .i64 l[i].len):=(HW.out.cell (p:=⟨g2,go2+i * 4+2,none⟩) hgl2).trans (hcell2 2 _ rfl)
   have d3:wr.cell? ⟨g2,go2+i * 4+3,none⟩=some (.bool l[i].seen):=(HW.out.cell (p:=⟨g2,go2+i * 4+3,none⟩) hgl2).trans (hcell2 3 _ rfl)
   have hz1:g<wr.heap.size:=zi e0
   have hz2:g2<wr.heap.size:=zi d0
   clear hcell hcell2
   generalize l[i]=x at *
   go_wp2_with fail
   go_quiet (fail)
   have HW2:=zh (HW.out.trans ((below_drewN wr nq).mono HW.out.size))
   go_wp2_with fail
   go_roundg (l.length - (i+1))
   case measure=>omega
   case rel=>exact⟨i+1,by omega,rfl,by go_num,HW2⟩
  ·have hlt':¬(i:Int)<(l.length:Int):=by omega
   go_wp2_with fail
   go_ret
   exact⟨rfl,HW.out⟩
theorem eqUse1 {w:World}(x:Ob.Us) {na na':Option Addr}{nc nc':Nat}(hA:Sl w (.slice na x.names.length nc) 1 x.names.length (cellsOf stC x.names)) (hB:Sl w (.slice na' x.names.length nc') 1 x.names.length (cellsOf stC x.names)) (hn:x.names.length<=1000000) :
  Calls Tryz.prog 31 #[.agg #[.string (bs x.name),.string (bs x.need),.slice na x.names.length nc],.agg #[.string (bs x.name),.string (bs x.need),.slice na' x.names.length nc']] w fun e w'=>e=.returned (.bool true)/\Below w.heap.size w w':=by
 have hb0:Below w.heap.size w ((w.alloc (.cells #[.string (bs x.name),.string (bs x.need),.slice na x.names.length nc] 65)).alloc (.cells #[.string (bs x.name),.string (bs x.need),.slice na' x.names.length nc'] 65)):=(zb _ _).alloc (by simp) _
 have HB0:=zh hb0
 have HC:=zh (eqStr (hA.below hb0) (hB.below hb0) hn)
 clear hA hB hb0
 go_enter Tryz.func31,Tryz.ntmps31
 go_wp2_with fail
 refine HC.out.mono ?_
 rintro e w1 ⟨rfl,h1⟩
 have HB:=zh (HB0.out.trans (h1.mono HB0.out.size))
 clear h1
 go_wp2_with fail
 go_ret
 exact⟨rfl,HB.out⟩
theorem eqUses {w:World}{a b:Option Addr}{c d:Nat}{l:List Ob.Us}{us1 us2:List Value}(hU1:RepN w l us1) (hA:Sl w (.slice a l.length c) 3 l.length us1) (hU2:RepN w l us2) (hB:Sl w (.slice b l.length d) 3 l.length us2) (hn:l.length<=1000000) (hs:∀ x∈l,x.names.length<=1000000) :
  Calls Tryz.prog 30 #[.slice a l.length c,.slice b l.length d,.func (.func 31) #[] #[]] w fun e w'=>e=.returned (.bool true)/\Below w.heap.size w w':=by
 have hn':(l.length:Int)<=1000000:=by omega
 have HA:=zh hA
 have HB:=zh hB
 have HU1:=zh hU1
 have HU2:=zh hU2
 have HS:=zh hs
 clear hA hB hU1 hU2 hs
 go_enter Tryz.func30,Tryz.ntmps30
 go_wp2_with fail
 go_loopg [17] l.length (fun k vi wr=>∃ i:Nat,i<=l.length/\k=l.length - i/\vi=.int .i64 (i:Int)/\Hid (Below w.heap.size w wr))
 case atStart=>exact⟨0,by omega,by omega,rfl,Below.refl _ _⟩
 case round =>
  obtain⟨i,hid,hk,rfl,HW⟩:=hrel
  by_cases hlt:i<l.length
  ·have hlt':(i:Int)<(l.length:Int):=by omega
   obtain⟨na1,nc1,q0,q1,q2,eS⟩:=RepN.get _ _ HU1.out i hlt
   obtain⟨a0,c0',hsl0,_,hall⟩:=HA.out
   cases hsl0
   obtain⟨g,go,rfl,hg0⟩:=hall _ _ q0
   have el:=zi hg0
   have e0:wr.cell? ⟨g,go+i * 3,none⟩=some (.string (bs l[i].name)):=(HW.out.cell (p:=⟨g,go+i * 3,none⟩) el).trans hg0
   have e1:wr.cell? ⟨g,go+i * 3+1,none⟩=some (.string (bs l[i].need)):=by
    obtain⟨g',go',he,hg1⟩:=hall _ _ q1
    cases he
    exact(HW.out.cell (p:=⟨g,go+i * 3+1,none⟩) el).trans hg1
   have e2:wr.cell? ⟨g,go+i * 3+2,none⟩=some (.slice na1 l[i].names.length nc1):=by
    obtain⟨g',go',he,hg1⟩:=hall _ _ q2
    cases he
    exact(HW.out.cell (p:=⟨g,go+i * 3+2,none⟩) el).trans hg1
   clear hall q0 q1 q2 hg0
   obtain⟨na2,nc2,q0,q1,q2,dS⟩:=RepN.get _ _ HU2.out i hlt
   obtain⟨a0,c0',hsl0,_,hall⟩:=HB.out
   cases hsl0
   obtain⟨g2,go2,rfl,hg0⟩:=hall _ _ q0
   have dl:=zi hg0
   have d0:wr.cell? ⟨g2,go2+i * 3,none⟩=some (.string (bs l[i].name)):=(HW.out.cell (p:=⟨g2,go2+i * 3,none⟩) dl).trans hg0
   have d1:wr.cell? ⟨g2,go2+i * 3+1,none⟩=some (.string (bs l[i].need)):=by
    obtain⟨g',go',he,hg1⟩:=hall _ _ q1
    cases he
    exact(HW.out.cell (p:=⟨g2,go2+i * 3+1,none⟩) dl).trans hg1
   have d2:wr.cell? ⟨g2,go2+i * 3+2,none⟩=some (.slice na2 l[i].names.length nc2):=by
    obtain⟨g',go',he,hg1⟩:=hall _ _ q2
    cases he
    exact(HW.out.cell (p:=⟨g2,go2+i * 3+2,none⟩) dl).trans hg1
   clear hall q0 q1 q2 hg0
   have hz1:g<wr.heap.size:=zi e0
   have hz2:g2<wr.heap.size:=zi d0
   have hx:=HS.out l[i] (List.getElem_mem hlt)
   generalize l[i]=x at *
   have hb2:Below wr.heap.size wr ((wr.alloc (.cells #[.string (bs x.name),.string (bs x.need),.slice na1 x.names.length nc1] 65)).alloc (.cells #[.string (bs x.name),.string (bs x.need),.slice na2 x.names.length nc2] 65)):=(zb _ _).alloc (by simp) _
   have HB2:=zh hb2
   have HC:=zh (eqUse1 x ((eS.below HW.out).below hb2) ((dS.below HW.out).below hb2) hx)
   clear hb2 eS dS
   go_wp2_with fail
   refine HC.out.mono ?_
   rintro e w3 ⟨rfl,h3⟩
   have HW3:=zh (HW.out.trans ((HB2.out.trans (h3.mono HB2.out.size)).mono HW.out.size))
   clear h3
   go_wp2_with fail
   go_roundg (l.length - (i+1))
   case measure=>omega
   case rel=>exact⟨i+1,by omega,rfl,by go_num,HW3⟩
  ·have hlt':¬(i:Int)<(l.length:Int):=by omega
   go_wp2_with fail
   go_ret
   exact⟨rfl,HW.out⟩
theorem alike_ov {w:World}{b o b' o':Nat}{O:Ob.O}{sa ua va pa na ca sa' ua' va' pa' na' ca':Option Addr}{sc uc vc pc nc cc sc' uc' vc' pc' nc' cc':Nat}(hV:OV w b o O sa ua va pa na ca sc uc vc pc nc cc) {ps:List Ob.En}{is:List Ob.In}(hV':OV w b' o' { O with procs:=ps,code:=is } sa' ua' va' pa' na' ca' sc' uc' vc' pc' nc' cc') (hB:Bd O) :
  Calls Tryz.prog 9 #[.pointer (some ⟨b,o,none⟩),.pointer (some ⟨b',o',none⟩)] w fun e w'=>e=.returned (.bool true)/\Below w.heap.size w w':=by
 have HK:Hid (∀ W,Below w.heap.size w W->W.cell? ⟨b,o,none⟩=some (.string (bs O.name))/\W.cell? ⟨b,o+1,none⟩=some (.slice sa O.syms.length sc)/\W.cell? ⟨b,o+2,none⟩=some (.slice ua O.uses.length uc)/\W.cell? ⟨b,o+3,none⟩=some (.slice va O.vars.length vc)/\W.cell? ⟨b,o+5,none⟩=some (.slice na O.names.length nc)/\W.cell? ⟨b',o',none⟩=some (.string (bs O.name))/\W.cell? ⟨b',o'+1,none⟩=some (.slice sa' O.syms.length sc')/\W.cell? ⟨b',o'+2,none⟩=some (.slice ua' O.uses.length uc')/\W.cell? ⟨b',o'+3,none⟩=some (.slice va' O.vars.length vc')/\W.cell? ⟨b',o'+5,none⟩=some (.slice na' O.names.length nc')):=fun W hW=>⟨(hV.below hW).c0,(hV.below hW).c1,(hV.below hW).c2,(hV.below hW).c3,(hV.below hW).c5,(hV'.below hW).c0,(hV'.below hW).c1,(hV'.below hW).c2,(hV'.below hW).c3,(hV'.below hW).c5⟩
 have HC0:Hid (∀ W,Below w.heap.size w W->Calls Tryz.prog 29 #[.slice sa O.syms.length sc,.slice sa' O.syms.length sc'] W fun e w'=>e=.returned (.bool true)/\Below W.heap.size W w'):=fun W hW=>eqSym (hV.below hW).s (hV'.below hW).s hB.sl
 have HC1:Hid (∀ W,Below w.heap.size w W->Calls Tryz.prog 30 #[.slice ua O.uses.length uc,.slice ua' O.uses.length uc',.func (.func 31) #[] #[]] W fun e w'=>e=.returned (.bool true)/\Below W.heap.size W w'):=fun W hW=>by
  obtain⟨u1,a1,a2⟩:=(hV.below hW).u
  obtain⟨u2,a3,a4⟩:=(hV'.below hW).u
  exact eqUses a1 a2 a3 a4 hB.ul (fun x hx=>(hB.u x hx).2.1)
 have HC2:Hid (∀ W,Below w.heap.size w W->Calls Tryz.prog 33 #[.slice va O.vars.length vc,.slice va' O.vars.length vc'] W fun e w'=>e=.returned (.bool true)/\Below W.heap.size W w'):=fun W hW=>eqGl (hV.below hW).v (hV'.below hW).v hB.vl
 have HC3:Hid (∀ W,Below w.heap.size w W->Calls Tryz.prog 32 #[.slice na O.names.length nc,.slice na' O.names.length nc'] W fun e w'=>e=.returned (.bool true)/\Below W.heap.size W w'):=fun W hW=>eqStr (hV.below hW).n (hV'.below hW).n hB.nl
 have HK0:=zh (HK.out _ (zt w))
 have HB0:=zh (zt w)
 have hz1:=zi hV.c0
 have hz2:=zi hV'.c0
 clear hV hV' hB
 go_enter Tryz.func9,Tryz.ntmps9
 go_wp2_with fail
 go_region_held3 (fun W=>W.cell? ⟨b,o,none⟩=some (.string (bs O.name))/\W.cell? ⟨b,o+1,none⟩=some (.slice sa O.syms.length sc)/\W.cell? ⟨b,o+2,none⟩=some (.slice ua O.uses.length uc)/\W.cell? ⟨b,o+3,none⟩=some (.slice va O.vars.length vc)/\W.cell? ⟨b,o+5,none⟩=some (.slice na O.names.length nc)/\W.cell? ⟨b',o',none⟩=some (.string (bs O.name))/\W.cell? ⟨b',o'+1,none⟩=some (.slice sa' O.syms.length sc')/\W.cell? ⟨b',o'+2,none⟩=some (.slice ua' O.uses.length uc')/\W.cell? ⟨b',o'+3,none⟩=some (.slice va' O.vars.length vc')/\W.cell? ⟨b',o'+5,none⟩=some (.slice na' O.names.length nc')) (with_reducible (first|exact HK4.out|exact HK3.out|exact HK2.out|exact HK1.out|exact HK0.out)) (first|(go_at_call 29;refine(HC0.out _ HB0.out).mono ?_;rintro e w1 ⟨rfl,hb1⟩;have HB1:Hid (Below w.heap.size w w1):=HB0.out.trans (hb1.mono HB0.out.size);have HK1:=zh (HK.out _ HB1.out);clear hb1)|(go_at_call 30;refine(HC1.out _ HB1.out).mono ?_;rintro e w2 ⟨rfl,hb2⟩;have HB2:Hid (Below w.heap.size w w2):=HB1.out.trans (hb2.mono HB1.out.size);have HK2:=zh (HK.out _ HB2.out);clear hb2)|(go_at_call 33;refine(HC2.out _ HB2.out).mono ?_;rintro e w3 ⟨rfl,hb3⟩;have HB3:Hid (Below w.heap.size w w3):=HB2.out.trans (hb3.mono HB2.out.size);have HK3:=zh (HK.out _ HB3.out);clear hb3)|(go_at_call 32;refine(HC3.out _ HB3.out).mono ?_;rintro e w4 ⟨rfl,hb4⟩;have HB4:Hid (Below w.heap.size w w4):=HB3.out.trans (hb4.mono HB3.out.size);have HK4:=zh (HK.out _ HB4.out);clear hb4))
 go_wp2_with fail
 go_ret
 exact⟨rfl,HB4.out⟩
end Go.Proofs.YtmnedfdffbbchaaGreatDoor.Jo
