import Derived.Test.YtmocelfkmdpogaaGreatDoorKJh
import Derived.Lib.ConvBytes
set_option maxRecDepth 100000
set_option maxHeartbeats 4000000
namespace Go.Proofs.YtmocelfkmdpogaaGreatDoor.Jo
open Go.RowKit
open Ob (Bs)
theorem cfInst (args:Array Value) (w:World):(callFunc 132 args).run Tryz.prog w=.ok (.enter 132 args) w:=by kernel_rfl
theorem instOf_r {w:World}{b o cb:Nat}{O:Ob.O}{sa ua va pa na ca:Option Addr}{sc uc vc pc nc cc:Nat}(hcb:w.cell? ⟨cb,0,none⟩=some (.pointer (some ⟨b,o,none⟩))) (hV:OV w b o O sa ua va pa na ca sc uc vc pc nc cc) (hu:O.uses.length<=1000000) (x:Ob.In) :
  Calls Tryz.prog 132 #[.agg #[.int .i64 x.op,.int .i64 x.a,.int .i64 x.b],.pointer (some ⟨cb,0,none⟩)] w fun e w'=>e=.returned (.bool (Ob.instB O x))/\Below w.heap.size w w':=by
 have hcl:=zc hcb
 have hb0:Below w.heap.size w (w.alloc (.cells #[.int .i64 x.op,.int .i64 x.a,.int .i64 x.b] 54)):=(Below.refl _ _).alloc (Nat.le_refl _) _
 have HB0:=Lib.hid hb0
 have HC:=Lib.hid (inst_r (hV.below hb0) hu x)
 clear hV hb0
 generalize Ob.instB O x=d at *
 go_enter Tryz.func132,Tryz.ntmps132
 go_wp2_with fail
 refine HC.out.mono ?_
 rintro e w1 ⟨rfl,h1⟩
 have HB:=Lib.hid (HB0.out.trans (h1.mono HB0.out.size))
 clear h1
 go_wp2_with fail
 go_ret
 exact⟨rfl,HB.out⟩
theorem lastB_eq {O:Ob.O}{k:Nat}{x:Ob.In}(h:O.code.length=k+1) (hx:O.code[k]?=some x):Ob.lastB O=(decide (x.op=12) || (decide (x.op=15) || decide (x.op=17))):=by
 unfold Ob.lastB
 have e:O.code.getLast?=some x:=by
  rw[List.getLast?_eq_getElem?,h]
  exact hx
 rw[e]
theorem code_r {w:World}{b o:Nat}{O:Ob.O}{sa ua va pa na ca:Option Addr}{sc uc vc pc nc cc:Nat}(hV:OV w b o O sa ua va pa na ca sc uc vc pc nc cc) (hB:Bd O) :
  Calls Tryz.prog 82 #[.pointer (some ⟨b,o,none⟩)] w fun e w'=>e=.returned (.bool (Ob.codeB O))/\Below w.heap.size w w':=by
 have hmf:∀(fn:Fn) (first cap:Array Value) (w:World),(Instr.makeFunc fn first cap).run Tryz.prog w=.ok (.func fn first cap) w:=fun _ _ _ _=>rfl
 have hbl:=zc hV.c0
 obtain⟨w1,hw1⟩:∃ w1,w1=w.alloc (.cells #[.pointer (some ⟨b,o,none⟩)] 36):=⟨_,rfl⟩
 have hb0:Below w.heap.size w w1:=by rw[hw1];exact(Below.refl _ _).alloc (Nat.le_refl _) _
 have hblk:w1.heap[w.heap.size]?=some (.cells #[.pointer (some ⟨b,o,none⟩)] 36 (0,0)):=by rw[hw1];exact zk _ _
 have hsz:w.heap.size<w1.heap.size:=zi hblk
 have kb:w1.cell? ⟨w.heap.size,0,none⟩=some (.pointer (some ⟨b,o,none⟩)):=za hblk
 have hV1:=hV.below hb0
 have HB0:=Lib.hid hb0
 have HW1:=Lib.hid hw1
 clear hw1
 have c6:=hV.c6
 have hbl1:b<w1.heap.size:=Nat.lt_of_lt_of_le hbl hb0.size
 have HK:Hid (∀ W,Below w1.heap.size w1 W->W.cell? ⟨w.heap.size,0,none⟩=some (.pointer (some ⟨b,o,none⟩))/\W.cell? ⟨b,o+6,none⟩=some (.slice ca O.code.length cc)) :=
  fun W hW=>⟨(hW.cell (p:=⟨w.heap.size,0,none⟩) hsz).trans kb,(hV1.below hW).c6⟩
 have HC1:Hid (∀ W,Below w1.heap.size w1 W->Calls Tryz.prog 131 #[.slice ca O.code.length cc,.int .i64 4000,.func (.func 132) #[] #[.pointer (some ⟨w.heap.size,0,none⟩)]] W fun e w'=>e=.returned (.bool (Ob.allB (Ob.instB O) 4000 O.code))/\Below W.heap.size W w') :=
  fun W hW=>allIn (hV1.below hW).c (by have:=hB.cl;omega) 4000 (by omega) cfInst (fun W' y hy hW'=>instOf_r ((hW'.cell (p:=⟨w.heap.size,0,none⟩) (show w.heap.size<W.heap.size by have:=hW.size;omega)).trans ((hW.cell (p:=⟨w.heap.size,0,none⟩) hsz).trans kb)) ((hV1.below hW).below hW') hB.ul y)
 have HCL:=Lib.hid hV1.c
 have HR:Hid (Ob.codeB O=(Ob.allB (Ob.instB O) 4000 O.code && Ob.lastB O)):=rfl
 have hcl:=hB.cl
 generalize Ob.codeB O=r at *
 generalize Ob.allB (Ob.instB O) 4000 O.code=b1 at *
 clear hB hV1 hblk hb0 hV
 by_cases h0:O.code.length=0
 ·have h0':((O.code.length:Int) == 0)=true:=by simp[h0]
  have HV:Hid (r=false):=by
   show _=_
   rw[HR.out]
   have e:Ob.lastB O=false:=by unfold Ob.lastB;rw[List.eq_nil_of_length_eq_zero h0];rfl
   rw[e,Bool.and_false]
  clear HR HC1 HCL HK h0 HW1 kb
  go_enter Tryz.func82,Tryz.ntmps82
  go_wp2_with fail
  go_ret
  exact⟨by rw[HV.out];rfl,(Below.refl _ _).alloc (Nat.le_refl _) _⟩
 ·have h0':((O.code.length:Int) == 0)=false:=yo (by omega)
  obtain⟨k,hk⟩:∃ k,O.code.length=k+1:=⟨O.code.length - 1,by omega⟩
  have HL:=Lib.hid (lastB_eq hk (List.getElem?_eq_getElem (show k<O.code.length by omega)))
  obtain⟨g,go,rfl,hgl,hcell⟩:=HCL.out.at' vt (by omega) k (by omega)
  have e0:w1.cell? ⟨g,go+k * 3,none⟩=some (.int .i64 (O.code[k]'(show k<O.code.length by omega)).op):=hcell 0 _ rfl
  clear hcell HCL
  rw[HL.out]at HR
  clear HL
  generalize (O.code[k]'(show k<O.code.length by omega)).op=xo at *
  rw[hk]at h0' HK HC1 c6 hcl
  clear hk h0
  have hkc:(k:Int)<=1000000:=by omega
  cases b1 with
  | false =>
   have HV:Hid (r=false):=HR
   clear HR
   go_enter Tryz.func82,Tryz.ntmps82
   go_wp2_with fail
   rw[<-HW1.out]
   clear HW1
   refine(HC1.out _ (Below.refl _ _)).mono ?_
   rintro e w2 ⟨rfl,hb2⟩
   have HB2:=Lib.hid hb2
   clear hb2
   go_wp2_with fail
   go_ret
   exact⟨by rw[HV.out];rfl,HB0.out.trans (HB2.out.mono HB0.out.size)⟩
  | true =>
   have HV:Hid (r=(decide (xo=12) || (decide (xo=15) || decide (xo=17)))):=HR
   clear HR
   by_cases h12:xo=12
   ·have q:(xo == 12)=true:=by simp[h12]
    have HX:Hid (r=true):=by show _=_;rw[HV.out];simp[h12]
    clear HV h12
    go_enter Tryz.func82,Tryz.ntmps82
    go_wp2_with fail
    rw[<-HW1.out]
    clear HW1
    refine(HC1.out _ (Below.refl _ _)).mono ?_
    rintro e w2 ⟨rfl,hb2⟩
    have HB2:=Lib.hid hb2
    obtain⟨f0,f1⟩:=HK.out w2 hb2
    have hz1:w.heap.size<w2.heap.size:=Nat.lt_of_lt_of_le hsz hb2.size
    have hz2:b<w2.heap.size:=Nat.lt_of_lt_of_le hbl1 hb2.size
    have hz3:g<w2.heap.size:=Nat.lt_of_lt_of_le hgl hb2.size
    have f2:w2.cell? ⟨g,go+k * 3,none⟩=some (.int .i64 xo):=(hb2.cell (p:=⟨g,go+k * 3,none⟩) hgl).trans e0
    clear hb2 e0 kb
    go_wp2_with fail
    go_quiet (fail)
    go_wp2_with fail
    go_ret
    exact⟨by rw[HX.out];rfl,HB0.out.trans ((HB2.out.trans ((below_drewN _ _).mono HB2.out.size)).mono HB0.out.size)⟩
   ·have q12:=yo h12
    by_cases h15:xo=15
    ·have q:(xo == 15)=true:=by simp[h15]
     have HX:Hid (r=true):=by show _=_;rw[HV.out];simp[h15]
     clear HV h15
     go_enter Tryz.func82,Tryz.ntmps82
     go_wp2_with fail
     rw[<-HW1.out]
     clear HW1
     refine(HC1.out _ (Below.refl _ _)).mono ?_
     rintro e w2 ⟨rfl,hb2⟩
     have HB2:=Lib.hid hb2
     obtain⟨f0,f1⟩:=HK.out w2 hb2
     have hz1:w.heap.size<w2.heap.size:=Nat.lt_of_lt_of_le hsz hb2.size
     have hz2:b<w2.heap.size:=Nat.lt_of_lt_of_le hbl1 hb2.size
     have hz3:g<w2.heap.size:=Nat.lt_of_lt_of_le hgl hb2.size
     have f2:w2.cell? ⟨g,go+k * 3,none⟩=some (.int .i64 xo):=(hb2.cell (p:=⟨g,go+k * 3,none⟩) hgl).trans e0
     clear hb2 e0 kb
     go_wp2_with fail
     go_quiet (fail)
     go_wp2_with fail
     go_ret
     exact⟨by rw[HX.out];rfl,HB0.out.trans ((HB2.out.trans ((below_drewN _ _).mono HB2.out.size)).mono HB0.out.size)⟩
    ·have q15:=yo h15
     by_cases h17:xo=17
     ·have q:(xo == 17)=true:=by simp[h17]
      have HX:Hid (r=true):=by show _=_;rw[HV.out];simp[h17]
      clear HV h17
      go_enter Tryz.func82,Tryz.ntmps82
      go_wp2_with fail
      rw[<-HW1.out]
      clear HW1
      refine(HC1.out _ (Below.refl _ _)).mono ?_
      rintro e w2 ⟨rfl,hb2⟩
      have HB2:=Lib.hid hb2
      obtain⟨f0,f1⟩:=HK.out w2 hb2
      have hz1:w.heap.size<w2.heap.size:=Nat.lt_of_lt_of_le hsz hb2.size
      have hz2:b<w2.heap.size:=Nat.lt_of_lt_of_le hbl1 hb2.size
      have hz3:g<w2.heap.size:=Nat.lt_of_lt_of_le hgl hb2.size
      have f2:w2.cell? ⟨g,go+k * 3,none⟩=some (.int .i64 xo):=(hb2.cell (p:=⟨g,go+k * 3,none⟩) hgl).trans e0
      clear hb2 e0 kb
      go_wp2_with fail
      go_quiet (fail)
      go_wp2_with fail
      go_ret
      exact⟨by rw[HX.out];rfl,HB0.out.trans ((HB2.out.trans ((below_drewN _ _).mono HB2.out.size)).mono HB0.out.size)⟩
     ·have q17:=yo h17
      have HX:Hid (r=false):=by show _=_;rw[HV.out];simp[h12,h15,h17]
      clear HV
      go_enter Tryz.func82,Tryz.ntmps82
      go_wp2_with fail
      rw[<-HW1.out]
      clear HW1
      refine(HC1.out _ (Below.refl _ _)).mono ?_
      rintro e w2 ⟨rfl,hb2⟩
      have HB2:=Lib.hid hb2
      obtain⟨f0,f1⟩:=HK.out w2 hb2
      have hz1:w.heap.size<w2.heap.size:=Nat.lt_of_lt_of_le hsz hb2.size
      have hz2:b<w2.heap.size:=Nat.lt_of_lt_of_le hbl1 hb2.size
      have hz3:g<w2.heap.size:=Nat.lt_of_lt_of_le hgl hb2.size
      have f2:w2.cell? ⟨g,go+k * 3,none⟩=some (.int .i64 xo):=(hb2.cell (p:=⟨g,go+k * 3,none⟩) hgl).trans e0
      clear hb2 e0 kb
      go_wp2_with fail
      go_quiet (fail)
      go_wp2_with fail
      go_ret
      exact⟨by rw[HX.out];rfl,HB0.out.trans ((HB2.out.trans ((below_drewN _ _).mono HB2.out.size)).mono HB0.out.size)⟩
theorem right_r {w:World}{b o:Nat}{O:Ob.O}{sa ua va pa na ca:Option Addr}{sc uc vc pc nc cc:Nat}(hV:OV w b o O sa ua va pa na ca sc uc vc pc nc cc) (hB:Bd O) :
  Calls Tryz.prog 44 #[.pointer (some ⟨b,o,none⟩)] w fun e w'=>e=.returned (.bool (Ob.rightB O))/\Below w.heap.size w w':=by
 have HC1:Hid (∀ W,Below w.heap.size w W->Calls Tryz.prog 80 #[.pointer (some ⟨b,o,none⟩)] W fun e w'=>e=.returned (.bool (Ob.headB O))/\Below W.heap.size W w'):=fun W hW=>head_r (hV.below hW) hB
 have HC2:Hid (∀ W,Below w.heap.size w W->Calls Tryz.prog 81 #[.pointer (some ⟨b,o,none⟩)] W fun e w'=>e=.returned (.bool (Ob.procsB O))/\Below W.heap.size W w'):=fun W hW=>procs_r (hV.below hW) hB
 have HC3:Hid (∀ W,Below w.heap.size w W->Calls Tryz.prog 82 #[.pointer (some ⟨b,o,none⟩)] W fun e w'=>e=.returned (.bool (Ob.codeB O))/\Below W.heap.size W w'):=fun W hW=>code_r (hV.below hW) hB
 have HR:Hid (Ob.rightB O=(Ob.headB O && (Ob.procsB O && Ob.codeB O))):=rfl
 generalize Ob.rightB O=r at *
 generalize Ob.headB O=b1 at *
 generalize Ob.procsB O=b2 at *
 generalize Ob.codeB O=b3 at *
 clear hV hB
 have HB0:Hid (Below w.heap.size w w):=Below.refl _ _
 cases b1 with
 | false =>
  have HV:Hid (r=false):=by
   show _=_
   rw[HR.out]
   simp[*]
  clear HR
  go_enter Tryz.func44,Tryz.ntmps44
  go_wp2_with fail
  refine(HC1.out _ HB0.out).mono ?_
  rintro e wq0 ⟨rfl,hq0⟩
  have HB1:=Lib.hid (HB0.out.trans (hq0.mono HB0.out.size))
  clear hq0
  go_wp2_with fail
  go_ret
  exact⟨by rw[HV.out];rfl,HB1.out⟩
 | true =>
  cases b2 with
  | false =>
   have HV:Hid (r=false):=by
    show _=_
    rw[HR.out]
    simp[*]
   clear HR
   go_enter Tryz.func44,Tryz.ntmps44
   go_wp2_with fail
   refine(HC1.out _ HB0.out).mono ?_
   rintro e wq0 ⟨rfl,hq0⟩
   have HB1:=Lib.hid (HB0.out.trans (hq0.mono HB0.out.size))
   clear hq0
   go_wp2_with fail
   refine(HC2.out _ HB1.out).mono ?_
   rintro e wq1 ⟨rfl,hq1⟩
   have HB2:=Lib.hid (HB1.out.trans (hq1.mono HB1.out.size))
   clear hq1
   go_wp2_with fail
   go_ret
   exact⟨by rw[HV.out];rfl,HB2.out⟩
  | true =>
   cases b3 with
   | false =>
    have HV:Hid (r=false):=by
     show _=_
     rw[HR.out]
     simp[*]
    clear HR
    go_enter Tryz.func44,Tryz.ntmps44
    go_wp2_with fail
    refine(HC1.out _ HB0.out).mono ?_
    rintro e wq0 ⟨rfl,hq0⟩
    have HB1:=Lib.hid (HB0.out.trans (hq0.mono HB0.out.size))
    clear hq0
    go_wp2_with fail
    refine(HC2.out _ HB1.out).mono ?_
    rintro e wq1 ⟨rfl,hq1⟩
    have HB2:=Lib.hid (HB1.out.trans (hq1.mono HB1.out.size))
    clear hq1
    go_wp2_with fail
    refine(HC3.out _ HB2.out).mono ?_
    rintro e wq2 ⟨rfl,hq2⟩
    have HB3:=Lib.hid (HB2.out.trans (hq2.mono HB2.out.size))
    clear hq2
    go_wp2_with fail
    go_ret
    exact⟨by rw[HV.out];rfl,HB3.out⟩
   | true =>
    have HV:Hid (r=true):=by
     show _=_
     rw[HR.out]
     simp[*]
    clear HR
    go_enter Tryz.func44,Tryz.ntmps44
    go_wp2_with fail
    refine(HC1.out _ HB0.out).mono ?_
    rintro e wq0 ⟨rfl,hq0⟩
    have HB1:=Lib.hid (HB0.out.trans (hq0.mono HB0.out.size))
    clear hq0
    go_wp2_with fail
    refine(HC2.out _ HB1.out).mono ?_
    rintro e wq1 ⟨rfl,hq1⟩
    have HB2:=Lib.hid (HB1.out.trans (hq1.mono HB1.out.size))
    clear hq1
    go_wp2_with fail
    refine(HC3.out _ HB2.out).mono ?_
    rintro e wq2 ⟨rfl,hq2⟩
    have HB3:=Lib.hid (HB2.out.trans (hq2.mono HB2.out.size))
    clear hq2
    go_wp2_with fail
    go_ret
    exact⟨by rw[HV.out];rfl,HB3.out⟩
theorem right_oa {w:World}{b o:Nat}{O:Ob.O}(h:OA w b o O) (hB:Bd O):Calls Tryz.prog 44 #[.pointer (some ⟨b,o,none⟩)] w fun e w'=>e=.returned (.bool (Ob.rightB O))/\Below w.heap.size w w':=by
 obtain⟨sa,ua,va,pa,na,ca,sc,uc,vc,pc,nc,cc,h⟩:=h
 exact right_r h hB
theorem right_rb {O:Ob.O}(h:Ob.rightB O=true) (hc:∀ x∈O.code,Ob.I64 x.a):RB O:=by
 unfold Ob.rightB at h
 simp only [Bool.and_eq_true]at h
 obtain⟨h1,h2,h3⟩:=h
 unfold Ob.headB at h1
 simp only [Bool.and_eq_true]at h1
 obtain⟨n1,s1,u1,v1⟩:=h1
 unfold Ob.procsB at h2
 simp only [Bool.and_eq_true,decide_eq_true_eq]at h2
 obtain⟨p1,e1,m1⟩:=h2
 unfold Ob.codeB at h3
 simp only [Bool.and_eq_true]at h3
 obtain⟨c1,_⟩:=h3
 obtain⟨sl,s⟩:=Ob.allB_le s1
 obtain⟨ul,u⟩:=Ob.allB_le u1
 obtain⟨vl,v⟩:=Ob.allB_le v1
 obtain⟨pl,p⟩:=Ob.allB_le p1
 obtain⟨nl,n⟩:=Ob.allB_le m1
 obtain⟨cl,c⟩:=Ob.allB_le c1
 refine⟨Ob.nameB_len n1,sl,fun x hx=>?_,ul,fun x hx=>?_,vl,fun x hx=>?_,pl,fun x hx=>?_,nl,fun x hx=>Ob.nameB_len (n x hx),by omega,cl,fun x hx=>Ob.instB_rng ul (hc x hx) (c x hx)⟩
 ·have:=s x hx
  unfold Ob.symB at this
  simp only [Bool.and_eq_true,decide_eq_true_eq,Ob.lenB]at this
  exact⟨Ob.nameB_len this.1,by unfold Ob.I64;omega,by unfold Ob.I64;omega⟩
 ·have:=u x hx
  unfold Ob.otherB Ob.useB at this
  simp only [Bool.and_eq_true,decide_eq_true_eq]at this
  obtain⟨_,q1,q2,q3⟩:=this
  obtain⟨nl',n'⟩:=Ob.allB_le q3
  exact⟨Ob.nameB_len q1,q2,nl',fun y hy=>Ob.nameB_len (n' y hy)⟩
 ·have:=v x hx
  unfold Ob.varB at this
  simp only [Bool.and_eq_true,decide_eq_true_eq,Ob.lenB]at this
  exact⟨Ob.nameB_len this.1,this.2.1,by unfold Ob.I64;omega⟩
 ·have:=p x hx
  unfold Ob.entB at this
  simp only [Bool.and_eq_true,decide_eq_true_eq,Ob.countsB]at this
  exact⟨by unfold Ob.I64;omega,by unfold Ob.I64;omega,by unfold Ob.I64;omega⟩
theorem bytes_str {w:World}{B:Nat}{v:Value}{l:Bs}(h:w.ownsRow B 5 1 v l.length (u8s l)) (hl:l≠[]):(convert 98 9 v).run Tryz.prog w=.ok (.string (bs l)) w:=by
 rcases h.2 with⟨rfl,h0⟩|⟨g,cap,cur,rfl,q1,q2,q3,q4,q5,q6⟩
 ·exact absurd (List.eq_nil_of_length_eq_zero h0) hl
 ·refine run_convert_bytes_back w 98 9 5 ⟨g,0,none⟩ cap l Tryz.underlying98 Tryz.underlying5 Tryz.underlying9 (fun j hj=>?_)
  rw[Addr.add_lit,za q2,Nat.zero_add,<-Array.getElem?_toList]
  have e:(cur.toList.take (l.length * 1))[j]?=(u8s l)[j]?:=by rw[q6]
  rw[List.getElem?_take_of_lt (by omega)]at e
  rw[e]
  simp[u8s,hj]
theorem headW_ne (O:Ob.O):Ob.headW O≠[]:=by
 unfold Ob.headW Ob.txt
 intro h
 have:=congrArg List.length h
 have h2:=Ob.vb_pos (Ob.zig (O.name.length:Int))
 unfold Ob.num at this
 simp only [List.length_append,List.length_nil]at this
 omega
theorem headW_len {O:Ob.O}(h:RB O):(Ob.headW O).length<=40000:=by
 have h0:=yv (s:=O.name) (by have:=h.nm;omega)
 have h1:=jy Ob.smW 40 O.syms (fun x hx=>ql (h.s x hx)) (by have:=h.sl;omega)
 have h2:=jy Ob.usW 6040 O.uses (fun x hx=>qf (h.u x hx)) (by have:=h.ul;omega)
 have h3:=jy Ob.glW 31 O.vars (fun x hx=>glW_len (h.v x hx)) (by have:=h.vl;omega)
 have:=h.nm
 have:=h.sl
 have:=h.ul
 have:=h.vl
 unfold Ob.headW
 simp only [List.length_append]
 omega
def WriteP (O:Ob.O) (e:Ending):Prop:=if Ob.rightB O=true then e=.returned (.tuple #[.string (bs (Ob.obW O)),.nilIface]) else e=.returned (.tuple #[.string ⟨#[]⟩,.iface 97 (.int .i64 1)])
theorem write_oa {w:World}{b o:Nat}{O:Ob.O}(h:OA w b o O) (hB:Bd O):Calls Tryz.prog 15 #[.pointer (some ⟨b,o,none⟩)] w fun e w'=>WriteP O e/\Below w.heap.size w w':=by
 have HC:=Lib.hid (right_oa h hB)
 by_cases hr:Ob.rightB O=true
 ·have HP:Hid (∀ e,e=.returned (.tuple #[.string (bs (Ob.obW O)),.nilIface])->WriteP O e):=fun e he=>by unfold WriteP;rw[if_pos hr];exact he
  have hRB:=right_rb hr hB.c
  have HR:=Lib.hid hRB
  have HO:=Lib.hid h
  rw[hr]at HC
  clear h hB hr hRB
  have HNE:=Lib.hid (headW_ne O)
  have HLN:=Lib.hid (headW_len HR.out)
  have HOW:Hid (Ob.obW O=Ob.headW O++Ob.codeW O):=rfl
  rw[HOW.out]at HP
  generalize WriteP O=WP at *
  go_enter Tryz.func15,Tryz.ntmps15
  go_wp2_with fail
  refine HC.out.mono ?_
  rintro e w1 ⟨rfl,hb1⟩
  have HB1:=Lib.hid hb1
  have hO1:=HO.out.below hb1
  have hb2:Below w1.heap.size w1 (w1.alloc (.cells #[.slice none 0 0] 100)):=(Below.refl _ _).alloc (Nat.le_refl _) _
  have hst:Wst (w1.alloc (.cells #[.slice none 0 0] 100)) w1.heap.size (.slice none 0 0) []:=⟨(za (zk _ _)).trans rfl,zg (zk _ _),World.ownsRow_nil _ _ _ _⟩
  have HC2:=Lib.hid (head_w hst hO1 HR.out hb2 (Nat.le_refl _))
  have HO1:=Lib.hid hO1
  have HB2:=Lib.hid hb2
  have HST:=Lib.hid hst
  clear hO1 hb2 hst hb1 HC
  go_wp2_with fail
  generalize w1.alloc (.cells #[.slice none 0 0] 100)=w2 at *
  refine HC2.out.mono ?_
  rintro e w3 ⟨rfl,v3,h3,h4⟩
  have hB3:Below w1.heap.size w1 w3:=HB2.out.trans (HST.out.toBelow h4 (Nat.le_refl _))
  have HC3:=Lib.hid (code_w h3 HO1.out HR.out hB3 (Nat.le_refl _) (by have:=HLN.out;omega))
  have HB3:=Lib.hid hB3
  have HS3:=Lib.hid h3
  have HNT:Hid (Ob.headW O++Ob.codeW O≠[]):=fun e=>HNE.out (List.append_eq_nil_iff.1 e).1
  clear h3 h4 hB3 HC2
  generalize Ob.headW O++Ob.codeW O=T at *
  go_wp2_with fail
  refine HC3.out.mono ?_
  rintro e w4 ⟨rfl,v4,h5,h6⟩
  have HB4:Hid (Below w1.heap.size w1 w4):=HB3.out.trans ((HS3.out.toBelow h6 (Nat.le_refl _)).mono (Nat.le_refl _))
  have hcv:=bytes_str h5.own HNT.out
  have kc:=h5.c
  have hwl:=zc kc
  obtain⟨ao,cap,rfl⟩:=zl h5.own
  clear h5 h6 HC3
  go_wp2_with fail
  go_ret2
  exact⟨HP.out _ rfl,HB1.out.trans (HB4.out.mono HB1.out.size)⟩
 ·have HP:Hid (∀ e,e=.returned (.tuple #[.string ⟨#[]⟩,.iface 97 (.int .i64 1)])->WriteP O e):=fun e he=>by unfold WriteP;rw[if_neg hr];exact he
  have hrf:Ob.rightB O=false:=by simpa using hr
  rw[hrf]at HC
  clear h hB hr hrf
  generalize WriteP O=WP at *
  go_enter Tryz.func15,Tryz.ntmps15
  go_wp2_with fail
  refine HC.out.mono ?_
  rintro e w1 ⟨rfl,hb1⟩
  go_wp2_with fail
  go_ret2
  exact⟨HP.out _ rfl,hb1⟩
theorem sym_back {x:Ob.Sm}(h:x.name.length<=10/\Ob.I64 x.len/\Ob.I64 x.args) (t:Bs) (ht:(Ob.smW x++t).length<=1000000000000):Ob.symR (Ob.smW x++t)=some (x,t):=by
 unfold Ob.smW at ht ⊢
 simp only [List.append_assoc]at ht ⊢
 unfold Ob.symR
 rw[Ob.txtR_txt _ ht]
 simp only [Option.bind_some]
 rw[Ob.numR_num h.2.1]
 simp only [Option.bind_some]
 rw[Ob.numR_num h.2.2]
 rfl
theorem txt_back (s t:Bs) (ht:(Ob.txt s++t).length<=1000000000000):Ob.txtR (Ob.txt s++t)=some (s,t):=Ob.txtR_txt t ht
theorem use_back {x:Ob.Us}(h:x.names.length<=100) (t:Bs) (ht:(Ob.usW x++t).length<=1000000000000):Ob.useR (Ob.usW x++t)=some (x,t):=by
 unfold Ob.usW at ht ⊢
 simp only [List.append_assoc]at ht ⊢
 unfold Ob.useR
 rw[Ob.txtR_txt _ ht]
 simp only [Option.bind_some]
 simp only [List.length_append]at ht
 rw[Ob.txtR_txt _ (by simp only [List.length_append];omega)]
 simp only [Option.bind_some]
 rw[Ob.listR_lst x.names t (by omega) h (fun y _ t ht=>txt_back y t ht) (by simp only [List.length_append];omega)]
 rfl
theorem gl_back {x:Ob.Gl}(h:x.at'=0/\Ob.I64 x.len) (t:Bs) (ht:(Ob.glW x++t).length<=1000000000000):Ob.glR (Ob.glW x++t)=some (x,t):=by
 unfold Ob.glW at ht ⊢
 simp only [List.append_assoc]at ht ⊢
 unfold Ob.glR
 rw[Ob.txtR_txt _ ht]
 simp only [Option.bind_some]
 rw[Ob.numR_num h.2]
 simp only [Option.bind_some]
 rw[Ob.flagR_app]
 obtain⟨n,a,l,s⟩:=x
 simp only at h
 rw[h.1]
 rfl
theorem en_back {x:Ob.En}(h:Ob.I64 x.at'/\Ob.I64 x.args/\Ob.I64 x.locals) (t:Bs):Ob.enR (Ob.enW x++t)=some (x,t):=by
 unfold Ob.enW
 simp only [List.append_assoc]
 unfold Ob.enR
 rw[Ob.numR_num h.1]
 simp only [Option.bind_some]
 rw[Ob.numR_num h.2.1]
 simp only [Option.bind_some]
 rw[Ob.numR_num h.2.2]
 rfl
theorem in_back {x:Ob.In}(h:Ob.I64 x.op/\Ob.I64 x.a/\Ob.I64 x.b) (t:Bs):Ob.inR (Ob.inW x++t)=some (x,t):=by
 unfold Ob.inW
 simp only [List.append_assoc]
 unfold Ob.inR
 rw[Ob.numR_num h.1]
 simp only [Option.bind_some]
 rw[Ob.numR_num h.2.1]
 simp only [Option.bind_some]
 rw[Ob.numR_num h.2.2]
 rfl
theorem ob_back {O:Ob.O}(h:RB O) (t:Bs) (ht:(Ob.obW O++t).length<=1000000000000):Ob.obR (Ob.obW O++t)=some (O,t):=by
 unfold Ob.obW Ob.headW Ob.codeW at ht ⊢
 simp only [List.append_assoc]at ht ⊢
 unfold Ob.obR
 rw[Ob.txtR_txt _ ht]
 simp only [Option.bind_some]
 simp only [List.length_append]at ht
 rw[Ob.listR_lst O.syms _ (by omega) h.sl (fun x hx t ht=>sym_back (h.s x hx) t ht) (by simp only [List.length_append];omega)]
 simp only [Option.bind_some]
 rw[Ob.listR_lst O.uses _ (by omega) h.ul (fun x hx t ht=>use_back (h.u x hx).2.2.1 t ht) (by simp only [List.length_append];omega)]
 simp only [Option.bind_some]
 rw[Ob.listR_lst O.vars _ (by omega) h.vl (fun x hx t ht=>gl_back (h.v x hx).2 t ht) (by simp only [List.length_append];omega)]
 simp only [Option.bind_some]
 rw[Ob.listR_lst O.names _ (by omega) h.nl (fun x hx t ht=>txt_back x t ht) (by simp only [List.length_append];omega)]
 simp only [Option.bind_some]
 rw[<-h.pn,Ob.repR_app (B:=1000000000000) O.procs _ (fun x hx t _=>en_back (h.p x hx) t) (by simp only [List.length_append];omega)]
 simp only [Option.bind_some]
 rw[Ob.listR_lst O.code t (by omega) h.cl (fun x hx t ht=>in_back (h.c x hx) t) (by simp only [List.length_append];omega)]
 rfl
theorem nu_len:∀(l:Bs) (u bits x:Nat) (r:Bs),Ob.nu u bits l=some (x,r)->r.length<=l.length:=by
 intro l
 induction l with
 | nil=>intro u bits x r h;simp[Ob.nu]at h
 | cons b l ih =>
  intro u bits x r h
  simp only [Ob.nu]at h
  split at h
  ·simp at h;rw[<-h.2];simp
  ·have:=ih _ _ _ _ h;simp;omega
theorem y8 {l r:Bs}{n:Int}(h:Ob.numR l=some (n,r)):r.length<=l.length:=by
 unfold Ob.numR at h
 rcases hn:Ob.nu 0 0 l with _|⟨x,y⟩
 ·rw[hn]at h;simp at h
 ·rw[hn]at h
  simp at h
  have:=nu_len l 0 0 x y hn
  rw[<-h.2];exact this
theorem ur {most n:Nat}{l r:Bs}(h:Ob.manyR most l=some (n,r)):r.length<=l.length:=by
 unfold Ob.manyR at h
 rcases hn:Ob.numR l with _|⟨x,y⟩
 ·rw[hn]at h;simp at h
 ·rw[hn]at h
  simp only [Option.bind_some]at h
  split at h
  ·cases h;exact y8 hn
  ·cases h
theorem vN {n:Nat}{l s r:Bs}(h:Ob.takeR n l=some (s,r)):s.length<=l.length/\r.length<=l.length:=by
 unfold Ob.takeR at h
 split at h
 ·cases h;simp;omega
 ·cases h
theorem kC {l s r:Bs}(h:Ob.txtR l=some (s,r)):s.length<=l.length/\r.length<=l.length:=by
 unfold Ob.txtR at h
 rcases hn:Ob.manyR l.length l with _|⟨x,y⟩
 ·rw[hn]at h;simp at h
 ·rw[hn]at h
  simp only [Option.bind_some]at h
  have h1:=ur hn
  have h2:=vN h
  omega
theorem flagR_len {l r:Bs}{b:Bool}(h:Ob.flagR l=some (b,r)):r.length<=l.length:=by
 unfold Ob.flagR at h
 rcases hn:Ob.takeR 1 l with _|⟨x,y⟩
 ·rw[hn]at h;simp at h
 ·rw[hn]at h
  simp at h
  rw[<-h.2];exact(vN hn).2
theorem rep_all {α:Type}{one:Ob.Rd α}{P:α->Prop}{B:Nat}(h1:∀ l x r,l.length<=B->one l=some (x,r)->P x/\r.length<=B):∀(n:Nat) (l r:Bs) (xs:List α),l.length<=B->Ob.repR one n l=some (xs,r)->(∀ x∈xs,P x)/\r.length<=B:=by
 intro n
 induction n with
 | zero=>intro l r xs hl h;simp[Ob.repR]at h;rw[h.1,<-h.2];exact⟨by simp,hl⟩
 | succ n ih =>
  intro l r xs hl h
  simp only [Ob.repR]at h
  rcases ho:one l with _|⟨x,r1⟩
  ·rw[ho]at h;simp at h
  ·rw[ho]at h
   simp only [Option.bind_some]at h
   rcases h2:Ob.repR one n r1 with _|⟨ys,r2⟩
   ·rw[h2]at h;simp at h
   ·rw[h2]at h
    simp at h
    obtain⟨p1,p2⟩:=h1 l x r1 hl ho
    obtain⟨p3,p4⟩:=ih r1 r2 ys p2 h2
    rw[<-h.1,<-h.2]
    exact⟨by intro z hz;rcases List.mem_cons.1 hz with rfl|hz;exact p1;exact p3 z hz,p4⟩
theorem kM {α:Type}{one:Ob.Rd α}{P:α->Prop}{B most:Nat}(h1:∀ l x r,l.length<=B->one l=some (x,r)->P x/\r.length<=B) {l r:Bs}{xs:List α}(hl:l.length<=B) (h:Ob.listR most one l=some (xs,r)):xs.length<=most/\(∀ x∈xs,P x)/\r.length<=B:=by
 refine⟨list_le h,?_⟩
 unfold Ob.listR at h
 rcases hn:Ob.manyR most l with _|⟨n,r1⟩
 ·rw[hn]at h;simp at h
 ·rw[hn]at h
  simp only [Option.bind_some]at h
  exact rep_all h1 n r1 r xs (Nat.le_trans (ur hn) hl) h
theorem zM {α β:Type}{o:Option α}{f:α->Option β}{b:β}(h:o.bind f=some b):∃ a,o=some a/\f a=some b:=by
 cases o with
 | none=>cases h
 | some a=>exact⟨a,rfl,h⟩
theorem yR {α β:Type}{o:Option α}{f:α->β}{b:β}(h:o.map f=some b):∃ a,o=some a/\f a=b:=by
 cases o with
 | none=>cases h
 | some a=>exact⟨a,rfl,by simpa using h⟩
theorem sym_all {B:Nat}(l:Bs) (x:Ob.Sm) (r:Bs) (hl:l.length<=B) (h:Ob.symR l=some (x,r)):x.name.length<=B/\r.length<=B:=by
 unfold Ob.symR at h
 obtain⟨a,ha,h⟩:=zM h
 obtain⟨b,hb,h⟩:=zM h
 obtain⟨c,hc,h⟩:=yR h
 have h1:=kC ha
 have h2:=y8 hb
 have h3:=y8 hc
 cases h
 exact⟨by show a.1.length<=B;omega,by omega⟩
theorem gl_all {B:Nat}(l:Bs) (x:Ob.Gl) (r:Bs) (hl:l.length<=B) (h:Ob.glR l=some (x,r)):x.name.length<=B/\r.length<=B:=by
 unfold Ob.glR at h
 obtain⟨a,ha,h⟩:=zM h
 obtain⟨b,hb,h⟩:=zM h
 obtain⟨c,hc,h⟩:=yR h
 have h1:=kC ha
 have h2:=y8 hb
 have h3:=flagR_len hc
 cases h
 exact⟨by show a.1.length<=B;omega,by omega⟩
theorem txt_all {B:Nat}(l:Bs) (x:Bs) (r:Bs) (hl:l.length<=B) (h:Ob.txtR l=some (x,r)):x.length<=B/\r.length<=B:=by
 have:=kC h;omega
theorem use_all {B:Nat}(l:Bs) (x:Ob.Us) (r:Bs) (hl:l.length<=B) (h:Ob.useR l=some (x,r)):(x.name.length<=B/\x.names.length<=100/\∀ y∈x.names,y.length<=B)/\r.length<=B:=by
 unfold Ob.useR at h
 obtain⟨a,ha,h⟩:=zM h
 obtain⟨b,hb,h⟩:=zM h
 obtain⟨c,hc,h⟩:=yR h
 have h1:=kC ha
 have h2:=kC hb
 obtain⟨c1,c2,c3⟩:=kM (B:=B) (txt_all (B:=B)) (by omega) hc
 cases h
 exact⟨⟨by show a.1.length<=B;omega,c1,c2⟩,c3⟩
theorem en_all {B:Nat}(l:Bs) (x:Ob.En) (r:Bs) (hl:l.length<=B) (h:Ob.enR l=some (x,r)):True/\r.length<=B:=by
 unfold Ob.enR at h
 obtain⟨a,ha,h⟩:=zM h
 obtain⟨b,hb,h⟩:=zM h
 obtain⟨c,hc,h⟩:=yR h
 have h1:=y8 ha
 have h2:=y8 hb
 have h3:=y8 hc
 cases h
 exact⟨trivial,by omega⟩
theorem in_all {B:Nat}(l:Bs) (x:Ob.In) (r:Bs) (hl:l.length<=B) (h:Ob.inR l=some (x,r)):Ob.I64 x.a/\r.length<=B:=by
 unfold Ob.inR at h
 obtain⟨a,ha,h⟩:=zM h
 obtain⟨b,hb,h⟩:=zM h
 obtain⟨c,hc,h⟩:=yR h
 have h1:=y8 ha
 have h2:=y8 hb
 have h3:=y8 hc
 cases h
 exact⟨Ob.numR_rng hb,by omega⟩
theorem ob_bd {l r:Bs}{O:Ob.O}(hl:l.length<=1000000000) (h:Ob.obR l=some (O,r)):Bd O:=by
 unfold Ob.obR at h
 obtain⟨a,ha,h⟩:=zM h
 obtain⟨s,hs,h⟩:=zM h
 obtain⟨u,hu,h⟩:=zM h
 obtain⟨v,hv,h⟩:=zM h
 obtain⟨m,hm,h⟩:=zM h
 obtain⟨p,hp,h⟩:=zM h
 obtain⟨c,hc,h⟩:=yR h
 have h1:=kC ha
 obtain⟨s1,s2,s3⟩:=kM (B:=1000000000) (sym_all (B:=1000000000)) (by omega) hs
 obtain⟨u1,u2,u3⟩:=kM (B:=1000000000) (use_all (B:=1000000000)) s3 hu
 obtain⟨v1,v2,v3⟩:=kM (B:=1000000000) (gl_all (B:=1000000000)) u3 hv
 obtain⟨m1,m2,m3⟩:=kM (B:=1000000000) (txt_all (B:=1000000000)) v3 hm
 obtain⟨p2,p3⟩:=rep_all (B:=1000000000) (en_all (B:=1000000000)) _ _ _ _ m3 hp
 have p1:=rep_len hp
 obtain⟨c1,c2,c3⟩:=kM (B:=1000000000) (in_all (B:=1000000000)) p3 hc
 cases h
 exact⟨by show a.1.length<=_;omega,by show s.1.length<=_;omega,s2,by show u.1.length<=_;omega,fun x hx=>⟨(u2 x hx).1,by have:=(u2 x hx).2.1;omega,(u2 x hx).2.2⟩,by show v.1.length<=_;omega,v2,by show p.1.length<=_;omega,by show m.1.length<=_;omega,m2,by show c.1.length<=_;omega,c2⟩
def parseB (l:Bs):Option Ob.O:=match Ob.obR l with
 | none=>none
 | some (O,_)=>if Ob.rightB O=true/\Ob.obW O=l then some O else none
theorem qr {O:Ob.O}(hR:Ob.rightB O=true) (hc:∀ x∈O.code,Ob.I64 x.a) (hl:(Ob.obW O).length<=1000000000):parseB (Ob.obW O)=some O:=by
 have h:=ob_back (right_rb hR hc) [] (by simpa using Nat.le_trans hl (by omega))
 rw[List.append_nil]at h
 unfold parseB
 rw[h]
 simp[hR]
def ParseP (l:Bs) (e:Ending) (w':World):Prop:=match parseB l with
 | none=>e=.returned (.tuple #[.pointer none,.iface 97 (.int .i64 3)])
 | some O=>∃ ob,e=.returned (.tuple #[.pointer (some ⟨ob,0,none⟩),.nilIface])/\OA w' ob 0 O
theorem kG (w:World) (l:Bs) (hl:l.length<=1000000000) :
  Calls Tryz.prog 18 #[.string (bs l)] w fun e w'=>ParseP l e w'/\Below w.heap.size w w':=by
 have HC:=Lib.hid (read_post w l hl)
 rcases ho:Ob.obR l with _|⟨O,r⟩
 ·have HP:Hid (∀ e w',e=.returned (.tuple #[.pointer none,.iface 97 (.int .i64 3)])->ParseP l e w'):=fun e w' he=>by unfold ParseP parseB;rw[ho];exact he
  have HQ:Hid (∀ e w',ReadP w l e w'->e=.returned (.tuple #[.pointer none,.iface 97 (.int .i64 3)])):=fun e w' he=>by unfold ReadP at he;rw[ho]at he;exact he
  clear ho
  generalize ParseP l=PP at *
  go_enter Tryz.func18,Tryz.ntmps18
  go_wp2_with fail
  refine HC.out.mono ?_
  rintro e w1 ⟨hb1,hq⟩
  obtain rfl:=HQ.out _ _ hq
  clear hq
  go_wp2_with fail
  go_ret2
  exact⟨HP.out _ _ rfl,hb1⟩
 ·have hbd:=ob_bd hl ho
  have HBD:=Lib.hid hbd
  have HQ:Hid (∀ e w',ReadP w l e w'->∃ a,e=.returned (.tuple #[.pointer (some a),.nilIface])/\VOb w.heap.size O (.pointer (some a)) w'):=fun e w' he=>by unfold ReadP at he;rw[ho]at he;exact he
  have HPP:Hid (parseB l=if Ob.rightB O=true/\Ob.obW O=l then some O else none):=by show _=_;unfold parseB;rw[ho]
  clear ho hbd
  by_cases hr:Ob.rightB O=true
  ·have HW:Hid (∀ e,WriteP O e->e=.returned (.tuple #[.string (bs (Ob.obW O)),.nilIface])):=fun e he=>by unfold WriteP at he;rw[if_pos hr]at he;exact he
   have hbq:=bs_beq (Ob.obW O) l
   by_cases he:Ob.obW O=l
   ·have heq:((bs (Ob.obW O)).toList == (bs l).toList)=true:=by rw[hbq];exact decide_eq_true he
    have HP:Hid (∀ e w',(∃ ob,e=.returned (.tuple #[.pointer (some ⟨ob,0,none⟩),.nilIface])/\OA w' ob 0 O)->ParseP l e w'):=fun e w' h=>by unfold ParseP;rw[HPP.out,if_pos ⟨hr,he⟩];exact h
    clear hbq he hr HPP
    generalize Ob.obW O=T at *
    generalize ParseP l=PP at *
    go_enter Tryz.func18,Tryz.ntmps18
    go_wp2_with fail
    refine HC.out.mono ?_
    rintro e w1 ⟨hb1,hq⟩
    obtain⟨a,rfl,hv⟩:=HQ.out _ _ hq
    obtain⟨ob,rfl,_,hoa⟩:=hv.oa
    have HB1:=Lib.hid hb1
    have HOA:=Lib.hid hoa
    clear hq hv hoa hb1 HC
    go_wp2_with fail
    refine(write_oa HOA.out HBD.out).mono ?_
    rintro e w2 ⟨hq,hb2⟩
    obtain rfl:=HW.out _ hq
    have HB2:=Lib.hid hb2
    clear hq hb2
    go_wp2_with fail
    go_ret2
    exact⟨HP.out _ _ ⟨ob,rfl,HOA.out.below HB2.out⟩,HB1.out.trans (HB2.out.mono HB1.out.size)⟩
   ·have heq:((bs (Ob.obW O)).toList == (bs l).toList)=false:=by rw[hbq];exact decide_eq_false he
    have HP:Hid (∀ e w',e=.returned (.tuple #[.pointer none,.iface 97 (.int .i64 3)])->ParseP l e w'):=fun e w' h=>by unfold ParseP;rw[HPP.out,if_neg (fun q=>he q.2)];exact h
    clear hbq he hr HPP
    generalize Ob.obW O=T at *
    generalize ParseP l=PP at *
    go_enter Tryz.func18,Tryz.ntmps18
    go_wp2_with fail
    refine HC.out.mono ?_
    rintro e w1 ⟨hb1,hq⟩
    obtain⟨a,rfl,hv⟩:=HQ.out _ _ hq
    obtain⟨ob,rfl,_,hoa⟩:=hv.oa
    have HB1:=Lib.hid hb1
    have HOA:=Lib.hid hoa
    clear hq hv hoa hb1 HC
    go_wp2_with fail
    refine(write_oa HOA.out HBD.out).mono ?_
    rintro e w2 ⟨hq,hb2⟩
    obtain rfl:=HW.out _ hq
    have HB2:=Lib.hid hb2
    clear hq hb2
    go_wp2_with fail
    go_ret2
    exact⟨HP.out _ _ rfl,HB1.out.trans (HB2.out.mono HB1.out.size)⟩
  ·have HW:Hid (∀ e,WriteP O e->e=.returned (.tuple #[.string ⟨#[]⟩,.iface 97 (.int .i64 1)])):=fun e he=>by unfold WriteP at he;rw[if_neg hr]at he;exact he
   have HP:Hid (∀ e w',e=.returned (.tuple #[.pointer none,.iface 97 (.int .i64 3)])->ParseP l e w'):=fun e w' h=>by unfold ParseP;rw[HPP.out,if_neg (fun q=>hr q.1)];exact h
   clear hr HPP
   generalize ParseP l=PP at *
   go_enter Tryz.func18,Tryz.ntmps18
   go_wp2_with fail
   refine HC.out.mono ?_
   rintro e w1 ⟨hb1,hq⟩
   obtain⟨a,rfl,hv⟩:=HQ.out _ _ hq
   obtain⟨ob,rfl,_,hoa⟩:=hv.oa
   have HB1:=Lib.hid hb1
   have HOA:=Lib.hid hoa
   clear hq hv hoa hb1 HC
   go_wp2_with fail
   refine(write_oa HOA.out HBD.out).mono ?_
   rintro e w2 ⟨hq,hb2⟩
   obtain rfl:=HW.out _ hq
   have HB2:=Lib.hid hb2
   clear hq hb2
   go_wp2_with fail
   go_ret2
   exact⟨HP.out _ _ rfl,HB1.out.trans (HB2.out.mono HB1.out.size)⟩
def O0:Ob.O:=⟨[109],[],[],[],[],[],[⟨1,-3,0⟩,⟨17,0,0⟩]⟩
def L0:Bs:=[2,109,0,0,0,0,4,2,5,0,34,0,0]
theorem vb_small {u:Nat}(h:u<128):Ob.vb u=[UInt8.ofNat u]:=by unfold Ob.vb;rw[if_pos h]
theorem km {n:Int}{u:Nat}(hz:Ob.zig n=u) (h:u<128):Ob.num n=[UInt8.ofNat u]:=by unfold Ob.num;rw[hz];exact vb_small h
theorem O0_w:Ob.obW O0=L0:=by
 have n0:Ob.num 0=[0]:=km (u:=0) (by decide) (by decide)
 have n1:Ob.num 1=[2]:=km (u:=2) (by decide) (by decide)
 have n2:Ob.num 2=[4]:=km (u:=4) (by decide) (by decide)
 have n3:Ob.num (-3)=[5]:=km (u:=5) (by decide) (by decide)
 have n17:Ob.num 17=[34]:=km (u:=34) (by decide) (by decide)
 simp[Ob.obW,Ob.headW,Ob.codeW,Ob.lst,Ob.txt,Ob.inW,O0,n0,n1,n2,n3,n17,L0]
theorem O0_r:Ob.rightB O0=true:=by decide +kernel
theorem O0_bd:Bd O0:=by
 refine⟨by decide,by decide,fun x hx=>by simp[O0]at hx,by decide,fun x hx=>by simp[O0]at hx,by decide,fun x hx=>by simp[O0]at hx,by decide,by decide,fun x hx=>by simp[O0]at hx,by decide,fun x hx=>?_⟩
 simp[O0]at hx
 rcases hx with rfl|rfl <;> (unfold Ob.I64;decide)
theorem O0_p:parseB L0=some O0:=by
 rw[<-O0_w]
 exact qr O0_r O0_bd.c (by rw[O0_w];decide)
theorem prefix_l (w:World):Calls Tryz.prog 49 #[.string ⟨#[2,109,0,0,0,0,4,2,5,0,34,0,0]⟩,.string ⟨#[2,109,0,0,0,0,4,2,5,0]⟩] w fun e w'=>e=.returned (.bool true)/\w'=w:=by
 have hx:(((⟨#[2,109,0,0,0,0,4,2,5,0,34,0,0]⟩:ByteArray).extract 0 10).toList == [2,109,0,0,0,0,4,2,5,0])=true:=by rw[ByteArray.toList_eq];rfl
 go_enter Tryz.func49,Tryz.ntmps49
 go_wp2_with fail
 go_ret
 exact⟨rfl,rfl⟩
theorem prefix_s (w:World):Calls Tryz.prog 19 #[.string ⟨#[2,109,0,0,0,0,4,2,5,0,34,0,0]⟩,.string ⟨#[2,109,0,0,0,0,4,2,5,0]⟩] w fun e w'=>e=.returned (.bool true)/\w'=w:=by
 go_enter Tryz.func19,Tryz.ntmps19
 go_wp2_with fail
 refine(prefix_l w).mono ?_
 rintro e w' ⟨rfl,rfl⟩
 go_wp2_with fail
 go_ret
 exact⟨rfl,rfl⟩
theorem O0_at (w:World):OA ((w.alloc (.cells #[.int .i64 1,.int .i64 (-3),.int .i64 0,.int .i64 17,.int .i64 0,.int .i64 0] 54)).alloc (.cells #[.string ⟨#[109]⟩,.slice none 0 0,.slice none 0 0,.slice none 0 0,.slice none 0 0,.slice none 0 0,.slice (some ⟨w.heap.size,0,none⟩) 2 2] 59)) (w.heap.size+1) 0 O0:=by
 have h1:=zk w (.cells #[.int .i64 1,.int .i64 (-3),.int .i64 0,.int .i64 17,.int .i64 0,.int .i64 0] 54)
 have h2:=zk (w.alloc (.cells #[.int .i64 1,.int .i64 (-3),.int .i64 0,.int .i64 17,.int .i64 0,.int .i64 0] 54)) (.cells #[.string ⟨#[109]⟩,.slice none 0 0,.slice none 0 0,.slice none 0 0,.slice none 0 0,.slice none 0 0,.slice (some ⟨w.heap.size,0,none⟩) 2 2] 59)
 have e:(w.alloc (.cells #[.int .i64 1,.int .i64 (-3),.int .i64 0,.int .i64 17,.int .i64 0,.int .i64 0] 54)).heap.size=w.heap.size+1:=by simp
 rw[e]at h2
 have h3:((w.alloc (.cells #[.int .i64 1,.int .i64 (-3),.int .i64 0,.int .i64 17,.int .i64 0,.int .i64 0] 54)).alloc (.cells #[.string ⟨#[109]⟩,.slice none 0 0,.slice none 0 0,.slice none 0 0,.slice none 0 0,.slice none 0 0,.slice (some ⟨w.heap.size,0,none⟩) 2 2] 59)).heap[w.heap.size]?=some (.cells #[.int .i64 1,.int .i64 (-3),.int .i64 0,.int .i64 17,.int .i64 0,.int .i64 0] 54 (0,0)):=(Below.heap_alloc _ _ _ (by simp)).trans h1
 generalize (w.alloc (.cells #[.int .i64 1,.int .i64 (-3),.int .i64 0,.int .i64 17,.int .i64 0,.int .i64 0] 54)).alloc (.cells #[.string ⟨#[109]⟩,.slice none 0 0,.slice none 0 0,.slice none 0 0,.slice none 0 0,.slice none 0 0,.slice (some ⟨w.heap.size,0,none⟩) 2 2] 59)=W at *
 have hnil:∀ k,Sl W (.slice none 0 0) k 0 []:=fun k=>⟨_,_,rfl,by simp,fun j u hj=>by simp at hj⟩
 refine⟨none,none,none,none,none,some ⟨w.heap.size,0,none⟩,0,0,0,0,0,2,⟨(za h2).trans rfl,(za h2).trans rfl,(za h2).trans rfl,(za h2).trans rfl,(za h2).trans rfl,(za h2).trans rfl,(za h2).trans rfl,hnil 3,⟨[],rfl,hnil 3⟩,hnil 4,hnil 3,hnil 1,⟨_,_,rfl,rfl,fun j u hj=>⟨w.heap.size,0,rfl,?_⟩⟩⟩⟩
 rw[za h3,Nat.zero_add]
 rw[<-hj]
 match j with
 | 0|1|2|3|4|5=>rfl
 | j+6=>simp[cellsOf,O0,inC]
theorem written_any (w:World):Calls Tryz.prog 5 #[] w fun e w'=>e=.returned (.bool true)/\Below w.heap.size w w':=by
 have hb0:Below w.heap.size w ((w.alloc (.cells #[.int .i64 1,.int .i64 (-3),.int .i64 0,.int .i64 17,.int .i64 0,.int .i64 0] 54)).alloc (.cells #[.string ⟨#[109]⟩,.slice none 0 0,.slice none 0 0,.slice none 0 0,.slice none 0 0,.slice none 0 0,.slice (some ⟨w.heap.size,0,none⟩) 2 2] 59)):=((Below.refl _ _).alloc (Nat.le_refl _) _).alloc (by simp) _
 have HB0:=Lib.hid hb0
 have HC:=Lib.hid (write_oa (O0_at w) O0_bd)
 have HW:Hid (∀ e,WriteP O0 e->e=.returned (.tuple #[.string ⟨#[2,109,0,0,0,0,4,2,5,0,34,0,0]⟩,.nilIface])):=fun e he=>by unfold WriteP at he;rw[if_pos O0_r,O0_w]at he;exact he
 have HP:Hid (∀ W,Calls Tryz.prog 18 #[.string ⟨#[2,109,0,0,0,0,4,2,5,0,34,0,0]⟩] W fun e w'=>(∃ ob,e=.returned (.tuple #[.pointer (some ⟨ob,0,none⟩),.nilIface])/\OA w' ob 0 O0)/\Below W.heap.size W w'):=fun W=>(kG W L0 (by decide)).mono (fun e w' h=>by
  refine⟨?_,h.2⟩
  have:=h.1
  unfold ParseP at this
  rw[O0_p]at this
  exact this)
 clear hb0
 go_enter Tryz.func5,Tryz.ntmps5
 go_wp2_with fail
 refine HC.out.mono ?_
 rintro e w1 ⟨hq,hb1⟩
 obtain rfl:=HW.out _ hq
 have HB1:=Lib.hid (HB0.out.trans (hb1.mono HB0.out.size))
 clear hq hb1 HC
 go_wp2_with fail
 refine(HP.out _).mono ?_
 rintro e w2 ⟨⟨ob,rfl,hoa⟩,hb2⟩
 have HB2:=Lib.hid (HB1.out.trans (hb2.mono HB1.out.size))
 obtain⟨sa,ua,va,pa,na,ca,sc,uc,vc,pc,nc,cc,hV⟩:=hoa
 have c6:w2.cell? ⟨ob,6,none⟩=some (.slice ca 2 cc):=hV.c6
 have hol:=zc c6
 obtain⟨g,go,rfl,hgl,hcell⟩:=hV.c.at' vt (by omega) 0 (by decide)
 have e1:w2.cell? ⟨g,go+1,none⟩=some (.int .i64 (-3)):=by have:=hcell 1 _ rfl;simpa[O0] using this
 clear hV hcell hb2
 go_wp2_with (first|(go_at_call 19;refine(prefix_s _).mono ?_;rintro e w3 ⟨rfl,hw3⟩;rw[hw3];clear hw3))
 go_ret
 exact⟨rfl,HB2.out⟩
end Go.Proofs.YtmocelfkmdpogaaGreatDoor.Jo
