/- OptSame: less code is not otherwise: whatever object it is, no more of its code ends as it does, told so, and no later, if it ends by itself: for every object, name and numbers the call returns true. -/
import Derived.Test.YtmnedfdffbbchaaGreatDoorKTa
import Derived.Test.YtmnedfdffbbchaaGreatDoorKJd
import Derived.ChangeSlices
import Derived.Lib.LaidTab
import Derived.OpenShut
import Derived.ProofKit
import Derived.LaidHandle
import Derived.LaidSub
import Derived.Test.YtmnedfdffbbchaaGreatDoorCards
import Derived.Test.YtmnedfdffbbchaaGreatDoorTie
import Derived.Deep.DeepHandedRow
import Derived.SliceStrings
set_option maxRecDepth 100000
set_option maxHeartbeats 4000000

namespace Go.Proofs.YtmnedfdffbbchaaGreatDoor.Jo
open Go.RowKit Go.Maps
open Ob (O In I64)
open Vm (St Fr Pl)
def OpP (w:World) (e:Ending) (w':World):Prop:=e=.returned (.bool true)/\Below w.heap.size w w'
theorem opt_big {w:World}(p:Option Addr) (x:Tp.Bs) (sp:Option Addr) (n lc:Nat) {sb:Bool}(hs:Calls Tryz.prog 4 #[.pointer p] w fun e w'=>e=.returned (.bool sb)/\Below w.heap.size w w') (h:sb=false\/40<x.length\/10<n):Calls Tryz.prog 3 #[.pointer p,.string (bs x),.slice sp n lc] w (OpP w):=by
 have hz:=kP x
 have HS:=zh hs
 clear hs
 cases sb with
 | false =>
  clear h
  go_enter Tryz.func3,Tryz.ntmps3
  go_wp2_with fail
  refine HS.out.mono ?_
  rintro e w1 ⟨rfl,hb1⟩
  go_wp2_with fail
  go_ret
  exact⟨rfl,hb1⟩
 | true =>
  by_cases h1:40<x.length
  ·have hl':(40:Int)<(x.length:Int):=by omega
   clear h
   go_enter Tryz.func3,Tryz.ntmps3
   go_wp2_with fail
   refine HS.out.mono ?_
   rintro e w1 ⟨rfl,hb1⟩
   go_wp2_with fail
   go_ret
   exact⟨rfl,hb1⟩
  ·have hl':¬(40:Int)<(x.length:Int):=by omega
   have d1:decide ((40:Int)<(x.length:Int))=false:=decide_eq_false hl'
   have h2:10<n:=by
    rcases h with h|h|h
    ·cases h
    ·omega
    ·exact h
   have hn':(10:Int)<(n:Int):=by omega
   clear h
   go_enter Tryz.func3,Tryz.ntmps3
   go_wp2_with fail
   refine HS.out.mono ?_
   rintro e w1 ⟨rfl,hb1⟩
   go_wp2_with fail
   go_ret
   exact⟨rfl,hb1⟩
theorem opt_bad {w:World}(hv:VarsO w) (p:Option Addr) (x:Tp.Bs) (hx:x.length<=40) (sp:Option Addr) {n:Nat}(hn:n<=10) (lc:Nat) (hs:Calls Tryz.prog 4 #[.pointer p] w fun e w'=>e=.returned (.bool true)/\Below w.heap.size w w') (hle:∀ W,Below w.heap.size w W->Calls Tryz.prog 6 #[.pointer p] W fun e w'=>e=.returned (.tuple #[.pointer none,erV 1])/\Below W.heap.size W w') (hr:∀ W,Below w.heap.size w W->Calls Tryz.prog 7 #[.pointer p] W fun e w'=>e=.returned (.bool false)/\Below W.heap.size W w'):Calls Tryz.prog 3 #[.pointer p,.string (bs x),.slice sp n lc] w (OpP w):=by
 have hz:=kP x
 have hl':¬(40:Int)<(x.length:Int):=by omega
 have d1:decide ((40:Int)<(x.length:Int))=false:=decide_eq_false hl'
 have hn':¬(10:Int)<(n:Int):=by omega
 have d2:decide ((10:Int)<(n:Int))=false:=decide_eq_false hn'
 have HS:=zh hs
 have HV:=zh hv
 have HLE:=zh hle
 have HR:=zh hr
 clear hs hv hle hr hx hn
 go_enter Tryz.func3,Tryz.ntmps3
 go_wp2_with fail
 refine HS.out.mono ?_
 rintro e w1 ⟨rfl,hb1⟩
 have HB1:=zh hb1
 have HLN:=zh (kX (HV.out.on hb1).mr)
 clear hb1 HS
 go_wp2_with fail
 refine HLN.out.mono ?_
 rintro e w2 ⟨rfl,hb2⟩
 have HB2:Hid (Below w.heap.size w w2):=HB1.out.trans (hb2.mono HB1.out.size)
 have HL2:=zh (HLE.out w2 HB2.out)
 clear hb2 HLN HLE HB1
 go_wp2_with fail
 refine HL2.out.mono ?_
 rintro e w3 ⟨rfl,hb3⟩
 have HB3:Hid (Below w.heap.size w w3):=HB2.out.trans (hb3.mono HB2.out.size)
 have HR3:=zh (HR.out w3 HB3.out)
 clear hb3 HL2 HR HB2
 go_wp2_with fail
 refine HR3.out.mono ?_
 rintro e w4 ⟨rfl,hb4⟩
 have HB4:Hid (Below w.heap.size w w4):=HB3.out.trans (hb4.mono HB3.out.size)
 have HT:=zh (j9 (HV.out.on HB4.out).et 1)
 clear hb4 HR3 HB3
 go_wp2_with fail
 refine HT.out.mono ?_
 rintro e w5 ⟨rfl,hb5⟩
 have HB5:Hid (Below w.heap.size w w5):=HB4.out.trans (hb5.mono HB4.out.size)
 clear hb5 HT HB4
 go_wp2_with fail
 go_ret
 exact⟨rfl,HB5.out⟩
theorem Args8.on {W w:World}{sp:Option Addr}{l:List Int}(h:Args8 W sp l) (hb:Below W.heap.size W w):Args8 w sp l:=fun hl=>by
 obtain⟨ad,e,h2,h3,h4⟩:=h hl
 refine⟨ad,e,h2,Nat.lt_of_lt_of_le h3 hb.size,fun j v hj=>?_⟩
 obtain⟨b,o,q⟩:=ad
 have h2:q=none:=h2
 subst h2
 rw[<-h4 j v hj,Addr.add_lit]
 exact hb.cell (p:=⟨b,o+j,none⟩) h3
theorem opt_good {w:World}(hv:VarsO w) {ob oo:Nat}{o:O}(hoa:OA w ob oo o) (hsm:smallB o=true) (h64:∀ x∈o.code,I64 x.a) (hrt:Ob.rightB o=true) (x:Tp.Bs) (hx:x.length<=40) {sp:Option Addr}{l:List Int}(hl:l.length<=10) (hl64:∀ v∈l,I64 v) (hag:Args8 w sp l) (lc:Nat):Calls Tryz.prog 3 #[.pointer (some ⟨ob,oo,none⟩),.string (bs x),.slice sp l.length lc] w (OpP w):=by
 have hBd:=small_bd hsm h64
 have hz:=kP x
 have hl':¬(40:Int)<(x.length:Int):=by omega
 have d1:decide ((40:Int)<(x.length:Int))=false:=decide_eq_false hl'
 have hn':¬(10:Int)<(l.length:Int):=by omega
 have d2:decide ((10:Int)<(l.length:Int))=false:=decide_eq_false hn'
 have HS:Hid (Calls Tryz.prog 4 #[.pointer (some ⟨ob,oo,none⟩)] w fun e w'=>e=.returned (.bool true)/\Below w.heap.size w w'):=by
  have:=xx hoa
  rw[hsm]at this
  exact this
 have HV:=zh hv
 have HOA:Hid (∀ W,Below w.heap.size w W->OA W ob oo o):=fun W h=>hoa.below h
 have HLE:Hid (∀ W,Below w.heap.size w W->Calls Tryz.prog 6 #[.pointer (some ⟨ob,oo,none⟩)] W (LessQ W o)):=fun W h=>by
  obtain⟨sa,ua,va,pa,na,ca,sc,uc,vc,pc,nc,cc,q⟩:=hoa.below h
  exact(xH q hBd (hv.on h).mr).mono fun e w' k=>less_yes hrt k
 have HR:Hid (∀ W,Below w.heap.size w W->Calls Tryz.prog 7 #[.pointer (some ⟨ob,oo,none⟩)] W fun e w'=>e=.returned (.bool true)/\Below W.heap.size W w'):=fun W h=>by
  have:=k8 (hoa.below h) hBd
  rw[hrt]at this
  exact this
 have HBD:=zh hBd
 have HRT:=zh hrt
 have HAG:Hid (l.length<=10/\(∀ v∈l,I64 v)/\Args8 w sp l):=⟨hl,hl64,hag⟩
 clear hBd hsm h64 hrt hx hl hl64 hag hv hoa
 go_enter Tryz.func3,Tryz.ntmps3
 go_wp2_with fail
 refine HS.out.mono ?_
 rintro e w1 ⟨rfl,hb1⟩
 have HB1:=zh hb1
 have HLN:=zh (kX (HV.out.on hb1).mr)
 clear hb1 HS
 go_wp2_with fail
 refine HLN.out.mono ?_
 rintro e w2 ⟨rfl,hb2⟩
 have HB2:Hid (Below w.heap.size w w2):=HB1.out.trans (hb2.mono HB1.out.size)
 have HL2:=zh (HLE.out w2 HB2.out)
 clear hb2 HLN HLE HB1
 go_wp2_with fail
 refine HL2.out.mono ?_
 rintro e w3 ⟨hb3,p,pb,rfl,hst,hpa⟩
 have HB3:Hid (Below w.heap.size w w3):=HB2.out.trans (hb3.mono HB2.out.size)
 have HR3:=zh (HR.out w3 HB3.out)
 have HST:=zh hst
 have HPA:Hid (∀ W,Below w3.heap.size w3 W->OA W pb 0 p):=fun W h=>hpa.below h
 have HBP:=zh (stp_bd hst HBD.out)
 clear hb3 HL2 HR HB2 hst hpa
 go_wp2_with fail
 refine HR3.out.mono ?_
 rintro e w4 ⟨rfl,hb4⟩
 have HB34:=zh hb4
 have HB4:Hid (Below w.heap.size w w4):=HB3.out.trans (hb4.mono HB3.out.size)
 obtain⟨pl,hpl⟩:∃ pl,pl=p.code.length:=⟨_,rfl⟩
 obtain⟨ol,hol⟩:∃ ol,ol=o.code.length:=⟨_,rfl⟩
 have hlo:pl<=ol:=by have:=HST.out.le;omega
 have hno:¬(ol:Int)<(pl:Int):=by omega
 have hnd:decide ((ol:Int)<(pl:Int))=false:=decide_eq_false hno
 obtain⟨sa,ua,va,pa,na,ca,sc,uc,vc,pc,nc,cc,hvo⟩:=HOA.out w4 HB4.out
 obtain⟨sa',ua',va',pa',na',ca',sc',uc',vc',pc',nc',cc',hvp⟩:=HPA.out w4 hb4
 have hq1:=zi hvo.c6
 have hq2:=zi hvp.c6
 have HK:Hid (∀ W,Below w4.heap.size w4 W->W.cell? ⟨pb,6,none⟩=some (.slice ca' pl cc')/\W.cell? ⟨ob,oo+6,none⟩=some (.slice ca ol cc)):=fun W hW=>by
  rw[hpl,hol]
  exact⟨by have:=(hvp.below hW).c6;simpa using this,(hvo.below hW).c6⟩
 have HRP:Hid (∀ W,Below w4.heap.size w4 W->Calls Tryz.prog 7 #[.pointer (some ⟨pb,0,none⟩)] W fun e w'=>e=.returned (.bool true)/\Below W.heap.size W w'):=fun W h=>by
  have:=k8 (HPA.out W (HB34.out.trans (h.mono HB34.out.size))) HBP.out
  rw[HST.out.rg.r]at this
  exact this
 have HAL:Hid (∀ W,Below w4.heap.size w4 W->Calls Tryz.prog 9 #[.pointer (some ⟨pb,0,none⟩),.pointer (some ⟨ob,oo,none⟩)] W fun e w'=>e=.returned (.bool true)/\Below W.heap.size W w'):=fun W h=>alike_oa HST.out (HOA.out W (HB4.out.trans (h.mono HB4.out.size))) (HPA.out W (HB34.out.trans (h.mono HB34.out.size))) HBP.out
 have HK0:=zh (HK.out _ (zt w4))
 have HQ0:Hid (Below w4.heap.size w4 w4.drew):=zt w4
 clear hb4 hvo hvp hpl hol hlo HR3
 go_wp2_with fail
 go_region_held3 (fun W=>W.cell? ⟨pb,6,none⟩=some (.slice ca' pl cc')/\W.cell? ⟨ob,oo+6,none⟩=some (.slice ca ol cc)) (with_reducible (first|exact HK2.out|exact HK1.out|exact HK0.out)) (first|(go_at_call 7;refine(HRP.out _ HQ0.out).mono ?_;rintro e w5 ⟨rfl,hb5⟩;have HQ1:Hid (Below w4.heap.size w4 w5):=HQ0.out.trans (hb5.mono HQ0.out.size);have HK1:=zh (HK.out _ HQ1.out);clear hb5)|(go_at_call 9;refine(HAL.out _ HQ1.out).mono ?_;rintro e w6 ⟨rfl,hb6⟩;have HQ2:Hid (Below w4.heap.size w4 w6):=HQ1.out.trans (hb6.mono HQ1.out.size);have HK2:=zh (HK.out _ HQ2.out);clear hb6))
 have HB6:Hid (Below w.heap.size w w6):=HB4.out.trans (HQ2.out.mono HB4.out.size)
 have HP6:Hid (OA w6 pb 0 p):=HPA.out w6 (HB34.out.trans (HQ2.out.mono HB34.out.size))
 have HO6:Hid (OA w6 ob oo o):=HOA.out w6 HB6.out
 obtain⟨k,s,t,hk,hku,hrel,hla,hlb⟩:=two_loads HST.out HRT.out HBD.out HBP.out
 have HKU:Hid (k<=100/\(k=0->o.uses=[])):=⟨hk,hku⟩
 have HREL:=zh hrel
 obtain⟨W,hW⟩:∃ W,W=(w6.alloc (.cells #[.map none] 44)).alloc (.cells #[.map none] 44):=⟨_,rfl⟩
 have hbW:Below w6.heap.size w6 W:=by rw[hW];exact(zb _ _).alloc (by simp) _
 have hsW:W.heap.size=w6.heap.size+2:=by rw[hW];simp
 have q1:W.heap[w6.heap.size]?=some (.cells #[.map none] 44 (0,0)):=by rw[hW];exact(Below.heap_alloc _ _ _ (by simp)).trans (zw _ _)
 have q2:W.heap[w6.heap.size+1]?=some (.cells #[.map none] 44 (0,0)):=by
  have:=zw (w6.alloc (.cells #[.map none] 44)) (.cells #[.map none] 44)
  rw[hW];simpa using this
 obtain⟨b1,hb1⟩:∃ b1,b1=w6.heap.size:=⟨_,rfl⟩
 obtain⟨b2,hb2⟩:∃ b2,b2=w6.heap.size+1:=⟨_,rfl⟩
 have HL1:Hid (Calls Tryz.prog 11 #[.pointer (some ⟨b1,0,none⟩),.pointer (some ⟨ob,oo,none⟩),.int .i64 500] W (LoQ W b1 o s k)):=by
  rw[hb1]
  exact hla w6 W _ ob oo HO6.out (HV.out.on HB6.out).mr hbW zn q1
 have HL2:Hid (∀ w7 w8,Ext b1 W w7->Below w7.heap.size w7 w8->Calls Tryz.prog 11 #[.pointer (some ⟨b2,0,none⟩),.pointer (some ⟨pb,0,none⟩),.int .i64 500] w8 (LoQ w8 b2 p t k)):=fun w7 w8 h7 h8=>by
  rw[hb1]at h7
  rw[hb2]
  obtain⟨u1,u2⟩:=vd hbW hsW q2 h7 h8
  exact hlb w6 w8 _ pb 0 HP6.out (HV.out.on HB6.out).mr u1 (Nat.le_succ _) u2
 have HQW:Hid (Below w6.heap.size w6 W/\W.heap.size=w6.heap.size+2/\W.heap[w6.heap.size+1]?=some (.cells #[.map none] 44 (0,0))):=⟨hbW,hsW,q2⟩
 have HN:Hid (b1=w6.heap.size/\b2=w6.heap.size+1):=⟨hb1,hb2⟩
 clear hk hku hrel hla hlb hbW hsW q1 q2 HK0 HK1 HK2 HQ0 HQ1 HQ2 HK HRP HAL HPA HO6 HP6 HB3 HB34 hq1 hq2
 go_upto_region 12 with fail
 rw[<-hW]
 rw[<-hb2,<-hb1]
 clear hW hb1 hb2 hno hnd d1 d2 hl' hn' hz
 go_wp2_with fail
 refine HL1.out.mono ?_
 rintro e w7 ⟨oa,oc,rfl,l1⟩
 obtain⟨an,han⟩:∃ an,an=s.out.length:=⟨_,rfl⟩
 obtain⟨w8,hw8⟩:∃ w8,w8=w7.alloc (.cells #[.int .i64 (s.way:Int),.slice oa an oc] 46):=⟨_,rfl⟩
 have hb8:Below w7.heap.size w7 w8:=by rw[hw8];exact kQ _ _
 have HL3:=zh (HL2.out w7 w8 l1.ext hb8)
 have HW8:=zh hw8
 have HL1Q:=zh l1
 have HAN:=zh han
 rw[<-han]
 clear hb8 l1 HL1 HL2 han
 go_upto_region 13 with fail
 rw[<-hw8]
 clear hw8
 go_wp2_with fail
 refine HL3.out.mono ?_
 rintro e w9 ⟨oa2,oc2,rfl,l2⟩
 obtain⟨bn,hbn⟩:∃ bn,bn=t.out.length:=⟨_,rfl⟩
 obtain⟨w10,hw10⟩:∃ w10,w10=w9.alloc (.cells #[.int .i64 (t.way:Int),.slice oa2 bn oc2] 46):=⟨_,rfl⟩
 obtain⟨eA,heA⟩:∃ eA,eA=w7.heap.size:=⟨_,rfl⟩
 obtain⟨eB,heB⟩:∃ eB,eB=w9.heap.size:=⟨_,rfl⟩
 have hlq:Tz w w10 eA eB #[.int .i64 (s.way:Int),.slice oa an oc] #[.int .i64 (t.way:Int),.slice oa2 bn oc2] s.out t.out oa oa2/\(k=0->(∀ a b,s.there=thr o a->t.there=thr p b->b=a)->∃ vv cA cB,Ta w w10 b1 b2 eA eB #[.int .i64 (s.way:Int),.slice oa an oc] #[.int .i64 (t.way:Int),.slice oa2 bn oc2] o p vv cA cB):=by
  obtain⟨n1,n2⟩:=HN.out
  have l1:=HL1Q.out
  rw[n1]at l1 ⊢
  rw[n2]at l2 ⊢
  rw[heA,heB]
  exact two_lq HB6.out HQW.out.1 HQW.out.2.1 HQW.out.2.2 l1 HW8.out l2 hw10
 have HTZ:=zh hlq.1
 have HTA:=zh hlq.2
 have HOL:Hid (an=s.out.length/\bn=t.out.length/\s.out.length<=200):=⟨HAN.out,hbn,HL1Q.out.ol⟩
 have HT1:=zh (j9 (HV.out.on hlq.1.be).et k)
 rw[<-hbn]
 clear l2 hlq HL3 HW8 HL1Q HAN hbn HQW
 go_upto_region 14 with fail
 rw[<-hw10,<-heA,<-heB]
 clear hw10 heA heB
 go_wp2_with fail
 refine HT1.out.mono ?_
 rintro e w11 ⟨rfl,hb11⟩
 have HZ11:=zh (HTZ.out.on hb11)
 have HB11:=zh hb11
 have HT2:=zh (j9 (HV.out.on HZ11.out.be).et k)
 clear hb11 HT1
 go_wp2_with fail
 refine HT2.out.mono ?_
 rintro e w12 ⟨rfl,hb12⟩
 have HZ12:=zh (HZ11.out.on hb12)
 have HB12:Hid (Below w10.heap.size w10 w12):=HB11.out.trans (hb12.mono HB11.out.size)
 obtain⟨c0,c1,f0,f1,cl⟩:=yh HZ12.out.ea
 clear hb12 HT2 HZ11 HB11 f0 f1
 go_wp2_with fail
 by_cases hbad:s.way=5\/s.way=7\/s.way=8
 ·refine(jo s.way w12).mono ?_
  rintro e w13 ⟨rfl,hb13⟩
  rw[decide_eq_true hbad]
  have HZ13:=zh (HZ12.out.on hb13)
  obtain⟨c0,c1,f0,f1,cl⟩:=yh HZ13.out.ea
  clear hb13 HZ12 HB12 f0 f1
  go_wp2_with fail
  refine(jo s.way w13).mono ?_
  rintro e w14 ⟨rfl,hb14⟩
  rw[decide_eq_true hbad]
  have HZ14:=zh (HZ13.out.on hb14)
  clear hb14
  go_wp2_with fail
  go_ret
  exact⟨rfl,HZ14.out.be⟩
 ·obtain⟨hw,ho,hth⟩:=HREL.out.resolve_left hbad
  refine(jo s.way w12).mono ?_
  rintro e w13 ⟨rfl,hb13⟩
  rw[decide_eq_false hbad]
  have HZ13:=zh (HZ12.out.on hb13)
  have HB13:Hid (Below w10.heap.size w10 w13):=HB12.out.trans (hb13.mono HB12.out.size)
  obtain⟨c0,c1,f0,f1,cl⟩:=yh HZ13.out.ea
  obtain⟨d0,d1,g0,g1,dl⟩:=yh HZ13.out.eb
  have HEN:Hid (Calls Tryz.prog 12 #[.agg #[.int .i64 (s.way:Int),.slice oa an oc],.agg #[.int .i64 (t.way:Int),.slice oa2 bn oc2]] w13 fun e w'=>e=.returned (.bool true)/\Below w13.heap.size w13 w'):=by
   have:=vC (x:=s.way) (y:=t.way) (c1:=oc) (c2:=oc2) HZ13.out.h1 HZ13.out.h2 (by have:=HOL.out.2.2;omega)
   rw[<-HOL.out.1,<-HOL.out.2.1,decide_eq_true hw.symm,decide_eq_true ho.symm]at this
   exact this
  have HTH:=zh hth
  clear hb13 HZ12 HB12 f0 f1 g0 g1 hw ho hth
  go_wp2_with fail
  refine HEN.out.mono ?_
  rintro e w14 ⟨rfl,hb14⟩
  have HZ14:=zh (HZ13.out.on hb14)
  have HB14:Hid (Below w10.heap.size w10 w14):=HB13.out.trans (hb14.mono HB13.out.size)
  obtain⟨c0,c1,f0,f1,cl⟩:=yh HZ14.out.ea
  clear hb14 HZ13 HB13 HEN f0 f1 d0 d1 dl
  go_wp2_with fail
  refine(jo s.way w14).mono ?_
  rintro e w15 ⟨rfl,hb15⟩
  rw[decide_eq_false hbad]
  have HZ15:=zh (HZ14.out.on hb15)
  have HB15:Hid (Below w10.heap.size w10 w15):=HB14.out.trans (hb15.mono HB14.out.size)
  clear hb15 HZ14 HB14 c0 c1 cl
  by_cases hk0:k=0
  ·obtain⟨vv,cA,cB,hta⟩:=HTA.out hk0 (HTH.out hk0)
   have hta:=hta.on HB15.out
   obtain⟨cA',hcA⟩:∃ c,c=cA.based w15:=⟨_,rfl⟩
   obtain⟨cB',hcB⟩:∃ c,c=cB.based w15:=⟨_,rfl⟩
   rw[<-hcA,<-hcB]at hta
   clear hcA hcB
   have hm1:w.heap.size<=b2:=by have:=HN.out;have:=HB6.out.size;omega
   obtain⟨wA,ra⟩:=hta.a
   obtain⟨hl10,hl64,hag⟩:=HAG.out
   obtain⟨k2,y1,t1,o1,y2,t2,o2,hk2,hrel2,hca,hcb⟩:=two_calls HST.out (HKU.out.2 hk0) (right_rx HRT.out) (right_rx HST.out.rg.r) ra.sh x hl10 hl64
   have HR2:=zh hrel2
   have HC1:=zh (hca wA w15 b1 cA' sp lc ra (hag.on hta.be))
   have HC2:Hid (∀ w17 cB2,Below w.heap.size w w17->(∃ wB,RM wB w17 b2 p vv cB2/\wB.heap.size<=b2)->Calls Tryz.prog 13 #[.pointer (some ⟨b2,0,none⟩),.string (bs o.name),.string (bs x),.slice sp l.length lc,.int .i64 500] w17 (CallQ w17 cB2 y2 t2 o2 k2)):=fun w17 cB2 h1 ⟨wB,h2,_⟩=>hcb wB w17 b2 cB2 sp lc h2 (hag.on h1)
   have HTA15:=zh hta
   have HM1:=zh hm1
   obtain⟨sa,ua,va,pa,na,ca,sc,uc,vc,pc,nc,cc,hvo⟩:=HOA.out w15 hta.be
   have kn:=hvo.c0
   have kl:=zi kn
   clear hta hm1 ra hl10 hl64 hag hk2 hrel2 hca hcb hvo HTA HB15 HZ15
   rw[show erV k=.nilIface from if_pos hk0]
   clear hk0
   go_wp2_with fail
   refine HC1.out.mono ?_
   rintro e w16 ⟨oa3,oc3,rfl,cr⟩
   have htb:=HTA15.out.call HM1.out cr
   obtain⟨on,hon⟩:∃ on,on=o1.length:=⟨_,rfl⟩
   obtain⟨c0,c1,f0,f1,cl⟩:=yh htb.ea
   obtain⟨w17,hw17⟩:∃ w17,w17=(w16.setCell ⟨eA,0,none⟩ (.int .i64 (y1:Int))).setCell ⟨eA,1,none⟩ (.slice oa3 on oc3):=⟨_,rfl⟩
   have htb17:=htb.set rfl _ _ hw17
   have HTB:=zh htb17
   have HC3:=zh (HC2.out w17 _ htb17.be htb17.b)
   obtain⟨sa,ua,va,pa,na,ca,sc,uc,vc,pc,nc,cc,hvo⟩:=HOA.out w17 htb17.be
   have kn:=hvo.c0
   have kl:=zi kn
   have HON:Hid (on=o1.length/\o1.length<=200):=⟨hon,cr.ol⟩
   rw[<-hon]
   clear htb htb17 cr hvo HTA15 HC1 HC2 hon
   go_upto_region 19 with fail
   rw[<-hw17]
   clear hw17 c0 c1 f0 f1 cl
   go_wp2_with fail
   refine HC3.out.mono ?_
   rintro e w18 ⟨oa4,oc4,rfl,cr⟩
   have htc:=HTB.out.call cr
   obtain⟨pn,hpn⟩:∃ pn,pn=o2.length:=⟨_,rfl⟩
   obtain⟨c0,c1,f0,f1,cl⟩:=yh htc.eb
   obtain⟨w19,hw19⟩:∃ w19,w19=(w18.setCell ⟨eB,0,none⟩ (.int .i64 (y2:Int))).setCell ⟨eB,1,none⟩ (.slice oa4 pn oc4):=⟨_,rfl⟩
   have HZ19:=zh (htc.set rfl _ _ hw19).tz
   have HPN:=zh hpn
   have HT3:=zh (j9 (HV.out.on HZ19.out.be).et k2)
   rw[<-hpn]
   clear htc cr HC3 HTB hpn kn kl
   go_upto_region 20 with fail
   rw[<-hw19]
   clear hw19 c0 c1 f0 f1 cl
   go_wp2_with fail
   refine HT3.out.mono ?_
   rintro e w20 ⟨rfl,hb20⟩
   have HZ20:=zh (HZ19.out.on hb20)
   have HT4:=zh (j9 (HV.out.on HZ20.out.be).et k2)
   clear hb20 HT3 HZ19
   go_wp2_with fail
   refine HT4.out.mono ?_
   rintro e w21 ⟨rfl,hb21⟩
   have HZ21:=zh (HZ20.out.on hb21)
   obtain⟨c0,c1,f0,f1,cl⟩:=yh HZ21.out.ea
   clear hb21 HT4 HZ20 f0 f1
   go_wp2_with fail
   by_cases hbad2:y1=5\/y1=7\/y1=8
   ·refine(jo y1 w21).mono ?_
    rintro e w22 ⟨rfl,hb22⟩
    rw[decide_eq_true hbad2]
    have HZ22:=zh (HZ21.out.on hb22)
    clear hb22
    go_wp2_with fail
    go_ret
    exact⟨rfl,HZ22.out.be⟩
   ·obtain⟨ey,et,eo⟩:=HR2.out.resolve_left hbad2
    refine(jo y1 w21).mono ?_
    rintro e w22 ⟨rfl,hb22⟩
    rw[decide_eq_false hbad2]
    have HZ22:=zh (HZ21.out.on hb22)
    obtain⟨c0,c1,f0,f1,cl⟩:=yh HZ22.out.ea
    obtain⟨d0,d1,g0,g1,dl⟩:=yh HZ22.out.eb
    have HEN:Hid (Calls Tryz.prog 12 #[.agg #[.int .i64 (y1:Int),.slice oa3 on oc3],.agg #[.int .i64 (y2:Int),.slice oa4 pn oc4]] w22 fun e w'=>e=.returned (.bool true)/\Below w22.heap.size w22 w'):=by
     have:=vC (x:=y1) (y:=y2) (c1:=oc3) (c2:=oc4) HZ22.out.h1 HZ22.out.h2 (by have:=HON.out.2;omega)
     rw[<-HON.out.1,<-HPN.out,decide_eq_true ey.symm,decide_eq_true eo.symm]at this
     exact this
    subst et
    clear hb22 HZ21 f0 f1 g0 g1 ey eo
    go_wp2_with fail
    refine HEN.out.mono ?_
    rintro e w23 ⟨rfl,hb23⟩
    have HZ23:=zh (HZ22.out.on hb23)
    clear hb23 HEN
    go_wp2_with fail
    go_ret
    exact⟨rfl,HZ23.out.be⟩
  ·rw[show erV k=.iface 30 (.int .i64 (k:Int)) from if_neg hk0]
   clear hk0
   go_wp2_with fail
   go_ret
   exact⟨rfl,HZ15.out.be⟩
end Go.Proofs.YtmnedfdffbbchaaGreatDoor.Jo

namespace Go.Proofs.YtmnedfdffbbchaaGreatDoor.Jo
open Go.RowKit Go.Maps
open Ob (O In I64)
theorem optSame_post {w:World}(hv:VarsO w) (p:Option Addr) (x:Tp.Bs) {sp:Option Addr}{l:List Int}(lc:Nat) (hl64:∀ v∈l,I64 v) (hag:Args8 w sp l) (hp:p=none\/∃ b o O,p=some ⟨b,o,none⟩/\OA w b o O/\∀ x∈O.code,I64 x.a):Calls Tryz.prog 3 #[.pointer p,.string (bs x),.slice sp l.length lc] w (OpP w):=by
 have big:∀ {sb:Bool},Calls Tryz.prog 4 #[.pointer p] w (fun e w'=>e=.returned (.bool sb)/\Below w.heap.size w w')->(sb=false\/40<x.length\/10<l.length)->Calls Tryz.prog 3 #[.pointer p,.string (bs x),.slice sp l.length lc] w (OpP w):=fun hs h=>opt_big p x sp l.length lc hs h
 by_cases h1:40<x.length\/10<l.length
 ·rcases hp with rfl|⟨b,o,O,rfl,hoa,hc⟩
  ·exact big (xV w) (Or.inr h1)
  ·exact big (xx hoa) (Or.inr h1)
 have h2:x.length<=40:=by omega
 have h3:l.length<=10:=by omega
 rcases hp with rfl|⟨b,o,O,rfl,hoa,hc⟩
 ·exact opt_bad hv none x h2 sp h3 lc (xV w) (fun W _=>less_nil W) fun W _=>vf W
 ·have hs:=xx hoa
  cases hsm:smallB O with
  | false=>exact big hs (Or.inl hsm)
  | true =>
   rw[hsm]at hs
   have hBd:=small_bd hsm hc
   cases hr:Ob.rightB O with
   | false =>
    refine opt_bad hv _ x h2 sp h3 lc hs (fun W h=>?_) fun W h=>?_
    ·obtain⟨sa,ua,va,pa,na,ca,sc,uc,vc,pc,nc,cc,q⟩:=hoa.below h
     refine(xH q hBd (hv.on h).mr).mono fun e w' k=>?_
     obtain⟨k1,k2⟩:=k
     rcases k2 with⟨_,k2⟩|⟨k2,_⟩
     ·exact⟨k2,k1⟩
     ·rw[hr]at k2;cases k2
    ·have:=k8 (hoa.below h) hBd
     rw[hr]at this
     exact this
   | true=>exact opt_good hv hoa hsm hc hr x h2 h3 hl64 hag lc
theorem ints_arg {H:Type}{enc:TypeId× Value->H}{w:World}{base:Nat}{spare:Nat->Bool}{held:Bool}{fuel:Nat}{v:Value}{y:DataW H× List MemPlace}(h:DataW.trod enc Tryz.prog w base spare held fuel 23 [v]=some y) :
  ∃(l:List Int) (a:Option Addr) (cap:Nat),v=.slice a l.length cap/\(∀ z∈l,I64 z)/\Args8 w a l:=by
 rcases Go.ChangeShapes.open_ints Tryz.underlying23 Tryz.underlying2 (by kernel_rfl) h with⟨h1,_⟩|⟨a,len,cap,zs,h1,_,hl,_,hz,_,hc,hw⟩
 ·simp at h1
  exact⟨[],none,0,h1,fun z hz=>(by cases hz),fun q=>absurd q (by decide)⟩
 ·simp at h1
  have hle:len<=zs.length:=by rw[hz];split <;> omega
  have hlen:(zs.take len).length=len:=by rw[List.length_take];omega
  refine⟨zs.take len,some a,cap,by rw[h1,hlen],fun z hz'=>?_,fun hl0=>?_⟩
  ·have h3:=hw z (List.mem_of_mem_take hz')
   simp only [Lit.wf,IntKind.min,IntKind.max,IntKind.signed,IntKind.bits,Bool.and_eq_true,decide_eq_true_eq,if_true]at h3
   unfold Ob.I64
   omega
  ·have hc0:=hc 0 (by omega)
   have hbl:=World.block_lt_of_cell? _ _ hc0
   obtain⟨b,o,spot⟩:=a
   have hspot:spot=none:=by simpa[Addr.add] using World.cell?_spot hc0
   subst hspot
   refine⟨⟨b,o,none⟩,rfl,rfl,by rw[Addr.add_lit]at hbl;exact hbl,fun j u hj=>?_⟩
   unfold ints at hj
   rw[List.getElem?_map,Option.map_eq_some_iff]at hj
   obtain⟨z,h4,h5⟩:=hj
   have hjl:j<len:=by rw[<-hlen];exact(List.getElem?_eq_some_iff.1 h4).1
   rw[hc j (by omega),<-h5]
   rw[List.getElem?_take_of_lt hjl]at h4
   rw[List.getD_eq_getElem?_getD,h4]
   rfl
end Go.Proofs.YtmnedfdffbbchaaGreatDoor.Jo

namespace Go.Proofs.YtmnedfdffbbchaaGreatDoor.Jo
open Go.RowKit Go.ChangeShapes Go.ChangeAt Go.WideShapes
theorem cString:Tryz.prog.cellsOf 9=1:=by kernel_rfl
theorem var_lt {w:World}{n:String}{g:Nat}{cs:Array Value}(hg:Tryz.prog.globalNamed n=some g) (h:w.var? Tryz.prog n=some cs):g<w.heap.size:=by
 simp only [World.var?,hg,Option.bind_some]at h
 split at h
 ·rename_i h1;exact zk h1
 ·cases h
theorem strs_ofV {w:World}{fuel:Nat}{cs:List Value}{ds:List (DataW Unit)}{p:List MemPlace}{n t:Nat}(ht:Tryz.prog.underlying t=some (.array n 9)) (h:DataW.trod (fun _=>()) Tryz.prog w 0 (fun _=>true) false fuel t cs=some (.agg ds,p)) :
  ∀(i:Nat) (b:List UInt8),i<n->ds[i]?=some (.lit (.string b))->cs[i]?=some (.string (bs b)):=by
 obtain⟨xs,m,_,hx,hl,hn,hf⟩:=DataW.trod_array ht h
 intro i b hi hd
 have hq:=hf i hi
 rw[cString,Nat.mul_one]at hq
 have hxi:i<xs.length:=by omega
 rw[List.getElem?_eq_getElem hxi]at hq
 obtain⟨s,h1,h2,_⟩:=DataW.trod_string Tryz.underlying9 hq
 have e1:ds=xs.map (·.1):=by have:=congrArg Prod.fst hx;simpa using this
 rw[e1,List.getElem?_map,List.getElem?_eq_getElem hxi,h2]at hd
 simp at hd
 have h3:=congrArg (·[0]?) h1
 simp[List.getElem?_drop]at h3
 rw[h3,<-hd]
 simp[bs]
theorem gCM:Tryz.prog.globalNamed "marquetry/code.Marks"=some 1:=by kernel_rfl
theorem gCMT:(Tryz.prog.globals[1]?).map (·.type)=some 195:=by kernel_rfl
theorem gErr:Tryz.prog.globalNamed "errors.errorType"=some 0:=by kernel_rfl
theorem rtRow:(Tryz.prog.cutTypes.find? (·.1 == "internal/reflectlite.rtype")).map (·.2)=some 156:=by kernel_rfl
theorem oneRow:((List.range 255).filter fun t=>Tryz.prog.rowNamed t [101,114,114,111,114])=[27]:=by kernel_rfl
theorem sizeRow:Tryz.prog.types.size<=255:=of_decide_eq_true (by kernel_rfl)
theorem vars_ofO {W:World}(h:laidMetH Tryz.prog Rows.optSameRow.laid W):VarsO W:=by
 have hh:=laidMetH_iff.1 h
 have h':laidMet Tryz.prog [("math/bits.deBruijn32tab",Rows.laid_math_bits_deBruijn32tab),("math/bits.deBruijn64tab",Rows.laid_math_bits_deBruijn64tab),("internal/strconv.uint64pow10",Rows.laid_internal_strconv_uint64pow10),("marquetry/code.Marks",Rows.laid_marquetry_code_Marks)] W:=hh.1
 obtain⟨ps,⟨g1,t1,c1,f1,p1,q1,_,_,_,_,⟨g2,t2,c2,f2,p2,q2,_,_,_,_,⟨g3,t3,c3,f3,p3,q3,_,_,_,_,⟨g6,t6,c6,f6,p6,q6,a1,a2,a3,a4,_⟩,_⟩,_⟩,_⟩,_⟩:=h'
 obtain rfl:=Option.some.inj (gCM.symm.trans a1)
 obtain rfl:=Option.some.inj (gCMT.symm.trans a2)
 have hc:=strs_ofV Tryz.underlying195 a4
 have he:handlesMet Tryz.prog [("errors.errorType",Rows.laid_errors_errorType)] W:=hh.2
 obtain⟨name,u,ty,e1,e2,e3,e4,e5⟩:=he _ (List.mem_singleton.2 rfl)
 have en:name=[101,114,114,111,114]:=(Option.some.inj e1).symm
 subst en
 obtain rfl:=Option.some.inj (rtRow.symm.trans e2)
 have hmm:ty∈(List.range 255).filter fun t=>Tryz.prog.rowNamed t [101,114,114,111,114]:=List.mem_filter.2 ⟨List.mem_range.2 (Nat.lt_of_lt_of_le e3 sizeRow),e4⟩
 rw[oneRow]at hmm
 obtain rfl:=List.mem_singleton.1 hmm
 have hhd:typeHandle Tryz.prog 27=.pointer (some ⟨5,27,none⟩):=by kernel_rfl
 rw[hhd]at e5
 have hcell:=World.var?_cell gErr e5 0
 refine⟨⟨var_lt gCM a3,fun i hi=>?_⟩,by unfold ErT;simpa using hcell⟩
 rw[World.var?_cell gCM a3 i,<-Array.getElem?_toList]
 match i,hi with
 | 0,_=>exact hc 0 _ (by decide) rfl
 | 1,_=>exact hc 1 _ (by decide) rfl
 | 2,_=>exact hc 2 _ (by decide) rfl
 | 3,_=>exact hc 3 _ (by decide) rfl
 | 4,_=>exact hc 4 _ (by decide) rfl
 | 5,_=>exact hc 5 _ (by decide) rfl
 | 6,_=>exact hc 6 _ (by decide) rfl
 | 7,_=>exact hc 7 _ (by decide) rfl
 | 8,_=>exact hc 8 _ (by decide) rfl
 | 9,_=>exact hc 9 _ (by decide) rfl
 | 10,_=>exact hc 10 _ (by decide) rfl
 | k+11,hk=>exact absurd hk (by omega)
end Go.Proofs.YtmnedfdffbbchaaGreatDoor.Jo

namespace Go.Proofs.YtmnedfdffbbchaaGreatDoor.optSame
open Go.ChangeShapes Go.WideShapes Go.ChangeAt Go.RowKit
open Go.ChangeMaps (open_string shut_string)
open Go.Proofs.YtmnedfdffbbchaaGreatDoor
theorem own:ownKnob Tryz.prog.godebug=none:=by kernel_rfl
theorem laidOut:laidOutB Tryz.prog=true:=by kernel_rfl
theorem contract (H:Type) (enc:TypeId× Value->H) (W:World) (base:Nat) (args:Array Value) (ds gs:List (DataW H)) (before:List MemPlace)
  (hval:∀(j:Nat) t v,Tryz.f3.params[j]?=some t->args[j]?=some v->Value.okWide Tryz.prog W .any base t v)
  (hW:DataW.Whole enc Tryz.prog Tryz.f3.params.toList Rows.optSameSpec.vars false W args.toList ds gs before) (hL:laidMetH Tryz.prog Rows.optSameRow.laid W) :
  Calls Tryz.prog 3 args W fun e W'=>∃ v,e=.returned v/\Rows.optSameSpec.post enc Tryz.prog Tryz.f3 false true false false W args v W':=by
 have hW':=hW
 obtain⟨p,q,hA0,hV,rfl,hfz,hnd⟩:=hW
 have hA:DataW.TrodAll enc Tryz.prog W 0 (fun _=>true) true Tryz.f3.params.toList args.toList ds p:=hA0
 rw[Tryz.params3]at hA hval
 obtain⟨v0,vs0,d0,ds0,p0,q0,hargs0,rfl,rfl,h0,r0⟩:=trodAll_cons hA
 obtain⟨v1,vs1,d1,ds1,p1,q1,hargs1,rfl,rfl,h1,r1⟩:=trodAll_cons r0
 obtain⟨v2,vs2,d2,ds2,p2,q2,hargs2,rfl,rfl,h2,r2⟩:=trodAll_cons r1
 obtain⟨rfl,rfl,rfl⟩:=trodAll_nil r2
 obtain rfl:args=#[v0,v1,v2]:=by cases args;simp_all
 obtain⟨rfl,rfl⟩:=trodVars_none hV
 obtain⟨s1,rfl,rfl,rfl,hs1⟩:=open_string Tryz.underlying9 (hval 1 9 v1 rfl rfl) h1
 obtain⟨ia,iz,ic,rfl⟩:=okWide_slice Tryz.underlying23 (hval 2 23 v2 rfl rfl)
 have h2':=h2
 obtain⟨fuel2,hf2⟩:=h2'
 have hf2':DataW.trod enc Tryz.prog W 0 (fun _=>true) true fuel2 23 [.slice ia iz ic]=some (d2,p2):=by simpa[Value.cells] using hf2
 obtain⟨l,la,lc,hle,hl64,hag⟩:=Jo.ints_arg hf2'
 cases hle
 obtain⟨pt,rfl⟩:=okWide_pointer Tryz.underlying22 (hval 0 22 v0 rfl rfl)
 have h0':=h0
 obtain⟨fuel,hf⟩:=h0'
 have hf':DataW.trod enc Tryz.prog W 0 (fun _=>true) true fuel 22 [.pointer pt]=some (d0,p0):=by simpa[Value.cells] using hf
 obtain⟨pt',hpe,hobj⟩:=Jo.open_object hf'
 cases hpe
 clear hA0 hf hf' hf2 hf2'
 simp only [List.append_nil]at hW'
 have hlt:∀ x∈p0,x.block<W.heap.size:=fun x hx=>by simpa using hW'.lt x (by simp[hx])
 have hlt2:∀ x∈p2,x.block<W.heap.size:=fun x hx=>by simpa using hW'.lt x (by simp[hx])
 have walk:=Jo.optSame_post (Jo.vars_ofO hL) pt s1.data.toList ic hl64 hag hobj
 rw[Jo.bs_data]at walk
 refine walk.mono fun e W' ⟨he,hg⟩=>?_
 subst he
 exact⟨_,rfl,_,_,_,[],p0++([]++(p2++[])),[],hW',trodAll_cons_mk (shut_bool Tryz.underlying4 _) trodAll_mk0,trodAll_cons_mk (Below.trod laidOut (by kernel_rfl) (of_decide_eq_true (by kernel_rfl)) h0 hg hlt) (trodAll_cons_mk (shut_string Tryz.underlying9 hs1) (trodAll_cons_mk (Below.trod laidOut (by kernel_rfl) (of_decide_eq_true (by kernel_rfl)) h2 hg hlt2) trodAll_mk0)),rfl,hg.frame _,fun h=>by cases h⟩
theorem laid_met (os:Os):laidMetH Tryz.prog Rows.optSameRow.laid (({ (World.holding Tryz.prog os ⟨#[],#[],[]⟩) with heap:=((((((World.holding Tryz.prog os ⟨#[],#[],[]⟩).heap.modify 1 fun | .cells _ t frozen=>.cells #[.string ⟨#[43]⟩,.string ⟨#[45]⟩,.string ⟨#[42]⟩,.string ⟨#[100,105,118]⟩,.string ⟨#[109,111,100]⟩,.string ⟨#[61]⟩,.string ⟨#[35]⟩,.string ⟨#[60]⟩,.string ⟨#[60,61]⟩,.string ⟨#[62]⟩,.string ⟨#[62,61]⟩] t frozen|o=>o).modify 0 fun | .cells _ t frozen=>.cells #[.iface 156 (.agg #[.pointer (some ⟨5,27,none⟩)])] t frozen|o=>o).modify 2 fun | .cells _ t frozen=>.cells #[.int .u64 1,.int .u64 10,.int .u64 100,.int .u64 1000,.int .u64 10000,.int .u64 100000,.int .u64 1000000,.int .u64 10000000,.int .u64 100000000,.int .u64 1000000000,.int .u64 10000000000,.int .u64 100000000000,.int .u64 1000000000000,.int .u64 10000000000000,.int .u64 100000000000000,.int .u64 1000000000000000,.int .u64 10000000000000000,.int .u64 100000000000000000,.int .u64 1000000000000000000,.int .u64 10000000000000000000] t frozen|o=>o).modify 3 fun | .cells _ t frozen=>.cells #[.int .u8 0,.int .u8 1,.int .u8 28,.int .u8 2,.int .u8 29,.int .u8 14,.int .u8 24,.int .u8 3,.int .u8 30,.int .u8 22,.int .u8 20,.int .u8 15,.int .u8 25,.int .u8 17,.int .u8 4,.int .u8 8,.int .u8 31,.int .u8 27,.int .u8 13,.int .u8 23,.int .u8 21,.int .u8 19,.int .u8 16,.int .u8 7,.int .u8 26,.int .u8 12,.int .u8 18,.int .u8 6,.int .u8 11,.int .u8 5,.int .u8 10,.int .u8 9] t frozen|o=>o).modify 4 fun | .cells _ t frozen=>.cells #[.int .u8 0,.int .u8 1,.int .u8 56,.int .u8 2,.int .u8 57,.int .u8 49,.int .u8 28,.int .u8 3,.int .u8 61,.int .u8 58,.int .u8 42,.int .u8 50,.int .u8 38,.int .u8 29,.int .u8 17,.int .u8 4,.int .u8 62,.int .u8 47,.int .u8 59,.int .u8 36,.int .u8 45,.int .u8 43,.int .u8 51,.int .u8 22,.int .u8 53,.int .u8 39,.int .u8 33,.int .u8 30,.int .u8 24,.int .u8 18,.int .u8 12,.int .u8 5,.int .u8 63,.int .u8 55,.int .u8 48,.int .u8 27,.int .u8 60,.int .u8 41,.int .u8 37,.int .u8 16,.int .u8 46,.int .u8 35,.int .u8 44,.int .u8 21,.int .u8 52,.int .u8 32,.int .u8 23,.int .u8 11,.int .u8 54,.int .u8 26,.int .u8 40,.int .u8 15,.int .u8 34,.int .u8 20,.int .u8 31,.int .u8 10,.int .u8 25,.int .u8 14,.int .u8 19,.int .u8 9,.int .u8 13,.int .u8 8,.int .u8 7,.int .u8 6] t frozen|o=>o) }:World).forCall (fun _ _=>0) ⟨#[],#[.pointer none,.string ⟨#[]⟩,.slice none 0 0],[]⟩).memory :=
 laidMetH_of_parts (laidMet_of_run' 8 (by kernel_rfl) (by kernel_rfl)) (by kernel_rfl)
theorem reads (os:Os) {H:Type}(enc:TypeId× Value->H):∃ places,DataW.whole enc Tryz.prog (({ (World.holding Tryz.prog os ⟨#[],#[],[]⟩) with heap:=((((((World.holding Tryz.prog os ⟨#[],#[],[]⟩).heap.modify 1 fun | .cells _ t frozen=>.cells #[.string ⟨#[43]⟩,.string ⟨#[45]⟩,.string ⟨#[42]⟩,.string ⟨#[100,105,118]⟩,.string ⟨#[109,111,100]⟩,.string ⟨#[61]⟩,.string ⟨#[35]⟩,.string ⟨#[60]⟩,.string ⟨#[60,61]⟩,.string ⟨#[62]⟩,.string ⟨#[62,61]⟩] t frozen|o=>o).modify 0 fun | .cells _ t frozen=>.cells #[.iface 156 (.agg #[.pointer (some ⟨5,27,none⟩)])] t frozen|o=>o).modify 2 fun | .cells _ t frozen=>.cells #[.int .u64 1,.int .u64 10,.int .u64 100,.int .u64 1000,.int .u64 10000,.int .u64 100000,.int .u64 1000000,.int .u64 10000000,.int .u64 100000000,.int .u64 1000000000,.int .u64 10000000000,.int .u64 100000000000,.int .u64 1000000000000,.int .u64 10000000000000,.int .u64 100000000000000,.int .u64 1000000000000000,.int .u64 10000000000000000,.int .u64 100000000000000000,.int .u64 1000000000000000000,.int .u64 10000000000000000000] t frozen|o=>o).modify 3 fun | .cells _ t frozen=>.cells #[.int .u8 0,.int .u8 1,.int .u8 28,.int .u8 2,.int .u8 29,.int .u8 14,.int .u8 24,.int .u8 3,.int .u8 30,.int .u8 22,.int .u8 20,.int .u8 15,.int .u8 25,.int .u8 17,.int .u8 4,.int .u8 8,.int .u8 31,.int .u8 27,.int .u8 13,.int .u8 23,.int .u8 21,.int .u8 19,.int .u8 16,.int .u8 7,.int .u8 26,.int .u8 12,.int .u8 18,.int .u8 6,.int .u8 11,.int .u8 5,.int .u8 10,.int .u8 9] t frozen|o=>o).modify 4 fun | .cells _ t frozen=>.cells #[.int .u8 0,.int .u8 1,.int .u8 56,.int .u8 2,.int .u8 57,.int .u8 49,.int .u8 28,.int .u8 3,.int .u8 61,.int .u8 58,.int .u8 42,.int .u8 50,.int .u8 38,.int .u8 29,.int .u8 17,.int .u8 4,.int .u8 62,.int .u8 47,.int .u8 59,.int .u8 36,.int .u8 45,.int .u8 43,.int .u8 51,.int .u8 22,.int .u8 53,.int .u8 39,.int .u8 33,.int .u8 30,.int .u8 24,.int .u8 18,.int .u8 12,.int .u8 5,.int .u8 63,.int .u8 55,.int .u8 48,.int .u8 27,.int .u8 60,.int .u8 41,.int .u8 37,.int .u8 16,.int .u8 46,.int .u8 35,.int .u8 44,.int .u8 21,.int .u8 52,.int .u8 32,.int .u8 23,.int .u8 11,.int .u8 54,.int .u8 26,.int .u8 40,.int .u8 15,.int .u8 34,.int .u8 20,.int .u8 31,.int .u8 10,.int .u8 25,.int .u8 14,.int .u8 19,.int .u8 9,.int .u8 13,.int .u8 8,.int .u8 7,.int .u8 6] t frozen|o=>o) }:World).forCall (fun _ _=>0) ⟨#[],#[.pointer none,.string ⟨#[]⟩,.slice none 0 0],[]⟩).memory Tryz.f3.params.toList Rows.optSameSpec.vars false #[Value.pointer none,Value.string ⟨#[]⟩,Value.slice none 0 0].toList 8=some ([.nil,.lit (.string []),.nil],[],places) :=
 ⟨[],by kernel_rfl⟩
theorem lifted (os:Os) (started:os.Started) (H:Type) (enc:TypeId× Value->H) (F:Stop.Interp) :
  ReturnsInHanded {} Tryz.checked os 3 .any ((OpenSpec.ofChange Rows.optSameSpec).preRow enc Tryz.prog Tryz.f3 Rows.optSameRow.domain false Rows.optSameRow.laid) (((OpenSpec.ofChange Rows.optSameSpec).at F).post enc Tryz.prog Tryz.f3 false true false false):=by
 obtain⟨places,hx⟩:=reads os enc
 refine returnsInHanded_of_row (C:=Tryz.checked) (s:=OpenSpec.ofChange Rows.optSameSpec) own started (by kernel_rfl) Tryz.func3
  (witness_row_at (enc:=enc) (C:=Tryz.checked) false _ #[.pointer none,.string ⟨#[]⟩,.slice none 0 0] rfl (by kernel_rfl) (by kernel_rfl) (by kernel_rfl)
   (OpenSpec.preRow_of_cond 8 hx (by kernel_rfl) (fun k hk=>by cases hk) (by kernel_rfl) (laid_met os))) ?_
 intro W base args ds gs before hval hW _ _ _ hL _ _
 exact contract H enc W base args ds gs before hval hW hL
theorem said:Rows.OptSameSaid :=
 OpenClaim.holds_of_cond 3 Tryz.f3 rfl rfl rfl rfl rfl rfl rfl ⟨rfl,rfl,rfl,rfl,rfl⟩ rfl rfl rfl rfl rfl (by kernel_rfl) Tryz.func3 (by kernel_rfl)
  (of_decide_eq_true (by kernel_rfl)) (by unfold Func.isWrapper;first|(rw[if_pos (by decide +kernel)];kernel_rfl)|(rw[if_neg (by decide +kernel)];exact⟨rfl,rfl⟩))
  (fun os started H enc _ F=>by rw[OpenClaim.pre_eq_preRow];exact lifted os started H enc F)
theorem plain (f:FuncId) (fn:Func) (hf:Tryz.pinned.checked.prog.funcNamed "marquetry/marquetrykeep.OptSame"=some f) (hfn:Tryz.pinned.checked.prog.funcs[f]?=some fn) :
  true=Tryz.pinned.checked.prog.looks []/\∀(j:Nat) t,fn.params[j]?=some t->Tryz.pinned.checked.prog.wantsStandIn t=false:=by
 obtain rfl:f=3:=Option.some.inj ((show Tryz.prog.funcNamed "marquetry/marquetrykeep.OptSame"=some 3 by kernel_rfl).symm.trans hf) |>.symm
 obtain rfl:fn=Tryz.f3:=(Option.some.inj (Tryz.func3.symm.trans hfn)).symm
 refine⟨by kernel_rfl,fun j t ht=>?_⟩
 rw[Tryz.params3]at ht
 have hm:t∈[22,9,23]:=by simpa using Array.mem_of_getElem? ht
 have hall:([22,9,23].all fun u=>!Tryz.prog.wantsStandIn u)=true:=by kernel_rfl
 exact(show Tryz.prog.wantsStandIn t=false by simpa using List.all_eq_true.1 hall t hm)
end Go.Proofs.YtmnedfdffbbchaaGreatDoor.optSame

namespace Go.Proofs.YtmnedfdffbbchaaGreatDoor
theorem optSame_card:Rows.OptSameCardSaid :=
 Claim7.holds_tied_plain_at .later [] _ _ _ _ optSame.said (fun _ h=>by cases h) (by kernel_rfl) (fun _ h=>by cases h) optSame_row_tie rfl ⟨rfl,rfl⟩ (by kernel_rfl) rfl optSame.plain (by kernel_rfl)
end Go.Proofs.YtmnedfdffbbchaaGreatDoor
