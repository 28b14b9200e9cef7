import Derived.Test.YtibncofnnlbmcaaGreatDoorKAf
import Derived.Test.YtibncofnnlbmcaaGreatDoorKAe
import Derived.Test.YtibncofnnlbmcaaGreatDoorKQi
set_option maxRecDepth 100000
set_option maxHeartbeats 4000000
namespace Go.Proofs.YtibncofnnlbmcaaGreatDoor
open Go.RowKit
open Tp (Bs)
theorem indexA0 {w:World}{a:Option Addr}{cap:Nat}{l:List Ac}{p:Ac->Bool}{fn:FuncId}(hS:ActAt w l a) (hn:l.length<=1000000) (hcf:∀(args:Array Value) (w:World),(callFunc fn args).run Tryz.prog w=.ok (.enter fn args) w)
  (hd:∀ W (x:Ac) aa ac,x∈l->Below w.heap.size w W->IntsAt W x.args aa->Calls Tryz.prog fn #[.agg (acells x aa ac)] W fun e w'=>e=.returned (.bool (p x))/\Below W.heap.size W w') :
  Calls Tryz.prog 35 #[.slice a l.length cap,.func (.func fn) #[] #[]] w fun e w'=>(∃ k:Int,e=.returned (.int .i64 k)/\(decide (0<=k)=l.any p))/\Below w.heap.size w w':=by
 have hn':(l.length:Int)<=1000000:=by omega
 have HSL:=zh hS
 have HD:=zh hd
 clear hS hd
 go_enter Tryz.func35,Tryz.ntmps35
 go_wp2_with fail
 go_loopg [8] l.length (fun k vi wr=>∃ i:Nat,i<=l.length/\k=l.length - i/\vi=.int .i64 (i:Int)/\Hid ((l.take i).any p=false)/\Hid (Below w.heap.size w wr))
 case atStart=>exact⟨0,by omega,by omega,rfl,rfl,Below.refl _ _⟩
 case round =>
  obtain⟨i,hid,hk,rfl,HI,HW⟩:=hrel
  by_cases hlt:i<l.length
  ·have hlt':(i:Int)<(l.length:Int):=by omega
   obtain⟨g,go,aa,ac,rfl,hc0,hia,_⟩:=(HSL.out.on HW.out).c i hlt
   have e0:wr.cell? ⟨g,go+i * 5,none⟩=some (.int .i64 l[i].what):=hc0 0 (by omega)
   have e1:wr.cell? ⟨g,go+i * 5+1,none⟩=some (.string (bs l[i].text)):=by rw[Nat.add_assoc];exact hc0 1 (by omega)
   have e2:wr.cell? ⟨g,go+i * 5+2,none⟩=some (.string (bs l[i].name)):=by rw[Nat.add_assoc];exact hc0 2 (by omega)
   have e3:wr.cell? ⟨g,go+i * 5+3,none⟩=some (.string (bs l[i].proc)):=by rw[Nat.add_assoc];exact hc0 3 (by omega)
   have e4:wr.cell? ⟨g,go+i * 5+4,none⟩=some (.slice aa l[i].args.length ac):=by rw[Nat.add_assoc];exact hc0 4 (by omega)
   have hbl':g<wr.heap.size:=zg e0
   have HF:=zh (HD.out wr l[i] aa ac (List.getElem_mem hlt) HW.out hia)
   unfold acells at HF
   have HNX:Hid ((l.take (i+1)).any p=p l[i]):=by
    show _=_
    rw[List.take_succ_eq_append_getElem hlt,List.any_append,HI.out];simp
   have HAN:Hid (p l[i]=true->l.any p=true):=fun e=>List.any_eq_true.2 ⟨_,List.getElem_mem hlt,e⟩
   clear hc0 hia
   generalize p l[i]=d at *
   generalize l[i].what=x0 at *
   generalize bs l[i].text=x1 at *
   generalize bs l[i].name=x2 at *
   generalize bs l[i].proc=x3 at *
   generalize l[i].args.length=x4 at *
   clear HI
   go_wp2_with fail
   refine HF.out.mono ?_
   rintro e w3 ⟨rfl,h3⟩
   have HW3:=zh (HW.out.trans (h3.mono HW.out.size))
   clear h3
   cases d with
   | true =>
    have HE:=zh (HAN.out rfl)
    go_wp2_with fail
    go_ret
    refine⟨⟨_,rfl,?_⟩,HW3.out⟩
    rw[HE.out]
    exact decide_eq_true (by omega)
   | false =>
    go_wp2_with fail
    go_roundg (l.length - (i+1))
    case measure=>omega
    case rel=>exact⟨i+1,by omega,rfl,by go_num,HNX,HW3⟩
  ·have hlt':¬(i:Int)<(l.length:Int):=by omega
   have HE:Hid (l.any p=false):=by
    have:=HI.out
    rw[List.take_of_length_le (by omega)]at this
    exact this
   go_wp2_with fail
   go_ret
   refine⟨⟨_,rfl,?_⟩,HW.out⟩
   rw[HE.out]
   rfl
theorem containsA0 {w:World}{a:Option Addr}{cap:Nat}{l:List Ac}{p:Ac->Bool}{fn:FuncId}(hS:ActAt w l a) (hn:l.length<=1000000) (hcf:∀(args:Array Value) (w:World),(callFunc fn args).run Tryz.prog w=.ok (.enter fn args) w)
  (hd:∀ W (x:Ac) aa ac,x∈l->Below w.heap.size w W->IntsAt W x.args aa->Calls Tryz.prog fn #[.agg (acells x aa ac)] W fun e w'=>e=.returned (.bool (p x))/\Below W.heap.size W w') :
  Calls Tryz.prog 14 #[.slice a l.length cap,.func (.func fn) #[] #[]] w fun e w'=>e=.returned (.bool (l.any p))/\Below w.heap.size w w':=by
 have HC:=zh (indexA0 (cap:=cap) hS hn hcf hd)
 clear hS hd hcf
 go_enter Tryz.func14,Tryz.ntmps14
 go_wp2_with fail
 refine HC.out.mono ?_
 rintro e w1 ⟨⟨k,rfl,hk⟩,hb⟩
 have HK:=zh hk
 clear hk
 go_wp2_with fail
 go_ret
 exact⟨by rw[<-HK.out];rfl,hb⟩
def longA (x:Ac):Bool:=decide (1000<x.text.length) || (decide (40<x.name.length) || (decide (40<x.proc.length) || decide (10<x.args.length)))
theorem held_cf (args:Array Value) (w:World):(callFunc 26 args).run Tryz.prog w=.ok (.enter 26 args) w:=by kernel_rfl
theorem held1_post (w:World) (x:Ac) (aa:Option Addr) (ac:Nat):Calls Tryz.prog 26 #[.agg (acells x aa ac)] w fun e w'=>e=.returned (.bool (longA x))/\Below w.heap.size w w':=by
 obtain⟨w2,hw2⟩:∃ w2,w2=w.alloc (.cells (acells x aa ac) 31):=⟨_,rfl⟩
 have hb2:Below w.heap.size w w2:=by rw[hw2];exact zb _ _
 have q0:w2.heap[w.heap.size]?=some (.cells (acells x aa ac) 31 (0,0)):=by rw[hw2];exact zo _ _
 unfold acells at *
 have a1:w2.cell? ⟨w.heap.size,1,none⟩=some (.string (bs x.text)):=(za q0).trans rfl
 have a2:w2.cell? ⟨w.heap.size,2,none⟩=some (.string (bs x.name)):=(za q0).trans rfl
 have a3:w2.cell? ⟨w.heap.size,3,none⟩=some (.string (bs x.proc)):=(za q0).trans rfl
 have a4:w2.cell? ⟨w.heap.size,4,none⟩=some (.slice aa x.args.length ac):=(za q0).trans rfl
 have hl:=zf q0
 have HB2:=zh hb2
 have hs1:((bs x.text).size:Int)=(x.text.length:Int):=by rw[yz]
 have hs2:((bs x.name).size:Int)=(x.name.length:Int):=by rw[yz]
 have hs3:((bs x.proc).size:Int)=(x.proc.length:Int):=by rw[yz]
 unfold longA
 clear q0 hb2
 by_cases h1:1000<x.text.length
 ·have h1':(x.text.length:Int) > 1000:=by omega
  rw[decide_eq_true h1,Bool.true_or]
  clear h1
  go_enter Tryz.func26,Tryz.ntmps26
  go_upto_region 1 with fail
  rw[<-hw2]
  clear hw2
  go_wp2_with fail
  go_ret
  exact⟨rfl,HB2.out⟩
 have h1':¬(x.text.length:Int) > 1000:=by omega
 rw[decide_eq_false h1,Bool.false_or]
 clear h1
 by_cases h2:40<x.name.length
 ·have h2':(x.name.length:Int) > 40:=by omega
  rw[decide_eq_true h2,Bool.true_or]
  clear h2
  go_enter Tryz.func26,Tryz.ntmps26
  go_upto_region 1 with fail
  rw[<-hw2]
  clear hw2
  go_wp2_with fail
  go_ret
  exact⟨rfl,HB2.out⟩
 have h2':¬(x.name.length:Int) > 40:=by omega
 rw[decide_eq_false h2,Bool.false_or]
 clear h2
 by_cases h3:40<x.proc.length
 ·have h3':(x.proc.length:Int) > 40:=by omega
  rw[decide_eq_true h3,Bool.true_or]
  clear h3
  go_enter Tryz.func26,Tryz.ntmps26
  go_upto_region 1 with fail
  rw[<-hw2]
  clear hw2
  go_wp2_with fail
  go_ret
  exact⟨rfl,HB2.out⟩
 have h3':¬(x.proc.length:Int) > 40:=by omega
 rw[decide_eq_false h3,Bool.false_or]
 clear h3
 by_cases h4:10<x.args.length
 ·have h4':(x.args.length:Int) > 10:=by omega
  rw[decide_eq_true h4]
  clear h4
  go_enter Tryz.func26,Tryz.ntmps26
  go_upto_region 1 with fail
  rw[<-hw2]
  clear hw2
  go_wp2_with fail
  go_ret
  exact⟨rfl,HB2.out⟩
 ·have h4':¬(x.args.length:Int) > 10:=by omega
  rw[decide_eq_false h4]
  clear h4
  go_enter Tryz.func26,Tryz.ntmps26
  go_upto_region 1 with fail
  rw[<-hw2]
  clear hw2
  go_wp2_with fail
  go_ret
  exact⟨rfl,HB2.out⟩
structure HeldA (l:List Ac):Prop where
 n:l.length<=12
 x:∀ x∈l,x.text.length<=1000/\x.name.length<=40/\x.proc.length<=40/\x.args.length<=10
def HeldP (l:List Ac) (w:World) (e:Ending) (w':World):Prop:=(∃ b,e=.returned (.bool b)/\(b=true->HeldA l))/\Below w.heap.size w w'
theorem held_post {w:World}{l:List Ac}{a:Option Addr}{cap:Nat}(hS:ActAt w l a):Calls Tryz.prog 7 #[.slice a l.length cap] w (HeldP l w):=by
 by_cases h12:l.length<=12
 ·have h12':(l.length:Int)<=12:=by omega
  have HC:=zh (containsA0 (cap:=cap) hS (by omega) held_cf (fun W x aa ac _ _ _=>held1_post W x aa ac))
  have HX:Hid ((!(l.any longA))=true->HeldA l):=fun e=>by
   have e':l.any longA=false:=by simpa using e
   rw[List.any_eq_false]at e'
   refine⟨h12,fun x hx=>?_⟩
   have:=e' x hx
   unfold longA at this
   simp only [Bool.or_eq_true,decide_eq_true_eq,not_or,Nat.not_lt]at this
   exact this
  clear hS h12
  generalize l.any longA=r at *
  obtain⟨ln,hln⟩:∃ ln,ln=l.length:=⟨_,rfl⟩
  rw[<-hln]at h12' HC ⊢
  clear hln
  go_enter Tryz.func7,Tryz.ntmps7
  go_wp2_with fail
  refine HC.out.mono ?_
  rintro e w1 ⟨rfl,hb⟩
  have HB:=zh hb
  clear hb
  go_wp2_with fail
  go_ret
  refine⟨⟨!r,?_,HX.out⟩,HB.out⟩
  first|rfl|simp
 ·have h12':¬(l.length:Int)<=12:=by omega
  clear hS
  go_enter Tryz.func7,Tryz.ntmps7
  go_wp2_with fail
  go_ret
  exact⟨⟨false,rfl,fun e=>by cases e⟩,Below.refl _ _⟩
end Go.Proofs.YtibncofnnlbmcaaGreatDoor
namespace Go.Proofs.YtibncofnnlbmcaaGreatDoor
open Go.RowKit Go.Maps
open Tp (Bs X S G Pr Pt Rs Rr Own)
theorem ran_any {w:World}(hmk:Mk w) (hlv:Lv w):Calls Tryz.prog 8 #[] w fun e w'=>e=.returned (.bool true)/\Below w.heap.size w w':=by
 have hp:=yP w Tp.txtR (by decide) hmk hlv
 have HP:Hid (Calls Tryz.prog 9 #[.string ⟨#[109,111,100,117,108,101,32,109,59,32,118,97,114,32,120,58,32,105,110,116,59,32,112,114,111,99,32,102,42,40,97,41,59,32,98,101,103,105,110,32,120,32,58,61,32,120,32,43,32,97,59,32,114,101,116,117,114,110,32,120,32,42,32,50,59,32,101,110,100,59,32,98,101,103,105,110,32,119,114,105,116,101,32,102,40,51,41,59,32,101,110,100,46]⟩] w fun e w'=>Below w.heap.size w w'/\∃ v,e=.returned (.tuple #[v,.nilIface])/\VM w.heap.size Tp.modR v w'):=by
  refine hp.mono ?_
  rintro e w' ⟨h1,h2⟩
  unfold ParseP at h2
  rw[Tp.parseR]at h2
  exact⟨h1,h2⟩
 have hwm:=(Tp.parse_wm Tp.parseR).1
 have HWM:=zh hwm
 clear hp hmk hlv hwm
 go_enter Tryz.func8,Tryz.ntmps8
 go_wp2_with fail
 refine HP.out.mono ?_
 rintro e w1 ⟨h1,v1,rfl,hvm⟩
 obtain⟨ia,ga,pa,ba,ic,gc,pc,bc,rfl,hmb⟩:=hvm.mb
 have e0:mcells (bs Tp.modR.name) (.slice ia Tp.modR.imports.length ic) (.slice ga Tp.modR.vars.length gc) (.slice pa Tp.modR.procs.length pc) (.slice ba Tp.modR.body.length bc)=#[.string ⟨#[109]⟩,.slice ia 0 ic,.slice ga 1 gc,.slice pa 1 pc,.slice ba 1 bc]:=rfl
 obtain⟨w3,hw3⟩:∃ w3,w3=(w1.alloc (.cells #[.string ⟨#[109]⟩,.slice ia 0 ic,.slice ga 1 gc,.slice pa 1 pc,.slice ba 1 bc] 36)).alloc (.cells #[.slice none 0 0,.map none] 28):=⟨_,rfl⟩
 have hs3:w3.heap.size=w1.heap.size+2:=by rw[hw3];simp
 have hb3:Below w1.heap.size w1 w3:=by rw[hw3];exact(zb _ _).alloc (by simp) _
 have hbw:w3.heap[w1.heap.size+1]?=some (.cells #[.slice none 0 0,.map none] 28 (0,0)):=by
  have:=zo (w1.alloc (.cells #[.string ⟨#[109]⟩,.slice ia 0 ic,.slice ga 1 gc,.slice pa 1 pc,.slice ba 1 bc] 36)) (.cells #[.slice none 0 0,.map none] 28)
  rw[hw3];simpa using this
 have hbm:w3.heap[w1.heap.size]?=some (.cells #[.string ⟨#[109]⟩,.slice ia 0 ic,.slice ga 1 gc,.slice pa 1 pc,.slice ba 1 bc] 36 (0,0)):=by
  rw[hw3];exact(Below.heap_alloc _ _ _ (by simp)).trans (zo _ _)
 have hs1:=h1.size
 have HCALL:Hid (∀(w4:World) (U':Nat->Prop),WZ (fun _=>False) U' 1 w4 (w1.heap.size+1) (Tp.loadW ofS [] Tp.modR 100).w->(∀ b,U' b->w.heap.size<=b/\b<w4.heap.size)->Below w.heap.size w w4->∀(w8:World) (ab:Nat),Below w4.heap.size w4 w8->w8.cell? ⟨ab,0,none⟩=some (.int .i64 4)->Calls Tryz.prog 27 #[.pointer (some ⟨w1.heap.size+1,0,none⟩),.string ⟨#[109]⟩,.string ⟨#[102]⟩,.slice (some ⟨ab,0,none⟩) 1 1,.int .i64 100] w8 fun e w9=>∃ oa on oc,e=.returned (.tuple #[.agg #[.int .i64 1,.slice oa on oc],.int .i64 14,.nilIface])/\Below w.heap.size w w9/\∀ b,w4.heap.size<=b->b<w8.heap.size->w9.heap[b]?=w8.heap[b]?):=by
  intro w4 U' hz hU hb4 w8 ab hb8 hab
  have hR:=Tp.ranR ofS
  have hia:IntsAt w8 [4] (some ⟨ab,0,none⟩):=⟨fun i hi=>by
   have:i=0:=by simp at hi;omega
   subst this
   exact⟨ab,0,rfl,zg hab,hab⟩⟩
  have hc:=call_any (nm:=[102]) (vs:=[4]) (md:=[109]) (ac:=1) (fuel:=100) (hz.on hb8) (by omega) (by decide) (fun v hv=>by rw[List.mem_singleton]at hv;subst hv;unfold Tp.I64;omega) hia (by decide)
  refine hc.mono ?_
  rintro e w9 ⟨oa,oc,ev,he,hans,hev⟩
  obtain⟨U2,_,ht⟩:=hans.wz
  rw[hR.2.2.1]at hev
  have hev':ev=.nilIface:=hev
  rw[hR.2.2.2.1,hR.2.2.2.2,hev']at he
  have hs8:=hb8.size
  have hs4:=hb4.size
  refine⟨oa,_,oc,he,⟨(ht.os.trans hb8.os).trans hb4.os,(ht.tape.trans hb8.tape).trans hb4.tape,(ht.output.trans hb8.output).trans hb4.output,by have:=ht.size;omega,fun b hb=>?_⟩,fun b h4 h8=>ht.block b h8 (fun q=>by have:=hU b q;omega)⟩
  exact((ht.block b (by omega) (fun q=>by have:=hU b q;omega)).trans (hb8.block b (by omega))).trans (hb4.block b hb)
 have HL:Hid (Calls Tryz.prog 17 #[.pointer (some ⟨w1.heap.size+1,0,none⟩),.agg #[.string ⟨#[109]⟩,.slice ia 0 ic,.slice ga 1 gc,.slice pa 1 pc,.slice ba 1 bc],.int .i64 100] w3 fun e w4=>∃ b o oc,e=.returned (.tuple #[.agg #[.int .i64 1,.slice (some ⟨b,o,none⟩) 1 oc],.nilIface])/\w4.cell? ⟨b,o,none⟩=some (.int .i64 6)/\(∀(w8:World) (ab:Nat),Below w4.heap.size w4 w8->w8.cell? ⟨ab,0,none⟩=some (.int .i64 4)->Calls Tryz.prog 27 #[.pointer (some ⟨w1.heap.size+1,0,none⟩),.string ⟨#[109]⟩,.string ⟨#[102]⟩,.slice (some ⟨ab,0,none⟩) 1 1,.int .i64 100] w8 fun e w9=>∃ oa on oc,e=.returned (.tuple #[.agg #[.int .i64 1,.slice oa on oc],.int .i64 14,.nilIface])/\Below w.heap.size w w9/\∀ b,w4.heap.size<=b->b<w8.heap.size->w9.heap[b]?=w8.heap[b]?)/\w3.heap.size<=w4.heap.size):=by
  have hz3:WZ (fun _=>False) (fun b=>b=w1.heap.size+1) 0 w3 (w1.heap.size+1) []:=WZ.zero hbw (fun q=>q)
  have hmd:MD w3 (fun b=>b<w1.heap.size) Tp.modR ia ga pa ba ic gc pc bc:=(hmb.md).mono (fun b hb hl=>⟨hb3.block b hl,hb⟩)
  have hnM:Tp.nM Tp.modR<=1000:=by
   have h2:=(Tp.parse_wm Tp.parseR).2
   have e2:Tp.txtR.length<=1000:=by decide
   omega
  have hl:=vJ (fuel:=100) hz3 (fun b q=>q.elim) (by omega) (hmb.up hb3) hmd (fun b hb _=>⟨fun q=>q,by omega⟩) HWM.out hnM (by omega)
  rw[e0]at hl
  refine hl.mono ?_
  rintro e w4 ⟨oa,oc,ev,he,_,hans,hev⟩
  have hR:=Tp.ranR ofS
  obtain⟨U2,hz4,ht⟩:=hans.wz
  rw[hR.1]at hev
  have hev':ev=.nilIface:=hev
  have hit:=hans.it
  rw[hR.2.1,hev']at he
  rw[hR.2.1]at hit
  obtain⟨b,o,rfl,_,hc⟩:=hit.c 0 (by decide)
  have hs4:=ht.size
  exact⟨b,o,oc,he,hc,HCALL.out w4 U2 hz4 (fun b q=>by
   have h4:=(hz4.lt q).1
   rcases ht.more b q with z|z
   ·exact⟨by rw[z];omega,h4⟩
   ·exact⟨by omega,h4⟩) ((h1.trans (hb3.mono hs1)).trans (ht.toBelow (by omega) (fun b q=>by rw[q];omega))),hs4⟩
 rw[e0]
 have k0:w3.cell? ⟨w1.heap.size,0,none⟩=some (.string ⟨#[109]⟩):=(za hbm).trans rfl
 have k1:w3.cell? ⟨w1.heap.size,1,none⟩=some (.slice ia 0 ic):=(za hbm).trans rfl
 have k2:w3.cell? ⟨w1.heap.size,2,none⟩=some (.slice ga 1 gc):=(za hbm).trans rfl
 have k3:w3.cell? ⟨w1.heap.size,3,none⟩=some (.slice pa 1 pc):=(za hbm).trans rfl
 have k4:w3.cell? ⟨w1.heap.size,4,none⟩=some (.slice ba 1 bc):=(za hbm).trans rfl
 have hml3:=zf hbm
 have hwl3:=zf hbw
 clear hvm hmb e0 hbm hbw hb3 h1 HCALL HP HWM hs3
 go_upto_region 5 with fail
 rw[<-hw3]
 clear hw3
 go_wp2_with fail
 refine HL.out.mono ?_
 rintro e w4 ⟨b,o,oc,rfl,hc6,hcall,hs4⟩
 obtain⟨w5,hw5⟩:∃ w5,w5=w4.alloc (.cells #[.int .i64 1,.slice (some ⟨b,o,none⟩) 1 oc] 43):=⟨_,rfl⟩
 have hE5:w5.heap[w4.heap.size]?=some (.cells #[.int .i64 1,.slice (some ⟨b,o,none⟩) 1 oc] 43 (0,0)):=by rw[hw5];exact zo _ _
 have hb5:Below w4.heap.size w4 w5:=by rw[hw5];exact zb _ _
 obtain⟨w6,hw6⟩:∃ w6,w6=w5.alloc (.cells #[.int .i64 6] 2):=⟨_,rfl⟩
 have hb6:Below w5.heap.size w5 w6:=by rw[hw6];exact zb _ _
 have hS6:w6.heap[w5.heap.size]?=some (.cells #[.int .i64 6] 2 (0,0)):=by rw[hw6];exact zo _ _
 have hs5:=hb5.size
 have hs6:=hb6.size
 have hel5:=zf hE5
 have c6:w6.cell? ⟨b,o,none⟩=some (.int .i64 6):=(hb6.cell (p:=⟨b,o,none⟩) (Nat.lt_of_lt_of_le (zg hc6) hs5)).trans ((hb5.cell (p:=⟨b,o,none⟩) (zg hc6)).trans hc6)
 have d6:w6.cell? ⟨w5.heap.size,0,none⟩=some (.int .i64 6):=(za hS6).trans rfl
 have HEQ:=zh (eq_one (c1:=oc) (c2:=1) c6 d6)
 clear d6
 have HE6:Hid (w6.heap[w4.heap.size]?=some (.cells #[.int .i64 1,.slice (some ⟨b,o,none⟩) 1 oc] 43 (0,0))):=(hb6.block _ hel5).trans hE5
 have HB6:Hid (Below w4.heap.size w4 w6):=hb5.trans (hb6.mono hs5)
 have f0:w5.cell? ⟨w4.heap.size,0,none⟩=some (.int .i64 1):=(za hE5).trans rfl
 have f1:w5.cell? ⟨w4.heap.size,1,none⟩=some (.slice (some ⟨b,o,none⟩) 1 oc):=(za hE5).trans rfl
 have HCL:=zh hcall
 clear hE5 hb5 hb6 hS6 c6 hc6 hcall k0 k1 k2 k3 k4
 go_upto_region 6 with fail
 rw[<-hw5]
 clear hw5
 go_upto_region 7 with(go_at_call 24;rw[<-hw6];refine HEQ.out.mono ?_;rintro e w7 ⟨rfl,hb7⟩)
 have hs7:=hb7.size
 have HB7:Hid (Below w4.heap.size w4 w7):=HB6.out.trans (hb7.mono HB6.out.size)
 have HE7:Hid (w7.heap[w4.heap.size]?=some (.cells #[.int .i64 1,.slice (some ⟨b,o,none⟩) 1 oc] 43 (0,0))):=(hb7.block _ (zf HE6.out)).trans HE6.out
 clear hb7 hw6 HE6 HB6 HEQ f0 f1
 obtain⟨w8,hw8⟩:∃ w8,w8=w7.alloc (.cells #[.int .i64 4] 2):=⟨_,rfl⟩
 have hb8:Below w7.heap.size w7 w8:=by rw[hw8];exact zb _ _
 have hS8:w8.heap[w7.heap.size]?=some (.cells #[.int .i64 4] 2 (0,0)):=by rw[hw8];exact zo _ _
 have hE8:=(hb8.block _ (zf HE7.out)).trans HE7.out
 have HCC:=zh (HCL.out w8 w7.heap.size (HB7.out.trans (hb8.mono HB7.out.size)) ((za hS8).trans rfl))
 have HE8:=zh hE8
 clear HCL hS8 hb8 hE8 HB7 HE7
 go_wp2_with fail
 rw[<-hw8]
 refine HCC.out.mono ?_
 rintro e w9 ⟨oa,on,oc',rfl,hb9,hk9⟩
 have hE9:=(hk9 _ zn (zf HE8.out)).trans HE8.out
 have e0:w9.cell? ⟨w4.heap.size,0,none⟩=some (.int .i64 1):=(za hE9).trans rfl
 have e1:w9.cell? ⟨w4.heap.size,1,none⟩=some (.slice (some ⟨b,o,none⟩) 1 oc):=(za hE9).trans rfl
 have ez:∀ j,w9.frozen? ⟨w4.heap.size,j,none⟩=false:=fun j=>zi hE9
 have hel9:=zf hE9
 have hset:=zu 1 (.slice oa on oc') (zu 0 (.int .i64 1) hE9)
 obtain⟨wf,hwf⟩:∃ wf,wf=(w9.setCell ⟨w4.heap.size,0,none⟩ (.int .i64 1)).setCell ⟨w4.heap.size,1,none⟩ (.slice oa on oc'):=⟨_,rfl⟩
 have g0:wf.cell? ⟨w4.heap.size,0,none⟩=some (.int .i64 1):=by rw[hwf];exact(za hset).trans rfl
 have HF:Hid (Below w.heap.size w wf):=by
  show Below _ _ _
  rw[hwf]
  exact zq (zq hb9 (by omega) 0 _) (by omega) 1 _
 have helf:w4.heap.size<wf.heap.size:=by rw[hwf];exact zf hset
 clear hset hE9 hk9 hb9 HCC HE8 hw8 HL
 go_upto_region 9 with fail
 rw[<-hwf]
 clear hwf e0 e1 ez
 go_wp2_with fail
 go_ret
 exact⟨rfl,HF.out⟩
theorem qj {P:List Pt}{a:Ac}{fuel:Nat}{r:Tp.Ans}(h:ActIs P a fuel r) (he:r.err≠none):r.w=P/\r.e=Tp.no/\r.n=0:=by
 unfold ActIs at h
 split at h
 ·subst h;exact Tp.call_refused he
 ·split at h
  ·subst h;exact⟨rfl,rfl,rfl⟩
  ·split at h
   ·subst h;exact Tp.swap_refused he
   ·subst h;exact Tp.load_refused he
theorem vt {w:World}(hv:VarsC w.heap.size w) {l:List Ac}{a:Option Addr}{cap:Nat}(hS:ActAt w l a) :
  Calls Tryz.prog 6 #[.slice a l.length cap] w fun e w'=>e=.returned (.bool true)/\Below w.heap.size w w':=by
 have HV:=zh hv
 have HS:=zh hS
 have HH:=zh (held_post (cap:=cap) hS)
 clear hv hS
 obtain⟨ln,hln⟩:∃ ln,ln=l.length:=⟨_,rfl⟩
 rw[<-hln]at HH ⊢
 have HLN:=zh hln
 clear hln
 go_enter Tryz.func6,Tryz.ntmps6
 go_wp2_with fail
 refine HH.out.mono ?_
 rintro e w1 ⟨⟨bb,rfl,hbb⟩,hb1⟩
 have HB1:=zh hb1
 cases bb with
 | false =>
  clear hbb hb1
  go_wp2_with fail
  go_ret
  exact⟨rfl,HB1.out⟩
 | true =>
  have HHE:=zh (hbb rfl)
  have hv1:=HV.out.on hb1
  have HR:=zh (ran_any hv1.mks hv1.lv)
  clear hbb hb1 hv1 HH
  go_wp2_with fail
  refine HR.out.mono ?_
  rintro e w2 ⟨rfl,hb2⟩
  have HB2:Hid (Below w.heap.size w w2):=HB1.out.trans (hb2.mono HB1.out.size)
  obtain⟨w3,hw3⟩:∃ w3,w3=w2.alloc (.cells #[.slice none 0 0,.map none] 28):=⟨_,rfl⟩
  have hb3:Below w2.heap.size w2 w3:=by rw[hw3];exact zb _ _
  have hk3:w3.heap[w2.heap.size]?=some (.cells #[.slice none 0 0,.map none] 28 (0,0)):=by rw[hw3];exact zo _ _
  have HZ3:Hid (WZ (fun _=>False) (fun b=>b=w2.heap.size) 0 w3 w2.heap.size []):=WZ.zero hk3 (fun q=>q)
  have HB3:Hid (Below w.heap.size w w3):=HB2.out.trans (hb3.mono HB2.out.size)
  have hw2l:w.heap.size<=w2.heap.size:=HB2.out.size
  have h3l:=zf hk3
  have hl12:ln<=12:=by have:=HHE.out.n;have:=HLN.out;omega
  have hl12':(ln:Int)<=12:=by omega
  obtain⟨wb,hwb⟩:∃ wb,wb=w2.heap.size:=⟨_,rfl⟩
  rw[<-hwb]at HZ3 hw2l h3l
  clear hb2 hb3 hk3 HR HB1 HB2
  go_wp2_with fail
  rw[<-hw3,<-hwb]
  clear hw3 hwb
  go_loopg [4] ln (fun k vi wr=>∃(i:Nat) (U:Nat->Prop) (P:List Pt),i<=ln/\k=ln - i/\vi=.int .i64 (i:Int)/\Hid (WZ (fun _=>False) U i wr wb P)/\Hid (Tr (fun b=>b=wb) U w3 wr))
  case atStart=>exact⟨0,_,[],by omega,by omega,rfl,HZ3,Tr.below (Below.refl _ _)⟩
  case round =>
   obtain⟨i,U,P,hid,hk,rfl,HZ,HT⟩:=hrel
   have HBr:Hid (Below w.heap.size w wr):=HB3.out.trans (HT.out.toBelow (by have:=HB3.out.size;omega) (fun b e=>by rw[e];exact hw2l))
   by_cases hlt:i<ln
   ·have hlt':(i:Int)<(ln:Int):=by omega
    have hi0:¬(i:Int)<0:=by omega
    have hin:i<l.length:=by have:=HLN.out;omega
    have HALL:=zh HZ.out.all
    have hwlr:wb<wr.heap.size:=(HZ.out.lt HZ.out.wb).1
    have HUB:Hid (∀ b,U b->w.heap.size<=b):=fun b q=>by
     rcases HT.out.more b q with z|z
     ·rw[z];exact hw2l
     ·have:=HB3.out.size;omega
    obtain⟨s0,hs0⟩:∃ s0,s0=allB P:=⟨_,rfl⟩
    rw[<-hs0]at HALL
    have HS0:=zh hs0
    clear hs0
    go_wp2_with fail
    refine HALL.out.mono ?_
    rintro e w4 ⟨rfl,hb4⟩
    have HB4:Hid (Below w.heap.size w w4):=HBr.out.trans (hb4.mono HBr.out.size)
    have HZ4:=zh (HZ.out.on hb4)
    obtain⟨g,go,aa,ac,hga,hc0,hia,h64⟩:=(HS.out.on HB4.out).c i hin
    subst hga
    have e0:w4.cell? ⟨g,go+i * 5,none⟩=some (.int .i64 l[i].what):=hc0 0 (by omega)
    have e1:w4.cell? ⟨g,go+i * 5+1,none⟩=some (.string (bs l[i].text)):=by rw[Nat.add_assoc];exact hc0 1 (by omega)
    have e2:w4.cell? ⟨g,go+i * 5+2,none⟩=some (.string (bs l[i].name)):=by rw[Nat.add_assoc];exact hc0 2 (by omega)
    have e3:w4.cell? ⟨g,go+i * 5+3,none⟩=some (.string (bs l[i].proc)):=by rw[Nat.add_assoc];exact hc0 3 (by omega)
    have e4:w4.cell? ⟨g,go+i * 5+4,none⟩=some (.slice aa l[i].args.length ac):=by rw[Nat.add_assoc];exact hc0 4 (by omega)
    have hgl:g<w4.heap.size:=zg e0
    obtain⟨x1,x2,x3,x4⟩:=HHE.out.x _ (List.getElem_mem hin)
    have HA:=zh (act_post (fuel:=300) (ac:=ac) (HV.out.on HB4.out) HB4.out.size HUB.out (fun b q=>q.elim) HZ4.out (by omega) (by omega) x1 (by omega) h64 hia (by omega))
    have HT4:Hid (Tr (fun b=>b=wb) U w3 w4):=HT.out.then hb4
    have hwl4:wb<w4.heap.size:=(HZ4.out.lt HZ4.out.wb).1
    unfold acells at HA
    generalize l[i]=x at *
    clear hb4 hc0 hia h64 HALL HZ HBr
    go_wp2_with fail
    refine HA.out.mono ?_
    rintro e w5 ⟨r,hr,oa,oc,rfl,hans⟩
    obtain⟨U',hz5,ht5⟩:=hans.wz
    obtain⟨on,hon⟩:∃ on,on=r.e.out.length:=⟨_,rfl⟩
    obtain⟨w6,hw6⟩:∃ w6,w6=w5.alloc (.cells #[.int .i64 (r.e.way:Int),.slice oa on oc] 43):=⟨_,rfl⟩
    have hb6:Below w5.heap.size w5 w6:=by rw[hw6];exact zb _ _
    have hk6:w6.heap[w5.heap.size]?=some (.cells #[.int .i64 (r.e.way:Int),.slice oa on oc] 43 (0,0)):=by rw[hw6];exact zo _ _
    have HZ6:Hid (WZ (fun _=>False) U' (i+1) w6 wb r.w):=hz5.on hb6
    have HT6:Hid (Tr (fun b=>b=wb) U' w3 w6):=(HT4.out.trans ht5).then hb6
    have hl6:=zf hk6
    have hwl6:wb<w6.heap.size:=(HZ6.out.lt HZ6.out.wb).1
    have HRF:Hid (tellN r.err≠0->r.w=P/\r.e=Tp.no/\r.n=0):=fun e=>qj hr (fun q=>e (by rw[q];rfl))
    have HON:=zh hon
    have HK6:=zh hk6
    rw[<-hon]
    clear hz5 ht5 hb6 hk6 hans hr HA HT4 HZ4 hon
    generalize htl:tellN r.err=tl at *
    clear htl
    by_cases h0:tl=0
    ·subst h0
     have hz:((0:Nat):Int)=0:=rfl
     rw[hz]
     go_upto_region 11 with fail
     rw[<-hw6]
     clear hw6
     go_wp2_with fail
     go_roundg (ln - (i+1))
     case measure=>omega
     case rel=>exact⟨i+1,U',r.w,by omega,rfl,by go_num,HZ6,HT6⟩
    ·obtain⟨q1,q2,q3⟩:=HRF.out h0
     have h0':¬(tl:Int)=0:=by omega
     have HALL2:Hid (Calls Tryz.prog 13 #[.pointer (some ⟨wb,0,none⟩)] w6 fun e w7=>e=.returned (.string s0)/\Below w6.heap.size w6 w7):=by
      have:=HZ6.out.all
      rw[q1,<-HS0.out]at this
      exact this
     have hon0:on=0:=by rw[HON.out,q2];rfl
     have hk6:=HK6.out
     rw[hon0,q2]at hk6
     have g0:w6.cell? ⟨w5.heap.size,0,none⟩=some (.int .i64 0):=(za hk6).trans rfl
     have g1:w6.cell? ⟨w5.heap.size,1,none⟩=some (.slice oa 0 oc):=(za hk6).trans rfl
     rw[hon0,q2,q3]
     rw[hon0,q2]at hw6
     have hno:((Tp.no.way:Nat):Int)=0:=rfl
     rw[hno]at hw6 ⊢
     clear hk6 hon0 q2 q3 HRF HON HK6
     go_upto_region 11 with fail
     rw[<-hw6]
     clear hw6
     go_wp2_with fail
     refine HALL2.out.mono ?_
     rintro e w7 ⟨rfl,hb7⟩
     have g0':w7.cell? ⟨w5.heap.size,0,none⟩=some (.int .i64 0):=(hb7.cell (p:=⟨w5.heap.size,0,none⟩) hl6).trans g0
     have g1':w7.cell? ⟨w5.heap.size,1,none⟩=some (.slice oa 0 oc):=(hb7.cell (p:=⟨w5.heap.size,1,none⟩) hl6).trans g1
     have hl7:w5.heap.size<w7.heap.size:=zg g0'
     have HZ7:=zh (HZ6.out.on hb7)
     have HT7:Hid (Tr (fun b=>b=wb) U' w3 w7):=HT6.out.then hb7
     clear hb7 g0 g1 HALL2
     go_wp2_with fail
     go_roundg (ln - (i+1))
     case measure=>omega
     case rel=>exact⟨i+1,U',r.w,by omega,rfl,by go_num,HZ7,HT7⟩
   ·have hlt':¬(i:Int)<(ln:Int):=by omega
    clear HZ HT
    go_wp2_with fail
    go_ret
    exact⟨rfl,HBr.out⟩
end Go.Proofs.YtibncofnnlbmcaaGreatDoor
