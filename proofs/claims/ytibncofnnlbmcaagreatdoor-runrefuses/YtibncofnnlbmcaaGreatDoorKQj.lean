import Derived.Test.YtibncofnnlbmcaaGreatDoorKQi
import Derived.Test.YtibncofnnlbmcaaGreatDoorKMf
set_option maxRecDepth 100000
set_option maxHeartbeats 4000000
namespace Go.Proofs.YtibncofnnlbmcaaGreatDoor
open Go.RowKit Go.Maps
open Tp (Bs X S G Pr Pt Rs Rr Own)
theorem all_post {X:Nat->Prop}{w:World}{wb:Nat}{L:List Lo}{P:List Pt}{nv:Value}{tb:Nat}(h:WW X w wb L P nv tb) (hL:L.length<=10) :
  Calls Tryz.prog 13 #[.pointer (some ⟨wb,0,none⟩)] w fun e w'=>e=.returned (.string (allB P))/\Below w.heap.size w w':=by
 obtain⟨ns,hns⟩:∃ ns,ns=L.map fun lo=>lo.m.name:=⟨_,rfl⟩
 have hPn:P.map (fun p=>p.m.name)=ns:=by
  have:=congrArg (List.map fun m:Tp.M=>m.name) h.mw
  rw[hns]
  simpa[Tp.ms,Function.comp_def] using this
 have HN:=zh (vF (ns:=ns) h.blk (by rw[hns];simpa using h.nm) (by rw[hns];simp;omega))
 have HW:=zh h
 obtain⟨rs,hrs⟩:∃ rs,rs=allB P:=⟨_,rfl⟩
 have HRS:Hid (rs=ns.foldl (modS P) ⟨#[]⟩):=by show rs=_;rw[hrs,<-hPn];rfl
 have HNL:Hid (∀ i (hi:i<ns.length),∃ lo∈L,lo.m.name=ns[i]/\ns[i].length<=1000000):=fun i hi=>by
  have hm:∀ x∈ns,∃ lo∈L,lo.m.name=x:=by
   rw[hns]
   intro x hx
   obtain⟨lo,h1,h2⟩:=List.mem_map.1 hx
   exact⟨lo,h1,h2⟩
  obtain⟨lo,h1,h2⟩:=hm _ (List.getElem_mem hi)
  obtain⟨_,_,_,_,hfit⟩:=h.lo lo h1
  exact⟨lo,h1,h2,by rw[<-h2];exact zQ hfit.wm.n⟩
 rw[<-hrs]
 have hl10:ns.length<=10:=by rw[hns];simpa using hL
 clear h hPn hrs hns hL
 go_enter Tryz.func13,Tryz.ntmps13
 go_wp2_with fail
 refine HN.out.mono ?_
 rintro e w1 ⟨v',rfl,hb1,ho1⟩
 obtain⟨na,nc,rfl⟩:=zw ho1
 have HB1:=zh hb1
 have HW1:=zh (HW.out.more hb1)
 have HNC:Hid (∀ i (hi:i<ns.length),∃ nb,na=some ⟨nb,0,none⟩/\nb<w1.heap.size/\w1.cell? ⟨nb,i,none⟩=some (.string (bs ns[i]))):=fun i hi=>by
  rcases ho1.2 with⟨_,h2⟩|⟨g,cap,cur,h1,_,h3,h4,h5,h6,h7⟩
  ·omega
  ·injection h1 with h1 _ _
   refine⟨g,h1,zf h3,?_⟩
   rw[za h3,<-Array.getElem?_toList]
   have:(strs ns)[i]?=some (.string (bs ns[i])):=by simp[strs,hi]
   rw[<-this,<-h7,List.getElem?_take_of_lt (by omega)]
 clear hb1 ho1 HN HW
 obtain⟨ln,hln⟩:∃ ln,ln=ns.length:=⟨_,rfl⟩
 have HLN:=zh hln
 rw[<-hln]at hl10 ⊢
 clear hln
 go_wp2_with fail
 go_loopg [3,5] ln (fun k vs vi wr=>∃(i:Nat) (sb:ByteArray),i<=ln/\k=ln - i/\vi=.int .i64 (i:Int)/\vs=.string sb/\Hid (sb=(ns.take i).foldl (modS P) ⟨#[]⟩/\sb.size<=i * 2000000)/\Hid (Below w1.heap.size w1 wr))
 case atStart=>exact⟨0,_,by omega,by omega,rfl,rfl,⟨rfl,by decide⟩,Below.refl _ _⟩
 case round =>
  obtain⟨i,sb,hid,hk,rfl,rfl,HS,HB⟩:=hrel
  by_cases hlt:i<ln
  ·have hlt':(i:Int)<(ln:Int):=by omega
   have hi0:¬(i:Int)<0:=by omega
   have hin:i<ns.length:=by have:=HLN.out;omega
   obtain⟨nb,rfl,hnb1,hnc⟩:=HNC.out i hin
   have HKN:Hid (∀ W,Below w1.heap.size w1 W->W.cell? ⟨nb,i,none⟩=some (.string (bs ns[i]))):=fun W hW=>(hW.cell (p:=⟨nb,i,none⟩) hnb1).trans hnc
   have kn:=HKN.out wr HB.out
   have hnl:nb<wr.heap.size:=zg kn
   obtain⟨lo,hlo,hlm,hle⟩:=HNL.out i hin
   have HLO:Hid (lo∈L/\lo.m.name=ns[i]):=⟨hlo,hlm⟩
   have hsz1:¬9223372036854775807<sb.size+(bs ns[i]).size:=by rw[yz];have:=HS.out.2;omega
   obtain⟨s1,hs1⟩:∃ s1,s1=sb++bs ns[i]:=⟨_,rfl⟩
   have HS1:Hid (s1.size<=i * 2000000+1000000):=by show _<=_;rw[hs1,ByteArray.size_append,yz];have:=HS.out.2;omega
   have HMS:Hid (vars5.foldl (varS P ns[i]) s1++⟨#[59]⟩=(ns.take (i+1)).foldl (modS P) ⟨#[]⟩):=by
    show _=_
    rw[jD (modS P) _ ns i hin,<-HS.out.1,hs1]
    rfl
   obtain⟨w2,hw2⟩:∃ w2,w2=wr.alloc (.cells #[.string ⟨#[120]⟩,.string ⟨#[121]⟩,.string ⟨#[116]⟩,.string ⟨#[117]⟩,.string ⟨#[122]⟩] 9):=⟨_,rfl⟩
   have hv2:w2.heap[wr.heap.size]?=some (.cells #[.string ⟨#[120]⟩,.string ⟨#[121]⟩,.string ⟨#[116]⟩,.string ⟨#[117]⟩,.string ⟨#[122]⟩] 9 (0,0)):=by rw[hw2];exact zo _ _
   have HB2:Hid (Below w1.heap.size w1 w2):=by rw[hw2];exact HB.out.alloc HB.out.size _
   obtain⟨vb,hvb⟩:∃ vb,vb=wr.heap.size:=⟨_,rfl⟩
   rw[<-hvb]at hv2
   have HV2:=zh hv2
   clear hnc hlo hlm hle hv2
   obtain⟨nm,hnm⟩:∃ nm,nm=ns[i]:=⟨_,rfl⟩
   rw[<-hnm]at HMS HLO HKN kn hs1 hsz1
   obtain⟨bnm,hbnm⟩:∃ bnm,bnm=bs nm:=⟨_,rfl⟩
   rw[<-hbnm]at HKN kn hs1 hsz1
   have HBN:=zh hbnm
   clear hnm hbnm
   go_upto_region 8 with fail
   rw[<-hw2,<-hvb,<-hs1]
   clear hw2 hvb hs1 kn hnl
   go_loopg [3,29] 5 (fun k vs vj w3=>∃(j:Nat) (sb2:ByteArray),j<=5/\k=5 - j/\vj=.int .i64 (j:Int)/\vs=.string sb2/\Hid (sb2=(vars5.take j).foldl (varS P nm) s1/\sb2.size<=i * 2000000+1000000+j * 500)/\Hid (Below w2.heap.size w2 w3))
   case atStart=>exact⟨0,_,by omega,by omega,rfl,rfl,⟨rfl,by have:=HS1.out;omega⟩,Below.refl _ _⟩
   case round =>
    obtain⟨j,sb2,hjd,hjk,rfl,rfl,HS2,HB3⟩:=hrel
    have HB3w:Hid (Below w1.heap.size w1 wr):=HB2.out.trans (HB3.out.mono HB2.out.size)
    by_cases hj:j<5
    ·have hj':(j:Int)<5:=by omega
     have hj0:¬(j:Int)<0:=by omega
     have hj5:j<vars5.length:=hj
     have kv:wr.cell? ⟨vb,j,none⟩=some (.string (bs vars5[j])):=by
      refine(za ((HB3.out.block vb (zf HV2.out)).trans HV2.out)).trans ?_
      match j,hj with
      | 0,_=>rfl
      | 1,_=>rfl
      | 2,_=>rfl
      | 3,_=>rfl
      | 4,_=>rfl
     have hv1:vars5[j].length=1:=by
      match j,hj with
      | 0,_=>rfl
      | 1,_=>rfl
      | 2,_=>rfl
      | 3,_=>rfl
      | 4,_=>rfl
     have hvl:vb<wr.heap.size:=zg kv
     have kn':=HKN.out wr HB3w.out
     have hnl':nb<wr.heap.size:=zg kn'
     have hwr:=HW1.out.more HB3w.out
     have hg:=get_in hwr HLO.out.1 vars5[j] (by rw[hv1];omega)
     rw[HLO.out.2,<-HBN.out]at hg
     have hgl:∀ xs,Tp.getW P nm vars5[j]=some xs->xs.length<=30:=fun xs hx=>hwr.getlen HLO.out.1 (by rw[HLO.out.2];exact hx)
     have HVS:Hid (varS P nm sb2 vars5[j]=(vars5.take (j+1)).foldl (varS P nm) s1/\(varS P nm sb2 vars5[j]).size<=i * 2000000+1000000+(j+1) * 500):=by
      refine⟨?_,?_⟩
      ·rw[jD (varS P nm) s1 vars5 j hj5,<-HS2.out.1]
      ·have:=var_size hv1 hgl sb2
       have:=HS2.out.2
       omega
     have hszv:¬9223372036854775807<sb2.size+(bs vars5[j]).size:=by rw[yz,hv1];have:=HS2.out.2;omega
     have hsz1':¬9223372036854775807<sb2.size+1:=by have:=HS2.out.2;omega
     clear hwr
     generalize vars5[j]=vq at *
     cases hgw:Tp.getW P nm vq with
     | none =>
      rw[hgw]at hg
      have HG:Hid (Calls Tryz.prog 23 #[.pointer (some ⟨wb,0,none⟩),.string bnm,.string (bs vq)] wr fun e w'=>Below wr.heap.size wr w'/\e=.returned (.tuple #[.slice none 0 0,.iface 44 (.int .i64 7)])):=hg
      have HV3:Hid (sb2++⟨#[45]⟩=(vars5.take (j+1)).foldl (varS P nm) s1/\(sb2++⟨#[45]⟩:ByteArray).size<=i * 2000000+1000000+(j+1) * 500):=by
       have e:varS P nm sb2 vq=sb2++⟨#[45]⟩:=by unfold varS;rw[hgw]
       rw[<-e]
       exact HVS.out
      clear hg hgl HVS hgw hv1
      generalize bs vq=vnm at *
      go_wp2_with fail
      refine HG.out.mono ?_
      rintro e w4 ⟨hb4,rfl⟩
      have HB4:Hid (Below w2.heap.size w2 w4):=HB3.out.trans (hb4.mono HB3.out.size)
      clear hb4
      go_wp2_with fail
      go_roundg (5 - (j+1))
      case measure=>omega
      case rel=>exact⟨j+1,_,by omega,rfl,by go_num,rfl,HV3,HB4⟩
     | some xs =>
      rw[hgw]at hg
      have hxl30:=hgl xs hgw
      have HG:Hid (Calls Tryz.prog 23 #[.pointer (some ⟨wb,0,none⟩),.string bnm,.string (bs vq)] wr fun e w'=>Below wr.heap.size wr w'/\∃ oa oc,e=.returned (.tuple #[.slice oa xs.length oc,.nilIface])/\IntsAt w' xs oa):=hg
      obtain⟨s2,hs2⟩:∃ s2,s2=sb2++bs vq:=⟨_,rfl⟩
      have HV3:Hid (xs.foldl numS s2=(vars5.take (j+1)).foldl (varS P nm) s1/\(xs.foldl numS s2).size<=i * 2000000+1000000+(j+1) * 500):=by
       have e:varS P nm sb2 vq=xs.foldl numS s2:=by unfold varS;rw[hgw,hs2]
       rw[<-e]
       exact HVS.out
      have HS2z:Hid (s2.size<=i * 2000000+1000000+j * 500+1):=by
       show _<=_
       rw[hs2,ByteArray.size_append,yz,hv1]
       have:=HS2.out.2
       omega
      clear hg hgl HVS hgw hv1
      obtain⟨xn,hxn⟩:∃ xn,xn=xs.length:=⟨_,rfl⟩
      rw[<-hxn]at HG hxl30
      have HXN:=zh hxn
      clear hxn
      generalize bs vq=vnm at *
      go_wp2_with fail
      refine HG.out.mono ?_
      rintro e w4 ⟨hb4,oa,oc,rfl,hia⟩
      have HB4:Hid (Below w2.heap.size w2 w4):=HB3.out.trans (hb4.mono HB3.out.size)
      have HIA:=zh hia
      clear hb4 hia kv kn' hnl' hvl
      go_wp2_with fail
      rw[<-hs2]
      clear hs2 hszv
      go_loopg [3,10] xn (fun k vs vj w3=>∃(q:Nat) (sb3:ByteArray),q<=xn/\k=xn - q/\vj=.int .i64 (q:Int)/\vs=.string sb3/\Hid (sb3=(xs.take q).foldl numS s2)/\Hid (Below w4.heap.size w4 w3))
      case atStart=>exact⟨0,_,by omega,by omega,rfl,rfl,rfl,Below.refl _ _⟩
      case round =>
       obtain⟨q,sb3,hqd,hqk,rfl,rfl,HS3,HB5⟩:=hrel
       by_cases hq:q<xn
       ·have hq':(q:Int)<(xn:Int):=by omega
        have hq0:¬(q:Int)<0:=by omega
        have hqx:q<xs.length:=by have:=HXN.out;omega
        obtain⟨xb,xo,rfl,hxb,kx⟩:=(HIA.out.on HB5.out).c q hqx
        have HNX:Hid (numS sb3 xs[q]=(xs.take (q+1)).foldl numS s2):=by
         show _=_
         rw[jD numS s2 xs q hqx,<-HS3.out]
        have HZ3:Hid (sb3.size<=100000000):=by
         show _<=_
         rw[HS3.out,vA,List.length_take]
         have:=HS2z.out
         omega
        generalize xs[q]=x at *
        go_upto_region 19 with fail
        obtain⟨u0,hu0⟩:∃ u0,u0=IntKind.u64.wrap x:=⟨_,rfl⟩
        have HU0:Hid ((it4 sb3 u0 8).1=(xs.take (q+1)).foldl numS s2):=by show _=_;rw[hu0];exact HNX.out
        rw[<-hu0]
        clear hu0 kx HNX
        go_loopg [3,11,12] 8 (fun k vs vu vj w3=>∃(r:Nat) (sb4:ByteArray) (u:Int),r<=8/\k=8 - r/\vj=.int .i64 (r:Int)/\vs=.string sb4/\vu=.int .u64 u/\Hid (it4 sb3 u0 r=(sb4,u))/\Hid (Below w4.heap.size w4 w3))
        case atStart=>exact⟨0,_,_,by omega,by omega,rfl,rfl,rfl,rfl,HB5⟩
        case round =>
         obtain⟨r,sb4,u,hrd,hrk,rfl,rfl,rfl,HS4,HB6⟩:=hrel
         by_cases hr:r<8
         ·have hr':(r:Int)<8:=by omega
          have hsz4:¬9223372036854775807<sb4.size+2:=by
           have e:=it4_size sb3 u0 r
           rw[HS4.out]at e
           have e':sb4.size=sb3.size+2 * r:=e
           have:=HZ3.out
           omega
          have hcv:(convert 81 9 (.slice (some ⟨wr.heap.size,0,none⟩) 2 2)).run Tryz.prog (wr.alloc (.cells #[.int .u8 (IntKind.u64.wrap (97+bits .and .u64 u 15) % 256),.int .u8 (IntKind.u64.wrap (97+bits .and .u64 (u / 16) 15) % 256)] 5))=.ok (.string (twoB u)) (wr.alloc (.cells #[.int .u8 (IntKind.u64.wrap (97+bits .and .u64 u 15) % 256),.int .u8 (IntKind.u64.wrap (97+bits .and .u64 (u / 16) 15) % 256)] 5)) :=
           Tryz.convB _ _ _ ((za (zo wr _)).trans rfl) ((za (zo wr _)).trans rfl)
          have HNX4:Hid (it4 sb3 u0 (r+1)=(sb4++twoB u,u / 256)):=by
           show (((it4 sb3 u0 r).1++twoB (it4 sb3 u0 r).2,(it4 sb3 u0 r).2 / 256):ByteArray× Int)=_
           rw[HS4.out]
          have ht2:(twoB u).size=2:=rfl
          obtain⟨tb2,htb2⟩:∃ tb2,tb2=twoB u:=⟨_,rfl⟩
          rw[<-htb2]at hcv HNX4 ht2
          rw[<-ht2]at hsz4
          obtain⟨w7,hw7⟩:∃ w7,w7=wr.alloc (.cells #[.int .u8 (IntKind.u64.wrap (97+bits .and .u64 u 15) % 256),.int .u8 (IntKind.u64.wrap (97+bits .and .u64 (u / 16) 15) % 256)] 5):=⟨_,rfl⟩
          have HB7:Hid (Below w4.heap.size w4 w7):=by rw[hw7];exact HB6.out.alloc HB6.out.size _
          clear htb2 ht2
          go_wp2_with fail
          rw[<-hw7]
          go_roundg (8 - (r+1))
          case measure=>omega
          case rel=>exact⟨r+1,_,_,by omega,rfl,by go_num,rfl,rfl,HNX4,HB7⟩
         ·have hr':¬(r:Int)<8:=by omega
          have HE:Hid (sb4=(xs.take (q+1)).foldl numS s2):=by
           have h8:r=8:=by omega
           have e:=HS4.out
           rw[h8]at e
           show _=_
           rw[<-HU0.out,e]
          go_wp2_with fail
          go_roundg (xn - (q+1))
          case measure=>omega
          case rel=>exact⟨q+1,_,by omega,rfl,by go_num,rfl,HE,HB6⟩
       ·have hq':¬(q:Int)<(xn:Int):=by omega
        have HE:Hid (sb3=(vars5.take (j+1)).foldl (varS P nm) s1/\sb3.size<=i * 2000000+1000000+(j+1) * 500):=by
         have e:sb3=xs.foldl numS s2:=by rw[HS3.out,List.take_of_length_le (by have:=HXN.out;omega)]
         rw[e]
         exact HV3.out
        have HB5w:Hid (Below w2.heap.size w2 wr):=HB4.out.trans (HB5.out.mono HB4.out.size)
        go_wp2_with fail
        go_roundg (5 - (j+1))
        case measure=>omega
        case rel=>exact⟨j+1,_,by omega,rfl,by go_num,rfl,HE,HB5w⟩
    ·have hj':¬(j:Int)<5:=by omega
     have hsz3:¬9223372036854775807<sb2.size+1:=by have:=HS2.out.2;omega
     have HE:Hid (sb2++⟨#[59]⟩=(ns.take (i+1)).foldl (modS P) ⟨#[]⟩/\(sb2++⟨#[59]⟩:ByteArray).size<=(i+1) * 2000000):=by
      have hj5:j=5:=by omega
      refine⟨?_,?_⟩
      ·rw[<-HMS.out,HS2.out.1,hj5];rfl
      ·rw[ByteArray.size_append];have:=HS2.out.2;show _+1<=_;omega
     go_wp2_with fail
     go_roundg (ln - (i+1))
     case measure=>omega
     case rel=>exact⟨i+1,_,by omega,rfl,by go_num,rfl,HE,HB3w⟩
  ·have hlt':¬(i:Int)<(ln:Int):=by omega
   have HE:Hid (sb=rs):=by
    show sb=rs
    rw[HRS.out,HS.out.1,List.take_of_length_le (by have:=HLN.out;omega)]
   have hwl1:=HB1.out.size
   go_wp2_with fail
   go_ret
   exact⟨by rw[<-HE.out];rfl,HB1.out.trans (HB.out.mono hwl1)⟩
theorem all_zero {w:World}{wb:Nat}(hb:w.heap[wb]?=some (.cells #[.slice none 0 0,.map none] 28 (0,0))) :
  Calls Tryz.prog 13 #[.pointer (some ⟨wb,0,none⟩)] w fun e w'=>e=.returned (.string ⟨#[]⟩)/\Below w.heap.size w w':=by
 have HN:=zh (vF (ns:=[]) hb (World.ownsRow_nil _ _ _ _) (by simp))
 clear hb
 go_enter Tryz.func13,Tryz.ntmps13
 go_wp2_with fail
 refine HN.out.mono ?_
 rintro e w1 ⟨v',rfl,hb1,ho1⟩
 obtain⟨na,nc,rfl⟩:=zw ho1
 have HB1:=zh hb1
 clear hb1 ho1 HN
 have e0:([]:List Bs).length=0:=rfl
 rw[e0]
 go_wp2_with fail
 refine wp_loop_rounds 1 ?_
 rw[rounds_succ]
 go_wp2_with fail
 go_ret
 exact⟨rfl,HB1.out⟩
theorem tell_nil (w:World):Calls Tryz.prog 25 #[.nilIface] w fun e w'=>e=.returned (.int .i64 0)/\Below w.heap.size w w':=by
 go_enter Tryz.func25,Tryz.ntmps25
 go_wp2_with fail
 go_ret
 exact⟨rfl,Below.refl _ _⟩
def tellN:Option (Nat× Option Nat)->Nat
 | none=>0
 | some er=>er.1
def EvT (B:Nat) (w':World) (er:Option (Nat× Option Nat)) (ev:Value):Prop:=match er with
 | none=>ev=.nilIface
 | some e=>ErrV B w' e ev
theorem x7 {B b2:Nat}{w' W:World}{er:Option (Nat× Option Nat)}{ev:Value}(h:EvT B w' er ev) (hb:b2<B) (hx:Ext b2 w' W) (het:ErT W):Calls Tryz.prog 25 #[ev] W fun e w''=>e=.returned (.int .i64 (tellN er:Int))/\Below W.heap.size W w'':=by
 cases er with
 | none=>obtain rfl:ev=.nilIface:=h;exact tell_nil W
 | some e =>
  obtain⟨n,po⟩:=e
  cases po with
  | none =>
   have h':ev=.iface 44 (.int .i64 (n:Int)):=h
   subst h'
   exact tell_en (n:Int) W het
  | some pl =>
   obtain⟨ab,rfl,h1,h2,_⟩:∃ ab,ev=.iface 117 (.pointer (some ⟨ab,0,none⟩))/\B<=ab/\w'.cell? ⟨ab,0,none⟩=some (.int .i64 (n:Int))/\w'.cell? ⟨ab,1,none⟩=some (.int .i64 (pl:Int)):=h
   exact tell_at (n:Int) ab W het ((World.cell?_of_block (w:=w') (hx.block ab (zg h2) (by omega))).trans h2)
end Go.Proofs.YtibncofnnlbmcaaGreatDoor
