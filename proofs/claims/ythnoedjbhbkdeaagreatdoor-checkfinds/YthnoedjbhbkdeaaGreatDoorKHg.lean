import Derived.Test.YthnoedjbhbkdeaaGreatDoorKHc
import Derived.Test.YthnoedjbhbkdeaaGreatDoorKHf
import Derived.Test.YthnoedjbhbkdeaaGreatDoorKXk
set_option maxRecDepth 100000
set_option maxHeartbeats 4000000
namespace Go.Proofs.YthnoedjbhbkdeaaGreatDoor
open Go.RowKit
open Tp (Bs Sy Seen)
structure StrsAt (w:World) (ns:List (List UInt8)) (a:Option Addr):Prop where
 c:∀ i (h:i<ns.length),∃ b o,a=some ⟨b,o,none⟩/\b<w.heap.size/\w.cell? ⟨b,o+i,none⟩=some (.string (bs ns[i]))
theorem Gl.below {w w':World}(h:Gl w) (k:Below w.heap.size w w'):Gl w':=h.keep fun i _ j _ hc=>(k.cell (p:=⟨i,j,none⟩) (zi hc)).trans hc
def seenF (Sn:Seen) (n:Bs):Seen:=match Tp.parse n with
 | .ok m=>fun k=>if k=m.name then some (srt (Tp.symsOf m)) else Sn k
 | .error _=>Sn
def seenOf (ns:List Bs):Seen:=ns.foldl seenF (fun _=>none)
theorem vY {ns:List Bs}{i:Nat}(h:i<ns.length):seenOf (ns.take (i+1))=seenF (seenOf (ns.take i)) ns[i]:=by
 unfold seenOf
 rw[List.take_succ_eq_append_getElem h,List.foldl_append]
 rfl
theorem syms_len {m:Tp.M}(hm:Tp.WM m):(srt (Tp.symsOf m)).length<=1000:=by
 rw[jw]
 unfold Tp.symsOf
 have h1:=List.length_filter_le (fun g:Tp.G=>g.seen) m.vars
 have h2:=List.length_filter_le (fun p:Tp.Pr=>p.seen) m.procs
 have:=hm.gc
 have:=hm.pc
 simp only [List.length_append,List.length_map]
 omega
theorem seen_put {wr w5 w6:World}{sb c i B:Nat}{Sn Sn':Seen}{f:Bs->Option Value}{x:Bs}{v:Value}{l:List Sy}(hS:Sn'=fun k=>if k=x then some l else Sn k) (hc:c<=i) (hf:MapV wr sb c f) (h:∀ k,match Sn k with
 | none=>f k=none
 | some l=>∃ v,f k=some v/\SL wr 0 v l/\l.length<=1000) (hb:Below wr.heap.size wr w5) (hv:SL w5 B v l) (hl:l.length<=1000) (q1:MapV w6 sb (c+1) (updV f x v)) (q2:Ext sb w5 w6):∃ c,c<=i+1/\SeenM w6 sb c Sn':=by
 rw[hS]
 refine⟨c+1,by omega,SeenM.store (hf.on (hb.block _ hf.lt)) (fun k=>?_) (l:=l) ?_ hl q1 q2⟩
 ·have:=h k
  cases hq:Sn k with
  | none=>rw[hq]at this;exact this
  | some ll=>rw[hq]at this;obtain⟨u,a,b,d⟩:=this;exact⟨u,a,b.on hb,d⟩
 ·rcases hv with q|⟨g,cap,a,_,b⟩
  ·exact Or.inl q
  ·exact Or.inr ⟨g,cap,a,Nat.zero_le _,b⟩
theorem VM.mbs {w:World}{B:Nat}{m:Tp.M}{mn:ByteArray}{ia ga qa sa:Option Addr}{il ic gl gc ql qc sl sc:Nat}(h:VM B m (.agg #[.string mn,.slice ia il ic,.slice ga gl gc,.slice qa ql qc,.slice sa sl sc]) w):mn=bs m.name/\il=m.imports.length/\gl=m.vars.length/\ql=m.procs.length/\sl=m.body.length/\MB w w.heap.size m ia ga qa sa ic gc qc sc:=by
 obtain⟨ia',ga',pa',ba',ic',gc',pc',bc',e,hmb⟩:=h.mb
 simp only [mcells,Value.agg.injEq,Array.mk.injEq,List.cons.injEq,Value.string.injEq,Value.slice.injEq,and_true]at e
 obtain⟨rfl,⟨rfl,rfl,rfl⟩,⟨rfl,rfl,rfl⟩,⟨rfl,rfl,rfl⟩,⟨rfl,rfl,rfl⟩⟩:=e
 exact⟨rfl,rfl,rfl,rfl,rfl,hmb⟩
theorem nd_of (x:List UInt8):(numOf x=(0,-1)/\Tp.WM (modOf x)/\∀ Sn,seenF Sn x=fun k=>if k=(modOf x).name then some (srt (Tp.symsOf (modOf x))) else Sn k)\/((numOf x).2≠-1/\∀ Sn,seenF Sn x=Sn):=by
 unfold numOf modOf seenF
 rcases hres:Tp.parse x with er|m
 ·exact Or.inr ⟨by show ((er.2:Nat):Int)≠-1;omega,fun _=>rfl⟩
 ·exact Or.inl ⟨rfl,(Tp.parse_wm hres).1,fun _=>rfl⟩
theorem parse_w (w:World) (l:List UInt8) (hl:l.length<=100000) (hmk:Mk w) (hlv:Lv w):Calls Tryz.prog 7 #[.string (bs l)] w fun e w'=>∃(mn:ByteArray) (ia ga qa sa:Option Addr) (il ic gl gc ql qc sl sc:Nat) (ev:Value),e=.returned (.tuple #[.agg #[.string mn,.slice ia il ic,.slice ga gl gc,.slice qa ql qc,.slice sa sl sc],ev])/\ErrA w' ev (numOf l).1 (numOf l).2/\(numOf l=(0,-1)->ev=.nilIface)/\VM w.heap.size (modOf l) (.agg #[.string mn,.slice ia il ic,.slice ga gl gc,.slice qa ql qc,.slice sa sl sc]) w'/\Below w.heap.size w w':=by
 refine(parse_post w l hl hmk hlv).mono ?_
 rintro e w' ⟨hb,hp⟩
 unfold ParseP at hp
 rcases hres:Tp.parse l with er|m
 rotate_left
 ·rw[hres]at hp
  rw[show modOf l=m by unfold modOf;rw[hres],show numOf l=(0,-1) by unfold numOf;rw[hres]]
  obtain⟨v,rfl,hv⟩:=hp
  obtain⟨mn,ia,ga,qa,sa,il,ic,gl,gc,ql,qc,sl,sc,rfl⟩:=hv.cells
  exact⟨mn,ia,ga,qa,sa,il,ic,gl,gc,ql,qc,sl,sc,_,rfl,Or.inl ⟨rfl,rfl,rfl⟩,fun _=>rfl,hv,hb⟩
 ·rw[hres]at hp
  rw[show modOf l=⟨[],[],[],[],[]⟩ by unfold modOf;rw[hres],show numOf l=((er.1:Int),(er.2:Int)) by unfold numOf;rw[hres]]
  obtain⟨ab,rfl,_,h1,h2⟩:=hp
  exact⟨⟨#[]⟩,none,none,none,none,0,0,0,0,0,0,0,0,_,rfl,Or.inr ⟨ab,rfl,h1,h2⟩,fun q=>by have:=congrArg Prod.snd q;simp at this,vm_empty _ _,hb⟩
theorem finds_long {w:World}{x:ByteArray}{na:Option Addr}{nn nc:Nat}(h:1000<x.size):Calls Tryz.prog 5 #[.string x,.slice na nn nc] w fun e w'=>e=.returned (.bool true)/\Below w.heap.size w w':=by
 have hs:(1000:Int)<(x.size:Int):=by omega
 go_enter Tryz.func5,Tryz.ntmps5
 go_wp2_with fail
 go_ret
 exact⟨rfl,Below.refl _ _⟩
theorem finds_many {w:World}{x:ByteArray}{na:Option Addr}{nn nc:Nat}(h:¬1000<x.size) (hn:5<nn):Calls Tryz.prog 5 #[.string x,.slice na nn nc] w fun e w'=>e=.returned (.bool true)/\Below w.heap.size w w':=by
 have hs:(x.size:Int)<=1000:=by omega
 have hn':(5:Int)<(nn:Int):=by omega
 go_enter Tryz.func5,Tryz.ntmps5
 go_wp2_with fail
 go_ret
 exact⟨rfl,Below.refl _ _⟩
theorem uH {w:World}{l:List UInt8}(hl:l.length<=1000) {ns:List (List UInt8)}{na:Option Addr}{nc:Nat}(hns:StrsAt w ns na) (hn5:ns.length<=5) (hg:Gl w) (hmk:Mk w) (hlv:Lv w) (hhd:Hnd w):Calls Tryz.prog 5 #[.string (bs l),.slice na ns.length nc] w fun e w'=>e=.returned (.bool true)/\Below w.heap.size w w':=by
 have hs:((bs l).size:Int)<=1000:=by rw[uM];omega
 have hmm:=@run_makeMap Tryz.prog
 have HSM:Hid (SeenM (w.alloc (.map #[] 0)) w.heap.size 0 (seenOf (ns.take 0))):=⟨_,MapV.made w,fun k=>by simp[seenOf]⟩
 have HBE:Hid (Below w.heap.size w (w.alloc (.map #[] 0))):=zb _ _
 have hsz0:(w.alloc (.map #[] 0)).heap.size=w.heap.size+1:=by simp
 have HNS:=zh hns
 have HG:=zh hg
 have HMK:=zh hmk
 have HLV:=zh hlv
 have HHD:=zh hhd
 have HLL:=zh hl
 have hn5':(ns.length:Int)<=5:=by omega
 obtain⟨nn,hnq⟩:∃ nn,nn=ns.length:=⟨_,rfl⟩
 rw[<-hnq]at hn5' ⊢
 have HNQ:=zh hnq
 clear hns hg hmk hlv hhd hnq hl
 go_enter Tryz.func5,Tryz.ntmps5
 go_upto_region 4 with fail
 generalize w.alloc (.map #[] 0)=w0 at *
 clear hmm
 go_wp2_with fail
 go_loopg [6] nn (fun k vi wr=>∃ i:Nat,i<=nn/\k=nn - i/\vi=.int .i64 (i:Int)/\Hid (∃ c,c<=i/\SeenM wr w.heap.size c (seenOf (ns.take i)))/\Hid (Ext w.heap.size w0 wr))
 case atStart=>exact⟨0,by omega,by omega,rfl,⟨0,Nat.le_refl _,HSM.out⟩,Ext.refl _ _⟩
 case round =>
  obtain⟨i,hid,hk,rfl,HTM,HE⟩:=hrel
  clear HSM
  have hsz:=HE.out.size
  have HBR:Hid (Below w.heap.size w wr):=HBE.out.trans (ym HE.out zn (by omega))
  by_cases hlt:i<nn
  ·have hlt':(i:Int)<(nn:Int):=by omega
   have hia:i<ns.length:=by have:=HNQ.out;omega
   obtain⟨b,o,rfl,hbl,hcell⟩:=HNS.out.c i hia
   have kc:wr.cell? ⟨b,o+i,none⟩=some (.string (bs ns[i])):=(HBR.out.cell (p:=⟨b,o+i,none⟩) hbl).trans hcell
   have hlgr:b<wr.heap.size:=Nat.lt_of_lt_of_le hbl HBR.out.size
   have HSO:=zh (vY hia)
   clear hcell hbl
   obtain⟨x,hx⟩:∃ x,x=ns[i]:=⟨_,rfl⟩
   rw[<-hx]at kc HSO
   clear hx hia
   by_cases hx9:900<x.length
   ·have hx9':(900:Int)<((bs x).size:Int):=by rw[uM];omega
    go_wp2_with fail
    go_ret
    exact⟨rfl,HBR.out⟩
   ·have hx9':((bs x).size:Int)<=900:=by rw[uM];omega
    have HRP:=zh (rparse_u wr x (by omega) (HG.out.below HBR.out))
    have HND:=zh (nd_of x)
    clear hx9
    generalize modOf x=mm at *
    generalize numOf x=nm at *
    obtain⟨en,pn⟩:=nm
    go_wp2_with fail
    refine HRP.out.mono ?_
    rintro e wa ⟨mn,ia,ga,qa,sa,il,ic,gl,gc,ql,qc,sl,sc,rfl,hv,hba⟩
    obtain⟨w2,hw2⟩:∃ w2,w2=(wa.alloc (.cells #[.string mn,.slice ia il ic,.slice ga gl gc,.slice qa ql qc,.slice sa sl sc] 27)).alloc (.cells #[.int .i64 en,.int .i64 pn] 30):=⟨_,rfl⟩
    obtain⟨b7,hb7⟩:∃ b,b=wa.heap.size:=⟨_,rfl⟩
    have hb2:Below wa.heap.size wa w2:=by rw[hw2];exact(zb _ _).alloc (by simp) _
    have k7:w2.heap[b7]?=some (.cells #[.string mn,.slice ia il ic,.slice ga gl gc,.slice qa ql qc,.slice sa sl sc] 27 (0,0)):=by rw[hw2,hb7];exact(Below.heap_alloc _ _ _ (by simp)).trans (zl _ _)
    have k8:w2.heap[b7+1]?=some (.cells #[.int .i64 en,.int .i64 pn] 30 (0,0)):=by
     have:=zl (wa.alloc (.cells #[.string mn,.slice ia il ic,.slice ga gl gc,.slice qa ql qc,.slice sa sl sc] 27)) (.cells #[.int .i64 en,.int .i64 pn] 30)
     rw[hw2,hb7]
     simpa using this
    have hbw2:Below wr.heap.size wr w2:=hba.trans (hb2.mono hba.size)
    have HBW:=zh hbw2
    have HV2:=zh (hv.step hb2)
    have hbw:Below w.heap.size w w2:=HBR.out.trans (hbw2.mono HBR.out.size)
    have g0:w2.cell? ⟨0,0,none⟩=some (.int .i64 0):=(hbw.cell (p:=⟨0,0,none⟩) (zi HG.out.f0)).trans HG.out.f0
    have g1:w2.cell? ⟨0,1,none⟩=some (.int .i64 (-1)):=(hbw.cell (p:=⟨0,1,none⟩) (zi HG.out.f1)).trans HG.out.f1
    have hgl:=zi g0
    have c0:w2.cell? ⟨b7+1,0,none⟩=some (.int .i64 en):=za k8
    have c1:w2.cell? ⟨b7+1,1,none⟩=some (.int .i64 pn):=za k8
    have hl8:=zc k8
    have hb7w:w.heap.size<b7:=by have:=hba.size;have:=HBR.out.size;omega
    have HK7:=zh k7
    clear hba hb2 hv k7 k8 hbw2 hbw HRP
    go_upto_region 10 with fail
    rw[<-hw2,<-hb7]
    clear hw2 hb7 kc hlgr
    rcases HND.out with⟨hnn,hwm,hsf⟩|⟨hpn,hsf⟩
    ·obtain⟨rfl,rfl⟩:=Prod.mk.inj hnn
     obtain⟨rfl,rfl,rfl,rfl,rfl,hmb⟩:=HV2.out.mbs
     have hnml:mm.name.length<=1000000:=by have:=hwm.n.2.2;omega
     have HSO2:Hid (seenOf (ns.take (i+1))=fun k=>if k=mm.name then some (srt (Tp.symsOf mm)) else seenOf (ns.take i) k):=HSO.out.trans (hsf _)
     have HO3:=zh (rof_post hwm.gc hwm.pc (hmb.up ((Below.refl _ _).drew)))
     have HWM:=zh hwm
     have HS3:Hid (∀ W:World,W.heap[b7]?=w2.heap[b7]?->W.cell? ⟨b7,0,none⟩=some (.string (bs mm.name))/\W.cell? ⟨b7,1,none⟩=some (.slice ia mm.imports.length ic)/\W.cell? ⟨b7,2,none⟩=some (.slice ga mm.vars.length gc)/\W.cell? ⟨b7,3,none⟩=some (.slice qa mm.procs.length qc)/\W.cell? ⟨b7,4,none⟩=some (.slice sa mm.body.length sc)):=fun W hW=>ya (hW.trans HK7.out)
     have hs3:=zc HK7.out
     clear hnn hwm hsf hmb HND HV2
     simp only [mcells]at HO3
     go_upto_region 11 with fail
     clear g0 g1 hgl c0 c1 hl8
     go_region_held3 (fun W=>W.cell? ⟨b7,0,none⟩=some (.string (bs mm.name))/\W.cell? ⟨b7,1,none⟩=some (.slice ia mm.imports.length ic)/\W.cell? ⟨b7,2,none⟩=some (.slice ga mm.vars.length gc)/\W.cell? ⟨b7,3,none⟩=some (.slice qa mm.procs.length qc)/\W.cell? ⟨b7,4,none⟩=some (.slice sa mm.body.length sc)) (first|exact HS3.out _ rfl|exact HS3.out _ HX5.out|exact HS3.out _ HX6.out|fail "KEEP") (first|(go_at_call 13;refine HO3.out.mono ?_;rintro e w5 ⟨v5,rfl,hb5,hsl⟩;have hb5':Below w2.heap.size w2 w5:=((Below.refl _ _).drew).trans hb5;have HX5:Hid (w5.heap[b7]?=w2.heap[b7]?):=hb5'.block _ hs3;obtain⟨c,cc1,f,cc2,cc3⟩:=HTM.out;have HB5:Hid (Below wr.heap.size wr w5):=HBW.out.trans (hb5'.mono HBW.out.size);obtain⟨w6,hup,q1,q2,q3⟩:=(cc2.on (HB5.out.block _ cc2.lt)).store (t:=53) Tryz.underlying53 (by omega) mm.name hnml v5;have HX6:Hid (w6.heap[b7]?=w2.heap[b7]?):=(q2.block _ (by have:=hb5'.size;omega) (by omega)).trans HX5.out;have HSM6:Hid (∃ c,c<=i+1/\SeenM w6 w.heap.size c (seenOf (ns.take (i+1)))):=seen_put HSO2.out cc1 cc2 cc3 HB5.out hsl (syms_len HWM.out) q1 q2;have HE6:Hid (Ext w.heap.size w0 w6):=(HE.out.trans (Ext.below HB5.out)).trans q2;clear hb5 hb5' hsl cc2 cc3 q1 q2 q3))
     go_wp2_with fail
     go_roundg (nn - (i+1))
     case measure=>omega
     case rel=>exact⟨i+1,by omega,rfl,by go_num,HSM6,HE6⟩
    ·have hpn':¬pn=-1:=hpn
     have HT2:Hid (∃ c,c<=i+1/\SeenM w2 w.heap.size c (seenOf (ns.take (i+1)))):=by
      obtain⟨c,c1,c2⟩:=HTM.out
      rw[HSO.out,hsf]
      exact⟨c,by omega,c2.on HBW.out⟩
     have HE2:Hid (Ext w.heap.size w0 w2):=HE.out.trans (Ext.below HBW.out)
     have hd:(decide (en=0) && decide (pn=-1))=false:=by simp[hpn']
     have hd2:((en == 0) && (pn == -1))=false:=by simp[hpn']
     clear HND hsf hpn
     go_wp2_with fail
     all_goals
      go_roundg (nn - (i+1))
      case measure=>omega
      case rel=>exact⟨i+1,by omega,rfl,by go_num,HT2,HE2⟩
  ·have hlt':¬(i:Int)<(nn:Int):=by omega
   have hei:i=ns.length:=by have:=HNQ.out;omega
   have HSF:Hid (SeenV wr (.map (some w.heap.size)) (seenOf ns)):=by
    obtain⟨c,_,c2⟩:=HTM.out
    rw[hei,List.take_length]at c2
    exact Or.inr ⟨_,c,rfl,c2⟩
   clear hei HTM HE HNS HNQ
   have HRP:=zh (rparse_u wr l (by have:=HLL.out;omega) (HG.out.below HBR.out))
   have HPW:Hid (∀ W,Below w.heap.size w W->Calls Tryz.prog 7 #[.string (bs l)] W fun e w'=>∃(mn2:ByteArray) (ia2 ga2 qa2 sa2:Option Addr) (il2 ic2 gl2 gc2 ql2 qc2 sl2 sc2:Nat) (ev:Value),e=.returned (.tuple #[.agg #[.string mn2,.slice ia2 il2 ic2,.slice ga2 gl2 gc2,.slice qa2 ql2 qc2,.slice sa2 sl2 sc2],ev])/\ErrA w' ev (numOf l).1 (numOf l).2/\(numOf l=(0,-1)->ev=.nilIface)/\VM W.heap.size (modOf l) (.agg #[.string mn2,.slice ia2 il2 ic2,.slice ga2 gl2 gc2,.slice qa2 ql2 qc2,.slice sa2 sl2 sc2]) w'/\Below W.heap.size W w'):=fun W hW=>parse_w W l (by have:=HLL.out;omega) (HMK.out.below hW HMK.out.1) (HLV.out.below hW HLV.out.1)
   have HND:=zh (nd_of l)
   clear HMK HLV HBE hsz hsz0
   generalize modOf l=mm at *
   generalize numOf l=nm at *
   obtain⟨en,pn⟩:=nm
   go_wp2_with fail
   refine HRP.out.mono ?_
   rintro e wa ⟨mn,ia,ga,qa,sa,il,ic,gl,gc,ql,qc,sl,sc,rfl,hv,hba⟩
   obtain⟨w2,hw2⟩:∃ w2,w2=(wa.alloc (.cells #[.string mn,.slice ia il ic,.slice ga gl gc,.slice qa ql qc,.slice sa sl sc] 27)).alloc (.cells #[.int .i64 en,.int .i64 pn] 30):=⟨_,rfl⟩
   obtain⟨b9,hb9⟩:∃ b,b=wa.heap.size:=⟨_,rfl⟩
   have hb2:Below wa.heap.size wa w2:=by rw[hw2];exact(zb _ _).alloc (by simp) _
   have k9:w2.heap[b9]?=some (.cells #[.string mn,.slice ia il ic,.slice ga gl gc,.slice qa ql qc,.slice sa sl sc] 27 (0,0)):=by rw[hw2,hb9];exact(Below.heap_alloc _ _ _ (by simp)).trans (zl _ _)
   have k10:w2.heap[b9+1]?=some (.cells #[.int .i64 en,.int .i64 pn] 30 (0,0)):=by
    have:=zl (wa.alloc (.cells #[.string mn,.slice ia il ic,.slice ga gl gc,.slice qa ql qc,.slice sa sl sc] 27)) (.cells #[.int .i64 en,.int .i64 pn] 30)
    rw[hw2,hb9]
    simpa using this
   have HBW:Hid (Below wr.heap.size wr w2):=hba.trans (hb2.mono hba.size)
   have HV2:=zh (hv.step hb2)
   have HK9:=zh k9
   have HK10:=zh k10
   clear hba hb2 hv k9 k10 HRP
   go_upto_region 13 with fail
   rw[<-hw2,<-hb9]
   clear hw2 hb9
   go_wp2_with fail
   refine(HPW.out w2 (HBR.out.trans (HBW.out.mono HBR.out.size))).mono ?_
   rintro e wb ⟨mn2,ia2,ga2,qa2,sa2,il2,ic2,gl2,gc2,ql2,qc2,sl2,sc2,ev,rfl,hev,hnil,hv2,hbb⟩
   obtain⟨w3,hw3⟩:∃ w3,w3=wb.alloc (.cells #[.string mn2,.slice ia2 il2 ic2,.slice ga2 gl2 gc2,.slice qa2 ql2 qc2,.slice sa2 sl2 sc2] 27):=⟨_,rfl⟩
   obtain⟨b11,hb11⟩:∃ b,b=wb.heap.size:=⟨_,rfl⟩
   have hb3:Below wb.heap.size wb w3:=by rw[hw3];exact zb _ _
   have k11:w3.heap[b11]?=some (.cells #[.string mn2,.slice ia2 il2 ic2,.slice ga2 gl2 gc2,.slice qa2 ql2 qc2,.slice sa2 sl2 sc2] 27 (0,0)):=by rw[hw3,hb11];exact zl _ _
   have hb23:Below w2.heap.size w2 w3:=hbb.trans (hb3.mono hbb.size)
   have k9:=(hb23.block b9 (zc HK9.out)).trans HK9.out
   have k10:=(hb23.block (b9+1) (zc HK10.out)).trans HK10.out
   have hbw3:Below wr.heap.size wr w3:=HBW.out.trans (hb23.mono HBW.out.size)
   have hb03:Below w.heap.size w w3:=HBR.out.trans (hbw3.mono HBR.out.size)
   have HB3:=zh hb03
   have HV1:=zh (HV2.out.step hb23)
   have HV3:=zh (hv2.step hb3)
   have HSV:=zh (HSF.out.on hbw3)
   have HEV:=zh (hev.below hb3)
   have HHD3:Hid (Hnd w3):=(hb03.cell (p:=⟨4,0,none⟩) (zi HHD.out)).trans HHD.out
   have g0:w3.cell? ⟨0,0,none⟩=some (.int .i64 0):=(hb03.cell (p:=⟨0,0,none⟩) (zi HG.out.f0)).trans HG.out.f0
   have g1:w3.cell? ⟨0,1,none⟩=some (.int .i64 (-1)):=(hb03.cell (p:=⟨0,1,none⟩) (zi HG.out.f1)).trans HG.out.f1
   have hgl:=zi g0
   have c0:w3.cell? ⟨b9+1,0,none⟩=some (.int .i64 en):=za k10
   have c1:w3.cell? ⟨b9+1,1,none⟩=some (.int .i64 pn):=za k10
   have hl10:=zc k10
   have HK9':=zh k9
   have HK11:=zh k11
   have HNIL:=zh hnil
   clear hev hv2 hbb hb3 hb23 hbw3 hb03 k9 k10 k11 HV2 HBW HBR HSF HK9 HK10 HPW HHD HG hnil
   go_upto_region 14 with fail
   rw[<-hw3,<-hb11]
   clear hw3 hb11
   rcases HND.out with⟨hnn,hwm,_⟩|⟨hpn,_⟩
   ·obtain⟨rfl,rfl⟩:=Prod.mk.inj hnn
    have hev0:=HNIL.out hnn
    subst hev0
    obtain⟨rfl,rfl,rfl,rfl,rfl,hmb1⟩:=HV1.out.mbs
    obtain⟨rfl,rfl,rfl,rfl,rfl,hmb3⟩:=HV3.out.mbs
    have hsm:=hwm.sml
    obtain⟨rs,hrs⟩:∃ rs,rs=Tp.check mm (seenOf ns):=⟨_,rfl⟩
    have HCK:Hid (∀ W,Below w3.heap.size w3 W->Calls Tryz.prog 27 #[.agg #[.string (bs mm.name),.slice ia2 mm.imports.length ic2,.slice ga2 mm.vars.length gc2,.slice qa2 mm.procs.length qc2,.slice sa2 mm.body.length sc2],.map (some w.heap.size)] W (ChkB (ftC rs).1 (ftC rs).2 W)):=fun W hW=>by
     rw[hrs]
     exact(check_post hsm (hmb3.up hW) (HSV.out.on hW)).mono fun e w' q=>checkP_b q
    have HRC:Hid (∀ W,Below w3.heap.size w3 W->Calls Tryz.prog 28 #[.agg #[.string (bs mm.name),.slice ia mm.imports.length ic,.slice ga mm.vars.length gc,.slice qa mm.procs.length qc,.slice sa mm.body.length sc],.map (some w.heap.size)] W fun e w'=>e=.returned (.agg #[.int .i64 (ftC rs).1,.int .i64 (ftC rs).2])/\Below W.heap.size W w'):=fun W hW=>by
     rw[hrs]
     exact(ul hwm (hmb1.up hW) (HSV.out.on hW) ⟨(hW.cell (p:=⟨0,0,none⟩) (zi g0)).trans g0,(hW.cell (p:=⟨0,1,none⟩) (zi g1)).trans g1⟩).mono fun e w' q=>q
    generalize (ftC rs).1=E1 at *
    generalize (ftC rs).2=E2 at *
    have HIS:Hid (∀ W ev,Below w3.heap.size w3 W->ErrB W ev E1 E2->Calls Tryz.prog 8 #[ev,.agg #[.int .i64 E1,.int .i64 E2]] W fun e w'=>e=.returned (.bool true)/\Below W.heap.size W w'):=fun W ev hW he=>lawIs_b he ((hW.cell (p:=⟨4,0,none⟩) (zi HHD3.out)).trans HHD3.out)
    have HS:Hid (∀ W:World,Below w3.heap.size w3 W->(W.cell? ⟨b9,0,none⟩=some (.string (bs mm.name))/\W.cell? ⟨b9,1,none⟩=some (.slice ia mm.imports.length ic)/\W.cell? ⟨b9,2,none⟩=some (.slice ga mm.vars.length gc)/\W.cell? ⟨b9,3,none⟩=some (.slice qa mm.procs.length qc)/\W.cell? ⟨b9,4,none⟩=some (.slice sa mm.body.length sc))/\W.cell? ⟨b11,0,none⟩=some (.string (bs mm.name))/\W.cell? ⟨b11,1,none⟩=some (.slice ia2 mm.imports.length ic2)/\W.cell? ⟨b11,2,none⟩=some (.slice ga2 mm.vars.length gc2)/\W.cell? ⟨b11,3,none⟩=some (.slice qa2 mm.procs.length qc2)/\W.cell? ⟨b11,4,none⟩=some (.slice sa2 mm.body.length sc2)):=fun W hW=>⟨ya ((hW.block b9 (zc HK9'.out)).trans HK9'.out),ya ((hW.block b11 (zc HK11.out)).trans HK11.out)⟩
    have HLT:Hid (b9<w3.heap.size/\b11<w3.heap.size):=⟨zc HK9'.out,zc HK11.out⟩
    have HB30:Hid (Below w3.heap.size w3 w3.drew):=(Below.refl _ _).drew
    clear hrs hnn hwm hsm hmb1 hmb3 HND HV1 HV3 HSV HEV HNIL HHD3 HK9' HK11
    go_upto_region 16 with fail
    clear g0 g1 hgl c0 c1 hl10
    go_region_held3 (fun W=>(W.cell? ⟨b9,0,none⟩=some (.string (bs mm.name))/\W.cell? ⟨b9,1,none⟩=some (.slice ia mm.imports.length ic)/\W.cell? ⟨b9,2,none⟩=some (.slice ga mm.vars.length gc)/\W.cell? ⟨b9,3,none⟩=some (.slice qa mm.procs.length qc)/\W.cell? ⟨b9,4,none⟩=some (.slice sa mm.body.length sc))/\W.cell? ⟨b11,0,none⟩=some (.string (bs mm.name))/\W.cell? ⟨b11,1,none⟩=some (.slice ia2 mm.imports.length ic2)/\W.cell? ⟨b11,2,none⟩=some (.slice ga2 mm.vars.length gc2)/\W.cell? ⟨b11,3,none⟩=some (.slice qa2 mm.procs.length qc2)/\W.cell? ⟨b11,4,none⟩=some (.slice sa2 mm.body.length sc2)) (with_reducible (first|exact HS.out _ HBE7.out|exact HS.out _ HB6.out|exact HS.out _ HB5.out|exact HS.out _ HB30.out|fail "KEEP")) (first
     | (have _g:=HEV6;go_at_call 8;refine(HIS.out _ _ HB6.out HEV6.out).mono ?_;rintro e w7 ⟨rfl,hb7⟩;have HBE7:Hid (Below w3.heap.size w3 w7):=HB6.out.trans (hb7.mono HB6.out.size);have HBE:Hid (Below w.heap.size w w7):=HB3.out.trans ((HB6.out.trans (hb7.mono HB6.out.size)).mono HB3.out.size);clear hb7)
     | (have _g:=HEV5;go_at_call 28;refine(HRC.out _ HB5.out).mono ?_;rintro e w6 ⟨rfl,hb6⟩;have HB6:Hid (Below w3.heap.size w3 w6):=HB5.out.trans (hb6.mono HB5.out.size);have HEV6:=zh (HEV5.out.below hb6);clear hb6)
     | (have _g:=HRF;go_at_call 27;refine(HCK.out _ HB5.out).mono ?_;rintro e w6 ⟨⟨ev,rfl,hev⟩,hb6⟩;have HB6:Hid (Below w3.heap.size w3 w6):=HB5.out.trans (hb6.mono HB5.out.size);have HEV6:=zh hev;clear hb6 hev)
     | (go_at_call 27;refine(HCK.out _ (Below.refl _ _).drew).mono ?_;rintro e w5 ⟨⟨ev,rfl,hev⟩,hb5⟩;have HB5:Hid (Below w3.heap.size w3 w5):=(Below.refl _ _).drew.trans hb5;have HEV5:=zh hev;clear hb5 hev)
     | (go_at_call 28;refine(HRC.out _ (Below.refl _ _).drew).mono ?_;rintro e w5 ⟨rfl,hb5⟩;have HB5:Hid (Below w3.heap.size w3 w5):=(Below.refl _ _).drew.trans hb5;have HRF:Hid True:=trivial;clear hb5))
    all_goals
     go_wp2_with fail
     go_ret
     exact⟨rfl,HBE.out⟩
   ·have hpn':¬pn=-1:=hpn
    have HIS:=zh (lawIs_any HEV.out HHD3.out)
    have hd:(decide (en=0) && decide (pn=-1))=false:=by simp[hpn']
    have hd2:((en == 0) && (pn == -1))=false:=by simp[hpn']
    clear HND hpn HV1 HV3 HSV HNIL HK9' HK11
    go_wp2_with fail
    refine HIS.out.mono ?_
    rintro e w4 ⟨rfl,hb4⟩
    have HBE:Hid (Below w.heap.size w w4):=HB3.out.trans (hb4.mono HB3.out.size)
    clear hb4 c0 c1 hl10 g0 g1 hgl
    go_wp2_with fail
    go_ret
    exact⟨rfl,HBE.out⟩
theorem jI (x:ByteArray) (ns:List (List UInt8)) (na:Option Addr) (n nc:Nat) (hx:ns.length=n) (w:World) (hns:StrsAt w ns na) (hg:Gl w) (hmk:Mk w) (hlv:Lv w) (hhd:Hnd w):Calls Tryz.prog 5 #[.string x,.slice na n nc] w fun e w'=>e=.returned (.bool true)/\Below w.heap.size w w':=by
 subst hx
 by_cases h:1000<x.size
 ·exact finds_long h
 ·by_cases h5:5<ns.length
  ·exact finds_many h h5
  ·have e:x=bs x.data.toList:=by cases x;simp[bs]
   have hl:x.data.toList.length<=1000:=by
    have:x.size=x.data.toList.length:=by cases x;simp[ByteArray.size]
    omega
   rw[e]
   exact uH hl hns (by omega) hg hmk hlv hhd
end Go.Proofs.YthnoedjbhbkdeaaGreatDoor
