import Derived.Test.YthnoedjbhbkdeaaGreatDoorKHd
set_option maxRecDepth 100000
set_option maxHeartbeats 4000000
namespace Go.Proofs.YthnoedjbhbkdeaaGreatDoor
open Go.RowKit Go.Sort
open Tp (Bs Th Seen Ck)
def AskO (w:World) (mcv:Array Value) (so:Option Nat) (pn:Nat) (pa:Option Addr) (ol:Nat->List Th) (sr:Nat->Ck):Prop :=
 ∀ i,i<pn->∃(g:Nat) (x0:Bs) (x1:Nat) (x2:Bool) (y3 y4 y5:Option Addr) (n3 n4 n5 c3 c4 c5:Nat) (ps vs:List Bs),pa=some ⟨g,0,none⟩/\g<w.heap.size/\w.cell? ⟨g,i * 6,none⟩=some (.string (bs x0))/\w.cell? ⟨g,i * 6+1,none⟩=some (.int .i64 (x1:Int))/\w.cell? ⟨g,i * 6+2,none⟩=some (.bool x2)/\w.cell? ⟨g,i * 6+3,none⟩=some (.slice y3 n3 c3)/\w.cell? ⟨g,i * 6+4,none⟩=some (.slice y4 n4 c4)/\w.cell? ⟨g,i * 6+5,none⟩=some (.slice y5 n5 c5) /\
  n3=ps.length/\n4=vs.length/\Row w (fun b=>b<w.heap.size) 9 1 (.slice y3 n3 c3) n3 (strs ps)/\Row w (fun b=>b<w.heap.size) 9 1 (.slice y4 n4 c4) n4 (strs vs)/\ol i=(ps++vs).map (fun n=>(n,x1,0,-1))/\(∀ x∈ps++vs,x.length<=1000000)/\ps.length<=1000/\vs.length<=1000 /\
  ∀ W oa oc,Below w.heap.size w W->Row W (fun b=>b<W.heap.size) 9 1 (.slice oa (n3+n4) oc) (n3+n4) (strs (ps++vs))->Calls Tryz.prog 80 #[.agg mcv,.slice oa (n3+n4) oc,.map so,.slice y5 n5 c5] W fun e w'=>JdP (sr i) e/\Below W.heap.size W w'
def ResC (res:Ck) (a b c d:Ck):Prop:=res=a.or (b.or (c.or d))
theorem res1 {res a b c d:Ck}{x:Nat× Option Nat}(h:ResC res a b c d) (ha:a=some x):res=some x:=by rw[h,ha];rfl
theorem res2 {res a b c d:Ck}{x:Nat× Option Nat}(h:ResC res a b c d) (ha:a=none) (hb:b=some x):res=some x:=by rw[h,ha,hb];rfl
theorem res3 {res a b c d:Ck}{x:Nat× Option Nat}(h:ResC res a b c d) (ha:a=none) (hb:b=none) (hc:c=some x):res=some x:=by rw[h,ha,hb,hc];rfl
theorem res4 {res a b c d:Ck}(h:ResC res a b c d) (ha:a=none) (hb:b=none) (hc:c=none):res=d:=by rw[h,ha,hb,hc];rfl
theorem xE {res:Ck}{n:Nat}(h:res=some (n,none)):JdP res (.returned (.agg #[.int .i64 (n:Int),.int .i64 (-1)])):=by rw[h];exact yw rfl
theorem jdp_at {res:Ck}{n p:Nat}(h:res=some (n,some p)):JdP res (.returned (.agg #[.int .i64 (n:Int),.int .i64 (p:Int)])):=by rw[h];exact yw rfl
theorem uk {w:World}{nm:Bs}{gn pn bn ic gc pc bc:Nat}{ia ga pa ba:Option Addr}{so:Option Nat}{is:List Bs}{Sn:Seen}{tl:List Th}{ol:Nat->List Th}{sr:Nat->Ck}{br res:Ck}
  (hfine:w.cell? ⟨0,0,none⟩=some (.int .i64 0)/\w.cell? ⟨0,1,none⟩=some (.int .i64 (-1)))
  (hI:Row w (fun b=>b<w.heap.size) 9 1 (.slice ia is.length ic) is.length (strs is)) (his:∀ n∈is,n.length<=1000000) (hil:is.length<=1000) (hS:SeenV w (.map so) Sn)
  (hG:AskTG w gn ga tl) (hP:AskTP w gn pn pa tl) (hl:tl.length=gn+pn) (hgn:gn<=1000) (hpn:pn<=1000)
  (hO:AskO w #[.string (bs nm),.slice ia is.length ic,.slice ga gn gc,.slice pa pn pc,.slice ba bn bc] so pn pa ol sr) (hsr:∀ i c,sr i=some c->ftC (some c)≠(0,-1))
  (hB:∀ W,Below w.heap.size w W->Calls Tryz.prog 80 #[.agg #[.string (bs nm),.slice ia is.length ic,.slice ga gn gc,.slice pa pn pc,.slice ba bn bc],.slice none 0 0,.map so,.slice ba bn bc] W fun e w'=>JdP br e/\Below W.heap.size W w')
  (hres:ResC res (Tp.imps nm Sn [] is) (Tp.twr tl 0) ((List.range pn).findSome? fun i=>(Tp.twr (ol i) 0).or (sr i)) br) :
  Calls Tryz.prog 28 #[.agg #[.string (bs nm),.slice ia is.length ic,.slice ga gn gc,.slice pa pn pc,.slice ba bn bc],.map so] w fun e w'=>JdP res e/\Below w.heap.size w w':=by
 have hn':(is.length:Int)<=1000:=by omega
 have hgn':(gn:Int)<=1000:=by omega
 have hpn':(pn:Int)<=1000:=by omega
 have HSV:=zh hS
 have HIS:=zh his
 have HI:Hid (∀ i (h:i<is.length),∃ g,ia=some ⟨g,0,none⟩/\is.length<=ic/\g<w.heap.size/\w.cell? ⟨g,i,none⟩=some (.string (bs is[i]))):=fun i h=>by
  rcases hI with⟨_,q,_⟩|⟨g,cap,cur,q1,q2,q3,q4,_,_,q7⟩
  ·omega
  ·cases q1
   refine⟨g,rfl,q4,q2,?_⟩
   rw[za q3,<-Array.getElem?_toList,<-jn is i h,<-q7,List.getElem?_take_of_lt (by omega)]
 have HG:=zh hG
 have HP:=zh hP
 have HL:=zh hl
 have HO:=zh hO
 have HSR:=zh hsr
 have HBD:=zh hB
 have HRES:=zh hres
 have HFN:=zh hfine
 clear hI his hS hG hP hl hO hsr hB hres hfine
 go_enter Tryz.func28,Tryz.ntmps28
 go_upto_region 0 with fail
 go_cut [2,4] from 5 (fun v2 v4 wc=>∃ mb rb:Nat,v2=.pointer (some ⟨mb,0,none⟩)/\v4=.pointer (some ⟨rb,0,none⟩)/\Hid (wc.heap[mb]?=some (.cells #[.string (bs nm),.slice ia is.length ic,.slice ga gn gc,.slice pa pn pc,.slice ba bn bc] 27 (0,0)))/\Hid (wc.heap[rb]?=some (.cells #[.int .i64 0,.int .i64 0] 30 (0,0)))/\w.heap.size<=rb/\w.heap.size<=mb/\Hid (Below w.heap.size w wc))
 case first =>
  have HB1:Hid (Below w.heap.size w ((w.alloc (.cells #[.string (bs nm),.slice ia is.length ic,.slice ga gn gc,.slice pa pn pc,.slice ba bn bc] 27)).alloc (.cells #[.int .i64 0,.int .i64 0] 30))):=(zb _ _).alloc (by simp) _
  have HM1:Hid (((w.alloc (.cells #[.string (bs nm),.slice ia is.length ic,.slice ga gn gc,.slice pa pn pc,.slice ba bn bc] 27)).alloc (.cells #[.int .i64 0,.int .i64 0] 30)).heap[w.heap.size]?=some (.cells #[.string (bs nm),.slice ia is.length ic,.slice ga gn gc,.slice pa pn pc,.slice ba bn bc] 27 (0,0))):=(Below.heap_alloc _ _ _ (by simp)).trans (zl _ _)
  have HR1:Hid (((w.alloc (.cells #[.string (bs nm),.slice ia is.length ic,.slice ga gn gc,.slice pa pn pc,.slice ba bn bc] 27)).alloc (.cells #[.int .i64 0,.int .i64 0] 30)).heap[w.heap.size+1]?=some (.cells #[.int .i64 0,.int .i64 0] 30 (0,0))):=by
   have:=zl (w.alloc (.cells #[.string (bs nm),.slice ia is.length ic,.slice ga gn gc,.slice pa pn pc,.slice ba bn bc] 27)) (.cells #[.int .i64 0,.int .i64 0] 30)
   show _=_
   simpa using this
  go_wp2_with fail
  go_meet
  case rel=>exact⟨w.heap.size,w.heap.size+1,rfl,rfl,HM1,HR1,by omega,by omega,HB1⟩
 case rest =>
  obtain⟨mb,rb,rfl,rfl,HMB,HR,hrbw,hmbw,HBc⟩:=hcut
  rename World=>wc
  have y0:wc.cell? ⟨mb,0,none⟩=some (.string (bs nm)):=za HMB.out
  have y1:wc.cell? ⟨mb,1,none⟩=some (.slice ia is.length ic):=za HMB.out
  have hlm:=zc HMB.out
  go_wp2_with fail
  go_loopg [26] is.length (fun k vi wr=>∃ i:Nat,i<=is.length/\k=is.length - i/\vi=.int .i64 (i:Int)/\wr=wc/\Hid (Tp.imps nm Sn [] is=Tp.imps nm Sn (is.take i).reverse (is.drop i)))
  case atStart=>exact⟨0,by omega,by omega,rfl,rfl,by show _=_;simp⟩
  case round =>
   obtain⟨i,hid,hk,rfl,rfl,HIM⟩:=hrel
   by_cases hlt:i<is.length
   ·have hlt':(i:Int)<(is.length:Int):=by omega
    obtain⟨g,rfl,hcap,hgl,hc⟩:=HI.out i hlt
    have hcell:∀ j (h:j<is.length),wr.cell? ⟨g,j,none⟩=some (.string (bs is[j])):=fun j h=>by
     obtain⟨g',e,_,q1,q2⟩:=HI.out j h
     cases e
     exact(HBc.out.cell (p:=⟨g,j,none⟩) q1).trans q2
    have x0:=hcell i hlt
    have hwl:g<wr.heap.size:=zi x0
    have hcap':(i:Int)<=(ic:Int):=by omega
    have hcap2:i<=ic:=by omega
    have HCE:=zh hcell
    have HXL:=zh (HIS.out _ (List.getElem_mem hlt))
    have HIQ:=zh (HIM.out.trans (imps_i hlt))
    obtain⟨vl,hvl,_,_,_⟩:=(HSV.out.on HBc.out).look is[i] HXL.out true
    clear hcell hc hgl
    obtain⟨x,hx⟩:∃ x,x=is[i]:=⟨_,rfl⟩
    rw[<-hx]at x0 HXL HIQ hvl
    have HX:=zh hx
    clear hx
    obtain⟨d,hd⟩:∃ d,((bs x).toList == (bs nm).toList)=d:=⟨_,rfl⟩
    have HD:Hid (d=true↔x=nm):=by
     show _↔_
     rw[<-hd,zw,zw,beq_iff_eq]
    cases d with
    | true =>
     have HJ:Hid (JdP res (.returned (.agg #[.int .i64 (10:Int),.int .i64 (-1)]))):=xE (n:=10) (res1 HRES.out (by rw[HIQ.out,if_pos (Or.inl (HD.out.1 rfl))]))
     clear hvl
     go_wp2_with fail
     refine(ja 10 wr).mono ?_
     rintro e w9 ⟨rfl,hb9⟩
     have HRW:Hid (w9.heap[rb]?=some (.cells #[.int .i64 0,.int .i64 0] 30 (0,0))):=(hb9.block rb (zc HR.out)).trans HR.out
     have HBW:Hid (Below w.heap.size w w9):=HBc.out.trans (hb9.mono HBc.out.size)
     clear hb9
     have kr:∀ i,w9.cell? ⟨rb,i,none⟩=(#[.int .i64 0,.int .i64 0]:Array Value)[i]?:=fun i=>za HRW.out
     have zr:∀ i,w9.frozen? ⟨rb,i,none⟩=false:=fun i=>zg HRW.out
     have hrl:=zc HRW.out
     have HF:Hid (Below w.heap.size w ((w9.setCell ⟨rb,0,none⟩ (.int .i64 (10:Int))).setCell ⟨rb,1,none⟩ (.int .i64 (-1)))):=b2 HBW.out hrbw _ _
     go_wp2_with fail
     exact bodyPost_ret (v:=.agg #[.int .i64 (10:Int),.int .i64 (-1)]) (by simp[results,Tryz.results28,go_sem,kr]) rfl ⟨HJ.out,HF.out⟩
    | false =>
     have HNE:Hid (¬x=nm):=fun q=>by have:=HD.out.2 q;cases this
     clear hvl
     go_wp2_with fail
     go_loopg [41] i (fun k vj wq=>∃ j:Nat,j<=i/\k=i - j/\vj=.int .i64 (j:Int)/\wq=wr/\Hid (x ∉ is.take j))
     case atStart=>exact⟨0,by omega,by omega,rfl,rfl,by show ¬_;simp⟩
     case round =>
      obtain⟨j,hjd,hkj,rfl,rfl,HNM⟩:=hrel
      by_cases hjt:j<i
      ·have hjt':(j:Int)<(i:Int):=by omega
       have hjl:j<is.length:=by omega
       have z0:=HCE.out j hjl
       have HMT:=zh (kK hjl x)
       obtain⟨d2,hd2⟩:∃ d,((bs is[j]).toList == (bs x).toList)=d:=⟨_,rfl⟩
       have HD2:Hid (d2=true↔is[j]=x):=by
        show _↔_
        rw[<-hd2,zw,zw,beq_iff_eq]
       have HTK:Hid (is[j]=x->x∈is.take i):=fun q=>by
        rw[<-q]
        exact List.mem_take_iff_getElem.2 ⟨j,by omega,rfl⟩
       generalize is[j]=z at *
       cases d2 with
       | true =>
        have HJ:Hid (JdP res (.returned (.agg #[.int .i64 (10:Int),.int .i64 (-1)]))):=xE (n:=10) (res1 HRES.out (by rw[HIQ.out,if_pos (Or.inr (HTK.out (HD2.out.1 rfl)))]))
        go_wp2_with fail
        refine(ja 10 wr).mono ?_
        rintro e w9 ⟨rfl,hb9⟩
        have HRW:Hid (w9.heap[rb]?=some (.cells #[.int .i64 0,.int .i64 0] 30 (0,0))):=(hb9.block rb (zc HR.out)).trans HR.out
        have HBW:Hid (Below w.heap.size w w9):=HBc.out.trans (hb9.mono HBc.out.size)
        clear hb9
        have kr:∀ i,w9.cell? ⟨rb,i,none⟩=(#[.int .i64 0,.int .i64 0]:Array Value)[i]?:=fun i=>za HRW.out
        have zr:∀ i,w9.frozen? ⟨rb,i,none⟩=false:=fun i=>zg HRW.out
        have hrl:=zc HRW.out
        have HF:Hid (Below w.heap.size w ((w9.setCell ⟨rb,0,none⟩ (.int .i64 (10:Int))).setCell ⟨rb,1,none⟩ (.int .i64 (-1)))):=b2 HBW.out hrbw _ _
        go_wp2_with fail
        exact bodyPost_ret (v:=.agg #[.int .i64 (10:Int),.int .i64 (-1)]) (by simp[results,Tryz.results28,go_sem,kr]) rfl ⟨HJ.out,HF.out⟩
       | false =>
        have HN2:Hid (x ∉ is.take (j+1)):=fun q=>by
         rcases HMT.out.1 q with a|a
         ·exact HNM.out a
         ·have:=HD2.out.2 a;cases this
        go_wp2_with fail
        go_roundg (i - (j+1))
        case measure=>omega
        case rel=>exact⟨j+1,by omega,rfl,by go_num,rfl,HN2⟩
      ·have hjt':¬(j:Int)<(i:Int):=by omega
       have hji:j=i:=by omega
       subst hji
       obtain⟨vl,hvl,_,_,_⟩:=(HSV.out.on HBc.out).look x HXL.out true
       have HIR:Hid (Tp.imps nm Sn [] is=if Sn x=none then some (8,none) else Tp.imps nm Sn (is.take (j+1)).reverse (is.drop (j+1))):=by
        show _=_
        rw[HIQ.out,if_neg]
        rintro(q|q)
        ·exact HNE.out q
        ·exact HNM.out q
       obtain⟨b,hb⟩:∃ b,(Sn x).isSome=b:=⟨_,rfl⟩
       rw[hb]at hvl
       have HBB:=zh hb
       clear hb
       cases b with
       | false =>
        have HJ:Hid (JdP res (.returned (.agg #[.int .i64 (8:Int),.int .i64 (-1)]))):=xE (n:=8) (res1 HRES.out (by rw[HIR.out,if_pos (by simpa using HBB.out)]))
        go_wp2_with fail
        refine(ja 8 wr).mono ?_
        rintro e w9 ⟨rfl,hb9⟩
        have HRW:Hid (w9.heap[rb]?=some (.cells #[.int .i64 0,.int .i64 0] 30 (0,0))):=(hb9.block rb (zc HR.out)).trans HR.out
        have HBW:Hid (Below w.heap.size w w9):=HBc.out.trans (hb9.mono HBc.out.size)
        clear hb9
        have kr:∀ i,w9.cell? ⟨rb,i,none⟩=(#[.int .i64 0,.int .i64 0]:Array Value)[i]?:=fun i=>za HRW.out
        have zr:∀ i,w9.frozen? ⟨rb,i,none⟩=false:=fun i=>zg HRW.out
        have hrl:=zc HRW.out
        have HF:Hid (Below w.heap.size w ((w9.setCell ⟨rb,0,none⟩ (.int .i64 (8:Int))).setCell ⟨rb,1,none⟩ (.int .i64 (-1)))):=b2 HBW.out hrbw _ _
        go_wp2_with fail
        exact bodyPost_ret (v:=.agg #[.int .i64 (8:Int),.int .i64 (-1)]) (by simp[results,Tryz.results28,go_sem,kr]) rfl ⟨HJ.out,HF.out⟩
       | true =>
        have HIM2:Hid (Tp.imps nm Sn [] is=Tp.imps nm Sn (is.take (j+1)).reverse (is.drop (j+1))):=by
         show _=_
         rw[HIR.out,if_neg]
         intro q
         have:=HBB.out
         rw[q]at this
         cases this
        go_wp2_with fail
        go_roundg (is.length - (j+1))
        case measure=>omega
        case rel=>exact⟨j+1,by omega,rfl,by go_num,rfl,HIM2⟩
   ·have hlt':¬(i:Int)<(is.length:Int):=by omega
    have HIN:Hid (Tp.imps nm Sn [] is=none):=by
     show _=_
     rw[HIM.out,List.drop_eq_nil_of_le (by omega)]
     rfl
    obtain⟨wm,hwm⟩:∃ wm,wm=wr.alloc (.map #[] 0):=⟨_,rfl⟩
    obtain⟨bm,hbm⟩:∃ bm,bm=wr.heap.size:=⟨_,rfl⟩
    have hmm:=@run_makeMap Tryz.prog
    have HCm:Hid (Cn wm bm tl 0):=by rw[hwm,hbm];exact Cn.zero wr tl
    have hbe:Below wr.heap.size wr wm:=by rw[hwm];exact zb _ _
    have HMm:Hid (wm.heap[mb]?=some (.cells #[.string (bs nm),.slice ia is.length ic,.slice ga gn gc,.slice pa pn pc,.slice ba bn bc] 27 (0,0))):=(hbe.block mb (zc HMB.out)).trans HMB.out
    have HRm:Hid (wm.heap[rb]?=some (.cells #[.int .i64 0,.int .i64 0] 30 (0,0))):=(hbe.block rb (zc HR.out)).trans HR.out
    have HBm:Hid (Below w.heap.size w wm):=HBc.out.trans (hbe.mono HBc.out.size)
    have hbw:w.heap.size<=bm:=by have:=HBc.out.size;omega
    have hmn:mb≠bm:=by have:=zc HMB.out;omega
    have hrn:rb≠bm:=by have:=zc HR.out;omega
    have HKE:Hid (∀ W,Ext bm wm W->W.heap[mb]?=some (.cells #[.string (bs nm),.slice ia is.length ic,.slice ga gn gc,.slice pa pn pc,.slice ba bn bc] 27 (0,0))/\W.heap[rb]?=some (.cells #[.int .i64 0,.int .i64 0] 30 (0,0))/\Below w.heap.size w W):=fun W hE=>⟨(hE.block mb (zc HMm.out) hmn).trans HMm.out,(hE.block rb (zc HRm.out) hrn).trans HRm.out,HBm.out.trans (ym hE hbw HBm.out.size)⟩
    have y2:wm.cell? ⟨mb,2,none⟩=some (.slice ga gn gc):=za HMm.out
    have hlm2:=zc HMm.out
    clear hbe y0 y1 hlm HI HIS HIM HMm HRm HBm hmn hrn
    go_upto_region 17 with fail
    rw[<-hwm,<-hbm]
    clear hwm hbm hmm HMB HR HBc
    go_wp2_with fail
    clear y2 hlm2
    go_loopg [64] gn (fun k vi wr=>∃ a:Nat,a<=gn/\k=gn - a/\vi=.int .i64 (a:Int)/\Hid (Cn wr bm tl a)/\Hid (Ext bm wm wr))
    case atStart=>exact⟨0,by omega,by omega,rfl,HCm,Ext.refl _ _⟩
    case round =>
     obtain⟨a,had,hka,rfl,HC,HE⟩:=hrel
     by_cases hlta:a<gn
     ·have hlt':(a:Int)<(gn:Int):=by omega
      obtain⟨g,x0,x1,x2,x3,hga,hgB,k0,k1,k2,k3,hxl,hx⟩:=HG.out a (by omega)
      subst hga
      obtain⟨_,_,hbr⟩:=HKE.out wr HE.out
      have kc0:=(hbr.cell (p:=⟨g,a * 4,none⟩) hgB).trans k0
      have kc1:=(hbr.cell (p:=⟨g,a * 4+1,none⟩) hgB).trans k1
      have kc2:=(hbr.cell (p:=⟨g,a * 4+2,none⟩) hgB).trans k2
      have kc3:=(hbr.cell (p:=⟨g,a * 4+3,none⟩) hgB).trans k3
      have hglr:g<wr.heap.size:=Nat.lt_of_lt_of_le hgB hbr.size
      obtain⟨w1,hw1⟩:∃ w1,w1=wr.alloc (.cells #[.string (bs x0),.int .i64 (x1:Int),.int .i64 (x2:Int),.bool x3] 71):=⟨_,rfl⟩
      obtain⟨gb,hgb⟩:∃ gb,gb=wr.heap.size:=⟨_,rfl⟩
      have hblk:w1.heap[gb]?=some (.cells #[.string (bs x0),.int .i64 (x1:Int),.int .i64 (x2:Int),.bool x3] 71 (0,0)):=by rw[hw1,hgb];exact zl _ _
      have HE1:Hid (Ext bm wm w1):=by rw[hw1];exact HE.out.trans (Ext.below (zb _ _))
      have hgn2:gb≠bm:=by have:=HC.out.mp.lt;omega
      have HC1:Hid (Cn w1 bm tl (a)):=by rw[hw1];exact HC.out.on (Below.heap_alloc _ _ _ HC.out.mp.lt)
      have HBK:=zh hblk
      have p0:w1.cell? ⟨gb,0,none⟩=some (.string (bs x0)):=za hblk
      have p1:w1.cell? ⟨gb,1,none⟩=some (.int .i64 (x1:Int)):=za hblk
      have hpl:=zc hblk
      have HX:=zh hx
      clear k0 k1 k2 k3 hx hblk hbr
      go_upto_region 20 with fail
      rw[<-hw1,<-hgb]
      clear hw1 hgb kc0 kc1 kc2 kc3
      by_cases hm:x0∈nmsT (tl) ((a))
      ·have hlk:(Instr.lookup 80 (.map (some bm)) (.string (bs x0)) false).run Tryz.prog w1=.ok (.int .i64 1) w1:=by have:=ki HC1.out.mp hxl;rw[if_pos hm]at this;exact this
       have HM:=zh hm
       clear hm
       go_wp2_with (at_mapUpdate;refine zE _ rfl _ _ _ 80 rfl _ Tryz.underlying80 bm (a) _ HC1.out.mp (by omega) x0 hxl (.int .i64 2) rfl rfl rfl ?_)
       intro w2 q1 q2 q3
       have hlk2:(Instr.lookup 80 (.map (some bm)) (.string (bs x0)) false).run Tryz.prog w2=.ok (.int .i64 2) w2:=yU q1 hxl
       have hb2:=(q2.block gb (zc HBK.out) hgn2).trans HBK.out
       have z0:w2.cell? ⟨gb,0,none⟩=some (.string (bs x0)):=za hb2
       have z1:w2.cell? ⟨gb,1,none⟩=some (.int .i64 (x1:Int)):=za hb2
       have hpl2:=zc hb2
       clear hb2 p0 p1 hpl hlk
       obtain⟨_,hr2,hb2⟩:=HKE.out w2 (HE1.out.trans q2)
       have HRW:=zh hr2
       have HBW:=zh hb2
       have HJ:Hid (JdP res (.returned (.agg #[.int .i64 (9:Int),.int .i64 (x1:Int)]))):=jdp_at (n:=9) (res2 HRES.out HIN.out (HC1.out.dup HX.out HM.out))
       clear q1 q2 q3 hr2 hb2
       have kr:∀ i,w2.cell? ⟨rb,i,none⟩=(#[.int .i64 0,.int .i64 0]:Array Value)[i]?:=fun i=>za HRW.out
       have zr:∀ i,w2.frozen? ⟨rb,i,none⟩=false:=fun i=>zg HRW.out
       have hrl:=zc HRW.out
       have HF:Hid (Below w.heap.size w ((w2.setCell ⟨rb,0,none⟩ (.int .i64 (9:Int))).setCell ⟨rb,1,none⟩ (.int .i64 (x1:Int)))):=b2 HBW.out hrbw _ _
       go_wp2_with fail
       exact bodyPost_ret (v:=.agg #[.int .i64 (9:Int),.int .i64 (x1:Int)]) (by simp[results,Tryz.results28,go_sem,kr]) rfl ⟨HJ.out,HF.out⟩
      ·have hlk:(Instr.lookup 80 (.map (some bm)) (.string (bs x0)) false).run Tryz.prog w1=.ok (.int .i64 0) w1:=by have:=ki HC1.out.mp hxl;rw[if_neg hm]at this;exact this
       have HM:=zh hm
       clear hm
       go_wp2_with (at_mapUpdate;refine zE _ rfl _ _ _ 80 rfl _ Tryz.underlying80 bm (a) _ HC1.out.mp (by omega) x0 hxl (.int .i64 1) rfl rfl rfl ?_)
       intro w2 q1 q2 q3
       have hlk2:(Instr.lookup 80 (.map (some bm)) (.string (bs x0)) false).run Tryz.prog w2=.ok (.int .i64 1) w2:=yU q1 hxl
       have hb2:=(q2.block gb (zc HBK.out) hgn2).trans HBK.out
       have z0:w2.cell? ⟨gb,0,none⟩=some (.string (bs x0)):=za hb2
       have z1:w2.cell? ⟨gb,1,none⟩=some (.int .i64 (x1:Int)):=za hb2
       have hpl2:=zc hb2
       clear hb2 p0 p1 hpl hlk
       have HC2:Hid (Cn w2 bm tl (a+1)):=HC1.out.next HX.out HM.out q1
       have HE2:Hid (Ext bm wm w2):=HE1.out.trans q2
       clear q1 q2 q3
       go_wp2_with fail
       go_roundg (gn - (a+1))
       case measure=>omega
       case rel=>exact⟨a+1,by omega,rfl,by go_num,HC2,HE2⟩
     ·have hlta':¬(a:Int)<(gn:Int):=by omega
      have hea:a=gn:=by omega
      have HC0:Hid (Cn wr bm tl (gn+0)):=by rw[<-hea];exact HC
      obtain⟨hmr,_,_⟩:=HKE.out wr HE.out
      have y3:wr.cell? ⟨mb,3,none⟩=some (.slice pa pn pc):=za hmr
      have hlm3:=zc hmr
      have HE0:=HE
      clear hmr HC HE hea HCm HG
      go_wp2_with fail
      clear y3 hlm3
      go_loopg [85] pn (fun k vi wr=>∃ b:Nat,b<=pn/\k=pn - b/\vi=.int .i64 (b:Int)/\Hid (Cn wr bm tl (gn+b))/\Hid (Ext bm wm wr))
      case atStart=>exact⟨0,by omega,by omega,rfl,HC0,HE0⟩
      case round =>
       obtain⟨b,hbd,hkb,rfl,HC,HE⟩:=hrel
       clear HC0 HE0
       by_cases hltb:b<pn
       ·have hlt':(b:Int)<(pn:Int):=by omega
        obtain⟨g,x0,x1,x2,y3,y4,y5,n3,n4,n5,c3,c4,c5,hga,hgB,k0,k1,k2,k3,k4,k5,hxl,hx⟩:=HP.out b (by omega)
        subst hga
        obtain⟨_,_,hbr⟩:=HKE.out wr HE.out
        have kc0:=(hbr.cell (p:=⟨g,b * 6,none⟩) hgB).trans k0
        have kc1:=(hbr.cell (p:=⟨g,b * 6+1,none⟩) hgB).trans k1
        have kc2:=(hbr.cell (p:=⟨g,b * 6+2,none⟩) hgB).trans k2
        have kc3:=(hbr.cell (p:=⟨g,b * 6+3,none⟩) hgB).trans k3
        have kc4:=(hbr.cell (p:=⟨g,b * 6+4,none⟩) hgB).trans k4
        have kc5:=(hbr.cell (p:=⟨g,b * 6+5,none⟩) hgB).trans k5
        have hglr:g<wr.heap.size:=Nat.lt_of_lt_of_le hgB hbr.size
        obtain⟨w1,hw1⟩:∃ w1,w1=wr.alloc (.cells #[.string (bs x0),.int .i64 (x1:Int),.bool x2,.slice y3 n3 c3,.slice y4 n4 c4,.slice y5 n5 c5] 74):=⟨_,rfl⟩
        obtain⟨gb,hgb⟩:∃ gb,gb=wr.heap.size:=⟨_,rfl⟩
        have hblk:w1.heap[gb]?=some (.cells #[.string (bs x0),.int .i64 (x1:Int),.bool x2,.slice y3 n3 c3,.slice y4 n4 c4,.slice y5 n5 c5] 74 (0,0)):=by rw[hw1,hgb];exact zl _ _
        have HE1:Hid (Ext bm wm w1):=by rw[hw1];exact HE.out.trans (Ext.below (zb _ _))
        have hgn2:gb≠bm:=by have:=HC.out.mp.lt;omega
        have HC1:Hid (Cn w1 bm tl (gn+b)):=by rw[hw1];exact HC.out.on (Below.heap_alloc _ _ _ HC.out.mp.lt)
        have HBK:=zh hblk
        have p0:w1.cell? ⟨gb,0,none⟩=some (.string (bs x0)):=za hblk
        have p1:w1.cell? ⟨gb,1,none⟩=some (.int .i64 (x1:Int)):=za hblk
        have hpl:=zc hblk
        have HX:=zh hx
        clear k0 k1 k2 k3 k4 k5 hx hblk hbr
        go_upto_region 27 with fail
        rw[<-hw1,<-hgb]
        clear hw1 hgb kc0 kc1 kc2 kc3 kc4 kc5
        by_cases hm:x0∈nmsT (tl) ((gn+b))
        ·have hlk:(Instr.lookup 80 (.map (some bm)) (.string (bs x0)) false).run Tryz.prog w1=.ok (.int .i64 1) w1:=by have:=ki HC1.out.mp hxl;rw[if_pos hm]at this;exact this
         have HM:=zh hm
         clear hm
         go_wp2_with (at_mapUpdate;refine zE _ rfl _ _ _ 80 rfl _ Tryz.underlying80 bm (gn+b) _ HC1.out.mp (by omega) x0 hxl (.int .i64 2) rfl rfl rfl ?_)
         intro w2 q1 q2 q3
         have hlk2:(Instr.lookup 80 (.map (some bm)) (.string (bs x0)) false).run Tryz.prog w2=.ok (.int .i64 2) w2:=yU q1 hxl
         have hb2:=(q2.block gb (zc HBK.out) hgn2).trans HBK.out
         have z0:w2.cell? ⟨gb,0,none⟩=some (.string (bs x0)):=za hb2
         have z1:w2.cell? ⟨gb,1,none⟩=some (.int .i64 (x1:Int)):=za hb2
         have hpl2:=zc hb2
         clear hb2 p0 p1 hpl hlk
         obtain⟨_,hr2,hb2⟩:=HKE.out w2 (HE1.out.trans q2)
         have HRW:=zh hr2
         have HBW:=zh hb2
         have HJ:Hid (JdP res (.returned (.agg #[.int .i64 (9:Int),.int .i64 (x1:Int)]))):=jdp_at (n:=9) (res2 HRES.out HIN.out (HC1.out.dup HX.out HM.out))
         clear q1 q2 q3 hr2 hb2
         have kr:∀ i,w2.cell? ⟨rb,i,none⟩=(#[.int .i64 0,.int .i64 0]:Array Value)[i]?:=fun i=>za HRW.out
         have zr:∀ i,w2.frozen? ⟨rb,i,none⟩=false:=fun i=>zg HRW.out
         have hrl:=zc HRW.out
         have HF:Hid (Below w.heap.size w ((w2.setCell ⟨rb,0,none⟩ (.int .i64 (9:Int))).setCell ⟨rb,1,none⟩ (.int .i64 (x1:Int)))):=b2 HBW.out hrbw _ _
         go_wp2_with fail
         exact bodyPost_ret (v:=.agg #[.int .i64 (9:Int),.int .i64 (x1:Int)]) (by simp[results,Tryz.results28,go_sem,kr]) rfl ⟨HJ.out,HF.out⟩
        ·have hlk:(Instr.lookup 80 (.map (some bm)) (.string (bs x0)) false).run Tryz.prog w1=.ok (.int .i64 0) w1:=by have:=ki HC1.out.mp hxl;rw[if_neg hm]at this;exact this
         have HM:=zh hm
         clear hm
         go_wp2_with (at_mapUpdate;refine zE _ rfl _ _ _ 80 rfl _ Tryz.underlying80 bm (gn+b) _ HC1.out.mp (by omega) x0 hxl (.int .i64 1) rfl rfl rfl ?_)
         intro w2 q1 q2 q3
         have hlk2:(Instr.lookup 80 (.map (some bm)) (.string (bs x0)) false).run Tryz.prog w2=.ok (.int .i64 1) w2:=yU q1 hxl
         have hb2:=(q2.block gb (zc HBK.out) hgn2).trans HBK.out
         have z0:w2.cell? ⟨gb,0,none⟩=some (.string (bs x0)):=za hb2
         have z1:w2.cell? ⟨gb,1,none⟩=some (.int .i64 (x1:Int)):=za hb2
         have hpl2:=zc hb2
         clear hb2 p0 p1 hpl hlk
         have HC2:Hid (Cn w2 bm tl (gn+(b+1))):=HC1.out.next HX.out HM.out q1
         have HE2:Hid (Ext bm wm w2):=HE1.out.trans q2
         clear q1 q2 q3
         go_wp2_with fail
         go_roundg (pn - (b+1))
         case measure=>omega
         case rel=>exact⟨b+1,by omega,rfl,by go_num,HC2,HE2⟩
       ·have hltb':¬(b:Int)<(pn:Int):=by omega
        have HTN:Hid (Tp.twr tl 0=none):=HC.out.fin (by have:=HL.out;omega)
        obtain⟨hmr,_,_⟩:=HKE.out wr HE.out
        have y3:wr.cell? ⟨mb,3,none⟩=some (.slice pa pn pc):=za hmr
        have hlm3:=zc hmr
        have HE0:=HE
        clear hmr HC HE HP HL
        go_wp2_with fail
        clear y3 hlm3
        go_loopg [106] pn (fun k vi wr=>∃ c:Nat,c<=pn/\k=pn - c/\vi=.int .i64 (c:Int)/\Hid (∀ j,j<c->(Tp.twr (ol j) 0).or (sr j)=none)/\Hid (Ext bm wm wr))
        case atStart=>exact⟨0,by omega,by omega,rfl,fun j hj=>by omega,HE0⟩
        case round =>
         obtain⟨c,hcd,hkc,rfl,HN,HE⟩:=hrel
         clear HE0
         by_cases hltc:c<pn
         ·have hltc':(c:Int)<(pn:Int):=by omega
          obtain⟨g,x0,x1,x2,y3,y4,y5,n3,n4,n5,c3,c4,c5,ps,vs,hga,hgB,k0,k1,k2,k3,k4,k5,hn3,hn4,hr3,hr4,hol,hxs,hpl,hvl,hjc⟩:=HO.out c hltc
          subst hga
          obtain⟨nn,hnn⟩:∃ nn,nn=n3+n4:=⟨_,rfl⟩
          rw[<-hnn]at hjc
          have hnn':nn<=2000:=by omega
          have HNN:=zh hnn
          obtain⟨_,_,hbr⟩:=HKE.out wr HE.out
          have kc0:=(hbr.cell (p:=⟨g,c * 6,none⟩) hgB).trans k0
          have kc1:=(hbr.cell (p:=⟨g,c * 6+1,none⟩) hgB).trans k1
          have kc2:=(hbr.cell (p:=⟨g,c * 6+2,none⟩) hgB).trans k2
          have kc3:=(hbr.cell (p:=⟨g,c * 6+3,none⟩) hgB).trans k3
          have kc4:=(hbr.cell (p:=⟨g,c * 6+4,none⟩) hgB).trans k4
          have kc5:=(hbr.cell (p:=⟨g,c * 6+5,none⟩) hgB).trans k5
          have hglr:g<wr.heap.size:=Nat.lt_of_lt_of_le hgB hbr.size
          obtain⟨w1,hw1⟩:∃ w1,w1=wr.alloc (.cells #[.string (bs x0),.int .i64 (x1:Int),.bool x2,.slice y3 n3 c3,.slice y4 n4 c4,.slice y5 n5 c5] 74):=⟨_,rfl⟩
          obtain⟨gb,hgb⟩:∃ gb,gb=wr.heap.size:=⟨_,rfl⟩
          have hblk:w1.heap[gb]?=some (.cells #[.string (bs x0),.int .i64 (x1:Int),.bool x2,.slice y3 n3 c3,.slice y4 n4 c4,.slice y5 n5 c5] 74 (0,0)):=by rw[hw1,hgb];exact zl _ _
          have HE1:Hid (Ext bm wm w1):=by rw[hw1];exact HE.out.trans (Ext.below (zb _ _))
          have hb1:=(HKE.out w1 HE1.out).2.2
          have HR3:Hid (∀ W:World,(∀ b,b<w1.heap.size->W.heap[b]?=w1.heap[b]?)->Row W (fun b=>b<w1.heap.size) 9 1 (.slice y3 n3 c3) n3 (strs ps)):=fun W hW=>hr3.mono fun b hb _=>⟨(hW b (Nat.lt_of_lt_of_le hb hb1.size)).trans (hb1.block b hb),Nat.lt_of_lt_of_le hb hb1.size⟩
          have HR4:Hid (∀ W:World,(∀ b,b<w1.heap.size->W.heap[b]?=w1.heap[b]?)->Row W (fun b=>b<w1.heap.size) 9 1 (.slice y4 n4 c4) n4 (strs vs)):=fun W hW=>hr4.mono fun b hb _=>⟨(hW b (Nat.lt_of_lt_of_le hb hb1.size)).trans (hb1.block b hb),Nat.lt_of_lt_of_le hb hb1.size⟩
          have HS3:Hid ((strs ps).length=n3 * 1/\∀ u∈strs ps,u.oneCell'=true):=by rw[hn3];exact strs_one ps
          have HS4:Hid ((strs vs).length=n4 * 1/\∀ u∈strs vs,u.oneCell'=true):=by rw[hn4];exact strs_one vs
          have HBK:=zh hblk
          have p3:w1.cell? ⟨gb,3,none⟩=some (.slice y3 n3 c3):=za hblk
          have p4:w1.cell? ⟨gb,4,none⟩=some (.slice y4 n4 c4):=za hblk
          have hgl1:=zc hblk
          have HOL:=zh hol
          have HXS:=zh hxs
          have HJC:=zh hjc
          have hn3':n3<=1000:=by omega
          have hn4':n4<=1000:=by omega
          have HN3:=zh hn3
          have HN4:=zh hn4
          clear k0 k1 k2 k3 k4 k5 hr3 hr4 hol hxs hpl hvl hjc hblk hbr hb1 hn3 hn4 hnn
          go_upto_region 34 with fail
          rw[<-hw1,<-hgb]
          clear hw1 hgb kc0 kc1 kc2 kc3 kc4 kc5
          go_cut [18] from 110 to 116 (fun v18 wz=>∃ oa oc,v18=.slice oa nn oc/\Hid (wz.ownsRow w1.heap.size 9 1 (.slice oa nn oc) nn (strs ps++strs vs))/\Hid (Below w1.heap.size w1 wz))
          case first =>
           obtain⟨i1,hi,hz0,hz1,hz2⟩:=info_parts Tryz.infoString
           have p3a:∀ ob,(w1.alloc ob).cell? ⟨gb,3,none⟩=some (.slice y3 n3 c3):=fun ob=>zA p3 ob
           have p4a:∀ ob,(w1.alloc ob).cell? ⟨gb,4,none⟩=some (.slice y4 n4 c4):=fun ob=>zA p4 ob
           generalize hss3:strs ps=ss3 at *
           generalize hss4:strs vs=ss4 at *
           clear hss3 hss4
           go_region_law (first
            | (have _g:=HQ1;refine yP rfl (.tmp 113) (.tmp 115) 22 rfl w1.heap.size 9 i1 (.string ⟨#[]⟩) 1 16 Tryz.underlying22 hi hz0 hz1 hz2 rfl (by decide) (.slice a3 (0+n3) e3) (0+n3) ([]++ss3) (by simp[Act.eval]) HQ1.out (fun b=>b<w1.heap.size) (.slice y4 n4 c4) n4 ss4 (by simp[Act.eval]) (HR4.out _ HK3.out) HS4.out.1 HS4.out.2 (by unfold maxLen;omega) (by omega) HL3.out ?_;intro v4 w4 r1 r2 r3;obtain⟨a4,e4,rfl⟩:=zx r1;have HQ4:Hid (w4.ownsRow w1.heap.size 9 1 (.slice a4 (n3+n4) e4) (n3+n4) (ss3++ss4)):=(by have:=r1;simp only [Nat.zero_add,List.nil_append]at this;exact this);rw[<-HNN.out]at HQ4;have HB4:Hid (Below w1.heap.size w1 w4):=vk (by first|exact HB3.out.drew|exact HB3.out) r2 HQ1.out HL3.out;clear r1 r2 r3)
            | (refine yP rfl (.tmp 110) (.tmp 112) 22 rfl w1.heap.size 9 i1 (.string ⟨#[]⟩) 1 16 Tryz.underlying22 hi hz0 hz1 hz2 rfl (by decide) (.slice (some ⟨w1.heap.size,0,none⟩) 0 0) 0 [] (by simp[Act.eval]) (vh (zl w1 _)) (fun b=>b<w1.heap.size) (.slice y3 n3 c3) n3 ss3 (by simp[Act.eval]) (HR3.out _ (fun b hb=>Below.heap_alloc w1 _ b hb)) HS3.out.1 HS3.out.2 (by unfold maxLen;omega) (by omega) (by simp) ?_;intro v3 w3 q1 q2 q3;obtain⟨a3,e3,rfl⟩:=zx q1;have HB3:Hid (Below w1.heap.size w1 w3):=vk (B:=w1.heap.size) (by first|exact(zb _ _).drew|exact zb _ _) q2 (vh (zl w1 _)) (by simp);have HK3:Hid (∀ b,b<w1.heap.size->w3.heap[b]?=w1.heap[b]?):=HB3.out.block;have HL3:Hid (w1.heap.size<=w3.heap.size):=HB3.out.size;have HQ1:=zh q1;have p4b:w3.cell? ⟨gb,4,none⟩=some (.slice y4 n4 c4):=(HB3.out.cell (p:=⟨gb,4,none⟩) hgl1).trans p4;have hgl3:gb<w3.heap.size:=Nat.lt_of_lt_of_le hgl1 HB3.out.size;clear q1 q2 q3))
           all_goals
            go_wp2_with fail
            go_meet
            case rel=>exact⟨_,_,by rw[HNN.out],HQ4,HB4⟩
          case rest =>
           obtain⟨oa,oc,rfl,HOW,HB2⟩:=hcut
           rename World=>wz
           have hmm:=@run_makeMap Tryz.prog
           obtain⟨wp,hwp⟩:∃ wp,wp=wz.alloc (.map #[] 0):=⟨_,rfl⟩
           obtain⟨bp,hbp⟩:∃ bp,bp=wz.heap.size:=⟨_,rfl⟩
           have HCp:Hid (Cn wp bp (ol c) 0):=by rw[hwp,hbp];exact Cn.zero wz _
           have hbe:Below wz.heap.size wz wp:=by rw[hwp];exact zb _ _
           have HEp:Hid (Ext bm wm wp):=(HE1.out.trans (Ext.below HB2.out)).trans (Ext.below hbe)
           have hsz2:=HB2.out.size
           have hbpw:wm.heap.size<=bp:=by have:=HE1.out.size;omega
           have hgbp:gb≠bp:=by omega
           have HBKp:Hid (wp.heap[gb]?=some (.cells #[.string (bs x0),.int .i64 (x1:Int),.bool x2,.slice y3 n3 c3,.slice y4 n4 c4,.slice y5 n5 c5] 74 (0,0))):=(hbe.block gb (by omega)).trans ((HB2.out.block gb hgl1).trans HBK.out)
           have HOWp:Hid (Row wp (fun b=>b<bp) 9 1 (.slice oa nn oc) nn (strs (ps++vs))):=by
            have h:=Row.of_owns HOW.out
            rw[strs_app]at h
            exact h.mono fun b _ hl=>⟨hbe.block b hl,by omega⟩
           have HLN:Hid ((ps++vs).length=nn):=by
            show _=_
            rw[List.length_append,HNN.out,HN3.out,HN4.out]
           have HCE:Hid (∀ d (h:d<(ps++vs).length),∃ og,oa=some ⟨og,0,none⟩/\og<bp/\wp.cell? ⟨og,d,none⟩=some (.string (bs (ps++vs)[d]))):=fun d h=>by
            have hl:=HLN.out
            obtain⟨og,cap,q1,q2,q3,q4⟩:=yu HOWp.out (by omega)
            cases q1
            exact⟨og,rfl,q2,(q4 d (by omega)).trans (jn _ d h)⟩
           clear hbe HOW HBK HR3 HR4 HS3 HS4 p3 p4 hsz2
           go_upto_region 36 with fail
           rw[<-hwp,<-hbp]
           clear hwp hbp hmm HB2 HE1 hgl1
           go_wp2_with fail
           go_loopg [120] nn (fun k vj wr=>∃ d:Nat,d<=nn/\k=nn - d/\vj=.int .i64 (d:Int)/\Hid (Cn wr bp (ol c) d)/\Hid (Ext bp wp wr))
           case atStart=>exact⟨0,by omega,by omega,rfl,HCp,Ext.refl _ _⟩
           case round =>
            obtain⟨d,hdd,hkd,rfl,HC1,HEd⟩:=hrel
            have HBKr:Hid (wr.heap[gb]?=some (.cells #[.string (bs x0),.int .i64 (x1:Int),.bool x2,.slice y3 n3 c3,.slice y4 n4 c4,.slice y5 n5 c5] 74 (0,0))):=(HEd.out.block gb (zc HBKp.out) hgbp).trans HBKp.out
            clear HCp
            by_cases hltd:d<nn
            ·have hltd':(d:Int)<(nn:Int):=by omega
             have hdl:d<(ps++vs).length:=by have:=HLN.out;omega
             obtain⟨og,rfl,hog,hoc⟩:=HCE.out d hdl
             have o0:wr.cell? ⟨og,d,none⟩=some (.string (bs (ps++vs)[d])):=HEd.out.cell hoc (by simp;omega)
             have hogl:=zi o0
             have hxl:=HXS.out _ (List.getElem_mem hdl)
             have HX:Hid ((ol c)[d]?=some ((ps++vs)[d],x1,0,-1)):=by
              show _=_
              rw[HOL.out,List.getElem?_map,List.getElem?_eq_getElem hdl]
              rfl
             obtain⟨xx,hxx⟩:∃ xx,xx=(ps++vs)[d]:=⟨_,rfl⟩
             rw[<-hxx]at o0 hxl HX
             clear hxx hoc hdl
             have hd1:d<1000000:=by omega
             by_cases hm:xx∈nmsT (ol c) (d)
             ·have hlk:(Instr.lookup 80 (.map (some bp)) (.string (bs xx)) false).run Tryz.prog wr=.ok (.int .i64 1) wr:=by have:=ki HC1.out.mp hxl;rw[if_pos hm]at this;exact this
              have HM:=zh hm
              clear hm
              go_wp2_with (at_mapUpdate;refine zE _ rfl _ _ _ 80 rfl _ Tryz.underlying80 bp d _ HC1.out.mp (by omega) xx hxl (.int .i64 2) rfl rfl rfl ?_)
              intro w2 q1 q2 q3
              have hlk2:(Instr.lookup 80 (.map (some bp)) (.string (bs xx)) false).run Tryz.prog w2=.ok (.int .i64 2) w2:=yU q1 hxl
              have hb2:=(q2.block gb (zc HBKr.out) hgbp).trans HBKr.out
              have z1:w2.cell? ⟨gb,1,none⟩=some (.int .i64 (x1:Int)):=za hb2
              have hpl2:=zc hb2
              clear hb2 hlk
              obtain⟨_,hr2,hb2⟩:=HKE.out w2 (ext_new HEp.out (HEd.out.trans q2) hbpw)
              have HRW:=zh hr2
              have HBW:=zh hb2
              have HJ:Hid (JdP res (.returned (.agg #[.int .i64 (9:Int),.int .i64 (x1:Int)]))):=jdp_at (n:=9) (res3 HRES.out HIN.out HTN.out (jy hltc HN.out (show (Tp.twr (ol c) 0).or (sr c)=some (9,some x1) by rw[HC1.out.dup HX.out HM.out];rfl)))
              clear q1 q2 q3 hr2 hb2
              have kr:∀ i,w2.cell? ⟨rb,i,none⟩=(#[.int .i64 0,.int .i64 0]:Array Value)[i]?:=fun i=>za HRW.out
              have zr:∀ i,w2.frozen? ⟨rb,i,none⟩=false:=fun i=>zg HRW.out
              have hrl:=zc HRW.out
              have HF:Hid (Below w.heap.size w ((w2.setCell ⟨rb,0,none⟩ (.int .i64 (9:Int))).setCell ⟨rb,1,none⟩ (.int .i64 (x1:Int)))):=b2 HBW.out hrbw _ _
              go_wp2_with fail
              exact bodyPost_ret (v:=.agg #[.int .i64 (9:Int),.int .i64 (x1:Int)]) (by simp[results,Tryz.results28,go_sem,kr]) rfl ⟨HJ.out,HF.out⟩
             ·have hlk:(Instr.lookup 80 (.map (some bp)) (.string (bs xx)) false).run Tryz.prog wr=.ok (.int .i64 0) wr:=by have:=ki HC1.out.mp hxl;rw[if_neg hm]at this;exact this
              have HM:=zh hm
              clear hm
              go_wp2_with (at_mapUpdate;refine zE _ rfl _ _ _ 80 rfl _ Tryz.underlying80 bp d _ HC1.out.mp (by omega) xx hxl (.int .i64 1) rfl rfl rfl ?_)
              intro w2 q1 q2 q3
              have hlk2:(Instr.lookup 80 (.map (some bp)) (.string (bs xx)) false).run Tryz.prog w2=.ok (.int .i64 1) w2:=yU q1 hxl
              have hb2:=(q2.block gb (zc HBKr.out) hgbp).trans HBKr.out
              have z1:w2.cell? ⟨gb,1,none⟩=some (.int .i64 (x1:Int)):=za hb2
              have hpl2:=zc hb2
              clear hb2 hlk
              have HC2:Hid (Cn w2 bp (ol c) (d+1)):=HC1.out.next HX.out HM.out q1
              have HE2:Hid (Ext bp wp w2):=HEd.out.trans q2
              clear q1 q2 q3
              go_wp2_with fail
              go_roundg (nn - (d+1))
              case measure=>omega
              case rel=>exact⟨d+1,by omega,rfl,by go_num,HC2,HE2⟩
            ·have hltd':¬(d:Int)<(nn:Int):=by omega
             have HTC:Hid (Tp.twr (ol c) 0=none):=HC1.out.fin (by rw[HOL.out,List.length_map];have:=HLN.out;omega)
             have hEr:=ext_new HEp.out HEd.out hbpw
             obtain⟨hmr,hrr,hbr⟩:=HKE.out wr hEr
             obtain⟨ym0,ym1,ym2,ym3,ym4⟩:=ya hmr
             have hlmr:=zc hmr
             have p5:wr.cell? ⟨gb,5,none⟩=some (.slice y5 n5 c5):=za HBKr.out
             have hgbl:=zc HBKr.out
             have hrow:Row wr (fun b=>b<wr.heap.size) 9 1 (.slice oa nn oc) nn (strs (ps++vs)):=HOWp.out.mono fun b hb hl=>⟨HEd.out.block b hl (by omega),Nat.lt_of_lt_of_le hl HEd.out.size⟩
             have HCJ:=zh (HJC.out wr oa oc hbr hrow)
             have HRR:=zh hrr
             have HBR:=zh hbr
             have HER:=zh hEr
             clear hEr hmr hrr hbr hrow HC1 HEd HCE HOWp HJC HXS
             go_wp2_with fail
             refine HCJ.out.mono ?_
             rintro e w5 ⟨hj,hb5⟩
             unfold JdP at hj
             subst hj
             have HE5:Hid (∀ ob,Ext bm wm (w5.alloc ob)):=fun ob=>(HER.out.trans (Ext.below hb5)).trans (Ext.below (zb _ _))
             have hbw5:∀ ob,Below w.heap.size w (w5.alloc ob):=fun ob=>(HKE.out _ (HE5.out ob)).2.2
             obtain⟨w6,hw6⟩:∃ w6,w6=w5.alloc (.cells #[.int .i64 (ftC (sr c)).1,.int .i64 (ftC (sr c)).2] 30):=⟨_,rfl⟩
             obtain⟨fb,hfb⟩:∃ fb,fb=w5.heap.size:=⟨_,rfl⟩
             have hb6:Below w.heap.size w w6:=by rw[hw6];exact hbw5 _
             have HE6:Hid (Ext bm wm w6):=by rw[hw6];exact HE5.out _
             have g0:w6.cell? ⟨0,0,none⟩=some (.int .i64 0):=(hb6.cell (p:=⟨0,0,none⟩) (zi HFN.out.1)).trans HFN.out.1
             have g1:w6.cell? ⟨0,1,none⟩=some (.int .i64 (-1)):=(hb6.cell (p:=⟨0,1,none⟩) (zi HFN.out.2)).trans HFN.out.2
             have hgl6:=zi g0
             have hfk:w6.heap[fb]?=some (.cells #[.int .i64 (ftC (sr c)).1,.int .i64 (ftC (sr c)).2] 30 (0,0)):=by rw[hw6,hfb];exact zl _ _
             have f0:w6.cell? ⟨fb,0,none⟩=some (.int .i64 (ftC (sr c)).1):=za hfk
             have f1:w6.cell? ⟨fb,1,none⟩=some (.int .i64 (ftC (sr c)).2):=za hfk
             have hfl:=zc hfk
             have HBW:=zh hb6
             have HRW:=zh (HKE.out _ HE6.out).2.1
             clear hb5 hbw5 hb6 hfk HE5 ym0 ym1 ym2 ym3 ym4 hlmr p5 hgbl HCJ HRR HBR HER HBKr HBKp
             go_upto_region 44 with fail
             rw[<-hw6,<-hfb]
             clear hw6 hfb
             cases hsc:sr c with
             | none =>
              have HN2:Hid (∀ j,j<c+1->(Tp.twr (ol j) 0).or (sr j)=none):=fun j hj=>by
               by_cases e:j=c
               ·subst e;rw[HTC.out,hsc];rfl
               ·exact HN.out j (by omega)
              have e1:(ftC (sr c)).1=0:=by rw[hsc];rfl
              have e2:(ftC (sr c)).2=-1:=by rw[hsc];rfl
              rw[e1]at f0
              rw[e2]at f1
              clear e1 e2 hsc
              go_wp2_with fail
              go_roundg (pn - (c+1))
              case measure=>omega
              case rel=>exact⟨c+1,by omega,rfl,by go_num,HN2,HE6⟩
             | some cc =>
              have HJ:Hid (JdP res (.returned (.agg #[.int .i64 (ftC (sr c)).1,.int .i64 (ftC (sr c)).2]))):=by
               show JdP _ _
               rw[res3 HRES.out HIN.out HTN.out (jy hltc HN.out (show (Tp.twr (ol c) 0).or (sr c)=some cc by rw[HTC.out,hsc];rfl)),hsc]
               rfl
              have hne:=HSR.out c cc hsc
              rw[<-hsc]at hne
              clear hsc
              obtain⟨E1,hE1⟩:∃ E,E=(ftC (sr c)).1:=⟨_,rfl⟩
              obtain⟨E2,hE2⟩:∃ E,E=(ftC (sr c)).2:=⟨_,rfl⟩
              have hf:¬(E1=0/\E2=-1):=fun q=>hne (Prod.ext (hE1 ▸ q.1) (hE2 ▸ q.2))
              rw[<-hE1]at f0 HJ
              rw[<-hE2]at f1 HJ
              clear hE1 hE2 hne
              have hcase:¬E1=0\/(E1=0/\¬E2=-1):=by omega
              clear hf
              rcases hcase with h1|⟨rfl,h1⟩
              all_goals
               have kr:∀ i,w6.cell? ⟨rb,i,none⟩=(#[.int .i64 0,.int .i64 0]:Array Value)[i]?:=fun i=>za HRW.out
               have zr:∀ i,w6.frozen? ⟨rb,i,none⟩=false:=fun i=>zg HRW.out
               have hrl:=zc HRW.out
               have HF:Hid (∀ a b,Below w.heap.size w ((w6.setCell ⟨rb,0,none⟩ a).setCell ⟨rb,1,none⟩ b)):=fun a b=>b2 HBW.out hrbw _ _
               go_wp2_with fail
               exact bodyPost_ret (v:=.agg #[.int .i64 _,.int .i64 _]) (by simp[results,Tryz.results28,go_sem,kr]) rfl ⟨HJ.out,HF.out _ _⟩
         ·have hltc':¬(c:Int)<(pn:Int):=by omega
          have HRB:Hid (res=br):=res4 HRES.out HIN.out HTN.out (jz (fun j hj=>HN.out j (by omega)))
          obtain⟨hmr,hrr,hbr⟩:=HKE.out wr HE.out
          obtain⟨y0,y1,y2,y3,y4⟩:=ya hmr
          have hlm3:=zc hmr
          have HBC:=zh (HBD.out wr hbr)
          have HRR:=zh hrr
          have HBR:=zh hbr
          clear hmr hrr hbr HN HE HO HSR HBD
          go_wp2_with fail
          refine HBC.out.mono ?_
          rintro e w9 ⟨hj,hb9⟩
          unfold JdP at hj
          subst hj
          have HRW:Hid (w9.heap[rb]?=some (.cells #[.int .i64 0,.int .i64 0] 30 (0,0))):=(hb9.block rb (zc HRR.out)).trans HRR.out
          have HBW:Hid (Below w.heap.size w w9):=HBR.out.trans (hb9.mono HBR.out.size)
          have HJ:Hid (JdP res (.returned (.agg #[.int .i64 (ftC br).1,.int .i64 (ftC br).2]))):=by
           show JdP _ _
           rw[HRB.out]
           rfl
          clear hb9 y0 y1 y2 y3 y4 hlm3 HBC HRR HBR
          generalize (ftC br).1=E1 at *
          generalize (ftC br).2=E2 at *
          have kr:∀ i,w9.cell? ⟨rb,i,none⟩=(#[.int .i64 0,.int .i64 0]:Array Value)[i]?:=fun i=>za HRW.out
          have zr:∀ i,w9.frozen? ⟨rb,i,none⟩=false:=fun i=>zg HRW.out
          have hrl:=zc HRW.out
          have HF:Hid (Below w.heap.size w ((w9.setCell ⟨rb,0,none⟩ (.int .i64 E1)).setCell ⟨rb,1,none⟩ (.int .i64 E2))):=b2 HBW.out hrbw _ _
          go_wp2_with fail
          exact bodyPost_ret (v:=.agg #[.int .i64 E1,.int .i64 E2]) (by simp[results,Tryz.results28,go_sem,kr]) rfl ⟨HJ.out,HF.out⟩
end Go.Proofs.YthnoedjbhbkdeaaGreatDoor
