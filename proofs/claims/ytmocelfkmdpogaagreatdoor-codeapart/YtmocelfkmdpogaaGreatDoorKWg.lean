import Derived.Test.YtmocelfkmdpogaaGreatDoorKWf
import Derived.Deep.RegionLawGrows
set_option maxRecDepth 100000
set_option maxHeartbeats 4000000
namespace Go.Proofs.YtmocelfkmdpogaaGreatDoor
open Go.RowKit
open Tp (Tok hd tx at' stp X S G Pr)
def pcells (name:ByteArray) (pos:Int) (seen:Bool) (ps vs bd:Value):Array Value:=#[.string name,.int .i64 pos,.bool seen,ps,vs,bd]
theorem yQ {w:World}{base base' e size n:Nat}{v:Value}{xs:List Value}(h:w.ownsRow base e size v n xs) (hb:base'<=base):w.ownsRow base' e size v n xs:=by
 refine⟨h.1,?_⟩
 rcases h.2 with q|⟨g,cap,cur,q1,q2,q3⟩
 ·exact Or.inl q
 ·exact Or.inr ⟨g,cap,cur,q1,Nat.le_trans hb q2,q3⟩
def VPr (B:Nat) (c:Pr) (v:Value) (w:World):Prop:=∃(pa va ba:Option Addr) (pc vc bc:Nat),
 v=.agg (pcells (bs c.name) (c.pos:Int) c.seen (.slice pa c.params.length pc) (.slice va c.vars.length vc) (.slice ba c.body.length bc)) /\
 w.ownsRow B 9 1 (.slice pa c.params.length pc) c.params.length (strs c.params)/\w.ownsRow B 9 1 (.slice va c.vars.length vc) c.vars.length (strs c.vars)/\VO B c.body (.slice ba c.body.length bc) w
theorem ext_set6 (w:World) (b:Nat) (v0 v1 v2 v3 v4 v5:Value):Ext b w ((((((w.setCell ⟨b,0,none⟩ v0).setCell ⟨b,1,none⟩ v1).setCell ⟨b,2,none⟩ v2).setCell ⟨b,3,none⟩ v3).setCell ⟨b,4,none⟩ v4).setCell ⟨b,5,none⟩ v5):=(((((((Ext.refl b w).set 0 v0).set 1 v1).set 2 v2).set 3 v3).set 4 v4).set 5 v5)
theorem below_set6 (w:World) (b:Nat) (v0 v1 v2 v3 v4 v5:Value):Below b w ((((((w.setCell ⟨b,0,none⟩ v0).setCell ⟨b,1,none⟩ v1).setCell ⟨b,2,none⟩ v2).setCell ⟨b,3,none⟩ v3).setCell ⟨b,4,none⟩ v4).setCell ⟨b,5,none⟩ v5):=(zq (zq (zq (zq (zq (zq (Below.refl b w) zn 0 v0) zn 1 v1) zn 2 v2) zn 3 v3) zn 4 v4) zn 5 v5)
def procT (f:Nat) (r:List Tok) (nm:List UInt8) (seen:Bool) (ps vs:List (List UInt8)) (r8:List Tok):Except Tp.Er (Pr× List Tok):=do
 let r9 <- Tp.want Tp.wBegin r8
 let (b,r10) <- Tp.sx f 0 0 r9
 let r11 <- Tp.want Tp.wEnd r10
 let r12 <- Tp.want Tp.mSemi r11
 .ok (⟨nm,at' r,seen,ps,vs,b⟩,r12)
theorem names_len:∀(f had most:Nat) (r r1:List Tok) (l:List (List UInt8)),Tp.names f had most r=.ok (l,r1)->had+l.length<=most:=by
 intro f
 induction f with
 | zero=>intro had most r r1 l h;cases h
 | succ f ih =>
  intro had most r r1 l h
  by_cases hm:most<=had
  ·rw[xG _ _ _ _ hm]at h;cases h
  ·rcases hn:Tp.name r with er|⟨nm,r2⟩
   ·rw[uk hm hn]at h;cases h
   ·by_cases hc:tx r2=Tp.mComma
    ·rw[xE hm hn hc]at h
     rcases hq:Tp.names f (had+1) most (stp r2) with er|⟨l2,r3⟩
     ·rw[hq]at h;cases h
     ·rw[hq]at h
      simp only [addAll,Except.ok.injEq,Prod.mk.injEq]at h
      have:=ih _ _ _ _ _ hq
      rw[<-h.1];simp;omega
    ·rw[xF hm hn hc]at h
     simp only [Except.ok.injEq,Prod.mk.injEq]at h
     rw[<-h.1];simp;omega
theorem kH {w:World}{p:Ps}{ts r:List Tok}{o b had most:Nat}{res:Except Tp.Er (List (List UInt8)× List Tok)}(h:St w p ts r o b) (hm:most<=10) (hh:had<=10) (f:Nat) (hf:1<=f) (hf':most+1<=f+had) (hr:Hid (Tp.names f had most r=res)) :
  Calls Tryz.prog 57 #[.pointer (some ⟨p.pb,0,none⟩),.int .i64 (had:Int),.int .i64 (most:Int)] w fun e w'=>Post p ts o b w (fun l v w'=>w'.ownsRow w.heap.size 9 1 v l.length (strs l)) res e w':=by
 have:=names_post h had most f hm hh hf hf'
 rw[hr.out]at this
 exact this
theorem ud {p:Ps}{ts:List Tok}{f:Nat}(hS:StmtsC p ts f) {w:World}{r:List Tok}(h:St w p ts r 0 0) (hn:Tp.proc f r≠.error (99,0)) :
  Calls Tryz.prog 61 #[.pointer (some ⟨p.pb,0,none⟩)] w fun e w'=>Post p ts 0 0 w (VPr w.heap.size) (Tp.proc f r) e w':=by
 have hpl:=zc h.c0
 have HS:Hid (StmtsC p ts f):=hS
 have HN:Hid (Tp.proc f r≠.error (99,0)):=hn
 clear hS hn
 go_enter Tryz.func61,Tryz.ntmps61
 go_wp2_with fail
 have hst:∀ ob,St (w.alloc ob) p ts r 0 0:=fun ob=>h.below (zb _ _)
 have hext:∀ ob,Ext p.pb w (w.alloc ob):=fun ob=>Ext.below (zb _ _)
 obtain⟨rb,hrbe⟩:∃ rb,rb=w.heap.size:=⟨_,rfl⟩
 have hrb:=zk w (.cells (pcells ⟨#[]⟩ 0 false (.slice none 0 0) (.slice none 0 0) (.slice none 0 0)) 79)
 obtain⟨w0,hw0⟩:∃ w0,w0=w.alloc (.cells #[.string ⟨#[]⟩,.int .i64 0,.bool false,.slice none 0 0,.slice none 0 0,.slice none 0 0] 79):=⟨_,rfl⟩
 replace hst:St w0 p ts r 0 0:=by rw[hw0];exact hst _
 replace hext:Ext p.pb w w0:=by rw[hw0];exact hext _
 replace hrb:w0.heap[rb]?=some (.cells (pcells ⟨#[]⟩ 0 false (.slice none 0 0) (.slice none 0 0) (.slice none 0 0)) 79 (0,0)):=by rw[hw0,hrbe];exact hrb
 rw[<-hw0,<-hrbe]
 have hrw:w.heap.size<=rb:=by omega
 have hps:p.pb<rb:=by omega
 clear hw0 hrbe
 by_cases hc:tx r=Tp.wProc
 rotate_left
 ·refine(zO hst Tp.wProc _ rfl hc).mono ?_
  rintro e wX ⟨ht,hx⟩
  have HX:Hid (¬tx r=Tp.wProc):=hc
  clear hc
  obtain⟨ab,q1,rfl,q2,q3⟩:=ht.out
  go_wp2_with fail
  refine⟨rfl,?_⟩
  rw[show Tp.proc f r=.error (3,at' r) by unfold Tp.proc;simp only [if_neg HX.out,bind,Except.bind,Tp.want]]
  exact zt hext ht hx
 refine(zD hst Tp.wProc _ rfl hc).mono ?_
 rintro e w1 ⟨rfl,hstN,hx⟩
 have H1:Hid (tx r=Tp.wProc):=hc
 clear hc hst
 have hst:=hstN
 clear hstN
 have hrbN:=(hx.block rb (zi hrb) (by omega)).trans hrb
 have hextN:=hext.trans hx
 clear hrb hext
 have hrb:=hrbN
 clear hrbN
 have hext:=hextN
 clear hextN
 clear hx
 have kS:w1.cell? ⟨rb,1,none⟩=some (.int .i64 0):=za hrb
 have zS:w1.frozen? ⟨rb,1,none⟩=false:=zg hrb
 go_wp2_with fail
 clear kS zS
 have hbS:Below rb w1 (w1.setCell ⟨rb,1,none⟩ (.int .i64 (at' r:Int))):=zq (Below.refl _ _) zn 1 _
 have hxS:Ext rb w1 (w1.setCell ⟨rb,1,none⟩ (.int .i64 (at' r:Int))):=(Ext.refl _ _).set 1 _
 have hstN:=hst.belowB hbS (by omega)
 have hextN:=hext.trans' (hbS.mono hrw)
 have hrbN:=zw 1 (.int .i64 (at' r:Int)) hrb
 generalize w1.setCell ⟨rb,1,none⟩ (.int .i64 (at' r:Int))=w3 at hbS hxS hstN hextN hrbN  ⊢
 clear hbS hxS hst hext hrb
 have hst:=hstN
 clear hstN
 have hext:=hextN
 clear hextN
 have hrb:=hrbN
 clear hrbN
 generalize hgr:stp r=r1 at hst
 have E1:Hid (stp r=r1):=hgr
 clear hgr
 rcases hres:Tp.name r1 with er|⟨nm,r2⟩
 ·have HX:Hid (Tp.name r1=.error er):=hres
  clear hres
  refine(qv hst HX).mono ?_
  rintro e wX ⟨ht,hx⟩
  obtain⟨ab,q1,rfl,q2,q3⟩:=ht.out
  go_wp2_with fail
  refine⟨rfl,?_⟩
  rw[show Tp.proc f r=.error er by unfold Tp.proc;simp only [if_pos H1.out,E1.out,HX.out,bind,Except.bind,Tp.want]]
  exact zt hext ht hx
 have H2:Hid (Tp.name r1=.ok (nm,r2)):=hres
 clear hres
 refine(qu hst H2).mono ?_
 rintro e w4 ⟨rfl,hstN,hx⟩
 clear hst
 have hst:=hstN
 clear hstN
 have hrbN:=(hx.block rb (zi hrb) (by omega)).trans hrb
 have hextN:=hext.trans hx
 clear hrb hext
 have hrb:=hrbN
 clear hrbN
 have hext:=hextN
 clear hextN
 clear hx
 have kS:w4.cell? ⟨rb,0,none⟩=some (.string ⟨#[]⟩):=za hrb
 have zS:w4.frozen? ⟨rb,0,none⟩=false:=zg hrb
 go_wp2_with fail
 clear kS zS
 have hbS:Below rb w4 (w4.setCell ⟨rb,0,none⟩ (.string (bs nm))):=zq (Below.refl _ _) zn 0 _
 have hxS:Ext rb w4 (w4.setCell ⟨rb,0,none⟩ (.string (bs nm))):=(Ext.refl _ _).set 0 _
 have hstN:=hst.belowB hbS (by omega)
 have hextN:=hext.trans' (hbS.mono hrw)
 have hrbN:=zw 0 (.string (bs nm)) hrb
 generalize w4.setCell ⟨rb,0,none⟩ (.string (bs nm))=w6 at hbS hxS hstN hextN hrbN  ⊢
 clear hbS hxS hst hext hrb
 have hst:=hstN
 clear hstN
 have hext:=hextN
 clear hextN
 have hrb:=hrbN
 clear hrbN
 refine(zH hst Tp.mStar _ rfl).mono ?_
 rintro e w7 ⟨rfl,hstN,hx⟩
 clear hst
 have hst:=hstN
 clear hstN
 have hrbN:=(hx.block rb (zi hrb) (by omega)).trans hrb
 have hextN:=hext.trans hx
 clear hrb hext
 have hrb:=hrbN
 clear hrbN
 have hext:=hextN
 clear hextN
 clear hx
 have kS:w7.cell? ⟨rb,2,none⟩=some (.bool false):=za hrb
 have zS:w7.frozen? ⟨rb,2,none⟩=false:=zg hrb
 go_wp2_with fail
 clear kS zS
 have hbS:Below rb w7 (w7.setCell ⟨rb,2,none⟩ (.bool (decide (tx r2=Tp.mStar)))):=zq (Below.refl _ _) zn 2 _
 have hxS:Ext rb w7 (w7.setCell ⟨rb,2,none⟩ (.bool (decide (tx r2=Tp.mStar)))):=(Ext.refl _ _).set 2 _
 have hstN:=hst.belowB hbS (by omega)
 have hextN:=hext.trans' (hbS.mono hrw)
 have hrbN:=zw 2 (.bool (decide (tx r2=Tp.mStar))) hrb
 generalize w7.setCell ⟨rb,2,none⟩ (.bool (decide (tx r2=Tp.mStar)))=w9 at hbS hxS hstN hextN hrbN  ⊢
 clear hbS hxS hst hext hrb
 have hst:=hstN
 clear hstN
 have hext:=hextN
 clear hextN
 have hrb:=hrbN
 clear hrbN
 generalize hgr:(if tx r2=Tp.mStar then stp r2 else r2)=r3 at hst
 have E3:Hid ((if tx r2=Tp.mStar then stp r2 else r2)=r3):=hgr
 clear hgr
 by_cases hc:tx r3=Tp.mLp
 rotate_left
 ·refine(zO hst Tp.mLp _ rfl hc).mono ?_
  rintro e wX ⟨ht,hx⟩
  have HX:Hid (¬tx r3=Tp.mLp):=hc
  clear hc
  obtain⟨ab,q1,rfl,q2,q3⟩:=ht.out
  go_wp2_with fail
  refine⟨rfl,?_⟩
  rw[show Tp.proc f r=.error (3,at' r3) by unfold Tp.proc;simp only [if_pos H1.out,E1.out,H2.out,E3.out,if_neg HX.out,bind,Except.bind,Tp.want]]
  exact zt hext ht hx
 refine(zD hst Tp.mLp _ rfl hc).mono ?_
 rintro e w10 ⟨rfl,hstN,hx⟩
 have H4:Hid (tx r3=Tp.mLp):=hc
 clear hc hst
 have hst:=hstN
 clear hstN
 have hrbN:=(hx.block rb (zi hrb) (by omega)).trans hrb
 have hextN:=hext.trans hx
 clear hrb hext
 have hrb:=hrbN
 clear hrbN
 have hext:=hextN
 clear hextN
 clear hx
 generalize hgr:stp r3=r4 at hst
 have E4:Hid (stp r3=r4):=hgr
 clear hgr
 go_wp2_with fail
 refine(yy hst Tp.mRp _ rfl).mono ?_
 rintro e wi ⟨rfl,hbi⟩
 generalize htt:decide (tx r4=Tp.mRp)=tt
 have HTT:Hid (decide (tx r4=Tp.mRp)=tt):=htt
 clear htt
 have hstN:=hst.below hbi
 clear hst
 have hst:=hstN
 clear hstN
 have hrbN:=((Ext.below (b:=p.pb) hbi).block rb (zi hrb) (by omega)).trans hrb
 have hextN:=hext.trans (Ext.below (b:=p.pb) hbi)
 clear hrb hext
 have hrb:=hrbN
 clear hrbN
 have hext:=hextN
 clear hextN
 clear hbi
 go_upto_if 16 with fail
 go_cut [] (fun wc=>∃(ps:List (List UInt8)) (pa:Option Addr) (pc:Nat) (r5:List Tok),ps.length<=10/\St wc p ts r5 0 0/\Ext p.pb w wc/\wc.heap[rb]?=some (.cells (pcells (bs nm) (at' r) (decide (tx r2=Tp.mStar)) (.slice pa ps.length pc) (.slice none 0 0) (.slice none 0 0)) 79 (0,0)) /\
  wc.ownsRow (rb+1) 9 1 (.slice pa ps.length pc) ps.length (strs ps)/\(if tx r4=Tp.mRp then .ok ([],r4) else Tp.names 11 0 10 r4:Except Tp.Er (List (List UInt8)× List Tok))=.ok (ps,r5))
 case first =>
  cases tt
  rotate_left
  ·have hp:tx r4=Tp.mRp:=of_decide_eq_true HTT.out
   have HP:Hid (tx r4=Tp.mRp):=hp
   clear hp
   go_wp2_with fail
   go_meet
   case rel=>exact⟨[],none,0,r4,by simp,hst,hext,hrb,World.ownsRow_nil _ _ _ _,by rw[if_pos HP.out]⟩
  ·have hp:¬tx r4=Tp.mRp:=of_decide_eq_false HTT.out
   have HP:Hid (¬tx r4=Tp.mRp):=hp
   clear hp
   rcases hres:Tp.names 11 0 10 r4 with er|⟨ps,r5⟩
   ·have HX:Hid (Tp.names 11 0 10 r4=.error er):=hres
    clear hres
    go_wp2_with fail
    refine(kH hst (by omega) (by omega) 11 (by omega) (by omega) HX).mono ?_
    rintro e wX ⟨ht,hx⟩
    obtain⟨ab,q1,rfl,q2,q3⟩:=ht.out
    go_wp2_with fail
    refine⟨rfl,?_⟩
    rw[show Tp.proc f r=.error er by unfold Tp.proc;simp only [if_pos H1.out,E1.out,H2.out,E3.out,if_pos H4.out,E4.out,if_neg HP.out,HX.out,bind,Except.bind,Tp.want]]
    exact zt hext ht hx
   ·have HX:Hid (Tp.names 11 0 10 r4=.ok (ps,r5)):=hres
    have hpl10:=names_len _ _ _ _ _ _ hres
    clear hres
    go_wp2_with fail
    refine(kH hst (by omega) (by omega) 11 (by omega) (by omega) HX).mono ?_
    intro e wn hq
    obtain⟨v,rfl,hv,hstn,hx⟩:=hq
    obtain⟨ao,cap,rfl⟩:=zl hv
    have hlr:=zi hrb
    have hrbn:=(hx.block rb hlr (by omega)).trans hrb
    have hextn:=hext.trans hx
    have hown:=yQ (base':=rb+1) hv (by omega)
    have kS:wn.cell? ⟨rb,3,none⟩=some (.slice none 0 0):=za hrbn
    have zS:wn.frozen? ⟨rb,3,none⟩=false:=zg hrbn
    clear hv hst hext hrb hx
    go_wp2_with fail
    go_meet
    case rel =>
     have hbS:Below rb wn (wn.setCell ⟨rb,3,none⟩ (.slice ao ps.length cap)):=zq (Below.refl _ _) zn 3 _
     have hxS:Ext rb wn (wn.setCell ⟨rb,3,none⟩ (.slice ao ps.length cap)):=(Ext.refl _ _).set 3 _
     exact⟨ps,ao,cap,r5,by omega,hstn.belowB hbS (by omega),hextn.trans' (hbS.mono hrw),zw 3 _ hrbn,zA hown hxS (by omega),by rw[if_neg HP.out,HX.out]⟩
 clear hst hext hrb
 obtain⟨ps,pa,pc,r5,hp10,hst,hext,hrb,hop,hsp⟩:=hcut
 have E5:Hid ((if tx r4=Tp.mRp then .ok ([],r4) else Tp.names 11 0 10 r4:Except Tp.Er (List (List UInt8)× List Tok))=.ok (ps,r5)):=hsp
 clear hsp
 go_wp2_with fail
 by_cases hc:tx r5=Tp.mRp
 rotate_left
 ·refine(zO hst Tp.mRp _ rfl hc).mono ?_
  rintro e wX ⟨ht,hx⟩
  have HX:Hid (¬tx r5=Tp.mRp):=hc
  clear hc
  obtain⟨ab,q1,rfl,q2,q3⟩:=ht.out
  go_wp2_with fail
  refine⟨rfl,?_⟩
  rw[show Tp.proc f r=.error (3,at' r5) by unfold Tp.proc;simp only [if_pos H1.out,E1.out,H2.out,E3.out,if_pos H4.out,E4.out,E5.out,if_neg HX.out,bind,Except.bind,Tp.want]]
  exact zt hext ht hx
 refine(zD hst Tp.mRp _ rfl hc).mono ?_
 rintro e w11 ⟨rfl,hstN,hx⟩
 have H6:Hid (tx r5=Tp.mRp):=hc
 clear hc hst
 have hst:=hstN
 clear hstN
 have hrbN:=(hx.block rb (zi hrb) (by omega)).trans hrb
 have hextN:=hext.trans hx
 have hopN:=zA hop hx (by omega)
 clear hrb hext hop
 have hrb:=hrbN
 clear hrbN
 have hext:=hextN
 clear hextN
 have hop:=hopN
 clear hopN
 clear hx
 generalize hgr:stp r5=r6 at hst
 have E6:Hid (stp r5=r6):=hgr
 clear hgr
 go_wp2_with fail
 by_cases hc:tx r6=Tp.mSemi
 rotate_left
 ·refine(zO hst Tp.mSemi _ rfl hc).mono ?_
  rintro e wX ⟨ht,hx⟩
  have HX:Hid (¬tx r6=Tp.mSemi):=hc
  clear hc
  obtain⟨ab,q1,rfl,q2,q3⟩:=ht.out
  go_wp2_with fail
  refine⟨rfl,?_⟩
  rw[show Tp.proc f r=.error (3,at' r6) by unfold Tp.proc;simp only [if_pos H1.out,E1.out,H2.out,E3.out,if_pos H4.out,E4.out,E5.out,if_pos H6.out,E6.out,if_neg HX.out,bind,Except.bind,Tp.want]]
  exact zt hext ht hx
 refine(zD hst Tp.mSemi _ rfl hc).mono ?_
 rintro e w12 ⟨rfl,hstN,hx⟩
 have H7:Hid (tx r6=Tp.mSemi):=hc
 clear hc hst
 have hst:=hstN
 clear hstN
 have hrbN:=(hx.block rb (zi hrb) (by omega)).trans hrb
 have hextN:=hext.trans hx
 have hopN:=zA hop hx (by omega)
 clear hrb hext hop
 have hrb:=hrbN
 clear hrbN
 have hext:=hextN
 clear hextN
 have hop:=hopN
 clear hopN
 clear hx
 generalize hgr:stp r6=r7 at hst
 have E7:Hid (stp r6=r7):=hgr
 clear hgr
 go_wp2_with fail
 refine(zH hst Tp.wVar _ rfl).mono ?_
 rintro e wt ⟨rfl,hstN,hx⟩
 generalize htt:decide (tx r7=Tp.wVar)=tv
 have HTV:Hid (decide (tx r7=Tp.wVar)=tv):=htt
 clear htt hst
 have hst:=hstN
 clear hstN
 have hrbN:=(hx.block rb (zi hrb) (by omega)).trans hrb
 have hextN:=hext.trans hx
 have hopN:=zA hop hx (by omega)
 clear hrb hext hop
 have hrb:=hrbN
 clear hrbN
 have hext:=hextN
 clear hextN
 have hop:=hopN
 clear hopN
 clear hx
 go_upto_if 25 with fail
 go_cut [] (fun wc=>∃(vs:List (List UInt8)) (va:Option Addr) (vc:Nat) (r8:List Tok),St wc p ts r8 0 0/\Ext p.pb w wc/\wc.heap[rb]?=some (.cells (pcells (bs nm) (at' r) (decide (tx r2=Tp.mStar)) (.slice pa ps.length pc) (.slice va vs.length vc) (.slice none 0 0)) 79 (0,0)) /\
  wc.ownsRow (rb+1) 9 1 (.slice pa ps.length pc) ps.length (strs ps)/\wc.ownsRow (rb+1) 9 1 (.slice va vs.length vc) vs.length (strs vs) /\
  (if tx r7=Tp.wVar then do let (vs,r8) <- Tp.names 11 ps.length 10 (stp r7);let r9 <- Tp.want Tp.mSemi r8;.ok (vs,r9) else .ok ([],r7):Except Tp.Er (List (List UInt8)× List Tok))=.ok (vs,r8))
 case first =>
  cases tv
  ·have hp:¬tx r7=Tp.wVar:=of_decide_eq_false HTV.out
   rw[if_neg hp]at hst
   have HP:Hid (¬tx r7=Tp.wVar):=hp
   clear hp
   go_wp2_with fail
   go_meet
   case rel=>exact⟨[],none,0,r7,hst,hext,hrb,hop,World.ownsRow_nil _ _ _ _,by rw[if_neg HP.out]⟩
  ·have hp:tx r7=Tp.wVar:=of_decide_eq_true HTV.out
   rw[if_pos hp]at hst
   have HP:Hid (tx r7=Tp.wVar):=hp
   clear hp
   have kL:wt.cell? ⟨rb,3,none⟩=some (.slice pa ps.length pc):=za hrb
   rcases hres:Tp.names 11 ps.length 10 (stp r7) with er|⟨vs,r8⟩
   ·have HX:Hid (Tp.names 11 ps.length 10 (stp r7)=.error er):=hres
    clear hres
    go_wp2_with fail
    clear kL
    refine(kH hst (by omega) (by omega) 11 (by omega) (by omega) HX).mono ?_
    rintro e wX ⟨ht,hx⟩
    obtain⟨ab,q1,rfl,q2,q3⟩:=ht.out
    go_wp2_with fail
    refine⟨rfl,?_⟩
    rw[show Tp.proc f r=.error er by unfold Tp.proc;simp only [if_pos H1.out,E1.out,H2.out,E3.out,if_pos H4.out,E4.out,E5.out,if_pos H6.out,E6.out,if_pos H7.out,E7.out,if_pos HP.out,HX.out,bind,Except.bind,Tp.want]]
    exact zt hext ht hx
   ·have HX:Hid (Tp.names 11 ps.length 10 (stp r7)=.ok (vs,r8)):=hres
    clear hres
    go_wp2_with fail
    clear kL
    refine(kH hst (by omega) (by omega) 11 (by omega) (by omega) HX).mono ?_
    intro e wn hq
    obtain⟨v,rfl,hv,hstn,hx⟩:=hq
    obtain⟨ao,cap,rfl⟩:=zl hv
    have hlr:=zi hrb
    have hrbn:=(hx.block rb hlr (by omega)).trans hrb
    have hextn:=hext.trans hx
    have hopn:=zA hop hx (by omega)
    have hown:=yQ (base':=rb+1) hv (by omega)
    have kS:wn.cell? ⟨rb,4,none⟩=some (.slice none 0 0):=za hrbn
    have zS:wn.frozen? ⟨rb,4,none⟩=false:=zg hrbn
    clear hv hst hext hrb hx hop
    go_wp2_with fail
    clear kS zS
    have hbS:Below rb wn (wn.setCell ⟨rb,4,none⟩ (.slice ao vs.length cap)):=zq (Below.refl _ _) zn 4 _
    have hxS:Ext rb wn (wn.setCell ⟨rb,4,none⟩ (.slice ao vs.length cap)):=(Ext.refl _ _).set 4 _
    have hsta:=hstn.belowB hbS (by omega)
    have hexta:=hextn.trans' (hbS.mono hrw)
    have hrba:=zw 4 (.slice ao vs.length cap) hrbn
    have hopa:=zA hopn hxS (by omega)
    have howna:=zA hown hxS (by omega)
    generalize wn.setCell ⟨rb,4,none⟩ (.slice ao vs.length cap)=wa at hbS hxS hsta hexta hrba hopa howna ⊢
    clear hbS hxS hstn hextn hrbn hopn hown
    by_cases hc:tx r8=Tp.mSemi
    ·refine(zD hsta Tp.mSemi _ rfl hc).mono ?_
     rintro e wb ⟨rfl,hstb,hx⟩
     have HC:Hid (tx r8=Tp.mSemi):=hc
     clear hc hsta
     have hrbb:=(hx.block rb (zi hrba) (by omega)).trans hrba
     have hextb:=hexta.trans hx
     have hopb:=zA hopa hx (by omega)
     have hownb:=zA howna hx (by omega)
     clear hx hexta hrba hopa howna
     go_wp2_with fail
     go_meet
     case rel=>exact⟨vs,ao,cap,stp r8,hstb,hextb,hrbb,hopb,hownb,by rw[if_pos HP.out,HX.out];simp only [bind,Except.bind,Tp.want,if_pos HC.out]⟩
    ·refine(zO hsta Tp.mSemi _ rfl hc).mono ?_
     rintro e wb ⟨ht,hx⟩
     have HC:Hid (¬tx r8=Tp.mSemi):=hc
     clear hc
     obtain⟨ab,q1,rfl,q2,q3⟩:=ht.out
     go_wp2_with fail
     refine⟨rfl,?_⟩
     rw[show Tp.proc f r=.error (3,at' r8) by unfold Tp.proc;simp only [if_pos H1.out,E1.out,H2.out,E3.out,if_pos H4.out,E4.out,E5.out,if_pos H6.out,E6.out,if_pos H7.out,E7.out,if_pos HP.out,HX.out,if_neg HC.out,bind,Except.bind,Tp.want]]
     exact zt hexta ht hx
 clear hst hext hrb hop
 obtain⟨vs,va,vc,r8,hst,hext,hrb,hop,hov,hsp⟩:=hcut
 have E8:Hid ((if tx r7=Tp.wVar then do let (vs,r8) <- Tp.names 11 ps.length 10 (stp r7);let r9 <- Tp.want Tp.mSemi r8;.ok (vs,r9) else .ok ([],r7):Except Tp.Er (List (List UInt8)× List Tok))=.ok (vs,r8)):=hsp
 clear hsp
 have HT:Hid (Tp.proc f r=procT f r nm (tx r2 == Tp.mStar) ps vs r8):=by
  have e8:=E8.out
  simp only [bind,Except.bind,Tp.want]at e8
  unfold Hid procT Tp.proc
  simp only [if_pos H1.out,E1.out,H2.out,E3.out,if_pos H4.out,E4.out,E5.out,if_pos H6.out,E6.out,if_pos H7.out,E7.out,e8,bind,Except.bind,Tp.want]
 go_wp2_with fail
 by_cases hc:tx r8=Tp.wBegin
 rotate_left
 ·refine(zO hst Tp.wBegin _ rfl hc).mono ?_
  rintro e wX ⟨ht,hx⟩
  have HX:Hid (¬tx r8=Tp.wBegin):=hc
  clear hc
  obtain⟨ab,q1,rfl,q2,q3⟩:=ht.out
  go_wp2_with fail
  refine⟨rfl,?_⟩
  rw[show Tp.proc f r=.error (3,at' r8) by rw[HT.out];unfold procT;simp only [if_neg HX.out,bind,Except.bind,Tp.want]]
  exact zt hext ht hx
 refine(zD hst Tp.wBegin _ rfl hc).mono ?_
 rintro e w14 ⟨rfl,hstN,hx⟩
 have H9:Hid (tx r8=Tp.wBegin):=hc
 clear hc hst
 have hst:=hstN
 clear hstN
 have hrbN:=(hx.block rb (zi hrb) (by omega)).trans hrb
 have hextN:=hext.trans hx
 have hopN:=zA hop hx (by omega)
 have hovN:=zA hov hx (by omega)
 clear hrb hext hop hov
 have hrb:=hrbN
 clear hrbN
 have hext:=hextN
 clear hextN
 have hop:=hopN
 clear hopN
 have hov:=hovN
 clear hovN
 clear hx
 generalize hgr:stp r8=r9 at hst
 have E9:Hid (stp r8=r9):=hgr
 clear hgr
 go_wp2_with fail
 have hno:Tp.sx f 0 0 r9≠.error (99,0):=by
  intro e;apply HN.out;rw[HT.out];unfold procT;simp only [if_pos H9.out,E9.out,e,bind,Except.bind,Tp.want]
 have hcl:=HS.out _ r9 0 hst (by omega) hno
 generalize hres:Tp.sx f 0 0 r9=res at hcl
 have HR:Hid (Tp.sx f 0 0 r9=res):=hres
 have HCL:Hid (Calls Tryz.prog 62 #[.pointer (some ⟨p.pb,0,none⟩)] w14 fun e w'=>Post p ts 0 0 w14 (VL w14.heap.size) res e w'):=hcl
 clear hcl hres hno
 refine HCL.out.mono ?_
 intro e ws hq
 rcases res with er|⟨bd,r10⟩
 ·obtain⟨ht,hx⟩:=hq
  obtain⟨ab,q1,rfl,q2,q3⟩:=ht.out
  go_wp2_with fail
  refine⟨rfl,?_⟩
  rw[show Tp.proc f r=.error er by rw[HT.out];unfold procT;simp only [if_pos H9.out,E9.out,HR.out,bind,Except.bind,Tp.want]]
  exact zt hext ht hx
 obtain⟨v,rfl,hv,hstN,hx⟩:=hq
 obtain⟨ba,bc,rfl⟩:=hv.shape
 have hbd:VL (rb+1) bd (.slice ba bd.length bc) ws:=hv.base (by have:=zi hrb;omega)
 clear hst hv
 have hst:=hstN
 clear hstN
 have hrbN:=(hx.block rb (zi hrb) (by omega)).trans hrb
 have hextN:=hext.trans hx
 have hopN:=zA hop hx (by omega)
 have hovN:=zA hov hx (by omega)
 clear hrb hext hop hov
 have hrb:=hrbN
 clear hrbN
 have hext:=hextN
 clear hextN
 have hop:=hopN
 clear hopN
 have hov:=hovN
 clear hovN
 clear hx HCL
 have kS:ws.cell? ⟨rb,5,none⟩=some (.slice none 0 0):=za hrb
 have zS:ws.frozen? ⟨rb,5,none⟩=false:=zg hrb
 go_wp2_with fail
 clear kS zS
 have hbS:Below rb ws (ws.setCell ⟨rb,5,none⟩ (.slice ba bd.length bc)):=zq (Below.refl _ _) zn 5 _
 have hxS:Ext rb ws (ws.setCell ⟨rb,5,none⟩ (.slice ba bd.length bc)):=(Ext.refl _ _).set 5 _
 have hstN:=hst.belowB hbS (by omega)
 have hextN:=hext.trans' (hbS.mono hrw)
 have hrbN:=zw 5 (.slice ba bd.length bc) hrb
 have hopN:=zA hop hxS (by omega)
 have hovN:=zA hov hxS (by omega)
 have hbdN:=VL.ext hxS (by omega) hbd
 generalize ws.setCell ⟨rb,5,none⟩ (.slice ba bd.length bc)=w16 at hbS hxS hstN hextN hrbN hopN hovN hbdN ⊢
 clear hbS hxS hst hext hrb hop hov hbd
 have hst:=hstN
 clear hstN
 have hext:=hextN
 clear hextN
 have hrb:=hrbN
 clear hrbN
 have hop:=hopN
 clear hopN
 have hov:=hovN
 clear hovN
 have hbd:=hbdN
 clear hbdN
 by_cases hc:tx r10=Tp.wEnd
 rotate_left
 ·refine(zO hst Tp.wEnd _ rfl hc).mono ?_
  rintro e wX ⟨ht,hx⟩
  have HX:Hid (¬tx r10=Tp.wEnd):=hc
  clear hc
  obtain⟨ab,q1,rfl,q2,q3⟩:=ht.out
  go_wp2_with fail
  refine⟨rfl,?_⟩
  rw[show Tp.proc f r=.error (3,at' r10) by rw[HT.out];unfold procT;simp only [if_pos H9.out,E9.out,HR.out,if_neg HX.out,bind,Except.bind,Tp.want]]
  exact zt hext ht hx
 refine(zD hst Tp.wEnd _ rfl hc).mono ?_
 rintro e w17 ⟨rfl,hstN,hx⟩
 have H11:Hid (tx r10=Tp.wEnd):=hc
 clear hc hst
 have hst:=hstN
 clear hstN
 have hrbN:=(hx.block rb (zi hrb) (by omega)).trans hrb
 have hextN:=hext.trans hx
 have hopN:=zA hop hx (by omega)
 have hovN:=zA hov hx (by omega)
 have hbdN:=VL.ext hx (by omega) hbd
 clear hrb hext hop hov hbd
 have hrb:=hrbN
 clear hrbN
 have hext:=hextN
 clear hextN
 have hop:=hopN
 clear hopN
 have hov:=hovN
 clear hovN
 have hbd:=hbdN
 clear hbdN
 clear hx
 generalize hgr:stp r10=r11 at hst
 have E11:Hid (stp r10=r11):=hgr
 clear hgr
 go_wp2_with fail
 by_cases hc:tx r11=Tp.mSemi
 rotate_left
 ·refine(zO hst Tp.mSemi _ rfl hc).mono ?_
  rintro e wX ⟨ht,hx⟩
  have HX:Hid (¬tx r11=Tp.mSemi):=hc
  clear hc
  obtain⟨ab,q1,rfl,q2,q3⟩:=ht.out
  go_wp2_with fail
  refine⟨rfl,?_⟩
  rw[show Tp.proc f r=.error (3,at' r11) by rw[HT.out];unfold procT;simp only [if_pos H9.out,E9.out,HR.out,if_pos H11.out,E11.out,if_neg HX.out,bind,Except.bind,Tp.want]]
  exact zt hext ht hx
 refine(zD hst Tp.mSemi _ rfl hc).mono ?_
 rintro e w18 ⟨rfl,hstN,hx⟩
 have H12:Hid (tx r11=Tp.mSemi):=hc
 clear hc hst
 have hst:=hstN
 clear hstN
 have hrbN:=(hx.block rb (zi hrb) (by omega)).trans hrb
 have hextN:=hext.trans hx
 have hopN:=zA hop hx (by omega)
 have hovN:=zA hov hx (by omega)
 have hbdN:=VL.ext hx (by omega) hbd
 clear hrb hext hop hov hbd
 have hrb:=hrbN
 clear hrbN
 have hext:=hextN
 clear hextN
 have hop:=hopN
 clear hopN
 have hov:=hovN
 clear hovN
 have hbd:=hbdN
 clear hbdN
 clear hx
 have kr:∀ i,w18.cell? ⟨rb,i,none⟩=(pcells (bs nm) (at' r) (decide (tx r2=Tp.mStar)) (.slice pa ps.length pc) (.slice va vs.length vc) (.slice ba bd.length bc))[i]?:=fun i=>za hrb
 have zr:∀ i,w18.frozen? ⟨rb,i,none⟩=false:=fun i=>zg hrb
 simp only [pcells]at kr
 go_wp2_with fail
 refine bodyPost_ret (v:=.agg (pcells (bs nm) (at' r) (decide (tx r2=Tp.mStar)) (.slice pa ps.length pc) (.slice va vs.length vc) (.slice ba bd.length bc))) (by simp[results,Tryz.results61,go_sem,kr,pcells]) rfl ?_
 rw[show Tp.proc f r=.ok (⟨nm,at' r,tx r2 == Tp.mStar,ps,vs,bd⟩,stp r11) by rw[HT.out];unfold procT;simp only [if_pos H9.out,E9.out,HR.out,if_pos H11.out,E11.out,if_pos H12.out,bind,Except.bind,Tp.want]]
 have hbS:=below_set6 w18 rb (.string (bs nm)) (.int .i64 (at' r:Int)) (.bool (decide (tx r2=Tp.mStar))) (.slice pa ps.length pc) (.slice va vs.length vc) (.slice ba bd.length bc)
 have hxS:=ext_set6 w18 rb (.string (bs nm)) (.int .i64 (at' r:Int)) (.bool (decide (tx r2=Tp.mStar))) (.slice pa ps.length pc) (.slice va vs.length vc) (.slice ba bd.length bc)
 exact⟨_,rfl,⟨pa,va,ba,pc,vc,bc,by rw[qV],yQ (zA hop hxS (by omega)) (by omega),yQ (zA hov hxS (by omega)) (by omega),(VL.ext hxS (by omega) hbd).vo.base (by omega)⟩,hst.belowB hbS (by omega),hext.trans' (hbS.mono hrw)⟩
end Go.Proofs.YtmocelfkmdpogaaGreatDoor
namespace Go.Proofs.YtmocelfkmdpogaaGreatDoor
open Go.RowKit
open Tp (Tok hd tx at' stp X)
theorem uK {f n o:Nat}{r:List Tok}{er:Tp.Er}(hn:n<5) (h:Tp.ex f (n+1) o 0 [] r=.error er):Tp.ex (f+1) n o 0 [] r=.error er:=by
 rw[Tp.ex,if_pos hn,h];rfl
theorem ex_lv_ok {f n o:Nat}{r r1:List Tok}{x:List X}(hn:n<5) (h:Tp.ex f (n+1) o 0 [] r=.ok (x,r1)):Tp.ex (f+1) n o 0 [] r=Tp.ex f (10+n) o (at' r) x r1:=by
 rw[Tp.ex,if_pos hn,h];rfl
theorem ex_lp_end {k n o a:Nat}{acc:List X}{r:List Tok}(h:Tp.lvl (tx r)≠n):Tp.ex (k+1) (10+n) o a acc r=.ok (acc,r):=by
 rw[Tp.ex,if_neg (by omega),if_neg (by omega),if_neg (by omega),if_neg (by omega),if_neg (by omega)]
theorem uL {k n o a:Nat}{acc:List X}{r:List Tok}{er:Tp.Er}(h:Tp.lvl (tx r)=n) (h2:Tp.ex k (n+1) o 0 [] (stp r)=.error er):Tp.ex (k+1) (10+n) o a acc r=.error er:=by
 rw[Tp.ex,if_neg (by omega),if_neg (by omega),if_neg (by omega),if_neg (by omega),if_pos (by omega),show 10+n - 10+1=n+1 by omega,h2];rfl
theorem ex_lp_ok {k n o a:Nat}{acc y:List X}{r r1:List Tok}(h:Tp.lvl (tx r)=n) (h2:Tp.ex k (n+1) o 0 [] (stp r)=.ok (y,r1)):Tp.ex (k+1) (10+n) o a acc r=Tp.ex k (10+n) o a [⟨5,a,0,[],[],tx r,acc,y,[]⟩] r1:=by
 rw[Tp.ex,if_neg (by omega),if_neg (by omega),if_neg (by omega),if_neg (by omega),if_pos (by omega),show 10+n - 10+1=n+1 by omega,h2];rfl
theorem level_one {p:Ps}{ts:List Tok}{f:Nat}(hO:OneC p ts f) {w:World}{r:List Tok}{o b:Nat}(h:St w p ts r o b) (ho:o<=11) (hn:Tp.ex f 5 o 0 [] r≠.error (99,0)) :
  Calls Tryz.prog 200 #[.pointer (some ⟨p.pb,0,none⟩),.int .i64 5] w fun e w'=>Post p ts o b w (VX w.heap.size) (Tp.ex f 5 o 0 [] r) e w':=by
 have hcall:=hO w r o b h ho hn
 generalize hres:Tp.ex f 5 o 0 [] r=res at hcall
 have HC:Hid (Calls Tryz.prog 210 #[.pointer (some ⟨p.pb,0,none⟩)] w fun e w'=>Post p ts o b w (VX w.heap.size) res e w'):=hcall
 clear hcall hres hn hO
 go_enter Tryz.func200,Tryz.ntmps200
 go_wp2_with fail
 refine HC.out.mono ?_
 intro e w5 hq
 rcases res with er|⟨x,r1⟩
 ·obtain⟨ht,hx5⟩:=hq
  obtain⟨ab,h1,rfl,h2,h3⟩:=ht.out
  go_wp2_with fail
  exact⟨rfl,ht,hx5⟩
 ·obtain⟨v,rfl,hv,hst5,hx5⟩:=hq
  go_wp2_with fail
  go_ret
  exact⟨_,rfl,hv,hst5,hx5⟩
theorem level_some {p:Ps}{ts:List Tok}{f:Nat}(hL:LevelC p ts f) {w:World}{r:List Tok}{o b n:Nat}(h:St w p ts r o b) (ho:o<=11) (hn5:n<5) (hn:Tp.ex (f+1) n o 0 [] r≠.error (99,0)) :
  Calls Tryz.prog 200 #[.pointer (some ⟨p.pb,0,none⟩),.int .i64 (n:Int)] w fun e w'=>Post p ts o b w (VX w.heap.size) (Tp.ex (f+1) n o 0 [] r) e w':=by
 have hpl:=zc h.c0
 have hni:(n:Int)<5:=by omega
 have hne:((n:Int) == 5)=false:=by simp;omega
 have HN5:Hid (n<5):=hn5
 have HL:Hid (∀ g,g<=f->∀ W q,St W p ts q o b->Tp.ex g (n+1) o 0 [] q≠.error (99,0)->Calls Tryz.prog 200 #[.pointer (some ⟨p.pb,0,none⟩),.int .i64 ((n:Int)+1)] W fun e w'=>Post p ts o b W (VX W.heap.size) (Tp.ex g (n+1) o 0 [] q) e w') :=
  fun g hg W q hW hq=>(hL.mono hg) W q o b (n+1) hW ho (by omega) hq
 have HN:Hid (Tp.ex (f+1) n o 0 [] r≠.error (99,0)):=hn
 clear hL hn hn5
 go_enter Tryz.func200,Tryz.ntmps200
 go_wp2_with fail
 refine(zK h).mono ?_
 rintro e w1 ⟨rfl,hb1⟩
 have hst1:=h.below hb1
 have hsz1:=hb1.size
 go_wp2_with fail
 have hno:Tp.ex f (n+1) o 0 [] r≠.error (99,0):=fun e=>HN.out (uK HN5.out e)
 refine(HL.out f zn _ r hst1 hno).mono ?_
 intro e w2 hq
 generalize hres:Tp.ex f (n+1) o 0 [] r=res at hq
 have HRX:Hid (Tp.ex f (n+1) o 0 [] r=res):=hres
 clear hres hno
 rcases res with er|⟨x,r1⟩
 ·obtain⟨ht,hx2⟩:=hq
  obtain⟨ab,h1,rfl,h2,h3⟩:=ht.out
  go_wp2_with fail
  refine⟨rfl,?_⟩
  rw[uK HN5.out HRX.out]
  exact zt (Ext.below hb1) ht hx2
 ·obtain⟨v,rfl,hv,hst2,hx2⟩:=hq
  obtain⟨bb,rfl⟩:=hv.ptr
  have hx2':Ext p.pb w w2:=(Ext.below hb1).trans hx2
  have hv2:VX w.heap.size x (.pointer (some ⟨bb,0,none⟩)) w2:=hv.base hsz1
  have HS0:Hid (Tp.ex f (10+n) o (at' r) x r1=Tp.ex (f+1) n o 0 [] r):=(ex_lv_ok HN5.out HRX.out).symm
  go_wp2_with fail
  clear hst1 hb1 hx2 hv
  go_loopg [6] f (fun k v wr=>∃(acc:List X) (r':List Tok) (ab:Nat),k<=f/\v=.pointer (some ⟨ab,0,none⟩)/\VX w.heap.size acc v wr/\St wr p ts r' o b/\Ext p.pb w wr/\Hid (Tp.ex k (10+n) o (at' r) acc r'=Tp.ex (f+1) n o 0 [] r))
  case atStart=>exact⟨x,r1,bb,Nat.le_refl _,rfl,hv2,hst2,hx2',HS0⟩
  case round =>
   obtain⟨acc,r',ab,hk,rfl,hvx,hst,hext,HS⟩:=hrel
   clear hst2 hx2' hv2
   obtain⟨g,rfl⟩:∃ g,gk=g+1:=by
    cases gk with
    | zero=>exact absurd HS.out.symm HN.out
    | succ g=>exact⟨g,rfl⟩
   go_wp2_with fail
   refine(zK hst).mono ?_
   rintro e w3 ⟨rfl,hb3⟩
   have hst3:=hst.below hb3
   have hext3:=hext.trans (Ext.below hb3)
   have hv3:=VX.ext (Ext.below (b:=p.pb) hb3) hpl hvx
   clear hst hext hvx
   go_wp2_with fail
   refine(qC w3 (hd r').text hst3.lv).mono ?_
   rintro e w4 ⟨rfl,hb4⟩
   have hst4:=hst3.below hb4
   have hext4:=hext3.trans (Ext.below hb4)
   have hv4:=VX.ext (Ext.below (b:=p.pb) hb4) hpl hv3
   clear hst3 hext3 hv3
   by_cases hl:Tp.lvl (tx r')=n
   ·have hle:((Tp.lvl (hd r').text:Int) == (n:Int))=true:=by have:=(show Tp.lvl (hd r').text=n from hl);simp;omega
    have HLV:Hid (Tp.lvl (tx r')=n):=hl
    clear hl
    go_wp2_with fail
    refine(zK hst4).mono ?_
    rintro e w5 ⟨rfl,hb5⟩
    have hst5:=hst4.below hb5
    have hext5:=hext4.trans (Ext.below hb5)
    have hv5:=VX.ext (Ext.below (b:=p.pb) hb5) hpl hv4
    clear hst4 hext4 hv4
    go_wp2_with fail
    refine(yW hst5).mono ?_
    rintro e w6 ⟨rfl,hst6,hx6⟩
    have hext6:=hext5.trans hx6
    have hv6:=VX.ext hx6 hpl hv5
    clear hst5 hext5 hv5
    have hno:Tp.ex g (n+1) o 0 [] (stp r')≠.error (99,0):=by
     intro e;apply HN.out;rw[<-HS.out];exact uL HLV.out e
    have hcall:=HL.out g (by omega) w6 (stp r') hst6 hno
    generalize hres:Tp.ex g (n+1) o 0 [] (stp r')=res at hcall
    have HR:Hid (Tp.ex g (n+1) o 0 [] (stp r')=res):=hres
    have HCL:Hid (Calls Tryz.prog 200 #[.pointer (some ⟨p.pb,0,none⟩),.int .i64 ((n:Int)+1)] w6 fun e w'=>Post p ts o b w6 (VX w6.heap.size) res e w'):=hcall
    clear hno hres hcall
    go_wp2_with fail
    refine HCL.out.mono ?_
    intro e w7 hq
    rcases res with er|⟨y,r2⟩
    ·obtain⟨ht,hx7⟩:=hq
     obtain⟨ab,h1,rfl,h2,h3⟩:=ht.out
     go_wp2_with fail
     refine⟨rfl,?_⟩
     rw[<-HS.out,uL HLV.out HR.out]
     exact zt hext6 ht hx7
    ·obtain⟨u,rfl,hu,hst7,hx7⟩:=hq
     obtain⟨ub,rfl⟩:=hu.ptr
     have hsz6:=hext6.size
     have hext7:=hext6.trans hx7
     have hsz7:=hext7.size
     have hv7:=VX.ext hx7 hpl hv6
     clear hst6 hext6 hv6
     go_wp2_with fail
     go_roundg g
     case rel =>
      have hal:Below w7.heap.size w7 (w7.alloc (.cells (xcells 5 (hd r).pos 0 ⟨#[]⟩ ⟨#[]⟩ (bs (hd r').text) (.pointer (some ⟨ab,0,none⟩)) (.pointer (some ⟨ub,0,none⟩)) (.slice none 0 0)) 90)):=zb _ _
      refine⟨[⟨5,at' r,0,[],[],tx r',acc,y,[]⟩],r2,w7.heap.size,by omega,rfl,?_,hst7.below hal,hext7.trans (Ext.below hal),?_⟩
      ·exact VX.node hsz7 (zk w7 _) (Or.inr (VX.ext (b:=p.pb) (Ext.below hal) hpl hv7)) (Or.inr ((VX.ext (b:=p.pb) (Ext.below hal) (by omega) hu).base hsz6)) (Or.inl ⟨rfl,rfl⟩)
      ·show _=_
       rw[<-HS.out]
       exact(ex_lp_ok HLV.out HR.out).symm
     all_goals omega
   ·have hle:((Tp.lvl (hd r').text:Int) == (n:Int))=false:=by have:=(show ¬Tp.lvl (hd r').text=n from hl);simp;omega
    have HLV:Hid (¬Tp.lvl (tx r')=n):=hl
    clear hl
    go_wp2_with fail
    go_ret
    rw[<-HS.out,ex_lp_end HLV.out]
    exact⟨_,rfl,hv4,hst4,hext4⟩
theorem level_post {p:Ps}{ts:List Tok}{f:Nat}(hL:LevelC p ts f) (hO:OneC p ts (f+1)):LevelC p ts (f+1):=by
 intro w r o b n h ho hn hx
 by_cases h5:n=5
 ·subst h5
  exact level_one hO h ho hx
 ·exact level_some hL h ho (by omega) hx
theorem zero_all (p:Ps) (ts:List Tok):LevelC p ts 0/\OneC p ts 0/\NamedC p ts 0 :=
 ⟨fun _ _ _ _ _ _ _ _ h=>absurd rfl h,fun _ _ _ _ _ _ h=>absurd rfl h,fun _ _ _ _ _ _ h=>absurd rfl h⟩
theorem expr_all (p:Ps) (ts:List Tok):∀ f,f<=100000->LevelC p ts f/\OneC p ts f/\NamedC p ts f:=by
 intro f
 induction f with
 | zero=>intro _;exact zero_all p ts
 | succ f ih =>
  intro hf
  obtain⟨hL,hO,hM⟩:=ih (by omega)
  have hA:=args_post (by omega) hL
  have hO':=one_post hL hO hM
  exact⟨level_post hL hO',hO',fun w r o b h ho hn=>named_post hL hA h ho hn⟩
theorem stmt_all (p:Ps) (ts:List Tok):∀ f,f<=100000->StmtsC p ts f/\StmtC p ts f/\BranchC p ts f:=by
 intro f
 induction f with
 | zero=>intro _;exact⟨fun _ _ _ _ _ h=>absurd rfl h,fun _ _ _ _ _ h=>absurd rfl h,fun _ _ _ _ _ h=>absurd rfl h⟩
 | succ f ih =>
  intro hf
  obtain⟨hS,hT,hB⟩:=ih (by omega)
  obtain⟨hL,hO,hM⟩:=expr_all p ts f (by omega)
  exact⟨stmts_post (by omega) hT,stmt_post hL hM hS hB,qU hL hS hB⟩
end Go.Proofs.YtmocelfkmdpogaaGreatDoor
namespace Go.Proofs.YtmocelfkmdpogaaGreatDoor
open Go.RowKit
open Tp (Tok hd tx at' stp X S G Pr)
theorem z7 {P:Program}{ops:Array Oper}{o:Oper}{a:Act}{w:World}{K:Act->World->Prop}{Q:Exit->Act->World->Prop}{E:Prop}
  (hg:o.guard=none) (s x:Operand) (t:TypeId) (hop:o.op=Op.call { callee:=Callee.builtin Builtin.append,args:=#[s,x],argTypes:=#[t,t] })
  (base:Nat) (e:TypeId) (i:TypeInfo) (z:Value) (size bytes:Nat) (ht:P.underlying t=some (.slice e)) (hi:P.info? e=some i) (hz:i.zero=some z)
  (hsize:i.size=size) (hby:i.bytes=bytes) (hzs:z.cells.size=size) (hsz:0<size)
  (v:Value) (n:Nat) (xs:List Value) (hs:a.eval s=v) (hown:w.ownsRow base e size v n xs)
  (ad:Addr) (m c:Nat) (news:List Value) (hx:a.eval x=.slice (some ad) m c) (hl:news.length=m * size) (hnews:∀ j u,news[j]?=some u->w.cell? (ad.add j)=some u) (h1:∀ u∈news,u.oneCell'=true)
  (h63:n+m<=maxLen) (hbytes:(n+m) * bytes<=140737488355328) (hbase:base<=w.heap.size)
  (hK:∀ v' w',w'.ownsRow base e size v' (n+m) (xs++news)->w.grownBy w' v.ownBlock->(∀ g,v'.ownBlock=some g->v.ownBlock=some g\/w.heap.size<=g)->K (a.put o.dst v') w') :
  if Region.wanted o (yielded ops a.tmps)=true then Oper.wp P o a w K Q else E:=by
 have hw:Region.wanted o (yielded ops a.tmps)=true:=by simp[Region.wanted,hg]
 rw[if_pos hw]
 obtain⟨v',w',r1,r2,r3,r4⟩:=yg (P:=P) w base t o.type e i z size bytes ht hi hz hsize hby hzs hsz v n xs hown ad m c news hl hnews h1 h63 hbytes hbase
 unfold Oper.wp
 simp[execOp,hop,resolve,invoke,builtin,hs,hx,r1,Result.andThen]
 exact hK v' w' r2 r3 r4
def Row (w:World) (D:Nat->Prop) (e size:Nat) (v:Value) (n:Nat) (cs:List Value):Prop :=
 v=.slice none 0 0/\n=0/\cs=[]\/∃ g cap cur,v=.slice (some ⟨g,0,none⟩) n cap/\D g/\w.heap[g]?=some (.cells cur e (0,0))/\n<=cap/\cap<=maxLen/\cur.size=cap * size/\cur.toList.take (n * size)=cs
theorem Row.mono {w w':World}{D D':Nat->Prop}(hw:∀ b,D b->b<w.heap.size->w'.heap[b]?=w.heap[b]?/\D' b) {e size:Nat}{v:Value}{n:Nat}{cs:List Value}(h:Row w D e size v n cs):Row w' D' e size v n cs:=by
 rcases h with h|⟨g,cap,cur,h1,h2,h3,h4⟩
 ·exact Or.inl h
 ·obtain⟨e1,e2⟩:=hw g h2 (zi h3)
  exact Or.inr ⟨g,cap,cur,h1,e2,e1.trans h3,h4⟩
theorem Row.of_owns {w:World}{base e size n:Nat}{v:Value}{cs:List Value}(h:w.ownsRow base e size v n cs):Row w (fun b=>base<=b/\v.ownBlock=some b) e size v n cs:=by
 rcases h.2 with⟨rfl,rfl⟩|⟨g,cap,cur,rfl,q1,q2,q3,q4,q5,q6⟩
 ·exact Or.inl ⟨rfl,rfl,List.eq_nil_of_length_eq_zero (by simpa using h.1)⟩
 ·exact Or.inr ⟨g,cap,cur,rfl,⟨q1,rfl⟩,q2,q3,q4,q5,q6⟩
def RepP (w:World) (D:Nat->Prop):List Pr->List Value->Prop
 | [],cs=>cs=[]
 | c :: l,cs=>∃(pv vv bv:Value) (bcs cs':List Value),
   cs=(pcells (bs c.name) (c.pos:Int) c.seen pv vv bv).toList++cs'/\Row w D 9 1 pv c.params.length (strs c.params)/\Row w D 9 1 vv c.vars.length (strs c.vars) /\
   RepS w D c.body bcs/\OwnS w D bv c.body.length bcs/\RepP w D l cs'
theorem RepP.mono {w w':World}{D D':Nat->Prop}(hw:∀ b,D b->b<w.heap.size->w'.heap[b]?=w.heap[b]?/\D' b):∀(l:List Pr) (cs:List Value),RepP w D l cs->RepP w' D' l cs:=by
 intro l
 induction l with
 | nil=>intro cs h;exact h
 | cons c l ih =>
  intro cs h
  obtain⟨pv,vv,bv,bcs,cs',h1,h2,h3,h4,h5,h6⟩:=h
  exact⟨pv,vv,bv,bcs,cs',h1,h2.mono hw,h3.mono hw,h4.mono' hw,h5.mono hw,ih cs' h6⟩
theorem RepP.app {w:World}{D:Nat->Prop}:∀(l m:List Pr) (cs us:List Value),RepP w D l cs->RepP w D m us->RepP w D (l++m) (cs++us):=by
 intro l
 induction l with
 | nil=>intro m cs us h k;rw[show cs=[] from h];exact k
 | cons c l ih =>
  intro m cs us h k
  obtain⟨pv,vv,bv,bcs,cs',h1,h2,h3,h4,h5,h6⟩:=h
  exact⟨pv,vv,bv,bcs,cs'++us,by rw[h1,List.append_assoc],h2,h3,h4,h5,ih m cs' us h6 k⟩
def gcs (l:List G):List Value:=(l.map fun g=>(gcells (bs g.name) (g.pos:Int) (g.len:Int) g.seen).toList).flatten
theorem gcs_app (l m:List G):gcs (l++m)=gcs l++gcs m:=by simp[gcs]
def mcells (name:ByteArray) (iv gv pv bv:Value):Array Value:=#[.string name,iv,gv,pv,bv]
structure MS (w:World) (rb:Nat) (nm:List UInt8) (is:List (List UInt8)) (gs:List G) (ps:List Pr) (iv gv pv:Value) (pcs:List Value):Prop where
 blk:w.heap[rb]?=some (.cells (mcells (bs nm) iv gv pv (.slice none 0 0)) 29 (0,0))
 im:Row w (fun b=>rb<b/\gv.ownBlock≠some b/\pv.ownBlock≠some b) 9 1 iv is.length (strs is)
 gl:w.ownsRow (rb+1) 118 4 gv gs.length (gcs gs)
 pl:w.ownsRow (rb+1) 79 6 pv ps.length pcs
 ne:∀ g,gv.ownBlock=some g->pv.ownBlock≠some g
 rp:RepP w (fun b=>rb<b/\gv.ownBlock≠some b/\pv.ownBlock≠some b) ps pcs
theorem zF {w w':World}{base e size n:Nat}{v:Value}{xs:List Value}(h:w.ownsRow base e size v n xs) (hk:∀ b,base<=b->b<w.heap.size->v.ownBlock=some b->w'.heap[b]?=w.heap[b]?):w'.ownsRow base e size v n xs:=by
 refine⟨h.1,?_⟩
 rcases h.2 with q|⟨g,cap,cur,rfl,q1,q2,q3⟩
 ·exact Or.inl q
 ·exact Or.inr ⟨g,cap,cur,rfl,q1,(hk g q1 (zi q2) rfl).trans q2,q3⟩
theorem MS.mono {w w':World}{rb:Nat}{nm:List UInt8}{is:List (List UInt8)}{gs:List G}{ps:List Pr}{iv gv pv:Value}{pcs:List Value}(h:MS w rb nm is gs ps iv gv pv pcs) (hk:∀ b,rb<=b->b<w.heap.size->w'.heap[b]?=w.heap[b]?):MS w' rb nm is gs ps iv gv pv pcs :=
 ⟨(hk rb zn (zi h.blk)).trans h.blk,h.im.mono (fun b hb hl=>⟨hk b (by omega) hl,hb⟩),zF h.gl (fun b h1 h2 _=>hk b (by omega) h2),zF h.pl (fun b h1 h2 _=>hk b (by omega) h2),h.ne,RepP.mono (fun b hb hl=>⟨hk b (by omega) hl,hb⟩) _ _ h.rp⟩
theorem MS.ext {w w':World}{rb pb:Nat}{nm:List UInt8}{is:List (List UInt8)}{gs:List G}{ps:List Pr}{iv gv pv:Value}{pcs:List Value}(h:MS w rb nm is gs ps iv gv pv pcs) (k:Ext pb w w') (hp:pb<rb):MS w' rb nm is gs ps iv gv pv pcs :=
 h.mono (fun b h1 h2=>k.block b h2 (by omega))
theorem MS.below {w w':World}{rb:Nat}{nm:List UInt8}{is:List (List UInt8)}{gs:List G}{ps:List Pr}{iv gv pv:Value}{pcs:List Value}(h:MS w rb nm is gs ps iv gv pv pcs) (k:Below w.heap.size w w'):MS w' rb nm is gs ps iv gv pv pcs :=
 h.mono (fun b _ h2=>k.block b h2)
theorem MS.addG {w w5:World}{rb:Nat}{nm:List UInt8}{is:List (List UInt8)}{gs:List G}{iv gv gv':Value}{g:G}(h:MS w rb nm is gs [] iv gv (.slice none 0 0) [])
  (hown:w5.ownsRow (rb+1) 118 4 gv' (gs.length+1) (gcs gs++(gcells (bs g.name) (g.pos:Int) (g.len:Int) g.seen).toList)) (hgrow:w.grownBy w5 gv.ownBlock) (hw:∀ b,gv'.ownBlock=some b->gv.ownBlock=some b\/w.heap.size<=b) :
  MS (w5.setCell ⟨rb,2,none⟩ gv') rb nm is (gs++[g]) [] iv gv' (.slice none 0 0) []:=by
 have hrl:=zi h.blk
 have hr:gv.ownBlock≠some rb:=fun e=>by have:=zL h.gl rb e;omega
 have hb5:w5.heap[rb]?=w.heap[rb]?:=hgrow.block rb hrl (fun e=>hr e.symm)
 have hset:=zw 2 gv' (hb5.trans h.blk)
 have hx:∀ b,b≠rb->(w5.setCell ⟨rb,2,none⟩ gv').heap[b]?=w5.heap[b]?:=fun b hb=>Below.heap_setCell _ _ _ _ (by simpa using hb)
 refine⟨hset,?_,?_,World.ownsRow_nil _ _ _ _,fun b hb e=>(by cases e),rfl⟩
 ·refine h.im.mono (fun b hb hl=>⟨(hx b (by omega)).trans (hgrow.block b hl (fun e=>hb.2.1 e.symm)),hb.1,fun e=>?_,hb.2.2⟩)
  rcases hw b e with q|q
  ·exact hb.2.1 q
  ·omega
 ·rw[gcs_app,List.length_append]
  have:gcs [g]=(gcells (bs g.name) (g.pos:Int) (g.len:Int) g.seen).toList:=by simp[gcs]
  rw[this]
  exact zF hown (fun b h1 _ _=>hx b (by omega))
theorem MS.addP {w w5:World}{rb:Nat}{nm:List UInt8}{is:List (List UInt8)}{gs:List G}{ps:List Pr}{iv gv pv pv':Value}{pcs:List Value}{c:Pr}{us:List Value}(h:MS w rb nm is gs ps iv gv pv pcs)
  (hc:RepP w (fun b=>rb<b/\gv.ownBlock≠some b/\pv.ownBlock≠some b) [c] us)
  (hown:w5.ownsRow (rb+1) 79 6 pv' (ps.length+1) (pcs++us)) (hgrow:w.grownBy w5 pv.ownBlock) (hw:∀ b,pv'.ownBlock=some b->pv.ownBlock=some b\/w.heap.size<=b) :
  MS (w5.setCell ⟨rb,3,none⟩ pv') rb nm is gs (ps++[c]) iv gv pv' (pcs++us):=by
 have hrl:=zi h.blk
 have hr:pv.ownBlock≠some rb:=fun e=>by have:=zL h.pl rb e;omega
 have hb5:w5.heap[rb]?=w.heap[rb]?:=hgrow.block rb hrl (fun e=>hr e.symm)
 have hset:=zw 3 pv' (hb5.trans h.blk)
 have hx:∀ b,b≠rb->(w5.setCell ⟨rb,3,none⟩ pv').heap[b]?=w5.heap[b]?:=fun b hb=>Below.heap_setCell _ _ _ _ (by simpa using hb)
 have hD:∀ b,(rb<b/\gv.ownBlock≠some b/\pv.ownBlock≠some b)->b<w.heap.size->(w5.setCell ⟨rb,3,none⟩ pv').heap[b]?=w.heap[b]?/\(rb<b/\gv.ownBlock≠some b/\pv'.ownBlock≠some b):=fun b hb hl =>
  ⟨(hx b (by omega)).trans (hgrow.block b hl (fun e=>hb.2.2 e.symm)),hb.1,hb.2.1,fun e=>by
   rcases hw b e with q|q
   ·exact hb.2.2 q
   ·omega⟩
 refine⟨hset,h.im.mono hD,?_,?_,fun b hb e=>?_,RepP.app _ _ _ _ (RepP.mono hD _ _ h.rp) (RepP.mono hD _ _ hc)⟩
 ·exact zF h.gl (fun b h1 h2 h3=>(hx b (by omega)).trans (hgrow.block b h2 (fun e=>h.ne b h3 e.symm)))
 ·rw[List.length_append]
  exact zF hown (fun b h1 _ _=>hx b (by omega))
 ·rcases hw b e with q|q
  ·exact h.ne b hb q
  ·have:=(h.gl.lt b hb).2;omega
def VM (B:Nat) (m:Tp.M) (v:Value) (w:World):Prop:=∃(ia ga pa ba:Option Addr) (ic gc pc bc:Nat) (pcs bcs:List Value),
 v=.agg (mcells (bs m.name) (.slice ia m.imports.length ic) (.slice ga m.vars.length gc) (.slice pa m.procs.length pc) (.slice ba m.body.length bc)) /\
 Row w (fun b=>B<=b) 9 1 (.slice ia m.imports.length ic) m.imports.length (strs m.imports)/\Row w (fun b=>B<=b) 118 4 (.slice ga m.vars.length gc) m.vars.length (gcs m.vars) /\
 RepP w (fun b=>B<=b) m.procs pcs/\Row w (fun b=>B<=b) 79 6 (.slice pa m.procs.length pc) m.procs.length pcs/\RepS w (fun b=>B<=b) m.body bcs/\OwnS w (fun b=>B<=b) (.slice ba m.body.length bc) m.body.length bcs
theorem Row.shape {w:World}{D:Nat->Prop}{e size:Nat}{v:Value}{n:Nat}{cs:List Value}(h:Row w D e size v n cs):∃ a c,v=.slice a n c:=by
 rcases h with⟨rfl,rfl,_⟩|⟨g,cap,cur,rfl,_⟩
 ·exact⟨none,0,rfl⟩
 ·exact⟨_,_,rfl⟩
theorem OwnS.shape {w:World}{D:Nat->Prop}{v:Value}{n:Nat}{cs:List Value}(h:OwnS w D v n cs):∃ a c,v=.slice a n c:=by
 rcases h with⟨rfl,rfl⟩|⟨g,cap,cur,rfl,_⟩
 ·exact⟨none,0,rfl⟩
 ·exact⟨_,_,rfl⟩
end Go.Proofs.YtmocelfkmdpogaaGreatDoor
