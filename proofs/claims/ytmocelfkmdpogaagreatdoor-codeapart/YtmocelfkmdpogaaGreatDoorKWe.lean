import Derived.Test.YtmocelfkmdpogaaGreatDoorKWd
set_option maxRecDepth 100000
set_option maxHeartbeats 4000000
namespace Go.Proofs.YtmocelfkmdpogaaGreatDoor
open Go.RowKit
open Tp (Tok hd tx at' stp X S)
theorem VX.inv {w:World}{B bb:Nat}{x:List X}(h:VX B x (.pointer (some ⟨bb,0,none⟩)) w) :
  ∃(code pos n:Nat) (mod name op:List UInt8) (left right args:List X) (la:Option Addr) (rv av:Value),x=[⟨code,pos,n,mod,name,op,left,right,args⟩]/\B<=bb /\
   w.heap[bb]?=some (.cells (xcells code pos n (bs mod) (bs name) (bs op) (.pointer la) rv av) 90 (0,0))/\VP B left (.pointer la) w:=by
 unfold VX at h
 cases x with
 | nil=>rw[RepL]at h;simp at h
 | cons x xs =>
  obtain⟨code,pos,nn,mod,name,op,left,right,args⟩:=x
  rw[RepL]at h
  obtain⟨b,av,ls,rs,gs,vs',h1,h2,h3,h4,h5,h6,h7,h8,h9,h10⟩:=h
  simp only [List.cons.injEq,Value.pointer.injEq,Option.some.injEq,Addr.mk.injEq,and_true]at h1
  obtain⟨rfl,rfl⟩:=h1
  have hxs:xs=[]:=List.eq_nil_of_length_eq_zero (by rw[<-RepL.len _ _ h10];rfl)
  subst hxs
  have hp:VP B left (ls.headD (.pointer none)) w:=⟨ls,rfl,h4,h5⟩
  obtain⟨la,hla⟩:=hp.ptr
  rw[hla]at h3 hp
  exact⟨code,pos,nn,mod,name,op,left,right,args,la,_,av,rfl,h2,h3,hp⟩
structure Plainly (r:List Tok):Prop where
 a:tx r≠Tp.wReturn
 b:tx r≠Tp.wWrite
 c:tx r≠Tp.wWhile
 d:tx r≠Tp.wIf
theorem VX.d {B:Nat}{D:Nat->Prop}{l:List X}{v:Value}{w:World}(h:VX B l v w) (e:∀ i,B<=i->D i):VPd D l v w:=⟨[v],rfl,RepL.mono (fun i hi _=>⟨rfl,e i hi⟩) _ _ _ zn h,by simp⟩
theorem blk_set7 {w:World}{b:Nat}{c0 c1 c2 c3 c4 c5 c6:Value}{t:TypeId}(h:w.heap[b]?=some (.cells #[c0,c1,c2,c3,c4,c5,c6] t (0,0))) (v0 v1 v2 v3 v4 v5 v6:Value) :
  (((((((w.setCell ⟨b,0,none⟩ v0).setCell ⟨b,1,none⟩ v1).setCell ⟨b,2,none⟩ v2).setCell ⟨b,3,none⟩ v3).setCell ⟨b,4,none⟩ v4).setCell ⟨b,5,none⟩ v5).setCell ⟨b,6,none⟩ v6).heap[b]?=some (.cells #[v0,v1,v2,v3,v4,v5,v6] t (0,0)) :=
 by simpa using zw 6 v6 (zw 5 v5 (zw 4 v4 (zw 3 v3 (zw 2 v2 (zw 1 v1 (zw 0 v0 h))))))
theorem sx2_bad {f b:Nat}{r:List Tok}{er:Tp.Er}(k:Plainly r) (h:Tp.ex f 6 0 0 [] r=.error er):Tp.sx (f+1) 2 b r=.error er:=by
 rw[Tp.sx];simp only [show ¬(2=0) by omega,show ¬(2=1) by omega,if_false,if_true,k.a,k.b,k.c,k.d,or_self,h,bind,Except.bind]
theorem sx2_call {f b:Nat}{r r1:List Tok}{x:List X}(k:Plainly r) (h:Tp.ex f 6 0 0 [] r=.ok (x,r1)) (hc:Tp.codeOf x=6) :
  Tp.sx (f+1) 2 b r=(do let r2 <- Tp.want Tp.mSemi r1;.ok ([⟨6,at' r,[],[],x,[],[]⟩],r2)):=by
 rw[Tp.sx];simp only [show ¬(2=0) by omega,show ¬(2=1) by omega,if_false,if_true,k.a,k.b,k.c,k.d,or_self,h,hc,bind,Except.bind]
theorem sx2_far {f b:Nat}{r r1:List Tok}{x:List X}(k:Plainly r) (h:Tp.ex f 6 0 0 [] r=.ok (x,r1)) (hc:Tp.codeOf x≠6) (hm:Tp.modOf x≠[]) :
  Tp.sx (f+1) 2 b r=.error (3,at' r1):=by
 rw[Tp.sx];simp only [show ¬(2=0) by omega,show ¬(2=1) by omega,if_false,if_true,k.a,k.b,k.c,k.d,or_self,h,hc,hm,bind,Except.bind]
theorem sx2_set {f b:Nat}{r r1:List Tok}{x:List X}(k:Plainly r) (h:Tp.ex f 6 0 0 [] r=.ok (x,r1)) (hc:Tp.codeOf x≠6) (hm:Tp.modOf x=[]) :
  Tp.sx (f+1) 2 b r=(do let r2 <- Tp.want Tp.mSet r1;let (y,r3) <- Tp.ex f 0 0 0 [] r2;let r4 <- Tp.want Tp.mSemi r3;.ok ([⟨1,at' r,Tp.nameOf x,Tp.leftOf x,y,[],[]⟩],r4)):=by
 rw[Tp.sx];simp only [show ¬(2=0) by omega,show ¬(2=1) by omega,if_false,if_true,k.a,k.b,k.c,k.d,or_self,h,hc,hm,bind,Except.bind]
theorem expr_er {p:Ps}{ts:List Tok}{f:Nat}(hL:Hid (LevelC p ts f)) {w:World}{r:List Tok}{o b:Nat}{er:Tp.Er}(h:St w p ts r o b) (ho:o<=11) (hr:Hid (Tp.ex f 0 o 0 [] r=.error er)) (hne:Hid (er≠(99,0))) :
  Calls Tryz.prog 187 #[.pointer (some ⟨p.pb,0,none⟩)] w fun e w'=>Thrown w.heap.size er e w'/\Ext p.pb w w':=by
 have:=yG hL.out h ho (by rw[hr.out];intro e;exact hne.out (by injection e))
 rw[hr.out]at this
 exact this
theorem expr_ok {p:Ps}{ts:List Tok}{f:Nat}(hL:Hid (LevelC p ts f)) {w:World}{r r1:List Tok}{o b:Nat}{x:List X}(h:St w p ts r o b) (ho:o<=11) (hr:Hid (Tp.ex f 0 o 0 [] r=.ok (x,r1))) :
  Calls Tryz.prog 187 #[.pointer (some ⟨p.pb,0,none⟩)] w fun e w'=>∃ bb,e=.returned (.pointer (some ⟨bb,0,none⟩))/\VX w.heap.size x (.pointer (some ⟨bb,0,none⟩)) w'/\St w' p ts r1 o b/\Ext p.pb w w':=by
 have:=yG hL.out h ho (by rw[hr.out];intro e;cases e)
 rw[hr.out]at this
 refine this.mono ?_
 intro e w' hq
 obtain⟨v,h1,h2,h3⟩:=hq
 obtain⟨bb,rfl⟩:=h2.ptr
 exact⟨bb,h1,h2,h3⟩
theorem xq {p:Ps}{ts:List Tok}{f:Nat}(hL:LevelC p ts f) (hM:NamedC p ts f) {w:World}{r:List Tok}{b:Nat}(h:St w p ts r 0 b) (hk:Plainly r) (hn:Tp.sx (f+1) 2 b r≠.error (99,0)) :
  Calls Tryz.prog 149 #[.pointer (some ⟨p.pb,0,none⟩)] w fun e w'=>Post p ts 0 b w (VS w.heap.size) (Tp.sx (f+1) 2 b r) e w':=by
 have hpl:=zc h.c0
 have hn0:Tp.ex f 6 0 0 [] r≠.error (99,0):=fun e=>hn (sx2_bad hk e)
 have hcall:=fun W (hW:St W p ts r 0 b)=>hM W r 0 b hW (by omega) hn0
 have HN:Hid (Tp.sx (f+1) 2 b r≠.error (99,0)):=hn
 have HL:Hid (LevelC p ts f):=hL
 have HK:Hid (Plainly r):=hk
 generalize hres:Tp.ex f 6 0 0 [] r=res at hcall
 have HR:Hid (Tp.ex f 6 0 0 [] r=res):=hres
 have HC:Hid (∀ W,St W p ts r 0 b->Calls Tryz.prog 188 #[.pointer (some ⟨p.pb,0,none⟩)] W fun e w'=>Post p ts 0 b W (VX W.heap.size) res e w'):=hcall
 clear hcall hn hn0 hL hM hk hres
 go_enter Tryz.func149,Tryz.ntmps149
 go_wp2_with fail
 have hba:∀ ob,Below w.heap.size w (w.alloc ob):=fun ob=>zb _ _
 refine(zK (h.below (hba _))).mono ?_
 rintro e w1 ⟨rfl,hb1⟩
 have hst1:=(h.below (hba _)).below hb1
 have hrb1:w1.heap[w.heap.size]?=some (.cells (scells 0 0 ⟨#[]⟩ (.pointer none) (.pointer none) (.slice none 0 0) (.slice none 0 0)) 139 (0,0)):=(hb1.block _ (by simp)).trans (zk _ _)
 have hext1:Ext p.pb w w1:=(Ext.below (hba _)).trans (Ext.below hb1)
 have hsz1:=zi hrb1
 clear hba hb1
 go_wp2_with fail
 refine(HC.out _ hst1).mono ?_
 intro e w2 hq
 rcases res with er|⟨x,r1⟩
 ·obtain⟨ht,hx2⟩:=hq
  obtain⟨ab,h1,rfl,h2,h3⟩:=ht.out
  go_wp2_with fail
  refine⟨rfl,?_⟩
  rw[sx2_bad HK.out HR.out]
  exact zt hext1 ht hx2
 ·obtain⟨v,rfl,hv,hst2,hx2⟩:=hq
  obtain⟨bb,rfl⟩:=hv.ptr
  obtain⟨code,pos,n,mod,name,op,left,right,args,la,rv,av,hxe,hbb,hblk,hleft⟩:=hv.inv
  have hrb2:=(hx2.block w.heap.size hsz1 (by omega)).trans hrb1
  have hext2:=hext1.trans hx2
  obtain⟨rb,hrb⟩:∃ rb,rb=w.heap.size:=⟨_,rfl⟩
  rw[<-hrb]at hrb2 hsz1 ⊢
  have hv2:VX (rb+1) x (.pointer (some ⟨bb,0,none⟩)) w2:=hv.base (by omega)
  have hle2:VP (rb+1) left (.pointer la) w2:=hleft.base (by omega)
  have hps:p.pb<rb:=by omega
  have hrw:w.heap.size<=rb:=by omega
  have hrbb:rb<bb:=by omega
  clear hv hleft hx2 hext1 hrb1 hst1 hsz1 hrb hbb
  have k0:w2.cell? ⟨bb,0,none⟩=some (.int .i64 (code:Int)):=za hblk
  have k3:w2.cell? ⟨bb,3,none⟩=some (.string (bs mod)):=za hblk
  by_cases hc6:code=6
  ·have hc':((code:Int) == 6)=true:=by simp;omega
   have HSP:Hid (Tp.sx (f+1) 2 b r=(do let r2 <- Tp.want Tp.mSemi r1;.ok ([⟨6,at' r,[],[],x,[],[]⟩],r2))):=sx2_call HK.out HR.out (by rw[hxe];exact hc6)
   clear hc6 hxe
   go_wp2_with fail
   clear k0 k3
   by_cases hse:tx r1=Tp.mSemi
   ·refine(zD hst2 Tp.mSemi _ rfl hse).mono ?_
    rintro e w3 ⟨rfl,hst3,hx3⟩
    have HS:Hid (Tp.want Tp.mSemi r1=.ok (stp r1)):=by unfold Hid Tp.want;rw[if_pos hse]
    have hrb3:=(hx3.block rb (zi hrb2) (by omega)).trans hrb2
    have hv3:=VX.ext hx3 (by omega) hv2
    have hext3:=hext2.trans hx3
    clear hse hst2 hx3 hrb2 hv2 hle2 hext2 hblk
    have kr:∀ i,w3.cell? ⟨rb,i,none⟩=(scells 0 0 ⟨#[]⟩ (.pointer none) (.pointer none) (.slice none 0 0) (.slice none 0 0))[i]?:=fun i=>za hrb3
    have zr:∀ i,w3.frozen? ⟨rb,i,none⟩=false:=fun i=>zg hrb3
    simp only [scells]at kr
    go_wp2_with fail
    refine bodyPost_ret (v:=.agg (scells (6:Nat) (at' r) (bs []) (.pointer none) (.pointer (some ⟨bb,0,none⟩)) (.slice none 0 0) (.slice none 0 0))) (by simp[results,Tryz.results149,go_sem,kr,scells,bs,at']) rfl ?_
    rw[HSP.out]
    simp only [bind,Except.bind,HS.out]
    refine⟨_,rfl,VS.node (Or.inl ⟨rfl,rfl⟩) (Or.inr ?_) (Or.inl ⟨rfl,rfl⟩) (Or.inl ⟨rfl,rfl⟩),?_,?_⟩
    ·exact VX.base (VX.ext (b:=rb) (yq w3 rb _ _ _ _ _ _ _) (by omega) hv3) (by omega)
    ·exact hst3.belowB (zN w3 rb _ _ _ _ _ _ _) (by omega)
    ·exact hext3.trans' ((zN w3 rb _ _ _ _ _ _ _).mono hrw)
   ·refine(zO hst2 Tp.mSemi _ rfl hse).mono ?_
    rintro e w3 ⟨ht,hx3⟩
    have HS:Hid (Tp.want Tp.mSemi r1=.error (3,at' r1)):=by unfold Hid Tp.want;rw[if_neg hse]
    clear hse
    obtain⟨ab,h1,rfl,h2,h3⟩:=ht.out
    go_wp2_with fail
    refine⟨rfl,?_⟩
    rw[HSP.out]
    simp only [bind,Except.bind,HS.out]
    exact zt hext2 ht hx3
  ·have hc':((code:Int) == 6)=false:=by simp;omega
   have hc7:Tp.codeOf x≠6:=by rw[hxe];exact hc6
   by_cases hmo:mod=[]
   ·have hmd:(!(bs mod).toList.isEmpty)=false:=by rw[zy,hmo];rfl
    have HSP:Hid (Tp.sx (f+1) 2 b r=(do let r2 <- Tp.want Tp.mSet r1;let (y,r3) <- Tp.ex f 0 0 0 [] r2;let r4 <- Tp.want Tp.mSemi r3;.ok ([⟨1,at' r,name,left,y,[],[]⟩],r4))):=by
     have q:=sx2_set (b:=b) HK.out HR.out hc7 (by rw[hxe];exact hmo)
     rw[hxe]at q
     exact q
    clear hc6 hc7 hxe hmo
    go_wp2_with fail
    clear k0 k3 hmd hc'
    by_cases hse:tx r1=Tp.mSet
    ·refine(zD hst2 Tp.mSet _ rfl hse).mono ?_
     rintro e w3 ⟨rfl,hst3,hx3⟩
     have HS:Hid (Tp.want Tp.mSet r1=.ok (stp r1)):=by unfold Hid Tp.want;rw[if_pos hse]
     have hrb3:=(hx3.block rb (zi hrb2) (by omega)).trans hrb2
     have hblk3:=(hx3.block bb (zi hblk) (by omega)).trans hblk
     have hle3:=hle2.ext hx3 (by omega)
     have hext3:=hext2.trans hx3
     clear hse hst2 hx3 hrb2 hv2 hle2 hext2 hblk
     have y1:w3.cell? ⟨bb,4,none⟩=some (.string (bs name)):=za hblk3
     have y2:w3.cell? ⟨bb,6,none⟩=some (.pointer la):=za hblk3
     have HS2:Hid (St w3.drew p ts (stp r1) 0 b):=hst3.below (zu _)
     have HEXT:Hid (Ext p.pb w w3.drew):=hext3.trans (Ext.below (zu _))
     have hlb3:=zi hblk3
     rcases hres2:Tp.ex f 0 0 0 [] (stp r1) with er|⟨y,r3⟩
     ·have HR2:Hid (Tp.ex f 0 0 0 [] (stp r1)=.error er):=hres2
      have HER:Hid (er≠(99,0)):=by intro e;apply HN.out;rw[HSP.out];simp only [bind,Except.bind,HS.out,HR2.out,e]
      clear hres2
      have HS3:Hid (∀ ob,St (w3.alloc ob).drew p ts (stp r1) 0 b):=fun ob=>hst3.below (zb _ _).drew
      have HX3:Hid (∀ ob,Ext p.pb w (w3.alloc ob).drew):=fun ob=>hext3.trans (Ext.below (zb _ _).drew)
      go_wp2_with fail
      go_region_dies
      all_goals first
       | (refine(expr_er HL HS2.out (by omega) HR2 HER).mono ?_;intro e w4 hq;obtain⟨ab,h1,h0,h2,h3⟩:=hq.1.out;subst h0;refine⟨rfl,?_⟩;rw[HSP.out];simp only [bind,Except.bind,HS.out,HR2.out];exact zt HEXT.out hq.1 hq.2)
       | (refine(expr_er HL (HS3.out _) (by omega) HR2 HER).mono ?_;intro e w4 hq;obtain⟨ab,h1,h0,h2,h3⟩:=hq.1.out;subst h0;refine⟨rfl,?_⟩;rw[HSP.out];simp only [bind,Except.bind,HS.out,HR2.out];exact zt (HX3.out _) hq.1 hq.2)
     ·have HR2:Hid (Tp.ex f 0 0 0 [] (stp r1)=.ok (y,r3)):=hres2
      have HS3:Hid (∀ ob,St (w3.alloc ob).drew p ts (stp r1) 0 b):=fun ob=>hst3.below (zb _ _).drew
      have HX3:Hid (∀ ob,Ext p.pb w (w3.alloc ob).drew):=fun ob=>hext3.trans (Ext.below (zb _ _).drew)
      clear hres2
      go_upto_region 9 with fail
      go_cut [5] (fun s5 wc=>∃(sb vb:Nat),s5=.pointer (some ⟨sb,0,none⟩)/\rb<sb/\St wc p ts r3 0 b/\Ext p.pb w wc /\
       wc.heap[rb]?=some (.cells (scells 0 0 ⟨#[]⟩ (.pointer none) (.pointer none) (.slice none 0 0) (.slice none 0 0)) 139 (0,0)) /\
       wc.heap[sb]?=some (.cells (scells 1 (at' r) (bs name) (.pointer la) (.pointer (some ⟨vb,0,none⟩)) (.slice none 0 0) (.slice none 0 0)) 139 (0,0)) /\
       VPd (fun i=>rb+1<=i/\i≠sb) left (.pointer la) wc/\VPd (fun i=>rb+1<=i/\i≠sb) y (.pointer (some ⟨vb,0,none⟩)) wc)
      case first =>
       go_region_held3 (fun w'=>w'.cell? ⟨bb,4,none⟩=some (.string (bs name))/\w'.cell? ⟨bb,6,none⟩=some (.pointer la)) (first|(constructor <;> simp[z1,z2,hlb4,go_sem])|(constructor <;> simp[y1,y2,hlb3,go_sem])) ((go_at_call 187;first|(refine(expr_ok HL HS2.out (by omega) HR2).mono ?_;rintro e w4 ⟨vb,rfl,hv,hst4,hx4⟩;have z1:w4.cell? ⟨bb,4,none⟩=some (.string (bs name)):=hx4.cell (by simpa using y1) (by simp;omega);have z2:w4.cell? ⟨bb,6,none⟩=some (.pointer la):=hx4.cell (by simpa using y2) (by simp;omega);have hlb4:=zc z1)|(refine(expr_ok HL (HS3.out _) (by omega) HR2).mono ?_;rintro e w4 ⟨vb,rfl,hv,hst4,hx4⟩;have z1:w4.cell? ⟨bb,4,none⟩=some (.string (bs name)):=hx4.cell (zV y1 _) (by simp;omega);have z2:w4.cell? ⟨bb,6,none⟩=some (.pointer la):=hx4.cell (zV y2 _) (by simp;omega);have hlb4:=zc z1;have hz4:w4.heap[w3.heap.size]?=some (.cells #[.int .i64 0,.int .i64 0,.string ⟨#[]⟩,.pointer none,.pointer none,.slice none 0 0,.slice none 0 0] 139 (0,0)):=(hx4.block _ (by simp) (by omega)).trans (zk _ _);have kz:∀ i,w4.cell? ⟨w3.heap.size,i,none⟩=(#[.int .i64 0,.int .i64 0,.string ⟨#[]⟩,.pointer none,.pointer none,.slice none 0 0,.slice none 0 0]:Array Value)[i]?:=fun i=>za hz4;have zz:∀ i,w4.frozen? ⟨w3.heap.size,i,none⟩=false:=fun i=>zg hz4)))
       ·go_wp2_with fail
        go_meet
        case rel =>
         have hsz4:=hx4.size
         have hsz4:w3.heap.size<=w4.heap.size:=hx4.size
         have hlr:=zi hrb3
         have hal:Below w4.heap.size w4 (w4.alloc (.cells #[.int .i64 1,.int .i64 ((hd r).pos:Int),.string (bs name),.pointer la,.pointer (some ⟨vb,0,none⟩),.slice none 0 0,.slice none 0 0] 139)):=zb _ _
         refine⟨w4.heap.size,vb,rfl,by omega,hst4.below hal,(HEXT.out.trans hx4).trans (Ext.below hal),(hal.block rb (by omega)).trans ((hx4.block rb hlr (by omega)).trans hrb3),zk _ _,?_,?_⟩
         ·exact VPd.mono (w:=w3) (D:=fun i=>rb+1<=i) (fun i hi hl=>⟨(hal.block i (by omega)).trans (hx4.block i hl (by omega)),hi,by omega⟩) (hle3.d rfl)
         ·refine VPd.mono (D:=fun i=>w3.heap.size<=i) (fun i hi hl=>⟨hal.block i hl,by omega,by omega⟩) (VX.d hv (fun i hi=>hi))
       ·go_wp2_with fail
        go_meet
        case rel =>
         have hsz4:=hx4.size
         simp at hsz4
         have hlr:=zi hrb3
         have hxS:=yq w4 w3.heap.size (.int .i64 1) (.int .i64 ((hd r).pos:Int)) (.string (bs name)) (.pointer la) (.pointer (some ⟨vb,0,none⟩)) (.slice none 0 0) (.slice none 0 0)
         have hbS:=zN w4 w3.heap.size (.int .i64 1) (.int .i64 ((hd r).pos:Int)) (.string (bs name)) (.pointer la) (.pointer (some ⟨vb,0,none⟩)) (.slice none 0 0) (.slice none 0 0)
         refine⟨w3.heap.size,vb,rfl,hlr,hst4.belowB hbS (by omega),((HX3.out _).trans hx4).trans' (hbS.mono (by omega)),(hbS.block rb hlr).trans ((hx4.block rb (by simp;omega) (by omega)).trans ((Below.heap_alloc w3 _ rb hlr).trans hrb3)),blk_set7 hz4 _ _ _ _ _ _ _,?_,?_⟩
         ·exact VPd.mono (w:=w3) (D:=fun i=>rb+1<=i) (fun i hi hl=>⟨(hbS.block i hl).trans ((hx4.block i (by simp;omega) (by omega)).trans (Below.heap_alloc w3 _ i hl)),hi,by omega⟩) (hle3.d rfl)
         ·exact VPd.mono (D:=fun i=>w3.heap.size+1<=i) (fun i hi hl=>⟨hxS.block i hl (by omega),by omega,by omega⟩) (VX.d hv (fun i hi=>by simpa using hi))
      case rest =>
       obtain⟨sb,vb,rfl,hrs,hst5,hext5,hrb5,hsb5,hdl,hdy⟩:=hcut
       clear y1 y2 hst3 hext3 hrb3 hblk3 hle3 HS2 HEXT HS3 HX3 hlb3
       go_wp2_with fail
       by_cases hsm:tx r3=Tp.mSemi
       ·refine(zD hst5 Tp.mSemi _ rfl hsm).mono ?_
        rintro e w6 ⟨rfl,hst6,hx6⟩
        have HM:Hid (Tp.want Tp.mSemi r3=.ok (stp r3)):=by unfold Hid Tp.want;rw[if_pos hsm]
        have hsb6:=(hx6.block sb (zi hsb5) (by omega)).trans hsb5
        have hrb6:=(hx6.block rb (zi hrb5) (by omega)).trans hrb5
        have hext6:=hext5.trans hx6
        have hdl6:=hdl.ext hx6 (by omega)
        have hdy6:=hdy.ext hx6 (by omega)
        clear hsm hst5 hx6 hsb5 hrb5 hext5 hdl hdy
        have ks:∀ i,w6.cell? ⟨sb,i,none⟩=(scells 1 (at' r) (bs name) (.pointer la) (.pointer (some ⟨vb,0,none⟩)) (.slice none 0 0) (.slice none 0 0))[i]?:=fun i=>za hsb6
        have kr:∀ i,w6.cell? ⟨rb,i,none⟩=(scells 0 0 ⟨#[]⟩ (.pointer none) (.pointer none) (.slice none 0 0) (.slice none 0 0))[i]?:=fun i=>za hrb6
        have zr:∀ i,w6.frozen? ⟨rb,i,none⟩=false:=fun i=>zg hrb6
        simp only [scells]at ks kr
        go_wp2_with fail
        refine bodyPost_ret (v:=.agg (scells (1:Nat) (at' r) (bs name) (.pointer la) (.pointer (some ⟨vb,0,none⟩)) (.slice none 0 0) (.slice none 0 0))) (by simp[results,Tryz.results149,go_sem,kr,scells]) rfl ?_
        rw[HSP.out]
        simp only [bind,Except.bind,HS.out,HR2.out,HM.out]
        have hxr:=yq w6 rb (.int .i64 1) (.int .i64 (at' r:Int)) (.string (bs name)) (.pointer la) (.pointer (some ⟨vb,0,none⟩)) (.slice none 0 0) (.slice none 0 0)
        have hbr:=zN w6 rb (.int .i64 1) (.int .i64 (at' r:Int)) (.string (bs name)) (.pointer la) (.pointer (some ⟨vb,0,none⟩)) (.slice none 0 0) (.slice none 0 0)
        refine⟨_,rfl,VS.mk' ?_ ?_ (VO.nil _ _) (VO.nil _ _),?_,?_⟩
        ·exact(hdl6.ext hxr (by omega)).p (fun i hi=>by omega)
        ·exact(hdy6.ext hxr (by omega)).p (fun i hi=>by omega)
        ·exact hst6.belowB hbr (by omega)
        ·exact hext6.trans' (hbr.mono hrw)
       ·refine(zO hst5 Tp.mSemi _ rfl hsm).mono ?_
        rintro e w6 ⟨ht,hx6⟩
        have HM:Hid (Tp.want Tp.mSemi r3=.error (3,at' r3)):=by unfold Hid Tp.want;rw[if_neg hsm]
        clear hsm
        obtain⟨ab,h1,rfl,h2,h3⟩:=ht.out
        go_wp2_with fail
        refine⟨rfl,?_⟩
        rw[HSP.out]
        simp only [bind,Except.bind,HS.out,HR2.out,HM.out]
        exact zt hext5 ht hx6
    ·refine(zO hst2 Tp.mSet _ rfl hse).mono ?_
     rintro e w3 ⟨ht,hx3⟩
     have HS:Hid (Tp.want Tp.mSet r1=.error (3,at' r1)):=by unfold Hid Tp.want;rw[if_neg hse]
     clear hse
     obtain⟨ab,h1,rfl,h2,h3⟩:=ht.out
     go_wp2_with fail
     refine⟨rfl,?_⟩
     rw[HSP.out]
     simp only [bind,Except.bind,HS.out]
     exact zt hext2 ht hx3
   ·have hmd:(!(bs mod).toList.isEmpty)=true:=by rw[zy];cases mod with|nil=>exact absurd rfl hmo|cons _ _=>rfl
    have HSP:Hid (Tp.sx (f+1) 2 b r=.error (3,at' r1)):=sx2_far HK.out HR.out hc7 (by rw[hxe];exact hmo)
    clear hc6 hc7 hxe hmo
    go_wp2_with fail
    clear k0 k3 hmd hc'
    refine(zX hst2 3).mono ?_
    rintro e w3 ⟨ht,hb3⟩
    obtain⟨ab,h1,rfl,h2,h3⟩:=ht.out
    go_wp2_with fail
    refine⟨rfl,?_⟩
    rw[HSP.out]
    exact zt hext2 ht (Ext.below hb3)
def closedS (r:List Tok):Except Tp.Er (Unit× List Tok):=do let r2 <- Tp.want Tp.wEnd r;let r3 <- Tp.want Tp.mSemi r2;.ok ((),r3)
theorem x7 {f b:Nat}{r:List Tok}(h:tx r=Tp.wReturn):Tp.sx (f+1) 2 b r=(do let (x,r1) <- Tp.ex f 0 0 0 [] (stp r);let r2 <- Tp.want Tp.mSemi r1;.ok ([⟨4,at' r,[],[],x,[],[]⟩],r2)):=by
 rw[Tp.sx];simp only [show ¬(2=0) by omega,show ¬(2=1) by omega,if_false,if_true,h,true_or]
theorem vR {f b:Nat}{r:List Tok}(h:tx r=Tp.wWrite):Tp.sx (f+1) 2 b r=(do let (x,r1) <- Tp.ex f 0 0 0 [] (stp r);let r2 <- Tp.want Tp.mSemi r1;.ok ([⟨5,at' r,[],[],x,[],[]⟩],r2)):=by
 rw[Tp.sx];simp only [show ¬(2=0) by omega,show ¬(2=1) by omega,if_false,if_true,h,or_true,show ¬(Tp.wWrite=Tp.wReturn) by decide]
theorem vS {f b:Nat}{r:List Tok}(h:tx r=Tp.wWhile):Tp.sx (f+1) 2 b r=(do let (s,r3) <- blockS f 3 b Tp.wDo r;let (_,r5) <- closedS r3;.ok (s,r5)):=by
 rw[Tp.sx];simp only [show ¬(2=0) by omega,show ¬(2=1) by omega,if_false,if_true,h,show ¬(Tp.wWhile=Tp.wReturn\/Tp.wWhile=Tp.wWrite) by decide]
 unfold blockS closedS
 simp only [bind,Except.bind]
 cases Tp.ex f 0 0 0 [] (stp r) with
 | error e=>rfl
 | ok v =>
  simp only
  cases Tp.want Tp.wDo v.2 with
  | error e=>rfl
  | ok r2 =>
   simp only
   cases Tp.sx f 0 (b+1) r2 with
   | error e=>rfl
   | ok u =>
    simp only
    cases Tp.want Tp.wEnd u.2 with
    | error e=>rfl
    | ok r4 =>
     simp only
     cases Tp.want Tp.mSemi r4 <;> rfl
theorem sx2_if {f b:Nat}{r:List Tok}(h:tx r=Tp.wIf):Tp.sx (f+1) 2 b r=(do let (s,r3) <- Tp.sx f 3 b r;let (_,r5) <- closedS r3;.ok (s,r5)):=by
 rw[Tp.sx];simp only [show ¬(2=0) by omega,show ¬(2=1) by omega,if_false,if_true,h,show ¬(Tp.wIf=Tp.wReturn\/Tp.wIf=Tp.wWrite) by decide,show ¬(Tp.wIf=Tp.wWhile) by decide]
 unfold closedS
 simp only [bind,Except.bind]
 cases Tp.sx f 3 b r with
 | error e=>rfl
 | ok v =>
  simp only
  cases Tp.want Tp.wEnd v.2 with
  | error e=>rfl
  | ok r4 =>
   simp only
   cases Tp.want Tp.mSemi r4 <;> rfl
theorem qk {p:Ps}{ts:List Tok}{f:Nat}(hL:LevelC p ts f) {w:World}{r:List Tok}{b:Nat}(h:St w p ts r 0 b) (ht:tx r=Tp.wReturn) (hn:Tp.sx (f+1) 2 b r≠.error (99,0)) :
  Calls Tryz.prog 96 #[.pointer (some ⟨p.pb,0,none⟩)] w fun e w'=>Post p ts 0 b w (VS w.heap.size) (Tp.sx (f+1) 2 b r) e w':=by
 have hn0:Tp.ex f 0 0 0 [] (stp r)≠.error (99,0):=by intro e;apply hn;rw[x7 ht,e];rfl
 have hcall:=fun W (hW:St W p ts r 0 b)=>jB hL hW 4 hn0
 rw[<-x7 (b:=b) ht]at hcall
 generalize hres:Tp.sx (f+1) 2 b r=res at hcall
 have HR:Hid (Tp.sx (f+1) 2 b r=res):=hres
 have HC:Hid (∀ W,St W p ts r 0 b->Calls Tryz.prog 145 #[.pointer (some ⟨p.pb,0,none⟩),.int .i64 4] W fun e w'=>Post p ts 0 b W (VS W.heap.size) res e w'):=hcall
 clear hcall hn hn0 hL hres
 have hpl:=zc h.c0
 have hop:=zy (hd r).text
 have t_return:((hd r).text == [114,101,116,117,114,110])=true:=by rw[beq_iff_eq];exact ht
 go_enter Tryz.func96,Tryz.ntmps96
 go_wp2_with fail
 have hba:∀ ob,Below w.heap.size w (w.alloc ob):=fun ob=>zb _ _
 refine(zK (h.below (hba _))).mono ?_
 rintro e w1 ⟨rfl,hb1⟩
 have hst1:=(h.below (hba _)).below hb1
 have hrb1:w1.heap[w.heap.size]?=some (.cells (scells 0 0 ⟨#[]⟩ (.pointer none) (.pointer none) (.slice none 0 0) (.slice none 0 0)) 139 (0,0)):=(hb1.block _ (by simp)).trans (zk _ _)
 have hext1:Ext p.pb w w1:=(Ext.below (hba _)).trans (Ext.below hb1)
 have hsz1:=zi hrb1
 clear hba hb1
 go_wp2_with fail
 clear hop t_return
 refine(HC.out _ hst1).mono ?_
 intro e w2 hq
 rcases res with er|⟨s,r3⟩
 ·obtain⟨ht2,hx2⟩:=hq
  obtain⟨ab,h1,rfl,h2,h3⟩:=ht2.out
  go_wp2_with fail
  exact⟨rfl,zt hext1 ht2 hx2⟩
 ·obtain⟨v,rfl,hv,hstf,hx2⟩:=hq
  obtain⟨rb,hrb⟩:∃ rb,rb=w.heap.size:=⟨_,rfl⟩
  rw[<-hrb]at hrb1 hsz1 ⊢
  have hrw:w.heap.size<=rb:=by omega
  have hps:p.pb<rb:=by omega
  clear hrb
  have hrbf:=(hx2.block rb hsz1 (by omega)).trans hrb1
  have hextf:=hext1.trans hx2
  obtain⟨vc,vp,vn,ia,va,ta,ea,tn,tc,en,ec,hvv,hvr⟩:=hv
  subst hvv
  have kr:∀ i,w2.cell? ⟨rb,i,none⟩=(scells 0 0 ⟨#[]⟩ (.pointer none) (.pointer none) (.slice none 0 0) (.slice none 0 0))[i]?:=fun i=>za hrbf
  have zr:∀ i,w2.frozen? ⟨rb,i,none⟩=false:=fun i=>zg hrbf
  simp only [scells]at kr
  simp only [scells]
  go_wp2_with fail
  refine bodyPost_ret (v:=.agg (scells vc vp (bs vn) (.pointer ia) (.pointer va) (.slice ta tn tc) (.slice ea en ec))) (by simp[results,Tryz.results96,go_sem,kr,scells]) rfl ?_
  have hxr:=yq w2 rb (.int .i64 (vc:Int)) (.int .i64 (vp:Int)) (.string (bs vn)) (.pointer ia) (.pointer va) (.slice ta tn tc) (.slice ea en ec)
  have hbr:=zN w2 rb (.int .i64 (vc:Int)) (.int .i64 (vp:Int)) (.string (bs vn)) (.pointer ia) (.pointer va) (.slice ta tn tc) (.slice ea en ec)
  exact⟨_,rfl,VS.base (VS.ext hxr (by omega) ⟨vc,vp,vn,ia,va,ta,ea,tn,tc,en,ec,rfl,hvr⟩) (by omega),hstf.belowB hbr (by omega),hextf.trans' (hbr.mono (by omega))⟩
theorem stmt_write {p:Ps}{ts:List Tok}{f:Nat}(hL:LevelC p ts f) {w:World}{r:List Tok}{b:Nat}(h:St w p ts r 0 b) (ht:tx r=Tp.wWrite) (hn:Tp.sx (f+1) 2 b r≠.error (99,0)) :
  Calls Tryz.prog 96 #[.pointer (some ⟨p.pb,0,none⟩)] w fun e w'=>Post p ts 0 b w (VS w.heap.size) (Tp.sx (f+1) 2 b r) e w':=by
 have hn0:Tp.ex f 0 0 0 [] (stp r)≠.error (99,0):=by intro e;apply hn;rw[vR ht,e];rfl
 have hcall:=fun W (hW:St W p ts r 0 b)=>jB hL hW 5 hn0
 rw[<-vR (b:=b) ht]at hcall
 generalize hres:Tp.sx (f+1) 2 b r=res at hcall
 have HR:Hid (Tp.sx (f+1) 2 b r=res):=hres
 have HC:Hid (∀ W,St W p ts r 0 b->Calls Tryz.prog 145 #[.pointer (some ⟨p.pb,0,none⟩),.int .i64 5] W fun e w'=>Post p ts 0 b W (VS W.heap.size) res e w'):=hcall
 clear hcall hn hn0 hL hres
 have hpl:=zc h.c0
 have hop:=zy (hd r).text
 have t_return:((hd r).text == [114,101,116,117,114,110])=false:=by rw[beq_eq_false_iff_ne];have:=ht;unfold tx at this;rw[this];decide
 have t_write:((hd r).text == [119,114,105,116,101])=true:=by rw[beq_iff_eq];exact ht
 go_enter Tryz.func96,Tryz.ntmps96
 go_wp2_with fail
 have hba:∀ ob,Below w.heap.size w (w.alloc ob):=fun ob=>zb _ _
 refine(zK (h.below (hba _))).mono ?_
 rintro e w1 ⟨rfl,hb1⟩
 have hst1:=(h.below (hba _)).below hb1
 have hrb1:w1.heap[w.heap.size]?=some (.cells (scells 0 0 ⟨#[]⟩ (.pointer none) (.pointer none) (.slice none 0 0) (.slice none 0 0)) 139 (0,0)):=(hb1.block _ (by simp)).trans (zk _ _)
 have hext1:Ext p.pb w w1:=(Ext.below (hba _)).trans (Ext.below hb1)
 have hsz1:=zi hrb1
 clear hba hb1
 go_wp2_with fail
 clear hop t_return t_write
 refine(HC.out _ hst1).mono ?_
 intro e w2 hq
 rcases res with er|⟨s,r3⟩
 ·obtain⟨ht2,hx2⟩:=hq
  obtain⟨ab,h1,rfl,h2,h3⟩:=ht2.out
  go_wp2_with fail
  exact⟨rfl,zt hext1 ht2 hx2⟩
 ·obtain⟨v,rfl,hv,hstf,hx2⟩:=hq
  obtain⟨rb,hrb⟩:∃ rb,rb=w.heap.size:=⟨_,rfl⟩
  rw[<-hrb]at hrb1 hsz1 ⊢
  have hrw:w.heap.size<=rb:=by omega
  have hps:p.pb<rb:=by omega
  clear hrb
  have hrbf:=(hx2.block rb hsz1 (by omega)).trans hrb1
  have hextf:=hext1.trans hx2
  obtain⟨vc,vp,vn,ia,va,ta,ea,tn,tc,en,ec,hvv,hvr⟩:=hv
  subst hvv
  have kr:∀ i,w2.cell? ⟨rb,i,none⟩=(scells 0 0 ⟨#[]⟩ (.pointer none) (.pointer none) (.slice none 0 0) (.slice none 0 0))[i]?:=fun i=>za hrbf
  have zr:∀ i,w2.frozen? ⟨rb,i,none⟩=false:=fun i=>zg hrbf
  simp only [scells]at kr
  simp only [scells]
  go_wp2_with fail
  refine bodyPost_ret (v:=.agg (scells vc vp (bs vn) (.pointer ia) (.pointer va) (.slice ta tn tc) (.slice ea en ec))) (by simp[results,Tryz.results96,go_sem,kr,scells]) rfl ?_
  have hxr:=yq w2 rb (.int .i64 (vc:Int)) (.int .i64 (vp:Int)) (.string (bs vn)) (.pointer ia) (.pointer va) (.slice ta tn tc) (.slice ea en ec)
  have hbr:=zN w2 rb (.int .i64 (vc:Int)) (.int .i64 (vp:Int)) (.string (bs vn)) (.pointer ia) (.pointer va) (.slice ta tn tc) (.slice ea en ec)
  exact⟨_,rfl,VS.base (VS.ext hxr (by omega) ⟨vc,vp,vn,ia,va,ta,ea,tn,tc,en,ec,rfl,hvr⟩) (by omega),hstf.belowB hbr (by omega),hextf.trans' (hbr.mono (by omega))⟩
theorem stmt_plain {p:Ps}{ts:List Tok}{f:Nat}(hL:LevelC p ts f) (hM:NamedC p ts f) {w:World}{r:List Tok}{b:Nat}(h:St w p ts r 0 b) (hk:Plainly r) (hn:Tp.sx (f+1) 2 b r≠.error (99,0)) :
  Calls Tryz.prog 96 #[.pointer (some ⟨p.pb,0,none⟩)] w fun e w'=>Post p ts 0 b w (VS w.heap.size) (Tp.sx (f+1) 2 b r) e w':=by
 have hcall:=fun W (hW:St W p ts r 0 b)=>xq hL hM hW hk hn
 generalize hres:Tp.sx (f+1) 2 b r=res at hcall
 have HR:Hid (Tp.sx (f+1) 2 b r=res):=hres
 have HC:Hid (∀ W,St W p ts r 0 b->Calls Tryz.prog 149 #[.pointer (some ⟨p.pb,0,none⟩)] W fun e w'=>Post p ts 0 b W (VS W.heap.size) res e w'):=hcall
 clear hcall hn hL hM hres
 have hpl:=zc h.c0
 have hop:=zy (hd r).text
 have t_return:((hd r).text == [114,101,116,117,114,110])=false:=by rw[beq_eq_false_iff_ne];exact hk.a
 have t_write:((hd r).text == [119,114,105,116,101])=false:=by rw[beq_eq_false_iff_ne];exact hk.b
 have t_while:((hd r).text == [119,104,105,108,101])=false:=by rw[beq_eq_false_iff_ne];exact hk.c
 have t_if:((hd r).text == [105,102])=false:=by rw[beq_eq_false_iff_ne];exact hk.d
 go_enter Tryz.func96,Tryz.ntmps96
 go_wp2_with fail
 have hba:∀ ob,Below w.heap.size w (w.alloc ob):=fun ob=>zb _ _
 refine(zK (h.below (hba _))).mono ?_
 rintro e w1 ⟨rfl,hb1⟩
 have hst1:=(h.below (hba _)).below hb1
 have hrb1:w1.heap[w.heap.size]?=some (.cells (scells 0 0 ⟨#[]⟩ (.pointer none) (.pointer none) (.slice none 0 0) (.slice none 0 0)) 139 (0,0)):=(hb1.block _ (by simp)).trans (zk _ _)
 have hext1:Ext p.pb w w1:=(Ext.below (hba _)).trans (Ext.below hb1)
 have hsz1:=zi hrb1
 clear hba hb1
 go_wp2_with fail
 clear hop t_return t_write t_while t_if
 refine(HC.out _ hst1).mono ?_
 intro e w2 hq
 rcases res with er|⟨s,r3⟩
 ·obtain⟨ht2,hx2⟩:=hq
  obtain⟨ab,h1,rfl,h2,h3⟩:=ht2.out
  go_wp2_with fail
  exact⟨rfl,zt hext1 ht2 hx2⟩
 ·obtain⟨v,rfl,hv,hstf,hx2⟩:=hq
  obtain⟨rb,hrb⟩:∃ rb,rb=w.heap.size:=⟨_,rfl⟩
  rw[<-hrb]at hrb1 hsz1 ⊢
  have hrw:w.heap.size<=rb:=by omega
  have hps:p.pb<rb:=by omega
  clear hrb
  have hrbf:=(hx2.block rb hsz1 (by omega)).trans hrb1
  have hextf:=hext1.trans hx2
  obtain⟨vc,vp,vn,ia,va,ta,ea,tn,tc,en,ec,hvv,hvr⟩:=hv
  subst hvv
  have kr:∀ i,w2.cell? ⟨rb,i,none⟩=(scells 0 0 ⟨#[]⟩ (.pointer none) (.pointer none) (.slice none 0 0) (.slice none 0 0))[i]?:=fun i=>za hrbf
  have zr:∀ i,w2.frozen? ⟨rb,i,none⟩=false:=fun i=>zg hrbf
  simp only [scells]at kr
  simp only [scells]
  go_wp2_with fail
  refine bodyPost_ret (v:=.agg (scells vc vp (bs vn) (.pointer ia) (.pointer va) (.slice ta tn tc) (.slice ea en ec))) (by simp[results,Tryz.results96,go_sem,kr,scells]) rfl ?_
  have hxr:=yq w2 rb (.int .i64 (vc:Int)) (.int .i64 (vp:Int)) (.string (bs vn)) (.pointer ia) (.pointer va) (.slice ta tn tc) (.slice ea en ec)
  have hbr:=zN w2 rb (.int .i64 (vc:Int)) (.int .i64 (vp:Int)) (.string (bs vn)) (.pointer ia) (.pointer va) (.slice ta tn tc) (.slice ea en ec)
  exact⟨_,rfl,VS.base (VS.ext hxr (by omega) ⟨vc,vp,vn,ia,va,ta,ea,tn,tc,en,ec,rfl,hvr⟩) (by omega),hstf.belowB hbr (by omega),hextf.trans' (hbr.mono (by omega))⟩
theorem stmt_while {p:Ps}{ts:List Tok}{f:Nat}(hL:LevelC p ts f) (hS:StmtsC p ts f) {w:World}{r:List Tok}{b:Nat}(h:St w p ts r 0 b) (hb:b<=10) (ht:tx r=Tp.wWhile) (hn:Tp.sx (f+1) 2 b r≠.error (99,0)) :
  Calls Tryz.prog 96 #[.pointer (some ⟨p.pb,0,none⟩)] w fun e w'=>Post p ts 0 b w (VS w.heap.size) (Tp.sx (f+1) 2 b r) e w':=by
 have hn0:blockS f 3 b Tp.wDo r≠.error (99,0):=by intro e;apply hn;rw[vS ht,e];rfl
 have hcall:=fun W (hW:St W p ts r 0 b)=>xR hL hS hW hb 3 Tp.wDo (bs Tp.wDo) rfl hn0
 generalize hres:blockS f 3 b Tp.wDo r=res at hcall
 have HR:Hid (blockS f 3 b Tp.wDo r=res):=hres
 have HSP:Hid (Tp.sx (f+1) 2 b r=(do let (s,r3) <- blockS f 3 b Tp.wDo r;let (_,r5) <- closedS r3;.ok (s,r5))):=vS ht
 have HC:Hid (∀ W,St W p ts r 0 b->Calls Tryz.prog 147 #[.pointer (some ⟨p.pb,0,none⟩),.int .i64 3,.string ⟨#[100,111]⟩] W fun e w'=>Post p ts 0 b W (VS W.heap.size) res e w'):=hcall
 clear hcall hn hn0 hL hS hres
 have hpl:=zc h.c0
 have hop:=zy (hd r).text
 have t_return:((hd r).text == [114,101,116,117,114,110])=false:=by rw[beq_eq_false_iff_ne];have:=ht;unfold tx at this;rw[this];decide
 have t_write:((hd r).text == [119,114,105,116,101])=false:=by rw[beq_eq_false_iff_ne];have:=ht;unfold tx at this;rw[this];decide
 have t_while:((hd r).text == [119,104,105,108,101])=true:=by rw[beq_iff_eq];exact ht
 go_enter Tryz.func96,Tryz.ntmps96
 go_wp2_with fail
 have hba:∀ ob,Below w.heap.size w (w.alloc ob):=fun ob=>zb _ _
 refine(zK (h.below (hba _))).mono ?_
 rintro e w1 ⟨rfl,hb1⟩
 have hst1:=(h.below (hba _)).below hb1
 have hrb1:w1.heap[w.heap.size]?=some (.cells (scells 0 0 ⟨#[]⟩ (.pointer none) (.pointer none) (.slice none 0 0) (.slice none 0 0)) 139 (0,0)):=(hb1.block _ (by simp)).trans (zk _ _)
 have hext1:Ext p.pb w w1:=(Ext.below (hba _)).trans (Ext.below hb1)
 have hsz1:=zi hrb1
 clear hba hb1
 go_wp2_with fail
 clear hop t_return t_write t_while
 refine(HC.out _ hst1).mono ?_
 intro e w2 hq
 rcases res with er|⟨s,r3⟩
 ·obtain⟨ht2,hx2⟩:=hq
  obtain⟨ab,h1,rfl,h2,h3⟩:=ht2.out
  go_wp2_with fail
  refine⟨rfl,?_⟩
  rw[HSP.out,HR.out]
  exact zt hext1 ht2 hx2
 ·obtain⟨v,rfl,hv2,hst2,hx2⟩:=hq
  obtain⟨rb,hrb⟩:∃ rb,rb=w.heap.size:=⟨_,rfl⟩
  rw[<-hrb]at hrb1 hsz1 ⊢
  have hrw:w.heap.size<=rb:=by omega
  have hps:p.pb<rb:=by omega
  clear hrb
  have hrb2:=(hx2.block rb hsz1 (by omega)).trans hrb1
  have hext2:=hext1.trans hx2
  obtain⟨uc,up,un,xia,xva,xta,xea,xtn,xtc,xen,xec,huv,hur⟩:=hv2
  subst huv
  have hcl:=jZ hst2 uc up (bs un) xia xva xta xea xtn xtc xen xec
  rw[show (do let r2 <- Tp.want Tp.wEnd r3;let r3 <- Tp.want Tp.mSemi r2;.ok ((),r3):Except Tp.Er (Unit× List Tok))=closedS r3 from rfl]at hcl
  generalize hres2:closedS r3=res2 at hcl
  have HR2:Hid (closedS r3=res2):=hres2
  have HCL:Hid (Calls Tryz.prog 146 #[.pointer (some ⟨p.pb,0,none⟩),.agg (scells uc up (bs un) (.pointer xia) (.pointer xva) (.slice xta xtn xtc) (.slice xea xen xec))] w2 fun e w'=>Post p ts 0 b w2 (fun (_:Unit) v _=>v=.agg (scells uc up (bs un) (.pointer xia) (.pointer xva) (.slice xta xtn xtc) (.slice xea xen xec))) res2 e w'):=hcl
  clear hcl hres2 hst2
  go_wp2_with fail
  refine HCL.out.mono ?_
  intro e w3 hq
  rcases res2 with er|⟨u,r5⟩
  ·obtain⟨ht2,hx3⟩:=hq
   obtain⟨ab,h1,rfl,h2,h3⟩:=ht2.out
   go_wp2_with fail
   refine⟨rfl,?_⟩
   rw[HSP.out,HR.out]
   simp only [bind,Except.bind,HR2.out]
   exact zt hext2 ht2 hx3
  ·obtain⟨v,rfl,rfl,hstf,hx3⟩:=hq
   have hrbf:=(hx3.block rb (zi hrb2) (by omega)).trans hrb2
   have hextf:=hext2.trans hx3
   have hv:VS w1.heap.size s (.agg (scells uc up (bs un) (.pointer xia) (.pointer xva) (.slice xta xtn xtc) (.slice xea xen xec))) w3:=VS.ext hx3 (by omega) ⟨uc,up,un,xia,xva,xta,xea,xtn,xtc,xen,xec,rfl,hur⟩
   clear hur
   generalize Value.agg (scells (uc:Int) (up:Int) (bs un) (.pointer xia) (.pointer xva) (.slice xta xtn xtc) (.slice xea xen xec))=vv at hv ⊢
   obtain⟨vc,vp,vn,ia,va,ta,ea,tn,tc,en,ec,hvv,hvr⟩:=hv
   subst hvv
   have kr:∀ i,w3.cell? ⟨rb,i,none⟩=(scells 0 0 ⟨#[]⟩ (.pointer none) (.pointer none) (.slice none 0 0) (.slice none 0 0))[i]?:=fun i=>za hrbf
   have zr:∀ i,w3.frozen? ⟨rb,i,none⟩=false:=fun i=>zg hrbf
   simp only [scells]at kr
   simp only [scells]
   go_wp2_with fail
   refine bodyPost_ret (v:=.agg (scells vc vp (bs vn) (.pointer ia) (.pointer va) (.slice ta tn tc) (.slice ea en ec))) (by simp[results,Tryz.results96,go_sem,kr,scells]) rfl ?_
   rw[HSP.out,HR.out]
   simp only [bind,Except.bind,HR2.out]
   have hxr:=yq w3 rb (.int .i64 (vc:Int)) (.int .i64 (vp:Int)) (.string (bs vn)) (.pointer ia) (.pointer va) (.slice ta tn tc) (.slice ea en ec)
   have hbr:=zN w3 rb (.int .i64 (vc:Int)) (.int .i64 (vp:Int)) (.string (bs vn)) (.pointer ia) (.pointer va) (.slice ta tn tc) (.slice ea en ec)
   exact⟨_,rfl,VS.base (VS.ext hxr (by omega) ⟨vc,vp,vn,ia,va,ta,ea,tn,tc,en,ec,rfl,hvr⟩) (by omega),hstf.belowB hbr (by omega),hextf.trans' (hbr.mono (by omega))⟩
theorem stmt_if {p:Ps}{ts:List Tok}{f:Nat}(hB:BranchC p ts f) {w:World}{r:List Tok}{b:Nat}(h:St w p ts r 0 b) (hb:b<=10) (ht:tx r=Tp.wIf) (hn:Tp.sx (f+1) 2 b r≠.error (99,0)) :
  Calls Tryz.prog 96 #[.pointer (some ⟨p.pb,0,none⟩)] w fun e w'=>Post p ts 0 b w (VS w.heap.size) (Tp.sx (f+1) 2 b r) e w':=by
 have hn0:Tp.sx f 3 b r≠.error (99,0):=by intro e;apply hn;rw[sx2_if ht,e];rfl
 have hcall:=fun W (hW:St W p ts r 0 b)=>hB W r b hW hb hn0
 generalize hres:Tp.sx f 3 b r=res at hcall
 have HR:Hid (Tp.sx f 3 b r=res):=hres
 have HSP:Hid (Tp.sx (f+1) 2 b r=(do let (s,r3) <- Tp.sx f 3 b r;let (_,r5) <- closedS r3;.ok (s,r5))):=sx2_if ht
 have HC:Hid (∀ W,St W p ts r 0 b->Calls Tryz.prog 148 #[.pointer (some ⟨p.pb,0,none⟩)] W fun e w'=>Post p ts 0 b W (VS W.heap.size) res e w'):=hcall
 clear hcall hn hn0 hB hres
 have hpl:=zc h.c0
 have hop:=zy (hd r).text
 have t_return:((hd r).text == [114,101,116,117,114,110])=false:=by rw[beq_eq_false_iff_ne];have:=ht;unfold tx at this;rw[this];decide
 have t_write:((hd r).text == [119,114,105,116,101])=false:=by rw[beq_eq_false_iff_ne];have:=ht;unfold tx at this;rw[this];decide
 have t_while:((hd r).text == [119,104,105,108,101])=false:=by rw[beq_eq_false_iff_ne];have:=ht;unfold tx at this;rw[this];decide
 have t_if:((hd r).text == [105,102])=true:=by rw[beq_iff_eq];exact ht
 go_enter Tryz.func96,Tryz.ntmps96
 go_wp2_with fail
 have hba:∀ ob,Below w.heap.size w (w.alloc ob):=fun ob=>zb _ _
 refine(zK (h.below (hba _))).mono ?_
 rintro e w1 ⟨rfl,hb1⟩
 have hst1:=(h.below (hba _)).below hb1
 have hrb1:w1.heap[w.heap.size]?=some (.cells (scells 0 0 ⟨#[]⟩ (.pointer none) (.pointer none) (.slice none 0 0) (.slice none 0 0)) 139 (0,0)):=(hb1.block _ (by simp)).trans (zk _ _)
 have hext1:Ext p.pb w w1:=(Ext.below (hba _)).trans (Ext.below hb1)
 have hsz1:=zi hrb1
 clear hba hb1
 go_wp2_with fail
 clear hop t_return t_write t_while t_if
 refine(HC.out _ hst1).mono ?_
 intro e w2 hq
 rcases res with er|⟨s,r3⟩
 ·obtain⟨ht2,hx2⟩:=hq
  obtain⟨ab,h1,rfl,h2,h3⟩:=ht2.out
  go_wp2_with fail
  refine⟨rfl,?_⟩
  rw[HSP.out,HR.out]
  exact zt hext1 ht2 hx2
 ·obtain⟨v,rfl,hv2,hst2,hx2⟩:=hq
  obtain⟨rb,hrb⟩:∃ rb,rb=w.heap.size:=⟨_,rfl⟩
  rw[<-hrb]at hrb1 hsz1 ⊢
  have hrw:w.heap.size<=rb:=by omega
  have hps:p.pb<rb:=by omega
  clear hrb
  have hrb2:=(hx2.block rb hsz1 (by omega)).trans hrb1
  have hext2:=hext1.trans hx2
  obtain⟨uc,up,un,xia,xva,xta,xea,xtn,xtc,xen,xec,huv,hur⟩:=hv2
  subst huv
  have hcl:=jZ hst2 uc up (bs un) xia xva xta xea xtn xtc xen xec
  rw[show (do let r2 <- Tp.want Tp.wEnd r3;let r3 <- Tp.want Tp.mSemi r2;.ok ((),r3):Except Tp.Er (Unit× List Tok))=closedS r3 from rfl]at hcl
  generalize hres2:closedS r3=res2 at hcl
  have HR2:Hid (closedS r3=res2):=hres2
  have HCL:Hid (Calls Tryz.prog 146 #[.pointer (some ⟨p.pb,0,none⟩),.agg (scells uc up (bs un) (.pointer xia) (.pointer xva) (.slice xta xtn xtc) (.slice xea xen xec))] w2 fun e w'=>Post p ts 0 b w2 (fun (_:Unit) v _=>v=.agg (scells uc up (bs un) (.pointer xia) (.pointer xva) (.slice xta xtn xtc) (.slice xea xen xec))) res2 e w'):=hcl
  clear hcl hres2 hst2
  go_wp2_with fail
  refine HCL.out.mono ?_
  intro e w3 hq
  rcases res2 with er|⟨u,r5⟩
  ·obtain⟨ht2,hx3⟩:=hq
   obtain⟨ab,h1,rfl,h2,h3⟩:=ht2.out
   go_wp2_with fail
   refine⟨rfl,?_⟩
   rw[HSP.out,HR.out]
   simp only [bind,Except.bind,HR2.out]
   exact zt hext2 ht2 hx3
  ·obtain⟨v,rfl,rfl,hstf,hx3⟩:=hq
   have hrbf:=(hx3.block rb (zi hrb2) (by omega)).trans hrb2
   have hextf:=hext2.trans hx3
   have hv:VS w1.heap.size s (.agg (scells uc up (bs un) (.pointer xia) (.pointer xva) (.slice xta xtn xtc) (.slice xea xen xec))) w3:=VS.ext hx3 (by omega) ⟨uc,up,un,xia,xva,xta,xea,xtn,xtc,xen,xec,rfl,hur⟩
   clear hur
   generalize Value.agg (scells (uc:Int) (up:Int) (bs un) (.pointer xia) (.pointer xva) (.slice xta xtn xtc) (.slice xea xen xec))=vv at hv ⊢
   obtain⟨vc,vp,vn,ia,va,ta,ea,tn,tc,en,ec,hvv,hvr⟩:=hv
   subst hvv
   have kr:∀ i,w3.cell? ⟨rb,i,none⟩=(scells 0 0 ⟨#[]⟩ (.pointer none) (.pointer none) (.slice none 0 0) (.slice none 0 0))[i]?:=fun i=>za hrbf
   have zr:∀ i,w3.frozen? ⟨rb,i,none⟩=false:=fun i=>zg hrbf
   simp only [scells]at kr
   simp only [scells]
   go_wp2_with fail
   refine bodyPost_ret (v:=.agg (scells vc vp (bs vn) (.pointer ia) (.pointer va) (.slice ta tn tc) (.slice ea en ec))) (by simp[results,Tryz.results96,go_sem,kr,scells]) rfl ?_
   rw[HSP.out,HR.out]
   simp only [bind,Except.bind,HR2.out]
   have hxr:=yq w3 rb (.int .i64 (vc:Int)) (.int .i64 (vp:Int)) (.string (bs vn)) (.pointer ia) (.pointer va) (.slice ta tn tc) (.slice ea en ec)
   have hbr:=zN w3 rb (.int .i64 (vc:Int)) (.int .i64 (vp:Int)) (.string (bs vn)) (.pointer ia) (.pointer va) (.slice ta tn tc) (.slice ea en ec)
   exact⟨_,rfl,VS.base (VS.ext hxr (by omega) ⟨vc,vp,vn,ia,va,ta,ea,tn,tc,en,ec,rfl,hvr⟩) (by omega),hstf.belowB hbr (by omega),hextf.trans' (hbr.mono (by omega))⟩
theorem stmt_post {p:Ps}{ts:List Tok}{f:Nat}(hL:LevelC p ts f) (hM:NamedC p ts f) (hS:StmtsC p ts f) (hB:BranchC p ts f):StmtC p ts (f+1):=by
 intro w r b h hb hn
 by_cases h1:tx r=Tp.wReturn
 ·exact qk hL h h1 hn
 ·by_cases h2:tx r=Tp.wWrite
  ·exact stmt_write hL h h2 hn
  ·by_cases h3:tx r=Tp.wWhile
   ·exact stmt_while hL hS h hb h3 hn
   ·by_cases h4:tx r=Tp.wIf
    ·exact stmt_if hB h hb h4 hn
    ·exact stmt_plain hL hM h ⟨h1,h2,h3,h4⟩ hn
end Go.Proofs.YtmocelfkmdpogaaGreatDoor
