import Derived.Test.YthnoedjbhbkdeaaGreatDoorKXe
import Derived.Test.YthnoedjbhbkdeaaGreatDoorKWd
set_option maxRecDepth 100000
set_option maxHeartbeats 4000000
namespace Go.Proofs.YthnoedjbhbkdeaaGreatDoor
open Go.RowKit
open Tp (Tok hd tx at' stp X S)
open Nr (Fl fine Sx tk tkS fl mu nm nu nms nex naft nval nsx rs3 blk)
structure X2 (b c:Nat) (w w':World):Prop where
 os:w'.os=w.os
 tape:w'.tape=w.tape
 output:w'.output=w.output
 size:w.heap.size<=w'.heap.size
 block:∀ k,k<w.heap.size->k≠b->k≠c->w'.heap[k]?=w.heap[k]?
theorem X2.of {b c:Nat}{w w':World}(h:Ext b w w'):X2 b c w w':=⟨h.os,h.tape,h.output,h.size,fun k h1 h2 _=>h.block k h1 h2⟩
theorem X2.ext {b c:Nat}{w w1 w2:World}(h:X2 b c w w1) (k:Ext b w1 w2):X2 b c w w2:=⟨k.os.trans h.os,k.tape.trans h.tape,k.output.trans h.output,Nat.le_trans h.size k.size,fun i hi h1 h2=>(k.block i (Nat.lt_of_lt_of_le hi h.size) h1).trans (h.block i hi h1 h2)⟩
theorem X2.set {b c:Nat}{w w':World}(h:X2 b c w w') (j:Nat) (u:Value):X2 b c w (w'.setCell ⟨c,j,none⟩ u) :=
 ⟨h.os,h.tape,h.output,by simpa using h.size,fun k hk h1 h2=>by rw[Below.heap_setCell _ _ _ _ (by simpa using h2)];exact h.block k hk h1 h2⟩
theorem X2.back {b c:Nat}{w0 w w':World}(h:Ext b w0 w) (k:X2 b c w w') (hc:w0.heap.size<=c):Ext b w0 w' :=
 ⟨k.os.trans h.os,k.tape.trans h.tape,k.output.trans h.output,Nat.le_trans h.size k.size,fun i hi h1=>(k.block i (Nat.lt_of_lt_of_le hi h.size) h1 (by omega)).trans (h.block i hi h1)⟩
theorem X2.far {b c d:Nat}{w0 w w':World}(h:X2 b c w0 w) (k:X2 b d w w') (hd:w0.heap.size<=d):X2 b c w0 w' :=
 ⟨k.os.trans h.os,k.tape.trans h.tape,k.output.trans h.output,Nat.le_trans h.size k.size,fun i hi h1 h2=>(k.block i (Nat.lt_of_lt_of_le hi h.size) h1 (by omega)).trans (h.block i hi h1 h2)⟩
theorem fld2 {w w1:World}{q:Rp}{ts:List Tok}{s:Sx}{sb i:Nat}{v:Value}{cs:Array Value}{t:TypeId}(hst:RX w1 q ts s) (hx:X2 q.rb sb w w1) (hb:w1.heap[sb]?=some (.cells cs t (0,0))) (hq:q.rb<sb) :
  RX (w1.setCell ⟨sb,i,none⟩ v) q ts s/\X2 q.rb sb w (w1.setCell ⟨sb,i,none⟩ v)/\(w1.setCell ⟨sb,i,none⟩ v).heap[sb]?=some (.cells (cs.setIfInBounds i v) t (0,0)) :=
 ⟨hst.belowB (zl (Below.refl _ _) zn i v) hq,hx.set i v,zu i v hb⟩
def KPost (q:Rp) (ts:List Tok) (w:World) (sb a:Nat) (y:List S× Sx) (e:Ending) (w':World):Prop :=
 e=.returned (.tuple #[])/\∃(va ta ea:Option Addr) (tn tc en ec:Nat),w'.heap[sb]?=some (.cells (scells 2 a ⟨#[]⟩ (.pointer none) (.pointer va) (.slice ta tn tc) (.slice ea en ec)) 96 (0,0)) /\
  (y.2.2=fine->VS w.heap.size y.1 (.agg (scells 2 a ⟨#[]⟩ (.pointer none) (.pointer va) (.slice ta tn tc) (.slice ea en ec))) w')/\RX w' q ts y.2/\X2 q.rb sb w w'
def RstR (q:Rp) (ts:List Tok) (g:Nat):Prop:=∀(w:World) (r:List Tok) (deep a sb:Nat) (c0:Int) (y:List S× Sx),RS w q ts r fine->w.heap[sb]?=some (.cells (scells c0 a ⟨#[]⟩ (.pointer none) (.pointer none) (.slice none 0 0) (.slice none 0 0)) 96 (0,0))->q.rb<sb->deep<=10->nsx g 3 deep a [] (r,fine)=some y ->
 Calls Tryz.prog 138 #[.pointer (some ⟨q.rb,0,none⟩),.pointer (some ⟨sb,0,none⟩),.int .i64 (deep:Int)] w fun e w'=>KPost q ts w sb a y e w'
theorem nsx3 {g deep a:Nat}{r:List Tok}{y:List S× Sx}(h:nsx (g+1) 3 deep a [] (r,fine)=some y):∃ x z,nval g (r,fine)=some x/\blk g deep (mu Tp.wThen x.2)=some z/\rs3 g deep a x.1 z.1 z.2=some y:=by
 rw[nsx,if_neg (by omega),if_neg (by omega),if_neg (by omega)]at h
 obtain⟨x,h1,h2⟩:=zx h
 obtain⟨z,h3,h4⟩:=zx h2
 exact⟨x,z,h1,h3,h4⟩
theorem nsx0_deep {g d:Nat}{r:List Tok}{z:List S× Sx}(h:nsx g 0 d 0 [] (r,fine)=some z) (hf:z.2.2=fine):d<=10:=by
 cases g with
 | zero=>cases h
 | succ g =>
  rw[nsx,if_pos rfl]at h
  by_cases hd:10<d
  ·rw[if_pos hd]at h
   have e:fl 4 (r,fine)=(r,((4:Int),(at' r:Int))):=by simp[fl]
   rw[e]at h
   rw[yW h (fun h=>kx _ h.1)]at hf
   exact absurd hf (kx _)
  ·omega
theorem atCells {W:World}{q:Rp}{ts:List Tok}{s:Sx}(h:RX W q ts s):∃(i n c:Nat),W.cell? ⟨q.rb,0,none⟩=some (.slice (some ⟨q.tb,i,none⟩) n c)/\W.cell? ⟨q.tb,i+2,none⟩=some (.int .i64 (at' s.1:Int))/\(0:Int)<n:=by
 obtain⟨h1,h2,h3,h4⟩:=h.hd
 exact⟨(ts.length - s.1.length) * 3,s.1.length,q.cap - (ts.length - s.1.length),h.c0,(h.toks _ _ h1).c2,by omega⟩
theorem VX.move {B:Nat}{l:List X}{v:Value}{w w':World}(h:VX B l v w) (hw:∀ b,B<=b->b<w.heap.size->w'.heap[b]?=w.heap[b]?):VX B l v w':=RepL.mono (fun b hb hl=>⟨hw b hb hl,hb⟩) (SizeOf.sizeOf l) l _ zn h
theorem VO.move {B:Nat}{l:List S}{v:Value}{w w':World}(h:VO B l v w) (hw:∀ b,B<=b->b<w.heap.size->w'.heap[b]?=w.heap[b]?):VO B l v w':=by
 obtain⟨cs,h1,h2⟩:=h
 exact⟨cs,h1.mono' (fun b hb hl=>⟨hw b hb hl,hb⟩),h2.mono (fun b hb hl=>⟨hw b hb hl,hb⟩)⟩
theorem VX.vp {B:Nat}{l:List X}{v:Value}{w:World}(h:VX B l v w):VP B l v w:=⟨[v],rfl,h,by simp⟩
theorem VP.nil (B:Nat) (w:World):VP B [] (.pointer none) w:=⟨[],rfl,by rw[RepL],by simp⟩
theorem rrest_post {q:Rp}{ts:List Tok}{g:Nat}(hS:StsR q ts g) (hK:RstR q ts g):RstR q ts (g+1):=by
 intro w r deep a sb c0 y h hk0 hqs hd hy
 obtain⟨x,z,hx,hz,hyz⟩:=nsx3 hy
 have hpl:=zg h.c0
 have hsl:=zc hk0
 have hdi:(deep:Int)<=10:=by omega
 have HS:Hid (∀ W r' z,RS W q ts r' fine->nsx g 0 (deep+1) 0 [] (r',fine)=some z->Calls Tryz.prog 39 #[.pointer (some ⟨q.rb,0,none⟩),.int .i64 ((deep:Int)+1)] W fun e w'=>SPost q ts W z e w'):=fun W r' z hW hz=>hS W r' (deep+1) z hW (by omega) hz
 have HK:Hid (deep+1<=10->∀ W r' a' sb' c' z,RS W q ts r' fine->W.heap[sb']?=some (.cells (scells c' a' ⟨#[]⟩ (.pointer none) (.pointer none) (.slice none 0 0) (.slice none 0 0)) 96 (0,0))->q.rb<sb'->nsx g 3 (deep+1) a' [] (r',fine)=some z->Calls Tryz.prog 138 #[.pointer (some ⟨q.rb,0,none⟩),.pointer (some ⟨sb',0,none⟩),.int .i64 ((deep:Int)+1)] W fun e w'=>KPost q ts W sb' a' z e w'):=fun hd1 W r' a' sb' c' z hW h1 h2 hz=>hK W r' (deep+1) a' sb' c' z hW h1 h2 hd1 hz
 have HV:=zh (yG (s:=(r,fine)) h g x hx)
 have HZ:=zh hz
 have HY:=zh hyz
 clear hS hK hy hx hz hyz
 go_enter Tryz.func138,Tryz.ntmps138
 go_wp2_with fail
 refine HV.out.mono ?_
 rintro e w1 ⟨p,rfl,hv1,hst1,hx1⟩
 have hk1:w1.heap[sb]?=some (.cells #[.int .i64 c0,.int .i64 (a:Int),.string ⟨#[]⟩,.pointer none,.pointer none,.slice none 0 0,.slice none 0 0] 96 (0,0)):=(hx1.block sb hsl (by omega)).trans hk0
 have c00:w1.cell? ⟨sb,0,none⟩=some (.int .i64 c0):=za hk1
 have c04:w1.cell? ⟨sb,4,none⟩=some (.pointer none):=za hk1
 have z00:w1.frozen? ⟨sb,0,none⟩=false:=zd hk1
 have z04:w1.frozen? ⟨sb,4,none⟩=false:=zd hk1
 obtain⟨hst2a,hx2a,hk2a⟩:=fld2 (i:=0) (v:=.int .i64 2) hst1 (X2.of hx1) hk1 hqs
 obtain⟨hst2,hx2,hk2⟩:=fld2 (i:=4) (v:=.pointer p) hst2a hx2a hk2a hqs
 have hk2:((w1.setCell ⟨sb,0,none⟩ (.int .i64 2)).setCell ⟨sb,4,none⟩ (.pointer p)).heap[sb]?=some (.cells #[.int .i64 2,.int .i64 (a:Int),.string ⟨#[]⟩,.pointer none,.pointer p,.slice none 0 0,.slice none 0 0] 96 (0,0)):=hk2
 have HV2:Hid (x.2.2=fine->VX w.heap.size x.1 (.pointer p) ((w1.setCell ⟨sb,0,none⟩ (.int .i64 2)).setCell ⟨sb,4,none⟩ (.pointer p))):=fun hf=>VX.ext (b:=sb) (((Ext.refl sb w1).set 0 _).set 4 _) hsl (hv1 hf)
 clear hst1 hx1 hk1 hst2a hx2a hk2a hv1 HV h
 go_wp2_with fail
 clear c00 c04 z00 z04
 generalize (w1.setCell ⟨sb,0,none⟩ (.int .i64 2)).setCell ⟨sb,4,none⟩ (.pointer p)=w2 at *
 refine(zH hst2 Tp.wThen (by decide) _ rfl).mono ?_
 rintro e w3 ⟨rfl,hst3,hx3⟩
 have hk3:=(hx3.block sb (zc hk2) (by omega)).trans hk2
 have hx3':=hx2.ext hx3
 have HV3:Hid (x.2.2=fine->VX w.heap.size x.1 (.pointer p) w3):=fun hf=>VX.ext hx3 hpl (HV2.out hf)
 have HMF:Hid ((mu Tp.wThen x.2).2=fine->x.2.2=fine):=fun hf=>zV hf
 clear hst2 hx2 hk2 hx3 HV2
 generalize mu Tp.wThen x.2=s2 at *
 obtain⟨r2,b2⟩:=s2
 have hst3:RS w3 q ts r2 b2:=hst3
 by_cases hf2:b2=fine
 rotate_left
 ·have hzz:z=([],(r2,b2)):=by
   have:=HZ.out
   unfold blk at this
   rw[if_neg hf2]at this
   exact(Option.some.inj this).symm
  have hyy:y=([⟨2,a,[],[],x.1,[],[]⟩],(r2,b2)):=by
   have:=HY.out
   rw[hzz]at this
   unfold rs3 at this
   have t1:∀ m,tk m (r2,b2)=false:=fun m=>decide_eq_false (fun h=>hf2 h.1)
   rw[t1,t1]at this
   exact(Option.some.inj this).symm
  have HT:Hid (∀ m,tk m (r2,b2)=false):=fun m=>decide_eq_false (fun h=>hf2 h.1)
  have HYY:=zh hyy
  have HB:=zh (jI hst3 hf2)
  have HNF:=zh hf2
  clear hzz hyy hf2 HZ HY
  go_wp2_with fail
  refine HB.out.mono ?_
  rintro e w4 ⟨rfl,hb4⟩
  have hst4:RX w4 q ts (r2,b2):=hst3.below hb4
  have hk4:=(hb4.block sb (zc hk3)).trans hk3
  have hx4:=hx3'.ext (Ext.below hb4)
  obtain⟨i,n,c,d0,d2,hn0⟩:=atCells hst4
  have hq4:=zg d0
  clear HB hb4 hst3 hk3 hx3'
  go_wp2_with fail
  clear d0 d2
  refine(zQ hst4 Tp.wElsif (by decide) _ rfl).mono ?_
  rintro e w5 ⟨rfl,hst5,hx5⟩
  rw[HT.out]
  rw[zK (HT.out _)]at hst5
  have hk5:=(hx5.block sb (zc hk4) (by omega)).trans hk4
  have hx5':=hx4.ext hx5
  clear hst4 hk4 hx4 hx5
  go_wp2_with fail
  refine(zQ hst5 Tp.wElse (by decide) _ rfl).mono ?_
  rintro e w6 ⟨rfl,hst6,hx6⟩
  rw[HT.out]
  rw[zK (HT.out _)]at hst6
  have HF:Hid (KPost q ts w sb a y (.returned (.tuple #[])) w6):=by
   rw[HYY.out]
   exact⟨rfl,p,none,none,0,0,0,0,(hx6.block sb (zc hk5) (by omega)).trans hk5,fun hf=>absurd hf HNF.out,hst6,hx5'.ext hx6⟩
  clear hst5 hk5 hx5' hx6 hst6
  go_wp2_with fail
  exact bodyPost_end (results_none rfl _ _ _) rfl HF.out
 ·subst hf2
  have hz:nsx g 0 (deep+1) 0 [] (r2,fine)=some z:=by
   have:=HZ.out
   unfold blk at this
   rw[if_pos rfl]at this
   exact this
  have HXF:Hid (x.2.2=fine):=HMF.out rfl
  have HD1:Hid (z.2.2=fine->deep+1<=10):=fun hf=>nsx0_deep hz hf
  have HC:=zh (fun W hW=>HS.out W r2 z hW hz)
  clear hz HZ
  go_wp2_with fail
  refine(kR hst3).mono ?_
  rintro e w4 ⟨rfl,hb4⟩
  have hst4:RS w4 q ts r2 fine:=hst3.below hb4
  have hk4:=(hb4.block sb (zc hk3)).trans hk3
  have hx4:=hx3'.ext (Ext.below hb4)
  have HV4:=zh (VX.ext (b:=q.rb) (Ext.below hb4) hpl (HV3.out HXF.out))
  have hsz4:=hx4.size
  clear hb4 hst3 hk3 hx3' HV3 HMF HXF
  go_wp2_with fail
  refine(HC.out w4 hst4).mono ?_
  rintro e w5 ⟨ta,tn,tc,rfl,hl5,hst5,hx5⟩
  have hk5:=(hx5.block sb (zc hk4) (by omega)).trans hk4
  have hx5':=hx4.ext hx5
  have HV5:=zh (VX.ext hx5 hpl HV4.out)
  have c05:w5.cell? ⟨sb,5,none⟩=some (.slice none 0 0):=za hk5
  have z05:w5.frozen? ⟨sb,5,none⟩=false:=zd hk5
  obtain⟨hst6,hx6,hk6⟩:=fld2 (i:=5) (v:=.slice ta tn tc) hst5 hx5' hk5 hqs
  have hk6:(w5.setCell ⟨sb,5,none⟩ (.slice ta tn tc)).heap[sb]?=some (.cells #[.int .i64 2,.int .i64 (a:Int),.string ⟨#[]⟩,.pointer none,.pointer p,.slice ta tn tc,.slice none 0 0] 96 (0,0)):=hk6
  have HV6:=zh (VX.ext (b:=sb) ((Ext.refl sb w5).set 5 (.slice ta tn tc)) hsl HV5.out)
  have HL6:Hid (z.2.2=fine->VO w.heap.size z.1 (.slice ta tn tc) (w5.setCell ⟨sb,5,none⟩ (.slice ta tn tc))):=fun hf=>VO.ext (b:=sb) ((Ext.refl sb w5).set 5 _) hsl ((hl5 hf).vo.base hsz4)
  obtain⟨i,n,c,d0,d2,hn0⟩:=atCells hst6
  have hq6:=zg d0
  clear hst4 hk4 hx4 hst5 hx5 hx5' hk5 hl5 HV4 HV5 HC
  go_wp2_with fail
  clear c05 z05 d0 d2
  generalize w5.setCell ⟨sb,5,none⟩ (.slice ta tn tc)=w6 at *
  refine(zQ hst6 Tp.wElsif (by decide) _ rfl).mono ?_
  rintro e w7 ⟨rfl,hst7,hx7⟩
  have hk7:=(hx7.block sb (zc hk6) (by omega)).trans hk6
  have hx7':=hx6.ext hx7
  have HV7:=zh (VX.ext hx7 hpl HV6.out)
  have HL7:Hid (z.2.2=fine->VO w.heap.size z.1 (.slice ta tn tc) w7):=fun hf=>VO.ext hx7 hpl (HL6.out hf)
  have hsz7:=hx7'.size
  have hlt7:=zc hk7
  clear hst6 hx6 hk6 hx7 HV6 HL6
  cases hei:tk Tp.wElsif z.2 with
  | true =>
   obtain⟨hzf,_,htS⟩:=zM hei
   rw[htS]at hst7
   have hst7:RS w7 q ts (stp z.2.1) fine:=hst7
   have hd1:=HD1.out hzf
   have hy2:=HY.out
   unfold rs3 at hy2
   rw[if_pos hei,htS]at hy2
   obtain⟨u,hu,hyu⟩:=zx hy2
   have HYU:Hid (y=([⟨2,a,[],[],x.1,z.1,u.1⟩],u.2)):=(Option.some.inj hyu).symm
   have HZF:=zh hzf
   have b0:Below w7.heap.size w7 (w7.alloc (.cells (scells 0 (at' z.2.1) ⟨#[]⟩ (.pointer none) (.pointer none) (.slice none 0 0) (.slice none 0 0)) 96)):=zb _ _
   have k8:=zq w7 (.cells (scells 0 (at' z.2.1) ⟨#[]⟩ (.pointer none) (.pointer none) (.slice none 0 0) (.slice none 0 0)) 96)
   have hst8:=hst7.below b0
   have HC:=zh (HK.out hd1 _ (stp z.2.1) (at' z.2.1) w7.heap.size 0 u hst8 k8 (by omega) hu)
   have hk8:=(b0.block sb hlt7).trans hk7
   have hx8:=hx7'.ext (Ext.below b0)
   have HV7':=zh HV7.out
   have HL7':=zh (HL7.out hzf)
   have HB0:Hid (∀ i,i<w7.heap.size->(w7.alloc (.cells (scells 0 (at' z.2.1) ⟨#[]⟩ (.pointer none) (.pointer none) (.slice none 0 0) (.slice none 0 0)) 96)).heap[i]?=w7.heap[i]?):=fun i hi=>b0.block i hi
   obtain⟨xb,hxb⟩:∃ xb,xb=w7.heap.size:=⟨_,rfl⟩
   clear hei hzf htS hy2 hu hyu hst7 hk7 hx7' HV7 HL7 hd1 HY HD1
   go_wp2_with fail
   simp only [scells]at HC b0 k8 hk8 hx8 hst8 HB0
   generalize w7.alloc (.cells #[.int .i64 0,.int .i64 (at' z.2.1:Int),.string ⟨#[]⟩,.pointer none,.pointer none,.slice none 0 0,.slice none 0 0] 96)=w8 at *
   have HXB:=zh hxb
   rw[<-hxb]at k8 HC ⊢
   have hwx:w.heap.size<=xb:=by omega
   have hsx:sb<xb:=by omega
   clear b0 hxb
   refine HC.out.mono ?_
   rintro e w9 ⟨rfl,va9,ta9,ea9,tn9,tc9,en9,ec9,hk9x,hv9,hst9,hx9⟩
   have hk9x:w9.heap[xb]?=some (.cells #[.int .i64 2,.int .i64 (at' z.2.1:Int),.string ⟨#[]⟩,.pointer none,.pointer va9,.slice ta9 tn9 tc9,.slice ea9 en9 ec9] 96 (0,0)):=hk9x
   have hk9:=(hx9.block sb (zc hk8) (by omega) (by omega)).trans hk8
   have hx9':=hx8.far hx9 hwx
   have hsz8:=hx8.size
   have hx8l:=zc k8
   have HMV:Hid (∀ b,w.heap.size<=b->b<w7.heap.size->w9.heap[b]?=w7.heap[b]?):=fun b h1 h2=>by
    have:=HXB.out
    exact(hx9.block b (by omega) (by omega) (by omega)).trans (HB0.out b h2)
   have HV9:=zh (VX.move HV7'.out HMV.out)
   have HL9:=zh (VO.move HL7'.out HMV.out)
   have HU9:Hid (u.2.2=fine->VS w.heap.size u.1 (.agg (scells (2:Nat) (at' z.2.1:Nat) (bs []) (.pointer none) (.pointer va9) (.slice ta9 tn9 tc9) (.slice ea9 en9 ec9))) w9):=fun hf=>(hv9 hf).base hsz8
   have hsz9:=hx9'.size
   have e0:w9.cell? ⟨xb,0,none⟩=some (.int .i64 2):=za hk9x
   have e1:w9.cell? ⟨xb,1,none⟩=some (.int .i64 (at' z.2.1:Int)):=za hk9x
   have e2:w9.cell? ⟨xb,2,none⟩=some (.string ⟨#[]⟩):=za hk9x
   have e3:w9.cell? ⟨xb,3,none⟩=some (.pointer none):=za hk9x
   have e4:w9.cell? ⟨xb,4,none⟩=some (.pointer va9):=za hk9x
   have e5:w9.cell? ⟨xb,5,none⟩=some (.slice ta9 tn9 tc9):=za hk9x
   have e6:w9.cell? ⟨xb,6,none⟩=some (.slice ea9 en9 ec9):=za hk9x
   have c06:w9.cell? ⟨sb,6,none⟩=some (.slice none 0 0):=za hk9
   have z06:w9.frozen? ⟨sb,6,none⟩=false:=zd hk9
   have b10:Below w9.heap.size w9 (w9.alloc (.cells (scells (2:Nat) (at' z.2.1:Nat) (bs []) (.pointer none) (.pointer va9) (.slice ta9 tn9 tc9) (.slice ea9 en9 ec9)) 96)):=zb _ _
   have hst10:=hst9.below b10
   have hk10:=(b10.block sb (zc hk9)).trans hk9
   obtain⟨hst11,hx11,hk11⟩:=fld2 (i:=6) (v:=.slice (some ⟨w9.heap.size,0,none⟩) 1 1) hst10 (hx9'.ext (Ext.below b10)) hk10 hqs
   have HF:Hid (KPost q ts w sb a y (.returned (.tuple #[])) ((w9.alloc (.cells (scells (2:Nat) (at' z.2.1:Nat) (bs []) (.pointer none) (.pointer va9) (.slice ta9 tn9 tc9) (.slice ea9 en9 ec9)) 96)).setCell ⟨sb,6,none⟩ (.slice (some ⟨w9.heap.size,0,none⟩) 1 1))):=by
    rw[HYU.out]
    refine⟨rfl,p,ta,some ⟨w9.heap.size,0,none⟩,tn,tc,1,1,hk11,fun hf=>?_,hst11,hx11⟩
    have hmv:∀ b,w.heap.size<=b->b<w9.heap.size->((w9.alloc (.cells (scells (2:Nat) (at' z.2.1:Nat) (bs []) (.pointer none) (.pointer va9) (.slice ta9 tn9 tc9) (.slice ea9 en9 ec9)) 96)).setCell ⟨sb,6,none⟩ (.slice (some ⟨w9.heap.size,0,none⟩) 1 1)).heap[b]?=w9.heap[b]?:=fun b h1 h2=>by
     rw[Below.heap_setCell _ _ _ _ (by simp;omega)]
     exact b10.block b h2
    have hu:=HU9.out hf
    have ho:=VO.one hu hsz9 hu.len1
    exact VS.mk' (name:=[]) (VP.nil _ _) (VX.move HV9.out hmv).vp (VO.move HL9.out hmv) (VO.ext (b:=sb) ((Ext.refl sb _).set 6 _) hsl ho)
   have HF2:Hid (KPost q ts w sb a y (.returned (.tuple #[])) ((w9.alloc (.cells #[.int .i64 2,.int .i64 (at' z.2.1:Int),.string ⟨#[]⟩,.pointer none,.pointer va9,.slice ta9 tn9 tc9,.slice ea9 en9 ec9] 96)).setCell ⟨sb,6,none⟩ (.slice (some ⟨w9.heap.size,0,none⟩) 1 1))):=HF.out
   have hs9l:=zc hk9
   have hx9l:=zc hk9x
   rw[World.setCell_alloc_past _ _ _ _ hs9l]at HF2
   clear hk9x hv9 hst9 hx9 hx9' hst10 hst11 hx11 hk11 hk10 b10 HMV HV9 HL9 HU9 hk9 hk8 hst8 hx8 k8 HC HV7' HL7' HB0 HF
   go_wp2_with fail
   exact bodyPost_end (results_none rfl _ _ _) rfl HF2.out
  | false =>
   rw[zK hei]at hst7
   go_wp2_with fail
   refine(zQ hst7 Tp.wElse (by decide) _ rfl).mono ?_
   rintro e w8 ⟨rfl,hst8,hx8⟩
   have hk8:=(hx8.block sb (zc hk7) (by omega)).trans hk7
   have hx8':=hx7'.ext hx8
   have HV8:=zh (VX.ext hx8 hpl HV7.out)
   have HL8:Hid (z.2.2=fine->VO w.heap.size z.1 (.slice ta tn tc) w8):=fun hf=>VO.ext hx8 hpl (HL7.out hf)
   have hsz8:=hx8'.size
   clear hst7 hk7 hx7' hx8 HV7 HL7
   cases hel:tk Tp.wElse z.2 with
   | false =>
    rw[zK hel]at hst8
    have HYU:Hid (y=([⟨2,a,[],[],x.1,z.1,[]⟩],z.2)):=by
     have:=HY.out
     unfold rs3 at this
     rw[if_neg (by rw[hei];simp),if_neg (by rw[hel];simp)]at this
     exact(Option.some.inj this).symm
    have HF:Hid (KPost q ts w sb a y (.returned (.tuple #[])) w8):=by
     rw[HYU.out]
     exact⟨rfl,p,ta,none,tn,tc,0,0,hk8,fun hf=>VS.mk' (name:=[]) (VP.nil _ _) HV8.out.vp (HL8.out hf) (VO.nil _ _),hst8,hx8'⟩
    clear hk8 hst8 hx8' hei hel
    go_wp2_with fail
    exact bodyPost_end (results_none rfl _ _ _) rfl HF.out
   | true =>
    obtain⟨hzf,_,htS⟩:=zM hel
    rw[htS]at hst8
    have hst8:RS w8 q ts (stp z.2.1) fine:=hst8
    have hy2:=HY.out
    unfold rs3 at hy2
    rw[if_neg (by rw[hei];simp),if_pos hel,htS]at hy2
    obtain⟨u,hu,hyu⟩:=zx hy2
    have HYU:Hid (y=([⟨2,a,[],[],x.1,z.1,u.1⟩],u.2)):=(Option.some.inj hyu).symm
    have HC:=zh (HS.out w8 (stp z.2.1) u hst8 hu)
    have HL8':=zh (HL8.out hzf)
    clear hei hel hzf htS hy2 hu hyu hst8 HY HL8
    go_wp2_with fail
    refine HC.out.mono ?_
    rintro e w9 ⟨ea,en,ec,rfl,hl9,hst9,hx9⟩
    have hk9:=(hx9.block sb (zc hk8) (by omega)).trans hk8
    have hx9':=hx8'.ext hx9
    have HV9:=zh (VX.ext hx9 hpl HV8.out)
    have HL9:=zh (VO.ext hx9 hpl HL8'.out)
    have c06:w9.cell? ⟨sb,6,none⟩=some (.slice none 0 0):=za hk9
    have z06:w9.frozen? ⟨sb,6,none⟩=false:=zd hk9
    obtain⟨hst10,hx10,hk10⟩:=fld2 (i:=6) (v:=.slice ea en ec) hst9 hx9' hk9 hqs
    have HF:Hid (KPost q ts w sb a y (.returned (.tuple #[])) (w9.setCell ⟨sb,6,none⟩ (.slice ea en ec))):=by
     rw[HYU.out]
     refine⟨rfl,p,ta,ea,tn,tc,en,ec,hk10,fun hf=>?_,hst10,hx10⟩
     exact VS.mk' (name:=[]) (VP.nil _ _) (VX.ext (b:=sb) ((Ext.refl sb _).set 6 _) hsl HV9.out).vp (VO.ext (b:=sb) ((Ext.refl sb _).set 6 _) hsl HL9.out) (VO.ext (b:=sb) ((Ext.refl sb _).set 6 _) hsl ((hl9 hf).vo.base hsz8))
    clear hl9 hst9 hx9 hx9' hk9 hst10 hx10 hk10 HV9 HL9
    go_wp2_with fail
    exact bodyPost_end (results_none rfl _ _ _) rfl HF.out
end Go.Proofs.YthnoedjbhbkdeaaGreatDoor
