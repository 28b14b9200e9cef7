import Derived.Test.YtibncofnnlbmcaaGreatDoorKAc
import Derived.Test.YtibncofnnlbmcaaGreatDoorKAa
set_option maxRecDepth 100000
set_option maxHeartbeats 4000000
namespace Go.Proofs.YtibncofnnlbmcaaGreatDoor
open Go.RowKit Go.Maps
open Tp (Bs X S G Pr Pt Rs Rr Own)
def FrF (w:World) (m:Tp.M) (ia ga pa ba:Option Addr) (ic gc pc bc lb vb:Nat) (sl:Bs->Nat) (w':World):Prop:=Below w.heap.size w w'/\w.heap.size<=lb/\w.heap.size<=vb/\lb≠vb/\w'.heap[lb]?=some (.cells (lcells m ia ga pa ba ic gc pc bc vb) 107 (0,0))/\Laid w' w.heap.size vb m.vars m.vars.length sl/\∀ g∈m.vars,sl g.name≠lb/\sl g.name≠vb
theorem keep_of {X:Nat->Prop}{w w7:World}{wb tb:Nat}{L:List Lo}{P:List Pt}{nv:Value}{m:Tp.M}{lo:Lo}{ia ga pa ba:Option Addr}{ic gc pc bc lb vb:Nat}{sl:Bs->Nat}(h:WW X w wb L P nv tb) (hm:Tp.WM m) (hvn:(m.vars.map (·.name)).Nodup) (hlo:lo∈L) (hmb:MB w w.heap.size m ia ga pa ba ic gc pc bc) (hf:FrF w m ia ga pa ba ic gc pc bc lb vb sl w7) :
  Calls Tryz.prog 49 #[.pointer (some ⟨lb,0,none⟩),.pointer (some ⟨lo.lb,0,none⟩)] w7 (KeepP w7 lb vb lo m sl):=by
 obtain⟨hb,hlb,hvb,hne,hbl,hla,hsl⟩:=hf
 obtain⟨⟨ia',ga',pa',ba',ic',gc',pc',bc',m1,m2⟩,_,_,⟨n,m5⟩,hfit⟩:=h.lo lo hlo
 have hmp:=hla.map
 rw[List.take_length]at hmp
 have hll:=zf m1
 refine vN (n0:=m.vars.length) hbl ((Row.gls hmb.gl).on hb) ?_ (by have:=hm.gc;omega) hm.gc hvn (fun g hg=>by have:=zQ (hm.g g hg).n;omega) ((hb.block _ hll).trans m1) ((Row.gls m2.gl).on hb) ⟨n,m5.on (hb.block _ m5.lt)⟩ hfit.wm.gc hfit.vn hne (by omega) (by have:=m5.lt;omega) (fun b e=>?_) (fun b e=>?_)
 ·rw[keepF_zero]
  exact hmp
 ·have:=(Row.blkD hmb.gl e).2
  omega
 ·have:=(Row.blkD m2.gl e).2
  omega
theorem swapN {X:Nat->Prop}{w:World}{wb:Nat}{L:List Lo}{P:List Pt}{nv:Value}{tv:Option Nat}{m:Tp.M}{ia ga pa ba:Option Addr}{ic gc pc bc:Nat}(h:WX X w wb L P nv tv) (hL:L.length<=10) (hmb:MB w w.heap.size m ia ga pa ba ic gc pc bc) (hm:Tp.WM m) {D:Nat->Prop}{c tb:Nat}{lo:Lo}{p:Pt}(htv:tv=some tb) (hX:∀ b,X b->b<w.heap.size) (hmc:MapC w tv L c) (hc:c<=90) (hmd:MD w D m ia ga pa ba ic gc pc bc) (hD:∀ b,D b->b<w.heap.size->¬X b/\¬Mut L wb tv nv b) (hnm:Tp.nM m<=1000) (hp:Tp.partOf P m.name=some p) (hpm:p.m=lo.m) (hlo:lo∈L) (hlm:lo.m.name=m.name) (hptr:ptrV L m.name=some ⟨lo.lb,0,none⟩) (hWI:Tp.WI ofS P) (hnP:∀ x∈Tp.ms P,Tp.nM x<=1000) :
  Calls Tryz.prog 18 #[.pointer (some ⟨wb,0,none⟩),.agg (mcells (bs m.name) (.slice ia m.imports.length ic) (.slice ga m.vars.length gc) (.slice pa m.procs.length pc) (.slice ba m.body.length bc))] w (SwapQ X (Mut L wb tv nv) c w wb (Tp.swapW ofS P m)):=by
 obtain⟨r,hr⟩:∃ r,r=Tp.swapW ofS P m:=⟨_,rfl⟩
 obtain⟨ck,hcke⟩:∃ ck,ck=Tp.check m (Tp.seenW ofS P):=⟨_,rfl⟩
 obtain⟨cy,hcy⟩:∃ cy,cy=(m.imports.any fun n=>@decide (Tp.Leads P n m.name) (Classical.propDecidable _)):=⟨_,rfl⟩
 obtain⟨ot,hot⟩:∃ ot,ot=othB P m lo.m:=⟨_,rfl⟩
 have hcyt:cy=true↔∃ n∈m.imports,Tp.Leads P n m.name:=by rw[hcy];simp
 have HR1:Hid (∀ er,ck=some er->r=⟨P,Tp.no,0,some er⟩):=fun er e=>by
  rw[hr]
  unfold Tp.swapW
  rw[hp]
  simp only
  rw[<-hcke,e]
 have HR2:Hid (ck=none->cy=true->r=⟨P,Tp.no,0,some (11,none)⟩):=fun e e2=>by
  rw[hr]
  unfold Tp.swapW
  rw[hp]
  simp only
  rw[<-hcke,e]
  exact if_pos (hcyt.1 e2)
 have hno:∀ {e:cy=false},¬∃ n∈m.imports,Tp.Leads P n m.name:=fun {e} q=>by rw[hcyt.2 q]at e;cases e
 have HR3:Hid (ck=none->cy=false->ot=true->r=⟨P,Tp.no,0,some (6,none)⟩):=fun e e2 e3=>by
  rw[hr]
  unfold Tp.swapW
  rw[hp]
  simp only
  rw[<-hcke,e]
  simp only
  rw[if_neg (hno (e:=e2))]
  exact if_pos (by rw[hpm];exact hot.symm.trans e3)
 have HR4:Hid (ck=none->cy=false->ot=false->r=⟨Tp.putM P m,Tp.no,0,none⟩/\Tp.WI ofS (Tp.putM P m)):=fun e e2 e3=>by
  have ho':othB P m p.m=false:=by rw[hpm];exact hot.symm.trans e3
  refine⟨?_,Tp.WI.put ofS_ok hWI hp (hcke.symm.trans e) (hno (e:=e2)) (fun q hq n hn=>?_)⟩
  ·rw[hr]
   unfold Tp.swapW
   rw[hp]
   simp only
   rw[<-hcke,e]
   simp only
   rw[if_neg (hno (e:=e2))]
   exact if_neg (fun q=>by have:othB P m p.m=true:=q;rw[ho']at this;cases this)
  ·unfold othB at ho'
   rw[List.any_eq_false]at ho'
   have:=ho' q hq
   rw[Bool.not_eq_true,List.any_eq_false]at this
   simpa using this n hn
 have hz:WZ X (Mut L wb tv nv) c w wb P:=⟨L,nv,tv,h,hL,hWI,fun b=>Iff.rfl,hmc,hnP⟩
 have HERR:Hid (∀ er ev w4,r=⟨P,Tp.no,0,some er⟩->Below w.heap.size w w4->EvT w.heap.size w4 (some er) ev->SwapQ X (Mut L wb tv nv) c w wb r (.returned ev) w4):=fun er ev w4 e hb hev=>by
  rw[e]
  exact⟨ev,rfl,⟨_,(hz.on hb).more (by omega),Tr.below hb⟩,hev⟩
 rw[<-hr]
 have HCKE:=zh hcke
 have HCYC:Hid ((m.imports.any fun n=>@decide (Tp.Leads P n m.name) (Classical.propDecidable _))=cy):=hcy.symm
 have HOTH:Hid (othB P m lo.m=ot):=hot.symm
 clear hr hcke hcy hot hcyt hno hz hpm
 have hnl:=zQ hm.n
 have hwl:=zf h.blk
 obtain⟨W,hW⟩:∃ W,W=(w.alloc (.cells #[.pointer (some ⟨wb,0,none⟩)] 47)).alloc (.cells (mcells (bs m.name) (.slice ia m.imports.length ic) (.slice ga m.vars.length gc) (.slice pa m.procs.length pc) (.slice ba m.body.length bc)) 36):=⟨_,rfl⟩
 have hbW:Below w.heap.size w W:=by rw[hW];exact(zb _ _).alloc (by simp) _
 have hsW:W.heap.size=w.heap.size+2:=by rw[hW];simp
 have hkp:W.heap[w.heap.size]?=some (.cells #[.pointer (some ⟨wb,0,none⟩)] 47 (0,0)):=by rw[hW];exact(Below.heap_alloc _ _ _ (by simp)).trans (zo _ _)
 have hkm:W.heap[w.heap.size+1]?=some (.cells (mcells (bs m.name) (.slice ia m.imports.length ic) (.slice ga m.vars.length gc) (.slice pa m.procs.length pc) (.slice ba m.body.length bc)) 36 (0,0)):=by rw[hW];exact yj _ _ _
 obtain⟨W3,hW3⟩:∃ W3,W3=(W.alloc (.cells #[.pointer (some ⟨lo.lb,0,none⟩)] 88)).drew:=⟨_,rfl⟩
 have hb3:Below W.heap.size W W3:=by rw[hW3];exact(zb _ _).drew
 have hs3:W3.heap.size=w.heap.size+3:=by rw[hW3];show (W.alloc _).heap.size=_;simp[hsW]
 have hkw:W3.heap[w.heap.size+2]?=some (.cells #[.pointer (some ⟨lo.lb,0,none⟩)] 88 (0,0)):=by
  rw[hW3]
  have:=zo W (.cells #[.pointer (some ⟨lo.lb,0,none⟩)] 88)
  rw[hsW]at this
  exact this
 have hww:=(hbW.block wb hwl).trans h.blk
 have k1:W.cell? ⟨wb,1,none⟩=some (.map tv):=(za hww).trans rfl
 have km:W.cell? ⟨w.heap.size+1,0,none⟩=some (.string (bs m.name)):=(za hkm).trans rfl
 have kp:W.cell? ⟨w.heap.size,0,none⟩=some (.pointer (some ⟨wb,0,none⟩)):=(za hkp).trans rfl
 have hlk:∀ V,Below W.heap.size W V->(Instr.lookup 26 (.map tv) (.string (bs m.name)) false).run Tryz.prog V=.ok (.pointer (some ⟨lo.lb,0,none⟩)) V:=fun V hV=>by
  have:=((h.on hbW).on hV).look m.name (by omega)
  rw[hptr]at this
  exact this
 have hlk1:=hlk W (Below.refl _ _)
 have hlk2:=hlk W.drew ((Below.refl _ _).drew)
 have hlk3:=hlk (W.alloc (.cells #[.pointer none] 88)).drew ((zb _ _).drew)
 have HMB:=zh hmb
 have HSM:=zh hm.sml
 have HB3:Hid (Below w.heap.size w W3):=hbW.trans (hb3.mono (by omega))
 have HKM:Hid (W3.heap[w.heap.size+1]?=_):=(hb3.block _ (zf hkm)).trans hkm
 have HKP:Hid (W3.heap[w.heap.size]?=_):=(hb3.block _ (zf hkp)).trans hkp
 have HKW:=zh hkw
 have HM:=zh hm
 have HWX:=zh h
 have HS3:=zh hs3
 have hwlW:wb<W.heap.size:=by omega
 have hmlW:w.heap.size+1<W.heap.size:=by omega
 have hplW:w.heap.size<W.heap.size:=by omega
 have k2:W3.cell? ⟨W.heap.size,0,none⟩=some (.pointer (some ⟨lo.lb,0,none⟩)):=by rw[hsW];exact(za hkw).trans rfl
 have h2l:W.heap.size<W3.heap.size:=by omega
 have HSW:=zh hsW
 have HWI:=zh hWI
 have HNP:=zh hnP
 have HLO:Hid (lo∈L/\lo.m.name=m.name):=⟨hlo,hlm⟩
 have HXs:=zh hX
 have HMC:=zh hmc
 have HMD:=zh hmd
 have HD:=zh hD
 have HNM:=zh hnm
 have HP:=zh hp
 have HTV:=zh htv
 unfold mcells at *
 obtain⟨mn,hmn⟩:∃ mn,mn=bs m.name:=⟨_,rfl⟩
 obtain⟨Sn,hSn⟩:∃ Sn,Sn=Tp.seenW ofS P:=⟨_,rfl⟩
 have HCK:Hid (∀ W' sb,Below w.heap.size w W'->SeenV W' (.map (some sb)) Sn->Calls Tryz.prog 37 #[.agg #[.string mn,.slice ia m.imports.length ic,.slice ga m.vars.length gc,.slice pa m.procs.length pc,.slice ba m.body.length bc],.map (some sb)] W' (CheckP W' (Tp.check m Sn))):=fun W' sb hW' hmap=>by
  have:=yU HSM.out (HMB.out.up hW') hmap
  unfold mcells at this
  rw[hmn]
  exact this
 rw[<-hmn]at hW km hlk1 hlk2 hlk3 HKM ⊢
 have HMN:Hid (mn=bs m.name):=hmn
 have HSN:Hid (Sn=Tp.seenW ofS P):=hSn
 clear hmb hm hww hkm hkp hkw hbW hsW hb3 hs3 hmn hSn h hptr hlk htv hWI hnP hlo hlm hX hmc hmd hD hnm hp
 obtain⟨il,hil⟩:∃ il,il=m.imports.length:=⟨_,rfl⟩
 obtain⟨gl,hgl⟩:∃ gl,gl=m.vars.length:=⟨_,rfl⟩
 obtain⟨pl,hpl⟩:∃ pl,pl=m.procs.length:=⟨_,rfl⟩
 obtain⟨bl,hbl⟩:∃ bl,bl=m.body.length:=⟨_,rfl⟩
 rw[<-hil,<-hgl,<-hpl,<-hbl]at hW HKM HCK ⊢
 have HQ:=zh (And.intro hil (And.intro hgl (And.intro hpl hbl)))
 clear hil hgl hpl hbl
 go_enter Tryz.func18,Tryz.ntmps18
 go_upto_region 1 with fail
 rw[<-hW]
 clear hW
 go_region
 all_goals
  rw[<-hW3]
  clear hW3 hlk1 hlk2 hlk3 k1 km kp
  have hbd:Below W3.heap.size W3 W3.drew:=(Below.refl _ _).drew
  have HBOX:Hid (∀ V,Below W3.heap.size W3 V->V.cell? ⟨w.heap.size+1,0,none⟩=some (.string mn)/\V.cell? ⟨w.heap.size+1,1,none⟩=some (.slice ia il ic)/\V.cell? ⟨w.heap.size+1,2,none⟩=some (.slice ga gl gc)/\V.cell? ⟨w.heap.size+1,3,none⟩=some (.slice pa pl pc)/\V.cell? ⟨w.heap.size+1,4,none⟩=some (.slice ba bl bc)/\V.cell? ⟨w.heap.size,0,none⟩=some (.pointer (some ⟨wb,0,none⟩))):=fun V hV=>by
   obtain⟨a0,a1,a2,a3,a4⟩:=ym ((hV.block _ (zf HKM.out)).trans HKM.out)
   exact⟨a0,a1,a2,a3,a4,(za ((hV.block _ (zf HKP.out)).trans HKP.out)).trans rfl⟩
  have HS0:Hid (W3.drew.cell? ⟨w.heap.size+1,0,none⟩=some (.string mn)/\W3.drew.cell? ⟨w.heap.size+1,1,none⟩=some (.slice ia il ic)/\W3.drew.cell? ⟨w.heap.size+1,2,none⟩=some (.slice ga gl gc)/\W3.drew.cell? ⟨w.heap.size+1,3,none⟩=some (.slice pa pl pc)/\W3.drew.cell? ⟨w.heap.size+1,4,none⟩=some (.slice ba bl bc)/\W3.drew.cell? ⟨w.heap.size,0,none⟩=some (.pointer (some ⟨wb,0,none⟩))):=HBOX.out _ hbd
  have HSE:Hid (Calls Tryz.prog 38 #[.pointer (some ⟨wb,0,none⟩)] W3.drew fun e w2=>∃ sb,e=.returned (.map (some sb))/\(Below W3.heap.size W3 w2/\SeenV w2 (.map (some sb)) Sn)/\(w2.cell? ⟨w.heap.size+1,0,none⟩=some (.string mn)/\w2.cell? ⟨w.heap.size+1,1,none⟩=some (.slice ia il ic)/\w2.cell? ⟨w.heap.size+1,2,none⟩=some (.slice ga gl gc)/\w2.cell? ⟨w.heap.size+1,3,none⟩=some (.slice pa pl pc)/\w2.cell? ⟨w.heap.size+1,4,none⟩=some (.slice ba bl bc)/\w2.cell? ⟨w.heap.size,0,none⟩=some (.pointer (some ⟨wb,0,none⟩)))):=by
   refine(seen_any (HWX.out.on (HB3.out.trans (hbd.mono HB3.out.size))) hL).mono ?_
   rintro e w2 ⟨sb,rfl,hb2,hs2⟩
   have hB2:Below W3.heap.size W3 w2:=hbd.trans (hb2.mono hbd.size)
   exact⟨sb,rfl,⟨hB2,by rw[HSN.out];exact hs2⟩,HBOX.out _ hB2⟩
  have HCK2:Hid (∀ w2 sb,Below W3.heap.size W3 w2/\SeenV w2 (.map (some sb)) Sn->Calls Tryz.prog 37 #[.agg #[.string mn,.slice ia il ic,.slice ga gl gc,.slice pa pl pc,.slice ba bl bc],.map (some sb)] w2 fun e w4=>∃ ev,e=.returned ev/\(Below W3.heap.size W3 w4/\EvT W3.heap.size w4 ck ev)/\(w4.cell? ⟨w.heap.size+1,0,none⟩=some (.string mn)/\w4.cell? ⟨w.heap.size+1,1,none⟩=some (.slice ia il ic)/\w4.cell? ⟨w.heap.size+1,2,none⟩=some (.slice ga gl gc)/\w4.cell? ⟨w.heap.size+1,3,none⟩=some (.slice pa pl pc)/\w4.cell? ⟨w.heap.size+1,4,none⟩=some (.slice ba bl bc)/\w4.cell? ⟨w.heap.size,0,none⟩=some (.pointer (some ⟨wb,0,none⟩)))):=fun w2 sb h2=>by
   have:=HCK.out w2 sb (HB3.out.trans (h2.1.mono HB3.out.size)) h2.2
   rw[HSN.out,<-HCKE.out]at this
   refine this.mono ?_
   intro e w4 hq
   obtain⟨hb4,ev,he,hev⟩:=ui hq
   have hB4:Below W3.heap.size W3 w4:=h2.1.trans (hb4.mono h2.1.size)
   exact⟨ev,he,⟨hB4,hev.lower h2.1.size⟩,HBOX.out _ hB4⟩
  clear hbd HCK
  go_upto_region 4 with fail
  go_region_held3 (fun w'=>w'.cell? ⟨w.heap.size+1,0,none⟩=some (.string mn)/\w'.cell? ⟨w.heap.size+1,1,none⟩=some (.slice ia il ic)/\w'.cell? ⟨w.heap.size+1,2,none⟩=some (.slice ga gl gc)/\w'.cell? ⟨w.heap.size+1,3,none⟩=some (.slice pa pl pc)/\w'.cell? ⟨w.heap.size+1,4,none⟩=some (.slice ba bl bc)/\w'.cell? ⟨w.heap.size,0,none⟩=some (.pointer (some ⟨wb,0,none⟩))) (with_reducible (first|exact HS4.out|exact HS2.out|exact HS0.out)) (first|(go_at_call 38;refine HSE.out.mono ?_;rintro e w2 ⟨sb,rfl,hb2,hs2⟩;have HB2:=zh hb2;have HS2:=zh hs2;clear hb2 hs2)|(go_at_call 37;refine(HCK2.out _ _ HB2.out).mono ?_;rintro e w4 ⟨ev,rfl,hb4,hs4⟩;have HB4e:=zh hb4;have HS4:=zh hs4;clear hb4 hs4))
  clear HSE HCK2 HBOX
  have HB4:Hid (Below W3.heap.size W3 w4):=HB4e.out.1
  cases hck:ck with
  | some er =>
   have HE0:=HB4e.out.2
   rw[hck]at HE0
   have hne:=HE0.ne
   have hgd:=HE0.gd
   have HR:=zh (HERR.out er ev w4 (HR1.out er hck) (HB3.out.trans (HB4.out.mono HB3.out.size)) (HE0.lower HB3.out.size))
   clear HE0 hck
   go_wp2_with fail
   go_ret
   exact HR.out
  | none =>
   have HE0:=HB4e.out.2
   rw[hck]at HE0
   obtain rfl:ev=.nilIface:=HE0
   have HHCK0:Hid (Tp.check m (Tp.seenW ofS P)=none):=by show _=_;rw[<-HCKE.out];exact hck
   have HCS:=zh hck
   clear hck
   have HB4w:Hid (Below w.heap.size w w4):=HB3.out.trans (HB4.out.mono HB3.out.size)
   have HCY:Hid (Calls Tryz.prog 44 #[.slice ia il ic,.func (.func 45) #[] #[.pointer (some ⟨w.heap.size,0,none⟩),.pointer (some ⟨w.heap.size+1,0,none⟩)]] w4 fun e w5=>e=.returned (.bool cy)/\Below w4.heap.size w4 w5):=by
    have:=cyc_post (x1:=w.heap.size) (x3:=w.heap.size+1) (HWX.out.on HB4w.out) HWI.out HHCK0.out (HMB.out.up HB4w.out) HM.out HS4.out.2.2.2.2.2 (by rw[<-HMN.out];exact HS4.out.1)
    rw[<-HQ.out.1,HCYC.out]at this
    exact this
   obtain⟨s0,s1,s2,s3,s4,s5⟩:=HS4.out
   have hm4:=zg s0
   have hp4:=zg s5
   have hmf:=zm
   go_wp2_with fail
   refine HCY.out.mono ?_
   rintro e w5 ⟨rfl,hb5⟩
   cases cy with
   | true =>
    have HR:=zh (HERR.out (11,none) (.iface 44 (.int .i64 11)) w5 (HR2.out HCS.out rfl) (HB4w.out.trans (hb5.mono HB4w.out.size)) rfl)
    clear hb5 s0 s1 s2 s3 s4 s5 HCY
    go_wp2_with fail
    go_ret
    exact HR.out
   | false =>
    have HB5:Hid (Below W3.heap.size W3 w5):=HB4.out.trans (hb5.mono HB4.out.size)
    have HB5w:Hid (Below w.heap.size w w5):=HB4w.out.trans (hb5.mono HB4w.out.size)
    have HBOX:Hid (∀ V,Below W3.heap.size W3 V->V.heap[w.heap.size+1]?=W3.heap[w.heap.size+1]?/\V.cell? ⟨w.heap.size,0,none⟩=some (.pointer (some ⟨wb,0,none⟩))/\V.cell? ⟨W.heap.size,0,none⟩=some (.pointer (some ⟨lo.lb,0,none⟩))):=fun V hV=>⟨hV.block _ (zf HKM.out),(za ((hV.block _ (zf HKP.out)).trans HKP.out)).trans rfl,(hV.cell (p:=⟨W.heap.size,0,none⟩) h2l).trans k2⟩
    obtain⟨na,nc,hnv⟩:=zw HWX.out.nm
    have HOT:Hid (Calls Tryz.prog 44 #[.slice na L.length nc,.func (.func 47) #[] #[.pointer (some ⟨w.heap.size,0,none⟩),.pointer (some ⟨W.heap.size,0,none⟩),.pointer (some ⟨w.heap.size+1,0,none⟩)]] w5 fun e w6=>e=.returned (.bool ot)/\Below w5.heap.size w5 w6):=by
     obtain⟨q1,q2,q3⟩:=HBOX.out w5 HB5.out
     have h5:=HWX.out.on HB5w.out
     rw[hnv]at h5
     have hmk:=q1.trans HKM.out
     rw[HMN.out,HQ.out.1,HQ.out.2.1,HQ.out.2.2.1,HQ.out.2.2.2]at hmk
     have:=oth_post (x1:=w.heap.size) (x2:=W.heap.size) (x3:=w.heap.size+1) h5 hL HNP.out (HMB.out.up HB5w.out) HM.out HLO.out.1 HLO.out.2 q2 q3 hmk
     rw[HOTH.out]at this
     exact this
    have t5:w5.cell? ⟨w.heap.size,0,none⟩=some (.pointer (some ⟨wb,0,none⟩)):=(HBOX.out w5 HB5.out).2.1
    have tn:w5.cell? ⟨wb,0,none⟩=some (.slice na L.length nc):=by
     rw[(za (HWX.out.on HB5w.out).blk).trans rfl,hnv]
     rfl
    have hwl5:wb<w5.heap.size:=by have:=HB5w.out.size;omega
    have hp5:=zg t5
    clear hb5 s0 s1 s2 s3 s4 s5 HCY hnv
    generalize hLn:L.length=ln at *
    have HLN:=zh hLn
    clear hLn
    go_wp2_with fail
    refine HOT.out.mono ?_
    rintro e w6 ⟨rfl,hb6⟩
    cases ot with
    | true =>
     have HR:=zh (HERR.out (6,none) (.iface 44 (.int .i64 6)) w6 (HR3.out HCS.out (by simp) (by simp)) (HB5w.out.trans (hb6.mono HB5w.out.size)) rfl)
     clear hb6 t5 tn HOT
     go_wp2_with fail
     go_ret
     exact HR.out
    | false =>
     obtain⟨hr4,hwi4⟩:=HR4.out HCS.out (by simp) (by simp)
     have HR4e:=zh hr4
     have HWI2:=zh hwi4
     clear hr4 hwi4
     have HB6:Hid (Below W3.heap.size W3 w6):=HB5.out.trans (hb6.mono HB5.out.size)
     have HB6w:Hid (Below w.heap.size w w6.drew):=(HB5w.out.trans (hb6.mono HB5w.out.size)).drew
     clear hb6 t5 tn HOT
     have hww6:WW X w6.drew wb L P nv tb:=by
      have:=HWX.out.on HB6w.out
      rw[HTV.out]at this
      exact this
     have HWW:=zh hww6
     have hmb6:=HMB.out.up HB6w.out
     have HMB6:=zh hmb6
     have HVN:Hid ((m.vars.map (·.name)).Nodup):=by
      have hin:m∈Tp.ms (Tp.putM P m):=by
       obtain⟨q1,q2⟩:=Tp.part_name HP.out
       unfold Tp.ms Tp.putM
       rw[List.map_map,List.mem_map]
       exact⟨p,q1,by simp[q2]⟩
      exact(HWI2.out.fit jx hin HM.out).vn
     have hs6:=HB6w.out.size
     have HBX:Hid (∀ V:World,w6.drew.heap.size<=V.heap.size->(∀ b,b<w6.drew.heap.size->V.heap[b]?=w6.drew.heap[b]?)->V.cell? ⟨w.heap.size+1,0,none⟩=some (.string mn)/\V.cell? ⟨w.heap.size+1,1,none⟩=some (.slice ia il ic)/\V.cell? ⟨w.heap.size+1,2,none⟩=some (.slice ga gl gc)/\V.cell? ⟨w.heap.size+1,3,none⟩=some (.slice pa pl pc)/\V.cell? ⟨w.heap.size+1,4,none⟩=some (.slice ba bl bc)/\V.cell? ⟨w.heap.size,0,none⟩=some (.pointer (some ⟨wb,0,none⟩))/\V.cell? ⟨W.heap.size,0,none⟩=some (.pointer (some ⟨lo.lb,0,none⟩))/\V.cell? ⟨wb,1,none⟩=some (.map (some tb))):=fun V _ hV=>by
      have hbb:∀ b,b<W3.heap.size->V.heap[b]?=W3.heap[b]?:=fun b hb=>(hV b (Nat.lt_of_lt_of_le hb HB6.out.size)).trans (HB6.out.block b hb)
      obtain⟨a0,a1,a2,a3,a4⟩:=ym ((hbb _ (zf HKM.out)).trans HKM.out)
      exact⟨a0,a1,a2,a3,a4,(za ((hbb _ (zf HKP.out)).trans HKP.out)).trans rfl,(World.cell?_of_block (w:=W3) (hbb _ h2l)).trans k2,(za ((hV _ (zf HWW.out.blk)).trans HWW.out.blk)).trans rfl⟩
     have HT0:Hid (w6.drew.cell? ⟨w.heap.size+1,0,none⟩=some (.string mn)/\w6.drew.cell? ⟨w.heap.size+1,1,none⟩=some (.slice ia il ic)/\w6.drew.cell? ⟨w.heap.size+1,2,none⟩=some (.slice ga gl gc)/\w6.drew.cell? ⟨w.heap.size+1,3,none⟩=some (.slice pa pl pc)/\w6.drew.cell? ⟨w.heap.size+1,4,none⟩=some (.slice ba bl bc)/\w6.drew.cell? ⟨w.heap.size,0,none⟩=some (.pointer (some ⟨wb,0,none⟩))/\w6.drew.cell? ⟨W.heap.size,0,none⟩=some (.pointer (some ⟨lo.lb,0,none⟩))/\w6.drew.cell? ⟨wb,1,none⟩=some (.map (some tb))):=HBX.out _ zn (fun _ _=>rfl)
     have HFR:Hid (Calls Tryz.prog 39 #[.agg #[.string mn,.slice ia il ic,.slice ga gl gc,.slice pa pl pc,.slice ba bl bc]] w6.drew fun e w7=>∃ lb vb sl,e=.returned (.pointer (some ⟨lb,0,none⟩))/\(FrF w6.drew m ia ga pa ba ic gc pc bc lb vb sl w7)/\(w7.cell? ⟨w.heap.size+1,0,none⟩=some (.string mn)/\w7.cell? ⟨w.heap.size+1,1,none⟩=some (.slice ia il ic)/\w7.cell? ⟨w.heap.size+1,2,none⟩=some (.slice ga gl gc)/\w7.cell? ⟨w.heap.size+1,3,none⟩=some (.slice pa pl pc)/\w7.cell? ⟨w.heap.size+1,4,none⟩=some (.slice ba bl bc)/\w7.cell? ⟨w.heap.size,0,none⟩=some (.pointer (some ⟨wb,0,none⟩))/\w7.cell? ⟨W.heap.size,0,none⟩=some (.pointer (some ⟨lo.lb,0,none⟩))/\w7.cell? ⟨wb,1,none⟩=some (.map (some tb)))):=by
      have:=xv HMB6.out HM.out HVN.out
      unfold mcells at this
      rw[<-HMN.out,<-HQ.out.1,<-HQ.out.2.1,<-HQ.out.2.2.1,<-HQ.out.2.2.2]at this
      refine this.mono ?_
      rintro e w7 ⟨h1,lb,vb,sl,h2,h3⟩
      exact⟨lb,vb,sl,h2,⟨h1,h3⟩,HBX.out _ h1.size (fun b hb=>h1.block b hb)⟩
     have HKE:Hid (∀(w7:World) lb vb sl,FrF w6.drew m ia ga pa ba ic gc pc bc lb vb sl w7->Calls Tryz.prog 49 #[.pointer (some ⟨lb,0,none⟩),.pointer (some ⟨lo.lb,0,none⟩)] w7 fun e w8=>e=.returned (.pointer (some ⟨lb,0,none⟩))/\(FrF w6.drew m ia ga pa ba ic gc pc bc lb vb sl w7/\Ext vb w7 w8/\∃ n,MapV w8 vb n (keepF lo m sl m.vars.length))/\(w8.cell? ⟨w.heap.size+1,0,none⟩=some (.string mn)/\w8.cell? ⟨w.heap.size+1,1,none⟩=some (.slice ia il ic)/\w8.cell? ⟨w.heap.size+1,2,none⟩=some (.slice ga gl gc)/\w8.cell? ⟨w.heap.size+1,3,none⟩=some (.slice pa pl pc)/\w8.cell? ⟨w.heap.size+1,4,none⟩=some (.slice ba bl bc)/\w8.cell? ⟨w.heap.size,0,none⟩=some (.pointer (some ⟨wb,0,none⟩))/\w8.cell? ⟨W.heap.size,0,none⟩=some (.pointer (some ⟨lo.lb,0,none⟩))/\w8.cell? ⟨wb,1,none⟩=some (.map (some tb)))):=fun w7 lb vb sl hf=>by
      refine(keep_of HWW.out HM.out HVN.out HLO.out.1 HMB6.out hf).mono ?_
      rintro e w8 ⟨h1,h2,h3⟩
      exact⟨h1,⟨hf,h2,h3⟩,HBX.out _ (Nat.le_trans hf.1.size h2.size) (fun b hb=>(h2.block b (Nat.lt_of_lt_of_le hb hf.1.size) (by have:=hf.2.2.1;omega)).trans (hf.1.block b hb))⟩
     have hnl':m.name.length<=1000000:=by have:=zQ HM.out.n;omega
     have HST:Hid (∀(w7 w8:World) lb vb sl,FrF w6.drew m ia ga pa ba ic gc pc bc lb vb sl w7/\Ext vb w7 w8/\(∃ n,MapV w8 vb n (keepF lo m sl m.vars.length))->(w8.cell? ⟨w.heap.size+1,0,none⟩=some (.string mn)/\w8.cell? ⟨w.heap.size+1,1,none⟩=some (.slice ia il ic)/\w8.cell? ⟨w.heap.size+1,2,none⟩=some (.slice ga gl gc)/\w8.cell? ⟨w.heap.size+1,3,none⟩=some (.slice pa pl pc)/\w8.cell? ⟨w.heap.size+1,4,none⟩=some (.slice ba bl bc)/\w8.cell? ⟨w.heap.size,0,none⟩=some (.pointer (some ⟨wb,0,none⟩))/\w8.cell? ⟨W.heap.size,0,none⟩=some (.pointer (some ⟨lo.lb,0,none⟩))/\w8.cell? ⟨wb,1,none⟩=some (.map (some tb)))->∃ w9,(w9.cell? ⟨w.heap.size+1,0,none⟩=some (.string mn)/\w9.cell? ⟨w.heap.size+1,1,none⟩=some (.slice ia il ic)/\w9.cell? ⟨w.heap.size+1,2,none⟩=some (.slice ga gl gc)/\w9.cell? ⟨w.heap.size+1,3,none⟩=some (.slice pa pl pc)/\w9.cell? ⟨w.heap.size+1,4,none⟩=some (.slice ba bl bc)/\w9.cell? ⟨w.heap.size,0,none⟩=some (.pointer (some ⟨wb,0,none⟩))/\w9.cell? ⟨W.heap.size,0,none⟩=some (.pointer (some ⟨lo.lb,0,none⟩))/\w9.cell? ⟨wb,1,none⟩=some (.map (some tb)))/\(Instr.mapUpdate 26 (.map (some tb)) (.string mn) (.pointer (some ⟨lb,0,none⟩))).run Tryz.prog w8=.ok () w9/\∃ U',WZ X U' (c+1) w9 wb (Tp.putM P m)/\Tr (Mut L wb tv nv) U' w w9):=fun w7 w8 lb vb sl hf hS8=>by
      obtain⟨hf,hx8,hm8⟩:=hf
      obtain⟨n0,hn0,hmt⟩:=HMC.out tb HTV.out
      have htl:=hmt.lt
      have hvt:tb≠vb:=by have:=hf.2.2.1;omega
      have hmt8:MapV w8 tb n0 (thrL L):=hmt.on (((hx8.block tb (by have:=hf.1.size;omega) hvt).trans (hf.1.block tb (by omega))).trans (HB6w.out.block tb htl))
      obtain⟨w9,r1,r2,r3,r4⟩:=hmt8.store (t:=26) Tryz.underlying26 (by omega) m.name hnl' (.pointer (some ⟨lb,0,none⟩))
      obtain⟨f1,f2,f3,f4,f5,f6,f7⟩:=hf
      have hDn:∀ b,D b->b<w.heap.size->¬X b/\¬Mut L wb (some tb) nv b:=fun b q1 q2=>by
       have:=HD.out b q1 q2
       rw[HTV.out]at this
       exact this
      have hmd6:MD w6.drew (fun b=>D b/\b<w.heap.size) m ia ga pa ba ic gc pc bc:=HMD.out.mono (fun b hb hl=>⟨HB6w.out.block b hl,hb,hl⟩)
      obtain⟨s1,s2,s3⟩:=ww_swap HM.out HWW.out (fun b q=>by have:=HXs.out b q;omega) HWI2.out HLO.out.1 HLO.out.2 HP.out hmd6 (fun b hb _=>hDn b hb.1 hb.2) f1 f2 f3 f4 f5 f6 f7 hx8 hm8 hc r3 hn0 r2
      obtain⟨z0,z1,z2,z3,z4,z5,z6,z7⟩:=hS8
      have hwW:=HSW.out
      have hnt:=HWW.out.tx.2.1
      refine⟨w9,⟨r3.cell z0 (by show w.heap.size+1≠tb;omega),r3.cell z1 (by show w.heap.size+1≠tb;omega),r3.cell z2 (by show w.heap.size+1≠tb;omega),r3.cell z3 (by show w.heap.size+1≠tb;omega),r3.cell z4 (by show w.heap.size+1≠tb;omega),r3.cell z5 (by show w.heap.size≠tb;omega),r3.cell z6 (by show W.heap.size≠tb;omega),r3.cell z7 (fun e=>hnt e.symm)⟩,by rw[HMN.out];exact r1,_,⟨_,nv,some tb,s1,by rw[putL_len,HLN.out];exact hL,HWI2.out,fun b=>Iff.rfl,s2,fun x hx=>?_⟩,?_⟩
      ·rcases Tp.put_mem hx with rfl|⟨q,_⟩
       ·exact HNM.out
       ·exact HNP.out x q
      ·rw[HTV.out]
       exact Tr.ahead HB6w.out s3
     clear HBX HMB6 HVN
     go_upto_region 11 with fail
     go_region_held3 (fun w'=>w'.cell? ⟨w.heap.size+1,0,none⟩=some (.string mn)/\w'.cell? ⟨w.heap.size+1,1,none⟩=some (.slice ia il ic)/\w'.cell? ⟨w.heap.size+1,2,none⟩=some (.slice ga gl gc)/\w'.cell? ⟨w.heap.size+1,3,none⟩=some (.slice pa pl pc)/\w'.cell? ⟨w.heap.size+1,4,none⟩=some (.slice ba bl bc)/\w'.cell? ⟨w.heap.size,0,none⟩=some (.pointer (some ⟨wb,0,none⟩))/\w'.cell? ⟨W.heap.size,0,none⟩=some (.pointer (some ⟨lo.lb,0,none⟩))/\w'.cell? ⟨wb,1,none⟩=some (.map (some tb))) (with_reducible (first|exact HT9.out|exact HT8.out|exact HT7.out|exact HT0.out)) (first|(go_at_call 49;have _g:=HF7;refine(HKE.out _ _ _ _ HF7.out).mono ?_;rintro e w8 ⟨rfl,hf8,ht8⟩;have HT8:=zh ht8;obtain⟨w9,ht9,hmu,hz9⟩:=HST.out _ _ _ _ _ hf8 ht8;have HZ9:=zh hz9;have HT9:=zh ht9;clear hf8 ht8 hz9 ht9)|(go_at_call 39;refine HFR.out.mono ?_;rintro e w7 ⟨lb,vb,sl,rfl,hf7,ht7⟩;have HF7:=zh hf7;have HT7:=zh ht7;clear hf7 ht7))
     go_wp2_with fail
     go_ret
     exact⟨_,rfl,by rw[HR4e.out];exact HZ9.out,by rw[HR4e.out];rfl⟩
structure AddA (c:Nat) (w:World) (wb lb:Nat) (nm:Bs) (L:List Lo) (nv:Value) (tv:Option Nat) (w':World) (tb':Nat) (nv':Value):Prop where
 blk:w'.heap[wb]?=some (.cells #[nv',.map (some tb')] 28 (0,0))
 tt:tv=some tb'\/tv=none/\w.heap.size<=tb'
 map:∃ n,n<=c+1/\MapV w' tb' n (updV (thrL L) nm (.pointer (some ⟨lb,0,none⟩)))
 nm:w'.ownsRow 0 9 1 nv' (L.length+1) (strs ((L.map fun lo=>lo.m.name)++[nm]))
 nx:∀ b,nv'.ownBlock=some b->(nv.ownBlock=some b\/w.heap.size<=b)/\b≠tb'/\b≠wb
 os:w'.os=w.os
 tape:w'.tape=w.tape
 output:w'.output=w.output
 size:w.heap.size<=w'.heap.size
 block:∀ b,b<w.heap.size->b≠wb->tv≠some b->nv.ownBlock≠some b->w'.heap[b]?=w.heap[b]?
theorem add_fin2 {c n:Nat}{w w2 w3:World}{wb lb tb:Nat}{nm:Bs}{L:List Lo}{nv v3:Value}(hwl:wb<w.heap.size) (hx:Ext tb w w2) (hs:w2.heap.size=w.heap.size) (hm:MapV w2 tb (n+1) (updV (thrL L) nm (.pointer (some ⟨lb,0,none⟩)))) (hn:n<=c) (e3:w3.heap[wb]?=some (.cells #[nv,.map (some tb)] 28 (0,0)))
  (o1:w3.os=w2.os) (o2:w3.tape=w2.tape) (o3:w3.output=w2.output) (o4:w2.heap.size<=w3.heap.size) (hb:∀ b,b<w2.heap.size->nv.ownBlock≠some b->w3.heap[b]?=w2.heap[b]?) (q1:w3.ownsRow 0 9 1 v3 (L.length+1) (strs ((L.map fun lo=>lo.m.name)++[nm]))) (q3:∀ g,v3.ownBlock=some g->nv.ownBlock=some g\/w2.heap.size<=g) (hnt:nv.ownBlock≠some tb) (hnw:nv.ownBlock≠some wb) (htw:tb≠wb) :
  AddA c w wb lb nm L nv (some tb) (w3.setCell ⟨wb,0,none⟩ v3) tb v3:=by
 have htl:tb<w2.heap.size:=hm.lt
 have hx3:Ext wb w3 (w3.setCell ⟨wb,0,none⟩ v3):=(Ext.refl _ _).set 0 _
 have hnx:∀ b,v3.ownBlock=some b->(nv.ownBlock=some b\/w.heap.size<=b)/\b≠tb/\b≠wb:=fun b hb=>by
  rcases q3 b hb with q|q
  ·exact⟨Or.inl q,fun e=>hnt (e ▸ q),fun e=>hnw (e ▸ q)⟩
  ·exact⟨Or.inr (by omega),by omega,by omega⟩
 refine⟨(zu 0 _ e3).trans rfl,Or.inl rfl,⟨n+1,by omega,hm.on ((zx _ htw).trans (hb _ htl hnt))⟩,zH q1 (fun b _ _ h3=>zx b (hnx b h3).2.2),hnx,(hx3.os.trans o1).trans hx.os,(hx3.tape.trans o2).trans hx.tape,(hx3.output.trans o3).trans hx.output,by have:=hx3.size;omega,fun b h1 h2 h3 h4=>?_⟩
 exact((zx b h2).trans (hb b (by omega) h4)).trans (hx.block b h1 (fun e=>h3 (by rw[e])))
theorem strs_snoc (l:List Bs) (n:Bs):strs l++[.string (bs n)]=strs (l++[n]):=by simp[strs]
theorem add_any {X:Nat->Prop}{c:Nat}{w:World}{wb lb tb:Nat}{nm:Bs}{L:List Lo}{P:List Pt}{nv:Value}{v1 v2 v3 v4 v5:Value}(h:WW X w wb L P nv tb) (hL:L.length<=10) (hl:w.heap[lb]?=some (.cells #[.string (bs nm),v1,v2,v3,v4,v5] 107 (0,0))) (hne:lb≠tb) (_:nv.ownBlock≠some lb) (hn:nm.length<=1000000) (hmc:∃ n,n<=c/\MapV w tb n (thrL L)) (hc:c<=90) :
  Calls Tryz.prog 40 #[.pointer (some ⟨wb,0,none⟩),.pointer (some ⟨lb,0,none⟩)] w fun e w'=>e=.returned (.tuple #[])/\∃ tb' nv',AddA c w wb lb nm L nv (some tb) w' tb' nv':=by
 obtain⟨i1,hi,hz0,hz1,hz2⟩:=info_parts Tryz.infoString
 have hms:=Tryz.mapSome tb
 have hw:=h.blk
 have hwl:=zf hw
 have hll:=zf hl
 have k1:w.cell? ⟨wb,1,none⟩=some (.map (some tb)):=(za hw).trans rfl
 have kl:w.cell? ⟨lb,0,none⟩=some (.string (bs nm)):=(za hl).trans rfl
 obtain⟨n0,hn0,hm1⟩:=hmc
 obtain⟨w2,hmu,q1,q2,q3⟩:=(hm1.on (w':=w.drew) rfl).store (t:=26) Tryz.underlying26 (by omega) nm hn (.pointer (some ⟨lb,0,none⟩))
 have htw:=h.tx.2.1
 have hnx:=h.nx
 have hnw:nv.ownBlock≠some wb:=fun e=>(hnx _ e).2.1 rfl
 have hnt:nv.ownBlock≠some tb:=fun e=>(hnx _ e).2.2.1 rfl
 have hb2:w2.heap[wb]?=some (.cells #[nv,.map (some tb)] 28 (0,0)):=(q2.block wb hwl (fun e=>htw e.symm)).trans hw
 have hl2:w2.heap[lb]?=some (.cells #[.string (bs nm),v1,v2,v3,v4,v5] 107 (0,0)):=(q2.block lb hll hne).trans hl
 have hs2:w2.heap.size=w.heap.size:=q3
 have hx2:Ext tb w w2:=⟨q2.os,q2.tape,q2.output,by omega,fun b h1 h2=>q2.block b h1 h2⟩
 have hown2:w2.ownsRow 0 9 1 nv L.length (strs (L.map fun lo=>lo.m.name)):=zH h.nm (fun b _ hl ho=>q2.block b hl (fun e=>hnt (e ▸ ho)))
 have HOW:Hid (∀ ob,(w2.alloc ob).ownsRow 0 9 1 nv L.length (strs (L.map fun lo=>lo.m.name))):=fun ob=>zH hown2 (fun b _ hl _=>Below.heap_alloc _ _ _ hl)
 have HFIN:Hid (∀(w3:World) (v3:Value),w3.heap[wb]?=some (.cells #[nv,.map (some tb)] 28 (0,0))->w3.os=w2.os->w3.tape=w2.tape->w3.output=w2.output->w2.heap.size<=w3.heap.size->(∀ b,b<w2.heap.size->nv.ownBlock≠some b->w3.heap[b]?=w2.heap[b]?)->w3.ownsRow 0 9 1 v3 (L.length+1) (strs ((L.map fun lo=>lo.m.name))++[.string (bs nm)])->(∀ g,v3.ownBlock=some g->nv.ownBlock=some g\/w2.heap.size<=g)->AddA c w wb lb nm L nv (some tb) (w3.setCell ⟨wb,0,none⟩ v3) tb v3):=fun w3 v3 e3 o1 o2 o3 o4 hb r1 r3=>by
  rw[strs_snoc]at r1
  exact add_fin2 hwl hx2 hs2 q1 hn0 e3 o1 o2 o3 o4 hb r1 r3 hnt hnw htw
 obtain⟨ao,cap,hnv⟩:=zw hown2
 have n0':w2.cell? ⟨wb,0,none⟩=some nv:=(za hb2).trans rfl
 have nl:w2.cell? ⟨lb,0,none⟩=some (.string (bs nm)):=(za hl2).trans rfl
 have hwl2:wb<w2.heap.size:=zf hb2
 have hll2:lb<w2.heap.size:=zf hl2
 have HB2:=zh hb2
 have hn0a:∀ ob,(w2.alloc ob).cell? ⟨wb,0,none⟩=some nv:=fun ob=>(World.cell?_of_block (w:=w2) (Below.heap_alloc _ _ _ hwl2)).trans n0'
 have hnl:∀ ob,(w2.alloc ob).cell? ⟨lb,0,none⟩=some (.string (bs nm)):=fun ob=>(World.cell?_of_block (w:=w2) (Below.heap_alloc _ _ _ hll2)).trans nl
 have HNW:=zh hnw
 have HSL:Hid ((strs (L.map fun lo=>lo.m.name)).length=L.length * 1/\∀ u∈strs (L.map fun lo=>lo.m.name),u.oneCell'=true):=⟨by simp[strs],fun u hu=>by simp[strs]at hu;obtain⟨b,_,rfl⟩:=hu;rfl⟩
 clear hw hl hm1 q1 q2 q3 hb2 hl2 hx2 hnx hnt hnw h hown2 hn0 htw hne
 rw[hnv]at HOW HFIN n0' hn0a HB2 HNW ⊢
 clear hnv
 have HS2:=zh hs2
 clear hs2
 generalize hss:strs (L.map fun lo=>lo.m.name)=ss at *
 clear hss
 generalize L.length=ln at *
 go_enter Tryz.func40,Tryz.ntmps40
 go_upto_region 2 with fail
 go_region
 clear k1 kl hmu
 go_upto_region 3 with fail
 go_region_law (first|(refine zW rfl (.tmp 27) (.tmp 33) 25 rfl 0 9 i1 (.string ⟨#[]⟩) 1 16 Tryz.underlying25 hi hz0 hz1 hz2 rfl (by decide) (.slice ao ln cap) ln ss (by simp[Act.eval]) ?hown ⟨w2.heap.size,0,none⟩ 1 1 [.string (bs nm)] (by simp[Act.eval]) rfl ?news (by intro u hu;simp at hu;subst hu;rfl) (by unfold maxLen;omega) (by omega) (by omega) ?_;(case hown=>exact HOW.out _);(case news=>(intro j u hj;rw[Addr.add_lit];cases j with|zero=>(simp at hj;subst hj;first|exact(za (zo w2 _)).trans rfl|exact(za (zo w2.drew _)).trans rfl)|succ j=>simp at hj));intro v3' w3 q1 q2 q3;obtain⟨a3,c3,hv3⟩:=zw q1;subst hv3;have e3:w3.heap[wb]?=some (.cells #[.slice ao ln cap,.map (some tb)] 28 (0,0)):=(q2.block wb (by simp;omega) (fun e=>HNW.out e.symm)).trans ((Below.heap_alloc w2 _ wb hwl2).trans HB2.out);have n3:w3.cell? ⟨wb,0,none⟩=some (.slice ao ln cap):=(za e3).trans rfl;have z3:w3.frozen? ⟨wb,0,none⟩=false:=zi e3;have HF:=zh (HFIN.out w3 _ e3 q2.os q2.tape q2.output (by have:=q2.size;simp at this;omega) (fun b hb hne=>(q2.block b (by simp;omega) (fun e=>hne e.symm)).trans (Below.heap_alloc w2 _ b hb)) q1 (fun g hg=>(q3 g hg).elim Or.inl (fun z=>Or.inr (by simp at z;omega))));clear q1 q2 q3 e3))
 all_goals exact bodyPost_end (results_none rfl _ _ _) rfl ⟨rfl,tb,_,HF.out⟩
theorem thrL_add {L:List Lo}{lo:Lo}(h:(L.find? fun x=>x.m.name == lo.m.name)=none):thrL (L++[lo])=updV (thrL L) lo.m.name (.pointer (some ⟨lo.lb,0,none⟩)):=by
 funext k
 unfold thrL updV
 rw[List.find?_append]
 by_cases hk:k=lo.m.name
 ·rw[if_pos hk,hk,h]
  simp
 ·rw[if_neg hk,List.find?_cons_of_neg (by simpa using fun e=>hk e.symm)]
  simp
theorem add_gen {X:Nat->Prop}{c:Nat}{w:World}{wb lb:Nat}{tv:Option Nat}{nm:Bs}{L:List Lo}{P:List Pt}{nv:Value}{v1 v2 v3 v4 v5:Value}(h:WX X w wb L P nv tv) (hL:L.length<=10) (hl:w.heap[lb]?=some (.cells #[.string (bs nm),v1,v2,v3,v4,v5] 107 (0,0))) (hno:¬Mut L wb tv nv lb) (hn:nm.length<=1000000) (hmc:MapC w tv L c) (hc:c<=90) :
  Calls Tryz.prog 40 #[.pointer (some ⟨wb,0,none⟩),.pointer (some ⟨lb,0,none⟩)] w fun e w'=>e=.returned (.tuple #[])/\∃ tb' nv',AddA c w wb lb nm L nv tv w' tb' nv':=by
 cases tv with
 | some tb=>exact add_any h hL hl (fun e=>hno (Or.inr (Or.inr (Or.inl (by rw[e]))))) (fun e=>hno (Or.inr (Or.inr (Or.inr e)))) hn (hmc tb rfl) hc
 | none =>
  obtain⟨rfl,rfl,rfl,_,h5⟩:=h
  have hwl:=zf h5
  refine(add_first h5 hl (fun e=>hno (Or.inr (Or.inl e))) hn).mono ?_
  rintro e w' ⟨he,hx,tb,nv',h1,h2,h3,h4,h6⟩
  refine⟨he,tb,nv',h1,Or.inr ⟨rfl,h2⟩,⟨1,by omega,?_⟩,h4,fun b hb=>⟨Or.inr (h6 b hb).1,(h6 b hb).2,by have:=(h6 b hb).1;omega⟩,hx.os,hx.tape,hx.output,hx.size,fun b q1 q2 _ _=>hx.block b q1 q2⟩
  have:thrL []=fun _=>none:=by funext k;rfl
  rw[this]
  exact h3
theorem ww_add {X:Nat->Prop}{D:Nat->Prop}{c:Nat}{w w6 w7 w8:World}{wb:Nat}{L:List Lo}{P:List Pt}{nv:Value}{tv:Option Nat}{m:Tp.M}{ia ga pa ba:Option Addr}{ic gc pc bc lb vb tb':Nat}{nv':Value}{sl:Bs->Nat}(hm:Tp.WM m) (h:WX X w wb L P nv tv) (hX:∀ b,X b->b<w.heap.size) (hWI:Tp.WI ofS P) (hnew:Tp.partOf P m.name=none) (hck:Tp.check m (Tp.seenW ofS P)=none) (hmd:MD w D m ia ga pa ba ic gc pc bc) (hD:∀ b,D b->b<w.heap.size->¬X b/\¬Mut L wb tv nv b)
  (h6:Below w.heap.size w w6) (hlb:w.heap.size<=lb) (hvb:w.heap.size<=vb) (hbl:w6.heap[lb]?=some (.cells (lcells m ia ga pa ba ic gc pc bc vb) 107 (0,0))) (hla:Laid w6 w.heap.size vb m.vars m.vars.length sl) (hsl:∀ g∈m.vars,sl g.name≠lb/\sl g.name≠vb)
  (h7:Below w6.heap.size w6 w7) (hc:c<=90) (h8:AddA c w7 wb lb m.name L nv tv w8 tb' nv') :
  WW X w8 wb (L++[⟨m,lb,vb,sl⟩]) (P++[⟨m,Tp.fresh m⟩]) nv' tb'/\Tp.WI ofS (P++[⟨m,Tp.fresh m⟩])/\MapC w8 (some tb') (L++[⟨m,lb,vb,sl⟩]) (c+1)/\Tr (Mut L wb tv nv) (Mut (L++[⟨m,lb,vb,sl⟩]) wb (some tb') nv') w w8:=by
 have hWI2:Tp.WI ofS (P++[⟨m,Tp.fresh m⟩]):=Tp.WI.add (q:=⟨m,Tp.fresh m⟩) hWI hnew hck
 have hmw:=h.mw
 have hmw2:Tp.ms (P++[⟨m,Tp.fresh m⟩])=(L++[(⟨m,lb,vb,sl⟩:Lo)]).map fun lo=>lo.m:=by
  unfold Tp.ms at hmw ⊢
  rw[List.map_append,List.map_append,hmw]
  rfl
 have hfind:(L.find? fun lo=>lo.m.name == m.name)=none:=by
  rw[List.find?_eq_none]
  intro lo hlo q
  have q':lo.m.name=m.name:=by simpa using q
  have hmem:lo.m∈Tp.ms P:=by rw[hmw];exact List.mem_map.2 ⟨lo,hlo,rfl⟩
  obtain⟨p,hp,hpe⟩:=List.mem_map.1 hmem
  have:=List.find?_eq_none.1 hnew p hp
  simp[hpe,q']at this
 have hfitAll:∀ x∈(L++[(⟨m,lb,vb,sl⟩:Lo)]),Tp.WM x.m->Tp.FitM ((L++[(⟨m,lb,vb,sl⟩:Lo)]).map fun lo=>lo.m) x.m:=fun x hx hw=>by
  rw[<-hmw2]
  exact hWI2.fit jx (by rw[hmw2];exact List.mem_map.2 ⟨x,hx,rfl⟩) hw
 have hs6:=h6.size
 have hs7:=h7.size
 have hs8:=h8.size
 have htk:m.vars.take m.vars.length=m.vars:=List.take_length
 have hat:=hla.at'
 have hinj:=hla.inj
 have hmp:=hla.map
 rw[htk]at hat hinj hmp
 have hsvlt:∀ g∈m.vars,sl g.name<w6.heap.size:=fun g hg=>zf (hat g hg).2
 have hmut:=fun {b:Nat} (q:Mut L wb tv nv b)=>h.mlt q
 have hwl:wb<w.heap.size:=zf h.blk
 have hVL:∀ b,VLo (L++[⟨m,lb,vb,sl⟩]) b->VLo L b\/∃ g∈m.vars,b=sl g.name:=by
  rintro b ⟨lo,hlo,g,hg,e⟩
  rcases List.mem_append.1 hlo with q|q
  ·exact Or.inl ⟨lo,q,g,hg,e⟩
  ·rw[List.mem_singleton]at q
   subst q
   exact Or.inr ⟨g,hg,e⟩
 have hVn:∀ b,VLo (L++[⟨m,lb,vb,sl⟩]) b->VLo L b\/w.heap.size<=b/\b<w6.heap.size/\b≠lb/\b≠vb:=fun b q=>by
  rcases hVL b q with q|⟨g,hg,rfl⟩
  ·exact Or.inl q
  ·exact Or.inr ⟨(hat g hg).1,hsvlt g hg,(hsl g hg).1,(hsl g hg).2⟩
 have hVo:∀ b,VLo L b->VLo (L++[⟨m,lb,vb,sl⟩]) b:=by
  rintro b ⟨lo,hlo,g,hg,e⟩
  exact⟨lo,List.mem_append_left _ hlo,g,hg,e⟩
 have htb:tv=some tb'\/w7.heap.size<=tb':=h8.tt.imp id (fun q=>q.2)
 have hnb:∀ b,nv'.ownBlock=some b->nv.ownBlock=some b\/w7.heap.size<=b:=fun b q=>(h8.nx b q).1
 have hk:∀ b,b<w6.heap.size->¬Mut L wb tv nv b->w8.heap[b]?=w6.heap[b]?:=fun b hb hne=>(h8.block b (by omega) (fun e=>hne (Or.inr (Or.inl e))) (fun e=>hne (Or.inr (Or.inr (Or.inl e)))) (fun e=>hne (Or.inr (Or.inr (Or.inr e))))).trans (h7.block b hb)
 have hnm6:∀ b,w.heap.size<=b->¬Mut L wb tv nv b:=fun b hb q=>by have:=(hmut q).1;omega
 have hlbl:=zf hbl
 have hvbl:=hmp.lt
 have hnX:∀ b,w.heap.size<=b->¬X b:=fun b hb q=>by have:=hX b q;omega
 have hold:∀ b,b<w.heap.size->¬X b->¬Mut L wb tv nv b->StB X (L++[⟨m,lb,vb,sl⟩]) wb tb' nv' b:=fun b hb hx hu=>by
  refine⟨hx,fun q=>?_,fun e=>hu (Or.inr (Or.inl e)),fun e=>?_,fun e=>?_⟩
  ·rcases hVn b q with q|q
   ·exact hu (Or.inl q)
   ·omega
  ·rcases htb with q|q
   ·exact hu (Or.inr (Or.inr (Or.inl (e ▸ q))))
   ·omega
  ·rcases hnb b e with q|q
   ·exact hu (Or.inr (Or.inr (Or.inr q)))
   ·omega
 have hst:∀ b,w.heap.size<=b->b<w6.heap.size->(∀ g∈m.vars,sl g.name≠b)->StB X (L++[⟨m,lb,vb,sl⟩]) wb tb' nv' b:=fun b h1 h2 h3=>by
  refine⟨hnX b h1,fun q=>?_,by omega,fun e=>?_,fun e=>?_⟩
  ·rcases hVL b q with q|⟨g,hg,e⟩
   ·exact hnm6 b h1 (Or.inl q)
   ·exact h3 g hg e.symm
  ·rcases htb with q|q
   ·exact hnm6 b h1 (Or.inr (Or.inr (Or.inl (e ▸ q))))
   ·omega
  ·rcases hnb b e with q|q
   ·exact hnm6 b h1 (Or.inr (Or.inr (Or.inr q)))
   ·omega
 have hwwold:∀ lo∈L,∃ tb,tv=some tb/\WW X w wb L P nv tb:=fun lo hlo=>h.ww hlo
 have hstM:∀ {tb b:Nat},tv=some tb->StB X L wb tb nv b->¬X b/\¬Mut L wb tv nv b:=fun ht hs=>⟨hs.1,fun q=>by
  rcases q with q|q|q|q
  ·exact hs.2.1 q
  ·exact hs.2.2.1 q
  ·rw[ht]at q;cases q;exact hs.2.2.2.1 rfl
  ·exact hs.2.2.2.2 q⟩
 have hnotV:∀ b,Mut L wb tv nv b->¬VLo L b->¬VLo (L++[⟨m,lb,vb,sl⟩]) b:=fun b q hv q2=>by
  rcases hVn b q2 with z|z
  ·exact hv z
  ·have:=(hmut q).1;omega
 have hLnil:tv=none->L=[]:=fun e=>by subst e;exact h.1
 refine⟨⟨h8.blk,⟨h.xw,?_⟩,?_,fun b hb=>?_,⟨?_,?_,?_⟩,?_,fun lo hlo=>?_,fun b hb=>?_,?_,?_,fun lo hlo=>?_,hmw2⟩,hWI2,?_,?_⟩
 ·refine hnotV wb (Or.inr (Or.inl rfl)) ?_
  rintro⟨lo,hlo,g,hg,e⟩
  obtain⟨tb,_,hw⟩:=hwwold lo hlo
  exact hw.xw.2 ⟨lo,hlo,g,hg,e⟩
 ·have:=h8.nm
  simpa using this
 ·obtain⟨q1,q2,q3⟩:=h8.nx b hb
  have hbX:¬X b:=by
   rcases q1 with q|q
   ·exact(hmut (Or.inr (Or.inr (Or.inr q)))).2
   ·exact hnX b (by omega)
  refine⟨hbX,q3,q2,fun q=>?_⟩
  rcases q1 with z|z
  ·refine hnotV b (Or.inr (Or.inr (Or.inr z))) ?_ q
   rintro⟨lo,hlo,g,hg,e⟩
   obtain⟨tb,_,hw⟩:=hwwold lo hlo
   exact(hw.nx b z).2.2.2 ⟨lo,hlo,g,hg,e⟩
  ·rcases hVn b q with y|y
   ·have:=(hmut (Or.inl y)).1;omega
   ·omega
 ·rcases htb with q|q
  ·exact(hmut (Or.inr (Or.inr (Or.inl q)))).2
  ·exact hnX _ (by omega)
 ·rcases h8.tt with q|q
  ·subst q
   exact(show WW X w wb L P nv tb' from h).tx.2.1
  ·omega
 ·rcases h8.tt with q|q
  ·subst q
   exact hnotV tb' (Or.inr (Or.inr (Or.inl rfl))) (show WW X w wb L P nv tb' from h).tx.2.2
  ·intro z
   rcases hVn _ z with y|y
   ·have:=(hmut (Or.inl y)).1;omega
   ·omega
 ·obtain⟨n,hn,hmv⟩:=h8.map
  refine⟨n,by omega,?_⟩
  rw[thrL_add (lo:=⟨m,lb,vb,sl⟩) hfind]
  exact hmv
 ·rcases List.mem_append.1 hlo with hlo'|hlo'
  ·obtain⟨tb,ht,hw⟩:=hwwold lo hlo'
   obtain⟨⟨ia',ga',pa',ba',ic',gc',pc',bc',h1,h2⟩,h3,h4,⟨n,h5⟩,h9⟩:=hw.lo lo hlo'
   have hkk:∀ b,StB X L wb tb nv b->b<w.heap.size->w8.heap[b]?=w.heap[b]?/\StB X (L++[⟨m,lb,vb,sl⟩]) wb tb' nv' b:=fun b hs hl=>⟨(hk b (by omega) (hstM ht hs).2).trans (h6.block b hl),hold b hl (hstM ht hs).1 (hstM ht hs).2⟩
   exact⟨⟨ia',ga',pa',ba',ic',gc',pc',bc',(hkk _ h3 (zf h1)).1.trans h1,h2.mono hkk⟩,(hkk _ h3 (zf h1)).2,(hkk _ h4 h5.lt).2,⟨n,h5.on (hkk _ h4 h5.lt).1⟩,hfitAll lo hlo h9.wm⟩
  ·rw[List.mem_singleton]at hlo'
   subst hlo'
   refine⟨⟨ia,ga,pa,ba,ic,gc,pc,bc,(hk lb hlbl (hnm6 lb hlb)).trans hbl,hmd.mono (fun b hb hl=>⟨(hk b (by omega) (hD b hb hl).2).trans (h6.block b hl),hold b hl (hD b hb hl).1 (hD b hb hl).2⟩)⟩,hst lb hlb hlbl (fun g hg=>(hsl g hg).1),hst vb hvb hvbl (fun g hg=>(hsl g hg).2),⟨m.vars.length,hmp.on (hk vb hvbl (hnm6 vb hvb))⟩,hfitAll _ hlo hm⟩
 ·rcases hVn b hb with q|q
  ·exact⟨by have:=(hmut (Or.inl q)).1;omega,(hmut (Or.inl q)).2⟩
  ·exact⟨by omega,hnX b q.1⟩
 ·rw[List.map_append,List.nodup_append]
  refine⟨h.nd,by simp,fun a ha b hb e=>?_⟩
  obtain⟨lo,hlo,rfl⟩:=List.mem_map.1 ha
  simp at hb
  have:=List.find?_eq_none.1 hfind lo hlo
  simp[e.trans hb]at this
 ·intro lo hlo lo' hlo' g hg g' hg' e
  rcases List.mem_append.1 hlo with q|q <;> rcases List.mem_append.1 hlo' with q'|q'
  ·obtain⟨tb,_,hw⟩:=hwwold lo q
   exact hw.inj lo q lo' q' g hg g' hg' e
  ·rw[List.mem_singleton]at q'
   subst q'
   have h1:=(hmut (Or.inl ⟨lo,q,g,hg,rfl⟩)).1
   have h2:=(hat g' hg').1
   have e':lo.sl g.name=sl g'.name:=e
   omega
  ·rw[List.mem_singleton]at q
   subst q
   have h1:=(hmut (Or.inl ⟨lo',q',g',hg',rfl⟩)).1
   have h2:=(hat g hg).1
   have e':sl g.name=lo'.sl g'.name:=e
   omega
  ·rw[List.mem_singleton]at q q'
   subst q
   subst q'
   exact⟨rfl,hinj g hg g' hg' e⟩
 ·rcases List.mem_append.1 hlo with hlo'|hlo'
  ·obtain⟨tb,ht,hw⟩:=hwwold lo hlo'
   obtain⟨p,p1,p2,p3⟩:=hw.vals lo hlo'
   have hne:lo.m.name≠m.name:=fun e=>by
    have:=List.find?_eq_none.1 hfind lo hlo'
    simp[e]at this
   refine⟨p,(Tp.part_last (q:=⟨m,Tp.fresh m⟩) hne).trans p1,p2,fun g hg=>⟨(p3 g hg).1,?_,(p3 g hg).2.2⟩⟩
   have hv:VLo L (lo.sl g.name):=⟨lo,hlo',g,hg,rfl⟩
   have hl:=(hw.sv _ hv).1
   refine(((h8.block _ (by omega) (fun e=>?_) (fun e=>?_) (fun e=>?_)).trans (h7.block _ (by omega))).trans (h6.block _ hl)).trans (p3 g hg).2.1
   ·exact hw.xw.2 (e ▸ hv)
   ·rw[ht]at e;cases e;exact hw.tx.2.2 hv
   ·exact(hw.nx _ e).2.2.2 hv
  ·rw[List.mem_singleton]at hlo'
   subst hlo'
   have hvn:=(hfitAll _ hlo hm).vn
   refine⟨⟨m,Tp.fresh m⟩,?_,rfl,fun g hg=>?_⟩
   ·unfold Tp.partOf at hnew ⊢
    rw[List.find?_append,hnew]
    simp
   ·simp only
    rw[xu hvn hg]
    refine⟨by simp,?_,fun v hv=>?_⟩
    ·exact(hk _ (hsvlt g hg) (hnm6 _ (hat g hg).1)).trans (hat g hg).2
    ·rw[(List.mem_replicate.1 hv).2];decide
 ·intro tb e
  cases e
  obtain⟨n,hn,hmv⟩:=h8.map
  refine⟨n,by omega,?_⟩
  rw[thrL_add (lo:=⟨m,lb,vb,sl⟩) hfind]
  exact hmv
 ·refine⟨(h8.os.trans h7.os).trans h6.os,(h8.tape.trans h7.tape).trans h6.tape,(h8.output.trans h7.output).trans h6.output,by omega,fun b hb hu=>(hk b (by omega) hu).trans (h6.block b hb),fun b hb=>?_⟩
  rcases hb with q|q|q|q
  ·rcases hVn b q with y|y
   ·exact Or.inl (Or.inl y)
   ·exact Or.inr y.1
  ·exact Or.inl (Or.inr (Or.inl q))
  ·cases q
   rcases htb with y|y
   ·exact Or.inl (Or.inr (Or.inr (Or.inl y)))
   ·exact Or.inr (by omega)
  ·rcases hnb b q with y|y
   ·exact Or.inl (Or.inr (Or.inr (Or.inr y)))
   ·exact Or.inr (by omega)
end Go.Proofs.YtibncofnnlbmcaaGreatDoor
