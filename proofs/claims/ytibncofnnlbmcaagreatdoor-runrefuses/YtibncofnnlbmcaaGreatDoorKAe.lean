import Derived.Test.YtibncofnnlbmcaaGreatDoorKAa
import Derived.Test.YtibncofnnlbmcaaGreatDoorKAd
import Derived.Test.YtibncofnnlbmcaaGreatDoorKQi
set_option maxRecDepth 100000
set_option maxHeartbeats 4000000
namespace Go.Proofs.YtibncofnnlbmcaaGreatDoor
open Go.RowKit Go.Maps
open Tp (Bs X S G Pr Pt Rs Rr Own)
structure AnsP (X U:Nat->Prop) (c:Nat) (w:World) (wb:Nat) (a:Tp.Ans) (oa:Option Addr) (w':World):Prop where
 wz:∃ U',WZ X U' (c+1) w' wb a.w/\Tr U U' w w'
 it:IntsAt w' a.e.out oa
 oi:∀ v∈a.e.out,Tp.I64 v
 ol:a.e.out.length<=200
 far:∀ x,oa=some x->w.heap.size<=x.block
def LoadQ (X U:Nat->Prop) (c:Nat) (w:World) (wb:Nat) (a:Tp.Ans) (e:Ending) (w':World):Prop:=∃ oa oc ev,e=.returned (.tuple #[.agg #[.int .i64 (a.e.way:Int),.slice oa a.e.out.length oc],ev])/\a.e.out.length<=oc/\AnsP X U c w wb a oa w'/\EvT w.heap.size w' a.err ev
theorem yW {X U:Nat->Prop}{c:Nat}{w w':World}{wb:Nat}{P:List Pt}{er:Nat× Option Nat}{n:Int}(h:WZ X U c w wb P) (hb:Below w.heap.size w w'):AnsP X U c w wb ⟨P,Tp.no,n,some er⟩ none w' :=
 ⟨⟨U,(h.on hb).more (by omega),Tr.below hb⟩,⟨fun i hi=>(by cases hi)⟩,(fun v hv=>(by cases hv)),(by show (0:Nat)<=200;omega),fun x hx=>(by cases hx)⟩
theorem loadS_ok {P:List Pt}{m:Tp.M}{fuel:Nat}(hnew:Tp.partOf P m.name=none) (h:Tp.check m (Tp.seenW ofS P)=none) (hl:P.length<10):Tp.loadW ofS P m fuel=⟨(Tp.endOf (Tp.goS (Tp.gasOf (P++[⟨m,Tp.fresh m⟩]) m.body fuel) 0 m.name (fun _=>none) m.body ⟨P++[⟨m,Tp.fresh m⟩],fuel,[]⟩)).1,(Tp.endOf (Tp.goS (Tp.gasOf (P++[⟨m,Tp.fresh m⟩]) m.body fuel) 0 m.name (fun _=>none) m.body ⟨P++[⟨m,Tp.fresh m⟩],fuel,[]⟩)).2,0,none⟩:=by
 unfold Tp.loadW
 rw[if_neg (by rw[hnew];simp),h]
 simp only
 rw[if_neg (by omega)]
theorem loadA_ok {X:Nat->Prop}{w:World}{wb fuel:Nat}{L:List Lo}{P:List Pt}{nv:Value}{tv:Option Nat}{m:Tp.M}{ia ga pa ba:Option Addr}{ic gc pc bc:Nat}(h:WX X w wb L P nv tv) (hL:L.length<=10) (hmb:MB w w.heap.size m ia ga pa ba ic gc pc bc) (hm:Tp.WM m) {D:Nat->Prop}{c:Nat}(hX:∀ b,X b->b<w.heap.size) (hWI:Tp.WI ofS P) (hmc:MapC w tv L c) (hc:c<=90) (hmd:MD w D m ia ga pa ba ic gc pc bc) (hD:∀ b,D b->b<w.heap.size->¬X b/\¬Mut L wb tv nv b) (hf:fuel<=800000) (hnP:∀ x∈Tp.ms P,Tp.nM x<=1000) (hnm:Tp.nM m<=1000) (hnew:Tp.partOf P m.name=none) (hptr:ptrV L m.name=none) :
  Calls Tryz.prog 17 #[.pointer (some ⟨wb,0,none⟩),.agg (mcells (bs m.name) (.slice ia m.imports.length ic) (.slice ga m.vars.length gc) (.slice pa m.procs.length pc) (.slice ba m.body.length bc)),.int .i64 (fuel:Int)] w (LoadQ X (Mut L wb tv nv) c w wb (Tp.loadW ofS P m fuel)):=by
 have hPL:P.length=L.length:=by have:=congrArg List.length h.mw;simpa[Tp.ms] using this
 have hWIa:Tp.WI ofS (Tp.loadW ofS P m fuel).w:=Tp.WI.load hWI
 obtain⟨a,ha⟩:∃ a,a=Tp.loadW ofS P m fuel:=⟨_,rfl⟩
 obtain⟨ck,hcke⟩:∃ ck,ck=Tp.check m (Tp.seenW ofS P):=⟨_,rfl⟩
 have HA3:Hid (ck=none->P.length<10->a=_):=fun e1 e2=>ha.trans (loadS_ok (fuel:=fuel) hnew (hcke.symm.trans e1) e2)
 have HA1:Hid (∀ er,ck=some er->a=⟨P,Tp.no,0,some er⟩):=fun er e=>by
  rw[ha]
  unfold Tp.loadW
  rw[if_neg (by rw[hnew];simp),<-hcke,e]
 have HA2:Hid (ck=none->10<=P.length->a=⟨P,Tp.no,0,some (12,none)⟩):=fun e1 e2=>by
  rw[ha]
  unfold Tp.loadW
  rw[if_neg (by rw[hnew];simp),<-hcke,e1]
  exact if_pos e2
 have hz:WZ X (Mut L wb tv nv) c w wb P:=⟨L,nv,tv,h,hL,hWI,fun b=>Iff.rfl,hmc,hnP⟩
 have HERR:Hid (∀ er ev w4,a=⟨P,Tp.no,0,some er⟩->Below w.heap.size w w4->EvT w.heap.size w4 (some er) ev->LoadQ X (Mut L wb tv nv) c w wb a (.returned (.tuple #[no2,ev])) w4):=fun er ev w4 e hb hev=>by
  rw[e]
  exact⟨none,0,ev,rfl,Nat.le_refl _,yW hz hb,hev⟩
 rw[<-ha]at hWIa ⊢
 have HCKE:=zh hcke
 have HPL:=zh hPL
 have HWIa:=zh hWIa
 have HXs:=zh hX
 have HWI:=zh hWI
 have HMC:=zh hmc
 have HMD:=zh hmd
 have HD:=zh hD
 have HNEW:=zh hnew
 have HNP:=zh hnP
 have HNM:=zh hnm
 clear hz hnP hnm ha hWIa hX hWI hmc hmd hD hPL hnew hcke
 have hnl:=zQ hm.n
 have hwl:=zf h.blk
 obtain⟨W,hW⟩:∃ W,W=(w.alloc (.cells (mcells (bs m.name) (.slice ia m.imports.length ic) (.slice ga m.vars.length gc) (.slice pa m.procs.length pc) (.slice ba m.body.length bc)) 36)).alloc (.cells #[.int .i64 0,.slice none 0 0] 43):=⟨_,rfl⟩
 have hbW:Below w.heap.size w W:=by rw[hW];exact(zb _ _).alloc (by simp) _
 have hsW:W.heap.size=w.heap.size+2:=by rw[hW];simp
 have hkm:W.heap[w.heap.size]?=some (.cells (mcells (bs m.name) (.slice ia m.imports.length ic) (.slice ga m.vars.length gc) (.slice pa m.procs.length pc) (.slice ba m.body.length bc)) 36 (0,0)):=by rw[hW];exact(Below.heap_alloc _ _ _ (by simp)).trans (zo _ _)
 have hke:W.heap[w.heap.size+1]?=some (.cells #[.int .i64 0,.slice none 0 0] 43 (0,0)):=by
  have:=zo (w.alloc (.cells (mcells (bs m.name) (.slice ia m.imports.length ic) (.slice ga m.vars.length gc) (.slice pa m.procs.length pc) (.slice ba m.body.length bc)) 36)) (.cells #[.int .i64 0,.slice none 0 0] 43)
  rw[hW]
  simpa using this
 have hww:=(hbW.block wb hwl).trans h.blk
 have k1:W.cell? ⟨wb,1,none⟩=some (.map tv):=(za hww).trans rfl
 have km:W.cell? ⟨w.heap.size,0,none⟩=some (.string (bs m.name)):=(za hkm).trans rfl
 have hlk:∀ n,(Instr.lookup 26 (.map tv) (.string (bs m.name)) false).run Tryz.prog (W.drewN n)=.ok (.pointer none) (W.drewN n):=fun n=>by
  have:=((h.on hbW).on (below_drewN (Below.refl W.heap.size W) n)).look m.name (by omega)
  rw[hptr]at this
  exact this
 have HMB:=zh hmb
 have HSM:=zh hm.sml
 have HBW:=zh hbW
 have HKM:=zh hkm
 have HKE:=zh hke
 have HWW:=zh hww
 have HM:=zh hm
 have HWX:=zh h
 have HSW:=zh hsW
 have hwlW:wb<W.heap.size:=by omega
 have hmlW:w.heap.size<W.heap.size:=by omega
 unfold mcells at *
 obtain⟨mn,hmn⟩:∃ mn,mn=bs m.name:=⟨_,rfl⟩
 obtain⟨Sn,hSn⟩:∃ Sn,Sn=Tp.seenW ofS P:=⟨_,rfl⟩
 have HCK:Hid (∀ W' sb,Below w.heap.size w W'->SeenV W' (.map (some sb)) Sn->Calls Tryz.prog 37 #[.agg #[.string mn,.slice ia m.imports.length ic,.slice ga m.vars.length gc,.slice pa m.procs.length pc,.slice ba m.body.length bc],.map (some sb)] W' (CheckP W' (Tp.check m Sn))):=fun W' sb hW' hmap=>by
  have:=yU HSM.out (HMB.out.up hW') hmap
  unfold mcells at this
  rw[hmn]
  exact this
 rw[<-hmn]at hW km hlk HKM ⊢
 have HMN:Hid (mn=bs m.name):=hmn
 have HSN:Hid (Sn=Tp.seenW ofS P):=hSn
 clear hmb hm hww hkm hke hbW hsW hmn hSn h hptr
 obtain⟨il,hil⟩:∃ il,il=m.imports.length:=⟨_,rfl⟩
 obtain⟨gl,hgl⟩:∃ gl,gl=m.vars.length:=⟨_,rfl⟩
 obtain⟨pl,hpl⟩:∃ pl,pl=m.procs.length:=⟨_,rfl⟩
 obtain⟨bl,hbl⟩:∃ bl,bl=m.body.length:=⟨_,rfl⟩
 rw[<-hil,<-hgl,<-hpl,<-hbl]at hW HKM HCK ⊢
 have HQ:=zh (And.intro hil (And.intro hgl (And.intro hpl hbl)))
 clear hil hgl hpl hbl
 go_enter Tryz.func17,Tryz.ntmps17
 go_upto_region 1 with fail
 rw[<-hW]
 clear hW
 go_quiet (fail)
 obtain⟨w1,hw1⟩:∃ w1,w1=W.drewN nq:=⟨_,rfl⟩
 have e1:w1.heap=W.heap:=by rw[hw1];rfl
 have HB1:Hid (Below W.heap.size W w1):=by rw[hw1];exact below_drewN (Below.refl _ _) _
 rw[<-hw1]
 clear hw1 hlk k1 km
 have hbd:Below W.heap.size W w1.drew:=HB1.out.drew
 have hmd:=(hbd.block _ hmlW).trans HKM.out
 have HS0:Hid (w1.drew.cell? ⟨w.heap.size,0,none⟩=some (.string mn)/\w1.drew.cell? ⟨w.heap.size,1,none⟩=some (.slice ia il ic)/\w1.drew.cell? ⟨w.heap.size,2,none⟩=some (.slice ga gl gc)/\w1.drew.cell? ⟨w.heap.size,3,none⟩=some (.slice pa pl pc)/\w1.drew.cell? ⟨w.heap.size,4,none⟩=some (.slice ba bl bc)):=ym hmd
 have hs1d:w1.drew.heap.size=W.heap.size:=by show w1.heap.size=_;rw[e1]
 have HSE:Hid (Calls Tryz.prog 38 #[.pointer (some ⟨wb,0,none⟩)] w1.drew fun e w2=>∃ sb,e=.returned (.map (some sb))/\(Below W.heap.size W w2/\SeenV w2 (.map (some sb)) Sn)/\(w2.cell? ⟨w.heap.size,0,none⟩=some (.string mn)/\w2.cell? ⟨w.heap.size,1,none⟩=some (.slice ia il ic)/\w2.cell? ⟨w.heap.size,2,none⟩=some (.slice ga gl gc)/\w2.cell? ⟨w.heap.size,3,none⟩=some (.slice pa pl pc)/\w2.cell? ⟨w.heap.size,4,none⟩=some (.slice ba bl bc))):=by
  refine(seen_any (HWX.out.on (HBW.out.trans (hbd.mono (by omega)))) hL).mono ?_
  rintro e w2 ⟨sb,rfl,hb2,hs2⟩
  have hB2:Below W.heap.size W w2:=hbd.trans (hb2.mono (by rw[hs1d];exact Nat.le_refl _))
  exact⟨sb,rfl,⟨hB2,by rw[HSN.out];exact hs2⟩,ym ((hB2.block _ hmlW).trans HKM.out)⟩
 have HCK2:Hid (∀ w2 sb,Below W.heap.size W w2/\SeenV w2 (.map (some sb)) Sn->Calls Tryz.prog 37 #[.agg #[.string mn,.slice ia il ic,.slice ga gl gc,.slice pa pl pc,.slice ba bl bc],.map (some sb)] w2 fun e w3=>∃ ev,e=.returned ev/\(Below W.heap.size W w3/\EvT W.heap.size w3 ck ev)/\(w3.cell? ⟨w.heap.size,0,none⟩=some (.string mn)/\w3.cell? ⟨w.heap.size,1,none⟩=some (.slice ia il ic)/\w3.cell? ⟨w.heap.size,2,none⟩=some (.slice ga gl gc)/\w3.cell? ⟨w.heap.size,3,none⟩=some (.slice pa pl pc)/\w3.cell? ⟨w.heap.size,4,none⟩=some (.slice ba bl bc))):=fun w2 sb h2=>by
  have:=HCK.out w2 sb (HBW.out.trans (h2.1.mono (by omega))) h2.2
  rw[HSN.out,<-HCKE.out]at this
  refine this.mono ?_
  intro e w3 hq
  obtain⟨hb3,ev,he,hev⟩:=ui hq
  have hB3:Below W.heap.size W w3:=h2.1.trans (hb3.mono h2.1.size)
  exact⟨ev,he,⟨hB3,hev.lower h2.1.size⟩,ym ((hB3.block _ hmlW).trans HKM.out)⟩
 clear hbd hmd HCK hs1d
 go_upto_region 3 with fail
 go_region_held3 (fun w'=>w'.cell? ⟨w.heap.size,0,none⟩=some (.string mn)/\w'.cell? ⟨w.heap.size,1,none⟩=some (.slice ia il ic)/\w'.cell? ⟨w.heap.size,2,none⟩=some (.slice ga gl gc)/\w'.cell? ⟨w.heap.size,3,none⟩=some (.slice pa pl pc)/\w'.cell? ⟨w.heap.size,4,none⟩=some (.slice ba bl bc)) (with_reducible (first|exact HS3.out|exact HS2.out|exact HS0.out)) (first|(go_at_call 38;refine HSE.out.mono ?_;rintro e w2 ⟨sb,rfl,hb2,hs2⟩;have HB2:=zh hb2;have HS2:=zh hs2;clear hb2 hs2)|(go_at_call 37;refine(HCK2.out _ _ HB2.out).mono ?_;rintro e w3 ⟨ev,rfl,hb3,hs3⟩;have HB3e:=zh hb3;have HS3:=zh hs3;clear hb3 hs3))
 have HB3:Hid (Below W.heap.size W w3):=HB3e.out.1
 cases hck:ck with
 | some er =>
  have HE0:=HB3e.out.2
  rw[hck]at HE0
  have hne:=HE0.ne
  have hgd:=HE0.gd
  have HER:=zh HE0
  have HCS:=zh hck
  clear HE0 hck
  have hE3:=(HB3.out.block _ (show w.heap.size+1<W.heap.size by have:=HSW.out;omega)).trans HKE.out
  have e0:w3.cell? ⟨w.heap.size+1,0,none⟩=some (.int .i64 0):=(za hE3).trans rfl
  have e1':w3.cell? ⟨w.heap.size+1,1,none⟩=some (.slice none 0 0):=(za hE3).trans rfl
  have ez:∀ j,w3.frozen? ⟨w.heap.size+1,j,none⟩=false:=fun j=>zi hE3
  have hel:=zf hE3
  have hset:=zu 1 (.slice none 0 0) (zu 0 (.int .i64 0) hE3)
  obtain⟨w4,hw4⟩:∃ w4,w4=(w3.setCell ⟨w.heap.size+1,0,none⟩ (.int .i64 0)).setCell ⟨w.heap.size+1,1,none⟩ (.slice none 0 0):=⟨_,rfl⟩
  have f0:w4.cell? ⟨w.heap.size+1,0,none⟩=some (.int .i64 0):=by rw[hw4];exact(za hset).trans rfl
  have f1:w4.cell? ⟨w.heap.size+1,1,none⟩=some (.slice none 0 0):=by rw[hw4];exact(za hset).trans rfl
  have HR:Hid (LoadQ X (Mut L wb tv nv) c w wb a (.returned (.tuple #[no2,ev])) w4):=by
   have hx:Ext (w.heap.size+1) w3 w4:=by rw[hw4];exact((Ext.refl _ _).set 0 _).set 1 _
   have hb:Below w.heap.size w w4:=by
    rw[hw4]
    exact zq (zq (HBW.out.trans (HB3.out.mono (by have:=HSW.out;omega))) (by omega) 0 _) (by omega) 1 _
   exact HERR.out _ _ _ (HA1.out er HCS.out) hb ((HER.out.on hx (by have:=HSW.out;omega)).lower (by have:=HSW.out;omega))
  clear hE3 hset HS0 HSE HCK2
  go_wp2_with fail
  rw[<-hw4]
  exact bodyPost_ret (v:=.tuple #[no2,ev]) (by simp[results,Tryz.results17,go_sem,no2,f0,f1]) rfl HR.out
 | none =>
  have HE0:=HB3e.out.2
  rw[hck]at HE0
  obtain rfl:ev=.nilIface:=HE0
  have HHCK0:Hid (Tp.check m (Tp.seenW ofS P)=none):=by show _=_;rw[<-HCKE.out];exact hck
  have HCS:=zh hck
  clear hck
  by_cases hL9:L.length<10
  rotate_left
  ·have hfull:L.length=10:=by omega
   obtain⟨na,nc,hnv⟩:=zw HWX.out.nm
   have k0:w3.cell? ⟨wb,0,none⟩=some (.slice na 10 nc):=by
    rw[(za ((HB3.out.block wb hwlW).trans HWW.out)).trans rfl,hnv,hfull]
    rfl
   have hwl3:wb<w3.heap.size:=by have:=HB3.out.size;omega
   clear hnv
   have hE3:=(HB3.out.block _ (show w.heap.size+1<W.heap.size by have:=HSW.out;omega)).trans HKE.out
   have e0:w3.cell? ⟨w.heap.size+1,0,none⟩=some (.int .i64 0):=(za hE3).trans rfl
   have e1':w3.cell? ⟨w.heap.size+1,1,none⟩=some (.slice none 0 0):=(za hE3).trans rfl
   have ez:∀ j,w3.frozen? ⟨w.heap.size+1,j,none⟩=false:=fun j=>zi hE3
   have hel:=zf hE3
   have hset:=zu 1 (.slice none 0 0) (zu 0 (.int .i64 0) hE3)
   obtain⟨w4,hw4⟩:∃ w4,w4=(w3.setCell ⟨w.heap.size+1,0,none⟩ (.int .i64 0)).setCell ⟨w.heap.size+1,1,none⟩ (.slice none 0 0):=⟨_,rfl⟩
   have f0:w4.cell? ⟨w.heap.size+1,0,none⟩=some (.int .i64 0):=by rw[hw4];exact(za hset).trans rfl
   have f1:w4.cell? ⟨w.heap.size+1,1,none⟩=some (.slice none 0 0):=by rw[hw4];exact(za hset).trans rfl
   have HR:Hid (LoadQ X (Mut L wb tv nv) c w wb a (.returned (.tuple #[no2,.iface 44 (.int .i64 12)])) w4):=by
    have hx:Ext (w.heap.size+1) w3 w4:=by rw[hw4];exact((Ext.refl _ _).set 0 _).set 1 _
    have hb:Below w.heap.size w w4:=by
     rw[hw4]
     exact zq (zq (HBW.out.trans (HB3.out.mono (by have:=HSW.out;omega))) (by omega) 0 _) (by omega) 1 _
    exact HERR.out _ _ _ (HA2.out HCS.out (by have:=HPL.out;omega)) hb (rfl)
   clear hE3 hset HS0 HSE HCK2
   go_wp2_with fail
   rw[<-hw4]
   exact bodyPost_ret (v:=.tuple #[no2,.iface 44 (.int .i64 12)]) (by simp[results,Tryz.results17,go_sem,no2,f0,f1]) rfl HR.out
  have HB3w:Hid (Below w.heap.size w w3):=HBW.out.trans (HB3.out.mono (by omega))
  have hww3:=(HB3.out.block wb hwlW).trans HWW.out
  obtain⟨na,nc,hnv⟩:=zw HWX.out.nm
  have k0:w3.cell? ⟨wb,0,none⟩=some (.slice na L.length nc):=by
   rw[(za hww3).trans rfl,hnv]
   rfl
  have HMB3:Hid (MB w3 w3.heap.size m ia ga pa ba ic gc pc bc):=HMB.out.up HB3w.out
  have hvn:(m.vars.map (·.name)).Nodup:=by
   have h1:Tp.WI ofS (P++[⟨m,Tp.fresh m⟩]):=Tp.WI.add (q:=⟨m,Tp.fresh m⟩) HWI.out HNEW.out HHCK0.out
   exact(h1.fit jx (m:=m) (by simp[Tp.ms]) HM.out).vn
  have HFR:Hid (Calls Tryz.prog 39 #[.agg #[.string mn,.slice ia il ic,.slice ga gl gc,.slice pa pl pc,.slice ba bl bc]] w3 (FreshP w3 m ia ga pa ba ic gc pc bc)):=by
   have:=xv HMB3.out HM.out hvn
   unfold mcells at this
   rw[<-HMN.out,<-HQ.out.1,<-HQ.out.2.1,<-HQ.out.2.2.1,<-HQ.out.2.2.2]at this
   exact this
  obtain⟨s0,s1,s2,s3,s4⟩:=HS3.out
  have hwl3:wb<w3.heap.size:=zf hww3
  have hl10:¬(L.length:Int)=10:=by omega
  clear hww3 HS0 HSE HCK2 HS3 hnv hvn
  generalize hLn:L.length=ln at *
  have HLN:=zh hLn
  clear hLn
  go_wp2_with fail
  refine HFR.out.mono ?_
  rintro e w6 ⟨hb6,lb,vb,sl,rfl,hlb,hvb,hne,hbl,hla,hsl⟩
  obtain⟨w7,hw7⟩:∃ w7,w7=w6.alloc (.cells #[.pointer (some ⟨lb,0,none⟩)] 88):=⟨_,rfl⟩
  have hb7:Below w6.heap.size w6 w7:=by rw[hw7];exact zb _ _
  have kl7:w7.cell? ⟨w6.heap.size,0,none⟩=some (.pointer (some ⟨lb,0,none⟩)):=by rw[hw7];exact(za (zo w6 _)).trans rfl
  have hs6:=hb6.size
  have HB37:Hid (Below w.heap.size w w7):=(HB3w.out.trans (hb6.mono HB3w.out.size)).trans (hb7.mono (by have:=HB3w.out.size;omega))
  have HADD:Hid (Calls Tryz.prog 40 #[.pointer (some ⟨wb,0,none⟩),.pointer (some ⟨lb,0,none⟩)] w7 fun e w'=>e=.returned (.tuple #[])/\∃ tb' nv',AddA c w7 wb lb m.name L nv tv w' tb' nv'):=by
   refine add_gen (HWX.out.on HB37.out) (by rw[HLN.out];omega) ((hb7.block lb (zf hbl)).trans hbl) (fun q=>?_) (by have:=zQ HM.out.n;omega) (fun tb e=>?_) hc
   ·have:=(HWX.out.mlt q).1;have:=HB3w.out.size;omega
   ·obtain⟨n,q1,q2⟩:=HMC.out tb e;exact⟨n,q1,q2.on (HB37.out.block _ q2.lt)⟩
  have HX:=zh (And.intro hb6 (And.intro hlb (And.intro hvb (And.intro hne (And.intro hbl (And.intro hla (And.intro hsl (And.intro hb7 kl7))))))))
  clear hb6 hlb hvb hne hbl hla hsl hb7 s0 s1 s2 s3 s4 k0
  go_upto_region 9 with fail
  rw[<-hw7]
  clear hw7
  go_wp2_with fail
  refine HADD.out.mono ?_
  rintro e w8 ⟨rfl,tb',nv',hadd⟩
  have HGO:Hid (Calls Tryz.prog 41 #[.pointer (some ⟨wb,0,none⟩),.int .i64 (fuel:Int),.func (.func 42) #[] #[.pointer (some ⟨w6.heap.size,0,none⟩),.pointer (some ⟨w.heap.size,0,none⟩)]] w8 fun e w9=>∃ oa oc,e=.returned (.agg #[.int .i64 (a.e.way:Int),.slice oa a.e.out.length oc])/\w9.heap[w.heap.size+1]?=some (.cells #[.int .i64 0,.slice none 0 0] 43 (0,0))/\∀ w10,Ext (w.heap.size+1) w9 w10->LoadQ X (Mut L wb tv nv) c w wb a (.returned (.tuple #[.agg #[.int .i64 (a.e.way:Int),.slice oa a.e.out.length oc],.nilIface])) w10):=by
   obtain⟨hb6,hlb,hvb,hne,hbl,hla,hsl,hb7,kl7⟩:=HX.out
   have hs3:=HB3.out.size
   have hsW:=HSW.out
   have hs7:=hb7.size
   have hmd3:MD w3 (fun b=>D b/\b<w.heap.size) m ia ga pa ba ic gc pc bc:=HMD.out.mono (fun b hb hl=>⟨HB3w.out.block b hl,hb,hl⟩)
   have hwx3:WX (fun b=>X b\/b=w.heap.size+1) w3 wb L P nv tv:=(HWX.out.more HB3w.out).less (fun b q=>q.imp id (fun z=>by omega))
   obtain⟨hww,hWI8,hmc8,htr⟩:=ww_add HM.out hwx3 (fun b q=>by
    rcases q with q|q
    ·have:=HXs.out b q;omega
    ·omega) HWI.out HNEW.out HHCK0.out hmd3 (fun b hb hl=>⟨fun q=>by
     rcases q with q|q
     ·exact(HD.out b hb.1 hb.2).1 q
     ·omega,(HD.out b hb.1 hb.2).2⟩) hb6 hlb hvb hbl hla hsl hb7 hc hadd
   have hlo:(⟨m,lb,vb,sl⟩:Lo)∈L++[(⟨m,lb,vb,sl⟩:Lo)]:=by simp
   have hmutlt:∀ b,w.heap.size<=b->¬Mut L wb tv nv b:=fun b hb q=>by have:=(HWX.out.mlt q).1;omega
   have hadk:∀ b,b<w7.heap.size->w.heap.size<=b->w8.heap[b]?=w7.heap[b]?:=fun b hb hl=>hadd.block b hb (fun e=>hmutlt b hl (Or.inr (Or.inl e))) (fun e=>hmutlt b hl (Or.inr (Or.inr (Or.inl e)))) (fun e=>hmutlt b hl (Or.inr (Or.inr (Or.inr e))))
   have hk38:∀ b,b<w3.heap.size->w.heap.size<=b->w8.heap[b]?=w3.heap[b]?:=fun b hb hl=>((hadk b (by omega) hl).trans (hb7.block b (by omega))).trans (hb6.block b hb)
   have hlb8:w8.heap[lb]?=some (.cells (lcells m ia ga pa ba ic gc pc bc vb) 107 (0,0)):=((hadk lb (by have:=zf hbl;omega) (by omega)).trans (hb7.block lb (zf hbl))).trans hbl
   have hm8:w8.heap[w.heap.size]?=some (.cells #[.string mn,.slice ia il ic,.slice ga gl gc,.slice pa pl pc,.slice ba bl bc] 36 (0,0)):=((hk38 w.heap.size (by omega) (by omega)).trans (HB3.out.block w.heap.size (by omega))).trans HKM.out
   have he8:w8.heap[w.heap.size+1]?=some (.cells #[.int .i64 0,.slice none 0 0] 43 (0,0)):=((hk38 _ (by omega) (by omega)).trans (HB3.out.block _ (by omega))).trans HKE.out
   have kl8:w8.cell? ⟨w6.heap.size,0,none⟩=some (.pointer (some ⟨lb,0,none⟩)):=(World.cell?_of_block (w:=w7) (hadk w6.heap.size (zg kl7) (by omega))).trans kl7
   have km8:w8.cell? ⟨w.heap.size,4,none⟩=some (.slice ba bl bc):=(za hm8).trans rfl
   have hss:=ss_body hww hf hlo hlb8
   have hl1:=load1_post (gas:=Tp.gasOf (P++[⟨m,Tp.fresh m⟩]) m.body fuel) hww hf hlo kl8 km8 (by rw[HQ.out.2.2.2];exact hss) Tp.goS_enough
   have hgo:=vS (caps:=#[.pointer (some ⟨w6.heap.size,0,none⟩),.pointer (some ⟨w.heap.size,0,none⟩)]) cf_load ((za hww.blk).trans rfl) hl1
   refine hgo.mono ?_
   intro e w9 hG
   obtain⟨oa,oc,he,hcap,hgn⟩:=gone hww hf hG
   have hal:=HA3.out HCS.out (by have:=HPL.out;have:=HLN.out;omega)
   have hae:a.e=(Tp.endOf (Tp.goS (Tp.gasOf (P++[⟨m,Tp.fresh m⟩]) m.body fuel) 0 m.name (fun _=>none) m.body ⟨P++[⟨m,Tp.fresh m⟩],fuel,[]⟩)).2:=by rw[hal]
   have haw:a.w=(Tp.endOf (Tp.goS (Tp.gasOf (P++[⟨m,Tp.fresh m⟩]) m.body fuel) 0 m.name (fun _=>none) m.body ⟨P++[⟨m,Tp.fresh m⟩],fuel,[]⟩)).1:=by rw[hal]
   have hern:a.err=none:=by rw[hal]
   have he':e=.returned (.agg #[.int .i64 (a.e.way:Int),.slice oa a.e.out.length oc]):=by rw[hae];exact he
   have hgn':GonP (fun b=>X b\/b=w.heap.size+1) w8 wb (L++[⟨m,lb,vb,sl⟩]) nv' tb' a.w a.e.out oa w9:=by rw[hae,haw];exact hgn
   have hnv':¬VLo (L++[⟨m,lb,vb,sl⟩]) (w.heap.size+1):=fun q=>(hww.sv _ q).2 (Or.inr rfl)
   have h8:=hadd.size
   refine⟨oa,oc,he',(hgn'.keep _ (by omega) hnv').trans he8,fun w10 h10=>?_⟩
   have h9:=hgn'.size
   have hs10:=h10.size
   have hww10:WW X w10 wb (L++[⟨m,lb,vb,sl⟩]) a.w nv' tb':=(hgn'.ww.keep (fun b hb hX hv=>h10.block b hb (fun e=>hX (Or.inr e))) h10.size (fun lo hl=>by
    obtain⟨p,p1,p2,p3⟩:=hgn'.ww.vals lo hl
    exact⟨p,p1,p2,fun g hg=>⟨(p3 g hg).1,(h10.block _ (zf (p3 g hg).2.1) (fun e=>(hgn'.ww.sv _ ⟨lo,hl,g,hg,rfl⟩).2 (Or.inr e))).trans (p3 g hg).2.1,(p3 g hg).2.2⟩⟩) hgn'.ww.mw).less (fun b hb=>Or.inl hb)
   refine⟨oa,oc,.nilIface,rfl,by rw[hae];exact hcap,⟨⟨Mut (L++[⟨m,lb,vb,sl⟩]) wb (some tb') nv',⟨L++[⟨m,lb,vb,sl⟩],nv',some tb',(show WX X w10 wb (L++[⟨m,lb,vb,sl⟩]) a.w nv' (some tb') from hww10),by simp;have:=HLN.out;omega,HWIa.out,fun b=>Iff.rfl,(fun tb e=>?_),fun x hx=>?_⟩,?_⟩,⟨fun i hi=>?_⟩,hgn'.oi,hgn'.ol,fun x hx=>by have:=hgn'.far x hx;omega⟩,by unfold EvT;rw[hern]⟩
   ·cases e
    obtain⟨n,q1,q2⟩:=hmc8 tb' rfl
    refine⟨n,q1,q2.on ?_⟩
    have htl:=q2.lt
    exact(h10.block _ (by omega) (fun e=>hww.tx.1 (Or.inr e))).trans (hgn'.keep _ htl hww.tx.2.2)
   ·rw[hww10.mw,List.map_append,<-HWX.out.mw]at hx
    rcases List.mem_append.1 hx with q|q
    ·exact HNP.out x q
    ·have q':x=m:=by simpa using q
     rw[q']
     exact HNM.out
   ·have htr':Tr (Mut L wb tv nv) (Mut (L++[⟨m,lb,vb,sl⟩]) wb (some tb') nv') w w8:=Tr.ahead HB3w.out htr
    refine⟨((h10.os.trans hgn'.os).trans htr'.os),((h10.tape.trans hgn'.tape).trans htr'.tape),((h10.output.trans hgn'.output).trans htr'.output),by omega,fun b hb hu=>?_,htr'.more⟩
    refine((h10.block b (by omega) (by omega)).trans (hgn'.keep b (by omega) (fun q=>?_))).trans (htr'.block b hb hu)
    rcases htr'.more b (Or.inl q) with z|z
    ·exact hu z
    ·omega
   ·obtain⟨b,o,q1,q2,q3⟩:=hgn'.it.c i hi
    have hfar:w8.heap.size<=b:=hgn'.far _ q1
    exact⟨b,o,q1,by omega,(World.cell?_of_block (w:=w9) (h10.block b q2 (by omega))).trans q3⟩
  have hwl8:wb<w8.heap.size:=zf hadd.blk
  clear hadd HADD HX HFR HMB3
  go_wp2_with fail
  refine HGO.out.mono ?_
  rintro e w9 ⟨oa,oc,rfl,hE9,hfin⟩
  have e0:w9.cell? ⟨w.heap.size+1,0,none⟩=some (.int .i64 0):=(za hE9).trans rfl
  have e1':w9.cell? ⟨w.heap.size+1,1,none⟩=some (.slice none 0 0):=(za hE9).trans rfl
  have ez:∀ j,w9.frozen? ⟨w.heap.size+1,j,none⟩=false:=fun j=>zi hE9
  have hel:=zf hE9
  have hset:=zu 1 (.slice oa a.e.out.length oc) (zu 0 (.int .i64 (a.e.way:Int)) hE9)
  obtain⟨w4,hw4⟩:∃ w4,w4=(w9.setCell ⟨w.heap.size+1,0,none⟩ (.int .i64 (a.e.way:Int))).setCell ⟨w.heap.size+1,1,none⟩ (.slice oa a.e.out.length oc):=⟨_,rfl⟩
  have f0:w4.cell? ⟨w.heap.size+1,0,none⟩=some (.int .i64 (a.e.way:Int)):=by rw[hw4];exact(za hset).trans rfl
  have f1:w4.cell? ⟨w.heap.size+1,1,none⟩=some (.slice oa a.e.out.length oc):=by rw[hw4];exact(za hset).trans rfl
  have HR:=zh (hfin w4 (by rw[hw4];exact((Ext.refl _ _).set 0 _).set 1 _))
  clear hE9 hset hfin HGO
  go_wp2_with fail
  rw[<-hw4]
  exact bodyPost_ret (v:=.tuple #[.agg #[.int .i64 (a.e.way:Int),.slice oa a.e.out.length oc],.nilIface]) (by simp[results,Tryz.results17,go_sem,f0,f1]) rfl HR.out
def ErrC (w:World) (er:Int) (e:Ending) (w':World):Prop:=Below w.heap.size w w'/\e=.returned (.tuple #[no2,.int .i64 0,.iface 44 (.int .i64 er)])
theorem kP {w W5 V:World}{er:Int}(hb5:Below w.heap.size w W5) (hs5:W5.heap.size=w.heap.size+5) (k2:W5.heap[w.heap.size+2]?=some (.cells #[.int .i64 0,.slice none 0 0] 43 (0,0))) (k3:W5.heap[w.heap.size+3]?=some (.cells #[.int .i64 0] 2 (0,0))) (hb:Below W5.heap.size W5 V) :
  V.cell? ⟨w.heap.size+2,0,none⟩=some (.int .i64 0)/\V.cell? ⟨w.heap.size+2,1,none⟩=some (.slice none 0 0)/\(∀ j,V.frozen? ⟨w.heap.size+2,j,none⟩=false)/\(∀ j,V.frozen? ⟨w.heap.size+3,j,none⟩=false)/\V.cell? ⟨w.heap.size+3,0,none⟩=some (.int .i64 0)/\w.heap.size+2<V.heap.size/\w.heap.size+3<V.heap.size /\
  ∃ w11,w11=((V.setCell ⟨w.heap.size+2,0,none⟩ (.int .i64 0)).setCell ⟨w.heap.size+2,1,none⟩ (.slice none 0 0)).setCell ⟨w.heap.size+3,0,none⟩ (.int .i64 0)/\w11.cell? ⟨w.heap.size+2,0,none⟩=some (.int .i64 0)/\w11.cell? ⟨w.heap.size+2,1,none⟩=some (.slice none 0 0)/\w11.cell? ⟨w.heap.size+3,0,none⟩=some (.int .i64 0)/\Hid (ErrC w er (.returned (.tuple #[no2,.int .i64 0,.iface 44 (.int .i64 er)])) w11):=by
 have hE:=(hb.block _ (zf k2)).trans k2
 have hN:=(hb.block _ (zf k3)).trans k3
 have hEb:(((V.setCell ⟨w.heap.size+2,0,none⟩ (.int .i64 0)).setCell ⟨w.heap.size+2,1,none⟩ (.slice none 0 0)).setCell ⟨w.heap.size+3,0,none⟩ (.int .i64 0)).heap[w.heap.size+2]?=some (.cells #[.int .i64 0,.slice none 0 0] 43 (0,0)):=(zx _ (by omega)).trans (zu 1 (.slice none 0 0) (zu 0 (.int .i64 0) hE))
 have hNb:(((V.setCell ⟨w.heap.size+2,0,none⟩ (.int .i64 0)).setCell ⟨w.heap.size+2,1,none⟩ (.slice none 0 0)).setCell ⟨w.heap.size+3,0,none⟩ (.int .i64 0)).heap[w.heap.size+3]?=some (.cells #[.int .i64 0] 2 (0,0)):=zu 0 (.int .i64 0) ((zx _ (by omega)).trans ((zx _ (by omega)).trans hN))
 refine⟨(za hE).trans rfl,(za hE).trans rfl,fun j=>zi hE,fun j=>zi hN,(za hN).trans rfl,zf hE,zf hN,_,rfl,(za hEb).trans rfl,(za hEb).trans rfl,(za hNb).trans rfl,?_,rfl⟩
 exact zq (zq (zq (hb5.trans (hb.mono (by omega))) (by omega) 0 _) (by omega) 1 _) (by omega) 0 _
theorem call_noM {X:Nat->Prop}{w:World}{wb fuel an ac:Nat}{aa:Option Addr}{L:List Lo}{P:List Pt}{nv:Value}{tv:Option Nat}{md nm:Bs}(h:WX X w wb L P nv tv) (hmdl:md.length<=1000000) (_:an<=1000000) (hptr:ptrV L md=none) :
  Calls Tryz.prog 27 #[.pointer (some ⟨wb,0,none⟩),.string (bs md),.string (bs nm),.slice aa an ac,.int .i64 (fuel:Int)] w (ErrC w 7):=by
 obtain⟨W4,hW4⟩:∃ W4,W4=(((w.alloc (.cells #[.string (bs nm)] 9)).alloc (.cells #[.slice aa an ac] 29)).alloc (.cells #[.int .i64 0,.slice none 0 0] 43)).alloc (.cells #[.int .i64 0] 2):=⟨_,rfl⟩
 obtain⟨W5,hW5⟩:∃ W5,W5=W4.alloc (.cells #[.pointer none] 88):=⟨_,rfl⟩
 have hs4:W4.heap.size=w.heap.size+4:=by rw[hW4];simp
 have hb4:Below w.heap.size w W4:=by rw[hW4];exact(((zb _ _).alloc (by simp) _).alloc (by simp;omega) _).alloc (by simp;omega) _
 have hb45:Below W4.heap.size W4 W5:=by rw[hW5];exact zb _ _
 have hb5:Below w.heap.size w W5:=hb4.trans (hb45.mono (by omega))
 have hs5:W5.heap.size=w.heap.size+5:=by rw[hW5];simp[hs4]
 have q0:W4.heap[w.heap.size]?=some (.cells #[.string (bs nm)] 9 (0,0)):=by rw[hW4];exact(((Below.heap_alloc _ _ _ (by simp;omega)).trans (Below.heap_alloc _ _ _ (by simp;omega))).trans (Below.heap_alloc _ _ _ (by simp))).trans (zo _ _)
 have q1:W4.heap[w.heap.size+1]?=some (.cells #[.slice aa an ac] 29 (0,0)):=by
  have:=zo (w.alloc (.cells #[.string (bs nm)] 9)) (.cells #[.slice aa an ac] 29)
  rw[hW4];exact((Below.heap_alloc _ _ _ (by simp)).trans (Below.heap_alloc _ _ _ (by simp))).trans (by simpa using this)
 have q2:W4.heap[w.heap.size+2]?=some (.cells #[.int .i64 0,.slice none 0 0] 43 (0,0)):=by
  have:=zo ((w.alloc (.cells #[.string (bs nm)] 9)).alloc (.cells #[.slice aa an ac] 29)) (.cells #[.int .i64 0,.slice none 0 0] 43)
  rw[hW4];exact(Below.heap_alloc _ _ _ (by simp)).trans (by simpa using this)
 have q3:W4.heap[w.heap.size+3]?=some (.cells #[.int .i64 0] 2 (0,0)):=by
  have:=zo (((w.alloc (.cells #[.string (bs nm)] 9)).alloc (.cells #[.slice aa an ac] 29)).alloc (.cells #[.int .i64 0,.slice none 0 0] 43)) (.cells #[.int .i64 0] 2)
  rw[hW4];simpa using this
 have q4:W5.heap[w.heap.size+4]?=some (.cells #[.pointer none] 88 (0,0)):=by
  have:=zo W4 (.cells #[.pointer none] 88)
  rw[hs4]at this
  rw[hW5];exact this
 have p0:=(hb45.block _ (zf q0)).trans q0
 have p1:=(hb45.block _ (zf q1)).trans q1
 have p2:=(hb45.block _ (zf q2)).trans q2
 have p3:=(hb45.block _ (zf q3)).trans q3
 have hwl:=zf h.blk
 have k1:W4.cell? ⟨wb,1,none⟩=some (.map tv):=(za ((hb4.block _ hwl).trans h.blk)).trans rfl
 have hlk:(Instr.lookup 26 (.map tv) (.string (bs md)) false).run Tryz.prog W4=.ok (.pointer none) W4:=by
  have:=(h.on hb4).look md hmdl
  rw[hptr]at this
  exact this
 have k5:W5.cell? ⟨w.heap.size+4,0,none⟩=some (.pointer none):=(za q4).trans rfl
 have k6:W5.cell? ⟨w.heap.size,0,none⟩=some (.string (bs nm)):=(za p0).trans rfl
 have hl4:w.heap.size+4<W5.heap.size:=by omega
 have hl0:w.heap.size<W5.heap.size:=by omega
 have hwl4:wb<W4.heap.size:=by omega
 have HK1:=zh p1
 have HK2:=zh p2
 have HK3:=zh p3
 have HB5:=zh hb5
 have HS5:=zh hs5
 clear q0 q1 q2 q3 q4 p0 p1 p2 p3 hb4 hb45 hb5 hptr h HK1 k6
 generalize bs md=lmn at *
 generalize bs nm=pnm at *
 go_enter Tryz.func27,Tryz.ntmps27
 go_upto_region 1 with fail
 rw[<-hW4]
 clear hW4
 go_upto_region 2 with fail
 rw[<-hW5,show w.heap.size+1+1+1=w.heap.size+3 from rfl,show w.heap.size+1+1=w.heap.size+2 from rfl]
 clear hW5 hlk k1
 obtain⟨e0,e1,ez,nz,n0,hel,hnl,w11,hw11,g0,g1,g2,HR⟩:=kP (er:=7) HB5.out HS5.out HK2.out HK3.out (Below.refl W5.heap.size W5)
 go_wp2_with fail
 rw[<-hw11]
 exact bodyPost_ret (v:=.tuple #[no2,.int .i64 0,.iface 44 (.int .i64 7)]) (by simp[results,Tryz.results27,go_sem,no2,g0,g1,g2]) rfl HR.out
theorem uY {X:Nat->Prop}{w:World}{wb fuel an ac:Nat}{aa:Option Addr}{L:List Lo}{P:List Pt}{nv:Value}{tv:Option Nat}{md nm:Bs}(h:WX X w wb L P nv tv) (hmdl:md.length<=1000000) (_:an<=1000000) {lo:Lo}(hlo:lo∈L) (hptr:ptrV L md=some ⟨lo.lb,0,none⟩) {er:Int}(hp:(Tp.procIn lo.m nm=none/\er=7)\/∃ p,Tp.procIn lo.m nm=some p/\(p.seen=false/\er=7\/p.seen=true/\an≠p.params.length/\er=2)) :
  Calls Tryz.prog 27 #[.pointer (some ⟨wb,0,none⟩),.string (bs md),.string (bs nm),.slice aa an ac,.int .i64 (fuel:Int)] w (ErrC w er):=by
 obtain⟨W4,hW4⟩:∃ W4,W4=(((w.alloc (.cells #[.string (bs nm)] 9)).alloc (.cells #[.slice aa an ac] 29)).alloc (.cells #[.int .i64 0,.slice none 0 0] 43)).alloc (.cells #[.int .i64 0] 2):=⟨_,rfl⟩
 obtain⟨W5,hW5⟩:∃ W5,W5=W4.alloc (.cells #[.pointer (some ⟨lo.lb,0,none⟩)] 88):=⟨_,rfl⟩
 have hs4:W4.heap.size=w.heap.size+4:=by rw[hW4];simp
 have hb4:Below w.heap.size w W4:=by rw[hW4];exact(((zb _ _).alloc (by simp) _).alloc (by simp;omega) _).alloc (by simp;omega) _
 have hb45:Below W4.heap.size W4 W5:=by rw[hW5];exact zb _ _
 have hb5:Below w.heap.size w W5:=hb4.trans (hb45.mono (by omega))
 have hs5:W5.heap.size=w.heap.size+5:=by rw[hW5];simp[hs4]
 have q0:W4.heap[w.heap.size]?=some (.cells #[.string (bs nm)] 9 (0,0)):=by rw[hW4];exact(((Below.heap_alloc _ _ _ (by simp;omega)).trans (Below.heap_alloc _ _ _ (by simp;omega))).trans (Below.heap_alloc _ _ _ (by simp))).trans (zo _ _)
 have q1:W4.heap[w.heap.size+1]?=some (.cells #[.slice aa an ac] 29 (0,0)):=by
  have:=zo (w.alloc (.cells #[.string (bs nm)] 9)) (.cells #[.slice aa an ac] 29)
  rw[hW4];exact((Below.heap_alloc _ _ _ (by simp)).trans (Below.heap_alloc _ _ _ (by simp))).trans (by simpa using this)
 have q2:W4.heap[w.heap.size+2]?=some (.cells #[.int .i64 0,.slice none 0 0] 43 (0,0)):=by
  have:=zo ((w.alloc (.cells #[.string (bs nm)] 9)).alloc (.cells #[.slice aa an ac] 29)) (.cells #[.int .i64 0,.slice none 0 0] 43)
  rw[hW4];exact(Below.heap_alloc _ _ _ (by simp)).trans (by simpa using this)
 have q3:W4.heap[w.heap.size+3]?=some (.cells #[.int .i64 0] 2 (0,0)):=by
  have:=zo (((w.alloc (.cells #[.string (bs nm)] 9)).alloc (.cells #[.slice aa an ac] 29)).alloc (.cells #[.int .i64 0,.slice none 0 0] 43)) (.cells #[.int .i64 0] 2)
  rw[hW4];simpa using this
 have q4:W5.heap[w.heap.size+4]?=some (.cells #[.pointer (some ⟨lo.lb,0,none⟩)] 88 (0,0)):=by
  have:=zo W4 (.cells #[.pointer (some ⟨lo.lb,0,none⟩)] 88)
  rw[hs4]at this
  rw[hW5];exact this
 have p0:=(hb45.block _ (zf q0)).trans q0
 have p1:=(hb45.block _ (zf q1)).trans q1
 have p2:=(hb45.block _ (zf q2)).trans q2
 have p3:=(hb45.block _ (zf q3)).trans q3
 have hwl:=zf h.blk
 have k1:W4.cell? ⟨wb,1,none⟩=some (.map tv):=(za ((hb4.block _ hwl).trans h.blk)).trans rfl
 have hlk:(Instr.lookup 26 (.map tv) (.string (bs md)) false).run Tryz.prog W4=.ok (.pointer (some ⟨lo.lb,0,none⟩)) W4:=by
  have:=(h.on hb4).look md hmdl
  rw[hptr]at this
  exact this
 have k5:W5.cell? ⟨w.heap.size+4,0,none⟩=some (.pointer (some ⟨lo.lb,0,none⟩)):=(za q4).trans rfl
 have k6:W5.cell? ⟨w.heap.size,0,none⟩=some (.string (bs nm)):=(za p0).trans rfl
 have hl4:w.heap.size+4<W5.heap.size:=by omega
 have hl0:w.heap.size<W5.heap.size:=by omega
 have hwl4:wb<W4.heap.size:=by omega
 have HK1:=zh p1
 have HK2:=zh p2
 have HK3:=zh p3
 have HB5:=zh hb5
 have HS5:=zh hs5
 obtain⟨tb,htv,hww⟩:=h.ww hlo
 have hww5:=hww.more hb5
 obtain⟨⟨ia,ga,pa,ba,ic,gc,pc,bc,m1,m2⟩,_,_,_,hfit⟩:=hww5.lo lo hlo
 have HPR:=zh (rprocD m1 m2 (by have:=hfit.wm.pc;omega) nm)
 have HPP:Hid (∀ v,ProcP (cwF W5) lo.m nm v->(v=none/\er=7)\/∃ pb o ya yc sn pn,v=some ⟨pb,o,none⟩/\W5.cell? ⟨pb,o+2,none⟩=some (.bool sn)/\W5.cell? ⟨pb,o+3,none⟩=some (.slice ya pn yc)/\(sn=false/\er=7\/sn=true/\an≠pn/\er=2)):=by
  intro v hv
  unfold ProcP at hv
  rcases hp with⟨h1,h2⟩|⟨p,h1,h2⟩
  ·rw[h1]at hv
   exact Or.inl ⟨hv,h2⟩
  ·rw[h1]at hv
   obtain⟨pb,o,e,q⟩:=hv
   obtain⟨pv,vv,bv,bcs,r1,r2,r3,r4,_⟩:=q.r
   obtain⟨ya,yc,rfl⟩:=r4.shape
   exact Or.inr ⟨pb,o,ya,yc,p.seen,p.params.length,e,q.sn,r1,h2⟩
 clear q0 q1 q2 q3 q4 p0 p1 p2 p3 hb4 hb45 hb5 hptr htv h hlo hww hww5 m1 m2 hfit hp
 generalize bs md=lmn at *
 generalize bs nm=pnm at *
 go_enter Tryz.func27,Tryz.ntmps27
 go_upto_region 1 with fail
 rw[<-hW4]
 clear hW4
 go_upto_region 2 with fail
 rw[<-hW5,show w.heap.size+1+1+1=w.heap.size+3 from rfl,show w.heap.size+1+1=w.heap.size+2 from rfl]
 clear hW5 hlk k1
 go_wp2_with fail
 refine HPR.out.mono ?_
 rintro e w6 ⟨v,rfl,hv,hb6⟩
 have HB6:=zh hb6
 rcases HPP.out v hv with⟨rfl,rfl⟩|⟨pb,o,ya,yc,sn,pn,rfl,c2,c3,hs⟩
 ·clear hv hb6 k5 k6 HPR HPP HK1
  obtain⟨e0,e1,ez,nz,n0,hel,hnl,w11,hw11,g0,g1,g2,HR⟩:=kP (er:=7) HB5.out HS5.out HK2.out HK3.out HB6.out
  go_wp2_with fail
  rw[<-hw11]
  exact bodyPost_ret (v:=.tuple #[no2,.int .i64 0,.iface 44 (.int .i64 7)]) (by simp[results,Tryz.results27,go_sem,no2,g0,g1,g2]) rfl HR.out
 ·have c2':w6.cell? ⟨pb,o+2,none⟩=some (.bool sn):=(hb6.cell (p:=⟨pb,o+2,none⟩) (zg c2)).trans c2
  have c3':w6.cell? ⟨pb,o+3,none⟩=some (.slice ya pn yc):=(hb6.cell (p:=⟨pb,o+3,none⟩) (zg c3)).trans c3
  have hpl:pb<w6.heap.size:=zg c2'
  rcases hs with⟨rfl,rfl⟩|⟨rfl,hne,rfl⟩
  ·clear hv hb6 c2 c3 k5 k6 HPR HPP HK1
   obtain⟨e0,e1,ez,nz,n0,hel,hnl,w11,hw11,g0,g1,g2,HR⟩:=kP (er:=7) HB5.out HS5.out HK2.out HK3.out HB6.out
   go_wp2_with fail
   rw[<-hw11]
   exact bodyPost_ret (v:=.tuple #[no2,.int .i64 0,.iface 44 (.int .i64 7)]) (by simp[results,Tryz.results27,go_sem,no2,g0,g1,g2]) rfl HR.out
  ·have hne':¬(an:Int)=(pn:Int):=by omega
   have k8:w6.cell? ⟨w.heap.size+1,0,none⟩=some (.slice aa an ac):=(za ((hb6.block _ (zf HK1.out)).trans HK1.out)).trans rfl
   have hl1:w.heap.size+1<w6.heap.size:=zg k8
   clear hv hb6 c2 c3 k5 k6 HPR HPP HK1
   go_upto_region 7 with fail
   go_quiet (fail)
   obtain⟨w7,hw7⟩:∃ w7,w7=w6.drewN nq:=⟨_,rfl⟩
   have HB7:Hid (Below W5.heap.size W5 w7):=by rw[hw7];exact below_drewN HB6.out _
   rw[<-hw7]
   clear hw7 c2' c3' k8
   obtain⟨e0,e1,ez,nz,n0,hel,hnl,w11,hw11,g0,g1,g2,HR⟩:=kP (er:=2) HB5.out HS5.out HK2.out HK3.out HB7.out
   go_wp2_with fail
   rw[<-hw11]
   exact bodyPost_ret (v:=.tuple #[no2,.int .i64 0,.iface 44 (.int .i64 2)]) (by simp[results,Tryz.results27,go_sem,no2,g0,g1,g2]) rfl HR.out
def CallQ (X U:Nat->Prop) (c:Nat) (w:World) (wb:Nat) (a:Tp.Ans) (e:Ending) (w':World):Prop:=∃ oa oc ev,e=.returned (.tuple #[.agg #[.int .i64 (a.e.way:Int),.slice oa a.e.out.length oc],.int .i64 a.n,ev])/\AnsP X U c w wb a oa w'/\EvT w.heap.size w' a.err ev
theorem vw {m:Tp.M}{nm:Bs}(hn:(m.procs.map (·.name)).Nodup):(m.procs.find? fun q=>q.name == nm && q.seen)=(Tp.procIn m nm).bind fun p=>if p.seen then some p else none:=by
 unfold Tp.procIn
 generalize m.procs=l at *
 induction l with
 | nil=>rfl
 | cons q t ih =>
  rw[List.map_cons,List.nodup_cons]at hn
  by_cases e:q.name=nm
  ·rw[List.find?_cons_of_pos (a:=q) (p:=fun q=>q.name == nm) (by simpa using e)]
   simp only [Option.bind_some]
   by_cases hs:q.seen=true
   ·rw[List.find?_cons_of_pos (by simp[e,hs]),if_pos hs]
   ·rw[List.find?_cons_of_neg (by simp[hs]),if_neg hs,List.find?_eq_none]
    intro x hx q2
    simp only [Bool.and_eq_true,beq_iff_eq]at q2
    exact hn.1 (List.mem_map.2 ⟨x,hx,q2.1.trans e.symm⟩)
  ·rw[List.find?_cons_of_neg (by simp[e]),List.find?_cons_of_neg (by simpa using e)]
   exact ih hn.2
theorem call_any {X U:Nat->Prop}{c:Nat}{w:World}{wb fuel ac:Nat}{aa:Option Addr}{P:List Pt}{md nm:Bs}{vs:List Int}(h:WZ X U c w wb P) (hf:fuel<=800000) (hmdl:md.length<=1000000) (hvi:∀ v∈vs,Tp.I64 v) (hia:IntsAt w vs aa) (hvn:vs.length<=1000000) :
  Calls Tryz.prog 27 #[.pointer (some ⟨wb,0,none⟩),.string (bs md),.string (bs nm),.slice aa vs.length ac,.int .i64 (fuel:Int)] w (CallQ X U c w wb (Tp.callW P md nm vs fuel)):=by
 obtain⟨L,nv,tv,hwx,hL,hWI,hU,hmc,hnP⟩:=id h
 have herr:∀ er:Nat,(∀ e w',ErrC w (er:Int) e w'->CallQ X U c w wb ⟨P,Tp.no,0,some (er,none)⟩ e w'):=fun er e w' q=>⟨none,0,_,q.2,yW h q.1,rfl⟩
 have e7:((7:Nat):Int)=7:=rfl
 have e2:((2:Nat):Int)=2:=rfl
 unfold Tp.callW
 rcases jl hwx md with⟨hp1,hp2⟩|⟨p,lo,hlo,hp1,hpm,hlm,hp2⟩
 ·rw[hp1]
  exact(call_noM hwx hmdl hvn hp2).mono (fun e w' q=>herr 7 e w' q)
 ·rw[hp1]
  obtain⟨tb,rfl,hww⟩:=hwx.ww hlo
  have hfit:=(hww.lo lo hlo).2.2.2.2
  simp only [Option.bind_some]
  rw[hpm,vw hfit.pn]
  cases hpr:Tp.procIn lo.m nm with
  | none=>exact(uY hwx hmdl hvn hlo hp2 (er:=7) (Or.inl ⟨hpr,rfl⟩)).mono (fun e w' q=>herr 7 e w' q)
  | some pr =>
   simp only [Option.bind_some]
   have hprm:pr∈lo.m.procs:=List.mem_of_find?_eq_some hpr
   by_cases hsn:pr.seen=true
   ·rw[if_pos hsn]
    simp only
    by_cases hlen:pr.params.length=vs.length
    ·rw[if_neg (by simpa using hlen)]
     have hsz:SizeOf.sizeOf pr.body<=Tp.bodySz P:=Tp.bodySz_bd P 0 [] p (List.mem_of_find?_eq_some hp1) pr (by rw[hpm];exact hprm)
     have hg:=Tp.callP_enough (fuel:=fuel) (md:=md) (vs:=vs) (out:=[]) hsz
     have hcall:=call_ok (ac:=ac) (gas:=Tp.nd (Tp.bodySz P) fuel 0) hww hf hlo hpr hsn hlen.symm hvi hia (by rw[hlm];exact hmdl) hvn (by rw[hlm];exact hg)
     have hWIa:=Tp.WI.call (md:=md) (pn:=nm) (args:=vs) (f:=fuel) hWI
     have hwa:(Tp.callW P md nm vs fuel).w=(Tp.endOf (Tp.callP (Tp.nd (Tp.bodySz P) fuel 0) 0 md pr vs ⟨P,fuel,[]⟩)).1:=by
      unfold Tp.callW
      rw[hp1]
      simp only [Option.bind_some]
      rw[hpm,vw hfit.pn,hpr]
      simp only [Option.bind_some]
      rw[if_pos hsn]
      simp only
      rw[if_neg (by simpa using hlen)]
     rw[hwa]at hWIa
     rw[hlm]at hcall
     refine hcall.mono ?_
     rintro e w' ⟨oa,oc,he,q1,q2,q3,q4,q5,q6,q7,q8,q9,q10⟩
     refine⟨oa,oc,.nilIface,?_,⟨⟨U,⟨L,nv,some tb,q1,hL,hWIa,hU,(fun tb' e'=>?_),fun x hx=>hnP x (by rw[hwx.mw,<-q1.mw];exact hx)⟩,⟨q6,q7,q8,q5,fun b hb hu=>q4 b hb (fun z=>hu ((hU b).2 (Or.inl z))),fun b hb=>Or.inl hb⟩⟩,q2,q3,q9,q10⟩,rfl⟩
     ·rw[he]
      unfold nOf
      cases Tp.callP (Tp.nd (Tp.bodySz P) fuel 0) 0 md pr vs ⟨P,fuel,[]⟩ <;> rfl
     ·cases e'
      obtain⟨n,r1,r2⟩:=hmc tb rfl
      exact⟨n,by omega,r2.on (q4 _ r2.lt hww.tx.2.2)⟩
    ·rw[if_pos (by simpa using hlen)]
     exact(uY hwx hmdl hvn hlo hp2 (er:=2) (Or.inr ⟨pr,hpr,Or.inr ⟨hsn,fun e=>hlen e.symm,rfl⟩⟩)).mono (fun e w' q=>herr 2 e w' q)
   ·rw[if_neg hsn]
    exact(uY hwx hmdl hvn hlo hp2 (er:=7) (Or.inr ⟨pr,hpr,Or.inl ⟨by simpa using hsn,rfl⟩⟩)).mono (fun e w' q=>herr 7 e w' q)
theorem WZ.eqU {X U:Nat->Prop}{c:Nat}{w:World}{wb:Nat}{P:List Pt}(h:WZ X U c w wb P):∃ L nv tv,U=Mut L wb tv nv/\WX X w wb L P nv tv/\L.length<=10/\Tp.WI ofS P/\MapC w tv L c/\∀ m∈Tp.ms P,Tp.nM m<=1000:=by
 obtain⟨L,nv,tv,h1,h2,h3,h4,h5,h6⟩:=h
 exact⟨L,nv,tv,funext fun b=>propext (h4 b),h1,h2,h3,h5,h6⟩
theorem vJ {X U D:Nat->Prop}{c:Nat}{w:World}{wb fuel:Nat}{P:List Pt}{m:Tp.M}{ia ga pa ba:Option Addr}{ic gc pc bc:Nat}(h:WZ X U c w wb P) (hX:∀ b,X b->b<w.heap.size) (hc:c<=90) (hmb:MB w w.heap.size m ia ga pa ba ic gc pc bc) (hmd:MD w D m ia ga pa ba ic gc pc bc) (hD:∀ b,D b->b<w.heap.size->¬X b/\¬U b) (hm:Tp.WM m) (hnm:Tp.nM m<=1000) (hf:fuel<=800000) :
  Calls Tryz.prog 17 #[.pointer (some ⟨wb,0,none⟩),.agg (mcells (bs m.name) (.slice ia m.imports.length ic) (.slice ga m.vars.length gc) (.slice pa m.procs.length pc) (.slice ba m.body.length bc)),.int .i64 (fuel:Int)] w (LoadQ X U c w wb (Tp.loadW ofS P m fuel)):=by
 have herr:∀ er:Nat× Option Nat,(∀ e w',ErrP w er e w'->LoadQ X U c w wb ⟨P,Tp.no,0,some er⟩ e w'):=fun er e w' q=>by
  obtain⟨hb,v,he,hev⟩:=q
  exact⟨none,0,v,he,Nat.le_refl _,yW h hb,hev⟩
 obtain⟨L,nv,tv,rfl,hwx,hL,hWI,hmc,hnP⟩:=h.eqU
 have hval:∀ v,Tp.loadW ofS P m fuel=v->Calls Tryz.prog 17 #[.pointer (some ⟨wb,0,none⟩),.agg (mcells (bs m.name) (.slice ia m.imports.length ic) (.slice ga m.vars.length gc) (.slice pa m.procs.length pc) (.slice ba m.body.length bc)),.int .i64 (fuel:Int)] w (LoadQ X (Mut L wb tv nv) c w wb v)->Calls Tryz.prog 17 #[.pointer (some ⟨wb,0,none⟩),.agg (mcells (bs m.name) (.slice ia m.imports.length ic) (.slice ga m.vars.length gc) (.slice pa m.procs.length pc) (.slice ba m.body.length bc)),.int .i64 (fuel:Int)] w (LoadQ X (Mut L wb tv nv) c w wb (Tp.loadW ofS P m fuel)):=fun v e k=>by rw[e];exact k
 rcases jl hwx m.name with⟨hp1,hp2⟩|⟨p,lo,hlo,hp1,hpm,hlm,hp2⟩
 ·exact loadA_ok hwx hL hmb hm hX hWI hmc hc hmd hD hf hnP hnm hp1 hp2
 ·have e:Tp.loadW ofS P m fuel=⟨P,Tp.no,0,some (9,none)⟩:=by
   unfold Tp.loadW
   rw[if_pos (by rw[hp1];rfl)]
  exact hval _ e ((load_twice hwx hL hmb hm hp2).mono (fun e w' q=>herr _ e w' q))
theorem swap_anyZ {X U D:Nat->Prop}{c:Nat}{w:World}{wb:Nat}{P:List Pt}{m:Tp.M}{ia ga pa ba:Option Addr}{ic gc pc bc:Nat}(h:WZ X U c w wb P) (hX:∀ b,X b->b<w.heap.size) (hc:c<=90) (hmb:MB w w.heap.size m ia ga pa ba ic gc pc bc) (hmd:MD w D m ia ga pa ba ic gc pc bc) (hD:∀ b,D b->b<w.heap.size->¬X b/\¬U b) (hm:Tp.WM m) (hnm:Tp.nM m<=1000) :
  Calls Tryz.prog 18 #[.pointer (some ⟨wb,0,none⟩),.agg (mcells (bs m.name) (.slice ia m.imports.length ic) (.slice ga m.vars.length gc) (.slice pa m.procs.length pc) (.slice ba m.body.length bc))] w (SwapQ X U c w wb (Tp.swapW ofS P m)):=by
 have herr:∀ er:Nat× Option Nat,(∀ e w',ErrS w er e w'->SwapQ X U c w wb ⟨P,Tp.no,0,some er⟩ e w'):=fun er e w' q=>by
  obtain⟨hb,v,he,hev⟩:=q
  exact⟨v,he,⟨U,(h.on hb).more (by omega),Tr.below hb⟩,hev⟩
 obtain⟨L,nv,tv,rfl,hwx,hL,hWI,hmc,hnP⟩:=h.eqU
 have hval:∀ v,Tp.swapW ofS P m=v->Calls Tryz.prog 18 #[.pointer (some ⟨wb,0,none⟩),.agg (mcells (bs m.name) (.slice ia m.imports.length ic) (.slice ga m.vars.length gc) (.slice pa m.procs.length pc) (.slice ba m.body.length bc))] w (SwapQ X (Mut L wb tv nv) c w wb v)->Calls Tryz.prog 18 #[.pointer (some ⟨wb,0,none⟩),.agg (mcells (bs m.name) (.slice ia m.imports.length ic) (.slice ga m.vars.length gc) (.slice pa m.procs.length pc) (.slice ba m.body.length bc))] w (SwapQ X (Mut L wb tv nv) c w wb (Tp.swapW ofS P m)):=fun v e k=>by rw[e];exact k
 rcases jl hwx m.name with⟨hp1,hp2⟩|⟨p,lo,hlo,hp1,hpm,hlm,hp2⟩
 ·have e:Tp.swapW ofS P m=⟨P,Tp.no,0,some (7,none)⟩:=by unfold Tp.swapW;rw[hp1]
  exact hval _ e ((swap_none hwx hL hmb hm hp2).mono (fun e w' q=>herr _ e w' q))
 ·obtain⟨tb,htv,_⟩:=hwx.ww hlo
  exact swapN hwx hL hmb hm htv hX hmc hc hmd hD hnm hp1 hpm hlo hlm hp2 hWI hnP
end Go.Proofs.YtibncofnnlbmcaaGreatDoor
