import Derived.Test.YtibncofnnlbmcaaGreatDoorKAe
import Derived.Deep.Fields
import Derived.Deep.Slices
import Derived.Deep.Strs
set_option maxRecDepth 100000
set_option maxHeartbeats 4000000
namespace Go.Proofs.YtibncofnnlbmcaaGreatDoor
open Go.RowKit Go.Maps
open Tp (Bs X S G Pr Pt Rs Rr Own)
structure Ac where
 what:Int
 text:Bs
 name:Bs
 proc:Bs
 args:List Int
def ActIs (P:List Pt) (a:Ac) (fuel:Nat) (r:Tp.Ans):Prop:=if a.what=1 then r=Tp.callW P a.name a.proc a.args fuel else match Tp.parse a.text with
 | .error er=>r=⟨P,Tp.no,0,some (er.1,some er.2)⟩
 | .ok m=>if a.what=2 then r=Tp.swapW ofS P m else r=Tp.loadW ofS P m fuel
def acells (a:Ac) (aa:Option Addr) (ac:Nat):Array Value:=#[.int .i64 a.what,.string (bs a.text),.string (bs a.name),.string (bs a.proc),.slice aa a.args.length ac]
def ActQ (X U:Nat->Prop) (c:Nat) (w:World) (wb:Nat) (r:Tp.Ans) (e:Ending) (w':World):Prop:=∃ oa oc,e=.returned (.tuple #[.agg #[.int .i64 (r.e.way:Int),.slice oa r.e.out.length oc],.int .i64 r.n,.int .i64 (tellN r.err:Int)])/\AnsP X U c w wb r oa w'
theorem WZ.wide {X U:Nat->Prop}{c:Nat}{w w':World}{wb:Nat}{P:List Pt}(h:WZ X U c w wb P) (hb:Below w.heap.size w w') {Y:Nat->Prop}(hY:∀ b,Y b->X b\/w.heap.size<=b):WZ Y U c w' wb P:=h.other (fun b hb' _=>hb.block b hb') hb.size hY
theorem xT {X U:Nat->Prop}{c E:Nat}{w W w2 w4 w5:World}{wb:Nat}{r:Tp.Ans}{oa:Option Addr}(hbW:Below w.heap.size w W) (hE1:w.heap.size<=E) (hE2:E<W.heap.size) (h:AnsP (fun b=>X b\/b=E) U c W wb r oa w2) (hb:Below w2.heap.size w2 w4) (hx:Ext E w4 w5):AnsP X U c w wb r oa w5:=by
 obtain⟨⟨U',hz,ht⟩,h1,h2,h3,h4⟩:=h
 have hs:=hb.size
 have hs2:=ht.size
 refine⟨⟨U',(hz.on hb).other (fun b hb' hn=>hx.block b hb' (fun e=>hn (Or.inr e))) hx.size (fun b q=>Or.inl (Or.inl q)),?_⟩,⟨fun i hi=>?_⟩,h2,h3,fun x hx'=>by have:=h4 x hx';have:=hbW.size;omega⟩
 ·have:=hbW.size
  refine⟨(((hx.os.trans hb.os).trans ht.os).trans hbW.os),(((hx.tape.trans hb.tape).trans ht.tape).trans hbW.tape),(((hx.output.trans hb.output).trans ht.output).trans hbW.output),by have:=hx.size;omega,fun b hb' hu=>?_,fun b q=>?_⟩
  ·exact(((hx.block b (by omega) (by omega)).trans (hb.block b (by omega))).trans (ht.block b (by omega) hu)).trans (hbW.block b hb')
  ·rcases ht.more b q with z|z
   ·exact Or.inl z
   ·exact Or.inr (by omega)
 ·obtain⟨b,o,q1,q2,q3⟩:=h1.c i hi
  have hfar:W.heap.size<=b:=h4 _ q1
  have hxs:=hx.size
  exact⟨b,o,q1,by omega,(World.cell?_of_block (w:=w4) (hx.block b (by omega) (by omega))).trans ((hb.cell (p:=⟨b,o+i,none⟩) q2).trans q3)⟩
theorem act_bad {X U:Nat->Prop}{c B:Nat}{w:World}{wb fuel ac:Nat}{aa:Option Addr}{P:List Pt}{a:Ac}(hv:VarsC B w) (hB:B<=w.heap.size) (hU:∀ b,U b->B<=b) (hX:∀ b,X b->b<w.heap.size) (h:WZ X U c w wb P) (_:c<=80) (hn1:¬a.what=1) {er:Nat× Nat}(hp:Tp.parse a.text=.error er) (htl:a.text.length<=100000) :
  Calls Tryz.prog 11 #[.pointer (some ⟨wb,0,none⟩),.agg (acells a aa ac),.int .i64 (fuel:Int)] w (ActQ X U c w wb ⟨P,Tp.no,0,some (er.1,some er.2)⟩):=by
 obtain⟨W,hW⟩:∃ W,W=(w.alloc (.cells (acells a aa ac) 31)).alloc (.cells #[.int .i64 0,.slice none 0 0] 43):=⟨_,rfl⟩
 have hbW:Below w.heap.size w W:=by rw[hW];exact(zb _ _).alloc (by simp) _
 have hsW:W.heap.size=w.heap.size+2:=by rw[hW];simp
 have hka:W.heap[w.heap.size]?=some (.cells (acells a aa ac) 31 (0,0)):=by rw[hW];exact(Below.heap_alloc _ _ _ (by simp)).trans (zo _ _)
 have hke:W.heap[w.heap.size+1]?=some (.cells #[.int .i64 0,.slice none 0 0] 43 (0,0)):=by rw[hW];exact yj _ _ _
 have hzW:WZ (fun b=>X b\/b=w.heap.size+1) U c W wb P:=h.wide hbW (fun b q=>q.imp id (fun z=>by omega))
 have hXW:∀ b,X b\/b=w.heap.size+1->b<W.heap.size:=fun b q=>by
  rcases q with q|q
  ·have:=hX b q;omega
  ·omega
 have hUW:∀ b,U b->b<w.heap.size:=fun b q=>(h.lt q).1
 have hvW:=hv.on' hB hbW
 unfold acells at *
 have a0:W.cell? ⟨w.heap.size,0,none⟩=some (.int .i64 a.what):=(za hka).trans rfl
 have a1:W.cell? ⟨w.heap.size,1,none⟩=some (.string (bs a.text)):=(za hka).trans rfl
 have a2:W.cell? ⟨w.heap.size,2,none⟩=some (.string (bs a.name)):=(za hka).trans rfl
 have a3:W.cell? ⟨w.heap.size,3,none⟩=some (.string (bs a.proc)):=(za hka).trans rfl
 have a4:W.cell? ⟨w.heap.size,4,none⟩=some (.slice aa a.args.length ac):=(za hka).trans rfl
 have hal:=zf hka
 have HBW:=zh hbW
 have HSW:=zh hsW
 have HKE:=zh hke
 have HKA:=zh hka
 have HZW:=zh hzW
 have HXW:=zh hXW
 have HUW:=zh hUW
 have HVW:=zh hvW
 have HU:=zh hU
 have HPP:=zh (yP W a.text htl hvW.mks hvW.lv)
 have HP:=zh hp
 clear hbW hsW hke hka hzW hXW hUW hvW hv hU hX h hp htl
 generalize a.what=wh at *
 go_enter Tryz.func11,Tryz.ntmps11
 go_upto_region 1 with fail
 rw[<-hW]
 clear hW
 go_wp2_with fail
 refine HPP.out.mono ?_
 rintro e w2 ⟨hb2,hq⟩
 unfold ParseP at hq
 rw[HP.out]at hq
 obtain⟨ab,rfl,hab,h0,h1⟩:=hq
 unfold m0
 obtain⟨w3,hw3⟩:∃ w3,w3=w2.alloc (.cells #[.string ⟨#[]⟩,.slice none 0 0,.slice none 0 0,.slice none 0 0,.slice none 0 0] 36):=⟨_,rfl⟩
 have hb3:Below w2.heap.size w2 w3:=by rw[hw3];exact zb _ _
 have HB3:Hid (Below W.heap.size W w3):=hb2.trans (hb3.mono hb2.size)
 have HT:Hid (Calls Tryz.prog 25 #[.iface 117 (.pointer (some ⟨ab,0,none⟩))] w3 fun e w4=>e=.returned (.int .i64 (er.1:Int))/\Below w3.heap.size w3 w4):=tell_at (er.1:Int) ab w3 (HVW.out.on' (by have:=HBW.out.size;omega) HB3.out).et ((hb3.cell (p:=⟨ab,0,none⟩) (zg h0)).trans h0)
 clear hb2 hb3 hab h0 h1
 go_upto_region 5 with fail
 rw[<-hw3]
 clear hw3
 go_wp2_with fail
 refine HT.out.mono ?_
 rintro e w4 ⟨rfl,hb4⟩
 have HB4:Hid (Below W.heap.size W w4):=HB3.out.trans (hb4.mono HB3.out.size)
 have HEx:Hid (w4.heap[w.heap.size+1]?=some (.cells #[.int .i64 0,.slice none 0 0] 43 (0,0))):=(HB4.out.block _ (zf HKE.out)).trans HKE.out
 clear hb4 HT
 have e0:w4.cell? ⟨w.heap.size+1,0,none⟩=some (.int .i64 0):=(za HEx.out).trans rfl
 have e1':w4.cell? ⟨w.heap.size+1,1,none⟩=some (.slice none 0 0):=(za HEx.out).trans rfl
 have ez:∀ j,w4.frozen? ⟨w.heap.size+1,j,none⟩=false:=fun j=>zi HEx.out
 have hel:=zf HEx.out
 have hset:=zu 1 (.slice none 0 0) (zu 0 (.int .i64 0) HEx.out)
 obtain⟨wz,hwz⟩:∃ wz,wz=(w4.setCell ⟨w.heap.size+1,0,none⟩ (.int .i64 0)).setCell ⟨w.heap.size+1,1,none⟩ (.slice none 0 0):=⟨_,rfl⟩
 have f0:wz.cell? ⟨w.heap.size+1,0,none⟩=some (.int .i64 0):=by rw[hwz];exact(za hset).trans rfl
 have f1:wz.cell? ⟨w.heap.size+1,1,none⟩=some (.slice none 0 0):=by rw[hwz];exact(za hset).trans rfl
 have HXZ:Hid (Ext (w.heap.size+1) w4 wz):=by rw[hwz];exact((Ext.refl _ _).set 0 _).set 1 _
 clear hset
 have HFIN:Hid (AnsP X U c w wb ⟨P,Tp.no,0,some (er.1,some er.2)⟩ none wz):=xT HBW.out (by omega) (by have:=HSW.out;omega) (yW HZW.out HB4.out) (Below.refl _ _) HXZ.out
 go_wp2_with fail
 rw[<-hwz]
 exact bodyPost_ret (v:=.tuple #[.agg #[.int .i64 0,.slice none 0 0],.int .i64 0,.int .i64 (er.1:Int)]) (by simp[results,Tryz.results11,go_sem,f0,f1]) rfl (⟨none,0,rfl,HFIN.out⟩)
theorem act_call {X U:Nat->Prop}{c B:Nat}{w:World}{wb fuel ac:Nat}{aa:Option Addr}{P:List Pt}{a:Ac}(hv:VarsC B w) (hB:B<=w.heap.size) (hU:∀ b,U b->B<=b) (hX:∀ b,X b->b<w.heap.size) (h:WZ X U c w wb P) (_:c<=80) (hn1:a.what=1) (hf:fuel<=800000) (hml:a.name.length<=1000000) (hvi:∀ v∈a.args,Tp.I64 v) (hia:IntsAt w a.args aa) (hvn:a.args.length<=1000000) :
  Calls Tryz.prog 11 #[.pointer (some ⟨wb,0,none⟩),.agg (acells a aa ac),.int .i64 (fuel:Int)] w (ActQ X U c w wb (Tp.callW P a.name a.proc a.args fuel)):=by
 obtain⟨r,hr⟩:∃ r,r=Tp.callW P a.name a.proc a.args fuel:=⟨_,rfl⟩
 obtain⟨W,hW⟩:∃ W,W=(w.alloc (.cells (acells a aa ac) 31)).alloc (.cells #[.int .i64 0,.slice none 0 0] 43):=⟨_,rfl⟩
 have hbW:Below w.heap.size w W:=by rw[hW];exact(zb _ _).alloc (by simp) _
 have hsW:W.heap.size=w.heap.size+2:=by rw[hW];simp
 have hka:W.heap[w.heap.size]?=some (.cells (acells a aa ac) 31 (0,0)):=by rw[hW];exact(Below.heap_alloc _ _ _ (by simp)).trans (zo _ _)
 have hke:W.heap[w.heap.size+1]?=some (.cells #[.int .i64 0,.slice none 0 0] 43 (0,0)):=by rw[hW];exact yj _ _ _
 have hzW:WZ (fun b=>X b\/b=w.heap.size+1) U c W wb P:=h.wide hbW (fun b q=>q.imp id (fun z=>by omega))
 have hXW:∀ b,X b\/b=w.heap.size+1->b<W.heap.size:=fun b q=>by
  rcases q with q|q
  ·have:=hX b q;omega
  ·omega
 have hUW:∀ b,U b->b<w.heap.size:=fun b q=>(h.lt q).1
 have hvW:=hv.on' hB hbW
 unfold acells at *
 have a0:W.cell? ⟨w.heap.size,0,none⟩=some (.int .i64 a.what):=(za hka).trans rfl
 have a1:W.cell? ⟨w.heap.size,1,none⟩=some (.string (bs a.text)):=(za hka).trans rfl
 have a2:W.cell? ⟨w.heap.size,2,none⟩=some (.string (bs a.name)):=(za hka).trans rfl
 have a3:W.cell? ⟨w.heap.size,3,none⟩=some (.string (bs a.proc)):=(za hka).trans rfl
 have a4:W.cell? ⟨w.heap.size,4,none⟩=some (.slice aa a.args.length ac):=(za hka).trans rfl
 have hal:=zf hka
 have HBW:=zh hbW
 have HSW:=zh hsW
 have HKE:=zh hke
 have HKA:=zh hka
 have HZW:=zh hzW
 have HXW:=zh hXW
 have HUW:=zh hUW
 have HVW:=zh hvW
 have HU:=zh hU
 have HC:=zh (call_any (ac:=ac) (nm:=a.proc) hzW hf hml hvi (hia.on hbW) hvn)
 rw[<-hr]at HC
 clear hbW hsW hke hka hzW hXW hUW hvW hv hU hX h hvi hia
 rw[<-hr]
 clear hr
 rw[hn1]at a0 hW ⊢
 clear hn1
 obtain⟨an,han⟩:∃ an,an=a.args.length:=⟨_,rfl⟩
 rw[<-han]at a4 hW HC hvn ⊢
 clear han
 go_enter Tryz.func11,Tryz.ntmps11
 go_upto_region 1 with fail
 rw[<-hW]
 clear hW
 go_wp2_with fail
 refine HC.out.mono ?_
 rintro e w2 ⟨oa,oc,ev,rfl,hans,hev⟩
 obtain⟨on,hon⟩:∃ on,on=r.e.out.length:=⟨_,rfl⟩
 obtain⟨w3,hw3⟩:∃ w3,w3=w2.alloc (.cells #[.int .i64 (r.e.way:Int),.slice oa on oc] 43):=⟨_,rfl⟩
 have hb3:Below w2.heap.size w2 w3:=by rw[hw3];exact zb _ _
 have hk3:w3.heap[w2.heap.size]?=some (.cells #[.int .i64 (r.e.way:Int),.slice oa on oc] 43 (0,0)):=by rw[hw3];exact zo _ _
 obtain⟨U',hz2,ht2⟩:=hans.wz
 have hE2:w2.heap[w.heap.size+1]?=some (.cells #[.int .i64 0,.slice none 0 0] 43 (0,0)):=(ht2.block _ (zf HKE.out) (fun q=>by have:=HUW.out _ q;omega)).trans HKE.out
 have hbB:Below B W w2:=ht2.toBelow (by have:=HBW.out.size;omega) HU.out
 have hv3:VarsC B w3.drew:=((HVW.out.on hbB).on (hb3.mono (by have:=ht2.size;have:=HBW.out.size;omega))).on ((Below.refl _ _).drew)
 have HT:Hid (Calls Tryz.prog 25 #[ev] w3.drew fun e w4=>e=.returned (.int .i64 (tellN r.err:Int))/\(Below w2.heap.size w2 w4/\w4.heap[w.heap.size+1]?=some (.cells #[.int .i64 0,.slice none 0 0] 43 (0,0)))/\(w4.cell? ⟨w2.heap.size,0,none⟩=some (.int .i64 (r.e.way:Int))/\w4.cell? ⟨w2.heap.size,1,none⟩=some (.slice oa on oc))):=by
  have hd:Below w2.heap.size w2 w3.drew:=hb3.drew
  refine(x7 (b2:=0) hev (by have:=HSW.out;omega) (Ext.below hd) hv3.et).mono ?_
  rintro e w4 ⟨h1,h2⟩
  have hb4:Below w2.heap.size w2 w4:=hd.trans (h2.mono hd.size)
  have hb34:Below w3.heap.size w3 w4:=((Below.refl w3.heap.size w3).drew).trans h2
  have hk4:=(hb34.block _ (zf hk3)).trans hk3
  exact⟨h1,⟨hb4,(hb4.block _ (zf hE2)).trans hE2⟩,(za hk4).trans rfl,(za hk4).trans rfl⟩
 have HS0:Hid (w3.drew.cell? ⟨w2.heap.size,0,none⟩=some (.int .i64 (r.e.way:Int))/\w3.drew.cell? ⟨w2.heap.size,1,none⟩=some (.slice oa on oc)):=⟨(za hk3).trans rfl,(za hk3).trans rfl⟩
 have h3l:=zf hk3
 have HNE:Hid (w2.heap.size≠w.heap.size+1):=by have:=zf hE2;show _≠_;omega
 have HANS:=zh hans
 have HON:=zh hon
 rw[<-hon]
 clear hb3 hk3 hz2 ht2 hE2 hbB hv3 hev hans hon HC
 generalize htl:tellN r.err=tl at *
 have HTL:=zh htl
 clear htl
 generalize hnn:r.n=nn at *
 have HNN:=zh hnn
 clear hnn
 generalize hwy:r.e.way=wy at *
 have HWY:=zh hwy
 clear hwy
 go_upto_region 3 with fail
 rw[<-hw3]
 clear hw3 a0 a1 a2 a3 a4
 go_region_held3 (fun w'=>w'.cell? ⟨w2.heap.size,0,none⟩=some (.int .i64 (wy:Int))/\w'.cell? ⟨w2.heap.size,1,none⟩=some (.slice oa on oc)) (with_reducible (first|exact HS5.out|exact HS4.out|exact HS0.out)) (first|(go_at_call 25;refine HT.out.mono ?_;rintro e w4 ⟨rfl,⟨hb4,hEx⟩,hs4⟩;have HB4:=zh hb4;have HEx:=zh hEx;have HS4:=zh hs4;have e0:w4.cell? ⟨w.heap.size+1,0,none⟩=some (.int .i64 0):=(za hEx).trans rfl;have e1':w4.cell? ⟨w.heap.size+1,1,none⟩=some (.slice none 0 0):=(za hEx).trans rfl;have ez:∀ j,w4.frozen? ⟨w.heap.size+1,j,none⟩=false:=fun j=>zi hEx;have hel:=zf hEx;have HS5:Hid (((w4.setCell ⟨w.heap.size+1,0,none⟩ (.int .i64 (wy:Int))).setCell ⟨w.heap.size+1,1,none⟩ (.slice oa on oc)).cell? ⟨w2.heap.size,0,none⟩=some (.int .i64 (wy:Int))/\((w4.setCell ⟨w.heap.size+1,0,none⟩ (.int .i64 (wy:Int))).setCell ⟨w.heap.size+1,1,none⟩ (.slice oa on oc)).cell? ⟨w2.heap.size,1,none⟩=some (.slice oa on oc)):=⟨(World.cell?_of_block (w:=w4) ((zx _ HNE.out).trans (zx _ HNE.out))).trans hs4.1,(World.cell?_of_block (w:=w4) ((zx _ HNE.out).trans (zx _ HNE.out))).trans hs4.2⟩;clear hb4 hEx hs4))
 have hset:=zu 1 (.slice oa on oc) (zu 0 (.int .i64 (wy:Int)) HEx.out)
 obtain⟨wz,hwz⟩:∃ wz,wz=(w4.setCell ⟨w.heap.size+1,0,none⟩ (.int .i64 (wy:Int))).setCell ⟨w.heap.size+1,1,none⟩ (.slice oa on oc):=⟨_,rfl⟩
 have f0:wz.cell? ⟨w.heap.size+1,0,none⟩=some (.int .i64 (wy:Int)):=by rw[hwz];exact(za hset).trans rfl
 have f1:wz.cell? ⟨w.heap.size+1,1,none⟩=some (.slice oa on oc):=by rw[hwz];exact(za hset).trans rfl
 have HXZ:Hid (Ext (w.heap.size+1) w4 wz):=by rw[hwz];exact((Ext.refl _ _).set 0 _).set 1 _
 clear hset
 have HFIN:Hid (AnsP X U c w wb r oa wz):=xT HBW.out (by omega) (by have:=HSW.out;omega) HANS.out HB4.out HXZ.out
 go_wp2_with fail
 rw[<-hwz]
 exact bodyPost_ret (v:=.tuple #[.agg #[.int .i64 (wy:Int),.slice oa on oc],.int .i64 nn,.int .i64 (tl:Int)]) (by simp[results,Tryz.results11,go_sem,f0,f1]) rfl (⟨oa,oc,by rw[HWY.out,HNN.out,HTL.out,<-HON.out],HFIN.out⟩)
theorem VM.mdb {B:Nat}{m:Tp.M}{v:Value}{w:World}(h:VM B m v w):∃ ia ga pa ba ic gc pc bc,v=.agg (mcells (bs m.name) (.slice ia m.imports.length ic) (.slice ga m.vars.length gc) (.slice pa m.procs.length pc) (.slice ba m.body.length bc))/\MD w (fun b=>B<=b) m ia ga pa ba ic gc pc bc/\MB w w.heap.size m ia ga pa ba ic gc pc bc:=by
 obtain⟨ia,ga,pa,ba,ic,gc,pc,bc,pcs,bcs,h1,h2,h3,h4,h5,h6,h7⟩:=h
 have hmd:MD w (fun b=>B<=b) m ia ga pa ba ic gc pc bc:=⟨h2,h3,⟨pcs,h4,h5⟩,⟨bcs,h6,h7⟩⟩
 exact⟨ia,ga,pa,ba,ic,gc,pc,bc,h1,hmd,hmd.mb (fun b _ hl=>hl)⟩
theorem act_swap {X U:Nat->Prop}{c B:Nat}{w:World}{wb fuel ac:Nat}{aa:Option Addr}{P:List Pt}{a:Ac}(hv:VarsC B w) (hB:B<=w.heap.size) (hU:∀ b,U b->B<=b) (hX:∀ b,X b->b<w.heap.size) (h:WZ X U c w wb P) (hc:c<=80) (hn2:a.what=2) {m:Tp.M}(hp:Tp.parse a.text=.ok m) (htl:a.text.length<=1000) :
  Calls Tryz.prog 11 #[.pointer (some ⟨wb,0,none⟩),.agg (acells a aa ac),.int .i64 (fuel:Int)] w (ActQ X U c w wb (Tp.swapW ofS P m)):=by
 obtain⟨r,hr⟩:∃ r,r=Tp.swapW ofS P m:=⟨_,rfl⟩
 have hre:r.e=Tp.no/\r.n=0:=by
  rw[hr]
  unfold Tp.swapW
  split
  ·exact⟨rfl,rfl⟩
  ·split
   ·exact⟨rfl,rfl⟩
   ·split
    ·exact⟨rfl,rfl⟩
    ·split
     ·exact⟨rfl,rfl⟩
     ·exact⟨rfl,rfl⟩
 obtain⟨hwm,hnm⟩:=Tp.parse_wm hp
 have hnm':Tp.nM m<=1000:=by omega
 obtain⟨W,hW⟩:∃ W,W=(w.alloc (.cells (acells a aa ac) 31)).alloc (.cells #[.int .i64 0,.slice none 0 0] 43):=⟨_,rfl⟩
 have hbW:Below w.heap.size w W:=by rw[hW];exact(zb _ _).alloc (by simp) _
 have hsW:W.heap.size=w.heap.size+2:=by rw[hW];simp
 have hka:W.heap[w.heap.size]?=some (.cells (acells a aa ac) 31 (0,0)):=by rw[hW];exact(Below.heap_alloc _ _ _ (by simp)).trans (zo _ _)
 have hke:W.heap[w.heap.size+1]?=some (.cells #[.int .i64 0,.slice none 0 0] 43 (0,0)):=by rw[hW];exact yj _ _ _
 have hzW:WZ (fun b=>X b\/b=w.heap.size+1) U c W wb P:=h.wide hbW (fun b q=>q.imp id (fun z=>by omega))
 have hXW:∀ b,X b\/b=w.heap.size+1->b<W.heap.size:=fun b q=>by
  rcases q with q|q
  ·have:=hX b q;omega
  ·omega
 have hUW:∀ b,U b->b<w.heap.size:=fun b q=>(h.lt q).1
 have hvW:=hv.on' hB hbW
 unfold acells at *
 have a0:W.cell? ⟨w.heap.size,0,none⟩=some (.int .i64 a.what):=(za hka).trans rfl
 have a1:W.cell? ⟨w.heap.size,1,none⟩=some (.string (bs a.text)):=(za hka).trans rfl
 have a2:W.cell? ⟨w.heap.size,2,none⟩=some (.string (bs a.name)):=(za hka).trans rfl
 have a3:W.cell? ⟨w.heap.size,3,none⟩=some (.string (bs a.proc)):=(za hka).trans rfl
 have a4:W.cell? ⟨w.heap.size,4,none⟩=some (.slice aa a.args.length ac):=(za hka).trans rfl
 have hal:=zf hka
 have HBW:=zh hbW
 have HSW:=zh hsW
 have HKE:=zh hke
 have HKA:=zh hka
 have HZW:=zh hzW
 have HXW:=zh hXW
 have HUW:=zh hUW
 have HVW:=zh hvW
 have HU:=zh hU
 have HPP:=zh (yP W a.text (by omega) hvW.mks hvW.lv)
 have HP:=zh hp
 have HR:=zh hr
 have HRE:=zh hre
 have HWM:=zh hwm
 clear hbW hsW hke hka hzW hXW hUW hvW hv hU hX h hp htl hre hwm hnm
 rw[<-hr]
 clear hr
 rw[hn2]at a0 hW ⊢
 clear hn2
 obtain⟨wh,hwh⟩:∃ wh:Int,wh=2:=⟨_,rfl⟩
 have HWH:=zh hwh
 rw[<-hwh]at a0 hW ⊢
 have hw1:¬wh=1:=by omega
 clear hwh
 go_enter Tryz.func11,Tryz.ntmps11
 go_upto_region 1 with fail
 rw[<-hW]
 clear hW
 go_wp2_with fail
 refine HPP.out.mono ?_
 rintro e w2 ⟨hb2,hq⟩
 unfold ParseP at hq
 rw[HP.out]at hq
 obtain⟨v,rfl,hvm⟩:=hq
 obtain⟨ia,ga,pa,ba,ic,gc,pc,bc,rfl,hmd,hmb⟩:=hvm.mdb
 obtain⟨w3,hw3⟩:∃ w3,w3=w2.alloc (.cells (mcells (bs m.name) (.slice ia m.imports.length ic) (.slice ga m.vars.length gc) (.slice pa m.procs.length pc) (.slice ba m.body.length bc)) 36):=⟨_,rfl⟩
 have hb3:Below w2.heap.size w2 w3:=by rw[hw3];exact zb _ _
 have hk3:w3.heap[w2.heap.size]?=some (.cells (mcells (bs m.name) (.slice ia m.imports.length ic) (.slice ga m.vars.length gc) (.slice pa m.procs.length pc) (.slice ba m.body.length bc)) 36 (0,0)):=by rw[hw3];exact zo _ _
 have HB3:Hid (Below W.heap.size W w3):=hb2.trans (hb3.mono hb2.size)
 have hz3:=HZW.out.on HB3.out
 have hs3:=HB3.out.size
 have hmd3:MD w3 (fun b=>W.heap.size<=b) m ia ga pa ba ic gc pc bc:=hmd.mono (fun b hb hl=>⟨hb3.block b hl,hb⟩)
 have hD:∀ b,W.heap.size<=b->b<w3.heap.size->¬(X b\/b=w.heap.size+1)/\¬U b:=fun b hb _=>⟨fun q=>by have:=HXW.out b q;omega,fun q=>by have:=HUW.out b q;have:=HSW.out;omega⟩
 have hX3:∀ b,X b\/b=w.heap.size+1->b<w3.heap.size:=fun b q=>by have:=HXW.out b q;omega
 have HC:Hid (Calls Tryz.prog 18 #[.pointer (some ⟨wb,0,none⟩),.agg (mcells (bs m.name) (.slice ia m.imports.length ic) (.slice ga m.vars.length gc) (.slice pa m.procs.length pc) (.slice ba m.body.length bc))] w3 (SwapQ (fun b=>X b\/b=w.heap.size+1) U c w3 wb r)):=by
  rw[HR.out]
  exact swap_anyZ hz3 hX3 (by omega) (hmb.up hb3) hmd3 hD HWM.out hnm'
 unfold mcells at *
 obtain⟨mn,hmn⟩:∃ mn,mn=bs m.name:=⟨_,rfl⟩
 obtain⟨il,hil⟩:∃ il,il=m.imports.length:=⟨_,rfl⟩
 obtain⟨gl,hgl⟩:∃ gl,gl=m.vars.length:=⟨_,rfl⟩
 obtain⟨pl,hpl⟩:∃ pl,pl=m.procs.length:=⟨_,rfl⟩
 obtain⟨bl,hbl⟩:∃ bl,bl=m.body.length:=⟨_,rfl⟩
 rw[<-hmn,<-hil,<-hgl,<-hpl,<-hbl]at hw3 hk3 HC ⊢
 clear hmn hil hgl hpl hbl
 have m0':w3.cell? ⟨w2.heap.size,0,none⟩=some (.string mn):=(za hk3).trans rfl
 have m1':w3.cell? ⟨w2.heap.size,1,none⟩=some (.slice ia il ic):=(za hk3).trans rfl
 have m2':w3.cell? ⟨w2.heap.size,2,none⟩=some (.slice ga gl gc):=(za hk3).trans rfl
 have m3':w3.cell? ⟨w2.heap.size,3,none⟩=some (.slice pa pl pc):=(za hk3).trans rfl
 have m4':w3.cell? ⟨w2.heap.size,4,none⟩=some (.slice ba bl bc):=(za hk3).trans rfl
 have hml:=zf hk3
 have b0:w3.cell? ⟨w.heap.size,0,none⟩=some (.int .i64 wh):=(HB3.out.cell (p:=⟨w.heap.size,0,none⟩) hal).trans a0
 have hal3:=zg b0
 clear hb2 hb3 hk3 hvm hmd hmb hz3 hmd3 hD hX3 a0 a1 a2 a3 a4 HPP
 go_upto_region 5 with fail
 rw[<-hw3]
 clear hw3
 have hw2:=HWH.out
 rw[hw2]at b0
 clear hw2 hw1
 go_wp2_with fail
 refine HC.out.mono ?_
 rintro e w4 ⟨ev,rfl,hz4,hev⟩
 obtain⟨U',hz4,ht4⟩:=hz4
 have hE4:w4.heap[w.heap.size+1]?=some (.cells #[.int .i64 0,.slice none 0 0] 43 (0,0)):=((ht4.block _ (by have:=zf HKE.out;have:=HB3.out.size;omega) (fun q=>by have:=HUW.out _ q;omega)).trans (HB3.out.block _ (zf HKE.out))).trans HKE.out
 have hbB:Below B W w4:=(HB3.out.mono (by have:=HBW.out.size;omega)).trans (ht4.toBelow (by have:=HBW.out.size;have:=HB3.out.size;omega) HU.out)
 have HT:Hid (Calls Tryz.prog 25 #[ev] w4 fun e w5=>e=.returned (.int .i64 (tellN r.err:Int))/\Below w4.heap.size w4 w5):=x7 (b2:=0) hev (by omega) (Ext.refl _ _) (HVW.out.on hbB).et
 have HANS:Hid (AnsP (fun b=>X b\/b=w.heap.size+1) U c W wb r none w4):=by
  refine⟨⟨U',hz4,Tr.ahead HB3.out ht4⟩,⟨fun i hi=>?_⟩,fun v hv=>?_,?_,fun x hx=>(by cases hx)⟩
  ·rw[HRE.out.1]at hi;cases hi
  ·rw[HRE.out.1]at hv;cases hv
  ·rw[HRE.out.1];show (0:Nat)<=200;omega
 have HE4:=zh hE4
 clear hz4 ht4 hev hE4 hbB HC m0' m1' m2' m3' m4' b0
 generalize htl:tellN r.err=tl at *
 have HTL:=zh htl
 clear htl
 go_wp2_with fail
 refine HT.out.mono ?_
 rintro e w5 ⟨rfl,hb5⟩
 have HB5:=zh hb5
 have HEx:Hid (w5.heap[w.heap.size+1]?=some (.cells #[.int .i64 0,.slice none 0 0] 43 (0,0))):=(hb5.block _ (zf HE4.out)).trans HE4.out
 clear hb5 HT
 have e0:w5.cell? ⟨w.heap.size+1,0,none⟩=some (.int .i64 0):=(za HEx.out).trans rfl
 have e1':w5.cell? ⟨w.heap.size+1,1,none⟩=some (.slice none 0 0):=(za HEx.out).trans rfl
 have ez:∀ j,w5.frozen? ⟨w.heap.size+1,j,none⟩=false:=fun j=>zi HEx.out
 have hel:=zf HEx.out
 have hset:=zu 1 (.slice none 0 0) (zu 0 (.int .i64 0) HEx.out)
 obtain⟨wz,hwz⟩:∃ wz,wz=(w5.setCell ⟨w.heap.size+1,0,none⟩ (.int .i64 0)).setCell ⟨w.heap.size+1,1,none⟩ (.slice none 0 0):=⟨_,rfl⟩
 have f0:wz.cell? ⟨w.heap.size+1,0,none⟩=some (.int .i64 0):=by rw[hwz];exact(za hset).trans rfl
 have f1:wz.cell? ⟨w.heap.size+1,1,none⟩=some (.slice none 0 0):=by rw[hwz];exact(za hset).trans rfl
 have HXZ:Hid (Ext (w.heap.size+1) w5 wz):=by rw[hwz];exact((Ext.refl _ _).set 0 _).set 1 _
 clear hset
 have HFIN:Hid (AnsP X U c w wb r none wz):=xT HBW.out (by omega) (by have:=HSW.out;omega) HANS.out HB5.out HXZ.out
 go_wp2_with fail
 rw[<-hwz]
 exact bodyPost_ret (v:=.tuple #[.agg #[.int .i64 0,.slice none 0 0],.int .i64 0,.int .i64 (tl:Int)]) (by simp[results,Tryz.results11,go_sem,f0,f1]) rfl (⟨none,0,by rw[HRE.out.1,HRE.out.2,HTL.out];rfl,HFIN.out⟩)
theorem act_load {X U:Nat->Prop}{c B:Nat}{w:World}{wb fuel ac:Nat}{aa:Option Addr}{P:List Pt}{a:Ac}(hv:VarsC B w) (hB:B<=w.heap.size) (hU:∀ b,U b->B<=b) (hX:∀ b,X b->b<w.heap.size) (h:WZ X U c w wb P) (hc:c<=80) (hn1:¬a.what=1) (hn2:¬a.what=2) {m:Tp.M}(hp:Tp.parse a.text=.ok m) (htl:a.text.length<=1000) (hf:fuel<=800000) :
  Calls Tryz.prog 11 #[.pointer (some ⟨wb,0,none⟩),.agg (acells a aa ac),.int .i64 (fuel:Int)] w (ActQ X U c w wb (Tp.loadW ofS P m fuel)):=by
 obtain⟨r,hr⟩:∃ r,r=Tp.loadW ofS P m fuel:=⟨_,rfl⟩
 have hre:r.n=0:=by
  rw[hr]
  unfold Tp.loadW
  split
  ·rfl
  ·split
   ·rfl
   ·split
    ·rfl
    ·rfl
 obtain⟨hwm,hnm⟩:=Tp.parse_wm hp
 have hnm':Tp.nM m<=1000:=by omega
 obtain⟨W,hW⟩:∃ W,W=(w.alloc (.cells (acells a aa ac) 31)).alloc (.cells #[.int .i64 0,.slice none 0 0] 43):=⟨_,rfl⟩
 have hbW:Below w.heap.size w W:=by rw[hW];exact(zb _ _).alloc (by simp) _
 have hsW:W.heap.size=w.heap.size+2:=by rw[hW];simp
 have hka:W.heap[w.heap.size]?=some (.cells (acells a aa ac) 31 (0,0)):=by rw[hW];exact(Below.heap_alloc _ _ _ (by simp)).trans (zo _ _)
 have hke:W.heap[w.heap.size+1]?=some (.cells #[.int .i64 0,.slice none 0 0] 43 (0,0)):=by rw[hW];exact yj _ _ _
 have hzW:WZ (fun b=>X b\/b=w.heap.size+1) U c W wb P:=h.wide hbW (fun b q=>q.imp id (fun z=>by omega))
 have hXW:∀ b,X b\/b=w.heap.size+1->b<W.heap.size:=fun b q=>by
  rcases q with q|q
  ·have:=hX b q;omega
  ·omega
 have hUW:∀ b,U b->b<w.heap.size:=fun b q=>(h.lt q).1
 have hvW:=hv.on' hB hbW
 unfold acells at *
 have a0:W.cell? ⟨w.heap.size,0,none⟩=some (.int .i64 a.what):=(za hka).trans rfl
 have a1:W.cell? ⟨w.heap.size,1,none⟩=some (.string (bs a.text)):=(za hka).trans rfl
 have a2:W.cell? ⟨w.heap.size,2,none⟩=some (.string (bs a.name)):=(za hka).trans rfl
 have a3:W.cell? ⟨w.heap.size,3,none⟩=some (.string (bs a.proc)):=(za hka).trans rfl
 have a4:W.cell? ⟨w.heap.size,4,none⟩=some (.slice aa a.args.length ac):=(za hka).trans rfl
 have hal:=zf hka
 have HBW:=zh hbW
 have HSW:=zh hsW
 have HKE:=zh hke
 have HKA:=zh hka
 have HZW:=zh hzW
 have HXW:=zh hXW
 have HUW:=zh hUW
 have HVW:=zh hvW
 have HU:=zh hU
 have HPP:=zh (yP W a.text (by omega) hvW.mks hvW.lv)
 have HP:=zh hp
 have HR:=zh hr
 have HRE:=zh hre
 have HWM:=zh hwm
 clear hbW hsW hke hka hzW hXW hUW hvW hv hU hX h hp htl hre hwm hnm
 rw[<-hr]
 clear hr
 generalize a.what=wh at *
 go_enter Tryz.func11,Tryz.ntmps11
 go_upto_region 1 with fail
 rw[<-hW]
 clear hW
 go_wp2_with fail
 refine HPP.out.mono ?_
 rintro e w2 ⟨hb2,hq⟩
 unfold ParseP at hq
 rw[HP.out]at hq
 obtain⟨v,rfl,hvm⟩:=hq
 obtain⟨ia,ga,pa,ba,ic,gc,pc,bc,rfl,hmd,hmb⟩:=hvm.mdb
 obtain⟨w3,hw3⟩:∃ w3,w3=w2.alloc (.cells (mcells (bs m.name) (.slice ia m.imports.length ic) (.slice ga m.vars.length gc) (.slice pa m.procs.length pc) (.slice ba m.body.length bc)) 36):=⟨_,rfl⟩
 have hb3:Below w2.heap.size w2 w3:=by rw[hw3];exact zb _ _
 have hk3:w3.heap[w2.heap.size]?=some (.cells (mcells (bs m.name) (.slice ia m.imports.length ic) (.slice ga m.vars.length gc) (.slice pa m.procs.length pc) (.slice ba m.body.length bc)) 36 (0,0)):=by rw[hw3];exact zo _ _
 have HB3:Hid (Below W.heap.size W w3):=hb2.trans (hb3.mono hb2.size)
 have hz3:=HZW.out.on HB3.out
 have hs3:=HB3.out.size
 have hmd3:MD w3 (fun b=>W.heap.size<=b) m ia ga pa ba ic gc pc bc:=hmd.mono (fun b hb hl=>⟨hb3.block b hl,hb⟩)
 have hD:∀ b,W.heap.size<=b->b<w3.heap.size->¬(X b\/b=w.heap.size+1)/\¬U b:=fun b hb _=>⟨fun q=>by have:=HXW.out b q;omega,fun q=>by have:=HUW.out b q;have:=HSW.out;omega⟩
 have hX3:∀ b,X b\/b=w.heap.size+1->b<w3.heap.size:=fun b q=>by have:=HXW.out b q;omega
 have HC:Hid (Calls Tryz.prog 17 #[.pointer (some ⟨wb,0,none⟩),.agg (mcells (bs m.name) (.slice ia m.imports.length ic) (.slice ga m.vars.length gc) (.slice pa m.procs.length pc) (.slice ba m.body.length bc)),.int .i64 (fuel:Int)] w3 (LoadQ (fun b=>X b\/b=w.heap.size+1) U c w3 wb r)):=by
  rw[HR.out]
  exact vJ hz3 hX3 (by omega) (hmb.up hb3) hmd3 hD HWM.out hnm' hf
 unfold mcells at *
 obtain⟨mn,hmn⟩:∃ mn,mn=bs m.name:=⟨_,rfl⟩
 obtain⟨il,hil⟩:∃ il,il=m.imports.length:=⟨_,rfl⟩
 obtain⟨gl,hgl⟩:∃ gl,gl=m.vars.length:=⟨_,rfl⟩
 obtain⟨pl,hpl⟩:∃ pl,pl=m.procs.length:=⟨_,rfl⟩
 obtain⟨bl,hbl⟩:∃ bl,bl=m.body.length:=⟨_,rfl⟩
 rw[<-hmn,<-hil,<-hgl,<-hpl,<-hbl]at hw3 hk3 HC ⊢
 clear hmn hil hgl hpl hbl
 have m0':w3.cell? ⟨w2.heap.size,0,none⟩=some (.string mn):=(za hk3).trans rfl
 have m1':w3.cell? ⟨w2.heap.size,1,none⟩=some (.slice ia il ic):=(za hk3).trans rfl
 have m2':w3.cell? ⟨w2.heap.size,2,none⟩=some (.slice ga gl gc):=(za hk3).trans rfl
 have m3':w3.cell? ⟨w2.heap.size,3,none⟩=some (.slice pa pl pc):=(za hk3).trans rfl
 have m4':w3.cell? ⟨w2.heap.size,4,none⟩=some (.slice ba bl bc):=(za hk3).trans rfl
 have hml:=zf hk3
 have b0:w3.cell? ⟨w.heap.size,0,none⟩=some (.int .i64 wh):=(HB3.out.cell (p:=⟨w.heap.size,0,none⟩) hal).trans a0
 have hal3:=zg b0
 clear hb2 hb3 hk3 hvm hmd hmb hz3 hmd3 hD hX3 a0 a1 a2 a3 a4 HPP
 go_upto_region 5 with fail
 rw[<-hw3]
 clear hw3
 go_wp2_with fail
 refine HC.out.mono ?_
 rintro e w4 ⟨oa,oc,ev,rfl,hcap,hans,hev⟩
 obtain⟨on,hon⟩:∃ on,on=r.e.out.length:=⟨_,rfl⟩
 obtain⟨U',hz4,ht4⟩:=hans.wz
 obtain⟨w6,hw6⟩:∃ w6,w6=w4.alloc (.cells #[.int .i64 (r.e.way:Int),.slice oa on oc] 43):=⟨_,rfl⟩
 have hb6:Below w4.heap.size w4 w6:=by rw[hw6];exact zb _ _
 have hk6:w6.heap[w4.heap.size]?=some (.cells #[.int .i64 (r.e.way:Int),.slice oa on oc] 43 (0,0)):=by rw[hw6];exact zo _ _
 have hE4:w4.heap[w.heap.size+1]?=some (.cells #[.int .i64 0,.slice none 0 0] 43 (0,0)):=((ht4.block _ (by have:=zf HKE.out;have:=HB3.out.size;omega) (fun q=>by have:=HUW.out _ q;omega)).trans (HB3.out.block _ (zf HKE.out))).trans HKE.out
 have hbB:Below B W w4:=(HB3.out.mono (by have:=HBW.out.size;omega)).trans (ht4.toBelow (by have:=HBW.out.size;have:=HB3.out.size;omega) HU.out)
 have hv6:VarsC B w6.drew:=((HVW.out.on hbB).on (hb6.mono (by have:=ht4.size;have:=HB3.out.size;have:=HBW.out.size;omega))).on ((Below.refl _ _).drew)
 have HT:Hid (Calls Tryz.prog 25 #[ev] w6.drew fun e w5=>e=.returned (.int .i64 (tellN r.err:Int))/\(Below w4.heap.size w4 w5/\w5.heap[w.heap.size+1]?=some (.cells #[.int .i64 0,.slice none 0 0] 43 (0,0)))/\(w5.cell? ⟨w4.heap.size,0,none⟩=some (.int .i64 (r.e.way:Int))/\w5.cell? ⟨w4.heap.size,1,none⟩=some (.slice oa on oc))):=by
  have hd:Below w4.heap.size w4 w6.drew:=hb6.drew
  refine(x7 (b2:=0) hev (by omega) (Ext.below hd) hv6.et).mono ?_
  rintro e w5 ⟨h1,h2⟩
  have hb5:Below w4.heap.size w4 w5:=hd.trans (h2.mono hd.size)
  have hb65:Below w6.heap.size w6 w5:=((Below.refl w6.heap.size w6).drew).trans h2
  have hk5:=(hb65.block _ (zf hk6)).trans hk6
  exact⟨h1,⟨hb5,(hb5.block _ (zf hE4)).trans hE4⟩,(za hk5).trans rfl,(za hk5).trans rfl⟩
 have HS0:Hid (w6.drew.cell? ⟨w4.heap.size,0,none⟩=some (.int .i64 (r.e.way:Int))/\w6.drew.cell? ⟨w4.heap.size,1,none⟩=some (.slice oa on oc)):=⟨(za hk6).trans rfl,(za hk6).trans rfl⟩
 have h6l:=zf hk6
 have HNE:Hid (w4.heap.size≠w.heap.size+1):=by have:=zf hE4;show _≠_;omega
 have HANS:Hid (AnsP (fun b=>X b\/b=w.heap.size+1) U c W wb r oa w4):=⟨⟨U',hz4,Tr.ahead HB3.out ht4⟩,hans.it,hans.oi,hans.ol,fun x hx=>by have:=hans.far x hx;have:=HB3.out.size;omega⟩
 have HON:=zh hon
 rw[<-hon]
 clear hb6 hk6 hz4 ht4 hE4 hbB hv6 hev hans hon HC hcap m0' m1' m2' m3' m4' b0
 generalize htl:tellN r.err=tl at *
 have HTL:=zh htl
 clear htl
 generalize hwy:r.e.way=wy at *
 have HWY:=zh hwy
 clear hwy
 go_upto_region 10 with fail
 rw[<-hw6]
 clear hw6
 go_region_held3 (fun w'=>w'.cell? ⟨w4.heap.size,0,none⟩=some (.int .i64 (wy:Int))/\w'.cell? ⟨w4.heap.size,1,none⟩=some (.slice oa on oc)) (with_reducible (first|exact HS5.out|exact HS4.out|exact HS0.out)) (first|(go_at_call 25;refine HT.out.mono ?_;rintro e w5 ⟨rfl,⟨hb5,hEx⟩,hs4⟩;have HB5:=zh hb5;have HEx:=zh hEx;have HS4:=zh hs4;have e0:w5.cell? ⟨w.heap.size+1,0,none⟩=some (.int .i64 0):=(za hEx).trans rfl;have e1':w5.cell? ⟨w.heap.size+1,1,none⟩=some (.slice none 0 0):=(za hEx).trans rfl;have ez:∀ j,w5.frozen? ⟨w.heap.size+1,j,none⟩=false:=fun j=>zi hEx;have hel:=zf hEx;have HS5:Hid (((w5.setCell ⟨w.heap.size+1,0,none⟩ (.int .i64 (wy:Int))).setCell ⟨w.heap.size+1,1,none⟩ (.slice oa on oc)).cell? ⟨w4.heap.size,0,none⟩=some (.int .i64 (wy:Int))/\((w5.setCell ⟨w.heap.size+1,0,none⟩ (.int .i64 (wy:Int))).setCell ⟨w.heap.size+1,1,none⟩ (.slice oa on oc)).cell? ⟨w4.heap.size,1,none⟩=some (.slice oa on oc)):=⟨(World.cell?_of_block (w:=w5) ((zx _ HNE.out).trans (zx _ HNE.out))).trans hs4.1,(World.cell?_of_block (w:=w5) ((zx _ HNE.out).trans (zx _ HNE.out))).trans hs4.2⟩;clear hb5 hEx hs4))
 have hset:=zu 1 (.slice oa on oc) (zu 0 (.int .i64 (wy:Int)) HEx.out)
 obtain⟨wz,hwz⟩:∃ wz,wz=(w5.setCell ⟨w.heap.size+1,0,none⟩ (.int .i64 (wy:Int))).setCell ⟨w.heap.size+1,1,none⟩ (.slice oa on oc):=⟨_,rfl⟩
 have f0:wz.cell? ⟨w.heap.size+1,0,none⟩=some (.int .i64 (wy:Int)):=by rw[hwz];exact(za hset).trans rfl
 have f1:wz.cell? ⟨w.heap.size+1,1,none⟩=some (.slice oa on oc):=by rw[hwz];exact(za hset).trans rfl
 have HXZ:Hid (Ext (w.heap.size+1) w5 wz):=by rw[hwz];exact((Ext.refl _ _).set 0 _).set 1 _
 clear hset
 have HFIN:Hid (AnsP X U c w wb r oa wz):=xT HBW.out (by omega) (by have:=HSW.out;omega) HANS.out HB5.out HXZ.out
 go_wp2_with fail
 rw[<-hwz]
 exact bodyPost_ret (v:=.tuple #[.agg #[.int .i64 (wy:Int),.slice oa on oc],.int .i64 0,.int .i64 (tl:Int)]) (by simp[results,Tryz.results11,go_sem,f0,f1]) rfl (⟨oa,oc,by rw[HWY.out,HRE.out,HTL.out,<-HON.out],HFIN.out⟩)
theorem act_post {X U:Nat->Prop}{c B:Nat}{w:World}{wb fuel ac:Nat}{aa:Option Addr}{P:List Pt}{a:Ac}(hv:VarsC B w) (hB:B<=w.heap.size) (hU:∀ b,U b->B<=b) (hX:∀ b,X b->b<w.heap.size) (h:WZ X U c w wb P) (hc:c<=80) (hf:fuel<=800000) (htl:a.text.length<=1000) (hml:a.name.length<=1000000) (hvi:∀ v∈a.args,Tp.I64 v) (hia:IntsAt w a.args aa) (hvn:a.args.length<=1000000) :
  Calls Tryz.prog 11 #[.pointer (some ⟨wb,0,none⟩),.agg (acells a aa ac),.int .i64 (fuel:Int)] w fun e w'=>∃ r,ActIs P a fuel r/\ActQ X U c w wb r e w':=by
 by_cases h1:a.what=1
 ·exact(act_call hv hB hU hX h hc h1 hf hml hvi hia hvn).mono (fun e w' q=>⟨_,by unfold ActIs;rw[if_pos h1],q⟩)
 ·cases hp:Tp.parse a.text with
  | error er=>exact(act_bad hv hB hU hX h hc h1 hp (by omega)).mono (fun e w' q=>⟨_,by unfold ActIs;rw[if_neg h1,hp],q⟩)
  | ok m =>
   by_cases h2:a.what=2
   ·exact(act_swap hv hB hU hX h hc h2 hp htl).mono (fun e w' q=>⟨_,by unfold ActIs;rw[if_neg h1,hp];simp[h2],q⟩)
   ·exact(act_load hv hB hU hX h hc h1 h2 hp htl hf).mono (fun e w' q=>⟨_,by unfold ActIs;rw[if_neg h1,hp];simp[h2],q⟩)
end Go.Proofs.YtibncofnnlbmcaaGreatDoor
namespace Go.Proofs.YtibncofnnlbmcaaGreatDoor
open Go.RowKit
open Tp (Bs)
open Go.Deep
structure ActAt (w:World) (l:List Ac) (a:Option Addr):Prop where
 c:∀ i (h:i<l.length),∃ b o aa ac,a=some ⟨b,o,none⟩/\(∀ j,j<5->w.cell? ⟨b,o+(i * 5+j),none⟩=(acells l[i] aa ac)[j]?)/\IntsAt w l[i].args aa/\∀ v∈l[i].args,Tp.I64 v
theorem ActAt.on {w w':World}{l:List Ac}{a:Option Addr}(h:ActAt w l a) (k:Below w.heap.size w w'):ActAt w' l a:=by
 refine⟨fun i hi=>?_⟩
 obtain⟨b,o,aa,ac,h1,h2,h3,h4⟩:=h.c i hi
 have hl:b<w.heap.size:=zg (h2 0 (by omega))
 exact⟨b,o,aa,ac,h1,fun j hj=>(k.cell (p:=⟨b,o+(i * 5+j),none⟩) hl).trans (h2 j hj),h3.on k,h4⟩
section
variable {H:Type} {enc:TypeId× Value->H} {P:Program} {w:World} {base:Nat} {spare:Nat->Bool} {held:Bool}
theorem ud {α:Type}{P:Nat->α->Prop}:∀(n:Nat),(∀ i,i<n->∃ x,P i x)->∃ l:List α,l.length=n/\∀ i (h:i<l.length),P i l[i]:=by
 intro n
 induction n with
 | zero=>intro _;exact⟨[],rfl,fun i h=>by simp at h⟩
 | succ n ih =>
  intro h
  obtain⟨l,h1,h2⟩:=ih (fun i hi=>h i (by omega))
  obtain⟨x,hx⟩:=h n (by omega)
  refine⟨l++[x],by simp[h1],fun i hi=>?_⟩
  by_cases hil:i<l.length
  ·rw[List.getElem_append_left hil];exact h2 i hil
  ·have:i=l.length:=by simp at hi;omega
   subst this
   rw[List.getElem_append_right (by omega)]
   simp only [Nat.sub_self,List.getElem_cons_zero]
   rw[h1];exact hx
theorem open_rows {t e:TypeId}{fs:Array Field}{fuel:Nat}{cs:List Value}{x:DataW H× List MemPlace}(ht:P.underlying t=some (.slice e)) (he:P.underlying e=some (.struct fs))
  (hone:∀(i:Nat) (f:Field),fs[i]?=some f->f.offset=i/\P.cellsOf f.type=1) (hC:P.cellsOf e=fs.size) (hpos:0<fs.size) (h:DataW.trod enc P w base spare held fuel t cs=some x) :
  ∃(a:Option Addr) (len cap:Nat),cs=[.slice a len cap]/\∀ i,i<len->∃(b o n:Nat) (V:Nat->Value),a=some ⟨b,o,none⟩ /\
   ∀(j:Nat) (f:Field),fs[j]?=some f->w.cell? ⟨b,o+(i * fs.size+j),none⟩=some (V j)/\∃ y,DataW.trod enc P w base spare held n f.type [V j]=some y:=by
 rcases open_slice ht h with⟨rfl,_⟩|⟨a,len,cap,m,n,D,Pl,rfl,hb,hlc,hcm,hm,_,hall⟩
 ·exact⟨none,0,0,rfl,fun i hi=>by omega⟩
 ·refine⟨some a,len,cap,rfl,fun i hi=>?_⟩
  have him:i<m:=by rw[hm];split <;> omega
  have hspot:a.spot=none:=by
   obtain⟨cs0,g1,g2⟩:=hall 0 (by omega)
   obtain⟨_,hlen0,hcell0⟩:=World.cells?_some g1
   rw[hC]at hlen0 hcell0
   have h0:=hcell0 0 hpos
   rw[List.getElem?_eq_getElem (by omega)]at h0
   simpa[Addr.add] using World.cell?_spot h0
  obtain⟨cs',h1,h2⟩:=hall i him
  obtain⟨_,hlen,hcell⟩:=World.cells?_some h1
  rw[hC]at hlen hcell
  obtain⟨xs,n',_,_,_,hxl,hf⟩:=DataW.trod_struct he h2
  obtain⟨b,o,spot⟩:=a
  simp only at hspot
  subst hspot
  refine⟨b,o,n',fun j=>cs'.getD j undef,rfl,fun j f hj=>?_⟩
  have hjl:j<fs.size:=(Array.getElem?_eq_some_iff.1 hj).1
  obtain⟨ho,hone1⟩:=hone j f hj
  have hcj:=hcell j hjl
  rw[List.getElem?_eq_getElem (by omega)]at hcj
  have hV:cs'.getD j undef=cs'[j]'(by omega):=by simp[List.getD,List.getElem?_eq_getElem (show j<cs'.length by omega)]
  have hfj:=hf j f hj
  rw[ho,hone1]at hfj
  have hdt:(cs'.drop j).take 1=[cs'[j]'(by omega)]:=by
   rw[List.drop_eq_getElem_cons (by omega)];rfl
  rw[hdt,List.getElem?_eq_getElem (by omega)]at hfj
  refine⟨?_,_,by simp only [hV];exact hfj⟩
  simp only [hV]
  rw[<-hcj,Addr.add_lit,Addr.add_lit,Nat.add_assoc]
theorem bs_data (s:ByteArray):bs s.data.toList=s:=by simp[bs]
theorem xE {t:TypeId}{fuel:Nat}{v:Value}{x:DataW H× List MemPlace}(ht:P.underlying t=some .string) (h:DataW.trod enc P w base spare held fuel t [v]=some x):∃ s:Bs,v=.string (bs s):=by
 obtain⟨s,h1,_⟩:=DataW.trod_string ht h
 simp at h1
 exact⟨s.data.toList,by rw[h1,bs_data]⟩
theorem open_i64 {t:TypeId}{fuel:Nat}{v:Value}{x:DataW H× List MemPlace}(ht:P.underlying t=some (.int .i64)) (h:DataW.trod enc P w base spare held fuel t [v]=some x):∃ n:Int,v=.int .i64 n/\Tp.I64 n:=by
 obtain⟨n,h1,_,h3⟩:=DataW.trod_int ht h
 simp at h1
 refine⟨n,h1,?_⟩
 simp only [Lit.wf,IntKind.min,IntKind.max,IntKind.signed,IntKind.bits,Bool.and_eq_true,decide_eq_true_eq,if_true]at h3
 unfold Tp.I64
 omega
theorem open_nums {t e:TypeId}{fuel:Nat}{v:Value}{x:DataW H× List MemPlace}(ht:P.underlying t=some (.slice e)) (he:P.underlying e=some (.int .i64)) (hc:P.cellsOf e=1) (h:DataW.trod enc P w base spare held fuel t [v]=some x) :
  ∃(xs:List Int) (a:Option Addr) (cap:Nat),v=.slice a xs.length cap/\IntsAt w xs a/\∀ n∈xs,Tp.I64 n:=by
 rcases open_slice ht h with⟨h1,_⟩|⟨a,len,cap,m,n,D,Pl,h1,hb,hlc,hcm,hm,_,hall⟩
 ·simp at h1
  exact⟨[],none,0,h1,⟨fun i hi=>by simp at hi⟩,fun n hn=>by cases hn⟩
 ·simp at h1
  have key:∀ i,i<len->∃ k:Int,(∃ b o,a=⟨b,o,none⟩/\w.cell? ⟨b,o+i,none⟩=some (.int .i64 k))/\Tp.I64 k:=by
   intro i hi
   have him:i<m:=by rw[hm];split <;> omega
   obtain⟨cs',g1,g2⟩:=hall i him
   obtain⟨_,hlen,hcell⟩:=World.cells?_some g1
   rw[hc]at hlen hcell
   have h0:=hcell 0 (by omega)
   obtain⟨v0,hv0⟩:∃ v0,cs'=[v0]:=by
    match cs',hlen with
    | [v0],_=>exact⟨v0,rfl⟩
   subst hv0
   obtain⟨k,hk,hi64⟩:=open_i64 he g2
   subst hk
   have hspot:a.spot=none:=by
    obtain⟨cs0,z1,_⟩:=hall 0 (by omega)
    obtain⟨_,zl,zc⟩:=World.cells?_some z1
    rw[hc]at zl zc
    have z0:=zc 0 (by omega)
    rw[List.getElem?_eq_getElem (by omega)]at z0
    simpa[Addr.add] using World.cell?_spot z0
   obtain⟨b,o,spot⟩:=a
   simp only at hspot
   subst hspot
   refine⟨k,⟨b,o,rfl,?_⟩,hi64⟩
   rw[Addr.add_lit,Addr.add_lit,Nat.mul_one]at h0
   simpa using h0
  obtain⟨l,hl,hp⟩:=ud len key
  refine⟨l,some a,cap,by rw[h1,hl],⟨fun i hi=>?_⟩,fun k hk=>?_⟩
  ·obtain⟨⟨b,o,e1,e2⟩,_⟩:=hp i hi
   exact⟨b,o,by rw[e1],zg e2,e2⟩
  ·obtain⟨i,hi,rfl⟩:=List.getElem_of_mem hk
   exact(hp i hi).2
end
theorem acts_at {H:Type}{enc:TypeId× Value->H}{W:World}{a:Option Addr}{n c:Nat}{d:DataW H}{p:List MemPlace}(h:DataW.Trod enc Tryz.prog W 0 (fun _=>true) true 22 (.slice a n c) d p):∃ l:List Ac,l.length=n/\ActAt W l a:=by
 obtain⟨fuel,hf⟩:=h
 obtain⟨a',len,cap,hcs,hr⟩:=open_rows Tryz.underlying22 Tryz.underlying31 (hone_of (by kernel_rfl)) (by kernel_rfl) (by decide) hf
 simp[Value.cells]at hcs
 obtain⟨rfl,rfl,rfl⟩:=hcs
 obtain⟨l,hl,hp⟩:=ud (P:=fun i (x:Ac)=>∃ b o aa ac,a=some ⟨b,o,none⟩/\(∀ j,j<5->W.cell? ⟨b,o+(i * 5+j),none⟩=(acells x aa ac)[j]?)/\IntsAt W x.args aa/\∀ v∈x.args,Tp.I64 v) n (fun i hi=>by
  obtain⟨b,o,k,V,e,hf⟩:=hr i hi
  obtain⟨c0,y0,t0⟩:=hf 0 _ rfl
  obtain⟨c1,y1,t1⟩:=hf 1 _ rfl
  obtain⟨c2,y2,t2⟩:=hf 2 _ rfl
  obtain⟨c3,y3,t3⟩:=hf 3 _ rfl
  obtain⟨c4,y4,t4⟩:=hf 4 _ rfl
  obtain⟨wh,e0,_⟩:=open_i64 Tryz.underlying3 t0
  obtain⟨tx,e1⟩:=xE Tryz.underlying9 t1
  obtain⟨nm,e2⟩:=xE Tryz.underlying9 t2
  obtain⟨pr,e3⟩:=xE Tryz.underlying9 t3
  obtain⟨xs,aa,ac,e4,hi4,h64⟩:=open_nums Tryz.underlying29 Tryz.underlying2 (by kernel_rfl) t4
  refine⟨⟨wh,tx,nm,pr,xs⟩,b,o,aa,ac,e,fun j hj=>?_,hi4,h64⟩
  match j,hj with
  | 0,_=>exact c0.trans (by rw[e0];rfl)
  | 1,_=>exact c1.trans (by rw[e1];rfl)
  | 2,_=>exact c2.trans (by rw[e2];rfl)
  | 3,_=>exact c3.trans (by rw[e3];rfl)
  | 4,_=>exact c4.trans (by rw[e4];rfl))
 exact⟨l,hl,⟨fun i hi=>hp i hi⟩⟩
end Go.Proofs.YtibncofnnlbmcaaGreatDoor
