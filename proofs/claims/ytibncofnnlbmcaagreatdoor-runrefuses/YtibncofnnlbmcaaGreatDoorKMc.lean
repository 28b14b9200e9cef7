import Derived.Test.YtibncofnnlbmcaaGreatDoorKMb
import Derived.Deep.QuietTactic
import Derived.BigQuiet
set_option maxRecDepth 100000
set_option maxHeartbeats 4000000
namespace Go.Proofs.YtibncofnnlbmcaaGreatDoor
open Go.RowKit Go.Maps
open Tp (Bs Th Sy Seen)
abbrev Near:=List (Bs->Option (Nat× Int))
structure NearM (w:World) (sb:Nat) (fs:Near):Prop where
 lt:sb<w.heap.size
 c:∀ i (h:i<fs.length),∃ gb n,w.cell? ⟨sb,i,none⟩=some (.map (some gb))/\MapV w gb n (fun k=>(fs[i] k).map thV)
theorem NearM.on {w w':World}{sb:Nat}{fs:Near}(h:NearM w sb fs) (k:Below w.heap.size w w'):NearM w' sb fs :=
 ⟨Nat.lt_of_lt_of_le h.lt k.size,fun i hi=>by obtain⟨gb,n,h1,h2⟩:=h.c i hi;exact⟨gb,n,(k.cell (p:=⟨sb,i,none⟩) h.lt).trans h1,h2.on (k.block _ h2.lt)⟩⟩
structure Fnd (w:World) (b:Nat) (S:Seen) (fs:Near):Prop where
 o:∃ ob n,w.cell? ⟨b,0,none⟩=some (.map (some ob))/\SeenM w ob n S
 m:∃ sb c,w.cell? ⟨b+1,0,none⟩=some (.slice (some ⟨sb,0,none⟩) fs.length c)/\NearM w sb fs
 l:b+1<w.heap.size
theorem Fnd.on {w w':World}{b:Nat}{S:Seen}{fs:Near}(h:Fnd w b S fs) (k:Below w.heap.size w w'):Fnd w' b S fs:=by
 obtain⟨ob,n,h1,h2⟩:=h.o
 obtain⟨sb,c,h3,h4⟩:=h.m
 have hl:=h.l
 exact⟨⟨ob,n,(k.cell (p:=⟨b,0,none⟩) (by simp;omega)).trans h1,h2.on k⟩,⟨sb,c,(k.cell (p:=⟨b+1,0,none⟩) hl).trans h3,h4.on k⟩,Nat.lt_of_lt_of_le hl k.size⟩
def finderV (b:Nat):Value:=.func (.func 114) #[] #[.pointer (some ⟨b,0,none⟩),.pointer (some ⟨b+1,0,none⟩)]
theorem neq_bs (a:Bs):(bs a).toList.isEmpty=decide (a=[]):=by rw[zj];cases a <;> simp
theorem near_none {fs:Near}{nm:Bs}(h:∀ j (hj:j<fs.length),fs[j] nm=none):fs.findSome? (fun f=>f nm)=none:=by
 rw[List.findSome?_eq_none_iff]
 intro f hf
 obtain⟨j,hj,e⟩:=List.mem_iff_getElem.1 hf
 rw[<-e]
 exact h j hj
theorem near_some {fs:Near}{nm:Bs}{i:Nat}{x:Nat× Int}(hi:i<fs.length) (h:∀ j (hj:j<fs.length),j<i->fs[j] nm=none) (hx:fs[i] nm=some x):fs.findSome? (fun f=>f nm)=some x:=by
 have e:fs=fs.take i++fs[i] :: fs.drop (i+1):=by rw[<-List.drop_eq_getElem_cons hi,List.take_append_drop]
 rw[e,List.findSome?_append,List.findSome?_cons,hx]
 have:(fs.take i).findSome? (fun f=>f nm)=none:=by
  rw[List.findSome?_eq_none_iff]
  intro f hf
  obtain⟨j,hj,e⟩:=List.mem_iff_getElem.1 hf
  rw[List.length_take]at hj
  rw[List.getElem_take]at e
  rw[<-e]
  exact h j (by omega) (by omega)
 rw[this]
 rfl
theorem vV {w:World}{b:Nat}{S:Seen}{fs:Near}(h:Fnd w b S fs) (hfn:fs.length<=1000) (md nm:Bs) (hl:md.length<=1000000) (hl2:nm.length<=1000000) :
  Calls Tryz.prog 114 #[.string (bs md),.string (bs nm),.pointer (some ⟨b,0,none⟩),.pointer (some ⟨b+1,0,none⟩)] w fun e w'=>e=.returned (lookRes (Tp.standV S fs md nm))/\Below w.heap.size w w':=by
 have hal:∀ ob',Below w.heap.size w (w.alloc ob'):=fun ob'=>zb _ _
 obtain⟨w0,hw0⟩:∃ w0,w0=w.alloc (.cells #[.int .i64 0,.int .i64 0] 196):=⟨_,rfl⟩
 have hb0:Below w.heap.size w w0:=by rw[hw0];exact hal _
 have hk0:w0.heap[w.heap.size]?=some (.cells #[.int .i64 0,.int .i64 0] 196 (0,0)):=by rw[hw0];exact zo _ _
 have hs0:w.heap.size<w0.heap.size:=by rw[hw0];simp
 have h0:=h.on hb0
 have hbl:=h0.l
 have hbl':b<w0.heap.size:=by omega
 have c0:w0.cell? ⟨w.heap.size,0,none⟩=some (.int .i64 0):=(za hk0).trans rfl
 have c1:w0.cell? ⟨w.heap.size,1,none⟩=some (.int .i64 0):=(za hk0).trans rfl
 have z0:w0.frozen? ⟨w.heap.size,0,none⟩=false:=zi hk0
 have z1:w0.frozen? ⟨w.heap.size,1,none⟩=false:=zi hk0
 have HB0:=zh hb0
 have HK0:=zh hk0
 obtain⟨ob,on,ho1,ho2⟩:=h0.o
 obtain⟨sb,sc,hm1,hm2⟩:=h0.m
 have hnb:=neq_bs md
 clear hal h hb0 hk0
 by_cases hmd:md=[]
 ·rw[decide_eq_true hmd]at hnb
  have HRES:Hid (Tp.standV S fs md nm=match fs.findSome? (fun f=>f nm) with|some x=>.ok x|none=>.error 7):=by unfold Hid Tp.standV;rw[if_neg (by simp[hmd])];cases fs.findSome? (fun f=>f nm) <;> rfl
  clear hmd ho1 ho2
  have HNM:=zh hm2
  have hfn':(fs.length:Int)<=1000:=by omega
  obtain⟨fn,hfq⟩:∃ fn,fn=fs.length:=⟨_,rfl⟩
  have HFQ:=zh hfq
  rw[<-hfq]at hm1 hfn'
  clear hm2 hfq
  go_enter Tryz.func114,Tryz.ntmps114
  go_upto_region 1 with fail
  rw[<-hw0]
  clear hw0
  go_wp2_with fail
  go_loopg [22] fn (fun k vi wr=>∃ i:Nat,i<=fn/\k=fn - i/\vi=.int .i64 (i:Int)/\Hid (Below w0.heap.size w0 wr)/\Hid (∀ j (hj:j<fs.length),j<i->fs[j] nm=none))
  case atStart=>exact⟨0,by omega,by omega,rfl,Below.refl _ _,fun j _ hj=>absurd hj (by omega)⟩
  case round =>
   obtain⟨i,hid,hk,rfl,HB,HN⟩:=hrel
   have hsz:=HB.out.size
   have hb1:=HB.out.block _ hs0
   have e3:=hb1.trans HK0.out
   have s0:wr.cell? ⟨w.heap.size,0,none⟩=some (.int .i64 0):=(za e3).trans rfl
   have s1:wr.cell? ⟨w.heap.size,1,none⟩=some (.int .i64 0):=(za e3).trans rfl
   have t0:wr.frozen? ⟨w.heap.size,0,none⟩=false:=zi e3
   have t1:wr.frozen? ⟨w.heap.size,1,none⟩=false:=zi e3
   have hs3:w.heap.size<wr.heap.size:=by omega
   have hne:wr.heap.size≠w.heap.size:=by omega
   have HBW:Hid (Below w.heap.size w wr):=HB0.out.trans (HB.out.mono (by omega))
   clear hb1 e3
   by_cases hlt:i<fn
   ·have hlt':(i:Int)<(fn:Int):=by omega
    have hia:i<fs.length:=by have:=HFQ.out;omega
    obtain⟨gb,gn,hc1,hc2⟩:=HNM.out.c i hia
    have kc:wr.cell? ⟨sb,i,none⟩=some (.map (some gb)):=(HB.out.cell (p:=⟨sb,i,none⟩) HNM.out.lt).trans hc1
    have hlgr:sb<wr.heap.size:=zg kc
    have hlook:=(hc2.on (HB.out.block _ hc2.lt)).look (t:=142) Tryz.underlying142 (zeroTh _) nm hl2 true
    clear hc1 hc2
    cases hfx:fs[i] nm with
    | none =>
     rw[hfx]at hlook
     simp only [Option.map_none,Option.getD_none,Option.isSome_none,if_true]at hlook
     have HN3:Hid (∀ j (hj:j<fs.length),j<i+1->fs[j] nm=none):=fun j hj hji=>by
      rcases Nat.lt_or_ge j i with q|q
      ·exact HN.out j hj q
      ·have:j=i:=by omega
       subst this
       exact hfx
     have HB3:Hid (∀ ob,Below w0.heap.size w0 (wr.alloc ob)):=fun ob=>HB.out.alloc hsz _
     clear hfx
     go_wp2_with fail
     go_roundg (fn - (i+1))
     case measure=>omega
     case rel=>exact⟨i+1,by omega,rfl,by go_num,HB3.out _,HN3⟩
    | some x =>
     obtain⟨x1,x2⟩:=x
     rw[hfx]at hlook
     simp only [Option.map_some,Option.getD_some,Option.isSome_some,if_true,thV]at hlook
     have HFS:=zh (near_some hia HN.out hfx)
     have HR2:Hid (lookRes (Tp.standV S fs md nm)=.tuple #[.agg #[.int .i64 (x1:Int),.int .i64 x2],.int .i64 0]):=by unfold Hid;rw[HRES.out,HFS.out];rfl
     have HB3:Hid (∀ ob,Below w.heap.size w (wr.alloc ob)):=fun ob=>HBW.out.alloc (by omega) _
     clear hfx HRES HFS
     go_wp2_with fail
     exact bodyPost_ret (v:=.tuple #[.agg #[.int .i64 (x1:Int),.int .i64 x2],.int .i64 0]) (by simp[results,Tryz.results114,go_sem,s0,s1,hs3]) rfl ⟨by rw[HR2.out],(zq (zq HBW.out zn 0 _) zn 1 _).alloc (by simp;omega) _⟩
   ·have hlt':¬(i:Int)<(fn:Int):=by omega
    have HFS:Hid (fs.findSome? (fun f=>f nm)=none):=near_none (fun j hj=>HN.out j hj (by have:=HFQ.out;omega))
    have HR2:Hid (lookRes (Tp.standV S fs md nm)=.tuple #[.agg #[.int .i64 0,.int .i64 0],.int .i64 7]):=by unfold Hid;rw[HRES.out,HFS.out];rfl
    clear HRES HFS
    go_wp2_with fail
    exact bodyPost_ret (v:=.tuple #[.agg #[.int .i64 0,.int .i64 0],.int .i64 7]) (by simp[results,Tryz.results114,go_sem,s0,s1]) rfl ⟨by rw[HR2.out],zq (zq HBW.out zn 0 _) zn 1 _⟩
 ·rw[decide_eq_false hmd]at hnb
  have HRES:Hid (Tp.standV S fs md nm=seenRes (S md) nm):=by unfold Hid Tp.standV;rw[if_pos hmd];unfold seenRes;cases S md <;> rfl
  rw[HRES.out]
  clear hmd hm1 hm2 HRES
  have HFS:=zh (xL ho2 md nm hl)
  clear ho2
  obtain⟨r,hr⟩:∃ r,r=seenRes (S md) nm:=⟨_,rfl⟩
  rw[<-hr]at HFS ⊢
  clear hr
  go_enter Tryz.func114,Tryz.ntmps114
  go_upto_region 1 with fail
  rw[<-hw0]
  clear hw0
  go_wp2_with fail
  refine HFS.out.mono ?_
  rintro e w3 ⟨rfl,hb3⟩
  have e3:=(hb3.block _ hs0).trans HK0.out
  have hs3:w.heap.size<w3.heap.size:=Nat.lt_of_lt_of_le hs0 hb3.size
  have s0:w3.cell? ⟨w.heap.size,0,none⟩=some (.int .i64 0):=(za e3).trans rfl
  have s1:w3.cell? ⟨w.heap.size,1,none⟩=some (.int .i64 0):=(za e3).trans rfl
  have t0:w3.frozen? ⟨w.heap.size,0,none⟩=false:=zi e3
  have t1:w3.frozen? ⟨w.heap.size,1,none⟩=false:=zi e3
  have HB3:Hid (Below w.heap.size w w3):=HB0.out.trans (hb3.mono (by omega))
  clear e3 hb3 c0 c1 z0 z1 HFS
  cases r with
  | ok x =>
   obtain⟨x1,x2⟩:=x
   simp only [lookRes]
   go_wp2_with fail
   exact bodyPost_ret (v:=.tuple #[.agg #[.int .i64 (x1:Int),.int .i64 x2],.int .i64 0]) (by simp[results,Tryz.results114,go_sem,s0,s1]) rfl ⟨rfl,zq (zq HB3.out zn 0 _) zn 1 _⟩
  | error er =>
   simp only [lookRes]
   go_wp2_with fail
   exact bodyPost_ret (v:=.tuple #[.agg #[.int .i64 0,.int .i64 0],.int .i64 (er:Int)]) (by simp[results,Tryz.results114,go_sem,s0,s1]) rfl ⟨rfl,zq (zq HB3.out zn 0 _) zn 1 _⟩
theorem xx (w:World) (ov sv:Value) (h1:∃ ob,ov=.map (some ob)) (h2:∃ a n c,sv=.slice a n c) :
  Calls Tryz.prog 82 #[ov,sv] w fun e w'=>e=.returned (finderV w.heap.size)/\w'=(w.alloc (.cells #[ov] 90)).alloc (.cells #[sv] 199):=by
 obtain⟨ob,rfl⟩:=h1
 obtain⟨a,n,c,rfl⟩:=h2
 have hmf:=zm
 go_enter Tryz.func82,Tryz.ntmps82
 go_wp2_with fail
 go_ret
 exact⟨rfl,rfl⟩
def CkP (w:World) (res:Option (Nat× Nat)) (e:Ending) (w':World):Prop:=Below w.heap.size w w'/\match res with
 | none=>e=.returned (.tuple #[])
 | some er=>Thrown w.heap.size er e w'
def RefB (w:World) (b:Nat) (r:Tp.R):Prop:=∃(n:Int) (op:ByteArray) (lv rv:Option Addr) (aa:Option Addr) (ac:Nat),w.heap[b]?=some (.cells #[.int .i64 (r.code:Int),.int .i64 (r.pos:Int),.int .i64 n,.string (bs r.mod),.string (bs r.name),.string op,.pointer lv,.pointer rv,.slice aa r.args ac] 216 (0,0))
def refRes (code pos args:Nat) (a:Nat) (bb:Int) (ee:Nat):Option (Nat× Nat):=if ee≠0 then some (ee,pos) else if Tp.kindOf (a,bb)≠code then some (1,pos) else if code=6/\(args:Int)≠bb then some (2,pos) else none
theorem kM {w:World}{b x code pos args a ee:Nat}{bb n:Int}{md nm:Bs}{op:ByteArray}{lv rv aa:Option Addr}{ac:Nat}(hblk:w.heap[x]?=some (.cells #[.int .i64 (code:Int),.int .i64 (pos:Int),.int .i64 n,.string (bs md),.string (bs nm),.string op,.pointer lv,.pointer rv,.slice aa args ac] 216 (0,0)))
  (hF:∀ W,Below w.heap.size w W->Calls Tryz.prog 114 #[.string (bs md),.string (bs nm),.pointer (some ⟨b,0,none⟩),.pointer (some ⟨b+1,0,none⟩)] W fun e w'=>e=.returned (.tuple #[.agg #[.int .i64 (a:Int),.int .i64 bb],.int .i64 (ee:Int)])/\Below W.heap.size W w') (hc:code<1000) :
  Calls Tryz.prog 146 #[.pointer (some ⟨x,0,none⟩),finderV b] w (CkP w (refRes code pos args a bb ee)):=by
 have hxl:=zf hblk
 have c3:w.cell? ⟨x,3,none⟩=some (.string (bs md)):=(za hblk).trans rfl
 have c4:w.cell? ⟨x,4,none⟩=some (.string (bs nm)):=(za hblk).trans rfl
 have HC:Hid (w.drew.cell? ⟨x,3,none⟩=some (.string (bs md))/\w.drew.cell? ⟨x,4,none⟩=some (.string (bs nm))):=⟨c3,c4⟩
 have HC':Hid (∀ ob,(w.alloc ob).drew.cell? ⟨x,3,none⟩=some (.string (bs md))/\(w.alloc ob).drew.cell? ⟨x,4,none⟩=some (.string (bs nm))):=fun ob=>⟨zD c3 _,zD c4 _⟩
 have HK:=zh hblk
 have HF:=zh hF
 have HCD:=zh (show w.cell? ⟨x,3,none⟩=some (.string (bs md))/\w.cell? ⟨x,4,none⟩=some (.string (bs nm)) from⟨c3,c4⟩)
 clear hblk hF
 unfold finderV
 go_enter Tryz.func146,Tryz.ntmps146
 go_upto_region 0 with fail
 go_cut [4,5] (fun s4 s5 wc=>∃ ib:Nat,s4=.pointer (some ⟨ib,0,none⟩)/\s5=.int .i64 (ee:Int)/\Below w.heap.size w wc/\wc.heap[ib]?=some (.cells #[.int .i64 (a:Int),.int .i64 bb] 196 (0,0))/\w.heap.size<=ib)
 case first =>
  go_region_held3 (fun w'=>w'.cell? ⟨x,3,none⟩=some (.string (bs md))/\w'.cell? ⟨x,4,none⟩=some (.string (bs nm))) (with_reducible (first|exact HC4.out _|exact HC3.out|exact HC.out|exact HC'.out _|exact HCS.out _ _|fail "KEEP")) (first|(go_at_call 114;first|(refine(HF.out w.drew ((Below.refl _ _).drew)).mono ?_;rintro e w2 ⟨rfl,hb2⟩;have HB2:Hid (Below w.heap.size w w2):=((Below.refl _ _).drew).trans hb2;have HC3:Hid (w2.cell? ⟨x,3,none⟩=some (.string (bs md))/\w2.cell? ⟨x,4,none⟩=some (.string (bs nm))):=⟨(HB2.out.cell (p:=⟨x,3,none⟩) hxl).trans HCD.out.1,(HB2.out.cell (p:=⟨x,4,none⟩) hxl).trans HCD.out.2⟩;have HC4:Hid (∀ ob,(w2.alloc ob).cell? ⟨x,3,none⟩=some (.string (bs md))/\(w2.alloc ob).cell? ⟨x,4,none⟩=some (.string (bs nm))):=fun ob=>⟨zD HC3.out.1 _,zD HC3.out.2 _⟩;clear hb2)|(refine(HF.out (w.alloc _).drew ((zb _ _).drew)).mono ?_;rintro e w2 ⟨rfl,hb2⟩;have HB2:Hid (Below w.heap.size w w2):=((zb _ _).drew).trans (hb2.mono (by simp));have HIB:Hid (w2.heap[w.heap.size]?=some (.cells #[.int .i64 0,.int .i64 0] 196 (0,0))):=(hb2.block w.heap.size (by simp)).trans (zo w _);have kb0:w2.cell? ⟨w.heap.size,0,none⟩=some (.int .i64 0):=(za HIB.out).trans rfl;have kb1:w2.cell? ⟨w.heap.size,1,none⟩=some (.int .i64 0):=(za HIB.out).trans rfl;have zb0:w2.frozen? ⟨w.heap.size,0,none⟩=false:=zi HIB.out;have zb1:w2.frozen? ⟨w.heap.size,1,none⟩=false:=zi HIB.out;have HC3:Hid (w2.cell? ⟨x,3,none⟩=some (.string (bs md))/\w2.cell? ⟨x,4,none⟩=some (.string (bs nm))):=⟨(HB2.out.cell (p:=⟨x,3,none⟩) hxl).trans HCD.out.1,(HB2.out.cell (p:=⟨x,4,none⟩) hxl).trans HCD.out.2⟩;have HCS:Hid (∀ u v,((w2.setCell ⟨w.heap.size,0,none⟩ u).setCell ⟨w.heap.size,1,none⟩ v).cell? ⟨x,3,none⟩=some (.string (bs md))/\((w2.setCell ⟨w.heap.size,0,none⟩ u).setCell ⟨w.heap.size,1,none⟩ v).cell? ⟨x,4,none⟩=some (.string (bs nm))):=fun u v=>⟨by rw[World.cell?_setCell_far _ _ _ _ (by simp;omega),World.cell?_setCell_far _ _ _ _ (by simp;omega)];exact HC3.out.1,by rw[World.cell?_setCell_far _ _ _ _ (by simp;omega),World.cell?_setCell_far _ _ _ _ (by simp;omega)];exact HC3.out.2⟩;clear hb2)))
  ·go_wp2_with fail
   go_meet
   case rel=>exact⟨w2.heap.size,rfl,rfl,HB2.out.alloc (by have:=HB2.out.size;omega) _,zo _ _,HB2.out.size⟩
  ·go_wp2_with fail
   go_meet
   case rel=>exact⟨w.heap.size,rfl,rfl,zq (zq HB2.out zn 0 _) zn 1 _,zu 1 _ (zu 0 _ HIB.out),Nat.le_refl _⟩
 case rest =>
  obtain⟨ib,rfl,rfl,hbw,hib,hge⟩:=hcut
  have hsz:=hbw.size
  have e0:=(hbw.block x hxl).trans HK.out
  have k0:wc.cell? ⟨x,0,none⟩=some (.int .i64 (code:Int)):=(za e0).trans rfl
  have k1:wc.cell? ⟨x,1,none⟩=some (.int .i64 (pos:Int)):=(za e0).trans rfl
  have k8:wc.cell? ⟨x,8,none⟩=some (.slice aa args ac):=(za e0).trans rfl
  have i0:wc.cell? ⟨ib,0,none⟩=some (.int .i64 (a:Int)):=(za hib).trans rfl
  have i1:wc.cell? ⟨ib,1,none⟩=some (.int .i64 bb):=(za hib).trans rfl
  have hxl1:x<wc.heap.size:=by omega
  have hil1:ib<wc.heap.size:=zf hib
  have HBW:=zh hbw
  have HIB:=zh hib
  have HE0:=zh e0
  clear hbw hib e0 c3 c4 HC HC' HF HCD HK
  by_cases hee:ee=0
  ·subst hee
   have hc':(code:Int)<1000:=by omega
   have HKI:Hid (wc.drew.cell? ⟨ib,0,none⟩=some (.int .i64 (a:Int))/\wc.drew.cell? ⟨ib,1,none⟩=some (.int .i64 bb)/\wc.drew.cell? ⟨x,0,none⟩=some (.int .i64 (code:Int))):=⟨i0,i1,k0⟩
   have HKI':Hid (∀ W,Below wc.heap.size wc W->W.cell? ⟨ib,0,none⟩=some (.int .i64 (a:Int))/\W.cell? ⟨ib,1,none⟩=some (.int .i64 bb)/\W.cell? ⟨x,0,none⟩=some (.int .i64 (code:Int))):=fun W hW=>⟨(hW.cell (p:=⟨ib,0,none⟩) hil1).trans i0,(hW.cell (p:=⟨ib,1,none⟩) hil1).trans i1,(hW.cell (p:=⟨x,0,none⟩) hxl1).trans k0⟩
   obtain⟨kd,hkd⟩:∃ kd,kd=Tp.kindOf (a,bb):=⟨_,rfl⟩
   have HKA:Hid (Calls Tryz.prog 167 #[.agg #[.int .i64 (a:Int),.int .i64 bb]] wc.drew fun e w'=>e=.returned (.int .i64 (kd:Int))/\Below wc.heap.size wc w'):=by
    rw[hkd]
    exact(kind_any a bb wc.drew).mono fun e w' q=>⟨q.1,((Below.refl _ _).drew).trans q.2⟩
   have hkn:kd<1000:=by rw[hkd];unfold Tp.kindOf;split <;> (try split) <;> omega
   have HRES:Hid (refRes code pos args a bb 0=if kd≠code then some (1,pos) else if code=6/\(args:Int)≠bb then some (2,pos) else none):=by unfold Hid refRes;rw[if_neg (by simp),hkd]
   clear hkd
   go_wp2_with fail
   go_region_held3 (fun w'=>w'.cell? ⟨ib,0,none⟩=some (.int .i64 (a:Int))/\w'.cell? ⟨ib,1,none⟩=some (.int .i64 bb)/\w'.cell? ⟨x,0,none⟩=some (.int .i64 (code:Int))) (with_reducible (first|exact HKI2.out|exact HKI.out|fail "KEEP")) (first|(go_at_call 167;refine HKA.out.mono ?_;rintro e w3 ⟨rfl,hb3⟩;have HB3:=zh hb3;have HKI2:=zh (HKI'.out w3 hb3);clear hb3))
   have hb3:=HB3.out
   have hsz3:=hb3.size
   have k1':w3.cell? ⟨x,1,none⟩=some (.int .i64 (pos:Int)):=(hb3.cell (p:=⟨x,1,none⟩) hxl1).trans k1
   have k8':w3.cell? ⟨x,8,none⟩=some (.slice aa args ac):=(hb3.cell (p:=⟨x,8,none⟩) hxl1).trans k8
   obtain⟨j0,j1,j2⟩:=HKI2.out
   have hxl3:x<w3.heap.size:=by omega
   have hil3:ib<w3.heap.size:=by omega
   have HBW3:Hid (Below w.heap.size w w3):=HBW.out.trans (hb3.mono hsz)
   have hszw:w.heap.size<=w3.heap.size:=by omega
   clear hb3 i0 i1 k0 k1 k8 HKI HKI' HKA HB3 HKI2
   by_cases hkc:kd=code
   ·subst hkc
    by_cases h6:kd=6
    ·subst h6
     by_cases hab:(args:Int)=bb
     ·subst hab
      have HR2:Hid (refRes 6 pos args a (args:Int) 0=none):=by unfold Hid;rw[HRES.out];simp
      clear HRES
      go_wp2_with fail
      go_quiet (fail)
      go_wp2_with fail
      refine bodyPost_end (results_none rfl _ _ _) rfl ⟨below_drewN HBW3.out _,?_⟩
      rw[HR2.out]
     ·have hab':((args:Int) != bb)=true:=by simpa using hab
      have HR2:Hid (refRes 6 pos args a bb 0=some (2,pos)):=by unfold Hid;rw[HRES.out];simp[hab]
      clear HRES hab
      go_wp2_with fail
      go_quiet (fail)
      go_wp2_with fail
      refine(yT 2 pos _).mono ?_
      rintro e w4 ⟨ht,hb4⟩
      have HB4:Hid (Below w.heap.size w w4):=(below_drewN HBW3.out _).trans (hb4.mono hszw)
      have HT4:=zh (ht.mono (B':=w.heap.size) hszw)
      obtain⟨ab,q1,rfl,q2,q3⟩:=ht.out
      clear ht hb4 q1 q2 q3
      go_wp2_with fail
      refine⟨rfl,HB4.out,?_⟩
      rw[HR2.out]
      exact HT4.out
    ·have h6':((kd:Int) == 6)=false:=by simp;omega
     have HR2:Hid (refRes kd pos args a bb 0=none):=by unfold Hid;rw[HRES.out];simp[h6]
     clear HRES h6
     go_wp2_with fail
     go_quiet (fail)
     go_wp2_with fail
     refine bodyPost_end (results_none rfl _ _ _) rfl ⟨below_drewN HBW3.out _,?_⟩
     rw[HR2.out]
   ·have hkc':((kd:Int) != (code:Int))=true:=by simp;omega
    have HR2:Hid (refRes code pos args a bb 0=some (1,pos)):=by unfold Hid;rw[HRES.out,if_pos hkc]
    clear HRES hkc
    go_wp2_with fail
    refine(yT 1 pos _).mono ?_
    rintro e w4 ⟨ht,hb4⟩
    have HB4:Hid (Below w.heap.size w w4):=HBW3.out.trans (hb4.mono hszw)
    have HT4:=zh (ht.mono (B':=w.heap.size) hszw)
    obtain⟨ab,q1,rfl,q2,q3⟩:=ht.out
    clear ht hb4 q1 q2 q3
    go_wp2_with fail
    refine⟨rfl,HB4.out,?_⟩
    rw[HR2.out]
    exact HT4.out
  ·have hee':((ee:Int) != 0)=true:=by simp;omega
   have HR2:Hid (refRes code pos args a bb ee=some (ee,pos)):=by unfold Hid refRes;rw[if_pos hee]
   clear hee
   go_wp2_with fail
   refine(yT ee pos _).mono ?_
   rintro e w4 ⟨ht,hb4⟩
   have HB4:Hid (Below w.heap.size w w4):=HBW.out.trans (hb4.mono hsz)
   have HT4:=zh (ht.mono (B':=w.heap.size) hsz)
   obtain⟨ab,q1,rfl,q2,q3⟩:=ht.out
   clear ht hb4 q1 q2 q3
   go_wp2_with fail
   refine⟨rfl,HB4.out,?_⟩
   rw[HR2.out]
   exact HT4.out
theorem standV_err {S:Seen}{fs:Near}{md nm:Bs}{er:Nat}(h:Tp.standV S fs md nm=.error er):er≠0:=by
 unfold Tp.standV at h
 split at h
 ·split at h
  ·cases h;omega
  ·split at h
   ·cases h
   ·cases h;omega
 ·split at h
  ·cases h
  ·cases h;omega
theorem kN {w:World}{b:Nat}{S:Seen}{fs:Near}(h:Fnd w b S fs) (hfn:fs.length<=1000) {x:Nat}{r:Tp.R}(hx:RefB w x r) (hl:r.mod.length<=1000000) (hl2:r.name.length<=1000000) (hc:r.code<1000) :
  Calls Tryz.prog 146 #[.pointer (some ⟨x,0,none⟩),finderV b] w (CkP w (Tp.judgeP (Tp.standV S fs) r)):=by
 obtain⟨n,op,lv,rv,aa,ac,hblk⟩:=hx
 obtain⟨code,pos,md,nm,args⟩:=r
 simp only at hblk hl hl2 hc
 have hF:=fun W (hW:Below w.heap.size w W)=>vV (h.on hW) hfn md nm hl hl2
 cases hst:Tp.standV S fs md nm with
 | error er =>
  rw[hst]at hF
  have:=kM (a:=0) (bb:=0) (ee:=er) hblk hF hc
  have e1:refRes code pos args 0 0 er=Tp.judgeP (Tp.standV S fs) ⟨code,pos,md,nm,args⟩:=by
   unfold refRes Tp.judgeP
   simp only [hst]
   rw[if_pos (standV_err hst)]
  rw[<-e1]
  exact this
 | ok s =>
  obtain⟨a,bb⟩:=s
  rw[hst]at hF
  have:=kM (a:=a) (bb:=bb) (ee:=0) hblk hF hc
  have e1:refRes code pos args a bb 0=Tp.judgeP (Tp.standV S fs) ⟨code,pos,md,nm,args⟩:=by
   unfold refRes Tp.judgeP
   simp only [hst]
   rw[if_neg (by simp)]
  rw[<-e1]
  exact this
theorem CkP.up {w W w':World}{res:Option (Nat× Nat)}{e:Ending}(h:CkP W res e w') (k:Below w.heap.size w W):CkP w res e w':=by
 obtain⟨h1,h2⟩:=h
 refine⟨k.trans (h1.mono k.size),?_⟩
 cases res with
 | none=>exact h2
 | some er=>exact Thrown.mono h2 k.size
theorem jK {w:World}{b:Nat}{S:Seen}{fs:Near}(h:Fnd w b S fs) (hfn:fs.length<=1000) {code pos:Nat}{nm:Bs}{iv vv ta ea:Option Addr}{tn tc en ec:Nat}(hl:nm.length<=1000000) :
  Calls Tryz.prog 112 #[.agg #[.int .i64 (code:Int),.int .i64 (pos:Int),.string (bs nm),.pointer iv,.pointer vv,.slice ta tn tc,.slice ea en ec],finderV b] w (CkP w (Tp.judgeP (Tp.standV S fs) ⟨if iv=none then 2 else 3,pos,[],nm,0⟩)):=by
 have HC:Hid (∀ W x cd,Below w.heap.size w W->W.heap[x]?=some (.cells #[.int .i64 (cd:Nat),.int .i64 (pos:Int),.int .i64 0,.string ⟨#[]⟩,.string (bs nm),.string ⟨#[]⟩,.pointer none,.pointer none,.slice none 0 0] 216 (0,0))->cd<1000->Calls Tryz.prog 146 #[.pointer (some ⟨x,0,none⟩),finderV b] W (CkP w (Tp.judgeP (Tp.standV S fs) ⟨cd,pos,[],nm,0⟩))):=by
  intro W x cd hW hx hcd
  refine(kN (r:=⟨cd,pos,[],nm,0⟩) (h.on hW) hfn ⟨0,⟨#[]⟩,none,none,none,0,hx⟩ (by simp) hl hcd).mono ?_
  intro e w' hq
  exact hq.up hW
 unfold finderV at HC ⊢
 clear h
 cases iv with
 | none =>
  rw[if_pos rfl]
  have HC2:=zh (fun W x=>HC.out W x 2)
  clear HC
  generalize Tp.judgeP (Tp.standV S fs) ⟨2,pos,[],nm,0⟩=res at HC2 ⊢
  have hbe:∀ o1 o2,Below w.heap.size w ((w.alloc o1).alloc o2):=fun o1 o2=>(zb _ _).alloc (by simp) _
  have HBE:=zh hbe
  clear hbe
  go_enter Tryz.func112,Tryz.ntmps112
  go_wp2_with fail
  refine(HC2.out _ _ (HBE.out _ _) (by simpa using zo (w.alloc _) _) (by omega)).mono ?_
  intro e w' hq
  cases res with
  | none =>
   have HQ:=zh hq
   obtain⟨q1,q2⟩:=hq
   simp only at q2
   subst q2
   clear q1
   go_wp2_with fail
   exact bodyPost_end (results_none rfl _ _ _) rfl HQ.out
  | some er =>
   have HQ:=zh hq
   obtain⟨q1,q2⟩:=hq
   obtain⟨ab,q3,rfl,q4,q5⟩:=q2.out
   clear q1 q2 q3 q4 q5
   go_wp2_with fail
   exact⟨rfl,HQ.out⟩
 | some i0 =>
  rw[if_neg (by simp)]
  have HC2:=zh (fun W x=>HC.out W x 3)
  clear HC
  generalize Tp.judgeP (Tp.standV S fs) ⟨3,pos,[],nm,0⟩=res at HC2 ⊢
  have hbe:∀ o1 o2,Below w.heap.size w ((w.alloc o1).alloc o2):=fun o1 o2=>(zb _ _).alloc (by simp) _
  have HBE:=zh hbe
  clear hbe
  go_enter Tryz.func112,Tryz.ntmps112
  go_wp2_with fail
  refine(HC2.out _ _ (HBE.out _ _) (by simpa using zo (w.alloc _) _) (by omega)).mono ?_
  intro e w' hq
  cases res with
  | none =>
   have HQ:=zh hq
   obtain⟨q1,q2⟩:=hq
   simp only at q2
   subst q2
   clear q1
   go_wp2_with fail
   exact bodyPost_end (results_none rfl _ _ _) rfl HQ.out
  | some er =>
   have HQ:=zh hq
   obtain⟨q1,q2⟩:=hq
   obtain⟨ab,q3,rfl,q4,q5⟩:=q2.out
   clear q1 q2 q3 q4 q5
   go_wp2_with fail
   exact⟨rfl,HQ.out⟩
end Go.Proofs.YtibncofnnlbmcaaGreatDoor
