import Derived.Test.YthnoedjbhbkdeaaGreatDoorKWi
import Derived.Test.YthnoedjbhbkdeaaGreatDoorKSha
import Derived.Lib.AppendStr
import Derived.Lib.OthersKept
import Derived.Shelf.Strconv.AppendIntPublic10
import Derived.CellFam
import Derived.Lib.Hide
set_option maxRecDepth 100000
set_option maxHeartbeats 4000000
namespace Go.Proofs.YthnoedjbhbkdeaaGreatDoor
open Go.RowKit
open Tp (Tok hd tx at' stp X S G Pr)
theorem toks_of {w:World}{base tb n cap:Nat}{ts:List Tok}(h:w.ownsRow base 144 3 (.slice (some ⟨tb,0,none⟩) n cap) ts.length (tksC ts)):n=ts.length/\base<=tb/\tb<w.heap.size/\∀ i t,ts[i]?=some t->TokAt w tb i t:=by
 rcases h.2 with⟨q,_⟩|⟨g,c,cur,q0,q1,q2,q3,q4,q5,q6⟩
 ·cases q
 ·cases q0
  refine⟨rfl,q1,zc q2,fun i t hi=>?_⟩
  have hil:i<ts.length:=by rw[List.getElem?_eq_some_iff]at hi;exact hi.1
  have hcell:∀ j,j<3->w.cell? ⟨tb,i * 3+j,none⟩=(tksC ts)[i * 3+j]?:=by
   intro j hj
   rw[za q2,<-Array.getElem?_toList,<-q6,List.getElem?_take_of_lt (by omega)]
  have hget:∀(l:List Tok) (i j:Nat) (t:Tok),l[i]?=some t->j<3->(tksC l)[i * 3+j]?=(tcells t)[j]?:=by
   intro l
   induction l with
   | nil=>intro i j t h;cases h
   | cons u l ih =>
    intro i j t h hj
    have e:tksC (u :: l)=tcells u++tksC l:=by simp[tksC]
    have hl:(tcells u).length=3:=by simp[tcells]
    rw[e]
    cases i with
    | zero=>simp at h;subst h;rw[List.getElem?_append_left (by omega)];simp
    | succ i =>
     rw[List.getElem?_append_right (by omega),hl,show (i+1) * 3+j - 3=i * 3+j by omega]
     exact ih i j t (by simpa using h) hj
  refine⟨?_,?_,?_⟩
  ·have:=hcell 0 (by omega);rw[hget ts i 0 t hi (by omega)]at this;simpa[tcells] using this
  ·have:=hcell 1 (by omega);rw[hget ts i 1 t hi (by omega)]at this;simpa[tcells] using this
  ·have:=hcell 2 (by omega);rw[hget ts i 2 t hi (by omega)]at this;simpa[tcells] using this
theorem Ext.toBelow {b B:Nat}{w w':World}(h:Ext b w w') (hb:B<=b) (hB:B<=w.heap.size):Below B w w':=⟨h.os,h.tape,h.output,h.size,fun k hk=>h.block k (by omega) (by omega)⟩
theorem VM.mono {w w':World}{B B':Nat}{m:Tp.M}{v:Value}(h:VM B m v w) (hB:B'<=B) (hk:∀ b,B<=b->b<w.heap.size->w'.heap[b]?=w.heap[b]?):VM B' m v w':=by
 obtain⟨ia,ga,pa,ba,ic,gc,pc,bc,pcs,bcs,h0,h1,h2,h3,h4,h5,h6⟩:=h
 have hD:∀ b,B<=b->b<w.heap.size->w'.heap[b]?=w.heap[b]?/\B'<=b:=fun b hb hl=>⟨hk b hb hl,by omega⟩
 exact⟨ia,ga,pa,ba,ic,gc,pc,bc,pcs,bcs,h0,h1.mono hD,h2.mono hD,RepP.mono hD _ _ h3,h4.mono hD,h5.mono' hD,h6.mono hD⟩
def ParseP (w:World) (l:List UInt8) (e:Ending) (w':World):Prop :=
 match Tp.parse l with
 | .ok m=>∃ v,e=.returned (.tuple #[v,.nilIface])/\VM w.heap.size m v w'
 | .error er=>∃ ab,e=.returned (.tuple #[.agg m0,.iface 137 (.pointer (some ⟨ab,0,none⟩))])/\w.heap.size<=ab/\w'.cell? ⟨ab,0,none⟩=some (.int .i64 (er.1:Int))/\w'.cell? ⟨ab,1,none⟩=some (.int .i64 (er.2:Int))
theorem cells5 {w:World}{b:Nat}{v0 v1 v2 v3 v4:Value}{t:Nat}(h:w.heap[b]?=some (.cells #[v0,v1,v2,v3,v4] t (0,0))):∀ i,i<5->(w.cell? ⟨b,i,none⟩).isSome=true:=by
 intro i hi
 rw[za h]
 match i,hi with
 | 0,_=>rfl
 | 1,_=>rfl
 | 2,_=>rfl
 | 3,_=>rfl
 | 4,_=>rfl
def late (w:World) (mb eb ab:Nat):World:=(((((w.setCell ⟨mb,0,none⟩ (.string ⟨#[]⟩)).setCell ⟨mb,1,none⟩ (.slice none 0 0)).setCell ⟨mb,2,none⟩ (.slice none 0 0)).setCell ⟨mb,3,none⟩ (.slice none 0 0)).setCell ⟨mb,4,none⟩ (.slice none 0 0)).setCell ⟨eb,0,none⟩ (.iface 137 (.pointer (some ⟨ab,0,none⟩)))
theorem late_below (w:World) (mb ab:Nat):Below mb w (late w mb (mb+1) ab):=zq (kD w mb _ _ _ _ _) (by simp) 0 _
theorem vB {w:World}{mb ab b j:Nat}(hb:mb+1<b):(late w mb (mb+1) ab).cell? ⟨b,j,none⟩=w.cell? ⟨b,j,none⟩:=by
 refine World.cell?_of_block (w:=w) ?_
 unfold late
 rw[Below.heap_setCell _ _ _ _ (by simp;omega),Below.heap_setCell _ _ _ _ (by simp;omega),Below.heap_setCell _ _ _ _ (by simp;omega),Below.heap_setCell _ _ _ _ (by simp;omega),Below.heap_setCell _ _ _ _ (by simp;omega),Below.heap_setCell _ _ _ _ (by simp;omega)]
theorem late_blk {w:World}{mb ab:Nat}(h1:w.heap[mb]?=some (.cells m0 27 (0,0))) (h2:w.heap[mb+1]?=some (.cells #[.nilIface] 34 (0,0))):(∀ i,(late w mb (mb+1) ab).cell? ⟨mb,i,none⟩=m0[i]?)/\(late w mb (mb+1) ab).cell? ⟨mb+1,0,none⟩=some (.iface 137 (.pointer (some ⟨ab,0,none⟩))):=by
 have a1:=zw 4 (.slice none 0 0) (zw 3 (.slice none 0 0) (zw 2 (.slice none 0 0) (zw 1 (.slice none 0 0) (zw 0 (.string ⟨#[]⟩) h1))))
 have a2:=(Below.heap_setCell (((((w.setCell ⟨mb,0,none⟩ (.string ⟨#[]⟩)).setCell ⟨mb,1,none⟩ (.slice none 0 0)).setCell ⟨mb,2,none⟩ (.slice none 0 0)).setCell ⟨mb,3,none⟩ (.slice none 0 0)).setCell ⟨mb,4,none⟩ (.slice none 0 0)) ⟨mb+1,0,none⟩ (.iface 137 (.pointer (some ⟨ab,0,none⟩))) mb (by simp)).trans a1
 refine⟨fun i=>(za a2).trans rfl,?_⟩
 unfold late
 have b1:(((((w.setCell ⟨mb,0,none⟩ (.string ⟨#[]⟩)).setCell ⟨mb,1,none⟩ (.slice none 0 0)).setCell ⟨mb,2,none⟩ (.slice none 0 0)).setCell ⟨mb,3,none⟩ (.slice none 0 0)).setCell ⟨mb,4,none⟩ (.slice none 0 0)).heap[mb+1]?=some (.cells #[.nilIface] 34 (0,0)):=by
  rw[Below.heap_setCell _ _ _ _ (by simp),Below.heap_setCell _ _ _ _ (by simp),Below.heap_setCell _ _ _ _ (by simp),Below.heap_setCell _ _ _ _ (by simp),Below.heap_setCell _ _ _ _ (by simp)]
  exact h2
 exact(za (zw 0 (.iface 137 (.pointer (some ⟨ab,0,none⟩))) b1)).trans rfl
theorem parse_post (w:World) (l:List UInt8) (hl:l.length<=100000) (hmk:Mk w) (hlv:Lv w) :
  Calls Tryz.prog 7 #[.string (bs l)] w fun e w'=>Below w.heap.size w w'/\ParseP w l e w':=by
 have hmf:=zm
 obtain⟨mb,hmb⟩:∃ mb,mb=w.heap.size:=⟨_,rfl⟩
 have hm1:=hmk.1
 have hl1:=hlv.1
 go_enter_defers Tryz.func7,Tryz.ntmps7
 go_wp2_with fail
 have hb0:Below w.heap.size w ((w.alloc (.cells #[.string ⟨#[]⟩,.slice none 0 0,.slice none 0 0,.slice none 0 0,.slice none 0 0] 27)).alloc (.cells #[.nilIface] 34)):=(zb _ _).alloc (by simp) _
 have hsz0:((w.alloc (.cells #[.string ⟨#[]⟩,.slice none 0 0,.slice none 0 0,.slice none 0 0,.slice none 0 0] 27)).alloc (.cells #[.nilIface] 34)).heap.size=w.heap.size+2:=by simp
 have hbm:((w.alloc (.cells #[.string ⟨#[]⟩,.slice none 0 0,.slice none 0 0,.slice none 0 0,.slice none 0 0] 27)).alloc (.cells #[.nilIface] 34)).heap[w.heap.size]?=some (.cells #[.string ⟨#[]⟩,.slice none 0 0,.slice none 0 0,.slice none 0 0,.slice none 0 0] 27 (0,0)):=(Below.heap_alloc _ _ _ (by simp)).trans (zu _ _)
 have hbe:((w.alloc (.cells #[.string ⟨#[]⟩,.slice none 0 0,.slice none 0 0,.slice none 0 0,.slice none 0 0] 27)).alloc (.cells #[.nilIface] 34)).heap[w.heap.size+1]?=some (.cells #[.nilIface] 34 (0,0)):=by
  have:=zu (w.alloc (.cells #[.string ⟨#[]⟩,.slice none 0 0,.slice none 0 0,.slice none 0 0,.slice none 0 0] 27)) (.cells #[.nilIface] 34)
  simpa using this
 generalize ((w.alloc (.cells #[.string ⟨#[]⟩,.slice none 0 0,.slice none 0 0,.slice none 0 0,.slice none 0 0] 27)).alloc (.cells #[.nilIface] 34))=w1 at hb0 hsz0 hbm hbe ⊢
 have hmk1:=hmk.below hb0 hm1
 have hlv1:=hlv.below hb0 hl1
 have hm2:1<mb:=by omega
 have hl2:5<mb:=by omega
 have hsz1:mb+2<=w1.heap.size:=by omega
 have HB0:Hid (Below mb w w1):=by rw[hmb];exact hb0
 have HMB:Hid (w.heap.size=mb):=hmb.symm
 rw[<-hmb]at hbm hbe ⊢
 clear hb0 hsz0 hm1 hl1 hmk hlv hmb
 have HOUT:Hid (∀(wX:World) (er:Tp.Er) (ab:Nat),Below (mb+2) w1 wX->mb+2<=ab->wX.cell? ⟨ab,0,none⟩=some (.int .i64 (er.1:Int))->wX.cell? ⟨ab,1,none⟩=some (.int .i64 (er.2:Int))->Tp.parse l=.error er ->
   Below w.heap.size w (late wX mb (mb+1) ab)/\ParseP w l (.returned (.tuple #[.agg m0,.iface 137 (.pointer (some ⟨ab,0,none⟩))])) (late wX mb (mb+1) ab)):=by
  intro wX er ab h1 h2 h3 h4 h5
  rw[HMB.out]
  refine⟨(HB0.out.trans (h1.mono (by omega))).trans (late_below wX mb ab),?_⟩
  unfold ParseP
  rw[h5,HMB.out]
  exact⟨ab,rfl,by omega,(vB (by omega)).trans h3,(vB (by omega)).trans h4⟩
 have HBM:Hid (∀ wX,Below (mb+2) w1 wX->(∀ i,i<5->(wX.cell? ⟨mb,i,none⟩).isSome=true)/\(∀ i,wX.frozen? ⟨mb,i,none⟩=false)/\(wX.cell? ⟨mb+1,0,none⟩).isSome=true/\wX.frozen? ⟨mb+1,0,none⟩=false):=by
  intro wX hb
  have e1:=(hb.block mb (by omega)).trans hbm
  have e2:=(hb.block (mb+1) (by omega)).trans hbe
  exact⟨cells5 e1,fun i=>zg e1,by rw[za e2];rfl,zg e2⟩
 have HLB:Hid (∀ wX ab,Below (mb+2) w1 wX->(∀ i,(late wX mb (mb+1) ab).cell? ⟨mb,i,none⟩=m0[i]?)/\(late wX mb (mb+1) ab).cell? ⟨mb+1,0,none⟩=some (.iface 137 (.pointer (some ⟨ab,0,none⟩)))):=by
  intro wX ab hb
  exact late_blk ((hb.block mb (by omega)).trans hbm) ((hb.block (mb+1) (by omega)).trans hbe)
 refine(scan_post w1 l hl hmk1).mono ?_
 rintro e w3 ⟨hb3,hq⟩
 unfold ScanP at hq
 generalize hsc:SC 0 0 l=res at hq
 have hsz3:=hb3.size
 rcases res with er|tks
 ·obtain⟨ab,q1,rfl,q2,q3⟩:=hq.out
  have HP:Hid (Tp.parse l=.error er):=by show _=_;unfold Tp.parse;rw[show Tp.scan (l.length+1) 0 0 l=.error er from hsc];rfl
  clear hsc
  go_wp2_with fail
  obtain⟨c0,z0,ce,ze⟩:=HBM.out w3 (hb3.mono hsz1)
  refine leaves_cons (f:=40) (args:=#[.pointer (some ⟨mb,0,none⟩),.pointer (some ⟨mb+1,0,none⟩)]) (by simp) (by simp[go_sem]) ?_
  refine(kH mb (mb+1) ab [] w3 c0 z0 ce ze (by omega)).mono ?_
  rintro e u' w'' ⟨rfl,rfl,hw⟩
  have hout:=HOUT.out w3 er ab (hb3.mono hsz1) (by omega) q2 q3 HP.out
  obtain⟨k1,k2⟩:=HLB.out w3 ab (hb3.mono hsz1)
  have hw':w''=late w3 mb (mb+1) ab:=hw
  rw[<-hw']at hout k1 k2
  simp only [m0]at k1 hout
  clear hw hw'
  simp[Leaves,settle,results,Tryz.results7,go_sem,k1,k2]
  exact hout
 ·obtain⟨v,rfl,hown⟩:=hq
  have HSC:Hid (Tp.scan (l.length+1) 0 0 l=.ok tks):=hsc
  clear hsc
  obtain⟨tk1,tk2,tk3,tt,tz,tk4,tk5⟩:=Tp.scan_tks _ _ _ _ _ HSC.out
  have hlen:=tk3 (by omega)
  have hne:tks≠[]:=by rw[tk4];simp
  have HLAST:Hid (∀ t,tks.getLast?=some t->t.kind=0):=by intro t ht;rw[tk4,List.getLast?_concat]at ht;cases ht;exact tk5
  clear tk4 tk5
  obtain⟨ta,tc,rfl⟩:=zt hown
  obtain⟨tb,rfl⟩:∃ tb,ta=some ⟨tb,0,none⟩:=by
   rcases hown.2 with⟨q,q'⟩|⟨g,c,cur,q0,_⟩
   ·exact absurd (List.eq_nil_of_length_eq_zero q') hne
   ·cases q0;exact⟨g,rfl⟩
  obtain⟨_,t1,t2,t3⟩:=toks_of hown
  go_wp2_with fail
  refine(xG w3).mono ?_
  rintro e w4 ⟨rfl,hw4⟩
  have hb4:Below w3.heap.size w3 w4:=by rw[hw4];exact zb _ _
  have hk4:w4.heap[w3.heap.size]?=some (.map (ents 21) 21):=by rw[hw4];exact zu _ _
  have hs4:w3.heap.size<w4.heap.size:=by rw[hw4];simp
  clear hw4
  go_wp2_with fail
  have hal:Below w4.heap.size w4 (w4.alloc (.cells #[.slice (some ⟨tb,0,none⟩) tks.length tc,.int .i64 0,.map (some w3.heap.size),.int .i64 0,.int .i64 0] 83)):=zb _ _
  have hpb:(w4.alloc (.cells #[.slice (some ⟨tb,0,none⟩) tks.length tc,.int .i64 0,.map (some w3.heap.size),.int .i64 0,.int .i64 0] 83)).heap[w4.heap.size]?=some (.cells #[.slice (some ⟨tb,0,none⟩) tks.length tc,.int .i64 0,.map (some w3.heap.size),.int .i64 0,.int .i64 0] 83 (0,0)):=zu _ _
  have hs5:w4.heap.size<(w4.alloc (.cells #[.slice (some ⟨tb,0,none⟩) tks.length tc,.int .i64 0,.map (some w3.heap.size),.int .i64 0,.int .i64 0] 83)).heap.size:=by simp
  generalize w4.alloc (.cells #[.slice (some ⟨tb,0,none⟩) tks.length tc,.int .i64 0,.map (some w3.heap.size),.int .i64 0,.int .i64 0] 83)=w5 at hal hpb hs5 ⊢
  have hb35:Below w3.heap.size w3 w5:=hb4.trans (hal.mono hb4.size)
  have hb15:Below w1.heap.size w1 w5:=hb3.trans (hb35.mono hsz3)
  have hst:St w5 ⟨w4.heap.size,tb,w3.heap.size,tc⟩ tks tks 0 0:=by
   refine⟨(za hpb).trans rfl,(za hpb).trans (by simp),(za hpb).trans rfl,(za hpb).trans rfl,(za hpb).trans rfl,fun j=>zg hpb,(hal.block _ hs4).trans hk4,fun i t hi=>?_,by simp,hne,by omega,HLAST.out,⟨by show tb<w4.heap.size;omega,hs4⟩,fun t ht hk c hc=>((tk1 t ht).k2 hk).2 c hc,fun t ht=>?_,hlv1.below hb15 (by omega),by show 5<w4.heap.size;omega⟩
   ·have:=t3 i t hi
    exact⟨(hb35.cell (p:=⟨tb,_,none⟩) t2).trans this.c0,(hb35.cell (p:=⟨tb,_,none⟩) t2).trans this.c1,(hb35.cell (p:=⟨tb,_,none⟩) t2).trans this.c2⟩
   ·have:=Tp.scan_tl _ _ _ _ _ HSC.out t ht
    omega
  have hno:Tp.module (20 * tks.length+20) tks≠.error (99,0):=Tp.module_ne tk1.gd (by omega)
  have hcall:=uw (f:=20 * tks.length+20) (by omega) hst hno
  generalize hres:Tp.module (20 * tks.length+20) tks=res at hcall
  have HP:Hid (Tp.parse l=res):=by
   show _=_
   unfold Tp.parse
   rw[HSC.out]
   exact hres
  clear hres hno
  refine hcall.mono ?_
  intro e w6 hq
  have hm5:mb+2<=w5.heap.size:=by omega
  have hm4:mb+2<=w4.heap.size:=by omega
  rcases res with er|m
  ·obtain⟨ht,hx⟩:=hq
   obtain⟨ab,q1,rfl,q2,q3⟩:=ht.out
   have hb6:Below (mb+2) w1 w6:=(hb15.mono hsz1).trans (hx.toBelow hm4 hm5)
   go_wp2_with fail
   obtain⟨c0,z0,ce,ze⟩:=HBM.out w6 hb6
   refine leaves_cons (f:=40) (args:=#[.pointer (some ⟨mb,0,none⟩),.pointer (some ⟨mb+1,0,none⟩)]) (by simp) (by simp[go_sem]) ?_
   refine(kH mb (mb+1) ab [] w6 c0 z0 ce ze (by omega)).mono ?_
   rintro e u' w'' ⟨rfl,rfl,hw⟩
   have hout:=HOUT.out w6 er ab hb6 (by omega) q2 q3 HP.out
   obtain⟨k1,k2⟩:=HLB.out w6 ab hb6
   have hw':w''=late w6 mb (mb+1) ab:=hw
   rw[<-hw']at hout k1 k2
   simp only [m0]at k1 hout
   clear hw hw'
   simp[Leaves,settle,results,Tryz.results7,go_sem,k1,k2]
   exact hout
  ·obtain⟨v,rfl,hv,hx⟩:=hq
   have hb6:Below (mb+2) w1 w6:=(hb15.mono hsz1).trans (hx.toBelow hm4 hm5)
   have e1:=(hb6.block mb (by omega)).trans hbm
   have e2:=(hb6.block (mb+1) (by omega)).trans hbe
   obtain⟨ia,ga,pa,ba,ic,gc,pc,bc,pcs,bcs,hvv,hvr⟩:=hv
   have HVR:Hid (VM w5.heap.size m (.agg (mcells (bs m.name) (.slice ia m.imports.length ic) (.slice ga m.vars.length gc) (.slice pa m.procs.length pc) (.slice ba m.body.length bc))) w6):=⟨ia,ga,pa,ba,ic,gc,pc,bc,pcs,bcs,rfl,hvr⟩
   subst hvv
   clear hvr
   simp only [mcells]
   have y:∀ i,w6.cell? ⟨mb,i,none⟩=m0[i]?:=fun i=>za e1
   have z:∀ i,w6.frozen? ⟨mb,i,none⟩=false:=fun i=>zg e1
   have ye:w6.cell? ⟨mb+1,0,none⟩=some .nilIface:=(za e2).trans rfl
   have ze:w6.frozen? ⟨mb+1,0,none⟩=false:=zg e2
   simp only [m0]at y
   go_wp2_with fail
   obtain⟨wd,hwd⟩:∃ wd,wd=(((((w6.setCell ⟨mb,0,none⟩ (.string (bs m.name))).setCell ⟨mb,1,none⟩ (.slice ia m.imports.length ic)).setCell ⟨mb,2,none⟩ (.slice ga m.vars.length gc)).setCell ⟨mb,3,none⟩ (.slice pa m.procs.length pc)).setCell ⟨mb,4,none⟩ (.slice ba m.body.length bc)).setCell ⟨mb+1,0,none⟩ .nilIface:=⟨_,rfl⟩
   have a1:=zw 4 (.slice ba m.body.length bc) (zw 3 (.slice pa m.procs.length pc) (zw 2 (.slice ga m.vars.length gc) (zw 1 (.slice ia m.imports.length ic) (zw 0 (.string (bs m.name)) e1))))
   have hx:∀ b,b≠mb->b≠mb+1->wd.heap[b]?=w6.heap[b]?:=by
    intro b h1 h2
    rw[hwd,Below.heap_setCell _ _ _ _ (by simpa using h2),Below.heap_setCell _ _ _ _ (by simpa using h1),Below.heap_setCell _ _ _ _ (by simpa using h1),Below.heap_setCell _ _ _ _ (by simpa using h1),Below.heap_setCell _ _ _ _ (by simpa using h1),Below.heap_setCell _ _ _ _ (by simpa using h1)]
   have hk1:wd.heap[mb]?=some (.cells (mcells (bs m.name) (.slice ia m.imports.length ic) (.slice ga m.vars.length gc) (.slice pa m.procs.length pc) (.slice ba m.body.length bc)) 27 (0,0)):=by
    rw[hwd,Below.heap_setCell _ _ _ _ (by simp)];exact a1
   have hk2:wd.cell? ⟨mb+1,0,none⟩=some .nilIface:=by
    rw[hwd]
    have b1:(((((w6.setCell ⟨mb,0,none⟩ (.string (bs m.name))).setCell ⟨mb,1,none⟩ (.slice ia m.imports.length ic)).setCell ⟨mb,2,none⟩ (.slice ga m.vars.length gc)).setCell ⟨mb,3,none⟩ (.slice pa m.procs.length pc)).setCell ⟨mb,4,none⟩ (.slice ba m.body.length bc)).heap[mb+1]?=some (.cells #[.nilIface] 34 (0,0)):=by
     rw[Below.heap_setCell _ _ _ _ (by simp),Below.heap_setCell _ _ _ _ (by simp),Below.heap_setCell _ _ _ _ (by simp),Below.heap_setCell _ _ _ _ (by simp),Below.heap_setCell _ _ _ _ (by simp)]
     exact e2
    exact(za (zw 0 .nilIface b1)).trans rfl
   have hbd:Below mb w6 wd:=by rw[hwd];exact zq (kD w6 mb _ _ _ _ _) (by simp) 0 _
   have k1:∀ i,wd.cell? ⟨mb,i,none⟩=(mcells (bs m.name) (.slice ia m.imports.length ic) (.slice ga m.vars.length gc) (.slice pa m.procs.length pc) (.slice ba m.body.length bc))[i]?:=fun i=>za hk1
   rw[<-hwd]
   have hfin:Below w.heap.size w wd/\ParseP w l (.returned (.tuple #[.agg (mcells (bs m.name) (.slice ia m.imports.length ic) (.slice ga m.vars.length gc) (.slice pa m.procs.length pc) (.slice ba m.body.length bc)),.nilIface])) wd:=by
    rw[HMB.out]
    refine⟨(HB0.out.trans (hb6.mono (by omega))).trans hbd,?_⟩
    unfold ParseP
    rw[HP.out,HMB.out]
    exact⟨_,rfl,HVR.out.mono (by omega) (fun b h1 h2=>hx b (by omega) (by omega))⟩
   clear hwd a1 hx hk1 hbd
   simp only [mcells]at k1 hfin
   refine leaves_cons (f:=40) (args:=#[.pointer (some ⟨mb,0,none⟩),.pointer (some ⟨mb+1,0,none⟩)]) (by simp) (by simp[go_sem]) ?_
   refine(late_idle ⟨mb,0,none⟩ ⟨mb+1,0,none⟩ wd).mono ?_
   rintro e u' w'' ⟨rfl,rfl,rfl⟩
   simp[Leaves,settle,results,Tryz.results7,go_sem,k1,hk2]
   exact hfin
end Go.Proofs.YthnoedjbhbkdeaaGreatDoor
namespace Go.Proofs.YthnoedjbhbkdeaaGreatDoor
open Go.RowKit
structure Exact (v v':Value) (w w':World):Prop where
 size:w.heap.size<=w'.heap.size
 block:∀ k,k<w.heap.size->v.ownBlock≠some k->w'.heap[k]?=w.heap[k]?
 lies:∀ g,v'.ownBlock=some g->v.ownBlock=some g\/w.heap.size<=g
theorem Exact.of {v v':Value}{w w':World}(h:w.grownBy w' v.ownBlock) (hw:∀ g,v'.ownBlock=some g->v.ownBlock=some g\/w.heap.size<=g):Exact v v' w w' :=
 ⟨h.size,fun k hk hn=>h.block k hk (fun e=>hn e.symm),hw⟩
theorem Exact.ahead {v v':Value}{w w1 w':World}(h:Below w.heap.size w w1) (k:Exact v v' w1 w'):Exact v v' w w' :=
 ⟨Nat.le_trans h.size k.size,fun i hi hn=>(k.block i (Nat.lt_of_lt_of_le hi h.size) hn).trans (h.block i hi),fun g hg=>(k.lies g hg).imp id (Nat.le_trans h.size)⟩
theorem yR {P:Program}(w:World) (base:Nat) (t u ty e:TypeId) (i:TypeInfo) (ht:P.underlying t=some (.slice e)) (hu:P.underlying u=some .string) (hi:P.info? e=some i) (hz:i.zero=some (.int .u8 0))
  (hsize:i.size=1) (hby:i.bytes=1) (v:Value) (n:Nat) (xs:List Value) (hown:w.ownsRow base e 1 v n xs) (s:ByteArray)
  (h63:n+s.size<=maxLen) (hbytes:n+s.size<=140737488355328) (hbase:base<=w.heap.size) :
  ∃ v' w',(Builtin.append_ #[t,u] ty #[v,.string s]).run P w=.ok v' w'/\w'.ownsRow base e 1 v' (n+s.size) (xs++Lib.strCells s)/\w.grownBy w' v.ownBlock/\Exact v v' w w':=by
 obtain⟨v',w',r1,r2,r3,_⟩:=Lib.run_append_own_string (P:=P) w base t u ty e i ht hu hi hz hsize hby v n xs hown s h63 hbytes hbase
 refine⟨v',w',r1,r2,r3,Exact.of r3 ?_⟩
 rcases hown.2 with⟨rfl,rfl⟩|⟨g,cap,cur,rfl,q1,q2,q3,q4,q5,q6⟩
 ·have hx:xs=[]:=List.eq_nil_of_length_eq_zero (by simpa using hown.1)
  subst hx
  obtain⟨v2,w2,s1,s2,_⟩:=Lib.run_append_own_string (P:=P) w w.heap.size t u ty e i ht hu hi hz hsize hby (.slice none 0 0) 0 [] (World.ownsRow_nil _ _ _ _) s h63 hbytes zn
  rw[r1]at s1
  cases s1
  intro g hg
  exact Or.inr (zG s2 g hg)
 ·by_cases hroom:n+s.size<=cap
  ·have s1:=Lib.run_append_room_string (P:=P) w t u ty e i ht hu hi hsize g n cap cur q2 s hroom (by omega)
   rw[r1]at s1
   cases s1
   intro g' hg
   exact Or.inl hg
  ·have s1:=Lib.run_append_grow_string (P:=P) w t u ty e i (.int .u8 0) ht hu hi hz ⟨g,0,none⟩ n cap xs (by rw[hsize];exact hown.1) (hown.cells (g:=g) rfl) s (by omega) (by unfold maxLen at h63;omega) (by rw[hby];exact growslice_fits (by omega) (by omega))
   rw[r1]at s1
   cases s1
   intro g' hg
   simp[Value.ownBlock]at hg
   exact Or.inr (by omega)
theorem zP {P:Program}(w:World) {ops:Array Oper}{rest:List Oper}{o:Oper}{a:Act}{Q:Exit->Act->World->Prop}(hgd:o.guard=none) (sl x:Operand) (t u:TypeId)
  (ho:o.op=.call { callee:=.builtin .append,args:=#[sl,x],argTypes:=#[t,u] })
  (base:Nat) (e:TypeId) (i:TypeInfo) (ht:P.underlying t=some (.slice e)) (hu:P.underlying u=some .string) (hi:P.info? e=some i) (hz:i.zero=some (.int .u8 0))
  (hsize:i.size=1) (hby:i.bytes=1)
  (v:Value) (n:Nat) (xs:List Value) (hs:a.eval sl=v) (hown:w.ownsRow base e 1 v n xs) (s:ByteArray) (hx:a.eval x=.string s)
  (h63:n+s.size<=maxLen) (hbytes:n+s.size<=140737488355328) (hbase:base<=w.heap.size)
  (h:∀ v' w',w'.ownsRow base e 1 v' (n+s.size) (xs++Lib.strCells s)->w.grownBy w' v.ownBlock->Exact v v' w w'->wpList P ops Q rest (a.put o.dst v') w'):wpList P ops Q (o :: rest) a w:=by
 refine wpList_plain hgd fun K hK=>?_
 obtain⟨v',w',r1,r2,r3,r4⟩:=yR (P:=P) w base t u o.type e i ht hu hi hz hsize hby v n xs hown s h63 hbytes hbase
 unfold Oper.wp
 simp[execOp,ho,resolve,invoke,builtin,hs,hx,r1,Result.andThen]
 exact hK _ _ (h v' w' r2 r3 r4)
theorem Tryz.infoU8:(Tryz.prog.info? 5).map (fun i=>(i.zero,i.size,i.bytes))=some (some (.int .u8 0),1,1):=by kernel_rfl
def u8s (l:List UInt8):List Value:=l.map fun b=>Value.int .u8 b.toNat
variable {kk:Nat->Prop}
structure Buf (kk:Nat->Prop) (w:World) (B:Nat) (v:Value) (l:List UInt8):Prop where
 own:w.ownsRow B 5 1 v l.length (u8s l)
 le:B<=w.heap.size
 kp:∀ k,kk k->k<w.heap.size/\v.ownBlock≠some k
theorem kl (l:List UInt8):(bs l).size=l.length:=by simp[bs,ByteArray.size]
theorem yC (a b:List UInt8):u8s (a++b)=u8s a++u8s b:=by simp[u8s]
theorem Buf.nil (w:World) (B:Nat) (h:B<=w.heap.size) (hk:∀ k,kk k->k<w.heap.size):Buf kk w B (.slice none 0 0) []:=⟨World.ownsRow_nil _ _ _ _,h,fun k h=>⟨hk k h,by simp[Value.ownBlock]⟩⟩
theorem Buf.below {w w':World}{B:Nat}{v:Value}{l:List UInt8}(h:Buf kk w B v l) (k:Below w.heap.size w w'):Buf kk w' B v l:=⟨ku h.1 k,Nat.le_trans h.2 k.size,fun i hi=>⟨Nat.lt_of_lt_of_le (h.kp i hi).1 k.size,(h.kp i hi).2⟩⟩
structure Bw (kk:Nat->Prop) (B:Nat) (w w':World):Prop extends Below B w w' where
 oth:Lib.OthersKept 5 none w w'
 kp:∀ k,kk k->k<w.heap.size->w'.heap[k]?=w.heap[k]?
theorem Bw.refl (B:Nat) (w:World):Bw kk B w w:=⟨Below.refl _ _,Lib.OthersKept.refl _ _ _,fun _ _ _=>rfl⟩
theorem Bw.trans {B:Nat}{w1 w2 w3:World}(h:Bw kk B w1 w2) (k:Bw kk B w2 w3):Bw kk B w1 w3:=⟨h.toBelow.trans k.toBelow,h.oth.trans k.oth,fun i hi hl=>(k.kp i hi (Nat.lt_of_lt_of_le hl h.size)).trans (h.kp i hi hl)⟩
theorem Bw.of {B:Nat}{w w':World}(h:Below w.heap.size w w') (hB:B<=w.heap.size):Bw kk B w w' :=
 ⟨h.mono hB,fun k o hk _ _=>by rw[h.block k (Array.getElem?_eq_some_iff.1 hk).1];exact hk,fun k _ hk=>h.block k hk⟩
theorem Bw.keeps {B b:Nat}{w w':World}{cs:Array Value}{t:TypeId}{q:Nat× Nat}(h:Bw kk B w w') (hb:w.heap[b]?=some (.cells cs t q)) (ht:t≠5):w'.heap[b]?=some (.cells cs t q) :=
 h.oth b _ hb (by simp) (fun c fz e=>by cases e;exact ht rfl)
theorem Buf.grown {w w':World}{B:Nat}{v:Value}{l:List UInt8}(h:Buf kk w B v l) (k:w.grownBy w' v.ownBlock):Bw kk B w w' :=
 ⟨(Below.refl _ _).grown k h.2 (zG h.1),(Lib.OthersKept.refl _ _ _).grown k (fun g hg=>by
  rcases h.1.2 with⟨rfl,_⟩|⟨g',cap,cur,rfl,_,q2,_⟩
  ·cases hg
  ·cases hg;exact⟨_,_,q2⟩),fun i hi hl=>k.block i hl (fun e=>(h.kp i hi).2 e.symm)⟩
theorem Buf.next {w w':World}{B:Nat}{v v':Value}{l l':List UInt8}(h:Buf kk w B v l) (k:Exact v v' w w') (ho:w'.ownsRow B 5 1 v' l'.length (u8s l')):Buf kk w' B v' l' :=
 ⟨ho,Nat.le_trans h.2 k.size,fun i hi=>⟨Nat.lt_of_lt_of_le (h.kp i hi).1 k.size,fun e=>(k.lies i e).elim (h.kp i hi).2 (Nat.not_le.2 (h.kp i hi).1)⟩⟩
theorem Buf.other {w:World}{B sb:Nat}{v:Value}{l:List UInt8}{cs:Array Value}{t:TypeId}{q:Nat× Nat}(h:Buf kk w B v l) (hs:w.heap[sb]?=some (.cells cs t q)) (ht:t≠5):v.ownBlock≠some sb:=by
 intro e
 rcases h.1.2 with⟨rfl,_⟩|⟨g,cap,cur,rfl,h2,h3,_⟩
 ·cases e
 ·simp only [Value.ownBlock,Option.some.injEq]at e
  rw[e,hs]at h3
  simp at h3
  exact ht h3.2.1
def Wrote (kk:Nat->Prop) (B:Nat) (w:World) (l:List UInt8) (e:Ending) (w':World):Prop:=∃ v',e=.returned v'/\Buf kk w' B v' l/\Bw kk B w w'
theorem star_any (w:World) (b:Bool):Calls Tryz.prog 147 #[.bool b] w fun e w'=>e=.returned (.string (bs (Tp.star b).flatten))/\w'=w:=by
 cases b
 ·go_enter Tryz.func147,Tryz.ntmps147
  go_wp2
  go_ret
  exact⟨rfl,rfl⟩
 ·go_enter Tryz.func147,Tryz.ntmps147
  go_wp2
  go_ret
  exact⟨rfl,rfl⟩
def blanks (d:Nat):List UInt8:=List.replicate (2 * d) 32
theorem uH (d:Nat):blanks d++[32,32]=blanks (d+1):=by
 unfold blanks
 rw[show [(32:UInt8),32]=List.replicate 2 32 from rfl,List.replicate_append_replicate]
 rfl
theorem zV {w:World}{B:Nat}{v:Value}{l:List UInt8}(h:Buf kk w B v l) (d:Nat) (hd:d<=1000) (hl:l.length<=1000000000) :
  Calls Tryz.prog 207 #[v,.int .i64 (d:Int)] w (Wrote kk B w (l++blanks d)):=by
 obtain⟨i0,hi0,hz0,hz1,hz2⟩:=info_parts Tryz.infoU8
 obtain⟨ao,cap,hv⟩:=zt h.1
 subst hv
 go_enter Tryz.func207,Tryz.ntmps207
 go_wp2_with fail
 go_loopg [0,6] d (fun k v vi wr=>∃ i:Nat,i<=d/\k=d - i/\vi=.int .i64 (i:Int)/\Buf kk wr B v (l++blanks i)/\Bw kk B w wr)
 case atStart=>exact⟨0,by omega,by omega,rfl,by simpa[blanks] using h,Bw.refl _ _⟩
 case round =>
  obtain⟨i,hid,hk,rfl,hbuf,hbel⟩:=hrel
  have hll:(l++blanks i).length=l.length+2 * i:=by simp[blanks]
  obtain⟨m,hm⟩:∃ m,m=l++blanks i:=⟨_,rfl⟩
  rw[<-hm]at hbuf hll
  obtain⟨ao',cap',hv⟩:=zt hbuf.1
  subst hv
  have HM:Hid (m=l++blanks i):=hm
  clear hm
  have hml:m.length<=1000002000:=by omega
  clear hll
  by_cases hlt:i<d
  ·have hlt':(i:Int)<(d:Int):=by omega
   go_wp2_with (at_builtin;refine zP _ rfl _ _ 88 9 rfl B 5 i0 Tryz.underlying88 Tryz.underlying9 hi0 hz0 hz1 hz2 _ _ _ rfl hbuf.1 (bs [32,32]) rfl ?c1 ?c2 ?c3 ?_)
   case c1=>rw[kl];unfold maxLen;simp;omega
   case c2=>rw[kl];simp;omega
   case c3=>exact hbuf.2
   ·intro v' w3 hown3 hgrow hex3
    have hb3:=hbuf.grown hgrow
    have HB:Hid (Buf kk w3 B v' (l++blanks (i+1))):=by
     refine hbuf.next hex3 ?_
     rw[<-uH,<-List.append_assoc,<-HM.out,yC,List.length_append]
     exact hown3
    have HBB:Hid (Bw kk B w w3):=hbel.trans hb3
    clear hown3 hgrow hb3 hex3
    go_wp2_with fail
    go_roundg (d - (i+1))
    case measure=>omega
    case rel=>exact⟨i+1,by omega,rfl,by go_num,HB.out,HBB.out⟩
  ·have hlt':¬(i:Int)<(d:Int):=by omega
   have e:i=d:=by omega
   subst e
   go_wp2_with fail
   go_ret
   exact⟨_,rfl,HM.out ▸ hbuf,hbel⟩
theorem yF {w:World}{B:Nat}{v:Value}{l:List UInt8}(h:Buf kk w B v l) (ss:List (List UInt8)) (sb cs:Nat) (hs:w.heap[sb]?=some (.cells (ss.map fun s=>Value.string (bs s)).toArray 9 (0,0))) (hn:ss.length<=1000) (hl:(l++ss.flatten).length<=1000000000) :
  Calls Tryz.prog 102 #[v,.slice (some ⟨sb,0,none⟩) ss.length cs] w (Wrote kk B w (l++ss.flatten)):=by
 obtain⟨i0,hi0,hz0,hz1,hz2⟩:=info_parts Tryz.infoU8
 obtain⟨ao,cap,hv⟩:=zt h.1
 subst hv
 go_enter Tryz.func102,Tryz.ntmps102
 go_wp2_with fail
 go_loopg [0,9] ss.length (fun k v vi wr=>∃ i:Nat,i<=ss.length/\k=ss.length - i/\vi=.int .i64 (i:Int)/\Buf kk wr B v (l++(ss.take i).flatten)/\Bw kk B w wr/\wr.heap[sb]?=some (.cells (ss.map fun s=>Value.string (bs s)).toArray 9 (0,0)))
 case atStart=>exact⟨0,by omega,by omega,rfl,by simpa using h,Bw.refl _ _,hs⟩
 case round =>
  obtain⟨i,hid,hk,rfl,hbuf,hbel,hsr⟩:=hrel
  have hsplit:(l++ss.flatten).length=(l++(ss.take i).flatten).length+(ss.drop i).flatten.length:=by
   conv=>lhs;rw[<-List.take_append_drop i ss,List.flatten_append]
   rw[<-List.append_assoc,List.length_append]
  obtain⟨m,hm⟩:∃ m,m=l++(ss.take i).flatten:=⟨_,rfl⟩
  rw[<-hm]at hbuf hsplit
  obtain⟨ao',cap',hv⟩:=zt hbuf.1
  subst hv
  have HM:Hid (m=l++(ss.take i).flatten):=hm
  clear hm
  by_cases hlt:i<ss.length
  ·have hlt':(i:Int)<(ss.length:Int):=by omega
   have hcell:wr.cell? ⟨sb,i,none⟩=some (.string (bs ss[i])):=by
    rw[za hsr];simp[hlt]
   have hsplit2:(ss.drop i).flatten.length=ss[i].length+(ss.drop (i+1)).flatten.length:=by
    rw[List.drop_eq_getElem_cons hlt,List.flatten_cons,List.length_append]
   have hnew:l++(ss.take (i+1)).flatten=(l++(ss.take i).flatten)++ss[i]:=by
    rw[List.take_succ_eq_append_getElem hlt,List.flatten_append,List.append_assoc];simp
   rw[<-HM.out]at hnew
   generalize ss[i]=x at hcell hsplit2 hnew
   have HNEW:Hid (l++(ss.take (i+1)).flatten=m++x):=hnew
   have HSR:Hid (wr.heap[sb]?=some (.cells (ss.map fun s=>Value.string (bs s)).toArray 9 (0,0))):=hsr
   clear hnew hsr hs
   go_wp2_with (at_builtin;refine zP _ rfl _ _ 88 9 rfl B 5 i0 Tryz.underlying88 Tryz.underlying9 hi0 hz0 hz1 hz2 _ _ _ rfl hbuf.1 (bs x) rfl ?c1 ?c2 ?c3 ?_)
   case c1=>rw[kl];unfold maxLen;omega
   case c2=>rw[kl];omega
   case c3=>exact hbuf.2
   ·intro v' w3 hown3 hgrow hex3
    have hb3:=hbuf.grown hgrow
    have HB:Hid (Buf kk w3 B v' (l++(ss.take (i+1)).flatten)):=by
     refine hbuf.next hex3 ?_
     rw[HNEW.out,yC,List.length_append,<-kl x]
     exact hown3
    have HBB:Hid (Bw kk B w w3):=hbel.trans hb3
    have hsbl:sb<wr.heap.size:=by have:=HSR.out;rw[Array.getElem?_eq_some_iff]at this;exact this.1
    have HS3:Hid (w3.heap[sb]?=some (.cells (ss.map fun s=>Value.string (bs s)).toArray 9 (0,0))):=by
     unfold Hid
     rw[hgrow.block sb hsbl (fun e=>hbuf.other HSR.out (by decide) e.symm)]
     exact HSR.out
    clear hown3 hgrow hb3 hex3 hbuf hcell
    go_wp2_with fail
    go_roundg (ss.length - (i+1))
    case measure=>omega
    case rel=>exact⟨i+1,by omega,rfl,by go_num,HB.out,HBB.out,HS3.out⟩
  ·have hlt':¬(i:Int)<(ss.length:Int):=by omega
   have e:i=ss.length:=by omega
   clear hsr hs hsplit hl
   go_wp2_with fail
   go_ret
   refine⟨_,rfl,?_,hbel⟩
   have:=HM.out
   rw[e,List.take_length]at this
   rw[<-this]
   exact hbuf
end Go.Proofs.YthnoedjbhbkdeaaGreatDoor
namespace Go.Proofs.YthnoedjbhbkdeaaGreatDoor
open Go.RowKit
variable {kk:Nat->Prop}
theorem yt {ops:Array Oper}{rest:List Oper}{o:Oper}{a:Act}{Q:Exit->Act->World->Prop}(hgd:o.guard=none) (sl x:Operand)
  (ho:o.op=.call { callee:=.builtin .append,args:=#[sl,x],argTypes:=#[88,9] })
  {w:World} {B:Nat} {v:Value} {l:List UInt8} (hb:Buf kk w B v l) (s:List UInt8) (hs:a.eval sl=v) (hx:a.eval x=.string (bs s)) (hl:l.length+s.length<=2000000000)
  (h:∀ v' w',Buf kk w' B v' (l++s)->Bw kk B w w'->wpList Tryz.prog ops Q rest (a.put o.dst v') w'):wpList Tryz.prog ops Q (o :: rest) a w:=by
 obtain⟨i0,hi0,hz0,hz1,hz2⟩:=info_parts Tryz.infoU8
 refine zP w hgd sl x 88 9 ho B 5 i0 Tryz.underlying88 Tryz.underlying9 hi0 hz0 hz1 hz2 v l.length (u8s l) hs hb.1 (bs s) hx (by rw[kl];unfold maxLen;omega) (by rw[kl];omega) hb.2 ?_
 intro v' w' h1 h2 h4
 refine h v' w' (hb.next h4 ?_) (hb.grown h2)
 rw[yC,List.length_append,<-kl s]
 exact h1
theorem yg {ops:Array Oper}{rest:List Oper}{o:Oper}{a:Act}{Q:Exit->Act->World->Prop}(hgd:o.guard=none) (sl x:Operand)
  (ho:o.op=.call { callee:=.builtin .append,args:=#[sl,x],argTypes:=#[88,88] })
  {w:World} {B:Nat} {v:Value} {l:List UInt8} (hb:Buf kk w B v l) (c:UInt8) (n:Int) (hn:n=c.toNat) (hs:a.eval sl=v) (hx:a.eval x=.slice (some ⟨w.heap.size,0,none⟩) 1 1) (hl:l.length+1<=2000000000)
  (h:∀ v' w',Buf kk w' B v' (l++[c])->Bw kk B w w'->wpList Tryz.prog ops Q rest (a.put o.dst v') w'):wpList Tryz.prog ops Q (o :: rest) a (w.alloc (.cells #[.int .u8 n] 5)):=by
 subst hn
 obtain⟨i0,hi0,hz0,hz1,hz2⟩:=info_parts Tryz.infoU8
 have hb1:Buf kk (w.alloc (.cells #[.int .u8 (c.toNat:Int)] 5)) B v l:=hb.below (zb _ _)
 refine zR _ hgd sl x 88 ho B 5 i0 (.int .u8 0) 1 1 Tryz.underlying88 hi0 hz0 hz1 hz2 rfl (by decide) v l.length (u8s l) hs hb1.1 ⟨w.heap.size,0,none⟩ 1 1 [.int .u8 (c.toNat:Int)] hx rfl ?c1 ?c2 ?c3 ?c4 ?c5 ?_
 case c1 =>
  intro j u hj
  rw[Addr.add_lit,za (zu _ _),Nat.zero_add]
  simpa using hj
 case c2=>intro u hu;simp at hu;subst hu;rfl
 case c3=>unfold maxLen;omega
 case c4=>omega
 case c5=>exact hb1.2
 intro v' w' h1 h2 h4
 have h3:=hb1.grown h2
 refine h v' w' (hb1.next (Exact.of h2 h4) ?_) ((Bw.of (zb _ _) hb.2).trans h3)
 rw[yC,List.length_append]
 exact h1
theorem kR {w:World}{B:Nat}{v:Value}{l:List UInt8}(h:Buf kk w B v l) (xb:Nat) (m n:List UInt8) (h3:w.cell? ⟨xb,3,none⟩=some (.string (bs m))) (h4:w.cell? ⟨xb,4,none⟩=some (.string (bs n))) (hx:xb<B) (hl:l.length+m.length+n.length<=1000000000) :
  Calls Tryz.prog 156 #[v,.pointer (some ⟨xb,0,none⟩)] w (Wrote kk B w (l++(Tp.ref m n).flatten)):=by
 by_cases hm:m=[]
 ·subst hm
  have h3':w.cell? ⟨xb,3,none⟩=some (.string ⟨#[]⟩):=h3
  clear h3
  go_enter Tryz.func156,Tryz.ntmps156
  go_wp2_with (at_builtin;refine yt rfl _ _ rfl h n rfl rfl ?c1 ?_)
  case c1=>simp at hl;omega
  intro v' w' hb hbel
  have HB:Hid (Buf kk w' B v' (l++n)):=hb
  clear hb h
  go_wp2_with fail
  go_ret
  exact⟨_,rfl,by simpa[Tp.ref] using HB.out,hbel⟩
 ·have hm':(bs m).toList.isEmpty=false:=by rw[zC];simpa using hm
  go_enter Tryz.func156,Tryz.ntmps156
  go_wp2_with (at_builtin;refine yt rfl _ _ rfl h m rfl rfl ?c1 ?_)
  case c1=>omega
  intro v1 w1 hb1 hbel1
  clear h
  go_wp2_with (at_builtin;refine yg rfl _ _ rfl hb1 46 46 rfl rfl rfl ?c1 ?_)
  case c1=>simp;omega
  intro v2 w2 hb2 hbel2
  have h4':w2.cell? ⟨xb,4,none⟩=some (.string (bs n)):=((hbel1.trans hbel2).cell (p:=⟨xb,4,none⟩) hx).trans h4
  clear hb1 h3 h4
  go_wp2_with (at_builtin;refine yt rfl _ _ rfl hb2 n rfl rfl ?c1 ?_)
  case c1=>simp;omega
  intro v3 w3 hb3 hbel3
  have HB:Hid (Buf kk w3 B v3 (l++m++[46]++n)):=by unfold Hid;simpa using hb3
  clear hb3 hb2
  go_wp2_with fail
  go_ret
  exact⟨_,rfl,by simpa[Tp.ref,hm,Tp.mDot] using HB.out,(hbel1.trans hbel2).trans hbel3⟩
end Go.Proofs.YthnoedjbhbkdeaaGreatDoor
namespace Go.Proofs.YthnoedjbhbkdeaaGreatDoor
open Go.RowKit Go.Shelf Go.Sort Go.Lib
variable {P:Program} {ρ:Ren}
def AppPost (e:TypeId) (B n:Nat) (xs:List Value) (l:List UInt8) (sv:Value) (w:World) (r:Ending) (w':World):Prop :=
 ∃ v',r=.returned v'/\w'.ownsRow B e 1 v' (n+l.length) (xs++Lib.byteCells l)/\Below B w w'/\Lib.OthersKept e none w w'/\Exact sv v' w w'
theorem xK (L:LaysM.n288 P ρ) (B n u:Nat) (hu:u<100) (sv:Value) (xs:List Value) (w:World) (hown:w.ownsRow B (ρ.t 5) 1 sv n xs) (hBw:B<=w.heap.size) (hlim:n+20<=140737488355328) :
  Calls P (ρ.f 288) #[sv,.int .u64 u,.int .i64 10] w (AppPost (ρ.t 5) B n xs (Lib.decDigits u) sv w):=by
 have mixed:=L.mixed
 have t5:=L.t5;have a5:=L.a5;have z5:=L.z5;have v5:=L.v5
 have t37:=L.t37;have u37:=run_underlying L.t37;have a37:=L.a37;have z37:=L.z37;have v37:=L.v37
 have t53:=L.t53;have a53:=L.a53;have z53:=L.z53;have v53:=L.v53
 have t3:=L.t3;have a3:=L.a3;have z3:=L.z3;have v3:=L.v3
 have t4:=L.t4;have a4:=L.a4;have z4:=L.z4;have v4:=L.v4
 have t9:=L.t9;have a9:=L.a9;have z9:=L.z9;have v9:=L.v9
 have t171:=L.t171;have a171:=L.a171;have z171:=L.z171;have v171:=L.v171
 have t0:=L.t0;have a0:=L.a0;have z0:=L.z0;have v0:=L.v0
 have t173:=L.t173;have a173:=L.a173;have z173:=L.z173;have v173:=L.v173
 have e283:∀ args w,(callFunc (ρ.f 283) args).run P w=.ok (.enter (ρ.f 283) args) w:=enters_of L.f283 (by kernel_rfl) rfl
 obtain⟨i0,hi,hz0,hz1,hz2⟩:=info_parts L.i5
 have hlen:(Lib.decDigits u).length<=20:=by
  rw[Lib.decDigits_length]
  by_cases h10:u<10
  ·rw[Lib.nDigits_small h10];omega
  ·rw[Lib.nDigits_big h10,Lib.nDigits_small (show u / 10<10 by omega)];omega
 have hsz:(⟨(Lib.decDigits u).toArray⟩:ByteArray).size=(Lib.decDigits u).length:=by simp[ByteArray.size]
 go_enter L.f288,Body.n288_ntmps ρ
 go_wp2_with (first
  | (go_at_fn (ρ.f 283);refine(Any.internal_strconv_small { L with } u hu _).mono ?_;rintro e w' ⟨rfl,rfl⟩)
  | (at_builtin;refine zP _ rfl _ _ (ρ.t 37) (ρ.t 9) rfl B (ρ.t 5) i0 L.t37 L.t9 hi hz0 hz1 hz2 _ _ _ rfl hown ⟨(Lib.decDigits u).toArray⟩ rfl (by rw[hsz];unfold maxLen;omega) (by rw[hsz];omega) hBw ?_))
 intro v' w1 hown' hgrow hex
 have HX:Hid (Exact sv v' _ w1):=hex
 clear hex
 go_wp2
 go_ret
 refine⟨v',rfl,?_,(Below.refl B _).grown hgrow hBw (fun k hk=>(hown.lt k hk).1),(Lib.OthersKept.refl _ _ _).grown hgrow (Lib.ownsRow_kind hown),HX.out⟩
 first|exact hown'|(rw[hsz]at hown';exact hown')
theorem uK (L:LaysM.n288 P ρ) (B n u:Nat) (hu:100<=u) (hu64:u<18446744073709551616) (sv:Value) (xs:List Value) (w:World) (hown:w.ownsRow B (ρ.t 5) 1 sv n xs) (hBw:B<=w.heap.size) (hlim:n+20<=140737488355328)
  (htab:Lib.TabIs P w "internal/strconv.uint64pow10" .u64 Lib.pow10Tab) :
  Calls P (ρ.f 288) #[sv,.int .u64 u,.int .i64 10] w (AppPost (ρ.t 5) B n xs (Lib.decDigits u) sv w):=by
 have mixed:=L.mixed
 have t5:=L.t5;have a5:=L.a5;have z5:=L.z5;have v5:=L.v5
 have t37:=L.t37;have u37:=run_underlying L.t37;have a37:=L.a37;have z37:=L.z37;have v37:=L.v37
 have t53:=L.t53;have a53:=L.a53;have z53:=L.z53;have v53:=L.v53
 have t3:=L.t3;have a3:=L.a3;have z3:=L.z3;have v3:=L.v3
 have t4:=L.t4;have a4:=L.a4;have z4:=L.z4;have v4:=L.v4
 have t9:=L.t9;have a9:=L.a9;have z9:=L.z9;have v9:=L.v9
 have t171:=L.t171;have a171:=L.a171;have z171:=L.z171;have v171:=L.v171
 have t0:=L.t0;have a0:=L.a0;have z0:=L.z0;have v0:=L.v0
 have t173:=L.t173;have a173:=L.a173;have z173:=L.z173;have v173:=L.v173
 have e284:∀ args w,(callFunc (ρ.f 284) args).run P w=.ok (.enter (ρ.f 284) args) w:=enters_of L.f284 (by kernel_rfl) rfl
 have e285:∀ args w,(callFunc (ρ.f 285) args).run P w=.ok (.enter (ρ.f 285) args) w:=enters_of L.f285 (by kernel_rfl) rfl
 obtain⟨i0,hi,hz0,hz1,hz2⟩:=info_parts L.i5
 have hu1:1<=u:=by omega
 have hnd20:Lib.nDigits u<=20:=by have:=Lib.numDigits_eq u hu1 hu64;split at this <;> omega
 have hal:P.arrayLen (ρ.t 171)=24:=by simp[Program.arrayLen,L.t171]
 have hsl:∀ W,(Instr.sliceAt (ρ.t 171) (.pointer (some ⟨w.heap.size,0,none⟩)) none (some (.int .i64 (Lib.nDigits u:Int))) none).run P W=.ok (.slice (some ⟨w.heap.size,0,none⟩) (Lib.nDigits u) 24) W:=fun W=>by
  rw[run_sliceAt_array_h W (ρ.t 171) ⟨w.heap.size,0,none⟩ (by simp[Program.arrayLen,Program.elem,L.t171]) .i64 (Lib.nDigits u:Int) (by omega) (by rw[hal];omega)]
  go_simp
 have hH0:=Lib.holds_zero0 w (ρ.t 171) (Lib.nDigits u) (by omega)
 have hfmt:=Any.internal_strconv_formatBase10 { L with } w.heap.size 0 24 u (Array.replicate (Lib.nDigits u) 0) (w.alloc (.cells Lib.zeros24 (ρ.t 171))) hH0 (by rw[Array.size_replicate];exact Lib.lt_pow_nDigits u) hu64 (by rw[Array.size_replicate];omega)
 rw[Array.size_replicate]at hfmt
 have HH0:=zh hH0
 have iu:(100:Int)<=(u:Int):=by omega
 clear hH0 hal
 go_enter L.f288,Body.n288_ntmps ρ
 go_wp2_with (first
  | (go_at_fn (ρ.f 284);refine(Any.internal_strconv_numDigits { L with } u hu1 hu64 _ (Lib.tabIs_alloc htab _)).mono ?_;rintro e w' ⟨rfl,rfl⟩))
 go_at_fn (ρ.f 285)
 refine hfmt.mono ?_
 rintro e w' ⟨rfl,k,v',dk,rfl,hF⟩
 have hcells:∀ j u',(Lib.byteCells (Lib.decDigits u))[j]?=some u'->((putRow (fun (b:UInt8)=>Value.int .u8 (b.toNat:Int)) (w.alloc (.cells Lib.zeros24 (ρ.t 171))) w.heap.size 0 dk).drewN k).cell? ((⟨w.heap.size,0,none⟩:Addr).add j)=some u':=by
  intro j u' hj
  have hjl:j<(Lib.decDigits u).length:=by
   have h5:=(List.getElem?_eq_some_iff.1 hj).1
   rwa [Lib.byteCells_length]at h5
  have e5:(Lib.byteCells (Lib.decDigits u))[j]?=some (Value.int .u8 ((Lib.decDigits u)[j].toNat:Int)):=by simp[Lib.byteCells,hjl]
  rw[e5]at hj
  cases hj
  rw[Lib.row_is_numeral hF j hjl,Lib.add_plain,World.cell?_drewN]
  exact cell?_putRow (fun (b:UInt8)=>Value.int .u8 (b.toNat:Int)) _ w.heap.size 0 _ dk HH0.out (by rw[hF.size,Array.size_replicate]) j (by rw[hF.size];rw[Lib.decDigits_length]at hjl;exact hjl)
 obtain⟨os,eo⟩:=Lib.fin_at w (.cells Lib.zeros24 (ρ.t 171)) dk k 0
 have hbel2:Below w.heap.size w ((putRow (fun (b:UInt8)=>Value.int .u8 (b.toNat:Int)) (w.alloc (.cells Lib.zeros24 (ρ.t 171))) w.heap.size 0 dk).drewN k):=by rw[eo];exact Lib.below_grow w.heap.size w zn k os
 have hown2:=ku hown hbel2
 generalize (putRow (fun (b:UInt8)=>Value.int .u8 (b.toNat:Int)) (w.alloc (.cells Lib.zeros24 (ρ.t 171))) w.heap.size 0 dk).drewN k=W2 at hcells hown2 hbel2 ⊢
 have hsz2:w.heap.size<=W2.heap.size:=hbel2.size
 have HB2:Hid (Below w.heap.size w W2):=hbel2
 clear eo HH0 hfmt hbel2
 go_wp2_with (at_builtin;refine zR _ rfl _ _ (ρ.t 37) rfl B (ρ.t 5) i0 (.int .u8 0) 1 1 L.t37 hi hz0 hz1 hz2 rfl (by decide) _ _ _ rfl hown2 ⟨w.heap.size,0,none⟩ (Lib.nDigits u) 24 (Lib.byteCells (Lib.decDigits u)) rfl ?c0 hcells ?c2 ?c3 ?c4 ?c5 ?_)
 case c0=>rw[Lib.byteCells_length,Lib.decDigits_length,Nat.mul_one]
 case c2=>intro u' hu';simp only [Lib.byteCells,List.mem_map]at hu';obtain⟨b,_,rfl⟩:=hu';rfl
 case c3=>unfold maxLen;omega
 case c4=>omega
 case c5=>omega
 intro v2 w3 hown' hgrow hlies
 have HX:Hid (Exact sv v2 w w3):=(Exact.of hgrow hlies).ahead HB2.out
 have HBL:Hid (Below B w w3):=(HB2.out.mono hBw).grown hgrow (by omega) (fun k hk=>(hown2.lt k hk).1)
 have HOT:Hid (Lib.OthersKept (ρ.t 5) none w w3):=((Lib.OthersKept.refl _ _ w).below HB2.out).grown hgrow (Lib.ownsRow_kind hown2)
 clear hgrow hlies
 go_wp2
 go_ret
 refine⟨v2,rfl,?_,HBL.out,HOT.out,HX.out⟩
 rw[Lib.decDigits_length]
 exact hown'
theorem appUint (L:LaysM.n288 P ρ) (B n u:Nat) (hu64:u<18446744073709551616) (sv:Value) (xs:List Value) (w:World) (hown:w.ownsRow B (ρ.t 5) 1 sv n xs) (hBw:B<=w.heap.size) (hlim:n+20<=140737488355328)
  (htab:Lib.TabIs P w "internal/strconv.uint64pow10" .u64 Lib.pow10Tab) :
  Calls P (ρ.f 288) #[sv,.int .u64 u,.int .i64 10] w (AppPost (ρ.t 5) B n xs (Lib.decDigits u) sv w):=by
 by_cases h:u<100
 ·exact xK { L with } B n u h sv xs w hown hBw hlim
 ·exact uK { L with } B n u (by omega) hu64 sv xs w hown hBw hlim htab
theorem appInt_in (L:LaysM.n249 P ρ) (B n u:Nat) (hu:u<=9223372036854775807) (sv:Value) (xs:List Value) (w:World) (hown:w.ownsRow B (ρ.t 5) 1 sv n xs) (hBw:B<=w.heap.size) (hlim:n+21<=140737488355328)
  (htab:Lib.TabIs P w "internal/strconv.uint64pow10" .u64 Lib.pow10Tab) :
  Calls P (ρ.f 249) #[sv,.int .i64 u,.int .i64 10] w (AppPost (ρ.t 5) B n xs (Lib.decDigits u) sv w):=by
 have mixed:=L.mixed
 have t5:=L.t5;have a5:=L.a5;have z5:=L.z5;have v5:=L.v5
 have t37:=L.t37;have u37:=run_underlying L.t37;have a37:=L.a37;have z37:=L.z37;have v37:=L.v37
 have t2:=L.t2;have a2:=L.a2;have z2:=L.z2;have v2:=L.v2
 have t3:=L.t3;have a3:=L.a3;have z3:=L.z3;have v3:=L.v3
 have t53:=L.t53;have a53:=L.a53;have z53:=L.z53;have v53:=L.v53
 have t4:=L.t4;have a4:=L.a4;have z4:=L.z4;have v4:=L.v4
 have e288:∀ args w,(callFunc (ρ.f 288) args).run P w=.ok (.enter (ρ.f 288) args) w:=enters_of L.f288 (by kernel_rfl) rfl
 have HC:Hid (Calls P (ρ.f 288) #[sv,.int .u64 u,.int .i64 10] w (AppPost (ρ.t 5) B n xs (Lib.decDigits u) sv w)):=appUint { L with } B n u (by omega) sv xs w hown hBw (by omega) htab
 go_enter L.f249,Body.n249_ntmps ρ
 go_wp2_with (go_at_fn (ρ.f 288);refine HC.out.mono ?_;rintro e w2 ⟨v2,rfl,hp⟩)
 have HP:=zh hp
 clear hp
 go_wp2
 first|go_ret|go_ret2
 exact⟨v2,rfl,HP.out⟩
theorem appInt (L:LaysM.n176 P ρ) (B n u:Nat) (hu:u<=9223372036854775807) (sv:Value) (xs:List Value) (w:World) (hown:w.ownsRow B (ρ.t 5) 1 sv n xs) (hBw:B<=w.heap.size) (hlim:n+21<=140737488355328)
  (htab:Lib.TabIs P w "internal/strconv.uint64pow10" .u64 Lib.pow10Tab) :
  Calls P (ρ.f 176) #[sv,.int .i64 u,.int .i64 10] w (AppPost (ρ.t 5) B n xs (Lib.decDigits u) sv w):=by
 have mixed:=L.mixed
 have t5:=L.t5;have a5:=L.a5;have z5:=L.z5;have v5:=L.v5
 have t37:=L.t37;have u37:=run_underlying L.t37;have a37:=L.a37;have z37:=L.z37;have v37:=L.v37
 have t2:=L.t2;have a2:=L.a2;have z2:=L.z2;have v2:=L.v2
 have t3:=L.t3;have a3:=L.a3;have z3:=L.z3;have v3:=L.v3
 have e249:∀ args w,(callFunc (ρ.f 249) args).run P w=.ok (.enter (ρ.f 249) args) w:=enters_of L.f249 (by kernel_rfl) rfl
 have HC:Hid (Calls P (ρ.f 249) #[sv,.int .i64 u,.int .i64 10] w (AppPost (ρ.t 5) B n xs (Lib.decDigits u) sv w)):=appInt_in { L with } B n u hu sv xs w hown hBw hlim htab
 go_enter L.f176,Body.n176_ntmps ρ
 go_wp2_with (go_at_fn (ρ.f 249);refine HC.out.mono ?_;rintro e w2 ⟨v2,rfl,hp⟩)
 have HP:=zh hp
 clear hp
 go_wp2
 go_ret
 exact⟨v2,rfl,HP.out⟩
end Go.Proofs.YthnoedjbhbkdeaaGreatDoor
namespace Go.Proofs.YthnoedjbhbkdeaaGreatDoor
open Go.RowKit
variable {kk:Nat->Prop}
def Tab (B:Nat) (w:World):Prop:=Lib.TabBelow Tryz.prog B w "internal/strconv.uint64pow10" .u64 Lib.pow10Tab
theorem jT {w:World}{B:Nat}{v:Value}{l:List UInt8}(h:Buf kk w B v l) (ht:Tab B w) (i:Nat) (hi:i<=9223372036854775807) (hl:l.length<=2000000000) :
  Calls Tryz.prog 155 #[v,.int .i64 (i:Int),.int .i64 10] w (Wrote kk B w (l++Lib.itoa (i:Int))):=by
 refine(appInt Tryz.laysAI B l.length i hi v (u8s l) w h.1 h.2 (by omega) ht.here).mono ?_
 rintro e w' ⟨v',h1,h2,h3,h4,h5⟩
 refine⟨v',h1,h.next h5 ?_,⟨h3,h4,fun k hk hl=>h5.block k hl (h.kp k hk).2⟩⟩
 rw[yC,List.length_append,Lib.itoa_nonneg]
 exact h2
end Go.Proofs.YthnoedjbhbkdeaaGreatDoor
