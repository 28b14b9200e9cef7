import Derived.Test.YtmocelfkmdpogaaGreatDoorKWi
import Derived.Test.YtmocelfkmdpogaaGreatDoorKPb
import Derived.Lib.Hide
import Derived.Lib.AppendStr
import Derived.Lib.OthersKept
import Derived.Shelf.Strconv.AppendIntPublic10
set_option maxRecDepth 100000
set_option maxHeartbeats 4000000
namespace Go.Proofs.YtmocelfkmdpogaaGreatDoor
open Go.RowKit
open Tp (Tok hd tx at' stp X S G Pr)
theorem toks_of {w:World}{base tb n cap:Nat}{ts:List Tok}(h:w.ownsRow base 111 3 (.slice (some ⟨tb,0,none⟩) n cap) ts.length (tksC ts)):n=ts.length/\base<=tb/\tb<w.heap.size/\∀ i t,ts[i]?=some t->TokAt w tb i t:=by
 rcases h.2 with⟨q,_⟩|⟨g,c,cur,q0,q1,q2,q3,q4,q5,q6⟩
 ·cases q
 ·cases q0
  refine⟨rfl,q1,zi q2,fun i t hi=>?_⟩
  have hil:i<ts.length:=by rw[List.getElem?_eq_some_iff]at hi;exact hi.1
  have hcell:∀ j,j<3->w.cell? ⟨tb,i * 3+j,none⟩=(tksC ts)[i * 3+j]?:=by
   intro j hj
   rw[za q2,<-Array.getElem?_toList,<-q6,List.getElem?_take_of_lt (by omega)]
  have hget:∀(l:List Tok) (i j:Nat) (t:Tok),l[i]?=some t->j<3->(tksC l)[i * 3+j]?=(tcells t)[j]?:=by
   intro l
   induction l with
   | nil=>intro i j t h;cases h
   | cons u l ih =>
    intro i j t h hj
    have e:tksC (u :: l)=tcells u++tksC l:=by simp[tksC]
    have hl:(tcells u).length=3:=by simp[tcells]
    rw[e]
    cases i with
    | zero=>simp at h;subst h;rw[List.getElem?_append_left (by omega)];simp
    | succ i =>
     rw[List.getElem?_append_right (by omega),hl,show (i+1) * 3+j - 3=i * 3+j by omega]
     exact ih i j t (by simpa using h) hj
  refine⟨?_,?_,?_⟩
  ·have:=hcell 0 (by omega);rw[hget ts i 0 t hi (by omega)]at this;simpa[tcells] using this
  ·have:=hcell 1 (by omega);rw[hget ts i 1 t hi (by omega)]at this;simpa[tcells] using this
  ·have:=hcell 2 (by omega);rw[hget ts i 2 t hi (by omega)]at this;simpa[tcells] using this
theorem Ext.toBelow {b B:Nat}{w w':World}(h:Ext b w w') (hb:B<=b) (hB:B<=w.heap.size):Below B w w':=⟨h.os,h.tape,h.output,h.size,fun k hk=>h.block k (by omega) (by omega)⟩
theorem VM.mono {w w':World}{B B':Nat}{m:Tp.M}{v:Value}(h:VM B m v w) (hB:B'<=B) (hk:∀ b,B<=b->b<w.heap.size->w'.heap[b]?=w.heap[b]?):VM B' m v w':=by
 obtain⟨ia,ga,pa,ba,ic,gc,pc,bc,pcs,bcs,h0,h1,h2,h3,h4,h5,h6⟩:=h
 have hD:∀ b,B<=b->b<w.heap.size->w'.heap[b]?=w.heap[b]?/\B'<=b:=fun b hb hl=>⟨hk b hb hl,by omega⟩
 exact⟨ia,ga,pa,ba,ic,gc,pc,bc,pcs,bcs,h0,h1.mono hD,h2.mono hD,RepP.mono hD _ _ h3,h4.mono hD,h5.mono' hD,h6.mono hD⟩
def ParseP (w:World) (l:List UInt8) (e:Ending) (w':World):Prop :=
 match Tp.parse l with
 | .ok m=>∃ v,e=.returned (.tuple #[v,.nilIface])/\VM w.heap.size m v w'
 | .error er=>∃ ab,e=.returned (.tuple #[.agg m0,.iface 103 (.pointer (some ⟨ab,0,none⟩))])/\w.heap.size<=ab/\w'.cell? ⟨ab,0,none⟩=some (.int .i64 (er.1:Int))/\w'.cell? ⟨ab,1,none⟩=some (.int .i64 (er.2:Int))
theorem cells5 {w:World}{b:Nat}{v0 v1 v2 v3 v4:Value}{t:Nat}(h:w.heap[b]?=some (.cells #[v0,v1,v2,v3,v4] t (0,0))):∀ i,i<5->(w.cell? ⟨b,i,none⟩).isSome=true:=by
 intro i hi
 rw[za h]
 match i,hi with
 | 0,_=>rfl
 | 1,_=>rfl
 | 2,_=>rfl
 | 3,_=>rfl
 | 4,_=>rfl
def late (w:World) (mb eb ab:Nat):World:=(((((w.setCell ⟨mb,0,none⟩ (.string ⟨#[]⟩)).setCell ⟨mb,1,none⟩ (.slice none 0 0)).setCell ⟨mb,2,none⟩ (.slice none 0 0)).setCell ⟨mb,3,none⟩ (.slice none 0 0)).setCell ⟨mb,4,none⟩ (.slice none 0 0)).setCell ⟨eb,0,none⟩ (.iface 103 (.pointer (some ⟨ab,0,none⟩)))
theorem late_below (w:World) (mb ab:Nat):Below mb w (late w mb (mb+1) ab):=zq (j8 w mb _ _ _ _ _) (by simp) 0 _
theorem uw {w:World}{mb ab b j:Nat}(hb:mb+1<b):(late w mb (mb+1) ab).cell? ⟨b,j,none⟩=w.cell? ⟨b,j,none⟩:=by
 refine World.cell?_of_block (w:=w) ?_
 unfold late
 rw[Below.heap_setCell _ _ _ _ (by simp;omega),Below.heap_setCell _ _ _ _ (by simp;omega),Below.heap_setCell _ _ _ _ (by simp;omega),Below.heap_setCell _ _ _ _ (by simp;omega),Below.heap_setCell _ _ _ _ (by simp;omega),Below.heap_setCell _ _ _ _ (by simp;omega)]
theorem late_blk {w:World}{mb ab:Nat}(h1:w.heap[mb]?=some (.cells m0 29 (0,0))) (h2:w.heap[mb+1]?=some (.cells #[.nilIface] 31 (0,0))):(∀ i,(late w mb (mb+1) ab).cell? ⟨mb,i,none⟩=m0[i]?)/\(late w mb (mb+1) ab).cell? ⟨mb+1,0,none⟩=some (.iface 103 (.pointer (some ⟨ab,0,none⟩))):=by
 have a1:=zw 4 (.slice none 0 0) (zw 3 (.slice none 0 0) (zw 2 (.slice none 0 0) (zw 1 (.slice none 0 0) (zw 0 (.string ⟨#[]⟩) h1))))
 have a2:=(Below.heap_setCell (((((w.setCell ⟨mb,0,none⟩ (.string ⟨#[]⟩)).setCell ⟨mb,1,none⟩ (.slice none 0 0)).setCell ⟨mb,2,none⟩ (.slice none 0 0)).setCell ⟨mb,3,none⟩ (.slice none 0 0)).setCell ⟨mb,4,none⟩ (.slice none 0 0)) ⟨mb+1,0,none⟩ (.iface 103 (.pointer (some ⟨ab,0,none⟩))) mb (by simp)).trans a1
 refine⟨fun i=>(za a2).trans rfl,?_⟩
 unfold late
 have b1:(((((w.setCell ⟨mb,0,none⟩ (.string ⟨#[]⟩)).setCell ⟨mb,1,none⟩ (.slice none 0 0)).setCell ⟨mb,2,none⟩ (.slice none 0 0)).setCell ⟨mb,3,none⟩ (.slice none 0 0)).setCell ⟨mb,4,none⟩ (.slice none 0 0)).heap[mb+1]?=some (.cells #[.nilIface] 31 (0,0)):=by
  rw[Below.heap_setCell _ _ _ _ (by simp),Below.heap_setCell _ _ _ _ (by simp),Below.heap_setCell _ _ _ _ (by simp),Below.heap_setCell _ _ _ _ (by simp),Below.heap_setCell _ _ _ _ (by simp)]
  exact h2
 exact(za (zw 0 (.iface 103 (.pointer (some ⟨ab,0,none⟩))) b1)).trans rfl
theorem kG (w:World) (l:List UInt8) (hl:l.length<=100000) (hmk:Mk w) (hlv:Lv w) :
  Calls Tryz.prog 6 #[.string (bs l)] w fun e w'=>Below w.heap.size w w'/\ParseP w l e w':=by
 have hmf:=zm
 obtain⟨mb,hmb⟩:∃ mb,mb=w.heap.size:=⟨_,rfl⟩
 have hm1:=hmk.1
 have hl1:=hlv.1
 go_enter_defers Tryz.func6,Tryz.ntmps6
 go_wp2_with fail
 have hb0:Below w.heap.size w ((w.alloc (.cells #[.string ⟨#[]⟩,.slice none 0 0,.slice none 0 0,.slice none 0 0,.slice none 0 0] 29)).alloc (.cells #[.nilIface] 31)):=(zb _ _).alloc (by simp) _
 have hsz0:((w.alloc (.cells #[.string ⟨#[]⟩,.slice none 0 0,.slice none 0 0,.slice none 0 0,.slice none 0 0] 29)).alloc (.cells #[.nilIface] 31)).heap.size=w.heap.size+2:=by simp
 have hbm:((w.alloc (.cells #[.string ⟨#[]⟩,.slice none 0 0,.slice none 0 0,.slice none 0 0,.slice none 0 0] 29)).alloc (.cells #[.nilIface] 31)).heap[w.heap.size]?=some (.cells #[.string ⟨#[]⟩,.slice none 0 0,.slice none 0 0,.slice none 0 0,.slice none 0 0] 29 (0,0)):=(Below.heap_alloc _ _ _ (by simp)).trans (zk _ _)
 have hbe:((w.alloc (.cells #[.string ⟨#[]⟩,.slice none 0 0,.slice none 0 0,.slice none 0 0,.slice none 0 0] 29)).alloc (.cells #[.nilIface] 31)).heap[w.heap.size+1]?=some (.cells #[.nilIface] 31 (0,0)):=by
  have:=zk (w.alloc (.cells #[.string ⟨#[]⟩,.slice none 0 0,.slice none 0 0,.slice none 0 0,.slice none 0 0] 29)) (.cells #[.nilIface] 31)
  simpa using this
 generalize ((w.alloc (.cells #[.string ⟨#[]⟩,.slice none 0 0,.slice none 0 0,.slice none 0 0,.slice none 0 0] 29)).alloc (.cells #[.nilIface] 31))=w1 at hb0 hsz0 hbm hbe ⊢
 have hmk1:=hmk.below hb0 hm1
 have hlv1:=hlv.below hb0 hl1
 have hm2:0<mb:=by omega
 have hl2:2<mb:=by omega
 have hsz1:mb+2<=w1.heap.size:=by omega
 have HB0:Hid (Below mb w w1):=by rw[hmb];exact hb0
 have HMB:Hid (w.heap.size=mb):=hmb.symm
 rw[<-hmb]at hbm hbe ⊢
 clear hb0 hsz0 hm1 hl1 hmk hlv hmb
 have HOUT:Hid (∀(wX:World) (er:Tp.Er) (ab:Nat),Below (mb+2) w1 wX->mb+2<=ab->wX.cell? ⟨ab,0,none⟩=some (.int .i64 (er.1:Int))->wX.cell? ⟨ab,1,none⟩=some (.int .i64 (er.2:Int))->Tp.parse l=.error er ->
   Below w.heap.size w (late wX mb (mb+1) ab)/\ParseP w l (.returned (.tuple #[.agg m0,.iface 103 (.pointer (some ⟨ab,0,none⟩))])) (late wX mb (mb+1) ab)):=by
  intro wX er ab h1 h2 h3 h4 h5
  rw[HMB.out]
  refine⟨(HB0.out.trans (h1.mono (by omega))).trans (late_below wX mb ab),?_⟩
  unfold ParseP
  rw[h5,HMB.out]
  exact⟨ab,rfl,by omega,(uw (by omega)).trans h3,(uw (by omega)).trans h4⟩
 have HBM:Hid (∀ wX,Below (mb+2) w1 wX->(∀ i,i<5->(wX.cell? ⟨mb,i,none⟩).isSome=true)/\(∀ i,wX.frozen? ⟨mb,i,none⟩=false)/\(wX.cell? ⟨mb+1,0,none⟩).isSome=true/\wX.frozen? ⟨mb+1,0,none⟩=false):=by
  intro wX hb
  have e1:=(hb.block mb (by omega)).trans hbm
  have e2:=(hb.block (mb+1) (by omega)).trans hbe
  exact⟨cells5 e1,fun i=>zg e1,by rw[za e2];rfl,zg e2⟩
 have HLB:Hid (∀ wX ab,Below (mb+2) w1 wX->(∀ i,(late wX mb (mb+1) ab).cell? ⟨mb,i,none⟩=m0[i]?)/\(late wX mb (mb+1) ab).cell? ⟨mb+1,0,none⟩=some (.iface 103 (.pointer (some ⟨ab,0,none⟩)))):=by
  intro wX ab hb
  exact late_blk ((hb.block mb (by omega)).trans hbm) ((hb.block (mb+1) (by omega)).trans hbe)
 refine(scan_post w1 l hl hmk1).mono ?_
 rintro e w3 ⟨hb3,hq⟩
 unfold ScanP at hq
 generalize hsc:SC 0 0 l=res at hq
 have hsz3:=hb3.size
 rcases res with er|tks
 ·obtain⟨ab,q1,rfl,q2,q3⟩:=hq.out
  have HP:Hid (Tp.parse l=.error er):=by show _=_;unfold Tp.parse;rw[show Tp.scan (l.length+1) 0 0 l=.error er from hsc];rfl
  clear hsc
  go_wp2_with fail
  obtain⟨c0,z0,ce,ze⟩:=HBM.out w3 (hb3.mono hsz1)
  refine leaves_cons (f:=20) (args:=#[.pointer (some ⟨mb,0,none⟩),.pointer (some ⟨mb+1,0,none⟩)]) (by simp) (by simp[go_sem]) ?_
  refine(y9 mb (mb+1) ab [] w3 c0 z0 ce ze (by omega)).mono ?_
  rintro e u' w'' ⟨rfl,rfl,hw⟩
  have hout:=HOUT.out w3 er ab (hb3.mono hsz1) (by omega) q2 q3 HP.out
  obtain⟨k1,k2⟩:=HLB.out w3 ab (hb3.mono hsz1)
  have hw':w''=late w3 mb (mb+1) ab:=hw
  rw[<-hw']at hout k1 k2
  simp only [m0]at k1 hout
  clear hw hw'
  simp[Leaves,settle,results,Tryz.results6,go_sem,k1,k2]
  exact hout
 ·obtain⟨v,rfl,hown⟩:=hq
  have HSC:Hid (Tp.scan (l.length+1) 0 0 l=.ok tks):=hsc
  clear hsc
  obtain⟨tk1,tk2,tk3,tt,tz,tk4,tk5⟩:=Tp.scan_tks _ _ _ _ _ HSC.out
  have hlen:=tk3 (by omega)
  have hne:tks≠[]:=by rw[tk4];simp
  have HLAST:Hid (∀ t,tks.getLast?=some t->t.kind=0):=by intro t ht;rw[tk4,List.getLast?_concat]at ht;cases ht;exact tk5
  clear tk4 tk5
  obtain⟨ta,tc,rfl⟩:=zl hown
  obtain⟨tb,rfl⟩:∃ tb,ta=some ⟨tb,0,none⟩:=by
   rcases hown.2 with⟨q,q'⟩|⟨g,c,cur,q0,_⟩
   ·exact absurd (List.eq_nil_of_length_eq_zero q') hne
   ·cases q0;exact⟨g,rfl⟩
  obtain⟨_,t1,t2,t3⟩:=toks_of hown
  go_wp2_with fail
  refine(vg w3).mono ?_
  rintro e w4 ⟨rfl,hw4⟩
  have hb4:Below w3.heap.size w3 w4:=by rw[hw4];exact zb _ _
  have hk4:w4.heap[w3.heap.size]?=some (.map (ents 21) 21):=by rw[hw4];exact zk _ _
  have hs4:w3.heap.size<w4.heap.size:=by rw[hw4];simp
  clear hw4
  go_wp2_with fail
  have hal:Below w4.heap.size w4 (w4.alloc (.cells #[.slice (some ⟨tb,0,none⟩) tks.length tc,.int .i64 0,.map (some w3.heap.size),.int .i64 0,.int .i64 0] 68)):=zb _ _
  have hpb:(w4.alloc (.cells #[.slice (some ⟨tb,0,none⟩) tks.length tc,.int .i64 0,.map (some w3.heap.size),.int .i64 0,.int .i64 0] 68)).heap[w4.heap.size]?=some (.cells #[.slice (some ⟨tb,0,none⟩) tks.length tc,.int .i64 0,.map (some w3.heap.size),.int .i64 0,.int .i64 0] 68 (0,0)):=zk _ _
  have hs5:w4.heap.size<(w4.alloc (.cells #[.slice (some ⟨tb,0,none⟩) tks.length tc,.int .i64 0,.map (some w3.heap.size),.int .i64 0,.int .i64 0] 68)).heap.size:=by simp
  generalize w4.alloc (.cells #[.slice (some ⟨tb,0,none⟩) tks.length tc,.int .i64 0,.map (some w3.heap.size),.int .i64 0,.int .i64 0] 68)=w5 at hal hpb hs5 ⊢
  have hb35:Below w3.heap.size w3 w5:=hb4.trans (hal.mono hb4.size)
  have hb15:Below w1.heap.size w1 w5:=hb3.trans (hb35.mono hsz3)
  have hst:St w5 ⟨w4.heap.size,tb,w3.heap.size,tc⟩ tks tks 0 0:=by
   refine⟨(za hpb).trans rfl,(za hpb).trans (by simp),(za hpb).trans rfl,(za hpb).trans rfl,(za hpb).trans rfl,fun j=>zg hpb,(hal.block _ hs4).trans hk4,fun i t hi=>?_,by simp,hne,by omega,HLAST.out,⟨by show tb<w4.heap.size;omega,hs4⟩,fun t ht hk c hc=>((tk1 t ht).k2 hk).2 c hc,fun t ht=>?_,hlv1.below hb15 (by omega),by show 2<w4.heap.size;omega⟩
   ·have:=t3 i t hi
    exact⟨(hb35.cell (p:=⟨tb,_,none⟩) t2).trans this.c0,(hb35.cell (p:=⟨tb,_,none⟩) t2).trans this.c1,(hb35.cell (p:=⟨tb,_,none⟩) t2).trans this.c2⟩
   ·have:=Tp.scan_tl _ _ _ _ _ HSC.out t ht
    omega
  have hno:Tp.module (20 * tks.length+20) tks≠.error (99,0):=Tp.module_ne tk1.gd (by omega)
  have hcall:=qw (f:=20 * tks.length+20) (by omega) hst hno
  generalize hres:Tp.module (20 * tks.length+20) tks=res at hcall
  have HP:Hid (Tp.parse l=res):=by
   show _=_
   unfold Tp.parse
   rw[HSC.out]
   exact hres
  clear hres hno
  refine hcall.mono ?_
  intro e w6 hq
  have hm5:mb+2<=w5.heap.size:=by omega
  have hm4:mb+2<=w4.heap.size:=by omega
  rcases res with er|m
  ·obtain⟨ht,hx⟩:=hq
   obtain⟨ab,q1,rfl,q2,q3⟩:=ht.out
   have hb6:Below (mb+2) w1 w6:=(hb15.mono hsz1).trans (hx.toBelow hm4 hm5)
   go_wp2_with fail
   obtain⟨c0,z0,ce,ze⟩:=HBM.out w6 hb6
   refine leaves_cons (f:=20) (args:=#[.pointer (some ⟨mb,0,none⟩),.pointer (some ⟨mb+1,0,none⟩)]) (by simp) (by simp[go_sem]) ?_
   refine(y9 mb (mb+1) ab [] w6 c0 z0 ce ze (by omega)).mono ?_
   rintro e u' w'' ⟨rfl,rfl,hw⟩
   have hout:=HOUT.out w6 er ab hb6 (by omega) q2 q3 HP.out
   obtain⟨k1,k2⟩:=HLB.out w6 ab hb6
   have hw':w''=late w6 mb (mb+1) ab:=hw
   rw[<-hw']at hout k1 k2
   simp only [m0]at k1 hout
   clear hw hw'
   simp[Leaves,settle,results,Tryz.results6,go_sem,k1,k2]
   exact hout
  ·obtain⟨v,rfl,hv,hx⟩:=hq
   have hb6:Below (mb+2) w1 w6:=(hb15.mono hsz1).trans (hx.toBelow hm4 hm5)
   have e1:=(hb6.block mb (by omega)).trans hbm
   have e2:=(hb6.block (mb+1) (by omega)).trans hbe
   obtain⟨ia,ga,pa,ba,ic,gc,pc,bc,pcs,bcs,hvv,hvr⟩:=hv
   have HVR:Hid (VM w5.heap.size m (.agg (mcells (bs m.name) (.slice ia m.imports.length ic) (.slice ga m.vars.length gc) (.slice pa m.procs.length pc) (.slice ba m.body.length bc))) w6):=⟨ia,ga,pa,ba,ic,gc,pc,bc,pcs,bcs,rfl,hvr⟩
   subst hvv
   clear hvr
   simp only [mcells]
   have y:∀ i,w6.cell? ⟨mb,i,none⟩=m0[i]?:=fun i=>za e1
   have z:∀ i,w6.frozen? ⟨mb,i,none⟩=false:=fun i=>zg e1
   have ye:w6.cell? ⟨mb+1,0,none⟩=some .nilIface:=(za e2).trans rfl
   have ze:w6.frozen? ⟨mb+1,0,none⟩=false:=zg e2
   simp only [m0]at y
   go_wp2_with fail
   obtain⟨wd,hwd⟩:∃ wd,wd=(((((w6.setCell ⟨mb,0,none⟩ (.string (bs m.name))).setCell ⟨mb,1,none⟩ (.slice ia m.imports.length ic)).setCell ⟨mb,2,none⟩ (.slice ga m.vars.length gc)).setCell ⟨mb,3,none⟩ (.slice pa m.procs.length pc)).setCell ⟨mb,4,none⟩ (.slice ba m.body.length bc)).setCell ⟨mb+1,0,none⟩ .nilIface:=⟨_,rfl⟩
   have a1:=zw 4 (.slice ba m.body.length bc) (zw 3 (.slice pa m.procs.length pc) (zw 2 (.slice ga m.vars.length gc) (zw 1 (.slice ia m.imports.length ic) (zw 0 (.string (bs m.name)) e1))))
   have hx:∀ b,b≠mb->b≠mb+1->wd.heap[b]?=w6.heap[b]?:=by
    intro b h1 h2
    rw[hwd,Below.heap_setCell _ _ _ _ (by simpa using h2),Below.heap_setCell _ _ _ _ (by simpa using h1),Below.heap_setCell _ _ _ _ (by simpa using h1),Below.heap_setCell _ _ _ _ (by simpa using h1),Below.heap_setCell _ _ _ _ (by simpa using h1),Below.heap_setCell _ _ _ _ (by simpa using h1)]
   have hk1:wd.heap[mb]?=some (.cells (mcells (bs m.name) (.slice ia m.imports.length ic) (.slice ga m.vars.length gc) (.slice pa m.procs.length pc) (.slice ba m.body.length bc)) 29 (0,0)):=by
    rw[hwd,Below.heap_setCell _ _ _ _ (by simp)];exact a1
   have hk2:wd.cell? ⟨mb+1,0,none⟩=some .nilIface:=by
    rw[hwd]
    have b1:(((((w6.setCell ⟨mb,0,none⟩ (.string (bs m.name))).setCell ⟨mb,1,none⟩ (.slice ia m.imports.length ic)).setCell ⟨mb,2,none⟩ (.slice ga m.vars.length gc)).setCell ⟨mb,3,none⟩ (.slice pa m.procs.length pc)).setCell ⟨mb,4,none⟩ (.slice ba m.body.length bc)).heap[mb+1]?=some (.cells #[.nilIface] 31 (0,0)):=by
     rw[Below.heap_setCell _ _ _ _ (by simp),Below.heap_setCell _ _ _ _ (by simp),Below.heap_setCell _ _ _ _ (by simp),Below.heap_setCell _ _ _ _ (by simp),Below.heap_setCell _ _ _ _ (by simp)]
     exact e2
    exact(za (zw 0 .nilIface b1)).trans rfl
   have hbd:Below mb w6 wd:=by rw[hwd];exact zq (j8 w6 mb _ _ _ _ _) (by simp) 0 _
   have k1:∀ i,wd.cell? ⟨mb,i,none⟩=(mcells (bs m.name) (.slice ia m.imports.length ic) (.slice ga m.vars.length gc) (.slice pa m.procs.length pc) (.slice ba m.body.length bc))[i]?:=fun i=>za hk1
   rw[<-hwd]
   have hfin:Below w.heap.size w wd/\ParseP w l (.returned (.tuple #[.agg (mcells (bs m.name) (.slice ia m.imports.length ic) (.slice ga m.vars.length gc) (.slice pa m.procs.length pc) (.slice ba m.body.length bc)),.nilIface])) wd:=by
    rw[HMB.out]
    refine⟨(HB0.out.trans (hb6.mono (by omega))).trans hbd,?_⟩
    unfold ParseP
    rw[HP.out,HMB.out]
    exact⟨_,rfl,HVR.out.mono (by omega) (fun b h1 h2=>hx b (by omega) (by omega))⟩
   clear hwd a1 hx hk1 hbd
   simp only [mcells]at k1 hfin
   refine leaves_cons (f:=20) (args:=#[.pointer (some ⟨mb,0,none⟩),.pointer (some ⟨mb+1,0,none⟩)]) (by simp) (by simp[go_sem]) ?_
   refine(jU ⟨mb,0,none⟩ ⟨mb+1,0,none⟩ wd).mono ?_
   rintro e u' w'' ⟨rfl,rfl,rfl⟩
   simp[Leaves,settle,results,Tryz.results6,go_sem,k1,hk2]
   exact hfin
end Go.Proofs.YtmocelfkmdpogaaGreatDoor
namespace Go.Proofs.YtmocelfkmdpogaaGreatDoor
open Go.RowKit
open Tp (X S G Pr)
theorem yn (l:List UInt8):(bs l).size=l.length:=by simp[bs,ByteArray.size]
theorem bs_back (l:List UInt8):(bs l).data.toList=l:=by simp[bs]
theorem uU {w:World}{b:Nat}{v0 v1 v2 v3 v4:Value}{t:TypeId}(h:w.heap[b]?=some (.cells #[v0,v1,v2,v3,v4] t (0,0))):w.cell? ⟨b,0,none⟩=some v0/\w.cell? ⟨b,1,none⟩=some v1/\w.cell? ⟨b,2,none⟩=some v2/\w.cell? ⟨b,3,none⟩=some v3/\w.cell? ⟨b,4,none⟩=some v4 :=
 ⟨(za h).trans rfl,(za h).trans rfl,(za h).trans rfl,(za h).trans rfl,(za h).trans rfl⟩
theorem qJ:∀(l:List G) (i:Nat) (h:i<l.length) (j:Nat),j<4->(gcs l)[i * 4+j]?=(gcells (bs l[i].name) (l[i].pos:Int) (l[i].len:Int) l[i].seen).toList[j]?:=by
 intro l
 induction l with
 | nil=>intro i h;simp at h
 | cons g l ih =>
  intro i h j hj
  have e:gcs (g :: l)=(gcells (bs g.name) (g.pos:Int) (g.len:Int) g.seen).toList++gcs l:=rfl
  rw[e]
  cases i with
  | zero=>rw[Nat.zero_mul,Nat.zero_add,List.getElem?_append_left (by simpa[gcells] using hj)];rfl
  | succ i =>
   rw[List.getElem?_append_right (by simp[gcells];omega)]
   have:(i+1) * 4+j - (gcells (bs g.name) (g.pos:Int) (g.len:Int) g.seen).toList.length=i * 4+j:=by simp[gcells];omega
   rw[this,ih i (by simpa using h) j hj]
   rfl
theorem jl {w:World}{D:Nat->Prop}:∀(l:List Pr) (cs:List Value),RepP w D l cs->∀(i:Nat) (h:i<l.length),∃(pv vv bv:Value) (bcs:List Value),
  (∀ j,j<6->cs[i * 6+j]?=(pcells (bs l[i].name) (l[i].pos:Int) l[i].seen pv vv bv).toList[j]?)/\Row w D 9 1 pv l[i].params.length (strs l[i].params)/\Row w D 9 1 vv l[i].vars.length (strs l[i].vars)/\RepS w D l[i].body bcs/\OwnS w D bv l[i].body.length bcs:=by
 intro l
 induction l with
 | nil=>intro cs _ i h;simp at h
 | cons c l ih =>
  intro cs hr i h
  obtain⟨pv,vv,bv,bcs,cs',h1,h2,h3,h4,h5,h6⟩:=hr
  subst h1
  cases i with
  | zero =>
   refine⟨pv,vv,bv,bcs,fun j hj=>?_,h2,h3,h4,h5⟩
   rw[Nat.zero_mul,Nat.zero_add,List.getElem?_append_left (by simpa[pcells] using hj)]
   rfl
  | succ i =>
   obtain⟨pv',vv',bv',bcs',q1,q2⟩:=ih cs' h6 i (by simpa using h)
   refine⟨pv',vv',bv',bcs',fun j hj=>?_,q2⟩
   rw[List.getElem?_append_right (by simp[pcells];omega)]
   have:(i+1) * 6+j - (pcells (bs c.name) (c.pos:Int) c.seen pv vv bv).toList.length=i * 6+j:=by simp[pcells];omega
   rw[this,q1 j hj]
   rfl
theorem yw {w:World}{D:Nat->Prop}{e size n:Nat}{v:Value}{cs:List Value}(h:Row w D e size v n cs) (hn:0<n):∃ g cap,v=.slice (some ⟨g,0,none⟩) n cap/\D g/\g<w.heap.size/\∀ k,k<n * size->w.cell? ⟨g,k,none⟩=cs[k]?:=by
 rcases h with⟨_,h2,_⟩|⟨g,cap,cur,h1,h2,h3,h4,h5,h6,h7⟩
 ·omega
 ·refine⟨g,cap,h1,h2,zi h3,fun k hk=>?_⟩
  rw[za h3,<-Array.getElem?_toList,<-h7,List.getElem?_take_of_lt hk]
structure MB (w:World) (B:Nat) (m:Tp.M) (ia ga pa ba:Option Addr) (ic gc pc bc:Nat):Prop where
 im:Row w (fun i=>i<B) 9 1 (.slice ia m.imports.length ic) m.imports.length (strs m.imports)
 gl:Row w (fun i=>i<B) 118 4 (.slice ga m.vars.length gc) m.vars.length (gcs m.vars)
 pr:∃ pcs,RepP w (fun i=>i<B) m.procs pcs/\Row w (fun i=>i<B) 79 6 (.slice pa m.procs.length pc) m.procs.length pcs
 bd:∃ bcs,RepS w (fun i=>i<B) m.body bcs/\OwnS w (fun i=>i<B) (.slice ba m.body.length bc) m.body.length bcs
theorem VM.mb {B:Nat}{m:Tp.M}{v:Value}{w:World}(h:VM B m v w):∃ ia ga pa ba ic gc pc bc,v=.agg (mcells (bs m.name) (.slice ia m.imports.length ic) (.slice ga m.vars.length gc) (.slice pa m.procs.length pc) (.slice ba m.body.length bc))/\MB w w.heap.size m ia ga pa ba ic gc pc bc:=by
 obtain⟨ia,ga,pa,ba,ic,gc,pc,bc,pcs,bcs,h1,h2,h3,h4,h5,h6,h7⟩:=h
 refine⟨ia,ga,pa,ba,ic,gc,pc,bc,h1,⟨h2.mono fun _ _ hl=>⟨rfl,hl⟩,h3.mono fun _ _ hl=>⟨rfl,hl⟩,⟨pcs,h4.mono (fun _ _ hl=>⟨rfl,hl⟩) _ _,h5.mono fun _ _ hl=>⟨rfl,hl⟩⟩,⟨bcs,h6.mono' fun _ _ hl=>⟨rfl,hl⟩,h7.mono fun _ _ hl=>⟨rfl,hl⟩⟩⟩⟩
theorem MB.on {w w':World}{B:Nat}{m:Tp.M}{ia ga pa ba:Option Addr}{ic gc pc bc:Nat}(h:MB w B m ia ga pa ba ic gc pc bc) (k:Below B w w'):MB w' B m ia ga pa ba ic gc pc bc:=by
 have hk:∀ b,b<B->b<w.heap.size->w'.heap[b]?=w.heap[b]?/\b<B:=fun b hi _=>⟨k.block b hi,hi⟩
 obtain⟨pcs,p1,p2⟩:=h.pr
 obtain⟨bcs,b1,b2⟩:=h.bd
 exact⟨h.im.mono hk,h.gl.mono hk,⟨pcs,p1.mono hk _ _,p2.mono hk⟩,⟨bcs,b1.mono' hk,b2.mono hk⟩⟩
theorem MB.up {w w':World}{m:Tp.M}{ia ga pa ba:Option Addr}{ic gc pc bc:Nat}(h:MB w w.heap.size m ia ga pa ba ic gc pc bc) (k:Below w.heap.size w w'):MB w' w'.heap.size m ia ga pa ba ic gc pc bc:=by
 have hk:∀ b,b<w.heap.size->b<w.heap.size->w'.heap[b]?=w.heap[b]?/\b<w'.heap.size:=fun b hi _=>⟨k.block b hi,Nat.lt_of_lt_of_le hi k.size⟩
 obtain⟨pcs,p1,p2⟩:=h.pr
 obtain⟨bcs,b1,b2⟩:=h.bd
 exact⟨h.im.mono hk,h.gl.mono hk,⟨pcs,p1.mono hk _ _,p2.mono hk⟩,⟨bcs,b1.mono' hk,b2.mono hk⟩⟩
end Go.Proofs.YtmocelfkmdpogaaGreatDoor
namespace Go.Proofs.YtmocelfkmdpogaaGreatDoor
open Go.RowKit
structure Exact (v v':Value) (w w':World):Prop where
 size:w.heap.size<=w'.heap.size
 block:∀ k,k<w.heap.size->v.ownBlock≠some k->w'.heap[k]?=w.heap[k]?
 lies:∀ g,v'.ownBlock=some g->v.ownBlock=some g\/w.heap.size<=g
theorem Exact.of {v v':Value}{w w':World}(h:w.grownBy w' v.ownBlock) (hw:∀ g,v'.ownBlock=some g->v.ownBlock=some g\/w.heap.size<=g):Exact v v' w w' :=
 ⟨h.size,fun k hk hn=>h.block k hk (fun e=>hn e.symm),hw⟩
theorem yd {P:Program}(w:World) (base:Nat) (t u ty e:TypeId) (i:TypeInfo) (ht:P.underlying t=some (.slice e)) (hu:P.underlying u=some .string) (hi:P.info? e=some i) (hz:i.zero=some (.int .u8 0))
  (hsize:i.size=1) (hby:i.bytes=1) (v:Value) (n:Nat) (xs:List Value) (hown:w.ownsRow base e 1 v n xs) (s:ByteArray)
  (h63:n+s.size<=maxLen) (hbytes:n+s.size<=140737488355328) (hbase:base<=w.heap.size) :
  ∃ v' w',(Builtin.append_ #[t,u] ty #[v,.string s]).run P w=.ok v' w'/\w'.ownsRow base e 1 v' (n+s.size) (xs++Lib.strCells s)/\w.grownBy w' v.ownBlock/\Exact v v' w w':=by
 obtain⟨v',w',r1,r2,r3,_⟩:=Lib.run_append_own_string (P:=P) w base t u ty e i ht hu hi hz hsize hby v n xs hown s h63 hbytes hbase
 refine⟨v',w',r1,r2,r3,Exact.of r3 ?_⟩
 rcases hown.2 with⟨rfl,rfl⟩|⟨g,cap,cur,rfl,q1,q2,q3,q4,q5,q6⟩
 ·have hx:xs=[]:=List.eq_nil_of_length_eq_zero (by simpa using hown.1)
  subst hx
  obtain⟨v2,w2,s1,s2,_⟩:=Lib.run_append_own_string (P:=P) w w.heap.size t u ty e i ht hu hi hz hsize hby (.slice none 0 0) 0 [] (World.ownsRow_nil _ _ _ _) s h63 hbytes zn
  rw[r1]at s1
  cases s1
  intro g hg
  exact Or.inr (zL s2 g hg)
 ·by_cases hroom:n+s.size<=cap
  ·have s1:=Lib.run_append_room_string (P:=P) w t u ty e i ht hu hi hsize g n cap cur q2 s hroom (by omega)
   rw[r1]at s1
   cases s1
   intro g' hg
   exact Or.inl hg
  ·have s1:=Lib.run_append_grow_string (P:=P) w t u ty e i (.int .u8 0) ht hu hi hz ⟨g,0,none⟩ n cap xs (by rw[hsize];exact hown.1) (hown.cells (g:=g) rfl) s (by omega) (by unfold maxLen at h63;omega) (by rw[hby];exact growslice_fits (by omega) (by omega))
   rw[r1]at s1
   cases s1
   intro g' hg
   simp[Value.ownBlock]at hg
   exact Or.inr (by omega)
theorem zW {P:Program}(w:World) {ops:Array Oper}{rest:List Oper}{o:Oper}{a:Act}{Q:Exit->Act->World->Prop}(hgd:o.guard=none) (sl x:Operand) (t u:TypeId)
  (ho:o.op=.call { callee:=.builtin .append,args:=#[sl,x],argTypes:=#[t,u] })
  (base:Nat) (e:TypeId) (i:TypeInfo) (ht:P.underlying t=some (.slice e)) (hu:P.underlying u=some .string) (hi:P.info? e=some i) (hz:i.zero=some (.int .u8 0))
  (hsize:i.size=1) (hby:i.bytes=1)
  (v:Value) (n:Nat) (xs:List Value) (hs:a.eval sl=v) (hown:w.ownsRow base e 1 v n xs) (s:ByteArray) (hx:a.eval x=.string s)
  (h63:n+s.size<=maxLen) (hbytes:n+s.size<=140737488355328) (hbase:base<=w.heap.size)
  (h:∀ v' w',w'.ownsRow base e 1 v' (n+s.size) (xs++Lib.strCells s)->w.grownBy w' v.ownBlock->Exact v v' w w'->wpList P ops Q rest (a.put o.dst v') w'):wpList P ops Q (o :: rest) a w:=by
 refine wpList_plain hgd fun K hK=>?_
 obtain⟨v',w',r1,r2,r3,r4⟩:=yd (P:=P) w base t u o.type e i ht hu hi hz hsize hby v n xs hown s h63 hbytes hbase
 unfold Oper.wp
 simp[execOp,ho,resolve,invoke,builtin,hs,hx,r1,Result.andThen]
 exact hK _ _ (h v' w' r2 r3 r4)
theorem Tryz.infoU8:(Tryz.prog.info? 5).map (fun i=>(i.zero,i.size,i.bytes))=some (some (.int .u8 0),1,1):=by kernel_rfl
def u8s (l:List UInt8):List Value:=l.map fun b=>Value.int .u8 b.toNat
variable {kk:Nat->Prop}
structure Buf (kk:Nat->Prop) (w:World) (B:Nat) (v:Value) (l:List UInt8):Prop where
 own:w.ownsRow B 5 1 v l.length (u8s l)
 le:B<=w.heap.size
 kp:∀ k,kk k->k<w.heap.size/\v.ownBlock≠some k
theorem kB (a b:List UInt8):u8s (a++b)=u8s a++u8s b:=by simp[u8s]
theorem Buf.nil (w:World) (B:Nat) (h:B<=w.heap.size) (hk:∀ k,kk k->k<w.heap.size):Buf kk w B (.slice none 0 0) []:=⟨World.ownsRow_nil _ _ _ _,h,fun k h=>⟨hk k h,by simp[Value.ownBlock]⟩⟩
theorem Buf.below {w w':World}{B:Nat}{v:Value}{l:List UInt8}(h:Buf kk w B v l) (k:Below w.heap.size w w'):Buf kk w' B v l:=⟨yj h.1 k,Nat.le_trans h.2 k.size,fun i hi=>⟨Nat.lt_of_lt_of_le (h.kp i hi).1 k.size,(h.kp i hi).2⟩⟩
structure Bw (kk:Nat->Prop) (B:Nat) (w w':World):Prop extends Below B w w' where
 oth:Lib.OthersKept 5 none w w'
 kp:∀ k,kk k->k<w.heap.size->w'.heap[k]?=w.heap[k]?
theorem Bw.refl (B:Nat) (w:World):Bw kk B w w:=⟨Below.refl _ _,Lib.OthersKept.refl _ _ _,fun _ _ _=>rfl⟩
theorem Bw.trans {B:Nat}{w1 w2 w3:World}(h:Bw kk B w1 w2) (k:Bw kk B w2 w3):Bw kk B w1 w3:=⟨h.toBelow.trans k.toBelow,h.oth.trans k.oth,fun i hi hl=>(k.kp i hi (Nat.lt_of_lt_of_le hl h.size)).trans (h.kp i hi hl)⟩
theorem Bw.of {B:Nat}{w w':World}(h:Below w.heap.size w w') (hB:B<=w.heap.size):Bw kk B w w' :=
 ⟨h.mono hB,fun k o hk _ _=>by rw[h.block k (Array.getElem?_eq_some_iff.1 hk).1];exact hk,fun k _ hk=>h.block k hk⟩
theorem Bw.keeps {B b:Nat}{w w':World}{cs:Array Value}{t:TypeId}{q:Nat× Nat}(h:Bw kk B w w') (hb:w.heap[b]?=some (.cells cs t q)) (ht:t≠5):w'.heap[b]?=some (.cells cs t q) :=
 h.oth b _ hb (by simp) (fun c fz e=>by cases e;exact ht rfl)
theorem Buf.grown {w w':World}{B:Nat}{v:Value}{l:List UInt8}(h:Buf kk w B v l) (k:w.grownBy w' v.ownBlock):Bw kk B w w' :=
 ⟨(Below.refl _ _).grown k h.2 (zL h.1),(Lib.OthersKept.refl _ _ _).grown k (fun g hg=>by
  rcases h.1.2 with⟨rfl,_⟩|⟨g',cap,cur,rfl,_,q2,_⟩
  ·cases hg
  ·cases hg;exact⟨_,_,q2⟩),fun i hi hl=>k.block i hl (fun e=>(h.kp i hi).2 e.symm)⟩
theorem Buf.next {w w':World}{B:Nat}{v v':Value}{l l':List UInt8}(h:Buf kk w B v l) (k:Exact v v' w w') (ho:w'.ownsRow B 5 1 v' l'.length (u8s l')):Buf kk w' B v' l' :=
 ⟨ho,Nat.le_trans h.2 k.size,fun i hi=>⟨Nat.lt_of_lt_of_le (h.kp i hi).1 k.size,fun e=>(k.lies i e).elim (h.kp i hi).2 (Nat.not_le.2 (h.kp i hi).1)⟩⟩
def Wrote (kk:Nat->Prop) (B:Nat) (w:World) (l:List UInt8) (e:Ending) (w':World):Prop:=∃ v',e=.returned v'/\Buf kk w' B v' l/\Bw kk B w w'
end Go.Proofs.YtmocelfkmdpogaaGreatDoor
namespace Go.Proofs.YtmocelfkmdpogaaGreatDoor
open Go.RowKit
variable {kk:Nat->Prop}
theorem kA {ops:Array Oper}{rest:List Oper}{o:Oper}{a:Act}{Q:Exit->Act->World->Prop}(hgd:o.guard=none) (sl x:Operand)
  (ho:o.op=.call { callee:=.builtin .append,args:=#[sl,x],argTypes:=#[98,9] })
  {w:World} {B:Nat} {v:Value} {l:List UInt8} (hb:Buf kk w B v l) (s:List UInt8) (hs:a.eval sl=v) (hx:a.eval x=.string (bs s)) (hl:l.length+s.length<=2000000000)
  (h:∀ v' w',Buf kk w' B v' (l++s)->Bw kk B w w'->wpList Tryz.prog ops Q rest (a.put o.dst v') w'):wpList Tryz.prog ops Q (o :: rest) a w:=by
 obtain⟨i0,hi0,hz0,hz1,hz2⟩:=info_parts Tryz.infoU8
 refine zW w hgd sl x 98 9 ho B 5 i0 Tryz.underlying98 Tryz.underlying9 hi0 hz0 hz1 hz2 v l.length (u8s l) hs hb.1 (bs s) hx (by rw[yn];unfold maxLen;omega) (by rw[yn];omega) hb.2 ?_
 intro v' w' h1 h2 h4
 refine h v' w' (hb.next h4 ?_) (hb.grown h2)
 rw[kB,List.length_append,<-yn s]
 exact h1
theorem jJ {ops:Array Oper}{rest:List Oper}{o:Oper}{a:Act}{Q:Exit->Act->World->Prop}(hgd:o.guard=none) (sl x:Operand)
  (ho:o.op=.call { callee:=.builtin .append,args:=#[sl,x],argTypes:=#[98,98] })
  {w:World} {B:Nat} {v:Value} {l:List UInt8} (hb:Buf kk w B v l) (c:UInt8) (n:Int) (hn:n=c.toNat) (hs:a.eval sl=v) (hx:a.eval x=.slice (some ⟨w.heap.size,0,none⟩) 1 1) (hl:l.length+1<=2000000000)
  (h:∀ v' w',Buf kk w' B v' (l++[c])->Bw kk B w w'->wpList Tryz.prog ops Q rest (a.put o.dst v') w'):wpList Tryz.prog ops Q (o :: rest) a (w.alloc (.cells #[.int .u8 n] 5)):=by
 subst hn
 obtain⟨i0,hi0,hz0,hz1,hz2⟩:=info_parts Tryz.infoU8
 have hb1:Buf kk (w.alloc (.cells #[.int .u8 (c.toNat:Int)] 5)) B v l:=hb.below (zb _ _)
 refine zC _ hgd sl x 98 ho B 5 i0 (.int .u8 0) 1 1 Tryz.underlying98 hi0 hz0 hz1 hz2 rfl (by decide) v l.length (u8s l) hs hb1.1 ⟨w.heap.size,0,none⟩ 1 1 [.int .u8 (c.toNat:Int)] hx rfl ?c1 ?c2 ?c3 ?c4 ?c5 ?_
 case c1 =>
  intro j u hj
  rw[Addr.add_lit,za (zk _ _),Nat.zero_add]
  simpa using hj
 case c2=>intro u hu;simp at hu;subst hu;rfl
 case c3=>unfold maxLen;omega
 case c4=>omega
 case c5=>exact hb1.2
 intro v' w' h1 h2 h4
 have h3:=hb1.grown h2
 refine h v' w' (hb1.next (Exact.of h2 h4) ?_) ((Bw.of (zb _ _) hb.2).trans h3)
 rw[kB,List.length_append]
 exact h1
end Go.Proofs.YtmocelfkmdpogaaGreatDoor
