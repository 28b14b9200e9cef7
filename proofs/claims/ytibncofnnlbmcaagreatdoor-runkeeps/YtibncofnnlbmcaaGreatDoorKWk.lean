import Derived.Test.YtibncofnnlbmcaaGreatDoorKWj
import Derived.Test.YtibncofnnlbmcaaGreatDoorKPc
import Derived.Lib.Hide
import Derived.Lib.AppendStr
import Derived.Lib.OthersKept
import Derived.Shelf.Strconv.AppendIntPublic10
set_option maxRecDepth 100000
set_option maxHeartbeats 4000000
namespace Go.Proofs.YtibncofnnlbmcaaGreatDoor
open Go.RowKit
open Tp (Tok hd tx at' stp X S G Pr)
theorem toks_of {w:World}{m d n cap:Nat}{a:List Tok}(h:w.ownsRow m 125 3 (.slice (some ⟨d,0,none⟩) n cap) a.length (tksC a)):n=a.length/\m<=d/\d<w.heap.size/\∀i t,a[i]?=some t->TokAt w d i t:=by
 rcases h.2 with⟨q,_⟩|⟨g,c,cur,q0,q1,q2,q3,q4,q5,q6⟩
 ·cases q
 ·cases q0
  refine⟨rfl,q1,zf q2,fun i t b=>?_⟩
  have r:i<a.length:=by rw[List.getElem?_eq_some_iff]at b;exact b.1
  have f:∀j,j<3->w.cell? ⟨d,i*3+j,none⟩=(tksC a)[i*3+j]?:=by
   intro j o
   rw[za q2,<-Array.getElem?_toList,<-q6,List.getElem?_take_of_lt (by omega)]
  have k:∀(l:List Tok) (i j:Nat) (t:Tok),l[i]?=some t->j<3->(tksC l)[i*3+j]?=(tcells t)[j]?:=by
   intro l
   induction l with
   |nil=>intro i j t h;cases h
   |cons u l ih =>
    intro i j t h o
    have e:tksC (u :: l)=tcells u++tksC l:=by simp[tksC]
    have p:(tcells u).length=3:=by simp[tcells]
    rw[e]
    cases i with
    |zero=>simp at h;subst h;rw[List.getElem?_append_left (by omega)];simp
    |succ i =>
     rw[List.getElem?_append_right (by omega),p,show (i+1)*3+j-3=i*3+j by omega]
     exact ih i j t (by simpa using h) o
  refine⟨?_,?_,?_⟩
  ·have:=f 0 (by omega);rw[k a i 0 t b (by omega)]at this;simpa[tcells] using this
  ·have:=f 1 (by omega);rw[k a i 1 t b (by omega)]at this;simpa[tcells] using this
  ·have:=f 2 (by omega);rw[k a i 2 t b (by omega)]at this;simpa[tcells] using this
theorem Ext.toBelow {b B:Nat}{w w':World}(h:Ext b w w')(c:B<=b)(a:B<=w.heap.size):Below B w w':=⟨h.os,h.tape,h.output,h.size,fun k d=>h.block k (by omega) (by omega)⟩
theorem VM.mono {w w':World}{B B':Nat}{m:Tp.M}{v:Value}(h:VM B m v w)(A:B'<=B)(s:∀b,B<=b->b<w.heap.size->w'.heap[b]?=w.heap[b]?):VM B' m v w':=by
 obtain⟨u,g,y,e,x,i,z,f,d,c,j,k,l,n,o,p,q⟩:=h
 have a:∀b,B<=b->b<w.heap.size->w'.heap[b]?=w.heap[b]?/\B'<=b:=fun b r t=>⟨s b r t,by omega⟩
 exact⟨u,g,y,e,x,i,z,f,d,c,j,k.mono a,l.mono a,RepP.mono a _ _ n,o.mono a,p.mono' a,q.mono a⟩
def ParseP (w:World) (l:List UInt8) (e:Ending) (w':World):Prop :=
 match Tp.parse l with
 | .ok m=>∃v,e=.returned (.tuple #[v,.nilIface])/\VM w.heap.size m v w'
 | .error er=>∃ab,e=.returned (.tuple #[.agg m0,.iface 117 (.pointer (some ⟨ab,0,none⟩))])/\w.heap.size<=ab/\w'.cell? ⟨ab,0,none⟩=some (.int .i64 (er.1:Int))/\w'.cell? ⟨ab,1,none⟩=some (.int .i64 (er.2:Int))
theorem cells5 {w:World}{b:Nat}{c d e f g:Value}{t:Nat}(h:w.heap[b]?=some (.cells #[c,d,e,f,g] t (0,0))):∀i,i<5->(w.cell? ⟨b,i,none⟩).isSome=true:=by
 intro i a
 rw[za h]
 match i,a with
 | 0,_=>rfl
 | 1,_=>rfl
 | 2,_=>rfl
 | 3,_=>rfl
 | 4,_=>rfl
def late (w:World) (mb eb ab:Nat):World:=(((((w.setCell ⟨mb,0,none⟩ (.string ⟨#[]⟩)).setCell ⟨mb,1,none⟩ (.slice none 0 0)).setCell ⟨mb,2,none⟩ (.slice none 0 0)).setCell ⟨mb,3,none⟩ (.slice none 0 0)).setCell ⟨mb,4,none⟩ (.slice none 0 0)).setCell ⟨eb,0,none⟩ (.iface 117 (.pointer (some ⟨ab,0,none⟩)))
theorem late_below (w:World)(a b:Nat):Below a w (late w a (a+1) b):=zq (jj w a _ _ _ _ _) (by simp) 0 _
theorem vV {w:World}{a c b j:Nat}(d:a+1<b):(late w a (a+1) c).cell? ⟨b,j,none⟩=w.cell? ⟨b,j,none⟩:=by
 refine World.cell?_of_block (w:=w) ?_
 unfold late
 rw[Below.heap_setCell _ _ _ _ (by simp;omega),Below.heap_setCell _ _ _ _ (by simp;omega),Below.heap_setCell _ _ _ _ (by simp;omega),Below.heap_setCell _ _ _ _ (by simp;omega),Below.heap_setCell _ _ _ _ (by simp;omega),Below.heap_setCell _ _ _ _ (by simp;omega)]
theorem late_blk {w:World}{a b:Nat}(f:w.heap[a]?=some (.cells m0 36 (0,0)))(g:w.heap[a+1]?=some (.cells #[.nilIface] 38 (0,0))):(∀i,(late w a (a+1) b).cell? ⟨a,i,none⟩=m0[i]?)/\(late w a (a+1) b).cell? ⟨a+1,0,none⟩=some (.iface 117 (.pointer (some ⟨b,0,none⟩))):=by
 have c:=zu 4 (.slice none 0 0) (zu 3 (.slice none 0 0) (zu 2 (.slice none 0 0) (zu 1 (.slice none 0 0) (zu 0 (.string ⟨#[]⟩) f))))
 have d:=(Below.heap_setCell (((((w.setCell ⟨a,0,none⟩ (.string ⟨#[]⟩)).setCell ⟨a,1,none⟩ (.slice none 0 0)).setCell ⟨a,2,none⟩ (.slice none 0 0)).setCell ⟨a,3,none⟩ (.slice none 0 0)).setCell ⟨a,4,none⟩ (.slice none 0 0)) ⟨a+1,0,none⟩ (.iface 117 (.pointer (some ⟨b,0,none⟩))) a (by simp)).trans c
 refine⟨fun i=>(za d).trans rfl,?_⟩
 unfold late
 have e:(((((w.setCell ⟨a,0,none⟩ (.string ⟨#[]⟩)).setCell ⟨a,1,none⟩ (.slice none 0 0)).setCell ⟨a,2,none⟩ (.slice none 0 0)).setCell ⟨a,3,none⟩ (.slice none 0 0)).setCell ⟨a,4,none⟩ (.slice none 0 0)).heap[a+1]?=some (.cells #[.nilIface] 38 (0,0)):=by
  rw[Below.heap_setCell _ _ _ _ (by simp),Below.heap_setCell _ _ _ _ (by simp),Below.heap_setCell _ _ _ _ (by simp),Below.heap_setCell _ _ _ _ (by simp),Below.heap_setCell _ _ _ _ (by simp)]
  exact g
 exact(za (zu 0 (.iface 117 (.pointer (some ⟨b,0,none⟩))) e)).trans rfl
theorem yD (w:World)(l:List UInt8)(hl:l.length<=100000)(b2:Mk w)(b0:Lv w) :
  Calls Tryz.prog 9 #[.string (bs l)] w fun e w'=>Below w.heap.size w w'/\ParseP w l e w':=by
 have f6:=zm
 obtain⟨a,a2⟩:∃a,a=w.heap.size:=⟨_,rfl⟩
 have c9:=b2.1
 have c8:=b0.1
 go_enter_defers Tryz.func9,Tryz.ntmps9
 go_wp2_with fail
 have R:Below w.heap.size w ((w.alloc (.cells #[.string ⟨#[]⟩,.slice none 0 0,.slice none 0 0,.slice none 0 0,.slice none 0 0] 36)).alloc (.cells #[.nilIface] 38)):=(zb _ _).alloc (by simp) _
 have b8:((w.alloc (.cells #[.string ⟨#[]⟩,.slice none 0 0,.slice none 0 0,.slice none 0 0,.slice none 0 0] 36)).alloc (.cells #[.nilIface] 38)).heap.size=w.heap.size+2:=by simp
 have U:((w.alloc (.cells #[.string ⟨#[]⟩,.slice none 0 0,.slice none 0 0,.slice none 0 0,.slice none 0 0] 36)).alloc (.cells #[.nilIface] 38)).heap[w.heap.size]?=some (.cells #[.string ⟨#[]⟩,.slice none 0 0,.slice none 0 0,.slice none 0 0,.slice none 0 0] 36 (0,0)):=(Below.heap_alloc _ _ _ (by simp)).trans (zo _ _)
 have T:((w.alloc (.cells #[.string ⟨#[]⟩,.slice none 0 0,.slice none 0 0,.slice none 0 0,.slice none 0 0] 36)).alloc (.cells #[.nilIface] 38)).heap[w.heap.size+1]?=some (.cells #[.nilIface] 38 (0,0)):=by
  have:=zo (w.alloc (.cells #[.string ⟨#[]⟩,.slice none 0 0,.slice none 0 0,.slice none 0 0,.slice none 0 0] 36)) (.cells #[.nilIface] 38)
  simpa using this
 generalize ((w.alloc (.cells #[.string ⟨#[]⟩,.slice none 0 0,.slice none 0 0,.slice none 0 0,.slice none 0 0] 36)).alloc (.cells #[.nilIface] 38))=w1 at R b8 U T ⊢
 have e0:=b2.below R c9
 have d9:=b0.below R c8
 have f5:1<a:=by omega
 have f4:3<a:=by omega
 have Q:a+2<=w1.heap.size:=by omega
 have b9:Hid (Below a w w1):=by rw[a2];exact R
 have a0:Hid (w.heap.size=a):=a2.symm
 rw[<-a2]at U T ⊢
 clear R b8 c9 c8 b2 b0 a2
 have b5:Hid (∀(h:World) (er:Tp.Er) (d:Nat),Below (a+2) w1 h->a+2<=d->h.cell? ⟨d,0,none⟩=some (.int .i64 (er.1:Int))->h.cell? ⟨d,1,none⟩=some (.int .i64 (er.2:Int))->Tp.parse l=.error er ->
   Below w.heap.size w (late h a (a+1) d)/\ParseP w l (.returned (.tuple #[.agg m0,.iface 117 (.pointer (some ⟨d,0,none⟩))])) (late h a (a+1) d)):=by
  intro h er d C h2 h3 h4 h5
  rw[a0.out]
  refine⟨(b9.out.trans (C.mono (by omega))).trans (late_below h a d),?_⟩
  unfold ParseP
  rw[h5,a0.out]
  exact⟨d,rfl,by omega,(vV (by omega)).trans h3,(vV (by omega)).trans h4⟩
 have c3:Hid (∀h,Below (a+2) w1 h->(∀i,i<5->(h.cell? ⟨a,i,none⟩).isSome=true)/\(∀i,h.frozen? ⟨a,i,none⟩=false)/\(h.cell? ⟨a+1,0,none⟩).isSome=true/\h.frozen? ⟨a+1,0,none⟩=false):=by
  intro h W
  have N:=(W.block a (by omega)).trans U
  have O:=(W.block (a+1) (by omega)).trans T
  exact⟨cells5 N,fun i=>zi N,by rw[za O];rfl,zi O⟩
 have c4:Hid (∀h d,Below (a+2) w1 h->(∀i,(late h a (a+1) d).cell? ⟨a,i,none⟩=m0[i]?)/\(late h a (a+1) d).cell? ⟨a+1,0,none⟩=some (.iface 117 (.pointer (some ⟨d,0,none⟩)))):=by
  intro h d W
  exact late_blk ((W.block a (by omega)).trans U) ((W.block (a+1) (by omega)).trans T)
 refine(scan_post w1 l hl e0).mono ?_
 rintro e k⟨S,L⟩
 unfold ScanP at L
 generalize a3:SC 0 0 l=res at L
 have e3:=S.size
 rcases res with er|tks
 ·obtain⟨d,q1,rfl,q2,q3⟩:=L.out
  have HP:Hid (Tp.parse l=.error er):=by show _=_;unfold Tp.parse;rw[show Tp.scan (l.length+1) 0 0 l=.error er from a3];rfl
  clear a3
  go_wp2_with fail
  obtain⟨c0,z0,ce,ze⟩:=c3.out k (S.mono Q)
  refine leaves_cons (f:=28) (args:=#[.pointer (some ⟨a,0,none⟩),.pointer (some ⟨a+1,0,none⟩)]) (by simp) (by simp[go_sem]) ?_
  refine(kj a (a+1) d [] k c0 z0 ce ze (by omega)).mono ?_
  rintro e u' a5⟨rfl,rfl,X⟩
  have I:=b5.out k er d (S.mono Q) (by omega) q2 q3 HP.out
  obtain⟨s,Y⟩:=c4.out k d (S.mono Q)
  have V:a5=late k a (a+1) d:=X
  rw[<-V]at I s Y
  simp only[m0]at s I
  clear X V
  simp[Leaves,settle,results,Tryz.results9,go_sem,s,Y]
  exact I
 ·obtain⟨v,rfl,a7⟩:=L
  have a8:Hid (Tp.scan (l.length+1) 0 0 l=.ok tks):=a3
  clear a3
  obtain⟨d6,f7,f2,tt,tz,b3,d7⟩:=Tp.scan_tks _ _ _ _ _ a8.out
  have f3:=f2 (by omega)
  have d2:tks≠[]:=by rw[b3];simp
  have d8:Hid (∀t,tks.getLast?=some t->t.kind=0):=by intro t D;rw[b3,List.getLast?_concat]at D;cases D;exact d7
  clear b3 d7
  obtain⟨ta,tc,rfl⟩:=zw a7
  obtain⟨r,rfl⟩:∃r,ta=some ⟨r,0,none⟩:=by
   rcases a7.2 with⟨q,q'⟩|⟨g,c,cur,q0,_⟩
   ·exact absurd (List.eq_nil_of_length_eq_zero q') d2
   ·cases q0;exact⟨g,rfl⟩
  obtain⟨_,t1,t2,t3⟩:=toks_of a7
  go_wp2_with fail
  refine(xP k).mono ?_
  rintro e o⟨rfl,a4⟩
  have c5:Below k.heap.size k o:=by rw[a4];exact zb _ _
  have e7:o.heap[k.heap.size]?=some (.map (ents 21) 21):=by rw[a4];exact zo _ _
  have d4:k.heap.size<o.heap.size:=by rw[a4];simp
  clear a4
  go_wp2_with fail
  have a9:Below o.heap.size o (o.alloc (.cells #[.slice (some ⟨r,0,none⟩) tks.length tc,.int .i64 0,.map (some k.heap.size),.int .i64 0,.int .i64 0] 79)):=zb _ _
  have K:(o.alloc (.cells #[.slice (some ⟨r,0,none⟩) tks.length tc,.int .i64 0,.map (some k.heap.size),.int .i64 0,.int .i64 0] 79)).heap[o.heap.size]?=some (.cells #[.slice (some ⟨r,0,none⟩) tks.length tc,.int .i64 0,.map (some k.heap.size),.int .i64 0,.int .i64 0] 79 (0,0)):=zo _ _
  have e8:o.heap.size<(o.alloc (.cells #[.slice (some ⟨r,0,none⟩) tks.length tc,.int .i64 0,.map (some k.heap.size),.int .i64 0,.int .i64 0] 79)).heap.size:=by simp
  generalize o.alloc (.cells #[.slice (some ⟨r,0,none⟩) tks.length tc,.int .i64 0,.map (some k.heap.size),.int .i64 0,.int .i64 0] 79)=w5 at a9 K e8 ⊢
  have Z:Below k.heap.size k w5:=c5.trans (a9.mono c5.size)
  have a6:Below w1.heap.size w1 w5:=S.trans (Z.mono e3)
  have e9:St w5 ⟨o.heap.size,r,k.heap.size,tc⟩ tks tks 0 0:=by
   refine⟨(za K).trans rfl,(za K).trans (by simp),(za K).trans rfl,(za K).trans rfl,(za K).trans rfl,fun j=>zi K,(a9.block _ d4).trans e7,fun i t hi=>?_,by simp,d2,by omega,d8.out,⟨by show r<o.heap.size;omega,d4⟩,fun t D hk c hc=>((d6 t D).k2 hk).2 c hc,fun t D=>?_,d9.below a6 (by omega),by show 3<o.heap.size;omega⟩
   ·have:=t3 i t hi
    exact⟨(Z.cell (p:=⟨r,_,none⟩) t2).trans this.c0,(Z.cell (p:=⟨r,_,none⟩) t2).trans this.c1,(Z.cell (p:=⟨r,_,none⟩) t2).trans this.c2⟩
   ·have:=Tp.scan_tl _ _ _ _ _ a8.out t D
    omega
  have d3:Tp.module (20*tks.length+20) tks≠.error (99,0):=Tp.module_ne d6.gd (by omega)
  have b4:=uS (f:=20*tks.length+20) (by omega) e9 d3
  generalize b7:Tp.module (20*tks.length+20) tks=res at b4
  have HP:Hid (Tp.parse l=res):=by
   show _=_
   unfold Tp.parse
   rw[a8.out]
   exact b7
  clear b7 d3
  refine b4.mono ?_
  intro e n L
  have d1:a+2<=w5.heap.size:=by omega
  have d0:a+2<=o.heap.size:=by omega
  rcases res with er|m
  ·obtain⟨D,P⟩:=L
   obtain⟨d,q1,rfl,q2,q3⟩:=D.out
   have J:Below (a+2) w1 n:=(a6.mono Q).trans (P.toBelow d0 d1)
   go_wp2_with fail
   obtain⟨c0,z0,ce,ze⟩:=c3.out n J
   refine leaves_cons (f:=28) (args:=#[.pointer (some ⟨a,0,none⟩),.pointer (some ⟨a+1,0,none⟩)]) (by simp) (by simp[go_sem]) ?_
   refine(kj a (a+1) d [] n c0 z0 ce ze (by omega)).mono ?_
   rintro e u' a5⟨rfl,rfl,X⟩
   have I:=b5.out n er d J (by omega) q2 q3 HP.out
   obtain⟨s,Y⟩:=c4.out n d J
   have V:a5=late n a (a+1) d:=X
   rw[<-V]at I s Y
   simp only[m0]at s I
   clear X V
   simp[Leaves,settle,results,Tryz.results9,go_sem,s,Y]
   exact I
  ·obtain⟨v,rfl,hv,P⟩:=L
   have J:Below (a+2) w1 n:=(a6.mono Q).trans (P.toBelow d0 d1)
   have N:=(J.block a (by omega)).trans U
   have O:=(J.block (a+1) (by omega)).trans T
   obtain⟨E,A,G,u,F,B,H,x,f1,e5,f0,d5⟩:=hv
   have e4:Hid (VM w5.heap.size m (.agg (mcells (bs m.name) (.slice E m.imports.length F) (.slice A m.vars.length B) (.slice G m.procs.length H) (.slice u m.body.length x))) n):=⟨E,A,G,u,F,B,H,x,f1,e5,rfl,d5⟩
   subst f0
   clear d5
   simp only[mcells]
   have y:∀i,n.cell? ⟨a,i,none⟩=m0[i]?:=fun i=>za N
   have z:∀i,n.frozen? ⟨a,i,none⟩=false:=fun i=>zi N
   have ye:n.cell? ⟨a+1,0,none⟩=some .nilIface:=(za O).trans rfl
   have ze:n.frozen? ⟨a+1,0,none⟩=false:=zi O
   simp only[m0]at y
   go_wp2_with fail
   obtain⟨wd,M⟩:∃wd,wd=(((((n.setCell ⟨a,0,none⟩ (.string (bs m.name))).setCell ⟨a,1,none⟩ (.slice E m.imports.length F)).setCell ⟨a,2,none⟩ (.slice A m.vars.length B)).setCell ⟨a,3,none⟩ (.slice G m.procs.length H)).setCell ⟨a,4,none⟩ (.slice u m.body.length x)).setCell ⟨a+1,0,none⟩ .nilIface:=⟨_,rfl⟩
   have a1:=zu 4 (.slice u m.body.length x) (zu 3 (.slice G m.procs.length H) (zu 2 (.slice A m.vars.length B) (zu 1 (.slice E m.imports.length F) (zu 0 (.string (bs m.name)) N))))
   have P:∀b,b≠a->b≠a+1->wd.heap[b]?=n.heap[b]?:=by
    intro b C h2
    rw[M,Below.heap_setCell _ _ _ _ (by simpa using h2),Below.heap_setCell _ _ _ _ (by simpa using C),Below.heap_setCell _ _ _ _ (by simpa using C),Below.heap_setCell _ _ _ _ (by simpa using C),Below.heap_setCell _ _ _ _ (by simpa using C),Below.heap_setCell _ _ _ _ (by simpa using C)]
   have c7:wd.heap[a]?=some (.cells (mcells (bs m.name) (.slice E m.imports.length F) (.slice A m.vars.length B) (.slice G m.procs.length H) (.slice u m.body.length x)) 36 (0,0)):=by
    rw[M,Below.heap_setCell _ _ _ _ (by simp)];exact a1
   have e6:wd.cell? ⟨a+1,0,none⟩=some .nilIface:=by
    rw[M]
    have b1:(((((n.setCell ⟨a,0,none⟩ (.string (bs m.name))).setCell ⟨a,1,none⟩ (.slice E m.imports.length F)).setCell ⟨a,2,none⟩ (.slice A m.vars.length B)).setCell ⟨a,3,none⟩ (.slice G m.procs.length H)).setCell ⟨a,4,none⟩ (.slice u m.body.length x)).heap[a+1]?=some (.cells #[.nilIface] 38 (0,0)):=by
     rw[Below.heap_setCell _ _ _ _ (by simp),Below.heap_setCell _ _ _ _ (by simp),Below.heap_setCell _ _ _ _ (by simp),Below.heap_setCell _ _ _ _ (by simp),Below.heap_setCell _ _ _ _ (by simp)]
     exact O
    exact(za (zu 0 .nilIface b1)).trans rfl
   have c6:Below a n wd:=by rw[M];exact zq (jj n a _ _ _ _ _) (by simp) 0 _
   have s:∀i,wd.cell? ⟨a,i,none⟩=(mcells (bs m.name) (.slice E m.imports.length F) (.slice A m.vars.length B) (.slice G m.procs.length H) (.slice u m.body.length x))[i]?:=fun i=>za c7
   rw[<-M]
   have b6:Below w.heap.size w wd/\ParseP w l (.returned (.tuple #[.agg (mcells (bs m.name) (.slice E m.imports.length F) (.slice A m.vars.length B) (.slice G m.procs.length H) (.slice u m.body.length x)),.nilIface])) wd:=by
    rw[a0.out]
    refine⟨(b9.out.trans (J.mono (by omega))).trans c6,?_⟩
    unfold ParseP
    rw[HP.out,a0.out]
    exact⟨_,rfl,e4.out.mono (by omega) (fun b C h2=>P b (by omega) (by omega))⟩
   clear M a1 P c7 c6
   simp only[mcells]at s b6
   refine leaves_cons (f:=28) (args:=#[.pointer (some ⟨a,0,none⟩),.pointer (some ⟨a+1,0,none⟩)]) (by simp) (by simp[go_sem]) ?_
   refine(late_idle ⟨a,0,none⟩ ⟨a+1,0,none⟩ wd).mono ?_
   rintro e u' a5⟨rfl,rfl,rfl⟩
   simp[Leaves,settle,results,Tryz.results9,go_sem,s,e6]
   exact b6
end Go.Proofs.YtibncofnnlbmcaaGreatDoor
namespace Go.Proofs.YtibncofnnlbmcaaGreatDoor
open Go.RowKit
open Tp (X S G Pr)
theorem yv (l:List UInt8):(bs l).size=l.length:=by simp[bs,ByteArray.size]
theorem bs_back (l:List UInt8):(bs l).data.toList=l:=by simp[bs]
theorem ym {w:World}{b:Nat}{a c d e f:Value}{t:TypeId}(h:w.heap[b]?=some (.cells #[a,c,d,e,f] t (0,0))):w.cell? ⟨b,0,none⟩=some a/\w.cell? ⟨b,1,none⟩=some c/\w.cell? ⟨b,2,none⟩=some d/\w.cell? ⟨b,3,none⟩=some e/\w.cell? ⟨b,4,none⟩=some f :=
 ⟨(za h).trans rfl,(za h).trans rfl,(za h).trans rfl,(za h).trans rfl,(za h).trans rfl⟩
theorem xT:∀(l:List G) (i:Nat) (h:i<l.length) (j:Nat),j<4->(gcs l)[i*4+j]?=(gcells (bs l[i].name) (l[i].pos:Int) (l[i].len:Int) l[i].seen).toList[j]?:=by
 intro l
 induction l with
 |nil=>intro i h;simp at h
 |cons g l ih =>
  intro i h j a
  have e:gcs (g :: l)=(gcells (bs g.name) (g.pos:Int) (g.len:Int) g.seen).toList++gcs l:=rfl
  rw[e]
  cases i with
  |zero=>rw[Nat.zero_mul,Nat.zero_add,List.getElem?_append_left (by simpa[gcells] using a)];rfl
  |succ i =>
   rw[List.getElem?_append_right (by simp[gcells];omega)]
   have:(i+1)*4+j-(gcells (bs g.name) (g.pos:Int) (g.len:Int) g.seen).toList.length=i*4+j:=by simp[gcells];omega
   rw[this,ih i (by simpa using h) j a]
   rfl
theorem jq {w:World}{D:Nat->Prop}:∀(l:List Pr) (cs:List Value),RepP w D l cs->∀(i:Nat) (h:i<l.length),∃(b vv a:Value) (d:List Value),
  (∀j,j<6->cs[i*6+j]?=(pcells (bs l[i].name) (l[i].pos:Int) l[i].seen b vv a).toList[j]?)/\Row w D 9 1 b l[i].params.length (strs l[i].params)/\Row w D 9 1 vv l[i].vars.length (strs l[i].vars)/\RepS w D l[i].body d/\OwnS w D a l[i].body.length d:=by
 intro l
 induction l with
 |nil=>intro cs _ i h;simp at h
 |cons c l ih =>
  intro cs u i h
  obtain⟨b,vv,a,d,k,o,p,q,r,s,t⟩:=u
  subst o
  cases i with
  |zero =>
   refine⟨b,vv,a,d,fun j e=>?_,p,q,r,s⟩
   rw[Nat.zero_mul,Nat.zero_add,List.getElem?_append_left (by simpa[pcells] using e)]
   rfl
  |succ i =>
   obtain⟨m,n,g,f,v,x⟩:=ih k t i (by simpa using h)
   refine⟨m,n,g,f,fun j e=>?_,x⟩
   rw[List.getElem?_append_right (by simp[pcells];omega)]
   have:(i+1)*6+j-(pcells (bs c.name) (c.pos:Int) c.seen b vv a).toList.length=i*6+j:=by simp[pcells];omega
   rw[this,v j e]
   rfl
theorem yu {w:World}{D:Nat->Prop}{e size n:Nat}{v:Value}{cs:List Value}(h:Row w D e size v n cs)(c:0<n):∃g cap,v=.slice (some ⟨g,0,none⟩) n cap/\D g/\g<w.heap.size/\∀k,k<n*size->w.cell? ⟨g,k,none⟩=cs[k]?:=by
 rcases h with⟨_,a,_⟩|⟨g,cap,cur,h1,a,h3,h4,h5,h6,h7⟩
 ·omega
 ·refine⟨g,cap,h1,a,zf h3,fun k b=>?_⟩
  rw[za h3,<-Array.getElem?_toList,<-h7,List.getElem?_take_of_lt b]
structure MB (w:World) (B:Nat) (m:Tp.M) (ia ga pa ba:Option Addr) (ic gc pc bc:Nat):Prop where
 im:Row w (fun i=>i<B) 9 1 (.slice ia m.imports.length ic) m.imports.length (strs m.imports)
 gl:Row w (fun i=>i<B) 61 4 (.slice ga m.vars.length gc) m.vars.length (gcs m.vars)
 pr:∃pcs,RepP w (fun i=>i<B) m.procs pcs/\Row w (fun i=>i<B) 65 6 (.slice pa m.procs.length pc) m.procs.length pcs
 bd:∃bcs,RepS w (fun i=>i<B) m.body bcs/\OwnS w (fun i=>i<B) (.slice ba m.body.length bc) m.body.length bcs
theorem VM.mb {B:Nat}{m:Tp.M}{v:Value}{w:World}(h:VM B m v w):∃f d i b g e j c,v=.agg (mcells (bs m.name) (.slice f m.imports.length g) (.slice d m.vars.length e) (.slice i m.procs.length j) (.slice b m.body.length c))/\MB w w.heap.size m f d i b g e j c:=by
 obtain⟨f,d,i,b,g,e,j,c,l,k,n,o,p,q,r,s,t⟩:=h
 refine⟨f,d,i,b,g,e,j,c,n,⟨o.mono fun _ _ a=>⟨rfl,a⟩,p.mono fun _ _ a=>⟨rfl,a⟩,⟨l,q.mono (fun _ _ a=>⟨rfl,a⟩) _ _,r.mono fun _ _ a=>⟨rfl,a⟩⟩,⟨k,s.mono' fun _ _ a=>⟨rfl,a⟩,t.mono fun _ _ a=>⟨rfl,a⟩⟩⟩⟩
theorem MB.on {w w':World}{B:Nat}{m:Tp.M}{i e l c:Option Addr}{j f n d:Nat}(h:MB w B m i e l c j f n d)(k:Below B w w'):MB w' B m i e l c j f n d:=by
 have a:∀b,b<B->b<w.heap.size->w'.heap[b]?=w.heap[b]?/\b<B:=fun b g _=>⟨k.block b g,g⟩
 obtain⟨p,r,s⟩:=h.pr
 obtain⟨o,q,b2⟩:=h.bd
 exact⟨h.im.mono a,h.gl.mono a,⟨p,r.mono a _ _,s.mono a⟩,⟨o,q.mono' a,b2.mono a⟩⟩
theorem MB.up {w w':World}{m:Tp.M}{i e l c:Option Addr}{j f n d:Nat}(h:MB w w.heap.size m i e l c j f n d)(k:Below w.heap.size w w'):MB w' w'.heap.size m i e l c j f n d:=by
 have a:∀b,b<w.heap.size->b<w.heap.size->w'.heap[b]?=w.heap[b]?/\b<w'.heap.size:=fun b g _=>⟨k.block b g,Nat.lt_of_lt_of_le g k.size⟩
 obtain⟨p,r,s⟩:=h.pr
 obtain⟨o,q,b2⟩:=h.bd
 exact⟨h.im.mono a,h.gl.mono a,⟨p,r.mono a _ _,s.mono a⟩,⟨o,q.mono' a,b2.mono a⟩⟩
end Go.Proofs.YtibncofnnlbmcaaGreatDoor
namespace Go.Proofs.YtibncofnnlbmcaaGreatDoor
open Go.RowKit
structure Exact (v v':Value) (w w':World):Prop where
 size:w.heap.size<=w'.heap.size
 block:∀k,k<w.heap.size->v.ownBlock≠some k->w'.heap[k]?=w.heap[k]?
 lies:∀g,v'.ownBlock=some g->v.ownBlock=some g\/w.heap.size<=g
theorem Exact.of {v a:Value}{w w':World}(h:w.grownBy w' v.ownBlock)(d:∀g,a.ownBlock=some g->v.ownBlock=some g\/w.heap.size<=g):Exact v a w w' :=
 ⟨h.size,fun k b c=>h.block k b (fun e=>c e.symm),d⟩
theorem yG {P:Program}(w:World)(j:Nat)(t u c e:TypeId)(i:TypeInfo)(l:P.underlying t=some (.slice e))(m:P.underlying u=some .string)(k:P.info? e=some i)(r:i.zero=some (.int .u8 0))
  (h:i.size=1)(q:i.bytes=1)(v:Value)(n:Nat)(f:List Value)(a:w.ownsRow j e 1 v n f)(s:ByteArray)
  (p:n+s.size<=maxLen)(x:n+s.size<=140737488355328)(z:j<=w.heap.size) :
  ∃d w',(Builtin.append_ #[t,u] c #[v,.string s]).run P w=.ok d w'/\w'.ownsRow j e 1 d (n+s.size) (f++Lib.strCells s)/\w.grownBy w' v.ownBlock/\Exact v d w w':=by
 obtain⟨d,w',o,D,y,_⟩:=Lib.run_append_own_string (P:=P) w j t u c e i l m k r h q v n f a s p x z
 refine⟨d,w',o,D,y,Exact.of y ?_⟩
 rcases a.2 with⟨rfl,rfl⟩|⟨g,cap,cur,rfl,q1,q2,q3,q4,q5,q6⟩
 ·have C:f=[]:=List.eq_nil_of_length_eq_zero (by simpa using a.1)
  subst C
  obtain⟨E,w2,s1,s2,_⟩:=Lib.run_append_own_string (P:=P) w w.heap.size t u c e i l m k r h q (.slice none 0 0) 0 [] (World.ownsRow_nil _ _ _ _) s p x zn
  rw[o]at s1
  cases s1
  intro g b
  exact Or.inr (zU s2 g b)
 ·by_cases A:n+s.size<=cap
  ·have s1:=Lib.run_append_room_string (P:=P) w t u c e i l m k h g n cap cur q2 s A (by omega)
   rw[o]at s1
   cases s1
   intro B b
   exact Or.inl b
  ·have s1:=Lib.run_append_grow_string (P:=P) w t u c e i (.int .u8 0) l m k r ⟨g,0,none⟩ n cap f (by rw[h];exact a.1) (a.cells (g:=g) rfl) s (by omega) (by unfold maxLen at p;omega) (by rw[q];exact growslice_fits (by omega) (by omega))
   rw[o]at s1
   cases s1
   intro B b
   simp[Value.ownBlock]at b
   exact Or.inr (by omega)
theorem y7 {P:Program}(w:World){ops:Array Oper}{rest:List Oper}{o:Oper}{a:Act}{Q:Exit->Act->World->Prop}(p:o.guard=none)(sl x:Operand)(t u:TypeId)
  (y:o.op=.call { callee:=.builtin .append,args:=#[sl,x],argTypes:=#[t,u] })
  (c:Nat)(e:TypeId)(i:TypeInfo)(A:P.underlying t=some (.slice e))(B:P.underlying u=some .string)(r:P.info? e=some i)(D:i.zero=some (.int .u8 0))
  (j:i.size=1)(m:i.bytes=1)
  (v:Value)(n:Nat)(d:List Value)(z:a.eval sl=v)(k:w.ownsRow c e 1 v n d)(s:ByteArray)(C:a.eval x=.string s)
  (l:n+s.size<=maxLen)(f:n+s.size<=140737488355328)(g:c<=w.heap.size)
  (h:∀b w',w'.ownsRow c e 1 b (n+s.size) (d++Lib.strCells s)->w.grownBy w' v.ownBlock->Exact v b w w'->wpList P ops Q rest (a.put o.dst b) w'):wpList P ops Q (o :: rest) a w:=by
 refine wpList_plain p fun K q=>?_
 obtain⟨b,w',E,F,G,H⟩:=yG (P:=P) w c t u o.type e i A B r D j m v n d k s l f g
 unfold Oper.wp
 simp[execOp,y,resolve,invoke,builtin,z,C,E,Result.andThen]
 exact q _ _ (h b w' F G H)
theorem Tryz.infoU8:(Tryz.prog.info? 5).map (fun i=>(i.zero,i.size,i.bytes))=some (some (.int .u8 0),1,1):=by kernel_rfl
def u8s (l:List UInt8):List Value:=l.map fun b=>Value.int .u8 b.toNat
variable {kk:Nat->Prop}
structure Buf (kk:Nat->Prop) (w:World) (B:Nat) (v:Value) (l:List UInt8):Prop where
 own:w.ownsRow B 5 1 v l.length (u8s l)
 le:B<=w.heap.size
 kp:∀k,kk k->k<w.heap.size/\v.ownBlock≠some k
theorem xf (a b:List UInt8):u8s (a++b)=u8s a++u8s b:=by simp[u8s]
theorem Buf.nil (w:World)(B:Nat)(h:B<=w.heap.size)(a:∀k,kk k->k<w.heap.size):Buf kk w B (.slice none 0 0) []:=⟨World.ownsRow_nil _ _ _ _,h,fun k h=>⟨a k h,by simp[Value.ownBlock]⟩⟩
theorem Buf.below {w w':World}{B:Nat}{v:Value}{l:List UInt8}(h:Buf kk w B v l)(k:Below w.heap.size w w'):Buf kk w' B v l:=⟨xu h.1 k,Nat.le_trans h.2 k.size,fun i a=>⟨Nat.lt_of_lt_of_le (h.kp i a).1 k.size,(h.kp i a).2⟩⟩
structure Bw (kk:Nat->Prop) (B:Nat) (w w':World):Prop extends Below B w w' where
 oth:Lib.OthersKept 5 none w w'
 kp:∀k,kk k->k<w.heap.size->w'.heap[k]?=w.heap[k]?
theorem Bw.refl (B:Nat)(w:World):Bw kk B w w:=⟨Below.refl _ _,Lib.OthersKept.refl _ _ _,fun _ _ _=>rfl⟩
theorem Bw.trans {B:Nat}{c w2 d:World}(h:Bw kk B c w2)(k:Bw kk B w2 d):Bw kk B c d:=⟨h.toBelow.trans k.toBelow,h.oth.trans k.oth,fun i a b=>(k.kp i a (Nat.lt_of_lt_of_le b h.size)).trans (h.kp i a b)⟩
theorem Bw.of {B:Nat}{w w':World}(h:Below w.heap.size w w')(b:B<=w.heap.size):Bw kk B w w' :=
 ⟨h.mono b,fun k o a _ _=>by rw[h.block k (Array.getElem?_eq_some_iff.1 a).1];exact a,fun k _ a=>h.block k a⟩
theorem Bw.keeps {B b:Nat}{w w':World}{cs:Array Value}{t:TypeId}{q:Nat×Nat}(h:Bw kk B w w')(a:w.heap[b]?=some (.cells cs t q))(d:t≠5):w'.heap[b]?=some (.cells cs t q) :=
 h.oth b _ a (by simp) (fun c f e=>by cases e;exact d rfl)
theorem Buf.grown {w w':World}{B:Nat}{v:Value}{l:List UInt8}(h:Buf kk w B v l)(k:w.grownBy w' v.ownBlock):Bw kk B w w' :=
 ⟨(Below.refl _ _).grown k h.2 (zU h.1),(Lib.OthersKept.refl _ _ _).grown k (fun g a=>by
  rcases h.1.2 with⟨rfl,_⟩|⟨g',cap,cur,rfl,_,q2,_⟩
  ·cases a
  ·cases a;exact⟨_,_,q2⟩),fun i b c=>k.block i c (fun e=>(h.kp i b).2 e.symm)⟩
theorem Buf.next {w w':World}{B:Nat}{v c:Value}{l b:List UInt8}(h:Buf kk w B v l)(k:Exact v c w w')(d:w'.ownsRow B 5 1 c b.length (u8s b)):Buf kk w' B c b :=
 ⟨d,Nat.le_trans h.2 k.size,fun i a=>⟨Nat.lt_of_lt_of_le (h.kp i a).1 k.size,fun e=>(k.lies i e).elim (h.kp i a).2 (Nat.not_le.2 (h.kp i a).1)⟩⟩
def Wrote (kk:Nat->Prop) (B:Nat) (w:World) (l:List UInt8) (e:Ending) (w':World):Prop:=∃v',e=.returned v'/\Buf kk w' B v' l/\Bw kk B w w'
end Go.Proofs.YtibncofnnlbmcaaGreatDoor
namespace Go.Proofs.YtibncofnnlbmcaaGreatDoor
open Go.RowKit
variable {kk:Nat->Prop}
theorem xc {ops:Array Oper}{rest:List Oper}{o:Oper}{a:Act}{Q:Exit->Act->World->Prop}(d:o.guard=none)(sl x:Operand)
  (n:o.op=.call { callee:=.builtin .append,args:=#[sl,x],argTypes:=#[81,9] })
  {w:World}{B:Nat}{v:Value}{l:List UInt8}(b:Buf kk w B v l)(s:List UInt8)(p:a.eval sl=v)(q:a.eval x=.string (bs s))(t:l.length+s.length<=2000000000)
  (h:∀c w',Buf kk w' B c (l++s)->Bw kk B w w'->wpList Tryz.prog ops Q rest (a.put o.dst c) w'):wpList Tryz.prog ops Q (o :: rest) a w:=by
 obtain⟨r,e,f,g,i⟩:=info_parts Tryz.infoU8
 refine y7 w d sl x 81 9 n B 5 r Tryz.underlying81 Tryz.underlying9 e f g i v l.length (u8s l) p b.1 (bs s) q (by rw[yv];unfold maxLen;omega) (by rw[yv];omega) b.2 ?_
 intro c w' j k m
 refine h c w' (b.next m ?_) (b.grown k)
 rw[xf,List.length_append,<-yv s]
 exact j
theorem jv {ops:Array Oper}{rest:List Oper}{o:Oper}{a:Act}{Q:Exit->Act->World->Prop}(i:o.guard=none)(sl x:Operand)
  (A:o.op=.call { callee:=.builtin .append,args:=#[sl,x],argTypes:=#[81,81] })
  {w:World}{B:Nat}{v:Value}{l:List UInt8}(f:Buf kk w B v l)(c:UInt8)(n:Int)(z:n=c.toNat)(C:a.eval sl=v)(D:a.eval x=.slice (some ⟨w.heap.size,0,none⟩) 1 1)(F:l.length+1<=2000000000)
  (h:∀d w',Buf kk w' B d (l++[c])->Bw kk B w w'->wpList Tryz.prog ops Q rest (a.put o.dst d) w'):wpList Tryz.prog ops Q (o :: rest) a (w.alloc (.cells #[.int .u8 n] 5)):=by
 subst z
 obtain⟨E,k,m,p,q⟩:=info_parts Tryz.infoU8
 have b:Buf kk (w.alloc (.cells #[.int .u8 (c.toNat:Int)] 5)) B v l:=f.below (zb _ _)
 refine zC _ i sl x 81 A B 5 E (.int .u8 0) 1 1 Tryz.underlying81 k m p q rfl (by decide) v l.length (u8s l) C b.1 ⟨w.heap.size,0,none⟩ 1 1 [.int .u8 (c.toNat:Int)] D rfl ?c1 ?c2 ?c3 ?c4 ?c5 ?_
 case c1 =>
  intro j u y
  rw[Addr.add_lit,za (zo _ _),Nat.zero_add]
  simpa using y
 case c2=>intro u g;simp at g;subst g;rfl
 case c3=>unfold maxLen;omega
 case c4=>omega
 case c5=>exact b.2
 intro d w' r e t
 have s:=b.grown e
 refine h d w' (b.next (Exact.of e t) ?_) ((Bw.of (zb _ _) f.2).trans s)
 rw[xf,List.length_append]
 exact r
end Go.Proofs.YtibncofnnlbmcaaGreatDoor
