import Derived.Test.YtmocelfkmdpogaaGreatDoorKOe
set_option maxRecDepth 100000
set_option maxHeartbeats 4000000
namespace Go.Proofs.YtmocelfkmdpogaaGreatDoor
open Go.RowKit Go.Maps
open Tp (Bs Sy G Pr Seen)
theorem SL.less {w:World}{B B':Nat}{v:Value}{l:List Sy}(h:SL w B v l)(a:B'<=B):SL w B' v l:=by
 rcases h with q|⟨g,cap,b,c,d⟩
 ·exact Or.inl q
 ·exact Or.inr ⟨g,cap,b,Nat.le_trans a c,d⟩
def OutR (w:World) (m:Tp.M) (S:Seen) (e:Ending) (w':World):Prop:=∃ob s u v n,e=.returned (.pointer (some ⟨ob,0,none⟩))/\OutP w w' ob m S s u v n
theorem ve {w:World}{m:Tp.M}(hm:Tp.WM m)(o4:(Tp.allR m).length<=100000){ia E G H:Option Addr}{L J N I:Nat}(hb:MB w w.heap.size m ia E G H L J N I){sv:Value}{S:Seen}(hs:SeenV w sv S)
  (p6:∀n∈m.imports,(uS m n).length<=100/\∀x∈uS m n,x.length<=100)(p3:∀n,AllSmall ((S n).getD [])) :
  Calls Tryz.prog 28 #[.agg #[.string (bs m.name),.slice ia m.imports.length L,.slice E m.vars.length J,.slice G m.procs.length N,.slice H m.body.length I],sv] w (OutR w m S):=by
 obtain⟨r,e9⟩:∃r,r=w.alloc (.cells #[.string (bs m.name),.slice ia m.imports.length L,.slice E m.vars.length J,.slice G m.procs.length N,.slice H m.body.length I] 29):=⟨_,rfl⟩
 have e8:Below w.heap.size w r:=by rw[e9];exact zb _ _
 have h5:r.heap[w.heap.size]?=some (.cells #[.string (bs m.name),.slice ia m.imports.length L,.slice E m.vars.length J,.slice G m.procs.length N,.slice H m.body.length I] 29 (0,0)):=by rw[e9];exact zk _ _
 have d0:w.heap.size<r.heap.size:=zi h5
 have a8:Hid (∀W,Below r.heap.size r W->W.cell? ⟨w.heap.size,0,none⟩=some (.string (bs m.name))/\W.cell? ⟨w.heap.size,1,none⟩=some (.slice ia m.imports.length L)/\W.cell? ⟨w.heap.size,2,none⟩=some (.slice E m.vars.length J)/\W.cell? ⟨w.heap.size,3,none⟩=some (.slice G m.procs.length N)/\W.cell? ⟨w.heap.size,4,none⟩=some (.slice H m.body.length I)):=fun W hW=>zG ((hW.block _ d0).trans h5)
 have m3:MB r w.heap.size m ia E G H L J N I:=hb.on e8
 have m4:∀W,Below r.heap.size r W->MB W w.heap.size m ia E G H L J N I:=fun W hW=>m3.on (hW.mono (Nat.le_of_lt d0))
 have g6:∀W,Below r.heap.size r W->MB W W.heap.size m ia E G H L J N I:=fun W hW=>hb.up (e8.trans (hW.mono (Nat.le_of_lt d0)))
 have g9:Hid (∀W,Below r.heap.size r W->Calls Tryz.prog 25 #[.agg #[.string (bs m.name),.slice ia m.imports.length L,.slice E m.vars.length J,.slice G m.procs.length N,.slice H m.body.length I]] W fun e w'=>∃a c,e=.returned (.slice a (srt (Tp.symsOf m)).length c)/\Below W.heap.size W w'/\SL w' W.heap.size (.slice a (srt (Tp.symsOf m)).length c) (srt (Tp.symsOf m))):=fun W hW=>by
  refine(of_post hm.gc hm.pc (g6 W hW)).mono ?_
  rintro e w'⟨v,rfl,h1,h2⟩
  obtain⟨a,c,rfl⟩:=h2.len
  exact⟨a,c,rfl,h1,h2⟩
 have o0:Hid (∀W x,Below r.heap.size r W->Calls Tryz.prog 10 #[.agg #[.string (bs m.name),.slice ia m.imports.length L,.slice E m.vars.length J,.slice G m.procs.length N,.slice H m.body.length I],.string (bs x)] W fun e w'=>∃(a:Option Addr) (c:Nat),e=.returned (.slice a (uS m x).length c)/\Row w' (fun b=>W.heap.size<=b) 9 1 (.slice a (uS m x).length c) (uS m x).length (strs (uS m x))/\Below W.heap.size W w'):=fun W x hW=>xy (by have:=hm.pc;omega) o4 (g6 W hW) x
 have m6:=hs.on e8
 have s2:Hid (∀i (hi:i<m.imports.length),∃a n d,(∀W,Below r.heap.size r W->(Instr.lookup 34 sv (.string (bs m.imports[i])) false).run Tryz.prog W=.ok (.slice a n d) W)/\SL r 0 (.slice a n d) ((S m.imports[i]).getD [])/\((S m.imports[i]).getD []).length<=1000):=fun i hi=>m6.look' _ (hm.sml.im _ (List.getElem_mem hi))
 have g7:Hid (∀W,Below r.heap.size r W->MB W w.heap.size m ia E G H L J N I):=m4
 have r9:=zh e8
 have s6:=zh p6
 have s4:=zh p3
 have r6:(m.imports.length:Int)<=6:=by have:=hm.ic;omega
 have r5:(m.vars.length:Int)<=10:=by have:=hm.gc;omega
 have r8:(m.procs.length:Int)<=10:=by have:=hm.pc;omega
 clear hm o4 hb hs p6 p3 e8 h5 m3 m4 g6 m6
 obtain⟨F,g1⟩:∃F,F=m.imports.length:=⟨_,rfl⟩
 obtain⟨P,c9⟩:∃P,P=m.vars.length:=⟨_,rfl⟩
 obtain⟨Q,g2⟩:∃Q,Q=m.procs.length:=⟨_,rfl⟩
 obtain⟨bl,o3⟩:∃bl,bl=m.body.length:=⟨_,rfl⟩
 obtain⟨sl,p2⟩:∃sl,sl=(srt (Tp.symsOf m)).length:=⟨_,rfl⟩
 obtain⟨nm,h7⟩:∃nm,nm=bs m.name:=⟨_,rfl⟩
 rw[<-g1,<-c9,<-g2,<-o3,<-h7]at a8 g9 o0 e9 ⊢
 rw[<-p2]at g9
 rw[<-g1]at r6
 rw[<-c9]at r5
 rw[<-g2]at r8
 have m9:=zh g1
 have m8:=zh c9
 have n6:=zh g2
 have s3:=zh h7
 clear g1 c9 g2 o3 p2 h7
 obtain⟨k0,k1,k2,k3,k4⟩:=a8.out r (Below.refl _ _)
 have n7:Hid (r.drew.cell? ⟨w.heap.size,0,none⟩=some (.string nm)/\r.drew.cell? ⟨w.heap.size,1,none⟩=some (.slice ia F L)/\r.drew.cell? ⟨w.heap.size,2,none⟩=some (.slice E P J)/\r.drew.cell? ⟨w.heap.size,3,none⟩=some (.slice G Q N)/\r.drew.cell? ⟨w.heap.size,4,none⟩=some (.slice H bl I)):=a8.out _ (zu r)
 have f5:Hid (Below r.heap.size r r.drew):=zu r
 go_enter Tryz.func28,Tryz.ntmps28
 go_upto_region 1 with fail
 rw[<-e9]
 clear e9
 go_region_held3 (fun W=>W.cell? ⟨w.heap.size,0,none⟩=some (.string nm)/\W.cell? ⟨w.heap.size,1,none⟩=some (.slice ia F L)/\W.cell? ⟨w.heap.size,2,none⟩=some (.slice E P J)/\W.cell? ⟨w.heap.size,3,none⟩=some (.slice G Q N)/\W.cell? ⟨w.heap.size,4,none⟩=some (.slice H bl I)) (with_reducible (first|exact T.out _|exact n8.out|exact n7.out)) (first|(go_at_call 25;refine(g9.out _ f5.out).mono ?_;rintro e w1 ⟨sa,sc,rfl,o2,p1⟩;have c8:Hid (Below r.heap.size r w1):=f5.out.trans (o2.mono f5.out.size);have n8:=zh (a8.out w1 c8.out);have T:Hid (∀o,(w1.alloc o).cell? ⟨w.heap.size,0,none⟩=some (.string nm)/\(w1.alloc o).cell? ⟨w.heap.size,1,none⟩=some (.slice ia F L)/\(w1.alloc o).cell? ⟨w.heap.size,2,none⟩=some (.slice E P J)/\(w1.alloc o).cell? ⟨w.heap.size,3,none⟩=some (.slice G Q N)/\(w1.alloc o).cell? ⟨w.heap.size,4,none⟩=some (.slice H bl I)):=fun o=>a8.out _ (c8.out.alloc c8.out.size o);have s5:=zh p1;clear o2 p1))
 obtain⟨wM,f0⟩:∃wM,wM=w1.alloc (.cells (oc5 nm (.slice sa sl sc) (.slice none 0 0) (.slice none 0 0) (.slice none 0 0)) 59):=⟨_,rfl⟩
 have i8:Hid (Below w1.heap.size w1 wM):=by rw[f0];exact zb _ _
 have f1:Hid (Below r.heap.size r wM):=c8.out.trans (i8.out.mono c8.out.size)
 have h6:wM.heap[w1.heap.size]?=some (.cells (oc5 nm (.slice sa sl sc) (.slice none 0 0) (.slice none 0 0) (.slice none 0 0)) 59 (0,0)):=by rw[f0];exact zk _ _
 have d9:Hid (w1.heap.size<wM.heap.size):=zi h6
 have b6:Hid (r.heap.size<=w1.heap.size):=c8.out.size
 have n0:Hid (L1 m (fun n=>Tp.needsS ((S n).getD []) (uS m n)) wM w1.heap.size (.slice sa sl sc) 0 wM):=⟨.slice none 0 0,[],Ext.refl _ _,by rw[<-s3.out];exact h6,World.ownsRow_nil _ _ _ _,fun i hi=>by simp at hi⟩
 obtain⟨q0,D,O,q3,q4⟩:=a8.out wM f1.out
 clear h6 n7 n8 T k0 k1 k2 k3 k4 f5
 simp only[oc5]at f0
 first|rw[<-f0]|trace_state
 clear f0
 obtain⟨ob,h8⟩:∃ob,ob=w1.heap.size:=⟨_,rfl⟩
 rw[<-h8]at d9 b6 n0 ⊢
 have r3:=zh h8
 clear h8
 go_wp2_with fail
 go_loopg [21] F (fun k vi wr=>∃i:Nat,i<=F/\k=F-i/\vi=.int .i64 (i:Int)/\Hid (L1 m (fun n=>Tp.needsS ((S n).getD []) (uS m n)) wM ob (.slice sa sl sc) i wr))
 case atStart=>exact⟨0,by omega,by omega,rfl,n0⟩
 case round =>
  obtain⟨i,aP,hk,rfl,HL⟩:=hrel
  by_cases aU:i<F
  ·have r7:(i:Int)<(F:Int):=by omega
   have b4:i<m.imports.length:=by have:=m9.out;omega
   obtain⟨uv,d7,V,x2,x3,x4⟩:=HL.out
   obtain⟨ua,uc,t9⟩:=zl x3
   subst t9
   have b2:Below r.heap.size r wr:=f1.out.trans (zR V b6.out (Nat.le_trans b6.out (Nat.le_of_lt d9.out)))
   obtain⟨g,cap,e1,o6,c9,c1⟩:=yw (g7.out wr b2).im (by omega)
   have e4:ia=some ⟨g,0,none⟩:=by cases e1;rfl
   have kg:wr.cell? ⟨g,i,none⟩=some (.string (bs m.imports[i])):=(c1 i (by omega)).trans (by unfold strs;simp[b4])
   subst e4
   obtain⟨la,ln,lc,o7,o9,o8⟩:=s2.out i b4
   obtain⟨p4,p5⟩:=s6.out _ (List.getElem_mem b4)
   have e6:=zh (And.intro o9 (And.intro o8 (And.intro p4 p5)))
   have a7:Hid (∀W,Below r.heap.size r W->W.cell? ⟨w.heap.size,0,none⟩=some (.string nm)/\W.cell? ⟨w.heap.size,1,none⟩=some (.slice (some ⟨g,0,none⟩) F L)/\W.cell? ⟨w.heap.size,2,none⟩=some (.slice E P J)/\W.cell? ⟨w.heap.size,3,none⟩=some (.slice G Q N)/\W.cell? ⟨w.heap.size,4,none⟩=some (.slice H bl I)/\(Instr.lookup 34 sv (.string (bs m.imports[i])) false).run Tryz.prog W=.ok (.slice la ln lc) W):=fun W hW=>⟨(a8.out W hW).1,(a8.out W hW).2.1,(a8.out W hW).2.2.1,(a8.out W hW).2.2.2.1,(a8.out W hW).2.2.2.2,o7 W hW⟩
   have U:=zh b2
   have b1:=zh V
   have c0:=zh x2
   have a9:=zh x3
   have h3:=zh x4
   have kr:wr.cell? ⟨ob,2,none⟩=some (.slice ua i uc):=(za x2).trans rfl
   have a1:ob<wr.heap.size:=zi x2
   obtain⟨i1,hi,c2,c4,c6⟩:=info_parts Tryz.infoUse5
   have Z:Hid (wr.drew.cell? ⟨w.heap.size,0,none⟩=some (.string nm)/\wr.drew.cell? ⟨w.heap.size,1,none⟩=some (.slice (some ⟨g,0,none⟩) F L)/\wr.drew.cell? ⟨w.heap.size,2,none⟩=some (.slice E P J)/\wr.drew.cell? ⟨w.heap.size,3,none⟩=some (.slice G Q N)/\wr.drew.cell? ⟨w.heap.size,4,none⟩=some (.slice H bl I)/\(Instr.lookup 34 sv (.string (bs m.imports[i])) false).run Tryz.prog wr.drew=.ok (.slice la ln lc) wr.drew):=a7.out _ (U.out.drew)
   have s0:Hid (Below r.heap.size r wr.drew):=U.out.drew
   have f3:Hid (Below wr.heap.size wr wr.drew):=zu wr
   have aV:wr.drew.cell? ⟨ob,2,none⟩=some (.slice ua i uc):=kr
   obtain⟨x,hx⟩:∃x,x=m.imports[i]:=⟨_,rfl⟩
   rw[<-hx]at kg a7 Z e6
   have HX:=zh hx
   obtain⟨ul,h9⟩:∃ul,ul=(uS m x).length:=⟨_,rfl⟩
   have f7:=zh (o0.out _ x s0.out)
   rw[<-h9]at f7
   have h0:=zh h9
   obtain⟨xb,i0⟩:∃xb,xb=bs x:=⟨_,rfl⟩
   rw[<-i0]at kg a7 Z f7
   have s7:=zh i0
   obtain⟨c7,p0⟩:∃c7,c7=bs (Tp.needsS ((S x).getD []) (uS m x)):=⟨_,rfl⟩
   have n2:=zh p0
   have n9:Hid (∀z a c,Below wr.heap.size wr z->Row z (fun b=>wr.heap.size<=b) 9 1 (.slice a ul c) ul (strs (uS m x))->Calls Tryz.prog 67 #[.string xb,.slice la ln lc,.slice a ul c] z fun e w'=>e=.returned (.agg #[.string xb,.string c7,.slice a ul c])/\Below z.heap.size z w'):=fun z a c hW hR=>by
    have h1:SL z 0 (.slice la ln lc) ((S x).getD []):=e6.out.1.on (U.out.trans (hW.mono U.out.size))
    have h2:StrsAt z (uS m x) a:=by
     rw[h0.out]at hR
     exact vX hR
    rw[h0.out,n2.out]
    exact use5_post h1 (s4.out x) e6.out.2.1 h2 e6.out.2.2.2 e6.out.2.2.1 xb
   have b9:Hid (∀W,Below wr.heap.size wr W->W.ownsRow wM.heap.size 128 3 (.slice ua i uc) i d7):=fun W hW=>yj a9.out hW
   have b8:Hid (∀l o f a3 c3 v5,Below wr.heap.size wr l->Row l (fun b=>wr.heap.size<=b) 9 1 (.slice a3 ul c3) ul (strs (uS m x))->f.ownsRow wM.heap.size 128 3 v5 (i+1) (d7++[.string xb,.string c7,.slice a3 ul c3])->(l.alloc o).grownBy f (Value.slice ua i uc).ownBlock->f.cell? ⟨ob,2,none⟩=some (.slice ua i uc)/\f.frozen? ⟨ob,2,none⟩=false/\(f.cell? ⟨w.heap.size,0,none⟩=some (.string nm)/\f.cell? ⟨w.heap.size,1,none⟩=some (.slice (some ⟨g,0,none⟩) F L)/\f.cell? ⟨w.heap.size,2,none⟩=some (.slice E P J)/\f.cell? ⟨w.heap.size,3,none⟩=some (.slice G Q N)/\f.cell? ⟨w.heap.size,4,none⟩=some (.slice H bl I)/\(Instr.lookup 34 sv (.string xb) false).run Tryz.prog f=.ok (.slice la ln lc) f)/\(∀u,(f.setCell ⟨ob,2,none⟩ u).cell? ⟨w.heap.size,0,none⟩=some (.string nm)/\(f.setCell ⟨ob,2,none⟩ u).cell? ⟨w.heap.size,1,none⟩=some (.slice (some ⟨g,0,none⟩) F L)/\(f.setCell ⟨ob,2,none⟩ u).cell? ⟨w.heap.size,2,none⟩=some (.slice E P J)/\(f.setCell ⟨ob,2,none⟩ u).cell? ⟨w.heap.size,3,none⟩=some (.slice G Q N)/\(f.setCell ⟨ob,2,none⟩ u).cell? ⟨w.heap.size,4,none⟩=some (.slice H bl I)/\(Instr.lookup 34 sv (.string xb) false).run Tryz.prog ((f.setCell ⟨ob,2,none⟩ u))=.ok (.slice la ln lc) ((f.setCell ⟨ob,2,none⟩ u)))/\L1 m (fun n=>Tp.needsS ((S n).getD []) (uS m n)) wM ob (.slice sa sl sc) (i+1) (f.setCell ⟨ob,2,none⟩ v5)):=fun l o f a3 c3 v5 h4 hr D O=>by
    have e7:Below wr.heap.size wr (l.alloc o):=h4.alloc h4.size o
    have d8:∀k,(Value.slice ua i uc).ownBlock=some k->wM.heap.size<=k:=fun k hk=>(a9.out.lt k hk).1
    have t0:r.heap.size<=wM.heap.size:=f1.out.size
    have m5:=d9.out
    have b5:Below r.heap.size r f:=(U.out.trans (e7.mono U.out.size)).grown O (Nat.le_trans U.out.size e7.size) (fun k hk=>Nat.le_trans t0 (d8 k hk))
    have e5:f.heap[ob]?=some (.cells (oc5 (bs m.name) (.slice sa sl sc) (.slice ua i uc) (.slice none 0 0) (.slice none 0 0)) 59 (0,0)):=(O.block ob (Nat.lt_of_lt_of_le a1 e7.size) (fun e=>by have:=d8 ob e.symm;omega)).trans ((e7.block ob a1).trans c0.out)
    refine⟨(za e5).trans rfl,zg e5,a7.out _ b5,fun u=>a7.out _ (b5.setCell b6.out _),?_⟩
    have hz:=HX.out
    subst hz
    have hq:ul=(uS m m.imports[i]).length:=h0.out
    subst hq
    rw[s7.out,n2.out]at D
    exact l1_next (nd:=fun n=>Tp.needsS ((S n).getD []) (uS m n)) b4 d9.out b1.out c0.out a9.out h3.out e7 (hr.mono fun b hb hl=>⟨Below.heap_alloc _ _ b hl,hb⟩) D O
   clear hx h9 i0 p0 o7 o9 o8 p4 p5 V x2 x3 x4 b2 c1 e1
   go_wp2_with fail
   refine wp_region_noPanic ?_
   refine wp_region_held_drew (S:=(fun W=>W.cell? ⟨w.heap.size,0,none⟩=some (.string nm)/\W.cell? ⟨w.heap.size,1,none⟩=some (.slice (some ⟨g,0,none⟩) F L)/\W.cell? ⟨w.heap.size,2,none⟩=some (.slice E P J)/\W.cell? ⟨w.heap.size,3,none⟩=some (.slice G Q N)/\W.cell? ⟨w.heap.size,4,none⟩=some (.slice H bl I)/\(Instr.lookup 34 sv (.string xb) false).run Tryz.prog W=.ok (.slice la ln lc) W)) (by kernel_rfl) Z.out (fun A=>?_)
   try go_frame
   refine wpAnyH_take (i:=0) (v:=?_) rfl (by kernel_rfl) (by kernel_rfl) (by kernel_rfl) (fun _ _ _ h=>h) (Or.inl ⟨by rfl,?_⟩) A ?_
   rotate_left
   ·first|(intro w s;go_simp;done)|(intro w s;(try dsimp only at s);go_simp;with_reducible rfl)
   try go_frame
   refine wpAnyH_take (i:=1) (v:=?_) rfl (by kernel_rfl) (by kernel_rfl) (by kernel_rfl) (fun _ _ _ h=>h) (Or.inl ⟨by rfl,?_⟩) A ?_
   rotate_left
   ·first|(intro w s;go_simp;done)|(intro w s;(try dsimp only at s);go_simp;with_reducible rfl)
   try go_frame
   refine wpAnyH_take (i:=2) (v:=?_) rfl (by kernel_rfl) (by kernel_rfl) (by kernel_rfl) (fun _ _ _ h=>h) (Or.inl ⟨by rfl,?_⟩) A ?_
   rotate_left
   ·first|(intro w s;go_simp;done)|(intro w s;(try dsimp only at s);go_simp;with_reducible rfl)
   try go_frame
   refine wpAnyH_take (i:=3) (v:=?_) rfl (by kernel_rfl) (by kernel_rfl) (by kernel_rfl) (fun _ _ _ h=>h) (Or.inl ⟨by rfl,?_⟩) A ?_
   rotate_left
   ·first|(intro w s;go_simp;done)|(intro w s;(try dsimp only at s);go_simp;with_reducible rfl)
   try go_frame
   refine wpAnyH_take (i:=5) (v:=?_) rfl (by kernel_rfl) (by kernel_rfl) (by kernel_rfl) (fun _ _ _ h=>h) (Or.inl ⟨by rfl,?_⟩) A ?_
   rotate_left
   ·first|(intro w s;go_simp;done)|(intro w s;(try dsimp only at s);go_simp;with_reducible rfl)
   try go_frame
   refine wpAnyH_take (i:=6) (v:=?_) rfl (by kernel_rfl) (by kernel_rfl) (by kernel_rfl) (fun _ _ _ h=>h) (Or.inl ⟨by rfl,?_⟩) A ?_
   rotate_left
   ·first|(intro w s;go_simp;done)|(intro w s;(try dsimp only at s);go_simp;with_reducible rfl)
   try go_frame
   refine wpAnyH_take (i:=7) (v:=?_) rfl (by kernel_rfl) (by kernel_rfl) (by kernel_rfl) (fun _ _ _ h=>h) (Or.inl ⟨by rfl,?_⟩) A ?_
   rotate_left
   ·first|(intro w s;go_simp;done)|(intro w s;(try dsimp only at s);go_simp;with_reducible rfl)
   try go_frame
   refine wpAnyH_take (i:=8) (v:=?_) rfl (by kernel_rfl) (by kernel_rfl) (by kernel_rfl) (fun _ _ _ h=>h) (Or.inl ⟨by rfl,?_⟩) A ?_
   rotate_left
   ·first|(intro w s;go_simp;done)|(intro w s;(try dsimp only at s);go_simp;with_reducible rfl)
   try go_frame
   refine wpAnyH_take (i:=9) (v:=?_) rfl (by kernel_rfl) (by kernel_rfl) (by kernel_rfl) (fun _ _ _ h=>h) (Or.inl ⟨by rfl,?_⟩) A ?_
   rotate_left
   ·first|(intro w s;go_simp;done)|(intro w s;(try dsimp only at s);go_simp;with_reducible rfl)
   try go_frame
   refine wpAnyH_take (i:=10) (v:=?_) rfl (by kernel_rfl) (by kernel_rfl) (by kernel_rfl) (fun _ _ _ h=>h) (Or.inl ⟨by rfl,?_⟩) A ?_
   rotate_left
   ·first|(intro w s;go_simp;done)|(intro w s;(try dsimp only at s);go_simp;with_reducible rfl)
   try go_frame
   refine wpAnyH_ready (rs:=[4,11]) (by kernel_rfl) (by simp) ?_
   refine AllReadyH.cons rfl (fun K q=>?_) (AllReadyH.cons rfl (fun K q=>?_) AllReadyH.nil)
   ·go_simp
    refine q.out _ _ ?_ (fun A=>?_)
    ·with_reducible (first|exact Y.out _|exact X.out|exact T.out _|exact a0.out|exact a2.out|exact Z.out)
    clear q K
    try go_frame
    refine wpAnyH_ready (rs:=[11]) (by kernel_rfl) (by simp) ?_
    refine AllReadyH.cons rfl (fun K q=>?_) AllReadyH.nil
    (go_simp;go_at_call 10;refine f7.out.mono ?_;rintro e z ⟨a3,c3,rfl,d1,a6⟩;have R:Hid (Below wr.heap.size wr z):=f3.out.trans (a6.mono f3.out.size);have f6:=zh d1;have f4:=zh (n9.out z a3 c3 R.out d1);have a2:=zh (a7.out z (U.out.trans (R.out.mono U.out.size)));have k3:z.cell? ⟨ob,2,none⟩=some (.slice ua i uc):=(R.out.cell (p:=⟨ob,2,none⟩) a1).trans kr;clear d1 a6)
    refine q.out _ _ ?_ (fun A=>?_)
    ·with_reducible (first|exact Y.out _|exact X.out|exact T.out _|exact a0.out|exact a2.out|exact Z.out)
    clear q K
    try go_frame
    refine wpAnyH_ready (rs:=[12]) (by kernel_rfl) (by simp) ?_
    refine AllReadyH.cons rfl (fun K q=>?_) AllReadyH.nil
    (go_simp;go_at_call 67;refine f4.out.mono ?_;rintro e l ⟨rfl,a4⟩;have t:Hid (Below wr.heap.size wr l):=R.out.trans (a4.mono R.out.size);have e0:Hid (Row l (fun b=>wr.heap.size<=b) 9 1 (.slice a3 ul c3) ul (strs (uS m x))):=f6.out.mono fun b hb hl=>⟨a4.block b hl,hb⟩;have a0:=zh (a7.out l (U.out.trans (t.out.mono U.out.size)));have k4:l.cell? ⟨ob,2,none⟩=some (.slice ua i uc):=(t.out.cell (p:=⟨ob,2,none⟩) a1).trans kr;have p8:∀o,(l.alloc o).cell? ⟨ob,2,none⟩=some (.slice ua i uc):=fun o=>((t.out.alloc t.out.size o).cell (p:=⟨ob,2,none⟩) a1).trans kr;have T:Hid (∀o,(l.alloc o).cell? ⟨w.heap.size,0,none⟩=some (.string nm)/\(l.alloc o).cell? ⟨w.heap.size,1,none⟩=some (.slice (some ⟨g,0,none⟩) F L)/\(l.alloc o).cell? ⟨w.heap.size,2,none⟩=some (.slice E P J)/\(l.alloc o).cell? ⟨w.heap.size,3,none⟩=some (.slice G Q N)/\(l.alloc o).cell? ⟨w.heap.size,4,none⟩=some (.slice H bl I)/\(Instr.lookup 34 sv (.string xb) false).run Tryz.prog ((l.alloc o))=.ok (.slice la ln lc) ((l.alloc o))):=fun o=>a7.out _ (U.out.trans ((t.out.alloc t.out.size o).mono U.out.size));clear a4)
    refine q.out _ _ ?_ (fun A=>?_)
    ·with_reducible (first|exact Y.out _|exact X.out|exact T.out _|exact a0.out|exact a2.out|exact Z.out)
    clear q K
    try go_frame
    refine wpAnyH_ready (rs:=[13]) (by kernel_rfl) (by simp) ?_
    refine AllReadyH.cons rfl (fun K q=>?_) AllReadyH.nil
    go_simp
    refine q.out _ _ ?_ (fun A=>?_)
    ·with_reducible (first|exact Y.out _|exact X.out|exact T.out _|exact a0.out|exact a2.out|exact Z.out)
    clear q K
    try go_frame
    refine wpAnyH_ready (rs:=[14]) (by kernel_rfl) (by simp) ?_
    refine AllReadyH.cons rfl (fun K q=>?_) AllReadyH.nil
    (refine z7 rfl (.tmp 29) (.tmp 38) 56 rfl wM.heap.size 128 i1 (.agg #[.string ⟨#[]⟩,.string ⟨#[]⟩,.slice none 0 0]) 3 56 Tryz.underlying56 hi c2 c4 c6 rfl (by decide) (.slice ua i uc) i d7 (by simp[Act.eval]) (b9.out _ (t.out.alloc t.out.size _)) ⟨l.heap.size,0,none⟩ 1 1 [.string xb,.string c7,.slice a3 ul c3] (by simp[Act.eval]) rfl ?news (by intro u hu;simp at hu;rcases hu with rfl|rfl|rfl<;>rfl) (by unfold maxLen;omega) (by omega) ?base ?_;(case news=>(intro j u hj;rw[Addr.add_lit];exact((za (zk l _)).trans (by simpa using hj))));(case base=>have:=b1.out.size;have:=t.out.size;simp;omega);intro v5 f D O q3;obtain⟨a5,c5,b3⟩:=zl D;subst b3;have C:=b8.out l _ f a3 c3 _ t.out e0.out D O;have k5:f.cell? ⟨ob,2,none⟩=some (.slice ua i uc):=C.1;have z5:f.frozen? ⟨ob,2,none⟩=false:=C.2.1;have l5:ob<f.heap.size:=zc k5;have X:Hid (f.cell? ⟨w.heap.size,0,none⟩=some (.string nm)/\f.cell? ⟨w.heap.size,1,none⟩=some (.slice (some ⟨g,0,none⟩) F L)/\f.cell? ⟨w.heap.size,2,none⟩=some (.slice E P J)/\f.cell? ⟨w.heap.size,3,none⟩=some (.slice G Q N)/\f.cell? ⟨w.heap.size,4,none⟩=some (.slice H bl I)/\(Instr.lookup 34 sv (.string xb) false).run Tryz.prog f=.ok (.slice la ln lc) f):=C.2.2.1;have Y:Hid (∀u,(f.setCell ⟨ob,2,none⟩ u).cell? ⟨w.heap.size,0,none⟩=some (.string nm)/\(f.setCell ⟨ob,2,none⟩ u).cell? ⟨w.heap.size,1,none⟩=some (.slice (some ⟨g,0,none⟩) F L)/\(f.setCell ⟨ob,2,none⟩ u).cell? ⟨w.heap.size,2,none⟩=some (.slice E P J)/\(f.setCell ⟨ob,2,none⟩ u).cell? ⟨w.heap.size,3,none⟩=some (.slice G Q N)/\(f.setCell ⟨ob,2,none⟩ u).cell? ⟨w.heap.size,4,none⟩=some (.slice H bl I)/\(Instr.lookup 34 sv (.string xb) false).run Tryz.prog ((f.setCell ⟨ob,2,none⟩ u))=.ok (.slice la ln lc) ((f.setCell ⟨ob,2,none⟩ u))):=C.2.2.2.1;have HF:Hid (L1 m (fun n=>Tp.needsS ((S n).getD []) (uS m n)) wM ob (.slice sa sl sc) (i+1) (f.setCell ⟨ob,2,none⟩ (.slice a5 (i+1) c5))):=C.2.2.2.2;clear C D O q3)
    refine q.out _ _ ?_ (fun A=>?_)
    ·with_reducible (first|exact Y.out _|exact X.out|exact T.out _|exact a0.out|exact a2.out|exact Z.out)
    clear q K
    try go_frame
    refine wpAnyH_take (i:=15) (v:=?_) rfl (by kernel_rfl) (by kernel_rfl) (by kernel_rfl) (fun _ _ _ h=>h) (Or.inl ⟨by rfl,?_⟩) A ?_
    rotate_left
    ·first|(intro w s;go_simp;done)|(intro w s;(try dsimp only at s);go_simp;with_reducible rfl)
    try go_frame
    refine wpAnyH_take (i:=16) (v:=?_) rfl (by kernel_rfl) (by kernel_rfl) (by kernel_rfl) (fun _ _ _ h=>h) (Or.inl ⟨by rfl,?_⟩) A ?_
    rotate_left
    ·first|(intro w s;go_simp;done)|(intro w s;(try dsimp only at s);go_simp;with_reducible rfl)
    try go_frame
    refine wpAnyH_ready (rs:=[17]) (by kernel_rfl) (by simp) ?_
    refine AllReadyH.cons rfl (fun K q=>?_) AllReadyH.nil
    go_simp
    refine q.out _ _ ?_ (fun A=>?_)
    ·with_reducible (first|exact Y.out _|exact X.out|exact T.out _|exact a0.out|exact a2.out|exact Z.out)
    clear q K
    try go_frame
    refine wpAnyH_done (by kernel_rfl) ?_ _
    refine NoPanic.normal ?_
    go_wp2_with fail
    go_roundg (F-(i+1))
    case measure=>omega
    case rel=>exact⟨i+1,by omega,rfl,by go_num,HF⟩
   ·(go_simp;go_at_call 10;refine f7.out.mono ?_;rintro e z ⟨a3,c3,rfl,d1,a6⟩;have R:Hid (Below wr.heap.size wr z):=f3.out.trans (a6.mono f3.out.size);have f6:=zh d1;have f4:=zh (n9.out z a3 c3 R.out d1);have a2:=zh (a7.out z (U.out.trans (R.out.mono U.out.size)));have k3:z.cell? ⟨ob,2,none⟩=some (.slice ua i uc):=(R.out.cell (p:=⟨ob,2,none⟩) a1).trans kr;clear d1 a6)
    refine q.out _ _ ?_ (fun A=>?_)
    ·with_reducible (first|exact Y.out _|exact X.out|exact T.out _|exact a0.out|exact a2.out|exact Z.out)
    clear q K
    try go_frame
    refine wpAnyH_ready (rs:=[4,12]) (by kernel_rfl) (by simp) ?_
    refine AllReadyH.cons rfl (fun K q=>?_) (AllReadyH.cons rfl (fun K q=>?_) AllReadyH.nil)
    ·go_simp
     refine q.out _ _ ?_ (fun A=>?_)
     ·with_reducible (first|exact Y.out _|exact X.out|exact T.out _|exact a0.out|exact a2.out|exact Z.out)
     clear q K
     try go_frame
     refine wpAnyH_ready (rs:=[12]) (by kernel_rfl) (by simp) ?_
     refine AllReadyH.cons rfl (fun K q=>?_) AllReadyH.nil
     (go_simp;go_at_call 67;refine f4.out.mono ?_;rintro e l ⟨rfl,a4⟩;have t:Hid (Below wr.heap.size wr l):=R.out.trans (a4.mono R.out.size);have e0:Hid (Row l (fun b=>wr.heap.size<=b) 9 1 (.slice a3 ul c3) ul (strs (uS m x))):=f6.out.mono fun b hb hl=>⟨a4.block b hl,hb⟩;have a0:=zh (a7.out l (U.out.trans (t.out.mono U.out.size)));have k4:l.cell? ⟨ob,2,none⟩=some (.slice ua i uc):=(t.out.cell (p:=⟨ob,2,none⟩) a1).trans kr;have p8:∀o,(l.alloc o).cell? ⟨ob,2,none⟩=some (.slice ua i uc):=fun o=>((t.out.alloc t.out.size o).cell (p:=⟨ob,2,none⟩) a1).trans kr;have T:Hid (∀o,(l.alloc o).cell? ⟨w.heap.size,0,none⟩=some (.string nm)/\(l.alloc o).cell? ⟨w.heap.size,1,none⟩=some (.slice (some ⟨g,0,none⟩) F L)/\(l.alloc o).cell? ⟨w.heap.size,2,none⟩=some (.slice E P J)/\(l.alloc o).cell? ⟨w.heap.size,3,none⟩=some (.slice G Q N)/\(l.alloc o).cell? ⟨w.heap.size,4,none⟩=some (.slice H bl I)/\(Instr.lookup 34 sv (.string xb) false).run Tryz.prog ((l.alloc o))=.ok (.slice la ln lc) ((l.alloc o))):=fun o=>a7.out _ (U.out.trans ((t.out.alloc t.out.size o).mono U.out.size));clear a4)
     refine q.out _ _ ?_ (fun A=>?_)
     ·with_reducible (first|exact Y.out _|exact X.out|exact T.out _|exact a0.out|exact a2.out|exact Z.out)
     clear q K
     try go_frame
     refine wpAnyH_ready (rs:=[13]) (by kernel_rfl) (by simp) ?_
     refine AllReadyH.cons rfl (fun K q=>?_) AllReadyH.nil
     go_simp
     refine q.out _ _ ?_ (fun A=>?_)
     ·with_reducible (first|exact Y.out _|exact X.out|exact T.out _|exact a0.out|exact a2.out|exact Z.out)
     clear q K
     try go_frame
     refine wpAnyH_ready (rs:=[14]) (by kernel_rfl) (by simp) ?_
     refine AllReadyH.cons rfl (fun K q=>?_) AllReadyH.nil
     (refine z7 rfl (.tmp 29) (.tmp 38) 56 rfl wM.heap.size 128 i1 (.agg #[.string ⟨#[]⟩,.string ⟨#[]⟩,.slice none 0 0]) 3 56 Tryz.underlying56 hi c2 c4 c6 rfl (by decide) (.slice ua i uc) i d7 (by simp[Act.eval]) (b9.out _ (t.out.alloc t.out.size _)) ⟨l.heap.size,0,none⟩ 1 1 [.string xb,.string c7,.slice a3 ul c3] (by simp[Act.eval]) rfl ?news (by intro u hu;simp at hu;rcases hu with rfl|rfl|rfl<;>rfl) (by unfold maxLen;omega) (by omega) ?base ?_;(case news=>(intro j u hj;rw[Addr.add_lit];exact((za (zk l _)).trans (by simpa using hj))));(case base=>have:=b1.out.size;have:=t.out.size;simp;omega);intro v5 f D O q3;obtain⟨a5,c5,b3⟩:=zl D;subst b3;have C:=b8.out l _ f a3 c3 _ t.out e0.out D O;have k5:f.cell? ⟨ob,2,none⟩=some (.slice ua i uc):=C.1;have z5:f.frozen? ⟨ob,2,none⟩=false:=C.2.1;have l5:ob<f.heap.size:=zc k5;have X:Hid (f.cell? ⟨w.heap.size,0,none⟩=some (.string nm)/\f.cell? ⟨w.heap.size,1,none⟩=some (.slice (some ⟨g,0,none⟩) F L)/\f.cell? ⟨w.heap.size,2,none⟩=some (.slice E P J)/\f.cell? ⟨w.heap.size,3,none⟩=some (.slice G Q N)/\f.cell? ⟨w.heap.size,4,none⟩=some (.slice H bl I)/\(Instr.lookup 34 sv (.string xb) false).run Tryz.prog f=.ok (.slice la ln lc) f):=C.2.2.1;have Y:Hid (∀u,(f.setCell ⟨ob,2,none⟩ u).cell? ⟨w.heap.size,0,none⟩=some (.string nm)/\(f.setCell ⟨ob,2,none⟩ u).cell? ⟨w.heap.size,1,none⟩=some (.slice (some ⟨g,0,none⟩) F L)/\(f.setCell ⟨ob,2,none⟩ u).cell? ⟨w.heap.size,2,none⟩=some (.slice E P J)/\(f.setCell ⟨ob,2,none⟩ u).cell? ⟨w.heap.size,3,none⟩=some (.slice G Q N)/\(f.setCell ⟨ob,2,none⟩ u).cell? ⟨w.heap.size,4,none⟩=some (.slice H bl I)/\(Instr.lookup 34 sv (.string xb) false).run Tryz.prog ((f.setCell ⟨ob,2,none⟩ u))=.ok (.slice la ln lc) ((f.setCell ⟨ob,2,none⟩ u))):=C.2.2.2.1;have HF:Hid (L1 m (fun n=>Tp.needsS ((S n).getD []) (uS m n)) wM ob (.slice sa sl sc) (i+1) (f.setCell ⟨ob,2,none⟩ (.slice a5 (i+1) c5))):=C.2.2.2.2;clear C D O q3)
     refine q.out _ _ ?_ (fun A=>?_)
     ·with_reducible (first|exact Y.out _|exact X.out|exact T.out _|exact a0.out|exact a2.out|exact Z.out)
     clear q K
     try go_frame
     refine wpAnyH_take (i:=15) (v:=?_) rfl (by kernel_rfl) (by kernel_rfl) (by kernel_rfl) (fun _ _ _ h=>h) (Or.inl ⟨by rfl,?_⟩) A ?_
     rotate_left
     ·first|(intro w s;go_simp;done)|(intro w s;(try dsimp only at s);go_simp;with_reducible rfl)
     try go_frame
     refine wpAnyH_take (i:=16) (v:=?_) rfl (by kernel_rfl) (by kernel_rfl) (by kernel_rfl) (fun _ _ _ h=>h) (Or.inl ⟨by rfl,?_⟩) A ?_
     rotate_left
     ·first|(intro w s;go_simp;done)|(intro w s;(try dsimp only at s);go_simp;with_reducible rfl)
     try go_frame
     refine wpAnyH_ready (rs:=[17]) (by kernel_rfl) (by simp) ?_
     refine AllReadyH.cons rfl (fun K q=>?_) AllReadyH.nil
     go_simp
     refine q.out _ _ ?_ (fun A=>?_)
     ·with_reducible (first|exact Y.out _|exact X.out|exact T.out _|exact a0.out|exact a2.out|exact Z.out)
     clear q K
     try go_frame
     refine wpAnyH_done (by kernel_rfl) ?_ _
     refine NoPanic.normal ?_
     go_wp2_with fail
     go_roundg (F-(i+1))
     case measure=>omega
     case rel=>exact⟨i+1,by omega,rfl,by go_num,HF⟩
    ·(go_simp;go_at_call 67;refine f4.out.mono ?_;rintro e l ⟨rfl,a4⟩;have t:Hid (Below wr.heap.size wr l):=R.out.trans (a4.mono R.out.size);have e0:Hid (Row l (fun b=>wr.heap.size<=b) 9 1 (.slice a3 ul c3) ul (strs (uS m x))):=f6.out.mono fun b hb hl=>⟨a4.block b hl,hb⟩;have a0:=zh (a7.out l (U.out.trans (t.out.mono U.out.size)));have k4:l.cell? ⟨ob,2,none⟩=some (.slice ua i uc):=(t.out.cell (p:=⟨ob,2,none⟩) a1).trans kr;have p8:∀o,(l.alloc o).cell? ⟨ob,2,none⟩=some (.slice ua i uc):=fun o=>((t.out.alloc t.out.size o).cell (p:=⟨ob,2,none⟩) a1).trans kr;have T:Hid (∀o,(l.alloc o).cell? ⟨w.heap.size,0,none⟩=some (.string nm)/\(l.alloc o).cell? ⟨w.heap.size,1,none⟩=some (.slice (some ⟨g,0,none⟩) F L)/\(l.alloc o).cell? ⟨w.heap.size,2,none⟩=some (.slice E P J)/\(l.alloc o).cell? ⟨w.heap.size,3,none⟩=some (.slice G Q N)/\(l.alloc o).cell? ⟨w.heap.size,4,none⟩=some (.slice H bl I)/\(Instr.lookup 34 sv (.string xb) false).run Tryz.prog ((l.alloc o))=.ok (.slice la ln lc) ((l.alloc o))):=fun o=>a7.out _ (U.out.trans ((t.out.alloc t.out.size o).mono U.out.size));clear a4)
     refine q.out _ _ ?_ (fun A=>?_)
     ·with_reducible (first|exact Y.out _|exact X.out|exact T.out _|exact a0.out|exact a2.out|exact Z.out)
     clear q K
     try go_frame
     refine wpAnyH_ready (rs:=[4,13]) (by kernel_rfl) (by simp) ?_
     refine AllReadyH.cons rfl (fun K q=>?_) (AllReadyH.cons rfl (fun K q=>?_) AllReadyH.nil)
     ·go_simp
      refine q.out _ _ ?_ (fun A=>?_)
      ·with_reducible (first|exact Y.out _|exact X.out|exact T.out _|exact a0.out|exact a2.out|exact Z.out)
      clear q K
      try go_frame
      refine wpAnyH_ready (rs:=[13]) (by kernel_rfl) (by simp) ?_
      refine AllReadyH.cons rfl (fun K q=>?_) AllReadyH.nil
      go_simp
      refine q.out _ _ ?_ (fun A=>?_)
      ·with_reducible (first|exact Y.out _|exact X.out|exact T.out _|exact a0.out|exact a2.out|exact Z.out)
      clear q K
      try go_frame
      refine wpAnyH_ready (rs:=[14]) (by kernel_rfl) (by simp) ?_
      refine AllReadyH.cons rfl (fun K q=>?_) AllReadyH.nil
      (refine z7 rfl (.tmp 29) (.tmp 38) 56 rfl wM.heap.size 128 i1 (.agg #[.string ⟨#[]⟩,.string ⟨#[]⟩,.slice none 0 0]) 3 56 Tryz.underlying56 hi c2 c4 c6 rfl (by decide) (.slice ua i uc) i d7 (by simp[Act.eval]) (b9.out _ (t.out.alloc t.out.size _)) ⟨l.heap.size,0,none⟩ 1 1 [.string xb,.string c7,.slice a3 ul c3] (by simp[Act.eval]) rfl ?news (by intro u hu;simp at hu;rcases hu with rfl|rfl|rfl<;>rfl) (by unfold maxLen;omega) (by omega) ?base ?_;(case news=>(intro j u hj;rw[Addr.add_lit];exact((za (zk l _)).trans (by simpa using hj))));(case base=>have:=b1.out.size;have:=t.out.size;simp;omega);intro v5 f D O q3;obtain⟨a5,c5,b3⟩:=zl D;subst b3;have C:=b8.out l _ f a3 c3 _ t.out e0.out D O;have k5:f.cell? ⟨ob,2,none⟩=some (.slice ua i uc):=C.1;have z5:f.frozen? ⟨ob,2,none⟩=false:=C.2.1;have l5:ob<f.heap.size:=zc k5;have X:Hid (f.cell? ⟨w.heap.size,0,none⟩=some (.string nm)/\f.cell? ⟨w.heap.size,1,none⟩=some (.slice (some ⟨g,0,none⟩) F L)/\f.cell? ⟨w.heap.size,2,none⟩=some (.slice E P J)/\f.cell? ⟨w.heap.size,3,none⟩=some (.slice G Q N)/\f.cell? ⟨w.heap.size,4,none⟩=some (.slice H bl I)/\(Instr.lookup 34 sv (.string xb) false).run Tryz.prog f=.ok (.slice la ln lc) f):=C.2.2.1;have Y:Hid (∀u,(f.setCell ⟨ob,2,none⟩ u).cell? ⟨w.heap.size,0,none⟩=some (.string nm)/\(f.setCell ⟨ob,2,none⟩ u).cell? ⟨w.heap.size,1,none⟩=some (.slice (some ⟨g,0,none⟩) F L)/\(f.setCell ⟨ob,2,none⟩ u).cell? ⟨w.heap.size,2,none⟩=some (.slice E P J)/\(f.setCell ⟨ob,2,none⟩ u).cell? ⟨w.heap.size,3,none⟩=some (.slice G Q N)/\(f.setCell ⟨ob,2,none⟩ u).cell? ⟨w.heap.size,4,none⟩=some (.slice H bl I)/\(Instr.lookup 34 sv (.string xb) false).run Tryz.prog ((f.setCell ⟨ob,2,none⟩ u))=.ok (.slice la ln lc) ((f.setCell ⟨ob,2,none⟩ u))):=C.2.2.2.1;have HF:Hid (L1 m (fun n=>Tp.needsS ((S n).getD []) (uS m n)) wM ob (.slice sa sl sc) (i+1) (f.setCell ⟨ob,2,none⟩ (.slice a5 (i+1) c5))):=C.2.2.2.2;clear C D O q3)
      refine q.out _ _ ?_ (fun A=>?_)
      ·with_reducible (first|exact Y.out _|exact X.out|exact T.out _|exact a0.out|exact a2.out|exact Z.out)
      clear q K
      try go_frame
      refine wpAnyH_take (i:=15) (v:=?_) rfl (by kernel_rfl) (by kernel_rfl) (by kernel_rfl) (fun _ _ _ h=>h) (Or.inl ⟨by rfl,?_⟩) A ?_
      rotate_left
      ·first|(intro w s;go_simp;done)|(intro w s;(try dsimp only at s);go_simp;with_reducible rfl)
      try go_frame
      refine wpAnyH_take (i:=16) (v:=?_) rfl (by kernel_rfl) (by kernel_rfl) (by kernel_rfl) (fun _ _ _ h=>h) (Or.inl ⟨by rfl,?_⟩) A ?_
      rotate_left
      ·first|(intro w s;go_simp;done)|(intro w s;(try dsimp only at s);go_simp;with_reducible rfl)
      try go_frame
      refine wpAnyH_ready (rs:=[17]) (by kernel_rfl) (by simp) ?_
      refine AllReadyH.cons rfl (fun K q=>?_) AllReadyH.nil
      go_simp
      refine q.out _ _ ?_ (fun A=>?_)
      ·with_reducible (first|exact Y.out _|exact X.out|exact T.out _|exact a0.out|exact a2.out|exact Z.out)
      clear q K
      try go_frame
      refine wpAnyH_done (by kernel_rfl) ?_ _
      refine NoPanic.normal ?_
      go_wp2_with fail
      go_roundg (F-(i+1))
      case measure=>omega
      case rel=>exact⟨i+1,by omega,rfl,by go_num,HF⟩
     ·go_simp
      refine q.out _ _ ?_ (fun A=>?_)
      ·with_reducible (first|exact Y.out _|exact X.out|exact T.out _|exact a0.out|exact a2.out|exact Z.out)
      clear q K
      try go_frame
      refine wpAnyH_ready (rs:=[4]) (by kernel_rfl) (by simp) ?_
      refine AllReadyH.cons rfl (fun K q=>?_) AllReadyH.nil
      go_simp
      refine q.out _ _ ?_ (fun A=>?_)
      ·with_reducible (first|exact Y.out _|exact X.out|exact T.out _|exact a0.out|exact a2.out|exact Z.out)
      clear q K
      try go_frame
      refine wpAnyH_ready (rs:=[14]) (by kernel_rfl) (by simp) ?_
      refine AllReadyH.cons rfl (fun K q=>?_) AllReadyH.nil
      (refine z7 rfl (.tmp 29) (.tmp 38) 56 rfl wM.heap.size 128 i1 (.agg #[.string ⟨#[]⟩,.string ⟨#[]⟩,.slice none 0 0]) 3 56 Tryz.underlying56 hi c2 c4 c6 rfl (by decide) (.slice ua i uc) i d7 (by simp[Act.eval]) (b9.out _ (t.out.alloc t.out.size _)) ⟨l.heap.size,0,none⟩ 1 1 [.string xb,.string c7,.slice a3 ul c3] (by simp[Act.eval]) rfl ?news (by intro u hu;simp at hu;rcases hu with rfl|rfl|rfl<;>rfl) (by unfold maxLen;omega) (by omega) ?base ?_;(case news=>(intro j u hj;rw[Addr.add_lit];exact((za (zk l _)).trans (by simpa using hj))));(case base=>have:=b1.out.size;have:=t.out.size;simp;omega);intro v5 f D O q3;obtain⟨a5,c5,b3⟩:=zl D;subst b3;have C:=b8.out l _ f a3 c3 _ t.out e0.out D O;have k5:f.cell? ⟨ob,2,none⟩=some (.slice ua i uc):=C.1;have z5:f.frozen? ⟨ob,2,none⟩=false:=C.2.1;have l5:ob<f.heap.size:=zc k5;have X:Hid (f.cell? ⟨w.heap.size,0,none⟩=some (.string nm)/\f.cell? ⟨w.heap.size,1,none⟩=some (.slice (some ⟨g,0,none⟩) F L)/\f.cell? ⟨w.heap.size,2,none⟩=some (.slice E P J)/\f.cell? ⟨w.heap.size,3,none⟩=some (.slice G Q N)/\f.cell? ⟨w.heap.size,4,none⟩=some (.slice H bl I)/\(Instr.lookup 34 sv (.string xb) false).run Tryz.prog f=.ok (.slice la ln lc) f):=C.2.2.1;have Y:Hid (∀u,(f.setCell ⟨ob,2,none⟩ u).cell? ⟨w.heap.size,0,none⟩=some (.string nm)/\(f.setCell ⟨ob,2,none⟩ u).cell? ⟨w.heap.size,1,none⟩=some (.slice (some ⟨g,0,none⟩) F L)/\(f.setCell ⟨ob,2,none⟩ u).cell? ⟨w.heap.size,2,none⟩=some (.slice E P J)/\(f.setCell ⟨ob,2,none⟩ u).cell? ⟨w.heap.size,3,none⟩=some (.slice G Q N)/\(f.setCell ⟨ob,2,none⟩ u).cell? ⟨w.heap.size,4,none⟩=some (.slice H bl I)/\(Instr.lookup 34 sv (.string xb) false).run Tryz.prog ((f.setCell ⟨ob,2,none⟩ u))=.ok (.slice la ln lc) ((f.setCell ⟨ob,2,none⟩ u))):=C.2.2.2.1;have HF:Hid (L1 m (fun n=>Tp.needsS ((S n).getD []) (uS m n)) wM ob (.slice sa sl sc) (i+1) (f.setCell ⟨ob,2,none⟩ (.slice a5 (i+1) c5))):=C.2.2.2.2;clear C D O q3)
      refine q.out _ _ ?_ (fun A=>?_)
      ·with_reducible (first|exact Y.out _|exact X.out|exact T.out _|exact a0.out|exact a2.out|exact Z.out)
      clear q K
      try go_frame
      refine wpAnyH_take (i:=15) (v:=?_) rfl (by kernel_rfl) (by kernel_rfl) (by kernel_rfl) (fun _ _ _ h=>h) (Or.inl ⟨by rfl,?_⟩) A ?_
      rotate_left
      ·first|(intro w s;go_simp;done)|(intro w s;(try dsimp only at s);go_simp;with_reducible rfl)
      try go_frame
      refine wpAnyH_take (i:=16) (v:=?_) rfl (by kernel_rfl) (by kernel_rfl) (by kernel_rfl) (fun _ _ _ h=>h) (Or.inl ⟨by rfl,?_⟩) A ?_
      rotate_left
      ·first|(intro w s;go_simp;done)|(intro w s;(try dsimp only at s);go_simp;with_reducible rfl)
      try go_frame
      refine wpAnyH_ready (rs:=[17]) (by kernel_rfl) (by simp) ?_
      refine AllReadyH.cons rfl (fun K q=>?_) AllReadyH.nil
      go_simp
      refine q.out _ _ ?_ (fun A=>?_)
      ·with_reducible (first|exact Y.out _|exact X.out|exact T.out _|exact a0.out|exact a2.out|exact Z.out)
      clear q K
      try go_frame
      refine wpAnyH_done (by kernel_rfl) ?_ _
      refine NoPanic.normal ?_
      go_wp2_with fail
      go_roundg (F-(i+1))
      case measure=>omega
      case rel=>exact⟨i+1,by omega,rfl,by go_num,HF⟩
  ·have r7:¬(i:Int)<(F:Int):=by omega
   have o5:i=m.imports.length:=by have:=m9.out;omega
   obtain⟨uv,d7,V,x2,x3,x4⟩:=HL.out
   have f8:Below r.heap.size r wr:=f1.out.trans (zR V b6.out (Nat.le_trans b6.out (Nat.le_of_lt d9.out)))
   have aN:Hid (wM.heap.size<=wr.heap.size):=V.size
   rw[o5]at x3 x4
   obtain⟨j0,j1,j2,j3,j4⟩:=a8.out wr f8
   have b1:=zh V
   have a9:=zh x3
   have h3:=zh x4
   have n1:Hid (L2 m wr ob (.slice sa sl sc) uv 0 wr):=⟨.slice none 0 0,Ext.refl _ _,x2,by rw[List.take_zero];exact World.ownsRow_nil _ _ _ _⟩
   have f2:=zh f8
   have i9:Hid (ob<wr.heap.size):=zi x2
   have aT:w.heap.size<wr.heap.size:=Nat.lt_of_lt_of_le d0 f8.size
   rename World=>wN
   clear V x2 x3 x4 f8 HL q0 D O q3 q4 o5
   go_wp2_with fail
   go_loopg [46] P (fun k vi wr=>∃i:Nat,i<=P/\k=P-i/\vi=.int .i64 (i:Int)/\Hid (L2 m wN ob (.slice sa sl sc) uv i wr))
   case atStart=>exact⟨0,by omega,by omega,rfl,n1⟩
   case round =>
    obtain⟨B,aG,aQ,rfl,HL⟩:=hrel
    by_cases aI:B<P
    ·have p9:(B:Int)<(P:Int):=by omega
     have b4:B<m.vars.length:=by have:=m8.out;omega
     obtain⟨vv,V,x2,x3⟩:=HL.out
     obtain⟨va,vc,aA⟩:=zl x3
     subst aA
     have b2:Below r.heap.size r wr:=f2.out.trans (zR V b6.out f2.out.size)
     obtain⟨g,cap,e1,o6,c9,c1⟩:=yw (g7.out wr b2).gl (by omega)
     have e4:E=some ⟨g,0,none⟩:=by cases e1;rfl
     have b0:=fun j (hj:j<4)=>(c1 (B*4+j) (by omega)).trans (qJ m.vars B b4 j hj)
     have d3:wr.cell? ⟨g,B*4,none⟩=some (.string (bs m.vars[B].name)):=b0 0 (by omega)
     have d4:wr.cell? ⟨g,B*4+1,none⟩=some (.int .i64 (m.vars[B].pos:Int)):=b0 1 (by omega)
     have d5:wr.cell? ⟨g,B*4+2,none⟩=some (.int .i64 (m.vars[B].len:Int)):=b0 2 (by omega)
     have d6:wr.cell? ⟨g,B*4+3,none⟩=some (.bool m.vars[B].seen):=b0 3 (by omega)
     subst e4
     have b1:=zh V
     have c0:=zh x2
     have a9:=zh x3
     have U:=zh b2
     have a1:ob<wr.heap.size:=zi x2
     obtain⟨i1,hi,c2,c4,c6⟩:=info_parts Tryz.infoGlobal5
     obtain⟨gx,g0⟩:∃gx,gx=m.vars[B]:=⟨_,rfl⟩
     rw[<-g0]at d3 d4 d5 d6
     have aM:=zh g0
     obtain⟨xn,d2⟩:∃xn,xn=bs gx.name:=⟨_,rfl⟩
     obtain⟨xp,p7⟩:∃xp:Int,xp=(gx.pos:Int):=⟨_,rfl⟩
     obtain⟨xl,i4⟩:∃xl:Int,xl=(gx.len:Int):=⟨_,rfl⟩
     obtain⟨xs,i5⟩:∃xs,xs=gx.seen:=⟨_,rfl⟩
     rw[<-d2]at d3
     rw[<-p7]at d4
     rw[<-i4]at d5
     rw[<-i5]at d6
     have HV:Hid ([Value.string xn,.int .i64 0,.int .i64 xl,.bool xs]=g0V m.vars[B]):=by rw[d2,i4,i5,g0];rfl
     obtain⟨z,b7⟩:∃z,z=wr.alloc (.cells #[.string xn,.int .i64 xp,.int .i64 xl,.bool xs] 118):=⟨_,rfl⟩
     have a6:Below wr.heap.size wr z:=by rw[b7];exact zb _ _
     have e2:z.heap[wr.heap.size]?=some (.cells #[.string xn,.int .i64 xp,.int .i64 xl,.bool xs] 118 (0,0)):=by rw[b7];exact zk _ _
     have t7:wr.heap.size<z.heap.size:=zi e2
     have aC:z.cell? ⟨wr.heap.size,1,none⟩=some (.int .i64 xp):=(za e2).trans rfl
     have aE:z.frozen? ⟨wr.heap.size,1,none⟩=false:=zg e2
     obtain⟨l,g4⟩:∃l,l=z.setCell ⟨wr.heap.size,1,none⟩ (.int .i64 0):=⟨_,rfl⟩
     have a4:Below wr.heap.size wr l:=by rw[g4];exact a6.setCell zn _
     have e3:l.heap[wr.heap.size]?=some (.cells #[.string xn,.int .i64 0,.int .i64 xl,.bool xs] 118 (0,0)):=by rw[g4];exact zw 1 (.int .i64 0) e2
     have y0:l.cell? ⟨wr.heap.size,0,none⟩=some (.string xn):=(za e3).trans rfl
     have y1:l.cell? ⟨wr.heap.size,1,none⟩=some (.int .i64 0):=(za e3).trans rfl
     have y2:l.cell? ⟨wr.heap.size,2,none⟩=some (.int .i64 xl):=(za e3).trans rfl
     have y3:l.cell? ⟨wr.heap.size,3,none⟩=some (.bool xs):=(za e3).trans rfl
     have aR:wr.heap.size<l.heap.size:=zi e3
     have k3:l.cell? ⟨ob,3,none⟩=some (.slice va B vc):=(a4.cell (p:=⟨ob,3,none⟩) a1).trans ((za x2).trans rfl)
     have aB:∀o,(l.alloc o).cell? ⟨ob,3,none⟩=some (.slice va B vc):=fun o=>((a4.alloc a4.size o).cell (p:=⟨ob,3,none⟩) a1).trans ((za x2).trans rfl)
     have aL:ob<l.heap.size:=Nat.lt_of_lt_of_le a1 a4.size
     have t:=zh a4
     have t6:(B:Int)<=10:=by omega
     have g8:Hid (wN.heap.size<=wr.heap.size):=V.size
     have b8:Hid (∀wx f v5,Below wr.heap.size wr wx->f.ownsRow wN.heap.size 118 4 v5 (B+1) (g0s (m.vars.take B)++[.string xn,.int .i64 0,.int .i64 xl,.bool xs])->wx.grownBy f (Value.slice va B vc).ownBlock->f.cell? ⟨ob,3,none⟩=some (.slice va B vc)/\f.frozen? ⟨ob,3,none⟩=false/\L2 m wN ob (.slice sa sl sc) uv (B+1) (f.setCell ⟨ob,3,none⟩ v5)):=fun wx f v5 hx D O=>by
      have d8:∀k,(Value.slice va B vc).ownBlock=some k->wN.heap.size<=k:=fun k hk=>(a9.out.lt k hk).1
      have m5:=i9.out
      have e5:f.heap[ob]?=some (.cells (oc5 (bs m.name) (.slice sa sl sc) uv (.slice va B vc) (.slice none 0 0)) 59 (0,0)):=(O.block ob (Nat.lt_of_lt_of_le a1 hx.size) (fun e=>by have:=d8 ob e.symm;omega)).trans ((hx.block ob a1).trans c0.out)
      rw[HV.out]at D
      exact⟨(za e5).trans rfl,zg e5,l2_next b4 i9.out b1.out c0.out a9.out hx D O⟩
     have b9:Hid (∀W,Below wr.heap.size wr W->W.ownsRow wN.heap.size 118 4 (.slice va B vc) B (g0s (m.vars.take B))):=fun W hW=>yj a9.out hW
     clear V x2 x3 b2 c1 e1 b0 g0 d2 p7 i4 i5 a6 e2 e3 a4 HV
     go_upto_region 10 with fail
     rw[<-b7]
     clear b7 d3 d4 d5 d6
     go_upto_region 11 with fail
     rw[<-g4]
     clear g4 aC aE
     go_region_law (first|(refine z7 rfl (.tmp 55) (.tmp 57) 25 rfl wN.heap.size 118 i1 (.agg #[.string ⟨#[]⟩,.int .i64 0,.int .i64 0,.bool false]) 4 40 Tryz.underlying25 hi c2 c4 c6 rfl (by decide) (.slice va B vc) B (g0s (m.vars.take B)) (by simp[Act.eval]) ?own ⟨l.heap.size,0,none⟩ 1 1 [.string xn,.int .i64 0,.int .i64 xl,.bool xs] (by simp[Act.eval]) rfl ?news (by intro u hu;simp at hu;rcases hu with rfl|rfl|rfl|rfl<;>rfl) (by unfold maxLen;omega) (by omega) ?base ?_;(case own=>exact b9.out _ (by first|exact t.out.alloc t.out.size _|exact t.out.drew.alloc t.out.size _|exact(t.out.alloc t.out.size _).drew));(case news=>(intro j u hj;rw[Addr.add_lit];first|exact((za (zk l _)).trans (by simpa using hj))|exact((za (zk l.drew _)).trans (by simpa using hj))));(case base=>have:=g8.out;have:=t.out.size;simp;omega);intro v5 f D O q3;obtain⟨a5,c5,b3⟩:=zl D;subst b3;have C:=b8.out _ f _ (by first|exact t.out.alloc t.out.size _|exact t.out.drew.alloc t.out.size _|exact(t.out.alloc t.out.size _).drew) D O;have k5:f.cell? ⟨ob,3,none⟩=some (.slice va B vc):=C.1;have z5:f.frozen? ⟨ob,3,none⟩=false:=C.2.1;have l5:ob<f.heap.size:=zc k5;have HF:Hid (L2 m wN ob (.slice sa sl sc) uv (B+1) (f.setCell ⟨ob,3,none⟩ (.slice a5 (B+1) c5))):=C.2.2;clear C D O q3))
     all_goals
      go_wp2_with fail
      go_roundg (P-(B+1))
      case measure=>omega
      case rel=>exact⟨B+1,by omega,rfl,by go_num,HF⟩
    ·have p9:¬(B:Int)<(P:Int):=by omega
     have m1:B=m.vars.length:=by have:=m8.out;omega
     obtain⟨vv,V,x2,x3⟩:=HL.out
     have f9:Below r.heap.size r wr:=f2.out.trans (zR V b6.out f2.out.size)
     rw[m1]at x3
     obtain⟨j0,j1,j2,j3,j4⟩:=a8.out wr f9
     have s8:=zh V
     have s9:=zh x3
     have s1:Hid (L3 m wr ob (.slice sa sl sc) uv vv 0 wr):=⟨.slice none 0 0,Ext.refl _ _,x2,by rw[List.take_zero];exact World.ownsRow_nil _ _ _ _⟩
     have m7:=zh f9
     have m0:Hid (ob<wr.heap.size):=zi x2
     have aS:w.heap.size<wr.heap.size:=Nat.lt_of_lt_of_le d0 f9.size
     rename World=>wO
     clear V x2 x3 f9 HL m1 n1
     go_wp2_with fail
     go_loopg [65] Q (fun k vi wr=>∃i:Nat,i<=Q/\k=Q-i/\vi=.int .i64 (i:Int)/\Hid (L3 m wO ob (.slice sa sl sc) uv vv i wr))
     case atStart=>exact⟨0,by omega,by omega,rfl,s1⟩
     case round =>
      obtain⟨y,aH,e2,rfl,HL⟩:=hrel
      by_cases aJ:y<Q
      ·have r0:(y:Int)<(Q:Int):=by omega
       have b4:y<m.procs.length:=by have:=n6.out;omega
       obtain⟨nv,V,x2,x3⟩:=HL.out
       obtain⟨na,nc,t8⟩:=zl x3
       subst t8
       have b2:Below r.heap.size r wr:=m7.out.trans (zR V b6.out m7.out.size)
       obtain⟨aD,r1,r2⟩:=(g7.out wr b2).pr
       obtain⟨g,cap,e1,o6,c9,c1⟩:=yw r2 (by omega)
       have e4:G=some ⟨g,0,none⟩:=by cases e1;rfl
       obtain⟨pv,aX,aW,aF,t1,t2,t3,t4,t5⟩:=jl m.procs aD r1 y b4
       obtain⟨y3,n3,z3⟩:=t2.shape
       obtain⟨y4,n4,z4⟩:=t3.shape
       obtain⟨y5,n5,z5⟩:=t5.shape
       subst z3
       subst z4
       subst z5
       have b0:=fun j (hj:j<6)=>(c1 (y*6+j) (by omega)).trans (t1 j hj)
       have d3:wr.cell? ⟨g,y*6,none⟩=some (.string (bs m.procs[y].name)):=b0 0 (by omega)
       have d4:wr.cell? ⟨g,y*6+1,none⟩=some (.int .i64 (m.procs[y].pos:Int)):=b0 1 (by omega)
       have d5:wr.cell? ⟨g,y*6+2,none⟩=some (.bool m.procs[y].seen):=b0 2 (by omega)
       have d6:wr.cell? ⟨g,y*6+3,none⟩=some (.slice y3 m.procs[y].params.length n3):=b0 3 (by omega)
       have i6:wr.cell? ⟨g,y*6+4,none⟩=some (.slice y4 m.procs[y].vars.length n4):=b0 4 (by omega)
       have i7:wr.cell? ⟨g,y*6+5,none⟩=some (.slice y5 m.procs[y].body.length n5):=b0 5 (by omega)
       subst e4
       have b1:=zh V
       have c0:=zh x2
       have a9:=zh x3
       have U:=zh b2
       have a1:ob<wr.heap.size:=zi x2
       obtain⟨i1,hi,c2,c4,c6⟩:=info_parts Tryz.infoString
       obtain⟨px,g3⟩:∃px,px=m.procs[y]:=⟨_,rfl⟩
       rw[<-g3]at d3 d4 d5 d6 i6 i7
       have aO:=zh g3
       obtain⟨xn,d2⟩:∃xn,xn=bs px.name:=⟨_,rfl⟩
       rw[<-d2]at d3
       have HV:Hid ([Value.string xn]=[.string (bs m.procs[y].name)]):=by rw[d2,g3];rfl
       generalize (px.pos:Int)=x1' at d4
       generalize px.seen=x2' at d5
       generalize px.params.length=x3' at d6
       generalize px.vars.length=x4' at i6
       generalize px.body.length=x5' at i7
       obtain⟨z,b7⟩:∃z,z=wr.alloc (.cells #[.string xn,.int .i64 x1',.bool x2',.slice y3 x3' n3,.slice y4 x4' n4,.slice y5 x5' n5] 79):=⟨_,rfl⟩
       have a6:Below wr.heap.size wr z:=by rw[b7];exact zb _ _
       have g5:z.heap[wr.heap.size]?=some (.cells #[.string xn,.int .i64 x1',.bool x2',.slice y3 x3' n3,.slice y4 x4' n4,.slice y5 x5' n5] 79 (0,0)):=by rw[b7];exact zk _ _
       have t7:wr.heap.size<z.heap.size:=zi g5
       have y0:z.cell? ⟨wr.heap.size,0,none⟩=some (.string xn):=(za g5).trans rfl
       have aY:∀o,(z.alloc o).cell? ⟨wr.heap.size,0,none⟩=some (.string xn):=fun o=>zV y0 o
       have k3:z.cell? ⟨ob,5,none⟩=some (.slice na y nc):=(a6.cell (p:=⟨ob,5,none⟩) a1).trans ((za x2).trans rfl)
       have aB:∀o,(z.alloc o).cell? ⟨ob,5,none⟩=some (.slice na y nc):=fun o=>((a6.alloc a6.size o).cell (p:=⟨ob,5,none⟩) a1).trans ((za x2).trans rfl)
       have aK:ob<z.heap.size:=Nat.lt_of_lt_of_le a1 a6.size
       have R:=zh a6
       have t6:(y:Int)<=10:=by omega
       have g8:Hid (wO.heap.size<=wr.heap.size):=V.size
       have b8:Hid (∀wx f v5,Below wr.heap.size wr wx->f.ownsRow wO.heap.size 9 1 v5 (y+1) (strs ((m.procs.take y).map (·.name))++[.string xn])->wx.grownBy f (Value.slice na y nc).ownBlock->f.cell? ⟨ob,5,none⟩=some (.slice na y nc)/\f.frozen? ⟨ob,5,none⟩=false/\L3 m wO ob (.slice sa sl sc) uv vv (y+1) (f.setCell ⟨ob,5,none⟩ v5)):=fun wx f v5 hx D O=>by
        have d8:∀k,(Value.slice na y nc).ownBlock=some k->wO.heap.size<=k:=fun k hk=>(a9.out.lt k hk).1
        have m5:=m0.out
        have e5:f.heap[ob]?=some (.cells (oc5 (bs m.name) (.slice sa sl sc) uv vv (.slice na y nc)) 59 (0,0)):=(O.block ob (Nat.lt_of_lt_of_le a1 hx.size) (fun e=>by have:=d8 ob e.symm;omega)).trans ((hx.block ob a1).trans c0.out)
        rw[HV.out]at D
        exact⟨(za e5).trans rfl,zg e5,l3_next b4 m0.out b1.out c0.out a9.out hx D O⟩
       have b9:Hid (∀W,Below wr.heap.size wr W->W.ownsRow wO.heap.size 9 1 (.slice na y nc) y (strs ((m.procs.take y).map (·.name)))):=fun W hW=>yj a9.out hW
       clear V x2 x3 b2 c1 e1 b0 t1 t2 t3 t4 t5 r1 r2 g3 d2 a6 g5 HV
       go_upto_region 16 with fail
       rw[<-b7]
       clear b7 d3 d4 d5 d6 i6 i7
       go_region_law (first|(refine z7 rfl (.tmp 73) (.tmp 76) 22 rfl wO.heap.size 9 i1 (.string ⟨#[]⟩) 1 16 Tryz.underlying22 hi c2 c4 c6 rfl (by decide) (.slice na y nc) y (strs ((m.procs.take y).map (·.name))) (by simp[Act.eval]) ?own ⟨z.heap.size,0,none⟩ 1 1 [.string xn] (by simp[Act.eval]) rfl ?news (by intro u hu;simp at hu;subst hu;rfl) (by unfold maxLen;omega) (by omega) ?base ?_;(case own=>exact b9.out _ (by first|exact R.out.alloc R.out.size _|exact R.out.drew.alloc R.out.size _|exact(R.out.alloc R.out.size _).drew));(case news=>(intro j u hj;rw[Addr.add_lit];cases j with|zero=>(simp at hj;subst hj;first|exact(za (zk z _)).trans rfl|exact(za (zk z.drew _)).trans rfl)|succ j=>simp at hj));(case base=>have:=g8.out;have:=R.out.size;simp;omega);intro v5 f D O q3;obtain⟨a5,c5,b3⟩:=zl D;subst b3;have C:=b8.out _ f _ (by first|exact R.out.alloc R.out.size _|exact R.out.drew.alloc R.out.size _|exact(R.out.alloc R.out.size _).drew) D O;have k5:f.cell? ⟨ob,5,none⟩=some (.slice na y nc):=C.1;have z5:f.frozen? ⟨ob,5,none⟩=false:=C.2.1;have l5:ob<f.heap.size:=zc k5;have HF:Hid (L3 m wO ob (.slice sa sl sc) uv vv (y+1) (f.setCell ⟨ob,5,none⟩ (.slice a5 (y+1) c5))):=C.2.2;clear C D O q3))
       all_goals
        go_wp2_with fail
        go_roundg (Q-(y+1))
        case measure=>omega
        case rel=>exact⟨y+1,by omega,rfl,by go_num,HF⟩
      ·have r0:¬(y:Int)<(Q:Int):=by omega
       have m2:y=m.procs.length:=by have:=n6.out;omega
       obtain⟨nv,V,x2,x3⟩:=HL.out
       rw[m2]at x3
       have o1:SL w1 w.heap.size (.slice sa sl sc) (srt (Tp.symsOf m)):=s5.out.less (Nat.le_of_lt d0)
       have r4:Hid (OutP w wr ob m S (.slice sa sl sc) uv vv nv):=outP_of (r9.out.trans (c8.out.mono (Nat.le_of_lt d0))) i8.out r3.out.symm o1 d9.out b1.out a9.out h3.out s8.out s9.out V x2 x3
       clear V x2 x3 o1 HL m2
       go_wp2_with fail
       go_ret
       exact⟨ob,_,_,_,_,rfl,r4.out⟩
end Go.Proofs.YtmocelfkmdpogaaGreatDoor
