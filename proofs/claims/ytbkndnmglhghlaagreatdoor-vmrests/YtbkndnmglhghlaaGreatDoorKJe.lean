import Derived.Test.YtbkndnmglhghlaaGreatDoorKJd
import Derived.Deep.Fields
import Derived.Deep.Strs
set_option maxRecDepth 100000
set_option maxHeartbeats 4000000

namespace Go.Proofs.YtbkndnmglhghlaaGreatDoor.Jo
open Go.RowKit
open Ob (Bs)
theorem small_nil (w:World):Calls Tryz.prog 4 #[.pointer none] w fun e w'=>e=.returned (.bool true)/\Below w.heap.size w w':=by
 go_enter Tryz.func4,Tryz.ntmps4
 go_wp2_with fail
 go_ret
 exact⟨rfl,Below.refl _ _⟩
theorem small_ov {w:World}{b o:Nat}{O:Ob.O}{N P R pa L ca:Option Addr}{sc Q T pc M cc:Nat}(Z:OV w b o O N P R pa L ca sc Q T pc M cc) :
  Calls Tryz.prog 4 #[.pointer (some ⟨b,o,none⟩)] w fun e w'=>e=.returned (.bool (smallB O))/\Below w.heap.size w w':=by
 have f0:=zm
 have e7:=zg Z.c0
 obtain⟨l,a1⟩:∃l,l=w.alloc (.cells #[.func (.func 12) #[] #[]] 41):=⟨_,rfl⟩
 have a4:Below w.heap.size w l:=by rw[a1];exact zb _ _
 have a2:l.heap[w.heap.size]?=some (.cells #[.func (.func 12) #[] #[]] 41 (0,0)):=by rw[a1];exact zl _ _
 have b6:w.heap.size<l.heap.size:=zc a2
 have kb:l.cell? ⟨w.heap.size,0,none⟩=some (.func (.func 12) #[] #[]):=za a2
 have D:=Z.below a4
 have q:=zh a4
 have a6:=zh a1
 clear a1
 have Y:Hid (∀W,Below l.heap.size l W->W.cell? ⟨w.heap.size,0,none⟩=some (.func (.func 12) #[] #[])/\W.cell? ⟨b,o,none⟩=some (.string (bs O.name))/\W.cell? ⟨b,o+1,none⟩=some (.slice N O.syms.length sc)/\W.cell? ⟨b,o+2,none⟩=some (.slice P O.uses.length Q)/\W.cell? ⟨b,o+3,none⟩=some (.slice R O.vars.length T)/\W.cell? ⟨b,o+4,none⟩=some (.slice pa O.procs.length pc)/\W.cell? ⟨b,o+5,none⟩=some (.slice L O.names.length M)/\W.cell? ⟨b,o+6,none⟩=some (.slice ca O.code.length cc)) :=
  fun W g=>⟨(g.cell (p:=⟨w.heap.size,0,none⟩) b6).trans kb,(D.below g).c0,(D.below g).c1,(D.below g).c2,(D.below g).c3,(D.below g).c4,(D.below g).c5,(D.below g).c6⟩
 have a0:∀W G,Below l.heap.size l W->Below W.heap.size W G->G.cell? ⟨w.heap.size,0,none⟩=some (.func (.func 12) #[] #[]):=fun W G g I=>(I.cell (p:=⟨w.heap.size,0,none⟩) (show w.heap.size<W.heap.size by have:=g.size;omega)).trans ((g.cell (p:=⟨w.heap.size,0,none⟩) b6).trans kb)
 have b9:Hid (∀W,Below l.heap.size l W->Calls Tryz.prog 12 #[.string (bs O.name)] W fun e w'=>e=.returned (.bool (longB O.name))/\w'=W):=fun W _=>kx W O.name
 have c7:Hid (O.names.length<=1000000->∀W,Below l.heap.size l W->Calls Tryz.prog 13 #[.slice L O.names.length M,.func (.func 12) #[] #[]] W fun e w'=>e=.returned (.bool (O.names.any longB))/\Below W.heap.size W w'):=fun J W g=>containsStr0 (D.below g).n J cf14 (fun G y _ _=>(kx G y).mono (fun e w' h=>⟨h.1,by rw[h.2];exact Below.refl _ _⟩))
 have c8:Hid (O.syms.length<=1000000->∀W,Below l.heap.size l W->Calls Tryz.prog 14 #[.slice N O.syms.length sc,.func (.func 15) #[] #[.pointer (some ⟨w.heap.size,0,none⟩)]] W fun e w'=>e=.returned (.bool (O.syms.any fun x=>longB x.name))/\Below W.heap.size W w'):=fun J W g=>containsSym (p:=fun x=>longB x.name) (D.below g).s J cf17 (fun G y _ I=>longSym (a0 W G g I) y)
 have c9:Hid (O.vars.length<=1000000->∀W,Below l.heap.size l W->Calls Tryz.prog 16 #[.slice R O.vars.length T,.func (.func 17) #[] #[.pointer (some ⟨w.heap.size,0,none⟩)]] W fun e w'=>e=.returned (.bool (O.vars.any fun x=>longB x.name))/\Below W.heap.size W w'):=fun J W g=>containsGl (p:=fun x=>longB x.name) (D.below g).v J cf19 (fun G y _ I=>longGl (a0 W G g I) y)
 have d0:Hid (O.uses.length<=1000000->∀W,Below l.heap.size l W->Calls Tryz.prog 18 #[.slice P O.uses.length Q,.func (.func 19) #[] #[.pointer (some ⟨w.heap.size,0,none⟩)]] W fun e w'=>e=.returned (.bool (O.uses.any useL))/\Below W.heap.size W w'):=fun J W g=>by
  obtain⟨f3,d5,d6⟩:=(D.below g).u
  exact containsUs d5 d6 J cf21 (fun G y f1 f2 _ I hs=>longUs (a0 W G g I) y (hs.below I))
 have E:Hid (smallB O=(!longB O.name&&(decide (O.syms.length<=30)&&(decide (O.uses.length<=10)&&(decide (O.vars.length<=15)&&(decide (O.procs.length<=15)&&(decide (O.names.length<=15)&&(decide (O.code.length<=80)&&(!O.names.any longB&&(!(O.syms.any fun x=>longB x.name)&&(!(O.vars.any fun x=>longB x.name)&&!O.uses.any useL))))))))))):=rfl
 have e8:=Z.c0
 have e9:=Z.c1
 generalize smallB O=r at *
 generalize longB O.name=b1 at *
 generalize O.names.any longB=b2 at *
 generalize (O.syms.any fun x=>longB x.name)=b3 at *
 generalize (O.vars.any fun x=>longB x.name)=b4 at *
 generalize O.uses.any useL=b5 at *
 clear D a2 a4 kb Z a0
 have a5:=zh (Y.out _ (zt l))
 have F:Hid (Below l.heap.size l l.drew):=zt l
 go_enter Tryz.func4,Tryz.ntmps4
 go_wp2_with fail
 rw[<-a6.out]
 clear a6
 refine region_abs (fun b8 a=>?_)
 have j:Hid (inOrder b8=true):=by show _=_;rw[a.out];as_aux_lemma=>kernel_rfl
 have i:Hid (b8.size=92):=by show _=_;rw[a.out];rfl
 refine uN (m:=92) (S:=(fun W=>W.cell? ⟨w.heap.size,0,none⟩=some (.func (.func 12) #[] #[])/\W.cell? ⟨b,o,none⟩=some (.string (bs O.name))/\W.cell? ⟨b,o+1,none⟩=some (.slice N O.syms.length sc)/\W.cell? ⟨b,o+2,none⟩=some (.slice P O.uses.length Q)/\W.cell? ⟨b,o+3,none⟩=some (.slice R O.vars.length T)/\W.cell? ⟨b,o+4,none⟩=some (.slice pa O.procs.length pc)/\W.cell? ⟨b,o+5,none⟩=some (.slice L O.names.length M)/\W.cell? ⟨b,o+6,none⟩=some (.slice ca O.code.length cc))) (by kernel_rfl) i.out a5.out (fun f=>?_)
 refine takeI 0 (d:=some 6) (v:=.func (.func 12) #[] #[]) j.out (by have:=i.out;omega) (by rw[a.out];kernel_rfl) (fun _ _ _ h=>h) (fun k c=>by rw[a.out]at c;cases c;exact Or.inl ⟨by rw[a.out];kernel_rfl,fun W g=>by go_simp⟩) f ?_
 go_frame
 refine takeI 1 (d:=some 7) (v:=.pointer (some ⟨b,o,none⟩)) j.out (by have:=i.out;omega) (by rw[a.out];kernel_rfl) (fun _ _ _ h=>h) (fun k c=>by rw[a.out]at c;cases c;exact Or.inl ⟨by rw[a.out];kernel_rfl,fun W g=>by go_simp⟩) f ?_
 go_frame
 refine takeI 2 (d:=some 8) (v:=.pointer (some ⟨b,o,none⟩)) j.out (by have:=i.out;omega) (by rw[a.out];kernel_rfl) (fun _ _ _ h=>h) (fun k c=>by rw[a.out]at c;cases c;exact Or.inl ⟨by rw[a.out];kernel_rfl,fun W g=>by go_simp⟩) f ?_
 go_frame
 refine takeI 3 (d:=some 9) (v:=.pointer (some ⟨b,o,none⟩)) j.out (by have:=i.out;omega) (by rw[a.out];kernel_rfl) (fun _ _ _ h=>h) (fun k c=>by rw[a.out]at c;cases c;exact Or.inl ⟨by rw[a.out];kernel_rfl,fun W g=>by go_simp⟩) f ?_
 go_frame
 refine takeI 4 (d:=some 10) (v:=.string (bs O.name)) j.out (by have:=i.out;omega) (by rw[a.out];kernel_rfl) (fun _ _ _ h=>h) (fun k c=>by rw[a.out]at c;cases c;exact Or.inl ⟨by rw[a.out];kernel_rfl,fun W g=>by go_simp⟩) f ?_
 go_frame
 refine yU 5 (by rw[a.out];as_aux_lemma=>kernel_rfl) _ (by rw[a.out];rfl) (fun K C=>?_)
 rw[if_pos (by rw[a.out];kernel_rfl)]
 go_simp
 refine(b9.out _ F.out).mono ?_
 rintro e wq⟨rfl,b7⟩
 rw[b7]
 clear b7
 go_frame
 refine C.out _ _ a5.out (fun f=>?_)
 clear C
 cases b1 with
 |true =>
  refine takeI 6 (d:=some 12) (v:=.bool false) j.out (by have:=i.out;omega) (by rw[a.out];kernel_rfl) (fun _ _ _ h=>h) (fun k c=>by rw[a.out]at c;cases c;exact Or.inl ⟨by rw[a.out];kernel_rfl,fun W g=>by go_simp⟩) f ?_
  go_frame
  refine takeI 7 (d:=some 13) (v:=.bool false) j.out (by have:=i.out;omega) (by rw[a.out];kernel_rfl) (fun _ _ _ h=>h) (fun k c=>by rw[a.out]at c;cases c;exact Or.inl ⟨by rw[a.out];kernel_rfl,fun W g=>by go_simp⟩) f ?_
  go_frame
  refine yr (t:=2) (v:=.bool false) 84 8 j.out (fun _ _ d _ _ h=>by cases d<;>exact h) f (by rw[a.out];as_aux_lemma=>kernel_rfl) (by have:=i.out;omega) (by decide) ?_
  intro H z A
  clear f
  have B:Hid (r=false):=by
   show _=_
   rw[E.out]
   simp[*]
  go_wp2_with fail
  exact bodyPost_ret ((results_tmp rfl _ _ _).trans (by rw[z])) A ⟨by rw[B.out],q.out.trans (F.out.mono q.out.size)⟩
 |false =>
  refine takeI 6 (d:=some 12) (v:=.bool true) j.out (by have:=i.out;omega) (by rw[a.out];kernel_rfl) (fun _ _ _ h=>h) (fun k c=>by rw[a.out]at c;cases c;exact Or.inl ⟨by rw[a.out];kernel_rfl,fun W g=>by go_simp⟩) f ?_
  go_frame
  refine takeI 7 (d:=some 13) (v:=.bool true) j.out (by have:=i.out;omega) (by rw[a.out];kernel_rfl) (fun _ _ _ h=>h) (fun k c=>by rw[a.out]at c;cases c;exact Or.inl ⟨by rw[a.out];kernel_rfl,fun W g=>by go_simp⟩) f ?_
  go_frame
  refine takeI 8 (d:=some 14) (v:=.pointer (some ⟨b,o,none⟩)) j.out (by have:=i.out;omega) (by rw[a.out];kernel_rfl) (fun _ _ _ h=>h) (fun k c=>by rw[a.out]at c;cases c;exact Or.inl ⟨by rw[a.out];kernel_rfl,fun W g=>by go_simp⟩) f ?_
  go_frame
  refine takeI 9 (d:=some 15) (v:=.pointer (some ⟨b,o,none⟩)) j.out (by have:=i.out;omega) (by rw[a.out];kernel_rfl) (fun _ _ _ h=>h) (fun k c=>by rw[a.out]at c;cases c;exact Or.inl ⟨by rw[a.out];kernel_rfl,fun W g=>by go_simp⟩) f ?_
  go_frame
  refine takeI 10 (d:=some 16) (v:=.pointer (some ⟨b,o+1,none⟩)) j.out (by have:=i.out;omega) (by rw[a.out];kernel_rfl) (fun _ _ _ h=>h) (fun k c=>by rw[a.out]at c;cases c;exact Or.inl ⟨by rw[a.out];kernel_rfl,fun W g=>by go_simp⟩) f ?_
  go_frame
  refine takeI 11 (d:=some 17) (v:=.slice N O.syms.length sc) j.out (by have:=i.out;omega) (by rw[a.out];kernel_rfl) (fun _ _ _ h=>h) (fun k c=>by rw[a.out]at c;cases c;exact Or.inl ⟨by rw[a.out];kernel_rfl,fun W g=>by go_simp⟩) f ?_
  go_frame
  refine takeI 12 (d:=some 18) (v:=.int .i64 (O.syms.length:Int)) j.out (by have:=i.out;omega) (by rw[a.out];kernel_rfl) (fun _ _ _ h=>h) (fun k c=>by rw[a.out]at c;cases c;exact Or.inl ⟨by rw[a.out];kernel_rfl,fun W g=>by go_simp⟩) f ?_
  go_frame
  by_cases h0:O.syms.length<=30
  ·have l0:(O.syms.length:Int)<=30:=by omega
   have d7:decide ((O.syms.length:Int)<=30)=true:=decide_eq_true l0
   refine takeI 13 (d:=some 19) (v:=.bool true) j.out (by have:=i.out;omega) (by rw[a.out];kernel_rfl) (fun _ _ _ h=>h) (fun k c=>by rw[a.out]at c;cases c;exact Or.inl ⟨by rw[a.out];kernel_rfl,fun W g=>by go_simp⟩) f ?_
   go_frame
   refine takeI 14 (d:=some 20) (v:=.bool true) j.out (by have:=i.out;omega) (by rw[a.out];kernel_rfl) (fun _ _ _ h=>h) (fun k c=>by rw[a.out]at c;cases c;exact Or.inl ⟨by rw[a.out];kernel_rfl,fun W g=>by go_simp⟩) f ?_
   go_frame
   refine takeI 15 (d:=some 21) (v:=.bool true) j.out (by have:=i.out;omega) (by rw[a.out];kernel_rfl) (fun _ _ _ h=>h) (fun k c=>by rw[a.out]at c;cases c;exact Or.inl ⟨by rw[a.out];kernel_rfl,fun W g=>by go_simp⟩) f ?_
   go_frame
   refine takeI 16 (d:=some 22) (v:=.pointer (some ⟨b,o,none⟩)) j.out (by have:=i.out;omega) (by rw[a.out];kernel_rfl) (fun _ _ _ h=>h) (fun k c=>by rw[a.out]at c;cases c;exact Or.inl ⟨by rw[a.out];kernel_rfl,fun W g=>by go_simp⟩) f ?_
   go_frame
   refine takeI 17 (d:=some 23) (v:=.pointer (some ⟨b,o,none⟩)) j.out (by have:=i.out;omega) (by rw[a.out];kernel_rfl) (fun _ _ _ h=>h) (fun k c=>by rw[a.out]at c;cases c;exact Or.inl ⟨by rw[a.out];kernel_rfl,fun W g=>by go_simp⟩) f ?_
   go_frame
   refine takeI 18 (d:=some 24) (v:=.pointer (some ⟨b,o+2,none⟩)) j.out (by have:=i.out;omega) (by rw[a.out];kernel_rfl) (fun _ _ _ h=>h) (fun k c=>by rw[a.out]at c;cases c;exact Or.inl ⟨by rw[a.out];kernel_rfl,fun W g=>by go_simp⟩) f ?_
   go_frame
   refine takeI 19 (d:=some 25) (v:=.slice P O.uses.length Q) j.out (by have:=i.out;omega) (by rw[a.out];kernel_rfl) (fun _ _ _ h=>h) (fun k c=>by rw[a.out]at c;cases c;exact Or.inl ⟨by rw[a.out];kernel_rfl,fun W g=>by go_simp⟩) f ?_
   go_frame
   refine takeI 20 (d:=some 26) (v:=.int .i64 (O.uses.length:Int)) j.out (by have:=i.out;omega) (by rw[a.out];kernel_rfl) (fun _ _ _ h=>h) (fun k c=>by rw[a.out]at c;cases c;exact Or.inl ⟨by rw[a.out];kernel_rfl,fun W g=>by go_simp⟩) f ?_
   go_frame
   by_cases z:O.uses.length<=10
   ·have l1:(O.uses.length:Int)<=10:=by omega
    have d8:decide ((O.uses.length:Int)<=10)=true:=decide_eq_true l1
    refine takeI 21 (d:=some 27) (v:=.bool true) j.out (by have:=i.out;omega) (by rw[a.out];kernel_rfl) (fun _ _ _ h=>h) (fun k c=>by rw[a.out]at c;cases c;exact Or.inl ⟨by rw[a.out];kernel_rfl,fun W g=>by go_simp⟩) f ?_
    go_frame
    refine takeI 22 (d:=some 28) (v:=.bool true) j.out (by have:=i.out;omega) (by rw[a.out];kernel_rfl) (fun _ _ _ h=>h) (fun k c=>by rw[a.out]at c;cases c;exact Or.inl ⟨by rw[a.out];kernel_rfl,fun W g=>by go_simp⟩) f ?_
    go_frame
    refine takeI 23 (d:=some 29) (v:=.bool true) j.out (by have:=i.out;omega) (by rw[a.out];kernel_rfl) (fun _ _ _ h=>h) (fun k c=>by rw[a.out]at c;cases c;exact Or.inl ⟨by rw[a.out];kernel_rfl,fun W g=>by go_simp⟩) f ?_
    go_frame
    refine takeI 24 (d:=some 30) (v:=.pointer (some ⟨b,o,none⟩)) j.out (by have:=i.out;omega) (by rw[a.out];kernel_rfl) (fun _ _ _ h=>h) (fun k c=>by rw[a.out]at c;cases c;exact Or.inl ⟨by rw[a.out];kernel_rfl,fun W g=>by go_simp⟩) f ?_
    go_frame
    refine takeI 25 (d:=some 31) (v:=.pointer (some ⟨b,o,none⟩)) j.out (by have:=i.out;omega) (by rw[a.out];kernel_rfl) (fun _ _ _ h=>h) (fun k c=>by rw[a.out]at c;cases c;exact Or.inl ⟨by rw[a.out];kernel_rfl,fun W g=>by go_simp⟩) f ?_
    go_frame
    refine takeI 26 (d:=some 32) (v:=.pointer (some ⟨b,o+3,none⟩)) j.out (by have:=i.out;omega) (by rw[a.out];kernel_rfl) (fun _ _ _ h=>h) (fun k c=>by rw[a.out]at c;cases c;exact Or.inl ⟨by rw[a.out];kernel_rfl,fun W g=>by go_simp⟩) f ?_
    go_frame
    refine takeI 27 (d:=some 33) (v:=.slice R O.vars.length T) j.out (by have:=i.out;omega) (by rw[a.out];kernel_rfl) (fun _ _ _ h=>h) (fun k c=>by rw[a.out]at c;cases c;exact Or.inl ⟨by rw[a.out];kernel_rfl,fun W g=>by go_simp⟩) f ?_
    go_frame
    refine takeI 28 (d:=some 34) (v:=.int .i64 (O.vars.length:Int)) j.out (by have:=i.out;omega) (by rw[a.out];kernel_rfl) (fun _ _ _ h=>h) (fun k c=>by rw[a.out]at c;cases c;exact Or.inl ⟨by rw[a.out];kernel_rfl,fun W g=>by go_simp⟩) f ?_
    go_frame
    by_cases A:O.vars.length<=15
    ·have l2:(O.vars.length:Int)<=15:=by omega
     have d9:decide ((O.vars.length:Int)<=15)=true:=decide_eq_true l2
     refine takeI 29 (d:=some 35) (v:=.bool true) j.out (by have:=i.out;omega) (by rw[a.out];kernel_rfl) (fun _ _ _ h=>h) (fun k c=>by rw[a.out]at c;cases c;exact Or.inl ⟨by rw[a.out];kernel_rfl,fun W g=>by go_simp⟩) f ?_
     go_frame
     refine takeI 30 (d:=some 36) (v:=.bool true) j.out (by have:=i.out;omega) (by rw[a.out];kernel_rfl) (fun _ _ _ h=>h) (fun k c=>by rw[a.out]at c;cases c;exact Or.inl ⟨by rw[a.out];kernel_rfl,fun W g=>by go_simp⟩) f ?_
     go_frame
     refine takeI 31 (d:=some 37) (v:=.bool true) j.out (by have:=i.out;omega) (by rw[a.out];kernel_rfl) (fun _ _ _ h=>h) (fun k c=>by rw[a.out]at c;cases c;exact Or.inl ⟨by rw[a.out];kernel_rfl,fun W g=>by go_simp⟩) f ?_
     go_frame
     refine takeI 32 (d:=some 38) (v:=.pointer (some ⟨b,o,none⟩)) j.out (by have:=i.out;omega) (by rw[a.out];kernel_rfl) (fun _ _ _ h=>h) (fun k c=>by rw[a.out]at c;cases c;exact Or.inl ⟨by rw[a.out];kernel_rfl,fun W g=>by go_simp⟩) f ?_
     go_frame
     refine takeI 33 (d:=some 39) (v:=.pointer (some ⟨b,o,none⟩)) j.out (by have:=i.out;omega) (by rw[a.out];kernel_rfl) (fun _ _ _ h=>h) (fun k c=>by rw[a.out]at c;cases c;exact Or.inl ⟨by rw[a.out];kernel_rfl,fun W g=>by go_simp⟩) f ?_
     go_frame
     refine takeI 34 (d:=some 40) (v:=.pointer (some ⟨b,o+4,none⟩)) j.out (by have:=i.out;omega) (by rw[a.out];kernel_rfl) (fun _ _ _ h=>h) (fun k c=>by rw[a.out]at c;cases c;exact Or.inl ⟨by rw[a.out];kernel_rfl,fun W g=>by go_simp⟩) f ?_
     go_frame
     refine takeI 35 (d:=some 41) (v:=.slice pa O.procs.length pc) j.out (by have:=i.out;omega) (by rw[a.out];kernel_rfl) (fun _ _ _ h=>h) (fun k c=>by rw[a.out]at c;cases c;exact Or.inl ⟨by rw[a.out];kernel_rfl,fun W g=>by go_simp⟩) f ?_
     go_frame
     refine takeI 36 (d:=some 42) (v:=.int .i64 (O.procs.length:Int)) j.out (by have:=i.out;omega) (by rw[a.out];kernel_rfl) (fun _ _ _ h=>h) (fun k c=>by rw[a.out]at c;cases c;exact Or.inl ⟨by rw[a.out];kernel_rfl,fun W g=>by go_simp⟩) f ?_
     go_frame
     by_cases h3:O.procs.length<=15
     ·have l3:(O.procs.length:Int)<=15:=by omega
      have e0:decide ((O.procs.length:Int)<=15)=true:=decide_eq_true l3
      refine takeI 37 (d:=some 43) (v:=.bool true) j.out (by have:=i.out;omega) (by rw[a.out];kernel_rfl) (fun _ _ _ h=>h) (fun k c=>by rw[a.out]at c;cases c;exact Or.inl ⟨by rw[a.out];kernel_rfl,fun W g=>by go_simp⟩) f ?_
      go_frame
      refine takeI 38 (d:=some 44) (v:=.bool true) j.out (by have:=i.out;omega) (by rw[a.out];kernel_rfl) (fun _ _ _ h=>h) (fun k c=>by rw[a.out]at c;cases c;exact Or.inl ⟨by rw[a.out];kernel_rfl,fun W g=>by go_simp⟩) f ?_
      go_frame
      refine takeI 39 (d:=some 45) (v:=.bool true) j.out (by have:=i.out;omega) (by rw[a.out];kernel_rfl) (fun _ _ _ h=>h) (fun k c=>by rw[a.out]at c;cases c;exact Or.inl ⟨by rw[a.out];kernel_rfl,fun W g=>by go_simp⟩) f ?_
      go_frame
      refine takeI 40 (d:=some 46) (v:=.pointer (some ⟨b,o,none⟩)) j.out (by have:=i.out;omega) (by rw[a.out];kernel_rfl) (fun _ _ _ h=>h) (fun k c=>by rw[a.out]at c;cases c;exact Or.inl ⟨by rw[a.out];kernel_rfl,fun W g=>by go_simp⟩) f ?_
      go_frame
      refine takeI 41 (d:=some 47) (v:=.pointer (some ⟨b,o,none⟩)) j.out (by have:=i.out;omega) (by rw[a.out];kernel_rfl) (fun _ _ _ h=>h) (fun k c=>by rw[a.out]at c;cases c;exact Or.inl ⟨by rw[a.out];kernel_rfl,fun W g=>by go_simp⟩) f ?_
      go_frame
      refine takeI 42 (d:=some 48) (v:=.pointer (some ⟨b,o+5,none⟩)) j.out (by have:=i.out;omega) (by rw[a.out];kernel_rfl) (fun _ _ _ h=>h) (fun k c=>by rw[a.out]at c;cases c;exact Or.inl ⟨by rw[a.out];kernel_rfl,fun W g=>by go_simp⟩) f ?_
      go_frame
      refine takeI 43 (d:=some 49) (v:=.slice L O.names.length M) j.out (by have:=i.out;omega) (by rw[a.out];kernel_rfl) (fun _ _ _ h=>h) (fun k c=>by rw[a.out]at c;cases c;exact Or.inl ⟨by rw[a.out];kernel_rfl,fun W g=>by go_simp⟩) f ?_
      go_frame
      refine takeI 44 (d:=some 50) (v:=.int .i64 (O.names.length:Int)) j.out (by have:=i.out;omega) (by rw[a.out];kernel_rfl) (fun _ _ _ h=>h) (fun k c=>by rw[a.out]at c;cases c;exact Or.inl ⟨by rw[a.out];kernel_rfl,fun W g=>by go_simp⟩) f ?_
      go_frame
      by_cases h4:O.names.length<=15
      ·have l4:(O.names.length:Int)<=15:=by omega
       have e1:decide ((O.names.length:Int)<=15)=true:=decide_eq_true l4
       refine takeI 45 (d:=some 51) (v:=.bool true) j.out (by have:=i.out;omega) (by rw[a.out];kernel_rfl) (fun _ _ _ h=>h) (fun k c=>by rw[a.out]at c;cases c;exact Or.inl ⟨by rw[a.out];kernel_rfl,fun W g=>by go_simp⟩) f ?_
       go_frame
       refine takeI 46 (d:=some 52) (v:=.bool true) j.out (by have:=i.out;omega) (by rw[a.out];kernel_rfl) (fun _ _ _ h=>h) (fun k c=>by rw[a.out]at c;cases c;exact Or.inl ⟨by rw[a.out];kernel_rfl,fun W g=>by go_simp⟩) f ?_
       go_frame
       refine takeI 47 (d:=some 53) (v:=.bool true) j.out (by have:=i.out;omega) (by rw[a.out];kernel_rfl) (fun _ _ _ h=>h) (fun k c=>by rw[a.out]at c;cases c;exact Or.inl ⟨by rw[a.out];kernel_rfl,fun W g=>by go_simp⟩) f ?_
       go_frame
       refine takeI 48 (d:=some 54) (v:=.pointer (some ⟨b,o,none⟩)) j.out (by have:=i.out;omega) (by rw[a.out];kernel_rfl) (fun _ _ _ h=>h) (fun k c=>by rw[a.out]at c;cases c;exact Or.inl ⟨by rw[a.out];kernel_rfl,fun W g=>by go_simp⟩) f ?_
       go_frame
       refine takeI 49 (d:=some 55) (v:=.pointer (some ⟨b,o,none⟩)) j.out (by have:=i.out;omega) (by rw[a.out];kernel_rfl) (fun _ _ _ h=>h) (fun k c=>by rw[a.out]at c;cases c;exact Or.inl ⟨by rw[a.out];kernel_rfl,fun W g=>by go_simp⟩) f ?_
       go_frame
       refine takeI 50 (d:=some 56) (v:=.pointer (some ⟨b,o+6,none⟩)) j.out (by have:=i.out;omega) (by rw[a.out];kernel_rfl) (fun _ _ _ h=>h) (fun k c=>by rw[a.out]at c;cases c;exact Or.inl ⟨by rw[a.out];kernel_rfl,fun W g=>by go_simp⟩) f ?_
       go_frame
       refine takeI 51 (d:=some 57) (v:=.slice ca O.code.length cc) j.out (by have:=i.out;omega) (by rw[a.out];kernel_rfl) (fun _ _ _ h=>h) (fun k c=>by rw[a.out]at c;cases c;exact Or.inl ⟨by rw[a.out];kernel_rfl,fun W g=>by go_simp⟩) f ?_
       go_frame
       refine takeI 52 (d:=some 58) (v:=.int .i64 (O.code.length:Int)) j.out (by have:=i.out;omega) (by rw[a.out];kernel_rfl) (fun _ _ _ h=>h) (fun k c=>by rw[a.out]at c;cases c;exact Or.inl ⟨by rw[a.out];kernel_rfl,fun W g=>by go_simp⟩) f ?_
       go_frame
       by_cases h5:O.code.length<=80
       ·have l5:(O.code.length:Int)<=80:=by omega
        have e2:decide ((O.code.length:Int)<=80)=true:=decide_eq_true l5
        refine takeI 53 (d:=some 59) (v:=.bool true) j.out (by have:=i.out;omega) (by rw[a.out];kernel_rfl) (fun _ _ _ h=>h) (fun k c=>by rw[a.out]at c;cases c;exact Or.inl ⟨by rw[a.out];kernel_rfl,fun W g=>by go_simp⟩) f ?_
        go_frame
        refine takeI 54 (d:=some 60) (v:=.bool true) j.out (by have:=i.out;omega) (by rw[a.out];kernel_rfl) (fun _ _ _ h=>h) (fun k c=>by rw[a.out]at c;cases c;exact Or.inl ⟨by rw[a.out];kernel_rfl,fun W g=>by go_simp⟩) f ?_
        go_frame
        refine takeI 55 (d:=some 61) (v:=.bool true) j.out (by have:=i.out;omega) (by rw[a.out];kernel_rfl) (fun _ _ _ h=>h) (fun k c=>by rw[a.out]at c;cases c;exact Or.inl ⟨by rw[a.out];kernel_rfl,fun W g=>by go_simp⟩) f ?_
        go_frame
        refine takeI 56 (d:=some 62) (v:=.pointer (some ⟨b,o,none⟩)) j.out (by have:=i.out;omega) (by rw[a.out];kernel_rfl) (fun _ _ _ h=>h) (fun k c=>by rw[a.out]at c;cases c;exact Or.inl ⟨by rw[a.out];kernel_rfl,fun W g=>by go_simp⟩) f ?_
        go_frame
        refine takeI 57 (d:=some 63) (v:=.pointer (some ⟨b,o,none⟩)) j.out (by have:=i.out;omega) (by rw[a.out];kernel_rfl) (fun _ _ _ h=>h) (fun k c=>by rw[a.out]at c;cases c;exact Or.inl ⟨by rw[a.out];kernel_rfl,fun W g=>by go_simp⟩) f ?_
        go_frame
        refine takeI 58 (d:=some 64) (v:=.pointer (some ⟨b,o+5,none⟩)) j.out (by have:=i.out;omega) (by rw[a.out];kernel_rfl) (fun _ _ _ h=>h) (fun k c=>by rw[a.out]at c;cases c;exact Or.inl ⟨by rw[a.out];kernel_rfl,fun W g=>by go_simp⟩) f ?_
        go_frame
        refine takeI 59 (d:=some 65) (v:=.slice L O.names.length M) j.out (by have:=i.out;omega) (by rw[a.out];kernel_rfl) (fun _ _ _ h=>h) (fun k c=>by rw[a.out]at c;cases c;exact Or.inl ⟨by rw[a.out];kernel_rfl,fun W g=>by go_simp⟩) f ?_
        go_frame
        refine takeI 60 (d:=some 66) (v:=.func (.func 12) #[] #[]) j.out (by have:=i.out;omega) (by rw[a.out];kernel_rfl) (fun _ _ _ h=>h) (fun k c=>by rw[a.out]at c;cases c;exact Or.inl ⟨by rw[a.out];kernel_rfl,fun W g=>by go_simp⟩) f ?_
        go_frame
        refine yU 61 (by rw[a.out];as_aux_lemma=>kernel_rfl) _ (by rw[a.out];rfl) (fun K C=>?_)
        rw[if_pos (by rw[a.out];kernel_rfl)]
        go_simp
        refine(c7.out (by omega) _ F.out).mono ?_
        rintro e e3⟨rfl,a7⟩
        have U:Hid (Below l.heap.size l e3):=F.out.trans (a7.mono F.out.size)
        have d1:=zh (Y.out _ U.out)
        clear a7 f
        go_frame
        refine C.out _ _ d1.out (fun f=>?_)
        clear C
        cases b2 with
        |true =>
         refine takeI 62 (d:=some 68) (v:=.bool false) j.out (by have:=i.out;omega) (by rw[a.out];kernel_rfl) (fun _ _ _ h=>h) (fun k c=>by rw[a.out]at c;cases c;exact Or.inl ⟨by rw[a.out];kernel_rfl,fun W g=>by go_simp⟩) f ?_
         go_frame
         refine yr (t:=2) (v:=.bool false) 29 63 j.out (fun _ _ d _ _ h=>by cases d<;>exact h) f (by rw[a.out];as_aux_lemma=>kernel_rfl) (by have:=i.out;omega) (by decide) ?_
         intro H z A
         clear f
         have B:Hid (r=false):=by
          show _=_
          rw[E.out]
          simp[*]
         go_wp2_with fail
         exact bodyPost_ret ((results_tmp rfl _ _ _).trans (by rw[z])) A ⟨by rw[B.out],q.out.trans (U.out.mono q.out.size)⟩
        |false =>
         refine takeI 62 (d:=some 68) (v:=.bool true) j.out (by have:=i.out;omega) (by rw[a.out];kernel_rfl) (fun _ _ _ h=>h) (fun k c=>by rw[a.out]at c;cases c;exact Or.inl ⟨by rw[a.out];kernel_rfl,fun W g=>by go_simp⟩) f ?_
         go_frame
         refine takeI 63 (d:=some 69) (v:=.bool true) j.out (by have:=i.out;omega) (by rw[a.out];kernel_rfl) (fun _ _ _ h=>h) (fun k c=>by rw[a.out]at c;cases c;exact Or.inl ⟨by rw[a.out];kernel_rfl,fun W g=>by go_simp⟩) f ?_
         go_frame
         refine takeI 64 (d:=some 70) (v:=.bool true) j.out (by have:=i.out;omega) (by rw[a.out];kernel_rfl) (fun _ _ _ h=>h) (fun k c=>by rw[a.out]at c;cases c;exact Or.inl ⟨by rw[a.out];kernel_rfl,fun W g=>by go_simp⟩) f ?_
         go_frame
         refine takeI 65 (d:=some 71) (v:=.pointer (some ⟨b,o,none⟩)) j.out (by have:=i.out;omega) (by rw[a.out];kernel_rfl) (fun _ _ _ h=>h) (fun k c=>by rw[a.out]at c;cases c;exact Or.inl ⟨by rw[a.out];kernel_rfl,fun W g=>by go_simp⟩) f ?_
         go_frame
         refine takeI 66 (d:=some 72) (v:=.pointer (some ⟨b,o,none⟩)) j.out (by have:=i.out;omega) (by rw[a.out];kernel_rfl) (fun _ _ _ h=>h) (fun k c=>by rw[a.out]at c;cases c;exact Or.inl ⟨by rw[a.out];kernel_rfl,fun W g=>by go_simp⟩) f ?_
         go_frame
         refine takeI 67 (d:=some 73) (v:=.pointer (some ⟨b,o+1,none⟩)) j.out (by have:=i.out;omega) (by rw[a.out];kernel_rfl) (fun _ _ _ h=>h) (fun k c=>by rw[a.out]at c;cases c;exact Or.inl ⟨by rw[a.out];kernel_rfl,fun W g=>by go_simp⟩) f ?_
         go_frame
         refine takeI 68 (d:=some 74) (v:=.slice N O.syms.length sc) j.out (by have:=i.out;omega) (by rw[a.out];kernel_rfl) (fun _ _ _ h=>h) (fun k c=>by rw[a.out]at c;cases c;exact Or.inl ⟨by rw[a.out];kernel_rfl,fun W g=>by go_simp⟩) f ?_
         go_frame
         refine takeI 69 (d:=some 75) (v:=.func (.func 15) #[] #[.pointer (some ⟨w.heap.size,0,none⟩)]) j.out (by have:=i.out;omega) (by rw[a.out];kernel_rfl) (fun _ _ _ h=>h) (fun k c=>by rw[a.out]at c;cases c;exact Or.inl ⟨by rw[a.out];kernel_rfl,fun W g=>by go_simp⟩) f ?_
         go_frame
         refine yU 70 (by rw[a.out];as_aux_lemma=>kernel_rfl) _ (by rw[a.out];rfl) (fun K C=>?_)
         rw[if_pos (by rw[a.out];kernel_rfl)]
         go_simp
         refine(c8.out (by omega) _ U.out).mono ?_
         rintro e e4⟨rfl,a8⟩
         have V:Hid (Below l.heap.size l e4):=U.out.trans (a8.mono U.out.size)
         have d2:=zh (Y.out _ V.out)
         clear a8 f
         go_frame
         refine C.out _ _ d2.out (fun f=>?_)
         clear C
         cases b3 with
         |true =>
          refine takeI 71 (d:=some 77) (v:=.bool false) j.out (by have:=i.out;omega) (by rw[a.out];kernel_rfl) (fun _ _ _ h=>h) (fun k c=>by rw[a.out]at c;cases c;exact Or.inl ⟨by rw[a.out];kernel_rfl,fun W g=>by go_simp⟩) f ?_
          go_frame
          refine yr (t:=2) (v:=.bool false) 20 72 j.out (fun _ _ d _ _ h=>by cases d<;>exact h) f (by rw[a.out];as_aux_lemma=>kernel_rfl) (by have:=i.out;omega) (by decide) ?_
          intro H z A
          clear f
          have B:Hid (r=false):=by
           show _=_
           rw[E.out]
           simp[*]
          go_wp2_with fail
          exact bodyPost_ret ((results_tmp rfl _ _ _).trans (by rw[z])) A ⟨by rw[B.out],q.out.trans (V.out.mono q.out.size)⟩
         |false =>
          refine takeI 71 (d:=some 77) (v:=.bool true) j.out (by have:=i.out;omega) (by rw[a.out];kernel_rfl) (fun _ _ _ h=>h) (fun k c=>by rw[a.out]at c;cases c;exact Or.inl ⟨by rw[a.out];kernel_rfl,fun W g=>by go_simp⟩) f ?_
          go_frame
          refine takeI 72 (d:=some 78) (v:=.bool true) j.out (by have:=i.out;omega) (by rw[a.out];kernel_rfl) (fun _ _ _ h=>h) (fun k c=>by rw[a.out]at c;cases c;exact Or.inl ⟨by rw[a.out];kernel_rfl,fun W g=>by go_simp⟩) f ?_
          go_frame
          refine takeI 73 (d:=some 79) (v:=.bool true) j.out (by have:=i.out;omega) (by rw[a.out];kernel_rfl) (fun _ _ _ h=>h) (fun k c=>by rw[a.out]at c;cases c;exact Or.inl ⟨by rw[a.out];kernel_rfl,fun W g=>by go_simp⟩) f ?_
          go_frame
          refine takeI 74 (d:=some 80) (v:=.pointer (some ⟨b,o,none⟩)) j.out (by have:=i.out;omega) (by rw[a.out];kernel_rfl) (fun _ _ _ h=>h) (fun k c=>by rw[a.out]at c;cases c;exact Or.inl ⟨by rw[a.out];kernel_rfl,fun W g=>by go_simp⟩) f ?_
          go_frame
          refine takeI 75 (d:=some 81) (v:=.pointer (some ⟨b,o,none⟩)) j.out (by have:=i.out;omega) (by rw[a.out];kernel_rfl) (fun _ _ _ h=>h) (fun k c=>by rw[a.out]at c;cases c;exact Or.inl ⟨by rw[a.out];kernel_rfl,fun W g=>by go_simp⟩) f ?_
          go_frame
          refine takeI 76 (d:=some 82) (v:=.pointer (some ⟨b,o+3,none⟩)) j.out (by have:=i.out;omega) (by rw[a.out];kernel_rfl) (fun _ _ _ h=>h) (fun k c=>by rw[a.out]at c;cases c;exact Or.inl ⟨by rw[a.out];kernel_rfl,fun W g=>by go_simp⟩) f ?_
          go_frame
          refine takeI 77 (d:=some 83) (v:=.slice R O.vars.length T) j.out (by have:=i.out;omega) (by rw[a.out];kernel_rfl) (fun _ _ _ h=>h) (fun k c=>by rw[a.out]at c;cases c;exact Or.inl ⟨by rw[a.out];kernel_rfl,fun W g=>by go_simp⟩) f ?_
          go_frame
          refine takeI 78 (d:=some 84) (v:=.func (.func 17) #[] #[.pointer (some ⟨w.heap.size,0,none⟩)]) j.out (by have:=i.out;omega) (by rw[a.out];kernel_rfl) (fun _ _ _ h=>h) (fun k c=>by rw[a.out]at c;cases c;exact Or.inl ⟨by rw[a.out];kernel_rfl,fun W g=>by go_simp⟩) f ?_
          go_frame
          refine yU 79 (by rw[a.out];as_aux_lemma=>kernel_rfl) _ (by rw[a.out];rfl) (fun K C=>?_)
          rw[if_pos (by rw[a.out];kernel_rfl)]
          go_simp
          refine(c9.out (by omega) _ V.out).mono ?_
          rintro e e5⟨rfl,a9⟩
          have X:Hid (Below l.heap.size l e5):=V.out.trans (a9.mono V.out.size)
          have d3:=zh (Y.out _ X.out)
          clear a9 f
          go_frame
          refine C.out _ _ d3.out (fun f=>?_)
          clear C
          cases b4 with
          |true =>
           refine takeI 80 (d:=some 86) (v:=.bool false) j.out (by have:=i.out;omega) (by rw[a.out];kernel_rfl) (fun _ _ _ h=>h) (fun k c=>by rw[a.out]at c;cases c;exact Or.inl ⟨by rw[a.out];kernel_rfl,fun W g=>by go_simp⟩) f ?_
           go_frame
           refine yr (t:=2) (v:=.bool false) 11 81 j.out (fun _ _ d _ _ h=>by cases d<;>exact h) f (by rw[a.out];as_aux_lemma=>kernel_rfl) (by have:=i.out;omega) (by decide) ?_
           intro H z A
           clear f
           have B:Hid (r=false):=by
            show _=_
            rw[E.out]
            simp[*]
           go_wp2_with fail
           exact bodyPost_ret ((results_tmp rfl _ _ _).trans (by rw[z])) A ⟨by rw[B.out],q.out.trans (X.out.mono q.out.size)⟩
          |false =>
           refine takeI 80 (d:=some 86) (v:=.bool true) j.out (by have:=i.out;omega) (by rw[a.out];kernel_rfl) (fun _ _ _ h=>h) (fun k c=>by rw[a.out]at c;cases c;exact Or.inl ⟨by rw[a.out];kernel_rfl,fun W g=>by go_simp⟩) f ?_
           go_frame
           refine takeI 81 (d:=some 87) (v:=.bool true) j.out (by have:=i.out;omega) (by rw[a.out];kernel_rfl) (fun _ _ _ h=>h) (fun k c=>by rw[a.out]at c;cases c;exact Or.inl ⟨by rw[a.out];kernel_rfl,fun W g=>by go_simp⟩) f ?_
           go_frame
           refine takeI 82 (d:=some 88) (v:=.bool true) j.out (by have:=i.out;omega) (by rw[a.out];kernel_rfl) (fun _ _ _ h=>h) (fun k c=>by rw[a.out]at c;cases c;exact Or.inl ⟨by rw[a.out];kernel_rfl,fun W g=>by go_simp⟩) f ?_
           go_frame
           refine takeI 83 (d:=some 89) (v:=.pointer (some ⟨b,o,none⟩)) j.out (by have:=i.out;omega) (by rw[a.out];kernel_rfl) (fun _ _ _ h=>h) (fun k c=>by rw[a.out]at c;cases c;exact Or.inl ⟨by rw[a.out];kernel_rfl,fun W g=>by go_simp⟩) f ?_
           go_frame
           refine takeI 84 (d:=some 90) (v:=.pointer (some ⟨b,o,none⟩)) j.out (by have:=i.out;omega) (by rw[a.out];kernel_rfl) (fun _ _ _ h=>h) (fun k c=>by rw[a.out]at c;cases c;exact Or.inl ⟨by rw[a.out];kernel_rfl,fun W g=>by go_simp⟩) f ?_
           go_frame
           refine takeI 85 (d:=some 91) (v:=.pointer (some ⟨b,o+2,none⟩)) j.out (by have:=i.out;omega) (by rw[a.out];kernel_rfl) (fun _ _ _ h=>h) (fun k c=>by rw[a.out]at c;cases c;exact Or.inl ⟨by rw[a.out];kernel_rfl,fun W g=>by go_simp⟩) f ?_
           go_frame
           refine takeI 86 (d:=some 92) (v:=.slice P O.uses.length Q) j.out (by have:=i.out;omega) (by rw[a.out];kernel_rfl) (fun _ _ _ h=>h) (fun k c=>by rw[a.out]at c;cases c;exact Or.inl ⟨by rw[a.out];kernel_rfl,fun W g=>by go_simp⟩) f ?_
           go_frame
           refine takeI 87 (d:=some 93) (v:=.func (.func 19) #[] #[.pointer (some ⟨w.heap.size,0,none⟩)]) j.out (by have:=i.out;omega) (by rw[a.out];kernel_rfl) (fun _ _ _ h=>h) (fun k c=>by rw[a.out]at c;cases c;exact Or.inl ⟨by rw[a.out];kernel_rfl,fun W g=>by go_simp⟩) f ?_
           go_frame
           refine yU 88 (by rw[a.out];as_aux_lemma=>kernel_rfl) _ (by rw[a.out];rfl) (fun K C=>?_)
           rw[if_pos (by rw[a.out];kernel_rfl)]
           go_simp
           refine(d0.out (by omega) _ X.out).mono ?_
           rintro e e6⟨rfl,b0⟩
           have a3:Hid (Below l.heap.size l e6):=X.out.trans (b0.mono X.out.size)
           have d4:=zh (Y.out _ a3.out)
           clear b0 f
           go_frame
           refine C.out _ _ d4.out (fun f=>?_)
           clear C
           cases b5 with
           |true =>
            refine takeI 89 (d:=some 95) (v:=.bool false) j.out (by have:=i.out;omega) (by rw[a.out];kernel_rfl) (fun _ _ _ h=>h) (fun k c=>by rw[a.out]at c;cases c;exact Or.inl ⟨by rw[a.out];kernel_rfl,fun W g=>by go_simp⟩) f ?_
            go_frame
            refine yr (t:=2) (v:=.bool false) 2 90 j.out (fun _ _ d _ _ h=>by cases d<;>exact h) f (by rw[a.out];as_aux_lemma=>kernel_rfl) (by have:=i.out;omega) (by decide) ?_
            intro H z A
            clear f
            have B:Hid (r=false):=by
             show _=_
             rw[E.out]
             simp[*]
            go_wp2_with fail
            exact bodyPost_ret ((results_tmp rfl _ _ _).trans (by rw[z])) A ⟨by rw[B.out],q.out.trans (a3.out.mono q.out.size)⟩
           |false =>
            refine takeI 89 (d:=some 95) (v:=.bool true) j.out (by have:=i.out;omega) (by rw[a.out];kernel_rfl) (fun _ _ _ h=>h) (fun k c=>by rw[a.out]at c;cases c;exact Or.inl ⟨by rw[a.out];kernel_rfl,fun W g=>by go_simp⟩) f ?_
            go_frame
            refine yr (t:=2) (v:=.bool true) 2 90 j.out (fun _ _ d _ _ h=>by cases d<;>exact h) f (by rw[a.out];as_aux_lemma=>kernel_rfl) (by have:=i.out;omega) (by decide) ?_
            intro H z A
            clear f
            have B:Hid (r=true):=by
             show _=_
             rw[E.out]
             simp[*]
            go_wp2_with fail
            exact bodyPost_ret ((results_tmp rfl _ _ _).trans (by rw[z])) A ⟨by rw[B.out],q.out.trans (a3.out.mono q.out.size)⟩
       ·have l5:(80:Int)<(O.code.length:Int):=by omega
        have e2:decide ((O.code.length:Int)<=80)=false:=decide_eq_false (by omega)
        refine takeI 53 (d:=some 59) (v:=.bool false) j.out (by have:=i.out;omega) (by rw[a.out];kernel_rfl) (fun _ _ _ h=>h) (fun k c=>by rw[a.out]at c;cases c;exact Or.inl ⟨by rw[a.out];kernel_rfl,fun W g=>by go_simp⟩) f ?_
        go_frame
        refine yr (t:=2) (v:=.bool false) 38 54 j.out (fun _ _ d _ _ h=>by cases d<;>exact h) f (by rw[a.out];as_aux_lemma=>kernel_rfl) (by have:=i.out;omega) (by decide) ?_
        intro H z A
        clear f
        have B:Hid (r=false):=by
         show _=_
         rw[E.out]
         simp[*]
        go_wp2_with fail
        exact bodyPost_ret ((results_tmp rfl _ _ _).trans (by rw[z])) A ⟨by rw[B.out],q.out.trans (F.out.mono q.out.size)⟩
      ·have l4:(15:Int)<(O.names.length:Int):=by omega
       have e1:decide ((O.names.length:Int)<=15)=false:=decide_eq_false (by omega)
       refine takeI 45 (d:=some 51) (v:=.bool false) j.out (by have:=i.out;omega) (by rw[a.out];kernel_rfl) (fun _ _ _ h=>h) (fun k c=>by rw[a.out]at c;cases c;exact Or.inl ⟨by rw[a.out];kernel_rfl,fun W g=>by go_simp⟩) f ?_
       go_frame
       refine yr (t:=2) (v:=.bool false) 46 46 j.out (fun _ _ d _ _ h=>by cases d<;>exact h) f (by rw[a.out];as_aux_lemma=>kernel_rfl) (by have:=i.out;omega) (by decide) ?_
       intro H z A
       clear f
       have B:Hid (r=false):=by
        show _=_
        rw[E.out]
        simp[*]
       go_wp2_with fail
       exact bodyPost_ret ((results_tmp rfl _ _ _).trans (by rw[z])) A ⟨by rw[B.out],q.out.trans (F.out.mono q.out.size)⟩
     ·have l3:(15:Int)<(O.procs.length:Int):=by omega
      have e0:decide ((O.procs.length:Int)<=15)=false:=decide_eq_false (by omega)
      refine takeI 37 (d:=some 43) (v:=.bool false) j.out (by have:=i.out;omega) (by rw[a.out];kernel_rfl) (fun _ _ _ h=>h) (fun k c=>by rw[a.out]at c;cases c;exact Or.inl ⟨by rw[a.out];kernel_rfl,fun W g=>by go_simp⟩) f ?_
      go_frame
      refine yr (t:=2) (v:=.bool false) 54 38 j.out (fun _ _ d _ _ h=>by cases d<;>exact h) f (by rw[a.out];as_aux_lemma=>kernel_rfl) (by have:=i.out;omega) (by decide) ?_
      intro H z A
      clear f
      have B:Hid (r=false):=by
       show _=_
       rw[E.out]
       simp[*]
      go_wp2_with fail
      exact bodyPost_ret ((results_tmp rfl _ _ _).trans (by rw[z])) A ⟨by rw[B.out],q.out.trans (F.out.mono q.out.size)⟩
    ·have l2:(15:Int)<(O.vars.length:Int):=by omega
     have d9:decide ((O.vars.length:Int)<=15)=false:=decide_eq_false (by omega)
     refine takeI 29 (d:=some 35) (v:=.bool false) j.out (by have:=i.out;omega) (by rw[a.out];kernel_rfl) (fun _ _ _ h=>h) (fun k c=>by rw[a.out]at c;cases c;exact Or.inl ⟨by rw[a.out];kernel_rfl,fun W g=>by go_simp⟩) f ?_
     go_frame
     refine yr (t:=2) (v:=.bool false) 62 30 j.out (fun _ _ d _ _ h=>by cases d<;>exact h) f (by rw[a.out];as_aux_lemma=>kernel_rfl) (by have:=i.out;omega) (by decide) ?_
     intro H z A
     clear f
     have B:Hid (r=false):=by
      show _=_
      rw[E.out]
      simp[*]
     go_wp2_with fail
     exact bodyPost_ret ((results_tmp rfl _ _ _).trans (by rw[z])) A ⟨by rw[B.out],q.out.trans (F.out.mono q.out.size)⟩
   ·have l1:(10:Int)<(O.uses.length:Int):=by omega
    have d8:decide ((O.uses.length:Int)<=10)=false:=decide_eq_false (by omega)
    refine takeI 21 (d:=some 27) (v:=.bool false) j.out (by have:=i.out;omega) (by rw[a.out];kernel_rfl) (fun _ _ _ h=>h) (fun k c=>by rw[a.out]at c;cases c;exact Or.inl ⟨by rw[a.out];kernel_rfl,fun W g=>by go_simp⟩) f ?_
    go_frame
    refine yr (t:=2) (v:=.bool false) 70 22 j.out (fun _ _ d _ _ h=>by cases d<;>exact h) f (by rw[a.out];as_aux_lemma=>kernel_rfl) (by have:=i.out;omega) (by decide) ?_
    intro H z A
    clear f
    have B:Hid (r=false):=by
     show _=_
     rw[E.out]
     simp[*]
    go_wp2_with fail
    exact bodyPost_ret ((results_tmp rfl _ _ _).trans (by rw[z])) A ⟨by rw[B.out],q.out.trans (F.out.mono q.out.size)⟩
  ·have l0:(30:Int)<(O.syms.length:Int):=by omega
   have d7:decide ((O.syms.length:Int)<=30)=false:=decide_eq_false (by omega)
   refine takeI 13 (d:=some 19) (v:=.bool false) j.out (by have:=i.out;omega) (by rw[a.out];kernel_rfl) (fun _ _ _ h=>h) (fun k c=>by rw[a.out]at c;cases c;exact Or.inl ⟨by rw[a.out];kernel_rfl,fun W g=>by go_simp⟩) f ?_
   go_frame
   refine yr (t:=2) (v:=.bool false) 78 14 j.out (fun _ _ d _ _ h=>by cases d<;>exact h) f (by rw[a.out];as_aux_lemma=>kernel_rfl) (by have:=i.out;omega) (by decide) ?_
   intro H z A
   clear f
   have B:Hid (r=false):=by
    show _=_
    rw[E.out]
    simp[*]
   go_wp2_with fail
   exact bodyPost_ret ((results_tmp rfl _ _ _).trans (by rw[z])) A ⟨by rw[B.out],q.out.trans (F.out.mono q.out.size)⟩
end Go.Proofs.YtbkndnmglhghlaaGreatDoor.Jo

namespace Go.Proofs.YtbkndnmglhghlaaGreatDoor.Jo
open Go.RowKit
open Ob (Bs)
open Go.Deep
section
variable {H:Type} {enc:TypeId×Value->H} {P:Program} {w:World} {base:Nat} {spare:Nat->Bool} {held:Bool}
theorem yR {α:Type}{P:Nat->α->Prop}:∀(n:Nat),(∀i,i<n->∃x,P i x)->∃l:List α,l.length=n/\∀i (h:i<l.length),P i l[i]:=by
 intro n
 induction n with
 |zero=>intro _;exact⟨[],rfl,fun i h=>by simp at h⟩
 |succ n ih =>
  intro h
  obtain⟨l,b,d⟩:=ih (fun i c=>h i (by omega))
  obtain⟨x,e⟩:=h n (by omega)
  refine⟨l++[x],by simp[b],fun i c=>?_⟩
  by_cases a:i<l.length
  ·rw[List.getElem_append_left a];exact d i a
  ·have:i=l.length:=by simp at c;omega
   subst this
   rw[List.getElem_append_right (by omega)]
   simp only[Nat.sub_self,List.getElem_cons_zero]
   rw[b];exact e
theorem sl_of {α:Type}{c:α->List Value}{k:Nat}(d:∀x,(c x).length=k)(p:0<k){a:Option Addr}{cap:Nat}{l:List α}(h:∀i (f:i<l.length) r,r<k->∃b o,a=some ⟨b,o,none⟩/\w.cell? ⟨b,o+(i*k+r),none⟩=(c l[i])[r]?):Sl w (.slice a l.length cap) k l.length (cellsOf c l):=by
 refine⟨a,cap,rfl,jI d l,fun j u n=>?_⟩
 have g:=(List.getElem?_eq_some_iff.1 n).1
 rw[jI d]at g
 have f:j / k<l.length:=by rw[Nat.div_lt_iff_lt_mul p];exact g
 have q:j % k<k:=Nat.mod_lt _ p
 have e:j / k*k+j % k=j:=by rw[Nat.mul_comm];exact Nat.div_add_mod j k
 obtain⟨b,o,s,m⟩:=h (j / k) f (j % k) q
 refine⟨b,o,s,?_⟩
 rw[e]at m
 rw[m,<-kP d l (j / k) (j % k) f q,e]
 exact n
theorem kg {t e:TypeId}{fs:Array Field}{A:Nat}{q:List Value}{x:DataW H×List MemPlace}(R:P.underlying t=some (.slice e))(M:P.underlying e=some (.struct fs))
  (C:∀(i:Nat) (f:Field),fs[i]?=some f->f.offset=i/\P.cellsOf f.type=1)(s:P.cellsOf e=fs.size)(E:0<fs.size)(h:DataW.trod enc P w base spare held A t q=some x) :
  ∃(a:Option Addr) (len cap:Nat),q=[.slice a len cap]/\∀i,i<len->∃(b o n:Nat) (V:Nat->Value),a=some ⟨b,o,none⟩ /\
   ∀(j:Nat) (f:Field),fs[j]?=some f->w.cell? ⟨b,o+(i*fs.size+j),none⟩=some (V j)/\∃y,DataW.trod enc P w base spare held n f.type [V j]=some y:=by
 rcases open_slice R h with⟨rfl,_⟩|⟨a,len,cap,m,n,D,Pl,rfl,hb,hlc,hcm,hm,_,hall⟩
 ·exact⟨none,0,0,rfl,fun i O=>by omega⟩
 ·refine⟨some a,len,cap,rfl,fun i O=>?_⟩
  have G:i<m:=by rw[hm];split<;>omega
  have l:a.spot=none:=by
   obtain⟨U,J,X⟩:=hall 0 (by omega)
   obtain⟨_,v,g⟩:=World.cells?_some J
   rw[s]at v g
   have r:=g 0 E
   rw[List.getElem?_eq_getElem (by omega)]at r
   simpa[Addr.add] using World.cell?_spot r
  obtain⟨cs',K,L⟩:=hall i G
  obtain⟨_,B,k⟩:=World.cells?_some K
  rw[s]at B k
  obtain⟨xs,S,_,_,_,W,N⟩:=DataW.trod_struct M L
  obtain⟨b,o,T⟩:=a
  simp only at l
  subst l
  refine⟨b,o,S,fun j=>cs'.getD j undef,rfl,fun j f d=>?_⟩
  have I:j<fs.size:=(Array.getElem?_eq_some_iff.1 d).1
  obtain⟨Q,z⟩:=C j f d
  have p:=k j I
  rw[List.getElem?_eq_getElem (by omega)]at p
  have u:cs'.getD j undef=cs'[j]'(by omega):=by simp[List.getD,List.getElem?_eq_getElem (show j<cs'.length by omega)]
  have c:=N j f d
  rw[Q,z]at c
  have F:(cs'.drop j).take 1=[cs'[j]'(by omega)]:=by
   rw[List.drop_eq_getElem_cons (by omega)];rfl
  rw[F,List.getElem?_eq_getElem (by omega)]at c
  refine⟨?_,_,by simp only[u];exact c⟩
  simp only[u]
  rw[<-p,Addr.add_lit,Addr.add_lit,Nat.add_assoc]
theorem kV {t:TypeId}{b:Nat}{v:Value}{x:DataW H×List MemPlace}(c:P.underlying t=some .string)(h:DataW.trod enc P w base spare held b t [v]=some x):∃s:Bs,v=.string (bs s):=by
 obtain⟨s,a,_⟩:=DataW.trod_string c h
 simp at a
 exact⟨s.data.toList,by rw[a,bs_data]⟩
theorem yB {t:TypeId}{b:Nat}{v:Value}{x:DataW H×List MemPlace}(d:P.underlying t=some (.int .i64))(h:DataW.trod enc P w base spare held b t [v]=some x):∃n:Int,v=.int .i64 n/\Ob.I64 n:=by
 obtain⟨n,a,_,c⟩:=DataW.trod_int d h
 simp at a
 refine⟨n,a,?_⟩
 simp only[Lit.wf,IntKind.min,IntKind.max,IntKind.signed,IntKind.bits,Bool.and_eq_true,decide_eq_true_eq,if_true]at c
 unfold Ob.I64
 omega
theorem open_bool {t:TypeId}{c:Nat}{v:Value}{x:DataW H×List MemPlace}(d:P.underlying t=some .bool)(h:DataW.trod enc P w base spare held c t [v]=some x):∃b:Bool,v=.bool b:=by
 obtain⟨b,a,_⟩:=DataW.trod_bool d h
 simp at a
 exact⟨b,a⟩
theorem jW {t e:TypeId}{k:Nat}{v:Value}{x:DataW H×List MemPlace}(E:P.underlying t=some (.slice e))(A:P.underlying e=some .string)(z:P.cellsOf e=1)(h:DataW.trod enc P w base spare held k t [v]=some x) :
  ∃(ns:List Bs) (a:Option Addr) (cap:Nat),v=.slice a ns.length cap/\Sl w (.slice a ns.length cap) 1 ns.length (cellsOf stC ns):=by
 rcases open_strs E A z h with⟨c,_⟩|⟨a,len,cap,m,Sx,c,_,hlc,_,hm,_,hall⟩
 ·simp at c
  exact⟨[],none,0,c,⟨_,_,rfl,by simp[cellsOf],fun j u B=>by simp[cellsOf]at B⟩⟩
 ·simp at c
  obtain⟨l,C,D⟩:=yR (P:=fun i (s:Bs)=>∃b o,a=⟨b,o,none⟩/\w.cell? ⟨b,o+i,none⟩=some (.string (bs s))) len (fun i d=>by
   have y:i<m:=by rw[hm];split<;>omega
   obtain⟨q,_⟩:=hall i y
   obtain⟨p,_⟩:=hall 0 (by omega)
   obtain⟨b,o,n⟩:=a
   have g:n=none:=by simpa[Addr.add] using World.cell?_spot p
   subst g
   exact⟨(Sx i).data.toList,b,o,rfl,by rw[bs_data,<-q,Addr.add_lit]⟩)
  refine⟨l,some a,cap,by rw[c,C],sl_of xu (by omega) (fun i d r F=>?_)⟩
  obtain⟨b,o,rfl,f⟩:=D i d
  obtain rfl:r=0:=by omega
  exact⟨b,o,rfl,by rw[Nat.mul_one,Nat.add_zero];exact f⟩
theorem ud:∀(l:List (Ob.Us×Value)),(∀x∈l,Sl w x.2 1 x.1.names.length (cellsOf stC x.1.names))->RepN w (l.map (·.1)) (cellsOf (fun x:Ob.Us×Value=>[.string (bs x.1.name),.string (bs x.1.need),x.2]) l):=by
 intro l
 induction l with
 |nil=>intro _;exact rfl
 |cons x l ih=>intro h;exact⟨x.2,_,rfl,h x (by simp),ih (fun y a=>h y (by simp[a]))⟩
end
theorem two_of (P:Nat->Prop)(a:P 0)(b:P 1)(c:P 2):∀r,r<3->P r:=by
 intro r d
 match r,d with
 | 0,_=>exact a
 | 1,_=>exact b
 | 2,_=>exact c
theorem open_object {H:Type}{enc:TypeId×Value->H}{w:World}{a1:Nat}{a0:Nat->Bool}{a4:Bool}{a3:Nat}{v:Value}{x:DataW H×List MemPlace}(h:DataW.trod enc Tryz.prog w a1 a0 a4 a3 22 [v]=some x) :
  ∃p,v=.pointer p/\(p=none\/∃b o O,p=some ⟨b,o,none⟩/\OA w b o O/\∀x∈O.code,Ob.I64 x.a):=by
 rcases open_ptr_fields Tryz.underlying22 Tryz.underlying49 (hone_of (by kernel_rfl)) (by kernel_rfl) (by decide) h with⟨C,_⟩|⟨b,o,n,V,Y,C,_,_,hf⟩
 ·simp at C
  exact⟨none,C,Or.inl rfl⟩
 ·simp at C
  refine⟨_,C,Or.inr ?_⟩
  obtain⟨S,t0⟩:=hf 0 _ rfl
  obtain⟨c1,t1⟩:=hf 1 _ rfl
  obtain⟨c2,t2⟩:=hf 2 _ rfl
  obtain⟨T,t3⟩:=hf 3 _ rfl
  obtain⟨W,t4⟩:=hf 4 _ rfl
  obtain⟨X,t5⟩:=hf 5 _ rfl
  obtain⟨Z,t6⟩:=hf 6 _ rfl
  obtain⟨nm,a8⟩:=kV Tryz.underlying9 t0
  obtain⟨sa,sl,sc,hs,b5⟩:=kg Tryz.underlying42 Tryz.underlying53 (hone_of (by kernel_rfl)) (by kernel_rfl) (by decide) t1
  obtain⟨ss,b2,b4⟩:=yR (P:=fun i (s:Ob.Sm)=>∃b o,sa=some ⟨b,o,none⟩/\∀r,r<3->w.cell? ⟨b,o+(i*3+r),none⟩=(smC s)[r]?) sl (fun i d=>by
   obtain⟨b,o,D,U,f,e⟩:=b5 i d
   obtain⟨g,G,q0⟩:=e 0 _ rfl
   obtain⟨j,I,y⟩:=e 1 _ rfl
   obtain⟨k,J,z⟩:=e 2 _ rfl
   obtain⟨s0,q⟩:=kV Tryz.underlying9 q0
   obtain⟨A,t,_⟩:=yB Tryz.underlying3 y
   obtain⟨B,u,_⟩:=yB Tryz.underlying3 z
   exact⟨⟨s0,A,B⟩,b,o,f,two_of _ (by rw[q]at g;exact g) (by rw[t]at j;exact j) (by rw[u]at k;exact k)⟩)
  obtain⟨ua,ul,uc,hu,b7⟩:=kg Tryz.underlying43 Tryz.underlying61 (hone_of (by kernel_rfl)) (by kernel_rfl) (by decide) t2
  obtain⟨F,b6,R⟩:=yR (P:=fun i (s:Ob.Us×Value)=>Sl w s.2 1 s.1.names.length (cellsOf stC s.1.names)/\∃b o,ua=some ⟨b,o,none⟩/\∀r,r<3->w.cell? ⟨b,o+(i*3+r),none⟩=[Value.string (bs s.1.name),Value.string (bs s.1.need),s.2][r]?) ul (fun i d=>by
   obtain⟨b,o,D,U,f,e⟩:=b7 i d
   obtain⟨g,G,q0⟩:=e 0 _ rfl
   obtain⟨j,I,y⟩:=e 1 _ rfl
   obtain⟨k,J,z⟩:=e 2 _ rfl
   obtain⟨s0,q⟩:=kV Tryz.underlying9 q0
   obtain⟨s1,t⟩:=kV Tryz.underlying9 y
   obtain⟨E,a',a2,u,K⟩:=jW Tryz.underlying46 Tryz.underlying9 (by kernel_rfl) z
   exact⟨(⟨s0,s1,E⟩,.slice a' E.length a2),K,b,o,f,two_of _ (by rw[q]at g;exact g) (by rw[t]at j;exact j) (by rw[u]at k;exact k)⟩)
  obtain⟨va,vl,vc,hv,c7⟩:=kg Tryz.underlying44 Tryz.underlying57 (hone_of (by kernel_rfl)) (by kernel_rfl) (by decide) t3
  obtain⟨vs,b8,b9⟩:=yR (P:=fun i (s:Ob.Gl)=>∃b o,va=some ⟨b,o,none⟩/\∀r,r<4->w.cell? ⟨b,o+(i*4+r),none⟩=(glC s)[r]?) vl (fun i d=>by
   obtain⟨b,o,D,U,f,e⟩:=c7 i d
   obtain⟨g,G,q0⟩:=e 0 _ rfl
   obtain⟨j,I,y⟩:=e 1 _ rfl
   obtain⟨k,J,z⟩:=e 2 _ rfl
   obtain⟨k3,y3,q3⟩:=e 3 _ rfl
   obtain⟨s0,q⟩:=kV Tryz.underlying9 q0
   obtain⟨A,t,_⟩:=yB Tryz.underlying3 y
   obtain⟨B,u,_⟩:=yB Tryz.underlying3 z
   obtain⟨b3,K⟩:=open_bool Tryz.underlying4 q3
   refine⟨⟨s0,A,B,b3⟩,b,o,f,fun r l=>?_⟩
   match r,l with
   | 0,_=>rw[q]at g;exact g
   | 1,_=>rw[t]at j;exact j
   | 2,_=>rw[u]at k;exact k
   | 3,_=>rw[K]at k3;exact k3)
  obtain⟨pa,pl,pc,hp,b1⟩:=kg Tryz.underlying45 Tryz.underlying112 (hone_of (by kernel_rfl)) (by kernel_rfl) (by decide) t4
  obtain⟨ps,a9,b0⟩:=yR (P:=fun i (s:Ob.En)=>∃b o,pa=some ⟨b,o,none⟩/\∀r,r<3->w.cell? ⟨b,o+(i*3+r),none⟩=(enC s)[r]?) pl (fun i d=>by
   obtain⟨b,o,D,U,f,e⟩:=b1 i d
   obtain⟨g,G,q0⟩:=e 0 _ rfl
   obtain⟨j,I,y⟩:=e 1 _ rfl
   obtain⟨k,J,z⟩:=e 2 _ rfl
   obtain⟨M,q,_⟩:=yB Tryz.underlying3 q0
   obtain⟨A,t,_⟩:=yB Tryz.underlying3 y
   obtain⟨B,u,_⟩:=yB Tryz.underlying3 z
   exact⟨⟨M,A,B⟩,b,o,f,two_of _ (by rw[q]at g;exact g) (by rw[t]at j;exact j) (by rw[u]at k;exact k)⟩)
  obtain⟨E,na,nc,hn,a7⟩:=jW Tryz.underlying46 Tryz.underlying9 (by kernel_rfl) t5
  obtain⟨ca,cl,cc,hc,a6⟩:=kg Tryz.underlying47 Tryz.underlying138 (hone_of (by kernel_rfl)) (by kernel_rfl) (by decide) t6
  obtain⟨cs,a5,Q⟩:=yR (P:=fun i (s:Ob.In)=>Ob.I64 s.a/\∃b o,ca=some ⟨b,o,none⟩/\∀r,r<3->w.cell? ⟨b,o+(i*3+r),none⟩=(inC s)[r]?) cl (fun i d=>by
   obtain⟨b,o,D,U,f,e⟩:=a6 i d
   obtain⟨g,G,q0⟩:=e 0 _ rfl
   obtain⟨j,I,y⟩:=e 1 _ rfl
   obtain⟨k,J,z⟩:=e 2 _ rfl
   obtain⟨M,q,_⟩:=yB Tryz.underlying3 q0
   obtain⟨A,t,r1⟩:=yB Tryz.underlying2 y
   obtain⟨B,u,_⟩:=yB Tryz.underlying2 z
   exact⟨⟨M,A,B⟩,r1,b,o,f,two_of _ (by rw[q]at g;exact g) (by rw[t]at j;exact j) (by rw[u]at k;exact k)⟩)
  simp at hs hu hv hp hc
  rw[a8]at S
  rw[hs,<-b2]at c1
  rw[hu,<-b6]at c2
  rw[hv,<-b8]at T
  rw[hp,<-a9]at W
  rw[hn]at X
  rw[hc,<-a5]at Z
  have N:(F.map (·.1)).length=F.length:=by simp
  refine⟨b,o,⟨nm,ss,F.map (·.1),vs,ps,E,cs⟩,rfl,⟨sa,ua,va,pa,na,ca,sc,uc,vc,pc,nc,cc,⟨S,c1,by rw[N];exact c2,T,W,X,Z,?_,?_,?_,?_,a7,?_⟩⟩,?_⟩
  ·exact sl_of xv (by omega) (fun i d r l=>by obtain⟨b,o,f,m⟩:=b4 i d;exact⟨b,o,f,m r l⟩)
  ·refine⟨_,ud F (fun x L=>by obtain⟨i,d,rfl⟩:=List.getElem_of_mem L;exact(R i d).1),?_⟩
   rw[N]
   exact sl_of (c:=fun x:Ob.Us×Value=>[.string (bs x.1.name),.string (bs x.1.need),x.2]) (fun _=>rfl) (by omega) (fun i d r l=>by obtain⟨_,b,o,f,m⟩:=R i d;exact⟨b,o,f,m r l⟩)
  ·exact sl_of uz (by omega) (fun i d r l=>by obtain⟨b,o,f,m⟩:=b9 i d;exact⟨b,o,f,m r l⟩)
  ·exact sl_of xO (by omega) (fun i d r l=>by obtain⟨b,o,f,m⟩:=b0 i d;exact⟨b,o,f,m r l⟩)
  ·exact sl_of xH (by omega) (fun i d r l=>by obtain⟨_,b,o,f,m⟩:=Q i d;exact⟨b,o,f,m r l⟩)
  ·intro x L
   obtain⟨i,d,rfl⟩:=List.getElem_of_mem L
   exact(Q i d).1
end Go.Proofs.YtbkndnmglhghlaaGreatDoor.Jo
