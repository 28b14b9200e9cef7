import Derived.Test.YtmnedfdffbbchaaGreatDoorKJd
set_option maxRecDepth 100000
set_option maxHeartbeats 4000000

namespace Go.Proofs.YtmnedfdffbbchaaGreatDoor.Jo
open Go.RowKit
open Ob (Bs)
theorem xV (w:World):Calls Tryz.prog 4 #[.pointer none] w fun e w'=>e=.returned (.bool true)/\Below w.heap.size w w':=by
 go_enter Tryz.func4,Tryz.ntmps4
 go_wp2_with fail
 go_ret
 exact⟨rfl,Below.refl _ _⟩
theorem small_ov {w:World}{b o:Nat}{O:Ob.O}{sa ua va pa na ca:Option Addr}{sc uc vc pc nc cc:Nat}(hV:OV w b o O sa ua va pa na ca sc uc vc pc nc cc) :
  Calls Tryz.prog 4 #[.pointer (some ⟨b,o,none⟩)] w fun e w'=>e=.returned (.bool (smallB O))/\Below w.heap.size w w':=by
 have hmf:=zm
 have hbl:=zi hV.c0
 obtain⟨w1,hw1⟩:∃ w1,w1=w.alloc (.cells #[.func (.func 14) #[] #[]] 53):=⟨_,rfl⟩
 have hb0:Below w.heap.size w w1:=by rw[hw1];exact zb _ _
 have hblk:w1.heap[w.heap.size]?=some (.cells #[.func (.func 14) #[] #[]] 53 (0,0)):=by rw[hw1];exact zw _ _
 have hsz:w.heap.size<w1.heap.size:=zk hblk
 have kb:w1.cell? ⟨w.heap.size,0,none⟩=some (.func (.func 14) #[] #[]):=zc hblk
 have hV1:=hV.below hb0
 have HB0:=zh hb0
 have HW1:=zh hw1
 clear hw1
 have HK:Hid (∀ W,Below w1.heap.size w1 W->W.cell? ⟨w.heap.size,0,none⟩=some (.func (.func 14) #[] #[])/\W.cell? ⟨b,o,none⟩=some (.string (bs O.name))/\W.cell? ⟨b,o+1,none⟩=some (.slice sa O.syms.length sc)/\W.cell? ⟨b,o+2,none⟩=some (.slice ua O.uses.length uc)/\W.cell? ⟨b,o+3,none⟩=some (.slice va O.vars.length vc)/\W.cell? ⟨b,o+4,none⟩=some (.slice pa O.procs.length pc)/\W.cell? ⟨b,o+5,none⟩=some (.slice na O.names.length nc)/\W.cell? ⟨b,o+6,none⟩=some (.slice ca O.code.length cc)) :=
  fun W hW=>⟨(hW.cell (p:=⟨w.heap.size,0,none⟩) hsz).trans kb,(hV1.below hW).c0,(hV1.below hW).c1,(hV1.below hW).c2,(hV1.below hW).c3,(hV1.below hW).c4,(hV1.below hW).c5,(hV1.below hW).c6⟩
 have hbx:∀ W W',Below w1.heap.size w1 W->Below W.heap.size W W'->W'.cell? ⟨w.heap.size,0,none⟩=some (.func (.func 14) #[] #[]):=fun W W' hW hW'=>(hW'.cell (p:=⟨w.heap.size,0,none⟩) (show w.heap.size<W.heap.size by have:=hW.size;omega)).trans ((hW.cell (p:=⟨w.heap.size,0,none⟩) hsz).trans kb)
 have HC1:Hid (∀ W,Below w1.heap.size w1 W->Calls Tryz.prog 14 #[.string (bs O.name)] W fun e w'=>e=.returned (.bool (longB O.name))/\w'=W):=fun W _=>kC W O.name
 have HC2:Hid (O.names.length<=1000000->∀ W,Below w1.heap.size w1 W->Calls Tryz.prog 15 #[.slice na O.names.length nc,.func (.func 14) #[] #[]] W fun e w'=>e=.returned (.bool (O.names.any longB))/\Below W.heap.size W w'):=fun hn W hW=>containsStr0 (hV1.below hW).n hn cf14 (fun W' y _ _=>(kC W' y).mono (fun e w' h=>⟨h.1,by rw[h.2];exact Below.refl _ _⟩))
 have HC3:Hid (O.syms.length<=1000000->∀ W,Below w1.heap.size w1 W->Calls Tryz.prog 16 #[.slice sa O.syms.length sc,.func (.func 17) #[] #[.pointer (some ⟨w.heap.size,0,none⟩)]] W fun e w'=>e=.returned (.bool (O.syms.any fun x=>longB x.name))/\Below W.heap.size W w'):=fun hn W hW=>containsSym (p:=fun x=>longB x.name) (hV1.below hW).s hn cf17 (fun W' y _ hW'=>longSym (hbx W W' hW hW') y)
 have HC4:Hid (O.vars.length<=1000000->∀ W,Below w1.heap.size w1 W->Calls Tryz.prog 18 #[.slice va O.vars.length vc,.func (.func 19) #[] #[.pointer (some ⟨w.heap.size,0,none⟩)]] W fun e w'=>e=.returned (.bool (O.vars.any fun x=>longB x.name))/\Below W.heap.size W w'):=fun hn W hW=>containsGl (p:=fun x=>longB x.name) (hV1.below hW).v hn cf19 (fun W' y _ hW'=>longGl (hbx W W' hW hW') y)
 have HC5:Hid (O.uses.length<=1000000->∀ W,Below w1.heap.size w1 W->Calls Tryz.prog 20 #[.slice ua O.uses.length uc,.func (.func 21) #[] #[.pointer (some ⟨w.heap.size,0,none⟩)]] W fun e w'=>e=.returned (.bool (O.uses.any useL))/\Below W.heap.size W w'):=fun hn W hW=>by
  obtain⟨ucs,hu1,hu2⟩:=(hV1.below hW).u
  exact containsUs hu1 hu2 hn cf21 (fun W' y na' nc' _ hW' hs=>longUs (hbx W W' hW hW') y (hs.below hW'))
 have HR:Hid (smallB O=(!longB O.name && (decide (O.syms.length<=30) && (decide (O.uses.length<=10) && (decide (O.vars.length<=15) && (decide (O.procs.length<=15) && (decide (O.names.length<=15) && (decide (O.code.length<=80) && (!O.names.any longB && (!(O.syms.any fun x=>longB x.name) && (!(O.vars.any fun x=>longB x.name) && !O.uses.any useL))))))))))):=rfl
 have hc0:=hV.c0
 have hc1:=hV.c1
 generalize smallB O=r at *
 generalize longB O.name=b1 at *
 generalize O.names.any longB=b2 at *
 generalize (O.syms.any fun x=>longB x.name)=b3 at *
 generalize (O.vars.any fun x=>longB x.name)=b4 at *
 generalize O.uses.any useL=b5 at *
 clear hV1 hblk hb0 kb hV hbx
 have HK0:=zh (HK.out _ (zt w1))
 have HQ0:Hid (Below w1.heap.size w1 w1.drew):=zt w1
 go_enter Tryz.func4,Tryz.ntmps4
 go_wp2_with fail
 rw[<-HW1.out]
 clear HW1
 refine region_abs (fun ops HOPS=>?_)
 have HIN:Hid (inOrder ops=true):=by show _=_;rw[HOPS.out];as_aux_lemma=>kernel_rfl
 have HSZ:Hid (ops.size=92):=by show _=_;rw[HOPS.out];rfl
 refine uq (m:=92) (S:=(fun W=>W.cell? ⟨w.heap.size,0,none⟩=some (.func (.func 14) #[] #[])/\W.cell? ⟨b,o,none⟩=some (.string (bs O.name))/\W.cell? ⟨b,o+1,none⟩=some (.slice sa O.syms.length sc)/\W.cell? ⟨b,o+2,none⟩=some (.slice ua O.uses.length uc)/\W.cell? ⟨b,o+3,none⟩=some (.slice va O.vars.length vc)/\W.cell? ⟨b,o+4,none⟩=some (.slice pa O.procs.length pc)/\W.cell? ⟨b,o+5,none⟩=some (.slice na O.names.length nc)/\W.cell? ⟨b,o+6,none⟩=some (.slice ca O.code.length cc))) (by kernel_rfl) HSZ.out HK0.out (fun hHeld=>?_)
 refine takeI 0 (d:=some 6) (v:=.func (.func 14) #[] #[]) HIN.out (by have:=HSZ.out;omega) (by rw[HOPS.out];kernel_rfl) (fun _ _ _ h=>h) (fun oi ho=>by rw[HOPS.out]at ho;cases ho;exact Or.inl ⟨by rw[HOPS.out];kernel_rfl,fun W hW=>by go_simp⟩) hHeld ?_
 go_frame
 refine takeI 1 (d:=some 7) (v:=.pointer (some ⟨b,o,none⟩)) HIN.out (by have:=HSZ.out;omega) (by rw[HOPS.out];kernel_rfl) (fun _ _ _ h=>h) (fun oi ho=>by rw[HOPS.out]at ho;cases ho;exact Or.inl ⟨by rw[HOPS.out];kernel_rfl,fun W hW=>by go_simp⟩) hHeld ?_
 go_frame
 refine takeI 2 (d:=some 8) (v:=.pointer (some ⟨b,o,none⟩)) HIN.out (by have:=HSZ.out;omega) (by rw[HOPS.out];kernel_rfl) (fun _ _ _ h=>h) (fun oi ho=>by rw[HOPS.out]at ho;cases ho;exact Or.inl ⟨by rw[HOPS.out];kernel_rfl,fun W hW=>by go_simp⟩) hHeld ?_
 go_frame
 refine takeI 3 (d:=some 9) (v:=.pointer (some ⟨b,o,none⟩)) HIN.out (by have:=HSZ.out;omega) (by rw[HOPS.out];kernel_rfl) (fun _ _ _ h=>h) (fun oi ho=>by rw[HOPS.out]at ho;cases ho;exact Or.inl ⟨by rw[HOPS.out];kernel_rfl,fun W hW=>by go_simp⟩) hHeld ?_
 go_frame
 refine takeI 4 (d:=some 10) (v:=.string (bs O.name)) HIN.out (by have:=HSZ.out;omega) (by rw[HOPS.out];kernel_rfl) (fun _ _ _ h=>h) (fun oi ho=>by rw[HOPS.out]at ho;cases ho;exact Or.inl ⟨by rw[HOPS.out];kernel_rfl,fun W hW=>by go_simp⟩) hHeld ?_
 go_frame
 refine yU 5 (by rw[HOPS.out];as_aux_lemma=>kernel_rfl) _ (by rw[HOPS.out];rfl) (fun K hK=>?_)
 rw[if_pos (by rw[HOPS.out];kernel_rfl)]
 go_simp
 refine(HC1.out _ HQ0.out).mono ?_
 rintro e wq ⟨rfl,hwq⟩
 rw[hwq]
 clear hwq
 go_frame
 refine hK.out _ _ HK0.out (fun hHeld=>?_)
 clear hK
 cases b1 with
 | true =>
  refine takeI 6 (d:=some 12) (v:=.bool false) HIN.out (by have:=HSZ.out;omega) (by rw[HOPS.out];kernel_rfl) (fun _ _ _ h=>h) (fun oi ho=>by rw[HOPS.out]at ho;cases ho;exact Or.inl ⟨by rw[HOPS.out];kernel_rfl,fun W hW=>by go_simp⟩) hHeld ?_
  go_frame
  refine takeI 7 (d:=some 13) (v:=.bool false) HIN.out (by have:=HSZ.out;omega) (by rw[HOPS.out];kernel_rfl) (fun _ _ _ h=>h) (fun oi ho=>by rw[HOPS.out]at ho;cases ho;exact Or.inl ⟨by rw[HOPS.out];kernel_rfl,fun W hW=>by go_simp⟩) hHeld ?_
  go_frame
  refine yi (t:=2) (v:=.bool false) 84 8 HIN.out (fun _ _ d _ _ h=>by cases d <;> exact h) hHeld (by rw[HOPS.out];as_aux_lemma=>kernel_rfl) (by have:=HSZ.out;omega) (by decide) ?_
  intro a' h1 h2
  clear hHeld
  have HV:Hid (r=false):=by
   show _=_
   rw[HR.out]
   simp[*]
  go_wp2_with fail
  exact bodyPost_ret ((results_tmp rfl _ _ _).trans (by rw[h1])) h2 ⟨by rw[HV.out],HB0.out.trans (HQ0.out.mono HB0.out.size)⟩
 | false =>
  refine takeI 6 (d:=some 12) (v:=.bool true) HIN.out (by have:=HSZ.out;omega) (by rw[HOPS.out];kernel_rfl) (fun _ _ _ h=>h) (fun oi ho=>by rw[HOPS.out]at ho;cases ho;exact Or.inl ⟨by rw[HOPS.out];kernel_rfl,fun W hW=>by go_simp⟩) hHeld ?_
  go_frame
  refine takeI 7 (d:=some 13) (v:=.bool true) HIN.out (by have:=HSZ.out;omega) (by rw[HOPS.out];kernel_rfl) (fun _ _ _ h=>h) (fun oi ho=>by rw[HOPS.out]at ho;cases ho;exact Or.inl ⟨by rw[HOPS.out];kernel_rfl,fun W hW=>by go_simp⟩) hHeld ?_
  go_frame
  refine takeI 8 (d:=some 14) (v:=.pointer (some ⟨b,o,none⟩)) HIN.out (by have:=HSZ.out;omega) (by rw[HOPS.out];kernel_rfl) (fun _ _ _ h=>h) (fun oi ho=>by rw[HOPS.out]at ho;cases ho;exact Or.inl ⟨by rw[HOPS.out];kernel_rfl,fun W hW=>by go_simp⟩) hHeld ?_
  go_frame
  refine takeI 9 (d:=some 15) (v:=.pointer (some ⟨b,o,none⟩)) HIN.out (by have:=HSZ.out;omega) (by rw[HOPS.out];kernel_rfl) (fun _ _ _ h=>h) (fun oi ho=>by rw[HOPS.out]at ho;cases ho;exact Or.inl ⟨by rw[HOPS.out];kernel_rfl,fun W hW=>by go_simp⟩) hHeld ?_
  go_frame
  refine takeI 10 (d:=some 16) (v:=.pointer (some ⟨b,o+1,none⟩)) HIN.out (by have:=HSZ.out;omega) (by rw[HOPS.out];kernel_rfl) (fun _ _ _ h=>h) (fun oi ho=>by rw[HOPS.out]at ho;cases ho;exact Or.inl ⟨by rw[HOPS.out];kernel_rfl,fun W hW=>by go_simp⟩) hHeld ?_
  go_frame
  refine takeI 11 (d:=some 17) (v:=.slice sa O.syms.length sc) HIN.out (by have:=HSZ.out;omega) (by rw[HOPS.out];kernel_rfl) (fun _ _ _ h=>h) (fun oi ho=>by rw[HOPS.out]at ho;cases ho;exact Or.inl ⟨by rw[HOPS.out];kernel_rfl,fun W hW=>by go_simp⟩) hHeld ?_
  go_frame
  refine takeI 12 (d:=some 18) (v:=.int .i64 (O.syms.length:Int)) HIN.out (by have:=HSZ.out;omega) (by rw[HOPS.out];kernel_rfl) (fun _ _ _ h=>h) (fun oi ho=>by rw[HOPS.out]at ho;cases ho;exact Or.inl ⟨by rw[HOPS.out];kernel_rfl,fun W hW=>by go_simp⟩) hHeld ?_
  go_frame
  by_cases h0:O.syms.length<=30
  ·have l0:(O.syms.length:Int)<=30:=by omega
   have l0d:decide ((O.syms.length:Int)<=30)=true:=decide_eq_true l0
   refine takeI 13 (d:=some 19) (v:=.bool true) HIN.out (by have:=HSZ.out;omega) (by rw[HOPS.out];kernel_rfl) (fun _ _ _ h=>h) (fun oi ho=>by rw[HOPS.out]at ho;cases ho;exact Or.inl ⟨by rw[HOPS.out];kernel_rfl,fun W hW=>by go_simp⟩) hHeld ?_
   go_frame
   refine takeI 14 (d:=some 20) (v:=.bool true) HIN.out (by have:=HSZ.out;omega) (by rw[HOPS.out];kernel_rfl) (fun _ _ _ h=>h) (fun oi ho=>by rw[HOPS.out]at ho;cases ho;exact Or.inl ⟨by rw[HOPS.out];kernel_rfl,fun W hW=>by go_simp⟩) hHeld ?_
   go_frame
   refine takeI 15 (d:=some 21) (v:=.bool true) HIN.out (by have:=HSZ.out;omega) (by rw[HOPS.out];kernel_rfl) (fun _ _ _ h=>h) (fun oi ho=>by rw[HOPS.out]at ho;cases ho;exact Or.inl ⟨by rw[HOPS.out];kernel_rfl,fun W hW=>by go_simp⟩) hHeld ?_
   go_frame
   refine takeI 16 (d:=some 22) (v:=.pointer (some ⟨b,o,none⟩)) HIN.out (by have:=HSZ.out;omega) (by rw[HOPS.out];kernel_rfl) (fun _ _ _ h=>h) (fun oi ho=>by rw[HOPS.out]at ho;cases ho;exact Or.inl ⟨by rw[HOPS.out];kernel_rfl,fun W hW=>by go_simp⟩) hHeld ?_
   go_frame
   refine takeI 17 (d:=some 23) (v:=.pointer (some ⟨b,o,none⟩)) HIN.out (by have:=HSZ.out;omega) (by rw[HOPS.out];kernel_rfl) (fun _ _ _ h=>h) (fun oi ho=>by rw[HOPS.out]at ho;cases ho;exact Or.inl ⟨by rw[HOPS.out];kernel_rfl,fun W hW=>by go_simp⟩) hHeld ?_
   go_frame
   refine takeI 18 (d:=some 24) (v:=.pointer (some ⟨b,o+2,none⟩)) HIN.out (by have:=HSZ.out;omega) (by rw[HOPS.out];kernel_rfl) (fun _ _ _ h=>h) (fun oi ho=>by rw[HOPS.out]at ho;cases ho;exact Or.inl ⟨by rw[HOPS.out];kernel_rfl,fun W hW=>by go_simp⟩) hHeld ?_
   go_frame
   refine takeI 19 (d:=some 25) (v:=.slice ua O.uses.length uc) HIN.out (by have:=HSZ.out;omega) (by rw[HOPS.out];kernel_rfl) (fun _ _ _ h=>h) (fun oi ho=>by rw[HOPS.out]at ho;cases ho;exact Or.inl ⟨by rw[HOPS.out];kernel_rfl,fun W hW=>by go_simp⟩) hHeld ?_
   go_frame
   refine takeI 20 (d:=some 26) (v:=.int .i64 (O.uses.length:Int)) HIN.out (by have:=HSZ.out;omega) (by rw[HOPS.out];kernel_rfl) (fun _ _ _ h=>h) (fun oi ho=>by rw[HOPS.out]at ho;cases ho;exact Or.inl ⟨by rw[HOPS.out];kernel_rfl,fun W hW=>by go_simp⟩) hHeld ?_
   go_frame
   by_cases h1:O.uses.length<=10
   ·have l1:(O.uses.length:Int)<=10:=by omega
    have l1d:decide ((O.uses.length:Int)<=10)=true:=decide_eq_true l1
    refine takeI 21 (d:=some 27) (v:=.bool true) HIN.out (by have:=HSZ.out;omega) (by rw[HOPS.out];kernel_rfl) (fun _ _ _ h=>h) (fun oi ho=>by rw[HOPS.out]at ho;cases ho;exact Or.inl ⟨by rw[HOPS.out];kernel_rfl,fun W hW=>by go_simp⟩) hHeld ?_
    go_frame
    refine takeI 22 (d:=some 28) (v:=.bool true) HIN.out (by have:=HSZ.out;omega) (by rw[HOPS.out];kernel_rfl) (fun _ _ _ h=>h) (fun oi ho=>by rw[HOPS.out]at ho;cases ho;exact Or.inl ⟨by rw[HOPS.out];kernel_rfl,fun W hW=>by go_simp⟩) hHeld ?_
    go_frame
    refine takeI 23 (d:=some 29) (v:=.bool true) HIN.out (by have:=HSZ.out;omega) (by rw[HOPS.out];kernel_rfl) (fun _ _ _ h=>h) (fun oi ho=>by rw[HOPS.out]at ho;cases ho;exact Or.inl ⟨by rw[HOPS.out];kernel_rfl,fun W hW=>by go_simp⟩) hHeld ?_
    go_frame
    refine takeI 24 (d:=some 30) (v:=.pointer (some ⟨b,o,none⟩)) HIN.out (by have:=HSZ.out;omega) (by rw[HOPS.out];kernel_rfl) (fun _ _ _ h=>h) (fun oi ho=>by rw[HOPS.out]at ho;cases ho;exact Or.inl ⟨by rw[HOPS.out];kernel_rfl,fun W hW=>by go_simp⟩) hHeld ?_
    go_frame
    refine takeI 25 (d:=some 31) (v:=.pointer (some ⟨b,o,none⟩)) HIN.out (by have:=HSZ.out;omega) (by rw[HOPS.out];kernel_rfl) (fun _ _ _ h=>h) (fun oi ho=>by rw[HOPS.out]at ho;cases ho;exact Or.inl ⟨by rw[HOPS.out];kernel_rfl,fun W hW=>by go_simp⟩) hHeld ?_
    go_frame
    refine takeI 26 (d:=some 32) (v:=.pointer (some ⟨b,o+3,none⟩)) HIN.out (by have:=HSZ.out;omega) (by rw[HOPS.out];kernel_rfl) (fun _ _ _ h=>h) (fun oi ho=>by rw[HOPS.out]at ho;cases ho;exact Or.inl ⟨by rw[HOPS.out];kernel_rfl,fun W hW=>by go_simp⟩) hHeld ?_
    go_frame
    refine takeI 27 (d:=some 33) (v:=.slice va O.vars.length vc) HIN.out (by have:=HSZ.out;omega) (by rw[HOPS.out];kernel_rfl) (fun _ _ _ h=>h) (fun oi ho=>by rw[HOPS.out]at ho;cases ho;exact Or.inl ⟨by rw[HOPS.out];kernel_rfl,fun W hW=>by go_simp⟩) hHeld ?_
    go_frame
    refine takeI 28 (d:=some 34) (v:=.int .i64 (O.vars.length:Int)) HIN.out (by have:=HSZ.out;omega) (by rw[HOPS.out];kernel_rfl) (fun _ _ _ h=>h) (fun oi ho=>by rw[HOPS.out]at ho;cases ho;exact Or.inl ⟨by rw[HOPS.out];kernel_rfl,fun W hW=>by go_simp⟩) hHeld ?_
    go_frame
    by_cases h2:O.vars.length<=15
    ·have l2:(O.vars.length:Int)<=15:=by omega
     have l2d:decide ((O.vars.length:Int)<=15)=true:=decide_eq_true l2
     refine takeI 29 (d:=some 35) (v:=.bool true) HIN.out (by have:=HSZ.out;omega) (by rw[HOPS.out];kernel_rfl) (fun _ _ _ h=>h) (fun oi ho=>by rw[HOPS.out]at ho;cases ho;exact Or.inl ⟨by rw[HOPS.out];kernel_rfl,fun W hW=>by go_simp⟩) hHeld ?_
     go_frame
     refine takeI 30 (d:=some 36) (v:=.bool true) HIN.out (by have:=HSZ.out;omega) (by rw[HOPS.out];kernel_rfl) (fun _ _ _ h=>h) (fun oi ho=>by rw[HOPS.out]at ho;cases ho;exact Or.inl ⟨by rw[HOPS.out];kernel_rfl,fun W hW=>by go_simp⟩) hHeld ?_
     go_frame
     refine takeI 31 (d:=some 37) (v:=.bool true) HIN.out (by have:=HSZ.out;omega) (by rw[HOPS.out];kernel_rfl) (fun _ _ _ h=>h) (fun oi ho=>by rw[HOPS.out]at ho;cases ho;exact Or.inl ⟨by rw[HOPS.out];kernel_rfl,fun W hW=>by go_simp⟩) hHeld ?_
     go_frame
     refine takeI 32 (d:=some 38) (v:=.pointer (some ⟨b,o,none⟩)) HIN.out (by have:=HSZ.out;omega) (by rw[HOPS.out];kernel_rfl) (fun _ _ _ h=>h) (fun oi ho=>by rw[HOPS.out]at ho;cases ho;exact Or.inl ⟨by rw[HOPS.out];kernel_rfl,fun W hW=>by go_simp⟩) hHeld ?_
     go_frame
     refine takeI 33 (d:=some 39) (v:=.pointer (some ⟨b,o,none⟩)) HIN.out (by have:=HSZ.out;omega) (by rw[HOPS.out];kernel_rfl) (fun _ _ _ h=>h) (fun oi ho=>by rw[HOPS.out]at ho;cases ho;exact Or.inl ⟨by rw[HOPS.out];kernel_rfl,fun W hW=>by go_simp⟩) hHeld ?_
     go_frame
     refine takeI 34 (d:=some 40) (v:=.pointer (some ⟨b,o+4,none⟩)) HIN.out (by have:=HSZ.out;omega) (by rw[HOPS.out];kernel_rfl) (fun _ _ _ h=>h) (fun oi ho=>by rw[HOPS.out]at ho;cases ho;exact Or.inl ⟨by rw[HOPS.out];kernel_rfl,fun W hW=>by go_simp⟩) hHeld ?_
     go_frame
     refine takeI 35 (d:=some 41) (v:=.slice pa O.procs.length pc) HIN.out (by have:=HSZ.out;omega) (by rw[HOPS.out];kernel_rfl) (fun _ _ _ h=>h) (fun oi ho=>by rw[HOPS.out]at ho;cases ho;exact Or.inl ⟨by rw[HOPS.out];kernel_rfl,fun W hW=>by go_simp⟩) hHeld ?_
     go_frame
     refine takeI 36 (d:=some 42) (v:=.int .i64 (O.procs.length:Int)) HIN.out (by have:=HSZ.out;omega) (by rw[HOPS.out];kernel_rfl) (fun _ _ _ h=>h) (fun oi ho=>by rw[HOPS.out]at ho;cases ho;exact Or.inl ⟨by rw[HOPS.out];kernel_rfl,fun W hW=>by go_simp⟩) hHeld ?_
     go_frame
     by_cases h3:O.procs.length<=15
     ·have l3:(O.procs.length:Int)<=15:=by omega
      have l3d:decide ((O.procs.length:Int)<=15)=true:=decide_eq_true l3
      refine takeI 37 (d:=some 43) (v:=.bool true) HIN.out (by have:=HSZ.out;omega) (by rw[HOPS.out];kernel_rfl) (fun _ _ _ h=>h) (fun oi ho=>by rw[HOPS.out]at ho;cases ho;exact Or.inl ⟨by rw[HOPS.out];kernel_rfl,fun W hW=>by go_simp⟩) hHeld ?_
      go_frame
      refine takeI 38 (d:=some 44) (v:=.bool true) HIN.out (by have:=HSZ.out;omega) (by rw[HOPS.out];kernel_rfl) (fun _ _ _ h=>h) (fun oi ho=>by rw[HOPS.out]at ho;cases ho;exact Or.inl ⟨by rw[HOPS.out];kernel_rfl,fun W hW=>by go_simp⟩) hHeld ?_
      go_frame
      refine takeI 39 (d:=some 45) (v:=.bool true) HIN.out (by have:=HSZ.out;omega) (by rw[HOPS.out];kernel_rfl) (fun _ _ _ h=>h) (fun oi ho=>by rw[HOPS.out]at ho;cases ho;exact Or.inl ⟨by rw[HOPS.out];kernel_rfl,fun W hW=>by go_simp⟩) hHeld ?_
      go_frame
      refine takeI 40 (d:=some 46) (v:=.pointer (some ⟨b,o,none⟩)) HIN.out (by have:=HSZ.out;omega) (by rw[HOPS.out];kernel_rfl) (fun _ _ _ h=>h) (fun oi ho=>by rw[HOPS.out]at ho;cases ho;exact Or.inl ⟨by rw[HOPS.out];kernel_rfl,fun W hW=>by go_simp⟩) hHeld ?_
      go_frame
      refine takeI 41 (d:=some 47) (v:=.pointer (some ⟨b,o,none⟩)) HIN.out (by have:=HSZ.out;omega) (by rw[HOPS.out];kernel_rfl) (fun _ _ _ h=>h) (fun oi ho=>by rw[HOPS.out]at ho;cases ho;exact Or.inl ⟨by rw[HOPS.out];kernel_rfl,fun W hW=>by go_simp⟩) hHeld ?_
      go_frame
      refine takeI 42 (d:=some 48) (v:=.pointer (some ⟨b,o+5,none⟩)) HIN.out (by have:=HSZ.out;omega) (by rw[HOPS.out];kernel_rfl) (fun _ _ _ h=>h) (fun oi ho=>by rw[HOPS.out]at ho;cases ho;exact Or.inl ⟨by rw[HOPS.out];kernel_rfl,fun W hW=>by go_simp⟩) hHeld ?_
      go_frame
      refine takeI 43 (d:=some 49) (v:=.slice na O.names.length nc) HIN.out (by have:=HSZ.out;omega) (by rw[HOPS.out];kernel_rfl) (fun _ _ _ h=>h) (fun oi ho=>by rw[HOPS.out]at ho;cases ho;exact Or.inl ⟨by rw[HOPS.out];kernel_rfl,fun W hW=>by go_simp⟩) hHeld ?_
      go_frame
      refine takeI 44 (d:=some 50) (v:=.int .i64 (O.names.length:Int)) HIN.out (by have:=HSZ.out;omega) (by rw[HOPS.out];kernel_rfl) (fun _ _ _ h=>h) (fun oi ho=>by rw[HOPS.out]at ho;cases ho;exact Or.inl ⟨by rw[HOPS.out];kernel_rfl,fun W hW=>by go_simp⟩) hHeld ?_
      go_frame
      by_cases h4:O.names.length<=15
      ·have l4:(O.names.length:Int)<=15:=by omega
       have l4d:decide ((O.names.length:Int)<=15)=true:=decide_eq_true l4
       refine takeI 45 (d:=some 51) (v:=.bool true) HIN.out (by have:=HSZ.out;omega) (by rw[HOPS.out];kernel_rfl) (fun _ _ _ h=>h) (fun oi ho=>by rw[HOPS.out]at ho;cases ho;exact Or.inl ⟨by rw[HOPS.out];kernel_rfl,fun W hW=>by go_simp⟩) hHeld ?_
       go_frame
       refine takeI 46 (d:=some 52) (v:=.bool true) HIN.out (by have:=HSZ.out;omega) (by rw[HOPS.out];kernel_rfl) (fun _ _ _ h=>h) (fun oi ho=>by rw[HOPS.out]at ho;cases ho;exact Or.inl ⟨by rw[HOPS.out];kernel_rfl,fun W hW=>by go_simp⟩) hHeld ?_
       go_frame
       refine takeI 47 (d:=some 53) (v:=.bool true) HIN.out (by have:=HSZ.out;omega) (by rw[HOPS.out];kernel_rfl) (fun _ _ _ h=>h) (fun oi ho=>by rw[HOPS.out]at ho;cases ho;exact Or.inl ⟨by rw[HOPS.out];kernel_rfl,fun W hW=>by go_simp⟩) hHeld ?_
       go_frame
       refine takeI 48 (d:=some 54) (v:=.pointer (some ⟨b,o,none⟩)) HIN.out (by have:=HSZ.out;omega) (by rw[HOPS.out];kernel_rfl) (fun _ _ _ h=>h) (fun oi ho=>by rw[HOPS.out]at ho;cases ho;exact Or.inl ⟨by rw[HOPS.out];kernel_rfl,fun W hW=>by go_simp⟩) hHeld ?_
       go_frame
       refine takeI 49 (d:=some 55) (v:=.pointer (some ⟨b,o,none⟩)) HIN.out (by have:=HSZ.out;omega) (by rw[HOPS.out];kernel_rfl) (fun _ _ _ h=>h) (fun oi ho=>by rw[HOPS.out]at ho;cases ho;exact Or.inl ⟨by rw[HOPS.out];kernel_rfl,fun W hW=>by go_simp⟩) hHeld ?_
       go_frame
       refine takeI 50 (d:=some 56) (v:=.pointer (some ⟨b,o+6,none⟩)) HIN.out (by have:=HSZ.out;omega) (by rw[HOPS.out];kernel_rfl) (fun _ _ _ h=>h) (fun oi ho=>by rw[HOPS.out]at ho;cases ho;exact Or.inl ⟨by rw[HOPS.out];kernel_rfl,fun W hW=>by go_simp⟩) hHeld ?_
       go_frame
       refine takeI 51 (d:=some 57) (v:=.slice ca O.code.length cc) HIN.out (by have:=HSZ.out;omega) (by rw[HOPS.out];kernel_rfl) (fun _ _ _ h=>h) (fun oi ho=>by rw[HOPS.out]at ho;cases ho;exact Or.inl ⟨by rw[HOPS.out];kernel_rfl,fun W hW=>by go_simp⟩) hHeld ?_
       go_frame
       refine takeI 52 (d:=some 58) (v:=.int .i64 (O.code.length:Int)) HIN.out (by have:=HSZ.out;omega) (by rw[HOPS.out];kernel_rfl) (fun _ _ _ h=>h) (fun oi ho=>by rw[HOPS.out]at ho;cases ho;exact Or.inl ⟨by rw[HOPS.out];kernel_rfl,fun W hW=>by go_simp⟩) hHeld ?_
       go_frame
       by_cases h5:O.code.length<=80
       ·have l5:(O.code.length:Int)<=80:=by omega
        have l5d:decide ((O.code.length:Int)<=80)=true:=decide_eq_true l5
        refine takeI 53 (d:=some 59) (v:=.bool true) HIN.out (by have:=HSZ.out;omega) (by rw[HOPS.out];kernel_rfl) (fun _ _ _ h=>h) (fun oi ho=>by rw[HOPS.out]at ho;cases ho;exact Or.inl ⟨by rw[HOPS.out];kernel_rfl,fun W hW=>by go_simp⟩) hHeld ?_
        go_frame
        refine takeI 54 (d:=some 60) (v:=.bool true) HIN.out (by have:=HSZ.out;omega) (by rw[HOPS.out];kernel_rfl) (fun _ _ _ h=>h) (fun oi ho=>by rw[HOPS.out]at ho;cases ho;exact Or.inl ⟨by rw[HOPS.out];kernel_rfl,fun W hW=>by go_simp⟩) hHeld ?_
        go_frame
        refine takeI 55 (d:=some 61) (v:=.bool true) HIN.out (by have:=HSZ.out;omega) (by rw[HOPS.out];kernel_rfl) (fun _ _ _ h=>h) (fun oi ho=>by rw[HOPS.out]at ho;cases ho;exact Or.inl ⟨by rw[HOPS.out];kernel_rfl,fun W hW=>by go_simp⟩) hHeld ?_
        go_frame
        refine takeI 56 (d:=some 62) (v:=.pointer (some ⟨b,o,none⟩)) HIN.out (by have:=HSZ.out;omega) (by rw[HOPS.out];kernel_rfl) (fun _ _ _ h=>h) (fun oi ho=>by rw[HOPS.out]at ho;cases ho;exact Or.inl ⟨by rw[HOPS.out];kernel_rfl,fun W hW=>by go_simp⟩) hHeld ?_
        go_frame
        refine takeI 57 (d:=some 63) (v:=.pointer (some ⟨b,o,none⟩)) HIN.out (by have:=HSZ.out;omega) (by rw[HOPS.out];kernel_rfl) (fun _ _ _ h=>h) (fun oi ho=>by rw[HOPS.out]at ho;cases ho;exact Or.inl ⟨by rw[HOPS.out];kernel_rfl,fun W hW=>by go_simp⟩) hHeld ?_
        go_frame
        refine takeI 58 (d:=some 64) (v:=.pointer (some ⟨b,o+5,none⟩)) HIN.out (by have:=HSZ.out;omega) (by rw[HOPS.out];kernel_rfl) (fun _ _ _ h=>h) (fun oi ho=>by rw[HOPS.out]at ho;cases ho;exact Or.inl ⟨by rw[HOPS.out];kernel_rfl,fun W hW=>by go_simp⟩) hHeld ?_
        go_frame
        refine takeI 59 (d:=some 65) (v:=.slice na O.names.length nc) HIN.out (by have:=HSZ.out;omega) (by rw[HOPS.out];kernel_rfl) (fun _ _ _ h=>h) (fun oi ho=>by rw[HOPS.out]at ho;cases ho;exact Or.inl ⟨by rw[HOPS.out];kernel_rfl,fun W hW=>by go_simp⟩) hHeld ?_
        go_frame
        refine takeI 60 (d:=some 66) (v:=.func (.func 14) #[] #[]) HIN.out (by have:=HSZ.out;omega) (by rw[HOPS.out];kernel_rfl) (fun _ _ _ h=>h) (fun oi ho=>by rw[HOPS.out]at ho;cases ho;exact Or.inl ⟨by rw[HOPS.out];kernel_rfl,fun W hW=>by go_simp⟩) hHeld ?_
        go_frame
        refine yU 61 (by rw[HOPS.out];as_aux_lemma=>kernel_rfl) _ (by rw[HOPS.out];rfl) (fun K hK=>?_)
        rw[if_pos (by rw[HOPS.out];kernel_rfl)]
        go_simp
        refine(HC2.out (by omega) _ HQ0.out).mono ?_
        rintro e wq1 ⟨rfl,hq1⟩
        have HQ1:Hid (Below w1.heap.size w1 wq1):=HQ0.out.trans (hq1.mono HQ0.out.size)
        have HK1:=zh (HK.out _ HQ1.out)
        clear hq1 hHeld
        go_frame
        refine hK.out _ _ HK1.out (fun hHeld=>?_)
        clear hK
        cases b2 with
        | true =>
         refine takeI 62 (d:=some 68) (v:=.bool false) HIN.out (by have:=HSZ.out;omega) (by rw[HOPS.out];kernel_rfl) (fun _ _ _ h=>h) (fun oi ho=>by rw[HOPS.out]at ho;cases ho;exact Or.inl ⟨by rw[HOPS.out];kernel_rfl,fun W hW=>by go_simp⟩) hHeld ?_
         go_frame
         refine yi (t:=2) (v:=.bool false) 29 63 HIN.out (fun _ _ d _ _ h=>by cases d <;> exact h) hHeld (by rw[HOPS.out];as_aux_lemma=>kernel_rfl) (by have:=HSZ.out;omega) (by decide) ?_
         intro a' h1 h2
         clear hHeld
         have HV:Hid (r=false):=by
          show _=_
          rw[HR.out]
          simp[*]
         go_wp2_with fail
         exact bodyPost_ret ((results_tmp rfl _ _ _).trans (by rw[h1])) h2 ⟨by rw[HV.out],HB0.out.trans (HQ1.out.mono HB0.out.size)⟩
        | false =>
         refine takeI 62 (d:=some 68) (v:=.bool true) HIN.out (by have:=HSZ.out;omega) (by rw[HOPS.out];kernel_rfl) (fun _ _ _ h=>h) (fun oi ho=>by rw[HOPS.out]at ho;cases ho;exact Or.inl ⟨by rw[HOPS.out];kernel_rfl,fun W hW=>by go_simp⟩) hHeld ?_
         go_frame
         refine takeI 63 (d:=some 69) (v:=.bool true) HIN.out (by have:=HSZ.out;omega) (by rw[HOPS.out];kernel_rfl) (fun _ _ _ h=>h) (fun oi ho=>by rw[HOPS.out]at ho;cases ho;exact Or.inl ⟨by rw[HOPS.out];kernel_rfl,fun W hW=>by go_simp⟩) hHeld ?_
         go_frame
         refine takeI 64 (d:=some 70) (v:=.bool true) HIN.out (by have:=HSZ.out;omega) (by rw[HOPS.out];kernel_rfl) (fun _ _ _ h=>h) (fun oi ho=>by rw[HOPS.out]at ho;cases ho;exact Or.inl ⟨by rw[HOPS.out];kernel_rfl,fun W hW=>by go_simp⟩) hHeld ?_
         go_frame
         refine takeI 65 (d:=some 71) (v:=.pointer (some ⟨b,o,none⟩)) HIN.out (by have:=HSZ.out;omega) (by rw[HOPS.out];kernel_rfl) (fun _ _ _ h=>h) (fun oi ho=>by rw[HOPS.out]at ho;cases ho;exact Or.inl ⟨by rw[HOPS.out];kernel_rfl,fun W hW=>by go_simp⟩) hHeld ?_
         go_frame
         refine takeI 66 (d:=some 72) (v:=.pointer (some ⟨b,o,none⟩)) HIN.out (by have:=HSZ.out;omega) (by rw[HOPS.out];kernel_rfl) (fun _ _ _ h=>h) (fun oi ho=>by rw[HOPS.out]at ho;cases ho;exact Or.inl ⟨by rw[HOPS.out];kernel_rfl,fun W hW=>by go_simp⟩) hHeld ?_
         go_frame
         refine takeI 67 (d:=some 73) (v:=.pointer (some ⟨b,o+1,none⟩)) HIN.out (by have:=HSZ.out;omega) (by rw[HOPS.out];kernel_rfl) (fun _ _ _ h=>h) (fun oi ho=>by rw[HOPS.out]at ho;cases ho;exact Or.inl ⟨by rw[HOPS.out];kernel_rfl,fun W hW=>by go_simp⟩) hHeld ?_
         go_frame
         refine takeI 68 (d:=some 74) (v:=.slice sa O.syms.length sc) HIN.out (by have:=HSZ.out;omega) (by rw[HOPS.out];kernel_rfl) (fun _ _ _ h=>h) (fun oi ho=>by rw[HOPS.out]at ho;cases ho;exact Or.inl ⟨by rw[HOPS.out];kernel_rfl,fun W hW=>by go_simp⟩) hHeld ?_
         go_frame
         refine takeI 69 (d:=some 75) (v:=.func (.func 17) #[] #[.pointer (some ⟨w.heap.size,0,none⟩)]) HIN.out (by have:=HSZ.out;omega) (by rw[HOPS.out];kernel_rfl) (fun _ _ _ h=>h) (fun oi ho=>by rw[HOPS.out]at ho;cases ho;exact Or.inl ⟨by rw[HOPS.out];kernel_rfl,fun W hW=>by go_simp⟩) hHeld ?_
         go_frame
         refine yU 70 (by rw[HOPS.out];as_aux_lemma=>kernel_rfl) _ (by rw[HOPS.out];rfl) (fun K hK=>?_)
         rw[if_pos (by rw[HOPS.out];kernel_rfl)]
         go_simp
         refine(HC3.out (by omega) _ HQ1.out).mono ?_
         rintro e wq2 ⟨rfl,hq2⟩
         have HQ2:Hid (Below w1.heap.size w1 wq2):=HQ1.out.trans (hq2.mono HQ1.out.size)
         have HK2:=zh (HK.out _ HQ2.out)
         clear hq2 hHeld
         go_frame
         refine hK.out _ _ HK2.out (fun hHeld=>?_)
         clear hK
         cases b3 with
         | true =>
          refine takeI 71 (d:=some 77) (v:=.bool false) HIN.out (by have:=HSZ.out;omega) (by rw[HOPS.out];kernel_rfl) (fun _ _ _ h=>h) (fun oi ho=>by rw[HOPS.out]at ho;cases ho;exact Or.inl ⟨by rw[HOPS.out];kernel_rfl,fun W hW=>by go_simp⟩) hHeld ?_
          go_frame
          refine yi (t:=2) (v:=.bool false) 20 72 HIN.out (fun _ _ d _ _ h=>by cases d <;> exact h) hHeld (by rw[HOPS.out];as_aux_lemma=>kernel_rfl) (by have:=HSZ.out;omega) (by decide) ?_
          intro a' h1 h2
          clear hHeld
          have HV:Hid (r=false):=by
           show _=_
           rw[HR.out]
           simp[*]
          go_wp2_with fail
          exact bodyPost_ret ((results_tmp rfl _ _ _).trans (by rw[h1])) h2 ⟨by rw[HV.out],HB0.out.trans (HQ2.out.mono HB0.out.size)⟩
         | false =>
          refine takeI 71 (d:=some 77) (v:=.bool true) HIN.out (by have:=HSZ.out;omega) (by rw[HOPS.out];kernel_rfl) (fun _ _ _ h=>h) (fun oi ho=>by rw[HOPS.out]at ho;cases ho;exact Or.inl ⟨by rw[HOPS.out];kernel_rfl,fun W hW=>by go_simp⟩) hHeld ?_
          go_frame
          refine takeI 72 (d:=some 78) (v:=.bool true) HIN.out (by have:=HSZ.out;omega) (by rw[HOPS.out];kernel_rfl) (fun _ _ _ h=>h) (fun oi ho=>by rw[HOPS.out]at ho;cases ho;exact Or.inl ⟨by rw[HOPS.out];kernel_rfl,fun W hW=>by go_simp⟩) hHeld ?_
          go_frame
          refine takeI 73 (d:=some 79) (v:=.bool true) HIN.out (by have:=HSZ.out;omega) (by rw[HOPS.out];kernel_rfl) (fun _ _ _ h=>h) (fun oi ho=>by rw[HOPS.out]at ho;cases ho;exact Or.inl ⟨by rw[HOPS.out];kernel_rfl,fun W hW=>by go_simp⟩) hHeld ?_
          go_frame
          refine takeI 74 (d:=some 80) (v:=.pointer (some ⟨b,o,none⟩)) HIN.out (by have:=HSZ.out;omega) (by rw[HOPS.out];kernel_rfl) (fun _ _ _ h=>h) (fun oi ho=>by rw[HOPS.out]at ho;cases ho;exact Or.inl ⟨by rw[HOPS.out];kernel_rfl,fun W hW=>by go_simp⟩) hHeld ?_
          go_frame
          refine takeI 75 (d:=some 81) (v:=.pointer (some ⟨b,o,none⟩)) HIN.out (by have:=HSZ.out;omega) (by rw[HOPS.out];kernel_rfl) (fun _ _ _ h=>h) (fun oi ho=>by rw[HOPS.out]at ho;cases ho;exact Or.inl ⟨by rw[HOPS.out];kernel_rfl,fun W hW=>by go_simp⟩) hHeld ?_
          go_frame
          refine takeI 76 (d:=some 82) (v:=.pointer (some ⟨b,o+3,none⟩)) HIN.out (by have:=HSZ.out;omega) (by rw[HOPS.out];kernel_rfl) (fun _ _ _ h=>h) (fun oi ho=>by rw[HOPS.out]at ho;cases ho;exact Or.inl ⟨by rw[HOPS.out];kernel_rfl,fun W hW=>by go_simp⟩) hHeld ?_
          go_frame
          refine takeI 77 (d:=some 83) (v:=.slice va O.vars.length vc) HIN.out (by have:=HSZ.out;omega) (by rw[HOPS.out];kernel_rfl) (fun _ _ _ h=>h) (fun oi ho=>by rw[HOPS.out]at ho;cases ho;exact Or.inl ⟨by rw[HOPS.out];kernel_rfl,fun W hW=>by go_simp⟩) hHeld ?_
          go_frame
          refine takeI 78 (d:=some 84) (v:=.func (.func 19) #[] #[.pointer (some ⟨w.heap.size,0,none⟩)]) HIN.out (by have:=HSZ.out;omega) (by rw[HOPS.out];kernel_rfl) (fun _ _ _ h=>h) (fun oi ho=>by rw[HOPS.out]at ho;cases ho;exact Or.inl ⟨by rw[HOPS.out];kernel_rfl,fun W hW=>by go_simp⟩) hHeld ?_
          go_frame
          refine yU 79 (by rw[HOPS.out];as_aux_lemma=>kernel_rfl) _ (by rw[HOPS.out];rfl) (fun K hK=>?_)
          rw[if_pos (by rw[HOPS.out];kernel_rfl)]
          go_simp
          refine(HC4.out (by omega) _ HQ2.out).mono ?_
          rintro e wq3 ⟨rfl,hq3⟩
          have HQ3:Hid (Below w1.heap.size w1 wq3):=HQ2.out.trans (hq3.mono HQ2.out.size)
          have HK3:=zh (HK.out _ HQ3.out)
          clear hq3 hHeld
          go_frame
          refine hK.out _ _ HK3.out (fun hHeld=>?_)
          clear hK
          cases b4 with
          | true =>
           refine takeI 80 (d:=some 86) (v:=.bool false) HIN.out (by have:=HSZ.out;omega) (by rw[HOPS.out];kernel_rfl) (fun _ _ _ h=>h) (fun oi ho=>by rw[HOPS.out]at ho;cases ho;exact Or.inl ⟨by rw[HOPS.out];kernel_rfl,fun W hW=>by go_simp⟩) hHeld ?_
           go_frame
           refine yi (t:=2) (v:=.bool false) 11 81 HIN.out (fun _ _ d _ _ h=>by cases d <;> exact h) hHeld (by rw[HOPS.out];as_aux_lemma=>kernel_rfl) (by have:=HSZ.out;omega) (by decide) ?_
           intro a' h1 h2
           clear hHeld
           have HV:Hid (r=false):=by
            show _=_
            rw[HR.out]
            simp[*]
           go_wp2_with fail
           exact bodyPost_ret ((results_tmp rfl _ _ _).trans (by rw[h1])) h2 ⟨by rw[HV.out],HB0.out.trans (HQ3.out.mono HB0.out.size)⟩
          | false =>
           refine takeI 80 (d:=some 86) (v:=.bool true) HIN.out (by have:=HSZ.out;omega) (by rw[HOPS.out];kernel_rfl) (fun _ _ _ h=>h) (fun oi ho=>by rw[HOPS.out]at ho;cases ho;exact Or.inl ⟨by rw[HOPS.out];kernel_rfl,fun W hW=>by go_simp⟩) hHeld ?_
           go_frame
           refine takeI 81 (d:=some 87) (v:=.bool true) HIN.out (by have:=HSZ.out;omega) (by rw[HOPS.out];kernel_rfl) (fun _ _ _ h=>h) (fun oi ho=>by rw[HOPS.out]at ho;cases ho;exact Or.inl ⟨by rw[HOPS.out];kernel_rfl,fun W hW=>by go_simp⟩) hHeld ?_
           go_frame
           refine takeI 82 (d:=some 88) (v:=.bool true) HIN.out (by have:=HSZ.out;omega) (by rw[HOPS.out];kernel_rfl) (fun _ _ _ h=>h) (fun oi ho=>by rw[HOPS.out]at ho;cases ho;exact Or.inl ⟨by rw[HOPS.out];kernel_rfl,fun W hW=>by go_simp⟩) hHeld ?_
           go_frame
           refine takeI 83 (d:=some 89) (v:=.pointer (some ⟨b,o,none⟩)) HIN.out (by have:=HSZ.out;omega) (by rw[HOPS.out];kernel_rfl) (fun _ _ _ h=>h) (fun oi ho=>by rw[HOPS.out]at ho;cases ho;exact Or.inl ⟨by rw[HOPS.out];kernel_rfl,fun W hW=>by go_simp⟩) hHeld ?_
           go_frame
           refine takeI 84 (d:=some 90) (v:=.pointer (some ⟨b,o,none⟩)) HIN.out (by have:=HSZ.out;omega) (by rw[HOPS.out];kernel_rfl) (fun _ _ _ h=>h) (fun oi ho=>by rw[HOPS.out]at ho;cases ho;exact Or.inl ⟨by rw[HOPS.out];kernel_rfl,fun W hW=>by go_simp⟩) hHeld ?_
           go_frame
           refine takeI 85 (d:=some 91) (v:=.pointer (some ⟨b,o+2,none⟩)) HIN.out (by have:=HSZ.out;omega) (by rw[HOPS.out];kernel_rfl) (fun _ _ _ h=>h) (fun oi ho=>by rw[HOPS.out]at ho;cases ho;exact Or.inl ⟨by rw[HOPS.out];kernel_rfl,fun W hW=>by go_simp⟩) hHeld ?_
           go_frame
           refine takeI 86 (d:=some 92) (v:=.slice ua O.uses.length uc) HIN.out (by have:=HSZ.out;omega) (by rw[HOPS.out];kernel_rfl) (fun _ _ _ h=>h) (fun oi ho=>by rw[HOPS.out]at ho;cases ho;exact Or.inl ⟨by rw[HOPS.out];kernel_rfl,fun W hW=>by go_simp⟩) hHeld ?_
           go_frame
           refine takeI 87 (d:=some 93) (v:=.func (.func 21) #[] #[.pointer (some ⟨w.heap.size,0,none⟩)]) HIN.out (by have:=HSZ.out;omega) (by rw[HOPS.out];kernel_rfl) (fun _ _ _ h=>h) (fun oi ho=>by rw[HOPS.out]at ho;cases ho;exact Or.inl ⟨by rw[HOPS.out];kernel_rfl,fun W hW=>by go_simp⟩) hHeld ?_
           go_frame
           refine yU 88 (by rw[HOPS.out];as_aux_lemma=>kernel_rfl) _ (by rw[HOPS.out];rfl) (fun K hK=>?_)
           rw[if_pos (by rw[HOPS.out];kernel_rfl)]
           go_simp
           refine(HC5.out (by omega) _ HQ3.out).mono ?_
           rintro e wq4 ⟨rfl,hq4⟩
           have HQ4:Hid (Below w1.heap.size w1 wq4):=HQ3.out.trans (hq4.mono HQ3.out.size)
           have HK4:=zh (HK.out _ HQ4.out)
           clear hq4 hHeld
           go_frame
           refine hK.out _ _ HK4.out (fun hHeld=>?_)
           clear hK
           cases b5 with
           | true =>
            refine takeI 89 (d:=some 95) (v:=.bool false) HIN.out (by have:=HSZ.out;omega) (by rw[HOPS.out];kernel_rfl) (fun _ _ _ h=>h) (fun oi ho=>by rw[HOPS.out]at ho;cases ho;exact Or.inl ⟨by rw[HOPS.out];kernel_rfl,fun W hW=>by go_simp⟩) hHeld ?_
            go_frame
            refine yi (t:=2) (v:=.bool false) 2 90 HIN.out (fun _ _ d _ _ h=>by cases d <;> exact h) hHeld (by rw[HOPS.out];as_aux_lemma=>kernel_rfl) (by have:=HSZ.out;omega) (by decide) ?_
            intro a' h1 h2
            clear hHeld
            have HV:Hid (r=false):=by
             show _=_
             rw[HR.out]
             simp[*]
            go_wp2_with fail
            exact bodyPost_ret ((results_tmp rfl _ _ _).trans (by rw[h1])) h2 ⟨by rw[HV.out],HB0.out.trans (HQ4.out.mono HB0.out.size)⟩
           | false =>
            refine takeI 89 (d:=some 95) (v:=.bool true) HIN.out (by have:=HSZ.out;omega) (by rw[HOPS.out];kernel_rfl) (fun _ _ _ h=>h) (fun oi ho=>by rw[HOPS.out]at ho;cases ho;exact Or.inl ⟨by rw[HOPS.out];kernel_rfl,fun W hW=>by go_simp⟩) hHeld ?_
            go_frame
            refine yi (t:=2) (v:=.bool true) 2 90 HIN.out (fun _ _ d _ _ h=>by cases d <;> exact h) hHeld (by rw[HOPS.out];as_aux_lemma=>kernel_rfl) (by have:=HSZ.out;omega) (by decide) ?_
            intro a' h1 h2
            clear hHeld
            have HV:Hid (r=true):=by
             show _=_
             rw[HR.out]
             simp[*]
            go_wp2_with fail
            exact bodyPost_ret ((results_tmp rfl _ _ _).trans (by rw[h1])) h2 ⟨by rw[HV.out],HB0.out.trans (HQ4.out.mono HB0.out.size)⟩
       ·have l5:(80:Int)<(O.code.length:Int):=by omega
        have l5d:decide ((O.code.length:Int)<=80)=false:=decide_eq_false (by omega)
        refine takeI 53 (d:=some 59) (v:=.bool false) HIN.out (by have:=HSZ.out;omega) (by rw[HOPS.out];kernel_rfl) (fun _ _ _ h=>h) (fun oi ho=>by rw[HOPS.out]at ho;cases ho;exact Or.inl ⟨by rw[HOPS.out];kernel_rfl,fun W hW=>by go_simp⟩) hHeld ?_
        go_frame
        refine yi (t:=2) (v:=.bool false) 38 54 HIN.out (fun _ _ d _ _ h=>by cases d <;> exact h) hHeld (by rw[HOPS.out];as_aux_lemma=>kernel_rfl) (by have:=HSZ.out;omega) (by decide) ?_
        intro a' h1 h2
        clear hHeld
        have HV:Hid (r=false):=by
         show _=_
         rw[HR.out]
         simp[*]
        go_wp2_with fail
        exact bodyPost_ret ((results_tmp rfl _ _ _).trans (by rw[h1])) h2 ⟨by rw[HV.out],HB0.out.trans (HQ0.out.mono HB0.out.size)⟩
      ·have l4:(15:Int)<(O.names.length:Int):=by omega
       have l4d:decide ((O.names.length:Int)<=15)=false:=decide_eq_false (by omega)
       refine takeI 45 (d:=some 51) (v:=.bool false) HIN.out (by have:=HSZ.out;omega) (by rw[HOPS.out];kernel_rfl) (fun _ _ _ h=>h) (fun oi ho=>by rw[HOPS.out]at ho;cases ho;exact Or.inl ⟨by rw[HOPS.out];kernel_rfl,fun W hW=>by go_simp⟩) hHeld ?_
       go_frame
       refine yi (t:=2) (v:=.bool false) 46 46 HIN.out (fun _ _ d _ _ h=>by cases d <;> exact h) hHeld (by rw[HOPS.out];as_aux_lemma=>kernel_rfl) (by have:=HSZ.out;omega) (by decide) ?_
       intro a' h1 h2
       clear hHeld
       have HV:Hid (r=false):=by
        show _=_
        rw[HR.out]
        simp[*]
       go_wp2_with fail
       exact bodyPost_ret ((results_tmp rfl _ _ _).trans (by rw[h1])) h2 ⟨by rw[HV.out],HB0.out.trans (HQ0.out.mono HB0.out.size)⟩
     ·have l3:(15:Int)<(O.procs.length:Int):=by omega
      have l3d:decide ((O.procs.length:Int)<=15)=false:=decide_eq_false (by omega)
      refine takeI 37 (d:=some 43) (v:=.bool false) HIN.out (by have:=HSZ.out;omega) (by rw[HOPS.out];kernel_rfl) (fun _ _ _ h=>h) (fun oi ho=>by rw[HOPS.out]at ho;cases ho;exact Or.inl ⟨by rw[HOPS.out];kernel_rfl,fun W hW=>by go_simp⟩) hHeld ?_
      go_frame
      refine yi (t:=2) (v:=.bool false) 54 38 HIN.out (fun _ _ d _ _ h=>by cases d <;> exact h) hHeld (by rw[HOPS.out];as_aux_lemma=>kernel_rfl) (by have:=HSZ.out;omega) (by decide) ?_
      intro a' h1 h2
      clear hHeld
      have HV:Hid (r=false):=by
       show _=_
       rw[HR.out]
       simp[*]
      go_wp2_with fail
      exact bodyPost_ret ((results_tmp rfl _ _ _).trans (by rw[h1])) h2 ⟨by rw[HV.out],HB0.out.trans (HQ0.out.mono HB0.out.size)⟩
    ·have l2:(15:Int)<(O.vars.length:Int):=by omega
     have l2d:decide ((O.vars.length:Int)<=15)=false:=decide_eq_false (by omega)
     refine takeI 29 (d:=some 35) (v:=.bool false) HIN.out (by have:=HSZ.out;omega) (by rw[HOPS.out];kernel_rfl) (fun _ _ _ h=>h) (fun oi ho=>by rw[HOPS.out]at ho;cases ho;exact Or.inl ⟨by rw[HOPS.out];kernel_rfl,fun W hW=>by go_simp⟩) hHeld ?_
     go_frame
     refine yi (t:=2) (v:=.bool false) 62 30 HIN.out (fun _ _ d _ _ h=>by cases d <;> exact h) hHeld (by rw[HOPS.out];as_aux_lemma=>kernel_rfl) (by have:=HSZ.out;omega) (by decide) ?_
     intro a' h1 h2
     clear hHeld
     have HV:Hid (r=false):=by
      show _=_
      rw[HR.out]
      simp[*]
     go_wp2_with fail
     exact bodyPost_ret ((results_tmp rfl _ _ _).trans (by rw[h1])) h2 ⟨by rw[HV.out],HB0.out.trans (HQ0.out.mono HB0.out.size)⟩
   ·have l1:(10:Int)<(O.uses.length:Int):=by omega
    have l1d:decide ((O.uses.length:Int)<=10)=false:=decide_eq_false (by omega)
    refine takeI 21 (d:=some 27) (v:=.bool false) HIN.out (by have:=HSZ.out;omega) (by rw[HOPS.out];kernel_rfl) (fun _ _ _ h=>h) (fun oi ho=>by rw[HOPS.out]at ho;cases ho;exact Or.inl ⟨by rw[HOPS.out];kernel_rfl,fun W hW=>by go_simp⟩) hHeld ?_
    go_frame
    refine yi (t:=2) (v:=.bool false) 70 22 HIN.out (fun _ _ d _ _ h=>by cases d <;> exact h) hHeld (by rw[HOPS.out];as_aux_lemma=>kernel_rfl) (by have:=HSZ.out;omega) (by decide) ?_
    intro a' h1 h2
    clear hHeld
    have HV:Hid (r=false):=by
     show _=_
     rw[HR.out]
     simp[*]
    go_wp2_with fail
    exact bodyPost_ret ((results_tmp rfl _ _ _).trans (by rw[h1])) h2 ⟨by rw[HV.out],HB0.out.trans (HQ0.out.mono HB0.out.size)⟩
  ·have l0:(30:Int)<(O.syms.length:Int):=by omega
   have l0d:decide ((O.syms.length:Int)<=30)=false:=decide_eq_false (by omega)
   refine takeI 13 (d:=some 19) (v:=.bool false) HIN.out (by have:=HSZ.out;omega) (by rw[HOPS.out];kernel_rfl) (fun _ _ _ h=>h) (fun oi ho=>by rw[HOPS.out]at ho;cases ho;exact Or.inl ⟨by rw[HOPS.out];kernel_rfl,fun W hW=>by go_simp⟩) hHeld ?_
   go_frame
   refine yi (t:=2) (v:=.bool false) 78 14 HIN.out (fun _ _ d _ _ h=>by cases d <;> exact h) hHeld (by rw[HOPS.out];as_aux_lemma=>kernel_rfl) (by have:=HSZ.out;omega) (by decide) ?_
   intro a' h1 h2
   clear hHeld
   have HV:Hid (r=false):=by
    show _=_
    rw[HR.out]
    simp[*]
   go_wp2_with fail
   exact bodyPost_ret ((results_tmp rfl _ _ _).trans (by rw[h1])) h2 ⟨by rw[HV.out],HB0.out.trans (HQ0.out.mono HB0.out.size)⟩
theorem eqStr {w:World}{a b:Option Addr}{c d:Nat}{l:List Bs}(hA:Sl w (.slice a l.length c) 1 l.length (cellsOf stC l)) (hB:Sl w (.slice b l.length d) 1 l.length (cellsOf stC l)) (hn:l.length<=1000000) :
  Calls Tryz.prog 32 #[.slice a l.length c,.slice b l.length d] w fun e w'=>e=.returned (.bool true)/\Below w.heap.size w w':=by
 have hn':(l.length:Int)<=1000000:=by omega
 have HA:=zh hA
 have HB:=zh hB
 clear hA hB
 go_enter Tryz.func32,Tryz.ntmps32
 go_wp2_with fail
 go_loopg [13] l.length (fun k vi wr=>∃ i:Nat,i<=l.length/\k=l.length - i/\vi=.int .i64 (i:Int)/\Hid (Below w.heap.size w wr))
 case atStart=>exact⟨0,by omega,by omega,rfl,Below.refl _ _⟩
 case round =>
  obtain⟨i,hid,hk,rfl,HW⟩:=hrel
  by_cases hlt:i<l.length
  ·have hlt':(i:Int)<(l.length:Int):=by omega
   obtain⟨g,go,rfl,hgl,hcell⟩:=HA.out.at' jg (by omega) i hlt
   obtain⟨g2,go2,rfl,hgl2,hcell2⟩:=HB.out.at' jg (by omega) i hlt
   have e0:wr.cell? ⟨g,go+i,none⟩=some (.string (bs l[i])):=(HW.out.cell (p:=⟨g,go+i,none⟩) hgl).trans (by have q:=hcell 0 _ rfl;rw[Nat.mul_one,Nat.add_zero]at q;exact q)
   have d0:wr.cell? ⟨g2,go2+i,none⟩=some (.string (bs l[i])):=(HW.out.cell (p:=⟨g2,go2+i,none⟩) hgl2).trans (by have q:=hcell2 0 _ rfl;rw[Nat.mul_one,Nat.add_zero]at q;exact q)
   have hz1:g<wr.heap.size:=zi e0
   have hz2:g2<wr.heap.size:=zi d0
   clear hcell hcell2
   generalize l[i]=x at *
   go_wp2_with fail
   go_quiet (fail)
   have HW2:=zh (HW.out.trans ((below_drewN wr nq).mono HW.out.size))
   go_wp2_with fail
   go_roundg (l.length - (i+1))
   case measure=>omega
   case rel=>exact⟨i+1,by omega,rfl,by go_num,HW2⟩
  ·have hlt':¬(i:Int)<(l.length:Int):=by omega
   go_wp2_with fail
   go_ret
   exact⟨rfl,HW.out⟩
theorem eqSym {w:World}{a b:Option Addr}{c d:Nat}{l:List Ob.Sm}(hA:Sl w (.slice a l.length c) 3 l.length (cellsOf smC l)) (hB:Sl w (.slice b l.length d) 3 l.length (cellsOf smC l)) (hn:l.length<=1000000) :
  Calls Tryz.prog 29 #[.slice a l.length c,.slice b l.length d] w fun e w'=>e=.returned (.bool true)/\Below w.heap.size w w':=by
 have hn':(l.length:Int)<=1000000:=by omega
 have HA:=zh hA
 have HB:=zh hB
 clear hA hB
 go_enter Tryz.func29,Tryz.ntmps29
 go_wp2_with fail
 go_loopg [13] l.length (fun k vi wr=>∃ i:Nat,i<=l.length/\k=l.length - i/\vi=.int .i64 (i:Int)/\Hid (Below w.heap.size w wr))
 case atStart=>exact⟨0,by omega,by omega,rfl,Below.refl _ _⟩
 case round =>
  obtain⟨i,hid,hk,rfl,HW⟩:=hrel
  by_cases hlt:i<l.length
  ·have hlt':(i:Int)<(l.length:Int):=by omega
   obtain⟨g,go,rfl,hgl,hcell⟩:=HA.out.at' kI (by omega) i hlt
   obtain⟨g2,go2,rfl,hgl2,hcell2⟩:=HB.out.at' kI (by omega) i hlt
   have e0:wr.cell? ⟨g,go+i * 3,none⟩=some (.string (bs l[i].name)):=(HW.out.cell (p:=⟨g,go+i * 3,none⟩) hgl).trans (hcell 0 _ rfl)
   have e1:wr.cell? ⟨g,go+i * 3+1,none⟩=some (.int .i64 l[i].len):=(HW.out.cell (p:=⟨g,go+i * 3+1,none⟩) hgl).trans (hcell 1 _ rfl)
   have e2:wr.cell? ⟨g,go+i * 3+2,none⟩=some (.int .i64 l[i].args):=(HW.out.cell (p:=⟨g,go+i * 3+2,none⟩) hgl).trans (hcell 2 _ rfl)
   have d0:wr.cell? ⟨g2,go2+i * 3,none⟩=some (.string (bs l[i].name)):=(HW.out.cell (p:=⟨g2,go2+i * 3,none⟩) hgl2).trans (hcell2 0 _ rfl)
   have d1:wr.cell? ⟨g2,go2+i * 3+1,none⟩=some (.int .i64 l[i].len):=(HW.out.cell (p:=⟨g2,go2+i * 3+1,none⟩) hgl2).trans (hcell2 1 _ rfl)
   have d2:wr.cell? ⟨g2,go2+i * 3+2,none⟩=some (.int .i64 l[i].args):=(HW.out.cell (p:=⟨g2,go2+i * 3+2,none⟩) hgl2).trans (hcell2 2 _ rfl)
   have hz1:g<wr.heap.size:=zi e0
   have hz2:g2<wr.heap.size:=zi d0
   clear hcell hcell2
   generalize l[i]=x at *
   go_wp2_with fail
   go_quiet (fail)
   have HW2:=zh (HW.out.trans ((below_drewN wr nq).mono HW.out.size))
   go_wp2_with fail
   go_roundg (l.length - (i+1))
   case measure=>omega
   case rel=>exact⟨i+1,by omega,rfl,by go_num,HW2⟩
  ·have hlt':¬(i:Int)<(l.length:Int):=by omega
   go_wp2_with fail
   go_ret
   exact⟨rfl,HW.out⟩
theorem eqGl {w:World}{a b:Option Addr}{c d:Nat}{l:List Ob.Gl}(hA:Sl w (.slice a l.length c) 4 l.length (cellsOf glC l)) (hB:Sl w (.slice b l.length d) 4 l.length (cellsOf glC l)) (hn:l.length<=1000000) :
  Calls Tryz.prog 33 #[.slice a l.length c,.slice b l.length d] w fun e w'=>e=.returned (.bool true)/\Below w.heap.size w w':=by
 have hn':(l.length:Int)<=1000000:=by omega
 have HA:=zh hA
 have HB:=zh hB
 clear hA hB
 go_enter Tryz.func33,Tryz.ntmps33
 go_wp2_with fail
 go_loopg [13] l.length (fun k vi wr=>∃ i:Nat,i<=l.length/\k=l.length - i/\vi=.int .i64 (i:Int)/\Hid (Below w.heap.size w wr))
 case atStart=>exact⟨0,by omega,by omega,rfl,Below.refl _ _⟩
 case round =>
  obtain⟨i,hid,hk,rfl,HW⟩:=hrel
  by_cases hlt:i<l.length
  ·have hlt':(i:Int)<(l.length:Int):=by omega
   obtain⟨g,go,rfl,hgl,hcell⟩:=HA.out.at' jH (by omega) i hlt
   obtain⟨g2,go2,rfl,hgl2,hcell2⟩:=HB.out.at' jH (by omega) i hlt
   have e0:wr.cell? ⟨g,go+i * 4,none⟩=some (.string (bs l[i].name)):=(HW.out.cell (p:=⟨g,go+i * 4,none⟩) hgl).trans (hcell 0 _ rfl)
   have e1:wr.cell? ⟨g,go+i * 4+1,none⟩=some (.int .i64 l[i].at'):=(HW.out.cell (p:=⟨g,go+i * 4+1,none⟩) hgl).trans (hcell 1 _ rfl)
   have e2:wr.cell? ⟨g,go+i * 4+2,none⟩=some (.int .i64 l[i].len):=(HW.out.cell (p:=⟨g,go+i * 4+2,none⟩) hgl).trans (hcell 2 _ rfl)
   have e3:wr.cell? ⟨g,go+i * 4+3,none⟩=some (.bool l[i].seen):=(HW.out.cell (p:=⟨g,go+i * 4+3,none⟩) hgl).trans (hcell 3 _ rfl)
   have d0:wr.cell? ⟨g2,go2+i * 4,none⟩=some (.string (bs l[i].name)):=(HW.out.cell (p:=⟨g2,go2+i * 4,none⟩) hgl2).trans (hcell2 0 _ rfl)
   have d1:wr.cell? ⟨g2,go2+i * 4+1,none⟩=some (.int .i64 l[i].at'):=(HW.out.cell (p:=⟨g2,go2+i * 4+1,none⟩) hgl2).trans (hcell2 1 _ rfl)
   have d2:wr.cell? ⟨g2,go2+i * 4+2,none⟩=some (.int .i64 l[i].len):=(HW.out.cell (p:=⟨g2,go2+i * 4+2,none⟩) hgl2).trans (hcell2 2 _ rfl)
   have d3:wr.cell? ⟨g2,go2+i * 4+3,none⟩=some (.bool l[i].seen):=(HW.out.cell (p:=⟨g2,go2+i * 4+3,none⟩) hgl2).trans (hcell2 3 _ rfl)
   have hz1:g<wr.heap.size:=zi e0
   have hz2:g2<wr.heap.size:=zi d0
   clear hcell hcell2
   generalize l[i]=x at *
   go_wp2_with fail
   go_quiet (fail)
   have HW2:=zh (HW.out.trans ((below_drewN wr nq).mono HW.out.size))
   go_wp2_with fail
   go_roundg (l.length - (i+1))
   case measure=>omega
   case rel=>exact⟨i+1,by omega,rfl,by go_num,HW2⟩
  ·have hlt':¬(i:Int)<(l.length:Int):=by omega
   go_wp2_with fail
   go_ret
   exact⟨rfl,HW.out⟩
theorem eqUse1 {w:World}(x:Ob.Us) {na na':Option Addr}{nc nc':Nat}(hA:Sl w (.slice na x.names.length nc) 1 x.names.length (cellsOf stC x.names)) (hB:Sl w (.slice na' x.names.length nc') 1 x.names.length (cellsOf stC x.names)) (hn:x.names.length<=1000000) :
  Calls Tryz.prog 31 #[.agg #[.string (bs x.name),.string (bs x.need),.slice na x.names.length nc],.agg #[.string (bs x.name),.string (bs x.need),.slice na' x.names.length nc']] w fun e w'=>e=.returned (.bool true)/\Below w.heap.size w w':=by
 have hb0:Below w.heap.size w ((w.alloc (.cells #[.string (bs x.name),.string (bs x.need),.slice na x.names.length nc] 65)).alloc (.cells #[.string (bs x.name),.string (bs x.need),.slice na' x.names.length nc'] 65)):=(zb _ _).alloc (by simp) _
 have HB0:=zh hb0
 have HC:=zh (eqStr (hA.below hb0) (hB.below hb0) hn)
 clear hA hB hb0
 go_enter Tryz.func31,Tryz.ntmps31
 go_wp2_with fail
 refine HC.out.mono ?_
 rintro e w1 ⟨rfl,h1⟩
 have HB:=zh (HB0.out.trans (h1.mono HB0.out.size))
 clear h1
 go_wp2_with fail
 go_ret
 exact⟨rfl,HB.out⟩
theorem eqUses {w:World}{a b:Option Addr}{c d:Nat}{l:List Ob.Us}{us1 us2:List Value}(hU1:RepN w l us1) (hA:Sl w (.slice a l.length c) 3 l.length us1) (hU2:RepN w l us2) (hB:Sl w (.slice b l.length d) 3 l.length us2) (hn:l.length<=1000000) (hs:∀ x∈l,x.names.length<=1000000) :
  Calls Tryz.prog 30 #[.slice a l.length c,.slice b l.length d,.func (.func 31) #[] #[]] w fun e w'=>e=.returned (.bool true)/\Below w.heap.size w w':=by
 have hn':(l.length:Int)<=1000000:=by omega
 have HA:=zh hA
 have HB:=zh hB
 have HU1:=zh hU1
 have HU2:=zh hU2
 have HS:=zh hs
 clear hA hB hU1 hU2 hs
 go_enter Tryz.func30,Tryz.ntmps30
 go_wp2_with fail
 go_loopg [17] l.length (fun k vi wr=>∃ i:Nat,i<=l.length/\k=l.length - i/\vi=.int .i64 (i:Int)/\Hid (Below w.heap.size w wr))
 case atStart=>exact⟨0,by omega,by omega,rfl,Below.refl _ _⟩
 case round =>
  obtain⟨i,hid,hk,rfl,HW⟩:=hrel
  by_cases hlt:i<l.length
  ·have hlt':(i:Int)<(l.length:Int):=by omega
   obtain⟨na1,nc1,q0,q1,q2,eS⟩:=RepN.get _ _ HU1.out i hlt
   obtain⟨a0,c0',hsl0,_,hall⟩:=HA.out
   cases hsl0
   obtain⟨g,go,rfl,hg0⟩:=hall _ _ q0
   have el:=zi hg0
   have e0:wr.cell? ⟨g,go+i * 3,none⟩=some (.string (bs l[i].name)):=(HW.out.cell (p:=⟨g,go+i * 3,none⟩) el).trans hg0
   have e1:wr.cell? ⟨g,go+i * 3+1,none⟩=some (.string (bs l[i].need)):=by
    obtain⟨g',go',he,hg1⟩:=hall _ _ q1
    cases he
    exact(HW.out.cell (p:=⟨g,go+i * 3+1,none⟩) el).trans hg1
   have e2:wr.cell? ⟨g,go+i * 3+2,none⟩=some (.slice na1 l[i].names.length nc1):=by
    obtain⟨g',go',he,hg1⟩:=hall _ _ q2
    cases he
    exact(HW.out.cell (p:=⟨g,go+i * 3+2,none⟩) el).trans hg1
   clear hall q0 q1 q2 hg0
   obtain⟨na2,nc2,q0,q1,q2,dS⟩:=RepN.get _ _ HU2.out i hlt
   obtain⟨a0,c0',hsl0,_,hall⟩:=HB.out
   cases hsl0
   obtain⟨g2,go2,rfl,hg0⟩:=hall _ _ q0
   have dl:=zi hg0
   have d0:wr.cell? ⟨g2,go2+i * 3,none⟩=some (.string (bs l[i].name)):=(HW.out.cell (p:=⟨g2,go2+i * 3,none⟩) dl).trans hg0
   have d1:wr.cell? ⟨g2,go2+i * 3+1,none⟩=some (.string (bs l[i].need)):=by
    obtain⟨g',go',he,hg1⟩:=hall _ _ q1
    cases he
    exact(HW.out.cell (p:=⟨g2,go2+i * 3+1,none⟩) dl).trans hg1
   have d2:wr.cell? ⟨g2,go2+i * 3+2,none⟩=some (.slice na2 l[i].names.length nc2):=by
    obtain⟨g',go',he,hg1⟩:=hall _ _ q2
    cases he
    exact(HW.out.cell (p:=⟨g2,go2+i * 3+2,none⟩) dl).trans hg1
   clear hall q0 q1 q2 hg0
   have hz1:g<wr.heap.size:=zi e0
   have hz2:g2<wr.heap.size:=zi d0
   have hx:=HS.out l[i] (List.getElem_mem hlt)
   generalize l[i]=x at *
   have hb2:Below wr.heap.size wr ((wr.alloc (.cells #[.string (bs x.name),.string (bs x.need),.slice na1 x.names.length nc1] 65)).alloc (.cells #[.string (bs x.name),.string (bs x.need),.slice na2 x.names.length nc2] 65)):=(zb _ _).alloc (by simp) _
   have HB2:=zh hb2
   have HC:=zh (eqUse1 x ((eS.below HW.out).below hb2) ((dS.below HW.out).below hb2) hx)
   clear hb2 eS dS
   go_wp2_with fail
   refine HC.out.mono ?_
   rintro e w3 ⟨rfl,h3⟩
   have HW3:=zh (HW.out.trans ((HB2.out.trans (h3.mono HB2.out.size)).mono HW.out.size))
   clear h3
   go_wp2_with fail
   go_roundg (l.length - (i+1))
   case measure=>omega
   case rel=>exact⟨i+1,by omega,rfl,by go_num,HW3⟩
  ·have hlt':¬(i:Int)<(l.length:Int):=by omega
   go_wp2_with fail
   go_ret
   exact⟨rfl,HW.out⟩
theorem alike_ov {w:World}{b o b' o':Nat}{O:Ob.O}{sa ua va pa na ca sa' ua' va' pa' na' ca':Option Addr}{sc uc vc pc nc cc sc' uc' vc' pc' nc' cc':Nat}(hV:OV w b o O sa ua va pa na ca sc uc vc pc nc cc) {ps:List Ob.En}{is:List Ob.In}(hV':OV w b' o' { O with procs:=ps,code:=is } sa' ua' va' pa' na' ca' sc' uc' vc' pc' nc' cc') (hB:Bd O) :
  Calls Tryz.prog 9 #[.pointer (some ⟨b,o,none⟩),.pointer (some ⟨b',o',none⟩)] w fun e w'=>e=.returned (.bool true)/\Below w.heap.size w w':=by
 have HK:Hid (∀ W,Below w.heap.size w W->W.cell? ⟨b,o,none⟩=some (.string (bs O.name))/\W.cell? ⟨b,o+1,none⟩=some (.slice sa O.syms.length sc)/\W.cell? ⟨b,o+2,none⟩=some (.slice ua O.uses.length uc)/\W.cell? ⟨b,o+3,none⟩=some (.slice va O.vars.length vc)/\W.cell? ⟨b,o+5,none⟩=some (.slice na O.names.length nc)/\W.cell? ⟨b',o',none⟩=some (.string (bs O.name))/\W.cell? ⟨b',o'+1,none⟩=some (.slice sa' O.syms.length sc')/\W.cell? ⟨b',o'+2,none⟩=some (.slice ua' O.uses.length uc')/\W.cell? ⟨b',o'+3,none⟩=some (.slice va' O.vars.length vc')/\W.cell? ⟨b',o'+5,none⟩=some (.slice na' O.names.length nc')):=fun W hW=>⟨(hV.below hW).c0,(hV.below hW).c1,(hV.below hW).c2,(hV.below hW).c3,(hV.below hW).c5,(hV'.below hW).c0,(hV'.below hW).c1,(hV'.below hW).c2,(hV'.below hW).c3,(hV'.below hW).c5⟩
 have HC0:Hid (∀ W,Below w.heap.size w W->Calls Tryz.prog 29 #[.slice sa O.syms.length sc,.slice sa' O.syms.length sc'] W fun e w'=>e=.returned (.bool true)/\Below W.heap.size W w'):=fun W hW=>eqSym (hV.below hW).s (hV'.below hW).s hB.sl
 have HC1:Hid (∀ W,Below w.heap.size w W->Calls Tryz.prog 30 #[.slice ua O.uses.length uc,.slice ua' O.uses.length uc',.func (.func 31) #[] #[]] W fun e w'=>e=.returned (.bool true)/\Below W.heap.size W w'):=fun W hW=>by
  obtain⟨u1,a1,a2⟩:=(hV.below hW).u
  obtain⟨u2,a3,a4⟩:=(hV'.below hW).u
  exact eqUses a1 a2 a3 a4 hB.ul (fun x hx=>(hB.u x hx).2.1)
 have HC2:Hid (∀ W,Below w.heap.size w W->Calls Tryz.prog 33 #[.slice va O.vars.length vc,.slice va' O.vars.length vc'] W fun e w'=>e=.returned (.bool true)/\Below W.heap.size W w'):=fun W hW=>eqGl (hV.below hW).v (hV'.below hW).v hB.vl
 have HC3:Hid (∀ W,Below w.heap.size w W->Calls Tryz.prog 32 #[.slice na O.names.length nc,.slice na' O.names.length nc'] W fun e w'=>e=.returned (.bool true)/\Below W.heap.size W w'):=fun W hW=>eqStr (hV.below hW).n (hV'.below hW).n hB.nl
 have HK0:=zh (HK.out _ (zt w))
 have HB0:=zh (zt w)
 have hz1:=zi hV.c0
 have hz2:=zi hV'.c0
 clear hV hV' hB
 go_enter Tryz.func9,Tryz.ntmps9
 go_wp2_with fail
 go_region_held3 (fun W=>W.cell? ⟨b,o,none⟩=some (.string (bs O.name))/\W.cell? ⟨b,o+1,none⟩=some (.slice sa O.syms.length sc)/\W.cell? ⟨b,o+2,none⟩=some (.slice ua O.uses.length uc)/\W.cell? ⟨b,o+3,none⟩=some (.slice va O.vars.length vc)/\W.cell? ⟨b,o+5,none⟩=some (.slice na O.names.length nc)/\W.cell? ⟨b',o',none⟩=some (.string (bs O.name))/\W.cell? ⟨b',o'+1,none⟩=some (.slice sa' O.syms.length sc')/\W.cell? ⟨b',o'+2,none⟩=some (.slice ua' O.uses.length uc')/\W.cell? ⟨b',o'+3,none⟩=some (.slice va' O.vars.length vc')/\W.cell? ⟨b',o'+5,none⟩=some (.slice na' O.names.length nc')) (with_reducible (first|exact HK4.out|exact HK3.out|exact HK2.out|exact HK1.out|exact HK0.out)) (first|(go_at_call 29;refine(HC0.out _ HB0.out).mono ?_;rintro e w1 ⟨rfl,hb1⟩;have HB1:Hid (Below w.heap.size w w1):=HB0.out.trans (hb1.mono HB0.out.size);have HK1:=zh (HK.out _ HB1.out);clear hb1)|(go_at_call 30;refine(HC1.out _ HB1.out).mono ?_;rintro e w2 ⟨rfl,hb2⟩;have HB2:Hid (Below w.heap.size w w2):=HB1.out.trans (hb2.mono HB1.out.size);have HK2:=zh (HK.out _ HB2.out);clear hb2)|(go_at_call 33;refine(HC2.out _ HB2.out).mono ?_;rintro e w3 ⟨rfl,hb3⟩;have HB3:Hid (Below w.heap.size w w3):=HB2.out.trans (hb3.mono HB2.out.size);have HK3:=zh (HK.out _ HB3.out);clear hb3)|(go_at_call 32;refine(HC3.out _ HB3.out).mono ?_;rintro e w4 ⟨rfl,hb4⟩;have HB4:Hid (Below w.heap.size w w4):=HB3.out.trans (hb4.mono HB3.out.size);have HK4:=zh (HK.out _ HB4.out);clear hb4))
 go_wp2_with fail
 go_ret
 exact⟨rfl,HB4.out⟩
end Go.Proofs.YtmnedfdffbbchaaGreatDoor.Jo
