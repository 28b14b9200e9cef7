import Derived.Test.YtmocelfkmdpogaaGreatDoorKJg
set_option maxRecDepth 100000
set_option maxHeartbeats 4000000
namespace Go.Proofs.YtmocelfkmdpogaaGreatDoor.Jo
open Go.RowKit
open Ob (Bs)
theorem cfEnt (args:Array Value) (w:World):(callFunc 127 args).run Tryz.prog w=.ok (.enter 127 args) w:=by kernel_rfl
theorem ent_r {w:World}(x:Ob.En) {cb b o n cap:Nat}{a:Option Addr}(hcb:w.cell? ⟨cb,0,none⟩=some (.pointer (some ⟨b,o,none⟩))) (hnm:w.cell? ⟨b,o+6,none⟩=some (.slice a n cap)) :
  Calls Tryz.prog 127 #[.agg #[.int .i64 x.at',.int .i64 x.args,.int .i64 x.locals],.pointer (some ⟨cb,0,none⟩)] w fun e w'=>e=.returned (.bool (Ob.entB n x))/\Below w.heap.size w w':=by
 have HR:Hid (Ob.entB n x=(Ob.countsB x.at' n && (decide (0<=x.args) && (decide (x.args<=x.locals) && decide (x.locals<=10))))):=rfl
 have HC:Hid (∀ W,Calls Tryz.prog 128 #[.int .i64 x.at',.int .i64 (n:Int)] W fun e w'=>e=.returned (.bool (Ob.countsB x.at' n))/\w'=W):=fun W=>yS W x.at' n
 generalize Ob.entB n x=r at *
 generalize Ob.countsB x.at' n=b1 at *
 generalize x.at'=xa at *
 generalize x.args=xb at *
 generalize x.locals=xc at *
 have hcl:=zc hcb
 have hbl:=zc hnm
 obtain⟨w1,hw1⟩:∃ w1,w1=w.alloc (.cells #[.int .i64 xa,.int .i64 xb,.int .i64 xc] 156):=⟨_,rfl⟩
 have hb0:Below w.heap.size w w1:=by rw[hw1];exact(Below.refl _ _).alloc (Nat.le_refl _) _
 have hblk:w1.heap[w.heap.size]?=some (.cells #[.int .i64 xa,.int .i64 xb,.int .i64 xc] 156 (0,0)):=by rw[hw1];exact zk _ _
 have hsz:w.heap.size<w1.heap.size:=zi hblk
 have k0:w1.cell? ⟨w.heap.size,0,none⟩=some (.int .i64 xa):=za hblk
 have k1:w1.cell? ⟨w.heap.size,1,none⟩=some (.int .i64 xb):=za hblk
 have k2:w1.cell? ⟨w.heap.size,2,none⟩=some (.int .i64 xc):=za hblk
 have kc:w1.cell? ⟨cb,0,none⟩=some (.pointer (some ⟨b,o,none⟩)):=(hb0.cell (p:=⟨cb,0,none⟩) hcl).trans hcb
 have kn:w1.cell? ⟨b,o+6,none⟩=some (.slice a n cap):=(hb0.cell (p:=⟨b,o+6,none⟩) hbl).trans hnm
 have HB0:=Lib.hid hb0
 have HW1:=Lib.hid hw1
 clear hw1 hb0 hblk hcb hnm
 cases b1 with
 | false =>
  have HV:Hid (r=false):=by
   show _=_
   rw[HR.out]
   simp[*]
  clear HR
  go_enter Tryz.func127,Tryz.ntmps127
  go_wp2_with fail
  rw[<-HW1.out]
  clear HW1
  go_quiet ((go_at_call 128;exact Calls.quiet_of_same (HC.out _)))
  go_wp2_with fail
  go_ret
  exact⟨by rw[HV.out];rfl,HB0.out.trans ((below_drewN _ _).mono HB0.out.size)⟩
 | true =>
  by_cases h1:0<=xb
  ·have h1d:decide (0<=xb)=true:=decide_eq_true (by omega)
   by_cases h2:xb<=xc
   ·have h2d:decide (xb<=xc)=true:=decide_eq_true (by omega)
    by_cases h3:xc<=10
    ·have h3d:decide (xc<=10)=true:=decide_eq_true (by omega)
     have HV:Hid (r=true):=by
      show _=_
      rw[HR.out]
      simp[*]
     clear HR
     go_enter Tryz.func127,Tryz.ntmps127
     go_wp2_with fail
     rw[<-HW1.out]
     clear HW1
     go_quiet ((go_at_call 128;exact Calls.quiet_of_same (HC.out _)))
     go_wp2_with fail
     go_ret
     exact⟨by rw[HV.out];rfl,HB0.out.trans ((below_drewN _ _).mono HB0.out.size)⟩
    ·have h3d:decide (xc<=10)=false:=decide_eq_false (by omega)
     have h3n:10<xc:=by omega
     have HV:Hid (r=false):=by
      show _=_
      rw[HR.out]
      simp[*]
     clear HR
     go_enter Tryz.func127,Tryz.ntmps127
     go_wp2_with fail
     rw[<-HW1.out]
     clear HW1
     go_quiet ((go_at_call 128;exact Calls.quiet_of_same (HC.out _)))
     go_wp2_with fail
     go_ret
     exact⟨by rw[HV.out];rfl,HB0.out.trans ((below_drewN _ _).mono HB0.out.size)⟩
   ·have h2d:decide (xb<=xc)=false:=decide_eq_false (by omega)
    have h2n:xc<xb:=by omega
    have HV:Hid (r=false):=by
     show _=_
     rw[HR.out]
     simp[*]
    clear HR
    go_enter Tryz.func127,Tryz.ntmps127
    go_wp2_with fail
    rw[<-HW1.out]
    clear HW1
    go_quiet ((go_at_call 128;exact Calls.quiet_of_same (HC.out _)))
    go_wp2_with fail
    go_ret
    exact⟨by rw[HV.out];rfl,HB0.out.trans ((below_drewN _ _).mono HB0.out.size)⟩
  ·have h1d:decide (0<=xb)=false:=decide_eq_false (by omega)
   have h1n:xb<0:=by omega
   have HV:Hid (r=false):=by
    show _=_
    rw[HR.out]
    simp[*]
   clear HR
   go_enter Tryz.func127,Tryz.ntmps127
   go_wp2_with fail
   rw[<-HW1.out]
   clear HW1
   go_quiet ((go_at_call 128;exact Calls.quiet_of_same (HC.out _)))
   go_wp2_with fail
   go_ret
   exact⟨by rw[HV.out];rfl,HB0.out.trans ((below_drewN _ _).mono HB0.out.size)⟩
theorem takeD {P:Program}{ops:Array Oper}{Q:Exit->Act->World->Prop}{md:Region.Mode}{S:World->Prop}{i:Nat}{d:Option Tmp}{v:Value}{fuel:Nat}{listed:Array Bool}{a:Act}{w:World}(hd:(ops[i]?).map (fun o=>o.dst)=some d)
  (hs:Region.noSelect ops=true) (hf:Region.free md ops listed i=true) (hr:(Region.ready md ops listed).contains i=true)
  (hQ:∀ c a w,Q (.panic c) (a.put d v) w->Q (.panic c) a w) (hy:∀ oi,ops[i]?=some oi->YieldsIf P ops S oi v a) (hS:S w)
  (h:wpAnyH P md ops Q S fuel (listed.setIfInBounds i true) (a.put d v) w):wpAnyH P md ops Q S (fuel+1) listed a w:=by
 rcases ho:ops[i]? with _|oi
 ·rw[ho]at hd;cases hd
 ·rw[ho]at hd
  cases hd
  exact wpAnyH_take ho hs hf hr hQ (hy oi ho) hS h
theorem procs_r {w:World}{b o:Nat}{O:Ob.O}{sa ua va pa na ca:Option Addr}{sc uc vc pc nc cc:Nat}(hV:OV w b o O sa ua va pa na ca sc uc vc pc nc cc) (hB:Bd O) :
  Calls Tryz.prog 81 #[.pointer (some ⟨b,o,none⟩)] w fun e w'=>e=.returned (.bool (Ob.procsB O))/\Below w.heap.size w w':=by
 have hmf:∀(fn:Fn) (first cap:Array Value) (w:World),(Instr.makeFunc fn first cap).run Tryz.prog w=.ok (.func fn first cap) w:=fun _ _ _ _=>rfl
 have hbl:=zc hV.c0
 obtain⟨w1,hw1⟩:∃ w1,w1=w.alloc (.cells #[.pointer (some ⟨b,o,none⟩)] 36):=⟨_,rfl⟩
 have hb0:Below w.heap.size w w1:=by rw[hw1];exact(Below.refl _ _).alloc (Nat.le_refl _) _
 have hblk:w1.heap[w.heap.size]?=some (.cells #[.pointer (some ⟨b,o,none⟩)] 36 (0,0)):=by rw[hw1];exact zk _ _
 have hsz:w.heap.size<w1.heap.size:=zi hblk
 have kb:w1.cell? ⟨w.heap.size,0,none⟩=some (.pointer (some ⟨b,o,none⟩)):=za hblk
 have hV1:=hV.below hb0
 have HB0:=Lib.hid hb0
 have HW1:=Lib.hid hw1
 clear hw1
 have HK:Hid (∀ W,Below w1.heap.size w1 W->W.cell? ⟨w.heap.size,0,none⟩=some (.pointer (some ⟨b,o,none⟩))/\W.cell? ⟨b,o+4,none⟩=some (.slice pa O.procs.length pc)/\W.cell? ⟨b,o+5,none⟩=some (.slice na O.names.length nc)) :=
  fun W hW=>⟨(hW.cell (p:=⟨w.heap.size,0,none⟩) hsz).trans kb,(hV1.below hW).c4,(hV1.below hW).c5⟩
 have hbl1:b<w1.heap.size:=Nat.lt_of_lt_of_le hbl hb0.size
 have HC1:Hid (∀ W,Below w1.heap.size w1 W->Calls Tryz.prog 129 #[.slice pa O.procs.length pc,.int .i64 10,.func (.func 127) #[] #[.pointer (some ⟨w.heap.size,0,none⟩)]] W fun e w'=>e=.returned (.bool (Ob.allB (Ob.entB O.code.length) 10 O.procs))/\Below W.heap.size W w') :=
  fun W hW=>allEn (hV1.below hW).p (by have:=hB.pl;omega) 10 (by omega) cfEnt (fun W' y hy hW'=>ent_r y ((hW'.cell (p:=⟨w.heap.size,0,none⟩) (show w.heap.size<W.heap.size by have:=hW.size;omega)).trans ((hW.cell (p:=⟨w.heap.size,0,none⟩) hsz).trans kb)) ((hV1.below hW).below hW').c6)
 have HC2:Hid (∀ W,Below w1.heap.size w1 W->Calls Tryz.prog 130 #[.slice na O.names.length nc,.int .i64 10,.func (.func 121) #[] #[]] W fun e w'=>e=.returned (.bool (Ob.allB Ob.nameB 10 O.names))/\Below W.heap.size W w') :=
  fun W hW=>allStr (hV1.below hW).n (by have:=hB.nl;omega) 10 (by omega) cfName (fun W' y hy _=>(kJ W' y (hB.n y hy)).mono (fun e w' h=>⟨h.1,by rw[h.2];exact Below.refl _ _⟩))
 have HR:Hid (Ob.procsB O=(Ob.allB (Ob.entB O.code.length) 10 O.procs && (decide (O.names.length=O.procs.length) && Ob.allB Ob.nameB 10 O.names))):=rfl
 generalize Ob.procsB O=r at *
 generalize Ob.allB (Ob.entB O.code.length) 10 O.procs=b1 at *
 generalize Ob.allB Ob.nameB 10 O.names=b2 at *
 have HK1:=Lib.hid (HK.out _ (zu w1))
 have hc0:=hV.c0
 clear hB hV1 hblk hb0 hV
 cases b1 with
 | false =>
  have HV:Hid (r=false):=by
   show _=_
   rw[HR.out]
   simp[*]
  clear HR
  go_enter Tryz.func81,Tryz.ntmps81
  go_wp2_with fail
  rw[<-HW1.out]
  clear HW1
  refine wp_region_held_drew (S:=(fun w'=>w'.cell? ⟨w.heap.size,0,none⟩=some (.pointer (some ⟨b,o,none⟩))/\w'.cell? ⟨b,o+4,none⟩=some (.slice pa O.procs.length pc)/\w'.cell? ⟨b,o+5,none⟩=some (.slice na O.names.length nc))) (by kernel_rfl) HK1.out (fun hHeld=>?_)
  refine takeD (i:=0) (d:=some 5) (v:=(.pointer (some ⟨b,o,none⟩))) (by kernel_rfl) (by kernel_rfl) (by kernel_rfl) (by kernel_rfl) (fun _ _ _ h=>h) (fun oi ho=>by cases ho;exact Or.inl ⟨by kernel_rfl,fun W hW=>by go_simp⟩) hHeld ?_
  go_frame
  refine takeD (i:=1) (d:=some 6) (v:=(.pointer (some ⟨b,o,none⟩))) (by kernel_rfl) (by kernel_rfl) (by kernel_rfl) (by kernel_rfl) (fun _ _ _ h=>h) (fun oi ho=>by cases ho;exact Or.inl ⟨by kernel_rfl,fun W hW=>by go_simp⟩) hHeld ?_
  go_frame
  refine takeD (i:=2) (d:=some 7) (v:=.pointer (some ⟨b,o+4,none⟩)) (by kernel_rfl) (by kernel_rfl) (by kernel_rfl) (by kernel_rfl) (fun _ _ _ h=>h) (fun oi ho=>by cases ho;exact Or.inl ⟨by kernel_rfl,fun W hW=>by go_simp⟩) hHeld ?_
  go_frame
  refine takeD (i:=3) (d:=some 8) (v:=.slice pa O.procs.length pc) (by kernel_rfl) (by kernel_rfl) (by kernel_rfl) (by kernel_rfl) (fun _ _ _ h=>h) (fun oi ho=>by cases ho;exact Or.inl ⟨by kernel_rfl,fun W hW=>by go_simp⟩) hHeld ?_
  go_frame
  refine takeD (i:=4) (d:=some 9) (v:=.func (.func 127) #[] #[.pointer (some ⟨w.heap.size,0,none⟩)]) (by kernel_rfl) (by kernel_rfl) (by kernel_rfl) (by kernel_rfl) (fun _ _ _ h=>h) (fun oi ho=>by cases ho;exact Or.inl ⟨by kernel_rfl,fun W hW=>by go_simp⟩) hHeld ?_
  go_frame
  refine wpAnyH_ready (rs:=[5]) (by kernel_rfl) (by simp) ?_
  refine AllReadyH.cons rfl (fun K hK=>?_) AllReadyH.nil
  go_simp
  refine(HC1.out _ (zu w1)).mono ?_
  rintro e w2 ⟨rfl,hb2⟩
  have HB2:Hid (Below w1.heap.size w1 w2):=(zu w1).trans hb2
  have HK2:=Lib.hid (HK.out _ HB2.out)
  clear hb2
  go_frame
  refine hK.out _ _ HK2.out (fun hHeld=>?_)
  clear hK
  refine takeD (i:=6) (d:=some 11) (v:=.bool false) (by kernel_rfl) (by kernel_rfl) (by kernel_rfl) (by kernel_rfl) (fun _ _ _ h=>h) (fun oi ho=>by cases ho;exact Or.inl ⟨by kernel_rfl,fun W hW=>by go_simp⟩) hHeld ?_
  go_frame
  refine takeD (i:=7) (d:=some 12) (v:=undef) (by kernel_rfl) (by kernel_rfl) (by kernel_rfl) (by kernel_rfl) (fun _ _ _ h=>h) (fun oi ho=>by cases ho;exact Or.inr ⟨by kernel_rfl,rfl⟩) hHeld ?_
  go_frame
  refine takeD (i:=8) (d:=some 13) (v:=undef) (by kernel_rfl) (by kernel_rfl) (by kernel_rfl) (by kernel_rfl) (fun _ _ _ h=>h) (fun oi ho=>by cases ho;exact Or.inr ⟨by kernel_rfl,rfl⟩) hHeld ?_
  go_frame
  refine takeD (i:=9) (d:=some 14) (v:=undef) (by kernel_rfl) (by kernel_rfl) (by kernel_rfl) (by kernel_rfl) (fun _ _ _ h=>h) (fun oi ho=>by cases ho;exact Or.inr ⟨by kernel_rfl,rfl⟩) hHeld ?_
  go_frame
  refine takeD (i:=10) (d:=some 15) (v:=undef) (by kernel_rfl) (by kernel_rfl) (by kernel_rfl) (by kernel_rfl) (fun _ _ _ h=>h) (fun oi ho=>by cases ho;exact Or.inr ⟨by kernel_rfl,rfl⟩) hHeld ?_
  go_frame
  refine takeD (i:=11) (d:=some 16) (v:=undef) (by kernel_rfl) (by kernel_rfl) (by kernel_rfl) (by kernel_rfl) (fun _ _ _ h=>h) (fun oi ho=>by cases ho;exact Or.inr ⟨by kernel_rfl,rfl⟩) hHeld ?_
  go_frame
  refine takeD (i:=12) (d:=some 17) (v:=undef) (by kernel_rfl) (by kernel_rfl) (by kernel_rfl) (by kernel_rfl) (fun _ _ _ h=>h) (fun oi ho=>by cases ho;exact Or.inr ⟨by kernel_rfl,rfl⟩) hHeld ?_
  go_frame
  refine takeD (i:=13) (d:=some 18) (v:=undef) (by kernel_rfl) (by kernel_rfl) (by kernel_rfl) (by kernel_rfl) (fun _ _ _ h=>h) (fun oi ho=>by cases ho;exact Or.inr ⟨by kernel_rfl,rfl⟩) hHeld ?_
  go_frame
  refine takeD (i:=14) (d:=some 19) (v:=undef) (by kernel_rfl) (by kernel_rfl) (by kernel_rfl) (by kernel_rfl) (fun _ _ _ h=>h) (fun oi ho=>by cases ho;exact Or.inr ⟨by kernel_rfl,rfl⟩) hHeld ?_
  go_frame
  refine takeD (i:=15) (d:=some 20) (v:=undef) (by kernel_rfl) (by kernel_rfl) (by kernel_rfl) (by kernel_rfl) (fun _ _ _ h=>h) (fun oi ho=>by cases ho;exact Or.inr ⟨by kernel_rfl,rfl⟩) hHeld ?_
  go_frame
  refine takeD (i:=16) (d:=some 21) (v:=undef) (by kernel_rfl) (by kernel_rfl) (by kernel_rfl) (by kernel_rfl) (fun _ _ _ h=>h) (fun oi ho=>by cases ho;exact Or.inr ⟨by kernel_rfl,rfl⟩) hHeld ?_
  go_frame
  refine takeD (i:=17) (d:=some 22) (v:=undef) (by kernel_rfl) (by kernel_rfl) (by kernel_rfl) (by kernel_rfl) (fun _ _ _ h=>h) (fun oi ho=>by cases ho;exact Or.inr ⟨by kernel_rfl,rfl⟩) hHeld ?_
  go_frame
  refine takeD (i:=18) (d:=some 23) (v:=.bool false) (by kernel_rfl) (by kernel_rfl) (by kernel_rfl) (by kernel_rfl) (fun _ _ _ h=>h) (fun oi ho=>by cases ho;exact Or.inl ⟨by kernel_rfl,fun W hW=>by go_simp⟩) hHeld ?_
  go_frame
  refine takeD (i:=19) (d:=some 24) (v:=.bool false) (by kernel_rfl) (by kernel_rfl) (by kernel_rfl) (by kernel_rfl) (fun _ _ _ h=>h) (fun oi ho=>by cases ho;exact Or.inl ⟨by kernel_rfl,fun W hW=>by go_simp⟩) hHeld ?_
  go_frame
  refine takeD (i:=20) (d:=some 25) (v:=undef) (by kernel_rfl) (by kernel_rfl) (by kernel_rfl) (by kernel_rfl) (fun _ _ _ h=>h) (fun oi ho=>by cases ho;exact Or.inr ⟨by kernel_rfl,rfl⟩) hHeld ?_
  go_frame
  refine takeD (i:=21) (d:=some 26) (v:=undef) (by kernel_rfl) (by kernel_rfl) (by kernel_rfl) (by kernel_rfl) (fun _ _ _ h=>h) (fun oi ho=>by cases ho;exact Or.inr ⟨by kernel_rfl,rfl⟩) hHeld ?_
  go_frame
  refine takeD (i:=22) (d:=some 27) (v:=undef) (by kernel_rfl) (by kernel_rfl) (by kernel_rfl) (by kernel_rfl) (fun _ _ _ h=>h) (fun oi ho=>by cases ho;exact Or.inr ⟨by kernel_rfl,rfl⟩) hHeld ?_
  go_frame
  refine takeD (i:=23) (d:=some 28) (v:=undef) (by kernel_rfl) (by kernel_rfl) (by kernel_rfl) (by kernel_rfl) (fun _ _ _ h=>h) (fun oi ho=>by cases ho;exact Or.inr ⟨by kernel_rfl,rfl⟩) hHeld ?_
  go_frame
  refine takeD (i:=24) (d:=some 29) (v:=undef) (by kernel_rfl) (by kernel_rfl) (by kernel_rfl) (by kernel_rfl) (fun _ _ _ h=>h) (fun oi ho=>by cases ho;exact Or.inr ⟨by kernel_rfl,rfl⟩) hHeld ?_
  go_frame
  refine takeD (i:=25) (d:=some 30) (v:=.bool false) (by kernel_rfl) (by kernel_rfl) (by kernel_rfl) (by kernel_rfl) (fun _ _ _ h=>h) (fun oi ho=>by cases ho;exact Or.inl ⟨by kernel_rfl,fun W hW=>by go_simp⟩) hHeld ?_
  go_frame
  refine takeD (i:=26) (d:=some 2) (v:=.bool false) (by kernel_rfl) (by kernel_rfl) (by kernel_rfl) (by kernel_rfl) (fun _ _ _ h=>h) (fun oi ho=>by cases ho;exact Or.inl ⟨by kernel_rfl,fun W hW=>by go_simp⟩) hHeld ?_
  go_frame
  refine wpAnyH_done (by kernel_rfl) ?_ _
  clear hHeld
  go_wp2_with fail
  go_ret
  exact⟨by rw[HV.out];rfl,HB0.out.trans (HB2.out.mono HB0.out.size)⟩
 | true =>
  by_cases hl:O.names.length=O.procs.length
  ·have he:((O.names.length:Int) == (O.procs.length:Int))=true:=by simp[hl]
   have HL:=Lib.hid hl
   cases b2 with
   | false =>
    have HV:Hid (r=false):=by
     show _=_
     rw[HR.out]
     simp[*]
    clear HR hl
    go_enter Tryz.func81,Tryz.ntmps81
    go_wp2_with fail
    rw[<-HW1.out]
    clear HW1
    go_region_held3 (fun w'=>w'.cell? ⟨w.heap.size,0,none⟩=some (.pointer (some ⟨b,o,none⟩))/\w'.cell? ⟨b,o+4,none⟩=some (.slice pa O.procs.length pc)/\w'.cell? ⟨b,o+5,none⟩=some (.slice na O.names.length nc)) (with_reducible (first|exact HK3.out|exact HK2.out|exact HK1.out)) (first|(go_at_call 129;refine(HC1.out _ (zu w1)).mono ?_;rintro e w2 ⟨rfl,hb2⟩;have HB2:Hid (Below w1.heap.size w1 w2):=(zu w1).trans hb2;have HK2:=Lib.hid (HK.out _ HB2.out);clear hb2)|(go_at_call 130;refine(HC2.out _ HB2.out).mono ?_;rintro e w3 ⟨rfl,hb3⟩;have HB3:Hid (Below w1.heap.size w1 w3):=HB2.out.trans (hb3.mono HB2.out.size);have HK3:=Lib.hid (HK.out _ HB3.out);clear hb3))
    go_wp2_with fail
    go_ret
    exact⟨by rw[HV.out];rfl,HB0.out.trans (HB3.out.mono HB0.out.size)⟩
   | true =>
    have HV:Hid (r=true):=by
     show _=_
     rw[HR.out]
     simp[*]
    clear HR hl
    go_enter Tryz.func81,Tryz.ntmps81
    go_wp2_with fail
    rw[<-HW1.out]
    clear HW1
    go_region_held3 (fun w'=>w'.cell? ⟨w.heap.size,0,none⟩=some (.pointer (some ⟨b,o,none⟩))/\w'.cell? ⟨b,o+4,none⟩=some (.slice pa O.procs.length pc)/\w'.cell? ⟨b,o+5,none⟩=some (.slice na O.names.length nc)) (with_reducible (first|exact HK3.out|exact HK2.out|exact HK1.out)) (first|(go_at_call 129;refine(HC1.out _ (zu w1)).mono ?_;rintro e w2 ⟨rfl,hb2⟩;have HB2:Hid (Below w1.heap.size w1 w2):=(zu w1).trans hb2;have HK2:=Lib.hid (HK.out _ HB2.out);clear hb2)|(go_at_call 130;refine(HC2.out _ HB2.out).mono ?_;rintro e w3 ⟨rfl,hb3⟩;have HB3:Hid (Below w1.heap.size w1 w3):=HB2.out.trans (hb3.mono HB2.out.size);have HK3:=Lib.hid (HK.out _ HB3.out);clear hb3))
    go_wp2_with fail
    go_ret
    exact⟨by rw[HV.out];rfl,HB0.out.trans (HB3.out.mono HB0.out.size)⟩
  ·have he:((O.names.length:Int) == (O.procs.length:Int))=false:=by simp;omega
   have HV:Hid (r=false):=by
    show _=_
    rw[HR.out]
    simp[*]
   clear HR
   go_enter Tryz.func81,Tryz.ntmps81
   go_wp2_with fail
   rw[<-HW1.out]
   clear HW1
   refine wp_region_held_drew (S:=(fun w'=>w'.cell? ⟨w.heap.size,0,none⟩=some (.pointer (some ⟨b,o,none⟩))/\w'.cell? ⟨b,o+4,none⟩=some (.slice pa O.procs.length pc)/\w'.cell? ⟨b,o+5,none⟩=some (.slice na O.names.length nc))) (by kernel_rfl) HK1.out (fun hHeld=>?_)
   refine takeD (i:=0) (d:=some 5) (v:=(.pointer (some ⟨b,o,none⟩))) (by kernel_rfl) (by kernel_rfl) (by kernel_rfl) (by kernel_rfl) (fun _ _ _ h=>h) (fun oi ho=>by cases ho;exact Or.inl ⟨by kernel_rfl,fun W hW=>by go_simp⟩) hHeld ?_
   go_frame
   refine takeD (i:=1) (d:=some 6) (v:=(.pointer (some ⟨b,o,none⟩))) (by kernel_rfl) (by kernel_rfl) (by kernel_rfl) (by kernel_rfl) (fun _ _ _ h=>h) (fun oi ho=>by cases ho;exact Or.inl ⟨by kernel_rfl,fun W hW=>by go_simp⟩) hHeld ?_
   go_frame
   refine takeD (i:=2) (d:=some 7) (v:=.pointer (some ⟨b,o+4,none⟩)) (by kernel_rfl) (by kernel_rfl) (by kernel_rfl) (by kernel_rfl) (fun _ _ _ h=>h) (fun oi ho=>by cases ho;exact Or.inl ⟨by kernel_rfl,fun W hW=>by go_simp⟩) hHeld ?_
   go_frame
   refine takeD (i:=3) (d:=some 8) (v:=.slice pa O.procs.length pc) (by kernel_rfl) (by kernel_rfl) (by kernel_rfl) (by kernel_rfl) (fun _ _ _ h=>h) (fun oi ho=>by cases ho;exact Or.inl ⟨by kernel_rfl,fun W hW=>by go_simp⟩) hHeld ?_
   go_frame
   refine takeD (i:=4) (d:=some 9) (v:=.func (.func 127) #[] #[.pointer (some ⟨w.heap.size,0,none⟩)]) (by kernel_rfl) (by kernel_rfl) (by kernel_rfl) (by kernel_rfl) (fun _ _ _ h=>h) (fun oi ho=>by cases ho;exact Or.inl ⟨by kernel_rfl,fun W hW=>by go_simp⟩) hHeld ?_
   go_frame
   refine wpAnyH_ready (rs:=[5]) (by kernel_rfl) (by simp) ?_
   refine AllReadyH.cons rfl (fun K hK=>?_) AllReadyH.nil
   go_simp
   refine(HC1.out _ (zu w1)).mono ?_
   rintro e w2 ⟨rfl,hb2⟩
   have HB2:Hid (Below w1.heap.size w1 w2):=(zu w1).trans hb2
   have HK2:=Lib.hid (HK.out _ HB2.out)
   clear hb2
   go_frame
   refine hK.out _ _ HK2.out (fun hHeld=>?_)
   clear hK
   refine takeD (i:=6) (d:=some 11) (v:=.bool true) (by kernel_rfl) (by kernel_rfl) (by kernel_rfl) (by kernel_rfl) (fun _ _ _ h=>h) (fun oi ho=>by cases ho;exact Or.inl ⟨by kernel_rfl,fun W hW=>by go_simp⟩) hHeld ?_
   go_frame
   refine takeD (i:=7) (d:=some 12) (v:=(.pointer (some ⟨b,o,none⟩))) (by kernel_rfl) (by kernel_rfl) (by kernel_rfl) (by kernel_rfl) (fun _ _ _ h=>h) (fun oi ho=>by cases ho;exact Or.inl ⟨by kernel_rfl,fun W hW=>by go_simp⟩) hHeld ?_
   go_frame
   refine takeD (i:=8) (d:=some 13) (v:=(.pointer (some ⟨b,o,none⟩))) (by kernel_rfl) (by kernel_rfl) (by kernel_rfl) (by kernel_rfl) (fun _ _ _ h=>h) (fun oi ho=>by cases ho;exact Or.inl ⟨by kernel_rfl,fun W hW=>by go_simp⟩) hHeld ?_
   go_frame
   refine takeD (i:=9) (d:=some 14) (v:=.pointer (some ⟨b,o+5,none⟩)) (by kernel_rfl) (by kernel_rfl) (by kernel_rfl) (by kernel_rfl) (fun _ _ _ h=>h) (fun oi ho=>by cases ho;exact Or.inl ⟨by kernel_rfl,fun W hW=>by go_simp⟩) hHeld ?_
   go_frame
   refine takeD (i:=10) (d:=some 15) (v:=.slice na O.names.length nc) (by kernel_rfl) (by kernel_rfl) (by kernel_rfl) (by kernel_rfl) (fun _ _ _ h=>h) (fun oi ho=>by cases ho;exact Or.inl ⟨by kernel_rfl,fun W hW=>by go_simp⟩) hHeld ?_
   go_frame
   refine takeD (i:=11) (d:=some 16) (v:=.int .i64 (O.names.length:Int)) (by kernel_rfl) (by kernel_rfl) (by kernel_rfl) (by kernel_rfl) (fun _ _ _ h=>h) (fun oi ho=>by cases ho;exact Or.inl ⟨by kernel_rfl,fun W hW=>by go_simp⟩) hHeld ?_
   go_frame
   refine takeD (i:=12) (d:=some 17) (v:=(.pointer (some ⟨b,o,none⟩))) (by kernel_rfl) (by kernel_rfl) (by kernel_rfl) (by kernel_rfl) (fun _ _ _ h=>h) (fun oi ho=>by cases ho;exact Or.inl ⟨by kernel_rfl,fun W hW=>by go_simp⟩) hHeld ?_
   go_frame
   refine takeD (i:=13) (d:=some 18) (v:=(.pointer (some ⟨b,o,none⟩))) (by kernel_rfl) (by kernel_rfl) (by kernel_rfl) (by kernel_rfl) (fun _ _ _ h=>h) (fun oi ho=>by cases ho;exact Or.inl ⟨by kernel_rfl,fun W hW=>by go_simp⟩) hHeld ?_
   go_frame
   refine takeD (i:=14) (d:=some 19) (v:=.pointer (some ⟨b,o+4,none⟩)) (by kernel_rfl) (by kernel_rfl) (by kernel_rfl) (by kernel_rfl) (fun _ _ _ h=>h) (fun oi ho=>by cases ho;exact Or.inl ⟨by kernel_rfl,fun W hW=>by go_simp⟩) hHeld ?_
   go_frame
   refine takeD (i:=15) (d:=some 20) (v:=.slice pa O.procs.length pc) (by kernel_rfl) (by kernel_rfl) (by kernel_rfl) (by kernel_rfl) (fun _ _ _ h=>h) (fun oi ho=>by cases ho;exact Or.inl ⟨by kernel_rfl,fun W hW=>by go_simp⟩) hHeld ?_
   go_frame
   refine takeD (i:=16) (d:=some 21) (v:=.int .i64 (O.procs.length:Int)) (by kernel_rfl) (by kernel_rfl) (by kernel_rfl) (by kernel_rfl) (fun _ _ _ h=>h) (fun oi ho=>by cases ho;exact Or.inl ⟨by kernel_rfl,fun W hW=>by go_simp⟩) hHeld ?_
   go_frame
   refine takeD (i:=17) (d:=some 22) (v:=.bool false) (by kernel_rfl) (by kernel_rfl) (by kernel_rfl) (by kernel_rfl) (fun _ _ _ h=>h) (fun oi ho=>by cases ho;exact Or.inl ⟨by kernel_rfl,fun W hW=>by go_simp⟩) hHeld ?_
   go_frame
   refine takeD (i:=18) (d:=some 23) (v:=.bool false) (by kernel_rfl) (by kernel_rfl) (by kernel_rfl) (by kernel_rfl) (fun _ _ _ h=>h) (fun oi ho=>by cases ho;exact Or.inl ⟨by kernel_rfl,fun W hW=>by go_simp⟩) hHeld ?_
   go_frame
   refine takeD (i:=19) (d:=some 24) (v:=.bool false) (by kernel_rfl) (by kernel_rfl) (by kernel_rfl) (by kernel_rfl) (fun _ _ _ h=>h) (fun oi ho=>by cases ho;exact Or.inl ⟨by kernel_rfl,fun W hW=>by go_simp⟩) hHeld ?_
   go_frame
   refine takeD (i:=20) (d:=some 25) (v:=undef) (by kernel_rfl) (by kernel_rfl) (by kernel_rfl) (by kernel_rfl) (fun _ _ _ h=>h) (fun oi ho=>by cases ho;exact Or.inr ⟨by kernel_rfl,rfl⟩) hHeld ?_
   go_frame
   refine takeD (i:=21) (d:=some 26) (v:=undef) (by kernel_rfl) (by kernel_rfl) (by kernel_rfl) (by kernel_rfl) (fun _ _ _ h=>h) (fun oi ho=>by cases ho;exact Or.inr ⟨by kernel_rfl,rfl⟩) hHeld ?_
   go_frame
   refine takeD (i:=22) (d:=some 27) (v:=undef) (by kernel_rfl) (by kernel_rfl) (by kernel_rfl) (by kernel_rfl) (fun _ _ _ h=>h) (fun oi ho=>by cases ho;exact Or.inr ⟨by kernel_rfl,rfl⟩) hHeld ?_
   go_frame
   refine takeD (i:=23) (d:=some 28) (v:=undef) (by kernel_rfl) (by kernel_rfl) (by kernel_rfl) (by kernel_rfl) (fun _ _ _ h=>h) (fun oi ho=>by cases ho;exact Or.inr ⟨by kernel_rfl,rfl⟩) hHeld ?_
   go_frame
   refine takeD (i:=24) (d:=some 29) (v:=undef) (by kernel_rfl) (by kernel_rfl) (by kernel_rfl) (by kernel_rfl) (fun _ _ _ h=>h) (fun oi ho=>by cases ho;exact Or.inr ⟨by kernel_rfl,rfl⟩) hHeld ?_
   go_frame
   refine takeD (i:=25) (d:=some 30) (v:=.bool false) (by kernel_rfl) (by kernel_rfl) (by kernel_rfl) (by kernel_rfl) (fun _ _ _ h=>h) (fun oi ho=>by cases ho;exact Or.inl ⟨by kernel_rfl,fun W hW=>by go_simp⟩) hHeld ?_
   go_frame
   refine takeD (i:=26) (d:=some 2) (v:=.bool false) (by kernel_rfl) (by kernel_rfl) (by kernel_rfl) (by kernel_rfl) (fun _ _ _ h=>h) (fun oi ho=>by cases ho;exact Or.inl ⟨by kernel_rfl,fun W hW=>by go_simp⟩) hHeld ?_
   go_frame
   refine wpAnyH_done (by kernel_rfl) ?_ _
   clear hHeld
   go_wp2_with fail
   go_ret
   exact⟨by rw[HV.out];rfl,HB0.out.trans (HB2.out.mono HB0.out.size)⟩
theorem yo {a b:Int}(h:a≠b):(a == b)=false:=by simpa using h
theorem qR {w:World}{b o:Nat}{O:Ob.O}{sa ua va pa na ca:Option Addr}{sc uc vc pc nc cc:Nat}(hV:OV w b o O sa ua va pa na ca sc uc vc pc nc cc) (op:Int) :
  Calls Tryz.prog 181 #[.pointer (some ⟨b,o,none⟩),.int .i64 op] w fun e w'=>e=.returned (.int .i64 (Ob.choices O op:Int))/\w'=w:=by
 have c3:=hV.c3
 have c6:=hV.c6
 have hbl:=zc hV.c0
 clear hV
 by_cases h3:op=3
 ·subst h3
  have HV:Hid (Ob.choices O 3=10):=by show _=_;simp[Ob.choices]
  generalize Ob.choices O 3=r at *
  go_enter Tryz.func181,Tryz.ntmps181
  go_wp2_with fail
  go_ret
  exact⟨by rw[HV.out];rfl,rfl⟩
 by_cases h4:op=4
 ·subst h4
  have HV:Hid (Ob.choices O 4=10):=by show _=_;simp[Ob.choices]
  generalize Ob.choices O 4=r at *
  go_enter Tryz.func181,Tryz.ntmps181
  go_wp2_with fail
  go_ret
  exact⟨by rw[HV.out];rfl,rfl⟩
 by_cases h6:op=6
 ·subst h6
  have HV:Hid (Ob.choices O 6=O.vars.length):=by show _=_;simp[Ob.choices]
  generalize Ob.choices O 6=r at *
  go_enter Tryz.func181,Tryz.ntmps181
  go_wp2_with fail
  go_ret
  exact⟨by rw[HV.out];rfl,rfl⟩
 by_cases h8:op=8
 ·subst h8
  have HV:Hid (Ob.choices O 8=O.vars.length):=by show _=_;simp[Ob.choices]
  generalize Ob.choices O 8=r at *
  go_enter Tryz.func181,Tryz.ntmps181
  go_wp2_with fail
  go_ret
  exact⟨by rw[HV.out];rfl,rfl⟩
 by_cases h9:op=9
 ·subst h9
  have HV:Hid (Ob.choices O 9=11):=by show _=_;simp[Ob.choices]
  generalize Ob.choices O 9=r at *
  go_enter Tryz.func181,Tryz.ntmps181
  go_wp2_with fail
  go_ret
  exact⟨by rw[HV.out];rfl,rfl⟩
 by_cases h12:op=12
 ·subst h12
  have HV:Hid (Ob.choices O 12=O.code.length):=by show _=_;simp[Ob.choices]
  generalize Ob.choices O 12=r at *
  go_enter Tryz.func181,Tryz.ntmps181
  go_wp2_with fail
  go_ret
  exact⟨by rw[HV.out];rfl,rfl⟩
 by_cases h13:op=13
 ·subst h13
  have HV:Hid (Ob.choices O 13=O.code.length):=by show _=_;simp[Ob.choices]
  generalize Ob.choices O 13=r at *
  go_enter Tryz.func181,Tryz.ntmps181
  go_wp2_with fail
  go_ret
  exact⟨by rw[HV.out];rfl,rfl⟩
 by_cases h2:op=2
 ·subst h2
  have HV:Hid (Ob.choices O 2=1):=by show _=_;simp[Ob.choices]
  generalize Ob.choices O 2=r at *
  go_enter Tryz.func181,Tryz.ntmps181
  go_wp2_with fail
  go_ret
  exact⟨by rw[HV.out];rfl,rfl⟩
 by_cases h10:op=10
 ·subst h10
  have HV:Hid (Ob.choices O 10=1):=by show _=_;simp[Ob.choices]
  generalize Ob.choices O 10=r at *
  go_enter Tryz.func181,Tryz.ntmps181
  go_wp2_with fail
  go_ret
  exact⟨by rw[HV.out];rfl,rfl⟩
 by_cases h11:op=11
 ·subst h11
  have HV:Hid (Ob.choices O 11=1):=by show _=_;simp[Ob.choices]
  generalize Ob.choices O 11=r at *
  go_enter Tryz.func181,Tryz.ntmps181
  go_wp2_with fail
  go_ret
  exact⟨by rw[HV.out];rfl,rfl⟩
 by_cases h15:op=15
 ·subst h15
  have HV:Hid (Ob.choices O 15=1):=by show _=_;simp[Ob.choices]
  generalize Ob.choices O 15=r at *
  go_enter Tryz.func181,Tryz.ntmps181
  go_wp2_with fail
  go_ret
  exact⟨by rw[HV.out];rfl,rfl⟩
 by_cases h16:op=16
 ·subst h16
  have HV:Hid (Ob.choices O 16=1):=by show _=_;simp[Ob.choices]
  generalize Ob.choices O 16=r at *
  go_enter Tryz.func181,Tryz.ntmps181
  go_wp2_with fail
  go_ret
  exact⟨by rw[HV.out];rfl,rfl⟩
 by_cases h17:op=17
 ·subst h17
  have HV:Hid (Ob.choices O 17=1):=by show _=_;simp[Ob.choices]
  generalize Ob.choices O 17=r at *
  go_enter Tryz.func181,Tryz.ntmps181
  go_wp2_with fail
  go_ret
  exact⟨by rw[HV.out];rfl,rfl⟩
 have HV:Hid (Ob.choices O op=0):=by show _=_;simp[Ob.choices, *]
 generalize Ob.choices O op=r at *
 replace h3:=yo h3
 replace h4:=yo h4
 replace h6:=yo h6
 replace h8:=yo h8
 replace h9:=yo h9
 replace h12:=yo h12
 replace h13:=yo h13
 replace h2:=yo h2
 replace h10:=yo h10
 replace h11:=yo h11
 replace h15:=yo h15
 replace h16:=yo h16
 replace h17:=yo h17
 go_enter Tryz.func181,Tryz.ntmps181
 go_wp2_with fail
 go_ret
 exact⟨by rw[HV.out];rfl,rfl⟩
theorem qo {w:World}{b o:Nat}{O:Ob.O}{sa ua va pa na ca:Option Addr}{sc uc vc pc nc cc:Nat}(hV:OV w b o O sa ua va pa na ca sc uc vc pc nc cc) (hu:O.uses.length<=1000000) (x:Ob.In) (own:Nat) :
  Calls Tryz.prog 180 #[.pointer (some ⟨b,o,none⟩),.agg #[.int .i64 x.op,.int .i64 x.a,.int .i64 x.b],.int .i64 (own:Int)] w fun e w'=>e=.returned (.bool (Ob.reachB O x own))/\Below w.heap.size w w':=by
 have hbl:=zc hV.c0
 obtain⟨w1,hw1⟩:∃ w1,w1=w.alloc (.cells #[.int .i64 x.op,.int .i64 x.a,.int .i64 x.b] 54):=⟨_,rfl⟩
 have hb0:Below w.heap.size w w1:=by rw[hw1];exact(Below.refl _ _).alloc (Nat.le_refl _) _
 have hblk:w1.heap[w.heap.size]?=some (.cells #[.int .i64 x.op,.int .i64 x.a,.int .i64 x.b] 54 (0,0)):=by rw[hw1];exact zk _ _
 have hsz:w.heap.size<w1.heap.size:=zi hblk
 have k0:w1.cell? ⟨w.heap.size,0,none⟩=some (.int .i64 x.op):=za hblk
 have k1:w1.cell? ⟨w.heap.size,1,none⟩=some (.int .i64 x.a):=za hblk
 have k2:w1.cell? ⟨w.heap.size,2,none⟩=some (.int .i64 x.b):=za hblk
 have hV1:=hV.below hb0
 have u2:=hV1.c2
 have HB0:=Lib.hid hb0
 have HW1:=Lib.hid hw1
 have HU:=Lib.hid hV1.u
 have hu':(O.uses.length:Int)<=1000000:=by omega
 clear hw1 hb0 hblk hV hV1
 by_cases hb:x.b=-1
 ·have hbe:(x.b == -1)=true:=by simp[hb]
  have HV:Hid (Ob.reachB O x own=Ob.countsB x.a own):=by show _=_;unfold Ob.reachB;rw[if_pos hb]
  have HC:=Lib.hid (yS w1 x.a own)
  generalize Ob.reachB O x own=r at *
  generalize Ob.countsB x.a own=d at *
  generalize x.a=xa at *
  generalize x.b=xb at *
  generalize x.op=xo at *
  clear hb
  go_enter Tryz.func180,Tryz.ntmps180
  go_wp2_with fail
  rw[<-HW1.out]
  clear HW1
  refine HC.out.mono ?_
  rintro e wq ⟨rfl,hwq⟩
  rw[hwq]
  clear hwq
  go_wp2_with fail
  go_ret
  exact⟨by rw[HV.out];rfl,HB0.out⟩
 ·have hbe:(x.b == -1)=false:=by simpa using hb
  have HC1:Hid (∀ W,Calls Tryz.prog 128 #[.int .i64 x.b,.int .i64 (O.uses.length:Int)] W fun e w'=>e=.returned (.bool (Ob.countsB x.b O.uses.length))/\w'=W):=fun W=>yS W x.b O.uses.length
  by_cases hcb:Ob.countsB x.b O.uses.length=true
  ·have hr:0<=x.b/\x.b<(O.uses.length:Int):=by
    simp only [Ob.countsB,Bool.and_eq_true,decide_eq_true_eq]at hcb;exact hcb
   obtain⟨i,hi⟩:∃ i:Nat,x.b=(i:Int):=⟨x.b.toNat,by omega⟩
   have hil:i<O.uses.length:=by omega
   have HV:Hid (Ob.reachB O x own=Ob.countsB x.a O.uses[i].names.length):=by
    show _=_
    unfold Ob.reachB
    rw[if_neg hb,hcb,Bool.true_and,hi,Int.toNat_natCast,List.getElem?_eq_getElem hil]
    rfl
   have e1:=hcb
   obtain⟨ucs,hU1,hU2⟩:=HU.out
   obtain⟨na',nc',q0,q1,q2,q3⟩:=RepN.get _ _ hU1 i hil
   obtain⟨a0,c0',hsl0,_,hall⟩:=hU2
   cases hsl0
   obtain⟨g,go,rfl,hg2⟩:=hall _ _ q2
   have e2:w1.cell? ⟨g,go+i * 3+2,none⟩=some (.slice na' O.uses[i].names.length nc'):=hg2
   have hgl:=zc hg2
   have hil':(i:Int)<(O.uses.length:Int):=by omega
   have hi0:(0:Int)<=(i:Int):=by omega
   generalize Ob.reachB O x own=r at *
   obtain⟨d,hd⟩:∃ d,Ob.countsB x.a O.uses[i].names.length=d:=⟨_,rfl⟩
   rw[hd]at HV
   generalize O.uses[i].names.length=nn at *
   generalize x.a=xa at *
   generalize x.op=xo at *
   clear hb hcb hr hall HC1 q0 q1 q2 q3 hg2 hU1 HU
   rw[hi]at e1 k2 hbe HW1 ⊢
   clear hi
   cases d
   all_goals
    go_enter Tryz.func180,Tryz.ntmps180
    go_wp2_with fail
    rw[<-HW1.out]
    clear HW1
    go_quiet ((go_at_call 128;exact Calls.quiet_of_same (yS _ _ _)))
    go_wp2_with fail
    go_ret
    exact⟨by rw[HV.out];rfl,HB0.out.trans ((below_drewN _ _).mono HB0.out.size)⟩
  ·have hcf:Ob.countsB x.b O.uses.length=false:=by simpa using hcb
   have HV:Hid (Ob.reachB O x own=false):=by
    show _=_
    unfold Ob.reachB
    rw[if_neg hb,hcf,Bool.false_and]
   rw[hcf]at HC1
   generalize Ob.reachB O x own=r at *
   generalize x.a=xa at *
   generalize x.op=xo at *
   generalize x.b=xb at *
   clear hb hcb hcf HU
   go_enter Tryz.func180,Tryz.ntmps180
   go_wp2_with fail
   rw[<-HW1.out]
   clear HW1
   go_quiet ((go_at_call 128;exact Calls.quiet_of_same (HC1.out _)))
   go_wp2_with fail
   go_ret
   exact⟨by rw[HV.out];rfl,HB0.out.trans ((below_drewN _ _).mono HB0.out.size)⟩
theorem inst_r {w:World}{b o:Nat}{O:Ob.O}{sa ua va pa na ca:Option Addr}{sc uc vc pc nc cc:Nat}(hV:OV w b o O sa ua va pa na ca sc uc vc pc nc cc) (hu:O.uses.length<=1000000) (x:Ob.In) :
  Calls Tryz.prog 133 #[.pointer (some ⟨b,o,none⟩),.agg #[.int .i64 x.op,.int .i64 x.a,.int .i64 x.b]] w fun e w'=>e=.returned (.bool (Ob.instB O x))/\Below w.heap.size w w':=by
 have hbl:=zc hV.c0
 obtain⟨w1,hw1⟩:∃ w1,w1=w.alloc (.cells #[.int .i64 x.op,.int .i64 x.a,.int .i64 x.b] 54):=⟨_,rfl⟩
 have hb0:Below w.heap.size w w1:=by rw[hw1];exact(Below.refl _ _).alloc (Nat.le_refl _) _
 have hblk:w1.heap[w.heap.size]?=some (.cells #[.int .i64 x.op,.int .i64 x.a,.int .i64 x.b] 54 (0,0)):=by rw[hw1];exact zk _ _
 have hsz:w.heap.size<w1.heap.size:=zi hblk
 have hV1:=hV.below hb0
 have k0:w1.cell? ⟨w.heap.size,0,none⟩=some (.int .i64 x.op):=za hblk
 have k1:w1.cell? ⟨w.heap.size,1,none⟩=some (.int .i64 x.a):=za hblk
 have k2:w1.cell? ⟨w.heap.size,2,none⟩=some (.int .i64 x.b):=za hblk
 have HK:Hid (∀ W,Below w1.heap.size w1 W->W.cell? ⟨w.heap.size,0,none⟩=some (.int .i64 x.op)/\W.cell? ⟨w.heap.size,1,none⟩=some (.int .i64 x.a)/\W.cell? ⟨w.heap.size,2,none⟩=some (.int .i64 x.b)/\W.cell? ⟨b,o+3,none⟩=some (.slice va O.vars.length vc)/\W.cell? ⟨b,o+4,none⟩=some (.slice pa O.procs.length pc)) :=
  fun W hW=>⟨(hW.cell (p:=⟨w.heap.size,0,none⟩) hsz).trans k0,(hW.cell (p:=⟨w.heap.size,1,none⟩) hsz).trans k1,(hW.cell (p:=⟨w.heap.size,2,none⟩) hsz).trans k2,(hV1.below hW).c3,(hV1.below hW).c4⟩
 have HCR:Hid (∀ W own,Below w1.heap.size w1 W->Calls Tryz.prog 180 #[.pointer (some ⟨b,o,none⟩),.agg #[.int .i64 x.op,.int .i64 x.a,.int .i64 x.b],.int .i64 ((own:Nat):Int)] W fun e w'=>e=.returned (.bool (Ob.reachB O x own))/\Below W.heap.size W w'):=fun W own hW=>qo (hV1.below hW) hu x own
 have HV1:=Lib.hid hV1
 have HB0:=Lib.hid hb0
 have HW1:=Lib.hid hw1
 have hbl1:b<w1.heap.size:=Nat.lt_of_lt_of_le hbl hb0.size
 clear hw1 hb0 hblk hV hV1
 by_cases h5:x.op=5
 ·have HV:Hid (Ob.instB O x=Ob.reachB O x O.vars.length):=by show _=_;unfold Ob.instB;simp[h5]
  have HC:=Lib.hid (fun W hW=>HCR.out W O.vars.length hW)
  rw[h5]at HK HC HW1 k0 ⊢
  generalize Ob.instB O x=r at *
  generalize Ob.reachB O x O.vars.length=d at *
  clear HCR HV1 h5
  generalize x.a=xa at *
  generalize x.b=xb at *
  have HK1:=Lib.hid (HK.out _ (zu w1))
  obtain⟨_,_,_,f3,f4⟩:=HK.out w1 (Below.refl _ _)
  go_enter Tryz.func133,Tryz.ntmps133
  go_wp2_with fail
  rw[<-HW1.out]
  clear HW1
  go_region_held3 (fun w'=>w'.cell? ⟨w.heap.size,0,none⟩=some (.int .i64 5)/\w'.cell? ⟨w.heap.size,1,none⟩=some (.int .i64 xa)/\w'.cell? ⟨w.heap.size,2,none⟩=some (.int .i64 xb)/\w'.cell? ⟨b,o+3,none⟩=some (.slice va O.vars.length vc)/\w'.cell? ⟨b,o+4,none⟩=some (.slice pa O.procs.length pc)) (with_reducible (first|exact HK2.out|exact HK1.out)) (first|(go_at_call 180;refine(HC.out _ (zu w1)).mono ?_;rintro e w2 ⟨rfl,hb2⟩;have HB2:Hid (Below w1.heap.size w1 w2):=(zu w1).trans hb2;have HK2:=Lib.hid (HK.out _ HB2.out);clear hb2))
  go_wp2_with fail
  go_ret
  exact⟨by rw[HV.out];rfl,HB0.out.trans (HB2.out.mono HB0.out.size)⟩
 by_cases h7:x.op=7
 ·have HV:Hid (Ob.instB O x=Ob.reachB O x O.vars.length):=by show _=_;unfold Ob.instB;simp[h7]
  have HC:=Lib.hid (fun W hW=>HCR.out W O.vars.length hW)
  rw[h7]at HK HC HW1 k0 ⊢
  generalize Ob.instB O x=r at *
  generalize Ob.reachB O x O.vars.length=d at *
  clear HCR HV1 h7
  generalize x.a=xa at *
  generalize x.b=xb at *
  have HK1:=Lib.hid (HK.out _ (zu w1))
  obtain⟨_,_,_,f3,f4⟩:=HK.out w1 (Below.refl _ _)
  go_enter Tryz.func133,Tryz.ntmps133
  go_wp2_with fail
  rw[<-HW1.out]
  clear HW1
  go_region_held3 (fun w'=>w'.cell? ⟨w.heap.size,0,none⟩=some (.int .i64 7)/\w'.cell? ⟨w.heap.size,1,none⟩=some (.int .i64 xa)/\w'.cell? ⟨w.heap.size,2,none⟩=some (.int .i64 xb)/\w'.cell? ⟨b,o+3,none⟩=some (.slice va O.vars.length vc)/\w'.cell? ⟨b,o+4,none⟩=some (.slice pa O.procs.length pc)) (with_reducible (first|exact HK2.out|exact HK1.out)) (first|(go_at_call 180;refine(HC.out _ (zu w1)).mono ?_;rintro e w2 ⟨rfl,hb2⟩;have HB2:Hid (Below w1.heap.size w1 w2):=(zu w1).trans hb2;have HK2:=Lib.hid (HK.out _ HB2.out);clear hb2))
  go_wp2_with fail
  go_ret
  exact⟨by rw[HV.out];rfl,HB0.out.trans (HB2.out.mono HB0.out.size)⟩
 by_cases h14:x.op=14
 ·have HV:Hid (Ob.instB O x=Ob.reachB O x O.procs.length):=by show _=_;unfold Ob.instB;simp[h14]
  have HC:=Lib.hid (fun W hW=>HCR.out W O.procs.length hW)
  rw[h14]at HK HC HW1 k0 ⊢
  generalize Ob.instB O x=r at *
  generalize Ob.reachB O x O.procs.length=d at *
  clear HCR HV1 h14
  generalize x.a=xa at *
  generalize x.b=xb at *
  have HK1:=Lib.hid (HK.out _ (zu w1))
  obtain⟨_,_,_,f3,f4⟩:=HK.out w1 (Below.refl _ _)
  go_enter Tryz.func133,Tryz.ntmps133
  go_wp2_with fail
  rw[<-HW1.out]
  clear HW1
  go_region_held3 (fun w'=>w'.cell? ⟨w.heap.size,0,none⟩=some (.int .i64 14)/\w'.cell? ⟨w.heap.size,1,none⟩=some (.int .i64 xa)/\w'.cell? ⟨w.heap.size,2,none⟩=some (.int .i64 xb)/\w'.cell? ⟨b,o+3,none⟩=some (.slice va O.vars.length vc)/\w'.cell? ⟨b,o+4,none⟩=some (.slice pa O.procs.length pc)) (with_reducible (first|exact HK2.out|exact HK1.out)) (first|(go_at_call 180;refine(HC.out _ (zu w1)).mono ?_;rintro e w2 ⟨rfl,hb2⟩;have HB2:Hid (Below w1.heap.size w1 w2):=(zu w1).trans hb2;have HK2:=Lib.hid (HK.out _ HB2.out);clear hb2))
  go_wp2_with fail
  go_ret
  exact⟨by rw[HV.out];rfl,HB0.out.trans (HB2.out.mono HB0.out.size)⟩
 by_cases h1:x.op=1
 ·have HK':=HK.out w1 (Below.refl _ _)
  by_cases hb:x.b=0
  ·have hbe:(x.b == 0)=true:=by simp[hb]
   have HV:Hid (Ob.instB O x=true):=by show _=_;unfold Ob.instB;simp[h1,hb]
   rw[h1]at HW1 k0 ⊢
   generalize Ob.instB O x=r at *
   clear HCR HV1 h1 hb HK HK'
   generalize x.a=xa at *
   generalize x.b=xb at *
   go_enter Tryz.func133,Tryz.ntmps133
   go_wp2_with fail
   go_ret
   rw[<-HW1.out]
   exact⟨by rw[HV.out];rfl,HB0.out⟩
  ·have hbe:(x.b == 0)=false:=by simpa using hb
   have HV:Hid (Ob.instB O x=false):=by show _=_;unfold Ob.instB;simp[h1,hb]
   rw[h1]at HW1 k0 ⊢
   generalize Ob.instB O x=r at *
   clear HCR HV1 h1 hb HK HK'
   generalize x.a=xa at *
   generalize x.b=xb at *
   go_enter Tryz.func133,Tryz.ntmps133
   go_wp2_with fail
   go_ret
   rw[<-HW1.out]
   exact⟨by rw[HV.out];rfl,HB0.out⟩
 have HD:Hid (Ob.instB O x=(decide (x.b=0) && Ob.countsB x.a (Ob.choices O x.op))):=by show _=_;unfold Ob.instB;rw[if_neg (by omega),if_neg h14,if_neg h1]
 have q5:=yo h5
 have q7:=yo h7
 have q14:=yo h14
 have q1:=yo h1
 have HCC:Hid (∀ W,Below w1.heap.size w1 W->Calls Tryz.prog 181 #[.pointer (some ⟨b,o,none⟩),.int .i64 x.op] W fun e w'=>e=.returned (.int .i64 (Ob.choices O x.op:Int))/\w'=W):=fun W hW=>qR (HV1.out.below hW) x.op
 generalize Ob.instB O x=r at *
 generalize Ob.choices O x.op=nch at *
 generalize x.a=xa at *
 generalize x.op=xo at *
 clear HCR HV1 HK h5 h7 h14 h1
 by_cases hb:x.b=0
 ·have hbe:(x.b == 0)=true:=by simp[hb]
  obtain⟨d,hd⟩:∃ d,Ob.countsB xa nch=d:=⟨_,rfl⟩
  have HV:Hid (r=d):=by show _=_;rw[HD.out,hd,decide_eq_true hb,Bool.true_and]
  clear HD hb
  generalize x.b=xb at *
  cases d
  all_goals
   go_enter Tryz.func133,Tryz.ntmps133
   go_wp2_with fail
   rw[<-HW1.out]
   clear HW1
   go_quiet ((first|(go_at_call 181;exact Calls.quiet_of_same (HCC.out _ (below_drewN _ _)))|(go_at_call 128;exact Calls.quiet_of_same (yS _ _ _))))
   go_wp2_with fail
   go_ret
   exact⟨by rw[HV.out];rfl,HB0.out.trans ((below_drewN _ _).mono HB0.out.size)⟩
 ·have hbe:(x.b == 0)=false:=by simpa using hb
  have HV:Hid (r=false):=by show _=_;rw[HD.out,decide_eq_false hb,Bool.false_and]
  clear HD hb
  generalize x.b=xb at *
  go_enter Tryz.func133,Tryz.ntmps133
  go_wp2_with fail
  rw[<-HW1.out]
  clear HW1
  go_quiet (fail)
  go_wp2_with fail
  go_ret
  exact⟨by rw[HV.out];rfl,HB0.out.trans ((below_drewN _ _).mono HB0.out.size)⟩
end Go.Proofs.YtmocelfkmdpogaaGreatDoor.Jo
