import Derived.Test.YtbkndnmglhghlaaGreatDoorKJc
import Derived.Lib.ConvBytes
import Derived.Laws.EntriesVeiled
set_option maxRecDepth 100000
set_option maxHeartbeats 4000000

namespace Go.Proofs.YtbkndnmglhghlaaGreatDoor.Jo
open Go.RowKit
open Ob (Bs)
variable {a:Act}{Q:Exit->Act->World->Prop}{A F H b fb id nc o sc t uc y:Nat}{O:Ob.O}{E G na sa ua z:Option Addr}{v:Value}{w:World}{S:World->Prop}
theorem inst_r {V:Option Addr}{X:Nat}(P:OV w b o O sa ua G E na V sc uc H F nc X)(Y:O.uses.length<=1000000)(x:Ob.In) :
  Calls Tryz.prog 69 #[.pointer (some ⟨b,o,none⟩),.agg #[.int .i64 x.op,.int .i64 x.a,.int .i64 x.b]] w fun e w'=>e=.returned (.bool (Ob.instB O x))/\Below w.heap.size w w':=by
 have U:=zg P.c0
 obtain⟨c,K⟩:∃c,c=w.alloc (.cells #[.int .i64 x.op,.int .i64 x.a,.int .i64 x.b] 138):=⟨_,rfl⟩
 have J:Below w.heap.size w c:=by rw[K];exact zb _ _
 have y:c.heap[w.heap.size]?=some (.cells #[.int .i64 x.op,.int .i64 x.a,.int .i64 x.b] 138 (0,0)):=by rw[K];exact zl _ _
 have N:w.heap.size<c.heap.size:=zc y
 have B:=P.below J
 have v:c.cell? ⟨w.heap.size,0,none⟩=some (.int .i64 x.op):=za y
 have Z:c.cell? ⟨w.heap.size,1,none⟩=some (.int .i64 x.a):=za y
 have k2:c.cell? ⟨w.heap.size,2,none⟩=some (.int .i64 x.b):=za y
 have g:Hid (∀W,Below c.heap.size c W->W.cell? ⟨w.heap.size,0,none⟩=some (.int .i64 x.op)/\W.cell? ⟨w.heap.size,1,none⟩=some (.int .i64 x.a)/\W.cell? ⟨w.heap.size,2,none⟩=some (.int .i64 x.b)/\W.cell? ⟨b,o+3,none⟩=some (.slice G O.vars.length H)/\W.cell? ⟨b,o+4,none⟩=some (.slice E O.procs.length F)) :=
  fun W h=>⟨(h.cell (p:=⟨w.heap.size,0,none⟩) N).trans v,(h.cell (p:=⟨w.heap.size,1,none⟩) N).trans Z,(h.cell (p:=⟨w.heap.size,2,none⟩) N).trans k2,(B.below h).c3,(B.below h).c4⟩
 have l:Hid (∀W own,Below c.heap.size c W->Calls Tryz.prog 125 #[.pointer (some ⟨b,o,none⟩),.agg #[.int .i64 x.op,.int .i64 x.a,.int .i64 x.b],.int .i64 ((own:Nat):Int)] W fun e w'=>e=.returned (.bool (Ob.reachB O x own))/\Below W.heap.size W w'):=fun W own h=>ug (B.below h) Y x own
 have t:=zh B
 have k:=zh J
 have f:=zh K
 have a0:b<c.heap.size:=Nat.lt_of_lt_of_le U J.size
 clear K J y P B
 by_cases C:x.op=5
 ·have i:Hid (Ob.instB O x=Ob.reachB O x O.vars.length):=by show _=_;unfold Ob.instB;simp[C]
  have s:=zh (fun W h=>l.out W O.vars.length h)
  rw[C]at g s f v ⊢
  generalize Ob.instB O x=r at *
  generalize Ob.reachB O x O.vars.length=d at *
  clear l t C
  generalize x.a=xa at *
  generalize x.b=xb at *
  have z:=zh (g.out _ (zt c))
  obtain⟨_,_,_,R,S⟩:=g.out c (Below.refl _ _)
  go_enter Tryz.func69,Tryz.ntmps69
  go_wp2_with fail
  rw[<-f.out]
  clear f
  go_region_held3 (fun w'=>w'.cell? ⟨w.heap.size,0,none⟩=some (.int .i64 5)/\w'.cell? ⟨w.heap.size,1,none⟩=some (.int .i64 xa)/\w'.cell? ⟨w.heap.size,2,none⟩=some (.int .i64 xb)/\w'.cell? ⟨b,o+3,none⟩=some (.slice G O.vars.length H)/\w'.cell? ⟨b,o+4,none⟩=some (.slice E O.procs.length F)) (with_reducible (first|exact A.out|exact z.out)) (first|(go_at_call 125;refine(s.out _ (zt c)).mono ?_;rintro e I ⟨rfl,q⟩;have n:Hid (Below c.heap.size c I):=(zt c).trans q;have A:=zh (g.out _ n.out);clear q))
  go_wp2_with fail
  go_ret
  exact⟨by rw[i.out];rfl,k.out.trans (n.out.mono k.out.size)⟩
 by_cases D:x.op=7
 ·have i:Hid (Ob.instB O x=Ob.reachB O x O.vars.length):=by show _=_;unfold Ob.instB;simp[D]
  have s:=zh (fun W h=>l.out W O.vars.length h)
  rw[D]at g s f v ⊢
  generalize Ob.instB O x=r at *
  generalize Ob.reachB O x O.vars.length=d at *
  clear l t D
  generalize x.a=xa at *
  generalize x.b=xb at *
  have z:=zh (g.out _ (zt c))
  obtain⟨_,_,_,R,S⟩:=g.out c (Below.refl _ _)
  go_enter Tryz.func69,Tryz.ntmps69
  go_wp2_with fail
  rw[<-f.out]
  clear f
  go_region_held3 (fun w'=>w'.cell? ⟨w.heap.size,0,none⟩=some (.int .i64 7)/\w'.cell? ⟨w.heap.size,1,none⟩=some (.int .i64 xa)/\w'.cell? ⟨w.heap.size,2,none⟩=some (.int .i64 xb)/\w'.cell? ⟨b,o+3,none⟩=some (.slice G O.vars.length H)/\w'.cell? ⟨b,o+4,none⟩=some (.slice E O.procs.length F)) (with_reducible (first|exact A.out|exact z.out)) (first|(go_at_call 125;refine(s.out _ (zt c)).mono ?_;rintro e I ⟨rfl,q⟩;have n:Hid (Below c.heap.size c I):=(zt c).trans q;have A:=zh (g.out _ n.out);clear q))
  go_wp2_with fail
  go_ret
  exact⟨by rw[i.out];rfl,k.out.trans (n.out.mono k.out.size)⟩
 by_cases u:x.op=14
 ·have i:Hid (Ob.instB O x=Ob.reachB O x O.procs.length):=by show _=_;unfold Ob.instB;simp[u]
  have s:=zh (fun W h=>l.out W O.procs.length h)
  rw[u]at g s f v ⊢
  generalize Ob.instB O x=r at *
  generalize Ob.reachB O x O.procs.length=d at *
  clear l t u
  generalize x.a=xa at *
  generalize x.b=xb at *
  have z:=zh (g.out _ (zt c))
  obtain⟨_,_,_,R,S⟩:=g.out c (Below.refl _ _)
  go_enter Tryz.func69,Tryz.ntmps69
  go_wp2_with fail
  rw[<-f.out]
  clear f
  go_region_held3 (fun w'=>w'.cell? ⟨w.heap.size,0,none⟩=some (.int .i64 14)/\w'.cell? ⟨w.heap.size,1,none⟩=some (.int .i64 xa)/\w'.cell? ⟨w.heap.size,2,none⟩=some (.int .i64 xb)/\w'.cell? ⟨b,o+3,none⟩=some (.slice G O.vars.length H)/\w'.cell? ⟨b,o+4,none⟩=some (.slice E O.procs.length F)) (with_reducible (first|exact A.out|exact z.out)) (first|(go_at_call 125;refine(s.out _ (zt c)).mono ?_;rintro e I ⟨rfl,q⟩;have n:Hid (Below c.heap.size c I):=(zt c).trans q;have A:=zh (g.out _ n.out);clear q))
  go_wp2_with fail
  go_ret
  exact⟨by rw[i.out];rfl,k.out.trans (n.out.mono k.out.size)⟩
 by_cases m:x.op=1
 ·have Q:=g.out c (Below.refl _ _)
  by_cases j:x.b=0
  ·have M:(x.b==0)=true:=by simp[j]
   have i:Hid (Ob.instB O x=true):=by show _=_;unfold Ob.instB;simp[m,j]
   rw[m]at f v ⊢
   generalize Ob.instB O x=r at *
   clear l t m j g Q
   generalize x.a=xa at *
   generalize x.b=xb at *
   go_enter Tryz.func69,Tryz.ntmps69
   go_wp2_with fail
   go_ret
   rw[<-f.out]
   exact⟨by rw[i.out];rfl,k.out⟩
  ·have M:(x.b==0)=false:=by simpa using j
   have i:Hid (Ob.instB O x=false):=by show _=_;unfold Ob.instB;simp[m,j]
   rw[m]at f v ⊢
   generalize Ob.instB O x=r at *
   clear l t m j g Q
   generalize x.a=xa at *
   generalize x.b=xb at *
   go_enter Tryz.func69,Tryz.ntmps69
   go_wp2_with fail
   go_ret
   rw[<-f.out]
   exact⟨by rw[i.out];rfl,k.out⟩
 have L:Hid (Ob.instB O x=(decide (x.b=0)&&Ob.countsB x.a (Ob.choices O x.op))):=by show _=_;unfold Ob.instB;rw[if_neg (by omega),if_neg u,if_neg m]
 have q5:=yp C
 have q7:=yp D
 have a1:=yp u
 have q1:=yp m
 have T:Hid (∀W,Below c.heap.size c W->Calls Tryz.prog 126 #[.pointer (some ⟨b,o,none⟩),.int .i64 x.op] W fun e w'=>e=.returned (.int .i64 (Ob.choices O x.op:Int))/\w'=W):=fun W h=>uI (t.out.below h) x.op
 generalize Ob.instB O x=r at *
 generalize Ob.choices O x.op=nch at *
 generalize x.a=xa at *
 generalize x.op=xo at *
 clear l t g C D u m
 by_cases j:x.b=0
 ·have M:(x.b==0)=true:=by simp[j]
  obtain⟨d,hd⟩:∃d,Ob.countsB xa nch=d:=⟨_,rfl⟩
  have i:Hid (r=d):=by show _=_;rw[L.out,hd,decide_eq_true j,Bool.true_and]
  clear L j
  generalize x.b=xb at *
  cases d
  all_goals
   go_enter Tryz.func69,Tryz.ntmps69
   go_wp2_with fail
   rw[<-f.out]
   clear f
   go_quiet ((first|(go_at_call 126;exact Calls.quiet_of_same (T.out _ (below_drewN _ _)))|(go_at_call 64;exact Calls.quiet_of_same (yS _ _ _))))
   go_wp2_with fail
   go_ret
   exact⟨by rw[i.out];rfl,k.out.trans ((below_drewN _ _).mono k.out.size)⟩
 ·have M:(x.b==0)=false:=by simpa using j
  have i:Hid (r=false):=by show _=_;rw[L.out,decide_eq_false j,Bool.false_and]
  clear L j
  generalize x.b=xb at *
  go_enter Tryz.func69,Tryz.ntmps69
  go_wp2_with fail
  rw[<-f.out]
  clear f
  go_quiet (fail)
  go_wp2_with fail
  go_ret
  exact⟨by rw[i.out];rfl,k.out.trans ((below_drewN _ _).mono k.out.size)⟩
theorem cfInst (args:Array Value)(w:World):(callFunc 68 args).run Tryz.prog w=.ok (.enter 68 args) w:=by kernel_rfl
theorem instOf_r {g:Nat}{u v s q m:Option Addr}{r n:Nat}(j:w.cell? ⟨g,0,none⟩=some (.pointer (some ⟨b,o,none⟩)))(i:OV w b o O u v z s q m sc y A t r n)(p:O.uses.length<=1000000)(x:Ob.In) :
  Calls Tryz.prog 68 #[.agg #[.int .i64 x.op,.int .i64 x.a,.int .i64 x.b],.pointer (some ⟨g,0,none⟩)] w fun e w'=>e=.returned (.bool (Ob.instB O x))/\Below w.heap.size w w':=by
 have B:=zg j
 have c:Below w.heap.size w (w.alloc (.cells #[.int .i64 x.op,.int .i64 x.a,.int .i64 x.b] 138)):=zb _ _
 have f:=zh c
 have l:=zh (inst_r (i.below c) p x)
 clear i c
 generalize Ob.instB O x=d at *
 go_enter Tryz.func68,Tryz.ntmps68
 go_wp2_with fail
 refine l.out.mono ?_
 rintro e C⟨rfl,h⟩
 have k:=zh (f.out.trans (h.mono f.out.size))
 clear h
 go_wp2_with fail
 go_ret
 exact⟨rfl,k.out⟩
theorem lastB_eq {k:Nat}{x:Ob.In}(h:O.code.length=k+1)(a:O.code[k]?=some x):Ob.lastB O=(decide (x.op=12) || (decide (x.op=15) || decide (x.op=17))):=by
 unfold Ob.lastB
 have e:O.code.getLast?=some x:=by
  rw[List.getLast?_eq_getElem?,h]
  exact a
 rw[e]
theorem code_r {va pa S:Option Addr}{vc pc T:Nat}(L:OV w b o O sa ua va pa na S sc uc vc pc nc T)(K:Bd O) :
  Calls Tryz.prog 30 #[.pointer (some ⟨b,o,none⟩)] w fun e w'=>e=.returned (.bool (Ob.codeB O))/\Below w.heap.size w w':=by
 have a4:=zm
 have a1:=zg L.c0
 obtain⟨i,I⟩:∃i,i=w.alloc (.cells #[.pointer (some ⟨b,o,none⟩)] 22):=⟨_,rfl⟩
 have H:Below w.heap.size w i:=by rw[I];exact zb _ _
 have M:i.heap[w.heap.size]?=some (.cells #[.pointer (some ⟨b,o,none⟩)] 22 (0,0)):=by rw[I];exact zl _ _
 have A:w.heap.size<i.heap.size:=zc M
 have z:i.cell? ⟨w.heap.size,0,none⟩=some (.pointer (some ⟨b,o,none⟩)):=za M
 have F:=L.below H
 have l:=zh H
 have j:=zh I
 clear I
 have c6:=L.c6
 have G:b<i.heap.size:=Nat.lt_of_lt_of_le a1 H.size
 have B:Hid (∀W,Below i.heap.size i W->W.cell? ⟨w.heap.size,0,none⟩=some (.pointer (some ⟨b,o,none⟩))/\W.cell? ⟨b,o+6,none⟩=some (.slice S O.code.length T)) :=
  fun W x=>⟨(x.cell (p:=⟨w.heap.size,0,none⟩) A).trans z,(F.below x).c6⟩
 have t:Hid (∀W,Below i.heap.size i W->Calls Tryz.prog 67 #[.slice S O.code.length T,.int .i64 4000,.func (.func 68) #[] #[.pointer (some ⟨w.heap.size,0,none⟩)]] W fun e w'=>e=.returned (.bool (Ob.allB (Ob.instB O) 4000 O.code))/\Below W.heap.size W w') :=
  fun W x=>allIn (F.below x).c (by have:=K.cl;omega) 4000 (by omega) cfInst (fun W' y hy a0=>instOf_r ((a0.cell (p:=⟨w.heap.size,0,none⟩) (show w.heap.size<W.heap.size by have:=x.size;omega)).trans ((x.cell (p:=⟨w.heap.size,0,none⟩) A).trans z)) ((F.below x).below a0) K.ul y)
 have N:=zh F.c
 have u:Hid (Ob.codeB O=(Ob.allB (Ob.instB O) 4000 O.code&&Ob.lastB O)):=rfl
 have a2:=K.cl
 generalize Ob.codeB O=r at *
 generalize Ob.allB (Ob.instB O) 4000 O.code=b1 at *
 clear K F M H L
 by_cases J:O.code.length=0
 ·have Z:((O.code.length:Int)==0)=true:=by simp[J]
  have h:Hid (r=false):=by
   show _=_
   rw[u.out]
   have e:Ob.lastB O=false:=by unfold Ob.lastB;rw[List.eq_nil_of_length_eq_zero J];rfl
   rw[e,Bool.and_false]
  clear u t N B J j z
  go_enter Tryz.func30,Tryz.ntmps30
  go_wp2_with fail
  go_ret
  exact⟨by rw[h.out];rfl,zb _ _⟩
 ·have Z:((O.code.length:Int)==0)=false:=yp (by omega)
  obtain⟨k,X⟩:∃k,O.code.length=k+1:=⟨O.code.length-1,by omega⟩
  have HL:=zh (lastB_eq X (List.getElem?_eq_getElem (show k<O.code.length by omega)))
  obtain⟨g,m,rfl,n,Y⟩:=N.out.at' xH (by omega) k (by omega)
  have s:i.cell? ⟨g,m+k*3,none⟩=some (.int .i64 (O.code[k]'(show k<O.code.length by omega)).op):=Y 0 _ rfl
  clear Y N
  rw[HL.out]at u
  clear HL
  generalize (O.code[k]'(show k<O.code.length by omega)).op=xo at *
  rw[X]at Z B t c6 a2
  clear X J
  have a3:(k:Int)<=1000000:=by omega
  cases b1 with
  |false =>
   have h:Hid (r=false):=u
   clear u
   go_enter Tryz.func30,Tryz.ntmps30
   go_wp2_with fail
   rw[<-j.out]
   clear j
   refine(t.out _ (Below.refl _ _)).mono ?_
   rintro e d⟨rfl,a⟩
   have f:=zh a
   clear a
   go_wp2_with fail
   go_ret
   exact⟨by rw[h.out];rfl,l.out.trans (f.out.mono l.out.size)⟩
  |true =>
   have h:Hid (r=(decide (xo=12) || (decide (xo=15) || decide (xo=17)))):=u
   clear u
   by_cases C:xo=12
   ·have q:(xo==12)=true:=by simp[C]
    have v:Hid (r=true):=by show _=_;rw[h.out];simp[C]
    clear h C
    go_enter Tryz.func30,Tryz.ntmps30
    go_wp2_with fail
    rw[<-j.out]
    clear j
    refine(t.out _ (Below.refl _ _)).mono ?_
    rintro e d⟨rfl,a⟩
    have f:=zh a
    obtain⟨f0,U⟩:=B.out d a
    have P:w.heap.size<d.heap.size:=Nat.lt_of_lt_of_le A a.size
    have Q:b<d.heap.size:=Nat.lt_of_lt_of_le G a.size
    have R:g<d.heap.size:=Nat.lt_of_lt_of_le n a.size
    have V:d.cell? ⟨g,m+k*3,none⟩=some (.int .i64 xo):=(a.cell (p:=⟨g,m+k*3,none⟩) n).trans s
    clear a s z
    go_wp2_with fail
    go_quiet (fail)
    go_wp2_with fail
    go_ret
    exact⟨by rw[v.out];rfl,l.out.trans ((f.out.trans ((below_drewN _ _).mono f.out.size)).mono l.out.size)⟩
   ·have a5:=yp C
    by_cases D:xo=15
    ·have q:(xo==15)=true:=by simp[D]
     have v:Hid (r=true):=by show _=_;rw[h.out];simp[D]
     clear h D
     go_enter Tryz.func30,Tryz.ntmps30
     go_wp2_with fail
     rw[<-j.out]
     clear j
     refine(t.out _ (Below.refl _ _)).mono ?_
     rintro e d⟨rfl,a⟩
     have f:=zh a
     obtain⟨f0,U⟩:=B.out d a
     have P:w.heap.size<d.heap.size:=Nat.lt_of_lt_of_le A a.size
     have Q:b<d.heap.size:=Nat.lt_of_lt_of_le G a.size
     have R:g<d.heap.size:=Nat.lt_of_lt_of_le n a.size
     have V:d.cell? ⟨g,m+k*3,none⟩=some (.int .i64 xo):=(a.cell (p:=⟨g,m+k*3,none⟩) n).trans s
     clear a s z
     go_wp2_with fail
     go_quiet (fail)
     go_wp2_with fail
     go_ret
     exact⟨by rw[v.out];rfl,l.out.trans ((f.out.trans ((below_drewN _ _).mono f.out.size)).mono l.out.size)⟩
    ·have a6:=yp D
     by_cases E:xo=17
     ·have q:(xo==17)=true:=by simp[E]
      have v:Hid (r=true):=by show _=_;rw[h.out];simp[E]
      clear h E
      go_enter Tryz.func30,Tryz.ntmps30
      go_wp2_with fail
      rw[<-j.out]
      clear j
      refine(t.out _ (Below.refl _ _)).mono ?_
      rintro e d⟨rfl,a⟩
      have f:=zh a
      obtain⟨f0,U⟩:=B.out d a
      have P:w.heap.size<d.heap.size:=Nat.lt_of_lt_of_le A a.size
      have Q:b<d.heap.size:=Nat.lt_of_lt_of_le G a.size
      have R:g<d.heap.size:=Nat.lt_of_lt_of_le n a.size
      have V:d.cell? ⟨g,m+k*3,none⟩=some (.int .i64 xo):=(a.cell (p:=⟨g,m+k*3,none⟩) n).trans s
      clear a s z
      go_wp2_with fail
      go_quiet (fail)
      go_wp2_with fail
      go_ret
      exact⟨by rw[v.out];rfl,l.out.trans ((f.out.trans ((below_drewN _ _).mono f.out.size)).mono l.out.size)⟩
     ·have a7:=yp E
      have v:Hid (r=false):=by show _=_;rw[h.out];simp[C,D,E]
      clear h
      go_enter Tryz.func30,Tryz.ntmps30
      go_wp2_with fail
      rw[<-j.out]
      clear j
      refine(t.out _ (Below.refl _ _)).mono ?_
      rintro e d⟨rfl,a⟩
      have f:=zh a
      obtain⟨f0,U⟩:=B.out d a
      have P:w.heap.size<d.heap.size:=Nat.lt_of_lt_of_le A a.size
      have Q:b<d.heap.size:=Nat.lt_of_lt_of_le G a.size
      have R:g<d.heap.size:=Nat.lt_of_lt_of_le n a.size
      have V:d.cell? ⟨g,m+k*3,none⟩=some (.int .i64 xo):=(a.cell (p:=⟨g,m+k*3,none⟩) n).trans s
      clear a s z
      go_wp2_with fail
      go_quiet (fail)
      go_wp2_with fail
      go_ret
      exact⟨by rw[v.out];rfl,l.out.trans ((f.out.trans ((below_drewN _ _).mono f.out.size)).mono l.out.size)⟩
theorem right_r {D B x:Option Addr}{C:Nat}(n:OV w b o O D E G B z x sc F H C A y)(m:Bd O) :
  Calls Tryz.prog 9 #[.pointer (some ⟨b,o,none⟩)] w fun e w'=>e=.returned (.bool (Ob.rightB O))/\Below w.heap.size w w':=by
 have l:Hid (∀W,Below w.heap.size w W->Calls Tryz.prog 28 #[.pointer (some ⟨b,o,none⟩)] W fun e w'=>e=.returned (.bool (Ob.headB O))/\Below W.heap.size W w'):=fun W k=>head_r (n.below k) m
 have q:Hid (∀W,Below w.heap.size w W->Calls Tryz.prog 29 #[.pointer (some ⟨b,o,none⟩)] W fun e w'=>e=.returned (.bool (Ob.procsB O))/\Below W.heap.size W w'):=fun W k=>procs_r (n.below k) m
 have t:Hid (∀W,Below w.heap.size w W->Calls Tryz.prog 30 #[.pointer (some ⟨b,o,none⟩)] W fun e w'=>e=.returned (.bool (Ob.codeB O))/\Below W.heap.size W w'):=fun W k=>code_r (n.below k) m
 have h:Hid (Ob.rightB O=(Ob.headB O&&(Ob.procsB O&&Ob.codeB O))):=rfl
 generalize Ob.rightB O=r at *
 generalize Ob.headB O=b1 at *
 generalize Ob.procsB O=b2 at *
 generalize Ob.codeB O=b3 at *
 clear n m
 have c:Hid (Below w.heap.size w w):=Below.refl _ _
 cases b1 with
 |false =>
  have i:Hid (r=false):=by
   show _=_
   rw[h.out]
   simp[*]
  clear h
  go_enter Tryz.func9,Tryz.ntmps9
  go_wp2_with fail
  refine(l.out _ c.out).mono ?_
  rintro e s⟨rfl,d⟩
  have a:=zh (c.out.trans (d.mono c.out.size))
  clear d
  go_wp2_with fail
  go_ret
  exact⟨by rw[i.out];rfl,a.out⟩
 |true =>
  cases b2 with
  |false =>
   have i:Hid (r=false):=by
    show _=_
    rw[h.out]
    simp[*]
   clear h
   go_enter Tryz.func9,Tryz.ntmps9
   go_wp2_with fail
   refine(l.out _ c.out).mono ?_
   rintro e s⟨rfl,d⟩
   have a:=zh (c.out.trans (d.mono c.out.size))
   clear d
   go_wp2_with fail
   refine(q.out _ a.out).mono ?_
   rintro e u⟨rfl,g⟩
   have f:=zh (a.out.trans (g.mono a.out.size))
   clear g
   go_wp2_with fail
   go_ret
   exact⟨by rw[i.out];rfl,f.out⟩
  |true =>
   cases b3 with
   |false =>
    have i:Hid (r=false):=by
     show _=_
     rw[h.out]
     simp[*]
    clear h
    go_enter Tryz.func9,Tryz.ntmps9
    go_wp2_with fail
    refine(l.out _ c.out).mono ?_
    rintro e s⟨rfl,d⟩
    have a:=zh (c.out.trans (d.mono c.out.size))
    clear d
    go_wp2_with fail
    refine(q.out _ a.out).mono ?_
    rintro e u⟨rfl,g⟩
    have f:=zh (a.out.trans (g.mono a.out.size))
    clear g
    go_wp2_with fail
    refine(t.out _ f.out).mono ?_
    rintro e v⟨rfl,j⟩
    have p:=zh (f.out.trans (j.mono f.out.size))
    clear j
    go_wp2_with fail
    go_ret
    exact⟨by rw[i.out];rfl,p.out⟩
   |true =>
    have i:Hid (r=true):=by
     show _=_
     rw[h.out]
     simp[*]
    clear h
    go_enter Tryz.func9,Tryz.ntmps9
    go_wp2_with fail
    refine(l.out _ c.out).mono ?_
    rintro e s⟨rfl,d⟩
    have a:=zh (c.out.trans (d.mono c.out.size))
    clear d
    go_wp2_with fail
    refine(q.out _ a.out).mono ?_
    rintro e u⟨rfl,g⟩
    have f:=zh (a.out.trans (g.mono a.out.size))
    clear g
    go_wp2_with fail
    refine(t.out _ f.out).mono ?_
    rintro e v⟨rfl,j⟩
    have p:=zh (f.out.trans (j.mono f.out.size))
    clear j
    go_wp2_with fail
    go_ret
    exact⟨by rw[i.out];rfl,p.out⟩
theorem right_oa (h:OA w b o O)(a:Bd O):Calls Tryz.prog 9 #[.pointer (some ⟨b,o,none⟩)] w fun e w'=>e=.returned (.bool (Ob.rightB O))/\Below w.heap.size w w':=by
 obtain⟨k,l,n,i,f,c,sc,m,p,j,g,d,h⟩:=h
 exact right_r h a
theorem right_nil (w:World):Calls Tryz.prog 9 #[.pointer none] w fun e w'=>e=.returned (.bool false)/\Below w.heap.size w w':=by
 go_enter Tryz.func9,Tryz.ntmps9
 go_wp2_with fail
 go_ret
 exact⟨rfl,Below.refl _ _⟩
def longB (s:Bs):Bool:=decide (40<s.length)
def useL (u:Ob.Us):Bool:=longB u.name || (decide (110<u.names.length) || (decide (4100<u.need.length) || u.names.any longB))
def smallB (O:Ob.O):Bool:=!longB O.name&&(decide (O.syms.length<=30)&&(decide (O.uses.length<=10)&&(decide (O.vars.length<=15)&&(decide (O.procs.length<=15)&&(decide (O.names.length<=15)&&(decide (O.code.length<=80)&&(!O.names.any longB&&(!(O.syms.any fun x=>longB x.name)&&(!(O.vars.any fun x=>longB x.name)&&!O.uses.any useL)))))))))
theorem cf14 (args:Array Value)(w:World):(callFunc 12 args).run Tryz.prog w=.ok (.enter 12 args) w:=by kernel_rfl
theorem cf17 (args:Array Value)(w:World):(callFunc 15 args).run Tryz.prog w=.ok (.enter 15 args) w:=by kernel_rfl
theorem cf19 (args:Array Value)(w:World):(callFunc 17 args).run Tryz.prog w=.ok (.enter 17 args) w:=by kernel_rfl
theorem cf21 (args:Array Value)(w:World):(callFunc 19 args).run Tryz.prog w=.ok (.enter 19 args) w:=by kernel_rfl
theorem kx (w:World)(s:Bs):Calls Tryz.prog 12 #[.string (bs s)] w fun e w'=>e=.returned (.bool (longB s))/\w'=w:=by
 have d:=xR s
 by_cases h:40<s.length
 ·have b:(40:Int)<(s.length:Int):=by omega
  have a:Hid (longB s=true):=decide_eq_true h
  go_enter Tryz.func12,Tryz.ntmps12
  go_wp2_with fail
  go_ret
  exact⟨by rw[a.out];rfl,rfl⟩
 ·have b:¬(40:Int)<(s.length:Int):=by omega
  have c:decide ((40:Int)<(s.length:Int))=false:=decide_eq_false b
  have a:Hid (longB s=false):=decide_eq_false h
  go_enter Tryz.func12,Tryz.ntmps12
  go_wp2_with fail
  go_ret
  exact⟨by rw[a.out];rfl,rfl⟩
theorem longSym (f:w.cell? ⟨fb,0,none⟩=some (.func (.func 12) #[] #[]))(x:Ob.Sm):Calls Tryz.prog 15 #[.agg #[.string (bs x.name),.int .i64 x.len,.int .i64 x.args],.pointer (some ⟨fb,0,none⟩)] w fun e w'=>e=.returned (.bool (longB x.name))/\Below w.heap.size w w':=by
 have g:=zg f
 have b:Hid (Below w.heap.size w (w.alloc (.cells #[.string (bs x.name),.int .i64 x.len,.int .i64 x.args] 53))):=zb _ _
 have c:=zh (fun W=>kx W x.name)
 generalize longB x.name=d at *
 go_enter Tryz.func15,Tryz.ntmps15
 go_wp2_with fail
 refine(c.out _).mono ?_
 rintro e h⟨rfl,a⟩
 rw[a]
 clear a
 go_wp2_with fail
 go_ret
 exact⟨rfl,b.out⟩
theorem longGl (f:w.cell? ⟨fb,0,none⟩=some (.func (.func 12) #[] #[]))(x:Ob.Gl):Calls Tryz.prog 17 #[.agg #[.string (bs x.name),.int .i64 x.at',.int .i64 x.len,.bool x.seen],.pointer (some ⟨fb,0,none⟩)] w fun e w'=>e=.returned (.bool (longB x.name))/\Below w.heap.size w w':=by
 have g:=zg f
 have b:Hid (Below w.heap.size w (w.alloc (.cells #[.string (bs x.name),.int .i64 x.at',.int .i64 x.len,.bool x.seen] 57))):=zb _ _
 have c:=zh (fun W=>kx W x.name)
 generalize longB x.name=d at *
 go_enter Tryz.func17,Tryz.ntmps17
 go_wp2_with fail
 refine(c.out _).mono ?_
 rintro e h⟨rfl,a⟩
 rw[a]
 clear a
 go_wp2_with fail
 go_ret
 exact⟨rfl,b.out⟩
theorem longUs (z:w.cell? ⟨fb,0,none⟩=some (.func (.func 12) #[] #[]))(x:Ob.Us){i:Option Addr}{j:Nat}(q:Sl w (.slice i x.names.length j) 1 x.names.length (cellsOf stC x.names)):Calls Tryz.prog 19 #[.agg #[.string (bs x.name),.string (bs x.need),.slice i x.names.length j],.pointer (some ⟨fb,0,none⟩)] w fun e w'=>e=.returned (.bool (useL x))/\Below w.heap.size w w':=by
 have C:=zg z
 have F:=xR x.need
 have p:Below w.heap.size w (w.alloc (.cells #[.string (bs x.name),.string (bs x.need),.slice i x.names.length j] 61)):=zb _ _
 have c:=zh p
 have g:=zh (fun W=>kx W x.name)
 have m:Hid (x.names.length<=1000000->∀W,Below w.heap.size w W->Calls Tryz.prog 13 #[.slice i x.names.length j,.func (.func 12) #[] #[]] W fun e w'=>e=.returned (.bool (x.names.any longB))/\Below W.heap.size W w'):=fun A W v=>containsStr0 (q.below v) A cf14 (fun u y _ _=>(kx u y).mono (fun e w' h=>⟨h.1,by rw[h.2];exact Below.refl _ _⟩))
 have b:Hid (useL x=(longB x.name || (decide (110<x.names.length) || (decide (4100<x.need.length) || x.names.any longB)))):=rfl
 generalize useL x=r at *
 generalize longB x.name=b1 at *
 generalize x.names.any longB=b2 at *
 clear q p
 cases b1 with
 |true =>
  have d:Hid (r=true):=by
   show _=_
   rw[b.out]
   simp[*]
  clear b
  go_enter Tryz.func19,Tryz.ntmps19
  go_wp2_with fail
  refine(g.out _).mono ?_
  rintro e k⟨rfl,a⟩
  rw[a]
  clear a
  go_wp2_with fail
  go_ret
  exact⟨by rw[d.out];rfl,c.out⟩
 |false =>
  by_cases D:110<x.names.length
  ·have n:(110:Int)<(x.names.length:Int):=by omega
   have s:decide ((110:Int)<(x.names.length:Int))=true:=decide_eq_true n
   have d:Hid (r=true):=by
    show _=_
    rw[b.out]
    simp[*]
   clear b
   go_enter Tryz.func19,Tryz.ntmps19
   go_wp2_with fail
   refine(g.out _).mono ?_
   rintro e k⟨rfl,a⟩
   rw[a]
   clear a
   go_wp2_with fail
   go_ret
   exact⟨by rw[d.out];rfl,c.out⟩
  ·have n:(x.names.length:Int)<=110:=by omega
   have s:decide ((110:Int)<(x.names.length:Int))=false:=decide_eq_false (by omega)
   by_cases E:4100<x.need.length
   ·have o:(4100:Int)<(x.need.length:Int):=by omega
    have t:decide ((4100:Int)<(x.need.length:Int))=true:=decide_eq_true o
    have d:Hid (r=true):=by
     show _=_
     rw[b.out]
     simp[*]
    clear b
    go_enter Tryz.func19,Tryz.ntmps19
    go_wp2_with fail
    refine(g.out _).mono ?_
    rintro e k⟨rfl,a⟩
    rw[a]
    clear a
    go_wp2_with fail
    go_ret
    exact⟨by rw[d.out];rfl,c.out⟩
   ·have o:(x.need.length:Int)<=4100:=by omega
    have t:decide ((4100:Int)<(x.need.length:Int))=false:=decide_eq_false (by omega)
    cases b2 with
    |true =>
     have d:Hid (r=true):=by
      show _=_
      rw[b.out]
      simp[*]
     clear b
     go_enter Tryz.func19,Tryz.ntmps19
     go_wp2_with fail
     refine(g.out _).mono ?_
     rintro e k⟨rfl,a⟩
     rw[a]
     clear a
     go_wp2_with fail
     refine(m.out (by omega) _ c.out).mono ?_
     rintro e B⟨rfl,f⟩
     have l:=zh (c.out.trans (f.mono c.out.size))
     clear f
     go_wp2_with fail
     go_ret
     exact⟨by rw[d.out];rfl,l.out⟩
    |false =>
     have d:Hid (r=false):=by
      show _=_
      rw[b.out]
      simp[*]
     clear b
     go_enter Tryz.func19,Tryz.ntmps19
     go_wp2_with fail
     refine(g.out _).mono ?_
     rintro e k⟨rfl,a⟩
     rw[a]
     clear a
     go_wp2_with fail
     refine(m.out (by omega) _ c.out).mono ?_
     rintro e B⟨rfl,f⟩
     have l:=zh (c.out.trans (f.mono c.out.size))
     clear f
     go_wp2_with fail
     go_ret
     exact⟨by rw[d.out];rfl,l.out⟩
def yieldV (ops:Array Oper) (a:Act) (o:Oper):Option Value :=
 if Region.wanted o (yielded ops a.tmps)=false then some undef else
 match o.op with
 | .move x=>some (a.eval x)
 | .assign x=>some (a.eval x)
 | .pick c x y=>match a.eval c with
  | .bool true=>some (a.eval x)
  | .bool false=>some (a.eval y)
  | _=>none
 | _=>none
theorem yieldV_ok {P:Program}{d:Array Oper}{o:Oper}(h:yieldV d a o=some v):YieldsIf P d S o v a:=by
 unfold yieldV at h
 split at h
 ·rename_i f
  cases h
  exact Or.inr ⟨f,rfl⟩
 ·rename_i f
  have g:Region.wanted o (yielded d a.tmps)=true:=by simpa using f
  refine Or.inl ⟨g,fun w _=>?_⟩
  split at h
  ·rename_i x b;cases h;simp[execOp,b]
  ·rename_i x b;cases h;simp[execOp,b]
  ·rename_i c x y b
   split at h
   ·rename_i e;cases h;simp[execOp,b,e,asBool]
   ·rename_i e;cases h;simp[execOp,b,e,asBool]
   ·cases h
  ·cases h
def lst (m:Nat):Nat->Array Bool
 | 0=>Array.replicate m false
 |n+1=>(lst m n).setIfInBounds n true
def inOrder (ops:Array Oper):Bool:=Region.noSelect ops&&((List.range ops.size).all fun i=>Region.free .any ops (lst ops.size i) i&&(Region.ready .any ops (lst ops.size i)).contains i)&&(Region.ready .any ops (lst ops.size ops.size)).isEmpty
theorem xg {a:Array Oper}(h:inOrder a=true){i:Nat}(b:i<a.size):Region.noSelect a=true/\Region.free .any a (lst a.size i) i=true/\(Region.ready .any a (lst a.size i)).contains i=true:=by
 unfold inOrder at h
 rw[Bool.and_eq_true,Bool.and_eq_true,List.all_eq_true]at h
 have:=h.1.2 i (List.mem_range.2 b)
 rw[Bool.and_eq_true]at this
 exact⟨h.1.1,this.1,this.2⟩
theorem takeI {P:Program}{b:Array Oper}{d:Option Tmp}{e:Nat}(n:Nat)(f:inOrder b=true)(m:n<b.size)(hd:(b[n]?).map (fun o=>o.dst)=some d)
  (k:∀c a w,Q (.panic c) (a.put d v) w->Q (.panic c) a w)(p:∀oi,b[n]?=some oi->YieldsIf P b S oi v a)(l:S w)
  (h:wpAnyH P .any b Q S e (lst b.size (n+1)) (a.put d v) w):wpAnyH P .any b Q S (e+1) (lst b.size n) a w:=by
 obtain⟨g,i,j⟩:=xg f m
 rcases ho:b[n]? with _|oi
 ·rw[ho]at hd;cases hd
 ·rw[ho]at hd
  cases hd
  exact wpAnyH_take ho g i j k (p oi ho) l h
def restB (ops:Array Oper):Nat->Nat->Act->Option Act
 | 0,_,a=>some a
 |n+1,i,a=>match ops[i]? with
  |none=>none
  |some o=>match yieldV ops a o with
   |some v=>restB ops n (i+1) (a.put o.dst v)
   |none=>none
theorem rest_go {P:Program}{e:Array Oper}(m:inOrder e=true)(s:∀c a d v w,Q (.panic c) (a.put d v) w->Q (.panic c) a w){w:World}(t:S w) :
  ∀(n i:Nat) (a j:Act) (b:Nat),restB e n i a=some j->n+i=e.size->n<=b->Q .normal j w->wpAnyH P .any e Q S b (lst e.size i) a w:=by
 intro n
 induction n with
 |zero =>
  intro i a j b h k _ l
  cases h
  rw[Nat.zero_add]at k
  subst k
  refine wpAnyH_done ?_ l b
  have g:=m
  unfold inOrder at g
  rw[Bool.and_eq_true]at g
  simpa using g.2
 |succ n ih =>
  intro i a j b h k y l
  obtain⟨f,rfl⟩:∃f,b=f+1:=⟨b-1,by omega⟩
  have p:i<e.size:=by omega
  obtain⟨q,g,r⟩:=xg m p
  unfold restB at h
  split at h
  ·cases h
  ·rename_i o u
   split at h
   ·rename_i v x
    exact wpAnyH_take u q g r (fun c a w h=>s c a _ _ w h) (yieldV_ok x) t (ih (i+1) _ _ f h (by omega) (by omega) l)
   ·cases h
theorem yr {P:Program}{b:Array Oper}{f:Nat}(n i:Nat)(g:inOrder b=true)(j:∀c a d v w,Q (.panic c) (a.put d v) w->Q (.panic c) a w)(k:S w)
  (e:(restB b n i a).map (fun a=>(a.tmps.getD t undef,a.defers.length))=some (v,0))(m:n+i=b.size)(l:n<=f)(h:∀a',a'.tmps.getD t undef=v->a'.defers=[]->Q .normal a' w):wpAnyH P .any b Q S f (lst b.size i) a w:=by
 rcases hx:restB b n i a with _|a'
 ·rw[hx]at e;cases e
 ·rw[hx]at e
  simp at e
  exact rest_go g j k n i a a' f hx m l (h a' (by simpa using e.1) e.2)
theorem region_abs {P:Program}{c:Array Oper}{b:Bool}(h:∀ops',Hid (ops'=c)->(Code.region id ops' b).wp P Q a w):(Code.region id c b).wp P Q a w:=h c rfl
theorem uN {P:Program}{b:Array Oper}{m:Nat}(d:P.follows .mixedOrders=true)(e:b.size=m)(c:S w.drew)
  (h:S w.drew->wpAnyH P .any b Q S m (lst b.size 0) a w.drew):(Code.region id b true).wp P Q a w:=by
 refine wp_region_held_drew d c (fun c=>?_)
 have:=h c
 rw[<-e]at this
 exact this
theorem yU {P:Program}{b:Array Oper}{c:Nat}(n:Nat)(e:Region.ready .any b (lst b.size n)=[n])(o:Oper)(d:b[n]?=some o)
  (h:∀K':Act->World->Prop,Shut (∀a w,S w->(S w->wpAnyH P .any b Q S c (lst b.size (n+1)) a w)->K' a w)->if Region.wanted o (yielded b a.tmps)=true then Oper.wp P o a w K' Q else K' (a.put o.dst undef) w):wpAnyH P .any b Q S (c+1) (lst b.size n) a w :=
 wpAnyH_ready (rs:=[n]) e (by simp) (AllReadyH.cons d h AllReadyH.nil)
end Go.Proofs.YtbkndnmglhghlaaGreatDoor.Jo
