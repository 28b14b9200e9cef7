import Derived.Test.YtmnedfdffbbchaaGreatDoorKIg
import Derived.Test.YtmnedfdffbbchaaGreatDoorKVa
set_option maxRecDepth 100000
set_option maxHeartbeats 4000000

namespace Go.Proofs.YtmnedfdffbbchaaGreatDoor.Jo
open Go.RowKit Go.Maps
open Ob (O In I64)
structure IntsAt (w:World) (vs:List Int) (a:Option Addr):Prop where
 c:∀ i (h:i<vs.length),∃ b o,a=some ⟨b,o,none⟩/\b<w.heap.size/\w.cell? ⟨b,o+i,none⟩=some (.int .i64 vs[i])
theorem IntsAt.on {w w':World}{vs:List Int}{a:Option Addr}(h:IntsAt w vs a) (k:Below w.heap.size w w'):IntsAt w' vs a :=
 ⟨fun i hi=>by obtain⟨b,o,h1,h2,h3⟩:=h.c i hi;exact⟨b,o,h1,Nat.lt_of_lt_of_le h2 k.size,(k.cell (p:=⟨b,o+i,none⟩) h2).trans h3⟩⟩
theorem own_ints {w:World}{base c:Nat}{a:Option Addr}{l:List Int}(h:w.ownsRow base 2 1 (.slice a l.length c) l.length (ints l)):IntsAt w l a/\l.length<=c:=by
 by_cases h0:l.length=0
 ·exact⟨⟨fun i hi=>by omega⟩,by omega⟩
 ·obtain⟨sb,sc,hs,_,hsb,hle,hcell⟩:=jz h (by omega)
  cases hs
  exact⟨⟨fun i hi=>⟨sb,0,rfl,hsb,by rw[Nat.zero_add,hcell i (by omega),ints_get l i hi]⟩⟩,hle⟩
theorem ieq_post {w:World}{xs ys:List Int}{a1 a2:Option Addr}{c1 c2:Nat}(h1:IntsAt w xs a1) (h2:IntsAt w ys a2) (hn:xs.length<=1000) :
  Calls Tryz.prog 22 #[.slice a1 xs.length c1,.slice a2 ys.length c2] w fun e w'=>e=.returned (.bool (decide (xs=ys)))/\Below w.heap.size w w':=by
 by_cases hl:xs.length=ys.length
 ·rw[<-hl]
  have H1:=zh h1
  have H2:=zh h2
  obtain⟨ln,hln⟩:∃ ln,ln=xs.length:=⟨_,rfl⟩
  have hn':(ln:Int)<=1000:=by omega
  have HL:=zh (And.intro hln hl)
  obtain⟨bb,hbb⟩:∃ bb,bb=decide (xs=ys):=⟨_,rfl⟩
  have HBB:=zh hbb
  rw[<-hbb,<-hln]
  clear h1 h2 hl hln hbb hn
  go_enter Tryz.func22,Tryz.ntmps22
  go_wp2_with fail
  go_loopg [13] ln (fun k vi wr=>∃ i:Nat,i<=ln/\k=ln - i/\vi=.int .i64 (i:Int)/\Hid (∀ k,k<i->xs[k]?=ys[k]?)/\Hid (Below w.heap.size w wr))
  case atStart=>exact⟨0,by omega,by omega,rfl,fun k hk=>by omega,Below.refl _ _⟩
  case round =>
   obtain⟨i,hid,hk,rfl,HI,HB⟩:=hrel
   have hszr:=HB.out.size
   by_cases hlt:i<ln
   ·have hlt':(i:Int)<(ln:Int):=by omega
    have hi0:¬(i:Int)<0:=by omega
    have hx:i<xs.length:=by have:=HL.out.1;omega
    have hy:i<ys.length:=by have:=HL.out.1;have:=HL.out.2;omega
    obtain⟨b1,o1,rfl,q1,d1⟩:=(H1.out.on HB.out).c i hx
    obtain⟨b2,o2,rfl,q2,d2⟩:=(H2.out.on HB.out).c i hy
    have HNX:Hid (xs[i]=ys[i]->∀ k,k<i+1->xs[k]?=ys[k]?):=by
     intro e k hk
     by_cases e2:k=i
     ·subst e2;rw[List.getElem?_eq_getElem hx,List.getElem?_eq_getElem hy,e]
     ·exact HI.out k (by omega)
    have HNO:Hid (xs[i]≠ys[i]->bb=false):=by
     intro e
     rw[HBB.out]
     refine decide_eq_false fun q=>e ?_
     subst q
     rfl
    generalize xs[i]=x at *
    generalize ys[i]=y at *
    go_upto_region 6 with fail
    go_quiet (fail)
    obtain⟨w1,hw1⟩:∃ w1,w1=wr.drewN nq:=⟨_,rfl⟩
    have HB1:Hid (Below w.heap.size w w1):=by rw[hw1];exact HB.out.trans ((below_drewN wr nq).mono HB.out.size)
    rw[<-hw1]
    clear hw1 d1 d2
    by_cases hxy:x=y
    ·subst hxy
     have HI3:=zh (HNX.out rfl)
     go_wp2_with fail
     go_roundg (ln - (i+1))
     case measure=>omega
     case rel=>exact⟨i+1,by omega,rfl,by go_num,HI3,HB1⟩
    ·have HR:=zh (HNO.out hxy)
     go_wp2_with fail
     go_ret
     exact⟨by rw[HR.out];rfl,HB1.out⟩
   ·have hlt':¬(i:Int)<(ln:Int):=by omega
    have HR:Hid (bb=true):=by
     show bb=true
     rw[HBB.out]
     refine decide_eq_true (List.ext_getElem? fun k=>?_)
     by_cases hk2:k<i
     ·exact HI.out k hk2
     ·have e1:=HL.out.1
      have e2:=HL.out.2
      rw[List.getElem?_eq_none (by omega),List.getElem?_eq_none (by omega)]
    go_wp2_with fail
    go_ret
    exact⟨by rw[HR.out];rfl,HB.out⟩
 ·have hne:¬(xs.length:Int)=(ys.length:Int):=by omega
  have hd:decide (xs=ys)=false:=decide_eq_false fun q=>hl (by rw[q])
  rw[hd]
  clear hd hl h1 h2 hn
  generalize xs.length=m at *
  generalize ys.length=n at *
  go_enter Tryz.func22,Tryz.ntmps22
  go_wp2_with fail
  go_ret
  exact⟨rfl,Below.refl _ _⟩
theorem vC {w:World}{x y:Nat}{xs ys:List Int}{a1 a2:Option Addr}{c1 c2:Nat}(h1:IntsAt w xs a1) (h2:IntsAt w ys a2) (hn:xs.length<=1000) :
  Calls Tryz.prog 12 #[.agg #[.int .i64 (x:Int),.slice a1 xs.length c1],.agg #[.int .i64 (y:Int),.slice a2 ys.length c2]] w fun e w'=>e=.returned (.bool (decide (x=y) && decide (xs=ys)))/\Below w.heap.size w w':=by
 obtain⟨w2,hw2⟩:∃ w2,w2=(w.alloc (.cells #[.int .i64 (x:Int),.slice a1 xs.length c1] 46)).alloc (.cells #[.int .i64 (y:Int),.slice a2 ys.length c2] 46):=⟨_,rfl⟩
 have hb2:Below w.heap.size w w2:=by rw[hw2];exact(zb _ _).alloc (by simp) _
 have q0:w2.heap[w.heap.size]?=some (.cells #[.int .i64 (x:Int),.slice a1 xs.length c1] 46 (0,0)):=by rw[hw2];exact(Below.heap_alloc _ _ _ (by simp)).trans (zw _ _)
 have q1:w2.heap[w.heap.size+1]?=some (.cells #[.int .i64 (y:Int),.slice a2 ys.length c2] 46 (0,0)):=by
  have:=zw (w.alloc (.cells #[.int .i64 (x:Int),.slice a1 xs.length c1] 46)) (.cells #[.int .i64 (y:Int),.slice a2 ys.length c2] 46)
  rw[hw2];simpa using this
 have HEQ:=zh (ieq_post (c1:=c1) (c2:=c2) (h1.on hb2) (h2.on hb2) hn)
 have f0:w2.cell? ⟨w.heap.size,0,none⟩=some (.int .i64 (x:Int)):=(zc q0).trans rfl
 have f1:w2.cell? ⟨w.heap.size,1,none⟩=some (.slice a1 xs.length c1):=(zc q0).trans rfl
 have f2:w2.cell? ⟨w.heap.size+1,0,none⟩=some (.int .i64 (y:Int)):=(zc q1).trans rfl
 have f3:w2.cell? ⟨w.heap.size+1,1,none⟩=some (.slice a2 ys.length c2):=(zc q1).trans rfl
 have l0:=zk q0
 have l1:=zk q1
 have HB2:=zh hb2
 obtain⟨bb,hbb⟩:∃ bb,bb=decide (xs=ys):=⟨_,rfl⟩
 rw[<-hbb]at HEQ ⊢
 clear h1 h2 hn hb2 q0 q1 hbb
 generalize xs.length=m at *
 generalize ys.length=n at *
 by_cases hxy:x=y
 ·subst hxy
  rw[decide_eq_true rfl,Bool.true_and]
  go_enter Tryz.func12,Tryz.ntmps12
  go_upto_region 1 with fail
  rw[<-hw2]
  clear hw2
  go_wp2_with fail
  refine HEQ.out.mono ?_
  rintro e w3 ⟨rfl,hb3⟩
  have HB3:Hid (Below w.heap.size w w3):=HB2.out.trans (hb3.mono HB2.out.size)
  clear hb3
  go_wp2_with fail
  go_ret
  exact⟨rfl,HB3.out⟩
 ·have hne:¬(x:Int)=(y:Int):=by omega
  rw[decide_eq_false hxy,Bool.false_and]
  go_enter Tryz.func12,Tryz.ntmps12
  go_upto_region 1 with fail
  rw[<-hw2]
  clear hw2
  go_wp2_with fail
  go_ret
  exact⟨rfl,HB2.out⟩
end Go.Proofs.YtmnedfdffbbchaaGreatDoor.Jo
