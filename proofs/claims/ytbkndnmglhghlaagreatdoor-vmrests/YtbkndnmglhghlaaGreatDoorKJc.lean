import Derived.Test.YtbkndnmglhghlaaGreatDoorKJb
set_option maxRecDepth 100000
set_option maxHeartbeats 4000000

namespace Go.Proofs.YtbkndnmglhghlaaGreatDoor.Jo
open Go.RowKit
open Ob (Bs)
variable {b cc o sc uc vc z:Nat}{O:Ob.O}{ca sa ua va:Option Addr}{w:World}
theorem sym_r (w:World)(x:Ob.Sm)(m:x.name.length<=1000000000) :
  Calls Tryz.prog 59 #[.agg #[.string (bs x.name),.int .i64 x.len,.int .i64 x.args]] w fun e w'=>e=.returned (.bool (Ob.symB x))/\Below w.heap.size w w':=by
 have f:Hid (∀W,Below w.heap.size w W->Calls Tryz.prog 57 #[.string (bs x.name)] W fun e w'=>e=.returned (.bool (Ob.nameB x.name))/\w'=W):=fun W _=>kv W x.name m
 have g:Hid (∀W,Below w.heap.size w W->Calls Tryz.prog 117 #[.int .i64 x.len] W fun e w'=>e=.returned (.bool (Ob.lenB x.len))/\w'=W):=fun W _=>len_any W x.len
 have b:Hid (Ob.symB x=(Ob.nameB x.name&&(decide (-1<=x.args)&&(decide (x.args<=10)&&(Ob.lenB x.len&&(decide (x.args<0) || decide (x.len=0))))))):=rfl
 generalize Ob.symB x=r at *
 generalize Ob.nameB x.name=b1 at *
 generalize Ob.lenB x.len=b2 at *
 generalize x.args=xa at *
 generalize x.len=xl at *
 have a:Hid (Below w.heap.size w (w.alloc (.cells #[.string (bs x.name),.int .i64 xl,.int .i64 xa] 53))):=zb _ _
 cases b1 with
 |false =>
  have c:Hid (r=false):=by
   show _=_
   rw[b.out]
   simp[*]
  clear b
  go_enter Tryz.func59,Tryz.ntmps59
  go_wp2_with fail
  refine(f.out _ a.out).mono ?_
  rintro e d⟨rfl,rfl⟩
  go_wp2_with fail
  go_ret
  exact⟨by rw[c.out];rfl,a.out⟩
 |true =>
  by_cases q:-1<=xa
  ·have i:decide (-1<=xa)=true:=decide_eq_true (by omega)
   by_cases s:xa<=10
   ·have j:decide (xa<=10)=true:=decide_eq_true (by omega)
    cases b2 with
    |false =>
     have c:Hid (r=false):=by
      show _=_
      rw[b.out]
      simp[*]
     clear b
     go_enter Tryz.func59,Tryz.ntmps59
     go_wp2_with fail
     refine(f.out _ a.out).mono ?_
     rintro e d⟨rfl,rfl⟩
     go_wp2_with fail
     refine(g.out _ a.out).mono ?_
     rintro e d⟨rfl,rfl⟩
     go_wp2_with fail
     go_ret
     exact⟨by rw[c.out];rfl,a.out⟩
    |true =>
     by_cases t:xa<0
     ·have k:decide (xa<0)=true:=decide_eq_true (by omega)
      have c:Hid (r=true):=by
       show _=_
       rw[b.out]
       simp[*]
      clear b
      go_enter Tryz.func59,Tryz.ntmps59
      go_wp2_with fail
      refine(f.out _ a.out).mono ?_
      rintro e d⟨rfl,rfl⟩
      go_wp2_with fail
      refine(g.out _ a.out).mono ?_
      rintro e d⟨rfl,rfl⟩
      go_wp2_with fail
      go_ret
      exact⟨by rw[c.out];rfl,a.out⟩
     ·have k:0<=xa:=by omega
      have p:decide (xa<0)=false:=decide_eq_false (by omega)
      by_cases h:xl=0
      ·have l:(xl==0)=true:=by simp[h]
       have c:Hid (r=true):=by
        show _=_
        rw[b.out]
        simp[*]
       clear b h
       go_enter Tryz.func59,Tryz.ntmps59
       go_wp2_with fail
       refine(f.out _ a.out).mono ?_
       rintro e d⟨rfl,rfl⟩
       go_wp2_with fail
       refine(g.out _ a.out).mono ?_
       rintro e d⟨rfl,rfl⟩
       go_wp2_with fail
       go_ret
       exact⟨by rw[c.out];rfl,a.out⟩
      ·have l:(xl==0)=false:=by simp[h]
       have c:Hid (r=false):=by
        show _=_
        rw[b.out]
        simp[*]
       clear b
       go_enter Tryz.func59,Tryz.ntmps59
       go_wp2_with fail
       refine(f.out _ a.out).mono ?_
       rintro e d⟨rfl,rfl⟩
       go_wp2_with fail
       refine(g.out _ a.out).mono ?_
       rintro e d⟨rfl,rfl⟩
       go_wp2_with fail
       go_ret
       exact⟨by rw[c.out];rfl,a.out⟩
   ·have j:10<xa:=by omega
    have o:decide (xa<=10)=false:=decide_eq_false (by omega)
    have c:Hid (r=false):=by
     show _=_
     rw[b.out]
     simp[*]
    clear b
    go_enter Tryz.func59,Tryz.ntmps59
    go_wp2_with fail
    refine(f.out _ a.out).mono ?_
    rintro e d⟨rfl,rfl⟩
    go_wp2_with fail
    go_ret
    exact⟨by rw[c.out];rfl,a.out⟩
  ·have i:xa < -1:=by omega
   have n:decide (-1<=xa)=false:=decide_eq_false (by omega)
   have c:Hid (r=false):=by
    show _=_
    rw[b.out]
    simp[*]
   clear b
   go_enter Tryz.func59,Tryz.ntmps59
   go_wp2_with fail
   refine(f.out _ a.out).mono ?_
   rintro e d⟨rfl,rfl⟩
   go_wp2_with fail
   go_ret
   exact⟨by rw[c.out];rfl,a.out⟩
theorem var_r (w:World)(x:Ob.Gl)(j:x.name.length<=1000000000) :
  Calls Tryz.prog 62 #[.agg #[.string (bs x.name),.int .i64 x.at',.int .i64 x.len,.bool x.seen]] w fun e w'=>e=.returned (.bool (Ob.varB x))/\Below w.heap.size w w':=by
 have f:Hid (∀W,Below w.heap.size w W->Calls Tryz.prog 57 #[.string (bs x.name)] W fun e w'=>e=.returned (.bool (Ob.nameB x.name))/\w'=W):=fun W _=>kv W x.name j
 have h:Hid (∀W,Below w.heap.size w W->Calls Tryz.prog 117 #[.int .i64 x.len] W fun e w'=>e=.returned (.bool (Ob.lenB x.len))/\w'=W):=fun W _=>len_any W x.len
 have b:Hid (Ob.varB x=(Ob.nameB x.name&&(decide (x.at'=0)&&Ob.lenB x.len))):=rfl
 generalize Ob.varB x=r at *
 generalize Ob.nameB x.name=b1 at *
 generalize Ob.lenB x.len=b2 at *
 generalize x.at'=xa at *
 have a:Hid (Below w.heap.size w (w.alloc (.cells #[.string (bs x.name),.int .i64 xa,.int .i64 x.len,.bool x.seen] 57))):=zb _ _
 cases b1 with
 |false =>
  have c:Hid (r=false):=by
   show _=_
   rw[b.out]
   simp[*]
  clear b
  go_enter Tryz.func62,Tryz.ntmps62
  go_wp2_with fail
  refine(f.out _ a.out).mono ?_
  rintro e d⟨rfl,rfl⟩
  go_wp2_with fail
  go_ret
  exact⟨by rw[c.out];rfl,a.out⟩
 |true =>
  by_cases g:xa=0
  ·have i:(xa==0)=true:=by simp[g]
   cases b2 with
   |false =>
    have c:Hid (r=false):=by
     show _=_
     rw[b.out]
     simp[*]
    clear b g
    go_enter Tryz.func62,Tryz.ntmps62
    go_wp2_with fail
    refine(f.out _ a.out).mono ?_
    rintro e d⟨rfl,rfl⟩
    go_wp2_with fail
    refine(h.out _ a.out).mono ?_
    rintro e d⟨rfl,rfl⟩
    go_wp2_with fail
    go_ret
    exact⟨by rw[c.out];rfl,a.out⟩
   |true =>
    have c:Hid (r=true):=by
     show _=_
     rw[b.out]
     simp[*]
    clear b g
    go_enter Tryz.func62,Tryz.ntmps62
    go_wp2_with fail
    refine(f.out _ a.out).mono ?_
    rintro e d⟨rfl,rfl⟩
    go_wp2_with fail
    refine(h.out _ a.out).mono ?_
    rintro e d⟨rfl,rfl⟩
    go_wp2_with fail
    go_ret
    exact⟨by rw[c.out];rfl,a.out⟩
  ·have i:(xa==0)=false:=by simp[g]
   have c:Hid (r=false):=by
    show _=_
    rw[b.out]
    simp[*]
   clear b
   go_enter Tryz.func62,Tryz.ntmps62
   go_wp2_with fail
   refine(f.out _ a.out).mono ?_
   rintro e d⟨rfl,rfl⟩
   go_wp2_with fail
   go_ret
   exact⟨by rw[c.out];rfl,a.out⟩
theorem cfName (args:Array Value)(w:World):(callFunc 57 args).run Tryz.prog w=.ok (.enter 57 args) w:=by kernel_rfl
theorem use_r (x:Ob.Us)(g:Option Addr)(i:Nat)(m:Sl w (.slice g x.names.length i) 1 x.names.length (cellsOf stC x.names))(v:x.name.length<=1000000000)(u:x.names.length<=140737488355328)(n:∀y∈x.names,y.length<=1000000000) :
  Calls Tryz.prog 56 #[.agg #[.string (bs x.name),.string (bs x.need),.slice g x.names.length i]] w fun e w'=>e=.returned (.bool (Ob.useB x))/\Below w.heap.size w w':=by
 have f:Hid (∀W,Below w.heap.size w W->Calls Tryz.prog 57 #[.string (bs x.name)] W fun e w'=>e=.returned (.bool (Ob.nameB x.name))/\w'=W):=fun W _=>kv W x.name v
 have l:Hid (∀W,Below w.heap.size w W->Calls Tryz.prog 66 #[.slice g x.names.length i,.int .i64 100,.func (.func 57) #[] #[]] W fun e w'=>e=.returned (.bool (Ob.allB Ob.nameB 100 x.names))/\Below W.heap.size W w'):=fun W t=>allStr (m.below t) u 100 (by omega) cfName (fun s y z _=>(kv s y (n y z)).mono (fun e w' h=>⟨h.1,by rw[h.2];exact Below.refl _ _⟩))
 have C:=xR x.need
 have b:Hid (Ob.useB x=(Ob.nameB x.name&&(decide (x.need.length<=4000)&&Ob.allB Ob.nameB 100 x.names))):=rfl
 generalize Ob.useB x=r at *
 generalize Ob.nameB x.name=b1 at *
 generalize Ob.allB Ob.nameB 100 x.names=b2 at *
 clear m n
 have a:Hid (Below w.heap.size w (w.alloc (.cells #[.string (bs x.name),.string (bs x.need),.slice g x.names.length i] 61))):=zb _ _
 cases b1 with
 |false =>
  have c:Hid (r=false):=by
   show _=_
   rw[b.out]
   simp[*]
  clear b
  go_enter Tryz.func56,Tryz.ntmps56
  go_wp2_with fail
  refine(f.out _ a.out).mono ?_
  rintro e k⟨rfl,rfl⟩
  go_wp2_with fail
  go_ret
  exact⟨by rw[c.out];rfl,a.out⟩
 |true =>
  by_cases B:x.need.length<=4000
  ·have o:((bs x.need).size:Int)<=4000:=by omega
   have p:(x.need.length:Int)<=4000:=by omega
   have A:decide (x.need.length<=4000)=true:=decide_eq_true (by omega)
   cases b2 with
   |false =>
    have c:Hid (r=false):=by
     show _=_
     rw[b.out]
     simp[*]
    clear b
    go_enter Tryz.func56,Tryz.ntmps56
    go_wp2_with fail
    refine(f.out _ a.out).mono ?_
    rintro e k⟨rfl,rfl⟩
    go_wp2_with fail
    refine(l.out _ a.out).mono ?_
    rintro e q⟨rfl,d⟩
    have j:=zh (a.out.trans (d.mono a.out.size))
    clear d
    go_wp2_with fail
    go_ret
    exact⟨by rw[c.out];rfl,j.out⟩
   |true =>
    have c:Hid (r=true):=by
     show _=_
     rw[b.out]
     simp[*]
    clear b
    go_enter Tryz.func56,Tryz.ntmps56
    go_wp2_with fail
    refine(f.out _ a.out).mono ?_
    rintro e k⟨rfl,rfl⟩
    go_wp2_with fail
    refine(l.out _ a.out).mono ?_
    rintro e q⟨rfl,d⟩
    have j:=zh (a.out.trans (d.mono a.out.size))
    clear d
    go_wp2_with fail
    go_ret
    exact⟨by rw[c.out];rfl,j.out⟩
  ·have o:(4000:Int)<(x.need.length:Int):=by omega
   have p:decide (x.need.length<=4000)=false:=decide_eq_false (by omega)
   have c:Hid (r=false):=by
    show _=_
    rw[b.out]
    simp[*]
   clear b
   go_enter Tryz.func56,Tryz.ntmps56
   go_wp2_with fail
   refine(f.out _ a.out).mono ?_
   rintro e k⟨rfl,rfl⟩
   go_wp2_with fail
   go_ret
   exact⟨by rw[c.out];rfl,a.out⟩
theorem below_drewN (w:World)(q:Nat):Below w.heap.size w (w.drewN q):=by
 refine⟨?_,?_,?_,?_,fun k _=>?_⟩<;>simp[World.drewN]
theorem cfOther (args:Array Value)(w:World):(callFunc 55 args).run Tryz.prog w=.ok (.enter 55 args) w:=by kernel_rfl
theorem bs_beq (a b:Bs):((bs a).toList==(bs b).toList)=decide (a=b):=by rw[zk,zk,Bool.eq_iff_iff];simp
theorem other_r (x:Ob.Us)(c:Option Addr)(f:Nat)(nm:Bs){g b o:Nat}(q:w.cell? ⟨g,0,none⟩=some (.pointer (some ⟨b,o,none⟩)))(s:w.cell? ⟨b,o,none⟩=some (.string (bs nm)))(v:Sl w (.slice c x.names.length f) 1 x.names.length (cellsOf stC x.names))(M:x.name.length<=1000000000)(L:x.names.length<=140737488355328)(z:∀y∈x.names,y.length<=1000000000) :
  Calls Tryz.prog 55 #[.agg #[.string (bs x.name),.string (bs x.need),.slice c x.names.length f],.pointer (some ⟨g,0,none⟩)] w fun e w'=>e=.returned (.bool (Ob.otherB nm x))/\Below w.heap.size w w':=by
 have I:=zg q
 have H:=zg s
 obtain⟨a,k⟩:∃a,a=w.alloc (.cells #[.string (bs x.name),.string (bs x.need),.slice c x.names.length f] 61):=⟨_,rfl⟩
 have m:Below w.heap.size w a:=by rw[k];exact zb _ _
 have i:a.heap[w.heap.size]?=some (.cells #[.string (bs x.name),.string (bs x.need),.slice c x.names.length f] 61 (0,0)):=by rw[k];exact zl _ _
 have t:w.heap.size<a.heap.size:=zc i
 have N:a.cell? ⟨w.heap.size,0,none⟩=some (.string (bs x.name)):=za i
 have O:a.cell? ⟨w.heap.size,1,none⟩=some (.string (bs x.need)):=za i
 have P:a.cell? ⟨w.heap.size,2,none⟩=some (.slice c x.names.length f):=za i
 have D:a.cell? ⟨g,0,none⟩=some (.pointer (some ⟨b,o,none⟩)):=(m.cell (p:=⟨g,0,none⟩) I).trans q
 have E:a.cell? ⟨b,o,none⟩=some (.string (bs nm)):=(m.cell (p:=⟨b,o,none⟩) H).trans s
 have j:=zh m
 have n:=bs_beq x.name nm
 by_cases l:x.name=nm
 ·have J:((bs x.name).toList==(bs nm).toList)=true:=by rw[n];exact decide_eq_true l
  have u:Hid (Ob.otherB nm x=false):=by show _=_;unfold Ob.otherB;simp[l]
  generalize Ob.otherB nm x=r at *
  clear n l m i q s v z
  go_enter Tryz.func55,Tryz.ntmps55
  go_wp2_with fail
  rw[<-k]
  clear k
  go_quiet (fail)
  go_wp2_with fail
  go_ret
  exact⟨by rw[u.out];rfl,j.out.trans ((below_drewN _ _).mono j.out.size)⟩
 ·have J:((bs x.name).toList==(bs nm).toList)=false:=by rw[n];exact decide_eq_false l
  have u:Hid (Ob.otherB nm x=Ob.useB x):=by show _=_;unfold Ob.otherB;simp[l]
  have K:Hid (∀W,Below w.heap.size w W->Calls Tryz.prog 56 #[.agg #[.string (bs x.name),.string (bs x.need),.slice c x.names.length f]] W fun e w'=>e=.returned (.bool (Ob.useB x))/\Below W.heap.size W w'):=fun W h=>use_r x c f (v.below h) M L z
  generalize Ob.otherB nm x=r at *
  generalize Ob.useB x=d at *
  clear n l m i q s v z
  have C:Hid (∀W,Below a.heap.size a W->W.cell? ⟨w.heap.size,0,none⟩=some (.string (bs x.name))/\W.cell? ⟨w.heap.size,1,none⟩=some (.string (bs x.need))/\W.cell? ⟨w.heap.size,2,none⟩=some (.slice c x.names.length f)/\W.cell? ⟨g,0,none⟩=some (.pointer (some ⟨b,o,none⟩))/\W.cell? ⟨b,o,none⟩=some (.string (bs nm))) :=
   fun W h=>⟨(h.cell (p:=⟨w.heap.size,0,none⟩) t).trans N,(h.cell (p:=⟨w.heap.size,1,none⟩) t).trans O,(h.cell (p:=⟨w.heap.size,2,none⟩) t).trans P,(h.cell (p:=⟨g,0,none⟩) (zg D)).trans D,(h.cell (p:=⟨b,o,none⟩) (zg E)).trans E⟩
  have F:=zh (C.out _ (zt a))
  go_enter Tryz.func55,Tryz.ntmps55
  go_wp2_with fail
  rw[<-k]
  clear k
  go_region_held3 (fun w'=>w'.cell? ⟨w.heap.size,0,none⟩=some (.string (bs x.name))/\w'.cell? ⟨w.heap.size,1,none⟩=some (.string (bs x.need))/\w'.cell? ⟨w.heap.size,2,none⟩=some (.slice c x.names.length f)/\w'.cell? ⟨g,0,none⟩=some (.pointer (some ⟨b,o,none⟩))/\w'.cell? ⟨b,o,none⟩=some (.string (bs nm))) (with_reducible (first|exact G.out|exact F.out)) (first|(go_at_call 56;refine(K.out _ (j.out.trans ((zt a).mono j.out.size))).mono ?_;rintro e Q ⟨rfl,B⟩;have A:Hid (Below a.heap.size a Q):=(zt a).trans B;have G:=zh (C.out _ A.out);clear B))
  go_wp2_with fail
  go_ret
  exact⟨by rw[u.out];rfl,j.out.trans (A.out.mono j.out.size)⟩
structure Bd (O:Ob.O):Prop where
 nm:O.name.length<=1000000000
 sl:O.syms.length<=1000000
 s:∀x∈O.syms,x.name.length<=1000000000
 ul:O.uses.length<=1000000
 u:∀x∈O.uses,x.name.length<=1000000000/\x.names.length<=1000000/\∀y∈x.names,y.length<=1000000000
 vl:O.vars.length<=1000000
 v:∀x∈O.vars,x.name.length<=1000000000
 pl:O.procs.length<=1000000
 nl:O.names.length<=1000000
 n:∀x∈O.names,x.length<=1000000000
 cl:O.code.length<=1000000
 c:∀x∈O.code,Ob.I64 x.a
theorem cfSym51 (args:Array Value)(w:World):(callFunc 59 args).run Tryz.prog w=.ok (.enter 59 args) w:=by kernel_rfl
theorem cfVar54 (args:Array Value)(w:World):(callFunc 62 args).run Tryz.prog w=.ok (.enter 62 args) w:=by kernel_rfl
theorem head_r {X Y pa na:Option Addr}{Z pc nc:Nat}(P:OV w b o O X Y va pa na ca sc Z vc pc nc cc)(C:Bd O) :
  Calls Tryz.prog 28 #[.pointer (some ⟨b,o,none⟩)] w fun e w'=>e=.returned (.bool (Ob.headB O))/\Below w.heap.size w w':=by
 have a8:=zm
 have a6:=zg P.c0
 obtain⟨a,M⟩:∃a,a=w.alloc (.cells #[.pointer (some ⟨b,o,none⟩)] 22):=⟨_,rfl⟩
 have T:Below w.heap.size w a:=by rw[M];exact zb _ _
 have R:a.heap[w.heap.size]?=some (.cells #[.pointer (some ⟨b,o,none⟩)] 22 (0,0)):=by rw[M];exact zl _ _
 have U:w.heap.size<a.heap.size:=zc R
 have V:a.cell? ⟨w.heap.size,0,none⟩=some (.pointer (some ⟨b,o,none⟩)):=za R
 have A:=P.below T
 have x:=zh T
 have z:=zh M
 clear M
 have m:Hid (∀W,Below a.heap.size a W->W.cell? ⟨w.heap.size,0,none⟩=some (.pointer (some ⟨b,o,none⟩))/\W.cell? ⟨b,o,none⟩=some (.string (bs O.name))/\W.cell? ⟨b,o+1,none⟩=some (.slice X O.syms.length sc)/\W.cell? ⟨b,o+2,none⟩=some (.slice Y O.uses.length Z)/\W.cell? ⟨b,o+3,none⟩=some (.slice va O.vars.length vc)/\b<W.heap.size/\w.heap.size<W.heap.size) :=
  fun W k=>⟨(k.cell (p:=⟨w.heap.size,0,none⟩) U).trans V,(A.below k).c0,(A.below k).c1,(A.below k).c2,(A.below k).c3,zg (A.below k).c0,Nat.lt_of_lt_of_le U k.size⟩
 have H:Hid (∀W,Below a.heap.size a W->Calls Tryz.prog 57 #[.string (bs O.name)] W fun e w'=>e=.returned (.bool (Ob.nameB O.name))/\w'=W):=fun W _=>kv W O.name C.nm
 have L:Hid (∀W,Below a.heap.size a W->Calls Tryz.prog 58 #[.slice X O.syms.length sc,.int .i64 20,.func (.func 59) #[] #[]] W fun e w'=>e=.returned (.bool (Ob.allB Ob.symB 20 O.syms))/\Below W.heap.size W w') :=
  fun W k=>allSym (A.below k).s (by have:=C.sl;omega) 20 (by omega) cfSym51 (fun N y G _=>sym_r N y (C.s y G))
 have S:Hid (∀W,Below a.heap.size a W->Calls Tryz.prog 60 #[.slice Y O.uses.length Z,.int .i64 6,.func (.func 55) #[] #[.pointer (some ⟨w.heap.size,0,none⟩)]] W fun e w'=>e=.returned (.bool (Ob.allB (Ob.otherB O.name) 6 O.uses))/\Below W.heap.size W w') :=
  fun W k=>by
   obtain⟨a9,a2,a3⟩:=(A.below k).u
   exact allUs a2 a3 (by have:=C.ul;omega) 6 (by omega) cfOther (fun N y a4 a5 G a1 hs=>other_r y a4 a5 O.name ((a1.cell (p:=⟨w.heap.size,0,none⟩) (show w.heap.size<W.heap.size by have:=k.size;omega)).trans ((k.cell (p:=⟨w.heap.size,0,none⟩) U).trans V)) ((A.below k).below a1).c0 hs (C.u y G).1 (by have:=(C.u y G).2.1;omega) (C.u y G).2.2)
 have a0:Hid (∀W,Below a.heap.size a W->Calls Tryz.prog 61 #[.slice va O.vars.length vc,.int .i64 10,.func (.func 62) #[] #[]] W fun e w'=>e=.returned (.bool (Ob.allB Ob.varB 10 O.vars))/\Below W.heap.size W w') :=
  fun W k=>allGl (A.below k).v (by have:=C.vl;omega) 10 (by omega) cfVar54 (fun N y G _=>var_r N y (C.v y G))
 have B:Hid (Ob.headB O=(Ob.nameB O.name&&(Ob.allB Ob.symB 20 O.syms&&(Ob.allB (Ob.otherB O.name) 6 O.uses&&Ob.allB Ob.varB 10 O.vars)))):=rfl
 generalize Ob.headB O=r at *
 generalize Ob.nameB O.name=b1 at *
 generalize Ob.allB Ob.symB 20 O.syms=b2 at *
 generalize Ob.allB (Ob.otherB O.name) 6 O.uses=b3 at *
 generalize Ob.allB Ob.varB 10 O.vars=b4 at *
 have a7:=P.c0
 clear C A R T V P
 cases b1 with
 |false =>
  have D:Hid (r=false):=by
   show _=_
   rw[B.out]
   simp[*]
  clear B
  obtain⟨f0,c,d,f,g,h,i⟩:=m.out a (Below.refl _ _)
  go_enter Tryz.func28,Tryz.ntmps28
  go_wp2_with fail
  rw[<-z.out]
  clear z
  refine(H.out _ (Below.refl a.heap.size a)).mono ?_
  rintro e Q⟨rfl,l⟩
  rw[l]
  clear l
  go_wp2_with fail
  go_ret
  exact⟨by rw[D.out];rfl,x.out.trans ((Below.refl a.heap.size a).mono x.out.size)⟩
 |true =>
  cases b2 with
  |false =>
   have D:Hid (r=false):=by
    show _=_
    rw[B.out]
    simp[*]
   clear B
   obtain⟨f0,c,d,f,g,h,i⟩:=m.out a (Below.refl _ _)
   go_enter Tryz.func28,Tryz.ntmps28
   go_wp2_with fail
   rw[<-z.out]
   clear z
   refine(H.out _ (Below.refl a.heap.size a)).mono ?_
   rintro e Q⟨rfl,l⟩
   rw[l]
   clear l
   go_wp2_with fail
   refine(L.out _ (Below.refl a.heap.size a)).mono ?_
   rintro e t⟨rfl,q⟩
   have j:Hid (Below a.heap.size a t):=(Below.refl a.heap.size a).trans (q.mono (Below.refl a.heap.size a).size)
   clear q f0 c d f g h i
   obtain⟨f0,c,d,f,g,h,i⟩:=m.out t j.out
   go_wp2_with fail
   go_ret
   exact⟨by rw[D.out];rfl,x.out.trans (j.out.mono x.out.size)⟩
  |true =>
   cases b3 with
   |false =>
    have D:Hid (r=false):=by
     show _=_
     rw[B.out]
     simp[*]
    clear B
    obtain⟨f0,c,d,f,g,h,i⟩:=m.out a (Below.refl _ _)
    go_enter Tryz.func28,Tryz.ntmps28
    go_wp2_with fail
    rw[<-z.out]
    clear z
    refine(H.out _ (Below.refl a.heap.size a)).mono ?_
    rintro e Q⟨rfl,l⟩
    rw[l]
    clear l
    go_wp2_with fail
    refine(L.out _ (Below.refl a.heap.size a)).mono ?_
    rintro e t⟨rfl,q⟩
    have j:Hid (Below a.heap.size a t):=(Below.refl a.heap.size a).trans (q.mono (Below.refl a.heap.size a).size)
    clear q f0 c d f g h i
    obtain⟨f0,c,d,f,g,h,i⟩:=m.out t j.out
    go_wp2_with fail
    refine(S.out _ j.out).mono ?_
    rintro e F⟨rfl,E⟩
    have n:Hid (Below a.heap.size a F):=j.out.trans (E.mono j.out.size)
    clear E f0 c d f g h i
    obtain⟨f0,c,d,f,g,h,i⟩:=m.out F n.out
    go_wp2_with fail
    go_ret
    exact⟨by rw[D.out];rfl,x.out.trans (n.out.mono x.out.size)⟩
   |true =>
    cases b4 with
    |false =>
     have D:Hid (r=false):=by
      show _=_
      rw[B.out]
      simp[*]
     clear B
     obtain⟨f0,c,d,f,g,h,i⟩:=m.out a (Below.refl _ _)
     go_enter Tryz.func28,Tryz.ntmps28
     go_wp2_with fail
     rw[<-z.out]
     clear z
     refine(H.out _ (Below.refl a.heap.size a)).mono ?_
     rintro e Q⟨rfl,l⟩
     rw[l]
     clear l
     go_wp2_with fail
     refine(L.out _ (Below.refl a.heap.size a)).mono ?_
     rintro e t⟨rfl,q⟩
     have j:Hid (Below a.heap.size a t):=(Below.refl a.heap.size a).trans (q.mono (Below.refl a.heap.size a).size)
     clear q f0 c d f g h i
     obtain⟨f0,c,d,f,g,h,i⟩:=m.out t j.out
     go_wp2_with fail
     refine(S.out _ j.out).mono ?_
     rintro e F⟨rfl,E⟩
     have n:Hid (Below a.heap.size a F):=j.out.trans (E.mono j.out.size)
     clear E f0 c d f g h i
     obtain⟨f0,c,d,f,g,h,i⟩:=m.out F n.out
     go_wp2_with fail
     refine(a0.out _ n.out).mono ?_
     rintro e K⟨rfl,J⟩
     have I:Hid (Below a.heap.size a K):=n.out.trans (J.mono n.out.size)
     clear J f0 c d f g h i
     obtain⟨f0,c,d,f,g,h,i⟩:=m.out K I.out
     go_wp2_with fail
     go_ret
     exact⟨by rw[D.out];rfl,x.out.trans (I.out.mono x.out.size)⟩
    |true =>
     have D:Hid (r=true):=by
      show _=_
      rw[B.out]
      simp[*]
     clear B
     obtain⟨f0,c,d,f,g,h,i⟩:=m.out a (Below.refl _ _)
     go_enter Tryz.func28,Tryz.ntmps28
     go_wp2_with fail
     rw[<-z.out]
     clear z
     refine(H.out _ (Below.refl a.heap.size a)).mono ?_
     rintro e Q⟨rfl,l⟩
     rw[l]
     clear l
     go_wp2_with fail
     refine(L.out _ (Below.refl a.heap.size a)).mono ?_
     rintro e t⟨rfl,q⟩
     have j:Hid (Below a.heap.size a t):=(Below.refl a.heap.size a).trans (q.mono (Below.refl a.heap.size a).size)
     clear q f0 c d f g h i
     obtain⟨f0,c,d,f,g,h,i⟩:=m.out t j.out
     go_wp2_with fail
     refine(S.out _ j.out).mono ?_
     rintro e F⟨rfl,E⟩
     have n:Hid (Below a.heap.size a F):=j.out.trans (E.mono j.out.size)
     clear E f0 c d f g h i
     obtain⟨f0,c,d,f,g,h,i⟩:=m.out F n.out
     go_wp2_with fail
     refine(a0.out _ n.out).mono ?_
     rintro e K⟨rfl,J⟩
     have I:Hid (Below a.heap.size a K):=n.out.trans (J.mono n.out.size)
     clear J f0 c d f g h i
     obtain⟨f0,c,d,f,g,h,i⟩:=m.out K I.out
     go_wp2_with fail
     go_ret
     exact⟨by rw[D.out];rfl,x.out.trans (I.out.mono x.out.size)⟩
theorem cfEnt (args:Array Value)(w:World):(callFunc 63 args).run Tryz.prog w=.ok (.enter 63 args) w:=by kernel_rfl
theorem ent_r (x:Ob.En){m b o n cap:Nat}{a:Option Addr}(q:w.cell? ⟨m,0,none⟩=some (.pointer (some ⟨b,o,none⟩)))(s:w.cell? ⟨b,o+6,none⟩=some (.slice a n cap)) :
  Calls Tryz.prog 63 #[.agg #[.int .i64 x.at',.int .i64 x.args,.int .i64 x.locals],.pointer (some ⟨m,0,none⟩)] w fun e w'=>e=.returned (.bool (Ob.entB n x))/\Below w.heap.size w w':=by
 have f:Hid (Ob.entB n x=(Ob.countsB x.at' n&&(decide (0<=x.args)&&(decide (x.args<=x.locals)&&decide (x.locals<=10))))):=rfl
 have j:Hid (∀W,Calls Tryz.prog 64 #[.int .i64 x.at',.int .i64 (n:Int)] W fun e w'=>e=.returned (.bool (Ob.countsB x.at' n))/\w'=W):=fun W=>yS W x.at' n
 generalize Ob.entB n x=r at *
 generalize Ob.countsB x.at' n=b1 at *
 generalize x.at'=xa at *
 generalize x.args=xb at *
 generalize x.locals=xc at *
 have z:=zg q
 have y:=zg s
 obtain⟨g,l⟩:∃g,g=w.alloc (.cells #[.int .i64 xa,.int .i64 xb,.int .i64 xc] 112):=⟨_,rfl⟩
 have k:Below w.heap.size w g:=by rw[l];exact zb _ _
 have i:g.heap[w.heap.size]?=some (.cells #[.int .i64 xa,.int .i64 xb,.int .i64 xc] 112 (0,0)):=by rw[l];exact zl _ _
 have D:w.heap.size<g.heap.size:=zc i
 have H:g.cell? ⟨w.heap.size,0,none⟩=some (.int .i64 xa):=za i
 have I:g.cell? ⟨w.heap.size,1,none⟩=some (.int .i64 xb):=za i
 have J:g.cell? ⟨w.heap.size,2,none⟩=some (.int .i64 xc):=za i
 have K:g.cell? ⟨m,0,none⟩=some (.pointer (some ⟨b,o,none⟩)):=(k.cell (p:=⟨m,0,none⟩) z).trans q
 have L:g.cell? ⟨b,o+6,none⟩=some (.slice a n cap):=(k.cell (p:=⟨b,o+6,none⟩) y).trans s
 have c:=zh k
 have d:=zh l
 clear l k i q s
 cases b1 with
 |false =>
  have h:Hid (r=false):=by
   show _=_
   rw[f.out]
   simp[*]
  clear f
  go_enter Tryz.func63,Tryz.ntmps63
  go_wp2_with fail
  rw[<-d.out]
  clear d
  go_quiet ((go_at_call 64;exact Calls.quiet_of_same (j.out _)))
  go_wp2_with fail
  go_ret
  exact⟨by rw[h.out];rfl,c.out.trans ((below_drewN _ _).mono c.out.size)⟩
 |true =>
  by_cases E:0<=xb
  ·have t:decide (0<=xb)=true:=decide_eq_true (by omega)
   by_cases F:xb<=xc
   ·have u:decide (xb<=xc)=true:=decide_eq_true (by omega)
    by_cases G:xc<=10
    ·have v:decide (xc<=10)=true:=decide_eq_true (by omega)
     have h:Hid (r=true):=by
      show _=_
      rw[f.out]
      simp[*]
     clear f
     go_enter Tryz.func63,Tryz.ntmps63
     go_wp2_with fail
     rw[<-d.out]
     clear d
     go_quiet ((go_at_call 64;exact Calls.quiet_of_same (j.out _)))
     go_wp2_with fail
     go_ret
     exact⟨by rw[h.out];rfl,c.out.trans ((below_drewN _ _).mono c.out.size)⟩
    ·have v:decide (xc<=10)=false:=decide_eq_false (by omega)
     have C:10<xc:=by omega
     have h:Hid (r=false):=by
      show _=_
      rw[f.out]
      simp[*]
     clear f
     go_enter Tryz.func63,Tryz.ntmps63
     go_wp2_with fail
     rw[<-d.out]
     clear d
     go_quiet ((go_at_call 64;exact Calls.quiet_of_same (j.out _)))
     go_wp2_with fail
     go_ret
     exact⟨by rw[h.out];rfl,c.out.trans ((below_drewN _ _).mono c.out.size)⟩
   ·have u:decide (xb<=xc)=false:=decide_eq_false (by omega)
    have B:xc<xb:=by omega
    have h:Hid (r=false):=by
     show _=_
     rw[f.out]
     simp[*]
    clear f
    go_enter Tryz.func63,Tryz.ntmps63
    go_wp2_with fail
    rw[<-d.out]
    clear d
    go_quiet ((go_at_call 64;exact Calls.quiet_of_same (j.out _)))
    go_wp2_with fail
    go_ret
    exact⟨by rw[h.out];rfl,c.out.trans ((below_drewN _ _).mono c.out.size)⟩
  ·have t:decide (0<=xb)=false:=decide_eq_false (by omega)
   have A:xb<0:=by omega
   have h:Hid (r=false):=by
    show _=_
    rw[f.out]
    simp[*]
   clear f
   go_enter Tryz.func63,Tryz.ntmps63
   go_wp2_with fail
   rw[<-d.out]
   clear d
   go_quiet ((go_at_call 64;exact Calls.quiet_of_same (j.out _)))
   go_wp2_with fail
   go_ret
   exact⟨by rw[h.out];rfl,c.out.trans ((below_drewN _ _).mono c.out.size)⟩
theorem takeD {P:Program}{b:Array Oper}{Q:Exit->Act->World->Prop}{e:Region.Mode}{S:World->Prop}{i:Nat}{d:Option Tmp}{v:Value}{f:Nat}{listed:Array Bool}{a:Act}(hd:(b[i]?).map (fun o=>o.dst)=some d)
  (m:Region.noSelect b=true)(k:Region.free e b listed i=true)(l:(Region.ready e b listed).contains i=true)
  (g:∀c a w,Q (.panic c) (a.put d v) w->Q (.panic c) a w)(n:∀oi,b[i]?=some oi->YieldsIf P b S oi v a)(j:S w)
  (h:wpAnyH P e b Q S f (listed.setIfInBounds i true) (a.put d v) w):wpAnyH P e b Q S (f+1) listed a w:=by
 rcases ho:b[i]? with _|oi
 ·rw[ho]at hd;cases hd
 ·rw[ho]at hd
  cases hd
  exact wpAnyH_take ho m k l g (n oi ho) j h
theorem procs_r {m x:Option Addr}{q:Nat}(P:OV w b o O sa ua va m x ca sc uc vc q z cc)(N:Bd O) :
  Calls Tryz.prog 29 #[.pointer (some ⟨b,o,none⟩)] w fun e w'=>e=.returned (.bool (Ob.procsB O))/\Below w.heap.size w w':=by
 have a3:=zm
 have a0:=zg P.c0
 obtain⟨j,M⟩:∃j,j=w.alloc (.cells #[.pointer (some ⟨b,o,none⟩)] 22):=⟨_,rfl⟩
 have L:Below w.heap.size w j:=by rw[M];exact zb _ _
 have R:j.heap[w.heap.size]?=some (.cells #[.pointer (some ⟨b,o,none⟩)] 22 (0,0)):=by rw[M];exact zl _ _
 have Y:w.heap.size<j.heap.size:=zc R
 have kb:j.cell? ⟨w.heap.size,0,none⟩=some (.pointer (some ⟨b,o,none⟩)):=za R
 have E:=P.below L
 have s:=zh L
 have t:=zh M
 clear M
 have B:Hid (∀W,Below j.heap.size j W->W.cell? ⟨w.heap.size,0,none⟩=some (.pointer (some ⟨b,o,none⟩))/\W.cell? ⟨b,o+4,none⟩=some (.slice m O.procs.length q)/\W.cell? ⟨b,o+5,none⟩=some (.slice x O.names.length z)) :=
  fun W g=>⟨(g.cell (p:=⟨w.heap.size,0,none⟩) Y).trans kb,(E.below g).c4,(E.below g).c5⟩
 have a1:b<j.heap.size:=Nat.lt_of_lt_of_le a0 L.size
 have I:Hid (∀W,Below j.heap.size j W->Calls Tryz.prog 65 #[.slice m O.procs.length q,.int .i64 10,.func (.func 63) #[] #[.pointer (some ⟨w.heap.size,0,none⟩)]] W fun e w'=>e=.returned (.bool (Ob.allB (Ob.entB O.code.length) 10 O.procs))/\Below W.heap.size W w') :=
  fun W g=>allEn (E.below g).p (by have:=N.pl;omega) 10 (by omega) cfEnt (fun Z y hy X=>ent_r y ((X.cell (p:=⟨w.heap.size,0,none⟩) (show w.heap.size<W.heap.size by have:=g.size;omega)).trans ((g.cell (p:=⟨w.heap.size,0,none⟩) Y).trans kb)) ((E.below g).below X).c6)
 have V:Hid (∀W,Below j.heap.size j W->Calls Tryz.prog 66 #[.slice x O.names.length z,.int .i64 10,.func (.func 57) #[] #[]] W fun e w'=>e=.returned (.bool (Ob.allB Ob.nameB 10 O.names))/\Below W.heap.size W w') :=
  fun W g=>allStr (E.below g).n (by have:=N.nl;omega) 10 (by omega) cfName (fun Z y hy _=>(kv Z y (N.n y hy)).mono (fun e w' h=>⟨h.1,by rw[h.2];exact Below.refl _ _⟩))
 have u:Hid (Ob.procsB O=(Ob.allB (Ob.entB O.code.length) 10 O.procs&&(decide (O.names.length=O.procs.length)&&Ob.allB Ob.nameB 10 O.names))):=rfl
 generalize Ob.procsB O=r at *
 generalize Ob.allB (Ob.entB O.code.length) 10 O.procs=b1 at *
 generalize Ob.allB Ob.nameB 10 O.names=b2 at *
 have J:=zh (B.out _ (zt j))
 have a2:=P.c0
 clear N E R L P
 cases b1 with
 |false =>
  have C:Hid (r=false):=by
   show _=_
   rw[u.out]
   simp[*]
  clear u
  go_enter Tryz.func29,Tryz.ntmps29
  go_wp2_with fail
  rw[<-t.out]
  clear t
  refine wp_region_held_drew (S:=(fun w'=>w'.cell? ⟨w.heap.size,0,none⟩=some (.pointer (some ⟨b,o,none⟩))/\w'.cell? ⟨b,o+4,none⟩=some (.slice m O.procs.length q)/\w'.cell? ⟨b,o+5,none⟩=some (.slice x O.names.length z))) (by kernel_rfl) J.out (fun c=>?_)
  refine takeD (i:=0) (d:=some 5) (v:=(.pointer (some ⟨b,o,none⟩))) (by kernel_rfl) (by kernel_rfl) (by kernel_rfl) (by kernel_rfl) (fun _ _ _ h=>h) (fun f a=>by cases a;exact Or.inl ⟨by kernel_rfl,fun W g=>by go_simp⟩) c ?_
  go_frame
  refine takeD (i:=1) (d:=some 6) (v:=(.pointer (some ⟨b,o,none⟩))) (by kernel_rfl) (by kernel_rfl) (by kernel_rfl) (by kernel_rfl) (fun _ _ _ h=>h) (fun f a=>by cases a;exact Or.inl ⟨by kernel_rfl,fun W g=>by go_simp⟩) c ?_
  go_frame
  refine takeD (i:=2) (d:=some 7) (v:=.pointer (some ⟨b,o+4,none⟩)) (by kernel_rfl) (by kernel_rfl) (by kernel_rfl) (by kernel_rfl) (fun _ _ _ h=>h) (fun f a=>by cases a;exact Or.inl ⟨by kernel_rfl,fun W g=>by go_simp⟩) c ?_
  go_frame
  refine takeD (i:=3) (d:=some 8) (v:=.slice m O.procs.length q) (by kernel_rfl) (by kernel_rfl) (by kernel_rfl) (by kernel_rfl) (fun _ _ _ h=>h) (fun f a=>by cases a;exact Or.inl ⟨by kernel_rfl,fun W g=>by go_simp⟩) c ?_
  go_frame
  refine takeD (i:=4) (d:=some 9) (v:=.func (.func 63) #[] #[.pointer (some ⟨w.heap.size,0,none⟩)]) (by kernel_rfl) (by kernel_rfl) (by kernel_rfl) (by kernel_rfl) (fun _ _ _ h=>h) (fun f a=>by cases a;exact Or.inl ⟨by kernel_rfl,fun W g=>by go_simp⟩) c ?_
  go_frame
  refine wpAnyH_ready (rs:=[5]) (by kernel_rfl) (by simp) ?_
  refine AllReadyH.cons rfl (fun K H=>?_) AllReadyH.nil
  go_simp
  refine(I.out _ (zt j)).mono ?_
  rintro e D⟨rfl,l⟩
  have k:Hid (Below j.heap.size j D):=(zt j).trans l
  have A:=zh (B.out _ k.out)
  clear l
  go_frame
  refine H.out _ _ A.out (fun c=>?_)
  clear H
  refine takeD (i:=6) (d:=some 11) (v:=.bool false) (by kernel_rfl) (by kernel_rfl) (by kernel_rfl) (by kernel_rfl) (fun _ _ _ h=>h) (fun f a=>by cases a;exact Or.inl ⟨by kernel_rfl,fun W g=>by go_simp⟩) c ?_
  go_frame
  refine takeD (i:=7) (d:=some 12) (v:=undef) (by kernel_rfl) (by kernel_rfl) (by kernel_rfl) (by kernel_rfl) (fun _ _ _ h=>h) (fun f a=>by cases a;exact Or.inr ⟨by kernel_rfl,rfl⟩) c ?_
  go_frame
  refine takeD (i:=8) (d:=some 13) (v:=undef) (by kernel_rfl) (by kernel_rfl) (by kernel_rfl) (by kernel_rfl) (fun _ _ _ h=>h) (fun f a=>by cases a;exact Or.inr ⟨by kernel_rfl,rfl⟩) c ?_
  go_frame
  refine takeD (i:=9) (d:=some 14) (v:=undef) (by kernel_rfl) (by kernel_rfl) (by kernel_rfl) (by kernel_rfl) (fun _ _ _ h=>h) (fun f a=>by cases a;exact Or.inr ⟨by kernel_rfl,rfl⟩) c ?_
  go_frame
  refine takeD (i:=10) (d:=some 15) (v:=undef) (by kernel_rfl) (by kernel_rfl) (by kernel_rfl) (by kernel_rfl) (fun _ _ _ h=>h) (fun f a=>by cases a;exact Or.inr ⟨by kernel_rfl,rfl⟩) c ?_
  go_frame
  refine takeD (i:=11) (d:=some 16) (v:=undef) (by kernel_rfl) (by kernel_rfl) (by kernel_rfl) (by kernel_rfl) (fun _ _ _ h=>h) (fun f a=>by cases a;exact Or.inr ⟨by kernel_rfl,rfl⟩) c ?_
  go_frame
  refine takeD (i:=12) (d:=some 17) (v:=undef) (by kernel_rfl) (by kernel_rfl) (by kernel_rfl) (by kernel_rfl) (fun _ _ _ h=>h) (fun f a=>by cases a;exact Or.inr ⟨by kernel_rfl,rfl⟩) c ?_
  go_frame
  refine takeD (i:=13) (d:=some 18) (v:=undef) (by kernel_rfl) (by kernel_rfl) (by kernel_rfl) (by kernel_rfl) (fun _ _ _ h=>h) (fun f a=>by cases a;exact Or.inr ⟨by kernel_rfl,rfl⟩) c ?_
  go_frame
  refine takeD (i:=14) (d:=some 19) (v:=undef) (by kernel_rfl) (by kernel_rfl) (by kernel_rfl) (by kernel_rfl) (fun _ _ _ h=>h) (fun f a=>by cases a;exact Or.inr ⟨by kernel_rfl,rfl⟩) c ?_
  go_frame
  refine takeD (i:=15) (d:=some 20) (v:=undef) (by kernel_rfl) (by kernel_rfl) (by kernel_rfl) (by kernel_rfl) (fun _ _ _ h=>h) (fun f a=>by cases a;exact Or.inr ⟨by kernel_rfl,rfl⟩) c ?_
  go_frame
  refine takeD (i:=16) (d:=some 21) (v:=undef) (by kernel_rfl) (by kernel_rfl) (by kernel_rfl) (by kernel_rfl) (fun _ _ _ h=>h) (fun f a=>by cases a;exact Or.inr ⟨by kernel_rfl,rfl⟩) c ?_
  go_frame
  refine takeD (i:=17) (d:=some 22) (v:=undef) (by kernel_rfl) (by kernel_rfl) (by kernel_rfl) (by kernel_rfl) (fun _ _ _ h=>h) (fun f a=>by cases a;exact Or.inr ⟨by kernel_rfl,rfl⟩) c ?_
  go_frame
  refine takeD (i:=18) (d:=some 23) (v:=.bool false) (by kernel_rfl) (by kernel_rfl) (by kernel_rfl) (by kernel_rfl) (fun _ _ _ h=>h) (fun f a=>by cases a;exact Or.inl ⟨by kernel_rfl,fun W g=>by go_simp⟩) c ?_
  go_frame
  refine takeD (i:=19) (d:=some 24) (v:=.bool false) (by kernel_rfl) (by kernel_rfl) (by kernel_rfl) (by kernel_rfl) (fun _ _ _ h=>h) (fun f a=>by cases a;exact Or.inl ⟨by kernel_rfl,fun W g=>by go_simp⟩) c ?_
  go_frame
  refine takeD (i:=20) (d:=some 25) (v:=undef) (by kernel_rfl) (by kernel_rfl) (by kernel_rfl) (by kernel_rfl) (fun _ _ _ h=>h) (fun f a=>by cases a;exact Or.inr ⟨by kernel_rfl,rfl⟩) c ?_
  go_frame
  refine takeD (i:=21) (d:=some 26) (v:=undef) (by kernel_rfl) (by kernel_rfl) (by kernel_rfl) (by kernel_rfl) (fun _ _ _ h=>h) (fun f a=>by cases a;exact Or.inr ⟨by kernel_rfl,rfl⟩) c ?_
  go_frame
  refine takeD (i:=22) (d:=some 27) (v:=undef) (by kernel_rfl) (by kernel_rfl) (by kernel_rfl) (by kernel_rfl) (fun _ _ _ h=>h) (fun f a=>by cases a;exact Or.inr ⟨by kernel_rfl,rfl⟩) c ?_
  go_frame
  refine takeD (i:=23) (d:=some 28) (v:=undef) (by kernel_rfl) (by kernel_rfl) (by kernel_rfl) (by kernel_rfl) (fun _ _ _ h=>h) (fun f a=>by cases a;exact Or.inr ⟨by kernel_rfl,rfl⟩) c ?_
  go_frame
  refine takeD (i:=24) (d:=some 29) (v:=undef) (by kernel_rfl) (by kernel_rfl) (by kernel_rfl) (by kernel_rfl) (fun _ _ _ h=>h) (fun f a=>by cases a;exact Or.inr ⟨by kernel_rfl,rfl⟩) c ?_
  go_frame
  refine takeD (i:=25) (d:=some 30) (v:=.bool false) (by kernel_rfl) (by kernel_rfl) (by kernel_rfl) (by kernel_rfl) (fun _ _ _ h=>h) (fun f a=>by cases a;exact Or.inl ⟨by kernel_rfl,fun W g=>by go_simp⟩) c ?_
  go_frame
  refine takeD (i:=26) (d:=some 2) (v:=.bool false) (by kernel_rfl) (by kernel_rfl) (by kernel_rfl) (by kernel_rfl) (fun _ _ _ h=>h) (fun f a=>by cases a;exact Or.inl ⟨by kernel_rfl,fun W g=>by go_simp⟩) c ?_
  go_frame
  refine wpAnyH_done (by kernel_rfl) ?_ _
  clear c
  go_wp2_with fail
  go_ret
  exact⟨by rw[C.out];rfl,s.out.trans (k.out.mono s.out.size)⟩
 |true =>
  by_cases Q:O.names.length=O.procs.length
  ·have he:((O.names.length:Int)==(O.procs.length:Int))=true:=by simp[Q]
   have HL:=zh Q
   cases b2 with
   |false =>
    have C:Hid (r=false):=by
     show _=_
     rw[u.out]
     simp[*]
    clear u Q
    go_enter Tryz.func29,Tryz.ntmps29
    go_wp2_with fail
    rw[<-t.out]
    clear t
    go_region_held3 (fun w'=>w'.cell? ⟨w.heap.size,0,none⟩=some (.pointer (some ⟨b,o,none⟩))/\w'.cell? ⟨b,o+4,none⟩=some (.slice m O.procs.length q)/\w'.cell? ⟨b,o+5,none⟩=some (.slice x O.names.length z)) (with_reducible (first|exact T.out|exact A.out|exact J.out)) (first|(go_at_call 65;refine(I.out _ (zt j)).mono ?_;rintro e D ⟨rfl,l⟩;have k:Hid (Below j.heap.size j D):=(zt j).trans l;have A:=zh (B.out _ k.out);clear l)|(go_at_call 66;refine(V.out _ k.out).mono ?_;rintro e U ⟨rfl,G⟩;have F:Hid (Below j.heap.size j U):=k.out.trans (G.mono k.out.size);have T:=zh (B.out _ F.out);clear G))
    go_wp2_with fail
    go_ret
    exact⟨by rw[C.out];rfl,s.out.trans (F.out.mono s.out.size)⟩
   |true =>
    have C:Hid (r=true):=by
     show _=_
     rw[u.out]
     simp[*]
    clear u Q
    go_enter Tryz.func29,Tryz.ntmps29
    go_wp2_with fail
    rw[<-t.out]
    clear t
    go_region_held3 (fun w'=>w'.cell? ⟨w.heap.size,0,none⟩=some (.pointer (some ⟨b,o,none⟩))/\w'.cell? ⟨b,o+4,none⟩=some (.slice m O.procs.length q)/\w'.cell? ⟨b,o+5,none⟩=some (.slice x O.names.length z)) (with_reducible (first|exact T.out|exact A.out|exact J.out)) (first|(go_at_call 65;refine(I.out _ (zt j)).mono ?_;rintro e D ⟨rfl,l⟩;have k:Hid (Below j.heap.size j D):=(zt j).trans l;have A:=zh (B.out _ k.out);clear l)|(go_at_call 66;refine(V.out _ k.out).mono ?_;rintro e U ⟨rfl,G⟩;have F:Hid (Below j.heap.size j U):=k.out.trans (G.mono k.out.size);have T:=zh (B.out _ F.out);clear G))
    go_wp2_with fail
    go_ret
    exact⟨by rw[C.out];rfl,s.out.trans (F.out.mono s.out.size)⟩
  ·have he:((O.names.length:Int)==(O.procs.length:Int))=false:=by simp;omega
   have C:Hid (r=false):=by
    show _=_
    rw[u.out]
    simp[*]
   clear u
   go_enter Tryz.func29,Tryz.ntmps29
   go_wp2_with fail
   rw[<-t.out]
   clear t
   refine wp_region_held_drew (S:=(fun w'=>w'.cell? ⟨w.heap.size,0,none⟩=some (.pointer (some ⟨b,o,none⟩))/\w'.cell? ⟨b,o+4,none⟩=some (.slice m O.procs.length q)/\w'.cell? ⟨b,o+5,none⟩=some (.slice x O.names.length z))) (by kernel_rfl) J.out (fun c=>?_)
   refine takeD (i:=0) (d:=some 5) (v:=(.pointer (some ⟨b,o,none⟩))) (by kernel_rfl) (by kernel_rfl) (by kernel_rfl) (by kernel_rfl) (fun _ _ _ h=>h) (fun f a=>by cases a;exact Or.inl ⟨by kernel_rfl,fun W g=>by go_simp⟩) c ?_
   go_frame
   refine takeD (i:=1) (d:=some 6) (v:=(.pointer (some ⟨b,o,none⟩))) (by kernel_rfl) (by kernel_rfl) (by kernel_rfl) (by kernel_rfl) (fun _ _ _ h=>h) (fun f a=>by cases a;exact Or.inl ⟨by kernel_rfl,fun W g=>by go_simp⟩) c ?_
   go_frame
   refine takeD (i:=2) (d:=some 7) (v:=.pointer (some ⟨b,o+4,none⟩)) (by kernel_rfl) (by kernel_rfl) (by kernel_rfl) (by kernel_rfl) (fun _ _ _ h=>h) (fun f a=>by cases a;exact Or.inl ⟨by kernel_rfl,fun W g=>by go_simp⟩) c ?_
   go_frame
   refine takeD (i:=3) (d:=some 8) (v:=.slice m O.procs.length q) (by kernel_rfl) (by kernel_rfl) (by kernel_rfl) (by kernel_rfl) (fun _ _ _ h=>h) (fun f a=>by cases a;exact Or.inl ⟨by kernel_rfl,fun W g=>by go_simp⟩) c ?_
   go_frame
   refine takeD (i:=4) (d:=some 9) (v:=.func (.func 63) #[] #[.pointer (some ⟨w.heap.size,0,none⟩)]) (by kernel_rfl) (by kernel_rfl) (by kernel_rfl) (by kernel_rfl) (fun _ _ _ h=>h) (fun f a=>by cases a;exact Or.inl ⟨by kernel_rfl,fun W g=>by go_simp⟩) c ?_
   go_frame
   refine wpAnyH_ready (rs:=[5]) (by kernel_rfl) (by simp) ?_
   refine AllReadyH.cons rfl (fun K H=>?_) AllReadyH.nil
   go_simp
   refine(I.out _ (zt j)).mono ?_
   rintro e D⟨rfl,l⟩
   have k:Hid (Below j.heap.size j D):=(zt j).trans l
   have A:=zh (B.out _ k.out)
   clear l
   go_frame
   refine H.out _ _ A.out (fun c=>?_)
   clear H
   refine takeD (i:=6) (d:=some 11) (v:=.bool true) (by kernel_rfl) (by kernel_rfl) (by kernel_rfl) (by kernel_rfl) (fun _ _ _ h=>h) (fun f a=>by cases a;exact Or.inl ⟨by kernel_rfl,fun W g=>by go_simp⟩) c ?_
   go_frame
   refine takeD (i:=7) (d:=some 12) (v:=(.pointer (some ⟨b,o,none⟩))) (by kernel_rfl) (by kernel_rfl) (by kernel_rfl) (by kernel_rfl) (fun _ _ _ h=>h) (fun f a=>by cases a;exact Or.inl ⟨by kernel_rfl,fun W g=>by go_simp⟩) c ?_
   go_frame
   refine takeD (i:=8) (d:=some 13) (v:=(.pointer (some ⟨b,o,none⟩))) (by kernel_rfl) (by kernel_rfl) (by kernel_rfl) (by kernel_rfl) (fun _ _ _ h=>h) (fun f a=>by cases a;exact Or.inl ⟨by kernel_rfl,fun W g=>by go_simp⟩) c ?_
   go_frame
   refine takeD (i:=9) (d:=some 14) (v:=.pointer (some ⟨b,o+5,none⟩)) (by kernel_rfl) (by kernel_rfl) (by kernel_rfl) (by kernel_rfl) (fun _ _ _ h=>h) (fun f a=>by cases a;exact Or.inl ⟨by kernel_rfl,fun W g=>by go_simp⟩) c ?_
   go_frame
   refine takeD (i:=10) (d:=some 15) (v:=.slice x O.names.length z) (by kernel_rfl) (by kernel_rfl) (by kernel_rfl) (by kernel_rfl) (fun _ _ _ h=>h) (fun f a=>by cases a;exact Or.inl ⟨by kernel_rfl,fun W g=>by go_simp⟩) c ?_
   go_frame
   refine takeD (i:=11) (d:=some 16) (v:=.int .i64 (O.names.length:Int)) (by kernel_rfl) (by kernel_rfl) (by kernel_rfl) (by kernel_rfl) (fun _ _ _ h=>h) (fun f a=>by cases a;exact Or.inl ⟨by kernel_rfl,fun W g=>by go_simp⟩) c ?_
   go_frame
   refine takeD (i:=12) (d:=some 17) (v:=(.pointer (some ⟨b,o,none⟩))) (by kernel_rfl) (by kernel_rfl) (by kernel_rfl) (by kernel_rfl) (fun _ _ _ h=>h) (fun f a=>by cases a;exact Or.inl ⟨by kernel_rfl,fun W g=>by go_simp⟩) c ?_
   go_frame
   refine takeD (i:=13) (d:=some 18) (v:=(.pointer (some ⟨b,o,none⟩))) (by kernel_rfl) (by kernel_rfl) (by kernel_rfl) (by kernel_rfl) (fun _ _ _ h=>h) (fun f a=>by cases a;exact Or.inl ⟨by kernel_rfl,fun W g=>by go_simp⟩) c ?_
   go_frame
   refine takeD (i:=14) (d:=some 19) (v:=.pointer (some ⟨b,o+4,none⟩)) (by kernel_rfl) (by kernel_rfl) (by kernel_rfl) (by kernel_rfl) (fun _ _ _ h=>h) (fun f a=>by cases a;exact Or.inl ⟨by kernel_rfl,fun W g=>by go_simp⟩) c ?_
   go_frame
   refine takeD (i:=15) (d:=some 20) (v:=.slice m O.procs.length q) (by kernel_rfl) (by kernel_rfl) (by kernel_rfl) (by kernel_rfl) (fun _ _ _ h=>h) (fun f a=>by cases a;exact Or.inl ⟨by kernel_rfl,fun W g=>by go_simp⟩) c ?_
   go_frame
   refine takeD (i:=16) (d:=some 21) (v:=.int .i64 (O.procs.length:Int)) (by kernel_rfl) (by kernel_rfl) (by kernel_rfl) (by kernel_rfl) (fun _ _ _ h=>h) (fun f a=>by cases a;exact Or.inl ⟨by kernel_rfl,fun W g=>by go_simp⟩) c ?_
   go_frame
   refine takeD (i:=17) (d:=some 22) (v:=.bool false) (by kernel_rfl) (by kernel_rfl) (by kernel_rfl) (by kernel_rfl) (fun _ _ _ h=>h) (fun f a=>by cases a;exact Or.inl ⟨by kernel_rfl,fun W g=>by go_simp⟩) c ?_
   go_frame
   refine takeD (i:=18) (d:=some 23) (v:=.bool false) (by kernel_rfl) (by kernel_rfl) (by kernel_rfl) (by kernel_rfl) (fun _ _ _ h=>h) (fun f a=>by cases a;exact Or.inl ⟨by kernel_rfl,fun W g=>by go_simp⟩) c ?_
   go_frame
   refine takeD (i:=19) (d:=some 24) (v:=.bool false) (by kernel_rfl) (by kernel_rfl) (by kernel_rfl) (by kernel_rfl) (fun _ _ _ h=>h) (fun f a=>by cases a;exact Or.inl ⟨by kernel_rfl,fun W g=>by go_simp⟩) c ?_
   go_frame
   refine takeD (i:=20) (d:=some 25) (v:=undef) (by kernel_rfl) (by kernel_rfl) (by kernel_rfl) (by kernel_rfl) (fun _ _ _ h=>h) (fun f a=>by cases a;exact Or.inr ⟨by kernel_rfl,rfl⟩) c ?_
   go_frame
   refine takeD (i:=21) (d:=some 26) (v:=undef) (by kernel_rfl) (by kernel_rfl) (by kernel_rfl) (by kernel_rfl) (fun _ _ _ h=>h) (fun f a=>by cases a;exact Or.inr ⟨by kernel_rfl,rfl⟩) c ?_
   go_frame
   refine takeD (i:=22) (d:=some 27) (v:=undef) (by kernel_rfl) (by kernel_rfl) (by kernel_rfl) (by kernel_rfl) (fun _ _ _ h=>h) (fun f a=>by cases a;exact Or.inr ⟨by kernel_rfl,rfl⟩) c ?_
   go_frame
   refine takeD (i:=23) (d:=some 28) (v:=undef) (by kernel_rfl) (by kernel_rfl) (by kernel_rfl) (by kernel_rfl) (fun _ _ _ h=>h) (fun f a=>by cases a;exact Or.inr ⟨by kernel_rfl,rfl⟩) c ?_
   go_frame
   refine takeD (i:=24) (d:=some 29) (v:=undef) (by kernel_rfl) (by kernel_rfl) (by kernel_rfl) (by kernel_rfl) (fun _ _ _ h=>h) (fun f a=>by cases a;exact Or.inr ⟨by kernel_rfl,rfl⟩) c ?_
   go_frame
   refine takeD (i:=25) (d:=some 30) (v:=.bool false) (by kernel_rfl) (by kernel_rfl) (by kernel_rfl) (by kernel_rfl) (fun _ _ _ h=>h) (fun f a=>by cases a;exact Or.inl ⟨by kernel_rfl,fun W g=>by go_simp⟩) c ?_
   go_frame
   refine takeD (i:=26) (d:=some 2) (v:=.bool false) (by kernel_rfl) (by kernel_rfl) (by kernel_rfl) (by kernel_rfl) (fun _ _ _ h=>h) (fun f a=>by cases a;exact Or.inl ⟨by kernel_rfl,fun W g=>by go_simp⟩) c ?_
   go_frame
   refine wpAnyH_done (by kernel_rfl) ?_ _
   clear c
   go_wp2_with fail
   go_ret
   exact⟨by rw[C.out];rfl,s.out.trans (k.out.mono s.out.size)⟩
theorem yp {a b:Int}(h:a≠b):(a==b)=false:=by simpa using h
theorem uI {A B D y v t:Option Addr}{C E x u:Nat}(c:OV w b o O A B D y v t sc C E z x u)(op:Int) :
  Calls Tryz.prog 126 #[.pointer (some ⟨b,o,none⟩),.int .i64 op] w fun e w'=>e=.returned (.int .i64 (Ob.choices O op:Int))/\w'=w:=by
 have G:=c.c3
 have H:=c.c6
 have F:=zg c.c0
 clear c
 by_cases m:op=3
 ·subst m
  have a:Hid (Ob.choices O 3=10):=by show _=_;simp[Ob.choices]
  generalize Ob.choices O 3=r at *
  go_enter Tryz.func126,Tryz.ntmps126
  go_wp2_with fail
  go_ret
  exact⟨by rw[a.out];rfl,rfl⟩
 by_cases n:op=4
 ·subst n
  have a:Hid (Ob.choices O 4=10):=by show _=_;simp[Ob.choices]
  generalize Ob.choices O 4=r at *
  go_enter Tryz.func126,Tryz.ntmps126
  go_wp2_with fail
  go_ret
  exact⟨by rw[a.out];rfl,rfl⟩
 by_cases p:op=6
 ·subst p
  have a:Hid (Ob.choices O 6=O.vars.length):=by show _=_;simp[Ob.choices]
  generalize Ob.choices O 6=r at *
  go_enter Tryz.func126,Tryz.ntmps126
  go_wp2_with fail
  go_ret
  exact⟨by rw[a.out];rfl,rfl⟩
 by_cases q:op=8
 ·subst q
  have a:Hid (Ob.choices O 8=O.vars.length):=by show _=_;simp[Ob.choices]
  generalize Ob.choices O 8=r at *
  go_enter Tryz.func126,Tryz.ntmps126
  go_wp2_with fail
  go_ret
  exact⟨by rw[a.out];rfl,rfl⟩
 by_cases s:op=9
 ·subst s
  have a:Hid (Ob.choices O 9=11):=by show _=_;simp[Ob.choices]
  generalize Ob.choices O 9=r at *
  go_enter Tryz.func126,Tryz.ntmps126
  go_wp2_with fail
  go_ret
  exact⟨by rw[a.out];rfl,rfl⟩
 by_cases g:op=12
 ·subst g
  have a:Hid (Ob.choices O 12=O.code.length):=by show _=_;simp[Ob.choices]
  generalize Ob.choices O 12=r at *
  go_enter Tryz.func126,Tryz.ntmps126
  go_wp2_with fail
  go_ret
  exact⟨by rw[a.out];rfl,rfl⟩
 by_cases h:op=13
 ·subst h
  have a:Hid (Ob.choices O 13=O.code.length):=by show _=_;simp[Ob.choices]
  generalize Ob.choices O 13=r at *
  go_enter Tryz.func126,Tryz.ntmps126
  go_wp2_with fail
  go_ret
  exact⟨by rw[a.out];rfl,rfl⟩
 by_cases l:op=2
 ·subst l
  have a:Hid (Ob.choices O 2=1):=by show _=_;simp[Ob.choices]
  generalize Ob.choices O 2=r at *
  go_enter Tryz.func126,Tryz.ntmps126
  go_wp2_with fail
  go_ret
  exact⟨by rw[a.out];rfl,rfl⟩
 by_cases d:op=10
 ·subst d
  have a:Hid (Ob.choices O 10=1):=by show _=_;simp[Ob.choices]
  generalize Ob.choices O 10=r at *
  go_enter Tryz.func126,Tryz.ntmps126
  go_wp2_with fail
  go_ret
  exact⟨by rw[a.out];rfl,rfl⟩
 by_cases f:op=11
 ·subst f
  have a:Hid (Ob.choices O 11=1):=by show _=_;simp[Ob.choices]
  generalize Ob.choices O 11=r at *
  go_enter Tryz.func126,Tryz.ntmps126
  go_wp2_with fail
  go_ret
  exact⟨by rw[a.out];rfl,rfl⟩
 by_cases i:op=15
 ·subst i
  have a:Hid (Ob.choices O 15=1):=by show _=_;simp[Ob.choices]
  generalize Ob.choices O 15=r at *
  go_enter Tryz.func126,Tryz.ntmps126
  go_wp2_with fail
  go_ret
  exact⟨by rw[a.out];rfl,rfl⟩
 by_cases j:op=16
 ·subst j
  have a:Hid (Ob.choices O 16=1):=by show _=_;simp[Ob.choices]
  generalize Ob.choices O 16=r at *
  go_enter Tryz.func126,Tryz.ntmps126
  go_wp2_with fail
  go_ret
  exact⟨by rw[a.out];rfl,rfl⟩
 by_cases k:op=17
 ·subst k
  have a:Hid (Ob.choices O 17=1):=by show _=_;simp[Ob.choices]
  generalize Ob.choices O 17=r at *
  go_enter Tryz.func126,Tryz.ntmps126
  go_wp2_with fail
  go_ret
  exact⟨by rw[a.out];rfl,rfl⟩
 have a:Hid (Ob.choices O op=0):=by show _=_;simp[Ob.choices, *]
 generalize Ob.choices O op=r at *
 replace m:=yp m
 replace n:=yp n
 replace p:=yp p
 replace q:=yp q
 replace s:=yp s
 replace g:=yp g
 replace h:=yp h
 replace l:=yp l
 replace d:=yp d
 replace f:=yp f
 replace i:=yp i
 replace j:=yp j
 replace k:=yp k
 go_enter Tryz.func126,Tryz.ntmps126
 go_wp2_with fail
 go_ret
 exact⟨by rw[a.out];rfl,rfl⟩
theorem ug {V T M:Option Addr}{X U N:Nat}(z:OV w b o O sa ua va V T M sc uc vc X U N)(hu:O.uses.length<=1000000)(x:Ob.In)(own:Nat) :
  Calls Tryz.prog 125 #[.pointer (some ⟨b,o,none⟩),.agg #[.int .i64 x.op,.int .i64 x.a,.int .i64 x.b],.int .i64 (own:Int)] w fun e w'=>e=.returned (.bool (Ob.reachB O x own))/\Below w.heap.size w w':=by
 have a3:=zg z.c0
 obtain⟨c,n⟩:∃c,c=w.alloc (.cells #[.int .i64 x.op,.int .i64 x.a,.int .i64 x.b] 138):=⟨_,rfl⟩
 have s:Below w.heap.size w c:=by rw[n];exact zb _ _
 have l:c.heap[w.heap.size]?=some (.cells #[.int .i64 x.op,.int .i64 x.a,.int .i64 x.b] 138 (0,0)):=by rw[n];exact zl _ _
 have a6:w.heap.size<c.heap.size:=zc l
 have k0:c.cell? ⟨w.heap.size,0,none⟩=some (.int .i64 x.op):=za l
 have k1:c.cell? ⟨w.heap.size,1,none⟩=some (.int .i64 x.a):=za l
 have S:c.cell? ⟨w.heap.size,2,none⟩=some (.int .i64 x.b):=za l
 have q:=z.below s
 have u2:=q.c2
 have m:=zh s
 have h:=zh n
 have y:=zh q.u
 have a7:(O.uses.length:Int)<=1000000:=by omega
 clear n s l z q
 by_cases f:x.b=-1
 ·have D:(x.b==-1)=true:=by simp[f]
  have k:Hid (Ob.reachB O x own=Ob.countsB x.a own):=by show _=_;unfold Ob.reachB;rw[if_pos f]
  have L:=zh (yS c x.a own)
  generalize Ob.reachB O x own=r at *
  generalize Ob.countsB x.a own=d at *
  generalize x.a=xa at *
  generalize x.b=xb at *
  generalize x.op=xo at *
  clear f
  go_enter Tryz.func125,Tryz.ntmps125
  go_wp2_with fail
  rw[<-h.out]
  clear h
  refine L.out.mono ?_
  rintro e wq⟨rfl,F⟩
  rw[F]
  clear F
  go_wp2_with fail
  go_ret
  exact⟨by rw[k.out];rfl,m.out⟩
 ·have D:(x.b==-1)=false:=by simpa using f
  have p:Hid (∀W,Calls Tryz.prog 64 #[.int .i64 x.b,.int .i64 (O.uses.length:Int)] W fun e w'=>e=.returned (.bool (Ob.countsB x.b O.uses.length))/\w'=W):=fun W=>yS W x.b O.uses.length
  by_cases j:Ob.countsB x.b O.uses.length=true
  ·have R:0<=x.b/\x.b<(O.uses.length:Int):=by
    simp only[Ob.countsB,Bool.and_eq_true,decide_eq_true_eq]at j;exact j
   obtain⟨i,A⟩:∃i:Nat,x.b=(i:Int):=⟨x.b.toNat,by omega⟩
   have E:i<O.uses.length:=by omega
   have k:Hid (Ob.reachB O x own=Ob.countsB x.a O.uses[i].names.length):=by
    show _=_
    unfold Ob.reachB
    rw[if_neg f,j,Bool.true_and,A,Int.toNat_natCast,List.getElem?_eq_getElem E]
    rfl
   have P:=j
   obtain⟨a8,C,I⟩:=y.out
   obtain⟨J,K,q0,Y,G,Z⟩:=RepN.get _ _ C i E
   obtain⟨a0,a2,H,_,B⟩:=I
   cases H
   obtain⟨g,Q,rfl,v⟩:=B _ _ G
   have e2:c.cell? ⟨g,Q+i*3+2,none⟩=some (.slice J O.uses[i].names.length K):=v
   have a4:=zg v
   have a1:(i:Int)<(O.uses.length:Int):=by omega
   have a5:(0:Int)<=(i:Int):=by omega
   generalize Ob.reachB O x own=r at *
   obtain⟨d,hd⟩:∃d,Ob.countsB x.a O.uses[i].names.length=d:=⟨_,rfl⟩
   rw[hd]at k
   generalize O.uses[i].names.length=nn at *
   generalize x.a=xa at *
   generalize x.op=xo at *
   clear f j R B p q0 Y G Z v C y
   rw[A]at P S D h ⊢
   clear A
   cases d
   all_goals
    go_enter Tryz.func125,Tryz.ntmps125
    go_wp2_with fail
    rw[<-h.out]
    clear h
    go_quiet ((go_at_call 64;exact Calls.quiet_of_same (yS _ _ _)))
    go_wp2_with fail
    go_ret
    exact⟨by rw[k.out];rfl,m.out.trans ((below_drewN _ _).mono m.out.size)⟩
  ·have t:Ob.countsB x.b O.uses.length=false:=by simpa using j
   have k:Hid (Ob.reachB O x own=false):=by
    show _=_
    unfold Ob.reachB
    rw[if_neg f,t,Bool.false_and]
   rw[t]at p
   generalize Ob.reachB O x own=r at *
   generalize x.a=xa at *
   generalize x.op=xo at *
   generalize x.b=xb at *
   clear f j t y
   go_enter Tryz.func125,Tryz.ntmps125
   go_wp2_with fail
   rw[<-h.out]
   clear h
   go_quiet ((go_at_call 64;exact Calls.quiet_of_same (p.out _)))
   go_wp2_with fail
   go_ret
   exact⟨by rw[k.out];rfl,m.out.trans ((below_drewN _ _).mono m.out.size)⟩
end Go.Proofs.YtbkndnmglhghlaaGreatDoor.Jo
