import Derived.Test.YtbkndnmglhghlaaGreatDoorKIf
import Derived.Laws.CopyOwn
set_option maxRecDepth 100000
set_option maxHeartbeats 4000000

namespace Go.Proofs.YtbkndnmglhghlaaGreatDoor.Jo
open Go.RowKit Go.Maps
open Ob (O In I64)
open Tp (Bs)
variable {n:Bs}{l:List Bs}{a:Option Addr}{w:World}
def ix8 (l:List Bs) (n:Bs):Int:=match l.findIdx? (fun s=>s==n) with
 |some i=>(i:Int)
 |none=>-1
theorem ix8_at {i:Nat}(b:i<l.length)(h:l[i]=n)(a:∀k (hk:k<l.length),k<i->l[k]≠n):ix8 l n=(i:Int):=by
 unfold ix8
 have:l.findIdx? (fun s=>s==n)=some i:=by
  rw[List.findIdx?_eq_some_iff_getElem]
  exact⟨b,by simpa using h,fun j c=>by simpa using a j (by omega) c⟩
 rw[this]
theorem ix8_no (a:∀k (hk:k<l.length),l[k]≠n):ix8 l n=-1:=by
 unfold ix8
 have:l.findIdx? (fun s=>s==n)=none:=by
  rw[List.findIdx?_eq_none_iff]
  intro x c
  obtain⟨j,b,rfl⟩:=List.getElem_of_mem c
  have:=a j b
  simpa using this
 rw[this]
theorem sl_str {c:Nat}(h:Sl w (.slice a l.length c) 1 l.length (cellsOf stC l))(i:Nat)(f:i<l.length):∃g o,a=some ⟨g,o,none⟩/\g<w.heap.size/\w.cell? ⟨g,o+i,none⟩=some (.string (bs l[i])):=by
 obtain⟨g,o,e,b,d⟩:=Sl.at' xu (by omega) h i f
 exact⟨g,o,e,b,by simpa using d 0 _ rfl⟩
theorem index8 {cap:Nat}(s:Sl w (.slice a l.length cap) 1 l.length (cellsOf stC l))(H:l.length<=1000000)(x:Bs) :
  Calls Tryz.prog 98 #[.slice a l.length cap,.string (bs x)] w fun e w'=>e=.returned (.int .i64 (ix8 l x))/\w'=w:=by
 have A:(l.length:Int)<=1000000:=by omega
 have u:=zh s
 clear s
 obtain⟨b,j⟩:∃b,b=l.length:=⟨_,rfl⟩
 rw[<-j]at A ⊢
 have p:=zh j
 clear j
 go_enter Tryz.func98,Tryz.ntmps98
 go_wp2_with fail
 go_loopg [8] b (fun k C wr=>∃i:Nat,i<=b/\k=b-i/\C=.int .i64 (i:Int)/\Hid (∀k (c:k<l.length),k<i->l[k]≠x)/\wr=w)
 case atStart=>exact⟨0,by omega,by omega,rfl,fun k _ h=>by omega,rfl⟩
 case round =>
  obtain⟨i,E,c,rfl,n,rfl⟩:=hrel
  by_cases F:i<b
  ·have t:(i:Int)<(b:Int):=by omega
   have r:i<l.length:=by have:=p.out;omega
   obtain⟨g,o,rfl,D,G⟩:=sl_str u.out i r
   obtain⟨d,hd⟩:∃d,((bs x).toList==(bs l[i]).toList)=d:=⟨_,rfl⟩
   have v:((bs l[i]).toList==(bs x).toList)=d:=by
    rw[<-hd,Bool.eq_iff_iff,beq_iff_eq,beq_iff_eq]
    exact eq_comm
   have f:Hid (d=true↔l[i]=x):=by
    show _↔_
    rw[<-v,zk,zk,beq_iff_eq]
   cases d with
   |true =>
    have m:Hid (ix8 l x=(i:Int)):=ix8_at r (f.out.1 rfl) n.out
    clear f
    generalize bs l[i]=y at *
    go_wp2_with fail
    go_ret
    exact⟨congrArg (fun z=>Ending.returned (Value.int .i64 z)) m.out.symm,rfl⟩
   |false =>
    have B:Hid (∀k (c:k<l.length),k<i+1->l[k]≠x):=fun k c h=>by
     by_cases e:k=i
     ·subst e;intro q;have:=f.out.2 q;cases this
     ·exact n.out k c (by omega)
    clear f
    generalize bs l[i]=y at *
    go_wp2_with fail
    go_roundg (b-(i+1))
    case measure=>omega
    case rel=>exact⟨i+1,by omega,rfl,by go_num,B,rfl⟩
  ·have t:¬(i:Int)<(b:Int):=by omega
   have m:Hid (ix8 l x=-1):=ix8_no fun k c=>n.out k c (by have:=p.out;omega)
   go_wp2_with fail
   go_ret
   exact⟨congrArg (fun z=>Ending.returned (Value.int .i64 z)) m.out.symm,rfl⟩
theorem proc8 {c:Vx}{W:World}{s:Vm.St}{vv:List (List Int)}{g sv j:Value}(h:MM c W s vv g sv j)(ok:VxOk c)(x:Bs)(b:c.O.names.length<=1000000) :
  Calls Tryz.prog 46 #[.pointer (some ⟨c.pb,0,none⟩),.string (bs x)] W fun e f=>e=.returned (.int .i64 (ix8 c.O.names x))/\f=W:=by
 have p:W.cell? ⟨c.pb,0,none⟩=some (.pointer (some ⟨c.ob,c.oo,none⟩)):=(za h.pk).trans rfl
 have l:=zc h.pk
 obtain⟨v,w,z,t,q,m,sc,y,A,u,r,o,a⟩:=ok.oa.below h.be
 have i:=a.c5
 have k:=zg i
 have d:=zh (index8 a.n b x)
 clear h ok a b
 go_enter Tryz.func46,Tryz.ntmps46
 go_wp2_with fail
 refine d.out.mono ?_
 rintro e B⟨rfl,rfl⟩
 go_wp2_with fail
 go_ret
 exact⟨rfl,rfl⟩
end Go.Proofs.YtbkndnmglhghlaaGreatDoor.Jo

namespace Go.Proofs.YtbkndnmglhghlaaGreatDoor.Jo
open Go.RowKit Go.Maps
open Ob (O In I64)
variable {l:List Ob.Sm}{n:List UInt8}{c:Nat}{a:Option Addr}{w:World}
theorem bs_inj8 {a b:List UInt8}(h:bs a=bs b):a=b:=by
 have:=congrArg (fun x:ByteArray=>x.data.toList) h
 simpa[bs] using this
theorem find1_8 (s:Ob.Sm)(n:List UInt8)(W:World)(a:Nat)(b:W.cell? ⟨a,0,none⟩=some (.string (bs n))) :
  Calls Tryz.prog 97 #[.agg #[.string (bs s.name),.int .i64 s.len,.int .i64 s.args],.pointer (some ⟨a,0,none⟩)] W fun e w'=>e=.returned (.bool (decide (s.name=n)))/\Below W.heap.size W w':=by
 obtain⟨nm,f,x2⟩:=s
 simp only
 have c:=World.block_lt_of_cell? _ _ b
 by_cases h:nm=n
 ·subst h
  go_enter Tryz.func97,Tryz.ntmps97
  go_wp2_with fail
  go_ret
  exact⟨by simp,zb _ _⟩
 ·have d:¬bs nm=bs n:=fun e=>h (bs_inj8 e)
  go_enter Tryz.func97,Tryz.ntmps97
  go_wp2_with fail
  go_ret
  exact⟨by simp[h,zk],zb _ _⟩
def fx8 (l:List Ob.Sm) (n:List UInt8):Int:=match l.findIdx? (fun s=>s.name==n) with
 |some i=>(i:Int)
 |none=>-1
theorem fx8_at {i:Nat}(b:i<l.length)(h:l[i].name=n)(a:∀k (hk:k<i),l[k].name≠n):fx8 l n=(i:Int):=by
 unfold fx8
 have:l.findIdx? (fun s=>s.name==n)=some i:=by
  rw[List.findIdx?_eq_some_iff_getElem]
  exact⟨b,by simpa using h,fun j c=>by simpa using a j c⟩
 rw[this]
theorem fx8_no (b:∀k (a:k<l.length),l[k].name≠n):fx8 l n=-1:=by
 unfold fx8
 have:l.findIdx? (fun s=>s.name==n)=none:=by
  rw[List.findIdx?_eq_none_iff]
  intro x c
  obtain⟨k,a,rfl⟩:=List.getElem_of_mem c
  simpa using b k a
 rw[this]
theorem ut (h:Sl w (.slice a l.length c) 3 l.length (cellsOf smC l))(U:l.length<=1000)(n:List UInt8)(q:Nat)(f:w.cell? ⟨q,0,none⟩=some (.string (bs n))) :
  Calls Tryz.prog 32 #[.slice a l.length c,.func (.func 97) #[] #[.pointer (some ⟨q,0,none⟩)]] w fun e w'=>e=.returned (.int .i64 (fx8 l n))/\Below w.heap.size w w':=by
 have K:(l.length:Int)<=1000:=by omega
 have D:=World.block_lt_of_cell? _ _ f
 have H:=zh h
 have M:=zh f
 obtain⟨d,s⟩:∃d,d=l.length:=⟨_,rfl⟩
 rw[<-s]at K ⊢
 have A:=zh s
 clear h s f
 go_enter Tryz.func32,Tryz.ntmps32
 go_wp2_with fail
 go_loopg [8] d (fun k O wr=>∃i:Nat,i<=d/\k=d-i/\O=.int .i64 (i:Int)/\Hid (∀k (b:k<l.length),k<i->l[k].name≠n)/\Hid (Below w.heap.size w wr))
 case atStart=>exact⟨0,by omega,by omega,rfl,fun k _ b=>by omega,Below.refl _ _⟩
 case round =>
  obtain⟨i,Q,b,rfl,t,m⟩:=hrel
  by_cases J:i<d
  ·have C:(i:Int)<(d:Int):=by omega
   have z:i<l.length:=by have:=A.out;omega
   obtain⟨g,o,rfl,I,x⟩:=Sl.at' xv (by omega) H.out i z
   have f:=fun j u (hj:(smC l[i])[j]?=some u)=>(m.out.cell (p:=⟨g,o+(i*3+j),none⟩) I).trans (x j u hj)
   have R:wr.cell? ⟨g,o+i*3,none⟩=some (.string (bs l[i].name)):=f 0 _ rfl
   have S:wr.cell? ⟨g,o+i*3+1,none⟩=some (.int .i64 l[i].len):=by simpa[Nat.add_assoc] using f 1 _ rfl
   have T:wr.cell? ⟨g,o+i*3+2,none⟩=some (.int .i64 l[i].args):=by simpa[Nat.add_assoc] using f 2 _ rfl
   have P:g<wr.heap.size:=by have:=m.out.size;omega
   have N:=zh (find1_8 l[i] n wr q ((m.out.cell (p:=⟨q,0,none⟩) D).trans M.out))
   have E:Hid (l[i].name=n->fx8 l n=(i:Int)):=fun e=>fx8_at z e (fun k b=>t.out k (by omega) b)
   have G:Hid (¬l[i].name=n->∀k (b:k<l.length),k<i+1->l[k].name≠n):=by
    intro L k b J
    by_cases e:k=i
    ·subst e;exact L
    ·exact t.out k b (by omega)
   clear f x
   generalize l[i].name=x0 at *
   generalize l[i].len=x1 at *
   generalize l[i].args=x2 at *
   go_wp2_with fail
   refine N.out.mono ?_
   rintro e V⟨rfl,B⟩
   have y:=zh (m.out.trans (B.mono m.out.size))
   clear B
   by_cases r:x0=n
   ·rw[decide_eq_true r]
    have v:=E.out r
    go_wp2_with fail
    go_ret
    exact⟨by first|rfl|(rw[v];rfl),y.out⟩
   ·rw[decide_eq_false r]
    have F:=zh (G.out r)
    go_wp2_with fail
    go_roundg (d-(i+1))
    case measure=>omega
    case rel=>exact⟨i+1,by omega,rfl,by go_num,F,y⟩
  ·have C:¬(i:Int)<(d:Int):=by omega
   have v:fx8 l n=-1:=fx8_no (fun k b=>t.out k b (by have:=A.out;omega))
   go_wp2_with fail
   go_ret
   exact⟨by first|rfl|(rw[v];rfl),m.out⟩
theorem find8 (h:Sl w (.slice a l.length c) 3 l.length (cellsOf smC l))(j:l.length<=1000)(n:List UInt8) :
  Calls Tryz.prog 45 #[.slice a l.length c,.string (bs n)] w fun e w'=>e=.returned (.int .i64 (fx8 l n))/\Below w.heap.size w w':=by
 have k:=zm
 have b:Below w.heap.size w (w.alloc (.cells #[.string (bs n)] 9)):=zb _ _
 have i:=zh (ut (h.below b) j n w.heap.size (za (zl _ _)))
 have f:=zh b
 clear h
 generalize l.length=ln at *
 go_enter Tryz.func45,Tryz.ntmps45
 go_wp2_with fail
 refine i.out.mono ?_
 rintro e m⟨rfl,d⟩
 have g:=zh (f.out.trans (d.mono (by simp)))
 clear d
 go_wp2_with fail
 go_ret
 exact⟨rfl,g.out⟩
end Go.Proofs.YtbkndnmglhghlaaGreatDoor.Jo

namespace Go.Proofs.YtbkndnmglhghlaaGreatDoor.Jo
open Go.RowKit Go.Maps
open Ob (O In I64)
open Vm (St Fr Pl)
def toldS (s:Vm.St):Int:=if s.way=1 then s.stack.headD 0 else 0
theorem told8 {c:Vx}{W:World}{s:Vm.St}(h:MV c W s) :
  Calls Tryz.prog 48 #[.pointer (some ⟨c.gb,0,none⟩)] W fun e x=>e=.returned (.int .i64 (toldS s))/\Below W.heap.size W x:=by
 obtain⟨vv,I,sv,J,d,f⟩:=h
 obtain⟨z,sc,w⟩:=z7 d.st
 subst w
 have q:W.cell? ⟨c.gb,3,none⟩=some (.slice z s.stack.length sc):=(za f).trans rfl
 have t:W.cell? ⟨c.gb,5,none⟩=some (.int .i64 (s.way:Int)):=(za f).trans rfl
 have C:=zc f
 have j:=d.sl
 by_cases b:s.way=1
 ·by_cases g:s.stack.length=0
  ·have a:toldS s=0:=by
    unfold toldS
    rw[if_pos b,List.length_eq_zero_iff.1 g]
    rfl
   rw[a]
   rw[b]at t
   rw[g]at q
   clear d f b g a j
   go_enter Tryz.func48,Tryz.ntmps48
   go_wp2_with fail
   go_ret
   exact⟨rfl,Below.refl _ _⟩
  ·obtain⟨n,r,i⟩:∃n r,s.stack=n :: r:=by
    cases y:s.stack with
    |nil=>rw[y]at g;simp at g
    |cons n r=>exact⟨n,r,rfl⟩
   have a:toldS s=n:=by
    unfold toldS
    rw[if_pos b,i]
    rfl
   have p:s.stack.length=r.length+1:=by rw[i];rfl
   have o:=d.st
   obtain⟨A,G,u,_,E,v,l⟩:=ju o (by omega)
   cases u
   have k:=l r.length (by omega)
   rw[i,List.reverse_cons,kX,List.getElem?_append_right (by simp[ints]),show r.length-(ints r.reverse).length=0 by simp[ints]]at k
   have k:W.cell? ⟨A,r.length,none⟩=some (.int .i64 n):=k
   rw[a]
   rw[b]at t
   rw[p]at q j v
   clear d f b g a p i o l
   generalize r.length=m at *
   have d:(m:Int)<=10000:=by omega
   have D:¬((m:Int)+1=0):=by omega
   have H:((m+1:Nat):Int)=(m:Int)+1:=by omega
   have B:(m:Int)<(sc:Int):=by omega
   go_enter Tryz.func48,Tryz.ntmps48
   go_wp2_with fail
   go_quiet (fail)
   go_wp2_with fail
   go_ret
   exact⟨rfl,below_drewN W nq⟩
 ·have a:toldS s=0:=by
   unfold toldS
   rw[if_neg b]
  have F:¬((s.way:Int)=1):=by omega
  rw[a]
  clear d f b a j
  go_enter Tryz.func48,Tryz.ntmps48
  go_wp2_with fail
  go_ret
  exact⟨rfl,Below.refl _ _⟩
end Go.Proofs.YtbkndnmglhghlaaGreatDoor.Jo

namespace Go.Proofs.YtbkndnmglhghlaaGreatDoor.Jo
open Go.RowKit Go.Maps
open Ob (O In I64)
variable {l:List Int}{i r:Nat}{o:O}{sp:Option Addr}{W:World}
def Args8 (W:World) (sp:Option Addr) (l:List Int):Prop:=0<l.length->∃ad,sp=some ad/\ad.spot=none/\ad.block<W.heap.size/\∀j v,(ints l)[j]?=some v->W.cell? (ad.add j)=some v
theorem args_on {w:World}(h:Args8 W sp l)(g:Below W.heap.size W w):0<(ints l).length->∃a,sp=some a/\∀j v,(ints l)[j]?=some v->w.cell? (a.add j)=some v:=fun k=>by
 obtain⟨a,d,c,e,f⟩:=h (by simpa[ints] using k)
 refine⟨a,d,fun j v i=>?_⟩
 obtain⟨b,o,q⟩:=a
 have c:q=none:=c
 subst c
 rw[<-f j v i,Addr.add_lit]
 exact g.cell (p:=⟨b,o+j,none⟩) e
def argF (o:O) (a m:Nat) (l:List Int):Vm.Fr:=⟨o.name,a,0,m,l++zeros (10-l.length)⟩
def sA (o:O) (vv:List (List Int)) (a m:Nat) (l:List Int):Vm.St:=s9 o vv (argF o a m l)
theorem args_len (h:l.length<=10):(l++zeros (10-l.length)).length=10:=by
 simp[zeros]
 omega
theorem vZ (a b x2 x3:Value)(l:List Int)(h:l.length<=10):splice ([a,b,x2,x3]++ints (zeros 10)) 4 (ints l)=[a,b,x2,x3]++ints (l++zeros (10-l.length)):=by
 unfold splice
 rw[List.take_left' (by rfl),List.drop_append,List.drop_eq_nil_of_le (by simp)]
 have e:∀n,ints (zeros n)=List.replicate n (.int .i64 0):=fun n=>by simp[ints,zeros]
 have c:ints (l++zeros (10-l.length))=ints l++ints (zeros (10-l.length)):=by simp[ints]
 rw[c,e,e,List.drop_replicate,List.nil_append,show 10-(4+(ints l).length-[a,b,x2,x3].length)=10-l.length by rw[jw];show 10-(4+l.length-4)=_;omega]
def ar4 (c:Vx) (a m:Nat):List Value:=[.pointer (some ⟨c.pb,0,none⟩),.int .i64 (a:Int),.int .i64 0,.int .i64 (m:Int)]
def CallP8 (c:Vx) (a m:Nat) (l:List Int) (vv:List (List Int)) (fuel:Nat) (e:Ending) (W':World):Prop:=∃gb oa oc,e=.returned (.tuple #[.agg #[.int .i64 ((Vm.goes 30 fuel (sA c.O vv a m l)).way:Int),.slice oa (Vm.goes 30 fuel (sA c.O vv a m l)).out.length oc],.int .i64 (toldS (Vm.goes 30 fuel (sA c.O vv a m l))),.nilIface])/\VxOk (c.call gb 30)/\MV (c.call gb 30) W' (Vm.goes 30 fuel (sA c.O vv a m l))/\W'.ownsRow (gb+1) 2 1 (.slice oa (Vm.goes 30 fuel (sA c.O vv a m l)).out.length oc) (Vm.goes 30 fuel (sA c.O vv a m l)).out.length (ints (Vm.goes 30 fuel (sA c.O vv a m l)).out)
theorem call8 {c:Vx}{s:Vm.St}{vv:List (List Int)}{fv sv ov:Value}{mb j at' many:Nat}{lc:Nat}{x:Tp.Bs}(h:MM c W s vv fv sv ov)(ok:VxOk c)(hG:G8 c W fv sv ov s.way)(n2:c.vb<W.heap.size)
  (hm:W.heap[mb]?=some (.cells #[.map (some c.tb)] 28 (0,0)))(e4:MapV W c.tb 1 (updV (fun _=>none) c.O.name (.pointer (some ⟨c.pb,0,none⟩))))(m6:c.O.name.length<=1000000)(n0:c.O.syms.length<=1000)(m7:c.O.names.length<=1000000)
  (hx:fx8 c.O.syms x=(i:Int))(hi:i<c.O.syms.length)(p7:c.O.syms[i].args=(l.length:Int))(hy:ix8 c.O.names x=(j:Int))(hj:j<c.O.procs.length)(p8:c.O.procs[j].args=(l.length:Int))(p4:c.O.procs[j].at'=(at':Int))(o2:c.O.procs[j].locals=(many:Int))
  (ha:Args8 W sp l)(hl:l.length<=10)(i3:∀v∈l,I64 v)(m4:many<=10)(g5:at'<c.O.code.length)(b0:Nat)(m2:b0<=1000000) :
  Calls Tryz.prog 22 #[.pointer (some ⟨mb,0,none⟩),.string (bs c.O.name),.string (bs x),.slice sp l.length lc,.int .i64 (b0:Int)] W (CallP8 c at' many l vv b0):=by
 obtain⟨A,d8⟩:∃A,A=W.alloc (.cells #[.int .i64 0,.slice none 0 0] 31):=⟨_,rfl⟩
 have b7:Below W.heap.size W A:=by rw[d8];exact zb _ _
 have c8:=(b7.block _ (zc hm)).trans hm
 have g3:=e4.on (b7.block _ e4.lt)
 have r3:(Instr.lookup 26 (.map (some c.tb)) (.string (bs c.O.name)) false).run Tryz.prog A=.ok (.pointer (some ⟨c.pb,0,none⟩)) A:=by
  have:=g3.look (t:=26) (e:=75) Tryz.underlying26 (z:=.pointer none) (by kernel_rfl) c.O.name m6 false
  simp[updV]at this
  exact this
 have k0:A.cell? ⟨mb,0,none⟩=some (.map (some c.tb)):=(za c8).trans rfl
 have r4:mb<A.heap.size:=zc c8
 have f7:=(b7.block _ (zc h.pk)).trans h.pk
 have kp:A.cell? ⟨c.pb,0,none⟩=some (.pointer (some ⟨c.ob,c.oo,none⟩)):=(za f7).trans rfl
 have r7:c.pb<A.heap.size:=zc f7
 obtain⟨sa,ua,va,pa,na,ca,sc,uc,vc,pc,nc,cc,hv⟩:=ok.oa.below (h.be.trans (b7.mono h.be.size))
 have k1:=hv.c1
 have r6:c.ob<A.heap.size:=zg k1
 have e8:=zh (find8 hv.s n0 x)
 rw[hx]at e8
 have M:=zh h
 have F:=zh ok
 have HG:=zh hG
 have h7:=zh n2
 have d5:Hid (A.heap[W.heap.size]?=some (.cells #[.int .i64 0,.slice none 0 0] 31 (0,0))):=by rw[d8];exact zl _ _
 have g4:Hid (∀w,Below W.heap.size W w->0<(ints l).length->∃ad,sp=some ad/\∀j v,(ints l)[j]?=some v->w.cell? (ad.add j)=some v):=fun w hb=>args_on ha hb
 have g8:=zh i3
 have d2:=zh (And.intro g5 m4)
 obtain⟨N,P,Q,R,T,U,V,X,Y,Z,g7⟩:=ten (args_len hl)
 have e3:=zh g7
 have p3:=zh hl
 have s5:Hid ((ints l).length=l.length):=jw l
 have t7:(l.length:Int)<=10:=by omega
 have e2:Hid (W.heap[mb]?=some (.cells #[.map (some c.tb)] 28 (0,0))):=hm
 clear ha i3 g7 g5 m4
 have E:=zh b7
 have h5:Hid (∀w,Below W.heap.size W w->MM c w s vv fv sv ov):=fun w hb=>h.below ok hG hb
 have h6:Hid (∀w,Below W.heap.size W w->Calls Tryz.prog 46 #[.pointer (some ⟨c.pb,0,none⟩),.string (bs x)] w fun e W'=>e=.returned (.int .i64 (j:Int))/\W'=w):=fun w hb=>by
  have:=proc8 (h.below ok hG hb) ok x m7
  rw[hy]at this
  exact this
 have g9:Hid (∀w,Below W.heap.size W w->Calls Tryz.prog 47 #[.pointer (some ⟨c.pb,0,none⟩),.int .i64 (j:Int)] w fun e W'=>e=.returned (.agg #[.pointer (some ⟨c.pb,0,none⟩),.int .i64 (at':Int),.int .i64 0,.int .i64 (many:Int),.int .i64 0,.int .i64 0,.int .i64 0,.int .i64 0,.int .i64 0,.int .i64 0,.int .i64 0,.int .i64 0,.int .i64 0,.int .i64 0])/\Below w.heap.size w W'):=fun w hb=>entered8 (h.below ok hG hb) ok hj at' many p4 o2
 clear h ok b7 hm c8 e4 g3 hv f7
 go_enter Tryz.func22,Tryz.ntmps22
 go_upto_region 1 with fail
 rw[<-d8]
 clear d8
 go_wp2_with fail
 refine e8.out.mono ?_
 rintro e w1⟨rfl,f4⟩
 have c2:Hid (Below A.heap.size A w1):=f4
 have b8:Below W.heap.size W w1:=E.out.trans (f4.mono E.out.size)
 have e5:=(b8.block _ (zc M.out.pk)).trans M.out.pk
 have r9:w1.cell? ⟨c.pb,0,none⟩=some (.pointer (some ⟨c.ob,c.oo,none⟩)):=(za e5).trans rfl
 have o5:c.pb<w1.heap.size:=zc e5
 obtain⟨aI,aM,aQ,aE,aA,s8,aK,aO,aS,aG,aC,t0,f8⟩:=F.out.oa.below (M.out.be.trans (b8.mono M.out.be.size))
 have n4:=f8.c1
 have o4:c.ob<w1.heap.size:=zg n4
 obtain⟨sb,so,rfl,t8,m9⟩:=Sl.at' xv (by omega) f8.s i hi
 have ks:w1.cell? ⟨sb,so+i*3+2,none⟩=some (.int .i64 (l.length:Int)):=by
  have:=m9 2 _ rfl
  rw[p7]at this
  simpa[Nat.add_assoc] using this
 have t4:(i:Int)<(c.O.syms.length:Int):=by omega
 have t3:¬(i:Int)<0:=by omega
 clear f4 b8 e5 f8 m9 r3 k0 kp k1 r4 r7 r6
 go_wp2_with fail
 refine(h6.out w1 (E.out.trans (c2.out.mono E.out.size))).mono ?_
 rintro e w2⟨rfl,rfl⟩
 have b8:Below W.heap.size W w2:=E.out.trans (c2.out.mono E.out.size)
 obtain⟨aJ,aN,aR,aF,aB,s9,aL,aP,aT,aH,aD,t1,f9⟩:=F.out.oa.below (M.out.be.trans (b8.mono M.out.be.size))
 have r8:=f9.c4
 obtain⟨s0,s1,rfl,s4,m8⟩:=Sl.at' xO (by omega) f9.p j hj
 have kj:w2.cell? ⟨s0,s1+j*3+1,none⟩=some (.int .i64 (l.length:Int)):=by
  have:=m8 1 _ rfl
  rw[p8]at this
  simpa[Nat.add_assoc] using this
 have t6:(j:Int)<(c.O.procs.length:Int):=by omega
 have t5:¬(j:Int)<0:=by omega
 clear b8 f9 m8
 go_wp2_with fail
 refine(g9.out w2 (E.out.trans (c2.out.mono E.out.size))).mono ?_
 rintro e k⟨rfl,i4⟩
 have d3:Hid (Below A.heap.size A k):=c2.out.trans (i4.mono c2.out.size)
 have b6:Below W.heap.size W k:=E.out.trans (d3.out.mono E.out.size)
 clear i4 b6 kj r8 o4 o5 r9 n4 ks
 have p1:=zh m2
 clear m2 m7 n0 m6 n2 hG
 go_upto_region 11 with fail
 obtain⟨w4,d9⟩:∃w4,w4=k.alloc (.cells #[.pointer (some ⟨c.pb,0,none⟩),.int .i64 (at':Int),.int .i64 0,.int .i64 (many:Int),.int .i64 0,.int .i64 0,.int .i64 0,.int .i64 0,.int .i64 0,.int .i64 0,.int .i64 0,.int .i64 0,.int .i64 0,.int .i64 0] 81):=⟨_,rfl⟩
 have m0:w4.heap[k.heap.size]?=some (.cells (ar4 c at' many++ints (zeros 10)).toArray 81 (0,0)):=by rw[d9];exact(zl _ _).trans rfl
 have f5:Below k.heap.size k w4:=by rw[d9];exact zb _ _
 have b6:Below W.heap.size W k:=E.out.trans (d3.out.mono E.out.size)
 have i8:(ints l).length=Nat.min l.length 10:=by rw[jw];exact(Nat.min_eq_left hl).symm
 have i9:0<(ints l).length->∃ad,sp=some ad/\∀j v,(ints l)[j]?=some v->w4.cell? (ad.add j)=some v:=fun q=>g4.out w4 (b6.trans (f5.mono b6.size)) q
 have i7:4+(ints l).length<=(ar4 c at' many++ints (zeros 10)).length:=by rw[jw];show 4+l.length<=14;omega
 have i6:∀v∈ints l,v.oneCell'=true:=fun v hv=>by
  simp only[ints,List.mem_map]at hv
  obtain⟨n,_,rfl⟩:=hv
  rfl
 have HS:Hid (splice (ar4 c at' many++ints (zeros 10)) 4 (ints l)=ar4 c at' many++ints (l++zeros (10-l.length))):=vZ _ _ _ _ l hl
 rw[<-d9]
 have o3:=zh f5
 have h8:=zh b6
 have p0:=zh m0
 have o8:=zh i8
 have o9:=zh i9
 have o7:=zh i7
 have o6:=zh i6
 clear d9 m0 f5 b6 i8 i9 i7 i6 g4 hl
 go_wp2_with (refine wpList_copy_splice rfl (.tmp 99) (.tmp 100) 29 29 rfl 2 Tryz.underlying29 (by kernel_rfl) (some ⟨k.heap.size,4,none⟩) sp 10 10 l.length lc rfl rfl k.heap.size 4 _ 81 p0.out (ints l) o8.out (fun q=>⟨rfl,o9.out q⟩) o7.out o6.out k.heap.size k o3.out zn ?_)
 intro a p2 d6
 have c3:Hid (Below W.heap.size W a):=h8.out.trans (d6.mono h8.out.size)
 have B:=p2.out
 rw[HS.out,e3.out]at B
 have y0:a.cell? ⟨k.heap.size,0,none⟩=some (.pointer (some ⟨c.pb,0,none⟩)):=(za B).trans rfl
 have y1:a.cell? ⟨k.heap.size,1,none⟩=some (.int .i64 (at':Int)):=(za B).trans rfl
 have y2:a.cell? ⟨k.heap.size,2,none⟩=some (.int .i64 0):=(za B).trans rfl
 have y3:a.cell? ⟨k.heap.size,3,none⟩=some (.int .i64 (many:Int)):=(za B).trans rfl
 have y4:a.cell? ⟨k.heap.size,4,none⟩=some (.int .i64 N):=(za B).trans rfl
 have y5:a.cell? ⟨k.heap.size,5,none⟩=some (.int .i64 P):=(za B).trans rfl
 have y6:a.cell? ⟨k.heap.size,6,none⟩=some (.int .i64 Q):=(za B).trans rfl
 have y7:a.cell? ⟨k.heap.size,7,none⟩=some (.int .i64 R):=(za B).trans rfl
 have y8:a.cell? ⟨k.heap.size,8,none⟩=some (.int .i64 T):=(za B).trans rfl
 have y9:a.cell? ⟨k.heap.size,9,none⟩=some (.int .i64 U):=(za B).trans rfl
 have n8:a.cell? ⟨k.heap.size,10,none⟩=some (.int .i64 V):=(za B).trans rfl
 have n9:a.cell? ⟨k.heap.size,11,none⟩=some (.int .i64 X):=(za B).trans rfl
 have o0:a.cell? ⟨k.heap.size,12,none⟩=some (.int .i64 Y):=(za B).trans rfl
 have o1:a.cell? ⟨k.heap.size,13,none⟩=some (.int .i64 Z):=(za B).trans rfl
 have fl:k.heap.size<a.heap.size:=zc B
 have m3:=(c3.out.block _ (zc e2.out)).trans e2.out
 have m5:a.cell? ⟨mb,0,none⟩=some (.map (some c.tb)):=(za m3).trans rfl
 have n5:mb<a.heap.size:=zg m5
 obtain⟨S,hS⟩:∃S,S=Vm.goes 30 b0 (sA c.O vv at' many l):=⟨_,rfl⟩
 have m1:FrOk c (argF c.O at' many l):=⟨rfl,args_len p3.out,fun v hv=>by
  rcases List.mem_append.1 hv with q|q
  ·exact g8.out v q
  ·have e:v=0:=by
    unfold zeros at q
    exact List.eq_of_mem_replicate q
   rw[e]
   unfold I64
   omega,d2.out.2,by have:=d2.out.1;have:=zV F.out;show at'<=4000;omega,Nat.zero_le _⟩
 have g6:frC c (argF c.O at' many l)=[.pointer (some ⟨c.pb,0,none⟩),.int .i64 (at':Int),.int .i64 0,.int .i64 (many:Int),.int .i64 N,.int .i64 P,.int .i64 Q,.int .i64 R,.int .i64 T,.int .i64 U,.int .i64 V,.int .i64 X,.int .i64 Y,.int .i64 Z]:=by
  show [Value.pointer (some ⟨c.pb,0,none⟩),.int .i64 (at':Int),.int .i64 ((0:Nat):Int),.int .i64 (many:Int)]++ints (l++zeros (10-l.length))=_
  rw[e3.out]
  rfl
 have d7:c.eb W.heap.size=none:=by
  cases q:c.eb W.heap.size with
  |none=>rfl
  |some o =>
   have:=jo (M.out.ek _ o q).1
   omega
 have e6:=M.out.be.size
 have g2:∀m,Below a.heap.size a m->m.heap[W.heap.size]?=some (.cells #[.int .i64 0,.slice none 0 0] 31 (0,0)):=fun m K=>by
  have i1:Below A.heap.size A k:=d3.out
  have hl:=zc d5.out
  have i2:Below A.heap.size A a:=i1.trans (d6.mono i1.size)
  exact((i2.trans (K.mono i2.size)).block _ hl).trans d5.out
 have d4:Hid (∀(m:World) (gb fb:Nat),Below a.heap.size a m->a.heap.size<=gb->a.heap.size<=fb->m.heap[fb]?=some (.cells #[.pointer (some ⟨c.pb,0,none⟩),.int .i64 (at':Int),.int .i64 0,.int .i64 (many:Int),.int .i64 N,.int .i64 P,.int .i64 Q,.int .i64 R,.int .i64 T,.int .i64 U,.int .i64 V,.int .i64 X,.int .i64 Y,.int .i64 Z] 81 (0,0))->m.heap[gb]?=some (.cells #[.map (some c.tb),.slice (some ⟨fb,0,none⟩) 1 1,.int .i64 30,.slice none 0 0,.slice none 0 0,.int .i64 0] 84 (0,0))->VxOk (c.call gb 30)/\Calls Tryz.prog 26 #[.pointer (some ⟨gb,0,none⟩),.int .i64 (b0:Int)] m (GoP ((c.call gb 30).with (some W.heap.size)) S)):=fun m gb fb K h1 h2 h3 h4=>by
  have p5:Below W.heap.size W m:=c3.out.trans (K.mono c3.out.size)
  have t9:=c3.out.size
  obtain⟨ok,r5⟩:=start9 (gb:=gb) (fb:=fb) (most:=30) (f:=argF c.O at' many l) M.out F.out h7.out p5 (by omega) (by omega) (by omega) (by omega) m1 (by rw[g6];exact h3)
  refine⟨ok,?_⟩
  have L:MV ((c.call gb 30).with (some W.heap.size)) m (sA c.O vv at' many l):=⟨_,_,_,_,r5.with _ (fun x hx=>by cases hx;exact g2 m K),h4⟩
  have:=goes8 L (ok.with _) (inv9 d2.out.1 rfl) b0 p1.out
  rw[hS]
  exact this
 have b9:Hid (∀(gb:Nat) g oa oc,a.heap.size<=gb->VxOk (c.call gb 30)->MV ((c.call gb 30).with (some W.heap.size)) g S->g.ownsRow (gb+1) 2 1 (.slice oa S.out.length oc) S.out.length (ints S.out)->(∀d,Below g.heap.size g d->Calls Tryz.prog 48 #[.pointer (some ⟨gb,0,none⟩)] d fun e W'=>e=.returned (.int .i64 (toldS S))/\Below d.heap.size d W')/\∀d,Below g.heap.size g d->d.heap[W.heap.size]?=some (.cells #[.int .i64 0,.slice none 0 0] 31 (0,0))/\∀C,C=(d.setCell ⟨W.heap.size,0,none⟩ (.int .i64 (S.way:Int))).setCell ⟨W.heap.size,1,none⟩ (.slice oa S.out.length oc)->CallP8 c at' many l vv b0 (.returned (.tuple #[.agg #[.int .i64 (S.way:Int),.slice oa S.out.length oc],.int .i64 (toldS S),.nilIface])) C/\C.cell? ⟨W.heap.size,0,none⟩=some (.int .i64 (S.way:Int))/\C.cell? ⟨W.heap.size,1,none⟩=some (.slice oa S.out.length oc)):=fun gb g oa oc t2 ok L H=>by
  refine⟨fun d h9=>told8 (c:=(c.call gb 30).with (some W.heap.size)) (s:=S) (L.below (ok.with (some W.heap.size)) h9),fun d h9=>?_⟩
  obtain⟨s2,i0,n7,n6,h1,h2⟩:=L.below (ok.with (some W.heap.size)) h9
  have hx:=(h1.ek W.heap.size _ (by show (if some W.heap.size=some W.heap.size then _ else _)=_;rw[if_pos rfl])).1
  refine⟨hx,fun C hz=>?_⟩
  have c8:=h1.without d7
  have p6:G8 (c.call gb 30) d i0 n7 n6 S.way:=h2
  obtain⟨q1,q2⟩:=c8.ebox p6 d7 hx e6 0 (.int .i64 (S.way:Int))
  have n3:=zy 0 (.int .i64 (S.way:Int)) hx
  obtain⟨r1,r2⟩:=q1.ebox q2 d7 n3 e6 1 (.slice oa S.out.length oc)
  have g1:=zy 1 (.slice oa S.out.length oc) n3
  rw[<-hz]at r1 r2 g1
  rw[hS]at H r1 r2 hz ⊢
  refine⟨⟨gb,oa,oc,rfl,ok,⟨s2,i0,n7,n6,r1,r2⟩,?_⟩,?_,?_⟩
  ·refine zB (yP H h9) fun b q0 q1 q2=>?_
   have s3:W.heap.size<=gb:=by have:=c3.out.size;omega
   have i5:b≠W.heap.size:=by
    have:=zL H b q2
    omega
   rw[hz]
   exact(Below.heap_setCell _ _ _ _ (by simpa using i5)).trans (Below.heap_setCell _ _ _ _ (by simpa using i5))
  ·rw[<-hS]
   exact(za g1).trans rfl
  ·rw[<-hS]
   exact(za g1).trans rfl
 have s7:=zh g2
 have s6:Hid (W.heap.size<a.heap.size):=Nat.lt_of_lt_of_le (zc d5.out) (by have:=d3.out.size;have:=d6.size;omega)
 have h0:=zh (And.intro hS h5.out)
 clear d6 B m3 m1 g6 d7 e6 g2 hS M F HG h7 d5 g8 d2 e3 e2 h5 h6 g9 e8
 obtain⟨td,n1⟩:∃td,td=toldS S:=⟨_,rfl⟩
 obtain⟨y,g0⟩:∃y:Nat,y=S.way:=⟨_,rfl⟩
 obtain⟨u,f6⟩:∃u,u=S.out.length:=⟨_,rfl⟩
 rw[<-n1,<-g0,<-f6]at b9
 have b4:=zh (And.intro g0 f6)
 clear n1 g0 f6
 go_upto_region 12 with fail
 go_region
 ·obtain⟨m,I⟩:∃m,m=((a.alloc (.cells #[.pointer (some ⟨c.pb,0,none⟩),.int .i64 (at':Int),.int .i64 0,.int .i64 (many:Int),.int .i64 N,.int .i64 P,.int .i64 Q,.int .i64 R,.int .i64 T,.int .i64 U,.int .i64 V,.int .i64 X,.int .i64 Y,.int .i64 Z] 81)).alloc (.cells #[.map (some c.tb),.slice (some ⟨a.heap.size,0,none⟩) 1 1,.int .i64 30,.slice none 0 0,.slice none 0 0,.int .i64 0] 84)).drew:=⟨_,rfl⟩
  have K:Below a.heap.size a m:=by rw[I];exact((zb _ _).alloc (by simp) _).drew
  have q1:m.heap[a.heap.size]?=some (.cells #[.pointer (some ⟨c.pb,0,none⟩),.int .i64 (at':Int),.int .i64 0,.int .i64 (many:Int),.int .i64 N,.int .i64 P,.int .i64 Q,.int .i64 R,.int .i64 T,.int .i64 U,.int .i64 V,.int .i64 X,.int .i64 Y,.int .i64 Z] 81 (0,0)):=by
   rw[I]
   exact(Below.heap_alloc _ _ _ (by simp)).trans (zl a _)
  have q2:m.heap[a.heap.size+1]?=some (.cells #[.map (some c.tb),.slice (some ⟨a.heap.size,0,none⟩) 1 1,.int .i64 30,.slice none 0 0,.slice none 0 0,.int .i64 0] 84 (0,0)):=by
   have:=zl (a.alloc (.cells #[.pointer (some ⟨c.pb,0,none⟩),.int .i64 (at':Int),.int .i64 0,.int .i64 (many:Int),.int .i64 N,.int .i64 P,.int .i64 Q,.int .i64 R,.int .i64 T,.int .i64 U,.int .i64 V,.int .i64 X,.int .i64 Y,.int .i64 Z] 81)) (.cells #[.map (some c.tb),.slice (some ⟨a.heap.size,0,none⟩) 1 1,.int .i64 30,.slice none 0 0,.slice none 0 0,.int .i64 0] 84)
   rw[show (a.alloc (.cells #[.pointer (some ⟨c.pb,0,none⟩),.int .i64 (at':Int),.int .i64 0,.int .i64 (many:Int),.int .i64 N,.int .i64 P,.int .i64 Q,.int .i64 R,.int .i64 T,.int .i64 U,.int .i64 V,.int .i64 X,.int .i64 Y,.int .i64 Z] 81)).heap.size=a.heap.size+1 by simp]at this
   rw[I]
   exact this
  obtain⟨ok,c7⟩:=d4.out m (a.heap.size+1) (a.heap.size) K (by omega) (by omega) q1 q2
  have c5:=zh (b9.out (a.heap.size+1))
  have c6:Hid (a.heap.size<=a.heap.size+1):=by show _<=_;omega
  rw[<-I]
  generalize a.heap.size+1=gb at *
  generalize a.heap.size=fb at *
  have HG:=zh c7
  have F:=zh ok
  clear I K q1 q2 ok c7
  clear y0 y1 y2 y3 y4 y5 y6 y7 y8 y9 n8 n9 o0 o1 fl m5 n5 d4 b9
  go_wp2_with fail
  refine HG.out.mono ?_
  rintro e g⟨L,oa,oc,rfl,H⟩
  rw[<-b4.out.2]at H
  rw[<-b4.out.1,<-b4.out.2]
  obtain⟨c9,c0⟩:=c5.out g oa oc c6.out F.out L H
  obtain⟨r,b2⟩:∃r,r=g.alloc (.cells #[.int .i64 (y:Int),.slice oa u oc] 31):=⟨_,rfl⟩
  have b1:Below g.heap.size g r:=by rw[b2];exact zb _ _
  have D:r.heap[g.heap.size]?=some (.cells #[.int .i64 (y:Int),.slice oa u oc] 31 (0,0)):=by rw[b2];exact zl _ _
  have e0:r.cell? ⟨g.heap.size,0,none⟩=some (.int .i64 (y:Int)):=(za D).trans rfl
  have e1:r.cell? ⟨g.heap.size,1,none⟩=some (.slice oa u oc):=(za D).trans rfl
  have e9:=zh (c9 r.drew b1.drew)
  have e7:Hid (∀d,Below r.drew.heap.size r.drew d->d.cell? ⟨g.heap.size,0,none⟩=some (.int .i64 (y:Int))/\d.cell? ⟨g.heap.size,1,none⟩=some (.slice oa u oc)/\d.cell? ⟨W.heap.size,0,none⟩=some (.int .i64 0)/\d.cell? ⟨W.heap.size,1,none⟩=some (.slice none 0 0)/\d.frozen? ⟨W.heap.size,0,none⟩=false/\d.frozen? ⟨W.heap.size,1,none⟩=false/\g.heap.size<d.heap.size/\W.heap.size<d.heap.size/\∀C,C=(d.setCell ⟨W.heap.size,0,none⟩ (.int .i64 (y:Int))).setCell ⟨W.heap.size,1,none⟩ (.slice oa u oc)->CallP8 c at' many l vv b0 (.returned (.tuple #[.agg #[.int .i64 (y:Int),.slice oa u oc],.int .i64 td,.nilIface])) C/\C.cell? ⟨W.heap.size,0,none⟩=some (.int .i64 (y:Int))/\C.cell? ⟨W.heap.size,1,none⟩=some (.slice oa u oc)):=fun d G=>by
   have b5:=(G.block _ (zc D)).trans D
   have f3:Below g.heap.size g d:=b1.drew.trans (G.mono b1.size)
   obtain⟨J,b3⟩:=c0 d f3
   exact⟨(za b5).trans rfl,(za b5).trans rfl,(za J).trans rfl,(za J).trans rfl,zi J,zi J,zc b5,zc J,b3⟩
  have d0:r.drew.cell? ⟨g.heap.size,0,none⟩=some (.int .i64 (y:Int)):=e0
  have d1:r.drew.cell? ⟨g.heap.size,1,none⟩=some (.slice oa u oc):=e1
  have p9:g.heap.size<r.heap.size:=zc D
  clear L H c9 c0 b1 D HG c5 F c6 h0 b4
  go_upto_region 14 with fail
  rw[<-b2]
  clear b2
  go_region_with (go_at_call 48;refine e9.out.mono ?_;rintro e d ⟨rfl,G⟩;obtain⟨x0,x1,r0,r1,z0,z1,l1,l2,b3⟩:=e7.out d G;have f0:=zh b3;clear b3 G)
  all_goals go_wp2_with fail
  all_goals obtain⟨hr,f1,f2⟩:=f0.out _ rfl
  all_goals exact bodyPost_ret (v:=.tuple #[.agg #[.int .i64 (y:Int),.slice oa u oc],.int .i64 td,.nilIface]) (by simp[results,Tryz.results22,go_sem,f1,f2]) rfl hr
 ·obtain⟨m,I⟩:∃m,m=((a.alloc (.cells #[.map (some c.tb),.slice (some ⟨a.heap.size+1,0,none⟩) 1 1,.int .i64 30,.slice none 0 0,.slice none 0 0,.int .i64 0] 84)).alloc (.cells #[.pointer (some ⟨c.pb,0,none⟩),.int .i64 (at':Int),.int .i64 0,.int .i64 (many:Int),.int .i64 N,.int .i64 P,.int .i64 Q,.int .i64 R,.int .i64 T,.int .i64 U,.int .i64 V,.int .i64 X,.int .i64 Y,.int .i64 Z] 81)).drew:=⟨_,rfl⟩
  have K:Below a.heap.size a m:=by rw[I];exact((zb _ _).alloc (by simp) _).drew
  have q1:m.heap[a.heap.size]?=some (.cells #[.map (some c.tb),.slice (some ⟨a.heap.size+1,0,none⟩) 1 1,.int .i64 30,.slice none 0 0,.slice none 0 0,.int .i64 0] 84 (0,0)):=by
   rw[I]
   exact(Below.heap_alloc _ _ _ (by simp)).trans (zl a _)
  have q2:m.heap[a.heap.size+1]?=some (.cells #[.pointer (some ⟨c.pb,0,none⟩),.int .i64 (at':Int),.int .i64 0,.int .i64 (many:Int),.int .i64 N,.int .i64 P,.int .i64 Q,.int .i64 R,.int .i64 T,.int .i64 U,.int .i64 V,.int .i64 X,.int .i64 Y,.int .i64 Z] 81 (0,0)):=by
   have:=zl (a.alloc (.cells #[.map (some c.tb),.slice (some ⟨a.heap.size+1,0,none⟩) 1 1,.int .i64 30,.slice none 0 0,.slice none 0 0,.int .i64 0] 84)) (.cells #[.pointer (some ⟨c.pb,0,none⟩),.int .i64 (at':Int),.int .i64 0,.int .i64 (many:Int),.int .i64 N,.int .i64 P,.int .i64 Q,.int .i64 R,.int .i64 T,.int .i64 U,.int .i64 V,.int .i64 X,.int .i64 Y,.int .i64 Z] 81)
   rw[show (a.alloc (.cells #[.map (some c.tb),.slice (some ⟨a.heap.size+1,0,none⟩) 1 1,.int .i64 30,.slice none 0 0,.slice none 0 0,.int .i64 0] 84)).heap.size=a.heap.size+1 by simp]at this
   rw[I]
   exact this
  obtain⟨ok,c7⟩:=d4.out m (a.heap.size) (a.heap.size+1) K (by omega) (by omega) q2 q1
  have c5:=zh (b9.out (a.heap.size))
  have c6:Hid (a.heap.size<=a.heap.size):=by show _<=_;omega
  rw[<-I]
  generalize a.heap.size=gb at *
  generalize a.heap.size+1=fb at *
  have HG:=zh c7
  have F:=zh ok
  clear I K q1 q2 ok c7
  clear y0 y1 y2 y3 y4 y5 y6 y7 y8 y9 n8 n9 o0 o1 fl m5 n5 d4 b9
  go_wp2_with fail
  refine HG.out.mono ?_
  rintro e g⟨L,oa,oc,rfl,H⟩
  rw[<-b4.out.2]at H
  rw[<-b4.out.1,<-b4.out.2]
  obtain⟨c9,c0⟩:=c5.out g oa oc c6.out F.out L H
  obtain⟨r,b2⟩:∃r,r=g.alloc (.cells #[.int .i64 (y:Int),.slice oa u oc] 31):=⟨_,rfl⟩
  have b1:Below g.heap.size g r:=by rw[b2];exact zb _ _
  have D:r.heap[g.heap.size]?=some (.cells #[.int .i64 (y:Int),.slice oa u oc] 31 (0,0)):=by rw[b2];exact zl _ _
  have e0:r.cell? ⟨g.heap.size,0,none⟩=some (.int .i64 (y:Int)):=(za D).trans rfl
  have e1:r.cell? ⟨g.heap.size,1,none⟩=some (.slice oa u oc):=(za D).trans rfl
  have e9:=zh (c9 r.drew b1.drew)
  have e7:Hid (∀d,Below r.drew.heap.size r.drew d->d.cell? ⟨g.heap.size,0,none⟩=some (.int .i64 (y:Int))/\d.cell? ⟨g.heap.size,1,none⟩=some (.slice oa u oc)/\d.cell? ⟨W.heap.size,0,none⟩=some (.int .i64 0)/\d.cell? ⟨W.heap.size,1,none⟩=some (.slice none 0 0)/\d.frozen? ⟨W.heap.size,0,none⟩=false/\d.frozen? ⟨W.heap.size,1,none⟩=false/\g.heap.size<d.heap.size/\W.heap.size<d.heap.size/\∀C,C=(d.setCell ⟨W.heap.size,0,none⟩ (.int .i64 (y:Int))).setCell ⟨W.heap.size,1,none⟩ (.slice oa u oc)->CallP8 c at' many l vv b0 (.returned (.tuple #[.agg #[.int .i64 (y:Int),.slice oa u oc],.int .i64 td,.nilIface])) C/\C.cell? ⟨W.heap.size,0,none⟩=some (.int .i64 (y:Int))/\C.cell? ⟨W.heap.size,1,none⟩=some (.slice oa u oc)):=fun d G=>by
   have b5:=(G.block _ (zc D)).trans D
   have f3:Below g.heap.size g d:=b1.drew.trans (G.mono b1.size)
   obtain⟨J,b3⟩:=c0 d f3
   exact⟨(za b5).trans rfl,(za b5).trans rfl,(za J).trans rfl,(za J).trans rfl,zi J,zi J,zc b5,zc J,b3⟩
  have d0:r.drew.cell? ⟨g.heap.size,0,none⟩=some (.int .i64 (y:Int)):=e0
  have d1:r.drew.cell? ⟨g.heap.size,1,none⟩=some (.slice oa u oc):=e1
  have p9:g.heap.size<r.heap.size:=zc D
  clear L H c9 c0 b1 D HG c5 F c6 h0 b4
  go_upto_region 14 with fail
  rw[<-b2]
  clear b2
  go_region_with (go_at_call 48;refine e9.out.mono ?_;rintro e d ⟨rfl,G⟩;obtain⟨x0,x1,r0,r1,z0,z1,l1,l2,b3⟩:=e7.out d G;have f0:=zh b3;clear b3 G)
  all_goals go_wp2_with fail
  all_goals obtain⟨hr,f1,f2⟩:=f0.out _ rfl
  all_goals exact bodyPost_ret (v:=.tuple #[.agg #[.int .i64 (y:Int),.slice oa u oc],.int .i64 td,.nilIface]) (by simp[results,Tryz.results22,go_sem,f1,f2]) rfl hr
def LoadB8 (W:World) (k:Nat) (e:Ending) (W':World):Prop:=e=.returned (.tuple #[.agg #[.int .i64 0,.slice none 0 0],.iface 36 (.int .i64 (k:Int))])/\Below W.heap.size W W'
theorem j9 {g a:World}{k:Nat}(d:Below (W.alloc (.cells #[.int .i64 0,.slice none 0 0] 31)).heap.size (W.alloc (.cells #[.int .i64 0,.slice none 0 0] 31)) g)(f:a=(g.setCell ⟨W.heap.size,0,none⟩ (.int .i64 0)).setCell ⟨W.heap.size,1,none⟩ (.slice none 0 0)):LoadB8 W k (.returned (.tuple #[.agg #[.int .i64 0,.slice none 0 0],.iface 36 (.int .i64 (k:Int))])) a/\a.cell? ⟨W.heap.size,0,none⟩=some (.int .i64 0)/\a.cell? ⟨W.heap.size,1,none⟩=some (.slice none 0 0):=by
 have c:Below W.heap.size W (W.alloc (.cells #[.int .i64 0,.slice none 0 0] 31)):=zb _ _
 have e:=zl W (.cells #[.int .i64 0,.slice none 0 0] 31)
 have h:=(d.block _ (zc e)).trans e
 have b:=zy 1 (.slice none 0 0) (zy 0 (.int .i64 0) h)
 rw[<-f]at b
 refine⟨⟨rfl,?_⟩,(za b).trans rfl,(za b).trans rfl⟩
 rw[f]
 exact((c.trans (d.mono c.size)).setCell zn _).setCell zn _
theorem load8_form {y q:Nat}(j:Jo.OA W q r o)(n:Bd o)(l:Ob.rightB o=false)(s:Int) :
  Calls Tryz.prog 7 #[.pointer (some ⟨y,0,none⟩),.pointer (some ⟨q,r,none⟩),.int .i64 s] W (LoadB8 W 3):=by
 obtain⟨f,b⟩:∃f,f=W.alloc (.cells #[.int .i64 0,.slice none 0 0] 31):=⟨_,rfl⟩
 have h:Below W.heap.size W f:=by rw[b];exact zb _ _
 have i:f.heap[W.heap.size]?=some (.cells #[.int .i64 0,.slice none 0 0] 31 (0,0)):=by rw[b];exact zl _ _
 have m:=zh (right_oa (j.below h) n)
 rw[l]at m
 have g:=zh i
 have t:=zh b
 clear j n l h i
 go_enter Tryz.func7,Tryz.ntmps7
 go_upto_region 1 with fail
 rw[<-b]
 clear b
 go_wp2_with fail
 refine m.out.mono ?_
 rintro e c⟨rfl,d⟩
 have a:=(d.block _ (zc g.out)).trans g.out
 have A:c.cell? ⟨W.heap.size,0,none⟩=some (.int .i64 0):=(za a).trans rfl
 have B:c.cell? ⟨W.heap.size,1,none⟩=some (.slice none 0 0):=(za a).trans rfl
 have C:c.frozen? ⟨W.heap.size,0,none⟩=false:=zi a
 have D:c.frozen? ⟨W.heap.size,1,none⟩=false:=zi a
 have z:W.heap.size<c.heap.size:=zc a
 rw[t.out]at d
 obtain⟨p,u,w⟩:=j9 (k:=3) d rfl
 have x:=zh p
 clear d a p
 go_wp2_with fail
 exact bodyPost_ret (v:=.tuple #[.agg #[.int .i64 0,.slice none 0 0],.iface 36 (.int .i64 3)]) (by simp[results,Tryz.results7,go_sem,u,w]) rfl x.out
theorem load8_nil (j:Int) :
  Calls Tryz.prog 7 #[.pointer (some ⟨r,0,none⟩),.pointer none,.int .i64 j] W (LoadB8 W 3):=by
 obtain⟨c,b⟩:∃c,c=W.alloc (.cells #[.int .i64 0,.slice none 0 0] 31):=⟨_,rfl⟩
 have o:Below W.heap.size W c:=by rw[b];exact zb _ _
 have h:c.heap[W.heap.size]?=some (.cells #[.int .i64 0,.slice none 0 0] 31 (0,0)):=by rw[b];exact zl _ _
 have q:=zh (right_nil c)
 have g:=zh h
 have l:=zh b
 clear o h
 go_enter Tryz.func7,Tryz.ntmps7
 go_upto_region 1 with fail
 rw[<-b]
 clear b
 go_wp2_with fail
 refine q.out.mono ?_
 rintro e d⟨rfl,f⟩
 have a:=(f.block _ (zc g.out)).trans g.out
 have t:d.cell? ⟨W.heap.size,0,none⟩=some (.int .i64 0):=(za a).trans rfl
 have u:d.cell? ⟨W.heap.size,1,none⟩=some (.slice none 0 0):=(za a).trans rfl
 have w:d.frozen? ⟨W.heap.size,0,none⟩=false:=zi a
 have x:d.frozen? ⟨W.heap.size,1,none⟩=false:=zi a
 have s:W.heap.size<d.heap.size:=zc a
 rw[l.out]at f
 obtain⟨i,m,n⟩:=j9 (k:=3) f rfl
 have p:=zh i
 clear f a i
 go_wp2_with fail
 exact bodyPost_ret (v:=.tuple #[.agg #[.int .i64 0,.slice none 0 0],.iface 36 (.int .i64 3)]) (by simp[results,Tryz.results7,go_sem,m,n]) rfl p.out
theorem load8_none {g l:Nat}(x:Jo.OA W i l o)(r:W.heap[g]?=some (.cells #[.map none] 28 (0,0)))(M:Bd o)(G:Ob.rightB o=true)(I:o.uses≠[])(H:∀u∈o.uses,u.name.length<=1000000)(F:o.name.length<=1000000)(R:Int) :
  Calls Tryz.prog 7 #[.pointer (some ⟨g,0,none⟩),.pointer (some ⟨i,l,none⟩),.int .i64 R] W (LoadB8 W 8):=by
 obtain⟨a,j⟩:∃a,a=W.alloc (.cells #[.int .i64 0,.slice none 0 0] 31):=⟨_,rfl⟩
 have c:Below W.heap.size W a:=by rw[j];exact zb _ _
 have D:a.heap[W.heap.size]?=some (.cells #[.int .i64 0,.slice none 0 0] 31 (0,0)):=by rw[j];exact zl _ _
 have B:Hid (∀w,Below a.heap.size a w->Jo.OA w i l o):=fun w f=>x.below (c.trans (f.mono c.size))
 have A:Hid (∀w,Below a.heap.size a w->w.heap[g]?=some (.cells #[.map none] 28 (0,0))):=fun w f=>(f.block _ (Nat.lt_of_lt_of_le (zc r) c.size)).trans ((c.block _ (zc r)).trans r)
 have J:=zh (right_oa (x.below c) M)
 rw[G]at J
 have Q:Hid (∀w,Below a.heap.size a w->Calls Tryz.prog 23 #[.pointer (some ⟨g,0,none⟩),.pointer (some ⟨i,l,none⟩)] w fun e K=>e=.returned (.iface 36 (.int .i64 8))/\Below w.heap.size w K):=fun w f=>by
  refine(fits8 ((za (A.out w f)).trans rfl) (B.out w f) H).mono ?_
  rintro e K⟨L,h2⟩
  rw[if_neg I]at L
  exact⟨L,h2⟩
 have E:∀(w:World) n,(Instr.lookup 26 (.map none) (.string (bs o.name)) false).run Tryz.prog (w.drewN n)=.ok (.pointer none) (w.drewN n):=fun w n=>yX (w.drewN n) (t:=26) (e:=75) Tryz.underlying26 (by kernel_rfl) o.name F false
 have V:=zh E
 have z:=zh D
 have X:=zh j
 clear x M G c D r I H F E
 go_enter Tryz.func7,Tryz.ntmps7
 go_upto_region 1 with fail
 rw[<-j]
 clear j
 go_wp2_with fail
 refine J.out.mono ?_
 rintro e b⟨rfl,q⟩
 have y:=zh q
 have P:b.cell? ⟨g,0,none⟩=some (.map none):=(za (A.out b q)).trans rfl
 obtain⟨n1,U⟩:b.cell? ⟨i,l,none⟩=some (.string (bs o.name))/\i<b.heap.size:=by
  obtain⟨_,_,_,_,_,_,_,_,_,_,_,_,h⟩:=B.out b q
  exact⟨h.c0,zg h.c0⟩
 have S:=V.out b
 have T:g<b.heap.size:=zg P
 clear q
 go_wp2_with fail
 go_quiet (fail)
 go_wp2_with fail
 have s:Hid (Below a.heap.size a (b.drewN nq)):=y.out.trans ((below_drewN b nq).mono y.out.size)
 refine(Q.out _ s.out).mono ?_
 rintro e m⟨rfl,C⟩
 have p:=s.out.trans (C.mono s.out.size)
 have d:=(p.block _ (zc z.out)).trans z.out
 have x0:m.cell? ⟨W.heap.size,0,none⟩=some (.int .i64 0):=(za d).trans rfl
 have x1:m.cell? ⟨W.heap.size,1,none⟩=some (.slice none 0 0):=(za d).trans rfl
 have z0:m.frozen? ⟨W.heap.size,0,none⟩=false:=zi d
 have z1:m.frozen? ⟨W.heap.size,1,none⟩=false:=zi d
 have a0:W.heap.size<m.heap.size:=zc d
 rw[X.out]at p
 obtain⟨N,Y,Z⟩:=j9 (k:=8) p rfl
 have HF:=zh N
 clear C p d N P n1 U S T
 go_wp2_with fail
 exact bodyPost_ret (v:=.tuple #[.agg #[.int .i64 0,.slice none 0 0],.iface 36 (.int .i64 8)]) (by simp[results,Tryz.results7,go_sem,Y,Z]) rfl HF.out
theorem right_less (h:Ob.rightB o=true):o.name.length<=10/\o.vars.length<=10/\(∀g∈o.vars,g.len<=30)/\∀u∈o.uses,u.name.length<=10:=by
 unfold Ob.rightB Ob.headB at h
 simp only[Bool.and_eq_true]at h
 obtain⟨⟨b,_,c,a⟩,_⟩:=h
 refine⟨Ob.nameB_len b,(Ob.allB_le a).1,fun g d=>?_,fun u e=>?_⟩
 ·have:=(Ob.allB_le a).2 g d
  unfold Ob.varB Ob.lenB at this
  simp only[Bool.and_eq_true,decide_eq_true_eq]at this
  omega
 ·have:=(Ob.allB_le c).2 u e
  unfold Ob.otherB Ob.useB at this
  simp only[Bool.and_eq_true]at this
  exact Ob.nameB_len (by first|exact this.1.1|exact this.2.1)
theorem rests8 (o:O)(n m:Nat):((Vm.goes 31 n (s0 o)).way≠5->Vm.goes 31 (n+m) (s0 o)=Vm.goes 31 n (s0 o))/\∃l,(Vm.goes 31 (n+m) (s0 o)).out=(Vm.goes 31 n (s0 o)).out++l :=
 ⟨fun h=>Vm.goes_more m n (s0 o) h,Vm.goes_less m n (s0 o)⟩
def LoadN (W:World) (mb:Nat) (o:O) (fuel:Nat) (e:Ending) (W':World):Prop:=if Ob.rightB o=true then (if o.uses=[] then LoadP8 W mb o fuel e W' else LoadB8 W 8 e W') else LoadB8 W 3 e W'
theorem load8_any {c:World}{f m n:Nat}(h:Jo.OA c m n o)(k:Below c.heap.size c W)(t:c.heap.size<=f)(l:W.heap[f]?=some (.cells #[.map none] 28 (0,0)))
  (s:2<c.heap.size)(p:∀i,i<11->c.cell? ⟨2,i,none⟩=some (.string (bs (Vm.marks8.getD i []))))
  (j:Bd o)(q:∀x∈o.code,I64 x.a)(d:Nat)(r:d<=1000000) :
  Calls Tryz.prog 7 #[.pointer (some ⟨f,0,none⟩),.pointer (some ⟨m,n,none⟩),.int .i64 (d:Int)] W (LoadN W f o d):=by
 unfold LoadN
 by_cases b:Ob.rightB o=true
 ·obtain⟨A,B,y,z⟩:=right_less b
  by_cases e:o.uses=[]
  ·simp only[if_pos b,if_pos e]
   exact load8 h k t l s p j b q e (by omega) (by omega) (fun g v=>by have:=y g v;omega) d r
  ·simp only[if_pos b,if_neg e]
   exact load8_none (h.below k) l j b e (fun u w=>by have:=z u w;omega) (by omega) _
 ·simp only[if_neg b]
  exact load8_form (h.below k) j (by simpa using b) _
end Go.Proofs.YtbkndnmglhghlaaGreatDoor.Jo
