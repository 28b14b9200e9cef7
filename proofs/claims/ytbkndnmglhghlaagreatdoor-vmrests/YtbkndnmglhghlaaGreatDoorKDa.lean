import Derived.Test.YtbkndnmglhghlaaGreatDoorKIg
import Derived.Test.YtbkndnmglhghlaaGreatDoorKOe
import Derived.Test.YtbkndnmglhghlaaGreatDoorKJe
import Derived.Lib.LaidTab
import Derived.LaidSub
set_option maxRecDepth 100000
set_option maxHeartbeats 4000000

namespace Tp
open Ob (O)
def txtV:Bs:=[109,111,100,117,108,101,32,109,59,32,118,97,114,32,120,58,32,105,110,116,59,32,112,114,111,99,32,102,42,40,97,41,59,32,98,101,103,105,110,32,120,32,58,61,32,120,32,43,32,97,59,32,114,101,116,117,114,110,32,120,32,42,32,50,59,32,101,110,100,59,32,98,101,103,105,110,32,119,114,105,116,101,32,102,40,51,41,32,97,110,100,32,110,111,116,32,48,32,111,114,32,49,32,100,105,118,32,48,59,32,101,110,100,46]
def modV:M:=⟨[109],[],[⟨[120],14,0,false⟩],[⟨[102],22,true,[[97]],[],[⟨1,40,[120],[],[⟨5,45,0,[],[],[43],[⟨2,45,0,[],[120],[],[],[],[]⟩],[⟨2,49,0,[],[97],[],[],[],[]⟩],[]⟩],[],[]⟩,⟨4,52,[],[],[⟨5,59,0,[],[],[42],[⟨2,59,0,[],[120],[],[],[],[]⟩],[⟨1,63,2,[],[],[],[],[],[]⟩],[]⟩],[],[]⟩]⟩],[⟨5,77,[],[],[⟨5,83,0,[],[],[111,114],[⟨5,83,0,[],[],[97,110,100],[⟨6,83,0,[],[102],[],[],[],[⟨1,85,3,[],[],[],[],[],[]⟩]⟩],[⟨4,92,0,[],[],[110,111,116],[⟨1,96,0,[],[],[],[],[],[]⟩],[],[]⟩],[]⟩],[⟨5,101,0,[],[],[100,105,118],[⟨1,101,1,[],[],[],[],[],[]⟩],[⟨1,107,0,[],[],[],[],[],[]⟩],[]⟩],[]⟩],[],[]⟩]⟩
def objV:O:=⟨[109],[⟨[102],0,1⟩],[],[⟨[120],0,0,false⟩],[⟨19,1,1⟩],[[102]],[⟨1,3,0⟩,⟨14,0,-1⟩,⟨13,8,0⟩,⟨1,0,0⟩,⟨11,0,0⟩,⟨11,0,0⟩,⟨11,0,0⟩,⟨12,9,0⟩,⟨1,0,0⟩,⟨13,12,0⟩,⟨1,1,0⟩,⟨12,17,0⟩,⟨1,1,0⟩,⟨1,0,0⟩,⟨9,3,0⟩,⟨11,0,0⟩,⟨11,0,0⟩,⟨16,0,0⟩,⟨17,0,0⟩,⟨5,0,-1⟩,⟨3,0,0⟩,⟨9,0,0⟩,⟨6,0,0⟩,⟨5,0,-1⟩,⟨1,2,0⟩,⟨9,2,0⟩,⟨15,0,0⟩,⟨1,0,0⟩,⟨15,0,0⟩]⟩
theorem parseV:parse txtV=.ok modV:=by kernel_rfl
theorem checkO:check modV (fun _=>none)=none:=by simp[check,imps,tw,checkP,rs,rx,judge,stand,kindOf,ownOf,modV]
theorem symsO:symsOf modV=[([102],0,1)]:=by simp[symsOf,modV,syP]
theorem objV_is:objC modV [⟨[102],0,1⟩] (fun _=>[]) (fun _=>[])=objV:=by
 simp only[objC,codeC,headC,bodyP,cP,entP,cS,cX,modV]
 kernel_rfl
theorem rightV:Ob.rightB objV=true:=by kernel_rfl
end Tp

namespace Go.Proofs.YtbkndnmglhghlaaGreatDoor.Jo
open Go.RowKit Go.Maps
open Tp (objV)
def sV:Vm.St:=Vm.goes 31 1000 (s0 objV)
theorem goesV_way:sV.way=1:=by kernel_rfl
theorem goesV_out:sV.out=[1]:=by kernel_rfl
theorem goesV_vars:(sV.there [109]).map (fun p=>p.vars)=some [[3]]:=by kernel_rfl
theorem callV_way:(Vm.goes 30 1000 (sA objV [[3]] 19 1 [4])).way=1:=by kernel_rfl
theorem callV_told:toldS (Vm.goes 30 1000 (sA objV [[3]] 19 1 [4]))=14:=by kernel_rfl
theorem i64V:∀x∈objV.code,Ob.I64 x.a:=by
 intro x b
 simp only[objV,List.mem_cons,List.not_mem_nil,or_false]at b
 unfold Ob.I64
 rcases b with h|h|h|h|h|h|h|h|h|h|h|h|h|h|h|h|h|h|h|h|h|h|h|h|h|h|h|h|h<;>(subst h;simp)
theorem bdV:Bd objV:=⟨by simp[objV],by simp[objV],by simp[objV],by simp[objV],by simp[objV],by simp[objV],by simp[objV],by simp[objV],by simp[objV],by simp[objV],by simp[objV],i64V⟩
end Go.Proofs.YtbkndnmglhghlaaGreatDoor.Jo

namespace Go.Proofs.YtbkndnmglhghlaaGreatDoor.Jo
open Go.RowKit Go.Maps
open Ob (O In I64)
variable {xs ys:List Int}{c1 c2:Nat}{a:Option Addr}{w:World}
structure IntsAt (w:World) (vs:List Int) (a:Option Addr):Prop where
 c:∀i (h:i<vs.length),∃b o,a=some ⟨b,o,none⟩/\b<w.heap.size/\w.cell? ⟨b,o+i,none⟩=some (.int .i64 vs[i])
theorem IntsAt.on {w':World}{vs:List Int}(h:IntsAt w vs a)(k:Below w.heap.size w w'):IntsAt w' vs a :=
 ⟨fun i g=>by obtain⟨b,o,e,d,f⟩:=h.c i g;exact⟨b,o,e,Nat.lt_of_lt_of_le d k.size,(k.cell (p:=⟨b,o+i,none⟩) d).trans f⟩⟩
theorem IntsAt.take {oa:Option Addr}(h:IntsAt w ys oa)(g:xs <+: ys):IntsAt w xs oa:=by
 obtain⟨t,rfl⟩:=g
 refine⟨fun i f=>?_⟩
 obtain⟨b,o,a,d,e⟩:=h.c i (by simp;omega)
 exact⟨b,o,a,d,by rw[e,List.getElem_append_left f]⟩
theorem own_ints {e c:Nat}{l:List Int}(h:w.ownsRow e 2 1 (.slice a l.length c) l.length (ints l)):IntsAt w l a/\l.length<=c:=by
 by_cases m:l.length=0
 ·exact⟨⟨fun i b=>by omega⟩,by omega⟩
 ·obtain⟨k,sc,j,_,g,f,d⟩:=ju h (by omega)
  cases j
  exact⟨⟨fun i b=>⟨k,0,rfl,g,by rw[Nat.zero_add,d i (by omega),ints_get l i b]⟩⟩,f⟩
theorem ieq_post {z A:Option Addr}(o:IntsAt w xs z)(p:IntsAt w ys A)(D:xs.length<=1000) :
  Calls Tryz.prog 11 #[.slice z xs.length c1,.slice A ys.length c2] w fun e w'=>e=.returned (.bool (decide (xs=ys)))/\Below w.heap.size w w':=by
 by_cases f:xs.length=ys.length
 ·rw[<-f]
  have L:=zh o
  have M:=zh p
  obtain⟨a,h⟩:∃a,a=xs.length:=⟨_,rfl⟩
  have U:(a:Int)<=1000:=by omega
  have d:=zh (And.intro h f)
  obtain⟨bb,g⟩:∃bb,bb=decide (xs=ys):=⟨_,rfl⟩
  have t:=zh g
  rw[<-g,<-h]
  clear o p f h g D
  go_enter Tryz.func11,Tryz.ntmps11
  go_wp2_with fail
  go_loopg [13] a (fun k P wr=>∃i:Nat,i<=a/\k=a-i/\P=.int .i64 (i:Int)/\Hid (∀k,k<i->xs[k]?=ys[k]?)/\Hid (Below w.heap.size w wr))
  case atStart=>exact⟨0,by omega,by omega,rfl,fun k C=>by omega,Below.refl _ _⟩
  case round =>
   obtain⟨i,S,C,rfl,v,b⟩:=hrel
   have Q:=b.out.size
   by_cases T:i<a
   ·have G:(i:Int)<(a:Int):=by omega
    have R:¬(i:Int)<0:=by omega
    have E:i<xs.length:=by have:=d.out.1;omega
    have F:i<ys.length:=by have:=d.out.1;have:=d.out.2;omega
    obtain⟨W,Y,rfl,q1,N⟩:=(L.out.on b.out).c i E
    obtain⟨b2,Z,rfl,q2,O⟩:=(M.out.on b.out).c i F
    have J:Hid (xs[i]=ys[i]->∀k,k<i+1->xs[k]?=ys[k]?):=by
     intro e k C
     by_cases B:k=i
     ·subst B;rw[List.getElem?_eq_getElem E,List.getElem?_eq_getElem F,e]
     ·exact v.out k (by omega)
    have I:Hid (xs[i]≠ys[i]->bb=false):=by
     intro e
     rw[t.out]
     refine decide_eq_false fun q=>e ?_
     subst q
     rfl
    generalize xs[i]=x at *
    generalize ys[i]=y at *
    go_upto_region 6 with fail
    go_quiet (fail)
    obtain⟨r,j⟩:∃r,r=wr.drewN nq:=⟨_,rfl⟩
    have s:Hid (Below w.heap.size w r):=by rw[j];exact b.out.trans ((below_drewN wr nq).mono b.out.size)
    rw[<-j]
    clear j N O
    by_cases u:x=y
    ·subst u
     have H:=zh (J.out rfl)
     go_wp2_with fail
     go_roundg (a-(i+1))
     case measure=>omega
     case rel=>exact⟨i+1,by omega,rfl,by go_num,H,s⟩
    ·have l:=zh (I.out u)
     go_wp2_with fail
     go_ret
     exact⟨by rw[l.out];rfl,s.out⟩
   ·have G:¬(i:Int)<(a:Int):=by omega
    have l:Hid (bb=true):=by
     show bb=true
     rw[t.out]
     refine decide_eq_true (List.ext_getElem? fun k=>?_)
     by_cases K:k<i
     ·exact v.out k K
     ·have X:=d.out.1
      have B:=d.out.2
      rw[List.getElem?_eq_none (by omega),List.getElem?_eq_none (by omega)]
    go_wp2_with fail
    go_ret
    exact⟨by rw[l.out];rfl,b.out⟩
 ·have V:¬(xs.length:Int)=(ys.length:Int):=by omega
  have hd:decide (xs=ys)=false:=decide_eq_false fun q=>f (by rw[q])
  rw[hd]
  clear hd f o p D
  generalize xs.length=m at *
  generalize ys.length=n at *
  go_enter Tryz.func11,Tryz.ntmps11
  go_wp2_with fail
  go_ret
  exact⟨rfl,Below.refl _ _⟩
theorem ends_post {x y:Nat}{c d:Option Addr}(o:IntsAt w xs c)(p:IntsAt w ys d)(q:xs.length<=1000) :
  Calls Tryz.prog 10 #[.agg #[.int .i64 (x:Int),.slice c xs.length c1],.agg #[.int .i64 (y:Int),.slice d ys.length c2]] w fun e w'=>e=.returned (.bool (decide (x=y)&&decide (xs=ys)))/\Below w.heap.size w w':=by
 obtain⟨a,b⟩:∃a,a=(w.alloc (.cells #[.int .i64 (x:Int),.slice c xs.length c1] 31)).alloc (.cells #[.int .i64 (y:Int),.slice d ys.length c2] 31):=⟨_,rfl⟩
 have f:Below w.heap.size w a:=by rw[b];exact(zb _ _).alloc (by simp) _
 have q0:a.heap[w.heap.size]?=some (.cells #[.int .i64 (x:Int),.slice c xs.length c1] 31 (0,0)):=by rw[b];exact(Below.heap_alloc _ _ _ (by simp)).trans (zl _ _)
 have g:a.heap[w.heap.size+1]?=some (.cells #[.int .i64 (y:Int),.slice d ys.length c2] 31 (0,0)):=by
  have:=zl (w.alloc (.cells #[.int .i64 (x:Int),.slice c xs.length c1] 31)) (.cells #[.int .i64 (y:Int),.slice d ys.length c2] 31)
  rw[b];simpa using this
 have i:=zh (ieq_post (c1:=c1) (c2:=c2) (o.on f) (p.on f) q)
 have f0:a.cell? ⟨w.heap.size,0,none⟩=some (.int .i64 (x:Int)):=(za q0).trans rfl
 have u:a.cell? ⟨w.heap.size,1,none⟩=some (.slice c xs.length c1):=(za q0).trans rfl
 have v:a.cell? ⟨w.heap.size+1,0,none⟩=some (.int .i64 (y:Int)):=(za g).trans rfl
 have z:a.cell? ⟨w.heap.size+1,1,none⟩=some (.slice d ys.length c2):=(za g).trans rfl
 have A:=zc q0
 have B:=zc g
 have h:=zh f
 obtain⟨bb,k⟩:∃bb,bb=decide (xs=ys):=⟨_,rfl⟩
 rw[<-k]at i ⊢
 clear o p q f q0 g k
 generalize xs.length=m at *
 generalize ys.length=n at *
 by_cases l:x=y
 ·subst l
  rw[decide_eq_true rfl,Bool.true_and]
  go_enter Tryz.func10,Tryz.ntmps10
  go_upto_region 1 with fail
  rw[<-b]
  clear b
  go_wp2_with fail
  refine i.out.mono ?_
  rintro e s⟨rfl,j⟩
  have r:Hid (Below w.heap.size w s):=h.out.trans (j.mono h.out.size)
  clear j
  go_wp2_with fail
  go_ret
  exact⟨rfl,r.out⟩
 ·have t:¬(x:Int)=(y:Int):=by omega
  rw[decide_eq_false l,Bool.false_and]
  go_enter Tryz.func10,Tryz.ntmps10
  go_upto_region 1 with fail
  rw[<-b]
  clear b
  go_wp2_with fail
  go_ret
  exact⟨rfl,h.out⟩
theorem pick_post (a:Int)(n:Nat)(l:0<n)(g:n<=100000):Calls Tryz.prog 6 #[.int .i64 a,.int .i64 (n:Int)] w fun e w'=>w'=w/\∃k:Nat,k<n/\e=.returned (.int .i64 (k:Int)):=by
 have b:¬(n:Int)=0:=by omega
 have h:(n:Int)<=100000:=by omega
 go_enter Tryz.func6,Tryz.ntmps6
 go_wp2_with fail
 have c:0<=IntKind.u64.wrap a:=by simp[IntKind.wrap,IntKind.signed,IntKind.bits];omega
 have d:(IntKind.u64.wrap a).tmod (n:Int)=(IntKind.u64.wrap a) % (n:Int):=Int.tmod_eq_emod_of_nonneg c
 have i:=Int.emod_nonneg (IntKind.u64.wrap a) b
 have j:=Int.emod_lt_of_pos (IntKind.u64.wrap a) (show (0:Int)<n by omega)
 have f:wrap64 ((IntKind.u64.wrap a).tmod (n:Int))=(((IntKind.u64.wrap a) % (n:Int)).toNat:Int):=by
  rw[d,yC,Tp.w64_id (by unfold Tp.I64;omega)]
  omega
 rw[f]
 go_ret
 exact⟨rfl,_,by omega,rfl⟩
end Go.Proofs.YtbkndnmglhghlaaGreatDoor.Jo

namespace Go.Proofs.YtbkndnmglhghlaaGreatDoor.Jo
open Go.RowKit Go.Maps
open Ob (O In I64)
open Tp (objV)
variable {vv:List (List Int)}{c:Vx}{W:World}
def Vx.also (c:Vx) (x:Nat) (o:Obj):Vx:={ c with eb:=fun b=>if b=x then some o else c.eb b }
theorem VxOk.also {c:Vx}(ok:VxOk c)(x:Nat)(o:Obj):VxOk (c.also x o):=⟨ok.oa,ok.rt,ok.i64,ok.us,ok.gb,ok.pb,ok.vb,ok.vs,ok.inj,ok.ml,ok.gm,ok.mrk⟩
theorem MM.also {c:Vx}{W:World}{s:Vm.St}{vv:List (List Int)}{e sv i:Value}(h:MM c W s vv e sv i){x:Nat}{o:Obj}(j:W.heap[x]?=some o)(a:Far o):MM (c.also x o) W s vv e sv i :=
 ⟨h.be,h.pk,h.vk,h.th,h.vn,h.vm,h.fr,h.st,h.ou,h.dj,h.sl,h.si,h.ol,h.oi,h.fl,h.fm,fun f a=>⟨(h.ff f a).of,(h.ff f a).ll,(h.ff f a).li,(h.ff f a).mn,(h.ff f a).at',(h.ff f a).bs⟩,fun b g d=>by
  have d:(if b=x then some o else c.eb b)=some g:=d
  by_cases q:b=x
  ·rw[if_pos q]at d
   cases d
   rw[q]
   exact⟨j,a⟩
  ·rw[if_neg q]at d
   exact h.ek b g d⟩
theorem far_end (a:Array Value):Far (.cells a 31 (0,0)):=fun a e f h=>by
 cases h
 unfold Wet
 decide
theorem MV.old {d f:World}{s:Vm.St}(h:MV c d s)(b2:Below c.w0.heap.size c.w0 f)(o:c.w0.heap.size=W.heap.size){g:Nat}(i:∀b,b<W.heap.size->b≠g->d.heap[b]?=W.heap[b]?)(e:Below 0 W d){B:Nat}(n:B<=g)(l:B<=W.heap.size):Below B W f:=by
 obtain⟨_,_,_,_,j,_⟩:=h
 have a:=j.be
 refine⟨(b2.os.trans a.os.symm).trans e.os,(b2.tape.trans a.tape.symm).trans e.tape,(b2.output.trans a.output.symm).trans e.output,by have:=b2.size;omega,fun k m=>?_⟩
 exact((b2.block k (by omega)).trans (a.block k (by omega)).symm).trans (i k (by omega) (by omega))
theorem thr_vv {o:O}{f:Tp.Bs->Option Vm.Pl}{l:List (List Int)}(h:f=thr o vv)(a:(f o.name).map (fun p=>p.vars)=some l):vv=l:=by
 rw[h]at a
 unfold thr at a
 rw[if_pos rfl]at a
 simpa using a
theorem callV {n sv u:Value}{s:Nat}{sp:Option Addr}{lc:Nat}(a:c.O=objV)(h:MM c W sV vv n sv u)(ok:VxOk c)(D:G8 c W n sv u sV.way)(y:c.vb<W.heap.size)
  (g:W.heap[s]?=some (.cells #[.map (some c.tb)] 28 (0,0)))(w:MapV W c.tb 1 (updV (fun _=>none) objV.name (.pointer (some ⟨c.pb,0,none⟩))))(E:Args8 W sp [4]) :
  Calls Tryz.prog 22 #[.pointer (some ⟨s,0,none⟩),.string ⟨#[109]⟩,.string ⟨#[102]⟩,.slice sp 1 lc,.int .i64 1000] W fun e k=>∃gb oa on oc,e=.returned (.tuple #[.agg #[.int .i64 1,.slice oa on oc],.int .i64 14,.nilIface])/\∃t,MV (c.call gb 30) k t:=by
 have d:vv=[[3]]:=thr_vv h.th (by rw[a];exact goesV_vars)
 have z:∀o:O,o=objV->o.name=[109]/\o.syms.length=1/\o.names.length=1/\o.procs.length=1/\o.code.length=29/\fx8 o.syms [102]=((0:Nat):Int)/\ix8 o.names [102]=((0:Nat):Int)/\(∀q:0<o.syms.length,o.syms[0].args=1)/\∀q:0<o.procs.length,o.procs[0].args=1/\o.procs[0].at'=19/\o.procs[0].locals=1:=by
  rintro o rfl
  exact⟨rfl,rfl,rfl,rfl,rfl,rfl,rfl,fun _=>rfl,fun _=>⟨rfl,rfl,rfl⟩⟩
 obtain⟨m,F,G,H,I,A,B,C,f⟩:=z c.O a
 have r:0<c.O.syms.length:=by omega
 have b:0<c.O.procs.length:=by omega
 have:=call8 (lc:=lc) (i:=0) (j:=0) (at':=19) (many:=1) (l:=[4]) (x:=[102]) h ok D y g (by rw[a];exact w) (by rw[m];simp) (by omega) (by omega) A r (C r) B b (f b).1 (f b).2.1 (f b).2.2 E (by simp) (fun v d=>by
  simp only[List.mem_cons,List.not_mem_nil,or_false]at d
  subst d
  unfold I64
  omega) (by omega) (by omega) 1000 (by omega)
 rw[m]at this
 refine this.mono ?_
 rintro e k⟨gb,oa,oc,p,_,g,_⟩
 rw[a,d,callV_way,callV_told]at p
 exact⟨gb,oa,_,oc,p,_,g⟩
end Go.Proofs.YtbkndnmglhghlaaGreatDoor.Jo

namespace Go.Proofs.YtbkndnmglhghlaaGreatDoor
open Go.RowKit Go.Maps
open Tp (objV modV txtV)
theorem srtV:srt (Tp.symsOf modV)=[([102],0,1)]:=by
 rw[Tp.symsO]
 unfold srt insS Sort.insertionSort
 rw[Sort.insOuter,if_neg (by simp)]
theorem mcs8 (i:Nat)(a:i<11):mcs.getD i undef=.string (bs (Vm.marks8.getD i [])):=by
 match i,a with
 | 0,_=>rfl
 | 1,_=>rfl
 | 2,_=>rfl
 | 3,_=>rfl
 | 4,_=>rfl
 | 5,_=>rfl
 | 6,_=>rfl
 | 7,_=>rfl
 | 8,_=>rfl
 | 9,_=>rfl
 | 10,_=>rfl
theorem compV:Tp.compileC modV (srt (Tp.symsOf modV)) (uS modV) (fun _=>none)=objV:=by
 rw[srtV]
 exact Tp.objV_is
theorem ja {w:World}{B:Nat}(W:VarsC B w)(hB:B<=w.heap.size):Calls Tryz.prog 5 #[] w fun e w'=>e=.returned (.bool true)/\Below w.heap.size w w':=by
 have e1:=(Tp.parse_wm Tp.parseV).1
 have HP:Hid (Calls Tryz.prog 20 #[.string ⟨#[109,111,100,117,108,101,32,109,59,32,118,97,114,32,120,58,32,105,110,116,59,32,112,114,111,99,32,102,42,40,97,41,59,32,98,101,103,105,110,32,120,32,58,61,32,120,32,43,32,97,59,32,114,101,116,117,114,110,32,120,32,42,32,50,59,32,101,110,100,59,32,98,101,103,105,110,32,119,114,105,116,101,32,102,40,51,41,32,97,110,100,32,110,111,116,32,48,32,111,114,32,49,32,100,105,118,32,48,59,32,101,110,100,46]⟩] w fun e w'=>Below w.heap.size w w'/\∃v,e=.returned (.tuple #[v,.nilIface])/\VM w.heap.size modV v w'):=by
  refine(parse_post w txtV (by decide) W.mks W.lv).mono ?_
  rintro e w'⟨E,F⟩
  unfold ParseP at F
  rw[Tp.parseV]at F
  exact⟨E,F⟩
 have U:=zh W
 have e6:=zh e1
 have M:=zh hB
 clear W e1 hB
 go_enter Tryz.func5,Tryz.ntmps5
 go_wp2_with fail
 refine HP.out.mono ?_
 rintro e Z⟨E,v1,rfl,d9⟩
 obtain⟨G,C,I,z,H,D,J,A,rfl,d5⟩:=d9.mb
 have e0:mcells (bs modV.name) (.slice G modV.imports.length H) (.slice C modV.vars.length D) (.slice I modV.procs.length J) (.slice z modV.body.length A)=#[.string ⟨#[109]⟩,.slice G 0 H,.slice C 1 D,.slice I 1 J,.slice z 1 A]:=rfl
 rw[e0]
 obtain⟨m,P⟩:∃m,m=Z.alloc (.cells #[.string ⟨#[109]⟩,.slice G 0 H,.slice C 1 D,.slice I 1 J,.slice z 1 A] 66):=⟨_,rfl⟩
 have a3:Below Z.heap.size Z m:=by rw[P];exact zb _ _
 have a7:m.heap[Z.heap.size]?=some (.cells #[.string ⟨#[109]⟩,.slice G 0 H,.slice C 1 D,.slice I 1 J,.slice z 1 A] 66 (0,0)):=by rw[P];exact zl _ _
 have L:Below w.heap.size w m:=E.trans (a3.mono E.size)
 have d7:=U.out.on' M.out L
 have b5:2<m.heap.size:=Nat.lt_of_lt_of_le U.out.c (Nat.le_trans M.out L.size)
 have f5:Tp.nM modV<=1000:=by
  have:=(Tp.parse_wm Tp.parseV).2
  have:txtV.length<=900:=by decide
  omega
 have HC:Hid (Calls Tryz.prog 21 #[.agg #[.string ⟨#[109]⟩,.slice G 0 H,.slice C 1 D,.slice I 1 J,.slice z 1 A],.map none] m fun e w'=>Below m.heap.size m w'/\∃s,e=.returned (.tuple #[.pointer (some ⟨s,0,none⟩),.nilIface])/\Jo.OA w' s 0 objV):=by
  refine(xP (S:=fun _=>none) (sv:=.map none) e6.out f5 (d5.up a3) (Or.inl ⟨rfl,fun _=>rfl⟩) d7.mc b5 rfl).mono ?_
  ·rintro e w'⟨q1,q2⟩
   rw[Tp.checkO]at q2
   obtain⟨s,he,ho⟩:=q2
   rw[compV]at ho
   exact⟨q1,s,he,ho⟩
 obtain⟨y0,y1,y2,y3,y4⟩:=zW a7
 have yl:=zc a7
 have b8:=zh L
 clear E a3 a7 L d7 b5 d5 d9 e0
 go_upto_region 2 with fail
 rw[<-P]
 clear P
 go_wp2_with fail
 refine HC.out.mono ?_
 rintro e w3⟨c8,s,rfl,a9⟩
 have b9:Hid (Below w.heap.size w w3):=b8.out.trans (c8.mono b8.out.size)
 have HR:=zh (Jo.right_oa a9 Jo.bdV)
 rw[Tp.rightV]at HR
 have c4:=zh a9
 clear c8 a9 HC y0 y1 y2 y3 y4 yl
 go_wp2_with fail
 refine HR.out.mono ?_
 rintro e g⟨rfl,a4⟩
 obtain⟨p,Q⟩:∃p,p=g.alloc (.cells #[.map none] 28):=⟨_,rfl⟩
 have a5:Below g.heap.size g p:=by rw[Q];exact zb _ _
 have d3:p.heap[g.heap.size]?=some (.cells #[.map none] 28 (0,0)):=by rw[Q];exact zl _ _
 have o:Hid (Below w.heap.size w g):=b9.out.trans (a4.mono b9.out.size)
 have K:=zh a5
 have d8:=U.out.on' M.out o.out
 have b6:2<g.heap.size:=Nat.lt_of_lt_of_le U.out.c (Nat.le_trans M.out o.out.size)
 have HL:Hid (Calls Tryz.prog 7 #[.pointer (some ⟨g.heap.size,0,none⟩),.pointer (some ⟨s,0,none⟩),.int .i64 1000] p (Jo.LoadP8 p g.heap.size objV 1000)):=by
  refine(Jo.load8_any (c4.out.below a4) a5 zn d3 b6 (fun i V=>(d8.mc i V).trans (by rw[mcs8 i V];rfl)) Jo.bdV Jo.i64V 1000 (by omega)).mono ?_
  intro e f h
  unfold Jo.LoadN at h
  rw[if_pos Tp.rightV,if_pos (show objV.uses=[] from rfl)]at h
  exact h
 clear a4 a5 d3 d8 b6 HR c4
 have f7:Hid (Below w.heap.size w p):=o.out.trans (K.out.mono o.out.size)
 go_upto_region 8 with fail
 rw[<-Q]
 clear Q
 go_wp2_with fail
 refine HL.out.mono ?_
 rintro e a⟨c,oa,oc,rfl,ok,hO,e9,d1,d6,b0,b7,a1,a0,b4,d0⟩
 have ew:((Vm.goes 31 1000 (Jo.s0 objV)).way:Int)=1:=by rw[show (Vm.goes 31 1000 (Jo.s0 objV)).way=1 from Jo.goesV_way];rfl
 have eo:(Vm.goes 31 1000 (Jo.s0 objV)).out=[1]:=Jo.goesV_out
 rw[eo]at b0
 rw[ew,eo]
 obtain⟨d2,f9⟩:=Jo.own_ints b0
 have f3:g.heap.size<a.heap.size:=zc a1
 obtain⟨d,R⟩:∃d,d=a.alloc (.cells #[.int .i64 1,.slice oa 1 oc] 31):=⟨_,rfl⟩
 have a6:Below a.heap.size a d:=by rw[R];exact zb _ _
 have q:d.heap[a.heap.size]?=some (.cells #[.int .i64 1,.slice oa 1 oc] 31 (0,0)):=by rw[R];exact zl _ _
 obtain⟨k,T⟩:∃k,k=d.alloc (.cells #[.int .i64 1] 2):=⟨_,rfl⟩
 have O:Below d.heap.size d k:=by rw[T];exact zb _ _
 have a8:k.heap[d.heap.size]?=some (.cells #[.int .i64 1] 2 (0,0)):=by rw[T];exact zl _ _
 have x:Below a.heap.size a k:=a6.trans (O.mono a6.size)
 have c3:Hid (Calls Tryz.prog 11 #[.slice oa 1 oc,.slice (some ⟨d.heap.size,0,none⟩) 1 1] k fun e w'=>e=.returned (.bool true)/\Below k.heap.size k w'):=by
  have F:Jo.IntsAt k [1] (some ⟨d.heap.size,0,none⟩):=⟨fun i V=>by
   have:i=0:=by simp at V;omega
   subst this
   exact⟨d.heap.size,0,rfl,zc a8,(za a8).trans rfl⟩⟩
  exact Jo.ieq_post (c1:=oc) (c2:=1) (d2.on x) F (by simp)
 have a2:Jo.MV c a Jo.sV:=d6
 have HF:Hid (∀b,Below k.heap.size k b->b.heap[a.heap.size]?=some (.cells #[.int .i64 1,.slice oa 1 oc] 31 (0,0))/\∀l,l=b.alloc (.cells #[.int .i64 4] 2)->Calls Tryz.prog 22 #[.pointer (some ⟨g.heap.size,0,none⟩),.string ⟨#[109]⟩,.string ⟨#[102]⟩,.slice (some ⟨b.heap.size,0,none⟩) 1 1,.int .i64 1000] l fun e f=>∃Y X c2,e=.returned (.tuple #[.agg #[.int .i64 1,.slice Y X c2],.int .i64 14,.nilIface])/\f.heap[a.heap.size]?=some (.cells #[.int .i64 1,.slice oa 1 oc] 31 (0,0))/\Below w.heap.size w f):=by
  intro b y
  have c6:Below a.heap.size a b:=x.trans (y.mono x.size)
  have e7:Below d.heap.size d b:=O.trans (y.mono O.size)
  have n:=(e7.block _ (zc q)).trans q
  refine⟨n,fun l hx=>?_⟩
  have c7:Below b.heap.size b l:=by rw[hx];exact zb _ _
  have d4:l.heap[b.heap.size]?=some (.cells #[.int .i64 4] 2 (0,0)):=by rw[hx];exact zl _ _
  have N:Below a.heap.size a l:=c6.trans (c7.mono c6.size)
  have e8:=(c7.block _ (zc n)).trans n
  obtain⟨vv,fv,sv,ov,m1,g1⟩:=a2.below ok N
  have hc:=Jo.callV (c:=c.also a.heap.size (.cells #[.int .i64 1,.slice oa 1 oc] 31 (0,0))) (lc:=1) hO (m1.also e8 (Jo.far_end _)) (ok.also _ _) g1 (Nat.lt_of_lt_of_le d0 N.size) ((N.block _ f3).trans a1) (a0.on (N.block _ a0.lt)) (sp:=some ⟨b.heap.size,0,none⟩) (fun _=>⟨_,rfl,rfl,zc d4,fun j v hj=>by
   have f2:j=0:=by
    have:=(List.getElem?_eq_some_iff.1 hj).1
    simp[Jo.ints]at this
    omega
   subst f2
   rw[Addr.add_lit]
   exact(za d4).trans hj⟩)
  refine hc.mono ?_
  rintro e f⟨f8,Y,X,c2,he,t,e5⟩
  obtain⟨_,_,_,_,m2,_⟩:=e5
  refine⟨Y,X,c2,he,(m2.ek a.heap.size _ (by show (if a.heap.size=a.heap.size then _ else _)=_;rw[if_pos rfl])).1,?_⟩
  have b2:Below c.w0.heap.size c.w0 f:=m2.be
  have h5:=a2.old b2 d1 b7 b4 (B:=g.heap.size) zn K.out.size
  exact o.out.trans ((K.out.trans h5).mono o.out.size)
 have f6:=zh x
 clear a6 O a8 x d6 a2 b0 b7 a1 a0 b4 d0 d2 ok hO e9 d1 ew eo HL K
 go_upto_region 9 with fail
 rw[<-R]
 have e3:d.cell? ⟨a.heap.size,0,none⟩=some (.int .i64 1):=(za q).trans rfl
 have e4:d.cell? ⟨a.heap.size,1,none⟩=some (.slice oa 1 oc):=(za q).trans rfl
 have f4:=zc q
 clear R q
 go_wp2_with fail
 rw[<-T]
 clear T
 refine c3.out.mono ?_
 rintro e b⟨rfl,y⟩
 obtain⟨n,b3⟩:=HF.out b y
 obtain⟨l,b1⟩:∃l,l=b.alloc (.cells #[.int .i64 4] 2):=⟨_,rfl⟩
 have c0:=zh (b3 l b1)
 have f0:b.cell? ⟨a.heap.size,0,none⟩=some (.int .i64 1):=(za n).trans rfl
 have f1:b.cell? ⟨a.heap.size,1,none⟩=some (.slice oa 1 oc):=(za n).trans rfl
 have fl:=zc n
 clear y n b3 e3 e4 f4 HF c3
 go_wp2_with fail
 rw[<-b1]
 clear b1
 refine c0.out.mono ?_
 rintro e f⟨Y,X,c2,rfl,r,c9⟩
 have g0:f.cell? ⟨a.heap.size,0,none⟩=some (.int .i64 1):=(za r).trans rfl
 have g1:f.cell? ⟨a.heap.size,1,none⟩=some (.slice oa 1 oc):=(za r).trans rfl
 have z0:f.frozen? ⟨a.heap.size,0,none⟩=false:=zi r
 have z1:f.frozen? ⟨a.heap.size,1,none⟩=false:=zi r
 have gl:=zc r
 have e2:Hid (∀u v,Below w.heap.size w ((f.setCell ⟨a.heap.size,0,none⟩ u).setCell ⟨a.heap.size,1,none⟩ v)):=fun u v=>by
  have c5:w.heap.size<=a.heap.size:=by
   have:=o.out.size
   omega
  exact(c9.setCell c5 u).setCell c5 v
 clear r c9 f0 f1 fl c0
 go_wp2_with fail
 go_ret
 exact⟨rfl,e2.out _ _⟩
end Go.Proofs.YtbkndnmglhghlaaGreatDoor

namespace Go.Proofs.YtbkndnmglhghlaaGreatDoor.Jo
open Go.RowKit Go.Maps
open Ob (Bs O In I64)
theorem kl {α:Type}{p:α->Bool}{l:List α}(h:l.any p=false):∀x∈l,p x=false:=by
 intro x a
 rcases hp:p x with _|_
 ·rfl
 ·rw[List.any_eq_true.2 ⟨x,a,hp⟩]at h;cases h
theorem ky {s:Bs}(h:longB s=false):s.length<=40:=by
 unfold longB at h
 have:=of_decide_eq_false h
 omega
theorem small_bd {O:Ob.O}(h:smallB O=true)(i:∀x∈O.code,Ob.I64 x.a):Bd O:=by
 unfold smallB at h
 simp only[Bool.and_eq_true,decide_eq_true_eq,Bool.not_eq_true']at h
 obtain⟨d,l,m,n,o,p,q,e,f,g,c⟩:=h
 refine⟨by have:=ky d;omega,by omega,fun x b=>by have:=ky (kl f x b);omega,by omega,fun x b=>?_,by omega,fun x b=>by have:=ky (kl g x b);omega,by omega,by omega,fun x b=>by have:=ky (kl e x b);omega,by omega,i⟩
 have:=kl c x b
 unfold useL at this
 simp only[Bool.or_eq_false_iff,decide_eq_false_iff_not]at this
 obtain⟨q0,r,s,k⟩:=this
 exact⟨by have:=ky q0;omega,by omega,fun y j=>by have:=ky (kl k y j);omega⟩
theorem small_oa {w:World}{b o:Nat}{O:Ob.O}(h:OA w b o O):Calls Tryz.prog 4 #[.pointer (some ⟨b,o,none⟩)] w fun e w'=>e=.returned (.bool (smallB O))/\Below w.heap.size w w':=by
 obtain⟨j,k,m,g,d,a,sc,l,n,i,f,c,h⟩:=h
 exact small_ov h
end Go.Proofs.YtbkndnmglhghlaaGreatDoor.Jo

namespace Go.Proofs.YtbkndnmglhghlaaGreatDoor
open Go.RowKit Go.Maps
theorem tell_nil (w:World):Calls Tryz.prog 8 #[.nilIface] w fun e w'=>e=.returned (.int .i64 0)/\Below w.heap.size w w':=by
 go_enter Tryz.func8,Tryz.ntmps8
 go_wp2_with fail
 go_ret
 exact⟨rfl,Below.refl _ _⟩
def ErT (w:World):Prop:=w.cell? ⟨0,0,none⟩=some (.iface 191 (.agg #[.pointer (some ⟨8,33,none⟩)]))
structure VarsE (B:Nat) (w:World):Prop where
 v:VarsC B w
 et:ErT w
 e:0<B
theorem VarsE.on' {B:Nat}{w w':World}(h:VarsE B w)(a:B<=w.heap.size)(k:Below w.heap.size w w'):VarsE B w':=⟨h.v.on' a k,(k.cell (p:=⟨0,0,none⟩) (Nat.lt_of_lt_of_le h.e a)).trans h.et,h.e⟩
def RsP (w:World) (e:Ending) (w':World):Prop:=e=.returned (.bool true)/\Below w.heap.size w w'
theorem rests_big {w:World}(p:Option Addr)(d f:Int)(a:Calls Tryz.prog 4 #[.pointer p] w fun e w'=>e=.returned (.bool false)/\Below w.heap.size w w'):Calls Tryz.prog 3 #[.pointer p,.int .i64 d,.int .i64 f] w (RsP w):=by
 have c:=zh a
 clear a
 go_enter Tryz.func3,Tryz.ntmps3
 go_wp2_with fail
 refine c.out.mono ?_
 rintro e g⟨rfl,b⟩
 go_wp2_with fail
 go_ret
 exact⟨rfl,b⟩
theorem j7 {w:World}{B:Nat}(hv:VarsE B w)(hB:B<=w.heap.size)(p:Option Addr)(n mo:Int)(k:Nat)(hk:k<=100)(hs:Calls Tryz.prog 4 #[.pointer p] w fun e w'=>e=.returned (.bool true)/\Below w.heap.size w w')
  (hl:∀(W:World) (mb:Nat) (fuel:Int),Below w.heap.size w W->W.heap[mb]?=some (.cells #[.map none] 28 (0,0))->Calls Tryz.prog 7 #[.pointer (some ⟨mb,0,none⟩),.pointer p,.int .i64 fuel] W (Jo.LoadB8 W k)) :
  Calls Tryz.prog 3 #[.pointer p,.int .i64 n,.int .i64 mo] w (RsP w):=by
 have HS:=zh hs
 have H:=zh hl
 have HV:=zh hv
 have a6:(k:Int)<=100:=by omega
 have D:=zh hB
 clear hs hl hv hk hB
 go_enter Tryz.func3,Tryz.ntmps3
 go_wp2_with fail
 refine HS.out.mono ?_
 rintro e w1⟨rfl,r⟩
 have M:=zh r
 have HC:=zh (ja (HV.out.v.on' D.out r) (Nat.le_trans D.out r.size))
 clear r HS
 go_wp2_with fail
 refine HC.out.mono ?_
 rintro e w2⟨rfl,V⟩
 have N:Hid (Below w.heap.size w w2):=M.out.trans (V.mono M.out.size)
 clear V HC
 go_wp2_with fail
 refine(Jo.pick_post n 200 (by omega) (by omega)).mono ?_
 rintro e w'⟨rfl,f,hf,rfl⟩
 go_wp2_with fail
 refine(Jo.pick_post mo 300 (by omega) (by omega)).mono ?_
 rintro e w'⟨rfl,d,hd,rfl⟩
 obtain⟨W,o⟩:∃W,W=(w'.alloc (.cells #[.map none] 28)).alloc (.cells #[.map none] 28):=⟨_,rfl⟩
 have a0:Below w'.heap.size w' W:=by rw[o];exact(zb _ _).alloc (by simp) _
 have q1:W.heap[w'.heap.size]?=some (.cells #[.map none] 28 (0,0)):=by rw[o];exact(Below.heap_alloc _ _ _ (by simp)).trans (zl _ _)
 have K:W.heap[w'.heap.size+1]?=some (.cells #[.map none] 28 (0,0)):=by
  have:=zl (w'.alloc (.cells #[.map none] 28)) (.cells #[.map none] 28)
  rw[o];simpa using this
 have m:Hid (Below w.heap.size w W):=N.out.trans (a0.mono N.out.size)
 have R:=zh (H.out W w'.heap.size (f:Int) m.out q1)
 have S:Hid (∀b n,Below W.heap.size W b->Calls Tryz.prog 7 #[.pointer (some ⟨w'.heap.size+1,0,none⟩),.pointer p,.int .i64 n] b (Jo.LoadB8 b k)):=fun b n h5=>H.out b _ n (m.out.trans (h5.mono m.out.size)) ((h5.block _ (zc K)).trans K)
 have a5:(f:Int)<200:=by omega
 have a4:(d:Int)<300:=by omega
 clear a0 q1 K hf hd H
 go_upto_region 7 with fail
 rw[<-o]
 clear o
 go_wp2_with fail
 refine R.out.mono ?_
 rintro e h⟨rfl,E⟩
 obtain⟨b,s⟩:∃b,b=h.alloc (.cells #[.int .i64 0,.slice none 0 0] 31):=⟨_,rfl⟩
 have X:Below h.heap.size h b:=by rw[s];exact zb _ _
 have P:Hid (b.heap[h.heap.size]?=some (.cells #[.int .i64 0,.slice none 0 0] 31 (0,0))):=by rw[s];exact zl _ _
 have A:Hid (Below W.heap.size W b):=E.trans (X.mono E.size)
 have T:=zh (S.out b ((f:Int)+(d:Int)) A.out)
 clear E X R S
 go_upto_region 8 with fail
 rw[<-s]
 clear s
 go_wp2_with fail
 refine T.out.mono ?_
 rintro e j⟨rfl,F⟩
 obtain⟨c,t⟩:∃c,c=j.alloc (.cells #[.int .i64 0,.slice none 0 0] 31):=⟨_,rfl⟩
 have Y:Below j.heap.size j c:=by rw[t];exact zb _ _
 have Q:Hid (c.heap[j.heap.size]?=some (.cells #[.int .i64 0,.slice none 0 0] 31 (0,0))):=by rw[t];exact zl _ _
 have z:Hid (Below b.heap.size b c):=F.trans (Y.mono F.size)
 have q:Hid (Below w.heap.size w c):=(m.out.trans (A.out.mono m.out.size)).trans (z.out.mono (by have:=m.out.size;have:=A.out.size;omega))
 have I:Hid (∀l,Below c.heap.size c l->Calls Tryz.prog 8 #[.iface 36 (.int .i64 (k:Int))] l fun e a=>e=.returned (.int .i64 (k:Int))/\Below l.heap.size l a):=fun l h8=>tell_en _ _ (HV.out.on' D.out (q.out.trans (h8.mono q.out.size))).et
 have a1:Hid (∀a,Below c.heap.size c a->a.heap[h.heap.size]?=some (.cells #[.int .i64 0,.slice none 0 0] 31 (0,0))/\a.heap[j.heap.size]?=some (.cells #[.int .i64 0,.slice none 0 0] 31 (0,0))):=fun a h9=>⟨((z.out.trans (h9.mono z.out.size)).block _ (zc P.out)).trans P.out,(h9.block _ (zc Q.out)).trans Q.out⟩
 clear F Y T
 go_upto_region 9 with fail
 rw[<-t]
 clear t
 go_wp2_with fail
 refine(I.out _ (Below.refl _ _)).mono ?_
 rintro e l⟨rfl,G⟩
 have U:=zh (I.out l G)
 have O:=zh G
 clear G I
 go_wp2_with fail
 refine U.out.mono ?_
 rintro e a⟨rfl,Z⟩
 have C:Hid (Below c.heap.size c a):=O.out.trans (Z.mono O.out.size)
 obtain⟨u,x2⟩:=a1.out a C.out
 have f0:a.cell? ⟨h.heap.size,0,none⟩=some (.int .i64 0):=(za u).trans rfl
 have f1:a.cell? ⟨h.heap.size,1,none⟩=some (.slice none 0 0):=(za u).trans rfl
 have f2:a.cell? ⟨j.heap.size,0,none⟩=some (.int .i64 0):=(za x2).trans rfl
 have f3:a.cell? ⟨j.heap.size,1,none⟩=some (.slice none 0 0):=(za x2).trans rfl
 have l1:=zc u
 have l2:=zc x2
 have a2:Hid (Calls Tryz.prog 10 #[.agg #[.int .i64 0,.slice none 0 0],.agg #[.int .i64 0,.slice none 0 0]] a fun e g=>e=.returned (.bool true)/\Below a.heap.size a g):=Jo.ends_post (x:=0) (y:=0) (xs:=[]) (ys:=[]) ⟨fun i J=>by cases J⟩ ⟨fun i J=>by cases J⟩ (by simp)
 have HF:Hid (∀g,Below a.heap.size a g->Below w.heap.size w g):=fun g a3=>q.out.trans ((C.out.trans (a3.mono C.out.size)).mono q.out.size)
 clear Z u x2 U
 go_wp2_with fail
 refine a2.out.mono ?_
 rintro e g⟨rfl,L⟩
 have HG:=zh (HF.out g L)
 clear L
 go_wp2_with fail
 go_ret
 exact⟨rfl,HG.out⟩
end Go.Proofs.YtbkndnmglhghlaaGreatDoor

namespace Go.Proofs.YtbkndnmglhghlaaGreatDoor
open Go.RowKit Go.Maps
open Ob (O)
variable {B:Nat}{w:World}
theorem ints_ext {w':World}{xs:List Int}{oa:Option Addr}{b2 t:Nat}(h:Jo.IntsAt w xs oa)(m:w.heap[b2]?=some (.cells #[.map none] t (0,0)))(f:Ext b2 w w'):Jo.IntsAt w' xs oa:=by
 refine⟨fun i l=>?_⟩
 obtain⟨b,o,j,d,a⟩:=h.c i l
 have g:b≠b2:=by
  intro e
  subst e
  rw[za m]at a
  match o+i,a with
  | 0,a=>cases a
  |k+1,a=>simp at a
 exact⟨b,o,j,Nat.lt_of_lt_of_le d f.size,(World.cell?_of_block (w:=w) (f.block b d g)).trans a⟩
structure Ld (w:World) (mb:Nat) (s:Vm.St) (oa:Option Addr) (oc:Nat) (w':World):Prop where
 ext:Ext mb w w'
 it:Jo.IntsAt w' s.out oa
 ol:s.out.length<=200
 oc:s.out.length<=oc
def LdP (w:World) (mb:Nat) (s:Vm.St) (e:Ending) (w':World):Prop:=∃oa oc,e=.returned (.tuple #[.agg #[.int .i64 (s.way:Int),.slice oa s.out.length oc],.nilIface])/\Ld w mb s oa oc w'
theorem load_good {b W:World}{g k l:Nat}{o:O}(u:Jo.OA b k l o)(C:Below b.heap.size b W)(r:b.heap.size<=g)(E:W.heap[g]?=some (.cells #[.map none] 28 (0,0)))
  (q:2<b.heap.size)(s:MkC b)(B:Jo.Bd o)(n:∀x∈o.code,Ob.I64 x.a)(w:Ob.rightB o=true)(y:o.uses=[])(d:Nat)(p:d<=1000000) :
  Calls Tryz.prog 7 #[.pointer (some ⟨g,0,none⟩),.pointer (some ⟨k,l,none⟩),.int .i64 (d:Int)] W (LdP W g (Vm.goes 31 d (Jo.s0 o))):=by
 refine(Jo.load8_any u C r E q (fun i j=>(s i j).trans (by rw[mcs8 i j];rfl)) B n d p).mono ?_
 intro e w' h
 unfold Jo.LoadN at h
 rw[if_pos w,if_pos y]at h
 obtain⟨c,oa,oc,D,_,_,_,_,t,v,m,_,_,f,_⟩:=h
 obtain⟨_,_,_,_,F,_⟩:=t
 obtain⟨z,A⟩:=Jo.own_ints v
 exact⟨oa,oc,D,⟨⟨f.os,f.tape,f.output,f.size,m⟩,z,F.ol,A⟩⟩
theorem rests_good (hv:VarsE B w)(hB:B<=w.heap.size){D E:Nat}{o:O}(a0:Jo.OA w D E o)(a8:Jo.Bd o)(d2:∀x∈o.code,Ob.I64 x.a)(b3:Ob.rightB o=true)(d7:o.uses=[])(fu mo:Int)(hs:Calls Tryz.prog 4 #[.pointer (some ⟨D,E,none⟩)] w fun e w'=>e=.returned (.bool true)/\Below w.heap.size w w') :
  Calls Tryz.prog 3 #[.pointer (some ⟨D,E,none⟩),.int .i64 fu,.int .i64 mo] w (RsP w):=by
 have HS:=zh hs
 have HV:=zh hv
 have c3:=zh hB
 have f9:Hid (∀w',Below w.heap.size w w'->Jo.OA w' D E o):=fun w' h=>a0.below h
 have a5:Hid (∀(g W:World) (R L:Nat),Below w.heap.size w g->Below g.heap.size g W->g.heap.size<=R->W.heap[R]?=some (.cells #[.map none] 28 (0,0))->L<=1000000->Calls Tryz.prog 7 #[.pointer (some ⟨R,0,none⟩),.pointer (some ⟨D,E,none⟩),.int .i64 (L:Int)] W (LdP W R (Vm.goes 31 L (Jo.s0 o)))):=fun g W R L Q h2 h3 h4 h5=>by
  have e9:=hv.on' hB Q
  exact load_good (a0.below Q) h2 h3 h4 (Nat.lt_of_lt_of_le hv.v.c (Nat.le_trans hB Q.size)) e9.v.mc a8 d2 b3 d7 L h5
 have d1:Hid (∀w',Below w.heap.size w w'->Calls Tryz.prog 9 #[.pointer (some ⟨D,E,none⟩)] w' fun e f4=>e=.returned (.bool true)/\Below w'.heap.size w' f4):=fun w' h=>by
  have:=Jo.right_oa (a0.below h) a8
  rw[b3]at this
  exact this
 have d0:=zh (Jo.rests8 o)
 clear hs hv hB a0 a8 d2 b3 d7
 go_enter Tryz.func3,Tryz.ntmps3
 go_wp2_with fail
 refine HS.out.mono ?_
 rintro e w1⟨rfl,A⟩
 have b9:=zh A
 have HC:=zh (ja (HV.out.v.on' c3.out A) (Nat.le_trans c3.out A.size))
 clear A HS
 go_wp2_with fail
 refine HC.out.mono ?_
 rintro e w2⟨rfl,C⟩
 have M:Hid (Below w.heap.size w w2):=b9.out.trans (C.mono b9.out.size)
 clear C HC
 go_wp2_with fail
 refine(Jo.pick_post fu 200 (by omega) (by omega)).mono ?_
 rintro e w'⟨rfl,f,hf,rfl⟩
 go_wp2_with fail
 refine(Jo.pick_post mo 300 (by omega) (by omega)).mono ?_
 rintro e w'⟨rfl,d,hd,rfl⟩
 obtain⟨W,K⟩:∃W,W=(w'.alloc (.cells #[.map none] 28)).alloc (.cells #[.map none] 28):=⟨_,rfl⟩
 have Y:Below w'.heap.size w' W:=by rw[K];exact(zb _ _).alloc (by simp) _
 have d6:W.heap.size=w'.heap.size+2:=by rw[K];simp
 have q1:W.heap[w'.heap.size]?=some (.cells #[.map none] 28 (0,0)):=by rw[K];exact(Below.heap_alloc _ _ _ (by simp)).trans (zl _ _)
 have q2:W.heap[w'.heap.size+1]?=some (.cells #[.map none] 28 (0,0)):=by
  have:=zl (w'.alloc (.cells #[.map none] 28)) (.cells #[.map none] 28)
  rw[K];simpa using this
 obtain⟨a,ha⟩:∃a,a=Vm.goes 31 f (Jo.s0 o):=⟨_,rfl⟩
 obtain⟨b,hb⟩:∃b,b=Vm.goes 31 (f+d) (Jo.s0 o):=⟨_,rfl⟩
 have b8:Hid ((a.way≠5->b=a)/\∃l,b.out=a.out++l):=by
  have:=d0.out f d
  rw[<-ha,<-hb]at this
  exact this
 obtain⟨I,A⟩:∃I,I=w'.heap.size:=⟨_,rfl⟩
 obtain⟨b2,C⟩:∃b2,b2=w'.heap.size+1:=⟨_,rfl⟩
 have c6:Hid (Calls Tryz.prog 7 #[.pointer (some ⟨I,0,none⟩),.pointer (some ⟨D,E,none⟩),.int .i64 (f:Int)] W (LdP W I a)):=by
  rw[ha,A]
  exact a5.out w' W _ f M.out Y zn q1 (by omega)
 have c7:Hid (∀m,Ext I W m->Calls Tryz.prog 7 #[.pointer (some ⟨b2,0,none⟩),.pointer (some ⟨D,E,none⟩),.int .i64 ((f:Int)+(d:Int))] m (LdP m b2 b)):=fun m hx=>by
  have hz:m.heap[b2]?=some (.cells #[.map none] 28 (0,0)):=by rw[C];exact(hx.block _ (by omega) (by omega)).trans q2
  have:=a5.out w' m b2 (f+d) M.out (Y.trans (zT hx (by omega) (by omega))) (by omega) hz (by omega)
  rw[<-hb,Int.natCast_add]at this
  exact this
 have e6:Hid (W.heap[b2]?=some (.cells #[.map none] 28 (0,0))):=by rw[C];exact q2
 have e1:Hid (Below w'.heap.size w' W):=Y
 have HN:Hid (I=w'.heap.size/\b2=w'.heap.size+1/\W.heap.size=w'.heap.size+2/\w.heap.size<=w'.heap.size):=⟨A,C,d6,M.out.size⟩
 have g5:(f:Int)<200:=by omega
 have g4:(d:Int)<300:=by omega
 clear Y q1 q2 hf hd ha hb a5 d0 d6
 go_upto_region 7 with fail
 rw[<-K]
 rw[<-C,<-A]
 clear K A C
 go_wp2_with fail
 refine c6.out.mono ?_
 rintro e t⟨oa,oc,rfl,r⟩
 obtain⟨j,a9⟩:∃j,j=a.out.length:=⟨_,rfl⟩
 obtain⟨m,a1⟩:∃m,m=t.alloc (.cells #[.int .i64 (a.way:Int),.slice oa j oc] 31):=⟨_,rfl⟩
 have G:Below t.heap.size t m:=by rw[a1];exact zb _ _
 have c4:Hid (m.heap[t.heap.size]?=some (.cells #[.int .i64 (a.way:Int),.slice oa j oc] 31 (0,0))):=by rw[a1];exact zl _ _
 have b4:Ext I W m:=r.ext.trans ⟨G.os,G.tape,G.output,G.size,fun k hk _=>G.block k hk⟩
 have a7:=zh b4
 have e4:Hid (Jo.IntsAt m a.out oa):=r.it.on G
 have a6:=zh (And.intro r.ol r.oc)
 have e7:Hid (W.heap.size<=t.heap.size):=r.ext.size
 have c8:=zh (c7.out m b4)
 have U:=zh a9
 rw[<-a9]
 clear b4 G r c6 c7 a9
 go_upto_region 8 with fail
 rw[<-a1]
 clear a1
 go_wp2_with fail
 refine c8.out.mono ?_
 rintro e z⟨u,q,rfl,r⟩
 obtain⟨s,b0⟩:∃s,s=b.out.length:=⟨_,rfl⟩
 obtain⟨n,a2⟩:∃n,n=z.alloc (.cells #[.int .i64 (b.way:Int),.slice u s q] 31):=⟨_,rfl⟩
 have H:Below z.heap.size z n:=by rw[a2];exact zb _ _
 have c5:Hid (n.heap[z.heap.size]?=some (.cells #[.int .i64 (b.way:Int),.slice u s q] 31 (0,0))):=by rw[a2];exact zl _ _
 have P:Ext b2 m n:=r.ext.trans ⟨H.os,H.tape,H.output,H.size,fun k hk _=>H.block k hk⟩
 have g0:=zh P
 have e5:Hid (Jo.IntsAt n b.out u):=r.it.on H
 have d9:Hid (Jo.IntsAt n a.out oa):=ints_ext e4.out ((a7.out.block b2 (by have:=HN.out;omega) (by have:=HN.out;omega)).trans e6.out) P
 have b6:=zh (And.intro r.ol r.oc)
 have X:=zh b0
 have V:Hid (Below w.heap.size w n):=by
  have hn:=HN.out
  have k1:Below w.heap.size w W:=M.out.trans (e1.out.mono M.out.size)
  have k2:Below w.heap.size W m:=zT a7.out (by omega) (by omega)
  have k3:Below w.heap.size m n:=zT P (by omega) (by have:=a7.out.size;omega)
  exact(k1.trans k2).trans k3
 have b5:Hid (n.heap[t.heap.size]?=some (.cells #[.int .i64 (a.way:Int),.slice oa j oc] 31 (0,0))):=(P.block _ (zc c4.out) (by have:=HN.out;have:=e7.out;omega)).trans c4.out
 rw[<-b0]
 clear P H r c8 b0
 go_upto_region 9 with fail
 rw[<-a2]
 clear a2
 go_wp2_with fail
 refine(tell_nil n).mono ?_
 rintro e w8⟨rfl,d3⟩
 have c0:=zh d3
 clear d3
 go_wp2_with fail
 refine(tell_nil w8).mono ?_
 rintro e w9⟨rfl,d4⟩
 have a4:Hid (Below n.heap.size n w9):=c0.out.trans (d4.mono c0.out.size)
 have c9:=zh (d1.out w9 (V.out.trans (a4.out.mono V.out.size)))
 clear d4 d1
 go_wp2_with fail
 refine c9.out.mono ?_
 rintro e g⟨rfl,d5⟩
 have J:Hid (Below n.heap.size n g):=a4.out.trans (d5.mono a4.out.size)
 have x1:=(J.out.block _ (zc b5.out)).trans b5.out
 have x2:=(J.out.block _ (zc c5.out)).trans c5.out
 have f0:g.cell? ⟨t.heap.size,0,none⟩=some (.int .i64 (a.way:Int)):=(za x1).trans rfl
 have f1:g.cell? ⟨t.heap.size,1,none⟩=some (.slice oa j oc):=(za x1).trans rfl
 have f2:g.cell? ⟨z.heap.size,0,none⟩=some (.int .i64 (b.way:Int)):=(za x2).trans rfl
 have f3:g.cell? ⟨z.heap.size,1,none⟩=some (.slice u s q):=(za x2).trans rfl
 have l1:=zc x1
 have l2:=zc x2
 have S:Hid (Jo.IntsAt g a.out oa):=d9.out.on J.out
 have T:Hid (Jo.IntsAt g b.out u):=e5.out.on J.out
 have HF:Hid (∀i,Below g.heap.size g i->Below w.heap.size w i):=fun i k=>V.out.trans ((J.out.trans (k.mono J.out.size)).mono V.out.size)
 clear d5 x1 x2 c9
 by_cases b7:a.way=5
 ·obtain⟨l,hl⟩:=b8.out.2
  have a3:a.out <+: b.out:=⟨l,hl.symm⟩
  have g6:j<=s:=by rw[U.out,X.out];exact a3.length_le
  have f8:(j:Int)<=(s:Int):=by omega
  have g3:(j:Int)<=(q:Int):=by have:=b6.out.2;have:=X.out;omega
  have f7:j<=q:=by omega
  have g2:s<=q:=by have:=b6.out.2;have:=X.out;omega
  have f6:¬(j:Int)<0:=by omega
  have g1:j<=200:=by have:=a6.out.1;have:=U.out;omega
  have Z:Below g.heap.size g g.drew:=(Below.refl _ _).drew
  have e3:Hid (Calls Tryz.prog 11 #[.slice oa j oc,.slice u j q] g.drew fun e i=>e=.returned (.bool true)/\Below g.drew.heap.size g.drew i):=by
   have:=Jo.ieq_post (c1:=oc) (c2:=q) (S.out.on Z) ((T.out.take a3).on Z) (by have:=a6.out.1;omega)
   rw[<-U.out,decide_eq_true rfl]at this
   exact this
  have HG:Hid (∀i,Below g.drew.heap.size g.drew i->Below w.heap.size w i):=fun i k=>HF.out i (Z.trans k)
  have N:Hid (g.drew.cell? ⟨t.heap.size,1,none⟩=some (.slice oa j oc)/\g.drew.cell? ⟨z.heap.size,1,none⟩=some (.slice u s q)):=⟨f1,f3⟩
  rw[b7]at f0
  have e8:((5:Nat):Int)=5:=rfl
  rw[e8]at f0
  clear a3 hl Z S T f1 f2 f3
  go_upto_region 13 with fail
  go_region_held3 (fun w'=>w'.cell? ⟨t.heap.size,1,none⟩=some (.slice oa j oc)/\w'.cell? ⟨z.heap.size,1,none⟩=some (.slice u s q)) (with_reducible (first|exact e0.out|exact N.out)) (first|(go_at_call 11;refine e3.out.mono ?_;rintro e i ⟨rfl,F⟩;have d8:=zh F;have e0:Hid (i.cell? ⟨t.heap.size,1,none⟩=some (.slice oa j oc)/\i.cell? ⟨z.heap.size,1,none⟩=some (.slice u s q)):=⟨(F.cell (p:=⟨t.heap.size,1,none⟩) (zg N.out.1)).trans N.out.1,(F.cell (p:=⟨z.heap.size,1,none⟩) (zg N.out.2)).trans N.out.2⟩;clear F))
  all_goals go_wp2_with fail
  all_goals go_ret
  all_goals exact⟨rfl,HG.out _ d8.out⟩
 ·have he:=b8.out.1 b7
  have f5:¬(a.way:Int)=5:=by omega
  have e2:Hid (Calls Tryz.prog 10 #[.agg #[.int .i64 (a.way:Int),.slice oa j oc],.agg #[.int .i64 (b.way:Int),.slice u s q]] g fun e i=>e=.returned (.bool true)/\Below g.heap.size g i):=by
   have:=Jo.ends_post (x:=a.way) (y:=b.way) (c1:=oc) (c2:=q) S.out T.out (by have:=a6.out.1;omega)
   rw[<-U.out,<-X.out]at this
   refine this.mono ?_
   rintro e i⟨Q,h2⟩
   refine⟨?_,h2⟩
   rw[Q,he]
   simp
  clear he S T
  go_wp2_with fail
  refine e2.out.mono ?_
  rintro e i⟨rfl,F⟩
  have HG:=zh (HF.out i F)
  clear F
  go_wp2_with fail
  go_ret
  exact⟨rfl,HG.out⟩
theorem xV (i:VarsE B w)(h:B<=w.heap.size)(p:Option Addr)(c e:Int)(r:p=none\/∃b o O,p=some ⟨b,o,none⟩/\Jo.OA w b o O/\∀x∈O.code,Ob.I64 x.a) :
  Calls Tryz.prog 3 #[.pointer p,.int .i64 c,.int .i64 e] w (RsP w):=by
 rcases r with rfl|⟨b,o,O,rfl,g,m⟩
 ·exact j7 i h none c e 3 (by omega) (Jo.small_nil w) fun W n f _ _=>Jo.load8_nil f
 ·have d:=Jo.small_oa g
  rcases hsm:Jo.smallB O with _|_
  ·rw[hsm]at d;exact rests_big _ c e d
  ·rw[hsm]at d
   have j:=Jo.small_bd hsm m
   rcases hr:Ob.rightB O with _|_
   ·exact j7 i h _ c e 3 (by omega) d fun W n f k _=>Jo.load8_form (g.below k) j hr f
   ·by_cases l:O.uses=[]
    ·exact rests_good i h g j m hr l c e d
    ·obtain⟨v,y,z,t⟩:=Jo.right_less hr
     exact j7 i h _ c e 8 (by omega) d fun W n f k q=>Jo.load8_none (g.below k) q j hr l (fun u s=>by have:=t u s;omega) (by omega) f
end Go.Proofs.YtbkndnmglhghlaaGreatDoor

namespace Go.Proofs.YtbkndnmglhghlaaGreatDoor
open Go.RowKit Go.ChangeShapes Go.ChangeAt Go.WideShapes
variable {p:List MemPlace}{g n t:Nat}{w:World}
theorem gMarks:Tryz.prog.globalNamed "marquetry/tree.marks"=some 1:=by kernel_rfl
theorem gMarksT:(Tryz.prog.globals[1]?).map (·.type)=some 209:=by kernel_rfl
theorem gLevels:Tryz.prog.globalNamed "marquetry/tree.levels"=some 4:=by kernel_rfl
theorem gLevelsT:(Tryz.prog.globals[4]?).map (·.type)=some 304:=by kernel_rfl
theorem cString:Tryz.prog.cellsOf 9=1:=by kernel_rfl
theorem cInt:Tryz.prog.cellsOf 3=1:=by kernel_rfl
theorem cRanked:Tryz.prog.cellsOf 303=2:=by kernel_rfl
theorem jP {n:String}{a:Array Value}(c:Tryz.prog.globalNamed n=some g)(h:w.var? Tryz.prog n=some a):g<w.heap.size:=by
 simp only[World.var?,c,Option.bind_some]at h
 split at h
 ·rename_i b;exact zc b
 ·cases h
theorem strs_ofV {e:List Value}{a:List (DataW Unit)}(r:Tryz.prog.underlying t=some (.array n 9))(h:DataW.trod (fun _=>()) Tryz.prog w 0 (fun _=>true) false g t e=some (.agg a,p)) :
  ∀(i:Nat) (b:List UInt8),i<n->a[i]?=some (.lit (.string b))->e[i]?=some (.string (bs b)):=by
 obtain⟨xs,m,_,u,v,x,o⟩:=DataW.trod_array r h
 intro i b q hd
 have c:=o i q
 rw[cString,Nat.mul_one]at c
 have d:i<xs.length:=by omega
 rw[List.getElem?_eq_getElem d]at c
 obtain⟨s,k,l,_⟩:=DataW.trod_string Tryz.underlying9 c
 have j:a=xs.map (·.1):=by have:=congrArg Prod.fst u;simpa using this
 rw[j,List.getElem?_map,List.getElem?_eq_getElem d,l]at hd
 simp at hd
 have f:=congrArg (·[0]?) k
 simp[List.getElem?_drop]at f
 rw[f,<-hd]
 simp[bs]
theorem ranks_of {o:Nat}{a:List Value}{c:List (DataW Unit)}(B:Tryz.prog.underlying t=some (.array n 303))(h:DataW.trod (fun _=>()) Tryz.prog w 0 (fun _=>true) false o t a=some (.agg c,p)) :
  ∀(i:Nat) (b:List UInt8) (k:Int),i<n->c[i]?=some (.agg [.lit (.string b),.lit (.int .i64 k)])->a[i*2]?=some (.string (bs b))/\a[i*2+1]?=some (.int .i64 k):=by
 obtain⟨xs,m,_,C,E,F,z⟩:=DataW.trod_array B h
 intro i b k A hd
 have d:=z i A
 rw[cRanked]at d
 have e:i<xs.length:=by omega
 rw[List.getElem?_eq_getElem e]at d
 obtain⟨I,J,H,r,D,j,l⟩:=trod_struct2 Tryz.underlying303 d
 have q:c=xs.map (·.1):=by have:=congrArg Prod.fst C;simpa using this
 rw[q,List.getElem?_map,List.getElem?_eq_getElem e,r]at hd
 simp only[Option.map_some,Option.some.injEq,DataW.agg.injEq,List.cons.injEq,and_true]at hd
 simp only[cString,cInt]at j l
 obtain⟨s,u,v,_⟩:=DataW.trod_string Tryz.underlying9 j
 obtain⟨G,x,y,_⟩:=DataW.trod_int Tryz.underlying3 l
 rw[v,y]at hd
 simp only[DataW.lit.injEq,Lit.string.injEq,Lit.int.injEq,true_and]at hd
 have f:=congrArg (·[0]?) u
 have g:=congrArg (·[0]?) x
 simp[List.getElem?_drop]at f g
 rw[<-hd.1,<-hd.2]
 refine⟨?_,?_⟩
 ·rw[f];simp[bs]
 ·exact g
theorem gCM:Tryz.prog.globalNamed "marquetry/code.Marks"=some 2:=by kernel_rfl
theorem gCMT:(Tryz.prog.globals[2]?).map (·.type)=some 250:=by kernel_rfl
theorem gErr:Tryz.prog.globalNamed "errors.errorType"=some 0:=by kernel_rfl
theorem rtRow:(Tryz.prog.cutTypes.find? (·.1=="internal/reflectlite.rtype")).map (·.2)=some 191:=by kernel_rfl
theorem oneRow:((List.range 338).filter fun t=>Tryz.prog.rowNamed t [101,114,114,111,114])=[33]:=by kernel_rfl
theorem sizeRow:Tryz.prog.types.size<=338:=of_decide_eq_true (by kernel_rfl)
theorem vars_ofE {W:World}(h:laidMetH Tryz.prog Rows.vmRestsRow.laid W):VarsE W.heap.size W:=by
 have m:=laidMetH_iff.1 h
 have D:laidMet Tryz.prog [("math/bits.deBruijn32tab",Rows.laid_math_bits_deBruijn32tab),("math/bits.deBruijn64tab",Rows.laid_math_bits_deBruijn64tab),("internal/strconv.uint64pow10",Rows.laid_internal_strconv_uint64pow10),("marquetry/code.Marks",Rows.laid_marquetry_code_Marks),("marquetry/tree.levels",Rows.laid_marquetry_tree_levels),("marquetry/tree.marks",Rows.laid_marquetry_tree_marks)] W:=m.1
 obtain⟨ps,⟨Q,t1,c1,K,X,q1,_,_,_,_,⟨R,t2,c2,L,Y,q2,_,_,_,_,⟨S,t3,G,M,Z,q3,_,_,_,_,⟨V,t6,J,P,p6,q6,p,q,l,r,⟨T,t4,H,N,p4,q4,s,b2,e,v,⟨U,t5,I,O,p5,q5,w,x,f,y,_⟩,_⟩,_⟩,_⟩,_⟩,_⟩,_⟩:=D
 obtain rfl:=Option.some.inj (gLevels.symm.trans s)
 obtain rfl:=Option.some.inj (gLevelsT.symm.trans b2)
 obtain rfl:=Option.some.inj (gMarks.symm.trans w)
 obtain rfl:=Option.some.inj (gMarksT.symm.trans x)
 have b:=strs_ofV Tryz.underlying209 y
 have a:=ranks_of Tryz.underlying304 v
 obtain rfl:=Option.some.inj (gCM.symm.trans p)
 obtain rfl:=Option.some.inj (gCMT.symm.trans q)
 have c:=strs_ofV Tryz.underlying250 r
 have E:handlesMet Tryz.prog [("errors.errorType",Rows.laid_errors_errorType)] W:=m.2
 obtain⟨name,u,F,z,A,B,C,g⟩:=E _ (List.mem_singleton.2 rfl)
 have en:name=[101,114,114,111,114]:=(Option.some.inj z).symm
 subst en
 obtain rfl:=Option.some.inj (rtRow.symm.trans A)
 have j:F∈(List.range 338).filter fun t=>Tryz.prog.rowNamed t [101,114,114,111,114]:=List.mem_filter.2 ⟨List.mem_range.2 (Nat.lt_of_lt_of_le B sizeRow),C⟩
 rw[oneRow]at j
 obtain rfl:=List.mem_singleton.1 j
 have o:typeHandle Tryz.prog 33=.pointer (some ⟨8,33,none⟩):=by kernel_rfl
 rw[o]at g
 have n:=World.var?_cell gErr g 0
 refine⟨⟨⟨jP gMarks f,fun i d=>?_⟩,⟨jP gLevels e,fun i d=>?_⟩,fun i d=>?_,jP gMarks f,jP gLevels e,jP gCM l⟩,by unfold ErT;simpa using n,jP gErr g⟩
 ·rw[World.var?_cell gMarks f i,<-Array.getElem?_toList]
  match i,d with
  | 0,_=>exact b 0 _ (by decide) rfl
  | 1,_=>exact b 1 _ (by decide) rfl
  | 2,_=>exact b 2 _ (by decide) rfl
  | 3,_=>exact b 3 _ (by decide) rfl
  | 4,_=>exact b 4 _ (by decide) rfl
  | 5,_=>exact b 5 _ (by decide) rfl
  | 6,_=>exact b 6 _ (by decide) rfl
  | 7,_=>exact b 7 _ (by decide) rfl
  | 8,_=>exact b 8 _ (by decide) rfl
  | 9,_=>exact b 9 _ (by decide) rfl
  | 10,_=>exact b 10 _ (by decide) rfl
  | 11,_=>exact b 11 _ (by decide) rfl
  | 12,_=>exact b 12 _ (by decide) rfl
  | 13,_=>exact b 13 _ (by decide) rfl
  | 14,_=>exact b 14 _ (by decide) rfl
  | 15,_=>exact b 15 _ (by decide) rfl
  | 16,_=>exact b 16 _ (by decide) rfl
  | 17,_=>exact b 17 _ (by decide) rfl
  |k+18,hk=>exact absurd hk (by omega)
 ·rw[World.var?_cell gLevels e i,<-Array.getElem?_toList]
  match i,d with
  | 0,_=>exact(a 0 _ _ (by decide) rfl).1
  | 1,_=>exact(a 0 _ _ (by decide) rfl).2
  | 2,_=>exact(a 1 _ _ (by decide) rfl).1
  | 3,_=>exact(a 1 _ _ (by decide) rfl).2
  | 4,_=>exact(a 2 _ _ (by decide) rfl).1
  | 5,_=>exact(a 2 _ _ (by decide) rfl).2
  | 6,_=>exact(a 3 _ _ (by decide) rfl).1
  | 7,_=>exact(a 3 _ _ (by decide) rfl).2
  | 8,_=>exact(a 4 _ _ (by decide) rfl).1
  | 9,_=>exact(a 4 _ _ (by decide) rfl).2
  | 10,_=>exact(a 5 _ _ (by decide) rfl).1
  | 11,_=>exact(a 5 _ _ (by decide) rfl).2
  | 12,_=>exact(a 6 _ _ (by decide) rfl).1
  | 13,_=>exact(a 6 _ _ (by decide) rfl).2
  | 14,_=>exact(a 7 _ _ (by decide) rfl).1
  | 15,_=>exact(a 7 _ _ (by decide) rfl).2
  | 16,_=>exact(a 8 _ _ (by decide) rfl).1
  | 17,_=>exact(a 8 _ _ (by decide) rfl).2
  | 18,_=>exact(a 9 _ _ (by decide) rfl).1
  | 19,_=>exact(a 9 _ _ (by decide) rfl).2
  | 20,_=>exact(a 10 _ _ (by decide) rfl).1
  | 21,_=>exact(a 10 _ _ (by decide) rfl).2
  | 22,_=>exact(a 11 _ _ (by decide) rfl).1
  | 23,_=>exact(a 11 _ _ (by decide) rfl).2
  | 24,_=>exact(a 12 _ _ (by decide) rfl).1
  | 25,_=>exact(a 12 _ _ (by decide) rfl).2
  |k+26,hk=>exact absurd hk (by omega)
 ·rw[World.var?_cell gCM l i,<-Array.getElem?_toList]
  match i,d with
  | 0,_=>exact c 0 _ (by decide) rfl
  | 1,_=>exact c 1 _ (by decide) rfl
  | 2,_=>exact c 2 _ (by decide) rfl
  | 3,_=>exact c 3 _ (by decide) rfl
  | 4,_=>exact c 4 _ (by decide) rfl
  | 5,_=>exact c 5 _ (by decide) rfl
  | 6,_=>exact c 6 _ (by decide) rfl
  | 7,_=>exact c 7 _ (by decide) rfl
  | 8,_=>exact c 8 _ (by decide) rfl
  | 9,_=>exact c 9 _ (by decide) rfl
  | 10,_=>exact c 10 _ (by decide) rfl
  |k+11,hk=>exact absurd hk (by omega)
end Go.Proofs.YtbkndnmglhghlaaGreatDoor
