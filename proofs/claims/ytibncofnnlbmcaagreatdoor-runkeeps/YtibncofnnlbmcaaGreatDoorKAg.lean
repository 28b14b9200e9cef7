import Derived.Test.YtibncofnnlbmcaaGreatDoorKAf
import Derived.Test.YtibncofnnlbmcaaGreatDoorKAe
import Derived.Test.YtibncofnnlbmcaaGreatDoorKQi
import Derived.Test.YtibncofnnlbmcaaGreatDoorKAb
import Derived.Test.YtibncofnnlbmcaaGreatDoorKPd
set_option maxRecDepth 100000
set_option maxHeartbeats 4000000
namespace Go.Proofs.YtibncofnnlbmcaaGreatDoor
open Go.RowKit
open Tp (Bs)
theorem indexA0 {w:World}{a:Option Addr}{cap:Nat}{l:List Ac}{p:Ac->Bool}{n:FuncId}(v:ActAt w l a)(O:l.length<=1000000)(G:∀(args:Array Value) (w:World),(callFunc n args).run Tryz.prog w=.ok (.enter n args) w)
  (hd:∀W (x:Ac) h ac,x∈l->Below w.heap.size w W->IntsAt W x.args h->Calls Tryz.prog n #[.agg (acells x h ac)] W fun e w'=>e=.returned (.bool (p x))/\Below W.heap.size W w') :
  Calls Tryz.prog 35 #[.slice a l.length cap,.func (.func n) #[] #[]] w fun e w'=>(∃k:Int,e=.returned (.int .i64 k)/\(decide (0<=k)=l.any p))/\Below w.heap.size w w':=by
 have I:(l.length:Int)<=1000000:=by omega
 have B:=zh v
 have C:=zh hd
 clear v hd
 go_enter Tryz.func35,Tryz.ntmps35
 go_wp2_with fail
 go_loopg [8] l.length (fun k E wr=>∃i:Nat,i<=l.length/\k=l.length-i/\E=.int .i64 (i:Int)/\Hid ((l.take i).any p=false)/\Hid (Below w.heap.size w wr))
 case atStart=>exact⟨0,by omega,by omega,rfl,rfl,Below.refl _ _⟩
 case round =>
  obtain⟨i,H,N,rfl,q,f⟩:=hrel
  by_cases m:i<l.length
  ·have y:(i:Int)<(l.length:Int):=by omega
   obtain⟨g,j,h,ac,rfl,b,s,_⟩:=(B.out.on f.out).c i m
   have D:wr.cell? ⟨g,j+i*5,none⟩=some (.int .i64 l[i].what):=b 0 (by omega)
   have J:wr.cell? ⟨g,j+i*5+1,none⟩=some (.string (bs l[i].text)):=by rw[Nat.add_assoc];exact b 1 (by omega)
   have K:wr.cell? ⟨g,j+i*5+2,none⟩=some (.string (bs l[i].name)):=by rw[Nat.add_assoc];exact b 2 (by omega)
   have L:wr.cell? ⟨g,j+i*5+3,none⟩=some (.string (bs l[i].proc)):=by rw[Nat.add_assoc];exact b 3 (by omega)
   have M:wr.cell? ⟨g,j+i*5+4,none⟩=some (.slice h l[i].args.length ac):=by rw[Nat.add_assoc];exact b 4 (by omega)
   have F:g<wr.heap.size:=zg D
   have t:=zh (C.out wr l[i] h ac (List.getElem_mem m) f.out s)
   unfold acells at t
   have A:Hid ((l.take (i+1)).any p=p l[i]):=by
    show _=_
    rw[List.take_succ_eq_append_getElem m,List.any_append,q.out];simp
   have z:Hid (p l[i]=true->l.any p=true):=fun e=>List.any_eq_true.2 ⟨_,List.getElem_mem m,e⟩
   clear b s
   generalize p l[i]=d at *
   generalize l[i].what=x0 at *
   generalize bs l[i].text=x1 at *
   generalize bs l[i].name=x2 at *
   generalize bs l[i].proc=x3 at *
   generalize l[i].args.length=x4 at *
   clear q
   go_wp2_with fail
   refine t.out.mono ?_
   rintro e P⟨rfl,u⟩
   have r:=zh (f.out.trans (u.mono f.out.size))
   clear u
   cases d with
   |true =>
    have o:=zh (z.out rfl)
    go_wp2_with fail
    go_ret
    refine⟨⟨_,rfl,?_⟩,r.out⟩
    rw[o.out]
    exact decide_eq_true (by omega)
   |false =>
    go_wp2_with fail
    go_roundg (l.length-(i+1))
    case measure=>omega
    case rel=>exact⟨i+1,by omega,rfl,by go_num,A,r⟩
  ·have y:¬(i:Int)<(l.length:Int):=by omega
   have o:Hid (l.any p=false):=by
    have:=q.out
    rw[List.take_of_length_le (by omega)]at this
    exact this
   go_wp2_with fail
   go_ret
   refine⟨⟨_,rfl,?_⟩,f.out⟩
   rw[o.out]
   rfl
theorem containsA0 {w:World}{a:Option Addr}{cap:Nat}{l:List Ac}{p:Ac->Bool}{b:FuncId}(d:ActAt w l a)(j:l.length<=1000000)(c:∀(args:Array Value) (w:World),(callFunc b args).run Tryz.prog w=.ok (.enter b args) w)
  (hd:∀W (x:Ac) aa ac,x∈l->Below w.heap.size w W->IntsAt W x.args aa->Calls Tryz.prog b #[.agg (acells x aa ac)] W fun e w'=>e=.returned (.bool (p x))/\Below W.heap.size W w') :
  Calls Tryz.prog 14 #[.slice a l.length cap,.func (.func b) #[] #[]] w fun e w'=>e=.returned (.bool (l.any p))/\Below w.heap.size w w':=by
 have g:=zh (indexA0 (cap:=cap) d j c hd)
 clear d hd c
 go_enter Tryz.func14,Tryz.ntmps14
 go_wp2_with fail
 refine g.out.mono ?_
 rintro e m⟨⟨k,rfl,f⟩,i⟩
 have h:=zh f
 clear f
 go_wp2_with fail
 go_ret
 exact⟨by rw[<-h.out];rfl,i⟩
def longA (x:Ac):Bool:=decide (1000<x.text.length) || (decide (40<x.name.length) || (decide (40<x.proc.length) || decide (10<x.args.length)))
theorem held_cf (args:Array Value)(w:World):(callFunc 26 args).run Tryz.prog w=.ok (.enter 26 args) w:=by kernel_rfl
theorem held1_post (w:World)(x:Ac)(d:Option Addr)(ac:Nat):Calls Tryz.prog 26 #[.agg (acells x d ac)] w fun e w'=>e=.returned (.bool (longA x))/\Below w.heap.size w w':=by
 obtain⟨w2,a⟩:∃w2,w2=w.alloc (.cells (acells x d ac) 31):=⟨_,rfl⟩
 have j:Below w.heap.size w w2:=by rw[a];exact zb _ _
 have b:w2.heap[w.heap.size]?=some (.cells (acells x d ac) 31 (0,0)):=by rw[a];exact zo _ _
 unfold acells at *
 have r:w2.cell? ⟨w.heap.size,1,none⟩=some (.string (bs x.text)):=(za b).trans rfl
 have s:w2.cell? ⟨w.heap.size,2,none⟩=some (.string (bs x.name)):=(za b).trans rfl
 have t:w2.cell? ⟨w.heap.size,3,none⟩=some (.string (bs x.proc)):=(za b).trans rfl
 have u:w2.cell? ⟨w.heap.size,4,none⟩=some (.slice d x.args.length ac):=(za b).trans rfl
 have v:=zf b
 have c:=zh j
 have o:((bs x.text).size:Int)=(x.text.length:Int):=by rw[yv]
 have p:((bs x.name).size:Int)=(x.name.length:Int):=by rw[yv]
 have q:((bs x.proc).size:Int)=(x.proc.length:Int):=by rw[yv]
 unfold longA
 clear b j
 by_cases f:1000<x.text.length
 ·have k:(x.text.length:Int) > 1000:=by omega
  rw[decide_eq_true f,Bool.true_or]
  clear f
  go_enter Tryz.func26,Tryz.ntmps26
  go_upto_region 1 with fail
  rw[<-a]
  clear a
  go_wp2_with fail
  go_ret
  exact⟨rfl,c.out⟩
 have k:¬(x.text.length:Int) > 1000:=by omega
 rw[decide_eq_false f,Bool.false_or]
 clear f
 by_cases g:40<x.name.length
 ·have l:(x.name.length:Int) > 40:=by omega
  rw[decide_eq_true g,Bool.true_or]
  clear g
  go_enter Tryz.func26,Tryz.ntmps26
  go_upto_region 1 with fail
  rw[<-a]
  clear a
  go_wp2_with fail
  go_ret
  exact⟨rfl,c.out⟩
 have l:¬(x.name.length:Int) > 40:=by omega
 rw[decide_eq_false g,Bool.false_or]
 clear g
 by_cases h:40<x.proc.length
 ·have m:(x.proc.length:Int) > 40:=by omega
  rw[decide_eq_true h,Bool.true_or]
  clear h
  go_enter Tryz.func26,Tryz.ntmps26
  go_upto_region 1 with fail
  rw[<-a]
  clear a
  go_wp2_with fail
  go_ret
  exact⟨rfl,c.out⟩
 have m:¬(x.proc.length:Int) > 40:=by omega
 rw[decide_eq_false h,Bool.false_or]
 clear h
 by_cases i:10<x.args.length
 ·have n:(x.args.length:Int) > 10:=by omega
  rw[decide_eq_true i]
  clear i
  go_enter Tryz.func26,Tryz.ntmps26
  go_upto_region 1 with fail
  rw[<-a]
  clear a
  go_wp2_with fail
  go_ret
  exact⟨rfl,c.out⟩
 ·have n:¬(x.args.length:Int) > 10:=by omega
  rw[decide_eq_false i]
  clear i
  go_enter Tryz.func26,Tryz.ntmps26
  go_upto_region 1 with fail
  rw[<-a]
  clear a
  go_wp2_with fail
  go_ret
  exact⟨rfl,c.out⟩
structure HeldA (l:List Ac):Prop where
 n:l.length<=12
 x:∀x∈l,x.text.length<=1000/\x.name.length<=40/\x.proc.length<=40/\x.args.length<=10
def HeldP (l:List Ac) (w:World) (e:Ending) (w':World):Prop:=(∃b,e=.returned (.bool b)/\(b=true->HeldA l))/\Below w.heap.size w w'
theorem held_post {w:World}{l:List Ac}{a:Option Addr}{cap:Nat}(b:ActAt w l a):Calls Tryz.prog 7 #[.slice a l.length cap] w (HeldP l w):=by
 by_cases d:l.length<=12
 ·have c:(l.length:Int)<=12:=by omega
  have g:=zh (containsA0 (cap:=cap) b (by omega) held_cf (fun W x n ac _ _ _=>held1_post W x n ac))
  have m:Hid ((!(l.any longA))=true->HeldA l):=fun e=>by
   have h:l.any longA=false:=by simpa using e
   rw[List.any_eq_false]at h
   refine⟨d,fun x o=>?_⟩
   have:=h x o
   unfold longA at this
   simp only[Bool.or_eq_true,decide_eq_true_eq,not_or,Nat.not_lt]at this
   exact this
  clear b d
  generalize l.any longA=r at *
  obtain⟨j,f⟩:∃j,j=l.length:=⟨_,rfl⟩
  rw[<-f]at c g ⊢
  clear f
  go_enter Tryz.func7,Tryz.ntmps7
  go_wp2_with fail
  refine g.out.mono ?_
  rintro e p⟨rfl,i⟩
  have k:=zh i
  clear i
  go_wp2_with fail
  go_ret
  refine⟨⟨!r,?_,m.out⟩,k.out⟩
  first|rfl|simp
 ·have c:¬(l.length:Int)<=12:=by omega
  clear b
  go_enter Tryz.func7,Tryz.ntmps7
  go_wp2_with fail
  go_ret
  exact⟨⟨false,rfl,fun e=>by cases e⟩,Below.refl _ _⟩
end Go.Proofs.YtibncofnnlbmcaaGreatDoor
namespace Go.Proofs.YtibncofnnlbmcaaGreatDoor
open Go.RowKit Go.Maps
open Tp (Bs X S G Pr Pt Rs Rr Own)
theorem ran_any {w:World}(c9:Mk w)(c8:Lv w):Calls Tryz.prog 8 #[] w fun e w'=>e=.returned (.bool true)/\Below w.heap.size w w':=by
 have hp:=yD w Tp.txtR (by decide) c9 c8
 have HP:Hid (Calls Tryz.prog 9 #[.string ⟨#[109,111,100,117,108,101,32,109,59,32,118,97,114,32,120,58,32,105,110,116,59,32,112,114,111,99,32,102,42,40,97,41,59,32,98,101,103,105,110,32,120,32,58,61,32,120,32,43,32,97,59,32,114,101,116,117,114,110,32,120,32,42,32,50,59,32,101,110,100,59,32,98,101,103,105,110,32,119,114,105,116,101,32,102,40,51,41,59,32,101,110,100,46]⟩] w fun e w'=>Below w.heap.size w w'/\∃v,e=.returned (.tuple #[v,.nilIface])/\VM w.heap.size Tp.modR v w'):=by
  refine hp.mono ?_
  rintro e w'⟨R,h2⟩
  unfold ParseP at h2
  rw[Tp.parseR]at h2
  exact⟨R,h2⟩
 have d2:=(Tp.parse_wm Tp.parseR).1
 have b7:=zh d2
 clear hp c9 c8 d2
 go_enter Tryz.func8,Tryz.ntmps8
 go_wp2_with fail
 refine HP.out.mono ?_
 rintro e d⟨R,v1,rfl,d1⟩
 obtain⟨A,x,C,t,B,y,D,u,rfl,b0⟩:=d1.mb
 have Q:mcells (bs Tp.modR.name) (.slice A Tp.modR.imports.length B) (.slice x Tp.modR.vars.length y) (.slice C Tp.modR.procs.length D) (.slice t Tp.modR.body.length u)=#[.string ⟨#[109]⟩,.slice A 0 B,.slice x 1 y,.slice C 1 D,.slice t 1 u]:=rfl
 obtain⟨h,J⟩:∃h,h=(d.alloc (.cells #[.string ⟨#[109]⟩,.slice A 0 B,.slice x 1 y,.slice C 1 D,.slice t 1 u] 36)).alloc (.cells #[.slice none 0 0,.map none] 28):=⟨_,rfl⟩
 have e4:h.heap.size=d.heap.size+2:=by rw[J];simp
 have V:Below d.heap.size d h:=by rw[J];exact(zb _ _).alloc (by simp) _
 have a9:h.heap[d.heap.size+1]?=some (.cells #[.slice none 0 0,.map none] 28 (0,0)):=by
  have:=zo (d.alloc (.cells #[.string ⟨#[109]⟩,.slice A 0 B,.slice x 1 y,.slice C 1 D,.slice t 1 u] 36)) (.cells #[.slice none 0 0,.map none] 28)
  rw[J];simpa using this
 have F:h.heap[d.heap.size]?=some (.cells #[.string ⟨#[109]⟩,.slice A 0 B,.slice x 1 y,.slice C 1 D,.slice t 1 u] 36 (0,0)):=by
  rw[J];exact(Below.heap_alloc _ _ _ (by simp)).trans (zo _ _)
 have e3:=R.size
 have b2:Hid (∀(a:World) (U':Nat->Prop),WZ (fun _=>False) U' 1 a (d.heap.size+1) (Tp.loadW ofS [] Tp.modR 100).w->(∀b,U' b->w.heap.size<=b/\b<a.heap.size)->Below w.heap.size w a->∀(f:World) (s:Nat),Below a.heap.size a f->f.cell? ⟨s,0,none⟩=some (.int .i64 4)->Calls Tryz.prog 27 #[.pointer (some ⟨d.heap.size+1,0,none⟩),.string ⟨#[109]⟩,.string ⟨#[102]⟩,.slice (some ⟨s,0,none⟩) 1 1,.int .i64 100] f fun e l=>∃r K g,e=.returned (.tuple #[.agg #[.int .i64 1,.slice r K g],.int .i64 14,.nilIface])/\Below w.heap.size w l/\∀b,a.heap.size<=b->b<f.heap.size->l.heap[b]?=f.heap[b]?):=by
  intro a U' hz hU M f s m c3
  have G:=Tp.ranR ofS
  have d7:IntsAt f [4] (some ⟨s,0,none⟩):=⟨fun i hi=>by
   have:i=0:=by simp at hi;omega
   subst this
   exact⟨s,0,rfl,zg c3,c3⟩⟩
  have hc:=call_any (nm:=[102]) (vs:=[4]) (md:=[109]) (ac:=1) (fuel:=100) (hz.on m) (by omega) (by decide) (fun v hv=>by rw[List.mem_singleton]at hv;subst hv;unfold Tp.I64;omega) d7 (by decide)
  refine hc.mono ?_
  rintro e l⟨r,g,ev,S,U,O⟩
  obtain⟨U2,_,n⟩:=U.wz
  rw[G.2.2.1]at O
  have a2:ev=.nilIface:=O
  rw[G.2.2.2.1,G.2.2.2.2,a2]at S
  have f4:=m.size
  have b1:=M.size
  refine⟨r,_,g,S,⟨(n.os.trans m.os).trans M.os,(n.tape.trans m.tape).trans M.tape,(n.output.trans m.output).trans M.output,by have:=n.size;omega,fun b hb=>?_⟩,fun b h4 h8=>n.block b h8 (fun q=>by have:=hU b q;omega)⟩
  exact((n.block b (by omega) (fun q=>by have:=hU b q;omega)).trans (m.block b (by omega))).trans (M.block b hb)
 have HL:Hid (Calls Tryz.prog 17 #[.pointer (some ⟨d.heap.size+1,0,none⟩),.agg #[.string ⟨#[109]⟩,.slice A 0 B,.slice x 1 y,.slice C 1 D,.slice t 1 u],.int .i64 100] h fun e a=>∃b o g,e=.returned (.tuple #[.agg #[.int .i64 1,.slice (some ⟨b,o,none⟩) 1 g],.nilIface])/\a.cell? ⟨b,o,none⟩=some (.int .i64 6)/\(∀(f:World) (s:Nat),Below a.heap.size a f->f.cell? ⟨s,0,none⟩=some (.int .i64 4)->Calls Tryz.prog 27 #[.pointer (some ⟨d.heap.size+1,0,none⟩),.string ⟨#[109]⟩,.string ⟨#[102]⟩,.slice (some ⟨s,0,none⟩) 1 1,.int .i64 100] f fun e l=>∃r K g,e=.returned (.tuple #[.agg #[.int .i64 1,.slice r K g],.int .i64 14,.nilIface])/\Below w.heap.size w l/\∀b,a.heap.size<=b->b<f.heap.size->l.heap[b]?=f.heap[b]?)/\h.heap.size<=a.heap.size):=by
  have e5:WZ (fun _=>False) (fun b=>b=d.heap.size+1) 0 h (d.heap.size+1) []:=WZ.zero a9 (fun q=>q)
  have d8:MD h (fun b=>b<d.heap.size) Tp.modR A x C t B y D u:=(b0.md).mono (fun b hb hl=>⟨V.block b hl,hb⟩)
  have d9:Tp.nM Tp.modR<=9000:=by
   have h2:=(Tp.parse_wm Tp.parseR).2
   have e2:Tp.txtR.length<=1000:=by decide
   omega
  have hl:=vT (fuel:=100) e5 (fun b q=>q.elim) (by omega) (b0.up V) d8 (fun b hb _=>⟨fun q=>q,by omega⟩) b7.out d9 (by omega)
  rw[Q]at hl
  refine hl.mono ?_
  rintro e a⟨r,g,ev,S,_,U,O⟩
  have G:=Tp.ranR ofS
  obtain⟨U2,d3,n⟩:=U.wz
  rw[G.1]at O
  have a2:ev=.nilIface:=O
  have c5:=U.it
  rw[G.2.1,a2]at S
  rw[G.2.1]at c5
  obtain⟨b,o,rfl,_,hc⟩:=c5.c 0 (by decide)
  have b1:=n.size
  exact⟨b,o,g,S,hc,b2.out a U2 d3 (fun b q=>by
   have h4:=(d3.lt q).1
   rcases n.more b q with z|z
   ·exact⟨by rw[z];omega,h4⟩
   ·exact⟨by omega,h4⟩) ((R.trans (V.mono e3)).trans (n.toBelow (by omega) (fun b q=>by rw[q];omega))),b1⟩
 rw[Q]
 have k0:h.cell? ⟨d.heap.size,0,none⟩=some (.string ⟨#[109]⟩):=(za F).trans rfl
 have k1:h.cell? ⟨d.heap.size,1,none⟩=some (.slice A 0 B):=(za F).trans rfl
 have k2:h.cell? ⟨d.heap.size,2,none⟩=some (.slice x 1 y):=(za F).trans rfl
 have k3:h.cell? ⟨d.heap.size,3,none⟩=some (.slice C 1 D):=(za F).trans rfl
 have k4:h.cell? ⟨d.heap.size,4,none⟩=some (.slice t 1 u):=(za F).trans rfl
 have e8:=zf F
 have e9:=zf a9
 clear d1 b0 Q F a9 V R b2 HP b7 e4
 go_upto_region 5 with fail
 rw[<-J]
 clear J
 go_wp2_with fail
 refine HL.out.mono ?_
 rintro e a⟨b,o,g,rfl,Y,b3,b1⟩
 obtain⟨k,Z⟩:∃k,k=a.alloc (.cells #[.int .i64 1,.slice (some ⟨b,o,none⟩) 1 g] 43):=⟨_,rfl⟩
 have L:k.heap[a.heap.size]?=some (.cells #[.int .i64 1,.slice (some ⟨b,o,none⟩) 1 g] 43 (0,0)):=by rw[Z];exact zo _ _
 have W:Below a.heap.size a k:=by rw[Z];exact zb _ _
 obtain⟨E,a0⟩:∃E,E=k.alloc (.cells #[.int .i64 6] 2):=⟨_,rfl⟩
 have N:Below k.heap.size k E:=by rw[a0];exact zb _ _
 have b9:E.heap[k.heap.size]?=some (.cells #[.int .i64 6] 2 (0,0)):=by rw[a0];exact zo _ _
 have d0:=W.size
 have f2:=N.size
 have d5:=zf L
 have c6:E.cell? ⟨b,o,none⟩=some (.int .i64 6):=(N.cell (p:=⟨b,o,none⟩) (Nat.lt_of_lt_of_le (zg Y) d0)).trans ((W.cell (p:=⟨b,o,none⟩) (zg Y)).trans Y)
 have d6:E.cell? ⟨k.heap.size,0,none⟩=some (.int .i64 6):=(za b9).trans rfl
 have b6:=zh (eq_one (c1:=g) (c2:=1) c6 d6)
 clear d6
 have a6:Hid (E.heap[a.heap.size]?=some (.cells #[.int .i64 1,.slice (some ⟨b,o,none⟩) 1 g] 43 (0,0))):=(N.block _ d5).trans L
 have a4:Hid (Below a.heap.size a E):=W.trans (N.mono d0)
 have f0:k.cell? ⟨a.heap.size,0,none⟩=some (.int .i64 1):=(za L).trans rfl
 have f1:k.cell? ⟨a.heap.size,1,none⟩=some (.slice (some ⟨b,o,none⟩) 1 g):=(za L).trans rfl
 have b5:=zh b3
 clear L W N b9 c6 Y b3 k0 k1 k2 k3 k4
 go_upto_region 6 with fail
 rw[<-Z]
 clear Z
 go_upto_region 7 with(go_at_call 24;rw[<-a0];refine b6.out.mono ?_;rintro e H ⟨rfl,X⟩)
 have f3:=X.size
 have a5:Hid (Below a.heap.size a H):=a4.out.trans (X.mono a4.out.size)
 have a7:Hid (H.heap[a.heap.size]?=some (.cells #[.int .i64 1,.slice (some ⟨b,o,none⟩) 1 g] 43 (0,0))):=(X.block _ (zf a6.out)).trans a6.out
 clear X a0 a6 a4 b6 f0 f1
 obtain⟨f,a1⟩:∃f,f=H.alloc (.cells #[.int .i64 4] 2):=⟨_,rfl⟩
 have m:Below H.heap.size H f:=by rw[a1];exact zb _ _
 have c0:f.heap[H.heap.size]?=some (.cells #[.int .i64 4] 2 (0,0)):=by rw[a1];exact zo _ _
 have b8:=(m.block _ (zf a7.out)).trans a7.out
 have b4:=zh (b5.out f H.heap.size (a5.out.trans (m.mono a5.out.size)) ((za c0).trans rfl))
 have a8:=zh b8
 clear b5 c0 m b8 a5 a7
 go_wp2_with fail
 rw[<-a1]
 refine b4.out.mono ?_
 rintro e l⟨r,K,d4,rfl,c4,c7⟩
 have I:=(c7 _ zn (zf a8.out)).trans a8.out
 have Q:l.cell? ⟨a.heap.size,0,none⟩=some (.int .i64 1):=(za I).trans rfl
 have e1:l.cell? ⟨a.heap.size,1,none⟩=some (.slice (some ⟨b,o,none⟩) 1 g):=(za I).trans rfl
 have ez:∀j,l.frozen? ⟨a.heap.size,j,none⟩=false:=fun j=>zi I
 have e6:=zf I
 have a3:=zu 1 (.slice r K d4) (zu 0 (.int .i64 1) I)
 obtain⟨T,P⟩:∃T,T=(l.setCell ⟨a.heap.size,0,none⟩ (.int .i64 1)).setCell ⟨a.heap.size,1,none⟩ (.slice r K d4):=⟨_,rfl⟩
 have g0:T.cell? ⟨a.heap.size,0,none⟩=some (.int .i64 1):=by rw[P];exact(za a3).trans rfl
 have HF:Hid (Below w.heap.size w T):=by
  show Below _ _ _
  rw[P]
  exact zq (zq c4 (by omega) 0 _) (by omega) 1 _
 have e7:a.heap.size<T.heap.size:=by rw[P];exact zf a3
 clear a3 I c7 c4 b4 a8 a1 HL
 go_upto_region 9 with fail
 rw[<-P]
 clear P Q e1 ez
 go_wp2_with fail
 go_ret
 exact⟨rfl,HF.out⟩
theorem indexG0 {w:World}{a:Option Addr}{cap:Nat}{l:List G}{p:G->Bool}{m:FuncId}(u:GlAt w l a)(P:l.length<=1000)(I:∀(args:Array Value) (w:World),(callFunc m args).run Tryz.prog w=.ok (.enter m args) w)
  (hd:∀W (x:G),x∈l->Below w.heap.size w W->Calls Tryz.prog m #[gval x] W fun e w'=>e=.returned (.bool (p x))/\Below W.heap.size W w') :
  Calls Tryz.prog 50 #[.slice a l.length cap,.func (.func m) #[] #[]] w fun e w'=>(∃k:Int,e=.returned (.int .i64 k)/\(decide (0<=k)=l.any p))/\Below w.heap.size w w':=by
 have K:(l.length:Int)<=1000:=by omega
 have A:=zh u
 have C:=zh hd
 clear u hd
 go_enter Tryz.func50,Tryz.ntmps50
 go_wp2_with fail
 go_loopg [8] l.length (fun k F wr=>∃i:Nat,i<=l.length/\k=l.length-i/\F=.int .i64 (i:Int)/\Hid ((l.take i).any p=false)/\Hid (Below w.heap.size w wr))
 case atStart=>exact⟨0,by omega,by omega,rfl,rfl,Below.refl _ _⟩
 case round =>
  obtain⟨i,J,O,rfl,o,f⟩:=hrel
  by_cases h:i<l.length
  ·have v:(i:Int)<(l.length:Int):=by omega
   obtain⟨g,rfl,B,r⟩:=A.out.c i h
   have b:∀j,j<4->wr.cell? ⟨g,i*4+j,none⟩=(gcells (bs l[i].name) (l[i].pos:Int) (l[i].len:Int) l[i].seen).toList[j]?:=fun j E=>(f.out.cell (p:=⟨g,i*4+j,none⟩) B).trans (r j E)
   have D:wr.cell? ⟨g,i*4,none⟩=some (.string (bs l[i].name)):=b 0 (by omega)
   have L:wr.cell? ⟨g,i*4+1,none⟩=some (.int .i64 (l[i].pos:Int)):=b 1 (by omega)
   have M:wr.cell? ⟨g,i*4+2,none⟩=some (.int .i64 (l[i].len:Int)):=b 2 (by omega)
   have N:wr.cell? ⟨g,i*4+3,none⟩=some (.bool l[i].seen):=b 3 (by omega)
   have H:g<wr.heap.size:=zg D
   have s:=zh (C.out wr l[i] (List.getElem_mem h) f.out)
   unfold gval gcells at s
   have z:Hid ((l.take (i+1)).any p=p l[i]):=by
    show _=_
    rw[List.take_succ_eq_append_getElem h,List.any_append,o.out];simp
   have y:Hid (p l[i]=true->l.any p=true):=fun e=>List.any_eq_true.2 ⟨_,List.getElem_mem h,e⟩
   clear b r
   generalize p l[i]=d at *
   generalize bs l[i].name=x at *
   generalize (l[i].pos:Int)=x1 at *
   generalize (l[i].len:Int)=x2 at *
   generalize l[i].seen=x3 at *
   clear o
   go_wp2_with fail
   refine s.out.mono ?_
   rintro e Q⟨rfl,t⟩
   have q:=zh (f.out.trans (t.mono f.out.size))
   clear t
   cases d with
   |true =>
    have n:=zh (y.out rfl)
    go_wp2_with fail
    go_ret
    refine⟨⟨_,rfl,?_⟩,q.out⟩
    rw[n.out]
    exact decide_eq_true (by omega)
   |false =>
    go_wp2_with fail
    go_roundg (l.length-(i+1))
    case measure=>omega
    case rel=>exact⟨i+1,by omega,rfl,by go_num,z,q⟩
  ·have v:¬(i:Int)<(l.length:Int):=by omega
   have n:Hid (l.any p=false):=by
    have:=o.out
    rw[List.take_of_length_le (by omega)]at this
    exact this
   go_wp2_with fail
   go_ret
   refine⟨⟨_,rfl,?_⟩,f.out⟩
   rw[n.out]
   rfl
theorem containsG0 {w:World}{a:Option Addr}{cap:Nat}{l:List G}{p:G->Bool}{b:FuncId}(d:GlAt w l a)(j:l.length<=1000)(c:∀(args:Array Value) (w:World),(callFunc b args).run Tryz.prog w=.ok (.enter b args) w)
  (hd:∀W (x:G),x∈l->Below w.heap.size w W->Calls Tryz.prog b #[gval x] W fun e w'=>e=.returned (.bool (p x))/\Below W.heap.size W w') :
  Calls Tryz.prog 19 #[.slice a l.length cap,.func (.func b) #[] #[]] w fun e w'=>e=.returned (.bool (l.any p))/\Below w.heap.size w w':=by
 have g:=zh (indexG0 (cap:=cap) d j c hd)
 clear d hd c
 go_enter Tryz.func19,Tryz.ntmps19
 go_wp2_with fail
 refine g.out.mono ?_
 rintro e m⟨⟨k,rfl,f⟩,i⟩
 have h:=zh f
 clear f
 go_wp2_with fail
 go_ret
 exact⟨by rw[<-h.out];rfl,i⟩
structure PcAt (w:World) (ps:List Pr) (a:Option Addr):Prop where
 c:∀i (h:i<ps.length),∃b pv vv bv,a=some ⟨b,0,none⟩/\b<w.heap.size/\∀j,j<6->w.cell? ⟨b,i*6+j,none⟩=(pcells (bs ps[i].name) (ps[i].pos:Int) ps[i].seen pv vv bv).toList[j]?
theorem MD.prs {w:World}{D:Nat->Prop}{m:Tp.M}{j e a b:Option Addr}{k f n c:Nat}(h:MD w D m j e a b k f n c):PcAt w m.procs a:=⟨fun i g=>by
 obtain⟨l,o,vv,d,_,p,_,q,r,_⟩:=h.procs i g
 exact⟨l,o,vv,d,p,q,r⟩⟩
theorem indexP0 {w:World}{a:Option Addr}{cap:Nat}{l:List Pr}{p:Pr->Bool}{o:FuncId}(y:PcAt w l a)(S:l.length<=1000)(J:∀(args:Array Value) (w:World),(callFunc o args).run Tryz.prog w=.ok (.enter o args) w)
  (hd:∀W (x:Pr) m vv h,x∈l->Below w.heap.size w W->Calls Tryz.prog o #[.agg (pcells (bs x.name) (x.pos:Int) x.seen m vv h)] W fun e w'=>e=.returned (.bool (p x))/\Below W.heap.size W w') :
  Calls Tryz.prog 51 #[.slice a l.length cap,.func (.func o) #[] #[]] w fun e w'=>(∃k:Int,e=.returned (.int .i64 k)/\(decide (0<=k)=l.any p))/\Below w.heap.size w w':=by
 have L:(l.length:Int)<=1000:=by omega
 have C:=zh y
 have E:=zh hd
 clear y hd
 go_enter Tryz.func51,Tryz.ntmps51
 go_wp2_with fail
 go_loopg [8] l.length (fun k H wr=>∃i:Nat,i<=l.length/\k=l.length-i/\H=.int .i64 (i:Int)/\Hid ((l.take i).any p=false)/\Hid (Below w.heap.size w wr))
 case atStart=>exact⟨0,by omega,by omega,rfl,rfl,Below.refl _ _⟩
 case round =>
  obtain⟨i,K,R,rfl,r,f⟩:=hrel
  by_cases n:i<l.length
  ·have z:(i:Int)<(l.length:Int):=by omega
   obtain⟨g,m,vv,h,rfl,D,t⟩:=C.out.c i n
   have b:∀j,j<6->wr.cell? ⟨g,i*6+j,none⟩=(pcells (bs l[i].name) (l[i].pos:Int) l[i].seen m vv h).toList[j]?:=fun j G=>(f.out.cell (p:=⟨g,i*6+j,none⟩) D).trans (t j G)
   have F:wr.cell? ⟨g,i*6,none⟩=some (.string (bs l[i].name)):=b 0 (by omega)
   have M:wr.cell? ⟨g,i*6+1,none⟩=some (.int .i64 (l[i].pos:Int)):=b 1 (by omega)
   have N:wr.cell? ⟨g,i*6+2,none⟩=some (.bool l[i].seen):=b 2 (by omega)
   have O:wr.cell? ⟨g,i*6+3,none⟩=some m:=b 3 (by omega)
   have P:wr.cell? ⟨g,i*6+4,none⟩=some vv:=b 4 (by omega)
   have Q:wr.cell? ⟨g,i*6+5,none⟩=some h:=b 5 (by omega)
   have I:g<wr.heap.size:=zg F
   have u:=zh (E.out wr l[i] m vv h (List.getElem_mem n) f.out)
   unfold pcells at u
   have B:Hid ((l.take (i+1)).any p=p l[i]):=by
    show _=_
    rw[List.take_succ_eq_append_getElem n,List.any_append,r.out];simp
   have A:Hid (p l[i]=true->l.any p=true):=fun e=>List.any_eq_true.2 ⟨_,List.getElem_mem n,e⟩
   clear b t
   generalize p l[i]=d at *
   generalize bs l[i].name=x at *
   generalize (l[i].pos:Int)=x1 at *
   generalize l[i].seen=x3 at *
   clear r
   go_wp2_with fail
   refine u.out.mono ?_
   rintro e T⟨rfl,v⟩
   have s:=zh (f.out.trans (v.mono f.out.size))
   clear v
   cases d with
   |true =>
    have q:=zh (A.out rfl)
    go_wp2_with fail
    go_ret
    refine⟨⟨_,rfl,?_⟩,s.out⟩
    rw[q.out]
    exact decide_eq_true (by omega)
   |false =>
    go_wp2_with fail
    go_roundg (l.length-(i+1))
    case measure=>omega
    case rel=>exact⟨i+1,by omega,rfl,by go_num,B,s⟩
  ·have z:¬(i:Int)<(l.length:Int):=by omega
   have q:Hid (l.any p=false):=by
    have:=r.out
    rw[List.take_of_length_le (by omega)]at this
    exact this
   go_wp2_with fail
   go_ret
   refine⟨⟨_,rfl,?_⟩,f.out⟩
   rw[q.out]
   rfl
theorem containsP0 {w:World}{a:Option Addr}{cap:Nat}{l:List Pr}{p:Pr->Bool}{b:FuncId}(d:PcAt w l a)(j:l.length<=1000)(c:∀(args:Array Value) (w:World),(callFunc b args).run Tryz.prog w=.ok (.enter b args) w)
  (hd:∀W (x:Pr) pv vv bv,x∈l->Below w.heap.size w W->Calls Tryz.prog b #[.agg (pcells (bs x.name) (x.pos:Int) x.seen pv vv bv)] W fun e w'=>e=.returned (.bool (p x))/\Below W.heap.size W w') :
  Calls Tryz.prog 21 #[.slice a l.length cap,.func (.func b) #[] #[]] w fun e w'=>e=.returned (.bool (l.any p))/\Below w.heap.size w w':=by
 have g:=zh (indexP0 (cap:=cap) d j c hd)
 clear d hd c
 go_enter Tryz.func21,Tryz.ntmps21
 go_wp2_with fail
 refine g.out.mono ?_
 rintro e m⟨⟨k,rfl,f⟩,i⟩
 have h:=zh f
 clear f
 go_wp2_with fail
 go_ret
 exact⟨by rw[<-h.out];rfl,i⟩
def freshN:Bs:=[102,114,101,115,104]
theorem fresh1_cf (args:Array Value)(w:World):(callFunc 20 args).run Tryz.prog w=.ok (.enter 20 args) w:=by kernel_rfl
theorem fresh2_cf (args:Array Value)(w:World):(callFunc 22 args).run Tryz.prog w=.ok (.enter 22 args) w:=by kernel_rfl
theorem fresh_eq (a:Bs):((bs a).toList==[102,114,101,115,104])=decide (a=freshN):=by rw[zj,Bool.eq_iff_iff,decide_eq_true_iff,beq_iff_eq];rfl
theorem qk (w:World){g:G}:Calls Tryz.prog 20 #[.agg (gcells (bs g.name) (g.pos:Int) (g.len:Int) g.seen)] w fun e w'=>e=.returned (.bool (decide (g.name=freshN)))/\Below w.heap.size w w':=by
 obtain⟨w2,a⟩:∃w2,w2=w.alloc (.cells (gcells (bs g.name) (g.pos:Int) (g.len:Int) g.seen) 61):=⟨_,rfl⟩
 have c:Below w.heap.size w w2:=by rw[a];exact zb _ _
 have b:w2.heap[w.heap.size]?=some (.cells (gcells (bs g.name) (g.pos:Int) (g.len:Int) g.seen) 61 (0,0)):=by rw[a];exact zo _ _
 have h:w2.cell? ⟨w.heap.size,0,none⟩=some (.string (bs g.name)):=(za b).trans rfl
 have i:=zf b
 have d:=zh c
 have f:Hid (((bs g.name).toList==[102,114,101,115,104])=decide (g.name=freshN)):=fresh_eq _
 unfold gcells at *
 generalize decide (g.name=freshN)=dd at *
 clear b c
 go_enter Tryz.func20,Tryz.ntmps20
 go_upto_region 1 with fail
 rw[<-a]
 clear a
 go_wp2_with fail
 go_ret
 refine⟨?_,d.out⟩
 rw[<-f.out]
 rfl
theorem qj (w:World){g:Pr}{c vv b:Value}:Calls Tryz.prog 22 #[.agg (pcells (bs g.name) (g.pos:Int) g.seen c vv b)] w fun e w'=>e=.returned (.bool (decide (g.name=freshN)))/\Below w.heap.size w w':=by
 obtain⟨w2,a⟩:∃w2,w2=w.alloc (.cells (pcells (bs g.name) (g.pos:Int) g.seen c vv b) 65):=⟨_,rfl⟩
 have f:Below w.heap.size w w2:=by rw[a];exact zb _ _
 have d:w2.heap[w.heap.size]?=some (.cells (pcells (bs g.name) (g.pos:Int) g.seen c vv b) 65 (0,0)):=by rw[a];exact zo _ _
 have j:w2.cell? ⟨w.heap.size,0,none⟩=some (.string (bs g.name)):=(za d).trans rfl
 have k:=zf d
 have h:=zh f
 have i:Hid (((bs g.name).toList==[102,114,101,115,104])=decide (g.name=freshN)):=fresh_eq _
 unfold pcells at *
 generalize decide (g.name=freshN)=dd at *
 clear d f
 go_enter Tryz.func22,Tryz.ntmps22
 go_upto_region 1 with fail
 rw[<-a]
 clear a
 go_wp2_with fail
 go_ret
 refine⟨?_,h.out⟩
 rw[<-i.out]
 rfl
end Go.Proofs.YtibncofnnlbmcaaGreatDoor
namespace Tp
theorem get_back {w:List Pt}{m:M}{g:G}{p:Pt}(d:partOf w m.name=some p)(h:p.m=m)(j:∀v∈m.vars,v.name≠g.name)(md nm:Bs):getW (putM (putM w (moreV m g)) m) md nm=getW w md nm:=by
 by_cases e:md=m.name
 ·have f:partOf (putM w (moreV m g)) m.name=some ⟨moreV m g,swapV p.m (moreV m g) p.vars⟩:=part_put_self (m:=moreV m g) d
  unfold getW
  rw[e,part_put_self f,d]
  simp only[Option.bind_some]
  rw[h,ju]
  cases a:m.vars.find? fun v=>v.name==nm with
  |none=>rfl
  |some v =>
   have b:=List.mem_of_find?_eq_some a
   have c:v.name=nm:=by have:=List.find?_some a;simpa using this
   have i:nm≠g.name:=c ▸ j v b
   simp only[Option.isSome_some,if_true]
   congr 1
   unfold swapV
   rw[a,jg i,a]
   simp only
   rw[if_pos,if_pos]
   ·rw[List.any_eq_true]
    exact⟨v,b,by simp[c]⟩
   ·rw[List.any_eq_true]
    exact⟨v,List.mem_cons_of_mem _ b,by simp[c]⟩
 ·unfold getW
  rw[part_put e,part_put (m:=moreV m g) e]
theorem call_ms {w:List Pt}{md pn:Bs}{args:List Int}{f:Nat}:ms (callW w md pn args f).w=ms w:=by
 unfold callW
 cases h:(partOf w md).bind fun p=>p.m.procs.find? fun c=>c.name==pn&&c.seen with
 |none=>rfl
 |some c =>
  simp only
  split
  ·rfl
  ·obtain⟨i,b,d⟩:=Option.bind_eq_some_iff.1 h
   have e:SizeOf.sizeOf c.body<=bodySz w:=bodySz_bd w 0 [] i (List.mem_of_find?_eq_some b) c (List.mem_of_find?_eq_some d)
   have g:=callP_enough (fuel:=f) (md:=md) (vs:=args) (out:=[]) e
   have:=(ke_all (Tp.nd (bodySz w) f 0)).cl 0 md c args ⟨w,f,[]⟩
   cases a:callP (Tp.nd (bodySz w) f 0) 0 md c args ⟨w,f,[]⟩ with
   |ok v s1=>rw[a]at this;exact this
   |stop way s1=>rw[a]at this;exact this
   |gas=>exact absurd a g
theorem swap_ms {a:M->List Sy}{w:List Pt}{m:M}(h:(swapW a w m).err=none):m∈ms (swapW a w m).w/\∀x∈ms w,x.name≠m.name->x∈ms (swapW a w m).w:=by
 unfold swapW at h ⊢
 cases b:partOf w m.name with
 |none=>rw[b]at h;cases h
 |some p =>
  rw[b]at h
  simp only at h ⊢
  cases c:check m (seenW a w) with
  |some e=>rw[c]at h;cases h
  |none =>
   rw[c]at h
   simp only at h ⊢
   split at h
   ·cases h
   ·rename_i d
    split at h
    ·cases h
    ·rename_i f
     rw[if_neg d,if_neg f]
     obtain⟨k,l⟩:=part_name b
     refine⟨List.mem_map.2 ⟨_,List.mem_map.2 ⟨p,k,rfl⟩,by rw[if_pos l]⟩,fun x j g=>?_⟩
     obtain⟨q,i,rfl⟩:=List.mem_map.1 j
     exact List.mem_map.2 ⟨_,List.mem_map.2 ⟨q,i,rfl⟩,by rw[if_neg g]⟩
theorem load_ms {a:M->List Sy}{w:List Pt}{m:M}{f:Nat}(h:(loadW a w m f).err=none):m∈ms (loadW a w m f).w/\∀x∈ms w,x∈ms (loadW a w m f).w:=by
 unfold loadW at h ⊢
 split at h
 ·cases h
 ·rename_i c
  rw[if_neg c]
  cases b:check m (seenW a w) with
  |some e=>rw[b]at h;cases h
  |none =>
   rw[b]at h
   simp only at h ⊢
   split at h
   ·cases h
   ·rename_i d
    rw[if_neg d]
    simp only
    rw[xX goS_enough]
    simp only[ms,List.map_append,List.mem_append,List.map_cons,List.map_nil,List.mem_singleton]
    exact⟨Or.inr (by first|trivial|rfl),fun x g=>Or.inl g⟩
end Tp
namespace Go.Proofs.YtibncofnnlbmcaaGreatDoor
open Go.RowKit Go.Maps
open Tp (Bs X S G Pr Pt Rs Rr Own)
theorem jV {P Q:List Pt}(f:P.map (fun p=>p.m.name)=Q.map fun p=>p.m.name)(c:∀n v,v∈vars5->Tp.getW P n v=Tp.getW Q n v):allB P=allB Q:=by
 have b:∀(l:List Bs),(∀v∈l,v∈vars5)->∀n s,l.foldl (varS P n) s=l.foldl (varS Q n) s:=by
  intro l
  induction l with
  |nil=>intro _ _ _;rfl
  |cons v t ih =>
   intro a n s
   rw[List.foldl_cons,List.foldl_cons,ih (fun k d=>a k (by simp[d]))]
   congr 1
   unfold varS
   rw[c n v (a v (by simp))]
 have e:modS P=modS Q:=by
  funext s n
  unfold modS
  rw[b vars5 (fun _ h=>h)]
 unfold allB
 rw[f,e]
theorem yR (P:List Pt)(m:Tp.M):(Tp.putM P m).map (fun p=>p.m.name)=P.map fun p=>p.m.name:=by
 have:=Tp.put_names (w:=P) (m:=m)
 simpa[Tp.ms,Function.comp_def] using this
def freshG:G:=⟨freshN,0,2,false⟩
theorem fresh_vars {v:Bs}(h:v∈vars5):v≠freshN:=by
 intro e
 subst e
 revert h
 decide
theorem uX {P:List Pt}{m:Tp.M}(h:Tp.WI ofS P)(a:m∈Tp.ms P):(Tp.swapW ofS P m).err=none/\(Tp.swapW ofS P m).w=Tp.putM P m/\allB (Tp.putM P m)=allB P/\m∈Tp.ms (Tp.putM P m):=by
 obtain⟨p,c,b⟩:=Tp.part_of_mem h a
 obtain⟨s1,s2⟩:=Tp.swap_self h a
 refine⟨s1,s2,jV (yR P m) (fun n v _=>Tp.get_self c b n v),?_⟩
 obtain⟨q,d,rfl⟩:=List.mem_map.1 a
 exact List.mem_map.2 ⟨_,List.mem_map.2 ⟨q,d,rfl⟩,by simp⟩
theorem more_plain {P:List Pt}{m:Tp.M}(h:Tp.WI ofS P)(f:m∈Tp.ms P)(e:∀v∈m.vars,v.name≠freshN)(j:∀p∈m.procs,p.name≠freshN) :
  (Tp.swapW ofS P (Tp.moreV m freshG)).err=none/\(Tp.swapW ofS P (Tp.moreV m freshG)).w=Tp.putM P (Tp.moreV m freshG)/\allB (Tp.putM P (Tp.moreV m freshG))=allB P/\Tp.getW (Tp.putM P (Tp.moreV m freshG)) m.name freshN=some [0,0] /\
  (Tp.swapW ofS (Tp.putM P (Tp.moreV m freshG)) m).err=none/\(Tp.swapW ofS (Tp.putM P (Tp.moreV m freshG)) m).w=Tp.putM (Tp.putM P (Tp.moreV m freshG)) m/\allB (Tp.putM (Tp.putM P (Tp.moreV m freshG)) m)=allB P/\Tp.getW (Tp.putM (Tp.putM P (Tp.moreV m freshG)) m) m.name freshN=none:=by
 obtain⟨p,d,c⟩:=Tp.part_of_mem h f
 have i:ofS (Tp.moreV m freshG)=ofS m:=by
  unfold ofS
  congr 1
 obtain⟨s1,s2⟩:=Tp.swap_moreV h f (g:=freshG) e j i
 obtain⟨s3,s4⟩:=Tp.swap_back h f (g:=freshG) i
 refine⟨s1,s2,jV (yR P _) (fun n v k=>Tp.get_moreV d c n v (Or.inl (fresh_vars k))),Tp.get_new d c e,s3,s4,jV ((yR _ _).trans (yR _ _)) (fun n v _=>Tp.get_back d c (g:=freshG) e n v),?_⟩
 rw[Tp.get_back d c (g:=freshG) e]
 unfold Tp.getW
 rw[d,Option.bind_some,c,if_neg]
 intro q
 obtain⟨v,a,b⟩:=List.any_eq_true.1 q
 exact e v a (by simpa using b)
theorem act_ms {P:List Pt}{a:Ac}{f:Nat}{r:Tp.Ans}(h:ActIs P a f r):(r.err≠none->r.w=P)/\(a.what=1->Tp.ms r.w=Tp.ms P)/\(r.err=none->a.what≠1->∀m,Tp.parse a.text=.ok m->m∈Tp.ms r.w/\∀x∈Tp.ms P,x.name≠m.name->x∈Tp.ms r.w):=by
 unfold ActIs at h
 by_cases b:a.what=1
 ·rw[if_pos b]at h
  subst h
  refine⟨fun e=>(Tp.call_refused e).1,fun _=>?_,fun _ q=>absurd b q⟩
  exact Tp.call_ms
 ·rw[if_neg b]at h
  cases i:Tp.parse a.text with
  |error er =>
   rw[i]at h
   subst h
   exact⟨fun _=>rfl,fun q=>absurd q b,fun q=>by cases q⟩
  |ok m =>
   rw[i]at h
   by_cases g:a.what=2
   ·simp only[if_pos g]at h
    subst h
    refine⟨fun e=>(Tp.swap_refused e).1,fun q=>absurd q b,fun d _ x c=>?_⟩
    cases c
    exact Tp.swap_ms d
   ·simp only[if_neg g]at h
    subst h
    refine⟨fun e=>(Tp.load_refused e).1,fun q=>absurd q b,fun d _ x c=>?_⟩
    cases c
    exact⟨(Tp.load_ms d).1,fun x c _=>(Tp.load_ms d).2 x c⟩
end Go.Proofs.YtibncofnnlbmcaaGreatDoor
namespace Go.Proofs.YtibncofnnlbmcaaGreatDoor
open Go.RowKit Go.Maps
open Tp (Bs X S G Pr Pt Rs Rr Own)
structure LastM (U:Nat->Prop) (w:World) (P:List Pt) (lb:Nat) (k:Bs) (v:Value) (m:Tp.M) (ia ga pa ba:Option Addr) (ic gc pc bc:Nat):Prop where
 v:v=.agg (mcells (bs m.name) (.slice ia m.imports.length ic) (.slice ga m.vars.length gc) (.slice pa m.procs.length pc) (.slice ba m.body.length bc))
 md:MD w (fun b=>¬U b/\b≠lb) m ia ga pa ba ic gc pc bc
 wm:Tp.WM m
 nm:Tp.nM m<=1000
 k:m.name=k
 p:m∈Tp.ms P
def LastP (ex:Bs->Prop) (U:Nat->Prop) (w:World) (P:List Pt) (lb n:Nat) (f:Bs->Option Value):Prop:=¬U lb/\MapV w lb n f/\∀k v,f k=some v->¬ex k->∃m ia ga pa ba ic gc pc bc,LastM U w P lb k v m ia ga pa ba ic gc pc bc
theorem LastP.tr {ex:Bs->Prop}{U g:Nat->Prop}{w w':World}{P Q:List Pt}{c n:Nat}{f:Bs->Option Value}(h:LastP ex U w P c n f)(t:Tr U g w w'){d:Bs->Prop}(B:∀k,ex k->d k)(E:∀x∈Tp.ms P,¬d x.name->x∈Tp.ms Q):LastP d g w' Q c n f:=by
 obtain⟨i,j,A⟩:=h
 have D:=j.lt
 refine⟨fun q=>?_,j.on (t.block c D i),fun k v C l=>?_⟩
 ·rcases t.more c q with z|z
  ·exact i z
  ·omega
 ·obtain⟨m,F,u,H,r,G,y,I,s,a⟩:=A k v C (fun q=>l (B k q))
  refine⟨m,F,u,H,r,G,y,I,s,a.v,a.md.mono (fun b e o=>⟨t.block b o e.1,fun q=>?_,e.2⟩),a.wm,a.nm,a.k,E m a.p (by rw[a.k];exact l)⟩
  rcases t.more b q with z|z
  ·exact e.1 z
  ·omega
theorem LastP.on {ex:Bs->Prop}{U:Nat->Prop}{w w':World}{P:List Pt}{a n:Nat}{f:Bs->Option Value}(h:LastP ex U w P a n f)(k:Below w.heap.size w w'):LastP ex U w' P a n f:=h.tr (Tr.below k) (fun _ q=>q) (fun _ q _=>q)
theorem LastP.put {U:Nat->Prop}{w w':World}{P:List Pt}{d n:Nat}{f:Bs->Option Value}{m:Tp.M}{v:Value}{t o y j:Option Addr}{x r z l:Nat}(h:LastP (fun k=>k=m.name) U w P d n f)(c:LastM U w P d m.name v m t o y j x r z l)(K:MapV w' d (n+1) (updV f m.name v))(s:Ext d w w'):LastP (fun _=>False) U w' P d (n+1) (updV f m.name v):=by
 obtain⟨I,_,J⟩:=h
 refine⟨I,K,fun k u g _=>?_⟩
 unfold updV at g
 split at g
 ·rename_i e
  cases g
  exact⟨m,t,o,y,j,x,r,z,l,c.v,c.md.mono (fun b a i=>⟨s.block b i a.2,a⟩),c.wm,c.nm,e.symm,c.p⟩
 ·rename_i e
  obtain⟨L,E,C,G,A,F,D,H,B,q⟩:=J k u g e
  exact⟨L,E,C,G,A,F,D,H,B,q.v,q.md.mono (fun b a i=>⟨s.block b i a.2,a⟩),q.wm,q.nm,q.k,q.p⟩
theorem LastP.made {U:Nat->Prop}(w:World)(P:List Pt)(h:¬U w.heap.size):LastP (fun _=>False) U (w.alloc (.map #[] 0)) P w.heap.size 0 (fun _=>none):=⟨h,MapV.made w,fun k v a=>by cases a⟩
theorem okn_fresh:Tp.okn freshN:=⟨⟨102,[114,101,115,104],rfl,by decide,by decide⟩,by decide,by decide⟩
theorem wm_more {m:Tp.M}(h:Tp.WM m)(c:m.vars.length<10):Tp.WM (Tp.moreV m freshG):=⟨h.n,h.i,h.ic,fun g a=>by
  rcases List.mem_cons.1 a with e|e
  ·rw[e];exact⟨okn_fresh,by decide⟩
  ·exact h.g g e,c,h.p,h.pc,h.b,h.d⟩
theorem nm_more {m:Tp.M}:Tp.nM (Tp.moreV m freshG)=Tp.nM m+6:=by
 have e:Tp.nM (Tp.moreV m freshG)=3+(if m.imports=[] then 0 else 2+Tp.nN m.imports)+((freshG :: m.vars).map Tp.nG).sum+(m.procs.map Tp.nP).sum+1+Tp.NS m.body+2:=rfl
 have a:Tp.nM m=3+(if m.imports=[] then 0 else 2+Tp.nN m.imports)+(m.vars.map Tp.nG).sum+(m.procs.map Tp.nP).sum+1+Tp.NS m.body+2:=rfl
 have b:Tp.nG freshG=6:=rfl
 rw[e,a,List.map_cons,List.sum_cons,b]
 omega
end Go.Proofs.YtibncofnnlbmcaaGreatDoor
namespace Tp
def Big (c:Ck):Prop:=∀e,c=some e->e.1≠0
theorem Big.or {a b:Ck}(c:Big a)(d:Big b):Big (a.or b):=fun e h=>by
 cases a with
 |none=>exact d e h
 |some x=>exact c e h
theorem Big.find {α:Type}{f:α->Ck}:∀{l:List α},(∀x∈l,Big (f x))->Big (l.findSome? f)
 |[],_=>fun e h=>by cases h
 |x :: t,hl=>fun e h=>by
  rw[List.findSome?_cons]at h
  cases a:f x with
  |none=>rw[a]at h;exact Big.find (fun y b=>hl y (by simp[b])) e h
  |some y=>rw[a]at h;exact hl x (by simp) e (a.trans h)
theorem big_imps {own:Bs}{a:Seen}:∀{l ah:List Bs},Big (imps own a ah l)
 |[],_=>fun e h=>by cases h
 |n :: t,ah=>fun e h=>by
  unfold imps at h
  split at h
  ·cases h;exact Nat.succ_ne_zero _
  ·split at h
   ·cases h;exact Nat.succ_ne_zero _
   ·exact big_imps e h
theorem big_tw:∀{l:List (Bs×Nat)}{ah:List Bs},Big (tw ah l)
 |[],_=>fun e h=>by cases h
 | (n,p) :: t,ah=>fun e h=>by
  unfold tw at h
  split at h
  ·cases h;exact Nat.succ_ne_zero _
  ·exact big_tw e h
theorem uz {m:M}{own:List Bs}{b:Seen}{r:R}:Big (judge m own b r):=fun e h=>by
 unfold judge at h
 cases a:stand m own b r.mod r.name with
 |error k =>
  rw[a]at h
  cases h
  unfold stand at a
  split at a
  ·split at a
   ·split at a
    ·cases a
    ·cases a;exact Nat.succ_ne_zero _
   ·cases a;exact Nat.succ_ne_zero _
  ·split at a
   ·cases a
   ·split at a
    ·cases a
    ·split at a
     ·cases a
     ·cases a;exact Nat.succ_ne_zero _
 |ok s =>
  rw[a]at h
  simp only at h
  split at h
  ·cases h;exact Nat.succ_ne_zero _
  ·split at h
   ·cases h;exact Nat.succ_ne_zero _
   ·cases h
theorem uw {m:M}{a:Seen}:Big (check m a):=big_imps.or (big_tw.or ((Big.find fun _ _=>big_tw.or (Big.find fun _ _=>uz)).or (Big.find fun _ _=>uz)))
theorem swap_big {a:M->List Sy}{w:List Pt}{m:M}{e:Nat×Option Nat}(h:(swapW a w m).err=some e):e.1≠0:=by
 unfold swapW at h
 split at h
 ·cases h;exact Nat.succ_ne_zero _
 ·split at h
  ·rename_i b;cases h;exact uw _ b
  ·split at h
   ·cases h;exact Nat.succ_ne_zero _
   ·split at h
    ·cases h;exact Nat.succ_ne_zero _
    ·cases h
theorem load_big {a:M->List Sy}{w:List Pt}{m:M}{f:Nat}{e:Nat×Option Nat}(h:(loadW a w m f).err=some e):e.1≠0:=by
 unfold loadW at h
 split at h
 ·cases h;exact Nat.succ_ne_zero _
 ·split at h
  ·rename_i b;cases h;exact uw _ b
  ·split at h
   ·cases h;exact Nat.succ_ne_zero _
   ·cases h
end Tp
namespace Go.Proofs.YtibncofnnlbmcaaGreatDoor
open Tp (Bs X S G Pr Pt Rs Rr Own)
theorem act_big {P:List Pt}{a:Ac}{f:Nat}{r:Tp.Ans}(h:ActIs P a f r)(g:a.what≠1){m:Tp.M}(i:Tp.parse a.text=.ok m)(c:tellN r.err=0):r.err=none:=by
 unfold ActIs at h
 rw[if_neg g,i]at h
 cases b:r.err with
 |none=>rfl
 |some e =>
  rw[b]at c
  by_cases d:a.what=2
  ·simp only[if_pos d]at h
   subst h
   exact absurd c (Tp.swap_big b)
  ·simp only[if_neg d]at h
   subst h
   exact absurd c (Tp.load_big b)
end Go.Proofs.YtibncofnnlbmcaaGreatDoor
