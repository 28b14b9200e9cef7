import Derived.Test.YtibncofnnlbmcaaGreatDoorLXz
set_option maxRecDepth 100000
set_option maxHeartbeats 4000000
namespace Go.Proofs.YtibncofnnlbmcaaGreatDoor
open Go.RowKit
open Tp (Bs)
theorem indexA0 {w:World}{a:Option Addr}{cap:Nat}{l:List Ac}{p:Ac->Bool}{n:FuncId}(v:ActAt w l a)(O:l.length<=1000000)(G:∀(args:Array Value) (w:World),(callFunc n args).run Tryz.prog w=.ok (.enter n args) w)
  (hd:∀W (x:Ac) h ac,x∈l->Below w.heap.size w W->IntsAt W x.args h->Calls Tryz.prog n #[.agg (acells x h ac)] W fun e w'=>e=.returned (.bool (p x))/\Below W.heap.size W w') :
  Calls Tryz.prog 35 #[.slice a l.length cap,.func (.func n) #[] #[]] w fun e w'=>(∃k:Int,e=.returned (.int .i64 k)/\(decide (0<=k)=l.any p))/\Below w.heap.size w w':=by
 have I:(l.length:Int)<=1000000:=by omega
 have B:=zh v
 have C:=zh hd
 clear v hd
 go_enter Tryz.func35,Tryz.ntmps35
 go_wp2_with fail
 go_loopg [8] l.length (fun k E wr=>∃i:Nat,i<=l.length/\k=l.length-i/\E=.int .i64 (i:Int)/\Hid ((l.take i).any p=false)/\Hid (Below w.heap.size w wr))
 case atStart=>exact⟨0,by omega,by omega,rfl,rfl,Below.refl _ _⟩
 case round =>
  obtain⟨i,H,N,rfl,q,f⟩:=hrel
  by_cases m:i<l.length
  ·have y:(i:Int)<(l.length:Int):=by omega
   obtain⟨g,j,h,ac,rfl,b,s,_⟩:=(B.out.on f.out).c i m
   have D:wr.cell? ⟨g,j+i*5,none⟩=some (.int .i64 l[i].what):=b 0 (by omega)
   have J:wr.cell? ⟨g,j+i*5+1,none⟩=some (.string (bs l[i].text)):=by rw[Nat.add_assoc];exact b 1 (by omega)
   have K:wr.cell? ⟨g,j+i*5+2,none⟩=some (.string (bs l[i].name)):=by rw[Nat.add_assoc];exact b 2 (by omega)
   have L:wr.cell? ⟨g,j+i*5+3,none⟩=some (.string (bs l[i].proc)):=by rw[Nat.add_assoc];exact b 3 (by omega)
   have M:wr.cell? ⟨g,j+i*5+4,none⟩=some (.slice h l[i].args.length ac):=by rw[Nat.add_assoc];exact b 4 (by omega)
   have F:g<wr.heap.size:=zg D
   have t:=zh (C.out wr l[i] h ac (List.getElem_mem m) f.out s)
   unfold acells at t
   have A:Hid ((l.take (i+1)).any p=p l[i]):=by
    show _=_
    rw[List.take_succ_eq_append_getElem m,List.any_append,q.out];simp
   have z:Hid (p l[i]=true->l.any p=true):=fun e=>List.any_eq_true.2 ⟨_,List.getElem_mem m,e⟩
   clear b s
   generalize p l[i]=d at *
   generalize l[i].what=x0 at *
   generalize bs l[i].text=x1 at *
   generalize bs l[i].name=x2 at *
   generalize bs l[i].proc=x3 at *
   generalize l[i].args.length=x4 at *
   clear q
   go_wp2_with fail
   refine t.out.mono ?_
   rintro e P⟨rfl,u⟩
   have r:=zh (f.out.trans (u.mono f.out.size))
   clear u
   cases d with
   |true =>
    have o:=zh (z.out rfl)
    go_wp2_with fail
    go_ret
    refine⟨⟨_,rfl,?_⟩,r.out⟩
    rw[o.out]
    exact decide_eq_true (by omega)
   |false =>
    go_wp2_with fail
    go_roundg (l.length-(i+1))
    case measure=>omega
    case rel=>exact⟨i+1,by omega,rfl,by go_num,A,r⟩
  ·have y:¬(i:Int)<(l.length:Int):=by omega
   have o:Hid (l.any p=false):=by
    have:=q.out
    rw[List.take_of_length_le (by omega)]at this
    exact this
   go_wp2_with fail
   go_ret
   refine⟨⟨_,rfl,?_⟩,f.out⟩
   rw[o.out]
   rfl
theorem containsA0 {w:World}{a:Option Addr}{cap:Nat}{l:List Ac}{p:Ac->Bool}{b:FuncId}(d:ActAt w l a)(j:l.length<=1000000)(c:∀(args:Array Value) (w:World),(callFunc b args).run Tryz.prog w=.ok (.enter b args) w)
  (hd:∀W (x:Ac) aa ac,x∈l->Below w.heap.size w W->IntsAt W x.args aa->Calls Tryz.prog b #[.agg (acells x aa ac)] W fun e w'=>e=.returned (.bool (p x))/\Below W.heap.size W w') :
  Calls Tryz.prog 14 #[.slice a l.length cap,.func (.func b) #[] #[]] w fun e w'=>e=.returned (.bool (l.any p))/\Below w.heap.size w w':=by
 have g:=zh (indexA0 (cap:=cap) d j c hd)
 clear d hd c
 go_enter Tryz.func14,Tryz.ntmps14
 go_wp2_with fail
 refine g.out.mono ?_
 rintro e m⟨⟨k,rfl,f⟩,i⟩
 have h:=zh f
 clear f
 go_wp2_with fail
 go_ret
 exact⟨by rw[<-h.out];rfl,i⟩
theorem indexA1 {w:World}{a:Option Addr}{cap:Nat}{l:List Ac}{p:Ac->Bool}{n:FuncId}{c1:Value}(v:ActAt w l a)(O:l.length<=1000000)(G:∀(args:Array Value) (w:World),(callFunc n args).run Tryz.prog w=.ok (.enter n args) w)
  (hd:∀W (x:Ac) h ac,x∈l->Below w.heap.size w W->IntsAt W x.args h->Calls Tryz.prog n #[.agg (acells x h ac),c1] W fun e w'=>e=.returned (.bool (p x))/\Below W.heap.size W w') :
  Calls Tryz.prog 35 #[.slice a l.length cap,.func (.func n) #[] #[c1]] w fun e w'=>(∃k:Int,e=.returned (.int .i64 k)/\(decide (0<=k)=l.any p))/\Below w.heap.size w w':=by
 have I:(l.length:Int)<=1000000:=by omega
 have B:=zh v
 have C:=zh hd
 clear v hd
 go_enter Tryz.func35,Tryz.ntmps35
 go_wp2_with fail
 go_loopg [8] l.length (fun k E wr=>∃i:Nat,i<=l.length/\k=l.length-i/\E=.int .i64 (i:Int)/\Hid ((l.take i).any p=false)/\Hid (Below w.heap.size w wr))
 case atStart=>exact⟨0,by omega,by omega,rfl,rfl,Below.refl _ _⟩
 case round =>
  obtain⟨i,H,N,rfl,q,f⟩:=hrel
  by_cases m:i<l.length
  ·have y:(i:Int)<(l.length:Int):=by omega
   obtain⟨g,j,h,ac,rfl,b,s,_⟩:=(B.out.on f.out).c i m
   have D:wr.cell? ⟨g,j+i*5,none⟩=some (.int .i64 l[i].what):=b 0 (by omega)
   have J:wr.cell? ⟨g,j+i*5+1,none⟩=some (.string (bs l[i].text)):=by rw[Nat.add_assoc];exact b 1 (by omega)
   have K:wr.cell? ⟨g,j+i*5+2,none⟩=some (.string (bs l[i].name)):=by rw[Nat.add_assoc];exact b 2 (by omega)
   have L:wr.cell? ⟨g,j+i*5+3,none⟩=some (.string (bs l[i].proc)):=by rw[Nat.add_assoc];exact b 3 (by omega)
   have M:wr.cell? ⟨g,j+i*5+4,none⟩=some (.slice h l[i].args.length ac):=by rw[Nat.add_assoc];exact b 4 (by omega)
   have F:g<wr.heap.size:=zg D
   have t:=zh (C.out wr l[i] h ac (List.getElem_mem m) f.out s)
   unfold acells at t
   have A:Hid ((l.take (i+1)).any p=p l[i]):=by
    show _=_
    rw[List.take_succ_eq_append_getElem m,List.any_append,q.out];simp
   have z:Hid (p l[i]=true->l.any p=true):=fun e=>List.any_eq_true.2 ⟨_,List.getElem_mem m,e⟩
   clear b s
   generalize p l[i]=d at *
   generalize l[i].what=x0 at *
   generalize bs l[i].text=x1 at *
   generalize bs l[i].name=x2 at *
   generalize bs l[i].proc=x3 at *
   generalize l[i].args.length=x4 at *
   clear q
   go_wp2_with fail
   refine t.out.mono ?_
   rintro e P⟨rfl,u⟩
   have r:=zh (f.out.trans (u.mono f.out.size))
   clear u
   cases d with
   |true =>
    have o:=zh (z.out rfl)
    go_wp2_with fail
    go_ret
    refine⟨⟨_,rfl,?_⟩,r.out⟩
    rw[o.out]
    exact decide_eq_true (by omega)
   |false =>
    go_wp2_with fail
    go_roundg (l.length-(i+1))
    case measure=>omega
    case rel=>exact⟨i+1,by omega,rfl,by go_num,A,r⟩
  ·have y:¬(i:Int)<(l.length:Int):=by omega
   have o:Hid (l.any p=false):=by
    have:=q.out
    rw[List.take_of_length_le (by omega)]at this
    exact this
   go_wp2_with fail
   go_ret
   refine⟨⟨_,rfl,?_⟩,f.out⟩
   rw[o.out]
   rfl
theorem containsA1 {w:World}{a:Option Addr}{cap:Nat}{l:List Ac}{p:Ac->Bool}{b:FuncId}{c1:Value}(d:ActAt w l a)(j:l.length<=1000000)(c:∀(args:Array Value) (w:World),(callFunc b args).run Tryz.prog w=.ok (.enter b args) w)
  (hd:∀W (x:Ac) aa ac,x∈l->Below w.heap.size w W->IntsAt W x.args aa->Calls Tryz.prog b #[.agg (acells x aa ac),c1] W fun e w'=>e=.returned (.bool (p x))/\Below W.heap.size W w') :
  Calls Tryz.prog 14 #[.slice a l.length cap,.func (.func b) #[] #[c1]] w fun e w'=>e=.returned (.bool (l.any p))/\Below w.heap.size w w':=by
 have g:=zh (indexA1 (cap:=cap) d j c hd)
 clear d hd c
 go_enter Tryz.func14,Tryz.ntmps14
 go_wp2_with fail
 refine g.out.mono ?_
 rintro e m⟨⟨k,rfl,f⟩,i⟩
 have h:=zh f
 clear f
 go_wp2_with fail
 go_ret
 exact⟨by rw[<-h.out];rfl,i⟩
def longA (x:Ac):Bool:=decide (1000<x.text.length) || (decide (40<x.name.length) || (decide (40<x.proc.length) || decide (10<x.args.length)))
theorem held_cf (args:Array Value)(w:World):(callFunc 26 args).run Tryz.prog w=.ok (.enter 26 args) w:=by kernel_rfl
theorem held1_post (w:World)(x:Ac)(d:Option Addr)(ac:Nat):Calls Tryz.prog 26 #[.agg (acells x d ac)] w fun e w'=>e=.returned (.bool (longA x))/\Below w.heap.size w w':=by
 obtain⟨w2,a⟩:∃w2,w2=w.alloc (.cells (acells x d ac) 31):=⟨_,rfl⟩
 have j:Below w.heap.size w w2:=by rw[a];exact zb _ _
 have b:w2.heap[w.heap.size]?=some (.cells (acells x d ac) 31 (0,0)):=by rw[a];exact zo _ _
 unfold acells at *
 have r:w2.cell? ⟨w.heap.size,1,none⟩=some (.string (bs x.text)):=(za b).trans rfl
 have s:w2.cell? ⟨w.heap.size,2,none⟩=some (.string (bs x.name)):=(za b).trans rfl
 have t:w2.cell? ⟨w.heap.size,3,none⟩=some (.string (bs x.proc)):=(za b).trans rfl
 have u:w2.cell? ⟨w.heap.size,4,none⟩=some (.slice d x.args.length ac):=(za b).trans rfl
 have v:=zf b
 have c:=zh j
 have o:((bs x.text).size:Int)=(x.text.length:Int):=by rw[yz]
 have p:((bs x.name).size:Int)=(x.name.length:Int):=by rw[yz]
 have q:((bs x.proc).size:Int)=(x.proc.length:Int):=by rw[yz]
 unfold longA
 clear b j
 by_cases f:1000<x.text.length
 ·have k:(x.text.length:Int) > 1000:=by omega
  rw[decide_eq_true f,Bool.true_or]
  clear f
  go_enter Tryz.func26,Tryz.ntmps26
  go_upto_region 1 with fail
  rw[<-a]
  clear a
  go_wp2_with fail
  go_ret
  exact⟨rfl,c.out⟩
 have k:¬(x.text.length:Int) > 1000:=by omega
 rw[decide_eq_false f,Bool.false_or]
 clear f
 by_cases g:40<x.name.length
 ·have l:(x.name.length:Int) > 40:=by omega
  rw[decide_eq_true g,Bool.true_or]
  clear g
  go_enter Tryz.func26,Tryz.ntmps26
  go_upto_region 1 with fail
  rw[<-a]
  clear a
  go_wp2_with fail
  go_ret
  exact⟨rfl,c.out⟩
 have l:¬(x.name.length:Int) > 40:=by omega
 rw[decide_eq_false g,Bool.false_or]
 clear g
 by_cases h:40<x.proc.length
 ·have m:(x.proc.length:Int) > 40:=by omega
  rw[decide_eq_true h,Bool.true_or]
  clear h
  go_enter Tryz.func26,Tryz.ntmps26
  go_upto_region 1 with fail
  rw[<-a]
  clear a
  go_wp2_with fail
  go_ret
  exact⟨rfl,c.out⟩
 have m:¬(x.proc.length:Int) > 40:=by omega
 rw[decide_eq_false h,Bool.false_or]
 clear h
 by_cases i:10<x.args.length
 ·have n:(x.args.length:Int) > 10:=by omega
  rw[decide_eq_true i]
  clear i
  go_enter Tryz.func26,Tryz.ntmps26
  go_upto_region 1 with fail
  rw[<-a]
  clear a
  go_wp2_with fail
  go_ret
  exact⟨rfl,c.out⟩
 ·have n:¬(x.args.length:Int) > 10:=by omega
  rw[decide_eq_false i]
  clear i
  go_enter Tryz.func26,Tryz.ntmps26
  go_upto_region 1 with fail
  rw[<-a]
  clear a
  go_wp2_with fail
  go_ret
  exact⟨rfl,c.out⟩
structure HeldA (l:List Ac):Prop where
 n:l.length<=12
 x:∀x∈l,x.text.length<=1000/\x.name.length<=40/\x.proc.length<=40/\x.args.length<=10
def HeldP (l:List Ac) (w:World) (e:Ending) (w':World):Prop:=(∃b,e=.returned (.bool b)/\(b=true->HeldA l))/\Below w.heap.size w w'
theorem held_post {w:World}{l:List Ac}{a:Option Addr}{cap:Nat}(b:ActAt w l a):Calls Tryz.prog 7 #[.slice a l.length cap] w (HeldP l w):=by
 by_cases d:l.length<=12
 ·have c:(l.length:Int)<=12:=by omega
  have g:=zh (containsA0 (cap:=cap) b (by omega) held_cf (fun W x n ac _ _ _=>held1_post W x n ac))
  have m:Hid ((!(l.any longA))=true->HeldA l):=fun e=>by
   have h:l.any longA=false:=by simpa using e
   rw[List.any_eq_false]at h
   refine⟨d,fun x o=>?_⟩
   have:=h x o
   unfold longA at this
   simp only[Bool.or_eq_true,decide_eq_true_eq,not_or,Nat.not_lt]at this
   exact this
  clear b d
  generalize l.any longA=r at *
  obtain⟨j,f⟩:∃j,j=l.length:=⟨_,rfl⟩
  rw[<-f]at c g ⊢
  clear f
  go_enter Tryz.func7,Tryz.ntmps7
  go_wp2_with fail
  refine g.out.mono ?_
  rintro e p⟨rfl,i⟩
  have k:=zh i
  clear i
  go_wp2_with fail
  go_ret
  refine⟨⟨!r,?_,m.out⟩,k.out⟩
  first|rfl|simp
 ·have c:¬(l.length:Int)<=12:=by omega
  clear b
  go_enter Tryz.func7,Tryz.ntmps7
  go_wp2_with fail
  go_ret
  exact⟨⟨false,rfl,fun e=>by cases e⟩,Below.refl _ _⟩
end Go.Proofs.YtibncofnnlbmcaaGreatDoor
namespace Go.Proofs.YtibncofnnlbmcaaGreatDoor
open Go.RowKit Go.Maps
open Tp (Bs X S G Pr Pt Rs Rr Own)
theorem ran_any {w:World}(c9:Mk w)(c8:Lv w):Calls Tryz.prog 8 #[] w fun e w'=>e=.returned (.bool true)/\Below w.heap.size w w':=by
 have hp:=yP w Tp.txtR (by decide) c9 c8
 have HP:Hid (Calls Tryz.prog 9 #[.string ⟨#[109,111,100,117,108,101,32,109,59,32,118,97,114,32,120,58,32,105,110,116,59,32,112,114,111,99,32,102,42,40,97,41,59,32,98,101,103,105,110,32,120,32,58,61,32,120,32,43,32,97,59,32,114,101,116,117,114,110,32,120,32,42,32,50,59,32,101,110,100,59,32,98,101,103,105,110,32,119,114,105,116,101,32,102,40,51,41,59,32,101,110,100,46]⟩] w fun e w'=>Below w.heap.size w w'/\∃v,e=.returned (.tuple #[v,.nilIface])/\VM w.heap.size Tp.modR v w'):=by
  refine hp.mono ?_
  rintro e w'⟨R,h2⟩
  unfold ParseP at h2
  rw[Tp.parseR]at h2
  exact⟨R,h2⟩
 have d2:=(Tp.parse_wm Tp.parseR).1
 have b7:=zh d2
 clear hp c9 c8 d2
 go_enter Tryz.func8,Tryz.ntmps8
 go_wp2_with fail
 refine HP.out.mono ?_
 rintro e d⟨R,v1,rfl,d1⟩
 obtain⟨A,x,C,t,B,y,D,u,rfl,b0⟩:=d1.mb
 have Q:mcells (bs Tp.modR.name) (.slice A Tp.modR.imports.length B) (.slice x Tp.modR.vars.length y) (.slice C Tp.modR.procs.length D) (.slice t Tp.modR.body.length u)=#[.string ⟨#[109]⟩,.slice A 0 B,.slice x 1 y,.slice C 1 D,.slice t 1 u]:=rfl
 obtain⟨h,J⟩:∃h,h=(d.alloc (.cells #[.string ⟨#[109]⟩,.slice A 0 B,.slice x 1 y,.slice C 1 D,.slice t 1 u] 36)).alloc (.cells #[.slice none 0 0,.map none] 28):=⟨_,rfl⟩
 have e4:h.heap.size=d.heap.size+2:=by rw[J];simp
 have V:Below d.heap.size d h:=by rw[J];exact(zb _ _).alloc (by simp) _
 have a9:h.heap[d.heap.size+1]?=some (.cells #[.slice none 0 0,.map none] 28 (0,0)):=by
  have:=zo (d.alloc (.cells #[.string ⟨#[109]⟩,.slice A 0 B,.slice x 1 y,.slice C 1 D,.slice t 1 u] 36)) (.cells #[.slice none 0 0,.map none] 28)
  rw[J];simpa using this
 have F:h.heap[d.heap.size]?=some (.cells #[.string ⟨#[109]⟩,.slice A 0 B,.slice x 1 y,.slice C 1 D,.slice t 1 u] 36 (0,0)):=by
  rw[J];exact(Below.heap_alloc _ _ _ (by simp)).trans (zo _ _)
 have e3:=R.size
 have b2:Hid (∀(a:World) (U':Nat->Prop),WZ (fun _=>False) U' 1 a (d.heap.size+1) (Tp.loadW ofS [] Tp.modR 100).w->(∀b,U' b->w.heap.size<=b/\b<a.heap.size)->Below w.heap.size w a->∀(f:World) (s:Nat),Below a.heap.size a f->f.cell? ⟨s,0,none⟩=some (.int .i64 4)->Calls Tryz.prog 27 #[.pointer (some ⟨d.heap.size+1,0,none⟩),.string ⟨#[109]⟩,.string ⟨#[102]⟩,.slice (some ⟨s,0,none⟩) 1 1,.int .i64 100] f fun e l=>∃r K g,e=.returned (.tuple #[.agg #[.int .i64 1,.slice r K g],.int .i64 14,.nilIface])/\Below w.heap.size w l/\∀b,a.heap.size<=b->b<f.heap.size->l.heap[b]?=f.heap[b]?):=by
  intro a U' hz hU M f s m c3
  have G:=Tp.ranR ofS
  have d7:IntsAt f [4] (some ⟨s,0,none⟩):=⟨fun i hi=>by
   have:i=0:=by simp at hi;omega
   subst this
   exact⟨s,0,rfl,zg c3,c3⟩⟩
  have hc:=call_any (nm:=[102]) (vs:=[4]) (md:=[109]) (ac:=1) (fuel:=100) (hz.on m) (by omega) (by decide) (fun v hv=>by rw[List.mem_singleton]at hv;subst hv;unfold Tp.I64;omega) d7 (by decide)
  refine hc.mono ?_
  rintro e l⟨r,g,ev,S,U,O⟩
  obtain⟨U2,_,n⟩:=U.wz
  rw[G.2.2.1]at O
  have a2:ev=.nilIface:=O
  rw[G.2.2.2.1,G.2.2.2.2,a2]at S
  have f4:=m.size
  have b1:=M.size
  refine⟨r,_,g,S,⟨(n.os.trans m.os).trans M.os,(n.tape.trans m.tape).trans M.tape,(n.output.trans m.output).trans M.output,by have:=n.size;omega,fun b hb=>?_⟩,fun b h4 h8=>n.block b h8 (fun q=>by have:=hU b q;omega)⟩
  exact((n.block b (by omega) (fun q=>by have:=hU b q;omega)).trans (m.block b (by omega))).trans (M.block b hb)
 have HL:Hid (Calls Tryz.prog 17 #[.pointer (some ⟨d.heap.size+1,0,none⟩),.agg #[.string ⟨#[109]⟩,.slice A 0 B,.slice x 1 y,.slice C 1 D,.slice t 1 u],.int .i64 100] h fun e a=>∃b o g,e=.returned (.tuple #[.agg #[.int .i64 1,.slice (some ⟨b,o,none⟩) 1 g],.nilIface])/\a.cell? ⟨b,o,none⟩=some (.int .i64 6)/\(∀(f:World) (s:Nat),Below a.heap.size a f->f.cell? ⟨s,0,none⟩=some (.int .i64 4)->Calls Tryz.prog 27 #[.pointer (some ⟨d.heap.size+1,0,none⟩),.string ⟨#[109]⟩,.string ⟨#[102]⟩,.slice (some ⟨s,0,none⟩) 1 1,.int .i64 100] f fun e l=>∃r K g,e=.returned (.tuple #[.agg #[.int .i64 1,.slice r K g],.int .i64 14,.nilIface])/\Below w.heap.size w l/\∀b,a.heap.size<=b->b<f.heap.size->l.heap[b]?=f.heap[b]?)/\h.heap.size<=a.heap.size):=by
  have e5:WZ (fun _=>False) (fun b=>b=d.heap.size+1) 0 h (d.heap.size+1) []:=WZ.zero a9 (fun q=>q)
  have d8:MD h (fun b=>b<d.heap.size) Tp.modR A x C t B y D u:=(b0.md).mono (fun b hb hl=>⟨V.block b hl,hb⟩)
  have d9:Tp.nM Tp.modR<=1000:=by
   have h2:=(Tp.parse_wm Tp.parseR).2
   have e2:Tp.txtR.length<=1000:=by decide
   omega
  have hl:=vJ (fuel:=100) e5 (fun b q=>q.elim) (by omega) (b0.up V) d8 (fun b hb _=>⟨fun q=>q,by omega⟩) b7.out d9 (by omega)
  rw[Q]at hl
  refine hl.mono ?_
  rintro e a⟨r,g,ev,S,_,U,O⟩
  have G:=Tp.ranR ofS
  obtain⟨U2,d3,n⟩:=U.wz
  rw[G.1]at O
  have a2:ev=.nilIface:=O
  have c5:=U.it
  rw[G.2.1,a2]at S
  rw[G.2.1]at c5
  obtain⟨b,o,rfl,_,hc⟩:=c5.c 0 (by decide)
  have b1:=n.size
  exact⟨b,o,g,S,hc,b2.out a U2 d3 (fun b q=>by
   have h4:=(d3.lt q).1
   rcases n.more b q with z|z
   ·exact⟨by rw[z];omega,h4⟩
   ·exact⟨by omega,h4⟩) ((R.trans (V.mono e3)).trans (n.toBelow (by omega) (fun b q=>by rw[q];omega))),b1⟩
 rw[Q]
 have k0:h.cell? ⟨d.heap.size,0,none⟩=some (.string ⟨#[109]⟩):=(za F).trans rfl
 have k1:h.cell? ⟨d.heap.size,1,none⟩=some (.slice A 0 B):=(za F).trans rfl
 have k2:h.cell? ⟨d.heap.size,2,none⟩=some (.slice x 1 y):=(za F).trans rfl
 have k3:h.cell? ⟨d.heap.size,3,none⟩=some (.slice C 1 D):=(za F).trans rfl
 have k4:h.cell? ⟨d.heap.size,4,none⟩=some (.slice t 1 u):=(za F).trans rfl
 have e8:=zf F
 have e9:=zf a9
 clear d1 b0 Q F a9 V R b2 HP b7 e4
 go_upto_region 5 with fail
 rw[<-J]
 clear J
 go_wp2_with fail
 refine HL.out.mono ?_
 rintro e a⟨b,o,g,rfl,Y,b3,b1⟩
 obtain⟨k,Z⟩:∃k,k=a.alloc (.cells #[.int .i64 1,.slice (some ⟨b,o,none⟩) 1 g] 43):=⟨_,rfl⟩
 have L:k.heap[a.heap.size]?=some (.cells #[.int .i64 1,.slice (some ⟨b,o,none⟩) 1 g] 43 (0,0)):=by rw[Z];exact zo _ _
 have W:Below a.heap.size a k:=by rw[Z];exact zb _ _
 obtain⟨E,a0⟩:∃E,E=k.alloc (.cells #[.int .i64 6] 2):=⟨_,rfl⟩
 have N:Below k.heap.size k E:=by rw[a0];exact zb _ _
 have b9:E.heap[k.heap.size]?=some (.cells #[.int .i64 6] 2 (0,0)):=by rw[a0];exact zo _ _
 have d0:=W.size
 have f2:=N.size
 have d5:=zf L
 have c6:E.cell? ⟨b,o,none⟩=some (.int .i64 6):=(N.cell (p:=⟨b,o,none⟩) (Nat.lt_of_lt_of_le (zg Y) d0)).trans ((W.cell (p:=⟨b,o,none⟩) (zg Y)).trans Y)
 have d6:E.cell? ⟨k.heap.size,0,none⟩=some (.int .i64 6):=(za b9).trans rfl
 have b6:=zh (eq_one (c1:=g) (c2:=1) c6 d6)
 clear d6
 have a6:Hid (E.heap[a.heap.size]?=some (.cells #[.int .i64 1,.slice (some ⟨b,o,none⟩) 1 g] 43 (0,0))):=(N.block _ d5).trans L
 have a4:Hid (Below a.heap.size a E):=W.trans (N.mono d0)
 have f0:k.cell? ⟨a.heap.size,0,none⟩=some (.int .i64 1):=(za L).trans rfl
 have f1:k.cell? ⟨a.heap.size,1,none⟩=some (.slice (some ⟨b,o,none⟩) 1 g):=(za L).trans rfl
 have b5:=zh b3
 clear L W N b9 c6 Y b3 k0 k1 k2 k3 k4
 go_upto_region 6 with fail
 rw[<-Z]
 clear Z
 go_upto_region 7 with(go_at_call 24;rw[<-a0];refine b6.out.mono ?_;rintro e H ⟨rfl,X⟩)
 have f3:=X.size
 have a5:Hid (Below a.heap.size a H):=a4.out.trans (X.mono a4.out.size)
 have a7:Hid (H.heap[a.heap.size]?=some (.cells #[.int .i64 1,.slice (some ⟨b,o,none⟩) 1 g] 43 (0,0))):=(X.block _ (zf a6.out)).trans a6.out
 clear X a0 a6 a4 b6 f0 f1
 obtain⟨f,a1⟩:∃f,f=H.alloc (.cells #[.int .i64 4] 2):=⟨_,rfl⟩
 have m:Below H.heap.size H f:=by rw[a1];exact zb _ _
 have c0:f.heap[H.heap.size]?=some (.cells #[.int .i64 4] 2 (0,0)):=by rw[a1];exact zo _ _
 have b8:=(m.block _ (zf a7.out)).trans a7.out
 have b4:=zh (b5.out f H.heap.size (a5.out.trans (m.mono a5.out.size)) ((za c0).trans rfl))
 have a8:=zh b8
 clear b5 c0 m b8 a5 a7
 go_wp2_with fail
 rw[<-a1]
 refine b4.out.mono ?_
 rintro e l⟨r,K,d4,rfl,c4,c7⟩
 have I:=(c7 _ zn (zf a8.out)).trans a8.out
 have Q:l.cell? ⟨a.heap.size,0,none⟩=some (.int .i64 1):=(za I).trans rfl
 have e1:l.cell? ⟨a.heap.size,1,none⟩=some (.slice (some ⟨b,o,none⟩) 1 g):=(za I).trans rfl
 have ez:∀j,l.frozen? ⟨a.heap.size,j,none⟩=false:=fun j=>zi I
 have e6:=zf I
 have a3:=zu 1 (.slice r K d4) (zu 0 (.int .i64 1) I)
 obtain⟨T,P⟩:∃T,T=(l.setCell ⟨a.heap.size,0,none⟩ (.int .i64 1)).setCell ⟨a.heap.size,1,none⟩ (.slice r K d4):=⟨_,rfl⟩
 have g0:T.cell? ⟨a.heap.size,0,none⟩=some (.int .i64 1):=by rw[P];exact(za a3).trans rfl
 have HF:Hid (Below w.heap.size w T):=by
  show Below _ _ _
  rw[P]
  exact zq (zq c4 (by omega) 0 _) (by omega) 1 _
 have e7:a.heap.size<T.heap.size:=by rw[P];exact zf a3
 clear a3 I c7 c4 b4 a8 a1 HL
 go_upto_region 9 with fail
 rw[<-P]
 clear P Q e1 ez
 go_wp2_with fail
 go_ret
 exact⟨rfl,HF.out⟩
end Go.Proofs.YtibncofnnlbmcaaGreatDoor
namespace Go.Proofs.YtibncofnnlbmcaaGreatDoor
open Go.RowKit Go.Maps
open Tp (Bs X S G Pr Pt Rs Rr Own)
theorem it4_app (a s:ByteArray)(u:Int):∀j,it4 (a++s) u j=(a++(it4 s u j).1,(it4 s u j).2)
 | 0=>rfl
 |j+1=>by
  show ((it4 (a++s) u j).1++twoB (it4 (a++s) u j).2,(it4 (a++s) u j).2 / 256)=_
  rw[it4_app a s u j,ByteArray.append_assoc]
  rfl
theorem fold_app {α:Type}{f:ByteArray->α->ByteArray}(a:ByteArray)(h:∀s x,f (a++s) x=a++f s x):∀(l:List α) (s:ByteArray),l.foldl f (a++s)=a++l.foldl f s
 |[],_=>rfl
 |x :: t,s=>by rw[List.foldl_cons,List.foldl_cons,h,fold_app a h t]
theorem modS_app (P:List Pt)(a s:ByteArray)(n:Bs):modS P (a++s) n=a++modS P s n:=by
 unfold modS
 rw[ByteArray.append_assoc,fold_app a (fun s v=>?_),ByteArray.append_assoc]
 unfold varS
 split
 ·exact ByteArray.append_assoc
 ·rw[ByteArray.append_assoc]
  exact fold_app a (fun s x=>by unfold numS;rw[it4_app]) _ _
theorem modS_congr {P Q:List Pt}{n:Bs}(h:∀v,Tp.getW P n v=Tp.getW Q n v):∀s,modS P s n=modS Q s n:=fun s=>by
 have:varS P n=varS Q n:=by funext s v;unfold varS;rw[h]
 unfold modS
 rw[this]
theorem allB_cons {q:Pt}{P:List Pt}(h:∀p∈P,p.m.name≠q.m.name):allB (q :: P)=allB [q]++allB P:=by
 have d:∀(l:List Bs),(∀n∈l,n≠q.m.name)->∀s,l.foldl (modS (q :: P)) s=l.foldl (modS P) s:=by
  intro l
  induction l with
  |nil=>intro _ _;rfl
  |cons n t ih=>intro b s;rw[List.foldl_cons,List.foldl_cons,modS_congr (fun v=>Tp.get_alone (b n (by simp))),ih (fun k e=>b k (by simp[e]))]
 have c:modS (q :: P) ⟨#[]⟩ q.m.name=modS [q] ⟨#[]⟩ q.m.name:=modS_congr (fun v=>by unfold Tp.getW Tp.partOf;simp) _
 unfold allB
 rw[List.map_cons,List.foldl_cons,d _ (fun n f=>by
  obtain⟨p,g,rfl⟩:=List.mem_map.1 f
  exact h p g),c]
 have a:=fold_app (modS [q] ⟨#[]⟩ q.m.name) (fun s x=>modS_app P _ s x) (P.map fun p=>p.m.name) ⟨#[]⟩
 rw[show modS [q] ⟨#[]⟩ q.m.name++⟨#[]⟩=modS [q] ⟨#[]⟩ q.m.name from ByteArray.append_empty]at a
 exact a
theorem mod_size {P:List Pt}{n:Bs}(a:∀v xs,Tp.getW P n v=some xs->xs.length<=30)(s:ByteArray):(modS P s n).size<=s.size+n.length+2501:=by
 unfold modS vars5
 rw[ByteArray.size_append]
 simp only[List.foldl_cons,List.foldl_nil]
 have:=var_size (n:=n) (v:=[122]) rfl (a _) (varS P n (varS P n (varS P n (varS P n (s++bs n) [120]) [121]) [116]) [117])
 have:=var_size (n:=n) (v:=[117]) rfl (a _) (varS P n (varS P n (varS P n (s++bs n) [120]) [121]) [116])
 have:=var_size (n:=n) (v:=[116]) rfl (a _) (varS P n (varS P n (s++bs n) [120]) [121])
 have:=var_size (n:=n) (v:=[121]) rfl (a _) (varS P n (s++bs n) [120])
 have:=var_size (n:=n) (v:=[120]) rfl (a _) (s++bs n)
 rw[ByteArray.size_append,yz]at this
 have e:(ByteArray.mk #[59]).size=1:=rfl
 omega
theorem WZ.small {X U:Nat->Prop}{c:Nat}{w:World}{u:Nat}{P:List Pt}(h:WZ X U c w u P):(allB P).size<=20000000:=by
 obtain⟨L,B,r,b,x,_⟩:=h
 cases r with
 |none =>
  obtain⟨_,rfl,_⟩:=b
  exact Nat.zero_le _
 |some tb =>
  have g:P.map (fun p=>p.m.name)=L.map fun lo=>lo.m.name:=by
   have:=congrArg (List.map fun m:Tp.M=>m.name) (WW.mw b)
   simpa[Tp.ms,Function.comp_def] using this
  have key:∀(l:List Bs),(∀n∈l,n.length<=1000000/\∀v d,Tp.getW P n v=some d->d.length<=30)->∀s:ByteArray,(l.foldl (modS P) s).size<=s.size+l.length*1100000:=by
   intro l
   induction l with
   |nil=>intro _ s;simp
   |cons n t ih =>
    intro a s
    have y:=ih (fun k q=>a k (by simp[q])) (modS P s n)
    have z:=mod_size (a n (by simp)).2 s
    have A:=(a n (by simp)).1
    rw[List.foldl_cons,List.length_cons]
    omega
  have:=key (P.map fun p=>p.m.name) (fun n f=>by
   rw[g]at f
   obtain⟨lo,i,rfl⟩:=List.mem_map.1 f
   obtain⟨_,_,_,_,j⟩:=WW.lo b lo i
   exact⟨zQ j.wm.n,fun v d o=>WW.getlen b i o⟩) ⟨#[]⟩
  have a:(P.map fun p=>p.m.name).length=L.length:=by rw[g,List.length_map]
  rw[a]at this
  have e:(ByteArray.mk #[]).size=0:=rfl
  unfold allB
  omega
theorem load_first1 {m:Tp.M}{f:Nat}(h:(Tp.loadW ofS [] m f).err=none):∃q,(Tp.loadW ofS [] m f).w=[q]/\q.m=m/\∀n,Tp.usedR m n=[]:=by
 have b:Tp.check m (Tp.seenW ofS [])=none:=by
  cases j:Tp.check m (Tp.seenW ofS []) with
  |none=>rfl
  |some e =>
   unfold Tp.loadW at h
   rw[j]at h
   cases h
 have d:=loadS_ok (fuel:=f) (P:=[]) (m:=m) rfl b (by decide)
 have c:=Tp.endOf_ms (n:=Tp.gasOf ([]++[⟨m,Tp.fresh m⟩]) m.body f) (k:=0) (md:=m.name) (own:=fun _=>none) (l:=m.body) (s:=⟨[]++[⟨m,Tp.fresh m⟩],f,[]⟩) Tp.goS_enough
 have u:(Tp.loadW ofS [] m f).w=(Tp.endOf (Tp.goS (Tp.gasOf ([]++[⟨m,Tp.fresh m⟩]) m.body f) 0 m.name (fun _=>none) m.body ⟨[]++[⟨m,Tp.fresh m⟩],f,[]⟩)).1:=by rw[d]
 rw[<-u]at c
 have o:∀n,n ∉ m.imports:=fun n a=>((Tp.check_none.1 b).1.1 n a).2 rfl
 refine(?_:∃q,(Tp.loadW ofS [] m f).w=[q]/\q.m=m).elim fun q g=>⟨q,g.1,g.2,fun n=>?_⟩
 ·generalize (Tp.loadW ofS [] m f).w=z at c
  match z,c with
  |[q],e=>exact⟨q,rfl,by simpa[Tp.ms] using e⟩
  |[],e=>simp[Tp.ms]at e
  | _ :: _ :: _,e=>simp[Tp.ms]at e
 ·unfold Tp.usedR
  by_cases a:n=[]
  ·subst a;simp
  ·obtain⟨x,y⟩:=Tp.check_names b a (o n)
   rw[List.map_eq_nil_iff,List.filter_eq_nil_iff]
   intro r i
   have:r.mod≠n:=by
    unfold Tp.allR at i
    rcases List.mem_append.1 i with z|z
    ·obtain⟨l,d,v⟩:=List.mem_flatten.1 z
     obtain⟨p,t,rfl⟩:=List.mem_map.1 d
     exact x p t r v
    ·exact y r z
   simp[this]
def usesB (mn:Bs) (x:Ac):Bool:=decide (x.name=mn) || match Tp.parse x.text with
 | .error _=>false
 | .ok y=>decide (y.name=mn) || decide (mn∈y.imports)
theorem act_alone {q:Pt}{P:List Pt}{a:Ac}{f:Nat}{d i:Tp.Ans}(l:q.m.name≠[])(g:Tp.Inv q.m.name P)(s:∀n,Tp.usedR q.m n=[])(h:usesB q.m.name a=false)(b:ActIs P a f d)(c:ActIs (q :: P) a f i)(r:tellN i.err≠12) :
  i=⟨q :: d.w,d.e,d.n,d.err⟩/\Tp.Inv q.m.name d.w:=by
 unfold usesB at h
 rw[Bool.or_eq_false_iff,decide_eq_false_iff_not]at h
 obtain⟨p,b2⟩:=h
 unfold ActIs at b c
 by_cases o:a.what=1
 ·rw[if_pos o]at b c
  subst b c
  exact Tp.call_alone g p
 ·rw[if_neg o]at b c
  cases k:Tp.parse a.text with
  |error er =>
   rw[k]at b c
   subst b c
   exact⟨rfl,g⟩
  |ok m =>
   rw[k]at b c b2
   simp only[Bool.or_eq_false_iff,decide_eq_false_iff_not]at b2
   by_cases j:a.what=2
   ·simp only[if_pos j]at b c
    subst b c
    exact Tp.swap_alone l g b2.1 b2.2 (s _)
   ·simp only[if_neg j]at b c
    subst b c
    exact Tp.load_alone l g b2.1 b2.2 (fun e=>r (by rw[e];rfl))
end Go.Proofs.YtibncofnnlbmcaaGreatDoor
