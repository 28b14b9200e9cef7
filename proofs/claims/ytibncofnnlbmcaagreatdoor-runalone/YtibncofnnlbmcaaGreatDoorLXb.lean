import Derived.Test.YtibncofnnlbmcaaGreatDoorLXz
set_option maxRecDepth 100000
set_option maxHeartbeats 4000000
namespace Go.Proofs.YtibncofnnlbmcaaGreatDoor
open Go.RowKit
open Tp (Bs)
theorem indexA0 {w:World}{a:Option Addr}{cap:Nat}{l:List Ac}{p:Ac->Bool}{n:FuncId}(t:ActAt w l a)(K:l.length<=1000000)(I:∀(args:Array Value) (w:World),(callFunc n args).run Tryz.prog w=.ok (.enter n args) w)
  (hd:∀W (x:Ac) h ac,x∈l->Below w.heap.size w W->IntsAt W x.args h->Calls Tryz.prog n #[.agg (acells x h ac)] W fun e w'=>e=.returned (.bool (p x))/\Below W.heap.size W w') :
  Calls Tryz.prog 35 #[.slice a l.length cap,.func (.func n) #[] #[]] w fun e w'=>(∃k:Int,e=.returned (.int .i64 k)/\(decide (0<=k)=l.any p))/\Below w.heap.size w w':=by
 have H:(l.length:Int)<=1000000:=by omega
 have z:=zh t
 have D:=zh hd
 clear t hd
 go_enter Tryz.func35,Tryz.ntmps35
 go_wp2_with fail
 go_loopg [8] l.length (fun k C wr=>∃i:Nat,i<=l.length/\k=l.length-i/\C=.int .i64 (i:Int)/\Hid ((l.take i).any p=false)/\Hid (Below w.heap.size w wr))
 case atStart=>exact⟨0,by omega,by omega,rfl,rfl,Below.refl _ _⟩
 case round =>
  obtain⟨i,G,P,rfl,o,f⟩:=hrel
  by_cases m:i<l.length
  ·have y:(i:Int)<(l.length:Int):=by omega
   obtain⟨g,j,h,ac,rfl,b,r,_⟩:=(z.out.on f.out).c i m
   have E:wr.cell? ⟨g,j+i*5,none⟩=some (.int .i64 l[i].what):=b 0 (by omega)
   have L:wr.cell? ⟨g,j+i*5+1,none⟩=some (.string (bs l[i].text)):=by rw[Nat.add_assoc];exact b 1 (by omega)
   have M:wr.cell? ⟨g,j+i*5+2,none⟩=some (.string (bs l[i].name)):=by rw[Nat.add_assoc];exact b 2 (by omega)
   have J:wr.cell? ⟨g,j+i*5+3,none⟩=some (.string (bs l[i].proc)):=by rw[Nat.add_assoc];exact b 3 (by omega)
   have O:wr.cell? ⟨g,j+i*5+4,none⟩=some (.slice h l[i].args.length ac):=by rw[Nat.add_assoc];exact b 4 (by omega)
   have F:g<wr.heap.size:=zg E
   have v:=zh (D.out wr l[i] h ac (List.getElem_mem m) f.out r)
   unfold acells at v
   have A:Hid ((l.take (i+1)).any p=p l[i]):=by
    show _=_
    rw[List.take_succ_eq_append_getElem m,List.any_append,o.out];simp
   have B:Hid (p l[i]=true->l.any p=true):=fun e=>List.any_eq_true.2 ⟨_,List.getElem_mem m,e⟩
   clear b r
   generalize p l[i]=d at *
   generalize l[i].what=x0 at *
   generalize bs l[i].text=x1 at *
   generalize bs l[i].name=x2 at *
   generalize bs l[i].proc=x3 at *
   generalize l[i].args.length=x4 at *
   clear o
   go_wp2_with fail
   refine v.out.mono ?_
   rintro e N⟨rfl,u⟩
   have s:=zh (f.out.trans (u.mono f.out.size))
   clear u
   cases d with
   |true =>
    have q:=zh (B.out rfl)
    go_wp2_with fail
    go_ret
    refine⟨⟨_,rfl,?_⟩,s.out⟩
    rw[q.out]
    exact decide_eq_true (by omega)
   |false =>
    go_wp2_with fail
    go_roundg (l.length-(i+1))
    case measure=>omega
    case rel=>exact⟨i+1,by omega,rfl,by go_num,A,s⟩
  ·have y:¬(i:Int)<(l.length:Int):=by omega
   have q:Hid (l.any p=false):=by
    have:=o.out
    rw[List.take_of_length_le (by omega)]at this
    exact this
   go_wp2_with fail
   go_ret
   refine⟨⟨_,rfl,?_⟩,f.out⟩
   rw[q.out]
   rfl
theorem containsA0 {w:World}{a:Option Addr}{cap:Nat}{l:List Ac}{p:Ac->Bool}{b:FuncId}(f:ActAt w l a)(j:l.length<=1000000)(c:∀(args:Array Value) (w:World),(callFunc b args).run Tryz.prog w=.ok (.enter b args) w)
  (hd:∀W (x:Ac) aa ac,x∈l->Below w.heap.size w W->IntsAt W x.args aa->Calls Tryz.prog b #[.agg (acells x aa ac)] W fun e w'=>e=.returned (.bool (p x))/\Below W.heap.size W w') :
  Calls Tryz.prog 14 #[.slice a l.length cap,.func (.func b) #[] #[]] w fun e w'=>e=.returned (.bool (l.any p))/\Below w.heap.size w w':=by
 have i:=zh (indexA0 (cap:=cap) f j c hd)
 clear f hd c
 go_enter Tryz.func14,Tryz.ntmps14
 go_wp2_with fail
 refine i.out.mono ?_
 rintro e m⟨⟨k,rfl,d⟩,h⟩
 have g:=zh d
 clear d
 go_wp2_with fail
 go_ret
 exact⟨by rw[<-g.out];rfl,h⟩
theorem indexA1 {w:World}{a:Option Addr}{cap:Nat}{l:List Ac}{p:Ac->Bool}{n:FuncId}{c1:Value}(t:ActAt w l a)(K:l.length<=1000000)(I:∀(args:Array Value) (w:World),(callFunc n args).run Tryz.prog w=.ok (.enter n args) w)
  (hd:∀W (x:Ac) h ac,x∈l->Below w.heap.size w W->IntsAt W x.args h->Calls Tryz.prog n #[.agg (acells x h ac),c1] W fun e w'=>e=.returned (.bool (p x))/\Below W.heap.size W w') :
  Calls Tryz.prog 35 #[.slice a l.length cap,.func (.func n) #[] #[c1]] w fun e w'=>(∃k:Int,e=.returned (.int .i64 k)/\(decide (0<=k)=l.any p))/\Below w.heap.size w w':=by
 have H:(l.length:Int)<=1000000:=by omega
 have z:=zh t
 have D:=zh hd
 clear t hd
 go_enter Tryz.func35,Tryz.ntmps35
 go_wp2_with fail
 go_loopg [8] l.length (fun k C wr=>∃i:Nat,i<=l.length/\k=l.length-i/\C=.int .i64 (i:Int)/\Hid ((l.take i).any p=false)/\Hid (Below w.heap.size w wr))
 case atStart=>exact⟨0,by omega,by omega,rfl,rfl,Below.refl _ _⟩
 case round =>
  obtain⟨i,G,P,rfl,o,f⟩:=hrel
  by_cases m:i<l.length
  ·have y:(i:Int)<(l.length:Int):=by omega
   obtain⟨g,j,h,ac,rfl,b,r,_⟩:=(z.out.on f.out).c i m
   have E:wr.cell? ⟨g,j+i*5,none⟩=some (.int .i64 l[i].what):=b 0 (by omega)
   have L:wr.cell? ⟨g,j+i*5+1,none⟩=some (.string (bs l[i].text)):=by rw[Nat.add_assoc];exact b 1 (by omega)
   have M:wr.cell? ⟨g,j+i*5+2,none⟩=some (.string (bs l[i].name)):=by rw[Nat.add_assoc];exact b 2 (by omega)
   have J:wr.cell? ⟨g,j+i*5+3,none⟩=some (.string (bs l[i].proc)):=by rw[Nat.add_assoc];exact b 3 (by omega)
   have O:wr.cell? ⟨g,j+i*5+4,none⟩=some (.slice h l[i].args.length ac):=by rw[Nat.add_assoc];exact b 4 (by omega)
   have F:g<wr.heap.size:=zg E
   have v:=zh (D.out wr l[i] h ac (List.getElem_mem m) f.out r)
   unfold acells at v
   have A:Hid ((l.take (i+1)).any p=p l[i]):=by
    show _=_
    rw[List.take_succ_eq_append_getElem m,List.any_append,o.out];simp
   have B:Hid (p l[i]=true->l.any p=true):=fun e=>List.any_eq_true.2 ⟨_,List.getElem_mem m,e⟩
   clear b r
   generalize p l[i]=d at *
   generalize l[i].what=x0 at *
   generalize bs l[i].text=x1 at *
   generalize bs l[i].name=x2 at *
   generalize bs l[i].proc=x3 at *
   generalize l[i].args.length=x4 at *
   clear o
   go_wp2_with fail
   refine v.out.mono ?_
   rintro e N⟨rfl,u⟩
   have s:=zh (f.out.trans (u.mono f.out.size))
   clear u
   cases d with
   |true =>
    have q:=zh (B.out rfl)
    go_wp2_with fail
    go_ret
    refine⟨⟨_,rfl,?_⟩,s.out⟩
    rw[q.out]
    exact decide_eq_true (by omega)
   |false =>
    go_wp2_with fail
    go_roundg (l.length-(i+1))
    case measure=>omega
    case rel=>exact⟨i+1,by omega,rfl,by go_num,A,s⟩
  ·have y:¬(i:Int)<(l.length:Int):=by omega
   have q:Hid (l.any p=false):=by
    have:=o.out
    rw[List.take_of_length_le (by omega)]at this
    exact this
   go_wp2_with fail
   go_ret
   refine⟨⟨_,rfl,?_⟩,f.out⟩
   rw[q.out]
   rfl
theorem containsA1 {w:World}{a:Option Addr}{cap:Nat}{l:List Ac}{p:Ac->Bool}{b:FuncId}{c1:Value}(f:ActAt w l a)(j:l.length<=1000000)(c:∀(args:Array Value) (w:World),(callFunc b args).run Tryz.prog w=.ok (.enter b args) w)
  (hd:∀W (x:Ac) aa ac,x∈l->Below w.heap.size w W->IntsAt W x.args aa->Calls Tryz.prog b #[.agg (acells x aa ac),c1] W fun e w'=>e=.returned (.bool (p x))/\Below W.heap.size W w') :
  Calls Tryz.prog 14 #[.slice a l.length cap,.func (.func b) #[] #[c1]] w fun e w'=>e=.returned (.bool (l.any p))/\Below w.heap.size w w':=by
 have i:=zh (indexA1 (cap:=cap) f j c hd)
 clear f hd c
 go_enter Tryz.func14,Tryz.ntmps14
 go_wp2_with fail
 refine i.out.mono ?_
 rintro e m⟨⟨k,rfl,d⟩,h⟩
 have g:=zh d
 clear d
 go_wp2_with fail
 go_ret
 exact⟨by rw[<-g.out];rfl,h⟩
def longA (x:Ac):Bool:=decide (1000<x.text.length) || (decide (40<x.name.length) || (decide (40<x.proc.length) || decide (10<x.args.length)))
theorem held_cf (args:Array Value)(w:World):(callFunc 26 args).run Tryz.prog w=.ok (.enter 26 args) w:=by kernel_rfl
theorem held1_post (w:World)(x:Ac)(g:Option Addr)(ac:Nat):Calls Tryz.prog 26 #[.agg (acells x g ac)] w fun e w'=>e=.returned (.bool (longA x))/\Below w.heap.size w w':=by
 obtain⟨w2,a⟩:∃w2,w2=w.alloc (.cells (acells x g ac) 31):=⟨_,rfl⟩
 have j:Below w.heap.size w w2:=by rw[a];exact zb _ _
 have b:w2.heap[w.heap.size]?=some (.cells (acells x g ac) 31 (0,0)):=by rw[a];exact zo _ _
 unfold acells at *
 have v:w2.cell? ⟨w.heap.size,1,none⟩=some (.string (bs x.text)):=(za b).trans rfl
 have t:w2.cell? ⟨w.heap.size,2,none⟩=some (.string (bs x.name)):=(za b).trans rfl
 have s:w2.cell? ⟨w.heap.size,3,none⟩=some (.string (bs x.proc)):=(za b).trans rfl
 have u:w2.cell? ⟨w.heap.size,4,none⟩=some (.slice g x.args.length ac):=(za b).trans rfl
 have r:=zf b
 have c:=zh j
 have p:((bs x.text).size:Int)=(x.text.length:Int):=by rw[yz]
 have o:((bs x.name).size:Int)=(x.name.length:Int):=by rw[yz]
 have q:((bs x.proc).size:Int)=(x.proc.length:Int):=by rw[yz]
 unfold longA
 clear b j
 by_cases d:1000<x.text.length
 ·have k:(x.text.length:Int) > 1000:=by omega
  rw[decide_eq_true d,Bool.true_or]
  clear d
  go_enter Tryz.func26,Tryz.ntmps26
  go_upto_region 1 with fail
  rw[<-a]
  clear a
  go_wp2_with fail
  go_ret
  exact⟨rfl,c.out⟩
 have k:¬(x.text.length:Int) > 1000:=by omega
 rw[decide_eq_false d,Bool.false_or]
 clear d
 by_cases i:40<x.name.length
 ·have m:(x.name.length:Int) > 40:=by omega
  rw[decide_eq_true i,Bool.true_or]
  clear i
  go_enter Tryz.func26,Tryz.ntmps26
  go_upto_region 1 with fail
  rw[<-a]
  clear a
  go_wp2_with fail
  go_ret
  exact⟨rfl,c.out⟩
 have m:¬(x.name.length:Int) > 40:=by omega
 rw[decide_eq_false i,Bool.false_or]
 clear i
 by_cases f:40<x.proc.length
 ·have l:(x.proc.length:Int) > 40:=by omega
  rw[decide_eq_true f,Bool.true_or]
  clear f
  go_enter Tryz.func26,Tryz.ntmps26
  go_upto_region 1 with fail
  rw[<-a]
  clear a
  go_wp2_with fail
  go_ret
  exact⟨rfl,c.out⟩
 have l:¬(x.proc.length:Int) > 40:=by omega
 rw[decide_eq_false f,Bool.false_or]
 clear f
 by_cases h:10<x.args.length
 ·have n:(x.args.length:Int) > 10:=by omega
  rw[decide_eq_true h]
  clear h
  go_enter Tryz.func26,Tryz.ntmps26
  go_upto_region 1 with fail
  rw[<-a]
  clear a
  go_wp2_with fail
  go_ret
  exact⟨rfl,c.out⟩
 ·have n:¬(x.args.length:Int) > 10:=by omega
  rw[decide_eq_false h]
  clear h
  go_enter Tryz.func26,Tryz.ntmps26
  go_upto_region 1 with fail
  rw[<-a]
  clear a
  go_wp2_with fail
  go_ret
  exact⟨rfl,c.out⟩
structure HeldA (l:List Ac):Prop where
 n:l.length<=12
 x:∀x∈l,x.text.length<=1000/\x.name.length<=40/\x.proc.length<=40/\x.args.length<=10
def HeldP (l:List Ac) (w:World) (e:Ending) (w':World):Prop:=(∃b,e=.returned (.bool b)/\(b=true->HeldA l))/\Below w.heap.size w w'
theorem held_post {w:World}{l:List Ac}{a:Option Addr}{cap:Nat}(b:ActAt w l a):Calls Tryz.prog 7 #[.slice a l.length cap] w (HeldP l w):=by
 by_cases d:l.length<=12
 ·have c:(l.length:Int)<=12:=by omega
  have j:=zh (containsA0 (cap:=cap) b (by omega) held_cf (fun W x k ac _ _ _=>held1_post W x k ac))
  have o:Hid ((!(l.any longA))=true->HeldA l):=fun e=>by
   have h:l.any longA=false:=by simpa using e
   rw[List.any_eq_false]at h
   refine⟨d,fun x n=>?_⟩
   have:=h x n
   unfold longA at this
   simp only[Bool.or_eq_true,decide_eq_true_eq,not_or,Nat.not_lt]at this
   exact this
  clear b d
  generalize l.any longA=r at *
  obtain⟨i,f⟩:∃i,i=l.length:=⟨_,rfl⟩
  rw[<-f]at c j ⊢
  clear f
  go_enter Tryz.func7,Tryz.ntmps7
  go_wp2_with fail
  refine j.out.mono ?_
  rintro e p⟨rfl,g⟩
  have m:=zh g
  clear g
  go_wp2_with fail
  go_ret
  refine⟨⟨!r,?_,o.out⟩,m.out⟩
  first|rfl|simp
 ·have c:¬(l.length:Int)<=12:=by omega
  clear b
  go_enter Tryz.func7,Tryz.ntmps7
  go_wp2_with fail
  go_ret
  exact⟨⟨false,rfl,fun e=>by cases e⟩,Below.refl _ _⟩
end Go.Proofs.YtibncofnnlbmcaaGreatDoor
namespace Go.Proofs.YtibncofnnlbmcaaGreatDoor
open Go.RowKit Go.Maps
open Tp (Bs X S G Pr Pt Rs Rr Own)
theorem ran_any {w:World}(d3:Mk w)(c9:Lv w):Calls Tryz.prog 8 #[] w fun e w'=>e=.returned (.bool true)/\Below w.heap.size w w':=by
 have hp:=yP w Tp.txtR (by decide) d3 c9
 have HP:Hid (Calls Tryz.prog 9 #[.string ⟨#[109,111,100,117,108,101,32,109,59,32,118,97,114,32,120,58,32,105,110,116,59,32,112,114,111,99,32,102,42,40,97,41,59,32,98,101,103,105,110,32,120,32,58,61,32,120,32,43,32,97,59,32,114,101,116,117,114,110,32,120,32,42,32,50,59,32,101,110,100,59,32,98,101,103,105,110,32,119,114,105,116,101,32,102,40,51,41,59,32,101,110,100,46]⟩] w fun e w'=>Below w.heap.size w w'/\∃v,e=.returned (.tuple #[v,.nilIface])/\VM w.heap.size Tp.modR v w'):=by
  refine hp.mono ?_
  rintro e w'⟨R,h2⟩
  unfold ParseP at h2
  rw[Tp.parseR]at h2
  exact⟨R,h2⟩
 have d4:=(Tp.parse_wm Tp.parseR).1
 have c4:=zh d4
 clear hp d3 c9 d4
 go_enter Tryz.func8,Tryz.ntmps8
 go_wp2_with fail
 refine HP.out.mono ?_
 rintro e f⟨R,v1,rfl,b7⟩
 obtain⟨u,E,t,C,y,B,A,D,rfl,b0⟩:=b7.mb
 have T:mcells (bs Tp.modR.name) (.slice u Tp.modR.imports.length y) (.slice E Tp.modR.vars.length B) (.slice t Tp.modR.procs.length A) (.slice C Tp.modR.body.length D)=#[.string ⟨#[109]⟩,.slice u 0 y,.slice E 1 B,.slice t 1 A,.slice C 1 D]:=rfl
 obtain⟨h,J⟩:∃h,h=(f.alloc (.cells #[.string ⟨#[109]⟩,.slice u 0 y,.slice E 1 B,.slice t 1 A,.slice C 1 D] 36)).alloc (.cells #[.slice none 0 0,.map none] 28):=⟨_,rfl⟩
 have e5:h.heap.size=f.heap.size+2:=by rw[J];simp
 have a0:Below f.heap.size f h:=by rw[J];exact(zb _ _).alloc (by simp) _
 have a8:h.heap[f.heap.size+1]?=some (.cells #[.slice none 0 0,.map none] 28 (0,0)):=by
  have:=zo (f.alloc (.cells #[.string ⟨#[109]⟩,.slice u 0 y,.slice E 1 B,.slice t 1 A,.slice C 1 D] 36)) (.cells #[.slice none 0 0,.map none] 28)
  rw[J];simpa using this
 have F:h.heap[f.heap.size]?=some (.cells #[.string ⟨#[109]⟩,.slice u 0 y,.slice E 1 B,.slice t 1 A,.slice C 1 D] 36 (0,0)):=by
  rw[J];exact(Below.heap_alloc _ _ _ (by simp)).trans (zo _ _)
 have e3:=R.size
 have b3:Hid (∀(a:World) (U':Nat->Prop),WZ (fun _=>False) U' 1 a (f.heap.size+1) (Tp.loadW ofS [] Tp.modR 100).w->(∀b,U' b->w.heap.size<=b/\b<a.heap.size)->Below w.heap.size w a->∀(d:World) (x:Nat),Below a.heap.size a d->d.cell? ⟨x,0,none⟩=some (.int .i64 4)->Calls Tryz.prog 27 #[.pointer (some ⟨f.heap.size+1,0,none⟩),.string ⟨#[109]⟩,.string ⟨#[102]⟩,.slice (some ⟨x,0,none⟩) 1 1,.int .i64 100] d fun e k=>∃r K g,e=.returned (.tuple #[.agg #[.int .i64 1,.slice r K g],.int .i64 14,.nilIface])/\Below w.heap.size w k/\∀b,a.heap.size<=b->b<d.heap.size->k.heap[b]?=d.heap[b]?):=by
  intro a U' hz hU P d x m b8
  have H:=Tp.ranR ofS
  have d9:IntsAt d [4] (some ⟨x,0,none⟩):=⟨fun i hi=>by
   have:i=0:=by simp at hi;omega
   subst this
   exact⟨x,0,rfl,zg b8,b8⟩⟩
  have hc:=call_any (nm:=[102]) (vs:=[4]) (md:=[109]) (ac:=1) (fuel:=100) (hz.on m) (by omega) (by decide) (fun v hv=>by rw[List.mem_singleton]at hv;subst hv;unfold Tp.I64;omega) d9 (by decide)
  refine hc.mono ?_
  rintro e k⟨r,g,ev,Q,U,M⟩
  obtain⟨U2,_,n⟩:=U.wz
  rw[H.2.2.1]at M
  have a2:ev=.nilIface:=M
  rw[H.2.2.2.1,H.2.2.2.2,a2]at Q
  have f3:=m.size
  have a9:=P.size
  refine⟨r,_,g,Q,⟨(n.os.trans m.os).trans P.os,(n.tape.trans m.tape).trans P.tape,(n.output.trans m.output).trans P.output,by have:=n.size;omega,fun b hb=>?_⟩,fun b h4 h8=>n.block b h8 (fun q=>by have:=hU b q;omega)⟩
  exact((n.block b (by omega) (fun q=>by have:=hU b q;omega)).trans (m.block b (by omega))).trans (P.block b hb)
 have HL:Hid (Calls Tryz.prog 17 #[.pointer (some ⟨f.heap.size+1,0,none⟩),.agg #[.string ⟨#[109]⟩,.slice u 0 y,.slice E 1 B,.slice t 1 A,.slice C 1 D],.int .i64 100] h fun e a=>∃b o g,e=.returned (.tuple #[.agg #[.int .i64 1,.slice (some ⟨b,o,none⟩) 1 g],.nilIface])/\a.cell? ⟨b,o,none⟩=some (.int .i64 6)/\(∀(d:World) (x:Nat),Below a.heap.size a d->d.cell? ⟨x,0,none⟩=some (.int .i64 4)->Calls Tryz.prog 27 #[.pointer (some ⟨f.heap.size+1,0,none⟩),.string ⟨#[109]⟩,.string ⟨#[102]⟩,.slice (some ⟨x,0,none⟩) 1 1,.int .i64 100] d fun e k=>∃r K g,e=.returned (.tuple #[.agg #[.int .i64 1,.slice r K g],.int .i64 14,.nilIface])/\Below w.heap.size w k/\∀b,a.heap.size<=b->b<d.heap.size->k.heap[b]?=d.heap[b]?)/\h.heap.size<=a.heap.size):=by
  have e4:WZ (fun _=>False) (fun b=>b=f.heap.size+1) 0 h (f.heap.size+1) []:=WZ.zero a8 (fun q=>q)
  have d8:MD h (fun b=>b<f.heap.size) Tp.modR u E t C y B A D:=(b0.md).mono (fun b hb hl=>⟨a0.block b hl,hb⟩)
  have d7:Tp.nM Tp.modR<=1000:=by
   have h2:=(Tp.parse_wm Tp.parseR).2
   have e2:Tp.txtR.length<=1000:=by decide
   omega
  have hl:=vJ (fuel:=100) e4 (fun b q=>q.elim) (by omega) (b0.up a0) d8 (fun b hb _=>⟨fun q=>q,by omega⟩) c4.out d7 (by omega)
  rw[T]at hl
  refine hl.mono ?_
  rintro e a⟨r,g,ev,Q,_,U,M⟩
  have H:=Tp.ranR ofS
  obtain⟨U2,b5,n⟩:=U.wz
  rw[H.1]at M
  have a2:ev=.nilIface:=M
  have c8:=U.it
  rw[H.2.1,a2]at Q
  rw[H.2.1]at c8
  obtain⟨b,o,rfl,_,hc⟩:=c8.c 0 (by decide)
  have a9:=n.size
  exact⟨b,o,g,Q,hc,b3.out a U2 b5 (fun b q=>by
   have h4:=(b5.lt q).1
   rcases n.more b q with z|z
   ·exact⟨by rw[z];omega,h4⟩
   ·exact⟨by omega,h4⟩) ((R.trans (a0.mono e3)).trans (n.toBelow (by omega) (fun b q=>by rw[q];omega))),a9⟩
 rw[T]
 have k0:h.cell? ⟨f.heap.size,0,none⟩=some (.string ⟨#[109]⟩):=(za F).trans rfl
 have k1:h.cell? ⟨f.heap.size,1,none⟩=some (.slice u 0 y):=(za F).trans rfl
 have k2:h.cell? ⟨f.heap.size,2,none⟩=some (.slice E 1 B):=(za F).trans rfl
 have k3:h.cell? ⟨f.heap.size,3,none⟩=some (.slice t 1 A):=(za F).trans rfl
 have k4:h.cell? ⟨f.heap.size,4,none⟩=some (.slice C 1 D):=(za F).trans rfl
 have e8:=zf F
 have e9:=zf a8
 clear b7 b0 T F a8 a0 R b3 HP c4 e5
 go_upto_region 5 with fail
 rw[<-J]
 clear J
 go_wp2_with fail
 refine HL.out.mono ?_
 rintro e a⟨b,o,g,rfl,Z,b2,a9⟩
 obtain⟨l,V⟩:∃l,l=a.alloc (.cells #[.int .i64 1,.slice (some ⟨b,o,none⟩) 1 g] 43):=⟨_,rfl⟩
 have L:l.heap[a.heap.size]?=some (.cells #[.int .i64 1,.slice (some ⟨b,o,none⟩) 1 g] 43 (0,0)):=by rw[V];exact zo _ _
 have W:Below a.heap.size a l:=by rw[V];exact zb _ _
 obtain⟨s,Y⟩:∃s,s=l.alloc (.cells #[.int .i64 6] 2):=⟨_,rfl⟩
 have O:Below l.heap.size l s:=by rw[Y];exact zb _ _
 have c0:s.heap[l.heap.size]?=some (.cells #[.int .i64 6] 2 (0,0)):=by rw[Y];exact zo _ _
 have c5:=W.size
 have f2:=O.size
 have d5:=zf L
 have c6:s.cell? ⟨b,o,none⟩=some (.int .i64 6):=(O.cell (p:=⟨b,o,none⟩) (Nat.lt_of_lt_of_le (zg Z) c5)).trans ((W.cell (p:=⟨b,o,none⟩) (zg Z)).trans Z)
 have d6:s.cell? ⟨l.heap.size,0,none⟩=some (.int .i64 6):=(za c0).trans rfl
 have c3:=zh (eq_one (c1:=g) (c2:=1) c6 d6)
 clear d6
 have a7:Hid (s.heap[a.heap.size]?=some (.cells #[.int .i64 1,.slice (some ⟨b,o,none⟩) 1 g] 43 (0,0))):=(O.block _ d5).trans L
 have a6:Hid (Below a.heap.size a s):=W.trans (O.mono c5)
 have f0:l.cell? ⟨a.heap.size,0,none⟩=some (.int .i64 1):=(za L).trans rfl
 have f1:l.cell? ⟨a.heap.size,1,none⟩=some (.slice (some ⟨b,o,none⟩) 1 g):=(za L).trans rfl
 have d1:=zh b2
 clear L W O c0 c6 Z b2 k0 k1 k2 k3 k4
 go_upto_region 6 with fail
 rw[<-V]
 clear V
 go_upto_region 7 with(go_at_call 24;rw[<-Y];refine c3.out.mono ?_;rintro e G ⟨rfl,X⟩)
 have f4:=X.size
 have a4:Hid (Below a.heap.size a G):=a6.out.trans (X.mono a6.out.size)
 have b1:Hid (G.heap[a.heap.size]?=some (.cells #[.int .i64 1,.slice (some ⟨b,o,none⟩) 1 g] 43 (0,0))):=(X.block _ (zf a7.out)).trans a7.out
 clear X Y a7 a6 c3 f0 f1
 obtain⟨d,a1⟩:∃d,d=G.alloc (.cells #[.int .i64 4] 2):=⟨_,rfl⟩
 have m:Below G.heap.size G d:=by rw[a1];exact zb _ _
 have c7:d.heap[G.heap.size]?=some (.cells #[.int .i64 4] 2 (0,0)):=by rw[a1];exact zo _ _
 have b4:=(m.block _ (zf b1.out)).trans b1.out
 have d2:=zh (d1.out d G.heap.size (a4.out.trans (m.mono a4.out.size)) ((za c7).trans rfl))
 have a5:=zh b4
 clear d1 c7 m b4 a4 b1
 go_wp2_with fail
 rw[<-a1]
 refine d2.out.mono ?_
 rintro e k⟨r,K,b6,rfl,b9,d0⟩
 have I:=(d0 _ zn (zf a5.out)).trans a5.out
 have T:k.cell? ⟨a.heap.size,0,none⟩=some (.int .i64 1):=(za I).trans rfl
 have e1:k.cell? ⟨a.heap.size,1,none⟩=some (.slice (some ⟨b,o,none⟩) 1 g):=(za I).trans rfl
 have ez:∀j,k.frozen? ⟨a.heap.size,j,none⟩=false:=fun j=>zi I
 have e6:=zf I
 have a3:=zu 1 (.slice r K b6) (zu 0 (.int .i64 1) I)
 obtain⟨S,N⟩:∃S,S=(k.setCell ⟨a.heap.size,0,none⟩ (.int .i64 1)).setCell ⟨a.heap.size,1,none⟩ (.slice r K b6):=⟨_,rfl⟩
 have g0:S.cell? ⟨a.heap.size,0,none⟩=some (.int .i64 1):=by rw[N];exact(za a3).trans rfl
 have HF:Hid (Below w.heap.size w S):=by
  show Below _ _ _
  rw[N]
  exact zq (zq b9 (by omega) 0 _) (by omega) 1 _
 have e7:a.heap.size<S.heap.size:=by rw[N];exact zf a3
 clear a3 I d0 b9 d2 a5 a1 HL
 go_upto_region 9 with fail
 rw[<-N]
 clear N T e1 ez
 go_wp2_with fail
 go_ret
 exact⟨rfl,HF.out⟩
end Go.Proofs.YtibncofnnlbmcaaGreatDoor
namespace Go.Proofs.YtibncofnnlbmcaaGreatDoor
open Go.RowKit Go.Maps
open Tp (Bs X S G Pr Pt Rs Rr Own)
theorem it4_app (a s:ByteArray)(u:Int):∀j,it4 (a++s) u j=(a++(it4 s u j).1,(it4 s u j).2)
 | 0=>rfl
 |j+1=>by
  show ((it4 (a++s) u j).1++twoB (it4 (a++s) u j).2,(it4 (a++s) u j).2 / 256)=_
  rw[it4_app a s u j,ByteArray.append_assoc]
  rfl
theorem fold_app {α:Type}{f:ByteArray->α->ByteArray}(a:ByteArray)(h:∀s x,f (a++s) x=a++f s x):∀(l:List α) (s:ByteArray),l.foldl f (a++s)=a++l.foldl f s
 |[],_=>rfl
 |x :: t,s=>by rw[List.foldl_cons,List.foldl_cons,h,fold_app a h t]
theorem modS_app (P:List Pt)(a s:ByteArray)(n:Bs):modS P (a++s) n=a++modS P s n:=by
 unfold modS
 rw[ByteArray.append_assoc,fold_app a (fun s v=>?_),ByteArray.append_assoc]
 unfold varS
 split
 ·exact ByteArray.append_assoc
 ·rw[ByteArray.append_assoc]
  exact fold_app a (fun s x=>by unfold numS;rw[it4_app]) _ _
theorem modS_congr {P Q:List Pt}{n:Bs}(h:∀v,Tp.getW P n v=Tp.getW Q n v):∀s,modS P s n=modS Q s n:=fun s=>by
 have:varS P n=varS Q n:=by funext s v;unfold varS;rw[h]
 unfold modS
 rw[this]
theorem allB_cons {q:Pt}{P:List Pt}(h:∀p∈P,p.m.name≠q.m.name):allB (q :: P)=allB [q]++allB P:=by
 have c:∀(l:List Bs),(∀n∈l,n≠q.m.name)->∀s,l.foldl (modS (q :: P)) s=l.foldl (modS P) s:=by
  intro l
  induction l with
  |nil=>intro _ _;rfl
  |cons n t ih=>intro b s;rw[List.foldl_cons,List.foldl_cons,modS_congr (fun v=>Tp.get_alone (b n (by simp))),ih (fun k e=>b k (by simp[e]))]
 have g:modS (q :: P) ⟨#[]⟩ q.m.name=modS [q] ⟨#[]⟩ q.m.name:=modS_congr (fun v=>by unfold Tp.getW Tp.partOf;simp) _
 unfold allB
 rw[List.map_cons,List.foldl_cons,c _ (fun n f=>by
  obtain⟨p,d,rfl⟩:=List.mem_map.1 f
  exact h p d),g]
 have a:=fold_app (modS [q] ⟨#[]⟩ q.m.name) (fun s x=>modS_app P _ s x) (P.map fun p=>p.m.name) ⟨#[]⟩
 rw[show modS [q] ⟨#[]⟩ q.m.name++⟨#[]⟩=modS [q] ⟨#[]⟩ q.m.name from ByteArray.append_empty]at a
 exact a
theorem mod_size {P:List Pt}{n:Bs}(a:∀v xs,Tp.getW P n v=some xs->xs.length<=30)(s:ByteArray):(modS P s n).size<=s.size+n.length+2501:=by
 unfold modS vars5
 rw[ByteArray.size_append]
 simp only[List.foldl_cons,List.foldl_nil]
 have:=var_size (n:=n) (v:=[122]) rfl (a _) (varS P n (varS P n (varS P n (varS P n (s++bs n) [120]) [121]) [116]) [117])
 have:=var_size (n:=n) (v:=[117]) rfl (a _) (varS P n (varS P n (varS P n (s++bs n) [120]) [121]) [116])
 have:=var_size (n:=n) (v:=[116]) rfl (a _) (varS P n (varS P n (s++bs n) [120]) [121])
 have:=var_size (n:=n) (v:=[121]) rfl (a _) (varS P n (s++bs n) [120])
 have:=var_size (n:=n) (v:=[120]) rfl (a _) (s++bs n)
 rw[ByteArray.size_append,yz]at this
 have e:(ByteArray.mk #[59]).size=1:=rfl
 omega
theorem WZ.small {X U:Nat->Prop}{c:Nat}{w:World}{r:Nat}{P:List Pt}(h:WZ X U c w r P):(allB P).size<=20000000:=by
 obtain⟨L,y,o,b,x,_⟩:=h
 cases o with
 |none =>
  obtain⟨_,rfl,_⟩:=b
  exact Nat.zero_le _
 |some tb =>
  have i:P.map (fun p=>p.m.name)=L.map fun lo=>lo.m.name:=by
   have:=congrArg (List.map fun m:Tp.M=>m.name) (WW.mw b)
   simpa[Tp.ms,Function.comp_def] using this
  have key:∀(l:List Bs),(∀n∈l,n.length<=1000000/\∀v d,Tp.getW P n v=some d->d.length<=30)->∀s:ByteArray,(l.foldl (modS P) s).size<=s.size+l.length*1100000:=by
   intro l
   induction l with
   |nil=>intro _ s;simp
   |cons n t ih =>
    intro a s
    have z:=ih (fun k u=>a k (by simp[u])) (modS P s n)
    have B:=mod_size (a n (by simp)).2 s
    have A:=(a n (by simp)).1
    rw[List.foldl_cons,List.length_cons]
    omega
  have:=key (P.map fun p=>p.m.name) (fun n g=>by
   rw[i]at g
   obtain⟨lo,f,rfl⟩:=List.mem_map.1 g
   obtain⟨_,_,_,_,j⟩:=WW.lo b lo f
   exact⟨zQ j.wm.n,fun v d q=>WW.getlen b f q⟩) ⟨#[]⟩
  have a:(P.map fun p=>p.m.name).length=L.length:=by rw[i,List.length_map]
  rw[a]at this
  have e:(ByteArray.mk #[]).size=0:=rfl
  unfold allB
  omega
theorem load_first1 {m:Tp.M}{f:Nat}(h:(Tp.loadW ofS [] m f).err=none):∃q,(Tp.loadW ofS [] m f).w=[q]/\q.m=m/\∀n,Tp.usedR m n=[]:=by
 have c:Tp.check m (Tp.seenW ofS [])=none:=by
  cases x:Tp.check m (Tp.seenW ofS []) with
  |none=>rfl
  |some e =>
   unfold Tp.loadW at h
   rw[x]at h
   cases h
 have d:=loadS_ok (fuel:=f) (P:=[]) (m:=m) rfl c (by decide)
 have b:=Tp.endOf_ms (n:=Tp.gasOf ([]++[⟨m,Tp.fresh m⟩]) m.body f) (k:=0) (md:=m.name) (own:=fun _=>none) (l:=m.body) (s:=⟨[]++[⟨m,Tp.fresh m⟩],f,[]⟩) Tp.goS_enough
 have y:(Tp.loadW ofS [] m f).w=(Tp.endOf (Tp.goS (Tp.gasOf ([]++[⟨m,Tp.fresh m⟩]) m.body f) 0 m.name (fun _=>none) m.body ⟨[]++[⟨m,Tp.fresh m⟩],f,[]⟩)).1:=by rw[d]
 rw[<-y]at b
 have u:∀n,n ∉ m.imports:=fun n a=>((Tp.check_none.1 c).1.1 n a).2 rfl
 refine(?_:∃q,(Tp.loadW ofS [] m f).w=[q]/\q.m=m).elim fun q g=>⟨q,g.1,g.2,fun n=>?_⟩
 ·generalize (Tp.loadW ofS [] m f).w=z at b
  match z,b with
  |[q],e=>exact⟨q,rfl,by simpa[Tp.ms] using e⟩
  |[],e=>simp[Tp.ms]at e
  | _ :: _ :: _,e=>simp[Tp.ms]at e
 ·unfold Tp.usedR
  by_cases a:n=[]
  ·subst a;simp
  ·obtain⟨j,v⟩:=Tp.check_names c a (u n)
   rw[List.map_eq_nil_iff,List.filter_eq_nil_iff]
   intro r i
   have:r.mod≠n:=by
    unfold Tp.allR at i
    rcases List.mem_append.1 i with z|z
    ·obtain⟨l,d,o⟩:=List.mem_flatten.1 z
     obtain⟨p,t,rfl⟩:=List.mem_map.1 d
     exact j p t r o
    ·exact v r z
   simp[this]
def usesB (mn:Bs) (x:Ac):Bool:=decide (x.name=mn) || match Tp.parse x.text with
 | .error _=>false
 | .ok y=>decide (y.name=mn) || decide (mn∈y.imports)
theorem act_alone {q:Pt}{P:List Pt}{a:Ac}{f:Nat}{d i:Tp.Ans}(o:q.m.name≠[])(g:Tp.Inv q.m.name P)(s:∀n,Tp.usedR q.m n=[])(h:usesB q.m.name a=false)(c:ActIs P a f d)(b:ActIs (q :: P) a f i)(p:tellN i.err≠12) :
  i=⟨q :: d.w,d.e,d.n,d.err⟩/\Tp.Inv q.m.name d.w:=by
 unfold usesB at h
 rw[Bool.or_eq_false_iff,decide_eq_false_iff_not]at h
 obtain⟨r,b2⟩:=h
 unfold ActIs at c b
 by_cases l:a.what=1
 ·rw[if_pos l]at c b
  subst c b
  exact Tp.call_alone g r
 ·rw[if_neg l]at c b
  cases k:Tp.parse a.text with
  |error er =>
   rw[k]at c b
   subst c b
   exact⟨rfl,g⟩
  |ok m =>
   rw[k]at c b b2
   simp only[Bool.or_eq_false_iff,decide_eq_false_iff_not]at b2
   by_cases j:a.what=2
   ·simp only[if_pos j]at c b
    subst c b
    exact Tp.swap_alone o g b2.1 b2.2 (s _)
   ·simp only[if_neg j]at c b
    subst c b
    exact Tp.load_alone o g b2.1 b2.2 (fun e=>p (by rw[e];rfl))
end Go.Proofs.YtibncofnnlbmcaaGreatDoor
