import Derived.Test.YtbkndnmglhghlaaGreatDoorKEa
set_option maxRecDepth 100000
set_option maxHeartbeats 4000000

namespace Go.Proofs.YtbkndnmglhghlaaGreatDoor.Jo
open Go.RowKit
open Ob (Bs)
variable {p:Bs->Bool}{l:List Bs}{cap fb:Nat}{a:Option Addr}{c:Value}{w:World}
theorem indexStr {h:FuncId}(t:Sl w (.slice a l.length cap) 1 l.length (cellsOf stC l))(K:l.length<=1000000)(G:∀(args:Array Value) (w:World),(callFunc h args).run Tryz.prog w=.ok (.enter h args) w)
  (hd:∀W (x:Bs),x∈l->Below w.heap.size w W->Calls Tryz.prog h #[.string (bs x),c] W fun e w'=>e=.returned (.bool (p x))/\Below W.heap.size W w') :
  Calls Tryz.prog 31 #[.slice a l.length cap,.func (.func h) #[] #[c]] w fun e w'=>(∃k:Int,e=.returned (.int .i64 k)/\(decide (0<=k)=l.any p))/\Below w.heap.size w w':=by
 have I:(l.length:Int)<=1000000:=by omega
 have z:=zh t
 have B:=zh hd
 clear t hd
 go_enter Tryz.func31,Tryz.ntmps31
 go_wp2_with fail
 go_loopg [8] l.length (fun k E wr=>∃i:Nat,i<=l.length/\k=l.length-i/\E=.int .i64 (i:Int)/\Hid ((l.take i).any p=false)/\Hid (Below w.heap.size w wr))
 case atStart=>exact⟨0,by omega,by omega,rfl,rfl,Below.refl _ _⟩
 case round =>
  obtain⟨i,H,J,rfl,n,b⟩:=hrel
  by_cases f:i<l.length
  ·have u:(i:Int)<(l.length:Int):=by omega
   obtain⟨g,r,rfl,A,o⟩:=z.out.at' xu (by omega) i f
   have j:=o 0 _ rfl
   rw[Nat.mul_one,Nat.add_zero]at j
   have D:wr.cell? ⟨g,r+i,none⟩=some (.string (bs l[i])):=(b.out.cell (p:=⟨g,r+i,none⟩) A).trans j
   clear j
   have F:g<wr.heap.size:=zg D
   have C:=zh (B.out wr l[i] (List.getElem_mem f) b.out)
   clear o
   have y:Hid ((l.take (i+1)).any p=p l[i]):=by
    show _=_
    rw[List.take_succ_eq_append_getElem f,List.any_append,n.out];simp
   have v:Hid (p l[i]=true->l.any p=true):=fun e=>List.any_eq_true.2 ⟨_,List.getElem_mem f,e⟩
   generalize p l[i]=d at *
   generalize l[i]=x at *
   clear n
   go_wp2_with fail
   refine C.out.mono ?_
   rintro e L⟨rfl,s⟩
   have q:=zh (b.out.trans (s.mono b.out.size))
   clear s
   cases d with
   |true =>
    have m:=zh (v.out rfl)
    go_wp2_with fail
    go_ret
    refine⟨⟨_,rfl,?_⟩,q.out⟩
    rw[m.out]
    exact decide_eq_true (by omega)
   |false =>
    go_wp2_with fail
    go_roundg (l.length-(i+1))
    case measure=>omega
    case rel=>exact⟨i+1,by omega,rfl,by go_num,y,q⟩
  ·have u:¬(i:Int)<(l.length:Int):=by omega
   have m:Hid (l.any p=false):=by
    have:=n.out
    rw[List.take_of_length_le (by omega)]at this
    exact this
   go_wp2_with fail
   go_ret
   refine⟨⟨_,rfl,?_⟩,b.out⟩
   rw[m.out]
   rfl
theorem containsStr {b:FuncId}(f:Sl w (.slice a l.length cap) 1 l.length (cellsOf stC l))(m:l.length<=1000000)(d:∀(args:Array Value) (w:World),(callFunc b args).run Tryz.prog w=.ok (.enter b args) w)
  (hd:∀W (x:Bs),x∈l->Below w.heap.size w W->Calls Tryz.prog b #[.string (bs x),c] W fun e w'=>e=.returned (.bool (p x))/\Below W.heap.size W w') :
  Calls Tryz.prog 13 #[.slice a l.length cap,.func (.func b) #[] #[c]] w fun e w'=>e=.returned (.bool (l.any p))/\Below w.heap.size w w':=by
 have h:=zh (indexStr f m d hd)
 clear f hd d
 go_enter Tryz.func13,Tryz.ntmps13
 go_wp2_with fail
 refine h.out.mono ?_
 rintro e n⟨⟨k,rfl,g⟩,j⟩
 have i:=zh g
 clear g
 go_wp2_with fail
 go_ret
 exact⟨by rw[<-i.out];rfl,j⟩
theorem indexStr0 {f:FuncId}  (s:Sl w (.slice a l.length cap) 1 l.length (cellsOf stC l))(J:l.length<=1000000)(F:∀(args:Array Value) (w:World),(callFunc f args).run Tryz.prog w=.ok (.enter f args) w)
  (hd:∀W (x:Bs),x∈l->Below w.heap.size w W->Calls Tryz.prog f #[.string (bs x)] W fun e w'=>e=.returned (.bool (p x))/\Below W.heap.size W w') :
  Calls Tryz.prog 31 #[.slice a l.length cap,.func (.func f) #[] #[]] w fun e w'=>(∃k:Int,e=.returned (.int .i64 k)/\(decide (0<=k)=l.any p))/\Below w.heap.size w w':=by
 have H:(l.length:Int)<=1000000:=by omega
 have y:=zh s
 have A:=zh hd
 clear s hd
 go_enter Tryz.func31,Tryz.ntmps31
 go_wp2_with fail
 go_loopg [8] l.length (fun k D wr=>∃i:Nat,i<=l.length/\k=l.length-i/\D=.int .i64 (i:Int)/\Hid ((l.take i).any p=false)/\Hid (Below w.heap.size w wr))
 case atStart=>exact⟨0,by omega,by omega,rfl,rfl,Below.refl _ _⟩
 case round =>
  obtain⟨i,G,I,rfl,m,b⟩:=hrel
  by_cases c:i<l.length
  ·have t:(i:Int)<(l.length:Int):=by omega
   obtain⟨g,q,rfl,z,n⟩:=y.out.at' xu (by omega) i c
   have h:=n 0 _ rfl
   rw[Nat.mul_one,Nat.add_zero]at h
   have C:wr.cell? ⟨g,q+i,none⟩=some (.string (bs l[i])):=(b.out.cell (p:=⟨g,q+i,none⟩) z).trans h
   clear h
   have E:g<wr.heap.size:=zg C
   have B:=zh (A.out wr l[i] (List.getElem_mem c) b.out)
   clear n
   have v:Hid ((l.take (i+1)).any p=p l[i]):=by
    show _=_
    rw[List.take_succ_eq_append_getElem c,List.any_append,m.out];simp
   have u:Hid (p l[i]=true->l.any p=true):=fun e=>List.any_eq_true.2 ⟨_,List.getElem_mem c,e⟩
   generalize p l[i]=d at *
   generalize l[i]=x at *
   clear m
   go_wp2_with fail
   refine B.out.mono ?_
   rintro e K⟨rfl,r⟩
   have o:=zh (b.out.trans (r.mono b.out.size))
   clear r
   cases d with
   |true =>
    have j:=zh (u.out rfl)
    go_wp2_with fail
    go_ret
    refine⟨⟨_,rfl,?_⟩,o.out⟩
    rw[j.out]
    exact decide_eq_true (by omega)
   |false =>
    go_wp2_with fail
    go_roundg (l.length-(i+1))
    case measure=>omega
    case rel=>exact⟨i+1,by omega,rfl,by go_num,v,o⟩
  ·have t:¬(i:Int)<(l.length:Int):=by omega
   have j:Hid (l.any p=false):=by
    have:=m.out
    rw[List.take_of_length_le (by omega)]at this
    exact this
   go_wp2_with fail
   go_ret
   refine⟨⟨_,rfl,?_⟩,b.out⟩
   rw[j.out]
   rfl
theorem containsStr0 {b:FuncId}  (d:Sl w (.slice a l.length cap) 1 l.length (cellsOf stC l))(j:l.length<=1000000)(c:∀(args:Array Value) (w:World),(callFunc b args).run Tryz.prog w=.ok (.enter b args) w)
  (hd:∀W (x:Bs),x∈l->Below w.heap.size w W->Calls Tryz.prog b #[.string (bs x)] W fun e w'=>e=.returned (.bool (p x))/\Below W.heap.size W w') :
  Calls Tryz.prog 13 #[.slice a l.length cap,.func (.func b) #[] #[]] w fun e w'=>e=.returned (.bool (l.any p))/\Below w.heap.size w w':=by
 have g:=zh (indexStr0 d j c hd)
 clear d hd c
 go_enter Tryz.func13,Tryz.ntmps13
 go_wp2_with fail
 refine g.out.mono ?_
 rintro e m⟨⟨k,rfl,f⟩,i⟩
 have h:=zh f
 clear f
 go_wp2_with fail
 go_ret
 exact⟨by rw[<-h.out];rfl,i⟩
theorem indexSym {l:List Ob.Sm}{p:Ob.Sm->Bool}{m:FuncId}(t:Sl w (.slice a l.length cap) 3 l.length (cellsOf smC l))(L:l.length<=1000000)(F:∀(args:Array Value) (w:World),(callFunc m args).run Tryz.prog w=.ok (.enter m args) w)
  (hd:∀W (x:Ob.Sm),x∈l->Below w.heap.size w W->Calls Tryz.prog m #[.agg #[.string (bs x.name),.int .i64 x.len,.int .i64 x.args],c] W fun e w'=>e=.returned (.bool (p x))/\Below W.heap.size W w') :
  Calls Tryz.prog 32 #[.slice a l.length cap,.func (.func m) #[] #[c]] w fun e w'=>(∃k:Int,e=.returned (.int .i64 k)/\(decide (0<=k)=l.any p))/\Below w.heap.size w w':=by
 have H:(l.length:Int)<=1000000:=by omega
 have z:=zh t
 have A:=zh hd
 clear t hd
 go_enter Tryz.func32,Tryz.ntmps32
 go_wp2_with fail
 go_loopg [8] l.length (fun k D wr=>∃i:Nat,i<=l.length/\k=l.length-i/\D=.int .i64 (i:Int)/\Hid ((l.take i).any p=false)/\Hid (Below w.heap.size w wr))
 case atStart=>exact⟨0,by omega,by omega,rfl,rfl,Below.refl _ _⟩
 case round =>
  obtain⟨i,G,K,rfl,q,b⟩:=hrel
  by_cases j:i<l.length
  ·have u:(i:Int)<(l.length:Int):=by omega
   obtain⟨g,f,rfl,n,h⟩:=z.out.at' xv (by omega) i j
   have C:wr.cell? ⟨g,f+i*3,none⟩=some (.string (bs l[i].name)):=(b.out.cell (p:=⟨g,f+i*3,none⟩) n).trans (h 0 _ rfl)
   have I:wr.cell? ⟨g,f+i*3+1,none⟩=some (.int .i64 l[i].len):=(b.out.cell (p:=⟨g,f+i*3+1,none⟩) n).trans (h 1 _ rfl)
   have J:wr.cell? ⟨g,f+i*3+2,none⟩=some (.int .i64 l[i].args):=(b.out.cell (p:=⟨g,f+i*3+2,none⟩) n).trans (h 2 _ rfl)
   have E:g<wr.heap.size:=zg C
   have B:=zh (A.out wr l[i] (List.getElem_mem j) b.out)
   clear h
   have y:Hid ((l.take (i+1)).any p=p l[i]):=by
    show _=_
    rw[List.take_succ_eq_append_getElem j,List.any_append,q.out];simp
   have v:Hid (p l[i]=true->l.any p=true):=fun e=>List.any_eq_true.2 ⟨_,List.getElem_mem j,e⟩
   generalize p l[i]=d at *
   generalize l[i]=x at *
   clear q
   go_wp2_with fail
   refine B.out.mono ?_
   rintro e M⟨rfl,s⟩
   have r:=zh (b.out.trans (s.mono b.out.size))
   clear s
   cases d with
   |true =>
    have o:=zh (v.out rfl)
    go_wp2_with fail
    go_ret
    refine⟨⟨_,rfl,?_⟩,r.out⟩
    rw[o.out]
    exact decide_eq_true (by omega)
   |false =>
    go_wp2_with fail
    go_roundg (l.length-(i+1))
    case measure=>omega
    case rel=>exact⟨i+1,by omega,rfl,by go_num,y,r⟩
  ·have u:¬(i:Int)<(l.length:Int):=by omega
   have o:Hid (l.any p=false):=by
    have:=q.out
    rw[List.take_of_length_le (by omega)]at this
    exact this
   go_wp2_with fail
   go_ret
   refine⟨⟨_,rfl,?_⟩,b.out⟩
   rw[o.out]
   rfl
theorem containsSym {l:List Ob.Sm}{p:Ob.Sm->Bool}{b:FuncId}(f:Sl w (.slice a l.length cap) 3 l.length (cellsOf smC l))(m:l.length<=1000000)(d:∀(args:Array Value) (w:World),(callFunc b args).run Tryz.prog w=.ok (.enter b args) w)
  (hd:∀W (x:Ob.Sm),x∈l->Below w.heap.size w W->Calls Tryz.prog b #[.agg #[.string (bs x.name),.int .i64 x.len,.int .i64 x.args],c] W fun e w'=>e=.returned (.bool (p x))/\Below W.heap.size W w') :
  Calls Tryz.prog 14 #[.slice a l.length cap,.func (.func b) #[] #[c]] w fun e w'=>e=.returned (.bool (l.any p))/\Below w.heap.size w w':=by
 have h:=zh (indexSym f m d hd)
 clear f hd d
 go_enter Tryz.func14,Tryz.ntmps14
 go_wp2_with fail
 refine h.out.mono ?_
 rintro e n⟨⟨k,rfl,g⟩,j⟩
 have i:=zh g
 clear g
 go_wp2_with fail
 go_ret
 exact⟨by rw[<-i.out];rfl,j⟩
theorem indexGl {l:List Ob.Gl}{p:Ob.Gl->Bool}{n:FuncId}(t:Sl w (.slice a l.length cap) 4 l.length (cellsOf glC l))(M:l.length<=1000000)(F:∀(args:Array Value) (w:World),(callFunc n args).run Tryz.prog w=.ok (.enter n args) w)
  (hd:∀W (x:Ob.Gl),x∈l->Below w.heap.size w W->Calls Tryz.prog n #[.agg #[.string (bs x.name),.int .i64 x.at',.int .i64 x.len,.bool x.seen],c] W fun e w'=>e=.returned (.bool (p x))/\Below W.heap.size W w') :
  Calls Tryz.prog 33 #[.slice a l.length cap,.func (.func n) #[] #[c]] w fun e w'=>(∃k:Int,e=.returned (.int .i64 k)/\(decide (0<=k)=l.any p))/\Below w.heap.size w w':=by
 have H:(l.length:Int)<=1000000:=by omega
 have z:=zh t
 have A:=zh hd
 clear t hd
 go_enter Tryz.func33,Tryz.ntmps33
 go_wp2_with fail
 go_loopg [8] l.length (fun k D wr=>∃i:Nat,i<=l.length/\k=l.length-i/\D=.int .i64 (i:Int)/\Hid ((l.take i).any p=false)/\Hid (Below w.heap.size w wr))
 case atStart=>exact⟨0,by omega,by omega,rfl,rfl,Below.refl _ _⟩
 case round =>
  obtain⟨i,G,L,rfl,q,b⟩:=hrel
  by_cases m:i<l.length
  ·have u:(i:Int)<(l.length:Int):=by omega
   obtain⟨g,f,rfl,j,h⟩:=z.out.at' uz (by omega) i m
   have C:wr.cell? ⟨g,f+i*4,none⟩=some (.string (bs l[i].name)):=(b.out.cell (p:=⟨g,f+i*4,none⟩) j).trans (h 0 _ rfl)
   have I:wr.cell? ⟨g,f+i*4+1,none⟩=some (.int .i64 l[i].at'):=(b.out.cell (p:=⟨g,f+i*4+1,none⟩) j).trans (h 1 _ rfl)
   have J:wr.cell? ⟨g,f+i*4+2,none⟩=some (.int .i64 l[i].len):=(b.out.cell (p:=⟨g,f+i*4+2,none⟩) j).trans (h 2 _ rfl)
   have K:wr.cell? ⟨g,f+i*4+3,none⟩=some (.bool l[i].seen):=(b.out.cell (p:=⟨g,f+i*4+3,none⟩) j).trans (h 3 _ rfl)
   have E:g<wr.heap.size:=zg C
   have B:=zh (A.out wr l[i] (List.getElem_mem m) b.out)
   clear h
   have y:Hid ((l.take (i+1)).any p=p l[i]):=by
    show _=_
    rw[List.take_succ_eq_append_getElem m,List.any_append,q.out];simp
   have v:Hid (p l[i]=true->l.any p=true):=fun e=>List.any_eq_true.2 ⟨_,List.getElem_mem m,e⟩
   generalize p l[i]=d at *
   generalize l[i]=x at *
   clear q
   go_wp2_with fail
   refine B.out.mono ?_
   rintro e N⟨rfl,s⟩
   have r:=zh (b.out.trans (s.mono b.out.size))
   clear s
   cases d with
   |true =>
    have o:=zh (v.out rfl)
    go_wp2_with fail
    go_ret
    refine⟨⟨_,rfl,?_⟩,r.out⟩
    rw[o.out]
    exact decide_eq_true (by omega)
   |false =>
    go_wp2_with fail
    go_roundg (l.length-(i+1))
    case measure=>omega
    case rel=>exact⟨i+1,by omega,rfl,by go_num,y,r⟩
  ·have u:¬(i:Int)<(l.length:Int):=by omega
   have o:Hid (l.any p=false):=by
    have:=q.out
    rw[List.take_of_length_le (by omega)]at this
    exact this
   go_wp2_with fail
   go_ret
   refine⟨⟨_,rfl,?_⟩,b.out⟩
   rw[o.out]
   rfl
theorem containsGl {l:List Ob.Gl}{p:Ob.Gl->Bool}{b:FuncId}(f:Sl w (.slice a l.length cap) 4 l.length (cellsOf glC l))(m:l.length<=1000000)(d:∀(args:Array Value) (w:World),(callFunc b args).run Tryz.prog w=.ok (.enter b args) w)
  (hd:∀W (x:Ob.Gl),x∈l->Below w.heap.size w W->Calls Tryz.prog b #[.agg #[.string (bs x.name),.int .i64 x.at',.int .i64 x.len,.bool x.seen],c] W fun e w'=>e=.returned (.bool (p x))/\Below W.heap.size W w') :
  Calls Tryz.prog 16 #[.slice a l.length cap,.func (.func b) #[] #[c]] w fun e w'=>e=.returned (.bool (l.any p))/\Below w.heap.size w w':=by
 have h:=zh (indexGl f m d hd)
 clear f hd d
 go_enter Tryz.func16,Tryz.ntmps16
 go_wp2_with fail
 refine h.out.mono ?_
 rintro e n⟨⟨k,rfl,g⟩,j⟩
 have i:=zh g
 clear g
 go_wp2_with fail
 go_ret
 exact⟨by rw[<-i.out];rfl,j⟩
theorem indexEn {l:List Ob.En}{p:Ob.En->Bool}{m:FuncId}(t:Sl w (.slice a l.length cap) 3 l.length (cellsOf enC l))(L:l.length<=1000000)(F:∀(args:Array Value) (w:World),(callFunc m args).run Tryz.prog w=.ok (.enter m args) w)
  (hd:∀W (x:Ob.En),x∈l->Below w.heap.size w W->Calls Tryz.prog m #[.agg #[.int .i64 x.at',.int .i64 x.args,.int .i64 x.locals],c] W fun e w'=>e=.returned (.bool (p x))/\Below W.heap.size W w') :
  Calls Tryz.prog 157 #[.slice a l.length cap,.func (.func m) #[] #[c]] w fun e w'=>(∃k:Int,e=.returned (.int .i64 k)/\(decide (0<=k)=l.any p))/\Below w.heap.size w w':=by
 have H:(l.length:Int)<=1000000:=by omega
 have z:=zh t
 have A:=zh hd
 clear t hd
 go_enter Tryz.func157,Tryz.ntmps157
 go_wp2_with fail
 go_loopg [8] l.length (fun k D wr=>∃i:Nat,i<=l.length/\k=l.length-i/\D=.int .i64 (i:Int)/\Hid ((l.take i).any p=false)/\Hid (Below w.heap.size w wr))
 case atStart=>exact⟨0,by omega,by omega,rfl,rfl,Below.refl _ _⟩
 case round =>
  obtain⟨i,G,K,rfl,q,b⟩:=hrel
  by_cases j:i<l.length
  ·have u:(i:Int)<(l.length:Int):=by omega
   obtain⟨g,f,rfl,n,h⟩:=z.out.at' xO (by omega) i j
   have C:wr.cell? ⟨g,f+i*3,none⟩=some (.int .i64 l[i].at'):=(b.out.cell (p:=⟨g,f+i*3,none⟩) n).trans (h 0 _ rfl)
   have I:wr.cell? ⟨g,f+i*3+1,none⟩=some (.int .i64 l[i].args):=(b.out.cell (p:=⟨g,f+i*3+1,none⟩) n).trans (h 1 _ rfl)
   have J:wr.cell? ⟨g,f+i*3+2,none⟩=some (.int .i64 l[i].locals):=(b.out.cell (p:=⟨g,f+i*3+2,none⟩) n).trans (h 2 _ rfl)
   have E:g<wr.heap.size:=zg C
   have B:=zh (A.out wr l[i] (List.getElem_mem j) b.out)
   clear h
   have y:Hid ((l.take (i+1)).any p=p l[i]):=by
    show _=_
    rw[List.take_succ_eq_append_getElem j,List.any_append,q.out];simp
   have v:Hid (p l[i]=true->l.any p=true):=fun e=>List.any_eq_true.2 ⟨_,List.getElem_mem j,e⟩
   generalize p l[i]=d at *
   generalize l[i]=x at *
   clear q
   go_wp2_with fail
   refine B.out.mono ?_
   rintro e M⟨rfl,s⟩
   have r:=zh (b.out.trans (s.mono b.out.size))
   clear s
   cases d with
   |true =>
    have o:=zh (v.out rfl)
    go_wp2_with fail
    go_ret
    refine⟨⟨_,rfl,?_⟩,r.out⟩
    rw[o.out]
    exact decide_eq_true (by omega)
   |false =>
    go_wp2_with fail
    go_roundg (l.length-(i+1))
    case measure=>omega
    case rel=>exact⟨i+1,by omega,rfl,by go_num,y,r⟩
  ·have u:¬(i:Int)<(l.length:Int):=by omega
   have o:Hid (l.any p=false):=by
    have:=q.out
    rw[List.take_of_length_le (by omega)]at this
    exact this
   go_wp2_with fail
   go_ret
   refine⟨⟨_,rfl,?_⟩,b.out⟩
   rw[o.out]
   rfl
theorem containsEn {l:List Ob.En}{p:Ob.En->Bool}{b:FuncId}(f:Sl w (.slice a l.length cap) 3 l.length (cellsOf enC l))(m:l.length<=1000000)(d:∀(args:Array Value) (w:World),(callFunc b args).run Tryz.prog w=.ok (.enter b args) w)
  (hd:∀W (x:Ob.En),x∈l->Below w.heap.size w W->Calls Tryz.prog b #[.agg #[.int .i64 x.at',.int .i64 x.args,.int .i64 x.locals],c] W fun e w'=>e=.returned (.bool (p x))/\Below W.heap.size W w') :
  Calls Tryz.prog 120 #[.slice a l.length cap,.func (.func b) #[] #[c]] w fun e w'=>e=.returned (.bool (l.any p))/\Below w.heap.size w w':=by
 have h:=zh (indexEn f m d hd)
 clear f hd d
 go_enter Tryz.func120,Tryz.ntmps120
 go_wp2_with fail
 refine h.out.mono ?_
 rintro e n⟨⟨k,rfl,g⟩,j⟩
 have i:=zh g
 clear g
 go_wp2_with fail
 go_ret
 exact⟨by rw[<-i.out];rfl,j⟩
theorem indexIn {l:List Ob.In}{p:Ob.In->Bool}{n:FuncId}(u:Sl w (.slice a l.length cap) 3 l.length (cellsOf inC l))(M:l.length<=1000000)(G:∀(args:Array Value) (w:World),(callFunc n args).run Tryz.prog w=.ok (.enter n args) w)
  (hd:∀W (x:Ob.In),x∈l->Below w.heap.size w W->Calls Tryz.prog n #[.agg #[.int .i64 x.op,.int .i64 x.a,.int .i64 x.b],c] W fun e w'=>e=.returned (.bool (p x))/\Below W.heap.size W w') :
  Calls Tryz.prog 158 #[.slice a l.length cap,.func (.func n) #[] #[c]] w fun e w'=>(∃k:Int,e=.returned (.int .i64 k)/\(decide (0<=k)=l.any p))/\Below w.heap.size w w':=by
 have I:(l.length:Int)<=1000000:=by omega
 have A:=zh u
 have B:=zh hd
 clear u hd
 go_enter Tryz.func158,Tryz.ntmps158
 go_wp2_with fail
 go_loopg [8] l.length (fun k E wr=>∃i:Nat,i<=l.length/\k=l.length-i/\E=.int .i64 (i:Int)/\Hid ((l.take i).any p=false)/\Hid (Below w.heap.size w wr))
 case atStart=>exact⟨0,by omega,by omega,rfl,rfl,Below.refl _ _⟩
 case round =>
  obtain⟨i,H,L,rfl,r,f⟩:=hrel
  by_cases m:i<l.length
  ·have v:(i:Int)<(l.length:Int):=by omega
   obtain⟨g,h,rfl,o,j⟩:=A.out.at' xH (by omega) i m
   have D:wr.cell? ⟨g,h+i*3,none⟩=some (.int .i64 l[i].op):=(f.out.cell (p:=⟨g,h+i*3,none⟩) o).trans (j 0 _ rfl)
   have J:wr.cell? ⟨g,h+i*3+1,none⟩=some (.int .i64 l[i].a):=(f.out.cell (p:=⟨g,h+i*3+1,none⟩) o).trans (j 1 _ rfl)
   have K:wr.cell? ⟨g,h+i*3+2,none⟩=some (.int .i64 l[i].b):=(f.out.cell (p:=⟨g,h+i*3+2,none⟩) o).trans (j 2 _ rfl)
   have F:g<wr.heap.size:=zg D
   have C:=zh (B.out wr l[i] (List.getElem_mem m) f.out)
   clear j
   have z:Hid ((l.take (i+1)).any p=p l[i]):=by
    show _=_
    rw[List.take_succ_eq_append_getElem m,List.any_append,r.out];simp
   have y:Hid (p l[i]=true->l.any p=true):=fun e=>List.any_eq_true.2 ⟨_,List.getElem_mem m,e⟩
   generalize p l[i]=d at *
   generalize l[i]=x at *
   clear r
   go_wp2_with fail
   refine C.out.mono ?_
   rintro e N⟨rfl,t⟩
   have s:=zh (f.out.trans (t.mono f.out.size))
   clear t
   cases d with
   |true =>
    have q:=zh (y.out rfl)
    go_wp2_with fail
    go_ret
    refine⟨⟨_,rfl,?_⟩,s.out⟩
    rw[q.out]
    exact decide_eq_true (by omega)
   |false =>
    go_wp2_with fail
    go_roundg (l.length-(i+1))
    case measure=>omega
    case rel=>exact⟨i+1,by omega,rfl,by go_num,z,s⟩
  ·have v:¬(i:Int)<(l.length:Int):=by omega
   have q:Hid (l.any p=false):=by
    have:=r.out
    rw[List.take_of_length_le (by omega)]at this
    exact this
   go_wp2_with fail
   go_ret
   refine⟨⟨_,rfl,?_⟩,f.out⟩
   rw[q.out]
   rfl
theorem containsIn {l:List Ob.In}{p:Ob.In->Bool}{d:FuncId}(g:Sl w (.slice a l.length cap) 3 l.length (cellsOf inC l))(n:l.length<=1000000)(f:∀(args:Array Value) (w:World),(callFunc d args).run Tryz.prog w=.ok (.enter d args) w)
  (hd:∀W (x:Ob.In),x∈l->Below w.heap.size w W->Calls Tryz.prog d #[.agg #[.int .i64 x.op,.int .i64 x.a,.int .i64 x.b],c] W fun e w'=>e=.returned (.bool (p x))/\Below W.heap.size W w') :
  Calls Tryz.prog 123 #[.slice a l.length cap,.func (.func d) #[] #[c]] w fun e w'=>e=.returned (.bool (l.any p))/\Below w.heap.size w w':=by
 have i:=zh (indexIn g n f hd)
 clear g hd f
 go_enter Tryz.func123,Tryz.ntmps123
 go_wp2_with fail
 refine i.out.mono ?_
 rintro e o⟨⟨k,rfl,h⟩,m⟩
 have j:=zh h
 clear h
 go_wp2_with fail
 go_ret
 exact⟨by rw[<-j.out];rfl,m⟩
theorem indexUs {E:Option Addr}{l:List Ob.Us}{p:Ob.Us->Bool}{j:FuncId}{y:List Value}(Q:RepN w l y)(A:Sl w (.slice E l.length cap) 3 l.length y)(hn:l.length<=1000000)(U:∀(args:Array Value) (w:World),(callFunc j args).run Tryz.prog w=.ok (.enter j args) w)
  (hd:∀W (x:Ob.Us) na nc,x∈l->Below w.heap.size w W->Sl w (.slice na x.names.length nc) 1 x.names.length (cellsOf stC x.names)->Calls Tryz.prog j #[.agg #[.string (bs x.name),.string (bs x.need),.slice na x.names.length nc],c] W fun e w'=>e=.returned (.bool (p x))/\Below W.heap.size W w') :
  Calls Tryz.prog 34 #[.slice E l.length cap,.func (.func j) #[] #[c]] w fun e w'=>(∃k:Int,e=.returned (.int .i64 k)/\(decide (0<=k)=l.any p))/\Below w.heap.size w w':=by
 have X:(l.length:Int)<=1000000:=by omega
 have J:=zh A
 have L:=zh hd
 have N:=zh Q
 clear A hd
 go_enter Tryz.func34,Tryz.ntmps34
 go_wp2_with fail
 go_loopg [8] l.length (fun k R wr=>∃i:Nat,i<=l.length/\k=l.length-i/\R=.int .i64 (i:Int)/\Hid ((l.take i).any p=false)/\Hid (Below w.heap.size w wr))
 case atStart=>exact⟨0,by omega,by omega,rfl,rfl,Below.refl _ _⟩
 case round =>
  obtain⟨i,V,hk,rfl,r,a⟩:=hrel
  by_cases h:i<l.length
  ·have F:(i:Int)<(l.length:Int):=by omega
   obtain⟨u,v,q0,B,C,D⟩:=RepN.get _ _ N.out i h
   obtain⟨Y,T,G,_,f⟩:=J.out
   cases G
   obtain⟨g,b,rfl,m⟩:=f _ _ q0
   have o:=zg m
   have O:wr.cell? ⟨g,b+i*3,none⟩=some (.string (bs l[i].name)):=(a.out.cell (p:=⟨g,b+i*3,none⟩) o).trans m
   have Z:wr.cell? ⟨g,b+i*3+1,none⟩=some (.string (bs l[i].need)):=by
    obtain⟨P,K,s,n⟩:=f _ _ B
    cases s
    exact(a.out.cell (p:=⟨g,b+i*3+1,none⟩) o).trans n
   have e2:wr.cell? ⟨g,b+i*3+2,none⟩=some (.slice u l[i].names.length v):=by
    obtain⟨P,K,s,n⟩:=f _ _ C
    cases s
    exact(a.out.cell (p:=⟨g,b+i*3+2,none⟩) o).trans n
   have S:g<wr.heap.size:=zg O
   have M:=zh (L.out wr l[i] u v (List.getElem_mem h) a.out D)
   clear f q0 B C D m
   have I:Hid ((l.take (i+1)).any p=p l[i]):=by
    show _=_
    rw[List.take_succ_eq_append_getElem h,List.any_append,r.out];simp
   have H:Hid (p l[i]=true->l.any p=true):=fun e=>List.any_eq_true.2 ⟨_,List.getElem_mem h,e⟩
   generalize p l[i]=d at *
   generalize l[i]=x at *
   clear r
   go_wp2_with fail
   refine M.out.mono ?_
   rintro e w3⟨rfl,z⟩
   have t:=zh (a.out.trans (z.mono a.out.size))
   clear z
   cases d with
   |true =>
    have q:=zh (H.out rfl)
    go_wp2_with fail
    go_ret
    refine⟨⟨_,rfl,?_⟩,t.out⟩
    rw[q.out]
    exact decide_eq_true (by omega)
   |false =>
    go_wp2_with fail
    go_roundg (l.length-(i+1))
    case measure=>omega
    case rel=>exact⟨i+1,by omega,rfl,by go_num,I,t⟩
  ·have F:¬(i:Int)<(l.length:Int):=by omega
   have q:Hid (l.any p=false):=by
    have:=r.out
    rw[List.take_of_length_le (by omega)]at this
    exact this
   go_wp2_with fail
   go_ret
   refine⟨⟨_,rfl,?_⟩,a.out⟩
   rw[q.out]
   rfl
theorem containsUs {h:Option Addr}{l:List Ob.Us}{p:Ob.Us->Bool}{a:FuncId}{d:List Value}(m:RepN w l d)(f:Sl w (.slice h l.length cap) 3 l.length d)(o:l.length<=1000000)(b:∀(args:Array Value) (w:World),(callFunc a args).run Tryz.prog w=.ok (.enter a args) w)
  (hd:∀W (x:Ob.Us) na nc,x∈l->Below w.heap.size w W->Sl w (.slice na x.names.length nc) 1 x.names.length (cellsOf stC x.names)->Calls Tryz.prog a #[.agg #[.string (bs x.name),.string (bs x.need),.slice na x.names.length nc],c] W fun e w'=>e=.returned (.bool (p x))/\Below W.heap.size W w') :
  Calls Tryz.prog 18 #[.slice h l.length cap,.func (.func a) #[] #[c]] w fun e w'=>e=.returned (.bool (l.any p))/\Below w.heap.size w w':=by
 have i:=zh (indexUs m f o b hd)
 clear f hd b
 go_enter Tryz.func18,Tryz.ntmps18
 go_wp2_with fail
 refine i.out.mono ?_
 rintro e q⟨⟨k,rfl,g⟩,n⟩
 have j:=zh g
 clear g
 go_wp2_with fail
 go_ret
 exact⟨by rw[<-j.out];rfl,n⟩
theorem bs_get (s:Bs)(i:Nat)(h:i<(bs s).size)(a:i<s.length):(bs s)[i]'(h)=s[i]'(a):=by simp[bs,ByteArray.getElem_eq_getElem_data]
theorem kv (w:World)(s:Bs)(T:s.length<=1000000000) :
  Calls Tryz.prog 57 #[.string (bs s)] w fun e w'=>e=.returned (.bool (Ob.nameB s))/\w'=w:=by
 have U:=xR s
 have Q:(s.length:Int)<=1000000000:=by omega
 go_enter Tryz.func57,Tryz.ntmps57
 go_wp2_with fail
 go_loopg [8] s.length (fun k M wr=>∃i:Nat,i<=s.length/\k=s.length-i/\M=.int .i64 (i:Int)/\Hid (∀j (h:j<s.length),j<i->Ob.good j s[j]=true)/\wr=w)
 case atStart=>exact⟨0,by omega,by omega,rfl,fun j _ h=>by omega,rfl⟩
 case round =>
  obtain⟨i,P,S,rfl,v,rfl⟩:=hrel
  by_cases C:i<s.length
  ·have H:(i:Int)<(s.length:Int):=by omega
   have N:=fun h=>bs_get s i h C
   have g:Hid (Ob.good i s[i]=true->∀j (h:j<s.length),j<i+1->Ob.good j s[j]=true):=by
    intro e j h R
    by_cases K:j=i
    ·subst K;exact e
    ·exact v.out j h (by omega)
   have f:Hid (Ob.good i s[i]=false->Ob.nameB s=false):=by
    intro e
    unfold Ob.nameB
    rw[Bool.and_eq_false_iff]
    refine Or.inl (decide_eq_false fun G=>?_)
    rw[G i C]at e
    cases e
   have B:Ob.good i s[i]=((decide (97<=s[i].toNat)&&decide (s[i].toNat<=122)) || ((decide (48<=s[i].toNat)&&decide (s[i].toNat<=57))&&!decide (i=0))):=rfl
   have d:=zh B
   clear B v
   generalize Ob.good i s[i]=gd at *
   generalize s[i]=c at *
   have O:=c.toNat_lt
   rcases(show c.toNat<48\/(48<=c.toNat/\c.toNat<=57)\/(57<c.toNat/\c.toNat<97)\/(97<=c.toNat/\c.toNat<=122)\/122<c.toNat by omega) with q|⟨E,F⟩|⟨E,F⟩|⟨E,F⟩|q
   ·have n:(c.toNat:Int)<97:=by omega
    have o:(c.toNat:Int)<=122:=by omega
    have r:(c.toNat:Int)<48:=by omega
    have t:(c.toNat:Int)<=57:=by omega
    have l:decide ((c.toNat:Int)<=122)=true:=decide_eq_true (by omega)
    have m:decide ((c.toNat:Int)<=57)=true:=decide_eq_true (by omega)
    have a:Hid (gd=false):=by
     show _=_
     rw[d.out,decide_eq_false (p:=97<=c.toNat) (by omega),decide_eq_true (p:=c.toNat<=122) (by omega),decide_eq_false (p:=48<=c.toNat) (by omega),decide_eq_true (p:=c.toNat<=57) (by omega)]
     rfl
    have b:=zh (f.out a.out)
    clear g f a d
    go_wp2_with fail
    go_ret
    exact⟨by rw[b.out];rfl,rfl⟩
   ·by_cases u:i=0
    ·have n:(c.toNat:Int)<97:=by omega
     have o:(c.toNat:Int)<=122:=by omega
     have r:(48:Int)<=(c.toNat:Int):=by omega
     have t:(c.toNat:Int)<=57:=by omega
     have l:decide ((c.toNat:Int)<=122)=true:=decide_eq_true (by omega)
     have m:decide ((c.toNat:Int)<=57)=true:=decide_eq_true (by omega)
     have L:((i:Int)==0)=true:=by simp;omega
     have a:Hid (gd=false):=by
      show _=_
      rw[d.out,decide_eq_false (p:=97<=c.toNat) (by omega),decide_eq_true (p:=c.toNat<=122) (by omega),decide_eq_true (p:=48<=c.toNat) (by omega),decide_eq_true (p:=c.toNat<=57) (by omega),decide_eq_true (p:=i=0) u]
      rfl
     have b:=zh (f.out a.out)
     clear g f a d u
     go_wp2_with fail
     go_ret
     exact⟨by rw[b.out];rfl,rfl⟩
    ·have n:(c.toNat:Int)<97:=by omega
     have o:(c.toNat:Int)<=122:=by omega
     have r:(48:Int)<=(c.toNat:Int):=by omega
     have t:(c.toNat:Int)<=57:=by omega
     have l:decide ((c.toNat:Int)<=122)=true:=decide_eq_true (by omega)
     have m:decide ((c.toNat:Int)<=57)=true:=decide_eq_true (by omega)
     have L:((i:Int)==0)=false:=by simp;omega
     have a:Hid (gd=true):=by
      show _=_
      rw[d.out,decide_eq_false (p:=97<=c.toNat) (by omega),decide_eq_true (p:=c.toNat<=122) (by omega),decide_eq_true (p:=48<=c.toNat) (by omega),decide_eq_true (p:=c.toNat<=57) (by omega),decide_eq_false (p:=i=0) u]
      rfl
     have y:=zh (g.out a.out)
     clear g f a d u
     go_wp2_with fail
     go_roundg (s.length-(i+1))
     case measure=>omega
     case rel=>exact⟨i+1,by omega,rfl,by go_num,y,rfl⟩
   ·have n:(c.toNat:Int)<97:=by omega
    have o:(c.toNat:Int)<=122:=by omega
    have r:(48:Int)<=(c.toNat:Int):=by omega
    have t:(57:Int)<(c.toNat:Int):=by omega
    have l:decide ((c.toNat:Int)<=122)=true:=decide_eq_true (by omega)
    have m:decide ((c.toNat:Int)<=57)=false:=decide_eq_false (by omega)
    have a:Hid (gd=false):=by
     show _=_
     rw[d.out,decide_eq_false (p:=97<=c.toNat) (by omega),decide_eq_true (p:=c.toNat<=122) (by omega),decide_eq_true (p:=48<=c.toNat) (by omega),decide_eq_false (p:=c.toNat<=57) (by omega)]
     rfl
    have b:=zh (f.out a.out)
    clear g f a d
    go_wp2_with fail
    go_ret
    exact⟨by rw[b.out];rfl,rfl⟩
   ·have n:(97:Int)<=(c.toNat:Int):=by omega
    have o:(c.toNat:Int)<=122:=by omega
    have r:(48:Int)<=(c.toNat:Int):=by omega
    have t:(57:Int)<(c.toNat:Int):=by omega
    have l:decide ((c.toNat:Int)<=122)=true:=decide_eq_true (by omega)
    have m:decide ((c.toNat:Int)<=57)=false:=decide_eq_false (by omega)
    have a:Hid (gd=true):=by
     show _=_
     rw[d.out,decide_eq_true (p:=97<=c.toNat) (by omega),decide_eq_true (p:=c.toNat<=122) (by omega),decide_eq_true (p:=48<=c.toNat) (by omega),decide_eq_false (p:=c.toNat<=57) (by omega)]
     rfl
    have y:=zh (g.out a.out)
    clear g f a d
    go_wp2_with fail
    go_roundg (s.length-(i+1))
    case measure=>omega
    case rel=>exact⟨i+1,by omega,rfl,by go_num,y,rfl⟩
   ·have n:(97:Int)<=(c.toNat:Int):=by omega
    have o:(122:Int)<(c.toNat:Int):=by omega
    have r:(48:Int)<=(c.toNat:Int):=by omega
    have t:(57:Int)<(c.toNat:Int):=by omega
    have l:decide ((c.toNat:Int)<=122)=false:=decide_eq_false (by omega)
    have m:decide ((c.toNat:Int)<=57)=false:=decide_eq_false (by omega)
    have a:Hid (gd=false):=by
     show _=_
     rw[d.out,decide_eq_true (p:=97<=c.toNat) (by omega),decide_eq_false (p:=c.toNat<=122) (by omega),decide_eq_true (p:=48<=c.toNat) (by omega),decide_eq_false (p:=c.toNat<=57) (by omega)]
     rfl
    have b:=zh (f.out a.out)
    clear g f a d
    go_wp2_with fail
    go_ret
    exact⟨by rw[b.out];rfl,rfl⟩
  ·have H:¬(i:Int)<(s.length:Int):=by omega
   have A:Hid (decide (∀i (h:i<s.length),Ob.good i s[i]=true)=true):=decide_eq_true fun j h=>v.out j h (by omega)
   have x:Hid (Ob.nameB s=(decide (1<=s.length)&&decide (s.length<=10))):=by show _=_;unfold Ob.nameB;rw[A.out,Bool.true_and]
   clear A v
   by_cases z:1<=s.length
   ·have I:(1:Int)<=(s.length:Int):=by omega
    by_cases D:s.length<=10
    ·have J:(s.length:Int)<=10:=by omega
     have b:Hid (Ob.nameB s=true):=by rw[x.out];exact(by rw[decide_eq_true z,decide_eq_true D];rfl)
     go_wp2_with fail
     go_ret
     exact⟨by rw[b.out];rfl,rfl⟩
    ·have J:¬(s.length:Int)<=10:=by omega
     have b:Hid (Ob.nameB s=false):=by rw[x.out];exact(by rw[decide_eq_true z,decide_eq_false D];rfl)
     go_wp2_with fail
     go_ret
     exact⟨by rw[b.out];rfl,rfl⟩
   ·have I:¬(1:Int)<=(s.length:Int):=by omega
    have b:Hid (Ob.nameB s=false):=by rw[x.out];exact(by rw[decide_eq_false z];rfl)
    go_wp2_with fail
    go_ret
    exact⟨by rw[b.out];rfl,rfl⟩
theorem len_any (w:World)(n:Int):Calls Tryz.prog 117 #[.int .i64 n] w fun e w'=>e=.returned (.bool (Ob.lenB n))/\w'=w:=by
 by_cases b:0<=n
 ·by_cases c:n<=30
  ·have a:Hid (Ob.lenB n=true):=by show _=_;unfold Ob.lenB;rw[decide_eq_true b,decide_eq_true c];rfl
   go_enter Tryz.func117,Tryz.ntmps117
   go_wp2_with fail
   go_ret
   exact⟨by rw[a.out];rfl,rfl⟩
  ·have a:Hid (Ob.lenB n=false):=by show _=_;unfold Ob.lenB;rw[decide_eq_true b,decide_eq_false c];rfl
   have f:30<n:=by omega
   go_enter Tryz.func117,Tryz.ntmps117
   go_wp2_with fail
   go_ret
   exact⟨by rw[a.out];rfl,rfl⟩
 ·have a:Hid (Ob.lenB n=false):=by show _=_;unfold Ob.lenB;rw[decide_eq_false b];rfl
  have d:n<0:=by omega
  go_enter Tryz.func117,Tryz.ntmps117
  go_wp2_with fail
  go_ret
  exact⟨by rw[a.out];rfl,rfl⟩
theorem yS (w:World)(n:Int)(m:Nat):Calls Tryz.prog 64 #[.int .i64 n,.int .i64 (m:Int)] w fun e w'=>e=.returned (.bool (Ob.countsB n m))/\w'=w:=by
 by_cases b:0<=n
 ·by_cases c:n<(m:Int)
  ·have a:Hid (Ob.countsB n m=true):=by show _=_;unfold Ob.countsB;rw[decide_eq_true b,decide_eq_true c];rfl
   go_enter Tryz.func64,Tryz.ntmps64
   go_wp2_with fail
   go_ret
   exact⟨by rw[a.out];rfl,rfl⟩
  ·have a:Hid (Ob.countsB n m=false):=by show _=_;unfold Ob.countsB;rw[decide_eq_true b,decide_eq_false c];rfl
   have f:(m:Int)<=n:=by omega
   go_enter Tryz.func64,Tryz.ntmps64
   go_wp2_with fail
   go_ret
   exact⟨by rw[a.out];rfl,rfl⟩
 ·have a:Hid (Ob.countsB n m=false):=by show _=_;unfold Ob.countsB;rw[decide_eq_false b];rfl
  have d:n<0:=by omega
  go_enter Tryz.func64,Tryz.ntmps64
  go_wp2_with fail
  go_ret
  exact⟨by rw[a.out];rfl,rfl⟩
theorem cfStr (args:Array Value)(w:World):(callFunc 122 args).run Tryz.prog w=.ok (.enter 122 args) w:=by kernel_rfl
theorem oneStr {a:FuncId}  (x:Bs){d:Bool}(h:w.cell? ⟨fb,0,none⟩=some (.func (.func a) #[] #[]))(i:∀(args:Array Value) (w:World),(callFunc a args).run Tryz.prog w=.ok (.enter a args) w)
  (hd:∀W,Below w.heap.size w W->Calls Tryz.prog a #[.string (bs x)] W fun e w'=>e=.returned (.bool d)/\Below W.heap.size W w') :
  Calls Tryz.prog 122 #[.string (bs x),.pointer (some ⟨fb,0,none⟩)] w fun e w'=>e=.returned (.bool (!d))/\Below w.heap.size w w':=by
 have j:=zg h
 have b:=zh (Below.refl w.heap.size w)
 have g:=zh (hd w (Below.refl _ _))
 clear hd
 go_enter Tryz.func122,Tryz.ntmps122
 go_wp2_with fail
 refine g.out.mono ?_
 rintro e k⟨rfl,c⟩
 have f:=zh (b.out.trans (c.mono b.out.size))
 clear c
 go_wp2_with fail
 go_ret
 exact⟨rfl,f.out⟩
theorem allStr {f:FuncId}  (j:Sl w (.slice a l.length cap) 1 l.length (cellsOf stC l))(A:l.length<=140737488355328)(most:Nat)(z:most<=10000)(h:∀(args:Array Value) (w:World),(callFunc f args).run Tryz.prog w=.ok (.enter f args) w)
  (hd:∀W (x:Bs),x∈l->Below w.heap.size w W->Calls Tryz.prog f #[.string (bs x)] W fun e w'=>e=.returned (.bool (p x))/\Below W.heap.size W w') :
  Calls Tryz.prog 66 #[.slice a l.length cap,.int .i64 (most:Int),.func (.func f) #[] #[]] w fun e w'=>e=.returned (.bool (Ob.allB p most l))/\Below w.heap.size w w':=by
 have y:=zm
 have b:Below w.heap.size w (w.alloc (.cells #[.func (.func f) #[] #[]] 41)):=zb _ _
 by_cases m:l.length<=most
 ·have o:(l.length:Int)<=(most:Int):=by omega
  have i:Hid (Ob.allB p most l=!(l.any fun x=>!p x)):=by show _=_;unfold Ob.allB;rw[decide_eq_true m,Bool.true_and]
  have t:=zh (containsStr (w:=w.alloc (.cells #[.func (.func f) #[] #[]] 41)) (c:=.pointer (some ⟨w.heap.size,0,none⟩)) (p:=fun x=>!p x) (j.below b) (by omega) cfStr (fun W x v k=>oneStr x ((k.cell (p:=⟨w.heap.size,0,none⟩) (by simp)).trans ((za (zl _ _)).trans rfl)) h (fun u q=>hd u x v (b.trans ((k.mono b.size).trans (q.mono (Nat.le_trans b.size k.size)))))))
  have g:=zh b
  clear j hd h b
  generalize Ob.allB p most l=r at *
  generalize (l.any fun x=>!p x)=d at *
  go_enter Tryz.func66,Tryz.ntmps66
  go_wp2_with fail
  refine t.out.mono ?_
  rintro e B⟨rfl,n⟩
  have s:=zh (g.out.trans (n.mono g.out.size))
  clear n
  go_wp2_with fail
  go_ret
  exact⟨by rw[i.out];rfl,s.out⟩
 ·have o:(most:Int)<(l.length:Int):=by omega
  have i:Hid (Ob.allB p most l=false):=by show _=_;unfold Ob.allB;rw[decide_eq_false m];rfl
  have g:=zh b
  clear j hd h b
  generalize Ob.allB p most l=r at *
  go_enter Tryz.func66,Tryz.ntmps66
  go_wp2_with fail
  go_ret
  exact⟨by rw[i.out];rfl,g.out⟩
theorem cfSym (args:Array Value)(w:World):(callFunc 116 args).run Tryz.prog w=.ok (.enter 116 args) w:=by kernel_rfl
theorem oneSym {a:FuncId}  (x:Ob.Sm){d:Bool}(i:w.cell? ⟨fb,0,none⟩=some (.func (.func a) #[] #[]))(j:∀(args:Array Value) (w:World),(callFunc a args).run Tryz.prog w=.ok (.enter a args) w)
  (hd:∀W,Below w.heap.size w W->Calls Tryz.prog a #[.agg #[.string (bs x.name),.int .i64 x.len,.int .i64 x.args]] W fun e w'=>e=.returned (.bool d)/\Below W.heap.size W w') :
  Calls Tryz.prog 116 #[.agg #[.string (bs x.name),.int .i64 x.len,.int .i64 x.args],.pointer (some ⟨fb,0,none⟩)] w fun e w'=>e=.returned (.bool (!d))/\Below w.heap.size w w':=by
 have k:=zg i
 have b:Below w.heap.size w (w.alloc (.cells #[.string (bs x.name),.int .i64 x.len,.int .i64 x.args] 53)):=zb _ _
 have c:=zh b
 have h:=zh (hd _ b)
 clear b
 clear hd
 go_enter Tryz.func116,Tryz.ntmps116
 go_wp2_with fail
 refine h.out.mono ?_
 rintro e l⟨rfl,f⟩
 have g:=zh (c.out.trans (f.mono c.out.size))
 clear f
 go_wp2_with fail
 go_ret
 exact⟨rfl,g.out⟩
theorem allSym {l:List Ob.Sm}{p:Ob.Sm->Bool}{f:FuncId}  (j:Sl w (.slice a l.length cap) 3 l.length (cellsOf smC l))(A:l.length<=140737488355328)(most:Nat)(z:most<=10000)(h:∀(args:Array Value) (w:World),(callFunc f args).run Tryz.prog w=.ok (.enter f args) w)
  (hd:∀W (x:Ob.Sm),x∈l->Below w.heap.size w W->Calls Tryz.prog f #[.agg #[.string (bs x.name),.int .i64 x.len,.int .i64 x.args]] W fun e w'=>e=.returned (.bool (p x))/\Below W.heap.size W w') :
  Calls Tryz.prog 58 #[.slice a l.length cap,.int .i64 (most:Int),.func (.func f) #[] #[]] w fun e w'=>e=.returned (.bool (Ob.allB p most l))/\Below w.heap.size w w':=by
 have y:=zm
 have b:Below w.heap.size w (w.alloc (.cells #[.func (.func f) #[] #[]] 54)):=zb _ _
 by_cases m:l.length<=most
 ·have o:(l.length:Int)<=(most:Int):=by omega
  have i:Hid (Ob.allB p most l=!(l.any fun x=>!p x)):=by show _=_;unfold Ob.allB;rw[decide_eq_true m,Bool.true_and]
  have t:=zh (containsSym (w:=w.alloc (.cells #[.func (.func f) #[] #[]] 54)) (c:=.pointer (some ⟨w.heap.size,0,none⟩)) (p:=fun x=>!p x) (j.below b) (by omega) cfSym (fun W x v k=>oneSym x ((k.cell (p:=⟨w.heap.size,0,none⟩) (by simp)).trans ((za (zl _ _)).trans rfl)) h (fun u q=>hd u x v (b.trans ((k.mono b.size).trans (q.mono (Nat.le_trans b.size k.size)))))))
  have g:=zh b
  clear j hd h b
  generalize Ob.allB p most l=r at *
  generalize (l.any fun x=>!p x)=d at *
  go_enter Tryz.func58,Tryz.ntmps58
  go_wp2_with fail
  refine t.out.mono ?_
  rintro e B⟨rfl,n⟩
  have s:=zh (g.out.trans (n.mono g.out.size))
  clear n
  go_wp2_with fail
  go_ret
  exact⟨by rw[i.out];rfl,s.out⟩
 ·have o:(most:Int)<(l.length:Int):=by omega
  have i:Hid (Ob.allB p most l=false):=by show _=_;unfold Ob.allB;rw[decide_eq_false m];rfl
  have g:=zh b
  clear j hd h b
  generalize Ob.allB p most l=r at *
  go_enter Tryz.func58,Tryz.ntmps58
  go_wp2_with fail
  go_ret
  exact⟨by rw[i.out];rfl,g.out⟩
theorem cfGl (args:Array Value)(w:World):(callFunc 119 args).run Tryz.prog w=.ok (.enter 119 args) w:=by kernel_rfl
theorem oneGl {a:FuncId}  (x:Ob.Gl){d:Bool}(i:w.cell? ⟨fb,0,none⟩=some (.func (.func a) #[] #[]))(j:∀(args:Array Value) (w:World),(callFunc a args).run Tryz.prog w=.ok (.enter a args) w)
  (hd:∀W,Below w.heap.size w W->Calls Tryz.prog a #[.agg #[.string (bs x.name),.int .i64 x.at',.int .i64 x.len,.bool x.seen]] W fun e w'=>e=.returned (.bool d)/\Below W.heap.size W w') :
  Calls Tryz.prog 119 #[.agg #[.string (bs x.name),.int .i64 x.at',.int .i64 x.len,.bool x.seen],.pointer (some ⟨fb,0,none⟩)] w fun e w'=>e=.returned (.bool (!d))/\Below w.heap.size w w':=by
 have k:=zg i
 have b:Below w.heap.size w (w.alloc (.cells #[.string (bs x.name),.int .i64 x.at',.int .i64 x.len,.bool x.seen] 57)):=zb _ _
 have c:=zh b
 have h:=zh (hd _ b)
 clear b
 clear hd
 go_enter Tryz.func119,Tryz.ntmps119
 go_wp2_with fail
 refine h.out.mono ?_
 rintro e l⟨rfl,f⟩
 have g:=zh (c.out.trans (f.mono c.out.size))
 clear f
 go_wp2_with fail
 go_ret
 exact⟨rfl,g.out⟩
theorem allGl {l:List Ob.Gl}{p:Ob.Gl->Bool}{f:FuncId}  (j:Sl w (.slice a l.length cap) 4 l.length (cellsOf glC l))(A:l.length<=140737488355328)(most:Nat)(z:most<=10000)(h:∀(args:Array Value) (w:World),(callFunc f args).run Tryz.prog w=.ok (.enter f args) w)
  (hd:∀W (x:Ob.Gl),x∈l->Below w.heap.size w W->Calls Tryz.prog f #[.agg #[.string (bs x.name),.int .i64 x.at',.int .i64 x.len,.bool x.seen]] W fun e w'=>e=.returned (.bool (p x))/\Below W.heap.size W w') :
  Calls Tryz.prog 61 #[.slice a l.length cap,.int .i64 (most:Int),.func (.func f) #[] #[]] w fun e w'=>e=.returned (.bool (Ob.allB p most l))/\Below w.heap.size w w':=by
 have y:=zm
 have b:Below w.heap.size w (w.alloc (.cells #[.func (.func f) #[] #[]] 58)):=zb _ _
 by_cases m:l.length<=most
 ·have o:(l.length:Int)<=(most:Int):=by omega
  have i:Hid (Ob.allB p most l=!(l.any fun x=>!p x)):=by show _=_;unfold Ob.allB;rw[decide_eq_true m,Bool.true_and]
  have t:=zh (containsGl (w:=w.alloc (.cells #[.func (.func f) #[] #[]] 58)) (c:=.pointer (some ⟨w.heap.size,0,none⟩)) (p:=fun x=>!p x) (j.below b) (by omega) cfGl (fun W x v k=>oneGl x ((k.cell (p:=⟨w.heap.size,0,none⟩) (by simp)).trans ((za (zl _ _)).trans rfl)) h (fun u q=>hd u x v (b.trans ((k.mono b.size).trans (q.mono (Nat.le_trans b.size k.size)))))))
  have g:=zh b
  clear j hd h b
  generalize Ob.allB p most l=r at *
  generalize (l.any fun x=>!p x)=d at *
  go_enter Tryz.func61,Tryz.ntmps61
  go_wp2_with fail
  refine t.out.mono ?_
  rintro e B⟨rfl,n⟩
  have s:=zh (g.out.trans (n.mono g.out.size))
  clear n
  go_wp2_with fail
  go_ret
  exact⟨by rw[i.out];rfl,s.out⟩
 ·have o:(most:Int)<(l.length:Int):=by omega
  have i:Hid (Ob.allB p most l=false):=by show _=_;unfold Ob.allB;rw[decide_eq_false m];rfl
  have g:=zh b
  clear j hd h b
  generalize Ob.allB p most l=r at *
  go_enter Tryz.func61,Tryz.ntmps61
  go_wp2_with fail
  go_ret
  exact⟨by rw[i.out];rfl,g.out⟩
theorem cfEn (args:Array Value)(w:World):(callFunc 121 args).run Tryz.prog w=.ok (.enter 121 args) w:=by kernel_rfl
theorem oneEn {a:FuncId}(x:Ob.En){d:Bool}(j:w.cell? ⟨fb,0,none⟩=some (.func (.func a) #[] #[c]))(k:∀(args:Array Value) (w:World),(callFunc a args).run Tryz.prog w=.ok (.enter a args) w)
  (hd:∀W,Below w.heap.size w W->Calls Tryz.prog a #[.agg #[.int .i64 x.at',.int .i64 x.args,.int .i64 x.locals],c] W fun e w'=>e=.returned (.bool d)/\Below W.heap.size W w') :
  Calls Tryz.prog 121 #[.agg #[.int .i64 x.at',.int .i64 x.args,.int .i64 x.locals],.pointer (some ⟨fb,0,none⟩)] w fun e w'=>e=.returned (.bool (!d))/\Below w.heap.size w w':=by
 have l:=zg j
 have b:Below w.heap.size w (w.alloc (.cells #[.int .i64 x.at',.int .i64 x.args,.int .i64 x.locals] 112)):=zb _ _
 have f:=zh b
 have i:=zh (hd _ b)
 clear b
 clear hd
 go_enter Tryz.func121,Tryz.ntmps121
 go_wp2_with fail
 refine i.out.mono ?_
 rintro e m⟨rfl,g⟩
 have h:=zh (f.out.trans (g.mono f.out.size))
 clear g
 go_wp2_with fail
 go_ret
 exact⟨rfl,h.out⟩
theorem allEn {l:List Ob.En}{p:Ob.En->Bool}{f:FuncId}(j:Sl w (.slice a l.length cap) 3 l.length (cellsOf enC l))(A:l.length<=140737488355328)(most:Nat)(z:most<=10000)(h:∀(args:Array Value) (w:World),(callFunc f args).run Tryz.prog w=.ok (.enter f args) w)
  (hd:∀W (x:Ob.En),x∈l->Below w.heap.size w W->Calls Tryz.prog f #[.agg #[.int .i64 x.at',.int .i64 x.args,.int .i64 x.locals],c] W fun e w'=>e=.returned (.bool (p x))/\Below W.heap.size W w') :
  Calls Tryz.prog 65 #[.slice a l.length cap,.int .i64 (most:Int),.func (.func f) #[] #[c]] w fun e w'=>e=.returned (.bool (Ob.allB p most l))/\Below w.heap.size w w':=by
 have y:=zm
 have b:Below w.heap.size w (w.alloc (.cells #[.func (.func f) #[] #[c]] 133)):=zb _ _
 by_cases m:l.length<=most
 ·have o:(l.length:Int)<=(most:Int):=by omega
  have i:Hid (Ob.allB p most l=!(l.any fun x=>!p x)):=by show _=_;unfold Ob.allB;rw[decide_eq_true m,Bool.true_and]
  have t:=zh (containsEn (w:=w.alloc (.cells #[.func (.func f) #[] #[c]] 133)) (c:=.pointer (some ⟨w.heap.size,0,none⟩)) (p:=fun x=>!p x) (j.below b) (by omega) cfEn (fun W x v k=>oneEn x ((k.cell (p:=⟨w.heap.size,0,none⟩) (by simp)).trans ((za (zl _ _)).trans rfl)) h (fun u q=>hd u x v (b.trans ((k.mono b.size).trans (q.mono (Nat.le_trans b.size k.size)))))))
  have g:=zh b
  clear j hd h b
  generalize Ob.allB p most l=r at *
  generalize (l.any fun x=>!p x)=d at *
  go_enter Tryz.func65,Tryz.ntmps65
  go_wp2_with fail
  refine t.out.mono ?_
  rintro e B⟨rfl,n⟩
  have s:=zh (g.out.trans (n.mono g.out.size))
  clear n
  go_wp2_with fail
  go_ret
  exact⟨by rw[i.out];rfl,s.out⟩
 ·have o:(most:Int)<(l.length:Int):=by omega
  have i:Hid (Ob.allB p most l=false):=by show _=_;unfold Ob.allB;rw[decide_eq_false m];rfl
  have g:=zh b
  clear j hd h b
  generalize Ob.allB p most l=r at *
  go_enter Tryz.func65,Tryz.ntmps65
  go_wp2_with fail
  go_ret
  exact⟨by rw[i.out];rfl,g.out⟩
theorem cfIn (args:Array Value)(w:World):(callFunc 124 args).run Tryz.prog w=.ok (.enter 124 args) w:=by kernel_rfl
theorem oneIn {f:FuncId}(x:Ob.In){d:Bool}(l:w.cell? ⟨fb,0,none⟩=some (.func (.func f) #[] #[c]))(m:∀(args:Array Value) (w:World),(callFunc f args).run Tryz.prog w=.ok (.enter f args) w)
  (hd:∀W,Below w.heap.size w W->Calls Tryz.prog f #[.agg #[.int .i64 x.op,.int .i64 x.a,.int .i64 x.b],c] W fun e w'=>e=.returned (.bool d)/\Below W.heap.size W w') :
  Calls Tryz.prog 124 #[.agg #[.int .i64 x.op,.int .i64 x.a,.int .i64 x.b],.pointer (some ⟨fb,0,none⟩)] w fun e w'=>e=.returned (.bool (!d))/\Below w.heap.size w w':=by
 have n:=zg l
 have g:Below w.heap.size w (w.alloc (.cells #[.int .i64 x.op,.int .i64 x.a,.int .i64 x.b] 138)):=zb _ _
 have h:=zh g
 have k:=zh (hd _ g)
 clear g
 clear hd
 go_enter Tryz.func124,Tryz.ntmps124
 go_wp2_with fail
 refine k.out.mono ?_
 rintro e o⟨rfl,i⟩
 have j:=zh (h.out.trans (i.mono h.out.size))
 clear i
 go_wp2_with fail
 go_ret
 exact⟨rfl,j.out⟩
theorem allIn {l:List Ob.In}{p:Ob.In->Bool}{g:FuncId}(k:Sl w (.slice a l.length cap) 3 l.length (cellsOf inC l))(B:l.length<=140737488355328)(most:Nat)(A:most<=10000)(i:∀(args:Array Value) (w:World),(callFunc g args).run Tryz.prog w=.ok (.enter g args) w)
  (hd:∀W (x:Ob.In),x∈l->Below w.heap.size w W->Calls Tryz.prog g #[.agg #[.int .i64 x.op,.int .i64 x.a,.int .i64 x.b],c] W fun e w'=>e=.returned (.bool (p x))/\Below W.heap.size W w') :
  Calls Tryz.prog 67 #[.slice a l.length cap,.int .i64 (most:Int),.func (.func g) #[] #[c]] w fun e w'=>e=.returned (.bool (Ob.allB p most l))/\Below w.heap.size w w':=by
 have z:=zm
 have f:Below w.heap.size w (w.alloc (.cells #[.func (.func g) #[] #[c]] 140)):=zb _ _
 by_cases n:l.length<=most
 ·have q:(l.length:Int)<=(most:Int):=by omega
  have j:Hid (Ob.allB p most l=!(l.any fun x=>!p x)):=by show _=_;unfold Ob.allB;rw[decide_eq_true n,Bool.true_and]
  have u:=zh (containsIn (w:=w.alloc (.cells #[.func (.func g) #[] #[c]] 140)) (c:=.pointer (some ⟨w.heap.size,0,none⟩)) (p:=fun x=>!p x) (k.below f) (by omega) cfIn (fun W x y m=>oneIn x ((m.cell (p:=⟨w.heap.size,0,none⟩) (by simp)).trans ((za (zl _ _)).trans rfl)) i (fun v s=>hd v x y (f.trans ((m.mono f.size).trans (s.mono (Nat.le_trans f.size m.size)))))))
  have h:=zh f
  clear k hd i f
  generalize Ob.allB p most l=r at *
  generalize (l.any fun x=>!p x)=d at *
  go_enter Tryz.func67,Tryz.ntmps67
  go_wp2_with fail
  refine u.out.mono ?_
  rintro e C⟨rfl,o⟩
  have t:=zh (h.out.trans (o.mono h.out.size))
  clear o
  go_wp2_with fail
  go_ret
  exact⟨by rw[j.out];rfl,t.out⟩
 ·have q:(most:Int)<(l.length:Int):=by omega
  have j:Hid (Ob.allB p most l=false):=by show _=_;unfold Ob.allB;rw[decide_eq_false n];rfl
  have h:=zh f
  clear k hd i f
  generalize Ob.allB p most l=r at *
  go_enter Tryz.func67,Tryz.ntmps67
  go_wp2_with fail
  go_ret
  exact⟨by rw[j.out];rfl,h.out⟩
theorem cfUs (args:Array Value)(w:World):(callFunc 118 args).run Tryz.prog w=.ok (.enter 118 args) w:=by kernel_rfl
theorem oneUs {a:FuncId}(x:Ob.Us)(f:Option Addr)(g:Nat){d:Bool}(l:w.cell? ⟨fb,0,none⟩=some (.func (.func a) #[] #[c]))(m:∀(args:Array Value) (w:World),(callFunc a args).run Tryz.prog w=.ok (.enter a args) w)
  (hd:∀W,Below w.heap.size w W->Calls Tryz.prog a #[.agg #[.string (bs x.name),.string (bs x.need),.slice f x.names.length g],c] W fun e w'=>e=.returned (.bool d)/\Below W.heap.size W w') :
  Calls Tryz.prog 118 #[.agg #[.string (bs x.name),.string (bs x.need),.slice f x.names.length g],.pointer (some ⟨fb,0,none⟩)] w fun e w'=>e=.returned (.bool (!d))/\Below w.heap.size w w':=by
 have n:=zg l
 have b:Below w.heap.size w (w.alloc (.cells #[.string (bs x.name),.string (bs x.need),.slice f x.names.length g] 61)):=zb _ _
 have h:=zh b
 have k:=zh (hd _ b)
 clear b
 clear hd
 go_enter Tryz.func118,Tryz.ntmps118
 go_wp2_with fail
 refine k.out.mono ?_
 rintro e o⟨rfl,i⟩
 have j:=zh (h.out.trans (i.mono h.out.size))
 clear i
 go_wp2_with fail
 go_ret
 exact⟨rfl,j.out⟩
theorem allUs {l:List Ob.Us}{p:Ob.Us->Bool}{f:FuncId}{t:List Value}(o:RepN w l t)(n:Sl w (.slice a l.length cap) 3 l.length t)(F:l.length<=140737488355328)(most:Nat)(E:most<=10000)(k:∀(args:Array Value) (w:World),(callFunc f args).run Tryz.prog w=.ok (.enter f args) w)
  (hd:∀W (x:Ob.Us) g h,x∈l->Below w.heap.size w W->Sl W (.slice g x.names.length h) 1 x.names.length (cellsOf stC x.names)->Calls Tryz.prog f #[.agg #[.string (bs x.name),.string (bs x.need),.slice g x.names.length h],c] W fun e w'=>e=.returned (.bool (p x))/\Below W.heap.size W w') :
  Calls Tryz.prog 60 #[.slice a l.length cap,.int .i64 (most:Int),.func (.func f) #[] #[c]] w fun e w'=>e=.returned (.bool (Ob.allB p most l))/\Below w.heap.size w w':=by
 have D:=zm
 have b:Below w.heap.size w (w.alloc (.cells #[.func (.func f) #[] #[c]] 62)):=zb _ _
 by_cases s:l.length<=most
 ·have v:(l.length:Int)<=(most:Int):=by omega
  have m:Hid (Ob.allB p most l=!(l.any fun x=>!p x)):=by show _=_;unfold Ob.allB;rw[decide_eq_true s,Bool.true_and]
  have z:=zh (containsUs (w:=w.alloc (.cells #[.func (.func f) #[] #[c]] 62)) (c:=.pointer (some ⟨w.heap.size,0,none⟩)) (p:=fun x=>!p x) (RepN.below b _ _ o) (n.below b) (by omega) cfUs (fun W x g h C j B=>oneUs x g h ((j.cell (p:=⟨w.heap.size,0,none⟩) (by simp)).trans ((za (zl _ _)).trans rfl)) k (fun A q=>hd A x g h C (b.trans ((j.mono b.size).trans (q.mono (Nat.le_trans b.size j.size)))) ((B.below j).below q))))
  have i:=zh b
  clear n hd k b o
  generalize Ob.allB p most l=r at *
  generalize (l.any fun x=>!p x)=d at *
  go_enter Tryz.func60,Tryz.ntmps60
  go_wp2_with fail
  refine z.out.mono ?_
  rintro e G⟨rfl,u⟩
  have y:=zh (i.out.trans (u.mono i.out.size))
  clear u
  go_wp2_with fail
  go_ret
  exact⟨by rw[m.out];rfl,y.out⟩
 ·have v:(most:Int)<(l.length:Int):=by omega
  have m:Hid (Ob.allB p most l=false):=by show _=_;unfold Ob.allB;rw[decide_eq_false s];rfl
  have i:=zh b
  clear n hd k b o
  generalize Ob.allB p most l=r at *
  go_enter Tryz.func60,Tryz.ntmps60
  go_wp2_with fail
  go_ret
  exact⟨by rw[m.out];rfl,i.out⟩
end Go.Proofs.YtbkndnmglhghlaaGreatDoor.Jo
