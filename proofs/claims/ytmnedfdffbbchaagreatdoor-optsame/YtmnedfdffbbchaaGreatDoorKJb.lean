import Derived.Test.YtmnedfdffbbchaaGreatDoorKEa
import Derived.Test.YtmnedfdffbbchaaGreatDoorKJa
set_option maxRecDepth 100000
set_option maxHeartbeats 4000000

namespace Go.Proofs.YtmnedfdffbbchaaGreatDoor.Jo
open Go.RowKit
open Ob (Bs)
theorem indexStr {w:World}{a:Option Addr}{cap:Nat}{l:List Bs}{p:Bs->Bool}{fn:FuncId}{c:Value}(hS:Sl w (.slice a l.length cap) 1 l.length (cellsOf stC l)) (hn:l.length<=1000000) (hcf:∀(args:Array Value) (w:World),(callFunc fn args).run Tryz.prog w=.ok (.enter fn args) w)
  (hd:∀ W (x:Bs),x∈l->Below w.heap.size w W->Calls Tryz.prog fn #[.string (bs x),c] W fun e w'=>e=.returned (.bool (p x))/\Below W.heap.size W w') :
  Calls Tryz.prog 42 #[.slice a l.length cap,.func (.func fn) #[] #[c]] w fun e w'=>(∃ k:Int,e=.returned (.int .i64 k)/\(decide (0<=k)=l.any p))/\Below w.heap.size w w':=by
 have hn':(l.length:Int)<=1000000:=by omega
 have HSL:=zh hS
 have HD:=zh hd
 clear hS hd
 go_enter Tryz.func42,Tryz.ntmps42
 go_wp2_with fail
 go_loopg [8] l.length (fun k vi wr=>∃ i:Nat,i<=l.length/\k=l.length - i/\vi=.int .i64 (i:Int)/\Hid ((l.take i).any p=false)/\Hid (Below w.heap.size w wr))
 case atStart=>exact⟨0,by omega,by omega,rfl,rfl,Below.refl _ _⟩
 case round =>
  obtain⟨i,hid,hk,rfl,HI,HW⟩:=hrel
  by_cases hlt:i<l.length
  ·have hlt':(i:Int)<(l.length:Int):=by omega
   obtain⟨g,go,rfl,hgl,hcell⟩:=HSL.out.at' jg (by omega) i hlt
   have hc0:=hcell 0 _ rfl
   rw[Nat.mul_one,Nat.add_zero]at hc0
   have e0:wr.cell? ⟨g,go+i,none⟩=some (.string (bs l[i])):=(HW.out.cell (p:=⟨g,go+i,none⟩) hgl).trans hc0
   clear hc0
   have hbl':g<wr.heap.size:=zi e0
   have HF:=zh (HD.out wr l[i] (List.getElem_mem hlt) HW.out)
   clear hcell
   have HNX:Hid ((l.take (i+1)).any p=p l[i]):=by
    show _=_
    rw[List.take_succ_eq_append_getElem hlt,List.any_append,HI.out];simp
   have HAN:Hid (p l[i]=true->l.any p=true):=fun e=>List.any_eq_true.2 ⟨_,List.getElem_mem hlt,e⟩
   generalize p l[i]=d at *
   generalize l[i]=x at *
   clear HI
   go_wp2_with fail
   refine HF.out.mono ?_
   rintro e w3 ⟨rfl,h3⟩
   have HW3:=zh (HW.out.trans (h3.mono HW.out.size))
   clear h3
   cases d with
   | true =>
    have HE:=zh (HAN.out rfl)
    go_wp2_with fail
    go_ret
    refine⟨⟨_,rfl,?_⟩,HW3.out⟩
    rw[HE.out]
    exact decide_eq_true (by omega)
   | false =>
    go_wp2_with fail
    go_roundg (l.length - (i+1))
    case measure=>omega
    case rel=>exact⟨i+1,by omega,rfl,by go_num,HNX,HW3⟩
  ·have hlt':¬(i:Int)<(l.length:Int):=by omega
   have HE:Hid (l.any p=false):=by
    have:=HI.out
    rw[List.take_of_length_le (by omega)]at this
    exact this
   go_wp2_with fail
   go_ret
   refine⟨⟨_,rfl,?_⟩,HW.out⟩
   rw[HE.out]
   rfl
theorem containsStr {w:World}{a:Option Addr}{cap:Nat}{l:List Bs}{p:Bs->Bool}{fn:FuncId}{c:Value}(hS:Sl w (.slice a l.length cap) 1 l.length (cellsOf stC l)) (hn:l.length<=1000000) (hcf:∀(args:Array Value) (w:World),(callFunc fn args).run Tryz.prog w=.ok (.enter fn args) w)
  (hd:∀ W (x:Bs),x∈l->Below w.heap.size w W->Calls Tryz.prog fn #[.string (bs x),c] W fun e w'=>e=.returned (.bool (p x))/\Below W.heap.size W w') :
  Calls Tryz.prog 15 #[.slice a l.length cap,.func (.func fn) #[] #[c]] w fun e w'=>e=.returned (.bool (l.any p))/\Below w.heap.size w w':=by
 have HC:=zh (indexStr hS hn hcf hd)
 clear hS hd hcf
 go_enter Tryz.func15,Tryz.ntmps15
 go_wp2_with fail
 refine HC.out.mono ?_
 rintro e w1 ⟨⟨k,rfl,hk⟩,hb⟩
 have HK:=zh hk
 clear hk
 go_wp2_with fail
 go_ret
 exact⟨by rw[<-HK.out];rfl,hb⟩
theorem indexStr0 {w:World}{a:Option Addr}{cap:Nat}{l:List Bs}{p:Bs->Bool}{fn:FuncId}  (hS:Sl w (.slice a l.length cap) 1 l.length (cellsOf stC l)) (hn:l.length<=1000000) (hcf:∀(args:Array Value) (w:World),(callFunc fn args).run Tryz.prog w=.ok (.enter fn args) w)
  (hd:∀ W (x:Bs),x∈l->Below w.heap.size w W->Calls Tryz.prog fn #[.string (bs x)] W fun e w'=>e=.returned (.bool (p x))/\Below W.heap.size W w') :
  Calls Tryz.prog 42 #[.slice a l.length cap,.func (.func fn) #[] #[]] w fun e w'=>(∃ k:Int,e=.returned (.int .i64 k)/\(decide (0<=k)=l.any p))/\Below w.heap.size w w':=by
 have hn':(l.length:Int)<=1000000:=by omega
 have HSL:=zh hS
 have HD:=zh hd
 clear hS hd
 go_enter Tryz.func42,Tryz.ntmps42
 go_wp2_with fail
 go_loopg [8] l.length (fun k vi wr=>∃ i:Nat,i<=l.length/\k=l.length - i/\vi=.int .i64 (i:Int)/\Hid ((l.take i).any p=false)/\Hid (Below w.heap.size w wr))
 case atStart=>exact⟨0,by omega,by omega,rfl,rfl,Below.refl _ _⟩
 case round =>
  obtain⟨i,hid,hk,rfl,HI,HW⟩:=hrel
  by_cases hlt:i<l.length
  ·have hlt':(i:Int)<(l.length:Int):=by omega
   obtain⟨g,go,rfl,hgl,hcell⟩:=HSL.out.at' jg (by omega) i hlt
   have hc0:=hcell 0 _ rfl
   rw[Nat.mul_one,Nat.add_zero]at hc0
   have e0:wr.cell? ⟨g,go+i,none⟩=some (.string (bs l[i])):=(HW.out.cell (p:=⟨g,go+i,none⟩) hgl).trans hc0
   clear hc0
   have hbl':g<wr.heap.size:=zi e0
   have HF:=zh (HD.out wr l[i] (List.getElem_mem hlt) HW.out)
   clear hcell
   have HNX:Hid ((l.take (i+1)).any p=p l[i]):=by
    show _=_
    rw[List.take_succ_eq_append_getElem hlt,List.any_append,HI.out];simp
   have HAN:Hid (p l[i]=true->l.any p=true):=fun e=>List.any_eq_true.2 ⟨_,List.getElem_mem hlt,e⟩
   generalize p l[i]=d at *
   generalize l[i]=x at *
   clear HI
   go_wp2_with fail
   refine HF.out.mono ?_
   rintro e w3 ⟨rfl,h3⟩
   have HW3:=zh (HW.out.trans (h3.mono HW.out.size))
   clear h3
   cases d with
   | true =>
    have HE:=zh (HAN.out rfl)
    go_wp2_with fail
    go_ret
    refine⟨⟨_,rfl,?_⟩,HW3.out⟩
    rw[HE.out]
    exact decide_eq_true (by omega)
   | false =>
    go_wp2_with fail
    go_roundg (l.length - (i+1))
    case measure=>omega
    case rel=>exact⟨i+1,by omega,rfl,by go_num,HNX,HW3⟩
  ·have hlt':¬(i:Int)<(l.length:Int):=by omega
   have HE:Hid (l.any p=false):=by
    have:=HI.out
    rw[List.take_of_length_le (by omega)]at this
    exact this
   go_wp2_with fail
   go_ret
   refine⟨⟨_,rfl,?_⟩,HW.out⟩
   rw[HE.out]
   rfl
theorem containsStr0 {w:World}{a:Option Addr}{cap:Nat}{l:List Bs}{p:Bs->Bool}{fn:FuncId}  (hS:Sl w (.slice a l.length cap) 1 l.length (cellsOf stC l)) (hn:l.length<=1000000) (hcf:∀(args:Array Value) (w:World),(callFunc fn args).run Tryz.prog w=.ok (.enter fn args) w)
  (hd:∀ W (x:Bs),x∈l->Below w.heap.size w W->Calls Tryz.prog fn #[.string (bs x)] W fun e w'=>e=.returned (.bool (p x))/\Below W.heap.size W w') :
  Calls Tryz.prog 15 #[.slice a l.length cap,.func (.func fn) #[] #[]] w fun e w'=>e=.returned (.bool (l.any p))/\Below w.heap.size w w':=by
 have HC:=zh (indexStr0 hS hn hcf hd)
 clear hS hd hcf
 go_enter Tryz.func15,Tryz.ntmps15
 go_wp2_with fail
 refine HC.out.mono ?_
 rintro e w1 ⟨⟨k,rfl,hk⟩,hb⟩
 have HK:=zh hk
 clear hk
 go_wp2_with fail
 go_ret
 exact⟨by rw[<-HK.out];rfl,hb⟩
theorem indexSym {w:World}{a:Option Addr}{cap:Nat}{l:List Ob.Sm}{p:Ob.Sm->Bool}{fn:FuncId}{c:Value}(hS:Sl w (.slice a l.length cap) 3 l.length (cellsOf smC l)) (hn:l.length<=1000000) (hcf:∀(args:Array Value) (w:World),(callFunc fn args).run Tryz.prog w=.ok (.enter fn args) w)
  (hd:∀ W (x:Ob.Sm),x∈l->Below w.heap.size w W->Calls Tryz.prog fn #[.agg #[.string (bs x.name),.int .i64 x.len,.int .i64 x.args],c] W fun e w'=>e=.returned (.bool (p x))/\Below W.heap.size W w') :
  Calls Tryz.prog 43 #[.slice a l.length cap,.func (.func fn) #[] #[c]] w fun e w'=>(∃ k:Int,e=.returned (.int .i64 k)/\(decide (0<=k)=l.any p))/\Below w.heap.size w w':=by
 have hn':(l.length:Int)<=1000000:=by omega
 have HSL:=zh hS
 have HD:=zh hd
 clear hS hd
 go_enter Tryz.func43,Tryz.ntmps43
 go_wp2_with fail
 go_loopg [8] l.length (fun k vi wr=>∃ i:Nat,i<=l.length/\k=l.length - i/\vi=.int .i64 (i:Int)/\Hid ((l.take i).any p=false)/\Hid (Below w.heap.size w wr))
 case atStart=>exact⟨0,by omega,by omega,rfl,rfl,Below.refl _ _⟩
 case round =>
  obtain⟨i,hid,hk,rfl,HI,HW⟩:=hrel
  by_cases hlt:i<l.length
  ·have hlt':(i:Int)<(l.length:Int):=by omega
   obtain⟨g,go,rfl,hgl,hcell⟩:=HSL.out.at' kI (by omega) i hlt
   have e0:wr.cell? ⟨g,go+i * 3,none⟩=some (.string (bs l[i].name)):=(HW.out.cell (p:=⟨g,go+i * 3,none⟩) hgl).trans (hcell 0 _ rfl)
   have e1:wr.cell? ⟨g,go+i * 3+1,none⟩=some (.int .i64 l[i].len):=(HW.out.cell (p:=⟨g,go+i * 3+1,none⟩) hgl).trans (hcell 1 _ rfl)
   have e2:wr.cell? ⟨g,go+i * 3+2,none⟩=some (.int .i64 l[i].args):=(HW.out.cell (p:=⟨g,go+i * 3+2,none⟩) hgl).trans (hcell 2 _ rfl)
   have hbl':g<wr.heap.size:=zi e0
   have HF:=zh (HD.out wr l[i] (List.getElem_mem hlt) HW.out)
   clear hcell
   have HNX:Hid ((l.take (i+1)).any p=p l[i]):=by
    show _=_
    rw[List.take_succ_eq_append_getElem hlt,List.any_append,HI.out];simp
   have HAN:Hid (p l[i]=true->l.any p=true):=fun e=>List.any_eq_true.2 ⟨_,List.getElem_mem hlt,e⟩
   generalize p l[i]=d at *
   generalize l[i]=x at *
   clear HI
   go_wp2_with fail
   refine HF.out.mono ?_
   rintro e w3 ⟨rfl,h3⟩
   have HW3:=zh (HW.out.trans (h3.mono HW.out.size))
   clear h3
   cases d with
   | true =>
    have HE:=zh (HAN.out rfl)
    go_wp2_with fail
    go_ret
    refine⟨⟨_,rfl,?_⟩,HW3.out⟩
    rw[HE.out]
    exact decide_eq_true (by omega)
   | false =>
    go_wp2_with fail
    go_roundg (l.length - (i+1))
    case measure=>omega
    case rel=>exact⟨i+1,by omega,rfl,by go_num,HNX,HW3⟩
  ·have hlt':¬(i:Int)<(l.length:Int):=by omega
   have HE:Hid (l.any p=false):=by
    have:=HI.out
    rw[List.take_of_length_le (by omega)]at this
    exact this
   go_wp2_with fail
   go_ret
   refine⟨⟨_,rfl,?_⟩,HW.out⟩
   rw[HE.out]
   rfl
theorem containsSym {w:World}{a:Option Addr}{cap:Nat}{l:List Ob.Sm}{p:Ob.Sm->Bool}{fn:FuncId}{c:Value}(hS:Sl w (.slice a l.length cap) 3 l.length (cellsOf smC l)) (hn:l.length<=1000000) (hcf:∀(args:Array Value) (w:World),(callFunc fn args).run Tryz.prog w=.ok (.enter fn args) w)
  (hd:∀ W (x:Ob.Sm),x∈l->Below w.heap.size w W->Calls Tryz.prog fn #[.agg #[.string (bs x.name),.int .i64 x.len,.int .i64 x.args],c] W fun e w'=>e=.returned (.bool (p x))/\Below W.heap.size W w') :
  Calls Tryz.prog 16 #[.slice a l.length cap,.func (.func fn) #[] #[c]] w fun e w'=>e=.returned (.bool (l.any p))/\Below w.heap.size w w':=by
 have HC:=zh (indexSym hS hn hcf hd)
 clear hS hd hcf
 go_enter Tryz.func16,Tryz.ntmps16
 go_wp2_with fail
 refine HC.out.mono ?_
 rintro e w1 ⟨⟨k,rfl,hk⟩,hb⟩
 have HK:=zh hk
 clear hk
 go_wp2_with fail
 go_ret
 exact⟨by rw[<-HK.out];rfl,hb⟩
theorem indexGl {w:World}{a:Option Addr}{cap:Nat}{l:List Ob.Gl}{p:Ob.Gl->Bool}{fn:FuncId}{c:Value}(hS:Sl w (.slice a l.length cap) 4 l.length (cellsOf glC l)) (hn:l.length<=1000000) (hcf:∀(args:Array Value) (w:World),(callFunc fn args).run Tryz.prog w=.ok (.enter fn args) w)
  (hd:∀ W (x:Ob.Gl),x∈l->Below w.heap.size w W->Calls Tryz.prog fn #[.agg #[.string (bs x.name),.int .i64 x.at',.int .i64 x.len,.bool x.seen],c] W fun e w'=>e=.returned (.bool (p x))/\Below W.heap.size W w') :
  Calls Tryz.prog 44 #[.slice a l.length cap,.func (.func fn) #[] #[c]] w fun e w'=>(∃ k:Int,e=.returned (.int .i64 k)/\(decide (0<=k)=l.any p))/\Below w.heap.size w w':=by
 have hn':(l.length:Int)<=1000000:=by omega
 have HSL:=zh hS
 have HD:=zh hd
 clear hS hd
 go_enter Tryz.func44,Tryz.ntmps44
 go_wp2_with fail
 go_loopg [8] l.length (fun k vi wr=>∃ i:Nat,i<=l.length/\k=l.length - i/\vi=.int .i64 (i:Int)/\Hid ((l.take i).any p=false)/\Hid (Below w.heap.size w wr))
 case atStart=>exact⟨0,by omega,by omega,rfl,rfl,Below.refl _ _⟩
 case round =>
  obtain⟨i,hid,hk,rfl,HI,HW⟩:=hrel
  by_cases hlt:i<l.length
  ·have hlt':(i:Int)<(l.length:Int):=by omega
   obtain⟨g,go,rfl,hgl,hcell⟩:=HSL.out.at' jH (by omega) i hlt
   have e0:wr.cell? ⟨g,go+i * 4,none⟩=some (.string (bs l[i].name)):=(HW.out.cell (p:=⟨g,go+i * 4,none⟩) hgl).trans (hcell 0 _ rfl)
   have e1:wr.cell? ⟨g,go+i * 4+1,none⟩=some (.int .i64 l[i].at'):=(HW.out.cell (p:=⟨g,go+i * 4+1,none⟩) hgl).trans (hcell 1 _ rfl)
   have e2:wr.cell? ⟨g,go+i * 4+2,none⟩=some (.int .i64 l[i].len):=(HW.out.cell (p:=⟨g,go+i * 4+2,none⟩) hgl).trans (hcell 2 _ rfl)
   have e3:wr.cell? ⟨g,go+i * 4+3,none⟩=some (.bool l[i].seen):=(HW.out.cell (p:=⟨g,go+i * 4+3,none⟩) hgl).trans (hcell 3 _ rfl)
   have hbl':g<wr.heap.size:=zi e0
   have HF:=zh (HD.out wr l[i] (List.getElem_mem hlt) HW.out)
   clear hcell
   have HNX:Hid ((l.take (i+1)).any p=p l[i]):=by
    show _=_
    rw[List.take_succ_eq_append_getElem hlt,List.any_append,HI.out];simp
   have HAN:Hid (p l[i]=true->l.any p=true):=fun e=>List.any_eq_true.2 ⟨_,List.getElem_mem hlt,e⟩
   generalize p l[i]=d at *
   generalize l[i]=x at *
   clear HI
   go_wp2_with fail
   refine HF.out.mono ?_
   rintro e w3 ⟨rfl,h3⟩
   have HW3:=zh (HW.out.trans (h3.mono HW.out.size))
   clear h3
   cases d with
   | true =>
    have HE:=zh (HAN.out rfl)
    go_wp2_with fail
    go_ret
    refine⟨⟨_,rfl,?_⟩,HW3.out⟩
    rw[HE.out]
    exact decide_eq_true (by omega)
   | false =>
    go_wp2_with fail
    go_roundg (l.length - (i+1))
    case measure=>omega
    case rel=>exact⟨i+1,by omega,rfl,by go_num,HNX,HW3⟩
  ·have hlt':¬(i:Int)<(l.length:Int):=by omega
   have HE:Hid (l.any p=false):=by
    have:=HI.out
    rw[List.take_of_length_le (by omega)]at this
    exact this
   go_wp2_with fail
   go_ret
   refine⟨⟨_,rfl,?_⟩,HW.out⟩
   rw[HE.out]
   rfl
theorem containsGl {w:World}{a:Option Addr}{cap:Nat}{l:List Ob.Gl}{p:Ob.Gl->Bool}{fn:FuncId}{c:Value}(hS:Sl w (.slice a l.length cap) 4 l.length (cellsOf glC l)) (hn:l.length<=1000000) (hcf:∀(args:Array Value) (w:World),(callFunc fn args).run Tryz.prog w=.ok (.enter fn args) w)
  (hd:∀ W (x:Ob.Gl),x∈l->Below w.heap.size w W->Calls Tryz.prog fn #[.agg #[.string (bs x.name),.int .i64 x.at',.int .i64 x.len,.bool x.seen],c] W fun e w'=>e=.returned (.bool (p x))/\Below W.heap.size W w') :
  Calls Tryz.prog 18 #[.slice a l.length cap,.func (.func fn) #[] #[c]] w fun e w'=>e=.returned (.bool (l.any p))/\Below w.heap.size w w':=by
 have HC:=zh (indexGl hS hn hcf hd)
 clear hS hd hcf
 go_enter Tryz.func18,Tryz.ntmps18
 go_wp2_with fail
 refine HC.out.mono ?_
 rintro e w1 ⟨⟨k,rfl,hk⟩,hb⟩
 have HK:=zh hk
 clear hk
 go_wp2_with fail
 go_ret
 exact⟨by rw[<-HK.out];rfl,hb⟩
theorem indexEn {w:World}{a:Option Addr}{cap:Nat}{l:List Ob.En}{p:Ob.En->Bool}{fn:FuncId}{c:Value}(hS:Sl w (.slice a l.length cap) 3 l.length (cellsOf enC l)) (hn:l.length<=1000000) (hcf:∀(args:Array Value) (w:World),(callFunc fn args).run Tryz.prog w=.ok (.enter fn args) w)
  (hd:∀ W (x:Ob.En),x∈l->Below w.heap.size w W->Calls Tryz.prog fn #[.agg #[.int .i64 x.at',.int .i64 x.args,.int .i64 x.locals],c] W fun e w'=>e=.returned (.bool (p x))/\Below W.heap.size W w') :
  Calls Tryz.prog 121 #[.slice a l.length cap,.func (.func fn) #[] #[c]] w fun e w'=>(∃ k:Int,e=.returned (.int .i64 k)/\(decide (0<=k)=l.any p))/\Below w.heap.size w w':=by
 have hn':(l.length:Int)<=1000000:=by omega
 have HSL:=zh hS
 have HD:=zh hd
 clear hS hd
 go_enter Tryz.func121,Tryz.ntmps121
 go_wp2_with fail
 go_loopg [8] l.length (fun k vi wr=>∃ i:Nat,i<=l.length/\k=l.length - i/\vi=.int .i64 (i:Int)/\Hid ((l.take i).any p=false)/\Hid (Below w.heap.size w wr))
 case atStart=>exact⟨0,by omega,by omega,rfl,rfl,Below.refl _ _⟩
 case round =>
  obtain⟨i,hid,hk,rfl,HI,HW⟩:=hrel
  by_cases hlt:i<l.length
  ·have hlt':(i:Int)<(l.length:Int):=by omega
   obtain⟨g,go,rfl,hgl,hcell⟩:=HSL.out.at' jK (by omega) i hlt
   have e0:wr.cell? ⟨g,go+i * 3,none⟩=some (.int .i64 l[i].at'):=(HW.out.cell (p:=⟨g,go+i * 3,none⟩) hgl).trans (hcell 0 _ rfl)
   have e1:wr.cell? ⟨g,go+i * 3+1,none⟩=some (.int .i64 l[i].args):=(HW.out.cell (p:=⟨g,go+i * 3+1,none⟩) hgl).trans (hcell 1 _ rfl)
   have e2:wr.cell? ⟨g,go+i * 3+2,none⟩=some (.int .i64 l[i].locals):=(HW.out.cell (p:=⟨g,go+i * 3+2,none⟩) hgl).trans (hcell 2 _ rfl)
   have hbl':g<wr.heap.size:=zi e0
   have HF:=zh (HD.out wr l[i] (List.getElem_mem hlt) HW.out)
   clear hcell
   have HNX:Hid ((l.take (i+1)).any p=p l[i]):=by
    show _=_
    rw[List.take_succ_eq_append_getElem hlt,List.any_append,HI.out];simp
   have HAN:Hid (p l[i]=true->l.any p=true):=fun e=>List.any_eq_true.2 ⟨_,List.getElem_mem hlt,e⟩
   generalize p l[i]=d at *
   generalize l[i]=x at *
   clear HI
   go_wp2_with fail
   refine HF.out.mono ?_
   rintro e w3 ⟨rfl,h3⟩
   have HW3:=zh (HW.out.trans (h3.mono HW.out.size))
   clear h3
   cases d with
   | true =>
    have HE:=zh (HAN.out rfl)
    go_wp2_with fail
    go_ret
    refine⟨⟨_,rfl,?_⟩,HW3.out⟩
    rw[HE.out]
    exact decide_eq_true (by omega)
   | false =>
    go_wp2_with fail
    go_roundg (l.length - (i+1))
    case measure=>omega
    case rel=>exact⟨i+1,by omega,rfl,by go_num,HNX,HW3⟩
  ·have hlt':¬(i:Int)<(l.length:Int):=by omega
   have HE:Hid (l.any p=false):=by
    have:=HI.out
    rw[List.take_of_length_le (by omega)]at this
    exact this
   go_wp2_with fail
   go_ret
   refine⟨⟨_,rfl,?_⟩,HW.out⟩
   rw[HE.out]
   rfl
theorem containsEn {w:World}{a:Option Addr}{cap:Nat}{l:List Ob.En}{p:Ob.En->Bool}{fn:FuncId}{c:Value}(hS:Sl w (.slice a l.length cap) 3 l.length (cellsOf enC l)) (hn:l.length<=1000000) (hcf:∀(args:Array Value) (w:World),(callFunc fn args).run Tryz.prog w=.ok (.enter fn args) w)
  (hd:∀ W (x:Ob.En),x∈l->Below w.heap.size w W->Calls Tryz.prog fn #[.agg #[.int .i64 x.at',.int .i64 x.args,.int .i64 x.locals],c] W fun e w'=>e=.returned (.bool (p x))/\Below W.heap.size W w') :
  Calls Tryz.prog 93 #[.slice a l.length cap,.func (.func fn) #[] #[c]] w fun e w'=>e=.returned (.bool (l.any p))/\Below w.heap.size w w':=by
 have HC:=zh (indexEn hS hn hcf hd)
 clear hS hd hcf
 go_enter Tryz.func93,Tryz.ntmps93
 go_wp2_with fail
 refine HC.out.mono ?_
 rintro e w1 ⟨⟨k,rfl,hk⟩,hb⟩
 have HK:=zh hk
 clear hk
 go_wp2_with fail
 go_ret
 exact⟨by rw[<-HK.out];rfl,hb⟩
theorem indexIn {w:World}{a:Option Addr}{cap:Nat}{l:List Ob.In}{p:Ob.In->Bool}{fn:FuncId}{c:Value}(hS:Sl w (.slice a l.length cap) 3 l.length (cellsOf inC l)) (hn:l.length<=1000000) (hcf:∀(args:Array Value) (w:World),(callFunc fn args).run Tryz.prog w=.ok (.enter fn args) w)
  (hd:∀ W (x:Ob.In),x∈l->Below w.heap.size w W->Calls Tryz.prog fn #[.agg #[.int .i64 x.op,.int .i64 x.a,.int .i64 x.b],c] W fun e w'=>e=.returned (.bool (p x))/\Below W.heap.size W w') :
  Calls Tryz.prog 122 #[.slice a l.length cap,.func (.func fn) #[] #[c]] w fun e w'=>(∃ k:Int,e=.returned (.int .i64 k)/\(decide (0<=k)=l.any p))/\Below w.heap.size w w':=by
 have hn':(l.length:Int)<=1000000:=by omega
 have HSL:=zh hS
 have HD:=zh hd
 clear hS hd
 go_enter Tryz.func122,Tryz.ntmps122
 go_wp2_with fail
 go_loopg [8] l.length (fun k vi wr=>∃ i:Nat,i<=l.length/\k=l.length - i/\vi=.int .i64 (i:Int)/\Hid ((l.take i).any p=false)/\Hid (Below w.heap.size w wr))
 case atStart=>exact⟨0,by omega,by omega,rfl,rfl,Below.refl _ _⟩
 case round =>
  obtain⟨i,hid,hk,rfl,HI,HW⟩:=hrel
  by_cases hlt:i<l.length
  ·have hlt':(i:Int)<(l.length:Int):=by omega
   obtain⟨g,go,rfl,hgl,hcell⟩:=HSL.out.at' jn (by omega) i hlt
   have e0:wr.cell? ⟨g,go+i * 3,none⟩=some (.int .i64 l[i].op):=(HW.out.cell (p:=⟨g,go+i * 3,none⟩) hgl).trans (hcell 0 _ rfl)
   have e1:wr.cell? ⟨g,go+i * 3+1,none⟩=some (.int .i64 l[i].a):=(HW.out.cell (p:=⟨g,go+i * 3+1,none⟩) hgl).trans (hcell 1 _ rfl)
   have e2:wr.cell? ⟨g,go+i * 3+2,none⟩=some (.int .i64 l[i].b):=(HW.out.cell (p:=⟨g,go+i * 3+2,none⟩) hgl).trans (hcell 2 _ rfl)
   have hbl':g<wr.heap.size:=zi e0
   have HF:=zh (HD.out wr l[i] (List.getElem_mem hlt) HW.out)
   clear hcell
   have HNX:Hid ((l.take (i+1)).any p=p l[i]):=by
    show _=_
    rw[List.take_succ_eq_append_getElem hlt,List.any_append,HI.out];simp
   have HAN:Hid (p l[i]=true->l.any p=true):=fun e=>List.any_eq_true.2 ⟨_,List.getElem_mem hlt,e⟩
   generalize p l[i]=d at *
   generalize l[i]=x at *
   clear HI
   go_wp2_with fail
   refine HF.out.mono ?_
   rintro e w3 ⟨rfl,h3⟩
   have HW3:=zh (HW.out.trans (h3.mono HW.out.size))
   clear h3
   cases d with
   | true =>
    have HE:=zh (HAN.out rfl)
    go_wp2_with fail
    go_ret
    refine⟨⟨_,rfl,?_⟩,HW3.out⟩
    rw[HE.out]
    exact decide_eq_true (by omega)
   | false =>
    go_wp2_with fail
    go_roundg (l.length - (i+1))
    case measure=>omega
    case rel=>exact⟨i+1,by omega,rfl,by go_num,HNX,HW3⟩
  ·have hlt':¬(i:Int)<(l.length:Int):=by omega
   have HE:Hid (l.any p=false):=by
    have:=HI.out
    rw[List.take_of_length_le (by omega)]at this
    exact this
   go_wp2_with fail
   go_ret
   refine⟨⟨_,rfl,?_⟩,HW.out⟩
   rw[HE.out]
   rfl
theorem containsIn {w:World}{a:Option Addr}{cap:Nat}{l:List Ob.In}{p:Ob.In->Bool}{fn:FuncId}{c:Value}(hS:Sl w (.slice a l.length cap) 3 l.length (cellsOf inC l)) (hn:l.length<=1000000) (hcf:∀(args:Array Value) (w:World),(callFunc fn args).run Tryz.prog w=.ok (.enter fn args) w)
  (hd:∀ W (x:Ob.In),x∈l->Below w.heap.size w W->Calls Tryz.prog fn #[.agg #[.int .i64 x.op,.int .i64 x.a,.int .i64 x.b],c] W fun e w'=>e=.returned (.bool (p x))/\Below W.heap.size W w') :
  Calls Tryz.prog 96 #[.slice a l.length cap,.func (.func fn) #[] #[c]] w fun e w'=>e=.returned (.bool (l.any p))/\Below w.heap.size w w':=by
 have HC:=zh (indexIn hS hn hcf hd)
 clear hS hd hcf
 go_enter Tryz.func96,Tryz.ntmps96
 go_wp2_with fail
 refine HC.out.mono ?_
 rintro e w1 ⟨⟨k,rfl,hk⟩,hb⟩
 have HK:=zh hk
 clear hk
 go_wp2_with fail
 go_ret
 exact⟨by rw[<-HK.out];rfl,hb⟩
theorem indexUs {w:World}{ua:Option Addr}{cap:Nat}{l:List Ob.Us}{p:Ob.Us->Bool}{fn:FuncId}{c:Value}{ucs:List Value}(hU:RepN w l ucs) (hS:Sl w (.slice ua l.length cap) 3 l.length ucs) (hn:l.length<=1000000) (hcf:∀(args:Array Value) (w:World),(callFunc fn args).run Tryz.prog w=.ok (.enter fn args) w)
  (hd:∀ W (x:Ob.Us) na nc,x∈l->Below w.heap.size w W->Sl w (.slice na x.names.length nc) 1 x.names.length (cellsOf stC x.names)->Calls Tryz.prog fn #[.agg #[.string (bs x.name),.string (bs x.need),.slice na x.names.length nc],c] W fun e w'=>e=.returned (.bool (p x))/\Below W.heap.size W w') :
  Calls Tryz.prog 45 #[.slice ua l.length cap,.func (.func fn) #[] #[c]] w fun e w'=>(∃ k:Int,e=.returned (.int .i64 k)/\(decide (0<=k)=l.any p))/\Below w.heap.size w w':=by
 have hn':(l.length:Int)<=1000000:=by omega
 have HSL:=zh hS
 have HD:=zh hd
 have HU:=zh hU
 clear hS hd
 go_enter Tryz.func45,Tryz.ntmps45
 go_wp2_with fail
 go_loopg [8] l.length (fun k vi wr=>∃ i:Nat,i<=l.length/\k=l.length - i/\vi=.int .i64 (i:Int)/\Hid ((l.take i).any p=false)/\Hid (Below w.heap.size w wr))
 case atStart=>exact⟨0,by omega,by omega,rfl,rfl,Below.refl _ _⟩
 case round =>
  obtain⟨i,hid,hk,rfl,HI,HW⟩:=hrel
  by_cases hlt:i<l.length
  ·have hlt':(i:Int)<(l.length:Int):=by omega
   obtain⟨na',nc',q0,q1,q2,q3⟩:=RepN.get _ _ HU.out i hlt
   obtain⟨a0,c0',hsl0,_,hall⟩:=HSL.out
   cases hsl0
   obtain⟨g,go,rfl,hg0⟩:=hall _ _ q0
   have hgl:=zi hg0
   have e0:wr.cell? ⟨g,go+i * 3,none⟩=some (.string (bs l[i].name)):=(HW.out.cell (p:=⟨g,go+i * 3,none⟩) hgl).trans hg0
   have e1:wr.cell? ⟨g,go+i * 3+1,none⟩=some (.string (bs l[i].need)):=by
    obtain⟨g',go',he,hg1⟩:=hall _ _ q1
    cases he
    exact(HW.out.cell (p:=⟨g,go+i * 3+1,none⟩) hgl).trans hg1
   have e2:wr.cell? ⟨g,go+i * 3+2,none⟩=some (.slice na' l[i].names.length nc'):=by
    obtain⟨g',go',he,hg1⟩:=hall _ _ q2
    cases he
    exact(HW.out.cell (p:=⟨g,go+i * 3+2,none⟩) hgl).trans hg1
   have hbl':g<wr.heap.size:=zi e0
   have HF:=zh (HD.out wr l[i] na' nc' (List.getElem_mem hlt) HW.out q3)
   clear hall q0 q1 q2 q3 hg0
   have HNX:Hid ((l.take (i+1)).any p=p l[i]):=by
    show _=_
    rw[List.take_succ_eq_append_getElem hlt,List.any_append,HI.out];simp
   have HAN:Hid (p l[i]=true->l.any p=true):=fun e=>List.any_eq_true.2 ⟨_,List.getElem_mem hlt,e⟩
   generalize p l[i]=d at *
   generalize l[i]=x at *
   clear HI
   go_wp2_with fail
   refine HF.out.mono ?_
   rintro e w3 ⟨rfl,h3⟩
   have HW3:=zh (HW.out.trans (h3.mono HW.out.size))
   clear h3
   cases d with
   | true =>
    have HE:=zh (HAN.out rfl)
    go_wp2_with fail
    go_ret
    refine⟨⟨_,rfl,?_⟩,HW3.out⟩
    rw[HE.out]
    exact decide_eq_true (by omega)
   | false =>
    go_wp2_with fail
    go_roundg (l.length - (i+1))
    case measure=>omega
    case rel=>exact⟨i+1,by omega,rfl,by go_num,HNX,HW3⟩
  ·have hlt':¬(i:Int)<(l.length:Int):=by omega
   have HE:Hid (l.any p=false):=by
    have:=HI.out
    rw[List.take_of_length_le (by omega)]at this
    exact this
   go_wp2_with fail
   go_ret
   refine⟨⟨_,rfl,?_⟩,HW.out⟩
   rw[HE.out]
   rfl
theorem containsUs {w:World}{ua:Option Addr}{cap:Nat}{l:List Ob.Us}{p:Ob.Us->Bool}{fn:FuncId}{c:Value}{ucs:List Value}(hU:RepN w l ucs) (hS:Sl w (.slice ua l.length cap) 3 l.length ucs) (hn:l.length<=1000000) (hcf:∀(args:Array Value) (w:World),(callFunc fn args).run Tryz.prog w=.ok (.enter fn args) w)
  (hd:∀ W (x:Ob.Us) na nc,x∈l->Below w.heap.size w W->Sl w (.slice na x.names.length nc) 1 x.names.length (cellsOf stC x.names)->Calls Tryz.prog fn #[.agg #[.string (bs x.name),.string (bs x.need),.slice na x.names.length nc],c] W fun e w'=>e=.returned (.bool (p x))/\Below W.heap.size W w') :
  Calls Tryz.prog 20 #[.slice ua l.length cap,.func (.func fn) #[] #[c]] w fun e w'=>e=.returned (.bool (l.any p))/\Below w.heap.size w w':=by
 have HC:=zh (indexUs hU hS hn hcf hd)
 clear hS hd hcf
 go_enter Tryz.func20,Tryz.ntmps20
 go_wp2_with fail
 refine HC.out.mono ?_
 rintro e w1 ⟨⟨k,rfl,hk⟩,hb⟩
 have HK:=zh hk
 clear hk
 go_wp2_with fail
 go_ret
 exact⟨by rw[<-HK.out];rfl,hb⟩
theorem bs_get (s:Bs) (i:Nat) (h:i<(bs s).size) (h':i<s.length):(bs s)[i]'(h)=s[i]'(h'):=by simp[bs,ByteArray.getElem_eq_getElem_data]
theorem kA (w:World) (s:Bs) (hs:s.length<=1000000000) :
  Calls Tryz.prog 58 #[.string (bs s)] w fun e w'=>e=.returned (.bool (Ob.nameB s))/\w'=w:=by
 have hz:=kP s
 have hs':(s.length:Int)<=1000000000:=by omega
 go_enter Tryz.func58,Tryz.ntmps58
 go_wp2_with fail
 go_loopg [8] s.length (fun k vi wr=>∃ i:Nat,i<=s.length/\k=s.length - i/\vi=.int .i64 (i:Int)/\Hid (∀ j (h:j<s.length),j<i->Ob.good j s[j]=true)/\wr=w)
 case atStart=>exact⟨0,by omega,by omega,rfl,fun j _ h=>by omega,rfl⟩
 case round =>
  obtain⟨i,hid,hk,rfl,HG,rfl⟩:=hrel
  by_cases hlt:i<s.length
  ·have hlt':(i:Int)<(s.length:Int):=by omega
   have hget:=fun h=>bs_get s i h hlt
   have HNX:Hid (Ob.good i s[i]=true->∀ j (h:j<s.length),j<i+1->Ob.good j s[j]=true):=by
    intro e j h hj
    by_cases hji:j=i
    ·subst hji;exact e
    ·exact HG.out j h (by omega)
   have HBD:Hid (Ob.good i s[i]=false->Ob.nameB s=false):=by
    intro e
    unfold Ob.nameB
    rw[Bool.and_eq_false_iff]
    refine Or.inl (decide_eq_false fun hall=>?_)
    rw[hall i hlt]at e
    cases e
   have hgd:Ob.good i s[i]=((decide (97<=s[i].toNat) && decide (s[i].toNat<=122)) || ((decide (48<=s[i].toNat) && decide (s[i].toNat<=57)) && !decide (i=0))):=rfl
   have HGD:=zh hgd
   clear hgd HG
   generalize Ob.good i s[i]=gd at *
   generalize s[i]=c at *
   have hcl:=c.toNat_lt
   rcases(show c.toNat<48\/(48<=c.toNat/\c.toNat<=57)\/(57<c.toNat/\c.toNat<97)\/(97<=c.toNat/\c.toNat<=122)\/122<c.toNat by omega) with q|⟨q1,q2⟩|⟨q1,q2⟩|⟨q1,q2⟩|q
   ·have g0:(c.toNat:Int)<97:=by omega
    have g1:(c.toNat:Int)<=122:=by omega
    have g2:(c.toNat:Int)<48:=by omega
    have g3:(c.toNat:Int)<=57:=by omega
    have gd1:decide ((c.toNat:Int)<=122)=true:=decide_eq_true (by omega)
    have gd3:decide ((c.toNat:Int)<=57)=true:=decide_eq_true (by omega)
    have HV:Hid (gd=false):=by
     show _=_
     rw[HGD.out,decide_eq_false (p:=97<=c.toNat) (by omega),decide_eq_true (p:=c.toNat<=122) (by omega),decide_eq_false (p:=48<=c.toNat) (by omega),decide_eq_true (p:=c.toNat<=57) (by omega)]
     rfl
    have HF:=zh (HBD.out HV.out)
    clear HNX HBD HV HGD
    go_wp2_with fail
    go_ret
    exact⟨by rw[HF.out];rfl,rfl⟩
   ·by_cases hi0:i=0
    ·have g0:(c.toNat:Int)<97:=by omega
     have g1:(c.toNat:Int)<=122:=by omega
     have g2:(48:Int)<=(c.toNat:Int):=by omega
     have g3:(c.toNat:Int)<=57:=by omega
     have gd1:decide ((c.toNat:Int)<=122)=true:=decide_eq_true (by omega)
     have gd3:decide ((c.toNat:Int)<=57)=true:=decide_eq_true (by omega)
     have gi:((i:Int) == 0)=true:=by simp;omega
     have HV:Hid (gd=false):=by
      show _=_
      rw[HGD.out,decide_eq_false (p:=97<=c.toNat) (by omega),decide_eq_true (p:=c.toNat<=122) (by omega),decide_eq_true (p:=48<=c.toNat) (by omega),decide_eq_true (p:=c.toNat<=57) (by omega),decide_eq_true (p:=i=0) hi0]
      rfl
     have HF:=zh (HBD.out HV.out)
     clear HNX HBD HV HGD hi0
     go_wp2_with fail
     go_ret
     exact⟨by rw[HF.out];rfl,rfl⟩
    ·have g0:(c.toNat:Int)<97:=by omega
     have g1:(c.toNat:Int)<=122:=by omega
     have g2:(48:Int)<=(c.toNat:Int):=by omega
     have g3:(c.toNat:Int)<=57:=by omega
     have gd1:decide ((c.toNat:Int)<=122)=true:=decide_eq_true (by omega)
     have gd3:decide ((c.toNat:Int)<=57)=true:=decide_eq_true (by omega)
     have gi:((i:Int) == 0)=false:=by simp;omega
     have HV:Hid (gd=true):=by
      show _=_
      rw[HGD.out,decide_eq_false (p:=97<=c.toNat) (by omega),decide_eq_true (p:=c.toNat<=122) (by omega),decide_eq_true (p:=48<=c.toNat) (by omega),decide_eq_true (p:=c.toNat<=57) (by omega),decide_eq_false (p:=i=0) hi0]
      rfl
     have HN:=zh (HNX.out HV.out)
     clear HNX HBD HV HGD hi0
     go_wp2_with fail
     go_roundg (s.length - (i+1))
     case measure=>omega
     case rel=>exact⟨i+1,by omega,rfl,by go_num,HN,rfl⟩
   ·have g0:(c.toNat:Int)<97:=by omega
    have g1:(c.toNat:Int)<=122:=by omega
    have g2:(48:Int)<=(c.toNat:Int):=by omega
    have g3:(57:Int)<(c.toNat:Int):=by omega
    have gd1:decide ((c.toNat:Int)<=122)=true:=decide_eq_true (by omega)
    have gd3:decide ((c.toNat:Int)<=57)=false:=decide_eq_false (by omega)
    have HV:Hid (gd=false):=by
     show _=_
     rw[HGD.out,decide_eq_false (p:=97<=c.toNat) (by omega),decide_eq_true (p:=c.toNat<=122) (by omega),decide_eq_true (p:=48<=c.toNat) (by omega),decide_eq_false (p:=c.toNat<=57) (by omega)]
     rfl
    have HF:=zh (HBD.out HV.out)
    clear HNX HBD HV HGD
    go_wp2_with fail
    go_ret
    exact⟨by rw[HF.out];rfl,rfl⟩
   ·have g0:(97:Int)<=(c.toNat:Int):=by omega
    have g1:(c.toNat:Int)<=122:=by omega
    have g2:(48:Int)<=(c.toNat:Int):=by omega
    have g3:(57:Int)<(c.toNat:Int):=by omega
    have gd1:decide ((c.toNat:Int)<=122)=true:=decide_eq_true (by omega)
    have gd3:decide ((c.toNat:Int)<=57)=false:=decide_eq_false (by omega)
    have HV:Hid (gd=true):=by
     show _=_
     rw[HGD.out,decide_eq_true (p:=97<=c.toNat) (by omega),decide_eq_true (p:=c.toNat<=122) (by omega),decide_eq_true (p:=48<=c.toNat) (by omega),decide_eq_false (p:=c.toNat<=57) (by omega)]
     rfl
    have HN:=zh (HNX.out HV.out)
    clear HNX HBD HV HGD
    go_wp2_with fail
    go_roundg (s.length - (i+1))
    case measure=>omega
    case rel=>exact⟨i+1,by omega,rfl,by go_num,HN,rfl⟩
   ·have g0:(97:Int)<=(c.toNat:Int):=by omega
    have g1:(122:Int)<(c.toNat:Int):=by omega
    have g2:(48:Int)<=(c.toNat:Int):=by omega
    have g3:(57:Int)<(c.toNat:Int):=by omega
    have gd1:decide ((c.toNat:Int)<=122)=false:=decide_eq_false (by omega)
    have gd3:decide ((c.toNat:Int)<=57)=false:=decide_eq_false (by omega)
    have HV:Hid (gd=false):=by
     show _=_
     rw[HGD.out,decide_eq_true (p:=97<=c.toNat) (by omega),decide_eq_false (p:=c.toNat<=122) (by omega),decide_eq_true (p:=48<=c.toNat) (by omega),decide_eq_false (p:=c.toNat<=57) (by omega)]
     rfl
    have HF:=zh (HBD.out HV.out)
    clear HNX HBD HV HGD
    go_wp2_with fail
    go_ret
    exact⟨by rw[HF.out];rfl,rfl⟩
  ·have hlt':¬(i:Int)<(s.length:Int):=by omega
   have HAL:Hid (decide (∀ i (h:i<s.length),Ob.good i s[i]=true)=true):=decide_eq_true fun j h=>HG.out j h (by omega)
   have HNM:Hid (Ob.nameB s=(decide (1<=s.length) && decide (s.length<=10))):=by show _=_;unfold Ob.nameB;rw[HAL.out,Bool.true_and]
   clear HAL HG
   by_cases h1:1<=s.length
   ·have h1':(1:Int)<=(s.length:Int):=by omega
    by_cases h2:s.length<=10
    ·have h2':(s.length:Int)<=10:=by omega
     have HF:Hid (Ob.nameB s=true):=by rw[HNM.out];exact(by rw[decide_eq_true h1,decide_eq_true h2];rfl)
     go_wp2_with fail
     go_ret
     exact⟨by rw[HF.out];rfl,rfl⟩
    ·have h2':¬(s.length:Int)<=10:=by omega
     have HF:Hid (Ob.nameB s=false):=by rw[HNM.out];exact(by rw[decide_eq_true h1,decide_eq_false h2];rfl)
     go_wp2_with fail
     go_ret
     exact⟨by rw[HF.out];rfl,rfl⟩
   ·have h1':¬(1:Int)<=(s.length:Int):=by omega
    have HF:Hid (Ob.nameB s=false):=by rw[HNM.out];exact(by rw[decide_eq_false h1];rfl)
    go_wp2_with fail
    go_ret
    exact⟨by rw[HF.out];rfl,rfl⟩
theorem len_any (w:World) (n:Int):Calls Tryz.prog 90 #[.int .i64 n] w fun e w'=>e=.returned (.bool (Ob.lenB n))/\w'=w:=by
 by_cases h1:0<=n
 ·by_cases h2:n<=30
  ·have HF:Hid (Ob.lenB n=true):=by show _=_;unfold Ob.lenB;rw[decide_eq_true h1,decide_eq_true h2];rfl
   go_enter Tryz.func90,Tryz.ntmps90
   go_wp2_with fail
   go_ret
   exact⟨by rw[HF.out];rfl,rfl⟩
  ·have HF:Hid (Ob.lenB n=false):=by show _=_;unfold Ob.lenB;rw[decide_eq_true h1,decide_eq_false h2];rfl
   have h2':30<n:=by omega
   go_enter Tryz.func90,Tryz.ntmps90
   go_wp2_with fail
   go_ret
   exact⟨by rw[HF.out];rfl,rfl⟩
 ·have HF:Hid (Ob.lenB n=false):=by show _=_;unfold Ob.lenB;rw[decide_eq_false h1];rfl
  have h1':n<0:=by omega
  go_enter Tryz.func90,Tryz.ntmps90
  go_wp2_with fail
  go_ret
  exact⟨by rw[HF.out];rfl,rfl⟩
theorem yT (w:World) (n:Int) (m:Nat):Calls Tryz.prog 65 #[.int .i64 n,.int .i64 (m:Int)] w fun e w'=>e=.returned (.bool (Ob.countsB n m))/\w'=w:=by
 by_cases h1:0<=n
 ·by_cases h2:n<(m:Int)
  ·have HF:Hid (Ob.countsB n m=true):=by show _=_;unfold Ob.countsB;rw[decide_eq_true h1,decide_eq_true h2];rfl
   go_enter Tryz.func65,Tryz.ntmps65
   go_wp2_with fail
   go_ret
   exact⟨by rw[HF.out];rfl,rfl⟩
  ·have HF:Hid (Ob.countsB n m=false):=by show _=_;unfold Ob.countsB;rw[decide_eq_true h1,decide_eq_false h2];rfl
   have h2':(m:Int)<=n:=by omega
   go_enter Tryz.func65,Tryz.ntmps65
   go_wp2_with fail
   go_ret
   exact⟨by rw[HF.out];rfl,rfl⟩
 ·have HF:Hid (Ob.countsB n m=false):=by show _=_;unfold Ob.countsB;rw[decide_eq_false h1];rfl
  have h1':n<0:=by omega
  go_enter Tryz.func65,Tryz.ntmps65
  go_wp2_with fail
  go_ret
  exact⟨by rw[HF.out];rfl,rfl⟩
theorem cfStr (args:Array Value) (w:World):(callFunc 95 args).run Tryz.prog w=.ok (.enter 95 args) w:=by kernel_rfl
theorem oneStr {w:World}{fb:Nat}{fn:FuncId}  (x:Bs) {d:Bool}(hk:w.cell? ⟨fb,0,none⟩=some (.func (.func fn) #[] #[])) (hcf:∀(args:Array Value) (w:World),(callFunc fn args).run Tryz.prog w=.ok (.enter fn args) w)
  (hd:∀ W,Below w.heap.size w W->Calls Tryz.prog fn #[.string (bs x)] W fun e w'=>e=.returned (.bool d)/\Below W.heap.size W w') :
  Calls Tryz.prog 95 #[.string (bs x),.pointer (some ⟨fb,0,none⟩)] w fun e w'=>e=.returned (.bool (!d))/\Below w.heap.size w w':=by
 have hfl:=zi hk
 have HB0:=zh (Below.refl w.heap.size w)
 have HC:=zh (hd w (Below.refl _ _))
 clear hd
 go_enter Tryz.func95,Tryz.ntmps95
 go_wp2_with fail
 refine HC.out.mono ?_
 rintro e w1 ⟨rfl,h1⟩
 have HB:=zh (HB0.out.trans (h1.mono HB0.out.size))
 clear h1
 go_wp2_with fail
 go_ret
 exact⟨rfl,HB.out⟩
theorem allStr {w:World}{a:Option Addr}{cap:Nat}{l:List Bs}{p:Bs->Bool}{fn:FuncId}  (hS:Sl w (.slice a l.length cap) 1 l.length (cellsOf stC l)) (hn:l.length<=140737488355328) (most:Nat) (hm:most<=10000) (hcf:∀(args:Array Value) (w:World),(callFunc fn args).run Tryz.prog w=.ok (.enter fn args) w)
  (hd:∀ W (x:Bs),x∈l->Below w.heap.size w W->Calls Tryz.prog fn #[.string (bs x)] W fun e w'=>e=.returned (.bool (p x))/\Below W.heap.size W w') :
  Calls Tryz.prog 67 #[.slice a l.length cap,.int .i64 (most:Int),.func (.func fn) #[] #[]] w fun e w'=>e=.returned (.bool (Ob.allB p most l))/\Below w.heap.size w w':=by
 have hmf:=zm
 have hb0:Below w.heap.size w (w.alloc (.cells #[.func (.func fn) #[] #[]] 53)):=zb _ _
 by_cases hle:l.length<=most
 ·have hle':(l.length:Int)<=(most:Int):=by omega
  have HA:Hid (Ob.allB p most l=!(l.any fun x=>!p x)):=by show _=_;unfold Ob.allB;rw[decide_eq_true hle,Bool.true_and]
  have HC:=zh (containsStr (w:=w.alloc (.cells #[.func (.func fn) #[] #[]] 53)) (c:=.pointer (some ⟨w.heap.size,0,none⟩)) (p:=fun x=>!p x) (hS.below hb0) (by omega) cfStr (fun W x hx hW=>oneStr x ((hW.cell (p:=⟨w.heap.size,0,none⟩) (by simp)).trans ((zc (zw _ _)).trans rfl)) hcf (fun W' hW'=>hd W' x hx (hb0.trans ((hW.mono hb0.size).trans (hW'.mono (Nat.le_trans hb0.size hW.size)))))))
  have HB0:=zh hb0
  clear hS hd hcf hb0
  generalize Ob.allB p most l=r at *
  generalize (l.any fun x=>!p x)=d at *
  go_enter Tryz.func67,Tryz.ntmps67
  go_wp2_with fail
  refine HC.out.mono ?_
  rintro e w1 ⟨rfl,h1⟩
  have HB:=zh (HB0.out.trans (h1.mono HB0.out.size))
  clear h1
  go_wp2_with fail
  go_ret
  exact⟨by rw[HA.out];rfl,HB.out⟩
 ·have hle':(most:Int)<(l.length:Int):=by omega
  have HA:Hid (Ob.allB p most l=false):=by show _=_;unfold Ob.allB;rw[decide_eq_false hle];rfl
  have HB0:=zh hb0
  clear hS hd hcf hb0
  generalize Ob.allB p most l=r at *
  go_enter Tryz.func67,Tryz.ntmps67
  go_wp2_with fail
  go_ret
  exact⟨by rw[HA.out];rfl,HB0.out⟩
theorem cfSym (args:Array Value) (w:World):(callFunc 89 args).run Tryz.prog w=.ok (.enter 89 args) w:=by kernel_rfl
theorem oneSym {w:World}{fb:Nat}{fn:FuncId}  (x:Ob.Sm) {d:Bool}(hk:w.cell? ⟨fb,0,none⟩=some (.func (.func fn) #[] #[])) (hcf:∀(args:Array Value) (w:World),(callFunc fn args).run Tryz.prog w=.ok (.enter fn args) w)
  (hd:∀ W,Below w.heap.size w W->Calls Tryz.prog fn #[.agg #[.string (bs x.name),.int .i64 x.len,.int .i64 x.args]] W fun e w'=>e=.returned (.bool d)/\Below W.heap.size W w') :
  Calls Tryz.prog 89 #[.agg #[.string (bs x.name),.int .i64 x.len,.int .i64 x.args],.pointer (some ⟨fb,0,none⟩)] w fun e w'=>e=.returned (.bool (!d))/\Below w.heap.size w w':=by
 have hfl:=zi hk
 have hb0:Below w.heap.size w (w.alloc (.cells #[.string (bs x.name),.int .i64 x.len,.int .i64 x.args] 57)):=zb _ _
 have HB0:=zh hb0
 have HC:=zh (hd _ hb0)
 clear hb0
 clear hd
 go_enter Tryz.func89,Tryz.ntmps89
 go_wp2_with fail
 refine HC.out.mono ?_
 rintro e w1 ⟨rfl,h1⟩
 have HB:=zh (HB0.out.trans (h1.mono HB0.out.size))
 clear h1
 go_wp2_with fail
 go_ret
 exact⟨rfl,HB.out⟩
theorem allSym {w:World}{a:Option Addr}{cap:Nat}{l:List Ob.Sm}{p:Ob.Sm->Bool}{fn:FuncId}  (hS:Sl w (.slice a l.length cap) 3 l.length (cellsOf smC l)) (hn:l.length<=140737488355328) (most:Nat) (hm:most<=10000) (hcf:∀(args:Array Value) (w:World),(callFunc fn args).run Tryz.prog w=.ok (.enter fn args) w)
  (hd:∀ W (x:Ob.Sm),x∈l->Below w.heap.size w W->Calls Tryz.prog fn #[.agg #[.string (bs x.name),.int .i64 x.len,.int .i64 x.args]] W fun e w'=>e=.returned (.bool (p x))/\Below W.heap.size W w') :
  Calls Tryz.prog 59 #[.slice a l.length cap,.int .i64 (most:Int),.func (.func fn) #[] #[]] w fun e w'=>e=.returned (.bool (Ob.allB p most l))/\Below w.heap.size w w':=by
 have hmf:=zm
 have hb0:Below w.heap.size w (w.alloc (.cells #[.func (.func fn) #[] #[]] 58)):=zb _ _
 by_cases hle:l.length<=most
 ·have hle':(l.length:Int)<=(most:Int):=by omega
  have HA:Hid (Ob.allB p most l=!(l.any fun x=>!p x)):=by show _=_;unfold Ob.allB;rw[decide_eq_true hle,Bool.true_and]
  have HC:=zh (containsSym (w:=w.alloc (.cells #[.func (.func fn) #[] #[]] 58)) (c:=.pointer (some ⟨w.heap.size,0,none⟩)) (p:=fun x=>!p x) (hS.below hb0) (by omega) cfSym (fun W x hx hW=>oneSym x ((hW.cell (p:=⟨w.heap.size,0,none⟩) (by simp)).trans ((zc (zw _ _)).trans rfl)) hcf (fun W' hW'=>hd W' x hx (hb0.trans ((hW.mono hb0.size).trans (hW'.mono (Nat.le_trans hb0.size hW.size)))))))
  have HB0:=zh hb0
  clear hS hd hcf hb0
  generalize Ob.allB p most l=r at *
  generalize (l.any fun x=>!p x)=d at *
  go_enter Tryz.func59,Tryz.ntmps59
  go_wp2_with fail
  refine HC.out.mono ?_
  rintro e w1 ⟨rfl,h1⟩
  have HB:=zh (HB0.out.trans (h1.mono HB0.out.size))
  clear h1
  go_wp2_with fail
  go_ret
  exact⟨by rw[HA.out];rfl,HB.out⟩
 ·have hle':(most:Int)<(l.length:Int):=by omega
  have HA:Hid (Ob.allB p most l=false):=by show _=_;unfold Ob.allB;rw[decide_eq_false hle];rfl
  have HB0:=zh hb0
  clear hS hd hcf hb0
  generalize Ob.allB p most l=r at *
  go_enter Tryz.func59,Tryz.ntmps59
  go_wp2_with fail
  go_ret
  exact⟨by rw[HA.out];rfl,HB0.out⟩
theorem cfGl (args:Array Value) (w:World):(callFunc 92 args).run Tryz.prog w=.ok (.enter 92 args) w:=by kernel_rfl
theorem oneGl {w:World}{fb:Nat}{fn:FuncId}  (x:Ob.Gl) {d:Bool}(hk:w.cell? ⟨fb,0,none⟩=some (.func (.func fn) #[] #[])) (hcf:∀(args:Array Value) (w:World),(callFunc fn args).run Tryz.prog w=.ok (.enter fn args) w)
  (hd:∀ W,Below w.heap.size w W->Calls Tryz.prog fn #[.agg #[.string (bs x.name),.int .i64 x.at',.int .i64 x.len,.bool x.seen]] W fun e w'=>e=.returned (.bool d)/\Below W.heap.size W w') :
  Calls Tryz.prog 92 #[.agg #[.string (bs x.name),.int .i64 x.at',.int .i64 x.len,.bool x.seen],.pointer (some ⟨fb,0,none⟩)] w fun e w'=>e=.returned (.bool (!d))/\Below w.heap.size w w':=by
 have hfl:=zi hk
 have hb0:Below w.heap.size w (w.alloc (.cells #[.string (bs x.name),.int .i64 x.at',.int .i64 x.len,.bool x.seen] 61)):=zb _ _
 have HB0:=zh hb0
 have HC:=zh (hd _ hb0)
 clear hb0
 clear hd
 go_enter Tryz.func92,Tryz.ntmps92
 go_wp2_with fail
 refine HC.out.mono ?_
 rintro e w1 ⟨rfl,h1⟩
 have HB:=zh (HB0.out.trans (h1.mono HB0.out.size))
 clear h1
 go_wp2_with fail
 go_ret
 exact⟨rfl,HB.out⟩
theorem allGl {w:World}{a:Option Addr}{cap:Nat}{l:List Ob.Gl}{p:Ob.Gl->Bool}{fn:FuncId}  (hS:Sl w (.slice a l.length cap) 4 l.length (cellsOf glC l)) (hn:l.length<=140737488355328) (most:Nat) (hm:most<=10000) (hcf:∀(args:Array Value) (w:World),(callFunc fn args).run Tryz.prog w=.ok (.enter fn args) w)
  (hd:∀ W (x:Ob.Gl),x∈l->Below w.heap.size w W->Calls Tryz.prog fn #[.agg #[.string (bs x.name),.int .i64 x.at',.int .i64 x.len,.bool x.seen]] W fun e w'=>e=.returned (.bool (p x))/\Below W.heap.size W w') :
  Calls Tryz.prog 62 #[.slice a l.length cap,.int .i64 (most:Int),.func (.func fn) #[] #[]] w fun e w'=>e=.returned (.bool (Ob.allB p most l))/\Below w.heap.size w w':=by
 have hmf:=zm
 have hb0:Below w.heap.size w (w.alloc (.cells #[.func (.func fn) #[] #[]] 62)):=zb _ _
 by_cases hle:l.length<=most
 ·have hle':(l.length:Int)<=(most:Int):=by omega
  have HA:Hid (Ob.allB p most l=!(l.any fun x=>!p x)):=by show _=_;unfold Ob.allB;rw[decide_eq_true hle,Bool.true_and]
  have HC:=zh (containsGl (w:=w.alloc (.cells #[.func (.func fn) #[] #[]] 62)) (c:=.pointer (some ⟨w.heap.size,0,none⟩)) (p:=fun x=>!p x) (hS.below hb0) (by omega) cfGl (fun W x hx hW=>oneGl x ((hW.cell (p:=⟨w.heap.size,0,none⟩) (by simp)).trans ((zc (zw _ _)).trans rfl)) hcf (fun W' hW'=>hd W' x hx (hb0.trans ((hW.mono hb0.size).trans (hW'.mono (Nat.le_trans hb0.size hW.size)))))))
  have HB0:=zh hb0
  clear hS hd hcf hb0
  generalize Ob.allB p most l=r at *
  generalize (l.any fun x=>!p x)=d at *
  go_enter Tryz.func62,Tryz.ntmps62
  go_wp2_with fail
  refine HC.out.mono ?_
  rintro e w1 ⟨rfl,h1⟩
  have HB:=zh (HB0.out.trans (h1.mono HB0.out.size))
  clear h1
  go_wp2_with fail
  go_ret
  exact⟨by rw[HA.out];rfl,HB.out⟩
 ·have hle':(most:Int)<(l.length:Int):=by omega
  have HA:Hid (Ob.allB p most l=false):=by show _=_;unfold Ob.allB;rw[decide_eq_false hle];rfl
  have HB0:=zh hb0
  clear hS hd hcf hb0
  generalize Ob.allB p most l=r at *
  go_enter Tryz.func62,Tryz.ntmps62
  go_wp2_with fail
  go_ret
  exact⟨by rw[HA.out];rfl,HB0.out⟩
theorem cfEn (args:Array Value) (w:World):(callFunc 94 args).run Tryz.prog w=.ok (.enter 94 args) w:=by kernel_rfl
theorem oneEn {w:World}{fb:Nat}{fn:FuncId}{c:Value}(x:Ob.En) {d:Bool}(hk:w.cell? ⟨fb,0,none⟩=some (.func (.func fn) #[] #[c])) (hcf:∀(args:Array Value) (w:World),(callFunc fn args).run Tryz.prog w=.ok (.enter fn args) w)
  (hd:∀ W,Below w.heap.size w W->Calls Tryz.prog fn #[.agg #[.int .i64 x.at',.int .i64 x.args,.int .i64 x.locals],c] W fun e w'=>e=.returned (.bool d)/\Below W.heap.size W w') :
  Calls Tryz.prog 94 #[.agg #[.int .i64 x.at',.int .i64 x.args,.int .i64 x.locals],.pointer (some ⟨fb,0,none⟩)] w fun e w'=>e=.returned (.bool (!d))/\Below w.heap.size w w':=by
 have hfl:=zi hk
 have hb0:Below w.heap.size w (w.alloc (.cells #[.int .i64 x.at',.int .i64 x.args,.int .i64 x.locals] 98)):=zb _ _
 have HB0:=zh hb0
 have HC:=zh (hd _ hb0)
 clear hb0
 clear hd
 go_enter Tryz.func94,Tryz.ntmps94
 go_wp2_with fail
 refine HC.out.mono ?_
 rintro e w1 ⟨rfl,h1⟩
 have HB:=zh (HB0.out.trans (h1.mono HB0.out.size))
 clear h1
 go_wp2_with fail
 go_ret
 exact⟨rfl,HB.out⟩
theorem allEn {w:World}{a:Option Addr}{cap:Nat}{l:List Ob.En}{p:Ob.En->Bool}{fn:FuncId}{c:Value}(hS:Sl w (.slice a l.length cap) 3 l.length (cellsOf enC l)) (hn:l.length<=140737488355328) (most:Nat) (hm:most<=10000) (hcf:∀(args:Array Value) (w:World),(callFunc fn args).run Tryz.prog w=.ok (.enter fn args) w)
  (hd:∀ W (x:Ob.En),x∈l->Below w.heap.size w W->Calls Tryz.prog fn #[.agg #[.int .i64 x.at',.int .i64 x.args,.int .i64 x.locals],c] W fun e w'=>e=.returned (.bool (p x))/\Below W.heap.size W w') :
  Calls Tryz.prog 66 #[.slice a l.length cap,.int .i64 (most:Int),.func (.func fn) #[] #[c]] w fun e w'=>e=.returned (.bool (Ob.allB p most l))/\Below w.heap.size w w':=by
 have hmf:=zm
 have hb0:Below w.heap.size w (w.alloc (.cells #[.func (.func fn) #[] #[c]] 119)):=zb _ _
 by_cases hle:l.length<=most
 ·have hle':(l.length:Int)<=(most:Int):=by omega
  have HA:Hid (Ob.allB p most l=!(l.any fun x=>!p x)):=by show _=_;unfold Ob.allB;rw[decide_eq_true hle,Bool.true_and]
  have HC:=zh (containsEn (w:=w.alloc (.cells #[.func (.func fn) #[] #[c]] 119)) (c:=.pointer (some ⟨w.heap.size,0,none⟩)) (p:=fun x=>!p x) (hS.below hb0) (by omega) cfEn (fun W x hx hW=>oneEn x ((hW.cell (p:=⟨w.heap.size,0,none⟩) (by simp)).trans ((zc (zw _ _)).trans rfl)) hcf (fun W' hW'=>hd W' x hx (hb0.trans ((hW.mono hb0.size).trans (hW'.mono (Nat.le_trans hb0.size hW.size)))))))
  have HB0:=zh hb0
  clear hS hd hcf hb0
  generalize Ob.allB p most l=r at *
  generalize (l.any fun x=>!p x)=d at *
  go_enter Tryz.func66,Tryz.ntmps66
  go_wp2_with fail
  refine HC.out.mono ?_
  rintro e w1 ⟨rfl,h1⟩
  have HB:=zh (HB0.out.trans (h1.mono HB0.out.size))
  clear h1
  go_wp2_with fail
  go_ret
  exact⟨by rw[HA.out];rfl,HB.out⟩
 ·have hle':(most:Int)<(l.length:Int):=by omega
  have HA:Hid (Ob.allB p most l=false):=by show _=_;unfold Ob.allB;rw[decide_eq_false hle];rfl
  have HB0:=zh hb0
  clear hS hd hcf hb0
  generalize Ob.allB p most l=r at *
  go_enter Tryz.func66,Tryz.ntmps66
  go_wp2_with fail
  go_ret
  exact⟨by rw[HA.out];rfl,HB0.out⟩
theorem cfIn (args:Array Value) (w:World):(callFunc 97 args).run Tryz.prog w=.ok (.enter 97 args) w:=by kernel_rfl
theorem oneIn {w:World}{fb:Nat}{fn:FuncId}{c:Value}(x:Ob.In) {d:Bool}(hk:w.cell? ⟨fb,0,none⟩=some (.func (.func fn) #[] #[c])) (hcf:∀(args:Array Value) (w:World),(callFunc fn args).run Tryz.prog w=.ok (.enter fn args) w)
  (hd:∀ W,Below w.heap.size w W->Calls Tryz.prog fn #[.agg #[.int .i64 x.op,.int .i64 x.a,.int .i64 x.b],c] W fun e w'=>e=.returned (.bool d)/\Below W.heap.size W w') :
  Calls Tryz.prog 97 #[.agg #[.int .i64 x.op,.int .i64 x.a,.int .i64 x.b],.pointer (some ⟨fb,0,none⟩)] w fun e w'=>e=.returned (.bool (!d))/\Below w.heap.size w w':=by
 have hfl:=zi hk
 have hb0:Below w.heap.size w (w.alloc (.cells #[.int .i64 x.op,.int .i64 x.a,.int .i64 x.b] 68)):=zb _ _
 have HB0:=zh hb0
 have HC:=zh (hd _ hb0)
 clear hb0
 clear hd
 go_enter Tryz.func97,Tryz.ntmps97
 go_wp2_with fail
 refine HC.out.mono ?_
 rintro e w1 ⟨rfl,h1⟩
 have HB:=zh (HB0.out.trans (h1.mono HB0.out.size))
 clear h1
 go_wp2_with fail
 go_ret
 exact⟨rfl,HB.out⟩
theorem allIn {w:World}{a:Option Addr}{cap:Nat}{l:List Ob.In}{p:Ob.In->Bool}{fn:FuncId}{c:Value}(hS:Sl w (.slice a l.length cap) 3 l.length (cellsOf inC l)) (hn:l.length<=140737488355328) (most:Nat) (hm:most<=10000) (hcf:∀(args:Array Value) (w:World),(callFunc fn args).run Tryz.prog w=.ok (.enter fn args) w)
  (hd:∀ W (x:Ob.In),x∈l->Below w.heap.size w W->Calls Tryz.prog fn #[.agg #[.int .i64 x.op,.int .i64 x.a,.int .i64 x.b],c] W fun e w'=>e=.returned (.bool (p x))/\Below W.heap.size W w') :
  Calls Tryz.prog 68 #[.slice a l.length cap,.int .i64 (most:Int),.func (.func fn) #[] #[c]] w fun e w'=>e=.returned (.bool (Ob.allB p most l))/\Below w.heap.size w w':=by
 have hmf:=zm
 have hb0:Below w.heap.size w (w.alloc (.cells #[.func (.func fn) #[] #[c]] 124)):=zb _ _
 by_cases hle:l.length<=most
 ·have hle':(l.length:Int)<=(most:Int):=by omega
  have HA:Hid (Ob.allB p most l=!(l.any fun x=>!p x)):=by show _=_;unfold Ob.allB;rw[decide_eq_true hle,Bool.true_and]
  have HC:=zh (containsIn (w:=w.alloc (.cells #[.func (.func fn) #[] #[c]] 124)) (c:=.pointer (some ⟨w.heap.size,0,none⟩)) (p:=fun x=>!p x) (hS.below hb0) (by omega) cfIn (fun W x hx hW=>oneIn x ((hW.cell (p:=⟨w.heap.size,0,none⟩) (by simp)).trans ((zc (zw _ _)).trans rfl)) hcf (fun W' hW'=>hd W' x hx (hb0.trans ((hW.mono hb0.size).trans (hW'.mono (Nat.le_trans hb0.size hW.size)))))))
  have HB0:=zh hb0
  clear hS hd hcf hb0
  generalize Ob.allB p most l=r at *
  generalize (l.any fun x=>!p x)=d at *
  go_enter Tryz.func68,Tryz.ntmps68
  go_wp2_with fail
  refine HC.out.mono ?_
  rintro e w1 ⟨rfl,h1⟩
  have HB:=zh (HB0.out.trans (h1.mono HB0.out.size))
  clear h1
  go_wp2_with fail
  go_ret
  exact⟨by rw[HA.out];rfl,HB.out⟩
 ·have hle':(most:Int)<(l.length:Int):=by omega
  have HA:Hid (Ob.allB p most l=false):=by show _=_;unfold Ob.allB;rw[decide_eq_false hle];rfl
  have HB0:=zh hb0
  clear hS hd hcf hb0
  generalize Ob.allB p most l=r at *
  go_enter Tryz.func68,Tryz.ntmps68
  go_wp2_with fail
  go_ret
  exact⟨by rw[HA.out];rfl,HB0.out⟩
theorem cfUs (args:Array Value) (w:World):(callFunc 91 args).run Tryz.prog w=.ok (.enter 91 args) w:=by kernel_rfl
theorem oneUs {w:World}{fb:Nat}{fn:FuncId}{c:Value}(x:Ob.Us) (na:Option Addr) (nc:Nat) {d:Bool}(hk:w.cell? ⟨fb,0,none⟩=some (.func (.func fn) #[] #[c])) (hcf:∀(args:Array Value) (w:World),(callFunc fn args).run Tryz.prog w=.ok (.enter fn args) w)
  (hd:∀ W,Below w.heap.size w W->Calls Tryz.prog fn #[.agg #[.string (bs x.name),.string (bs x.need),.slice na x.names.length nc],c] W fun e w'=>e=.returned (.bool d)/\Below W.heap.size W w') :
  Calls Tryz.prog 91 #[.agg #[.string (bs x.name),.string (bs x.need),.slice na x.names.length nc],.pointer (some ⟨fb,0,none⟩)] w fun e w'=>e=.returned (.bool (!d))/\Below w.heap.size w w':=by
 have hfl:=zi hk
 have hb0:Below w.heap.size w (w.alloc (.cells #[.string (bs x.name),.string (bs x.need),.slice na x.names.length nc] 65)):=zb _ _
 have HB0:=zh hb0
 have HC:=zh (hd _ hb0)
 clear hb0
 clear hd
 go_enter Tryz.func91,Tryz.ntmps91
 go_wp2_with fail
 refine HC.out.mono ?_
 rintro e w1 ⟨rfl,h1⟩
 have HB:=zh (HB0.out.trans (h1.mono HB0.out.size))
 clear h1
 go_wp2_with fail
 go_ret
 exact⟨rfl,HB.out⟩
theorem allUs {w:World}{a:Option Addr}{cap:Nat}{l:List Ob.Us}{p:Ob.Us->Bool}{fn:FuncId}{c:Value}{ucs:List Value}(hU:RepN w l ucs) (hS:Sl w (.slice a l.length cap) 3 l.length ucs) (hn:l.length<=140737488355328) (most:Nat) (hm:most<=10000) (hcf:∀(args:Array Value) (w:World),(callFunc fn args).run Tryz.prog w=.ok (.enter fn args) w)
  (hd:∀ W (x:Ob.Us) na nc,x∈l->Below w.heap.size w W->Sl W (.slice na x.names.length nc) 1 x.names.length (cellsOf stC x.names)->Calls Tryz.prog fn #[.agg #[.string (bs x.name),.string (bs x.need),.slice na x.names.length nc],c] W fun e w'=>e=.returned (.bool (p x))/\Below W.heap.size W w') :
  Calls Tryz.prog 61 #[.slice a l.length cap,.int .i64 (most:Int),.func (.func fn) #[] #[c]] w fun e w'=>e=.returned (.bool (Ob.allB p most l))/\Below w.heap.size w w':=by
 have hmf:=zm
 have hb0:Below w.heap.size w (w.alloc (.cells #[.func (.func fn) #[] #[c]] 66)):=zb _ _
 by_cases hle:l.length<=most
 ·have hle':(l.length:Int)<=(most:Int):=by omega
  have HA:Hid (Ob.allB p most l=!(l.any fun x=>!p x)):=by show _=_;unfold Ob.allB;rw[decide_eq_true hle,Bool.true_and]
  have HC:=zh (containsUs (w:=w.alloc (.cells #[.func (.func fn) #[] #[c]] 66)) (c:=.pointer (some ⟨w.heap.size,0,none⟩)) (p:=fun x=>!p x) (RepN.below hb0 _ _ hU) (hS.below hb0) (by omega) cfUs (fun W x na nc hx hW hs=>oneUs x na nc ((hW.cell (p:=⟨w.heap.size,0,none⟩) (by simp)).trans ((zc (zw _ _)).trans rfl)) hcf (fun W' hW'=>hd W' x na nc hx (hb0.trans ((hW.mono hb0.size).trans (hW'.mono (Nat.le_trans hb0.size hW.size)))) ((hs.below hW).below hW'))))
  have HB0:=zh hb0
  clear hS hd hcf hb0 hU
  generalize Ob.allB p most l=r at *
  generalize (l.any fun x=>!p x)=d at *
  go_enter Tryz.func61,Tryz.ntmps61
  go_wp2_with fail
  refine HC.out.mono ?_
  rintro e w1 ⟨rfl,h1⟩
  have HB:=zh (HB0.out.trans (h1.mono HB0.out.size))
  clear h1
  go_wp2_with fail
  go_ret
  exact⟨by rw[HA.out];rfl,HB.out⟩
 ·have hle':(most:Int)<(l.length:Int):=by omega
  have HA:Hid (Ob.allB p most l=false):=by show _=_;unfold Ob.allB;rw[decide_eq_false hle];rfl
  have HB0:=zh hb0
  clear hS hd hcf hb0 hU
  generalize Ob.allB p most l=r at *
  go_enter Tryz.func61,Tryz.ntmps61
  go_wp2_with fail
  go_ret
  exact⟨by rw[HA.out];rfl,HB0.out⟩
end Go.Proofs.YtmnedfdffbbchaaGreatDoor.Jo
