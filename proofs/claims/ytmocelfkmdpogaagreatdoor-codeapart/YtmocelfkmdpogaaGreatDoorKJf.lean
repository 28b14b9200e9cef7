import Derived.Test.YtmocelfkmdpogaaGreatDoorKJe
import Derived.Test.YtmocelfkmdpogaaGreatDoorKJa
set_option maxRecDepth 100000
set_option maxHeartbeats 4000000
namespace Go.Proofs.YtmocelfkmdpogaaGreatDoor.Jo
open Go.RowKit
open Ob (Bs)
theorem indexStr {w:World}{a:Option Addr}{cap:Nat}{l:List Bs}{p:Bs->Bool}{fn:FuncId}{c:Value}(hS:Sl w (.slice a l.length cap) 1 l.length (cellsOf stC l)) (hn:l.length<=1000000) (hcf:∀(args:Array Value) (w:World),(callFunc fn args).run Tryz.prog w=.ok (.enter fn args) w)
  (hd:∀ W (x:Bs),x∈l->Below w.heap.size w W->Calls Tryz.prog fn #[.string (bs x),c] W fun e w'=>e=.returned (.bool (p x))/\Below W.heap.size W w') :
  Calls Tryz.prog 47 #[.slice a l.length cap,.func (.func fn) #[] #[c]] w fun e w'=>(∃ k:Int,e=.returned (.int .i64 k)/\(decide (0<=k)=l.any p))/\Below w.heap.size w w':=by
 have hn':(l.length:Int)<=1000000:=by omega
 have HSL:=Lib.hid hS
 have HD:=Lib.hid hd
 clear hS hd
 go_enter Tryz.func47,Tryz.ntmps47
 go_wp2_with fail
 go_loopg [8] l.length (fun k vi wr=>∃ i:Nat,i<=l.length/\k=l.length - i/\vi=.int .i64 (i:Int)/\Hid ((l.take i).any p=false)/\Hid (Below w.heap.size w wr))
 case atStart=>exact⟨0,by omega,by omega,rfl,rfl,Below.refl _ _⟩
 case round =>
  obtain⟨i,hid,hk,rfl,HI,HW⟩:=hrel
  by_cases hlt:i<l.length
  ·have hlt':(i:Int)<(l.length:Int):=by omega
   obtain⟨g,go,rfl,hgl,hcell⟩:=HSL.out.at' stC_len (by omega) i hlt
   have hc0:=hcell 0 _ rfl
   rw[Nat.mul_one,Nat.add_zero]at hc0
   have e0:wr.cell? ⟨g,go+i,none⟩=some (.string (bs l[i])):=(HW.out.cell (p:=⟨g,go+i,none⟩) hgl).trans hc0
   clear hc0
   have hbl':g<wr.heap.size:=zc e0
   have HF:=Lib.hid (HD.out wr l[i] (List.getElem_mem hlt) HW.out)
   clear hcell
   have HNX:Hid ((l.take (i+1)).any p=p l[i]):=by
    show _=_
    rw[List.take_succ_eq_append_getElem hlt,List.any_append,HI.out];simp
   have HAN:Hid (p l[i]=true->l.any p=true):=fun e=>List.any_eq_true.2 ⟨_,List.getElem_mem hlt,e⟩
   generalize p l[i]=d at *
   generalize l[i]=x at *
   clear HI
   go_wp2_with fail
   refine HF.out.mono ?_
   rintro e w3 ⟨rfl,h3⟩
   have HW3:=Lib.hid (HW.out.trans (h3.mono HW.out.size))
   clear h3
   cases d with
   | true =>
    have HE:=Lib.hid (HAN.out rfl)
    go_wp2_with fail
    go_ret
    refine⟨⟨_,rfl,?_⟩,HW3.out⟩
    rw[HE.out]
    exact decide_eq_true (by omega)
   | false =>
    go_wp2_with fail
    go_roundg (l.length - (i+1))
    case measure=>omega
    case rel=>exact⟨i+1,by omega,rfl,by go_num,HNX,HW3⟩
  ·have hlt':¬(i:Int)<(l.length:Int):=by omega
   have HE:Hid (l.any p=false):=by
    have:=HI.out
    rw[List.take_of_length_le (by omega)]at this
    exact this
   go_wp2_with fail
   go_ret
   refine⟨⟨_,rfl,?_⟩,HW.out⟩
   rw[HE.out]
   rfl
theorem containsStr {w:World}{a:Option Addr}{cap:Nat}{l:List Bs}{p:Bs->Bool}{fn:FuncId}{c:Value}(hS:Sl w (.slice a l.length cap) 1 l.length (cellsOf stC l)) (hn:l.length<=1000000) (hcf:∀(args:Array Value) (w:World),(callFunc fn args).run Tryz.prog w=.ok (.enter fn args) w)
  (hd:∀ W (x:Bs),x∈l->Below w.heap.size w W->Calls Tryz.prog fn #[.string (bs x),c] W fun e w'=>e=.returned (.bool (p x))/\Below W.heap.size W w') :
  Calls Tryz.prog 16 #[.slice a l.length cap,.func (.func fn) #[] #[c]] w fun e w'=>e=.returned (.bool (l.any p))/\Below w.heap.size w w':=by
 have HC:=Lib.hid (indexStr hS hn hcf hd)
 clear hS hd hcf
 go_enter Tryz.func16,Tryz.ntmps16
 go_wp2_with fail
 refine HC.out.mono ?_
 rintro e w1 ⟨⟨k,rfl,hk⟩,hb⟩
 have HK:=Lib.hid hk
 clear hk
 go_wp2_with fail
 go_ret
 exact⟨by rw[<-HK.out];rfl,hb⟩
theorem indexSym {w:World}{a:Option Addr}{cap:Nat}{l:List Ob.Sm}{p:Ob.Sm->Bool}{fn:FuncId}{c:Value}(hS:Sl w (.slice a l.length cap) 3 l.length (cellsOf smC l)) (hn:l.length<=1000000) (hcf:∀(args:Array Value) (w:World),(callFunc fn args).run Tryz.prog w=.ok (.enter fn args) w)
  (hd:∀ W (x:Ob.Sm),x∈l->Below w.heap.size w W->Calls Tryz.prog fn #[.agg #[.string (bs x.name),.int .i64 x.len,.int .i64 x.args],c] W fun e w'=>e=.returned (.bool (p x))/\Below W.heap.size W w') :
  Calls Tryz.prog 42 #[.slice a l.length cap,.func (.func fn) #[] #[c]] w fun e w'=>(∃ k:Int,e=.returned (.int .i64 k)/\(decide (0<=k)=l.any p))/\Below w.heap.size w w':=by
 have hn':(l.length:Int)<=1000000:=by omega
 have HSL:=Lib.hid hS
 have HD:=Lib.hid hd
 clear hS hd
 go_enter Tryz.func42,Tryz.ntmps42
 go_wp2_with fail
 go_loopg [8] l.length (fun k vi wr=>∃ i:Nat,i<=l.length/\k=l.length - i/\vi=.int .i64 (i:Int)/\Hid ((l.take i).any p=false)/\Hid (Below w.heap.size w wr))
 case atStart=>exact⟨0,by omega,by omega,rfl,rfl,Below.refl _ _⟩
 case round =>
  obtain⟨i,hid,hk,rfl,HI,HW⟩:=hrel
  by_cases hlt:i<l.length
  ·have hlt':(i:Int)<(l.length:Int):=by omega
   obtain⟨g,go,rfl,hgl,hcell⟩:=HSL.out.at' smC_len (by omega) i hlt
   have e0:wr.cell? ⟨g,go+i * 3,none⟩=some (.string (bs l[i].name)):=(HW.out.cell (p:=⟨g,go+i * 3,none⟩) hgl).trans (hcell 0 _ rfl)
   have e1:wr.cell? ⟨g,go+i * 3+1,none⟩=some (.int .i64 l[i].len):=(HW.out.cell (p:=⟨g,go+i * 3+1,none⟩) hgl).trans (hcell 1 _ rfl)
   have e2:wr.cell? ⟨g,go+i * 3+2,none⟩=some (.int .i64 l[i].args):=(HW.out.cell (p:=⟨g,go+i * 3+2,none⟩) hgl).trans (hcell 2 _ rfl)
   have hbl':g<wr.heap.size:=zc e0
   have HF:=Lib.hid (HD.out wr l[i] (List.getElem_mem hlt) HW.out)
   clear hcell
   have HNX:Hid ((l.take (i+1)).any p=p l[i]):=by
    show _=_
    rw[List.take_succ_eq_append_getElem hlt,List.any_append,HI.out];simp
   have HAN:Hid (p l[i]=true->l.any p=true):=fun e=>List.any_eq_true.2 ⟨_,List.getElem_mem hlt,e⟩
   generalize p l[i]=d at *
   generalize l[i]=x at *
   clear HI
   go_wp2_with fail
   refine HF.out.mono ?_
   rintro e w3 ⟨rfl,h3⟩
   have HW3:=Lib.hid (HW.out.trans (h3.mono HW.out.size))
   clear h3
   cases d with
   | true =>
    have HE:=Lib.hid (HAN.out rfl)
    go_wp2_with fail
    go_ret
    refine⟨⟨_,rfl,?_⟩,HW3.out⟩
    rw[HE.out]
    exact decide_eq_true (by omega)
   | false =>
    go_wp2_with fail
    go_roundg (l.length - (i+1))
    case measure=>omega
    case rel=>exact⟨i+1,by omega,rfl,by go_num,HNX,HW3⟩
  ·have hlt':¬(i:Int)<(l.length:Int):=by omega
   have HE:Hid (l.any p=false):=by
    have:=HI.out
    rw[List.take_of_length_le (by omega)]at this
    exact this
   go_wp2_with fail
   go_ret
   refine⟨⟨_,rfl,?_⟩,HW.out⟩
   rw[HE.out]
   rfl
theorem containsSym {w:World}{a:Option Addr}{cap:Nat}{l:List Ob.Sm}{p:Ob.Sm->Bool}{fn:FuncId}{c:Value}(hS:Sl w (.slice a l.length cap) 3 l.length (cellsOf smC l)) (hn:l.length<=1000000) (hcf:∀(args:Array Value) (w:World),(callFunc fn args).run Tryz.prog w=.ok (.enter fn args) w)
  (hd:∀ W (x:Ob.Sm),x∈l->Below w.heap.size w W->Calls Tryz.prog fn #[.agg #[.string (bs x.name),.int .i64 x.len,.int .i64 x.args],c] W fun e w'=>e=.returned (.bool (p x))/\Below W.heap.size W w') :
  Calls Tryz.prog 168 #[.slice a l.length cap,.func (.func fn) #[] #[c]] w fun e w'=>e=.returned (.bool (l.any p))/\Below w.heap.size w w':=by
 have HC:=Lib.hid (indexSym hS hn hcf hd)
 clear hS hd hcf
 go_enter Tryz.func168,Tryz.ntmps168
 go_wp2_with fail
 refine HC.out.mono ?_
 rintro e w1 ⟨⟨k,rfl,hk⟩,hb⟩
 have HK:=Lib.hid hk
 clear hk
 go_wp2_with fail
 go_ret
 exact⟨by rw[<-HK.out];rfl,hb⟩
theorem indexGl {w:World}{a:Option Addr}{cap:Nat}{l:List Ob.Gl}{p:Ob.Gl->Bool}{fn:FuncId}{c:Value}(hS:Sl w (.slice a l.length cap) 4 l.length (cellsOf glC l)) (hn:l.length<=1000000) (hcf:∀(args:Array Value) (w:World),(callFunc fn args).run Tryz.prog w=.ok (.enter fn args) w)
  (hd:∀ W (x:Ob.Gl),x∈l->Below w.heap.size w W->Calls Tryz.prog fn #[.agg #[.string (bs x.name),.int .i64 x.at',.int .i64 x.len,.bool x.seen],c] W fun e w'=>e=.returned (.bool (p x))/\Below W.heap.size W w') :
  Calls Tryz.prog 197 #[.slice a l.length cap,.func (.func fn) #[] #[c]] w fun e w'=>(∃ k:Int,e=.returned (.int .i64 k)/\(decide (0<=k)=l.any p))/\Below w.heap.size w w':=by
 have hn':(l.length:Int)<=1000000:=by omega
 have HSL:=Lib.hid hS
 have HD:=Lib.hid hd
 clear hS hd
 go_enter Tryz.func197,Tryz.ntmps197
 go_wp2_with fail
 go_loopg [8] l.length (fun k vi wr=>∃ i:Nat,i<=l.length/\k=l.length - i/\vi=.int .i64 (i:Int)/\Hid ((l.take i).any p=false)/\Hid (Below w.heap.size w wr))
 case atStart=>exact⟨0,by omega,by omega,rfl,rfl,Below.refl _ _⟩
 case round =>
  obtain⟨i,hid,hk,rfl,HI,HW⟩:=hrel
  by_cases hlt:i<l.length
  ·have hlt':(i:Int)<(l.length:Int):=by omega
   obtain⟨g,go,rfl,hgl,hcell⟩:=HSL.out.at' glC_len (by omega) i hlt
   have e0:wr.cell? ⟨g,go+i * 4,none⟩=some (.string (bs l[i].name)):=(HW.out.cell (p:=⟨g,go+i * 4,none⟩) hgl).trans (hcell 0 _ rfl)
   have e1:wr.cell? ⟨g,go+i * 4+1,none⟩=some (.int .i64 l[i].at'):=(HW.out.cell (p:=⟨g,go+i * 4+1,none⟩) hgl).trans (hcell 1 _ rfl)
   have e2:wr.cell? ⟨g,go+i * 4+2,none⟩=some (.int .i64 l[i].len):=(HW.out.cell (p:=⟨g,go+i * 4+2,none⟩) hgl).trans (hcell 2 _ rfl)
   have e3:wr.cell? ⟨g,go+i * 4+3,none⟩=some (.bool l[i].seen):=(HW.out.cell (p:=⟨g,go+i * 4+3,none⟩) hgl).trans (hcell 3 _ rfl)
   have hbl':g<wr.heap.size:=zc e0
   have HF:=Lib.hid (HD.out wr l[i] (List.getElem_mem hlt) HW.out)
   clear hcell
   have HNX:Hid ((l.take (i+1)).any p=p l[i]):=by
    show _=_
    rw[List.take_succ_eq_append_getElem hlt,List.any_append,HI.out];simp
   have HAN:Hid (p l[i]=true->l.any p=true):=fun e=>List.any_eq_true.2 ⟨_,List.getElem_mem hlt,e⟩
   generalize p l[i]=d at *
   generalize l[i]=x at *
   clear HI
   go_wp2_with fail
   refine HF.out.mono ?_
   rintro e w3 ⟨rfl,h3⟩
   have HW3:=Lib.hid (HW.out.trans (h3.mono HW.out.size))
   clear h3
   cases d with
   | true =>
    have HE:=Lib.hid (HAN.out rfl)
    go_wp2_with fail
    go_ret
    refine⟨⟨_,rfl,?_⟩,HW3.out⟩
    rw[HE.out]
    exact decide_eq_true (by omega)
   | false =>
    go_wp2_with fail
    go_roundg (l.length - (i+1))
    case measure=>omega
    case rel=>exact⟨i+1,by omega,rfl,by go_num,HNX,HW3⟩
  ·have hlt':¬(i:Int)<(l.length:Int):=by omega
   have HE:Hid (l.any p=false):=by
    have:=HI.out
    rw[List.take_of_length_le (by omega)]at this
    exact this
   go_wp2_with fail
   go_ret
   refine⟨⟨_,rfl,?_⟩,HW.out⟩
   rw[HE.out]
   rfl
theorem containsGl {w:World}{a:Option Addr}{cap:Nat}{l:List Ob.Gl}{p:Ob.Gl->Bool}{fn:FuncId}{c:Value}(hS:Sl w (.slice a l.length cap) 4 l.length (cellsOf glC l)) (hn:l.length<=1000000) (hcf:∀(args:Array Value) (w:World),(callFunc fn args).run Tryz.prog w=.ok (.enter fn args) w)
  (hd:∀ W (x:Ob.Gl),x∈l->Below w.heap.size w W->Calls Tryz.prog fn #[.agg #[.string (bs x.name),.int .i64 x.at',.int .i64 x.len,.bool x.seen],c] W fun e w'=>e=.returned (.bool (p x))/\Below W.heap.size W w') :
  Calls Tryz.prog 173 #[.slice a l.length cap,.func (.func fn) #[] #[c]] w fun e w'=>e=.returned (.bool (l.any p))/\Below w.heap.size w w':=by
 have HC:=Lib.hid (indexGl hS hn hcf hd)
 clear hS hd hcf
 go_enter Tryz.func173,Tryz.ntmps173
 go_wp2_with fail
 refine HC.out.mono ?_
 rintro e w1 ⟨⟨k,rfl,hk⟩,hb⟩
 have HK:=Lib.hid hk
 clear hk
 go_wp2_with fail
 go_ret
 exact⟨by rw[<-HK.out];rfl,hb⟩
theorem indexEn {w:World}{a:Option Addr}{cap:Nat}{l:List Ob.En}{p:Ob.En->Bool}{fn:FuncId}{c:Value}(hS:Sl w (.slice a l.length cap) 3 l.length (cellsOf enC l)) (hn:l.length<=1000000) (hcf:∀(args:Array Value) (w:World),(callFunc fn args).run Tryz.prog w=.ok (.enter fn args) w)
  (hd:∀ W (x:Ob.En),x∈l->Below w.heap.size w W->Calls Tryz.prog fn #[.agg #[.int .i64 x.at',.int .i64 x.args,.int .i64 x.locals],c] W fun e w'=>e=.returned (.bool (p x))/\Below W.heap.size W w') :
  Calls Tryz.prog 198 #[.slice a l.length cap,.func (.func fn) #[] #[c]] w fun e w'=>(∃ k:Int,e=.returned (.int .i64 k)/\(decide (0<=k)=l.any p))/\Below w.heap.size w w':=by
 have hn':(l.length:Int)<=1000000:=by omega
 have HSL:=Lib.hid hS
 have HD:=Lib.hid hd
 clear hS hd
 go_enter Tryz.func198,Tryz.ntmps198
 go_wp2_with fail
 go_loopg [8] l.length (fun k vi wr=>∃ i:Nat,i<=l.length/\k=l.length - i/\vi=.int .i64 (i:Int)/\Hid ((l.take i).any p=false)/\Hid (Below w.heap.size w wr))
 case atStart=>exact⟨0,by omega,by omega,rfl,rfl,Below.refl _ _⟩
 case round =>
  obtain⟨i,hid,hk,rfl,HI,HW⟩:=hrel
  by_cases hlt:i<l.length
  ·have hlt':(i:Int)<(l.length:Int):=by omega
   obtain⟨g,go,rfl,hgl,hcell⟩:=HSL.out.at' enC_len (by omega) i hlt
   have e0:wr.cell? ⟨g,go+i * 3,none⟩=some (.int .i64 l[i].at'):=(HW.out.cell (p:=⟨g,go+i * 3,none⟩) hgl).trans (hcell 0 _ rfl)
   have e1:wr.cell? ⟨g,go+i * 3+1,none⟩=some (.int .i64 l[i].args):=(HW.out.cell (p:=⟨g,go+i * 3+1,none⟩) hgl).trans (hcell 1 _ rfl)
   have e2:wr.cell? ⟨g,go+i * 3+2,none⟩=some (.int .i64 l[i].locals):=(HW.out.cell (p:=⟨g,go+i * 3+2,none⟩) hgl).trans (hcell 2 _ rfl)
   have hbl':g<wr.heap.size:=zc e0
   have HF:=Lib.hid (HD.out wr l[i] (List.getElem_mem hlt) HW.out)
   clear hcell
   have HNX:Hid ((l.take (i+1)).any p=p l[i]):=by
    show _=_
    rw[List.take_succ_eq_append_getElem hlt,List.any_append,HI.out];simp
   have HAN:Hid (p l[i]=true->l.any p=true):=fun e=>List.any_eq_true.2 ⟨_,List.getElem_mem hlt,e⟩
   generalize p l[i]=d at *
   generalize l[i]=x at *
   clear HI
   go_wp2_with fail
   refine HF.out.mono ?_
   rintro e w3 ⟨rfl,h3⟩
   have HW3:=Lib.hid (HW.out.trans (h3.mono HW.out.size))
   clear h3
   cases d with
   | true =>
    have HE:=Lib.hid (HAN.out rfl)
    go_wp2_with fail
    go_ret
    refine⟨⟨_,rfl,?_⟩,HW3.out⟩
    rw[HE.out]
    exact decide_eq_true (by omega)
   | false =>
    go_wp2_with fail
    go_roundg (l.length - (i+1))
    case measure=>omega
    case rel=>exact⟨i+1,by omega,rfl,by go_num,HNX,HW3⟩
  ·have hlt':¬(i:Int)<(l.length:Int):=by omega
   have HE:Hid (l.any p=false):=by
    have:=HI.out
    rw[List.take_of_length_le (by omega)]at this
    exact this
   go_wp2_with fail
   go_ret
   refine⟨⟨_,rfl,?_⟩,HW.out⟩
   rw[HE.out]
   rfl
theorem containsEn {w:World}{a:Option Addr}{cap:Nat}{l:List Ob.En}{p:Ob.En->Bool}{fn:FuncId}{c:Value}(hS:Sl w (.slice a l.length cap) 3 l.length (cellsOf enC l)) (hn:l.length<=1000000) (hcf:∀(args:Array Value) (w:World),(callFunc fn args).run Tryz.prog w=.ok (.enter fn args) w)
  (hd:∀ W (x:Ob.En),x∈l->Below w.heap.size w W->Calls Tryz.prog fn #[.agg #[.int .i64 x.at',.int .i64 x.args,.int .i64 x.locals],c] W fun e w'=>e=.returned (.bool (p x))/\Below W.heap.size W w') :
  Calls Tryz.prog 175 #[.slice a l.length cap,.func (.func fn) #[] #[c]] w fun e w'=>e=.returned (.bool (l.any p))/\Below w.heap.size w w':=by
 have HC:=Lib.hid (indexEn hS hn hcf hd)
 clear hS hd hcf
 go_enter Tryz.func175,Tryz.ntmps175
 go_wp2_with fail
 refine HC.out.mono ?_
 rintro e w1 ⟨⟨k,rfl,hk⟩,hb⟩
 have HK:=Lib.hid hk
 clear hk
 go_wp2_with fail
 go_ret
 exact⟨by rw[<-HK.out];rfl,hb⟩
theorem indexIn {w:World}{a:Option Addr}{cap:Nat}{l:List Ob.In}{p:Ob.In->Bool}{fn:FuncId}{c:Value}(hS:Sl w (.slice a l.length cap) 3 l.length (cellsOf inC l)) (hn:l.length<=1000000) (hcf:∀(args:Array Value) (w:World),(callFunc fn args).run Tryz.prog w=.ok (.enter fn args) w)
  (hd:∀ W (x:Ob.In),x∈l->Below w.heap.size w W->Calls Tryz.prog fn #[.agg #[.int .i64 x.op,.int .i64 x.a,.int .i64 x.b],c] W fun e w'=>e=.returned (.bool (p x))/\Below W.heap.size W w') :
  Calls Tryz.prog 199 #[.slice a l.length cap,.func (.func fn) #[] #[c]] w fun e w'=>(∃ k:Int,e=.returned (.int .i64 k)/\(decide (0<=k)=l.any p))/\Below w.heap.size w w':=by
 have hn':(l.length:Int)<=1000000:=by omega
 have HSL:=Lib.hid hS
 have HD:=Lib.hid hd
 clear hS hd
 go_enter Tryz.func199,Tryz.ntmps199
 go_wp2_with fail
 go_loopg [8] l.length (fun k vi wr=>∃ i:Nat,i<=l.length/\k=l.length - i/\vi=.int .i64 (i:Int)/\Hid ((l.take i).any p=false)/\Hid (Below w.heap.size w wr))
 case atStart=>exact⟨0,by omega,by omega,rfl,rfl,Below.refl _ _⟩
 case round =>
  obtain⟨i,hid,hk,rfl,HI,HW⟩:=hrel
  by_cases hlt:i<l.length
  ·have hlt':(i:Int)<(l.length:Int):=by omega
   obtain⟨g,go,rfl,hgl,hcell⟩:=HSL.out.at' vt (by omega) i hlt
   have e0:wr.cell? ⟨g,go+i * 3,none⟩=some (.int .i64 l[i].op):=(HW.out.cell (p:=⟨g,go+i * 3,none⟩) hgl).trans (hcell 0 _ rfl)
   have e1:wr.cell? ⟨g,go+i * 3+1,none⟩=some (.int .i64 l[i].a):=(HW.out.cell (p:=⟨g,go+i * 3+1,none⟩) hgl).trans (hcell 1 _ rfl)
   have e2:wr.cell? ⟨g,go+i * 3+2,none⟩=some (.int .i64 l[i].b):=(HW.out.cell (p:=⟨g,go+i * 3+2,none⟩) hgl).trans (hcell 2 _ rfl)
   have hbl':g<wr.heap.size:=zc e0
   have HF:=Lib.hid (HD.out wr l[i] (List.getElem_mem hlt) HW.out)
   clear hcell
   have HNX:Hid ((l.take (i+1)).any p=p l[i]):=by
    show _=_
    rw[List.take_succ_eq_append_getElem hlt,List.any_append,HI.out];simp
   have HAN:Hid (p l[i]=true->l.any p=true):=fun e=>List.any_eq_true.2 ⟨_,List.getElem_mem hlt,e⟩
   generalize p l[i]=d at *
   generalize l[i]=x at *
   clear HI
   go_wp2_with fail
   refine HF.out.mono ?_
   rintro e w3 ⟨rfl,h3⟩
   have HW3:=Lib.hid (HW.out.trans (h3.mono HW.out.size))
   clear h3
   cases d with
   | true =>
    have HE:=Lib.hid (HAN.out rfl)
    go_wp2_with fail
    go_ret
    refine⟨⟨_,rfl,?_⟩,HW3.out⟩
    rw[HE.out]
    exact decide_eq_true (by omega)
   | false =>
    go_wp2_with fail
    go_roundg (l.length - (i+1))
    case measure=>omega
    case rel=>exact⟨i+1,by omega,rfl,by go_num,HNX,HW3⟩
  ·have hlt':¬(i:Int)<(l.length:Int):=by omega
   have HE:Hid (l.any p=false):=by
    have:=HI.out
    rw[List.take_of_length_le (by omega)]at this
    exact this
   go_wp2_with fail
   go_ret
   refine⟨⟨_,rfl,?_⟩,HW.out⟩
   rw[HE.out]
   rfl
theorem containsIn {w:World}{a:Option Addr}{cap:Nat}{l:List Ob.In}{p:Ob.In->Bool}{fn:FuncId}{c:Value}(hS:Sl w (.slice a l.length cap) 3 l.length (cellsOf inC l)) (hn:l.length<=1000000) (hcf:∀(args:Array Value) (w:World),(callFunc fn args).run Tryz.prog w=.ok (.enter fn args) w)
  (hd:∀ W (x:Ob.In),x∈l->Below w.heap.size w W->Calls Tryz.prog fn #[.agg #[.int .i64 x.op,.int .i64 x.a,.int .i64 x.b],c] W fun e w'=>e=.returned (.bool (p x))/\Below W.heap.size W w') :
  Calls Tryz.prog 178 #[.slice a l.length cap,.func (.func fn) #[] #[c]] w fun e w'=>e=.returned (.bool (l.any p))/\Below w.heap.size w w':=by
 have HC:=Lib.hid (indexIn hS hn hcf hd)
 clear hS hd hcf
 go_enter Tryz.func178,Tryz.ntmps178
 go_wp2_with fail
 refine HC.out.mono ?_
 rintro e w1 ⟨⟨k,rfl,hk⟩,hb⟩
 have HK:=Lib.hid hk
 clear hk
 go_wp2_with fail
 go_ret
 exact⟨by rw[<-HK.out];rfl,hb⟩
theorem indexUs {w:World}{ua:Option Addr}{cap:Nat}{l:List Ob.Us}{p:Ob.Us->Bool}{fn:FuncId}{c:Value}{ucs:List Value}(hU:RepN w l ucs) (hS:Sl w (.slice ua l.length cap) 3 l.length ucs) (hn:l.length<=1000000) (hcf:∀(args:Array Value) (w:World),(callFunc fn args).run Tryz.prog w=.ok (.enter fn args) w)
  (hd:∀ W (x:Ob.Us) na nc,x∈l->Below w.heap.size w W->Sl w (.slice na x.names.length nc) 1 x.names.length (cellsOf stC x.names)->Calls Tryz.prog fn #[.agg #[.string (bs x.name),.string (bs x.need),.slice na x.names.length nc],c] W fun e w'=>e=.returned (.bool (p x))/\Below W.heap.size W w') :
  Calls Tryz.prog 196 #[.slice ua l.length cap,.func (.func fn) #[] #[c]] w fun e w'=>(∃ k:Int,e=.returned (.int .i64 k)/\(decide (0<=k)=l.any p))/\Below w.heap.size w w':=by
 have hn':(l.length:Int)<=1000000:=by omega
 have HSL:=Lib.hid hS
 have HD:=Lib.hid hd
 have HU:=Lib.hid hU
 clear hS hd
 go_enter Tryz.func196,Tryz.ntmps196
 go_wp2_with fail
 go_loopg [8] l.length (fun k vi wr=>∃ i:Nat,i<=l.length/\k=l.length - i/\vi=.int .i64 (i:Int)/\Hid ((l.take i).any p=false)/\Hid (Below w.heap.size w wr))
 case atStart=>exact⟨0,by omega,by omega,rfl,rfl,Below.refl _ _⟩
 case round =>
  obtain⟨i,hid,hk,rfl,HI,HW⟩:=hrel
  by_cases hlt:i<l.length
  ·have hlt':(i:Int)<(l.length:Int):=by omega
   obtain⟨na',nc',q0,q1,q2,q3⟩:=RepN.get _ _ HU.out i hlt
   obtain⟨a0,c0',hsl0,_,hall⟩:=HSL.out
   cases hsl0
   obtain⟨g,go,rfl,hg0⟩:=hall _ _ q0
   have hgl:=zc hg0
   have e0:wr.cell? ⟨g,go+i * 3,none⟩=some (.string (bs l[i].name)):=(HW.out.cell (p:=⟨g,go+i * 3,none⟩) hgl).trans hg0
   have e1:wr.cell? ⟨g,go+i * 3+1,none⟩=some (.string (bs l[i].need)):=by
    obtain⟨g',go',he,hg1⟩:=hall _ _ q1
    cases he
    exact(HW.out.cell (p:=⟨g,go+i * 3+1,none⟩) hgl).trans hg1
   have e2:wr.cell? ⟨g,go+i * 3+2,none⟩=some (.slice na' l[i].names.length nc'):=by
    obtain⟨g',go',he,hg1⟩:=hall _ _ q2
    cases he
    exact(HW.out.cell (p:=⟨g,go+i * 3+2,none⟩) hgl).trans hg1
   have hbl':g<wr.heap.size:=zc e0
   have HF:=Lib.hid (HD.out wr l[i] na' nc' (List.getElem_mem hlt) HW.out q3)
   clear hall q0 q1 q2 q3 hg0
   have HNX:Hid ((l.take (i+1)).any p=p l[i]):=by
    show _=_
    rw[List.take_succ_eq_append_getElem hlt,List.any_append,HI.out];simp
   have HAN:Hid (p l[i]=true->l.any p=true):=fun e=>List.any_eq_true.2 ⟨_,List.getElem_mem hlt,e⟩
   generalize p l[i]=d at *
   generalize l[i]=x at *
   clear HI
   go_wp2_with fail
   refine HF.out.mono ?_
   rintro e w3 ⟨rfl,h3⟩
   have HW3:=Lib.hid (HW.out.trans (h3.mono HW.out.size))
   clear h3
   cases d with
   | true =>
    have HE:=Lib.hid (HAN.out rfl)
    go_wp2_with fail
    go_ret
    refine⟨⟨_,rfl,?_⟩,HW3.out⟩
    rw[HE.out]
    exact decide_eq_true (by omega)
   | false =>
    go_wp2_with fail
    go_roundg (l.length - (i+1))
    case measure=>omega
    case rel=>exact⟨i+1,by omega,rfl,by go_num,HNX,HW3⟩
  ·have hlt':¬(i:Int)<(l.length:Int):=by omega
   have HE:Hid (l.any p=false):=by
    have:=HI.out
    rw[List.take_of_length_le (by omega)]at this
    exact this
   go_wp2_with fail
   go_ret
   refine⟨⟨_,rfl,?_⟩,HW.out⟩
   rw[HE.out]
   rfl
theorem containsUs {w:World}{ua:Option Addr}{cap:Nat}{l:List Ob.Us}{p:Ob.Us->Bool}{fn:FuncId}{c:Value}{ucs:List Value}(hU:RepN w l ucs) (hS:Sl w (.slice ua l.length cap) 3 l.length ucs) (hn:l.length<=1000000) (hcf:∀(args:Array Value) (w:World),(callFunc fn args).run Tryz.prog w=.ok (.enter fn args) w)
  (hd:∀ W (x:Ob.Us) na nc,x∈l->Below w.heap.size w W->Sl w (.slice na x.names.length nc) 1 x.names.length (cellsOf stC x.names)->Calls Tryz.prog fn #[.agg #[.string (bs x.name),.string (bs x.need),.slice na x.names.length nc],c] W fun e w'=>e=.returned (.bool (p x))/\Below W.heap.size W w') :
  Calls Tryz.prog 171 #[.slice ua l.length cap,.func (.func fn) #[] #[c]] w fun e w'=>e=.returned (.bool (l.any p))/\Below w.heap.size w w':=by
 have HC:=Lib.hid (indexUs hU hS hn hcf hd)
 clear hS hd hcf
 go_enter Tryz.func171,Tryz.ntmps171
 go_wp2_with fail
 refine HC.out.mono ?_
 rintro e w1 ⟨⟨k,rfl,hk⟩,hb⟩
 have HK:=Lib.hid hk
 clear hk
 go_wp2_with fail
 go_ret
 exact⟨by rw[<-HK.out];rfl,hb⟩
theorem bs_get (s:Bs) (i:Nat) (h:i<(bs s).size) (h':i<s.length):(bs s)[i]'h=s[i]'h':=by simp[bs,ByteArray.getElem_eq_getElem_data]
theorem kJ (w:World) (s:Bs) (hs:s.length<=1000000000) :
  Calls Tryz.prog 121 #[.string (bs s)] w fun e w'=>e=.returned (.bool (Ob.nameB s))/\w'=w:=by
 have hz:=yn s
 have hs':(s.length:Int)<=1000000000:=by omega
 go_enter Tryz.func121,Tryz.ntmps121
 go_wp2_with fail
 go_loopg [8] s.length (fun k vi wr=>∃ i:Nat,i<=s.length/\k=s.length - i/\vi=.int .i64 (i:Int)/\Hid (∀ j (h:j<s.length),j<i->Ob.good j s[j]=true)/\wr=w)
 case atStart=>exact⟨0,by omega,by omega,rfl,fun j _ h=>by omega,rfl⟩
 case round =>
  obtain⟨i,hid,hk,rfl,HG,rfl⟩:=hrel
  by_cases hlt:i<s.length
  ·have hlt':(i:Int)<(s.length:Int):=by omega
   have hget:=fun h=>bs_get s i h hlt
   have HNX:Hid (Ob.good i s[i]=true->∀ j (h:j<s.length),j<i+1->Ob.good j s[j]=true):=by
    intro e j h hj
    by_cases hji:j=i
    ·subst hji;exact e
    ·exact HG.out j h (by omega)
   have HBD:Hid (Ob.good i s[i]=false->Ob.nameB s=false):=by
    intro e
    unfold Ob.nameB
    rw[Bool.and_eq_false_iff]
    refine Or.inl (decide_eq_false fun hall=>?_)
    rw[hall i hlt]at e
    cases e
   have hgd:Ob.good i s[i]=((decide (97<=s[i].toNat) && decide (s[i].toNat<=122)) || ((decide (48<=s[i].toNat) && decide (s[i].toNat<=57)) && !decide (i=0))):=rfl
   have HGD:=Lib.hid hgd
   clear hgd HG
   generalize Ob.good i s[i]=gd at *
   generalize s[i]=c at *
   have hcl:=c.toNat_lt
   rcases(show c.toNat<48\/(48<=c.toNat/\c.toNat<=57)\/(57<c.toNat/\c.toNat<97)\/(97<=c.toNat/\c.toNat<=122)\/122<c.toNat by omega) with q|⟨q1,q2⟩|⟨q1,q2⟩|⟨q1,q2⟩|q
   ·have g0:(c.toNat:Int)<97:=by omega
    have g1:(c.toNat:Int)<=122:=by omega
    have g2:(c.toNat:Int)<48:=by omega
    have g3:(c.toNat:Int)<=57:=by omega
    have gd1:decide ((c.toNat:Int)<=122)=true:=decide_eq_true (by omega)
    have gd3:decide ((c.toNat:Int)<=57)=true:=decide_eq_true (by omega)
    have HV:Hid (gd=false):=by
     show _=_
     rw[HGD.out,decide_eq_false (p:=97<=c.toNat) (by omega),decide_eq_true (p:=c.toNat<=122) (by omega),decide_eq_false (p:=48<=c.toNat) (by omega),decide_eq_true (p:=c.toNat<=57) (by omega)]
     rfl
    have HF:=Lib.hid (HBD.out HV.out)
    clear HNX HBD HV HGD
    go_wp2_with fail
    go_ret
    exact⟨by rw[HF.out];rfl,rfl⟩
   ·by_cases hi0:i=0
    ·have g0:(c.toNat:Int)<97:=by omega
     have g1:(c.toNat:Int)<=122:=by omega
     have g2:(48:Int)<=(c.toNat:Int):=by omega
     have g3:(c.toNat:Int)<=57:=by omega
     have gd1:decide ((c.toNat:Int)<=122)=true:=decide_eq_true (by omega)
     have gd3:decide ((c.toNat:Int)<=57)=true:=decide_eq_true (by omega)
     have gi:((i:Int) == 0)=true:=by simp;omega
     have HV:Hid (gd=false):=by
      show _=_
      rw[HGD.out,decide_eq_false (p:=97<=c.toNat) (by omega),decide_eq_true (p:=c.toNat<=122) (by omega),decide_eq_true (p:=48<=c.toNat) (by omega),decide_eq_true (p:=c.toNat<=57) (by omega),decide_eq_true (p:=i=0) hi0]
      rfl
     have HF:=Lib.hid (HBD.out HV.out)
     clear HNX HBD HV HGD hi0
     go_wp2_with fail
     go_ret
     exact⟨by rw[HF.out];rfl,rfl⟩
    ·have g0:(c.toNat:Int)<97:=by omega
     have g1:(c.toNat:Int)<=122:=by omega
     have g2:(48:Int)<=(c.toNat:Int):=by omega
     have g3:(c.toNat:Int)<=57:=by omega
     have gd1:decide ((c.toNat:Int)<=122)=true:=decide_eq_true (by omega)
     have gd3:decide ((c.toNat:Int)<=57)=true:=decide_eq_true (by omega)
     have gi:((i:Int) == 0)=false:=by simp;omega
     have HV:Hid (gd=true):=by
      show _=_
      rw[HGD.out,decide_eq_false (p:=97<=c.toNat) (by omega),decide_eq_true (p:=c.toNat<=122) (by omega),decide_eq_true (p:=48<=c.toNat) (by omega),decide_eq_true (p:=c.toNat<=57) (by omega),decide_eq_false (p:=i=0) hi0]
      rfl
     have HN:=Lib.hid (HNX.out HV.out)
     clear HNX HBD HV HGD hi0
     go_wp2_with fail
     go_roundg (s.length - (i+1))
     case measure=>omega
     case rel=>exact⟨i+1,by omega,rfl,by go_num,HN,rfl⟩
   ·have g0:(c.toNat:Int)<97:=by omega
    have g1:(c.toNat:Int)<=122:=by omega
    have g2:(48:Int)<=(c.toNat:Int):=by omega
    have g3:(57:Int)<(c.toNat:Int):=by omega
    have gd1:decide ((c.toNat:Int)<=122)=true:=decide_eq_true (by omega)
    have gd3:decide ((c.toNat:Int)<=57)=false:=decide_eq_false (by omega)
    have HV:Hid (gd=false):=by
     show _=_
     rw[HGD.out,decide_eq_false (p:=97<=c.toNat) (by omega),decide_eq_true (p:=c.toNat<=122) (by omega),decide_eq_true (p:=48<=c.toNat) (by omega),decide_eq_false (p:=c.toNat<=57) (by omega)]
     rfl
    have HF:=Lib.hid (HBD.out HV.out)
    clear HNX HBD HV HGD
    go_wp2_with fail
    go_ret
    exact⟨by rw[HF.out];rfl,rfl⟩
   ·have g0:(97:Int)<=(c.toNat:Int):=by omega
    have g1:(c.toNat:Int)<=122:=by omega
    have g2:(48:Int)<=(c.toNat:Int):=by omega
    have g3:(57:Int)<(c.toNat:Int):=by omega
    have gd1:decide ((c.toNat:Int)<=122)=true:=decide_eq_true (by omega)
    have gd3:decide ((c.toNat:Int)<=57)=false:=decide_eq_false (by omega)
    have HV:Hid (gd=true):=by
     show _=_
     rw[HGD.out,decide_eq_true (p:=97<=c.toNat) (by omega),decide_eq_true (p:=c.toNat<=122) (by omega),decide_eq_true (p:=48<=c.toNat) (by omega),decide_eq_false (p:=c.toNat<=57) (by omega)]
     rfl
    have HN:=Lib.hid (HNX.out HV.out)
    clear HNX HBD HV HGD
    go_wp2_with fail
    go_roundg (s.length - (i+1))
    case measure=>omega
    case rel=>exact⟨i+1,by omega,rfl,by go_num,HN,rfl⟩
   ·have g0:(97:Int)<=(c.toNat:Int):=by omega
    have g1:(122:Int)<(c.toNat:Int):=by omega
    have g2:(48:Int)<=(c.toNat:Int):=by omega
    have g3:(57:Int)<(c.toNat:Int):=by omega
    have gd1:decide ((c.toNat:Int)<=122)=false:=decide_eq_false (by omega)
    have gd3:decide ((c.toNat:Int)<=57)=false:=decide_eq_false (by omega)
    have HV:Hid (gd=false):=by
     show _=_
     rw[HGD.out,decide_eq_true (p:=97<=c.toNat) (by omega),decide_eq_false (p:=c.toNat<=122) (by omega),decide_eq_true (p:=48<=c.toNat) (by omega),decide_eq_false (p:=c.toNat<=57) (by omega)]
     rfl
    have HF:=Lib.hid (HBD.out HV.out)
    clear HNX HBD HV HGD
    go_wp2_with fail
    go_ret
    exact⟨by rw[HF.out];rfl,rfl⟩
  ·have hlt':¬(i:Int)<(s.length:Int):=by omega
   have HAL:Hid (decide (∀ i (h:i<s.length),Ob.good i s[i]=true)=true):=decide_eq_true fun j h=>HG.out j h (by omega)
   have HNM:Hid (Ob.nameB s=(decide (1<=s.length) && decide (s.length<=10))):=by show _=_;unfold Ob.nameB;rw[HAL.out,Bool.true_and]
   clear HAL HG
   by_cases h1:1<=s.length
   ·have h1':(1:Int)<=(s.length:Int):=by omega
    by_cases h2:s.length<=10
    ·have h2':(s.length:Int)<=10:=by omega
     have HF:Hid (Ob.nameB s=true):=by rw[HNM.out];exact(by rw[decide_eq_true h1,decide_eq_true h2];rfl)
     go_wp2_with fail
     go_ret
     exact⟨by rw[HF.out];rfl,rfl⟩
    ·have h2':¬(s.length:Int)<=10:=by omega
     have HF:Hid (Ob.nameB s=false):=by rw[HNM.out];exact(by rw[decide_eq_true h1,decide_eq_false h2];rfl)
     go_wp2_with fail
     go_ret
     exact⟨by rw[HF.out];rfl,rfl⟩
   ·have h1':¬(1:Int)<=(s.length:Int):=by omega
    have HF:Hid (Ob.nameB s=false):=by rw[HNM.out];exact(by rw[decide_eq_false h1];rfl)
    go_wp2_with fail
    go_ret
    exact⟨by rw[HF.out];rfl,rfl⟩
theorem len_any (w:World) (n:Int):Calls Tryz.prog 170 #[.int .i64 n] w fun e w'=>e=.returned (.bool (Ob.lenB n))/\w'=w:=by
 by_cases h1:0<=n
 ·by_cases h2:n<=30
  ·have HF:Hid (Ob.lenB n=true):=by show _=_;unfold Ob.lenB;rw[decide_eq_true h1,decide_eq_true h2];rfl
   go_enter Tryz.func170,Tryz.ntmps170
   go_wp2_with fail
   go_ret
   exact⟨by rw[HF.out];rfl,rfl⟩
  ·have HF:Hid (Ob.lenB n=false):=by show _=_;unfold Ob.lenB;rw[decide_eq_true h1,decide_eq_false h2];rfl
   have h2':30<n:=by omega
   go_enter Tryz.func170,Tryz.ntmps170
   go_wp2_with fail
   go_ret
   exact⟨by rw[HF.out];rfl,rfl⟩
 ·have HF:Hid (Ob.lenB n=false):=by show _=_;unfold Ob.lenB;rw[decide_eq_false h1];rfl
  have h1':n<0:=by omega
  go_enter Tryz.func170,Tryz.ntmps170
  go_wp2_with fail
  go_ret
  exact⟨by rw[HF.out];rfl,rfl⟩
theorem yS (w:World) (n:Int) (m:Nat):Calls Tryz.prog 128 #[.int .i64 n,.int .i64 (m:Int)] w fun e w'=>e=.returned (.bool (Ob.countsB n m))/\w'=w:=by
 by_cases h1:0<=n
 ·by_cases h2:n<(m:Int)
  ·have HF:Hid (Ob.countsB n m=true):=by show _=_;unfold Ob.countsB;rw[decide_eq_true h1,decide_eq_true h2];rfl
   go_enter Tryz.func128,Tryz.ntmps128
   go_wp2_with fail
   go_ret
   exact⟨by rw[HF.out];rfl,rfl⟩
  ·have HF:Hid (Ob.countsB n m=false):=by show _=_;unfold Ob.countsB;rw[decide_eq_true h1,decide_eq_false h2];rfl
   have h2':(m:Int)<=n:=by omega
   go_enter Tryz.func128,Tryz.ntmps128
   go_wp2_with fail
   go_ret
   exact⟨by rw[HF.out];rfl,rfl⟩
 ·have HF:Hid (Ob.countsB n m=false):=by show _=_;unfold Ob.countsB;rw[decide_eq_false h1];rfl
  have h1':n<0:=by omega
  go_enter Tryz.func128,Tryz.ntmps128
  go_wp2_with fail
  go_ret
  exact⟨by rw[HF.out];rfl,rfl⟩
end Go.Proofs.YtmocelfkmdpogaaGreatDoor.Jo
