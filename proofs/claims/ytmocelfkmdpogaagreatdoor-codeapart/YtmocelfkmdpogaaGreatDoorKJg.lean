import Derived.Test.YtmocelfkmdpogaaGreatDoorKJf
set_option maxRecDepth 100000
set_option maxHeartbeats 4000000
namespace Go.Proofs.YtmocelfkmdpogaaGreatDoor.Jo
open Go.RowKit
open Ob (Bs)
theorem cfStr (args:Array Value) (w:World):(callFunc 177 args).run Tryz.prog w=.ok (.enter 177 args) w:=by kernel_rfl
theorem oneStr {w:World}{fb:Nat}{fn:FuncId}  (x:Bs) {d:Bool}(hk:w.cell? ⟨fb,0,none⟩=some (.func (.func fn) #[] #[])) (hcf:∀(args:Array Value) (w:World),(callFunc fn args).run Tryz.prog w=.ok (.enter fn args) w)
  (hd:∀ W,Below w.heap.size w W->Calls Tryz.prog fn #[.string (bs x)] W fun e w'=>e=.returned (.bool d)/\Below W.heap.size W w') :
  Calls Tryz.prog 177 #[.string (bs x),.pointer (some ⟨fb,0,none⟩)] w fun e w'=>e=.returned (.bool (!d))/\Below w.heap.size w w':=by
 have hfl:=zc hk
 have HB0:=Lib.hid (Below.refl w.heap.size w)
 have HC:=Lib.hid (hd w (Below.refl _ _))
 clear hd
 go_enter Tryz.func177,Tryz.ntmps177
 go_wp2_with fail
 refine HC.out.mono ?_
 rintro e w1 ⟨rfl,h1⟩
 have HB:=Lib.hid (HB0.out.trans (h1.mono HB0.out.size))
 clear h1
 go_wp2_with fail
 go_ret
 exact⟨rfl,HB.out⟩
theorem allStr {w:World}{a:Option Addr}{cap:Nat}{l:List Bs}{p:Bs->Bool}{fn:FuncId}  (hS:Sl w (.slice a l.length cap) 1 l.length (cellsOf stC l)) (hn:l.length<=140737488355328) (most:Nat) (hm:most<=10000) (hcf:∀(args:Array Value) (w:World),(callFunc fn args).run Tryz.prog w=.ok (.enter fn args) w)
  (hd:∀ W (x:Bs),x∈l->Below w.heap.size w W->Calls Tryz.prog fn #[.string (bs x)] W fun e w'=>e=.returned (.bool (p x))/\Below W.heap.size W w') :
  Calls Tryz.prog 130 #[.slice a l.length cap,.int .i64 (most:Int),.func (.func fn) #[] #[]] w fun e w'=>e=.returned (.bool (Ob.allB p most l))/\Below w.heap.size w w':=by
 have hmf:∀(fn:Fn) (first cap:Array Value) (w:World),(Instr.makeFunc fn first cap).run Tryz.prog w=.ok (.func fn first cap) w:=fun _ _ _ _=>rfl
 have hb0:Below w.heap.size w (w.alloc (.cells #[.func (.func fn) #[] #[]] 52)):=(Below.refl _ _).alloc (Nat.le_refl _) _
 by_cases hle:l.length<=most
 ·have hle':(l.length:Int)<=(most:Int):=by omega
  have HA:Hid (Ob.allB p most l=!(l.any fun x=>!p x)):=by show _=_;unfold Ob.allB;rw[decide_eq_true hle,Bool.true_and]
  have HC:=Lib.hid (containsStr (w:=w.alloc (.cells #[.func (.func fn) #[] #[]] 52)) (c:=.pointer (some ⟨w.heap.size,0,none⟩)) (p:=fun x=>!p x) (hS.below hb0) (by omega) cfStr (fun W x hx hW=>oneStr x ((hW.cell (p:=⟨w.heap.size,0,none⟩) (by simp)).trans ((za (zk _ _)).trans rfl)) hcf (fun W' hW'=>hd W' x hx (hb0.trans ((hW.mono hb0.size).trans (hW'.mono (Nat.le_trans hb0.size hW.size)))))))
  have HB0:=Lib.hid hb0
  clear hS hd hcf hb0
  generalize Ob.allB p most l=r at *
  generalize (l.any fun x=>!p x)=d at *
  go_enter Tryz.func130,Tryz.ntmps130
  go_wp2_with fail
  refine HC.out.mono ?_
  rintro e w1 ⟨rfl,h1⟩
  have HB:=Lib.hid (HB0.out.trans (h1.mono HB0.out.size))
  clear h1
  go_wp2_with fail
  go_ret
  exact⟨by rw[HA.out];rfl,HB.out⟩
 ·have hle':(most:Int)<(l.length:Int):=by omega
  have HA:Hid (Ob.allB p most l=false):=by show _=_;unfold Ob.allB;rw[decide_eq_false hle];rfl
  have HB0:=Lib.hid hb0
  clear hS hd hcf hb0
  generalize Ob.allB p most l=r at *
  go_enter Tryz.func130,Tryz.ntmps130
  go_wp2_with fail
  go_ret
  exact⟨by rw[HA.out];rfl,HB0.out⟩
theorem cfSym (args:Array Value) (w:World):(callFunc 169 args).run Tryz.prog w=.ok (.enter 169 args) w:=by kernel_rfl
theorem oneSym {w:World}{fb:Nat}{fn:FuncId}  (x:Ob.Sm) {d:Bool}(hk:w.cell? ⟨fb,0,none⟩=some (.func (.func fn) #[] #[])) (hcf:∀(args:Array Value) (w:World),(callFunc fn args).run Tryz.prog w=.ok (.enter fn args) w)
  (hd:∀ W,Below w.heap.size w W->Calls Tryz.prog fn #[.agg #[.string (bs x.name),.int .i64 x.len,.int .i64 x.args]] W fun e w'=>e=.returned (.bool d)/\Below W.heap.size W w') :
  Calls Tryz.prog 169 #[.agg #[.string (bs x.name),.int .i64 x.len,.int .i64 x.args],.pointer (some ⟨fb,0,none⟩)] w fun e w'=>e=.returned (.bool (!d))/\Below w.heap.size w w':=by
 have hfl:=zc hk
 have hb0:Below w.heap.size w (w.alloc (.cells #[.string (bs x.name),.int .i64 x.len,.int .i64 x.args] 44)):=(Below.refl _ _).alloc (Nat.le_refl _) _
 have HB0:=Lib.hid hb0
 have HC:=Lib.hid (hd _ hb0)
 clear hb0
 clear hd
 go_enter Tryz.func169,Tryz.ntmps169
 go_wp2_with fail
 refine HC.out.mono ?_
 rintro e w1 ⟨rfl,h1⟩
 have HB:=Lib.hid (HB0.out.trans (h1.mono HB0.out.size))
 clear h1
 go_wp2_with fail
 go_ret
 exact⟨rfl,HB.out⟩
theorem allSym {w:World}{a:Option Addr}{cap:Nat}{l:List Ob.Sm}{p:Ob.Sm->Bool}{fn:FuncId}  (hS:Sl w (.slice a l.length cap) 3 l.length (cellsOf smC l)) (hn:l.length<=140737488355328) (most:Nat) (hm:most<=10000) (hcf:∀(args:Array Value) (w:World),(callFunc fn args).run Tryz.prog w=.ok (.enter fn args) w)
  (hd:∀ W (x:Ob.Sm),x∈l->Below w.heap.size w W->Calls Tryz.prog fn #[.agg #[.string (bs x.name),.int .i64 x.len,.int .i64 x.args]] W fun e w'=>e=.returned (.bool (p x))/\Below W.heap.size W w') :
  Calls Tryz.prog 122 #[.slice a l.length cap,.int .i64 (most:Int),.func (.func fn) #[] #[]] w fun e w'=>e=.returned (.bool (Ob.allB p most l))/\Below w.heap.size w w':=by
 have hmf:∀(fn:Fn) (first cap:Array Value) (w:World),(Instr.makeFunc fn first cap).run Tryz.prog w=.ok (.func fn first cap) w:=fun _ _ _ _=>rfl
 have hb0:Below w.heap.size w (w.alloc (.cells #[.func (.func fn) #[] #[]] 47)):=(Below.refl _ _).alloc (Nat.le_refl _) _
 by_cases hle:l.length<=most
 ·have hle':(l.length:Int)<=(most:Int):=by omega
  have HA:Hid (Ob.allB p most l=!(l.any fun x=>!p x)):=by show _=_;unfold Ob.allB;rw[decide_eq_true hle,Bool.true_and]
  have HC:=Lib.hid (containsSym (w:=w.alloc (.cells #[.func (.func fn) #[] #[]] 47)) (c:=.pointer (some ⟨w.heap.size,0,none⟩)) (p:=fun x=>!p x) (hS.below hb0) (by omega) cfSym (fun W x hx hW=>oneSym x ((hW.cell (p:=⟨w.heap.size,0,none⟩) (by simp)).trans ((za (zk _ _)).trans rfl)) hcf (fun W' hW'=>hd W' x hx (hb0.trans ((hW.mono hb0.size).trans (hW'.mono (Nat.le_trans hb0.size hW.size)))))))
  have HB0:=Lib.hid hb0
  clear hS hd hcf hb0
  generalize Ob.allB p most l=r at *
  generalize (l.any fun x=>!p x)=d at *
  go_enter Tryz.func122,Tryz.ntmps122
  go_wp2_with fail
  refine HC.out.mono ?_
  rintro e w1 ⟨rfl,h1⟩
  have HB:=Lib.hid (HB0.out.trans (h1.mono HB0.out.size))
  clear h1
  go_wp2_with fail
  go_ret
  exact⟨by rw[HA.out];rfl,HB.out⟩
 ·have hle':(most:Int)<(l.length:Int):=by omega
  have HA:Hid (Ob.allB p most l=false):=by show _=_;unfold Ob.allB;rw[decide_eq_false hle];rfl
  have HB0:=Lib.hid hb0
  clear hS hd hcf hb0
  generalize Ob.allB p most l=r at *
  go_enter Tryz.func122,Tryz.ntmps122
  go_wp2_with fail
  go_ret
  exact⟨by rw[HA.out];rfl,HB0.out⟩
theorem cfGl (args:Array Value) (w:World):(callFunc 174 args).run Tryz.prog w=.ok (.enter 174 args) w:=by kernel_rfl
theorem oneGl {w:World}{fb:Nat}{fn:FuncId}  (x:Ob.Gl) {d:Bool}(hk:w.cell? ⟨fb,0,none⟩=some (.func (.func fn) #[] #[])) (hcf:∀(args:Array Value) (w:World),(callFunc fn args).run Tryz.prog w=.ok (.enter fn args) w)
  (hd:∀ W,Below w.heap.size w W->Calls Tryz.prog fn #[.agg #[.string (bs x.name),.int .i64 x.at',.int .i64 x.len,.bool x.seen]] W fun e w'=>e=.returned (.bool d)/\Below W.heap.size W w') :
  Calls Tryz.prog 174 #[.agg #[.string (bs x.name),.int .i64 x.at',.int .i64 x.len,.bool x.seen],.pointer (some ⟨fb,0,none⟩)] w fun e w'=>e=.returned (.bool (!d))/\Below w.heap.size w w':=by
 have hfl:=zc hk
 have hb0:Below w.heap.size w (w.alloc (.cells #[.string (bs x.name),.int .i64 x.at',.int .i64 x.len,.bool x.seen] 118)):=(Below.refl _ _).alloc (Nat.le_refl _) _
 have HB0:=Lib.hid hb0
 have HC:=Lib.hid (hd _ hb0)
 clear hb0
 clear hd
 go_enter Tryz.func174,Tryz.ntmps174
 go_wp2_with fail
 refine HC.out.mono ?_
 rintro e w1 ⟨rfl,h1⟩
 have HB:=Lib.hid (HB0.out.trans (h1.mono HB0.out.size))
 clear h1
 go_wp2_with fail
 go_ret
 exact⟨rfl,HB.out⟩
theorem allGl {w:World}{a:Option Addr}{cap:Nat}{l:List Ob.Gl}{p:Ob.Gl->Bool}{fn:FuncId}  (hS:Sl w (.slice a l.length cap) 4 l.length (cellsOf glC l)) (hn:l.length<=140737488355328) (most:Nat) (hm:most<=10000) (hcf:∀(args:Array Value) (w:World),(callFunc fn args).run Tryz.prog w=.ok (.enter fn args) w)
  (hd:∀ W (x:Ob.Gl),x∈l->Below w.heap.size w W->Calls Tryz.prog fn #[.agg #[.string (bs x.name),.int .i64 x.at',.int .i64 x.len,.bool x.seen]] W fun e w'=>e=.returned (.bool (p x))/\Below W.heap.size W w') :
  Calls Tryz.prog 125 #[.slice a l.length cap,.int .i64 (most:Int),.func (.func fn) #[] #[]] w fun e w'=>e=.returned (.bool (Ob.allB p most l))/\Below w.heap.size w w':=by
 have hmf:∀(fn:Fn) (first cap:Array Value) (w:World),(Instr.makeFunc fn first cap).run Tryz.prog w=.ok (.func fn first cap) w:=fun _ _ _ _=>rfl
 have hb0:Below w.heap.size w (w.alloc (.cells #[.func (.func fn) #[] #[]] 191)):=(Below.refl _ _).alloc (Nat.le_refl _) _
 by_cases hle:l.length<=most
 ·have hle':(l.length:Int)<=(most:Int):=by omega
  have HA:Hid (Ob.allB p most l=!(l.any fun x=>!p x)):=by show _=_;unfold Ob.allB;rw[decide_eq_true hle,Bool.true_and]
  have HC:=Lib.hid (containsGl (w:=w.alloc (.cells #[.func (.func fn) #[] #[]] 191)) (c:=.pointer (some ⟨w.heap.size,0,none⟩)) (p:=fun x=>!p x) (hS.below hb0) (by omega) cfGl (fun W x hx hW=>oneGl x ((hW.cell (p:=⟨w.heap.size,0,none⟩) (by simp)).trans ((za (zk _ _)).trans rfl)) hcf (fun W' hW'=>hd W' x hx (hb0.trans ((hW.mono hb0.size).trans (hW'.mono (Nat.le_trans hb0.size hW.size)))))))
  have HB0:=Lib.hid hb0
  clear hS hd hcf hb0
  generalize Ob.allB p most l=r at *
  generalize (l.any fun x=>!p x)=d at *
  go_enter Tryz.func125,Tryz.ntmps125
  go_wp2_with fail
  refine HC.out.mono ?_
  rintro e w1 ⟨rfl,h1⟩
  have HB:=Lib.hid (HB0.out.trans (h1.mono HB0.out.size))
  clear h1
  go_wp2_with fail
  go_ret
  exact⟨by rw[HA.out];rfl,HB.out⟩
 ·have hle':(most:Int)<(l.length:Int):=by omega
  have HA:Hid (Ob.allB p most l=false):=by show _=_;unfold Ob.allB;rw[decide_eq_false hle];rfl
  have HB0:=Lib.hid hb0
  clear hS hd hcf hb0
  generalize Ob.allB p most l=r at *
  go_enter Tryz.func125,Tryz.ntmps125
  go_wp2_with fail
  go_ret
  exact⟨by rw[HA.out];rfl,HB0.out⟩
theorem cfEn (args:Array Value) (w:World):(callFunc 176 args).run Tryz.prog w=.ok (.enter 176 args) w:=by kernel_rfl
theorem oneEn {w:World}{fb:Nat}{fn:FuncId}{c:Value}(x:Ob.En) {d:Bool}(hk:w.cell? ⟨fb,0,none⟩=some (.func (.func fn) #[] #[c])) (hcf:∀(args:Array Value) (w:World),(callFunc fn args).run Tryz.prog w=.ok (.enter fn args) w)
  (hd:∀ W,Below w.heap.size w W->Calls Tryz.prog fn #[.agg #[.int .i64 x.at',.int .i64 x.args,.int .i64 x.locals],c] W fun e w'=>e=.returned (.bool d)/\Below W.heap.size W w') :
  Calls Tryz.prog 176 #[.agg #[.int .i64 x.at',.int .i64 x.args,.int .i64 x.locals],.pointer (some ⟨fb,0,none⟩)] w fun e w'=>e=.returned (.bool (!d))/\Below w.heap.size w w':=by
 have hfl:=zc hk
 have hb0:Below w.heap.size w (w.alloc (.cells #[.int .i64 x.at',.int .i64 x.args,.int .i64 x.locals] 156)):=(Below.refl _ _).alloc (Nat.le_refl _) _
 have HB0:=Lib.hid hb0
 have HC:=Lib.hid (hd _ hb0)
 clear hb0
 clear hd
 go_enter Tryz.func176,Tryz.ntmps176
 go_wp2_with fail
 refine HC.out.mono ?_
 rintro e w1 ⟨rfl,h1⟩
 have HB:=Lib.hid (HB0.out.trans (h1.mono HB0.out.size))
 clear h1
 go_wp2_with fail
 go_ret
 exact⟨rfl,HB.out⟩
theorem allEn {w:World}{a:Option Addr}{cap:Nat}{l:List Ob.En}{p:Ob.En->Bool}{fn:FuncId}{c:Value}(hS:Sl w (.slice a l.length cap) 3 l.length (cellsOf enC l)) (hn:l.length<=140737488355328) (most:Nat) (hm:most<=10000) (hcf:∀(args:Array Value) (w:World),(callFunc fn args).run Tryz.prog w=.ok (.enter fn args) w)
  (hd:∀ W (x:Ob.En),x∈l->Below w.heap.size w W->Calls Tryz.prog fn #[.agg #[.int .i64 x.at',.int .i64 x.args,.int .i64 x.locals],c] W fun e w'=>e=.returned (.bool (p x))/\Below W.heap.size W w') :
  Calls Tryz.prog 129 #[.slice a l.length cap,.int .i64 (most:Int),.func (.func fn) #[] #[c]] w fun e w'=>e=.returned (.bool (Ob.allB p most l))/\Below w.heap.size w w':=by
 have hmf:∀(fn:Fn) (first cap:Array Value) (w:World),(Instr.makeFunc fn first cap).run Tryz.prog w=.ok (.func fn first cap) w:=fun _ _ _ _=>rfl
 have hb0:Below w.heap.size w (w.alloc (.cells #[.func (.func fn) #[] #[c]] 193)):=(Below.refl _ _).alloc (Nat.le_refl _) _
 by_cases hle:l.length<=most
 ·have hle':(l.length:Int)<=(most:Int):=by omega
  have HA:Hid (Ob.allB p most l=!(l.any fun x=>!p x)):=by show _=_;unfold Ob.allB;rw[decide_eq_true hle,Bool.true_and]
  have HC:=Lib.hid (containsEn (w:=w.alloc (.cells #[.func (.func fn) #[] #[c]] 193)) (c:=.pointer (some ⟨w.heap.size,0,none⟩)) (p:=fun x=>!p x) (hS.below hb0) (by omega) cfEn (fun W x hx hW=>oneEn x ((hW.cell (p:=⟨w.heap.size,0,none⟩) (by simp)).trans ((za (zk _ _)).trans rfl)) hcf (fun W' hW'=>hd W' x hx (hb0.trans ((hW.mono hb0.size).trans (hW'.mono (Nat.le_trans hb0.size hW.size)))))))
  have HB0:=Lib.hid hb0
  clear hS hd hcf hb0
  generalize Ob.allB p most l=r at *
  generalize (l.any fun x=>!p x)=d at *
  go_enter Tryz.func129,Tryz.ntmps129
  go_wp2_with fail
  refine HC.out.mono ?_
  rintro e w1 ⟨rfl,h1⟩
  have HB:=Lib.hid (HB0.out.trans (h1.mono HB0.out.size))
  clear h1
  go_wp2_with fail
  go_ret
  exact⟨by rw[HA.out];rfl,HB.out⟩
 ·have hle':(most:Int)<(l.length:Int):=by omega
  have HA:Hid (Ob.allB p most l=false):=by show _=_;unfold Ob.allB;rw[decide_eq_false hle];rfl
  have HB0:=Lib.hid hb0
  clear hS hd hcf hb0
  generalize Ob.allB p most l=r at *
  go_enter Tryz.func129,Tryz.ntmps129
  go_wp2_with fail
  go_ret
  exact⟨by rw[HA.out];rfl,HB0.out⟩
theorem cfIn (args:Array Value) (w:World):(callFunc 179 args).run Tryz.prog w=.ok (.enter 179 args) w:=by kernel_rfl
theorem oneIn {w:World}{fb:Nat}{fn:FuncId}{c:Value}(x:Ob.In) {d:Bool}(hk:w.cell? ⟨fb,0,none⟩=some (.func (.func fn) #[] #[c])) (hcf:∀(args:Array Value) (w:World),(callFunc fn args).run Tryz.prog w=.ok (.enter fn args) w)
  (hd:∀ W,Below w.heap.size w W->Calls Tryz.prog fn #[.agg #[.int .i64 x.op,.int .i64 x.a,.int .i64 x.b],c] W fun e w'=>e=.returned (.bool d)/\Below W.heap.size W w') :
  Calls Tryz.prog 179 #[.agg #[.int .i64 x.op,.int .i64 x.a,.int .i64 x.b],.pointer (some ⟨fb,0,none⟩)] w fun e w'=>e=.returned (.bool (!d))/\Below w.heap.size w w':=by
 have hfl:=zc hk
 have hb0:Below w.heap.size w (w.alloc (.cells #[.int .i64 x.op,.int .i64 x.a,.int .i64 x.b] 54)):=(Below.refl _ _).alloc (Nat.le_refl _) _
 have HB0:=Lib.hid hb0
 have HC:=Lib.hid (hd _ hb0)
 clear hb0
 clear hd
 go_enter Tryz.func179,Tryz.ntmps179
 go_wp2_with fail
 refine HC.out.mono ?_
 rintro e w1 ⟨rfl,h1⟩
 have HB:=Lib.hid (HB0.out.trans (h1.mono HB0.out.size))
 clear h1
 go_wp2_with fail
 go_ret
 exact⟨rfl,HB.out⟩
theorem allIn {w:World}{a:Option Addr}{cap:Nat}{l:List Ob.In}{p:Ob.In->Bool}{fn:FuncId}{c:Value}(hS:Sl w (.slice a l.length cap) 3 l.length (cellsOf inC l)) (hn:l.length<=140737488355328) (most:Nat) (hm:most<=10000) (hcf:∀(args:Array Value) (w:World),(callFunc fn args).run Tryz.prog w=.ok (.enter fn args) w)
  (hd:∀ W (x:Ob.In),x∈l->Below w.heap.size w W->Calls Tryz.prog fn #[.agg #[.int .i64 x.op,.int .i64 x.a,.int .i64 x.b],c] W fun e w'=>e=.returned (.bool (p x))/\Below W.heap.size W w') :
  Calls Tryz.prog 131 #[.slice a l.length cap,.int .i64 (most:Int),.func (.func fn) #[] #[c]] w fun e w'=>e=.returned (.bool (Ob.allB p most l))/\Below w.heap.size w w':=by
 have hmf:∀(fn:Fn) (first cap:Array Value) (w:World),(Instr.makeFunc fn first cap).run Tryz.prog w=.ok (.func fn first cap) w:=fun _ _ _ _=>rfl
 have hb0:Below w.heap.size w (w.alloc (.cells #[.func (.func fn) #[] #[c]] 198)):=(Below.refl _ _).alloc (Nat.le_refl _) _
 by_cases hle:l.length<=most
 ·have hle':(l.length:Int)<=(most:Int):=by omega
  have HA:Hid (Ob.allB p most l=!(l.any fun x=>!p x)):=by show _=_;unfold Ob.allB;rw[decide_eq_true hle,Bool.true_and]
  have HC:=Lib.hid (containsIn (w:=w.alloc (.cells #[.func (.func fn) #[] #[c]] 198)) (c:=.pointer (some ⟨w.heap.size,0,none⟩)) (p:=fun x=>!p x) (hS.below hb0) (by omega) cfIn (fun W x hx hW=>oneIn x ((hW.cell (p:=⟨w.heap.size,0,none⟩) (by simp)).trans ((za (zk _ _)).trans rfl)) hcf (fun W' hW'=>hd W' x hx (hb0.trans ((hW.mono hb0.size).trans (hW'.mono (Nat.le_trans hb0.size hW.size)))))))
  have HB0:=Lib.hid hb0
  clear hS hd hcf hb0
  generalize Ob.allB p most l=r at *
  generalize (l.any fun x=>!p x)=d at *
  go_enter Tryz.func131,Tryz.ntmps131
  go_wp2_with fail
  refine HC.out.mono ?_
  rintro e w1 ⟨rfl,h1⟩
  have HB:=Lib.hid (HB0.out.trans (h1.mono HB0.out.size))
  clear h1
  go_wp2_with fail
  go_ret
  exact⟨by rw[HA.out];rfl,HB.out⟩
 ·have hle':(most:Int)<(l.length:Int):=by omega
  have HA:Hid (Ob.allB p most l=false):=by show _=_;unfold Ob.allB;rw[decide_eq_false hle];rfl
  have HB0:=Lib.hid hb0
  clear hS hd hcf hb0
  generalize Ob.allB p most l=r at *
  go_enter Tryz.func131,Tryz.ntmps131
  go_wp2_with fail
  go_ret
  exact⟨by rw[HA.out];rfl,HB0.out⟩
theorem cfUs (args:Array Value) (w:World):(callFunc 172 args).run Tryz.prog w=.ok (.enter 172 args) w:=by kernel_rfl
theorem oneUs {w:World}{fb:Nat}{fn:FuncId}{c:Value}(x:Ob.Us) (na:Option Addr) (nc:Nat) {d:Bool}(hk:w.cell? ⟨fb,0,none⟩=some (.func (.func fn) #[] #[c])) (hcf:∀(args:Array Value) (w:World),(callFunc fn args).run Tryz.prog w=.ok (.enter fn args) w)
  (hd:∀ W,Below w.heap.size w W->Calls Tryz.prog fn #[.agg #[.string (bs x.name),.string (bs x.need),.slice na x.names.length nc],c] W fun e w'=>e=.returned (.bool d)/\Below W.heap.size W w') :
  Calls Tryz.prog 172 #[.agg #[.string (bs x.name),.string (bs x.need),.slice na x.names.length nc],.pointer (some ⟨fb,0,none⟩)] w fun e w'=>e=.returned (.bool (!d))/\Below w.heap.size w w':=by
 have hfl:=zc hk
 have hb0:Below w.heap.size w (w.alloc (.cells #[.string (bs x.name),.string (bs x.need),.slice na x.names.length nc] 128)):=(Below.refl _ _).alloc (Nat.le_refl _) _
 have HB0:=Lib.hid hb0
 have HC:=Lib.hid (hd _ hb0)
 clear hb0
 clear hd
 go_enter Tryz.func172,Tryz.ntmps172
 go_wp2_with fail
 refine HC.out.mono ?_
 rintro e w1 ⟨rfl,h1⟩
 have HB:=Lib.hid (HB0.out.trans (h1.mono HB0.out.size))
 clear h1
 go_wp2_with fail
 go_ret
 exact⟨rfl,HB.out⟩
theorem allUs {w:World}{a:Option Addr}{cap:Nat}{l:List Ob.Us}{p:Ob.Us->Bool}{fn:FuncId}{c:Value}{ucs:List Value}(hU:RepN w l ucs) (hS:Sl w (.slice a l.length cap) 3 l.length ucs) (hn:l.length<=140737488355328) (most:Nat) (hm:most<=10000) (hcf:∀(args:Array Value) (w:World),(callFunc fn args).run Tryz.prog w=.ok (.enter fn args) w)
  (hd:∀ W (x:Ob.Us) na nc,x∈l->Below w.heap.size w W->Sl W (.slice na x.names.length nc) 1 x.names.length (cellsOf stC x.names)->Calls Tryz.prog fn #[.agg #[.string (bs x.name),.string (bs x.need),.slice na x.names.length nc],c] W fun e w'=>e=.returned (.bool (p x))/\Below W.heap.size W w') :
  Calls Tryz.prog 124 #[.slice a l.length cap,.int .i64 (most:Int),.func (.func fn) #[] #[c]] w fun e w'=>e=.returned (.bool (Ob.allB p most l))/\Below w.heap.size w w':=by
 have hmf:∀(fn:Fn) (first cap:Array Value) (w:World),(Instr.makeFunc fn first cap).run Tryz.prog w=.ok (.func fn first cap) w:=fun _ _ _ _=>rfl
 have hb0:Below w.heap.size w (w.alloc (.cells #[.func (.func fn) #[] #[c]] 187)):=(Below.refl _ _).alloc (Nat.le_refl _) _
 by_cases hle:l.length<=most
 ·have hle':(l.length:Int)<=(most:Int):=by omega
  have HA:Hid (Ob.allB p most l=!(l.any fun x=>!p x)):=by show _=_;unfold Ob.allB;rw[decide_eq_true hle,Bool.true_and]
  have HC:=Lib.hid (containsUs (w:=w.alloc (.cells #[.func (.func fn) #[] #[c]] 187)) (c:=.pointer (some ⟨w.heap.size,0,none⟩)) (p:=fun x=>!p x) (RepN.below hb0 _ _ hU) (hS.below hb0) (by omega) cfUs (fun W x na nc hx hW hs=>oneUs x na nc ((hW.cell (p:=⟨w.heap.size,0,none⟩) (by simp)).trans ((za (zk _ _)).trans rfl)) hcf (fun W' hW'=>hd W' x na nc hx (hb0.trans ((hW.mono hb0.size).trans (hW'.mono (Nat.le_trans hb0.size hW.size)))) ((hs.below hW).below hW'))))
  have HB0:=Lib.hid hb0
  clear hS hd hcf hb0 hU
  generalize Ob.allB p most l=r at *
  generalize (l.any fun x=>!p x)=d at *
  go_enter Tryz.func124,Tryz.ntmps124
  go_wp2_with fail
  refine HC.out.mono ?_
  rintro e w1 ⟨rfl,h1⟩
  have HB:=Lib.hid (HB0.out.trans (h1.mono HB0.out.size))
  clear h1
  go_wp2_with fail
  go_ret
  exact⟨by rw[HA.out];rfl,HB.out⟩
 ·have hle':(most:Int)<(l.length:Int):=by omega
  have HA:Hid (Ob.allB p most l=false):=by show _=_;unfold Ob.allB;rw[decide_eq_false hle];rfl
  have HB0:=Lib.hid hb0
  clear hS hd hcf hb0 hU
  generalize Ob.allB p most l=r at *
  go_enter Tryz.func124,Tryz.ntmps124
  go_wp2_with fail
  go_ret
  exact⟨by rw[HA.out];rfl,HB0.out⟩
theorem sym_r (w:World) (x:Ob.Sm) (hx:x.name.length<=1000000000) :
  Calls Tryz.prog 123 #[.agg #[.string (bs x.name),.int .i64 x.len,.int .i64 x.args]] w fun e w'=>e=.returned (.bool (Ob.symB x))/\Below w.heap.size w w':=by
 have HC1:Hid (∀ W,Below w.heap.size w W->Calls Tryz.prog 121 #[.string (bs x.name)] W fun e w'=>e=.returned (.bool (Ob.nameB x.name))/\w'=W):=fun W _=>kJ W x.name hx
 have HC2:Hid (∀ W,Below w.heap.size w W->Calls Tryz.prog 170 #[.int .i64 x.len] W fun e w'=>e=.returned (.bool (Ob.lenB x.len))/\w'=W):=fun W _=>len_any W x.len
 have HR:Hid (Ob.symB x=(Ob.nameB x.name && (decide (-1<=x.args) && (decide (x.args<=10) && (Ob.lenB x.len && (decide (x.args<0) || decide (x.len=0))))))):=rfl
 generalize Ob.symB x=r at *
 generalize Ob.nameB x.name=b1 at *
 generalize Ob.lenB x.len=b2 at *
 generalize x.args=xa at *
 generalize x.len=xl at *
 have HB0:Hid (Below w.heap.size w (w.alloc (.cells #[.string (bs x.name),.int .i64 xl,.int .i64 xa] 44))):=(Below.refl _ _).alloc (Nat.le_refl _) _
 cases b1 with
 | false =>
  have HV:Hid (r=false):=by
   show _=_
   rw[HR.out]
   simp[*]
  clear HR
  go_enter Tryz.func123,Tryz.ntmps123
  go_wp2_with fail
  refine(HC1.out _ HB0.out).mono ?_
  rintro e wq ⟨rfl,rfl⟩
  go_wp2_with fail
  go_ret
  exact⟨by rw[HV.out];rfl,HB0.out⟩
 | true =>
  by_cases hc1:-1<=xa
  ·have hc1_0:decide (-1<=xa)=true:=decide_eq_true (by omega)
   by_cases hc2:xa<=10
   ·have hc2_0:decide (xa<=10)=true:=decide_eq_true (by omega)
    cases b2 with
    | false =>
     have HV:Hid (r=false):=by
      show _=_
      rw[HR.out]
      simp[*]
     clear HR
     go_enter Tryz.func123,Tryz.ntmps123
     go_wp2_with fail
     refine(HC1.out _ HB0.out).mono ?_
     rintro e wq ⟨rfl,rfl⟩
     go_wp2_with fail
     refine(HC2.out _ HB0.out).mono ?_
     rintro e wq ⟨rfl,rfl⟩
     go_wp2_with fail
     go_ret
     exact⟨by rw[HV.out];rfl,HB0.out⟩
    | true =>
     by_cases ho0:xa<0
     ·have ho0_0:decide (xa<0)=true:=decide_eq_true (by omega)
      have HV:Hid (r=true):=by
       show _=_
       rw[HR.out]
       simp[*]
      clear HR
      go_enter Tryz.func123,Tryz.ntmps123
      go_wp2_with fail
      refine(HC1.out _ HB0.out).mono ?_
      rintro e wq ⟨rfl,rfl⟩
      go_wp2_with fail
      refine(HC2.out _ HB0.out).mono ?_
      rintro e wq ⟨rfl,rfl⟩
      go_wp2_with fail
      go_ret
      exact⟨by rw[HV.out];rfl,HB0.out⟩
     ·have ho0_0:0<=xa:=by omega
      have ho0_1:decide (xa<0)=false:=decide_eq_false (by omega)
      by_cases ho1:xl=0
      ·have ho1_0:(xl == 0)=true:=by simp[ho1]
       have HV:Hid (r=true):=by
        show _=_
        rw[HR.out]
        simp[*]
       clear HR ho1
       go_enter Tryz.func123,Tryz.ntmps123
       go_wp2_with fail
       refine(HC1.out _ HB0.out).mono ?_
       rintro e wq ⟨rfl,rfl⟩
       go_wp2_with fail
       refine(HC2.out _ HB0.out).mono ?_
       rintro e wq ⟨rfl,rfl⟩
       go_wp2_with fail
       go_ret
       exact⟨by rw[HV.out];rfl,HB0.out⟩
      ·have ho1_0:(xl == 0)=false:=by simp[ho1]
       have HV:Hid (r=false):=by
        show _=_
        rw[HR.out]
        simp[*]
       clear HR
       go_enter Tryz.func123,Tryz.ntmps123
       go_wp2_with fail
       refine(HC1.out _ HB0.out).mono ?_
       rintro e wq ⟨rfl,rfl⟩
       go_wp2_with fail
       refine(HC2.out _ HB0.out).mono ?_
       rintro e wq ⟨rfl,rfl⟩
       go_wp2_with fail
       go_ret
       exact⟨by rw[HV.out];rfl,HB0.out⟩
   ·have hc2_0:10<xa:=by omega
    have hc2_1:decide (xa<=10)=false:=decide_eq_false (by omega)
    have HV:Hid (r=false):=by
     show _=_
     rw[HR.out]
     simp[*]
    clear HR
    go_enter Tryz.func123,Tryz.ntmps123
    go_wp2_with fail
    refine(HC1.out _ HB0.out).mono ?_
    rintro e wq ⟨rfl,rfl⟩
    go_wp2_with fail
    go_ret
    exact⟨by rw[HV.out];rfl,HB0.out⟩
  ·have hc1_0:xa < -1:=by omega
   have hc1_1:decide (-1<=xa)=false:=decide_eq_false (by omega)
   have HV:Hid (r=false):=by
    show _=_
    rw[HR.out]
    simp[*]
   clear HR
   go_enter Tryz.func123,Tryz.ntmps123
   go_wp2_with fail
   refine(HC1.out _ HB0.out).mono ?_
   rintro e wq ⟨rfl,rfl⟩
   go_wp2_with fail
   go_ret
   exact⟨by rw[HV.out];rfl,HB0.out⟩
theorem var_r (w:World) (x:Ob.Gl) (hx:x.name.length<=1000000000) :
  Calls Tryz.prog 126 #[.agg #[.string (bs x.name),.int .i64 x.at',.int .i64 x.len,.bool x.seen]] w fun e w'=>e=.returned (.bool (Ob.varB x))/\Below w.heap.size w w':=by
 have HC1:Hid (∀ W,Below w.heap.size w W->Calls Tryz.prog 121 #[.string (bs x.name)] W fun e w'=>e=.returned (.bool (Ob.nameB x.name))/\w'=W):=fun W _=>kJ W x.name hx
 have HC2:Hid (∀ W,Below w.heap.size w W->Calls Tryz.prog 170 #[.int .i64 x.len] W fun e w'=>e=.returned (.bool (Ob.lenB x.len))/\w'=W):=fun W _=>len_any W x.len
 have HR:Hid (Ob.varB x=(Ob.nameB x.name && (decide (x.at'=0) && Ob.lenB x.len))):=rfl
 generalize Ob.varB x=r at *
 generalize Ob.nameB x.name=b1 at *
 generalize Ob.lenB x.len=b2 at *
 generalize x.at'=xa at *
 have HB0:Hid (Below w.heap.size w (w.alloc (.cells #[.string (bs x.name),.int .i64 xa,.int .i64 x.len,.bool x.seen] 118))):=(Below.refl _ _).alloc (Nat.le_refl _) _
 cases b1 with
 | false =>
  have HV:Hid (r=false):=by
   show _=_
   rw[HR.out]
   simp[*]
  clear HR
  go_enter Tryz.func126,Tryz.ntmps126
  go_wp2_with fail
  refine(HC1.out _ HB0.out).mono ?_
  rintro e wq ⟨rfl,rfl⟩
  go_wp2_with fail
  go_ret
  exact⟨by rw[HV.out];rfl,HB0.out⟩
 | true =>
  by_cases hc1:xa=0
  ·have hc1_0:(xa == 0)=true:=by simp[hc1]
   cases b2 with
   | false =>
    have HV:Hid (r=false):=by
     show _=_
     rw[HR.out]
     simp[*]
    clear HR hc1
    go_enter Tryz.func126,Tryz.ntmps126
    go_wp2_with fail
    refine(HC1.out _ HB0.out).mono ?_
    rintro e wq ⟨rfl,rfl⟩
    go_wp2_with fail
    refine(HC2.out _ HB0.out).mono ?_
    rintro e wq ⟨rfl,rfl⟩
    go_wp2_with fail
    go_ret
    exact⟨by rw[HV.out];rfl,HB0.out⟩
   | true =>
    have HV:Hid (r=true):=by
     show _=_
     rw[HR.out]
     simp[*]
    clear HR hc1
    go_enter Tryz.func126,Tryz.ntmps126
    go_wp2_with fail
    refine(HC1.out _ HB0.out).mono ?_
    rintro e wq ⟨rfl,rfl⟩
    go_wp2_with fail
    refine(HC2.out _ HB0.out).mono ?_
    rintro e wq ⟨rfl,rfl⟩
    go_wp2_with fail
    go_ret
    exact⟨by rw[HV.out];rfl,HB0.out⟩
  ·have hc1_0:(xa == 0)=false:=by simp[hc1]
   have HV:Hid (r=false):=by
    show _=_
    rw[HR.out]
    simp[*]
   clear HR
   go_enter Tryz.func126,Tryz.ntmps126
   go_wp2_with fail
   refine(HC1.out _ HB0.out).mono ?_
   rintro e wq ⟨rfl,rfl⟩
   go_wp2_with fail
   go_ret
   exact⟨by rw[HV.out];rfl,HB0.out⟩
theorem cfName (args:Array Value) (w:World):(callFunc 121 args).run Tryz.prog w=.ok (.enter 121 args) w:=by kernel_rfl
theorem use_r {w:World}(x:Ob.Us) (na:Option Addr) (nc:Nat) (hS:Sl w (.slice na x.names.length nc) 1 x.names.length (cellsOf stC x.names)) (hx:x.name.length<=1000000000) (hl:x.names.length<=140737488355328) (hn:∀ y∈x.names,y.length<=1000000000) :
  Calls Tryz.prog 120 #[.agg #[.string (bs x.name),.string (bs x.need),.slice na x.names.length nc]] w fun e w'=>e=.returned (.bool (Ob.useB x))/\Below w.heap.size w w':=by
 have HC1:Hid (∀ W,Below w.heap.size w W->Calls Tryz.prog 121 #[.string (bs x.name)] W fun e w'=>e=.returned (.bool (Ob.nameB x.name))/\w'=W):=fun W _=>kJ W x.name hx
 have HC2:Hid (∀ W,Below w.heap.size w W->Calls Tryz.prog 130 #[.slice na x.names.length nc,.int .i64 100,.func (.func 121) #[] #[]] W fun e w'=>e=.returned (.bool (Ob.allB Ob.nameB 100 x.names))/\Below W.heap.size W w'):=fun W hW=>allStr (hS.below hW) hl 100 (by omega) cfName (fun W' y hy _=>(kJ W' y (hn y hy)).mono (fun e w' h=>⟨h.1,by rw[h.2];exact Below.refl _ _⟩))
 have hsz:=yn x.need
 have HR:Hid (Ob.useB x=(Ob.nameB x.name && (decide (x.need.length<=4000) && Ob.allB Ob.nameB 100 x.names))):=rfl
 generalize Ob.useB x=r at *
 generalize Ob.nameB x.name=b1 at *
 generalize Ob.allB Ob.nameB 100 x.names=b2 at *
 clear hS hn
 have HB0:Hid (Below w.heap.size w (w.alloc (.cells #[.string (bs x.name),.string (bs x.need),.slice na x.names.length nc] 128))):=(Below.refl _ _).alloc (Nat.le_refl _) _
 cases b1 with
 | false =>
  have HV:Hid (r=false):=by
   show _=_
   rw[HR.out]
   simp[*]
  clear HR
  go_enter Tryz.func120,Tryz.ntmps120
  go_wp2_with fail
  refine(HC1.out _ HB0.out).mono ?_
  rintro e wq ⟨rfl,rfl⟩
  go_wp2_with fail
  go_ret
  exact⟨by rw[HV.out];rfl,HB0.out⟩
 | true =>
  by_cases hc1:x.need.length<=4000
  ·have hc1_0:((bs x.need).size:Int)<=4000:=by omega
   have hc1_1:(x.need.length:Int)<=4000:=by omega
   have hc1_2:decide (x.need.length<=4000)=true:=decide_eq_true (by omega)
   cases b2 with
   | false =>
    have HV:Hid (r=false):=by
     show _=_
     rw[HR.out]
     simp[*]
    clear HR
    go_enter Tryz.func120,Tryz.ntmps120
    go_wp2_with fail
    refine(HC1.out _ HB0.out).mono ?_
    rintro e wq ⟨rfl,rfl⟩
    go_wp2_with fail
    refine(HC2.out _ HB0.out).mono ?_
    rintro e wq1 ⟨rfl,hq1⟩
    have HB2:=Lib.hid (HB0.out.trans (hq1.mono HB0.out.size))
    clear hq1
    go_wp2_with fail
    go_ret
    exact⟨by rw[HV.out];rfl,HB2.out⟩
   | true =>
    have HV:Hid (r=true):=by
     show _=_
     rw[HR.out]
     simp[*]
    clear HR
    go_enter Tryz.func120,Tryz.ntmps120
    go_wp2_with fail
    refine(HC1.out _ HB0.out).mono ?_
    rintro e wq ⟨rfl,rfl⟩
    go_wp2_with fail
    refine(HC2.out _ HB0.out).mono ?_
    rintro e wq1 ⟨rfl,hq1⟩
    have HB2:=Lib.hid (HB0.out.trans (hq1.mono HB0.out.size))
    clear hq1
    go_wp2_with fail
    go_ret
    exact⟨by rw[HV.out];rfl,HB2.out⟩
  ·have hc1_0:(4000:Int)<(x.need.length:Int):=by omega
   have hc1_1:decide (x.need.length<=4000)=false:=decide_eq_false (by omega)
   have HV:Hid (r=false):=by
    show _=_
    rw[HR.out]
    simp[*]
   clear HR
   go_enter Tryz.func120,Tryz.ntmps120
   go_wp2_with fail
   refine(HC1.out _ HB0.out).mono ?_
   rintro e wq ⟨rfl,rfl⟩
   go_wp2_with fail
   go_ret
   exact⟨by rw[HV.out];rfl,HB0.out⟩
theorem below_drewN (w:World) (q:Nat):Below w.heap.size w (w.drewN q):=by
 refine⟨?_,?_,?_,?_,fun k _=>?_⟩ <;> simp[World.drewN]
theorem cfOther (args:Array Value) (w:World):(callFunc 119 args).run Tryz.prog w=.ok (.enter 119 args) w:=by kernel_rfl
theorem bs_beq (a b:Bs):((bs a).toList == (bs b).toList)=decide (a=b):=by rw[zy,zy,Bool.eq_iff_iff];simp
theorem other_r {w:World}(x:Ob.Us) (na:Option Addr) (nc:Nat) (nm:Bs) {cb b o:Nat}(hcb:w.cell? ⟨cb,0,none⟩=some (.pointer (some ⟨b,o,none⟩))) (hnm:w.cell? ⟨b,o,none⟩=some (.string (bs nm))) (hS:Sl w (.slice na x.names.length nc) 1 x.names.length (cellsOf stC x.names)) (hx:x.name.length<=1000000000) (hl:x.names.length<=140737488355328) (hn:∀ y∈x.names,y.length<=1000000000) :
  Calls Tryz.prog 119 #[.agg #[.string (bs x.name),.string (bs x.need),.slice na x.names.length nc],.pointer (some ⟨cb,0,none⟩)] w fun e w'=>e=.returned (.bool (Ob.otherB nm x))/\Below w.heap.size w w':=by
 have hcl:=zc hcb
 have hbl:=zc hnm
 obtain⟨wm,hwm⟩:∃ wm,wm=w.alloc (.cells #[.string (bs x.name),.string (bs x.need),.slice na x.names.length nc] 128):=⟨_,rfl⟩
 have hb0:Below w.heap.size w wm:=by rw[hwm];exact(Below.refl _ _).alloc (Nat.le_refl _) _
 have hblk:wm.heap[w.heap.size]?=some (.cells #[.string (bs x.name),.string (bs x.need),.slice na x.names.length nc] 128 (0,0)):=by rw[hwm];exact zk _ _
 have hsz:w.heap.size<wm.heap.size:=zi hblk
 have k0:wm.cell? ⟨w.heap.size,0,none⟩=some (.string (bs x.name)):=za hblk
 have k1:wm.cell? ⟨w.heap.size,1,none⟩=some (.string (bs x.need)):=za hblk
 have k2:wm.cell? ⟨w.heap.size,2,none⟩=some (.slice na x.names.length nc):=za hblk
 have kc:wm.cell? ⟨cb,0,none⟩=some (.pointer (some ⟨b,o,none⟩)):=(hb0.cell (p:=⟨cb,0,none⟩) hcl).trans hcb
 have kn:wm.cell? ⟨b,o,none⟩=some (.string (bs nm)):=(hb0.cell (p:=⟨b,o,none⟩) hbl).trans hnm
 have HB0:=Lib.hid hb0
 have hbq:=bs_beq x.name nm
 by_cases he:x.name=nm
 ·have heq:((bs x.name).toList == (bs nm).toList)=true:=by rw[hbq];exact decide_eq_true he
  have HR:Hid (Ob.otherB nm x=false):=by show _=_;unfold Ob.otherB;simp[he]
  generalize Ob.otherB nm x=r at *
  clear hbq he hb0 hblk hcb hnm hS hn
  go_enter Tryz.func119,Tryz.ntmps119
  go_wp2_with fail
  rw[<-hwm]
  clear hwm
  go_quiet (fail)
  go_wp2_with fail
  go_ret
  exact⟨by rw[HR.out];rfl,HB0.out.trans ((below_drewN _ _).mono HB0.out.size)⟩
 ·have heq:((bs x.name).toList == (bs nm).toList)=false:=by rw[hbq];exact decide_eq_false he
  have HR:Hid (Ob.otherB nm x=Ob.useB x):=by show _=_;unfold Ob.otherB;simp[he]
  have HC:Hid (∀ W,Below w.heap.size w W->Calls Tryz.prog 120 #[.agg #[.string (bs x.name),.string (bs x.need),.slice na x.names.length nc]] W fun e w'=>e=.returned (.bool (Ob.useB x))/\Below W.heap.size W w'):=fun W hW=>use_r x na nc (hS.below hW) hx hl hn
  generalize Ob.otherB nm x=r at *
  generalize Ob.useB x=d at *
  clear hbq he hb0 hblk hcb hnm hS hn
  have HK:Hid (∀ W,Below wm.heap.size wm W->W.cell? ⟨w.heap.size,0,none⟩=some (.string (bs x.name))/\W.cell? ⟨w.heap.size,1,none⟩=some (.string (bs x.need))/\W.cell? ⟨w.heap.size,2,none⟩=some (.slice na x.names.length nc)/\W.cell? ⟨cb,0,none⟩=some (.pointer (some ⟨b,o,none⟩))/\W.cell? ⟨b,o,none⟩=some (.string (bs nm))) :=
   fun W hW=>⟨(hW.cell (p:=⟨w.heap.size,0,none⟩) hsz).trans k0,(hW.cell (p:=⟨w.heap.size,1,none⟩) hsz).trans k1,(hW.cell (p:=⟨w.heap.size,2,none⟩) hsz).trans k2,(hW.cell (p:=⟨cb,0,none⟩) (zc kc)).trans kc,(hW.cell (p:=⟨b,o,none⟩) (zc kn)).trans kn⟩
  have HK1:=Lib.hid (HK.out _ (zu wm))
  go_enter Tryz.func119,Tryz.ntmps119
  go_wp2_with fail
  rw[<-hwm]
  clear hwm
  go_region_held3 (fun w'=>w'.cell? ⟨w.heap.size,0,none⟩=some (.string (bs x.name))/\w'.cell? ⟨w.heap.size,1,none⟩=some (.string (bs x.need))/\w'.cell? ⟨w.heap.size,2,none⟩=some (.slice na x.names.length nc)/\w'.cell? ⟨cb,0,none⟩=some (.pointer (some ⟨b,o,none⟩))/\w'.cell? ⟨b,o,none⟩=some (.string (bs nm))) (with_reducible (first|exact HK2.out|exact HK1.out)) (first|(go_at_call 120;refine(HC.out _ (HB0.out.trans ((zu wm).mono HB0.out.size))).mono ?_;rintro e w2 ⟨rfl,hb2⟩;have HB2:Hid (Below wm.heap.size wm w2):=(zu wm).trans hb2;have HK2:=Lib.hid (HK.out _ HB2.out);clear hb2))
  go_wp2_with fail
  go_ret
  exact⟨by rw[HR.out];rfl,HB0.out.trans (HB2.out.mono HB0.out.size)⟩
structure Bd (O:Ob.O):Prop where
 nm:O.name.length<=1000000000
 sl:O.syms.length<=1000000
 s:∀ x∈O.syms,x.name.length<=1000000000
 ul:O.uses.length<=1000000
 u:∀ x∈O.uses,x.name.length<=1000000000/\x.names.length<=1000000/\∀ y∈x.names,y.length<=1000000000
 vl:O.vars.length<=1000000
 v:∀ x∈O.vars,x.name.length<=1000000000
 pl:O.procs.length<=1000000
 nl:O.names.length<=1000000
 n:∀ x∈O.names,x.length<=1000000000
 cl:O.code.length<=1000000
 c:∀ x∈O.code,Ob.I64 x.a
theorem cfSym51 (args:Array Value) (w:World):(callFunc 123 args).run Tryz.prog w=.ok (.enter 123 args) w:=by kernel_rfl
theorem cfVar54 (args:Array Value) (w:World):(callFunc 126 args).run Tryz.prog w=.ok (.enter 126 args) w:=by kernel_rfl
theorem head_r {w:World}{b o:Nat}{O:Ob.O}{sa ua va pa na ca:Option Addr}{sc uc vc pc nc cc:Nat}(hV:OV w b o O sa ua va pa na ca sc uc vc pc nc cc) (hB:Bd O) :
  Calls Tryz.prog 80 #[.pointer (some ⟨b,o,none⟩)] w fun e w'=>e=.returned (.bool (Ob.headB O))/\Below w.heap.size w w':=by
 have hmf:∀(fn:Fn) (first cap:Array Value) (w:World),(Instr.makeFunc fn first cap).run Tryz.prog w=.ok (.func fn first cap) w:=fun _ _ _ _=>rfl
 have hbl:=zc hV.c0
 obtain⟨w1,hw1⟩:∃ w1,w1=w.alloc (.cells #[.pointer (some ⟨b,o,none⟩)] 36):=⟨_,rfl⟩
 have hb0:Below w.heap.size w w1:=by rw[hw1];exact(Below.refl _ _).alloc (Nat.le_refl _) _
 have hblk:w1.heap[w.heap.size]?=some (.cells #[.pointer (some ⟨b,o,none⟩)] 36 (0,0)):=by rw[hw1];exact zk _ _
 have hsz:w.heap.size<w1.heap.size:=zi hblk
 have kb:w1.cell? ⟨w.heap.size,0,none⟩=some (.pointer (some ⟨b,o,none⟩)):=za hblk
 have hV1:=hV.below hb0
 have HB0:=Lib.hid hb0
 have HW1:=Lib.hid hw1
 clear hw1
 have HK:Hid (∀ W,Below w1.heap.size w1 W->W.cell? ⟨w.heap.size,0,none⟩=some (.pointer (some ⟨b,o,none⟩))/\W.cell? ⟨b,o,none⟩=some (.string (bs O.name))/\W.cell? ⟨b,o+1,none⟩=some (.slice sa O.syms.length sc)/\W.cell? ⟨b,o+2,none⟩=some (.slice ua O.uses.length uc)/\W.cell? ⟨b,o+3,none⟩=some (.slice va O.vars.length vc)/\b<W.heap.size/\w.heap.size<W.heap.size) :=
  fun W hW=>⟨(hW.cell (p:=⟨w.heap.size,0,none⟩) hsz).trans kb,(hV1.below hW).c0,(hV1.below hW).c1,(hV1.below hW).c2,(hV1.below hW).c3,zc (hV1.below hW).c0,Nat.lt_of_lt_of_le hsz hW.size⟩
 have HC1:Hid (∀ W,Below w1.heap.size w1 W->Calls Tryz.prog 121 #[.string (bs O.name)] W fun e w'=>e=.returned (.bool (Ob.nameB O.name))/\w'=W):=fun W _=>kJ W O.name hB.nm
 have HC2:Hid (∀ W,Below w1.heap.size w1 W->Calls Tryz.prog 122 #[.slice sa O.syms.length sc,.int .i64 20,.func (.func 123) #[] #[]] W fun e w'=>e=.returned (.bool (Ob.allB Ob.symB 20 O.syms))/\Below W.heap.size W w') :=
  fun W hW=>allSym (hV1.below hW).s (by have:=hB.sl;omega) 20 (by omega) cfSym51 (fun W' y hy _=>sym_r W' y (hB.s y hy))
 have HC3:Hid (∀ W,Below w1.heap.size w1 W->Calls Tryz.prog 124 #[.slice ua O.uses.length uc,.int .i64 6,.func (.func 119) #[] #[.pointer (some ⟨w.heap.size,0,none⟩)]] W fun e w'=>e=.returned (.bool (Ob.allB (Ob.otherB O.name) 6 O.uses))/\Below W.heap.size W w') :=
  fun W hW=>by
   obtain⟨ucs,hu1,hu2⟩:=(hV1.below hW).u
   exact allUs hu1 hu2 (by have:=hB.ul;omega) 6 (by omega) cfOther (fun W' y na' nc' hy hW' hs=>other_r y na' nc' O.name ((hW'.cell (p:=⟨w.heap.size,0,none⟩) (show w.heap.size<W.heap.size by have:=hW.size;omega)).trans ((hW.cell (p:=⟨w.heap.size,0,none⟩) hsz).trans kb)) ((hV1.below hW).below hW').c0 hs (hB.u y hy).1 (by have:=(hB.u y hy).2.1;omega) (hB.u y hy).2.2)
 have HC4:Hid (∀ W,Below w1.heap.size w1 W->Calls Tryz.prog 125 #[.slice va O.vars.length vc,.int .i64 10,.func (.func 126) #[] #[]] W fun e w'=>e=.returned (.bool (Ob.allB Ob.varB 10 O.vars))/\Below W.heap.size W w') :=
  fun W hW=>allGl (hV1.below hW).v (by have:=hB.vl;omega) 10 (by omega) cfVar54 (fun W' y hy _=>var_r W' y (hB.v y hy))
 have HR:Hid (Ob.headB O=(Ob.nameB O.name && (Ob.allB Ob.symB 20 O.syms && (Ob.allB (Ob.otherB O.name) 6 O.uses && Ob.allB Ob.varB 10 O.vars)))):=rfl
 generalize Ob.headB O=r at *
 generalize Ob.nameB O.name=b1 at *
 generalize Ob.allB Ob.symB 20 O.syms=b2 at *
 generalize Ob.allB (Ob.otherB O.name) 6 O.uses=b3 at *
 generalize Ob.allB Ob.varB 10 O.vars=b4 at *
 have hc0:=hV.c0
 clear hB hV1 hblk hb0 kb hV
 cases b1 with
 | false =>
  have HV:Hid (r=false):=by
   show _=_
   rw[HR.out]
   simp[*]
  clear HR
  obtain⟨f0,f1,f2,f3,f4,f5,f6⟩:=HK.out w1 (Below.refl _ _)
  go_enter Tryz.func80,Tryz.ntmps80
  go_wp2_with fail
  rw[<-HW1.out]
  clear HW1
  refine(HC1.out _ (Below.refl w1.heap.size w1)).mono ?_
  rintro e wq ⟨rfl,hwq⟩
  rw[hwq]
  clear hwq
  go_wp2_with fail
  go_ret
  exact⟨by rw[HV.out];rfl,HB0.out.trans ((Below.refl w1.heap.size w1).mono HB0.out.size)⟩
 | true =>
  cases b2 with
  | false =>
   have HV:Hid (r=false):=by
    show _=_
    rw[HR.out]
    simp[*]
   clear HR
   obtain⟨f0,f1,f2,f3,f4,f5,f6⟩:=HK.out w1 (Below.refl _ _)
   go_enter Tryz.func80,Tryz.ntmps80
   go_wp2_with fail
   rw[<-HW1.out]
   clear HW1
   refine(HC1.out _ (Below.refl w1.heap.size w1)).mono ?_
   rintro e wq ⟨rfl,hwq⟩
   rw[hwq]
   clear hwq
   go_wp2_with fail
   refine(HC2.out _ (Below.refl w1.heap.size w1)).mono ?_
   rintro e wq1 ⟨rfl,hq1⟩
   have HQ1:Hid (Below w1.heap.size w1 wq1):=(Below.refl w1.heap.size w1).trans (hq1.mono (Below.refl w1.heap.size w1).size)
   clear hq1 f0 f1 f2 f3 f4 f5 f6
   obtain⟨f0,f1,f2,f3,f4,f5,f6⟩:=HK.out wq1 HQ1.out
   go_wp2_with fail
   go_ret
   exact⟨by rw[HV.out];rfl,HB0.out.trans (HQ1.out.mono HB0.out.size)⟩
  | true =>
   cases b3 with
   | false =>
    have HV:Hid (r=false):=by
     show _=_
     rw[HR.out]
     simp[*]
    clear HR
    obtain⟨f0,f1,f2,f3,f4,f5,f6⟩:=HK.out w1 (Below.refl _ _)
    go_enter Tryz.func80,Tryz.ntmps80
    go_wp2_with fail
    rw[<-HW1.out]
    clear HW1
    refine(HC1.out _ (Below.refl w1.heap.size w1)).mono ?_
    rintro e wq ⟨rfl,hwq⟩
    rw[hwq]
    clear hwq
    go_wp2_with fail
    refine(HC2.out _ (Below.refl w1.heap.size w1)).mono ?_
    rintro e wq1 ⟨rfl,hq1⟩
    have HQ1:Hid (Below w1.heap.size w1 wq1):=(Below.refl w1.heap.size w1).trans (hq1.mono (Below.refl w1.heap.size w1).size)
    clear hq1 f0 f1 f2 f3 f4 f5 f6
    obtain⟨f0,f1,f2,f3,f4,f5,f6⟩:=HK.out wq1 HQ1.out
    go_wp2_with fail
    refine(HC3.out _ HQ1.out).mono ?_
    rintro e wq2 ⟨rfl,hq2⟩
    have HQ2:Hid (Below w1.heap.size w1 wq2):=HQ1.out.trans (hq2.mono HQ1.out.size)
    clear hq2 f0 f1 f2 f3 f4 f5 f6
    obtain⟨f0,f1,f2,f3,f4,f5,f6⟩:=HK.out wq2 HQ2.out
    go_wp2_with fail
    go_ret
    exact⟨by rw[HV.out];rfl,HB0.out.trans (HQ2.out.mono HB0.out.size)⟩
   | true =>
    cases b4 with
    | false =>
     have HV:Hid (r=false):=by
      show _=_
      rw[HR.out]
      simp[*]
     clear HR
     obtain⟨f0,f1,f2,f3,f4,f5,f6⟩:=HK.out w1 (Below.refl _ _)
     go_enter Tryz.func80,Tryz.ntmps80
     go_wp2_with fail
     rw[<-HW1.out]
     clear HW1
     refine(HC1.out _ (Below.refl w1.heap.size w1)).mono ?_
     rintro e wq ⟨rfl,hwq⟩
     rw[hwq]
     clear hwq
     go_wp2_with fail
     refine(HC2.out _ (Below.refl w1.heap.size w1)).mono ?_
     rintro e wq1 ⟨rfl,hq1⟩
     have HQ1:Hid (Below w1.heap.size w1 wq1):=(Below.refl w1.heap.size w1).trans (hq1.mono (Below.refl w1.heap.size w1).size)
     clear hq1 f0 f1 f2 f3 f4 f5 f6
     obtain⟨f0,f1,f2,f3,f4,f5,f6⟩:=HK.out wq1 HQ1.out
     go_wp2_with fail
     refine(HC3.out _ HQ1.out).mono ?_
     rintro e wq2 ⟨rfl,hq2⟩
     have HQ2:Hid (Below w1.heap.size w1 wq2):=HQ1.out.trans (hq2.mono HQ1.out.size)
     clear hq2 f0 f1 f2 f3 f4 f5 f6
     obtain⟨f0,f1,f2,f3,f4,f5,f6⟩:=HK.out wq2 HQ2.out
     go_wp2_with fail
     refine(HC4.out _ HQ2.out).mono ?_
     rintro e wq3 ⟨rfl,hq3⟩
     have HQ3:Hid (Below w1.heap.size w1 wq3):=HQ2.out.trans (hq3.mono HQ2.out.size)
     clear hq3 f0 f1 f2 f3 f4 f5 f6
     obtain⟨f0,f1,f2,f3,f4,f5,f6⟩:=HK.out wq3 HQ3.out
     go_wp2_with fail
     go_ret
     exact⟨by rw[HV.out];rfl,HB0.out.trans (HQ3.out.mono HB0.out.size)⟩
    | true =>
     have HV:Hid (r=true):=by
      show _=_
      rw[HR.out]
      simp[*]
     clear HR
     obtain⟨f0,f1,f2,f3,f4,f5,f6⟩:=HK.out w1 (Below.refl _ _)
     go_enter Tryz.func80,Tryz.ntmps80
     go_wp2_with fail
     rw[<-HW1.out]
     clear HW1
     refine(HC1.out _ (Below.refl w1.heap.size w1)).mono ?_
     rintro e wq ⟨rfl,hwq⟩
     rw[hwq]
     clear hwq
     go_wp2_with fail
     refine(HC2.out _ (Below.refl w1.heap.size w1)).mono ?_
     rintro e wq1 ⟨rfl,hq1⟩
     have HQ1:Hid (Below w1.heap.size w1 wq1):=(Below.refl w1.heap.size w1).trans (hq1.mono (Below.refl w1.heap.size w1).size)
     clear hq1 f0 f1 f2 f3 f4 f5 f6
     obtain⟨f0,f1,f2,f3,f4,f5,f6⟩:=HK.out wq1 HQ1.out
     go_wp2_with fail
     refine(HC3.out _ HQ1.out).mono ?_
     rintro e wq2 ⟨rfl,hq2⟩
     have HQ2:Hid (Below w1.heap.size w1 wq2):=HQ1.out.trans (hq2.mono HQ1.out.size)
     clear hq2 f0 f1 f2 f3 f4 f5 f6
     obtain⟨f0,f1,f2,f3,f4,f5,f6⟩:=HK.out wq2 HQ2.out
     go_wp2_with fail
     refine(HC4.out _ HQ2.out).mono ?_
     rintro e wq3 ⟨rfl,hq3⟩
     have HQ3:Hid (Below w1.heap.size w1 wq3):=HQ2.out.trans (hq3.mono HQ2.out.size)
     clear hq3 f0 f1 f2 f3 f4 f5 f6
     obtain⟨f0,f1,f2,f3,f4,f5,f6⟩:=HK.out wq3 HQ3.out
     go_wp2_with fail
     go_ret
     exact⟨by rw[HV.out];rfl,HB0.out.trans (HQ3.out.mono HB0.out.size)⟩
end Go.Proofs.YtmocelfkmdpogaaGreatDoor.Jo
