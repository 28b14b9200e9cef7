import Derived.Test.YthnoedjbhbkdeaaGreatDoorKMa
import Derived.Test.YthnoedjbhbkdeaaGreatDoorKWb
import Derived.Lib.Hide
import Derived.Deep.RegionHeld3
import Derived.Deep.QuietTactic
import Derived.BigQuiet
set_option maxRecDepth 100000
set_option maxHeartbeats 4000000
namespace Go.Proofs.YthnoedjbhbkdeaaGreatDoor
open Go.RowKit Go.Maps
open Tp (Bs)
@[go_sem] theorem zeroTh (w:World):(zeroValue 191).run Tryz.prog w=.ok (.agg #[.int .i64 0,.int .i64 0]) w:=by kernel_rfl
@[go_sem] theorem zeroSyms (w:World):(zeroValue 42).run Tryz.prog w=.ok (.slice none 0 0) w:=by kernel_rfl
theorem ka {w:World}{b:Nat}{v0 v1 v2 v3 v4:Value}{t:TypeId}(h:w.heap[b]?=some (.cells #[v0,v1,v2,v3,v4] t (0,0))):w.cell? ⟨b,0,none⟩=some v0/\w.cell? ⟨b,1,none⟩=some v1/\w.cell? ⟨b,2,none⟩=some v2/\w.cell? ⟨b,3,none⟩=some v3/\w.cell? ⟨b,4,none⟩=some v4 :=
 ⟨(za h).trans rfl,(za h).trans rfl,(za h).trans rfl,(za h).trans rfl,(za h).trans rfl⟩
theorem j8 {b B:Nat}{w w':World}(h:Ext b w w') (hb:B<=b) (hs:B<=w.heap.size):Below B w w' :=
 ⟨h.os,h.tape,h.output,h.size,fun k hk=>h.block k (by omega) (by omega)⟩
theorem zO {w:World}{a:Addr}{v:Value}(h:w.cell? a=some v) (ob:Obj):(w.alloc ob).cell? a=some v:=by
 rw[World.cell?_alloc_lt _ _ _ (World.block_lt_of_cell? _ _ h)];exact h
end Go.Proofs.YthnoedjbhbkdeaaGreatDoor
namespace Go.Proofs.YthnoedjbhbkdeaaGreatDoor
open Go.RowKit Go.Maps
open Tp (Bs Sy)
theorem beq_bs (a b:Bs):((bs a).toList == (bs b).toList)=decide (a=b):=by rw[Bool.eq_iff_iff,decide_eq_true_iff,beq_iff_eq,zv,zv]
def RefB (w:World) (b:Nat) (r:Tp.R):Prop:=∃(n:Int) (op:ByteArray) (lv rv:Option Addr) (aa:Option Addr) (ac:Nat),w.heap[b]?=some (.cells #[.int .i64 (r.code:Int),.int .i64 (r.pos:Int),.int .i64 n,.string (bs r.mod),.string (bs r.name),.string op,.pointer lv,.pointer rv,.slice aa r.args ac] 111 (0,0))
end Go.Proofs.YthnoedjbhbkdeaaGreatDoor
namespace Go.Proofs.YthnoedjbhbkdeaaGreatDoor
open Go.RowKit Go.Maps
open Tp (Bs Sy X S)
theorem rx_cons (x:X) (l:List X):Tp.rx (x :: l)=Tp.rx [x]++Tp.rx l:=by
 obtain⟨code,pos,n,m,nm,op,le,ri,ar⟩:=x
 simp[Tp.rx]
theorem rx_one (code pos n:Nat) (m nm op:Bs) (le ri ar:List X):Tp.rx [⟨code,pos,n,m,nm,op,le,ri,ar⟩]=(if code=2\/code=3\/code=6 then [⟨code,pos,m,nm,ar.length⟩] else [])++(Tp.rx le++(Tp.rx ri++Tp.rx ar)):=by
 simp[Tp.rx]
theorem RepL.get {w:World}{D:Nat->Prop}:∀(l:List X) (vs:List Value),RepL w D l vs->∀ i (h:i<l.length),∃ b,vs[i]?=some (.pointer (some ⟨b,0,none⟩))/\RepL w D [l[i]] [.pointer (some ⟨b,0,none⟩)]:=by
 intro l
 induction l with
 | nil=>intro vs _ i h;simp at h
 | cons x l ih =>
  intro vs h i hi
  obtain⟨code,pos,n,m,nm,op,le,ri,ar⟩:=x
  rw[RepL]at h
  obtain⟨b,av,ls,rs,gs,vs',h1,h2,h3,h4,h5,h6,h7,h8,h9,h10⟩:=h
  subst h1
  cases i with
  | zero =>
   refine⟨b,rfl,?_⟩
   show RepL w D [⟨code,pos,n,m,nm,op,le,ri,ar⟩] _
   rw[RepL]
   exact⟨b,av,ls,rs,gs,[],rfl,h2,h3,h4,h5,h6,h7,h8,h9,by rw[RepL]⟩
  | succ i =>
   obtain⟨b',q1,q2⟩:=ih vs' h10 i (by simpa using hi)
   exact⟨b',by simpa using q1,by simpa using q2⟩
theorem rs_cons (x:S) (l:List S):Tp.rs (x :: l)=Tp.rs [x]++Tp.rs l:=by
 obtain⟨code,pos,nm,ix,vl,th,el⟩:=x
 simp[Tp.rs]
theorem rs_one (code pos:Nat) (nm:Bs) (ix vl:List X) (th el:List S):Tp.rs [⟨code,pos,nm,ix,vl,th,el⟩]=(if code=1 then [⟨if ix.isEmpty then 2 else 3,pos,[],nm,0⟩] else [])++(Tp.rx ix++(Tp.rx vl++(Tp.rs th++Tp.rs el))):=by
 simp[Tp.rs]
theorem RepS.get {w:World}{D:Nat->Prop}:∀(l:List S) (cs:List Value),RepS w D l cs->∀ i (code pos:Nat) (nm:Bs) (ix vl:List X) (th el:List S),l[i]?=some ⟨code,pos,nm,ix,vl,th,el⟩->∃(tv ev:Value) (ls vs tcs ecs:List Value),
  (∀ j,j<7->cs[i * 7+j]?=[.int .i64 (code:Int),.int .i64 (pos:Int),.string (bs nm),ls.headD (.pointer none),vs.headD (.pointer none),tv,ev][j]?)/\RepL w D ix ls/\ls.length<=1/\RepL w D vl vs/\vs.length<=1/\RepS w D th tcs/\OwnS w D tv th.length tcs/\RepS w D el ecs/\OwnS w D ev el.length ecs:=by
 intro l
 induction l with
 | nil=>intro cs _ i _ _ _ _ _ _ _ h;simp at h
 | cons x l ih =>
  intro cs h i code pos nm ix vl th el hi
  obtain⟨code',pos',nm',ix',vl',th',el'⟩:=x
  rw[RepS]at h
  obtain⟨tv,ev,ls,vs,tcs,ecs,cs',h1,h2,h3,h4,h5,h6,h7,h8,h9,h10⟩:=h
  subst h1
  cases i with
  | zero =>
   simp only [List.getElem?_cons_zero,Option.some.injEq,S.mk.injEq]at hi
   obtain⟨rfl,rfl,rfl,rfl,rfl,rfl,rfl⟩:=hi
   refine⟨tv,ev,ls,vs,tcs,ecs,fun j hj=>?_,h2,h3,h4,h5,h6,h7,h8,h9⟩
   rw[Nat.zero_mul,Nat.zero_add,List.getElem?_append_left (by simpa using hj)]
  | succ i =>
   obtain⟨tv',ev',ls',vs',tcs',ecs',q1,q2⟩:=ih cs' h10 i code pos nm ix vl th el (by simpa using hi)
   refine⟨tv',ev',ls',vs',tcs',ecs',fun j hj=>?_,q2⟩
   rw[List.getElem?_append_right (by simp;omega)]
   have:(i+1) * 7+j - [Value.int .i64 (code':Int),.int .i64 (pos':Int),.string (bs nm'),ls.headD (.pointer none),vs.headD (.pointer none),tv,ev].length=i * 7+j:=by simp;omega
   rw[this,q1 j hj]
end Go.Proofs.YthnoedjbhbkdeaaGreatDoor
