import Derived.Test.YtbkndnmglhghlaaGreatDoorKWa
import Derived.Test.YtbkndnmglhghlaaGreatDoorKPb
set_option maxRecDepth 100000
set_option maxHeartbeats 4000000

namespace Go.Proofs.YtbkndnmglhghlaaGreatDoor
open Go.RowKit Go.Maps
open Tp (Bs)
variable {f:Bs->Option Value}{b n:Nat}{w:World}
def heldV (v:Value):Option (DataW Value×List MemPlace):=some (.held v,[])
theorem skey:Keyed Tryz.prog 9:=string_keyed Tryz.underlying9
structure MapV (w:World) (b n:Nat) (f:Bs->Option Value):Prop where
 own:∃D,w.ownsMap Tryz.prog 9 heldV b n D/\∀s,Maps.has D (.string s)=(f s).isSome/\∀v,f s=some v->∀z,D.atKey (.string s) z=.held v
theorem MapV.made (w:World):MapV (w.alloc (.map #[] 0)) w.heap.size 0 (fun _=>none) :=
 ⟨⟨.map [],World.ownsMap_made _ _ _ _,fun s=>⟨rfl,fun v h=>by cases h⟩⟩⟩
theorem MapV.on {w':World}(h:MapV w b n f)(k:w'.heap[b]?=w.heap[b]?):MapV w' b n f:=by
 obtain⟨D,⟨a,clock,c,d⟩,e⟩:=h.own
 exact⟨⟨D,⟨a,clock,k.trans c,d⟩,e⟩⟩
theorem MapV.lt {w:World}{b n:Nat}{f:Bs->Option Value}(h:MapV w b n f):b<w.heap.size:=by
 obtain⟨D,a,_⟩:=h.own
 exact a.lt
theorem xw (l:Bs)(a:l.length<=1000000):keyOf Tryz.prog 9 (.string (bs l))=some (.string l):=by
 have:=Go.WideMaps.keyOf_string_mk (P:=Tryz.prog) (k:=9) Tryz.underlying9 (s:=bs l) (by simp[bs,ByteArray.size,maxLen];omega)
 simpa[bs] using this
theorem MapV.look (h:MapV w b n f){t e:TypeId}(p:Tryz.prog.underlying t=some (.map 9 e)){z:Value}(q:(zeroValue e).run Tryz.prog w=.ok z w)(l:Bs)(o:l.length<=1000000)(c:Bool) :
  (Instr.lookup t (.map (some b)) (.string (bs l)) c).run Tryz.prog w=.ok (if c then .tuple #[(f l).getD z,.bool (f l).isSome] else (f l).getD z) w:=by
 obtain⟨D,k,x⟩:=h.own
 obtain⟨d,s⟩:=x l
 have r:∀v,heldV v=some (D.atKey (.string l) (.held z),([]:List MemPlace))->v=(f l).getD z:=by
  intro v a
  unfold heldV at a
  simp only[Option.some.injEq,Prod.mk.injEq,and_true]at a
  cases m:f l with
  |none =>
   rw[m]at d
   rw[atKey_of_not_has d]at a
   injection a
  |some u =>
   rw[s u m]at a
   injection a
 have j:∀v ps,heldV v=some (D.atKey (.string l) (.held z),ps)->v=(f l).getD z:=by
  intro v ps a
  refine r v ?_
  unfold heldV at a ⊢
  simp only[Option.some.injEq,Prod.mk.injEq]at a ⊢
  exact⟨a.1,trivial⟩
 cases c with
 |true =>
  obtain⟨v,ps,g,i⟩:=k.look_ok skey p q (zd:=.held z) (zp:=[]) rfl (xw l o)
  rw[g,j v ps i,d]
  rfl
 |false =>
  obtain⟨v,ps,g,i⟩:=k.lookup skey p q (zd:=.held z) (zp:=[]) rfl (xw l o)
  rw[g,j v ps i]
  rfl
theorem yX (w:World){t e:TypeId}(b:Tryz.prog.underlying t=some (.map 9 e)){z:Value}(d:(zeroValue e).run Tryz.prog w=.ok z w)(l:Bs)(a:l.length<=1000000)(c:Bool) :
  (Instr.lookup t (.map none) (.string (bs l)) c).run Tryz.prog w=.ok (if c then .tuple #[z,.bool false] else z) w:=Maps.look_nil c skey b d (xw l a)
def updV (f:Bs->Option Value) (k:Bs) (v:Value):Bs->Option Value:=fun s=>if s=k then some v else f s
theorem MapV.store {w:World}{b n:Nat}{f:Bs->Option Value}(h:MapV w b n f){t e:TypeId}(y:Tryz.prog.underlying t=some (.map 9 e))(G:n<1000000)(l:Bs)(x:l.length<=1000000)(v:Value) :
  ∃w',(Instr.mapUpdate t (.map (some b)) (.string (bs l)) v).run Tryz.prog w=.ok () w'/\MapV w' b (n+1) (updV f l v)/\Ext b w w'/\w'.heap.size=w.heap.size:=by
 obtain⟨D,m,o⟩:=h.own
 obtain⟨w',A,B,q⟩:=m.store skey y (by unfold maxLen;omega) (xw l x) (d:=.held v) (ps:=[]) rfl
 have p:=m.isMap
 refine⟨w',A,⟨⟨_,B,fun s=>?_⟩⟩,?_,?_⟩
 ·by_cases i:s=l
  ·subst i
   have c:WideAt.IsKeyLit (.string s):=by simp[WideAt.IsKeyLit]
   refine⟨by rw[has_put_same p c];simp[updV],fun u a z=>?_⟩
   rw[atKey_put_same p c]
   simp[updV]at a
   rw[a]
  ·have j:(Lit.string s)≠.string l:=fun e=>i (by injection e)
   refine⟨by rw[has_put_other j,(o s).1];simp[updV,i],fun u a z=>?_⟩
   rw[atKey_put_other j]
   simp[updV,i]at a
   exact(o s).2 u a z
 ·have g:=q.grown
  exact⟨g.os,g.tape,g.output,g.size,fun k c r=>g.block k c (fun e=>r (by injection e))⟩
 ·obtain⟨F,clock,E,C,_,rfl⟩:=q
  simp[ChangeMaps.setBlock]
end Go.Proofs.YtbkndnmglhghlaaGreatDoor
