import Derived.Test.YtbkndnmglhghlaaGreatDoorRows
import Derived.WalkSpells
import Derived.WalkLawsBesides
import Derived.Lib.Hide
import Derived.RegionDies
import Derived.Deep.DeepCutAuto
import Derived.Deep.RegionHeld3
import Derived.BigQuiet
set_option maxRecDepth 100000
set_option maxHeartbeats 4000000

namespace Ob
abbrev Bs:=List UInt8
def I64 (n:Int):Prop:=-9223372036854775808<=n/\n<=9223372036854775807
structure Sm where
 name:Bs
 len:Int
 args:Int
structure Us where
 name:Bs
 need:Bs
 names:List Bs
structure Gl where
 name:Bs
 at':Int
 len:Int
 seen:Bool
structure En where
 at':Int
 args:Int
 locals:Int
structure In where
 op:Int
 a:Int
 b:Int
structure O where
 name:Bs
 syms:List Sm
 uses:List Us
 vars:List Gl
 procs:List En
 names:List Bs
 code:List In
def good (i:Nat) (c:UInt8):Bool:=(decide (97<=c.toNat)&&decide (c.toNat<=122)) || ((decide (48<=c.toNat)&&decide (c.toNat<=57))&&!decide (i=0))
def nameB (s:Bs):Bool:=decide (∀i (h:i<s.length),good i s[i]=true)&&(decide (1<=s.length)&&decide (s.length<=10))
def lenB (n:Int):Bool:=decide (0<=n)&&decide (n<=30)
def countsB (n:Int) (many:Nat):Bool:=decide (0<=n)&&decide (n<(many:Int))
def allB {α:Type}(p:α->Bool) (most:Nat) (l:List α):Bool:=decide (l.length<=most)&&!(l.any fun x=>!p x)
def symB (s:Sm):Bool:=nameB s.name&&(decide (-1<=s.args)&&(decide (s.args<=10)&&(lenB s.len&&(decide (s.args<0) || decide (s.len=0)))))
def useB (u:Us):Bool:=nameB u.name&&(decide (u.need.length<=4000)&&allB nameB 100 u.names)
def otherB (nm:Bs) (u:Us):Bool:=decide (u.name≠nm)&&useB u
def varB (g:Gl):Bool:=nameB g.name&&(decide (g.at'=0)&&lenB g.len)
def headB (o:O):Bool:=nameB o.name&&(allB symB 20 o.syms&&(allB (otherB o.name) 6 o.uses&&allB varB 10 o.vars))
def entB (n:Nat) (e:En):Bool:=countsB e.at' n&&(decide (0<=e.args)&&(decide (e.args<=e.locals)&&decide (e.locals<=10)))
def procsB (o:O):Bool:=allB (entB o.code.length) 10 o.procs&&(decide (o.names.length=o.procs.length)&&allB nameB 10 o.names)
def choices (o:O) (op:Int):Nat :=
 if op=3\/op=4 then 10 else if op=6\/op=8 then o.vars.length else if op=9 then 11 else if op=12\/op=13 then o.code.length
 else if op=2\/op=10\/op=11\/op=15\/op=16\/op=17 then 1 else 0
def reachB (o:O) (x:In) (own:Nat):Bool:=if x.b=-1 then countsB x.a own else countsB x.b o.uses.length&&countsB x.a ((o.uses[x.b.toNat]?.map fun u=>u.names.length).getD 0)
def instB (o:O) (x:In):Bool :=
 if x.op=5\/x.op=7 then reachB o x o.vars.length else if x.op=14 then reachB o x o.procs.length else if x.op=1 then decide (x.b=0) else decide (x.b=0)&&countsB x.a (choices o x.op)
def lastB (o:O):Bool:=match o.code.getLast? with
 |none=>false
 |some x=>decide (x.op=12) || (decide (x.op=15) || decide (x.op=17))
def codeB (o:O):Bool:=allB (instB o) 4000 o.code&&lastB o
def rightB (o:O):Bool:=headB o&&(procsB o&&codeB o)
theorem allB_le {α:Type}{p:α->Bool}{most:Nat}{l:List α}(h:allB p most l=true):l.length<=most/\∀x∈l,p x=true:=by
 unfold allB at h
 simp only[Bool.and_eq_true,decide_eq_true_eq,Bool.not_eq_true',List.any_eq_false]at h
 exact⟨h.1,fun x a=>by have:=h.2 x a;simpa using this⟩
theorem nameB_len {s:Bs}(h:nameB s=true):s.length<=10:=by
 unfold nameB at h
 simp only[Bool.and_eq_true,decide_eq_true_eq]at h
 exact h.2.2
theorem choices_op {o:O}{op:Int}(h:0<choices o op):1<=op/\op<=17:=by
 unfold choices at h
 split at h
 ·omega
 ·split at h
  ·omega
  ·split at h
   ·omega
   ·split at h
    ·omega
    ·split at h
     ·omega
     ·omega
end Ob

namespace Go.Proofs.YtbkndnmglhghlaaGreatDoor.Jo
open Go.RowKit
open Ob (Bs)
variable {xs:List Value}{B a b e i n size:Nat}{t:TypeId}{v:Value}{w w':World}
theorem zb (w:World)(a:Obj):Below w.heap.size w (w.alloc a):=(Below.refl _ _).alloc (Nat.le_refl _) _
theorem zn:n<=n:=Nat.le_refl n
theorem zh {p:Prop}(h:p):Hid p:=Lib.hid h
theorem zm:∀(fn:Fn) (first cap:Array Value) (w:World),(Instr.makeFunc fn first cap).run Tryz.prog w=.ok (.func fn first cap) w:=fun _ _ _ _=>rfl
theorem zq {α:Type}(a:α):∃b,b=a:=⟨a,rfl⟩
theorem ze {P:Program}{f:Func}{Q:Ending->World->Prop}{a:Act}(h:f.results=#[])(d:a.defers=[])(q:Q (.returned (.tuple #[])) w):bodyPost P f Q .normal a w:=bodyPost_end (results_none h _ _ _) d q
def bs (l:List UInt8):ByteArray:=⟨l.toArray⟩
theorem zk (l:List UInt8):(bs l).toList=l:=by
 rw[ByteArray.toList_eq];simp[bs]
theorem xR (l:List UInt8):(bs l).size=l.length:=by simp[bs,ByteArray.size]
theorem bs_inj {a b:List UInt8}(h:bs a=bs b):a=b:=by have:=congrArg ByteArray.toList h;rwa [zk,zk]at this
theorem bs_data (s:ByteArray):bs s.data.toList=s:=by simp[bs]
structure Ext (b:Nat) (w w':World):Prop where
 os:w'.os=w.os
 tape:w'.tape=w.tape
 output:w'.output=w.output
 size:w.heap.size<=w'.heap.size
 block:∀k,k<w.heap.size->k≠b->w'.heap[k]?=w.heap[k]?
theorem Ext.refl (b:Nat)(w:World):Ext b w w:=⟨rfl,rfl,rfl,Nat.le_refl _,fun _ _ _=>rfl⟩
theorem Ext.trans {b:Nat}{d e f:World}(h:Ext b d e)(k:Ext b e f):Ext b d f :=
 ⟨k.os.trans h.os,k.tape.trans h.tape,k.output.trans h.output,Nat.le_trans h.size k.size,fun i c a=>(k.block i (Nat.lt_of_lt_of_le c h.size) a).trans (h.block i c a)⟩
theorem Ext.below (h:Below w.heap.size w w'):Ext b w w':=⟨h.os,h.tape,h.output,h.size,fun k a _=>h.block k a⟩
theorem Ext.set (h:Ext b w w')(j:Nat)(u:Value):Ext b w (w'.setCell ⟨b,j,none⟩ u) :=
 ⟨h.os,h.tape,h.output,by simpa using h.size,fun k c a=>by rw[Below.heap_setCell _ _ _ _ (by simpa using a)];exact h.block k c a⟩
theorem Ext.cell {b:Nat}{w w':World}(h:Ext b w w'){a:Addr}{v:Value}(c:w.cell? a=some v)(d:a.block≠b):w'.cell? a=some v:=by
 rw[World.cell?_of_block (w:=w) (h.block a.block (World.block_lt_of_cell? _ _ c) d)];exact c
theorem Ext.toBelow (h:Ext b w w')(c:B<=b)(a:B<=w.heap.size):Below B w w':=⟨h.os,h.tape,h.output,h.size,fun k d=>h.block k (by omega) (by omega)⟩
theorem zg {j:Nat}(h:w.cell? ⟨b,j,none⟩=some v):b<w.heap.size:=World.block_lt_of_cell? _ _ h
theorem za {a:Array Value}(h:w.heap[b]?=some (.cells a t (0,0))):w.cell? ⟨b,i,none⟩=a[i]?:=by
 simp[World.cell?,h]
theorem zi {a:Array Value}(h:w.heap[b]?=some (.cells a t (0,0))):w.frozen? ⟨b,i,none⟩=false:=by
 simp[World.frozen?,h]
theorem zy {a:Array Value}(i:Nat)(v:Value)(h:w.heap[b]?=some (.cells a t (0,0))):(w.setCell ⟨b,i,none⟩ v).heap[b]?=some (.cells (a.setIfInBounds i v) t (0,0)):=by
 exact heap_setCell_same w b i a t v h
theorem zc {a:Obj}(h:w.heap[b]?=some a):b<w.heap.size:=by rw[Array.getElem?_eq_some_iff]at h;exact h.1
theorem zl (w:World)(a:Obj):(w.alloc a).heap[w.heap.size]?=some a:=by show (w.heap.push _)[w.heap.size]?=_;simp
theorem zu (h:Below B w w')(a:B<=b)(i:Nat)(v:Value):Below B w (w'.setCell ⟨b,i,none⟩ v):=h.setCell a v
theorem z7 (h:w.ownsRow a e size v n xs):∃ao cap,v=.slice ao n cap:=by
 rcases h.2 with⟨rfl,rfl⟩|⟨g,cap,cur,rfl,_⟩
 ·exact⟨_,_,rfl⟩
 ·exact⟨_,_,rfl⟩
theorem zB (h:w.ownsRow a e size v n xs)(i:∀b,a<=b->b<w.heap.size->v.ownBlock=some b->w'.heap[b]?=w.heap[b]?):w'.ownsRow a e size v n xs:=by
 refine⟨h.1,?_⟩
 rcases h.2 with q|⟨g,cap,f,rfl,c,d,j⟩
 ·exact Or.inl q
 ·exact Or.inr ⟨g,cap,f,rfl,c,(i g c (zc d) rfl).trans d,j⟩
theorem zD (h:w.ownsRow a e size v n xs)(k:Ext b w w')(f:b<a):w'.ownsRow a e size v n xs :=
 zB h (fun i d c _=>k.block i c (by omega))
theorem yP (h:w.ownsRow a e size v n xs)(k:Below w.heap.size w w'):w'.ownsRow a e size v n xs :=
 zB h (fun i _ b _=>k.block i b)
theorem zL (h:w.ownsRow a e size v n xs):∀g,v.ownBlock=some g->a<=g:=by
 intro g b
 rcases h.2 with⟨rfl,rfl⟩|⟨g',cap,cur,rfl,h2,_⟩
 ·simp[Value.ownBlock]at b
 ·simp[Value.ownBlock]at b;omega
theorem Ext.trans' {d e:World}(h:Ext b w d)(a:Below w.heap.size d e):Ext b w e :=
 ⟨a.os.trans h.os,a.tape.trans h.tape,a.output.trans h.output,Nat.le_trans h.size a.size,fun i c f=>(a.block i c).trans (h.block i c f)⟩
def strs (l:List (List UInt8)):List Value:=l.map fun s=>.string (bs s)
theorem yg {P:Program}(w:World)(s:Nat)(t p e:TypeId)(i:TypeInfo)(z:Value)(size d:Nat)(y:P.underlying t=some (.slice e))(x:P.info? e=some i)(H:i.zero=some z)
  (f:i.size=size)(D:i.bytes=d)(F:z.cells.size=size)(E:0<size)
  (v:Value)(n:Nat)(xs:List Value)(h:w.ownsRow s e size v n xs)
  (a:Addr)(m c:Nat)(b:List Value)(o:b.length=m*size)(r:∀j u,b[j]?=some u->w.cell? (a.add j)=some u)(G:∀u∈b,u.oneCell'=true)
  (C:n+m<=maxLen)(B:(n+m)*d<=140737488355328)(K:s<=w.heap.size) :
  ∃q w',(Builtin.append_ #[t,t] p #[v,.slice (some a) m c]).run P w=.ok q w'/\w'.ownsRow s e size q (n+m) (xs++b)/\w.grownBy w' v.ownBlock /\
   (∀g,q.ownBlock=some g->v.ownBlock=some g\/w.heap.size<=g):=by
 obtain⟨q,w',A,N,O,_⟩:=run_append_own (P:=P) w s t p e i z size d y x H f D F E v n xs h a m c b o r G C B K
 refine⟨q,w',A,N,O,?_⟩
 rcases h.2 with⟨rfl,rfl⟩|⟨g,cap,cur,rfl,q1,q2,q3,q4,q5,q6⟩
 ·have M:xs=[]:=List.eq_nil_of_length_eq_zero (by simpa using h.1)
  subst M
  obtain⟨Q,R,s1,s2,_⟩:=run_append_own (P:=P) w w.heap.size t p e i z size d y x H f D F E (.slice none 0 0) 0 [] (World.ownsRow_nil _ _ _ _) a m c b o r G C B zn
  rw[A]at s1
  cases s1
  intro g k
  exact Or.inr (zL s2 g k)
 ·have S:∀j,j<cap*size->w.cell? ⟨g,j,none⟩=cur[j]?:=fun j _=>za q2
  by_cases I:n+m<=cap
  ·have T:n*size+b.length<=cap*size:=by rw[o,<-Nat.add_mul];exact Nat.mul_le_mul_right _ I
   have s1:=run_append_room_cells (P:=P) w t p e i y x g 0 n cap a m c b (by rw[f];exact o) r G I
    (fun j l=>by rw[f,za q2,Nat.zero_add,Array.getElem?_eq_getElem (by omega)];rfl) (fun j l=>zi q2)
   rw[A]at s1
   cases s1
   intro J k
   exact Or.inl k
  ·obtain⟨Q,R,s1,s2,_⟩:=run_append_arg_grows (P:=P) w t p e i z size d y x H f D F E ⟨g,0,none⟩ n cap xs h.1
    (fun j u l=>by
     have L:j<xs.length:=by rw[List.getElem?_eq_some_iff]at l;exact l.1
     rw[Addr.add_lit,za q2,Nat.zero_add,<-Array.getElem?_toList,<-l,<-q6,List.getElem?_take_of_lt (by rw[<-h.1];exact L)])
    a m c b o r (by omega) C B
   rw[A]at s1
   cases s1
   intro J k
   exact Or.inr (zL s2 J k)
theorem zH {P:Program}(w:World){p:Array Oper}{rest:List Oper}{o:Oper}{a:Act}{Q:Exit->Act->World->Prop}(E:o.guard=none)(s x:Operand)(t:TypeId)
  (M:o.op=.call { callee:=.builtin .append,args:=#[s,x],argTypes:=#[t,t] })
  (f:Nat)(e:TypeId)(i:TypeInfo)(z:Value)(size k:Nat)(O:P.underlying t=some (.slice e))(J:P.info? e=some i)(S:i.zero=some z)
  (A:i.size=size)(D:i.bytes=k)(G:z.cells.size=size)(F:0<size)
  (v:Value)(n:Nat)(xs:List Value)(N:a.eval s=v)(B:w.ownsRow f e size v n xs)
  (l:Addr)(m c:Nat)(b:List Value)(R:a.eval x=.slice (some l) m c)(L:b.length=m*size)(y:∀j u,b[j]?=some u->w.cell? (l.add j)=some u)(H:∀u∈b,u.oneCell'=true)
  (C:n+m<=maxLen)(q:(n+m)*k<=140737488355328)(r:f<=w.heap.size)
  (h:∀d w',w'.ownsRow f e size d (n+m) (xs++b)->w.grownBy w' v.ownBlock->(∀g,d.ownBlock=some g->v.ownBlock=some g\/w.heap.size<=g)->wpList P p Q rest (a.put o.dst d) w'):wpList P p Q (o :: rest) a w:=by
 refine wpList_plain E fun K I=>?_
 obtain⟨d,w',T,U,V,W⟩:=yg (P:=P) w f t o.type e i z size k O J S A D G F v n xs B l m c b L y H C q r
 unfold Oper.wp
 simp[execOp,M,resolve,invoke,builtin,N,R,T,Result.andThen]
 exact I _ _ (h d w' U V W)
end Go.Proofs.YtbkndnmglhghlaaGreatDoor.Jo
