import Derived.Test.YtmnedfdffbbchaaGreatDoorRows
import Derived.WalkKit
import Derived.WalkSpells
import Derived.WalkLawsBesides
import Derived.RegionTactic
import Derived.ChangeAlike
import Derived.BigRegion
import Derived.ArgAppend
import Derived.Lib.AppendStr
import Derived.Lib.Hide
import Derived.Deep.RegionWith
import Derived.RegionDies
import Derived.Deep.DeepCutAuto
import Derived.Deep.LoopGhost
import Derived.Deep.RegionHeld3
import Derived.Deep.QuietTactic
import Derived.BigQuiet
set_option maxRecDepth 100000
set_option maxHeartbeats 4000000

namespace Ob
abbrev Bs:=List UInt8
def I64 (n:Int):Prop:=-9223372036854775808<=n/\n<=9223372036854775807
structure Sm where
 name:Bs
 len:Int
 args:Int
structure Us where
 name:Bs
 need:Bs
 names:List Bs
structure Gl where
 name:Bs
 at':Int
 len:Int
 seen:Bool
structure En where
 at':Int
 args:Int
 locals:Int
structure In where
 op:Int
 a:Int
 b:Int
structure O where
 name:Bs
 syms:List Sm
 uses:List Us
 vars:List Gl
 procs:List En
 names:List Bs
 code:List In
end Ob

namespace Go.Proofs.YtmnedfdffbbchaaGreatDoor.Jo
open Go.RowKit
open Ob (Bs)
theorem zb (w:World)(ob:Obj):Below w.heap.size w (w.alloc ob):=(Below.refl _ _).alloc (Nat.le_refl _) _
theorem zn {n:Nat}:n<=n:=Nat.le_refl n
theorem zh {p:Prop}(h:p):Hid p:=Lib.hid h
theorem zm:∀(fn:Fn) (first cap:Array Value) (w:World),(Instr.makeFunc fn first cap).run Tryz.prog w=.ok (.func fn first cap) w:=fun _ _ _ _=>rfl
theorem zq {α:Type}(a:α):∃b,b=a:=⟨a,rfl⟩
theorem ze {P:Program}{f:Func}{Q:Ending->World->Prop}{a:Act}{w:World}(h:f.results=#[])(d:a.defers=[])(q:Q (.returned (.tuple #[])) w):bodyPost P f Q .normal a w:=bodyPost_end (results_none h _ _ _) d q
def bs (l:List UInt8):ByteArray:=⟨l.toArray⟩
theorem zu (l:List UInt8):(bs l).toList=l:=by
 rw[ByteArray.toList_eq];simp[bs]
theorem kP (l:List UInt8):(bs l).size=l.length:=by simp[bs,ByteArray.size]
theorem bs_data (s:ByteArray):bs s.data.toList=s:=by simp[bs]
structure Ext (b:Nat) (w w':World):Prop where
 os:w'.os=w.os
 tape:w'.tape=w.tape
 output:w'.output=w.output
 size:w.heap.size<=w'.heap.size
 block:∀ k,k<w.heap.size->k≠b->w'.heap[k]?=w.heap[k]?
theorem Ext.refl (b:Nat) (w:World):Ext b w w:=⟨rfl,rfl,rfl,Nat.le_refl _,fun _ _ _=>rfl⟩
theorem Ext.trans {b:Nat}{w1 w2 w3:World}(h:Ext b w1 w2) (k:Ext b w2 w3):Ext b w1 w3 :=
 ⟨k.os.trans h.os,k.tape.trans h.tape,k.output.trans h.output,Nat.le_trans h.size k.size,fun i hi hb=>(k.block i (Nat.lt_of_lt_of_le hi h.size) hb).trans (h.block i hi hb)⟩
theorem Ext.below {b:Nat}{w w':World}(h:Below w.heap.size w w'):Ext b w w':=⟨h.os,h.tape,h.output,h.size,fun k hk _=>h.block k hk⟩
theorem Ext.set {b:Nat}{w w':World}(h:Ext b w w') (j:Nat) (u:Value):Ext b w (w'.setCell ⟨b,j,none⟩ u) :=
 ⟨h.os,h.tape,h.output,by simpa using h.size,fun k hk hb=>by rw[Below.heap_setCell _ _ _ _ (by simpa using hb)];exact h.block k hk hb⟩
theorem Ext.toBelow {b B:Nat}{w w':World}(h:Ext b w w') (hb:B<=b) (hB:B<=w.heap.size):Below B w w':=⟨h.os,h.tape,h.output,h.size,fun k hk=>h.block k (by omega) (by omega)⟩
theorem zi {w:World}{b j:Nat}{v:Value}(h:w.cell? ⟨b,j,none⟩=some v):b<w.heap.size:=World.block_lt_of_cell? _ _ h
theorem zc {w:World}{b i:Nat}{cs:Array Value}{t:TypeId}(h:w.heap[b]?=some (.cells cs t (0,0))):w.cell? ⟨b,i,none⟩=cs[i]?:=by
 simp[World.cell?,h]
theorem zr {w:World}{b i:Nat}{cs:Array Value}{t:TypeId}(h:w.heap[b]?=some (.cells cs t (0,0))):w.frozen? ⟨b,i,none⟩=false:=by
 simp[World.frozen?,h]
theorem zC {w:World}{b:Nat}{cs:Array Value}{t:TypeId}(i:Nat) (v:Value) (h:w.heap[b]?=some (.cells cs t (0,0))):(w.setCell ⟨b,i,none⟩ v).heap[b]?=some (.cells (cs.setIfInBounds i v) t (0,0)):=by
 exact heap_setCell_same w b i cs t v h
theorem zk {w:World}{b:Nat}{ob:Obj}(h:w.heap[b]?=some ob):b<w.heap.size:=by rw[Array.getElem?_eq_some_iff]at h;exact h.1
theorem zw (w:World) (ob:Obj):(w.alloc ob).heap[w.heap.size]?=some ob:=by show (w.heap.push _)[w.heap.size]?=_;simp
theorem zy {w:World}{base e size n:Nat}{v:Value}{xs:List Value}(h:w.ownsRow base e size v n xs):∃ ao cap,v=.slice ao n cap:=by
 rcases h.2 with⟨rfl,rfl⟩|⟨g,cap,cur,rfl,_⟩
 ·exact⟨_,_,rfl⟩
 ·exact⟨_,_,rfl⟩
theorem z7 {w w':World}{base e size n:Nat}{v:Value}{xs:List Value}(h:w.ownsRow base e size v n xs) (hk:∀ b,base<=b->b<w.heap.size->v.ownBlock=some b->w'.heap[b]?=w.heap[b]?):w'.ownsRow base e size v n xs:=by
 refine⟨h.1,?_⟩
 rcases h.2 with q|⟨g,cap,cur,rfl,q1,q2,q3⟩
 ·exact Or.inl q
 ·exact Or.inr ⟨g,cap,cur,rfl,q1,(hk g q1 (zk q2) rfl).trans q2,q3⟩
theorem zD {w w':World}{base e size n:Nat}{v:Value}{xs:List Value}(h:w.ownsRow base e size v n xs) (k:Below w.heap.size w w'):w'.ownsRow base e size v n xs :=
 z7 h (fun i _ h2 _=>k.block i h2)
theorem zG {w:World}{base e size n:Nat}{v:Value}{xs:List Value}(h:w.ownsRow base e size v n xs):∀ g,v.ownBlock=some g->base<=g:=by
 intro g hg
 rcases h.2 with⟨rfl,rfl⟩|⟨g',cap,cur,rfl,h2,_⟩
 ·simp[Value.ownBlock]at hg
 ·simp[Value.ownBlock]at hg;omega
theorem owns_lt {w:World}{base e size n:Nat}{v:Value}{xs:List Value}(h:w.ownsRow base e size v n xs):∀ g,v.ownBlock=some g->g<w.heap.size:=by
 intro g hg
 rcases h.2 with⟨rfl,rfl⟩|⟨g',cap,cur,rfl,h2,h3,_⟩
 ·simp[Value.ownBlock]at hg
 ·simp[Value.ownBlock]at hg;rw[<-hg];exact zk h3
theorem kh {P:Program}(w:World) (base:Nat) (t ty e:TypeId) (i:TypeInfo) (z:Value) (size bytes:Nat) (ht:P.underlying t=some (.slice e)) (hi:P.info? e=some i) (hz:i.zero=some z)
  (hsize:i.size=size) (hby:i.bytes=bytes) (hzs:z.cells.size=size) (hsz:0<size)
  (v:Value) (n:Nat) (xs:List Value) (hown:w.ownsRow base e size v n xs)
  (a:Addr) (m c:Nat) (news:List Value) (hl:news.length=m * size) (hnews:∀ j u,news[j]?=some u->w.cell? (a.add j)=some u) (h1:∀ u∈news,u.oneCell'=true)
  (h63:n+m<=maxLen) (hbytes:(n+m) * bytes<=140737488355328) (hbase:base<=w.heap.size) :
  ∃ v' w',(Builtin.append_ #[t,t] ty #[v,.slice (some a) m c]).run P w=.ok v' w'/\w'.ownsRow base e size v' (n+m) (xs++news)/\w.grownBy w' v.ownBlock /\
   (∀ g,v'.ownBlock=some g->v.ownBlock=some g\/w.heap.size<=g):=by
 obtain⟨v',w',r1,r2,r3,_⟩:=run_append_own (P:=P) w base t ty e i z size bytes ht hi hz hsize hby hzs hsz v n xs hown a m c news hl hnews h1 h63 hbytes hbase
 refine⟨v',w',r1,r2,r3,?_⟩
 rcases hown.2 with⟨rfl,rfl⟩|⟨g,cap,cur,rfl,q1,q2,q3,q4,q5,q6⟩
 ·have hx:xs=[]:=List.eq_nil_of_length_eq_zero (by simpa using hown.1)
  subst hx
  obtain⟨v2,w2,s1,s2,_⟩:=run_append_own (P:=P) w w.heap.size t ty e i z size bytes ht hi hz hsize hby hzs hsz (.slice none 0 0) 0 [] (World.ownsRow_nil _ _ _ _) a m c news hl hnews h1 h63 hbytes zn
  rw[r1]at s1
  cases s1
  intro g hg
  exact Or.inr (zG s2 g hg)
 ·have hcell:∀ j,j<cap * size->w.cell? ⟨g,j,none⟩=cur[j]?:=fun j _=>zc q2
  by_cases hroom:n+m<=cap
  ·have hle:n * size+news.length<=cap * size:=by rw[hl,<-Nat.add_mul];exact Nat.mul_le_mul_right _ hroom
   have s1:=run_append_room_cells (P:=P) w t ty e i ht hi g 0 n cap a m c news (by rw[hsize];exact hl) hnews h1 hroom
    (fun j hj=>by rw[hsize,zc q2,Nat.zero_add,Array.getElem?_eq_getElem (by omega)];rfl) (fun j hj=>zr q2)
   rw[r1]at s1
   cases s1
   intro g' hg
   exact Or.inl hg
  ·obtain⟨v2,w2,s1,s2,_⟩:=run_append_arg_grows (P:=P) w t ty e i z size bytes ht hi hz hsize hby hzs hsz ⟨g,0,none⟩ n cap xs hown.1
    (fun j u hj=>by
     have hjl:j<xs.length:=by rw[List.getElem?_eq_some_iff]at hj;exact hj.1
     rw[Addr.add_lit,zc q2,Nat.zero_add,<-Array.getElem?_toList,<-hj,<-q6,List.getElem?_take_of_lt (by rw[<-hown.1];exact hjl)])
    a m c news hl hnews (by omega) h63 hbytes
   rw[r1]at s1
   cases s1
   intro g' hg
   exact Or.inr (zG s2 g' hg)
theorem zF {P:Program}(w:World) {ops:Array Oper}{rest:List Oper}{o:Oper}{a:Act}{Q:Exit->Act->World->Prop}(hgd:o.guard=none) (s x:Operand) (t:TypeId)
  (ho:o.op=.call { callee:=.builtin .append,args:=#[s,x],argTypes:=#[t,t] })
  (base:Nat) (e:TypeId) (i:TypeInfo) (z:Value) (size bytes:Nat) (ht:P.underlying t=some (.slice e)) (hi:P.info? e=some i) (hz:i.zero=some z)
  (hsize:i.size=size) (hby:i.bytes=bytes) (hzs:z.cells.size=size) (hsz:0<size)
  (v:Value) (n:Nat) (xs:List Value) (hs:a.eval s=v) (hown:w.ownsRow base e size v n xs)
  (ad:Addr) (m c:Nat) (news:List Value) (hx:a.eval x=.slice (some ad) m c) (hl:news.length=m * size) (hnews:∀ j u,news[j]?=some u->w.cell? (ad.add j)=some u) (h1:∀ u∈news,u.oneCell'=true)
  (h63:n+m<=maxLen) (hbytes:(n+m) * bytes<=140737488355328) (hbase:base<=w.heap.size)
  (h:∀ v' w',w'.ownsRow base e size v' (n+m) (xs++news)->w.grownBy w' v.ownBlock->(∀ g,v'.ownBlock=some g->v.ownBlock=some g\/w.heap.size<=g)->wpList P ops Q rest (a.put o.dst v') w'):wpList P ops Q (o :: rest) a w:=by
 refine wpList_plain hgd fun K hK=>?_
 obtain⟨v',w',r1,r2,r3,r4⟩:=kh (P:=P) w base t o.type e i z size bytes ht hi hz hsize hby hzs hsz v n xs hown ad m c news hl hnews h1 h63 hbytes hbase
 unfold Oper.wp
 simp[execOp,ho,resolve,invoke,builtin,hs,hx,r1,Result.andThen]
 exact hK _ _ (h v' w' r2 r3 r4)
structure Exact (v v':Value) (w w':World):Prop where
 size:w.heap.size<=w'.heap.size
 block:∀ k,k<w.heap.size->v.ownBlock≠some k->w'.heap[k]?=w.heap[k]?
 lies:∀ g,v'.ownBlock=some g->v.ownBlock=some g\/w.heap.size<=g
theorem Exact.of {v v':Value}{w w':World}(h:w.grownBy w' v.ownBlock) (hw:∀ g,v'.ownBlock=some g->v.ownBlock=some g\/w.heap.size<=g):Exact v v' w w' :=
 ⟨h.size,fun k hk hn=>h.block k hk (fun e=>hn e.symm),hw⟩
theorem Exact.ahead {v v':Value}{w w1 w':World}(h:Below w.heap.size w w1) (k:Exact v v' w1 w'):Exact v v' w w' :=
 ⟨Nat.le_trans h.size k.size,fun i hi hn=>(k.block i (Nat.lt_of_lt_of_le hi h.size) hn).trans (h.block i hi),fun g hg=>(k.lies g hg).imp id (Nat.le_trans h.size)⟩
end Go.Proofs.YtmnedfdffbbchaaGreatDoor.Jo

namespace Ob
def good (i:Nat) (c:UInt8):Bool:=(decide (97<=c.toNat) && decide (c.toNat<=122)) || ((decide (48<=c.toNat) && decide (c.toNat<=57)) && !decide (i=0))
def nameB (s:Bs):Bool:=decide (∀ i (h:i<s.length),good i s[i]=true) && (decide (1<=s.length) && decide (s.length<=10))
def lenB (n:Int):Bool:=decide (0<=n) && decide (n<=30)
def countsB (n:Int) (many:Nat):Bool:=decide (0<=n) && decide (n<(many:Int))
def allB {α:Type}(p:α->Bool) (most:Nat) (l:List α):Bool:=decide (l.length<=most) && !(l.any fun x=>!p x)
def symB (s:Sm):Bool:=nameB s.name && (decide (-1<=s.args) && (decide (s.args<=10) && (lenB s.len && (decide (s.args<0) || decide (s.len=0)))))
def useB (u:Us):Bool:=nameB u.name && (decide (u.need.length<=4000) && allB nameB 100 u.names)
def otherB (nm:Bs) (u:Us):Bool:=decide (u.name≠nm) && useB u
def varB (g:Gl):Bool:=nameB g.name && (decide (g.at'=0) && lenB g.len)
def headB (o:O):Bool:=nameB o.name && (allB symB 20 o.syms && (allB (otherB o.name) 6 o.uses && allB varB 10 o.vars))
def entB (n:Nat) (e:En):Bool:=countsB e.at' n && (decide (0<=e.args) && (decide (e.args<=e.locals) && decide (e.locals<=10)))
def procsB (o:O):Bool:=allB (entB o.code.length) 10 o.procs && (decide (o.names.length=o.procs.length) && allB nameB 10 o.names)
def choices (o:O) (op:Int):Nat :=
 if op=3\/op=4 then 10 else if op=6\/op=8 then o.vars.length else if op=9 then 11 else if op=12\/op=13 then o.code.length
 else if op=2\/op=10\/op=11\/op=15\/op=16\/op=17 then 1 else 0
def reachB (o:O) (x:In) (own:Nat):Bool:=if x.b=-1 then countsB x.a own else countsB x.b o.uses.length && countsB x.a ((o.uses[x.b.toNat]?.map fun u=>u.names.length).getD 0)
def instB (o:O) (x:In):Bool :=
 if x.op=5\/x.op=7 then reachB o x o.vars.length else if x.op=14 then reachB o x o.procs.length else if x.op=1 then decide (x.b=0) else decide (x.b=0) && countsB x.a (choices o x.op)
def lastB (o:O):Bool:=match o.code.getLast? with
 | none=>false
 | some x=>decide (x.op=12) || (decide (x.op=15) || decide (x.op=17))
def codeB (o:O):Bool:=allB (instB o) 4000 o.code && lastB o
def rightB (o:O):Bool:=headB o && (procsB o && codeB o)
theorem allB_le {α:Type}{p:α->Bool}{most:Nat}{l:List α}(h:allB p most l=true):l.length<=most/\∀ x∈l,p x=true:=by
 unfold allB at h
 simp only [Bool.and_eq_true,decide_eq_true_eq,Bool.not_eq_true',List.any_eq_false]at h
 exact⟨h.1,fun x hx=>by have:=h.2 x hx;simpa using this⟩
theorem nameB_len {s:Bs}(h:nameB s=true):s.length<=10:=by
 unfold nameB at h
 simp only [Bool.and_eq_true,decide_eq_true_eq]at h
 exact h.2.2
theorem choices_op {o:O}{op:Int}(h:0<choices o op):1<=op/\op<=17:=by
 unfold choices at h
 split at h
 ·omega
 ·split at h
  ·omega
  ·split at h
   ·omega
   ·split at h
    ·omega
    ·split at h
     ·omega
     ·omega
end Ob
