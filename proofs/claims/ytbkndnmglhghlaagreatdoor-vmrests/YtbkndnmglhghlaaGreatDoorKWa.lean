import Derived.Test.YtbkndnmglhghlaaGreatDoorKPa
import Derived.Test.YtbkndnmglhghlaaGreatDoorRows
import Derived.WalkSpells
import Derived.WalkLawsBesides
import Derived.BigQuiet
import Derived.Deep.LoopGhost
import Derived.Handy
import Derived.Lib.Hide
set_option maxRecDepth 100000
set_option maxHeartbeats 4000000

namespace Go.Proofs.YtbkndnmglhghlaaGreatDoor
open Go.RowKit
open Tp (Tok hd tx at' stp)
variable {a c d g m r:List Tok}{nm:List UInt8}{xs:List Value}{B b e f most n o size:Nat}{α:Type}{v:Value}{w w':World}
theorem zb (w:World)(a:Obj):Below w.heap.size w (w.alloc a):=(Below.refl _ _).alloc (Nat.le_refl _) _
theorem zn:n<=n:=Nat.le_refl n
theorem zh {p:Prop}(h:p):Hid p:=Lib.hid h
theorem zm:∀(fn:Fn) (first cap:Array Value) (w:World),(Instr.makeFunc fn first cap).run Tryz.prog w=.ok (.func fn first cap) w:=fun _ _ _ _=>rfl
theorem zq (a:α):∃b,b=a:=⟨a,rfl⟩
theorem ze {P:Program}{f:Func}{Q:Ending->World->Prop}{a:Act}(h:f.results=#[])(d:a.defers=[])(q:Q (.returned (.tuple #[])) w):bodyPost P f Q .normal a w:=bodyPost_end (results_none h _ _ _) d q
def bs (l:List UInt8):ByteArray:=⟨l.toArray⟩
theorem zk (l:List UInt8):(bs l).toList=l:=by
 rw[ByteArray.toList_eq];simp[bs]
def ent (k:List UInt8) (i:Nat):MapEntry:=⟨.string (bs k),.int .i64 1,i⟩
def ents (n:Nat):Array MapEntry:=((Tp.kept.take n).zipIdx.map fun x=>ent x.1 x.2).toArray
structure Ps where
 pb:Nat
 tb:Nat
 kb:Nat
 cap:Nat
def levs:List Value:=[.string ⟨#[111,114]⟩,.int .i64 0,.string ⟨#[97,110,100]⟩,.int .i64 1,.string ⟨#[61]⟩,.int .i64 2,.string ⟨#[35]⟩,.int .i64 2,.string ⟨#[60]⟩,.int .i64 2,.string ⟨#[60,61]⟩,.int .i64 2,.string ⟨#[62]⟩,.int .i64 2,.string ⟨#[62,61]⟩,.int .i64 2,.string ⟨#[43]⟩,.int .i64 3,.string ⟨#[45]⟩,.int .i64 3,.string ⟨#[42]⟩,.int .i64 4,.string ⟨#[100,105,118]⟩,.int .i64 4,.string ⟨#[109,111,100]⟩,.int .i64 4]
def Lv (w:World):Prop:=4<w.heap.size/\∀i,i<26->w.cell? ⟨4,i,none⟩=some (levs.getD i undef)
structure TokAt (w:World) (b i:Nat) (t:Tok):Prop where
 c0:w.cell? ⟨b,i*3,none⟩=some (.int .i64 (t.kind:Int))
 c1:w.cell? ⟨b,i*3+1,none⟩=some (.int .i64 (t.pos:Int))
 c2:w.cell? ⟨b,i*3+2,none⟩=some (.string (bs t.text))
structure St (w:World) (p:Ps) (ts r:List Tok) (o b:Nat):Prop where
 c0:w.cell? ⟨p.pb,0,none⟩=some (.slice (some ⟨p.tb,0,none⟩) ts.length p.cap)
 c1:w.cell? ⟨p.pb,1,none⟩=some (.int .i64 ((ts.length-r.length:Nat):Int))
 c2:w.cell? ⟨p.pb,2,none⟩=some (.map (some p.kb))
 c3:w.cell? ⟨p.pb,3,none⟩=some (.int .i64 (o:Int))
 c4:w.cell? ⟨p.pb,4,none⟩=some (.int .i64 (b:Int))
 fz:∀j,w.frozen? ⟨p.pb,j,none⟩=false
 kept:w.heap[p.kb]?=some (.map (ents 21) 21)
 toks:∀i t,ts[i]?=some t->TokAt w p.tb i t
 suf:ts.drop (ts.length-r.length)=r
 ne:r≠[]
 len:ts.length<=1000
 last:∀t,ts.getLast?=some t->t.kind=0
 apart:p.tb<p.pb/\p.kb<p.pb
 dig:∀t,t∈ts->t.kind=2->∀c,c∈t.text->Tp.digit c=true
 tl:∀t,t∈ts->t.text.length<=100000/\t.pos<=100000
 lv:Lv w
 glt:4<p.pb
structure Ext (b:Nat) (w w':World):Prop where
 os:w'.os=w.os
 tape:w'.tape=w.tape
 output:w'.output=w.output
 size:w.heap.size<=w'.heap.size
 block:∀k,k<w.heap.size->k≠b->w'.heap[k]?=w.heap[k]?
theorem Ext.refl (b:Nat)(w:World):Ext b w w:=⟨rfl,rfl,rfl,Nat.le_refl _,fun _ _ _=>rfl⟩
theorem Ext.trans {b:Nat}{d e f:World}(h:Ext b d e)(k:Ext b e f):Ext b d f :=
 ⟨k.os.trans h.os,k.tape.trans h.tape,k.output.trans h.output,Nat.le_trans h.size k.size,fun i c a=>(k.block i (Nat.lt_of_lt_of_le c h.size) a).trans (h.block i c a)⟩
theorem Ext.below (h:Below w.heap.size w w'):Ext b w w':=⟨h.os,h.tape,h.output,h.size,fun k a _=>h.block k a⟩
theorem Ext.set (h:Ext b w w')(j:Nat)(u:Value):Ext b w (w'.setCell ⟨b,j,none⟩ u) :=
 ⟨h.os,h.tape,h.output,by simpa using h.size,fun k c a=>by rw[Below.heap_setCell _ _ _ _ (by simpa using a)];exact h.block k c a⟩
theorem Ext.cell {b:Nat}{w w':World}(h:Ext b w w'){a:Addr}{v:Value}(c:w.cell? a=some v)(d:a.block≠b):w'.cell? a=some v:=by
 rw[World.cell?_of_block (w:=w) (h.block a.block (World.block_lt_of_cell? _ _ c) d)];exact c
theorem TokAt.ext (h:Ext b w w'){c i:Nat}{t:Tok}(k:TokAt w c i t)(a:c≠b):TokAt w' c i t :=
 ⟨h.cell k.c0 a,h.cell k.c1 a,h.cell k.c2 a⟩
theorem zg {j:Nat}(h:w.cell? ⟨b,j,none⟩=some v):b<w.heap.size:=World.block_lt_of_cell? _ _ h
variable {p:Ps}
theorem St.belowB {f:List Tok}(h:St w p f r o b)(k:Below B w w')(c:p.pb<B):St w' p f r o b:=by
 have e:∀i j,i<B->w'.cell? ⟨i,j,none⟩=w.cell? ⟨i,j,none⟩:=fun i j a=>k.cell (p:=⟨i,j,none⟩) a
 have d:p.tb<B:=by have:=h.apart.1;omega
 have g:p.kb<B:=by have:=h.apart.2;omega
 exact⟨(e _ 0 c).trans h.c0,(e _ 1 c).trans h.c1,(e _ 2 c).trans h.c2,(e _ 3 c).trans h.c3,(e _ 4 c).trans h.c4,fun j=>(k.frozen (p:=⟨p.pb,j,none⟩) c).trans (h.fz j),(k.block _ g).trans h.kept,
  fun i t a=>⟨(e _ _ d).trans (h.toks i t a).c0,(e _ _ d).trans (h.toks i t a).c1,(e _ _ d).trans (h.toks i t a).c2⟩,h.suf,h.ne,h.len,h.last,h.apart,h.dig,h.tl,⟨Nat.lt_of_lt_of_le h.lv.1 k.size,fun i a=>(e _ _ (Nat.lt_trans h.glt c)).trans (h.lv.2 i a)⟩,h.glt⟩
theorem St.below (h:St w p a r o b)(k:Below w.heap.size w w'):St w' p a r o b:=h.belowB k (zg h.c0)
theorem St.hd {w:World}{p:Ps}{a r:List Tok}{o b:Nat}(h:St w p a r o b):a[a.length-r.length]?=some (hd r)/\a.length-r.length<a.length:=by
 have d:=h.suf
 have e:=h.ne
 cases r with
 |nil=>exact absurd rfl e
 |cons t l =>
  have c:(a.drop (a.length-(t :: l).length))[0]?=some t:=by rw[d];rfl
  rw[List.getElem?_drop,Nat.add_zero]at c
  refine⟨by rw[c];rfl,?_⟩
  rw[List.getElem?_eq_some_iff]at c
  exact c.1
theorem St.stp_of (h:St w p a r o b)(g:(Tp.hd r).kind≠0):stp r=r.tail/\r.tail≠[]/\r.length=r.tail.length+1/\r.length<=a.length/\a.drop (a.length-r.tail.length)=r.tail:=by
 have c:=h.suf
 have k:=h.ne
 cases r with
 |nil=>exact absurd rfl k
 |cons t l =>
  have d:(t :: l).length<=a.length:=by
   have:=congrArg List.length c
   simp only[List.length_drop]at this
   omega
  have j:l≠[]:=by
   intro e
   subst e
   have:=h.last t (by
    have f:=List.getLast?_drop (i:=a.length-[t].length) (l:=a)
    rw[c,if_neg (by simp at d ⊢;omega)]at f
    rw[<-f];rfl)
   exact g this
  refine⟨by simp[stp,g],j,by simp,d,?_⟩
  simp only[List.tail_cons]
  have e:a.length-l.length=(a.length-(t :: l).length)+1:=by simp at d ⊢;omega
  rw[e,<-List.drop_drop,c]
  rfl
@[go_sem] theorem field_tok0 (w:World) (k a:Int) (t:ByteArray):(Instr.field 150 (.agg #[.int .i64 k,.int .i64 a,.string t]) 0).run Tryz.prog w=.ok (.int .i64 k) w:=by kernel_rfl
@[go_sem] theorem field_tok1 (w:World) (k a:Int) (t:ByteArray):(Instr.field 150 (.agg #[.int .i64 k,.int .i64 a,.string t]) 1).run Tryz.prog w=.ok (.int .i64 a) w:=by kernel_rfl
@[go_sem] theorem field_tok2 (w:World) (k a:Int) (t:ByteArray):(Instr.field 150 (.agg #[.int .i64 k,.int .i64 a,.string t]) 2).run Tryz.prog w=.ok (.string t) w:=by kernel_rfl
theorem now_raw (c b n cap i:Nat)(k a:Int)(t:ByteArray)(w:World)(j:c<w.heap.size)(l:b<w.heap.size)
  (f:w.cell? ⟨c,0,none⟩=some (.slice (some ⟨b,0,none⟩) n cap))(g:w.cell? ⟨c,1,none⟩=some (.int .i64 (i:Int)))(h:(i:Int)<n)
  (d:w.cell? ⟨b,i*3,none⟩=some (.int .i64 k))(c1:w.cell? ⟨b,i*3+1,none⟩=some (.int .i64 a))(c2:w.cell? ⟨b,i*3+2,none⟩=some (.string t)) :
  Calls Tryz.prog 83 #[.pointer (some ⟨c,0,none⟩)] w fun e w'=>e=.returned (.agg #[.int .i64 k,.int .i64 a,.string t])/\Below w.heap.size w w':=by
 go_enter Tryz.func83,Tryz.ntmps83
 go_wp2
 go_region
 go_wp2
 exact bodyPost_ret (v:=.agg #[.int .i64 k,.int .i64 a,.string t]) (by simp[results,Tryz.results83,go_sem]) rfl ⟨rfl,(zb _ _).drew⟩
theorem zK (h:St w p c r o b) :
  Calls Tryz.prog 83 #[.pointer (some ⟨p.pb,0,none⟩)] w fun e w'=>e=.returned (.agg #[.int .i64 ((hd r).kind:Int),.int .i64 ((hd r).pos:Int),.string (bs (hd r).text)])/\Below w.heap.size w w':=by
 obtain⟨d,f⟩:=h.hd
 have a:=h.toks _ _ d
 exact now_raw p.pb p.tb c.length p.cap (c.length-r.length) _ _ _ w (zg h.c0) (zg a.c0) h.c0 h.c1 (by omega) a.c0 a.c1 a.c2
structure Thrown (B:Nat) (er:Nat×Nat) (e:Ending) (w':World):Prop where
 out:∃ab,B<=ab/\e=.panicked [{ v:=.iface 141 (.pointer (some ⟨ab,0,none⟩)),recovered:=false }]/\w'.cell? ⟨ab,0,none⟩=some (.int .i64 (er.1:Int))/\w'.cell? ⟨ab,1,none⟩=some (.int .i64 (er.2:Int))
theorem Thrown.mono {B':Nat}{c:Nat×Nat}{e:Ending}(h:Thrown B c e w')(k:B'<=B):Thrown B' c e w' :=
 let ⟨ab,a,b⟩:=h.out;⟨ab,Nat.le_trans k a,b⟩
theorem j5 (en a:Nat)(w:World) :
  Calls Tryz.prog 73 #[.int .i64 (en:Int),.int .i64 (a:Int)] w fun e w'=>Thrown w.heap.size (en,a) e w'/\Below w.heap.size w w':=by
 go_enter Tryz.func73,Tryz.ntmps73
 go_wp2
 exact⟨rfl,⟨⟨w.heap.size,Nat.le_refl _,rfl,by simp[go_sem],by simp[go_sem]⟩⟩,zb _ _⟩
theorem zY {j:List Tok}(h:St w p j r o b)(en:Nat) :
  Calls Tryz.prog 78 #[.pointer (some ⟨p.pb,0,none⟩),.int .i64 (en:Int)] w fun e w'=>Thrown w.heap.size (en,at' r) e w'/\Below w.heap.size w w':=by
 go_enter Tryz.func78,Tryz.ntmps78
 go_wp2_with fail
 refine(zK h).mono ?_
 rintro e k⟨rfl,a⟩
 go_wp2_with fail
 refine(j5 en (hd r).pos k).mono ?_
 rintro e n⟨i,c⟩
 obtain⟨d,m,rfl,f,g⟩:=i.out
 have l:=a.size
 go_wp2_with fail
 exact⟨rfl,⟨⟨d,by omega,rfl,f,g⟩⟩,a.trans (c.mono a.size)⟩
theorem yy (h:St w p g r o b)(m:List UInt8)(x:ByteArray)(f:Hid (x=bs m)) :
  Calls Tryz.prog 80 #[.pointer (some ⟨p.pb,0,none⟩),.string x] w fun e w'=>e=.returned (.bool (decide (tx r=m)))/\Below w.heap.size w w':=by
 go_enter Tryz.func80,Tryz.ntmps80
 go_wp2_with fail
 refine(zK h).mono ?_
 rintro e i⟨rfl,a⟩
 go_wp2_with fail
 go_ret
 have c:x=bs m:=f
 subst c
 refine⟨?_,a⟩
 have d:((bs (hd r).text).toList==(bs m).toList)=decide (tx r=m):=by rw[Bool.eq_iff_iff,decide_eq_true_iff,beq_iff_eq,zk,zk];rfl
 simp[d]
theorem St.stepped {d:World}(h:St w p c r o b)(n:(Tp.hd r).kind≠0)(l:Below w.heap.size w d) :
  St (d.setCell ⟨p.pb,1,none⟩ (.int .i64 ((c.length-r.length:Nat)+1:Int))) p c (stp r) o b:=by
 have a:=h.below l
 obtain⟨f,g,u,x,k⟩:=h.stp_of n
 have z:=zg a.c0
 have e:∀j v,j≠1->d.cell? ⟨p.pb,j,none⟩=some v->(d.setCell ⟨p.pb,1,none⟩ (.int .i64 ((c.length-r.length:Nat)+1:Int))).cell? ⟨p.pb,j,none⟩=some v:=fun j v y s=>by
  rw[World.cell?_setCell_other d ⟨p.pb,1,none⟩ ⟨p.pb,j,none⟩ _ (by simp<;>omega)];exact s
 rw[f]
 refine⟨e 0 _ (by omega) a.c0,?_,e 2 _ (by omega) a.c2,e 3 _ (by omega) a.c3,e 4 _ (by omega) a.c4,fun j=>by simpa using a.fz j,(Below.heap_setCell _ _ _ _ (by have:=h.apart.2;simp;omega)).trans a.kept,fun i t q=>?_,k,g,h.len,h.last,h.apart,h.dig,h.tl,⟨by simpa using a.lv.1,fun i m=>by rw[World.cell?_setCell_other d ⟨p.pb,1,none⟩ ⟨4,i,none⟩ _ (by have:=h.glt;simp<;>omega)];exact a.lv.2 i m⟩,h.glt⟩
 ·have:((c.length-r.tail.length:Nat):Int)=((c.length-r.length:Nat)+1:Int):=by omega
  rw[this]
  exact World.cell?_setCell_same _ _ _ a.c1
 ·exact(a.toks i t q).ext (b:=p.pb) ((Ext.refl _ _).set 1 _) (by have:=h.apart.1;omega)
theorem yW (h:St w p d r o b) :
  Calls Tryz.prog 130 #[.pointer (some ⟨p.pb,0,none⟩)] w fun e w'=>e=.returned (.int .i64 (at' r:Int))/\St w' p d (stp r) o b/\Ext p.pb w w':=by
 by_cases c:(hd r).kind=0
 ·have q:(((hd r).kind:Int) != 0)=false:=by simp[c]
  have j:Hid ((hd r).kind=0):=c
  clear c
  go_enter Tryz.func130,Tryz.ntmps130
  go_wp2_with fail
  refine(zK h).mono ?_
  rintro e v⟨rfl,a⟩
  go_wp2_with fail
  refine(zK (h.below a)).mono ?_
  rintro e n⟨rfl,g⟩
  go_wp2_with fail
  go_ret
  have f:=a.trans (g.mono a.size)
  exact⟨rfl,by simp only[stp];rw[if_pos j.out];exact h.below f,Ext.below f⟩
 ·have q:(((hd r).kind:Int) != 0)=true:=by simp[c]
  have j:Hid ((hd r).kind≠0):=c
  clear c
  obtain⟨i,k⟩:∃i,i=d.length-r.length:=⟨_,rfl⟩
  have x:(i:Int)<=1000:=by have:=h.len;omega
  have t:Hid (i=d.length-r.length):=k
  have l:∀w',St w' p d r o b->w'.cell? ⟨p.pb,1,none⟩=some (.int .i64 (i:Int)):=fun w' u=>by rw[k];exact u.c1
  have s:Hid (∀w',St w' p d r o b->w'.cell? ⟨p.pb,1,none⟩=some (.int .i64 (i:Int))):=l
  clear k l
  go_enter Tryz.func130,Tryz.ntmps130
  go_wp2_with fail
  refine(zK h).mono ?_
  rintro e v⟨rfl,a⟩
  go_wp2_with fail
  refine(zK (h.below a)).mono ?_
  rintro e n⟨rfl,g⟩
  have m:=(h.below a).below g
  have y:=s.out n m
  have z:=m.fz 1
  go_wp2_with fail
  go_ret
  have f:=a.trans (g.mono a.size)
  refine⟨rfl,?_,(Ext.below f).set 1 _⟩
  have:=h.stepped j.out f
  rw[<-t.out]at this
  exact this
theorem zQ {f:List Tok}(h:St w p f r o b)(m:List UInt8)(x:ByteArray)(d:Hid (x=bs m)) :
  Calls Tryz.prog 76 #[.pointer (some ⟨p.pb,0,none⟩),.string x] w fun e w'=>e=.returned (.bool (decide (tx r=m)))/\St w' p f (if tx r=m then stp r else r) o b/\Ext p.pb w w':=by
 by_cases a:tx r=m
 ·rw[decide_eq_true a,if_pos a]
  have g:=decide_eq_true a
  clear a
  go_enter Tryz.func76,Tryz.ntmps76
  go_wp2_with fail
  refine(yy h m x d).mono ?_
  rintro e j⟨rfl,c⟩
  go_wp2_with fail
  refine(yW (h.below c)).mono ?_
  rintro e k⟨rfl,i,x2⟩
  go_wp2_with fail
  go_ret
  exact⟨rfl,i,(Ext.below c).trans x2⟩
 ·rw[decide_eq_false a,if_neg a]
  have g:=decide_eq_false a
  clear a
  go_enter Tryz.func76,Tryz.ntmps76
  go_wp2_with fail
  refine(yy h m x d).mono ?_
  rintro e j⟨rfl,c⟩
  go_wp2_with fail
  go_ret
  exact⟨rfl,h.below c,Ext.below c⟩
def Post {α:Type}(p:Ps) (ts:List Tok) (o b:Nat) (w:World) (val:α->Value->World->Prop) (res:Except Tp.Er (α×List Tok)) (e:Ending) (w':World):Prop :=
 match res with
 | .ok (x,r)=>∃v,e=.returned v/\val x v w'/\St w' p ts r o b/\Ext p.pb w w'
 | .error er=>Thrown w.heap.size er e w'/\Ext p.pb w w'
theorem zF (h:St w p d r o b)(m:List UInt8)(x:ByteArray)(g:Hid (x=bs m))(c:tx r=m) :
  Calls Tryz.prog 74 #[.pointer (some ⟨p.pb,0,none⟩),.string x] w fun e w'=>e=.returned (.int .i64 (at' r:Int))/\St w' p d (stp r) o b/\Ext p.pb w w':=by
 have i:=decide_eq_true c
 clear c
 go_enter Tryz.func74,Tryz.ntmps74
 go_wp2_with fail
 refine(yy h m x g).mono ?_
 rintro e j⟨rfl,a⟩
 go_wp2_with fail
 refine(yW (h.below a)).mono ?_
 rintro e k⟨rfl,f,x2⟩
 go_wp2_with fail
 go_ret
 exact⟨rfl,f,(Ext.below a).trans x2⟩
theorem zN {l:List Tok}(h:St w p l r o b)(m:List UInt8)(x:ByteArray)(k:Hid (x=bs m))(c:tx r≠m) :
  Calls Tryz.prog 74 #[.pointer (some ⟨p.pb,0,none⟩),.string x] w fun e w'=>Thrown w.heap.size (3,at' r) e w'/\Ext p.pb w w':=by
 have n:=decide_eq_false c
 clear c
 go_enter Tryz.func74,Tryz.ntmps74
 go_wp2_with fail
 refine(yy h m x k).mono ?_
 rintro e t⟨rfl,a⟩
 have q:=a.size
 go_wp2_with fail
 refine(zY (h.below a) 3).mono ?_
 rintro e u⟨j,d⟩
 obtain⟨f,s,rfl,g,i⟩:=j.out
 go_wp2_with fail
 exact⟨rfl,⟨⟨f,by omega,rfl,g,i⟩⟩,Ext.below (a.trans (d.mono a.size))⟩
theorem vN (e:Bool)(n:Nat)(x:ByteArray)(w:World):(Instr.checkKey e (n+1) 9 (.string x)).run Tryz.prog w=.ok () w:=by
 simp[Instr.checkKey,run_underlying Tryz.underlying9]
theorem find_str (x:ByteArray)(a:List MapEntry)(r:Option (Nat×Value))(w:World)(h:Instr.findNow .string (.string x) a 0=some r):(Instr.findKey 9 (.string x) a).run Tryz.prog w=.ok r w:=by
 simp[Instr.findKey,run_underlying Tryz.underlying9,h]
theorem push_set (h:Array Obj)(a b:Obj):(h.push a).setIfInBounds h.size b=h.push b:=by
 apply Array.toList_inj.1
 simp
theorem map_make (w:World):(Instr.makeMap 95 none).run Tryz.prog w=.ok (.map (some w.heap.size)) (w.alloc (.map (ents 0) 0)):=rfl
theorem ya (w:World)(n:Nat)(x:ByteArray)(h:Instr.findNow .string (.string x) (ents n).toList 0=some none)(k:ents (n+1)=(ents n).push ⟨.string x,.int .i64 1,n⟩) :
 (Instr.mapUpdate 95 (.map (some w.heap.size)) (.string x) (.int .i64 1)).run Tryz.prog (w.alloc (.map (ents n) n))=.ok () (w.alloc (.map (ents (n+1)) (n+1))):=by
 have a:(Instr.checkKey false 10000 9 (.string x)).run Tryz.prog (w.alloc (.map (ents n) n))=.ok () (w.alloc (.map (ents n) n)):=vN false 9999 x _
 have b:=find_str x (ents n).toList none (w.alloc (.map (ents n) n)) h
 have c:(w.alloc (.map (ents n) n)).heap[w.heap.size]?=some (.map (ents n) n):=by show (w.heap.push _)[w.heap.size]?=_;simp
 simp only[Instr.mapUpdate,Sem.run_bind,run_underlying Tryz.underlying95,Result.andThen,getObj,setObj,Sem.run,c,a,b]
 show Result.ok () ({ w.alloc (.map (ents n) n) with heap:=(w.heap.push (.map (ents n) n)).setIfInBounds w.heap.size _ }:World)=_
 rw[push_set,k]
 rfl
def pickV (r:Option (Nat×Value)):Value:=match r with|some (_,v)=>v|none=>.int .i64 0
theorem map_get (w:World)(b:Nat)(a:Array MapEntry)(c:Nat)(x:ByteArray)(f:w.heap[b]?=some (.map a c))(r:Option (Nat×Value))(h:Instr.findNow .string (.string x) a.toList 0=some r) :
 (Instr.lookup 95 (.map (some b)) (.string x) false).run Tryz.prog w=.ok (pickV r) w:=by
 have d:(Instr.checkKey a.isEmpty 10000 9 (.string x)).run Tryz.prog w=.ok () w:=vN a.isEmpty 9999 x w
 have e:=find_str x a.toList r w h
 have g:(zeroValue 3).run Tryz.prog w=.ok (.int .i64 0) w:=by kernel_rfl
 simp only[Instr.lookup,Sem.run_bind,run_underlying Tryz.underlying95,Result.andThen,getObj,Sem.run,f]
 cases r with
 |none=>simp[d,e,g,pickV]
 |some v=>simp[d,e,pickV]
theorem find_ents (l:List UInt8):∀(a:List (List UInt8)) (i j:Nat),∃r,Instr.findNow .string (.string (bs l)) ((a.zipIdx i).map fun x=>ent x.1 x.2) j=some r/\pickV r=Value.int .i64 (if l∈a then 1 else 0):=by
 intro a
 induction a with
 |nil=>intro i j;exact⟨none,rfl,rfl⟩
 |cons k a ih =>
  intro i j
  by_cases b:l=k
  ·subst b
   refine⟨some (j,.int .i64 1),?_,by simp[pickV]⟩
   have:(bs l==bs l)=true:=by show ((bs l).data==(bs l).data)=true;simp
   simp[Instr.findNow,Instr.sameNow,ent,this]
  ·obtain⟨r,c,d⟩:=ih (i+1) (j+1)
   refine⟨r,?_,by rw[d];simp[b]⟩
   have:(bs l==bs k)=false:=by show ((bs l).data==(bs k).data)=false;simp[bs,b]
   simp only[List.zipIdx_cons,List.map_cons,Instr.findNow,Instr.sameNow,ent,this]
   exact c
theorem kept_get (h:St w p d r o b)(l:List UInt8) :
  (Instr.lookup 95 (.map (some p.kb)) (.string (bs l)) false).run Tryz.prog w=.ok (.int .i64 (if l∈Tp.kept then 1 else 0)) w:=by
 obtain⟨r,a,c⟩:=find_ents l Tp.kept 0 0
 rw[map_get w p.kb (ents 21) 21 (bs l) h.kept r (by simpa[ents,Tp.kept] using a),c]
theorem xB (w:World) :
  Calls Tryz.prog 38 #[] w fun e w'=>e=.returned (.map (some w.heap.size))/\w'=w.alloc (.map (ents 21) 21):=by
 have a:=map_make w
 have u0:=ya w 0 {data:=#[109,111,100,117,108,101]} (by kernel_rfl) (by kernel_rfl)
 have u1:=ya w 1 {data:=#[105,109,112,111,114,116]} (by kernel_rfl) (by kernel_rfl)
 have u2:=ya w 2 {data:=#[118,97,114]} (by kernel_rfl) (by kernel_rfl)
 have u3:=ya w 3 {data:=#[112,114,111,99]} (by kernel_rfl) (by kernel_rfl)
 have u4:=ya w 4 {data:=#[98,101,103,105,110]} (by kernel_rfl) (by kernel_rfl)
 have u5:=ya w 5 {data:=#[101,110,100]} (by kernel_rfl) (by kernel_rfl)
 have u6:=ya w 6 {data:=#[105,110,116]} (by kernel_rfl) (by kernel_rfl)
 have u7:=ya w 7 {data:=#[97,114,114,97,121]} (by kernel_rfl) (by kernel_rfl)
 have u8:=ya w 8 {data:=#[114,101,116,117,114,110]} (by kernel_rfl) (by kernel_rfl)
 have u9:=ya w 9 {data:=#[119,114,105,116,101]} (by kernel_rfl) (by kernel_rfl)
 have u10:=ya w 10 {data:=#[119,104,105,108,101]} (by kernel_rfl) (by kernel_rfl)
 have u11:=ya w 11 {data:=#[100,111]} (by kernel_rfl) (by kernel_rfl)
 have u12:=ya w 12 {data:=#[105,102]} (by kernel_rfl) (by kernel_rfl)
 have u13:=ya w 13 {data:=#[116,104,101,110]} (by kernel_rfl) (by kernel_rfl)
 have u14:=ya w 14 {data:=#[101,108,115,105,102]} (by kernel_rfl) (by kernel_rfl)
 have u15:=ya w 15 {data:=#[101,108,115,101]} (by kernel_rfl) (by kernel_rfl)
 have u16:=ya w 16 {data:=#[111,114]} (by kernel_rfl) (by kernel_rfl)
 have u17:=ya w 17 {data:=#[97,110,100]} (by kernel_rfl) (by kernel_rfl)
 have u18:=ya w 18 {data:=#[110,111,116]} (by kernel_rfl) (by kernel_rfl)
 have u19:=ya w 19 {data:=#[100,105,118]} (by kernel_rfl) (by kernel_rfl)
 have u20:=ya w 20 {data:=#[109,111,100]} (by kernel_rfl) (by kernel_rfl)
 go_enter Tryz.func38,Tryz.ntmps38
 go_wp2
 go_ret
 exact⟨rfl,rfl⟩
theorem St.grown (h:St w p a r o b)(c:Obj)(n:Nat)(e:w'=(w.alloc c).drewN n):St w' p a r o b:=by
 subst e;exact h.below (below_drewN (zb _ _) n)
theorem zw {W:World}{a:Nat×Nat}{e:Ending}(c:Ext b w W)(d:Thrown W.heap.size a e w')(f:Ext b W w'):Thrown w.heap.size a e w'/\Ext b w w':=⟨d.mono c.size,c.trans f⟩
theorem name_kind (h:St w p m r o b)(l:(hd r).kind≠1) :
  Calls Tryz.prog 75 #[.pointer (some ⟨p.pb,0,none⟩)] w fun e w'=>Thrown w.heap.size (3,at' r) e w'/\Ext p.pb w w':=by
 have n:(((hd r).kind:Int) != 1)=true:=by simp;omega
 clear l
 go_enter Tryz.func75,Tryz.ntmps75
 go_wp2_with fail
 refine(zK h).mono ?_
 rintro e c⟨rfl,f⟩
 go_wp2_with fail
 go_quiet (fail)
 go_wp2_with fail
 have d:∀a,Below c.heap.size c ((c.alloc a).drewN nq):=fun a=>below_drewN (zb _ _) nq
 have i:∀a,Ext p.pb w ((c.alloc a).drewN nq):=fun a=>(Ext.below f).trans (Ext.below (d a))
 have k:Hid (∀a,Ext p.pb w ((c.alloc a).drewN nq)):=i
 refine(zY ((h.below f).below (d _)) 3).mono ?_
 clear d i
 rintro e v⟨g,j⟩
 obtain⟨q,s,rfl,t,u⟩:=g.out
 go_wp2_with fail
 exact⟨rfl,zw (k.out _) g (Ext.below j)⟩
theorem name_kept {i:List Tok}(h:St w p i r o b)(z:(hd r).kind=1)(l:tx r∈Tp.kept) :
  Calls Tryz.prog 75 #[.pointer (some ⟨p.pb,0,none⟩)] w fun e w'=>Thrown w.heap.size (3,at' r) e w'/\Ext p.pb w w':=by
 have A:(((hd r).kind:Int) != 1)=false:=by simp;omega
 have g:=fun (W:World) (y:St W p i r o b)=>kept_get y (hd r).text
 have k:(hd r).text∈Tp.kept:=l
 simp only[if_pos k]at g
 have v:Hid (∀(W:World),St W p i r o b->(Instr.lookup 95 (.map (some p.kb)) (.string (bs (hd r).text)) false).run Tryz.prog W=.ok (.int .i64 1) W):=g
 clear z l k g
 go_enter Tryz.func75,Tryz.ntmps75
 go_wp2_with fail
 refine(zK h).mono ?_
 rintro e c⟨rfl,j⟩
 have f:=h.below j
 have u:=f.c2
 have B:=zg u
 have t:=fun a n=>v.out _ (f.grown a n rfl)
 go_wp2_with fail
 go_quiet (fail)
 clear t
 go_wp2_with fail
 have d:∀a,Below c.heap.size c ((c.alloc a).drewN nq):=fun a=>below_drewN (zb _ _) nq
 have q:∀a,Ext p.pb w ((c.alloc a).drewN nq):=fun a=>(Ext.below j).trans (Ext.below (d a))
 have x:Hid (∀a,Ext p.pb w ((c.alloc a).drewN nq)):=q
 refine(zY (f.below (d _)) 3).mono ?_
 clear d q
 rintro e G⟨m,s⟩
 obtain⟨C,D,rfl,E,F⟩:=m.out
 go_wp2_with fail
 exact⟨rfl,zw (x.out _) m (Ext.below s)⟩
theorem name_free {k:List Tok}(h:St w p k r o b)(G:(hd r).kind=1)(z:tx r ∉ Tp.kept) :
  Calls Tryz.prog 75 #[.pointer (some ⟨p.pb,0,none⟩)] w fun e w'=>if 10<(tx r).length then Thrown w.heap.size (4,at' r) e w'/\Ext p.pb w w' else e=.returned (.string (bs (tx r)))/\St w' p k (stp r) o b/\Ext p.pb w w':=by
 have I:(((hd r).kind:Int) != 1)=false:=by simp;omega
 have s:=fun (W:World) (F:St W p k r o b)=>kept_get F (hd r).text
 have u:(hd r).text ∉ Tp.kept:=z
 simp only[if_neg u]at s
 have x:Hid (∀(W:World),St W p k r o b->(Instr.lookup 95 (.map (some p.kb)) (.string (bs (hd r).text)) false).run Tryz.prog W=.ok (.int .i64 0) W):=s
 have v:((bs (hd r).text).size:Int)=(tx r).length:=by simp[bs,tx,ByteArray.size]
 have t:(bs (hd r).text).size=(tx r).length:=by simp[bs,tx,ByteArray.size]
 clear G z u s
 by_cases j:10<(tx r).length
 ·simp only[if_pos j]
  have E:(10:Int)<((bs (hd r).text).size:Int):=by omega
  clear j v t
  go_enter Tryz.func75,Tryz.ntmps75
  go_wp2_with fail
  refine(zK h).mono ?_
  rintro e c⟨rfl,g⟩
  have f:=h.below g
  have m:=f.c2
  have D:=zg m
  have l:=fun a n=>x.out _ (f.grown a n rfl)
  go_wp2_with fail
  go_quiet (fail)
  clear l
  go_wp2_with fail
  have d:∀a,Below c.heap.size c ((c.alloc a).drewN nq):=fun a=>below_drewN (zb _ _) nq
  have i:∀a,Ext p.pb w ((c.alloc a).drewN nq):=fun a=>(Ext.below g).trans (Ext.below (d a))
  have q:Hid (∀a,Ext p.pb w ((c.alloc a).drewN nq)):=i
  refine(zY (f.below (d _)) 4).mono ?_
  clear d i
  rintro e B⟨A,C⟩
  obtain⟨J,K,rfl,y,L⟩:=A.out
  go_wp2_with fail
  exact⟨rfl,zw (q.out _) A (Ext.below C)⟩
 ·simp only[if_neg j]
  have E:¬(10:Int)<((bs (hd r).text).size:Int):=by omega
  clear j v t
  go_enter Tryz.func75,Tryz.ntmps75
  go_wp2_with fail
  refine(zK h).mono ?_
  rintro e c⟨rfl,g⟩
  have f:=h.below g
  have m:=f.c2
  have D:=zg m
  have l:=fun a n=>x.out _ (f.grown a n rfl)
  go_wp2_with fail
  go_quiet (fail)
  clear l
  go_wp2_with fail
  have d:∀a,Below c.heap.size c ((c.alloc a).drewN nq):=fun a=>below_drewN (zb _ _) nq
  have i:∀a,Ext p.pb w ((c.alloc a).drewN nq):=fun a=>(Ext.below g).trans (Ext.below (d a))
  have q:Hid (∀a,Ext p.pb w ((c.alloc a).drewN nq)):=i
  refine(yW (f.below (d _))).mono ?_
  clear d i
  rintro e B⟨rfl,y,x2⟩
  have H:B.cell? ⟨c.heap.size,2,none⟩=some (.string (bs (hd r).text)):=x2.cell (by simp[go_sem]) (by simp;omega)
  go_wp2_with fail
  go_ret
  exact⟨rfl,y,(q.out _).trans x2⟩
theorem ki (h:St w p g r o b) :
  Calls Tryz.prog 75 #[.pointer (some ⟨p.pb,0,none⟩)] w fun e w'=>Post p g o b w (fun l v _=>v=.string (bs l)) (Tp.name r) e w':=by
 unfold Tp.name
 by_cases a:(hd r).kind=1
 ·by_cases d:tx r∈Tp.kept
  ·rw[if_pos (Or.inr d)];exact name_kept h a d
  ·rw[if_neg (by simp[a,d])]
   refine(name_free h a d).mono ?_
   intro e w' c
   by_cases f:10<(tx r).length
   ·rw[if_pos f]at c ⊢;exact c
   ·rw[if_neg f]at c ⊢;exact⟨_,c.1,rfl,c.2⟩
 ·rw[if_pos (Or.inl a)];exact name_kind h a
theorem val_snoc (l:List UInt8)(c:UInt8):Tp.val (l++[c])=Tp.val l*10+(c.toNat-48):=by simp[Tp.val,List.foldl_append]
theorem vT (l:List UInt8):∀k,Tp.val (l.take k)<=Tp.val l:=by
 have b:∀(m:List UInt8) (a:Nat),a<=m.foldl (fun a c=>a*10+(c.toNat-48)) a:=by
  intro m
  induction m with
  |nil=>intro a;exact Nat.le_refl _
  |cons c m ih=>intro a;exact Nat.le_trans (show a<=a*10+(c.toNat-48) by omega) (ih _)
 intro k
 conv=>rhs;rw[<-List.take_append_drop k l]
 unfold Tp.val
 rw[List.foldl_append]
 exact b _ _
theorem take_snoc (l:List UInt8)(k:Nat)(h:k<l.length):l.take (k+1)=l.take k++[l[k]]:=by rw[List.take_succ_eq_append_getElem h]
theorem St.mem_hd (h:St w p a r o b):Tp.hd r∈a:=List.mem_of_getElem? h.hd.1
theorem uj (h:St w p m r o b)(most:Nat)(l:(hd r).kind≠2) :
  Calls Tryz.prog 131 #[.pointer (some ⟨p.pb,0,none⟩),.int .i64 (most:Int)] w fun e w'=>Thrown w.heap.size (3,at' r) e w'/\Ext p.pb w w':=by
 have n:(((hd r).kind:Int) != 2)=true:=by simp;omega
 clear l
 go_enter Tryz.func131,Tryz.ntmps131
 go_wp2_with fail
 refine(zK h).mono ?_
 rintro e c⟨rfl,f⟩
 go_wp2_with fail
 have d:∀a,Below c.heap.size c (c.alloc a):=fun a=>zb _ _
 have i:∀a,Ext p.pb w (c.alloc a):=fun a=>(Ext.below f).trans (Ext.below (d a))
 have k:Hid (∀a,Ext p.pb w (c.alloc a)):=i
 refine(zY ((h.below f).below (d _)) 3).mono ?_
 clear d i
 rintro e v⟨g,j⟩
 obtain⟨q,s,rfl,t,u⟩:=g.out
 go_wp2_with fail
 exact⟨rfl,zw (k.out _) g (Ext.below j)⟩
theorem number_is {F:List Tok}(h:St w p F r o b)(most:Nat)(h9:9<=most)(X:most<=9223372036854775807)(x:(hd r).kind=2) :
  Calls Tryz.prog 131 #[.pointer (some ⟨p.pb,0,none⟩),.int .i64 (most:Int)] w fun e w'=>Post p F o b w (fun (n:Nat) v _=>v=.int .i64 (n:Int)) (Tp.number most r) e w':=by
 have V:(((hd r).kind:Int) != 2)=false:=by simp;omega
 have G:=h.dig _ h.mem_hd x
 have Z:=(h.tl _ h.mem_hd).1
 have z:Hid (Tp.number most r=if most<Tp.val (tx r) then .error (4,at' r) else .ok (Tp.val (tx r),stp r)):=by unfold Hid Tp.number;simp[x]
 have A:Hid (tx r=(hd r).text):=rfl
 have T:Hid (at' r=(hd r).pos):=rfl
 clear x
 go_enter Tryz.func131,Tryz.ntmps131
 go_wp2_with fail
 refine(zK h).mono ?_
 rintro e f⟨rfl,m⟩
 generalize a0:(hd r).text=l at *
 have g:(bs l).size=l.length:=by simp[bs,ByteArray.size]
 go_wp2_with fail
 go_loop [19,6] (fun c n=>∃k:Nat,k<=l.length/\c=.int .i64 (k:Int)/\n=.int .i64 (Tp.val (l.take k):Int)/\Tp.val (l.take k)<=most) (fun c _=>l.length-(intOf c).toNat)
 case atStart=>exact⟨0,Nat.zero_le _,rfl,rfl,by simp[Tp.val]⟩
 case round =>
  obtain⟨k,W,rfl,rfl,K⟩:=hrel
  by_cases d:k<l.length
  ·have C:=G l[k] (List.getElem_mem d)
   have u:(bs l)[k]'(by rw[g];exact d)=l[k]:=by simp[bs,ByteArray.getElem_eq_getElem_data]
   have E:Tp.val (l.take (k+1))=Tp.val (l.take k)*10+(((bs l)[k]'(by rw[g];exact d)).toNat-48):=by rw[u,take_snoc l k d,val_snoc]
   have O:(48:Int)<=(((bs l)[k]'(by rw[g];exact d)).toNat:Int)/\(((bs l)[k]'(by rw[g];exact d)).toNat:Int)<=57:=by
    rw[u];simp only[Tp.digit,decide_eq_true_eq]at C;omega
   have a1:=vT l (k+1)
   obtain⟨R,S⟩:=O
   have s:Hid (Tp.val (l.take (k+1))=Tp.val (l.take k)*10+(((bs l)[k]'(by rw[g];exact d)).toNat-48)):=E
   clear E u C
   have U:(9:Int)<=(most:Int):=by omega
   have Y:¬(most:Int)<(((bs l)[k]'(by rw[g];exact d)).toNat:Int)-48:=by omega
   by_cases q:Tp.val (l.take (k+1))<=most
   ·have P:((Tp.val (l.take k):Nat):Int)<=((most:Int)-((((bs l)[k]'(by rw[g];exact d)).toNat:Int)-48)) / 10:=by have:=s.out;omega
    have N:Hid (Tp.val (l.take (k+1))<=most):=q
    clear q
    go_wp2_with fail
    go_round
    case rel=>exact⟨k+1,by omega,by go_num,by rw[s.out];go_num,N.out⟩
    case measure=>simp[intOf];omega
   ·have P:((most:Int)-((((bs l)[k]'(by rw[g];exact d)).toNat:Int)-48)) / 10<((Tp.val (l.take k):Nat):Int):=by have:=s.out;omega
    have M:Hid (most<Tp.val l):=by unfold Hid;omega
    clear q
    go_wp2_with fail
    have i:∀a,Below f.heap.size f (f.alloc a):=fun a=>zb _ _
    have j:∀a,Ext p.pb w (f.alloc a):=fun a=>(Ext.below m).trans (Ext.below (i a))
    have t:Hid (∀a,Ext p.pb w (f.alloc a)):=j
    refine(zY ((h.below m).below (i _)) 4).mono ?_
    clear i j
    rintro e Q⟨D,J⟩
    obtain⟨ab,h1,rfl,B,h3⟩:=D.out
    go_wp2_with fail
    refine⟨rfl,?_⟩
    rw[z.out,A.out,if_pos M.out]
    exact zw (t.out _) D (Ext.below J)
  ·have y:k=l.length:=by omega
   have I:Hid (k=l.length):=y
   clear y
   go_wp2_with fail
   have i:∀a,Below f.heap.size f (f.alloc a):=fun a=>zb _ _
   have j:∀a,Ext p.pb w (f.alloc a):=fun a=>(Ext.below m).trans (Ext.below (i a))
   have t:Hid (∀a,Ext p.pb w (f.alloc a)):=j
   refine(yW ((h.below m).below (i _))).mono ?_
   clear i j
   rintro e Q⟨rfl,B,x2⟩
   go_wp2_with fail
   go_ret
   have L:l.take k=l:=by rw[I.out];simp
   have H:=K
   rw[L]at H ⊢
   rw[z.out,A.out,if_neg (by omega)]
   exact⟨_,rfl,rfl,B,(t.out _).trans x2⟩
theorem kM (h:St w p c r o b)(most:Nat)(f:9<=most)(d:most<=9223372036854775807) :
  Calls Tryz.prog 131 #[.pointer (some ⟨p.pb,0,none⟩),.int .i64 (most:Int)] w fun e w'=>Post p c o b w (fun (n:Nat) v _=>v=.int .i64 (n:Int)) (Tp.number most r) e w':=by
 by_cases a:(hd r).kind=2
 ·exact number_is h most f d a
 ·rw[show Tp.number most r=.error (3,at' r) by unfold Tp.number;simp[a]]
  exact uj h most a
def strs (l:List (List UInt8)):List Value:=l.map fun s=>.string (bs s)
theorem Tryz.infoString:(Tryz.prog.info? 9).map (fun i=>(i.zero,i.size,i.bytes))=some (some (.string ⟨#[]⟩),1,16):=by kernel_rfl
theorem z7 {a:Nat}(h:w.ownsRow a e size v n xs):∃ao cap,v=.slice ao n cap:=by
 rcases h.2 with⟨rfl,rfl⟩|⟨g,cap,cur,rfl,_⟩
 ·exact⟨_,_,rfl⟩
 ·exact⟨_,_,rfl⟩
theorem zD {a:Nat}(h:w.ownsRow a e size v n xs)(k:Ext b w w')(m:b<a):w'.ownsRow a e size v n xs:=by
 refine⟨h.1,?_⟩
 rcases h.2 with c|⟨g,cap,f,c,i,d,j⟩
 ·exact Or.inl c
 ·refine Or.inr ⟨g,cap,f,c,i,?_,j⟩
  have l:g<w.heap.size:=by rw[Array.getElem?_eq_some_iff]at d;exact d.1
  rw[k.block g l (by omega)];exact d
theorem Ext.trans' {d e:World}(h:Ext b w d)(a:Below w.heap.size d e):Ext b w e :=
 ⟨a.os.trans h.os,a.tape.trans h.tape,a.output.trans h.output,Nat.le_trans h.size a.size,fun i c f=>(a.block i c).trans (h.block i c f)⟩
theorem zL {a:Nat}(h:w.ownsRow a e size v n xs):∀g,v.ownBlock=some g->a<=g:=by
 intro g b
 rcases h.2 with⟨rfl,rfl⟩|⟨g',cap,cur,rfl,h2,_⟩
 ·simp[Value.ownBlock]at b
 ·simp[Value.ownBlock]at b;omega
def addAll {α:Type}(l:List α):Except Tp.Er (List α×List Tok)->Except Tp.Er (List α×List Tok)
 | .error e=>.error e
 | .ok (m,r)=>.ok (l++m,r)
theorem yZ (l m:List α)(x:Except Tp.Er (List α×List Tok)):addAll l (addAll m x)=addAll (l++m) x:=by
 cases x with
 |error e=>rfl
 |ok v=>simp[addAll]
theorem xd (f a most:Nat)(r:List Tok)(h:most<=a):Tp.names (f+1) a most r=.error (4,at' r):=by
 rw[Tp.names,if_pos h]
theorem vw {a:Nat}{b:Tp.Er}(h:¬most<=a)(c:Tp.name r=.error b):Tp.names (f+1) a most r=.error b:=by
 rw[Tp.names,if_neg h,c];rfl
theorem jY {a:Nat}{b:List Tok}(h:¬most<=a)(d:Tp.name r=.ok (nm,b))(c:tx b=Tp.mComma):Tp.names (f+1) a most r=addAll [nm] (Tp.names f (a+1) most (stp b)):=by
 rw[Tp.names,if_neg h,d]
 simp only[bind,Except.bind,c,if_true]
 cases Tp.names f (a+1) most (stp b) with
 |error e=>rfl
 |ok v=>rfl
theorem jZ (h:¬most<=b)(d:Tp.name r=.ok (nm,a))(c:¬tx a=Tp.mComma):Tp.names (f+1) b most r=.ok ([nm],a):=by
 rw[Tp.names,if_neg h,d]
 simp only[bind,Except.bind,c,if_false]
theorem names_post {J:List Tok}(h:St w p J r o b)(a most f:Nat)(hm:most<=10)(hh:a<=10)(hf:1<=f)(a2:most+1<=f+a) :
  Calls Tryz.prog 77 #[.pointer (some ⟨p.pb,0,none⟩),.int .i64 (a:Int),.int .i64 (most:Int)] w fun e w' =>
   Post p J o b w (fun l v w'=>w'.ownsRow w.heap.size 9 1 v l.length (strs l)) (Tp.names f a most r) e w':=by
 obtain⟨i0,hi,a3,a4,a5⟩:=info_parts Tryz.infoString
 have D:=zg h.c0
 go_enter Tryz.func77,Tryz.ntmps77
 go_wp2_with fail
 go_loopg [7] (most+1-a) (fun k v wr=>∃(l:List (List UInt8)) (d:List Tok) (f':Nat),k=most+1-(a+l.length)/\1<=f'/\most+1<=f'+(a+l.length)/\l.length<=10/\wr.ownsRow w.heap.size 9 1 v l.length (strs l)/\St wr p J d o b/\Ext p.pb w wr/\addAll l (Tp.names f' (a+l.length) most d)=Tp.names f a most r)
 case atStart =>
  refine⟨[],r,f,rfl,hf,a2,by simp,World.ownsRow_nil _ _ _ _,h,Ext.refl _ _,?_⟩
  simp only[List.length_nil,Nat.add_zero]
  cases Tp.names f a most r with
  |error e=>rfl
  |ok x=>rfl
 case round =>
  obtain⟨l,d,f',U,a6,a7,a8,B,E,n,O⟩:=hrel
  obtain⟨ao,cap,rfl⟩:=z7 B
  have y:Hid (addAll l (Tp.names f' (a+l.length) most d)=Tp.names f a most r):=O
  have HK:Hid (gk=most+1-(a+l.length)):=U
  clear O U
  obtain⟨H,rfl⟩:∃H,f'=H+1:=⟨f'-1,by omega⟩
  by_cases Y:most<=a+l.length
  ·go_wp2_with fail
   refine(zY E 4).mono ?_
   rintro e K⟨i,a0⟩
   obtain⟨ab,h1,rfl,h2,h3⟩:=i.out
   go_wp2_with fail
   refine⟨rfl,?_⟩
   rw[<-y.out,xd _ _ _ _ Y]
   exact zw n i (Ext.below a0)
  ·go_wp2_with fail
   refine(ki E).mono ?_
   intro e K I
   generalize q:Tp.name d=res at I
   rcases res with er|⟨nm,m⟩
   ·have t:Hid (Tp.name d=.error er):=q
    clear q
    obtain⟨i,g⟩:=I
    obtain⟨ab,h1,rfl,h2,h3⟩:=i.out
    go_wp2_with fail
    refine⟨rfl,?_⟩
    rw[<-y.out,vw (by omega) t.out]
    exact zw n i g
   ·have t:Hid (Tp.name d=.ok (nm,m)):=q
    clear q
    obtain⟨v,rfl,rfl,P,g⟩:=I
    have A:=zD B g D
    have Z:=(n.trans g).size
    clear B E
    go_wp2_with (at_builtin;refine wpList_append_own _ rfl _ _ 46 rfl w.heap.size 9 i0 (.string ⟨#[]⟩) 1 16 Tryz.underlying46 hi a3 a4 a5 rfl (by decide) _ _ _ rfl (A.alloc _) ⟨K.heap.size,0,none⟩ 1 1 [.string (bs nm)] rfl rfl ?c1 ?c2 ?c3 ?c4 ?c5 ?_)
    case c1 =>
     intro j u z
     match j,z with
     | 0,z=>simp at z;subst z;simp[Addr.add]
    case c2=>intro u V;simp at V;subst V;rfl
    case c3=>unfold maxLen;omega
    case c4=>omega
    case c5=>simp;omega
    ·intro v' W M L _
     have C:Below w.heap.size K W:=((Below.refl _ _).alloc Z _).trans ((Below.refl _ _).grown L (by simp;omega) (zL A))
     have Q:=P.belowB C D
     have R:Ext p.pb w W:=(n.trans g).trans' C
     clear L A P
     go_wp2_with fail
     refine(zQ Q Tp.mComma _ rfl).mono ?_
     rintro e X⟨rfl,s,F⟩
     have N:=zD M F D
     have T:Hid (Ext p.pb w X):=R.trans F
     have S:Hid (X.ownsRow w.heap.size 9 1 v' (l++[nm]).length (strs (l++[nm]))):=by unfold Hid;simpa[strs] using N
     clear M N R F Q C
     by_cases c:tx m=Tp.mComma
     ·have a1:=decide_eq_true c
      rw[if_pos c]at s
      have G:Hid (tx m=Tp.mComma):=c
      clear c
      go_wp2_with fail
      go_roundg (most+1-(a+(l++[nm]).length))
      case measure=>have:=HK.out;simp;omega
      case rel =>
       refine⟨l++[nm],stp m,H,rfl,by omega,by simp;omega,by simp;omega,S.out,s,T.out,?_⟩
       rw[<-y.out,jY (by omega) t.out G.out,yZ]
       simp[Nat.add_assoc]
     ·have a1:=decide_eq_false c
      rw[if_neg c]at s
      have G:Hid (¬tx m=Tp.mComma):=c
      clear c
      go_wp2_with fail
      go_ret
      rw[<-y.out,jZ (by omega) t.out G.out]
      exact⟨_,rfl,S.out,s,T.out⟩
theorem Lv.below (h:Lv w)(k:Below B w w')(a:4<B):Lv w' :=
 ⟨Nat.lt_of_lt_of_le h.1 k.size,fun i b=>(k.cell (p:=⟨4,i,none⟩) a).trans (h.2 i b)⟩
def lvAgg:Value:=.agg levs.toArray
theorem yL {P:Program}{b:Array Oper}{rest:List Oper}{o:Oper}{a:Act}{Q:Exit->Act->World->Prop}(d:o.guard=none)(t:TypeId)(x:Operand)(f:o.op=.load t x)(v:Value)
  (c:(Instr.loadAt t (a.eval x)).run P w=.ok v w)(h:wpList P b Q rest (a.put o.dst v) w):wpList P b Q (o :: rest) a w:=by
 refine wpList_plain d fun K e=>?_
 unfold Oper.wp
 simp[execOp,f,c,Result.andThen]
 exact e _ _ h
theorem ji {P:Program}(a:Addr)(vs:List Value):∀(n i:Nat) (b:Array Value),(∀j,i<=j->j<i+n->w.cell? (a.add j)=some (vs.getD j undef))->i+n<=vs.length ->
  (loadCellsFrom a i n b).run P w=.ok (b++((vs.drop i).take n).toArray) w:=by
 intro n
 induction n with
 |zero=>intro i b _ _;simp[loadCellsFrom]
 |succ n ih =>
  intro i b h f
  have c:=h i zn (by omega)
  have hd:vs.drop i=vs.getD i undef :: vs.drop (i+1):=by
   rw[List.drop_eq_getElem_cons (by omega)]
   simp[List.getD_eq_getElem?_getD,List.getElem?_eq_getElem (show i<vs.length by omega)]
  simp only[loadCellsFrom,Sem.run_bind,load,Sem.run,c,Result.andThen]
  rw[ih (i+1) _ (fun j d e=>h j (by omega) (by omega)) (by omega),hd]
  simp
theorem lev_load (h:Lv w):(Instr.loadAt 304 (.pointer (some ⟨4,0,none⟩))).run Tryz.prog w=.ok lvAgg w:=by
 have d:=ji (P:=Tryz.prog) (w:=w) ⟨4,0,none⟩ levs 26 0 #[] (fun j _ f=>by have e:=h.2 j (by omega);by_cases a:j=0<;>simpa[Addr.add,a] using e) (by decide)
 have b:(isAgg 304).run Tryz.prog w=.ok true w:=by kernel_rfl
 have c:(sizeOf 304).run Tryz.prog w=.ok 26 w:=by kernel_rfl
 simp only[Instr.loadAt,Instr.sureAddr,loadVar,loadCells,Sem.run_bind,Result.andThen]
 simp[b,c,d,lvAgg,levs]
theorem lev_idx0 (w:World):(Instr.index 304 lvAgg (.int .i64 0)).run Tryz.prog w=.ok (.agg #[.string ⟨#[111,114]⟩,.int .i64 0]) w:=by kernel_rfl
theorem lev_idx1 (w:World):(Instr.index 304 lvAgg (.int .i64 1)).run Tryz.prog w=.ok (.agg #[.string ⟨#[97,110,100]⟩,.int .i64 1]) w:=by kernel_rfl
theorem lev_idx2 (w:World):(Instr.index 304 lvAgg (.int .i64 2)).run Tryz.prog w=.ok (.agg #[.string ⟨#[61]⟩,.int .i64 2]) w:=by kernel_rfl
theorem lev_idx3 (w:World):(Instr.index 304 lvAgg (.int .i64 3)).run Tryz.prog w=.ok (.agg #[.string ⟨#[35]⟩,.int .i64 2]) w:=by kernel_rfl
theorem lev_idx4 (w:World):(Instr.index 304 lvAgg (.int .i64 4)).run Tryz.prog w=.ok (.agg #[.string ⟨#[60]⟩,.int .i64 2]) w:=by kernel_rfl
theorem lev_idx5 (w:World):(Instr.index 304 lvAgg (.int .i64 5)).run Tryz.prog w=.ok (.agg #[.string ⟨#[60,61]⟩,.int .i64 2]) w:=by kernel_rfl
theorem lev_idx6 (w:World):(Instr.index 304 lvAgg (.int .i64 6)).run Tryz.prog w=.ok (.agg #[.string ⟨#[62]⟩,.int .i64 2]) w:=by kernel_rfl
theorem lev_idx7 (w:World):(Instr.index 304 lvAgg (.int .i64 7)).run Tryz.prog w=.ok (.agg #[.string ⟨#[62,61]⟩,.int .i64 2]) w:=by kernel_rfl
theorem lev_idx8 (w:World):(Instr.index 304 lvAgg (.int .i64 8)).run Tryz.prog w=.ok (.agg #[.string ⟨#[43]⟩,.int .i64 3]) w:=by kernel_rfl
theorem lev_idx9 (w:World):(Instr.index 304 lvAgg (.int .i64 9)).run Tryz.prog w=.ok (.agg #[.string ⟨#[45]⟩,.int .i64 3]) w:=by kernel_rfl
theorem lev_idx10 (w:World):(Instr.index 304 lvAgg (.int .i64 10)).run Tryz.prog w=.ok (.agg #[.string ⟨#[42]⟩,.int .i64 4]) w:=by kernel_rfl
theorem lev_idx11 (w:World):(Instr.index 304 lvAgg (.int .i64 11)).run Tryz.prog w=.ok (.agg #[.string ⟨#[100,105,118]⟩,.int .i64 4]) w:=by kernel_rfl
theorem lev_idx12 (w:World):(Instr.index 304 lvAgg (.int .i64 12)).run Tryz.prog w=.ok (.agg #[.string ⟨#[109,111,100]⟩,.int .i64 4]) w:=by kernel_rfl
theorem lvl_none (op:List UInt8)(u:([111,114]==op)=false)(v:([97,110,100]==op)=false)(w:([61]==op)=false)(x:([35]==op)=false)(y:([60]==op)=false)(z:([60,61]==op)=false)(A:([62]==op)=false)(B:([62,61]==op)=false)(C:([43]==op)=false)(D:([45]==op)=false)(d:([42]==op)=false)(f:([100,105,118]==op)=false)(g:([109,111,100]==op)=false):Tp.lvl op=5:=by
 have k:∀l:List UInt8,(l==op)=false->op≠l:=fun l h e=>by subst e;simp at h
 have i:=k _ u;have j:=k _ v;have m:=k _ w;have n:=k _ x;have o:=k _ y;have p:=k _ z;have q:=k _ A;have r:=k _ B;have s:=k _ C;have t:=k _ D;have a:=k _ d;have b:=k _ f;have c:=k _ g
 unfold Tp.lvl
 simp only[Tp.wOr,Tp.wAnd,Tp.mEq,Tp.mNe,Tp.mLt,Tp.mLe,Tp.mGt,Tp.mGe,Tp.mPlus,Tp.mMinus,Tp.mStar,Tp.wDiv,Tp.wMod,i,j,m,n,o,p,q,r,s,t,a,b,c,or_self,if_false]
theorem ur (w:World)(op:List UInt8)(b:Lv w) :
  Calls Tryz.prog 220 #[.string (bs op)] w fun e w'=>e=.returned (.int .i64 (Tp.lvl op:Int))/\Below w.heap.size w w':=by
 have h:=lev_idx0;have i:=lev_idx1;have j:=lev_idx2;have k:=lev_idx3;have l:=lev_idx4;have m:=lev_idx5;have n:=lev_idx6
 have o:=lev_idx7;have p:=lev_idx8;have q:=lev_idx9;have d:=lev_idx10;have f:=lev_idx11;have g:=lev_idx12
 have c:=zk op
 go_enter Tryz.func220,Tryz.ntmps220
 go_wp2_with (refine yL rfl 304 (.global 4) rfl lvAgg (lev_load b) ?_)
 refine wp_loop_rounds 14 ?_
 rw[rounds_succ]
 go_wp2
 ·go_ret
  have a:=eq_of_beq ‹([111,114]==op)=true›
  exact⟨by rw[<-a];rfl,by go_grown⟩
 rw[rounds_succ]
 go_wp2
 ·go_ret
  have a:=eq_of_beq ‹([97,110,100]==op)=true›
  exact⟨by rw[<-a];rfl,by go_grown⟩
 rw[rounds_succ]
 go_wp2
 ·go_ret
  have a:=eq_of_beq ‹([61]==op)=true›
  exact⟨by rw[<-a];rfl,by go_grown⟩
 rw[rounds_succ]
 go_wp2
 ·go_ret
  have a:=eq_of_beq ‹([35]==op)=true›
  exact⟨by rw[<-a];rfl,by go_grown⟩
 rw[rounds_succ]
 go_wp2
 ·go_ret
  have a:=eq_of_beq ‹([60]==op)=true›
  exact⟨by rw[<-a];rfl,by go_grown⟩
 rw[rounds_succ]
 go_wp2
 ·go_ret
  have a:=eq_of_beq ‹([60,61]==op)=true›
  exact⟨by rw[<-a];rfl,by go_grown⟩
 rw[rounds_succ]
 go_wp2
 ·go_ret
  have a:=eq_of_beq ‹([62]==op)=true›
  exact⟨by rw[<-a];rfl,by go_grown⟩
 rw[rounds_succ]
 go_wp2
 ·go_ret
  have a:=eq_of_beq ‹([62,61]==op)=true›
  exact⟨by rw[<-a];rfl,by go_grown⟩
 rw[rounds_succ]
 go_wp2
 ·go_ret
  have a:=eq_of_beq ‹([43]==op)=true›
  exact⟨by rw[<-a];rfl,by go_grown⟩
 rw[rounds_succ]
 go_wp2
 ·go_ret
  have a:=eq_of_beq ‹([45]==op)=true›
  exact⟨by rw[<-a];rfl,by go_grown⟩
 rw[rounds_succ]
 go_wp2
 ·go_ret
  have a:=eq_of_beq ‹([42]==op)=true›
  exact⟨by rw[<-a];rfl,by go_grown⟩
 rw[rounds_succ]
 go_wp2
 ·go_ret
  have a:=eq_of_beq ‹([100,105,118]==op)=true›
  exact⟨by rw[<-a];rfl,by go_grown⟩
 rw[rounds_succ]
 go_wp2
 ·go_ret
  have a:=eq_of_beq ‹([109,111,100]==op)=true›
  exact⟨by rw[<-a];rfl,by go_grown⟩
 rw[rounds_succ]
 go_wp2
 go_ret
 have a:=lvl_none op ‹_› ‹_› ‹_› ‹_› ‹_› ‹_› ‹_› ‹_› ‹_› ‹_› ‹_› ‹_› ‹_›
 exact⟨by rw[a];rfl,by go_grown⟩
end Go.Proofs.YtbkndnmglhghlaaGreatDoor

namespace Go.Proofs.YtbkndnmglhghlaaGreatDoor
open Go.RowKit
open Tp (Tok hd tx at' stp X)
variable {a r:List Tok}{b o:Nat}{D:Nat->Prop}{p:Ps}{w w':World}
def RepL (w:World) (D:Nat->Prop):List X->List Value->Prop
 |[],vs=>vs=[]
 | ⟨code,pos,n,mod,name,op,left,right,args⟩ :: xs,vs=>∃(b:Nat) (av:Value) (ls rs gs vs':List Value),
   vs=.pointer (some ⟨b,0,none⟩) :: vs'/\D b /\
   w.heap[b]?=some (.cells #[.int .i64 (code:Int),.int .i64 (pos:Int),.int .i64 (n:Int),.string (bs mod),.string (bs name),.string (bs op),ls.headD (.pointer none),rs.headD (.pointer none),av] 236 (0,0)) /\
   RepL w D left ls/\ls.length<=1/\RepL w D right rs/\rs.length<=1/\RepL w D args gs/\(gs=[]/\av=.slice none 0 0\/∃g cap cur,av=.slice (some ⟨g,0,none⟩) gs.length cap/\D g/\w.heap[g]?=some (.cells cur 214 (0,0))/\gs.length<=cap/\cap<=maxLen/\cur.size=cap/\cur.toList.take gs.length=gs) /\
   RepL w D xs vs'
theorem RepL.mono {D':Nat->Prop}(i:∀b,D b->b<w.heap.size->w'.heap[b]?=w.heap[b]?/\D' b):∀(n:Nat) (l:List X) (vs:List Value),SizeOf.sizeOf l<=n->RepL w D l vs->RepL w' D' l vs:=by
 intro n
 induction n with
 |zero=>intro l vs c;cases l<;>simp at c<;>omega
 |succ n ih =>
  intro l vs c h
  cases l with
  |nil=>rw[RepL]at h ⊢;exact h
  |cons x xs =>
   obtain⟨code,pos,M,L,name,op,left,right,args⟩:=x
   rw[RepL]at h ⊢
   simp at c
   obtain⟨b,r,K,rs,B,q,C,E,e,F,G,H,I,J,a,p⟩:=h
   have j:∀{k:Nat} {o:Obj},w.heap[k]?=some o->k<w.heap.size:=fun f=>by rw[Array.getElem?_eq_some_iff]at f;exact f.1
   obtain⟨s,t⟩:=i b E (j e)
   refine⟨b,r,K,rs,B,q,C,t,s.trans e,ih _ _ (by omega) F,G,ih _ _ (by omega) H,I,ih _ _ (by omega) J,?_,ih _ _ (by omega) p⟩
   rcases a with a|⟨g,cap,m,y,z,d,A⟩
   ·exact Or.inl a
   ·obtain⟨u,v⟩:=i g z (j d)
    exact Or.inr ⟨g,cap,m,y,v,u.trans d,A⟩
theorem RepL.len:∀(l:List X) (vs:List Value),RepL w D l vs->vs.length=l.length:=by
 intro l
 induction l with
 |nil=>intro vs h;rw[RepL]at h;simp[h]
 |cons x xs ih =>
  intro vs h
  obtain⟨code,pos,s,d,name,op,left,right,args⟩:=x
  rw[RepL]at h
  obtain⟨b,f,r,rs,g,e,c,i,j,k,m,n,o,p,q,a⟩:=h
  subst c
  simp[ih _ a]
theorem RepL.app:∀(l m:List X) (vs a:List Value),RepL w D l vs->RepL w D m a->RepL w D (l++m) (vs++a):=by
 intro l
 induction l with
 |nil=>intro m vs a h k;rw[RepL]at h;subst h;exact k
 |cons x xs ih =>
  intro m vs a h k
  obtain⟨code,pos,v,u,name,op,left,right,args⟩:=x
  rw[RepL]at h
  obtain⟨b,e,t,rs,f,c,g,i,j,n,o,p,q,r,s,d⟩:=h
  subst g
  rw[List.cons_append,List.cons_append,RepL]
  exact⟨b,e,t,rs,f,c++a,rfl,i,j,n,o,p,q,r,s,ih m c a d k⟩
def VX (B:Nat) (l:List X) (v:Value) (w:World):Prop:=RepL w (fun b=>B<=b) l [v]
theorem RepL.ext (k:Ext b w w')(c:¬D b){l:List X}{vs:List Value}(h:RepL w D l vs):RepL w' D l vs :=
 RepL.mono (fun i a d=>⟨k.block i d (fun e=>c (e ▸ a)),a⟩) (SizeOf.sizeOf l) l vs zn h
theorem VX.ext {w w':World}{B b:Nat}(k:Ext b w w')(a:b<B){l:List X}{v:Value}(h:VX B l v w):VX B l v w':=RepL.ext k (by omega) h
theorem VX.base {B B':Nat}{l:List X}{v:Value}(h:VX B l v w)(a:B'<=B):VX B' l v w :=
 RepL.mono (fun _ b _=>⟨rfl,Nat.le_trans a b⟩) (SizeOf.sizeOf l) l [v] zn h
theorem St.setOnes {c:List Tok}(h:St w p c r o b)(a:Nat)(z:Int)(k:z=a):St (w.setCell ⟨p.pb,3,none⟩ (.int .i64 z)) p c r a b:=by
 subst k
 have e:∀j v,j≠3->w.cell? ⟨p.pb,j,none⟩=some v->(w.setCell ⟨p.pb,3,none⟩ (.int .i64 (a:Int))).cell? ⟨p.pb,j,none⟩=some v:=fun j v l g=>by
  rw[World.cell?_setCell_other w ⟨p.pb,3,none⟩ ⟨p.pb,j,none⟩ _ (by simp<;>omega)];exact g
 exact⟨e 0 _ (by omega) h.c0,e 1 _ (by omega) h.c1,e 2 _ (by omega) h.c2,World.cell?_setCell_same _ _ _ h.c3,e 4 _ (by omega) h.c4,fun j=>by simpa using h.fz j,
  (Below.heap_setCell _ _ _ _ (by have:=h.apart.2;simp;omega)).trans h.kept,fun i t f=>(h.toks i t f).ext (b:=p.pb) ((Ext.refl _ _).set 3 _) (by have:=h.apart.1;omega),h.suf,h.ne,h.len,h.last,h.apart,h.dig,h.tl,⟨by simpa using h.lv.1,fun i d=>by rw[World.cell?_setCell_other w ⟨p.pb,3,none⟩ ⟨4,i,none⟩ _ (by have:=h.glt;simp<;>omega)];exact h.lv.2 i d⟩,h.glt⟩
theorem kJ (h:St w p a r o b)(C:o<=1000)(c:Except Tp.Er (List X×List Tok))
  (l:∀w1,St w1 p a r (o+1) b->w1.heap.size=w.heap.size->Ext p.pb w w1->Calls Tryz.prog 180 #[.pointer (some ⟨p.pb,0,none⟩)] w1 fun e w'=>Post p a (o+1) b w1 (VX w1.heap.size) c e w') :
  Calls Tryz.prog 204 #[.pointer (some ⟨p.pb,0,none⟩),.func (.func 180) #[.pointer (some ⟨p.pb,0,none⟩)] #[]] w fun e w'=>Post p a o b w (VX w.heap.size) c e w':=by
 have q:=zg h.c0
 have j:=h.c3
 have k:=h.fz 3
 have u:(o:Int)<=1000:=by omega
 have s:Hid (∀w1,St w1 p a r (o+1) b->w1.heap.size=w.heap.size->Ext p.pb w w1->Calls Tryz.prog 180 #[.pointer (some ⟨p.pb,0,none⟩)] w1 fun e w'=>Post p a (o+1) b w1 (VX w1.heap.size) c e w'):=l
 clear l
 go_enter Tryz.func204,Tryz.ntmps204
 go_wp2_with fail
 refine(s.out _ (h.setOnes (o+1) _ (by omega)) (by simp) ((Ext.refl _ _).set 3 _)).mono ?_
 intro e E m
 have i:Ext p.pb w (w.setCell ⟨p.pb,3,none⟩ (.int .i64 ((o:Int)+1))):=(Ext.refl _ _).set 3 _
 have g:Hid (Ext p.pb w (w.setCell ⟨p.pb,3,none⟩ (.int .i64 ((o:Int)+1)))):=i
 clear i j k
 rcases c with er|⟨x,D⟩
 ·obtain⟨n,f⟩:=m
  obtain⟨y,z,rfl,A,B⟩:=n.out
  go_wp2_with fail
  exact⟨rfl,zw g.out n f⟩
 ·obtain⟨v,rfl,t,d,f⟩:=m
  have j:=d.c3
  have k:=d.fz 3
  go_wp2_with fail
  go_ret
  refine⟨_,rfl,?_,d.setOnes o _ (by omega),(g.out.trans f).set 3 _⟩
  refine VX.ext ((Ext.refl _ _).set 3 _) q ?_
  simpa using t
theorem jO (h:St w p a r o b)(C:o<=1000)(c:Except Tp.Er (List X×List Tok))
  (l:∀w1,St w1 p a r (o+1) b->w1.heap.size=w.heap.size->Ext p.pb w w1->Calls Tryz.prog 219 #[.pointer (some ⟨p.pb,0,none⟩)] w1 fun e w'=>Post p a (o+1) b w1 (VX w1.heap.size) c e w') :
  Calls Tryz.prog 204 #[.pointer (some ⟨p.pb,0,none⟩),.func (.func 219) #[.pointer (some ⟨p.pb,0,none⟩)] #[]] w fun e w'=>Post p a o b w (VX w.heap.size) c e w':=by
 have q:=zg h.c0
 have j:=h.c3
 have k:=h.fz 3
 have u:(o:Int)<=1000:=by omega
 have s:Hid (∀w1,St w1 p a r (o+1) b->w1.heap.size=w.heap.size->Ext p.pb w w1->Calls Tryz.prog 219 #[.pointer (some ⟨p.pb,0,none⟩)] w1 fun e w'=>Post p a (o+1) b w1 (VX w1.heap.size) c e w'):=l
 clear l
 go_enter Tryz.func204,Tryz.ntmps204
 go_wp2_with fail
 refine(s.out _ (h.setOnes (o+1) _ (by omega)) (by simp) ((Ext.refl _ _).set 3 _)).mono ?_
 intro e E m
 have i:Ext p.pb w (w.setCell ⟨p.pb,3,none⟩ (.int .i64 ((o:Int)+1))):=(Ext.refl _ _).set 3 _
 have g:Hid (Ext p.pb w (w.setCell ⟨p.pb,3,none⟩ (.int .i64 ((o:Int)+1)))):=i
 clear i j k
 rcases c with er|⟨x,D⟩
 ·obtain⟨n,f⟩:=m
  obtain⟨y,z,rfl,A,B⟩:=n.out
  go_wp2_with fail
  exact⟨rfl,zw g.out n f⟩
 ·obtain⟨v,rfl,t,d,f⟩:=m
  have j:=d.c3
  have k:=d.fz 3
  go_wp2_with fail
  go_ret
  refine⟨_,rfl,?_,d.setOnes o _ (by omega),(g.out.trans f).set 3 _⟩
  refine VX.ext ((Ext.refl _ _).set 3 _) q ?_
  simpa using t
end Go.Proofs.YtbkndnmglhghlaaGreatDoor
