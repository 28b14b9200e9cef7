import Derived.Test.YtibncofnnlbmcaaGreatDoorKPa
import Derived.Test.YtibncofnnlbmcaaGreatDoorRows
import Derived.WalkKit
import Derived.WalkSpells
import Derived.WalkLawsBesides
import Derived.RegionTactic
import Derived.ChangeAlike
import Derived.BigRegion
import Derived.Deep.QuietTactic
import Derived.BigQuiet
import Derived.Deep.LoopGhost
import Derived.Lib.Hide
set_option maxRecDepth 100000
set_option maxHeartbeats 4000000
namespace Go.Proofs.YtibncofnnlbmcaaGreatDoor
open Go.RowKit
open Tp (Tok hd tx at' stp)
theorem zb (w:World)(ob:Obj):Below w.heap.size w (w.alloc ob):=(Below.refl _ _).alloc (Nat.le_refl _) _
theorem zn {n:Nat}:n<=n:=Nat.le_refl n
theorem zh {p:Prop}(h:p):Hid p:=Lib.hid h
theorem zm:∀(fn:Fn) (first cap:Array Value) (w:World),(Instr.makeFunc fn first cap).run Tryz.prog w=.ok (.func fn first cap) w:=fun _ _ _ _=>rfl
def bs (l:List UInt8):ByteArray:=⟨l.toArray⟩
theorem zj (l:List UInt8):(bs l).toList=l:=by
 rw[ByteArray.toList_eq];simp[bs]
def ent (k:List UInt8) (i:Nat):MapEntry:=⟨.string (bs k),.int .i64 1,i⟩
def ents (n:Nat):Array MapEntry:=((Tp.kept.take n).zipIdx.map fun x=>ent x.1 x.2).toArray
structure Ps where
 pb:Nat
 tb:Nat
 kb:Nat
 cap:Nat
def levs:List Value:=[.string ⟨#[111,114]⟩,.int .i64 0,.string ⟨#[97,110,100]⟩,.int .i64 1,.string ⟨#[61]⟩,.int .i64 2,.string ⟨#[35]⟩,.int .i64 2,.string ⟨#[60]⟩,.int .i64 2,.string ⟨#[60,61]⟩,.int .i64 2,.string ⟨#[62]⟩,.int .i64 2,.string ⟨#[62,61]⟩,.int .i64 2,.string ⟨#[43]⟩,.int .i64 3,.string ⟨#[45]⟩,.int .i64 3,.string ⟨#[42]⟩,.int .i64 4,.string ⟨#[100,105,118]⟩,.int .i64 4,.string ⟨#[109,111,100]⟩,.int .i64 4]
def Lv (w:World):Prop:=3<w.heap.size/\∀i,i<26->w.cell? ⟨3,i,none⟩=some (levs.getD i undef)
structure TokAt (w:World) (b i:Nat) (t:Tok):Prop where
 c0:w.cell? ⟨b,i*3,none⟩=some (.int .i64 (t.kind:Int))
 c1:w.cell? ⟨b,i*3+1,none⟩=some (.int .i64 (t.pos:Int))
 c2:w.cell? ⟨b,i*3+2,none⟩=some (.string (bs t.text))
structure St (w:World) (p:Ps) (ts r:List Tok) (o b:Nat):Prop where
 c0:w.cell? ⟨p.pb,0,none⟩=some (.slice (some ⟨p.tb,0,none⟩) ts.length p.cap)
 c1:w.cell? ⟨p.pb,1,none⟩=some (.int .i64 ((ts.length-r.length:Nat):Int))
 c2:w.cell? ⟨p.pb,2,none⟩=some (.map (some p.kb))
 c3:w.cell? ⟨p.pb,3,none⟩=some (.int .i64 (o:Int))
 c4:w.cell? ⟨p.pb,4,none⟩=some (.int .i64 (b:Int))
 fz:∀j,w.frozen? ⟨p.pb,j,none⟩=false
 kept:w.heap[p.kb]?=some (.map (ents 21) 21)
 toks:∀i t,ts[i]?=some t->TokAt w p.tb i t
 suf:ts.drop (ts.length-r.length)=r
 ne:r≠[]
 len:ts.length<=1000
 last:∀t,ts.getLast?=some t->t.kind=0
 apart:p.tb<p.pb/\p.kb<p.pb
 dig:∀t,t∈ts->t.kind=2->∀c,c∈t.text->Tp.digit c=true
 tl:∀t,t∈ts->t.text.length<=100000/\t.pos<=100000
 lv:Lv w
 glt:3<p.pb
structure Ext (b:Nat) (w w':World):Prop where
 os:w'.os=w.os
 tape:w'.tape=w.tape
 output:w'.output=w.output
 size:w.heap.size<=w'.heap.size
 block:∀k,k<w.heap.size->k≠b->w'.heap[k]?=w.heap[k]?
theorem Ext.refl (b:Nat)(w:World):Ext b w w:=⟨rfl,rfl,rfl,Nat.le_refl _,fun _ _ _=>rfl⟩
theorem Ext.trans {b:Nat}{d w2 e:World}(h:Ext b d w2)(k:Ext b w2 e):Ext b d e :=
 ⟨k.os.trans h.os,k.tape.trans h.tape,k.output.trans h.output,Nat.le_trans h.size k.size,fun i c a=>(k.block i (Nat.lt_of_lt_of_le c h.size) a).trans (h.block i c a)⟩
theorem Ext.below {b:Nat}{w w':World}(h:Below w.heap.size w w'):Ext b w w':=⟨h.os,h.tape,h.output,h.size,fun k a _=>h.block k a⟩
theorem Ext.set {b:Nat}{w w':World}(h:Ext b w w')(j:Nat)(u:Value):Ext b w (w'.setCell ⟨b,j,none⟩ u) :=
 ⟨h.os,h.tape,h.output,by simpa using h.size,fun k c a=>by rw[Below.heap_setCell _ _ _ _ (by simpa using a)];exact h.block k c a⟩
theorem Ext.cell {b:Nat}{w w':World}(h:Ext b w w'){a:Addr}{v:Value}(c:w.cell? a=some v)(d:a.block≠b):w'.cell? a=some v:=by
 rw[World.cell?_of_block (w:=w) (h.block a.block (World.block_lt_of_cell? _ _ c) d)];exact c
theorem TokAt.ext {b:Nat}{w w':World}(h:Ext b w w'){c i:Nat}{t:Tok}(k:TokAt w c i t)(a:c≠b):TokAt w' c i t :=
 ⟨h.cell k.c0 a,h.cell k.c1 a,h.cell k.c2 a⟩
theorem zg {w:World}{b j:Nat}{v:Value}(h:w.cell? ⟨b,j,none⟩=some v):b<w.heap.size:=World.block_lt_of_cell? _ _ h
theorem St.belowB {w w':World}{p:Ps}{f r:List Tok}{o b B:Nat}(h:St w p f r o b)(k:Below B w w')(c:p.pb<B):St w' p f r o b:=by
 have e:∀i j,i<B->w'.cell? ⟨i,j,none⟩=w.cell? ⟨i,j,none⟩:=fun i j a=>k.cell (p:=⟨i,j,none⟩) a
 have d:p.tb<B:=by have:=h.apart.1;omega
 have g:p.kb<B:=by have:=h.apart.2;omega
 exact⟨(e _ 0 c).trans h.c0,(e _ 1 c).trans h.c1,(e _ 2 c).trans h.c2,(e _ 3 c).trans h.c3,(e _ 4 c).trans h.c4,fun j=>(k.frozen (p:=⟨p.pb,j,none⟩) c).trans (h.fz j),(k.block _ g).trans h.kept,
  fun i t a=>⟨(e _ _ d).trans (h.toks i t a).c0,(e _ _ d).trans (h.toks i t a).c1,(e _ _ d).trans (h.toks i t a).c2⟩,h.suf,h.ne,h.len,h.last,h.apart,h.dig,h.tl,⟨Nat.lt_of_lt_of_le h.lv.1 k.size,fun i a=>(e _ _ (Nat.lt_trans h.glt c)).trans (h.lv.2 i a)⟩,h.glt⟩
theorem St.below {w w':World}{p:Ps}{a r:List Tok}{o b:Nat}(h:St w p a r o b)(k:Below w.heap.size w w'):St w' p a r o b:=h.belowB k (zg h.c0)
theorem St.hd {w:World}{p:Ps}{a r:List Tok}{o b:Nat}(h:St w p a r o b):a[a.length-r.length]?=some (hd r)/\a.length-r.length<a.length:=by
 have d:=h.suf
 have e:=h.ne
 cases r with
 |nil=>exact absurd rfl e
 |cons t l =>
  have c:(a.drop (a.length-(t :: l).length))[0]?=some t:=by rw[d];rfl
  rw[List.getElem?_drop,Nat.add_zero]at c
  refine⟨by rw[c];rfl,?_⟩
  rw[List.getElem?_eq_some_iff]at c
  exact c.1
theorem St.stp_of {w:World}{p:Ps}{a r:List Tok}{o b:Nat}(h:St w p a r o b)(g:(Tp.hd r).kind≠0):stp r=r.tail/\r.tail≠[]/\r.length=r.tail.length+1/\r.length<=a.length/\a.drop (a.length-r.tail.length)=r.tail:=by
 have c:=h.suf
 have k:=h.ne
 cases r with
 |nil=>exact absurd rfl k
 |cons t l =>
  have d:(t :: l).length<=a.length:=by
   have:=congrArg List.length c
   simp only[List.length_drop]at this
   omega
  have j:l≠[]:=by
   intro e
   subst e
   have:=h.last t (by
    have f:=List.getLast?_drop (i:=a.length-[t].length) (l:=a)
    rw[c,if_neg (by simp at d ⊢;omega)]at f
    rw[<-f];rfl)
   exact g this
  refine⟨by simp[stp,g],j,by simp,d,?_⟩
  simp only[List.tail_cons]
  have e:a.length-l.length=(a.length-(t :: l).length)+1:=by simp at d ⊢;omega
  rw[e,<-List.drop_drop,c]
  rfl
@[go_sem] theorem field_tok0 (w:World) (k a:Int) (t:ByteArray):(Instr.field 125 (.agg #[.int .i64 k,.int .i64 a,.string t]) 0).run Tryz.prog w=.ok (.int .i64 k) w:=by kernel_rfl
@[go_sem] theorem field_tok1 (w:World) (k a:Int) (t:ByteArray):(Instr.field 125 (.agg #[.int .i64 k,.int .i64 a,.string t]) 1).run Tryz.prog w=.ok (.int .i64 a) w:=by kernel_rfl
@[go_sem] theorem field_tok2 (w:World) (k a:Int) (t:ByteArray):(Instr.field 125 (.agg #[.int .i64 k,.int .i64 a,.string t]) 2).run Tryz.prog w=.ok (.string t) w:=by kernel_rfl
theorem now_raw (c b n cap i:Nat)(k a:Int)(t:ByteArray)(w:World)(j:c<w.heap.size)(l:b<w.heap.size)
  (f:w.cell? ⟨c,0,none⟩=some (.slice (some ⟨b,0,none⟩) n cap))(g:w.cell? ⟨c,1,none⟩=some (.int .i64 (i:Int)))(h:(i:Int)<n)
  (d:w.cell? ⟨b,i*3,none⟩=some (.int .i64 k))(c1:w.cell? ⟨b,i*3+1,none⟩=some (.int .i64 a))(c2:w.cell? ⟨b,i*3+2,none⟩=some (.string t)) :
  Calls Tryz.prog 70 #[.pointer (some ⟨c,0,none⟩)] w fun e w'=>e=.returned (.agg #[.int .i64 k,.int .i64 a,.string t])/\Below w.heap.size w w':=by
 go_enter Tryz.func70,Tryz.ntmps70
 go_wp2
 go_region
 go_wp2
 exact bodyPost_ret (v:=.agg #[.int .i64 k,.int .i64 a,.string t]) (by simp[results,Tryz.results70,go_sem]) rfl ⟨rfl,(zb _ _).drew⟩
theorem zK {w:World}{p:Ps}{c r:List Tok}{o b:Nat}(h:St w p c r o b) :
  Calls Tryz.prog 70 #[.pointer (some ⟨p.pb,0,none⟩)] w fun e w'=>e=.returned (.agg #[.int .i64 ((hd r).kind:Int),.int .i64 ((hd r).pos:Int),.string (bs (hd r).text)])/\Below w.heap.size w w':=by
 obtain⟨d,f⟩:=h.hd
 have a:=h.toks _ _ d
 exact now_raw p.pb p.tb c.length p.cap (c.length-r.length) _ _ _ w (zg h.c0) (zg a.c0) h.c0 h.c1 (by omega) a.c0 a.c1 a.c2
structure Thrown (B:Nat) (er:Nat×Nat) (e:Ending) (w':World):Prop where
 out:∃ab,B<=ab/\e=.panicked [{ v:=.iface 117 (.pointer (some ⟨ab,0,none⟩)),recovered:=false }]/\w'.cell? ⟨ab,0,none⟩=some (.int .i64 (er.1:Int))/\w'.cell? ⟨ab,1,none⟩=some (.int .i64 (er.2:Int))
theorem Thrown.mono {B B':Nat}{er:Nat×Nat}{e:Ending}{w':World}(h:Thrown B er e w')(k:B'<=B):Thrown B' er e w' :=
 let ⟨ab,a,b⟩:=h.out;⟨ab,Nat.le_trans k a,b⟩
theorem jw (en a:Nat)(w:World) :
  Calls Tryz.prog 60 #[.int .i64 (en:Int),.int .i64 (a:Int)] w fun e w'=>Thrown w.heap.size (en,a) e w'/\Below w.heap.size w w':=by
 go_enter Tryz.func60,Tryz.ntmps60
 go_wp2
 exact⟨rfl,⟨⟨w.heap.size,Nat.le_refl _,rfl,by simp[go_sem],by simp[go_sem]⟩⟩,zb _ _⟩
theorem zV {w:World}{p:Ps}{j r:List Tok}{o b:Nat}(h:St w p j r o b)(en:Nat) :
  Calls Tryz.prog 65 #[.pointer (some ⟨p.pb,0,none⟩),.int .i64 (en:Int)] w fun e w'=>Thrown w.heap.size (en,at' r) e w'/\Below w.heap.size w w':=by
 go_enter Tryz.func65,Tryz.ntmps65
 go_wp2_with fail
 refine(zK h).mono ?_
 rintro e k⟨rfl,a⟩
 go_wp2_with fail
 refine(jw en (hd r).pos k).mono ?_
 rintro e w2⟨i,c⟩
 obtain⟨d,m,rfl,f,g⟩:=i.out
 have l:=a.size
 go_wp2_with fail
 exact⟨rfl,⟨⟨d,by omega,rfl,f,g⟩⟩,a.trans (c.mono a.size)⟩
theorem yp {w:World}{p:Ps}{g r:List Tok}{o b:Nat}(h:St w p g r o b)(m:List UInt8)(x:ByteArray)(f:Hid (x=bs m)) :
  Calls Tryz.prog 67 #[.pointer (some ⟨p.pb,0,none⟩),.string x] w fun e w'=>e=.returned (.bool (decide (tx r=m)))/\Below w.heap.size w w':=by
 go_enter Tryz.func67,Tryz.ntmps67
 go_wp2_with fail
 refine(zK h).mono ?_
 rintro e i⟨rfl,a⟩
 go_wp2_with fail
 go_ret
 have c:x=bs m:=f
 subst c
 refine⟨?_,a⟩
 have d:((bs (hd r).text).toList==(bs m).toList)=decide (tx r=m):=by rw[Bool.eq_iff_iff,decide_eq_true_iff,beq_iff_eq,zj,zj];rfl
 simp[d]
theorem St.stepped {w w2:World}{p:Ps}{c r:List Tok}{o b:Nat}(h:St w p c r o b)(m:(Tp.hd r).kind≠0)(k:Below w.heap.size w w2) :
  St (w2.setCell ⟨p.pb,1,none⟩ (.int .i64 ((c.length-r.length:Nat)+1:Int))) p c (stp r) o b:=by
 have a:=h.below k
 obtain⟨d,f,s,u,g⟩:=h.stp_of m
 have y:=zg a.c0
 have e:∀j v,j≠1->w2.cell? ⟨p.pb,j,none⟩=some v->(w2.setCell ⟨p.pb,1,none⟩ (.int .i64 ((c.length-r.length:Nat)+1:Int))).cell? ⟨p.pb,j,none⟩=some v:=fun j v x q=>by
  rw[World.cell?_setCell_other w2 ⟨p.pb,1,none⟩ ⟨p.pb,j,none⟩ _ (by simp<;>omega)];exact q
 rw[d]
 refine⟨e 0 _ (by omega) a.c0,?_,e 2 _ (by omega) a.c2,e 3 _ (by omega) a.c3,e 4 _ (by omega) a.c4,fun j=>by simpa using a.fz j,(Below.heap_setCell _ _ _ _ (by have:=h.apart.2;simp;omega)).trans a.kept,fun i t n=>?_,g,f,h.len,h.last,h.apart,h.dig,h.tl,⟨by simpa using a.lv.1,fun i l=>by rw[World.cell?_setCell_other w2 ⟨p.pb,1,none⟩ ⟨3,i,none⟩ _ (by have:=h.glt;simp<;>omega)];exact a.lv.2 i l⟩,h.glt⟩
 ·have:((c.length-r.tail.length:Nat):Int)=((c.length-r.length:Nat)+1:Int):=by omega
  rw[this]
  exact World.cell?_setCell_same _ _ _ a.c1
 ·exact(a.toks i t n).ext (b:=p.pb) ((Ext.refl _ _).set 1 _) (by have:=h.apart.1;omega)
theorem yF {w:World}{p:Ps}{d r:List Tok}{o b:Nat}(h:St w p d r o b) :
  Calls Tryz.prog 102 #[.pointer (some ⟨p.pb,0,none⟩)] w fun e w'=>e=.returned (.int .i64 (at' r:Int))/\St w' p d (stp r) o b/\Ext p.pb w w':=by
 by_cases c:(hd r).kind=0
 ·have n:(((hd r).kind:Int) != 0)=false:=by simp[c]
  have j:Hid ((hd r).kind=0):=c
  clear c
  go_enter Tryz.func102,Tryz.ntmps102
  go_wp2_with fail
  refine(zK h).mono ?_
  rintro e u⟨rfl,a⟩
  go_wp2_with fail
  refine(zK (h.below a)).mono ?_
  rintro e w2⟨rfl,g⟩
  go_wp2_with fail
  go_ret
  have f:=a.trans (g.mono a.size)
  exact⟨rfl,by simp only[stp];rw[if_pos j.out];exact h.below f,Ext.below f⟩
 ·have n:(((hd r).kind:Int) != 0)=true:=by simp[c]
  have j:Hid ((hd r).kind≠0):=c
  clear c
  obtain⟨i,k⟩:∃i,i=d.length-r.length:=⟨_,rfl⟩
  have v:(i:Int)<=1000:=by have:=h.len;omega
  have s:Hid (i=d.length-r.length):=k
  have l:∀w',St w' p d r o b->w'.cell? ⟨p.pb,1,none⟩=some (.int .i64 (i:Int)):=fun w' t=>by rw[k];exact t.c1
  have q:Hid (∀w',St w' p d r o b->w'.cell? ⟨p.pb,1,none⟩=some (.int .i64 (i:Int))):=l
  clear k l
  go_enter Tryz.func102,Tryz.ntmps102
  go_wp2_with fail
  refine(zK h).mono ?_
  rintro e u⟨rfl,a⟩
  go_wp2_with fail
  refine(zK (h.below a)).mono ?_
  rintro e w2⟨rfl,g⟩
  have m:=(h.below a).below g
  have x:=q.out w2 m
  have y:=m.fz 1
  go_wp2_with fail
  go_ret
  have f:=a.trans (g.mono a.size)
  refine⟨rfl,?_,(Ext.below f).set 1 _⟩
  have:=h.stepped j.out f
  rw[<-s.out]at this
  exact this
theorem zP {w:World}{p:Ps}{f r:List Tok}{o b:Nat}(h:St w p f r o b)(m:List UInt8)(x:ByteArray)(d:Hid (x=bs m)) :
  Calls Tryz.prog 63 #[.pointer (some ⟨p.pb,0,none⟩),.string x] w fun e w'=>e=.returned (.bool (decide (tx r=m)))/\St w' p f (if tx r=m then stp r else r) o b/\Ext p.pb w w':=by
 by_cases a:tx r=m
 ·rw[decide_eq_true a,if_pos a]
  have g:=decide_eq_true a
  clear a
  go_enter Tryz.func63,Tryz.ntmps63
  go_wp2_with fail
  refine(yp h m x d).mono ?_
  rintro e j⟨rfl,c⟩
  go_wp2_with fail
  refine(yF (h.below c)).mono ?_
  rintro e w2⟨rfl,i,x2⟩
  go_wp2_with fail
  go_ret
  exact⟨rfl,i,(Ext.below c).trans x2⟩
 ·rw[decide_eq_false a,if_neg a]
  have g:=decide_eq_false a
  clear a
  go_enter Tryz.func63,Tryz.ntmps63
  go_wp2_with fail
  refine(yp h m x d).mono ?_
  rintro e j⟨rfl,c⟩
  go_wp2_with fail
  go_ret
  exact⟨rfl,h.below c,Ext.below c⟩
def Post {α:Type}(p:Ps) (ts:List Tok) (o b:Nat) (w:World) (val:α->Value->World->Prop) (res:Except Tp.Er (α×List Tok)) (e:Ending) (w':World):Prop :=
 match res with
 | .ok (x,r)=>∃v,e=.returned v/\val x v w'/\St w' p ts r o b/\Ext p.pb w w'
 | .error er=>Thrown w.heap.size er e w'/\Ext p.pb w w'
theorem zF {w:World}{p:Ps}{d r:List Tok}{o b:Nat}(h:St w p d r o b)(m:List UInt8)(x:ByteArray)(g:Hid (x=bs m))(c:tx r=m) :
  Calls Tryz.prog 61 #[.pointer (some ⟨p.pb,0,none⟩),.string x] w fun e w'=>e=.returned (.int .i64 (at' r:Int))/\St w' p d (stp r) o b/\Ext p.pb w w':=by
 have i:=decide_eq_true c
 clear c
 go_enter Tryz.func61,Tryz.ntmps61
 go_wp2_with fail
 refine(yp h m x g).mono ?_
 rintro e j⟨rfl,a⟩
 go_wp2_with fail
 refine(yF (h.below a)).mono ?_
 rintro e w2⟨rfl,f,x2⟩
 go_wp2_with fail
 go_ret
 exact⟨rfl,f,(Ext.below a).trans x2⟩
theorem zM {w:World}{p:Ps}{l r:List Tok}{o b:Nat}(h:St w p l r o b)(m:List UInt8)(x:ByteArray)(k:Hid (x=bs m))(c:tx r≠m) :
  Calls Tryz.prog 61 #[.pointer (some ⟨p.pb,0,none⟩),.string x] w fun e w'=>Thrown w.heap.size (3,at' r) e w'/\Ext p.pb w w':=by
 have n:=decide_eq_false c
 clear c
 go_enter Tryz.func61,Tryz.ntmps61
 go_wp2_with fail
 refine(yp h m x k).mono ?_
 rintro e t⟨rfl,a⟩
 have q:=a.size
 go_wp2_with fail
 refine(zV (h.below a) 3).mono ?_
 rintro e w2⟨j,d⟩
 obtain⟨f,s,rfl,g,i⟩:=j.out
 go_wp2_with fail
 exact⟨rfl,⟨⟨f,by omega,rfl,g,i⟩⟩,Ext.below (a.trans (d.mono a.size))⟩
theorem uv (e:Bool)(n:Nat)(x:ByteArray)(w:World):(Instr.checkKey e (n+1) 9 (.string x)).run Tryz.prog w=.ok () w:=by
 simp[Instr.checkKey,run_underlying Tryz.underlying9]
theorem find_str (x:ByteArray)(a:List MapEntry)(r:Option (Nat×Value))(w:World)(h:Instr.findNow .string (.string x) a 0=some r):(Instr.findKey 9 (.string x) a).run Tryz.prog w=.ok r w:=by
 simp[Instr.findKey,run_underlying Tryz.underlying9,h]
theorem push_set (h:Array Obj)(a b:Obj):(h.push a).setIfInBounds h.size b=h.push b:=by
 apply Array.toList_inj.1
 simp
theorem map_make (w:World):(Instr.makeMap 76 none).run Tryz.prog w=.ok (.map (some w.heap.size)) (w.alloc (.map (ents 0) 0)):=rfl
theorem zX (w:World)(n:Nat)(x:ByteArray)(h:Instr.findNow .string (.string x) (ents n).toList 0=some none)(k:ents (n+1)=(ents n).push ⟨.string x,.int .i64 1,n⟩) :
 (Instr.mapUpdate 76 (.map (some w.heap.size)) (.string x) (.int .i64 1)).run Tryz.prog (w.alloc (.map (ents n) n))=.ok () (w.alloc (.map (ents (n+1)) (n+1))):=by
 have a:(Instr.checkKey false 10000 9 (.string x)).run Tryz.prog (w.alloc (.map (ents n) n))=.ok () (w.alloc (.map (ents n) n)):=uv false 9999 x _
 have b:=find_str x (ents n).toList none (w.alloc (.map (ents n) n)) h
 have c:(w.alloc (.map (ents n) n)).heap[w.heap.size]?=some (.map (ents n) n):=by show (w.heap.push _)[w.heap.size]?=_;simp
 simp only[Instr.mapUpdate,Sem.run_bind,run_underlying Tryz.underlying76,Result.andThen,getObj,setObj,Sem.run,c,a,b]
 show Result.ok () ({ w.alloc (.map (ents n) n) with heap:=(w.heap.push (.map (ents n) n)).setIfInBounds w.heap.size _ }:World)=_
 rw[push_set,k]
 rfl
def pickV (r:Option (Nat×Value)):Value:=match r with|some (_,v)=>v|none=>.int .i64 0
theorem map_get (w:World)(b:Nat)(a:Array MapEntry)(c:Nat)(x:ByteArray)(f:w.heap[b]?=some (.map a c))(r:Option (Nat×Value))(h:Instr.findNow .string (.string x) a.toList 0=some r) :
 (Instr.lookup 76 (.map (some b)) (.string x) false).run Tryz.prog w=.ok (pickV r) w:=by
 have d:(Instr.checkKey a.isEmpty 10000 9 (.string x)).run Tryz.prog w=.ok () w:=uv a.isEmpty 9999 x w
 have e:=find_str x a.toList r w h
 have g:(zeroValue 3).run Tryz.prog w=.ok (.int .i64 0) w:=by kernel_rfl
 simp only[Instr.lookup,Sem.run_bind,run_underlying Tryz.underlying76,Result.andThen,getObj,Sem.run,f]
 cases r with
 |none=>simp[d,e,g,pickV]
 |some v=>simp[d,e,pickV]
theorem find_ents (l:List UInt8):∀(a:List (List UInt8)) (i j:Nat),∃r,Instr.findNow .string (.string (bs l)) ((a.zipIdx i).map fun x=>ent x.1 x.2) j=some r/\pickV r=Value.int .i64 (if l∈a then 1 else 0):=by
 intro a
 induction a with
 |nil=>intro i j;exact⟨none,rfl,rfl⟩
 |cons k a ih =>
  intro i j
  by_cases b:l=k
  ·subst b
   refine⟨some (j,.int .i64 1),?_,by simp[pickV]⟩
   have:(bs l==bs l)=true:=by show ((bs l).data==(bs l).data)=true;simp
   simp[Instr.findNow,Instr.sameNow,ent,this]
  ·obtain⟨r,c,d⟩:=ih (i+1) (j+1)
   refine⟨r,?_,by rw[d];simp[b]⟩
   have:(bs l==bs k)=false:=by show ((bs l).data==(bs k).data)=false;simp[bs,b]
   simp only[List.zipIdx_cons,List.map_cons,Instr.findNow,Instr.sameNow,ent,this]
   exact c
theorem kept_get {w:World}{p:Ps}{d r:List Tok}{o b:Nat}(h:St w p d r o b)(l:List UInt8) :
  (Instr.lookup 76 (.map (some p.kb)) (.string (bs l)) false).run Tryz.prog w=.ok (.int .i64 (if l∈Tp.kept then 1 else 0)) w:=by
 obtain⟨r,a,c⟩:=find_ents l Tp.kept 0 0
 rw[map_get w p.kb (ents 21) 21 (bs l) h.kept r (by simpa[ents,Tp.kept] using a),c]
theorem xP (w:World) :
  Calls Tryz.prog 31 #[] w fun e w'=>e=.returned (.map (some w.heap.size))/\w'=w.alloc (.map (ents 21) 21):=by
 have a:=map_make w
 have u0:=zX w 0 {data:=#[109,111,100,117,108,101]} (by kernel_rfl) (by kernel_rfl)
 have u1:=zX w 1 {data:=#[105,109,112,111,114,116]} (by kernel_rfl) (by kernel_rfl)
 have u2:=zX w 2 {data:=#[118,97,114]} (by kernel_rfl) (by kernel_rfl)
 have u3:=zX w 3 {data:=#[112,114,111,99]} (by kernel_rfl) (by kernel_rfl)
 have u4:=zX w 4 {data:=#[98,101,103,105,110]} (by kernel_rfl) (by kernel_rfl)
 have u5:=zX w 5 {data:=#[101,110,100]} (by kernel_rfl) (by kernel_rfl)
 have u6:=zX w 6 {data:=#[105,110,116]} (by kernel_rfl) (by kernel_rfl)
 have u7:=zX w 7 {data:=#[97,114,114,97,121]} (by kernel_rfl) (by kernel_rfl)
 have u8:=zX w 8 {data:=#[114,101,116,117,114,110]} (by kernel_rfl) (by kernel_rfl)
 have u9:=zX w 9 {data:=#[119,114,105,116,101]} (by kernel_rfl) (by kernel_rfl)
 have u10:=zX w 10 {data:=#[119,104,105,108,101]} (by kernel_rfl) (by kernel_rfl)
 have u11:=zX w 11 {data:=#[100,111]} (by kernel_rfl) (by kernel_rfl)
 have u12:=zX w 12 {data:=#[105,102]} (by kernel_rfl) (by kernel_rfl)
 have u13:=zX w 13 {data:=#[116,104,101,110]} (by kernel_rfl) (by kernel_rfl)
 have u14:=zX w 14 {data:=#[101,108,115,105,102]} (by kernel_rfl) (by kernel_rfl)
 have u15:=zX w 15 {data:=#[101,108,115,101]} (by kernel_rfl) (by kernel_rfl)
 have u16:=zX w 16 {data:=#[111,114]} (by kernel_rfl) (by kernel_rfl)
 have u17:=zX w 17 {data:=#[97,110,100]} (by kernel_rfl) (by kernel_rfl)
 have u18:=zX w 18 {data:=#[110,111,116]} (by kernel_rfl) (by kernel_rfl)
 have u19:=zX w 19 {data:=#[100,105,118]} (by kernel_rfl) (by kernel_rfl)
 have u20:=zX w 20 {data:=#[109,111,100]} (by kernel_rfl) (by kernel_rfl)
 go_enter Tryz.func31,Tryz.ntmps31
 go_wp2
 go_ret
 exact⟨rfl,rfl⟩
theorem St.grown {w w':World}{p:Ps}{a r:List Tok}{o b:Nat}(h:St w p a r o b)(ob:Obj)(n:Nat)(e:w'=(w.alloc ob).drewN n):St w' p a r o b:=by
 subst e;exact h.below (below_drewN (zb _ _) n)
theorem zt {b:Nat}{w W w':World}{er:Nat×Nat}{e:Ending}(a:Ext b w W)(c:Thrown W.heap.size er e w')(d:Ext b W w'):Thrown w.heap.size er e w'/\Ext b w w':=⟨c.mono a.size,a.trans d⟩
theorem name_kind {w:World}{p:Ps}{l r:List Tok}{o b:Nat}(h:St w p l r o b)(k:(hd r).kind≠1) :
  Calls Tryz.prog 62 #[.pointer (some ⟨p.pb,0,none⟩)] w fun e w'=>Thrown w.heap.size (3,at' r) e w'/\Ext p.pb w w':=by
 have m:(((hd r).kind:Int) != 1)=true:=by simp;omega
 clear k
 go_enter Tryz.func62,Tryz.ntmps62
 go_wp2_with fail
 refine(zK h).mono ?_
 rintro e a⟨rfl,d⟩
 go_wp2_with fail
 go_quiet (fail)
 go_wp2_with fail
 have c:∀ob,Below a.heap.size a ((a.alloc ob).drewN nq):=fun ob=>below_drewN (zb _ _) nq
 have g:∀ob,Ext p.pb w ((a.alloc ob).drewN nq):=fun ob=>(Ext.below d).trans (Ext.below (c ob))
 have j:Hid (∀ob,Ext p.pb w ((a.alloc ob).drewN nq)):=g
 refine(zV ((h.below d).below (c _)) 3).mono ?_
 clear c g
 rintro e w2⟨f,i⟩
 obtain⟨n,q,rfl,s,t⟩:=f.out
 go_wp2_with fail
 exact⟨rfl,zt (j.out _) f (Ext.below i)⟩
theorem name_kept {w:World}{p:Ps}{g r:List Tok}{o b:Nat}(h:St w p g r o b)(y:(hd r).kind=1)(k:tx r∈Tp.kept) :
  Calls Tryz.prog 62 #[.pointer (some ⟨p.pb,0,none⟩)] w fun e w'=>Thrown w.heap.size (3,at' r) e w'/\Ext p.pb w w':=by
 have z:(((hd r).kind:Int) != 1)=false:=by simp;omega
 have f:=fun (W:World) (x:St W p g r o b)=>kept_get x (hd r).text
 have j:(hd r).text∈Tp.kept:=k
 simp only[if_pos j]at f
 have u:Hid (∀(W:World),St W p g r o b->(Instr.lookup 76 (.map (some p.kb)) (.string (bs (hd r).text)) false).run Tryz.prog W=.ok (.int .i64 1) W):=f
 clear y k j f
 go_enter Tryz.func62,Tryz.ntmps62
 go_wp2_with fail
 refine(zK h).mono ?_
 rintro e a⟨rfl,i⟩
 have d:=h.below i
 have t:=d.c2
 have A:=zg t
 have s:=fun ob n=>u.out _ (d.grown ob n rfl)
 go_wp2_with fail
 go_quiet (fail)
 clear s
 go_wp2_with fail
 have c:∀ob,Below a.heap.size a ((a.alloc ob).drewN nq):=fun ob=>below_drewN (zb _ _) nq
 have m:∀ob,Ext p.pb w ((a.alloc ob).drewN nq):=fun ob=>(Ext.below i).trans (Ext.below (c ob))
 have v:Hid (∀ob,Ext p.pb w ((a.alloc ob).drewN nq)):=m
 refine(zV (d.below (c _)) 3).mono ?_
 clear c m
 rintro e w2⟨l,q⟩
 obtain⟨B,C,rfl,D,E⟩:=l.out
 go_wp2_with fail
 exact⟨rfl,zt (v.out _) l (Ext.below q)⟩
theorem name_free {w:World}{p:Ps}{j r:List Tok}{o b:Nat}(h:St w p j r o b)(E:(hd r).kind=1)(y:tx r ∉ Tp.kept) :
  Calls Tryz.prog 62 #[.pointer (some ⟨p.pb,0,none⟩)] w fun e w'=>if 10<(tx r).length then Thrown w.heap.size (4,at' r) e w'/\Ext p.pb w w' else e=.returned (.string (bs (tx r)))/\St w' p j (stp r) o b/\Ext p.pb w w':=by
 have G:(((hd r).kind:Int) != 1)=false:=by simp;omega
 have q:=fun (W:World) (D:St W p j r o b)=>kept_get D (hd r).text
 have t:(hd r).text ∉ Tp.kept:=y
 simp only[if_neg t]at q
 have v:Hid (∀(W:World),St W p j r o b->(Instr.lookup 76 (.map (some p.kb)) (.string (bs (hd r).text)) false).run Tryz.prog W=.ok (.int .i64 0) W):=q
 have u:((bs (hd r).text).size:Int)=(tx r).length:=by simp[bs,tx,ByteArray.size]
 have s:(bs (hd r).text).size=(tx r).length:=by simp[bs,tx,ByteArray.size]
 clear E y t q
 by_cases i:10<(tx r).length
 ·simp only[if_pos i]
  have C:(10:Int)<((bs (hd r).text).size:Int):=by omega
  clear i u s
  go_enter Tryz.func62,Tryz.ntmps62
  go_wp2_with fail
  refine(zK h).mono ?_
  rintro e a⟨rfl,f⟩
  have d:=h.below f
  have l:=d.c2
  have B:=zg l
  have k:=fun ob n=>v.out _ (d.grown ob n rfl)
  go_wp2_with fail
  go_quiet (fail)
  clear k
  go_wp2_with fail
  have c:∀ob,Below a.heap.size a ((a.alloc ob).drewN nq):=fun ob=>below_drewN (zb _ _) nq
  have g:∀ob,Ext p.pb w ((a.alloc ob).drewN nq):=fun ob=>(Ext.below f).trans (Ext.below (c ob))
  have m:Hid (∀ob,Ext p.pb w ((a.alloc ob).drewN nq)):=g
  refine(zV (d.below (c _)) 4).mono ?_
  clear c g
  rintro e w2⟨z,A⟩
  obtain⟨H,I,rfl,x,J⟩:=z.out
  go_wp2_with fail
  exact⟨rfl,zt (m.out _) z (Ext.below A)⟩
 ·simp only[if_neg i]
  have C:¬(10:Int)<((bs (hd r).text).size:Int):=by omega
  clear i u s
  go_enter Tryz.func62,Tryz.ntmps62
  go_wp2_with fail
  refine(zK h).mono ?_
  rintro e a⟨rfl,f⟩
  have d:=h.below f
  have l:=d.c2
  have B:=zg l
  have k:=fun ob n=>v.out _ (d.grown ob n rfl)
  go_wp2_with fail
  go_quiet (fail)
  clear k
  go_wp2_with fail
  have c:∀ob,Below a.heap.size a ((a.alloc ob).drewN nq):=fun ob=>below_drewN (zb _ _) nq
  have g:∀ob,Ext p.pb w ((a.alloc ob).drewN nq):=fun ob=>(Ext.below f).trans (Ext.below (c ob))
  have m:Hid (∀ob,Ext p.pb w ((a.alloc ob).drewN nq)):=g
  refine(yF (d.below (c _))).mono ?_
  clear c g
  rintro e w2⟨rfl,x,x2⟩
  have F:w2.cell? ⟨a.heap.size,2,none⟩=some (.string (bs (hd r).text)):=x2.cell (by simp[go_sem]) (by simp;omega)
  go_wp2_with fail
  go_ret
  exact⟨rfl,x,(m.out _).trans x2⟩
theorem yN {w:World}{p:Ps}{g r:List Tok}{o b:Nat}(h:St w p g r o b) :
  Calls Tryz.prog 62 #[.pointer (some ⟨p.pb,0,none⟩)] w fun e w'=>Post p g o b w (fun l v _=>v=.string (bs l)) (Tp.name r) e w':=by
 unfold Tp.name
 by_cases a:(hd r).kind=1
 ·by_cases d:tx r∈Tp.kept
  ·rw[if_pos (Or.inr d)];exact name_kept h a d
  ·rw[if_neg (by simp[a,d])]
   refine(name_free h a d).mono ?_
   intro e w' c
   by_cases f:10<(tx r).length
   ·rw[if_pos f]at c ⊢;exact c
   ·rw[if_neg f]at c ⊢;exact⟨_,c.1,rfl,c.2⟩
 ·rw[if_pos (Or.inl a)];exact name_kind h a
theorem val_snoc (l:List UInt8)(c:UInt8):Tp.val (l++[c])=Tp.val l*10+(c.toNat-48):=by simp[Tp.val,List.foldl_append]
theorem uC (l:List UInt8):∀k,Tp.val (l.take k)<=Tp.val l:=by
 have key:∀(m:List UInt8) (a:Nat),a<=m.foldl (fun a c=>a*10+(c.toNat-48)) a:=by
  intro m
  induction m with
  |nil=>intro a;exact Nat.le_refl _
  |cons c m ih=>intro a;exact Nat.le_trans (show a<=a*10+(c.toNat-48) by omega) (ih _)
 intro k
 conv=>rhs;rw[<-List.take_append_drop k l]
 unfold Tp.val
 rw[List.foldl_append]
 exact key _ _
theorem take_snoc (l:List UInt8)(k:Nat)(h:k<l.length):l.take (k+1)=l.take k++[l[k]]:=by rw[List.take_succ_eq_append_getElem h]
theorem St.mem_hd {w:World}{p:Ps}{a r:List Tok}{o b:Nat}(h:St w p a r o b):Tp.hd r∈a:=List.mem_of_getElem? h.hd.1
theorem uP {w:World}{p:Ps}{m r:List Tok}{o b:Nat}(h:St w p m r o b)(i:Nat)(l:(hd r).kind≠2) :
  Calls Tryz.prog 103 #[.pointer (some ⟨p.pb,0,none⟩),.int .i64 (i:Int)] w fun e w'=>Thrown w.heap.size (3,at' r) e w'/\Ext p.pb w w':=by
 have n:(((hd r).kind:Int) != 2)=true:=by simp;omega
 clear l
 go_enter Tryz.func103,Tryz.ntmps103
 go_wp2_with fail
 refine(zK h).mono ?_
 rintro e a⟨rfl,d⟩
 go_wp2_with fail
 have c:∀ob,Below a.heap.size a (a.alloc ob):=fun ob=>zb _ _
 have g:∀ob,Ext p.pb w (a.alloc ob):=fun ob=>(Ext.below d).trans (Ext.below (c ob))
 have k:Hid (∀ob,Ext p.pb w (a.alloc ob)):=g
 refine(zV ((h.below d).below (c _)) 3).mono ?_
 clear c g
 rintro e w2⟨f,j⟩
 obtain⟨q,s,rfl,t,u⟩:=f.out
 go_wp2_with fail
 exact⟨rfl,zt (k.out _) f (Ext.below j)⟩
theorem number_is {w:World}{p:Ps}{F r:List Tok}{o b:Nat}(h:St w p F r o b)(a:Nat)(h9:9<=a)(W:a<=9223372036854775807)(x:(hd r).kind=2) :
  Calls Tryz.prog 103 #[.pointer (some ⟨p.pb,0,none⟩),.int .i64 (a:Int)] w fun e w'=>Post p F o b w (fun (n:Nat) v _=>v=.int .i64 (n:Int)) (Tp.number a r) e w':=by
 have U:(((hd r).kind:Int) != 2)=false:=by simp;omega
 have G:=h.dig _ h.mem_hd x
 have Y:=(h.tl _ h.mem_hd).1
 have z:Hid (Tp.number a r=if a<Tp.val (tx r) then .error (4,at' r) else .ok (Tp.val (tx r),stp r)):=by unfold Hid Tp.number;simp[x]
 have A:Hid (tx r=(hd r).text):=rfl
 have S:Hid (at' r=(hd r).pos):=rfl
 clear x
 go_enter Tryz.func103,Tryz.ntmps103
 go_wp2_with fail
 refine(zK h).mono ?_
 rintro e f⟨rfl,m⟩
 generalize Z:(hd r).text=l at *
 have g:(bs l).size=l.length:=by simp[bs,ByteArray.size]
 go_wp2_with fail
 go_loop [19,6] (fun c n=>∃k:Nat,k<=l.length/\c=.int .i64 (k:Int)/\n=.int .i64 (Tp.val (l.take k):Int)/\Tp.val (l.take k)<=a) (fun c _=>l.length-(intOf c).toNat)
 case atStart=>exact⟨0,Nat.zero_le _,rfl,rfl,by simp[Tp.val]⟩
 case round =>
  obtain⟨k,V,rfl,rfl,K⟩:=hrel
  by_cases d:k<l.length
  ·have C:=G l[k] (List.getElem_mem d)
   have u:(bs l)[k]'(by rw[g];exact d)=l[k]:=by simp[bs,ByteArray.getElem_eq_getElem_data]
   have E:Tp.val (l.take (k+1))=Tp.val (l.take k)*10+(((bs l)[k]'(by rw[g];exact d)).toNat-48):=by rw[u,take_snoc l k d,val_snoc]
   have O:(48:Int)<=(((bs l)[k]'(by rw[g];exact d)).toNat:Int)/\(((bs l)[k]'(by rw[g];exact d)).toNat:Int)<=57:=by
    rw[u];simp only[Tp.digit,decide_eq_true_eq]at C;omega
   have a0:=uC l (k+1)
   obtain⟨Q,R⟩:=O
   have s:Hid (Tp.val (l.take (k+1))=Tp.val (l.take k)*10+(((bs l)[k]'(by rw[g];exact d)).toNat-48)):=E
   clear E u C
   have T:(9:Int)<=(a:Int):=by omega
   have X:¬(a:Int)<(((bs l)[k]'(by rw[g];exact d)).toNat:Int)-48:=by omega
   by_cases q:Tp.val (l.take (k+1))<=a
   ·have P:((Tp.val (l.take k):Nat):Int)<=((a:Int)-((((bs l)[k]'(by rw[g];exact d)).toNat:Int)-48)) / 10:=by have:=s.out;omega
    have N:Hid (Tp.val (l.take (k+1))<=a):=q
    clear q
    go_wp2_with fail
    go_round
    case rel=>exact⟨k+1,by omega,by go_num,by rw[s.out];go_num,N.out⟩
    case measure=>simp[intOf];omega
   ·have P:((a:Int)-((((bs l)[k]'(by rw[g];exact d)).toNat:Int)-48)) / 10<((Tp.val (l.take k):Nat):Int):=by have:=s.out;omega
    have M:Hid (a<Tp.val l):=by unfold Hid;omega
    clear q
    go_wp2_with fail
    have i:∀ob,Below f.heap.size f (f.alloc ob):=fun ob=>zb _ _
    have j:∀ob,Ext p.pb w (f.alloc ob):=fun ob=>(Ext.below m).trans (Ext.below (i ob))
    have t:Hid (∀ob,Ext p.pb w (f.alloc ob)):=j
    refine(zV ((h.below m).below (i _)) 4).mono ?_
    clear i j
    rintro e w2⟨D,J⟩
    obtain⟨ab,h1,rfl,B,h3⟩:=D.out
    go_wp2_with fail
    refine⟨rfl,?_⟩
    rw[z.out,A.out,if_pos M.out]
    exact zt (t.out _) D (Ext.below J)
  ·have y:k=l.length:=by omega
   have I:Hid (k=l.length):=y
   clear y
   go_wp2_with fail
   have i:∀ob,Below f.heap.size f (f.alloc ob):=fun ob=>zb _ _
   have j:∀ob,Ext p.pb w (f.alloc ob):=fun ob=>(Ext.below m).trans (Ext.below (i ob))
   have t:Hid (∀ob,Ext p.pb w (f.alloc ob)):=j
   refine(yF ((h.below m).below (i _))).mono ?_
   clear i j
   rintro e w2⟨rfl,B,x2⟩
   go_wp2_with fail
   go_ret
   have L:l.take k=l:=by rw[I.out];simp
   have H:=K
   rw[L]at H ⊢
   rw[z.out,A.out,if_neg (by omega)]
   exact⟨_,rfl,rfl,B,(t.out _).trans x2⟩
theorem kA {w:World}{p:Ps}{d r:List Tok}{o b:Nat}(h:St w p d r o b)(a:Nat)(g:9<=a)(f:a<=9223372036854775807) :
  Calls Tryz.prog 103 #[.pointer (some ⟨p.pb,0,none⟩),.int .i64 (a:Int)] w fun e w'=>Post p d o b w (fun (n:Nat) v _=>v=.int .i64 (n:Int)) (Tp.number a r) e w':=by
 by_cases c:(hd r).kind=2
 ·exact number_is h a g f c
 ·rw[show Tp.number a r=.error (3,at' r) by unfold Tp.number;simp[c]]
  exact uP h a c
def strs (l:List (List UInt8)):List Value:=l.map fun s=>.string (bs s)
theorem Tryz.infoString:(Tryz.prog.info? 9).map (fun i=>(i.zero,i.size,i.bytes))=some (some (.string ⟨#[]⟩),1,16):=by kernel_rfl
theorem zw {w:World}{a e size n:Nat}{v:Value}{b:List Value}(h:w.ownsRow a e size v n b):∃ao cap,v=.slice ao n cap:=by
 rcases h.2 with⟨rfl,rfl⟩|⟨g,cap,cur,rfl,_⟩
 ·exact⟨_,_,rfl⟩
 ·exact⟨_,_,rfl⟩
theorem zA {w w':World}{a e size n b:Nat}{v:Value}{f:List Value}(h:w.ownsRow a e size v n f)(k:Ext b w w')(o:b<a):w'.ownsRow a e size v n f:=by
 refine⟨h.1,?_⟩
 rcases h.2 with c|⟨g,cap,i,c,j,d,l⟩
 ·exact Or.inl c
 ·refine Or.inr ⟨g,cap,i,c,j,?_,l⟩
  have m:g<w.heap.size:=by rw[Array.getElem?_eq_some_iff]at d;exact d.1
  rw[k.block g m (by omega)];exact d
theorem Ext.trans' {w d w2:World}{b:Nat}(h:Ext b w d)(a:Below w.heap.size d w2):Ext b w w2 :=
 ⟨a.os.trans h.os,a.tape.trans h.tape,a.output.trans h.output,Nat.le_trans h.size a.size,fun i c e=>(a.block i c).trans (h.block i c e)⟩
theorem zU {w:World}{a e size n:Nat}{v:Value}{c:List Value}(h:w.ownsRow a e size v n c):∀g,v.ownBlock=some g->a<=g:=by
 intro g b
 rcases h.2 with⟨rfl,rfl⟩|⟨g',cap,cur,rfl,h2,_⟩
 ·simp[Value.ownBlock]at b
 ·simp[Value.ownBlock]at b;omega
def addAll {α:Type}(l:List α):Except Tp.Er (List α×List Tok)->Except Tp.Er (List α×List Tok)
 | .error e=>.error e
 | .ok (m,r)=>.ok (l++m,r)
theorem yJ {α:Type}(l m:List α)(x:Except Tp.Er (List α×List Tok)):addAll l (addAll m x)=addAll (l++m) x:=by
 cases x with
 |error e=>rfl
 |ok v=>simp[addAll]
theorem x5 (f b a:Nat)(r:List Tok)(h:a<=b):Tp.names (f+1) b a r=.error (4,at' r):=by
 rw[Tp.names,if_pos h]
theorem vO {f b a:Nat}{r:List Tok}{er:Tp.Er}(h:¬a<=b)(c:Tp.name r=.error er):Tp.names (f+1) b a r=.error er:=by
 rw[Tp.names,if_neg h,c];rfl
theorem xy {f b a:Nat}{r c:List Tok}{nm:List UInt8}(h:¬a<=b)(g:Tp.name r=.ok (nm,c))(d:tx c=Tp.mComma):Tp.names (f+1) b a r=addAll [nm] (Tp.names f (b+1) a (stp c)):=by
 rw[Tp.names,if_neg h,g]
 simp only[bind,Except.bind,d,if_true]
 cases Tp.names f (b+1) a (stp c) with
 |error e=>rfl
 |ok v=>rfl
theorem xz {f c b:Nat}{r a:List Tok}{nm:List UInt8}(h:¬b<=c)(e:Tp.name r=.ok (nm,a))(d:¬tx a=Tp.mComma):Tp.names (f+1) c b r=.ok ([nm],a):=by
 rw[Tp.names,if_neg h,e]
 simp only[bind,Except.bind,d,if_false]
theorem names_post {w:World}{p:Ps}{L r:List Tok}{o b:Nat}(h:St w p L r o b)(c a f:Nat)(hm:a<=10)(hh:c<=10)(hf:1<=f)(a3:a+1<=f+c) :
  Calls Tryz.prog 64 #[.pointer (some ⟨p.pb,0,none⟩),.int .i64 (c:Int),.int .i64 (a:Int)] w fun e w' =>
   Post p L o b w (fun l v w'=>w'.ownsRow w.heap.size 9 1 v l.length (strs l)) (Tp.names f c a r) e w':=by
 obtain⟨i0,hi,a4,a5,a6⟩:=info_parts Tryz.infoString
 have F:=zg h.c0
 go_enter Tryz.func64,Tryz.ntmps64
 go_wp2_with fail
 go_loopg [7] (a+1-c) (fun k v wr=>∃(l:List (List UInt8)) (i:List Tok) (g:Nat),k=a+1-(c+l.length)/\1<=g/\a+1<=g+(c+l.length)/\l.length<=10/\wr.ownsRow w.heap.size 9 1 v l.length (strs l)/\St wr p L i o b/\Ext p.pb w wr/\addAll l (Tp.names g (c+l.length) a i)=Tp.names f c a r)
 case atStart =>
  refine⟨[],r,f,rfl,hf,a3,by simp,World.ownsRow_nil _ _ _ _,h,Ext.refl _ _,?_⟩
  simp only[List.length_nil,Nat.add_zero]
  cases Tp.names f c a r with
  |error e=>rfl
  |ok x=>rfl
 case round =>
  obtain⟨l,i,g,V,a7,a8,a9,D,G,s,P⟩:=hrel
  obtain⟨ao,cap,rfl⟩:=zw D
  have A:Hid (addAll l (Tp.names g (c+l.length) a i)=Tp.names f c a r):=P
  have HK:Hid (gk=a+1-(c+l.length)):=V
  clear P V
  obtain⟨J,rfl⟩:∃J,g=J+1:=⟨g-1,by omega⟩
  by_cases Z:a<=c+l.length
  ·go_wp2_with fail
   refine(zV G 4).mono ?_
   rintro e w2⟨n,a1⟩
   obtain⟨ab,h1,rfl,h2,h3⟩:=n.out
   go_wp2_with fail
   refine⟨rfl,?_⟩
   rw[<-A.out,x5 _ _ _ _ Z]
   exact zt s n (Ext.below a1)
  ·go_wp2_with fail
   refine(yN G).mono ?_
   intro e w2 K
   generalize t:Tp.name i=res at K
   rcases res with er|⟨nm,q⟩
   ·have z:Hid (Tp.name i=.error er):=t
    clear t
    obtain⟨n,m⟩:=K
    obtain⟨ab,h1,rfl,h2,h3⟩:=n.out
    go_wp2_with fail
    refine⟨rfl,?_⟩
    rw[<-A.out,vO (by omega) z.out]
    exact zt s n m
   ·have z:Hid (Tp.name i=.ok (nm,q)):=t
    clear t
    obtain⟨v,rfl,rfl,Q,m⟩:=K
    have C:=zA D m F
    have a0:=(s.trans m).size
    clear D G
    go_wp2_with (at_builtin;refine wpList_append_own _ rfl _ _ 25 rfl w.heap.size 9 i0 (.string ⟨#[]⟩) 1 16 Tryz.underlying25 hi a4 a5 a6 rfl (by decide) _ _ _ rfl (C.alloc _) ⟨w2.heap.size,0,none⟩ 1 1 [.string (bs nm)] rfl rfl ?c1 ?c2 ?c3 ?c4 ?c5 ?_)
    case c1 =>
     intro j u B
     match j,B with
     | 0,B=>simp at B;subst B;simp[Addr.add]
    case c2=>intro u W;simp at W;subst W;rfl
    case c3=>unfold maxLen;omega
    case c4=>omega
    case c5=>simp;omega
    ·intro v' X N M _
     have E:Below w.heap.size w2 X:=((Below.refl _ _).alloc a0 _).trans ((Below.refl _ _).grown M (by simp;omega) (zU C))
     have R:=Q.belowB E F
     have S:Ext p.pb w X:=(s.trans m).trans' E
     clear M C Q
     go_wp2_with fail
     refine(zP R Tp.mComma _ rfl).mono ?_
     rintro e Y⟨rfl,y,H⟩
     have O:=zA N H F
     have U:Hid (Ext p.pb w Y):=S.trans H
     have T:Hid (Y.ownsRow w.heap.size 9 1 v' (l++[nm]).length (strs (l++[nm]))):=by unfold Hid;simpa[strs] using O
     clear N O S H R E
     by_cases d:tx q=Tp.mComma
     ·have a2:=decide_eq_true d
      rw[if_pos d]at y
      have I:Hid (tx q=Tp.mComma):=d
      clear d
      go_wp2_with fail
      go_roundg (a+1-(c+(l++[nm]).length))
      case measure=>have:=HK.out;simp;omega
      case rel =>
       refine⟨l++[nm],stp q,J,rfl,by omega,by simp;omega,by simp;omega,T.out,y,U.out,?_⟩
       rw[<-A.out,xy (by omega) z.out I.out,yJ]
       simp[Nat.add_assoc]
     ·have a2:=decide_eq_false d
      rw[if_neg d]at y
      have I:Hid (¬tx q=Tp.mComma):=d
      clear d
      go_wp2_with fail
      go_ret
      rw[<-A.out,xz (by omega) z.out I.out]
      exact⟨_,rfl,T.out,y,U.out⟩
end Go.Proofs.YtibncofnnlbmcaaGreatDoor
