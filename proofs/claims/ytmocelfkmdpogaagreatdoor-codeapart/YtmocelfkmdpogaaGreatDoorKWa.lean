import Derived.Test.YtmocelfkmdpogaaGreatDoorKPa
import Derived.Test.YtmocelfkmdpogaaGreatDoorRows
import Derived.WalkKit
import Derived.WalkSpells
import Derived.WalkLawsBesides
import Derived.RegionTactic
import Derived.ChangeAlike
import Derived.BigRegion
import Derived.Deep.QuietTactic
import Derived.BigQuiet
import Derived.Deep.LoopGhost
import Derived.Handy
import Derived.Lib.Hide
set_option maxRecDepth 100000
set_option maxHeartbeats 4000000
namespace Go.Proofs.YtmocelfkmdpogaaGreatDoor
open Go.RowKit
open Tp (Tok hd tx at' stp)
theorem zb (w:World)(ob:Obj):Below w.heap.size w (w.alloc ob):=(Below.refl _ _).alloc (Nat.le_refl _) _
theorem zn {n:Nat}:n<=n:=Nat.le_refl n
theorem zh {p:Prop}(h:p):Hid p:=Lib.hid h
theorem zm:∀(fn:Fn) (first cap:Array Value) (w:World),(Instr.makeFunc fn first cap).run Tryz.prog w=.ok (.func fn first cap) w:=fun _ _ _ _=>rfl
def bs (l:List UInt8):ByteArray:=⟨l.toArray⟩
theorem zy (l:List UInt8):(bs l).toList=l:=by
 rw[ByteArray.toList_eq];simp[bs]
def ent (k:List UInt8) (i:Nat):MapEntry:=⟨.string (bs k),.int .i64 1,i⟩
def ents (n:Nat):Array MapEntry:=((Tp.kept.take n).zipIdx.map fun x=>ent x.1 x.2).toArray
structure Ps where
 pb:Nat
 tb:Nat
 kb:Nat
 cap:Nat
def levs:List Value:=[.string ⟨#[111,114]⟩,.int .i64 0,.string ⟨#[97,110,100]⟩,.int .i64 1,.string ⟨#[61]⟩,.int .i64 2,.string ⟨#[35]⟩,.int .i64 2,.string ⟨#[60]⟩,.int .i64 2,.string ⟨#[60,61]⟩,.int .i64 2,.string ⟨#[62]⟩,.int .i64 2,.string ⟨#[62,61]⟩,.int .i64 2,.string ⟨#[43]⟩,.int .i64 3,.string ⟨#[45]⟩,.int .i64 3,.string ⟨#[42]⟩,.int .i64 4,.string ⟨#[100,105,118]⟩,.int .i64 4,.string ⟨#[109,111,100]⟩,.int .i64 4]
def Lv (w:World):Prop:=2<w.heap.size/\∀ i,i<26->w.cell? ⟨2,i,none⟩=some (levs.getD i undef)
structure TokAt (w:World) (b i:Nat) (t:Tok):Prop where
 c0:w.cell? ⟨b,i * 3,none⟩=some (.int .i64 (t.kind:Int))
 c1:w.cell? ⟨b,i * 3+1,none⟩=some (.int .i64 (t.pos:Int))
 c2:w.cell? ⟨b,i * 3+2,none⟩=some (.string (bs t.text))
structure St (w:World) (p:Ps) (ts r:List Tok) (o b:Nat):Prop where
 c0:w.cell? ⟨p.pb,0,none⟩=some (.slice (some ⟨p.tb,0,none⟩) ts.length p.cap)
 c1:w.cell? ⟨p.pb,1,none⟩=some (.int .i64 ((ts.length - r.length:Nat):Int))
 c2:w.cell? ⟨p.pb,2,none⟩=some (.map (some p.kb))
 c3:w.cell? ⟨p.pb,3,none⟩=some (.int .i64 (o:Int))
 c4:w.cell? ⟨p.pb,4,none⟩=some (.int .i64 (b:Int))
 fz:∀ j,w.frozen? ⟨p.pb,j,none⟩=false
 kept:w.heap[p.kb]?=some (.map (ents 21) 21)
 toks:∀ i t,ts[i]?=some t->TokAt w p.tb i t
 suf:ts.drop (ts.length - r.length)=r
 ne:r≠[]
 len:ts.length<=1000
 last:∀ t,ts.getLast?=some t->t.kind=0
 apart:p.tb<p.pb/\p.kb<p.pb
 dig:∀ t,t∈ts->t.kind=2->∀ c,c∈t.text->Tp.digit c=true
 tl:∀ t,t∈ts->t.text.length<=100000/\t.pos<=100000
 lv:Lv w
 glt:2<p.pb
structure Ext (b:Nat) (w w':World):Prop where
 os:w'.os=w.os
 tape:w'.tape=w.tape
 output:w'.output=w.output
 size:w.heap.size<=w'.heap.size
 block:∀ k,k<w.heap.size->k≠b->w'.heap[k]?=w.heap[k]?
theorem Ext.refl (b:Nat) (w:World):Ext b w w:=⟨rfl,rfl,rfl,Nat.le_refl _,fun _ _ _=>rfl⟩
theorem Ext.trans {b:Nat}{w1 w2 w3:World}(h:Ext b w1 w2) (k:Ext b w2 w3):Ext b w1 w3 :=
 ⟨k.os.trans h.os,k.tape.trans h.tape,k.output.trans h.output,Nat.le_trans h.size k.size,fun i hi hb=>(k.block i (Nat.lt_of_lt_of_le hi h.size) hb).trans (h.block i hi hb)⟩
theorem Ext.below {b:Nat}{w w':World}(h:Below w.heap.size w w'):Ext b w w':=⟨h.os,h.tape,h.output,h.size,fun k hk _=>h.block k hk⟩
theorem Ext.set {b:Nat}{w w':World}(h:Ext b w w') (j:Nat) (u:Value):Ext b w (w'.setCell ⟨b,j,none⟩ u) :=
 ⟨h.os,h.tape,h.output,by simpa using h.size,fun k hk hb=>by rw[Below.heap_setCell _ _ _ _ (by simpa using hb)];exact h.block k hk hb⟩
theorem Ext.cell {b:Nat}{w w':World}(h:Ext b w w') {a:Addr}{v:Value}(hc:w.cell? a=some v) (hb:a.block≠b):w'.cell? a=some v:=by
 rw[World.cell?_of_block (w:=w) (h.block a.block (World.block_lt_of_cell? _ _ hc) hb)];exact hc
theorem TokAt.ext {b:Nat}{w w':World}(h:Ext b w w') {tb i:Nat}{t:Tok}(k:TokAt w tb i t) (hb:tb≠b):TokAt w' tb i t :=
 ⟨h.cell k.c0 hb,h.cell k.c1 hb,h.cell k.c2 hb⟩
theorem zc {w:World}{b j:Nat}{v:Value}(h:w.cell? ⟨b,j,none⟩=some v):b<w.heap.size:=World.block_lt_of_cell? _ _ h
theorem St.belowB {w w':World}{p:Ps}{ts r:List Tok}{o b B:Nat}(h:St w p ts r o b) (k:Below B w w') (hp:p.pb<B):St w' p ts r o b:=by
 have e:∀ i j,i<B->w'.cell? ⟨i,j,none⟩=w.cell? ⟨i,j,none⟩:=fun i j hi=>k.cell (p:=⟨i,j,none⟩) hi
 have ht:p.tb<B:=by have:=h.apart.1;omega
 have hk:p.kb<B:=by have:=h.apart.2;omega
 exact⟨(e _ 0 hp).trans h.c0,(e _ 1 hp).trans h.c1,(e _ 2 hp).trans h.c2,(e _ 3 hp).trans h.c3,(e _ 4 hp).trans h.c4,fun j=>(k.frozen (p:=⟨p.pb,j,none⟩) hp).trans (h.fz j),(k.block _ hk).trans h.kept,
  fun i t hi=>⟨(e _ _ ht).trans (h.toks i t hi).c0,(e _ _ ht).trans (h.toks i t hi).c1,(e _ _ ht).trans (h.toks i t hi).c2⟩,h.suf,h.ne,h.len,h.last,h.apart,h.dig,h.tl,⟨Nat.lt_of_lt_of_le h.lv.1 k.size,fun i hi=>(e _ _ (Nat.lt_trans h.glt hp)).trans (h.lv.2 i hi)⟩,h.glt⟩
theorem St.below {w w':World}{p:Ps}{ts r:List Tok}{o b:Nat}(h:St w p ts r o b) (k:Below w.heap.size w w'):St w' p ts r o b:=h.belowB k (zc h.c0)
theorem St.hd {w:World}{p:Ps}{ts r:List Tok}{o b:Nat}(h:St w p ts r o b):ts[ts.length - r.length]?=some (hd r)/\ts.length - r.length<ts.length:=by
 have h1:=h.suf
 have h2:=h.ne
 cases r with
 | nil=>exact absurd rfl h2
 | cons t l =>
  have h3:(ts.drop (ts.length - (t :: l).length))[0]?=some t:=by rw[h1];rfl
  rw[List.getElem?_drop,Nat.add_zero]at h3
  refine⟨by rw[h3];rfl,?_⟩
  rw[List.getElem?_eq_some_iff]at h3
  exact h3.1
theorem St.stp_of {w:World}{p:Ps}{ts r:List Tok}{o b:Nat}(h:St w p ts r o b) (hk:(Tp.hd r).kind≠0):stp r=r.tail/\r.tail≠[]/\r.length=r.tail.length+1/\r.length<=ts.length/\ts.drop (ts.length - r.tail.length)=r.tail:=by
 have h1:=h.suf
 have h2:=h.ne
 cases r with
 | nil=>exact absurd rfl h2
 | cons t l =>
  have hl:(t :: l).length<=ts.length:=by
   have:=congrArg List.length h1
   simp only [List.length_drop]at this
   omega
  have hne:l≠[]:=by
   intro e
   subst e
   have:=h.last t (by
    have h4:=List.getLast?_drop (i:=ts.length - [t].length) (l:=ts)
    rw[h1,if_neg (by simp at hl ⊢;omega)]at h4
    rw[<-h4];rfl)
   exact hk this
  refine⟨by simp[stp,hk],hne,by simp,hl,?_⟩
  simp only [List.tail_cons]
  have e:ts.length - l.length=(ts.length - (t :: l).length)+1:=by simp at hl ⊢;omega
  rw[e,<-List.drop_drop,h1]
  rfl
@[go_sem] theorem field_tok0 (w:World) (k a:Int) (t:ByteArray):(Instr.field 111 (.agg #[.int .i64 k,.int .i64 a,.string t]) 0).run Tryz.prog w=.ok (.int .i64 k) w:=by kernel_rfl
@[go_sem] theorem field_tok1 (w:World) (k a:Int) (t:ByteArray):(Instr.field 111 (.agg #[.int .i64 k,.int .i64 a,.string t]) 1).run Tryz.prog w=.ok (.int .i64 a) w:=by kernel_rfl
@[go_sem] theorem field_tok2 (w:World) (k a:Int) (t:ByteArray):(Instr.field 111 (.agg #[.int .i64 k,.int .i64 a,.string t]) 2).run Tryz.prog w=.ok (.string t) w:=by kernel_rfl
theorem now_raw (pb tb n cap i:Nat) (k a:Int) (t:ByteArray) (w:World) (hp:pb<w.heap.size) (ht:tb<w.heap.size)
  (h0:w.cell? ⟨pb,0,none⟩=some (.slice (some ⟨tb,0,none⟩) n cap)) (h1:w.cell? ⟨pb,1,none⟩=some (.int .i64 (i:Int))) (hi:(i:Int)<n)
  (c0:w.cell? ⟨tb,i * 3,none⟩=some (.int .i64 k)) (c1:w.cell? ⟨tb,i * 3+1,none⟩=some (.int .i64 a)) (c2:w.cell? ⟨tb,i * 3+2,none⟩=some (.string t)) :
  Calls Tryz.prog 63 #[.pointer (some ⟨pb,0,none⟩)] w fun e w'=>e=.returned (.agg #[.int .i64 k,.int .i64 a,.string t])/\Below w.heap.size w w':=by
 go_enter Tryz.func63,Tryz.ntmps63
 go_wp2
 go_region
 go_wp2
 exact bodyPost_ret (v:=.agg #[.int .i64 k,.int .i64 a,.string t]) (by simp[results,Tryz.results63,go_sem]) rfl ⟨rfl,(zb _ _).drew⟩
theorem zK {w:World}{p:Ps}{ts r:List Tok}{o b:Nat}(h:St w p ts r o b) :
  Calls Tryz.prog 63 #[.pointer (some ⟨p.pb,0,none⟩)] w fun e w'=>e=.returned (.agg #[.int .i64 ((hd r).kind:Int),.int .i64 ((hd r).pos:Int),.string (bs (hd r).text)])/\Below w.heap.size w w':=by
 obtain⟨h1,h2⟩:=h.hd
 have ht:=h.toks _ _ h1
 exact now_raw p.pb p.tb ts.length p.cap (ts.length - r.length) _ _ _ w (zc h.c0) (zc ht.c0) h.c0 h.c1 (by omega) ht.c0 ht.c1 ht.c2
structure Thrown (B:Nat) (er:Nat× Nat) (e:Ending) (w':World):Prop where
 out:∃ ab,B<=ab/\e=.panicked [{ v:=.iface 103 (.pointer (some ⟨ab,0,none⟩)),recovered:=false }]/\w'.cell? ⟨ab,0,none⟩=some (.int .i64 (er.1:Int))/\w'.cell? ⟨ab,1,none⟩=some (.int .i64 (er.2:Int))
theorem Thrown.mono {B B':Nat}{er:Nat× Nat}{e:Ending}{w':World}(h:Thrown B er e w') (k:B'<=B):Thrown B' er e w' :=
 let ⟨ab,a,b⟩:=h.out;⟨ab,Nat.le_trans k a,b⟩
theorem jL (en pl:Nat) (w:World) :
  Calls Tryz.prog 53 #[.int .i64 (en:Int),.int .i64 (pl:Int)] w fun e w'=>Thrown w.heap.size (en,pl) e w'/\Below w.heap.size w w':=by
 go_enter Tryz.func53,Tryz.ntmps53
 go_wp2
 exact⟨rfl,⟨⟨w.heap.size,Nat.le_refl _,rfl,by simp[go_sem],by simp[go_sem]⟩⟩,zb _ _⟩
theorem zX {w:World}{p:Ps}{ts r:List Tok}{o b:Nat}(h:St w p ts r o b) (en:Nat) :
  Calls Tryz.prog 58 #[.pointer (some ⟨p.pb,0,none⟩),.int .i64 (en:Int)] w fun e w'=>Thrown w.heap.size (en,at' r) e w'/\Below w.heap.size w w':=by
 go_enter Tryz.func58,Tryz.ntmps58
 go_wp2_with fail
 refine(zK h).mono ?_
 rintro e w1 ⟨rfl,hb1⟩
 go_wp2_with fail
 refine(jL en (hd r).pos w1).mono ?_
 rintro e w2 ⟨ht,hb2⟩
 obtain⟨ab,h1,rfl,h2,h3⟩:=ht.out
 have hsz:=hb1.size
 go_wp2_with fail
 exact⟨rfl,⟨⟨ab,by omega,rfl,h2,h3⟩⟩,hb1.trans (hb2.mono hb1.size)⟩
theorem yy {w:World}{p:Ps}{ts r:List Tok}{o b:Nat}(h:St w p ts r o b) (m:List UInt8) (x:ByteArray) (hx:Hid (x=bs m)) :
  Calls Tryz.prog 60 #[.pointer (some ⟨p.pb,0,none⟩),.string x] w fun e w'=>e=.returned (.bool (decide (tx r=m)))/\Below w.heap.size w w':=by
 go_enter Tryz.func60,Tryz.ntmps60
 go_wp2_with fail
 refine(zK h).mono ?_
 rintro e w1 ⟨rfl,hb1⟩
 go_wp2_with fail
 go_ret
 have e1:x=bs m:=hx
 subst e1
 refine⟨?_,hb1⟩
 have e2:((bs (hd r).text).toList == (bs m).toList)=decide (tx r=m):=by rw[Bool.eq_iff_iff,decide_eq_true_iff,beq_iff_eq,zy,zy];rfl
 simp[e2]
theorem St.stepped {w w2:World}{p:Ps}{ts r:List Tok}{o b:Nat}(h:St w p ts r o b) (hk:(Tp.hd r).kind≠0) (hb:Below w.heap.size w w2) :
  St (w2.setCell ⟨p.pb,1,none⟩ (.int .i64 ((ts.length - r.length:Nat)+1:Int))) p ts (stp r) o b:=by
 have h2:=h.below hb
 obtain⟨h3,h4,h5,h6,h7⟩:=h.stp_of hk
 have hp:=zc h2.c0
 have e:∀ j v,j≠1->w2.cell? ⟨p.pb,j,none⟩=some v->(w2.setCell ⟨p.pb,1,none⟩ (.int .i64 ((ts.length - r.length:Nat)+1:Int))).cell? ⟨p.pb,j,none⟩=some v:=fun j v hj hv=>by
  rw[World.cell?_setCell_other w2 ⟨p.pb,1,none⟩ ⟨p.pb,j,none⟩ _ (by simp <;> omega)];exact hv
 rw[h3]
 refine⟨e 0 _ (by omega) h2.c0,?_,e 2 _ (by omega) h2.c2,e 3 _ (by omega) h2.c3,e 4 _ (by omega) h2.c4,fun j=>by simpa using h2.fz j,(Below.heap_setCell _ _ _ _ (by have:=h.apart.2;simp;omega)).trans h2.kept,fun i t ht=>?_,h7,h4,h.len,h.last,h.apart,h.dig,h.tl,⟨by simpa using h2.lv.1,fun i hi=>by rw[World.cell?_setCell_other w2 ⟨p.pb,1,none⟩ ⟨2,i,none⟩ _ (by have:=h.glt;simp <;> omega)];exact h2.lv.2 i hi⟩,h.glt⟩
 ·have:((ts.length - r.tail.length:Nat):Int)=((ts.length - r.length:Nat)+1:Int):=by omega
  rw[this]
  exact World.cell?_setCell_same _ _ _ h2.c1
 ·exact(h2.toks i t ht).ext (b:=p.pb) ((Ext.refl _ _).set 1 _) (by have:=h.apart.1;omega)
theorem yW {w:World}{p:Ps}{ts r:List Tok}{o b:Nat}(h:St w p ts r o b) :
  Calls Tryz.prog 94 #[.pointer (some ⟨p.pb,0,none⟩)] w fun e w'=>e=.returned (.int .i64 (at' r:Int))/\St w' p ts (stp r) o b/\Ext p.pb w w':=by
 by_cases hk:(hd r).kind=0
 ·have hk':(((hd r).kind:Int) != 0)=false:=by simp[hk]
  have HK:Hid ((hd r).kind=0):=hk
  clear hk
  go_enter Tryz.func94,Tryz.ntmps94
  go_wp2_with fail
  refine(zK h).mono ?_
  rintro e w1 ⟨rfl,hb1⟩
  go_wp2_with fail
  refine(zK (h.below hb1)).mono ?_
  rintro e w2 ⟨rfl,hb2⟩
  go_wp2_with fail
  go_ret
  have hb:=hb1.trans (hb2.mono hb1.size)
  exact⟨rfl,by simp only [stp];rw[if_pos HK.out];exact h.below hb,Ext.below hb⟩
 ·have hk':(((hd r).kind:Int) != 0)=true:=by simp[hk]
  have HK:Hid ((hd r).kind≠0):=hk
  clear hk
  obtain⟨i,hi⟩:∃ i,i=ts.length - r.length:=⟨_,rfl⟩
  have hi1:(i:Int)<=1000:=by have:=h.len;omega
  have HI:Hid (i=ts.length - r.length):=hi
  have hc1:∀ w',St w' p ts r o b->w'.cell? ⟨p.pb,1,none⟩=some (.int .i64 (i:Int)):=fun w' h'=>by rw[hi];exact h'.c1
  have HC:Hid (∀ w',St w' p ts r o b->w'.cell? ⟨p.pb,1,none⟩=some (.int .i64 (i:Int))):=hc1
  clear hi hc1
  go_enter Tryz.func94,Tryz.ntmps94
  go_wp2_with fail
  refine(zK h).mono ?_
  rintro e w1 ⟨rfl,hb1⟩
  go_wp2_with fail
  refine(zK (h.below hb1)).mono ?_
  rintro e w2 ⟨rfl,hb2⟩
  have h2:=(h.below hb1).below hb2
  have d1:=HC.out w2 h2
  have d2:=h2.fz 1
  go_wp2_with fail
  go_ret
  have hb:=hb1.trans (hb2.mono hb1.size)
  refine⟨rfl,?_,(Ext.below hb).set 1 _⟩
  have:=h.stepped HK.out hb
  rw[<-HI.out]at this
  exact this
theorem zH {w:World}{p:Ps}{ts r:List Tok}{o b:Nat}(h:St w p ts r o b) (m:List UInt8) (x:ByteArray) (hx:Hid (x=bs m)) :
  Calls Tryz.prog 56 #[.pointer (some ⟨p.pb,0,none⟩),.string x] w fun e w'=>e=.returned (.bool (decide (tx r=m)))/\St w' p ts (if tx r=m then stp r else r) o b/\Ext p.pb w w':=by
 by_cases hm:tx r=m
 ·rw[decide_eq_true hm,if_pos hm]
  have hd1:=decide_eq_true hm
  clear hm
  go_enter Tryz.func56,Tryz.ntmps56
  go_wp2_with fail
  refine(yy h m x hx).mono ?_
  rintro e w1 ⟨rfl,hb1⟩
  go_wp2_with fail
  refine(yW (h.below hb1)).mono ?_
  rintro e w2 ⟨rfl,h2,x2⟩
  go_wp2_with fail
  go_ret
  exact⟨rfl,h2,(Ext.below hb1).trans x2⟩
 ·rw[decide_eq_false hm,if_neg hm]
  have hd1:=decide_eq_false hm
  clear hm
  go_enter Tryz.func56,Tryz.ntmps56
  go_wp2_with fail
  refine(yy h m x hx).mono ?_
  rintro e w1 ⟨rfl,hb1⟩
  go_wp2_with fail
  go_ret
  exact⟨rfl,h.below hb1,Ext.below hb1⟩
def Post {α:Type}(p:Ps) (ts:List Tok) (o b:Nat) (w:World) (val:α->Value->World->Prop) (res:Except Tp.Er (α× List Tok)) (e:Ending) (w':World):Prop :=
 match res with
 | .ok (x,r)=>∃ v,e=.returned v/\val x v w'/\St w' p ts r o b/\Ext p.pb w w'
 | .error er=>Thrown w.heap.size er e w'/\Ext p.pb w w'
theorem zD {w:World}{p:Ps}{ts r:List Tok}{o b:Nat}(h:St w p ts r o b) (m:List UInt8) (x:ByteArray) (hx:Hid (x=bs m)) (hm:tx r=m) :
  Calls Tryz.prog 54 #[.pointer (some ⟨p.pb,0,none⟩),.string x] w fun e w'=>e=.returned (.int .i64 (at' r:Int))/\St w' p ts (stp r) o b/\Ext p.pb w w':=by
 have hd1:=decide_eq_true hm
 clear hm
 go_enter Tryz.func54,Tryz.ntmps54
 go_wp2_with fail
 refine(yy h m x hx).mono ?_
 rintro e w1 ⟨rfl,hb1⟩
 go_wp2_with fail
 refine(yW (h.below hb1)).mono ?_
 rintro e w2 ⟨rfl,h2,x2⟩
 go_wp2_with fail
 go_ret
 exact⟨rfl,h2,(Ext.below hb1).trans x2⟩
theorem zO {w:World}{p:Ps}{ts r:List Tok}{o b:Nat}(h:St w p ts r o b) (m:List UInt8) (x:ByteArray) (hx:Hid (x=bs m)) (hm:tx r≠m) :
  Calls Tryz.prog 54 #[.pointer (some ⟨p.pb,0,none⟩),.string x] w fun e w'=>Thrown w.heap.size (3,at' r) e w'/\Ext p.pb w w':=by
 have hd1:=decide_eq_false hm
 clear hm
 go_enter Tryz.func54,Tryz.ntmps54
 go_wp2_with fail
 refine(yy h m x hx).mono ?_
 rintro e w1 ⟨rfl,hb1⟩
 have hsz:=hb1.size
 go_wp2_with fail
 refine(zX (h.below hb1) 3).mono ?_
 rintro e w2 ⟨ht,hb2⟩
 obtain⟨ab,h1,rfl,h2,h3⟩:=ht.out
 go_wp2_with fail
 exact⟨rfl,⟨⟨ab,by omega,rfl,h2,h3⟩⟩,Ext.below (hb1.trans (hb2.mono hb1.size))⟩
theorem uR (e:Bool) (n:Nat) (x:ByteArray) (w:World):(Instr.checkKey e (n+1) 9 (.string x)).run Tryz.prog w=.ok () w:=by
 simp[Instr.checkKey,run_underlying Tryz.underlying9]
theorem find_str (x:ByteArray) (es:List MapEntry) (r:Option (Nat× Value)) (w:World) (h:Instr.findNow .string (.string x) es 0=some r):(Instr.findKey 9 (.string x) es).run Tryz.prog w=.ok r w:=by
 simp[Instr.findKey,run_underlying Tryz.underlying9,h]
theorem push_set (h:Array Obj) (a b:Obj):(h.push a).setIfInBounds h.size b=h.push b:=by
 apply Array.toList_inj.1
 simp
theorem map_make (w:World):(Instr.makeMap 65 none).run Tryz.prog w=.ok (.map (some w.heap.size)) (w.alloc (.map (ents 0) 0)):=rfl
theorem zZ (w:World) (n:Nat) (x:ByteArray) (h:Instr.findNow .string (.string x) (ents n).toList 0=some none) (k:ents (n+1)=(ents n).push ⟨.string x,.int .i64 1,n⟩) :
 (Instr.mapUpdate 65 (.map (some w.heap.size)) (.string x) (.int .i64 1)).run Tryz.prog (w.alloc (.map (ents n) n))=.ok () (w.alloc (.map (ents (n+1)) (n+1))):=by
 have hc:(Instr.checkKey false 10000 9 (.string x)).run Tryz.prog (w.alloc (.map (ents n) n))=.ok () (w.alloc (.map (ents n) n)):=uR false 9999 x _
 have hf:=find_str x (ents n).toList none (w.alloc (.map (ents n) n)) h
 have hg:(w.alloc (.map (ents n) n)).heap[w.heap.size]?=some (.map (ents n) n):=by show (w.heap.push _)[w.heap.size]?=_;simp
 simp only [Instr.mapUpdate,Sem.run_bind,run_underlying Tryz.underlying65,Result.andThen,getObj,setObj,Sem.run,hg,hc,hf]
 show Result.ok () ({ w.alloc (.map (ents n) n) with heap:=(w.heap.push (.map (ents n) n)).setIfInBounds w.heap.size _ }:World)=_
 rw[push_set,k]
 rfl
def pickV (r:Option (Nat× Value)):Value:=match r with|some (_,v)=>v|none=>.int .i64 0
theorem map_get (w:World) (b:Nat) (es:Array MapEntry) (c:Nat) (x:ByteArray) (hg:w.heap[b]?=some (.map es c)) (r:Option (Nat× Value)) (h:Instr.findNow .string (.string x) es.toList 0=some r) :
 (Instr.lookup 65 (.map (some b)) (.string x) false).run Tryz.prog w=.ok (pickV r) w:=by
 have hc:(Instr.checkKey es.isEmpty 10000 9 (.string x)).run Tryz.prog w=.ok () w:=uR es.isEmpty 9999 x w
 have hf:=find_str x es.toList r w h
 have hz:(zeroValue 3).run Tryz.prog w=.ok (.int .i64 0) w:=by kernel_rfl
 simp only [Instr.lookup,Sem.run_bind,run_underlying Tryz.underlying65,Result.andThen,getObj,Sem.run,hg]
 cases r with
 | none=>simp[hc,hf,hz,pickV]
 | some v=>simp[hc,hf,pickV]
theorem find_ents (l:List UInt8):∀(ks:List (List UInt8)) (i j:Nat),∃ r,Instr.findNow .string (.string (bs l)) ((ks.zipIdx i).map fun x=>ent x.1 x.2) j=some r/\pickV r=Value.int .i64 (if l∈ks then 1 else 0):=by
 intro ks
 induction ks with
 | nil=>intro i j;exact⟨none,rfl,rfl⟩
 | cons k ks ih =>
  intro i j
  by_cases hk:l=k
  ·subst hk
   refine⟨some (j,.int .i64 1),?_,by simp[pickV]⟩
   have:(bs l == bs l)=true:=by show ((bs l).data == (bs l).data)=true;simp
   simp[Instr.findNow,Instr.sameNow,ent,this]
  ·obtain⟨r,h1,h2⟩:=ih (i+1) (j+1)
   refine⟨r,?_,by rw[h2];simp[hk]⟩
   have:(bs l == bs k)=false:=by show ((bs l).data == (bs k).data)=false;simp[bs,hk]
   simp only [List.zipIdx_cons,List.map_cons,Instr.findNow,Instr.sameNow,ent,this]
   exact h1
theorem kept_get {w:World}{p:Ps}{ts r:List Tok}{o b:Nat}(h:St w p ts r o b) (l:List UInt8) :
  (Instr.lookup 65 (.map (some p.kb)) (.string (bs l)) false).run Tryz.prog w=.ok (.int .i64 (if l∈Tp.kept then 1 else 0)) w:=by
 obtain⟨r,h1,h2⟩:=find_ents l Tp.kept 0 0
 rw[map_get w p.kb (ents 21) 21 (bs l) h.kept r (by simpa[ents,Tp.kept] using h1),h2]
theorem vg (w:World) :
  Calls Tryz.prog 23 #[] w fun e w'=>e=.returned (.map (some w.heap.size))/\w'=w.alloc (.map (ents 21) 21):=by
 have hm:=map_make w
 have u0:=zZ w 0 {data:=#[109,111,100,117,108,101]} (by kernel_rfl) (by kernel_rfl)
 have u1:=zZ w 1 {data:=#[105,109,112,111,114,116]} (by kernel_rfl) (by kernel_rfl)
 have u2:=zZ w 2 {data:=#[118,97,114]} (by kernel_rfl) (by kernel_rfl)
 have u3:=zZ w 3 {data:=#[112,114,111,99]} (by kernel_rfl) (by kernel_rfl)
 have u4:=zZ w 4 {data:=#[98,101,103,105,110]} (by kernel_rfl) (by kernel_rfl)
 have u5:=zZ w 5 {data:=#[101,110,100]} (by kernel_rfl) (by kernel_rfl)
 have u6:=zZ w 6 {data:=#[105,110,116]} (by kernel_rfl) (by kernel_rfl)
 have u7:=zZ w 7 {data:=#[97,114,114,97,121]} (by kernel_rfl) (by kernel_rfl)
 have u8:=zZ w 8 {data:=#[114,101,116,117,114,110]} (by kernel_rfl) (by kernel_rfl)
 have u9:=zZ w 9 {data:=#[119,114,105,116,101]} (by kernel_rfl) (by kernel_rfl)
 have u10:=zZ w 10 {data:=#[119,104,105,108,101]} (by kernel_rfl) (by kernel_rfl)
 have u11:=zZ w 11 {data:=#[100,111]} (by kernel_rfl) (by kernel_rfl)
 have u12:=zZ w 12 {data:=#[105,102]} (by kernel_rfl) (by kernel_rfl)
 have u13:=zZ w 13 {data:=#[116,104,101,110]} (by kernel_rfl) (by kernel_rfl)
 have u14:=zZ w 14 {data:=#[101,108,115,105,102]} (by kernel_rfl) (by kernel_rfl)
 have u15:=zZ w 15 {data:=#[101,108,115,101]} (by kernel_rfl) (by kernel_rfl)
 have u16:=zZ w 16 {data:=#[111,114]} (by kernel_rfl) (by kernel_rfl)
 have u17:=zZ w 17 {data:=#[97,110,100]} (by kernel_rfl) (by kernel_rfl)
 have u18:=zZ w 18 {data:=#[110,111,116]} (by kernel_rfl) (by kernel_rfl)
 have u19:=zZ w 19 {data:=#[100,105,118]} (by kernel_rfl) (by kernel_rfl)
 have u20:=zZ w 20 {data:=#[109,111,100]} (by kernel_rfl) (by kernel_rfl)
 go_enter Tryz.func23,Tryz.ntmps23
 go_wp2
 go_ret
 exact⟨rfl,rfl⟩
theorem St.grown {w w':World}{p:Ps}{ts r:List Tok}{o b:Nat}(h:St w p ts r o b) (ob:Obj) (n:Nat) (e:w'=(w.alloc ob).drewN n):St w' p ts r o b:=by
 subst e;exact h.below (below_drewN (zb _ _) n)
theorem zt {b:Nat}{w W w':World}{er:Nat× Nat}{e:Ending}(hW:Ext b w W) (ht:Thrown W.heap.size er e w') (hx:Ext b W w'):Thrown w.heap.size er e w'/\Ext b w w':=⟨ht.mono hW.size,hW.trans hx⟩
theorem name_kind {w:World}{p:Ps}{ts r:List Tok}{o b:Nat}(h:St w p ts r o b) (hk:(hd r).kind≠1) :
  Calls Tryz.prog 55 #[.pointer (some ⟨p.pb,0,none⟩)] w fun e w'=>Thrown w.heap.size (3,at' r) e w'/\Ext p.pb w w':=by
 have hk':(((hd r).kind:Int) != 1)=true:=by simp;omega
 clear hk
 go_enter Tryz.func55,Tryz.ntmps55
 go_wp2_with fail
 refine(zK h).mono ?_
 rintro e w1 ⟨rfl,hb1⟩
 go_wp2_with fail
 go_quiet (fail)
 go_wp2_with fail
 have hbn:∀ ob,Below w1.heap.size w1 ((w1.alloc ob).drewN nq):=fun ob=>below_drewN (zb _ _) nq
 have hx:∀ ob,Ext p.pb w ((w1.alloc ob).drewN nq):=fun ob=>(Ext.below hb1).trans (Ext.below (hbn ob))
 have HX:Hid (∀ ob,Ext p.pb w ((w1.alloc ob).drewN nq)):=hx
 refine(zX ((h.below hb1).below (hbn _)) 3).mono ?_
 clear hbn hx
 rintro e w2 ⟨ht,hb2⟩
 obtain⟨ab,h1,rfl,h2,h3⟩:=ht.out
 go_wp2_with fail
 exact⟨rfl,zt (HX.out _) ht (Ext.below hb2)⟩
theorem name_kept {w:World}{p:Ps}{ts r:List Tok}{o b:Nat}(h:St w p ts r o b) (hk:(hd r).kind=1) (hm:tx r∈Tp.kept) :
  Calls Tryz.prog 55 #[.pointer (some ⟨p.pb,0,none⟩)] w fun e w'=>Thrown w.heap.size (3,at' r) e w'/\Ext p.pb w w':=by
 have hk':(((hd r).kind:Int) != 1)=false:=by simp;omega
 have hl:=fun (W:World) (hW:St W p ts r o b)=>kept_get hW (hd r).text
 have hm':(hd r).text∈Tp.kept:=hm
 simp only [if_pos hm']at hl
 have HL:Hid (∀(W:World),St W p ts r o b->(Instr.lookup 65 (.map (some p.kb)) (.string (bs (hd r).text)) false).run Tryz.prog W=.ok (.int .i64 1) W):=hl
 clear hk hm hm' hl
 go_enter Tryz.func55,Tryz.ntmps55
 go_wp2_with fail
 refine(zK h).mono ?_
 rintro e w1 ⟨rfl,hb1⟩
 have hst:=h.below hb1
 have hp2:=hst.c2
 have hpl:=zc hp2
 have hlk:=fun ob n=>HL.out _ (hst.grown ob n rfl)
 go_wp2_with fail
 go_quiet (fail)
 clear hlk
 go_wp2_with fail
 have hbn:∀ ob,Below w1.heap.size w1 ((w1.alloc ob).drewN nq):=fun ob=>below_drewN (zb _ _) nq
 have hx:∀ ob,Ext p.pb w ((w1.alloc ob).drewN nq):=fun ob=>(Ext.below hb1).trans (Ext.below (hbn ob))
 have HX:Hid (∀ ob,Ext p.pb w ((w1.alloc ob).drewN nq)):=hx
 refine(zX (hst.below (hbn _)) 3).mono ?_
 clear hbn hx
 rintro e w2 ⟨ht,hb2⟩
 obtain⟨ab,h1,rfl,h2,h3⟩:=ht.out
 go_wp2_with fail
 exact⟨rfl,zt (HX.out _) ht (Ext.below hb2)⟩
theorem name_free {w:World}{p:Ps}{ts r:List Tok}{o b:Nat}(h:St w p ts r o b) (hk:(hd r).kind=1) (hm:tx r ∉ Tp.kept) :
  Calls Tryz.prog 55 #[.pointer (some ⟨p.pb,0,none⟩)] w fun e w'=>if 10<(tx r).length then Thrown w.heap.size (4,at' r) e w'/\Ext p.pb w w' else e=.returned (.string (bs (tx r)))/\St w' p ts (stp r) o b/\Ext p.pb w w':=by
 have hk':(((hd r).kind:Int) != 1)=false:=by simp;omega
 have hl:=fun (W:World) (hW:St W p ts r o b)=>kept_get hW (hd r).text
 have hm':(hd r).text ∉ Tp.kept:=hm
 simp only [if_neg hm']at hl
 have HL:Hid (∀(W:World),St W p ts r o b->(Instr.lookup 65 (.map (some p.kb)) (.string (bs (hd r).text)) false).run Tryz.prog W=.ok (.int .i64 0) W):=hl
 have hsz:((bs (hd r).text).size:Int)=(tx r).length:=by simp[bs,tx,ByteArray.size]
 have hsz':(bs (hd r).text).size=(tx r).length:=by simp[bs,tx,ByteArray.size]
 clear hk hm hm' hl
 by_cases hten:10<(tx r).length
 ·simp only [if_pos hten]
  have ht1:(10:Int)<((bs (hd r).text).size:Int):=by omega
  clear hten hsz hsz'
  go_enter Tryz.func55,Tryz.ntmps55
  go_wp2_with fail
  refine(zK h).mono ?_
  rintro e w1 ⟨rfl,hb1⟩
  have hst:=h.below hb1
  have hp2:=hst.c2
  have hpl:=zc hp2
  have hlk:=fun ob n=>HL.out _ (hst.grown ob n rfl)
  go_wp2_with fail
  go_quiet (fail)
  clear hlk
  go_wp2_with fail
  have hbn:∀ ob,Below w1.heap.size w1 ((w1.alloc ob).drewN nq):=fun ob=>below_drewN (zb _ _) nq
  have hx:∀ ob,Ext p.pb w ((w1.alloc ob).drewN nq):=fun ob=>(Ext.below hb1).trans (Ext.below (hbn ob))
  have HX:Hid (∀ ob,Ext p.pb w ((w1.alloc ob).drewN nq)):=hx
  refine(zX (hst.below (hbn _)) 4).mono ?_
  clear hbn hx
  rintro e w2 ⟨ht,hb2⟩
  obtain⟨ab,h1,rfl,h2,h3⟩:=ht.out
  go_wp2_with fail
  exact⟨rfl,zt (HX.out _) ht (Ext.below hb2)⟩
 ·simp only [if_neg hten]
  have ht1:¬(10:Int)<((bs (hd r).text).size:Int):=by omega
  clear hten hsz hsz'
  go_enter Tryz.func55,Tryz.ntmps55
  go_wp2_with fail
  refine(zK h).mono ?_
  rintro e w1 ⟨rfl,hb1⟩
  have hst:=h.below hb1
  have hp2:=hst.c2
  have hpl:=zc hp2
  have hlk:=fun ob n=>HL.out _ (hst.grown ob n rfl)
  go_wp2_with fail
  go_quiet (fail)
  clear hlk
  go_wp2_with fail
  have hbn:∀ ob,Below w1.heap.size w1 ((w1.alloc ob).drewN nq):=fun ob=>below_drewN (zb _ _) nq
  have hx:∀ ob,Ext p.pb w ((w1.alloc ob).drewN nq):=fun ob=>(Ext.below hb1).trans (Ext.below (hbn ob))
  have HX:Hid (∀ ob,Ext p.pb w ((w1.alloc ob).drewN nq)):=hx
  refine(yW (hst.below (hbn _))).mono ?_
  clear hbn hx
  rintro e w2 ⟨rfl,h2,x2⟩
  have hcell:w2.cell? ⟨w1.heap.size,2,none⟩=some (.string (bs (hd r).text)):=x2.cell (by simp[go_sem]) (by simp;omega)
  go_wp2_with fail
  go_ret
  exact⟨rfl,h2,(HX.out _).trans x2⟩
theorem ku {w:World}{p:Ps}{ts r:List Tok}{o b:Nat}(h:St w p ts r o b) :
  Calls Tryz.prog 55 #[.pointer (some ⟨p.pb,0,none⟩)] w fun e w'=>Post p ts o b w (fun l v _=>v=.string (bs l)) (Tp.name r) e w':=by
 unfold Tp.name
 by_cases hk:(hd r).kind=1
 ·by_cases hm:tx r∈Tp.kept
  ·rw[if_pos (Or.inr hm)];exact name_kept h hk hm
  ·rw[if_neg (by simp[hk,hm])]
   refine(name_free h hk hm).mono ?_
   intro e w' hq
   by_cases ht:10<(tx r).length
   ·rw[if_pos ht]at hq ⊢;exact hq
   ·rw[if_neg ht]at hq ⊢;exact⟨_,hq.1,rfl,hq.2⟩
 ·rw[if_pos (Or.inl hk)];exact name_kind h hk
theorem val_snoc (l:List UInt8) (c:UInt8):Tp.val (l++[c])=Tp.val l * 10+(c.toNat - 48):=by simp[Tp.val,List.foldl_append]
theorem uZ (l:List UInt8):∀ k,Tp.val (l.take k)<=Tp.val l:=by
 have key:∀(m:List UInt8) (a:Nat),a<=m.foldl (fun a c=>a * 10+(c.toNat - 48)) a:=by
  intro m
  induction m with
  | nil=>intro a;exact Nat.le_refl _
  | cons c m ih=>intro a;exact Nat.le_trans (show a<=a * 10+(c.toNat - 48) by omega) (ih _)
 intro k
 conv=>rhs;rw[<-List.take_append_drop k l]
 unfold Tp.val
 rw[List.foldl_append]
 exact key _ _
theorem take_snoc (l:List UInt8) (k:Nat) (h:k<l.length):l.take (k+1)=l.take k++[l[k]]:=by rw[List.take_succ_eq_append_getElem h]
theorem St.mem_hd {w:World}{p:Ps}{ts r:List Tok}{o b:Nat}(h:St w p ts r o b):Tp.hd r∈ts:=List.mem_of_getElem? h.hd.1
theorem qt {w:World}{p:Ps}{ts r:List Tok}{o b:Nat}(h:St w p ts r o b) (most:Nat) (hk:(hd r).kind≠2) :
  Calls Tryz.prog 95 #[.pointer (some ⟨p.pb,0,none⟩),.int .i64 (most:Int)] w fun e w'=>Thrown w.heap.size (3,at' r) e w'/\Ext p.pb w w':=by
 have hk':(((hd r).kind:Int) != 2)=true:=by simp;omega
 clear hk
 go_enter Tryz.func95,Tryz.ntmps95
 go_wp2_with fail
 refine(zK h).mono ?_
 rintro e w1 ⟨rfl,hb1⟩
 go_wp2_with fail
 have hbn:∀ ob,Below w1.heap.size w1 (w1.alloc ob):=fun ob=>zb _ _
 have hx:∀ ob,Ext p.pb w (w1.alloc ob):=fun ob=>(Ext.below hb1).trans (Ext.below (hbn ob))
 have HX:Hid (∀ ob,Ext p.pb w (w1.alloc ob)):=hx
 refine(zX ((h.below hb1).below (hbn _)) 3).mono ?_
 clear hbn hx
 rintro e w2 ⟨ht,hb2⟩
 obtain⟨ab,h1,rfl,h2,h3⟩:=ht.out
 go_wp2_with fail
 exact⟨rfl,zt (HX.out _) ht (Ext.below hb2)⟩
theorem number_is {w:World}{p:Ps}{ts r:List Tok}{o b:Nat}(h:St w p ts r o b) (most:Nat) (h9:9<=most) (hmx:most<=9223372036854775807) (hk:(hd r).kind=2) :
  Calls Tryz.prog 95 #[.pointer (some ⟨p.pb,0,none⟩),.int .i64 (most:Int)] w fun e w'=>Post p ts o b w (fun (n:Nat) v _=>v=.int .i64 (n:Int)) (Tp.number most r) e w':=by
 have hk':(((hd r).kind:Int) != 2)=false:=by simp;omega
 have hdig:=h.dig _ h.mem_hd hk
 have htl:=(h.tl _ h.mem_hd).1
 have HR:Hid (Tp.number most r=if most<Tp.val (tx r) then .error (4,at' r) else .ok (Tp.val (tx r),stp r)):=by unfold Hid Tp.number;simp[hk]
 have HT:Hid (tx r=(hd r).text):=rfl
 have HAt:Hid (at' r=(hd r).pos):=rfl
 clear hk
 go_enter Tryz.func95,Tryz.ntmps95
 go_wp2_with fail
 refine(zK h).mono ?_
 rintro e w1 ⟨rfl,hb1⟩
 generalize htx:(hd r).text=l at *
 have hsz:(bs l).size=l.length:=by simp[bs,ByteArray.size]
 go_wp2_with fail
 go_loop [19,6] (fun c n=>∃ k:Nat,k<=l.length/\c=.int .i64 (k:Int)/\n=.int .i64 (Tp.val (l.take k):Int)/\Tp.val (l.take k)<=most) (fun c _=>l.length - (intOf c).toNat)
 case atStart=>exact⟨0,Nat.zero_le _,rfl,rfl,by simp[Tp.val]⟩
 case round =>
  obtain⟨k,hkl,rfl,rfl,hle⟩:=hrel
  by_cases hlt:k<l.length
  ·have hc:=hdig l[k] (List.getElem_mem hlt)
   have hg:(bs l)[k]'(by rw[hsz];exact hlt)=l[k]:=by simp[bs,ByteArray.getElem_eq_getElem_data]
   have hv:Tp.val (l.take (k+1))=Tp.val (l.take k) * 10+(((bs l)[k]'(by rw[hsz];exact hlt)).toNat - 48):=by rw[hg,take_snoc l k hlt,val_snoc]
   have hb:(48:Int)<=(((bs l)[k]'(by rw[hsz];exact hlt)).toNat:Int)/\(((bs l)[k]'(by rw[hsz];exact hlt)).toNat:Int)<=57:=by
    rw[hg];simp only [Tp.digit,decide_eq_true_eq]at hc;omega
   have hvm:=uZ l (k+1)
   obtain⟨hb1',hb2'⟩:=hb
   have HV:Hid (Tp.val (l.take (k+1))=Tp.val (l.take k) * 10+(((bs l)[k]'(by rw[hsz];exact hlt)).toNat - 48)):=hv
   clear hv hg hc
   have h9':(9:Int)<=(most:Int):=by omega
   have hno:¬(most:Int)<(((bs l)[k]'(by rw[hsz];exact hlt)).toNat:Int) - 48:=by omega
   by_cases hov:Tp.val (l.take (k+1))<=most
   ·have hq:((Tp.val (l.take k):Nat):Int)<=((most:Int) - ((((bs l)[k]'(by rw[hsz];exact hlt)).toNat:Int) - 48)) / 10:=by have:=HV.out;omega
    have HO:Hid (Tp.val (l.take (k+1))<=most):=hov
    clear hov
    go_wp2_with fail
    go_round
    case rel=>exact⟨k+1,by omega,by go_num,by rw[HV.out];go_num,HO.out⟩
    case measure=>simp[intOf];omega
   ·have hq:((most:Int) - ((((bs l)[k]'(by rw[hsz];exact hlt)).toNat:Int) - 48)) / 10<((Tp.val (l.take k):Nat):Int):=by have:=HV.out;omega
    have HB:Hid (most<Tp.val l):=by unfold Hid;omega
    clear hov
    go_wp2_with fail
    have hbn:∀ ob,Below w1.heap.size w1 (w1.alloc ob):=fun ob=>zb _ _
    have hx:∀ ob,Ext p.pb w (w1.alloc ob):=fun ob=>(Ext.below hb1).trans (Ext.below (hbn ob))
    have HX:Hid (∀ ob,Ext p.pb w (w1.alloc ob)):=hx
    refine(zX ((h.below hb1).below (hbn _)) 4).mono ?_
    clear hbn hx
    rintro e w2 ⟨ht,hb2⟩
    obtain⟨ab,h1,rfl,h2,h3⟩:=ht.out
    go_wp2_with fail
    refine⟨rfl,?_⟩
    rw[HR.out,HT.out,if_pos HB.out]
    exact zt (HX.out _) ht (Ext.below hb2)
  ·have hke:k=l.length:=by omega
   have HKE:Hid (k=l.length):=hke
   clear hke
   go_wp2_with fail
   have hbn:∀ ob,Below w1.heap.size w1 (w1.alloc ob):=fun ob=>zb _ _
   have hx:∀ ob,Ext p.pb w (w1.alloc ob):=fun ob=>(Ext.below hb1).trans (Ext.below (hbn ob))
   have HX:Hid (∀ ob,Ext p.pb w (w1.alloc ob)):=hx
   refine(yW ((h.below hb1).below (hbn _))).mono ?_
   clear hbn hx
   rintro e w2 ⟨rfl,h2,x2⟩
   go_wp2_with fail
   go_ret
   have hte:l.take k=l:=by rw[HKE.out];simp
   have hle':=hle
   rw[hte]at hle' ⊢
   rw[HR.out,HT.out,if_neg (by omega)]
   exact⟨_,rfl,rfl,h2,(HX.out _).trans x2⟩
theorem ja {w:World}{p:Ps}{ts r:List Tok}{o b:Nat}(h:St w p ts r o b) (most:Nat) (h9:9<=most) (hmx:most<=9223372036854775807) :
  Calls Tryz.prog 95 #[.pointer (some ⟨p.pb,0,none⟩),.int .i64 (most:Int)] w fun e w'=>Post p ts o b w (fun (n:Nat) v _=>v=.int .i64 (n:Int)) (Tp.number most r) e w':=by
 by_cases hk:(hd r).kind=2
 ·exact number_is h most h9 hmx hk
 ·rw[show Tp.number most r=.error (3,at' r) by unfold Tp.number;simp[hk]]
  exact qt h most hk
def strs (l:List (List UInt8)):List Value:=l.map fun s=>.string (bs s)
theorem Tryz.infoString:(Tryz.prog.info? 9).map (fun i=>(i.zero,i.size,i.bytes))=some (some (.string ⟨#[]⟩),1,16):=by kernel_rfl
theorem zl {w:World}{base e size n:Nat}{v:Value}{xs:List Value}(h:w.ownsRow base e size v n xs):∃ ao cap,v=.slice ao n cap:=by
 rcases h.2 with⟨rfl,rfl⟩|⟨g,cap,cur,rfl,_⟩
 ·exact⟨_,_,rfl⟩
 ·exact⟨_,_,rfl⟩
theorem zA {w w':World}{base e size n b:Nat}{v:Value}{xs:List Value}(h:w.ownsRow base e size v n xs) (k:Ext b w w') (hb:b<base):w'.ownsRow base e size v n xs:=by
 refine⟨h.1,?_⟩
 rcases h.2 with h1|⟨g,cap,cur,h1,h2,h3,h4⟩
 ·exact Or.inl h1
 ·refine Or.inr ⟨g,cap,cur,h1,h2,?_,h4⟩
  have hg:g<w.heap.size:=by rw[Array.getElem?_eq_some_iff]at h3;exact h3.1
  rw[k.block g hg (by omega)];exact h3
theorem Ext.trans' {w w1 w2:World}{b:Nat}(h:Ext b w w1) (hb:Below w.heap.size w1 w2):Ext b w w2 :=
 ⟨hb.os.trans h.os,hb.tape.trans h.tape,hb.output.trans h.output,Nat.le_trans h.size hb.size,fun i hi hne=>(hb.block i hi).trans (h.block i hi hne)⟩
theorem zL {w:World}{base e size n:Nat}{v:Value}{xs:List Value}(h:w.ownsRow base e size v n xs):∀ g,v.ownBlock=some g->base<=g:=by
 intro g hg
 rcases h.2 with⟨rfl,rfl⟩|⟨g',cap,cur,rfl,h2,_⟩
 ·simp[Value.ownBlock]at hg
 ·simp[Value.ownBlock]at hg;omega
def addAll {α:Type}(l:List α):Except Tp.Er (List α× List Tok)->Except Tp.Er (List α× List Tok)
 | .error e=>.error e
 | .ok (m,r)=>.ok (l++m,r)
theorem ki {α:Type}(l m:List α) (x:Except Tp.Er (List α× List Tok)):addAll l (addAll m x)=addAll (l++m) x:=by
 cases x with
 | error e=>rfl
 | ok v=>simp[addAll]
theorem xG (f had most:Nat) (r:List Tok) (h:most<=had):Tp.names (f+1) had most r=.error (4,at' r):=by
 rw[Tp.names,if_pos h]
theorem uk {f had most:Nat}{r:List Tok}{er:Tp.Er}(h:¬most<=had) (hn:Tp.name r=.error er):Tp.names (f+1) had most r=.error er:=by
 rw[Tp.names,if_neg h,hn];rfl
theorem xE {f had most:Nat}{r r1:List Tok}{nm:List UInt8}(h:¬most<=had) (hn:Tp.name r=.ok (nm,r1)) (hc:tx r1=Tp.mComma):Tp.names (f+1) had most r=addAll [nm] (Tp.names f (had+1) most (stp r1)):=by
 rw[Tp.names,if_neg h,hn]
 simp only [bind,Except.bind,hc,if_true]
 cases Tp.names f (had+1) most (stp r1) with
 | error e=>rfl
 | ok v=>rfl
theorem xF {f had most:Nat}{r r1:List Tok}{nm:List UInt8}(h:¬most<=had) (hn:Tp.name r=.ok (nm,r1)) (hc:¬tx r1=Tp.mComma):Tp.names (f+1) had most r=.ok ([nm],r1):=by
 rw[Tp.names,if_neg h,hn]
 simp only [bind,Except.bind,hc,if_false]
theorem names_post {w:World}{p:Ps}{ts r:List Tok}{o b:Nat}(h:St w p ts r o b) (had most f:Nat) (hm:most<=10) (hh:had<=10) (hf:1<=f) (hf':most+1<=f+had) :
  Calls Tryz.prog 57 #[.pointer (some ⟨p.pb,0,none⟩),.int .i64 (had:Int),.int .i64 (most:Int)] w fun e w' =>
   Post p ts o b w (fun l v w'=>w'.ownsRow w.heap.size 9 1 v l.length (strs l)) (Tp.names f had most r) e w':=by
 obtain⟨i0,hi,hz0,hz1,hz2⟩:=info_parts Tryz.infoString
 have hpl:=zc h.c0
 go_enter Tryz.func57,Tryz.ntmps57
 go_wp2_with fail
 go_loopg [7] (most+1 - had) (fun k v wr=>∃(l:List (List UInt8)) (r':List Tok) (f':Nat),k=most+1 - (had+l.length)/\1<=f'/\most+1<=f'+(had+l.length)/\l.length<=10/\wr.ownsRow w.heap.size 9 1 v l.length (strs l)/\St wr p ts r' o b/\Ext p.pb w wr/\addAll l (Tp.names f' (had+l.length) most r')=Tp.names f had most r)
 case atStart =>
  refine⟨[],r,f,rfl,hf,hf',by simp,World.ownsRow_nil _ _ _ _,h,Ext.refl _ _,?_⟩
  simp only [List.length_nil,Nat.add_zero]
  cases Tp.names f had most r with
  | error e=>rfl
  | ok x=>rfl
 case round =>
  obtain⟨l,r',f',hk,hf1,hf2,hll,hown,hst,hext,hspec⟩:=hrel
  obtain⟨ao,cap,rfl⟩:=zl hown
  have HS:Hid (addAll l (Tp.names f' (had+l.length) most r')=Tp.names f had most r):=hspec
  have HK:Hid (gk=most+1 - (had+l.length)):=hk
  clear hspec hk
  obtain⟨f2,rfl⟩:∃ f2,f'=f2+1:=⟨f' - 1,by omega⟩
  by_cases hfull:most<=had+l.length
  ·go_wp2_with fail
   refine(zX hst 4).mono ?_
   rintro e w2 ⟨ht,hb2⟩
   obtain⟨ab,h1,rfl,h2,h3⟩:=ht.out
   go_wp2_with fail
   refine⟨rfl,?_⟩
   rw[<-HS.out,xG _ _ _ _ hfull]
   exact zt hext ht (Ext.below hb2)
  ·go_wp2_with fail
   refine(ku hst).mono ?_
   intro e w2 hq
   generalize hres:Tp.name r'=res at hq
   rcases res with er|⟨nm,r1⟩
   ·have HR:Hid (Tp.name r'=.error er):=hres
    clear hres
    obtain⟨ht,hx2⟩:=hq
    obtain⟨ab,h1,rfl,h2,h3⟩:=ht.out
    go_wp2_with fail
    refine⟨rfl,?_⟩
    rw[<-HS.out,uk (by omega) HR.out]
    exact zt hext ht hx2
   ·have HR:Hid (Tp.name r'=.ok (nm,r1)):=hres
    clear hres
    obtain⟨v,rfl,rfl,hst2,hx2⟩:=hq
    have hown2:=zA hown hx2 hpl
    have hsz2:=(hext.trans hx2).size
    clear hown hst
    go_wp2_with (at_builtin;refine wpList_append_own _ rfl _ _ 22 rfl w.heap.size 9 i0 (.string ⟨#[]⟩) 1 16 Tryz.underlying22 hi hz0 hz1 hz2 rfl (by decide) _ _ _ rfl (hown2.alloc _) ⟨w2.heap.size,0,none⟩ 1 1 [.string (bs nm)] rfl rfl ?c1 ?c2 ?c3 ?c4 ?c5 ?_)
    case c1 =>
     intro j u hj
     match j,hj with
     | 0,hj=>simp at hj;subst hj;simp[Addr.add]
    case c2=>intro u hu;simp at hu;subst hu;rfl
    case c3=>unfold maxLen;omega
    case c4=>omega
    case c5=>simp;omega
    ·intro v' w3 hown3 hgrow _
     have hb3:Below w.heap.size w2 w3:=((Below.refl _ _).alloc hsz2 _).trans ((Below.refl _ _).grown hgrow (by simp;omega) (zL hown2))
     have hst3:=hst2.belowB hb3 hpl
     have hx3:Ext p.pb w w3:=(hext.trans hx2).trans' hb3
     clear hgrow hown2 hst2
     go_wp2_with fail
     refine(zH hst3 Tp.mComma _ rfl).mono ?_
     rintro e w4 ⟨rfl,hst4,hx4⟩
     have hown4:=zA hown3 hx4 hpl
     have HX:Hid (Ext p.pb w w4):=hx3.trans hx4
     have HO:Hid (w4.ownsRow w.heap.size 9 1 v' (l++[nm]).length (strs (l++[nm]))):=by unfold Hid;simpa[strs] using hown4
     clear hown3 hown4 hx3 hx4 hst3 hb3
     by_cases hc:tx r1=Tp.mComma
     ·have hd1:=decide_eq_true hc
      rw[if_pos hc]at hst4
      have HC:Hid (tx r1=Tp.mComma):=hc
      clear hc
      go_wp2_with fail
      go_roundg (most+1 - (had+(l++[nm]).length))
      case measure=>have:=HK.out;simp;omega
      case rel =>
       refine⟨l++[nm],stp r1,f2,rfl,by omega,by simp;omega,by simp;omega,HO.out,hst4,HX.out,?_⟩
       rw[<-HS.out,xE (by omega) HR.out HC.out,ki]
       simp[Nat.add_assoc]
     ·have hd1:=decide_eq_false hc
      rw[if_neg hc]at hst4
      have HC:Hid (¬tx r1=Tp.mComma):=hc
      clear hc
      go_wp2_with fail
      go_ret
      rw[<-HS.out,xF (by omega) HR.out HC.out]
      exact⟨_,rfl,HO.out,hst4,HX.out⟩
theorem Lv.below {w w':World}{B:Nat}(h:Lv w) (k:Below B w w') (hB:2<B):Lv w' :=
 ⟨Nat.lt_of_lt_of_le h.1 k.size,fun i hi=>(k.cell (p:=⟨2,i,none⟩) hB).trans (h.2 i hi)⟩
def lvAgg:Value:=.agg levs.toArray
theorem yM {P:Program}{w:World}{ops:Array Oper}{rest:List Oper}{o:Oper}{a:Act}{Q:Exit->Act->World->Prop}(hgd:o.guard=none) (t:TypeId) (x:Operand) (ho:o.op=.load t x) (v:Value)
  (hrun:(Instr.loadAt t (a.eval x)).run P w=.ok v w) (h:wpList P ops Q rest (a.put o.dst v) w):wpList P ops Q (o :: rest) a w:=by
 refine wpList_plain hgd fun K hK=>?_
 unfold Oper.wp
 simp[execOp,ho,hrun,Result.andThen]
 exact hK _ _ h
theorem jz {P:Program}{w:World}(a:Addr) (vs:List Value):∀(n i:Nat) (acc:Array Value),(∀ j,i<=j->j<i+n->w.cell? (a.add j)=some (vs.getD j undef))->i+n<=vs.length ->
  (loadCellsFrom a i n acc).run P w=.ok (acc++((vs.drop i).take n).toArray) w:=by
 intro n
 induction n with
 | zero=>intro i acc _ _;simp[loadCellsFrom]
 | succ n ih =>
  intro i acc h hl
  have h0:=h i zn (by omega)
  have hd:vs.drop i=vs.getD i undef :: vs.drop (i+1):=by
   rw[List.drop_eq_getElem_cons (by omega)]
   simp[List.getD_eq_getElem?_getD,List.getElem?_eq_getElem (show i<vs.length by omega)]
  simp only [loadCellsFrom,Sem.run_bind,load,Sem.run,h0,Result.andThen]
  rw[ih (i+1) _ (fun j h1 h2=>h j (by omega) (by omega)) (by omega),hd]
  simp
theorem lev_load {w:World}(h:Lv w):(Instr.loadAt 253 (.pointer (some ⟨2,0,none⟩))).run Tryz.prog w=.ok lvAgg w:=by
 have hc:=jz (P:=Tryz.prog) (w:=w) ⟨2,0,none⟩ levs 26 0 #[] (fun j _ hj=>by have hq:=h.2 j (by omega);by_cases hj0:j=0 <;> simpa[Addr.add,hj0] using hq) (by decide)
 have h1:(isAgg 253).run Tryz.prog w=.ok true w:=by kernel_rfl
 have h2:(sizeOf 253).run Tryz.prog w=.ok 26 w:=by kernel_rfl
 simp only [Instr.loadAt,Instr.sureAddr,loadVar,loadCells,Sem.run_bind,Result.andThen]
 simp[h1,h2,hc,lvAgg,levs]
theorem lev_idx0 (w:World):(Instr.index 253 lvAgg (.int .i64 0)).run Tryz.prog w=.ok (.agg #[.string ⟨#[111,114]⟩,.int .i64 0]) w:=by kernel_rfl
theorem lev_idx1 (w:World):(Instr.index 253 lvAgg (.int .i64 1)).run Tryz.prog w=.ok (.agg #[.string ⟨#[97,110,100]⟩,.int .i64 1]) w:=by kernel_rfl
theorem lev_idx2 (w:World):(Instr.index 253 lvAgg (.int .i64 2)).run Tryz.prog w=.ok (.agg #[.string ⟨#[61]⟩,.int .i64 2]) w:=by kernel_rfl
theorem lev_idx3 (w:World):(Instr.index 253 lvAgg (.int .i64 3)).run Tryz.prog w=.ok (.agg #[.string ⟨#[35]⟩,.int .i64 2]) w:=by kernel_rfl
theorem lev_idx4 (w:World):(Instr.index 253 lvAgg (.int .i64 4)).run Tryz.prog w=.ok (.agg #[.string ⟨#[60]⟩,.int .i64 2]) w:=by kernel_rfl
theorem lev_idx5 (w:World):(Instr.index 253 lvAgg (.int .i64 5)).run Tryz.prog w=.ok (.agg #[.string ⟨#[60,61]⟩,.int .i64 2]) w:=by kernel_rfl
theorem lev_idx6 (w:World):(Instr.index 253 lvAgg (.int .i64 6)).run Tryz.prog w=.ok (.agg #[.string ⟨#[62]⟩,.int .i64 2]) w:=by kernel_rfl
theorem lev_idx7 (w:World):(Instr.index 253 lvAgg (.int .i64 7)).run Tryz.prog w=.ok (.agg #[.string ⟨#[62,61]⟩,.int .i64 2]) w:=by kernel_rfl
theorem lev_idx8 (w:World):(Instr.index 253 lvAgg (.int .i64 8)).run Tryz.prog w=.ok (.agg #[.string ⟨#[43]⟩,.int .i64 3]) w:=by kernel_rfl
theorem lev_idx9 (w:World):(Instr.index 253 lvAgg (.int .i64 9)).run Tryz.prog w=.ok (.agg #[.string ⟨#[45]⟩,.int .i64 3]) w:=by kernel_rfl
theorem lev_idx10 (w:World):(Instr.index 253 lvAgg (.int .i64 10)).run Tryz.prog w=.ok (.agg #[.string ⟨#[42]⟩,.int .i64 4]) w:=by kernel_rfl
theorem lev_idx11 (w:World):(Instr.index 253 lvAgg (.int .i64 11)).run Tryz.prog w=.ok (.agg #[.string ⟨#[100,105,118]⟩,.int .i64 4]) w:=by kernel_rfl
theorem lev_idx12 (w:World):(Instr.index 253 lvAgg (.int .i64 12)).run Tryz.prog w=.ok (.agg #[.string ⟨#[109,111,100]⟩,.int .i64 4]) w:=by kernel_rfl
theorem lvl_none (op:List UInt8) (h0:([111,114] == op)=false) (h1:([97,110,100] == op)=false) (h2:([61] == op)=false) (h3:([35] == op)=false) (h4:([60] == op)=false) (h5:([60,61] == op)=false) (h6:([62] == op)=false) (h7:([62,61] == op)=false) (h8:([43] == op)=false) (h9:([45] == op)=false) (h10:([42] == op)=false) (h11:([100,105,118] == op)=false) (h12:([109,111,100] == op)=false):Tp.lvl op=5:=by
 have k:∀ l:List UInt8,(l == op)=false->op≠l:=fun l h e=>by subst e;simp at h
 have g0:=k _ h0;have g1:=k _ h1;have g2:=k _ h2;have g3:=k _ h3;have g4:=k _ h4;have g5:=k _ h5;have g6:=k _ h6;have g7:=k _ h7;have g8:=k _ h8;have g9:=k _ h9;have g10:=k _ h10;have g11:=k _ h11;have g12:=k _ h12
 unfold Tp.lvl
 simp only [Tp.wOr,Tp.wAnd,Tp.mEq,Tp.mNe,Tp.mLt,Tp.mLe,Tp.mGt,Tp.mGe,Tp.mPlus,Tp.mMinus,Tp.mStar,Tp.wDiv,Tp.wMod,g0,g1,g2,g3,g4,g5,g6,g7,g8,g9,g10,g11,g12,or_self,if_false]
theorem qC (w:World) (op:List UInt8) (hl:Lv w) :
  Calls Tryz.prog 211 #[.string (bs op)] w fun e w'=>e=.returned (.int .i64 (Tp.lvl op:Int))/\Below w.heap.size w w':=by
 have i0:=lev_idx0;have i1:=lev_idx1;have i2:=lev_idx2;have i3:=lev_idx3;have i4:=lev_idx4;have i5:=lev_idx5;have i6:=lev_idx6
 have i7:=lev_idx7;have i8:=lev_idx8;have i9:=lev_idx9;have i10:=lev_idx10;have i11:=lev_idx11;have i12:=lev_idx12
 have hop:=zy op
 go_enter Tryz.func211,Tryz.ntmps211
 go_wp2_with (refine yM rfl 253 (.global 2) rfl lvAgg (lev_load hl) ?_)
 refine wp_loop_rounds 14 ?_
 rw[rounds_succ]
 go_wp2
 ·go_ret
  have hq:=eq_of_beq ‹([111,114] == op)=true›
  exact⟨by rw[<-hq];rfl,by go_grown⟩
 rw[rounds_succ]
 go_wp2
 ·go_ret
  have hq:=eq_of_beq ‹([97,110,100] == op)=true›
  exact⟨by rw[<-hq];rfl,by go_grown⟩
 rw[rounds_succ]
 go_wp2
 ·go_ret
  have hq:=eq_of_beq ‹([61] == op)=true›
  exact⟨by rw[<-hq];rfl,by go_grown⟩
 rw[rounds_succ]
 go_wp2
 ·go_ret
  have hq:=eq_of_beq ‹([35] == op)=true›
  exact⟨by rw[<-hq];rfl,by go_grown⟩
 rw[rounds_succ]
 go_wp2
 ·go_ret
  have hq:=eq_of_beq ‹([60] == op)=true›
  exact⟨by rw[<-hq];rfl,by go_grown⟩
 rw[rounds_succ]
 go_wp2
 ·go_ret
  have hq:=eq_of_beq ‹([60,61] == op)=true›
  exact⟨by rw[<-hq];rfl,by go_grown⟩
 rw[rounds_succ]
 go_wp2
 ·go_ret
  have hq:=eq_of_beq ‹([62] == op)=true›
  exact⟨by rw[<-hq];rfl,by go_grown⟩
 rw[rounds_succ]
 go_wp2
 ·go_ret
  have hq:=eq_of_beq ‹([62,61] == op)=true›
  exact⟨by rw[<-hq];rfl,by go_grown⟩
 rw[rounds_succ]
 go_wp2
 ·go_ret
  have hq:=eq_of_beq ‹([43] == op)=true›
  exact⟨by rw[<-hq];rfl,by go_grown⟩
 rw[rounds_succ]
 go_wp2
 ·go_ret
  have hq:=eq_of_beq ‹([45] == op)=true›
  exact⟨by rw[<-hq];rfl,by go_grown⟩
 rw[rounds_succ]
 go_wp2
 ·go_ret
  have hq:=eq_of_beq ‹([42] == op)=true›
  exact⟨by rw[<-hq];rfl,by go_grown⟩
 rw[rounds_succ]
 go_wp2
 ·go_ret
  have hq:=eq_of_beq ‹([100,105,118] == op)=true›
  exact⟨by rw[<-hq];rfl,by go_grown⟩
 rw[rounds_succ]
 go_wp2
 ·go_ret
  have hq:=eq_of_beq ‹([109,111,100] == op)=true›
  exact⟨by rw[<-hq];rfl,by go_grown⟩
 rw[rounds_succ]
 go_wp2
 go_ret
 have hq:=lvl_none op ‹_› ‹_› ‹_› ‹_› ‹_› ‹_› ‹_› ‹_› ‹_› ‹_› ‹_› ‹_› ‹_›
 exact⟨by rw[hq];rfl,by go_grown⟩
end Go.Proofs.YtmocelfkmdpogaaGreatDoor
