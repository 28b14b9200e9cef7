import Derived.Test.YtibncofnnlbmcaaGreatDoorKWa
import Derived.Test.YtibncofnnlbmcaaGreatDoorKPc
import Derived.Test.YtibncofnnlbmcaaGreatDoorKWb
import Derived.Test.YtibncofnnlbmcaaGreatDoorKWk
import Derived.Test.YtibncofnnlbmcaaGreatDoorKSha
import Derived.Maps.OwnSet
import Derived.Maps.OwnOps
import Derived.StringKeys
import Derived.Lib.Hide
import Derived.Deep.RegionHeld3
set_option maxRecDepth 100000
set_option maxHeartbeats 4000000
namespace Go.Proofs.YtibncofnnlbmcaaGreatDoor
open Go.RowKit Go.Maps
open Tp (Bs)
def heldV (v:Value):Option (DataW Value×List MemPlace):=some (.held v,[])
theorem skey:Keyed Tryz.prog 9:=string_keyed Tryz.underlying9
structure MapV (w:World) (b n:Nat) (f:Bs->Option Value):Prop where
 own:∃D,w.ownsMap Tryz.prog 9 heldV b n D/\∀s,Maps.has D (.string s)=(f s).isSome/\∀v,f s=some v->∀z,D.atKey (.string s) z=.held v
theorem MapV.made (w:World):MapV (w.alloc (.map #[] 0)) w.heap.size 0 (fun _=>none) :=
 ⟨⟨.map [],World.ownsMap_made _ _ _ _,fun s=>⟨rfl,fun v h=>by cases h⟩⟩⟩
theorem MapV.on {w w':World}{b n:Nat}{f:Bs->Option Value}(h:MapV w b n f)(k:w'.heap[b]?=w.heap[b]?):MapV w' b n f:=by
 obtain⟨D,⟨a,clock,c,d⟩,e⟩:=h.own
 exact⟨⟨D,⟨a,clock,k.trans c,d⟩,e⟩⟩
theorem MapV.lt {w:World}{b n:Nat}{f:Bs->Option Value}(h:MapV w b n f):b<w.heap.size:=by
 obtain⟨D,a,_⟩:=h.own
 exact a.lt
theorem MapV.mono {w:World}{b n a:Nat}{f:Bs->Option Value}(h:MapV w b n f)(k:n<=a):MapV w b a f:=by
 obtain⟨D,c,d⟩:=h.own
 exact⟨⟨D,c.mono k,d⟩⟩
theorem xI (l:Bs)(a:l.length<=1000000):keyOf Tryz.prog 9 (.string (bs l))=some (.string l):=by
 have:=Go.WideMaps.keyOf_string_mk (P:=Tryz.prog) (k:=9) Tryz.underlying9 (s:=bs l) (by simp[bs,ByteArray.size,maxLen];omega)
 simpa[bs] using this
theorem MapV.look {w:World}{b n:Nat}{f:Bs->Option Value}(h:MapV w b n f){t e:TypeId}(p:Tryz.prog.underlying t=some (.map 9 e)){z:Value}(q:(zeroValue e).run Tryz.prog w=.ok z w)(l:Bs)(o:l.length<=1000000)(c:Bool) :
  (Instr.lookup t (.map (some b)) (.string (bs l)) c).run Tryz.prog w=.ok (if c then .tuple #[(f l).getD z,.bool (f l).isSome] else (f l).getD z) w:=by
 obtain⟨D,k,s⟩:=h.own
 obtain⟨d,r⟩:=s l
 have key:∀v,heldV v=some (D.atKey (.string l) (.held z),([]:List MemPlace))->v=(f l).getD z:=by
  intro v a
  unfold heldV at a
  simp only[Option.some.injEq,Prod.mk.injEq,and_true]at a
  cases m:f l with
  |none =>
   rw[m]at d
   rw[atKey_of_not_has d]at a
   injection a
  |some u =>
   rw[r u m]at a
   injection a
 have j:∀v ps,heldV v=some (D.atKey (.string l) (.held z),ps)->v=(f l).getD z:=by
  intro v ps a
  refine key v ?_
  unfold heldV at a ⊢
  simp only[Option.some.injEq,Prod.mk.injEq]at a ⊢
  exact⟨a.1,trivial⟩
 cases c with
 |true =>
  obtain⟨v,ps,g,i⟩:=k.look_ok skey p q (zd:=.held z) (zp:=[]) rfl (xI l o)
  rw[g,j v ps i,d]
  rfl
 |false =>
  obtain⟨v,ps,g,i⟩:=k.lookup skey p q (zd:=.held z) (zp:=[]) rfl (xI l o)
  rw[g,j v ps i]
  rfl
theorem kB (w:World){t e:TypeId}(b:Tryz.prog.underlying t=some (.map 9 e)){z:Value}(d:(zeroValue e).run Tryz.prog w=.ok z w)(l:Bs)(a:l.length<=1000000)(c:Bool) :
  (Instr.lookup t (.map none) (.string (bs l)) c).run Tryz.prog w=.ok (if c then .tuple #[z,.bool false] else z) w:=Maps.look_nil c skey b d (xI l a)
def updV (f:Bs->Option Value) (k:Bs) (v:Value):Bs->Option Value:=fun s=>if s=k then some v else f s
theorem MapV.store {w:World}{b n:Nat}{f:Bs->Option Value}(h:MapV w b n f){t e:TypeId}(y:Tryz.prog.underlying t=some (.map 9 e))(G:n<1000000)(l:Bs)(x:l.length<=1000000)(v:Value) :
  ∃w',(Instr.mapUpdate t (.map (some b)) (.string (bs l)) v).run Tryz.prog w=.ok () w'/\MapV w' b (n+1) (updV f l v)/\Ext b w w'/\w'.heap.size=w.heap.size:=by
 obtain⟨D,m,o⟩:=h.own
 obtain⟨w',A,B,q⟩:=m.store skey y (by unfold maxLen;omega) (xI l x) (d:=.held v) (ps:=[]) rfl
 have p:=m.isMap
 refine⟨w',A,⟨⟨_,B,fun s=>?_⟩⟩,?_,?_⟩
 ·by_cases i:s=l
  ·subst i
   have c:WideAt.IsKeyLit (.string s):=by simp[WideAt.IsKeyLit]
   refine⟨by rw[has_put_same p c];simp[updV],fun u a z=>?_⟩
   rw[atKey_put_same p c]
   simp[updV]at a
   rw[a]
  ·have j:(Lit.string s)≠.string l:=fun e=>i (by injection e)
   refine⟨by rw[has_put_other j,(o s).1];simp[updV,i],fun u a z=>?_⟩
   rw[atKey_put_other j]
   simp[updV,i]at a
   exact(o s).2 u a z
 ·have g:=q.grown
  exact⟨g.os,g.tape,g.output,g.size,fun k c r=>g.block k c (fun e=>r (by injection e))⟩
 ·obtain⟨F,clock,E,C,_,rfl⟩:=q
  simp[ChangeMaps.setBlock]
end Go.Proofs.YtibncofnnlbmcaaGreatDoor
namespace Go.Proofs.YtibncofnnlbmcaaGreatDoor
open Go.RowKit Go.Maps
open Tp (Bs Th)
@[go_sem] theorem zeroTh (w:World):(zeroValue 196).run Tryz.prog w=.ok (.agg #[.int .i64 0,.int .i64 0]) w:=by kernel_rfl
@[go_sem] theorem zeroSyms (w:World):(zeroValue 149).run Tryz.prog w=.ok (.slice none 0 0) w:=by kernel_rfl
def thV (x:Nat×Int):Value:=.agg #[.int .i64 (x.1:Int),.int .i64 x.2]
theorem yV (en a:Nat)(w:World) :
  Calls Tryz.prog 145 #[.int .i64 (en:Int),.int .i64 (a:Int)] w fun e w'=>Thrown w.heap.size (en,a) e w'/\Below w.heap.size w w':=by
 go_enter Tryz.func145,Tryz.ntmps145
 go_wp2
 exact⟨rfl,⟨⟨w.heap.size,Nat.le_refl _,rfl,by simp[go_sem],by simp[go_sem]⟩⟩,zb _ _⟩
theorem yS (w:World) :
  Calls Tryz.prog 116 #[] w fun e w'=>e=.returned (.agg #[.int .i64 0,.int .i64 (-1)])/\Below w.heap.size w w':=by
 go_enter Tryz.func116,Tryz.ntmps116
 go_wp2
 exact bodyPost_ret (v:=.agg #[.int .i64 0,.int .i64 (-1)]) (by simp[results,Tryz.results116,go_sem]) rfl ⟨rfl,zb _ _⟩
theorem kind_any (a:Nat)(b:Int)(w:World) :
  Calls Tryz.prog 167 #[.agg #[.int .i64 (a:Int),.int .i64 b]] w fun e w'=>e=.returned (.int .i64 (Tp.kindOf (a,b):Int))/\Below w.heap.size w w':=by
 have f:∀ob,Below w.heap.size w (w.alloc ob):=fun ob=>zb _ _
 have d:=zh f
 clear f
 unfold Tp.kindOf
 by_cases c:0<=b
 ·have h:b ≥ 0:=c
  rw[if_pos c]
  go_enter Tryz.func167,Tryz.ntmps167
  go_wp2
  go_ret
  exact⟨rfl,d.out _⟩
 ·have h:¬b ≥ 0:=c
  rw[if_neg c]
  by_cases g:0<a
  ·have i:(a:Int) > 0:=by omega
   rw[if_pos g]
   go_enter Tryz.func167,Tryz.ntmps167
   go_wp2
   go_ret
   exact⟨rfl,d.out _⟩
  ·have i:¬(a:Int) > 0:=by omega
   rw[if_neg g]
   go_enter Tryz.func167,Tryz.ntmps167
   go_wp2
   go_ret
   exact⟨rfl,d.out _⟩
theorem zW (w:World){ops:Array Oper}{rest:List Oper}{o:Oper}{a:Act}{Q:Exit->Act->World->Prop}
  (j:o.guard=none)(m x v:Operand)(t:TypeId)(h:o.op=Op.mapUpdate t m x v)(e:TypeId)(r:Tryz.prog.underlying t=some (.map 9 e))
  (b n:Nat)(f:Bs->Option Value)(c:MapV w b n f)(q:n<1000000)(l:Bs)(k:l.length<=1000000)(val:Value)(p:a.eval m=.map (some b))(u:a.eval x=.string (bs l))(s:a.eval v=val)
  (i:∀w',MapV w' b (n+1) (updV f l val)->Ext b w w'->w'.heap.size=w.heap.size->wpList Tryz.prog ops Q rest (a.put o.dst undef) w') :
  wpList Tryz.prog ops Q (o :: rest) a w:=by
 refine wpList_plain j fun B g=>?_
 obtain⟨w',d,y,z,A⟩:=c.store r q l k val
 unfold Oper.wp
 simp[execOp,h,p,u,s,d,Result.andThen]
 exact g _ _ (i w' y z A)
theorem add_no {w:World}{b n:Nat}{f:Bs->Option Value}(h:MapV w b n f)(nm:Bs)(B:nm.length<=1000000)(x:Nat)(y:Int)(g:Nat){u:Value}(o:f nm=some u)(a:∃c d,u=.agg #[.int .i64 c,.int .i64 d]) :
  Calls Tryz.prog 111 #[.map (some b),.string (bs nm),.agg #[.int .i64 (x:Int),.int .i64 y],.int .i64 (g:Int)] w fun e w'=>Thrown w.heap.size (9,g) e w'/\Below w.heap.size w w':=by
 obtain⟨c,d,rfl⟩:=a
 have C:∀ob,(Instr.lookup 142 (.map (some b)) (.string (bs nm)) true).run Tryz.prog (w.alloc ob)=.ok (.tuple #[.agg #[.int .i64 c,.int .i64 d],.bool true]) (w.alloc ob):=by
  intro ob
  have:=(h.on (w':=w.alloc ob) (Below.heap_alloc _ _ _ h.lt)).look (t:=142) Tryz.underlying142 (zeroTh _) nm B true
  rw[o]at this
  exact this
 have z:Hid (∀p q,Below w.heap.size w ((w.alloc p).alloc q)):=fun p q=>(zb _ _).alloc (by simp) _
 clear h o
 go_enter Tryz.func111,Tryz.ntmps111
 go_wp2_with fail
 refine(yV 9 g _).mono ?_
 rintro e w2⟨m,i⟩
 obtain⟨j,k,rfl,a,l⟩:=m.out
 have v:w.heap.size<=j:=by simp at k;omega
 have A:=zh a
 have s:=zh l
 have r:=zh ((z.out _ _).trans (i.mono (by simp;omega)))
 clear k a l i m
 go_wp2_with fail
 exact⟨rfl,⟨⟨j,v,rfl,A.out,s.out⟩⟩,r.out⟩
theorem add_ok {w:World}{a n:Nat}{f:Bs->Option Value}(h:MapV w a n f)(l:n<1000000)(nm:Bs)(c:nm.length<=1000000)(x:Nat)(y:Int)(m:Nat)(d:f nm=none) :
  Calls Tryz.prog 111 #[.map (some a),.string (bs nm),.agg #[.int .i64 (x:Int),.int .i64 y],.int .i64 (m:Int)] w fun e w'=>e=.returned (.tuple #[])/\MapV w' a (n+1) (updV f nm (thV (x,y)))/\Ext a w w':=by
 have q:∀ob,(Instr.lookup 142 (.map (some a)) (.string (bs nm)) true).run Tryz.prog (w.alloc ob)=.ok (.tuple #[.agg #[.int .i64 0,.int .i64 0],.bool false]) (w.alloc ob):=by
  intro ob
  have:=(h.on (w':=w.alloc ob) (Below.heap_alloc _ _ _ h.lt)).look (t:=142) Tryz.underlying142 (zeroTh _) nm c true
  rw[d]at this
  exact this
 have b:Hid (∀g i,Below w.heap.size w ((w.alloc g).alloc i)):=fun g i=>(zb _ _).alloc (by simp) _
 have k:=zh h
 have j:=h.lt
 clear h d
 go_enter Tryz.func111,Tryz.ntmps111
 go_wp2_with (at_mapUpdate;refine zW _ rfl _ _ _ 142 rfl _ Tryz.underlying142 a n f (k.out.on ((b.out _ _).block a j)) l nm c (thV (x,y)) rfl rfl rfl ?_;intro s o p r)
 exact bodyPost_end (results_none rfl _ _ _) rfl ⟨rfl,o,(Ext.below (b.out _ _)).trans p⟩
structure TM (w:World) (gb:Nat) (l:List Th) (i:Nat):Prop where
 mp:MapV w gb i (fun k=>(Tp.lkT (l.take i) k).map thV)
 tw:Tp.twP l 0=Tp.twP l i
theorem TM.on {w w':World}{a i:Nat}{l:List Th}(h:TM w a l i)(k:w'.heap[a]?=w.heap[a]?):TM w' a l i:=⟨h.mp.on k,h.tw⟩
theorem TM.zero (w:World)(l:List Th):TM (w.alloc (.map #[] 0)) w.heap.size l 0:=by
 refine⟨?_,rfl⟩
 have:=MapV.made w
 have e:(fun k=>(Tp.lkT (l.take 0) k).map thV)=fun _=>none:=by funext k;simp[Tp.lkT]
 rw[e]
 exact this
theorem TM.dup {w:World}{a i:Nat}{l:List Th}{x:Th}(h:TM w a l i)(d:l[i]?=some x)(c:x.1∈(l.take i).map (·.1)):Tp.twP l 0=some (9,x.2.1):=by
 rw[h.tw,Tp.twP]
 obtain⟨b,e⟩:=List.getElem?_eq_some_iff.1 d
 rw[dif_pos b,e,if_pos c]
theorem TM.fin {w:World}{a i:Nat}{l:List Th}(h:TM w a l i)(b:l.length<=i):Tp.twP l 0=none/\MapV w a i (fun k=>(Tp.lkT l k).map thV):=by
 refine⟨by rw[h.tw,Tp.twP,dif_neg (by omega)],?_⟩
 have:=h.mp
 rw[List.take_of_length_le b]at this
 exact this
theorem ve {w:World}{b i:Nat}{l:List Th}{a:Bs}{x1 x2:Nat}{x3:Int}(h:TM w b l i)(d:a∈(l.take i).map (·.1))(c:a.length<=1000000) :
  Calls Tryz.prog 111 #[.map (some b),.string (bs a),.agg #[.int .i64 (x2:Int),.int .i64 x3],.int .i64 (x1:Int)] w fun e w'=>Thrown w.heap.size (9,x1) e w'/\Below w.heap.size w w':=by
 have f:=Tp.lkT_some.2 d
 obtain⟨u,g⟩:=Option.isSome_iff_exists.1 f
 exact add_no h.mp a c x2 x3 x1 (u:=thV u) (by simp[g]) ⟨_,_,rfl⟩
theorem vd {w:World}{b i:Nat}{l:List Th}{a:Bs}{x1 x2:Nat}{x3:Int}(h:TM w b l i)(t:l[i]?=some (a,x1,x2,x3))(p:i<1000000)(d:¬a∈(l.take i).map (·.1))(q:a.length<=1000000) :
  Calls Tryz.prog 111 #[.map (some b),.string (bs a),.agg #[.int .i64 (x2:Int),.int .i64 x3],.int .i64 (x1:Int)] w fun e w'=>e=.returned (.tuple #[])/\TM w' b l (i+1)/\Ext b w w':=by
 have r:Tp.lkT (l.take i) a=none:=by
  cases s:Tp.lkT (l.take i) a with
  |none=>rfl
  |some u=>exact absurd (Tp.lkT_some.1 (by rw[s];rfl)) d
 refine(add_ok h.mp p a q x2 x3 x1 (by simp[r])).mono ?_
 rintro e w'⟨m,n,o⟩
 obtain⟨f,g⟩:=List.getElem?_eq_some_iff.1 t
 refine⟨m,⟨?_,?_⟩,o⟩
 ·have j:(fun k=>(Tp.lkT (l.take (i+1)) k).map thV)=updV (fun k=>(Tp.lkT (l.take i) k).map thV) a (thV (x2,x3)):=by
   funext k
   rw[List.take_succ_eq_append_getElem f,g,Tp.lkT_snoc d]
   unfold updV
   by_cases c:k=a
   ·rw[if_pos c,if_pos c];rfl
   ·rw[if_neg c,if_neg c]
  rw[j]
  exact n
 ·rw[h.tw,Tp.twP,dif_pos f,g,if_neg d]
def MapP (w:World) (l:List Th) (e:Ending) (w':World):Prop:=Below w.heap.size w w'/\match Tp.twP l 0 with
 |none=>∃gb n,e=.returned (.map (some gb))/\w.heap.size<=gb/\n<=1000000/\MapV w' gb n (fun k=>(Tp.lkT l k).map thV)
 |some er=>Thrown w.heap.size er e w'
def AskTG (w:World) (gn:Nat) (ga:Option Addr) (l:List Th):Prop :=
 ∀i,i<gn->∃(g:Nat) (x0:Bs) (x1 x2:Nat) (x3:Bool),ga=some ⟨g,0,none⟩/\g<w.heap.size/\w.cell? ⟨g,i*4,none⟩=some (.string (bs x0))/\w.cell? ⟨g,i*4+1,none⟩=some (.int .i64 (x1:Int))/\w.cell? ⟨g,i*4+2,none⟩=some (.int .i64 (x2:Int))/\w.cell? ⟨g,i*4+3,none⟩=some (.bool x3)/\x0.length<=1000000/\l[i]?=some (x0,x1,x2,-1)
def AskTP (w:World) (gn pn:Nat) (pa:Option Addr) (l:List Th):Prop :=
 ∀i,i<pn->∃(g:Nat) (x0:Bs) (x1:Nat) (x2:Bool) (y3 y4 y5:Option Addr) (n3 n4 n5 c3 c4 c5:Nat),pa=some ⟨g,0,none⟩/\g<w.heap.size/\w.cell? ⟨g,i*6,none⟩=some (.string (bs x0))/\w.cell? ⟨g,i*6+1,none⟩=some (.int .i64 (x1:Int))/\w.cell? ⟨g,i*6+2,none⟩=some (.bool x2)/\w.cell? ⟨g,i*6+3,none⟩=some (.slice y3 n3 c3)/\w.cell? ⟨g,i*6+4,none⟩=some (.slice y4 n4 c4)/\w.cell? ⟨g,i*6+5,none⟩=some (.slice y5 n5 c5)/\x0.length<=1000000/\l[gn+i]?=some (x0,x1,0,(n3:Int))
theorem yd {w:World}{b:Nat}{a c d e f:Value}{t:TypeId}(h:w.heap[b]?=some (.cells #[a,c,d,e,f] t (0,0))):w.cell? ⟨b,0,none⟩=some a/\w.cell? ⟨b,1,none⟩=some c/\w.cell? ⟨b,2,none⟩=some d/\w.cell? ⟨b,3,none⟩=some e/\w.cell? ⟨b,4,none⟩=some f :=
 ⟨(za h).trans rfl,(za h).trans rfl,(za h).trans rfl,(za h).trans rfl,(za h).trans rfl⟩
theorem zT {b B:Nat}{w w':World}(h:Ext b w w')(a:B<=b)(d:B<=w.heap.size):Below B w w' :=
 ⟨h.os,h.tape,h.output,h.size,fun k c=>h.block k (by omega) (by omega)⟩
theorem zE {w:World}{a:Addr}{v:Value}(h:w.cell? a=some v)(ob:Obj):(w.alloc ob).cell? a=some v:=by
 rw[World.cell?_alloc_lt _ _ _ (World.block_lt_of_cell? _ _ h)];exact h
theorem ug {w:World}{nm:Bs}{F gn pn J O L v I:Nat}{N t s H:Option Addr}{l:List Th}(hG:AskTG w gn t l)(hP:AskTP w gn pn s l)(hl:l.length=gn+pn)(d1:gn<=1000)(d8:pn<=1000) :
  Calls Tryz.prog 80 #[.agg #[.string (bs nm),.slice N F O,.slice t gn L,.slice s pn v,.slice H J I]] w (MapP w l):=by
 obtain⟨f,D⟩:∃f,f=w.alloc (.cells #[.string (bs nm),.slice N F O,.slice t gn L,.slice s pn v,.slice H J I] 36):=⟨_,rfl⟩
 have a0:f.heap[w.heap.size]?=some (.cells #[.string (bs nm),.slice N F O,.slice t gn L,.slice s pn v,.slice H J I] 36 (0,0)):=by rw[D];exact zo _ _
 have Q:f.heap.size=w.heap.size+1:=by rw[D];simp
 have a3:Below w.heap.size w (f.alloc (.map #[] 0)):=by rw[D];exact(zb _ _).alloc (by simp) _
 have T:=TM.zero f l
 have P:(f.alloc (.map #[] 0)).heap[w.heap.size]?=some (.cells #[.string (bs nm),.slice N F O,.slice t gn L,.slice s pn v,.slice H J I] 36 (0,0)):=(Below.heap_alloc _ _ _ (by omega)).trans a0
 rw[Q]at T
 obtain⟨k0,k1,k2,V,k4⟩:=yd P
 have b7:=@run_makeMap Tryz.prog
 have HG:=zh hG
 have HP:=zh hP
 have HL:=zh hl
 have HK:=zh P
 have HT:=zh T
 have z:=zh a3
 have b2:=zh Q
 have c8:(gn:Int)<=1000:=by omega
 have c9:(pn:Int)<=1000:=by omega
 clear hG hP hl P T a3 k0 k1 V k4 a0
 go_enter Tryz.func80,Tryz.ntmps80
 go_wp2_with fail
 rw[<-D]
 have d0:w.heap.size+2<=(f.alloc (.map #[] 0)).heap.size:=by simp;omega
 have d9:(w.alloc (.cells #[.string (bs nm),.slice N F O,.slice t gn L,.slice s pn v,.slice H J I] 36)).heap.size=w.heap.size+1:=by simp
 generalize f.alloc (.map #[] 0)=w0 at *
 clear D b2 Q f b7
 go_loopg [12] gn (fun k Z wr=>∃i:Nat,i<=gn/\k=gn-i/\Z=.int .i64 (i:Int)/\Hid (TM wr (w.heap.size+1) l i)/\Hid (Ext (w.heap.size+1) w0 wr))
 case atStart=>exact⟨0,by omega,by omega,rfl,HT,Ext.refl _ _⟩
 case round =>
  obtain⟨i,d2,hk,rfl,m,c⟩:=hrel
  have a4:=c.out.size
  by_cases b6:i<gn
  ·have a7:(i:Int)<(gn:Int):=by omega
   obtain⟨g,x0,x1,x2,x3,b5,S,K,C,c2,c3,E,M⟩:=HG.out i b6
   subst b5
   have a:∀(o:Nat) (u:Value),w.cell? ⟨g,o,none⟩=some u->wr.cell? ⟨g,o,none⟩=some u:=fun o u h=>c.out.cell ((z.out.cell (p:=⟨g,o,none⟩) S).trans h) (by simp;omega)
   have b9:=a _ _ K
   have c1:=a _ _ C
   have c6:=a _ _ c2
   have c7:=a _ _ c3
   have a6:g<wr.heap.size:=by omega
   have G:=zh M
   have B:Hid (∀ob,TM (wr.alloc ob) (w.heap.size+1) l i):=fun ob=>m.out.on (Below.heap_alloc _ _ _ (by omega))
   have A:Hid (∀ob,Ext (w.heap.size+1) w0 (wr.alloc ob)):=fun ob=>c.out.trans (Ext.below (zb _ _))
   clear K C c2 c3 a M
   by_cases q:x0∈(l.take i).map (·.1)
   ·have n:=zh q
    clear q
    go_wp2_with fail
    refine(ve (B.out _) n.out E).mono ?_
    rintro e x⟨b,d⟩
    have U:=zh (m.out.dup G.out n.out)
    have y:Hid (Below w.heap.size w x):=(z.out.trans (zT (A.out _) (by omega) (by omega))).trans (d.mono (by simp;omega))
    have r:=zh (b.mono (B':=w.heap.size) (by simp;omega))
    obtain⟨ab,W,rfl,X,Y⟩:=b.out
    clear b d W X Y
    go_wp2_with fail
    refine⟨rfl,y.out,?_⟩
    rw[U.out]
    exact r.out
   ·have n:=zh q
    clear q
    go_wp2_with fail
    refine(vd (B.out _) G.out (by omega) n.out E).mono ?_
    rintro e x⟨rfl,b,d⟩
    have r:=zh b
    have R:=zh ((A.out _).trans d)
    clear b d
    go_wp2_with fail
    go_roundg (gn-(i+1))
    case measure=>omega
    case rel=>exact⟨i+1,by omega,rfl,by go_num,r,R⟩
  ·have a7:¬(i:Int)<(gn:Int):=by omega
   have b3:i=gn:=by omega
   subst b3
   have V:wr.cell? ⟨w.heap.size,3,none⟩=some (.slice s pn v):=c.out.cell (yd HK.out).2.2.2.1 (by simp)
   have a9:w.heap.size<wr.heap.size:=by omega
   have a1:Hid (TM wr (w.heap.size+1) l (i+0)):=m
   have a2:=c
   clear m c HG k2 a4 HT
   go_wp2_with fail
   go_loopg [29] pn (fun k Z wr=>∃j:Nat,j<=pn/\k=pn-j/\Z=.int .i64 (j:Int)/\Hid (TM wr (w.heap.size+1) l (i+j))/\Hid (Ext (w.heap.size+1) w0 wr))
   case atStart=>exact⟨0,by omega,by omega,rfl,a1,a2⟩
   case round =>
    obtain⟨j,d6,d7,rfl,m,c⟩:=hrel
    have a4:=c.out.size
    clear a1 a2 V a9
    by_cases a8:j<pn
    ·have a5:(j:Int)<(pn:Int):=by omega
     obtain⟨g,x0,x1,x2,y3,y4,y5,n3,n4,n5,d3,d4,d5,b8,S,K,C,c2,c3,c4,c5,E,M⟩:=HP.out j a8
     subst b8
     have a:∀(o:Nat) (u:Value),w.cell? ⟨g,o,none⟩=some u->wr.cell? ⟨g,o,none⟩=some u:=fun o u h=>c.out.cell ((z.out.cell (p:=⟨g,o,none⟩) S).trans h) (by simp;omega)
     have b9:=a _ _ K
     have c1:=a _ _ C
     have c6:=a _ _ c2
     have c7:=a _ _ c3
     have e0:=a _ _ c4
     have e1:=a _ _ c5
     have a6:g<wr.heap.size:=by omega
     have G:=zh M
     have B:Hid (∀ob,TM (wr.alloc ob) (w.heap.size+1) l (i+j)):=fun ob=>m.out.on (Below.heap_alloc _ _ _ (by omega))
     have A:Hid (∀ob,Ext (w.heap.size+1) w0 (wr.alloc ob)):=fun ob=>c.out.trans (Ext.below (zb _ _))
     clear K C c2 c3 c4 c5 a M
     by_cases q:x0∈(l.take (i+j)).map (·.1)
     ·have n:=zh q
      clear q
      go_wp2_with fail
      refine(ve (x2:=0) (x3:=(n3:Int)) (B.out _) n.out E).mono ?_
      rintro e x⟨b,d⟩
      have U:=zh (m.out.dup G.out n.out)
      have y:Hid (Below w.heap.size w x):=(z.out.trans (zT (A.out _) (by omega) (by omega))).trans (d.mono (by simp;omega))
      have r:=zh (b.mono (B':=w.heap.size) (by simp;omega))
      obtain⟨ab,W,rfl,X,Y⟩:=b.out
      clear b d W X Y
      go_wp2_with fail
      refine⟨rfl,y.out,?_⟩
      rw[U.out]
      exact r.out
     ·have n:=zh q
      clear q
      go_wp2_with fail
      refine(vd (x2:=0) (x3:=(n3:Int)) (B.out _) G.out (by omega) n.out E).mono ?_
      rintro e x⟨rfl,b,d⟩
      have r:Hid (TM x (w.heap.size+1) l (i+(j+1))):=b
      have R:=zh ((A.out _).trans d)
      clear b d
      go_wp2_with fail
      go_roundg (pn-(j+1))
      case measure=>omega
      case rel=>exact⟨j+1,by omega,rfl,by go_num,r,R⟩
    ·have a5:¬(j:Int)<(pn:Int):=by omega
     have b4:j=pn:=by omega
     subst b4
     obtain⟨f1,f2⟩:=m.out.fin (by have:=HL.out;omega)
     have b0:=zh f1
     have b1:=zh f2
     have y:Hid (Below w.heap.size w wr):=z.out.trans (zT c.out (by omega) (by omega))
     clear f1 f2 m c
     go_wp2_with fail
     go_ret
     refine⟨y.out,?_⟩
     rw[b0.out]
     exact⟨_,_,rfl,by omega,by omega,b1.out⟩
theorem yo {P:Program}{f:FuncId}{args:Array Value}{w:World}{R T:Ending->World->Prop}(h:Calls P f args w T)(a:∀e w',T e w'->R e w')(_:Hid False->R (.returned (.tuple #[])) w):Calls P f args w R:=h.mono a
def AskTN (w:World) (o pn:Nat) (pa:Option Addr) (pl:Nat) (l:List Th):Prop :=
 ∀i,i<pn->∃(g:Nat) (x0:Bs),pa=some ⟨g,0,none⟩/\g<w.heap.size/\w.cell? ⟨g,i,none⟩=some (.string (bs x0))/\x0.length<=1000000/\l[o+i]?=some (x0,pl,0,-1)
theorem yP {w:World}{b:Nat}{a c d e f g:Value}{t:TypeId}(h:w.heap[b]?=some (.cells #[a,c,d,e,f,g] t (0,0))):w.cell? ⟨b,0,none⟩=some a/\w.cell? ⟨b,1,none⟩=some c/\w.cell? ⟨b,2,none⟩=some d/\w.cell? ⟨b,3,none⟩=some e/\w.cell? ⟨b,4,none⟩=some f/\w.cell? ⟨b,5,none⟩=some g :=
 ⟨(za h).trans rfl,(za h).trans rfl,(za h).trans rfl,(za h).trans rfl,(za h).trans rfl,(za h).trans rfl⟩
theorem uU {w:World}{nm:Bs}{a:Nat}{N:Bool}{pn b L M H K:Nat}{G y J:Option Addr}{l:List Th}(hG:AskTN w 0 pn G a l)(hP:AskTN w pn b y a l)(hl:l.length=pn+b)(c1:pn<=1000)(c5:b<=1000) :
  Calls Tryz.prog 83 #[.agg #[.string (bs nm),.int .i64 (a:Int),.bool N,.slice G pn M,.slice y b H,.slice J L K]] w (MapP w l):=by
 obtain⟨r,B⟩:∃r,r=w.alloc (.cells #[.string (bs nm),.int .i64 (a:Int),.bool N,.slice G pn M,.slice y b H,.slice J L K] 65):=⟨_,rfl⟩
 have Z:r.heap[w.heap.size]?=some (.cells #[.string (bs nm),.int .i64 (a:Int),.bool N,.slice G pn M,.slice y b H,.slice J L K] 65 (0,0)):=by rw[B];exact zo _ _
 have P:r.heap.size=w.heap.size+1:=by rw[B];simp
 have a2:Below w.heap.size w (r.alloc (.map #[] 0)):=by rw[B];exact(zb _ _).alloc (by simp) _
 have U:=TM.zero r l
 have O:(r.alloc (.map #[] 0)).heap[w.heap.size]?=some (.cells #[.string (bs nm),.int .i64 (a:Int),.bool N,.slice G pn M,.slice y b H,.slice J L K] 65 (0,0)):=(Below.heap_alloc _ _ _ (by omega)).trans Z
 rw[P]at U
 obtain⟨k0,k1,k2,k3,X,k5⟩:=yP O
 have b5:=@run_makeMap Tryz.prog
 have HG:=zh hG
 have HP:=zh hP
 have HL:=zh hl
 have W:=zh O
 have HT:=zh U
 have A:=zh a2
 have b1:=zh P
 have b7:(pn:Int)<=1000:=by omega
 have b8:(b:Int)<=1000:=by omega
 clear hG hP hl O U a2 k0 k1 k2 X k5 Z
 go_enter Tryz.func83,Tryz.ntmps83
 go_wp2_with fail
 rw[<-B]
 have b9:w.heap.size+2<=(r.alloc (.map #[] 0)).heap.size:=by simp;omega
 generalize r.alloc (.map #[] 0)=w0 at *
 clear B b1 P r b5
 go_loopg [12] pn (fun k Y wr=>∃i:Nat,i<=pn/\k=pn-i/\Y=.int .i64 (i:Int)/\Hid (TM wr (w.heap.size+1) l i)/\Hid (Ext (w.heap.size+1) w0 wr))
 case atStart=>exact⟨0,by omega,by omega,rfl,HT,Ext.refl _ _⟩
 case round =>
  obtain⟨i,c2,hk,rfl,m,c⟩:=hrel
  have a3:=c.out.size
  by_cases b4:i<pn
  ·have a6:(i:Int)<(pn:Int):=by omega
   obtain⟨g,I,T,S,E,C,x⟩:=HG.out i b4
   rw[Nat.zero_add]at x
   subst T
   have b6:wr.cell? ⟨g,i,none⟩=some (.string (bs I)):=c.out.cell ((A.out.cell (p:=⟨g,i,none⟩) S).trans E) (by simp;omega)
   have a5:g<wr.heap.size:=by omega
   have D:=zh x
   have h:Hid (wr.drew.cell? ⟨w.heap.size,1,none⟩=some (.int .i64 (a:Int))):=c.out.cell (yP W.out).2.1 (by simp)
   clear E x
   by_cases u:I∈(l.take i).map (·.1)
   ·have t:=zh u
    clear u
    go_wp2_with fail
    go_region_held (fun w'=>w'.cell? ⟨w.heap.size,1,none⟩=some (.int .i64 (a:Int))) (with_reducible (first|exact F.out.elim|exact s.out|exact h.out)) (first|(go_at_call 116;refine(yS _).mono ?_;rintro e w2 ⟨rfl,f⟩;have d:Hid (Below wr.heap.size wr w2):=((Below.refl wr.heap.size wr).drew).trans f;have s:Hid (w2.cell? ⟨w.heap.size,1,none⟩=some (.int .i64 (a:Int))):=(f.cell (p:=⟨w.heap.size,1,none⟩) (zg h.out)).trans h.out;clear f)|(go_at_call 111;refine yo (ve (x2:=0) (x3:=-1) (m.out.on (d.out.block _ (by omega))) t.out C) ?hT ?_;(case hT=>(rintro e q ⟨o,n⟩;have V:=zh (m.out.dup D.out t.out);have z:Hid (Below w.heap.size w q):=((A.out.trans (zT c.out (by omega) (by omega))).trans (d.out.mono (by omega))).trans (n.mono (by have:=d.out.size;omega));have v:=zh (o.mono (B':=w.heap.size) (by have:=d.out.size;omega));obtain⟨ab,q1,rfl,q2,q3⟩:=o.out;refine⟨rfl,z.out,?_⟩;rw[V.out];exact v.out));intro F))
    exact F.out.elim
   ·have t:=zh u
    clear u
    go_wp2_with fail
    go_region_held3 (fun w'=>w'.cell? ⟨w.heap.size,1,none⟩=some (.int .i64 (a:Int))) (with_reducible (first|exact Q.out|exact s.out|exact h.out)) (first|(go_at_call 116;refine(yS _).mono ?_;rintro e w2 ⟨rfl,f⟩;have d:Hid (Below wr.heap.size wr w2):=((Below.refl wr.heap.size wr).drew).trans f;have s:Hid (w2.cell? ⟨w.heap.size,1,none⟩=some (.int .i64 (a:Int))):=(f.cell (p:=⟨w.heap.size,1,none⟩) (zg h.out)).trans h.out;clear f)|(go_at_call 111;refine(vd (x2:=0) (x3:=-1) (m.out.on (d.out.block _ (by omega))) D.out (by omega) t.out C).mono ?_;rintro e q ⟨rfl,o,n⟩;have v:=zh o;have R:Hid (Ext (w.heap.size+1) w0 q):=(c.out.trans (Ext.below d.out)).trans n;have Q:Hid (q.cell? ⟨w.heap.size,1,none⟩=some (.int .i64 (a:Int))):=n.cell s.out (by simp);clear o n))
    go_wp2_with fail
    go_roundg (pn-(i+1))
    case measure=>omega
    case rel=>exact⟨i+1,by omega,rfl,by go_num,v,R⟩
  ·have a6:¬(i:Int)<(pn:Int):=by omega
   have b2:i=pn:=by omega
   subst b2
   have X:wr.cell? ⟨w.heap.size,4,none⟩=some (.slice y b H):=c.out.cell (yP W.out).2.2.2.2.1 (by simp)
   have a8:w.heap.size<wr.heap.size:=by omega
   have a0:Hid (TM wr (w.heap.size+1) l (i+0)):=m
   have a1:=c
   clear m c HG k3 a3 HT
   go_wp2_with fail
   go_loopg [26] b (fun k Y wr=>∃j:Nat,j<=b/\k=b-j/\Y=.int .i64 (j:Int)/\Hid (TM wr (w.heap.size+1) l (i+j))/\Hid (Ext (w.heap.size+1) w0 wr))
   case atStart=>exact⟨0,by omega,by omega,rfl,a0,a1⟩
   case round =>
    obtain⟨j,c3,c4,rfl,m,c⟩:=hrel
    have a3:=c.out.size
    clear a0 a1 X a8
    by_cases a7:j<b
    ·have a4:(j:Int)<(b:Int):=by omega
     obtain⟨g,I,T,S,E,C,x⟩:=HP.out j a7
     subst T
     have b6:wr.cell? ⟨g,j,none⟩=some (.string (bs I)):=c.out.cell ((A.out.cell (p:=⟨g,j,none⟩) S).trans E) (by simp;omega)
     have a5:g<wr.heap.size:=by omega
     have D:=zh x
     have h:Hid (wr.drew.cell? ⟨w.heap.size,1,none⟩=some (.int .i64 (a:Int))):=c.out.cell (yP W.out).2.1 (by simp)
     clear E x
     by_cases u:I∈(l.take (i+j)).map (·.1)
     ·have t:=zh u
      clear u
      go_wp2_with fail
      go_region_held (fun w'=>w'.cell? ⟨w.heap.size,1,none⟩=some (.int .i64 (a:Int))) (with_reducible (first|exact F.out.elim|exact s.out|exact h.out)) (first|(go_at_call 116;refine(yS _).mono ?_;rintro e w2 ⟨rfl,f⟩;have d:Hid (Below wr.heap.size wr w2):=((Below.refl wr.heap.size wr).drew).trans f;have s:Hid (w2.cell? ⟨w.heap.size,1,none⟩=some (.int .i64 (a:Int))):=(f.cell (p:=⟨w.heap.size,1,none⟩) (zg h.out)).trans h.out;clear f)|(go_at_call 111;refine yo (ve (x2:=0) (x3:=-1) (m.out.on (d.out.block _ (by omega))) t.out C) ?hT ?_;(case hT=>(rintro e q ⟨o,n⟩;have V:=zh (m.out.dup D.out t.out);have z:Hid (Below w.heap.size w q):=((A.out.trans (zT c.out (by omega) (by omega))).trans (d.out.mono (by omega))).trans (n.mono (by have:=d.out.size;omega));have v:=zh (o.mono (B':=w.heap.size) (by have:=d.out.size;omega));obtain⟨ab,q1,rfl,q2,q3⟩:=o.out;refine⟨rfl,z.out,?_⟩;rw[V.out];exact v.out));intro F))
      exact F.out.elim
     ·have t:=zh u
      clear u
      go_wp2_with fail
      go_region_held3 (fun w'=>w'.cell? ⟨w.heap.size,1,none⟩=some (.int .i64 (a:Int))) (with_reducible (first|exact Q.out|exact s.out|exact h.out)) (first|(go_at_call 116;refine(yS _).mono ?_;rintro e w2 ⟨rfl,f⟩;have d:Hid (Below wr.heap.size wr w2):=((Below.refl wr.heap.size wr).drew).trans f;have s:Hid (w2.cell? ⟨w.heap.size,1,none⟩=some (.int .i64 (a:Int))):=(f.cell (p:=⟨w.heap.size,1,none⟩) (zg h.out)).trans h.out;clear f)|(go_at_call 111;refine(vd (x2:=0) (x3:=-1) (m.out.on (d.out.block _ (by omega))) D.out (by omega) t.out C).mono ?_;rintro e q ⟨rfl,o,n⟩;have v:Hid (TM q (w.heap.size+1) l (i+(j+1))):=o;have R:Hid (Ext (w.heap.size+1) w0 q):=(c.out.trans (Ext.below d.out)).trans n;have Q:Hid (q.cell? ⟨w.heap.size,1,none⟩=some (.int .i64 (a:Int))):=n.cell s.out (by simp);clear o n))
      go_wp2_with fail
      go_roundg (b-(j+1))
      case measure=>omega
      case rel=>exact⟨j+1,by omega,rfl,by go_num,v,R⟩
    ·have a4:¬(j:Int)<(b:Int):=by omega
     have b3:j=b:=by omega
     subst b3
     obtain⟨f1,f2⟩:=m.out.fin (by have:=HL.out;omega)
     have a9:=zh f1
     have b0:=zh f2
     have z:Hid (Below w.heap.size w wr):=A.out.trans (zT c.out (by omega) (by omega))
     clear f1 f2 m c
     go_wp2_with fail
     go_ret
     refine⟨z.out,?_⟩
     rw[a9.out]
     exact⟨_,_,rfl,by omega,by omega,b0.out⟩
end Go.Proofs.YtibncofnnlbmcaaGreatDoor
namespace Go.Proofs.YtibncofnnlbmcaaGreatDoor
open Go.RowKit Go.Sort
open Tp (Sy)
def encSy (s:Sy):List Value:=[.string (bs s.1),.int .i64 (s.2.1:Int),.int .i64 s.2.2]
def sycs (l:List Sy):List Value:=(l.map encSy).flatten
def cfS (x y:Sy):Int:=Lib.compareBytes x.1 y.1
def insS (l:List Sy) (a b:Nat):List Sy:=(Sort.insertionSort (ltOf cfS) l.toArray a b).toList
def srt (l:List Sy):List Sy:=insS l 0 l.length
theorem vt (s:Sy)(l:List Sy):sycs (s :: l)=encSy s++sycs l:=rfl
theorem sycs_app (l m:List Sy):sycs (l++m)=sycs l++sycs m:=by simp[sycs]
theorem sycs_len (l:List Sy):(sycs l).length=l.length*3:=by
 induction l with
 |nil=>rfl
 |cons s l ih=>rw[vt,List.length_append,ih];simp[encSy];omega
theorem sycs_get:∀(l:List Sy) (i:Nat) (h:i<l.length) (j:Nat),j<3->(sycs l)[i*3+j]?=(encSy l[i])[j]?:=by
 intro l
 induction l with
 |nil=>intro i h;simp at h
 |cons s l ih =>
  intro i h j a
  rw[vt]
  cases i with
  |zero=>rw[Nat.zero_mul,Nat.zero_add,List.getElem?_append_left (by simpa[encSy] using a)];rfl
  |succ i =>
   rw[List.getElem?_append_right (by simp[encSy];omega)]
   have:(i+1)*3+j-(encSy s).length=i*3+j:=by simp[encSy];omega
   rw[this,ih i (by simpa using h) j a]
   rfl
theorem uh (d:Array Sy):(flatK encSy 3 d).toList=sycs d.toList:=by
 apply List.ext_getElem?
 intro t
 by_cases f:t<d.size*3
 ·have b:t / 3<d.size:=by omega
  have c:t % 3<3:=Nat.mod_lt _ (by omega)
  have e:t=(t / 3)*3+t % 3:=by omega
  have a:=sycs_get d.toList (t / 3) (by simpa using b) (t % 3) c
  rw[<-e]at a
  rw[a,Array.getElem?_toList]
  rw[flatK]
  rw[Array.getElem?_map,Array.getElem?_range]
  simp only[f,if_true,Option.map_some]
  rw[getElem!_pos d (t / 3) b]
  rw[List.getElem?_eq_getElem (by simp[encSy];omega),getElem!_pos _ _ (by simp[encSy];omega)]
  simp
 ·rw[List.getElem?_eq_none (by simp;omega),List.getElem?_eq_none (by rw[sycs_len];simp;omega)]
structure SyRow (w:World) (g:Nat) (cap:Nat) (l:List Sy):Prop where
 b:∃cur,w.heap[g]?=some (.cells cur 205 (0,0))/\cur.size=cap*3/\cur.toList.take (l.length*3)=sycs l
 n:l.length<=cap
 m:cap<=maxLen
theorem SyRow.holds {w:World}{g cap:Nat}{l:List Sy}(h:SyRow w g cap l):HoldsK encSy 3 w g 0 l.toArray:=by
 obtain⟨k,c,m,i⟩:=h.b
 intro j a
 have d:j<l.length*3:=by simpa using a
 refine⟨?_,zi c⟩
 rw[za c,Nat.zero_add,<-Array.getElem?_toList,<-List.getElem?_take_of_lt d,i]
 have e:=uh l.toArray
 have f:(sycs l)[j]?=(flatK encSy 3 l.toArray).toList[j]?:=by rw[e]
 rw[f,Array.getElem?_toList,Array.getElem?_eq_getElem a,getElem!_pos (flatK encSy 3 l.toArray) j a]
 rfl
theorem SyRow.sorted {w:World}{g cap n:Nat}{l:List Sy}{d:Array Sy}{os:Array Obj}(h:SyRow w g cap l)(u:d.size=l.length):SyRow (sortWorldK encSy 3 w g 0 n d os) g cap d.toList/\w.grownBy (sortWorldK encSy 3 w g 0 n d os) (some g):=by
 obtain⟨f,i,o,v⟩:=h.b
 have s:=zf i
 have x:=h.n
 have r:(flatK encSy 3 d).size=d.size*3:=size_flatK _ _ _
 refine⟨⟨⟨putCells id 0 (flatK encSy 3 d) f,?_,by simp[putCells,o],?_⟩,by simpa[u] using h.n,h.m⟩,⟨rfl,rfl,rfl,by simp[sortWorldK,putRowK],fun k t q=>?_⟩⟩
 ·unfold sortWorldK putRowK
  rw[heap_grow_old _ _ (by simpa using s)]
  simp[putRow,mapBlock,Sort.ahead,Array.getElem?_modify,i,onCells]
 ·rw[<-uh]
  apply List.ext_getElem?
  intro j
  by_cases a:j<d.toList.length*3
  ·have c:j<(flatK encSy 3 d).size:=by rw[r];simpa using a
   have p:j<f.size:=by rw[o];simp at a;omega
   rw[List.getElem?_take_of_lt a,Array.getElem?_toList,Array.getElem?_toList,Array.getElem?_eq_getElem c]
   simp only[putCells,Array.getElem?_mapIdx,Array.getElem?_eq_getElem p,Option.map_some,Nat.zero_le,true_and,Nat.zero_add,if_pos c,Nat.sub_zero,id]
   rw[getElem!_pos (flatK encSy 3 d) j c]
  ·rw[List.getElem?_take_eq_none (by omega),List.getElem?_eq_none (by simp at a ⊢;omega)]
 ·unfold sortWorldK putRowK
  rw[heap_grow_old _ _ (by simpa using t)]
  have:g≠k:=fun e=>q (by rw[e])
  simp[putRow,mapBlock,Sort.ahead,Array.getElem?_modify,this]
theorem ofCmp_post (x y:Sy)(W:World):Calls Tryz.prog 118 #[.agg (encSy x).toArray,.agg (encSy y).toArray] W fun e w'=>e=.returned (.int .i64 (cfS x y))/\∃q os',w'=grow (W.drewN q) os':=by
 have a:∀W,Calls Tryz.prog 119 #[.string (bs x.1),.string (bs y.1)] W fun e w'=>e=.returned (.int .i64 (cfS x y))/\w'=W:=by
  intro W
  have:=Any.strings_Compare Tryz.laysCmp (bs x.1) (bs y.1) W
  rw[bs_back,bs_back]at this
  exact this
 generalize cfS x y=r at a ⊢
 have b:=zh a
 clear a
 unfold encSy
 go_enter Tryz.func118,Tryz.ntmps118
 go_wp2_with (go_at_call 119;refine(b.out _).mono ?_;rintro e w' ⟨rfl,rfl⟩)
 go_ret
 exact⟨rfl,0,_,by rw[alloc_eq_grow,alloc_eq_grow,grow_grow];rfl⟩
theorem kN {b:Sy->Sy->Bool}(a:Nat):∀(j:Nat) (d:Array Sy),(Sort.insInner b a j d).size=d.size:=by
 intro j
 induction j with
 |zero=>intro d;rfl
 |succ j ih =>
  intro d
  rw[Sort.insInner]
  split
  ·rw[ih];simp[swp]
  ·rfl
theorem xR {c:Sy->Sy->Bool}(a b:Nat):∀(k i:Nat) (d:Array Sy),b-i=k->(Sort.insOuter c a b i d).size=d.size:=by
 intro k
 induction k with
 |zero=>intro i d h;rw[Sort.insOuter,if_neg (by omega)]
 |succ k ih =>
  intro i d h
  rw[Sort.insOuter]
  split
  ·rw[ih (i+1) _ (by omega),kN]
  ·rfl
theorem insS_len (l:List Sy)(a b:Nat):(insS l a b).length=l.length:=by
 unfold insS Sort.insertionSort
 rw[Array.length_toList,xR a b _ _ _ rfl]
 simp
theorem insS_none (l:List Sy)(a:Nat):insS l a a=l:=by
 unfold insS Sort.insertionSort
 rw[Sort.insOuter,if_neg (by omega)]
theorem kX (l:List Sy):(srt l).length=l.length:=insS_len _ _ _
theorem cmpLays (a b size:Nat)(w:World):CmpLays Tryz.prog 118 #[] encSy 3 cfS a b size w:=fun _ _ _ _ x y=>ofCmp_post x y _
def fnCmp:Value:=.func (.func 118) #[] #[]
theorem xQ {w:World}{g cap:Nat}{l:List Sy}(h:SyRow w g cap l)(a b:Nat)(j:a<=b)(o:b<=l.length)(r:l.length<=1000) :
  Calls Tryz.prog 168 #[.slice (some ⟨g,0,none⟩) l.length cap,.int .i64 (a:Int),.int .i64 (b:Int),fnCmp] w fun e w'=>e=.returned (.tuple #[])/\SyRow w' g cap (insS l a b)/\w.grownBy w' (some g):=by
 have k:∀args w,(callFunc 118 args).run Tryz.prog w=.ok (.enter 118 args) w:=enters_of Tryz.func118 (by kernel_rfl) rfl
 have p:g<w.heap.size:=by obtain⟨q,m,_⟩:=h.b;exact zf m
 have c:=AnyQ.insertionSortCmpFunc Tryz.laysIns 3 Tryz.isAgg205 Tryz.sizeOf205 encSy (fun _=>rfl) (fun x v i=>by simp[encSy]at i;rcases i with rfl|rfl|rfl<;>rfl) cfS 118 #[] g 0 cap a b l.toArray w k (cmpLays _ _ _ _) h.holds p j (by simpa using o) (by simp;omega)
 have e:(l.toArray).size=l.length:=by simp
 rw[e]at c
 refine c.mono ?_
 rintro e w'⟨rfl,n,os,rfl⟩
 have f:=h.sorted (d:=Sort.insertionSort (ltOf cfS) l.toArray a b) (n:=n) (os:=os) (by rw[<-Array.length_toList];exact insS_len l a b)
 exact⟨rfl,f.1,f.2⟩
theorem vz {w:World}{g cap:Nat}{l:List Sy}(h:SyRow w g cap l)(i:l.length<20) :
  Calls Tryz.prog 147 #[.slice (some ⟨g,0,none⟩) l.length cap,.int .i64 (l.length:Int),fnCmp] w fun e w'=>e=.returned (.tuple #[])/\SyRow w' g cap (srt l)/\w.grownBy w' (some g):=by
 have c:=xQ h 0 l.length (by omega) zn (by omega)
 have a:Hid (Calls Tryz.prog 168 #[.slice (some ⟨g,0,none⟩) l.length cap,.int .i64 0,.int .i64 (l.length:Int),fnCmp] w fun e w'=>e=.returned (.tuple #[])/\SyRow w' g cap (srt l)/\w.grownBy w' (some g)):=c
 have f:(l.length:Int)<20:=by omega
 clear c h
 generalize l.length=n at *
 unfold fnCmp at a ⊢
 go_enter Tryz.func147,Tryz.ntmps147
 go_wp2_with fail
 refine wp_loop_rounds 1 ?_
 rw[rounds_succ]
 go_wp2_with fail
 refine a.out.mono ?_
 rintro e j⟨rfl,b⟩
 have d:=zh b
 clear b
 go_wp2_with fail
 refine wp_loop_rounds 1 ?_
 rw[rounds_succ]
 go_wp2_with fail
 go_end0
 exact⟨rfl,d.out⟩
theorem stable_20 {w:World}{g cap:Nat}{l:List Sy}(h:SyRow w g cap l)(b:l.length=20) :
  Calls Tryz.prog 147 #[.slice (some ⟨g,0,none⟩) 20 cap,.int .i64 20,fnCmp] w fun e w'=>e=.returned (.tuple #[])/\SyRow w' g cap (srt l)/\w.grownBy w' (some g):=by
 have a:=xQ h 0 20 (by omega) (by omega) (by omega)
 have r:insS l 0 20=srt l:=by unfold srt;rw[b]
 rw[b,r]at a
 have j:Hid (Calls Tryz.prog 168 #[.slice (some ⟨g,0,none⟩) 20 cap,.int .i64 0,.int .i64 20,fnCmp] w fun e w'=>e=.returned (.tuple #[])/\SyRow w' g cap (srt l)/\w.grownBy w' (some g)):=a
 have i:∀W,SyRow W g cap (srt l)->Calls Tryz.prog 168 #[.slice (some ⟨g,0,none⟩) 20 cap,.int .i64 20,.int .i64 20,fnCmp] W fun e w'=>e=.returned (.tuple #[])/\SyRow w' g cap (srt l)/\W.grownBy w' (some g):=by
  intro W s
  have:=xQ s 20 20 (by omega) (by rw[kX];omega) (by rw[kX];omega)
  rw[insS_none,kX,b]at this
  exact this
 have c:=zh i
 clear a i h
 unfold fnCmp at j c ⊢
 go_enter Tryz.func147,Tryz.ntmps147
 go_wp2_with fail
 refine wp_loop_rounds 2 ?_
 rw[rounds_succ]
 go_wp2_with fail
 refine j.out.mono ?_
 rintro e t⟨rfl,k,d⟩
 have p:=zh k
 have n:=zh d
 clear k d
 go_wp2_with fail
 rw[rounds_succ]
 go_wp2_with fail
 refine(c.out t p.out).mono ?_
 rintro e w2⟨rfl,m,f⟩
 have q:=zh m
 have o:=zh (n.out.trans f)
 clear m f
 go_wp2_with fail
 refine wp_loop_rounds 1 ?_
 rw[rounds_succ]
 go_wp2_with fail
 go_end0
 exact⟨rfl,q.out,o.out⟩
theorem ins_nil (w:World):Calls Tryz.prog 168 #[.slice none 0 0,.int .i64 0,.int .i64 0,fnCmp] w fun e w'=>e=.returned (.tuple #[])/\w'=w:=by
 unfold fnCmp
 go_enter Tryz.func168,Tryz.ntmps168
 go_wp2_with fail
 refine wp_loop_rounds 1 ?_
 rw[rounds_succ]
 go_wp2_with fail
 go_end0
 exact⟨rfl,rfl⟩
theorem stable_nil (w:World):Calls Tryz.prog 147 #[.slice none 0 0,.int .i64 0,fnCmp] w fun e w'=>e=.returned (.tuple #[])/\w'=w:=by
 have a:=zh (ins_nil w)
 unfold fnCmp at a ⊢
 go_enter Tryz.func147,Tryz.ntmps147
 go_wp2_with fail
 refine wp_loop_rounds 1 ?_
 rw[rounds_succ]
 go_wp2_with fail
 refine a.out.mono ?_
 rintro e b⟨rfl,rfl⟩
 go_wp2_with fail
 refine wp_loop_rounds 1 ?_
 rw[rounds_succ]
 go_wp2_with fail
 go_end0
 exact⟨rfl,rfl⟩
theorem sort_post {w:World}{g cap:Nat}{l:List Sy}(h:SyRow w g cap l)(i:l.length<=20) :
  Calls Tryz.prog 117 #[.slice (some ⟨g,0,none⟩) l.length cap,fnCmp] w fun e w'=>e=.returned (.tuple #[])/\SyRow w' g cap (srt l)/\w.grownBy w' (some g):=by
 have c:Calls Tryz.prog 147 #[.slice (some ⟨g,0,none⟩) l.length cap,.int .i64 (l.length:Int),fnCmp] w fun e w'=>e=.returned (.tuple #[])/\SyRow w' g cap (srt l)/\w.grownBy w' (some g):=by
  by_cases d:l.length<20
  ·exact vz h d
  ·have e:l.length=20:=by omega
   have:=stable_20 h e
   rw[e]
   exact this
 have a:=zh c
 clear c h
 generalize l.length=n at *
 unfold fnCmp at a ⊢
 go_enter Tryz.func117,Tryz.ntmps117
 go_wp2_with fail
 refine a.out.mono ?_
 rintro e j⟨rfl,b⟩
 have f:=zh b
 clear b
 go_wp2_with fail
 go_end0
 exact⟨rfl,f.out⟩
theorem sort_nil (w:World):Calls Tryz.prog 117 #[.slice none 0 0,fnCmp] w fun e w'=>e=.returned (.tuple #[])/\w'=w:=by
 have a:=zh (stable_nil w)
 unfold fnCmp at a ⊢
 go_enter Tryz.func117,Tryz.ntmps117
 go_wp2_with fail
 refine a.out.mono ?_
 rintro e b⟨rfl,rfl⟩
 go_wp2_with fail
 go_end0
 exact⟨rfl,rfl⟩
end Go.Proofs.YtibncofnnlbmcaaGreatDoor
