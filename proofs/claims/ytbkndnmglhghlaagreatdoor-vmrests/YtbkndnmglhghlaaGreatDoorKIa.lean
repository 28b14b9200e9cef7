import Derived.Test.YtbkndnmglhghlaaGreatDoorKJd
import Derived.Test.YtbkndnmglhghlaaGreatDoorKBa
import Derived.Test.YtbkndnmglhghlaaGreatDoorKVa
set_option maxRecDepth 100000
set_option maxHeartbeats 4000000

namespace Go.Proofs.YtbkndnmglhghlaaGreatDoor.Jo
open Go.RowKit Go.Maps
open Ob (O In I64)
open Vm (St Fr Pl)
variable {k:Int->St->St}{vv:List (List Int)}{xs:List Value}{a b cap e g n size:Nat}{o:Obj}{s:St}{A D d j sv t u v y z:Value}{W f w:World}
def ints (l:List Int):List Value:=l.map fun n=>.int .i64 n
theorem jw (l:List Int):(ints l).length=l.length:=by simp[ints]
theorem kX (l:List Int)(n:Int):ints (l++[n])=ints l++[.int .i64 n]:=by simp[ints]
theorem ints_get (l:List Int)(i:Nat)(h:i<l.length):(ints l)[i]?=some (.int .i64 l[i]):=by simp[ints,h]
theorem ints_set (l:List Int)(i:Nat)(n:Int):ints (l.set i n)=(ints l).set i (.int .i64 n):=by simp[ints]
structure Vx where
 w0:World
 gb:Nat
 pb:Nat
 vb:Nat
 tb:Nat
 ob:Nat
 oo:Nat
 O:O
 most:Nat
 vs:Nat->Nat
 va:Option Addr
 vc:Nat
 eb:Nat->Option Obj
def Vx.vl (c:Vx) (i:Nat):Nat:=(max 1 ((c.O.vars[i]?.map fun g:Ob.Gl=>g.len).getD 1)).toNat
def Vx.vsl (c:Vx) (i:Nat):Value:=.slice (some ⟨c.vs i,0,none⟩) (c.vl i) (c.vl i)
structure VxOk (c:Vx):Prop where
 oa:Jo.OA c.w0 c.ob c.oo c.O
 rt:Ob.rightB c.O=true
 i64:∀x∈c.O.code,I64 x.a
 us:c.O.uses=[]
 gb:c.w0.heap.size<=c.gb
 pb:c.w0.heap.size<=c.pb/\c.pb≠c.gb
 vb:c.w0.heap.size<=c.vb/\c.vb≠c.gb
 vs:∀i,i<c.O.vars.length->c.w0.heap.size<=c.vs i/\c.vs i<c.gb/\c.vs i≠c.pb/\c.vs i≠c.vb
 inj:∀i j,i<c.O.vars.length->j<c.O.vars.length->c.vs i=c.vs j->i=j
 ml:c.most<=31
 gm:2<c.w0.heap.size
 mrk:∀i,i<11->c.w0.cell? ⟨2,i,none⟩=some (.string (bs (Vm.marks8.getD i [])))
def frC (c:Vx) (f:Fr):List Value:=[.pointer (some ⟨c.pb,0,none⟩),.int .i64 (f.at':Int),.int .i64 (f.base:Int),.int .i64 (f.many:Int)]++ints f.locals
def frs (c:Vx) (l:List Fr):List Value:=(l.reverse.map (frC c)).flatten
theorem kA (c:Vx)(f:Fr)(l:List Fr):frs c (f :: l)=frs c l++frC c f:=by simp[frs]
def thr (o:O) (vv:List (List Int)):Tp.Bs->Option Pl:=fun m=>if m=o.name then some ⟨o,vv⟩ else none
structure FrOk (c:Vx) (f:Fr):Prop where
 of:f.of=c.O.name
 ll:f.locals.length=10
 li:∀v∈f.locals,I64 v
 mn:f.many<=10
 at':f.at'<=4000
 bs:f.base<=10000
def Wet (e:Nat):Prop:=e=84\/e=81\/e=2
def Far (o:Obj):Prop:=∀cs e f,o=.cells cs e f->¬Wet e
structure MM (c:Vx) (W:World) (s:St) (vv:List (List Int)) (fv sv ov:Value):Prop where
 be:Below c.w0.heap.size c.w0 W
 pk:W.heap[c.pb]?=some (.cells #[.pointer (some ⟨c.ob,c.oo,none⟩),.slice c.va c.O.vars.length c.vc] 109 (0,0))
 vk:Row W (fun b=>b=c.vb) 29 1 (.slice c.va c.O.vars.length c.vc) c.O.vars.length ((List.range c.O.vars.length).map c.vsl)
 th:s.there=thr c.O vv
 vn:vv.length=c.O.vars.length
 vm:∀i (h:i<vv.length),vv[i].length=c.vl i/\W.heap[c.vs i]?=some (.cells (ints vv[i]).toArray 2 (0,0))/\∀v∈vv[i],I64 v
 fr:W.ownsRow c.w0.heap.size 81 14 fv s.frames.length (frs c s.frames)
 st:W.ownsRow (c.gb+1) 2 1 sv s.stack.length (ints s.stack.reverse)
 ou:W.ownsRow (c.gb+1) 2 1 ov s.out.length (ints s.out)
 dj:∀b,sv.ownBlock=some b->ov.ownBlock≠some b
 sl:s.stack.length<=10000
 si:∀v∈s.stack,I64 v
 ol:s.out.length<=200
 oi:∀v∈s.out,I64 v
 fl:s.frames.length<=31
 fm:s.frames.length<=c.most
 ff:∀f∈s.frames,FrOk c f
 ek:∀b o,c.eb b=some o->W.heap[b]?=some o/\Far o
def G8 (c:Vx) (W:World) (fv sv ov:Value) (way:Nat):Prop:=W.heap[c.gb]?=some (.cells #[.map (some c.tb),fv,.int .i64 (c.most:Int),sv,ov,.int .i64 (way:Int)] 84 (0,0))
def MV (c:Vx) (W:World) (s:St):Prop:=∃vv fv sv ov,MM c W s vv fv sv ov/\G8 c W fv sv ov s.way
theorem vU {c:Nat}{d cs':Array Value}(h:w.heap[b]?=some (.cells d e (0,0)))(f:w.heap[a]?=some (.cells cs' c (0,0)))(g:e≠c):b≠a:=fun q=>by
 rw[q,f]at h
 injection h with h
 injection h with _ h
 exact g h.symm
theorem jo (h:w.heap[b]?=some o):b<w.heap.size:=by
 rcases Nat.lt_or_ge b w.heap.size with q|q
 ·exact q
 ·rw[Array.getElem?_eq_none q]at h;cases h
theorem jD {c:Nat}{d:Array Value}(h:w.heap[b]?=some o/\Far o)(f:w.heap[c]?=some (.cells d e (0,0)))(g:Wet e):b≠c:=fun q=>by
 have a:=h.1
 rw[q,f]at a
 injection a with a
 exact h.2 _ _ _ a.symm g
theorem xL (h:w.ownsRow a e size v n xs)(c:w.heap[b]?=some o/\Far o)(d:Wet e):v.ownBlock≠some b:=by
 intro q
 rcases h.2 with⟨rfl,_⟩|⟨g',cap,cur,rfl,_,h2,_⟩
 ·cases q
 ·cases q
  exact jD c h2 d rfl
theorem ym {c:Nat}{d:Array Value}(h:w.ownsRow c e size v n xs)(a:w.heap[g]?=some (.cells d b (0,0)))(f:e≠b):v.ownBlock≠some g:=by
 intro q
 rcases h.2 with⟨rfl,_⟩|⟨g',cap,cur,rfl,_,h2,_⟩
 ·cases q
 ·cases q
  rw[h2]at a
  injection a with a
  injection a with _ a
  exact f a
theorem jf {d base' c l:Nat}{b:Value}{f:List Value}(h:w.ownsRow d e size v n xs)(i:w.ownsRow base' a c b l f)(j:e≠a)(k:v.ownBlock=some g):b.ownBlock≠some g:=by
 intro q
 rcases i.2 with⟨rfl,_⟩|⟨g',cap,cur,rfl,_,h2,_⟩
 ·cases q
 ·cases q
  exact ym h h2 j k
theorem yD {w':World}{D:Nat->Prop}{c:List Value}(h:Row w D e size v n c)(k:∀b a,D b->w.heap[b]?=some (.cells a e (0,0))->w'.heap[b]?=w.heap[b]?):Row w' D e size v n c:=by
 rcases h with h|⟨g,cap,a,i,d,f,j⟩
 ·exact Or.inl h
 ·exact Or.inr ⟨g,cap,a,i,d,(k g a d f).trans f,j⟩
variable {c:Vx}
theorem MM.on {n:Value}{t:Array Value}(h:MM c W s vv j sv n)(ok:VxOk c)(l:W.heap[c.gb]?=some (.cells t 84 (0,0)))(r:Below c.w0.heap.size c.w0 f)(k:∀b,b<W.heap.size->b≠c.gb->f.heap[b]?=W.heap[b]?):MM c f s vv j sv n:=by
 refine⟨r,(k _ (zc h.pk) ok.pb.2).trans h.pk,yD h.vk fun b w a u=>k b (zc u) (a ▸ ok.vb.2),h.th,h.vn,fun i m=>?_,?_,?_,?_,h.dj,h.sl,h.si,h.ol,h.oi,h.fl,h.fm,h.ff,fun b o a=>⟨(k _ (jo (h.ek b o a).1) (jD (h.ek b o a) l (by unfold Wet;decide))).trans (h.ek b o a).1,(h.ek b o a).2⟩⟩
 ·obtain⟨p,g,q⟩:=h.vm i m
  have:=(ok.vs i (by rw[<-h.vn];exact m)).2.1
  exact⟨p,(k _ (zc g) (by omega)).trans g,q⟩
 ·exact zB h.fr fun b _ d v=>k b d fun e=>ym h.fr l (by decide) (e ▸ v)
 ·exact zB h.st fun b q0 d _=>k b d (by omega)
 ·exact zB h.ou fun b q0 d _=>k b d (by omega)
theorem MM.below {a:World}{e:Value}{f:Array Value}(h:MM c W s vv d sv e)(ok:VxOk c)(i:W.heap[c.gb]?=some (.cells f 84 (0,0)))(k:Below W.heap.size W a):MM c a s vv d sv e :=
 h.on ok i (h.be.trans (k.mono h.be.size)) fun b g _=>k.block b g
theorem MV.below {c:Vx}{W b:World}{s:St}(h:MV c W s)(ok:VxOk c)(k:Below W.heap.size W b):MV c b s:=by
 obtain⟨vv,d,sv,f,e,a⟩:=h
 exact⟨vv,d,sv,f,e.below ok a k,(k.block _ (zc a)).trans a⟩
theorem MM.gcell {a:Value}{e:Array Value}(h:MM c W s vv a sv d)(ok:VxOk c)(g:W.heap[c.gb]?=some (.cells e 84 (0,0)))(j:Nat)(u:Value):MM c (W.setCell ⟨c.gb,j,none⟩ u) s vv a sv d :=
 h.on ok g (h.be.setCell ok.gb _) fun b _ f=>Below.heap_setCell _ _ _ _ (by simpa using f)
theorem MM.end {a b:Value}(h:MM c W s vv a sv b)(n:Nat):MM c W (Vm.ended n s) vv a sv b :=
 ⟨h.be,h.pk,h.vk,h.th,h.vn,h.vm,h.fr,h.st,h.ou,h.dj,h.sl,h.si,h.ol,h.oi,h.fl,h.fm,h.ff,h.ek⟩
theorem MV.end {c:Vx}{W:World}{s:St}{vv:List (List Int)}{a sv b:Value}{e:Nat}(h:MM c W s vv a sv b)(ok:VxOk c)(d:G8 c W a sv b e)(n:Nat):MV c (W.setCell ⟨c.gb,5,none⟩ (.int .i64 (n:Int))) (Vm.ended n s) :=
 ⟨vv,a,sv,b,(h.gcell ok d 5 _).end n,zy 5 _ d⟩
theorem own_less {c k:Nat}{ys:List Value}{a:Option Addr}(h:w.ownsRow c e b v n (xs++ys))(d:v=.slice a n cap)(f:xs.length=k*b)(j:k<=n):w.ownsRow c e b (.slice a k cap) k xs:=by
 refine⟨f,?_⟩
 rcases h.2 with⟨q,l⟩|⟨g,cap',cur,q,q1,q2,q3,q4,q5,q6⟩
 ·rw[d]at q
  cases q
  exact Or.inl ⟨by rw[show k=0 by omega],by omega⟩
 ·rw[d]at q
  cases q
  refine Or.inr ⟨g,_,cur,rfl,q1,q2,by omega,q4,q5,?_⟩
  have i:k*b<=n*b:=Nat.mul_le_mul_right _ j
  have:=congrArg (List.take (k*b)) q6
  rw[List.take_take,Nat.min_eq_left i]at this
  rw[this,<-f,List.take_left]
theorem MM.less {i k:Value}{g:Option Addr}(h:MM c W s vv i (.slice g n cap) k){r t:List Int}(d:s.stack=t++r):MM c W { s with stack:=r } vv i (.slice g r.length cap) k:=by
 have f:=h.st
 obtain⟨p,q,e⟩:=z7 f
 have l:n=s.stack.length:=by cases e;rfl
 have m:ints s.stack.reverse=ints r.reverse++ints t.reverse:=by rw[d];simp[ints]
 rw[m]at f
 refine⟨h.be,h.pk,h.vk,h.th,h.vn,h.vm,h.fr,own_less f (by rw[l]) (by simp[ints]) (by rw[d,List.length_append];omega),h.ou,fun b j=>?_,?_,fun v o=>h.si v (by rw[d];exact List.mem_append.2 (Or.inr o)),h.ol,h.oi,h.fl,h.fm,h.ff,h.ek⟩
 ·rcases g with _|a
  ·cases j
  ·exact h.dj b j
 ·have:=h.sl
  rw[d,List.length_append]at this
  show r.length<=10000
  omega
structure Kg (c:Vx) (W W':World):Prop where
 be:Below c.w0.heap.size W W'
 block:∀b,b<W.heap.size->b≠c.gb->W'.heap[b]?=W.heap[b]?
theorem Kg.below {a:World}(h:Below W.heap.size W a)(e:c.w0.heap.size<=W.heap.size):Kg c W a:=⟨h.mono e,fun b d _=>h.block b d⟩
theorem Kg.trans {c:Vx}{a d e:World}(h:Kg c a d)(k:Kg c d e):Kg c a e:=⟨h.be.trans k.be,fun b f g=>(k.block b (Nat.lt_of_lt_of_le f h.be.size) g).trans (h.block b f g)⟩
theorem Kg.set {a:World}(h:Kg c W a)(ok:VxOk c)(j:Nat)(u:Value):Kg c W (a.setCell ⟨c.gb,j,none⟩ u):=⟨h.be.setCell ok.gb _,fun b e d=>(Below.heap_setCell _ _ _ _ (by simpa using d)).trans (h.block b e d)⟩
theorem ju (h:w.ownsRow a e size v n xs)(d:0<n):∃g cap,v=.slice (some ⟨g,0,none⟩) n cap/\a<=g/\g<w.heap.size/\n<=cap/\∀k,k<n*size->w.cell? ⟨g,k,none⟩=xs[k]?:=by
 rcases h.2 with⟨_,b⟩|⟨g,cap,cur,h1,b,h3,h4,h5,h6,h7⟩
 ·omega
 ·refine⟨g,cap,h1,b,zc h3,h4,fun k c=>?_⟩
  rw[za h3,<-Array.getElem?_toList,<-h7,List.getElem?_take_of_lt c]
theorem uB (c:Vx)(l:List Fr)(h:∀f∈l,f.locals.length=10):(frs c l).length=l.length*14:=by
 induction l with
 |nil=>rfl
 |cons f l ih =>
  rw[kA,List.length_append,ih fun x a=>h x (List.mem_cons_of_mem _ a),List.length_cons]
  have:=h f (by simp)
  simp[frC,ints,this]
  omega
theorem MM.top {r:Value}(h:MM c W s vv d sv r){f:Fr}{fs:List Fr}(o:s.frames=f :: fs):∃fb cap,d=.slice (some ⟨fb,0,none⟩) (fs.length+1) cap/\fb<W.heap.size/\fs.length+1<=cap/\∀j u,(frC c f)[j]?=some u->W.cell? ⟨fb,fs.length*14+j,none⟩=some u:=by
 have b:=h.fr
 have a:=h.ff
 rw[o]at b a
 obtain⟨g,cap,k,v,l,m,n⟩:=ju b (by simp)
 refine⟨g,cap,k,l,by simpa using m,fun j u e=>?_⟩
 have p:(frs c fs).length=fs.length*14:=uB c fs fun x q=>(a x (List.mem_cons_of_mem _ q)).ll
 have i:(frC c f).length=14:=by have:=(a f (by simp)).ll;simp[frC,ints,this]
 have t:j<14:=by rw[<-i];exact(List.getElem?_eq_some_iff.1 e).1
 rw[n _ (by simp only[List.length_cons];omega),kA,List.getElem?_append_right (by omega),p,Nat.add_sub_cancel_left]
 exact e
theorem last8 {a g:Value}{i:Nat}(h:MM c W s vv a sv g)(b:G8 c W a sv g i){f:Fr}{fs:List Fr}(d:s.frames=f :: fs){fb cap:Nat}(k:a=.slice (some ⟨fb,0,none⟩) (fs.length+1) cap) :
  Calls Tryz.prog 100 #[.pointer (some ⟨c.gb,0,none⟩)] W fun e j=>e=.returned (.pointer (some ⟨fb,fs.length*14,none⟩))/\Below W.heap.size W j:=by
 subst k
 have p:W.cell? ⟨c.gb,1,none⟩=some (.slice (some ⟨fb,0,none⟩) (fs.length+1) cap):=(za b).trans rfl
 have l:=zc b
 have o:(fs.length:Int)<=30:=by have:=h.fl;rw[d,List.length_cons]at this;omega
 clear h b d
 generalize fs.length=n at *
 have m:((n+1:Nat):Int)=(n:Int)+1:=by omega
 go_enter Tryz.func100,Tryz.ntmps100
 go_wp2_with fail
 go_quiet (fail)
 go_wp2_with fail
 go_ret
 exact⟨rfl,below_drewN W nq⟩
def TakeP (c:Vx) (W:World) (s:St) (f:Fr) (vv:List (List Int)) (fv sv ov:Value) (e:Ending) (W':World):Prop:=Kg c W W'/\if s.stack.length<=f.base then e=.returned (.tuple #[.int .i64 0,.bool false])/\MM c W' s vv fv sv ov/\G8 c W' fv sv ov 8 else ∃n r sv',s.stack=n :: r/\e=.returned (.tuple #[.int .i64 n,.bool true])/\MM c W' { s with stack:=r } vv fv sv' ov/\G8 c W' fv sv' ov s.way
theorem take8 {x:Value}(h:MM c W s vv x sv A)(ok:VxOk c)(d:G8 c W x sv A s.way){f:Fr}{fs:List Fr}(z:s.frames=f :: fs) :
  Calls Tryz.prog 102 #[.pointer (some ⟨c.gb,0,none⟩)] W (TakeP c W s f vv x sv A):=by
 obtain⟨fb,cap,H,C,a0,G⟩:=h.top z
 have O:=zh (last8 h d z H)
 obtain⟨P,sc,V⟩:=z7 h.st
 subst V
 have k3:W.cell? ⟨c.gb,3,none⟩=some (.slice P s.stack.length sc):=(za d).trans rfl
 have D:=zc d
 have E:W.cell? ⟨fb,fs.length*14+2,none⟩=some (.int .i64 (f.base:Int)):=G 2 _ rfl
 have a3:=(h.ff f (by rw[z];simp)).bs
 have U:=h.sl
 by_cases l:s.stack.length<=f.base
 ·have L:(s.stack.length:Int)-1<(f.base:Int):=by omega
  have B:Hid (∀b,Below W.heap.size W b->TakeP c W s f vv x (.slice P s.stack.length sc) A (.returned (.tuple #[.int .i64 0,.bool false])) (b.setCell ⟨c.gb,5,none⟩ (.int .i64 8))/\b.heap[c.gb]?=W.heap[c.gb]?):=fun b i=>by
   have e:=i.block _ D
   refine⟨⟨(Kg.below i h.be.size).set ok 5 _,?_⟩,e⟩
   rw[if_pos l]
   exact⟨rfl,(h.below ok d i).gcell ok (e.trans d) 5 _,zy 5 _ (e.trans d)⟩
  have k:=zh d
  have F:=zh (fun b (i:Below W.heap.size W b)=>(i.cell (p:=⟨fb,fs.length*14+2,none⟩) C).trans E)
  clear h d z H G l ok E
  generalize s.stack.length=m at *
  generalize (f.base:Int)=bs' at *
  generalize fs.length=q at *
  have Y:(m:Int)<=10000:=by omega
  go_enter Tryz.func102,Tryz.ntmps102
  go_wp2_with fail
  refine O.out.mono ?_
  rintro e a⟨rfl,g⟩
  obtain⟨u,j⟩:=B.out a g
  have I:=zh u
  have X:=F.out a g
  have Q:fb<a.heap.size:=Nat.lt_of_lt_of_le C g.size
  have R:c.gb<a.heap.size:=Nat.lt_of_lt_of_le D g.size
  have k5:a.cell? ⟨c.gb,5,none⟩=some (.int .i64 (s.way:Int)):=(za (j.trans k.out)).trans rfl
  have z5:a.frozen? ⟨c.gb,5,none⟩=false:=zi (j.trans k.out)
  clear u j g
  go_wp2_with fail
  exact bodyPost_ret (v:=.tuple #[.int .i64 0,.bool false]) (by simp[results,Tryz.results102,go_sem]) rfl I.out
 ·have L:¬(s.stack.length:Int)-1<(f.base:Int):=by omega
  obtain⟨n,r,w⟩:∃n r,s.stack=n :: r:=by
   cases Z:s.stack with
   |nil=>rw[Z]at l;simp at l
   |cons n r=>exact⟨n,r,rfl⟩
  have M:s.stack.length=r.length+1:=by rw[w];rfl
  have K:=h.st
  obtain⟨o,a6,S,_,N,T,J⟩:=ju K (by omega)
  cases S
  have y:=J r.length (by omega)
  rw[w,List.reverse_cons,kX,List.getElem?_append_right (by simp[ints]),show r.length-(ints r.reverse).length=0 by simp[ints]]at y
  have y:W.cell? ⟨o,r.length,none⟩=some (.int .i64 n):=y
  have B:Hid (∀b,Below W.heap.size W b->TakeP c W s f vv x (.slice (some ⟨o,0,none⟩) s.stack.length sc) A (.returned (.tuple #[.int .i64 n,.bool true])) (b.setCell ⟨c.gb,3,none⟩ (.slice (some ⟨o,0,none⟩) r.length sc))/\b.heap[c.gb]?=W.heap[c.gb]?):=fun b i=>by
   have e:=i.block _ D
   refine⟨⟨(Kg.below i h.be.size).set ok 3 _,?_⟩,e⟩
   rw[if_neg l]
   exact⟨n,r,_,w,rfl,((h.below ok d i).less (t:=[n]) w).gcell ok (e.trans d) 3 _,zy 3 _ (e.trans d)⟩
  have k:=zh d
  have F:=zh (fun b (i:Below W.heap.size W b)=>And.intro ((i.cell (p:=⟨fb,fs.length*14+2,none⟩) C).trans E) ((i.cell (p:=⟨o,r.length,none⟩) N).trans y))
  clear h d z H G l ok E y J w K
  rw[M]at B k k3 L U T ⊢
  clear M
  generalize r.length=m at *
  generalize (f.base:Int)=bs' at *
  generalize fs.length=q at *
  have Y:(m:Int)<10000:=by omega
  have a2:(m:Int)<=(sc:Int):=by omega
  go_enter Tryz.func102,Tryz.ntmps102
  go_wp2_with fail
  refine O.out.mono ?_
  rintro e a⟨rfl,g⟩
  obtain⟨u,j⟩:=B.out a g
  have I:=zh u
  obtain⟨X,a5⟩:=F.out a g
  have Q:fb<a.heap.size:=Nat.lt_of_lt_of_le C g.size
  have a1:o<a.heap.size:=Nat.lt_of_lt_of_le N g.size
  have R:c.gb<a.heap.size:=Nat.lt_of_lt_of_le D g.size
  have a4:a.cell? ⟨c.gb,3,none⟩=some (.slice (some ⟨o,0,none⟩) (m+1) sc):=(za (j.trans k.out)).trans rfl
  have a7:a.frozen? ⟨c.gb,3,none⟩=false:=zi (j.trans k.out)
  clear u j g
  go_wp2_with fail
  exact bodyPost_ret (v:=.tuple #[.int .i64 n,.bool true]) (by simp[results,Tryz.results102,go_sem]) rfl I.out
theorem Tryz.infoInt64:(Tryz.prog.info? 2).map (fun i=>(i.zero,i.size,i.bytes))=some (some (.int .i64 0),1,8):=by kernel_rfl
@[go_sem] theorem zeroI64 (w:World):(zeroValue 2).run Tryz.prog w=.ok (.int .i64 0) w:=by kernel_rfl
@[go_sem] theorem zeroI64s (w:World):(zeroValue 29).run Tryz.prog w=.ok (.slice none 0 0) w:=by kernel_rfl
theorem MV.more {A d:World}{n:Int}(h:MM c W s vv y sv z)(ok:VxOk c)(r:G8 c W y sv z s.way)(a:Below W.heap.size W A)(T:s.stack.length<10000)(N:I64 n)
  (P:d.ownsRow (c.gb+1) 2 1 j (s.stack.length+1) (ints s.stack.reverse++[.int .i64 n]))(G:A.grownBy d sv.ownBlock)(Q:∀g,j.ownBlock=some g->sv.ownBlock=some g\/A.heap.size<=g) :
  MV c (d.setCell ⟨c.gb,3,none⟩ j) { s with stack:=n :: s.stack }:=by
 have I:=zc r
 have C:=a.size
 have w:∀b,sv.ownBlock=some b->c.gb<b:=fun b l=>zL h.st b l
 have F:∀b,b<W.heap.size->sv.ownBlock≠some b->d.heap[b]?=W.heap[b]?:=fun b m u=>(G.block b (Nat.lt_of_lt_of_le m C) (fun e=>u e.symm)).trans (a.block b m)
 have M:d.heap[c.gb]?=W.heap[c.gb]?:=F _ I fun e=>by have:=w _ e;omega
 have f:∀b,b<W.heap.size->b≠c.gb->sv.ownBlock≠some b->(d.setCell ⟨c.gb,3,none⟩ j).heap[b]?=W.heap[b]?:=fun b m J u=>(Below.heap_setCell _ _ _ _ (by simpa using J)).trans (F b m u)
 have H:Below c.w0.heap.size c.w0 d:=(h.be.trans (a.mono h.be.size)).grown G (Nat.le_trans h.be.size C) (fun k O=>by have:=w k O;have:=ok.gb;omega)
 refine⟨vv,y,j,z,⟨H.setCell ok.gb _,(f _ (zc h.pk) ok.pb.2 (ym h.st h.pk (by decide))).trans h.pk,yD h.vk fun b S l E=>f b (zc E) (l ▸ ok.vb.2) (ym h.st E (by decide)),h.th,h.vn,fun i B=>?_,?_,?_,?_,fun b l=>?_,by show (n :: s.stack).length<=10000;simp only[List.length_cons];omega,fun v t=>?_,h.ol,h.oi,h.fl,h.fm,h.ff,fun b o a=>⟨(f _ (jo (h.ek b o a).1) (jD (h.ek b o a) r (by unfold Wet;decide)) (xL h.st (h.ek b o a) (by unfold Wet;decide))).trans (h.ek b o a).1,(h.ek b o a).2⟩⟩,?_⟩
 ·obtain⟨K,D,L⟩:=h.vm i B
  have t:=ok.vs i (by rw[<-h.vn];exact B)
  exact⟨K,(f _ (zc D) (by omega) (fun e=>by have:=w _ e;omega)).trans D,L⟩
 ·exact zB h.fr fun b _ x p=>f b x (fun e=>ym h.fr r (by decide) (e ▸ p)) (jf h.fr h.st (by decide) p)
 ·have e:ints (n :: s.stack).reverse=ints s.stack.reverse++[.int .i64 n]:=by rw[List.reverse_cons,kX]
  show World.ownsRow _ _ _ _ _ (n :: s.stack).length (ints (n :: s.stack).reverse)
  rw[e,List.length_cons]
  exact zB P fun b R _ _=>Below.heap_setCell _ _ _ _ (by simp;omega)
 ·exact zB h.ou fun b q0 x p=>f b x (by omega) (fun e=>h.dj b e p)
 ·rcases Q b l with q|q
  ·exact h.dj b q
  ·exact fun e=>by have:=(h.ou.lt b e).2;omega
 ·rcases List.mem_cons.1 t with rfl|t
  ·exact N
  ·exact h.si v t
 ·exact zy 3 j (M.trans r)
theorem MV.moreO {A:World}{p:Value}{n:Int}(h:MM c W s vv z sv d)(ok:VxOk c)(u:G8 c W z sv d s.way)(a:Below W.heap.size W A)(T:s.out.length<200)(N:I64 n)
  (P:f.ownsRow (c.gb+1) 2 1 p (s.out.length+1) (ints s.out++[.int .i64 n]))(G:A.grownBy f d.ownBlock)(Q:∀g,p.ownBlock=some g->d.ownBlock=some g\/A.heap.size<=g) :
  MV c (f.setCell ⟨c.gb,4,none⟩ p) { s with out:=s.out++[n] }:=by
 have I:=zc u
 have C:=a.size
 have x:∀b,d.ownBlock=some b->c.gb<b:=fun b j=>zL h.ou b j
 have F:∀b,b<W.heap.size->d.ownBlock≠some b->f.heap[b]?=W.heap[b]?:=fun b r w=>(G.block b (Nat.lt_of_lt_of_le r C) (fun e=>w e.symm)).trans (a.block b r)
 have M:f.heap[c.gb]?=W.heap[c.gb]?:=F _ I fun e=>by have:=x _ e;omega
 have m:∀b,b<W.heap.size->b≠c.gb->d.ownBlock≠some b->(f.setCell ⟨c.gb,4,none⟩ p).heap[b]?=W.heap[b]?:=fun b r J w=>(Below.heap_setCell _ _ _ _ (by simpa using J)).trans (F b r w)
 have H:Below c.w0.heap.size c.w0 f:=(h.be.trans (a.mono h.be.size)).grown G (Nat.le_trans h.be.size C) (fun k O=>by have:=x k O;have:=ok.gb;omega)
 refine⟨vv,z,sv,p,⟨H.setCell ok.gb _,(m _ (zc h.pk) ok.pb.2 (ym h.ou h.pk (by decide))).trans h.pk,yD h.vk fun b S j E=>m b (zc E) (j ▸ ok.vb.2) (ym h.ou E (by decide)),h.th,h.vn,fun i B=>?_,?_,?_,?_,fun b j=>?_,h.sl,h.si,by show (s.out++[n]).length<=200;simp only[List.length_append,List.length_singleton];omega,fun v l=>?_,h.fl,h.fm,h.ff,fun b o a=>⟨(m _ (jo (h.ek b o a).1) (jD (h.ek b o a) u (by unfold Wet;decide)) (xL h.ou (h.ek b o a) (by unfold Wet;decide))).trans (h.ek b o a).1,(h.ek b o a).2⟩⟩,?_⟩
 ·obtain⟨K,D,L⟩:=h.vm i B
  have l:=ok.vs i (by rw[<-h.vn];exact B)
  exact⟨K,(m _ (zc D) (by omega) (fun e=>by have:=x _ e;omega)).trans D,L⟩
 ·exact zB h.fr fun b _ y t=>m b y (fun e=>ym h.fr u (by decide) (e ▸ t)) (jf h.fr h.ou (by decide) t)
 ·exact zB h.st fun b q0 y t=>m b y (by omega) (fun e=>h.dj b t e)
 ·show World.ownsRow _ _ _ _ _ (s.out++[n]).length (ints (s.out++[n]))
  rw[kX,List.length_append,List.length_singleton]
  exact zB P fun b R _ _=>Below.heap_setCell _ _ _ _ (by simp;omega)
 ·intro e
  rcases Q b e with q|q
  ·exact h.dj b j q
  ·have:=(h.st.lt b j).2;omega
 ·rcases List.mem_append.1 l with l|l
  ·exact h.oi v l
  ·rw[List.mem_singleton.1 l];exact N
 ·exact zy 4 p (M.trans u)
theorem put8 (h:MM c W s vv A sv D)(ok:VxOk c)(a:G8 c W A sv D s.way)(n:Int)(w:I64 n) :
  Calls Tryz.prog 101 #[.pointer (some ⟨c.gb,0,none⟩),.int .i64 n] W fun e P=>e=.returned (.tuple #[])/\MV c P (Vm.put n s):=by
 obtain⟨o,sc,J⟩:=z7 h.st
 subst J
 have R:W.cell? ⟨c.gb,3,none⟩=some (.slice o s.stack.length sc):=(za a).trans rfl
 have y:=zc a
 by_cases f:s.stack.length=10000
 ·have F:Hid (MV c (W.setCell ⟨c.gb,5,none⟩ (.int .i64 7)) (Vm.put n s)):=by
   unfold Hid Vm.put
   rw[if_pos f]
   exact MV.end h ok a 7
  have C:W.cell? ⟨c.gb,5,none⟩=some (.int .i64 (s.way:Int)):=(za a).trans rfl
  have S:W.frozen? ⟨c.gb,5,none⟩=false:=zi a
  rw[f]at R
  clear h a f w
  generalize (s.way:Int)=wy at *
  go_enter Tryz.func101,Tryz.ntmps101
  go_wp2_with fail
  exact bodyPost_ret (v:=.tuple #[]) (by simp[results,Tryz.results101,go_sem]) rfl ⟨rfl,F.out⟩
 ·obtain⟨Q,H,K,L,M⟩:=info_parts Tryz.infoInt64
  have I:s.stack.length<10000:=by have:=h.sl;omega
  have V:¬((s.stack.length:Int)=10000):=by omega
  have i:Below W.heap.size W (W.alloc (.cells #[.int .i64 n] 2)):=zb _ _
  have O:Hid ((W.alloc (.cells #[.int .i64 n] 2)).ownsRow (c.gb+1) 2 1 (.slice o s.stack.length sc) s.stack.length (ints s.stack.reverse)):=zB h.st fun b _ f _=>i.block b f
  have G:Hid (∀j u,[Value.int .i64 n][j]?=some u->(W.alloc (.cells #[.int .i64 n] 2)).cell? (Addr.add ⟨W.heap.size,0,none⟩ j)=some u):=by
   intro j u q
   match j,q with
   | 0,q=>simp at q;subst q;rw[Addr.add_lit,za (zl _ _)];rfl
  have E:Hid (∀d p,d.ownsRow (c.gb+1) 2 1 p (s.stack.length+1) (ints s.stack.reverse++[.int .i64 n])->(W.alloc (.cells #[.int .i64 n] 2)).grownBy d (Value.slice o s.stack.length sc).ownBlock->(∀g,p.ownBlock=some g->(Value.slice o s.stack.length sc).ownBlock=some g\/(W.alloc (.cells #[.int .i64 n] 2)).heap.size<=g)->MV c (d.setCell ⟨c.gb,3,none⟩ p) (Vm.put n s)/\d.heap[c.gb]?=W.heap[c.gb]?):=fun d p k l r=>by
   refine⟨?_,(l.block _ (Nat.lt_of_lt_of_le y i.size) (fun e=>by have:=zL h.st _ e.symm;omega)).trans (i.block _ y)⟩
   unfold Vm.put
   rw[if_neg f]
   exact MV.more h ok a i I w k l r
  have z:=zh a
  clear h a f w i
  generalize X:s.stack.length=m at *
  have U:m<=10000:=by omega
  go_enter Tryz.func101,Tryz.ntmps101
  go_wp2_with (at_builtin;refine zH _ rfl _ _ 29 rfl (c.gb+1) 2 Q (.int .i64 0) 1 8 Tryz.underlying29 H K L M rfl (by decide) _ _ _ rfl O.out ⟨W.heap.size,0,none⟩ 1 1 [.int .i64 n] rfl rfl G.out (by intro u B;simp at B;subst B;rfl) (by unfold maxLen;omega) (by omega) (by simp;omega) ?_)
  intro p d k l r
  obtain⟨Y,Z,rfl⟩:=z7 k
  obtain⟨x,t⟩:=E.out d _ k l (fun g a=>by simpa using r g a)
  have N:=zh x
  have C:d.cell? ⟨c.gb,3,none⟩=some (.slice o m sc):=(za (t.trans z.out)).trans rfl
  have S:d.frozen? ⟨c.gb,3,none⟩=false:=zi (t.trans z.out)
  have T:c.gb<d.heap.size:=zg C
  clear k l r x t
  go_wp2_with fail
  exact ze rfl rfl ⟨rfl,N.out⟩
def StepP (c:Vx) (s:St) (e:Ending) (W':World):Prop:=e=.returned (.tuple #[])/\MV c W' s
theorem yk (h:s.stack.length<=b):Vm.taken b s k=Vm.ended 8 s:=by
 unfold Vm.taken
 split
 ·rfl
 ·rename_i n r a
  rw[a,List.length_cons]at h
  rw[if_pos h]
theorem zR {n:Int}{r:List Int}(a:s.stack=n :: r)(h:¬s.stack.length<=b):Vm.taken b s k=k n { s with stack:=r }:=by
 unfold Vm.taken
 split
 ·rename_i q;rw[a]at q;cases q
 ·rename_i c d q
  rw[a]at q
  cases q
  rw[a,List.length_cons]at h
  rw[if_neg h]
theorem MM.mv8 {a b:Value}(h:MM c W s vv a sv b)(d:G8 c W a sv b 8):MV c W (Vm.ended 8 s):=⟨vv,a,sv,b,h.end 8,d⟩
def TwoP (c:Vx) (W:World) (s:St) (f:Fr) (vv:List (List Int)) (fv ov:Value) (e:Ending) (W':World):Prop:=Kg c W W'/\∃t sv',MM c W' t vv fv sv' ov/\G8 c W' fv sv' ov t.way/\((∃x y:Int,e=.returned (.tuple #[.int .i64 x,.int .i64 y,.bool false])/\∀k:Int->Int->St->St,Vm.taken f.base s (fun b s=>Vm.taken f.base s fun a s=>k a b s)=t)\/∃a b:Int,I64 a/\I64 b/\t.frames=s.frames/\e=.returned (.tuple #[.int .i64 a,.int .i64 b,.bool true])/\∀k:Int->Int->St->St,Vm.taken f.base s (fun b s=>Vm.taken f.base s fun a s=>k a b s)=k a b t)
theorem takeTwo8 {n:Value}(h:MM c W s vv j sv n)(ok:VxOk c)(d:G8 c W j sv n s.way){f:Fr}{fs:List Fr}(y:s.frames=f :: fs) :
  Calls Tryz.prog 107 #[.pointer (some ⟨c.gb,0,none⟩)] W (TwoP c W s f vv j n):=by
 have x:=zh (take8 h ok d y)
 have z:=zh h.si
 have F:=zh ok
 have I:=zh y
 clear h d y ok
 go_enter Tryz.func107,Tryz.ntmps107
 go_wp2_with fail
 refine x.out.mono ?_
 intro e K g
 obtain⟨t,g⟩:=g
 by_cases l:s.stack.length<=f.base
 ·rw[if_pos l]at g
  obtain⟨rfl,i,d⟩:=g
  have o:Hid (TwoP c W s f vv j n (.returned (.tuple #[.int .i64 0,.int .i64 0,.bool false])) K):=⟨t,Vm.ended 8 s,sv,i.end 8,d,Or.inl ⟨0,0,rfl,fun k=>yk l⟩⟩
  clear t i d l x
  go_wp2_with fail
  exact bodyPost_ret (v:=.tuple #[.int .i64 0,.int .i64 0,.bool false]) (by simp[results,Tryz.results107,go_sem]) rfl o.out
 ·rw[if_neg l]at g
  obtain⟨b,r,G,C,rfl,i,d⟩:=g
  have u:=zh (take8 (s:={ s with stack:=r }) i F.out d I.out)
  have B:=zh t
  have q:=zh C
  have A:=zh l
  clear t i d l x C
  go_wp2_with fail
  refine u.out.mono ?_
  intro e D g
  obtain⟨p,g⟩:=g
  by_cases m:r.length<=f.base
  ·rw[if_pos m]at g
   obtain⟨rfl,i,d⟩:=g
   have o:Hid (TwoP c W s f vv j n (.returned (.tuple #[.int .i64 0,.int .i64 b,.bool false])) D):=⟨B.out.trans p,Vm.ended 8 { s with stack:=r },G,i.end 8,d,Or.inl ⟨0,b,rfl,fun k=>by rw[zR q.out A.out,yk m]⟩⟩
   clear p i d m u
   go_wp2_with fail
   exact bodyPost_ret (v:=.tuple #[.int .i64 0,.int .i64 b,.bool false]) (by simp[results,Tryz.results107,go_sem]) rfl o.out
  ·rw[if_neg m]at g
   obtain⟨a,J,H,w,rfl,i,d⟩:=g
   have o:Hid (TwoP c W s f vv j n (.returned (.tuple #[.int .i64 a,.int .i64 b,.bool true])) D):=by
    have E:r=a :: J:=w
    refine⟨B.out.trans p,_,H,i,d,Or.inr ⟨a,b,z.out a (by rw[q.out,E];simp),z.out b (by rw[q.out];simp),rfl,rfl,fun k=>?_⟩⟩
    rw[zR q.out A.out,zR (s:={ s with stack:=r }) w m]
   clear p i d m u w
   go_wp2_with fail
   exact bodyPost_ret (v:=.tuple #[.int .i64 a,.int .i64 b,.bool true]) (by simp[results,Tryz.results107,go_sem]) rfl o.out
theorem xq (p:Prop)[Decidable p]:Tp.I64 (Tp.b01 p):=by unfold Tp.b01 Tp.I64;split<;>omega
theorem both_in {op:Tp.Bs}{a b v:Int}(c:Tp.I64 a)(g:Tp.I64 b)(h:Tp.both op a b=some v):Tp.I64 v:=by
 unfold Tp.both at h
 split at h
 ·cases h;exact Tp.w64_in _
 split at h
 ·cases h;exact Tp.w64_in _
 split at h
 ·cases h;exact Tp.w64_in _
 split at h
 ·split at h
  ·cases h
  ·cases h;exact Tp.w64_in _
 split at h
 ·split at h
  ·cases h
  ·rename_i d
   cases h
   have e:=(Tp.both_rest c d).2.2
   unfold Tp.I64 at *
   have f:=(Tp.both_rest (a:=a) c d).2.1
   omega
 split at h
 ·cases h;exact xq _
 split at h
 ·cases h;exact xq _
 split at h
 ·cases h;exact xq _
 split at h
 ·cases h;exact xq _
 split at h
 ·cases h;exact xq _
 split at h
 ·cases h;exact xq _
 ·cases h;decide
theorem w64_i64 (n:Int):I64 (Tp.w64 n):=Tp.w64_in n
theorem neg8 {m:Value}(h:MM c W s vv m sv t)(ok:VxOk c)(a:G8 c W m sv t s.way){f:Fr}{fs:List Fr}(o:s.frames=f :: fs) :
  Calls Tryz.prog 109 #[.pointer (some ⟨c.gb,0,none⟩),.int .i64 10] W (StepP c (Vm.taken f.base s fun n s=>Vm.put (Tp.w64 (-n)) s)):=by
 have l:=zh (take8 h ok a o)
 have A:=zh h.si
 have u:=zh ok
 clear h a o ok
 go_enter Tryz.func109,Tryz.ntmps109
 go_wp2_with fail
 refine l.out.mono ?_
 intro e z d
 obtain⟨p,d⟩:=d
 by_cases b:s.stack.length<=f.base
 ·rw[if_pos b]at d
  obtain⟨rfl,i,a⟩:=d
  have g:Hid (StepP c (Vm.taken f.base s fun n s=>Vm.put (Tp.w64 (-n)) s) (.returned (.tuple #[])) z):=⟨rfl,by rw[yk b];exact i.mv8 a⟩
  clear p i a b l
  go_wp2_with fail
  first|exact ze rfl rfl g.out|exact bodyPost_ret (v:=.tuple #[]) (by simp[results,Tryz.results109,go_sem]) rfl g.out
 ·rw[if_neg b]at d
  obtain⟨n,r,B,q,rfl,i,a⟩:=d
  have x:=zh (put8 (s:={ s with stack:=r }) i u.out a (Tp.w64 (-n)) (w64_i64 _))
  have w:Hid (∀j,MV c j (Vm.put (Tp.w64 (-n)) { s with stack:=r })->StepP c (Vm.taken f.base s fun n s=>Vm.put (Tp.w64 (-n)) s) (.returned (.tuple #[])) j):=fun j k=>⟨rfl,by rw[zR q b];exact k⟩
  clear p i a b l q
  have y:Hid (wrap64 (-n)=Tp.w64 (-n)):=yC _
  generalize Tp.w64 (-n)=v at *
  have C:=y.out
  go_wp2_with fail
  refine x.out.mono ?_
  rintro e j⟨rfl,k⟩
  have g:=zh (w.out j k)
  clear k
  go_wp2_with fail
  first|exact ze rfl rfl g.out|exact bodyPost_ret (v:=.tuple #[]) (by simp[results,Tryz.results109,go_sem]) rfl g.out
theorem not8 (h:MM c W s vv u sv y)(ok:VxOk c)(b:G8 c W u sv y s.way){f:Fr}{fs:List Fr}(x:s.frames=f :: fs) :
  Calls Tryz.prog 109 #[.pointer (some ⟨c.gb,0,none⟩),.int .i64 11] W (StepP c (Vm.taken f.base s fun n s=>Vm.put (if n=0 then 1 else 0) s)):=by
 have l:=zh (take8 h ok b x)
 have B:=zh h.si
 have t:=zh ok
 clear h b x ok
 go_enter Tryz.func109,Tryz.ntmps109
 go_wp2_with fail
 refine l.out.mono ?_
 intro e A k
 obtain⟨q,k⟩:=k
 by_cases i:s.stack.length<=f.base
 ·rw[if_pos i]at k
  obtain⟨rfl,j,b⟩:=k
  have g:Hid (StepP c (Vm.taken f.base s fun n s=>Vm.put (if n=0 then 1 else 0) s) (.returned (.tuple #[])) A):=⟨rfl,by rw[yk i];exact j.mv8 b⟩
  clear q j b i l
  go_wp2_with fail
  first|exact ze rfl rfl g.out|exact bodyPost_ret (v:=.tuple #[]) (by simp[results,Tryz.results109,go_sem]) rfl g.out
 ·rw[if_neg i]at k
  obtain⟨n,r,C,m,rfl,j,b⟩:=k
  by_cases w:n=0
  ·subst w
   have p:=zh (put8 (s:={ s with stack:=r }) j t.out b 1 (by unfold I64;omega))
   have o:Hid (∀a,MV c a (Vm.put 1 { s with stack:=r })->StepP c (Vm.taken f.base s fun n s=>Vm.put (if n=0 then 1 else 0) s) (.returned (.tuple #[])) a):=fun a d=>⟨rfl,by rw[zR m i];exact d⟩
   clear q j b i l m
   go_wp2_with fail
   refine p.out.mono ?_
   rintro e a⟨rfl,d⟩
   have g:=zh (o.out a d)
   clear d
   go_wp2_with fail
   first|exact ze rfl rfl g.out|exact bodyPost_ret (v:=.tuple #[]) (by simp[results,Tryz.results109,go_sem]) rfl g.out
  ·have z:¬n=0:=w
   have p:=zh (put8 (s:={ s with stack:=r }) j t.out b 0 (by unfold I64;omega))
   have o:Hid (∀a,MV c a (Vm.put 0 { s with stack:=r })->StepP c (Vm.taken f.base s fun n s=>Vm.put (if n=0 then 1 else 0) s) (.returned (.tuple #[])) a):=fun a d=>⟨rfl,by rw[zR m i];rw[if_neg z];exact d⟩
   clear q j b i l m
   go_wp2_with fail
   refine p.out.mono ?_
   rintro e a⟨rfl,d⟩
   have g:=zh (o.out a d)
   clear d
   go_wp2_with fail
   first|exact ze rfl rfl g.out|exact bodyPost_ret (v:=.tuple #[]) (by simp[results,Tryz.results109,go_sem]) rfl g.out
theorem do8 (h:MM c W s vv A sv D)(ok:VxOk c)(j:G8 c W A sv D s.way){f:Fr}{fs:List Fr}(T:s.frames=f :: fs)(k:Nat)(V:k<11) :
  Calls Tryz.prog 108 #[.pointer (some ⟨c.gb,0,none⟩),.int .i64 (k:Int)] W (StepP c (Vm.taken f.base s fun b s=>Vm.taken f.base s fun a s=>Vm.reckon (Vm.marks8.getD k []) a b s)):=by
 have I:=zh (takeTwo8 h ok j T)
 have N:Hid (∀J,Below c.w0.heap.size c.w0 J->J.cell? ⟨2,k,none⟩=some (.string (bs (Vm.marks8.getD k [])))):=fun J n=>(n.cell (p:=⟨2,k,none⟩) ok.gm).trans (ok.mrk k V)
 have X:=zh ok.gm
 have F:=zh ok
 have a2:(k:Int)<11:=by omega
 clear h j T ok
 obtain⟨mk,P⟩:∃mk,mk=Vm.marks8.getD k []:=⟨_,rfl⟩
 rw[<-P]at N ⊢
 clear P
 go_enter Tryz.func108,Tryz.ntmps108
 go_wp2_with fail
 refine I.out.mono ?_
 intro e E L
 obtain⟨_,t,Q,l,j,⟨x,y,rfl,o⟩|⟨a,b,K,n,Y,rfl,o⟩⟩:=L
 ·have d:Hid (StepP c (Vm.taken f.base s fun b s=>Vm.taken f.base s fun a s=>Vm.reckon mk a b s) (.returned (.tuple #[])) E):=⟨rfl,by rw[o fun a b s=>Vm.reckon mk a b s];exact⟨vv,A,Q,D,l,j⟩⟩
  clear l j o I
  go_wp2_with fail
  first|exact ze rfl rfl d.out|exact bodyPost_ret (v:=.tuple #[]) (by simp[results,Tryz.results108,go_sem]) rfl d.out
 ·have R:=zh (both_any mk a b K n E)
  have G:=N.out E l.be
  have a1:2<E.heap.size:=Nat.lt_of_lt_of_le X.out l.be.size
  have H:=zh l
  have m:=zh j
  have u:=zh o
  have S:=zh (And.intro K n)
  clear l j o I K n Y
  obtain⟨U,O⟩:∃U,U=bs mk:=⟨_,rfl⟩
  rw[<-O]at R G
  clear O
  go_wp2_with fail
  refine R.out.mono ?_
  intro e q L
  obtain⟨w,B⟩:=L
  have z:=H.out.below F.out m.out w
  have i:G8 c q A Q D t.way:=(w.block _ (zc m.out)).trans m.out
  cases g:Tp.both mk a b with
  |none =>
   rw[g]at B
   subst B
   have M:=MV.end z F.out i 2
   have d:Hid (StepP c (Vm.taken f.base s fun b s=>Vm.taken f.base s fun a s=>Vm.reckon mk a b s) (.returned (.tuple #[])) (q.setCell ⟨c.gb,5,none⟩ (.int .i64 2))):=⟨rfl,by
    rw[u.out fun a b s=>Vm.reckon mk a b s]
    unfold Vm.reckon
    rw[g]
    exact M⟩
   have k5:q.cell? ⟨c.gb,5,none⟩=some (.int .i64 (t.way:Int)):=(za i).trans rfl
   have z5:q.frozen? ⟨c.gb,5,none⟩=false:=zi i
   have a0:c.gb<q.heap.size:=zc i
   clear z i M g w H m u G
   generalize (t.way:Int)=wy at *
   go_wp2_with fail
   first|exact ze rfl rfl d.out|exact bodyPost_ret (v:=.tuple #[]) (by simp[results,Tryz.results108,go_sem]) rfl d.out
  |some v =>
   rw[g]at B
   subst B
   have HP:=zh (put8 z F.out i v (both_in S.out.1 S.out.2 g))
   have Z:Hid (∀r,MV c r (Vm.put v t)->StepP c (Vm.taken f.base s fun b s=>Vm.taken f.base s fun a s=>Vm.reckon mk a b s) (.returned (.tuple #[])) r):=fun r C=>⟨rfl,by
    rw[u.out fun a b s=>Vm.reckon mk a b s]
    unfold Vm.reckon
    rw[g]
    exact C⟩
   clear z i g w H m u G
   go_wp2_with fail
   refine HP.out.mono ?_
   rintro e r⟨rfl,C⟩
   have d:=zh (Z.out r C)
   clear C
   go_wp2_with fail
   first|exact ze rfl rfl d.out|exact bodyPost_ret (v:=.tuple #[]) (by simp[results,Tryz.results108,go_sem]) rfl d.out
theorem say8 {J N:Value}(h:MM c W s vv J sv N)(ok:VxOk c)(a:G8 c W J sv N s.way){f:Fr}{fs:List Fr}(K:s.frames=f :: fs) :
  Calls Tryz.prog 112 #[.pointer (some ⟨c.gb,0,none⟩)] W (StepP c (Vm.taken f.base s fun n s=>if s.out.length=200 then Vm.ended 6 s else { s with out:=s.out++[n] })):=by
 have A:=zh (take8 h ok a K)
 have P:=zh h.si
 have F:=zh ok
 clear h a K ok
 go_enter Tryz.func112,Tryz.ntmps112
 go_wp2_with fail
 refine A.out.mono ?_
 intro e d q
 obtain⟨E,q⟩:=q
 by_cases o:s.stack.length<=f.base
 ·rw[if_pos o]at q
  obtain⟨rfl,i,a⟩:=q
  have k:Hid (StepP c (Vm.taken f.base s fun n s=>if s.out.length=200 then Vm.ended 6 s else { s with out:=s.out++[n] }) (.returned (.tuple #[])) d):=⟨rfl,by rw[yk o];exact i.mv8 a⟩
  clear E i a o A
  go_wp2_with fail
  first|exact ze rfl rfl k.out|exact bodyPost_ret (v:=.tuple #[]) (by simp[results,Tryz.results112,go_sem]) rfl k.out
 ·rw[if_neg o]at q
  obtain⟨n,r,a4,w,rfl,i,a⟩:=q
  obtain⟨oa,oc,S⟩:=z7 i.ou
  subst S
  have Y:I64 n:=P.out n (by rw[w];simp)
  have k4:d.cell? ⟨c.gb,4,none⟩=some (.slice oa s.out.length oc):=(za a).trans rfl
  have H:=zc a
  by_cases p:s.out.length=200
  ·have k:Hid (StepP c (Vm.taken f.base s fun n s=>if s.out.length=200 then Vm.ended 6 s else { s with out:=s.out++[n] }) (.returned (.tuple #[])) (d.setCell ⟨c.gb,5,none⟩ (.int .i64 6))):=⟨rfl,by
    rw[zR w o]
    show MV c _ (if s.out.length=200 then _ else _)
    rw[if_pos p]
    exact MV.end i F.out a 6⟩
   have M:d.cell? ⟨c.gb,5,none⟩=some (.int .i64 (s.way:Int)):=(za a).trans rfl
   have z5:d.frozen? ⟨c.gb,5,none⟩=false:=zi a
   rw[p]at k4
   clear E i a o A w p
   generalize (s.way:Int)=wy at *
   go_wp2_with fail
   first|exact ze rfl rfl k.out|exact bodyPost_ret (v:=.tuple #[]) (by simp[results,Tryz.results112,go_sem]) rfl k.out
  ·obtain⟨Z,Q,T,U,V⟩:=info_parts Tryz.infoInt64
   have R:s.out.length<200:=by have:=i.ol;show s.out.length<200;have h':s.out.length<=200:=i.ol;omega
   have a3:¬((s.out.length:Int)=200):=by omega
   have t:Below d.heap.size d (d.alloc (.cells #[.int .i64 n] 2)):=zb _ _
   have X:Hid ((d.alloc (.cells #[.int .i64 n] 2)).ownsRow (c.gb+1) 2 1 (.slice oa s.out.length oc) s.out.length (ints s.out)):=zB i.ou fun b _ p _=>t.block b p
   have O:Hid (∀j u,[Value.int .i64 n][j]?=some u->(d.alloc (.cells #[.int .i64 n] 2)).cell? (Addr.add ⟨d.heap.size,0,none⟩ j)=some u):=by
    intro j u B
    match j,B with
    | 0,B=>simp at B;subst B;rw[Addr.add_lit,za (zl _ _)];rfl
   have k:Hid (∀l z,l.ownsRow (c.gb+1) 2 1 z (s.out.length+1) (ints s.out++[.int .i64 n])->(d.alloc (.cells #[.int .i64 n] 2)).grownBy l (Value.slice oa s.out.length oc).ownBlock->(∀g,z.ownBlock=some g->(Value.slice oa s.out.length oc).ownBlock=some g\/(d.alloc (.cells #[.int .i64 n] 2)).heap.size<=g)->StepP c (Vm.taken f.base s fun n s=>if s.out.length=200 then Vm.ended 6 s else { s with out:=s.out++[n] }) (.returned (.tuple #[])) (l.setCell ⟨c.gb,4,none⟩ z)/\l.heap[c.gb]?=d.heap[c.gb]?):=fun l z x y C=>by
    refine⟨⟨rfl,?_⟩,(y.block _ (Nat.lt_of_lt_of_le H t.size) (fun e=>by have:=zL i.ou _ e.symm;omega)).trans (t.block _ H)⟩
    rw[zR w o]
    show MV c _ (if s.out.length=200 then _ else _)
    rw[if_neg p]
    exact MV.moreO i F.out a t R Y x y C
   have I:=zh a
   clear E i a o A w p t
   generalize a2:s.out.length=m at *
   have a1:m<=200:=by omega
   go_wp2_with (at_builtin;refine zH _ rfl _ _ 29 rfl (c.gb+1) 2 Z (.int .i64 0) 1 8 Tryz.underlying29 Q T U V rfl (by decide) _ _ _ rfl X.out ⟨d.heap.size,0,none⟩ 1 1 [.int .i64 n] rfl rfl O.out (by intro u L;simp at L;subst L;rfl) (by unfold maxLen;omega) (by omega) (by simp;omega) ?_)
   intro z l x y C
   obtain⟨va,vc,rfl⟩:=z7 x
   obtain⟨G,D⟩:=k.out l _ x y (fun g a=>by simpa using C g a)
   have k:=zh G
   have M:l.cell? ⟨c.gb,4,none⟩=some (.slice oa m oc):=(za (D.trans I.out)).trans rfl
   have z5:l.frozen? ⟨c.gb,4,none⟩=false:=zi (D.trans I.out)
   have a0:c.gb<l.heap.size:=zg M
   clear x y C G D
   go_wp2_with fail
   first|exact ze rfl rfl k.out|exact bodyPost_ret (v:=.tuple #[]) (by simp[results,Tryz.results112,go_sem]) rfl k.out
theorem jN (gb:Nat)(a:Option Addr)(n cap:Nat)(k:Int)(b:0<=k)(c:k<(n:Int))(w:World) :
  Calls Tryz.prog 153 #[.pointer (some ⟨gb,0,none⟩),.slice a n cap,.int .i64 k] w fun e w'=>e=.returned (.bool true)/\w'=w:=by
 go_enter Tryz.func153,Tryz.ntmps153
 go_wp2_with fail
 go_ret
 exact⟨rfl,rfl⟩
theorem xU {gb:Nat}{a:Option Addr}{k:Int}(b:¬(0<=k/\k<(n:Int))){w:World}{f:Value}(d:w.cell? ⟨gb,5,none⟩=some f)(i:w.frozen? ⟨gb,5,none⟩=false) :
  Calls Tryz.prog 153 #[.pointer (some ⟨gb,0,none⟩),.slice a n cap,.int .i64 k] w fun e w'=>e=.returned (.bool false)/\w'=w.setCell ⟨gb,5,none⟩ (.int .i64 3):=by
 have g:gb<w.heap.size:=zg d
 by_cases c:0<=k
 ·have h:¬k<(n:Int):=fun q=>b ⟨c,q⟩
  clear b
  go_enter Tryz.func153,Tryz.ntmps153
  go_wp2_with fail
  go_ret
  exact⟨rfl,rfl⟩
 ·clear b
  go_enter Tryz.func153,Tryz.ntmps153
  go_wp2_with fail
  go_ret
  exact⟨rfl,rfl⟩
theorem MV.var {f g:Value}{r:Nat}(h:MM c W s vv f sv g)(ok:VxOk c)(A:G8 c W f sv g r)(i k:Nat)(t:i<vv.length)(F:k<vv[i].length)(n:Int)(B:I64 n) :
  MM c (W.setCell ⟨c.vs i,k,none⟩ (.int .i64 n)) { s with there:=thr c.O (vv.set i (vv[i].set k n)) } (vv.set i (vv[i].set k n)) f sv g/\G8 c (W.setCell ⟨c.vs i,k,none⟩ (.int .i64 n)) f sv g r:=by
 have p:i<c.O.vars.length:=by rw[<-h.vn];exact t
 have C:=ok.vs i p
 obtain⟨w,l,x⟩:=h.vm i t
 have a:∀b,b≠c.vs i->(W.setCell ⟨c.vs i,k,none⟩ (.int .i64 n)).heap[b]?=W.heap[b]?:=fun b d=>Below.heap_setCell _ _ _ _ (by simpa using d)
 refine⟨⟨h.be.setCell C.1 _,(a _ (by omega)).trans h.pk,yD h.vk fun b D d E=>a b (by omega),rfl,by rw[List.length_set];exact h.vn,fun j m=>?_,?_,?_,?_,h.dj,h.sl,h.si,h.ol,h.oi,h.fl,h.fm,h.ff,fun b o d=>⟨(a _ (jD (h.ek b o d) l (by unfold Wet;decide))).trans (h.ek b o d).1,(h.ek b o d).2⟩⟩,(a _ (by omega)).trans A⟩
 ·rw[List.length_set]at m
  obtain⟨y,b2,z⟩:=h.vm j m
  by_cases e:j=i
  ·subst e
   rw[List.getElem_set_self]
   refine⟨by rw[List.length_set];exact w,?_,fun v u=>?_⟩
   ·rw[zy k (.int .i64 n) l,ints_set]
    simp
   ·rcases List.mem_or_eq_of_mem_set u with q|q
    ·exact x v q
    ·rw[q];exact B
  ·rw[List.getElem_set_ne (by omega)]
   exact⟨y,(a _ fun q=>e (ok.inj j i (by rw[<-h.vn];exact m) p q)).trans b2,z⟩
 ·exact zB h.fr fun b _ _ q=>a b fun e=>ym h.fr l (by decide) (e ▸ q)
 ·exact zB h.st fun b q0 _ _=>a b (by omega)
 ·exact zB h.ou fun b q0 _ _=>a b (by omega)
theorem vcell {b f:Value}(h:MM c W s vv b sv f){i:Nat}(d:i<vv.length){k:Nat}(e:k<vv[i].length):W.cell? ⟨c.vs i,k,none⟩=some (.int .i64 vv[i][k])/\W.frozen? ⟨c.vs i,k,none⟩=false/\c.vs i<W.heap.size:=by
 obtain⟨_,a,_⟩:=h.vm i d
 refine⟨?_,zi a,zc a⟩
 rw[za a]
 simp[ints,e]
theorem give8 (h:MM c W s vv u sv z)(ok:VxOk c)(d:G8 c W u sv z s.way){i:Nat}(q:i<vv.length)(k:Int) :
  Calls Tryz.prog 104 #[.pointer (some ⟨c.gb,0,none⟩),c.vsl i,.int .i64 k] W (StepP c (Vm.give vv[i] k s)):=by
 have o:=(h.vm i q).1
 have r:W.cell? ⟨c.gb,5,none⟩=some (.int .i64 (s.way:Int)):=(za d).trans rfl
 have t:W.frozen? ⟨c.gb,5,none⟩=false:=zi d
 unfold Vx.vsl
 by_cases l:0<=k/\k<(c.vl i:Int)
 ·obtain⟨w,C⟩:=l
  have p:=zh (jN c.gb (some ⟨c.vs i,0,none⟩) (c.vl i) (c.vl i) k w C W)
  obtain⟨b,rfl⟩:∃b:Nat,k=(b:Int):=⟨k.toNat,by omega⟩
  have j:b<vv[i].length:=by omega
  obtain⟨E,F,G⟩:=vcell h q j
  have y:I64 vv[i][b]:=(h.vm i q).2.2 _ (List.getElem_mem j)
  have B:=zh (put8 h ok d vv[i][b] y)
  have A:Hid (∀g,MV c g (Vm.put vv[i][b] s)->StepP c (Vm.give vv[i] (b:Int) s) (.returned (.tuple #[])) g):=fun g n=>⟨rfl,by
   unfold Vm.give
   rw[if_pos ⟨w,by omega⟩,Int.toNat_natCast,List.getD_eq_getElem?_getD,List.getElem?_eq_getElem j]
   exact n⟩
  generalize vv[i][b]=x at *
  clear h ok d y r t o j
  generalize c.vl i=m at *
  generalize c.vs i=vb at *
  go_enter Tryz.func104,Tryz.ntmps104
  go_wp2_with fail
  refine p.out.mono ?_
  rintro e D⟨rfl,rfl⟩
  go_wp2_with fail
  refine B.out.mono ?_
  rintro e g⟨rfl,n⟩
  have f:=zh (A.out g n)
  clear n
  go_wp2_with fail
  first|exact ze rfl rfl f.out|exact bodyPost_ret (v:=.tuple #[]) (by simp[results,Tryz.results104,go_sem]) rfl f.out
 ·have p:=zh (xU (gb:=c.gb) (a:=some ⟨c.vs i,0,none⟩) (cap:=c.vl i) l r t)
  have f:Hid (StepP c (Vm.give vv[i] k s) (.returned (.tuple #[])) (W.setCell ⟨c.gb,5,none⟩ (.int .i64 3))):=⟨rfl,by
   unfold Vm.give
   rw[if_neg (by rw[o];exact l)]
   exact MV.end h ok d 3⟩
  clear h ok d r t o l
  generalize c.vl i=m at *
  generalize c.vs i=vb at *
  go_enter Tryz.func104,Tryz.ntmps104
  go_wp2_with fail
  refine p.out.mono ?_
  rintro e D⟨rfl,rfl⟩
  go_wp2_with fail
  first|exact ze rfl rfl f.out|exact bodyPost_ret (v:=.tuple #[]) (by simp[results,Tryz.results104,go_sem]) rfl f.out
theorem set8 {w:Value}(h:MM c W s vv t sv w)(ok:VxOk c)(d:G8 c W t sv w s.way){i:Nat}(l:i<vv.length)(k n:Int)(D:I64 n) :
  Calls Tryz.prog 106 #[.pointer (some ⟨c.gb,0,none⟩),c.vsl i,.int .i64 k,.int .i64 n] W (StepP c (Vm.set c.O.name ⟨c.O,vv⟩ i k n s)):=by
 have j:=(h.vm i l).1
 have g:vv.getD i []=vv[i]:=by rw[List.getD_eq_getElem?_getD,List.getElem?_eq_getElem l];rfl
 have u:W.cell? ⟨c.gb,5,none⟩=some (.int .i64 (s.way:Int)):=(za d).trans rfl
 have y:W.frozen? ⟨c.gb,5,none⟩=false:=zi d
 unfold Vx.vsl
 by_cases o:0<=k/\k<(c.vl i:Int)
 ·obtain⟨A,B⟩:=o
  have r:=zh (jN c.gb (some ⟨c.vs i,0,none⟩) (c.vl i) (c.vl i) k A B W)
  obtain⟨b,rfl⟩:∃b:Nat,k=(b:Int):=⟨k.toNat,by omega⟩
  have p:b<vv[i].length:=by omega
  obtain⟨F,G,H⟩:=vcell h l p
  obtain⟨C,z⟩:=MV.var h ok d i b l p n D
  have f:Hid (StepP c (Vm.set c.O.name ⟨c.O,vv⟩ i (b:Int) n s) (.returned (.tuple #[])) (W.setCell ⟨c.vs i,b,none⟩ (.int .i64 n))):=⟨rfl,by
   unfold Vm.set
   rw[if_pos (by show _/\_<((vv.getD i []).length:Int);rw[g,j];exact⟨A,B⟩)]
   have e:(fun m=>if m=c.O.name then some (Vm.laid ⟨c.O,vv⟩ i (((⟨c.O,vv⟩:Pl).vars.getD i []).set (b:Int).toNat n)) else s.there m)=thr c.O (vv.set i (vv[i].set b n)):=by
    funext m
    unfold thr Vm.laid
    rw[h.th,Int.toNat_natCast]
    show (if m=c.O.name then some ⟨c.O,vv.set i ((vv.getD i []).set b n)⟩ else thr c.O vv m)=_
    rw[g]
    by_cases q:m=c.O.name
    ·rw[if_pos q,if_pos q]
    ·rw[if_neg q,if_neg q,thr,if_neg q]
   rw[e]
   exact⟨_,t,sv,w,C,z⟩⟩
  generalize vv[i][b]=x at *
  clear h ok d u y j p C z g
  generalize c.vl i=m at *
  generalize c.vs i=vb at *
  go_enter Tryz.func106,Tryz.ntmps106
  go_wp2_with fail
  refine r.out.mono ?_
  rintro e E⟨rfl,rfl⟩
  go_wp2_with fail
  first|exact ze rfl rfl f.out|exact bodyPost_ret (v:=.tuple #[]) (by simp[results,Tryz.results106,go_sem]) rfl f.out
 ·have r:=zh (xU (gb:=c.gb) (a:=some ⟨c.vs i,0,none⟩) (cap:=c.vl i) o u y)
  have f:Hid (StepP c (Vm.set c.O.name ⟨c.O,vv⟩ i k n s) (.returned (.tuple #[])) (W.setCell ⟨c.gb,5,none⟩ (.int .i64 3))):=⟨rfl,by
   unfold Vm.set
   rw[if_neg (by show ¬(_/\_<((vv.getD i []).length:Int));rw[g,j];exact o)]
   exact MV.end h ok d 3⟩
  clear h ok d u y j o g
  generalize c.vl i=m at *
  generalize c.vs i=vb at *
  go_enter Tryz.func106,Tryz.ntmps106
  go_wp2_with fail
  refine r.out.mono ?_
  rintro e E⟨rfl,rfl⟩
  go_wp2_with fail
  first|exact ze rfl rfl f.out|exact bodyPost_ret (v:=.tuple #[]) (by simp[results,Tryz.results106,go_sem]) rfl f.out
theorem MM.vsl {c:Vx}{W:World}{s:St}{vv:List (List Int)}{d sv f:Value}(h:MM c W s vv d sv f){i:Nat}(e:i<vv.length):c.va=some ⟨c.vb,0,none⟩/\c.vb<W.heap.size/\W.cell? ⟨c.vb,i,none⟩=some (c.vsl i):=by
 have b:i<c.O.vars.length:=by rw[<-h.vn];exact e
 rcases h.vk with⟨_,a,_⟩|⟨g,cap,cur,h1,a,h3,h4,_,h6,h7⟩
 ·omega
 ·simp only[Value.slice.injEq]at h1
  subst a
  refine⟨h1.1,zc h3,?_⟩
  rw[za h3,<-Array.getElem?_toList]
  have:=congrArg (·[i]?) h7
  simp only[List.getElem?_take_of_lt (show i<c.O.vars.length*1 by omega)]at this
  rw[this]
  simp[b]
theorem reached8 {L M:Value}{X:Nat}(h:MM c W s vv L sv M)(ok:VxOk c)(o:G8 c W L sv M X){f:Fr}{fs:List Fr}(A:s.frames=f :: fs){i:Nat}(Y:i<vv.length)(op:Int) :
  Calls Tryz.prog 105 #[.pointer (some ⟨c.gb,0,none⟩),.agg #[.int .i64 op,.int .i64 (i:Int),.int .i64 (-1)]] W fun e z=>e=.returned (c.vsl i)/\Below W.heap.size W z:=by
 obtain⟨fb,cap,H,F,a0,G⟩:=h.top A
 obtain⟨J,y,K⟩:=h.vsl Y
 have m:=h.pk
 rw[J]at m
 obtain⟨g,u⟩:∃g,g=W.alloc (.cells #[.int .i64 op,.int .i64 (i:Int),.int .i64 (-1)] 138):=⟨_,rfl⟩
 have j:Below W.heap.size W g:=by rw[u];exact zb _ _
 have x:g.heap[W.heap.size]?=some (.cells #[.int .i64 op,.int .i64 (i:Int),.int .i64 (-1)] 138 (0,0)):=by rw[u];exact zl _ _
 have Q:W.heap.size<g.heap.size:=zc x
 have I:=zc o
 have a2:(i:Int)<(c.O.vars.length:Int):=by have:=h.vn;omega
 have Z:∀b,Below g.heap.size g b->b.cell? ⟨c.gb,1,none⟩=some (.slice (some ⟨fb,0,none⟩) (fs.length+1) cap):=fun b l=>((j.trans (l.mono j.size)).cell (p:=⟨c.gb,1,none⟩) I).trans ((za o).trans (by rw[H];rfl))
 have t:Hid (∀b,Below g.heap.size g b->b.cell? ⟨W.heap.size,0,none⟩=some (.int .i64 op)/\b.cell? ⟨W.heap.size,1,none⟩=some (.int .i64 (i:Int))/\b.cell? ⟨W.heap.size,2,none⟩=some (.int .i64 (-1))/\b.cell? ⟨c.pb,1,none⟩=some (.slice (some ⟨c.vb,0,none⟩) c.O.vars.length c.vc)/\b.cell? ⟨c.vb,i,none⟩=some (c.vsl i)/\b.cell? ⟨fb,fs.length*14,none⟩=some (.pointer (some ⟨c.pb,0,none⟩))):=fun b l=>by
  have k:=j.trans (l.mono j.size)
  have e:=(l.block _ Q).trans x
  exact⟨(za e).trans rfl,(za e).trans rfl,(za e).trans rfl,(za ((k.block _ (zc m)).trans m)).trans rfl,(k.cell (p:=⟨c.vb,i,none⟩) y).trans K,(k.cell (p:=⟨fb,fs.length*14,none⟩) F).trans (G 0 _ rfl)⟩
 have N:Hid (∀b,Below g.heap.size g b->Calls Tryz.prog 100 #[.pointer (some ⟨c.gb,0,none⟩)] b fun e z=>e=.returned (.pointer (some ⟨fb,fs.length*14,none⟩))/\Below b.heap.size b z):=fun b l=>by
  have k:=j.trans (l.mono j.size)
  exact last8 (s:=s) (h.below ok o k) ((k.block _ I).trans o) A H
 have a3:c.pb<g.heap.size:=Nat.lt_of_lt_of_le (zc m) j.size
 have a4:c.vb<g.heap.size:=Nat.lt_of_lt_of_le y j.size
 have a1:fb<g.heap.size:=Nat.lt_of_lt_of_le F j.size
 have B:=zh j
 have r:Hid (Below g.heap.size g g.drew):=zt g
 have D:=zh (t.out _ r.out)
 obtain⟨x0,x1,x2,x3,x4,x5⟩:=t.out g (Below.refl _ _)
 clear h o A m j x Z G J y K
 obtain⟨V,w⟩:∃v,v=c.vsl i:=⟨_,rfl⟩
 rw[<-w]at t D x4 ⊢
 have R:∃a n d,V=.slice a n d:=⟨_,_,_,w⟩
 clear w
 obtain⟨S,U,T,rfl⟩:=R
 generalize c.O.vars.length=nv at *
 generalize fs.length=q at *
 go_enter Tryz.func105,Tryz.ntmps105
 go_upto_region 1 with fail
 rw[<-u]
 clear u
 go_wp2_with fail
 go_region_held3 (fun b=>b.cell? ⟨W.heap.size,0,none⟩=some (.int .i64 op)/\b.cell? ⟨W.heap.size,1,none⟩=some (.int .i64 (i:Int))/\b.cell? ⟨W.heap.size,2,none⟩=some (.int .i64 (-1))/\b.cell? ⟨c.pb,1,none⟩=some (.slice (some ⟨c.vb,0,none⟩) nv c.vc)/\b.cell? ⟨c.vb,i,none⟩=some (.slice S U T)/\b.cell? ⟨fb,q*14,none⟩=some (.pointer (some ⟨c.pb,0,none⟩))) (with_reducible (first|exact P.out|exact D.out)) (first|(go_at_call 100;refine(N.out _ r.out).mono ?_;rintro e b ⟨rfl,E⟩;have C:Hid (Below g.heap.size g b):=r.out.trans (E.mono r.out.size);have P:=zh (t.out b C.out);clear E))
 all_goals
  go_wp2_with fail
  go_ret
  exact⟨rfl,B.out.trans (C.out.mono B.out.size)⟩
end Go.Proofs.YtbkndnmglhghlaaGreatDoor.Jo
