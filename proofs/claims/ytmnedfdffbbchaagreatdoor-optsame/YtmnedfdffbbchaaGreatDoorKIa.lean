import Derived.Test.YtmnedfdffbbchaaGreatDoorKEa
import Derived.Test.YtmnedfdffbbchaaGreatDoorKJd
import Derived.Test.YtmnedfdffbbchaaGreatDoorKBa
import Derived.Test.YtmnedfdffbbchaaGreatDoorKVa
import Derived.Lib.Hide
import Derived.BigQuiet
set_option maxRecDepth 100000
set_option maxHeartbeats 4000000

namespace Go.Proofs.YtmnedfdffbbchaaGreatDoor.Jo
open Go.RowKit Go.Maps
open Ob (O In I64)
open Vm (St Fr Pl)
def ints (l:List Int):List Value:=l.map fun n=>.int .i64 n
theorem j6 (l:List Int):(ints l).length=l.length:=by simp[ints]
theorem kZ (l:List Int) (n:Int):ints (l++[n])=ints l++[.int .i64 n]:=by simp[ints]
theorem ints_get (l:List Int) (i:Nat) (h:i<l.length):(ints l)[i]?=some (.int .i64 l[i]):=by simp[ints,h]
theorem ints_set (l:List Int) (i:Nat) (n:Int):ints (l.set i n)=(ints l).set i (.int .i64 n):=by simp[ints]
structure Vx where
 w0:World
 gb:Nat
 pb:Nat
 vb:Nat
 tb:Nat
 ob:Nat
 oo:Nat
 O:O
 most:Nat
 vs:Nat->Nat
 va:Option Addr
 vc:Nat
 eb:Nat->Option Obj
def Vx.vl (c:Vx) (i:Nat):Nat:=(max 1 ((c.O.vars[i]?.map fun g:Ob.Gl=>g.len).getD 1)).toNat
def Vx.vsl (c:Vx) (i:Nat):Value:=.slice (some ⟨c.vs i,0,none⟩) (c.vl i) (c.vl i)
structure VxOk (c:Vx):Prop where
 oa:Jo.OA c.w0 c.ob c.oo c.O
 rt:Ob.rightB c.O=true
 i64:∀ x∈c.O.code,I64 x.a
 us:c.O.uses=[]
 gb:c.w0.heap.size<=c.gb
 pb:c.w0.heap.size<=c.pb/\c.pb≠c.gb
 vb:c.w0.heap.size<=c.vb/\c.vb≠c.gb
 vs:∀ i,i<c.O.vars.length->c.w0.heap.size<=c.vs i/\c.vs i<c.gb/\c.vs i≠c.pb/\c.vs i≠c.vb
 inj:∀ i j,i<c.O.vars.length->j<c.O.vars.length->c.vs i=c.vs j->i=j
 ml:c.most<=31
 gm:1<c.w0.heap.size
 mrk:∀ i,i<11->c.w0.cell? ⟨1,i,none⟩=some (.string (bs (Vm.marks8.getD i [])))
def frC (c:Vx) (f:Fr):List Value:=[.pointer (some ⟨c.pb,0,none⟩),.int .i64 (f.at':Int),.int .i64 (f.base:Int),.int .i64 (f.many:Int)]++ints f.locals
def frs (c:Vx) (l:List Fr):List Value:=(l.reverse.map (frC c)).flatten
theorem kF (c:Vx) (f:Fr) (l:List Fr):frs c (f :: l)=frs c l++frC c f:=by simp[frs]
def thr (o:O) (vv:List (List Int)):Tp.Bs->Option Pl:=fun m=>if m=o.name then some ⟨o,vv⟩ else none
structure FrOk (c:Vx) (f:Fr):Prop where
 of:f.of=c.O.name
 ll:f.locals.length=10
 li:∀ v∈f.locals,I64 v
 mn:f.many<=10
 at':f.at'<=4000
 bs:f.base<=10000
def Wet (e:Nat):Prop:=e=90\/e=87
def Far (c:Vx) (sv ov:Value) (b:Nat) (o:Obj):Prop:=∀ cs e f,o=.cells cs e f->¬Wet e/\(e=2->(∀ i,i<c.O.vars.length->c.vs i≠b)/\sv.ownBlock≠some b/\ov.ownBlock≠some b)
theorem Far.rows {c:Vx}{sv ov sv' ov':Value}{b n:Nat}{o:Obj}(h:Far c sv ov b o) (hb:b<n) (h1:∀ g,sv'.ownBlock=some g->sv.ownBlock=some g\/n<=g) (h2:∀ g,ov'.ownBlock=some g->ov.ownBlock=some g\/n<=g):Far c sv' ov' b o:=fun cs e f q=>⟨(h cs e f q).1,fun r=>⟨((h cs e f q).2 r).1,fun k=>by
 rcases h1 b k with k|k
 ·exact((h cs e f q).2 r).2.1 k
 ·omega,fun k=>by
 rcases h2 b k with k|k
 ·exact((h cs e f q).2 r).2.2 k
 ·omega⟩⟩
structure MM (c:Vx) (W:World) (s:St) (vv:List (List Int)) (fv sv ov:Value):Prop where
 be:Below c.w0.heap.size c.w0 W
 pk:W.heap[c.pb]?=some (.cells #[.pointer (some ⟨c.ob,c.oo,none⟩),.slice c.va c.O.vars.length c.vc] 95 (0,0))
 vk:Row W (fun b=>b=c.vb) 23 1 (.slice c.va c.O.vars.length c.vc) c.O.vars.length ((List.range c.O.vars.length).map c.vsl)
 th:s.there=thr c.O vv
 vn:vv.length=c.O.vars.length
 vm:∀ i (h:i<vv.length),vv[i].length=c.vl i/\W.heap[c.vs i]?=some (.cells (ints vv[i]).toArray 2 (0,0))/\∀ v∈vv[i],I64 v
 fr:W.ownsRow c.w0.heap.size 87 14 fv s.frames.length (frs c s.frames)
 st:W.ownsRow (c.gb+1) 2 1 sv s.stack.length (ints s.stack.reverse)
 ou:W.ownsRow (c.gb+1) 2 1 ov s.out.length (ints s.out)
 dj:∀ b,sv.ownBlock=some b->ov.ownBlock≠some b
 sl:s.stack.length<=10000
 si:∀ v∈s.stack,I64 v
 ol:s.out.length<=200
 oi:∀ v∈s.out,I64 v
 fl:s.frames.length<=31
 fm:s.frames.length<=c.most
 ff:∀ f∈s.frames,FrOk c f
 ek:∀ b o,c.eb b=some o->W.heap[b]?=some o/\Far c sv ov b o
def G8 (c:Vx) (W:World) (fv sv ov:Value) (way:Nat):Prop:=W.heap[c.gb]?=some (.cells #[.map (some c.tb),fv,.int .i64 (c.most:Int),sv,ov,.int .i64 (way:Int)] 90 (0,0))
def MV (c:Vx) (W:World) (s:St):Prop:=∃ vv fv sv ov,MM c W s vv fv sv ov/\G8 c W fv sv ov s.way
theorem vK {w:World}{b b' e e':Nat}{cs cs':Array Value}(h:w.heap[b]?=some (.cells cs e (0,0))) (h':w.heap[b']?=some (.cells cs' e' (0,0))) (he:e≠e'):b≠b':=fun q=>by
 rw[q,h']at h
 injection h with h
 injection h with _ h
 exact he h.symm
theorem yC {w:World}{b:Nat}{o:Obj}(h:w.heap[b]?=some o):b<w.heap.size:=by
 rcases Nat.lt_or_ge b w.heap.size with q|q
 ·exact q
 ·rw[Array.getElem?_eq_none q]at h;cases h
theorem xm {c:Vx}{sv ov:Value}{w:World}{b b' e:Nat}{o:Obj}{cs:Array Value}(h:w.heap[b]?=some o/\Far c sv ov b o) (h':w.heap[b']?=some (.cells cs e (0,0))) (he:Wet e):b≠b':=fun q=>by
 have h1:=h.1
 rw[q,h']at h1
 injection h1 with h1
 exact(h.2 _ _ _ h1.symm).1 he
theorem far_own {c:Vx}{sv ov:Value}{w:World}{base e size n b:Nat}{v:Value}{xs:List Value}{o:Obj}(h:w.ownsRow base e size v n xs) (hb:w.heap[b]?=some o/\Far c sv ov b o) (he:Wet e):v.ownBlock≠some b:=by
 intro q
 rcases h.2 with⟨rfl,_⟩|⟨g',cap,cur,rfl,_,h2,_⟩
 ·cases q
 ·cases q
  exact xm hb h2 he rfl
theorem far_row {c:Vx}{sv ov:Value}{w:World}{base size n b:Nat}{v:Value}{xs:List Value}{o:Obj}(h:w.ownsRow base 2 size v n xs) (hb:w.heap[b]?=some o/\Far c sv ov b o) (hv:v=sv\/v=ov):v.ownBlock≠some b:=by
 intro q
 rcases h.2 with⟨r,_⟩|⟨g',cap,cur,r,_,h2,_⟩
 ·rw[r]at q;cases q
 ·have e:g'=b:=by rw[r]at q;cases q;rfl
  rw[e,hb.1]at h2
  cases h2
  have:=(hb.2 _ _ _ rfl).2 rfl
  rcases hv with hv|hv
  ·exact this.2.1 (hv ▸ q)
  ·exact this.2.2 (hv ▸ q)
theorem far_var {c:Vx}{sv ov:Value}{w:World}{i b:Nat}{o:Obj}{cs:Array Value}(hi:i<c.O.vars.length) (h:w.heap[b]?=some o/\Far c sv ov b o) (h':w.heap[c.vs i]?=some (.cells cs 2 (0,0))):b≠c.vs i:=fun q=>by
 have h1:=h.1
 rw[q,h']at h1
 injection h1 with h1
 exact((h.2 _ _ _ h1.symm).2 rfl).1 i hi q.symm
theorem zJ {w:World}{base e e' size n g:Nat}{v:Value}{xs:List Value}{cs:Array Value}(h:w.ownsRow base e size v n xs) (hg:w.heap[g]?=some (.cells cs e' (0,0))) (he:e≠e'):v.ownBlock≠some g:=by
 intro q
 rcases h.2 with⟨rfl,_⟩|⟨g',cap,cur,rfl,_,h2,_⟩
 ·cases q
 ·cases q
  rw[h2]at hg
  injection hg with hg
  injection hg with _ hg
  exact he hg
theorem yF {w:World}{base base' e e' size size' n n' g:Nat}{v v':Value}{xs xs':List Value}(h:w.ownsRow base e size v n xs) (h':w.ownsRow base' e' size' v' n' xs') (he:e≠e') (hg:v.ownBlock=some g):v'.ownBlock≠some g:=by
 intro q
 rcases h'.2 with⟨rfl,_⟩|⟨g',cap,cur,rfl,_,h2,_⟩
 ·cases q
 ·cases q
  exact zJ h h2 he hg
theorem yq {w w':World}{D:Nat->Prop}{e size n:Nat}{v:Value}{cs:List Value}(h:Row w D e size v n cs) (k:∀ b cur,D b->w.heap[b]?=some (.cells cur e (0,0))->w'.heap[b]?=w.heap[b]?):Row w' D e size v n cs:=by
 rcases h with h|⟨g,cap,cur,h1,h2,h3,h4⟩
 ·exact Or.inl h
 ·exact Or.inr ⟨g,cap,cur,h1,h2,(k g cur h2 h3).trans h3,h4⟩
theorem MM.on {c:Vx}{W W':World}{s:St}{vv:List (List Int)}{fv sv ov:Value}{cs:Array Value}(h:MM c W s vv fv sv ov) (ok:VxOk c) (hg:W.heap[c.gb]?=some (.cells cs 90 (0,0))) (be:Below c.w0.heap.size c.w0 W') (k:∀ b,b<W.heap.size->b≠c.gb->W'.heap[b]?=W.heap[b]?):MM c W' s vv fv sv ov:=by
 refine⟨be,(k _ (zk h.pk) ok.pb.2).trans h.pk,yq h.vk fun b cur hb hc=>k b (zk hc) (hb ▸ ok.vb.2),h.th,h.vn,fun i hi=>?_,?_,?_,?_,h.dj,h.sl,h.si,h.ol,h.oi,h.fl,h.fm,h.ff,fun b o hb=>⟨(k _ (yC (h.ek b o hb).1) (xm (h.ek b o hb) hg (by unfold Wet;decide))).trans (h.ek b o hb).1,(h.ek b o hb).2⟩⟩
 ·obtain⟨a1,a2,a3⟩:=h.vm i hi
  have:=(ok.vs i (by rw[<-h.vn];exact hi)).2.1
  exact⟨a1,(k _ (zk a2) (by omega)).trans a2,a3⟩
 ·exact z7 h.fr fun b _ q1 q2=>k b q1 fun e=>zJ h.fr hg (by decide) (e ▸ q2)
 ·exact z7 h.st fun b q0 q1 _=>k b q1 (by omega)
 ·exact z7 h.ou fun b q0 q1 _=>k b q1 (by omega)
theorem MM.below {c:Vx}{W W':World}{s:St}{vv:List (List Int)}{fv sv ov:Value}{cs:Array Value}(h:MM c W s vv fv sv ov) (ok:VxOk c) (hg:W.heap[c.gb]?=some (.cells cs 90 (0,0))) (k:Below W.heap.size W W'):MM c W' s vv fv sv ov :=
 h.on ok hg (h.be.trans (k.mono h.be.size)) fun b hb _=>k.block b hb
theorem MV.below {c:Vx}{W W':World}{s:St}(h:MV c W s) (ok:VxOk c) (k:Below W.heap.size W W'):MV c W' s:=by
 obtain⟨vv,fv,sv,ov,h1,h2⟩:=h
 exact⟨vv,fv,sv,ov,h1.below ok h2 k,(k.block _ (zk h2)).trans h2⟩
theorem MM.gcell {c:Vx}{W:World}{s:St}{vv:List (List Int)}{fv sv ov:Value}{cs:Array Value}(h:MM c W s vv fv sv ov) (ok:VxOk c) (hg:W.heap[c.gb]?=some (.cells cs 90 (0,0))) (j:Nat) (u:Value):MM c (W.setCell ⟨c.gb,j,none⟩ u) s vv fv sv ov :=
 h.on ok hg (h.be.setCell ok.gb _) fun b _ hb=>Below.heap_setCell _ _ _ _ (by simpa using hb)
theorem MM.end {c:Vx}{W:World}{s:St}{vv:List (List Int)}{fv sv ov:Value}(h:MM c W s vv fv sv ov) (n:Nat):MM c W (Vm.ended n s) vv fv sv ov :=
 ⟨h.be,h.pk,h.vk,h.th,h.vn,h.vm,h.fr,h.st,h.ou,h.dj,h.sl,h.si,h.ol,h.oi,h.fl,h.fm,h.ff,h.ek⟩
theorem MV.end {c:Vx}{W:World}{s:St}{vv:List (List Int)}{fv sv ov:Value}{n0:Nat}(h:MM c W s vv fv sv ov) (ok:VxOk c) (hg:G8 c W fv sv ov n0) (n:Nat):MV c (W.setCell ⟨c.gb,5,none⟩ (.int .i64 (n:Int))) (Vm.ended n s) :=
 ⟨vv,fv,sv,ov,(h.gcell ok hg 5 _).end n,zC 5 _ hg⟩
theorem jy {w:World}{base e sz n k:Nat}{v:Value}{xs ys:List Value}{a:Option Addr}{cap:Nat}(h:w.ownsRow base e sz v n (xs++ys)) (hv:v=.slice a n cap) (hx:xs.length=k * sz) (hk:k<=n):w.ownsRow base e sz (.slice a k cap) k xs:=by
 refine⟨hx,?_⟩
 rcases h.2 with⟨q,q'⟩|⟨g,cap',cur,q,q1,q2,q3,q4,q5,q6⟩
 ·rw[hv]at q
  cases q
  exact Or.inl ⟨by rw[show k=0 by omega],by omega⟩
 ·rw[hv]at q
  cases q
  refine Or.inr ⟨g,_,cur,rfl,q1,q2,by omega,q4,q5,?_⟩
  have hle:k * sz<=n * sz:=Nat.mul_le_mul_right _ hk
  have:=congrArg (List.take (k * sz)) q6
  rw[List.take_take,Nat.min_eq_left hle]at this
  rw[this,<-hx,List.take_left]
theorem MM.less {c:Vx}{W:World}{s:St}{vv:List (List Int)}{fv ov:Value}{sa:Option Addr}{n cap:Nat}(h:MM c W s vv fv (.slice sa n cap) ov) {r t:List Int}(hs:s.stack=t++r):MM c W { s with stack:=r } vv fv (.slice sa r.length cap) ov:=by
 have hst:=h.st
 obtain⟨a',c',e⟩:=zy hst
 have hnn:n=s.stack.length:=by cases e;rfl
 have hr:ints s.stack.reverse=ints r.reverse++ints t.reverse:=by rw[hs];simp[ints]
 rw[hr]at hst
 refine⟨h.be,h.pk,h.vk,h.th,h.vn,h.vm,h.fr,jy hst (by rw[hnn]) (by simp[ints]) (by rw[hs,List.length_append];omega),h.ou,fun b hb=>?_,?_,fun v hv=>h.si v (by rw[hs];exact List.mem_append.2 (Or.inr hv)),h.ol,h.oi,h.fl,h.fm,h.ff,fun b o hb=>⟨(h.ek b o hb).1,(h.ek b o hb).2.rows (yC (h.ek b o hb).1) (fun g q=>Or.inl (by cases sa <;> exact q)) fun g q=>Or.inl q⟩⟩
 ·rcases sa with _|a
  ·cases hb
  ·exact h.dj b hb
 ·have:=h.sl
  rw[hs,List.length_append]at this
  show r.length<=10000
  omega
structure Kg (c:Vx) (W W':World):Prop where
 be:Below c.w0.heap.size W W'
 block:∀ b,b<W.heap.size->b≠c.gb->W'.heap[b]?=W.heap[b]?
theorem Kg.below {c:Vx}{W W':World}(h:Below W.heap.size W W') (hw:c.w0.heap.size<=W.heap.size):Kg c W W':=⟨h.mono hw,fun b hb _=>h.block b hb⟩
theorem Kg.trans {c:Vx}{W1 W2 W3:World}(h:Kg c W1 W2) (k:Kg c W2 W3):Kg c W1 W3:=⟨h.be.trans k.be,fun b hb hn=>(k.block b (Nat.lt_of_lt_of_le hb h.be.size) hn).trans (h.block b hb hn)⟩
theorem Kg.set {c:Vx}{W W':World}(h:Kg c W W') (ok:VxOk c) (j:Nat) (u:Value):Kg c W (W'.setCell ⟨c.gb,j,none⟩ u):=⟨h.be.setCell ok.gb _,fun b hb hn=>(Below.heap_setCell _ _ _ _ (by simpa using hn)).trans (h.block b hb hn)⟩
theorem jz {w:World}{base e size n:Nat}{v:Value}{xs:List Value}(h:w.ownsRow base e size v n xs) (hn:0<n):∃ g cap,v=.slice (some ⟨g,0,none⟩) n cap/\base<=g/\g<w.heap.size/\n<=cap/\∀ k,k<n * size->w.cell? ⟨g,k,none⟩=xs[k]?:=by
 rcases h.2 with⟨_,h2⟩|⟨g,cap,cur,h1,h2,h3,h4,h5,h6,h7⟩
 ·omega
 ·refine⟨g,cap,h1,h2,zk h3,h4,fun k hk=>?_⟩
  rw[zc h3,<-Array.getElem?_toList,<-h7,List.getElem?_take_of_lt hk]
theorem vZ (c:Vx) (l:List Fr) (h:∀ f∈l,f.locals.length=10):(frs c l).length=l.length * 14:=by
 induction l with
 | nil=>rfl
 | cons f l ih =>
  rw[kF,List.length_append,ih fun x hx=>h x (List.mem_cons_of_mem _ hx),List.length_cons]
  have:=h f (by simp)
  simp[frC,ints,this]
  omega
theorem MM.top {c:Vx}{W:World}{s:St}{vv:List (List Int)}{fv sv ov:Value}(h:MM c W s vv fv sv ov) {f:Fr}{fs:List Fr}(hf:s.frames=f :: fs):∃ fb cap,fv=.slice (some ⟨fb,0,none⟩) (fs.length+1) cap/\fb<W.heap.size/\fs.length+1<=cap/\∀ j u,(frC c f)[j]?=some u->W.cell? ⟨fb,fs.length * 14+j,none⟩=some u:=by
 have hfr:=h.fr
 have hff:=h.ff
 rw[hf]at hfr hff
 obtain⟨g,cap,h1,h2,h3,h4,h5⟩:=jz hfr (by simp)
 refine⟨g,cap,h1,h3,by simpa using h4,fun j u hj=>?_⟩
 have hl:(frs c fs).length=fs.length * 14:=vZ c fs fun x hx=>(hff x (List.mem_cons_of_mem _ hx)).ll
 have h14:(frC c f).length=14:=by have:=(hff f (by simp)).ll;simp[frC,ints,this]
 have hj':j<14:=by rw[<-h14];exact(List.getElem?_eq_some_iff.1 hj).1
 rw[h5 _ (by simp only [List.length_cons];omega),kF,List.getElem?_append_right (by omega),hl,Nat.add_sub_cancel_left]
 exact hj
theorem last8 {c:Vx}{W:World}{s:St}{vv:List (List Int)}{fv sv ov:Value}{way:Nat}(h:MM c W s vv fv sv ov) (hg:G8 c W fv sv ov way) {f:Fr}{fs:List Fr}(hf:s.frames=f :: fs) {fb cap:Nat}(hv:fv=.slice (some ⟨fb,0,none⟩) (fs.length+1) cap) :
  Calls Tryz.prog 104 #[.pointer (some ⟨c.gb,0,none⟩)] W fun e W'=>e=.returned (.pointer (some ⟨fb,fs.length * 14,none⟩))/\Below W.heap.size W W':=by
 subst hv
 have k1:W.cell? ⟨c.gb,1,none⟩=some (.slice (some ⟨fb,0,none⟩) (fs.length+1) cap):=(zc hg).trans rfl
 have hgl:=zk hg
 have hn:(fs.length:Int)<=30:=by have:=h.fl;rw[hf,List.length_cons]at this;omega
 clear h hg hf
 generalize fs.length=n at *
 have e1:((n+1:Nat):Int)=(n:Int)+1:=by omega
 go_enter Tryz.func104,Tryz.ntmps104
 go_wp2_with fail
 go_quiet (fail)
 go_wp2_with fail
 go_ret
 exact⟨rfl,below_drewN W nq⟩
def TakeP (c:Vx) (W:World) (s:St) (f:Fr) (vv:List (List Int)) (fv sv ov:Value) (e:Ending) (W':World):Prop:=Kg c W W'/\if s.stack.length<=f.base then e=.returned (.tuple #[.int .i64 0,.bool false])/\MM c W' s vv fv sv ov/\G8 c W' fv sv ov 8 else ∃ n r sv',s.stack=n :: r/\e=.returned (.tuple #[.int .i64 n,.bool true])/\MM c W' { s with stack:=r } vv fv sv' ov/\G8 c W' fv sv' ov s.way
theorem take8 {c:Vx}{W:World}{s:St}{vv:List (List Int)}{fv sv ov:Value}(h:MM c W s vv fv sv ov) (ok:VxOk c) (hg:G8 c W fv sv ov s.way) {f:Fr}{fs:List Fr}(hf:s.frames=f :: fs) :
  Calls Tryz.prog 106 #[.pointer (some ⟨c.gb,0,none⟩)] W (TakeP c W s f vv fv sv ov):=by
 obtain⟨fb,cap,hfv,hfb,hcap,hfc⟩:=h.top hf
 have HL:=zh (last8 h hg hf hfv)
 obtain⟨sa,sc,hsv⟩:=zy h.st
 subst hsv
 have k3:W.cell? ⟨c.gb,3,none⟩=some (.slice sa s.stack.length sc):=(zc hg).trans rfl
 have hgl:=zk hg
 have kb:W.cell? ⟨fb,fs.length * 14+2,none⟩=some (.int .i64 (f.base:Int)):=hfc 2 _ rfl
 have hbs:=(h.ff f (by rw[hf];simp)).bs
 have hsl:=h.sl
 by_cases hl:s.stack.length<=f.base
 ·have hlt:(s.stack.length:Int) - 1<(f.base:Int):=by omega
  have HFIN:Hid (∀ W1,Below W.heap.size W W1->TakeP c W s f vv fv (.slice sa s.stack.length sc) ov (.returned (.tuple #[.int .i64 0,.bool false])) (W1.setCell ⟨c.gb,5,none⟩ (.int .i64 8))/\W1.heap[c.gb]?=W.heap[c.gb]?):=fun W1 hb=>by
   have e:=hb.block _ hgl
   refine⟨⟨(Kg.below hb h.be.size).set ok 5 _,?_⟩,e⟩
   rw[if_pos hl]
   exact⟨rfl,(h.below ok hg hb).gcell ok (e.trans hg) 5 _,zC 5 _ (e.trans hg)⟩
  have HG:=zh hg
  have HFB:=zh (fun W1 (hb:Below W.heap.size W W1)=>(hb.cell (p:=⟨fb,fs.length * 14+2,none⟩) hfb).trans kb)
  clear h hg hf hfv hfc hl ok kb
  generalize s.stack.length=m at *
  generalize (f.base:Int)=bs' at *
  generalize fs.length=q at *
  have hm:(m:Int)<=10000:=by omega
  go_enter Tryz.func106,Tryz.ntmps106
  go_wp2_with fail
  refine HL.out.mono ?_
  rintro e w1 ⟨rfl,hb1⟩
  obtain⟨hf1,hf2⟩:=HFIN.out w1 hb1
  have HF:=zh hf1
  have kb1:=HFB.out w1 hb1
  have hfb1:fb<w1.heap.size:=Nat.lt_of_lt_of_le hfb hb1.size
  have hgl1:c.gb<w1.heap.size:=Nat.lt_of_lt_of_le hgl hb1.size
  have k5:w1.cell? ⟨c.gb,5,none⟩=some (.int .i64 (s.way:Int)):=(zc (hf2.trans HG.out)).trans rfl
  have z5:w1.frozen? ⟨c.gb,5,none⟩=false:=zr (hf2.trans HG.out)
  clear hf1 hf2 hb1
  go_wp2_with fail
  exact bodyPost_ret (v:=.tuple #[.int .i64 0,.bool false]) (by simp[results,Tryz.results106,go_sem]) rfl HF.out
 ·have hlt:¬(s.stack.length:Int) - 1<(f.base:Int):=by omega
  obtain⟨n,r,hst⟩:∃ n r,s.stack=n :: r:=by
   cases hq:s.stack with
   | nil=>rw[hq]at hl;simp at hl
   | cons n r=>exact⟨n,r,rfl⟩
  have hrl:s.stack.length=r.length+1:=by rw[hst];rfl
  have hstk:=h.st
  obtain⟨sb,sc',hsv',_,hsb,hsc,hcell⟩:=jz hstk (by omega)
  cases hsv'
  have hc:=hcell r.length (by omega)
  rw[hst,List.reverse_cons,kZ,List.getElem?_append_right (by simp[ints]),show r.length - (ints r.reverse).length=0 by simp[ints]]at hc
  have hc:W.cell? ⟨sb,r.length,none⟩=some (.int .i64 n):=hc
  have HFIN:Hid (∀ W1,Below W.heap.size W W1->TakeP c W s f vv fv (.slice (some ⟨sb,0,none⟩) s.stack.length sc) ov (.returned (.tuple #[.int .i64 n,.bool true])) (W1.setCell ⟨c.gb,3,none⟩ (.slice (some ⟨sb,0,none⟩) r.length sc))/\W1.heap[c.gb]?=W.heap[c.gb]?):=fun W1 hb=>by
   have e:=hb.block _ hgl
   refine⟨⟨(Kg.below hb h.be.size).set ok 3 _,?_⟩,e⟩
   rw[if_neg hl]
   exact⟨n,r,_,hst,rfl,((h.below ok hg hb).less (t:=[n]) hst).gcell ok (e.trans hg) 3 _,zC 3 _ (e.trans hg)⟩
  have HG:=zh hg
  have HFB:=zh (fun W1 (hb:Below W.heap.size W W1)=>And.intro ((hb.cell (p:=⟨fb,fs.length * 14+2,none⟩) hfb).trans kb) ((hb.cell (p:=⟨sb,r.length,none⟩) hsb).trans hc))
  clear h hg hf hfv hfc hl ok kb hc hcell hst hstk
  rw[hrl]at HFIN HG k3 hlt hsl hsc ⊢
  clear hrl
  generalize r.length=m at *
  generalize (f.base:Int)=bs' at *
  generalize fs.length=q at *
  have hm:(m:Int)<10000:=by omega
  have hsc':(m:Int)<=(sc:Int):=by omega
  go_enter Tryz.func106,Tryz.ntmps106
  go_wp2_with fail
  refine HL.out.mono ?_
  rintro e w1 ⟨rfl,hb1⟩
  obtain⟨hf1,hf2⟩:=HFIN.out w1 hb1
  have HF:=zh hf1
  obtain⟨kb1,kn1⟩:=HFB.out w1 hb1
  have hfb1:fb<w1.heap.size:=Nat.lt_of_lt_of_le hfb hb1.size
  have hsb1:sb<w1.heap.size:=Nat.lt_of_lt_of_le hsb hb1.size
  have hgl1:c.gb<w1.heap.size:=Nat.lt_of_lt_of_le hgl hb1.size
  have k31:w1.cell? ⟨c.gb,3,none⟩=some (.slice (some ⟨sb,0,none⟩) (m+1) sc):=(zc (hf2.trans HG.out)).trans rfl
  have z31:w1.frozen? ⟨c.gb,3,none⟩=false:=zr (hf2.trans HG.out)
  clear hf1 hf2 hb1
  go_wp2_with fail
  exact bodyPost_ret (v:=.tuple #[.int .i64 n,.bool true]) (by simp[results,Tryz.results106,go_sem]) rfl HF.out
theorem Tryz.infoInt64:(Tryz.prog.info? 2).map (fun i=>(i.zero,i.size,i.bytes))=some (some (.int .i64 0),1,8):=by kernel_rfl
@[go_sem] theorem zeroI64 (w:World):(zeroValue 2).run Tryz.prog w=.ok (.int .i64 0) w:=by kernel_rfl
@[go_sem] theorem zeroI64s (w:World):(zeroValue 23).run Tryz.prog w=.ok (.slice none 0 0) w:=by kernel_rfl
theorem MV.more {c:Vx}{W w1 w5:World}{s:St}{vv:List (List Int)}{fv sv ov v':Value}{n:Int}(h:MM c W s vv fv sv ov) (ok:VxOk c) (hg:G8 c W fv sv ov s.way) (hb:Below W.heap.size W w1) (hn:s.stack.length<10000) (hi:I64 n)
  (q1:w5.ownsRow (c.gb+1) 2 1 v' (s.stack.length+1) (ints s.stack.reverse++[.int .i64 n])) (q2:w1.grownBy w5 sv.ownBlock) (q3:∀ g,v'.ownBlock=some g->sv.ownBlock=some g\/w1.heap.size<=g) :
  MV c (w5.setCell ⟨c.gb,3,none⟩ v') { s with stack:=n :: s.stack }:=by
 have hgl:=zk hg
 have hsz:=hb.size
 have hsv:∀ b,sv.ownBlock=some b->c.gb<b:=fun b hb'=>zG h.st b hb'
 have k5:∀ b,b<W.heap.size->sv.ownBlock≠some b->w5.heap[b]?=W.heap[b]?:=fun b hbl hne=>(q2.block b (Nat.lt_of_lt_of_le hbl hsz) (fun e=>hne e.symm)).trans (hb.block b hbl)
 have g5:w5.heap[c.gb]?=W.heap[c.gb]?:=k5 _ hgl fun e=>by have:=hsv _ e;omega
 have k6:∀ b,b<W.heap.size->b≠c.gb->sv.ownBlock≠some b->(w5.setCell ⟨c.gb,3,none⟩ v').heap[b]?=W.heap[b]?:=fun b hbl hn' hne=>(Below.heap_setCell _ _ _ _ (by simpa using hn')).trans (k5 b hbl hne)
 have hb5:Below c.w0.heap.size c.w0 w5:=(h.be.trans (hb.mono h.be.size)).grown q2 (Nat.le_trans h.be.size hsz) (fun k hk=>by have:=hsv k hk;have:=ok.gb;omega)
 refine⟨vv,fv,v',ov,⟨hb5.setCell ok.gb _,(k6 _ (zk h.pk) ok.pb.2 (zJ h.st h.pk (by decide))).trans h.pk,yq h.vk fun b cur hb' hc=>k6 b (zk hc) (hb' ▸ ok.vb.2) (zJ h.st hc (by decide)),h.th,h.vn,fun i hi'=>?_,?_,?_,?_,fun b hb'=>?_,by show (n :: s.stack).length<=10000;simp only [List.length_cons];omega,fun v hv=>?_,h.ol,h.oi,h.fl,h.fm,h.ff,fun b o hb=>⟨(k6 _ (yC (h.ek b o hb).1) (xm (h.ek b o hb) hg (by unfold Wet;decide)) (far_row h.st (h.ek b o hb) (Or.inl rfl))).trans (h.ek b o hb).1,(h.ek b o hb).2.rows (yC (h.ek b o hb).1) (fun g q=>(q3 g q).imp id (Nat.le_trans hsz)) fun g q=>Or.inl q⟩⟩,?_⟩
 ·obtain⟨a1,a2,a3⟩:=h.vm i hi'
  have hv:=ok.vs i (by rw[<-h.vn];exact hi')
  exact⟨a1,(k6 _ (zk a2) (by omega) (fun e=>by have:=hsv _ e;omega)).trans a2,a3⟩
 ·exact z7 h.fr fun b _ q1' q2'=>k6 b q1' (fun e=>zJ h.fr hg (by decide) (e ▸ q2')) (yF h.fr h.st (by decide) q2')
 ·have e:ints (n :: s.stack).reverse=ints s.stack.reverse++[.int .i64 n]:=by rw[List.reverse_cons,kZ]
  show World.ownsRow _ _ _ _ _ (n :: s.stack).length (ints (n :: s.stack).reverse)
  rw[e,List.length_cons]
  exact z7 q1 fun b hbase _ _=>Below.heap_setCell _ _ _ _ (by simp;omega)
 ·exact z7 h.ou fun b q0 q1' q2'=>k6 b q1' (by omega) (fun e=>h.dj b e q2')
 ·rcases q3 b hb' with q|q
  ·exact h.dj b q
  ·exact fun e=>by have:=(h.ou.lt b e).2;omega
 ·rcases List.mem_cons.1 hv with rfl|hv
  ·exact hi
  ·exact h.si v hv
 ·exact zC 3 v' (g5.trans hg)
theorem MV.moreO {c:Vx}{W w1 w5:World}{s:St}{vv:List (List Int)}{fv sv ov v':Value}{n:Int}(h:MM c W s vv fv sv ov) (ok:VxOk c) (hg:G8 c W fv sv ov s.way) (hb:Below W.heap.size W w1) (hn:s.out.length<200) (hi:I64 n)
  (q1:w5.ownsRow (c.gb+1) 2 1 v' (s.out.length+1) (ints s.out++[.int .i64 n])) (q2:w1.grownBy w5 ov.ownBlock) (q3:∀ g,v'.ownBlock=some g->ov.ownBlock=some g\/w1.heap.size<=g) :
  MV c (w5.setCell ⟨c.gb,4,none⟩ v') { s with out:=s.out++[n] }:=by
 have hgl:=zk hg
 have hsz:=hb.size
 have hsv:∀ b,ov.ownBlock=some b->c.gb<b:=fun b hb'=>zG h.ou b hb'
 have k5:∀ b,b<W.heap.size->ov.ownBlock≠some b->w5.heap[b]?=W.heap[b]?:=fun b hbl hne=>(q2.block b (Nat.lt_of_lt_of_le hbl hsz) (fun e=>hne e.symm)).trans (hb.block b hbl)
 have g5:w5.heap[c.gb]?=W.heap[c.gb]?:=k5 _ hgl fun e=>by have:=hsv _ e;omega
 have k6:∀ b,b<W.heap.size->b≠c.gb->ov.ownBlock≠some b->(w5.setCell ⟨c.gb,4,none⟩ v').heap[b]?=W.heap[b]?:=fun b hbl hn' hne=>(Below.heap_setCell _ _ _ _ (by simpa using hn')).trans (k5 b hbl hne)
 have hb5:Below c.w0.heap.size c.w0 w5:=(h.be.trans (hb.mono h.be.size)).grown q2 (Nat.le_trans h.be.size hsz) (fun k hk=>by have:=hsv k hk;have:=ok.gb;omega)
 refine⟨vv,fv,sv,v',⟨hb5.setCell ok.gb _,(k6 _ (zk h.pk) ok.pb.2 (zJ h.ou h.pk (by decide))).trans h.pk,yq h.vk fun b cur hb' hc=>k6 b (zk hc) (hb' ▸ ok.vb.2) (zJ h.ou hc (by decide)),h.th,h.vn,fun i hi'=>?_,?_,?_,?_,fun b hb'=>?_,h.sl,h.si,by show (s.out++[n]).length<=200;simp only [List.length_append,List.length_singleton];omega,fun v hv=>?_,h.fl,h.fm,h.ff,fun b o hb=>⟨(k6 _ (yC (h.ek b o hb).1) (xm (h.ek b o hb) hg (by unfold Wet;decide)) (far_row h.ou (h.ek b o hb) (Or.inr rfl))).trans (h.ek b o hb).1,(h.ek b o hb).2.rows (yC (h.ek b o hb).1) (fun g q=>Or.inl q) fun g q=>(q3 g q).imp id (Nat.le_trans hsz)⟩⟩,?_⟩
 ·obtain⟨a1,a2,a3⟩:=h.vm i hi'
  have hv:=ok.vs i (by rw[<-h.vn];exact hi')
  exact⟨a1,(k6 _ (zk a2) (by omega) (fun e=>by have:=hsv _ e;omega)).trans a2,a3⟩
 ·exact z7 h.fr fun b _ q1' q2'=>k6 b q1' (fun e=>zJ h.fr hg (by decide) (e ▸ q2')) (yF h.fr h.ou (by decide) q2')
 ·exact z7 h.st fun b q0 q1' q2'=>k6 b q1' (by omega) (fun e=>h.dj b q2' e)
 ·show World.ownsRow _ _ _ _ _ (s.out++[n]).length (ints (s.out++[n]))
  rw[kZ,List.length_append,List.length_singleton]
  exact z7 q1 fun b hbase _ _=>Below.heap_setCell _ _ _ _ (by simp;omega)
 ·intro e
  rcases q3 b e with q|q
  ·exact h.dj b hb' q
  ·have:=(h.st.lt b hb').2;omega
 ·rcases List.mem_append.1 hv with hv|hv
  ·exact h.oi v hv
  ·rw[List.mem_singleton.1 hv];exact hi
 ·exact zC 4 v' (g5.trans hg)
theorem put8 {c:Vx}{W:World}{s:St}{vv:List (List Int)}{fv sv ov:Value}(h:MM c W s vv fv sv ov) (ok:VxOk c) (hg:G8 c W fv sv ov s.way) (n:Int) (hi:I64 n) :
  Calls Tryz.prog 105 #[.pointer (some ⟨c.gb,0,none⟩),.int .i64 n] W fun e W'=>e=.returned (.tuple #[])/\MV c W' (Vm.put n s):=by
 obtain⟨sa,sc,hsv⟩:=zy h.st
 subst hsv
 have k3:W.cell? ⟨c.gb,3,none⟩=some (.slice sa s.stack.length sc):=(zc hg).trans rfl
 have hgl:=zk hg
 by_cases hl:s.stack.length=10000
 ·have hfin:Hid (MV c (W.setCell ⟨c.gb,5,none⟩ (.int .i64 7)) (Vm.put n s)):=by
   unfold Hid Vm.put
   rw[if_pos hl]
   exact MV.end h ok hg 7
  have k5:W.cell? ⟨c.gb,5,none⟩=some (.int .i64 (s.way:Int)):=(zc hg).trans rfl
  have z5:W.frozen? ⟨c.gb,5,none⟩=false:=zr hg
  rw[hl]at k3
  clear h hg hl hi
  generalize (s.way:Int)=wy at *
  go_enter Tryz.func105,Tryz.ntmps105
  go_wp2_with fail
  exact bodyPost_ret (v:=.tuple #[]) (by simp[results,Tryz.results105,go_sem]) rfl ⟨rfl,hfin.out⟩
 ·obtain⟨i0,hi0,hz0,hz1,hz2⟩:=info_parts Tryz.infoInt64
  have hlt:s.stack.length<10000:=by have:=h.sl;omega
  have hne:¬((s.stack.length:Int)=10000):=by omega
  have ha:Below W.heap.size W (W.alloc (.cells #[.int .i64 n] 2)):=zb _ _
  have HO:Hid ((W.alloc (.cells #[.int .i64 n] 2)).ownsRow (c.gb+1) 2 1 (.slice sa s.stack.length sc) s.stack.length (ints s.stack.reverse)):=z7 h.st fun b _ hl _=>ha.block b hl
  have HNW:Hid (∀ j u,[Value.int .i64 n][j]?=some u->(W.alloc (.cells #[.int .i64 n] 2)).cell? (Addr.add ⟨W.heap.size,0,none⟩ j)=some u):=by
   intro j u hj
   match j,hj with
   | 0,hj=>simp at hj;subst hj;rw[Addr.add_lit,zc (zw _ _)];rfl
  have HFIN:Hid (∀ w5 v',w5.ownsRow (c.gb+1) 2 1 v' (s.stack.length+1) (ints s.stack.reverse++[.int .i64 n])->(W.alloc (.cells #[.int .i64 n] 2)).grownBy w5 (Value.slice sa s.stack.length sc).ownBlock->(∀ g,v'.ownBlock=some g->(Value.slice sa s.stack.length sc).ownBlock=some g\/(W.alloc (.cells #[.int .i64 n] 2)).heap.size<=g)->MV c (w5.setCell ⟨c.gb,3,none⟩ v') (Vm.put n s)/\w5.heap[c.gb]?=W.heap[c.gb]?):=fun w5 v' q1 q2 q3=>by
   refine⟨?_,(q2.block _ (Nat.lt_of_lt_of_le hgl ha.size) (fun e=>by have:=zG h.st _ e.symm;omega)).trans (ha.block _ hgl)⟩
   unfold Vm.put
   rw[if_neg hl]
   exact MV.more h ok hg ha hlt hi q1 q2 q3
  have HG:=zh hg
  clear h hg hl hi ha
  generalize hm:s.stack.length=m at *
  have hm1:m<=10000:=by omega
  go_enter Tryz.func105,Tryz.ntmps105
  go_wp2_with (at_builtin;refine zF _ rfl _ _ 23 rfl (c.gb+1) 2 i0 (.int .i64 0) 1 8 Tryz.underlying23 hi0 hz0 hz1 hz2 rfl (by decide) _ _ _ rfl HO.out ⟨W.heap.size,0,none⟩ 1 1 [.int .i64 n] rfl rfl HNW.out (by intro u hu;simp at hu;subst hu;rfl) (by unfold maxLen;omega) (by omega) (by simp;omega) ?_)
  intro v' w5 q1 q2 q3
  obtain⟨va,vc,rfl⟩:=zy q1
  obtain⟨hf1,hf2⟩:=HFIN.out w5 _ q1 q2 (fun g hg=>by simpa using q3 g hg)
  have HF:=zh hf1
  have k5:w5.cell? ⟨c.gb,3,none⟩=some (.slice sa m sc):=(zc (hf2.trans HG.out)).trans rfl
  have z5:w5.frozen? ⟨c.gb,3,none⟩=false:=zr (hf2.trans HG.out)
  have hg5:c.gb<w5.heap.size:=zi k5
  clear q1 q2 q3 hf1 hf2
  go_wp2_with fail
  exact ze rfl rfl ⟨rfl,HF.out⟩
def StepP (c:Vx) (s:St) (e:Ending) (W':World):Prop:=e=.returned (.tuple #[])/\MV c W' s
theorem yf {s:St}{b:Nat}{k:Int->St->St}(h:s.stack.length<=b):Vm.taken b s k=Vm.ended 8 s:=by
 unfold Vm.taken
 split
 ·rfl
 ·rename_i n r hs
  rw[hs,List.length_cons]at h
  rw[if_pos h]
theorem zM {s:St}{b:Nat}{k:Int->St->St}{n:Int}{r:List Int}(hs:s.stack=n :: r) (h:¬s.stack.length<=b):Vm.taken b s k=k n { s with stack:=r }:=by
 unfold Vm.taken
 split
 ·rename_i q;rw[hs]at q;cases q
 ·rename_i n' r' q
  rw[hs]at q
  cases q
  rw[hs,List.length_cons]at h
  rw[if_neg h]
theorem MM.mv8 {c:Vx}{W:World}{s:St}{vv:List (List Int)}{fv sv ov:Value}(h:MM c W s vv fv sv ov) (hg:G8 c W fv sv ov 8):MV c W (Vm.ended 8 s):=⟨vv,fv,sv,ov,h.end 8,hg⟩
def TwoP (c:Vx) (W:World) (s:St) (f:Fr) (vv:List (List Int)) (fv ov:Value) (e:Ending) (W':World):Prop:=Kg c W W'/\∃ t sv',MM c W' t vv fv sv' ov/\G8 c W' fv sv' ov t.way/\((∃ x y:Int,e=.returned (.tuple #[.int .i64 x,.int .i64 y,.bool false])/\∀ k:Int->Int->St->St,Vm.taken f.base s (fun b s=>Vm.taken f.base s fun a s=>k a b s)=t)\/∃ a b:Int,I64 a/\I64 b/\t.frames=s.frames/\e=.returned (.tuple #[.int .i64 a,.int .i64 b,.bool true])/\∀ k:Int->Int->St->St,Vm.taken f.base s (fun b s=>Vm.taken f.base s fun a s=>k a b s)=k a b t)
theorem takeTwo8 {c:Vx}{W:World}{s:St}{vv:List (List Int)}{fv sv ov:Value}(h:MM c W s vv fv sv ov) (ok:VxOk c) (hg:G8 c W fv sv ov s.way) {f:Fr}{fs:List Fr}(hf:s.frames=f :: fs) :
  Calls Tryz.prog 111 #[.pointer (some ⟨c.gb,0,none⟩)] W (TwoP c W s f vv fv ov):=by
 have HT:=zh (take8 h ok hg hf)
 have HSI:=zh h.si
 have HOK:=zh ok
 have HF:=zh hf
 clear h hg hf ok
 go_enter Tryz.func111,Tryz.ntmps111
 go_wp2_with fail
 refine HT.out.mono ?_
 intro e w1 hq
 obtain⟨hk,hq⟩:=hq
 by_cases h1:s.stack.length<=f.base
 ·rw[if_pos h1]at hq
  obtain⟨rfl,hm,hg⟩:=hq
  have HFIN:Hid (TwoP c W s f vv fv ov (.returned (.tuple #[.int .i64 0,.int .i64 0,.bool false])) w1):=⟨hk,Vm.ended 8 s,sv,hm.end 8,hg,Or.inl ⟨0,0,rfl,fun k=>yf h1⟩⟩
  clear hk hm hg h1 HT
  go_wp2_with fail
  exact bodyPost_ret (v:=.tuple #[.int .i64 0,.int .i64 0,.bool false]) (by simp[results,Tryz.results111,go_sem]) rfl HFIN.out
 ·rw[if_neg h1]at hq
  obtain⟨b,r,sv',hs,rfl,hm,hg⟩:=hq
  have HT2:=zh (take8 (s:={ s with stack:=r }) hm HOK.out hg HF.out)
  have HK:=zh hk
  have HS:=zh hs
  have H1:=zh h1
  clear hk hm hg h1 HT hs
  go_wp2_with fail
  refine HT2.out.mono ?_
  intro e w2 hq
  obtain⟨hk2,hq⟩:=hq
  by_cases h2:r.length<=f.base
  ·rw[if_pos h2]at hq
   obtain⟨rfl,hm,hg⟩:=hq
   have HFIN:Hid (TwoP c W s f vv fv ov (.returned (.tuple #[.int .i64 0,.int .i64 b,.bool false])) w2):=⟨HK.out.trans hk2,Vm.ended 8 { s with stack:=r },sv',hm.end 8,hg,Or.inl ⟨0,b,rfl,fun k=>by rw[zM HS.out H1.out,yf h2]⟩⟩
   clear hk2 hm hg h2 HT2
   go_wp2_with fail
   exact bodyPost_ret (v:=.tuple #[.int .i64 0,.int .i64 b,.bool false]) (by simp[results,Tryz.results111,go_sem]) rfl HFIN.out
  ·rw[if_neg h2]at hq
   obtain⟨a,r2,sv2,hs2,rfl,hm,hg⟩:=hq
   have HFIN:Hid (TwoP c W s f vv fv ov (.returned (.tuple #[.int .i64 a,.int .i64 b,.bool true])) w2):=by
    have hs2':r=a :: r2:=hs2
    refine⟨HK.out.trans hk2,_,sv2,hm,hg,Or.inr ⟨a,b,HSI.out a (by rw[HS.out,hs2'];simp),HSI.out b (by rw[HS.out];simp),rfl,rfl,fun k=>?_⟩⟩
    rw[zM HS.out H1.out,zM (s:={ s with stack:=r }) hs2 h2]
   clear hk2 hm hg h2 HT2 hs2
   go_wp2_with fail
   exact bodyPost_ret (v:=.tuple #[.int .i64 a,.int .i64 b,.bool true]) (by simp[results,Tryz.results111,go_sem]) rfl HFIN.out
theorem yW (p:Prop) [Decidable p]:Tp.I64 (Tp.b01 p):=by unfold Tp.b01 Tp.I64;split <;> omega
theorem jp {op:Tp.Bs}{a b v:Int}(ha:Tp.I64 a) (hb:Tp.I64 b) (h:Tp.both op a b=some v):Tp.I64 v:=by
 unfold Tp.both at h
 split at h
 ·cases h;exact Tp.w64_in _
 split at h
 ·cases h;exact Tp.w64_in _
 split at h
 ·cases h;exact Tp.w64_in _
 split at h
 ·split at h
  ·cases h
  ·cases h;exact Tp.w64_in _
 split at h
 ·split at h
  ·cases h
  ·rename_i hz
   cases h
   have e1:=(Tp.both_rest ha hz).2.2
   unfold Tp.I64 at *
   have e2:=(Tp.both_rest (a:=a) ha hz).2.1
   omega
 split at h
 ·cases h;exact yW _
 split at h
 ·cases h;exact yW _
 split at h
 ·cases h;exact yW _
 split at h
 ·cases h;exact yW _
 split at h
 ·cases h;exact yW _
 split at h
 ·cases h;exact yW _
 ·cases h;decide
theorem w64_i64 (n:Int):I64 (Tp.w64 n):=Tp.w64_in n
theorem neg8 {c:Vx}{W:World}{s:St}{vv:List (List Int)}{fv sv ov:Value}(h:MM c W s vv fv sv ov) (ok:VxOk c) (hg:G8 c W fv sv ov s.way) {f:Fr}{fs:List Fr}(hf:s.frames=f :: fs) :
  Calls Tryz.prog 113 #[.pointer (some ⟨c.gb,0,none⟩),.int .i64 10] W (StepP c (Vm.taken f.base s fun n s=>Vm.put (Tp.w64 (-n)) s)):=by
 have HT:=zh (take8 h ok hg hf)
 have HSI:=zh h.si
 have HOK:=zh ok
 clear h hg hf ok
 go_enter Tryz.func113,Tryz.ntmps113
 go_wp2_with fail
 refine HT.out.mono ?_
 intro e w1 hq
 obtain⟨hk,hq⟩:=hq
 by_cases h1:s.stack.length<=f.base
 ·rw[if_pos h1]at hq
  obtain⟨rfl,hm,hg⟩:=hq
  have HFIN:Hid (StepP c (Vm.taken f.base s fun n s=>Vm.put (Tp.w64 (-n)) s) (.returned (.tuple #[])) w1):=⟨rfl,by rw[yf h1];exact hm.mv8 hg⟩
  clear hk hm hg h1 HT
  go_wp2_with fail
  first|exact ze rfl rfl HFIN.out|exact bodyPost_ret (v:=.tuple #[]) (by simp[results,Tryz.results113,go_sem]) rfl HFIN.out
 ·rw[if_neg h1]at hq
  obtain⟨n,r,sv',hs,rfl,hm,hg⟩:=hq
  have HP:=zh (put8 (s:={ s with stack:=r }) hm HOK.out hg (Tp.w64 (-n)) (w64_i64 _))
  have HE:Hid (∀ w2,MV c w2 (Vm.put (Tp.w64 (-n)) { s with stack:=r })->StepP c (Vm.taken f.base s fun n s=>Vm.put (Tp.w64 (-n)) s) (.returned (.tuple #[])) w2):=fun w2 hw=>⟨rfl,by rw[zM hs h1];exact hw⟩
  clear hk hm hg h1 HT hs
  have HV:Hid (wrap64 (-n)=Tp.w64 (-n)):=yD _
  generalize Tp.w64 (-n)=v at *
  have hv:=HV.out
  go_wp2_with fail
  refine HP.out.mono ?_
  rintro e w2 ⟨rfl,hw⟩
  have HFIN:=zh (HE.out w2 hw)
  clear hw
  go_wp2_with fail
  first|exact ze rfl rfl HFIN.out|exact bodyPost_ret (v:=.tuple #[]) (by simp[results,Tryz.results113,go_sem]) rfl HFIN.out
theorem not8 {c:Vx}{W:World}{s:St}{vv:List (List Int)}{fv sv ov:Value}(h:MM c W s vv fv sv ov) (ok:VxOk c) (hg:G8 c W fv sv ov s.way) {f:Fr}{fs:List Fr}(hf:s.frames=f :: fs) :
  Calls Tryz.prog 113 #[.pointer (some ⟨c.gb,0,none⟩),.int .i64 11] W (StepP c (Vm.taken f.base s fun n s=>Vm.put (if n=0 then 1 else 0) s)):=by
 have HT:=zh (take8 h ok hg hf)
 have HSI:=zh h.si
 have HOK:=zh ok
 clear h hg hf ok
 go_enter Tryz.func113,Tryz.ntmps113
 go_wp2_with fail
 refine HT.out.mono ?_
 intro e w1 hq
 obtain⟨hk,hq⟩:=hq
 by_cases h1:s.stack.length<=f.base
 ·rw[if_pos h1]at hq
  obtain⟨rfl,hm,hg⟩:=hq
  have HFIN:Hid (StepP c (Vm.taken f.base s fun n s=>Vm.put (if n=0 then 1 else 0) s) (.returned (.tuple #[])) w1):=⟨rfl,by rw[yf h1];exact hm.mv8 hg⟩
  clear hk hm hg h1 HT
  go_wp2_with fail
  first|exact ze rfl rfl HFIN.out|exact bodyPost_ret (v:=.tuple #[]) (by simp[results,Tryz.results113,go_sem]) rfl HFIN.out
 ·rw[if_neg h1]at hq
  obtain⟨n,r,sv',hs,rfl,hm,hg⟩:=hq
  by_cases h0:n=0
  ·subst h0
   have HP:=zh (put8 (s:={ s with stack:=r }) hm HOK.out hg 1 (by unfold I64;omega))
   have HE:Hid (∀ w2,MV c w2 (Vm.put 1 { s with stack:=r })->StepP c (Vm.taken f.base s fun n s=>Vm.put (if n=0 then 1 else 0) s) (.returned (.tuple #[])) w2):=fun w2 hw=>⟨rfl,by rw[zM hs h1];exact hw⟩
   clear hk hm hg h1 HT hs
   go_wp2_with fail
   refine HP.out.mono ?_
   rintro e w2 ⟨rfl,hw⟩
   have HFIN:=zh (HE.out w2 hw)
   clear hw
   go_wp2_with fail
   first|exact ze rfl rfl HFIN.out|exact bodyPost_ret (v:=.tuple #[]) (by simp[results,Tryz.results113,go_sem]) rfl HFIN.out
  ·have hne:¬n=0:=h0
   have HP:=zh (put8 (s:={ s with stack:=r }) hm HOK.out hg 0 (by unfold I64;omega))
   have HE:Hid (∀ w2,MV c w2 (Vm.put 0 { s with stack:=r })->StepP c (Vm.taken f.base s fun n s=>Vm.put (if n=0 then 1 else 0) s) (.returned (.tuple #[])) w2):=fun w2 hw=>⟨rfl,by rw[zM hs h1];rw[if_neg hne];exact hw⟩
   clear hk hm hg h1 HT hs
   go_wp2_with fail
   refine HP.out.mono ?_
   rintro e w2 ⟨rfl,hw⟩
   have HFIN:=zh (HE.out w2 hw)
   clear hw
   go_wp2_with fail
   first|exact ze rfl rfl HFIN.out|exact bodyPost_ret (v:=.tuple #[]) (by simp[results,Tryz.results113,go_sem]) rfl HFIN.out
theorem do8 {c:Vx}{W:World}{s:St}{vv:List (List Int)}{fv sv ov:Value}(h:MM c W s vv fv sv ov) (ok:VxOk c) (hg:G8 c W fv sv ov s.way) {f:Fr}{fs:List Fr}(hf:s.frames=f :: fs) (k:Nat) (hk11:k<11) :
  Calls Tryz.prog 112 #[.pointer (some ⟨c.gb,0,none⟩),.int .i64 (k:Int)] W (StepP c (Vm.taken f.base s fun b s=>Vm.taken f.base s fun a s=>Vm.reckon (Vm.marks8.getD k []) a b s)):=by
 have HT:=zh (takeTwo8 h ok hg hf)
 have HMK:Hid (∀ W1,Below c.w0.heap.size c.w0 W1->W1.cell? ⟨1,k,none⟩=some (.string (bs (Vm.marks8.getD k [])))):=fun W1 hb=>(hb.cell (p:=⟨1,k,none⟩) ok.gm).trans (ok.mrk k hk11)
 have HGM:=zh ok.gm
 have HOK:=zh ok
 have hk':(k:Int)<11:=by omega
 clear h hg hf ok
 obtain⟨mk,hmk⟩:∃ mk,mk=Vm.marks8.getD k []:=⟨_,rfl⟩
 rw[<-hmk]at HMK ⊢
 clear hmk
 go_enter Tryz.func112,Tryz.ntmps112
 go_wp2_with fail
 refine HT.out.mono ?_
 intro e w1 hq
 obtain⟨_,t,sv',hm,hg,⟨x,y,rfl,ht⟩|⟨a,b,ha,hb,hff,rfl,ht⟩⟩:=hq
 ·have HFIN:Hid (StepP c (Vm.taken f.base s fun b s=>Vm.taken f.base s fun a s=>Vm.reckon mk a b s) (.returned (.tuple #[])) w1):=⟨rfl,by rw[ht fun a b s=>Vm.reckon mk a b s];exact⟨vv,fv,sv',ov,hm,hg⟩⟩
  clear hm hg ht HT
  go_wp2_with fail
  first|exact ze rfl rfl HFIN.out|exact bodyPost_ret (v:=.tuple #[]) (by simp[results,Tryz.results112,go_sem]) rfl HFIN.out
 ·have HB:=zh (both_any mk a b ha hb w1)
  have kmk:=HMK.out w1 hm.be
  have hgm:1<w1.heap.size:=Nat.lt_of_lt_of_le HGM.out hm.be.size
  have HM:=zh hm
  have HG:=zh hg
  have HTT:=zh ht
  have HI:=zh (And.intro ha hb)
  clear hm hg ht HT ha hb hff
  obtain⟨mb,hmb⟩:∃ mb,mb=bs mk:=⟨_,rfl⟩
  rw[<-hmb]at HB kmk
  clear hmb
  go_wp2_with fail
  refine HB.out.mono ?_
  intro e w2 hq
  obtain⟨hb2,he⟩:=hq
  have hm2:=HM.out.below HOK.out HG.out hb2
  have hg2:G8 c w2 fv sv' ov t.way:=(hb2.block _ (zk HG.out)).trans HG.out
  cases hbo:Tp.both mk a b with
  | none =>
   rw[hbo]at he
   subst he
   have hfin:=MV.end hm2 HOK.out hg2 2
   have HFIN:Hid (StepP c (Vm.taken f.base s fun b s=>Vm.taken f.base s fun a s=>Vm.reckon mk a b s) (.returned (.tuple #[])) (w2.setCell ⟨c.gb,5,none⟩ (.int .i64 2))):=⟨rfl,by
    rw[HTT.out fun a b s=>Vm.reckon mk a b s]
    unfold Vm.reckon
    rw[hbo]
    exact hfin⟩
   have k5:w2.cell? ⟨c.gb,5,none⟩=some (.int .i64 (t.way:Int)):=(zc hg2).trans rfl
   have z5:w2.frozen? ⟨c.gb,5,none⟩=false:=zr hg2
   have hgl2:c.gb<w2.heap.size:=zk hg2
   clear hm2 hg2 hfin hbo hb2 HM HG HTT kmk
   generalize (t.way:Int)=wy at *
   go_wp2_with fail
   first|exact ze rfl rfl HFIN.out|exact bodyPost_ret (v:=.tuple #[]) (by simp[results,Tryz.results112,go_sem]) rfl HFIN.out
  | some v =>
   rw[hbo]at he
   subst he
   have HP:=zh (put8 hm2 HOK.out hg2 v (jp HI.out.1 HI.out.2 hbo))
   have HE:Hid (∀ w3,MV c w3 (Vm.put v t)->StepP c (Vm.taken f.base s fun b s=>Vm.taken f.base s fun a s=>Vm.reckon mk a b s) (.returned (.tuple #[])) w3):=fun w3 hw=>⟨rfl,by
    rw[HTT.out fun a b s=>Vm.reckon mk a b s]
    unfold Vm.reckon
    rw[hbo]
    exact hw⟩
   clear hm2 hg2 hbo hb2 HM HG HTT kmk
   go_wp2_with fail
   refine HP.out.mono ?_
   rintro e w3 ⟨rfl,hw⟩
   have HFIN:=zh (HE.out w3 hw)
   clear hw
   go_wp2_with fail
   first|exact ze rfl rfl HFIN.out|exact bodyPost_ret (v:=.tuple #[]) (by simp[results,Tryz.results112,go_sem]) rfl HFIN.out
theorem say8 {c:Vx}{W:World}{s:St}{vv:List (List Int)}{fv sv ov:Value}(h:MM c W s vv fv sv ov) (ok:VxOk c) (hg:G8 c W fv sv ov s.way) {f:Fr}{fs:List Fr}(hf:s.frames=f :: fs) :
  Calls Tryz.prog 116 #[.pointer (some ⟨c.gb,0,none⟩)] W (StepP c (Vm.taken f.base s fun n s=>if s.out.length=200 then Vm.ended 6 s else { s with out:=s.out++[n] })):=by
 have HT:=zh (take8 h ok hg hf)
 have HSI:=zh h.si
 have HOK:=zh ok
 clear h hg hf ok
 go_enter Tryz.func116,Tryz.ntmps116
 go_wp2_with fail
 refine HT.out.mono ?_
 intro e w1 hq
 obtain⟨hk,hq⟩:=hq
 by_cases h1:s.stack.length<=f.base
 ·rw[if_pos h1]at hq
  obtain⟨rfl,hm,hg⟩:=hq
  have HFIN:Hid (StepP c (Vm.taken f.base s fun n s=>if s.out.length=200 then Vm.ended 6 s else { s with out:=s.out++[n] }) (.returned (.tuple #[])) w1):=⟨rfl,by rw[yf h1];exact hm.mv8 hg⟩
  clear hk hm hg h1 HT
  go_wp2_with fail
  first|exact ze rfl rfl HFIN.out|exact bodyPost_ret (v:=.tuple #[]) (by simp[results,Tryz.results116,go_sem]) rfl HFIN.out
 ·rw[if_neg h1]at hq
  obtain⟨n,r,sv',hs,rfl,hm,hg⟩:=hq
  obtain⟨oa,oc,hov⟩:=zy hm.ou
  subst hov
  have hn:I64 n:=HSI.out n (by rw[hs];simp)
  have k4:w1.cell? ⟨c.gb,4,none⟩=some (.slice oa s.out.length oc):=(zc hg).trans rfl
  have hgl:=zk hg
  by_cases hl:s.out.length=200
  ·have HFIN:Hid (StepP c (Vm.taken f.base s fun n s=>if s.out.length=200 then Vm.ended 6 s else { s with out:=s.out++[n] }) (.returned (.tuple #[])) (w1.setCell ⟨c.gb,5,none⟩ (.int .i64 6))):=⟨rfl,by
    rw[zM hs h1]
    show MV c _ (if s.out.length=200 then _ else _)
    rw[if_pos hl]
    exact MV.end hm HOK.out hg 6⟩
   have k5:w1.cell? ⟨c.gb,5,none⟩=some (.int .i64 (s.way:Int)):=(zc hg).trans rfl
   have z5:w1.frozen? ⟨c.gb,5,none⟩=false:=zr hg
   rw[hl]at k4
   clear hk hm hg h1 HT hs hl
   generalize (s.way:Int)=wy at *
   go_wp2_with fail
   first|exact ze rfl rfl HFIN.out|exact bodyPost_ret (v:=.tuple #[]) (by simp[results,Tryz.results116,go_sem]) rfl HFIN.out
  ·obtain⟨i0,hi0,hz0,hz1,hz2⟩:=info_parts Tryz.infoInt64
   have hlt:s.out.length<200:=by have:=hm.ol;show s.out.length<200;have h':s.out.length<=200:=hm.ol;omega
   have hne:¬((s.out.length:Int)=200):=by omega
   have ha:Below w1.heap.size w1 (w1.alloc (.cells #[.int .i64 n] 2)):=zb _ _
   have HO:Hid ((w1.alloc (.cells #[.int .i64 n] 2)).ownsRow (c.gb+1) 2 1 (.slice oa s.out.length oc) s.out.length (ints s.out)):=z7 hm.ou fun b _ hl _=>ha.block b hl
   have HNW:Hid (∀ j u,[Value.int .i64 n][j]?=some u->(w1.alloc (.cells #[.int .i64 n] 2)).cell? (Addr.add ⟨w1.heap.size,0,none⟩ j)=some u):=by
    intro j u hj
    match j,hj with
    | 0,hj=>simp at hj;subst hj;rw[Addr.add_lit,zc (zw _ _)];rfl
   have HFIN:Hid (∀ w5 v',w5.ownsRow (c.gb+1) 2 1 v' (s.out.length+1) (ints s.out++[.int .i64 n])->(w1.alloc (.cells #[.int .i64 n] 2)).grownBy w5 (Value.slice oa s.out.length oc).ownBlock->(∀ g,v'.ownBlock=some g->(Value.slice oa s.out.length oc).ownBlock=some g\/(w1.alloc (.cells #[.int .i64 n] 2)).heap.size<=g)->StepP c (Vm.taken f.base s fun n s=>if s.out.length=200 then Vm.ended 6 s else { s with out:=s.out++[n] }) (.returned (.tuple #[])) (w5.setCell ⟨c.gb,4,none⟩ v')/\w5.heap[c.gb]?=w1.heap[c.gb]?):=fun w5 v' q1 q2 q3=>by
    refine⟨⟨rfl,?_⟩,(q2.block _ (Nat.lt_of_lt_of_le hgl ha.size) (fun e=>by have:=zG hm.ou _ e.symm;omega)).trans (ha.block _ hgl)⟩
    rw[zM hs h1]
    show MV c _ (if s.out.length=200 then _ else _)
    rw[if_neg hl]
    exact MV.moreO hm HOK.out hg ha hlt hn q1 q2 q3
   have HG:=zh hg
   clear hk hm hg h1 HT hs hl ha
   generalize hml:s.out.length=m at *
   have hm1:m<=200:=by omega
   go_wp2_with (at_builtin;refine zF _ rfl _ _ 23 rfl (c.gb+1) 2 i0 (.int .i64 0) 1 8 Tryz.underlying23 hi0 hz0 hz1 hz2 rfl (by decide) _ _ _ rfl HO.out ⟨w1.heap.size,0,none⟩ 1 1 [.int .i64 n] rfl rfl HNW.out (by intro u hu;simp at hu;subst hu;rfl) (by unfold maxLen;omega) (by omega) (by simp;omega) ?_)
   intro v' w5 q1 q2 q3
   obtain⟨va,vc,rfl⟩:=zy q1
   obtain⟨hf1,hf2⟩:=HFIN.out w5 _ q1 q2 (fun g hg=>by simpa using q3 g hg)
   have HFIN:=zh hf1
   have k5:w5.cell? ⟨c.gb,4,none⟩=some (.slice oa m oc):=(zc (hf2.trans HG.out)).trans rfl
   have z5:w5.frozen? ⟨c.gb,4,none⟩=false:=zr (hf2.trans HG.out)
   have hg5:c.gb<w5.heap.size:=zi k5
   clear q1 q2 q3 hf1 hf2
   go_wp2_with fail
   first|exact ze rfl rfl HFIN.out|exact bodyPost_ret (v:=.tuple #[]) (by simp[results,Tryz.results116,go_sem]) rfl HFIN.out
theorem jV (gb:Nat) (a:Option Addr) (n cap:Nat) (k:Int) (h0:0<=k) (h1:k<(n:Int)) (w:World) :
  Calls Tryz.prog 125 #[.pointer (some ⟨gb,0,none⟩),.slice a n cap,.int .i64 k] w fun e w'=>e=.returned (.bool true)/\w'=w:=by
 go_enter Tryz.func125,Tryz.ntmps125
 go_wp2_with fail
 go_ret
 exact⟨rfl,rfl⟩
theorem xR {gb:Nat}{a:Option Addr}{n cap:Nat}{k:Int}(hk:¬(0<=k/\k<(n:Int))) {w:World}{wy:Value}(k5:w.cell? ⟨gb,5,none⟩=some wy) (z5:w.frozen? ⟨gb,5,none⟩=false) :
  Calls Tryz.prog 125 #[.pointer (some ⟨gb,0,none⟩),.slice a n cap,.int .i64 k] w fun e w'=>e=.returned (.bool false)/\w'=w.setCell ⟨gb,5,none⟩ (.int .i64 3):=by
 have hgl:gb<w.heap.size:=zi k5
 by_cases h0:0<=k
 ·have h1:¬k<(n:Int):=fun q=>hk ⟨h0,q⟩
  clear hk
  go_enter Tryz.func125,Tryz.ntmps125
  go_wp2_with fail
  go_ret
  exact⟨rfl,rfl⟩
 ·clear hk
  go_enter Tryz.func125,Tryz.ntmps125
  go_wp2_with fail
  go_ret
  exact⟨rfl,rfl⟩
theorem MV.var {c:Vx}{W:World}{s:St}{vv:List (List Int)}{fv sv ov:Value}{way:Nat}(h:MM c W s vv fv sv ov) (ok:VxOk c) (hg:G8 c W fv sv ov way) (i k:Nat) (hi:i<vv.length) (hk:k<vv[i].length) (n:Int) (hn:I64 n) :
  MM c (W.setCell ⟨c.vs i,k,none⟩ (.int .i64 n)) { s with there:=thr c.O (vv.set i (vv[i].set k n)) } (vv.set i (vv[i].set k n)) fv sv ov/\G8 c (W.setCell ⟨c.vs i,k,none⟩ (.int .i64 n)) fv sv ov way:=by
 have hi':i<c.O.vars.length:=by rw[<-h.vn];exact hi
 have hv:=ok.vs i hi'
 obtain⟨a1,a2,a3⟩:=h.vm i hi
 have k6:∀ b,b≠c.vs i->(W.setCell ⟨c.vs i,k,none⟩ (.int .i64 n)).heap[b]?=W.heap[b]?:=fun b hb=>Below.heap_setCell _ _ _ _ (by simpa using hb)
 refine⟨⟨h.be.setCell hv.1 _,(k6 _ (by omega)).trans h.pk,yq h.vk fun b cur hb hc=>k6 b (by omega),rfl,by rw[List.length_set];exact h.vn,fun j hj=>?_,?_,?_,?_,h.dj,h.sl,h.si,h.ol,h.oi,h.fl,h.fm,h.ff,fun b o hb=>⟨(k6 _ (far_var hi' (h.ek b o hb) a2)).trans (h.ek b o hb).1,(h.ek b o hb).2⟩⟩,(k6 _ (by omega)).trans hg⟩
 ·rw[List.length_set]at hj
  obtain⟨b1,b2,b3⟩:=h.vm j hj
  by_cases e:j=i
  ·subst e
   rw[List.getElem_set_self]
   refine⟨by rw[List.length_set];exact a1,?_,fun v hv'=>?_⟩
   ·rw[zC k (.int .i64 n) a2,ints_set]
    simp
   ·rcases List.mem_or_eq_of_mem_set hv' with q|q
    ·exact a3 v q
    ·rw[q];exact hn
  ·rw[List.getElem_set_ne (by omega)]
   exact⟨b1,(k6 _ fun q=>e (ok.inj j i (by rw[<-h.vn];exact hj) hi' q)).trans b2,b3⟩
 ·exact z7 h.fr fun b _ _ q=>k6 b fun e=>zJ h.fr a2 (by decide) (e ▸ q)
 ·exact z7 h.st fun b q0 _ _=>k6 b (by omega)
 ·exact z7 h.ou fun b q0 _ _=>k6 b (by omega)
theorem vcell {c:Vx}{W:World}{s:St}{vv:List (List Int)}{fv sv ov:Value}(h:MM c W s vv fv sv ov) {i:Nat}(hi:i<vv.length) {k:Nat}(hk:k<vv[i].length):W.cell? ⟨c.vs i,k,none⟩=some (.int .i64 vv[i][k])/\W.frozen? ⟨c.vs i,k,none⟩=false/\c.vs i<W.heap.size:=by
 obtain⟨_,a2,_⟩:=h.vm i hi
 refine⟨?_,zr a2,zk a2⟩
 rw[zc a2]
 simp[ints,hk]
theorem give8 {c:Vx}{W:World}{s:St}{vv:List (List Int)}{fv sv ov:Value}(h:MM c W s vv fv sv ov) (ok:VxOk c) (hg:G8 c W fv sv ov s.way) {i:Nat}(hi:i<vv.length) (k:Int) :
  Calls Tryz.prog 108 #[.pointer (some ⟨c.gb,0,none⟩),c.vsl i,.int .i64 k] W (StepP c (Vm.give vv[i] k s)):=by
 have hvl:=(h.vm i hi).1
 have k5:W.cell? ⟨c.gb,5,none⟩=some (.int .i64 (s.way:Int)):=(zc hg).trans rfl
 have z5:W.frozen? ⟨c.gb,5,none⟩=false:=zr hg
 unfold Vx.vsl
 by_cases hk:0<=k/\k<(c.vl i:Int)
 ·obtain⟨h0,h1⟩:=hk
  have HW:=zh (jV c.gb (some ⟨c.vs i,0,none⟩) (c.vl i) (c.vl i) k h0 h1 W)
  obtain⟨kn,rfl⟩:∃ kn:Nat,k=(kn:Int):=⟨k.toNat,by omega⟩
  have hkn:kn<vv[i].length:=by omega
  obtain⟨v1,v2,v3⟩:=vcell h hi hkn
  have hI:I64 vv[i][kn]:=(h.vm i hi).2.2 _ (List.getElem_mem hkn)
  have HP:=zh (put8 h ok hg vv[i][kn] hI)
  have HE:Hid (∀ w2,MV c w2 (Vm.put vv[i][kn] s)->StepP c (Vm.give vv[i] (kn:Int) s) (.returned (.tuple #[])) w2):=fun w2 hw=>⟨rfl,by
   unfold Vm.give
   rw[if_pos ⟨h0,by omega⟩,Int.toNat_natCast,List.getD_eq_getElem?_getD,List.getElem?_eq_getElem hkn]
   exact hw⟩
  generalize vv[i][kn]=x at *
  clear h ok hg hI k5 z5 hvl hkn
  generalize c.vl i=m at *
  generalize c.vs i=vb at *
  go_enter Tryz.func108,Tryz.ntmps108
  go_wp2_with fail
  refine HW.out.mono ?_
  rintro e w1 ⟨rfl,rfl⟩
  go_wp2_with fail
  refine HP.out.mono ?_
  rintro e w2 ⟨rfl,hw⟩
  have HFIN:=zh (HE.out w2 hw)
  clear hw
  go_wp2_with fail
  first|exact ze rfl rfl HFIN.out|exact bodyPost_ret (v:=.tuple #[]) (by simp[results,Tryz.results108,go_sem]) rfl HFIN.out
 ·have HW:=zh (xR (gb:=c.gb) (a:=some ⟨c.vs i,0,none⟩) (cap:=c.vl i) hk k5 z5)
  have HFIN:Hid (StepP c (Vm.give vv[i] k s) (.returned (.tuple #[])) (W.setCell ⟨c.gb,5,none⟩ (.int .i64 3))):=⟨rfl,by
   unfold Vm.give
   rw[if_neg (by rw[hvl];exact hk)]
   exact MV.end h ok hg 3⟩
  clear h ok hg k5 z5 hvl hk
  generalize c.vl i=m at *
  generalize c.vs i=vb at *
  go_enter Tryz.func108,Tryz.ntmps108
  go_wp2_with fail
  refine HW.out.mono ?_
  rintro e w1 ⟨rfl,rfl⟩
  go_wp2_with fail
  first|exact ze rfl rfl HFIN.out|exact bodyPost_ret (v:=.tuple #[]) (by simp[results,Tryz.results108,go_sem]) rfl HFIN.out
theorem set8 {c:Vx}{W:World}{s:St}{vv:List (List Int)}{fv sv ov:Value}(h:MM c W s vv fv sv ov) (ok:VxOk c) (hg:G8 c W fv sv ov s.way) {i:Nat}(hi:i<vv.length) (k n:Int) (hn:I64 n) :
  Calls Tryz.prog 110 #[.pointer (some ⟨c.gb,0,none⟩),c.vsl i,.int .i64 k,.int .i64 n] W (StepP c (Vm.set c.O.name ⟨c.O,vv⟩ i k n s)):=by
 have hvl:=(h.vm i hi).1
 have hgd:vv.getD i []=vv[i]:=by rw[List.getD_eq_getElem?_getD,List.getElem?_eq_getElem hi];rfl
 have k5:W.cell? ⟨c.gb,5,none⟩=some (.int .i64 (s.way:Int)):=(zc hg).trans rfl
 have z5:W.frozen? ⟨c.gb,5,none⟩=false:=zr hg
 unfold Vx.vsl
 by_cases hk:0<=k/\k<(c.vl i:Int)
 ·obtain⟨h0,h1⟩:=hk
  have HW:=zh (jV c.gb (some ⟨c.vs i,0,none⟩) (c.vl i) (c.vl i) k h0 h1 W)
  obtain⟨kn,rfl⟩:∃ kn:Nat,k=(kn:Int):=⟨k.toNat,by omega⟩
  have hkn:kn<vv[i].length:=by omega
  obtain⟨v1,v2,v3⟩:=vcell h hi hkn
  obtain⟨hm,hgg⟩:=MV.var h ok hg i kn hi hkn n hn
  have HFIN:Hid (StepP c (Vm.set c.O.name ⟨c.O,vv⟩ i (kn:Int) n s) (.returned (.tuple #[])) (W.setCell ⟨c.vs i,kn,none⟩ (.int .i64 n))):=⟨rfl,by
   unfold Vm.set
   rw[if_pos (by show _/\_<((vv.getD i []).length:Int);rw[hgd,hvl];exact⟨h0,h1⟩)]
   have e:(fun m=>if m=c.O.name then some (Vm.laid ⟨c.O,vv⟩ i (((⟨c.O,vv⟩:Pl).vars.getD i []).set (kn:Int).toNat n)) else s.there m)=thr c.O (vv.set i (vv[i].set kn n)):=by
    funext m
    unfold thr Vm.laid
    rw[h.th,Int.toNat_natCast]
    show (if m=c.O.name then some ⟨c.O,vv.set i ((vv.getD i []).set kn n)⟩ else thr c.O vv m)=_
    rw[hgd]
    by_cases q:m=c.O.name
    ·rw[if_pos q,if_pos q]
    ·rw[if_neg q,if_neg q,thr,if_neg q]
   rw[e]
   exact⟨_,fv,sv,ov,hm,hgg⟩⟩
  generalize vv[i][kn]=x at *
  clear h ok hg k5 z5 hvl hkn hm hgg hgd
  generalize c.vl i=m at *
  generalize c.vs i=vb at *
  go_enter Tryz.func110,Tryz.ntmps110
  go_wp2_with fail
  refine HW.out.mono ?_
  rintro e w1 ⟨rfl,rfl⟩
  go_wp2_with fail
  first|exact ze rfl rfl HFIN.out|exact bodyPost_ret (v:=.tuple #[]) (by simp[results,Tryz.results110,go_sem]) rfl HFIN.out
 ·have HW:=zh (xR (gb:=c.gb) (a:=some ⟨c.vs i,0,none⟩) (cap:=c.vl i) hk k5 z5)
  have HFIN:Hid (StepP c (Vm.set c.O.name ⟨c.O,vv⟩ i k n s) (.returned (.tuple #[])) (W.setCell ⟨c.gb,5,none⟩ (.int .i64 3))):=⟨rfl,by
   unfold Vm.set
   rw[if_neg (by show ¬(_/\_<((vv.getD i []).length:Int));rw[hgd,hvl];exact hk)]
   exact MV.end h ok hg 3⟩
  clear h ok hg k5 z5 hvl hk hgd
  generalize c.vl i=m at *
  generalize c.vs i=vb at *
  go_enter Tryz.func110,Tryz.ntmps110
  go_wp2_with fail
  refine HW.out.mono ?_
  rintro e w1 ⟨rfl,rfl⟩
  go_wp2_with fail
  first|exact ze rfl rfl HFIN.out|exact bodyPost_ret (v:=.tuple #[]) (by simp[results,Tryz.results110,go_sem]) rfl HFIN.out
theorem MM.vsl {c:Vx}{W:World}{s:St}{vv:List (List Int)}{fv sv ov:Value}(h:MM c W s vv fv sv ov) {i:Nat}(hi:i<vv.length):c.va=some ⟨c.vb,0,none⟩/\c.vb<W.heap.size/\W.cell? ⟨c.vb,i,none⟩=some (c.vsl i):=by
 have hi':i<c.O.vars.length:=by rw[<-h.vn];exact hi
 rcases h.vk with⟨_,h2,_⟩|⟨g,cap,cur,h1,h2,h3,h4,_,h6,h7⟩
 ·omega
 ·simp only [Value.slice.injEq]at h1
  subst h2
  refine⟨h1.1,zk h3,?_⟩
  rw[zc h3,<-Array.getElem?_toList]
  have:=congrArg (·[i]?) h7
  simp only [List.getElem?_take_of_lt (show i<c.O.vars.length * 1 by omega)]at this
  rw[this]
  simp[hi']
theorem reached8 {c:Vx}{W:World}{s:St}{vv:List (List Int)}{fv sv ov:Value}{way:Nat}(h:MM c W s vv fv sv ov) (ok:VxOk c) (hg:G8 c W fv sv ov way) {f:Fr}{fs:List Fr}(hf:s.frames=f :: fs) {i:Nat}(hi:i<vv.length) (op:Int) :
  Calls Tryz.prog 109 #[.pointer (some ⟨c.gb,0,none⟩),.agg #[.int .i64 op,.int .i64 (i:Int),.int .i64 (-1)]] W fun e W'=>e=.returned (c.vsl i)/\Below W.heap.size W W':=by
 obtain⟨fb,cap,hfv,hfb,hcap,hfc⟩:=h.top hf
 obtain⟨hva,hvb,hvc⟩:=h.vsl hi
 have hpk:=h.pk
 rw[hva]at hpk
 obtain⟨w0,hw0⟩:∃ w0,w0=W.alloc (.cells #[.int .i64 op,.int .i64 (i:Int),.int .i64 (-1)] 68):=⟨_,rfl⟩
 have hb0:Below W.heap.size W w0:=by rw[hw0];exact zb _ _
 have hk0:w0.heap[W.heap.size]?=some (.cells #[.int .i64 op,.int .i64 (i:Int),.int .i64 (-1)] 68 (0,0)):=by rw[hw0];exact zw _ _
 have hl0:W.heap.size<w0.heap.size:=zk hk0
 have hgl:=zk hg
 have hnv:(i:Int)<(c.O.vars.length:Int):=by have:=h.vn;omega
 have k1:∀ w1,Below w0.heap.size w0 w1->w1.cell? ⟨c.gb,1,none⟩=some (.slice (some ⟨fb,0,none⟩) (fs.length+1) cap):=fun w1 hb=>((hb0.trans (hb.mono hb0.size)).cell (p:=⟨c.gb,1,none⟩) hgl).trans ((zc hg).trans (by rw[hfv];rfl))
 have HSX:Hid (∀ w1,Below w0.heap.size w0 w1->w1.cell? ⟨W.heap.size,0,none⟩=some (.int .i64 op)/\w1.cell? ⟨W.heap.size,1,none⟩=some (.int .i64 (i:Int))/\w1.cell? ⟨W.heap.size,2,none⟩=some (.int .i64 (-1))/\w1.cell? ⟨c.pb,1,none⟩=some (.slice (some ⟨c.vb,0,none⟩) c.O.vars.length c.vc)/\w1.cell? ⟨c.vb,i,none⟩=some (c.vsl i)/\w1.cell? ⟨fb,fs.length * 14,none⟩=some (.pointer (some ⟨c.pb,0,none⟩))):=fun w1 hb=>by
  have hW:=hb0.trans (hb.mono hb0.size)
  have e:=(hb.block _ hl0).trans hk0
  exact⟨(zc e).trans rfl,(zc e).trans rfl,(zc e).trans rfl,(zc ((hW.block _ (zk hpk)).trans hpk)).trans rfl,(hW.cell (p:=⟨c.vb,i,none⟩) hvb).trans hvc,(hW.cell (p:=⟨fb,fs.length * 14,none⟩) hfb).trans (hfc 0 _ rfl)⟩
 have HLA:Hid (∀ w1,Below w0.heap.size w0 w1->Calls Tryz.prog 104 #[.pointer (some ⟨c.gb,0,none⟩)] w1 fun e W'=>e=.returned (.pointer (some ⟨fb,fs.length * 14,none⟩))/\Below w1.heap.size w1 W'):=fun w1 hb=>by
  have hW:=hb0.trans (hb.mono hb0.size)
  exact last8 (s:=s) (h.below ok hg hW) ((hW.block _ hgl).trans hg) hf hfv
 have hpl:c.pb<w0.heap.size:=Nat.lt_of_lt_of_le (zk hpk) hb0.size
 have hvl:c.vb<w0.heap.size:=Nat.lt_of_lt_of_le hvb hb0.size
 have hfl:fb<w0.heap.size:=Nat.lt_of_lt_of_le hfb hb0.size
 have HB0:=zh hb0
 have HD0:Hid (Below w0.heap.size w0 w0.drew):=zt w0
 have HS0:=zh (HSX.out _ HD0.out)
 obtain⟨x0,x1,x2,x3,x4,x5⟩:=HSX.out w0 (Below.refl _ _)
 clear h hg hf hpk hb0 hk0 k1 hfc hva hvb hvc
 obtain⟨vsl,hvsl⟩:∃ v,v=c.vsl i:=⟨_,rfl⟩
 rw[<-hvsl]at HSX HS0 x4 ⊢
 have hvs:∃ a n d,vsl=.slice a n d:=⟨_,_,_,hvsl⟩
 clear hvsl
 obtain⟨va',vn',vd',rfl⟩:=hvs
 generalize c.O.vars.length=nv at *
 generalize fs.length=q at *
 go_enter Tryz.func109,Tryz.ntmps109
 go_upto_region 1 with fail
 rw[<-hw0]
 clear hw0
 go_wp2_with fail
 go_region_held3 (fun w1=>w1.cell? ⟨W.heap.size,0,none⟩=some (.int .i64 op)/\w1.cell? ⟨W.heap.size,1,none⟩=some (.int .i64 (i:Int))/\w1.cell? ⟨W.heap.size,2,none⟩=some (.int .i64 (-1))/\w1.cell? ⟨c.pb,1,none⟩=some (.slice (some ⟨c.vb,0,none⟩) nv c.vc)/\w1.cell? ⟨c.vb,i,none⟩=some (.slice va' vn' vd')/\w1.cell? ⟨fb,q * 14,none⟩=some (.pointer (some ⟨c.pb,0,none⟩))) (with_reducible (first|exact HS1.out|exact HS0.out)) (first|(go_at_call 104;refine(HLA.out _ HD0.out).mono ?_;rintro e w1 ⟨rfl,hb1⟩;have HB1:Hid (Below w0.heap.size w0 w1):=HD0.out.trans (hb1.mono HD0.out.size);have HS1:=zh (HSX.out w1 HB1.out);clear hb1))
 all_goals
  go_wp2_with fail
  go_ret
  exact⟨rfl,HB0.out.trans (HB1.out.mono HB0.out.size)⟩
end Go.Proofs.YtmnedfdffbbchaaGreatDoor.Jo
