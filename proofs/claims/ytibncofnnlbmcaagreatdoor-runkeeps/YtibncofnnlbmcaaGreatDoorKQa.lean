import Derived.Test.YtibncofnnlbmcaaGreatDoorKPd
import Derived.Test.YtibncofnnlbmcaaGreatDoorKPc
import Derived.Test.YtibncofnnlbmcaaGreatDoorKMa
import Derived.Test.YtibncofnnlbmcaaGreatDoorKWk
import Derived.Test.YtibncofnnlbmcaaGreatDoorKWh
import Derived.Test.YtibncofnnlbmcaaGreatDoorKWb
import Derived.Recover
import Derived.Orders
import Derived.Test.YtibncofnnlbmcaaGreatDoorRows
import Derived.Lib.Hide
import Derived.BigQuiet
set_option maxRecDepth 100000
set_option maxHeartbeats 4000000
namespace Go.Proofs.YtibncofnnlbmcaaGreatDoor
section
variable {P:Program} {ops:Array Oper} {Q:Exit->Act->List Frame->World->Prop}
def wpOp1 (P:Program) (ops:Array Oper) (Q:Exit->Act->List Frame->World->Prop) (i:Nat) (K:Act->List Frame->World->Prop) (a:Act) (cs:List Frame) (w:World):Prop :=
 match ops[i]? with
 |none=>K a cs w
 |some o =>
  if Region.wanted o (yielded ops a.tmps) then
   match (execOp a.eval o).run P w with
   | .ok .recover w' =>
    match recoverD cs with
    |some (v,cs')=>K (a.put o.dst v) cs' w'
    |none=>K (a.put o.dst .nilIface) cs w'
   |r=>o.upon P a (fun a' w'=>K a' cs w') (fun e a' w'=>Q e a' cs w') r
  else K (a.put o.dst undef) cs w
theorem wpOrd_cons (i:Nat)(rest:List Nat)(a:Act)(cs:List Frame)(w:World):wpOpsS P ops Q (i :: rest) a cs w=wpOp1 P ops Q i (wpOpsS P ops Q rest) a cs w:=by
 simp only[wpOpsS,wpOp1]
 rfl
theorem uponR_mono {o:Oper}{a:Act}{K d:Act->World->Prop}{Q:Exit->Act->World->Prop}{r:Result _}(h:∀a w,K a w->d a w)(b:o.upon P a K Q r):o.upon P a d Q r:=by
 cases r with
 |ok n w' =>
  cases n<;>simp only[Oper.upon]at b ⊢ <;>
   first
    |exact h _ _ b
    |exact Calls.mono b (fun e f c=>by cases e<;>first|exact h _ _ c|exact c)
    |exact Rows.mono b (fun _ _ c=>h _ _ c)
 |halt x w'=>cases x<;>simp only[Oper.upon]at b ⊢<;>exact b
theorem wpOp1_mono {i:Nat}{a:Act}{cs:List Frame}{w:World}{K d:Act->List Frame->World->Prop}(h:∀a cs w,K a cs w->d a cs w)(b:wpOp1 P ops Q i K a cs w):wpOp1 P ops Q i d a cs w:=by
 unfold wpOp1 at *
 split
 ·exact h _ _ _ (by simpa[*] using b)
 ·rename_i o e
  simp only[e]at b
  split
  ·rename_i c
   simp only[c,if_true]at b
   generalize (execOp a.eval o).run P w=r at *
   split at b
   ·split at b
    ·exact h _ _ _ b
    ·exact h _ _ _ b
   ·exact uponR_mono (fun a w=>h a cs w) b
  ·rename_i c;simp only[c]at b;exact h _ _ _ b
def wpOrd (P:Program) (md:Region.Mode) (ops:Array Oper) (Q:Exit->Act->List Frame->World->Prop):Nat->Array Bool->Act->List Frame->World->Prop
 | 0,listed,a,cs,w=>Region.ready md ops listed=[]/\Q .normal a cs w
 |fuel+1,listed,a,cs,w =>
  (Region.ready md ops listed=[]->Q .normal a cs w) /\
  ∀i∈Region.ready md ops listed,wpOp1 P ops Q i (wpOrd P md ops Q fuel (listed.setIfInBounds i true)) a cs w
theorem uA {md:Region.Mode}:∀(fuel t:Nat) (listed:Array Bool) (a:Act) (cs:List Frame) (w:World),wpOrd P md ops Q fuel listed a cs w ->
  wpOpsS P ops Q (Region.linearise.go md ops fuel t listed []) a cs w:=by
 intro fuel
 induction fuel with
 |zero=>intro t listed a cs w h;simpa[Region.linearise.go,wpOpsS] using h.2
 |succ fuel ih =>
  intro t listed a cs w h
  obtain⟨h₀,h₁⟩:=h
  simp only[Region.linearise.go]
  change wpOpsS P ops Q (match (Region.ready md ops listed)[t % (Region.ready md ops listed).length]? with
   |some i=>Region.linearise.go md ops fuel (t / (Region.ready md ops listed).length) (listed.setIfInBounds i true) [i]
   |none=>[].reverse) a cs w
  cases b:(Region.ready md ops listed)[t % (Region.ready md ops listed).length]? with
  |none =>
   have c:Region.ready md ops listed=[]:=by
    cases e:Region.ready md ops listed with
    |nil=>rfl
    |cons x xs =>
     rw[e]at b
     have d:t % (x :: xs).length<(x :: xs).length:=Nat.mod_lt _ (by simp)
     simp at b
     simp at d
     omega
   simpa[wpOpsS] using h₀ c
  |some i =>
   simp only[]
   rw[linearise_go_acc,List.reverse_singleton,List.singleton_append,wpOrd_cons]
   exact wpOp1_mono (fun a cs w=>ih _ _ a cs w) (h₁ i (List.mem_of_getElem? b))
theorem jW {id:Nat}{a:Act}{cs:List Frame}{w:World}(i:P.follows .mixedOrders=true)
  (h:wpOrd P .any ops Q ops.size (Array.replicate ops.size false) a cs { w with drawn:=w.drawn+1 }):(Code.region id ops true).wpS P Q a cs w:=by
 intro b k g j
 have c:=step_region_draw (P:=P) (b:=b) (a:=a) (ops:=ops) (k:=k) (cs:=cs) (w:=w) (id:=id)
 have e:Region.schedule (P.follows .mixedOrders) ops (w.tape w.drawn (.order b.fn id))=Region.linearise.go .any ops ops.size (w.tape w.drawn (.order b.fn id)) (Array.replicate ops.size false) []:=by
  simp only[Region.schedule,i,Bool.true_or,if_true]
  rfl
 rw[e]at c
 obtain⟨e,f,d,w',q,r⟩:=wp_opsS _ a cs { w with drawn:=w.drawn+1 } (uA ops.size (w.tape w.drawn (.order b.fn id)) _ a cs _ h) b k g j
 exact⟨e,f,d,w',q,.of_steps (.one c) r⟩
end
end Go.Proofs.YtibncofnnlbmcaaGreatDoor
namespace Tp
def partM (L:List M) (n:Bs):Option M:=L.find? fun m=>m.name==n
def varOf (m:M) (nm:Bs):Option G:=m.vars.find? fun g=>g.name==nm
def procIn (m:M) (nm:Bs):Option Pr:=m.procs.find? fun p=>p.name==nm
def atM (L:List M) (m:M) (md:Bs) (m':M):Prop:=if md=[] then m'=m else partM L md=some m'
structure FitR (L:List M) (m:M) (own:List Bs) (r:R):Prop where
 v2:r.code=2->r.mod=[]/\r.name∈own\/(r.mod=[]->r.name ∉ own)/\∃m' g,atM L m r.mod m'/\varOf m' r.name=some g/\g.len=0
 v3:r.code=3->(r.mod=[]->r.name ∉ own)/\∃m' g,atM L m r.mod m'/\varOf m' r.name=some g/\0<g.len
 p6:r.code=6->∃m' p,atM L m r.mod m'/\procIn m' r.name=some p/\p.params.length=r.args
theorem xt (w:List Pt)(n:Bs):(partOf w n).map (·.m)=partM (ms w) n:=by
 unfold partOf partM ms
 rw[List.find?_map]
 rfl
theorem jf {m:M}{a:Seen}(h:check m a=none):(m.vars.map (·.name)).Nodup/\(m.procs.map (·.name)).Nodup:=by
 have:=(check_none.1 h).2.1
 rw[List.nodup_append]at this
 exact⟨this.1,this.2.1⟩
theorem varOf_mem {m:M}{g:G}(h:(m.vars.map (·.name)).Nodup)(a:g∈m.vars):varOf m g.name=some g:=(find_key (key:=fun g:G=>g.name) h g).2 ⟨a,rfl⟩
theorem procIn_mem {m:M}{p:Pr}(h:(m.procs.map (·.name)).Nodup)(a:p∈m.procs):procIn m p.name=some p:=(find_key (key:=fun p:Pr=>p.name) h p).2 ⟨a,rfl⟩
theorem fit_of {d:M->List Sy}(E:∀m,∀s∈d m,s∈symsOf m){w:List Pt}(h:WI d w){m:M}(H:m∈ms w){own:List Bs}{r:R}(c:judge m own (seenW d w) r=none):FitR (ms w) m own r:=by
 unfold judge at c
 cases a:stand m own (seenW d w) r.mod r.name with
 |error e=>rw[a]at c;cases c
 |ok s =>
  rw[a]at c
  simp only at c
  have k:kindOf s=r.code:=by
   apply Classical.byContradiction
   intro e
   rw[if_pos e]at c
   cases c
  rw[if_neg (by simpa using k)]at c
  have z:r.code=6->(r.args:Int)=s.2:=by
   intro e
   apply Classical.byContradiction
   intro q
   rw[if_pos ⟨e,q⟩]at c
   cases c
  clear c
  unfold stand at a
  by_cases j:r.mod=[]
  ·rw[if_neg (by simpa using j)]at a
   have v:=jf (h.ck m H)
   have i:atM (ms w) m r.mod m:=by unfold atM;rw[if_pos j]
   by_cases l:r.name∈own
   ·rw[if_pos l]at a
    injection a with a
    subst a
    have b:r.code=2:=by rw[<-k];rfl
    exact⟨fun _=>Or.inl ⟨j,l⟩,fun e=>by omega,fun e=>by omega⟩
   ·rw[if_neg l]at a
    cases t:m.vars.find? (fun g=>g.name==r.name) with
    |some g =>
     rw[t]at a
     injection a with a
     subst a
     have b:(if 0<g.len then 3 else 2)=r.code:=by rw[<-k];rfl
     refine⟨fun e=>Or.inr ⟨fun _=>l,m,g,i,t,?_⟩,fun e=>⟨fun _=>l,m,g,i,t,?_⟩,fun e=>?_⟩
     ·rw[e]at b;split at b<;>omega
     ·rw[e]at b;split at b<;>omega
     ·rw[e]at b;split at b<;>omega
    |none =>
     rw[t]at a
     simp only at a
     cases f:m.procs.find? (fun p=>p.name==r.name) with
     |none=>rw[f]at a;cases a
     |some p =>
      rw[f]at a
      injection a with a
      subst a
      have b:6=r.code:=by rw[<-k];unfold kindOf;rw[if_pos (Int.natCast_nonneg _)]
      refine⟨fun e=>by omega,fun e=>by omega,fun e=>⟨m,p,i,f,?_⟩⟩
      have:=z e
      simp only at this
      omega
  ·rw[if_pos (by simpa using j)]at a
   by_cases A:r.mod∈m.imports
   ·rw[if_pos A]at a
    cases f:partOf w r.mod with
    |none =>
     have:seenW d w r.mod=none:=by unfold seenW;rw[f];rfl
     rw[this]at a
     cases a
    |some p =>
     have G:seenW d w r.mod=some (d p.m):=by unfold seenW;rw[f];rfl
     rw[G]at a
     simp only[Option.getD_some]at a
     have F:partM (ms w) r.mod=some p.m:=by rw[<-xt,f];rfl
     have i:atM (ms w) m r.mod p.m:=by unfold atM;rw[if_neg j];exact F
     have D:p.m∈ms w:=List.mem_map.2 ⟨p,(part_name f).1,rfl⟩
     have v:=jf (h.ck _ D)
     cases o:findS (d p.m) r.name with
     |none=>rw[o]at a;cases a
     |some sy =>
      rw[o]at a
      injection a with a
      subst a
      have B:=yy o
      have y:=E _ _ (List.mem_of_find?_eq_some o)
      unfold symsOf at y
      rcases List.mem_append.1 y with q|q
      ·obtain⟨g,x,rfl⟩:=List.mem_map.1 q
       have u:=(List.mem_filter.1 x).1
       have n:varOf p.m r.name=some g:=by rw[<-B];exact varOf_mem v.1 u
       have b:(if 0<g.len then 3 else 2)=r.code:=by rw[<-k];rfl
       refine⟨fun e=>Or.inr ⟨fun e=>absurd e j,p.m,g,i,n,?_⟩,fun e=>⟨fun e=>absurd e j,p.m,g,i,n,?_⟩,fun e=>?_⟩
       ·rw[e]at b;split at b<;>omega
       ·rw[e]at b;split at b<;>omega
       ·rw[e]at b;split at b<;>omega
      ·obtain⟨C,x,rfl⟩:=List.mem_map.1 q
       have u:=(List.mem_filter.1 x).1
       have n:procIn p.m r.name=some C:=by rw[<-B];exact procIn_mem v.2 u
       have b:6=r.code:=by rw[<-k];unfold kindOf syP;rw[if_pos (Int.natCast_nonneg _)]
       refine⟨fun e=>by omega,fun e=>by omega,fun e=>⟨p.m,C,i,n,?_⟩⟩
       have:=z e
       simp only[syP]at this
       omega
   ·rw[if_neg A]at a;cases a
structure FitM (L:List M) (m:M):Prop where
 wm:WM m
 vn:(m.vars.map (·.name)).Nodup
 pn:(m.procs.map (·.name)).Nodup
 on:∀p∈m.procs,(ownOf p).Nodup
 pr:∀p∈m.procs,∀r∈rs p.body,FitR L m (ownOf p) r
 bd:∀r∈rs m.body,FitR L m [] r
theorem WI.fit {f:M->List Sy}(e:∀m,∀s∈f m,s∈symsOf m){w:List Pt}(h:WI f w){m:M}(a:m∈Tp.ms w)(i:WM m):FitM (Tp.ms w) m:=by
 have b:=check_none.1 (h.ck m a)
 have g:=jf (h.ck m a)
 exact⟨i,g.1,g.2,fun p c=>(b.2.2.1 p c).1,fun p c r d=>fit_of e h a ((b.2.2.1 p c).2 r d),fun r d=>fit_of e h a (b.2.2.2 r d)⟩
end Tp
namespace Go.Proofs.YtibncofnnlbmcaaGreatDoor
open Go.RowKit Go.Maps
open Tp (Bs X S G Pr Pt Rs Rr Own)
def ints (l:List Int):List Value:=l.map fun n=>.int .i64 n
def vlen (g:G):Nat:=if g.len=0 then 1 else g.len
structure Lo where
 m:Tp.M
 lb:Nat
 vb:Nat
 sl:Bs->Nat
structure Cx where
 w0:World
 gb:Nat
 tb:Nat
 L:List Lo
def Cx.V (c:Cx) (b:Nat):Prop:=∃lo∈c.L,∃g∈lo.m.vars,b=lo.sl g.name
def Cx.D (c:Cx) (b:Nat):Prop:=b<c.gb/\¬c.V b
def Cx.ms (c:Cx):List Tp.M:=c.L.map (·.m)
def lcells (m:Tp.M) (ia ga pa ba:Option Addr) (ic gc pc bc vb:Nat):Array Value:=#[.string (bs m.name),.slice ia m.imports.length ic,.slice ga m.vars.length gc,.slice pa m.procs.length pc,.slice ba m.body.length bc,.map (some vb)]
structure MD (w:World) (D:Nat->Prop) (m:Tp.M) (ia ga pa ba:Option Addr) (ic gc pc bc:Nat):Prop where
 im:Row w D 9 1 (.slice ia m.imports.length ic) m.imports.length (strs m.imports)
 gl:Row w D 61 4 (.slice ga m.vars.length gc) m.vars.length (gcs m.vars)
 pr:∃pcs,RepP w D m.procs pcs/\Row w D 65 6 (.slice pa m.procs.length pc) m.procs.length pcs
 bd:∃bcs,RepS w D m.body bcs/\OwnS w D (.slice ba m.body.length bc) m.body.length bcs
theorem MD.mono {w w':World}{D D':Nat->Prop}{m:Tp.M}{g e j c:Option Addr}{i f k d:Nat}(h:MD w D m g e j c i f k d)(a:∀b,D b->b<w.heap.size->w'.heap[b]?=w.heap[b]?/\D' b):MD w' D' m g e j c i f k d:=by
 obtain⟨n,p,q⟩:=h.pr
 obtain⟨l,o,b2⟩:=h.bd
 exact⟨h.im.mono a,h.gl.mono a,⟨n,p.mono a _ _,q.mono a⟩,⟨l,o.mono' a,b2.mono a⟩⟩
theorem MD.mb {w:World}{D:Nat->Prop}{m:Tp.M}{f d j a:Option Addr}{g e k c B:Nat}(h:MD w D m f d j a g e k c)(l:∀b,D b->b<w.heap.size->b<B):MB w B m f d j a g e k c:=by
 have:=h.mono (w':=w) (D':=fun i=>i<B) (fun b n o=>⟨rfl,l b n o⟩)
 exact⟨this.im,this.gl,this.pr,this.bd⟩
theorem MB.md {w:World}{m:Tp.M}{e c g a:Option Addr}{f d j b B:Nat}(h:MB w B m e c g a f d j b):MD w (fun i=>i<B) m e c g a f d j b:=⟨h.im,h.gl,h.pr,h.bd⟩
def loV (lo:Lo) (k:Bs):Option Value:=(Tp.varOf lo.m k).map fun g=>.slice (some ⟨lo.sl k,0,none⟩) (vlen g) (vlen g)
structure LoOk (c:Cx) (lo:Lo):Prop where
 blk:∃ia ga pa ba ic gc pc bc,c.w0.heap[lo.lb]?=some (.cells (lcells lo.m ia ga pa ba ic gc pc bc lo.vb) 107 (0,0))/\MD c.w0 c.D lo.m ia ga pa ba ic gc pc bc
 lbD:c.D lo.lb
 vbD:c.D lo.vb
 vm:∃n,MapV c.w0 lo.vb n (loV lo)
 sv:∀g∈lo.m.vars,lo.sl g.name<c.gb
 fit:Tp.FitM c.ms lo.m
def Cx.lo (c:Cx) (k:Bs):Option Lo:=c.L.find? fun lo=>lo.m.name==k
def Cx.thr (c:Cx) (k:Bs):Option Value:=(c.lo k).map fun lo=>.pointer (some ⟨lo.lb,0,none⟩)
structure CxOk (c:Cx):Prop where
 tbD:c.D c.tb
 thr:∃n,MapV c.w0 c.tb n c.thr
 nd:(c.L.map fun lo=>lo.m.name).Nodup
 lo:∀lo∈c.L,LoOk c lo
 inj:∀lo∈c.L,∀lo'∈c.L,∀g∈lo.m.vars,∀g'∈lo'.m.vars,lo.sl g.name=lo'.sl g'.name->lo.m.name=lo'.m.name/\g.name=g'.name
def ValOk (w:World) (lo:Lo) (p:Pt):Prop:=p.m=lo.m/\∀g∈lo.m.vars,(p.vars g.name).length=vlen g/\w.heap[lo.sl g.name]?=some (.cells (ints (p.vars g.name)).toArray 2 (0,0))/\∀v∈p.vars g.name,Tp.I64 v
def gcells4 (tb left k:Nat) (ov:Value):Array Value:=#[.map (some tb),.int .i64 (left:Int),.int .i64 (k:Int),ov]
structure GS (c:Cx) (w:World) (s:Rs) (k:Nat):Prop where
 st:∀b,c.D b->w.heap[b]?=c.w0.heap[b]?
 blk:∃ov,w.heap[c.gb]?=some (.cells (gcells4 c.tb s.left k ov) 152 (0,0))/\w.ownsRow (c.gb+1) 2 1 ov s.out.length (ints s.out)
 mw:Tp.ms s.w=c.ms
 vals:∀lo∈c.L,∃p,Tp.partOf s.w lo.m.name=some p/\ValOk w lo p
 ol:s.out.length<=200
 oi:∀v∈s.out,Tp.I64 v
 ll:s.left<=800000
 kl:k<=30
def OutB (c:Cx) (w:World) (b:Nat):Prop:=∃v,w.cell? ⟨c.gb,3,none⟩=some v/\v.ownBlock=some b
structure Kp (c:Cx) (Y:Nat->Prop) (w w':World):Prop where
 os:w'.os=w.os
 tape:w'.tape=w.tape
 output:w'.output=w.output
 size:w.heap.size<=w'.heap.size
 block:∀b,b<w.heap.size->b≠c.gb->¬c.V b->¬OutB c w b->¬Y b->w'.heap[b]?=w.heap[b]?
 out:∀b,OutB c w' b->OutB c w b\/w.heap.size<=b
def nY (_:Nat):Prop:=False
theorem Kp.refl (c:Cx)(Y:Nat->Prop)(w:World):Kp c Y w w:=⟨rfl,rfl,rfl,Nat.le_refl _,fun _ _ _ _ _ _=>rfl,fun _ h=>Or.inl h⟩
theorem Kp.trans {c:Cx}{Y:Nat->Prop}{i w2 j:World}(h:Kp c Y i w2)(k:Kp c Y w2 j):Kp c Y i j:=by
 refine⟨k.os.trans h.os,k.tape.trans h.tape,k.output.trans h.output,Nat.le_trans h.size k.size,fun b a d e f g=>?_,fun b l=>?_⟩
 ·refine(k.block b (Nat.lt_of_lt_of_le a h.size) d e (fun q=>?_) g).trans (h.block b a d e f g)
  rcases h.out b q with q|q
  ·exact f q
  ·omega
 ·rcases k.out b l with q|q
  ·exact h.out b q
  ·exact Or.inr (Nat.le_trans h.size q)
theorem Kp.fresh {c:Cx}{Y:Nat->Prop}{a w2 i:World}(h:Kp c nY a w2)(k:Kp c Y w2 i)(l:∀b,Y b->a.heap.size<=b):Kp c nY a i:=by
 refine⟨k.os.trans h.os,k.tape.trans h.tape,k.output.trans h.output,Nat.le_trans h.size k.size,fun b d e f g j=>?_,fun b m=>?_⟩
 ·refine(k.block b (Nat.lt_of_lt_of_le d h.size) e f (fun q=>?_) (fun q=>?_)).trans (h.block b d e f g j)
  ·rcases h.out b q with q|q
   ·exact g q
   ·omega
  ·have:=l b q;omega
 ·rcases k.out b m with q|q
  ·exact h.out b q
  ·exact Or.inr (Nat.le_trans h.size q)
theorem Kp.mono {c:Cx}{Y a:Nat->Prop}{w w':World}(h:Kp c Y w w')(k:∀b,Y b->a b):Kp c a w w':=⟨h.os,h.tape,h.output,h.size,fun b d e f g i=>h.block b d e f g (fun q=>i (k b q)),h.out⟩
theorem Kp.wide {c:Cx}{Y:Nat->Prop}{w w':World}(h:Kp c nY w w'):Kp c Y w w':=h.mono fun _ q=>q.elim
theorem GS.lt {c:Cx}{w:World}{s:Rs}{k:Nat}(h:GS c w s k):c.gb<w.heap.size:=by
 obtain⟨b,a,_⟩:=h.blk
 exact zf a
theorem yr {c:Cx}{w w':World}(h:w'.heap[c.gb]?=w.heap[c.gb]?)(b:Nat):OutB c w' b↔OutB c w b:=by
 unfold OutB
 rw[World.cell?_of_block (w:=w) h]
theorem Kp.below {c:Cx}{Y:Nat->Prop}{w w':World}(h:Below w.heap.size w w')(d:c.gb<w.heap.size):Kp c Y w w' :=
 ⟨h.os,h.tape,h.output,h.size,fun b a _ _ _ _=>h.block b a,fun b a=>Or.inl ((yr (h.block c.gb d) b).1 a)⟩
theorem CxOk.lo_mem {c:Cx}{k:Bs}{lo:Lo}(h:c.lo k=some lo):lo∈c.L/\lo.m.name=k:=⟨List.mem_of_find?_eq_some h,by simpa using List.find?_some h⟩
theorem CxOk.lo_of {c:Cx}(h:CxOk c){lo:Lo}(a:lo∈c.L):c.lo lo.m.name=some lo:=(Tp.find_key (key:=fun lo:Lo=>lo.m.name) h.nd lo).2 ⟨a,rfl⟩
theorem Cx.partM (c:Cx)(k:Bs):Tp.partM c.ms k=(c.lo k).map (·.m):=by
 unfold Tp.partM Cx.ms Cx.lo
 rw[List.find?_map]
 rfl
theorem Cx.Vof {c:Cx}{lo:Lo}(b:lo∈c.L){g:G}(a:g∈lo.m.vars):c.V (lo.sl g.name):=⟨lo,b,g,a,rfl⟩
theorem GS.on {c:Cx}{w w':World}{s:Rs}{k:Nat}(h:GS c w s k)(ok:CxOk c)(a:w'.heap[c.gb]?=w.heap[c.gb]?)(i:∀b,b<w.heap.size->b<c.gb\/OutB c w b->w'.heap[b]?=w.heap[b]?):GS c w' s k:=by
 have u:=h.lt
 have e:∀b,b<c.gb->w'.heap[b]?=w.heap[b]?:=fun b q=>i b (by omega) (Or.inl q)
 refine⟨fun b hd=>(e b hd.1).trans (h.st b hd),?_,h.mw,fun lo j=>?_,h.ol,h.oi,h.ll,h.kl⟩
 ·obtain⟨l,f,m⟩:=h.blk
  refine⟨l,a.trans f,zH m (fun b v r t=>i b r (Or.inr ⟨l,(za f).trans rfl,t⟩))⟩
 ·obtain⟨p,n,o,d⟩:=h.vals lo j
  exact⟨p,n,o,fun g a=>⟨(d g a).1,(e _ ((ok.lo lo j).sv g a)).trans (d g a).2.1,(d g a).2.2⟩⟩
theorem GS.below {c:Cx}{w w':World}{s:Rs}{k:Nat}(h:GS c w s k)(ok:CxOk c)(a:Below w.heap.size w w'):GS c w' s k :=
 h.on ok (a.block _ h.lt) (fun b d _=>a.block b d)
def OwnM (c:Cx) (w:World) (sb:Nat) (ob:Option Nat) (own:Own) (left:Nat):Prop:=match ob with
 |none=>∀k,own k=none
 |some ob=>c.gb<ob/\ob≠sb/\¬OutB c w ob/\∃n,n+left<=900000/\MapV w ob n fun k=>(own k).map fun v=>.int .i64 v
structure Sc (c:Cx) (w:World) (sb:Nat) (ob:Option Nat) (lo:Lo) (own:Own) (names:List Bs) (left:Nat):Prop where
 hi:c.gb<sb
 no:¬OutB c w sb
 blk:w.heap[sb]?=some (.cells #[.pointer (some ⟨c.gb,0,none⟩),.pointer (some ⟨lo.lb,0,none⟩),.map ob] 98 (0,0))
 om:OwnM c w sb ob own left
 i64:∀k v,own k=some v->Tp.I64 v
 dom:∀k,(own k).isSome=true↔k∈names
 mem:lo∈c.L
theorem Sc.kp {c:Cx}{w w':World}{a:Nat}{ob:Option Nat}{lo:Lo}{own:Own}{names:List Bs}{left left':Nat}(h:Sc c w a ob lo own names left)(k:Kp c nY w w')(m:∀b,c.V b->b<c.gb)(v:left'<=left):Sc c w' a ob lo own names left':=by
 have u:=h.hi
 have key:∀b,c.gb<b->b<w.heap.size->¬OutB c w b->w'.heap[b]?=w.heap[b]?/\¬OutB c w' b:=fun b t l d =>
  ⟨k.block b l (by omega) (fun q=>by have:=m b q;omega) d (fun q=>q),fun q=>by
   rcases k.out b q with q|q
   ·exact d q
   ·omega⟩
 obtain⟨o,p⟩:=key a h.hi (zf h.blk) h.no
 refine⟨h.hi,p,o.trans h.blk,?_,h.i64,h.dom,h.mem⟩
 have e:=h.om
 cases ob with
 |none=>exact e
 |some ob =>
  obtain⟨f,r,s,n,x,g⟩:=e
  obtain⟨i,j⟩:=key ob f g.lt s
  exact⟨f,r,j,n,by omega,g.on i⟩
theorem CxOk.Vlt {c:Cx}(h:CxOk c):∀b,c.V b->b<c.gb:=by
 rintro b⟨lo,d,g,a,rfl⟩
 exact(h.lo lo d).sv g a
abbrev Olds:={ l:List PanicEntry // ∀x∈l,x.goexit=false }
def noP:Olds:=⟨[],by simp⟩
def thrE (t:Nat) (n:Int) (e:Ending):Prop:=∃older:Olds,e=.panicked ({ v:=.iface t (.int .i64 n),recovered:=false } :: older.1)
def endT:Nat:=173
def toldT:Nat:=155
def EvP (c:Cx) (k:Nat) (w:World) (s:Rs) (r:Rr Int) (e:Ending) (w':World):Prop:=match r with
 | .ok v s'=>e=.returned (.int .i64 v)/\GS c w' s' k/\Kp c nY w w'/\s'.left<=s.left/\Tp.I64 v
 | .stop way s'=>thrE endT (way:Int) e/\(∃k',GS c w' s' k')/\Kp c nY w w'
 | .gas=>True
structure Ex (c:Cx) (lo:Lo) (names:List Bs) (l:List X) (x:Nat):Prop where
 rep:RepL c.w0 c.D l [.pointer (some ⟨x,0,none⟩)]
 wx:Tp.WX l
 fit:∀r∈Tp.rx l,Tp.FitR c.ms lo.m names r
def EvC (c:Cx) (g:Nat):Prop:=∀(k:Nat) (lo:Lo) (own:Own) (names:List Bs) (l:List X) (x:Nat) (w:World) (s:Rs) (sb:Nat) (ob:Option Nat),
 Ex c lo names l x->GS c w s k->Sc c w sb ob lo own names s.left->Tp.evX g k lo.m.name own l s≠.gas ->
 Calls Tryz.prog 150 #[.pointer (some ⟨sb,0,none⟩),.pointer (some ⟨x,0,none⟩)] w (EvP c k w s (Tp.evX g k lo.m.name own l s))
theorem GS.reg {c:Cx}{w w':World}{s:Rs}{k left' k':Nat}(h:GS c w s k)(ok:CxOk c)(e:∀b,b≠c.gb->w'.heap[b]?=w.heap[b]?)
  (m:∀a,w.heap[c.gb]?=some (.cells (gcells4 c.tb s.left k a) 152 (0,0))->w'.heap[c.gb]?=some (.cells (gcells4 c.tb left' k' a) 152 (0,0)))(o:left'<=800000)(n:k'<=30):GS c w' { s with left:=left' } k':=by
 refine⟨fun b hd=>(e b (by have:=hd.1;omega)).trans (h.st b hd),?_,h.mw,fun lo i=>?_,h.ol,h.oi,o,n⟩
 ·obtain⟨a,j,l⟩:=h.blk
  exact⟨a,m a j,zH l (fun b t _ _=>e b (by omega))⟩
 ·obtain⟨p,q,r,f⟩:=h.vals lo i
  exact⟨p,q,r,fun g d=>⟨(f g d).1,(e _ (by have:=(ok.lo lo i).sv g d;omega)).trans (f g d).2.1,(f g d).2.2⟩⟩
theorem zx {w:World}{b j:Nat}{v:Value}:∀i,i≠b->(w.setCell ⟨b,j,none⟩ v).heap[i]?=w.heap[i]?:=fun i a=>Below.heap_setCell _ _ _ _ (by simpa using a)
theorem set_size (w:World)(a:Addr)(v:Value):(w.setCell a v).heap.size=w.heap.size:=by simp
theorem GS.outIs {c:Cx}{w:World}{s:Rs}{k:Nat}(h:GS c w s k):∃a,w.cell? ⟨c.gb,3,none⟩=some a/\w.ownsRow (c.gb+1) 2 1 a s.out.length (ints s.out):=by
 obtain⟨a,b,d⟩:=h.blk
 exact⟨a,(za b).trans rfl,d⟩
theorem Kp.reg {c:Cx}{w:World}{s:Rs}{k j:Nat}{v:Value}(h:GS c w s k)(f:j≠3):Kp c nY w (w.setCell ⟨c.gb,j,none⟩ v):=by
 have e:(w.setCell ⟨c.gb,j,none⟩ v).os=w.os/\(w.setCell ⟨c.gb,j,none⟩ v).tape=w.tape/\(w.setCell ⟨c.gb,j,none⟩ v).output=w.output:=by
  have:=(Below.refl 0 w).setCell (p:=⟨c.gb,j,none⟩) (Nat.zero_le _) v
  exact⟨this.os,this.tape,this.output⟩
 refine⟨e.1,e.2.1,e.2.2,by simp,fun b _ a _ _ _=>zx b a,fun b a=>Or.inl ?_⟩
 obtain⟨g,d,_⟩:=h.blk
 obtain⟨u,u1,u2⟩:=a
 refine⟨u,?_,u2⟩
 rw[za (zu j v d),Array.getElem?_setIfInBounds_ne (by omega)]at u1
 rw[za d]
 exact u1
theorem GS.tick {c:Cx}{w:World}{s:Rs}{k n:Nat}(h:GS c w s k)(ok:CxOk c)(d:s.left=n+1):GS c (w.setCell ⟨c.gb,1,none⟩ (.int .i64 (n:Int))) { s with left:=n } k :=
 h.reg ok (fun b a=>zx b a) (fun _ q=>(zu 1 _ q).trans rfl) (by have:=h.ll;omega) h.kl
theorem GS.wait {c:Cx}{w:World}{s:Rs}{k k':Nat}(h:GS c w s k)(ok:CxOk c)(d:k'<=30):GS c (w.setCell ⟨c.gb,2,none⟩ (.int .i64 (k':Int))) s k' :=
 h.reg (left':=s.left) ok (fun b a=>zx b a) (fun _ q=>(zu 2 _ q).trans rfl) h.ll d
theorem GS.tell {c:Cx}{w d:World}{s:Rs}{k:Nat}{m a:Value}{n:Int}(h:GS c w s k)(ok:CxOk c)(l:w.cell? ⟨c.gb,3,none⟩=some m)
  (D:d.ownsRow (c.gb+1) 2 1 a (s.out.length+1) (ints s.out++[.int .i64 n]))(f:w.grownBy d m.ownBlock)(K:∀b,a.ownBlock=some b->m.ownBlock=some b\/w.heap.size<=b)(P:s.out.length<200)(I:Tp.I64 n) :
  GS c (d.setCell ⟨c.gb,3,none⟩ a) { s with out:=s.out++[n] } k/\Kp c nY w (d.setCell ⟨c.gb,3,none⟩ a):=by
 obtain⟨i,r,B⟩:=h.blk
 have:i=m:=by rw[za r]at l;cases l;rfl
 subst this
 have F:=zf r
 have G:i.ownBlock≠some c.gb:=fun e=>by have:=zU B _ e;omega
 have E:=(f.block c.gb F (fun e=>G e.symm)).trans r
 have C:=zu 3 a E
 have z:∀b,b<w.heap.size->b≠c.gb->i.ownBlock≠some b->(d.setCell ⟨c.gb,3,none⟩ a).heap[b]?=w.heap[b]?:=fun b o x N=>(zx b x).trans (f.block b o (fun e=>N e.symm))
 have y:∀b,b<c.gb->(d.setCell ⟨c.gb,3,none⟩ a).heap[b]?=w.heap[b]?:=fun b q=>z b (by omega) (by omega) (fun e=>by have:=zU B _ e;omega)
 refine⟨⟨fun b hd=>(y b hd.1).trans (h.st b hd),⟨a,C.trans rfl,?_⟩,h.mw,fun lo A=>?_,by simp;omega,?_,h.ll,h.kl⟩,?_⟩
 ·have e:ints (s.out++[n])=ints s.out++[.int .i64 n]:=by simp[ints]
  simp only[List.length_append,List.length_singleton]
  rw[e]
  exact zH D (fun b o _ _=>zx b (by omega))
 ·obtain⟨p,L,M,t⟩:=h.vals lo A
  exact⟨p,L,M,fun g j=>⟨(t g j).1,(y _ ((ok.lo lo A).sv g j)).trans (t g j).2.1,(t g j).2.2⟩⟩
 ·intro v J
  rcases List.mem_append.1 J with q|q
  ·exact h.oi v q
  ·rw[List.mem_singleton]at q;subst q;exact I
 ·have e:=(Below.refl 0 d).setCell (p:=⟨c.gb,3,none⟩) (Nat.zero_le _) a
  refine⟨e.os.trans f.os,e.tape.trans f.tape,e.output.trans f.output,by simpa using f.size,fun b o x _ O _=>z b o x (fun e=>O ⟨i,l,e⟩),fun b H=>?_⟩
  obtain⟨u,u1,u2⟩:=H
  rw[za C]at u1
  have:u=a:=by simp[gcells4]at u1;exact u1.symm
  subst this
  rcases K b u2 with q|q
  ·exact Or.inl ⟨i,l,q⟩
  ·exact Or.inr q
def setP (md nm:Bs) (l:List Int) (w:List Pt):List Pt:=w.map fun p=>if p.m.name=md then { p with vars:=fun k=>if k=nm then l else p.vars k } else p
theorem vI (md nm:Bs)(l:List Int)(w:List Pt)(n:Bs):Tp.partOf (setP md nm l w) n=(Tp.partOf w n).map fun p=>if p.m.name=md then { p with vars:=fun k=>if k=nm then l else p.vars k } else p:=by
 unfold Tp.partOf setP
 rw[List.find?_map]
 congr 1
 congr 1
 funext p
 simp only[Function.comp]
 split<;>rfl
theorem ms_setP (md nm:Bs)(l:List Int)(w:List Pt):Tp.ms (setP md nm l w)=Tp.ms w:=by
 unfold Tp.ms setP
 rw[List.map_map]
 apply List.map_congr_left
 intro p _
 simp only[Function.comp]
 split<;>rfl
theorem GS.setv {c:Cx}{w:World}{s:Rs}{k:Nat}(h:GS c w s k)(ok:CxOk c){lo:Lo}(z:lo∈c.L){g:G}(x:g∈lo.m.vars){p:Pt}(J:Tp.partOf s.w lo.m.name=some p){i:Nat}(T:i<vlen g){v:Int}(P:Tp.I64 v) :
  GS c (w.setCell ⟨lo.sl g.name,i,none⟩ (.int .i64 v)) { s with w:=setP lo.m.name g.name ((p.vars g.name).set i v) s.w } k/\Kp c nY w (w.setCell ⟨lo.sl g.name,i,none⟩ (.int .i64 v)):=by
 have S:=(ok.lo lo z).sv g x
 have I:c.V (lo.sl g.name):=Cx.Vof z x
 have f:∀b,b≠lo.sl g.name->(w.setCell ⟨lo.sl g.name,i,none⟩ (.int .i64 v)).heap[b]?=w.heap[b]?:=fun b D=>zx b D
 refine⟨⟨fun b hd=>(f b (fun e=>hd.2 (e ▸ I))).trans (h.st b hd),?_,(ms_setP _ _ _ _).trans h.mw,fun l n=>?_,h.ol,h.oi,h.ll,h.kl⟩,?_⟩
 ·obtain⟨Q,M,N⟩:=h.blk
  exact⟨Q,(f _ (by omega)).trans M,zH N (fun b U _ _=>f b (by omega))⟩
 ·obtain⟨R,y,A,F⟩:=h.vals l n
  by_cases E:l.m.name=lo.m.name
  ·have K:l=lo:=by
    have a:=ok.lo_of n
    have C:=ok.lo_of z
    rw[E,C]at a
    injection a with a
    exact a.symm
   subst K
   rw[J]at y
   injection y with y
   subst y
   refine⟨{ p with vars:=fun k=>if k=g.name then (p.vars g.name).set i v else p.vars k },by rw[vI,J];simp[A],A,fun d j=>?_⟩
   by_cases B:d.name=g.name
   ·have:d=g:=by
     have H:=(ok.lo l n).fit.vn
     have a:=Tp.varOf_mem H j
     have C:=Tp.varOf_mem H x
     rw[B,C]at a
     injection a with a
     exact a.symm
    subst this
    obtain⟨o,r,t⟩:=F d j
    simp only[if_true]
    refine⟨by rw[List.length_set];exact o,?_,fun u O=>?_⟩
    ·rw[zu i (.int .i64 v) r]
     congr 2
     apply Array.toList_inj.1
     simp[ints,List.map_set]
    ·rcases List.mem_or_eq_of_mem_set O with q|q
     ·exact t u q
     ·rw[q];exact P
   ·simp only[if_neg B]
    obtain⟨o,r,t⟩:=F d j
    exact⟨o,(f _ (fun e=>B (ok.inj l n l n d j g x e).2)).trans r,t⟩
  ·refine⟨R,by rw[vI,y];simp[A,E],A,fun d j=>?_⟩
   obtain⟨o,r,t⟩:=F d j
   exact⟨o,(f _ (fun e=>E (ok.inj l n lo z d j g x e).1)).trans r,t⟩
 ·have e:=(Below.refl 0 w).setCell (p:=⟨lo.sl g.name,i,none⟩) (Nat.zero_le _) (.int .i64 v)
  refine⟨e.os,e.tape,e.output,by simp,fun b _ _ q _ _=>f b (fun e=>q (e ▸ I)),fun b D=>Or.inl ((yr (f _ (by omega)) b).1 D)⟩
theorem vC {c:Cx}{w:World}{s:Rs}{k:Nat}(h:GS c w s k)(b:s.left=0) :
  Calls Tryz.prog 120 #[.pointer (some ⟨c.gb,0,none⟩)] w fun e w'=>thrE endT (Tp.fuelW:Int) e/\w'=w:=by
 obtain⟨g,a,_⟩:=h.blk
 have d:=zf a
 have f:w.cell? ⟨c.gb,1,none⟩=some (.int .i64 0):=(za a).trans (by rw[b];rfl)
 clear h a b
 go_enter Tryz.func120,Tryz.ntmps120
 go_wp2_with fail
 exact⟨rfl,⟨noP,rfl⟩,rfl⟩
theorem rstep_ok {c:Cx}{w:World}{s:Rs}{k n:Nat}(h:GS c w s k)(b:s.left=n+1) :
  Calls Tryz.prog 120 #[.pointer (some ⟨c.gb,0,none⟩)] w fun e w'=>e=.returned (.tuple #[])/\w'=w.setCell ⟨c.gb,1,none⟩ (.int .i64 (n:Int)):=by
 obtain⟨j,a,_⟩:=h.blk
 have d:=zf a
 have i:w.cell? ⟨c.gb,1,none⟩=some (.int .i64 ((n:Int)+1)):=(za a).trans (by rw[b];rfl)
 have l:w.frozen? ⟨c.gb,1,none⟩=false:=zi a
 have g:(n:Int)+1<=800000:=by have:=h.ll;omega
 have f:¬(n:Int)+1<=0:=by omega
 clear h a b
 go_enter Tryz.func120,Tryz.ntmps120
 go_wp2_with fail
 refine bodyPost_end (results_none rfl _ _ _) rfl ⟨rfl,?_⟩
 congr 2
theorem Tryz.infoInt64:(Tryz.prog.info? 2).map (fun i=>(i.zero,i.size,i.bytes))=some (some (.int .i64 0),1,8):=by kernel_rfl
@[go_sem] theorem zeroLo (w:World):(zeroValue 88).run Tryz.prog w=.ok (.pointer none) w:=by kernel_rfl
@[go_sem] theorem zeroI64 (w:World):(zeroValue 2).run Tryz.prog w=.ok (.int .i64 0) w:=by kernel_rfl
@[go_sem] theorem zeroI64s (w:World):(zeroValue 29).run Tryz.prog w=.ok (.slice none 0 0) w:=by kernel_rfl
theorem rtell_out {c:Cx}{w:World}{s:Rs}{k:Nat}(h:GS c w s k)(n:Int)(d:s.out.length=200) :
  Calls Tryz.prog 151 #[.pointer (some ⟨c.gb,0,none⟩),.int .i64 n] w fun e w'=>thrE endT (Tp.full:Int) e/\w'=w:=by
 obtain⟨l,a,b⟩:=h.blk
 obtain⟨f,g,rfl⟩:=zw b
 have i:=zf a
 have j:w.cell? ⟨c.gb,3,none⟩=some (.slice f 200 g):=(za a).trans (by rw[d];rfl)
 clear h a b d
 go_enter Tryz.func151,Tryz.ntmps151
 go_wp2_with fail
 exact⟨rfl,⟨noP,rfl⟩,rfl⟩
theorem rtell_ok {c:Cx}{w:World}{s:Rs}{k:Nat}(h:GS c w s k)(ok:CxOk c)(n:Int)(E:s.out.length<200)(D:Tp.I64 n) :
  Calls Tryz.prog 151 #[.pointer (some ⟨c.gb,0,none⟩),.int .i64 n] w fun e w'=>e=.returned (.tuple #[])/\GS c w' { s with out:=s.out++[n] } k/\Kp c nY w w':=by
 obtain⟨T,M,O,P,Q⟩:=info_parts Tryz.infoInt64
 have z:=h.lt
 have f:Below w.heap.size w (w.alloc (.cells #[.int .i64 n] 2)):=zb _ _
 have v:=zh (h.below ok f)
 have J:=zh (Kp.below (c:=c) (Y:=nY) f z)
 obtain⟨U,d,q⟩:=v.out.blk
 obtain⟨R,o,_⟩:=h.blk
 have N:U=R:=by
  have:=f.block c.gb z
  rw[d,o]at this
  simp only[Option.some.injEq,Obj.cells.injEq,gcells4]at this
  simpa using this.1
 subst N
 obtain⟨r,t,rfl⟩:=zw q
 have X:¬((s.out.length:Int)=200):=by omega
 have Z:w.cell? ⟨c.gb,3,none⟩=some (.slice r s.out.length t):=(za o).trans rfl
 have y:Hid ((w.alloc (.cells #[.int .i64 n] 2)).cell? ⟨c.gb,3,none⟩=some (.slice r s.out.length t)):=(za d).trans rfl
 have C:=zh q
 have H:=zh d
 have K:Hid (∀j u,[Value.int .i64 n][j]?=some u->(w.alloc (.cells #[.int .i64 n] 2)).cell? (Addr.add ⟨w.heap.size,0,none⟩ j)=some u):=by
  intro j u g
  match j,g with
  | 0,g=>simp at g;subst g;rw[Addr.add_lit,za (zo _ _)];rfl
 have B:Hid (s.out.length<200):=E
 have L:=zh ok
 have I:=zh D
 clear h d o q f ok E D
 generalize F:s.out.length=m at *
 have W:m<=200:=by have:=B.out;omega
 go_enter Tryz.func151,Tryz.ntmps151
 go_wp2_with (at_builtin;refine zC _ rfl _ _ 29 rfl (c.gb+1) 2 T (.int .i64 0) 1 8 Tryz.underlying29 M O P Q rfl (by decide) _ _ _ rfl C.out ⟨w.heap.size,0,none⟩ 1 1 [.int .i64 n] rfl rfl K.out (by intro u G;simp at G;subst G;rfl) (by unfold maxLen;omega) (by omega) (by simp;omega) ?_)
 intro v' i l a A
 have x:=zh (v.out.tell L.out (n:=n) y.out (by rw[F];exact l) a (fun b S=>by simpa using A b S) (by rw[F];exact B.out) I.out)
 obtain⟨va,vc,rfl⟩:=zw l
 have p:i.heap[c.gb]?=(w.alloc (.cells #[.int .i64 n] 2)).heap[c.gb]?:=a.block c.gb (by simp;omega) (fun e=>by have:=zU C.out _ e.symm;omega)
 have k5:i.cell? ⟨c.gb,3,none⟩=some (.slice r m t):=(World.cell?_of_block (w:=w.alloc (.cells #[.int .i64 n] 2)) p).trans y.out
 have z5:i.frozen? ⟨c.gb,3,none⟩=false:=zi (p.trans H.out)
 have V:c.gb<i.heap.size:=by have:=a.size;simp at this;omega
 clear l a A p
 go_wp2_with fail
 exact bodyPost_end (results_none rfl _ _ _) rfl ⟨rfl,x.out.1,J.out.trans x.out.2⟩
theorem kZ (a:Option Addr)(n cap:Nat)(k:Int)(f:0<=k)(g:k<n)(h:n<=1000)(w:World) :
  Calls Tryz.prog 171 #[.slice a n cap,.int .i64 k] w fun e w'=>e=.returned (.int .i64 k)/\w'=w:=by
 have b:¬k<0:=by omega
 have c:¬(n:Int)<=k:=by omega
 have d:(n:Int)<=1000:=by omega
 go_enter Tryz.func171,Tryz.ntmps171
 go_wp2_with fail
 go_ret
 exact⟨rfl,rfl⟩
theorem j9 (a:Option Addr)(n cap:Nat)(k:Int)(b:k<0\/(n:Int)<=k)(g:n<=1000)(w:World) :
  Calls Tryz.prog 171 #[.slice a n cap,.int .i64 k] w fun e w'=>thrE endT (Tp.bounds:Int) e/\w'=w:=by
 have d:(n:Int)<=1000:=by omega
 rcases(show k<0\/0<=k by omega) with h|h
 ·clear b
  go_enter Tryz.func171,Tryz.ntmps171
  go_wp2_with fail
  exact⟨rfl,⟨noP,rfl⟩,rfl⟩
 ·have f:¬k<0:=by omega
  have c:(n:Int)<=k:=by omega
  clear b h
  go_enter Tryz.func171,Tryz.ntmps171
  go_wp2_with fail
  exact⟨rfl,⟨noP,rfl⟩,rfl⟩
end Go.Proofs.YtibncofnnlbmcaaGreatDoor
