import Derived.Test.YtibncofnnlbmcaaGreatDoorKPd
import Derived.Test.YtibncofnnlbmcaaGreatDoorKPc
import Derived.Test.YtibncofnnlbmcaaGreatDoorKMa
import Derived.Test.YtibncofnnlbmcaaGreatDoorKWk
import Derived.Test.YtibncofnnlbmcaaGreatDoorKWh
import Derived.Test.YtibncofnnlbmcaaGreatDoorKWb
import Derived.Recover
import Derived.Orders
import Derived.Test.YtibncofnnlbmcaaGreatDoorRows
import Derived.Lib.Hide
import Derived.BigQuiet
set_option maxRecDepth 100000
set_option maxHeartbeats 4000000
namespace Go.Proofs.YtibncofnnlbmcaaGreatDoor
section
variable {P:Program} {ops:Array Oper} {Q:Exit->Act->List Frame->World->Prop}
def wpOp1 (P:Program) (ops:Array Oper) (Q:Exit->Act->List Frame->World->Prop) (i:Nat) (K:Act->List Frame->World->Prop) (a:Act) (cs:List Frame) (w:World):Prop :=
 match ops[i]? with
 | none=>K a cs w
 | some o =>
  if Region.wanted o (yielded ops a.tmps) then
   match (execOp a.eval o).run P w with
   | .ok .recover w' =>
    match recoverD cs with
    | some (v,cs')=>K (a.put o.dst v) cs' w'
    | none=>K (a.put o.dst .nilIface) cs w'
   | r=>o.upon P a (fun a' w'=>K a' cs w') (fun e a' w'=>Q e a' cs w') r
  else K (a.put o.dst undef) cs w
theorem wpOrd_cons (i:Nat) (rest:List Nat) (a:Act) (cs:List Frame) (w:World):wpOpsS P ops Q (i :: rest) a cs w=wpOp1 P ops Q i (wpOpsS P ops Q rest) a cs w:=by
 simp only [wpOpsS,wpOp1]
 rfl
theorem uponR_mono {o:Oper}{a:Act}{K K':Act->World->Prop}{Q:Exit->Act->World->Prop}{r:Result _}(h:∀ a w,K a w->K' a w) (hh:o.upon P a K Q r):o.upon P a K' Q r:=by
 cases r with
 | ok n w' =>
  cases n <;> simp only [Oper.upon]at hh ⊢ <;>
   first
    | exact h _ _ hh
    | exact Calls.mono hh (fun e w'' he=>by cases e <;> first|exact h _ _ he|exact he)
    | exact Rows.mono hh (fun _ _ he=>h _ _ he)
 | halt x w'=>cases x <;> simp only [Oper.upon]at hh ⊢ <;> exact hh
theorem wpOp1_mono {i:Nat}{a:Act}{cs:List Frame}{w:World}{K K':Act->List Frame->World->Prop}(h:∀ a cs w,K a cs w->K' a cs w) (hh:wpOp1 P ops Q i K a cs w):wpOp1 P ops Q i K' a cs w:=by
 unfold wpOp1 at *
 split
 ·exact h _ _ _ (by simpa[*] using hh)
 ·rename_i o ho
  simp only [ho]at hh
  split
  ·rename_i hw
   simp only [hw,if_true]at hh
   generalize (execOp a.eval o).run P w=r at *
   split at hh
   ·split at hh
    ·exact h _ _ _ hh
    ·exact h _ _ _ hh
   ·exact uponR_mono (fun a w=>h a cs w) hh
  ·rename_i hw;simp only [hw]at hh;exact h _ _ _ hh
def wpOrd (P:Program) (md:Region.Mode) (ops:Array Oper) (Q:Exit->Act->List Frame->World->Prop):Nat->Array Bool->Act->List Frame->World->Prop
 | 0,listed,a,cs,w=>Region.ready md ops listed=[]/\Q .normal a cs w
 | fuel+1,listed,a,cs,w =>
  (Region.ready md ops listed=[]->Q .normal a cs w) /\
  ∀ i∈Region.ready md ops listed,wpOp1 P ops Q i (wpOrd P md ops Q fuel (listed.setIfInBounds i true)) a cs w
theorem uk {md:Region.Mode}:∀(fuel t:Nat) (listed:Array Bool) (a:Act) (cs:List Frame) (w:World),wpOrd P md ops Q fuel listed a cs w ->
  wpOpsS P ops Q (Region.linearise.go md ops fuel t listed []) a cs w:=by
 intro fuel
 induction fuel with
 | zero=>intro t listed a cs w h;simpa[Region.linearise.go,wpOpsS] using h.2
 | succ fuel ih =>
  intro t listed a cs w h
  obtain⟨h₀,h₁⟩:=h
  simp only [Region.linearise.go]
  change wpOpsS P ops Q (match (Region.ready md ops listed)[t % (Region.ready md ops listed).length]? with
   | some i=>Region.linearise.go md ops fuel (t / (Region.ready md ops listed).length) (listed.setIfInBounds i true) [i]
   | none=>[].reverse) a cs w
  cases hi:(Region.ready md ops listed)[t % (Region.ready md ops listed).length]? with
  | none =>
   have hnil:Region.ready md ops listed=[]:=by
    cases hr:Region.ready md ops listed with
    | nil=>rfl
    | cons x xs =>
     rw[hr]at hi
     have hlt:t % (x :: xs).length<(x :: xs).length:=Nat.mod_lt _ (by simp)
     simp at hi
     simp at hlt
     omega
   simpa[wpOpsS] using h₀ hnil
  | some i =>
   simp only []
   rw[linearise_go_acc,List.reverse_singleton,List.singleton_append,wpOrd_cons]
   exact wpOp1_mono (fun a cs w=>ih _ _ a cs w) (h₁ i (List.mem_of_getElem? hi))
theorem jN {id:Nat}{a:Act}{cs:List Frame}{w:World}(hm:P.follows .mixedOrders=true)
  (h:wpOrd P .any ops Q ops.size (Array.replicate ops.size false) a cs { w with drawn:=w.drawn+1 }):(Code.region id ops true).wpS P Q a cs w:=by
 intro b k hb hr
 have hs:=step_region_draw (P:=P) (b:=b) (a:=a) (ops:=ops) (k:=k) (cs:=cs) (w:=w) (id:=id)
 have e:Region.schedule (P.follows .mixedOrders) ops (w.tape w.drawn (.order b.fn id))=Region.linearise.go .any ops ops.size (w.tape w.drawn (.order b.fn id)) (Array.replicate ops.size false) []:=by
  simp only [Region.schedule,hm,Bool.true_or,if_true]
  rfl
 rw[e]at hs
 obtain⟨e,a',cs',w',q,r⟩:=wp_opsS _ a cs { w with drawn:=w.drawn+1 } (uk ops.size (w.tape w.drawn (.order b.fn id)) _ a cs _ h) b k hb hr
 exact⟨e,a',cs',w',q,.of_steps (.one hs) r⟩
end
end Go.Proofs.YtibncofnnlbmcaaGreatDoor
namespace Tp
def partM (L:List M) (n:Bs):Option M:=L.find? fun m=>m.name == n
def varOf (m:M) (nm:Bs):Option G:=m.vars.find? fun g=>g.name == nm
def procIn (m:M) (nm:Bs):Option Pr:=m.procs.find? fun p=>p.name == nm
def atM (L:List M) (m:M) (md:Bs) (m':M):Prop:=if md=[] then m'=m else partM L md=some m'
structure FitR (L:List M) (m:M) (own:List Bs) (r:R):Prop where
 v2:r.code=2->r.mod=[]/\r.name∈own\/(r.mod=[]->r.name ∉ own)/\∃ m' g,atM L m r.mod m'/\varOf m' r.name=some g/\g.len=0
 v3:r.code=3->(r.mod=[]->r.name ∉ own)/\∃ m' g,atM L m r.mod m'/\varOf m' r.name=some g/\0<g.len
 p6:r.code=6->∃ m' p,atM L m r.mod m'/\procIn m' r.name=some p/\p.params.length=r.args
theorem xd (w:List Pt) (n:Bs):(partOf w n).map (·.m)=partM (ms w) n:=by
 unfold partOf partM ms
 rw[List.find?_map]
 rfl
theorem ja {m:M}{seen:Seen}(h:check m seen=none):(m.vars.map (·.name)).Nodup/\(m.procs.map (·.name)).Nodup:=by
 have:=(check_none.1 h).2.1
 rw[List.nodup_append]at this
 exact⟨this.1,this.2.1⟩
theorem varOf_mem {m:M}{g:G}(h:(m.vars.map (·.name)).Nodup) (hg:g∈m.vars):varOf m g.name=some g:=(find_key (key:=fun g:G=>g.name) h g).2 ⟨hg,rfl⟩
theorem procIn_mem {m:M}{p:Pr}(h:(m.procs.map (·.name)).Nodup) (hp:p∈m.procs):procIn m p.name=some p:=(find_key (key:=fun p:Pr=>p.name) h p).2 ⟨hp,rfl⟩
theorem fit_of {ofF:M->List Sy}(hof:∀ m,∀ s∈ofF m,s∈symsOf m) {w:List Pt}(h:WI ofF w) {m:M}(hm:m∈ms w) {own:List Bs}{r:R}(hj:judge m own (seenW ofF w) r=none):FitR (ms w) m own r:=by
 unfold judge at hj
 cases hs:stand m own (seenW ofF w) r.mod r.name with
 | error e=>rw[hs]at hj;cases hj
 | ok s =>
  rw[hs]at hj
  simp only at hj
  have hk:kindOf s=r.code:=by
   apply Classical.byContradiction
   intro e
   rw[if_pos e]at hj
   cases hj
  rw[if_neg (by simpa using hk)]at hj
  have ha:r.code=6->(r.args:Int)=s.2:=by
   intro e
   apply Classical.byContradiction
   intro q
   rw[if_pos ⟨e,q⟩]at hj
   cases hj
  clear hj
  unfold stand at hs
  by_cases hmd:r.mod=[]
  ·rw[if_neg (by simpa using hmd)]at hs
   have hnd:=ja (h.ck m hm)
   have hat:atM (ms w) m r.mod m:=by unfold atM;rw[if_pos hmd]
   by_cases ho:r.name∈own
   ·rw[if_pos ho]at hs
    injection hs with hs
    subst hs
    have hk2:r.code=2:=by rw[<-hk];rfl
    exact⟨fun _=>Or.inl ⟨hmd,ho⟩,fun e=>by omega,fun e=>by omega⟩
   ·rw[if_neg ho]at hs
    cases hv:m.vars.find? (fun g=>g.name == r.name) with
    | some g =>
     rw[hv]at hs
     injection hs with hs
     subst hs
     have hk2:(if 0<g.len then 3 else 2)=r.code:=by rw[<-hk];rfl
     refine⟨fun e=>Or.inr ⟨fun _=>ho,m,g,hat,hv,?_⟩,fun e=>⟨fun _=>ho,m,g,hat,hv,?_⟩,fun e=>?_⟩
     ·rw[e]at hk2;split at hk2 <;> omega
     ·rw[e]at hk2;split at hk2 <;> omega
     ·rw[e]at hk2;split at hk2 <;> omega
    | none =>
     rw[hv]at hs
     simp only at hs
     cases hp:m.procs.find? (fun p=>p.name == r.name) with
     | none=>rw[hp]at hs;cases hs
     | some p =>
      rw[hp]at hs
      injection hs with hs
      subst hs
      have hk2:6=r.code:=by rw[<-hk];unfold kindOf;rw[if_pos (Int.natCast_nonneg _)]
      refine⟨fun e=>by omega,fun e=>by omega,fun e=>⟨m,p,hat,hp,?_⟩⟩
      have:=ha e
      simp only at this
      omega
  ·rw[if_pos (by simpa using hmd)]at hs
   by_cases hi:r.mod∈m.imports
   ·rw[if_pos hi]at hs
    cases hp:partOf w r.mod with
    | none =>
     have:seenW ofF w r.mod=none:=by unfold seenW;rw[hp];rfl
     rw[this]at hs
     cases hs
    | some p =>
     have e1:seenW ofF w r.mod=some (ofF p.m):=by unfold seenW;rw[hp];rfl
     rw[e1]at hs
     simp only [Option.getD_some]at hs
     have hpm:partM (ms w) r.mod=some p.m:=by rw[<-xd,hp];rfl
     have hat:atM (ms w) m r.mod p.m:=by unfold atM;rw[if_neg hmd];exact hpm
     have hmem:p.m∈ms w:=List.mem_map.2 ⟨p,(part_name hp).1,rfl⟩
     have hnd:=ja (h.ck _ hmem)
     cases hf:findS (ofF p.m) r.name with
     | none=>rw[hf]at hs;cases hs
     | some sy =>
      rw[hf]at hs
      injection hs with hs
      subst hs
      have hn:=yw hf
      have hin:=hof _ _ (List.mem_of_find?_eq_some hf)
      unfold symsOf at hin
      rcases List.mem_append.1 hin with q|q
      ·obtain⟨g,hg,rfl⟩:=List.mem_map.1 q
       have hg1:=(List.mem_filter.1 hg).1
       have hvo:varOf p.m r.name=some g:=by rw[<-hn];exact varOf_mem hnd.1 hg1
       have hk2:(if 0<g.len then 3 else 2)=r.code:=by rw[<-hk];rfl
       refine⟨fun e=>Or.inr ⟨fun e=>absurd e hmd,p.m,g,hat,hvo,?_⟩,fun e=>⟨fun e=>absurd e hmd,p.m,g,hat,hvo,?_⟩,fun e=>?_⟩
       ·rw[e]at hk2;split at hk2 <;> omega
       ·rw[e]at hk2;split at hk2 <;> omega
       ·rw[e]at hk2;split at hk2 <;> omega
      ·obtain⟨pr,hg,rfl⟩:=List.mem_map.1 q
       have hg1:=(List.mem_filter.1 hg).1
       have hvo:procIn p.m r.name=some pr:=by rw[<-hn];exact procIn_mem hnd.2 hg1
       have hk2:6=r.code:=by rw[<-hk];unfold kindOf syP;rw[if_pos (Int.natCast_nonneg _)]
       refine⟨fun e=>by omega,fun e=>by omega,fun e=>⟨p.m,pr,hat,hvo,?_⟩⟩
       have:=ha e
       simp only [syP]at this
       omega
   ·rw[if_neg hi]at hs;cases hs
structure FitM (L:List M) (m:M):Prop where
 wm:WM m
 vn:(m.vars.map (·.name)).Nodup
 pn:(m.procs.map (·.name)).Nodup
 on:∀ p∈m.procs,(ownOf p).Nodup
 pr:∀ p∈m.procs,∀ r∈rs p.body,FitR L m (ownOf p) r
 bd:∀ r∈rs m.body,FitR L m [] r
theorem WI.fit {ofF:M->List Sy}(hof:∀ m,∀ s∈ofF m,s∈symsOf m) {w:List Pt}(h:WI ofF w) {m:M}(hm:m∈Tp.ms w) (hw:WM m):FitM (Tp.ms w) m:=by
 have hf:=check_none.1 (h.ck m hm)
 have hn:=ja (h.ck m hm)
 exact⟨hw,hn.1,hn.2,fun p hp=>(hf.2.2.1 p hp).1,fun p hp r hr=>fit_of hof h hm ((hf.2.2.1 p hp).2 r hr),fun r hr=>fit_of hof h hm (hf.2.2.2 r hr)⟩
end Tp
namespace Go.Proofs.YtibncofnnlbmcaaGreatDoor
open Go.RowKit Go.Maps
open Tp (Bs X S G Pr Pt Rs Rr Own)
def ints (l:List Int):List Value:=l.map fun n=>.int .i64 n
def vlen (g:G):Nat:=if g.len=0 then 1 else g.len
structure Lo where
 m:Tp.M
 lb:Nat
 vb:Nat
 sl:Bs->Nat
structure Cx where
 w0:World
 gb:Nat
 tb:Nat
 L:List Lo
def Cx.V (c:Cx) (b:Nat):Prop:=∃ lo∈c.L,∃ g∈lo.m.vars,b=lo.sl g.name
def Cx.D (c:Cx) (b:Nat):Prop:=b<c.gb/\¬c.V b
def Cx.ms (c:Cx):List Tp.M:=c.L.map (·.m)
def lcells (m:Tp.M) (ia ga pa ba:Option Addr) (ic gc pc bc vb:Nat):Array Value:=#[.string (bs m.name),.slice ia m.imports.length ic,.slice ga m.vars.length gc,.slice pa m.procs.length pc,.slice ba m.body.length bc,.map (some vb)]
structure MD (w:World) (D:Nat->Prop) (m:Tp.M) (ia ga pa ba:Option Addr) (ic gc pc bc:Nat):Prop where
 im:Row w D 9 1 (.slice ia m.imports.length ic) m.imports.length (strs m.imports)
 gl:Row w D 61 4 (.slice ga m.vars.length gc) m.vars.length (gcs m.vars)
 pr:∃ pcs,RepP w D m.procs pcs/\Row w D 65 6 (.slice pa m.procs.length pc) m.procs.length pcs
 bd:∃ bcs,RepS w D m.body bcs/\OwnS w D (.slice ba m.body.length bc) m.body.length bcs
theorem MD.mono {w w':World}{D D':Nat->Prop}{m:Tp.M}{ia ga pa ba:Option Addr}{ic gc pc bc:Nat}(h:MD w D m ia ga pa ba ic gc pc bc) (hk:∀ b,D b->b<w.heap.size->w'.heap[b]?=w.heap[b]?/\D' b):MD w' D' m ia ga pa ba ic gc pc bc:=by
 obtain⟨pcs,p1,p2⟩:=h.pr
 obtain⟨bcs,b1,b2⟩:=h.bd
 exact⟨h.im.mono hk,h.gl.mono hk,⟨pcs,p1.mono hk _ _,p2.mono hk⟩,⟨bcs,b1.mono' hk,b2.mono hk⟩⟩
theorem MD.mb {w:World}{D:Nat->Prop}{m:Tp.M}{ia ga pa ba:Option Addr}{ic gc pc bc B:Nat}(h:MD w D m ia ga pa ba ic gc pc bc) (hB:∀ b,D b->b<w.heap.size->b<B):MB w B m ia ga pa ba ic gc pc bc:=by
 have:=h.mono (w':=w) (D':=fun i=>i<B) (fun b hb hl=>⟨rfl,hB b hb hl⟩)
 exact⟨this.im,this.gl,this.pr,this.bd⟩
theorem MB.md {w:World}{m:Tp.M}{ia ga pa ba:Option Addr}{ic gc pc bc B:Nat}(h:MB w B m ia ga pa ba ic gc pc bc):MD w (fun i=>i<B) m ia ga pa ba ic gc pc bc:=⟨h.im,h.gl,h.pr,h.bd⟩
def loV (lo:Lo) (k:Bs):Option Value:=(Tp.varOf lo.m k).map fun g=>.slice (some ⟨lo.sl k,0,none⟩) (vlen g) (vlen g)
structure LoOk (c:Cx) (lo:Lo):Prop where
 blk:∃ ia ga pa ba ic gc pc bc,c.w0.heap[lo.lb]?=some (.cells (lcells lo.m ia ga pa ba ic gc pc bc lo.vb) 107 (0,0))/\MD c.w0 c.D lo.m ia ga pa ba ic gc pc bc
 lbD:c.D lo.lb
 vbD:c.D lo.vb
 vm:∃ n,MapV c.w0 lo.vb n (loV lo)
 sv:∀ g∈lo.m.vars,lo.sl g.name<c.gb
 fit:Tp.FitM c.ms lo.m
def Cx.lo (c:Cx) (k:Bs):Option Lo:=c.L.find? fun lo=>lo.m.name == k
def Cx.thr (c:Cx) (k:Bs):Option Value:=(c.lo k).map fun lo=>.pointer (some ⟨lo.lb,0,none⟩)
structure CxOk (c:Cx):Prop where
 tbD:c.D c.tb
 thr:∃ n,MapV c.w0 c.tb n c.thr
 nd:(c.L.map fun lo=>lo.m.name).Nodup
 lo:∀ lo∈c.L,LoOk c lo
 inj:∀ lo∈c.L,∀ lo'∈c.L,∀ g∈lo.m.vars,∀ g'∈lo'.m.vars,lo.sl g.name=lo'.sl g'.name->lo.m.name=lo'.m.name/\g.name=g'.name
def ValOk (w:World) (lo:Lo) (p:Pt):Prop:=p.m=lo.m/\∀ g∈lo.m.vars,(p.vars g.name).length=vlen g/\w.heap[lo.sl g.name]?=some (.cells (ints (p.vars g.name)).toArray 2 (0,0))/\∀ v∈p.vars g.name,Tp.I64 v
def gcells4 (tb left k:Nat) (ov:Value):Array Value:=#[.map (some tb),.int .i64 (left:Int),.int .i64 (k:Int),ov]
structure GS (c:Cx) (w:World) (s:Rs) (k:Nat):Prop where
 st:∀ b,c.D b->w.heap[b]?=c.w0.heap[b]?
 blk:∃ ov,w.heap[c.gb]?=some (.cells (gcells4 c.tb s.left k ov) 152 (0,0))/\w.ownsRow (c.gb+1) 2 1 ov s.out.length (ints s.out)
 mw:Tp.ms s.w=c.ms
 vals:∀ lo∈c.L,∃ p,Tp.partOf s.w lo.m.name=some p/\ValOk w lo p
 ol:s.out.length<=200
 oi:∀ v∈s.out,Tp.I64 v
 ll:s.left<=800000
 kl:k<=30
def OutB (c:Cx) (w:World) (b:Nat):Prop:=∃ v,w.cell? ⟨c.gb,3,none⟩=some v/\v.ownBlock=some b
structure Kp (c:Cx) (Y:Nat->Prop) (w w':World):Prop where
 os:w'.os=w.os
 tape:w'.tape=w.tape
 output:w'.output=w.output
 size:w.heap.size<=w'.heap.size
 block:∀ b,b<w.heap.size->b≠c.gb->¬c.V b->¬OutB c w b->¬Y b->w'.heap[b]?=w.heap[b]?
 out:∀ b,OutB c w' b->OutB c w b\/w.heap.size<=b
def nY (_:Nat):Prop:=False
theorem Kp.refl (c:Cx) (Y:Nat->Prop) (w:World):Kp c Y w w:=⟨rfl,rfl,rfl,Nat.le_refl _,fun _ _ _ _ _ _=>rfl,fun _ h=>Or.inl h⟩
theorem Kp.trans {c:Cx}{Y:Nat->Prop}{w1 w2 w3:World}(h:Kp c Y w1 w2) (k:Kp c Y w2 w3):Kp c Y w1 w3:=by
 refine⟨k.os.trans h.os,k.tape.trans h.tape,k.output.trans h.output,Nat.le_trans h.size k.size,fun b h1 h2 h3 h4 h5=>?_,fun b hb=>?_⟩
 ·refine(k.block b (Nat.lt_of_lt_of_le h1 h.size) h2 h3 (fun q=>?_) h5).trans (h.block b h1 h2 h3 h4 h5)
  rcases h.out b q with q|q
  ·exact h4 q
  ·omega
 ·rcases k.out b hb with q|q
  ·exact h.out b q
  ·exact Or.inr (Nat.le_trans h.size q)
theorem Kp.fresh {c:Cx}{Y:Nat->Prop}{w1 w2 w3:World}(h:Kp c nY w1 w2) (k:Kp c Y w2 w3) (hY:∀ b,Y b->w1.heap.size<=b):Kp c nY w1 w3:=by
 refine⟨k.os.trans h.os,k.tape.trans h.tape,k.output.trans h.output,Nat.le_trans h.size k.size,fun b h1 h2 h3 h4 h5=>?_,fun b hb=>?_⟩
 ·refine(k.block b (Nat.lt_of_lt_of_le h1 h.size) h2 h3 (fun q=>?_) (fun q=>?_)).trans (h.block b h1 h2 h3 h4 h5)
  ·rcases h.out b q with q|q
   ·exact h4 q
   ·omega
  ·have:=hY b q;omega
 ·rcases k.out b hb with q|q
  ·exact h.out b q
  ·exact Or.inr (Nat.le_trans h.size q)
theorem Kp.mono {c:Cx}{Y Y':Nat->Prop}{w w':World}(h:Kp c Y w w') (k:∀ b,Y b->Y' b):Kp c Y' w w':=⟨h.os,h.tape,h.output,h.size,fun b h1 h2 h3 h4 h5=>h.block b h1 h2 h3 h4 (fun q=>h5 (k b q)),h.out⟩
theorem Kp.wide {c:Cx}{Y:Nat->Prop}{w w':World}(h:Kp c nY w w'):Kp c Y w w':=h.mono fun _ q=>q.elim
theorem GS.lt {c:Cx}{w:World}{s:Rs}{k:Nat}(h:GS c w s k):c.gb<w.heap.size:=by
 obtain⟨ov,h1,_⟩:=h.blk
 exact zf h1
theorem yr {c:Cx}{w w':World}(h:w'.heap[c.gb]?=w.heap[c.gb]?) (b:Nat):OutB c w' b↔OutB c w b:=by
 unfold OutB
 rw[World.cell?_of_block (w:=w) h]
theorem Kp.below {c:Cx}{Y:Nat->Prop}{w w':World}(h:Below w.heap.size w w') (hg:c.gb<w.heap.size):Kp c Y w w' :=
 ⟨h.os,h.tape,h.output,h.size,fun b hb _ _ _ _=>h.block b hb,fun b hb=>Or.inl ((yr (h.block c.gb hg) b).1 hb)⟩
theorem CxOk.lo_mem {c:Cx}{k:Bs}{lo:Lo}(h:c.lo k=some lo):lo∈c.L/\lo.m.name=k:=⟨List.mem_of_find?_eq_some h,by simpa using List.find?_some h⟩
theorem CxOk.lo_of {c:Cx}(h:CxOk c) {lo:Lo}(hl:lo∈c.L):c.lo lo.m.name=some lo:=(Tp.find_key (key:=fun lo:Lo=>lo.m.name) h.nd lo).2 ⟨hl,rfl⟩
theorem Cx.partM (c:Cx) (k:Bs):Tp.partM c.ms k=(c.lo k).map (·.m):=by
 unfold Tp.partM Cx.ms Cx.lo
 rw[List.find?_map]
 rfl
theorem Cx.Vof {c:Cx}{lo:Lo}(hl:lo∈c.L) {g:G}(hg:g∈lo.m.vars):c.V (lo.sl g.name):=⟨lo,hl,g,hg,rfl⟩
theorem GS.on {c:Cx}{w w':World}{s:Rs}{k:Nat}(h:GS c w s k) (ok:CxOk c) (hg:w'.heap[c.gb]?=w.heap[c.gb]?) (hb:∀ b,b<w.heap.size->b<c.gb\/OutB c w b->w'.heap[b]?=w.heap[b]?):GS c w' s k:=by
 have hgl:=h.lt
 have hlow:∀ b,b<c.gb->w'.heap[b]?=w.heap[b]?:=fun b q=>hb b (by omega) (Or.inl q)
 refine⟨fun b hd=>(hlow b hd.1).trans (h.st b hd),?_,h.mw,fun lo hl=>?_,h.ol,h.oi,h.ll,h.kl⟩
 ·obtain⟨ov,h1,h2⟩:=h.blk
  refine⟨ov,hg.trans h1,zH h2 (fun b q1 q2 q3=>hb b q2 (Or.inr ⟨ov,(za h1).trans rfl,q3⟩))⟩
 ·obtain⟨p,p1,p2,p3⟩:=h.vals lo hl
  exact⟨p,p1,p2,fun g hg=>⟨(p3 g hg).1,(hlow _ ((ok.lo lo hl).sv g hg)).trans (p3 g hg).2.1,(p3 g hg).2.2⟩⟩
theorem GS.below {c:Cx}{w w':World}{s:Rs}{k:Nat}(h:GS c w s k) (ok:CxOk c) (hb:Below w.heap.size w w'):GS c w' s k :=
 h.on ok (hb.block _ h.lt) (fun b hl _=>hb.block b hl)
def OwnM (c:Cx) (w:World) (sb:Nat) (ob:Option Nat) (own:Own) (left:Nat):Prop:=match ob with
 | none=>∀ k,own k=none
 | some ob=>c.gb<ob/\ob≠sb/\¬OutB c w ob/\∃ n,n+left<=900000/\MapV w ob n fun k=>(own k).map fun v=>.int .i64 v
structure Sc (c:Cx) (w:World) (sb:Nat) (ob:Option Nat) (lo:Lo) (own:Own) (names:List Bs) (left:Nat):Prop where
 hi:c.gb<sb
 no:¬OutB c w sb
 blk:w.heap[sb]?=some (.cells #[.pointer (some ⟨c.gb,0,none⟩),.pointer (some ⟨lo.lb,0,none⟩),.map ob] 98 (0,0))
 om:OwnM c w sb ob own left
 i64:∀ k v,own k=some v->Tp.I64 v
 dom:∀ k,(own k).isSome=true↔k∈names
 mem:lo∈c.L
theorem Sc.kp {c:Cx}{w w':World}{sb:Nat}{ob:Option Nat}{lo:Lo}{own:Own}{names:List Bs}{left left':Nat}(h:Sc c w sb ob lo own names left) (k:Kp c nY w w') (hv:∀ b,c.V b->b<c.gb) (hl:left'<=left):Sc c w' sb ob lo own names left':=by
 have hi:=h.hi
 have key:∀ b,c.gb<b->b<w.heap.size->¬OutB c w b->w'.heap[b]?=w.heap[b]?/\¬OutB c w' b:=fun b h1 h2 h3 =>
  ⟨k.block b h2 (by omega) (fun q=>by have:=hv b q;omega) h3 (fun q=>q),fun q=>by
   rcases k.out b q with q|q
   ·exact h3 q
   ·omega⟩
 obtain⟨k1,k2⟩:=key sb h.hi (zf h.blk) h.no
 refine⟨h.hi,k2,k1.trans h.blk,?_,h.i64,h.dom,h.mem⟩
 have ho:=h.om
 cases ob with
 | none=>exact ho
 | some ob =>
  obtain⟨q1,q2,q3,n,q4,q5⟩:=ho
  obtain⟨e1,e2⟩:=key ob q1 q5.lt q3
  exact⟨q1,q2,e2,n,by omega,q5.on e1⟩
theorem CxOk.Vlt {c:Cx}(h:CxOk c):∀ b,c.V b->b<c.gb:=by
 rintro b ⟨lo,hl,g,hg,rfl⟩
 exact(h.lo lo hl).sv g hg
abbrev Olds:={ l:List PanicEntry // ∀ x∈l,x.goexit=false }
def noP:Olds:=⟨[],by simp⟩
def thrE (t:Nat) (n:Int) (e:Ending):Prop:=∃ older:Olds,e=.panicked ({ v:=.iface t (.int .i64 n),recovered:=false } :: older.1)
def endT:Nat:=173
def toldT:Nat:=155
def EvP (c:Cx) (k:Nat) (w:World) (s:Rs) (r:Rr Int) (e:Ending) (w':World):Prop:=match r with
 | .ok v s'=>e=.returned (.int .i64 v)/\GS c w' s' k/\Kp c nY w w'/\s'.left<=s.left/\Tp.I64 v
 | .stop way s'=>thrE endT (way:Int) e/\(∃ k',GS c w' s' k')/\Kp c nY w w'
 | .gas=>True
structure Ex (c:Cx) (lo:Lo) (names:List Bs) (l:List X) (x:Nat):Prop where
 rep:RepL c.w0 c.D l [.pointer (some ⟨x,0,none⟩)]
 wx:Tp.WX l
 fit:∀ r∈Tp.rx l,Tp.FitR c.ms lo.m names r
def EvC (c:Cx) (g:Nat):Prop:=∀(k:Nat) (lo:Lo) (own:Own) (names:List Bs) (l:List X) (x:Nat) (w:World) (s:Rs) (sb:Nat) (ob:Option Nat),
 Ex c lo names l x->GS c w s k->Sc c w sb ob lo own names s.left->Tp.evX g k lo.m.name own l s≠.gas ->
 Calls Tryz.prog 150 #[.pointer (some ⟨sb,0,none⟩),.pointer (some ⟨x,0,none⟩)] w (EvP c k w s (Tp.evX g k lo.m.name own l s))
theorem GS.reg {c:Cx}{w w':World}{s:Rs}{k left' k':Nat}(h:GS c w s k) (ok:CxOk c) (hb:∀ b,b≠c.gb->w'.heap[b]?=w.heap[b]?)
  (hg:∀ ov,w.heap[c.gb]?=some (.cells (gcells4 c.tb s.left k ov) 152 (0,0))->w'.heap[c.gb]?=some (.cells (gcells4 c.tb left' k' ov) 152 (0,0))) (hl:left'<=800000) (hk:k'<=30):GS c w' { s with left:=left' } k':=by
 refine⟨fun b hd=>(hb b (by have:=hd.1;omega)).trans (h.st b hd),?_,h.mw,fun lo hlo=>?_,h.ol,h.oi,hl,hk⟩
 ·obtain⟨ov,h1,h2⟩:=h.blk
  exact⟨ov,hg ov h1,zH h2 (fun b q1 _ _=>hb b (by omega))⟩
 ·obtain⟨p,p1,p2,p3⟩:=h.vals lo hlo
  exact⟨p,p1,p2,fun g hgm=>⟨(p3 g hgm).1,(hb _ (by have:=(ok.lo lo hlo).sv g hgm;omega)).trans (p3 g hgm).2.1,(p3 g hgm).2.2⟩⟩
theorem zx {w:World}{b j:Nat}{v:Value}:∀ i,i≠b->(w.setCell ⟨b,j,none⟩ v).heap[i]?=w.heap[i]?:=fun i hi=>Below.heap_setCell _ _ _ _ (by simpa using hi)
theorem set_size (w:World) (a:Addr) (v:Value):(w.setCell a v).heap.size=w.heap.size:=by simp
theorem GS.outIs {c:Cx}{w:World}{s:Rs}{k:Nat}(h:GS c w s k):∃ ov,w.cell? ⟨c.gb,3,none⟩=some ov/\w.ownsRow (c.gb+1) 2 1 ov s.out.length (ints s.out):=by
 obtain⟨ov,h1,h2⟩:=h.blk
 exact⟨ov,(za h1).trans rfl,h2⟩
theorem Kp.reg {c:Cx}{w:World}{s:Rs}{k j:Nat}{v:Value}(h:GS c w s k) (hj:j≠3):Kp c nY w (w.setCell ⟨c.gb,j,none⟩ v):=by
 have e:(w.setCell ⟨c.gb,j,none⟩ v).os=w.os/\(w.setCell ⟨c.gb,j,none⟩ v).tape=w.tape/\(w.setCell ⟨c.gb,j,none⟩ v).output=w.output:=by
  have:=(Below.refl 0 w).setCell (p:=⟨c.gb,j,none⟩) (Nat.zero_le _) v
  exact⟨this.os,this.tape,this.output⟩
 refine⟨e.1,e.2.1,e.2.2,by simp,fun b _ hb _ _ _=>zx b hb,fun b hb=>Or.inl ?_⟩
 obtain⟨ov,h1,_⟩:=h.blk
 obtain⟨u,u1,u2⟩:=hb
 refine⟨u,?_,u2⟩
 rw[za (zu j v h1),Array.getElem?_setIfInBounds_ne (by omega)]at u1
 rw[za h1]
 exact u1
theorem GS.tick {c:Cx}{w:World}{s:Rs}{k n:Nat}(h:GS c w s k) (ok:CxOk c) (hl:s.left=n+1):GS c (w.setCell ⟨c.gb,1,none⟩ (.int .i64 (n:Int))) { s with left:=n } k :=
 h.reg ok (fun b hb=>zx b hb) (fun _ q=>(zu 1 _ q).trans rfl) (by have:=h.ll;omega) h.kl
theorem GS.wait {c:Cx}{w:World}{s:Rs}{k k':Nat}(h:GS c w s k) (ok:CxOk c) (hk:k'<=30):GS c (w.setCell ⟨c.gb,2,none⟩ (.int .i64 (k':Int))) s k' :=
 h.reg (left':=s.left) ok (fun b hb=>zx b hb) (fun _ q=>(zu 2 _ q).trans rfl) h.ll hk
theorem GS.tell {c:Cx}{w w5:World}{s:Rs}{k:Nat}{ov v':Value}{n:Int}(h:GS c w s k) (ok:CxOk c) (hov:w.cell? ⟨c.gb,3,none⟩=some ov)
  (hown:w5.ownsRow (c.gb+1) 2 1 v' (s.out.length+1) (ints s.out++[.int .i64 n])) (hgrow:w.grownBy w5 ov.ownBlock) (hw:∀ b,v'.ownBlock=some b->ov.ownBlock=some b\/w.heap.size<=b) (hn:s.out.length<200) (hi:Tp.I64 n) :
  GS c (w5.setCell ⟨c.gb,3,none⟩ v') { s with out:=s.out++[n] } k/\Kp c nY w (w5.setCell ⟨c.gb,3,none⟩ v'):=by
 obtain⟨ov',h1,h2⟩:=h.blk
 have:ov'=ov:=by rw[za h1]at hov;cases hov;rfl
 subst this
 have hgl:=zf h1
 have hne:ov'.ownBlock≠some c.gb:=fun e=>by have:=zT h2 _ e;omega
 have hg5:=(hgrow.block c.gb hgl (fun e=>hne e.symm)).trans h1
 have hs:=zu 3 v' hg5
 have hfr:∀ b,b<w.heap.size->b≠c.gb->ov'.ownBlock≠some b->(w5.setCell ⟨c.gb,3,none⟩ v').heap[b]?=w.heap[b]?:=fun b q1 q2 q3=>(zx b q2).trans (hgrow.block b q1 (fun e=>q3 e.symm))
 have hlow:∀ b,b<c.gb->(w5.setCell ⟨c.gb,3,none⟩ v').heap[b]?=w.heap[b]?:=fun b q=>hfr b (by omega) (by omega) (fun e=>by have:=zT h2 _ e;omega)
 refine⟨⟨fun b hd=>(hlow b hd.1).trans (h.st b hd),⟨v',hs.trans rfl,?_⟩,h.mw,fun lo hlo=>?_,by simp;omega,?_,h.ll,h.kl⟩,?_⟩
 ·have e:ints (s.out++[n])=ints s.out++[.int .i64 n]:=by simp[ints]
  simp only [List.length_append,List.length_singleton]
  rw[e]
  exact zH hown (fun b q1 _ _=>zx b (by omega))
 ·obtain⟨p,p1,p2,p3⟩:=h.vals lo hlo
  exact⟨p,p1,p2,fun g hgm=>⟨(p3 g hgm).1,(hlow _ ((ok.lo lo hlo).sv g hgm)).trans (p3 g hgm).2.1,(p3 g hgm).2.2⟩⟩
 ·intro v hv
  rcases List.mem_append.1 hv with q|q
  ·exact h.oi v q
  ·rw[List.mem_singleton]at q;subst q;exact hi
 ·have e:=(Below.refl 0 w5).setCell (p:=⟨c.gb,3,none⟩) (Nat.zero_le _) v'
  refine⟨e.os.trans hgrow.os,e.tape.trans hgrow.tape,e.output.trans hgrow.output,by simpa using hgrow.size,fun b q1 q2 _ q4 _=>hfr b q1 q2 (fun e=>q4 ⟨ov',hov,e⟩),fun b hb=>?_⟩
  obtain⟨u,u1,u2⟩:=hb
  rw[za hs]at u1
  have:u=v':=by simp[gcells4]at u1;exact u1.symm
  subst this
  rcases hw b u2 with q|q
  ·exact Or.inl ⟨ov',hov,q⟩
  ·exact Or.inr q
def setP (md nm:Bs) (l:List Int) (w:List Pt):List Pt:=w.map fun p=>if p.m.name=md then { p with vars:=fun k=>if k=nm then l else p.vars k } else p
theorem vy (md nm:Bs) (l:List Int) (w:List Pt) (n:Bs):Tp.partOf (setP md nm l w) n=(Tp.partOf w n).map fun p=>if p.m.name=md then { p with vars:=fun k=>if k=nm then l else p.vars k } else p:=by
 unfold Tp.partOf setP
 rw[List.find?_map]
 congr 1
 congr 1
 funext p
 simp only [Function.comp]
 split <;> rfl
theorem ms_setP (md nm:Bs) (l:List Int) (w:List Pt):Tp.ms (setP md nm l w)=Tp.ms w:=by
 unfold Tp.ms setP
 rw[List.map_map]
 apply List.map_congr_left
 intro p _
 simp only [Function.comp]
 split <;> rfl
theorem GS.setv {c:Cx}{w:World}{s:Rs}{k:Nat}(h:GS c w s k) (ok:CxOk c) {lo:Lo}(hlo:lo∈c.L) {g:G}(hg:g∈lo.m.vars) {p:Pt}(hp:Tp.partOf s.w lo.m.name=some p) {i:Nat}(hi:i<vlen g) {v:Int}(hv:Tp.I64 v) :
  GS c (w.setCell ⟨lo.sl g.name,i,none⟩ (.int .i64 v)) { s with w:=setP lo.m.name g.name ((p.vars g.name).set i v) s.w } k/\Kp c nY w (w.setCell ⟨lo.sl g.name,i,none⟩ (.int .i64 v)):=by
 have hsv:=(ok.lo lo hlo).sv g hg
 have hV:c.V (lo.sl g.name):=Cx.Vof hlo hg
 have hfr:∀ b,b≠lo.sl g.name->(w.setCell ⟨lo.sl g.name,i,none⟩ (.int .i64 v)).heap[b]?=w.heap[b]?:=fun b hb=>zx b hb
 refine⟨⟨fun b hd=>(hfr b (fun e=>hd.2 (e ▸ hV))).trans (h.st b hd),?_,(ms_setP _ _ _ _).trans h.mw,fun lo' hlo'=>?_,h.ol,h.oi,h.ll,h.kl⟩,?_⟩
 ·obtain⟨ov,h1,h2⟩:=h.blk
  exact⟨ov,(hfr _ (by omega)).trans h1,zH h2 (fun b q1 _ _=>hfr b (by omega))⟩
 ·obtain⟨p',p1,p2,p3⟩:=h.vals lo' hlo'
  by_cases hn:lo'.m.name=lo.m.name
  ·have hll:lo'=lo:=by
    have e1:=ok.lo_of hlo'
    have e2:=ok.lo_of hlo
    rw[hn,e2]at e1
    injection e1 with e1
    exact e1.symm
   subst hll
   rw[hp]at p1
   injection p1 with p1
   subst p1
   refine⟨{ p with vars:=fun k=>if k=g.name then (p.vars g.name).set i v else p.vars k },by rw[vy,hp];simp[p2],p2,fun g' hg'=>?_⟩
   by_cases hgg:g'.name=g.name
   ·have:g'=g:=by
     have hnd:=(ok.lo lo' hlo').fit.vn
     have e1:=Tp.varOf_mem hnd hg'
     have e2:=Tp.varOf_mem hnd hg
     rw[hgg,e2]at e1
     injection e1 with e1
     exact e1.symm
    subst this
    obtain⟨a1,a2,a3⟩:=p3 g' hg'
    simp only [if_true]
    refine⟨by rw[List.length_set];exact a1,?_,fun u hu=>?_⟩
    ·rw[zu i (.int .i64 v) a2]
     congr 2
     apply Array.toList_inj.1
     simp[ints,List.map_set]
    ·rcases List.mem_or_eq_of_mem_set hu with q|q
     ·exact a3 u q
     ·rw[q];exact hv
   ·simp only [if_neg hgg]
    obtain⟨a1,a2,a3⟩:=p3 g' hg'
    exact⟨a1,(hfr _ (fun e=>hgg (ok.inj lo' hlo' lo' hlo' g' hg' g hg e).2)).trans a2,a3⟩
  ·refine⟨p',by rw[vy,p1];simp[p2,hn],p2,fun g' hg'=>?_⟩
   obtain⟨a1,a2,a3⟩:=p3 g' hg'
   exact⟨a1,(hfr _ (fun e=>hn (ok.inj lo' hlo' lo hlo g' hg' g hg e).1)).trans a2,a3⟩
 ·have e:=(Below.refl 0 w).setCell (p:=⟨lo.sl g.name,i,none⟩) (Nat.zero_le _) (.int .i64 v)
  refine⟨e.os,e.tape,e.output,by simp,fun b _ _ q _ _=>hfr b (fun e=>q (e ▸ hV)),fun b hb=>Or.inl ((yr (hfr _ (by omega)) b).1 hb)⟩
theorem vf {c:Cx}{w:World}{s:Rs}{k:Nat}(h:GS c w s k) (hl:s.left=0) :
  Calls Tryz.prog 120 #[.pointer (some ⟨c.gb,0,none⟩)] w fun e w'=>thrE endT (Tp.fuelW:Int) e/\w'=w:=by
 obtain⟨ov,h1,_⟩:=h.blk
 have hgl:=zf h1
 have k1:w.cell? ⟨c.gb,1,none⟩=some (.int .i64 0):=(za h1).trans (by rw[hl];rfl)
 clear h h1 hl
 go_enter Tryz.func120,Tryz.ntmps120
 go_wp2_with fail
 exact⟨rfl,⟨noP,rfl⟩,rfl⟩
theorem rstep_ok {c:Cx}{w:World}{s:Rs}{k n:Nat}(h:GS c w s k) (hl:s.left=n+1) :
  Calls Tryz.prog 120 #[.pointer (some ⟨c.gb,0,none⟩)] w fun e w'=>e=.returned (.tuple #[])/\w'=w.setCell ⟨c.gb,1,none⟩ (.int .i64 (n:Int)):=by
 obtain⟨ov,h1,_⟩:=h.blk
 have hgl:=zf h1
 have k1:w.cell? ⟨c.gb,1,none⟩=some (.int .i64 ((n:Int)+1)):=(za h1).trans (by rw[hl];rfl)
 have z1:w.frozen? ⟨c.gb,1,none⟩=false:=zi h1
 have hn:(n:Int)+1<=800000:=by have:=h.ll;omega
 have hn0:¬(n:Int)+1<=0:=by omega
 clear h h1 hl
 go_enter Tryz.func120,Tryz.ntmps120
 go_wp2_with fail
 refine bodyPost_end (results_none rfl _ _ _) rfl ⟨rfl,?_⟩
 congr 2
theorem Tryz.infoInt64:(Tryz.prog.info? 2).map (fun i=>(i.zero,i.size,i.bytes))=some (some (.int .i64 0),1,8):=by kernel_rfl
@[go_sem] theorem zeroLo (w:World):(zeroValue 88).run Tryz.prog w=.ok (.pointer none) w:=by kernel_rfl
@[go_sem] theorem zeroI64 (w:World):(zeroValue 2).run Tryz.prog w=.ok (.int .i64 0) w:=by kernel_rfl
@[go_sem] theorem zeroI64s (w:World):(zeroValue 29).run Tryz.prog w=.ok (.slice none 0 0) w:=by kernel_rfl
theorem rtell_out {c:Cx}{w:World}{s:Rs}{k:Nat}(h:GS c w s k) (n:Int) (hl:s.out.length=200) :
  Calls Tryz.prog 151 #[.pointer (some ⟨c.gb,0,none⟩),.int .i64 n] w fun e w'=>thrE endT (Tp.full:Int) e/\w'=w:=by
 obtain⟨ov,h1,h2⟩:=h.blk
 obtain⟨oa,oc,rfl⟩:=zw h2
 have hgl:=zf h1
 have k3:w.cell? ⟨c.gb,3,none⟩=some (.slice oa 200 oc):=(za h1).trans (by rw[hl];rfl)
 clear h h1 h2 hl
 go_enter Tryz.func151,Tryz.ntmps151
 go_wp2_with fail
 exact⟨rfl,⟨noP,rfl⟩,rfl⟩
theorem rtell_ok {c:Cx}{w:World}{s:Rs}{k:Nat}(h:GS c w s k) (ok:CxOk c) (n:Int) (hl:s.out.length<200) (hi:Tp.I64 n) :
  Calls Tryz.prog 151 #[.pointer (some ⟨c.gb,0,none⟩),.int .i64 n] w fun e w'=>e=.returned (.tuple #[])/\GS c w' { s with out:=s.out++[n] } k/\Kp c nY w w':=by
 obtain⟨i0,hi0,hz0,hz1,hz2⟩:=info_parts Tryz.infoInt64
 have hgl:=h.lt
 have ha:Below w.heap.size w (w.alloc (.cells #[.int .i64 n] 2)):=zb _ _
 have HG1:=zh (h.below ok ha)
 have HK1:=zh (Kp.below (c:=c) (Y:=nY) ha hgl)
 obtain⟨ov,h1,h2⟩:=HG1.out.blk
 obtain⟨ov',h1',_⟩:=h.blk
 have hov:ov=ov':=by
  have:=ha.block c.gb hgl
  rw[h1,h1']at this
  simp only [Option.some.injEq,Obj.cells.injEq,gcells4]at this
  simpa using this.1
 subst hov
 obtain⟨oa,oc,rfl⟩:=zw h2
 have hne:¬((s.out.length:Int)=200):=by omega
 have k3:w.cell? ⟨c.gb,3,none⟩=some (.slice oa s.out.length oc):=(za h1').trans rfl
 have HK3:Hid ((w.alloc (.cells #[.int .i64 n] 2)).cell? ⟨c.gb,3,none⟩=some (.slice oa s.out.length oc)):=(za h1).trans rfl
 have HO:=zh h2
 have HBL:=zh h1
 have HNW:Hid (∀ j u,[Value.int .i64 n][j]?=some u->(w.alloc (.cells #[.int .i64 n] 2)).cell? (Addr.add ⟨w.heap.size,0,none⟩ j)=some u):=by
  intro j u hj
  match j,hj with
  | 0,hj=>simp at hj;subst hj;rw[Addr.add_lit,za (zo _ _)];rfl
 have HL:Hid (s.out.length<200):=hl
 have HOK:=zh ok
 have HII:=zh hi
 clear h h1 h1' h2 ha ok hl hi
 generalize hm:s.out.length=m at *
 have hm1:m<=200:=by have:=HL.out;omega
 go_enter Tryz.func151,Tryz.ntmps151
 go_wp2_with (at_builtin;refine zG _ rfl _ _ 29 rfl (c.gb+1) 2 i0 (.int .i64 0) 1 8 Tryz.underlying29 hi0 hz0 hz1 hz2 rfl (by decide) _ _ _ rfl HO.out ⟨w.heap.size,0,none⟩ 1 1 [.int .i64 n] rfl rfl HNW.out (by intro u hu;simp at hu;subst hu;rfl) (by unfold maxLen;omega) (by omega) (by simp;omega) ?_)
 intro v' w5 hown hgrow hwh
 have HGS:=zh (HG1.out.tell HOK.out (n:=n) HK3.out (by rw[hm];exact hown) hgrow (fun b hb=>by simpa using hwh b hb) (by rw[hm];exact HL.out) HII.out)
 obtain⟨va,vc,rfl⟩:=zw hown
 have hg5:w5.heap[c.gb]?=(w.alloc (.cells #[.int .i64 n] 2)).heap[c.gb]?:=hgrow.block c.gb (by simp;omega) (fun e=>by have:=zT HO.out _ e.symm;omega)
 have k5:w5.cell? ⟨c.gb,3,none⟩=some (.slice oa m oc):=(World.cell?_of_block (w:=w.alloc (.cells #[.int .i64 n] 2)) hg5).trans HK3.out
 have z5:w5.frozen? ⟨c.gb,3,none⟩=false:=zi (hg5.trans HBL.out)
 have hg5l:c.gb<w5.heap.size:=by have:=hgrow.size;simp at this;omega
 clear hown hgrow hwh hg5
 go_wp2_with fail
 exact bodyPost_end (results_none rfl _ _ _) rfl ⟨rfl,HGS.out.1,HK1.out.trans HGS.out.2⟩
theorem kU (a:Option Addr) (n cap:Nat) (k:Int) (h0:0<=k) (hk:k<n) (hn:n<=1000) (w:World) :
  Calls Tryz.prog 171 #[.slice a n cap,.int .i64 k] w fun e w'=>e=.returned (.int .i64 k)/\w'=w:=by
 have h0':¬k<0:=by omega
 have hk':¬(n:Int)<=k:=by omega
 have hn':(n:Int)<=1000:=by omega
 go_enter Tryz.func171,Tryz.ntmps171
 go_wp2_with fail
 go_ret
 exact⟨rfl,rfl⟩
theorem ju (a:Option Addr) (n cap:Nat) (k:Int) (hk:k<0\/(n:Int)<=k) (hn:n<=1000) (w:World) :
  Calls Tryz.prog 171 #[.slice a n cap,.int .i64 k] w fun e w'=>thrE endT (Tp.bounds:Int) e/\w'=w:=by
 have hn':(n:Int)<=1000:=by omega
 rcases(show k<0\/0<=k by omega) with h|h
 ·clear hk
  go_enter Tryz.func171,Tryz.ntmps171
  go_wp2_with fail
  exact⟨rfl,⟨noP,rfl⟩,rfl⟩
 ·have h':¬k<0:=by omega
  have hk':(n:Int)<=k:=by omega
  clear hk h
  go_enter Tryz.func171,Tryz.ntmps171
  go_wp2_with fail
  exact⟨rfl,⟨noP,rfl⟩,rfl⟩
end Go.Proofs.YtibncofnnlbmcaaGreatDoor
