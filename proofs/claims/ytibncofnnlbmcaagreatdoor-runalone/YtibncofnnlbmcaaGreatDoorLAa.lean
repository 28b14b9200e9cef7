import Derived.Test.YtibncofnnlbmcaaGreatDoorLQj
import Derived.Test.YtibncofnnlbmcaaGreatDoorLMf
set_option maxRecDepth 100000
set_option maxHeartbeats 4000000
namespace Go.Proofs.YtibncofnnlbmcaaGreatDoor
open Go.RowKit Go.Maps Go.Sort
open Tp (Bs X S G Pr Pt Rs Rr Own Sy)
theorem swp_mem {d:Array Sy}{i j:Nat}{s:Sy}(a:i<d.size)(b:j<d.size)(h:s∈(swp d i j).toList):s∈d.toList:=by
 rw[Array.mem_toList_iff]at h ⊢
 have c:s∈(d.setIfInBounds i d[j]!).setIfInBounds j d[i]!:=h
 rcases Array.mem_or_eq_of_mem_setIfInBounds c with h1|h1
 ·rcases Array.mem_or_eq_of_mem_setIfInBounds h1 with h2|h2
  ·exact h2
  ·rw[h2,getElem!_pos d j b];exact Array.getElem_mem b
 ·rw[h1,getElem!_pos d i a];exact Array.getElem_mem a
theorem vQ {c:Sy->Sy->Bool}(a:Nat):∀(j:Nat) (d:Array Sy) (s:Sy),j<d.size->s∈(Sort.insInner c a j d).toList->s∈d.toList:=by
 intro j
 induction j with
 |zero=>intro d s _ h;exact h
 |succ j ih =>
  intro d s b h
  rw[Sort.insInner]at h
  split at h
  ·have:=ih _ _ (by simp[swp];omega) h
   exact swp_mem b (by omega) this
  ·exact h
theorem vP {e:Sy->Sy->Bool}(a b:Nat):∀(k i:Nat) (d:Array Sy) (s:Sy),b-i=k->b<=d.size->s∈(Sort.insOuter e a b i d).toList->s∈d.toList:=by
 intro k
 induction k with
 |zero=>intro i d s h _ c;rw[Sort.insOuter,if_neg (by omega)]at c;exact c
 |succ k ih =>
  intro i d s h f c
  rw[Sort.insOuter]at c
  split at c
  ·have:=ih (i+1) _ s (by omega) (by rw[kI];exact f) c
   exact vQ a i d s (by omega) this
  ·exact c
theorem srt_mem {l:List Sy}{s:Sy}(h:s∈srt l):s∈l:=by
 unfold srt insS Sort.insertionSort at h
 have:=vP 0 l.length _ 1 l.toArray s rfl (by simp) h
 simpa using this
def ofS (m:Tp.M):List Tp.Sy:=srt (Tp.symsOf m)
theorem jx (m:Tp.M):∀s∈ofS m,s∈Tp.symsOf m:=fun _ a=>srt_mem a
theorem ofS_ok (m:Tp.M):∀s∈ofS m,Tp.OkS s:=fun s a=>Tp.symsOf_ok s (srt_mem a)
def zwB (w:World) (wb:Nat):Prop:=w.heap[wb]?=some (.cells #[.slice none 0 0,.map none] 28 (0,0))
def WX (X:Nat->Prop) (w:World) (wb:Nat) (L:List Lo) (P:List Pt) (nv:Value):Option Nat->Prop
 |some tb=>WW X w wb L P nv tb
 |none=>L=[]/\P=[]/\nv=.slice none 0 0/\¬X wb/\zwB w wb
def Mut (L:List Lo) (wb:Nat) (tv:Option Nat) (nv:Value) (b:Nat):Prop:=VLo L b\/b=wb\/tv=some b\/nv.ownBlock=some b
structure Tr (U U':Nat->Prop) (w w':World):Prop where
 os:w'.os=w.os
 tape:w'.tape=w.tape
 output:w'.output=w.output
 size:w.heap.size<=w'.heap.size
 block:∀b,b<w.heap.size->¬U b->w'.heap[b]?=w.heap[b]?
 more:∀b,U' b->U b\/w.heap.size<=b
theorem Tr.below {U:Nat->Prop}{w w':World}(h:Below w.heap.size w w'):Tr U U w w':=⟨h.os,h.tape,h.output,h.size,fun b a _=>h.block b a,fun _ a=>Or.inl a⟩
theorem Tr.trans {U c d:Nat->Prop}{w e w2:World}(h:Tr U c w e)(k:Tr c d e w2):Tr U d w w2:=by
 refine⟨k.os.trans h.os,k.tape.trans h.tape,k.output.trans h.output,Nat.le_trans h.size k.size,fun b a f=>?_,fun b a=>?_⟩
 ·refine(k.block b (Nat.lt_of_lt_of_le a h.size) (fun q=>?_)).trans (h.block b a f)
  rcases h.more b q with q|q
  ·exact f q
  ·omega
 ·rcases k.more b a with q|q
  ·exact h.more b q
  ·exact Or.inr (Nat.le_trans h.size q)
theorem Tr.then {U b:Nat->Prop}{w a w2:World}(h:Tr U b w a)(k:Below a.heap.size a w2):Tr U b w w2:=h.trans (Tr.below k)
theorem Tr.ahead {U b:Nat->Prop}{w a w2:World}(h:Below w.heap.size w a)(k:Tr U b a w2):Tr U b w w2:=(Tr.below h).trans k
theorem Tr.toBelow {U a:Nat->Prop}{w w':World}{B:Nat}(h:Tr U a w w')(d:B<=w.heap.size)(c:∀b,U b->B<=b):Below B w w':=⟨h.os,h.tape,h.output,h.size,fun b e=>h.block b (by omega) (fun q=>by have:=c b q;omega)⟩
theorem WX.blk {X:Nat->Prop}{w:World}{b:Nat}{L:List Lo}{P:List Pt}{c:Value}{a:Option Nat}(h:WX X w b L P c a):w.heap[b]?=some (.cells #[c,.map a] 28 (0,0)):=by
 cases a with
 |some tb=>exact WW.blk h
 |none=>obtain⟨_,_,rfl,_,h⟩:=h;exact h
theorem WX.xw {X:Nat->Prop}{w:World}{a:Nat}{L:List Lo}{P:List Pt}{c:Value}{b:Option Nat}(h:WX X w a L P c b):¬X a:=by
 cases b with
 |some tb=>exact(WW.xw h).1
 |none=>exact h.2.2.2.1
theorem WX.nm {X:Nat->Prop}{w:World}{c:Nat}{L:List Lo}{P:List Pt}{b:Value}{a:Option Nat}(h:WX X w c L P b a):w.ownsRow 0 9 1 b L.length (strs (L.map fun lo=>lo.m.name)):=by
 cases a with
 |some tb=>exact WW.nm h
 |none=>obtain⟨rfl,_,rfl,_⟩:=h;exact World.ownsRow_nil _ _ _ _
theorem WX.mw {X:Nat->Prop}{w:World}{b:Nat}{L:List Lo}{P:List Pt}{c:Value}{a:Option Nat}(h:WX X w b L P c a):Tp.ms P=L.map fun lo=>lo.m:=by
 cases a with
 |some tb=>exact WW.mw h
 |none=>obtain⟨rfl,rfl,_⟩:=h;rfl
theorem WX.nd {X:Nat->Prop}{w:World}{b:Nat}{L:List Lo}{P:List Pt}{c:Value}{a:Option Nat}(h:WX X w b L P c a):(L.map fun lo=>lo.m.name).Nodup:=by
 cases a with
 |some tb=>exact WW.nd h
 |none=>obtain⟨rfl,rfl,_⟩:=h;exact List.nodup_nil
theorem WX.ww {X:Nat->Prop}{w:World}{b:Nat}{L:List Lo}{P:List Pt}{c:Value}{a:Option Nat}(h:WX X w b L P c a){lo:Lo}(d:lo∈L):∃tb,a=some tb/\WW X w b L P c tb:=by
 cases a with
 |some tb=>exact⟨tb,rfl,h⟩
 |none=>obtain⟨rfl,_⟩:=h;cases d
def ptrV (L:List Lo) (k:Bs):Option Addr:=(L.find? fun lo=>lo.m.name==k).map fun lo=>⟨lo.lb,0,none⟩
theorem WX.look {X:Nat->Prop}{w:World}{d:Nat}{L:List Lo}{P:List Pt}{e:Value}{a:Option Nat}(h:WX X w d L P e a)(k:Bs)(b:k.length<=1000000):(Instr.lookup 26 (.map a) (.string (bs k)) false).run Tryz.prog w=.ok (.pointer (ptrV L k)) w:=by
 cases a with
 |some tb =>
  obtain⟨n,_,c⟩:=WW.th h
  rw[c.look (t:=26) Tryz.underlying26 (zeroLo _) k b false]
  unfold thrL ptrV
  cases f:L.find? fun lo=>lo.m.name==k with
  |none=>simp
  |some lo=>simp
 |none =>
  obtain⟨rfl,_⟩:=h
  exact ky w (t:=26) Tryz.underlying26 (zeroLo _) k b false
theorem WX.more {X:Nat->Prop}{w w':World}{c:Nat}{L:List Lo}{P:List Pt}{d:Value}{a:Option Nat}(h:WX X w c L P d a)(e:Below w.heap.size w w'):WX (fun b=>X b\/w.heap.size<=b) w' c L P d a:=by
 cases a with
 |some tb=>exact WW.more h e
 |none =>
  obtain⟨j,g,i,k,f⟩:=h
  have:=zf f
  exact⟨j,g,i,fun q=>q.elim k (fun z=>by omega),(e.block _ this).trans f⟩
theorem WX.less {X Y:Nat->Prop}{w:World}{c:Nat}{L:List Lo}{P:List Pt}{e:Value}{a:Option Nat}(h:WX X w c L P e a)(d:∀b,Y b->X b):WX Y w c L P e a:=by
 cases a with
 |some tb=>exact WW.less h d
 |none=>exact⟨h.1,h.2.1,h.2.2.1,fun q=>h.2.2.2.1 (d _ q),h.2.2.2.2⟩
theorem WX.on {X:Nat->Prop}{w w':World}{a:Nat}{L:List Lo}{P:List Pt}{c:Value}{b:Option Nat}(h:WX X w a L P c b)(d:Below w.heap.size w w'):WX X w' a L P c b:=(h.more d).less (fun _ q=>Or.inl q)
theorem WX.other {X o:Nat->Prop}{w w':World}{j:Nat}{L:List Lo}{P:List Pt}{l:Value}{i:Option Nat}(h:WX X w j L P l i)(k:∀b,b<w.heap.size->¬X b->w'.heap[b]?=w.heap[b]?)(v:w.heap.size<=w'.heap.size)(r:∀b,o b->X b\/w.heap.size<=b):WX o w' j L P l i:=by
 have e:=h.more (Below.refl _ _)
 cases i with
 |some tb =>
  have a:WW (fun b=>X b\/w.heap.size<=b) w j L P l tb:=e
  refine WW.less (X:=fun b=>X b\/w.heap.size<=b) ?_ r
  refine a.keep (fun b y s _=>k b y (fun q=>s (Or.inl q))) v (fun lo m=>?_) a.mw
  obtain⟨p,u,x,d⟩:=a.vals lo m
  exact⟨p,u,x,fun g c=>⟨(d g c).1,(k _ (zf (d g c).2.1) (fun q=>(a.sv _ ⟨lo,m,g,c,rfl⟩).2 (Or.inl q))).trans (d g c).2.1,(d g c).2.2⟩⟩
 |none =>
  obtain⟨e,a,t,n,f⟩:=h
  exact⟨e,a,t,fun q=>(r _ q).elim n (fun z=>by have:=zf f;omega),(k _ (zf f) n).trans f⟩
theorem WX.mlt {X:Nat->Prop}{w:World}{c:Nat}{L:List Lo}{P:List Pt}{d:Value}{a:Option Nat}(h:WX X w c L P d a){b:Nat}(e:Mut L c a d b):b<w.heap.size/\¬X b:=by
 cases a with
 |some tb =>
  have h:WW X w c L P d tb:=h
  rcases e with q|rfl|q|q
  ·exact h.sv b q
  ·exact⟨zf h.blk,h.xw.1⟩
  ·cases q
   obtain⟨n,_,f⟩:=h.th
   exact⟨f.lt,h.tx.1⟩
  ·exact⟨(h.nm.lt b q).2,(h.nx b q).1⟩
 |none =>
  obtain⟨rfl,rfl,rfl,i,g⟩:=h
  rcases e with⟨lo,q,_⟩|rfl|q|q
  ·cases q
  ·exact⟨zf g,i⟩
  ·cases q
  ·cases q
theorem WX.wm {X:Nat->Prop}{w:World}{d:Nat}{L:List Lo}{P:List Pt}{e:Value}{b:Option Nat}(h:WX X w d L P e b){lo:Lo}(a:lo∈L):Tp.WM lo.m:=by
 obtain⟨f,_,c⟩:=h.ww a
 exact(c.lo lo a).2.2.2.2.wm
def MapC (w:World) (tv:Option Nat) (L:List Lo) (c:Nat):Prop:=∀tb,tv=some tb->∃n,n<=c/\MapV w tb n (thrL L)
def WZ (X U:Nat->Prop) (c:Nat) (w:World) (wb:Nat) (P:List Pt):Prop:=∃L nv tv,WX X w wb L P nv tv/\L.length<=10/\Tp.WI ofS P/\(∀b,U b↔Mut L wb tv nv b)/\MapC w tv L c/\∀m∈Tp.ms P,Tp.nM m<=1000
theorem WZ.on {X U:Nat->Prop}{c:Nat}{w w':World}{b:Nat}{P:List Pt}(h:WZ X U c w b P)(d:Below w.heap.size w w'):WZ X U c w' b P:=by
 obtain⟨L,k,i,o,j,l,q,m,f⟩:=h
 refine⟨L,k,i,o.on d,j,l,q,fun g e=>?_,f⟩
 obtain⟨n,p,a⟩:=m g e
 exact⟨n,p,a.on (d.block _ a.lt)⟩
theorem WZ.lt {X U:Nat->Prop}{c:Nat}{w:World}{d:Nat}{P:List Pt}(h:WZ X U c w d P){b:Nat}(e:U b):b<w.heap.size/\¬X b:=by
 obtain⟨L,i,g,f,_,_,a,_⟩:=h
 exact f.mlt ((a b).1 e)
theorem WZ.other {X a U:Nat->Prop}{c:Nat}{w w':World}{g:Nat}{P:List Pt}(h:WZ X U c w g P)(i:∀b,b<w.heap.size->¬X b->w'.heap[b]?=w.heap[b]?)(o:w.heap.size<=w'.heap.size)(u:∀b,a b->X b\/w.heap.size<=b):WZ a U c w' g P:=by
 obtain⟨L,p,l,j,m,q,t,r,k⟩:=h
 refine⟨L,p,l,j.other i o u,m,q,t,fun d e=>?_,k⟩
 obtain⟨n,s,f⟩:=r d e
 exact⟨n,s,f.on (i _ f.lt (j.mlt (b:=d) (Or.inr (Or.inr (Or.inl e)))).2)⟩
theorem WZ.more {X U:Nat->Prop}{c b:Nat}{w:World}{a:Nat}{P:List Pt}(h:WZ X U c w a P)(q:c<=b):WZ X U b w a P:=by
 obtain⟨L,k,g,o,i,l,p,m,d⟩:=h
 refine⟨L,k,g,o,i,l,p,fun f e=>?_,d⟩
 obtain⟨n,r,j⟩:=m f e
 exact⟨n,by omega,j⟩
theorem WZ.wb {X U:Nat->Prop}{c:Nat}{w:World}{a:Nat}{P:List Pt}(h:WZ X U c w a P):U a:=by
 obtain⟨L,e,d,f,_,_,b,_⟩:=h
 exact(b a).2 (Or.inr (Or.inl rfl))
theorem WZ.zero {X:Nat->Prop}{w:World}{a:Nat}(h:w.heap[a]?=some (.cells #[.slice none 0 0,.map none] 28 (0,0)))(d:¬X a):WZ X (fun b=>b=a) 0 w a []:=by
 refine⟨[],.slice none 0 0,none,⟨rfl,rfl,rfl,d,h⟩,by simp,Tp.WI.empty _,fun b=>⟨fun e=>Or.inr (Or.inl e),fun e=>?_⟩,(fun f e=>by cases e),fun m c=>by cases c⟩
 rcases e with⟨lo,q,_⟩|q|q|q
 ·cases q
 ·exact q
 ·cases q
 ·cases q
theorem WZ.all {X U:Nat->Prop}{c:Nat}{w:World}{a:Nat}{P:List Pt}(h:WZ X U c w a P):Calls Tryz.prog 13 #[.pointer (some ⟨a,0,none⟩)] w fun e w'=>e=.returned (.string (allB P))/\Below w.heap.size w w':=by
 obtain⟨L,i,f,b,d,_⟩:=h
 cases f with
 |some tb=>exact all_post b d
 |none =>
  obtain⟨_,rfl,_,_,g⟩:=b
  exact all_zero g
theorem jl {X:Nat->Prop}{w:World}{d:Nat}{L:List Lo}{P:List Pt}{f:Value}{c:Option Nat}(h:WX X w d L P f c)(k:Bs):(Tp.partOf P k=none/\ptrV L k=none)\/∃p,∃lo∈L,Tp.partOf P k=some p/\p.m=lo.m/\lo.m.name=k/\ptrV L k=some ⟨lo.lb,0,none⟩:=by
 have e:(Tp.partOf P k).map (·.m)=(L.find? fun lo=>lo.m.name==k).map (·.m):=by
  have g:(Tp.partOf P k).map (·.m)=(Tp.ms P).find? fun m=>m.name==k:=by
   unfold Tp.partOf Tp.ms
   rw[List.find?_map]
   rfl
  rw[g,h.mw,List.find?_map]
  rfl
 unfold ptrV
 cases b:L.find? fun lo=>lo.m.name==k with
 |none =>
  rw[b]at e
  refine Or.inl ⟨?_,rfl⟩
  cases a:Tp.partOf P k with
  |none=>rfl
  |some p=>rw[a]at e;cases e
 |some lo =>
  rw[b]at e
  cases a:Tp.partOf P k with
  |none=>rw[a]at e;cases e
  |some p =>
   rw[a]at e
   exact Or.inr ⟨p,lo,List.mem_of_find?_eq_some b,rfl,by simpa using e,by simpa using List.find?_some b,rfl⟩
def seenL (L:List Lo):Tp.Seen:=fun k=>(L.find? fun lo=>lo.m.name==k).map fun lo=>ofS lo.m
theorem WX.seen {X:Nat->Prop}{w:World}{a:Nat}{L:List Lo}{P:List Pt}{d:Value}{b:Option Nat}(h:WX X w a L P d b):Tp.seenW ofS P=seenL L:=by
 funext k
 have e:(Tp.partOf P k).map (·.m)=(L.find? fun lo=>lo.m.name==k).map (·.m):=by
  have c:(Tp.partOf P k).map (·.m)=(Tp.ms P).find? fun m=>m.name==k:=by
   unfold Tp.partOf Tp.ms
   rw[List.find?_map]
   rfl
  rw[c,h.mw,List.find?_map]
  rfl
 have:=congrArg (Option.map ofS) e
 simpa[Tp.seenW,seenL,Option.map_map,Function.comp_def] using this
theorem seenL_succ {L:List Lo}(f:(L.map fun lo=>lo.m.name).Nodup){i:Nat}(b:i<L.length):seenL (L.take (i+1))=fun k=>if k=L[i].m.name then some (ofS L[i].m) else seenL (L.take i) k:=by
 funext k
 unfold seenL
 rw[List.take_succ_eq_append_getElem b,List.find?_append]
 by_cases e:k=L[i].m.name
 ·rw[if_pos e]
  have:(L.take i).find? (fun lo=>lo.m.name==k)=none:=by
   rw[List.find?_eq_none]
   intro lo a q
   have c:lo.m.name=k:=by simpa using q
   obtain⟨j,d,rfl⟩:=List.getElem_of_mem a
   rw[List.length_take]at d
   rw[List.getElem_take]at c
   have:=(List.getElem_inj (h₀:=by simp;omega) (h₁:=by simpa using b) f (i:=j) (j:=i)).1 (by simpa using c.trans e)
   omega
  rw[this]
  simp[e]
 ·rw[if_neg e]
  have:([L[i]]:List Lo).find? (fun lo=>lo.m.name==k)=none:=by
   rw[List.find?_eq_none]
   intro lo a q
   rw[List.mem_singleton]at a
   subst a
   exact e (by simpa using q:L[i].m.name=k).symm
  rw[this]
  simp
end Go.Proofs.YtibncofnnlbmcaaGreatDoor
namespace Go.Proofs.YtibncofnnlbmcaaGreatDoor
open Go.RowKit Go.Maps
open Tp (Bs X S G Pr Pt Rs Rr Own Sy Seen)
theorem js {m:Tp.M}(a:Tp.WM m):(ofS m).length<=1000:=by
 unfold ofS
 rw[kR]
 unfold Tp.symsOf
 have c:=List.length_filter_le (fun g:Tp.G=>g.seen) m.vars
 have b:=List.length_filter_le (fun p:Tp.Pr=>p.seen) m.procs
 have:=a.gc
 have:=a.pc
 simp only[List.length_append,List.length_map]
 omega
theorem seen_putA {wr m j:World}{e c i B:Nat}{Sn n:Seen}{f:Bs->Option Value}{x:Bs}{v:Value}{l:List Sy}(y:n=fun k=>if k=x then some l else Sn k)(A:c<=i)(o:MapV wr e c f)(h:∀k,match Sn k with
 |none=>f k=none
 |some l=>∃v,f k=some v/\SL wr 0 v l/\l.length<=1000)(r:Below wr.heap.size wr m)(z:SL m B v l)(w:l.length<=1000)(s:MapV j e (c+1) (updV f x v))(t:Ext e m j):∃c,c<=i+1/\SeenM j e c n:=by
 rw[y]
 refine⟨c+1,by omega,SeenM.store (o.on (r.block _ o.lt)) (fun k=>?_) (l:=l) ?_ w s t⟩
 ·have:=h k
  cases p:Sn k with
  |none=>rw[p]at this;exact this
  |some ll=>rw[p]at this;obtain⟨u,a,b,d⟩:=this;exact⟨u,a,b.on r,d⟩
 ·rcases z with q|⟨g,cap,a,_,b⟩
  ·exact Or.inl q
  ·exact Or.inr ⟨g,cap,a,Nat.zero_le _,b⟩
def RdA (w:World) (L:List Lo) (tv:Option Nat) (na:Option Addr) (i:Nat) (hi:i<L.length):Prop:=∃nb ia ga pa ba ic gc pc bc,na=some ⟨nb,0,none⟩/\nb<w.heap.size/\w.cell? ⟨nb,i,none⟩=some (.string (bs L[i].m.name))/\w.heap[L[i].lb]?=some (.cells (lcells L[i].m ia ga pa ba ic gc pc bc L[i].vb) 107 (0,0))/\MB w w.heap.size L[i].m ia ga pa ba ic gc pc bc/\(Instr.lookup 26 (.map tv) (.string (bs L[i].m.name)) false).run Tryz.prog w=.ok (.pointer (some ⟨L[i].lb,0,none⟩)) w
theorem WX.rd {X:Nat->Prop}{w:World}{A:Nat}{L:List Lo}{P:List Pt}{d:Option Nat}{f:Option Addr}{q:Nat}(h:WX X w A L P (.slice f L.length q) d)(i:Nat)(a:i<L.length):RdA w L d f i a:=by
 obtain⟨C,rfl,e⟩:=h.ww (List.getElem_mem a)
 obtain⟨⟨s,y,B,u,t,o,v,x,r,z⟩,_,_,_,j⟩:=e.lo _ (List.getElem_mem a)
 have l:=e.nm
 rcases l.2 with⟨_,D⟩|⟨g,cap,cur,q1,_,q3,q4,q5,q6,q7⟩
 ·omega
 ·injection q1 with q1 _ _
  have c:=h.look L[i].m.name (by have:=zQ j.wm.n;omega)
  have k:ptrV L L[i].m.name=some ⟨L[i].lb,0,none⟩:=by
   unfold ptrV
   rw[(Tp.find_key (key:=fun lo:Lo=>lo.m.name) h.nd L[i]).2 ⟨List.getElem_mem a,rfl⟩]
   rfl
  rw[k]at c
  refine⟨g,s,y,B,u,t,o,v,x,q1,zf q3,?_,r,z.mb (fun b _ p=>p),c⟩
  rw[za q3,<-Array.getElem?_toList]
  have:(strs (L.map fun lo=>lo.m.name))[i]?=some (.string (bs L[i].m.name)):=by simp[strs,a]
  rw[<-this,<-q7,List.getElem?_take_of_lt (by omega)]
theorem seen_any {X:Nat->Prop}{w:World}{d:Nat}{L:List Lo}{P:List Pt}{nv:Value}{u:Option Nat}(h:WX X w d L P nv u)(hL:L.length<=10) :
  Calls Tryz.prog 38 #[.pointer (some ⟨d,0,none⟩)] w fun e w'=>∃sb,e=.returned (.map (some sb))/\Below w.heap.size w w'/\SeenV w' (.map (some sb)) (Tp.seenW ofS P):=by
 have U:=@run_makeMap Tryz.prog
 rw[h.seen]
 obtain⟨K,nc,A⟩:=zw h.nm
 rw[A]at h
 have y:SeenM (w.alloc (.map #[] 0)) w.heap.size 0 (seenL (L.take 0)):=⟨_,MapV.made w,fun k=>by simp[seenL]⟩
 have G:Below w.heap.size w (w.alloc (.map #[] 0)):=zb _ _
 have z:=zf h.blk
 have J:(w.alloc (.map #[] 0)).cell? ⟨d,0,none⟩=some (.slice K L.length nc):=(World.cell?_of_block (w:=w) (Below.heap_alloc _ _ _ z)).trans ((za h.blk).trans rfl)
 have a2:Hid (∀W,Below w.heap.size w W->W.cell? ⟨d,1,none⟩=some (.map u)/\d<W.heap.size):=fun W l=>⟨(l.cell (p:=⟨d,1,none⟩) z).trans ((za h.blk).trans rfl),by have:=l.size;omega⟩
 have a3:Hid (∀W,Below w.heap.size w W->∀i (v:i<L.length),RdA W L u K i v):=fun W l i v=>(h.on l).rd i v
 have V:Hid (∀lo∈L,Tp.WM lo.m):=fun lo hl=>h.wm hl
 have Z:=zh h.nd
 have a6:(w.alloc (.map #[] 0)).heap.size=w.heap.size+1:=by simp
 have a4:=zh y
 have T:=zh G
 have Y:(L.length:Int)<=10:=by omega
 obtain⟨a,o⟩:∃a,a=L.length:=⟨_,rfl⟩
 rw[<-o]at Y J
 have B:=zh o
 clear y G o h A hL
 go_enter Tryz.func38,Tryz.ntmps38
 go_wp2_with fail
 clear J
 generalize w.alloc (.map #[] 0)=w0 at *
 clear U
 go_loopg [12] a (fun k vi wr=>∃i:Nat,i<=a/\k=a-i/\vi=.int .i64 (i:Int)/\Hid (∃c,c<=i/\SeenM wr w.heap.size c (seenL (L.take i)))/\Hid (Ext w.heap.size w0 wr))
 case atStart=>exact⟨0,by omega,by omega,rfl,⟨0,Nat.le_refl _,a4.out⟩,Ext.refl _ _⟩
 case round =>
  obtain⟨i,S,hk,rfl,E,s⟩:=hrel
  have b3:=s.out.size
  have r:Hid (Below w.heap.size w wr):=T.out.trans (zX s.out zn (by omega))
  by_cases b2:i<a
  ·have Q:(i:Int)<(a:Int):=by omega
   have b1:¬(i:Int)<0:=by omega
   have q:i<L.length:=by have:=B.out;omega
   obtain⟨nb,ia,ga,pa,ba,ic,gc,pc,bc,rfl,a9,kn,b,F,a8⟩:=a3.out wr r.out i q
   obtain⟨k1,a5⟩:=a2.out wr r.out
   have g:=V.out _ (List.getElem_mem q)
   have M:=zh (uD g.gc g.pc F)
   have a1:=zh (seenL_succ Z.out q)
   have R:L[i].m.name.length<=1000000:=by have:=zQ g.n;omega
   have N:=zh (js g)
   have a7:=zf b
   unfold lcells at b
   have m0:wr.cell? ⟨L[i].lb,0,none⟩=some (.string (bs L[i].m.name)):=(za b).trans rfl
   have m1:wr.cell? ⟨L[i].lb,1,none⟩=some (.slice ia L[i].m.imports.length ic):=(za b).trans rfl
   have m2:wr.cell? ⟨L[i].lb,2,none⟩=some (.slice ga L[i].m.vars.length gc):=(za b).trans rfl
   have m3:wr.cell? ⟨L[i].lb,3,none⟩=some (.slice pa L[i].m.procs.length pc):=(za b).trans rfl
   have m4:wr.cell? ⟨L[i].lb,4,none⟩=some (.slice ba L[i].m.body.length bc):=(za b).trans rfl
   simp only[mcells]at M
   clear g F b
   generalize L[i].lb=lb at *
   generalize L[i].m=m at *
   clear S
   go_wp2_with fail
   refine M.out.mono ?_
   rintro e w5⟨v5,rfl,j,C⟩
   obtain⟨c,c1,f,c2,c3⟩:=E.out
   obtain⟨H,b0,I,x,q3⟩:=(c2.on (j.block _ c2.lt)).store (t:=90) Tryz.underlying90 (by omega) m.name R v5
   have O:Hid (∃c,c<=i+1/\SeenM H w.heap.size c (seenL (L.take (i+1)))):=seen_putA a1.out c1 c2 c3 j C N.out I x
   have a0:Hid (Ext w.heap.size w0 H):=(s.out.trans (Ext.below j)).trans x
   clear j C c2 c3 I x q3
   go_wp2_with fail
   go_roundg (a-(i+1))
   case measure=>omega
   case rel=>exact⟨i+1,by omega,rfl,by go_num,O,a0⟩
  ·have Q:¬(i:Int)<(a:Int):=by omega
   have D:i=L.length:=by have:=B.out;omega
   have HF:Hid (SeenV wr (.map (some w.heap.size)) (seenL L)):=by
    obtain⟨c,c1,c2⟩:=E.out
    rw[D,List.take_length]at c2
    exact Or.inr ⟨_,c,rfl,c2⟩
   clear D
   go_wp2_with fail
   go_ret
   exact⟨_,rfl,r.out,HF.out⟩
end Go.Proofs.YtibncofnnlbmcaaGreatDoor
namespace Go.Proofs.YtibncofnnlbmcaaGreatDoor
open Go.RowKit Go.Maps
open Tp (Bs X S G Pr Pt Rs Rr Own)
def SwapQ (X U:Nat->Prop) (c:Nat) (w:World) (wb:Nat) (a:Tp.Ans) (e:Ending) (w':World):Prop:=∃ev,e=.returned ev/\(∃U',WZ X U' (c+1) w' wb a.w/\Tr U U' w w')/\EvT w.heap.size w' a.err ev
def ErrS (w:World) (er:Nat×Option Nat) (e:Ending) (w':World):Prop:=Below w.heap.size w w'/\∃v,e=.returned v/\ErrV w.heap.size w' er v
theorem swap_none {X:Nat->Prop}{w:World}{b:Nat}{L:List Lo}{P:List Pt}{nv:Value}{G:Option Nat}{m:Tp.M}{g o q j:Option Addr}{i f k l:Nat}(h:WX X w b L P nv G)(_:L.length<=10)(S:MB w w.heap.size m g o q j i f k l)(z:Tp.WM m)(I:ptrV L m.name=none) :
  Calls Tryz.prog 18 #[.pointer (some ⟨b,0,none⟩),.agg (mcells (bs m.name) (.slice g m.imports.length i) (.slice o m.vars.length f) (.slice q m.procs.length k) (.slice j m.body.length l))] w (ErrS w (7,none)):=by
 have b5:=zQ z.n
 have a3:=zf h.blk
 obtain⟨W,c⟩:∃W,W=(w.alloc (.cells #[.pointer (some ⟨b,0,none⟩)] 47)).alloc (.cells (mcells (bs m.name) (.slice g m.imports.length i) (.slice o m.vars.length f) (.slice q m.procs.length k) (.slice j m.body.length l)) 36):=⟨_,rfl⟩
 have t:Below w.heap.size w W:=by rw[c];exact(zb _ _).alloc (by simp) _
 have e:W.heap.size=w.heap.size+2:=by rw[c];simp
 have u:W.heap[w.heap.size]?=some (.cells #[.pointer (some ⟨b,0,none⟩)] 47 (0,0)):=by rw[c];exact(Below.heap_alloc _ _ _ (by simp)).trans (zo _ _)
 have s:W.heap[w.heap.size+1]?=some (.cells (mcells (bs m.name) (.slice g m.imports.length i) (.slice o m.vars.length f) (.slice q m.procs.length k) (.slice j m.body.length l)) 36 (0,0)):=by rw[c];exact yj _ _ _
 obtain⟨a,d⟩:∃a,a=(W.alloc (.cells #[.pointer none] 88)).drew:=⟨_,rfl⟩
 have x:Below W.heap.size W a:=by rw[d];exact(zb _ _).drew
 have T:a.heap.size=w.heap.size+3:=by rw[d];show (W.alloc _).heap.size=_;simp[e]
 have C:a.heap[w.heap.size+2]?=some (.cells #[.pointer none] 88 (0,0)):=by
  rw[d]
  have:=zo W (.cells #[.pointer none] 88)
  rw[e]at this
  exact this
 have R:=(t.block b a3).trans h.blk
 have k1:W.cell? ⟨b,1,none⟩=some (.map G):=(za R).trans rfl
 have Y:W.cell? ⟨w.heap.size+1,0,none⟩=some (.string (bs m.name)):=(za s).trans rfl
 have kp:W.cell? ⟨w.heap.size,0,none⟩=some (.pointer (some ⟨b,0,none⟩)):=(za u).trans rfl
 have r:∀V,Below W.heap.size W V->(Instr.lookup 26 (.map G) (.string (bs m.name)) false).run Tryz.prog V=.ok (.pointer none) V:=fun V hV=>by
  have:=((h.on t).on hV).look m.name (by omega)
  rw[I]at this
  exact this
 have K:=r W (Below.refl _ _)
 have H:=r W.drew ((Below.refl _ _).drew)
 have J:=r (W.alloc (.cells #[.pointer none] 88)).drew ((zb _ _).drew)
 have a2:=zh S
 have a5:=zh z.sml
 have a4:Hid (Below w.heap.size w a):=t.trans (x.mono (by omega))
 have O:Hid (a.heap[w.heap.size+1]?=_):=(x.block _ (zf s)).trans s
 have a9:Hid (a.heap[w.heap.size]?=_):=(x.block _ (zf u)).trans u
 have b3:=zh C
 have HM:=zh z
 have b0:=zh h
 have b7:=zh T
 have a6:b<W.heap.size:=by omega
 have a8:w.heap.size+1<W.heap.size:=by omega
 have a7:w.heap.size<W.heap.size:=by omega
 have k2:a.cell? ⟨W.heap.size,0,none⟩=some (.pointer none):=by rw[e];exact(za C).trans rfl
 have b4:W.heap.size<a.heap.size:=by omega
 have b6:=zh e
 unfold mcells at *
 obtain⟨y,v⟩:∃y,y=bs m.name:=⟨_,rfl⟩
 obtain⟨Sn,Q⟩:∃Sn,Sn=Tp.seenW ofS P:=⟨_,rfl⟩
 have N:Hid (∀p F,Below w.heap.size w p->SeenV p (.map (some F)) Sn->Calls Tryz.prog 37 #[.agg #[.string y,.slice g m.imports.length i,.slice o m.vars.length f,.slice q m.procs.length k,.slice j m.body.length l],.map (some F)] p (CheckP p (Tp.check m Sn))):=fun p F a1 a0=>by
  have:=yU a5.out (a2.out.up a1) a0
  unfold mcells at this
  rw[v]
  exact this
 rw[<-v]at c Y K H J O ⊢
 have b2:Hid (y=bs m.name):=v
 have b1:Hid (Sn=Tp.seenW ofS P):=Q
 clear S z R s u C t e x T v Q h I r
 obtain⟨il,A⟩:∃il,il=m.imports.length:=⟨_,rfl⟩
 obtain⟨gl,B⟩:∃gl,gl=m.vars.length:=⟨_,rfl⟩
 obtain⟨U,D⟩:∃U,U=m.procs.length:=⟨_,rfl⟩
 obtain⟨Z,E⟩:∃Z,Z=m.body.length:=⟨_,rfl⟩
 rw[<-A,<-B,<-D,<-E]at c O N ⊢
 have HQ:=zh (And.intro A (And.intro B (And.intro D E)))
 clear A B D E
 go_enter Tryz.func18,Tryz.ntmps18
 go_upto_region 1 with fail
 rw[<-c]
 clear c
 go_region
 all_goals
  rw[<-d]
  clear d K H J k1 Y kp
  clear N
  have HR:Hid (ErrS w (7,none) (.returned (.iface 44 (.int .i64 7))) a):=⟨a4.out,_,rfl,rfl⟩
  go_wp2_with fail
  go_ret
  exact HR.out
theorem EvT.lower {B B':Nat}{w':World}{er:Option (Nat×Option Nat)}{ev:Value}(h:EvT B w' er ev)(d:B'<=B):EvT B' w' er ev:=by
 cases er with
 |none=>exact h
 |some e =>
  obtain⟨n,b⟩:=e
  cases b with
  |none=>exact h
  |some pl =>
   obtain⟨a,g,c,f⟩:∃a,ev=.iface 117 (.pointer (some ⟨a,0,none⟩))/\B<=a/\w'.cell? ⟨a,0,none⟩=some (.int .i64 (n:Int))/\w'.cell? ⟨a,1,none⟩=some (.int .i64 (pl:Int)):=h
   exact⟨a,g,Nat.le_trans d c,f⟩
theorem EvT.on {B b:Nat}{w w':World}{er:Option (Nat×Option Nat)}{ev:Value}(h:EvT B w er ev)(d:Ext b w w')(l:b<B):EvT B w' er ev:=by
 cases er with
 |none=>exact h
 |some e =>
  obtain⟨n,f⟩:=e
  cases f with
  |none=>exact h
  |some pl =>
   obtain⟨a,j,g,i,k⟩:∃a,ev=.iface 117 (.pointer (some ⟨a,0,none⟩))/\B<=a/\w.cell? ⟨a,0,none⟩=some (.int .i64 (n:Int))/\w.cell? ⟨a,1,none⟩=some (.int .i64 (pl:Int)):=h
   have c:a≠b:=by omega
   exact⟨a,j,g,d.cell i c,d.cell k c⟩
theorem ui {w w':World}{b:Option (Nat×Option Nat)}{e:Ending}(h:CheckP w b e w'):Below w.heap.size w w'/\∃ev,e=.returned ev/\EvT w.heap.size w' b ev:=by
 cases b with
 |none=>obtain⟨a,rfl⟩:=h;exact⟨a,_,rfl,rfl⟩
 |some er =>
  obtain⟨n,d⟩:=er
  cases d with
  |none=>obtain⟨a,rfl⟩:=h;exact⟨a,_,rfl,rfl⟩
  |some pl=>obtain⟨a,c,rfl,f⟩:=h;exact⟨a,_,rfl,c,rfl,f⟩
theorem neE (n:Int)(w:World):(binOp .neq 38 (.iface 44 (.int .i64 n)) .nilIface).run Tryz.prog w=.ok (.bool true) w:=by kernel_rfl
theorem neA (a:Nat)(w:World):(binOp .neq 38 (.iface 117 (.pointer (some ⟨a,0,none⟩))) .nilIface).run Tryz.prog w=.ok (.bool true) w:=by kernel_rfl
theorem gdE (x y:Operand)(n:Int)(w:World):(eqGuard .neq 38 x y (.iface 44 (.int .i64 n)) .nilIface).run Tryz.prog w=.ok () w:=by kernel_rfl
theorem gdA (x y:Operand)(a:Nat)(w:World):(eqGuard .neq 38 x y (.iface 117 (.pointer (some ⟨a,0,none⟩))) .nilIface).run Tryz.prog w=.ok () w:=by kernel_rfl
theorem EvT.gd {B:Nat}{w':World}{er:Nat×Option Nat}{ev:Value}(h:EvT B w' (some er) ev)(x y:Operand)(w:World):(eqGuard .neq 38 x y ev .nilIface).run Tryz.prog w=.ok () w:=by
 obtain⟨n,b⟩:=er
 cases b with
 |none=>obtain rfl:ev=.iface 44 (.int .i64 (n:Int)):=h;exact gdE _ _ _ _
 |some pl=>obtain⟨a,rfl,_⟩:∃a,ev=.iface 117 (.pointer (some ⟨a,0,none⟩))/\_:=h;exact gdA _ _ _ _
theorem EvT.ne {B:Nat}{w':World}{er:Nat×Option Nat}{ev:Value}(h:EvT B w' (some er) ev)(w:World):(binOp .neq 38 ev .nilIface).run Tryz.prog w=.ok (.bool true) w:=by
 obtain⟨n,b⟩:=er
 cases b with
 |none=>obtain rfl:ev=.iface 44 (.int .i64 (n:Int)):=h;exact neE _ _
 |some pl=>obtain⟨a,rfl,_⟩:∃a,ev=.iface 117 (.pointer (some ⟨a,0,none⟩))/\_:=h;exact neA _ _
def ErrP (w:World) (er:Nat×Option Nat) (e:Ending) (w':World):Prop:=Below w.heap.size w w'/\∃v,e=.returned (.tuple #[no2,v])/\ErrV w.heap.size w' er v
theorem load_twice {X:Nat->Prop}{w:World}{s fuel:Nat}{L:List Lo}{P:List Pt}{nv:Value}{N:Option Nat}{m:Tp.M}{f p e l:Option Addr}{g k i o:Nat}(h:WX X w s L P nv N)(_:L.length<=10)(a0:MB w w.heap.size m f p e l g k i o)(A:Tp.WM m){lo:Lo}(O:ptrV L m.name=some ⟨lo.lb,0,none⟩) :
  Calls Tryz.prog 17 #[.pointer (some ⟨s,0,none⟩),.agg (mcells (bs m.name) (.slice f m.imports.length g) (.slice p m.vars.length k) (.slice e m.procs.length i) (.slice l m.body.length o)),.int .i64 (fuel:Int)] w (ErrP w (9,none)):=by
 obtain⟨er,H⟩:∃er:Nat×Option Nat,er=(9,none):=⟨_,rfl⟩
 rw[<-H]
 have a3:=zh H
 clear H
 have b4:=zQ A.n
 have a7:=zf h.blk
 obtain⟨W,b⟩:∃W,W=(w.alloc (.cells (mcells (bs m.name) (.slice f m.imports.length g) (.slice p m.vars.length k) (.slice e m.procs.length i) (.slice l m.body.length o)) 36)).alloc (.cells #[.int .i64 0,.slice none 0 0] 43):=⟨_,rfl⟩
 have u:Below w.heap.size w W:=by rw[b];exact(zb _ _).alloc (by simp) _
 have Z:W.heap.size=w.heap.size+2:=by rw[b];simp
 have I:W.heap[w.heap.size]?=some (.cells (mcells (bs m.name) (.slice f m.imports.length g) (.slice p m.vars.length k) (.slice e m.procs.length i) (.slice l m.body.length o)) 36 (0,0)):=by rw[b];exact(Below.heap_alloc _ _ _ (by simp)).trans (zo _ _)
 have V:W.heap[w.heap.size+1]?=some (.cells #[.int .i64 0,.slice none 0 0] 43 (0,0)):=by
  have:=zo (w.alloc (.cells (mcells (bs m.name) (.slice f m.imports.length g) (.slice p m.vars.length k) (.slice e m.procs.length i) (.slice l m.body.length o)) 36)) (.cells #[.int .i64 0,.slice none 0 0] 43)
  rw[b]
  simpa using this
 have E:=(u.block s a7).trans h.blk
 have k1:W.cell? ⟨s,1,none⟩=some (.map N):=(za E).trans rfl
 have km:W.cell? ⟨w.heap.size,0,none⟩=some (.string (bs m.name)):=(za I).trans rfl
 have R:∀n,(Instr.lookup 26 (.map N) (.string (bs m.name)) false).run Tryz.prog (W.drewN n)=.ok (.pointer (some ⟨lo.lb,0,none⟩)) (W.drewN n):=fun n=>by
  have:=((h.on u).on (below_drewN (Below.refl W.heap.size W) n)).look m.name (by omega)
  rw[O]at this
  exact this
 have a6:=zh a0
 have a4:=zh A.sml
 have a2:=zh u
 have Y:=zh I
 have a5:=zh V
 have b8:=zh E
 have HM:=zh A
 have b2:=zh h
 have U:=zh Z
 have b0:s<W.heap.size:=by omega
 have b1:w.heap.size<W.heap.size:=by omega
 unfold mcells at *
 obtain⟨z,x⟩:∃z,z=bs m.name:=⟨_,rfl⟩
 obtain⟨Sn,T⟩:∃Sn,Sn=Tp.seenW ofS P:=⟨_,rfl⟩
 have Q:Hid (∀r K,Below w.heap.size w r->SeenV r (.map (some K)) Sn->Calls Tryz.prog 37 #[.agg #[.string z,.slice f m.imports.length g,.slice p m.vars.length k,.slice e m.procs.length i,.slice l m.body.length o],.map (some K)] r (CheckP r (Tp.check m Sn))):=fun r K a8 a1=>by
  have:=yU a4.out (a6.out.up a8) a1
  unfold mcells at this
  rw[x]
  exact this
 rw[<-x]at b km R Y ⊢
 have b3:Hid (z=bs m.name):=x
 have b7:Hid (Sn=Tp.seenW ofS P):=T
 clear a0 A E I V u Z x T h O
 obtain⟨il,F⟩:∃il,il=m.imports.length:=⟨_,rfl⟩
 obtain⟨gl,D⟩:∃gl,gl=m.vars.length:=⟨_,rfl⟩
 obtain⟨pl,J⟩:∃pl,pl=m.procs.length:=⟨_,rfl⟩
 obtain⟨bl,G⟩:∃bl,bl=m.body.length:=⟨_,rfl⟩
 rw[<-F,<-D,<-J,<-G]at b Y Q ⊢
 have HQ:=zh (And.intro F (And.intro D (And.intro J G)))
 clear F D J G
 go_enter Tryz.func17,Tryz.ntmps17
 go_upto_region 1 with fail
 rw[<-b]
 clear b
 go_quiet (fail)
 obtain⟨t,y⟩:∃t,t=W.drewN nq:=⟨_,rfl⟩
 have e1:t.heap=W.heap:=by rw[y];rfl
 have a9:Hid (Below W.heap.size W t):=by rw[y];exact below_drewN (Below.refl _ _) _
 rw[<-y]
 clear y R k1 km
 clear Q
 obtain⟨a,C⟩:∃a,a=t:=⟨_,rfl⟩
 have S:Hid (Below W.heap.size W a):=by rw[C];exact a9.out
 rw[<-C]
 clear C
 have d:=(S.out.block _ (show w.heap.size+1<W.heap.size by have:=U.out;omega)).trans a5.out
 have e0:a.cell? ⟨w.heap.size+1,0,none⟩=some (.int .i64 0):=(za d).trans rfl
 have b5:a.cell? ⟨w.heap.size+1,1,none⟩=some (.slice none 0 0):=(za d).trans rfl
 have ez:∀j,a.frozen? ⟨w.heap.size+1,j,none⟩=false:=fun j=>zi d
 have b6:=zf d
 have B:=zu 1 (.slice none 0 0) (zu 0 (.int .i64 0) d)
 obtain⟨c,q⟩:∃c,c=(a.setCell ⟨w.heap.size+1,0,none⟩ (.int .i64 0)).setCell ⟨w.heap.size+1,1,none⟩ (.slice none 0 0):=⟨_,rfl⟩
 have f0:c.cell? ⟨w.heap.size+1,0,none⟩=some (.int .i64 0):=by rw[q];exact(za B).trans rfl
 have f1:c.cell? ⟨w.heap.size+1,1,none⟩=some (.slice none 0 0):=by rw[q];exact(za B).trans rfl
 have HR:Hid (ErrP w er (.returned (.tuple #[no2,.iface 44 (.int .i64 9)])) c):=by
  have hx:Ext (w.heap.size+1) a c:=by rw[q];exact((Ext.refl _ _).set 0 _).set 1 _
  have hb:Below w.heap.size w c:=by
   rw[q]
   exact zq (zq (a2.out.trans (S.out.mono (by have:=U.out;omega))) (by omega) 0 _) (by omega) 1 _
  refine⟨hb,_,rfl,?_⟩
  rw[a3.out];exact rfl
 clear d B
 go_wp2_with fail
 rw[<-q]
 exact bodyPost_ret (v:=.tuple #[no2,.iface 44 (.int .i64 9)]) (by simp[results,Tryz.results17,go_sem,no2,f0,f1]) rfl HR.out
end Go.Proofs.YtibncofnnlbmcaaGreatDoor
namespace Go.Proofs.YtibncofnnlbmcaaGreatDoor
open Go.RowKit
open Tp (Bs)
theorem indexT2 {w:World}{a:Option Addr}{cap:Nat}{l:List Bs}{p:Bs->Bool}{h:FuncId}{c1 c2:Value}(q:StrsAt w l a)(I:l.length<=1000000)(H:∀(args:Array Value) (w:World),(callFunc h args).run Tryz.prog w=.ok (.enter h args) w)
  (hd:∀W (x:Bs),x∈l->Below w.heap.size w W->Calls Tryz.prog h #[.string (bs x),c1,c2] W fun e w'=>e=.returned (.bool (p x))/\Below W.heap.size W w') :
  Calls Tryz.prog 89 #[.slice a l.length cap,.func (.func h) #[] #[c1,c2]] w fun e w'=>(∃k:Int,e=.returned (.int .i64 k)/\(decide (0<=k)=l.any p))/\Below w.heap.size w w':=by
 have G:(l.length:Int)<=1000000:=by omega
 have v:=zh q
 have B:=zh hd
 clear q hd
 go_enter Tryz.func89,Tryz.ntmps89
 go_wp2_with fail
 go_loopg [8] l.length (fun k A wr=>∃i:Nat,i<=l.length/\k=l.length-i/\A=.int .i64 (i:Int)/\Hid ((l.take i).any p=false)/\Hid (Below w.heap.size w wr))
 case atStart=>exact⟨0,by omega,by omega,rfl,rfl,Below.refl _ _⟩
 case round =>
  obtain⟨i,F,K,rfl,j,b⟩:=hrel
  by_cases f:i<l.length
  ·have t:(i:Int)<(l.length:Int):=by omega
   obtain⟨g,s,rfl,u,n⟩:=v.out.c i f
   have C:wr.cell? ⟨g,s+i,none⟩=some (.string (bs l[i])):=(b.out.cell (p:=⟨g,s+i,none⟩) u).trans n
   clear n
   have E:g<wr.heap.size:=zg C
   have D:=zh (B.out wr l[i] (List.getElem_mem f) b.out)
   have y:Hid ((l.take (i+1)).any p=p l[i]):=by
    show _=_
    rw[List.take_succ_eq_append_getElem f,List.any_append,j.out];simp
   have z:Hid (p l[i]=true->l.any p=true):=fun e=>List.any_eq_true.2 ⟨_,List.getElem_mem f,e⟩
   generalize p l[i]=d at *
   generalize l[i]=x at *
   clear j
   go_wp2_with fail
   refine D.out.mono ?_
   rintro e J⟨rfl,r⟩
   have o:=zh (b.out.trans (r.mono b.out.size))
   clear r
   cases d with
   |true =>
    have m:=zh (z.out rfl)
    go_wp2_with fail
    go_ret
    refine⟨⟨_,rfl,?_⟩,o.out⟩
    rw[m.out]
    exact decide_eq_true (by omega)
   |false =>
    go_wp2_with fail
    go_roundg (l.length-(i+1))
    case measure=>omega
    case rel=>exact⟨i+1,by omega,rfl,by go_num,y,o⟩
  ·have t:¬(i:Int)<(l.length:Int):=by omega
   have m:Hid (l.any p=false):=by
    have:=j.out
    rw[List.take_of_length_le (by omega)]at this
    exact this
   go_wp2_with fail
   go_ret
   refine⟨⟨_,rfl,?_⟩,b.out⟩
   rw[m.out]
   rfl
theorem containsT2 {w:World}{a:Option Addr}{cap:Nat}{l:List Bs}{p:Bs->Bool}{b:FuncId}{c1 c2:Value}(f:StrsAt w l a)(j:l.length<=1000000)(c:∀(args:Array Value) (w:World),(callFunc b args).run Tryz.prog w=.ok (.enter b args) w)
  (hd:∀W (x:Bs),x∈l->Below w.heap.size w W->Calls Tryz.prog b #[.string (bs x),c1,c2] W fun e w'=>e=.returned (.bool (p x))/\Below W.heap.size W w') :
  Calls Tryz.prog 44 #[.slice a l.length cap,.func (.func b) #[] #[c1,c2]] w fun e w'=>e=.returned (.bool (l.any p))/\Below w.heap.size w w':=by
 have i:=zh (indexT2 (cap:=cap) f j c hd)
 clear f hd c
 go_enter Tryz.func44,Tryz.ntmps44
 go_wp2_with fail
 refine i.out.mono ?_
 rintro e m⟨⟨k,rfl,d⟩,h⟩
 have g:=zh d
 clear d
 go_wp2_with fail
 go_ret
 exact⟨by rw[<-g.out];rfl,h⟩
theorem indexT3 {w:World}{a:Option Addr}{cap:Nat}{l:List Bs}{p:Bs->Bool}{h:FuncId}{c1 c2 c3:Value}(q:StrsAt w l a)(I:l.length<=1000000)(H:∀(args:Array Value) (w:World),(callFunc h args).run Tryz.prog w=.ok (.enter h args) w)
  (hd:∀W (x:Bs),x∈l->Below w.heap.size w W->Calls Tryz.prog h #[.string (bs x),c1,c2,c3] W fun e w'=>e=.returned (.bool (p x))/\Below W.heap.size W w') :
  Calls Tryz.prog 89 #[.slice a l.length cap,.func (.func h) #[] #[c1,c2,c3]] w fun e w'=>(∃k:Int,e=.returned (.int .i64 k)/\(decide (0<=k)=l.any p))/\Below w.heap.size w w':=by
 have G:(l.length:Int)<=1000000:=by omega
 have v:=zh q
 have B:=zh hd
 clear q hd
 go_enter Tryz.func89,Tryz.ntmps89
 go_wp2_with fail
 go_loopg [8] l.length (fun k A wr=>∃i:Nat,i<=l.length/\k=l.length-i/\A=.int .i64 (i:Int)/\Hid ((l.take i).any p=false)/\Hid (Below w.heap.size w wr))
 case atStart=>exact⟨0,by omega,by omega,rfl,rfl,Below.refl _ _⟩
 case round =>
  obtain⟨i,F,K,rfl,j,b⟩:=hrel
  by_cases f:i<l.length
  ·have t:(i:Int)<(l.length:Int):=by omega
   obtain⟨g,s,rfl,u,n⟩:=v.out.c i f
   have C:wr.cell? ⟨g,s+i,none⟩=some (.string (bs l[i])):=(b.out.cell (p:=⟨g,s+i,none⟩) u).trans n
   clear n
   have E:g<wr.heap.size:=zg C
   have D:=zh (B.out wr l[i] (List.getElem_mem f) b.out)
   have y:Hid ((l.take (i+1)).any p=p l[i]):=by
    show _=_
    rw[List.take_succ_eq_append_getElem f,List.any_append,j.out];simp
   have z:Hid (p l[i]=true->l.any p=true):=fun e=>List.any_eq_true.2 ⟨_,List.getElem_mem f,e⟩
   generalize p l[i]=d at *
   generalize l[i]=x at *
   clear j
   go_wp2_with fail
   refine D.out.mono ?_
   rintro e J⟨rfl,r⟩
   have o:=zh (b.out.trans (r.mono b.out.size))
   clear r
   cases d with
   |true =>
    have m:=zh (z.out rfl)
    go_wp2_with fail
    go_ret
    refine⟨⟨_,rfl,?_⟩,o.out⟩
    rw[m.out]
    exact decide_eq_true (by omega)
   |false =>
    go_wp2_with fail
    go_roundg (l.length-(i+1))
    case measure=>omega
    case rel=>exact⟨i+1,by omega,rfl,by go_num,y,o⟩
  ·have t:¬(i:Int)<(l.length:Int):=by omega
   have m:Hid (l.any p=false):=by
    have:=j.out
    rw[List.take_of_length_le (by omega)]at this
    exact this
   go_wp2_with fail
   go_ret
   refine⟨⟨_,rfl,?_⟩,b.out⟩
   rw[m.out]
   rfl
theorem containsT3 {w:World}{a:Option Addr}{cap:Nat}{l:List Bs}{p:Bs->Bool}{b:FuncId}{c1 c2 c3:Value}(f:StrsAt w l a)(j:l.length<=1000000)(c:∀(args:Array Value) (w:World),(callFunc b args).run Tryz.prog w=.ok (.enter b args) w)
  (hd:∀W (x:Bs),x∈l->Below w.heap.size w W->Calls Tryz.prog b #[.string (bs x),c1,c2,c3] W fun e w'=>e=.returned (.bool (p x))/\Below W.heap.size W w') :
  Calls Tryz.prog 44 #[.slice a l.length cap,.func (.func b) #[] #[c1,c2,c3]] w fun e w'=>e=.returned (.bool (l.any p))/\Below w.heap.size w w':=by
 have i:=zh (indexT3 (cap:=cap) f j c hd)
 clear f hd c
 go_enter Tryz.func44,Tryz.ntmps44
 go_wp2_with fail
 refine i.out.mono ?_
 rintro e m⟨⟨k,rfl,d⟩,h⟩
 have g:=zh d
 clear d
 go_wp2_with fail
 go_ret
 exact⟨by rw[<-g.out];rfl,h⟩
end Go.Proofs.YtibncofnnlbmcaaGreatDoor
