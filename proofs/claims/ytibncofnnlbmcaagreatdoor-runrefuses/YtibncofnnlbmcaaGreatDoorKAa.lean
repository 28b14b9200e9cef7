import Derived.Test.YtibncofnnlbmcaaGreatDoorKQj
import Derived.Test.YtibncofnnlbmcaaGreatDoorKMf
set_option maxRecDepth 100000
set_option maxHeartbeats 4000000
namespace Go.Proofs.YtibncofnnlbmcaaGreatDoor
open Go.RowKit Go.Maps Go.Sort
open Tp (Bs X S G Pr Pt Rs Rr Own Sy)
theorem swp_mem {d:Array Sy}{i j:Nat}{s:Sy}(hi:i<d.size) (hj:j<d.size) (h:s∈(swp d i j).toList):s∈d.toList:=by
 rw[Array.mem_toList_iff]at h ⊢
 have h':s∈(d.setIfInBounds i d[j]!).setIfInBounds j d[i]!:=h
 rcases Array.mem_or_eq_of_mem_setIfInBounds h' with h1|h1
 ·rcases Array.mem_or_eq_of_mem_setIfInBounds h1 with h2|h2
  ·exact h2
  ·rw[h2,getElem!_pos d j hj];exact Array.getElem_mem hj
 ·rw[h1,getElem!_pos d i hi];exact Array.getElem_mem hi
theorem vQ {lt:Sy->Sy->Bool}(a:Nat):∀(j:Nat) (d:Array Sy) (s:Sy),j<d.size->s∈(Sort.insInner lt a j d).toList->s∈d.toList:=by
 intro j
 induction j with
 | zero=>intro d s _ h;exact h
 | succ j ih =>
  intro d s hj h
  rw[Sort.insInner]at h
  split at h
  ·have:=ih _ _ (by simp[swp];omega) h
   exact swp_mem hj (by omega) this
  ·exact h
theorem vP {lt:Sy->Sy->Bool}(a b:Nat):∀(k i:Nat) (d:Array Sy) (s:Sy),b - i=k->b<=d.size->s∈(Sort.insOuter lt a b i d).toList->s∈d.toList:=by
 intro k
 induction k with
 | zero=>intro i d s h _ hs;rw[Sort.insOuter,if_neg (by omega)]at hs;exact hs
 | succ k ih =>
  intro i d s h hb hs
  rw[Sort.insOuter]at hs
  split at hs
  ·have:=ih (i+1) _ s (by omega) (by rw[kI];exact hb) hs
   exact vQ a i d s (by omega) this
  ·exact hs
theorem srt_mem {l:List Sy}{s:Sy}(h:s∈srt l):s∈l:=by
 unfold srt insS Sort.insertionSort at h
 have:=vP 0 l.length _ 1 l.toArray s rfl (by simp) h
 simpa using this
def ofS (m:Tp.M):List Tp.Sy:=srt (Tp.symsOf m)
theorem jx (m:Tp.M):∀ s∈ofS m,s∈Tp.symsOf m:=fun _ hs=>srt_mem hs
theorem ofS_ok (m:Tp.M):∀ s∈ofS m,Tp.OkS s:=fun s hs=>Tp.symsOf_ok s (srt_mem hs)
def zwB (w:World) (wb:Nat):Prop:=w.heap[wb]?=some (.cells #[.slice none 0 0,.map none] 28 (0,0))
def WX (X:Nat->Prop) (w:World) (wb:Nat) (L:List Lo) (P:List Pt) (nv:Value):Option Nat->Prop
 | some tb=>WW X w wb L P nv tb
 | none=>L=[]/\P=[]/\nv=.slice none 0 0/\¬X wb/\zwB w wb
def Mut (L:List Lo) (wb:Nat) (tv:Option Nat) (nv:Value) (b:Nat):Prop:=VLo L b\/b=wb\/tv=some b\/nv.ownBlock=some b
structure Tr (U U':Nat->Prop) (w w':World):Prop where
 os:w'.os=w.os
 tape:w'.tape=w.tape
 output:w'.output=w.output
 size:w.heap.size<=w'.heap.size
 block:∀ b,b<w.heap.size->¬U b->w'.heap[b]?=w.heap[b]?
 more:∀ b,U' b->U b\/w.heap.size<=b
theorem Tr.below {U:Nat->Prop}{w w':World}(h:Below w.heap.size w w'):Tr U U w w':=⟨h.os,h.tape,h.output,h.size,fun b hb _=>h.block b hb,fun _ hb=>Or.inl hb⟩
theorem Tr.trans {U U' U2:Nat->Prop}{w w1 w2:World}(h:Tr U U' w w1) (k:Tr U' U2 w1 w2):Tr U U2 w w2:=by
 refine⟨k.os.trans h.os,k.tape.trans h.tape,k.output.trans h.output,Nat.le_trans h.size k.size,fun b hb hu=>?_,fun b hb=>?_⟩
 ·refine(k.block b (Nat.lt_of_lt_of_le hb h.size) (fun q=>?_)).trans (h.block b hb hu)
  rcases h.more b q with q|q
  ·exact hu q
  ·omega
 ·rcases k.more b hb with q|q
  ·exact h.more b q
  ·exact Or.inr (Nat.le_trans h.size q)
theorem Tr.then {U U':Nat->Prop}{w w1 w2:World}(h:Tr U U' w w1) (k:Below w1.heap.size w1 w2):Tr U U' w w2:=h.trans (Tr.below k)
theorem Tr.ahead {U U':Nat->Prop}{w w1 w2:World}(h:Below w.heap.size w w1) (k:Tr U U' w1 w2):Tr U U' w w2:=(Tr.below h).trans k
theorem Tr.toBelow {U U':Nat->Prop}{w w':World}{B:Nat}(h:Tr U U' w w') (hB:B<=w.heap.size) (hU:∀ b,U b->B<=b):Below B w w':=⟨h.os,h.tape,h.output,h.size,fun b hb=>h.block b (by omega) (fun q=>by have:=hU b q;omega)⟩
theorem WX.blk {X:Nat->Prop}{w:World}{wb:Nat}{L:List Lo}{P:List Pt}{nv:Value}{tv:Option Nat}(h:WX X w wb L P nv tv):w.heap[wb]?=some (.cells #[nv,.map tv] 28 (0,0)):=by
 cases tv with
 | some tb=>exact WW.blk h
 | none=>obtain⟨_,_,rfl,_,h⟩:=h;exact h
theorem WX.xw {X:Nat->Prop}{w:World}{wb:Nat}{L:List Lo}{P:List Pt}{nv:Value}{tv:Option Nat}(h:WX X w wb L P nv tv):¬X wb:=by
 cases tv with
 | some tb=>exact(WW.xw h).1
 | none=>exact h.2.2.2.1
theorem WX.nm {X:Nat->Prop}{w:World}{wb:Nat}{L:List Lo}{P:List Pt}{nv:Value}{tv:Option Nat}(h:WX X w wb L P nv tv):w.ownsRow 0 9 1 nv L.length (strs (L.map fun lo=>lo.m.name)):=by
 cases tv with
 | some tb=>exact WW.nm h
 | none=>obtain⟨rfl,_,rfl,_⟩:=h;exact World.ownsRow_nil _ _ _ _
theorem WX.mw {X:Nat->Prop}{w:World}{wb:Nat}{L:List Lo}{P:List Pt}{nv:Value}{tv:Option Nat}(h:WX X w wb L P nv tv):Tp.ms P=L.map fun lo=>lo.m:=by
 cases tv with
 | some tb=>exact WW.mw h
 | none=>obtain⟨rfl,rfl,_⟩:=h;rfl
theorem WX.nd {X:Nat->Prop}{w:World}{wb:Nat}{L:List Lo}{P:List Pt}{nv:Value}{tv:Option Nat}(h:WX X w wb L P nv tv):(L.map fun lo=>lo.m.name).Nodup:=by
 cases tv with
 | some tb=>exact WW.nd h
 | none=>obtain⟨rfl,rfl,_⟩:=h;exact List.nodup_nil
theorem WX.ww {X:Nat->Prop}{w:World}{wb:Nat}{L:List Lo}{P:List Pt}{nv:Value}{tv:Option Nat}(h:WX X w wb L P nv tv) {lo:Lo}(hl:lo∈L):∃ tb,tv=some tb/\WW X w wb L P nv tb:=by
 cases tv with
 | some tb=>exact⟨tb,rfl,h⟩
 | none=>obtain⟨rfl,_⟩:=h;cases hl
def ptrV (L:List Lo) (k:Bs):Option Addr:=(L.find? fun lo=>lo.m.name == k).map fun lo=>⟨lo.lb,0,none⟩
theorem WX.look {X:Nat->Prop}{w:World}{wb:Nat}{L:List Lo}{P:List Pt}{nv:Value}{tv:Option Nat}(h:WX X w wb L P nv tv) (k:Bs) (hk:k.length<=1000000):(Instr.lookup 26 (.map tv) (.string (bs k)) false).run Tryz.prog w=.ok (.pointer (ptrV L k)) w:=by
 cases tv with
 | some tb =>
  obtain⟨n,_,hm⟩:=WW.th h
  rw[hm.look (t:=26) Tryz.underlying26 (zeroLo _) k hk false]
  unfold thrL ptrV
  cases hf:L.find? fun lo=>lo.m.name == k with
  | none=>simp
  | some lo=>simp
 | none =>
  obtain⟨rfl,_⟩:=h
  exact ky w (t:=26) Tryz.underlying26 (zeroLo _) k hk false
theorem WX.more {X:Nat->Prop}{w w':World}{wb:Nat}{L:List Lo}{P:List Pt}{nv:Value}{tv:Option Nat}(h:WX X w wb L P nv tv) (hb:Below w.heap.size w w'):WX (fun b=>X b\/w.heap.size<=b) w' wb L P nv tv:=by
 cases tv with
 | some tb=>exact WW.more h hb
 | none =>
  obtain⟨h1,h2,h3,h4,h5⟩:=h
  have:=zf h5
  exact⟨h1,h2,h3,fun q=>q.elim h4 (fun z=>by omega),(hb.block _ this).trans h5⟩
theorem WX.less {X Y:Nat->Prop}{w:World}{wb:Nat}{L:List Lo}{P:List Pt}{nv:Value}{tv:Option Nat}(h:WX X w wb L P nv tv) (hs:∀ b,Y b->X b):WX Y w wb L P nv tv:=by
 cases tv with
 | some tb=>exact WW.less h hs
 | none=>exact⟨h.1,h.2.1,h.2.2.1,fun q=>h.2.2.2.1 (hs _ q),h.2.2.2.2⟩
theorem WX.on {X:Nat->Prop}{w w':World}{wb:Nat}{L:List Lo}{P:List Pt}{nv:Value}{tv:Option Nat}(h:WX X w wb L P nv tv) (hb:Below w.heap.size w w'):WX X w' wb L P nv tv:=(h.more hb).less (fun _ q=>Or.inl q)
theorem WX.other {X X':Nat->Prop}{w w':World}{wb:Nat}{L:List Lo}{P:List Pt}{nv:Value}{tv:Option Nat}(h:WX X w wb L P nv tv) (hk:∀ b,b<w.heap.size->¬X b->w'.heap[b]?=w.heap[b]?) (hs:w.heap.size<=w'.heap.size) (hX:∀ b,X' b->X b\/w.heap.size<=b):WX X' w' wb L P nv tv:=by
 have h1:=h.more (Below.refl _ _)
 cases tv with
 | some tb =>
  have h2:WW (fun b=>X b\/w.heap.size<=b) w wb L P nv tb:=h1
  refine WW.less (X:=fun b=>X b\/w.heap.size<=b) ?_ hX
  refine h2.keep (fun b hb hx _=>hk b hb (fun q=>hx (Or.inl q))) hs (fun lo hl=>?_) h2.mw
  obtain⟨p,p1,p2,p3⟩:=h2.vals lo hl
  exact⟨p,p1,p2,fun g hg=>⟨(p3 g hg).1,(hk _ (zf (p3 g hg).2.1) (fun q=>(h2.sv _ ⟨lo,hl,g,hg,rfl⟩).2 (Or.inl q))).trans (p3 g hg).2.1,(p3 g hg).2.2⟩⟩
 | none =>
  obtain⟨h1,h2,h3,h4,h5⟩:=h
  exact⟨h1,h2,h3,fun q=>(hX _ q).elim h4 (fun z=>by have:=zf h5;omega),(hk _ (zf h5) h4).trans h5⟩
theorem WX.mlt {X:Nat->Prop}{w:World}{wb:Nat}{L:List Lo}{P:List Pt}{nv:Value}{tv:Option Nat}(h:WX X w wb L P nv tv) {b:Nat}(hb:Mut L wb tv nv b):b<w.heap.size/\¬X b:=by
 cases tv with
 | some tb =>
  have h:WW X w wb L P nv tb:=h
  rcases hb with q|rfl|q|q
  ·exact h.sv b q
  ·exact⟨zf h.blk,h.xw.1⟩
  ·cases q
   obtain⟨n,_,hm⟩:=h.th
   exact⟨hm.lt,h.tx.1⟩
  ·exact⟨(h.nm.lt b q).2,(h.nx b q).1⟩
 | none =>
  obtain⟨rfl,rfl,rfl,h4,h5⟩:=h
  rcases hb with⟨lo,q,_⟩|rfl|q|q
  ·cases q
  ·exact⟨zf h5,h4⟩
  ·cases q
  ·cases q
theorem WX.wm {X:Nat->Prop}{w:World}{wb:Nat}{L:List Lo}{P:List Pt}{nv:Value}{tv:Option Nat}(h:WX X w wb L P nv tv) {lo:Lo}(hl:lo∈L):Tp.WM lo.m:=by
 obtain⟨tb,_,hw⟩:=h.ww hl
 exact(hw.lo lo hl).2.2.2.2.wm
def MapC (w:World) (tv:Option Nat) (L:List Lo) (c:Nat):Prop:=∀ tb,tv=some tb->∃ n,n<=c/\MapV w tb n (thrL L)
def WZ (X U:Nat->Prop) (c:Nat) (w:World) (wb:Nat) (P:List Pt):Prop:=∃ L nv tv,WX X w wb L P nv tv/\L.length<=10/\Tp.WI ofS P/\(∀ b,U b↔Mut L wb tv nv b)/\MapC w tv L c/\∀ m∈Tp.ms P,Tp.nM m<=1000
theorem WZ.on {X U:Nat->Prop}{c:Nat}{w w':World}{wb:Nat}{P:List Pt}(h:WZ X U c w wb P) (hb:Below w.heap.size w w'):WZ X U c w' wb P:=by
 obtain⟨L,nv,tv,h1,h2,h3,h4,h5,h6⟩:=h
 refine⟨L,nv,tv,h1.on hb,h2,h3,h4,fun tb e=>?_,h6⟩
 obtain⟨n,hn,hm⟩:=h5 tb e
 exact⟨n,hn,hm.on (hb.block _ hm.lt)⟩
theorem WZ.lt {X U:Nat->Prop}{c:Nat}{w:World}{wb:Nat}{P:List Pt}(h:WZ X U c w wb P) {b:Nat}(hb:U b):b<w.heap.size/\¬X b:=by
 obtain⟨L,nv,tv,h1,_,_,h2,_⟩:=h
 exact h1.mlt ((h2 b).1 hb)
theorem WZ.other {X X' U:Nat->Prop}{c:Nat}{w w':World}{wb:Nat}{P:List Pt}(h:WZ X U c w wb P) (hk:∀ b,b<w.heap.size->¬X b->w'.heap[b]?=w.heap[b]?) (hs:w.heap.size<=w'.heap.size) (hX:∀ b,X' b->X b\/w.heap.size<=b):WZ X' U c w' wb P:=by
 obtain⟨L,nv,tv,h1,h2,h3,h4,h5,h6⟩:=h
 refine⟨L,nv,tv,h1.other hk hs hX,h2,h3,h4,fun tb e=>?_,h6⟩
 obtain⟨n,hn,hm⟩:=h5 tb e
 exact⟨n,hn,hm.on (hk _ hm.lt (h1.mlt (b:=tb) (Or.inr (Or.inr (Or.inl e)))).2)⟩
theorem WZ.more {X U:Nat->Prop}{c c':Nat}{w:World}{wb:Nat}{P:List Pt}(h:WZ X U c w wb P) (hc:c<=c'):WZ X U c' w wb P:=by
 obtain⟨L,nv,tv,h1,h2,h3,h4,h5,h6⟩:=h
 refine⟨L,nv,tv,h1,h2,h3,h4,fun tb e=>?_,h6⟩
 obtain⟨n,hn,hm⟩:=h5 tb e
 exact⟨n,by omega,hm⟩
theorem WZ.wb {X U:Nat->Prop}{c:Nat}{w:World}{wb:Nat}{P:List Pt}(h:WZ X U c w wb P):U wb:=by
 obtain⟨L,nv,tv,h1,_,_,h2,_⟩:=h
 exact(h2 wb).2 (Or.inr (Or.inl rfl))
theorem WZ.zero {X:Nat->Prop}{w:World}{wb:Nat}(h:w.heap[wb]?=some (.cells #[.slice none 0 0,.map none] 28 (0,0))) (hX:¬X wb):WZ X (fun b=>b=wb) 0 w wb []:=by
 refine⟨[],.slice none 0 0,none,⟨rfl,rfl,rfl,hX,h⟩,by simp,Tp.WI.empty _,fun b=>⟨fun e=>Or.inr (Or.inl e),fun e=>?_⟩,(fun tb e=>by cases e),fun m hm=>by cases hm⟩
 rcases e with⟨lo,q,_⟩|q|q|q
 ·cases q
 ·exact q
 ·cases q
 ·cases q
theorem WZ.all {X U:Nat->Prop}{c:Nat}{w:World}{wb:Nat}{P:List Pt}(h:WZ X U c w wb P):Calls Tryz.prog 13 #[.pointer (some ⟨wb,0,none⟩)] w fun e w'=>e=.returned (.string (allB P))/\Below w.heap.size w w':=by
 obtain⟨L,nv,tv,h1,h2,_⟩:=h
 cases tv with
 | some tb=>exact all_post h1 h2
 | none =>
  obtain⟨_,rfl,_,_,h5⟩:=h1
  exact all_zero h5
theorem jl {X:Nat->Prop}{w:World}{wb:Nat}{L:List Lo}{P:List Pt}{nv:Value}{tv:Option Nat}(h:WX X w wb L P nv tv) (k:Bs):(Tp.partOf P k=none/\ptrV L k=none)\/∃ p,∃ lo∈L,Tp.partOf P k=some p/\p.m=lo.m/\lo.m.name=k/\ptrV L k=some ⟨lo.lb,0,none⟩:=by
 have e:(Tp.partOf P k).map (·.m)=(L.find? fun lo=>lo.m.name == k).map (·.m):=by
  have e1:(Tp.partOf P k).map (·.m)=(Tp.ms P).find? fun m=>m.name == k:=by
   unfold Tp.partOf Tp.ms
   rw[List.find?_map]
   rfl
  rw[e1,h.mw,List.find?_map]
  rfl
 unfold ptrV
 cases hf:L.find? fun lo=>lo.m.name == k with
 | none =>
  rw[hf]at e
  refine Or.inl ⟨?_,rfl⟩
  cases hp:Tp.partOf P k with
  | none=>rfl
  | some p=>rw[hp]at e;cases e
 | some lo =>
  rw[hf]at e
  cases hp:Tp.partOf P k with
  | none=>rw[hp]at e;cases e
  | some p =>
   rw[hp]at e
   exact Or.inr ⟨p,lo,List.mem_of_find?_eq_some hf,rfl,by simpa using e,by simpa using List.find?_some hf,rfl⟩
def seenL (L:List Lo):Tp.Seen:=fun k=>(L.find? fun lo=>lo.m.name == k).map fun lo=>ofS lo.m
theorem WX.seen {X:Nat->Prop}{w:World}{wb:Nat}{L:List Lo}{P:List Pt}{nv:Value}{tv:Option Nat}(h:WX X w wb L P nv tv):Tp.seenW ofS P=seenL L:=by
 funext k
 have e:(Tp.partOf P k).map (·.m)=(L.find? fun lo=>lo.m.name == k).map (·.m):=by
  have e1:(Tp.partOf P k).map (·.m)=(Tp.ms P).find? fun m=>m.name == k:=by
   unfold Tp.partOf Tp.ms
   rw[List.find?_map]
   rfl
  rw[e1,h.mw,List.find?_map]
  rfl
 have:=congrArg (Option.map ofS) e
 simpa[Tp.seenW,seenL,Option.map_map,Function.comp_def] using this
theorem seenL_succ {L:List Lo}(hn:(L.map fun lo=>lo.m.name).Nodup) {i:Nat}(hi:i<L.length):seenL (L.take (i+1))=fun k=>if k=L[i].m.name then some (ofS L[i].m) else seenL (L.take i) k:=by
 funext k
 unfold seenL
 rw[List.take_succ_eq_append_getElem hi,List.find?_append]
 by_cases e:k=L[i].m.name
 ·rw[if_pos e]
  have:(L.take i).find? (fun lo=>lo.m.name == k)=none:=by
   rw[List.find?_eq_none]
   intro lo hlo q
   have q':lo.m.name=k:=by simpa using q
   obtain⟨j,hj,rfl⟩:=List.getElem_of_mem hlo
   rw[List.length_take]at hj
   rw[List.getElem_take]at q'
   have:=(List.getElem_inj (h₀:=by simp;omega) (h₁:=by simpa using hi) hn (i:=j) (j:=i)).1 (by simpa using q'.trans e)
   omega
  rw[this]
  simp[e]
 ·rw[if_neg e]
  have:([L[i]]:List Lo).find? (fun lo=>lo.m.name == k)=none:=by
   rw[List.find?_eq_none]
   intro lo hlo q
   rw[List.mem_singleton]at hlo
   subst hlo
   exact e (by simpa using q:L[i].m.name=k).symm
  rw[this]
  simp
end Go.Proofs.YtibncofnnlbmcaaGreatDoor
namespace Go.Proofs.YtibncofnnlbmcaaGreatDoor
open Go.RowKit Go.Maps
open Tp (Bs X S G Pr Pt Rs Rr Own Sy Seen)
theorem js {m:Tp.M}(hm:Tp.WM m):(ofS m).length<=1000:=by
 unfold ofS
 rw[kR]
 unfold Tp.symsOf
 have h1:=List.length_filter_le (fun g:Tp.G=>g.seen) m.vars
 have h2:=List.length_filter_le (fun p:Tp.Pr=>p.seen) m.procs
 have:=hm.gc
 have:=hm.pc
 simp only [List.length_append,List.length_map]
 omega
theorem seen_putA {wr w5 w6:World}{sb c i B:Nat}{Sn Sn':Seen}{f:Bs->Option Value}{x:Bs}{v:Value}{l:List Sy}(hS:Sn'=fun k=>if k=x then some l else Sn k) (hc:c<=i) (hf:MapV wr sb c f) (h:∀ k,match Sn k with
 | none=>f k=none
 | some l=>∃ v,f k=some v/\SL wr 0 v l/\l.length<=1000) (hb:Below wr.heap.size wr w5) (hv:SL w5 B v l) (hl:l.length<=1000) (q1:MapV w6 sb (c+1) (updV f x v)) (q2:Ext sb w5 w6):∃ c,c<=i+1/\SeenM w6 sb c Sn':=by
 rw[hS]
 refine⟨c+1,by omega,SeenM.store (hf.on (hb.block _ hf.lt)) (fun k=>?_) (l:=l) ?_ hl q1 q2⟩
 ·have:=h k
  cases hq:Sn k with
  | none=>rw[hq]at this;exact this
  | some ll=>rw[hq]at this;obtain⟨u,a,b,d⟩:=this;exact⟨u,a,b.on hb,d⟩
 ·rcases hv with q|⟨g,cap,a,_,b⟩
  ·exact Or.inl q
  ·exact Or.inr ⟨g,cap,a,Nat.zero_le _,b⟩
def RdA (w:World) (L:List Lo) (tv:Option Nat) (na:Option Addr) (i:Nat) (hi:i<L.length):Prop:=∃ nb ia ga pa ba ic gc pc bc,na=some ⟨nb,0,none⟩/\nb<w.heap.size/\w.cell? ⟨nb,i,none⟩=some (.string (bs L[i].m.name))/\w.heap[L[i].lb]?=some (.cells (lcells L[i].m ia ga pa ba ic gc pc bc L[i].vb) 107 (0,0))/\MB w w.heap.size L[i].m ia ga pa ba ic gc pc bc/\(Instr.lookup 26 (.map tv) (.string (bs L[i].m.name)) false).run Tryz.prog w=.ok (.pointer (some ⟨L[i].lb,0,none⟩)) w
theorem WX.rd {X:Nat->Prop}{w:World}{wb:Nat}{L:List Lo}{P:List Pt}{tv:Option Nat}{na:Option Addr}{nc:Nat}(h:WX X w wb L P (.slice na L.length nc) tv) (i:Nat) (hi:i<L.length):RdA w L tv na i hi:=by
 obtain⟨tb,rfl,hw⟩:=h.ww (List.getElem_mem hi)
 obtain⟨⟨ia,ga,pa,ba,ic,gc,pc,bc,h1,h2⟩,_,_,_,hfit⟩:=hw.lo _ (List.getElem_mem hi)
 have hnm:=hw.nm
 rcases hnm.2 with⟨_,h4⟩|⟨g,cap,cur,q1,_,q3,q4,q5,q6,q7⟩
 ·omega
 ·injection q1 with q1 _ _
  have hlk:=h.look L[i].m.name (by have:=zQ hfit.wm.n;omega)
  have hpt:ptrV L L[i].m.name=some ⟨L[i].lb,0,none⟩:=by
   unfold ptrV
   rw[(Tp.find_key (key:=fun lo:Lo=>lo.m.name) h.nd L[i]).2 ⟨List.getElem_mem hi,rfl⟩]
   rfl
  rw[hpt]at hlk
  refine⟨g,ia,ga,pa,ba,ic,gc,pc,bc,q1,zf q3,?_,h1,h2.mb (fun b _ hl=>hl),hlk⟩
  rw[za q3,<-Array.getElem?_toList]
  have:(strs (L.map fun lo=>lo.m.name))[i]?=some (.string (bs L[i].m.name)):=by simp[strs,hi]
  rw[<-this,<-q7,List.getElem?_take_of_lt (by omega)]
theorem seen_any {X:Nat->Prop}{w:World}{wb:Nat}{L:List Lo}{P:List Pt}{nv:Value}{tv:Option Nat}(h:WX X w wb L P nv tv) (hL:L.length<=10) :
  Calls Tryz.prog 38 #[.pointer (some ⟨wb,0,none⟩)] w fun e w'=>∃ sb,e=.returned (.map (some sb))/\Below w.heap.size w w'/\SeenV w' (.map (some sb)) (Tp.seenW ofS P):=by
 have hmm:=@run_makeMap Tryz.prog
 rw[h.seen]
 obtain⟨na,nc,hnv⟩:=zw h.nm
 rw[hnv]at h
 have hsm:SeenM (w.alloc (.map #[] 0)) w.heap.size 0 (seenL (L.take 0)):=⟨_,MapV.made w,fun k=>by simp[seenL]⟩
 have hbe:Below w.heap.size w (w.alloc (.map #[] 0)):=zb _ _
 have hwl:=zf h.blk
 have k0:(w.alloc (.map #[] 0)).cell? ⟨wb,0,none⟩=some (.slice na L.length nc):=(World.cell?_of_block (w:=w) (Below.heap_alloc _ _ _ hwl)).trans ((za h.blk).trans rfl)
 have HK1:Hid (∀ W,Below w.heap.size w W->W.cell? ⟨wb,1,none⟩=some (.map tv)/\wb<W.heap.size):=fun W hW=>⟨(hW.cell (p:=⟨wb,1,none⟩) hwl).trans ((za h.blk).trans rfl),by have:=hW.size;omega⟩
 have HRD:Hid (∀ W,Below w.heap.size w W->∀ i (hi:i<L.length),RdA W L tv na i hi):=fun W hW i hi=>(h.on hW).rd i hi
 have HWM:Hid (∀ lo∈L,Tp.WM lo.m):=fun lo hl=>h.wm hl
 have HND:=zh h.nd
 have hsz0:(w.alloc (.map #[] 0)).heap.size=w.heap.size+1:=by simp
 have HSM:=zh hsm
 have HBE:=zh hbe
 have hL':(L.length:Int)<=10:=by omega
 obtain⟨nn,hnq⟩:∃ nn,nn=L.length:=⟨_,rfl⟩
 rw[<-hnq]at hL' k0
 have HNQ:=zh hnq
 clear hsm hbe hnq h hnv hL
 go_enter Tryz.func38,Tryz.ntmps38
 go_wp2_with fail
 clear k0
 generalize w.alloc (.map #[] 0)=w0 at *
 clear hmm
 go_loopg [12] nn (fun k vi wr=>∃ i:Nat,i<=nn/\k=nn - i/\vi=.int .i64 (i:Int)/\Hid (∃ c,c<=i/\SeenM wr w.heap.size c (seenL (L.take i)))/\Hid (Ext w.heap.size w0 wr))
 case atStart=>exact⟨0,by omega,by omega,rfl,⟨0,Nat.le_refl _,HSM.out⟩,Ext.refl _ _⟩
 case round =>
  obtain⟨i,hid,hk,rfl,HTM,HE⟩:=hrel
  have hsz:=HE.out.size
  have HBR:Hid (Below w.heap.size w wr):=HBE.out.trans (zX HE.out zn (by omega))
  by_cases hlt:i<nn
  ·have hlt':(i:Int)<(nn:Int):=by omega
   have hi0:¬(i:Int)<0:=by omega
   have hia:i<L.length:=by have:=HNQ.out;omega
   obtain⟨nb,ia,ga,pa,ba,ic,gc,pc,bc,rfl,hnb,kn,hlb,hmb,hlk⟩:=HRD.out wr HBR.out i hia
   obtain⟨k1,hwlr⟩:=HK1.out wr HBR.out
   have hwm:=HWM.out _ (List.getElem_mem hia)
   have HO:=zh (uD hwm.gc hwm.pc hmb)
   have HSO:=zh (seenL_succ HND.out hia)
   have hnml:L[i].m.name.length<=1000000:=by have:=zQ hwm.n;omega
   have HSLn:=zh (js hwm)
   have hll:=zf hlb
   unfold lcells at hlb
   have m0:wr.cell? ⟨L[i].lb,0,none⟩=some (.string (bs L[i].m.name)):=(za hlb).trans rfl
   have m1:wr.cell? ⟨L[i].lb,1,none⟩=some (.slice ia L[i].m.imports.length ic):=(za hlb).trans rfl
   have m2:wr.cell? ⟨L[i].lb,2,none⟩=some (.slice ga L[i].m.vars.length gc):=(za hlb).trans rfl
   have m3:wr.cell? ⟨L[i].lb,3,none⟩=some (.slice pa L[i].m.procs.length pc):=(za hlb).trans rfl
   have m4:wr.cell? ⟨L[i].lb,4,none⟩=some (.slice ba L[i].m.body.length bc):=(za hlb).trans rfl
   simp only [mcells]at HO
   clear hwm hmb hlb
   generalize L[i].lb=lb at *
   generalize L[i].m=m at *
   clear hid
   go_wp2_with fail
   refine HO.out.mono ?_
   rintro e w5 ⟨v5,rfl,hb5,hsl⟩
   obtain⟨c,c1,f,c2,c3⟩:=HTM.out
   obtain⟨w6,hup,q1,q2,q3⟩:=(c2.on (hb5.block _ c2.lt)).store (t:=90) Tryz.underlying90 (by omega) m.name hnml v5
   have HSM6:Hid (∃ c,c<=i+1/\SeenM w6 w.heap.size c (seenL (L.take (i+1)))):=seen_putA HSO.out c1 c2 c3 hb5 hsl HSLn.out q1 q2
   have HE6:Hid (Ext w.heap.size w0 w6):=(HE.out.trans (Ext.below hb5)).trans q2
   clear hb5 hsl c2 c3 q1 q2 q3
   go_wp2_with fail
   go_roundg (nn - (i+1))
   case measure=>omega
   case rel=>exact⟨i+1,by omega,rfl,by go_num,HSM6,HE6⟩
  ·have hlt':¬(i:Int)<(nn:Int):=by omega
   have hei:i=L.length:=by have:=HNQ.out;omega
   have HF:Hid (SeenV wr (.map (some w.heap.size)) (seenL L)):=by
    obtain⟨c,c1,c2⟩:=HTM.out
    rw[hei,List.take_length]at c2
    exact Or.inr ⟨_,c,rfl,c2⟩
   clear hei
   go_wp2_with fail
   go_ret
   exact⟨_,rfl,HBR.out,HF.out⟩
end Go.Proofs.YtibncofnnlbmcaaGreatDoor
namespace Go.Proofs.YtibncofnnlbmcaaGreatDoor
open Go.RowKit Go.Maps
open Tp (Bs X S G Pr Pt Rs Rr Own)
def SwapQ (X U:Nat->Prop) (c:Nat) (w:World) (wb:Nat) (a:Tp.Ans) (e:Ending) (w':World):Prop:=∃ ev,e=.returned ev/\(∃ U',WZ X U' (c+1) w' wb a.w/\Tr U U' w w')/\EvT w.heap.size w' a.err ev
def ErrS (w:World) (er:Nat× Option Nat) (e:Ending) (w':World):Prop:=Below w.heap.size w w'/\∃ v,e=.returned v/\ErrV w.heap.size w' er v
theorem swap_none {X:Nat->Prop}{w:World}{wb:Nat}{L:List Lo}{P:List Pt}{nv:Value}{tv:Option Nat}{m:Tp.M}{ia ga pa ba:Option Addr}{ic gc pc bc:Nat}(h:WX X w wb L P nv tv) (_:L.length<=10) (hmb:MB w w.heap.size m ia ga pa ba ic gc pc bc) (hm:Tp.WM m) (hptr:ptrV L m.name=none) :
  Calls Tryz.prog 18 #[.pointer (some ⟨wb,0,none⟩),.agg (mcells (bs m.name) (.slice ia m.imports.length ic) (.slice ga m.vars.length gc) (.slice pa m.procs.length pc) (.slice ba m.body.length bc))] w (ErrS w (7,none)):=by
 have hnl:=zQ hm.n
 have hwl:=zf h.blk
 obtain⟨W,hW⟩:∃ W,W=(w.alloc (.cells #[.pointer (some ⟨wb,0,none⟩)] 47)).alloc (.cells (mcells (bs m.name) (.slice ia m.imports.length ic) (.slice ga m.vars.length gc) (.slice pa m.procs.length pc) (.slice ba m.body.length bc)) 36):=⟨_,rfl⟩
 have hbW:Below w.heap.size w W:=by rw[hW];exact(zb _ _).alloc (by simp) _
 have hsW:W.heap.size=w.heap.size+2:=by rw[hW];simp
 have hkp:W.heap[w.heap.size]?=some (.cells #[.pointer (some ⟨wb,0,none⟩)] 47 (0,0)):=by rw[hW];exact(Below.heap_alloc _ _ _ (by simp)).trans (zo _ _)
 have hkm:W.heap[w.heap.size+1]?=some (.cells (mcells (bs m.name) (.slice ia m.imports.length ic) (.slice ga m.vars.length gc) (.slice pa m.procs.length pc) (.slice ba m.body.length bc)) 36 (0,0)):=by rw[hW];exact yj _ _ _
 obtain⟨W3,hW3⟩:∃ W3,W3=(W.alloc (.cells #[.pointer none] 88)).drew:=⟨_,rfl⟩
 have hb3:Below W.heap.size W W3:=by rw[hW3];exact(zb _ _).drew
 have hs3:W3.heap.size=w.heap.size+3:=by rw[hW3];show (W.alloc _).heap.size=_;simp[hsW]
 have hkw:W3.heap[w.heap.size+2]?=some (.cells #[.pointer none] 88 (0,0)):=by
  rw[hW3]
  have:=zo W (.cells #[.pointer none] 88)
  rw[hsW]at this
  exact this
 have hww:=(hbW.block wb hwl).trans h.blk
 have k1:W.cell? ⟨wb,1,none⟩=some (.map tv):=(za hww).trans rfl
 have km:W.cell? ⟨w.heap.size+1,0,none⟩=some (.string (bs m.name)):=(za hkm).trans rfl
 have kp:W.cell? ⟨w.heap.size,0,none⟩=some (.pointer (some ⟨wb,0,none⟩)):=(za hkp).trans rfl
 have hlk:∀ V,Below W.heap.size W V->(Instr.lookup 26 (.map tv) (.string (bs m.name)) false).run Tryz.prog V=.ok (.pointer none) V:=fun V hV=>by
  have:=((h.on hbW).on hV).look m.name (by omega)
  rw[hptr]at this
  exact this
 have hlk1:=hlk W (Below.refl _ _)
 have hlk2:=hlk W.drew ((Below.refl _ _).drew)
 have hlk3:=hlk (W.alloc (.cells #[.pointer none] 88)).drew ((zb _ _).drew)
 have HMB:=zh hmb
 have HSM:=zh hm.sml
 have HB3:Hid (Below w.heap.size w W3):=hbW.trans (hb3.mono (by omega))
 have HKM:Hid (W3.heap[w.heap.size+1]?=_):=(hb3.block _ (zf hkm)).trans hkm
 have HKP:Hid (W3.heap[w.heap.size]?=_):=(hb3.block _ (zf hkp)).trans hkp
 have HKW:=zh hkw
 have HM:=zh hm
 have HWX:=zh h
 have HS3:=zh hs3
 have hwlW:wb<W.heap.size:=by omega
 have hmlW:w.heap.size+1<W.heap.size:=by omega
 have hplW:w.heap.size<W.heap.size:=by omega
 have k2:W3.cell? ⟨W.heap.size,0,none⟩=some (.pointer none):=by rw[hsW];exact(za hkw).trans rfl
 have h2l:W.heap.size<W3.heap.size:=by omega
 have HSW:=zh hsW
 unfold mcells at *
 obtain⟨mn,hmn⟩:∃ mn,mn=bs m.name:=⟨_,rfl⟩
 obtain⟨Sn,hSn⟩:∃ Sn,Sn=Tp.seenW ofS P:=⟨_,rfl⟩
 have HCK:Hid (∀ W' sb,Below w.heap.size w W'->SeenV W' (.map (some sb)) Sn->Calls Tryz.prog 37 #[.agg #[.string mn,.slice ia m.imports.length ic,.slice ga m.vars.length gc,.slice pa m.procs.length pc,.slice ba m.body.length bc],.map (some sb)] W' (CheckP W' (Tp.check m Sn))):=fun W' sb hW' hmap=>by
  have:=yU HSM.out (HMB.out.up hW') hmap
  unfold mcells at this
  rw[hmn]
  exact this
 rw[<-hmn]at hW km hlk1 hlk2 hlk3 HKM ⊢
 have HMN:Hid (mn=bs m.name):=hmn
 have HSN:Hid (Sn=Tp.seenW ofS P):=hSn
 clear hmb hm hww hkm hkp hkw hbW hsW hb3 hs3 hmn hSn h hptr hlk
 obtain⟨il,hil⟩:∃ il,il=m.imports.length:=⟨_,rfl⟩
 obtain⟨gl,hgl⟩:∃ gl,gl=m.vars.length:=⟨_,rfl⟩
 obtain⟨pl,hpl⟩:∃ pl,pl=m.procs.length:=⟨_,rfl⟩
 obtain⟨bl,hbl⟩:∃ bl,bl=m.body.length:=⟨_,rfl⟩
 rw[<-hil,<-hgl,<-hpl,<-hbl]at hW HKM HCK ⊢
 have HQ:=zh (And.intro hil (And.intro hgl (And.intro hpl hbl)))
 clear hil hgl hpl hbl
 go_enter Tryz.func18,Tryz.ntmps18
 go_upto_region 1 with fail
 rw[<-hW]
 clear hW
 go_region
 all_goals
  rw[<-hW3]
  clear hW3 hlk1 hlk2 hlk3 k1 km kp
  clear HCK
  have HR:Hid (ErrS w (7,none) (.returned (.iface 44 (.int .i64 7))) W3):=⟨HB3.out,_,rfl,rfl⟩
  go_wp2_with fail
  go_ret
  exact HR.out
theorem EvT.lower {B B':Nat}{w':World}{er:Option (Nat× Option Nat)}{ev:Value}(h:EvT B w' er ev) (hB:B'<=B):EvT B' w' er ev:=by
 cases er with
 | none=>exact h
 | some e =>
  obtain⟨n,po⟩:=e
  cases po with
  | none=>exact h
  | some pl =>
   obtain⟨ab,h1,h2,h3⟩:∃ ab,ev=.iface 117 (.pointer (some ⟨ab,0,none⟩))/\B<=ab/\w'.cell? ⟨ab,0,none⟩=some (.int .i64 (n:Int))/\w'.cell? ⟨ab,1,none⟩=some (.int .i64 (pl:Int)):=h
   exact⟨ab,h1,Nat.le_trans hB h2,h3⟩
theorem EvT.on {B b:Nat}{w w':World}{er:Option (Nat× Option Nat)}{ev:Value}(h:EvT B w er ev) (hx:Ext b w w') (hb:b<B):EvT B w' er ev:=by
 cases er with
 | none=>exact h
 | some e =>
  obtain⟨n,po⟩:=e
  cases po with
  | none=>exact h
  | some pl =>
   obtain⟨ab,h1,h2,h3,h4⟩:∃ ab,ev=.iface 117 (.pointer (some ⟨ab,0,none⟩))/\B<=ab/\w.cell? ⟨ab,0,none⟩=some (.int .i64 (n:Int))/\w.cell? ⟨ab,1,none⟩=some (.int .i64 (pl:Int)):=h
   have hne:ab≠b:=by omega
   exact⟨ab,h1,h2,hx.cell h3 hne,hx.cell h4 hne⟩
theorem ui {w w':World}{ck:Option (Nat× Option Nat)}{e:Ending}(h:CheckP w ck e w'):Below w.heap.size w w'/\∃ ev,e=.returned ev/\EvT w.heap.size w' ck ev:=by
 cases ck with
 | none=>obtain⟨h1,rfl⟩:=h;exact⟨h1,_,rfl,rfl⟩
 | some er =>
  obtain⟨n,po⟩:=er
  cases po with
  | none=>obtain⟨h1,rfl⟩:=h;exact⟨h1,_,rfl,rfl⟩
  | some pl=>obtain⟨h1,ab,rfl,h2⟩:=h;exact⟨h1,_,rfl,ab,rfl,h2⟩
theorem neE (n:Int) (w:World):(binOp .neq 38 (.iface 44 (.int .i64 n)) .nilIface).run Tryz.prog w=.ok (.bool true) w:=by kernel_rfl
theorem neA (ab:Nat) (w:World):(binOp .neq 38 (.iface 117 (.pointer (some ⟨ab,0,none⟩))) .nilIface).run Tryz.prog w=.ok (.bool true) w:=by kernel_rfl
theorem gdE (x y:Operand) (n:Int) (w:World):(eqGuard .neq 38 x y (.iface 44 (.int .i64 n)) .nilIface).run Tryz.prog w=.ok () w:=by kernel_rfl
theorem gdA (x y:Operand) (ab:Nat) (w:World):(eqGuard .neq 38 x y (.iface 117 (.pointer (some ⟨ab,0,none⟩))) .nilIface).run Tryz.prog w=.ok () w:=by kernel_rfl
theorem EvT.gd {B:Nat}{w':World}{er:Nat× Option Nat}{ev:Value}(h:EvT B w' (some er) ev) (x y:Operand) (w:World):(eqGuard .neq 38 x y ev .nilIface).run Tryz.prog w=.ok () w:=by
 obtain⟨n,po⟩:=er
 cases po with
 | none=>obtain rfl:ev=.iface 44 (.int .i64 (n:Int)):=h;exact gdE _ _ _ _
 | some pl=>obtain⟨ab,rfl,_⟩:∃ ab,ev=.iface 117 (.pointer (some ⟨ab,0,none⟩))/\_:=h;exact gdA _ _ _ _
theorem EvT.ne {B:Nat}{w':World}{er:Nat× Option Nat}{ev:Value}(h:EvT B w' (some er) ev) (w:World):(binOp .neq 38 ev .nilIface).run Tryz.prog w=.ok (.bool true) w:=by
 obtain⟨n,po⟩:=er
 cases po with
 | none=>obtain rfl:ev=.iface 44 (.int .i64 (n:Int)):=h;exact neE _ _
 | some pl=>obtain⟨ab,rfl,_⟩:∃ ab,ev=.iface 117 (.pointer (some ⟨ab,0,none⟩))/\_:=h;exact neA _ _
def ErrP (w:World) (er:Nat× Option Nat) (e:Ending) (w':World):Prop:=Below w.heap.size w w'/\∃ v,e=.returned (.tuple #[no2,v])/\ErrV w.heap.size w' er v
theorem load_twice {X:Nat->Prop}{w:World}{wb fuel:Nat}{L:List Lo}{P:List Pt}{nv:Value}{tv:Option Nat}{m:Tp.M}{ia ga pa ba:Option Addr}{ic gc pc bc:Nat}(h:WX X w wb L P nv tv) (_:L.length<=10) (hmb:MB w w.heap.size m ia ga pa ba ic gc pc bc) (hm:Tp.WM m) {lo:Lo}(hptr:ptrV L m.name=some ⟨lo.lb,0,none⟩) :
  Calls Tryz.prog 17 #[.pointer (some ⟨wb,0,none⟩),.agg (mcells (bs m.name) (.slice ia m.imports.length ic) (.slice ga m.vars.length gc) (.slice pa m.procs.length pc) (.slice ba m.body.length bc)),.int .i64 (fuel:Int)] w (ErrP w (9,none)):=by
 obtain⟨er,her⟩:∃ er:Nat× Option Nat,er=(9,none):=⟨_,rfl⟩
 rw[<-her]
 have HER:=zh her
 clear her
 have hnl:=zQ hm.n
 have hwl:=zf h.blk
 obtain⟨W,hW⟩:∃ W,W=(w.alloc (.cells (mcells (bs m.name) (.slice ia m.imports.length ic) (.slice ga m.vars.length gc) (.slice pa m.procs.length pc) (.slice ba m.body.length bc)) 36)).alloc (.cells #[.int .i64 0,.slice none 0 0] 43):=⟨_,rfl⟩
 have hbW:Below w.heap.size w W:=by rw[hW];exact(zb _ _).alloc (by simp) _
 have hsW:W.heap.size=w.heap.size+2:=by rw[hW];simp
 have hkm:W.heap[w.heap.size]?=some (.cells (mcells (bs m.name) (.slice ia m.imports.length ic) (.slice ga m.vars.length gc) (.slice pa m.procs.length pc) (.slice ba m.body.length bc)) 36 (0,0)):=by rw[hW];exact(Below.heap_alloc _ _ _ (by simp)).trans (zo _ _)
 have hke:W.heap[w.heap.size+1]?=some (.cells #[.int .i64 0,.slice none 0 0] 43 (0,0)):=by
  have:=zo (w.alloc (.cells (mcells (bs m.name) (.slice ia m.imports.length ic) (.slice ga m.vars.length gc) (.slice pa m.procs.length pc) (.slice ba m.body.length bc)) 36)) (.cells #[.int .i64 0,.slice none 0 0] 43)
  rw[hW]
  simpa using this
 have hww:=(hbW.block wb hwl).trans h.blk
 have k1:W.cell? ⟨wb,1,none⟩=some (.map tv):=(za hww).trans rfl
 have km:W.cell? ⟨w.heap.size,0,none⟩=some (.string (bs m.name)):=(za hkm).trans rfl
 have hlk:∀ n,(Instr.lookup 26 (.map tv) (.string (bs m.name)) false).run Tryz.prog (W.drewN n)=.ok (.pointer (some ⟨lo.lb,0,none⟩)) (W.drewN n):=fun n=>by
  have:=((h.on hbW).on (below_drewN (Below.refl W.heap.size W) n)).look m.name (by omega)
  rw[hptr]at this
  exact this
 have HMB:=zh hmb
 have HSM:=zh hm.sml
 have HBW:=zh hbW
 have HKM:=zh hkm
 have HKE:=zh hke
 have HWW:=zh hww
 have HM:=zh hm
 have HWX:=zh h
 have HSW:=zh hsW
 have hwlW:wb<W.heap.size:=by omega
 have hmlW:w.heap.size<W.heap.size:=by omega
 unfold mcells at *
 obtain⟨mn,hmn⟩:∃ mn,mn=bs m.name:=⟨_,rfl⟩
 obtain⟨Sn,hSn⟩:∃ Sn,Sn=Tp.seenW ofS P:=⟨_,rfl⟩
 have HCK:Hid (∀ W' sb,Below w.heap.size w W'->SeenV W' (.map (some sb)) Sn->Calls Tryz.prog 37 #[.agg #[.string mn,.slice ia m.imports.length ic,.slice ga m.vars.length gc,.slice pa m.procs.length pc,.slice ba m.body.length bc],.map (some sb)] W' (CheckP W' (Tp.check m Sn))):=fun W' sb hW' hmap=>by
  have:=yU HSM.out (HMB.out.up hW') hmap
  unfold mcells at this
  rw[hmn]
  exact this
 rw[<-hmn]at hW km hlk HKM ⊢
 have HMN:Hid (mn=bs m.name):=hmn
 have HSN:Hid (Sn=Tp.seenW ofS P):=hSn
 clear hmb hm hww hkm hke hbW hsW hmn hSn h hptr
 obtain⟨il,hil⟩:∃ il,il=m.imports.length:=⟨_,rfl⟩
 obtain⟨gl,hgl⟩:∃ gl,gl=m.vars.length:=⟨_,rfl⟩
 obtain⟨pl,hpl⟩:∃ pl,pl=m.procs.length:=⟨_,rfl⟩
 obtain⟨bl,hbl⟩:∃ bl,bl=m.body.length:=⟨_,rfl⟩
 rw[<-hil,<-hgl,<-hpl,<-hbl]at hW HKM HCK ⊢
 have HQ:=zh (And.intro hil (And.intro hgl (And.intro hpl hbl)))
 clear hil hgl hpl hbl
 go_enter Tryz.func17,Tryz.ntmps17
 go_upto_region 1 with fail
 rw[<-hW]
 clear hW
 go_quiet (fail)
 obtain⟨w1,hw1⟩:∃ w1,w1=W.drewN nq:=⟨_,rfl⟩
 have e1:w1.heap=W.heap:=by rw[hw1];rfl
 have HB1:Hid (Below W.heap.size W w1):=by rw[hw1];exact below_drewN (Below.refl _ _) _
 rw[<-hw1]
 clear hw1 hlk k1 km
 clear HCK
 obtain⟨w3,hw3⟩:∃ w3,w3=w1:=⟨_,rfl⟩
 have HB3:Hid (Below W.heap.size W w3):=by rw[hw3];exact HB1.out
 rw[<-hw3]
 clear hw3
 have hE3:=(HB3.out.block _ (show w.heap.size+1<W.heap.size by have:=HSW.out;omega)).trans HKE.out
 have e0:w3.cell? ⟨w.heap.size+1,0,none⟩=some (.int .i64 0):=(za hE3).trans rfl
 have e1':w3.cell? ⟨w.heap.size+1,1,none⟩=some (.slice none 0 0):=(za hE3).trans rfl
 have ez:∀ j,w3.frozen? ⟨w.heap.size+1,j,none⟩=false:=fun j=>zi hE3
 have hel:=zf hE3
 have hset:=zu 1 (.slice none 0 0) (zu 0 (.int .i64 0) hE3)
 obtain⟨w4,hw4⟩:∃ w4,w4=(w3.setCell ⟨w.heap.size+1,0,none⟩ (.int .i64 0)).setCell ⟨w.heap.size+1,1,none⟩ (.slice none 0 0):=⟨_,rfl⟩
 have f0:w4.cell? ⟨w.heap.size+1,0,none⟩=some (.int .i64 0):=by rw[hw4];exact(za hset).trans rfl
 have f1:w4.cell? ⟨w.heap.size+1,1,none⟩=some (.slice none 0 0):=by rw[hw4];exact(za hset).trans rfl
 have HR:Hid (ErrP w er (.returned (.tuple #[no2,.iface 44 (.int .i64 9)])) w4):=by
  have hx:Ext (w.heap.size+1) w3 w4:=by rw[hw4];exact((Ext.refl _ _).set 0 _).set 1 _
  have hb:Below w.heap.size w w4:=by
   rw[hw4]
   exact zq (zq (HBW.out.trans (HB3.out.mono (by have:=HSW.out;omega))) (by omega) 0 _) (by omega) 1 _
  refine⟨hb,_,rfl,?_⟩
  rw[HER.out];exact rfl
 clear hE3 hset
 go_wp2_with fail
 rw[<-hw4]
 exact bodyPost_ret (v:=.tuple #[no2,.iface 44 (.int .i64 9)]) (by simp[results,Tryz.results17,go_sem,no2,f0,f1]) rfl HR.out
end Go.Proofs.YtibncofnnlbmcaaGreatDoor
namespace Go.Proofs.YtibncofnnlbmcaaGreatDoor
open Go.RowKit
open Tp (Bs)
theorem indexT2 {w:World}{a:Option Addr}{cap:Nat}{l:List Bs}{p:Bs->Bool}{fn:FuncId}{c1 c2:Value}(hS:StrsAt w l a) (hn:l.length<=1000000) (hcf:∀(args:Array Value) (w:World),(callFunc fn args).run Tryz.prog w=.ok (.enter fn args) w)
  (hd:∀ W (x:Bs),x∈l->Below w.heap.size w W->Calls Tryz.prog fn #[.string (bs x),c1,c2] W fun e w'=>e=.returned (.bool (p x))/\Below W.heap.size W w') :
  Calls Tryz.prog 89 #[.slice a l.length cap,.func (.func fn) #[] #[c1,c2]] w fun e w'=>(∃ k:Int,e=.returned (.int .i64 k)/\(decide (0<=k)=l.any p))/\Below w.heap.size w w':=by
 have hn':(l.length:Int)<=1000000:=by omega
 have HSL:=zh hS
 have HD:=zh hd
 clear hS hd
 go_enter Tryz.func89,Tryz.ntmps89
 go_wp2_with fail
 go_loopg [8] l.length (fun k vi wr=>∃ i:Nat,i<=l.length/\k=l.length - i/\vi=.int .i64 (i:Int)/\Hid ((l.take i).any p=false)/\Hid (Below w.heap.size w wr))
 case atStart=>exact⟨0,by omega,by omega,rfl,rfl,Below.refl _ _⟩
 case round =>
  obtain⟨i,hid,hk,rfl,HI,HW⟩:=hrel
  by_cases hlt:i<l.length
  ·have hlt':(i:Int)<(l.length:Int):=by omega
   obtain⟨g,go,rfl,hgl,hc0⟩:=HSL.out.c i hlt
   have e0:wr.cell? ⟨g,go+i,none⟩=some (.string (bs l[i])):=(HW.out.cell (p:=⟨g,go+i,none⟩) hgl).trans hc0
   clear hc0
   have hbl':g<wr.heap.size:=zg e0
   have HF:=zh (HD.out wr l[i] (List.getElem_mem hlt) HW.out)
   have HNX:Hid ((l.take (i+1)).any p=p l[i]):=by
    show _=_
    rw[List.take_succ_eq_append_getElem hlt,List.any_append,HI.out];simp
   have HAN:Hid (p l[i]=true->l.any p=true):=fun e=>List.any_eq_true.2 ⟨_,List.getElem_mem hlt,e⟩
   generalize p l[i]=d at *
   generalize l[i]=x at *
   clear HI
   go_wp2_with fail
   refine HF.out.mono ?_
   rintro e w3 ⟨rfl,h3⟩
   have HW3:=zh (HW.out.trans (h3.mono HW.out.size))
   clear h3
   cases d with
   | true =>
    have HE:=zh (HAN.out rfl)
    go_wp2_with fail
    go_ret
    refine⟨⟨_,rfl,?_⟩,HW3.out⟩
    rw[HE.out]
    exact decide_eq_true (by omega)
   | false =>
    go_wp2_with fail
    go_roundg (l.length - (i+1))
    case measure=>omega
    case rel=>exact⟨i+1,by omega,rfl,by go_num,HNX,HW3⟩
  ·have hlt':¬(i:Int)<(l.length:Int):=by omega
   have HE:Hid (l.any p=false):=by
    have:=HI.out
    rw[List.take_of_length_le (by omega)]at this
    exact this
   go_wp2_with fail
   go_ret
   refine⟨⟨_,rfl,?_⟩,HW.out⟩
   rw[HE.out]
   rfl
theorem containsT2 {w:World}{a:Option Addr}{cap:Nat}{l:List Bs}{p:Bs->Bool}{fn:FuncId}{c1 c2:Value}(hS:StrsAt w l a) (hn:l.length<=1000000) (hcf:∀(args:Array Value) (w:World),(callFunc fn args).run Tryz.prog w=.ok (.enter fn args) w)
  (hd:∀ W (x:Bs),x∈l->Below w.heap.size w W->Calls Tryz.prog fn #[.string (bs x),c1,c2] W fun e w'=>e=.returned (.bool (p x))/\Below W.heap.size W w') :
  Calls Tryz.prog 44 #[.slice a l.length cap,.func (.func fn) #[] #[c1,c2]] w fun e w'=>e=.returned (.bool (l.any p))/\Below w.heap.size w w':=by
 have HC:=zh (indexT2 (cap:=cap) hS hn hcf hd)
 clear hS hd hcf
 go_enter Tryz.func44,Tryz.ntmps44
 go_wp2_with fail
 refine HC.out.mono ?_
 rintro e w1 ⟨⟨k,rfl,hk⟩,hb⟩
 have HK:=zh hk
 clear hk
 go_wp2_with fail
 go_ret
 exact⟨by rw[<-HK.out];rfl,hb⟩
theorem indexT3 {w:World}{a:Option Addr}{cap:Nat}{l:List Bs}{p:Bs->Bool}{fn:FuncId}{c1 c2 c3:Value}(hS:StrsAt w l a) (hn:l.length<=1000000) (hcf:∀(args:Array Value) (w:World),(callFunc fn args).run Tryz.prog w=.ok (.enter fn args) w)
  (hd:∀ W (x:Bs),x∈l->Below w.heap.size w W->Calls Tryz.prog fn #[.string (bs x),c1,c2,c3] W fun e w'=>e=.returned (.bool (p x))/\Below W.heap.size W w') :
  Calls Tryz.prog 89 #[.slice a l.length cap,.func (.func fn) #[] #[c1,c2,c3]] w fun e w'=>(∃ k:Int,e=.returned (.int .i64 k)/\(decide (0<=k)=l.any p))/\Below w.heap.size w w':=by
 have hn':(l.length:Int)<=1000000:=by omega
 have HSL:=zh hS
 have HD:=zh hd
 clear hS hd
 go_enter Tryz.func89,Tryz.ntmps89
 go_wp2_with fail
 go_loopg [8] l.length (fun k vi wr=>∃ i:Nat,i<=l.length/\k=l.length - i/\vi=.int .i64 (i:Int)/\Hid ((l.take i).any p=false)/\Hid (Below w.heap.size w wr))
 case atStart=>exact⟨0,by omega,by omega,rfl,rfl,Below.refl _ _⟩
 case round =>
  obtain⟨i,hid,hk,rfl,HI,HW⟩:=hrel
  by_cases hlt:i<l.length
  ·have hlt':(i:Int)<(l.length:Int):=by omega
   obtain⟨g,go,rfl,hgl,hc0⟩:=HSL.out.c i hlt
   have e0:wr.cell? ⟨g,go+i,none⟩=some (.string (bs l[i])):=(HW.out.cell (p:=⟨g,go+i,none⟩) hgl).trans hc0
   clear hc0
   have hbl':g<wr.heap.size:=zg e0
   have HF:=zh (HD.out wr l[i] (List.getElem_mem hlt) HW.out)
   have HNX:Hid ((l.take (i+1)).any p=p l[i]):=by
    show _=_
    rw[List.take_succ_eq_append_getElem hlt,List.any_append,HI.out];simp
   have HAN:Hid (p l[i]=true->l.any p=true):=fun e=>List.any_eq_true.2 ⟨_,List.getElem_mem hlt,e⟩
   generalize p l[i]=d at *
   generalize l[i]=x at *
   clear HI
   go_wp2_with fail
   refine HF.out.mono ?_
   rintro e w3 ⟨rfl,h3⟩
   have HW3:=zh (HW.out.trans (h3.mono HW.out.size))
   clear h3
   cases d with
   | true =>
    have HE:=zh (HAN.out rfl)
    go_wp2_with fail
    go_ret
    refine⟨⟨_,rfl,?_⟩,HW3.out⟩
    rw[HE.out]
    exact decide_eq_true (by omega)
   | false =>
    go_wp2_with fail
    go_roundg (l.length - (i+1))
    case measure=>omega
    case rel=>exact⟨i+1,by omega,rfl,by go_num,HNX,HW3⟩
  ·have hlt':¬(i:Int)<(l.length:Int):=by omega
   have HE:Hid (l.any p=false):=by
    have:=HI.out
    rw[List.take_of_length_le (by omega)]at this
    exact this
   go_wp2_with fail
   go_ret
   refine⟨⟨_,rfl,?_⟩,HW.out⟩
   rw[HE.out]
   rfl
theorem containsT3 {w:World}{a:Option Addr}{cap:Nat}{l:List Bs}{p:Bs->Bool}{fn:FuncId}{c1 c2 c3:Value}(hS:StrsAt w l a) (hn:l.length<=1000000) (hcf:∀(args:Array Value) (w:World),(callFunc fn args).run Tryz.prog w=.ok (.enter fn args) w)
  (hd:∀ W (x:Bs),x∈l->Below w.heap.size w W->Calls Tryz.prog fn #[.string (bs x),c1,c2,c3] W fun e w'=>e=.returned (.bool (p x))/\Below W.heap.size W w') :
  Calls Tryz.prog 44 #[.slice a l.length cap,.func (.func fn) #[] #[c1,c2,c3]] w fun e w'=>e=.returned (.bool (l.any p))/\Below w.heap.size w w':=by
 have HC:=zh (indexT3 (cap:=cap) hS hn hcf hd)
 clear hS hd hcf
 go_enter Tryz.func44,Tryz.ntmps44
 go_wp2_with fail
 refine HC.out.mono ?_
 rintro e w1 ⟨⟨k,rfl,hk⟩,hb⟩
 have HK:=zh hk
 clear hk
 go_wp2_with fail
 go_ret
 exact⟨by rw[<-HK.out];rfl,hb⟩
end Go.Proofs.YtibncofnnlbmcaaGreatDoor
