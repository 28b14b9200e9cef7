import Derived.Test.YtibncofnnlbmcaaGreatDoorKQj
import Derived.Test.YtibncofnnlbmcaaGreatDoorKMf
set_option maxRecDepth 100000
set_option maxHeartbeats 4000000
namespace Go.Proofs.YtibncofnnlbmcaaGreatDoor
open Go.RowKit Go.Maps Go.Sort
open Tp (Bs X S G Pr Pt Rs Rr Own Sy)
theorem swp_mem {d:Array Sy}{i j:Nat}{s:Sy}(a:i<d.size)(b:j<d.size)(h:s∈(swp d i j).toList):s∈d.toList:=by
 rw[Array.mem_toList_iff]at h ⊢
 have c:s∈(d.setIfInBounds i d[j]!).setIfInBounds j d[i]!:=h
 rcases Array.mem_or_eq_of_mem_setIfInBounds c with h1|h1
 ·rcases Array.mem_or_eq_of_mem_setIfInBounds h1 with h2|h2
  ·exact h2
  ·rw[h2,getElem!_pos d j b];exact Array.getElem_mem b
 ·rw[h1,getElem!_pos d i a];exact Array.getElem_mem a
theorem vZ {c:Sy->Sy->Bool}(a:Nat):∀(j:Nat) (d:Array Sy) (s:Sy),j<d.size->s∈(Sort.insInner c a j d).toList->s∈d.toList:=by
 intro j
 induction j with
 |zero=>intro d s _ h;exact h
 |succ j ih =>
  intro d s b h
  rw[Sort.insInner]at h
  split at h
  ·have:=ih _ _ (by simp[swp];omega) h
   exact swp_mem b (by omega) this
  ·exact h
theorem vY {f:Sy->Sy->Bool}(a b:Nat):∀(k i:Nat) (d:Array Sy) (s:Sy),b-i=k->b<=d.size->s∈(Sort.insOuter f a b i d).toList->s∈d.toList:=by
 intro k
 induction k with
 |zero=>intro i d s h _ c;rw[Sort.insOuter,if_neg (by omega)]at c;exact c
 |succ k ih =>
  intro i d s h e c
  rw[Sort.insOuter]at c
  split at c
  ·have:=ih (i+1) _ s (by omega) (by rw[kN];exact e) c
   exact vZ a i d s (by omega) this
  ·exact c
theorem srt_mem {l:List Sy}{s:Sy}(h:s∈srt l):s∈l:=by
 unfold srt insS Sort.insertionSort at h
 have:=vY 0 l.length _ 1 l.toArray s rfl (by simp) h
 simpa using this
def ofS (m:Tp.M):List Tp.Sy:=srt (Tp.symsOf m)
theorem jC (m:Tp.M):∀s∈ofS m,s∈Tp.symsOf m:=fun _ a=>srt_mem a
theorem ofS_ok (m:Tp.M):∀s∈ofS m,Tp.OkS s:=fun s a=>Tp.symsOf_ok s (srt_mem a)
def zwB (w:World) (wb:Nat):Prop:=w.heap[wb]?=some (.cells #[.slice none 0 0,.map none] 28 (0,0))
def WX (X:Nat->Prop) (w:World) (wb:Nat) (L:List Lo) (P:List Pt) (nv:Value):Option Nat->Prop
 |some tb=>WW X w wb L P nv tb
 |none=>L=[]/\P=[]/\nv=.slice none 0 0/\¬X wb/\zwB w wb
def Mut (L:List Lo) (wb:Nat) (tv:Option Nat) (nv:Value) (b:Nat):Prop:=VLo L b\/b=wb\/tv=some b\/nv.ownBlock=some b
structure Tr (U U':Nat->Prop) (w w':World):Prop where
 os:w'.os=w.os
 tape:w'.tape=w.tape
 output:w'.output=w.output
 size:w.heap.size<=w'.heap.size
 block:∀b,b<w.heap.size->¬U b->w'.heap[b]?=w.heap[b]?
 more:∀b,U' b->U b\/w.heap.size<=b
theorem Tr.below {U:Nat->Prop}{w w':World}(h:Below w.heap.size w w'):Tr U U w w':=⟨h.os,h.tape,h.output,h.size,fun b a _=>h.block b a,fun _ a=>Or.inl a⟩
theorem Tr.trans {U c d:Nat->Prop}{w f w2:World}(h:Tr U c w f)(k:Tr c d f w2):Tr U d w w2:=by
 refine⟨k.os.trans h.os,k.tape.trans h.tape,k.output.trans h.output,Nat.le_trans h.size k.size,fun b a e=>?_,fun b a=>?_⟩
 ·refine(k.block b (Nat.lt_of_lt_of_le a h.size) (fun q=>?_)).trans (h.block b a e)
  rcases h.more b q with q|q
  ·exact e q
  ·omega
 ·rcases k.more b a with q|q
  ·exact h.more b q
  ·exact Or.inr (Nat.le_trans h.size q)
theorem Tr.ahead {U a:Nat->Prop}{w b w2:World}(h:Below w.heap.size w b)(k:Tr U a b w2):Tr U a w w2:=(Tr.below h).trans k
theorem Tr.toBelow {U a:Nat->Prop}{w w':World}{B:Nat}(h:Tr U a w w')(d:B<=w.heap.size)(c:∀b,U b->B<=b):Below B w w':=⟨h.os,h.tape,h.output,h.size,fun b e=>h.block b (by omega) (fun q=>by have:=c b q;omega)⟩
theorem WX.blk {X:Nat->Prop}{w:World}{c:Nat}{L:List Lo}{P:List Pt}{b:Value}{a:Option Nat}(h:WX X w c L P b a):w.heap[c]?=some (.cells #[b,.map a] 28 (0,0)):=by
 cases a with
 |some tb=>exact WW.blk h
 |none=>obtain⟨_,_,rfl,_,h⟩:=h;exact h
theorem WX.xw {X:Nat->Prop}{w:World}{b:Nat}{L:List Lo}{P:List Pt}{c:Value}{a:Option Nat}(h:WX X w b L P c a):¬X b:=by
 cases a with
 |some tb=>exact(WW.xw h).1
 |none=>exact h.2.2.2.1
theorem WX.nm {X:Nat->Prop}{w:World}{c:Nat}{L:List Lo}{P:List Pt}{a:Value}{b:Option Nat}(h:WX X w c L P a b):w.ownsRow 0 9 1 a L.length (strs (L.map fun lo=>lo.m.name)):=by
 cases b with
 |some tb=>exact WW.nm h
 |none=>obtain⟨rfl,_,rfl,_⟩:=h;exact World.ownsRow_nil _ _ _ _
theorem WX.mw {X:Nat->Prop}{w:World}{c:Nat}{L:List Lo}{P:List Pt}{b:Value}{a:Option Nat}(h:WX X w c L P b a):Tp.ms P=L.map fun lo=>lo.m:=by
 cases a with
 |some tb=>exact WW.mw h
 |none=>obtain⟨rfl,rfl,_⟩:=h;rfl
theorem WX.nd {X:Nat->Prop}{w:World}{c:Nat}{L:List Lo}{P:List Pt}{b:Value}{a:Option Nat}(h:WX X w c L P b a):(L.map fun lo=>lo.m.name).Nodup:=by
 cases a with
 |some tb=>exact WW.nd h
 |none=>obtain⟨rfl,rfl,_⟩:=h;exact List.nodup_nil
theorem WX.ww {X:Nat->Prop}{w:World}{c:Nat}{L:List Lo}{P:List Pt}{b:Value}{a:Option Nat}(h:WX X w c L P b a){lo:Lo}(d:lo∈L):∃tb,a=some tb/\WW X w c L P b tb:=by
 cases a with
 |some tb=>exact⟨tb,rfl,h⟩
 |none=>obtain⟨rfl,_⟩:=h;cases d
def ptrV (L:List Lo) (k:Bs):Option Addr:=(L.find? fun lo=>lo.m.name==k).map fun lo=>⟨lo.lb,0,none⟩
theorem WX.look {X:Nat->Prop}{w:World}{e:Nat}{L:List Lo}{P:List Pt}{d:Value}{a:Option Nat}(h:WX X w e L P d a)(k:Bs)(b:k.length<=1000000):(Instr.lookup 26 (.map a) (.string (bs k)) false).run Tryz.prog w=.ok (.pointer (ptrV L k)) w:=by
 cases a with
 |some tb =>
  obtain⟨n,_,c⟩:=WW.th h
  rw[c.look (t:=26) Tryz.underlying26 (zeroLo _) k b false]
  unfold thrL ptrV
  cases f:L.find? fun lo=>lo.m.name==k with
  |none=>simp
  |some lo=>simp
 |none =>
  obtain⟨rfl,_⟩:=h
  exact kB w (t:=26) Tryz.underlying26 (zeroLo _) k b false
theorem WX.more {X:Nat->Prop}{w w':World}{f:Nat}{L:List Lo}{P:List Pt}{e:Value}{a:Option Nat}(h:WX X w f L P e a)(d:Below w.heap.size w w'):WX (fun b=>X b\/w.heap.size<=b) w' f L P e a:=by
 cases a with
 |some tb=>exact WW.more h d
 |none =>
  obtain⟨g,i,j,k,c⟩:=h
  have:=zf c
  exact⟨g,i,j,fun q=>q.elim k (fun z=>by omega),(d.block _ this).trans c⟩
theorem WX.less {X Y:Nat->Prop}{w:World}{e:Nat}{L:List Lo}{P:List Pt}{d:Value}{a:Option Nat}(h:WX X w e L P d a)(c:∀b,Y b->X b):WX Y w e L P d a:=by
 cases a with
 |some tb=>exact WW.less h c
 |none=>exact⟨h.1,h.2.1,h.2.2.1,fun q=>h.2.2.2.1 (c _ q),h.2.2.2.2⟩
theorem WX.on {X:Nat->Prop}{w w':World}{c:Nat}{L:List Lo}{P:List Pt}{a:Value}{b:Option Nat}(h:WX X w c L P a b)(d:Below w.heap.size w w'):WX X w' c L P a b:=(h.more d).less (fun _ q=>Or.inl q)
theorem WX.other {X m:Nat->Prop}{w w':World}{l:Nat}{L:List Lo}{P:List Pt}{j:Value}{k:Option Nat}(h:WX X w l L P j k)(i:∀b,b<w.heap.size->¬X b->w'.heap[b]?=w.heap[b]?)(u:w.heap.size<=w'.heap.size)(o:∀b,m b->X b\/w.heap.size<=b):WX m w' l L P j k:=by
 have e:=h.more (Below.refl _ _)
 cases k with
 |some tb =>
  have a:WW (fun b=>X b\/w.heap.size<=b) w l L P j tb:=e
  refine WW.less (X:=fun b=>X b\/w.heap.size<=b) ?_ o
  refine a.keep (fun b t v _=>i b t (fun q=>v (Or.inl q))) u (fun lo r=>?_) a.mw
  obtain⟨p,x,y,d⟩:=a.vals lo r
  exact⟨p,x,y,fun g c=>⟨(d g c).1,(i _ (zf (d g c).2.1) (fun q=>(a.sv _ ⟨lo,r,g,c,rfl⟩).2 (Or.inl q))).trans (d g c).2.1,(d g c).2.2⟩⟩
 |none =>
  obtain⟨e,a,s,n,f⟩:=h
  exact⟨e,a,s,fun q=>(o _ q).elim n (fun z=>by have:=zf f;omega),(i _ (zf f) n).trans f⟩
theorem WX.mlt {X:Nat->Prop}{w:World}{d:Nat}{L:List Lo}{P:List Pt}{a:Value}{c:Option Nat}(h:WX X w d L P a c){b:Nat}(e:Mut L d c a b):b<w.heap.size/\¬X b:=by
 cases c with
 |some tb =>
  have h:WW X w d L P a tb:=h
  rcases e with q|rfl|q|q
  ·exact h.sv b q
  ·exact⟨zf h.blk,h.xw.1⟩
  ·cases q
   obtain⟨n,_,i⟩:=h.th
   exact⟨i.lt,h.tx.1⟩
  ·exact⟨(h.nm.lt b q).2,(h.nx b q).1⟩
 |none =>
  obtain⟨rfl,rfl,rfl,f,g⟩:=h
  rcases e with⟨lo,q,_⟩|rfl|q|q
  ·cases q
  ·exact⟨zf g,f⟩
  ·cases q
  ·cases q
theorem WX.wm {X:Nat->Prop}{w:World}{e:Nat}{L:List Lo}{P:List Pt}{c:Value}{d:Option Nat}(h:WX X w e L P c d){lo:Lo}(a:lo∈L):Tp.WM lo.m:=by
 obtain⟨f,_,b⟩:=h.ww a
 exact(b.lo lo a).2.2.2.2.wm
def MapC (w:World) (tv:Option Nat) (L:List Lo) (c:Nat):Prop:=∀tb,tv=some tb->∃n,n<=c/\MapV w tb n (thrL L)
def WZ (X U:Nat->Prop) (c:Nat) (w:World) (wb:Nat) (P:List Pt):Prop:=∃L nv tv,WX X w wb L P nv tv/\L.length<=10/\Tp.WI ofS P/\(∀b,U b↔Mut L wb tv nv b)/\MapC w tv L c/\∀m∈Tp.ms P,Tp.nM m<=9000
theorem WZ.on {X U:Nat->Prop}{c:Nat}{w w':World}{d:Nat}{P:List Pt}(h:WZ X U c w d P)(a:Below w.heap.size w w'):WZ X U c w' d P:=by
 obtain⟨L,o,q,f,g,i,j,k,l⟩:=h
 refine⟨L,o,q,f.on a,g,i,j,fun p e=>?_,l⟩
 obtain⟨n,m,b⟩:=k p e
 exact⟨n,m,b.on (a.block _ b.lt)⟩
theorem WZ.lt {X U:Nat->Prop}{c:Nat}{w:World}{f:Nat}{P:List Pt}(h:WZ X U c w f P){b:Nat}(e:U b):b<w.heap.size/\¬X b:=by
 obtain⟨L,g,i,a,_,_,d,_⟩:=h
 exact a.mlt ((d b).1 e)
theorem WZ.other {X a U:Nat->Prop}{c:Nat}{w w':World}{j:Nat}{P:List Pt}(h:WZ X U c w j P)(f:∀b,b<w.heap.size->¬X b->w'.heap[b]?=w.heap[b]?)(s:w.heap.size<=w'.heap.size)(q:∀b,a b->X b\/w.heap.size<=b):WZ a U c w' j P:=by
 obtain⟨L,t,u,d,k,l,m,o,p⟩:=h
 refine⟨L,t,u,d.other f s q,k,l,m,fun i e=>?_,p⟩
 obtain⟨n,r,g⟩:=o i e
 exact⟨n,r,g.on (f _ g.lt (d.mlt (b:=i) (Or.inr (Or.inr (Or.inl e)))).2)⟩
theorem WZ.more {X U:Nat->Prop}{c a:Nat}{w:World}{b:Nat}{P:List Pt}(h:WZ X U c w b P)(q:c<=a):WZ X U a w b P:=by
 obtain⟨L,m,p,d,f,g,i,j,k⟩:=h
 refine⟨L,m,p,d,f,g,i,fun o e=>?_,k⟩
 obtain⟨n,r,l⟩:=j o e
 exact⟨n,by omega,l⟩
theorem WZ.wi {X U:Nat->Prop}{c:Nat}{w:World}{a:Nat}{P:List Pt}(h:WZ X U c w a P):Tp.WI ofS P:=by
 obtain⟨L,b,d,_,_,h,_⟩:=h
 exact h
theorem WZ.wb {X U:Nat->Prop}{c:Nat}{w:World}{a:Nat}{P:List Pt}(h:WZ X U c w a P):U a:=by
 obtain⟨L,e,f,d,_,_,b,_⟩:=h
 exact(b a).2 (Or.inr (Or.inl rfl))
theorem WZ.zero {X:Nat->Prop}{w:World}{a:Nat}(h:w.heap[a]?=some (.cells #[.slice none 0 0,.map none] 28 (0,0)))(c:¬X a):WZ X (fun b=>b=a) 0 w a []:=by
 refine⟨[],.slice none 0 0,none,⟨rfl,rfl,rfl,c,h⟩,by simp,Tp.WI.empty _,fun b=>⟨fun e=>Or.inr (Or.inl e),fun e=>?_⟩,(fun f e=>by cases e),fun m d=>by cases d⟩
 rcases e with⟨lo,q,_⟩|q|q|q
 ·cases q
 ·exact q
 ·cases q
 ·cases q
theorem WZ.all {X U:Nat->Prop}{c:Nat}{w:World}{b:Nat}{P:List Pt}(h:WZ X U c w b P):Calls Tryz.prog 13 #[.pointer (some ⟨b,0,none⟩)] w fun e w'=>e=.returned (.string (allB P))/\Below w.heap.size w w':=by
 obtain⟨L,i,g,a,d,_⟩:=h
 cases g with
 |some tb=>exact all_post a d
 |none =>
  obtain⟨_,rfl,_,_,f⟩:=a
  exact all_zero f
theorem jr {X:Nat->Prop}{w:World}{g:Nat}{L:List Lo}{P:List Pt}{d:Value}{f:Option Nat}(h:WX X w g L P d f)(k:Bs):(Tp.partOf P k=none/\ptrV L k=none)\/∃p,∃lo∈L,Tp.partOf P k=some p/\p.m=lo.m/\lo.m.name=k/\ptrV L k=some ⟨lo.lb,0,none⟩:=by
 have e:(Tp.partOf P k).map (·.m)=(L.find? fun lo=>lo.m.name==k).map (·.m):=by
  have c:(Tp.partOf P k).map (·.m)=(Tp.ms P).find? fun m=>m.name==k:=by
   unfold Tp.partOf Tp.ms
   rw[List.find?_map]
   rfl
  rw[c,h.mw,List.find?_map]
  rfl
 unfold ptrV
 cases a:L.find? fun lo=>lo.m.name==k with
 |none =>
  rw[a]at e
  refine Or.inl ⟨?_,rfl⟩
  cases b:Tp.partOf P k with
  |none=>rfl
  |some p=>rw[b]at e;cases e
 |some lo =>
  rw[a]at e
  cases b:Tp.partOf P k with
  |none=>rw[b]at e;cases e
  |some p =>
   rw[b]at e
   exact Or.inr ⟨p,lo,List.mem_of_find?_eq_some a,rfl,by simpa using e,by simpa using List.find?_some a,rfl⟩
def seenL (L:List Lo):Tp.Seen:=fun k=>(L.find? fun lo=>lo.m.name==k).map fun lo=>ofS lo.m
theorem WX.seen {X:Nat->Prop}{w:World}{d:Nat}{L:List Lo}{P:List Pt}{b:Value}{c:Option Nat}(h:WX X w d L P b c):Tp.seenW ofS P=seenL L:=by
 funext k
 have e:(Tp.partOf P k).map (·.m)=(L.find? fun lo=>lo.m.name==k).map (·.m):=by
  have a:(Tp.partOf P k).map (·.m)=(Tp.ms P).find? fun m=>m.name==k:=by
   unfold Tp.partOf Tp.ms
   rw[List.find?_map]
   rfl
  rw[a,h.mw,List.find?_map]
  rfl
 have:=congrArg (Option.map ofS) e
 simpa[Tp.seenW,seenL,Option.map_map,Function.comp_def] using this
theorem seenL_succ {L:List Lo}(f:(L.map fun lo=>lo.m.name).Nodup){i:Nat}(b:i<L.length):seenL (L.take (i+1))=fun k=>if k=L[i].m.name then some (ofS L[i].m) else seenL (L.take i) k:=by
 funext k
 unfold seenL
 rw[List.take_succ_eq_append_getElem b,List.find?_append]
 by_cases e:k=L[i].m.name
 ·rw[if_pos e]
  have:(L.take i).find? (fun lo=>lo.m.name==k)=none:=by
   rw[List.find?_eq_none]
   intro lo a q
   have c:lo.m.name=k:=by simpa using q
   obtain⟨j,d,rfl⟩:=List.getElem_of_mem a
   rw[List.length_take]at d
   rw[List.getElem_take]at c
   have:=(List.getElem_inj (h₀:=by simp;omega) (h₁:=by simpa using b) f (i:=j) (j:=i)).1 (by simpa using c.trans e)
   omega
  rw[this]
  simp[e]
 ·rw[if_neg e]
  have:([L[i]]:List Lo).find? (fun lo=>lo.m.name==k)=none:=by
   rw[List.find?_eq_none]
   intro lo a q
   rw[List.mem_singleton]at a
   subst a
   exact e (by simpa using q:L[i].m.name=k).symm
  rw[this]
  simp
end Go.Proofs.YtibncofnnlbmcaaGreatDoor
namespace Go.Proofs.YtibncofnnlbmcaaGreatDoor
open Go.RowKit Go.Maps
open Tp (Bs X S G Pr Pt Rs Rr Own Sy Seen)
theorem jz {m:Tp.M}(a:Tp.WM m):(ofS m).length<=1000:=by
 unfold ofS
 rw[kX]
 unfold Tp.symsOf
 have b:=List.length_filter_le (fun g:Tp.G=>g.seen) m.vars
 have c:=List.length_filter_le (fun p:Tp.Pr=>p.seen) m.procs
 have:=a.gc
 have:=a.pc
 simp only[List.length_append,List.length_map]
 omega
theorem seen_putA {wr j m:World}{e c i B:Nat}{Sn n:Seen}{f:Bs->Option Value}{x:Bs}{v:Value}{l:List Sy}(s:n=fun k=>if k=x then some l else Sn k)(A:c<=i)(p:MapV wr e c f)(h:∀k,match Sn k with
 |none=>f k=none
 |some l=>∃v,f k=some v/\SL wr 0 v l/\l.length<=1000)(o:Below wr.heap.size wr j)(w:SL j B v l)(t:l.length<=1000)(y:MapV m e (c+1) (updV f x v))(z:Ext e j m):∃c,c<=i+1/\SeenM m e c n:=by
 rw[s]
 refine⟨c+1,by omega,SeenM.store (p.on (o.block _ p.lt)) (fun k=>?_) (l:=l) ?_ t y z⟩
 ·have:=h k
  cases r:Sn k with
  |none=>rw[r]at this;exact this
  |some ll=>rw[r]at this;obtain⟨u,a,b,d⟩:=this;exact⟨u,a,b.on o,d⟩
 ·rcases w with q|⟨g,cap,a,_,b⟩
  ·exact Or.inl q
  ·exact Or.inr ⟨g,cap,a,Nat.zero_le _,b⟩
def RdA (w:World) (L:List Lo) (tv:Option Nat) (na:Option Addr) (i:Nat) (hi:i<L.length):Prop:=∃nb ia ga pa ba ic gc pc bc,na=some ⟨nb,0,none⟩/\nb<w.heap.size/\w.cell? ⟨nb,i,none⟩=some (.string (bs L[i].m.name))/\w.heap[L[i].lb]?=some (.cells (lcells L[i].m ia ga pa ba ic gc pc bc L[i].vb) 107 (0,0))/\MB w w.heap.size L[i].m ia ga pa ba ic gc pc bc/\(Instr.lookup 26 (.map tv) (.string (bs L[i].m.name)) false).run Tryz.prog w=.ok (.pointer (some ⟨L[i].lb,0,none⟩)) w
theorem WX.rd {X:Nat->Prop}{w:World}{B:Nat}{L:List Lo}{P:List Pt}{f:Option Nat}{e:Option Addr}{y:Nat}(h:WX X w B L P (.slice e L.length y) f)(i:Nat)(a:i<L.length):RdA w L f e i a:=by
 obtain⟨D,rfl,d⟩:=h.ww (List.getElem_mem a)
 obtain⟨⟨v,q,z,o,x,r,A,p,s,t⟩,_,_,_,j⟩:=d.lo _ (List.getElem_mem a)
 have k:=d.nm
 rcases k.2 with⟨_,C⟩|⟨g,cap,cur,q1,_,q3,q4,q5,q6,q7⟩
 ·omega
 ·injection q1 with q1 _ _
  have c:=h.look L[i].m.name (by have:=zQ j.wm.n;omega)
  have l:ptrV L L[i].m.name=some ⟨L[i].lb,0,none⟩:=by
   unfold ptrV
   rw[(Tp.find_key (key:=fun lo:Lo=>lo.m.name) h.nd L[i]).2 ⟨List.getElem_mem a,rfl⟩]
   rfl
  rw[l]at c
  refine⟨g,v,q,z,o,x,r,A,p,q1,zf q3,?_,s,t.mb (fun b _ u=>u),c⟩
  rw[za q3,<-Array.getElem?_toList]
  have:(strs (L.map fun lo=>lo.m.name))[i]?=some (.string (bs L[i].m.name)):=by simp[strs,a]
  rw[<-this,<-q7,List.getElem?_take_of_lt (by omega)]
theorem seen_any {X:Nat->Prop}{w:World}{d:Nat}{L:List Lo}{P:List Pt}{nv:Value}{x:Option Nat}(h:WX X w d L P nv x)(hL:L.length<=10) :
  Calls Tryz.prog 38 #[.pointer (some ⟨d,0,none⟩)] w fun e w'=>∃sb,e=.returned (.map (some sb))/\Below w.heap.size w w'/\SeenV w' (.map (some sb)) (Tp.seenW ofS P):=by
 have a4:=@run_makeMap Tryz.prog
 rw[h.seen]
 obtain⟨J,nc,D⟩:=zw h.nm
 rw[D]at h
 have F:SeenM (w.alloc (.map #[] 0)) w.heap.size 0 (seenL (L.take 0)):=⟨_,MapV.made w,fun k=>by simp[seenL]⟩
 have A:Below w.heap.size w (w.alloc (.map #[] 0)):=zb _ _
 have G:=zf h.blk
 have I:(w.alloc (.map #[] 0)).cell? ⟨d,0,none⟩=some (.slice J L.length nc):=(World.cell?_of_block (w:=w) (Below.heap_alloc _ _ _ G)).trans ((za h.blk).trans rfl)
 have U:Hid (∀W,Below w.heap.size w W->W.cell? ⟨d,1,none⟩=some (.map x)/\d<W.heap.size):=fun W l=>⟨(l.cell (p:=⟨d,1,none⟩) G).trans ((za h.blk).trans rfl),by have:=l.size;omega⟩
 have Y:Hid (∀W,Below w.heap.size w W->∀i (u:i<L.length),RdA W L x J i u):=fun W l i u=>(h.on l).rd i u
 have a1:Hid (∀lo∈L,Tp.WM lo.m):=fun lo hl=>h.wm hl
 have V:=zh h.nd
 have a5:(w.alloc (.map #[] 0)).heap.size=w.heap.size+1:=by simp
 have Z:=zh F
 have S:=zh A
 have a2:(L.length:Int)<=10:=by omega
 obtain⟨a,r⟩:∃a,a=L.length:=⟨_,rfl⟩
 rw[<-r]at a2 I
 have y:=zh r
 clear F A r h D hL
 go_enter Tryz.func38,Tryz.ntmps38
 go_wp2_with fail
 clear I
 generalize w.alloc (.map #[] 0)=w0 at *
 clear a4
 go_loopg [12] a (fun k vi wr=>∃i:Nat,i<=a/\k=a-i/\vi=.int .i64 (i:Int)/\Hid (∃c,c<=i/\SeenM wr w.heap.size c (seenL (L.take i)))/\Hid (Ext w.heap.size w0 wr))
 case atStart=>exact⟨0,by omega,by omega,rfl,⟨0,Nat.le_refl _,Z.out⟩,Ext.refl _ _⟩
 case round =>
  obtain⟨i,a3,hk,rfl,z,s⟩:=hrel
  have b2:=s.out.size
  have o:Hid (Below w.heap.size w wr):=S.out.trans (zT s.out zn (by omega))
  by_cases b0:i<a
  ·have Q:(i:Int)<(a:Int):=by omega
   have a7:¬(i:Int)<0:=by omega
   have q:i<L.length:=by have:=y.out;omega
   obtain⟨nb,ia,ga,pa,ba,ic,gc,pc,bc,rfl,b1,kn,b,C,a8⟩:=Y.out wr o.out i q
   obtain⟨k1,a6⟩:=U.out wr o.out
   have g:=a1.out _ (List.getElem_mem q)
   have H:=zh (uO g.gc g.pc C)
   have a0:=zh (seenL_succ V.out q)
   have R:L[i].m.name.length<=1000000:=by have:=zQ g.n;omega
   have N:=zh (jz g)
   have a9:=zf b
   unfold lcells at b
   have m0:wr.cell? ⟨L[i].lb,0,none⟩=some (.string (bs L[i].m.name)):=(za b).trans rfl
   have m1:wr.cell? ⟨L[i].lb,1,none⟩=some (.slice ia L[i].m.imports.length ic):=(za b).trans rfl
   have m2:wr.cell? ⟨L[i].lb,2,none⟩=some (.slice ga L[i].m.vars.length gc):=(za b).trans rfl
   have m3:wr.cell? ⟨L[i].lb,3,none⟩=some (.slice pa L[i].m.procs.length pc):=(za b).trans rfl
   have m4:wr.cell? ⟨L[i].lb,4,none⟩=some (.slice ba L[i].m.body.length bc):=(za b).trans rfl
   simp only[mcells]at H
   clear g C b
   generalize L[i].lb=lb at *
   generalize L[i].m=m at *
   clear a3
   go_wp2_with fail
   refine H.out.mono ?_
   rintro e w5⟨v5,rfl,j,E⟩
   obtain⟨c,c1,f,c2,c3⟩:=z.out
   obtain⟨M,b3,K,v,q3⟩:=(c2.on (j.block _ c2.lt)).store (t:=90) Tryz.underlying90 (by omega) m.name R v5
   have O:Hid (∃c,c<=i+1/\SeenM M w.heap.size c (seenL (L.take (i+1)))):=seen_putA a0.out c1 c2 c3 j E N.out K v
   have T:Hid (Ext w.heap.size w0 M):=(s.out.trans (Ext.below j)).trans v
   clear j E c2 c3 K v q3
   go_wp2_with fail
   go_roundg (a-(i+1))
   case measure=>omega
   case rel=>exact⟨i+1,by omega,rfl,by go_num,O,T⟩
  ·have Q:¬(i:Int)<(a:Int):=by omega
   have B:i=L.length:=by have:=y.out;omega
   have HF:Hid (SeenV wr (.map (some w.heap.size)) (seenL L)):=by
    obtain⟨c,c1,c2⟩:=z.out
    rw[B,List.take_length]at c2
    exact Or.inr ⟨_,c,rfl,c2⟩
   clear B
   go_wp2_with fail
   go_ret
   exact⟨_,rfl,o.out,HF.out⟩
end Go.Proofs.YtibncofnnlbmcaaGreatDoor
namespace Go.Proofs.YtibncofnnlbmcaaGreatDoor
open Go.RowKit Go.Maps
open Tp (Bs X S G Pr Pt Rs Rr Own)
def SwapQ (X U:Nat->Prop) (c:Nat) (w:World) (wb:Nat) (a:Tp.Ans) (e:Ending) (w':World):Prop:=∃ev,e=.returned ev/\(∃U',WZ X U' (c+1) w' wb a.w/\Tr U U' w w')/\EvT w.heap.size w' a.err ev
def ErrS (w:World) (er:Nat×Option Nat) (e:Ending) (w':World):Prop:=Below w.heap.size w w'/\∃v,e=.returned v/\ErrV w.heap.size w' er v
theorem swap_none {X:Nat->Prop}{w:World}{c:Nat}{L:List Lo}{P:List Pt}{nv:Value}{G:Option Nat}{m:Tp.M}{l j p g:Option Addr}{o k q i:Nat}(h:WX X w c L P nv G)(_:L.length<=10)(R:MB w w.heap.size m l j p g o k q i)(y:Tp.WM m)(K:ptrV L m.name=none) :
  Calls Tryz.prog 18 #[.pointer (some ⟨c,0,none⟩),.agg (mcells (bs m.name) (.slice l m.imports.length o) (.slice j m.vars.length k) (.slice p m.procs.length q) (.slice g m.body.length i))] w (ErrS w (7,none)):=by
 have b7:=zQ y.n
 have a5:=zf h.blk
 obtain⟨W,b⟩:∃W,W=(w.alloc (.cells #[.pointer (some ⟨c,0,none⟩)] 47)).alloc (.cells (mcells (bs m.name) (.slice l m.imports.length o) (.slice j m.vars.length k) (.slice p m.procs.length q) (.slice g m.body.length i)) 36):=⟨_,rfl⟩
 have s:Below w.heap.size w W:=by rw[b];exact(zb _ _).alloc (by simp) _
 have e:W.heap.size=w.heap.size+2:=by rw[b];simp
 have u:W.heap[w.heap.size]?=some (.cells #[.pointer (some ⟨c,0,none⟩)] 47 (0,0)):=by rw[b];exact(Below.heap_alloc _ _ _ (by simp)).trans (zo _ _)
 have t:W.heap[w.heap.size+1]?=some (.cells (mcells (bs m.name) (.slice l m.imports.length o) (.slice j m.vars.length k) (.slice p m.procs.length q) (.slice g m.body.length i)) 36 (0,0)):=by rw[b];exact yj _ _ _
 obtain⟨a,d⟩:∃a,a=(W.alloc (.cells #[.pointer none] 88)).drew:=⟨_,rfl⟩
 have r:Below W.heap.size W a:=by rw[d];exact(zb _ _).drew
 have S:a.heap.size=w.heap.size+3:=by rw[d];show (W.alloc _).heap.size=_;simp[e]
 have D:a.heap[w.heap.size+2]?=some (.cells #[.pointer none] 88 (0,0)):=by
  rw[d]
  have:=zo W (.cells #[.pointer none] 88)
  rw[e]at this
  exact this
 have T:=(s.block c a5).trans h.blk
 have k1:W.cell? ⟨c,1,none⟩=some (.map G):=(za T).trans rfl
 have km:W.cell? ⟨w.heap.size+1,0,none⟩=some (.string (bs m.name)):=(za t).trans rfl
 have kp:W.cell? ⟨w.heap.size,0,none⟩=some (.pointer (some ⟨c,0,none⟩)):=(za u).trans rfl
 have v:∀V,Below W.heap.size W V->(Instr.lookup 26 (.map G) (.string (bs m.name)) false).run Tryz.prog V=.ok (.pointer none) V:=fun V hV=>by
  have:=((h.on s).on hV).look m.name (by omega)
  rw[K]at this
  exact this
 have H:=v W (Below.refl _ _)
 have I:=v W.drew ((Below.refl _ _).drew)
 have J:=v (W.alloc (.cells #[.pointer none] 88)).drew ((zb _ _).drew)
 have a2:=zh R
 have a3:=zh y.sml
 have a1:Hid (Below w.heap.size w a):=s.trans (r.mono (by omega))
 have O:Hid (a.heap[w.heap.size+1]?=_):=(r.block _ (zf t)).trans t
 have a9:Hid (a.heap[w.heap.size]?=_):=(r.block _ (zf u)).trans u
 have b0:=zh D
 have HM:=zh y
 have b5:=zh h
 have b2:=zh S
 have a8:c<W.heap.size:=by omega
 have a6:w.heap.size+1<W.heap.size:=by omega
 have a7:w.heap.size<W.heap.size:=by omega
 have k2:a.cell? ⟨W.heap.size,0,none⟩=some (.pointer none):=by rw[e];exact(za D).trans rfl
 have b6:W.heap.size<a.heap.size:=by omega
 have b4:=zh e
 unfold mcells at *
 obtain⟨z,x⟩:∃z,z=bs m.name:=⟨_,rfl⟩
 obtain⟨Sn,Q⟩:∃Sn,Sn=Tp.seenW ofS P:=⟨_,rfl⟩
 have N:Hid (∀f F,Below w.heap.size w f->SeenV f (.map (some F)) Sn->Calls Tryz.prog 37 #[.agg #[.string z,.slice l m.imports.length o,.slice j m.vars.length k,.slice p m.procs.length q,.slice g m.body.length i],.map (some F)] f (CheckP f (Tp.check m Sn))):=fun f F a4 a0=>by
  have:=yW a3.out (a2.out.up a4) a0
  unfold mcells at this
  rw[x]
  exact this
 rw[<-x]at b km H I J O ⊢
 have b1:Hid (z=bs m.name):=x
 have b3:Hid (Sn=Tp.seenW ofS P):=Q
 clear R y T t u D s e r S x Q h K v
 obtain⟨Z,C⟩:∃Z,Z=m.imports.length:=⟨_,rfl⟩
 obtain⟨Y,B⟩:∃Y,Y=m.vars.length:=⟨_,rfl⟩
 obtain⟨pl,E⟩:∃pl,pl=m.procs.length:=⟨_,rfl⟩
 obtain⟨U,A⟩:∃U,U=m.body.length:=⟨_,rfl⟩
 rw[<-C,<-B,<-E,<-A]at b O N ⊢
 have HQ:=zh (And.intro C (And.intro B (And.intro E A)))
 clear C B E A
 go_enter Tryz.func18,Tryz.ntmps18
 go_upto_region 1 with fail
 rw[<-b]
 clear b
 go_region
 all_goals
  rw[<-d]
  clear d H I J k1 km kp
  clear N
  have HR:Hid (ErrS w (7,none) (.returned (.iface 44 (.int .i64 7))) a):=⟨a1.out,_,rfl,rfl⟩
  go_wp2_with fail
  go_ret
  exact HR.out
theorem EvT.lower {B B':Nat}{w':World}{er:Option (Nat×Option Nat)}{ev:Value}(h:EvT B w' er ev)(f:B'<=B):EvT B' w' er ev:=by
 cases er with
 |none=>exact h
 |some e =>
  obtain⟨n,g⟩:=e
  cases g with
  |none=>exact h
  |some pl =>
   obtain⟨a,b,c,d⟩:∃a,ev=.iface 117 (.pointer (some ⟨a,0,none⟩))/\B<=a/\w'.cell? ⟨a,0,none⟩=some (.int .i64 (n:Int))/\w'.cell? ⟨a,1,none⟩=some (.int .i64 (pl:Int)):=h
   exact⟨a,b,Nat.le_trans f c,d⟩
theorem EvT.on {B b:Nat}{w w':World}{er:Option (Nat×Option Nat)}{ev:Value}(h:EvT B w er ev)(d:Ext b w w')(l:b<B):EvT B w' er ev:=by
 cases er with
 |none=>exact h
 |some e =>
  obtain⟨n,k⟩:=e
  cases k with
  |none=>exact h
  |some pl =>
   obtain⟨a,f,g,i,j⟩:∃a,ev=.iface 117 (.pointer (some ⟨a,0,none⟩))/\B<=a/\w.cell? ⟨a,0,none⟩=some (.int .i64 (n:Int))/\w.cell? ⟨a,1,none⟩=some (.int .i64 (pl:Int)):=h
   have c:a≠b:=by omega
   exact⟨a,f,g,d.cell i c,d.cell j c⟩
theorem ux {w w':World}{b:Option (Nat×Option Nat)}{e:Ending}(h:CheckP w b e w'):Below w.heap.size w w'/\∃ev,e=.returned ev/\EvT w.heap.size w' b ev:=by
 cases b with
 |none=>obtain⟨a,rfl⟩:=h;exact⟨a,_,rfl,rfl⟩
 |some er =>
  obtain⟨n,f⟩:=er
  cases f with
  |none=>obtain⟨a,rfl⟩:=h;exact⟨a,_,rfl,rfl⟩
  |some pl=>obtain⟨a,c,rfl,d⟩:=h;exact⟨a,_,rfl,c,rfl,d⟩
theorem neE (n:Int)(w:World):(binOp .neq 38 (.iface 44 (.int .i64 n)) .nilIface).run Tryz.prog w=.ok (.bool true) w:=by kernel_rfl
theorem neA (a:Nat)(w:World):(binOp .neq 38 (.iface 117 (.pointer (some ⟨a,0,none⟩))) .nilIface).run Tryz.prog w=.ok (.bool true) w:=by kernel_rfl
theorem gdE (x y:Operand)(n:Int)(w:World):(eqGuard .neq 38 x y (.iface 44 (.int .i64 n)) .nilIface).run Tryz.prog w=.ok () w:=by kernel_rfl
theorem gdA (x y:Operand)(a:Nat)(w:World):(eqGuard .neq 38 x y (.iface 117 (.pointer (some ⟨a,0,none⟩))) .nilIface).run Tryz.prog w=.ok () w:=by kernel_rfl
theorem EvT.gd {B:Nat}{w':World}{er:Nat×Option Nat}{ev:Value}(h:EvT B w' (some er) ev)(x y:Operand)(w:World):(eqGuard .neq 38 x y ev .nilIface).run Tryz.prog w=.ok () w:=by
 obtain⟨n,b⟩:=er
 cases b with
 |none=>obtain rfl:ev=.iface 44 (.int .i64 (n:Int)):=h;exact gdE _ _ _ _
 |some pl=>obtain⟨a,rfl,_⟩:∃a,ev=.iface 117 (.pointer (some ⟨a,0,none⟩))/\_:=h;exact gdA _ _ _ _
theorem EvT.ne {B:Nat}{w':World}{er:Nat×Option Nat}{ev:Value}(h:EvT B w' (some er) ev)(w:World):(binOp .neq 38 ev .nilIface).run Tryz.prog w=.ok (.bool true) w:=by
 obtain⟨n,b⟩:=er
 cases b with
 |none=>obtain rfl:ev=.iface 44 (.int .i64 (n:Int)):=h;exact neE _ _
 |some pl=>obtain⟨a,rfl,_⟩:∃a,ev=.iface 117 (.pointer (some ⟨a,0,none⟩))/\_:=h;exact neA _ _
def ErrP (w:World) (er:Nat×Option Nat) (e:Ending) (w':World):Prop:=Below w.heap.size w w'/\∃v,e=.returned (.tuple #[no2,v])/\ErrV w.heap.size w' er v
theorem load_twice {X:Nat->Prop}{w:World}{t fuel:Nat}{L:List Lo}{P:List Pt}{nv:Value}{N:Option Nat}{m:Tp.M}{k g o e:Option Addr}{l i p f:Nat}(h:WX X w t L P nv N)(_:L.length<=10)(Z:MB w w.heap.size m k g o e l i p f)(z:Tp.WM m){lo:Lo}(O:ptrV L m.name=some ⟨lo.lb,0,none⟩) :
  Calls Tryz.prog 17 #[.pointer (some ⟨t,0,none⟩),.agg (mcells (bs m.name) (.slice k m.imports.length l) (.slice g m.vars.length i) (.slice o m.procs.length p) (.slice e m.body.length f)),.int .i64 (fuel:Int)] w (ErrP w (9,none)):=by
 obtain⟨er,D⟩:∃er:Nat×Option Nat,er=(9,none):=⟨_,rfl⟩
 rw[<-D]
 have a4:=zh D
 clear D
 have b8:=zQ z.n
 have a9:=zf h.blk
 obtain⟨W,a⟩:∃W,W=(w.alloc (.cells (mcells (bs m.name) (.slice k m.imports.length l) (.slice g m.vars.length i) (.slice o m.procs.length p) (.slice e m.body.length f)) 36)).alloc (.cells #[.int .i64 0,.slice none 0 0] 43):=⟨_,rfl⟩
 have u:Below w.heap.size w W:=by rw[a];exact(zb _ _).alloc (by simp) _
 have a0:W.heap.size=w.heap.size+2:=by rw[a];simp
 have G:W.heap[w.heap.size]?=some (.cells (mcells (bs m.name) (.slice k m.imports.length l) (.slice g m.vars.length i) (.slice o m.procs.length p) (.slice e m.body.length f)) 36 (0,0)):=by rw[a];exact(Below.heap_alloc _ _ _ (by simp)).trans (zo _ _)
 have V:W.heap[w.heap.size+1]?=some (.cells #[.int .i64 0,.slice none 0 0] 43 (0,0)):=by
  have:=zo (w.alloc (.cells (mcells (bs m.name) (.slice k m.imports.length l) (.slice g m.vars.length i) (.slice o m.procs.length p) (.slice e m.body.length f)) 36)) (.cells #[.int .i64 0,.slice none 0 0] 43)
  rw[a]
  simpa using this
 have J:=(u.block t a9).trans h.blk
 have k1:W.cell? ⟨t,1,none⟩=some (.map N):=(za J).trans rfl
 have km:W.cell? ⟨w.heap.size,0,none⟩=some (.string (bs m.name)):=(za G).trans rfl
 have Y:∀n,(Instr.lookup 26 (.map N) (.string (bs m.name)) false).run Tryz.prog (W.drewN n)=.ok (.pointer (some ⟨lo.lb,0,none⟩)) (W.drewN n):=fun n=>by
  have:=((h.on u).on (below_drewN (Below.refl W.heap.size W) n)).look m.name (by omega)
  rw[O]at this
  exact this
 have a6:=zh Z
 have a7:=zh z.sml
 have a3:=zh u
 have S:=zh G
 have a5:=zh V
 have b4:=zh J
 have HM:=zh z
 have b5:=zh h
 have T:=zh a0
 have b1:t<W.heap.size:=by omega
 have b0:w.heap.size<W.heap.size:=by omega
 unfold mcells at *
 obtain⟨A,x⟩:∃A,A=bs m.name:=⟨_,rfl⟩
 obtain⟨Sn,U⟩:∃Sn,Sn=Tp.seenW ofS P:=⟨_,rfl⟩
 have R:Hid (∀r K,Below w.heap.size w r->SeenV r (.map (some K)) Sn->Calls Tryz.prog 37 #[.agg #[.string A,.slice k m.imports.length l,.slice g m.vars.length i,.slice o m.procs.length p,.slice e m.body.length f],.map (some K)] r (CheckP r (Tp.check m Sn))):=fun r K a8 a1=>by
  have:=yW a7.out (a6.out.up a8) a1
  unfold mcells at this
  rw[x]
  exact this
 rw[<-x]at a km Y S ⊢
 have b2:Hid (A=bs m.name):=x
 have b3:Hid (Sn=Tp.seenW ofS P):=U
 clear Z z J G V u a0 x U h O
 obtain⟨il,F⟩:∃il,il=m.imports.length:=⟨_,rfl⟩
 obtain⟨gl,E⟩:∃gl,gl=m.vars.length:=⟨_,rfl⟩
 obtain⟨pl,H⟩:∃pl,pl=m.procs.length:=⟨_,rfl⟩
 obtain⟨bl,C⟩:∃bl,bl=m.body.length:=⟨_,rfl⟩
 rw[<-F,<-E,<-H,<-C]at a S R ⊢
 have HQ:=zh (And.intro F (And.intro E (And.intro H C)))
 clear F E H C
 go_enter Tryz.func17,Tryz.ntmps17
 go_upto_region 1 with fail
 rw[<-a]
 clear a
 go_quiet (fail)
 obtain⟨s,y⟩:∃s,s=W.drewN nq:=⟨_,rfl⟩
 have e1:s.heap=W.heap:=by rw[y];rfl
 have a2:Hid (Below W.heap.size W s):=by rw[y];exact below_drewN (Below.refl _ _) _
 rw[<-y]
 clear y Y k1 km
 clear R
 obtain⟨b,I⟩:∃b,b=s:=⟨_,rfl⟩
 have Q:Hid (Below W.heap.size W b):=by rw[I];exact a2.out
 rw[<-I]
 clear I
 have d:=(Q.out.block _ (show w.heap.size+1<W.heap.size by have:=T.out;omega)).trans a5.out
 have e0:b.cell? ⟨w.heap.size+1,0,none⟩=some (.int .i64 0):=(za d).trans rfl
 have b6:b.cell? ⟨w.heap.size+1,1,none⟩=some (.slice none 0 0):=(za d).trans rfl
 have ez:∀j,b.frozen? ⟨w.heap.size+1,j,none⟩=false:=fun j=>zi d
 have b7:=zf d
 have B:=zu 1 (.slice none 0 0) (zu 0 (.int .i64 0) d)
 obtain⟨c,q⟩:∃c,c=(b.setCell ⟨w.heap.size+1,0,none⟩ (.int .i64 0)).setCell ⟨w.heap.size+1,1,none⟩ (.slice none 0 0):=⟨_,rfl⟩
 have f0:c.cell? ⟨w.heap.size+1,0,none⟩=some (.int .i64 0):=by rw[q];exact(za B).trans rfl
 have f1:c.cell? ⟨w.heap.size+1,1,none⟩=some (.slice none 0 0):=by rw[q];exact(za B).trans rfl
 have HR:Hid (ErrP w er (.returned (.tuple #[no2,.iface 44 (.int .i64 9)])) c):=by
  have hx:Ext (w.heap.size+1) b c:=by rw[q];exact((Ext.refl _ _).set 0 _).set 1 _
  have hb:Below w.heap.size w c:=by
   rw[q]
   exact zq (zq (a3.out.trans (Q.out.mono (by have:=T.out;omega))) (by omega) 0 _) (by omega) 1 _
  refine⟨hb,_,rfl,?_⟩
  rw[a4.out];exact rfl
 clear d B
 go_wp2_with fail
 rw[<-q]
 exact bodyPost_ret (v:=.tuple #[no2,.iface 44 (.int .i64 9)]) (by simp[results,Tryz.results17,go_sem,no2,f0,f1]) rfl HR.out
end Go.Proofs.YtibncofnnlbmcaaGreatDoor
namespace Go.Proofs.YtibncofnnlbmcaaGreatDoor
open Go.RowKit
open Tp (Bs)
theorem indexT2 {w:World}{a:Option Addr}{cap:Nat}{l:List Bs}{p:Bs->Bool}{h:FuncId}{c1 c2:Value}(s:StrsAt w l a)(J:l.length<=1000000)(F:∀(args:Array Value) (w:World),(callFunc h args).run Tryz.prog w=.ok (.enter h args) w)
  (hd:∀W (x:Bs),x∈l->Below w.heap.size w W->Calls Tryz.prog h #[.string (bs x),c1,c2] W fun e w'=>e=.returned (.bool (p x))/\Below W.heap.size W w') :
  Calls Tryz.prog 89 #[.slice a l.length cap,.func (.func h) #[] #[c1,c2]] w fun e w'=>(∃k:Int,e=.returned (.int .i64 k)/\(decide (0<=k)=l.any p))/\Below w.heap.size w w':=by
 have H:(l.length:Int)<=1000000:=by omega
 have y:=zh s
 have A:=zh hd
 clear s hd
 go_enter Tryz.func89,Tryz.ntmps89
 go_wp2_with fail
 go_loopg [8] l.length (fun k D wr=>∃i:Nat,i<=l.length/\k=l.length-i/\D=.int .i64 (i:Int)/\Hid ((l.take i).any p=false)/\Hid (Below w.heap.size w wr))
 case atStart=>exact⟨0,by omega,by omega,rfl,rfl,Below.refl _ _⟩
 case round =>
  obtain⟨i,G,I,rfl,m,b⟩:=hrel
  by_cases f:i<l.length
  ·have t:(i:Int)<(l.length:Int):=by omega
   obtain⟨g,q,rfl,z,o⟩:=y.out.c i f
   have C:wr.cell? ⟨g,q+i,none⟩=some (.string (bs l[i])):=(b.out.cell (p:=⟨g,q+i,none⟩) z).trans o
   clear o
   have E:g<wr.heap.size:=zg C
   have B:=zh (A.out wr l[i] (List.getElem_mem f) b.out)
   have v:Hid ((l.take (i+1)).any p=p l[i]):=by
    show _=_
    rw[List.take_succ_eq_append_getElem f,List.any_append,m.out];simp
   have u:Hid (p l[i]=true->l.any p=true):=fun e=>List.any_eq_true.2 ⟨_,List.getElem_mem f,e⟩
   generalize p l[i]=d at *
   generalize l[i]=x at *
   clear m
   go_wp2_with fail
   refine B.out.mono ?_
   rintro e K⟨rfl,r⟩
   have n:=zh (b.out.trans (r.mono b.out.size))
   clear r
   cases d with
   |true =>
    have j:=zh (u.out rfl)
    go_wp2_with fail
    go_ret
    refine⟨⟨_,rfl,?_⟩,n.out⟩
    rw[j.out]
    exact decide_eq_true (by omega)
   |false =>
    go_wp2_with fail
    go_roundg (l.length-(i+1))
    case measure=>omega
    case rel=>exact⟨i+1,by omega,rfl,by go_num,v,n⟩
  ·have t:¬(i:Int)<(l.length:Int):=by omega
   have j:Hid (l.any p=false):=by
    have:=m.out
    rw[List.take_of_length_le (by omega)]at this
    exact this
   go_wp2_with fail
   go_ret
   refine⟨⟨_,rfl,?_⟩,b.out⟩
   rw[j.out]
   rfl
theorem containsT2 {w:World}{a:Option Addr}{cap:Nat}{l:List Bs}{p:Bs->Bool}{b:FuncId}{c1 c2:Value}(d:StrsAt w l a)(j:l.length<=1000000)(c:∀(args:Array Value) (w:World),(callFunc b args).run Tryz.prog w=.ok (.enter b args) w)
  (hd:∀W (x:Bs),x∈l->Below w.heap.size w W->Calls Tryz.prog b #[.string (bs x),c1,c2] W fun e w'=>e=.returned (.bool (p x))/\Below W.heap.size W w') :
  Calls Tryz.prog 44 #[.slice a l.length cap,.func (.func b) #[] #[c1,c2]] w fun e w'=>e=.returned (.bool (l.any p))/\Below w.heap.size w w':=by
 have g:=zh (indexT2 (cap:=cap) d j c hd)
 clear d hd c
 go_enter Tryz.func44,Tryz.ntmps44
 go_wp2_with fail
 refine g.out.mono ?_
 rintro e m⟨⟨k,rfl,f⟩,i⟩
 have h:=zh f
 clear f
 go_wp2_with fail
 go_ret
 exact⟨by rw[<-h.out];rfl,i⟩
theorem indexT3 {w:World}{a:Option Addr}{cap:Nat}{l:List Bs}{p:Bs->Bool}{h:FuncId}{c1 c2 c3:Value}(s:StrsAt w l a)(J:l.length<=1000000)(F:∀(args:Array Value) (w:World),(callFunc h args).run Tryz.prog w=.ok (.enter h args) w)
  (hd:∀W (x:Bs),x∈l->Below w.heap.size w W->Calls Tryz.prog h #[.string (bs x),c1,c2,c3] W fun e w'=>e=.returned (.bool (p x))/\Below W.heap.size W w') :
  Calls Tryz.prog 89 #[.slice a l.length cap,.func (.func h) #[] #[c1,c2,c3]] w fun e w'=>(∃k:Int,e=.returned (.int .i64 k)/\(decide (0<=k)=l.any p))/\Below w.heap.size w w':=by
 have H:(l.length:Int)<=1000000:=by omega
 have y:=zh s
 have A:=zh hd
 clear s hd
 go_enter Tryz.func89,Tryz.ntmps89
 go_wp2_with fail
 go_loopg [8] l.length (fun k D wr=>∃i:Nat,i<=l.length/\k=l.length-i/\D=.int .i64 (i:Int)/\Hid ((l.take i).any p=false)/\Hid (Below w.heap.size w wr))
 case atStart=>exact⟨0,by omega,by omega,rfl,rfl,Below.refl _ _⟩
 case round =>
  obtain⟨i,G,I,rfl,m,b⟩:=hrel
  by_cases f:i<l.length
  ·have t:(i:Int)<(l.length:Int):=by omega
   obtain⟨g,q,rfl,z,o⟩:=y.out.c i f
   have C:wr.cell? ⟨g,q+i,none⟩=some (.string (bs l[i])):=(b.out.cell (p:=⟨g,q+i,none⟩) z).trans o
   clear o
   have E:g<wr.heap.size:=zg C
   have B:=zh (A.out wr l[i] (List.getElem_mem f) b.out)
   have v:Hid ((l.take (i+1)).any p=p l[i]):=by
    show _=_
    rw[List.take_succ_eq_append_getElem f,List.any_append,m.out];simp
   have u:Hid (p l[i]=true->l.any p=true):=fun e=>List.any_eq_true.2 ⟨_,List.getElem_mem f,e⟩
   generalize p l[i]=d at *
   generalize l[i]=x at *
   clear m
   go_wp2_with fail
   refine B.out.mono ?_
   rintro e K⟨rfl,r⟩
   have n:=zh (b.out.trans (r.mono b.out.size))
   clear r
   cases d with
   |true =>
    have j:=zh (u.out rfl)
    go_wp2_with fail
    go_ret
    refine⟨⟨_,rfl,?_⟩,n.out⟩
    rw[j.out]
    exact decide_eq_true (by omega)
   |false =>
    go_wp2_with fail
    go_roundg (l.length-(i+1))
    case measure=>omega
    case rel=>exact⟨i+1,by omega,rfl,by go_num,v,n⟩
  ·have t:¬(i:Int)<(l.length:Int):=by omega
   have j:Hid (l.any p=false):=by
    have:=m.out
    rw[List.take_of_length_le (by omega)]at this
    exact this
   go_wp2_with fail
   go_ret
   refine⟨⟨_,rfl,?_⟩,b.out⟩
   rw[j.out]
   rfl
theorem containsT3 {w:World}{a:Option Addr}{cap:Nat}{l:List Bs}{p:Bs->Bool}{b:FuncId}{c1 c2 c3:Value}(d:StrsAt w l a)(j:l.length<=1000000)(c:∀(args:Array Value) (w:World),(callFunc b args).run Tryz.prog w=.ok (.enter b args) w)
  (hd:∀W (x:Bs),x∈l->Below w.heap.size w W->Calls Tryz.prog b #[.string (bs x),c1,c2,c3] W fun e w'=>e=.returned (.bool (p x))/\Below W.heap.size W w') :
  Calls Tryz.prog 44 #[.slice a l.length cap,.func (.func b) #[] #[c1,c2,c3]] w fun e w'=>e=.returned (.bool (l.any p))/\Below w.heap.size w w':=by
 have g:=zh (indexT3 (cap:=cap) d j c hd)
 clear d hd c
 go_enter Tryz.func44,Tryz.ntmps44
 go_wp2_with fail
 refine g.out.mono ?_
 rintro e m⟨⟨k,rfl,f⟩,i⟩
 have h:=zh f
 clear f
 go_wp2_with fail
 go_ret
 exact⟨by rw[<-h.out];rfl,i⟩
end Go.Proofs.YtibncofnnlbmcaaGreatDoor
