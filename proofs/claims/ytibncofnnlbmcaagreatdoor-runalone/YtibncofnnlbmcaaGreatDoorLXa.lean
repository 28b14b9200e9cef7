import Derived.Test.YtibncofnnlbmcaaGreatDoorLEb
import Derived.Test.YtibncofnnlbmcaaGreatDoorLAe
import Derived.Sort.OwnSorted
import Derived.Shelf.Slices.In.SortNone
set_option maxRecDepth 100000
set_option maxHeartbeats 4000000
namespace Tp
def NR (qn:Bs) (l:List R):Prop:=∀r∈l,r.mod≠qn
theorem NR.app {d:Bs}{a b:List R}(h:NR d (a++b)):NR d a/\NR d b:=⟨fun r c=>h r (List.mem_append_left _ c),fun r c=>h r (List.mem_append_right _ c)⟩
def Inv (qn:Bs) (w:List Pt):Prop:=∀p∈w,p.m.name≠qn/\(∀c∈p.m.procs,NR qn (rs c.body))/\qn ∉ p.m.imports
def Rs.add (s:Rs) (q:Pt):Rs:={ s with w:=q :: s.w }
def Al {α:Type}(q:Pt) (P:α->Prop) (f:Ru α):Prop:=∀s,Inv q.m.name s.w->match f s with
 | .ok v s1=>f (s.add q)=.ok v (s1.add q)/\Inv q.m.name s1.w/\P v
 | .stop way s1=>f (s.add q)=.stop way (s1.add q)/\Inv q.m.name s1.w
 | .gas=>f (s.add q)=.gas
abbrev Tr {α:Type}:α->Prop:=fun _=>True
theorem Al.pure {α:Type}{q:Pt}{P:α->Prop}{v:α}(h:P v):Al q P (Ru.pure v):=fun _ a=>⟨rfl,a,h⟩
theorem Al.stop {α:Type}{q:Pt}{P:α->Prop}(a:Nat):Al q P (Ru.stop a:Ru α):=fun _ b=>⟨rfl,b⟩
theorem Al.out {α:Type}{q:Pt}{P:α->Prop}:Al q P (Ru.out:Ru α):=fun _ _=>rfl
theorem Al.bind {α β:Type}{q:Pt}{P:α->Prop}{Q:β->Prop}{f:Ru α}{g:α->Ru β}(b:Al q P f)(c:∀v,P v->Al q Q (g v)):Al q Q (f.bind g):=by
 intro s d
 have h:=b s d
 unfold Ru.bind
 cases a:f s with
 |ok v s1 =>
  rw[a]at h
  simp only at h ⊢
  rw[h.1]
  exact c v h.2.2 s1 h.2.1
 |stop way s1=>rw[a]at h;simp only at h ⊢;rw[h.1];exact⟨rfl,h.2⟩
 |gas=>rw[a]at h;simp only at h ⊢;rw[h]
theorem Al.ite {α:Type}{q:Pt}{P:α->Prop}{p:Prop}[Decidable p]{f g:Ru α}(a:p->Al q P f)(b:¬p->Al q P g):Al q P (if p then f else g):=by
 split
 ·exact a (by assumption)
 ·exact b (by assumption)
theorem Al.tick {q:Pt}:Al q Tr tick:=by
 intro s a
 unfold Tp.tick
 cases b:s.left with
 |zero =>
  have:(s.add q).left=0:=b
  simp only[this]
  exact⟨trivial,a⟩
 |succ n =>
  have:(s.add q).left=n+1:=b
  simp only[this]
  exact⟨rfl,a,trivial⟩
theorem Al.tellN {q:Pt}(n:Int):Al q Tr (tellN n):=by
 intro s a
 unfold Tp.tellN
 have:(s.add q).out=s.out:=rfl
 rw[this]
 by_cases h:s.out.length<200
 ·rw[if_pos h,if_pos h];exact⟨rfl,a,trivial⟩
 ·rw[if_neg h,if_neg h];exact⟨rfl,a⟩
theorem part_add {q:Pt}{w:List Pt}{md:Bs}(h:md≠q.m.name):partOf (q :: w) md=partOf w md:=by
 unfold partOf
 rw[List.find?_cons_of_neg (by simpa using fun e=>h e.symm)]
theorem Al.getV {q:Pt}{md:Bs}(h:md≠q.m.name)(nm:Bs):Al q Tr (getV md nm):=by
 intro s a
 unfold Tp.getV
 have:(s.add q).w=q :: s.w:=rfl
 simp only[this,part_add h]
 exact⟨trivial,a,trivial⟩
theorem Al.procOf {q:Pt}{md:Bs}(h:md≠q.m.name)(nm:Bs):Al q (fun p=>∀c,p=some c->NR q.m.name (rs c.body)) (procOf md nm):=by
 intro s d
 unfold Tp.procOf
 have:(s.add q).w=q :: s.w:=rfl
 simp only[this,part_add h]
 refine⟨trivial,d,fun c a=>?_⟩
 cases b:partOf s.w md with
 |none=>rw[b]at a;cases a
 |some pt =>
  rw[b]at a
  simp only[Option.bind_some]at a
  exact(d pt (List.mem_of_find?_eq_some b)).2.1 c (List.mem_of_find?_eq_some a)
theorem Al.setV {q:Pt}{md:Bs}(h:md≠q.m.name)(nm:Bs)(l:List Int):Al q Tr (setV md nm l):=by
 intro s b
 unfold Tp.setV
 refine⟨?_,fun p c=>?_,trivial⟩
 ·have f:¬q.m.name=md:=fun e=>h e.symm
  simp[Rs.add,f]
 ·simp only[List.mem_map]at c
  obtain⟨d,a,rfl⟩:=c
  split
  ·exact b d a
  ·exact b d a
structure AlAll (q:Pt) (n:Nat):Prop where
 ex:∀k md own l,md≠q.m.name->NR q.m.name (rx l)->Al q Tr (evX n k md own l)
 exs:∀k md own l,md≠q.m.name->NR q.m.name (rx l)->Al q Tr (evs n k md own l)
 cl:∀k md p vs,md≠q.m.name->NR q.m.name (rs p.body)->Al q Tr (callP n k md p vs)
 ss:∀k md own l,md≠q.m.name->NR q.m.name (rs l)->Al q Tr (goS n k md own l)
 s1:∀k md own x,md≠q.m.name->NR q.m.name (rs [x])->Al q Tr (go1 n k md own x)
 wh:∀k md own c b,md≠q.m.name->NR q.m.name (rx c)->NR q.m.name (rs b)->Al q Tr (goW n k md own c b)
theorem al_all (q:Pt):∀n,AlAll q n:=by
 intro n
 induction n with
 |zero=>exact⟨fun _ _ _ _ _ _=>by rw[evX.eq_1];exact Al.out,fun _ _ _ _ _ _=>by rw[evs.eq_1];exact Al.out,fun _ _ _ _ _ _=>by rw[callP.eq_1];exact Al.out,fun _ _ _ _ _ _=>by rw[goS.eq_1];exact Al.out,fun _ _ _ _ _ _=>by rw[go1.eq_1];exact Al.out,fun _ _ _ _ _ _ _ _=>by rw[goW.eq_1];exact Al.out⟩
 |succ n ih =>
  refine⟨fun k md own l d e=>?_,fun k md own l d e=>?_,fun k md p vs d e=>?_,fun k md own l d e=>?_,fun k md own x d e=>?_,fun k md own c b d j A=>?_⟩
  ·cases l with
   |nil=>rw[evX.eq_2];exact Al.pure trivial
   |cons x t =>
    obtain⟨code,pos,L,m,nm,M,K,ri,y⟩:=x
    rw[rx]at e
    obtain⟨e,_⟩:=e.app
    obtain⟨e,C⟩:=e.app
    obtain⟨e,s⟩:=e.app
    obtain⟨e,o⟩:=e.app
    have g:(code=2\/code=3\/code=6)->(if m=[] then md else m)≠q.m.name:=by
     intro j
     split
     ·exact d
     ·rw[if_pos j]at e
      exact e ⟨code,pos,m,nm,y.length⟩ (by simp)
    rw[evX.eq_3]
    refine Al.ite (fun _=>Al.pure trivial) fun _=>Al.ite (fun G=>?_) fun _=>Al.ite (fun H=>(ih.ex _ _ _ _ d o).bind fun i _=>(Al.getV (g (Or.inr (Or.inl H))) _).bind fun l _=>Al.ite (fun _=>Al.pure trivial) fun _=>Al.stop _) fun _=>Al.ite (fun _=>(ih.ex _ _ _ _ d o).bind fun v _=>Al.pure trivial) fun _=>Al.ite (fun _=>(ih.ex _ _ _ _ d o).bind fun a _=>Al.ite (fun _=>Al.ite (fun _=>Al.pure trivial) fun _=>(ih.ex _ _ _ _ d s).bind fun b _=>Al.pure trivial) fun _=>Al.ite (fun _=>Al.ite (fun _=>Al.pure trivial) fun _=>(ih.ex _ _ _ _ d s).bind fun b _=>Al.pure trivial) fun _=>(ih.ex _ _ _ _ d s).bind fun b _=>?_) fun _=>Al.ite (fun z=>(ih.exs _ _ _ _ d C).bind fun vs _=>(Al.procOf (g (Or.inr (Or.inr z))) _).bind fun p I=>?_) fun _=>Al.pure trivial
    ·have B:=g (Or.inl G)
     refine Al.ite (fun h=>?_) fun h=>?_
     ·simp only
      split
      ·exact Al.pure trivial
      ·exact(Al.getV d _).bind fun _ _=>Al.pure trivial
     ·simp only[if_neg h]at B
      exact(Al.getV B _).bind fun _ _=>Al.pure trivial
    ·split
     ·exact Al.pure trivial
     ·exact Al.stop _
    ·cases p with
     |none=>exact Al.pure trivial
     |some p=>exact ih.cl _ _ _ _ (g (Or.inr (Or.inr z))) (I p rfl)
  ·cases l with
   |nil=>rw[evs.eq_2];exact Al.pure trivial
   |cons x t =>
    have u:rx (x :: t)=rx [x]++rx t:=by obtain⟨code,pos,L,m,nm,M,K,ri,y⟩:=x;simp[rx]
    rw[u]at e
    rw[evs.eq_3]
    exact(ih.ex _ _ _ _ d e.app.1).bind fun v _=>(ih.exs _ _ _ _ d e.app.2).bind fun vs _=>Al.pure trivial
  ·rw[callP.eq_2];exact Al.ite (fun _=>Al.stop _) fun _=>(ih.ss _ _ _ _ d e).bind fun r _=>Al.pure trivial
  ·cases l with
   |nil=>rw[goS.eq_2];exact Al.pure trivial
   |cons x t =>
    have u:rs (x :: t)=rs [x]++rs t:=by obtain⟨code,pos,nm,J,O,N,F⟩:=x;simp[rs]
    rw[u]at e
    rw[goS.eq_3]
    refine Al.tick.bind fun _ _=>(ih.s1 _ _ _ _ d e.app.1).bind fun r _=>?_
    split
    ·exact Al.pure trivial
    ·exact ih.ss _ _ _ _ d e.app.2
  ·obtain⟨code,pos,nm,J,O,N,F⟩:=x
   rw[rs]at e
   obtain⟨e,_⟩:=e.app
   obtain⟨e,D⟩:=e.app
   obtain⟨e,w⟩:=e.app
   obtain⟨e,f⟩:=e.app
   obtain⟨_,E⟩:=e.app
   rw[go1.eq_2]
   refine Al.ite (fun _=>Al.ite (fun _=>(ih.ex _ _ _ _ d f).bind fun v _=>?_) fun _=>(ih.ex _ _ _ _ d E).bind fun i _=>(ih.ex _ _ _ _ d f).bind fun v _=>(Al.getV d _).bind fun l _=>Al.ite (fun _=>(Al.setV d _ _).bind fun _ _=>Al.pure trivial) fun _=>Al.stop _) fun _=>Al.ite (fun _=>(ih.ex _ _ _ _ d f).bind fun v _=>Al.ite (fun _=>ih.ss _ _ _ _ d D) fun _=>ih.ss _ _ _ _ d w) fun _=>Al.ite (fun _=>ih.wh _ _ _ _ _ d f w) fun _=>Al.ite (fun _=>(ih.ex _ _ _ _ d f).bind fun v _=>Al.pure trivial) fun _=>Al.ite (fun _=>(ih.ex _ _ _ _ d f).bind fun v _=>(Al.tellN _).bind fun _ _=>Al.pure trivial) fun _=>(ih.ex _ _ _ _ d f).bind fun _ _=>Al.pure trivial
   simp only
   split
   ·exact Al.pure trivial
   ·exact(Al.setV d _ _).bind fun _ _=>Al.pure trivial
  ·rw[goW.eq_2]
   refine(ih.ex _ _ _ _ d j).bind fun v _=>Al.ite (fun _=>Al.pure trivial) fun _=>(ih.ss _ _ _ _ d A).bind fun r _=>?_
   split
   ·exact Al.pure trivial
   ·exact Al.tick.bind fun _ _=>ih.wh _ _ _ _ _ d j A
end Tp
namespace Tp
theorem check_names {m:M}{b:Seen}{a:Bs}(h:check m b=none)(k:a≠[])(i:a ∉ m.imports):(∀c∈m.procs,NR a (rs c.body))/\NR a (rs m.body):=by
 have key:∀own l,l.findSome? (judge m own b)=none->NR a l:=by
  intro own l j r n e
  have:=List.findSome?_eq_none_iff.1 j r n
  unfold judge stand at this
  rw[e,if_pos k,if_neg i]at this
  cases this
 unfold check at h
 simp only[Option.or_eq_none_iff]at h
 obtain⟨_,_,d,f⟩:=h
 refine⟨fun c g=>?_,key _ _ f⟩
 have:=List.findSome?_eq_none_iff.1 d c g
 unfold checkP at this
 rw[Option.or_eq_none_iff]at this
 exact key _ _ this.2
theorem seen_add {a:M->List Sy}{q:Pt}{w:List Pt}{n:Bs}(h:n≠q.m.name):seenW a (q :: w) n=seenW a w n:=by
 unfold seenW
 rw[part_add h]
theorem goS_any {a:Nat}{w:List Pt}{l:List S}{fuel:Nat}{md:Bs}{own:Own}{out:List Int}(h:gasOf w l fuel<=a):goS a 0 md own l ⟨w,fuel,out⟩=goS (gasOf w l fuel) 0 md own l ⟨w,fuel,out⟩:=by
 obtain⟨d,rfl⟩:=Nat.le.dest h
 exact goS_more goS_enough
theorem load_alone {b:M->List Sy}{q:Pt}{w:List Pt}{m:M}{f:Nat}(C:q.m.name≠[])(o:Inv q.m.name w)(j:m.name≠q.m.name)(k:q.m.name ∉ m.imports)(d:(loadW b (q :: w) m f).err≠some (12,none)) :
  loadW b (q :: w) m f=⟨q :: (loadW b w m f).w,(loadW b w m f).e,(loadW b w m f).n,(loadW b w m f).err⟩/\Inv q.m.name (loadW b w m f).w:=by
 have z:check m (seenW b (q :: w))=check m (seenW b w):=jI fun n A=>seen_add fun e=>k (e ▸ A)
 unfold loadW at d ⊢
 rw[part_add j,z]at d ⊢
 by_cases g:(partOf w m.name).isSome
 ·rw[if_pos g,if_pos g];exact⟨rfl,o⟩
 rw[if_neg g]at d
 rw[if_neg g,if_neg g]
 cases s:check m (seenW b w) with
 |some e=>exact⟨rfl,o⟩
 |none =>
  rw[s]at d
  simp only at d ⊢
  by_cases i:10<=(q :: w).length
  ·rw[if_pos i]at d;exact absurd rfl d
  rw[if_neg i,if_neg (by simp at i;omega)]
  obtain⟨D,E⟩:=check_names s C k
  have u:Inv q.m.name (w++[⟨m,fresh m⟩]):=by
   intro p B
   rcases List.mem_append.1 B with h|h
   ·exact o p h
   ·rw[List.mem_singleton]at h
    subst h
    exact⟨j,D,k⟩
  have x:=goS_any (a:=gasOf (w++[⟨m,fresh m⟩]) m.body f+gasOf (q :: w++[⟨m,fresh m⟩]) m.body f) (w:=w++[⟨m,fresh m⟩]) (l:=m.body) (fuel:=f) (md:=m.name) (own:=fun _=>none) (out:=[]) (by omega)
  have y:=goS_any (a:=gasOf (w++[⟨m,fresh m⟩]) m.body f+gasOf (q :: w++[⟨m,fresh m⟩]) m.body f) (w:=q :: w++[⟨m,fresh m⟩]) (l:=m.body) (fuel:=f) (md:=m.name) (own:=fun _=>none) (out:=[]) (by omega)
  have c:=(al_all q (gasOf (w++[⟨m,fresh m⟩]) m.body f+gasOf (q :: w++[⟨m,fresh m⟩]) m.body f)).ss 0 m.name (fun _=>none) m.body j E ⟨w++[⟨m,fresh m⟩],f,[]⟩ u
  have t:(⟨w++[⟨m,fresh m⟩],f,[]⟩:Rs).add q=⟨q :: w++[⟨m,fresh m⟩],f,[]⟩:=rfl
  rw[t,x,y]at c
  cases r:goS (gasOf (w++[⟨m,fresh m⟩]) m.body f) 0 m.name (fun _=>none) m.body ⟨w++[⟨m,fresh m⟩],f,[]⟩ with
  |ok v s1=>rw[r]at c;simp only at c;rw[c.1];exact⟨rfl,c.2.1⟩
  |stop way s1=>rw[r]at c;simp only at c;rw[c.1];exact⟨rfl,c.2⟩
  |gas=>exact absurd r goS_enough
theorem call_alone {q:Pt}{w:List Pt}{md pn:Bs}{args:List Int}{f:Nat}(b:Inv q.m.name w)(r:md≠q.m.name) :
  callW (q :: w) md pn args f=⟨q :: (callW w md pn args f).w,(callW w md pn args f).e,(callW w md pn args f).n,(callW w md pn args f).err⟩/\Inv q.m.name (callW w md pn args f).w:=by
 unfold callW
 rw[part_add r]
 cases z:(partOf w md).bind fun p=>p.m.procs.find? fun c=>c.name==pn&&c.seen with
 |none=>exact⟨rfl,b⟩
 |some c =>
  simp only
  by_cases g:c.params.length≠args.length
  ·rw[if_pos g,if_pos g];exact⟨rfl,b⟩
  rw[if_neg g,if_neg g]
  obtain⟨k,u,x⟩:=Option.bind_eq_some_iff.1 z
  have h:=List.mem_of_find?_eq_some u
  have i:=List.mem_of_find?_eq_some x
  have l:SizeOf.sizeOf c.body<=bodySz w:=bodySz_bd w 0 [] k h c i
  have t:SizeOf.sizeOf c.body<=bodySz (q :: w):=bodySz_bd (q :: w) 0 [] k (by simp[h]) c i
  have y:=xz (d:=nd (bodySz (q :: w)) f 0) (callP_enough (fuel:=f) (md:=md) (vs:=args) (out:=[]) l)
  have o:=xz (d:=nd (bodySz w) f 0) (callP_enough (fuel:=f) (md:=md) (vs:=args) (out:=[]) t)
  rw[Nat.add_comm]at o
  have a:=(al_all q (nd (bodySz w) f 0+nd (bodySz (q :: w)) f 0)).cl 0 md c args r ((b k h).2.1 c i) ⟨w,f,[]⟩ b
  have s:(⟨w,f,[]⟩:Rs).add q=⟨q :: w,f,[]⟩:=rfl
  rw[s,y,o]at a
  cases j:callP (nd (bodySz w) f 0) 0 md c args ⟨w,f,[]⟩ with
  |ok v s1=>rw[j]at a;simp only at a;rw[a.1];exact⟨rfl,a.2.1⟩
  |stop way s1=>rw[j]at a;simp only at a;rw[a.1];exact⟨rfl,a.2⟩
  |gas=>exact absurd j (callP_enough l)
theorem get_alone {q:Pt}{w:List Pt}{md nm:Bs}(h:md≠q.m.name):getW (q :: w) md nm=getW w md nm:=by
 unfold getW
 rw[part_add h]
theorem leads_alone {q:Pt}{w:List Pt}{a b:Bs}(d:Inv q.m.name w)(f:a≠q.m.name):Leads (q :: w) a b↔Leads w a b:=by
 constructor
 ·intro h
  induction h with
  |refl a=>exact .refl a
  |step hp hc _ ih =>
   rw[part_add f]at hp
   have c:=(d _ (List.mem_of_find?_eq_some hp)).2.2
   exact .step hp hc (ih fun e=>c (e ▸ hc))
 ·intro h
  induction h with
  |refl a=>exact .refl a
  |step hp hc _ ih =>
   have c:=(d _ (List.mem_of_find?_eq_some hp)).2.2
   exact .step ((part_add f).trans hp) hc (ih fun e=>c (e ▸ hc))
theorem swap_alone {d:M->List Sy}{q:Pt}{w:List Pt}{m:M}(s:q.m.name≠[])(f:Inv q.m.name w)(i:m.name≠q.m.name)(h:q.m.name ∉ m.imports)(t:usedR q.m m.name=[]) :
  swapW d (q :: w) m=⟨q :: (swapW d w m).w,(swapW d w m).e,(swapW d w m).n,(swapW d w m).err⟩/\Inv q.m.name (swapW d w m).w:=by
 have r:check m (seenW d (q :: w))=check m (seenW d w):=jI fun n j=>seen_add fun e=>h (e ▸ j)
 unfold swapW
 rw[part_add i,r]
 cases y:partOf w m.name with
 |none=>exact⟨rfl,f⟩
 |some p =>
  simp only
  cases l:check m (seenW d w) with
  |some e=>exact⟨rfl,f⟩
  |none =>
   simp only
   have k:(∃n∈m.imports,Leads (q :: w) n m.name)↔∃n∈m.imports,Leads w n m.name :=
    ⟨fun ⟨c,a,b⟩=>⟨c,a,(leads_alone f (fun e=>h (e ▸ a))).1 b⟩,fun ⟨c,a,b⟩=>⟨c,a,(leads_alone f (fun e=>h (e ▸ a))).2 b⟩⟩
   have j:((q :: w).any fun x=>(usedR x.m m.name).any fun n=>needS (d m) n != needS (d p.m) n)=w.any fun x=>(usedR x.m m.name).any fun n=>needS (d m) n != needS (d p.m) n:=by
    rw[List.any_cons,t]
    simp
   rw[j]
   obtain⟨u,_⟩:=check_names l s h
   by_cases g:∃n∈m.imports,Leads w n m.name
   ·rw[if_pos (k.2 g),if_pos g];exact⟨rfl,f⟩
   rw[if_neg (fun e=>g (k.1 e)),if_neg g]
   split
   ·exact⟨rfl,f⟩
   ·refine⟨?_,fun x g=>?_⟩
    ·simp only[List.map_cons,if_neg (fun e:q.m.name=m.name=>i e.symm)]
    ·simp only[List.mem_map]at g
     obtain⟨v,o,rfl⟩:=g
     split
     ·exact⟨i,u,h⟩
     ·exact f v o
end Tp
namespace Go.Proofs.YtibncofnnlbmcaaGreatDoor
open Go.RowKit Go.Maps
open Tp (Bs X S G Pr Pt Rs Rr Own)
theorem ieq_post {w:World}{a ys:List Int}{A B:Option Addr}{c1 c2:Nat}(p:IntsAt w a A)(r:IntsAt w ys B)(E:a.length<=1000) :
  Calls Tryz.prog 24 #[.slice A a.length c1,.slice B ys.length c2] w fun e w'=>e=.returned (.bool (decide (a=ys)))/\Below w.heap.size w w':=by
 by_cases g:a.length=ys.length
 ·rw[<-g]
  have M:=zh p
  have N:=zh r
  obtain⟨b,j⟩:∃b,b=a.length:=⟨_,rfl⟩
  have V:(b:Int)<=1000:=by omega
  have f:=zh (And.intro j g)
  obtain⟨bb,h⟩:∃bb,bb=decide (a=ys):=⟨_,rfl⟩
  have u:=zh h
  rw[<-h,<-j]
  clear p r g j h E
  go_enter Tryz.func24,Tryz.ntmps24
  go_wp2_with fail
  go_loopg [13] b (fun k Q wr=>∃i:Nat,i<=b/\k=b-i/\Q=.int .i64 (i:Int)/\Hid (∀k,k<i->a[k]?=ys[k]?)/\Hid (Below w.heap.size w wr))
  case atStart=>exact⟨0,by omega,by omega,rfl,fun k D=>by omega,Below.refl _ _⟩
  case round =>
   obtain⟨i,T,D,rfl,z,d⟩:=hrel
   have R:=d.out.size
   by_cases U:i<b
   ·have H:(i:Int)<(b:Int):=by omega
    have S:¬(i:Int)<0:=by omega
    have F:i<a.length:=by have:=f.out.1;omega
    have G:i<ys.length:=by have:=f.out.1;have:=f.out.2;omega
    obtain⟨X,Z,rfl,q1,O⟩:=(M.out.on d.out).c i F
    obtain⟨b2,o2,rfl,q2,P⟩:=(N.out.on d.out).c i G
    have K:Hid (a[i]=ys[i]->∀k,k<i+1->a[k]?=ys[k]?):=by
     intro e k D
     by_cases C:k=i
     ·subst C;rw[List.getElem?_eq_getElem F,List.getElem?_eq_getElem G,e]
     ·exact z.out k (by omega)
    have J:Hid (a[i]≠ys[i]->bb=false):=by
     intro e
     rw[u.out]
     refine decide_eq_false fun q=>e ?_
     subst q
     rfl
    generalize a[i]=x at *
    generalize ys[i]=y at *
    go_upto_region 6 with fail
    go_quiet (fail)
    obtain⟨s,l⟩:∃s,s=wr.drewN nq:=⟨_,rfl⟩
    have t:Hid (Below w.heap.size w s):=by rw[l];exact below_drewN d.out _
    rw[<-l]
    clear l O P
    by_cases v:x=y
    ·subst v
     have I:=zh (K.out rfl)
     go_wp2_with fail
     go_roundg (b-(i+1))
     case measure=>omega
     case rel=>exact⟨i+1,by omega,rfl,by go_num,I,t⟩
    ·have o:=zh (J.out v)
     go_wp2_with fail
     go_ret
     exact⟨by rw[o.out];rfl,t.out⟩
   ·have H:¬(i:Int)<(b:Int):=by omega
    have o:Hid (bb=true):=by
     show bb=true
     rw[u.out]
     refine decide_eq_true (List.ext_getElem? fun k=>?_)
     by_cases L:k<i
     ·exact z.out k L
     ·have Y:=f.out.1
      have C:=f.out.2
      rw[List.getElem?_eq_none (by omega),List.getElem?_eq_none (by omega)]
    go_wp2_with fail
    go_ret
    exact⟨by rw[o.out];rfl,d.out⟩
 ·have W:¬(a.length:Int)=(ys.length:Int):=by omega
  have hd:decide (a=ys)=false:=decide_eq_false fun q=>g (by rw[q])
  rw[hd]
  clear hd g p r E
  generalize a.length=m at *
  generalize ys.length=n at *
  go_enter Tryz.func24,Tryz.ntmps24
  go_wp2_with fail
  go_ret
  exact⟨rfl,Below.refl _ _⟩
end Go.Proofs.YtibncofnnlbmcaaGreatDoor
namespace Go.Proofs.YtibncofnnlbmcaaGreatDoor
open Go.RowKit Go.Sort
open Tp (Bs)
theorem cont_post {w:World}{ns:List (List UInt8)}{d:Option Addr}{f:Nat}(i:StrsAt w ns d)(s:ns.length<=1000000)(x:List UInt8) :
  Calls Tryz.prog 16 #[.slice d ns.length f,.string (bs x)] w fun e w'=>(e=.returned (.bool (decide (x∈ns))))/\w'=w:=by
 by_cases k:ns.length=0
 ·have:=Any.slices_Contains_string_empty Tryz.laysCont d f (bs x) w
  rw[k]
  refine this.mono ?_
  rintro e w'⟨rfl,rfl⟩
  rw[List.eq_nil_of_length_eq_zero k]
  exact⟨by simp,rfl⟩
 ·obtain⟨b,o,rfl,_,_⟩:=i.c 0 (by omega)
  have q:∀j,j<(ns.map bs).length->w.cell? ⟨b,o+j,none⟩=some (.string ((ns.map bs).getD j ByteArray.empty)):=by
   intro j r
   have g:j<ns.length:=by simpa using r
   obtain⟨t,u,m,_,n⟩:=i.c j g
   cases m
   rw[n]
   simp[g]
  have:=Any.slices_Contains_string Tryz.laysCont b o ns.length f (ns.map bs) (bs x) w (by simp) (by omega) q
  refine this.mono ?_
  rintro e w'⟨rfl,rfl⟩
  refine⟨?_,rfl⟩
  have l:∀a c:List UInt8,bs a=bs c->a=c:=fun a c h=>by rw[<-zj a,<-zj c,h]
  have:Lib.containsS (List.take ns.length (ns.map bs)) (bs x)=decide (x∈ns):=by
   rw[List.take_of_length_le (by simp),Bool.eq_iff_iff,Lib.containsS_iff,decide_eq_true_eq,List.mem_map]
   exact⟨fun ⟨a,p,e⟩=>l _ _ e ▸ p,fun h=>⟨x,h,rfl⟩⟩
  rw[this]
end Go.Proofs.YtibncofnnlbmcaaGreatDoor
namespace Go.Proofs.YtibncofnnlbmcaaGreatDoor
open Go.RowKit Go.Maps
open Tp (Bs X S G Pr Pt Rs Rr Own)
theorem ends_post {w:World}{x y:Nat}{a ys:List Int}{c d:Option Addr}{c1 c2:Nat}(p:IntsAt w a c)(q:IntsAt w ys d)(r:a.length<=1000) :
  Calls Tryz.prog 12 #[.agg #[.int .i64 (x:Int),.slice c a.length c1],.agg #[.int .i64 (y:Int),.slice d ys.length c2]] w fun e w'=>e=.returned (.bool (decide (x=y)&&decide (a=ys)))/\Below w.heap.size w w':=by
 obtain⟨w2,b⟩:∃w2,w2=(w.alloc (.cells #[.int .i64 (x:Int),.slice c a.length c1] 43)).alloc (.cells #[.int .i64 (y:Int),.slice d ys.length c2] 43):=⟨_,rfl⟩
 have f:Below w.heap.size w w2:=by rw[b];exact(zb _ _).alloc (by simp) _
 have g:w2.heap[w.heap.size]?=some (.cells #[.int .i64 (x:Int),.slice c a.length c1] 43 (0,0)):=by rw[b];exact(Below.heap_alloc _ _ _ (by simp)).trans (zo _ _)
 have h:w2.heap[w.heap.size+1]?=some (.cells #[.int .i64 (y:Int),.slice d ys.length c2] 43 (0,0)):=by
  have:=zo (w.alloc (.cells #[.int .i64 (x:Int),.slice c a.length c1] 43)) (.cells #[.int .i64 (y:Int),.slice d ys.length c2] 43)
  rw[b];simpa using this
 have j:=zh (ieq_post (c1:=c1) (c2:=c2) (p.on f) (q.on f) r)
 have v:w2.cell? ⟨w.heap.size,0,none⟩=some (.int .i64 (x:Int)):=(za g).trans rfl
 have z:w2.cell? ⟨w.heap.size,1,none⟩=some (.slice c a.length c1):=(za g).trans rfl
 have A:w2.cell? ⟨w.heap.size+1,0,none⟩=some (.int .i64 (y:Int)):=(za h).trans rfl
 have B:w2.cell? ⟨w.heap.size+1,1,none⟩=some (.slice d ys.length c2):=(za h).trans rfl
 have C:=zf g
 have D:=zf h
 have i:=zh f
 obtain⟨bb,l⟩:∃bb,bb=decide (a=ys):=⟨_,rfl⟩
 rw[<-l]at j ⊢
 clear p q r f g h l
 generalize a.length=m at *
 generalize ys.length=n at *
 by_cases o:x=y
 ·subst o
  rw[decide_eq_true rfl,Bool.true_and]
  go_enter Tryz.func12,Tryz.ntmps12
  go_upto_region 1 with fail
  rw[<-b]
  clear b
  go_wp2_with fail
  refine j.out.mono ?_
  rintro e t⟨rfl,k⟩
  have s:Hid (Below w.heap.size w t):=i.out.trans (k.mono i.out.size)
  clear k
  go_wp2_with fail
  go_ret
  exact⟨rfl,s.out⟩
 ·have u:¬(x:Int)=(y:Int):=by omega
  rw[decide_eq_false o,Bool.false_and]
  go_enter Tryz.func12,Tryz.ntmps12
  go_upto_region 1 with fail
  rw[<-b]
  clear b
  go_wp2_with fail
  go_ret
  exact⟨rfl,i.out⟩
end Go.Proofs.YtibncofnnlbmcaaGreatDoor
