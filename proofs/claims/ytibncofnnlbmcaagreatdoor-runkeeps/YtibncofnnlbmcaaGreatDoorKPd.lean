import Derived.Test.YtibncofnnlbmcaaGreatDoorKPc
set_option maxRecDepth 100000
set_option maxHeartbeats 4000000
namespace Tp
def Mo {α:Type}(f f':Ru α):Prop:=∀s,f s≠.gas->f' s=f s
theorem Mo.refl {α:Type}(f:Ru α):Mo f f:=fun _ _=>rfl
theorem Mo.out {α:Type}(f:Ru α):Mo Ru.out f:=fun _ h=>absurd rfl h
theorem Mo.bind {α β:Type}{f b:Ru α}{g c:α->Ru β}(d:Mo f b)(e:∀v,Mo (g v) (c v)):Mo (f.bind g) (b.bind c):=by
 intro s h
 unfold Ru.bind at h ⊢
 cases a:f s with
 |ok v s1=>rw[a]at h;rw[d s (by rw[a];simp),a];exact e v s1 h
 |stop way s1=>rw[d s (by rw[a];simp),a]
 |gas=>rw[a]at h;exact absurd rfl h
theorem Mo.ite {α:Type}{p:Prop}[Decidable p]{f a g b:Ru α}(c:Mo f a)(d:Mo g b):Mo (if p then f else g) (if p then a else b):=by split<;>assumption
structure MoAll (n:Nat):Prop where
 ex:∀k md own l,Mo (evX n k md own l) (evX (n+1) k md own l)
 exs:∀k md own l,Mo (evs n k md own l) (evs (n+1) k md own l)
 cl:∀k md p vs,Mo (callP n k md p vs) (callP (n+1) k md p vs)
 ss:∀k md own l,Mo (goS n k md own l) (goS (n+1) k md own l)
 s1:∀k md own x,Mo (go1 n k md own x) (go1 (n+1) k md own x)
 wh:∀k md own c b,Mo (goW n k md own c b) (goW (n+1) k md own c b)
theorem mo_all:∀n,MoAll n:=by
 intro n
 induction n with
 |zero=>exact⟨fun _ _ _ _=>by rw[evX.eq_1];exact Mo.out _,fun _ _ _ _=>by rw[evs.eq_1];exact Mo.out _,fun _ _ _ _=>by rw[callP.eq_1];exact Mo.out _,fun _ _ _ _=>by rw[goS.eq_1];exact Mo.out _,fun _ _ _ _=>by rw[go1.eq_1];exact Mo.out _,fun _ _ _ _ _=>by rw[goW.eq_1];exact Mo.out _⟩
 |succ n ih =>
  refine⟨fun k md own l=>?_,fun k md own l=>?_,fun k md p vs=>?_,fun k md own l=>?_,fun k md own x=>?_,fun k md own c b=>?_⟩
  ·cases l with
   |nil=>rw[evX.eq_2,evX.eq_2];exact Mo.refl _
   |cons x t =>
    rw[evX.eq_3,evX.eq_3]
    refine Mo.ite (Mo.refl _) (Mo.ite (Mo.refl _) (Mo.ite ((ih.ex _ _ _ _).bind fun i=>Mo.refl _) (Mo.ite ((ih.ex _ _ _ _).bind fun v=>Mo.refl _) (Mo.ite ((ih.ex _ _ _ _).bind fun a=>Mo.ite (Mo.ite (Mo.refl _) ((ih.ex _ _ _ _).bind fun b=>Mo.refl _)) (Mo.ite (Mo.ite (Mo.refl _) ((ih.ex _ _ _ _).bind fun b=>Mo.refl _)) ((ih.ex _ _ _ _).bind fun b=>Mo.refl _))) (Mo.ite ((ih.exs _ _ _ _).bind fun vs=>(Mo.refl _).bind fun p=>?_) (Mo.refl _))))))
    cases p with
    |none=>exact Mo.refl _
    |some p=>exact ih.cl _ _ _ _
  ·cases l with
   |nil=>rw[evs.eq_2,evs.eq_2];exact Mo.refl _
   |cons x t=>rw[evs.eq_3,evs.eq_3];exact(ih.ex _ _ _ _).bind fun v=>(ih.exs _ _ _ _).bind fun vs=>Mo.refl _
  ·rw[callP.eq_2,callP.eq_2];exact Mo.ite (Mo.refl _) ((ih.ss _ _ _ _).bind fun r=>Mo.refl _)
  ·cases l with
   |nil=>rw[goS.eq_2,goS.eq_2];exact Mo.refl _
   |cons x t =>
    rw[goS.eq_3,goS.eq_3]
    refine(Mo.refl _).bind fun _=>(ih.s1 _ _ _ _).bind fun r=>?_
    cases r.2 with
    |some v=>exact Mo.refl _
    |none=>exact ih.ss _ _ _ _
  ·rw[go1.eq_2,go1.eq_2]
   exact Mo.ite (Mo.ite ((ih.ex _ _ _ _).bind fun v=>Mo.refl _) ((ih.ex _ _ _ _).bind fun i=>(ih.ex _ _ _ _).bind fun v=>Mo.refl _)) (Mo.ite ((ih.ex _ _ _ _).bind fun v=>Mo.ite (ih.ss _ _ _ _) (ih.ss _ _ _ _)) (Mo.ite (ih.wh _ _ _ _ _) (Mo.ite ((ih.ex _ _ _ _).bind fun v=>Mo.refl _) (Mo.ite ((ih.ex _ _ _ _).bind fun v=>Mo.refl _) ((ih.ex _ _ _ _).bind fun _=>Mo.refl _)))))
  ·rw[goW.eq_2,goW.eq_2]
   refine(ih.ex _ _ _ _).bind fun v=>Mo.ite (Mo.refl _) ((ih.ss _ _ _ _).bind fun r=>?_)
   cases r.2 with
   |some v=>exact Mo.refl _
   |none=>exact(Mo.refl _).bind fun _=>ih.wh _ _ _ _ _
theorem goS_more {n d k:Nat}{md:Bs}{own:Own}{l:List S}{s:Rs}(h:goS n k md own l s≠.gas):goS (n+d) k md own l s=goS n k md own l s:=by
 induction d with
 |zero=>rfl
 |succ d ih=>rw[<-ih];exact(mo_all (n+d)).ss _ _ _ _ _ (by rw[ih];exact h)
theorem xD {n d k:Nat}{md:Bs}{p:Pr}{vs:List Int}{s:Rs}(h:callP n k md p vs s≠.gas):callP (n+d) k md p vs s=callP n k md p vs s:=by
 induction d with
 |zero=>rfl
 |succ d ih=>rw[<-ih];exact(mo_all (n+d)).cl _ _ _ _ _ (by rw[ih];exact h)
theorem goS_gas {a b k:Nat}{md:Bs}{own:Own}{l:List S}{s:Rs}(c:goS a k md own l s≠.gas)(e:goS b k md own l s≠.gas):goS a k md own l s=goS b k md own l s:=by
 rcases Nat.le_total a b with h|h
 ·obtain⟨d,rfl⟩:=Nat.le.dest h
  exact(goS_more c).symm
 ·obtain⟨d,rfl⟩:=Nat.le.dest h
  exact goS_more e
noncomputable def bodySz (w:List Pt):Nat:=(w.map fun p=>(p.m.procs.map fun q=>SizeOf.sizeOf q.body).sum).sum
theorem mem_sum {l:List Nat}{x:Nat}(h:x∈l):x<=l.sum:=by
 induction l with
 |nil=>cases h
 |cons a t ih =>
  rw[List.sum_cons]
  rcases List.mem_cons.1 h with e|e
  ·omega
  ·have:=ih e;omega
theorem bodySz_bd (w:List Pt)(left:Nat)(out:List Int):Bd (bodySz w) ⟨w,left,out⟩:=by
 intro p a q b
 have c:SizeOf.sizeOf q.body<=(p.m.procs.map fun q=>SizeOf.sizeOf q.body).sum:=mem_sum (List.mem_map.2 ⟨q,b,rfl⟩)
 have d:(p.m.procs.map fun q=>SizeOf.sizeOf q.body).sum<=bodySz w:=mem_sum (List.mem_map.2 ⟨p,a,rfl⟩)
 omega
noncomputable def gasOf (w:List Pt) (l:List S) (fuel:Nat):Nat:=SizeOf.sizeOf l+fuel+nd (bodySz w) fuel 0
theorem goS_enough {w:List Pt}{l:List S}{fuel:Nat}{md:Bs}{own:Own}{out:List Int}:goS (gasOf w l fuel) 0 md own l ⟨w,fuel,out⟩≠.gas:=by
 have:=(go_all (bodySz w) fuel (gasOf w l fuel)).ss 0 md own l ⟨w,fuel,out⟩ (bodySz_bd _ _ _) (Nat.le_refl _) (Nat.le_refl _)
 intro h
 unfold Goes at this
 rw[h]at this
 exact this
structure Ed where
 way:Nat
 out:List Int
deriving DecidableEq
def endOf {α:Type}:Rr α->List Pt×Ed
 | .ok _ s=>(s.w,⟨1,s.out⟩)
 | .stop way s=>(s.w,⟨way,s.out⟩)
 | .gas=>([],⟨0,[]⟩)
def fresh (m:M):Bs->List Int:=fun k=>match m.vars.find? fun g=>g.name==k with
 |some g=>List.replicate (if g.len=0 then 1 else g.len) 0
 |none=>[]
def seenW (ofF:M->List Sy) (w:List Pt):Seen:=fun k=>(partOf w k).map fun p=>ofF p.m
structure Ans where
 w:List Pt
 e:Ed
 n:Int
 err:Ck
def no:Ed:=⟨0,[]⟩
noncomputable def loadW (ofF:M->List Sy) (w:List Pt) (m:M) (fuel:Nat):Ans :=
 if (partOf w m.name).isSome then ⟨w,no,0,some (9,none)⟩
 else match check m (seenW ofF w) with
  |some e=>⟨w,no,0,some e⟩
  |none=>if 10<=w.length then ⟨w,no,0,some (12,none)⟩
   else
    let w1:=w++[⟨m,fresh m⟩]
    let r:=goS (gasOf w1 m.body fuel) 0 m.name (fun _=>none) m.body ⟨w1,fuel,[]⟩
    ⟨(endOf r).1,(endOf r).2,0,none⟩
noncomputable def callW (w:List Pt) (md pn:Bs) (args:List Int) (fuel:Nat):Ans :=
 match (partOf w md).bind fun p=>p.m.procs.find? fun q=>q.name==pn&&q.seen with
 |none=>⟨w,no,0,some (7,none)⟩
 |some q=>if q.params.length≠args.length then ⟨w,no,0,some (2,none)⟩
  else
   let r:=callP (nd (bodySz w) fuel 0) 0 md q args ⟨w,fuel,[]⟩
   ⟨(endOf r).1,(endOf r).2,(match r with | .ok v _=>v|_=>0),none⟩
def getW (w:List Pt) (md nm:Bs):Option (List Int):=(partOf w md).bind fun p=>if p.m.vars.any (fun g=>g.name==nm) then some (p.vars nm) else none
inductive Leads (w:List Pt):Bs->Bs->Prop where
 |refl (a:Bs):Leads w a a
 |step {a b c:Bs} {p:Pt} (hp:partOf w a=some p) (hc:c∈p.m.imports) (h:Leads w c b):Leads w a b
def swapV (old new:M) (had:Bs->List Int):Bs->List Int:=fun k=>match new.vars.find? fun g=>g.name==k with
 |none=>[]
 |some g=>if old.vars.any (fun h=>h.name==k&&h.len==g.len) then had k else fresh new k
open Classical in
noncomputable def swapW (ofF:M->List Sy) (w:List Pt) (m:M):Ans :=
 match partOf w m.name with
 |none=>⟨w,no,0,some (7,none)⟩
 |some p=>match check m (seenW ofF w) with
  |some e=>⟨w,no,0,some e⟩
  |none=>if ∃n∈m.imports,Leads w n m.name then ⟨w,no,0,some (11,none)⟩
   else if w.any fun q=>(usedR q.m m.name).any fun n=>needS (ofF m) n != needS (ofF p.m) n then ⟨w,no,0,some (6,none)⟩
   else ⟨w.map fun q=>if q.m.name=m.name then ⟨m,swapV q.m m q.vars⟩ else q,no,0,none⟩
theorem load_refused {a:M->List Sy}{w:List Pt}{m:M}{fuel:Nat}(h:(loadW a w m fuel).err≠none):(loadW a w m fuel).w=w/\(loadW a w m fuel).e=no/\(loadW a w m fuel).n=0:=by
 unfold loadW at h ⊢
 split
 ·exact⟨rfl,rfl,rfl⟩
 ·rename_i b
  rw[if_neg b]at h
  cases d:check m (seenW a w) with
  |some e=>exact⟨rfl,rfl,rfl⟩
  |none =>
   rw[d]at h
   simp only at h ⊢
   split
   ·exact⟨rfl,rfl,rfl⟩
   ·rename_i c
    rw[if_neg c]at h
    exact absurd rfl h
theorem call_refused {w:List Pt}{md pn:Bs}{args:List Int}{fuel:Nat}(h:(callW w md pn args fuel).err≠none):(callW w md pn args fuel).w=w/\(callW w md pn args fuel).e=no/\(callW w md pn args fuel).n=0:=by
 unfold callW at h ⊢
 split
 ·exact⟨rfl,rfl,rfl⟩
 ·rename_i q b
  rw[b]at h
  simp only at h ⊢
  split
  ·exact⟨rfl,rfl,rfl⟩
  ·rename_i a
   rw[if_neg a]at h
   exact absurd rfl h
theorem swap_refused {a:M->List Sy}{w:List Pt}{m:M}(h:(swapW a w m).err≠none):(swapW a w m).w=w/\(swapW a w m).e=no/\(swapW a w m).n=0:=by
 unfold swapW at h ⊢
 split
 ·exact⟨rfl,rfl,rfl⟩
 ·rename_i p f
  rw[f]at h
  simp only at h ⊢
  cases d:check m (seenW a w) with
  |some e=>exact⟨rfl,rfl,rfl⟩
  |none =>
   rw[d]at h
   simp only at h ⊢
   split
   ·exact⟨rfl,rfl,rfl⟩
   ·rename_i b
    rw[if_neg b]at h
    split
    ·exact⟨rfl,rfl,rfl⟩
    ·rename_i c
     rw[if_neg c]at h
     exact absurd rfl h
theorem imps_congr {own:Bs}{a b:Seen}:∀{l c:List Bs},(∀n∈l,a n=b n)->imps own a c l=imps own b c l:=by
 intro l
 induction l with
 |nil=>intro c _;rfl
 |cons n t ih =>
  intro c h
  rw[imps,imps,h n (by simp),ih (fun k d=>h k (by simp[d]))]
theorem uH {m:M}{own:List Bs}{a b:Seen}(h:∀n∈m.imports,a n=b n)(md nm:Bs):stand m own a md nm=stand m own b md nm:=by
 unfold stand
 by_cases d:md≠[]
 ·rw[if_pos d,if_pos d]
  by_cases c:md∈m.imports
  ·rw[if_pos c,if_pos c,h md c]
  ·rw[if_neg c,if_neg c]
 ·rw[if_neg d,if_neg d]
theorem jJ {m:M}{own:List Bs}{a b:Seen}(h:∀n∈m.imports,a n=b n):judge m own a=judge m own b:=by
 funext r
 unfold judge
 rw[uH h]
theorem kE {m:M}{a b:Seen}(h:∀n∈m.imports,a n=b n):check m a=check m b:=by
 unfold check
 have c:checkP m a=checkP m b:=by
  funext p
  unfold checkP
  rw[jJ h]
 rw[imps_congr h,c,jJ h]
theorem callP_enough {w:List Pt}{p:Pr}{fuel:Nat}{md:Bs}{vs:List Int}{out:List Int}(a:SizeOf.sizeOf p.body<=bodySz w):callP (nd (bodySz w) fuel 0) 0 md p vs ⟨w,fuel,out⟩≠.gas:=by
 have:=(go_all (bodySz w) fuel (nd (bodySz w) fuel 0)).cl 0 md p vs ⟨w,fuel,out⟩ (bodySz_bd _ _ _) (Nat.le_refl _) a (Nat.le_refl _)
 intro h
 unfold Goes at this
 rw[h]at this
 exact this
theorem line_split:∀{a b x y:Bs},(10:UInt8) ∉ a->(10:UInt8) ∉ b->a++10 :: x=b++10 :: y->a=b/\x=y:=by
 intro a
 induction a with
 |nil =>
  intro b x y _ d h
  cases b with
  |nil=>simpa using h
  |cons c t=>simp at h;exact absurd (by simp[h.1]) d
 |cons c a ih =>
  intro b x y f d h
  cases b with
  |nil=>simp at h;exact absurd (by simp[<-h.1]) f
  |cons e b =>
   simp at h
   obtain⟨g,i⟩:=ih (fun q=>f (by simp[q])) (fun q=>d (by simp[q])) h.2
   exact⟨by rw[h.1,g],i⟩
theorem dec_no10 (n:Nat):(10:UInt8) ∉ dec n:=fun h=>by
 have:=(qq n).1 _ h
 revert this
 decide
theorem dec_inj {a b:Nat}(h:dec a=dec b):a=b:=by rw[<-(qq a).2.2,<-(qq b).2.2,h]
theorem y8 (f:Bs)(a:List Bs)(g:(10:UInt8) ∉ f)(i:∀s∈a,(10:UInt8) ∉ s):∃b,wordsL f a=b++[10]/\(10:UInt8) ∉ b:=by
 refine⟨_,rfl,fun h=>?_⟩
 rcases List.mem_append.1 h with h|h
 ·exact g h
 ·simp only[List.mem_flatten,List.mem_map]at h
  obtain⟨l,⟨s,c,rfl⟩,d⟩:=h
  rcases List.mem_cons.1 d with e|e
  ·cases e
  ·exact i s c e
theorem yy {l:List Sy}{n:Bs}{s:Sy}(h:findS l n=some s):s.1=n:=by
 have:=List.find?_some h
 simpa using this
theorem jE (l:List Sy){n:Bs}(h:(10:UInt8) ∉ n):∃b,needS l n=b++[10]/\(10:UInt8) ∉ b:=by
 unfold needS
 cases c:findS l n with
 |none=>exact y8 _ _ (by decide) (by simpa using h)
 |some s =>
  have a:=yy c
  simp only
  unfold lineOf
  split
  ·exact y8 _ _ (by decide) (by simp[a,h,dec_no10])
  ·split
   ·exact y8 _ _ (by decide) (by simp[a,h,dec_no10])
   ·exact y8 _ _ (by decide) (by simp[a,h])
theorem needsS_inj {l g:List Sy}:∀{ns:List Bs},(∀n∈ns,(10:UInt8) ∉ n)->(needsS l ns=needsS g ns↔∀n∈ns,needS l n=needS g n):=by
 intro ns
 induction ns with
 |nil=>intro _;simp[needsS]
 |cons n t ih =>
  intro h
  obtain⟨a,i,j⟩:=jE l (h n (by simp))
  obtain⟨b,m,b2⟩:=jE g (h n (by simp))
  have f:=ih (fun k o=>h k (by simp[o]))
  unfold needsS at f ⊢
  simp only[List.map_cons,List.flatten_cons,List.forall_mem_cons]
  rw[i,m]
  constructor
  ·intro e
   simp only[List.append_assoc,List.singleton_append]at e
   obtain⟨c,d⟩:=line_split j b2 e
   exact⟨by rw[c],f.1 d⟩
  ·rintro⟨c,d⟩
   rw[c,f.2 d]
def OkS (s:Sy):Prop:=(0<=s.2.2->s.2.1=0)/\(s.2.2<0->s.2.2=-1)
theorem symsOf_ok {m:M}:∀s∈symsOf m,OkS s:=by
 intro s a
 unfold symsOf at a
 rcases List.mem_append.1 a with h|h
 ·obtain⟨g,_,rfl⟩:=List.mem_map.1 h
  exact⟨fun h=>by simp[syG]at h,fun _=>rfl⟩
 ·obtain⟨p,_,rfl⟩:=List.mem_map.1 h
  refine⟨fun _=>rfl,fun h=>?_⟩
  simp[syP]at h
  omega
theorem line_inj {s j:Sy}(h:OkS s)(i:OkS j)(o:s.1=j.1)(e:lineOf s=lineOf j):s.2=j.2:=by
 obtain⟨n,a,b⟩:=s
 obtain⟨p,f,g⟩:=j
 simp only at o
 subst o
 unfold OkS at h i
 simp only at h i ⊢
 unfold lineOf at e
 simp only at e
 by_cases c1:0<=b
 ·rw[if_pos c1]at e
  by_cases c:0<=g
  ·rw[if_pos c]at e
   have l:dec b.toNat=dec g.toNat:=by simpa[wordsL] using e
   have:=dec_inj l
   rw[h.1 c1,i.1 c,show b=g by omega]
  ·rw[if_neg c]at e
   by_cases d:0<f
   ·rw[if_pos d]at e;simp[wordsL,wProc,wArr]at e
   ·rw[if_neg d]at e;simp[wordsL,wProc,wInt]at e
 ·rw[if_neg c1]at e
  have m:=h.2 (by omega)
  by_cases c2:0<a
  ·rw[if_pos c2]at e
   by_cases c:0<=g
   ·rw[if_pos c]at e;simp[wordsL,wProc,wArr]at e
   ·rw[if_neg c]at e
    have k:=i.2 (by omega)
    by_cases d:0<f
    ·rw[if_pos d]at e
     have l:dec a=dec f:=by simpa[wordsL] using e
     rw[dec_inj l,m,k]
    ·rw[if_neg d]at e;simp[wordsL,wArr,wInt]at e
  ·rw[if_neg c2]at e
   by_cases c:0<=g
   ·rw[if_pos c]at e;simp[wordsL,wProc,wInt]at e
   ·rw[if_neg c]at e
    have k:=i.2 (by omega)
    by_cases d:0<f
    ·rw[if_pos d]at e;simp[wordsL,wArr,wInt]at e
    ·rw[show a=f by omega,m,k]
theorem vU {s:Sy}{n:Bs}(h:lineOf s=wordsL [110,111,110,101] [n]):False:=by
 unfold lineOf at h
 split at h
 ·simp[wordsL,wProc]at h
 ·split at h
  ·simp[wordsL,wArr]at h
  ·simp[wordsL,wInt]at h
theorem need_same {l c:List Sy}{n:Bs}(f:∀s∈l,OkS s)(d:∀s∈c,OkS s)(e:needS l n=needS c n):(findS l n).map (·.2)=(findS c n).map (·.2):=by
 unfold needS at e
 cases b:findS l n with
 |none =>
  cases a:findS c n with
  |none=>rfl
  |some s'=>rw[b,a]at e;exact(vU e.symm).elim
 |some s =>
  cases a:findS c n with
  |none=>rw[b,a]at e;exact(vU e).elim
  |some s' =>
   rw[b,a]at e
   simp only[Option.map_some,Option.some.injEq]
   exact line_inj (f s (List.mem_of_find?_eq_some b)) (d s' (List.mem_of_find?_eq_some a)) ((yy b).trans (yy a).symm) e
def ms (w:List Pt):List M:=w.map (·.m)
def Ke {α:Type}(f:Ru α):Prop:=∀s,match f s with
 | .ok _ s1=>ms s1.w=ms s.w
 | .stop _ s1=>ms s1.w=ms s.w
 | .gas=>True
theorem Ke.pure {α:Type}(v:α):Ke (Ru.pure v):=fun _=>rfl
theorem Ke.stop {α:Type}(a:Nat):Ke (Ru.stop a:Ru α):=fun _=>rfl
theorem Ke.out {α:Type}:Ke (Ru.out:Ru α):=fun _=>trivial
theorem Ke.bind {α β:Type}{f:Ru α}{g:α->Ru β}(d:Ke f)(e:∀v,Ke (g v)):Ke (f.bind g):=by
 intro s
 have h:=d s
 unfold Ru.bind
 cases c:f s with
 |ok v s1 =>
  rw[c]at h
  have a:=e v s1
  simp only at h ⊢
  cases b:g v s1 with
  |ok u s2=>rw[b]at a;exact a.trans h
  |stop way s2=>rw[b]at a;exact a.trans h
  |gas=>trivial
 |stop way s1=>rw[c]at h;exact h
 |gas=>trivial
theorem Ke.ite {α:Type}{p:Prop}[Decidable p]{f g:Ru α}(a:Ke f)(b:Ke g):Ke (if p then f else g):=by split<;>assumption
theorem Ke.tick:Ke tick:=by
 intro s
 unfold Tp.tick
 cases s.left<;>rfl
theorem Ke.tellN (n:Int):Ke (tellN n):=by
 intro s
 unfold Tp.tellN
 by_cases h:s.out.length<200
 ·rw[if_pos h]
 ·rw[if_neg h]
theorem Ke.getV (md nm:Bs):Ke (getV md nm):=fun _=>rfl
theorem Ke.procOf (md nm:Bs):Ke (procOf md nm):=fun _=>rfl
theorem Ke.setV (md nm:Bs)(l:List Int):Ke (setV md nm l):=by
 intro s
 unfold Tp.setV ms
 simp only[List.map_map]
 apply List.map_congr_left
 intro p _
 simp only[Function.comp]
 split<;>rfl
structure KeAll (n:Nat):Prop where
 ex:∀k md own l,Ke (evX n k md own l)
 exs:∀k md own l,Ke (evs n k md own l)
 cl:∀k md p vs,Ke (callP n k md p vs)
 ss:∀k md own l,Ke (goS n k md own l)
 s1:∀k md own x,Ke (go1 n k md own x)
 wh:∀k md own c b,Ke (goW n k md own c b)
theorem ke_all:∀n,KeAll n:=by
 intro n
 induction n with
 |zero=>exact⟨fun _ _ _ _=>by unfold evX;exact Ke.out,fun _ _ _ _=>by unfold evs;exact Ke.out,fun _ _ _ _=>by unfold callP;exact Ke.out,fun _ _ _ _=>by unfold goS;exact Ke.out,fun _ _ _ _=>by unfold go1;exact Ke.out,fun _ _ _ _ _=>by unfold goW;exact Ke.out⟩
 |succ n ih =>
  refine⟨fun k md own l=>?_,fun k md own l=>?_,fun k md p vs=>?_,fun k md own l=>?_,fun k md own x=>?_,fun k md own c b=>?_⟩
  ·cases l with
   |nil=>unfold evX;exact Ke.pure _
   |cons x t =>
    unfold evX
    refine Ke.ite (Ke.pure _) (Ke.ite (Ke.ite ?_ ((Ke.getV _ _).bind fun _=>Ke.pure _)) (Ke.ite ((ih.ex _ _ _ _).bind fun i=>(Ke.getV _ _).bind fun l=>Ke.ite (Ke.pure _) (Ke.stop _)) (Ke.ite ((ih.ex _ _ _ _).bind fun v=>Ke.pure _) (Ke.ite ((ih.ex _ _ _ _).bind fun a=>Ke.ite (Ke.ite (Ke.pure _) ((ih.ex _ _ _ _).bind fun b=>Ke.pure _)) (Ke.ite (Ke.ite (Ke.pure _) ((ih.ex _ _ _ _).bind fun b=>Ke.pure _)) ((ih.ex _ _ _ _).bind fun b=>?_))) (Ke.ite ((ih.exs _ _ _ _).bind fun vs=>(Ke.procOf _ _).bind fun p=>?_) (Ke.pure _))))))
    ·split
     ·exact Ke.pure _
     ·exact(Ke.getV _ _).bind fun _=>Ke.pure _
    ·split
     ·exact Ke.pure _
     ·exact Ke.stop _
    ·split
     ·exact Ke.pure _
     ·exact ih.cl _ _ _ _
  ·cases l with
   |nil=>unfold evs;exact Ke.pure _
   |cons x t=>unfold evs;exact(ih.ex _ _ _ _).bind fun v=>(ih.exs _ _ _ _).bind fun vs=>Ke.pure _
  ·unfold callP;exact Ke.ite (Ke.stop _) ((ih.ss _ _ _ _).bind fun r=>Ke.pure _)
  ·cases l with
   |nil=>unfold goS;exact Ke.pure _
   |cons x t =>
    unfold goS
    refine Ke.tick.bind fun _=>(ih.s1 _ _ _ _).bind fun r=>?_
    split
    ·exact Ke.pure _
    ·exact ih.ss _ _ _ _
  ·unfold go1
   refine Ke.ite (Ke.ite ((ih.ex _ _ _ _).bind fun v=>?_) ((ih.ex _ _ _ _).bind fun i=>(ih.ex _ _ _ _).bind fun v=>(Ke.getV _ _).bind fun l=>Ke.ite ((Ke.setV _ _ _).bind fun _=>Ke.pure _) (Ke.stop _))) (Ke.ite ((ih.ex _ _ _ _).bind fun v=>Ke.ite (ih.ss _ _ _ _) (ih.ss _ _ _ _)) (Ke.ite (ih.wh _ _ _ _ _) (Ke.ite ((ih.ex _ _ _ _).bind fun v=>Ke.pure _) (Ke.ite ((ih.ex _ _ _ _).bind fun v=>(Ke.tellN _).bind fun _=>Ke.pure _) ((ih.ex _ _ _ _).bind fun _=>Ke.pure _)))))
   split
   ·exact Ke.pure _
   ·exact(Ke.setV _ _ _).bind fun _=>Ke.pure _
  ·unfold goW
   refine(ih.ex _ _ _ _).bind fun v=>Ke.ite (Ke.pure _) ((ih.ss _ _ _ _).bind fun r=>?_)
   split
   ·exact Ke.pure _
   ·exact Ke.tick.bind fun _=>ih.wh _ _ _ _ _
theorem part_ms {w w':List Pt}(h:ms w=ms w')(n:Bs):(partOf w n).map (·.m)=(partOf w' n).map (·.m):=by
 unfold partOf
 have e:∀v:List Pt,(v.find? fun p=>p.m.name==n).map (·.m)=(ms v).find? fun m=>m.name==n:=by
  intro v
  unfold ms
  rw[List.find?_map]
  rfl
 rw[e,e,h]
theorem seen_ms {a:M->List Sy}{w w':List Pt}(h:ms w=ms w'):seenW a w=seenW a w':=by
 funext k
 have:=congrArg (Option.map a) (part_ms h k)
 simpa[seenW,Option.map_map,Function.comp_def] using this
theorem leads_ms {w w':List Pt}(h:ms w=ms w'){a b:Bs}(k:Leads w a b):Leads w' a b:=by
 induction k with
 |refl a=>exact .refl a
 | @step a b c p hp hc _ ih =>
  have:=part_ms h a
  rw[hp]at this
  cases d:partOf w' a with
  |none=>rw[d]at this;cases this
  |some q =>
   rw[d]at this
   simp only[Option.map_some,Option.some.injEq]at this
   exact .step d (this ▸ hc) ih
structure WI (ofF:M->List Sy) (w:List Pt):Prop where
 nd:((ms w).map (·.name)).Nodup
 ck:∀m∈ms w,check m (seenW ofF w)=none
 ac:∀m∈ms w,∀n∈m.imports,¬Leads w n m.name
theorem WI.ms {b:M->List Sy}{w w':List Pt}(h:WI b w)(e:Tp.ms w'=Tp.ms w):WI b w' :=
 ⟨by rw[e];exact h.nd,fun m a=>by rw[seen_ms e];exact h.ck m (e ▸ a),fun m a n c k=>h.ac m (e ▸ a) n c (leads_ms e k)⟩
theorem WI.empty (b:M->List Sy):WI b []:=⟨List.nodup_nil,fun m a=>(by cases a),fun m a=>(by cases a)⟩
theorem part_name {w:List Pt}{n:Bs}{p:Pt}(h:partOf w n=some p):p∈w/\p.m.name=n:=⟨List.mem_of_find?_eq_some h,by simpa using List.find?_some h⟩
theorem part_last {w:List Pt}{q:Pt}{n:Bs}(h:n≠q.m.name):partOf (w++[q]) n=partOf w n:=by
 unfold partOf
 rw[List.find?_append,List.find?_cons_of_neg (by simpa using fun e=>h e.symm)]
 simp
theorem WI.add {d:M->List Sy}{w:List Pt}{q:Pt}(h:WI d w)(g:partOf w q.m.name=Option.none)(x:check q.m (seenW d w)=Option.none):WI d (w++[q]):=by
 have y:∀p∈w,p.m.name≠q.m.name:=fun p f e=>by
  have:=List.find?_eq_none.1 g p f
  simp[e]at this
 have i:∀m∈Tp.ms w,q.m.name ∉ m.imports:=fun m c o=>by
  have:=(check_none.1 (h.ck m c)).1.1 _ o
  exact this.2 (by unfold seenW;rw[g];rfl)
 have r:q.m.name ∉ q.m.imports:=fun o=>((check_none.1 x).1.1 _ o).1 rfl
 have A:∀n,n≠q.m.name->seenW d (w++[q]) n=seenW d w n:=fun n e=>by unfold seenW;rw[part_last e]
 have s:∀m,q.m.name ∉ m.imports->check m (seenW d (w++[q]))=check m (seenW d w):=fun m c=>kE fun n g=>A n fun e=>c (e ▸ g)
 have t:∀a b,Leads (w++[q]) a b->a≠q.m.name->Leads w a b/\b≠q.m.name:=by
  intro a b k
  induction k with
  |refl a=>exact fun e=>⟨.refl a,e⟩
  |step f hcc _ ih =>
   intro e
   rw[part_last e]at f
   have z:=(part_name f).1
   obtain⟨C,D⟩:=ih (fun B=>i _ (List.mem_map.2 ⟨_,z,rfl⟩) (B ▸ hcc))
   exact⟨.step f hcc C,D⟩
 have j:Tp.ms (w++[q])=Tp.ms w++[q.m]:=by simp[Tp.ms]
 refine⟨?_,fun m c=>?_,fun m c n l k=>?_⟩
 ·rw[j,List.map_append,List.nodup_append]
  refine⟨h.nd,by simp,fun a u b v e=>?_⟩
  simp only[Tp.ms,List.map_map,List.mem_map,Function.comp]at u
  obtain⟨p,f,rfl⟩:=u
  simp at v
  exact y p f (e.trans v)
 ·rw[j]at c
  rcases List.mem_append.1 c with q1|q1
  ·rw[s m (i m q1)];exact h.ck m q1
  ·rw[List.mem_singleton]at q1
   subst q1
   rw[s _ r];exact x
 ·rw[j]at c
  rcases List.mem_append.1 c with q1|q1
  ·exact h.ac m q1 n l (t _ _ k (fun e=>i m q1 (e ▸ l))).1
  ·rw[List.mem_singleton]at q1
   subst q1
   exact(t _ _ k (fun e=>r (e ▸ l))).2 rfl
theorem xX {n k:Nat}{md:Bs}{own:Own}{l:List S}{s:Rs}(h:goS n k md own l s≠.gas):ms (endOf (goS n k md own l s)).1=ms s.w:=by
 have:=(ke_all n).ss k md own l s
 cases a:goS n k md own l s with
 |ok v s1=>rw[a]at this;exact this
 |stop way s1=>rw[a]at this;exact this
 |gas=>exact absurd a h
theorem WI.load {a:M->List Sy}{w:List Pt}{m:M}{f:Nat}(h:WI a w):WI a (loadW a w m f).w:=by
 unfold loadW
 split
 ·exact h
 ·rename_i b
  cases c:check m (seenW a w) with
  |some e=>exact h
  |none =>
   simp only
   split
   ·exact h
   ·refine WI.ms (WI.add (q:=⟨m,fresh m⟩) h ?_ c) ?_
    ·simpa using b
    ·exact xX goS_enough
theorem WI.call {b:M->List Sy}{w:List Pt}{md pn:Bs}{args:List Int}{f:Nat}(h:WI b w):WI b (callW w md pn args f).w:=by
 unfold callW
 cases j:(partOf w md).bind fun p=>p.m.procs.find? fun c=>c.name==pn&&c.seen with
 |none=>exact h
 |some c =>
  simp only
  split
  ·exact h
  ·refine WI.ms h ?_
   obtain⟨k,d,e⟩:=Option.bind_eq_some_iff.1 j
   have g:SizeOf.sizeOf c.body<=bodySz w:=bodySz_bd w 0 [] k (List.mem_of_find?_eq_some d) c (List.mem_of_find?_eq_some e)
   have i:=callP_enough (fuel:=f) (md:=md) (vs:=args) (out:=[]) g
   have:=(ke_all (Tp.nd (bodySz w) f 0)).cl 0 md c args ⟨w,f,[]⟩
   cases a:callP (Tp.nd (bodySz w) f 0) 0 md c args ⟨w,f,[]⟩ with
   |ok v s1=>rw[a]at this;exact this
   |stop way s1=>rw[a]at this;exact this
   |gas=>exact absurd a i
def putM (w:List Pt) (m:M):List Pt:=w.map fun q=>if q.m.name=m.name then ⟨m,swapV q.m m q.vars⟩ else q
theorem part_put {w:List Pt}{m:M}{n:Bs}(h:n≠m.name):partOf (putM w m) n=partOf w n:=by
 unfold partOf putM
 induction w with
 |nil=>rfl
 |cons q t ih =>
  rw[List.map_cons]
  by_cases e:q.m.name=m.name
  ·rw[if_pos e,List.find?_cons_of_neg (by simpa using fun a=>h a.symm),List.find?_cons_of_neg (by simpa using fun a=>h (a.symm.trans e))]
   exact ih
  ·rw[if_neg e]
   by_cases a:q.m.name=n
   ·rw[List.find?_cons_of_pos (by simpa using a),List.find?_cons_of_pos (by simpa using a)]
   ·rw[List.find?_cons_of_neg (by simpa using a),List.find?_cons_of_neg (by simpa using a)]
    exact ih
theorem part_put_self {w:List Pt}{m:M}{p:Pt}(h:partOf w m.name=some p):partOf (putM w m) m.name=some ⟨m,swapV p.m m p.vars⟩:=by
 unfold partOf putM at *
 induction w with
 |nil=>cases h
 |cons q t ih =>
  rw[List.map_cons]
  by_cases e:q.m.name=m.name
  ·rw[List.find?_cons_of_pos (by simpa using e)]at h
   cases h
   rw[if_pos e,List.find?_cons_of_pos (by simp)]
  ·rw[List.find?_cons_of_neg (by simpa using e)]at h
   rw[if_neg e,List.find?_cons_of_neg (by simpa using e)]
   exact ih h
theorem put_mem {w:List Pt}{m x:M}(h:x∈ms (putM w m)):x=m\/x∈ms w/\x.name≠m.name:=by
 unfold ms putM at h
 simp only[List.map_map,List.mem_map,Function.comp]at h
 obtain⟨q,a,rfl⟩:=h
 by_cases e:q.m.name=m.name
 ·rw[if_pos e];exact Or.inl rfl
 ·rw[if_neg e];exact Or.inr ⟨List.mem_map.2 ⟨q,a,rfl⟩,e⟩
theorem put_names {w:List Pt}{m:M}:(ms (putM w m)).map (·.name)=(ms w).map (·.name):=by
 unfold ms putM
 simp only[List.map_map]
 apply List.map_congr_left
 intro q _
 simp only[Function.comp]
 split
 ·rename_i e;exact e.symm
 ·rfl
theorem part_of_mem {c:M->List Sy}{w:List Pt}(h:WI c w){x:M}(b:x∈ms w):∃p,partOf w x.name=some p/\p.m=x:=by
 have a:=h.nd
 clear h
 unfold ms at b a
 induction w with
 |nil=>cases b
 |cons q t ih =>
  unfold partOf
  rw[List.map_cons]at b a
  rw[List.map_cons,List.nodup_cons]at a
  by_cases e:q.m.name=x.name
  ·refine⟨q,List.find?_cons_of_pos (by simpa using e),?_⟩
   rcases List.mem_cons.1 b with e2|e2
   ·exact e2.symm
   ·exact absurd (List.mem_map.2 ⟨x,e2,e.symm⟩) a.1
  ·rw[List.find?_cons_of_neg (by simpa using e)]
   rcases List.mem_cons.1 b with e2|e2
   ·exact absurd (by rw[e2]) e
   ·exact ih e2 a.2
theorem Leads.trans {w:List Pt}{a b c:Bs}(h:Leads w a b)(k:Leads w b c):Leads w a c:=by
 induction h with
 |refl a=>exact k
 |step hp hc _ ih=>exact .step hp hc (ih k)
theorem jH {w:List Pt}{m:M}{a:Bs}(h:Leads (putM w m) a m.name):Leads w a m.name:=by
 generalize d:m.name=b at h
 induction h with
 |refl a=>exact .refl a
 | @step a b c p hp hc _ ih =>
  by_cases e:a=m.name
  ·rw[e,d];exact .refl _
  ·rw[part_put e]at hp
   exact .step hp hc (ih d)
theorem leads_put' {w:List Pt}{m:M}{p:Pt}(d:partOf w m.name=some p){a b:Bs}(h:Leads (putM w m) a b):Leads w a b\/∃n∈m.imports,Leads w n b/\Leads (putM w m) a m.name:=by
 induction h with
 |refl a=>exact Or.inl (.refl a)
 | @step a b c q hp hc _ ih =>
  rcases ih with i|⟨n,f,g,j⟩
  ·by_cases e:a=m.name
   ·subst e
    rw[part_put_self d]at hp
    cases hp
    exact Or.inr ⟨c,hc,i,.refl _⟩
   ·rw[part_put e]at hp
    exact Or.inl (.step hp hc i)
  ·exact Or.inr ⟨n,f,g,.step hp hc j⟩
theorem findS_same {l c:List Sy}{n:Bs}(h:(findS l n).map (·.2)=(findS c n).map (·.2)):findS l n=findS c n:=by
 cases b:findS l n with
 |none =>
  cases a:findS c n with
  |none=>rfl
  |some s=>rw[b,a]at h;cases h
 |some s =>
  cases a:findS c n with
  |none=>rw[b,a]at h;cases h
  |some s' =>
   rw[b,a]at h
   simp only[Option.map_some,Option.some.injEq]at h
   exact congrArg some (Prod.ext ((yy b).trans (yy a).symm) h)
theorem WI.put {a:M->List Sy}(l:∀m,∀s∈a m,OkS s){w:List Pt}{m:M}{p:Pt}(h:WI a w)(g:partOf w m.name=some p)(u:check m (seenW a w)=none)(t:¬∃n∈m.imports,Leads w n m.name)(I:∀q∈w,∀n∈usedR q.m m.name,needS (a m) n=needS (a p.m) n):WI a (putM w m):=by
 have f:∀n,n≠m.name->seenW a (putM w m) n=seenW a w n:=fun n e=>by unfold seenW;rw[part_put e]
 have o:seenW a (putM w m) m.name=some (a m):=by unfold seenW;rw[part_put_self g];rfl
 have D:seenW a w m.name=some (a p.m):=by unfold seenW;rw[g];rfl
 have z:m.name ∉ m.imports:=fun y=>((check_none.1 u).1.1 _ y).1 rfl
 refine⟨by rw[put_names];exact h.nd,fun x j=>?_,fun x j n c k=>?_⟩
 ·rcases put_mem j with rfl|⟨d,_⟩
  ·rw[kE (b:=seenW a w) fun n c=>f n fun e=>z (e ▸ c)];exact u
  ·have v:=check_none.1 (h.ck x d)
   rw[check_none]
   refine fine_same v (fun n c=>?_) (fun r H F y=>?_)
   ·by_cases e:n=m.name
    ·rw[e,o];simp
    ·rw[f n e];exact(v.1.1 n c).2
   ·by_cases e:r.mod=m.name
    ·rw[e,o,D]
     obtain⟨q,G,C⟩:=List.mem_map.1 d
     have E:r.name∈usedR q.m m.name:=by
      rw[C]
      exact usedR_mem.2 ⟨e ▸ F,r,H,e,rfl⟩
     exact findS_same (need_same (l _) (l _) (I q G _ E).symm)
    ·rw[f _ e]
 ·rcases put_mem j with rfl|⟨d,_⟩
  ·exact t ⟨n,c,jH k⟩
  ·rcases leads_put' g k with i|⟨N,J,K,L⟩
   ·exact h.ac x d n c i
   ·obtain⟨O,B,A⟩:=part_of_mem h d
    exact t ⟨N,J,K.trans (.step B (A ▸ c) (jH L))⟩
theorem swap_self {c:M->List Sy}{w:List Pt}{m:M}(h:WI c w)(d:m∈ms w):(swapW c w m).err=none/\(swapW c w m).w=putM w m:=by
 obtain⟨p,f,e⟩:=part_of_mem h d
 unfold swapW
 rw[f,h.ck m d]
 simp only
 rw[if_neg (fun ⟨n,a,b⟩=>h.ac m d n a b),if_neg (by rw[e];simp)]
 exact⟨rfl,rfl⟩
theorem get_self {w:List Pt}{m:M}{p:Pt}(c:partOf w m.name=some p)(h:p.m=m)(md nm:Bs):getW (putM w m) md nm=getW w md nm:=by
 unfold getW
 by_cases e:md=m.name
 ·rw[e,part_put_self c,c]
  simp only[Option.bind_some]
  rw[h]
  by_cases a:m.vars.any fun g=>g.name==nm
  ·rw[if_pos a,if_pos a]
   congr 1
   unfold swapV
   cases b:m.vars.find? fun g=>g.name==nm with
   |none =>
    obtain⟨g,d,f⟩:=List.any_eq_true.1 a
    exact absurd f (List.find?_eq_none.1 b g d)
   |some g =>
    simp only
    rw[if_pos]
    rw[List.any_eq_true]
    exact⟨g,List.mem_of_find?_eq_some b,by have:=List.find?_some b;simpa using this⟩
  ·rw[if_neg a,if_neg a]
 ·rw[part_put e]
def moreV (m:M) (g:G):M:={ m with vars:=g :: m.vars }
theorem uG {m:M}{g:G}{own:List Bs}{b:Seen}{md nm:Bs}{s:Nat×Int}(j:∀v∈m.vars,v.name≠g.name)(i:∀p∈m.procs,p.name≠g.name)(h:stand m own b md nm=.ok s):stand (moreV m g) own b md nm=.ok s:=by
 unfold stand at h ⊢
 by_cases c:md≠[]
 ·rw[if_pos c]at h ⊢;exact h
 ·rw[if_neg c]at h ⊢
  by_cases d:nm∈own
  ·rw[if_pos d]at h ⊢;exact h
  ·rw[if_neg d]at h ⊢
   have f:g.name≠nm:=by
    intro e
    rw[List.find?_eq_none.2 (fun v a=>by simpa using fun q=>j v a (q.trans e.symm)),List.find?_eq_none.2 (fun p a=>by simpa using fun q=>i p a (q.trans e.symm))]at h
    cases h
   show (match (g :: m.vars).find? fun g=>g.name==nm with
    |some g=>Except.ok (g.len,-1)
    |none=>match m.procs.find? fun p=>p.name==nm with
     |some p=>Except.ok (0,(p.params.length:Int))
     |none=>Except.error 7)=Except.ok s
   rw[List.find?_cons_of_neg (by simpa using f)]
   exact h
theorem jI {m:M}{g:G}{own:List Bs}{a:Seen}{r:R}(d:∀v∈m.vars,v.name≠g.name)(c:∀p∈m.procs,p.name≠g.name)(h:judge m own a r=none):judge (moreV m g) own a r=none:=by
 unfold judge at h ⊢
 cases b:stand m own a r.mod r.name with
 |error e=>rw[b]at h;cases h
 |ok s=>rw[uG d c b];rw[b]at h;exact h
theorem qt {m:M}{g:G}{f:Seen}(e:∀v∈m.vars,v.name≠g.name)(c:∀p∈m.procs,p.name≠g.name)(h:check m f=none):check (moreV m g) f=none:=by
 rw[check_none]at h ⊢
 obtain⟨k,l,i,n⟩:=h
 refine⟨k,?_,fun p j=>⟨(i p j).1,fun r d=>jI e c ((i p j).2 r d)⟩,fun r d=>jI e c (n r d)⟩
 show (g.name :: m.vars.map (·.name)++m.procs.map (·.name)).Nodup
 rw[List.cons_append,List.nodup_cons]
 refine⟨fun q=>?_,l⟩
 rcases List.mem_append.1 q with q|q
 ·obtain⟨v,a,b⟩:=List.mem_map.1 q;exact e v a b
 ·obtain⟨p,a,b⟩:=List.mem_map.1 q;exact c p a b
theorem swap_moreV {c:M->List Sy}{w:List Pt}{m:M}{g:G}(h:WI c w)(d:m∈ms w)(l:∀v∈m.vars,v.name≠g.name)(k:∀p∈m.procs,p.name≠g.name)(f:c (moreV m g)=c m):(swapW c w (moreV m g)).err=none/\(swapW c w (moreV m g)).w=putM w (moreV m g):=by
 obtain⟨p,i,j⟩:=part_of_mem h d
 have e:partOf w (moreV m g).name=some p:=i
 unfold swapW
 rw[e,qt l k (h.ck m d)]
 simp only
 rw[if_neg (fun ⟨n,a,b⟩=>h.ac m d n a b),if_neg (by rw[f,j];simp)]
 exact⟨rfl,rfl⟩
theorem swap_back {c:M->List Sy}{w:List Pt}{m:M}{g:G}(h:WI c w)(d:m∈ms w)(k:c (moreV m g)=c m):(swapW c (putM w (moreV m g)) m).err=none/\(swapW c (putM w (moreV m g)) m).w=putM (putM w (moreV m g)) m:=by
 obtain⟨p,l,s⟩:=part_of_mem h d
 have o:partOf (putM w (moreV m g)) m.name=some ⟨moreV m g,swapV p.m (moreV m g) p.vars⟩:=part_put_self (m:=moreV m g) l
 have f:m.name ∉ m.imports:=fun q=>((check_none.1 (h.ck m d)).1.1 _ q).1 rfl
 have j:check m (seenW c (putM w (moreV m g)))=none:=by
  rw[kE (b:=seenW c w) fun n r=>?_]
  ·exact h.ck m d
  ·have:n≠(moreV m g).name:=fun e=>f ((show n=m.name from e) ▸ r)
   unfold seenW
   rw[part_put this]
 have i:¬∃n∈m.imports,Leads (putM w (moreV m g)) n m.name:=fun ⟨n,a,b⟩=>h.ac m d n a (jH (m:=moreV m g) b)
 unfold swapW
 rw[o,j]
 simp only
 rw[if_neg i,if_neg (by rw[k];simp)]
 exact⟨rfl,rfl⟩
theorem jg {m:M}{g:G}{nm:Bs}(h:nm≠g.name):(moreV m g).vars.find? (fun v=>v.name==nm)=m.vars.find? fun v=>v.name==nm:=by
 show (g :: m.vars).find? _=_
 rw[List.find?_cons_of_neg (by simpa using fun e=>h e.symm)]
theorem ju {l:List G}{nm:Bs}:(l.any fun v=>v.name==nm)=(l.find? fun v=>v.name==nm).isSome:=by
 rw[Bool.eq_iff_iff,List.any_eq_true,List.find?_isSome]
theorem get_moreV {w:List Pt}{m:M}{g:G}{p:Pt}(c:partOf w m.name=some p)(f:p.m=m)(md nm:Bs)(h:nm≠g.name\/md≠m.name):getW (putM w (moreV m g)) md nm=getW w md nm:=by
 unfold getW
 by_cases e:md=m.name
 ·have b:nm≠g.name:=h.resolve_right fun q=>q e
  have d:partOf (putM w (moreV m g)) m.name=some ⟨moreV m g,swapV p.m (moreV m g) p.vars⟩:=part_put_self (m:=moreV m g) c
  rw[e,d,c]
  simp only[Option.bind_some]
  rw[ju,ju,jg b,f]
  cases a:m.vars.find? fun v=>v.name==nm with
  |none=>rfl
  |some v =>
   simp only[Option.isSome_some,if_true]
   congr 1
   unfold swapV
   rw[jg b,a]
   simp only
   rw[if_pos]
   rw[List.any_eq_true]
   exact⟨v,List.mem_of_find?_eq_some a,by have:=List.find?_some a;simpa using this⟩
 ·have:md≠(moreV m g).name:=e
  rw[part_put this]
theorem get_new {w:List Pt}{m:M}{g:G}{p:Pt}(f:partOf w m.name=some p)(e:p.m=m)(h:∀v∈m.vars,v.name≠g.name):getW (putM w (moreV m g)) m.name g.name=some (List.replicate (if g.len=0 then 1 else g.len) 0):=by
 have d:partOf (putM w (moreV m g)) m.name=some ⟨moreV m g,swapV p.m (moreV m g) p.vars⟩:=part_put_self (m:=moreV m g) f
 have c:(moreV m g).vars.find? (fun v=>v.name==g.name)=some g:=List.find?_cons_of_pos (by simp)
 unfold getW
 rw[d]
 simp only[Option.bind_some]
 rw[ju,c]
 simp only[Option.isSome_some,if_true]
 congr 1
 unfold swapV
 rw[c]
 simp only
 rw[if_neg]
 ·unfold fresh
  rw[c]
 ·rw[e]
  intro q
  obtain⟨v,a,b⟩:=List.any_eq_true.1 q
  simp at b
  exact h v a b.1
def Sk (l:List R):Prop:=∀r∈l,okn r.name
theorem Sk.app {l m:List R}(h:Sk l)(k:Sk m):Sk (l++m):=fun r a=>by
 rcases List.mem_append.1 a with q|q
 ·exact h r q
 ·exact k r q
theorem Sk.nil:Sk []:=fun r a=>by cases a
theorem wx_okn:∀(n:Nat) (l:List X),SizeOf.sizeOf l<=n->WX l->Sk (rx l):=by
 intro n
 induction n with
 |zero=>intro l j;cases l<;>simp at j<;>omega
 |succ n ih =>
  intro l j h
  cases l with
  |nil=>rw[rx];exact Sk.nil
  |cons x xs =>
   obtain⟨code,pos,t,m,nm,u,s,ri,e⟩:=x
   rw[WX]at h
   simp at j
   obtain⟨p,q⟩:=h
   have o:=ih xs (by omega) q
   have key:Sk (if code=2\/code=3\/code=6 then [⟨code,pos,m,nm,e.length⟩] else [])/\Sk (rx s)/\Sk (rx ri)/\Sk (rx e):=by
    have g:okr m nm->Sk (if code=2\/code=3\/code=6 then [⟨code,pos,m,nm,e.length⟩] else []):=by
     intro i r k
     split at k
     ·rw[List.mem_singleton.1 k];exact i.2
     ·cases k
    have f:¬(code=2\/code=3\/code=6)->Sk (if code=2\/code=3\/code=6 then [⟨code,pos,m,nm,e.length⟩] else []):=by
     intro i
     rw[if_neg i];exact Sk.nil
    have nil:Sk (rx []):=by rw[rx];exact Sk.nil
    rcases p with⟨c,_,_,_,_,a,b,d⟩|⟨c,_,h3,_,a,b,d⟩|⟨c,_,h3,_,a,_,b,d⟩|⟨c,_,_,_,_,a,_,b,d⟩|⟨c,_,_,_,_,a,_,b,_,d⟩|⟨c,_,h3,_,a,b,d⟩
    ·exact⟨f (by omega),by rw[a];exact nil,by rw[b];exact nil,by rw[d];exact nil⟩
    ·exact⟨g h3,by rw[a];exact nil,by rw[b];exact nil,by rw[d];exact nil⟩
    ·exact⟨g h3,ih _ (by omega) a,by rw[b];exact nil,by rw[d];exact nil⟩
    ·exact⟨f (by omega),ih _ (by omega) a,by rw[b];exact nil,by rw[d];exact nil⟩
    ·exact⟨f (by omega),ih _ (by omega) a,ih _ (by omega) b,by rw[d];exact nil⟩
    ·exact⟨g h3,by rw[a];exact nil,by rw[b];exact nil,ih _ (by omega) d⟩
   rw[rx]
   exact(((key.1.app key.2.1).app key.2.2.1).app key.2.2.2).app o
theorem ws_okn:∀(n:Nat) (l:List S),SizeOf.sizeOf l<=n->WS l->Sk (rs l):=by
 intro n
 induction n with
 |zero=>intro l j;cases l<;>simp at j<;>omega
 |succ n ih =>
  intro l j h
  cases l with
  |nil=>rw[rs];exact Sk.nil
  |cons x xs =>
   obtain⟨code,pos,nm,k,m,y,s⟩:=x
   rw[WS]at h
   simp at j
   obtain⟨t,u⟩:=h
   have p:=ih xs (by omega) u
   have f:Sk (rx []):=by rw[rx];exact Sk.nil
   have ns:Sk (rs []):=by rw[rs];exact Sk.nil
   have g:ev m->Sk (rx m):=fun q=>wx_okn _ _ (Nat.le_refl _) q.1
   have i:code≠1->Sk (if code=1 then [⟨if k.isEmpty then 2 else 3,pos,[],nm,0⟩] else []):=by
    intro w
    rw[if_neg w];exact Sk.nil
   have key:Sk (if code=1 then [⟨if k.isEmpty then 2 else 3,pos,[],nm,0⟩] else [])/\Sk (rx k)/\Sk (rx m)/\Sk (rs y)/\Sk (rs s):=by
    rcases t with⟨c,v,a,b,d,e⟩|⟨c,_,a,b,d,e⟩|⟨c,_,a,b,d,e⟩|⟨c,_,a,b,d,e⟩|⟨c,_,a,b,_,d,e⟩
    ·refine⟨?_,?_,g b,by rw[d];exact ns,by rw[e];exact ns⟩
     ·intro r o
      rw[if_pos c]at o
      rw[List.mem_singleton.1 o]
      exact v
     ·rcases a with q|q
      ·rw[q];exact f
      ·exact wx_okn _ _ (Nat.le_refl _) q.1
    ·exact⟨i (by omega),by rw[a];exact f,g b,ih _ (by omega) d,ih _ (by omega) e⟩
    ·exact⟨i (by omega),by rw[a];exact f,g b,ih _ (by omega) d,by rw[e];exact ns⟩
    ·exact⟨i (by omega),by rw[a];exact f,g b,by rw[d];exact ns,by rw[e];exact ns⟩
    ·exact⟨i (by omega),by rw[a];exact f,g b,by rw[d];exact ns,by rw[e];exact ns⟩
   rw[rs]
   exact((((key.1.app key.2.1).app key.2.2.1).app key.2.2.2.1).app key.2.2.2.2).app p
theorem allR_okn {m:M}(h:WM m):Sk (allR m):=by
 unfold allR
 refine Sk.app (fun r a=>?_) (ws_okn _ _ (Nat.le_refl _) h.b)
 rw[List.mem_flatten]at a
 obtain⟨l,c,a⟩:=a
 obtain⟨p,d,rfl⟩:=List.mem_map.1 c
 exact ws_okn _ _ (Nat.le_refl _) (h.p p d).b r a
theorem used_okn {m:M}(h:WM m){of n:Bs}(a:n∈usedR m of):okn n:=by
 unfold usedR at a
 obtain⟨r,b,rfl⟩:=List.mem_map.1 a
 exact allR_okn h r (List.mem_filter.1 b).1
theorem okn_no10 {n:Bs}(h:okn n):(10:UInt8) ∉ n:=fun a=>by
 obtain⟨c,l,_,_,hd⟩:=h.1
 have:=hd 10 a
 revert this
 decide
theorem needs_any {l c:List Sy}{ns:List Bs}{m:M}{of:Bs}(d:WM m)(b:∀x,x∈ns↔x∈usedR m of):(needsS l ns=needsS c ns)↔((usedR m of).any fun n=>needS l n != needS c n)=false:=by
 rw[needsS_inj (fun n a=>okn_no10 (used_okn d ((b n).1 a))),List.any_eq_false]
 constructor
 ·intro h n a
  simpa using h n ((b n).2 a)
 ·intro h n a
  simpa using h n ((b n).1 a)
end Tp
