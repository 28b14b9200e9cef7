import Derived.Test.YtibncofnnlbmcaaGreatDoorKPc
set_option maxRecDepth 100000
set_option maxHeartbeats 4000000
namespace Tp
def Mo {α:Type}(f f':Ru α):Prop:=∀ s,f s≠.gas->f' s=f s
theorem Mo.refl {α:Type}(f:Ru α):Mo f f:=fun _ _=>rfl
theorem Mo.out {α:Type}(f:Ru α):Mo Ru.out f:=fun _ h=>absurd rfl h
theorem Mo.bind {α β:Type}{f f':Ru α}{g g':α->Ru β}(hf:Mo f f') (hg:∀ v,Mo (g v) (g' v)):Mo (f.bind g) (f'.bind g'):=by
 intro s h
 unfold Ru.bind at h ⊢
 cases hs:f s with
 | ok v s1=>rw[hs]at h;rw[hf s (by rw[hs];simp),hs];exact hg v s1 h
 | stop way s1=>rw[hf s (by rw[hs];simp),hs]
 | gas=>rw[hs]at h;exact absurd rfl h
theorem Mo.ite {α:Type}{p:Prop} [Decidable p] {f f' g g':Ru α}(hf:Mo f f') (hg:Mo g g'):Mo (if p then f else g) (if p then f' else g'):=by split <;> assumption
structure MoAll (n:Nat):Prop where
 ex:∀ k md own l,Mo (evX n k md own l) (evX (n+1) k md own l)
 exs:∀ k md own l,Mo (evs n k md own l) (evs (n+1) k md own l)
 cl:∀ k md p vs,Mo (callP n k md p vs) (callP (n+1) k md p vs)
 ss:∀ k md own l,Mo (goS n k md own l) (goS (n+1) k md own l)
 s1:∀ k md own x,Mo (go1 n k md own x) (go1 (n+1) k md own x)
 wh:∀ k md own c b,Mo (goW n k md own c b) (goW (n+1) k md own c b)
theorem mo_all:∀ n,MoAll n:=by
 intro n
 induction n with
 | zero=>exact⟨fun _ _ _ _=>by rw[evX.eq_1];exact Mo.out _,fun _ _ _ _=>by rw[evs.eq_1];exact Mo.out _,fun _ _ _ _=>by rw[callP.eq_1];exact Mo.out _,fun _ _ _ _=>by rw[goS.eq_1];exact Mo.out _,fun _ _ _ _=>by rw[go1.eq_1];exact Mo.out _,fun _ _ _ _ _=>by rw[goW.eq_1];exact Mo.out _⟩
 | succ n ih =>
  refine⟨fun k md own l=>?_,fun k md own l=>?_,fun k md p vs=>?_,fun k md own l=>?_,fun k md own x=>?_,fun k md own c b=>?_⟩
  ·cases l with
   | nil=>rw[evX.eq_2,evX.eq_2];exact Mo.refl _
   | cons x t =>
    rw[evX.eq_3,evX.eq_3]
    refine Mo.ite (Mo.refl _) (Mo.ite (Mo.refl _) (Mo.ite ((ih.ex _ _ _ _).bind fun i=>Mo.refl _) (Mo.ite ((ih.ex _ _ _ _).bind fun v=>Mo.refl _) (Mo.ite ((ih.ex _ _ _ _).bind fun a=>Mo.ite (Mo.ite (Mo.refl _) ((ih.ex _ _ _ _).bind fun b=>Mo.refl _)) (Mo.ite (Mo.ite (Mo.refl _) ((ih.ex _ _ _ _).bind fun b=>Mo.refl _)) ((ih.ex _ _ _ _).bind fun b=>Mo.refl _))) (Mo.ite ((ih.exs _ _ _ _).bind fun vs=>(Mo.refl _).bind fun p=>?_) (Mo.refl _))))))
    cases p with
    | none=>exact Mo.refl _
    | some p=>exact ih.cl _ _ _ _
  ·cases l with
   | nil=>rw[evs.eq_2,evs.eq_2];exact Mo.refl _
   | cons x t=>rw[evs.eq_3,evs.eq_3];exact(ih.ex _ _ _ _).bind fun v=>(ih.exs _ _ _ _).bind fun vs=>Mo.refl _
  ·rw[callP.eq_2,callP.eq_2];exact Mo.ite (Mo.refl _) ((ih.ss _ _ _ _).bind fun r=>Mo.refl _)
  ·cases l with
   | nil=>rw[goS.eq_2,goS.eq_2];exact Mo.refl _
   | cons x t =>
    rw[goS.eq_3,goS.eq_3]
    refine(Mo.refl _).bind fun _=>(ih.s1 _ _ _ _).bind fun r=>?_
    cases r.2 with
    | some v=>exact Mo.refl _
    | none=>exact ih.ss _ _ _ _
  ·rw[go1.eq_2,go1.eq_2]
   exact Mo.ite (Mo.ite ((ih.ex _ _ _ _).bind fun v=>Mo.refl _) ((ih.ex _ _ _ _).bind fun i=>(ih.ex _ _ _ _).bind fun v=>Mo.refl _)) (Mo.ite ((ih.ex _ _ _ _).bind fun v=>Mo.ite (ih.ss _ _ _ _) (ih.ss _ _ _ _)) (Mo.ite (ih.wh _ _ _ _ _) (Mo.ite ((ih.ex _ _ _ _).bind fun v=>Mo.refl _) (Mo.ite ((ih.ex _ _ _ _).bind fun v=>Mo.refl _) ((ih.ex _ _ _ _).bind fun _=>Mo.refl _)))))
  ·rw[goW.eq_2,goW.eq_2]
   refine(ih.ex _ _ _ _).bind fun v=>Mo.ite (Mo.refl _) ((ih.ss _ _ _ _).bind fun r=>?_)
   cases r.2 with
   | some v=>exact Mo.refl _
   | none=>exact(Mo.refl _).bind fun _=>ih.wh _ _ _ _ _
theorem goS_more {n d k:Nat}{md:Bs}{own:Own}{l:List S}{s:Rs}(h:goS n k md own l s≠.gas):goS (n+d) k md own l s=goS n k md own l s:=by
 induction d with
 | zero=>rfl
 | succ d ih=>rw[<-ih];exact(mo_all (n+d)).ss _ _ _ _ _ (by rw[ih];exact h)
theorem xz {n d k:Nat}{md:Bs}{p:Pr}{vs:List Int}{s:Rs}(h:callP n k md p vs s≠.gas):callP (n+d) k md p vs s=callP n k md p vs s:=by
 induction d with
 | zero=>rfl
 | succ d ih=>rw[<-ih];exact(mo_all (n+d)).cl _ _ _ _ _ (by rw[ih];exact h)
theorem goS_gas {a b k:Nat}{md:Bs}{own:Own}{l:List S}{s:Rs}(ha:goS a k md own l s≠.gas) (hb:goS b k md own l s≠.gas):goS a k md own l s=goS b k md own l s:=by
 rcases Nat.le_total a b with h|h
 ·obtain⟨d,rfl⟩:=Nat.le.dest h
  exact(goS_more ha).symm
 ·obtain⟨d,rfl⟩:=Nat.le.dest h
  exact goS_more hb
noncomputable def bodySz (w:List Pt):Nat:=(w.map fun p=>(p.m.procs.map fun q=>SizeOf.sizeOf q.body).sum).sum
theorem mem_sum {l:List Nat}{x:Nat}(h:x∈l):x<=l.sum:=by
 induction l with
 | nil=>cases h
 | cons a t ih =>
  rw[List.sum_cons]
  rcases List.mem_cons.1 h with e|e
  ·omega
  ·have:=ih e;omega
theorem bodySz_bd (w:List Pt) (left:Nat) (out:List Int):Bd (bodySz w) ⟨w,left,out⟩:=by
 intro p hp q hq
 have h1:SizeOf.sizeOf q.body<=(p.m.procs.map fun q=>SizeOf.sizeOf q.body).sum:=mem_sum (List.mem_map.2 ⟨q,hq,rfl⟩)
 have h2:(p.m.procs.map fun q=>SizeOf.sizeOf q.body).sum<=bodySz w:=mem_sum (List.mem_map.2 ⟨p,hp,rfl⟩)
 omega
noncomputable def gasOf (w:List Pt) (l:List S) (fuel:Nat):Nat:=SizeOf.sizeOf l+fuel+nd (bodySz w) fuel 0
theorem goS_enough {w:List Pt}{l:List S}{fuel:Nat}{md:Bs}{own:Own}{out:List Int}:goS (gasOf w l fuel) 0 md own l ⟨w,fuel,out⟩≠.gas:=by
 have:=(go_all (bodySz w) fuel (gasOf w l fuel)).ss 0 md own l ⟨w,fuel,out⟩ (bodySz_bd _ _ _) (Nat.le_refl _) (Nat.le_refl _)
 intro h
 unfold Goes at this
 rw[h]at this
 exact this
structure Ed where
 way:Nat
 out:List Int
deriving DecidableEq
def endOf {α:Type}:Rr α->List Pt× Ed
 | .ok _ s=>(s.w,⟨1,s.out⟩)
 | .stop way s=>(s.w,⟨way,s.out⟩)
 | .gas=>([],⟨0,[]⟩)
def fresh (m:M):Bs->List Int:=fun k=>match m.vars.find? fun g=>g.name == k with
 | some g=>List.replicate (if g.len=0 then 1 else g.len) 0
 | none=>[]
def seenW (ofF:M->List Sy) (w:List Pt):Seen:=fun k=>(partOf w k).map fun p=>ofF p.m
structure Ans where
 w:List Pt
 e:Ed
 n:Int
 err:Ck
def no:Ed:=⟨0,[]⟩
noncomputable def loadW (ofF:M->List Sy) (w:List Pt) (m:M) (fuel:Nat):Ans :=
 if (partOf w m.name).isSome then ⟨w,no,0,some (9,none)⟩
 else match check m (seenW ofF w) with
  | some e=>⟨w,no,0,some e⟩
  | none=>if 10<=w.length then ⟨w,no,0,some (12,none)⟩
   else
    let w1:=w++[⟨m,fresh m⟩]
    let r:=goS (gasOf w1 m.body fuel) 0 m.name (fun _=>none) m.body ⟨w1,fuel,[]⟩
    ⟨(endOf r).1,(endOf r).2,0,none⟩
noncomputable def callW (w:List Pt) (md pn:Bs) (args:List Int) (fuel:Nat):Ans :=
 match (partOf w md).bind fun p=>p.m.procs.find? fun q=>q.name == pn && q.seen with
 | none=>⟨w,no,0,some (7,none)⟩
 | some q=>if q.params.length≠args.length then ⟨w,no,0,some (2,none)⟩
  else
   let r:=callP (nd (bodySz w) fuel 0) 0 md q args ⟨w,fuel,[]⟩
   ⟨(endOf r).1,(endOf r).2,(match r with | .ok v _=>v|_=>0),none⟩
def getW (w:List Pt) (md nm:Bs):Option (List Int):=(partOf w md).bind fun p=>if p.m.vars.any (fun g=>g.name == nm) then some (p.vars nm) else none
inductive Leads (w:List Pt):Bs->Bs->Prop where
 | refl (a:Bs):Leads w a a
 | step {a b c:Bs} {p:Pt} (hp:partOf w a=some p) (hc:c∈p.m.imports) (h:Leads w c b):Leads w a b
def swapV (old new:M) (had:Bs->List Int):Bs->List Int:=fun k=>match new.vars.find? fun g=>g.name == k with
 | none=>[]
 | some g=>if old.vars.any (fun h=>h.name == k && h.len == g.len) then had k else fresh new k
open Classical in
noncomputable def swapW (ofF:M->List Sy) (w:List Pt) (m:M):Ans :=
 match partOf w m.name with
 | none=>⟨w,no,0,some (7,none)⟩
 | some p=>match check m (seenW ofF w) with
  | some e=>⟨w,no,0,some e⟩
  | none=>if ∃ n∈m.imports,Leads w n m.name then ⟨w,no,0,some (11,none)⟩
   else if w.any fun q=>(usedR q.m m.name).any fun n=>needS (ofF m) n != needS (ofF p.m) n then ⟨w,no,0,some (6,none)⟩
   else ⟨w.map fun q=>if q.m.name=m.name then ⟨m,swapV q.m m q.vars⟩ else q,no,0,none⟩
theorem load_refused {ofF:M->List Sy}{w:List Pt}{m:M}{fuel:Nat}(h:(loadW ofF w m fuel).err≠none):(loadW ofF w m fuel).w=w/\(loadW ofF w m fuel).e=no/\(loadW ofF w m fuel).n=0:=by
 unfold loadW at h ⊢
 split
 ·exact⟨rfl,rfl,rfl⟩
 ·rename_i h0
  rw[if_neg h0]at h
  cases hc:check m (seenW ofF w) with
  | some e=>exact⟨rfl,rfl,rfl⟩
  | none =>
   rw[hc]at h
   simp only at h ⊢
   split
   ·exact⟨rfl,rfl,rfl⟩
   ·rename_i h1
    rw[if_neg h1]at h
    exact absurd rfl h
theorem call_refused {w:List Pt}{md pn:Bs}{args:List Int}{fuel:Nat}(h:(callW w md pn args fuel).err≠none):(callW w md pn args fuel).w=w/\(callW w md pn args fuel).e=no/\(callW w md pn args fuel).n=0:=by
 unfold callW at h ⊢
 split
 ·exact⟨rfl,rfl,rfl⟩
 ·rename_i q hq
  rw[hq]at h
  simp only at h ⊢
  split
  ·exact⟨rfl,rfl,rfl⟩
  ·rename_i h1
   rw[if_neg h1]at h
   exact absurd rfl h
theorem swap_refused {ofF:M->List Sy}{w:List Pt}{m:M}(h:(swapW ofF w m).err≠none):(swapW ofF w m).w=w/\(swapW ofF w m).e=no/\(swapW ofF w m).n=0:=by
 unfold swapW at h ⊢
 split
 ·exact⟨rfl,rfl,rfl⟩
 ·rename_i p hp
  rw[hp]at h
  simp only at h ⊢
  cases hc:check m (seenW ofF w) with
  | some e=>exact⟨rfl,rfl,rfl⟩
  | none =>
   rw[hc]at h
   simp only at h ⊢
   split
   ·exact⟨rfl,rfl,rfl⟩
   ·rename_i h1
    rw[if_neg h1]at h
    split
    ·exact⟨rfl,rfl,rfl⟩
    ·rename_i h2
     rw[if_neg h2]at h
     exact absurd rfl h
theorem imps_congr {own:Bs}{a b:Seen}:∀ {l ah:List Bs},(∀ n∈l,a n=b n)->imps own a ah l=imps own b ah l:=by
 intro l
 induction l with
 | nil=>intro ah _;rfl
 | cons n t ih =>
  intro ah h
  rw[imps,imps,h n (by simp),ih (fun k hk=>h k (by simp[hk]))]
theorem uv {m:M}{own:List Bs}{a b:Seen}(h:∀ n∈m.imports,a n=b n) (md nm:Bs):stand m own a md nm=stand m own b md nm:=by
 unfold stand
 by_cases h1:md≠[]
 ·rw[if_pos h1,if_pos h1]
  by_cases h2:md∈m.imports
  ·rw[if_pos h2,if_pos h2,h md h2]
  ·rw[if_neg h2,if_neg h2]
 ·rw[if_neg h1,if_neg h1]
theorem jA {m:M}{own:List Bs}{a b:Seen}(h:∀ n∈m.imports,a n=b n):judge m own a=judge m own b:=by
 funext r
 unfold judge
 rw[uv h]
theorem jI {m:M}{a b:Seen}(h:∀ n∈m.imports,a n=b n):check m a=check m b:=by
 unfold check
 have hp:checkP m a=checkP m b:=by
  funext p
  unfold checkP
  rw[jA h]
 rw[imps_congr h,hp,jA h]
theorem callP_enough {w:List Pt}{p:Pr}{fuel:Nat}{md:Bs}{vs:List Int}{out:List Int}(hp:SizeOf.sizeOf p.body<=bodySz w):callP (nd (bodySz w) fuel 0) 0 md p vs ⟨w,fuel,out⟩≠.gas:=by
 have:=(go_all (bodySz w) fuel (nd (bodySz w) fuel 0)).cl 0 md p vs ⟨w,fuel,out⟩ (bodySz_bd _ _ _) (Nat.le_refl _) hp (Nat.le_refl _)
 intro h
 unfold Goes at this
 rw[h]at this
 exact this
theorem line_split:∀ {a b x y:Bs},(10:UInt8) ∉ a->(10:UInt8) ∉ b->a++10 :: x=b++10 :: y->a=b/\x=y:=by
 intro a
 induction a with
 | nil =>
  intro b x y _ hb h
  cases b with
  | nil=>simpa using h
  | cons c t=>simp at h;exact absurd (by simp[h.1]) hb
 | cons c a ih =>
  intro b x y ha hb h
  cases b with
  | nil=>simp at h;exact absurd (by simp[<-h.1]) ha
  | cons e b =>
   simp at h
   obtain⟨h1,h2⟩:=ih (fun q=>ha (by simp[q])) (fun q=>hb (by simp[q])) h.2
   exact⟨by rw[h.1,h1],h2⟩
theorem dec_no10 (n:Nat):(10:UInt8) ∉ dec n:=fun h=>by
 have:=(uV n).1 _ h
 revert this
 decide
theorem dec_inj {a b:Nat}(h:dec a=dec b):a=b:=by rw[<-(uV a).2.2,<-(uV b).2.2,h]
theorem y7 (f:Bs) (ss:List Bs) (hf:(10:UInt8) ∉ f) (hs:∀ s∈ss,(10:UInt8) ∉ s):∃ b,wordsL f ss=b++[10]/\(10:UInt8) ∉ b:=by
 refine⟨_,rfl,fun h=>?_⟩
 rcases List.mem_append.1 h with h|h
 ·exact hf h
 ·simp only [List.mem_flatten,List.mem_map]at h
  obtain⟨l,⟨s,h1,rfl⟩,h2⟩:=h
  rcases List.mem_cons.1 h2 with e|e
  ·cases e
  ·exact hs s h1 e
theorem yw {l:List Sy}{n:Bs}{s:Sy}(h:findS l n=some s):s.1=n:=by
 have:=List.find?_some h
 simpa using this
theorem jz (l:List Sy) {n:Bs}(h:(10:UInt8) ∉ n):∃ b,needS l n=b++[10]/\(10:UInt8) ∉ b:=by
 unfold needS
 cases hs:findS l n with
 | none=>exact y7 _ _ (by decide) (by simpa using h)
 | some s =>
  have hn:=yw hs
  simp only
  unfold lineOf
  split
  ·exact y7 _ _ (by decide) (by simp[hn,h,dec_no10])
  ·split
   ·exact y7 _ _ (by decide) (by simp[hn,h,dec_no10])
   ·exact y7 _ _ (by decide) (by simp[hn,h])
theorem needsS_inj {l l':List Sy}:∀ {ns:List Bs},(∀ n∈ns,(10:UInt8) ∉ n)->(needsS l ns=needsS l' ns↔∀ n∈ns,needS l n=needS l' n):=by
 intro ns
 induction ns with
 | nil=>intro _;simp[needsS]
 | cons n t ih =>
  intro h
  obtain⟨a,a1,a2⟩:=jz l (h n (by simp))
  obtain⟨b,b1,b2⟩:=jz l' (h n (by simp))
  have ht:=ih (fun k hk=>h k (by simp[hk]))
  unfold needsS at ht ⊢
  simp only [List.map_cons,List.flatten_cons,List.forall_mem_cons]
  rw[a1,b1]
  constructor
  ·intro e
   simp only [List.append_assoc,List.singleton_append]at e
   obtain⟨e1,e2⟩:=line_split a2 b2 e
   exact⟨by rw[e1],ht.1 e2⟩
  ·rintro⟨e1,e2⟩
   rw[e1,ht.2 e2]
def OkS (s:Sy):Prop:=(0<=s.2.2->s.2.1=0)/\(s.2.2<0->s.2.2=-1)
theorem symsOf_ok {m:M}:∀ s∈symsOf m,OkS s:=by
 intro s hs
 unfold symsOf at hs
 rcases List.mem_append.1 hs with h|h
 ·obtain⟨g,_,rfl⟩:=List.mem_map.1 h
  exact⟨fun h=>by simp[syG]at h,fun _=>rfl⟩
 ·obtain⟨p,_,rfl⟩:=List.mem_map.1 h
  refine⟨fun _=>rfl,fun h=>?_⟩
  simp[syP]at h
  omega
theorem line_inj {s s':Sy}(h:OkS s) (h':OkS s') (hn:s.1=s'.1) (e:lineOf s=lineOf s'):s.2=s'.2:=by
 obtain⟨n,a,b⟩:=s
 obtain⟨n',a',b'⟩:=s'
 simp only at hn
 subst hn
 unfold OkS at h h'
 simp only at h h' ⊢
 unfold lineOf at e
 simp only at e
 by_cases c1:0<=b
 ·rw[if_pos c1]at e
  by_cases d1:0<=b'
  ·rw[if_pos d1]at e
   have e':dec b.toNat=dec b'.toNat:=by simpa[wordsL] using e
   have:=dec_inj e'
   rw[h.1 c1,h'.1 d1,show b=b' by omega]
  ·rw[if_neg d1]at e
   by_cases d2:0<a'
   ·rw[if_pos d2]at e;simp[wordsL,wProc,wArr]at e
   ·rw[if_neg d2]at e;simp[wordsL,wProc,wInt]at e
 ·rw[if_neg c1]at e
  have hb:=h.2 (by omega)
  by_cases c2:0<a
  ·rw[if_pos c2]at e
   by_cases d1:0<=b'
   ·rw[if_pos d1]at e;simp[wordsL,wProc,wArr]at e
   ·rw[if_neg d1]at e
    have hb':=h'.2 (by omega)
    by_cases d2:0<a'
    ·rw[if_pos d2]at e
     have e':dec a=dec a':=by simpa[wordsL] using e
     rw[dec_inj e',hb,hb']
    ·rw[if_neg d2]at e;simp[wordsL,wArr,wInt]at e
  ·rw[if_neg c2]at e
   by_cases d1:0<=b'
   ·rw[if_pos d1]at e;simp[wordsL,wProc,wInt]at e
   ·rw[if_neg d1]at e
    have hb':=h'.2 (by omega)
    by_cases d2:0<a'
    ·rw[if_pos d2]at e;simp[wordsL,wArr,wInt]at e
    ·rw[show a=a' by omega,hb,hb']
theorem vK {s:Sy}{n:Bs}(h:lineOf s=wordsL [110,111,110,101] [n]):False:=by
 unfold lineOf at h
 split at h
 ·simp[wordsL,wProc]at h
 ·split at h
  ·simp[wordsL,wArr]at h
  ·simp[wordsL,wInt]at h
theorem need_same {l l':List Sy}{n:Bs}(hl:∀ s∈l,OkS s) (hl':∀ s∈l',OkS s) (e:needS l n=needS l' n):(findS l n).map (·.2)=(findS l' n).map (·.2):=by
 unfold needS at e
 cases hs:findS l n with
 | none =>
  cases hs':findS l' n with
  | none=>rfl
  | some s'=>rw[hs,hs']at e;exact(vK e.symm).elim
 | some s =>
  cases hs':findS l' n with
  | none=>rw[hs,hs']at e;exact(vK e).elim
  | some s' =>
   rw[hs,hs']at e
   simp only [Option.map_some,Option.some.injEq]
   exact line_inj (hl s (List.mem_of_find?_eq_some hs)) (hl' s' (List.mem_of_find?_eq_some hs')) ((yw hs).trans (yw hs').symm) e
def ms (w:List Pt):List M:=w.map (·.m)
def Ke {α:Type}(f:Ru α):Prop:=∀ s,match f s with
 | .ok _ s1=>ms s1.w=ms s.w
 | .stop _ s1=>ms s1.w=ms s.w
 | .gas=>True
theorem Ke.pure {α:Type}(v:α):Ke (Ru.pure v):=fun _=>rfl
theorem Ke.stop {α:Type}(way:Nat):Ke (Ru.stop way:Ru α):=fun _=>rfl
theorem Ke.out {α:Type}:Ke (Ru.out:Ru α):=fun _=>trivial
theorem Ke.bind {α β:Type}{f:Ru α}{g:α->Ru β}(hf:Ke f) (hg:∀ v,Ke (g v)):Ke (f.bind g):=by
 intro s
 have h:=hf s
 unfold Ru.bind
 cases hs:f s with
 | ok v s1 =>
  rw[hs]at h
  have h2:=hg v s1
  simp only at h ⊢
  cases hr:g v s1 with
  | ok u s2=>rw[hr]at h2;exact h2.trans h
  | stop way s2=>rw[hr]at h2;exact h2.trans h
  | gas=>trivial
 | stop way s1=>rw[hs]at h;exact h
 | gas=>trivial
theorem Ke.ite {α:Type}{p:Prop} [Decidable p] {f g:Ru α}(hf:Ke f) (hg:Ke g):Ke (if p then f else g):=by split <;> assumption
theorem Ke.tick:Ke tick:=by
 intro s
 unfold Tp.tick
 cases s.left <;> rfl
theorem Ke.tellN (n:Int):Ke (tellN n):=by
 intro s
 unfold Tp.tellN
 by_cases h:s.out.length<200
 ·rw[if_pos h]
 ·rw[if_neg h]
theorem Ke.getV (md nm:Bs):Ke (getV md nm):=fun _=>rfl
theorem Ke.procOf (md nm:Bs):Ke (procOf md nm):=fun _=>rfl
theorem Ke.setV (md nm:Bs) (l:List Int):Ke (setV md nm l):=by
 intro s
 unfold Tp.setV ms
 simp only [List.map_map]
 apply List.map_congr_left
 intro p _
 simp only [Function.comp]
 split <;> rfl
structure KeAll (n:Nat):Prop where
 ex:∀ k md own l,Ke (evX n k md own l)
 exs:∀ k md own l,Ke (evs n k md own l)
 cl:∀ k md p vs,Ke (callP n k md p vs)
 ss:∀ k md own l,Ke (goS n k md own l)
 s1:∀ k md own x,Ke (go1 n k md own x)
 wh:∀ k md own c b,Ke (goW n k md own c b)
theorem ke_all:∀ n,KeAll n:=by
 intro n
 induction n with
 | zero=>exact⟨fun _ _ _ _=>by unfold evX;exact Ke.out,fun _ _ _ _=>by unfold evs;exact Ke.out,fun _ _ _ _=>by unfold callP;exact Ke.out,fun _ _ _ _=>by unfold goS;exact Ke.out,fun _ _ _ _=>by unfold go1;exact Ke.out,fun _ _ _ _ _=>by unfold goW;exact Ke.out⟩
 | succ n ih =>
  refine⟨fun k md own l=>?_,fun k md own l=>?_,fun k md p vs=>?_,fun k md own l=>?_,fun k md own x=>?_,fun k md own c b=>?_⟩
  ·cases l with
   | nil=>unfold evX;exact Ke.pure _
   | cons x t =>
    unfold evX
    refine Ke.ite (Ke.pure _) (Ke.ite (Ke.ite ?_ ((Ke.getV _ _).bind fun _=>Ke.pure _)) (Ke.ite ((ih.ex _ _ _ _).bind fun i=>(Ke.getV _ _).bind fun l=>Ke.ite (Ke.pure _) (Ke.stop _)) (Ke.ite ((ih.ex _ _ _ _).bind fun v=>Ke.pure _) (Ke.ite ((ih.ex _ _ _ _).bind fun a=>Ke.ite (Ke.ite (Ke.pure _) ((ih.ex _ _ _ _).bind fun b=>Ke.pure _)) (Ke.ite (Ke.ite (Ke.pure _) ((ih.ex _ _ _ _).bind fun b=>Ke.pure _)) ((ih.ex _ _ _ _).bind fun b=>?_))) (Ke.ite ((ih.exs _ _ _ _).bind fun vs=>(Ke.procOf _ _).bind fun p=>?_) (Ke.pure _))))))
    ·split
     ·exact Ke.pure _
     ·exact(Ke.getV _ _).bind fun _=>Ke.pure _
    ·split
     ·exact Ke.pure _
     ·exact Ke.stop _
    ·split
     ·exact Ke.pure _
     ·exact ih.cl _ _ _ _
  ·cases l with
   | nil=>unfold evs;exact Ke.pure _
   | cons x t=>unfold evs;exact(ih.ex _ _ _ _).bind fun v=>(ih.exs _ _ _ _).bind fun vs=>Ke.pure _
  ·unfold callP;exact Ke.ite (Ke.stop _) ((ih.ss _ _ _ _).bind fun r=>Ke.pure _)
  ·cases l with
   | nil=>unfold goS;exact Ke.pure _
   | cons x t =>
    unfold goS
    refine Ke.tick.bind fun _=>(ih.s1 _ _ _ _).bind fun r=>?_
    split
    ·exact Ke.pure _
    ·exact ih.ss _ _ _ _
  ·unfold go1
   refine Ke.ite (Ke.ite ((ih.ex _ _ _ _).bind fun v=>?_) ((ih.ex _ _ _ _).bind fun i=>(ih.ex _ _ _ _).bind fun v=>(Ke.getV _ _).bind fun l=>Ke.ite ((Ke.setV _ _ _).bind fun _=>Ke.pure _) (Ke.stop _))) (Ke.ite ((ih.ex _ _ _ _).bind fun v=>Ke.ite (ih.ss _ _ _ _) (ih.ss _ _ _ _)) (Ke.ite (ih.wh _ _ _ _ _) (Ke.ite ((ih.ex _ _ _ _).bind fun v=>Ke.pure _) (Ke.ite ((ih.ex _ _ _ _).bind fun v=>(Ke.tellN _).bind fun _=>Ke.pure _) ((ih.ex _ _ _ _).bind fun _=>Ke.pure _)))))
   split
   ·exact Ke.pure _
   ·exact(Ke.setV _ _ _).bind fun _=>Ke.pure _
  ·unfold goW
   refine(ih.ex _ _ _ _).bind fun v=>Ke.ite (Ke.pure _) ((ih.ss _ _ _ _).bind fun r=>?_)
   split
   ·exact Ke.pure _
   ·exact Ke.tick.bind fun _=>ih.wh _ _ _ _ _
theorem part_ms {w w':List Pt}(h:ms w=ms w') (n:Bs):(partOf w n).map (·.m)=(partOf w' n).map (·.m):=by
 unfold partOf
 have e:∀ v:List Pt,(v.find? fun p=>p.m.name == n).map (·.m)=(ms v).find? fun m=>m.name == n:=by
  intro v
  unfold ms
  rw[List.find?_map]
  rfl
 rw[e,e,h]
theorem seen_ms {ofF:M->List Sy}{w w':List Pt}(h:ms w=ms w'):seenW ofF w=seenW ofF w':=by
 funext k
 have:=congrArg (Option.map ofF) (part_ms h k)
 simpa[seenW,Option.map_map,Function.comp_def] using this
theorem leads_ms {w w':List Pt}(h:ms w=ms w') {a b:Bs}(k:Leads w a b):Leads w' a b:=by
 induction k with
 | refl a=>exact .refl a
 | @step a b c p hp hc _ ih =>
  have:=part_ms h a
  rw[hp]at this
  cases hq:partOf w' a with
  | none=>rw[hq]at this;cases this
  | some q =>
   rw[hq]at this
   simp only [Option.map_some,Option.some.injEq]at this
   exact .step hq (this ▸ hc) ih
structure WI (ofF:M->List Sy) (w:List Pt):Prop where
 nd:((ms w).map (·.name)).Nodup
 ck:∀ m∈ms w,check m (seenW ofF w)=none
 ac:∀ m∈ms w,∀ n∈m.imports,¬Leads w n m.name
theorem WI.ms {ofF:M->List Sy}{w w':List Pt}(h:WI ofF w) (e:Tp.ms w'=Tp.ms w):WI ofF w' :=
 ⟨by rw[e];exact h.nd,fun m hm=>by rw[seen_ms e];exact h.ck m (e ▸ hm),fun m hm n hn k=>h.ac m (e ▸ hm) n hn (leads_ms e k)⟩
theorem WI.empty (ofF:M->List Sy):WI ofF []:=⟨List.nodup_nil,fun m hm=>(by cases hm),fun m hm=>(by cases hm)⟩
theorem part_name {w:List Pt}{n:Bs}{p:Pt}(h:partOf w n=some p):p∈w/\p.m.name=n:=⟨List.mem_of_find?_eq_some h,by simpa using List.find?_some h⟩
theorem part_last {w:List Pt}{q:Pt}{n:Bs}(h:n≠q.m.name):partOf (w++[q]) n=partOf w n:=by
 unfold partOf
 rw[List.find?_append,List.find?_cons_of_neg (by simpa using fun e=>h e.symm)]
 simp
theorem WI.add {ofF:M->List Sy}{w:List Pt}{q:Pt}(h:WI ofF w) (hn:partOf w q.m.name=Option.none) (hc:check q.m (seenW ofF w)=Option.none):WI ofF (w++[q]):=by
 have hnm:∀ p∈w,p.m.name≠q.m.name:=fun p hp e=>by
  have:=List.find?_eq_none.1 hn p hp
  simp[e]at this
 have himp:∀ m∈Tp.ms w,q.m.name ∉ m.imports:=fun m hm hi=>by
  have:=(check_none.1 (h.ck m hm)).1.1 _ hi
  exact this.2 (by unfold seenW;rw[hn];rfl)
 have himq:q.m.name ∉ q.m.imports:=fun hi=>((check_none.1 hc).1.1 _ hi).1 rfl
 have hse:∀ n,n≠q.m.name->seenW ofF (w++[q]) n=seenW ofF w n:=fun n e=>by unfold seenW;rw[part_last e]
 have hck:∀ m,q.m.name ∉ m.imports->check m (seenW ofF (w++[q]))=check m (seenW ofF w):=fun m hm=>jI fun n hn=>hse n fun e=>hm (e ▸ hn)
 have hld:∀ a b,Leads (w++[q]) a b->a≠q.m.name->Leads w a b/\b≠q.m.name:=by
  intro a b k
  induction k with
  | refl a=>exact fun e=>⟨.refl a,e⟩
  | step hp hcc _ ih =>
   intro e
   rw[part_last e]at hp
   have hpm:=(part_name hp).1
   obtain⟨i1,i2⟩:=ih (fun e2=>himp _ (List.mem_map.2 ⟨_,hpm,rfl⟩) (e2 ▸ hcc))
   exact⟨.step hp hcc i1,i2⟩
 have hms:Tp.ms (w++[q])=Tp.ms w++[q.m]:=by simp[Tp.ms]
 refine⟨?_,fun m hm=>?_,fun m hm n hnn k=>?_⟩
 ·rw[hms,List.map_append,List.nodup_append]
  refine⟨h.nd,by simp,fun a ha b hb e=>?_⟩
  simp only [Tp.ms,List.map_map,List.mem_map,Function.comp]at ha
  obtain⟨p,hp,rfl⟩:=ha
  simp at hb
  exact hnm p hp (e.trans hb)
 ·rw[hms]at hm
  rcases List.mem_append.1 hm with q1|q1
  ·rw[hck m (himp m q1)];exact h.ck m q1
  ·rw[List.mem_singleton]at q1
   subst q1
   rw[hck _ himq];exact hc
 ·rw[hms]at hm
  rcases List.mem_append.1 hm with q1|q1
  ·exact h.ac m q1 n hnn (hld _ _ k (fun e=>himp m q1 (e ▸ hnn))).1
  ·rw[List.mem_singleton]at q1
   subst q1
   exact(hld _ _ k (fun e=>himq (e ▸ hnn))).2 rfl
theorem endOf_ms {n k:Nat}{md:Bs}{own:Own}{l:List S}{s:Rs}(h:goS n k md own l s≠.gas):ms (endOf (goS n k md own l s)).1=ms s.w:=by
 have:=(ke_all n).ss k md own l s
 cases hr:goS n k md own l s with
 | ok v s1=>rw[hr]at this;exact this
 | stop way s1=>rw[hr]at this;exact this
 | gas=>exact absurd hr h
theorem WI.load {ofF:M->List Sy}{w:List Pt}{m:M}{f:Nat}(h:WI ofF w):WI ofF (loadW ofF w m f).w:=by
 unfold loadW
 split
 ·exact h
 ·rename_i h0
  cases hc:check m (seenW ofF w) with
  | some e=>exact h
  | none =>
   simp only
   split
   ·exact h
   ·refine WI.ms (WI.add (q:=⟨m,fresh m⟩) h ?_ hc) ?_
    ·simpa using h0
    ·exact endOf_ms goS_enough
theorem WI.call {ofF:M->List Sy}{w:List Pt}{md pn:Bs}{args:List Int}{f:Nat}(h:WI ofF w):WI ofF (callW w md pn args f).w:=by
 unfold callW
 cases hp:(partOf w md).bind fun p=>p.m.procs.find? fun c=>c.name == pn && c.seen with
 | none=>exact h
 | some c =>
  simp only
  split
  ·exact h
  ·refine WI.ms h ?_
   obtain⟨pt,hp1,hp2⟩:=Option.bind_eq_some_iff.1 hp
   have hsz:SizeOf.sizeOf c.body<=bodySz w:=bodySz_bd w 0 [] pt (List.mem_of_find?_eq_some hp1) c (List.mem_of_find?_eq_some hp2)
   have hg:=callP_enough (fuel:=f) (md:=md) (vs:=args) (out:=[]) hsz
   have:=(ke_all (Tp.nd (bodySz w) f 0)).cl 0 md c args ⟨w,f,[]⟩
   cases hr:callP (Tp.nd (bodySz w) f 0) 0 md c args ⟨w,f,[]⟩ with
   | ok v s1=>rw[hr]at this;exact this
   | stop way s1=>rw[hr]at this;exact this
   | gas=>exact absurd hr hg
def putM (w:List Pt) (m:M):List Pt:=w.map fun q=>if q.m.name=m.name then ⟨m,swapV q.m m q.vars⟩ else q
theorem part_put {w:List Pt}{m:M}{n:Bs}(h:n≠m.name):partOf (putM w m) n=partOf w n:=by
 unfold partOf putM
 induction w with
 | nil=>rfl
 | cons q t ih =>
  rw[List.map_cons]
  by_cases e:q.m.name=m.name
  ·rw[if_pos e,List.find?_cons_of_neg (by simpa using fun e2=>h e2.symm),List.find?_cons_of_neg (by simpa using fun e2=>h (e2.symm.trans e))]
   exact ih
  ·rw[if_neg e]
   by_cases e2:q.m.name=n
   ·rw[List.find?_cons_of_pos (by simpa using e2),List.find?_cons_of_pos (by simpa using e2)]
   ·rw[List.find?_cons_of_neg (by simpa using e2),List.find?_cons_of_neg (by simpa using e2)]
    exact ih
theorem part_put_self {w:List Pt}{m:M}{p:Pt}(h:partOf w m.name=some p):partOf (putM w m) m.name=some ⟨m,swapV p.m m p.vars⟩:=by
 unfold partOf putM at *
 induction w with
 | nil=>cases h
 | cons q t ih =>
  rw[List.map_cons]
  by_cases e:q.m.name=m.name
  ·rw[List.find?_cons_of_pos (by simpa using e)]at h
   cases h
   rw[if_pos e,List.find?_cons_of_pos (by simp)]
  ·rw[List.find?_cons_of_neg (by simpa using e)]at h
   rw[if_neg e,List.find?_cons_of_neg (by simpa using e)]
   exact ih h
theorem put_mem {w:List Pt}{m x:M}(h:x∈ms (putM w m)):x=m\/x∈ms w/\x.name≠m.name:=by
 unfold ms putM at h
 simp only [List.map_map,List.mem_map,Function.comp]at h
 obtain⟨q,hq,rfl⟩:=h
 by_cases e:q.m.name=m.name
 ·rw[if_pos e];exact Or.inl rfl
 ·rw[if_neg e];exact Or.inr ⟨List.mem_map.2 ⟨q,hq,rfl⟩,e⟩
theorem put_names {w:List Pt}{m:M}:(ms (putM w m)).map (·.name)=(ms w).map (·.name):=by
 unfold ms putM
 simp only [List.map_map]
 apply List.map_congr_left
 intro q _
 simp only [Function.comp]
 split
 ·rename_i e;exact e.symm
 ·rfl
theorem uB {ofF:M->List Sy}{w:List Pt}(h:WI ofF w) {x:M}(hx:x∈ms w):∃ p,partOf w x.name=some p/\p.m=x:=by
 have hnd:=h.nd
 clear h
 unfold ms at hx hnd
 induction w with
 | nil=>cases hx
 | cons q t ih =>
  unfold partOf
  rw[List.map_cons]at hx hnd
  rw[List.map_cons,List.nodup_cons]at hnd
  by_cases e:q.m.name=x.name
  ·refine⟨q,List.find?_cons_of_pos (by simpa using e),?_⟩
   rcases List.mem_cons.1 hx with e2|e2
   ·exact e2.symm
   ·exact absurd (List.mem_map.2 ⟨x,e2,e.symm⟩) hnd.1
  ·rw[List.find?_cons_of_neg (by simpa using e)]
   rcases List.mem_cons.1 hx with e2|e2
   ·exact absurd (by rw[e2]) e
   ·exact ih e2 hnd.2
theorem Leads.trans {w:List Pt}{a b c:Bs}(h:Leads w a b) (k:Leads w b c):Leads w a c:=by
 induction h with
 | refl a=>exact k
 | step hp hc _ ih=>exact .step hp hc (ih k)
theorem vL {w:List Pt}{m:M}{a:Bs}(h:Leads (putM w m) a m.name):Leads w a m.name:=by
 generalize hb:m.name=b at h
 induction h with
 | refl a=>exact .refl a
 | @step a b c p hp hc _ ih =>
  by_cases e:a=m.name
  ·rw[e,hb];exact .refl _
  ·rw[part_put e]at hp
   exact .step hp hc (ih hb)
theorem leads_put' {w:List Pt}{m:M}{p:Pt}(hp0:partOf w m.name=some p) {a b:Bs}(h:Leads (putM w m) a b):Leads w a b\/∃ n∈m.imports,Leads w n b/\Leads (putM w m) a m.name:=by
 induction h with
 | refl a=>exact Or.inl (.refl a)
 | @step a b c q hp hc _ ih =>
  rcases ih with i|⟨n,i1,i2,i3⟩
  ·by_cases e:a=m.name
   ·subst e
    rw[part_put_self hp0]at hp
    cases hp
    exact Or.inr ⟨c,hc,i,.refl _⟩
   ·rw[part_put e]at hp
    exact Or.inl (.step hp hc i)
  ·exact Or.inr ⟨n,i1,i2,.step hp hc i3⟩
theorem findS_same {l l':List Sy}{n:Bs}(h:(findS l n).map (·.2)=(findS l' n).map (·.2)):findS l n=findS l' n:=by
 cases h1:findS l n with
 | none =>
  cases h2:findS l' n with
  | none=>rfl
  | some s=>rw[h1,h2]at h;cases h
 | some s =>
  cases h2:findS l' n with
  | none=>rw[h1,h2]at h;cases h
  | some s' =>
   rw[h1,h2]at h
   simp only [Option.map_some,Option.some.injEq]at h
   exact congrArg some (Prod.ext ((yw h1).trans (yw h2).symm) h)
theorem WI.put {ofF:M->List Sy}(hof:∀ m,∀ s∈ofF m,OkS s) {w:List Pt}{m:M}{p:Pt}(h:WI ofF w) (hp:partOf w m.name=some p) (hc:check m (seenW ofF w)=none) (ha:¬∃ n∈m.imports,Leads w n m.name) (hu:∀ q∈w,∀ n∈usedR q.m m.name,needS (ofF m) n=needS (ofF p.m) n):WI ofF (putM w m):=by
 have hse:∀ n,n≠m.name->seenW ofF (putM w m) n=seenW ofF w n:=fun n e=>by unfold seenW;rw[part_put e]
 have hsm:seenW ofF (putM w m) m.name=some (ofF m):=by unfold seenW;rw[part_put_self hp];rfl
 have hsw:seenW ofF w m.name=some (ofF p.m):=by unfold seenW;rw[hp];rfl
 have himq:m.name ∉ m.imports:=fun hi=>((check_none.1 hc).1.1 _ hi).1 rfl
 refine⟨by rw[put_names];exact h.nd,fun x hx=>?_,fun x hx n hn k=>?_⟩
 ·rcases put_mem hx with rfl|⟨hx1,_⟩
  ·rw[jI (b:=seenW ofF w) fun n hn=>hse n fun e=>himq (e ▸ hn)];exact hc
  ·have hf:=check_none.1 (h.ck x hx1)
   rw[check_none]
   refine fine_same hf (fun n hn=>?_) (fun r hr h0 hi=>?_)
   ·by_cases e:n=m.name
    ·rw[e,hsm];simp
    ·rw[hse n e];exact(hf.1.1 n hn).2
   ·by_cases e:r.mod=m.name
    ·rw[e,hsm,hsw]
     obtain⟨q,hq,hqm⟩:=List.mem_map.1 hx1
     have hus:r.name∈usedR q.m m.name:=by
      rw[hqm]
      exact usedR_mem.2 ⟨e ▸ h0,r,hr,e,rfl⟩
     exact findS_same (need_same (hof _) (hof _) (hu q hq _ hus).symm)
    ·rw[hse _ e]
 ·rcases put_mem hx with rfl|⟨hx1,_⟩
  ·exact ha ⟨n,hn,vL k⟩
  ·rcases leads_put' hp k with i|⟨n',i1,i2,i3⟩
   ·exact h.ac x hx1 n hn i
   ·obtain⟨px,hpx,hpe⟩:=uB h hx1
    exact ha ⟨n',i1,i2.trans (.step hpx (hpe ▸ hn) (vL i3))⟩
def Sk (l:List R):Prop:=∀ r∈l,okn r.name
theorem Sk.app {l m:List R}(h:Sk l) (k:Sk m):Sk (l++m):=fun r hr=>by
 rcases List.mem_append.1 hr with q|q
 ·exact h r q
 ·exact k r q
theorem Sk.nil:Sk []:=fun r hr=>by cases hr
theorem wx_okn:∀(n:Nat) (l:List X),SizeOf.sizeOf l<=n->WX l->Sk (rx l):=by
 intro n
 induction n with
 | zero=>intro l hl;cases l <;> simp at hl <;> omega
 | succ n ih =>
  intro l hl h
  cases l with
  | nil=>rw[rx];exact Sk.nil
  | cons x xs =>
   obtain⟨code,pos,nn,m,nm,op,le,ri,ar⟩:=x
   rw[WX]at h
   simp at hl
   obtain⟨h1,h2⟩:=h
   have hxs:=ih xs (by omega) h2
   have key:Sk (if code=2\/code=3\/code=6 then [⟨code,pos,m,nm,ar.length⟩] else [])/\Sk (rx le)/\Sk (rx ri)/\Sk (rx ar):=by
    have one:okr m nm->Sk (if code=2\/code=3\/code=6 then [⟨code,pos,m,nm,ar.length⟩] else []):=by
     intro hk r hr
     split at hr
     ·rw[List.mem_singleton.1 hr];exact hk.2
     ·cases hr
    have non:¬(code=2\/code=3\/code=6)->Sk (if code=2\/code=3\/code=6 then [⟨code,pos,m,nm,ar.length⟩] else []):=by
     intro hk
     rw[if_neg hk];exact Sk.nil
    have nil:Sk (rx []):=by rw[rx];exact Sk.nil
    rcases h1 with⟨c,_,_,_,_,h5,h6,h7⟩|⟨c,_,h3,_,h5,h6,h7⟩|⟨c,_,h3,_,h5,_,h6,h7⟩|⟨c,_,_,_,_,h5,_,h6,h7⟩|⟨c,_,_,_,_,h5,_,h6,_,h7⟩|⟨c,_,h3,_,h5,h6,h7⟩
    ·exact⟨non (by omega),by rw[h5];exact nil,by rw[h6];exact nil,by rw[h7];exact nil⟩
    ·exact⟨one h3,by rw[h5];exact nil,by rw[h6];exact nil,by rw[h7];exact nil⟩
    ·exact⟨one h3,ih _ (by omega) h5,by rw[h6];exact nil,by rw[h7];exact nil⟩
    ·exact⟨non (by omega),ih _ (by omega) h5,by rw[h6];exact nil,by rw[h7];exact nil⟩
    ·exact⟨non (by omega),ih _ (by omega) h5,ih _ (by omega) h6,by rw[h7];exact nil⟩
    ·exact⟨one h3,by rw[h5];exact nil,by rw[h6];exact nil,ih _ (by omega) h7⟩
   rw[rx]
   exact(((key.1.app key.2.1).app key.2.2.1).app key.2.2.2).app hxs
theorem ws_okn:∀(n:Nat) (l:List S),SizeOf.sizeOf l<=n->WS l->Sk (rs l):=by
 intro n
 induction n with
 | zero=>intro l hl;cases l <;> simp at hl <;> omega
 | succ n ih =>
  intro l hl h
  cases l with
  | nil=>rw[rs];exact Sk.nil
  | cons x xs =>
   obtain⟨code,pos,nm,ix,vl,th,el⟩:=x
   rw[WS]at h
   simp at hl
   obtain⟨h1,h2⟩:=h
   have hxs:=ih xs (by omega) h2
   have nx:Sk (rx []):=by rw[rx];exact Sk.nil
   have ns:Sk (rs []):=by rw[rs];exact Sk.nil
   have wv:ev vl->Sk (rx vl):=fun q=>wx_okn _ _ (Nat.le_refl _) q.1
   have non:code≠1->Sk (if code=1 then [⟨if ix.isEmpty then 2 else 3,pos,[],nm,0⟩] else []):=by
    intro hk
    rw[if_neg hk];exact Sk.nil
   have key:Sk (if code=1 then [⟨if ix.isEmpty then 2 else 3,pos,[],nm,0⟩] else [])/\Sk (rx ix)/\Sk (rx vl)/\Sk (rs th)/\Sk (rs el):=by
    rcases h1 with⟨c,h3,h4,h5,h6,h7⟩|⟨c,_,h4,h5,h6,h7⟩|⟨c,_,h4,h5,h6,h7⟩|⟨c,_,h4,h5,h6,h7⟩|⟨c,_,h4,h5,_,h6,h7⟩
    ·refine⟨?_,?_,wv h5,by rw[h6];exact ns,by rw[h7];exact ns⟩
     ·intro r hr
      rw[if_pos c]at hr
      rw[List.mem_singleton.1 hr]
      exact h3
     ·rcases h4 with q|q
      ·rw[q];exact nx
      ·exact wx_okn _ _ (Nat.le_refl _) q.1
    ·exact⟨non (by omega),by rw[h4];exact nx,wv h5,ih _ (by omega) h6,ih _ (by omega) h7⟩
    ·exact⟨non (by omega),by rw[h4];exact nx,wv h5,ih _ (by omega) h6,by rw[h7];exact ns⟩
    ·exact⟨non (by omega),by rw[h4];exact nx,wv h5,by rw[h6];exact ns,by rw[h7];exact ns⟩
    ·exact⟨non (by omega),by rw[h4];exact nx,wv h5,by rw[h6];exact ns,by rw[h7];exact ns⟩
   rw[rs]
   exact((((key.1.app key.2.1).app key.2.2.1).app key.2.2.2.1).app key.2.2.2.2).app hxs
theorem allR_okn {m:M}(h:WM m):Sk (allR m):=by
 unfold allR
 refine Sk.app (fun r hr=>?_) (ws_okn _ _ (Nat.le_refl _) h.b)
 rw[List.mem_flatten]at hr
 obtain⟨l,hl,hr⟩:=hr
 obtain⟨p,hp,rfl⟩:=List.mem_map.1 hl
 exact ws_okn _ _ (Nat.le_refl _) (h.p p hp).b r hr
theorem used_okn {m:M}(h:WM m) {of n:Bs}(hn:n∈usedR m of):okn n:=by
 unfold usedR at hn
 obtain⟨r,hr,rfl⟩:=List.mem_map.1 hn
 exact allR_okn h r (List.mem_filter.1 hr).1
theorem okn_no10 {n:Bs}(h:okn n):(10:UInt8) ∉ n:=fun hm=>by
 obtain⟨c,l,_,_,hd⟩:=h.1
 have:=hd 10 hm
 revert this
 decide
theorem needs_any {l l':List Sy}{ns:List Bs}{m:M}{of:Bs}(hw:WM m) (hm:∀ x,x∈ns↔x∈usedR m of):(needsS l ns=needsS l' ns)↔((usedR m of).any fun n=>needS l n != needS l' n)=false:=by
 rw[needsS_inj (fun n hn=>okn_no10 (used_okn hw ((hm n).1 hn))),List.any_eq_false]
 constructor
 ·intro h n hn
  simpa using h n ((hm n).2 hn)
 ·intro h n hn
  simpa using h n ((hm n).1 hn)
end Tp
