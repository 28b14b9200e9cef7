import Derived.Test.YtibncofnnlbmcaaGreatDoorKPb
import Derived.KernelRfl
set_option maxRecDepth 100000
set_option maxHeartbeats 4000000
namespace Tp
theorem okn_len {n:Bs}(h:okn n):n.length<=10:=h.2.2
theorem wx_mem {l:List X}(h:WX l):∀y,y∈l->WX [y]:=by
 induction l with
 |nil=>intro y a;cases a
 |cons x l ih =>
  intro y a
  have b:WX [x]/\WX l:=by obtain⟨⟩:=x;rw[WX]at h;exact⟨by rw[WX];exact⟨h.1,kV⟩,h.2⟩
  rcases List.mem_cons.mp a with rfl|a
  ·exact b.1
  ·exact ih b.2 y a
theorem dec_d {n:Nat}(h:n<10):dec n=[UInt8.ofNat (48+n)]:=by rw[dec];simp[h]
abbrev Sy:=Bs×Nat×Int
def wArr:Bs:=[97,114,114,97,121]
def wordsL (first:Bs) (ss:List Bs):Bs:=first++(ss.map fun s=>(32:UInt8) :: s).flatten++[10]
def lineOf (s:Sy):Bs:=if 0<=s.2.2 then wordsL wProc [s.1,dec s.2.2.toNat] else if 0<s.2.1 then wordsL wArr [s.1,dec s.2.1] else wordsL wInt [s.1]
def syG (g:G):Sy:=(g.name,g.len,-1)
def syP (p:Pr):Sy:=(p.name,0,(p.params.length:Int))
def symsOf (m:M):List Sy:=(m.vars.filter (·.seen)).map syG++(m.procs.filter (·.seen)).map syP
def findS (l:List Sy) (n:Bs):Option Sy:=l.find? fun s=>s.1==n
def needS (l:List Sy) (n:Bs):Bs:=match findS l n with
 |some s=>lineOf s
 |none=>wordsL [110,111,110,101] [n]
def needsS (l:List Sy) (ns:List Bs):Bs:=(ns.map (needS l)).flatten
structure R where
 code:Nat
 pos:Nat
 mod:Bs
 name:Bs
 args:Nat
def rx:List X->List R
 |[]=>[]
 | ⟨code,pos,_,m,nm,_,le,ri,ar⟩ :: xs =>
  (if code=2\/code=3\/code=6 then [⟨code,pos,m,nm,ar.length⟩] else [])++rx le++rx ri++rx ar++rx xs
def rs:List S->List R
 |[]=>[]
 | ⟨code,pos,nm,ix,vl,th,el⟩ :: ss =>
  (if code=1 then [⟨if ix.isEmpty then 2 else 3,pos,[],nm,0⟩] else [])++rx ix++rx vl++rs th++rs el++rs ss
def allR (m:M):List R:=(m.procs.map fun p=>rs p.body).flatten++rs m.body
def usedR (m:M) (of:Bs):List Bs:=((allR m).filter fun r=>!(of==[])&&r.mod==of).map (·.name)
abbrev Seen:=Bs->Option (List Sy)
abbrev Ck:=Option (Nat×Option Nat)
def stand (m:M) (own:List Bs) (seen:Seen) (md nm:Bs):Except Nat (Nat×Int) :=
 if md≠[] then
  if md∈m.imports then
   match findS ((seen md).getD []) nm with
   |some s=>.ok s.2
   |none=>.error 7
  else .error 5
 else if nm∈own then .ok (0,-1)
 else match m.vars.find? fun g=>g.name==nm with
  |some g=>.ok (g.len,-1)
  |none=>match m.procs.find? fun p=>p.name==nm with
   |some p=>.ok (0,(p.params.length:Int))
   |none=>.error 7
def kindOf (s:Nat×Int):Nat:=if 0<=s.2 then 6 else if 0<s.1 then 3 else 2
def judge (m:M) (own:List Bs) (seen:Seen) (r:R):Ck :=
 match stand m own seen r.mod r.name with
 | .error e=>some (e,some r.pos)
 | .ok s=>if kindOf s≠r.code then some (1,some r.pos)
  else if r.code=6/\(r.args:Int)≠s.2 then some (2,some r.pos) else none
def imps (own:Bs) (seen:Seen):List Bs->List Bs->Ck
 | _,[]=>none
 |ah,n :: t=>if n=own\/n∈ah then some (10,none) else if seen n=none then some (8,none) else imps own seen (n :: ah) t
def tw:List Bs->List (Bs×Nat)->Ck
 | _,[]=>none
 |ah,(n,p) :: t=>if n∈ah then some (9,some p) else tw (n :: ah) t
def ownOf (p:Pr):List Bs:=p.params++p.vars
def checkP (m:M) (seen:Seen) (p:Pr):Ck :=
 (tw [] ((ownOf p).map fun n=>(n,p.pos))).or ((rs p.body).findSome? (judge m (ownOf p) seen))
def check (m:M) (seen:Seen):Ck :=
 (imps m.name seen [] m.imports).or <|
 (tw [] (m.vars.map (fun g=>(g.name,g.pos))++m.procs.map (fun p=>(p.name,p.pos)))).or <|
 (m.procs.findSome? (checkP m seen)).or ((rs m.body).findSome? (judge m [] seen))
theorem ud {own:Bs}{j:Seen}:∀{l d:List Bs},imps own j d l=none↔(∀n∈l,n≠own/\n ∉ d/\j n≠none)/\l.Nodup:=by
 intro l
 induction l with
 |nil=>intro d;simp[imps]
 |cons n t ih =>
  intro d
  unfold imps
  by_cases g:n=own\/n∈d
  ·rw[if_pos g]
   refine⟨fun h=>by simp at h,fun h=>?_⟩
   have:=h.1 n (by simp)
   rcases g with e|e
   ·exact absurd e this.1
   ·exact absurd e this.2.1
  ·rw[if_neg g]
   by_cases i:j n=none
   ·rw[if_pos i]
    refine⟨fun h=>by simp at h,fun h=>?_⟩
    exact absurd i (h.1 n (by simp)).2.2
   ·rw[if_neg i,ih,List.nodup_cons]
    have m:n≠own:=fun e=>g (.inl e)
    have o:n ∉ d:=fun e=>g (.inr e)
    constructor
    ·rintro⟨a,b⟩
     refine⟨?_,?_,b⟩
     ·intro k f
      rcases List.mem_cons.1 f with e|e
      ·subst e;exact⟨m,o,i⟩
      ·have:=a k e
       exact⟨this.1,fun q=>this.2.1 (List.mem_cons_of_mem _ q),this.2.2⟩
     ·intro f
      exact(a n f).2.1 (by simp)
    ·rintro⟨a,b,c⟩
     refine⟨?_,c⟩
     intro k f
     have:=a k (List.mem_cons_of_mem _ f)
     refine⟨this.1,?_,this.2.2⟩
     intro q
     rcases List.mem_cons.1 q with e|e
     ·subst e;exact b f
     ·exact this.2.1 e
theorem tw_none:∀{l:List (Bs×Nat)}{f:List Bs},tw f l=none↔(∀n∈l.map (·.1),n ∉ f)/\(l.map (·.1)).Nodup:=by
 intro l
 induction l with
 |nil=>intro f;simp[tw]
 |cons x t ih =>
  obtain⟨n,p⟩:=x
  intro f
  unfold tw
  by_cases g:n∈f
  ·rw[if_pos g]
   refine⟨fun h=>by simp at h,fun h=>?_⟩
   exact absurd g (h.1 n (by simp))
  ·rw[if_neg g,ih,List.map_cons,List.nodup_cons]
   constructor
   ·rintro⟨a,b⟩
    refine⟨?_,?_,b⟩
    ·intro k d
     rcases List.mem_cons.1 d with e|e
     ·subst e;exact g
     ·exact fun q=>a k e (List.mem_cons_of_mem _ q)
    ·intro d
     exact a n d (by simp)
   ·rintro⟨a,b,c⟩
    refine⟨?_,c⟩
    intro k d q
    rcases List.mem_cons.1 q with e|e
    ·subst e;exact b d
    ·exact a k (List.mem_cons_of_mem _ d) e
def Fine (m:M) (seen:Seen):Prop :=
 ((∀n∈m.imports,n≠m.name/\seen n≠none)/\m.imports.Nodup) /\
 (m.vars.map (·.name)++m.procs.map (·.name)).Nodup /\
 (∀p∈m.procs,(ownOf p).Nodup/\∀r∈rs p.body,judge m (ownOf p) seen r=none) /\
 ∀r∈rs m.body,judge m [] seen r=none
theorem check_none {m:M}{a:Seen}:check m a=none↔Fine m a:=by
 unfold check Fine
 rw[Option.or_eq_none_iff,Option.or_eq_none_iff,Option.or_eq_none_iff,ud,tw_none,List.findSome?_eq_none_iff,List.findSome?_eq_none_iff]
 have b:(m.vars.map (fun g=>(g.name,g.pos))++m.procs.map (fun p=>(p.name,p.pos))).map (·.1)=m.vars.map (·.name)++m.procs.map (·.name):=by simp[Function.comp_def]
 rw[b]
 have c:∀p:Pr,checkP m a p=none↔(ownOf p).Nodup/\∀r∈rs p.body,judge m (ownOf p) a r=none:=by
  intro p
  unfold checkP
  rw[Option.or_eq_none_iff,tw_none,List.findSome?_eq_none_iff]
  have:((ownOf p).map fun n=>(n,p.pos)).map (·.1)=ownOf p:=by simp[Function.comp_def]
  rw[this]
  simp
 simp only[c]
 simp
theorem find_key {α:Type}{key:α->Bs}{k:Bs}:∀{l:List α},(l.map key).Nodup->∀x,l.find? (fun a=>key a==k)=some x↔x∈l/\key x=k:=by
 intro l
 induction l with
 |nil=>intro _ x;simp
 |cons a t ih =>
  intro h x
  rw[List.map_cons,List.nodup_cons]at h
  rw[List.find?_cons]
  by_cases e:key a=k
  ·have:(key a==k)=true:=by simpa using e
   rw[this]
   constructor
   ·intro q
    simp only[Option.some.injEq]at q
    subst q
    exact⟨by simp,e⟩
   ·rintro⟨q,w⟩
    rcases List.mem_cons.1 q with z|z
    ·subst z;rfl
    ·exact absurd (List.mem_map.2 ⟨x,z,w.trans e.symm⟩) h.1
  ·have:(key a==k)=false:=by simpa using e
   rw[this]
   simp only
   rw[ih h.2]
   constructor
   ·rintro⟨q,w⟩;exact⟨List.mem_cons_of_mem _ q,w⟩
   ·rintro⟨q,w⟩
    rcases List.mem_cons.1 q with z|z
    ·subst z;exact absurd w e
    ·exact⟨z,w⟩
theorem x7 {m:M}{own:List Bs}{a b:Seen}{r:R}
  (h:r.mod≠[]->r.mod∈m.imports->findS ((a r.mod).getD []) r.name=findS ((b r.mod).getD []) r.name):judge m own a r=judge m own b r:=by
 unfold judge stand
 by_cases c:r.mod≠[]
 ·by_cases d:r.mod∈m.imports
  ·rw[if_pos c,if_pos c,if_pos d,if_pos d,h c d]
  ·rw[if_pos c,if_pos c,if_neg d,if_neg d]
 ·rw[if_neg c,if_neg c]
theorem fine_same {m:M}{a b:Seen}(h:Fine m a)(g:∀n∈m.imports,b n≠none)
  (f:∀r∈allR m,r.mod≠[]->r.mod∈m.imports->findS ((a r.mod).getD []) r.name=findS ((b r.mod).getD []) r.name):Fine m b:=by
 refine⟨⟨fun n e=>⟨(h.1.1 n e).1,g n e⟩,h.1.2⟩,h.2.1,?_,?_⟩
 ·intro p d
  refine⟨(h.2.2.1 p d).1,fun r c=>?_⟩
  rw[<-x7 (a:=a) (f r ?_)]
  ·exact(h.2.2.1 p d).2 r c
  ·unfold allR
   rw[List.mem_append]
   exact .inl (List.mem_flatten.2 ⟨rs p.body,List.mem_map.2 ⟨p,d,rfl⟩,c⟩)
 ·intro r c
  rw[<-x7 (a:=a) (f r ?_)]
  ·exact h.2.2.2 r c
  ·unfold allR
   rw[List.mem_append]
   exact .inr c
theorem usedR_mem {m:M}{of n:Bs}:n∈usedR m of↔of≠[]/\∃r∈allR m,r.mod=of/\r.name=n:=by
 unfold usedR
 rw[List.mem_map]
 constructor
 ·rintro⟨r,a,e⟩
  rw[List.mem_filter]at a
  have:=a.2
  simp at this
  exact⟨this.1,r,a.1,this.2,e⟩
 ·rintro⟨d,r,a,b,c⟩
  refine⟨r,?_,c⟩
  rw[List.mem_filter]
  refine⟨a,?_⟩
  simp[d,b]
abbrev Th:=Bs×Nat×Nat×Int
def thG (g:G):Th:=(g.name,g.pos,g.len,-1)
def thP (p:Pr):Th:=(p.name,p.pos,0,(p.params.length:Int))
def things (m:M):List Th:=m.vars.map thG++m.procs.map thP
def ownT (p:Pr):List Th:=(ownOf p).map fun n=>(n,p.pos,0,-1)
def lkT (l:List Th) (k:Bs):Option (Nat×Int):=(l.find? fun x=>x.1==k).map fun x=>x.2.2
theorem lkT_snoc {l:List Th}{x:Th}(h:x.1 ∉ l.map (·.1))(k:Bs):lkT (l++[x]) k=if k=x.1 then some x.2.2 else lkT l k:=by
 unfold lkT
 rw[List.find?_append]
 by_cases e:k=x.1
 ·have:l.find? (fun y=>y.1==k)=none:=by
   rw[List.find?_eq_none]
   intro y b
   have a:y.1≠k:=fun q=>h (List.mem_map.2 ⟨y,b,q.trans e⟩)
   simpa using a
  rw[this,if_pos e]
  subst e
  simp
 ·rw[if_neg e]
  have:[x].find? (fun y=>y.1==k)=none:=by
   rw[List.find?_cons]
   have:(x.1==k)=false:=by simpa using fun q=>e q.symm
   rw[this];rfl
  rw[this]
  simp
theorem lkT_some {l:List Th}{k:Bs}:(lkT l k).isSome=true↔k∈l.map (·.1):=by
 unfold lkT
 rw[Option.isSome_map,List.find?_isSome,List.mem_map]
 constructor
 ·rintro⟨x,a,e⟩
  exact⟨x,a,by simpa using e⟩
 ·rintro⟨x,a,e⟩
  exact⟨x,a,by simpa using e⟩
def keyT (x:Th):Bs×Nat:=(x.1,x.2.1)
def twr (l:List Th) (i:Nat):Ck:=tw ((l.take i).map (·.1)).reverse ((l.drop i).map keyT)
theorem twr_zero (l:List Th):twr l 0=tw [] (l.map keyT):=by simp[twr]
theorem twr_all (l:List Th)(i:Nat)(h:l.length<=i):twr l i=none:=by
 unfold twr
 rw[List.drop_eq_nil_of_le h]
 rfl
theorem twr_step (l:List Th)(i:Nat)(h:i<l.length):twr l i=if l[i].1∈(l.take i).map (·.1) then some (9,some l[i].2.1) else twr l (i+1):=by
 unfold twr
 rw[List.drop_eq_getElem_cons h,List.map_cons,List.take_succ_eq_append_getElem h,List.map_append,List.reverse_append]
 show tw _ ((l[i].1,l[i].2.1) :: _)=_
 rw[tw]
 simp
def twP (l:List Th) (i:Nat):Option (Nat×Nat):=if h:i<l.length then (if l[i].1∈(l.take i).map (·.1) then some (9,l[i].2.1) else twP l (i+1)) else none
 termination_by l.length-i
def up (o:Option (Nat×Nat)):Ck:=o.map fun x=>(x.1,some x.2)
theorem twP_eq (l:List Th):∀(n i:Nat),l.length-i<=n->twr l i=up (twP l i):=by
 intro n
 induction n with
 |zero=>intro i h;rw[twr_all l i (by omega),twP,dif_neg (by omega)];rfl
 |succ n ih =>
  intro i h
  rw[twP]
  by_cases b:i<l.length
  ·rw[dif_pos b,twr_step l i b]
   by_cases a:l[i].1∈(l.take i).map (·.1)
   ·rw[if_pos a,if_pos a];rfl
   ·rw[if_neg a,if_neg a,ih (i+1) (by omega)]
  ·rw[dif_neg b,twr_all l i (by omega)];rfl
theorem twP_zero (l:List Th):tw [] (l.map keyT)=up (twP l 0):=by rw[<-twr_zero,twP_eq l _ 0 (Nat.le_refl _)]
def standV (fo:Bs->Option (List Sy)) (near:List (Bs->Option (Nat×Int))) (md nm:Bs):Except Nat (Nat×Int) :=
 if md≠[] then
  match fo md with
  |none=>.error 5
  |some l=>match findS l nm with
   |some s=>.ok s.2
   |none=>.error 7
 else match near.findSome? (fun f=>f nm) with
  |some x=>.ok x
  |none=>.error 7
def others (m:M) (seen:Seen):Bs->Option (List Sy):=fun k=>if k∈m.imports then seen k else none
theorem lkT_own (p:Pr)(n:Bs):lkT (ownT p) n=if n∈ownOf p then some (0,-1) else none:=by
 unfold lkT ownT
 rw[List.find?_map,Option.map_map]
 by_cases h:n∈ownOf p
 ·rw[if_pos h]
  have:((ownOf p).find? ((fun x:Th=>x.1==n) ∘ fun k=>(k,p.pos,0,-1))).isSome=true:=by
   rw[List.find?_isSome]
   exact⟨n,h,by simp⟩
  obtain⟨x,a⟩:=Option.isSome_iff_exists.1 this
  rw[a];rfl
 ·rw[if_neg h]
  have:(ownOf p).find? ((fun x:Th=>x.1==n) ∘ fun k=>(k,p.pos,0,-1))=none:=by
   rw[List.find?_eq_none]
   intro x a
   have:x≠n:=fun e=>h (e ▸ a)
   simpa using this
  rw[this];rfl
theorem lkT_things (m:M)(n:Bs):lkT (things m) n=match m.vars.find? (fun g=>g.name==n) with
  |some g=>some (g.len,-1)
  |none=>match m.procs.find? (fun p=>p.name==n) with
   |some p=>some (0,(p.params.length:Int))
   |none=>none:=by
 unfold lkT things
 rw[List.find?_append,List.find?_map,List.find?_map]
 have a:((fun x:Th=>x.1==n) ∘ thG)=fun g=>g.name==n:=rfl
 have b:((fun x:Th=>x.1==n) ∘ thP)=fun g=>g.name==n:=rfl
 rw[a,b]
 cases m.vars.find? (fun g=>g.name==n) with
 |some g=>rfl
 |none=>cases m.procs.find? (fun p=>p.name==n)<;>rfl
theorem xh {m:M}{c:Seen}(h:imps m.name c [] m.imports=none){own:List Bs}{d:List (Bs->Option (Nat×Int))}
  (i:∀n,d.findSome? (fun f=>f n)=if n∈own then some (0,-1) else lkT (things m) n)(md nm:Bs):stand m own c md nm=standV (others m c) d md nm:=by
 unfold stand standV others
 rw[ud]at h
 by_cases b:md≠[]
 ·rw[if_pos b,if_pos b]
  by_cases a:md∈m.imports
  ·rw[if_pos a,if_pos a]
   obtain⟨l,e⟩:=Option.ne_none_iff_exists'.1 (h.1 md a).2.2
   rw[e]
   rfl
  ·rw[if_neg a,if_neg a]
 ·rw[if_neg b,if_neg b,i]
  by_cases a:nm∈own
  ·rw[if_pos a,if_pos a]
  ·rw[if_neg a,if_neg a,lkT_things]
   cases m.vars.find? (fun g=>g.name==nm) with
   |some g=>rfl
   |none=>cases m.procs.find? (fun p=>p.name==nm)<;>rfl
def judgeP (st:Bs->Bs->Except Nat (Nat×Int)) (r:R):Option (Nat×Nat) :=
 match st r.mod r.name with
 | .error e=>some (e,r.pos)
 | .ok s=>if kindOf s≠r.code then some (1,r.pos) else if r.code=6/\(r.args:Int)≠s.2 then some (2,r.pos) else none
theorem judge_up (m:M)(own:List Bs)(c:Seen)(r:R):judge m own c r=up (judgeP (stand m own c) r):=by
 unfold judge judgeP
 cases stand m own c r.mod r.name with
 |error e=>rfl
 |ok s =>
  simp only
  by_cases a:kindOf s≠r.code
  ·rw[if_pos a,if_pos a];rfl
  ·rw[if_neg a,if_neg a]
   by_cases b:r.code=6/\(r.args:Int)≠s.2
   ·rw[if_pos b,if_pos b];rfl
   ·rw[if_neg b,if_neg b];rfl
theorem qo {α:Type}(f:α->Option (Nat×Nat))(l:List α):l.findSome? (fun x=>up (f x))=up (l.findSome? f):=by
 induction l with
 |nil=>rfl
 |cons a t ih =>
  rw[List.findSome?_cons,List.findSome?_cons]
  cases f a with
  |none=>exact ih
  |some b=>rfl
theorem up_or (a b:Option (Nat×Nat)):(up a).or (up b)=up (a.or b):=by cases a<;>rfl
def checkPP (m:M) (seen:Seen) (p:Pr):Option (Nat×Nat) :=
 (twP (ownT p) 0).or ((rs p.body).findSome? (judgeP (standV (others m seen) [lkT (ownT p),lkT (things m)])))
theorem checkP_eq {m:M}{a:Seen}(h:imps m.name a [] m.imports=none)(p:Pr):checkP m a p=up (checkPP m a p):=by
 unfold checkP checkPP
 have c:(ownOf p).map (fun n=>(n,p.pos))=(ownT p).map keyT:=by simp[ownT,keyT]
 have d:(rs p.body).findSome? (judge m (ownOf p) a)=up ((rs p.body).findSome? (judgeP (standV (others m a) [lkT (ownT p),lkT (things m)]))):=by
  rw[<-qo]
  congr 1
  funext r
  rw[judge_up]
  have:stand m (ownOf p) a=standV (others m a) [lkT (ownT p),lkT (things m)]:=by
   funext md nm
   refine xh h (fun n=>?_) md nm
   rw[List.findSome?_cons,lkT_own]
   by_cases b:n∈ownOf p
   ·rw[if_pos b,if_pos b]
   ·rw[if_neg b,if_neg b,List.findSome?_cons]
    cases lkT (things m) n<;>rfl
  rw[this]
 rw[c,twP_zero,d,up_or]
def checkV (m:M) (seen:Seen):Option (Nat×Nat) :=
 (twP (things m) 0).or ((m.procs.findSome? (checkPP m seen)).or ((rs m.body).findSome? (judgeP (standV (others m seen) [lkT (things m)]))))
theorem check_eq (m:M)(a:Seen):check m a=(imps m.name a [] m.imports).or (up (checkV m a)):=by
 unfold check
 cases h:imps m.name a [] m.imports with
 |some e=>rfl
 |none =>
  show _=up (checkV m a)
  unfold checkV
  have b:m.vars.map (fun g=>(g.name,g.pos))++m.procs.map (fun p=>(p.name,p.pos))=(things m).map keyT:=by simp[things,keyT,thG,thP,Function.comp_def]
  have c:m.procs.findSome? (checkP m a)=up (m.procs.findSome? (checkPP m a)):=by
   rw[<-qo]
   congr 1
   funext p
   exact checkP_eq h p
  have d:(rs m.body).findSome? (judge m [] a)=up ((rs m.body).findSome? (judgeP (standV (others m a) [lkT (things m)]))):=by
   rw[<-qo]
   congr 1
   funext r
   rw[judge_up]
   have:stand m [] a=standV (others m a) [lkT (things m)]:=by
    funext md nm
    refine xh h (fun n=>?_) md nm
    rw[List.findSome?_cons,if_neg (by simp)]
    cases lkT (things m) n<;>rfl
   rw[this]
  rw[b,twP_zero,c,d,up_or,up_or]
  rfl
def Sr (l:List R):Prop:=∀r∈l,r.mod.length<=1000000/\r.name.length<=1000000
theorem Sr.app {l m:List R}(h:Sr l)(k:Sr m):Sr (l++m):=fun r a=>by
 rcases List.mem_append.1 a with q|q
 ·exact h r q
 ·exact k r q
theorem Sr.nil:Sr []:=fun r a=>by cases a
theorem yA {n:Bs}(h:okn n):n.length<=1000000:=by have:=h.2.2;omega
theorem okr_len {m n:Bs}(h:okr m n):m.length<=1000000/\n.length<=1000000:=by
 refine⟨?_,yA h.2⟩
 rcases h.1 with q|q
 ·rw[q];simp
 ·exact yA q
theorem wx_small:∀(n:Nat) (l:List X),SizeOf.sizeOf l<=n->WX l->Sr (rx l):=by
 intro n
 induction n with
 |zero=>intro l j;cases l<;>simp at j<;>omega
 |succ n ih =>
  intro l j h
  cases l with
  |nil=>rw[rx];exact Sr.nil
  |cons x xs =>
   obtain⟨code,pos,t,m,nm,u,s,ri,e⟩:=x
   rw[WX]at h
   simp at j
   obtain⟨p,q⟩:=h
   have o:=ih xs (by omega) q
   have key:Sr (if code=2\/code=3\/code=6 then [⟨code,pos,m,nm,e.length⟩] else [])/\Sr (rx s)/\Sr (rx ri)/\Sr (rx e):=by
    have g:okr m nm->Sr (if code=2\/code=3\/code=6 then [⟨code,pos,m,nm,e.length⟩] else []):=by
     intro i r k
     split at k
     ·rw[List.mem_singleton.1 k];exact okr_len i
     ·cases k
    have f:¬(code=2\/code=3\/code=6)->Sr (if code=2\/code=3\/code=6 then [⟨code,pos,m,nm,e.length⟩] else []):=by
     intro i
     rw[if_neg i];exact Sr.nil
    have nil:Sr (rx []):=by rw[rx];exact Sr.nil
    rcases p with⟨c,_,_,_,_,a,b,d⟩|⟨c,_,h3,_,a,b,d⟩|⟨c,_,h3,_,a,_,b,d⟩|⟨c,_,_,_,_,a,_,b,d⟩|⟨c,_,_,_,_,a,_,b,_,d⟩|⟨c,_,h3,_,a,b,d⟩
    ·exact⟨f (by omega),by rw[a];exact nil,by rw[b];exact nil,by rw[d];exact nil⟩
    ·exact⟨g h3,by rw[a];exact nil,by rw[b];exact nil,by rw[d];exact nil⟩
    ·exact⟨g h3,ih _ (by omega) a,by rw[b];exact nil,by rw[d];exact nil⟩
    ·exact⟨f (by omega),ih _ (by omega) a,by rw[b];exact nil,by rw[d];exact nil⟩
    ·exact⟨f (by omega),ih _ (by omega) a,ih _ (by omega) b,by rw[d];exact nil⟩
    ·exact⟨g h3,by rw[a];exact nil,by rw[b];exact nil,ih _ (by omega) d⟩
   rw[rx]
   exact(((key.1.app key.2.1).app key.2.2.1).app key.2.2.2).app o
theorem ws_small:∀(n:Nat) (l:List S),SizeOf.sizeOf l<=n->WS l->Sr (rs l):=by
 intro n
 induction n with
 |zero=>intro l j;cases l<;>simp at j<;>omega
 |succ n ih =>
  intro l j h
  cases l with
  |nil=>rw[rs];exact Sr.nil
  |cons x xs =>
   obtain⟨code,pos,nm,k,m,y,s⟩:=x
   rw[WS]at h
   simp at j
   obtain⟨t,u⟩:=h
   have p:=ih xs (by omega) u
   have f:Sr (rx []):=by rw[rx];exact Sr.nil
   have ns:Sr (rs []):=by rw[rs];exact Sr.nil
   have g:ev m->Sr (rx m):=fun q=>wx_small _ _ (Nat.le_refl _) q.1
   have i:code≠1->Sr (if code=1 then [⟨if k.isEmpty then 2 else 3,pos,[],nm,0⟩] else []):=by
    intro w
    rw[if_neg w];exact Sr.nil
   have key:Sr (if code=1 then [⟨if k.isEmpty then 2 else 3,pos,[],nm,0⟩] else [])/\Sr (rx k)/\Sr (rx m)/\Sr (rs y)/\Sr (rs s):=by
    rcases t with⟨c,v,a,b,d,e⟩|⟨c,_,a,b,d,e⟩|⟨c,_,a,b,d,e⟩|⟨c,_,a,b,d,e⟩|⟨c,_,a,b,_,d,e⟩
    ·refine⟨?_,?_,g b,by rw[d];exact ns,by rw[e];exact ns⟩
     ·intro r o
      rw[if_pos c]at o
      rw[List.mem_singleton.1 o]
      exact⟨by simp,yA v⟩
     ·rcases a with q|q
      ·rw[q];exact f
      ·exact wx_small _ _ (Nat.le_refl _) q.1
    ·exact⟨i (by omega),by rw[a];exact f,g b,ih _ (by omega) d,ih _ (by omega) e⟩
    ·exact⟨i (by omega),by rw[a];exact f,g b,ih _ (by omega) d,by rw[e];exact ns⟩
    ·exact⟨i (by omega),by rw[a];exact f,g b,by rw[d];exact ns,by rw[e];exact ns⟩
    ·exact⟨i (by omega),by rw[a];exact f,g b,by rw[d];exact ns,by rw[e];exact ns⟩
   rw[rs]
   exact((((key.1.app key.2.1).app key.2.2.1).app key.2.2.2.1).app key.2.2.2.2).app p
structure Sml (m:M):Prop where
 ic:m.imports.length<=1000
 im:∀n∈m.imports,n.length<=1000000
 gc:m.vars.length<=1000
 g:∀g∈m.vars,g.name.length<=1000000
 pc:m.procs.length<=1000
 p:∀p∈m.procs,p.name.length<=1000000/\p.params.length<=1000/\p.vars.length<=1000/\(∀n∈p.params,n.length<=1000000)/\(∀n∈p.vars,n.length<=1000000)/\Sr (rs p.body)
 b:Sr (rs m.body)
theorem WM.sml {m:M}(h:WM m):Sml m:=by
 refine⟨by have:=h.ic;omega,fun n a=>yA (h.i n a),by have:=h.gc;omega,fun g d=>yA (h.g g d).n,by have:=h.pc;omega,fun p e=>?_,ws_small _ _ (Nat.le_refl _) h.b⟩
 have q:=h.p p e
 have:=q.c
 exact⟨yA q.n,by omega,by omega,fun n a=>yA (q.ps n a),fun n a=>yA (q.vs n a),ws_small _ _ (Nat.le_refl _) q.b⟩
theorem find_idx {α β:Type}(f:α->Option β):∀(l:List α),l.findSome? f=(List.range l.length).findSome? fun i=>(l[i]?).bind f:=by
 intro l
 induction l with
 |nil=>rfl
 |cons x l ih =>
  rw[List.findSome?_cons,List.length_cons,List.range_succ_eq_map,List.findSome?_cons,List.findSome?_map,ih]
  have a:((fun i=>((x :: l)[i]?).bind f) ∘ Nat.succ)=fun i=>(l[i]?).bind f:=by
   funext i
   simp
  rw[a]
  simp
def w64 (n:Int):Int:=(n+9223372036854775808) % 18446744073709551616-9223372036854775808
abbrev I64 (n:Int):Prop:=-9223372036854775808<=n/\n<=9223372036854775807
theorem w64_in (n:Int):I64 (w64 n):=by unfold I64 w64;omega
theorem w64_id {n:Int}(h:I64 n):w64 n=n:=by unfold I64 at h;unfold w64;omega
theorem w64_congr {a b:Int}(h:(a-b) % 18446744073709551616=0):w64 a=w64 b:=by unfold w64;omega
def b01 (p:Prop) [Decidable p]:Int:=if p then 1 else 0
def both (op:Bs) (a b:Int):Option Int :=
 if op=mPlus then some (w64 (a+b))
 else if op=mMinus then some (w64 (a-b))
 else if op=mStar then some (w64 (a*b))
 else if op=wDiv then (if b=0 then none else some (w64 (a.fdiv b)))
 else if op=wMod then (if b=0 then none else some (a.fmod b))
 else if op=mEq then some (b01 (a=b))
 else if op=mNe then some (b01 (a≠b))
 else if op=mLt then some (b01 (a<b))
 else if op=mLe then some (b01 (a<=b))
 else if op=mGt then some (b01 (a > b))
 else if op=mGe then some (b01 (a ≥ b))
 else some 0
theorem both_plus (a b:Int):both mPlus a b=some (w64 (a+b)):=by simp[both]
theorem both_minus (a b:Int):both mMinus a b=some (w64 (a-b)):=by simp[both,mMinus,mPlus]
theorem both_star (a b:Int):both mStar a b=some (w64 (a*b)):=by simp[both,mMinus,mPlus,mStar]
theorem both_div (a b:Int):both wDiv a b=if b=0 then none else some (w64 (a.fdiv b)):=by simp[both,mMinus,mPlus,mStar,wDiv]
theorem both_mod (a b:Int):both wMod a b=if b=0 then none else some (a.fmod b):=by simp[both,mMinus,mPlus,mStar,wDiv,wMod]
theorem both_eq (a b:Int):both mEq a b=some (b01 (a=b)):=by simp[both,mMinus,mPlus,mStar,wDiv,wMod,mEq]
theorem both_ne (a b:Int):both mNe a b=some (b01 (a≠b)):=by simp[both,mMinus,mPlus,mStar,wDiv,wMod,mEq,mNe]
theorem both_lt (a b:Int):both mLt a b=some (b01 (a<b)):=by simp[both,mMinus,mPlus,mStar,wDiv,wMod,mEq,mNe,mLt]
theorem both_le (a b:Int):both mLe a b=some (b01 (a<=b)):=by simp[both,mMinus,mPlus,mStar,wDiv,wMod,mEq,mNe,mLt,mLe]
theorem both_gt (a b:Int):both mGt a b=some (b01 (a > b)):=by simp[both,mMinus,mPlus,mStar,wDiv,wMod,mEq,mNe,mLt,mLe,mGt]
theorem both_ge (a b:Int):both mGe a b=some (b01 (a ≥ b)):=by simp[both,mMinus,mPlus,mStar,wDiv,wMod,mEq,mNe,mLt,mLe,mGt,mGe]
theorem fdiv_mend (a b:Int)(n:b≠0):a.fdiv b=a.tdiv b-(if a.tmod b≠0/\((a.tmod b<0)↔¬b<0) then 1 else 0)/\a.fmod b=a.tmod b+(if a.tmod b≠0/\((a.tmod b<0)↔¬b<0) then b else 0):=by
 have x:=Int.tmod_add_mul_tdiv a b
 have g:=Int.fmod_add_mul_fdiv a b
 have i:0<b->0<=a.fmod b/\a.fmod b<b:=fun h=>⟨Int.fmod_nonneg_of_pos a h,Int.fmod_lt_of_pos a h⟩
 have j:b<0->b<a.fmod b/\a.fmod b<=0:=by
  intro h
  have e:(-a).fmod (-b)=- a.fmod b:=by rw[Int.neg_fmod_neg]
  have l:=Int.fmod_nonneg_of_pos (-a) (b:=-b) (by omega)
  have u:=Int.fmod_lt_of_pos (-a) (b:=-b) (by omega)
  omega
 have k:0<b->-b<a.tmod b/\a.tmod b<b:=fun h=>⟨by have:=Int.lt_tmod_of_pos a h;omega,Int.tmod_lt_of_pos a h⟩
 have m:b<0->b<a.tmod b/\a.tmod b < -b:=by
  intro h
  have e:a.tmod (-b)=a.tmod b:=Int.tmod_neg a b
  have l:=Int.lt_tmod_of_pos a (b:=-b) (by omega)
  have u:=Int.tmod_lt_of_pos a (b:=-b) (by omega)
  omega
 have key:∀q r d f:Int,r+b*q=a->f+b*d=a->(0<b->0<=r/\r<b/\0<=f/\f<b)->(b<0->b<r/\r<=0/\b<f/\f<=0)->q=d/\r=f:=by
  intro q r d f t v p o
  have w:b*(q-d)=f-r:=by rw[Int.mul_sub];omega
  have:q-d=0:=by
   rcases Int.lt_or_gt_of_ne n with h|h
   ·have z:=o h
    rcases Int.lt_trichotomy (q-d) 0 with y|y|y
    ·have:b*(q-d) ≥ -b:=by
      have:=Int.mul_le_mul_of_nonneg_left (a:=q-d) (b:=-1) (c:=-b) (by omega) (by omega)
      rw[Int.neg_mul]at this
      omega
     omega
    ·exact y
    ·have:b*(q-d)<=b:=by
      have:=Int.mul_le_mul_of_nonneg_left (a:=1) (b:=q-d) (c:=-b) (by omega) (by omega)
      rw[Int.neg_mul b (q-d)]at this
      omega
     omega
   ·have z:=p h
    rcases Int.lt_trichotomy (q-d) 0 with y|y|y
    ·have:b*(q-d)<=b*(-1):=Int.mul_le_mul_of_nonneg_left (by omega) (by omega)
     omega
    ·exact y
    ·have:b*1<=b*(q-d):=Int.mul_le_mul_of_nonneg_left (by omega) (by omega)
     omega
  have s:q=d:=by omega
  subst s
  exact⟨rfl,by omega⟩
 split
 ·rename_i c
  refine key _ _ _ _ g ?_ ?_ ?_
  ·rw[Int.mul_sub];omega
  ·intro h
   have:=i h;have:=k h
   have:=c.2
   omega
  ·intro h
   have:=j h;have:=m h
   have:=c.2
   omega
 ·rename_i c
  rw[Int.sub_zero,Int.add_zero]
  refine key _ _ _ _ g ?_ ?_ ?_
  ·omega
  ·intro h
   have:=i h;have:=k h
   omega
  ·intro h
   have:=j h;have:=m h
   omega
theorem both_rest {a b:Int}(m:I64 a)(c:b≠0):w64 (w64 (w64 (a.fdiv b)*b)+a.fmod b)=a/\(a.fmod b=0\/(a.fmod b<0↔b<0))/\((0<b/\a.fmod b<b)\/(b<0/\b<a.fmod b)\/a.fmod b=0):=by
 have o:=Int.fmod_add_mul_fdiv a b
 have d:0<b->0<=a.fmod b/\a.fmod b<b:=fun h=>⟨Int.fmod_nonneg_of_pos a h,Int.fmod_lt_of_pos a h⟩
 have f:b<0->b<a.fmod b/\a.fmod b<=0:=by
  intro h
  have e:(-a).fmod (-b)=- a.fmod b:=by rw[Int.neg_fmod_neg]
  have l:=Int.fmod_nonneg_of_pos (-a) (b:=-b) (by omega)
  have u:=Int.fmod_lt_of_pos (-a) (b:=-b) (by omega)
  omega
 refine⟨?_,?_,?_⟩
 ·have g:w64 (w64 (a.fdiv b)*b)=w64 (a.fdiv b*b):=by
   apply w64_congr
   rw[<-Int.sub_mul]
   obtain⟨k,n⟩:∃k,w64 (a.fdiv b)-a.fdiv b=18446744073709551616*k:=⟨(w64 (a.fdiv b)-a.fdiv b) / 18446744073709551616,by unfold w64;omega⟩
   rw[n,Int.mul_assoc]
   exact Int.mul_emod_right _ _
  have i:w64 (w64 (a.fdiv b*b)+a.fmod b)=w64 (a.fdiv b*b+a.fmod b):=by
   apply w64_congr
   unfold w64
   omega
  rw[g,i]
  have j:a.fdiv b*b+a.fmod b=a:=by rw[Int.mul_comm];omega
  rw[j,w64_id m]
 ·rcases Int.lt_or_gt_of_ne c with h|h
  ·have:=f h;omega
  ·have:=d h;omega
 ·rcases Int.lt_or_gt_of_ne c with h|h
  ·have:=f h;omega
  ·have:=d h;omega
structure Pt where
 m:M
 vars:Bs->List Int
structure Rs where
 w:List Pt
 left:Nat
 out:List Int
inductive Rr (α:Type) where
 |ok (v:α) (s:Rs)
 |stop (way:Nat) (s:Rs)
 |gas
abbrev Ru (α:Type):=Rs->Rr α
def Ru.pure {α:Type}(v:α):Ru α:=fun s=>.ok v s
def Ru.bind {α β:Type}(f:Ru α) (g:α->Ru β):Ru β:=fun s=>match f s with
 | .ok v s=>g v s
 | .stop way s=>.stop way s
 | .gas=>.gas
instance:Monad Ru where
 pure:=Ru.pure
 bind:=Ru.bind
def zero:Nat:=2
def bounds:Nat:=3
def deep:Nat:=4
def fuelW:Nat:=5
def full:Nat:=6
def Ru.stop {α:Type}(way:Nat):Ru α:=fun s=>.stop way s
def Ru.out {α:Type}:Ru α:=fun _=>.gas
def tick:Ru Unit:=fun s=>match s.left with
 | 0=>.stop fuelW s
 |n+1=>.ok () { s with left:=n }
def tellN (n:Int):Ru Unit:=fun s=>if s.out.length<200 then .ok () { s with out:=s.out++[n] } else .stop full s
def partOf (w:List Pt) (n:Bs):Option Pt:=w.find? fun p=>p.m.name==n
def getV (md nm:Bs):Ru (List Int):=fun s=>.ok (((partOf s.w md).map fun p=>p.vars nm).getD []) s
def setV (md nm:Bs) (l:List Int):Ru Unit:=fun s=>.ok () { s with w:=s.w.map fun p=>if p.m.name=md then { p with vars:=fun k=>if k=nm then l else p.vars k } else p }
def procOf (md nm:Bs):Ru (Option Pr):=fun s=>.ok ((partOf s.w md).bind fun p=>p.m.procs.find? fun q=>q.name==nm) s
abbrev Own:=Bs->Option Int
def ownFor (p:Pr) (vs:List Int):Own:=fun k=>match (p.params.zip vs).find? (fun q=>q.1==k) with
 |some q=>some q.2
 |none=>if k∈p.vars then some 0 else none
mutual
def evX:Nat->Nat->Bs->Own->List X->Ru Int
 | 0,_,_,_,_=>Ru.out
 | _+1,_,_,_,[]=>Ru.pure 0
 |g+1,k,md,own,x :: _ =>
  if x.code=1 then Ru.pure (x.n:Int)
  else if x.code=2 then
   (if x.mod=[] then (match own x.name with
    |some v=>Ru.pure v
    |none=>(getV md x.name).bind fun l=>Ru.pure (l.headD 0))
   else (getV x.mod x.name).bind fun l=>Ru.pure (l.headD 0))
  else if x.code=3 then
   (evX g k md own x.left).bind fun i=>(getV (if x.mod=[] then md else x.mod) x.name).bind fun l=>(if 0<=i/\i<l.length then Ru.pure (l.getD i.toNat 0) else Ru.stop bounds)
  else if x.code=4 then
   (evX g k md own x.left).bind fun v=>Ru.pure (if x.op=mMinus then w64 (0-v) else b01 (v=0))
  else if x.code=5 then
   (evX g k md own x.left).bind fun a =>
    if x.op=wAnd then (if a=0 then Ru.pure 0 else (evX g k md own x.right).bind fun b=>Ru.pure (b01 (b≠0)))
    else if x.op=wOr then (if a≠0 then Ru.pure 1 else (evX g k md own x.right).bind fun b=>Ru.pure (b01 (b≠0)))
    else (evX g k md own x.right).bind fun b=>(match both x.op a b with
     |some v=>Ru.pure v
     |none=>Ru.stop zero)
  else if x.code=6 then
   (evs g k md own x.args).bind fun vs=>(procOf (if x.mod=[] then md else x.mod) x.name).bind fun p=>(match p with
    |none=>Ru.pure 0
    |some p=>callP g k (if x.mod=[] then md else x.mod) p vs)
  else Ru.pure 0
def evs:Nat->Nat->Bs->Own->List X->Ru (List Int)
 | 0,_,_,_,_=>Ru.out
 | _+1,_,_,_,[]=>Ru.pure []
 |g+1,k,md,own,x :: xs=>(evX g k md own [x]).bind fun v=>(evs g k md own xs).bind fun vs=>Ru.pure (v :: vs)
def callP:Nat->Nat->Bs->Pr->List Int->Ru Int
 | 0,_,_,_,_=>Ru.out
 |g+1,k,md,p,vs=>if 30<=k then Ru.stop deep else (goS g (k+1) md (ownFor p vs) p.body).bind fun r=>Ru.pure (r.2.getD 0)
def goS:Nat->Nat->Bs->Own->List S->Ru (Own×Option Int)
 | 0,_,_,_,_=>Ru.out
 | _+1,_,_,own,[]=>Ru.pure (own,none)
 |g+1,k,md,own,x :: xs=>tick.bind fun _=>(go1 g k md own x).bind fun r=>(match r.2 with
  |some v=>Ru.pure (r.1,some v)
  |none=>goS g k md r.1 xs)
def go1:Nat->Nat->Bs->Own->S->Ru (Own×Option Int)
 | 0,_,_,_,_=>Ru.out
 |g+1,k,md,own,x =>
  if x.code=1 then
   (if x.index=[] then (evX g k md own x.value).bind fun v=>(match own x.name with
    |some _=>Ru.pure (fun q=>if q=x.name then some v else own q,none)
    |none=>(setV md x.name [v]).bind fun _=>Ru.pure (own,none))
   else (evX g k md own x.index).bind fun i=>(evX g k md own x.value).bind fun v=>(getV md x.name).bind fun l=>(if 0<=i/\i<l.length then (setV md x.name (l.set i.toNat v)).bind fun _=>Ru.pure (own,none) else Ru.stop bounds))
  else if x.code=2 then (evX g k md own x.value).bind fun v=>(if v=0 then goS g k md own x.els else goS g k md own x.thn)
  else if x.code=3 then goW g k md own x.value x.thn
  else if x.code=4 then (evX g k md own x.value).bind fun v=>Ru.pure (own,some v)
  else if x.code=5 then (evX g k md own x.value).bind fun v=>(tellN v).bind fun _=>Ru.pure (own,none)
  else (evX g k md own x.value).bind fun _=>Ru.pure (own,none)
def goW:Nat->Nat->Bs->Own->List X->List S->Ru (Own×Option Int)
 | 0,_,_,_,_,_=>Ru.out
 |g+1,k,md,own,c,b=>(evX g k md own c).bind fun v=>(if v=0 then Ru.pure (own,none) else (goS g k md own b).bind fun r=>(match r.2 with
  |some v=>Ru.pure (r.1,some v)
  |none=>tick.bind fun _=>goW g k md r.1 c b))
end
def Bd (B:Nat) (s:Rs):Prop:=∀p∈s.w,∀q∈p.m.procs,SizeOf.sizeOf q.body<=B
def Goes {α:Type}(B:Nat) (f:Ru α) (s:Rs):Prop:=match f s with
 | .ok _ s1=>Bd B s1/\s1.left<=s.left
 | .stop _ _=>True
 | .gas=>False
theorem Goes.pure {α:Type}{B:Nat}{s:Rs}(h:Bd B s)(v:α):Goes B (Ru.pure v) s:=⟨h,Nat.le_refl _⟩
theorem Goes.stop {α:Type}{B:Nat}{s:Rs}(a:Nat):Goes B (Ru.stop a:Ru α) s:=trivial
theorem Goes.bind {α β:Type}{B:Nat}{f:Ru α}{g:α->Ru β}{s:Rs}(a:Goes B f s)(d:∀v s1,f s=.ok v s1->Bd B s1->s1.left<=s.left->Goes B (g v) s1):Goes B (f.bind g) s:=by
 unfold Goes at a ⊢
 unfold Ru.bind
 cases c:f s with
 |ok v s1 =>
  rw[c]at a
  have:=d v s1 c a.1 a.2
  unfold Goes at this
  cases b:g v s1 with
  |ok u s2=>simp only[b]at this ⊢;exact⟨this.1,Nat.le_trans this.2 a.2⟩
  |stop way s2=>simp only[b]
  |gas=>rw[b]at this;exact this.elim
 |stop way s1=>trivial
 |gas=>rw[c]at a;exact a
theorem Goes.tick {B:Nat}{s:Rs}(h:Bd B s):Goes B tick s:=by
 unfold Goes Tp.tick
 cases a:s.left with
 |zero=>trivial
 |succ n=>exact⟨h,by show n<=n+1;omega⟩
theorem tick_ok {s s1:Rs}{u:Unit}(h:tick s=.ok u s1):s1.left+1=s.left:=by
 unfold Tp.tick at h
 cases a:s.left with
 |zero=>rw[a]at h;cases h
 |succ n=>rw[a]at h;cases h;rfl
theorem Goes.tellN {B:Nat}{s:Rs}(h:Bd B s)(n:Int):Goes B (tellN n) s:=by
 unfold Goes Tp.tellN
 by_cases q:s.out.length<200
 ·rw[if_pos q];exact⟨h,Nat.le_refl _⟩
 ·rw[if_neg q];trivial
theorem Goes.getV {B:Nat}{s:Rs}(h:Bd B s)(md nm:Bs):Goes B (getV md nm) s:=⟨h,Nat.le_refl _⟩
theorem Goes.setV {B:Nat}{s:Rs}(h:Bd B s)(md nm:Bs)(l:List Int):Goes B (setV md nm l) s:=by
 refine⟨fun p c q a=>?_,Nat.le_refl _⟩
 simp only[List.mem_map]at c
 obtain⟨d,b,rfl⟩:=c
 split at a
 ·exact h d b q a
 ·exact h d b q a
theorem Goes.procOf {B:Nat}{s:Rs}(h:Bd B s)(md nm:Bs):Goes B (procOf md nm) s:=⟨h,Nat.le_refl _⟩
theorem procOf_bd {B:Nat}{s s1:Rs}{md nm:Bs}{p:Pr}(b:Bd B s)(h:procOf md nm s=.ok (some p) s1):SizeOf.sizeOf p.body<=B:=by
 unfold Tp.procOf at h
 injection h with h1 h2
 cases a:partOf s.w md with
 |none=>rw[a]at h1;cases h1
 |some pt =>
  rw[a]at h1
  simp only[Option.bind_some]at h1
  exact b pt (List.mem_of_find?_eq_some a) p (List.mem_of_find?_eq_some h1)
theorem Goes.ite {α:Type}{B:Nat}{p:Prop}[Decidable p]{f g:Ru α}{s:Rs}(a:Goes B f s)(b:Goes B g s):Goes B (if p then f else g) s:=by split<;>assumption
def nd (B L k:Nat):Nat:=(30-k)*(B+L+2)+1
theorem nd_succ {B L k:Nat}(h:k<30):nd B L k=nd B L (k+1)+(B+L+2):=by
 unfold nd
 have:30-k=(30-(k+1))+1:=by omega
 rw[this,Nat.add_mul]
 omega
structure GoAll (B L g:Nat):Prop where
 ex:∀k md own l s,Bd B s->s.left<=L->SizeOf.sizeOf l+1+nd B L k<=g->Goes B (evX g k md own l) s
 exs:∀k md own l s,Bd B s->s.left<=L->SizeOf.sizeOf l+2+nd B L k<=g->Goes B (evs g k md own l) s
 cl:∀k md p vs s,Bd B s->s.left<=L->SizeOf.sizeOf p.body<=B->nd B L k<=g->Goes B (callP g k md p vs) s
 ss:∀k md own l s,Bd B s->s.left<=L->SizeOf.sizeOf l+s.left+nd B L k<=g->Goes B (goS g k md own l) s
 s1:∀k md own x s,Bd B s->s.left<=L->SizeOf.sizeOf x+s.left+nd B L k<=g->Goes B (go1 g k md own x) s
 wh:∀k md own c b s,Bd B s->s.left<=L->SizeOf.sizeOf c+SizeOf.sizeOf b+s.left+2+nd B L k<=g->Goes B (goW g k md own c b) s
theorem sz {α:Type}[SizeOf α](l:List α):1<=SizeOf.sizeOf l:=by cases l<;>simp;omega
theorem xx (B L k:Nat):1<=nd B L k:=by unfold nd;omega
theorem go_all (B L:Nat):∀g,GoAll B L g:=by
 intro g
 induction g with
 |zero=>exact⟨fun k _ _ l s _ _ h=>by have:=xx B L k;omega,fun k _ _ l s _ _ h=>by have:=xx B L k;omega,fun k _ _ _ s _ _ _ h=>by have:=xx B L k;omega,fun k _ _ l s _ _ h=>by have:=xx B L k;omega,fun k _ _ x s _ _ h=>by have:=xx B L k;omega,fun k _ _ c b s _ _ h=>by have:=xx B L k;omega⟩
 |succ g ih =>
  refine⟨fun k md own l s e f h=>?_,fun k md own l s e f h=>?_,fun k md p vs s e f y h=>?_,fun k md own l s e f h=>?_,fun k md own x s e f h=>?_,fun k md own c b s e f h=>?_⟩
  ·cases l with
   |nil=>unfold evX;exact Goes.pure e _
   |cons x t =>
    obtain⟨code,pos,P,m,nm,Q,J,ri,G⟩:=x
    simp at h
    unfold evX
    have o:∀s1,Bd B s1->s1.left<=L->Goes B (evX g k md own J) s1:=fun s1 d j=>ih.ex _ _ _ _ _ d j (by omega)
    have q:∀s1,Bd B s1->s1.left<=L->Goes B (evX g k md own ri) s1:=fun s1 d j=>ih.ex _ _ _ _ _ d j (by omega)
    refine Goes.ite (Goes.pure e _) (Goes.ite (Goes.ite ?_ ((Goes.getV e _ _).bind fun _ s1 _ d _=>Goes.pure d _)) (Goes.ite ((o s e f).bind fun i s1 _ d j=>(Goes.getV d _ _).bind fun l s2 _ b2 _=>Goes.ite (Goes.pure b2 _) (Goes.stop _)) (Goes.ite ((o s e f).bind fun v s1 _ d _=>Goes.pure d _) (Goes.ite ((o s e f).bind fun a s1 _ d j=>Goes.ite (Goes.ite (Goes.pure d _) ((q s1 d (by omega)).bind fun b s2 _ b2 _=>Goes.pure b2 _)) (Goes.ite (Goes.ite (Goes.pure d _) ((q s1 d (by omega)).bind fun b s2 _ b2 _=>Goes.pure b2 _)) ((q s1 d (by omega)).bind fun b s2 _ b2 _=>?_))) (Goes.ite ((ih.exs k md own G s e f (by omega)).bind fun vs s1 _ d j=>(Goes.procOf d _ _).bind fun p s2 y b2 A=>?_) (Goes.pure e _))))))
    ·split
     ·exact Goes.pure e _
     ·exact(Goes.getV e _ _).bind fun _ s1 _ d _=>Goes.pure d _
    ·split
     ·exact Goes.pure b2 _
     ·exact Goes.stop _
    ·split
     ·exact Goes.pure b2 _
     ·exact ih.cl _ _ _ _ _ b2 (by omega) (procOf_bd d y) (by omega)
  ·cases l with
   |nil=>unfold evs;exact Goes.pure e _
   |cons x t =>
    simp at h
    have:=sz t
    unfold evs
    exact(ih.ex _ _ _ _ _ e f (by simp;omega)).bind fun v s1 _ d j=>(ih.exs _ _ _ _ _ d (by omega) (by omega)).bind fun vs s2 _ b2 _=>Goes.pure b2 _
  ·unfold callP
   by_cases w:30<=k
   ·rw[if_pos w];exact Goes.stop _
   ·rw[if_neg w]
    have:=nd_succ (B:=B) (L:=L) (k:=k) (by omega)
    exact(ih.ss _ _ _ _ _ e f (by omega)).bind fun r s1 _ d _=>Goes.pure d _
  ·cases l with
   |nil=>unfold goS;exact Goes.pure e _
   |cons x t =>
    simp at h
    unfold goS
    refine(Goes.tick e).bind fun _ s1 E d j=>?_
    have M:=tick_ok E
    refine(ih.s1 _ _ _ _ _ d (by omega) (by omega)).bind fun r s2 _ b2 A=>?_
    split
    ·exact Goes.pure b2 _
    ·exact ih.ss _ _ _ _ _ b2 (by omega) (by omega)
  ·obtain⟨code,pos,nm,z,C,K,I⟩:=x
   simp at h
   have:=sz z
   have:=sz C
   have:=sz K
   have:=sz I
   have:=sz nm
   unfold go1
   have n:∀s1,Bd B s1->s1.left<=L->Goes B (evX g k md own C) s1:=fun s1 d j=>ih.ex _ _ _ _ _ d j (by omega)
   have D:∀s1,Bd B s1->s1.left<=L->Goes B (evX g k md own z) s1:=fun s1 d j=>ih.ex _ _ _ _ _ d j (by omega)
   refine Goes.ite (Goes.ite ((n s e f).bind fun v s1 _ d _=>?_) ((D s e f).bind fun i s1 _ d j=>(n s1 d (by omega)).bind fun v s2 _ b2 _=>(Goes.getV b2 _ _).bind fun l s3 _ u _=>Goes.ite ((Goes.setV u _ _ _).bind fun _ s4 _ H _=>Goes.pure H _) (Goes.stop _))) (Goes.ite ((n s e f).bind fun v s1 _ d j=>Goes.ite (ih.ss _ _ _ _ _ d (by omega) (by simp;omega)) (ih.ss _ _ _ _ _ d (by omega) (by simp;omega))) (Goes.ite (ih.wh _ _ _ _ _ _ e f (by simp;omega)) (Goes.ite ((n s e f).bind fun v s1 _ d _=>Goes.pure d _) (Goes.ite ((n s e f).bind fun v s1 _ d _=>(Goes.tellN d _).bind fun _ s2 _ b2 _=>Goes.pure b2 _) ((n s e f).bind fun _ s1 _ d _=>Goes.pure d _)))))
   split
   ·exact Goes.pure d _
   ·exact(Goes.setV d _ _ _).bind fun _ s2 _ b2 _=>Goes.pure b2 _
  ·unfold goW
   refine(ih.ex _ _ _ _ _ e f (by omega)).bind fun v s1 _ d j=>Goes.ite (Goes.pure d _) ((ih.ss _ _ _ _ _ d (by omega) (by omega)).bind fun r s2 _ b2 A=>?_)
   split
   ·exact Goes.pure b2 _
   ·refine(Goes.tick b2).bind fun _ s3 F u O=>?_
    have N:=tick_ok F
    exact ih.wh _ _ _ _ _ _ u (by omega) (by omega)
end Tp
