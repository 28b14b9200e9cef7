import Derived.Test.YtmocelfkmdpogaaGreatDoorKPb
set_option maxRecDepth 100000
set_option maxHeartbeats 4000000
namespace Tp
structure R where
 code:Nat
 pos:Nat
 mod:Bs
 name:Bs
 args:Nat
def rx:List X->List R
 | []=>[]
 | ⟨code,pos,_,m,nm,_,le,ri,ar⟩ :: xs =>
  (if code=2\/code=3\/code=6 then [⟨code,pos,m,nm,ar.length⟩] else [])++rx le++rx ri++rx ar++rx xs
def rs:List S->List R
 | []=>[]
 | ⟨code,pos,nm,ix,vl,th,el⟩ :: ss =>
  (if code=1 then [⟨if ix.isEmpty then 2 else 3,pos,[],nm,0⟩] else [])++rx ix++rx vl++rs th++rs el++rs ss
def allR (m:M):List R:=(m.procs.map fun p=>rs p.body).flatten++rs m.body
def usedR (m:M) (of:Bs):List Bs:=((allR m).filter fun r=>!(of == []) && r.mod == of).map (·.name)
abbrev Seen:=Bs->Option (List Sy)
abbrev Ck:=Option (Nat× Option Nat)
def stand (m:M) (own:List Bs) (seen:Seen) (md nm:Bs):Except Nat (Nat× Int) :=
 if md≠[] then
  if md∈m.imports then
   match findS ((seen md).getD []) nm with
   | some s=>.ok s.2
   | none=>.error 7
  else .error 5
 else if nm∈own then .ok (0,-1)
 else match m.vars.find? fun g=>g.name == nm with
  | some g=>.ok (g.len,-1)
  | none=>match m.procs.find? fun p=>p.name == nm with
   | some p=>.ok (0,(p.params.length:Int))
   | none=>.error 7
def kindOf (s:Nat× Int):Nat:=if 0<=s.2 then 6 else if 0<s.1 then 3 else 2
def judge (m:M) (own:List Bs) (seen:Seen) (r:R):Ck :=
 match stand m own seen r.mod r.name with
 | .error e=>some (e,some r.pos)
 | .ok s=>if kindOf s≠r.code then some (1,some r.pos)
  else if r.code=6/\(r.args:Int)≠s.2 then some (2,some r.pos) else none
def imps (own:Bs) (seen:Seen):List Bs->List Bs->Ck
 | _,[]=>none
 | ah,n :: t=>if n=own\/n∈ah then some (10,none) else if seen n=none then some (8,none) else imps own seen (n :: ah) t
def tw:List Bs->List (Bs× Nat)->Ck
 | _,[]=>none
 | ah,(n,p) :: t=>if n∈ah then some (9,some p) else tw (n :: ah) t
def ownOf (p:Pr):List Bs:=p.params++p.vars
def checkP (m:M) (seen:Seen) (p:Pr):Ck :=
 (tw [] ((ownOf p).map fun n=>(n,p.pos))).or ((rs p.body).findSome? (judge m (ownOf p) seen))
def check (m:M) (seen:Seen):Ck :=
 (imps m.name seen [] m.imports).or <|
 (tw [] (m.vars.map (fun g=>(g.name,g.pos))++m.procs.map (fun p=>(p.name,p.pos)))).or <|
 (m.procs.findSome? (checkP m seen)).or ((rs m.body).findSome? (judge m [] seen))
theorem uB {own:Bs}{seen:Seen}:∀ {l ah:List Bs},imps own seen ah l=none↔(∀ n∈l,n≠own/\n ∉ ah/\seen n≠none)/\l.Nodup:=by
 intro l
 induction l with
 | nil=>intro ah;simp[imps]
 | cons n t ih =>
  intro ah
  unfold imps
  by_cases h1:n=own\/n∈ah
  ·rw[if_pos h1]
   refine⟨fun h=>by simp at h,fun h=>?_⟩
   have:=h.1 n (by simp)
   rcases h1 with e|e
   ·exact absurd e this.1
   ·exact absurd e this.2.1
  ·rw[if_neg h1]
   by_cases h2:seen n=none
   ·rw[if_pos h2]
    refine⟨fun h=>by simp at h,fun h=>?_⟩
    exact absurd h2 (h.1 n (by simp)).2.2
   ·rw[if_neg h2,ih,List.nodup_cons]
    have h1a:n≠own:=fun e=>h1 (.inl e)
    have h1b:n ∉ ah:=fun e=>h1 (.inr e)
    constructor
    ·rintro⟨a,b⟩
     refine⟨?_,?_,b⟩
     ·intro k hk
      rcases List.mem_cons.1 hk with e|e
      ·subst e;exact⟨h1a,h1b,h2⟩
      ·have:=a k e
       exact⟨this.1,fun q=>this.2.1 (List.mem_cons_of_mem _ q),this.2.2⟩
     ·intro hk
      exact(a n hk).2.1 (by simp)
    ·rintro⟨a,b,c⟩
     refine⟨?_,c⟩
     intro k hk
     have:=a k (List.mem_cons_of_mem _ hk)
     refine⟨this.1,?_,this.2.2⟩
     intro q
     rcases List.mem_cons.1 q with e|e
     ·subst e;exact b hk
     ·exact this.2.1 e
theorem tw_none:∀ {l:List (Bs× Nat)}{ah:List Bs},tw ah l=none↔(∀ n∈l.map (·.1),n ∉ ah)/\(l.map (·.1)).Nodup:=by
 intro l
 induction l with
 | nil=>intro ah;simp[tw]
 | cons x t ih =>
  obtain⟨n,p⟩:=x
  intro ah
  unfold tw
  by_cases h1:n∈ah
  ·rw[if_pos h1]
   refine⟨fun h=>by simp at h,fun h=>?_⟩
   exact absurd h1 (h.1 n (by simp))
  ·rw[if_neg h1,ih,List.map_cons,List.nodup_cons]
   constructor
   ·rintro⟨a,b⟩
    refine⟨?_,?_,b⟩
    ·intro k hk
     rcases List.mem_cons.1 hk with e|e
     ·subst e;exact h1
     ·exact fun q=>a k e (List.mem_cons_of_mem _ q)
    ·intro hk
     exact a n hk (by simp)
   ·rintro⟨a,b,c⟩
    refine⟨?_,c⟩
    intro k hk q
    rcases List.mem_cons.1 q with e|e
    ·subst e;exact b hk
    ·exact a k (List.mem_cons_of_mem _ hk) e
def Fine (m:M) (seen:Seen):Prop :=
 ((∀ n∈m.imports,n≠m.name/\seen n≠none)/\m.imports.Nodup) /\
 (m.vars.map (·.name)++m.procs.map (·.name)).Nodup /\
 (∀ p∈m.procs,(ownOf p).Nodup/\∀ r∈rs p.body,judge m (ownOf p) seen r=none) /\
 ∀ r∈rs m.body,judge m [] seen r=none
theorem kO {m:M}{seen:Seen}:check m seen=none↔Fine m seen:=by
 unfold check Fine
 rw[Option.or_eq_none_iff,Option.or_eq_none_iff,Option.or_eq_none_iff,uB,tw_none,List.findSome?_eq_none_iff,List.findSome?_eq_none_iff]
 have e1:(m.vars.map (fun g=>(g.name,g.pos))++m.procs.map (fun p=>(p.name,p.pos))).map (·.1)=m.vars.map (·.name)++m.procs.map (·.name):=by simp[Function.comp_def]
 rw[e1]
 have e2:∀ p:Pr,checkP m seen p=none↔(ownOf p).Nodup/\∀ r∈rs p.body,judge m (ownOf p) seen r=none:=by
  intro p
  unfold checkP
  rw[Option.or_eq_none_iff,tw_none,List.findSome?_eq_none_iff]
  have:((ownOf p).map fun n=>(n,p.pos)).map (·.1)=ownOf p:=by simp[Function.comp_def]
  rw[this]
  simp
 simp only [e2]
 simp
theorem xJ {m:M}{own:List Bs}{a b:Seen}{r:R}
  (h:r.mod≠[]->r.mod∈m.imports->findS ((a r.mod).getD []) r.name=findS ((b r.mod).getD []) r.name):judge m own a r=judge m own b r:=by
 unfold judge stand
 by_cases h1:r.mod≠[]
 ·by_cases h2:r.mod∈m.imports
  ·rw[if_pos h1,if_pos h1,if_pos h2,if_pos h2,h h1 h2]
  ·rw[if_pos h1,if_pos h1,if_neg h2,if_neg h2]
 ·rw[if_neg h1,if_neg h1]
theorem fine_same {m:M}{a b:Seen}(h:Fine m a) (hi:∀ n∈m.imports,b n≠none)
  (hs:∀ r∈allR m,r.mod≠[]->r.mod∈m.imports->findS ((a r.mod).getD []) r.name=findS ((b r.mod).getD []) r.name):Fine m b:=by
 refine⟨⟨fun n hn=>⟨(h.1.1 n hn).1,hi n hn⟩,h.1.2⟩,h.2.1,?_,?_⟩
 ·intro p hp
  refine⟨(h.2.2.1 p hp).1,fun r hr=>?_⟩
  rw[<-xJ (a:=a) (hs r ?_)]
  ·exact(h.2.2.1 p hp).2 r hr
  ·unfold allR
   rw[List.mem_append]
   exact .inl (List.mem_flatten.2 ⟨rs p.body,List.mem_map.2 ⟨p,hp,rfl⟩,hr⟩)
 ·intro r hr
  rw[<-xJ (a:=a) (hs r ?_)]
  ·exact h.2.2.2 r hr
  ·unfold allR
   rw[List.mem_append]
   exact .inr hr
theorem uH {l:List Sy}{f:Sy->Bool}{n:Bs}(h:∀ s∈l,s.1=n->f s=true):findS (l.filter f) n=findS l n:=by
 unfold findS
 induction l with
 | nil=>rfl
 | cons a t ih =>
  have ih':=ih (fun s hs=>h s (List.mem_cons_of_mem _ hs))
  by_cases e:a.1=n
  ·rw[List.filter_cons_of_pos (h a (by simp) e),List.find?_cons,List.find?_cons]
   have:(a.1 == n)=true:=by simpa using e
   rw[this]
  ·have q:(a.1 == n)=false:=by simpa using e
   rw[List.find?_cons (a:=a) (as:=t),q]
   by_cases w:f a=true
   ·rw[List.filter_cons_of_pos w,List.find?_cons,q]
    exact ih'
   ·rw[List.filter_cons_of_neg w]
    exact ih'
theorem usedR_mem {m:M}{of n:Bs}:n∈usedR m of↔of≠[]/\∃ r∈allR m,r.mod=of/\r.name=n:=by
 unfold usedR
 rw[List.mem_map]
 constructor
 ·rintro⟨r,hr,e⟩
  rw[List.mem_filter]at hr
  have:=hr.2
  simp at this
  exact⟨this.1,r,hr.1,this.2,e⟩
 ·rintro⟨h0,r,hr,e1,e2⟩
  refine⟨r,?_,e2⟩
  rw[List.mem_filter]
  refine⟨hr,?_⟩
  simp[h0,e1]
theorem check_less {m:M}{seen less:Seen}(h:check m seen=none)
  (hl:∀ n∈m.imports,∃ f:Sy->Bool,less n=some (((seen n).getD []).filter f)/\∀ s,s.1∈usedR m n->f s=true):check m less=none:=by
 rw[kO]at h ⊢
 refine fine_same h (fun n hn=>?_) ?_
 ·obtain⟨f,e,_⟩:=hl n hn
  rw[e];simp
 ·intro r hr h1 h2
  obtain⟨f,e,hf⟩:=hl _ h2
  rw[e,Option.getD_some,uH]
  intro s _ hs
  apply hf
  rw[usedR_mem]
  exact⟨h1,r,hr,rfl,hs.symm⟩
abbrev Th:=Bs× Nat× Nat× Int
def thG (g:G):Th:=(g.name,g.pos,g.len,-1)
def thP (p:Pr):Th:=(p.name,p.pos,0,(p.params.length:Int))
def things (m:M):List Th:=m.vars.map thG++m.procs.map thP
def ownT (p:Pr):List Th:=(ownOf p).map fun n=>(n,p.pos,0,-1)
def lkT (l:List Th) (k:Bs):Option (Nat× Int):=(l.find? fun x=>x.1 == k).map fun x=>x.2.2
theorem lkT_snoc {l:List Th}{x:Th}(h:x.1 ∉ l.map (·.1)) (k:Bs):lkT (l++[x]) k=if k=x.1 then some x.2.2 else lkT l k:=by
 unfold lkT
 rw[List.find?_append]
 by_cases e:k=x.1
 ·have:l.find? (fun y=>y.1 == k)=none:=by
   rw[List.find?_eq_none]
   intro y hy
   have hne:y.1≠k:=fun q=>h (List.mem_map.2 ⟨y,hy,q.trans e⟩)
   simpa using hne
  rw[this,if_pos e]
  subst e
  simp
 ·rw[if_neg e]
  have:[x].find? (fun y=>y.1 == k)=none:=by
   rw[List.find?_cons]
   have:(x.1 == k)=false:=by simpa using fun q=>e q.symm
   rw[this];rfl
  rw[this]
  simp
theorem lkT_some {l:List Th}{k:Bs}:(lkT l k).isSome=true↔k∈l.map (·.1):=by
 unfold lkT
 rw[Option.isSome_map,List.find?_isSome,List.mem_map]
 constructor
 ·rintro⟨x,hx,e⟩
  exact⟨x,hx,by simpa using e⟩
 ·rintro⟨x,hx,e⟩
  exact⟨x,hx,by simpa using e⟩
def keyT (x:Th):Bs× Nat:=(x.1,x.2.1)
def twr (l:List Th) (i:Nat):Ck:=tw ((l.take i).map (·.1)).reverse ((l.drop i).map keyT)
theorem twr_zero (l:List Th):twr l 0=tw [] (l.map keyT):=by simp[twr]
theorem twr_all (l:List Th) (i:Nat) (h:l.length<=i):twr l i=none:=by
 unfold twr
 rw[List.drop_eq_nil_of_le h]
 rfl
theorem twr_step (l:List Th) (i:Nat) (h:i<l.length):twr l i=if l[i].1∈(l.take i).map (·.1) then some (9,some l[i].2.1) else twr l (i+1):=by
 unfold twr
 rw[List.drop_eq_getElem_cons h,List.map_cons,List.take_succ_eq_append_getElem h,List.map_append,List.reverse_append]
 show tw _ ((l[i].1,l[i].2.1) :: _)=_
 rw[tw]
 simp
def twP (l:List Th) (i:Nat):Option (Nat× Nat):=if h:i<l.length then (if l[i].1∈(l.take i).map (·.1) then some (9,l[i].2.1) else twP l (i+1)) else none
 termination_by l.length - i
def up (o:Option (Nat× Nat)):Ck:=o.map fun x=>(x.1,some x.2)
theorem twP_eq (l:List Th):∀(n i:Nat),l.length - i<=n->twr l i=up (twP l i):=by
 intro n
 induction n with
 | zero=>intro i h;rw[twr_all l i (by omega),twP,dif_neg (by omega)];rfl
 | succ n ih =>
  intro i h
  rw[twP]
  by_cases hi:i<l.length
  ·rw[dif_pos hi,twr_step l i hi]
   by_cases hm:l[i].1∈(l.take i).map (·.1)
   ·rw[if_pos hm,if_pos hm];rfl
   ·rw[if_neg hm,if_neg hm,ih (i+1) (by omega)]
  ·rw[dif_neg hi,twr_all l i (by omega)];rfl
theorem twP_zero (l:List Th):tw [] (l.map keyT)=up (twP l 0):=by rw[<-twr_zero,twP_eq l _ 0 (Nat.le_refl _)]
def standV (fo:Bs->Option (List Sy)) (near:List (Bs->Option (Nat× Int))) (md nm:Bs):Except Nat (Nat× Int) :=
 if md≠[] then
  match fo md with
  | none=>.error 5
  | some l=>match findS l nm with
   | some s=>.ok s.2
   | none=>.error 7
 else match near.findSome? (fun f=>f nm) with
  | some x=>.ok x
  | none=>.error 7
def others (m:M) (seen:Seen):Bs->Option (List Sy):=fun k=>if k∈m.imports then seen k else none
theorem lkT_own (p:Pr) (n:Bs):lkT (ownT p) n=if n∈ownOf p then some (0,-1) else none:=by
 unfold lkT ownT
 rw[List.find?_map,Option.map_map]
 by_cases h:n∈ownOf p
 ·rw[if_pos h]
  have:((ownOf p).find? ((fun x:Th=>x.1 == n) ∘ fun k=>(k,p.pos,0,-1))).isSome=true:=by
   rw[List.find?_isSome]
   exact⟨n,h,by simp⟩
  obtain⟨x,hx⟩:=Option.isSome_iff_exists.1 this
  rw[hx];rfl
 ·rw[if_neg h]
  have:(ownOf p).find? ((fun x:Th=>x.1 == n) ∘ fun k=>(k,p.pos,0,-1))=none:=by
   rw[List.find?_eq_none]
   intro x hx
   have:x≠n:=fun e=>h (e ▸ hx)
   simpa using this
  rw[this];rfl
theorem lkT_things (m:M) (n:Bs):lkT (things m) n=match m.vars.find? (fun g=>g.name == n) with
  | some g=>some (g.len,-1)
  | none=>match m.procs.find? (fun p=>p.name == n) with
   | some p=>some (0,(p.params.length:Int))
   | none=>none:=by
 unfold lkT things
 rw[List.find?_append,List.find?_map,List.find?_map]
 have e1:((fun x:Th=>x.1 == n) ∘ thG)=fun g=>g.name == n:=rfl
 have e2:((fun x:Th=>x.1 == n) ∘ thP)=fun g=>g.name == n:=rfl
 rw[e1,e2]
 cases m.vars.find? (fun g=>g.name == n) with
 | some g=>rfl
 | none=>cases m.procs.find? (fun p=>p.name == n) <;> rfl
theorem x9 {m:M}{seen:Seen}(h:imps m.name seen [] m.imports=none) {own:List Bs}{near:List (Bs->Option (Nat× Int))}
  (hn:∀ n,near.findSome? (fun f=>f n)=if n∈own then some (0,-1) else lkT (things m) n) (md nm:Bs):stand m own seen md nm=standV (others m seen) near md nm:=by
 unfold stand standV others
 rw[uB]at h
 by_cases h1:md≠[]
 ·rw[if_pos h1,if_pos h1]
  by_cases h2:md∈m.imports
  ·rw[if_pos h2,if_pos h2]
   obtain⟨l,hl⟩:=Option.ne_none_iff_exists'.1 (h.1 md h2).2.2
   rw[hl]
   rfl
  ·rw[if_neg h2,if_neg h2]
 ·rw[if_neg h1,if_neg h1,hn]
  by_cases h2:nm∈own
  ·rw[if_pos h2,if_pos h2]
  ·rw[if_neg h2,if_neg h2,lkT_things]
   cases m.vars.find? (fun g=>g.name == nm) with
   | some g=>rfl
   | none=>cases m.procs.find? (fun p=>p.name == nm) <;> rfl
def judgeP (st:Bs->Bs->Except Nat (Nat× Int)) (r:R):Option (Nat× Nat) :=
 match st r.mod r.name with
 | .error e=>some (e,r.pos)
 | .ok s=>if kindOf s≠r.code then some (1,r.pos) else if r.code=6/\(r.args:Int)≠s.2 then some (2,r.pos) else none
theorem judge_up (m:M) (own:List Bs) (seen:Seen) (r:R):judge m own seen r=up (judgeP (stand m own seen) r):=by
 unfold judge judgeP
 cases stand m own seen r.mod r.name with
 | error e=>rfl
 | ok s =>
  simp only
  by_cases h1:kindOf s≠r.code
  ·rw[if_pos h1,if_pos h1];rfl
  ·rw[if_neg h1,if_neg h1]
   by_cases h2:r.code=6/\(r.args:Int)≠s.2
   ·rw[if_pos h2,if_pos h2];rfl
   ·rw[if_neg h2,if_neg h2];rfl
theorem qM {α:Type}(f:α->Option (Nat× Nat)) (l:List α):l.findSome? (fun x=>up (f x))=up (l.findSome? f):=by
 induction l with
 | nil=>rfl
 | cons a t ih =>
  rw[List.findSome?_cons,List.findSome?_cons]
  cases f a with
  | none=>exact ih
  | some b=>rfl
theorem up_or (a b:Option (Nat× Nat)):(up a).or (up b)=up (a.or b):=by cases a <;> rfl
def checkPP (m:M) (seen:Seen) (p:Pr):Option (Nat× Nat) :=
 (twP (ownT p) 0).or ((rs p.body).findSome? (judgeP (standV (others m seen) [lkT (ownT p),lkT (things m)])))
theorem checkP_eq {m:M}{seen:Seen}(h:imps m.name seen [] m.imports=none) (p:Pr):checkP m seen p=up (checkPP m seen p):=by
 unfold checkP checkPP
 have e1:(ownOf p).map (fun n=>(n,p.pos))=(ownT p).map keyT:=by simp[ownT,keyT]
 have e2:(rs p.body).findSome? (judge m (ownOf p) seen)=up ((rs p.body).findSome? (judgeP (standV (others m seen) [lkT (ownT p),lkT (things m)]))):=by
  rw[<-qM]
  congr 1
  funext r
  rw[judge_up]
  have:stand m (ownOf p) seen=standV (others m seen) [lkT (ownT p),lkT (things m)]:=by
   funext md nm
   refine x9 h (fun n=>?_) md nm
   rw[List.findSome?_cons,lkT_own]
   by_cases hn:n∈ownOf p
   ·rw[if_pos hn,if_pos hn]
   ·rw[if_neg hn,if_neg hn,List.findSome?_cons]
    cases lkT (things m) n <;> rfl
  rw[this]
 rw[e1,twP_zero,e2,up_or]
def checkV (m:M) (seen:Seen):Option (Nat× Nat) :=
 (twP (things m) 0).or ((m.procs.findSome? (checkPP m seen)).or ((rs m.body).findSome? (judgeP (standV (others m seen) [lkT (things m)]))))
theorem check_eq (m:M) (seen:Seen):check m seen=(imps m.name seen [] m.imports).or (up (checkV m seen)):=by
 unfold check
 cases h:imps m.name seen [] m.imports with
 | some e=>rfl
 | none =>
  show _=up (checkV m seen)
  unfold checkV
  have e1:m.vars.map (fun g=>(g.name,g.pos))++m.procs.map (fun p=>(p.name,p.pos))=(things m).map keyT:=by simp[things,keyT,thG,thP,Function.comp_def]
  have e2:m.procs.findSome? (checkP m seen)=up (m.procs.findSome? (checkPP m seen)):=by
   rw[<-qM]
   congr 1
   funext p
   exact checkP_eq h p
  have e3:(rs m.body).findSome? (judge m [] seen)=up ((rs m.body).findSome? (judgeP (standV (others m seen) [lkT (things m)]))):=by
   rw[<-qM]
   congr 1
   funext r
   rw[judge_up]
   have:stand m [] seen=standV (others m seen) [lkT (things m)]:=by
    funext md nm
    refine x9 h (fun n=>?_) md nm
    rw[List.findSome?_cons,if_neg (by simp)]
    cases lkT (things m) n <;> rfl
   rw[this]
  rw[e1,twP_zero,e2,e3,up_or,up_or]
  rfl
def Sr (l:List R):Prop:=∀ r∈l,r.mod.length<=1000000/\r.name.length<=1000000
theorem Sr.app {l m:List R}(h:Sr l) (k:Sr m):Sr (l++m):=fun r hr=>by
 rcases List.mem_append.1 hr with q|q
 ·exact h r q
 ·exact k r q
theorem Sr.nil:Sr []:=fun r hr=>by cases hr
theorem yJ {n:Bs}(h:okn n):n.length<=1000000:=by have:=h.2.2;omega
theorem okr_len {m n:Bs}(h:okr m n):m.length<=1000000/\n.length<=1000000:=by
 refine⟨?_,yJ h.2⟩
 rcases h.1 with q|q
 ·rw[q];simp
 ·exact yJ q
theorem wx_small:∀(n:Nat) (l:List X),SizeOf.sizeOf l<=n->WX l->Sr (rx l):=by
 intro n
 induction n with
 | zero=>intro l hl;cases l <;> simp at hl <;> omega
 | succ n ih =>
  intro l hl h
  cases l with
  | nil=>rw[rx];exact Sr.nil
  | cons x xs =>
   obtain⟨code,pos,nn,m,nm,op,le,ri,ar⟩:=x
   rw[WX]at h
   simp at hl
   obtain⟨h1,h2⟩:=h
   have hxs:=ih xs (by omega) h2
   have key:Sr (if code=2\/code=3\/code=6 then [⟨code,pos,m,nm,ar.length⟩] else [])/\Sr (rx le)/\Sr (rx ri)/\Sr (rx ar):=by
    have one:okr m nm->Sr (if code=2\/code=3\/code=6 then [⟨code,pos,m,nm,ar.length⟩] else []):=by
     intro hk r hr
     split at hr
     ·rw[List.mem_singleton.1 hr];exact okr_len hk
     ·cases hr
    have non:¬(code=2\/code=3\/code=6)->Sr (if code=2\/code=3\/code=6 then [⟨code,pos,m,nm,ar.length⟩] else []):=by
     intro hk
     rw[if_neg hk];exact Sr.nil
    have nil:Sr (rx []):=by rw[rx];exact Sr.nil
    rcases h1 with⟨c,_,_,_,_,h5,h6,h7⟩|⟨c,_,h3,_,h5,h6,h7⟩|⟨c,_,h3,_,h5,_,h6,h7⟩|⟨c,_,_,_,_,h5,_,h6,h7⟩|⟨c,_,_,_,_,h5,_,h6,_,h7⟩|⟨c,_,h3,_,h5,h6,h7⟩
    ·exact⟨non (by omega),by rw[h5];exact nil,by rw[h6];exact nil,by rw[h7];exact nil⟩
    ·exact⟨one h3,by rw[h5];exact nil,by rw[h6];exact nil,by rw[h7];exact nil⟩
    ·exact⟨one h3,ih _ (by omega) h5,by rw[h6];exact nil,by rw[h7];exact nil⟩
    ·exact⟨non (by omega),ih _ (by omega) h5,by rw[h6];exact nil,by rw[h7];exact nil⟩
    ·exact⟨non (by omega),ih _ (by omega) h5,ih _ (by omega) h6,by rw[h7];exact nil⟩
    ·exact⟨one h3,by rw[h5];exact nil,by rw[h6];exact nil,ih _ (by omega) h7⟩
   rw[rx]
   exact(((key.1.app key.2.1).app key.2.2.1).app key.2.2.2).app hxs
theorem ws_small:∀(n:Nat) (l:List S),SizeOf.sizeOf l<=n->WS l->Sr (rs l):=by
 intro n
 induction n with
 | zero=>intro l hl;cases l <;> simp at hl <;> omega
 | succ n ih =>
  intro l hl h
  cases l with
  | nil=>rw[rs];exact Sr.nil
  | cons x xs =>
   obtain⟨code,pos,nm,ix,vl,th,el⟩:=x
   rw[WS]at h
   simp at hl
   obtain⟨h1,h2⟩:=h
   have hxs:=ih xs (by omega) h2
   have nx:Sr (rx []):=by rw[rx];exact Sr.nil
   have ns:Sr (rs []):=by rw[rs];exact Sr.nil
   have wv:ev vl->Sr (rx vl):=fun q=>wx_small _ _ (Nat.le_refl _) q.1
   have non:code≠1->Sr (if code=1 then [⟨if ix.isEmpty then 2 else 3,pos,[],nm,0⟩] else []):=by
    intro hk
    rw[if_neg hk];exact Sr.nil
   have key:Sr (if code=1 then [⟨if ix.isEmpty then 2 else 3,pos,[],nm,0⟩] else [])/\Sr (rx ix)/\Sr (rx vl)/\Sr (rs th)/\Sr (rs el):=by
    rcases h1 with⟨c,h3,h4,h5,h6,h7⟩|⟨c,_,h4,h5,h6,h7⟩|⟨c,_,h4,h5,h6,h7⟩|⟨c,_,h4,h5,h6,h7⟩|⟨c,_,h4,h5,_,h6,h7⟩
    ·refine⟨?_,?_,wv h5,by rw[h6];exact ns,by rw[h7];exact ns⟩
     ·intro r hr
      rw[if_pos c]at hr
      rw[List.mem_singleton.1 hr]
      exact⟨by simp,yJ h3⟩
     ·rcases h4 with q|q
      ·rw[q];exact nx
      ·exact wx_small _ _ (Nat.le_refl _) q.1
    ·exact⟨non (by omega),by rw[h4];exact nx,wv h5,ih _ (by omega) h6,ih _ (by omega) h7⟩
    ·exact⟨non (by omega),by rw[h4];exact nx,wv h5,ih _ (by omega) h6,by rw[h7];exact ns⟩
    ·exact⟨non (by omega),by rw[h4];exact nx,wv h5,by rw[h6];exact ns,by rw[h7];exact ns⟩
    ·exact⟨non (by omega),by rw[h4];exact nx,wv h5,by rw[h6];exact ns,by rw[h7];exact ns⟩
   rw[rs]
   exact((((key.1.app key.2.1).app key.2.2.1).app key.2.2.2.1).app key.2.2.2.2).app hxs
structure Sml (m:M):Prop where
 ic:m.imports.length<=1000
 im:∀ n∈m.imports,n.length<=1000000
 gc:m.vars.length<=1000
 g:∀ g∈m.vars,g.name.length<=1000000
 pc:m.procs.length<=1000
 p:∀ p∈m.procs,p.name.length<=1000000/\p.params.length<=1000/\p.vars.length<=1000/\(∀ n∈p.params,n.length<=1000000)/\(∀ n∈p.vars,n.length<=1000000)/\Sr (rs p.body)
 b:Sr (rs m.body)
theorem WM.sml {m:M}(h:WM m):Sml m:=by
 refine⟨by have:=h.ic;omega,fun n hn=>yJ (h.i n hn),by have:=h.gc;omega,fun g hg=>yJ (h.g g hg).n,by have:=h.pc;omega,fun p hp=>?_,ws_small _ _ (Nat.le_refl _) h.b⟩
 have q:=h.p p hp
 have:=q.c
 exact⟨yJ q.n,by omega,by omega,fun n hn=>yJ (q.ps n hn),fun n hn=>yJ (q.vs n hn),ws_small _ _ (Nat.le_refl _) q.b⟩
theorem find_idx {α β:Type}(f:α->Option β):∀(l:List α),l.findSome? f=(List.range l.length).findSome? fun i=>(l[i]?).bind f:=by
 intro l
 induction l with
 | nil=>rfl
 | cons x l ih =>
  rw[List.findSome?_cons,List.length_cons,List.range_succ_eq_map,List.findSome?_cons,List.findSome?_map,ih]
  have e2:((fun i=>((x :: l)[i]?).bind f) ∘ Nat.succ)=fun i=>(l[i]?).bind f:=by
   funext i
   simp
  rw[e2]
  simp
end Tp
