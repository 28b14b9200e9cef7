import Derived.Test.YtibncofnnlbmcaaGreatDoorKPb
import Derived.KernelRfl
set_option maxRecDepth 100000
set_option maxHeartbeats 4000000
namespace Tp
theorem okn_len {n:Bs}(h:okn n):n.length<=10:=h.2.2
theorem wx_mem {l:List X}(h:WX l):∀ y,y∈l->WX [y]:=by
 induction l with
 | nil=>intro y hy;cases hy
 | cons x l ih =>
  intro y hy
  have h1:WX [x]/\WX l:=by obtain⟨⟩:=x;rw[WX]at h;exact⟨by rw[WX];exact⟨h.1,kQ⟩,h.2⟩
  rcases List.mem_cons.mp hy with rfl|hy
  ·exact h1.1
  ·exact ih h1.2 y hy
theorem dec_d {n:Nat}(h:n<10):dec n=[UInt8.ofNat (48+n)]:=by rw[dec];simp[h]
abbrev Sy:=Bs× Nat× Int
def wArr:Bs:=[97,114,114,97,121]
def wordsL (first:Bs) (ss:List Bs):Bs:=first++(ss.map fun s=>(32:UInt8) :: s).flatten++[10]
def lineOf (s:Sy):Bs:=if 0<=s.2.2 then wordsL wProc [s.1,dec s.2.2.toNat] else if 0<s.2.1 then wordsL wArr [s.1,dec s.2.1] else wordsL wInt [s.1]
def syG (g:G):Sy:=(g.name,g.len,-1)
def syP (p:Pr):Sy:=(p.name,0,(p.params.length:Int))
def symsOf (m:M):List Sy:=(m.vars.filter (·.seen)).map syG++(m.procs.filter (·.seen)).map syP
def findS (l:List Sy) (n:Bs):Option Sy:=l.find? fun s=>s.1 == n
def needS (l:List Sy) (n:Bs):Bs:=match findS l n with
 | some s=>lineOf s
 | none=>wordsL [110,111,110,101] [n]
def needsS (l:List Sy) (ns:List Bs):Bs:=(ns.map (needS l)).flatten
structure R where
 code:Nat
 pos:Nat
 mod:Bs
 name:Bs
 args:Nat
def rx:List X->List R
 | []=>[]
 | ⟨code,pos,_,m,nm,_,le,ri,ar⟩ :: xs =>
  (if code=2\/code=3\/code=6 then [⟨code,pos,m,nm,ar.length⟩] else [])++rx le++rx ri++rx ar++rx xs
def rs:List S->List R
 | []=>[]
 | ⟨code,pos,nm,ix,vl,th,el⟩ :: ss =>
  (if code=1 then [⟨if ix.isEmpty then 2 else 3,pos,[],nm,0⟩] else [])++rx ix++rx vl++rs th++rs el++rs ss
def allR (m:M):List R:=(m.procs.map fun p=>rs p.body).flatten++rs m.body
def usedR (m:M) (of:Bs):List Bs:=((allR m).filter fun r=>!(of == []) && r.mod == of).map (·.name)
abbrev Seen:=Bs->Option (List Sy)
abbrev Ck:=Option (Nat× Option Nat)
def stand (m:M) (own:List Bs) (seen:Seen) (md nm:Bs):Except Nat (Nat× Int) :=
 if md≠[] then
  if md∈m.imports then
   match findS ((seen md).getD []) nm with
   | some s=>.ok s.2
   | none=>.error 7
  else .error 5
 else if nm∈own then .ok (0,-1)
 else match m.vars.find? fun g=>g.name == nm with
  | some g=>.ok (g.len,-1)
  | none=>match m.procs.find? fun p=>p.name == nm with
   | some p=>.ok (0,(p.params.length:Int))
   | none=>.error 7
def kindOf (s:Nat× Int):Nat:=if 0<=s.2 then 6 else if 0<s.1 then 3 else 2
def judge (m:M) (own:List Bs) (seen:Seen) (r:R):Ck :=
 match stand m own seen r.mod r.name with
 | .error e=>some (e,some r.pos)
 | .ok s=>if kindOf s≠r.code then some (1,some r.pos)
  else if r.code=6/\(r.args:Int)≠s.2 then some (2,some r.pos) else none
def imps (own:Bs) (seen:Seen):List Bs->List Bs->Ck
 | _,[]=>none
 | ah,n :: t=>if n=own\/n∈ah then some (10,none) else if seen n=none then some (8,none) else imps own seen (n :: ah) t
def tw:List Bs->List (Bs× Nat)->Ck
 | _,[]=>none
 | ah,(n,p) :: t=>if n∈ah then some (9,some p) else tw (n :: ah) t
def ownOf (p:Pr):List Bs:=p.params++p.vars
def checkP (m:M) (seen:Seen) (p:Pr):Ck :=
 (tw [] ((ownOf p).map fun n=>(n,p.pos))).or ((rs p.body).findSome? (judge m (ownOf p) seen))
def check (m:M) (seen:Seen):Ck :=
 (imps m.name seen [] m.imports).or <|
 (tw [] (m.vars.map (fun g=>(g.name,g.pos))++m.procs.map (fun p=>(p.name,p.pos)))).or <|
 (m.procs.findSome? (checkP m seen)).or ((rs m.body).findSome? (judge m [] seen))
theorem vR {own:Bs}{seen:Seen}:∀ {l ah:List Bs},imps own seen ah l=none↔(∀ n∈l,n≠own/\n ∉ ah/\seen n≠none)/\l.Nodup:=by
 intro l
 induction l with
 | nil=>intro ah;simp[imps]
 | cons n t ih =>
  intro ah
  unfold imps
  by_cases h1:n=own\/n∈ah
  ·rw[if_pos h1]
   refine⟨fun h=>by simp at h,fun h=>?_⟩
   have:=h.1 n (by simp)
   rcases h1 with e|e
   ·exact absurd e this.1
   ·exact absurd e this.2.1
  ·rw[if_neg h1]
   by_cases h2:seen n=none
   ·rw[if_pos h2]
    refine⟨fun h=>by simp at h,fun h=>?_⟩
    exact absurd h2 (h.1 n (by simp)).2.2
   ·rw[if_neg h2,ih,List.nodup_cons]
    have h1a:n≠own:=fun e=>h1 (.inl e)
    have h1b:n ∉ ah:=fun e=>h1 (.inr e)
    constructor
    ·rintro⟨a,b⟩
     refine⟨?_,?_,b⟩
     ·intro k hk
      rcases List.mem_cons.1 hk with e|e
      ·subst e;exact⟨h1a,h1b,h2⟩
      ·have:=a k e
       exact⟨this.1,fun q=>this.2.1 (List.mem_cons_of_mem _ q),this.2.2⟩
     ·intro hk
      exact(a n hk).2.1 (by simp)
    ·rintro⟨a,b,c⟩
     refine⟨?_,c⟩
     intro k hk
     have:=a k (List.mem_cons_of_mem _ hk)
     refine⟨this.1,?_,this.2.2⟩
     intro q
     rcases List.mem_cons.1 q with e|e
     ·subst e;exact b hk
     ·exact this.2.1 e
theorem tw_none:∀ {l:List (Bs× Nat)}{ah:List Bs},tw ah l=none↔(∀ n∈l.map (·.1),n ∉ ah)/\(l.map (·.1)).Nodup:=by
 intro l
 induction l with
 | nil=>intro ah;simp[tw]
 | cons x t ih =>
  obtain⟨n,p⟩:=x
  intro ah
  unfold tw
  by_cases h1:n∈ah
  ·rw[if_pos h1]
   refine⟨fun h=>by simp at h,fun h=>?_⟩
   exact absurd h1 (h.1 n (by simp))
  ·rw[if_neg h1,ih,List.map_cons,List.nodup_cons]
   constructor
   ·rintro⟨a,b⟩
    refine⟨?_,?_,b⟩
    ·intro k hk
     rcases List.mem_cons.1 hk with e|e
     ·subst e;exact h1
     ·exact fun q=>a k e (List.mem_cons_of_mem _ q)
    ·intro hk
     exact a n hk (by simp)
   ·rintro⟨a,b,c⟩
    refine⟨?_,c⟩
    intro k hk q
    rcases List.mem_cons.1 q with e|e
    ·subst e;exact b hk
    ·exact a k (List.mem_cons_of_mem _ hk) e
def Fine (m:M) (seen:Seen):Prop :=
 ((∀ n∈m.imports,n≠m.name/\seen n≠none)/\m.imports.Nodup) /\
 (m.vars.map (·.name)++m.procs.map (·.name)).Nodup /\
 (∀ p∈m.procs,(ownOf p).Nodup/\∀ r∈rs p.body,judge m (ownOf p) seen r=none) /\
 ∀ r∈rs m.body,judge m [] seen r=none
theorem check_none {m:M}{seen:Seen}:check m seen=none↔Fine m seen:=by
 unfold check Fine
 rw[Option.or_eq_none_iff,Option.or_eq_none_iff,Option.or_eq_none_iff,vR,tw_none,List.findSome?_eq_none_iff,List.findSome?_eq_none_iff]
 have e1:(m.vars.map (fun g=>(g.name,g.pos))++m.procs.map (fun p=>(p.name,p.pos))).map (·.1)=m.vars.map (·.name)++m.procs.map (·.name):=by simp[Function.comp_def]
 rw[e1]
 have e2:∀ p:Pr,checkP m seen p=none↔(ownOf p).Nodup/\∀ r∈rs p.body,judge m (ownOf p) seen r=none:=by
  intro p
  unfold checkP
  rw[Option.or_eq_none_iff,tw_none,List.findSome?_eq_none_iff]
  have:((ownOf p).map fun n=>(n,p.pos)).map (·.1)=ownOf p:=by simp[Function.comp_def]
  rw[this]
  simp
 simp only [e2]
 simp
theorem find_key {α:Type}{key:α->Bs}{k:Bs}:∀ {l:List α},(l.map key).Nodup->∀ x,l.find? (fun a=>key a == k)=some x↔x∈l/\key x=k:=by
 intro l
 induction l with
 | nil=>intro _ x;simp
 | cons a t ih =>
  intro h x
  rw[List.map_cons,List.nodup_cons]at h
  rw[List.find?_cons]
  by_cases e:key a=k
  ·have:(key a == k)=true:=by simpa using e
   rw[this]
   constructor
   ·intro q
    simp only [Option.some.injEq]at q
    subst q
    exact⟨by simp,e⟩
   ·rintro⟨q,w⟩
    rcases List.mem_cons.1 q with z|z
    ·subst z;rfl
    ·exact absurd (List.mem_map.2 ⟨x,z,w.trans e.symm⟩) h.1
  ·have:(key a == k)=false:=by simpa using e
   rw[this]
   simp only
   rw[ih h.2]
   constructor
   ·rintro⟨q,w⟩;exact⟨List.mem_cons_of_mem _ q,w⟩
   ·rintro⟨q,w⟩
    rcases List.mem_cons.1 q with z|z
    ·subst z;exact absurd w e
    ·exact⟨z,w⟩
theorem xr {m:M}{own:List Bs}{a b:Seen}{r:R}
  (h:r.mod≠[]->r.mod∈m.imports->findS ((a r.mod).getD []) r.name=findS ((b r.mod).getD []) r.name):judge m own a r=judge m own b r:=by
 unfold judge stand
 by_cases h1:r.mod≠[]
 ·by_cases h2:r.mod∈m.imports
  ·rw[if_pos h1,if_pos h1,if_pos h2,if_pos h2,h h1 h2]
  ·rw[if_pos h1,if_pos h1,if_neg h2,if_neg h2]
 ·rw[if_neg h1,if_neg h1]
theorem fine_same {m:M}{a b:Seen}(h:Fine m a) (hi:∀ n∈m.imports,b n≠none)
  (hs:∀ r∈allR m,r.mod≠[]->r.mod∈m.imports->findS ((a r.mod).getD []) r.name=findS ((b r.mod).getD []) r.name):Fine m b:=by
 refine⟨⟨fun n hn=>⟨(h.1.1 n hn).1,hi n hn⟩,h.1.2⟩,h.2.1,?_,?_⟩
 ·intro p hp
  refine⟨(h.2.2.1 p hp).1,fun r hr=>?_⟩
  rw[<-xr (a:=a) (hs r ?_)]
  ·exact(h.2.2.1 p hp).2 r hr
  ·unfold allR
   rw[List.mem_append]
   exact .inl (List.mem_flatten.2 ⟨rs p.body,List.mem_map.2 ⟨p,hp,rfl⟩,hr⟩)
 ·intro r hr
  rw[<-xr (a:=a) (hs r ?_)]
  ·exact h.2.2.2 r hr
  ·unfold allR
   rw[List.mem_append]
   exact .inr hr
theorem usedR_mem {m:M}{of n:Bs}:n∈usedR m of↔of≠[]/\∃ r∈allR m,r.mod=of/\r.name=n:=by
 unfold usedR
 rw[List.mem_map]
 constructor
 ·rintro⟨r,hr,e⟩
  rw[List.mem_filter]at hr
  have:=hr.2
  simp at this
  exact⟨this.1,r,hr.1,this.2,e⟩
 ·rintro⟨h0,r,hr,e1,e2⟩
  refine⟨r,?_,e2⟩
  rw[List.mem_filter]
  refine⟨hr,?_⟩
  simp[h0,e1]
abbrev Th:=Bs× Nat× Nat× Int
def thG (g:G):Th:=(g.name,g.pos,g.len,-1)
def thP (p:Pr):Th:=(p.name,p.pos,0,(p.params.length:Int))
def things (m:M):List Th:=m.vars.map thG++m.procs.map thP
def ownT (p:Pr):List Th:=(ownOf p).map fun n=>(n,p.pos,0,-1)
def lkT (l:List Th) (k:Bs):Option (Nat× Int):=(l.find? fun x=>x.1 == k).map fun x=>x.2.2
theorem lkT_snoc {l:List Th}{x:Th}(h:x.1 ∉ l.map (·.1)) (k:Bs):lkT (l++[x]) k=if k=x.1 then some x.2.2 else lkT l k:=by
 unfold lkT
 rw[List.find?_append]
 by_cases e:k=x.1
 ·have:l.find? (fun y=>y.1 == k)=none:=by
   rw[List.find?_eq_none]
   intro y hy
   have hne:y.1≠k:=fun q=>h (List.mem_map.2 ⟨y,hy,q.trans e⟩)
   simpa using hne
  rw[this,if_pos e]
  subst e
  simp
 ·rw[if_neg e]
  have:[x].find? (fun y=>y.1 == k)=none:=by
   rw[List.find?_cons]
   have:(x.1 == k)=false:=by simpa using fun q=>e q.symm
   rw[this];rfl
  rw[this]
  simp
theorem lkT_some {l:List Th}{k:Bs}:(lkT l k).isSome=true↔k∈l.map (·.1):=by
 unfold lkT
 rw[Option.isSome_map,List.find?_isSome,List.mem_map]
 constructor
 ·rintro⟨x,hx,e⟩
  exact⟨x,hx,by simpa using e⟩
 ·rintro⟨x,hx,e⟩
  exact⟨x,hx,by simpa using e⟩
def keyT (x:Th):Bs× Nat:=(x.1,x.2.1)
def twr (l:List Th) (i:Nat):Ck:=tw ((l.take i).map (·.1)).reverse ((l.drop i).map keyT)
theorem twr_zero (l:List Th):twr l 0=tw [] (l.map keyT):=by simp[twr]
theorem twr_all (l:List Th) (i:Nat) (h:l.length<=i):twr l i=none:=by
 unfold twr
 rw[List.drop_eq_nil_of_le h]
 rfl
theorem twr_step (l:List Th) (i:Nat) (h:i<l.length):twr l i=if l[i].1∈(l.take i).map (·.1) then some (9,some l[i].2.1) else twr l (i+1):=by
 unfold twr
 rw[List.drop_eq_getElem_cons h,List.map_cons,List.take_succ_eq_append_getElem h,List.map_append,List.reverse_append]
 show tw _ ((l[i].1,l[i].2.1) :: _)=_
 rw[tw]
 simp
def twP (l:List Th) (i:Nat):Option (Nat× Nat):=if h:i<l.length then (if l[i].1∈(l.take i).map (·.1) then some (9,l[i].2.1) else twP l (i+1)) else none
 termination_by l.length - i
def up (o:Option (Nat× Nat)):Ck:=o.map fun x=>(x.1,some x.2)
theorem twP_eq (l:List Th):∀(n i:Nat),l.length - i<=n->twr l i=up (twP l i):=by
 intro n
 induction n with
 | zero=>intro i h;rw[twr_all l i (by omega),twP,dif_neg (by omega)];rfl
 | succ n ih =>
  intro i h
  rw[twP]
  by_cases hi:i<l.length
  ·rw[dif_pos hi,twr_step l i hi]
   by_cases hm:l[i].1∈(l.take i).map (·.1)
   ·rw[if_pos hm,if_pos hm];rfl
   ·rw[if_neg hm,if_neg hm,ih (i+1) (by omega)]
  ·rw[dif_neg hi,twr_all l i (by omega)];rfl
theorem twP_zero (l:List Th):tw [] (l.map keyT)=up (twP l 0):=by rw[<-twr_zero,twP_eq l _ 0 (Nat.le_refl _)]
def standV (fo:Bs->Option (List Sy)) (near:List (Bs->Option (Nat× Int))) (md nm:Bs):Except Nat (Nat× Int) :=
 if md≠[] then
  match fo md with
  | none=>.error 5
  | some l=>match findS l nm with
   | some s=>.ok s.2
   | none=>.error 7
 else match near.findSome? (fun f=>f nm) with
  | some x=>.ok x
  | none=>.error 7
def others (m:M) (seen:Seen):Bs->Option (List Sy):=fun k=>if k∈m.imports then seen k else none
theorem lkT_own (p:Pr) (n:Bs):lkT (ownT p) n=if n∈ownOf p then some (0,-1) else none:=by
 unfold lkT ownT
 rw[List.find?_map,Option.map_map]
 by_cases h:n∈ownOf p
 ·rw[if_pos h]
  have:((ownOf p).find? ((fun x:Th=>x.1 == n) ∘ fun k=>(k,p.pos,0,-1))).isSome=true:=by
   rw[List.find?_isSome]
   exact⟨n,h,by simp⟩
  obtain⟨x,hx⟩:=Option.isSome_iff_exists.1 this
  rw[hx];rfl
 ·rw[if_neg h]
  have:(ownOf p).find? ((fun x:Th=>x.1 == n) ∘ fun k=>(k,p.pos,0,-1))=none:=by
   rw[List.find?_eq_none]
   intro x hx
   have:x≠n:=fun e=>h (e ▸ hx)
   simpa using this
  rw[this];rfl
theorem lkT_things (m:M) (n:Bs):lkT (things m) n=match m.vars.find? (fun g=>g.name == n) with
  | some g=>some (g.len,-1)
  | none=>match m.procs.find? (fun p=>p.name == n) with
   | some p=>some (0,(p.params.length:Int))
   | none=>none:=by
 unfold lkT things
 rw[List.find?_append,List.find?_map,List.find?_map]
 have e1:((fun x:Th=>x.1 == n) ∘ thG)=fun g=>g.name == n:=rfl
 have e2:((fun x:Th=>x.1 == n) ∘ thP)=fun g=>g.name == n:=rfl
 rw[e1,e2]
 cases m.vars.find? (fun g=>g.name == n) with
 | some g=>rfl
 | none=>cases m.procs.find? (fun p=>p.name == n) <;> rfl
theorem jV {m:M}{seen:Seen}(h:imps m.name seen [] m.imports=none) {own:List Bs}{near:List (Bs->Option (Nat× Int))}
  (hn:∀ n,near.findSome? (fun f=>f n)=if n∈own then some (0,-1) else lkT (things m) n) (md nm:Bs):stand m own seen md nm=standV (others m seen) near md nm:=by
 unfold stand standV others
 rw[vR]at h
 by_cases h1:md≠[]
 ·rw[if_pos h1,if_pos h1]
  by_cases h2:md∈m.imports
  ·rw[if_pos h2,if_pos h2]
   obtain⟨l,hl⟩:=Option.ne_none_iff_exists'.1 (h.1 md h2).2.2
   rw[hl]
   rfl
  ·rw[if_neg h2,if_neg h2]
 ·rw[if_neg h1,if_neg h1,hn]
  by_cases h2:nm∈own
  ·rw[if_pos h2,if_pos h2]
  ·rw[if_neg h2,if_neg h2,lkT_things]
   cases m.vars.find? (fun g=>g.name == nm) with
   | some g=>rfl
   | none=>cases m.procs.find? (fun p=>p.name == nm) <;> rfl
def judgeP (st:Bs->Bs->Except Nat (Nat× Int)) (r:R):Option (Nat× Nat) :=
 match st r.mod r.name with
 | .error e=>some (e,r.pos)
 | .ok s=>if kindOf s≠r.code then some (1,r.pos) else if r.code=6/\(r.args:Int)≠s.2 then some (2,r.pos) else none
theorem judge_up (m:M) (own:List Bs) (seen:Seen) (r:R):judge m own seen r=up (judgeP (stand m own seen) r):=by
 unfold judge judgeP
 cases stand m own seen r.mod r.name with
 | error e=>rfl
 | ok s =>
  simp only
  by_cases h1:kindOf s≠r.code
  ·rw[if_pos h1,if_pos h1];rfl
  ·rw[if_neg h1,if_neg h1]
   by_cases h2:r.code=6/\(r.args:Int)≠s.2
   ·rw[if_pos h2,if_pos h2];rfl
   ·rw[if_neg h2,if_neg h2];rfl
theorem uT {α:Type}(f:α->Option (Nat× Nat)) (l:List α):l.findSome? (fun x=>up (f x))=up (l.findSome? f):=by
 induction l with
 | nil=>rfl
 | cons a t ih =>
  rw[List.findSome?_cons,List.findSome?_cons]
  cases f a with
  | none=>exact ih
  | some b=>rfl
theorem up_or (a b:Option (Nat× Nat)):(up a).or (up b)=up (a.or b):=by cases a <;> rfl
def checkPP (m:M) (seen:Seen) (p:Pr):Option (Nat× Nat) :=
 (twP (ownT p) 0).or ((rs p.body).findSome? (judgeP (standV (others m seen) [lkT (ownT p),lkT (things m)])))
theorem checkP_eq {m:M}{seen:Seen}(h:imps m.name seen [] m.imports=none) (p:Pr):checkP m seen p=up (checkPP m seen p):=by
 unfold checkP checkPP
 have e1:(ownOf p).map (fun n=>(n,p.pos))=(ownT p).map keyT:=by simp[ownT,keyT]
 have e2:(rs p.body).findSome? (judge m (ownOf p) seen)=up ((rs p.body).findSome? (judgeP (standV (others m seen) [lkT (ownT p),lkT (things m)]))):=by
  rw[<-uT]
  congr 1
  funext r
  rw[judge_up]
  have:stand m (ownOf p) seen=standV (others m seen) [lkT (ownT p),lkT (things m)]:=by
   funext md nm
   refine jV h (fun n=>?_) md nm
   rw[List.findSome?_cons,lkT_own]
   by_cases hn:n∈ownOf p
   ·rw[if_pos hn,if_pos hn]
   ·rw[if_neg hn,if_neg hn,List.findSome?_cons]
    cases lkT (things m) n <;> rfl
  rw[this]
 rw[e1,twP_zero,e2,up_or]
def checkV (m:M) (seen:Seen):Option (Nat× Nat) :=
 (twP (things m) 0).or ((m.procs.findSome? (checkPP m seen)).or ((rs m.body).findSome? (judgeP (standV (others m seen) [lkT (things m)]))))
theorem check_eq (m:M) (seen:Seen):check m seen=(imps m.name seen [] m.imports).or (up (checkV m seen)):=by
 unfold check
 cases h:imps m.name seen [] m.imports with
 | some e=>rfl
 | none =>
  show _=up (checkV m seen)
  unfold checkV
  have e1:m.vars.map (fun g=>(g.name,g.pos))++m.procs.map (fun p=>(p.name,p.pos))=(things m).map keyT:=by simp[things,keyT,thG,thP,Function.comp_def]
  have e2:m.procs.findSome? (checkP m seen)=up (m.procs.findSome? (checkPP m seen)):=by
   rw[<-uT]
   congr 1
   funext p
   exact checkP_eq h p
  have e3:(rs m.body).findSome? (judge m [] seen)=up ((rs m.body).findSome? (judgeP (standV (others m seen) [lkT (things m)]))):=by
   rw[<-uT]
   congr 1
   funext r
   rw[judge_up]
   have:stand m [] seen=standV (others m seen) [lkT (things m)]:=by
    funext md nm
    refine jV h (fun n=>?_) md nm
    rw[List.findSome?_cons,if_neg (by simp)]
    cases lkT (things m) n <;> rfl
   rw[this]
  rw[e1,twP_zero,e2,e3,up_or,up_or]
  rfl
def Sr (l:List R):Prop:=∀ r∈l,r.mod.length<=1000000/\r.name.length<=1000000
theorem Sr.app {l m:List R}(h:Sr l) (k:Sr m):Sr (l++m):=fun r hr=>by
 rcases List.mem_append.1 hr with q|q
 ·exact h r q
 ·exact k r q
theorem Sr.nil:Sr []:=fun r hr=>by cases hr
theorem y9 {n:Bs}(h:okn n):n.length<=1000000:=by have:=h.2.2;omega
theorem okr_len {m n:Bs}(h:okr m n):m.length<=1000000/\n.length<=1000000:=by
 refine⟨?_,y9 h.2⟩
 rcases h.1 with q|q
 ·rw[q];simp
 ·exact y9 q
theorem wx_small:∀(n:Nat) (l:List X),SizeOf.sizeOf l<=n->WX l->Sr (rx l):=by
 intro n
 induction n with
 | zero=>intro l hl;cases l <;> simp at hl <;> omega
 | succ n ih =>
  intro l hl h
  cases l with
  | nil=>rw[rx];exact Sr.nil
  | cons x xs =>
   obtain⟨code,pos,nn,m,nm,op,le,ri,ar⟩:=x
   rw[WX]at h
   simp at hl
   obtain⟨h1,h2⟩:=h
   have hxs:=ih xs (by omega) h2
   have key:Sr (if code=2\/code=3\/code=6 then [⟨code,pos,m,nm,ar.length⟩] else [])/\Sr (rx le)/\Sr (rx ri)/\Sr (rx ar):=by
    have one:okr m nm->Sr (if code=2\/code=3\/code=6 then [⟨code,pos,m,nm,ar.length⟩] else []):=by
     intro hk r hr
     split at hr
     ·rw[List.mem_singleton.1 hr];exact okr_len hk
     ·cases hr
    have non:¬(code=2\/code=3\/code=6)->Sr (if code=2\/code=3\/code=6 then [⟨code,pos,m,nm,ar.length⟩] else []):=by
     intro hk
     rw[if_neg hk];exact Sr.nil
    have nil:Sr (rx []):=by rw[rx];exact Sr.nil
    rcases h1 with⟨c,_,_,_,_,h5,h6,h7⟩|⟨c,_,h3,_,h5,h6,h7⟩|⟨c,_,h3,_,h5,_,h6,h7⟩|⟨c,_,_,_,_,h5,_,h6,h7⟩|⟨c,_,_,_,_,h5,_,h6,_,h7⟩|⟨c,_,h3,_,h5,h6,h7⟩
    ·exact⟨non (by omega),by rw[h5];exact nil,by rw[h6];exact nil,by rw[h7];exact nil⟩
    ·exact⟨one h3,by rw[h5];exact nil,by rw[h6];exact nil,by rw[h7];exact nil⟩
    ·exact⟨one h3,ih _ (by omega) h5,by rw[h6];exact nil,by rw[h7];exact nil⟩
    ·exact⟨non (by omega),ih _ (by omega) h5,by rw[h6];exact nil,by rw[h7];exact nil⟩
    ·exact⟨non (by omega),ih _ (by omega) h5,ih _ (by omega) h6,by rw[h7];exact nil⟩
    ·exact⟨one h3,by rw[h5];exact nil,by rw[h6];exact nil,ih _ (by omega) h7⟩
   rw[rx]
   exact(((key.1.app key.2.1).app key.2.2.1).app key.2.2.2).app hxs
theorem ws_small:∀(n:Nat) (l:List S),SizeOf.sizeOf l<=n->WS l->Sr (rs l):=by
 intro n
 induction n with
 | zero=>intro l hl;cases l <;> simp at hl <;> omega
 | succ n ih =>
  intro l hl h
  cases l with
  | nil=>rw[rs];exact Sr.nil
  | cons x xs =>
   obtain⟨code,pos,nm,ix,vl,th,el⟩:=x
   rw[WS]at h
   simp at hl
   obtain⟨h1,h2⟩:=h
   have hxs:=ih xs (by omega) h2
   have nx:Sr (rx []):=by rw[rx];exact Sr.nil
   have ns:Sr (rs []):=by rw[rs];exact Sr.nil
   have wv:ev vl->Sr (rx vl):=fun q=>wx_small _ _ (Nat.le_refl _) q.1
   have non:code≠1->Sr (if code=1 then [⟨if ix.isEmpty then 2 else 3,pos,[],nm,0⟩] else []):=by
    intro hk
    rw[if_neg hk];exact Sr.nil
   have key:Sr (if code=1 then [⟨if ix.isEmpty then 2 else 3,pos,[],nm,0⟩] else [])/\Sr (rx ix)/\Sr (rx vl)/\Sr (rs th)/\Sr (rs el):=by
    rcases h1 with⟨c,h3,h4,h5,h6,h7⟩|⟨c,_,h4,h5,h6,h7⟩|⟨c,_,h4,h5,h6,h7⟩|⟨c,_,h4,h5,h6,h7⟩|⟨c,_,h4,h5,_,h6,h7⟩
    ·refine⟨?_,?_,wv h5,by rw[h6];exact ns,by rw[h7];exact ns⟩
     ·intro r hr
      rw[if_pos c]at hr
      rw[List.mem_singleton.1 hr]
      exact⟨by simp,y9 h3⟩
     ·rcases h4 with q|q
      ·rw[q];exact nx
      ·exact wx_small _ _ (Nat.le_refl _) q.1
    ·exact⟨non (by omega),by rw[h4];exact nx,wv h5,ih _ (by omega) h6,ih _ (by omega) h7⟩
    ·exact⟨non (by omega),by rw[h4];exact nx,wv h5,ih _ (by omega) h6,by rw[h7];exact ns⟩
    ·exact⟨non (by omega),by rw[h4];exact nx,wv h5,by rw[h6];exact ns,by rw[h7];exact ns⟩
    ·exact⟨non (by omega),by rw[h4];exact nx,wv h5,by rw[h6];exact ns,by rw[h7];exact ns⟩
   rw[rs]
   exact((((key.1.app key.2.1).app key.2.2.1).app key.2.2.2.1).app key.2.2.2.2).app hxs
structure Sml (m:M):Prop where
 ic:m.imports.length<=1000
 im:∀ n∈m.imports,n.length<=1000000
 gc:m.vars.length<=1000
 g:∀ g∈m.vars,g.name.length<=1000000
 pc:m.procs.length<=1000
 p:∀ p∈m.procs,p.name.length<=1000000/\p.params.length<=1000/\p.vars.length<=1000/\(∀ n∈p.params,n.length<=1000000)/\(∀ n∈p.vars,n.length<=1000000)/\Sr (rs p.body)
 b:Sr (rs m.body)
theorem WM.sml {m:M}(h:WM m):Sml m:=by
 refine⟨by have:=h.ic;omega,fun n hn=>y9 (h.i n hn),by have:=h.gc;omega,fun g hg=>y9 (h.g g hg).n,by have:=h.pc;omega,fun p hp=>?_,ws_small _ _ (Nat.le_refl _) h.b⟩
 have q:=h.p p hp
 have:=q.c
 exact⟨y9 q.n,by omega,by omega,fun n hn=>y9 (q.ps n hn),fun n hn=>y9 (q.vs n hn),ws_small _ _ (Nat.le_refl _) q.b⟩
theorem find_idx {α β:Type}(f:α->Option β):∀(l:List α),l.findSome? f=(List.range l.length).findSome? fun i=>(l[i]?).bind f:=by
 intro l
 induction l with
 | nil=>rfl
 | cons x l ih =>
  rw[List.findSome?_cons,List.length_cons,List.range_succ_eq_map,List.findSome?_cons,List.findSome?_map,ih]
  have e2:((fun i=>((x :: l)[i]?).bind f) ∘ Nat.succ)=fun i=>(l[i]?).bind f:=by
   funext i
   simp
  rw[e2]
  simp
def w64 (n:Int):Int:=(n+9223372036854775808) % 18446744073709551616 - 9223372036854775808
abbrev I64 (n:Int):Prop:=-9223372036854775808<=n/\n<=9223372036854775807
theorem w64_in (n:Int):I64 (w64 n):=by unfold I64 w64;omega
theorem w64_id {n:Int}(h:I64 n):w64 n=n:=by unfold I64 at h;unfold w64;omega
theorem w64_congr {a b:Int}(h:(a - b) % 18446744073709551616=0):w64 a=w64 b:=by unfold w64;omega
def b01 (p:Prop) [Decidable p]:Int:=if p then 1 else 0
def both (op:Bs) (a b:Int):Option Int :=
 if op=mPlus then some (w64 (a+b))
 else if op=mMinus then some (w64 (a - b))
 else if op=mStar then some (w64 (a * b))
 else if op=wDiv then (if b=0 then none else some (w64 (a.fdiv b)))
 else if op=wMod then (if b=0 then none else some (a.fmod b))
 else if op=mEq then some (b01 (a=b))
 else if op=mNe then some (b01 (a≠b))
 else if op=mLt then some (b01 (a<b))
 else if op=mLe then some (b01 (a<=b))
 else if op=mGt then some (b01 (a > b))
 else if op=mGe then some (b01 (a ≥ b))
 else some 0
theorem both_plus (a b:Int):both mPlus a b=some (w64 (a+b)):=by simp[both]
theorem both_minus (a b:Int):both mMinus a b=some (w64 (a - b)):=by simp[both,mMinus,mPlus]
theorem both_star (a b:Int):both mStar a b=some (w64 (a * b)):=by simp[both,mMinus,mPlus,mStar]
theorem both_div (a b:Int):both wDiv a b=if b=0 then none else some (w64 (a.fdiv b)):=by simp[both,mMinus,mPlus,mStar,wDiv]
theorem both_mod (a b:Int):both wMod a b=if b=0 then none else some (a.fmod b):=by simp[both,mMinus,mPlus,mStar,wDiv,wMod]
theorem both_eq (a b:Int):both mEq a b=some (b01 (a=b)):=by simp[both,mMinus,mPlus,mStar,wDiv,wMod,mEq]
theorem both_ne (a b:Int):both mNe a b=some (b01 (a≠b)):=by simp[both,mMinus,mPlus,mStar,wDiv,wMod,mEq,mNe]
theorem both_lt (a b:Int):both mLt a b=some (b01 (a<b)):=by simp[both,mMinus,mPlus,mStar,wDiv,wMod,mEq,mNe,mLt]
theorem both_le (a b:Int):both mLe a b=some (b01 (a<=b)):=by simp[both,mMinus,mPlus,mStar,wDiv,wMod,mEq,mNe,mLt,mLe]
theorem both_gt (a b:Int):both mGt a b=some (b01 (a > b)):=by simp[both,mMinus,mPlus,mStar,wDiv,wMod,mEq,mNe,mLt,mLe,mGt]
theorem both_ge (a b:Int):both mGe a b=some (b01 (a ≥ b)):=by simp[both,mMinus,mPlus,mStar,wDiv,wMod,mEq,mNe,mLt,mLe,mGt,mGe]
theorem fdiv_mend (a b:Int) (hb:b≠0):a.fdiv b=a.tdiv b - (if a.tmod b≠0/\((a.tmod b<0)↔¬b<0) then 1 else 0)/\a.fmod b=a.tmod b+(if a.tmod b≠0/\((a.tmod b<0)↔¬b<0) then b else 0):=by
 have h1:=Int.tmod_add_mul_tdiv a b
 have h2:=Int.fmod_add_mul_fdiv a b
 have k1:0<b->0<=a.fmod b/\a.fmod b<b:=fun h=>⟨Int.fmod_nonneg_of_pos a h,Int.fmod_lt_of_pos a h⟩
 have k2:b<0->b<a.fmod b/\a.fmod b<=0:=by
  intro h
  have e:(-a).fmod (-b)=- a.fmod b:=by rw[Int.neg_fmod_neg]
  have l:=Int.fmod_nonneg_of_pos (-a) (b:=-b) (by omega)
  have u:=Int.fmod_lt_of_pos (-a) (b:=-b) (by omega)
  omega
 have k3:0<b->-b<a.tmod b/\a.tmod b<b:=fun h=>⟨by have:=Int.lt_tmod_of_pos a h;omega,Int.tmod_lt_of_pos a h⟩
 have k4:b<0->b<a.tmod b/\a.tmod b < -b:=by
  intro h
  have e:a.tmod (-b)=a.tmod b:=Int.tmod_neg a b
  have l:=Int.lt_tmod_of_pos a (b:=-b) (by omega)
  have u:=Int.tmod_lt_of_pos a (b:=-b) (by omega)
  omega
 have key:∀ q r q' r':Int,r+b * q=a->r'+b * q'=a->(0<b->0<=r/\r<b/\0<=r'/\r'<b)->(b<0->b<r/\r<=0/\b<r'/\r'<=0)->q=q'/\r=r':=by
  intro q r q' r' e1 e2 hp hn
  have e3:b * (q - q')=r' - r:=by rw[Int.mul_sub];omega
  have:q - q'=0:=by
   rcases Int.lt_or_gt_of_ne hb with h|h
   ·have z:=hn h
    rcases Int.lt_trichotomy (q - q') 0 with y|y|y
    ·have:b * (q - q') ≥ -b:=by
      have:=Int.mul_le_mul_of_nonneg_left (a:=q - q') (b:=-1) (c:=-b) (by omega) (by omega)
      rw[Int.neg_mul]at this
      omega
     omega
    ·exact y
    ·have:b * (q - q')<=b:=by
      have:=Int.mul_le_mul_of_nonneg_left (a:=1) (b:=q - q') (c:=-b) (by omega) (by omega)
      rw[Int.neg_mul b (q - q')]at this
      omega
     omega
   ·have z:=hp h
    rcases Int.lt_trichotomy (q - q') 0 with y|y|y
    ·have:b * (q - q')<=b * (-1):=Int.mul_le_mul_of_nonneg_left (by omega) (by omega)
     omega
    ·exact y
    ·have:b * 1<=b * (q - q'):=Int.mul_le_mul_of_nonneg_left (by omega) (by omega)
     omega
  have q0:q=q':=by omega
  subst q0
  exact⟨rfl,by omega⟩
 split
 ·rename_i c
  refine key _ _ _ _ h2 ?_ ?_ ?_
  ·rw[Int.mul_sub];omega
  ·intro h
   have:=k1 h;have:=k3 h
   have:=c.2
   omega
  ·intro h
   have:=k2 h;have:=k4 h
   have:=c.2
   omega
 ·rename_i c
  rw[Int.sub_zero,Int.add_zero]
  refine key _ _ _ _ h2 ?_ ?_ ?_
  ·omega
  ·intro h
   have:=k1 h;have:=k3 h
   omega
  ·intro h
   have:=k2 h;have:=k4 h
   omega
theorem both_rest {a b:Int}(ha:I64 a) (hb:b≠0):w64 (w64 (w64 (a.fdiv b) * b)+a.fmod b)=a/\(a.fmod b=0\/(a.fmod b<0↔b<0))/\((0<b/\a.fmod b<b)\/(b<0/\b<a.fmod b)\/a.fmod b=0):=by
 have h2:=Int.fmod_add_mul_fdiv a b
 have k1:0<b->0<=a.fmod b/\a.fmod b<b:=fun h=>⟨Int.fmod_nonneg_of_pos a h,Int.fmod_lt_of_pos a h⟩
 have k2:b<0->b<a.fmod b/\a.fmod b<=0:=by
  intro h
  have e:(-a).fmod (-b)=- a.fmod b:=by rw[Int.neg_fmod_neg]
  have l:=Int.fmod_nonneg_of_pos (-a) (b:=-b) (by omega)
  have u:=Int.fmod_lt_of_pos (-a) (b:=-b) (by omega)
  omega
 refine⟨?_,?_,?_⟩
 ·have e1:w64 (w64 (a.fdiv b) * b)=w64 (a.fdiv b * b):=by
   apply w64_congr
   rw[<-Int.sub_mul]
   obtain⟨k,hk⟩:∃ k,w64 (a.fdiv b) - a.fdiv b=18446744073709551616 * k:=⟨(w64 (a.fdiv b) - a.fdiv b) / 18446744073709551616,by unfold w64;omega⟩
   rw[hk,Int.mul_assoc]
   exact Int.mul_emod_right _ _
  have e2:w64 (w64 (a.fdiv b * b)+a.fmod b)=w64 (a.fdiv b * b+a.fmod b):=by
   apply w64_congr
   unfold w64
   omega
  rw[e1,e2]
  have e3:a.fdiv b * b+a.fmod b=a:=by rw[Int.mul_comm];omega
  rw[e3,w64_id ha]
 ·rcases Int.lt_or_gt_of_ne hb with h|h
  ·have:=k2 h;omega
  ·have:=k1 h;omega
 ·rcases Int.lt_or_gt_of_ne hb with h|h
  ·have:=k2 h;omega
  ·have:=k1 h;omega
structure Pt where
 m:M
 vars:Bs->List Int
structure Rs where
 w:List Pt
 left:Nat
 out:List Int
inductive Rr (α:Type) where
 | ok (v:α) (s:Rs)
 | stop (way:Nat) (s:Rs)
 | gas
abbrev Ru (α:Type):=Rs->Rr α
def Ru.pure {α:Type}(v:α):Ru α:=fun s=>.ok v s
def Ru.bind {α β:Type}(f:Ru α) (g:α->Ru β):Ru β:=fun s=>match f s with
 | .ok v s=>g v s
 | .stop way s=>.stop way s
 | .gas=>.gas
instance:Monad Ru where
 pure:=Ru.pure
 bind:=Ru.bind
def zero:Nat:=2
def bounds:Nat:=3
def deep:Nat:=4
def fuelW:Nat:=5
def full:Nat:=6
def Ru.stop {α:Type}(way:Nat):Ru α:=fun s=>.stop way s
def Ru.out {α:Type}:Ru α:=fun _=>.gas
def tick:Ru Unit:=fun s=>match s.left with
 | 0=>.stop fuelW s
 | n+1=>.ok () { s with left:=n }
def tellN (n:Int):Ru Unit:=fun s=>if s.out.length<200 then .ok () { s with out:=s.out++[n] } else .stop full s
def partOf (w:List Pt) (n:Bs):Option Pt:=w.find? fun p=>p.m.name == n
def getV (md nm:Bs):Ru (List Int):=fun s=>.ok (((partOf s.w md).map fun p=>p.vars nm).getD []) s
def setV (md nm:Bs) (l:List Int):Ru Unit:=fun s=>.ok () { s with w:=s.w.map fun p=>if p.m.name=md then { p with vars:=fun k=>if k=nm then l else p.vars k } else p }
def procOf (md nm:Bs):Ru (Option Pr):=fun s=>.ok ((partOf s.w md).bind fun p=>p.m.procs.find? fun q=>q.name == nm) s
abbrev Own:=Bs->Option Int
def ownFor (p:Pr) (vs:List Int):Own:=fun k=>match (p.params.zip vs).find? (fun q=>q.1 == k) with
 | some q=>some q.2
 | none=>if k∈p.vars then some 0 else none
mutual
def evX:Nat->Nat->Bs->Own->List X->Ru Int
 | 0,_,_,_,_=>Ru.out
 | _+1,_,_,_,[]=>Ru.pure 0
 | g+1,k,md,own,x :: _ =>
  if x.code=1 then Ru.pure (x.n:Int)
  else if x.code=2 then
   (if x.mod=[] then (match own x.name with
    | some v=>Ru.pure v
    | none=>(getV md x.name).bind fun l=>Ru.pure (l.headD 0))
   else (getV x.mod x.name).bind fun l=>Ru.pure (l.headD 0))
  else if x.code=3 then
   (evX g k md own x.left).bind fun i=>(getV (if x.mod=[] then md else x.mod) x.name).bind fun l=>(if 0<=i/\i<l.length then Ru.pure (l.getD i.toNat 0) else Ru.stop bounds)
  else if x.code=4 then
   (evX g k md own x.left).bind fun v=>Ru.pure (if x.op=mMinus then w64 (0 - v) else b01 (v=0))
  else if x.code=5 then
   (evX g k md own x.left).bind fun a =>
    if x.op=wAnd then (if a=0 then Ru.pure 0 else (evX g k md own x.right).bind fun b=>Ru.pure (b01 (b≠0)))
    else if x.op=wOr then (if a≠0 then Ru.pure 1 else (evX g k md own x.right).bind fun b=>Ru.pure (b01 (b≠0)))
    else (evX g k md own x.right).bind fun b=>(match both x.op a b with
     | some v=>Ru.pure v
     | none=>Ru.stop zero)
  else if x.code=6 then
   (evs g k md own x.args).bind fun vs=>(procOf (if x.mod=[] then md else x.mod) x.name).bind fun p=>(match p with
    | none=>Ru.pure 0
    | some p=>callP g k (if x.mod=[] then md else x.mod) p vs)
  else Ru.pure 0
def evs:Nat->Nat->Bs->Own->List X->Ru (List Int)
 | 0,_,_,_,_=>Ru.out
 | _+1,_,_,_,[]=>Ru.pure []
 | g+1,k,md,own,x :: xs=>(evX g k md own [x]).bind fun v=>(evs g k md own xs).bind fun vs=>Ru.pure (v :: vs)
def callP:Nat->Nat->Bs->Pr->List Int->Ru Int
 | 0,_,_,_,_=>Ru.out
 | g+1,k,md,p,vs=>if 30<=k then Ru.stop deep else (goS g (k+1) md (ownFor p vs) p.body).bind fun r=>Ru.pure (r.2.getD 0)
def goS:Nat->Nat->Bs->Own->List S->Ru (Own× Option Int)
 | 0,_,_,_,_=>Ru.out
 | _+1,_,_,own,[]=>Ru.pure (own,none)
 | g+1,k,md,own,x :: xs=>tick.bind fun _=>(go1 g k md own x).bind fun r=>(match r.2 with
  | some v=>Ru.pure (r.1,some v)
  | none=>goS g k md r.1 xs)
def go1:Nat->Nat->Bs->Own->S->Ru (Own× Option Int)
 | 0,_,_,_,_=>Ru.out
 | g+1,k,md,own,x =>
  if x.code=1 then
   (if x.index=[] then (evX g k md own x.value).bind fun v=>(match own x.name with
    | some _=>Ru.pure (fun q=>if q=x.name then some v else own q,none)
    | none=>(setV md x.name [v]).bind fun _=>Ru.pure (own,none))
   else (evX g k md own x.index).bind fun i=>(evX g k md own x.value).bind fun v=>(getV md x.name).bind fun l=>(if 0<=i/\i<l.length then (setV md x.name (l.set i.toNat v)).bind fun _=>Ru.pure (own,none) else Ru.stop bounds))
  else if x.code=2 then (evX g k md own x.value).bind fun v=>(if v=0 then goS g k md own x.els else goS g k md own x.thn)
  else if x.code=3 then goW g k md own x.value x.thn
  else if x.code=4 then (evX g k md own x.value).bind fun v=>Ru.pure (own,some v)
  else if x.code=5 then (evX g k md own x.value).bind fun v=>(tellN v).bind fun _=>Ru.pure (own,none)
  else (evX g k md own x.value).bind fun _=>Ru.pure (own,none)
def goW:Nat->Nat->Bs->Own->List X->List S->Ru (Own× Option Int)
 | 0,_,_,_,_,_=>Ru.out
 | g+1,k,md,own,c,b=>(evX g k md own c).bind fun v=>(if v=0 then Ru.pure (own,none) else (goS g k md own b).bind fun r=>(match r.2 with
  | some v=>Ru.pure (r.1,some v)
  | none=>tick.bind fun _=>goW g k md r.1 c b))
end
def Bd (B:Nat) (s:Rs):Prop:=∀ p∈s.w,∀ q∈p.m.procs,SizeOf.sizeOf q.body<=B
def Goes {α:Type}(B:Nat) (f:Ru α) (s:Rs):Prop:=match f s with
 | .ok _ s1=>Bd B s1/\s1.left<=s.left
 | .stop _ _=>True
 | .gas=>False
theorem Goes.pure {α:Type}{B:Nat}{s:Rs}(h:Bd B s) (v:α):Goes B (Ru.pure v) s:=⟨h,Nat.le_refl _⟩
theorem Goes.stop {α:Type}{B:Nat}{s:Rs}(way:Nat):Goes B (Ru.stop way:Ru α) s:=trivial
theorem Goes.bind {α β:Type}{B:Nat}{f:Ru α}{g:α->Ru β}{s:Rs}(hf:Goes B f s) (hg:∀ v s1,f s=.ok v s1->Bd B s1->s1.left<=s.left->Goes B (g v) s1):Goes B (f.bind g) s:=by
 unfold Goes at hf ⊢
 unfold Ru.bind
 cases hs:f s with
 | ok v s1 =>
  rw[hs]at hf
  have:=hg v s1 hs hf.1 hf.2
  unfold Goes at this
  cases hr:g v s1 with
  | ok u s2=>simp only [hr]at this ⊢;exact⟨this.1,Nat.le_trans this.2 hf.2⟩
  | stop way s2=>simp only [hr]
  | gas=>rw[hr]at this;exact this.elim
 | stop way s1=>trivial
 | gas=>rw[hs]at hf;exact hf
theorem Goes.tick {B:Nat}{s:Rs}(h:Bd B s):Goes B tick s:=by
 unfold Goes Tp.tick
 cases hl:s.left with
 | zero=>trivial
 | succ n=>exact⟨h,by show n<=n+1;omega⟩
theorem tick_ok {s s1:Rs}{u:Unit}(h:tick s=.ok u s1):s1.left+1=s.left:=by
 unfold Tp.tick at h
 cases hl:s.left with
 | zero=>rw[hl]at h;cases h
 | succ n=>rw[hl]at h;cases h;rfl
theorem Goes.tellN {B:Nat}{s:Rs}(h:Bd B s) (n:Int):Goes B (tellN n) s:=by
 unfold Goes Tp.tellN
 by_cases q:s.out.length<200
 ·rw[if_pos q];exact⟨h,Nat.le_refl _⟩
 ·rw[if_neg q];trivial
theorem Goes.getV {B:Nat}{s:Rs}(h:Bd B s) (md nm:Bs):Goes B (getV md nm) s:=⟨h,Nat.le_refl _⟩
theorem Goes.setV {B:Nat}{s:Rs}(h:Bd B s) (md nm:Bs) (l:List Int):Goes B (setV md nm l) s:=by
 refine⟨fun p hp q hq=>?_,Nat.le_refl _⟩
 simp only [List.mem_map]at hp
 obtain⟨p0,hp0,rfl⟩:=hp
 split at hq
 ·exact h p0 hp0 q hq
 ·exact h p0 hp0 q hq
theorem Goes.procOf {B:Nat}{s:Rs}(h:Bd B s) (md nm:Bs):Goes B (procOf md nm) s:=⟨h,Nat.le_refl _⟩
theorem procOf_bd {B:Nat}{s s1:Rs}{md nm:Bs}{p:Pr}(hB:Bd B s) (h:procOf md nm s=.ok (some p) s1):SizeOf.sizeOf p.body<=B:=by
 unfold Tp.procOf at h
 injection h with h1 h2
 cases hp:partOf s.w md with
 | none=>rw[hp]at h1;cases h1
 | some pt =>
  rw[hp]at h1
  simp only [Option.bind_some]at h1
  exact hB pt (List.mem_of_find?_eq_some hp) p (List.mem_of_find?_eq_some h1)
theorem Goes.ite {α:Type}{B:Nat}{p:Prop} [Decidable p] {f g:Ru α}{s:Rs}(hf:Goes B f s) (hg:Goes B g s):Goes B (if p then f else g) s:=by split <;> assumption
def nd (B L k:Nat):Nat:=(30 - k) * (B+L+2)+1
theorem nd_succ {B L k:Nat}(h:k<30):nd B L k=nd B L (k+1)+(B+L+2):=by
 unfold nd
 have:30 - k=(30 - (k+1))+1:=by omega
 rw[this,Nat.add_mul]
 omega
structure GoAll (B L g:Nat):Prop where
 ex:∀ k md own l s,Bd B s->s.left<=L->SizeOf.sizeOf l+1+nd B L k<=g->Goes B (evX g k md own l) s
 exs:∀ k md own l s,Bd B s->s.left<=L->SizeOf.sizeOf l+2+nd B L k<=g->Goes B (evs g k md own l) s
 cl:∀ k md p vs s,Bd B s->s.left<=L->SizeOf.sizeOf p.body<=B->nd B L k<=g->Goes B (callP g k md p vs) s
 ss:∀ k md own l s,Bd B s->s.left<=L->SizeOf.sizeOf l+s.left+nd B L k<=g->Goes B (goS g k md own l) s
 s1:∀ k md own x s,Bd B s->s.left<=L->SizeOf.sizeOf x+s.left+nd B L k<=g->Goes B (go1 g k md own x) s
 wh:∀ k md own c b s,Bd B s->s.left<=L->SizeOf.sizeOf c+SizeOf.sizeOf b+s.left+2+nd B L k<=g->Goes B (goW g k md own c b) s
theorem sz {α:Type} [SizeOf α] (l:List α):1<=SizeOf.sizeOf l:=by cases l <;> simp;omega
theorem xh (B L k:Nat):1<=nd B L k:=by unfold nd;omega
theorem go_all (B L:Nat):∀ g,GoAll B L g:=by
 intro g
 induction g with
 | zero=>exact⟨fun k _ _ l s _ _ h=>by have:=xh B L k;omega,fun k _ _ l s _ _ h=>by have:=xh B L k;omega,fun k _ _ _ s _ _ _ h=>by have:=xh B L k;omega,fun k _ _ l s _ _ h=>by have:=xh B L k;omega,fun k _ _ x s _ _ h=>by have:=xh B L k;omega,fun k _ _ c b s _ _ h=>by have:=xh B L k;omega⟩
 | succ g ih =>
  refine⟨fun k md own l s hB hL h=>?_,fun k md own l s hB hL h=>?_,fun k md p vs s hB hL hp h=>?_,fun k md own l s hB hL h=>?_,fun k md own x s hB hL h=>?_,fun k md own c b s hB hL h=>?_⟩
  ·cases l with
   | nil=>unfold evX;exact Goes.pure hB _
   | cons x t =>
    obtain⟨code,pos,nn,m,nm,op,le,ri,ar⟩:=x
    simp at h
    unfold evX
    have hle:∀ s1,Bd B s1->s1.left<=L->Goes B (evX g k md own le) s1:=fun s1 b1 l1=>ih.ex _ _ _ _ _ b1 l1 (by omega)
    have hri:∀ s1,Bd B s1->s1.left<=L->Goes B (evX g k md own ri) s1:=fun s1 b1 l1=>ih.ex _ _ _ _ _ b1 l1 (by omega)
    refine Goes.ite (Goes.pure hB _) (Goes.ite (Goes.ite ?_ ((Goes.getV hB _ _).bind fun _ s1 _ b1 _=>Goes.pure b1 _)) (Goes.ite ((hle s hB hL).bind fun i s1 _ b1 l1=>(Goes.getV b1 _ _).bind fun l s2 _ b2 _=>Goes.ite (Goes.pure b2 _) (Goes.stop _)) (Goes.ite ((hle s hB hL).bind fun v s1 _ b1 _=>Goes.pure b1 _) (Goes.ite ((hle s hB hL).bind fun a s1 _ b1 l1=>Goes.ite (Goes.ite (Goes.pure b1 _) ((hri s1 b1 (by omega)).bind fun b s2 _ b2 _=>Goes.pure b2 _)) (Goes.ite (Goes.ite (Goes.pure b1 _) ((hri s1 b1 (by omega)).bind fun b s2 _ b2 _=>Goes.pure b2 _)) ((hri s1 b1 (by omega)).bind fun b s2 _ b2 _=>?_))) (Goes.ite ((ih.exs k md own ar s hB hL (by omega)).bind fun vs s1 _ b1 l1=>(Goes.procOf b1 _ _).bind fun p s2 hp b2 l2=>?_) (Goes.pure hB _))))))
    ·split
     ·exact Goes.pure hB _
     ·exact(Goes.getV hB _ _).bind fun _ s1 _ b1 _=>Goes.pure b1 _
    ·split
     ·exact Goes.pure b2 _
     ·exact Goes.stop _
    ·split
     ·exact Goes.pure b2 _
     ·exact ih.cl _ _ _ _ _ b2 (by omega) (procOf_bd b1 hp) (by omega)
  ·cases l with
   | nil=>unfold evs;exact Goes.pure hB _
   | cons x t =>
    simp at h
    have:=sz t
    unfold evs
    exact(ih.ex _ _ _ _ _ hB hL (by simp;omega)).bind fun v s1 _ b1 l1=>(ih.exs _ _ _ _ _ b1 (by omega) (by omega)).bind fun vs s2 _ b2 _=>Goes.pure b2 _
  ·unfold callP
   by_cases hk:30<=k
   ·rw[if_pos hk];exact Goes.stop _
   ·rw[if_neg hk]
    have:=nd_succ (B:=B) (L:=L) (k:=k) (by omega)
    exact(ih.ss _ _ _ _ _ hB hL (by omega)).bind fun r s1 _ b1 _=>Goes.pure b1 _
  ·cases l with
   | nil=>unfold goS;exact Goes.pure hB _
   | cons x t =>
    simp at h
    unfold goS
    refine(Goes.tick hB).bind fun _ s1 hs1 b1 l1=>?_
    have e1:=tick_ok hs1
    refine(ih.s1 _ _ _ _ _ b1 (by omega) (by omega)).bind fun r s2 _ b2 l2=>?_
    split
    ·exact Goes.pure b2 _
    ·exact ih.ss _ _ _ _ _ b2 (by omega) (by omega)
  ·obtain⟨code,pos,nm,ix,vl,th,el⟩:=x
   simp at h
   have:=sz ix
   have:=sz vl
   have:=sz th
   have:=sz el
   have:=sz nm
   unfold go1
   have hvl:∀ s1,Bd B s1->s1.left<=L->Goes B (evX g k md own vl) s1:=fun s1 b1 l1=>ih.ex _ _ _ _ _ b1 l1 (by omega)
   have hix:∀ s1,Bd B s1->s1.left<=L->Goes B (evX g k md own ix) s1:=fun s1 b1 l1=>ih.ex _ _ _ _ _ b1 l1 (by omega)
   refine Goes.ite (Goes.ite ((hvl s hB hL).bind fun v s1 _ b1 _=>?_) ((hix s hB hL).bind fun i s1 _ b1 l1=>(hvl s1 b1 (by omega)).bind fun v s2 _ b2 _=>(Goes.getV b2 _ _).bind fun l s3 _ b3 _=>Goes.ite ((Goes.setV b3 _ _ _).bind fun _ s4 _ b4 _=>Goes.pure b4 _) (Goes.stop _))) (Goes.ite ((hvl s hB hL).bind fun v s1 _ b1 l1=>Goes.ite (ih.ss _ _ _ _ _ b1 (by omega) (by simp;omega)) (ih.ss _ _ _ _ _ b1 (by omega) (by simp;omega))) (Goes.ite (ih.wh _ _ _ _ _ _ hB hL (by simp;omega)) (Goes.ite ((hvl s hB hL).bind fun v s1 _ b1 _=>Goes.pure b1 _) (Goes.ite ((hvl s hB hL).bind fun v s1 _ b1 _=>(Goes.tellN b1 _).bind fun _ s2 _ b2 _=>Goes.pure b2 _) ((hvl s hB hL).bind fun _ s1 _ b1 _=>Goes.pure b1 _)))))
   split
   ·exact Goes.pure b1 _
   ·exact(Goes.setV b1 _ _ _).bind fun _ s2 _ b2 _=>Goes.pure b2 _
  ·unfold goW
   refine(ih.ex _ _ _ _ _ hB hL (by omega)).bind fun v s1 _ b1 l1=>Goes.ite (Goes.pure b1 _) ((ih.ss _ _ _ _ _ b1 (by omega) (by omega)).bind fun r s2 _ b2 l2=>?_)
   split
   ·exact Goes.pure b2 _
   ·refine(Goes.tick b2).bind fun _ s3 hs3 b3 l3=>?_
    have e3:=tick_ok hs3
    exact ih.wh _ _ _ _ _ _ b3 (by omega) (by omega)
end Tp
