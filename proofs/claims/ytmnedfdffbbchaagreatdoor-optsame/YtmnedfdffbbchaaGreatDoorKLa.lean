import Derived.Test.YtmnedfdffbbchaaGreatDoorKBa
import Derived.Test.YtmnedfdffbbchaaGreatDoorKJa
set_option maxRecDepth 100000
set_option maxHeartbeats 4000000

namespace Vm
open Ob (O In)
open Tp (Bs both w64)
def run (most:Nat):Nat->St->St
 | 0,s=>s
 | n+1,s=>if s.way=0 then run most n (step most s) else s
theorem yP {most:Nat}{s:St}(h:s.way≠0) (n:Nat):run most n s=s:=by
 cases n with
 | zero=>rfl
 | succ n=>rw[run,if_neg h]
theorem kT {most n:Nat}{s:St}(h:s.way=0):run most (n+1) s=run most n (step most s):=by rw[run,if_pos h]
theorem yz (most m n:Nat):∀ s,run most (m+n) s=run most n (run most m s):=by
 induction m with
 | zero=>intro s;rw[Nat.zero_add];rfl
 | succ m ih =>
  intro s
  by_cases h:s.way=0
  ·rw[show m+1+n=(m+n)+1 by omega,kT h,kT h,ih]
  ·rw[yP h,yP h,yP h]
theorem ke (most n:Nat):∀ s,goes most n s=if (run most n s).way=0 then ended 5 (run most n s) else run most n s:=by
 induction n with
 | zero=>intro s;rfl
 | succ n ih =>
  intro s
  rw[goes]
  by_cases h:s.way=0
  ·rw[if_pos h,ih,kT h]
  ·rw[if_neg h,yP h,if_neg h]
theorem x6 {most m n:Nat}{s:St}(h:(run most m s).way≠0) (hn:m<=n):run most n s=run most m s:=by
 obtain⟨d,rfl⟩:∃ d,n=m+d:=⟨n - m,by omega⟩
 rw[yz,yP h]
def Bad (w:Nat):Prop:=w=5\/w=7\/w=8
theorem bad_ne {w:Nat}(h:Bad w):w≠0:=by unfold Bad at h;omega
def Sims (most:Nat) (R:St->St->Prop) (s t:St):Prop:=(∃ k,Bad (run most k s).way)\/∃ k m,1<=k/\m<=k/\(run most (k - 1) s).way=0/\R (run most k s) (run most m t)
theorem sims_bad {most:Nat}{s:St}{k:Nat}(h:Bad (run most k s).way) (n:Nat):Bad (goes most n s).way:=by
 rw[ke]
 by_cases hw:(run most n s).way=0
 ·rw[if_pos hw]
  exact Or.inl rfl
 ·rw[if_neg hw]
  rcases Nat.le_total k n with q|q
  ·rw[x6 (bad_ne h) q];exact h
  ·rw[x6 hw q]at h;exact h
theorem sim {most:Nat}{R:St->St->Prop}(hw:∀ s t,R s t->t.way=s.way) (h:∀ s t,R s t->s.way=0->Sims most R s t) :
  ∀ n s t,R s t->Bad (goes most n s).way\/R (goes most n s) (goes most n t):=by
 intro n
 induction n using Nat.strongRecOn with
 | ind n ih =>
  intro s t hR
  by_cases h0:s.way=0
  ·rcases h s t hR h0 with⟨k,hk⟩|⟨k,m,h1,hm,hk,hR'⟩
   ·exact Or.inl (sims_bad hk n)
   ·rcases Nat.lt_or_ge n k with q|q
    ·refine Or.inl ?_
     have:(run most n s).way=0:=by
      by_cases e:(run most n s).way=0
      ·exact e
      ·rw[x6 e (show n<=k - 1 by omega)]at hk;exact absurd hk e
     rw[ke,if_pos this]
     exact Or.inl rfl
    ·obtain⟨d,rfl⟩:∃ d,n=k+d:=⟨n - k,by omega⟩
     have e1:goes most (k+d) s=goes most d (run most k s):=by rw[ke,ke,yz]
     have e2:∀ j,goes most (m+j) t=goes most j (run most m t):=fun j=>by rw[ke,ke,yz]
     rw[e1]
     rcases ih d (by omega) _ _ hR' with hb|hr
     ·exact Or.inl hb
     ·by_cases hb:Bad (goes most d (run most k s)).way
      ·exact Or.inl hb
      ·refine Or.inr ?_
       have e3:=hw _ _ hr
       have e4:goes most (k+d) t=goes most d (run most m t):=by
        rw[show k+d=m+(d+(k - m)) by omega,e2]
        exact vw (k - m) d _ (by rw[e3];intro q;exact hb (Or.inl q))
       rw[e4]
       exact hr
  ·have e:∀ u:St,u.way≠0->goes most n u=u:=fun u hu=>by rw[ke,yP hu,if_neg hu]
   rw[e s h0,e t (by rw[hw _ _ hR];exact h0)]
   exact Or.inr hR
def th (o:O) (vv:List (List Int)):Bs->Option Pl:=fun m=>if m=o.name then some ⟨o,vv⟩ else none
theorem xv (o:O) (vv:List (List Int)):th o vv o.name=some ⟨o,vv⟩:=by unfold th;rw[if_pos rfl]
theorem th_set {o:O}{vv:List (List Int)}(i:Nat) (l:List Int):(fun m=>if m=o.name then some (laid ⟨o,vv⟩ i l) else th o vv m)=th o (vv.set i l):=by
 funext m
 unfold th laid
 split <;> rfl
def Nm (l:List Int):Prop:=∀ v∈l,Tp.I64 v
def Sh (o:O) (vv:List (List Int)):Prop:=vv.length=o.vars.length/\∀ l∈vv,l≠[]/\Nm l
structure F1 (nm:Bs) (P:Nat->Nat->Prop) (f g:Fr):Prop where
 a:f.of=nm
 b:g.of=nm
 c:g.base=f.base
 d:g.many=f.many
 e:g.locals=f.locals
 l:f.locals.length=10
 n:Nm f.locals
 p:P f.at' g.at'
def FrR (nm:Bs) (P:Nat->Nat->Prop):List Fr->List Fr->Prop
 | [],[]=>True
 | f :: fs,g :: gs=>F1 nm P f g/\FrR nm P fs gs
 | _,_=>False
theorem FrR.len {nm:Bs}{P:Nat->Nat->Prop}:∀ {fs gs:List Fr},FrR nm P fs gs->gs.length=fs.length
 | [],[],_=>rfl
 | _ :: fs,_ :: gs,h=>by rw[List.length_cons,List.length_cons,FrR.len h.2]
 | [],_ :: _,h=>h.elim
 | _ :: _,[],h=>h.elim
structure Rb (o p:O) (s t:St):Prop where
 way:t.way=s.way
 out:t.out=s.out
 stk:t.stack=s.stack
 th:∃ vv,s.there=th o vv/\t.there=Vm.th p vv/\Sh o vv
 nm:Nm s.stack
structure Rl (o p:O) (P:Nat->Nat->Prop) (s t:St):Prop where
 b:Rb o p s t
 fr:s.way=0->FrR o.name P s.frames t.frames
theorem km {c:Prop} [Decidable c] {x y:Option Int}(hx:∀ n,x=some n->Tp.I64 n) (hy:∀ n,y=some n->Tp.I64 n):∀ n,(if c then x else y)=some n->Tp.I64 n:=by split <;> assumption
theorem in_itc {c:Prop} [Decidable c] {x y:Option Int}(hx:∀ n,x=some n->Tp.I64 n) (hy:¬c->∀ n,y=some n->Tp.I64 n):∀ n,(if c then x else y)=some n->Tp.I64 n:=by
 split
 ·exact hx
 ·rename_i q;exact hy q
theorem yA {m:Int}(h:Tp.I64 m):∀ n,some m=some n->Tp.I64 n:=fun n e=>by cases e;exact h
theorem in_none:∀ n,(none:Option Int)=some n->Tp.I64 n:=fun n e=>by cases e
theorem yW (p:Prop) [Decidable p]:Tp.I64 (Tp.b01 p):=by unfold Tp.b01 Tp.I64;split <;> omega
theorem fmod_in {a b:Int}(hb0:¬b=0) (hb:Tp.I64 b):Tp.I64 (a.fmod b):=by
 have k1:0<b->0<=a.fmod b/\a.fmod b<b:=fun h=>⟨Int.fmod_nonneg_of_pos a h,Int.fmod_lt_of_pos a h⟩
 have k2:b<0->b<a.fmod b/\a.fmod b<=0:=by
  intro h
  have e:(-a).fmod (-b)=- a.fmod b:=by rw[Int.neg_fmod_neg]
  have l:=Int.fmod_nonneg_of_pos (-a) (b:=-b) (by omega)
  have u:=Int.fmod_lt_of_pos (-a) (b:=-b) (by omega)
  omega
 unfold Tp.I64 at *
 omega
theorem jp {op:Bs}{a b n:Int}(hb:Tp.I64 b) (h:both op a b=some n):Tp.I64 n:=by
 refine(?_:∀ n,both op a b=some n->Tp.I64 n) n h
 unfold both
 exact km (yA (Tp.w64_in _)) (km (yA (Tp.w64_in _)) (km (yA (Tp.w64_in _)) (km (km in_none (yA (Tp.w64_in _))) (km (in_itc in_none fun q=>yA (fmod_in q hb)) (km (yA (yW _)) (km (yA (yW _)) (km (yA (yW _)) (km (yA (yW _)) (km (yA (yW _)) (km (yA (yW _)) (yA (by unfold Tp.I64;omega))))))))))))
theorem Rb.ended {o p:O}{s t:St}(h:Rb o p s t) (w:Nat):Rb o p (ended w s) (ended w t):=⟨rfl,h.out,h.stk,h.th,h.nm⟩
theorem Rl.ended {o p:O}{P:Nat->Nat->Prop}{s t:St}(h:Rb o p s t) {w:Nat}(hw:w≠0):Rl o p P (ended w s) (ended w t):=⟨h.ended w,fun q=>absurd q hw⟩
theorem Rl.put {o p:O}{P:Nat->Nat->Prop}{s t:St}(h:Rl o p P s t) {n:Int}(hn:Tp.I64 n):Rl o p P (put n s) (put n t):=by
 unfold Vm.put
 rw[h.b.stk]
 split
 ·exact Rl.ended h.b (by decide)
 ·exact⟨⟨h.b.way,h.b.out,by simp,h.b.th,fun v hv=>by
   rcases List.mem_cons.1 hv with rfl|hv
   ·exact hn
   ·exact h.b.nm v hv⟩,h.fr⟩
def Sm (s s':St):Prop:=s'.way=s.way/\s'.frames=s.frames/\s'.there=s.there
theorem Sm.trans {a b c:St}(h:Sm a b) (k:Sm b c):Sm a c:=⟨k.1.trans h.1,k.2.1.trans h.2.1,k.2.2.trans h.2.2⟩
theorem Rl.taken {o p:O}{P:Nat->Nat->Prop}{s t:St}(h:Rl o p P s t) {base:Nat}{k k':Int->St->St}
  (hk:∀ n s' t',Rl o p P s' t'->Tp.I64 n->Sm s s'->Sm t t'->Rl o p P (k n s') (k' n t')):Rl o p P (taken base s k) (taken base t k'):=by
 unfold Vm.taken
 have hb:=h.b
 rw[h.b.stk]
 cases hs:s.stack with
 | nil=>exact Rl.ended h.b (by decide)
 | cons n r =>
  simp only
  split
  ·exact Rl.ended h.b (by decide)
  ·refine hk n _ _ ⟨⟨hb.way,hb.out,rfl,hb.th,fun v hv=>hb.nm v (by rw[hs];exact List.mem_cons_of_mem _ hv)⟩,h.fr⟩ (hb.nm n (by rw[hs];exact List.mem_cons_self)) ⟨rfl,rfl,rfl⟩ ⟨rfl,rfl,rfl⟩
theorem Rb.taken {o p:O}{P:Nat->Nat->Prop}{s t:St}(hb:Rb o p s t) {base:Nat}{k k':Int->St->St}
  (hk:∀ n s' t',Rb o p s' t'->Tp.I64 n->Sm s s'->Sm t t'->Rl o p P (k n s') (k' n t')):Rl o p P (taken base s k) (taken base t k'):=by
 unfold Vm.taken
 rw[hb.stk]
 cases hs:s.stack with
 | nil=>exact Rl.ended hb (by decide)
 | cons n r =>
  simp only
  split
  ·exact Rl.ended hb (by decide)
  ·exact hk n _ _ ⟨hb.way,hb.out,rfl,hb.th,fun v hv=>hb.nm v (by rw[hs];exact List.mem_cons_of_mem _ hv)⟩ (hb.nm n (by rw[hs];exact List.mem_cons_self)) ⟨rfl,rfl,rfl⟩ ⟨rfl,rfl,rfl⟩
theorem Rl.going {o p:O}{P:Nat->Nat->Prop}{s t:St}(h:Rb o p s t) {f g:Fr}{fs gs:List Fr}(hf:F1 o.name P f g) (hfs:FrR o.name P fs gs):Rl o p P (going f fs s) (going g gs t) :=
 ⟨⟨h.way,h.out,h.stk,h.th,h.nm⟩,fun _=>⟨hf,hfs⟩⟩
theorem Rl.give {o p:O}{P:Nat->Nat->Prop}{s t:St}(h:Rl o p P s t) {l:List Int}(hl:Nm l) (k:Int):Rl o p P (give l k s) (give l k t):=by
 unfold Vm.give
 split
 ·rename_i q
  refine h.put ?_
  have hk:k.toNat<l.length:=by omega
  simp only [List.getD,List.getElem?_eq_getElem hk,Option.getD_some]
  exact hl _ (List.getElem_mem hk)
 ·exact Rl.ended h.b (by decide)
theorem Sh.get {o:O}{vv:List (List Int)}(h:Sh o vv) (i:Nat):Nm (vv.getD i []):=by
 by_cases q:i<vv.length
 ·simp only [List.getD,List.getElem?_eq_getElem q,Option.getD_some]
  exact(h.2 _ (List.getElem_mem q)).2
 ·simp only [List.getD,List.getElem?_eq_none (by omega:vv.length<=i),Option.getD_none]
  intro v hv
  cases hv
theorem Sh.set {o:O}{vv:List (List Int)}(h:Sh o vv) (i k:Nat) {n:Int}(hn:Tp.I64 n) (hk:k<(vv.getD i []).length):Sh o (vv.set i ((vv.getD i []).set k n)):=by
 refine⟨by rw[List.length_set];exact h.1,fun l hl=>?_⟩
 rcases List.mem_or_eq_of_mem_set hl with q|q
 ·exact h.2 l q
 ·subst q
  refine⟨fun e=>?_,fun v hv=>?_⟩
  ·have:=congrArg List.length e
   rw[List.length_set,List.length_nil]at this
   omega
  ·rcases List.mem_or_eq_of_mem_set hv with q|q
   ·exact h.get i v q
   ·rw[q];exact hn
theorem Rl.set {o p:O}{P:Nat->Nat->Prop}{s t:St}(h:Rl o p P s t) (hnm:p.name=o.name) {vv:List (List Int)}(h1:s.there=th o vv) (h2:t.there=Vm.th p vv) (hS:Sh o vv) (ia:Nat) (k:Int) {n:Int}(hn:Tp.I64 n) :
  Rl o p P (set o.name ⟨o,vv⟩ ia k n s) (set o.name ⟨p,vv⟩ ia k n t):=by
 unfold Vm.set
 simp only
 split
 ·rename_i q
  refine⟨⟨h.b.way,h.b.out,h.b.stk,⟨_,?_,?_,hS.set ia k.toNat hn (by omega)⟩,h.b.nm⟩,h.fr⟩
  ·show (fun m=>if m=o.name then _ else s.there m)=_
   rw[h1]
   exact th_set ia _
  ·show (fun m=>if m=o.name then _ else t.there m)=_
   rw[h2,<-hnm]
   exact th_set ia _
 ·exact Rl.ended h.b (by decide)
def EnR (o p:O) (P:Nat->Nat->Prop):Prop:=p.name=o.name/\p.vars=o.vars/\p.uses=o.uses/\p.procs.length=o.procs.length/\∀(i:Nat) (e e':Ob.En),o.procs[i]?=some e->p.procs[i]?=some e'->e'.args=e.args/\e'.locals=e.locals/\P e.at'.toNat e'.at'.toNat
theorem Rl.takes {o p:O}{P:Nat->Nat->Prop}{base:Nat}{k k':List Int->St->St} :
  ∀(n:Nat) (l:List Int) (s t:St),Rl o p P s t->Nm l->(∀ l' s' t',Rl o p P s' t'->Nm l'->l'.length=n+l.length->Sm s s'->Sm t t'->Rl o p P (k l' s') (k' l' t'))->Rl o p P (takes base n l s k) (takes base n l t k')
 | 0,l,s,t,h,hl,hk=>hk l s t h hl (by simp) ⟨rfl,rfl,rfl⟩ ⟨rfl,rfl,rfl⟩
 | n+1,l,s,t,h,hl,hk=>h.taken fun v s' t' h' hv hw hf=>Rl.takes n (v :: l) s' t' h' (fun x hx=>by
   rcases List.mem_cons.1 hx with rfl|hx
   ·exact hv
   ·exact hl x hx) fun l2 s2 t2 h2 hl2 hn2 hw2 hf2=>hk l2 s2 t2 h2 hl2 (by rw[hn2,List.length_cons];omega) (hw.trans hw2) (hf.trans hf2)
theorem Rl.ite {o p:O}{P:Nat->Nat->Prop}{c:Prop} [Decidable c] {a a' b b':St}(h:c->Rl o p P a b) (k:¬c->Rl o p P a' b'):Rl o p P (if c then a else a') (if c then b else b'):=by
 split
 ·rename_i q;exact h q
 ·rename_i q;exact k q
theorem yZ {o:O}{vv:List (List Int)}(hu:o.uses=[]) (s:St) (op a b:Int):reached s ⟨o,vv⟩ ⟨op,a,b⟩=if b<0 then vv.getD a.toNat [] else []:=by
 unfold reached used
 simp[hu]
theorem jZ {o:O}{vv:List (List Int)}(hu:o.uses=[]) (most base:Nat) (s:St) (op a b:Int):other most base ⟨o,vv⟩ ⟨op,a,b⟩ s=ended 8 s:=by
 unfold other used
 simp[hu]
theorem xL {o p:O}{P:Nat->Nat->Prop}(hE:EnR o p P) (hu:o.uses=[]) (hpr:∀ e∈o.procs,e.args<=10) {most:Nat}{s t:St}(hb:Rb o p s t) {f g:Fr}{fs gs:List Fr}{x y:In}(hc:y.op=x.op/\y.b=x.b) (hx:Tp.I64 x.a)
  (ha:x.op≠12->x.op≠13->y.a=x.a) (hj:x.op=12\/x.op=13->P x.a.toNat y.a.toNat) (hf:f.of=o.name/\g.of=o.name/\g.base=f.base/\g.many=f.many/\g.locals=f.locals/\f.locals.length=10/\Nm f.locals) (hfl:x.op≠12->x.op≠15->x.op≠17->P f.at' g.at') (hfs:FrR o.name P fs gs)
  {vv:List (List Int)} (h1:s.there=th o vv) (h2:t.there=Vm.th p vv) (hS:Sh o vv) :
  Rl o p P (exec most f fs ⟨o,vv⟩ x (Vm.going f fs s)) (exec most g gs ⟨p,vv⟩ y (Vm.going g gs t)):=by
 obtain⟨fo,fa,fb,fm,fl⟩:=f
 obtain⟨go,ga,gb,gm,gl⟩:=g
 obtain⟨q1,q2,q3,q4,q5,q6,q7⟩:=hf
 simp only at q1 q2 q3 q4 q5 q6 q7
 subst q1
 subst q3 q4 q5
 obtain⟨op',a,b'⟩:=x
 obtain⟨op,a',b⟩:=y
 simp only at hc ha hj hfl hx
 obtain⟨rfl,rfl⟩:=hc
 obtain⟨n1,n2,n3,n4,n5⟩:=hE
 subst q2
 have hup:p.uses=[]:=by rw[n3,hu]
 have hbase:Rb o p (Vm.going ⟨o.name,fa,gb,gm,gl⟩ fs s) (Vm.going ⟨o.name,ga,gb,gm,gl⟩ gs t):=⟨hb.way,hb.out,hb.stk,hb.th,hb.nm⟩
 have hgo:∀ {u v:St} {c d:Nat},Rb o p u v->P c d->Rl o p P (Vm.going ⟨o.name,c,gb,gm,gl⟩ fs u) (Vm.going ⟨o.name,d,gb,gm,gl⟩ gs v):=fun h k=>Rl.going h ⟨rfl,rfl,rfl,rfl,rfl,q6,q7,k⟩ hfs
 have hR:op≠12->op≠15->op≠17->Rl o p P (Vm.going ⟨o.name,fa,gb,gm,gl⟩ fs s) (Vm.going ⟨o.name,ga,gb,gm,gl⟩ gs t):=fun e1 e2 e3=>hgo hb (hfl e1 e2 e3)
 have hnil:Nm []:=fun v hv=>by cases hv
 unfold exec
 dsimp only
 refine Rl.ite (fun e=>?_) fun e1=>Rl.ite (fun e=>?_) fun e2=>Rl.ite (fun e=>?_) fun e3=>Rl.ite (fun e=>?_) fun e4=>Rl.ite (fun e=>?_) fun e5=>Rl.ite (fun e=>?_) fun e6=>Rl.ite (fun e=>?_) fun e7=>Rl.ite (fun e=>?_) fun e8=>Rl.ite (fun e=>?_) fun e9=>Rl.ite (fun e=>?_) fun e10=>Rl.ite (fun e=>?_) fun e11=>Rl.ite (fun e=>?_) fun e12=>Rl.ite (fun e=>?_) fun e13=>Rl.ite (fun e=>?_) fun e14=>Rl.ite (fun e=>?_) fun e15=>Rl.ite (fun e=>?_) fun e16=>?_
 ·rw[ha (by omega) (by omega)]
  exact(hR (by omega) (by omega) (by omega)).put hx
 ·exact(hR (by omega) (by omega) (by omega)).taken fun _ _ _ h _ _ _=>h
 ·rw[ha (by omega) (by omega)]
  refine Rl.ite (fun _=>Rl.ended hbase (by decide)) fun _=>(hR (by omega) (by omega) (by omega)).put ?_
  by_cases k:a.toNat<gl.length
  ·simp only [List.getD,List.getElem?_eq_getElem k,Option.getD_some]
   exact q7 _ (List.getElem_mem k)
  ·simp only [List.getD,List.getElem?_eq_none (by omega:gl.length<=a.toNat),Option.getD_none]
   unfold Tp.I64
   omega
 ·rw[ha (by omega) (by omega)]
  refine Rl.ite (fun _=>Rl.ended hbase (by decide)) fun _=>(hR (by omega) (by omega) (by omega)).taken fun n s' t' h hn _ _=>?_
  refine Rl.going h.b ⟨rfl,rfl,rfl,rfl,rfl,by rw[List.length_set];exact q6,fun v hv=>?_,hfl (by omega) (by omega) (by omega)⟩ hfs
  rcases List.mem_or_eq_of_mem_set hv with q|q
  ·exact q7 v q
  ·rw[q];exact hn
 ·rw[ha (by omega) (by omega),yZ hu,yZ hup]
  refine(hR (by omega) (by omega) (by omega)).give ?_ 0
  split
  ·exact hS.get _
  ·exact hnil
 ·rw[ha (by omega) (by omega)]
  exact(hR (by omega) (by omega) (by omega)).taken fun n s' t' h hn hs ht=>h.set n1 (hs.2.2.trans h1) (ht.2.2.trans h2) hS _ _ hn
 ·rw[ha (by omega) (by omega)]
  refine(hR (by omega) (by omega) (by omega)).taken fun n s' t' h hn _ _=>?_
  rw[yZ hu,yZ hup]
  refine h.give ?_ n
  split
  ·exact hS.get _
  ·exact hnil
 ·rw[ha (by omega) (by omega)]
  exact(hR (by omega) (by omega) (by omega)).taken fun n s' t' h hn hs ht=>h.taken fun m s2 t2 h2' hm hs' ht'=>h2'.set n1 ((hs.trans hs').2.2.trans h1) ((ht.trans ht').2.2.trans h2) hS _ _ hn
 ·rw[ha (by omega) (by omega)]
  refine(hR (by omega) (by omega) (by omega)).taken fun n s' t' h hn _ _=>h.taken fun m s2 t2 h2 hm _ _=>?_
  unfold reckon
  cases hbo:both (marks8.getD a.toNat []) m n with
  | none=>exact Rl.ended h2.b (by decide)
  | some r=>exact h2.put (jp hn hbo)
 ·exact(hR (by omega) (by omega) (by omega)).taken fun n s' t' h hn _ _=>h.put (Tp.w64_in _)
 ·exact(hR (by omega) (by omega) (by omega)).taken fun n s' t' h hn _ _=>h.put (by unfold Tp.I64;split <;> omega)
 ·exact hgo hbase (hj (by omega))
 ·exact(hR (by omega) (by omega) (by omega)).taken fun n s' t' h hn _ _=>Rl.ite (fun _=>hgo h.b (hj (by omega))) fun _=>h
 ·rw[ha (by omega) (by omega)]
  refine Rl.ite (fun _=>?_) fun _=>?_
  ·unfold invoke
   have hlen:=hfs.len
   have e0:(Vm.going ⟨o.name,fa,gb,gm,gl⟩ fs s).frames.length=(Vm.going ⟨o.name,ga,gb,gm,gl⟩ gs t).frames.length:=by
    show (_ :: fs).length=(_ :: gs).length
    simp[hlen]
   rw[e0]
   refine Rl.ite (fun _=>Rl.ended hbase (by decide)) fun _=>?_
   cases ho:o.procs[a.toNat]? with
   | none =>
    have hp:p.procs[a.toNat]?=none:=by
     rw[List.getElem?_eq_none_iff]at ho ⊢
     omega
    simp only [hp,Option.map_none,Option.getD_none]
    unfold takes enter
    simp only [ho,hp]
    exact Rl.ended hbase (by decide)
   | some e' =>
    obtain⟨e2,hp⟩:∃ e2,p.procs[a.toNat]?=some e2:=by
     have:=(List.getElem?_eq_some_iff.1 ho).1
     exact⟨_,List.getElem?_eq_getElem (by omega)⟩
    obtain⟨m1,m2,m3⟩:=n5 _ _ _ ho hp
    simp only [hp,Option.map_some,Option.getD_some]
    rw[m1]
    refine Rl.takes _ [] _ _ (hR (by omega) (by omega) (by omega)) hnil fun l' s' t' h hl hn hs ht=>?_
    unfold enter
    simp only [ho,hp]
    have hle:=hpr e' (List.mem_of_getElem? ho)
    have hl10:l'.length<=10:=by rw[hn];simp only [List.length_nil];omega
    refine⟨⟨h.b.way,h.b.out,h.b.stk,h.b.th,h.b.nm⟩,fun hw=>⟨⟨rfl,rfl,by show t'.stack.length=s'.stack.length;rw[h.b.stk],by show e2.locals.toNat=e'.locals.toNat;rw[m2],rfl,by simp;omega,fun v hv=>?_,m3⟩,h.fr hw⟩⟩
    rcases List.mem_append.1 hv with q|q
    ·exact hl v q
    ·rw[List.eq_of_mem_replicate q]
     unfold Tp.I64
     omega
  ·rw[jZ hu,jZ hup]
   exact Rl.ended hbase (by decide)
 ·unfold leave
  refine hbase.taken fun n s' t' h hn hs ht=>?_
  have f1:s'.frames=⟨o.name,fa,gb,gm,gl⟩ :: fs:=hs.2.1
  have f2:t'.frames=⟨o.name,ga,gb,gm,gl⟩ :: gs:=ht.2.1
  rw[f1,f2]
  dsimp only
  have hst:Rb o p { s' with stack:=n :: s'.stack.drop (s'.stack.length - gb) } { t' with stack:=n :: t'.stack.drop (t'.stack.length - gb) }:=⟨h.way,h.out,by rw[h.stk],h.th,fun v hv=>by
   rcases List.mem_cons.1 hv with rfl|hv
   ·exact hn
   ·exact h.nm v (List.mem_of_mem_drop hv)⟩
  have hlen:=hfs.len
  by_cases hz:fs=[]
  ·have hz':gs=[]:=List.eq_nil_of_length_eq_zero (by rw[hlen,hz];rfl)
   rw[if_pos hz,if_pos hz']
   exact⟨⟨rfl,hst.out,hst.stk,hst.th,hst.nm⟩,fun q=>absurd (show (1:Nat)=0 from q) (by decide)⟩
  ·have hz':¬gs=[]:=fun e=>hz (List.eq_nil_of_length_eq_zero (by rw[<-hlen,e];rfl))
   rw[if_neg hz,if_neg hz']
   exact⟨⟨hst.way,hst.out,hst.stk,hst.th,hst.nm⟩,fun _=>hfs⟩
 ·unfold say
  refine(hR (by omega) (by omega) (by omega)).taken fun n s' t' h hn _ _=>?_
  have ho:=h.b.out
  rw[ho]
  exact Rl.ite (fun _=>Rl.ended h.b (by decide)) fun _=>⟨⟨h.b.way,rfl,h.b.stk,h.b.th,h.b.nm⟩,h.fr⟩
 ·exact Rl.ended hbase (by decide)
structure Al (o:O):Prop where
 uses:o.uses=[]
 args:∀ e∈o.procs,e.args<=10
 i64:∀ x∈o.code,Tp.I64 x.a
structure One (P:Nat->Nat->Prop) (x y:In) (i j:Nat):Prop where
 op:y.op=x.op
 b:y.b=x.b
 a:x.op≠12->x.op≠13->y.a=x.a
 g:x.op=12\/x.op=13->P x.a.toNat y.a.toNat
 f:x.op≠12->x.op≠15->x.op≠17->P (i+1) (j+1)
theorem One.self {P:Nat->Nat->Prop}{x:In}{a b:Nat}(hj:x.op=12\/x.op=13->P x.a.toNat x.a.toNat) (hf:x.op≠12->x.op≠15->x.op≠17->P (a+1) (b+1)):One P x x a b:=⟨rfl,rfl,fun _ _=>rfl,hj,hf⟩
theorem yk {o:O}{vv:List (List Int)}{most:Nat}{s:St}{f:Fr}{fs:List Fr}{x:In}(hf:s.frames=f :: fs) (ho:f.of=o.name) (hth:s.there=th o vv) (hx:o.code[f.at']?=some x) :
  step most s=exec most { f with at':=f.at'+1 } fs ⟨o,vv⟩ x (going { f with at':=f.at'+1 } fs s):=by
 unfold step
 rw[hf]
 simp only [ho,hth,xv,hx]
theorem step_one {o p:O}{P:Nat->Nat->Prop}(hA:Al o) (hE:EnR o p P) {most:Nat}{s t:St}(h:Rl o p P s t) (hw:s.way=0) {f g:Fr}{fs gs:List Fr}(hf:s.frames=f :: fs) (hg:t.frames=g :: gs) {x y:In}(hx:o.code[f.at']?=some x) (hy:p.code[g.at']?=some y) (h1:One P x y f.at' g.at') :
  Rl o p P (step most s) (step most t):=by
 obtain⟨vv,t1,t2,hS⟩:=h.b.th
 have hfr:=h.fr hw
 rw[hf,hg]at hfr
 obtain⟨k,hfs⟩:=hfr
 rw[yk hf k.a t1 hx,yk hg (k.b.trans hE.1.symm) t2 hy]
 exact xL (f:={ f with at':=f.at'+1 }) (g:={ g with at':=g.at'+1 }) hE hA.uses hA.args h.b ⟨h1.op,h1.b⟩ (hA.i64 x (List.mem_of_getElem? hx)) h1.a h1.g ⟨k.a,k.b,k.c,k.d,k.e,k.l,k.n⟩ h1.f hfs t1 t2 hS
theorem zK (most:Nat) {s:St}(h:s.way=0):run most 1 s=step most s:=by rw[kT h];rfl
theorem k7 {o p:O}{P:Nat->Nat->Prop}(hA:Al o) (hE:EnR o p P) {most:Nat}{s t:St}(h:Rl o p P s t) (hw:s.way=0) {f g:Fr}{fs gs:List Fr}(hf:s.frames=f :: fs) (hg:t.frames=g :: gs) {x y:In}(hx:o.code[f.at']?=some x) (hy:p.code[g.at']?=some y) (h1:One P x y f.at' g.at') :
  Sims most (Rl o p P) s t:=Or.inr ⟨1,1,Nat.le_refl _,Nat.le_refl _,hw,by rw[zK most hw,zK most (h.b.way.trans hw)];exact step_one hA hE h hw hf hg hx hy h1⟩
def setAt (s:St) (a:Nat):St:=match s.frames with
 | []=>s
 | f :: fs=>{ s with frames:={ f with at':=a } :: fs }
structure Stand (o:O) (s:St) (a:Nat):Prop where
 way:s.way=0
 th:∃ vv,s.there=th o vv
 fr:∃ f fs,s.frames=f :: fs/\f.of=o.name/\f.at'=a
theorem Stand.set {o:O}{s:St}{a:Nat}(h:Stand o s a) (b:Nat):Stand o (setAt s b) b:=by
 obtain⟨f,fs,h1,h2,h3⟩:=h.fr
 unfold setAt
 rw[h1]
 exact⟨h.way,h.th,_,fs,rfl,h2,rfl⟩
theorem setAt_self {o:O}{s:St}{a:Nat}(h:Stand o s a):setAt s a=s:=by
 obtain⟨f,fs,h1,h2,h3⟩:=h.fr
 unfold setAt
 rw[h1]
 subst h3
 show { s with frames:=f :: fs }=s
 rw[<-h1]
def Way (o:O) (most:Nat) (a b:Nat) (l:List Int) (k:Nat):Prop:=∀ s,Stand o s a->Bad (run most k s).way\/(run most k s={ setAt s b with stack:=l++s.stack }/\∀ j,j<=k->(run most j s).way=0)
theorem Way.refl (o:O) (most a:Nat):Way o most a a [] 0:=fun s h=>Or.inr ⟨by rw[setAt_self h];rfl,fun j hj=>by
 obtain rfl:j=0:=by omega
 exact h.way⟩
theorem Way.next {o:O}{most a c c' k:Nat}{l l':List Int}(h:Way o most a c l k) (hs:∀ s st,Stand o s c->s.stack=l++st->Bad (step most s).way\/step most s={ setAt s c' with stack:=l'++st }):Way o most a c' l' (k+1):=fun s hst=>by
 rcases h s hst with hb|⟨he,hj⟩
 ·refine Or.inl ?_
  rw[x6 (bad_ne hb) (Nat.le_succ k)]
  exact hb
 ·have hw:=hj k (Nat.le_refl _)
  have e1:run most (k+1) s=step most (run most k s):=by rw[yz,zK most hw]
  have hu:Stand o { setAt s c with stack:=l++s.stack } c:=by
   obtain⟨w1,w2,w3⟩:=hst.set c
   exact⟨w1,w2,w3⟩
  rw[e1]
  rcases hs _ s.stack (he ▸ hu) (by rw[he]) with hb|h2
  ·exact Or.inl hb
  ·refine Or.inr ⟨?_,fun j hj'=>?_⟩
   ·rw[h2,he]
    unfold setAt
    obtain⟨f,fs,q1,_,_⟩:=hst.fr
    simp only [q1]
   ·by_cases q:j<=k
    ·exact hj j q
    ·obtain rfl:j=k+1:=by omega
     rw[e1,h2,he]
     obtain⟨f,fs,q1,_,_⟩:=hst.fr
     unfold setAt
     simp only [q1]
     exact hst.way
theorem Stand.step {o:O}{s:St}{c:Nat}(h:Stand o s c) {x:In}(hx:o.code[c]?=some x) (most:Nat):∃ f fs vv,s.frames=f :: fs/\f.of=o.name/\f.at'=c/\s.there=Vm.th o vv/\step most s=exec most { f with at':=c+1 } fs ⟨o,vv⟩ x (going { f with at':=c+1 } fs s):=by
 obtain⟨f,fs,h1,h2,h3⟩:=h.fr
 obtain⟨vv,h4⟩:=h.th
 subst h3
 exact⟨f,fs,vv,h1,h2,rfl,h4,yk h1 h2 h4 hx⟩
theorem way_jump {o:O}{most a c k:Nat}{l:List Int}{A b:Int}(h:Way o most a c l k) (hx:o.code[c]?=some ⟨12,A,b⟩):Way o most a A.toNat l (k+1):=h.next fun s st hst hs=>by
 obtain⟨f,fs,vv,h1,h2,h3,h4,h5⟩:=hst.step hx most
 refine Or.inr ?_
 rw[h5,<-hs]
 unfold setAt
 rw[h1]
 rfl
theorem way_push {o:O}{most a c k:Nat}{n b:Int}(h:Way o most a c [] k) (hx:o.code[c]?=some ⟨1,n,b⟩):Way o most a (c+1) [n] (k+1):=h.next fun s st hst hs=>by
 obtain⟨f,fs,vv,h1,h2,h3,h4,h5⟩:=hst.step hx most
 have e:exec most { f with at':=c+1 } fs ⟨o,vv⟩ ⟨1,n,b⟩ (going { f with at':=c+1 } fs s)=put n (going { f with at':=c+1 } fs s):=rfl
 rw[h5,e]
 unfold put
 split
 ·exact Or.inl (Or.inr (Or.inl rfl))
 ·refine Or.inr ?_
  have hs':s.stack=st:=by simpa using hs
  unfold setAt
  rw[h1,<-hs']
  rfl
theorem jf {base:Nat}{u:St}{n:Int}{st:List Int}{k:Int->St->St}(h:u.stack=n :: st):taken base u k=ended 8 u\/taken base u k=k n { u with stack:=st }:=by
 unfold taken
 rw[h]
 simp only
 split
 ·exact Or.inl rfl
 ·exact Or.inr rfl
theorem bad8:Bad 8:=Or.inr (Or.inr rfl)
theorem bad7:Bad 7:=Or.inr (Or.inl rfl)
theorem way_pop {o:O}{most a c k:Nat}{n A b:Int}(h:Way o most a c [n] k) (hx:o.code[c]?=some ⟨2,A,b⟩):Way o most a (c+1) [] (k+1):=h.next fun s st hst hs=>by
 obtain⟨f,fs,vv,h1,h2,h3,h4,h5⟩:=hst.step hx most
 have e:exec most { f with at':=c+1 } fs ⟨o,vv⟩ ⟨2,A,b⟩ (going { f with at':=c+1 } fs s)=taken f.base (going { f with at':=c+1 } fs s) fun _ s=>s:=rfl
 rw[h5,e]
 rcases jf (base:=f.base) (u:=going { f with at':=c+1 } fs s) (k:=fun _ s=>s) hs with q|q
 ·exact Or.inl (by rw[q];exact bad8)
 ·refine Or.inr ?_
  rw[q]
  unfold setAt
  rw[h1]
  rfl
theorem way_else {o:O}{most a c k:Nat}{n A b:Int}(h:Way o most a c [n] k) (hx:o.code[c]?=some ⟨13,A,b⟩):Way o most a (if n=0 then A.toNat else c+1) [] (k+1):=h.next fun s st hst hs=>by
 obtain⟨f,fs,vv,h1,h2,h3,h4,h5⟩:=hst.step hx most
 have e:exec most { f with at':=c+1 } fs ⟨o,vv⟩ ⟨13,A,b⟩ (going { f with at':=c+1 } fs s)=taken f.base (going { f with at':=c+1 } fs s) fun n s=>if n=0 then going { f with at':=A.toNat } fs s else s:=rfl
 rw[h5,e]
 rcases jf (base:=f.base) (u:=going { f with at':=c+1 } fs s) (k:=fun n s=>if n=0 then going { f with at':=A.toNat } fs s else s) hs with q|q
 ·exact Or.inl (by rw[q];exact bad8)
 ·refine Or.inr ?_
  rw[q]
  unfold setAt
  rw[h1]
  by_cases hn:n=0
  ·simp only [if_pos hn]
   rfl
  ·simp only [if_neg hn]
   rfl
theorem way_single {o:O}{most a c k:Nat}{n A b:Int}{op:Int}(h:Way o most a c [n] k) (ho:op=10\/op=11) (hx:o.code[c]?=some ⟨op,A,b⟩):Way o most a (c+1) [if op=10 then w64 (-n) else if n=0 then 1 else 0] (k+1):=h.next fun s st hst hs=>by
 obtain⟨f,fs,vv,h1,h2,h3,h4,h5⟩:=hst.step hx most
 have e:exec most { f with at':=c+1 } fs ⟨o,vv⟩ ⟨op,A,b⟩ (going { f with at':=c+1 } fs s)=taken f.base (going { f with at':=c+1 } fs s) fun n s=>put (if op=10 then w64 (-n) else if n=0 then 1 else 0) s:=by
  rcases ho with rfl|rfl <;> rfl
 rw[h5,e]
 rcases jf (base:=f.base) (u:=going { f with at':=c+1 } fs s) (k:=fun n s=>put (if op=10 then w64 (-n) else if n=0 then 1 else 0) s) hs with q|q
 ·exact Or.inl (by rw[q];exact bad8)
 ·rw[q]
  unfold put
  split
  ·exact Or.inl bad7
  ·refine Or.inr ?_
   unfold setAt
   rw[h1]
   rfl
theorem F1.any {nm:Bs}{P Q:Nat->Nat->Prop}{f g:Fr}(h:F1 nm P f g) (hq:Q f.at' g.at'):F1 nm Q f g:=⟨h.a,h.b,h.c,h.d,h.e,h.l,h.n,hq⟩
theorem F1.at {nm:Bs}{P Q:Nat->Nat->Prop}{f g:Fr}(h:F1 nm P f g) {a b:Nat}(hq:Q a b):F1 nm Q { f with at':=a } { g with at':=b }:=⟨h.a,h.b,h.c,h.d,h.e,h.l,h.n,hq⟩
theorem step_two {o p:O}{P:Nat->Nat->Prop}(hA:Al o) (hE:EnR o p P) {most:Nat}{s t:St}(hb:Rb o p s t) {f g:Fr}{fs gs:List Fr}(hf:s.frames=f :: fs) (hg:t.frames=g :: gs) (k:F1 o.name (fun _ _=>True) f g) (hfs:FrR o.name P fs gs) {x y:In}(hx:o.code[f.at']?=some x) (hy:p.code[g.at']?=some y) (h1:One P x y f.at' g.at') :
  Rl o p P (step most s) (step most t):=by
 obtain⟨vv,t1,t2,hS⟩:=hb.th
 rw[yk hf k.a t1 hx,yk hg (k.b.trans hE.1.symm) t2 hy]
 exact xL (f:={ f with at':=f.at'+1 }) (g:={ g with at':=g.at'+1 }) hE hA.uses hA.args hb ⟨h1.op,h1.b⟩ (hA.i64 x (List.mem_of_getElem? hx)) h1.a h1.g ⟨k.a,k.b,k.c,k.d,k.e,k.l,k.n⟩ h1.f hfs t1 t2 hS
def Onw (o:O) (a b:Nat):Prop:=b<o.code.length/\∀ most,∃ k,Way o most a b [] k/\(b≠a->1<=k)
theorem rb_at {o p:O}{s t:St}(h:Rb o p s t) (b:Nat):Rb o p (setAt s b) t:=by
 unfold setAt
 cases s.frames with
 | nil=>exact h
 | cons f fs=>exact⟨h.way,h.out,h.stk,h.th,h.nm⟩
theorem Way.at {o:O}{most a b k:Nat}(h:Way o most a b [] k) {s:St}(hs:Stand o s a):Bad (run most k s).way\/(run most k s=setAt s b/\∀ j,j<=k->(run most j s).way=0):=by
 rcases h s hs with q|⟨q1,q2⟩
 ·exact Or.inl q
 ·refine Or.inr ⟨q1.trans ?_,q2⟩
  obtain⟨f,fs,e,_,_⟩:=hs.fr
  unfold setAt
  rw[e]
  rfl
theorem Rl.stand {o p:O}{P:Nat->Nat->Prop}{s t:St}(h:Rl o p P s t) (hw:s.way=0) {f g:Fr}{fs gs:List Fr}(hf:s.frames=f :: fs) (hg:t.frames=g :: gs):F1 o.name P f g/\FrR o.name P fs gs/\Stand o s f.at':=by
 have k:=h.fr hw
 rw[hf,hg]at k
 obtain⟨vv,t1,_,_⟩:=h.b.th
 exact⟨k.1,k.2,⟨hw,⟨vv,t1⟩,f,fs,hf,k.1.a,rfl⟩⟩
theorem zQ {s:St}{f:Fr}{fs:List Fr}(h:s.frames=f :: fs) (b:Nat):setAt s b={ s with frames:={ f with at':=b } :: fs }:=by
 unfold setAt
 rw[h]
structure Eqh (o p:O):Prop where
 nm:p.name=o.name
 sy:p.syms=o.syms
 us:p.uses=o.uses
 vr:p.vars=o.vars
 ns:p.names=o.names
 pl:p.procs.length=o.procs.length
 pe:∀(i:Nat) (e e':Ob.En),o.procs[i]?=some e->p.procs[i]?=some e'->e'.args=e.args/\e'.locals=e.locals
theorem Eqh.refl (o:O):Eqh o o:=⟨rfl,rfl,rfl,rfl,rfl,rfl,fun i e e' h k=>by rw[h]at k;cases k;exact⟨rfl,rfl⟩⟩
theorem Eqh.trans {o p q:O}(h:Eqh o p) (k:Eqh p q):Eqh o q:=⟨k.nm.trans h.nm,k.sy.trans h.sy,k.us.trans h.us,k.vr.trans h.vr,k.ns.trans h.ns,k.pl.trans h.pl,fun i e e' h1 h2=>by
 have hi:=(List.getElem?_eq_some_iff.1 h1).1
 have h3:p.procs[i]?=some (p.procs[i]'(by rw[h.pl];exact hi)):=List.getElem?_eq_getElem _
 obtain⟨a1,a2⟩:=h.pe i _ _ h1 h3
 obtain⟨b1,b2⟩:=k.pe i _ _ h3 h2
 exact⟨b1.trans a1,b2.trans a2⟩⟩
def Begin (o p:O) (a b:Nat):Prop:=(a=0/\b=0)\/∃(i:Nat) (e e':Ob.En),o.procs[i]?=some e/\p.procs[i]?=some e'/\a=e.at'.toNat/\b=e'.at'.toNat
def st0 (o:O) (vv:List (List Int)) (f:Fr):St:=⟨th o vv,[f],[],[],0⟩
def Ref (o p:O):Prop:=∀(most n:Nat) (vv:List (List Int)) (f g:Fr),Sh o vv->F1 o.name (Begin o p) f g->Bad (goes most n (st0 o vv f)).way\/Rb o p (goes most n (st0 o vv f)) (goes most n (st0 p vv g))
theorem th_inj {o:O}{vv ww:List (List Int)}(h:th o vv=th o ww):vv=ww:=by
 have:=congrFun h o.name
 rw[xv,xv]at this
 cases this
 rfl
theorem vg {o p:O}{P:Nat->Nat->Prop}(hE:EnR o p P) (h0:P 0 0) (hs:∀ most s t,Rl o p P s t->s.way=0->Sims most (Rl o p P) s t):Ref o p:=fun most n vv f g hS hf=>by
 have hp:P f.at' g.at':=by
  rcases hf.p with⟨a,b⟩|⟨i,e,e',h1,h2,a,b⟩
  ·rw[a,b];exact h0
  ·rw[a,b];exact(hE.2.2.2.2 i e e' h1 h2).2.2
 rcases sim (fun s t h=>h.b.way) (hs most) n (st0 o vv f) (st0 p vv g) ⟨⟨rfl,rfl,rfl,⟨vv,rfl,rfl,hS⟩,fun v hv=>by cases hv⟩,fun _=>⟨hf.any hp,trivial⟩⟩ with q|q
 ·exact Or.inl q
 ·exact Or.inr q.b
theorem Ref.trans {o p q:O}(h:Ref o p) (k:Ref p q) (hn:p.name=o.name) (hv:p.vars.length=o.vars.length) (hp:p.procs.length=o.procs.length):Ref o q:=fun most n vv f g hS hf=>by
 obtain⟨b,hb1,hb2⟩:∃ b,Begin o p f.at' b/\Begin p q b g.at':=by
  rcases hf.p with⟨a,b⟩|⟨i,e,e',h1,h2,a,b⟩
  ·exact⟨0,Or.inl ⟨a,rfl⟩,Or.inl ⟨rfl,b⟩⟩
  ·have hi:=(List.getElem?_eq_some_iff.1 h1).1
   have h3:p.procs[i]?=some (p.procs[i]'(by rw[hp];exact hi)):=List.getElem?_eq_getElem _
   exact⟨_,Or.inr ⟨i,e,_,h1,h3,a,rfl⟩,Or.inr ⟨i,_,e',h3,h2,rfl,b⟩⟩
 have f1:F1 o.name (Begin o p) f { f with at':=b }:=⟨hf.a,hf.a,rfl,rfl,rfl,hf.l,hf.n,hb1⟩
 have f2:F1 p.name (Begin p q) { f with at':=b } g:=by
  rw[hn]
  exact⟨hf.a,hf.b,hf.c,hf.d,hf.e,hf.l,hf.n,hb2⟩
 have hS2:Sh p vv:=⟨by rw[hv];exact hS.1,hS.2⟩
 rcases h most n vv f _ hS f1 with c|c
 ·exact Or.inl c
 ·rcases k most n vv _ g hS2 f2 with d|d
  ·rw[c.way]at d;exact Or.inl d
  ·refine Or.inr ⟨d.way.trans c.way,d.out.trans c.out,d.stk.trans c.stk,?_,c.nm⟩
   obtain⟨v1,a1,a2,a3⟩:=c.th
   obtain⟨v2,b1,b2,b3⟩:=d.th
   have e:=th_inj (a2.symm.trans b1)
   subst e
   exact⟨v1,a1,b2,a3⟩
theorem Rl.top {o p:O}{P:Nat->Nat->Prop}{most:Nat}{s t:St}(h:Rl o p P s t) (hw:s.way=0):(∃ k,Bad (run most k s).way)\/∃ f g fs gs x,s.frames=f :: fs/\t.frames=g :: gs/\o.code[f.at']?=some x/\F1 o.name P f g/\FrR o.name P fs gs/\Stand o s f.at':=by
 obtain⟨vv,t1,_,_⟩:=h.b.th
 have k:=h.fr hw
 cases hf:s.frames with
 | nil =>
  refine Or.inl ⟨1,?_⟩
  rw[zK most hw]
  unfold step
  rw[hf]
  exact bad8
 | cons f fs =>
  cases hg:t.frames with
  | nil=>rw[hf,hg]at k;exact k.elim
  | cons g gs =>
   obtain⟨k1,k2,k3⟩:=h.stand hw hf hg
   cases hx:o.code[f.at']? with
   | none =>
    refine Or.inl ⟨1,?_⟩
    rw[zK most hw]
    unfold step
    rw[hf]
    simp only [k1.a,t1,xv,hx]
    exact bad8
   | some x=>exact Or.inr ⟨f,g,fs,gs,x,rfl,rfl,hx,k1,k2,k3⟩
theorem vz (o:O) (c:List In):EnR o { o with code:=c } (fun a b=>a=b):=⟨rfl,rfl,rfl,rfl,fun i e e' h k=>by
 rw[h]at k
 cases k
 exact⟨rfl,rfl,rfl⟩⟩
def setC (o:O) (i:Nat) (y:In):O:={ o with code:=o.code.set i y }
theorem vQ (o:O) (i:Nat) (y:In) {j:Nat}(h:j≠i):(setC o i y).code[j]?=o.code[j]?:=by
 show (o.code.set i y)[j]?=_
 rw[List.getElem?_set_ne (fun e=>h e.symm)]
theorem kr (o:O) {i:Nat}(y:In) (h:i<o.code.length):(setC o i y).code[i]?=some y:=by
 show (o.code.set i y)[i]?=_
 rw[List.getElem?_set_self h]
theorem xz {o:O}(hA:Al o) {i:Nat}{y:In}(hs:∀ most s t,Rl o (setC o i y) (fun a b=>a=b) s t->s.way=0->∀ f g fs gs x,s.frames=f :: fs->t.frames=g :: gs->o.code[i]?=some x->f.at'=i->g.at'=i->F1 o.name (fun a b=>a=b) f g->FrR o.name (fun a b=>a=b) fs gs->Stand o s i->Sims most (Rl o (setC o i y) (fun a b=>a=b)) s t):Ref o (setC o i y):=by
 refine vg (vz o _) rfl fun most s t h hw=>?_
 rcases h.top (most:=most) hw with q|⟨f,g,fs,gs,x,hf,hg,hx,k1,k2,k3⟩
 ·exact Or.inl q
 ·have hp:f.at'=g.at':=k1.p
  by_cases e:f.at'=i
  ·exact hs most s t h hw f g fs gs x hf hg (by rw[<-e];exact hx) e (hp ▸ e) k1 k2 (e ▸ k3)
  ·exact k7 hA (vz o _) h hw hf hg hx (by rw[<-hp];exact(vQ o i y e).trans hx) (One.self (fun _=>rfl) (fun _ _ _=>by rw[hp]))
theorem kS {o:O}(hA:Al o):Ref o o:=by
 refine vg (P:=fun a b=>a=b) (vz o o.code) rfl fun most s t h hw=>?_
 rcases h.top (most:=most) hw with q|⟨f,g,fs,gs,x,hf,hg,hx,k1,k2,k3⟩
 ·exact Or.inl q
 ·have hp:f.at'=g.at':=k1.p
  exact k7 hA (vz o o.code) h hw hf hg hx (by rw[<-hp];exact hx) (One.self (fun _=>rfl) (fun _ _ _=>by rw[hp]))
theorem jump_ref {o:O}(hA:Al o) {i tz:Nat}{b:Int}(h:Onw o i tz) (hne:tz≠i):Ref o (setC o i ⟨12,(tz:Int),b⟩):=xz hA fun most s t hR hw f g fs gs x hf hg hx hfi hgi k1 k2 k3=>by
 obtain⟨k,hk,hk1⟩:=h.2 most
 have hi:i<o.code.length:=(List.getElem?_eq_some_iff.1 hx).1
 rcases hk.at k3 with q|⟨q1,q2⟩
 ·exact Or.inl ⟨k,q⟩
 ·refine Or.inr ⟨k,1,hk1 hne,hk1 hne,q2 _ (Nat.sub_le _ _),?_⟩
  obtain⟨vv,t1,t2,hS⟩:=hR.b.th
  rw[q1,zK most (hR.b.way.trans hw),yk (o:=setC o i ⟨12,(tz:Int),b⟩) hg k1.b t2 (by rw[hgi];exact kr o _ hi),zQ hf]
  exact⟨⟨hR.b.way,hR.b.out,hR.b.stk,⟨vv,t1,t2,hS⟩,hR.b.nm⟩,fun _=>⟨⟨k1.a,k1.b,k1.c,k1.d,k1.e,k1.l,k1.n,(Int.toNat_natCast tz).symm⟩,k2⟩⟩
theorem end_ref {o:O}(hA:Al o) {i tz:Nat}{y:In}(h:Onw o i tz) (hy:o.code[tz]?=some y) (hne:tz≠i) (he:y.op=15\/y.op=17):Ref o (setC o i y):=xz hA fun most s t hR hw f g fs gs x hf hg hx hfi hgi k1 k2 k3=>by
 obtain⟨k,hk,hk1⟩:=h.2 most
 have hi:i<o.code.length:=(List.getElem?_eq_some_iff.1 hx).1
 rcases hk.at k3 with q|⟨q1,q2⟩
 ·exact Or.inl ⟨k,q⟩
 ·have hk0:=hk1 hne
  refine Or.inr ⟨k+1,1,by omega,by omega,q2 _ (by omega),?_⟩
  have w1:(setAt s tz).way=0:=by rw[<-q1];exact q2 k (Nat.le_refl _)
  rw[yz,q1,zK most w1,zK most (hR.b.way.trans hw)]
  exact step_two (f:={ f with at':=tz }) hA (vz o _) (rb_at hR.b tz) (by rw[zQ hf]) hg (k1.at (a:=tz) (b:=g.at') trivial) k2 hy (by rw[hgi];exact kr o _ hi) (One.self (fun q=>by omega) (fun q1 q2 q3=>by omega))
theorem jJ (most:Nat) (f:Fr) (fs:List Fr) (p:Pl) (A b:Int) (s:St):exec most f fs p ⟨13,A,b⟩ s=taken f.base s fun n s=>if n=0 then going { f with at':=A.toNat } fs s else s:=rfl
theorem exec_pop (most:Nat) (f:Fr) (fs:List Fr) (p:Pl) (A b:Int) (s:St):exec most f fs p ⟨2,A,b⟩ s=taken f.base s fun _ s=>s:=rfl
theorem jI (most:Nat) (f:Fr) (fs:List Fr) (p:Pl) (A b:Int) (s:St):exec most f fs p ⟨12,A,b⟩ s=going { f with at':=A.toNat } fs s:=rfl
theorem je {base:Nat}{u:St}{n:Int}{st:List Int}(h:u.stack=n :: st) (hb:¬st.length+1<=base) (k:Int->St->St):taken base u k=k n { u with stack:=st }:=by
 unfold taken
 rw[h]
 simp only
 rw[if_neg hb]
theorem taken_bad {base:Nat}{u:St}(k:Int->St->St) (h:¬∃ n st,u.stack=n :: st/\¬st.length+1<=base):(taken base u k).way=8:=by
 unfold taken
 cases hs:u.stack with
 | nil=>rfl
 | cons n st =>
  simp only
  split
  ·rfl
  ·rename_i q
   exact absurd ⟨n,st,hs,q⟩ h
theorem else_ref {o:O}(hA:Al o) {i A':Nat}{A b:Int}(hx:o.code[i]?=some ⟨13,A,b⟩) (h:Onw o A.toNat A') {y:In}(hy:y=⟨13,(A':Int),b⟩\/(A'=i+1/\y.op=2)):Ref o (setC o i y):=xz hA fun most s t hR hw f g fs gs x hf hg hx' hfi hgi k1 k2 k3=>by
 obtain rfl:x=⟨13,A,b⟩:=by rw[hx]at hx';cases hx';rfl
 obtain⟨k,hk,hk1⟩:=h.2 most
 have hi:i<o.code.length:=(List.getElem?_eq_some_iff.1 hx).1
 obtain⟨vv,t1,t2,hS⟩:=hR.b.th
 have hwt:t.way=0:=hR.b.way.trans hw
 have es:step most s=taken f.base (going { f with at':=i+1 } fs s) fun n s=>if n=0 then going { f with at':=A.toNat } fs s else s:=by
  rw[yk hf k1.a t1 (by rw[hfi];exact hx),hfi,jJ]
 by_cases hst:∃ n st,(going { f with at':=i+1 } fs s).stack=n :: st/\¬st.length+1<=f.base
 rotate_left
 ·exact Or.inl ⟨1,by rw[zK most hw,es,taken_bad _ hst];exact bad8⟩
 obtain⟨n,st,h1,h2⟩:=hst
 rw[je h1 h2]at es
 have ht1:(going { g with at':=i+1 } gs t).stack=n :: st:=hR.b.stk.trans h1
 have hst':Nm st:=fun v hv=>hR.b.nm v (by rw[show s.stack=n :: st from h1];exact List.mem_cons_of_mem _ hv)
 have et:step most t={ going { g with at':=if n=0 then A' else i+1 } gs t with stack:=st }:=by
  rw[yk (o:=setC o i y) hg k1.b t2 (by rw[hgi];exact kr o _ hi),hgi]
  rcases hy with rfl|⟨e1,e2⟩
  ·rw[jJ,je ht1 (by rw[show ({ g with at':=i+1 }:Fr).base=f.base from k1.c];exact h2)]
   by_cases q:n=0
   ·simp only [if_pos q,Int.toNat_natCast]
    rfl
   ·simp only [if_neg q]
  ·obtain⟨yo,ya,yb⟩:=y
   have e2:yo=2:=e2
   subst e2
   rw[exec_pop,je ht1 (by rw[show ({ g with at':=i+1 }:Fr).base=f.base from k1.c];exact h2),e1]
   simp only [ite_self]
 by_cases q:n=0
 ·rw[if_pos q]at es et
  have hs1:Stand o (step most s) A.toNat:=by
   rw[es]
   exact⟨hw,⟨vv,t1⟩,_,fs,rfl,k1.a,rfl⟩
  rcases hk.at hs1 with r|⟨r1,r2⟩
  ·exact Or.inl ⟨1+k,by rw[yz,zK most hw];exact r⟩
  ·refine Or.inr ⟨1+k,1,by omega,by omega,?_,?_⟩
   ·cases k with
    | zero=>exact hw
    | succ k =>
     rw[show 1+(k+1) - 1=1+k by omega,yz,zK most hw]
     exact r2 k (by omega)
   ·rw[yz,zK most hw,r1,zK most hwt,et,es]
    exact⟨⟨hR.b.way,hR.b.out,rfl,⟨vv,t1,t2,hS⟩,hst'⟩,fun _=>⟨⟨k1.a,k1.b,k1.c,k1.d,k1.e,k1.l,k1.n,rfl⟩,k2⟩⟩
 ·rw[if_neg q]at es et
  refine Or.inr ⟨1,1,Nat.le_refl _,Nat.le_refl _,hw,?_⟩
  rw[zK most hw,zK most hwt,es,et]
  exact⟨⟨hR.b.way,hR.b.out,rfl,⟨vv,t1,t2,hS⟩,hst'⟩,fun _=>⟨⟨k1.a,k1.b,k1.c,k1.d,k1.e,k1.l,k1.n,rfl⟩,k2⟩⟩
def Goon (x:In):Prop:=x.op=1\/x.op=2\/x.op=3\/x.op=4\/x.op=6\/x.op=10\/x.op=11\/(x.op=5/\x.b<0)\/(x.op=9/\x.a≠3/\x.a≠4)
theorem xp (op:Bs) (a b:Int) (h1:op≠Tp.wDiv) (h2:op≠Tp.wMod):∃ n,both op a b=some n:=by
 unfold both
 rw[if_neg h1,if_neg h2]
 by_cases c1:op=Tp.mPlus
 ·exact⟨_,if_pos c1⟩
 rw[if_neg c1]
 by_cases c2:op=Tp.mMinus
 ·exact⟨_,if_pos c2⟩
 rw[if_neg c2]
 by_cases c3:op=Tp.mStar
 ·exact⟨_,if_pos c3⟩
 rw[if_neg c3]
 by_cases c4:op=Tp.mEq
 ·exact⟨_,if_pos c4⟩
 rw[if_neg c4]
 by_cases c5:op=Tp.mNe
 ·exact⟨_,if_pos c5⟩
 rw[if_neg c5]
 by_cases c6:op=Tp.mLt
 ·exact⟨_,if_pos c6⟩
 rw[if_neg c6]
 by_cases c7:op=Tp.mLe
 ·exact⟨_,if_pos c7⟩
 rw[if_neg c7]
 by_cases c8:op=Tp.mGt
 ·exact⟨_,if_pos c8⟩
 rw[if_neg c8]
 by_cases c9:op=Tp.mGe
 ·exact⟨_,if_pos c9⟩
 rw[if_neg c9]
 exact⟨_,rfl⟩
def Nxt (f:Fr) (fs:List Fr) (s':St):Prop:=Bad s'.way\/(s'.way=0/\∃ l,s'.frames={ f with locals:=l } :: fs)
theorem jB {f:Fr}{fs:List Fr}{u:St}{w:Nat}(h:Bad w):Nxt f fs (ended w u):=Or.inl h
theorem nxt_going {f:Fr}{fs:List Fr}{u:St}(h:u.way=0) (l:List Int):Nxt f fs (going { f with locals:=l } fs u):=Or.inr ⟨h,l,rfl⟩
theorem nxt_same {f:Fr}{fs:List Fr}{u:St}(h:u.way=0) (hf:u.frames=f :: fs):Nxt f fs u:=Or.inr ⟨h,f.locals,hf⟩
theorem jj {f:Fr}{fs:List Fr}{u:St}(n:Int) (h:u.way=0) (hf:u.frames=f :: fs):Nxt f fs (put n u):=by
 unfold put
 split
 ·exact jB bad7
 ·exact nxt_same h hf
theorem yG {f:Fr}{fs:List Fr}{u:St}{base:Nat}{k:Int->St->St}(h:u.way=0) (hf:u.frames=f :: fs) (hk:∀ n v,v.way=0->v.frames=f :: fs->v.there=u.there->Nxt f fs (k n v)):Nxt f fs (taken base u k):=by
 unfold taken
 cases u.stack with
 | nil=>exact jB bad8
 | cons n st =>
  simp only
  split
  ·exact jB bad8
  ·exact hk n _ h hf rfl
theorem goon_nxt {o:O}{x:In}(hx:Goon x) (hi:Ob.instB o x=true) {vv:List (List Int)}(hS:Sh o vv) {most:Nat}{f:Fr}{fs:List Fr}{s:St}(hw:s.way=0) :
  Nxt f fs (exec most f fs ⟨o,vv⟩ x (going f fs s)):=by
 obtain⟨op,a,b⟩:=x
 have hg:(going f fs s).frames=f :: fs:=rfl
 have hgw:(going f fs s).way=0:=hw
 have hvr:0<=a->a<(o.vars.length:Int)->0<(vv.getD a.toNat []).length:=fun h0 h1=>by
  have hl:a.toNat<vv.length:=by rw[hS.1];omega
  simp only [List.getD,List.getElem?_eq_getElem hl,Option.getD_some]
  exact List.length_pos_iff.2 (hS.2 _ (List.getElem_mem hl)).1
 unfold Goon at hx
 simp only at hx
 rcases hx with rfl|rfl|rfl|rfl|rfl|rfl|rfl|⟨rfl,hb⟩|⟨rfl,h3,h4⟩
 ·exact jj a hgw hg
 ·rw[exec_pop]
  exact yG hgw hg fun n v h1 h2 _=>nxt_same h1 h2
 ·show Nxt f fs (if (f.many:Int)<=a then ended 8 (going f fs s) else put (f.locals.getD a.toNat 0) (going f fs s))
  split
  ·exact jB bad8
  ·exact jj _ hgw hg
 ·show Nxt f fs (if (f.many:Int)<=a then ended 8 (going f fs s) else taken f.base (going f fs s) fun n s=>going { f with locals:=f.locals.set a.toNat n } fs s)
  split
  ·exact jB bad8
  ·exact yG hgw hg fun n v h1 _ _=>nxt_going h1 _
 ·show Nxt f fs (taken f.base (going f fs s) fun n s=>set f.of ⟨o,vv⟩ a.toNat 0 n s)
  refine yG hgw hg fun n v h1 h2 _=>?_
  have hi:0<=a/\a<(o.vars.length:Int):=by
   unfold Ob.instB Ob.choices Ob.countsB at hi
   simp at hi
   exact⟨hi.2.1,hi.2.2⟩
  unfold set
  rw[if_pos ⟨by decide,by have:=hvr hi.1 hi.2;simp only;omega⟩]
  exact Or.inr ⟨h1,f.locals,h2⟩
 ·show Nxt f fs (taken f.base (going f fs s) fun n s=>put (w64 (-n)) s)
  exact yG hgw hg fun n v h1 h2 _=>jj _ h1 h2
 ·show Nxt f fs (taken f.base (going f fs s) fun n s=>put (if n=0 then 1 else 0) s)
  exact yG hgw hg fun n v h1 h2 _=>jj _ h1 h2
 ·have hi:0<=a/\a<(o.vars.length:Int):=by
   unfold Ob.instB at hi
   rw[if_pos (Or.inl rfl)]at hi
   unfold Ob.reachB Ob.countsB at hi
   simp only at hi
   by_cases q:b=-1
   ·rw[if_pos q]at hi
    simp only [Bool.and_eq_true,decide_eq_true_eq]at hi
    exact hi
   ·rw[if_neg q]at hi
    simp only [Bool.and_eq_true,decide_eq_true_eq]at hi
    omega
  show Nxt f fs (give (reached (going f fs s) ⟨o,vv⟩ ⟨5,a,b⟩) 0 (going f fs s))
  have e:reached (going f fs s) ⟨o,vv⟩ ⟨5,a,b⟩=vv.getD a.toNat []:=by
   unfold reached
   rw[if_pos hb]
  rw[e]
  unfold give
  rw[if_pos ⟨by decide,by have:=hvr hi.1 hi.2;omega⟩]
  exact jj _ hgw hg
 ·show Nxt f fs (taken f.base (going f fs s) fun b s=>taken f.base s fun m s=>reckon (marks8.getD a.toNat []) m b s)
  refine yG hgw hg fun n v h1 h2 _=>yG h1 h2 fun m v2 h3' h4' _=>?_
  have hi:0<=a/\a<11:=by
   unfold Ob.instB Ob.choices Ob.countsB at hi
   simp at hi
   omega
  have hd:marks8.getD a.toNat []≠Tp.wDiv/\marks8.getD a.toNat []≠Tp.wMod:=by
   obtain⟨k,rfl⟩:∃ k:Nat,a=(k:Int):=⟨a.toNat,by omega⟩
   rw[Int.toNat_natCast]
   match k,hi,h3,h4 with
   | 0,_,_,_=>exact⟨by decide,by decide⟩
   | 1,_,_,_=>exact⟨by decide,by decide⟩
   | 2,_,_,_=>exact⟨by decide,by decide⟩
   | 3,_,h,_=>exact absurd rfl h
   | 4,_,_,h=>exact absurd rfl h
   | 5,_,_,_=>exact⟨by decide,by decide⟩
   | 6,_,_,_=>exact⟨by decide,by decide⟩
   | 7,_,_,_=>exact⟨by decide,by decide⟩
   | 8,_,_,_=>exact⟨by decide,by decide⟩
   | 9,_,_,_=>exact⟨by decide,by decide⟩
   | 10,_,_,_=>exact⟨by decide,by decide⟩
   | k+11,h,_,_=>omega
  obtain⟨r,hr⟩:=xp (marks8.getD a.toNat []) m n hd.1 hd.2
  unfold reckon
  rw[hr]
  exact jj _ h3' h4'
theorem FrR.mono {nm:Bs}{P Q:Nat->Nat->Prop}(h:∀ a b,P a b->Q a b):∀ {fs gs:List Fr},FrR nm P fs gs->FrR nm Q fs gs
 | [],[],_=>trivial
 | _ :: _,_ :: _,k=>⟨k.1.any (h _ _ k.1.p),FrR.mono h k.2⟩
 | [],_ :: _,k=>k.elim
 | _ :: _,[],k=>k.elim
theorem setC_inst (o:O) (i:Nat) (y x:In):Ob.instB (setC o i y) x=Ob.instB o x:=by
 unfold Ob.instB Ob.reachB Ob.choices setC
 simp only [List.length_set]
theorem share_ref {o:O}(hA:Al o) {i tz:Nat}{x:In}{b b':Int}(hg:Goon x) (hin:Ob.instB o x=true) (hx:o.code[i]?=some x) (hj:o.code[i+1]?=some ⟨12,((tz+1:Nat):Int),b⟩) (hto:o.code[tz]?=some x) (hne:tz≠i):Ref o (setC o i ⟨12,(tz:Int),b'⟩):=xz hA fun most s t hR hw f g fs gs x' hf hgf hx' hfi hgi k1 k2 k3=>by
 have hi:i<o.code.length:=(List.getElem?_eq_some_iff.1 hx).1
 obtain⟨vv,t1,t2,hS⟩:=hR.b.th
 have hwt:t.way=0:=hR.b.way.trans hw
 have es:step most s=exec most { f with at':=i+1 } fs ⟨o,vv⟩ x (going { f with at':=i+1 } fs s):=by rw[yk hf k1.a t1 (by rw[hfi];exact hx),hfi]
 have e1:step most t=setAt t tz:=by
  rw[yk (o:=setC o i _) hgf k1.b t2 (by rw[hgi];exact kr o _ hi),jI,zQ hgf]
  rfl
 have hs1:=goon_nxt (most:=most) (f:={ f with at':=i+1 }) (fs:=fs) hg hin hS hw
 rw[<-es]at hs1
 rcases hs1 with q|⟨w1,l1,f1⟩
 ·exact Or.inl ⟨1,by rw[zK most hw];exact q⟩
 have hu:(setAt t tz).frames={ g with at':=tz } :: gs:=by rw[zQ hgf]
 have hut:(setAt t tz).there=Vm.th (setC o i ⟨12,(tz:Int),b'⟩) vv:=by rw[zQ hgf];exact t2
 have huw:(setAt t tz).way=0:=by rw[zQ hgf];exact hwt
 have et:step most (setAt t tz)=exec most { g with at':=tz+1 } gs ⟨setC o i ⟨12,(tz:Int),b'⟩,vv⟩ x (going { g with at':=tz+1 } gs (setAt t tz)) :=
  yk (o:=setC o i ⟨12,(tz:Int),b'⟩) (f:={ g with at':=tz }) hu k1.b hut ((vQ o i _ hne).trans hto)
 have ht1:=goon_nxt (o:=setC o i ⟨12,(tz:Int),b'⟩) (most:=most) (f:={ g with at':=tz+1 }) (fs:=gs) hg (by rw[setC_inst];exact hin) (show Sh (setC o i ⟨12,(tz:Int),b'⟩) vv from hS) huw
 rw[<-et]at ht1
 have hno:x.op≠12/\x.op≠13:=by unfold Goon at hg;omega
 have hrb:Rb o (setC o i ⟨12,(tz:Int),b'⟩) s (setAt t tz):=by
  rw[zQ hgf]
  exact⟨hR.b.way,hR.b.out,hR.b.stk,hR.b.th,hR.b.nm⟩
 have hE:EnR o (setC o i ⟨12,(tz:Int),b'⟩) (fun c d=>c=d\/(c=i+1/\d=tz+1)):=⟨rfl,rfl,rfl,rfl,fun j e e' h k=>by
  have k:o.procs[j]?=some e':=k
  rw[h]at k
  cases k
  exact⟨rfl,rfl,Or.inl rfl⟩⟩
 have hrl:=xL (P:=fun c d=>c=d\/(c=i+1/\d=tz+1)) (most:=most) (f:={ f with at':=i+1 }) (g:={ g with at':=tz+1 }) (x:=x) (y:=x) hE hA.uses hA.args hrb ⟨rfl,rfl⟩ (hA.i64 x (List.mem_of_getElem? hx)) (fun _ _=>rfl) (fun q=>by omega) ⟨k1.a,k1.b,k1.c,k1.d,k1.e,k1.l,k1.n⟩ (fun _ _ _=>Or.inr ⟨rfl,rfl⟩) (k2.mono fun a b h=>Or.inl h) t1 hut hS
 rw[<-es,<-et]at hrl
 rcases ht1 with q|⟨w2,l2,f2⟩
 ·rw[hrl.b.way,w1]at q
  exact absurd q (by unfold Bad;omega)
 have hfr:=hrl.fr w1
 rw[f1,f2]at hfr
 obtain⟨vv2,v1,v2,hS2⟩:=hrl.b.th
 have es2:step most (step most s)=setAt (step most s) (tz+1):=by
  rw[yk (o:=o) f1 k1.a v1 hj,jI,zQ f1]
  simp only [Int.toNat_natCast]
  rfl
 refine Or.inr ⟨1+1,1+1,by omega,by omega,?_,?_⟩
 ·show (run most 1 s).way=0
  rw[zK most hw]
  exact w1
 ·rw[yz,yz,zK most hw,zK most hwt,zK most w1,es2,e1,zK most huw,zQ f1]
  exact⟨⟨hrl.b.way,hrl.b.out,hrl.b.stk,⟨vv2,v1,v2,hS2⟩,hrl.b.nm⟩,fun _=>by rw[f2];exact⟨⟨k1.a,k1.b,k1.c,k1.d,hfr.1.e,hfr.1.l,hfr.1.n,rfl⟩,k2⟩⟩
def rl (lb:Nat->Nat) (x:In):In:=if x.op=12\/x.op=13 then ⟨x.op,(lb x.a.toNat:Int),x.b⟩ else x
theorem rl_op (lb:Nat->Nat) (x:In):(rl lb x).op=x.op:=by unfold rl;split <;> rfl
theorem rl_b (lb:Nat->Nat) (x:In):(rl lb x).b=x.b:=by unfold rl;split <;> rfl
theorem rl_a (lb:Nat->Nat) (x:In) (h1:x.op≠12) (h2:x.op≠13):rl lb x=x:=by unfold rl;rw[if_neg (by omega)]
theorem x7 (lb:Nat->Nat) (op a b:Int) (h1:op≠12) (h2:op≠13):rl lb ⟨op,a,b⟩=⟨op,a,b⟩:=rl_a lb _ h1 h2
theorem rl_g (lb:Nat->Nat) (x:In) (h:x.op=12\/x.op=13):(rl lb x).a=(lb x.a.toNat:Int):=by unfold rl;rw[if_pos h]
def H (o:O) (c:List In) (lb:Nat->Nat):O:={ o with code:=c.map (rl lb),procs:=o.procs.map fun e=>{ e with at':=(lb e.at'.toNat:Int) } }
theorem H_at {o:O}{c:List In}{lb:Nat->Nat}{i:Nat}{x:In}(h:c[i]?=some x):(H o c lb).code[i]?=some (rl lb x):=by
 show (c.map (rl lb))[i]?=_
 rw[List.getElem?_map,h]
 rfl
theorem H_get {o:O}{c:List In}{lb:Nat->Nat}{i:Nat}{y:In}(h:(H o c lb).code[i]?=some y):∃ x,c[i]?=some x/\y=rl lb x:=by
 have h:(c.map (rl lb))[i]?=some y:=h
 rw[List.getElem?_map]at h
 cases hc:c[i]? with
 | none=>rw[hc]at h;cases h
 | some x=>rw[hc]at h;cases h;exact⟨x,rfl,rfl⟩
structure Cf where
 st:List Int
 lo:List Int
 vs:List (List Int)
def wput (n:Int) (c:Cf):Option (Option (Option Nat× Cf)):=if c.st.length=10000 then none else some (some (none,{ c with st:=n :: c.st }))
def wtake (base:Nat) (c:Cf) (k:Int->Cf->Option (Option (Option Nat× Cf))):Option (Option (Option Nat× Cf)):=match c.st with
 | []=>none
 | n :: r=>if r.length+1<=base then none else k n { c with st:=r }
def wstep (base many:Nat) (x:In) (c:Cf):Option (Option (Option Nat× Cf)) :=
 if x.op=1 then wput x.a c
 else if x.op=2 then wtake base c fun _ c=>some (some (none,c))
 else if x.op=3 then (if (many:Int)<=x.a then none else wput (c.lo.getD x.a.toNat 0) c)
 else if x.op=4 then (if (many:Int)<=x.a then none else wtake base c fun n c=>some (some (none,{ c with lo:=c.lo.set x.a.toNat n })))
 else if x.op=5/\x.b<0/\0<(c.vs.getD x.a.toNat []).length then wput ((c.vs.getD x.a.toNat []).getD 0 0) c
 else if x.op=6/\0<(c.vs.getD x.a.toNat []).length then wtake base c fun n c=>some (some (none,{ c with vs:=c.vs.set x.a.toNat ((c.vs.getD x.a.toNat []).set 0 n) }))
 else if x.op=9 then wtake base c fun b c=>wtake base c fun a c=>match both (marks8.getD x.a.toNat []) a b with
  | some n=>wput n c
  | none=>some none
 else if x.op=10 then wtake base c fun n c=>wput (w64 (-n)) c
 else if x.op=11 then wtake base c fun n c=>wput (if n=0 then 1 else 0) c
 else if x.op=12 then some (some (some x.a.toNat,c))
 else if x.op=13 then wtake base c fun n c=>if n=0 then some (some (some x.a.toNat,c)) else some (some (none,c))
 else some none
def wrun (base many:Nat):List In->Cf->Option (Option (Nat× Option Nat× Cf))
 | [],c=>some (some (0,none,c))
 | x :: r,c=>match wstep base many x c with
  | none=>none
  | some none=>some none
  | some (some (some t,c'))=>some (some (1,some t,c'))
  | some (some (none,c'))=>match wrun base many r c' with
   | none=>none
   | some none=>some none
   | some (some (n,t,c2))=>some (some (n+1,t,c2))
def cfs (o:O) (s:St) (f:Fr) (fs:List Fr) (a:Nat) (c:Cf):St:={ s with there:=th o c.vs,frames:={ f with at':=a,locals:=c.lo } :: fs,stack:=c.st }
def Told (o:O) (s:St) (f:Fr) (fs:List Fr) (a:Nat) (lb:Nat->Nat) (u:St):Option (Option (Option Nat× Cf))->Prop
 | none=>Bad u.way
 | some none=>True
 | some (some (none,c))=>u=cfs o s f fs (a+1) c
 | some (some (some t,c))=>u=cfs o s f fs (lb t) c
theorem kx {o:O}{s:St}{f:Fr}{fs:List Fr}{a:Nat}{lb:Nat->Nat}{c:Cf}(n:Int):Told o s f fs a lb (put n (cfs o s f fs (a+1) c)) (wput n c):=by
 unfold wput put
 by_cases q:c.st.length=10000
 ·rw[if_pos q,if_pos (show (cfs o s f fs (a+1) c).stack.length=10000 from q)]
  exact bad7
 ·rw[if_neg q,if_neg (show ¬(cfs o s f fs (a+1) c).stack.length=10000 from q)]
  rfl
theorem yx {o:O}{s:St}{f:Fr}{fs:List Fr}{a:Nat}{lb:Nat->Nat}{c:Cf}{k:Int->St->St}{k':Int->Cf->Option (Option (Option Nat× Cf))}
  (h:∀ n r,c.st=n :: r->Told o s f fs a lb (k n (cfs o s f fs (a+1) { c with st:=r })) (k' n { c with st:=r })):Told o s f fs a lb (taken f.base (cfs o s f fs (a+1) c) k) (wtake f.base c k'):=by
 unfold taken wtake
 have e:(cfs o s f fs (a+1) c).stack=c.st:=rfl
 rw[e]
 cases hc:c.st with
 | nil=>exact bad8
 | cons n r =>
  simp only
  by_cases q:r.length+1<=f.base
  ·rw[if_pos q,if_pos q]
   exact bad8
  ·rw[if_neg q,if_neg q]
   exact h n r hc
theorem told_step {o:O}{most:Nat}{s:St}{f:Fr}{fs:List Fr}{a:Nat}{lb:Nat->Nat}{c:Cf}(hn:f.of=o.name) {x:In}(hx:o.code[a]?=some (rl lb x)):Told o s f fs a lb (step most (cfs o s f fs a c)) (wstep f.base f.many x c):=by
 rw[yk (o:=o) (vv:=c.vs) (f:={ f with at':=a,locals:=c.lo }) (fs:=fs) rfl hn rfl hx]
 obtain⟨op,xa,b⟩:=x
 unfold wstep
 simp only
 by_cases e1:op=1
 ·subst e1
  rw[if_pos rfl,x7 lb _ _ _ (by decide) (by decide)]
  exact kx xa
 rw[if_neg e1]
 by_cases e2:op=2
 ·subst e2
  rw[if_pos rfl,x7 lb _ _ _ (by decide) (by decide)]
  exact yx (k:=fun _ s=>s) fun n r hr=>rfl
 rw[if_neg e2]
 by_cases e3:op=3
 ·subst e3
  rw[if_pos rfl,x7 lb _ _ _ (by decide) (by decide)]
  show Told o s f fs a lb (if (f.many:Int)<=xa then ended 8 (cfs o s f fs (a+1) c) else put (c.lo.getD xa.toNat 0) (cfs o s f fs (a+1) c)) _
  by_cases q:(f.many:Int)<=xa
  ·rw[if_pos q,if_pos q]
   exact bad8
  ·rw[if_neg q,if_neg q]
   exact kx _
 rw[if_neg e3]
 by_cases e4:op=4
 ·subst e4
  rw[if_pos rfl,x7 lb _ _ _ (by decide) (by decide)]
  show Told o s f fs a lb (if (f.many:Int)<=xa then ended 8 (cfs o s f fs (a+1) c) else taken f.base (cfs o s f fs (a+1) c) fun n s=>going { f with at':=a+1,locals:=c.lo.set xa.toNat n } fs s) _
  by_cases q:(f.many:Int)<=xa
  ·rw[if_pos q,if_pos q]
   exact bad8
  ·rw[if_neg q,if_neg q]
   exact yx fun n r hr=>rfl
 rw[if_neg e4]
 by_cases e5:op=5/\b<0/\0<(c.vs.getD xa.toNat []).length
 ·rw[if_pos e5]
  obtain⟨e5,hb,hl⟩:=e5
  subst e5
  rw[x7 lb _ _ _ (by decide) (by decide)]
  show Told o s f fs a lb (give (if b<0 then c.vs.getD xa.toNat [] else _) 0 (cfs o s f fs (a+1) c)) _
  rw[if_pos hb]
  unfold give
  rw[if_pos ⟨by decide,by omega⟩]
  exact kx _
 rw[if_neg e5]
 by_cases e6:op=6/\0<(c.vs.getD xa.toNat []).length
 ·rw[if_pos e6]
  obtain⟨e6,hl⟩:=e6
  subst e6
  rw[x7 lb _ _ _ (by decide) (by decide)]
  refine yx (k:=fun n s=>set f.of ⟨o,c.vs⟩ xa.toNat 0 n s) fun n r hr=>?_
  unfold set
  simp only
  rw[if_pos ⟨by decide,by omega⟩,hn]
  show _=cfs o s f fs (a+1) _
  unfold cfs
  simp only
  congr 1
  exact th_set xa.toNat _
 rw[if_neg e6]
 by_cases e9:op=9
 ·subst e9
  rw[if_pos rfl,x7 lb _ _ _ (by decide) (by decide)]
  refine yx (k:=fun b s=>taken f.base s fun a s=>reckon (marks8.getD xa.toNat []) a b s) fun n r hr=>yx (k:=fun a s=>reckon (marks8.getD xa.toNat []) a n s) fun m r2 hr2=>?_
  unfold reckon
  cases hb:both (marks8.getD xa.toNat []) m n with
  | none=>trivial
  | some v=>exact kx v
 rw[if_neg e9]
 by_cases e10:op=10
 ·subst e10
  rw[if_pos rfl,x7 lb _ _ _ (by decide) (by decide)]
  exact yx (k:=fun n s=>put (w64 (-n)) s) fun n r hr=>kx _
 rw[if_neg e10]
 by_cases e11:op=11
 ·subst e11
  rw[if_pos rfl,x7 lb _ _ _ (by decide) (by decide)]
  exact yx (k:=fun n s=>put (if n=0 then 1 else 0) s) fun n r hr=>kx _
 rw[if_neg e11]
 by_cases e12:op=12
 ·subst e12
  rw[if_pos rfl]
  have e:rl lb ⟨12,xa,b⟩=⟨12,(lb xa.toNat:Int),b⟩:=rfl
  rw[e,jI]
  simp only [Int.toNat_natCast]
  rfl
 rw[if_neg e12]
 by_cases e13:op=13
 ·subst e13
  rw[if_pos rfl]
  have e:rl lb ⟨13,xa,b⟩=⟨13,(lb xa.toNat:Int),b⟩:=rfl
  rw[e,jJ]
  refine yx fun n r hr=>?_
  by_cases q:n=0
  ·rw[if_pos q,if_pos q]
   simp only [Int.toNat_natCast]
   rfl
  ·rw[if_neg q,if_neg q]
   rfl
 rw[if_neg e13]
 trivial
end Vm
