import Derived.Test.YtmnedfdffbbchaaGreatDoorKLa
set_option maxRecDepth 100000
set_option maxHeartbeats 4000000

namespace Vm
open Ob (O In)
open Tp (Bs both w64)
def Ran (o:O) (most:Nat) (s:St) (f:Fr) (fs:List Fr) (k w:Nat) (lb:Nat->Nat) (c:Cf):Option (Option (Nat× Option Nat× Cf))->Prop
 | none=>∃ m,Bad (run most m (cfs o s f fs k c)).way
 | some none=>True
 | some (some (n,none,c'))=>run most n (cfs o s f fs k c)=cfs o s f fs (k+w) c'/\n=w/\∀ j,j<=n->(run most j (cfs o s f fs k c)).way=0
 | some (some (n,some t,c'))=>run most n (cfs o s f fs k c)=cfs o s f fs (lb t) c'/\n<=w/\1<=n/\∀ j,j<=n->(run most j (cfs o s f fs k c)).way=0
theorem jv {o:O}{most:Nat}{s:St}{f:Fr}{fs:List Fr}{lb:Nat->Nat}(hn:f.of=o.name) (hw:s.way=0) :
  ∀(W:List In) (k:Nat) (c:Cf),(∀ j (h:j<W.length),o.code[k+j]?=some (rl lb W[j]))->Ran o most s f fs k W.length lb c (wrun f.base f.many W c)
 | [],k,c,_=>⟨rfl,rfl,fun j hj=>by
   obtain rfl:j=0:=by simpa using hj
   exact hw⟩
 | x :: r,k,c,hc=>by
  have hx:o.code[k]?=some (rl lb x):=hc 0 (by simp)
  have hs:=told_step (most:=most) (s:=s) (f:=f) (fs:=fs) (a:=k) (lb:=lb) (c:=c) hn hx
  have hcw:(cfs o s f fs k c).way=0:=hw
  rw[wrun]
  cases h1:wstep f.base f.many x c with
  | none =>
   rw[h1]at hs
   exact⟨1,by rw[zK most hcw];exact hs⟩
  | some q =>
   rw[h1]at hs
   cases q with
   | none=>trivial
   | some q =>
    obtain⟨t,c'⟩:=q
    cases t with
    | some t =>
     have hs:step most (cfs o s f fs k c)=cfs o s f fs (lb t) c':=hs
     refine⟨by rw[zK most hcw];exact hs,by simp,Nat.le_refl _,fun j hj=>?_⟩
     rcases Nat.eq_or_lt_of_le hj with rfl|q
     ·rw[zK most hcw,hs];exact hw
     ·obtain rfl:j=0:=by omega
      exact hcw
    | none =>
     have hs:step most (cfs o s f fs k c)=cfs o s f fs (k+1) c':=hs
     have ih:=jv (most:=most) (s:=s) (f:=f) (fs:=fs) (lb:=lb) hn hw r (k+1) c' fun j h=>by
      have:=hc (j+1) (by simp;omega)
      rw[show k+1+j=k+(j+1) by omega]
      simpa using this
     have hr:∀ m,run most (m+1) (cfs o s f fs k c)=run most m (cfs o s f fs (k+1) c'):=fun m=>by rw[kT hcw,hs]
     simp only
     cases h2:wrun f.base f.many r c' with
     | none =>
      rw[h2]at ih
      obtain⟨m,hm⟩:=ih
      exact⟨m+1,by rw[hr];exact hm⟩
     | some q =>
      rw[h2]at ih
      cases q with
      | none=>trivial
      | some q =>
       obtain⟨n,t,c2⟩:=q
       have hway:∀(n':Nat),(∀ j,j<=n'->(run most j (cfs o s f fs (k+1) c')).way=0)->∀ j,j<=n'+1->(run most j (cfs o s f fs k c)).way=0:=fun n' h j hj=>by
        cases j with
        | zero=>exact hcw
        | succ j=>rw[hr];exact h j (by omega)
       cases t with
       | none =>
        obtain⟨i1,i2,i3⟩:=ih
        refine⟨by rw[hr,i1,List.length_cons];congr 1;omega,by rw[List.length_cons];omega,hway n i3⟩
       | some t =>
        obtain⟨i1,i2,i3,i4⟩:=ih
        exact⟨by rw[hr,i1],by rw[List.length_cons];omega,by omega,hway n i4⟩
structure CfOk (nv:Nat) (c:Cf):Prop where
 st:Nm c.st
 lo:Nm c.lo
 ll:c.lo.length=10
 vl:c.vs.length=nv
 vs:∀ l∈c.vs,l≠[]/\Nm l
def Win (nv:Nat) (W W':List In) (nx:Option Nat):Prop:=∀ base many c,CfOk nv c->match wrun base many W c with
 | none=>True
 | some none=>False
 | some (some (n,t,c'))=>CfOk nv c'/\∃ n' t',n'<=n/\wrun base many W' c=some (some (n',t',c'))/\(t'=t\/(t.isSome=true/\t=nx/\t'=none))
def Pw (k w w':Nat) (a b:Nat):Prop:=(a<=k/\b=a)\/(k+w<=a/\b=a - w+w')
def sh (k w w':Nat) (q:Nat):Nat:=if q<=k then q else q - w+w'
theorem pw_sh {k w w' q:Nat}(h:q<=k\/k+w<=q):Pw k w w' q (sh k w w' q):=by
 unfold Pw sh
 by_cases e:q<=k
 ·rw[if_pos e];exact Or.inl ⟨e,rfl⟩
 ·rw[if_neg e];exact Or.inr ⟨by omega,rfl⟩
theorem xN {o:O}{s:St}{f:Fr}{fs:List Fr}{vv:List (List Int)}(hf:s.frames=f :: fs) (ht:s.there=th o vv):cfs o s f fs f.at' ⟨s.stack,f.locals,vv⟩=s:=by
 unfold cfs
 simp only
 rw[<-ht,<-hf]
theorem H_al {o:O}(hA:Al o) {c:List In}{lb:Nat->Nat}(hc:∀ x∈c,Tp.I64 x.a) (hl:∀ q,lb q<=1000000):Al (H o c lb):=⟨hA.uses,fun e he=>by
 obtain⟨e',h1,rfl⟩:=List.mem_map.1 he
 exact hA.args e' h1,fun x hx=>by
 obtain⟨y,h1,rfl⟩:=List.mem_map.1 hx
 by_cases q:y.op=12\/y.op=13
 ·rw[rl_g lb y q]
  have:=hl y.a.toNat
  unfold Tp.I64
  omega
 ·rw[rl_a lb y (by omega) (by omega)]
  exact hc y h1⟩
theorem yN {n:Int}{c c':Cf}{t:Nat}(h:wput n c=some (some (some t,c'))):False:=by
 unfold wput at h
 split at h <;> cases h
theorem yd {base:Nat}{c c':Cf}{t:Nat}{k:Int->Cf->Option (Option (Option Nat× Cf))}(h:wtake base c k=some (some (some t,c'))):∃ n c2,k n c2=some (some (some t,c')):=by
 unfold wtake at h
 cases hc:c.st with
 | nil=>rw[hc]at h;cases h
 | cons n r =>
  rw[hc]at h
  simp only at h
  split at h
  ·cases h
  ·exact⟨_,_,h⟩
theorem vI {base many:Nat}{x:In}{c c':Cf}{t:Nat}(h:wstep base many x c=some (some (some t,c'))):(x.op=12\/x.op=13)/\x.a.toNat=t:=by
 unfold wstep at h
 by_cases e1:x.op=1
 ·rw[if_pos e1]at h
  exact(yN h).elim
 rw[if_neg e1]at h
 by_cases e2:x.op=2
 ·rw[if_pos e2]at h
  obtain⟨n,c2,h⟩:=yd h;cases h
 rw[if_neg e2]at h
 by_cases e3:x.op=3
 ·rw[if_pos e3]at h
  split at h
  ·cases h
  ·exact(yN h).elim
 rw[if_neg e3]at h
 by_cases e4:x.op=4
 ·rw[if_pos e4]at h
  split at h
  ·cases h
  ·obtain⟨n,c2,h⟩:=yd h;cases h
 rw[if_neg e4]at h
 by_cases e5:x.op=5/\x.b<0/\0<(c.vs.getD x.a.toNat []).length
 ·rw[if_pos e5]at h
  exact(yN h).elim
 rw[if_neg e5]at h
 by_cases e6:x.op=6/\0<(c.vs.getD x.a.toNat []).length
 ·rw[if_pos e6]at h
  obtain⟨n,c2,h⟩:=yd h;cases h
 rw[if_neg e6]at h
 by_cases e9:x.op=9
 ·rw[if_pos e9]at h
  obtain⟨n,c2,h⟩:=yd h
  obtain⟨m,c3,h⟩:=yd h
  split at h
  ·exact(yN h).elim
  ·cases h
 rw[if_neg e9]at h
 by_cases e10:x.op=10
 ·rw[if_pos e10]at h
  obtain⟨n,c2,h⟩:=yd h;exact(yN h).elim
 rw[if_neg e10]at h
 by_cases e11:x.op=11
 ·rw[if_pos e11]at h
  obtain⟨n,c2,h⟩:=yd h;exact(yN h).elim
 rw[if_neg e11]at h
 by_cases e12:x.op=12
 ·rw[if_pos e12]at h
  cases h
  exact⟨Or.inl e12,rfl⟩
 rw[if_neg e12]at h
 by_cases e13:x.op=13
 ·rw[if_pos e13]at h
  obtain⟨n,c2,h⟩:=yd h
  split at h
  ·cases h
   exact⟨Or.inr e13,rfl⟩
  ·cases h
 rw[if_neg e13]at h
 cases h
theorem wrun_label {base many:Nat}{c':Cf}{t n:Nat}:∀(W:List In) (c:Cf),wrun base many W c=some (some (n,some t,c'))->∃ n',n'=n/\∃ x∈W,(x.op=12\/x.op=13)/\x.a.toNat=t:=by
 intro W
 induction W generalizing n with
 | nil=>intro c h;cases h
 | cons x r ih =>
  intro c h
  rw[wrun]at h
  cases h1:wstep base many x c with
  | none=>rw[h1]at h;cases h
  | some q =>
   rw[h1]at h
   cases q with
   | none=>cases h
   | some q =>
    obtain⟨u,c1⟩:=q
    cases u with
    | some u =>
     cases h
     exact⟨_,rfl,x,List.mem_cons_self,vI h1⟩
    | none =>
     simp only at h
     cases h2:wrun base many r c1 with
     | none=>rw[h2]at h;cases h
     | some q =>
      rw[h2]at h
      cases q with
      | none=>cases h
      | some q =>
       obtain⟨m,u,c2⟩:=q
       cases h
       obtain⟨_,_,y,hy,hz⟩:=ih c1 h2
       exact⟨_,rfl,y,List.mem_cons_of_mem _ hy,hz⟩
def AtW (o p:O) (P:Nat->Nat->Prop) (k:Nat):Prop:=∀ most s t f g fs gs,Rl o p P s t->s.way=0->s.frames=f :: fs->t.frames=g :: gs->F1 o.name P f g->FrR o.name P fs gs->f.at'=k->g.at'=k->Sims most (Rl o p P) s t
theorem repl_ref {o:O}{pre W W' post:List In}{lb:Nat->Nat}(hA:Al (H o (pre++W++post) lb)) (hW:1<=W.length)
  (hsim:EnR (H o (pre++W++post) lb) (H o (pre++W'++post) fun q=>sh pre.length W.length W'.length (lb q)) (Pw pre.length W.length W'.length)->AtW (H o (pre++W++post) lb) (H o (pre++W'++post) fun q=>sh pre.length W.length W'.length (lb q)) (Pw pre.length W.length W'.length) pre.length)
  (hcl:∀ x∈pre++W++post,x.op=12\/x.op=13->lb x.a.toNat<=pre.length\/pre.length+W.length<=lb x.a.toNat)
  (hpl:∀ e∈o.procs,lb e.at'.toNat<=pre.length\/pre.length+W.length<=lb e.at'.toNat) :
  Ref (H o (pre++W++post) lb) (H o (pre++W'++post) fun q=>sh pre.length W.length W'.length (lb q)):=by
 obtain⟨k,hk⟩:∃ k,k=pre.length:=⟨_,rfl⟩
 obtain⟨lb',hlb'⟩:∃ lb',lb'=fun q=>sh pre.length W.length W'.length (lb q):=⟨_,rfl⟩
 rw[<-hlb']at hsim ⊢
 rw[<-hk]at hcl hpl
 rw[<-hk]at hsim
 have hE:EnR (H o (pre++W++post) lb) (H o (pre++W'++post) lb') (Pw k W.length W'.length):=by
  refine⟨rfl,rfl,rfl,?_,fun i e e' h1 h2=>?_⟩
  ·show (o.procs.map _).length=(o.procs.map _).length
   simp
  ·have h1:(o.procs.map fun e=>({ e with at':=(lb e.at'.toNat:Int) }:Ob.En))[i]?=some e:=h1
   have h2:(o.procs.map fun e=>({ e with at':=(lb' e.at'.toNat:Int) }:Ob.En))[i]?=some e':=h2
   rw[List.getElem?_map]at h1 h2
   cases hp:o.procs[i]? with
   | none=>rw[hp]at h1;cases h1
   | some x =>
    rw[hp]at h1 h2
    cases h1
    cases h2
    refine⟨rfl,rfl,?_⟩
    simp only [Int.toNat_natCast]
    rw[hlb',<-hk]
    exact pw_sh (hpl x (List.mem_of_getElem? hp))
 refine vg hE (Or.inl ⟨Nat.zero_le _,rfl⟩) fun most s t hR hw=>?_
 rcases hR.top (most:=most) hw with q|⟨f,g,fs,gs,y,hf,hg,hy,k1,k2,k3⟩
 ·exact Or.inl q
 have hcode:∀ x,x∈pre++W++post->x.op=12\/x.op=13->Pw k W.length W'.length (rl lb x).a.toNat (rl lb' x).a.toNat:=fun x hx hg=>by
  rw[rl_g lb x hg,rl_g lb' x hg]
  simp only [Int.toNat_natCast]
  rw[hlb',<-hk]
  exact pw_sh (hcl x hx hg)
 have hone:∀ x b,x∈pre++W++post->(Pw k W.length W'.length (f.at'+1) (b+1))->One (Pw k W.length W'.length) (rl lb x) (rl lb' x) f.at' b:=fun x b hx hp=>⟨by rw[rl_op,rl_op],by rw[rl_b,rl_b],fun h1 h2=>by
  rw[rl_op]at h1 h2
  rw[rl_a lb x h1 h2,rl_a lb' x h1 h2],fun h=>by rw[rl_op]at h;exact hcode x hx h,fun _ _ _=>hp⟩
 obtain⟨x,hx,rfl⟩:=H_get hy
 have hxm:x∈pre++W++post:=List.mem_of_getElem? hx
 have hp:Pw k W.length W'.length f.at' g.at':=k1.p
 rcases Nat.lt_trichotomy f.at' k with hlt|heq|hgt
 ·-- ahead of the window
  have hg':g.at'=f.at':=by unfold Pw at hp;omega
  refine k7 hA hE hR hw hf hg hy (y:=rl lb' x) (H_at ?_) (hone x g.at' hxm (Or.inl ⟨by omega,by omega⟩))
  rw[hg',List.append_assoc,List.getElem?_append_left (by omega)]
  rw[List.append_assoc,List.getElem?_append_left (by omega)]at hx
  exact hx
 ·exact hsim hE most s t f g fs gs hR hw hf hg k1 k2 heq (by unfold Pw at hp;omega)
 ·-- behind it
  have hge:k+W.length<=f.at'/\g.at'=f.at' - W.length+W'.length:=by unfold Pw at hp;omega
  refine k7 hA hE hR hw hf hg hy (y:=rl lb' x) (H_at ?_) (hone x g.at' hxm (Or.inr ⟨by omega,by omega⟩))
  rw[List.getElem?_append_right (by simp;omega)]at hx ⊢
  rw[<-hx]
  congr 1
  simp
  omega
theorem win_ref {o:O}{pre W W' post:List In}{lb:Nat->Nat}{nx:Option Nat}(hA:Al (H o (pre++W++post) lb)) (hW:1<=W.length) (hwin:Win o.vars.length W W' nx) (hnx:∀ n,nx=some n->lb n=pre.length+W.length)
  (hcl:∀ x∈pre++W++post,x.op=12\/x.op=13->lb x.a.toNat<=pre.length\/pre.length+W.length<=lb x.a.toNat)
  (hpl:∀ e∈o.procs,lb e.at'.toNat<=pre.length\/pre.length+W.length<=lb e.at'.toNat) :
  Ref (H o (pre++W++post) lb) (H o (pre++W'++post) fun q=>sh pre.length W.length W'.length (lb q)):=by
 refine repl_ref hA hW (fun _=>?_) hcl hpl
 intro most s t f g fs gs hR hw hf hg k1 k2 heq hg'
 obtain⟨k,hk⟩:∃ k,k=pre.length:=⟨_,rfl⟩
 obtain⟨lb',hlb'⟩:∃ lb',lb'=fun q=>sh pre.length W.length W'.length (lb q):=⟨_,rfl⟩
 rw[<-hlb']at hR ⊢
 rw[<-hk]at hnx hcl hpl hR k1 k2 heq hg' ⊢
 obtain⟨vv,t1,t2,hS⟩:=hR.b.th
 obtain⟨c,hc⟩:∃ c,c=(⟨s.stack,f.locals,vv⟩:Cf):=⟨_,rfl⟩
 have es:cfs (H o (pre++W++post) lb) s f fs k c=s:=by rw[hc,<-heq];exact xN hf t1
 have et:cfs (H o (pre++W'++post) lb') t g gs k c=t:=by
  rw[hc,<-hg',<-hR.b.stk,<-k1.e]
  exact xN hg t2
 have hok:CfOk o.vars.length c:=by rw[hc];exact⟨hR.b.nm,k1.n,k1.l,hS.1,hS.2⟩
 have r1:=jv (o:=H o (pre++W++post) lb) (most:=most) (s:=s) (f:=f) (fs:=fs) (lb:=lb) k1.a hw W k c fun j h=>H_at (by
  rw[List.append_assoc,List.getElem?_append_right (by omega),List.getElem?_append_left (by omega),show k+j - pre.length=j by omega,List.getElem?_eq_getElem h])
 have r2:=jv (o:=H o (pre++W'++post) lb') (most:=most) (s:=t) (f:=g) (fs:=gs) (lb:=lb') k1.b (hR.b.way.trans hw) W' k c fun j h=>H_at (by
  rw[List.append_assoc,List.getElem?_append_right (by omega),List.getElem?_append_left (by omega),show k+j - pre.length=j by omega,List.getElem?_eq_getElem h])
 rw[k1.c,k1.d]at r2
 have hwn:=hwin f.base f.many c hok
 have key:∀(n n' P1 P2:Nat) (c':Cf),CfOk o.vars.length c'->1<=n->n'<=n->(run most (n - 1) s).way=0->run most n s=cfs (H o (pre++W++post) lb) s f fs P1 c'->run most n' t=cfs (H o (pre++W'++post) lb') t g gs P2 c'->Pw k W.length W'.length P1 P2->Sims most (Rl (H o (pre++W++post) lb) (H o (pre++W'++post) lb') (Pw k W.length W'.length)) s t:=fun n n' P1 P2 c' h1 h2 h3 h4 h5 h6 h7=>by
  refine Or.inr ⟨n,n',h2,h3,h4,?_⟩
  rw[h5,h6]
  exact⟨⟨hR.b.way,hR.b.out,rfl,⟨c'.vs,rfl,rfl,⟨h1.vl,h1.vs⟩⟩,h1.st⟩,fun _=>⟨⟨k1.a,k1.b,k1.c,k1.d,rfl,h1.ll,h1.lo,h7⟩,k2⟩⟩
 cases h1:wrun f.base f.many W c with
 | none =>
  rw[h1]at r1
  have r1:∃ m,Bad (run most m (cfs (H o (pre++W++post) lb) s f fs k c)).way:=r1
  rw[es]at r1
  exact Or.inl r1
 | some q =>
  rw[h1]at r1 hwn
  cases q with
  | none=>exact hwn.elim
  | some q =>
   obtain⟨n,u,c'⟩:=q
   obtain⟨hok',n',u',hn,h2,hu⟩:=hwn
   rw[h2]at r2
   cases u with
   | none =>
    obtain⟨a1,a2,a3⟩:=r1
    rw[es]at a1 a3
    have hu':u'=none:=by
     rcases hu with q|⟨q,_,_⟩
     ·exact q
     ·cases q
    subst hu'
    obtain⟨b1,b2,b3⟩:=r2
    rw[et]at b1
    exact key n n' _ _ c' hok' (by omega) hn (a3 _ (by omega)) a1 b1 (Or.inr ⟨by omega,by omega⟩)
   | some T =>
    obtain⟨a1,a2,a3,a4⟩:=r1
    rw[es]at a1 a4
    rcases hu with q|⟨_,q,q'⟩
    ·subst q
     obtain⟨b1,b2,b3,b4⟩:=r2
     rw[et]at b1
     obtain⟨_,_,z,hz1,hz2,hz3⟩:=wrun_label W c h1
     refine key n n' _ _ c' hok' a3 hn (a4 _ (by omega)) a1 b1 ?_
     rw[hlb',<-hz3,<-hk]
     exact pw_sh (hcl z (by simp[hz1]) hz2)
    ·subst q'
     have hnT:=hnx T q.symm
     obtain⟨b1,b2,b3⟩:=r2
     rw[et]at b1
     exact key n n' _ _ c' hok' a3 hn (a4 _ (by omega)) a1 b1 (Or.inr ⟨by omega,by omega⟩)
end Vm

namespace Vm
open Ob (O In)
open Tp (Bs both w64 mPlus mMinus mStar wDiv wMod mEq mNe mLt mLe mGt mGe)
theorem ws1 (base many:Nat) (a b:Int) (c:Cf):wstep base many ⟨1,a,b⟩ c=wput a c:=rfl
theorem ws2 (base many:Nat) (a b:Int) (c:Cf):wstep base many ⟨2,a,b⟩ c=wtake base c fun _ c=>some (some (none,c)):=rfl
theorem ws3 (base many:Nat) (a b:Int) (c:Cf):wstep base many ⟨3,a,b⟩ c=if (many:Int)<=a then none else wput (c.lo.getD a.toNat 0) c:=rfl
theorem ws4 (base many:Nat) (a b:Int) (c:Cf):wstep base many ⟨4,a,b⟩ c=if (many:Int)<=a then none else wtake base c fun n c=>some (some (none,{ c with lo:=c.lo.set a.toNat n })):=rfl
theorem ws9 (base many:Nat) (a b:Int) (c:Cf):wstep base many ⟨9,a,b⟩ c=wtake base c fun y c=>wtake base c fun x c=>match both (marks8.getD a.toNat []) x y with
  | some n=>wput n c
  | none=>some none:=rfl
theorem ws10 (base many:Nat) (a b:Int) (c:Cf):wstep base many ⟨10,a,b⟩ c=wtake base c fun n c=>wput (w64 (-n)) c:=rfl
theorem ws11 (base many:Nat) (a b:Int) (c:Cf):wstep base many ⟨11,a,b⟩ c=wtake base c fun n c=>wput (if n=0 then 1 else 0) c:=rfl
theorem ws12 (base many:Nat) (a b:Int) (c:Cf):wstep base many ⟨12,a,b⟩ c=some (some (some a.toNat,c)):=rfl
theorem ws13 (base many:Nat) (a b:Int) (c:Cf):wstep base many ⟨13,a,b⟩ c=wtake base c fun n c=>if n=0 then some (some (some a.toNat,c)) else some (some (none,c)):=rfl
def bnd (m:Nat) (r:Option (Option (Option Nat× Cf))) (k:Cf->Option (Option (Nat× Option Nat× Cf))):Option (Option (Nat× Option Nat× Cf)):=match r with
 | none=>none
 | some none=>some none
 | some (some (some t,c))=>some (some (m+1,some t,c))
 | some (some (none,c))=>k c
def wr (base many:Nat):Nat->List In->Cf->Option (Option (Nat× Option Nat× Cf))
 | m,[],c=>some (some (m,none,c))
 | m,x :: r,c=>bnd m (wstep base many x c) fun c=>wr base many (m+1) r c
def up (m:Nat):Option (Option (Nat× Option Nat× Cf))->Option (Option (Nat× Option Nat× Cf)):=fun r=>match r with
 | none=>none
 | some none=>some none
 | some (some (n,t,c))=>some (some (n+m,t,c))
theorem wr_run (base many:Nat):∀(W:List In) (m:Nat) (c:Cf),wr base many m W c=up m (wrun base many W c)
 | [],m,c=>by simp[wr,wrun,up]
 | x :: r,m,c=>by
  rw[wr,wrun]
  unfold bnd
  cases wstep base many x c with
  | none=>rfl
  | some q =>
   cases q with
   | none=>rfl
   | some q =>
    obtain⟨t,c'⟩:=q
    cases t with
    | some t=>simp[up,Nat.add_comm]
    | none =>
     simp only
     rw[wr_run base many r (m+1) c']
     cases wrun base many r c' with
     | none=>rfl
     | some q =>
      cases q with
      | none=>rfl
      | some q =>
       obtain⟨n,t,c2⟩:=q
       simp[up]
       omega
theorem vJ (base many:Nat) (W:List In) (c:Cf):wrun base many W c=wr base many 0 W c:=by
 rw[wr_run]
 unfold up
 cases wrun base many W c with
 | none=>rfl
 | some q=>cases q <;> rfl
def Ok8 (nv base many:Nat) (W':List In) (c:Cf) (nx:Option Nat):Option (Option (Nat× Option Nat× Cf))->Prop
 | none=>True
 | some none=>False
 | some (some (n,t,c'))=>CfOk nv c'/\∃ n' t',n'<=n/\wr base many 0 W' c=some (some (n',t',c'))/\(t'=t\/(t.isSome=true/\t=nx/\t'=none))
theorem ye {nv:Nat}{W W':List In}{nx:Option Nat}(h:∀ base many c,CfOk nv c->Ok8 nv base many W' c nx (wr base many 0 W c)):Win nv W W' nx:=fun base many c hc=>by
 have:=h base many c hc
 rw[<-vJ]at this
 cases hq:wrun base many W c with
 | none=>trivial
 | some q =>
  rw[hq]at this
  cases q with
  | none=>exact this
  | some q =>
   obtain⟨n,t,c'⟩:=q
   obtain⟨h1,n',t',h2,h3,h4⟩:=this
   exact⟨h1,n',t',h2,by rw[vJ];exact h3,h4⟩
theorem zO {nv base many m:Nat}{nx:Option Nat}{W':List In}{c0 c:Cf}{n:Int}{k:Cf->Option (Option (Nat× Option Nat× Cf))}(h:c.st.length≠10000->Ok8 nv base many W' c0 nx (k { c with st:=n :: c.st })):Ok8 nv base many W' c0 nx (bnd m (wput n c) k):=by
 unfold wput
 by_cases q:c.st.length=10000
 ·rw[if_pos q];trivial
 ·rw[if_neg q];exact h q
theorem zE {nv base many m:Nat}{nx:Option Nat}{W':List In}{c0 c:Cf}{f:Int->Cf->Option (Option (Option Nat× Cf))}{k:Cf->Option (Option (Nat× Option Nat× Cf))}(h:∀ n r,c.st=n :: r->¬r.length+1<=base->Ok8 nv base many W' c0 nx (bnd m (f n { c with st:=r }) k)):Ok8 nv base many W' c0 nx (bnd m (wtake base c f) k):=by
 unfold wtake
 cases hc:c.st with
 | nil=>trivial
 | cons n r =>
  simp only
  by_cases q:r.length+1<=base
  ·rw[if_pos q];trivial
  ·rw[if_neg q];exact h n r hc q
theorem kt {n:Int}{c:Cf}(h:c.st.length≠10000):wput n c=some (some (none,{ c with st:=n :: c.st })):=by unfold wput;rw[if_neg h]
theorem zS {base:Nat}{c:Cf}{n:Int}{r:List Int}(h:c.st=n :: r) (hb:¬r.length+1<=base) (f:Int->Cf->Option (Option (Option Nat× Cf))):wtake base c f=f n { c with st:=r }:=by unfold wtake;rw[h];simp only;rw[if_neg hb]
theorem CfOk.with {nv:Nat}{c:Cf}(h:CfOk nv c) {l:List Int}(hl:Nm l):CfOk nv { c with st:=l }:=⟨hl,h.lo,h.ll,h.vl,h.vs⟩
theorem CfOk.tail {nv:Nat}{c:Cf}(h:CfOk nv c) {n:Int}{r:List Int}(hs:c.st=n :: r):Tp.I64 n/\Nm r:=⟨h.st n (by rw[hs];exact List.mem_cons_self),fun v hv=>h.st v (by rw[hs];exact List.mem_cons_of_mem _ hv)⟩
theorem cf_eta (c:Cf) {l:List Int}(h:c.st=l):({ c with st:=l }:Cf)=c:=by rw[<-h]
theorem r_push_pop (nv:Nat) (nx:Option Nat) (n a b b':Int):Win nv [⟨1,n,b⟩,⟨2,a,b'⟩] [] nx:=ye fun base many c hc=>by
 rw[wr,ws1]
 refine zO fun h=>?_
 rw[wr,ws2]
 refine zE fun m r hr hb=>?_
 obtain⟨rfl,rfl⟩:n=m/\c.st=r:=by simpa using hr
 exact⟨hc,0,none,by omega,rfl,Or.inl rfl⟩
theorem vh (nv:Nat) (nx:Option Nat) (a b b':Int):Win nv [⟨1,0,b⟩,⟨13,a,b'⟩] [⟨12,a,0⟩] nx:=ye fun base many c hc=>by
 rw[wr,ws1]
 refine zO fun h=>?_
 rw[wr,ws13]
 refine zE fun m r hr hb=>?_
 obtain⟨rfl,rfl⟩:0=m/\c.st=r:=by simpa using hr
 exact⟨hc,1,some a.toNat,by omega,rfl,Or.inl rfl⟩
theorem vU (nv:Nat) (nx:Option Nat) (n a b b':Int) (hn:n≠0):Win nv [⟨1,n,b⟩,⟨13,a,b'⟩] [] nx:=ye fun base many c hc=>by
 rw[wr,ws1]
 refine zO fun h=>?_
 rw[wr,ws13]
 refine zE fun m r hr hb=>?_
 obtain⟨rfl,rfl⟩:n=m/\c.st=r:=by simpa using hr
 rw[if_neg hn]
 exact⟨hc,0,none,by omega,rfl,Or.inl rfl⟩
end Vm

namespace Vm
open Ob (O In)
open Tp (Bs both w64 b01 mPlus mMinus mStar wDiv wMod mEq mNe mLt mLe mGt mGe)
theorem xC (nv:Nat) (nx:Option Nat) (n a b b':Int) (op:Int) (ho:op=10\/op=11):Win nv [⟨1,n,b⟩,⟨op,a,b'⟩] [⟨1,if op=10 then w64 (-n) else if n=0 then 1 else 0,0⟩] nx:=ye fun base many c hc=>by
 rw[wr,ws1]
 refine zO fun h=>?_
 rw[wr]
 have e:wstep base many ⟨op,a,b'⟩ { c with st:=n :: c.st }=wtake base { c with st:=n :: c.st } fun n c=>wput (if op=10 then w64 (-n) else if n=0 then 1 else 0) c:=by
  rcases ho with rfl|rfl <;> rfl
 rw[e]
 refine zE fun m r hr hb=>zO fun h2=>?_
 obtain⟨rfl,rfl⟩:n=m/\c.st=r:=by simpa using hr
 have hv:Tp.I64 (if op=10 then w64 (-n) else if n=0 then 1 else 0):=by
  split
  ·exact Tp.w64_in _
  ·unfold Tp.I64;split <;> omega
 refine⟨hc.with (l:=_ :: c.st) fun v hv'=>?_,1,none,by omega,?_,Or.inl rfl⟩
 ·rcases List.mem_cons.1 hv' with rfl|hv'
  ·exact hv
  ·exact hc.st v hv'
 ·rw[wr,ws1,kt h]
  rfl
theorem yK {nv base many n n':Nat}{nx:Option Nat}{W':List In}{c c':Cf}(hc:CfOk nv c') (hn:n'<=n) (h:wr base many 0 W' c=some (some (n',none,c'))):Ok8 nv base many W' c nx (some (some (n,none,c'))):=⟨hc,n',none,hn,h,Or.inl rfl⟩
theorem jk {n:Int}{l:List Int}(h:Tp.I64 n) (hl:Nm l):Nm (n :: l):=fun v hv=>by
 rcases List.mem_cons.1 hv with rfl|hv
 ·exact h
 ·exact hl v hv
theorem kU {nv:Nat}{nx:Option Nat}{n a b b':Int}{W':List In}(hW:∀ base many c x r,CfOk nv c->c.st=x :: r->¬r.length+1<=base->∃ v n',both (marks8.getD a.toNat []) x n=some v/\Tp.I64 v/\n'<=2/\(r.length≠10000->wr base many 0 W' c=some (some (n',none,{ c with st:=v :: r })))):Win nv [⟨1,n,b⟩,⟨9,a,b'⟩] W' nx:=ye fun base many c hc=>by
 rw[wr,ws1]
 refine zO fun h=>?_
 rw[wr,ws9]
 refine zE fun m r hr hb=>?_
 obtain⟨rfl,rfl⟩:n=m/\c.st=r:=by simpa using hr
 refine zE fun x r hr2 hb2=>?_
 have hr2:c.st=x :: r:=hr2
 obtain⟨v,n',h1,h4,h2,h3⟩:=hW base many c x r hc hr2 hb2
 rw[h1]
 simp only
 exact zO fun h5=>yK (hc.with (jk h4 (hc.tail hr2).2)) h2 (h3 h5)
theorem r_do_id {nv:Nat}{nx:Option Nat}{n a b b':Int}(h:∀ x,Tp.I64 x->both (marks8.getD a.toNat []) x n=some x):Win nv [⟨1,n,b⟩,⟨9,a,b'⟩] [] nx:=kU fun base many c x r hc hr hb=>⟨x,0,h x (hc.tail hr).1,(hc.tail hr).1,by omega,fun _=>by rw[wr,cf_eta c hr]⟩
theorem r_do_neg {nv:Nat}{nx:Option Nat}{n a b b':Int}(h:∀ x,Tp.I64 x->both (marks8.getD a.toNat []) x n=some (w64 (-x))):Win nv [⟨1,n,b⟩,⟨9,a,b'⟩] [⟨10,0,0⟩] nx:=kU fun base many c x r hc hr hb=>⟨w64 (-x),1,h x (hc.tail hr).1,Tp.w64_in _,by omega,fun hl=>by
 rw[wr,ws10,zS hr hb,kt hl]
 rfl⟩
theorem r_do_not {nv:Nat}{nx:Option Nat}{n a b b':Int}(h:∀ x,Tp.I64 x->both (marks8.getD a.toNat []) x n=some (if x=0 then 1 else 0)):Win nv [⟨1,n,b⟩,⟨9,a,b'⟩] [⟨11,0,0⟩] nx:=kU fun base many c x r hc hr hb=>⟨_,1,h x (hc.tail hr).1,by unfold Tp.I64;split <;> omega,by omega,fun hl=>by
 rw[wr,ws11,zS hr hb,kt hl]
 rfl⟩
theorem r_do_nots {nv:Nat}{nx:Option Nat}{n a b b':Int}(h:∀ x,Tp.I64 x->both (marks8.getD a.toNat []) x n=some (if x=0 then 0 else 1)):Win nv [⟨1,n,b⟩,⟨9,a,b'⟩] [⟨11,0,0⟩,⟨11,0,0⟩] nx:=kU fun base many c x r hc hr hb=>⟨_,2,h x (hc.tail hr).1,by unfold Tp.I64;split <;> omega,by omega,fun hl=>by
 rw[wr,ws11,zS hr hb,kt hl]
 show wr base many 1 [⟨11,0,0⟩] { c with st:=(if x=0 then 1 else 0) :: r }=_
 rw[wr,ws11,zS (c:={ c with st:=(if x=0 then 1 else 0) :: r }) rfl hb,kt hl]
 by_cases q:x=0
 ·simp[q,wr,bnd]
 ·simp[q,wr,bnd]⟩
theorem both_add0 (x:Int) (h:Tp.I64 x):both (marks8.getD (0:Int).toNat []) x 0=some x:=by
 rw[show marks8.getD (0:Int).toNat []=mPlus from rfl,Tp.both_plus,Int.add_zero,Tp.w64_id h]
theorem both_sub0 (x:Int) (h:Tp.I64 x):both (marks8.getD (1:Int).toNat []) x 0=some x:=by
 rw[show marks8.getD (1:Int).toNat []=mMinus from rfl,Tp.both_minus,Int.sub_zero,Tp.w64_id h]
theorem both_mul1 (x:Int) (h:Tp.I64 x):both (marks8.getD (2:Int).toNat []) x 1=some x:=by
 rw[show marks8.getD (2:Int).toNat []=mStar from rfl,Tp.both_star,Int.mul_one,Tp.w64_id h]
theorem both_div1 (x:Int) (h:Tp.I64 x):both (marks8.getD (3:Int).toNat []) x 1=some x:=by
 rw[show marks8.getD (3:Int).toNat []=wDiv from rfl,Tp.both_div,if_neg (by decide),Int.fdiv_one,Tp.w64_id h]
theorem both_mulm (x:Int):both (marks8.getD (2:Int).toNat []) x (-1)=some (w64 (-x)):=by
 rw[show marks8.getD (2:Int).toNat []=mStar from rfl,Tp.both_star,Int.mul_neg,Int.mul_one]
theorem both_divm (x:Int):both (marks8.getD (3:Int).toNat []) x (-1)=some (w64 (-x)):=by
 have e:x.fdiv (-1)=-x:=by
  have h2:=Int.fmod_add_mul_fdiv x (-1)
  have h3:(-x).fmod (-(-1))=- x.fmod (-1):=Int.neg_fmod_neg x (-1)
  have h4:=Int.fmod_nonneg_of_pos (-x) (b:=-(-1)) (by decide)
  have h5:=Int.fmod_lt_of_pos (-x) (b:=-(-1)) (by decide)
  omega
 rw[show marks8.getD (3:Int).toNat []=wDiv from rfl,Tp.both_div,if_neg (by decide),e]
theorem both_eq0 (x:Int):both (marks8.getD (5:Int).toNat []) x 0=some (if x=0 then 1 else 0):=by
 rw[show marks8.getD (5:Int).toNat []=mEq from rfl,Tp.both_eq]
 rfl
theorem both_ne0 (x:Int):both (marks8.getD (6:Int).toNat []) x 0=some (if x=0 then 0 else 1):=by
 rw[show marks8.getD (6:Int).toNat []=mNe from rfl,Tp.both_ne]
 unfold b01
 by_cases q:x=0 <;> simp[q]
theorem w64_negneg (x:Int) (h:Tp.I64 x):w64 (-(w64 (-x)))=x:=by
 unfold Tp.I64 at h
 unfold w64
 omega
theorem xt (x:Int) (h:Tp.I64 x):w64 (-x)=0↔x=0:=by
 unfold Tp.I64 at h
 unfold w64
 omega
theorem r_neg_neg (nv:Nat) (nx:Option Nat) (a b a' b':Int):Win nv [⟨10,a,b⟩,⟨10,a',b'⟩] [] nx:=ye fun base many c hc=>by
 rw[wr,ws10]
 refine zE fun x r hr hb=>zO fun h=>?_
 rw[wr,ws10]
 refine zE fun m r2 hr2 hb2=>zO fun h2=>?_
 obtain⟨rfl,rfl⟩:w64 (-x)=m/\r=r2:=by simpa using hr2
 rw[w64_negneg x (hc.tail hr).1]
 exact yK (n':=0) (by exact hc.with (l:=x :: r) (hr ▸ hc.st)) (by omega) (by rw[wr,cf_eta c hr])
theorem r_neg_pop (nv:Nat) (nx:Option Nat) (a b a' b':Int):Win nv [⟨10,a,b⟩,⟨2,a',b'⟩] [⟨2,a',b'⟩] nx:=ye fun base many c hc=>by
 rw[wr,ws10]
 refine zE fun x r hr hb=>zO fun h=>?_
 rw[wr,ws2]
 refine zE fun m r2 hr2 hb2=>?_
 obtain⟨_,rfl⟩:w64 (-x)=m/\r=r2:=by simpa using hr2
 exact yK (hc.with (hc.tail hr).2) (n':=1) (by omega) (by rw[wr,ws2,zS hr hb];rfl)
theorem r_neg_not (nv:Nat) (nx:Option Nat) (a b a' b':Int):Win nv [⟨10,a,b⟩,⟨11,a',b'⟩] [⟨11,a',b'⟩] nx:=ye fun base many c hc=>by
 rw[wr,ws10]
 refine zE fun x r hr hb=>zO fun h=>?_
 rw[wr,ws11]
 refine zE fun m r2 hr2 hb2=>zO fun h2=>?_
 obtain⟨rfl,rfl⟩:w64 (-x)=m/\r=r2:=by simpa using hr2
 have e:(if w64 (-x)=0 then (1:Int) else 0)=if x=0 then 1 else 0:=by simp only [xt x (hc.tail hr).1]
 rw[e]
 exact yK (hc.with (jk (by unfold Tp.I64;split <;> omega) (hc.tail hr).2)) (n':=1) (by omega) (by rw[wr,ws11,zS hr hb,kt h2];rfl)
theorem r_neg_else (nv:Nat) (nx:Option Nat) (a b a' b':Int):Win nv [⟨10,a,b⟩,⟨13,a',b'⟩] [⟨13,a',b'⟩] nx:=ye fun base many c hc=>by
 rw[wr,ws10]
 refine zE fun x r hr hb=>zO fun h=>?_
 rw[wr,ws13]
 refine zE fun m r2 hr2 hb2=>?_
 obtain⟨rfl,rfl⟩:w64 (-x)=m/\r=r2:=by simpa using hr2
 have hok:=hc.with (hc.tail hr).2
 by_cases q:x=0
 ·rw[if_pos ((xt x (hc.tail hr).1).2 q)]
  exact⟨hok,1,some a'.toNat,by omega,by rw[wr,ws13,zS hr hb,if_pos q];rfl,Or.inl rfl⟩
 ·rw[if_neg fun e=>q ((xt x (hc.tail hr).1).1 e)]
  exact⟨hok,1,none,by omega,by rw[wr,ws13,zS hr hb,if_neg q];rfl,Or.inl rfl⟩
theorem w64_addneg (x y:Int):w64 (x+w64 (-y))=w64 (x - y):=by unfold w64;omega
theorem w64_subneg (x y:Int):w64 (x - w64 (-y))=w64 (x+y):=by unfold w64;omega
theorem r_neg_do {nv:Nat}{nx:Option Nat}{a b k k' b' b2:Int}(h:∀ x y,∃ v,both (marks8.getD k.toNat []) x (w64 (-y))=some v/\both (marks8.getD k'.toNat []) x y=some v/\Tp.I64 v):Win nv [⟨10,a,b⟩,⟨9,k,b'⟩] [⟨9,k',b2⟩] nx:=ye fun base many c hc=>by
 rw[wr,ws10]
 refine zE fun y r hr hb=>zO fun hl=>?_
 rw[wr,ws9]
 refine zE fun m r2 hr2 hb2=>?_
 obtain⟨rfl,rfl⟩:w64 (-y)=m/\r=r2:=by simpa using hr2
 refine zE fun x r3 hr3 hb3=>?_
 have hr3:r=x :: r3:=hr3
 obtain⟨v,h1,h2,h3⟩:=h x y
 rw[h1]
 simp only
 refine zO fun h5=>yK (n':=1) (hc.with (jk h3 fun z hz=>(hc.tail hr).2 z (by rw[hr3];exact List.mem_cons_of_mem _ hz))) (by omega) ?_
 rw[wr,ws9,zS hr hb,zS (c:={ c with st:=r }) hr3 hb3,h2]
 simp only
 rw[kt h5]
 rfl
theorem neg_add (x y:Int):∃ v,both (marks8.getD (0:Int).toNat []) x (w64 (-y))=some v/\both (marks8.getD (1:Int).toNat []) x y=some v/\Tp.I64 v:=by
 rw[show marks8.getD (0:Int).toNat []=mPlus from rfl,show marks8.getD (1:Int).toNat []=mMinus from rfl,Tp.both_plus,Tp.both_minus,w64_addneg]
 exact⟨_,rfl,rfl,Tp.w64_in _⟩
theorem neg_sub (x y:Int):∃ v,both (marks8.getD (1:Int).toNat []) x (w64 (-y))=some v/\both (marks8.getD (0:Int).toNat []) x y=some v/\Tp.I64 v:=by
 rw[show marks8.getD (0:Int).toNat []=mPlus from rfl,show marks8.getD (1:Int).toNat []=mMinus from rfl,Tp.both_plus,Tp.both_minus,w64_subneg]
 exact⟨_,rfl,rfl,Tp.w64_in _⟩
theorem r_load_pop (nv:Nat) (nx:Option Nat) (a b a' b':Int):Win nv [⟨3,a,b⟩,⟨2,a',b'⟩] [] nx:=ye fun base many c hc=>by
 rw[wr,ws3]
 by_cases q:(many:Int)<=a
 ·rw[if_pos q];trivial
 rw[if_neg q]
 refine zO fun h=>?_
 rw[wr,ws2]
 refine zE fun m r hr hb=>?_
 obtain⟨_,rfl⟩:_=m/\c.st=r:=by simpa using hr
 exact yK (n':=0) hc (by omega) rfl
theorem CfOk.var {nv:Nat}{c:Cf}(h:CfOk nv c) {i:Nat}(hi:i<nv):0<(c.vs.getD i []).length/\Nm (c.vs.getD i []):=by
 have hl:i<c.vs.length:=by rw[h.vl];exact hi
 simp only [List.getD,List.getElem?_eq_getElem hl,Option.getD_some]
 obtain⟨h1,h2⟩:=h.vs _ (List.getElem_mem hl)
 exact⟨List.length_pos_iff.2 h1,h2⟩
theorem ws5 (base many:Nat) {a b:Int}{c:Cf}(hb:b<0) (hl:0<(c.vs.getD a.toNat []).length):wstep base many ⟨5,a,b⟩ c=wput ((c.vs.getD a.toNat []).getD 0 0) c:=by
 unfold wstep
 simp only [show ¬((5:Int)=1) by decide,show ¬((5:Int)=2) by decide,show ¬((5:Int)=3) by decide,show ¬((5:Int)=4) by decide,if_false]
 rw[if_pos ⟨trivial,hb,hl⟩]
theorem ws6 (base many:Nat) {a b:Int}{c:Cf}(hl:0<(c.vs.getD a.toNat []).length):wstep base many ⟨6,a,b⟩ c=wtake base c fun n c=>some (some (none,{ c with vs:=c.vs.set a.toNat ((c.vs.getD a.toNat []).set 0 n) })):=by
 unfold wstep
 simp only [show ¬((6:Int)=1) by decide,show ¬((6:Int)=2) by decide,show ¬((6:Int)=3) by decide,show ¬((6:Int)=4) by decide,show ¬((6:Int)=5) by decide,if_false,false_and]
 rw[if_pos ⟨trivial,hl⟩]
theorem r_get_pop {nv:Nat}{nx:Option Nat}{a b a' b':Int}(hb:b<0) (ha:a.toNat<nv):Win nv [⟨5,a,b⟩,⟨2,a',b'⟩] [] nx:=ye fun base many c hc=>by
 rw[wr,ws5 base many hb (hc.var ha).1]
 refine zO fun h=>?_
 rw[wr,ws2]
 refine zE fun m r hr hb'=>?_
 obtain⟨_,rfl⟩:_=m/\c.st=r:=by simpa using hr
 exact yK (n':=0) hc (by omega) rfl
theorem r_not_pop (nv:Nat) (nx:Option Nat) (a b a' b':Int):Win nv [⟨11,a,b⟩,⟨2,a',b'⟩] [⟨2,0,0⟩] nx:=ye fun base many c hc=>by
 rw[wr,ws11]
 refine zE fun x r hr hb=>zO fun h=>?_
 rw[wr,ws2]
 refine zE fun m r2 hr2 hb2=>?_
 obtain⟨_,rfl⟩:_=m/\r=r2:=by simpa using hr2
 exact yK (hc.with (hc.tail hr).2) (n':=1) (by omega) (by rw[wr,ws2,zS hr hb];rfl)
theorem r_do_pop {nv:Nat}{nx:Option Nat}{k b a' b':Int}(h1:marks8.getD k.toNat []≠wDiv) (h2:marks8.getD k.toNat []≠wMod):Win nv [⟨9,k,b⟩,⟨2,a',b'⟩] [⟨2,0,0⟩,⟨2,0,0⟩] nx:=ye fun base many c hc=>by
 rw[wr,ws9]
 refine zE fun y r hr hb=>zE fun x r2 hr2 hb2=>?_
 have hr2:r=x :: r2:=hr2
 obtain⟨v,hv⟩:=xp (marks8.getD k.toNat []) x y h1 h2
 rw[hv]
 simp only
 refine zO fun h=>?_
 rw[wr,ws2]
 refine zE fun m r3 hr3 hb3=>?_
 obtain⟨_,rfl⟩:v=m/\r2=r3:=by simpa using hr3
 refine yK (hc.with fun z hz=>(hc.tail hr).2 z (by rw[hr2];exact List.mem_cons_of_mem _ hz)) (n':=2) (by omega) ?_
 rw[wr,ws2,zS hr hb]
 show wr base many 1 [⟨2,0,0⟩] { c with st:=r }=_
 rw[wr,ws2,zS (c:={ c with st:=r }) hr2 hb2]
 rfl
def Opp (k k':Int):Prop:=∀ x y,Tp.I64 x->Tp.I64 y->∃ v,both (marks8.getD k.toNat []) x y=some v/\both (marks8.getD k'.toNat []) x y=some (if v=0 then 1 else 0)
theorem jq (p q:Prop) [Decidable p] [Decidable q] (h:q↔¬p):b01 q=if b01 p=0 then 1 else 0:=by
 unfold b01
 by_cases hp:p
 ·rw[if_pos hp,if_neg (fun hq=>h.1 hq hp),if_neg (by decide)]
 ·rw[if_neg hp,if_pos (h.2 hp),if_pos rfl]
theorem opp_eq:Opp 5 6:=fun x y _ _=>⟨_,Tp.both_eq x y,by rw[show marks8.getD (6:Int).toNat []=mNe from rfl,Tp.both_ne,jq (x=y) (x≠y) Iff.rfl]⟩
theorem opp_ne:Opp 6 5:=fun x y _ _=>⟨_,Tp.both_ne x y,by rw[show marks8.getD (5:Int).toNat []=mEq from rfl,Tp.both_eq,jq (x≠y) (x=y) (by omega)]⟩
theorem opp_lt:Opp 7 10:=fun x y _ _=>⟨_,Tp.both_lt x y,by rw[show marks8.getD (10:Int).toNat []=mGe from rfl,Tp.both_ge,jq (x<y) (x ≥ y) (by omega)]⟩
theorem opp_le:Opp 8 9:=fun x y _ _=>⟨_,Tp.both_le x y,by rw[show marks8.getD (9:Int).toNat []=mGt from rfl,Tp.both_gt,jq (x<=y) (x > y) (by omega)]⟩
theorem opp_gt:Opp 9 8:=fun x y _ _=>⟨_,Tp.both_gt x y,by rw[show marks8.getD (8:Int).toNat []=mLe from rfl,Tp.both_le,jq (x > y) (x<=y) (by omega)]⟩
theorem opp_ge:Opp 10 7:=fun x y _ _=>⟨_,Tp.both_ge x y,by rw[show marks8.getD (7:Int).toNat []=mLt from rfl,Tp.both_lt,jq (x ≥ y) (x<y) (by omega)]⟩
theorem w64_sub0 (x y:Int) (hx:Tp.I64 x) (hy:Tp.I64 y):w64 (x - y)=0↔x=y:=by
 unfold Tp.I64 at hx hy
 unfold w64
 omega
theorem opp_sub:Opp 1 5:=fun x y hx hy=>⟨_,Tp.both_minus x y,by
 rw[show marks8.getD (5:Int).toNat []=mEq from rfl,Tp.both_eq]
 unfold b01
 by_cases q:x=y
 ·rw[if_pos q,if_pos ((w64_sub0 x y hx hy).2 q)]
 ·rw[if_neg q,if_neg fun e=>q ((w64_sub0 x y hx hy).1 e)]⟩
theorem r_do_not2 {nv:Nat}{nx:Option Nat}{k k' b a' b' b2:Int}(h:Opp k k'):Win nv [⟨9,k,b⟩,⟨11,a',b'⟩] [⟨9,k',b2⟩] nx:=ye fun base many c hc=>by
 rw[wr,ws9]
 refine zE fun y r hr hb=>zE fun x r2 hr2 hb2=>?_
 have hr2:r=x :: r2:=hr2
 obtain⟨hy,hnr⟩:=hc.tail hr
 obtain⟨v,h1,h2⟩:=h x y (hnr x (by rw[hr2];exact List.mem_cons_self)) hy
 rw[h1]
 simp only
 refine zO fun hl=>?_
 rw[wr,ws11]
 refine zE fun m r3 hr3 hb3=>zO fun hl2=>?_
 obtain⟨rfl,rfl⟩:v=m/\r2=r3:=by simpa using hr3
 refine yK (hc.with (jk (by unfold Tp.I64;split <;> omega) fun z hz=>hnr z (by rw[hr2];exact List.mem_cons_of_mem _ hz))) (n':=1) (by omega) ?_
 rw[wr,ws9,zS hr hb,zS (c:={ c with st:=r }) hr2 hb2,h2]
 simp only
 rw[kt hl2]
 rfl
theorem kR (l:List Int) (i:Nat):l.set i (l.getD i 0)=l:=by
 by_cases h:i<l.length
 ·simp only [List.getD,List.getElem?_eq_getElem h,Option.getD_some,List.set_getElem_self]
 ·rw[List.set_eq_of_length_le (by omega)]
theorem jP (l:List (List Int)) (i:Nat):l.set i (l.getD i [])=l:=by
 by_cases h:i<l.length
 ·simp only [List.getD,List.getElem?_eq_getElem h,Option.getD_some,List.set_getElem_self]
 ·rw[List.set_eq_of_length_le (by omega)]
theorem vo (nv:Nat) (nx:Option Nat) (a b b':Int):Win nv [⟨3,a,b⟩,⟨4,a,b'⟩] [] nx:=ye fun base many c hc=>by
 rw[wr,ws3]
 by_cases q:(many:Int)<=a
 ·rw[if_pos q];trivial
 rw[if_neg q]
 refine zO fun h=>?_
 rw[wr,ws4,if_neg q]
 refine zE fun m r hr hb=>?_
 obtain⟨rfl,rfl⟩:c.lo.getD a.toNat 0=m/\c.st=r:=by simpa using hr
 have e:({ { { c with st:=c.lo.getD a.toNat 0 :: c.st } with st:=c.st } with lo:=c.lo.set a.toNat (c.lo.getD a.toNat 0) }:Cf)=c:=by rw[kR]
 show Ok8 nv base many [] c nx (some (some (2,none,{ { { c with st:=c.lo.getD a.toNat 0 :: c.st } with st:=c.st } with lo:=c.lo.set a.toNat (c.lo.getD a.toNat 0) })))
 rw[e]
 exact yK (n':=0) hc (by omega) rfl
theorem r_get_put {nv:Nat}{nx:Option Nat}{a b b':Int}(hb:b<0) (ha:a.toNat<nv):Win nv [⟨5,a,b⟩,⟨6,a,b'⟩] [] nx:=ye fun base many c hc=>by
 have hv:=(hc.var ha).1
 rw[wr,ws5 base many hb hv]
 refine zO fun h=>?_
 rw[wr,ws6 base many (c:={ c with st:=(c.vs.getD a.toNat []).getD 0 0 :: c.st }) hv]
 refine zE fun m r hr hb'=>?_
 obtain⟨rfl,rfl⟩:(c.vs.getD a.toNat []).getD 0 0=m/\c.st=r:=by simpa using hr
 have e:({ { { c with st:=(c.vs.getD a.toNat []).getD 0 0 :: c.st } with st:=c.st } with vs:=c.vs.set a.toNat ((c.vs.getD a.toNat []).set 0 ((c.vs.getD a.toNat []).getD 0 0)) }:Cf)=c:=by rw[kR,jP]
 show Ok8 nv base many [] c nx (some (some (2,none,{ { { c with st:=(c.vs.getD a.toNat []).getD 0 0 :: c.st } with st:=c.st } with vs:=c.vs.set a.toNat ((c.vs.getD a.toNat []).set 0 ((c.vs.getD a.toNat []).getD 0 0)) })))
 rw[e]
 exact yK (n':=0) hc (by omega) rfl
theorem jQ {nv:Nat}{nx:Option Nat}{x y v k b b' b2:Int}(hy:Tp.I64 y) (h:both (marks8.getD k.toNat []) x y=some v):Win nv [⟨1,x,b⟩,⟨1,y,b'⟩,⟨9,k,b2⟩] [⟨1,v,0⟩] nx:=ye fun base many c hc=>by
 rw[wr,ws1]
 refine zO fun hl=>?_
 rw[wr,ws1]
 refine zO fun hl2=>?_
 rw[wr,ws9]
 refine zE fun m r hr hb=>zE fun m2 r2 hr2 hb2=>?_
 obtain⟨rfl,rfl⟩:y=m/\x :: c.st=r:=by simpa using hr
 obtain⟨rfl,rfl⟩:x=m2/\c.st=r2:=by simpa using hr2
 rw[h]
 simp only
 refine zO fun hl3=>yK (hc.with (l:=v :: c.st) (jk (jp hy h) hc.st)) (n':=1) (by omega) ?_
 rw[wr,ws1,kt hl]
 rfl
theorem r_not3 (nv:Nat) (nx:Option Nat) (a b a' b' a2 b2:Int):Win nv [⟨11,a,b⟩,⟨11,a',b'⟩,⟨11,a2,b2⟩] [⟨11,a2,b2⟩] nx:=ye fun base many c hc=>by
 rw[wr,ws11]
 refine zE fun x r hr hb=>zO fun hl=>?_
 rw[wr,ws11]
 refine zE fun m r2 hr2 hb2=>zO fun hl2=>?_
 obtain⟨rfl,rfl⟩:=List.cons.inj hr2
 rw[wr,ws11]
 refine zE fun m r3 hr3 hb3=>zO fun hl3=>?_
 obtain⟨rfl,rfl⟩:=List.cons.inj hr3
 have e:(if (if (if x=0 then (1:Int) else 0)=0 then (1:Int) else 0)=0 then (1:Int) else 0)=if x=0 then 1 else 0:=by by_cases q:x=0 <;> simp[q]
 rw[e]
 refine yK (hc.with (jk (by unfold Tp.I64;split <;> omega) (hc.tail hr).2)) (n':=1) (by omega) ?_
 rw[wr,ws11,zS hr hb,kt hl3]
 rfl
theorem jR (nv:Nat) (nx:Option Nat) (a b a' b' a2 b2:Int):Win nv [⟨11,a,b⟩,⟨11,a',b'⟩,⟨13,a2,b2⟩] [⟨13,a2,b2⟩] nx:=ye fun base many c hc=>by
 rw[wr,ws11]
 refine zE fun x r hr hb=>zO fun hl=>?_
 rw[wr,ws11]
 refine zE fun m r2 hr2 hb2=>zO fun hl2=>?_
 obtain⟨rfl,rfl⟩:=List.cons.inj hr2
 rw[wr,ws13]
 refine zE fun m r3 hr3 hb3=>?_
 obtain⟨rfl,rfl⟩:=List.cons.inj hr3
 have hok:=hc.with (hc.tail hr).2
 by_cases q:x=0
 ·simp only [q,if_true]
  exact⟨hok,1,some a2.toNat,by omega,by rw[wr,ws13,zS hr hb,if_pos q];rfl,Or.inl rfl⟩
 ·simp only [q,if_false,if_true]
  exact⟨hok,1,none,by omega,by rw[wr,ws13,zS hr hb,if_neg q];rfl,Or.inl rfl⟩
theorem vV {nv:Nat}{nx:Option Nat}{k k' b b' b2 A c' b3 b4:Int}(h:Opp k k') (hn:nx=some c'.toNat):Win nv [⟨9,k,b⟩,⟨13,c',b'⟩,⟨12,A,b2⟩] [⟨9,k',b3⟩,⟨13,A,b4⟩] nx:=ye fun base many c hc=>by
 rw[wr,ws9]
 refine zE fun y r hr hb=>zE fun x r2 hr2 hb2=>?_
 have hr2:r=x :: r2:=hr2
 obtain⟨hy,hnr⟩:=hc.tail hr
 obtain⟨v,h1,h2⟩:=h x y (hnr x (by rw[hr2];exact List.mem_cons_self)) hy
 rw[h1]
 simp only
 refine zO fun hl=>?_
 rw[wr,ws13]
 refine zE fun m r3 hr3 hb3=>?_
 obtain⟨rfl,rfl⟩:v=m/\r2=r3:=by simpa using hr3
 have hok:=hc.with (l:=r2) fun z hz=>hnr z (by rw[hr2];exact List.mem_cons_of_mem _ hz)
 have hw:wr base many 0 [⟨9,k',b3⟩,⟨13,A,b4⟩] c=bnd 1 (if (if v=0 then (1:Int) else 0)=0 then some (some (some A.toNat,{ c with st:=r2 })) else some (some (none,{ c with st:=r2 }))) fun c=>wr base many 2 [] c:=by
  rw[wr,ws9,zS hr hb,zS (c:={ c with st:=r }) hr2 hb2,h2]
  simp only
  rw[kt hl]
  show wr base many 1 [⟨13,A,b4⟩] { c with st:=(if v=0 then (1:Int) else 0) :: r2 }=_
  rw[wr,ws13,zS (c:={ c with st:=(if v=0 then (1:Int) else 0) :: r2 }) rfl hb2]
 by_cases q:v=0
 ·rw[if_pos q]
  refine⟨hok,2,none,by omega,?_,Or.inr ⟨rfl,by rw[hn],rfl⟩⟩
  rw[hw]
  simp only [q,if_true]
  rfl
 ·rw[if_neg q]
  show Ok8 nv base many _ c nx (wr base many 2 [⟨12,A,b2⟩] { c with st:=r2 })
  rw[wr,ws12]
  refine⟨hok,2,some A.toNat,by omega,?_,Or.inl rfl⟩
  rw[hw]
  simp only [q,if_false,if_true]
  rfl
theorem vj {nv:Nat}{nx:Option Nat}{a b b' b2 A c' b4:Int}(hn:nx=some c'.toNat):Win nv [⟨11,a,b⟩,⟨13,c',b'⟩,⟨12,A,b2⟩] [⟨13,A,b4⟩] nx:=ye fun base many c hc=>by
 rw[wr,ws11]
 refine zE fun x r hr hb=>zO fun hl=>?_
 rw[wr,ws13]
 refine zE fun m r3 hr3 hb3=>?_
 obtain⟨rfl,rfl⟩:=List.cons.inj hr3
 have hok:=hc.with (hc.tail hr).2
 by_cases q:x=0
 ·simp only [q,if_true]
  show Ok8 nv base many _ c nx (wr base many 2 [⟨12,A,b2⟩] { c with st:=r })
  rw[wr,ws12]
  exact⟨hok,1,some A.toNat,by omega,by rw[wr,ws13,zS hr hb,if_pos q];rfl,Or.inl rfl⟩
 ·simp only [q,if_false,if_true]
  exact⟨hok,1,none,by omega,by rw[wr,ws13,zS hr hb,if_neg q];rfl,Or.inr ⟨rfl,by rw[hn],rfl⟩⟩
end Vm

namespace Vm
open Ob (O In)
open Tp (Bs both w64)
theorem exec_end {o p:O}{P:Nat->Nat->Prop}{most:Nat}{s t:St}(hb:Rb o p s t) {f g:Fr}{fs gs:List Fr}{x:In}(hx:x.op=15\/x.op=17) (hbs:g.base=f.base) (hfs:FrR o.name P fs gs) {q1 q2:Pl} :
  Rl o p P (exec most f fs q1 x (Vm.going f fs s)) (exec most g gs q2 x (Vm.going g gs t)):=by
 have hbase:Rb o p (Vm.going f fs s) (Vm.going g gs t):=⟨hb.way,hb.out,hb.stk,hb.th,hb.nm⟩
 obtain⟨op,a,b⟩:=x
 have hx:op=15\/op=17:=hx
 rcases hx with rfl|rfl
 ·show Rl o p P (leave f.base (Vm.going f fs s)) (leave g.base (Vm.going g gs t))
  rw[hbs]
  unfold leave
  refine hbase.taken fun n s' t' h hn hs ht=>?_
  have f1:s'.frames=f :: fs:=hs.2.1
  have f2:t'.frames=g :: gs:=ht.2.1
  rw[f1,f2]
  dsimp only
  have hst:Rb o p { s' with stack:=n :: s'.stack.drop (s'.stack.length - f.base) } { t' with stack:=n :: t'.stack.drop (t'.stack.length - f.base) }:=⟨h.way,h.out,by rw[h.stk],h.th,fun v hv=>by
   rcases List.mem_cons.1 hv with rfl|hv
   ·exact hn
   ·exact h.nm v (List.mem_of_mem_drop hv)⟩
  have hlen:=hfs.len
  by_cases hz:fs=[]
  ·have hz':gs=[]:=List.eq_nil_of_length_eq_zero (by rw[hlen,hz];rfl)
   rw[if_pos hz,if_pos hz']
   exact⟨⟨rfl,hst.out,hst.stk,hst.th,hst.nm⟩,fun q=>absurd (show (1:Nat)=0 from q) (by decide)⟩
  ·have hz':¬gs=[]:=fun e=>hz (List.eq_nil_of_length_eq_zero (by rw[<-hlen,e];rfl))
   rw[if_neg hz,if_neg hz']
   exact⟨⟨hst.way,hst.out,hst.stk,hst.th,hst.nm⟩,fun _=>hfs⟩
 ·exact Rl.ended hbase (by decide)
theorem end3_atw {o:O}{pre post:List In}{lb lb':Nat->Nat}{a b b':Int}{z:In}(ha:a.toNat<10) (hz:z.op=15\/z.op=17) :
  AtW (H o (pre++[⟨4,a,b⟩,⟨3,a,b'⟩,z]++post) lb) (H o (pre++[z]++post) lb') (Pw pre.length 3 1) pre.length:=by
 intro most s t f g fs gs hR hw hf hg k1 k2 heq hg'
 obtain⟨k,hk⟩:∃ k,k=pre.length:=⟨_,rfl⟩
 rw[<-hk]at hR k1 k2 heq hg' ⊢
 obtain⟨vv,t1,t2,hS⟩:=hR.b.th
 have hzl:∀ lb,rl lb z=z:=fun lb=>rl_a lb z (by omega) (by omega)
 have c0:(pre++[⟨4,a,b⟩,⟨3,a,b'⟩,z]++post)[k]?=some ⟨4,a,b⟩:=by rw[List.append_assoc,List.getElem?_append_right (by omega),hk,Nat.sub_self];rfl
 have c1:(pre++[⟨4,a,b⟩,⟨3,a,b'⟩,z]++post)[k+1]?=some ⟨3,a,b'⟩:=by rw[List.append_assoc,List.getElem?_append_right (by omega),show k+1 - pre.length=1 by omega];rfl
 have c2:(pre++[⟨4,a,b⟩,⟨3,a,b'⟩,z]++post)[k+2]?=some z:=by rw[List.append_assoc,List.getElem?_append_right (by omega),show k+2 - pre.length=2 by omega];rfl
 have d0:(pre++[z]++post)[k]?=some z:=by rw[List.append_assoc,List.getElem?_append_right (by omega),hk,Nat.sub_self];rfl
 have hwt:t.way=0:=hR.b.way.trans hw
 obtain⟨c,hc⟩:∃ c,c=(⟨s.stack,f.locals,vv⟩:Cf):=⟨_,rfl⟩
 have es:cfs (H o (pre++[⟨4,a,b⟩,⟨3,a,b'⟩,z]++post) lb) s f fs k c=s:=by rw[hc,<-heq];exact xN hf t1
 have r1:=jv (o:=H o (pre++[⟨4,a,b⟩,⟨3,a,b'⟩,z]++post) lb) (most:=most) (s:=s) (f:=f) (fs:=fs) (lb:=lb) k1.a hw [⟨4,a,b⟩,⟨3,a,b'⟩] k c fun j h=>by
  match j,h with
  | 0,_=>exact H_at c0
  | 1,_=>exact H_at c1
 have hrun:wrun f.base f.many [⟨4,a,b⟩,⟨3,a,b'⟩] c=none\/∃ lo',wrun f.base f.many [⟨4,a,b⟩,⟨3,a,b'⟩] c=some (some (2,none,{ c with lo:=lo' })):=by
  rw[vJ,wr,ws4]
  by_cases q:(f.many:Int)<=a
  ·rw[if_pos q];exact Or.inl rfl
  rw[if_neg q]
  unfold wtake
  cases hst:c.st with
  | nil=>exact Or.inl rfl
  | cons n r =>
   simp only
   by_cases q2:r.length+1<=f.base
   ·rw[if_pos q2];exact Or.inl rfl
   rw[if_neg q2]
   show wr f.base f.many 1 [⟨3,a,b'⟩] (⟨r,c.lo.set a.toNat n,c.vs⟩:Cf)=none\/∃ lo',wr f.base f.many 1 [⟨3,a,b'⟩] (⟨r,c.lo.set a.toNat n,c.vs⟩:Cf)=some (some (2,none,(⟨n :: r,lo',c.vs⟩:Cf)))
   rw[wr,ws3,if_neg q]
   have hlo:(c.lo.set a.toNat n).getD a.toNat 0=n:=by
    have:a.toNat<c.lo.length:=by rw[hc];show a.toNat<f.locals.length;rw[k1.l];exact ha
    simp only [List.getD,List.getElem?_set_self this,Option.getD_some]
   have hp:wput ((c.lo.set a.toNat n).getD a.toNat 0) (⟨r,c.lo.set a.toNat n,c.vs⟩:Cf)=if r.length=10000 then none else some (some (none,(⟨n :: r,c.lo.set a.toNat n,c.vs⟩:Cf))):=by rw[hlo];rfl
   rw[hp]
   by_cases q3:r.length=10000
   ·rw[if_pos q3];exact Or.inl rfl
   ·rw[if_neg q3]
    exact Or.inr ⟨c.lo.set a.toNat n,rfl⟩
 rcases hrun with q|⟨lo',q⟩
 ·rw[q]at r1
  have r1:∃ m,Bad (run most m (cfs (H o (pre++[⟨4,a,b⟩,⟨3,a,b'⟩,z]++post) lb) s f fs k c)).way:=r1
  rw[es]at r1
  exact Or.inl r1
 ·rw[q]at r1
  obtain⟨a1,_,a3⟩:=r1
  rw[es]at a1 a3
  have w2:(run most 2 s).way=0:=a3 2 (Nat.le_refl _)
  refine Or.inr ⟨2+1,1,by omega,by omega,w2,?_⟩
  rw[yz,zK most w2,zK most hwt,a1]
  have e1:=yk (o:=H o (pre++[⟨4,a,b⟩,⟨3,a,b'⟩,z]++post) lb) (vv:=c.vs) (most:=most) (s:=cfs (H o (pre++[⟨4,a,b⟩,⟨3,a,b'⟩,z]++post) lb) s f fs (k+2) { c with lo:=lo' }) (f:={ f with at':=k+2,locals:=lo' }) (fs:=fs) (x:=rl lb z) rfl k1.a rfl (H_at c2)
  have e2:=yk (o:=H o (pre++[z]++post) lb') (most:=most) (x:=rl lb' z) hg k1.b t2 (by rw[hg'];exact H_at d0)
  show Rl _ _ _ (step most (cfs _ s f fs (k+2) { c with lo:=lo' })) (step most t)
  rw[e1,e2,hzl,hzl]
  refine exec_end (f:={ f with at':=k+2+1,locals:=lo' }) (g:={ g with at':=g.at'+1 }) ?_ hz k1.c k2
  refine⟨hR.b.way,hR.b.out,hR.b.stk.trans ?_,⟨vv,?_,t2,hS⟩,?_⟩
  ·rw[hc];rfl
  ·rw[hc];rfl
  ·show Nm c.st
   rw[hc]
   exact hR.b.nm
end Vm

namespace Vm
open Ob (O In)
open Tp (Bs both w64 mPlus mMinus mStar wDiv wMod mEq mNe mLt mLe mGt mGe)
def sgn (x:In):Bs:=marks8.getD x.a.toNat []
def doKnown (s:Bs) (n:Int):Option (List In) :=
 if (n=0/\(s=mPlus\/s=mMinus))\/(n=1/\(s=mStar\/s=wDiv)) then some []
 else if n=-1/\(s=mStar\/s=wDiv) then some [⟨10,0,0⟩]
 else if n=0/\s=mEq then some [⟨11,0,0⟩]
 else if n=0/\s=mNe then some [⟨11,0,0⟩,⟨11,0,0⟩]
 else none
def single8 (op n:Int):Int:=if op=10 then w64 (-n) else if n=0 then 1 else 0
def behindPush (n:Int) (y:In):Option (List In) :=
 if y.op=13/\n=0 then some [⟨12,y.a,0⟩]
 else if y.op=13\/y.op=2 then some []
 else if y.op=10\/y.op=11 then some [⟨1,single8 y.op n,0⟩]
 else if y.op=9 then doKnown (sgn y) n
 else none
def behindNeg (y:In):Option (List In) :=
 if y.op=10 then some []
 else if y.op=11\/y.op=13\/y.op=2 then some [y]
 else if y.op=9/\y.a=0/\y.b=0 then some [⟨9,1,0⟩]
 else if y.op=9/\y.a=1/\y.b=0 then some [⟨9,0,0⟩]
 else none
def aheadOfPop (x:In):Option (List In) :=
 if x.op=3\/(x.op=5/\x.b<0) then some []
 else if x.op=11 then some [⟨2,0,0⟩]
 else if x.op=9/\¬(sgn x=wDiv\/sgn x=wMod) then some [⟨2,0,0⟩,⟨2,0,0⟩]
 else none
def notOf (s:Bs):Option Int :=
 if s=mEq then some 6 else if s=mNe\/s=mMinus then some 5 else if s=mLt then some 10 else if s=mLe then some 9 else if s=mGt then some 8 else if s=mGe then some 7 else none
def two (x y:In):Option (List In) :=
 if x.op=1 then behindPush x.a y
 else if x.op=10 then behindNeg y
 else if y.op=2 then aheadOfPop x
 else if y.op=11/\x.op=9 then (notOf (sgn x)).map fun k=>[⟨9,k,0⟩]
 else if x.op=3/\y.op=4/\y.a=x.a/\y.b=0 then some []
 else if x.op=5/\x.b<0/\y.op=6/\y.a=x.a/\y.b=0 then some []
 else none
def able (x:In):Bool:=decide (x.op=11) || (decide (x.op=9) && (notOf (sgn x)).isSome)
def three (nx:Nat) (x y z:In):Option (List In) :=
 if x.op=1/\y.op=1/\z.op=9 then (both (sgn z) x.a y.a).map fun n=>[⟨1,n,0⟩]
 else if x.op=11/\y.op=11/\(z.op=11\/z.op=13) then some [z]
 else if x.op=4/\y.op=3/\y.a=x.a/\y.b=0/\(z.op=15\/z.op=17) then some [z]
 else if y.op=13/\y.a=(nx:Int)/\y.b=0/\z.op=12 then (if able x=true then some [x,⟨11,0,0⟩,⟨13,z.a,0⟩] else none)
 else none
structure OkI (nv:Nat) (x:In):Prop where
 i:Tp.I64 x.a
 g:(x.op=5/\x.b<0)\/x.op=6->x.a.toNat<nv
 l:x.op=3\/x.op=4->x.a.toNat<10
theorem ym {nv:Nat}{op a b:Int}(h:Tp.I64 a) (h1:op≠5) (h2:op≠6) (h3:op≠3) (h4:op≠4):OkI nv ⟨op,a,b⟩:=⟨h,fun q=>by
 rcases q with⟨q,_⟩|q
 ·exact absurd q h1
 ·exact absurd q h2,fun q=>by
 rcases q with q|q
 ·exact absurd q h3
 ·exact absurd q h4⟩
theorem opp_of {x:In}{k:Int}(h:notOf (sgn x)=some k):Opp x.a k:=by
 have key:∀ j:Int,sgn x=marks8.getD j.toNat []->Opp j k->Opp x.a k:=fun j e q=>by
  unfold Opp at q ⊢
  unfold sgn at e
  rw[e]
  exact q
 unfold notOf at h
 by_cases c1:sgn x=mEq
 ·rw[if_pos c1]at h;cases h;exact key 5 c1 opp_eq
 rw[if_neg c1]at h
 by_cases c2:sgn x=mNe\/sgn x=mMinus
 ·rw[if_pos c2]at h
  cases h
  rcases c2 with c2|c2
  ·exact key 6 c2 opp_ne
  ·exact key 1 c2 opp_sub
 rw[if_neg c2]at h
 by_cases c3:sgn x=mLt
 ·rw[if_pos c3]at h;cases h;exact key 7 c3 opp_lt
 rw[if_neg c3]at h
 by_cases c4:sgn x=mLe
 ·rw[if_pos c4]at h;cases h;exact key 8 c4 opp_le
 rw[if_neg c4]at h
 by_cases c5:sgn x=mGt
 ·rw[if_pos c5]at h;cases h;exact key 9 c5 opp_gt
 rw[if_neg c5]at h
 by_cases c6:sgn x=mGe
 ·rw[if_pos c6]at h;cases h;exact key 10 c6 opp_ge
 rw[if_neg c6]at h
 cases h
theorem notOf_i {s:Bs}{k:Int}(h:notOf s=some k):Tp.I64 k:=by
 unfold notOf at h
 unfold Tp.I64
 split at h
 ·cases h;omega
 split at h
 ·cases h;omega
 split at h
 ·cases h;omega
 split at h
 ·cases h;omega
 split at h
 ·cases h;omega
 split at h
 ·cases h;omega
 ·cases h
def wt (x:In):Nat:=if x.op=1\/x.op=9\/x.op=12 then 2 else 1
def wts (l:List In):Nat:=(l.map wt).sum
structure ByOk (nv:Nat) (W W':List In):Prop where
 len:W'.length<=W.length
 wt:wts W'<wts W
 ok:∀ z∈W',OkI nv z
 lab:∀ z∈W',z.op=12\/z.op=13->∃ w,W.getLast?=some w/\(w.op=12\/w.op=13)/\w.a=z.a
theorem do_win {nv:Nat}{nx:Option Nat}{n:Int}{b:Int}{y:In}(hy:y.op=9) {W':List In}(h:doKnown (sgn y) n=some W'):Win nv [⟨1,n,b⟩,y] W' nx/\ByOk nv [⟨1,n,b⟩,y] W':=by
 obtain⟨op,a,b'⟩:=y
 have hy:op=9:=hy
 subst hy
 have h0:Tp.I64 0:=by unfold Tp.I64;omega
 have hs:sgn ⟨9,a,b'⟩=marks8.getD a.toNat []:=rfl
 rw[hs]at h
 have w0:wts [⟨1,n,b⟩,⟨9,a,b'⟩]=4:=rfl
 unfold doKnown at h
 by_cases c1:(n=0/\(marks8.getD a.toNat []=mPlus\/marks8.getD a.toNat []=mMinus))\/(n=1/\(marks8.getD a.toNat []=mStar\/marks8.getD a.toNat []=wDiv))
 ·rw[if_pos c1]at h
  cases h
  refine⟨r_do_id fun x hx=>?_,⟨by simp,by rw[w0];decide,fun z hz=>(by cases hz),fun z hz=>(by cases hz)⟩⟩
  rcases c1 with⟨rfl,q|q⟩|⟨rfl,q|q⟩ <;> rw[q]
  ·exact both_add0 x hx
  ·exact both_sub0 x hx
  ·exact both_mul1 x hx
  ·exact both_div1 x hx
 rw[if_neg c1]at h
 by_cases c2:n=-1/\(marks8.getD a.toNat []=mStar\/marks8.getD a.toNat []=wDiv)
 ·rw[if_pos c2]at h
  cases h
  refine⟨r_do_neg fun x hx=>?_,⟨by simp,by rw[w0];decide,fun z hz=>?_,fun z hz hg=>?_⟩⟩
  ·obtain⟨rfl,q|q⟩:=c2 <;> rw[q]
   ·exact both_mulm x
   ·exact both_divm x
  ·obtain rfl:=List.mem_singleton.1 hz
   exact ym h0 (by decide) (by decide) (by decide) (by decide)
  ·obtain rfl:=List.mem_singleton.1 hz
   rcases hg with q|q <;> exact absurd q (by decide)
 rw[if_neg c2]at h
 by_cases c3:n=0/\marks8.getD a.toNat []=mEq
 ·rw[if_pos c3]at h
  cases h
  refine⟨r_do_not fun x hx=>?_,⟨by simp,by rw[w0];decide,fun z hz=>?_,fun z hz hg=>?_⟩⟩
  ·obtain⟨rfl,q⟩:=c3
   rw[q]
   exact both_eq0 x
  ·obtain rfl:=List.mem_singleton.1 hz
   exact ym h0 (by decide) (by decide) (by decide) (by decide)
  ·obtain rfl:=List.mem_singleton.1 hz
   rcases hg with q|q <;> exact absurd q (by decide)
 rw[if_neg c3]at h
 by_cases c4:n=0/\marks8.getD a.toNat []=mNe
 ·rw[if_pos c4]at h
  cases h
  refine⟨r_do_nots fun x hx=>?_,⟨by simp,by rw[w0];decide,fun z hz=>?_,fun z hz hg=>?_⟩⟩
  ·obtain⟨rfl,q⟩:=c4
   rw[q]
   exact both_ne0 x
  ·have hz:z=⟨11,0,0⟩:=by simpa using hz
   rw[hz]
   exact ym h0 (by decide) (by decide) (by decide) (by decide)
  ·have hz:z=⟨11,0,0⟩:=by simpa using hz
   rw[hz]at hg
   rcases hg with q|q <;> exact absurd q (by decide)
 rw[if_neg c4]at h
 cases h
end Vm
