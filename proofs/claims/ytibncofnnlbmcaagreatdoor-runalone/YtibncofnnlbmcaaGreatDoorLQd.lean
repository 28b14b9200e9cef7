import Derived.Test.YtibncofnnlbmcaaGreatDoorLQc
import Derived.Defers
import Derived.Recover
set_option maxRecDepth 100000
set_option maxHeartbeats 4000000
namespace Go.Proofs.YtibncofnnlbmcaaGreatDoor
open Go.RowKit Go.Maps
open Tp (Bs X S G Pr Pt Rs Rr Own)
theorem jM (v:Value){P:Program}{f:FuncId}{args:Array Value}{w:World}{R T:Ending->World->Prop}(h:Calls P f args w T)(a:∀e w',T e w'->R e w')(_:Hid False->R (.returned v) w):Calls P f args w R:=h.mono a
def bothR (op:Bs) (a b:Int) (s:Rs):Rr Int:=match Tp.both op a b with
 |some v=>.ok v s
 |none=>.stop Tp.zero s
theorem both_in {e:Bs}{a b v:Int}(d:Tp.I64 a)(g:Tp.I64 b)(h:Tp.both e a b=some v):Tp.I64 v:=by
 unfold Tp.both at h
 split at h
 ·cases h;exact Tp.w64_in _
 split at h
 ·cases h;exact Tp.w64_in _
 split at h
 ·cases h;exact Tp.w64_in _
 split at h
 ·split at h
  ·cases h
  ·cases h;exact Tp.w64_in _
 split at h
 ·split at h
  ·cases h
  ·rename_i c
   cases h
   have i:=(Tp.both_rest d c).2.2
   unfold Tp.I64 at *
   have f:=(Tp.both_rest (a:=a) d c).2.1
   omega
 split at h
 ·cases h;exact ji _
 split at h
 ·cases h;exact ji _
 split at h
 ·cases h;exact ji _
 split at h
 ·cases h;exact ji _
 split at h
 ·cases h;exact ji _
 split at h
 ·cases h;exact ji _
 ·cases h;decide
theorem pair_else {c:Cx}(ok:CxOk c){k:Nat}{w:World}{s:Rs}{sb x y z:Nat}{rl:Rr Int}{rr:Rs->Rr Int}{d:Bs}(h0:d≠Tp.wAnd)(h1:d≠Tp.wOr)(h:GS c w s k)(hX:CellX c x (bs d) y z)
  (hL:Calls Tryz.prog 150 #[.pointer (some ⟨sb,0,none⟩),.pointer (some ⟨y,0,none⟩)] w (EvP c k w s rl))(hR:RightC c k w s sb z rr)
  {p:Rr Int}(J:p=bindR rl fun a s'=>bindR (rr s') fun b s2=>bothR d a b s2)(S:p≠.gas) :
  Calls Tryz.prog 175 #[.pointer (some ⟨sb,0,none⟩),.pointer (some ⟨x,0,none⟩)] w (EvP c k w s p):=by
 obtain⟨c2,_,k6,_⟩:=hX w s k h
 have g:=zh hX
 have HL:=zh hL
 have b0:=zh hR
 have K:=zh ok
 have b9:((bs d).toList==[97,110,100])=false:=by rw[zj];simpa[Tp.wAnd] using h0
 have c0:((bs d).toList==[111,114])=false:=by rw[zj];simpa[Tp.wOr] using h1
 have b7:=zh (fun a b ha hb W=>both_any d a b ha hb W)
 clear hX hL hR h ok h0 h1
 cases rl with
 |gas=>exact absurd (J.trans rfl) S
 |stop way s' =>
  have H:Hid (∀e W,EvP c k w s (.stop way s') e W->EvP c k w s p e W):=fun e W hW=>by rw[J];exact hW
  clear J S
  go_enter Tryz.func175,Tryz.ntmps175
  go_wp2_with fail
  refine HL.out.mono ?_
  rintro e w2⟨⟨older,rfl⟩,f,m⟩
  have b8:=zh f
  have E:=zh m
  clear f m
  go_wp2_with fail
  exact⟨rfl,H.out _ _ ⟨⟨older,rfl⟩,b8.out,E.out⟩⟩
 |ok a s1 =>
  have r:p=bindR (rr s1) fun b s2=>bothR d a b s2:=J
  clear J
  cases F:rr s1 with
  |gas=>rw[F]at r;exact absurd r S
  |stop way s2 =>
   rw[F]at r
   have H:Hid (∀W e j,Kp c nY w W->s1.left<=s.left->EvP c k W s1 (.stop way s2) e j->EvP c k w s p e j):=fun W e j X a2 Q=>by rw[r];exact Q.up X a2
   have C:Hid (rr s1=.stop way s2):=F
   clear r S F
   go_enter Tryz.func175,Tryz.ntmps175
   go_wp2_with fail
   refine HL.out.mono ?_
   rintro e w2⟨rfl,f,m,l,_⟩
   obtain⟨b5,j5,_,j7⟩:=g.out w2 _ _ f
   have i:=f.drew K.out
   have o:=m.trans (Kp.drew c nY f.lt)
   have t:=zh (b0.out w2.drew s1 i o l (by rw[C.out];simp))
   rw[C.out]at t
   have E:=zh o
   have Y:=zh l
   have N:Hid (w2.drew.cell? ⟨x,5,none⟩=some (.string (bs d))/\w2.drew.cell? ⟨x,7,none⟩=some (.pointer (some ⟨z,0,none⟩))):=⟨(g.out _ _ _ i).2.1,(g.out _ _ _ i).2.2.2⟩
   clear f m l i o
   go_wp2_with fail
   go_region_held (fun w'=>w'.cell? ⟨x,5,none⟩=some (.string (bs d))/\w'.cell? ⟨x,7,none⟩=some (.pointer (some ⟨z,0,none⟩))) (with_reducible (first|exact hF.out.elim|exact N.out)) (first|(go_at_call 150;refine yo t.out ?hT ?_;(case hT=>(rintro e I ⟨⟨older,rfl⟩,n,D⟩;exact⟨rfl,H.out _ _ _ E.out Y.out ⟨⟨older,rfl⟩,n,D⟩⟩));intro hF)|(go_at_call 200;refine jM (.tuple #[.int .i64 0,.bool true]) (T:=fun _ _=>False) hF.out.elim ?hT2 ?_;(case hT2=>(intro e w h;exact h.elim));intro c1))
   exact hF.out.elim
  |ok b s2 =>
   rw[F]at r
   have u:p=bothR d a b s2:=r
   unfold bothR at u
   have C:Hid (rr s1=.ok b s2):=F
   clear r S F
   cases B:Tp.both d a b with
   |some v =>
    rw[B]at u
    have H:Hid (∀W j,Kp c nY w W->s1.left<=s.left->GS c j s2 k->Kp c nY W j->s2.left<=s1.left->Tp.I64 a->Tp.I64 b->EvP c k w s p (.returned (.int .i64 v)) j):=fun W j X a2 Q a4 a5 U V=>by rw[u];exact⟨rfl,Q,X.trans a4,Nat.le_trans a5 a2,both_in U V B⟩
    have b2:Hid (∀W,Tp.I64 a->Tp.I64 b->Calls Tryz.prog 200 #[.string (bs d),.int .i64 a,.int .i64 b] W fun e w'=>e=.returned (.tuple #[.int .i64 v,.bool true])/\Below W.heap.size W w'):=fun W U V=>by
     have:=b7.out a b U V W
     rw[B]at this
     exact this.mono fun e w' q=>⟨q.2,q.1⟩
    clear u B
    go_enter Tryz.func175,Tryz.ntmps175
    go_wp2_with fail
    refine HL.out.mono ?_
    rintro e w2⟨rfl,f,m,l,M⟩
    obtain⟨b5,j5,_,j7⟩:=g.out w2 _ _ f
    have i:=f.drew K.out
    have o:=m.trans (Kp.drew c nY f.lt)
    have t:=zh (b0.out w2.drew s1 i o l (by rw[C.out];simp))
    rw[C.out]at t
    have E:=zh o
    have Y:=zh l
    have Z:=zh M
    have N:Hid (w2.drew.cell? ⟨x,5,none⟩=some (.string (bs d))/\w2.drew.cell? ⟨x,7,none⟩=some (.pointer (some ⟨z,0,none⟩))):=⟨(g.out _ _ _ i).2.1,(g.out _ _ _ i).2.2.2⟩
    clear f m l i o M
    go_wp2_with fail
    go_region_held3 (fun w'=>w'.cell? ⟨x,5,none⟩=some (.string (bs d))/\w'.cell? ⟨x,7,none⟩=some (.pointer (some ⟨z,0,none⟩))) (with_reducible (first|exact b3.out|exact b4.out|exact N.out)) (first|(go_at_call 150;refine t.out.mono ?_;rintro e I ⟨rfl,n,D,L,O⟩;have P:=zh n;have b1:=zh D;have b6:=zh L;have a8:=zh O;have b4:Hid (I.cell? ⟨x,5,none⟩=some (.string (bs d))/\I.cell? ⟨x,7,none⟩=some (.pointer (some ⟨z,0,none⟩))):=⟨(g.out _ _ _ n).2.1,(g.out _ _ _ n).2.2.2⟩;clear n D L O)|(go_at_call 200;refine(b2.out _ Z.out a8.out).mono ?_;rintro e R ⟨rfl,G⟩;have A:=zh (P.out.below K.out G);have a9:=zh (b1.out.trans (Kp.below G P.out.lt));have b3:Hid (R.cell? ⟨x,5,none⟩=some (.string (bs d))/\R.cell? ⟨x,7,none⟩=some (.pointer (some ⟨z,0,none⟩))):=⟨(g.out _ _ _ A.out).2.1,(g.out _ _ _ A.out).2.2.2⟩;clear G))
    go_wp2_with fail
    go_ret
    exact H.out _ _ E.out Y.out A.out a9.out b6.out Z.out a8.out
   |none =>
    rw[B]at u
    have H:Hid (∀W j e,thrE endT (Tp.zero:Int) e->Kp c nY w W->GS c j s2 k->Kp c nY W j->EvP c k w s p e j):=fun W j e a0 X Q a4=>by rw[u];exact⟨a0,⟨k,Q⟩,X.trans a4⟩
    have b2:Hid (∀W,Tp.I64 a->Tp.I64 b->Calls Tryz.prog 200 #[.string (bs d),.int .i64 a,.int .i64 b] W fun e w'=>e=.returned (.tuple #[.int .i64 0,.bool false])/\Below W.heap.size W w'):=fun W U V=>by
     have:=b7.out a b U V W
     rw[B]at this
     exact this.mono fun e w' q=>⟨q.2,q.1⟩
    clear u B
    go_enter Tryz.func175,Tryz.ntmps175
    go_wp2_with fail
    refine HL.out.mono ?_
    rintro e w2⟨rfl,f,m,l,M⟩
    obtain⟨b5,j5,_,j7⟩:=g.out w2 _ _ f
    have i:=f.drew K.out
    have o:=m.trans (Kp.drew c nY f.lt)
    have t:=zh (b0.out w2.drew s1 i o l (by rw[C.out];simp))
    rw[C.out]at t
    have E:=zh o
    have Y:=zh l
    have Z:=zh M
    have N:Hid (w2.drew.cell? ⟨x,5,none⟩=some (.string (bs d))/\w2.drew.cell? ⟨x,7,none⟩=some (.pointer (some ⟨z,0,none⟩))):=⟨(g.out _ _ _ i).2.1,(g.out _ _ _ i).2.2.2⟩
    clear f m l i o M
    go_wp2_with fail
    go_region_held3 (fun w'=>w'.cell? ⟨x,5,none⟩=some (.string (bs d))/\w'.cell? ⟨x,7,none⟩=some (.pointer (some ⟨z,0,none⟩))) (with_reducible (first|exact b3.out|exact b4.out|exact N.out)) (first|(go_at_call 150;refine t.out.mono ?_;rintro e I ⟨rfl,n,D,L,O⟩;have P:=zh n;have b1:=zh D;have b6:=zh L;have a8:=zh O;have b4:Hid (I.cell? ⟨x,5,none⟩=some (.string (bs d))/\I.cell? ⟨x,7,none⟩=some (.pointer (some ⟨z,0,none⟩))):=⟨(g.out _ _ _ n).2.1,(g.out _ _ _ n).2.2.2⟩;clear n D L O)|(go_at_call 200;refine(b2.out _ Z.out a8.out).mono ?_;rintro e R ⟨rfl,G⟩;have A:=zh (P.out.below K.out G);have a9:=zh (b1.out.trans (Kp.below G P.out.lt));have b3:Hid (R.cell? ⟨x,5,none⟩=some (.string (bs d))/\R.cell? ⟨x,7,none⟩=some (.pointer (some ⟨z,0,none⟩))):=⟨(g.out _ _ _ A.out).2.1,(g.out _ _ _ A.out).2.2.2⟩;clear G))
    go_wp2_with fail
    exact⟨rfl,H.out _ _ _ ⟨noP,rfl⟩ E.out A.out a9.out⟩
theorem evX_bin (g k:Nat)(m:Bs)(own:Own)(pos n:Nat)(md nm e:Bs)(i ri j:List X)(s:Rs):Tp.evX (g+1) k m own [⟨5,pos,n,md,nm,e,i,ri,j⟩] s=bindR (Tp.evX g k m own i s) fun a c=>if e=Tp.wAnd then (if a=0 then .ok 0 c else bindR (Tp.evX g k m own ri c) fun b s2=>.ok (Tp.b01 (b≠0)) s2) else if e=Tp.wOr then (if a≠0 then .ok 1 c else bindR (Tp.evX g k m own ri c) fun b s2=>.ok (Tp.b01 (b≠0)) s2) else bindR (Tp.evX g k m own ri c) fun b s2=>bothR e a b s2:=by
 rw[Tp.evX]
 show (Tp.Ru.bind _ _) s=_
 unfold Tp.Ru.bind bindR
 cases Tp.evX g k m own i s with
 |gas=>rfl
 |stop way c=>rfl
 |ok a c =>
  simp only
  by_cases h:e=Tp.wAnd
  ·rw[if_pos h,if_pos h]
   by_cases d:a=0
   ·rw[if_pos d,if_pos d];rfl
   ·rw[if_neg d,if_neg d]
    cases Tp.evX g k m own ri c<;>rfl
  ·rw[if_neg h,if_neg h]
   by_cases d:e=Tp.wOr
   ·rw[if_pos d,if_pos d]
    by_cases f:a≠0
    ·rw[if_pos f,if_pos f];rfl
    ·rw[if_neg f,if_neg f]
     cases Tp.evX g k m own ri c<;>rfl
   ·rw[if_neg d,if_neg d]
    cases Tp.evX g k m own ri c with
    |gas=>rfl
    |stop way s2=>rfl
    |ok b s2 =>
     simp only
     unfold bothR
     cases Tp.both e a b<;>rfl
theorem value_bin {c:Cx}{g:Nat}(K:CxOk c)(J:EvC c g){k:Nat}{lo:Lo}{own:Own}{names:List Bs}{x:Nat}{w:World}{s:Rs}{l pos n:Nat}{ob:Option Nat}{md nm f:Bs}{i ri F:List X}(r:Ex c lo names [⟨5,pos,n,md,nm,f,i,ri,F⟩] x)(h:GS c w s k)(I:Sc c w l ob lo own names s.left)(j:Tp.evX (g+1) k lo.m.name own [⟨5,pos,n,md,nm,f,i,ri,F⟩] s≠.gas) :
  Calls Tryz.prog 150 #[.pointer (some ⟨l,0,none⟩),.pointer (some ⟨x,0,none⟩)] w (EvP c k w s (Tp.evX (g+1) k lo.m.name own [⟨5,pos,n,md,nm,f,i,ri,F⟩] s)):=by
 have H:=r.wx
 rw[Tp.WX]at H
 obtain⟨Q,O,T,S⟩:Tp.WX i/\i.length=1/\Tp.WX ri/\ri.length=1:=by
  rcases H.1 with q|q|q|q|q|q
  ·exact absurd q.1 (by decide)
  ·exact absurd q.1 (by decide)
  ·exact absurd q.1 (by decide)
  ·exact absurd q.1 (by decide)
  ·exact⟨q.2.2.2.2.2.1,q.2.2.2.2.2.2.1,q.2.2.2.2.2.2.2.1,q.2.2.2.2.2.2.2.2.1⟩
  ·exact absurd q.1 (by decide)
 rw[evX_bin]at j ⊢
 obtain⟨av,ls,rs,gs,u,o,G,_,rr,_⟩:=r.blk
 obtain⟨y,rfl,_⟩:=G.part O
 obtain⟨z,rfl,_⟩:=rr.part S
 have M:=r.left G Q
 have L:=r.right rr T
 have E:=(h.st x u).trans o
 have a2:=zf E
 have k0:w.cell? ⟨x,0,none⟩=some (.int .i64 5):=(za E).trans rfl
 have D:CellX c x (bs f) y z:=fun W d k' p=>⟨zf ((p.st x u).trans o),(za ((p.st x u).trans o)).trans rfl,(za ((p.st x u).trans o)).trans rfl,(za ((p.st x u).trans o)).trans rfl⟩
 have R:Tp.evX g k lo.m.name own i s≠.gas:=fun e=>j (by rw[e];rfl)
 have C:=J k lo own names i y w s l ob M h I R
 have B:RightC c k w s l z (fun d=>Tp.evX g k lo.m.name own ri d):=fun W d p hK a0 Z=>J k lo own names ri z W d l ob L p (I.kp hK K.Vlt a0) Z
 have U:Hid (Calls Tryz.prog 175 #[.pointer (some ⟨l,0,none⟩),.pointer (some ⟨x,0,none⟩)] w (EvP c k w s (bindR (Tp.evX g k lo.m.name own i s) fun a d=>if f=Tp.wAnd then (if a=0 then .ok 0 d else bindR (Tp.evX g k lo.m.name own ri d) fun b s2=>.ok (Tp.b01 (b≠0)) s2) else if f=Tp.wOr then (if a≠0 then .ok 1 d else bindR (Tp.evX g k lo.m.name own ri d) fun b s2=>.ok (Tp.b01 (b≠0)) s2) else bindR (Tp.evX g k lo.m.name own ri d) fun b s2=>bothR f a b s2))):=by
  by_cases t:f=Tp.wAnd
  ·refine pair_and (rr:=fun d=>Tp.evX g k lo.m.name own ri d) (by rw[zj,t];rfl) h D C B ?_ j
   simp only[if_pos t]
  ·by_cases A:f=Tp.wOr
   ·refine pair_or (rr:=fun d=>Tp.evX g k lo.m.name own ri d) (by rw[zj,A];rfl) (by rw[zj,A];rfl) h D C B ?_ j
    simp only[if_neg t,if_pos A]
   ·refine pair_else (rr:=fun d=>Tp.evX g k lo.m.name own ri d) K t A h D C B ?_ j
    simp only[if_neg t,if_neg A]
 generalize (bindR (Tp.evX g k lo.m.name own i s) fun a d=>if f=Tp.wAnd then (if a=0 then .ok 0 d else bindR (Tp.evX g k lo.m.name own ri d) fun b s2=>.ok (Tp.b01 (b≠0)) s2) else if f=Tp.wOr then (if a≠0 then .ok 1 d else bindR (Tp.evX g k lo.m.name own ri d) fun b s2=>.ok (Tp.b01 (b≠0)) s2) else bindR (Tp.evX g k lo.m.name own ri d) fun b s2=>bothR f a b s2)=res at *
 clear o E h I r M L G rr H Q T O S J D R C B
 cases res with
 |gas=>exact absurd rfl j
 |stop way d =>
  clear j
  go_enter Tryz.func150,Tryz.ntmps150
  go_wp2_with fail
  refine U.out.mono ?_
  rintro e w2⟨⟨older,rfl⟩,N,P⟩
  have a1:=zh N
  have Y:=zh P
  clear N P
  go_wp2_with fail
  exact⟨rfl,⟨older,rfl⟩,a1.out,Y.out⟩
 | K v d =>
  clear j
  go_enter Tryz.func150,Tryz.ntmps150
  go_wp2_with fail
  refine U.out.mono ?_
  rintro e w2⟨rfl,V⟩
  have HQ:=zh V
  clear V
  go_wp2_with fail
  go_ret
  exact⟨rfl,HQ.out⟩
def ownL (l:List (Bs×Int)):Own:=fun q=>(l.find? fun x=>x.1==q).map (·.2)
def ownF (l:List (Bs×Int)):Bs->Option Value:=fun q=>(ownL l q).map fun v=>.int .i64 v
theorem ownF_add {l:List (Bs×Int)}{n:Bs}{v:Int}(h:n ∉ l.map (·.1)):updV (ownF l) n (.int .i64 v)=ownF (l++[(n,v)]):=by
 funext q
 unfold updV ownF ownL
 rw[List.find?_append]
 by_cases e:q=n
 ·subst e
  rw[if_pos rfl]
  have:l.find? (fun x=>x.1==q)=none:=by
   rw[List.find?_eq_none]
   intro x a c
   exact h (List.mem_map.2 ⟨x,a,by simpa using c⟩)
  rw[this]
  simp
 ·rw[if_neg e]
  have:([(n,v)]:List (Bs×Int)).find? (fun x=>x.1==q)=none:=by
   rw[List.find?_eq_none]
   intro x a
   simp at a
   subst a
   simpa using fun b=>e b.symm
  rw[this]
  simp
def ownAll (p:Pr) (vs:List Int):List (Bs×Int):=p.params.zip vs++p.vars.map fun n=>(n,0)
theorem vz (p:Pr)(vs:List Int):ownL (ownAll p vs)=Tp.ownFor p vs:=by
 funext q
 unfold ownL ownAll Tp.ownFor
 rw[List.find?_append]
 cases h:(p.params.zip vs).find? (fun x=>x.1==q) with
 |some x=>simp
 |none =>
  simp only[Option.none_or]
  by_cases b:q∈p.vars
  ·rw[if_pos b]
   have:(p.vars.map fun n=>(n,(0:Int))).find? (fun x=>x.1==q)=some (q,0):=by
    rw[List.find?_map]
    have d:p.vars.find? ((fun x:Bs×Int=>x.1==q) ∘ fun n=>(n,0))=some q:=by
     obtain⟨y,a⟩:=Option.isSome_iff_exists.1 (List.find?_isSome.2 ⟨q,b,by simp⟩:(p.vars.find? ((fun x:Bs×Int=>x.1==q) ∘ fun n=>(n,0))).isSome=true)
     have:=List.find?_some a
     rw[a]
     congr 1
     simpa using this
    rw[d]
    rfl
   rw[this]
   rfl
  ·rw[if_neg b]
   have:(p.vars.map fun n=>(n,(0:Int))).find? (fun x=>x.1==q)=none:=by
    rw[List.find?_eq_none]
    intro x e c
    obtain⟨y,a,rfl⟩:=List.mem_map.1 e
    simp at c
    exact b (c ▸ a)
   rw[this]
   rfl
theorem jw {p:Pr}{vs:List Int}(h:vs.length=p.params.length):(ownAll p vs).map (·.1)=Tp.ownOf p:=by
 unfold ownAll Tp.ownOf
 rw[List.map_append,List.map_map]
 congr 1
 ·rw[List.map_fst_zip (by omega)]
 ·simp[Function.comp_def]
theorem ownFor_dom {p:Pr}{vs:List Int}(h:vs.length=p.params.length)(q:Bs):(Tp.ownFor p vs q).isSome=true↔q∈Tp.ownOf p:=by
 rw[<-vz,<-jw h]
 unfold ownL
 rw[Option.isSome_map,List.find?_isSome]
 simp
theorem ownFor_i64 {p:Pr}{vs:List Int}(h:∀v∈vs,Tp.I64 v):∀q v,Tp.ownFor p vs q=some v->Tp.I64 v:=by
 intro q v c
 unfold Tp.ownFor at c
 cases d:(p.params.zip vs).find? (fun x=>x.1==q) with
 |some x =>
  rw[d]at c
  simp at c
  subst c
  have:=List.mem_of_find?_eq_some d
  exact h _ (List.of_mem_zip (a:=x.1) (b:=x.2) this).2
 |none =>
  rw[d]at c
  simp only at c
  split at c
  ·cases c;decide
  ·cases c
theorem uC {p:Pr}{vs:List Int}(h:vs.length=p.params.length)(d:(Tp.ownOf p).Nodup)(j:Nat)(n:Bs)(v:Int)(k:(ownAll p vs)[j]?=some (n,v)):updV (ownF ((ownAll p vs).take j)) n (.int .i64 v)=ownF ((ownAll p vs).take (j+1)):=by
 obtain⟨a,e⟩:=List.getElem?_eq_some_iff.1 k
 rw[List.take_succ_eq_append_getElem a,e]
 refine ownF_add ?_
 rw[<-jw h]at d
 intro c
 rw[List.map_take]at c
 obtain⟨i,f,b⟩:=List.getElem_of_mem c
 rw[List.length_take,List.length_map]at f
 rw[List.getElem_take]at b
 have g:((ownAll p vs).map (·.1))[j]'(by simpa using a)=n:=by simp[e]
 have:=(List.getElem_inj (h₀:=by simp;omega) (h₁:=by simpa using a) d).1 (b.trans g.symm)
 omega
theorem ownAll_par {p:Pr}{vs:List Int}(h:vs.length=p.params.length){i:Nat}(a:i<p.params.length):(ownAll p vs)[i]?=some (p.params[i],vs[i]'(by omega)):=by
 unfold ownAll
 rw[List.getElem?_append_left (by simp;omega)]
 rw[List.getElem?_eq_getElem (by simp;omega)]
 simp
theorem ownAll_var {p:Pr}{vs:List Int}(h:vs.length=p.params.length){i:Nat}(a:i<p.vars.length):(ownAll p vs)[p.params.length+i]?=some (p.vars[i],0):=by
 unfold ownAll
 rw[List.getElem?_append_right (by simp;omega)]
 simp[h,a]
theorem ownAll_len {p:Pr}{vs:List Int}(h:vs.length=p.params.length):(ownAll p vs).length=p.params.length+p.vars.length:=by simp[ownAll,h]
structure IntsAt (w:World) (vs:List Int) (a:Option Addr):Prop where
 c:∀i (h:i<vs.length),∃b o,a=some ⟨b,o,none⟩/\b<w.heap.size/\w.cell? ⟨b,o+i,none⟩=some (.int .i64 vs[i])
theorem IntsAt.on {w w':World}{vs:List Int}{a:Option Addr}(h:IntsAt w vs a)(k:Below w.heap.size w w'):IntsAt w' vs a :=
 ⟨fun i e=>by obtain⟨b,o,f,d,g⟩:=h.c i e;exact⟨b,o,f,Nat.lt_of_lt_of_le d k.size,(k.cell (p:=⟨b,o+i,none⟩) d).trans g⟩⟩
theorem GS.outlt {c:Cx}{w:World}{s:Rs}{k:Nat}(h:GS c w s k){b:Nat}(e:OutB c w b):b<w.heap.size:=by
 obtain⟨i,f,d⟩:=h.blk
 obtain⟨v,a,g⟩:=e
 rw[za f]at a
 cases a
 exact(d.lt b g).2
def oY (ob:Option Nat) (b:Nat):Prop:=ob=some b
def BodyP (c:Cx) (k:Nat) (ob:Option Nat) (w:World) (s:Rs) (r:Rr (Own×Option Int)) (e:Ending) (w':World):Prop:=match r with
 | .ok r1 s'=>e=.returned (.int .i64 (r1.2.getD 0))/\GS c w' s' k/\Kp c (oY ob) w w'/\s'.left<=s.left/\Tp.I64 (r1.2.getD 0)
 | .stop way s'=>thrE endT (way:Int) e/\(∃k',GS c w' s' k')/\Kp c (oY ob) w w'
 | .gas=>True
structure Ss (c:Cx) (lo:Lo) (names:List Bs) (l:List S) (v:Value):Prop where
 rep:∃cs,RepS c.w0 c.D l cs/\OwnS c.w0 c.D v l.length cs
 ws:Tp.WS l
 fit:∀r∈Tp.rs l,Tp.FitR c.ms lo.m names r
theorem OwnS.len {w:World}{D:Nat->Prop}{v:Value}{n:Nat}{cs:List Value}(h:OwnS w D v n cs):n<=9223372036854775807:=by
 rcases h with⟨_,h⟩|⟨g,cap,cur,_,_,_,h4,h5,_⟩
 ·omega
 ·unfold maxLen at h5;omega
def BodyC (c:Cx) (g:Nat):Prop:=∀(k:Nat) (lo:Lo) (own:Own) (names:List Bs) (l:List S) (v:Value) (w:World) (s:Rs) (sb:Nat) (ob:Option Nat),
 Ss c lo names l v->GS c w s k->Sc c w sb ob lo own names s.left->Tp.goS g k lo.m.name own l s≠.gas ->
 Calls Tryz.prog 43 #[.pointer (some ⟨sb,0,none⟩),v] w (BodyP c k ob w s (Tp.goS g k lo.m.name own l s))
def CallC (c:Cx) (g:Nat):Prop:=∀(k:Nat) (lo:Lo) (nm:Bs) (p:Pr) (vs:List Int) (w:World) (s:Rs) (aa:Option Addr) (ac:Nat),
 lo∈c.L->Tp.procIn lo.m nm=some p->vs.length=p.params.length->(∀v∈vs,Tp.I64 v)->GS c w s k->IntsAt w vs aa->Tp.callP g k lo.m.name p vs s≠.gas ->
 Calls Tryz.prog 56 #[.pointer (some ⟨c.gb,0,none⟩),.pointer (some ⟨lo.lb,0,none⟩),.string (bs nm),.slice aa vs.length ac] w (EvP c k w s (Tp.callP g k lo.m.name p vs s))
theorem Row.str {w:World}{D:Nat->Prop}{v:Value}{ns:List Bs}(h:Row w D 9 1 v ns.length (strs ns)):∃a c,v=.slice a ns.length c/\∀i (d:i<ns.length),∃b,a=some ⟨b,0,none⟩/\D b/\w.cell? ⟨b,i,none⟩=some (.string (bs ns[i])):=by
 obtain⟨a,c,rfl⟩:=h.shape
 refine⟨a,c,rfl,fun i d=>?_⟩
 obtain⟨g,cap,e,f,k,j⟩:=yt h (by omega)
 cases e
 refine⟨g,rfl,f,?_⟩
 rw[j i (by omega)]
 simp[strs,d]
theorem callP_eq (g k:Nat)(m:Bs)(p:Pr)(vs:List Int)(s:Rs):Tp.callP (g+1) k m p vs s=if 30<=k then .stop Tp.deep s else (match Tp.goS g (k+1) m (Tp.ownFor p vs) p.body s with
  | .ok r s'=>.ok (r.2.getD 0) s'
  | .stop way s'=>.stop way s'
  | .gas=>.gas):=by
 rw[Tp.callP]
 by_cases h:30<=k
 ·rw[if_pos h,if_pos h];rfl
 ·rw[if_neg h,if_neg h]
  unfold Tp.Ru.bind
  cases Tp.goS g (k+1) m (Tp.ownFor p vs) p.body s<;>rfl
theorem call_all {c:Cx}{g:Nat}(ok:CxOk c)(hB:BodyC c g):CallC c (g+1):=by
 intro k lo nm p vs w s aa ac c6 hp o9 f7 h e7 hn
 rw[callP_eq]at hn ⊢
 obtain⟨Z,L⟩:∃Z,Z=(if 30<=k then .stop Tp.deep s else (match Tp.goS g (k+1) lo.m.name (Tp.ownFor p vs) p.body s with
  | .ok r s'=>.ok (r.2.getD 0) s'
  | .stop way s'=>.stop way s'
  | .gas=>.gas):Rr Int):=⟨_,rfl⟩
 rw[<-L]at hn ⊢
 have V:=h.lt
 have b7:p∈lo.m.procs:=List.mem_of_find?_eq_some hp
 have b6:=(ok.lo lo c6).fit
 have c9:=b6.wm.p p b7
 have h3:=b6.on p b7
 have h6:=zh (rproc h ok c6 nm)
 have HH:=zh h
 have U:=zh ok
 have e8:=zh e7
 have m5:Hid (∀r∈Tp.rs p.body,Tp.FitR c.ms lo.m (Tp.ownOf p) r):=b6.pr p b7
 have b9:=zh c9
 have i3:=zh h3
 have g1:=zh f7
 have p3:=zh c6
 have HP:Hid (Tp.procIn lo.m nm=some p):=hp
 obtain⟨ov,a0,_⟩:=h.blk
 have s5:=zh a0
 have t0:=h.kl
 have d0:Hid (vs.length=p.params.length):=o9
 have p0:p.params.length+p.vars.length<=10:=c9.c
 have t4:=@run_makeMap Tryz.prog
 clear h ok e7 b6 c9 h3 f7 c6 hp b7
 by_cases hk:30<=k
 ·have n4:k=30:=by omega
  subst n4
  rw[if_pos zn]at L
  have HR:Hid (∀W e,Below w.heap.size w W->thrE endT (Tp.deep:Int) e->EvP c 30 w s Z e W):=fun W e hW he=>by rw[L];exact⟨he,⟨30,HH.out.below U.out hW⟩,Kp.below hW HH.out.lt⟩
  have d4:w.cell? ⟨c.gb,2,none⟩=some (.int .i64 30):=(za a0).trans rfl
  clear L hn a0
  generalize vs.length=vn at *
  go_enter Tryz.func56,Tryz.ntmps56
  go_wp2_with fail
  refine h6.out.mono ?_
  rintro e f⟨v,rfl,_,E⟩
  have k2:=(E.cell (p:=⟨c.gb,2,none⟩) V).trans d4
  have f0:c.gb<f.heap.size:=Nat.lt_of_lt_of_le V E.size
  have I:=zh E
  clear E
  go_wp2_with fail
  exact⟨rfl,HR.out _ _ I.out ⟨noP,rfl⟩⟩
 ·rw[if_neg hk]at L
  have d4:w.cell? ⟨c.gb,2,none⟩=some (.int .i64 (k:Int)):=(za a0).trans rfl
  have d1:¬(k:Int)=30:=by omega
  have f1:Hid (Z=_):=L
  have HN:=zh hn
  clear L hn a0
  have e9:vs.length=p.params.length:=d0.out
  generalize p6:vs.length=vn at *
  go_enter Tryz.func56,Tryz.ntmps56
  go_wp2_with fail
  refine h6.out.mono ?_
  rintro e f⟨v,rfl,e0,E⟩
  unfold ProcP at e0
  rw[HP.out]at e0
  obtain⟨B,o,rfl,S⟩:=e0
  obtain⟨pv,vv,bv,n7,r3,r4,r5,i9,i0,g9,e5⟩:=S.r
  have O:=HH.out.below U.out E
  have k2:=(E.cell (p:=⟨c.gb,2,none⟩) V).trans d4
  have f0:c.gb<f.heap.size:=Nat.lt_of_lt_of_le V E.size
  obtain⟨o6,s4,rfl,i2⟩:=i9.str
  obtain⟨f8,o0,rfl,f9⟩:=i0.str
  have c3:=O.cell0 S.d r3
  have f4:=zg c3
  obtain⟨w2,b0⟩:∃w2,w2=f.alloc (.map #[] 0):=⟨_,rfl⟩
  have c8:Below f.heap.size f w2:=by rw[b0];exact zb _ _
  have i7:MapV w2 f.heap.size 0 (ownF ((ownAll p vs).take 0)):=by rw[b0];exact MapV.made f
  have s9:f.heap.size<w2.heap.size:=by rw[b0];simp
  have h4:=(c8.cell (p:=⟨B,o+3,none⟩) f4).trans c3
  have m8:B<w2.heap.size:=by omega
  have T:vs.length=p.params.length:=by rw[p6];exact d0.out
  obtain⟨pn,b3⟩:∃pn,pn=p.params.length:=⟨_,rfl⟩
  obtain⟨A,d3⟩:∃A,A=p.vars.length:=⟨_,rfl⟩
  have m4:Hid (∀i,i<pn->∃b x u G Q,o6=some ⟨b,0,none⟩/\b<f.heap.size/\f.cell? ⟨b,i,none⟩=some (.string (bs x))/\(ownAll p vs)[i]?=some (x,u)/\x.length<=1000000/\aa=some ⟨G,Q,none⟩/\G<f.heap.size/\f.cell? ⟨G,Q+i,none⟩=some (.int .i64 u)):=by
   intro i F
   rw[b3]at F
   obtain⟨b,e1,e2,e3⟩:=i2 i F
   obtain⟨G,Q,a1,a2,a3⟩:=(e8.out.on E).c i (by omega)
   have e4:=O.cell0 e2 e3
   exact⟨b,_,_,G,Q,e1,zg e4,e4,ownAll_par T F,zQ (b9.out.ps _ (List.getElem_mem F)),a1,a2,a3⟩
  have o4:Hid (∀i,i<A->∃b x,f8=some ⟨b,0,none⟩/\b<f.heap.size/\f.cell? ⟨b,i,none⟩=some (.string (bs x))/\(ownAll p vs)[pn+i]?=some (x,0)/\x.length<=1000000):=by
   intro i F
   rw[d3]at F
   obtain⟨b,e1,e2,e3⟩:=f9 i F
   have e4:=O.cell0 e2 e3
   rw[b3]
   exact⟨b,_,e1,zg e4,e4,ownAll_var T F,zQ (b9.out.vs _ (List.getElem_mem F))⟩
  have g2:Hid (∀j n v,(ownAll p vs)[j]?=some (n,v)->updV (ownF ((ownAll p vs).take j)) n (.int .i64 v)=ownF ((ownAll p vs).take (j+1))):=fun j n v hj=>uC T i3.out j n v hj
  have n1:Hid (ownF ((ownAll p vs).take (pn+A))=fun q=>(Tp.ownFor p vs q).map fun v=>.int .i64 v):=by
   show _=_
   rw[List.take_of_length_le (by rw[ownAll_len T];omega)]
   unfold ownF
   rw[vz]
  have n2:Hid (∀q,(Tp.ownFor p vs q).isSome=true↔q∈Tp.ownOf p):=ownFor_dom T
  have n5:Hid (∀q v,Tp.ownFor p vs q=some v->Tp.I64 v):=ownFor_i64 g1.out
  have o1:=zh O
  have I:=zh E
  have a6:=zh c8
  have g6:=zh i7
  have c4:=O.cell0 S.d r4
  have c5:=O.cell0 S.d r5
  rw[<-d3]at c4
  have d8:=zh c4
  have i5:Hid (Ss c lo (Tp.ownOf p) p.body bv):=⟨⟨n7,g9,e5⟩,b9.out.b,m5.out⟩
  obtain⟨ba,bc,h8⟩:=e5.shape
  rw[h8]at c5 i5
  have h9:=zh c5
  have n8:=zh k2
  have o3:Hid (B<c.gb):=S.d.1
  have s2:pn+A<=10:=by omega
  have o2:Hid (vn=pn):=e9.trans b3.symm
  clear e9
  rw[<-b3]at h4
  clear S E c8 i7 r3 r4 r5 i9 i0 g9 e5 i2 f9 O c3 h8 T c4 c5 b3 d3 p0 d0 b9 i3 g1 e8 f4
  generalize s8:p.body.length=bn at *
  have r8:(pn:Int)<=10:=by omega
  have p8:(A:Int)<=10:=by omega
  go_upto_region 5 with fail
  rw[<-b0]
  clear b0 k2
  go_wp2_with fail
  have h7:((k:Int)==30)=false:=by simpa using d1
  simp only[h7]
  clear h7 d1
  go_loopg [32] pn (fun k vi wr=>∃i:Nat,i<=pn/\k=pn-i/\vi=.int .i64 (i:Int)/\Hid (MapV wr f.heap.size i (ownF ((ownAll p vs).take i)))/\Hid (Ext f.heap.size w2 wr))
  case atStart=>exact⟨0,by omega,by omega,rfl,g6,Ext.refl _ _⟩
  case round =>
   obtain⟨i,s7,d1,rfl,HM,C⟩:=hrel
   have r0:=C.out.size
   by_cases n9:i<pn
   ·have n0:(i:Int)<(pn:Int):=by omega
    obtain⟨b,x,u,G,Q,rfl,d5,a9,b2,d6,rfl,p5,m3⟩:=m4.out i n9
    have kb:wr.cell? ⟨b,i,none⟩=some (.string (bs x)):=C.out.cell ((a6.out.cell (p:=⟨b,i,none⟩) d5).trans a9) (by simp;omega)
    have ka:wr.cell? ⟨G,Q+i,none⟩=some (.int .i64 u):=C.out.cell ((a6.out.cell (p:=⟨G,Q+i,none⟩) p5).trans m3) (by simp;omega)
    have n3:b<wr.heap.size:=by omega
    have r6:G<wr.heap.size:=by omega
    have r7:(i:Int)<(vn:Int):=by have:=o2.out;omega
    have HT:=zh (g2.out i x u b2)
    clear a9 m3 b2
    go_wp2_with (at_mapUpdate;refine yf _ rfl _ _ _ 96 rfl _ Tryz.underlying96 f.heap.size i _ HM.out (by omega) x d6 (.int .i64 u) rfl rfl rfl ?_)
    intro w3 q1 q2 q3
    have d9:Hid (MapV w3 f.heap.size (i+1) (ownF ((ownAll p vs).take (i+1)))):=by
     show MapV _ _ _ _
     rw[<-HT.out]
     exact q1
    have d2:Hid (Ext f.heap.size w2 w3):=C.out.trans q2
    clear q1 q2 q3
    go_wp2_with fail
    go_roundg (pn-(i+1))
    case measure=>omega
    case rel=>exact⟨i+1,by omega,rfl,by go_num,d9,d2⟩
   ·have n0:¬(i:Int)<(pn:Int):=by omega
    have p4:i=pn:=by omega
    subst p4
    have k4:wr.cell? ⟨B,o+4,none⟩=some (.slice f8 A o0):=C.out.cell ((a6.out.cell (p:=⟨B,o+4,none⟩) (zg d8.out)).trans d8.out) (by have:=zg d8.out;simp;omega)
    have m9:B<wr.heap.size:=by omega
    have i8:Hid (MapV wr f.heap.size (i+0) (ownF ((ownAll p vs).take (i+0)))):=HM
    have g5:=C
    clear HM C m4 h4 m8 g6
    go_wp2_with fail
    go_loopg [49] A (fun k vi wr=>∃j:Nat,j<=A/\k=A-j/\vi=.int .i64 (j:Int)/\Hid (MapV wr f.heap.size (i+j) (ownF ((ownAll p vs).take (i+j))))/\Hid (Ext f.heap.size w2 wr))
    case atStart=>exact⟨0,by omega,by omega,rfl,i8,g5⟩
    case round =>
     obtain⟨j,t2,r2,rfl,HM,C⟩:=hrel
     have p7:=C.out.size
     clear i8 g5 k4 m9
     by_cases n6:j<A
     ·have m6:(j:Int)<(A:Int):=by omega
      obtain⟨b,x,rfl,d5,a9,b2,d6⟩:=o4.out j n6
      have kb:wr.cell? ⟨b,j,none⟩=some (.string (bs x)):=C.out.cell ((a6.out.cell (p:=⟨b,j,none⟩) d5).trans a9) (by simp;omega)
      have n3:b<wr.heap.size:=by omega
      have HT:=zh (g2.out (i+j) x 0 b2)
      clear a9 b2
      go_wp2_with (at_mapUpdate;refine yf _ rfl _ _ _ 96 rfl _ Tryz.underlying96 f.heap.size (i+j) _ HM.out (by omega) x d6 (.int .i64 0) rfl rfl rfl ?_)
      intro w3 q1 q2 q3
      have d9:Hid (MapV w3 f.heap.size (i+(j+1)) (ownF ((ownAll p vs).take (i+(j+1))))):=by
       show MapV _ _ _ _
       rw[<-Nat.add_assoc,<-HT.out]
       exact q1
      have d2:Hid (Ext f.heap.size w2 w3):=C.out.trans q2
      clear q1 q2 q3
      go_wp2_with fail
      go_roundg (A-(j+1))
      case measure=>omega
      case rel=>exact⟨j+1,by omega,rfl,by go_num,d9,d2⟩
     ·have m6:¬(j:Int)<(A:Int):=by omega
      have p2:j=A:=by omega
      subst p2
      have M:Below f.heap.size f wr:=a6.out.trans (zX C.out zn (by omega))
      have X:=o1.out.below U.out M
      have s1:=zh M
      have t3:=zh X
      have j2:wr.cell? ⟨c.gb,2,none⟩=some (.int .i64 (k:Int)):=(M.cell (p:=⟨c.gb,2,none⟩) f0).trans n8.out
      obtain⟨t1,d7,m7⟩:=X.blk
      have z2:wr.frozen? ⟨c.gb,2,none⟩=false:=zi d7
      have s0:c.gb<wr.heap.size:=zf d7
      have s6:(k:Int)<=29:=by omega
      have c0:=X.wait U.out (k':=k+1) (by omega)
      have c7:Kp c nY wr (wr.setCell ⟨c.gb,2,none⟩ (.int .i64 ((k+1:Nat):Int))):=Kp.reg X (by omega)
      have g0:wr.setCell ⟨c.gb,2,none⟩ (.int .i64 ((k:Int)+1))=wr.setCell ⟨c.gb,2,none⟩ (.int .i64 ((k+1:Nat):Int)):=by rw[Int.natCast_add];rfl
      obtain⟨D,H⟩:∃D,D=wr.setCell ⟨c.gb,2,none⟩ (.int .i64 ((k:Int)+1)):=⟨_,rfl⟩
      rw[<-g0,<-H]at c0 c7
      obtain⟨l,N⟩:∃l,l=D.alloc (.cells #[.pointer (some ⟨c.gb,0,none⟩),.pointer (some ⟨lo.lb,0,none⟩),.map (some f.heap.size)] 98):=⟨_,rfl⟩
      have R:Below D.heap.size D l:=by rw[N];exact zb _ _
      have i4:=c0.below U.out R
      have o8:D.heap.size=wr.heap.size:=by rw[H];simp
      have o5:D.heap.size<l.heap.size:=by rw[N];simp
      have b5:Kp c nY wr l:=c7.trans (Kp.below R (by omega))
      have b4:Kp c nY w l:=(Kp.below (I.out.trans (M.mono (by have:=I.out.size;omega))) V).trans b5
      have f2:∀b,w.heap.size<=b->b<l.heap.size->¬OutB c l b\/wr.heap.size<=b:=fun b h1 h2=>by
       by_cases K:OutB c l b
       ·rcases b4.out b K with z|z
        ·have:=HH.out.outlt z;omega
        ·by_cases hz:wr.heap.size<=b
         ·exact Or.inr hz
         ·rcases b5.out b K with y|y
          ·have y2:OutB c w b:=(yr ((I.out.trans (M.mono (by have:=I.out.size;omega))).block c.gb V) b).1 y
           have:=HH.out.outlt y2;omega
          ·exact absurd y hz
       ·exact Or.inl K
      have f3:¬OutB c l D.heap.size:=fun K=>by
       rcases b5.out _ K with y|y
       ·have:=X.outlt y;omega
       ·have y2:OutB c D D.heap.size:=(yr (R.block c.gb (by omega)) _).1 K
        have:=c0.outlt y2;omega
      have f5:¬OutB c l f.heap.size:=fun K=>by
       rcases f2 f.heap.size I.out.size (by omega) with z|z
       ·exact z K
       ·omega
      have e6:MapV l f.heap.size (i+j) (fun q=>(Tp.ownFor p vs q).map fun v=>.int .i64 v):=by
       rw[<-n1.out]
       refine HM.out.on ?_
       rw[R.block _ (by omega),H]
       exact zx _ (by omega)
      have g8:Sc c l D.heap.size (some f.heap.size) lo (Tp.ownFor p vs) (Tp.ownOf p) s.left:=by
       refine⟨by omega,f3,by rw[N];exact zo _ _,⟨by omega,by omega,f5,i+j,?_,e6⟩,n5.out,n2.out,p3.out⟩
       have:=HH.out.ll
       omega
      have c2:Tp.goS g (k+1) lo.m.name (Tp.ownFor p vs) p.body s≠.gas:=fun e=>HN.out (by rw[f1.out,e])
      have b1:=zh (hB (k+1) lo (Tp.ownFor p vs) (Tp.ownOf p) p.body (.slice ba bn bc) l s D.heap.size (some f.heap.size) i5.out i4 g8 c2)
      rw[o8]at b1
      have r9:=zh b4
      have f6:l.heap[B]?=f.heap[B]?:=by
       have p1:=zg h9.out
       rw[R.block B (by omega),H,zx B (by have:=o3.out;omega)]
       exact M.block B p1
      have k5:l.cell? ⟨B,o+5,none⟩=some (.slice ba bn bc):=(World.cell?_of_block (w:=f) f6).trans h9.out
      have p9:B<l.heap.size:=zg k5
      have m0:Hid (∀t J,Kp c (oY (some f.heap.size)) l t->Kp c nY t J->Kp c nY w J):=fun t J a b=>(b4.fresh a (fun b hb=>by injection hb with hb;rw[<-hb];exact I.out.size)).trans b
      clear M X d7 m7 c0 c7 R i4 o5 b5 b4 f2 f3 f5 e6 g8 f6 g0
      have Y:=f1.out
      cases a8:Tp.goS g (k+1) lo.m.name (Tp.ownFor p vs) p.body s with
      |gas=>exact absurd a8 c2
      |stop way s' =>
       rw[a8]at b1 Y
       have HR:Hid (∀t e,thrE endT (way:Int) e->(∃k',GS c t s' k')->Kp c (oY (some f.heap.size)) l t->EvP c k w s Z e t):=fun t e a1 a2 a3=>by rw[Y];exact⟨a1,a2,m0.out _ _ a3 (Kp.refl _ _ _)⟩
       clear Y a8 c2
       go_upto_region 17 with fail
       rw[<-H,<-N]
       clear H N j2 z2
       go_wp2_with fail
       refine b1.out.mono ?_
       rintro e t⟨⟨older,rfl⟩,P,a7⟩
       have o7:=zh P
       have c1:=zh a7
       clear P a7
       go_wp2_with fail
       exact⟨rfl,HR.out _ _ ⟨older,rfl⟩ o7.out c1.out⟩
      |ok r s' =>
       rw[a8]at b1 Y
       have HR:Hid (∀t J,GS c J s' k->s'.left<=s.left->Tp.I64 (r.2.getD 0)->Kp c (oY (some f.heap.size)) l t->Kp c nY t J->EvP c k w s Z (.returned (.int .i64 (r.2.getD 0))) J):=fun t J a1 a2 a3 a4 a5=>by rw[Y];exact⟨rfl,a1,m0.out _ _ a4 a5,a2,a3⟩
       clear Y a8 c2
       go_upto_region 17 with fail
       rw[<-H,<-N]
       clear H N j2 z2
       go_wp2_with fail
       refine b1.out.mono ?_
       rintro e t⟨rfl,P,a7,g4,i6⟩
       have h0:=P.wait U.out (k':=k) (by omega)
       have g7:Kp c nY t (t.setCell ⟨c.gb,2,none⟩ (.int .i64 (k:Int))):=Kp.reg P (by omega)
       obtain⟨s3,b8,_⟩:=P.blk
       have m2:t.cell? ⟨c.gb,2,none⟩=some (.int .i64 ((k:Int)+1)):=(za b8).trans (by simp[gcells4])
       have mz:t.frozen? ⟨c.gb,2,none⟩=false:=zi b8
       have r1:=zf b8
       have i1:=zh h0
       have h5:=zh g7
       have c1:=zh a7
       have m1:=zh g4
       have g3:=zh i6
       have ek:((k:Int)+1)-1=(k:Int):=by omega
       clear P a7 g4 i6 h0 g7 b8
       generalize r.2.getD 0=rv at *
       go_wp2_with fail
       go_ret
       first
        |exact HR.out _ _ i1.out m1.out g3.out c1.out h5.out
        | (rw[ek];exact HR.out _ _ i1.out m1.out g3.out c1.out h5.out)
theorem ta_told (n:Int)(w:World):(Instr.typeAssert (.iface 155 (.int .i64 n)) 20 155 true).run Tryz.prog w=.ok (.tuple #[.int .i64 n,.bool true]) w:=by kernel_rfl
theorem ta_end (n:Int)(w:World):(Instr.typeAssert (.iface 173 (.int .i64 n)) 20 155 true).run Tryz.prog w=.ok (.tuple #[.int .i64 0,.bool false]) w:=by kernel_rfl
theorem ta_nil (w:World):(Instr.typeAssert .nilIface 20 155 true).run Tryz.prog w=.ok (.tuple #[.int .i64 0,.bool false]) w:=by kernel_rfl
theorem blate_told (a:Nat)(n:Int)(older:List PanicEntry)(w:World){b:Value}(f:w.cell? ⟨a,0,none⟩=some b)(k:w.frozen? ⟨a,0,none⟩=false) :
  CallsD Tryz.prog 87 #[.pointer (some ⟨a,0,none⟩)] (.panicking ({ v:=.iface toldT (.int .i64 n),recovered:=false } :: older)) w fun e c w' =>
   e=.returned (.tuple #[])/\c=.panicking ({ v:=.iface toldT (.int .i64 n),recovered:=true } :: older)/\w'=w.setCell ⟨a,0,none⟩ (.int .i64 n):=by
 unfold toldT
 refine callsD_of_wpS Tryz.func87 rfl fun l cs h=>?_
 apply wpS_seq
 apply wpS_region
 simp[wpOpsS,go_sem,recoverD,h,Tryz.ntmps87,Exit.thenS]
 refine wpS_of_wp ?_
 have i:=ta_told n
 have j:=zg f
 generalize g:(fun (e:Exit) (d:Act) (w':World)=>bodyPostS Tryz.prog _ _ _ _ e d _ w')=Q
 show Code.wp Tryz.prog _ _ { tmps:=#[.pointer (some ⟨a,0,none⟩),.iface 155 (.int .i64 n),undef,undef,.iface 155 (.int .i64 n),undef,undef,undef,undef,undef,undef,undef,undef,undef,undef],defers:=[] } w
 go_wp2_with fail
 subst g
 simp[bodyPostS,results,Tryz.results87]
theorem blate_end (a:Nat)(n:Int)(older:List PanicEntry)(w:World) :
  CallsD Tryz.prog 87 #[.pointer (some ⟨a,0,none⟩)] (.panicking ({ v:=.iface endT (.int .i64 n),recovered:=false } :: older)) w fun e b w' =>
   e=.panicked [{ v:=.iface endT (.int .i64 n),recovered:=false }]/\b=.panicking ({ v:=.iface endT (.int .i64 n),recovered:=true } :: older)/\w'=w:=by
 unfold endT
 refine callsD_of_wpS Tryz.func87 rfl fun h cs f=>?_
 apply wpS_seq
 apply wpS_region
 simp[wpOpsS,go_sem,recoverD,f,Tryz.ntmps87,Exit.thenS]
 refine wpS_of_wp ?_
 have g:=ta_end n
 generalize d:(fun (e:Exit) (c:Act) (w':World)=>bodyPostS Tryz.prog _ _ _ _ e c _ w')=Q
 show Code.wp Tryz.prog _ _ { tmps:=#[.pointer (some ⟨a,0,none⟩),.iface 173 (.int .i64 n),undef,undef,.iface 173 (.int .i64 n),undef,undef,undef,undef,undef,undef,undef,undef,undef,undef],defers:=[] } w
 go_wp2_with fail
 subst d
 simp[bodyPostS]
theorem blate_idle (a:Nat)(w:World) :
  CallsD Tryz.prog 87 #[.pointer (some ⟨a,0,none⟩)] .returning w fun e b w'=>e=.returned (.tuple #[])/\b=.returning/\w'=w:=by
 refine callsD_of_wpS Tryz.func87 rfl fun d cs g=>?_
 apply wpS_seq
 apply wpS_region
 simp[wpOpsS,go_sem,recoverD,g,Tryz.ntmps87,Exit.thenS]
 refine wpS_of_wp ?_
 have h:=ta_nil
 generalize f:(fun (e:Exit) (c:Act) (w':World)=>bodyPostS Tryz.prog _ _ _ _ e c _ w')=Q
 show Code.wp Tryz.prog _ _ { tmps:=#[.pointer (some ⟨a,0,none⟩),.nilIface,undef,undef,.nilIface,undef,undef,undef,undef,undef,undef,undef,undef,undef,undef],defers:=[] } w
 go_wp2_with fail
 subst f
 cases d
 simp_all [bodyPostS,results,Tryz.results87]
end Go.Proofs.YtibncofnnlbmcaaGreatDoor
