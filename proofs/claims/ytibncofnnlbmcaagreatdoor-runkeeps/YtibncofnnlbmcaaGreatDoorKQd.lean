import Derived.Test.YtibncofnnlbmcaaGreatDoorKQc
import Derived.Defers
import Derived.Recover
set_option maxRecDepth 100000
set_option maxHeartbeats 4000000
namespace Go.Proofs.YtibncofnnlbmcaaGreatDoor
open Go.RowKit Go.Maps
open Tp (Bs X S G Pr Pt Rs Rr Own)
theorem jU (v:Value){P:Program}{f:FuncId}{args:Array Value}{w:World}{R T:Ending->World->Prop}(h:Calls P f args w T)(a:∀e w',T e w'->R e w')(_:Hid False->R (.returned v) w):Calls P f args w R:=h.mono a
def bothR (op:Bs) (a b:Int) (s:Rs):Rr Int:=match Tp.both op a b with
 |some v=>.ok v s
 |none=>.stop Tp.zero s
theorem both_in {e:Bs}{a b v:Int}(c:Tp.I64 a)(i:Tp.I64 b)(h:Tp.both e a b=some v):Tp.I64 v:=by
 unfold Tp.both at h
 split at h
 ·cases h;exact Tp.w64_in _
 split at h
 ·cases h;exact Tp.w64_in _
 split at h
 ·cases h;exact Tp.w64_in _
 split at h
 ·split at h
  ·cases h
  ·cases h;exact Tp.w64_in _
 split at h
 ·split at h
  ·cases h
  ·rename_i d
   cases h
   have f:=(Tp.both_rest c d).2.2
   unfold Tp.I64 at *
   have g:=(Tp.both_rest (a:=a) c d).2.1
   omega
 split at h
 ·cases h;exact jo _
 split at h
 ·cases h;exact jo _
 split at h
 ·cases h;exact jo _
 split at h
 ·cases h;exact jo _
 split at h
 ·cases h;exact jo _
 split at h
 ·cases h;exact jo _
 ·cases h;decide
theorem pair_else {c:Cx}(ok:CxOk c){k:Nat}{w:World}{s:Rs}{sb x y z:Nat}{rl:Rr Int}{rr:Rs->Rr Int}{d:Bs}(h0:d≠Tp.wAnd)(h1:d≠Tp.wOr)(h:GS c w s k)(hX:CellX c x (bs d) y z)
  (hL:Calls Tryz.prog 150 #[.pointer (some ⟨sb,0,none⟩),.pointer (some ⟨y,0,none⟩)] w (EvP c k w s rl))(hR:RightC c k w s sb z rr)
  {p:Rr Int}(J:p=bindR rl fun a s'=>bindR (rr s') fun b s2=>bothR d a b s2)(V:p≠.gas) :
  Calls Tryz.prog 175 #[.pointer (some ⟨sb,0,none⟩),.pointer (some ⟨x,0,none⟩)] w (EvP c k w s p):=by
 obtain⟨c2,_,k6,_⟩:=hX w s k h
 have g:=zh hX
 have HL:=zh hL
 have b2:=zh hR
 have L:=zh ok
 have b9:((bs d).toList==[97,110,100])=false:=by rw[zj];simpa[Tp.wAnd] using h0
 have c0:((bs d).toList==[111,114])=false:=by rw[zj];simpa[Tp.wOr] using h1
 have b6:=zh (fun a b ha hb W=>both_any d a b ha hb W)
 clear hX hL hR h ok h0 h1
 cases rl with
 |gas=>exact absurd (J.trans rfl) V
 |stop way s' =>
  have H:Hid (∀e W,EvP c k w s (.stop way s') e W->EvP c k w s p e W):=fun e W hW=>by rw[J];exact hW
  clear J V
  go_enter Tryz.func175,Tryz.ntmps175
  go_wp2_with fail
  refine HL.out.mono ?_
  rintro e w2⟨⟨older,rfl⟩,f,m⟩
  have b8:=zh f
  have B:=zh m
  clear f m
  go_wp2_with fail
  exact⟨rfl,H.out _ _ ⟨⟨older,rfl⟩,b8.out,B.out⟩⟩
 |ok a s1 =>
  have r:p=bindR (rr s1) fun b s2=>bothR d a b s2:=J
  clear J
  cases G:rr s1 with
  |gas=>rw[G]at r;exact absurd r V
  |stop way s2 =>
   rw[G]at r
   have H:Hid (∀W e j,Kp c nY w W->s1.left<=s.left->EvP c k W s1 (.stop way s2) e j->EvP c k w s p e j):=fun W e j Q a2 R=>by rw[r];exact R.up Q a2
   have C:Hid (rr s1=.stop way s2):=G
   clear r V G
   go_enter Tryz.func175,Tryz.ntmps175
   go_wp2_with fail
   refine HL.out.mono ?_
   rintro e w2⟨rfl,f,m,o,_⟩
   obtain⟨b5,j5,_,j7⟩:=g.out w2 _ _ f
   have i:=f.drew L.out
   have n:=m.trans (Kp.drew c nY f.lt)
   have t:=zh (b2.out w2.drew s1 i n o (by rw[C.out];simp))
   rw[C.out]at t
   have B:=zh n
   have a8:=zh o
   have M:Hid (w2.drew.cell? ⟨x,5,none⟩=some (.string (bs d))/\w2.drew.cell? ⟨x,7,none⟩=some (.pointer (some ⟨z,0,none⟩))):=⟨(g.out _ _ _ i).2.1,(g.out _ _ _ i).2.2.2⟩
   clear f m o i n
   go_wp2_with fail
   go_region_held (fun w'=>w'.cell? ⟨x,5,none⟩=some (.string (bs d))/\w'.cell? ⟨x,7,none⟩=some (.pointer (some ⟨z,0,none⟩))) (with_reducible (first|exact hF.out.elim|exact M.out)) (first|(go_at_call 150;refine yo t.out ?hT ?_;(case hT=>(rintro e I ⟨⟨older,rfl⟩,l,F⟩;exact⟨rfl,H.out _ _ _ B.out a8.out ⟨⟨older,rfl⟩,l,F⟩⟩));intro hF)|(go_at_call 200;refine jU (.tuple #[.int .i64 0,.bool true]) (T:=fun _ _=>False) hF.out.elim ?hT2 ?_;(case hT2=>(intro e w h;exact h.elim));intro c1))
   exact hF.out.elim
  |ok b s2 =>
   rw[G]at r
   have u:p=bothR d a b s2:=r
   unfold bothR at u
   have C:Hid (rr s1=.ok b s2):=G
   clear r V G
   cases E:Tp.both d a b with
   |some v =>
    rw[E]at u
    have H:Hid (∀W j,Kp c nY w W->s1.left<=s.left->GS c j s2 k->Kp c nY W j->s2.left<=s1.left->Tp.I64 a->Tp.I64 b->EvP c k w s p (.returned (.int .i64 v)) j):=fun W j Q a2 R a4 a5 S U=>by rw[u];exact⟨rfl,R,Q.trans a4,Nat.le_trans a5 a2,both_in S U E⟩
    have a9:Hid (∀W,Tp.I64 a->Tp.I64 b->Calls Tryz.prog 200 #[.string (bs d),.int .i64 a,.int .i64 b] W fun e w'=>e=.returned (.tuple #[.int .i64 v,.bool true])/\Below W.heap.size W w'):=fun W S U=>by
     have:=b6.out a b S U W
     rw[E]at this
     exact this.mono fun e w' q=>⟨q.2,q.1⟩
    clear u E
    go_enter Tryz.func175,Tryz.ntmps175
    go_wp2_with fail
    refine HL.out.mono ?_
    rintro e w2⟨rfl,f,m,o,N⟩
    obtain⟨b5,j5,_,j7⟩:=g.out w2 _ _ f
    have i:=f.drew L.out
    have n:=m.trans (Kp.drew c nY f.lt)
    have t:=zh (b2.out w2.drew s1 i n o (by rw[C.out];simp))
    rw[C.out]at t
    have B:=zh n
    have a8:=zh o
    have Y:=zh N
    have M:Hid (w2.drew.cell? ⟨x,5,none⟩=some (.string (bs d))/\w2.drew.cell? ⟨x,7,none⟩=some (.pointer (some ⟨z,0,none⟩))):=⟨(g.out _ _ _ i).2.1,(g.out _ _ _ i).2.2.2⟩
    clear f m o i n N
    go_wp2_with fail
    go_region_held3 (fun w'=>w'.cell? ⟨x,5,none⟩=some (.string (bs d))/\w'.cell? ⟨x,7,none⟩=some (.pointer (some ⟨z,0,none⟩))) (with_reducible (first|exact b4.out|exact b3.out|exact M.out)) (first|(go_at_call 150;refine t.out.mono ?_;rintro e I ⟨rfl,l,F,P,O⟩;have K:=zh l;have b0:=zh F;have b7:=zh P;have Z:=zh O;have b3:Hid (I.cell? ⟨x,5,none⟩=some (.string (bs d))/\I.cell? ⟨x,7,none⟩=some (.pointer (some ⟨z,0,none⟩))):=⟨(g.out _ _ _ l).2.1,(g.out _ _ _ l).2.2.2⟩;clear l F P O)|(go_at_call 200;refine(a9.out _ Y.out Z.out).mono ?_;rintro e X ⟨rfl,D⟩;have A:=zh (K.out.below L.out D);have b1:=zh (b0.out.trans (Kp.below D K.out.lt));have b4:Hid (X.cell? ⟨x,5,none⟩=some (.string (bs d))/\X.cell? ⟨x,7,none⟩=some (.pointer (some ⟨z,0,none⟩))):=⟨(g.out _ _ _ A.out).2.1,(g.out _ _ _ A.out).2.2.2⟩;clear D))
    go_wp2_with fail
    go_ret
    exact H.out _ _ B.out a8.out A.out b1.out b7.out Y.out Z.out
   |none =>
    rw[E]at u
    have H:Hid (∀W j e,thrE endT (Tp.zero:Int) e->Kp c nY w W->GS c j s2 k->Kp c nY W j->EvP c k w s p e j):=fun W j e a0 Q R a4=>by rw[u];exact⟨a0,⟨k,R⟩,Q.trans a4⟩
    have a9:Hid (∀W,Tp.I64 a->Tp.I64 b->Calls Tryz.prog 200 #[.string (bs d),.int .i64 a,.int .i64 b] W fun e w'=>e=.returned (.tuple #[.int .i64 0,.bool false])/\Below W.heap.size W w'):=fun W S U=>by
     have:=b6.out a b S U W
     rw[E]at this
     exact this.mono fun e w' q=>⟨q.2,q.1⟩
    clear u E
    go_enter Tryz.func175,Tryz.ntmps175
    go_wp2_with fail
    refine HL.out.mono ?_
    rintro e w2⟨rfl,f,m,o,N⟩
    obtain⟨b5,j5,_,j7⟩:=g.out w2 _ _ f
    have i:=f.drew L.out
    have n:=m.trans (Kp.drew c nY f.lt)
    have t:=zh (b2.out w2.drew s1 i n o (by rw[C.out];simp))
    rw[C.out]at t
    have B:=zh n
    have a8:=zh o
    have Y:=zh N
    have M:Hid (w2.drew.cell? ⟨x,5,none⟩=some (.string (bs d))/\w2.drew.cell? ⟨x,7,none⟩=some (.pointer (some ⟨z,0,none⟩))):=⟨(g.out _ _ _ i).2.1,(g.out _ _ _ i).2.2.2⟩
    clear f m o i n N
    go_wp2_with fail
    go_region_held3 (fun w'=>w'.cell? ⟨x,5,none⟩=some (.string (bs d))/\w'.cell? ⟨x,7,none⟩=some (.pointer (some ⟨z,0,none⟩))) (with_reducible (first|exact b4.out|exact b3.out|exact M.out)) (first|(go_at_call 150;refine t.out.mono ?_;rintro e I ⟨rfl,l,F,P,O⟩;have K:=zh l;have b0:=zh F;have b7:=zh P;have Z:=zh O;have b3:Hid (I.cell? ⟨x,5,none⟩=some (.string (bs d))/\I.cell? ⟨x,7,none⟩=some (.pointer (some ⟨z,0,none⟩))):=⟨(g.out _ _ _ l).2.1,(g.out _ _ _ l).2.2.2⟩;clear l F P O)|(go_at_call 200;refine(a9.out _ Y.out Z.out).mono ?_;rintro e X ⟨rfl,D⟩;have A:=zh (K.out.below L.out D);have b1:=zh (b0.out.trans (Kp.below D K.out.lt));have b4:Hid (X.cell? ⟨x,5,none⟩=some (.string (bs d))/\X.cell? ⟨x,7,none⟩=some (.pointer (some ⟨z,0,none⟩))):=⟨(g.out _ _ _ A.out).2.1,(g.out _ _ _ A.out).2.2.2⟩;clear D))
    go_wp2_with fail
    exact⟨rfl,H.out _ _ _ ⟨noP,rfl⟩ B.out A.out b1.out⟩
theorem evX_bin (g k:Nat)(m:Bs)(own:Own)(pos n:Nat)(md nm e:Bs)(i ri j:List X)(s:Rs):Tp.evX (g+1) k m own [⟨5,pos,n,md,nm,e,i,ri,j⟩] s=bindR (Tp.evX g k m own i s) fun a c=>if e=Tp.wAnd then (if a=0 then .ok 0 c else bindR (Tp.evX g k m own ri c) fun b s2=>.ok (Tp.b01 (b≠0)) s2) else if e=Tp.wOr then (if a≠0 then .ok 1 c else bindR (Tp.evX g k m own ri c) fun b s2=>.ok (Tp.b01 (b≠0)) s2) else bindR (Tp.evX g k m own ri c) fun b s2=>bothR e a b s2:=by
 rw[Tp.evX]
 show (Tp.Ru.bind _ _) s=_
 unfold Tp.Ru.bind bindR
 cases Tp.evX g k m own i s with
 |gas=>rfl
 |stop way c=>rfl
 |ok a c =>
  simp only
  by_cases f:e=Tp.wAnd
  ·rw[if_pos f,if_pos f]
   by_cases d:a=0
   ·rw[if_pos d,if_pos d];rfl
   ·rw[if_neg d,if_neg d]
    cases Tp.evX g k m own ri c<;>rfl
  ·rw[if_neg f,if_neg f]
   by_cases d:e=Tp.wOr
   ·rw[if_pos d,if_pos d]
    by_cases h:a≠0
    ·rw[if_pos h,if_pos h];rfl
    ·rw[if_neg h,if_neg h]
     cases Tp.evX g k m own ri c<;>rfl
   ·rw[if_neg d,if_neg d]
    cases Tp.evX g k m own ri c with
    |gas=>rfl
    |stop way s2=>rfl
    |ok b s2 =>
     simp only
     unfold bothR
     cases Tp.both e a b<;>rfl
theorem value_bin {c:Cx}{g:Nat}(ok:CxOk c)(G:EvC c g){k:Nat}{lo:Lo}{own:Own}{names:List Bs}{x:Nat}{w:World}{s:Rs}{p pos n:Nat}{ob:Option Nat}{md nm f:Bs}{i ri F:List X}(A:Ex c lo names [⟨5,pos,n,md,nm,f,i,ri,F⟩] x)(h:GS c w s k)(H:Sc c w p ob lo own names s.left)(j:Tp.evX (g+1) k lo.m.name own [⟨5,pos,n,md,nm,f,i,ri,F⟩] s≠.gas) :
  Calls Tryz.prog 150 #[.pointer (some ⟨p,0,none⟩),.pointer (some ⟨x,0,none⟩)] w (EvP c k w s (Tp.evX (g+1) k lo.m.name own [⟨5,pos,n,md,nm,f,i,ri,F⟩] s)):=by
 have I:=A.wx
 rw[Tp.WX]at I
 obtain⟨R,O,S,Q⟩:Tp.WX i/\i.length=1/\Tp.WX ri/\ri.length=1:=by
  rcases I.1 with q|q|q|q|q|q
  ·exact absurd q.1 (by decide)
  ·exact absurd q.1 (by decide)
  ·exact absurd q.1 (by decide)
  ·exact absurd q.1 (by decide)
  ·exact⟨q.2.2.2.2.2.1,q.2.2.2.2.2.2.1,q.2.2.2.2.2.2.2.1,q.2.2.2.2.2.2.2.2.1⟩
  ·exact absurd q.1 (by decide)
 rw[evX_bin]at j ⊢
 obtain⟨av,ls,rs,gs,u,o,J,_,rr,_⟩:=A.blk
 obtain⟨y,rfl,_⟩:=J.part O
 obtain⟨z,rfl,_⟩:=rr.part Q
 have K:=A.left J R
 have L:=A.right rr S
 have E:=(h.st x u).trans o
 have a1:=zf E
 have k0:w.cell? ⟨x,0,none⟩=some (.int .i64 5):=(za E).trans rfl
 have D:CellX c x (bs f) y z:=fun W d k' l=>⟨zf ((l.st x u).trans o),(za ((l.st x u).trans o)).trans rfl,(za ((l.st x u).trans o)).trans rfl,(za ((l.st x u).trans o)).trans rfl⟩
 have P:Tp.evX g k lo.m.name own i s≠.gas:=fun e=>j (by rw[e];rfl)
 have B:=G k lo own names i y w s p ob K h H P
 have C:RightC c k w s p z (fun d=>Tp.evX g k lo.m.name own ri d):=fun W d l hK Z a0=>G k lo own names ri z W d p ob L l (H.kp hK ok.Vlt Z) a0
 have T:Hid (Calls Tryz.prog 175 #[.pointer (some ⟨p,0,none⟩),.pointer (some ⟨x,0,none⟩)] w (EvP c k w s (bindR (Tp.evX g k lo.m.name own i s) fun a d=>if f=Tp.wAnd then (if a=0 then .ok 0 d else bindR (Tp.evX g k lo.m.name own ri d) fun b s2=>.ok (Tp.b01 (b≠0)) s2) else if f=Tp.wOr then (if a≠0 then .ok 1 d else bindR (Tp.evX g k lo.m.name own ri d) fun b s2=>.ok (Tp.b01 (b≠0)) s2) else bindR (Tp.evX g k lo.m.name own ri d) fun b s2=>bothR f a b s2))):=by
  by_cases r:f=Tp.wAnd
  ·refine pair_and (rr:=fun d=>Tp.evX g k lo.m.name own ri d) (by rw[zj,r];rfl) h D B C ?_ j
   simp only[if_pos r]
  ·by_cases t:f=Tp.wOr
   ·refine pair_or (rr:=fun d=>Tp.evX g k lo.m.name own ri d) (by rw[zj,t];rfl) (by rw[zj,t];rfl) h D B C ?_ j
    simp only[if_neg r,if_pos t]
   ·refine pair_else (rr:=fun d=>Tp.evX g k lo.m.name own ri d) ok r t h D B C ?_ j
    simp only[if_neg r,if_neg t]
 generalize (bindR (Tp.evX g k lo.m.name own i s) fun a d=>if f=Tp.wAnd then (if a=0 then .ok 0 d else bindR (Tp.evX g k lo.m.name own ri d) fun b s2=>.ok (Tp.b01 (b≠0)) s2) else if f=Tp.wOr then (if a≠0 then .ok 1 d else bindR (Tp.evX g k lo.m.name own ri d) fun b s2=>.ok (Tp.b01 (b≠0)) s2) else bindR (Tp.evX g k lo.m.name own ri d) fun b s2=>bothR f a b s2)=res at *
 clear o E h H A K L J rr I R S O Q G D P B C
 cases res with
 |gas=>exact absurd rfl j
 |stop way d =>
  clear j
  go_enter Tryz.func150,Tryz.ntmps150
  go_wp2_with fail
  refine T.out.mono ?_
  rintro e w2⟨⟨older,rfl⟩,M,N⟩
  have V:=zh M
  have Y:=zh N
  clear M N
  go_wp2_with fail
  exact⟨rfl,⟨older,rfl⟩,V.out,Y.out⟩
 |ok v d =>
  clear j
  go_enter Tryz.func150,Tryz.ntmps150
  go_wp2_with fail
  refine T.out.mono ?_
  rintro e w2⟨rfl,U⟩
  have HQ:=zh U
  clear U
  go_wp2_with fail
  go_ret
  exact⟨rfl,HQ.out⟩
def ownL (l:List (Bs×Int)):Own:=fun q=>(l.find? fun x=>x.1==q).map (·.2)
def ownF (l:List (Bs×Int)):Bs->Option Value:=fun q=>(ownL l q).map fun v=>.int .i64 v
theorem ownF_add {l:List (Bs×Int)}{n:Bs}{v:Int}(h:n ∉ l.map (·.1)):updV (ownF l) n (.int .i64 v)=ownF (l++[(n,v)]):=by
 funext q
 unfold updV ownF ownL
 rw[List.find?_append]
 by_cases e:q=n
 ·subst e
  rw[if_pos rfl]
  have:l.find? (fun x=>x.1==q)=none:=by
   rw[List.find?_eq_none]
   intro x a c
   exact h (List.mem_map.2 ⟨x,a,by simpa using c⟩)
  rw[this]
  simp
 ·rw[if_neg e]
  have:([(n,v)]:List (Bs×Int)).find? (fun x=>x.1==q)=none:=by
   rw[List.find?_eq_none]
   intro x a
   simp at a
   subst a
   simpa using fun b=>e b.symm
  rw[this]
  simp
def ownAll (p:Pr) (vs:List Int):List (Bs×Int):=p.params.zip vs++p.vars.map fun n=>(n,0)
theorem vJ (p:Pr)(vs:List Int):ownL (ownAll p vs)=Tp.ownFor p vs:=by
 funext q
 unfold ownL ownAll Tp.ownFor
 rw[List.find?_append]
 cases h:(p.params.zip vs).find? (fun x=>x.1==q) with
 |some x=>simp
 |none =>
  simp only[Option.none_or]
  by_cases a:q∈p.vars
  ·rw[if_pos a]
   have:(p.vars.map fun n=>(n,(0:Int))).find? (fun x=>x.1==q)=some (q,0):=by
    rw[List.find?_map]
    have d:p.vars.find? ((fun x:Bs×Int=>x.1==q) ∘ fun n=>(n,0))=some q:=by
     obtain⟨y,b⟩:=Option.isSome_iff_exists.1 (List.find?_isSome.2 ⟨q,a,by simp⟩:(p.vars.find? ((fun x:Bs×Int=>x.1==q) ∘ fun n=>(n,0))).isSome=true)
     have:=List.find?_some b
     rw[b]
     congr 1
     simpa using this
    rw[d]
    rfl
   rw[this]
   rfl
  ·rw[if_neg a]
   have:(p.vars.map fun n=>(n,(0:Int))).find? (fun x=>x.1==q)=none:=by
    rw[List.find?_eq_none]
    intro x e c
    obtain⟨y,b,rfl⟩:=List.mem_map.1 e
    simp at c
    exact a (c ▸ b)
   rw[this]
   rfl
theorem jB {p:Pr}{vs:List Int}(h:vs.length=p.params.length):(ownAll p vs).map (·.1)=Tp.ownOf p:=by
 unfold ownAll Tp.ownOf
 rw[List.map_append,List.map_map]
 congr 1
 ·rw[List.map_fst_zip (by omega)]
 ·simp[Function.comp_def]
theorem ownFor_dom {p:Pr}{vs:List Int}(h:vs.length=p.params.length)(q:Bs):(Tp.ownFor p vs q).isSome=true↔q∈Tp.ownOf p:=by
 rw[<-vJ,<-jB h]
 unfold ownL
 rw[Option.isSome_map,List.find?_isSome]
 simp
theorem ownFor_i64 {p:Pr}{vs:List Int}(h:∀v∈vs,Tp.I64 v):∀q v,Tp.ownFor p vs q=some v->Tp.I64 v:=by
 intro q v c
 unfold Tp.ownFor at c
 cases d:(p.params.zip vs).find? (fun x=>x.1==q) with
 |some x =>
  rw[d]at c
  simp at c
  subst c
  have:=List.mem_of_find?_eq_some d
  exact h _ (List.of_mem_zip (a:=x.1) (b:=x.2) this).2
 |none =>
  rw[d]at c
  simp only at c
  split at c
  ·cases c;decide
  ·cases c
theorem uN {p:Pr}{vs:List Int}(h:vs.length=p.params.length)(d:(Tp.ownOf p).Nodup)(j:Nat)(n:Bs)(v:Int)(k:(ownAll p vs)[j]?=some (n,v)):updV (ownF ((ownAll p vs).take j)) n (.int .i64 v)=ownF ((ownAll p vs).take (j+1)):=by
 obtain⟨a,e⟩:=List.getElem?_eq_some_iff.1 k
 rw[List.take_succ_eq_append_getElem a,e]
 refine ownF_add ?_
 rw[<-jB h]at d
 intro c
 rw[List.map_take]at c
 obtain⟨i,g,b⟩:=List.getElem_of_mem c
 rw[List.length_take,List.length_map]at g
 rw[List.getElem_take]at b
 have f:((ownAll p vs).map (·.1))[j]'(by simpa using a)=n:=by simp[e]
 have:=(List.getElem_inj (h₀:=by simp;omega) (h₁:=by simpa using a) d).1 (b.trans f.symm)
 omega
theorem ownAll_par {p:Pr}{vs:List Int}(h:vs.length=p.params.length){i:Nat}(a:i<p.params.length):(ownAll p vs)[i]?=some (p.params[i],vs[i]'(by omega)):=by
 unfold ownAll
 rw[List.getElem?_append_left (by simp;omega)]
 rw[List.getElem?_eq_getElem (by simp;omega)]
 simp
theorem ownAll_var {p:Pr}{vs:List Int}(h:vs.length=p.params.length){i:Nat}(a:i<p.vars.length):(ownAll p vs)[p.params.length+i]?=some (p.vars[i],0):=by
 unfold ownAll
 rw[List.getElem?_append_right (by simp;omega)]
 simp[h,a]
theorem ownAll_len {p:Pr}{vs:List Int}(h:vs.length=p.params.length):(ownAll p vs).length=p.params.length+p.vars.length:=by simp[ownAll,h]
structure IntsAt (w:World) (vs:List Int) (a:Option Addr):Prop where
 c:∀i (h:i<vs.length),∃b o,a=some ⟨b,o,none⟩/\b<w.heap.size/\w.cell? ⟨b,o+i,none⟩=some (.int .i64 vs[i])
theorem IntsAt.on {w w':World}{vs:List Int}{a:Option Addr}(h:IntsAt w vs a)(k:Below w.heap.size w w'):IntsAt w' vs a :=
 ⟨fun i g=>by obtain⟨b,o,e,d,f⟩:=h.c i g;exact⟨b,o,e,Nat.lt_of_lt_of_le d k.size,(k.cell (p:=⟨b,o+i,none⟩) d).trans f⟩⟩
theorem GS.outlt {c:Cx}{w:World}{s:Rs}{k:Nat}(h:GS c w s k){b:Nat}(g:OutB c w b):b<w.heap.size:=by
 obtain⟨i,d,e⟩:=h.blk
 obtain⟨v,a,f⟩:=g
 rw[za d]at a
 cases a
 exact(e.lt b f).2
def oY (ob:Option Nat) (b:Nat):Prop:=ob=some b
def BodyP (c:Cx) (k:Nat) (ob:Option Nat) (w:World) (s:Rs) (r:Rr (Own×Option Int)) (e:Ending) (w':World):Prop:=match r with
 | .ok r1 s'=>e=.returned (.int .i64 (r1.2.getD 0))/\GS c w' s' k/\Kp c (oY ob) w w'/\s'.left<=s.left/\Tp.I64 (r1.2.getD 0)
 | .stop way s'=>thrE endT (way:Int) e/\(∃k',GS c w' s' k')/\Kp c (oY ob) w w'
 | .gas=>True
structure Ss (c:Cx) (lo:Lo) (names:List Bs) (l:List S) (v:Value):Prop where
 rep:∃cs,RepS c.w0 c.D l cs/\OwnS c.w0 c.D v l.length cs
 ws:Tp.WS l
 fit:∀r∈Tp.rs l,Tp.FitR c.ms lo.m names r
theorem OwnS.len {w:World}{D:Nat->Prop}{v:Value}{n:Nat}{cs:List Value}(h:OwnS w D v n cs):n<=9223372036854775807:=by
 rcases h with⟨_,h⟩|⟨g,cap,cur,_,_,_,h4,h5,_⟩
 ·omega
 ·unfold maxLen at h5;omega
def BodyC (c:Cx) (g:Nat):Prop:=∀(k:Nat) (lo:Lo) (own:Own) (names:List Bs) (l:List S) (v:Value) (w:World) (s:Rs) (sb:Nat) (ob:Option Nat),
 Ss c lo names l v->GS c w s k->Sc c w sb ob lo own names s.left->Tp.goS g k lo.m.name own l s≠.gas ->
 Calls Tryz.prog 43 #[.pointer (some ⟨sb,0,none⟩),v] w (BodyP c k ob w s (Tp.goS g k lo.m.name own l s))
def CallC (c:Cx) (g:Nat):Prop:=∀(k:Nat) (lo:Lo) (nm:Bs) (p:Pr) (vs:List Int) (w:World) (s:Rs) (aa:Option Addr) (ac:Nat),
 lo∈c.L->Tp.procIn lo.m nm=some p->vs.length=p.params.length->(∀v∈vs,Tp.I64 v)->GS c w s k->IntsAt w vs aa->Tp.callP g k lo.m.name p vs s≠.gas ->
 Calls Tryz.prog 56 #[.pointer (some ⟨c.gb,0,none⟩),.pointer (some ⟨lo.lb,0,none⟩),.string (bs nm),.slice aa vs.length ac] w (EvP c k w s (Tp.callP g k lo.m.name p vs s))
theorem Row.str {w:World}{D:Nat->Prop}{v:Value}{ns:List Bs}(h:Row w D 9 1 v ns.length (strs ns)):∃a c,v=.slice a ns.length c/\∀i (d:i<ns.length),∃b,a=some ⟨b,0,none⟩/\D b/\w.cell? ⟨b,i,none⟩=some (.string (bs ns[i])):=by
 obtain⟨a,c,rfl⟩:=h.shape
 refine⟨a,c,rfl,fun i d=>?_⟩
 obtain⟨g,cap,e,f,k,j⟩:=yu h (by omega)
 cases e
 refine⟨g,rfl,f,?_⟩
 rw[j i (by omega)]
 simp[strs,d]
theorem callP_eq (g k:Nat)(m:Bs)(p:Pr)(vs:List Int)(s:Rs):Tp.callP (g+1) k m p vs s=if 30<=k then .stop Tp.deep s else (match Tp.goS g (k+1) m (Tp.ownFor p vs) p.body s with
  | .ok r s'=>.ok (r.2.getD 0) s'
  | .stop way s'=>.stop way s'
  | .gas=>.gas):=by
 rw[Tp.callP]
 by_cases h:30<=k
 ·rw[if_pos h,if_pos h];rfl
 ·rw[if_neg h,if_neg h]
  unfold Tp.Ru.bind
  cases Tp.goS g (k+1) m (Tp.ownFor p vs) p.body s<;>rfl
theorem call_all {c:Cx}{g:Nat}(ok:CxOk c)(hB:BodyC c g):CallC c (g+1):=by
 intro k lo nm p vs w s aa ac c1 hp p3 i9 h e6 hn
 rw[callP_eq]at hn ⊢
 obtain⟨Z,M⟩:∃Z,Z=(if 30<=k then .stop Tp.deep s else (match Tp.goS g (k+1) lo.m.name (Tp.ownFor p vs) p.body s with
  | .ok r s'=>.ok (r.2.getD 0) s'
  | .stop way s'=>.stop way s'
  | .gas=>.gas):Rr Int):=⟨_,rfl⟩
 rw[<-M]at hn ⊢
 have V:=h.lt
 have c6:p∈lo.m.procs:=List.mem_of_find?_eq_some hp
 have b5:=(ok.lo lo c1).fit
 have d9:=b5.wm.p p c6
 have i5:=b5.on p c6
 have g9:=zh (rproc h ok c1 nm)
 have HH:=zh h
 have T:=zh ok
 have e8:=zh e6
 have m5:Hid (∀r∈Tp.rs p.body,Tp.FitR c.ms lo.m (Tp.ownOf p) r):=b5.pr p c6
 have b8:=zh d9
 have g7:=zh i5
 have h3:=zh i9
 have o0:=zh c1
 have HP:Hid (Tp.procIn lo.m nm=some p):=hp
 obtain⟨ov,a6,_⟩:=h.blk
 have s4:=zh a6
 have s8:=h.kl
 have d2:Hid (vs.length=p.params.length):=p3
 have o9:p.params.length+p.vars.length<=10:=d9.c
 have s9:=@run_makeMap Tryz.prog
 clear h ok e6 b5 d9 i5 i9 c1 hp c6
 by_cases hk:30<=k
 ·have n3:k=30:=by omega
  subst n3
  rw[if_pos zn]at M
  have HR:Hid (∀W e,Below w.heap.size w W->thrE endT (Tp.deep:Int) e->EvP c 30 w s Z e W):=fun W e hW he=>by rw[M];exact⟨he,⟨30,HH.out.below T.out hW⟩,Kp.below hW HH.out.lt⟩
  have d5:w.cell? ⟨c.gb,2,none⟩=some (.int .i64 30):=(za a6).trans rfl
  clear M hn a6
  generalize vs.length=vn at *
  go_enter Tryz.func56,Tryz.ntmps56
  go_wp2_with fail
  refine g9.out.mono ?_
  rintro e f⟨v,rfl,_,E⟩
  have k2:=(E.cell (p:=⟨c.gb,2,none⟩) V).trans d5
  have f1:c.gb<f.heap.size:=Nat.lt_of_lt_of_le V E.size
  have H:=zh E
  clear E
  go_wp2_with fail
  exact⟨rfl,HR.out _ _ H.out ⟨noP,rfl⟩⟩
 ·rw[if_neg hk]at M
  have d5:w.cell? ⟨c.gb,2,none⟩=some (.int .i64 (k:Int)):=(za a6).trans rfl
  have d6:¬(k:Int)=30:=by omega
  have e9:Hid (Z=_):=M
  have HN:=zh hn
  clear M hn a6
  have f6:vs.length=p.params.length:=d2.out
  generalize p4:vs.length=vn at *
  go_enter Tryz.func56,Tryz.ntmps56
  go_wp2_with fail
  refine g9.out.mono ?_
  rintro e f⟨v,rfl,d7,E⟩
  unfold ProcP at d7
  rw[HP.out]at d7
  obtain⟨B,o,rfl,S⟩:=d7
  obtain⟨pv,vv,bv,o4,r3,r4,r5,m3,m4,m1,e5⟩:=S.r
  have N:=HH.out.below T.out E
  have k2:=(E.cell (p:=⟨c.gb,2,none⟩) V).trans d5
  have f1:c.gb<f.heap.size:=Nat.lt_of_lt_of_le V E.size
  obtain⟨p5,t4,rfl,i6⟩:=m3.str
  obtain⟨m0,p6,rfl,i7⟩:=m4.str
  have c3:=N.cell0 S.d r3
  have f5:=zg c3
  obtain⟨w2,b3⟩:∃w2,w2=f.alloc (.map #[] 0):=⟨_,rfl⟩
  have c7:Below f.heap.size f w2:=by rw[b3];exact zb _ _
  have i4:MapV w2 f.heap.size 0 (ownF ((ownAll p vs).take 0)):=by rw[b3];exact MapV.made f
  have t0:f.heap.size<w2.heap.size:=by rw[b3];simp
  have h4:=(c7.cell (p:=⟨B,o+3,none⟩) f5).trans c3
  have m8:B<w2.heap.size:=by omega
  have Y:vs.length=p.params.length:=by rw[p4];exact d2.out
  obtain⟨pn,b2⟩:∃pn,pn=p.params.length:=⟨_,rfl⟩
  obtain⟨A,d8⟩:∃A,A=p.vars.length:=⟨_,rfl⟩
  have g8:Hid (∀i,i<pn->∃b x u F Q,p5=some ⟨b,0,none⟩/\b<f.heap.size/\f.cell? ⟨b,i,none⟩=some (.string (bs x))/\(ownAll p vs)[i]?=some (x,u)/\x.length<=1000000/\aa=some ⟨F,Q,none⟩/\F<f.heap.size/\f.cell? ⟨F,Q+i,none⟩=some (.int .i64 u)):=by
   intro i G
   rw[b2]at G
   obtain⟨b,e1,e2,e3⟩:=i6 i G
   obtain⟨F,Q,a1,a2,a3⟩:=(e8.out.on E).c i (by omega)
   have e4:=N.cell0 e2 e3
   exact⟨b,_,_,F,Q,e1,zg e4,e4,ownAll_par Y G,zQ (b8.out.ps _ (List.getElem_mem G)),a1,a2,a3⟩
  have o1:Hid (∀i,i<A->∃b x,m0=some ⟨b,0,none⟩/\b<f.heap.size/\f.cell? ⟨b,i,none⟩=some (.string (bs x))/\(ownAll p vs)[pn+i]?=some (x,0)/\x.length<=1000000):=by
   intro i G
   rw[d8]at G
   obtain⟨b,e1,e2,e3⟩:=i7 i G
   have e4:=N.cell0 e2 e3
   rw[b2]
   exact⟨b,_,e1,zg e4,e4,ownAll_var Y G,zQ (b8.out.vs _ (List.getElem_mem G))⟩
  have h0:Hid (∀j n v,(ownAll p vs)[j]?=some (n,v)->updV (ownF ((ownAll p vs).take j)) n (.int .i64 v)=ownF ((ownAll p vs).take (j+1))):=fun j n v hj=>uN Y g7.out j n v hj
  have m9:Hid (ownF ((ownAll p vs).take (pn+A))=fun q=>(Tp.ownFor p vs q).map fun v=>.int .i64 v):=by
   show _=_
   rw[List.take_of_length_le (by rw[ownAll_len Y];omega)]
   unfold ownF
   rw[vJ]
  have n0:Hid (∀q,(Tp.ownFor p vs q).isSome=true↔q∈Tp.ownOf p):=ownFor_dom Y
  have n1:Hid (∀q v,Tp.ownFor p vs q=some v->Tp.I64 v):=ownFor_i64 h3.out
  have n7:=zh N
  have H:=zh E
  have a0:=zh c7
  have g6:=zh i4
  have c4:=N.cell0 S.d r4
  have c5:=N.cell0 S.d r5
  rw[<-d8]at c4
  have c9:=zh c4
  have f7:Hid (Ss c lo (Tp.ownOf p) p.body bv):=⟨⟨o4,m1,e5⟩,b8.out.b,m5.out⟩
  obtain⟨ba,bc,h7⟩:=e5.shape
  rw[h7]at c5 f7
  have f8:=zh c5
  have n9:=zh k2
  have o2:Hid (B<c.gb):=S.d.1
  have r8:pn+A<=10:=by omega
  have o3:Hid (vn=pn):=f6.trans b2.symm
  clear f6
  rw[<-b2]at h4
  clear S E c7 i4 r3 r4 r5 m3 m4 m1 e5 i6 i7 N c3 h7 Y c4 c5 b2 d8 o9 d2 b8 g7 h3 e8 f5
  generalize s5:p.body.length=bn at *
  have r9:(pn:Int)<=10:=by omega
  have s0:(A:Int)<=10:=by omega
  go_upto_region 5 with fail
  rw[<-b3]
  clear b3 k2
  go_wp2_with fail
  have i2:((k:Int)==30)=false:=by simpa using d6
  simp only[i2]
  clear i2 d6
  go_loopg [32] pn (fun k vi wr=>∃i:Nat,i<=pn/\k=pn-i/\vi=.int .i64 (i:Int)/\Hid (MapV wr f.heap.size i (ownF ((ownAll p vs).take i)))/\Hid (Ext f.heap.size w2 wr))
  case atStart=>exact⟨0,by omega,by omega,rfl,g6,Ext.refl _ _⟩
  case round =>
   obtain⟨i,s6,d6,rfl,HM,C⟩:=hrel
   have s1:=C.out.size
   by_cases o8:i<pn
   ·have n4:(i:Int)<(pn:Int):=by omega
    obtain⟨b,x,u,F,Q,rfl,d3,a9,a8,e0,rfl,o5,h6⟩:=g8.out i o8
    have kb:wr.cell? ⟨b,i,none⟩=some (.string (bs x)):=C.out.cell ((a0.out.cell (p:=⟨b,i,none⟩) d3).trans a9) (by simp;omega)
    have ka:wr.cell? ⟨F,Q+i,none⟩=some (.int .i64 u):=C.out.cell ((a0.out.cell (p:=⟨F,Q+i,none⟩) o5).trans h6) (by simp;omega)
    have n2:b<wr.heap.size:=by omega
    have r0:F<wr.heap.size:=by omega
    have s2:(i:Int)<(vn:Int):=by have:=o3.out;omega
    have HT:=zh (h0.out i x u a8)
    clear a9 h6 a8
    go_wp2_with (at_mapUpdate;refine zW _ rfl _ _ _ 96 rfl _ Tryz.underlying96 f.heap.size i _ HM.out (by omega) x e0 (.int .i64 u) rfl rfl rfl ?_)
    intro w3 q1 q2 q3
    have d1:Hid (MapV w3 f.heap.size (i+1) (ownF ((ownAll p vs).take (i+1)))):=by
     show MapV _ _ _ _
     rw[<-HT.out]
     exact q1
    have d0:Hid (Ext f.heap.size w2 w3):=C.out.trans q2
    clear q1 q2 q3
    go_wp2_with fail
    go_roundg (pn-(i+1))
    case measure=>omega
    case rel=>exact⟨i+1,by omega,rfl,by go_num,d1,d0⟩
   ·have n4:¬(i:Int)<(pn:Int):=by omega
    have o6:i=pn:=by omega
    subst o6
    have k4:wr.cell? ⟨B,o+4,none⟩=some (.slice m0 A p6):=C.out.cell ((a0.out.cell (p:=⟨B,o+4,none⟩) (zg c9.out)).trans c9.out) (by have:=zg c9.out;simp;omega)
    have n6:B<wr.heap.size:=by omega
    have g5:Hid (MapV wr f.heap.size (i+0) (ownF ((ownAll p vs).take (i+0)))):=HM
    have f9:=C
    clear HM C g8 h4 m8 g6
    go_wp2_with fail
    go_loopg [49] A (fun k vi wr=>∃j:Nat,j<=A/\k=A-j/\vi=.int .i64 (j:Int)/\Hid (MapV wr f.heap.size (i+j) (ownF ((ownAll p vs).take (i+j))))/\Hid (Ext f.heap.size w2 wr))
    case atStart=>exact⟨0,by omega,by omega,rfl,g5,f9⟩
    case round =>
     obtain⟨j,s7,r6,rfl,HM,C⟩:=hrel
     have p7:=C.out.size
     clear g5 f9 k4 n6
     by_cases n5:j<A
     ·have m6:(j:Int)<(A:Int):=by omega
      obtain⟨b,x,rfl,d3,a9,a8,e0⟩:=o1.out j n5
      have kb:wr.cell? ⟨b,j,none⟩=some (.string (bs x)):=C.out.cell ((a0.out.cell (p:=⟨b,j,none⟩) d3).trans a9) (by simp;omega)
      have n2:b<wr.heap.size:=by omega
      have HT:=zh (h0.out (i+j) x 0 a8)
      clear a9 a8
      go_wp2_with (at_mapUpdate;refine zW _ rfl _ _ _ 96 rfl _ Tryz.underlying96 f.heap.size (i+j) _ HM.out (by omega) x e0 (.int .i64 0) rfl rfl rfl ?_)
      intro w3 q1 q2 q3
      have d1:Hid (MapV w3 f.heap.size (i+(j+1)) (ownF ((ownAll p vs).take (i+(j+1))))):=by
       show MapV _ _ _ _
       rw[<-Nat.add_assoc,<-HT.out]
       exact q1
      have d0:Hid (Ext f.heap.size w2 w3):=C.out.trans q2
      clear q1 q2 q3
      go_wp2_with fail
      go_roundg (A-(j+1))
      case measure=>omega
      case rel=>exact⟨j+1,by omega,rfl,by go_num,d1,d0⟩
     ·have m6:¬(j:Int)<(A:Int):=by omega
      have o7:j=A:=by omega
      subst o7
      have L:Below f.heap.size f wr:=a0.out.trans (zT C.out zn (by omega))
      have X:=n7.out.below T.out L
      have p8:=zh L
      have s3:=zh X
      have j2:wr.cell? ⟨c.gb,2,none⟩=some (.int .i64 (k:Int)):=(L.cell (p:=⟨c.gb,2,none⟩) f1).trans n9.out
      obtain⟨t3,d4,m7⟩:=X.blk
      have z2:wr.frozen? ⟨c.gb,2,none⟩=false:=zi d4
      have r2:c.gb<wr.heap.size:=zf d4
      have t1:(k:Int)<=29:=by omega
      have c0:=X.wait T.out (k':=k+1) (by omega)
      have c8:Kp c nY wr (wr.setCell ⟨c.gb,2,none⟩ (.int .i64 ((k+1:Nat):Int))):=Kp.reg X (by omega)
      have h5:wr.setCell ⟨c.gb,2,none⟩ (.int .i64 ((k:Int)+1))=wr.setCell ⟨c.gb,2,none⟩ (.int .i64 ((k+1:Nat):Int)):=by rw[Int.natCast_add];rfl
      obtain⟨D,I⟩:∃D,D=wr.setCell ⟨c.gb,2,none⟩ (.int .i64 ((k:Int)+1)):=⟨_,rfl⟩
      rw[<-h5,<-I]at c0 c8
      obtain⟨l,P⟩:∃l,l=D.alloc (.cells #[.pointer (some ⟨c.gb,0,none⟩),.pointer (some ⟨lo.lb,0,none⟩),.map (some f.heap.size)] 98):=⟨_,rfl⟩
      have R:Below D.heap.size D l:=by rw[P];exact zb _ _
      have h8:=c0.below T.out R
      have p1:D.heap.size=wr.heap.size:=by rw[I];simp
      have p2:D.heap.size<l.heap.size:=by rw[P];simp
      have b6:Kp c nY wr l:=c8.trans (Kp.below R (by omega))
      have b4:Kp c nY w l:=(Kp.below (H.out.trans (L.mono (by have:=H.out.size;omega))) V).trans b6
      have f2:∀b,w.heap.size<=b->b<l.heap.size->¬OutB c l b\/wr.heap.size<=b:=fun b h1 h2=>by
       by_cases J:OutB c l b
       ·rcases b4.out b J with z|z
        ·have:=HH.out.outlt z;omega
        ·by_cases hz:wr.heap.size<=b
         ·exact Or.inr hz
         ·rcases b6.out b J with y|y
          ·have y2:OutB c w b:=(yr ((H.out.trans (L.mono (by have:=H.out.size;omega))).block c.gb V) b).1 y
           have:=HH.out.outlt y2;omega
          ·exact absurd y hz
       ·exact Or.inl J
      have f3:¬OutB c l D.heap.size:=fun J=>by
       rcases b6.out _ J with y|y
       ·have:=X.outlt y;omega
       ·have y2:OutB c D D.heap.size:=(yr (R.block c.gb (by omega)) _).1 J
        have:=c0.outlt y2;omega
      have f4:¬OutB c l f.heap.size:=fun J=>by
       rcases f2 f.heap.size H.out.size (by omega) with z|z
       ·exact z J
       ·omega
      have e7:MapV l f.heap.size (i+j) (fun q=>(Tp.ownFor p vs q).map fun v=>.int .i64 v):=by
       rw[<-m9.out]
       refine HM.out.on ?_
       rw[R.block _ (by omega),I]
       exact zx _ (by omega)
      have i8:Sc c l D.heap.size (some f.heap.size) lo (Tp.ownFor p vs) (Tp.ownOf p) s.left:=by
       refine⟨by omega,f3,by rw[P];exact zo _ _,⟨by omega,by omega,f4,i+j,?_,e7⟩,n1.out,n0.out,o0.out⟩
       have:=HH.out.ll
       omega
      have c2:Tp.goS g (k+1) lo.m.name (Tp.ownFor p vs) p.body s≠.gas:=fun e=>HN.out (by rw[e9.out,e])
      have a7:=zh (hB (k+1) lo (Tp.ownFor p vs) (Tp.ownOf p) p.body (.slice ba bn bc) l s D.heap.size (some f.heap.size) f7.out h8 i8 c2)
      rw[p1]at a7
      have p9:=zh b4
      have f0:l.heap[B]?=f.heap[B]?:=by
       have p0:=zg f8.out
       rw[R.block B (by omega),I,zx B (by have:=o2.out;omega)]
       exact L.block B p0
      have k5:l.cell? ⟨B,o+5,none⟩=some (.slice ba bn bc):=(World.cell?_of_block (w:=f) f0).trans f8.out
      have r7:B<l.heap.size:=zg k5
      have g0:Hid (∀t K,Kp c (oY (some f.heap.size)) l t->Kp c nY t K->Kp c nY w K):=fun t K a b=>(b4.fresh a (fun b hb=>by injection hb with hb;rw[<-hb];exact H.out.size)).trans b
      clear L X d4 m7 c0 c8 R h8 p2 b6 b4 f2 f3 f4 e7 i8 f0 h5
      have U:=e9.out
      cases b0:Tp.goS g (k+1) lo.m.name (Tp.ownFor p vs) p.body s with
      |gas=>exact absurd b0 c2
      |stop way s' =>
       rw[b0]at a7 U
       have HR:Hid (∀t e,thrE endT (way:Int) e->(∃k',GS c t s' k')->Kp c (oY (some f.heap.size)) l t->EvP c k w s Z e t):=fun t e a1 a2 a3=>by rw[U];exact⟨a1,a2,g0.out _ _ a3 (Kp.refl _ _ _)⟩
       clear U b0 c2
       go_upto_region 17 with fail
       rw[<-I,<-P]
       clear I P j2 z2
       go_wp2_with fail
       refine a7.out.mono ?_
       rintro e t⟨⟨older,rfl⟩,O,b1⟩
       have n8:=zh O
       have b7:=zh b1
       clear O b1
       go_wp2_with fail
       exact⟨rfl,HR.out _ _ ⟨older,rfl⟩ n8.out b7.out⟩
      |ok r s' =>
       rw[b0]at a7 U
       have HR:Hid (∀t K,GS c K s' k->s'.left<=s.left->Tp.I64 (r.2.getD 0)->Kp c (oY (some f.heap.size)) l t->Kp c nY t K->EvP c k w s Z (.returned (.int .i64 (r.2.getD 0))) K):=fun t K a1 a2 a3 a4 a5=>by rw[U];exact⟨rfl,a1,g0.out _ _ a4 a5,a2,a3⟩
       clear U b0 c2
       go_upto_region 17 with fail
       rw[<-I,<-P]
       clear I P j2 z2
       go_wp2_with fail
       refine a7.out.mono ?_
       rintro e t⟨rfl,O,b1,i3,i0⟩
       have h9:=O.wait T.out (k':=k) (by omega)
       have i1:Kp c nY t (t.setCell ⟨c.gb,2,none⟩ (.int .i64 (k:Int))):=Kp.reg O (by omega)
       obtain⟨t2,b9,_⟩:=O.blk
       have m2:t.cell? ⟨c.gb,2,none⟩=some (.int .i64 ((k:Int)+1)):=(za b9).trans (by simp[gcells4])
       have mz:t.frozen? ⟨c.gb,2,none⟩=false:=zi b9
       have r1:=zf b9
       have g1:=zh h9
       have g3:=zh i1
       have b7:=zh b1
       have g4:=zh i3
       have g2:=zh i0
       have ek:((k:Int)+1)-1=(k:Int):=by omega
       clear O b1 i3 i0 h9 i1 b9
       generalize r.2.getD 0=rv at *
       go_wp2_with fail
       go_ret
       first
        |exact HR.out _ _ g1.out g4.out g2.out b7.out g3.out
        | (rw[ek];exact HR.out _ _ g1.out g4.out g2.out b7.out g3.out)
theorem ta_told (n:Int)(w:World):(Instr.typeAssert (.iface 155 (.int .i64 n)) 20 155 true).run Tryz.prog w=.ok (.tuple #[.int .i64 n,.bool true]) w:=by kernel_rfl
theorem ta_end (n:Int)(w:World):(Instr.typeAssert (.iface 173 (.int .i64 n)) 20 155 true).run Tryz.prog w=.ok (.tuple #[.int .i64 0,.bool false]) w:=by kernel_rfl
theorem ta_nil (w:World):(Instr.typeAssert .nilIface 20 155 true).run Tryz.prog w=.ok (.tuple #[.int .i64 0,.bool false]) w:=by kernel_rfl
theorem blate_told (a:Nat)(n:Int)(older:List PanicEntry)(w:World){b:Value}(f:w.cell? ⟨a,0,none⟩=some b)(l:w.frozen? ⟨a,0,none⟩=false) :
  CallsD Tryz.prog 87 #[.pointer (some ⟨a,0,none⟩)] (.panicking ({ v:=.iface toldT (.int .i64 n),recovered:=false } :: older)) w fun e h w' =>
   e=.returned (.tuple #[])/\h=.panicking ({ v:=.iface toldT (.int .i64 n),recovered:=true } :: older)/\w'=w.setCell ⟨a,0,none⟩ (.int .i64 n):=by
 unfold toldT
 refine callsD_of_wpS Tryz.func87 rfl fun k cs g=>?_
 apply wpS_seq
 apply wpS_region
 simp[wpOpsS,go_sem,recoverD,g,Tryz.ntmps87,Exit.thenS]
 refine wpS_of_wp ?_
 have j:=ta_told n
 have i:=zg f
 generalize d:(fun (e:Exit) (c:Act) (w':World)=>bodyPostS Tryz.prog _ _ _ _ e c _ w')=Q
 show Code.wp Tryz.prog _ _ { tmps:=#[.pointer (some ⟨a,0,none⟩),.iface 155 (.int .i64 n),undef,undef,.iface 155 (.int .i64 n),undef,undef,undef,undef,undef,undef,undef,undef,undef,undef],defers:=[] } w
 go_wp2_with fail
 subst d
 simp[bodyPostS,results,Tryz.results87]
theorem blate_end (a:Nat)(n:Int)(older:List PanicEntry)(w:World) :
  CallsD Tryz.prog 87 #[.pointer (some ⟨a,0,none⟩)] (.panicking ({ v:=.iface endT (.int .i64 n),recovered:=false } :: older)) w fun e f w' =>
   e=.panicked [{ v:=.iface endT (.int .i64 n),recovered:=false }]/\f=.panicking ({ v:=.iface endT (.int .i64 n),recovered:=true } :: older)/\w'=w:=by
 unfold endT
 refine callsD_of_wpS Tryz.func87 rfl fun h cs d=>?_
 apply wpS_seq
 apply wpS_region
 simp[wpOpsS,go_sem,recoverD,d,Tryz.ntmps87,Exit.thenS]
 refine wpS_of_wp ?_
 have g:=ta_end n
 generalize c:(fun (e:Exit) (b:Act) (w':World)=>bodyPostS Tryz.prog _ _ _ _ e b _ w')=Q
 show Code.wp Tryz.prog _ _ { tmps:=#[.pointer (some ⟨a,0,none⟩),.iface 173 (.int .i64 n),undef,undef,.iface 173 (.int .i64 n),undef,undef,undef,undef,undef,undef,undef,undef,undef,undef],defers:=[] } w
 go_wp2_with fail
 subst c
 simp[bodyPostS]
theorem blate_idle (a:Nat)(w:World) :
  CallsD Tryz.prog 87 #[.pointer (some ⟨a,0,none⟩)] .returning w fun e g w'=>e=.returned (.tuple #[])/\g=.returning/\w'=w:=by
 refine callsD_of_wpS Tryz.func87 rfl fun c cs f=>?_
 apply wpS_seq
 apply wpS_region
 simp[wpOpsS,go_sem,recoverD,f,Tryz.ntmps87,Exit.thenS]
 refine wpS_of_wp ?_
 have h:=ta_nil
 generalize d:(fun (e:Exit) (b:Act) (w':World)=>bodyPostS Tryz.prog _ _ _ _ e b _ w')=Q
 show Code.wp Tryz.prog _ _ { tmps:=#[.pointer (some ⟨a,0,none⟩),.nilIface,undef,undef,.nilIface,undef,undef,undef,undef,undef,undef,undef,undef,undef,undef],defers:=[] } w
 go_wp2_with fail
 subst d
 cases c
 simp_all [bodyPostS,results,Tryz.results87]
end Go.Proofs.YtibncofnnlbmcaaGreatDoor
