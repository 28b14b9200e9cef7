import Derived.Test.YtmnedfdffbbchaaGreatDoorKLb
set_option maxRecDepth 100000
set_option maxHeartbeats 4000000

namespace Vm
open Ob (O In)
open Tp (Bs both w64 mPlus mMinus mStar wDiv wMod mEq mNe mLt mLe mGt mGe)
theorem i0:Tp.I64 0:=by unfold Tp.I64;omega
theorem zN {p:In->Prop}{x:In}(h:p x):∀ z∈[x],p z:=fun z hz=>by rw[List.mem_singleton.1 hz];exact h
theorem ki {p:In->Prop}:∀ z∈([]:List In),p z:=fun z hz=>by cases hz
theorem j7 {p:In->Prop}{x:In}(h:p x):∀ z∈[x,x],p z:=fun z hz=>by
 have:z=x:=by simpa using hz
 rw[this];exact h
theorem nolab {W:List In}{op a b:Int}(h1:op≠12) (h2:op≠13):(⟨op,a,b⟩:In).op=12\/(⟨op,a,b⟩:In).op=13->∃ w,W.getLast?=some w/\(w.op=12\/w.op=13)/\w.a=(⟨op,a,b⟩:In).a:=fun q=>by
 rcases q with q|q
 ·exact absurd q h1
 ·exact absurd q h2
theorem lab_last {x y:In}:y.op=12\/y.op=13->∃ w,[x,y].getLast?=some w/\(w.op=12\/w.op=13)/\w.a=y.a:=fun q=>⟨y,rfl,q,rfl⟩
theorem wts2 (x y:In):wts [x,y]=wt x+wt y:=by simp[wts]
theorem wts1 (x:In):wts [x]=wt x:=by simp[wts]
theorem wts0:wts []=0:=rfl
theorem yB (x:In):1<=wt x/\wt x<=2:=by unfold wt;split <;> omega
theorem jU {x:In}(h:x.op=1\/x.op=9\/x.op=12):wt x=2:=by unfold wt;rw[if_pos h]
theorem wt_one {x:In}(h1:x.op≠1) (h2:x.op≠9) (h3:x.op≠12):wt x=1:=by unfold wt;rw[if_neg (by omega)]
theorem push_win {nv:Nat}{nx:Option Nat}{n b:Int}{y:In}(hy:OkI nv y) {W':List In}(h:behindPush n y=some W'):Win nv [⟨1,n,b⟩,y] W' nx/\ByOk nv [⟨1,n,b⟩,y] W':=by
 have hp:=yB y
 have w1:wt ⟨1,n,b⟩=2:=rfl
 obtain⟨op,a,b'⟩:=y
 unfold behindPush at h
 simp only at h
 by_cases c1:op=13/\n=0
 ·rw[if_pos c1]at h
  cases h
  obtain⟨rfl,rfl⟩:=c1
  exact⟨vh nv nx a b b',⟨by simp,by simp[wts,wt],zN (ym hy.i (by decide) (by decide) (by decide) (by decide)),zN fun _=>⟨_,rfl,Or.inr rfl,rfl⟩⟩⟩
 rw[if_neg c1]at h
 by_cases c2:op=13\/op=2
 ·rw[if_pos c2]at h
  cases h
  refine⟨?_,⟨by simp,by rw[wts2,wts0];omega,ki,ki⟩⟩
  rcases c2 with rfl|rfl
  ·exact vU nv nx n a b b' fun e=>c1 ⟨rfl,e⟩
  ·exact r_push_pop nv nx n a b b'
 rw[if_neg c2]at h
 by_cases c3:op=10\/op=11
 ·rw[if_pos c3]at h
  cases h
  refine⟨xC nv nx n a b b' op c3,⟨by simp,by rw[wts2,wts1,w1];have:wt ⟨1,single8 op n,0⟩=2:=rfl;omega,zN (ym ?_ (by decide) (by decide) (by decide) (by decide)),zN (nolab (by decide) (by decide))⟩⟩
  unfold single8
  split
  ·exact Tp.w64_in _
  ·unfold Tp.I64;split <;> omega
 rw[if_neg c3]at h
 by_cases c4:op=9
 ·rw[if_pos c4]at h
  exact do_win c4 h
 rw[if_neg c4]at h
 cases h
theorem neg_win {nv:Nat}{nx:Option Nat}{a b:Int}{y:In}(hy:OkI nv y) {W':List In}(h:behindNeg y=some W'):Win nv [⟨10,a,b⟩,y] W' nx/\ByOk nv [⟨10,a,b⟩,y] W':=by
 have hp:=yB y
 have w1:wt ⟨10,a,b⟩=1:=rfl
 obtain⟨op,a',b'⟩:=y
 unfold behindNeg at h
 simp only at h
 by_cases c1:op=10
 ·rw[if_pos c1]at h
  cases h
  subst c1
  exact⟨r_neg_neg nv nx a b a' b',⟨by simp,by simp[wts,wt],ki,ki⟩⟩
 rw[if_neg c1]at h
 by_cases c2:op=11\/op=13\/op=2
 ·rw[if_pos c2]at h
  cases h
  refine⟨?_,⟨by simp,by rw[wts2,wts1];omega,zN hy,zN fun q=>lab_last q⟩⟩
  rcases c2 with rfl|rfl|rfl
  ·exact r_neg_not nv nx a b a' b'
  ·exact r_neg_else nv nx a b a' b'
  ·exact r_neg_pop nv nx a b a' b'
 rw[if_neg c2]at h
 by_cases c3:op=9/\a'=0/\b'=0
 ·rw[if_pos c3]at h
  cases h
  obtain⟨rfl,rfl,rfl⟩:=c3
  exact⟨r_neg_do fun x y=>neg_add x y,⟨by simp,by simp[wts,wt],zN (ym (by unfold Tp.I64;omega) (by decide) (by decide) (by decide) (by decide)),zN (nolab (by decide) (by decide))⟩⟩
 rw[if_neg c3]at h
 by_cases c4:op=9/\a'=1/\b'=0
 ·rw[if_pos c4]at h
  cases h
  obtain⟨rfl,rfl,rfl⟩:=c4
  exact⟨r_neg_do fun x y=>neg_sub x y,⟨by simp,by simp[wts,wt],zN (ym i0 (by decide) (by decide) (by decide) (by decide)),zN (nolab (by decide) (by decide))⟩⟩
 rw[if_neg c4]at h
 cases h
theorem pop_win {nv:Nat}{nx:Option Nat}{x:In}(hx:OkI nv x) {a' b':Int}{W':List In}(h:aheadOfPop x=some W'):Win nv [x,⟨2,a',b'⟩] W' nx/\ByOk nv [x,⟨2,a',b'⟩] W':=by
 have hp:=yB x
 obtain⟨op,a,b⟩:=x
 have w2:wt ⟨2,a',b'⟩=1:=rfl
 have w3:wt ⟨2,0,0⟩=1:=rfl
 have h2:OkI nv ⟨2,0,0⟩:=ym i0 (by decide) (by decide) (by decide) (by decide)
 unfold aheadOfPop at h
 simp only at h
 by_cases c1:op=3\/(op=5/\b<0)
 ·rw[if_pos c1]at h
  cases h
  refine⟨?_,⟨by simp,by rw[wts2,wts0];omega,ki,ki⟩⟩
  rcases c1 with rfl|⟨rfl,hb⟩
  ·exact r_load_pop nv nx a b a' b'
  ·exact r_get_pop hb (hx.g (Or.inl ⟨rfl,hb⟩))
 rw[if_neg c1]at h
 by_cases c2:op=11
 ·rw[if_pos c2]at h
  cases h
  subst c2
  exact⟨r_not_pop nv nx a b a' b',⟨by simp,by rw[wts2,wts1];omega,zN h2,zN (nolab (by decide) (by decide))⟩⟩
 rw[if_neg c2]at h
 by_cases c3:op=9/\¬(sgn ⟨op,a,b⟩=wDiv\/sgn ⟨op,a,b⟩=wMod)
 ·rw[if_pos c3]at h
  cases h
  obtain⟨rfl,hd⟩:=c3
  have w4:wt ⟨9,a,b⟩=2:=rfl
  exact⟨r_do_pop (fun e=>hd (Or.inl e)) (fun e=>hd (Or.inr e)),⟨by simp,by rw[wts2,wts2];omega,j7 h2,j7 (nolab (by decide) (by decide))⟩⟩
 rw[if_neg c3]at h
 cases h
theorem two_win {nv:Nat}{nx:Option Nat}{x y:In}(hx:OkI nv x) (hy:OkI nv y) {W':List In}(h:two x y=some W'):Win nv [x,y] W' nx/\ByOk nv [x,y] W':=by
 have hpx:=yB x
 have hpy:=yB y
 unfold two at h
 by_cases c1:x.op=1
 ·rw[if_pos c1]at h
  obtain⟨op,a,b⟩:=x
  have c1:op=1:=c1
  subst c1
  exact push_win hy h
 rw[if_neg c1]at h
 by_cases c2:x.op=10
 ·rw[if_pos c2]at h
  obtain⟨op,a,b⟩:=x
  have c2:op=10:=c2
  subst c2
  exact neg_win hy h
 rw[if_neg c2]at h
 by_cases c3:y.op=2
 ·rw[if_pos c3]at h
  obtain⟨op,a,b⟩:=y
  have c3:op=2:=c3
  subst c3
  exact pop_win hx h
 rw[if_neg c3]at h
 by_cases c4:y.op=11/\x.op=9
 ·rw[if_pos c4]at h
  cases hn:notOf (sgn x) with
  | none=>rw[hn]at h;cases h
  | some k =>
   rw[hn]at h
   cases h
   have ho:=opp_of hn
   obtain⟨op,a,b⟩:=x
   obtain⟨op',a',b'⟩:=y
   obtain⟨e1,e2⟩:op'=11/\op=9:=c4
   subst e1 e2
   have w1:wt ⟨9,k,0⟩=2:=rfl
   have w2:wt ⟨9,a,b⟩=2:=rfl
   exact⟨r_do_not2 ho,⟨by simp,by rw[wts2,wts1];omega,zN (ym (notOf_i hn) (by decide) (by decide) (by decide) (by decide)),zN (nolab (by decide) (by decide))⟩⟩
 rw[if_neg c4]at h
 by_cases c5:x.op=3/\y.op=4/\y.a=x.a/\y.b=0
 ·rw[if_pos c5]at h
  cases h
  obtain⟨op,a,b⟩:=x
  obtain⟨op',a',b'⟩:=y
  obtain⟨e1,e2,e3,e4⟩:op=3/\op'=4/\a'=a/\b'=0:=c5
  subst e1 e2 e3 e4
  exact⟨vo nv nx a' b 0,⟨by simp,by rw[wts2,wts0];omega,ki,ki⟩⟩
 rw[if_neg c5]at h
 by_cases c6:x.op=5/\x.b<0/\y.op=6/\y.a=x.a/\y.b=0
 ·rw[if_pos c6]at h
  cases h
  have hg:=hx.g (Or.inl ⟨c6.1,c6.2.1⟩)
  obtain⟨op,a,b⟩:=x
  obtain⟨op',a',b'⟩:=y
  obtain⟨e1,e5,e2,e3,e4⟩:op=5/\b<0/\op'=6/\a'=a/\b'=0:=c6
  subst e1 e2 e3 e4
  exact⟨r_get_put e5 hg,⟨by simp,by rw[wts2,wts0];omega,ki,ki⟩⟩
 rw[if_neg c6]at h
 cases h
end Vm

namespace Vm
open Ob (O In)
open Tp (Bs both w64)
def ts (e n n' q:Nat):Nat:=if q<=e then q else q - n+n'
def Lb (e n:Nat) (lb:Nat->Nat):Prop:=∀ q,lb q<=e\/n<=lb q
theorem ts_sh {e k w w':Nat}{lb:Nat->Nat}(hk:e<=k) (hw:1<=w) (h:Lb e (k+w) lb):(fun q=>sh k w w' (lb q))=fun q=>ts e (k+w) (k+w') (lb q):=by
 funext q
 unfold sh ts
 rcases h q with r|r
 ·rw[if_pos (by omega),if_pos r]
 ·rw[if_neg (by omega),if_neg (by omega)]
  omega
theorem ts_ts {e n n' n'':Nat}{lb:Nat->Nat}(h2:e<=n'') (h3:n''<=n') (h:Lb e n lb):(fun q=>ts e n' n'' (ts e n n' (lb q)))=fun q=>ts e n n'' (lb q):=by
 funext q
 unfold ts
 rcases h q with r|r
 ·rw[if_pos r,if_pos r,if_pos r]
 ·by_cases q1:lb q<=e
  ·rw[if_pos q1,if_pos q1,if_pos q1]
  ·rw[if_neg q1,if_neg q1]
   by_cases q2:lb q - n+n'<=e
   ·rw[if_pos q2];omega
   ·rw[if_neg q2];omega
theorem ts_lb {e n n':Nat}{lb:Nat->Nat}(h:Lb e n lb):Lb e n' fun q=>ts e n n' (lb q):=fun q=>by
 show ts e n n' (lb q)<=e\/n'<=ts e n n' (lb q)
 unfold ts
 rcases h q with r|r
 ·rw[if_pos r];exact Or.inl r
 ·by_cases q1:lb q<=e
  ·rw[if_pos q1];exact Or.inl q1
  ·rw[if_neg q1];exact Or.inr (by omega)
theorem ts_id {e n:Nat}{lb:Nat->Nat}(h:Lb e n lb):(fun q=>ts e n n (lb q))=lb:=by
 funext q
 unfold ts
 rcases h q with r|r
 ·rw[if_pos r]
 ·split <;> omega
theorem ts_le {e n n' q B:Nat}(h0:n'<=n) (h:q<=B) (hn:q<=e\/n<=q):ts e n n' q<=B:=by
 unfold ts
 split <;> omega
def Sem (o:O) (e nx:Nat) (c c':List In) (J:Prop):Prop:=∀ post lb,(∀ x∈post,Tp.I64 x.a)->(∀ q,lb q<=100000)->Lb e c.length lb->(J->lb nx=c.length)->Ref (H o (c++post) lb) (H o (c'++post) fun q=>ts e c.length c'.length (lb q))
theorem H_refs {o:O}{a b c:List In}{la lb lc:Nat->Nat}(h:Ref (H o a la) (H o b lb)) (k:Ref (H o b lb) (H o c lc)):Ref (H o a la) (H o c lc):=h.trans k rfl rfl (by show (o.procs.map _).length=(o.procs.map _).length;simp)
theorem Sem.same {o:O}(hA:Al o) {e nx:Nat}{c:List In}(hc:∀ x∈c,Tp.I64 x.a) (J:Prop):Sem o e nx c c J:=fun post lb hp hb hl _=>by
 rw[ts_id hl]
 exact kS (H_al hA (fun x hx=>by
  rcases List.mem_append.1 hx with q|q
  ·exact hc x q
  ·exact hp x q) fun q=>by have:=hb q;omega)
theorem Sem.trans {o:O}{e nx:Nat}{c c' c'':List In}{J J':Prop}(h:Sem o e nx c c' J) (k:Sem o e nx c' c'' J') (hJ:J'->J) (h2:e<=c''.length) (h3:c''.length<=c'.length) (h4:c'.length<=c.length):Sem o e nx c c'' J:=fun post lb hp hb hl hn=>by
 have a:=h post lb hp hb hl hn
 have b:=k post (fun q=>ts e c.length c'.length (lb q)) hp (fun q=>ts_le h4 (hb q) (hl q)) (ts_lb hl) fun j=>by
  show ts e c.length c'.length (lb nx)=c'.length
  rw[hn (hJ j)]
  unfold ts
  split <;> omega
 rw[ts_ts h2 h3 hl]at b
 exact H_refs a b
theorem Sem.more {o:O}{e nx:Nat}{c c':List In}{J:Prop}(h:Sem o e nx c c' J) (hJ:¬J) {r:List In}(hr:∀ x∈r,Tp.I64 x.a) (K:Prop):Sem o e nx (c++r) (c'++r) K:=fun post lb hp hb hl _=>by
 have hl':Lb e c.length lb:=fun q=>by
  rcases hl q with t|t
  ·exact Or.inl t
  ·exact Or.inr (by rw[List.length_append]at t;omega)
 have a:=h (r++post) lb (fun x hx=>by
  rcases List.mem_append.1 hx with q|q
  ·exact hr x q
  ·exact hp x q) hb hl' fun j=>absurd j hJ
 rw[<-List.append_assoc,<-List.append_assoc]at a
 have e1:(fun q=>ts e (c++r).length (c'++r).length (lb q))=fun q=>ts e c.length c'.length (lb q):=by
  funext q
  unfold ts
  rw[List.length_append,List.length_append]
  have:=hl q
  rw[List.length_append]at this
  split <;> omega
 rw[e1]
 exact a
theorem Sem.win {o:O}(hA:Al o) {e nx:Nat}{pre W W':List In}{x:Option Nat}(hw:Win o.vars.length W W' x) (hW:1<=W.length) (he:e<=pre.length) (hi:∀ z∈pre++W,Tp.I64 z.a) {J:Prop}(hx:∀ n,x=some n->n=nx/\J):Sem o e nx (pre++W) (pre++W') J:=fun post lb hpo hb hl hn=>by
 have hlen:(pre++W).length=pre.length+W.length:=List.length_append
 have hlen':(pre++W').length=pre.length+W'.length:=List.length_append
 rw[hlen]at hl
 have hAl:Al (H o (pre++W++post) lb):=H_al hA (fun z hz=>by
  rcases List.mem_append.1 hz with q|q
  ·exact hi z q
  ·exact hpo z q) fun q=>by have:=hb q;omega
 have hcl:∀ q,lb q<=pre.length\/pre.length+W.length<=lb q:=fun q=>by
  rcases hl q with t|t
  ·exact Or.inl (by omega)
  ·exact Or.inr t
 have:=win_ref (pre:=pre) (W:=W) (W':=W') (post:=post) (lb:=lb) hAl hW hw (fun n h=>by
  obtain⟨h1,h2⟩:=hx n h
  rw[h1,hn h2,hlen]) (fun z _ _=>hcl _) (fun z _=>hcl _)
 rw[ts_sh he hW hl]at this
 rw[hlen,hlen']
 exact this
theorem Sem.end3 {o:O}(hA:Al o) {e nx:Nat}{pre:List In}{a b b':Int}{z:In}(ha:a.toNat<10) (hz:z.op=15\/z.op=17) (he:e<=pre.length) (hi:∀ z'∈pre++[⟨4,a,b⟩,⟨3,a,b'⟩,z],Tp.I64 z'.a) (J:Prop):Sem o e nx (pre++[⟨4,a,b⟩,⟨3,a,b'⟩,z]) (pre++[z]) J:=fun post lb hpo hb hl hn=>by
 have hlen:(pre++[⟨4,a,b⟩,⟨3,a,b'⟩,z]).length=pre.length+3:=List.length_append
 have hlen':(pre++[z]).length=pre.length+1:=List.length_append
 rw[hlen]at hl
 have hAl:Al (H o (pre++[⟨4,a,b⟩,⟨3,a,b'⟩,z]++post) lb):=H_al hA (fun z' hz'=>by
  rcases List.mem_append.1 hz' with q|q
  ·exact hi z' q
  ·exact hpo z' q) fun q=>by have:=hb q;omega
 have hcl:∀ q,lb q<=pre.length\/pre.length+[(⟨4,a,b⟩:In),⟨3,a,b'⟩,z].length<=lb q:=fun q=>by
  rcases hl q with t|t
  ·exact Or.inl (by omega)
  ·exact Or.inr t
 have:=repl_ref (pre:=pre) (W:=[⟨4,a,b⟩,⟨3,a,b'⟩,z]) (W':=[z]) (post:=post) (lb:=lb) hAl (by simp) (fun _=>end3_atw ha hz) (fun z _ _=>hcl _) (fun z _=>hcl _)
 rw[show [(⟨4,a,b⟩:In),⟨3,a,b'⟩,z].length=3 from rfl,ts_sh he (by omega) hl]at this
 rw[hlen,hlen']
 exact this
end Vm

namespace Vm
open Ob (O In)
open Tp (Bs both w64 mPlus mMinus mStar wDiv wMod mEq mNe mLt mLe mGt mGe)
def Go8 (x:In):Prop:=x.op=12\/x.op=13
def pick2 (l:List In) (e:Nat) (x:In):Option (List In):=match l.reverse with
 | y :: _=>if e+1<=l.length then two y x else none
 | []=>none
def pick3 (l:List In) (e nx:Nat) (x:In):Option (List In):=match l.reverse with
 | z :: y :: _=>if e+2<=l.length then three nx y z x else none
 | _=>none
def addF:Nat->Nat->Nat->List In->In->List In
 | 0,_,_,l,x=>l++[x]
 | g+1,e,nx,l,x=>match pick2 l e x with
  | some w=>w.foldl (addF g e nx) (l.take (l.length - 1))
  | none=>match pick3 l e nx x with
   | some w=>w.foldl (addF g e nx) (l.take (l.length - 2))
   | none=>l++[x]
theorem pick2_snoc (pre:List In) (y:In) (e:Nat) (x:In):pick2 (pre++[y]) e x=if e<=pre.length then two y x else none:=by
 unfold pick2
 rw[List.reverse_append]
 simp only [List.reverse_cons,List.reverse_nil,List.nil_append,List.cons_append,List.length_append,List.length_cons,List.length_nil]
 by_cases q:e<=pre.length
 ·rw[if_pos q,if_pos (by omega)]
 ·rw[if_neg q,if_neg (by omega)]
theorem pick3_snoc (pre:List In) (y z:In) (e nx:Nat) (x:In):pick3 (pre++[y,z]) e nx x=if e<=pre.length then three nx y z x else none:=by
 unfold pick3
 rw[List.reverse_append]
 simp only [List.reverse_cons,List.reverse_nil,List.nil_append,List.cons_append,List.length_append,List.length_cons,List.length_nil]
 by_cases q:e<=pre.length
 ·rw[if_pos q,if_pos (by omega)]
 ·rw[if_neg q,if_neg (by omega)]
theorem snoc_of (l:List In):l=[]\/∃ pre y,l=pre++[y]:=by
 rcases List.eq_nil_or_concat l with h|⟨a,b,h⟩
 ·exact Or.inl h
 ·exact Or.inr ⟨a,b,by rw[h,List.concat_eq_append]⟩
theorem jY {l:List In}{e:Nat}{x:In}{w:List In}(h:pick2 l e x=some w):∃ pre y,l=pre++[y]/\e<=pre.length/\two y x=some w/\l.take (l.length - 1)=pre:=by
 rcases snoc_of l with rfl|⟨pre,y,rfl⟩
 ·cases h
 ·rw[pick2_snoc]at h
  by_cases q:e<=pre.length
  ·rw[if_pos q]at h
   exact⟨pre,y,rfl,q,h,by simp⟩
  ·rw[if_neg q]at h;cases h
theorem pick3_some {l:List In}{e nx:Nat}{x:In}{w:List In}(h:pick3 l e nx x=some w):∃ pre y z,l=pre++[y,z]/\e<=pre.length/\three nx y z x=some w/\l.take (l.length - 2)=pre:=by
 rcases snoc_of l with rfl|⟨p1,z,rfl⟩
 ·cases h
 rcases snoc_of p1 with rfl|⟨pre,y,rfl⟩
 ·cases h
 ·rw[List.append_assoc]at h ⊢
  have h:pick3 (pre++[y,z]) e nx x=some w:=h
  rw[pick3_snoc]at h
  by_cases q:e<=pre.length
  ·rw[if_pos q]at h
   exact⟨pre,y,z,rfl,q,h,by simp⟩
  ·rw[if_neg q]at h;cases h
structure Irr (l:List In) (e:Nat):Prop where
 a:∀ pre y z post,l=pre++[y,z]++post->e<=pre.length->two y z=none
 b:∀ pre x y z post,l=pre++[x,y,z]++post->e<=pre.length->z.op≠12->∀ nx,three nx x y z=none
theorem Irr.pre {l r:List In}{e:Nat}(h:Irr (l++r) e):Irr l e:=⟨fun pre y z post q=>h.a pre y z (post++r) (by rw[q];simp),fun pre x y z post q=>h.b pre x y z (post++r) (by rw[q];simp)⟩
theorem three_nx {nx nx':Nat}{x y z:In}(hz:z.op≠12):three nx x y z=three nx' x y z:=by
 unfold three
 by_cases c1:x.op=1/\y.op=1/\z.op=9
 ·rw[if_pos c1,if_pos c1]
 rw[if_neg c1,if_neg c1]
 by_cases c2:x.op=11/\y.op=11/\(z.op=11\/z.op=13)
 ·rw[if_pos c2,if_pos c2]
 rw[if_neg c2,if_neg c2]
 by_cases c3:x.op=4/\y.op=3/\y.a=x.a/\y.b=0/\(z.op=15\/z.op=17)
 ·rw[if_pos c3,if_pos c3]
 rw[if_neg c3,if_neg c3,if_neg (fun q=>hz q.2.2.2),if_neg (fun q=>hz q.2.2.2)]
theorem Irr.snoc {l:List In}{e nx:Nat}{x:In}(h:Irr l e) (h2:pick2 l e x=none) (h3:pick3 l e nx x=none):Irr (l++[x]) e:=by
 refine⟨fun pre y z post q he=>?_,fun pre x' y z post q he hz nx'=>?_⟩
 ·rcases snoc_of post with rfl|⟨p,u,rfl⟩
  ·rw[List.append_nil,show pre++[y,z]=(pre++[y])++[z] by simp]at q
   obtain⟨q1,q2⟩:=List.append_inj' q rfl
   cases q2
   rw[q1,pick2_snoc,if_pos he]at h2
   exact h2
  ·rw[<-List.append_assoc]at q
   obtain⟨q1,q2⟩:=List.append_inj' q rfl
   exact h.a pre y z p q1 he
 ·rcases snoc_of post with rfl|⟨p,u,rfl⟩
  ·rw[List.append_nil,show pre++[x',y,z]=(pre++[x',y])++[z] by simp]at q
   obtain⟨q1,q2⟩:=List.append_inj' q rfl
   cases q2
   rw[q1,pick3_snoc,if_pos he]at h3
   rw[three_nx (nx':=nx) hz]
   exact h3
  ·rw[<-List.append_assoc]at q
   obtain⟨q1,q2⟩:=List.append_inj' q rfl
   exact h.b pre x' y z p q1 he hz nx'
theorem Irr.nil (e:Nat):Irr [] e:=⟨fun pre y z post q=>by simp at q,fun pre x y z post q=>by simp at q⟩
theorem Irr.le {l:List In}{e e':Nat}(h:Irr l e) (he:e<=e'):Irr l e':=⟨fun pre y z post q k=>h.a pre y z post q (by omega),fun pre x y z post q k=>h.b pre x y z post q (by omega)⟩
structure AddOk (o:O) (e nx:Nat) (l:List In) (x:In) (l':List In):Prop where
 len:l'.length<=l.length+1
 le:e<=l'.length
 wt:wts l'<=wts l+wt x
 ok:∀ z∈l',OkI o.vars.length z
 irr:Irr l' e
 lab:∀ z∈l',Go8 z->∃ w∈l++[x],Go8 w/\w.a=z.a
 sem:Sem o e nx (l++[x]) l' (Go8 x)
theorem wts_app (l r:List In):wts (l++r)=wts l+wts r:=by simp[wts]
theorem xF {nv:Nat}{l:List In}(h:∀ z∈l,OkI nv z):∀ z∈l,Tp.I64 z.a:=fun z hz=>(h z hz).i
theorem addF_stay {g e nx:Nat}{l:List In}{x:In}(h2:pick2 l e x=none) (h3:pick3 l e nx x=none):addF (g+1) e nx l x=l++[x]:=by
 rw[addF,h2]
 simp only
 rw[h3]
theorem stay_ok {o:O}(hA:Al o) {e nx:Nat}{l:List In}{x:In}(he:e<=l.length) (hl:∀ z∈l,OkI o.vars.length z) (hx:OkI o.vars.length x) (hi:Irr l e) (h2:pick2 l e x=none) (h3:pick3 l e nx x=none):AddOk o e nx l x (l++[x]):=by
 have hok:∀ z∈l++[x],OkI o.vars.length z:=fun z hz=>by
  rcases List.mem_append.1 hz with q|q
  ·exact hl z q
  ·rw[List.mem_singleton.1 q];exact hx
 exact⟨by simp,by simp;omega,by rw[wts_app,wts1];exact Nat.le_refl _,hok,hi.snoc h2 h3,fun z hz hg=>⟨z,hz,hg,rfl⟩,Sem.same hA (xF hok) _⟩
theorem fold0 {o:O}(hA:Al o) {e nx:Nat}{pre W:List In}{x:In}{nxw:Option Nat}(hw:Win o.vars.length (W++[x]) [] nxw) (hn:nxw=none) (he:e<=pre.length) (hok:∀ z∈pre++(W++[x]),OkI o.vars.length z) (hi:Irr pre e):AddOk o e nx (pre++W) x pre:=by
 have h:=Sem.win (nx:=nx) hA hw (by simp) he (xF hok) (J:=Go8 x) fun n q=>by rw[hn]at q;cases q
 rw[List.append_nil,<-List.append_assoc]at h
 exact⟨by simp;omega,he,by rw[wts_app];omega,fun z hz=>hok z (List.mem_append_left _ hz),hi,fun z hz hg=>⟨z,List.mem_append_left _ (List.mem_append_left _ hz),hg,rfl⟩,h⟩
theorem fold1 {o:O}(hA:Al o) {e nx:Nat}{pre W:List In}{x a:In}{l':List In}{nxw:Option Nat}(hw:Win o.vars.length (W++[x]) [a] nxw) (hn:∀ n,nxw=some n->n=nx/\Go8 x) (he:e<=pre.length) (hok:∀ z∈pre++(W++[x]),OkI o.vars.length z) (hW:1<=W.length) (hwt:wt a<=wts W+wt x) (hga:Go8 a->Go8 x/\x.a=a.a) (k:AddOk o e nx pre a l'):AddOk o e nx (pre++W) x l':=by
 have h:=Sem.win (nx:=nx) hA hw (by simp) he (xF hok) (J:=Go8 x) hn
 rw[<-List.append_assoc]at h
 have hl:=k.len
 refine⟨(by simp <;> omega),k.le,by have:=k.wt;rw[wts_app];omega,k.ok,k.irr,fun z hz hg=>?_,h.trans k.sem (fun q=>(hga q).1) k.le (by simpa using k.len) ((by simp <;> omega))⟩
 obtain⟨w,h1,h2,h3⟩:=k.lab z hz hg
 rcases List.mem_append.1 h1 with q|q
 ·exact⟨w,List.mem_append_left _ (List.mem_append_left _ q),h2,h3⟩
 ·obtain rfl:=List.mem_singleton.1 q
  exact⟨x,by simp,(hga h2).1,(hga h2).2.trans h3⟩
theorem fold2 {o:O}(hA:Al o) {e nx:Nat}{pre W:List In}{x a b:In}{l1 l':List In}{nxw:Option Nat}(hw:Win o.vars.length (W++[x]) [a,b] nxw) (hn:∀ n,nxw=some n->n=nx/\Go8 x) (he:e<=pre.length) (hok:∀ z∈pre++(W++[x]),OkI o.vars.length z) (hb:OkI o.vars.length b) (hW:1<=W.length) (hwt:wt a+wt b<=wts W+wt x) (hga:¬Go8 a) (hgb:Go8 b->Go8 x/\x.a=b.a) (k1:AddOk o e nx pre a l1) (k2:AddOk o e nx l1 b l'):AddOk o e nx (pre++W) x l':=by
 have h:=Sem.win (nx:=nx) hA hw (by simp) he (xF hok) (J:=Go8 x) hn
 rw[<-List.append_assoc]at h
 have m:=k1.sem.more hga (r:=[b]) (fun z hz=>by rw[List.mem_singleton.1 hz];exact hb.i) (Go8 x)
 rw[List.append_assoc]at m
 have hl1:=k1.len
 have hl2:=k2.len
 have ht:=h.trans (J':=Go8 x) m id (by have:=k1.le;simp;omega) (by simp;omega) (by simp;omega)
 refine⟨by simp;omega,k2.le,by have:=k1.wt;have:=k2.wt;rw[wts_app];omega,k2.ok,k2.irr,fun z hz hg=>?_,ht.trans k2.sem (fun q=>(hgb q).1) k2.le (by simpa using k2.len) (by simp;omega)⟩
 obtain⟨w,h1,h2,h3⟩:=k2.lab z hz hg
 rcases List.mem_append.1 h1 with q|q
 ·obtain⟨v,g1,g2,g3⟩:=k1.lab w q h2
  rcases List.mem_append.1 g1 with r|r
  ·exact⟨v,List.mem_append_left _ (List.mem_append_left _ r),g2,g3.trans h3⟩
  ·obtain rfl:=List.mem_singleton.1 r
   exact absurd g2 hga
 ·obtain rfl:=List.mem_singleton.1 q
  exact⟨x,by simp,(hgb h2).1,(hgb h2).2.trans h3⟩
def Few (W':List In):Prop:=W'=[]\/(∃ a,W'=[a])\/∃ a b,W'=[a,b]/\¬Go8 a
theorem few1 (a:In):Few [a]:=Or.inr (Or.inl ⟨a,rfl⟩)
theorem few0:Few []:=Or.inl rfl
theorem few2 {a b:In}(h1:a.op≠12) (h2:a.op≠13):Few [a,b]:=Or.inr (Or.inr ⟨a,b,rfl,fun q=>by
 rcases q with q|q
 ·exact h1 q
 ·exact h2 q⟩)
theorem zV {c:Prop} [Decidable c] {a b:Option (List In)}{W':List In}(ha:a=some W'->Few W') (hb:b=some W'->Few W'):(if c then a else b)=some W'->Few W':=by
 split
 ·exact ha
 ·exact hb
theorem zW {l W':List In}(h:Few l):some l=some W'->Few W':=fun q=>by cases q;exact h
theorem ja {W':List In}:none=some W'->Few W':=fun q=>by cases q
theorem two_few {x y:In}{W':List In}:two x y=some W'->Few W':=by
 unfold two
 refine zV ?_ (zV ?_ (zV ?_ (zV ?_ (zV (zW few0) (zV (zW few0) ja)))))
 ·unfold behindPush
  refine zV (zW (few1 _)) (zV (zW few0) (zV (zW (few1 _)) (zV ?_ ja)))
  unfold doKnown
  exact zV (zW few0) (zV (zW (few1 _)) (zV (zW (few1 _)) (zV (zW (few2 (by decide) (by decide))) ja)))
 ·unfold behindNeg
  exact zV (zW few0) (zV (zW (few1 _)) (zV (zW (few1 _)) (zV (zW (few1 _)) ja)))
 ·unfold aheadOfPop
  exact zV (zW few0) (zV (zW (few1 _)) (zV (zW (few2 (by decide) (by decide))) ja))
 ·intro q
  cases h:notOf (sgn x) with
  | none=>rw[h]at q;cases q
  | some k=>rw[h]at q;cases q;exact few1 _
theorem Irr.picks {l:List In}{e nx:Nat}{x:In}(h:Irr (l++[x]) e) (hx:x.op≠12):pick2 l e x=none/\pick3 l e nx x=none:=by
 rcases snoc_of l with rfl|⟨p,z,rfl⟩
 ·exact⟨rfl,rfl⟩
 refine⟨?_,?_⟩
 ·rw[pick2_snoc]
  split
  ·rename_i q
   exact h.a p z x [] (by simp) q
  ·rfl
 ·rcases snoc_of p with rfl|⟨r,y,rfl⟩
  ·rfl
  ·rw[List.append_assoc]
   show pick3 (r++[y,z]) e nx x=none
   rw[pick3_snoc]
   split
   ·rename_i q
    exact h.b r y z x [] (by simp) q hx nx
   ·rfl
def AddIh (o:O) (g e nx:Nat):Prop:=∀ l x,e<=l.length->(∀ z∈l,OkI o.vars.length z)->OkI o.vars.length x->Irr l e->wts l+wt x<g->AddOk o e nx l x (addF g e nx l x)
theorem foldk {o:O}(hA:Al o) {g e nx:Nat}(ih:AddIh o g e nx) {pre W W':List In}{x:In}(hw:Win o.vars.length (W++[x]) W' none) (hb:ByOk o.vars.length (W++[x]) W') (he:e<=pre.length) (hok:∀ z∈pre++(W++[x]),OkI o.vars.length z) (hi:Irr pre e) (hW:1<=W.length) (hg:wts pre+wts (W++[x])<=g) (hs:Few W'):AddOk o e nx (pre++W) x (W'.foldl (addF g e nx) pre):=by
 have hwt:=hb.wt
 have hpre:∀ z∈pre,OkI o.vars.length z:=fun z hz=>hok z (List.mem_append_left _ hz)
 have hlab:∀ z∈W',Go8 z->Go8 x/\x.a=z.a:=fun z hz hg=>by
  obtain⟨w,h1,h2,h3⟩:=hb.lab z hz hg
  rw[List.getLast?_append]at h1
  have:x=w:=by simpa using h1
  rw[this]
  exact⟨h2,h3⟩
 have hwx:wts (W++[x])=wts W+wt x:=by rw[wts_app,wts1]
 have hno:∀ n,(none:Option Nat)=some n->n=nx/\Go8 x:=fun n q=>by cases q
 rcases hs with rfl|⟨a,rfl⟩|⟨a,b,rfl,hna⟩
 ·exact fold0 hA hw rfl he hok hi
 ·rw[wts1]at hwt
  exact fold1 hA hw hno he hok hW (by omega) (hlab a (List.mem_singleton_self a)) (ih pre a he hpre (hb.ok a (List.mem_singleton_self a)) hi (by omega))
 ·rw[wts2]at hwt
  have hpb:=yB b
  have k1:=ih pre a he hpre (hb.ok a (by simp)) hi (by omega)
  have kw:=k1.wt
  exact fold2 hA hw hno he hok (hb.ok b (by simp)) hW (by omega) hna (hlab b (by simp)) k1 (ih _ b k1.le k1.ok (hb.ok b (by simp)) k1.irr (by omega))
theorem fold1s {o:O}{e nx:Nat}{pre W:List In}{x a:In}{l':List In}(h:Sem o e nx (pre++W++[x]) (pre++[a]) (Go8 x)) (hwt:wt a<=wts W+wt x) (hga:Go8 a->Go8 x/\x.a=a.a) (k:AddOk o e nx pre a l'):AddOk o e nx (pre++W) x l':=by
 have hl:=k.len
 refine⟨by rw[List.length_append];omega,k.le,by have:=k.wt;rw[wts_app];omega,k.ok,k.irr,fun z hz hg=>?_,h.trans k.sem (fun q=>(hga q).1) k.le (by simpa using k.len) (by simp)⟩
 obtain⟨w,h1,h2,h3⟩:=k.lab z hz hg
 rcases List.mem_append.1 h1 with q|q
 ·exact⟨w,List.mem_append_left _ (List.mem_append_left _ q),h2,h3⟩
 ·obtain rfl:=List.mem_singleton.1 q
  exact⟨x,by simp,(hga h2).1,(hga h2).2.trans h3⟩
theorem xS {x z:In}(hx:x.op=11) (hz:z.op=13):two x z=none:=by
 unfold two
 rw[if_neg (by omega),if_neg (by omega),if_neg (by omega),if_neg (by omega),if_neg (by omega),if_neg (by omega)]
theorem vL {x y:In}(hx:x.op=11) (hy:y.op=11):two x y=none:=by
 unfold two
 rw[if_neg (by omega),if_neg (by omega),if_neg (by omega),if_neg (by omega),if_neg (by omega),if_neg (by omega)]
theorem xu {nx:Nat}{w x y:In}(hw:w.op≠11) (hx:x.op=11) (hy:y.op=11):three nx w x y=none:=by
 unfold three
 rw[if_neg (by omega),if_neg (by omega),if_neg (by omega),if_neg (by omega)]
theorem jW {nx:Nat}{w x y:In}(hw:w.op=11) (hx:x.op=11) (hy:y.op=13):three nx w x y=some [y]:=by
 unfold three
 rw[if_neg (by omega),if_pos ⟨hw,hx,Or.inr hy⟩]
theorem two_do_not {x y:In}{k:Int}(hx:x.op=9) (hy:y.op=11) (h:notOf (sgn x)=some k):two x y=some [⟨9,k,0⟩]:=by
 unfold two
 rw[if_neg (by omega),if_neg (by omega),if_neg (by omega),if_pos ⟨hy,hx⟩,h]
 rfl
theorem addF_two {g e nx:Nat}{pre:List In}{y x:In}{W':List In}(he:e<=pre.length) (h:two y x=some W'):addF (g+1) e nx (pre++[y]) x=W'.foldl (addF g e nx) pre:=by
 rw[addF,pick2_snoc,if_pos he,h]
 simp
theorem addF_three {g e nx:Nat}{pre:List In}{y z x:In}{W':List In}(he:e<=pre.length) (h2:two z x=none) (h:three nx y z x=some W'):addF (g+1) e nx (pre++[y,z]) x=W'.foldl (addF g e nx) pre:=by
 have h2':pick2 (pre++[y,z]) e x=none:=by
  rw[show pre++[y,z]=(pre++[y])++[z] by simp,pick2_snoc,h2]
  split <;> rfl
 rw[addF,h2',pick3_snoc,if_pos he,h]
 simp
theorem turned_ok {o:O}(hA:Al o) {g e nx:Nat}(ih:∀ k,k<=g->AddIh o k e nx) {pre:List In}{x0 y z:In}(hy:y.op=13) (hya:y.a=(nx:Int)) (hz:z.op=12) (ha:able x0=true) (he:e<=pre.length) (hok:∀ w∈pre++[x0,y,z],OkI o.vars.length w) (hi:Irr (pre++[x0,y]) e) (hg:wts pre+wt x0+3<=g):AddOk o e nx (pre++[x0,y]) z ([x0,⟨11,0,0⟩,⟨13,z.a,0⟩].foldl (addF g e nx) pre):=by
 obtain⟨g,rfl⟩:∃ g',g=g'+1:=⟨g - 1,by omega⟩
 have hix:Irr (pre++[x0]) e:=Irr.pre (r:=[y]) (by simpa using hi)
 have hip:Irr pre e:=hix.pre
 have hpre:∀ w∈pre,OkI o.vars.length w:=fun w hw=>hok w (List.mem_append_left _ hw)
 have hzo:OkI o.vars.length z:=hok z (by simp)
 have hel:OkI o.vars.length ⟨13,z.a,0⟩:=ym hzo.i (by decide) (by decide) (by decide) (by decide)
 have hwel:wt ⟨13,z.a,0⟩=1:=rfl
 have hgz:Go8 z:=Or.inl hz
 have hwz:wt z=2:=jU (by omega)
 have hwy:wt y=1:=wt_one (by omega) (by omega) (by omega)
 have hnn:∀ n,some nx=some n->n=nx/\Go8 z:=fun n q=>⟨(Option.some.inj q).symm,hgz⟩
 have hW:wts [x0,y]=wt x0+1:=by rw[wts2,hwy]
 have hyn:some nx=some y.a.toNat:=by rw[hya];rfl
 unfold able at ha
 simp only [Bool.or_eq_true,Bool.and_eq_true,decide_eq_true_eq]at ha
 rw[List.foldl_cons,List.foldl_cons,List.foldl_cons,List.foldl_nil]
 rw[addF_stay (hix.picks (nx:=nx) (by omega)).1 (hix.picks (nx:=nx) (by omega)).2]
 rcases ha with h11|⟨h9,hs⟩
 ·have hwx:wt x0=1:=wt_one (by omega) (by omega) (by omega)
  have p2:pick2 (pre++[x0]) e ⟨11,0,0⟩=none:=by
   rw[pick2_snoc,vL h11 rfl]
   split <;> rfl
  have p3:pick3 (pre++[x0]) e nx ⟨11,0,0⟩=none:=by
   rcases snoc_of pre with rfl|⟨r,w,rfl⟩
   ·rfl
   ·rw[List.append_assoc]
    show pick3 (r++[w,x0]) e nx ⟨11,0,0⟩=none
    rw[pick3_snoc]
    split
    ·rename_i q
     refine xu (fun hw=>?_) h11 rfl
     have:=hi.b r w x0 y [] (by simp) q (by omega) nx
     rw[jW hw h11 hy]at this
     cases this
    ·rfl
  rw[addF_stay p2 p3]
  rw[show pre++[x0]++[(⟨11,0,0⟩:In)]=pre++[x0,⟨11,0,0⟩] by simp]
  rw[addF_three (W':=[⟨13,z.a,0⟩]) he (xS rfl rfl) (jW h11 rfl rfl)]
  rw[List.foldl_cons,List.foldl_nil]
  have k:=ih g (by omega) pre ⟨13,z.a,0⟩ he hpre hel hip (by omega)
  refine fold1 hA (W:=[x0,y]) (a:=⟨13,z.a,0⟩) (nxw:=some nx) ?_ hnn he hok (by simp) (by omega) (fun _=>⟨hgz,rfl⟩) k
  obtain⟨o1,a1,b1⟩:=x0
  obtain⟨o2,a2,b2⟩:=y
  obtain⟨o3,a3,b3⟩:=z
  have h11:o1=11:=h11
  have hy:o2=13:=hy
  have hz:o3=12:=hz
  subst h11 hy hz
  exact vj hyn
 ·obtain⟨k,hk⟩:=Option.isSome_iff_exists.1 hs
  have hwx:wt x0=2:=jU (by omega)
  have hwk:wt ⟨9,k,0⟩=2:=rfl
  rw[addF_two he (two_do_not h9 rfl hk)]
  rw[List.foldl_cons,List.foldl_nil]
  have hko:OkI o.vars.length ⟨9,k,0⟩:=ym (notOf_i hk) (by decide) (by decide) (by decide) (by decide)
  have k1:=ih g (by omega) pre ⟨9,k,0⟩ he hpre hko hip (by omega)
  have kw:=k1.wt
  have k2:=ih (g+1) (Nat.le_refl _) _ ⟨13,z.a,0⟩ k1.le k1.ok hel k1.irr (by omega)
  refine fold2 hA (W:=[x0,y]) (a:=⟨9,k,0⟩) (b:=⟨13,z.a,0⟩) (nxw:=some nx) ?_ hnn he hok hel (by simp) (by omega) (fun q=>?_) (fun _=>⟨hgz,rfl⟩) k1 k2
  ·have ho:=opp_of hk
   obtain⟨o1,a1,b1⟩:=x0
   obtain⟨o2,a2,b2⟩:=y
   obtain⟨o3,a3,b3⟩:=z
   have h9:o1=9:=h9
   have hy:o2=13:=hy
   have hz:o3=12:=hz
   subst h9 hy hz
   exact vV ho hyn
  ·rcases q with q|q
   ·exact absurd (show (9:Int)=12 from q) (by decide)
   ·exact absurd (show (9:Int)=13 from q) (by decide)
theorem three_ok {o:O}(hA:Al o) {g e nx:Nat}(ih:∀ k,k<=g->AddIh o k e nx) {pre:List In}{x y z:In}{W':List In}(h:three nx x y z=some W') (he:e<=pre.length) (hok:∀ w∈pre++[x,y,z],OkI o.vars.length w) (hi:Irr (pre++[x,y]) e) (hg:wts pre+wts [x,y,z]<=g):AddOk o e nx (pre++[x,y]) z (W'.foldl (addF g e nx) pre):=by
 have hip:Irr pre e:=hi.pre
 have hpre:∀ w∈pre,OkI o.vars.length w:=fun w hw=>hok w (List.mem_append_left _ hw)
 have hxo:OkI o.vars.length x:=hok x (by simp)
 have hyo:OkI o.vars.length y:=hok y (by simp)
 have hzo:OkI o.vars.length z:=hok z (by simp)
 have hw3:wts [x,y,z]=wt x+wt y+wt z:=by simp[wts];omega
 have hpx:=yB x
 have hpy:=yB y
 have hpz:=yB z
 unfold three at h
 by_cases c1:x.op=1/\y.op=1/\z.op=9
 ·rw[if_pos c1]at h
  cases hb:both (sgn z) x.a y.a with
  | none=>rw[hb]at h;cases h
  | some v =>
   rw[hb]at h
   cases h
   have wz:wt ⟨1,v,0⟩=2:=rfl
   have wx:wt x=2:=jU (Or.inl c1.1)
   refine foldk hA (ih g (Nat.le_refl _)) (W:=[x,y]) ?_ ⟨by simp,?_,zN (ym (jp hyo.i hb) (by decide) (by decide) (by decide) (by decide)),zN (nolab (by decide) (by decide))⟩ he hok hip (by simp) hg (few1 _)
   ·obtain⟨o1,a1,b1⟩:=x
    obtain⟨o2,a2,b2⟩:=y
    obtain⟨o3,a3,b3⟩:=z
    obtain⟨q1,q2,q3⟩:o1=1/\o2=1/\o3=9:=c1
    subst q1 q2 q3
    exact jQ hyo.i hb
   ·show wts [_]<wts [x,y,z]
    rw[wts1]
    omega
 rw[if_neg c1]at h
 by_cases c2:x.op=11/\y.op=11/\(z.op=11\/z.op=13)
 ·rw[if_pos c2]at h
  cases h
  refine foldk hA (ih g (Nat.le_refl _)) (W:=[x,y]) ?_ ⟨by simp,?_,zN hzo,zN fun q=>⟨z,rfl,q,rfl⟩⟩ he hok hip (by simp) hg (few1 _)
  ·obtain⟨o1,a1,b1⟩:=x
   obtain⟨o2,a2,b2⟩:=y
   obtain⟨o3,a3,b3⟩:=z
   obtain⟨q1,q2,q3⟩:o1=11/\o2=11/\(o3=11\/o3=13):=c2
   subst q1 q2
   rcases q3 with q3|q3
   ·subst q3
    exact r_not3 _ _ _ _ _ _ _ _
   ·subst q3
    exact jR _ _ _ _ _ _ _ _
  ·show wts [_]<wts [x,y,z]
   rw[wts1]
   omega
 rw[if_neg c2]at h
 by_cases c3:x.op=4/\y.op=3/\y.a=x.a/\y.b=0/\(z.op=15\/z.op=17)
 ·rw[if_pos c3]at h
  cases h
  rw[List.foldl_cons,List.foldl_nil]
  have hxl:=hxo.l (Or.inr c3.1)
  have k:=ih g (Nat.le_refl _) pre z he hpre hzo hip (by omega)
  refine fold1s (W:=[x,y]) ?_ (by rw[wts2];omega) (fun q=>⟨q,rfl⟩) k
  obtain⟨o1,a1,b1⟩:=x
  obtain⟨o2,a2,b2⟩:=y
  obtain⟨q1,q2,q3,q4,hz⟩:o1=4/\o2=3/\a2=a1/\b2=0/\(z.op=15\/z.op=17):=c3
  subst q1 q2 q3 q4
  rw[List.append_assoc]
  exact Sem.end3 hA hxl hz he (fun w hw=>(hok w hw).i) _
 rw[if_neg c3]at h
 by_cases c4:y.op=13/\y.a=(nx:Int)/\y.b=0/\z.op=12
 ·rw[if_pos c4]at h
  by_cases ha:able x=true
  ·rw[if_pos ha]at h
   cases h
   have wz:wt z=2:=jU (Or.inr (Or.inr c4.2.2.2))
   exact turned_ok hA ih c4.1 c4.2.1 c4.2.2.2 ha he hok hi (by omega)
  ·rw[if_neg ha]at h
   cases h
 rw[if_neg c4]at h
 cases h
theorem addF_ok {o:O}(hA:Al o) (e nx:Nat) (g:Nat):AddIh o g e nx:=by
 induction g using Nat.strongRecOn with
 | ind g ih =>
  intro l x he hl hx hi hg
  obtain⟨g,rfl⟩:∃ g',g=g'+1:=⟨g - 1,by omega⟩
  have hok:∀ w∈l++[x],OkI o.vars.length w:=fun w hw=>by
   rcases List.mem_append.1 hw with q|q
   ·exact hl w q
   ·rw[List.mem_singleton.1 q];exact hx
  cases h2:pick2 l e x with
  | some W' =>
   obtain⟨pre,y,rfl,he',h2',-⟩:=jY h2
   rw[addF_two he' h2']
   have hy:OkI o.vars.length y:=hl y (by simp)
   obtain⟨hw,hb⟩:=two_win (nx:=none) hy hx h2'
   refine foldk hA (ih g (by omega)) (W:=[y]) hw hb he' (fun w hw=>hok w (by simpa using hw)) hi.pre (by simp) ?_ (two_few h2')
   show wts pre+wts [y,x]<=g
   rw[wts_app,wts1]at hg
   rw[wts2]
   omega
  | none =>
   cases h3:pick3 l e nx x with
   | some W' =>
    obtain⟨pre,y,z,rfl,he',h3',-⟩:=pick3_some h3
    have h2':two z x=none:=by
     rw[show pre++[y,z]=(pre++[y])++[z] by simp,pick2_snoc,if_pos (by simp;omega)]at h2
     exact h2
    rw[addF_three he' h2' h3']
    refine three_ok hA (fun k hk=>ih k (by omega)) h3' he' (fun w hw=>hok w (by simpa using hw)) hi ?_
    rw[wts_app]at hg
    have:wts [y,z,x]=wts [y,z]+wt x:=by simp[wts];omega
    omega
   | none =>
    rw[addF_stay h2 h3]
    exact stay_ok hA he hl hx hi h2 h3
end Vm

namespace Vm
open Ob (O In)
open Tp (Bs)
structure Rch (o:O) (R:Nat->Bool):Prop where
 z:R 0=true
 e:∀ e∈o.procs,R e.at'.toNat=true
 g:∀ i x,o.code[i]?=some x->R i=true->Go8 x->R x.a.toNat=true
 f:∀ i x,o.code[i]?=some x->R i=true->x.op≠12->x.op≠15->x.op≠17->R (i+1)=true
def idl (i:Nat):In:=⟨12,((i+1:Nat):Int),0⟩
def dceC (R:Nat->Bool) (c:List In):List In:=c.mapIdx fun i x=>if R i=true then x else idl i
theorem ju {R:Nat->Bool}{c:List In}{i:Nat}(hR:R i=true):(dceC R c)[i]?=c[i]?:=by
 unfold dceC
 rw[List.getElem?_mapIdx]
 cases c[i]? with
 | none=>rfl
 | some x=>simp[hR]
theorem xn {R:Nat->Bool}{c:List In}{i:Nat}(hi:i<c.length) (hR:¬R i=true):(dceC R c)[i]?=some (idl i):=by
 unfold dceC
 rw[List.getElem?_mapIdx,List.getElem?_eq_getElem hi]
 simp[hR]
theorem jL (R:Nat->Bool) (c:List In):(dceC R c).length=c.length:=by unfold dceC;rw[List.length_mapIdx]
theorem dce_ref {o:O}(hA:Al o) {R:Nat->Bool}(h:Rch o R):Ref o { o with code:=dceC R o.code }:=by
 have hE:EnR o { o with code:=dceC R o.code } (fun a b=>a=b/\R a=true):=⟨rfl,rfl,rfl,rfl,fun i e e' h1 h2=>by
  rw[h1]at h2
  cases h2
  exact⟨rfl,rfl,rfl,h.e e (List.mem_of_getElem? h1)⟩⟩
 refine vg hE ⟨rfl,h.z⟩ fun most s t hr hw=>?_
 rcases hr.top (most:=most) hw with q|⟨f,g,fs,gs,x,hf,hg,hx,k1,k2,k3⟩
 ·exact Or.inl q
 ·obtain⟨hp,hR⟩:f.at'=g.at'/\R f.at'=true:=k1.p
  have hy:({ o with code:=dceC R o.code }:O).code[g.at']?=some x:=by
   rw[<-hp]
   exact(ju hR).trans hx
  exact k7 hA hE hr hw hf hg hx hy (One.self (fun q=>⟨rfl,h.g _ x hx hR q⟩) (fun q1 q2 q3=>⟨by rw[hp],h.f _ x hx hR q1 q2 q3⟩))
theorem uw {o:O}{c:List In}{lb lb':Nat->Nat}(h1:∀ z∈c,Go8 z->lb z.a.toNat=lb' z.a.toNat) (h2:∀ e∈o.procs,lb e.at'.toNat=lb' e.at'.toNat):H o c lb=H o c lb':=by
 unfold H
 have e1:c.map (rl lb)=c.map (rl lb'):=List.map_congr_left fun z hz=>by
  unfold rl
  by_cases q:z.op=12\/z.op=13
  ·rw[if_pos q,if_pos q,h1 z hz q]
  ·rw[if_neg q,if_neg q]
 have e2:o.procs.map (fun e=>{ e with at':=(lb e.at'.toNat:Int) })=o.procs.map (fun e=>{ e with at':=(lb' e.at'.toNat:Int) }):=List.map_congr_left fun e he=>by
  rw[h2 e he]
 rw[e1,e2]
theorem H_id {o:O}{lb:Nat->Nat}(h1:∀ z∈o.code,Go8 z->(lb z.a.toNat:Int)=z.a) (h2:∀ e∈o.procs,(lb e.at'.toNat:Int)=e.at'):H o o.code lb=o:=by
 unfold H
 have e1:o.code.map (rl lb)=o.code:=by
  rw[<-List.map_id o.code]
  rw[List.map_id]
  refine(List.map_congr_left fun z hz=>?_).trans (List.map_id _)
  unfold rl
  by_cases q:z.op=12\/z.op=13
  ·rw[if_pos q,h1 z hz q];rfl
  ·rw[if_neg q];rfl
 have e2:o.procs.map (fun e=>{ e with at':=(lb e.at'.toNat:Int) })=o.procs:=by
  refine(List.map_congr_left fun e he=>?_).trans (List.map_id _)
  rw[h2 e he];rfl
 rw[e1,e2]
theorem r_idle (nv i:Nat):Win nv [idl i] [] (some (i+1)):=ye fun base many c hc=>by
 show Ok8 nv base many [] c (some (i+1)) (wr base many 0 [⟨12,((i+1:Nat):Int),0⟩] c)
 rw[wr,ws12]
 exact⟨hc,0,none,by omega,rfl,Or.inr ⟨rfl,rfl,rfl⟩⟩
def lbf (aim:Nat->Bool) (n i k:Nat) (pl:Nat->Nat) (q:Nat):Nat:=if q<=i/\aim q=false then 0 else if q<i then pl q else k+(min q n - i)
def nxE (aim:Nat->Bool) (i k e:Nat):Nat:=if aim i=true then k else e
def Idl (i:Nat) (x:In):Prop:=x.op=12/\x.a=((i+1:Nat):Int)/\x.b=0
theorem idl_iff {i:Nat}{x:In}:Idl i x↔x=idl i:=by
 obtain⟨op,a,b⟩:=x
 constructor
 ·rintro⟨h1,h2,h3⟩
  have h1:op=12:=h1
  have h2:a=_:=h2
  have h3:b=0:=h3
  rw[h1,h2,h3]
  rfl
 ·intro h
  rw[h]
  exact⟨rfl,rfl,rfl⟩
def sqF (aim:Nat->Bool):Nat->List In->List In->(Nat->Nat)->Nat->List In× (Nat->Nat)
 | _,[],l,pl,_=>(l,pl)
 | i,x :: r,l,pl,e=>if x.op=12/\x.a=((i+1:Nat):Int)/\x.b=0 then sqF aim (i+1) r l (fun q=>if q=i then l.length else pl q) (nxE aim i l.length e)
  else sqF aim (i+1) r (addF (wts l+wt x+1) (nxE aim i l.length e) (i+1) l x) (fun q=>if q=i then l.length else pl q) (nxE aim i l.length e)
theorem jx {aim:Nat->Bool}{i:Nat}{r l:List In}{pl:Nat->Nat}{e:Nat}:sqF aim i (idl i :: r) l pl e=sqF aim (i+1) r l (fun q=>if q=i then l.length else pl q) (nxE aim i l.length e):=by
 rw[sqF]
 exact if_pos (idl_iff.2 rfl)
theorem xw {aim:Nat->Bool}{i:Nat}{x:In}{r l:List In}{pl:Nat->Nat}{e:Nat}(hx:x≠idl i):sqF aim i (x :: r) l pl e=sqF aim (i+1) r (addF (wts l+wt x+1) (nxE aim i l.length e) (i+1) l x) (fun q=>if q=i then l.length else pl q) (nxE aim i l.length e):=by
 rw[sqF]
 exact if_neg fun q=>hx (idl_iff.1 q)
structure SqI (o:O) (aim:Nat->Bool) (n i:Nat) (r l:List In) (pl:Nat->Nat) (e:Nat):Prop where
 hn:i+r.length=n
 n4:n<=4000
 he:e<=l.length
 hl:l.length<=i
 okl:∀ z∈l,OkI o.vars.length z
 okr:∀ z∈r,OkI o.vars.length z
 irr:Irr l e
 labl:∀ z∈l,Go8 z->aim z.a.toNat=true/\z.a.toNat<n
 labr:∀ j z,r[j]?=some z->Go8 z->(aim z.a.toNat=true/\z.a.toNat<n)\/z=idl (i+j)
 ent:∀ e∈o.procs,aim e.at'.toNat=true/\e.at'.toNat<n
 hpl:∀ q,q<i->aim q=true->pl q<=e
theorem jC {aim:Nat->Bool}{i k e:Nat}(h:e<=k):e<=nxE aim i k e/\nxE aim i k e<=k:=by
 unfold nxE
 split <;> omega
theorem lbf_gap {aim:Nat->Bool}{n i k e:Nat}{pl:Nat->Nat}(hi:i<n) (he:e<=k) (hp:∀ q,q<i->aim q=true->pl q<=e):Lb (nxE aim i k e) (k+1) (lbf aim n i k pl):=fun q=>by
 have h:=jC (aim:=aim) (i:=i) he
 unfold lbf
 by_cases c1:q<=i/\aim q=false
 ·rw[if_pos c1];omega
 rw[if_neg c1]
 by_cases c2:q<i
 ·rw[if_pos c2]
  have ha:aim q=true:=by
   cases ha:aim q with
   | true=>rfl
   | false=>exact absurd ⟨by omega,ha⟩ c1
  have:=hp q c2 ha
  omega
 rw[if_neg c2]
 by_cases c3:q=i
 ·subst c3
  have ha:aim q=true:=by
   cases ha:aim q with
   | true=>rfl
   | false=>exact absurd ⟨by omega,ha⟩ c1
  have:nxE aim q k e=k:=by unfold nxE;rw[if_pos ha]
  omega
 ·omega
theorem j5 {aim:Nat->Bool}{n i k k' e q:Nat}{pl:Nat->Nat}(hi:i<n) (he:e<=k) (hp:∀ q,q<i->aim q=true->pl q<=e) (hq:aim q=true\/i+1<q):ts (nxE aim i k e) (k+1) k' (lbf aim n i k pl q)=lbf aim n (i+1) k' (fun q=>if q=i then k else pl q) q:=by
 have h:=jC (aim:=aim) (i:=i) he
 have n1:¬(q<=i/\aim q=false):=fun w=>by
  rcases hq with hq|hq
  ·rw[hq]at w;exact absurd w.2 (by decide)
  ·omega
 have n2:¬(q<=i+1/\aim q=false):=fun w=>by
  rcases hq with hq|hq
  ·rw[hq]at w;exact absurd w.2 (by decide)
  ·omega
 unfold lbf
 rw[if_neg n1,if_neg n2]
 show ts _ _ _ _=if q<i+1 then (if q=i then k else pl q) else k'+(min q n - (i+1))
 by_cases c2:q<i
 ·rw[if_pos c2,if_pos (by omega),if_neg (by omega)]
  have ha:aim q=true:=by
   rcases hq with hq|hq
   ·exact hq
   ·omega
  have:=hp q c2 ha
  unfold ts
  rw[if_pos (by omega)]
 rw[if_neg c2]
 by_cases c3:q=i
 ·subst c3
  have ha:aim q=true:=by
   rcases hq with hq|hq
   ·exact hq
   ·omega
  have h1:nxE aim q k e=k:=by unfold nxE;rw[if_pos ha]
  rw[h1,if_pos (by omega),if_pos rfl]
  unfold ts
  rw[if_pos (by omega)]
  omega
 ·rw[if_neg (by omega)]
  unfold ts
  rw[if_neg (by omega)]
  omega
theorem lbf_le {aim:Nat->Bool}{n i k e q:Nat}{pl:Nat->Nat}(he:e<=k) (hk:k<=i) (hi:i<=n) (hn:n<=4000) (hp:∀ q,q<i->aim q=true->pl q<=e):lbf aim n i k pl q<=100000:=by
 unfold lbf
 by_cases c1:q<=i/\aim q=false
 ·rw[if_pos c1];omega
 rw[if_neg c1]
 by_cases c2:q<i
 ·rw[if_pos c2]
  have ha:aim q=true:=by
   cases ha:aim q with
   | true=>rfl
   | false=>exact absurd ⟨by omega,ha⟩ c1
  have:=hp q c2 ha
  omega
 ·rw[if_neg c2];omega
theorem pl_next {aim:Nat->Bool}{i k e:Nat}{pl:Nat->Nat}(he:e<=k) (hp:∀ q,q<i->aim q=true->pl q<=e):∀ q,q<i+1->aim q=true->(fun q=>if q=i then k else pl q) q<=nxE aim i k e:=fun q hq ha=>by
 have h:=jC (aim:=aim) (i:=i) he
 show (if q=i then k else pl q)<=_
 by_cases c:q=i
 ·subst c
  rw[if_pos rfl]
  unfold nxE
  rw[if_pos ha]
  exact Nat.le_refl _
 ·rw[if_neg c]
  have:=hp q (by omega) ha
  omega
theorem vO {o:O}(hA:Al o) {aim:Nat->Bool}{n i:Nat}{r l:List In}{pl:Nat->Nat}{e:Nat}(h:SqI o aim n i (idl i :: r) l pl e):SqI o aim n (i+1) r l (fun q=>if q=i then l.length else pl q) (nxE aim i l.length e)/\Ref (H o (l++idl i :: r) (lbf aim n i l.length pl)) (H o (l++r) (lbf aim n (i+1) l.length fun q=>if q=i then l.length else pl q)):=by
 have hn:i+(r.length+1)=n:=h.hn
 have hle:=jC (aim:=aim) (i:=i) h.he
 have hlabr:∀ j z,r[j]?=some z->Go8 z->(aim z.a.toNat=true/\z.a.toNat<n)\/z=idl (i+1+j):=fun j z hz hg=>by
  have:=h.labr (j+1) z hz hg
  rw[show i+1+j=i+(j+1) by omega]
  exact this
 refine⟨⟨by omega,h.n4,hle.2,by have:=h.hl;omega,h.okl,fun z hz=>h.okr z (List.mem_cons_of_mem _ hz),h.irr.le hle.1,h.labl,hlabr,h.ent,pl_next h.he h.hpl⟩,?_⟩
 have hgap:=lbf_gap (k:=l.length) (by omega:i<n) h.he h.hpl
 have hb:∀ q,lbf aim n i l.length pl q<=100000:=fun q=>lbf_le h.he h.hl (by omega) h.n4 h.hpl
 have hAl:Al (H o (l++[idl i]++r) (lbf aim n i l.length pl)):=H_al hA (fun z hz=>by
  rcases List.mem_append.1 hz with q|q
  ·rcases List.mem_append.1 q with q|q
   ·exact(h.okl z q).i
   ·exact(h.okr z (by rw[List.mem_singleton.1 q];exact List.mem_cons_self)).i
  ·exact(h.okr z (List.mem_cons_of_mem _ q)).i) fun q=>by have:=hb q;omega
 have hcl:∀ q,lbf aim n i l.length pl q<=l.length\/l.length+[idl i].length<=lbf aim n i l.length pl q:=fun q=>by
  rcases hgap q with t|t
  ·exact Or.inl (by omega)
  ·exact Or.inr t
 have hw:=win_ref (pre:=l) (W:=[idl i]) (W':=[]) (post:=r) (lb:=lbf aim n i l.length pl) hAl (by simp) (r_idle o.vars.length i) (fun m hm=>by
  cases hm
  show lbf aim n i l.length pl (i+1)=l.length+1
  unfold lbf
  rw[if_neg (by omega),if_neg (by omega)]
  omega) (fun z _ _=>hcl _) (fun z _=>hcl _)
 rw[show [idl i].length=1 from rfl,show ([]:List In).length=0 from rfl,ts_sh hle.2 (Nat.le_refl _) hgap]at hw
 rw[show l++[idl i]++r=l++idl i :: r by simp,List.append_nil]at hw
 rw[show H o (l++r) (lbf aim n (i+1) l.length fun q=>if q=i then l.length else pl q)=H o (l++r) (fun q=>ts (nxE aim i l.length e) (l.length+1) (l.length+0) (lbf aim n i l.length pl q)) from(uw (fun z hz hg=>j5 (by omega) h.he h.hpl (by
  rcases List.mem_append.1 hz with q|q
  ·exact Or.inl (h.labl z q hg).1
  ·obtain⟨j,hj⟩:=List.mem_iff_getElem?.1 q
   rcases hlabr j z hj hg with t|t
   ·exact Or.inl t.1
   ·right
    rw[t]
    show i+1<(((i+1+j+1:Nat):Int)).toNat
    omega)) (fun e' he'=>j5 (by omega) h.he h.hpl (Or.inl (h.ent e' he').1))).symm]
 exact hw
theorem sq_add {o:O}(hA:Al o) {aim:Nat->Bool}{n i:Nat}{x:In}{r l:List In}{pl:Nat->Nat}{e:Nat}(h:SqI o aim n i (x :: r) l pl e) (hx:x≠idl i) {l':List In}(hl':l'=addF (wts l+wt x+1) (nxE aim i l.length e) (i+1) l x):SqI o aim n (i+1) r l' (fun q=>if q=i then l.length else pl q) (nxE aim i l.length e)/\Ref (H o (l++x :: r) (lbf aim n i l.length pl)) (H o (l'++r) (lbf aim n (i+1) l'.length fun q=>if q=i then l.length else pl q)):=by
 have hn:i+(r.length+1)=n:=h.hn
 have hle:=jC (aim:=aim) (i:=i) h.he
 have hxo:=h.okr x List.mem_cons_self
 have k:=addF_ok hA (nxE aim i l.length e) (i+1) (wts l+wt x+1) l x hle.2 h.okl hxo (h.irr.le hle.1) (by omega)
 rw[<-hl']at k
 have hlabr:∀ j z,r[j]?=some z->Go8 z->(aim z.a.toNat=true/\z.a.toNat<n)\/z=idl (i+1+j):=fun j z hz hg=>by
  have:=h.labr (j+1) z hz hg
  rw[show i+1+j=i+(j+1) by omega]
  exact this
 have hlx:Go8 x->aim x.a.toNat=true/\x.a.toNat<n:=fun hg=>by
  rcases h.labr 0 x rfl hg with t|t
  ·exact t
  ·exact absurd t hx
 have hlabl:∀ z∈l',Go8 z->aim z.a.toNat=true/\z.a.toNat<n:=fun z hz hg=>by
  obtain⟨w,h1,h2,h3⟩:=k.lab z hz hg
  rw[<-h3]
  rcases List.mem_append.1 h1 with q|q
  ·exact h.labl w q h2
  ·rw[List.mem_singleton.1 q]at h2 ⊢
   exact hlx h2
 have hlen:=k.len
 refine⟨⟨by omega,h.n4,k.le,by have:=h.hl;omega,k.ok,fun z hz=>h.okr z (List.mem_cons_of_mem _ hz),k.irr,hlabl,hlabr,h.ent,pl_next h.he h.hpl⟩,?_⟩
 have hgap:=lbf_gap (k:=l.length) (by omega:i<n) h.he h.hpl
 have hb:∀ q,lbf aim n i l.length pl q<=100000:=fun q=>lbf_le h.he h.hl (by omega) h.n4 h.hpl
 have hlx1:(l++[x]).length=l.length+1:=by simp
 have hw:=k.sem r (lbf aim n i l.length pl) (fun z hz=>(h.okr z (List.mem_cons_of_mem _ hz)).i) hb (by rw[hlx1];exact hgap) (fun _=>by
  rw[hlx1]
  unfold lbf
  rw[if_neg (by omega),if_neg (by omega)]
  omega)
 rw[hlx1,show l++[x]++r=l++x :: r by simp]at hw
 rw[show H o (l'++r) (lbf aim n (i+1) l'.length fun q=>if q=i then l.length else pl q)=H o (l'++r) (fun q=>ts (nxE aim i l.length e) (l.length+1) l'.length (lbf aim n i l.length pl q)) from(uw (fun z hz hg=>j5 (by omega) h.he h.hpl (by
  rcases List.mem_append.1 hz with q|q
  ·exact Or.inl (hlabl z q hg).1
  ·obtain⟨j,hj⟩:=List.mem_iff_getElem?.1 q
   rcases hlabr j z hj hg with t|t
   ·exact Or.inl t.1
   ·right
    rw[t]
    show i+1<(((i+1+j+1:Nat):Int)).toNat
    omega)) (fun e' he'=>j5 (by omega) h.he h.hpl (Or.inl (h.ent e' he').1))).symm]
 exact hw
theorem sq_ref {o:O}(hA:Al o) {aim:Nat->Bool}{n:Nat}:∀(r:List In) (i:Nat) (l:List In) (pl:Nat->Nat) (e:Nat),SqI o aim n i r l pl e->∃ e',SqI o aim n n [] (sqF aim i r l pl e).1 (sqF aim i r l pl e).2 e'/\Ref (H o (l++r) (lbf aim n i l.length pl)) (H o (sqF aim i r l pl e).1 (lbf aim n n (sqF aim i r l pl e).1.length (sqF aim i r l pl e).2))
 | [],i,l,pl,e,h=>by
  have hn:i=n:=by have:=h.hn;simpa using this
  subst hn
  rw[sqF,List.append_nil]
  refine⟨e,h,kS (H_al hA (fun z hz=>(h.okl z hz).i) fun q=>?_)⟩
  have:=lbf_le (q:=q) h.he h.hl (Nat.le_refl _) h.n4 h.hpl
  omega
 | x :: r,i,l,pl,e,h=>by
  by_cases hx:x=idl i
  ·subst hx
   obtain⟨h1,h2⟩:=vO hA h
   obtain⟨e',h3,h4⟩:=sq_ref hA r (i+1) l _ _ h1
   rw[jx]
   exact⟨e',h3,H_refs h2 h4⟩
  ·obtain⟨h1,h2⟩:=sq_add hA h hx rfl
   obtain⟨e',h3,h4⟩:=sq_ref hA r (i+1) _ _ _ h1
   rw[xw hx]
   exact⟨e',h3,H_refs h2 h4⟩
def Ends (x:In):Prop:=x.op=12\/x.op=15\/x.op=17
theorem two_end {x y:In}(h:Ends y):two x y=none:=by
 unfold Ends at h
 unfold two
 by_cases c1:x.op=1
 ·rw[if_pos c1]
  unfold behindPush
  rw[if_neg (by omega),if_neg (by omega),if_neg (by omega),if_neg (by omega)]
 rw[if_neg c1]
 by_cases c2:x.op=10
 ·rw[if_pos c2]
  unfold behindNeg
  rw[if_neg (by omega),if_neg (by omega),if_neg (by omega),if_neg (by omega)]
 rw[if_neg c2,if_neg (by omega),if_neg (by omega),if_neg (by omega),if_neg (by omega)]
theorem three_end {nx:Nat}{x y z:In}(h:Ends z) {W':List In}(q:three nx x y z=some W'):W'=[z]\/(y.op=13/\y.a=(nx:Int)):=by
 unfold Ends at h
 unfold three at q
 rw[if_neg (by omega),if_neg (by omega)]at q
 by_cases c3:x.op=4/\y.op=3/\y.a=x.a/\y.b=0/\(z.op=15\/z.op=17)
 ·rw[if_pos c3]at q
  cases q
  exact Or.inl rfl
 rw[if_neg c3]at q
 by_cases c4:y.op=13/\y.a=(nx:Int)/\y.b=0/\z.op=12
 ·exact Or.inr ⟨c4.1,c4.2.1⟩
 rw[if_neg c4]at q
 cases q
theorem vH {e nx:Nat}{x:In}(hx:Ends x):∀(g:Nat) (l:List In),e<=l.length->((addF g e nx l x).getLast?=some x/\e<(addF g e nx l x).length)\/∃ w∈l,w.op=13/\w.a=(nx:Int)
 | 0,l,he=>Or.inl ⟨by rw[addF];simp,by rw[addF];simp;omega⟩
 | g+1,l,he=>by
  have h2:pick2 l e x=none:=by
   rcases snoc_of l with rfl|⟨pre,y,rfl⟩
   ·rfl
   ·rw[pick2_snoc,two_end hx]
    split <;> rfl
  cases h3:pick3 l e nx x with
  | none =>
   rw[addF_stay h2 h3]
   exact Or.inl ⟨by simp,by simp;omega⟩
  | some W' =>
   obtain⟨pre,y,z,rfl,he',h3',ht⟩:=pick3_some h3
   rcases three_end hx h3' with rfl|hw
   ·rw[addF,h2,h3]
    simp only
    rw[ht,List.foldl_cons,List.foldl_nil]
    rcases vH hx g pre he' with q|⟨w,h1,h4⟩
    ·exact Or.inl q
    ·exact Or.inr ⟨w,List.mem_append_left _ h1,h4⟩
   ·exact Or.inr ⟨z,by simp,hw⟩
structure Mkd (o:O) (R aim:Nat->Bool):Prop where
 z:R 0=true
 lt:∀ i,R i=true->i<o.code.length
 ar:∀ i,aim i=true->R i=true
 e:∀ e∈o.procs,aim e.at'.toNat=true
 g:∀ i x,o.code[i]?=some x->R i=true->Go8 x->x≠idl i->aim x.a.toNat=true
 f:∀ i x,o.code[i]?=some x->R i=true->¬Ends x\/x=idl i->R (i+1)=true
theorem Mkd.rch {o:O}{R aim:Nat->Bool}(h:Mkd o R aim):Rch o R:=⟨h.z,fun e he=>h.ar _ (h.e e he),fun i x hx hR hg=>by
 by_cases q:x=idl i
 ·have:=h.f i x hx hR (Or.inr q)
  rw[q]
  show R (((i+1:Nat):Int)).toNat=true
  rw[Int.toNat_natCast]
  exact this
 ·exact h.ar _ (h.g i x hx hR hg q),fun i x hx hR h1 h2 h3=>h.f i x hx hR (Or.inl fun q=>by
 rcases q with q|q|q
 ·exact h1 q
 ·exact h2 q
 ·exact h3 q)⟩
structure Okc (o:O):Prop where
 al:Al o
 n4:o.code.length<=4000
 ok:∀ x∈o.code,OkI o.vars.length x
 lab:∀ x∈o.code,Go8 x->0<=x.a/\x.a.toNat<o.code.length
 ent:∀ e∈o.procs,0<=e.at'/\e.at'.toNat<o.code.length
 last:∃ z,o.code.getLast?=some z/\Ends z
theorem idl_ok {nv i:Nat}(h:i<4000):OkI nv (idl i):=ym (by unfold Tp.I64;omega) (by decide) (by decide) (by decide) (by decide)
theorem jw {o:O}(hO:Okc o) {R aim:Nat->Bool}(hM:Mkd o R aim):SqI o aim o.code.length 0 (dceC R o.code) [] (fun _=>0) 0:=by
 have hlen:=jL R o.code
 have hn4:=hO.n4
 refine⟨by rw[hlen,Nat.zero_add],hO.n4,Nat.le_refl _,Nat.le_refl _,fun z hz=>(by cases hz),fun z hz=>?_,Irr.nil _,fun z hz=>(by cases hz),fun j z hz hg=>?_,fun e he=>⟨hM.e e he,(hO.ent e he).2⟩,fun q hq=>absurd hq (Nat.not_lt_zero _)⟩
 ·obtain⟨j,hj⟩:=List.mem_iff_getElem?.1 hz
  have hjl:j<o.code.length:=by
   have:=(List.getElem?_eq_some_iff.1 hj).1
   omega
  by_cases hR:R j=true
  ·rw[ju hR]at hj
   exact hO.ok z (List.mem_of_getElem? hj)
  ·rw[xn hjl hR]at hj
   cases hj
   exact idl_ok (by omega)
 ·have hjl:j<o.code.length:=by
   have:=(List.getElem?_eq_some_iff.1 hz).1
   omega
  rw[Nat.zero_add]
  by_cases hR:R j=true
  ·rw[ju hR]at hz
   by_cases q:z=idl j
   ·exact Or.inr q
   ·exact Or.inl ⟨hM.g j z hz hR hg q,(hO.lab z (List.mem_of_getElem? hz) hg).2⟩
  ·rw[xn hjl hR]at hz
   cases hz
   exact Or.inr rfl
def Tail (R:Nat->Bool) (i:Nat) (l:List In) (e:Nat):Prop:=(∃ z,l.getLast?=some z/\Ends z/\e<l.length)\/R i=true
theorem vN {o:O}(hO:Okc o) {R aim:Nat->Bool}(hM:Mkd o R aim):∀(r:List In) (i:Nat) (l:List In) (pl:Nat->Nat) (e:Nat),SqI o aim o.code.length i r l pl e->r=(dceC R o.code).drop i->Tail R i l e->∃ e',SqI o aim o.code.length o.code.length [] (sqF aim i r l pl e).1 (sqF aim i r l pl e).2 e'/\Tail R o.code.length (sqF aim i r l pl e).1 e'
 | [],i,l,pl,e,h,_,ht=>by
  have hn:i=o.code.length:=by have:=h.hn;simpa using this
  rw[sqF]
  rw[hn]at h ht
  exact⟨e,h,ht⟩
 | x :: r,i,l,pl,e,h,hr,ht=>by
  have hn:i+(r.length+1)=o.code.length:=h.hn
  have hxi:(dceC R o.code)[i]?=some x:=by
   have:=congrArg (fun t=>t[0]?) hr
   simp only [List.getElem?_cons_zero,List.getElem?_drop,Nat.add_zero]at this
   exact this.symm
  have hr1:r=(dceC R o.code).drop (i+1):=by
   have:=congrArg List.tail hr
   rw[List.tail_cons,List.tail_drop]at this
   exact this
  have hil:i<o.code.length:=by omega
  by_cases hx:x=idl i
  ·subst hx
   obtain⟨h1,-⟩:=vO hO.al h
   rw[jx]
   refine vN hO hM r (i+1) l _ _ h1 hr1 ?_
   by_cases hR:R i=true
   ·rw[ju hR]at hxi
    exact Or.inr (hM.f i _ hxi hR (Or.inr rfl))
   ·have ha:¬aim i=true:=fun q=>hR (hM.ar i q)
    rcases ht with ht|ht
    ·left
     unfold nxE
     rw[if_neg ha]
     exact ht
    ·exact absurd ht hR
  ·obtain⟨h1,-⟩:=sq_add hO.al h hx rfl
   rw[xw hx]
   refine vN hO hM r (i+1) _ _ _ h1 hr1 ?_
   have hR:R i=true:=by
    cases hR:R i with
    | true=>rfl
    | false =>
     rw[xn hil (by rw[hR];decide)]at hxi
     exact absurd (Option.some.inj hxi).symm hx
   rw[ju hR]at hxi
   by_cases hE:Ends x
   ·rcases vH (e:=nxE aim i l.length e) (nx:=i+1) hE (wts l+wt x+1) l (jC h.he).2 with q|⟨w,hw,hw1,hw2⟩
    ·exact Or.inl ⟨x,q.1,hE,q.2⟩
    ·have:=(h.labl w hw (Or.inr hw1)).1
     rw[hw2,Int.toNat_natCast]at this
     exact Or.inr (hM.ar _ this)
   ·exact Or.inr (hM.f i x hxi hR (Or.inl hE))
end Vm
