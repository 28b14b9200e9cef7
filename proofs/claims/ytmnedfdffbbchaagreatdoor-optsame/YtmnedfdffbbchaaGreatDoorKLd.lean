import Derived.Test.YtmnedfdffbbchaaGreatDoorKLc
set_option maxRecDepth 100000
set_option maxHeartbeats 4000000

namespace Vm
open Ob (O In)
open Tp (Bs)
def sqL (o:O) (R aim:Nat->Bool):List In× (Nat->Nat):=sqF aim 0 (dceC R o.code) [] (fun _=>0) 0
def sqO (o:O) (R aim:Nat->Bool):O:=H o (sqL o R aim).1 (sqL o R aim).2
theorem xI {aim:Nat->Bool}{n q:Nat}{pl:Nat->Nat}(h:q<=n):lbf aim n 0 0 pl q=q:=by
 unfold lbf
 by_cases c:q<=0/\aim q=false
 ·rw[if_pos c];omega
 ·rw[if_neg c,if_neg (by omega)];omega
theorem lbf_end {aim:Nat->Bool}{n k q:Nat}{pl:Nat->Nat}(h:q<n) (ha:aim q=true):lbf aim n n k pl q=pl q:=by
 unfold lbf
 rw[if_neg fun c=>by rw[ha]at c;exact absurd c.2 (by decide),if_pos h]
theorem sq_code {o:O}(hO:Okc o) {R aim:Nat->Bool}(hM:Mkd o R aim):H o (dceC R o.code) (lbf aim o.code.length 0 0 fun _=>0)={ o with code:=dceC R o.code }:=by
 have h:=jw hO hM
 refine H_id (o:={ o with code:=dceC R o.code }) (fun z hz hg=>?_) fun e he=>?_
 ·obtain⟨j,hj⟩:=List.mem_iff_getElem?.1 hz
  have hjl:j<o.code.length:=by
   have:=(List.getElem?_eq_some_iff.1 hj).1
   have e1:({ o with code:=dceC R o.code }:O).code.length=o.code.length:=jL R o.code
   omega
  have hj:(dceC R o.code)[j]?=some z:=hj
  by_cases hR:R j=true
  ·rw[ju hR]at hj
   obtain⟨h1,h2⟩:=hO.lab z (List.mem_of_getElem? hj) hg
   rw[xI (by omega)]
   omega
  ·rw[xn hjl hR]at hj
   cases hj
   show ((lbf aim o.code.length 0 0 (fun _=>0) (((j+1:Nat):Int)).toNat:Nat):Int)=((j+1:Nat):Int)
   rw[Int.toNat_natCast,xI (by omega)]
 ·obtain⟨h1,h2⟩:=hO.ent e he
  rw[xI (by omega)]
  omega
theorem sq_all {o:O}(hO:Okc o) {R aim:Nat->Bool}(hM:Mkd o R aim):Ref o (sqO o R aim)/\Okc (sqO o R aim)/\(sqO o R aim).code.length<=o.code.length:=by
 obtain⟨e1,hI,hRef⟩:=sq_ref hO.al _ 0 [] _ 0 (jw hO hM)
 obtain⟨e2,hI2,hT⟩:=vN hO hM _ 0 [] _ 0 (jw hO hM) rfl (Or.inr hM.z)
 have hs:sqF aim 0 (dceC R o.code) [] (fun _=>0) 0=sqL o R aim:=rfl
 rw[hs]at hI hRef hI2 hT
 obtain⟨s,hsl⟩:∃ s,s=sqL o R aim:=⟨_,rfl⟩
 unfold sqO
 rw[<-hsl]at hI hRef hI2 hT ⊢
 obtain⟨c,pl⟩:=s
 simp only at hI hRef hI2 hT ⊢
 have hpl:∀ q,aim q=true->q<o.code.length->lbf aim o.code.length o.code.length c.length pl q=pl q:=fun q h1 h2=>lbf_end h2 h1
 have hcg:H o c (lbf aim o.code.length o.code.length c.length pl)=H o c pl:=uw (fun z hz hg=>hpl _ (hI2.labl z hz hg).1 (hI2.labl z hz hg).2) fun e he=>hpl _ (hI2.ent e he).1 (hI2.ent e he).2
 rw[List.nil_append,List.length_nil,sq_code hO hM,hcg]at hRef
 have hln:c.length<=o.code.length:=hI2.hl
 have hn4:=hO.n4
 refine⟨(dce_ref hO.al hM.rch).trans hRef rfl rfl rfl,?_,by show (c.map _).length<=_;rw[List.length_map];exact hln⟩
 obtain⟨z,hz1,hz2,hz3⟩:∃ z,c.getLast?=some z/\Ends z/\e2<c.length:=by
  rcases hT with q|q
  ·exact q
  ·exact absurd (hM.lt _ q) (Nat.lt_irrefl _)
 have hlt:∀ q,aim q=true->q<o.code.length->pl q<c.length:=fun q h1 h2=>by
  have:=hI2.hpl q h2 h1
  omega
 have hlm:(H o c pl).code.length=c.length:=by show (c.map _).length=_;rw[List.length_map]
 refine⟨?_,by rw[hlm];omega,fun x hx=>?_,fun x hx hg=>?_,fun e he=>?_,⟨rl pl z,?_,?_⟩⟩
 ·rw[<-hcg]
  exact H_al hO.al (fun x hx=>(hI2.okl x hx).i) fun q=>by
   have:=lbf_le (q:=q) hI2.he hI2.hl (Nat.le_refl _) hI2.n4 hI2.hpl
   omega
 ·obtain⟨y,hy,rfl⟩:=List.mem_map.1 hx
  have h1:=hI2.okl y hy
  show OkI o.vars.length (rl pl y)
  by_cases q:y.op=12\/y.op=13
  ·have h2:=hI2.labl y hy q
   have h3:=hlt _ h2.1 h2.2
   refine⟨by rw[rl_g pl y q];unfold Tp.I64;omega,fun w=>?_,fun w=>?_⟩
   ·rw[rl_op]at w;omega
   ·rw[rl_op]at w;omega
  ·rw[rl_a pl y (fun w=>q (Or.inl w)) (fun w=>q (Or.inr w))]
   exact h1
 ·obtain⟨y,hy,rfl⟩:=List.mem_map.1 hx
  have q:y.op=12\/y.op=13:=by
   unfold Go8 at hg
   rw[rl_op]at hg
   exact hg
  have h2:=hI2.labl y hy q
  have h3:=hlt _ h2.1 h2.2
  rw[rl_g pl y q,hlm]
  omega
 ·obtain⟨e',he',rfl⟩:=List.mem_map.1 he
  have h2:=hI2.ent e' he'
  have h3:=hlt _ h2.1 h2.2
  rw[hlm]
  show 0<=((pl e'.at'.toNat:Nat):Int)/\(((pl e'.at'.toNat:Nat):Int)).toNat<c.length
  omega
 ·show (c.map (rl pl)).getLast?=some (rl pl z)
  rw[List.getLast?_map,hz1]
  rfl
 ·unfold Ends at hz2 ⊢
  rw[rl_op]
  exact hz2
end Vm

namespace Vm
open Ob (O In)
open Tp (Bs w64)
structure Pa where
 at':Nat
 put:Bool
 n:Int
def folO (p:Pa) (x:In):Option Pa :=
 if x.op=12 then some ⟨x.a.toNat,p.put,p.n⟩
 else if x.op=1/\p.put=false then some ⟨p.at'+1,true,x.a⟩
 else if p.put=false then none
 else if x.op=13/\p.n=0 then some ⟨x.a.toNat,false,p.n⟩
 else if x.op=13\/x.op=2 then some ⟨p.at'+1,false,p.n⟩
 else if x.op=10\/x.op=11 then some ⟨p.at'+1,p.put,single8 x.op p.n⟩
 else none
def follow (c:List In) (p:Pa):Option Pa:=c[p.at']?.bind (folO p)
def onF (c:List In):Nat->Pa->Nat->Nat
 | 0,_,a=>a
 | g+1,p,a=>match follow c p with
  | none=>if p.put then a else p.at'
  | some p'=>onF c g p' (if p.put then a else p.at')
def onward (c:List In) (a:Nat):Nat:=onF c 100 ⟨a,false,0⟩ a
theorem Okc.next {o:O}(hO:Okc o) {i:Nat}{x:In}(hx:o.code[i]?=some x) (h:¬Ends x):i+1<o.code.length:=by
 obtain⟨z,h1,h2⟩:=hO.last
 obtain⟨hi,h3⟩:=List.getElem?_eq_some_iff.1 hx
 by_cases q:i+1=o.code.length
 ·rw[List.getLast?_eq_getElem?,show o.code.length - 1=i by omega,hx]at h1
  cases h1
  exact absurd h2 h
 ·omega
def Wy (o:O) (a:Nat) (p:Pa):Prop:=p.at'<o.code.length/\∀ most,∃ k,Way o most a p.at' (if p.put then [p.n] else []) k/\(p.at'≠a->1<=k)
theorem follow_ok {o:O}(hO:Okc o) {a:Nat}{p p':Pa}(h:Wy o a p) (q:follow o.code p=some p'):Wy o a p':=by
 unfold follow at q
 cases hx:o.code[p.at']? with
 | none=>rw[hx]at q;cases q
 | some x =>
  rw[hx]at q
  have q:folO p x=some p':=q
  have hm:=List.mem_of_getElem? hx
  have hlab:=hO.lab x hm
  have hnext:=hO.next hx
  obtain⟨at',put,n⟩:=p
  obtain⟨op,A,b⟩:=x
  unfold folO at q
  simp only at q
  by_cases c1:op=12
  ·rw[if_pos c1]at q
   cases q
   subst c1
   refine⟨(hlab (Or.inl rfl)).2,fun most=>?_⟩
   obtain⟨k,hk,-⟩:=h.2 most
   exact⟨k+1,way_jump hk hx,fun _=>by omega⟩
  rw[if_neg c1]at q
  by_cases c2:op=1/\put=false
  ·rw[if_pos c2]at q
   cases q
   obtain⟨rfl,rfl⟩:=c2
   refine⟨hnext fun w=>by rcases w with w|w|w <;> exact absurd (show (1:Int)=_ from w) (by decide),fun most=>?_⟩
   obtain⟨k,hk,-⟩:=h.2 most
   exact⟨k+1,way_push hk hx,fun _=>by omega⟩
  rw[if_neg c2]at q
  by_cases c3:put=false
  ·rw[if_pos c3]at q;cases q
  rw[if_neg c3]at q
  obtain rfl:put=true:=by
   cases put with
   | true=>rfl
   | false=>exact absurd rfl c3
  by_cases c4:op=13/\n=0
  ·rw[if_pos c4]at q
   cases q
   obtain⟨rfl,rfl⟩:=c4
   refine⟨(hlab (Or.inr rfl)).2,fun most=>?_⟩
   obtain⟨k,hk,-⟩:=h.2 most
   have w:=way_else hk hx
   rw[if_pos rfl]at w
   exact⟨k+1,w,fun _=>by omega⟩
  rw[if_neg c4]at q
  by_cases c5:op=13\/op=2
  ·rw[if_pos c5]at q
   cases q
   have he:¬Ends ⟨op,A,b⟩:=fun w=>by
    rcases w with w|w|w
    ·exact c1 w
    ·have w:op=15:=w
     omega
    ·have w:op=17:=w
     omega
   refine⟨hnext he,fun most=>?_⟩
   obtain⟨k,hk,-⟩:=h.2 most
   rcases c5 with rfl|rfl
   ·have w:=way_else hk hx
    rw[if_neg fun e=>c4 ⟨rfl,e⟩]at w
    exact⟨k+1,w,fun _=>by omega⟩
   ·exact⟨k+1,way_pop hk hx,fun _=>by omega⟩
  rw[if_neg c5]at q
  by_cases c6:op=10\/op=11
  ·rw[if_pos c6]at q
   cases q
   have he:¬Ends ⟨op,A,b⟩:=fun w=>by
    rcases w with w|w|w
    ·exact c1 w
    ·have w:op=15:=w
     omega
    ·have w:op=17:=w
     omega
   refine⟨hnext he,fun most=>?_⟩
   obtain⟨k,hk,-⟩:=h.2 most
   exact⟨k+1,way_single hk c6 hx,fun _=>by omega⟩
  rw[if_neg c6]at q
  cases q
theorem onw_step {o:O}{a at':Nat}{p:Pa}(h:Wy o a p) (ho:Onw o a at'):Onw o a (if p.put then at' else p.at'):=by
 obtain⟨at2,put,n⟩:=p
 cases put with
 | true=>exact ho
 | false=>exact h
theorem onF_ok {o:O}(hO:Okc o) {a:Nat}:∀(g:Nat) (p:Pa) (at':Nat),Wy o a p->Onw o a at'->Onw o a (onF o.code g p at')
 | 0,_,_,_,ho=>ho
 | g+1,p,at',h,ho=>by
  rw[onF]
  cases q:follow o.code p with
  | none=>exact onw_step h ho
  | some p'=>exact onF_ok hO g p' _ (follow_ok hO h q) (onw_step h ho)
theorem onw_self {o:O}{a:Nat}(h:a<o.code.length):Onw o a a:=⟨h,fun most=>⟨0,Way.refl o most a,fun q=>absurd rfl q⟩⟩
theorem onward_ok {o:O}(hO:Okc o) {a:Nat}(h:a<o.code.length):Onw o a (onward o.code a):=onF_ok hO 100 ⟨a,false,0⟩ a (onw_self h) (onw_self h)
def entO (o:O) (f:Nat->Nat):O:={ o with procs:=o.procs.map fun e=>{ e with at':=(f e.at'.toNat:Int) } }
theorem ent_ref {o:O}(hO:Okc o) {f:Nat->Nat}(hf:∀ e∈o.procs,Onw o e.at'.toNat (f e.at'.toNat)):Ref o (entO o f):=by
 have hE:EnR o (entO o f) (fun a b=>a=b\/Onw o a b):=⟨rfl,rfl,rfl,by show (o.procs.map _).length=_;rw[List.length_map],fun i e e' h1 h2=>by
  have h2:(o.procs.map fun e=>({ e with at':=(f e.at'.toNat:Int) }:Ob.En))[i]?=some e':=h2
  rw[List.getElem?_map,h1]at h2
  cases h2
  refine⟨rfl,rfl,Or.inr ?_⟩
  show Onw o e.at'.toNat (((f e.at'.toNat:Nat):Int)).toNat
  rw[Int.toNat_natCast]
  exact hf e (List.mem_of_getElem? h1)⟩
 refine vg hE (Or.inl rfl) fun most s t hR hw=>?_
 rcases hR.top (most:=most) hw with q|⟨fr,g,fs,gs,x,hfr,hg,hx,k1,k2,k3⟩
 ·exact Or.inl q
 have hself:∀(y:In) (b:Nat),One (fun a b=>a=b\/Onw o a b) y y b b:=fun y b=>One.self (fun _=>Or.inl rfl) (fun _ _ _=>Or.inl rfl)
 have he:fr.at'=g.at'\/(fr.at'≠g.at'/\Onw o fr.at' g.at'):=by
  by_cases q:fr.at'=g.at'
  ·exact Or.inl q
  ·rcases k1.p with w|w
   ·exact absurd w q
   ·exact Or.inr ⟨q,w⟩
 rcases he with hp|⟨hne,hon⟩
 ·exact k7 hO.al hE hR hw hfr hg hx (by rw[<-hp];exact hx) (by rw[<-hp];exact hself x _)
 ·obtain⟨k,hk,hk1⟩:=hon.2 most
  rcases hk.at k3 with q|⟨q1,q2⟩
  ·exact Or.inl ⟨k,q⟩
  ·have hk0:=hk1 fun q=>hne q.symm
   refine Or.inr ⟨k+1,1,by omega,by omega,q2 _ (by omega),?_⟩
   have w1:(setAt s g.at').way=0:=by rw[<-q1];exact q2 k (Nat.le_refl _)
   have hy:o.code[g.at']?=some (o.code[g.at']'hon.1):=List.getElem?_eq_getElem hon.1
   rw[yz,q1,zK most w1,zK most (hR.b.way.trans hw)]
   exact step_two (f:={ fr with at':=g.at' }) hO.al hE (rb_at hR.b g.at') (by rw[zQ hfr]) hg (k1.at (a:=g.at') (b:=g.at') trivial) k2 hy hy (hself _ _)
theorem setC_eq {o:O}{i:Nat}{x:In}(h:o.code[i]?=some x):setC o i x=o:=by
 unfold setC
 obtain⟨hi,rfl⟩:=List.getElem?_eq_some_iff.1 h
 rw[List.set_getElem_self]
theorem setC_len (o:O) (i:Nat) (y:In):(setC o i y).code.length=o.code.length:=by show (o.code.set i y).length=_;rw[List.length_set]
theorem Okc.set {o:O}(hO:Okc o) {i:Nat}{y:In}(hy:OkI o.vars.length y) (hl:Go8 y->0<=y.a/\y.a.toNat<o.code.length) (he:i+1=o.code.length->Ends y):Okc (setC o i y):=by
 have hmem:∀ {p:In->Prop},(∀ x∈o.code,p x)->p y->∀ x∈(setC o i y).code,p x:=fun h1 h2 x hx=>by
  have hx:x∈o.code.set i y:=hx
  rcases List.mem_or_eq_of_mem_set hx with q|q
  ·exact h1 x q
  ·rw[q];exact h2
 refine⟨⟨hO.al.uses,hO.al.args,hmem hO.al.i64 hy.i⟩,by rw[setC_len];exact hO.n4,hmem hO.ok hy,?_,?_,?_⟩
 ·rw[setC_len];exact hmem hO.lab hl
 ·rw[setC_len];exact hO.ent
 ·obtain⟨z,h1,h2⟩:=hO.last
  have hz:o.code[o.code.length - 1]?=some z:=by rw[<-List.getLast?_eq_getElem?];exact h1
  have hlt:=(List.getElem?_eq_some_iff.1 hz).1
  have hg:(setC o i y).code.getLast?=(setC o i y).code[o.code.length - 1]?:=by rw[List.getLast?_eq_getElem?,setC_len]
  by_cases q:i+1=o.code.length
  ·refine⟨y,?_,he q⟩
   rw[hg,show o.code.length - 1=i by omega]
   exact kr o y (by omega)
  ·refine⟨z,?_,h2⟩
   rw[hg,vQ o i y (by omega)]
   exact hz
def in0:In:=⟨0,0,0⟩
def strF (c:List In) (i:Nat) (x:In):In :=
 if x.op=13 then (if onward c x.a.toNat=i+1 then ⟨2,0,0⟩ else ⟨13,(onward c x.a.toNat:Int),x.b⟩)
 else if x.op=1\/x.op=12 then
  (if onward c i=i then x else if (c.getD (onward c i) in0).op=15\/(c.getD (onward c i) in0).op=17 then c.getD (onward c i) in0 else ⟨12,(onward c i:Int),0⟩)
 else x
theorem str_ref {o:O}(hO:Okc o) {i:Nat}{x:In}(hx:o.code[i]?=some x):Ref o (setC o i (strF o.code i x))/\Okc (setC o i (strF o.code i x)):=by
 have hi:=(List.getElem?_eq_some_iff.1 hx).1
 have hm:=List.mem_of_getElem? hx
 have hn4:=hO.n4
 have hsame:Ref o (setC o i x)/\Okc (setC o i x):=by rw[setC_eq hx];exact⟨kS hO.al,hO⟩
 have hend:i+1=o.code.length->Ends x:=fun q=>by
  by_cases hE:Ends x
  ·exact hE
  ·have:=hO.next hx hE;omega
 unfold strF
 by_cases c1:x.op=13
 ·rw[if_pos c1]
  have hl:=hO.lab x hm (Or.inr c1)
  have hon:=onward_ok hO hl.2
  have hno:¬Ends x:=fun w=>by unfold Ends at w;omega
  obtain⟨op,A,b⟩:=x
  have c1:op=13:=c1
  subst c1
  by_cases c2:onward o.code A.toNat=i+1
  ·rw[if_pos c2]
   exact⟨else_ref hO.al hx hon (Or.inr ⟨c2,rfl⟩),hO.set (ym i0 (by decide) (by decide) (by decide) (by decide)) (fun w=>by rcases w with w|w <;> exact absurd (show (2:Int)=_ from w) (by decide)) fun q=>absurd (hend q) hno⟩
  ·rw[if_neg c2]
   have hlt:onward o.code A.toNat<o.code.length:=hon.1
   have hlt2:onward o.code (⟨13,A,b⟩:In).a.toNat<o.code.length:=hon.1
   exact⟨else_ref hO.al hx hon (Or.inl rfl),hO.set (ym (by unfold Tp.I64;omega) (by decide) (by decide) (by decide) (by decide)) (fun _=>⟨by show (0:Int)<=((onward o.code A.toNat:Nat):Int);omega,by show (((onward o.code A.toNat:Nat):Int)).toNat<_;omega⟩) fun q=>absurd (hend q) hno⟩
 rw[if_neg c1]
 by_cases c2:x.op=1\/x.op=12
 ·rw[if_pos c2]
  have hon:=onward_ok hO hi
  by_cases c3:onward o.code i=i
  ·rw[if_pos c3];exact hsame
  rw[if_neg c3]
  have hlt:=hon.1
  have hto:o.code[onward o.code i]?=some (o.code.getD (onward o.code i) in0):=by
   rw[List.getD_eq_getElem?_getD,List.getElem?_eq_getElem hlt]
   rfl
  by_cases c4:(o.code.getD (onward o.code i) in0).op=15\/(o.code.getD (onward o.code i) in0).op=17
  ·rw[if_pos c4]
   refine⟨end_ref hO.al hon hto c3 c4,hO.set (hO.ok _ (List.mem_of_getElem? hto)) (fun w=>?_) fun _=>Or.inr c4⟩
   unfold Go8 at w
   omega
  ·rw[if_neg c4]
   exact⟨jump_ref hO.al hon c3,hO.set (ym (by unfold Tp.I64;omega) (by decide) (by decide) (by decide) (by decide)) (fun _=>⟨by show (0:Int)<=((onward o.code i:Nat):Int);omega,by show (((onward o.code i:Nat):Int)).toNat<_;omega⟩) fun _=>Or.inl rfl⟩
 rw[if_neg c2]
 exact hsame
def aimN:Nat->O->O
 | 0,o=>o
 | k+1,o=>setC (aimN k o) k (strF (aimN k o).code k ((aimN k o).code.getD k in0))
theorem aimN_ok {o:O}(hO:Okc o):∀ k,k<=o.code.length->Ref o (aimN k o)/\Okc (aimN k o)/\(aimN k o).code.length=o.code.length/\(aimN k o).name=o.name/\(aimN k o).vars=o.vars/\(aimN k o).procs=o.procs
 | 0,_=>⟨kS hO.al,hO,rfl,rfl,rfl,rfl⟩
 | k+1,h=>by
  obtain⟨h1,h2,h3,h4,h5,h6⟩:=aimN_ok hO k (by omega)
  have hk:(aimN k o).code[k]?=some ((aimN k o).code.getD k in0):=by
   rw[List.getD_eq_getElem?_getD,List.getElem?_eq_getElem (by omega)]
   rfl
  obtain⟨g1,g2⟩:=str_ref h2 hk
  exact⟨h1.trans g1 h4 (by rw[h5]) (by rw[h6]),g2,(setC_len _ _ _).trans h3,h4,h5,h6⟩
def aimO (o:O):O:=entO (aimN o.code.length o) (onward (aimN o.code.length o).code)
theorem aim_ok {o:O}(hO:Okc o):Ref o (aimO o)/\Okc (aimO o)/\(aimO o).code.length=o.code.length:=by
 obtain⟨h1,h2,h3,h4,h5,h6⟩:=aimN_ok hO o.code.length (Nat.le_refl _)
 unfold aimO
 have hf:∀ e∈(aimN o.code.length o).procs,Onw (aimN o.code.length o) e.at'.toNat (onward (aimN o.code.length o).code e.at'.toNat):=fun e he=>onward_ok h2 (h2.ent e he).2
 refine⟨h1.trans (ent_ref h2 hf) h4 (by rw[h5]) (by rw[h6]),⟨⟨h2.al.uses,fun e he=>?_,h2.al.i64⟩,h2.n4,h2.ok,h2.lab,fun e he=>?_,h2.last⟩,h3⟩
 ·obtain⟨e',he',rfl⟩:=List.mem_map.1 he
  exact h2.al.args e' he'
 ·obtain⟨e',he',rfl⟩:=List.mem_map.1 he
  have:=(hf e' he').1
  show (0:Int)<=((onward (aimN o.code.length o).code e'.at'.toNat:Nat):Int)/\(((onward (aimN o.code.length o).code e'.at'.toNat:Nat):Int)).toNat<(aimN o.code.length o).code.length
  omega
end Vm

namespace Vm
open Ob (O In)
open Tp (Bs both w64 mPlus mMinus mStar wDiv wMod mEq mNe mLt mLe mGt mGe)
structure Qi (o:O) (z:In):Prop where
 g:Go8 z->z.b=0
 n:¬Go8 z->Ob.instB o z=true
theorem qi_go (o:O) {op:Int}(a:Int) (h:op=12\/op=13):Qi o ⟨op,a,0⟩:=⟨fun _=>rfl,fun q=>absurd h q⟩
theorem qi_push (o:O) (n:Int):Qi o ⟨1,n,0⟩:=⟨fun q=>by rcases q with q|q <;> exact absurd (show (1:Int)=_ from q) (by decide),fun _=>rfl⟩
theorem vp (o:O) {op:Int}(h:op=2\/op=10\/op=11):Qi o ⟨op,0,0⟩:=by
 rcases h with rfl|rfl|rfl
 ·exact⟨fun _=>rfl,fun _=>rfl⟩
 ·exact⟨fun _=>rfl,fun _=>rfl⟩
 ·exact⟨fun _=>rfl,fun _=>rfl⟩
theorem vq (o:O) {k:Int}(h:0<=k/\k<11):Qi o ⟨9,k,0⟩:=⟨fun _=>rfl,fun _=>by
 have e:Ob.instB o ⟨9,k,0⟩=(decide ((0:Int)=0) && (decide (0<=k) && decide (k<11))):=rfl
 rw[e]
 simp
 omega⟩
theorem zZ {P:List In->Prop}{c:Prop} [Decidable c] {a b:Option (List In)}{W':List In}(ha:c->a=some W'->P W') (hb:¬c->b=some W'->P W'):(if c then a else b)=some W'->P W':=by
 split
 ·rename_i q;exact ha q
 ·rename_i q;exact hb q
theorem yc {P:List In->Prop}{l W':List In}(h:P l):some l=some W'->P W':=fun q=>by cases q;exact h
theorem kK {P:List In->Prop}{W':List In}:none=some W'->P W':=fun q=>by cases q
def AllQ (o:O) (l:List In):Prop:=∀ z∈l,Qi o z
theorem vW {s:Bs}{k:Int}(h:notOf s=some k):0<=k/\k<11:=by
 unfold notOf at h
 split at h
 ·cases h;omega
 split at h
 ·cases h;omega
 split at h
 ·cases h;omega
 split at h
 ·cases h;omega
 split at h
 ·cases h;omega
 split at h
 ·cases h;omega
 ·cases h
theorem two_qi {o:O}{x y:In}(hy:Qi o y) {W':List In}:two x y=some W'->AllQ o W':=by
 have h2:Qi o ⟨2,0,0⟩:=vp o (Or.inl rfl)
 have h10:Qi o ⟨10,0,0⟩:=vp o (Or.inr (Or.inl rfl))
 have h11:Qi o ⟨11,0,0⟩:=vp o (Or.inr (Or.inr rfl))
 have hnil:AllQ o []:=ki
 unfold two
 refine zZ (fun _=>?_) fun _=>zZ (fun _=>?_) fun _=>zZ (fun _=>?_) fun _=>zZ (fun _=>?_) fun _=>zZ (fun _=>yc hnil) fun _=>zZ (fun _=>yc hnil) fun _=>kK
 ·unfold behindPush
  refine zZ (fun _=>yc (zN (qi_go o _ (Or.inl rfl)))) fun _=>zZ (fun _=>yc hnil) fun _=>zZ (fun _=>yc (zN (qi_push o _))) fun _=>zZ (fun _=>?_) fun _=>kK
  unfold doKnown
  exact zZ (fun _=>yc hnil) fun _=>zZ (fun _=>yc (zN h10)) fun _=>zZ (fun _=>yc (zN h11)) fun _=>zZ (fun _=>yc (j7 h11)) fun _=>kK
 ·unfold behindNeg
  exact zZ (fun _=>yc hnil) fun _=>zZ (fun _=>yc (zN hy)) fun _=>zZ (fun _=>yc (zN (vq o (by omega)))) fun _=>zZ (fun _=>yc (zN (vq o (by omega)))) fun _=>kK
 ·unfold aheadOfPop
  exact zZ (fun _=>yc hnil) fun _=>zZ (fun _=>yc (zN h2)) fun _=>zZ (fun _=>yc (j7 h2)) fun _=>kK
 ·intro q
  cases h:notOf (sgn x) with
  | none=>rw[h]at q;cases q
  | some k=>rw[h]at q;cases q;exact zN (vq o (vW h))
theorem three_qi {o:O}{nx:Nat}{x y z:In}(hx:Qi o x) (hz:Qi o z) {W':List In}:three nx x y z=some W'->AllQ o W':=by
 unfold three
 refine zZ (fun _ q=>?_) fun _=>zZ (fun _=>yc (zN hz)) fun _=>zZ (fun _=>yc (zN hz)) fun _=>zZ (fun _=>zZ (fun _=>yc fun w hw=>?_) fun _=>kK) fun _=>kK
 ·cases h:both (sgn z) x.a y.a with
  | none=>rw[h]at q;cases q
  | some n=>rw[h]at q;cases q;exact zN (qi_push o n)
 ·simp only [List.mem_cons,List.not_mem_nil,or_false]at hw
  rcases hw with rfl|rfl|rfl
  ·exact hx
  ·exact vp o (Or.inr (Or.inr rfl))
  ·exact qi_go o _ (Or.inr rfl)
theorem allQ_app {o:O}{l r:List In}(h1:AllQ o l) (h2:AllQ o r):AllQ o (l++r):=fun z hz=>by
 rcases List.mem_append.1 hz with q|q
 ·exact h1 z q
 ·exact h2 z q
theorem ue {o:O}{f:List In->In->List In}(hf:∀ l x,AllQ o l->Qi o x->AllQ o (f l x)):∀(W l:List In),AllQ o W->AllQ o l->AllQ o (W.foldl f l)
 | [],_,_,hl=>hl
 | x :: W,l,hW,hl=>ue hf W _ (fun z hz=>hW z (List.mem_cons_of_mem _ hz)) (hf l x hl (hW x List.mem_cons_self))
theorem jN {o:O}{e nx:Nat}:∀(g:Nat) (l:List In) (x:In),AllQ o l->Qi o x->AllQ o (addF g e nx l x)
 | 0,l,x,hl,hx=>allQ_app hl (zN hx)
 | g+1,l,x,hl,hx=>by
  rw[addF]
  cases h2:pick2 l e x with
  | some W' =>
   obtain⟨pre,y,rfl,he',h2',ht⟩:=jY h2
   simp only
   rw[ht]
   exact ue (fun l x=>jN g l x) W' pre (two_qi hx h2') fun z hz=>hl z (List.mem_append_left _ hz)
  | none =>
   simp only
   cases h3:pick3 l e nx x with
   | some W' =>
    obtain⟨pre,y,z,rfl,he',h3',ht⟩:=pick3_some h3
    simp only
    rw[ht]
    exact ue (fun l x=>jN g l x) W' pre (three_qi (hl y (by simp)) hx h3') fun z hz=>hl z (List.mem_append_left _ hz)
   | none=>exact allQ_app hl (zN hx)
theorem sqF_qi {o:O}{aim:Nat->Bool}:∀(r:List In) (i:Nat) (l:List In) (pl:Nat->Nat) (e:Nat),AllQ o r->AllQ o l->AllQ o (sqF aim i r l pl e).1
 | [],_,_,_,_,_,hl=>by rw[sqF];exact hl
 | x :: r,i,l,pl,e,hr,hl=>by
  have hr1:AllQ o r:=fun z hz=>hr z (List.mem_cons_of_mem _ hz)
  by_cases hx:x=idl i
  ·subst hx
   rw[jx]
   exact sqF_qi r (i+1) l _ _ hr1 hl
  ·rw[xw hx]
   exact sqF_qi r (i+1) _ _ _ hr1 (jN _ l x hl (hr x List.mem_cons_self))
theorem dce_qi {o:O}{R:Nat->Bool}{c:List In}(h:AllQ o c):AllQ o (dceC R c):=fun z hz=>by
 obtain⟨j,hj⟩:=List.mem_iff_getElem?.1 hz
 have hjl:=(List.getElem?_eq_some_iff.1 hj).1
 rw[jL]at hjl
 by_cases hR:R j=true
 ·rw[ju hR]at hj
  exact h z (List.mem_of_getElem? hj)
 ·rw[xn hjl hR]at hj
  cases hj
  exact qi_go o _ (Or.inl rfl)
end Vm

namespace Vm
open Ob (O In)
open Tp (Bs)
def nu (o:O):O:={ o with uses:=[] }
theorem nu_self {o:O}(h:o.uses=[]):nu o=o:=by
 obtain⟨a,b,c,d,e,f,g⟩:=o
 have h:c=[]:=h
 subst h
 rfl
structure Rg (o:O):Prop where
 r:Ob.rightB o=true
 i:∀ x∈o.code,Tp.I64 x.a
def Inst (o:O):Prop:=∀ x∈o.code,Ob.instB o x=true
theorem inst_b {o:O}{x:In}(h:Ob.instB o x=true) (h1:x.op≠5) (h2:x.op≠7) (h3:x.op≠14):x.b=0/\(x.op≠1->0<=x.a/\x.a<(Ob.choices o x.op:Int)):=by
 unfold Ob.instB at h
 rw[if_neg (by omega),if_neg h3]at h
 by_cases c:x.op=1
 ·rw[if_pos c]at h
  exact⟨of_decide_eq_true h,fun q=>absurd c q⟩
 ·rw[if_neg c]at h
  unfold Ob.countsB at h
  simp only [Bool.and_eq_true,decide_eq_true_eq]at h
  exact⟨h.1,fun _=>h.2⟩
theorem xJ {o:O}(h:Inst o):AllQ o o.code:=fun z hz=>⟨fun q=>by
 have hg:z.op=12\/z.op=13:=q
 exact(inst_b (h z hz) (by omega) (by omega) (by omega)).1,fun _=>h z hz⟩
theorem rg_okc {o:O}(h:Rg o):Okc (nu o)/\Inst o:=by
 have hr:=h.r
 unfold Ob.rightB Ob.procsB Ob.codeB at hr
 simp only [Bool.and_eq_true]at hr
 obtain⟨hh,⟨hp,hpn⟩,hc,hl⟩:=hr
 obtain⟨hp1,hp2⟩:=Ob.allB_le hp
 obtain⟨hc1,hc2⟩:=Ob.allB_le hc
 have hent:∀ e∈o.procs,(0<=e.at'/\e.at'<(o.code.length:Int))/\0<=e.args/\e.args<=e.locals/\e.locals<=10:=fun e he=>by
  have:=hp2 e he
  unfold Ob.entB Ob.countsB at this
  simp only [Bool.and_eq_true,decide_eq_true_eq]at this
  exact this
 have hlast:∃ z,o.code.getLast?=some z/\Ends z:=by
  unfold Ob.lastB at hl
  cases hz:o.code.getLast? with
  | none=>rw[hz]at hl;cases hl
  | some z =>
   rw[hz]at hl
   simp only [Bool.or_eq_true,decide_eq_true_eq]at hl
   exact⟨z,rfl,hl⟩
 refine⟨⟨⟨rfl,fun e he=>?_,h.i⟩,hc1,fun x hx=>⟨h.i x hx,fun q=>?_,fun q=>?_⟩,fun x hx hg=>?_,fun e he=>?_,hlast⟩,hc2⟩
 ·have:=hent e he
  omega
 ·have hi:=hc2 x hx
  rcases q with⟨q,hb⟩|q
  ·unfold Ob.instB at hi
   rw[if_pos (Or.inl q)]at hi
   unfold Ob.reachB at hi
   by_cases c:x.b=-1
   ·rw[if_pos c]at hi
    unfold Ob.countsB at hi
    simp only [Bool.and_eq_true,decide_eq_true_eq]at hi
    show x.a.toNat<o.vars.length
    omega
   ·rw[if_neg c]at hi
    unfold Ob.countsB at hi
    simp only [Bool.and_eq_true,decide_eq_true_eq]at hi
    omega
  ·have:=(inst_b hi (by omega) (by omega) (by omega)).2 (by omega)
   rw[show Ob.choices o x.op=o.vars.length by unfold Ob.choices;rw[if_neg (by omega),if_pos (Or.inl q)]]at this
   show x.a.toNat<o.vars.length
   omega
 ·have hi:=hc2 x hx
  have:=(inst_b hi (by omega) (by omega) (by omega)).2 (by omega)
  rw[show Ob.choices o x.op=10 by unfold Ob.choices;rw[if_pos q]]at this
  omega
 ·have hg:x.op=12\/x.op=13:=hg
  have:=(inst_b (hc2 x hx) (by omega) (by omega) (by omega)).2 (by omega)
  rw[show Ob.choices o x.op=o.code.length by unfold Ob.choices;rw[if_neg (by omega),if_neg (by omega),if_neg (by omega),if_pos hg]]at this
  show 0<=x.a/\x.a.toNat<o.code.length
  omega
 ·have:=hent e he
  show 0<=e.at'/\e.at'.toNat<o.code.length
  omega
theorem rg_of {o p:O}(h:Rg o) (q:Eqh o p) (hk:Okc (nu p)) (hi:Inst p):Rg p:=by
 refine⟨?_,hk.al.i64⟩
 have hr:=h.r
 unfold Ob.rightB Ob.procsB Ob.codeB at hr ⊢
 simp only [Bool.and_eq_true]at hr ⊢
 obtain⟨hh,⟨hp,hpn,hns⟩,hc,hl⟩:=hr
 obtain⟨hp1,hp2⟩:=Ob.allB_le hp
 have mk:∀ {α:Type} {f:α->Bool} {most:Nat} {l:List α},l.length<=most->(∀ x∈l,f x=true)->Ob.allB f most l=true:=fun h1 h2=>by
  unfold Ob.allB
  simp only [Bool.and_eq_true,decide_eq_true_eq,Bool.not_eq_true',List.any_eq_false]
  exact⟨h1,fun x hx=>by have:=h2 x hx;simp[this]⟩
 refine⟨?_,⟨mk (by rw[q.pl];exact hp1) fun e' he'=>?_,?_,?_⟩,mk hk.n4 hi,?_⟩
 ·unfold Ob.headB at hh ⊢
  rw[q.nm,q.sy,q.us,q.vr]
  exact hh
 ·obtain⟨j,hj⟩:=List.mem_iff_getElem?.1 he'
  have hjl:=(List.getElem?_eq_some_iff.1 hj).1
  rw[q.pl]at hjl
  have h1:o.procs[j]?=some o.procs[j]:=List.getElem?_eq_getElem hjl
  obtain⟨a1,a2⟩:=q.pe j _ e' h1 hj
  have:=hp2 _ (List.mem_of_getElem? h1)
  have hen:0<=e'.at'/\e'.at'.toNat<p.code.length:=hk.ent e' he'
  unfold Ob.entB Ob.countsB at this ⊢
  simp only [Bool.and_eq_true,decide_eq_true_eq]at this ⊢
  rw[a1,a2]
  omega
 ·rw[q.ns,q.pl];exact hpn
 ·rw[q.ns];exact hns
 ·obtain⟨z,h1,h2⟩:=hk.last
  have h1:p.code.getLast?=some z:=h1
  unfold Ob.lastB
  rw[h1]
  simp only [Bool.or_eq_true,decide_eq_true_eq]
  exact h2
theorem qi_eqh {o p:O}(q:Eqh o p) {z:In}(h:Qi o z):Qi p z:=⟨h.g,fun hn=>by
 rw[<-h.n hn]
 have hg:¬(z.op=12\/z.op=13):=hn
 unfold Ob.instB Ob.reachB Ob.choices
 rw[q.vr,q.pl,q.us,if_neg hg,if_neg hg]⟩
theorem inst_of_qi {p:O}{z:In}(h:Qi p z) (hl:Go8 z->0<=z.a/\z.a.toNat<p.code.length):Ob.instB p z=true:=by
 by_cases hg:z.op=12\/z.op=13
 ·have h1:=hl hg
  have h2:=h.g hg
  unfold Ob.instB
  rw[if_neg (by omega),if_neg (by omega),if_neg (by omega)]
  rw[show Ob.choices p z.op=p.code.length by unfold Ob.choices;rw[if_neg (by omega),if_neg (by omega),if_neg (by omega),if_pos hg]]
  unfold Ob.countsB
  simp only [Bool.and_eq_true,decide_eq_true_eq]
  omega
 ·exact h.n hg
theorem vR {o p:O}(h:Rg o) (q:Eqh o p) (hk:Okc (nu p)) (hq:AllQ o p.code):Rg p:=rg_of h q hk fun z hz=>inst_of_qi (qi_eqh q (hq z hz)) fun hg=>hk.lab z hz hg
theorem xM (o:O) (c:List In):Eqh o { o with code:=c }:=⟨rfl,rfl,rfl,rfl,rfl,rfl,fun i e e' h k=>by rw[h]at k;cases k;exact⟨rfl,rfl⟩⟩
theorem eqh_ent (o:O) (f:Nat->Nat):Eqh o (entO o f):=⟨rfl,rfl,rfl,rfl,rfl,by show (o.procs.map _).length=_;rw[List.length_map],fun i e e' h k=>by
 have k:(o.procs.map fun e=>({ e with at':=(f e.at'.toNat:Int) }:Ob.En))[i]?=some e':=k
 rw[List.getElem?_map,h]at k
 cases k
 exact⟨rfl,rfl⟩⟩
theorem eqh_H (o:O) (c:List In) (lb:Nat->Nat):Eqh o (H o c lb):=⟨rfl,rfl,rfl,rfl,rfl,by show (o.procs.map _).length=_;rw[List.length_map],fun i e e' h k=>by
 have k:(o.procs.map fun e=>({ e with at':=(lb e.at'.toNat:Int) }:Ob.En))[i]?=some e':=k
 rw[List.getElem?_map,h]at k
 cases k
 exact⟨rfl,rfl⟩⟩
structure Stp (o p:O):Prop where
 ref:Ref (nu o) (nu p)
 rg:Rg p
 eq:Eqh o p
 le:p.code.length<=o.code.length
theorem Stp.trans {o p q:O}(h:Stp o p) (k:Stp p q):Stp o q:=⟨h.ref.trans k.ref h.eq.nm (congrArg List.length h.eq.vr) h.eq.pl,k.rg,h.eq.trans k.eq,Nat.le_trans k.le h.le⟩
theorem Stp.refl {o:O}(h:Rg o):Stp o o:=⟨kS (rg_okc h).1.al,h,Eqh.refl o,Nat.le_refl _⟩
theorem Mkd.nu {o:O}{R aim:Nat->Bool}(h:Mkd o R aim):Mkd (nu o) R aim:=⟨h.z,h.lt,h.ar,h.e,h.g,h.f⟩
theorem sq_stp {o:O}(h:Rg o) {R aim:Nat->Bool}(hM:Mkd o R aim):Stp o (sqO o R aim):=by
 obtain⟨hO,hI⟩:=rg_okc h
 obtain⟨h1,h2,h3⟩:=sq_all hO hM.nu
 have hq:AllQ o (sqO o R aim).code:=fun z hz=>by
  obtain⟨y,hy,rfl⟩:=List.mem_map.1 hz
  have k:Qi o y:=sqF_qi (o:=o) (aim:=aim) _ 0 [] (fun _=>0) 0 (dce_qi (R:=R) (xJ hI)) ki y hy
  by_cases c:y.op=12\/y.op=13
  ·exact⟨fun _=>by rw[rl_b];exact k.g c,fun q=>absurd (by unfold Go8;rw[rl_op];exact c) q⟩
  ·rw[rl_a _ y (fun w=>c (Or.inl w)) (fun w=>c (Or.inr w))]
   exact k
 exact⟨h1,vR h (eqh_H o _ _) h2 hq,eqh_H o _ _,h3⟩
theorem str_qi {o:O}{c:List In}(h:AllQ o c) {i:Nat}{x:In}(hx:Qi o x):Qi o (strF c i x):=by
 unfold strF
 by_cases c1:x.op=13
 ·rw[if_pos c1]
  split
  ·exact vp o (Or.inl rfl)
  ·rw[hx.g (Or.inr c1)]
   exact qi_go o _ (Or.inr rfl)
 rw[if_neg c1]
 split
 ·split
  ·exact hx
  ·split
   ·rename_i q
    rw[List.getD_eq_getElem?_getD]at q ⊢
    cases hz:c[onward c i]? with
    | none=>rw[hz]at q;rcases q with q|q <;> exact absurd q (by decide)
    | some z=>exact h z (List.mem_of_getElem? hz)
   ·exact qi_go o _ (Or.inl rfl)
 ·exact hx
theorem allQ_set {o:O}{c:List In}(h:AllQ o c) {i:Nat}{y:In}(hy:Qi o y):AllQ o (c.set i y):=fun z hz=>by
 rcases List.mem_or_eq_of_mem_set hz with q|q
 ·exact h z q
 ·rw[q];exact hy
theorem aimN_qi {o:O}(h:AllQ o o.code):∀ k,k<=o.code.length->AllQ o (aimN k o).code/\(aimN k o).code.length=o.code.length/\Eqh o (aimN k o)
 | 0,_=>⟨h,rfl,Eqh.refl o⟩
 | k+1,hk=>by
  obtain⟨h1,h2,h3⟩:=aimN_qi h k (by omega)
  have hx:Qi o ((aimN k o).code.getD k in0):=h1 _ (by
   rw[List.getD_eq_getElem?_getD,List.getElem?_eq_getElem (by omega)]
   exact List.getElem_mem _)
  exact⟨allQ_set h1 (str_qi h1 hx),(setC_len _ _ _).trans h2,h3.trans (xM _ _)⟩
theorem aimN_nu (o:O):∀ k,aimN k (nu o)=nu (aimN k o)
 | 0=>rfl
 | k+1=>by
  rw[aimN,aimN_nu o k]
  rfl
theorem aimO_nu (o:O):aimO (nu o)=nu (aimO o):=by
 unfold aimO
 rw[show (nu o).code=o.code from rfl,aimN_nu]
 rfl
theorem aim_stp {o:O}(h:Rg o):Stp o (aimO o):=by
 obtain⟨hO,hI⟩:=rg_okc h
 obtain⟨h1,h2,h3⟩:=aim_ok hO
 rw[aimO_nu]at h1 h2 h3
 obtain⟨k1,k2,k3⟩:=aimN_qi (xJ hI) o.code.length (Nat.le_refl _)
 have he:Eqh o (aimO o):=k3.trans (eqh_ent _ _)
 exact⟨h1,vR h he h2 k1,he,Nat.le_of_eq h3⟩
def goonB (x:In):Bool:=decide (x.op=1\/x.op=2\/x.op=3\/x.op=4\/x.op=6\/x.op=10\/x.op=11\/(x.op=5/\x.b<0)\/(x.op=9/\x.a≠3/\x.a≠4))
def sameI (x y:In):Prop:=x.op=y.op/\x.a=y.a/\x.b=y.b
theorem sameI_eq {x y:In}(h:sameI x y):x=y:=by
 obtain⟨a,b,c⟩:=x
 obtain⟨d,e,f⟩:=y
 obtain⟨h1,h2,h3⟩:=h
 have h1:a=d:=h1
 have h2:b=e:=h2
 have h3:c=f:=h3
 rw[h1,h2,h3]
theorem goonB_ok {x:In}(h:goonB x=true):Goon x:=by
 unfold goonB at h
 unfold Goon
 exact of_decide_eq_true h
def shC (c:List In) (i:Nat):Bool:=decide ((c.getD (i+1) in0).op=12) && (decide ((c.getD (i+1) in0).a≠0) && (goonB (c.getD i in0) && (decide ((c.getD (i+1) in0).a.toNat - 1≠i) && (decide ((c.getD ((c.getD (i+1) in0).a.toNat - 1) in0).op=(c.getD i in0).op) && (decide ((c.getD ((c.getD (i+1) in0).a.toNat - 1) in0).a=(c.getD i in0).a) && decide ((c.getD ((c.getD (i+1) in0).a.toNat - 1) in0).b=(c.getD i in0).b))))))
def shS (i:Nat) (o:O):O:=if shC o.code i=true then setC o i ⟨12,(((o.code.getD (i+1) in0).a.toNat - 1:Nat):Int),0⟩ else o
def shN:Nat->O->O
 | 0,o=>o
 | k+1,o=>shN k (shS k o)
def shO (o:O):O:=shN (o.code.length - 1) o
theorem goon_inst {o:O}{x:In}(hg:Goon x) (h:Ob.instB o x=true):Ob.instB (nu o) x=true:=by
 by_cases c:x.op=5
 ·have hb:x.b<0:=by unfold Goon at hg;omega
  unfold Ob.instB at h ⊢
  rw[if_pos (Or.inl c)]at h ⊢
  unfold Ob.reachB at h ⊢
  by_cases q:x.b=-1
  ·rw[if_pos q]at h ⊢
   exact h
  ·rw[if_neg q]at h
   unfold Ob.countsB at h
   simp only [Bool.and_eq_true,decide_eq_true_eq]at h
   omega
 ·have h7:x.op≠7/\x.op≠14:=by unfold Goon at hg;omega
  unfold Ob.instB at h ⊢
  rw[if_neg (by omega),if_neg h7.2]at h ⊢
  exact h
theorem get_d {c:List In}{i:Nat}(h:i<c.length):c[i]?=some (c.getD i in0):=by
 rw[List.getD_eq_getElem?_getD,List.getElem?_eq_getElem h]
 rfl
theorem shS_stp {o:O}(h:Rg o) {i:Nat}(hi:i+1<o.code.length):Stp o (shS i o):=by
 obtain⟨hO,hI⟩:=rg_okc h
 unfold shS
 by_cases c:shC o.code i=true
 ·rw[if_pos c]
  unfold shC at c
  simp only [Bool.and_eq_true,decide_eq_true_eq]at c
  obtain⟨c1,c2,c3,c4,c5⟩:=c
  have c5:sameI _ _:=c5
  have hx:=get_d (c:=o.code) (i:=i) (by omega)
  have hj:=get_d (c:=o.code) (i:=i+1) hi
  have hl:0<=(o.code.getD (i+1) in0).a/\(o.code.getD (i+1) in0).a.toNat<o.code.length:=hO.lab _ (List.mem_of_getElem? hj) (Or.inl c1)
  obtain⟨y,hy⟩:∃ y,y=o.code.getD (i+1) in0:=⟨_,rfl⟩
  obtain⟨x,hxx⟩:∃ x,x=o.code.getD i in0:=⟨_,rfl⟩
  rw[<-hy]at c1 c2 c4 c5 hj hl ⊢
  rw[<-hxx]at c3 c5 hx
  obtain⟨tz,hto⟩:∃ tz,tz=y.a.toNat - 1:=⟨_,rfl⟩
  rw[<-hto]at c4 c5 ⊢
  have hlt:tz<o.code.length:=by omega
  have ht:=get_d (c:=o.code) (i:=tz) hlt
  rw[sameI_eq c5]at ht
  obtain⟨op,a,b⟩:=y
  have c1:op=12:=c1
  have hl1:0<=a:=hl.1
  have c2:a≠0:=c2
  have hto:tz=a.toNat - 1:=hto
  subst c1
  have ha:a=((tz+1:Nat):Int):=by omega
  rw[ha]at hj
  have hn4:o.code.length<=4000:=hO.n4
  have hr:=share_ref (o:=nu o) (b':=0) hO.al (goonB_ok c3) (goon_inst (goonB_ok c3) (hI x (List.mem_of_getElem? hx))) hx hj ht c4
  have hk:Okc (nu (setC o i ⟨12,(tz:Int),0⟩)):=hO.set (ym (by unfold Tp.I64;omega) (by decide) (by decide) (by decide) (by decide)) (fun _=>⟨by show (0:Int)<=((tz:Nat):Int);omega,by show ((tz:Nat):Int).toNat<o.code.length;omega⟩) fun _=>Or.inl rfl
  exact⟨hr,vR h (xM _ _) hk (allQ_set (xJ hI) (qi_go o _ (Or.inl rfl))),xM _ _,by rw[setC_len];exact Nat.le_refl _⟩
 ·rw[if_neg c]
  exact Stp.refl h
theorem shS_len (i:Nat) (o:O):(shS i o).code.length=o.code.length:=by
 unfold shS
 split
 ·exact setC_len _ _ _
 ·rfl
theorem shN_stp:∀(k:Nat) {o:O},Rg o->k+1<=o.code.length->Stp o (shN k o)
 | 0,o,h,_=>Stp.refl h
 | k+1,o,h,hk=>by
  have h1:=shS_stp h (i:=k) (by omega)
  exact h1.trans (shN_stp k h1.rg (by rw[shS_len];omega))
theorem sh_stp {o:O}(h:Rg o):Stp o (shO o):=by
 obtain⟨z,h1,_⟩:=(rg_okc h).1.last
 have h1:o.code.getLast?=some z:=h1
 have:o.code.length≠0:=fun q=>by
  rw[List.getLast?_eq_getElem?,List.getElem?_eq_none (by omega)]at h1
  cases h1
 exact shN_stp _ h (by omega)
structure MkI (o:O) (R aim:Nat->Bool) (T:Nat->Prop):Prop where
 z:R 0=true\/T 0
 lt:∀ i,R i=true->i<o.code.length
 tl:∀ i,T i->i<o.code.length
 ar:∀ i,aim i=true->R i=true\/T i
 g:∀ i x,o.code[i]?=some x->R i=true->Go8 x->x≠idl i->aim x.a.toNat=true
 f:∀ i x,o.code[i]?=some x->R i=true->¬Ends x\/x=idl i->R (i+1)=true\/T (i+1)
theorem MkI.start {o:O}(hO:Okc o) {T:Nat->Prop}(hT:∀ i,T i↔i=0):MkI o (fun _=>false) (fun _=>false) T:=by
 obtain⟨z,h1,_⟩:=hO.last
 have hn:0<o.code.length:=by
  by_cases q:o.code.length=0
  ·rw[List.getLast?_eq_getElem?,List.getElem?_eq_none (by omega)]at h1
   cases h1
  ·omega
 exact⟨Or.inr ((hT 0).2 rfl),fun i q=>(by cases q),fun i q=>by rw[(hT i).1 q];exact hn,fun i q=>(by cases q),fun i x _ q=>(by cases q),fun i x _ q=>(by cases q)⟩
theorem MkI.aims {o:O}{R aim aim':Nat->Bool}{T T':Nat->Prop}(h:MkI o R aim T) {a:Nat}(ha:a<o.code.length) (h1:∀ i,aim' i=true↔aim i=true\/i=a) (h2:∀ i,T' i↔T i\/i=a):MkI o R aim' T':=by
 refine⟨h.z.imp id fun q=>(h2 0).2 (Or.inl q),h.lt,fun i q=>?_,fun i q=>?_,fun i x hx hR hg hi=>(h1 _).2 (Or.inl (h.g i x hx hR hg hi)),fun i x hx hR hi=>(h.f i x hx hR hi).imp id fun q=>(h2 _).2 (Or.inl q)⟩
 ·rcases(h2 i).1 q with q|q
  ·exact h.tl i q
  ·rw[q];exact ha
 ·rcases(h1 i).1 q with q|q
  ·exact(h.ar i q).imp id fun q=>(h2 i).2 (Or.inl q)
  ·exact Or.inr ((h2 i).2 (Or.inr q))
theorem MkI.drop {o:O}{R aim:Nat->Bool}{T T':Nat->Prop}(h:MkI o R aim T) {a:Nat}(ha:R a=true) (h1:∀ i,T i->T' i\/i=a) (h2:∀ i,T' i->T i):MkI o R aim T':=by
 have key:∀ i,R i=true\/T i->R i=true\/T' i:=fun i q=>by
  rcases q with q|q
  ·exact Or.inl q
  ·rcases h1 i q with q|q
   ·exact Or.inr q
   ·rw[q];exact Or.inl ha
 exact⟨key 0 h.z,h.lt,fun i q=>h.tl i (h2 i q),fun i q=>key i (h.ar i q),h.g,fun i x hx hR hi=>key _ (h.f i x hx hR hi)⟩
theorem MkI.visit {o:O}(hO:Okc o) {R R' aim aim':Nat->Bool}{T T':Nat->Prop}(h:MkI o R aim T) {a:Nat}{x:In}(hx:o.code[a]?=some x)
  (hR:∀ i,R' i=true↔R i=true\/i=a)
  (ha:∀ i,aim' i=true↔aim i=true\/((Go8 x/\x≠idl a)/\i=x.a.toNat))
  (h1:∀ i,T i->T' i\/i=a)
  (h2:∀ i,T' i->T i\/((Go8 x/\x≠idl a)/\i=x.a.toNat)\/((¬Ends x\/x=idl a)/\i=a+1))
  (h3:Go8 x->x≠idl a->T' x.a.toNat) (h4:¬Ends x\/x=idl a->T' (a+1)):MkI o R' aim' T':=by
 have hal:=(List.getElem?_eq_some_iff.1 hx).1
 have key:∀ i,R i=true\/T i->R' i=true\/T' i:=fun i q=>by
  rcases q with q|q
  ·exact Or.inl ((hR i).2 (Or.inl q))
  ·rcases h1 i q with q|q
   ·exact Or.inr q
   ·exact Or.inl ((hR i).2 (Or.inr q))
 refine⟨key 0 h.z,fun i q=>?_,fun i q=>?_,fun i q=>?_,fun i y hy q hg hi=>?_,fun i y hy q hi=>?_⟩
 ·rcases(hR i).1 q with q|q
  ·exact h.lt i q
  ·rw[q];exact hal
 ·rcases h2 i q with q|⟨⟨q,_⟩,e⟩|⟨q,e⟩
  ·exact h.tl i q
  ·rw[e];exact(hO.lab x (List.mem_of_getElem? hx) q).2
  ·rw[e]
   rcases q with q|q
   ·exact hO.next hx q
   ·have:=(hO.lab x (List.mem_of_getElem? hx) (by rw[q];exact Or.inl rfl)).2
    rw[q]at this
    have:(((a+1:Nat):Int)).toNat<o.code.length:=this
    omega
 ·rcases(ha i).1 q with q|⟨⟨q1,q2⟩,e⟩
  ·exact key i (h.ar i q)
  ·rw[e];exact Or.inr (h3 q1 q2)
 ·rcases(hR i).1 q with q|q
  ·exact(ha _).2 (Or.inl (h.g i y hy q hg hi))
  ·subst q
   rw[hx]at hy
   cases hy
   exact(ha _).2 (Or.inr ⟨⟨hg,hi⟩,rfl⟩)
 ·rcases(hR i).1 q with q|q
  ·exact key _ (h.f i y hy q hi)
  ·subst q
   rw[hx]at hy
   cases hy
   exact Or.inr (h4 hi)
theorem MkI.done {o:O}{R aim:Nat->Bool}{T:Nat->Prop}(h:MkI o R aim T) (hT:∀ i,¬T i) (he:∀ e∈o.procs,aim e.at'.toNat=true):Mkd o R aim:=by
 have key:∀ i,R i=true\/T i->R i=true:=fun i q=>q.resolve_right (hT i)
 exact⟨key 0 h.z,h.lt,fun i q=>key i (h.ar i q),he,h.g,fun i x hx hR hi=>key _ (h.f i x hx hR hi)⟩
theorem Stp.same {o p:O}(h:Stp o p) (hu:o.uses=[]):Ref o p:=by
 have:=h.ref
 rw[nu_self hu,nu_self (h.eq.us.trans hu)]at this
 exact this
theorem Stp.load {o p:O}(h:Stp o p) (hu:o.uses=[]) (most n:Nat) {vv:List (List Int)}(hS:Sh o vv) {f g:Fr}(hf:f.of=o.name) (hg:g.of=o.name) (hb:g.base=f.base) (hm:g.many=f.many) (hl:g.locals=f.locals) (h10:f.locals.length=10) (hn:Nm f.locals) (hfa:f.at'=0) (hga:g.at'=0) :
  Bad (goes most n (st0 o vv f)).way\/Rb o p (goes most n (st0 o vv f)) (goes most n (st0 p vv g)) :=
 h.same hu most n vv f g hS ⟨hf,hg,hb,hm,hl,h10,hn,Or.inl ⟨hfa,hga⟩⟩
theorem Stp.call {o p:O}(h:Stp o p) (hu:o.uses=[]) (most n:Nat) {vv:List (List Int)}(hS:Sh o vv) {f g:Fr}(hf:f.of=o.name) (hg:g.of=o.name) (hb:g.base=f.base) (hm:g.many=f.many) (hl:g.locals=f.locals) (h10:f.locals.length=10) (hn:Nm f.locals) {j:Nat}{e e':Ob.En}(h1:o.procs[j]?=some e) (h2:p.procs[j]?=some e') (hfa:f.at'=e.at'.toNat) (hga:g.at'=e'.at'.toNat) :
  Bad (goes most n (st0 o vv f)).way\/Rb o p (goes most n (st0 o vv f)) (goes most n (st0 p vv g)) :=
 h.same hu most n vv f g hS ⟨hf,hg,hb,hm,hl,h10,hn,Or.inr ⟨j,e,e',h1,h2,hfa,hga⟩⟩
theorem Stp.proc {o p:O}(h:Stp o p) {j:Nat}{e:Ob.En}(h1:o.procs[j]?=some e):∃ e',p.procs[j]?=some e'/\e'.args=e.args/\e'.locals=e.locals/\0<=e'.at'/\e'.at'.toNat<p.code.length:=by
 have hj:=(List.getElem?_eq_some_iff.1 h1).1
 have h2:p.procs[j]?=some (p.procs[j]'(by rw[h.eq.pl];exact hj)):=List.getElem?_eq_getElem _
 obtain⟨a1,a2⟩:=h.eq.pe j _ _ h1 h2
 have h3:=(rg_okc h.rg).1.ent _ (List.mem_of_getElem? h2)
 exact⟨_,h2,a1,a2,h3⟩
theorem Rb.tells {o p:O}{s t:St}(h:Rb o p s t):t.way=s.way/\t.out=s.out/\(if t.way=1 then t.stack.headD 0 else 0)=(if s.way=1 then s.stack.headD 0 else 0):=⟨h.way,h.out,by rw[h.way,h.stk]⟩
end Vm
