import Derived.Test.YtibncofnnlbmcaaGreatDoorLAa
import Derived.Test.YtibncofnnlbmcaaGreatDoorLMg
import Derived.Test.YtibncofnnlbmcaaGreatDoorLUb
import Derived.Test.YtibncofnnlbmcaaGreatDoorKPd
set_option maxRecDepth 100000
set_option maxHeartbeats 4000000
namespace Go.Proofs.YtibncofnnlbmcaaGreatDoor
open Go.RowKit Go.Maps
open Tp (Bs X S G Pr Pt Rs Rr Own)
theorem Row.strs {w:World}{D:Nat->Prop}{a:Option Addr}{c:Nat}{l:List Bs}(h:Row w D 9 1 (.slice a l.length c) l.length (strs l)):StrsAt w l a:=by
 refine⟨fun i g=>?_⟩
 obtain⟨j,k,e,q⟩:=h.str
 injection e with e _ _
 subst e
 obtain⟨b,f,_,d⟩:=q i g
 exact⟨b,0,f,zg d,by rw[Nat.zero_add];exact d⟩
theorem leads_iff {P:List Pt}{a b:Bs}{p:Pt}(d:Tp.partOf P a=some p):Tp.Leads P a b↔a=b\/∃c∈p.m.imports,Tp.Leads P c b:=by
 constructor
 ·intro h
  cases h with
  |refl=>exact Or.inl rfl
  |step hq hc hl =>
   rw[d]at hq
   cases hq
   exact Or.inr ⟨_,hc,hl⟩
 ·rintro(rfl|⟨c,hc,hl⟩)
  ·exact .refl _
  ·exact .step d hc hl
theorem WI.imp {P:List Pt}(h:Tp.WI ofS P){p:Pt}{a c:Bs}(d:Tp.partOf P a=some p)(e:c∈p.m.imports):(Tp.partOf P c).isSome=true:=by
 have b:p.m∈Tp.ms P:=List.mem_map.2 ⟨p,(Tp.part_name d).1,rfl⟩
 have:=((Tp.check_none.1 (h.ck p.m b)).1.1 c e).2
 unfold Tp.seenW at this
 cases f:Tp.partOf P c with
 |none=>rw[f]at this;exact absurd rfl this
 |some q=>rfl
theorem leads_cf (args:Array Value)(w:World):(callFunc 90 args).run Tryz.prog w=.ok (.enter 90 args) w:=by kernel_rfl
open Classical in
theorem uL {w:World}{d x1 x2:Nat}{n a:Bs}{r:Bool}(g:w.cell? ⟨x1,0,none⟩=some (.pointer (some ⟨d,0,none⟩)))(f:w.cell? ⟨x2,0,none⟩=some (.string (bs a)))
  (b:Calls Tryz.prog 46 #[.pointer (some ⟨d,0,none⟩),.string (bs n),.string (bs a)] w fun e w'=>e=.returned (.bool r)/\Below w.heap.size w w') :
  Calls Tryz.prog 90 #[.string (bs n),.pointer (some ⟨x1,0,none⟩),.pointer (some ⟨x2,0,none⟩)] w fun e w'=>e=.returned (.bool r)/\Below w.heap.size w w':=by
 have i:=zh b
 have k:=zg g
 have j:=zg f
 clear b
 go_enter Tryz.func90,Tryz.ntmps90
 go_wp2_with fail
 refine i.out.mono ?_
 rintro e l⟨rfl,c⟩
 have h:=zh c
 clear c
 go_wp2_with fail
 go_ret
 exact⟨rfl,h.out⟩
open Classical in
theorem leads_step {X:Nat->Prop}{w:World}{f:Nat}{L:List Lo}{P:List Pt}{S:Value}{D:Option Nat}(h:WX X w f L P S D){a b:Bs}{lo:Lo}(i:lo∈L)(t:lo.m.name=a)(K:a.length<=1000000)(Z:b.length<=1000000)
  (z:∀c∈lo.m.imports,∀W,Below w.heap.size w W->Calls Tryz.prog 46 #[.pointer (some ⟨f,0,none⟩),.string (bs c),.string (bs b)] W fun e w'=>e=.returned (.bool (decide (Tp.Leads P c b)))/\Below W.heap.size W w') :
  Calls Tryz.prog 46 #[.pointer (some ⟨f,0,none⟩),.string (bs a),.string (bs b)] w fun e w'=>e=.returned (.bool (decide (a=b) || lo.m.imports.any fun c=>decide (Tp.Leads P c b)))/\Below w.heap.size w w':=by
 obtain⟨w2,g⟩:∃w2,w2=(w.alloc (.cells #[.pointer (some ⟨f,0,none⟩)] 47)).alloc (.cells #[.string (bs b)] 9):=⟨_,rfl⟩
 have d:Below w.heap.size w w2:=by rw[g];exact(zb _ _).alloc (by simp) _
 have k:w2.heap[w.heap.size]?=some (.cells #[.pointer (some ⟨f,0,none⟩)] 47 (0,0)):=by rw[g];exact(Below.heap_alloc _ _ _ (by simp)).trans (zo _ _)
 have j:w2.heap[w.heap.size+1]?=some (.cells #[.string (bs b)] 9 (0,0)):=by rw[g];exact yj _ _ _
 have G:=zf h.blk
 have N:w2.cell? ⟨w.heap.size,0,none⟩=some (.pointer (some ⟨f,0,none⟩)):=(za k).trans rfl
 have Q:w2.cell? ⟨w.heap.size+1,0,none⟩=some (.string (bs b)):=(za j).trans rfl
 have kt:w2.cell? ⟨f,1,none⟩=some (.map D):=(za ((d.block _ G).trans h.blk)).trans rfl
 have H:=(h.on d).look a K
 have u:ptrV L a=some ⟨lo.lb,0,none⟩:=by
  unfold ptrV
  rw[(Tp.find_key (key:=fun lo:Lo=>lo.m.name) h.nd lo).2 ⟨i,t⟩]
  rfl
 rw[u]at H
 obtain⟨tb,E,x⟩:=(h.on d).ww i
 obtain⟨⟨A,ga,pa,ba,B,gc,pc,bc,n,C⟩,_,_,_,s⟩:=x.lo lo i
 have v:=Row.strs C.im
 have V:=s.wm.ic
 have ki:w2.cell? ⟨lo.lb,1,none⟩=some (.slice A lo.m.imports.length B):=(za n).trans rfl
 have a1:=zf n
 have I:Hid (Calls Tryz.prog 44 #[.slice A lo.m.imports.length B,.func (.func 90) #[] #[.pointer (some ⟨w.heap.size,0,none⟩),.pointer (some ⟨w.heap.size+1,0,none⟩)]] w2 fun e w'=>e=.returned (.bool (lo.m.imports.any fun c=>decide (Tp.Leads P c b)))/\Below w2.heap.size w2 w'):=by
  refine containsT2 v (by omega) leads_cf (fun W c R o=>?_)
  exact uL ((o.cell (p:=⟨w.heap.size,0,none⟩) (zf k)).trans N) ((o.cell (p:=⟨w.heap.size+1,0,none⟩) (zf j)).trans Q) (z c R W (d.trans (o.mono d.size)))
 have U:=zf k
 have a0:=zf j
 have T:f<w2.heap.size:=by have:=d.size;omega
 have Y:=zm
 have l:=zh d
 generalize (lo.m.imports.any fun c=>decide (Tp.Leads P c b))=r at *
 generalize lo.m.imports.length=il at *
 clear E z h x n C s v k j d i t u
 by_cases e:a=b
 ·subst e
  rw[decide_eq_true rfl,Bool.true_or]
  go_enter Tryz.func46,Tryz.ntmps46
  go_upto_region 1 with fail
  rw[<-g]
  clear g
  go_wp2_with fail
  go_ret
  exact⟨rfl,l.out⟩
 ·have M:¬(bs a).toList=(bs b).toList:=fun q=>e (by rw[zj,zj]at q;exact q)
  rw[decide_eq_false e,Bool.false_or]
  have F:Hid (((bs a).toList==(bs b).toList)=false):=by show _=_;simpa using M
  go_enter Tryz.func46,Tryz.ntmps46
  go_upto_region 1 with fail
  rw[<-g]
  clear g
  go_wp2_with fail
  refine I.out.mono ?_
  rintro e O⟨rfl,y⟩
  have J:Hid (Below w.heap.size w O):=l.out.trans (y.mono l.out.size)
  clear y
  go_wp2_with fail
  go_ret
  exact⟨by show Ending.returned (Value.bool ((bs a).toList==(bs b).toList || r))=_;rw[F.out,Bool.false_or],J.out⟩
open Classical in
theorem leads_post {X:Nat->Prop}{o:Nat}{L:List Lo}{P:List Pt}{B:Value}{z:Option Nat}(j:Tp.WI ofS P)(y:∀lo∈L,lo.m.name.length<=1000000){h:Bs}(r:h.length<=1000000):∀(n:Nat) (S:List Bs),S.length<=n->∀(a:Bs),(∀x,Tp.Leads P a x->(Tp.partOf P x).isSome=true->x∈S)->(Tp.partOf P a).isSome=true->∀(w:World),WX X w o L P B z ->
  Calls Tryz.prog 46 #[.pointer (some ⟨o,0,none⟩),.string (bs a),.string (bs h)] w fun e w'=>e=.returned (.bool (decide (Tp.Leads P a h)))/\Below w.heap.size w w':=by
 intro n
 induction n with
 |zero =>
  intro S l a f d
  have:=f a (.refl a) d
  rw[List.length_eq_zero_iff.1 (Nat.le_zero.1 l)]at this
  cases this
 |succ n ih =>
  intro S l a f d w i
  have t:=f a (.refl a) d
  rcases jl i a with⟨b,_⟩|⟨p,lo,hlo,b,hpm,hlm,_⟩
  ·rw[b]at d;cases d
  ·have q:p.m∈Tp.ms P:=List.mem_map.2 ⟨p,(Tp.part_name b).1,rfl⟩
   have u:=(Tp.part_name b).2
   have key:=leads_step i hlo hlm (by rw[<-hlm];exact y lo hlo) r (fun c g W C=>?_)
   ·refine key.mono ?_
    rintro e w'⟨v,A⟩
    refine⟨?_,A⟩
    rw[v]
    congr 2
    rw[Bool.eq_iff_iff,Bool.or_eq_true,decide_eq_true_iff,decide_eq_true_iff,List.any_eq_true,leads_iff b,hpm]
    simp
   ·rw[<-hpm]at g
    refine ih (S.filter fun x=>!(x==a)) ?_ c (fun x k s=>?_) (WI.imp j b g) W (i.on C)
    ·have D:(S.filter fun x=>!(x==a)).length<S.length:=by
      rw[List.length_filter_lt_length_iff_exists]
      exact⟨a,t,by simp⟩
     omega
    ·rw[List.mem_filter]
     refine⟨f x (.step b g k) s,?_⟩
     have:x≠a:=fun e=>by
      subst e
      have:=j.ac p.m q c g
      rw[u]at this
      exact this k
     simpa using this
end Go.Proofs.YtibncofnnlbmcaaGreatDoor
namespace Go.Proofs.YtibncofnnlbmcaaGreatDoor
open Go.RowKit Go.Maps
open Tp (Bs X S G Pr Pt Rs Rr Own Sy)
theorem okn_10 {n:Bs}(h:Tp.okn n):n.length<=10:=h.2.2
theorem jr {m:Tp.M}(b:Tp.WM m):AllSmall (ofS m):=by
 intro s e
 have:=jx m s e
 unfold Tp.symsOf at this
 rw[List.mem_append,List.mem_map,List.mem_map]at this
 rcases this with⟨g,d,rfl⟩|⟨p,hp,rfl⟩
 ·have a:=b.g g (List.mem_filter.1 d).1
  have:=okn_10 a.n
  have:=a.l
  simp only[Tp.syG]
  refine⟨by omega,by decide,by decide,by omega⟩
 ·have a:=b.p p (List.mem_filter.1 hp).1
  have h:=okn_10 a.n
  have f:=a.c
  simp only[Tp.syP]
  refine⟨by omega,by omega,by omega,by omega⟩
theorem SL.zero {w:World}{B:Nat}{v:Value}{l:List Sy}(h:SL w B v l):SL w 0 v l:=by
 rcases h with q|⟨g,cap,a,_,b⟩
 ·exact Or.inl q
 ·exact Or.inr ⟨g,cap,a,Nat.zero_le _,b⟩
theorem jy {X:Nat->Prop}{w:World}{Z:Nat}{L:List Lo}{P:List Pt}{nv:Value}{tv:Option Nat}(h:WX X w Z L P nv tv){a:Bs}{lo:Lo}(c2:lo∈L)(f2:lo.m.name=a)(i4:a.length<=1000000)(m0:Tp.nM lo.m<=1000){d f:Tp.M}{u D t B J N G F:Option Addr}{y A z C E K H I:Nat}(f9:MB w w.heap.size d u D t B y A z C)(e5:MB w w.heap.size f J N G F E K H I)(b5:Tp.WM d)(c1:Tp.WM f) :
  Calls Tryz.prog 48 #[.pointer (some ⟨Z,0,none⟩),.string (bs a),.agg (mcells (bs d.name) (.slice u d.imports.length y) (.slice D d.vars.length A) (.slice t d.procs.length z) (.slice B d.body.length C)),.agg (mcells (bs f.name) (.slice J f.imports.length E) (.slice N f.vars.length K) (.slice G f.procs.length H) (.slice F f.body.length I))] w fun e w'=>e=.returned (.bool ((Tp.usedR lo.m d.name).any fun n=>Tp.needS (ofS f) n != Tp.needS (ofS d) n))/\Below w.heap.size w w':=by
 obtain⟨w2,b8⟩:∃w2,w2=(w.alloc (.cells (mcells (bs d.name) (.slice u d.imports.length y) (.slice D d.vars.length A) (.slice t d.procs.length z) (.slice B d.body.length C)) 36)).alloc (.cells (mcells (bs f.name) (.slice J f.imports.length E) (.slice N f.vars.length K) (.slice G f.procs.length H) (.slice F f.body.length I)) 36):=⟨_,rfl⟩
 have Y:Below w.heap.size w w2:=by rw[b8];exact(zb _ _).alloc (by simp) _
 have q0:w2.heap[w.heap.size]?=some (.cells (mcells (bs d.name) (.slice u d.imports.length y) (.slice D d.vars.length A) (.slice t d.procs.length z) (.slice B d.body.length C)) 36 (0,0)):=by rw[b8];exact(Below.heap_alloc _ _ _ (by simp)).trans (zo _ _)
 have q1:w2.heap[w.heap.size+1]?=some (.cells (mcells (bs f.name) (.slice J f.imports.length E) (.slice N f.vars.length K) (.slice G f.procs.length H) (.slice F f.body.length I)) 36 (0,0)):=by rw[b8];exact yj _ _ _
 have h7:=zf h.blk
 have kt:w2.cell? ⟨Z,1,none⟩=some (.map tv):=(za ((Y.block _ h7).trans h.blk)).trans rfl
 have f8:ptrV L a=some ⟨lo.lb,0,none⟩:=by
  unfold ptrV
  rw[(Tp.find_key (key:=fun lo:Lo=>lo.m.name) h.nd lo).2 ⟨c2,f2⟩]
  rfl
 have d5:∀W,Below w2.heap.size w2 W->(Instr.lookup 26 (.map tv) (.string (bs a)) false).run Tryz.prog W=.ok (.pointer (some ⟨lo.lb,0,none⟩)) W:=fun W U=>by
  have:=((h.on Y).on U).look a i4
  rw[f8]at this
  exact this
 obtain⟨tb,i1,d3⟩:=(h.on Y).ww c2
 obtain⟨⟨iz,gz,pz,bz,a9,b9,b7,b6,m1,m2⟩,_,_,_,c9⟩:=d3.lo lo c2
 have a6:=c9.wm
 have e7:Hid (∀W,Below w2.heap.size w2 W->Calls Tryz.prog 91 #[.agg #[.string (bs lo.m.name),.slice iz lo.m.imports.length a9,.slice gz lo.m.vars.length b9,.slice pz lo.m.procs.length b7,.slice bz lo.m.body.length b6],.string (bs d.name)] W fun e w'=>∃(a:Option Addr) (c:Nat) (l:List Bs),e=.returned (.slice a l.length c)/\(l.length<=1000/\(∀x,x∈l↔x∈Tp.usedR lo.m d.name)/\StrsAt w' l a/\Below w2.heap.size w2 w')):=fun W U=>by
  have m3:=Tp.allR_count a6
  refine(used_postS (by have:=a6.pc;omega) (by omega) ((m2.mb (fun b _ hl=>hl)).up U) d.name).mono ?_
  rintro e w'⟨a,c,l,O,s,T,h4,h5⟩
  exact⟨a,c,l,O,by omega,T,h4,U.trans (h5.mono U.size)⟩
 have d2:Hid (∀W,Below w2.heap.size w2 W->Calls Tryz.prog 84 #[.agg (mcells (bs f.name) (.slice J f.imports.length E) (.slice N f.vars.length K) (.slice G f.procs.length H) (.slice F f.body.length I))] W fun e w'=>∃v,e=.returned v/\Below W.heap.size W w'/\SL w' 0 v (ofS f)):=fun W U=>by
  refine(uD c1.gc c1.pc ((e5.up Y).up U)).mono ?_
  rintro e w'⟨v,O,s,T⟩
  exact⟨v,O,s,T.zero⟩
 have d4:Hid (∀W,Below w2.heap.size w2 W->Calls Tryz.prog 84 #[.agg (mcells (bs d.name) (.slice u d.imports.length y) (.slice D d.vars.length A) (.slice t d.procs.length z) (.slice B d.body.length C))] W fun e w'=>∃v,e=.returned v/\Below W.heap.size W w'/\SL w' 0 v (ofS d)):=fun W U=>by
  refine(uD b5.gc b5.pc ((f9.up Y).up U)).mono ?_
  rintro e w'⟨v,O,s,T⟩
  exact⟨v,O,s,T.zero⟩
 have c7:=zh (And.intro (jr c1) (js c1))
 have c5:=zh (And.intro (jr b5) (js b5))
 have d1:Hid (∀l:List Bs,(∀x,x∈l↔x∈Tp.usedR lo.m d.name)->(Tp.needsS (ofS f) l=Tp.needsS (ofS d) l↔((Tp.usedR lo.m d.name).any fun n=>Tp.needS (ofS f) n != Tp.needS (ofS d) n)=false)/\∀n∈l,n.length<=100):=fun l hl=>⟨Tp.needs_any a6 hl,fun n hn=>by have:=okn_10 (Tp.used_okn a6 ((hl n).1 hn));omega⟩
 unfold mcells at *
 have i3:=zh q0
 have i6:=zh q1
 have c0:∀j,w2.cell? ⟨w.heap.size,j,none⟩=(#[.string (bs d.name),.slice u d.imports.length y,.slice D d.vars.length A,.slice t d.procs.length z,.slice B d.body.length C]:Array Value)[j]?:=fun j=>za q0
 have d0:w2.cell? ⟨w.heap.size,0,none⟩=some (.string (bs d.name)):=c0 0
 unfold lcells at m1
 have e0:w2.cell? ⟨lo.lb,0,none⟩=some (.string (bs lo.m.name)):=(za m1).trans rfl
 have e1:w2.cell? ⟨lo.lb,1,none⟩=some (.slice iz lo.m.imports.length a9):=(za m1).trans rfl
 have e2:w2.cell? ⟨lo.lb,2,none⟩=some (.slice gz lo.m.vars.length b9):=(za m1).trans rfl
 have e3:w2.cell? ⟨lo.lb,3,none⟩=some (.slice pz lo.m.procs.length b7):=(za m1).trans rfl
 have e4:w2.cell? ⟨lo.lb,4,none⟩=some (.slice bz lo.m.body.length b6):=(za m1).trans rfl
 have a8:=zf m1
 have f6:=zf q0
 have i2:=zf q1
 have g4:Z<w2.heap.size:=by have:=Y.size;omega
 have e9:=zh Y
 have i9:=d5 w2.drew ((Below.refl _ _).drew)
 have g5:=zh (e7.out w2.drew ((Below.refl _ _).drew))
 generalize ((Tp.usedR lo.m d.name).any fun n=>Tp.needS (ofS f) n != Tp.needS (ofS d) n)=r at *
 clear i1 h b5 c1 f9 e5 d3 m1 m2 c9 a6 q0 q1 Y c2 f2 f8 c0 d5 e7
 generalize Tp.usedR lo.m d.name=uu at *
 generalize lo.m.name=lnm at *
 generalize lo.m.imports.length=z1 at *
 generalize lo.m.vars.length=z2 at *
 generalize lo.m.procs.length=z3 at *
 generalize lo.m.body.length=z4 at *
 have g8:Hid (w2.drew.cell? ⟨w.heap.size,0,none⟩=some (.string (bs d.name))/\w2.drew.cell? ⟨Z,1,none⟩=some (.map tv)/\w2.drew.cell? ⟨lo.lb,0,none⟩=some (.string (bs lnm))/\w2.drew.cell? ⟨lo.lb,1,none⟩=some (.slice iz z1 a9)/\w2.drew.cell? ⟨lo.lb,2,none⟩=some (.slice gz z2 b9)/\w2.drew.cell? ⟨lo.lb,3,none⟩=some (.slice pz z3 b7)/\w2.drew.cell? ⟨lo.lb,4,none⟩=some (.slice bz z4 b6)):=⟨d0,kt,e0,e1,e2,e3,e4⟩
 have d6:Hid (∀V,Below w2.heap.size w2 V->V.cell? ⟨w.heap.size,0,none⟩=some (.string (bs d.name))/\V.cell? ⟨Z,1,none⟩=some (.map tv)/\V.cell? ⟨lo.lb,0,none⟩=some (.string (bs lnm))/\V.cell? ⟨lo.lb,1,none⟩=some (.slice iz z1 a9)/\V.cell? ⟨lo.lb,2,none⟩=some (.slice gz z2 b9)/\V.cell? ⟨lo.lb,3,none⟩=some (.slice pz z3 b7)/\V.cell? ⟨lo.lb,4,none⟩=some (.slice bz z4 b6)):=fun V S=>⟨(S.cell (p:=⟨w.heap.size,0,none⟩) f6).trans d0,(S.cell (p:=⟨Z,1,none⟩) g4).trans kt,(S.cell (p:=⟨lo.lb,0,none⟩) a8).trans e0,(S.cell (p:=⟨lo.lb,1,none⟩) a8).trans e1,(S.cell (p:=⟨lo.lb,2,none⟩) a8).trans e2,(S.cell (p:=⟨lo.lb,3,none⟩) a8).trans e3,(S.cell (p:=⟨lo.lb,4,none⟩) a8).trans e4⟩
 go_enter Tryz.func48,Tryz.ntmps48
 go_upto_region 1 with fail
 rw[<-b8]
 clear b8
 go_region_held3 (fun w'=>w'.cell? ⟨w.heap.size,0,none⟩=some (.string (bs d.name))/\w'.cell? ⟨Z,1,none⟩=some (.map tv)/\w'.cell? ⟨lo.lb,0,none⟩=some (.string (bs lnm))/\w'.cell? ⟨lo.lb,1,none⟩=some (.slice iz z1 a9)/\w'.cell? ⟨lo.lb,2,none⟩=some (.slice gz z2 b9)/\w'.cell? ⟨lo.lb,3,none⟩=some (.slice pz z3 b7)/\w'.cell? ⟨lo.lb,4,none⟩=some (.slice bz z4 b6)) (with_reducible (first|exact d9.out|exact g8.out)) (first|(go_at_call 91;refine g5.out.mono ?_;rintro e g ⟨ua,uc,Q,rfl,hu⟩;have HU:=zh hu;have d9:=zh (d6.out g hu.2.2.2);clear hu))
 have a7:Hid (∀V,Below w2.heap.size w2 V->V.cell? ⟨w.heap.size,0,none⟩=some (.string (bs d.name))/\V.cell? ⟨w.heap.size,1,none⟩=some (.slice u d.imports.length y)/\V.cell? ⟨w.heap.size,2,none⟩=some (.slice D d.vars.length A)/\V.cell? ⟨w.heap.size,3,none⟩=some (.slice t d.procs.length z)/\V.cell? ⟨w.heap.size,4,none⟩=some (.slice B d.body.length C)/\V.cell? ⟨w.heap.size+1,0,none⟩=some (.string (bs f.name))/\V.cell? ⟨w.heap.size+1,1,none⟩=some (.slice J f.imports.length E)/\V.cell? ⟨w.heap.size+1,2,none⟩=some (.slice N f.vars.length K)/\V.cell? ⟨w.heap.size+1,3,none⟩=some (.slice G f.procs.length H)/\V.cell? ⟨w.heap.size+1,4,none⟩=some (.slice F f.body.length I)):=fun V S=>by
  obtain⟨a0,a1,a2,a3,a4⟩:=ym ((S.block _ f6).trans i3.out)
  obtain⟨b0,b1,b2,b3,b4⟩:=ym ((S.block _ i2).trans i6.out)
  exact⟨a0,a1,a2,a3,a4,b0,b1,b2,b3,b4⟩
 obtain⟨c8,f7,c6,a5⟩:=HU.out
 obtain⟨c3,c4⟩:=d1.out Q f7
 have g2:Hid (Below w2.heap.size w2 g.drew):=a5.drew
 have g7:Hid (g.drew.cell? ⟨w.heap.size,0,none⟩=some (.string (bs d.name))/\g.drew.cell? ⟨w.heap.size,1,none⟩=some (.slice u d.imports.length y)/\g.drew.cell? ⟨w.heap.size,2,none⟩=some (.slice D d.vars.length A)/\g.drew.cell? ⟨w.heap.size,3,none⟩=some (.slice t d.procs.length z)/\g.drew.cell? ⟨w.heap.size,4,none⟩=some (.slice B d.body.length C)/\g.drew.cell? ⟨w.heap.size+1,0,none⟩=some (.string (bs f.name))/\g.drew.cell? ⟨w.heap.size+1,1,none⟩=some (.slice J f.imports.length E)/\g.drew.cell? ⟨w.heap.size+1,2,none⟩=some (.slice N f.vars.length K)/\g.drew.cell? ⟨w.heap.size+1,3,none⟩=some (.slice G f.procs.length H)/\g.drew.cell? ⟨w.heap.size+1,4,none⟩=some (.slice F f.body.length I)):=a7.out _ g2.out
 have h0:Hid (Calls Tryz.prog 84 #[.agg #[.string (bs f.name),.slice J f.imports.length E,.slice N f.vars.length K,.slice G f.procs.length H,.slice F f.body.length I]] g.drew fun e k=>∃v,e=.returned v/\(Below w2.heap.size w2 k/\Below g.heap.size g k/\SL k 0 v (ofS f))/\(k.cell? ⟨w.heap.size,0,none⟩=some (.string (bs d.name))/\k.cell? ⟨w.heap.size,1,none⟩=some (.slice u d.imports.length y)/\k.cell? ⟨w.heap.size,2,none⟩=some (.slice D d.vars.length A)/\k.cell? ⟨w.heap.size,3,none⟩=some (.slice t d.procs.length z)/\k.cell? ⟨w.heap.size,4,none⟩=some (.slice B d.body.length C)/\k.cell? ⟨w.heap.size+1,0,none⟩=some (.string (bs f.name))/\k.cell? ⟨w.heap.size+1,1,none⟩=some (.slice J f.imports.length E)/\k.cell? ⟨w.heap.size+1,2,none⟩=some (.slice N f.vars.length K)/\k.cell? ⟨w.heap.size+1,3,none⟩=some (.slice G f.procs.length H)/\k.cell? ⟨w.heap.size+1,4,none⟩=some (.slice F f.body.length I))):=by
  refine(d2.out _ g2.out).mono ?_
  rintro e k⟨v,O,s,T⟩
  have R:Below g.heap.size g k:=((Below.refl g.heap.size g).drew).trans s
  exact⟨v,O,⟨a5.trans (R.mono a5.size),R,T⟩,a7.out _ (a5.trans (R.mono a5.size))⟩
 have i5:Hid (∀k v,Below w2.heap.size w2 k/\Below g.heap.size g k/\SL k 0 v (ofS f)->Calls Tryz.prog 92 #[v,.slice ua Q.length uc] k fun e o=>e=.returned (.string (bs (Tp.needsS (ofS f) Q)))/\(Below w2.heap.size w2 o/\Below g.heap.size g o)/\(o.cell? ⟨w.heap.size,0,none⟩=some (.string (bs d.name))/\o.cell? ⟨w.heap.size,1,none⟩=some (.slice u d.imports.length y)/\o.cell? ⟨w.heap.size,2,none⟩=some (.slice D d.vars.length A)/\o.cell? ⟨w.heap.size,3,none⟩=some (.slice t d.procs.length z)/\o.cell? ⟨w.heap.size,4,none⟩=some (.slice B d.body.length C)/\o.cell? ⟨w.heap.size+1,0,none⟩=some (.string (bs f.name))/\o.cell? ⟨w.heap.size+1,1,none⟩=some (.slice J f.imports.length E)/\o.cell? ⟨w.heap.size+1,2,none⟩=some (.slice N f.vars.length K)/\o.cell? ⟨w.heap.size+1,3,none⟩=some (.slice G f.procs.length H)/\o.cell? ⟨w.heap.size+1,4,none⟩=some (.slice F f.body.length I))):=fun k v h4=>by
  refine(xg h4.2.2 c7.out.1 c7.out.2 (c6.on h4.2.1) c4 c8).mono ?_
  rintro e o⟨O,s⟩
  have R:Below w2.heap.size w2 o:=h4.1.trans (s.mono h4.1.size)
  exact⟨O,⟨R,h4.2.1.trans (s.mono h4.2.1.size)⟩,a7.out _ R⟩
 have h9:Hid (∀o,Below w2.heap.size w2 o/\Below g.heap.size g o->Calls Tryz.prog 84 #[.agg #[.string (bs d.name),.slice u d.imports.length y,.slice D d.vars.length A,.slice t d.procs.length z,.slice B d.body.length C]] o fun e i=>∃v,e=.returned v/\(Below w2.heap.size w2 i/\Below g.heap.size g i/\SL i 0 v (ofS d))/\(i.cell? ⟨w.heap.size,0,none⟩=some (.string (bs d.name))/\i.cell? ⟨w.heap.size,1,none⟩=some (.slice u d.imports.length y)/\i.cell? ⟨w.heap.size,2,none⟩=some (.slice D d.vars.length A)/\i.cell? ⟨w.heap.size,3,none⟩=some (.slice t d.procs.length z)/\i.cell? ⟨w.heap.size,4,none⟩=some (.slice B d.body.length C)/\i.cell? ⟨w.heap.size+1,0,none⟩=some (.string (bs f.name))/\i.cell? ⟨w.heap.size+1,1,none⟩=some (.slice J f.imports.length E)/\i.cell? ⟨w.heap.size+1,2,none⟩=some (.slice N f.vars.length K)/\i.cell? ⟨w.heap.size+1,3,none⟩=some (.slice G f.procs.length H)/\i.cell? ⟨w.heap.size+1,4,none⟩=some (.slice F f.body.length I))):=fun o h5=>by
  refine(d4.out _ h5.1).mono ?_
  rintro e i⟨v,O,s,T⟩
  have R:Below w2.heap.size w2 i:=h5.1.trans (s.mono h5.1.size)
  exact⟨v,O,⟨R,h5.2.trans (s.mono h5.2.size),T⟩,a7.out _ R⟩
 have h8:Hid (∀i v,Below w2.heap.size w2 i/\Below g.heap.size g i/\SL i 0 v (ofS d)->Calls Tryz.prog 92 #[v,.slice ua Q.length uc] i fun e q=>e=.returned (.string (bs (Tp.needsS (ofS d) Q)))/\(Below w2.heap.size w2 q)/\(q.cell? ⟨w.heap.size,0,none⟩=some (.string (bs d.name))/\q.cell? ⟨w.heap.size,1,none⟩=some (.slice u d.imports.length y)/\q.cell? ⟨w.heap.size,2,none⟩=some (.slice D d.vars.length A)/\q.cell? ⟨w.heap.size,3,none⟩=some (.slice t d.procs.length z)/\q.cell? ⟨w.heap.size,4,none⟩=some (.slice B d.body.length C)/\q.cell? ⟨w.heap.size+1,0,none⟩=some (.string (bs f.name))/\q.cell? ⟨w.heap.size+1,1,none⟩=some (.slice J f.imports.length E)/\q.cell? ⟨w.heap.size+1,2,none⟩=some (.slice N f.vars.length K)/\q.cell? ⟨w.heap.size+1,3,none⟩=some (.slice G f.procs.length H)/\q.cell? ⟨w.heap.size+1,4,none⟩=some (.slice F f.body.length I))):=fun i v h6=>by
  refine(xg h6.2.2 c5.out.1 c5.out.2 (c6.on h6.2.1) c4 c8).mono ?_
  rintro e q⟨O,s⟩
  have R:Below w2.heap.size w2 q:=h6.1.trans (s.mono h6.1.size)
  exact⟨O,R,a7.out _ R⟩
 have g3:Hid ((!((bs (Tp.needsS (ofS f) Q)).toList==(bs (Tp.needsS (ofS d) Q)).toList))=r):=by
  show _=_
  rw[zj,zj]
  cases r with
  |false=>rw[c3.2 rfl];simp
  |true =>
   have:¬Tp.needsS (ofS f) Q=Tp.needsS (ofS d) Q:=fun e=>by have:=c3.1 e;cases this
   simpa using this
 clear c3 c4 c8 f7 c6 a5 HU d9 d6 d1 d2 d4 c7 c5
 generalize bs (Tp.needsS (ofS f) Q)=nc1 at *
 generalize bs (Tp.needsS (ofS d) Q)=nc2 at *
 generalize Q.length=uln at *
 generalize bs d.name=vn0 at *
 generalize d.imports.length=vn1 at *
 generalize d.vars.length=vn2 at *
 generalize d.procs.length=vn3 at *
 generalize d.body.length=vn4 at *
 generalize bs f.name=vc0 at *
 generalize f.imports.length=vc1 at *
 generalize f.vars.length=vc2 at *
 generalize f.procs.length=vc3 at *
 generalize f.body.length=vc4 at *
 go_upto_region 2 with fail
 go_region_held3 (fun w'=>w'.cell? ⟨w.heap.size,0,none⟩=some (.string vn0)/\w'.cell? ⟨w.heap.size,1,none⟩=some (.slice u vn1 y)/\w'.cell? ⟨w.heap.size,2,none⟩=some (.slice D vn2 A)/\w'.cell? ⟨w.heap.size,3,none⟩=some (.slice t vn3 z)/\w'.cell? ⟨w.heap.size,4,none⟩=some (.slice B vn4 C)/\w'.cell? ⟨w.heap.size+1,0,none⟩=some (.string vc0)/\w'.cell? ⟨w.heap.size+1,1,none⟩=some (.slice J vc1 E)/\w'.cell? ⟨w.heap.size+1,2,none⟩=some (.slice N vc2 K)/\w'.cell? ⟨w.heap.size+1,3,none⟩=some (.slice G vc3 H)/\w'.cell? ⟨w.heap.size+1,4,none⟩=some (.slice F vc4 I)) (with_reducible (first|exact g6.out|exact i0.out|exact i8.out|exact i7.out|exact g7.out)) (first|(go_at_call 92;have _g:=f3;refine(h8.out _ _ f3.out).mono ?_;rintro e q ⟨rfl,e6,d7⟩;have g9:=zh e6;have g6:=zh d7;clear e6 d7)|(go_at_call 84;have _g:=g0;refine(h9.out _ g0.out).mono ?_;rintro e i ⟨v6,rfl,f1,g1⟩;have f3:=zh f1;have i0:=zh g1;clear f1 g1)|(go_at_call 92;have _g:=f0;refine(i5.out _ _ f0.out).mono ?_;rintro e o ⟨rfl,d8,f5⟩;have g0:=zh d8;have i8:=zh f5;clear d8 f5)|(go_at_call 84;refine h0.out.mono ?_;rintro e k ⟨v4,rfl,f4,e8⟩;have f0:=zh f4;have i7:=zh e8;clear f4 e8))
 go_wp2_with fail
 go_ret
 exact⟨by show Ending.returned (Value.bool (!(nc1.toList==nc2.toList)))=_;rw[g3.out],e9.out.trans (g9.out.mono e9.out.size)⟩
end Go.Proofs.YtibncofnnlbmcaaGreatDoor
namespace Go.Proofs.YtibncofnnlbmcaaGreatDoor
open Go.RowKit Go.Maps
open Tp (Bs X S G Pr Pt Rs Rr Own)
structure GlAt (w:World) (gs:List G) (a:Option Addr):Prop where
 c:∀i (h:i<gs.length),∃b,a=some ⟨b,0,none⟩/\b<w.heap.size/\∀j,j<4->w.cell? ⟨b,i*4+j,none⟩=(gcells (bs gs[i].name) (gs[i].pos:Int) (gs[i].len:Int) gs[i].seen).toList[j]?
theorem GlAt.on {w w':World}{e:List G}{a:Option Addr}(h:GlAt w e a)(k:Below w.heap.size w w'):GlAt w' e a :=
 ⟨fun i f=>by obtain⟨b,l,d,g⟩:=h.c i f;exact⟨b,l,Nat.lt_of_lt_of_le d k.size,fun j m=>(k.cell (p:=⟨b,i*4+j,none⟩) d).trans (g j m)⟩⟩
theorem Row.gls {w:World}{D:Nat->Prop}{a:Option Addr}{c:Nat}{b:List G}(h:Row w D 61 4 (.slice a b.length c) b.length (gcs b)):GlAt w b a:=by
 refine⟨fun i e=>?_⟩
 obtain⟨g,cap,d,m,f,k⟩:=yt h (by omega)
 injection d with d _ _
 exact⟨g,d,f,fun j l=>(k (i*4+j) (by omega)).trans (xK b i e j l)⟩
def gval (g:G):Value:=.agg (gcells (bs g.name) (g.pos:Int) (g.len:Int) g.seen)
theorem indexG1 {w:World}{a:Option Addr}{cap:Nat}{l:List G}{p:G->Bool}{m:FuncId}{c1:Value}(s:GlAt w l a)(M:l.length<=1000)(K:∀(args:Array Value) (w:World),(callFunc m args).run Tryz.prog w=.ok (.enter m args) w)
  (hd:∀W (x:G),x∈l->Below w.heap.size w W->Calls Tryz.prog m #[gval x,c1] W fun e w'=>e=.returned (.bool (p x))/\Below W.heap.size W w') :
  Calls Tryz.prog 50 #[.slice a l.length cap,.func (.func m) #[] #[c1]] w fun e w'=>(∃k:Int,e=.returned (.int .i64 k)/\(decide (0<=k)=l.any p))/\Below w.heap.size w w':=by
 have J:(l.length:Int)<=1000:=by omega
 have z:=zh s
 have E:=zh hd
 clear s hd
 go_enter Tryz.func50,Tryz.ntmps50
 go_wp2_with fail
 go_loopg [8] l.length (fun k D wr=>∃i:Nat,i<=l.length/\k=l.length-i/\D=.int .i64 (i:Int)/\Hid ((l.take i).any p=false)/\Hid (Below w.heap.size w wr))
 case atStart=>exact⟨0,by omega,by omega,rfl,rfl,Below.refl _ _⟩
 case round =>
  obtain⟨i,I,Q,rfl,n,f⟩:=hrel
  by_cases h:i<l.length
  ·have v:(i:Int)<(l.length:Int):=by omega
   obtain⟨g,rfl,y,q⟩:=z.out.c i h
   have b:∀j,j<4->wr.cell? ⟨g,i*4+j,none⟩=(gcells (bs l[i].name) (l[i].pos:Int) (l[i].len:Int) l[i].seen).toList[j]?:=fun j C=>(f.out.cell (p:=⟨g,i*4+j,none⟩) y).trans (q j C)
   have F:wr.cell? ⟨g,i*4,none⟩=some (.string (bs l[i].name)):=b 0 (by omega)
   have N:wr.cell? ⟨g,i*4+1,none⟩=some (.int .i64 (l[i].pos:Int)):=b 1 (by omega)
   have O:wr.cell? ⟨g,i*4+2,none⟩=some (.int .i64 (l[i].len:Int)):=b 2 (by omega)
   have L:wr.cell? ⟨g,i*4+3,none⟩=some (.bool l[i].seen):=b 3 (by omega)
   have H:g<wr.heap.size:=zg F
   have u:=zh (E.out wr l[i] (List.getElem_mem h) f.out)
   unfold gval gcells at u
   have A:Hid ((l.take (i+1)).any p=p l[i]):=by
    show _=_
    rw[List.take_succ_eq_append_getElem h,List.any_append,n.out];simp
   have B:Hid (p l[i]=true->l.any p=true):=fun e=>List.any_eq_true.2 ⟨_,List.getElem_mem h,e⟩
   clear b q
   generalize p l[i]=d at *
   generalize bs l[i].name=x at *
   generalize (l[i].pos:Int)=x1 at *
   generalize (l[i].len:Int)=x2 at *
   generalize l[i].seen=x3 at *
   clear n
   go_wp2_with fail
   refine u.out.mono ?_
   rintro e P⟨rfl,t⟩
   have r:=zh (f.out.trans (t.mono f.out.size))
   clear t
   cases d with
   |true =>
    have o:=zh (B.out rfl)
    go_wp2_with fail
    go_ret
    refine⟨⟨_,rfl,?_⟩,r.out⟩
    rw[o.out]
    exact decide_eq_true (by omega)
   |false =>
    go_wp2_with fail
    go_roundg (l.length-(i+1))
    case measure=>omega
    case rel=>exact⟨i+1,by omega,rfl,by go_num,A,r⟩
  ·have v:¬(i:Int)<(l.length:Int):=by omega
   have o:Hid (l.any p=false):=by
    have:=n.out
    rw[List.take_of_length_le (by omega)]at this
    exact this
   go_wp2_with fail
   go_ret
   refine⟨⟨_,rfl,?_⟩,f.out⟩
   rw[o.out]
   rfl
theorem containsG1 {w:World}{a:Option Addr}{cap:Nat}{l:List G}{p:G->Bool}{b:FuncId}{c1:Value}(f:GlAt w l a)(j:l.length<=1000)(c:∀(args:Array Value) (w:World),(callFunc b args).run Tryz.prog w=.ok (.enter b args) w)
  (hd:∀W (x:G),x∈l->Below w.heap.size w W->Calls Tryz.prog b #[gval x,c1] W fun e w'=>e=.returned (.bool (p x))/\Below W.heap.size W w') :
  Calls Tryz.prog 19 #[.slice a l.length cap,.func (.func b) #[] #[c1]] w fun e w'=>e=.returned (.bool (l.any p))/\Below w.heap.size w w':=by
 have i:=zh (indexG1 (cap:=cap) f j c hd)
 clear f hd c
 go_enter Tryz.func19,Tryz.ntmps19
 go_wp2_with fail
 refine i.out.mono ?_
 rintro e m⟨⟨k,rfl,d⟩,h⟩
 have g:=zh d
 clear d
 go_wp2_with fail
 go_ret
 exact⟨by rw[<-g.out];rfl,h⟩
theorem keep_cf (args:Array Value)(w:World):(callFunc 93 args).run Tryz.prog w=.ok (.enter 93 args) w:=by kernel_rfl
theorem keep1_post {w:World}{x:Nat}{g o:G}(h:w.heap[x]?=some (.cells (gcells (bs g.name) (g.pos:Int) (g.len:Int) g.seen) 61 (0,0))) :
  Calls Tryz.prog 93 #[gval o,.pointer (some ⟨x,0,none⟩)] w fun e w'=>e=.returned (.bool (decide (o.name=g.name)&&decide (o.len=g.len)))/\Below w.heap.size w w':=by
 obtain⟨w2,a⟩:∃w2,w2=w.alloc (.cells (gcells (bs o.name) (o.pos:Int) (o.len:Int) o.seen) 61):=⟨_,rfl⟩
 have f:Below w.heap.size w w2:=by rw[a];exact zb _ _
 have c:w2.heap[w.heap.size]?=some (.cells (gcells (bs o.name) (o.pos:Int) (o.len:Int) o.seen) 61 (0,0)):=by rw[a];exact zo _ _
 have b:=(f.block _ (zf h)).trans h
 unfold gval gcells at *
 have n:w2.cell? ⟨w.heap.size,0,none⟩=some (.string (bs o.name)):=(za c).trans rfl
 have m:w2.cell? ⟨w.heap.size,2,none⟩=some (.int .i64 (o.len:Int)):=(za c).trans rfl
 have t:w2.cell? ⟨x,0,none⟩=some (.string (bs g.name)):=(za b).trans rfl
 have b2:w2.cell? ⟨x,2,none⟩=some (.int .i64 (g.len:Int)):=(za b).trans rfl
 have r:=zf c
 have s:=zf b
 have d:=zh f
 clear c b f h
 by_cases i:o.name=g.name
 ·rw[i]at n a ⊢
  rw[decide_eq_true rfl,Bool.true_and]
  by_cases j:o.len=g.len
  ·rw[j]at m a ⊢
   rw[decide_eq_true rfl]
   generalize bs g.name=gn at *
   generalize (g.len:Int)=gl at *
   go_enter Tryz.func93,Tryz.ntmps93
   go_upto_region 1 with fail
   rw[<-a]
   clear a
   go_wp2_with fail
   go_ret
   exact⟨rfl,d.out⟩
  ·have k:¬(o.len:Int)=(g.len:Int):=by omega
   have l:Hid (((o.len:Int)==(g.len:Int))=false):=by show _=_;simpa using k
   rw[decide_eq_false j]
   generalize bs g.name=gn at *
   go_enter Tryz.func93,Tryz.ntmps93
   go_upto_region 1 with fail
   rw[<-a]
   clear a
   go_wp2_with fail
   go_ret
   exact⟨by show Ending.returned (Value.bool ((o.len:Int)==(g.len:Int)))=_;rw[l.out],d.out⟩
 ·have p:¬(bs o.name).toList=(bs g.name).toList:=fun q=>i (by rw[zj,zj]at q;exact q)
  rw[decide_eq_false i,Bool.false_and]
  go_enter Tryz.func93,Tryz.ntmps93
  go_upto_region 1 with fail
  rw[<-a]
  clear a
  go_wp2_with fail
  go_ret
  exact⟨rfl,d.out⟩
def keptG (old:Tp.M) (g:G):Bool:=old.vars.any fun h=>decide (h.name=g.name)&&decide (h.len=g.len)
def kslF (lo:Lo) (sl:Bs->Nat) (gs:List G) (k:Bs):Nat:=match gs.find? fun g=>g.name==k with
 |some g=>if keptG lo.m g then lo.sl k else sl k
 |none=>sl k
def keepF (lo:Lo) (m:Tp.M) (sl:Bs->Nat) (i:Nat) (k:Bs):Option Value:=(Tp.varOf m k).map fun g=>.slice (some ⟨kslF lo sl (m.vars.take i) k,0,none⟩) (vlen g) (vlen g)
theorem jq {a:List G}(h:(a.map (·.name)).Nodup){i:Nat}(c:i<a.length)(k:Bs):(a.take (i+1)).find? (fun g=>g.name==k)=if k=a[i].name then some a[i] else (a.take i).find? fun g=>g.name==k:=by
 rw[List.take_succ_eq_append_getElem c,List.find?_append]
 by_cases e:k=a[i].name
 ·rw[if_pos e]
  have:(a.take i).find? (fun g=>g.name==k)=none:=by
   rw[List.find?_eq_none]
   intro g b q
   have d:g.name=k:=by simpa using q
   obtain⟨j,f,rfl⟩:=List.getElem_of_mem b
   rw[List.length_take]at f
   rw[List.getElem_take]at d
   have:=(List.getElem_inj (h₀:=by simp;omega) (h₁:=by simpa using c) h (i:=j) (j:=i)).1 (by simpa using d.trans e)
   omega
  rw[this]
  simp[e]
 ·rw[if_neg e]
  have:([a[i]]:List G).find? (fun g=>g.name==k)=none:=by
   rw[List.find?_eq_none]
   intro g b q
   rw[List.mem_singleton]at b
   subst b
   exact e (by simpa using q:a[i].name=k).symm
  rw[this]
  simp
theorem keepF_succ {lo:Lo}{m:Tp.M}{sl:Bs->Nat}(b:(m.vars.map (·.name)).Nodup){i:Nat}(a:i<m.vars.length):keepF lo m sl (i+1)=if keptG lo.m m.vars[i] then updV (keepF lo m sl i) m.vars[i].name (.slice (some ⟨lo.sl m.vars[i].name,0,none⟩) (vlen m.vars[i]) (vlen m.vars[i])) else keepF lo m sl i:=by
 funext k
 have f:Tp.varOf m m.vars[i].name=some m.vars[i]:=Tp.varOf_mem b (List.getElem_mem a)
 by_cases e:k=m.vars[i].name
 ·subst e
  have h:(m.vars.take i).find? (fun g=>g.name==m.vars[i].name)=none:=by
   rw[List.find?_eq_none]
   intro g l q
   have d:g.name=m.vars[i].name:=by simpa using q
   obtain⟨j,n,rfl⟩:=List.getElem_of_mem l
   rw[List.length_take]at n
   rw[List.getElem_take]at d
   have:=(List.getElem_inj (h₀:=by simp;omega) (h₁:=by simpa using a) b (i:=j) (j:=i)).1 (by simpa using d)
   omega
  by_cases c:keptG lo.m m.vars[i]=true
  ·rw[if_pos c]
   unfold keepF updV kslF
   rw[if_pos rfl,f,jq b a,if_pos rfl]
   simp[c]
  ·rw[if_neg c]
   unfold keepF kslF
   rw[f,jq b a,if_pos rfl,h]
   simp[c]
 ·have:keepF lo m sl (i+1) k=keepF lo m sl i k:=by
   unfold keepF kslF
   rw[jq b a,if_neg e]
  rw[this]
  split
  ·unfold updV
   rw[if_neg e]
  ·rfl
theorem keepF_zero (lo:Lo)(m:Tp.M)(sl:Bs->Nat):keepF lo m sl 0=fun k=>(Tp.varOf m k).map fun g=>.slice (some ⟨sl k,0,none⟩) (vlen g) (vlen g):=by
 funext k
 unfold keepF kslF
 simp
theorem kept_look {lo:Lo}{g:G}(d:(lo.m.vars.map (·.name)).Nodup)(b:keptG lo.m g=true):loV lo g.name=some (.slice (some ⟨lo.sl g.name,0,none⟩) (vlen g) (vlen g)):=by
 unfold keptG at b
 obtain⟨h,c,a⟩:=List.any_eq_true.1 b
 simp only[Bool.and_eq_true,decide_eq_true_eq]at a
 have e:Tp.varOf lo.m h.name=some h:=Tp.varOf_mem d c
 unfold loV
 rw[<-a.1,e]
 have:vlen h=vlen g:=by unfold vlen;rw[a.2]
 simp[this]
def KeepP (w:World) (lb vb:Nat) (lo:Lo) (m:Tp.M) (sl:Bs->Nat) (e:Ending) (w':World):Prop:=e=.returned (.pointer (some ⟨lb,0,none⟩))/\Ext vb w w'/\∃n,MapV w' vb n (keepF lo m sl m.vars.length)
theorem vN {w:World}{f a n0:Nat}{m:Tp.M}{sl:Bs->Nat}{lo:Lo}{ia H pa ba f8 u e7 e5:Option Addr}{ic Z pc bc d8 F f0 f4:Nat}(E:w.heap[f]?=some (.cells (lcells m ia H pa ba ic Z pc bc a) 107 (0,0)))(a6:GlAt w m.vars H)(hm:MapV w a n0 (keepF lo m sl 0))(h7:n0<=1000)(h8:m.vars.length<=10)(c6:(m.vars.map (·.name)).Nodup)(a8:∀g∈m.vars,g.name.length<=1000000)
  (S:w.heap[lo.lb]?=some (.cells (lcells lo.m f8 u e7 e5 d8 F f0 f4 lo.vb) 107 (0,0)))(b8:GlAt w lo.m.vars u)(b9:∃n,MapV w lo.vb n (loV lo))(g8:lo.m.vars.length<=10)(a0:(lo.m.vars.map (·.name)).Nodup)(d0:f≠a)(d2:lo.lb≠a)(c9:lo.vb≠a)(b6:∀b,H=some b->b.block≠a)(c5:∀b,u=some b->b.block≠a) :
  Calls Tryz.prog 49 #[.pointer (some ⟨f,0,none⟩),.pointer (some ⟨lo.lb,0,none⟩)] w (KeepP w f a lo m sl):=by
 have d6:=zf E
 have f2:=zf S
 have k2:w.cell? ⟨f,2,none⟩=some (.slice H m.vars.length Z):=(za E).trans rfl
 have g3:=zh E
 have d9:=zh S
 have e6:=zh a6
 have f9:=zh b8
 have HM:=zh hm
 have g1:=zh b9
 have e0:=zh c6
 have e9:=zh a0
 have e8:=zh a8
 have d5:=zh b6
 have g2:=zh c5
 have f6:(m.vars.length:Int)<=10:=by omega
 obtain⟨gn,L⟩:∃gn,gn=m.vars.length:=⟨_,rfl⟩
 obtain⟨G,b0⟩:∃G,G=lo.m.vars.length:=⟨_,rfl⟩
 rw[<-L]at k2 f6
 have a3:=zh L
 have a1:=zh b0
 clear E S a6 b8 hm b9 c6 a0 a8 b6 c5 L b0
 have h4:=zm
 go_enter Tryz.func49,Tryz.ntmps49
 go_wp2_with fail
 clear k2
 go_loopg [14] gn (fun k vi wr=>∃i:Nat,i<=gn/\k=gn-i/\vi=.int .i64 (i:Int)/\Hid (MapV wr a (n0+i) (keepF lo m sl i))/\Hid (Ext a w wr))
 case atStart=>exact⟨0,by omega,by omega,rfl,HM,Ext.refl _ _⟩
 case round =>
  obtain⟨i,h5,hk,rfl,z,r⟩:=hrel
  have g6:=r.out.size
  by_cases h0:i<gn
  ·have c8:(i:Int)<(gn:Int):=by omega
   have R:i<m.vars.length:=by have:=a3.out;omega
   obtain⟨l,f1,d3,b3⟩:=e6.out.c i R
   subst f1
   have c7:l≠a:=d5.out _ rfl
   have y:∀j,j<4->wr.cell? ⟨l,i*4+j,none⟩=(gcells (bs m.vars[i].name) (m.vars[i].pos:Int) (m.vars[i].len:Int) m.vars[i].seen).toList[j]?:=fun j hj=>by
    rw[World.cell?_of_block (w:=w) (r.out.block l d3 c7)]
    exact b3 j hj
   have c0:wr.cell? ⟨l,i*4,none⟩=some (.string (bs m.vars[i].name)):=y 0 (by omega)
   have c1:wr.cell? ⟨l,i*4+1,none⟩=some (.int .i64 (m.vars[i].pos:Int)):=y 1 (by omega)
   have c2:wr.cell? ⟨l,i*4+2,none⟩=some (.int .i64 (m.vars[i].len:Int)):=y 2 (by omega)
   have c3:wr.cell? ⟨l,i*4+3,none⟩=some (.bool m.vars[i].seen):=y 3 (by omega)
   have g5:l<wr.heap.size:=by omega
   obtain⟨W,I⟩:∃W,W=wr.alloc (.cells (gcells (bs m.vars[i].name) (m.vars[i].pos:Int) (m.vars[i].len:Int) m.vars[i].seen) 61):=⟨_,rfl⟩
   have C:Below wr.heap.size wr W:=by rw[I];exact zb _ _
   have D:W.heap[wr.heap.size]?=some (.cells (gcells (bs m.vars[i].name) (m.vars[i].pos:Int) (m.vars[i].len:Int) m.vars[i].seen) 61 (0,0)):=by rw[I];exact zo _ _
   have s:∀b,b<w.heap.size->b≠a->W.heap[b]?=w.heap[b]?:=fun b V X=>(C.block b (by omega)).trans (r.out.block b V X)
   have B:=(s _ f2 d2).trans d9.out
   have o2:W.cell? ⟨lo.lb,2,none⟩=some (.slice u G F):=by
    rw[a1.out]
    exact(za B).trans rfl
   have h6:lo.lb<W.heap.size:=zf B
   have a2:GlAt W lo.m.vars u:=⟨fun j hj=>by
    obtain⟨b,e1,Y,e3⟩:=f9.out.c j hj
    have b1:b≠a:=g2.out _ e1
    exact⟨b,e1,zf (show W.heap[b]?=some (w.heap[b]) by rw[s b Y b1];exact Array.getElem?_eq_getElem Y),fun q hq=>(World.cell?_of_block (w:=w) (s b Y b1)).trans (e3 q hq)⟩⟩
   have HC:Hid (Calls Tryz.prog 19 #[.slice u G F,.func (.func 93) #[] #[.pointer (some ⟨wr.heap.size,0,none⟩)]] W fun e w'=>e=.returned (.bool (keptG lo.m m.vars[i]))/\Below W.heap.size W w'):=by
    have:=containsG1 (cap:=F) (p:=fun h=>decide (h.name=m.vars[i].name)&&decide (h.len=m.vars[i].len)) (c1:=.pointer (some ⟨wr.heap.size,0,none⟩)) a2 (by omega) keep_cf (fun v x _ Q=>keep1_post ((Q.block _ (zf D)).trans D))
    rw[<-a1.out]at this
    exact this
   have a4:=e8.out _ (List.getElem_mem R)
   have b7:=zh (keepF_succ (lo:=lo) (sl:=sl) e0.out R)
   have g4:Hid (Ext a w W):=r.out.trans (Ext.below C)
   have a5:Hid (MapV W a (n0+i) (keepF lo m sl i)):=z.out.on (C.block _ z.out.lt)
   have a7:=zh D
   have f3:Hid (keptG lo.m m.vars[i]=true->loV lo m.vars[i].name=some (.slice (some ⟨lo.sl m.vars[i].name,0,none⟩) (vlen m.vars[i]) (vlen m.vars[i]))):=fun e=>kept_look e9.out e
   have c4:Hid (W.heap[f]?=some (.cells (lcells m ia (some ⟨l,0,none⟩) pa ba ic Z pc bc a) 107 (0,0))):=(s _ d6 d0).trans g3.out
   have b5:=zh B
   have d4:Hid (∃n,MapV W lo.vb n (loV lo)):=by
    obtain⟨n,q⟩:=g1.out
    exact⟨n,q.on (s _ q.lt c9)⟩
   clear y b3 C D s B a2 z r
   unfold gcells at *
   generalize e4:keptG lo.m m.vars[i]=kp at *
   clear e4
   generalize d7:vlen m.vars[i]=vg at *
   generalize d1:m.vars[i].name=nm at *
   generalize (m.vars[i].pos:Int)=ps at *
   generalize (m.vars[i].len:Int)=ln at *
   generalize m.vars[i].seen=sn at *
   clear d7 d1
   go_upto_region 4 with fail
   rw[<-I]
   clear I c0 c1 c2 c3
   go_wp2_with fail
   refine HC.out.mono ?_
   rintro e d⟨rfl,o⟩
   have a9:Hid (Ext a w d):=g4.out.trans (Ext.below o)
   have b2:Hid (MapV d a (n0+i) (keepF lo m sl i)):=a5.out.on (o.block _ a5.out.lt)
   cases kp with
   |false =>
    have J:Hid (MapV d a (n0+(i+1)) (keepF lo m sl (i+1))):=by
     have e:=b7.out
     rw[if_neg (by simp)]at e
     show MapV _ _ _ _
     rw[e]
     exact b2.out.mono (by omega)
    clear o o2
    go_wp2_with fail
    go_roundg (gn-(i+1))
    case measure=>omega
    case rel=>exact⟨i+1,by omega,rfl,by go_num,J,a9⟩
   |true =>
    have T:=(o.block _ (zf c4.out)).trans c4.out
    have O:=(o.block _ (zf b5.out)).trans b5.out
    have P:=(o.block _ (zf a7.out)).trans a7.out
    have f5:d.cell? ⟨f,5,none⟩=some (.map (some a)):=(za T).trans rfl
    have p5:d.cell? ⟨lo.lb,5,none⟩=some (.map (some lo.vb)):=(za O).trans rfl
    have g0:d.cell? ⟨wr.heap.size,0,none⟩=some (.string (bs nm)):=(za P).trans rfl
    have l1:=zf T
    have l2:=zf O
    have l3:=zf P
    obtain⟨nn,K⟩:=d4.out
    have N:∀v,v.heap=d.heap->(Instr.lookup 105 (.map (some lo.vb)) (.string (bs nm)) false).run Tryz.prog v=.ok (.slice (some ⟨lo.sl nm,0,none⟩) vg vg) v:=fun v Q=>by
     have:=(K.on (w':=v) (by rw[Q];exact o.block _ K.lt)).look (t:=105) Tryz.underlying105 (zeroI64s _) nm a4 false
     rw[this,f3.out rfl]
     rfl
    have g9:=N d rfl
    have g7:=N d.drew rfl
    obtain⟨U,h3,q1,A,q3⟩:=(b2.out.on (w':=d.drew) rfl).store (t:=105) Tryz.underlying105 (by omega) nm a4 (.slice (some ⟨lo.sl nm,0,none⟩) vg vg)
    have J:Hid (MapV U a (n0+(i+1)) (keepF lo m sl (i+1))):=by
     have e:=b7.out
     rw[if_pos rfl]at e
     show MapV _ _ _ _
     rw[e]
     exact q1
    have f7:Hid (Ext a w U):=a9.out.trans ⟨A.os,A.tape,A.output,by have:U.heap.size=d.heap.size:=q3;omega,fun b V X=>A.block b V X⟩
    clear o o2 T O P K N q1 A q3
    go_upto_region 6 with fail
    go_region
    go_wp2_with fail
    go_roundg (gn-(i+1))
    case measure=>omega
    case rel=>exact⟨i+1,by omega,rfl,by go_num,J,f7⟩
  ·have c8:¬(i:Int)<(gn:Int):=by omega
   have b4:i=m.vars.length:=by have:=a3.out;omega
   have HF:Hid (KeepP w f a lo m sl (.returned (.pointer (some ⟨f,0,none⟩))) wr):=by
    refine⟨rfl,r.out,n0+i,?_⟩
    rw[<-b4]
    exact z.out
   clear b4 z r
   go_wp2_with fail
   go_ret
   exact HF.out
end Go.Proofs.YtibncofnnlbmcaaGreatDoor
