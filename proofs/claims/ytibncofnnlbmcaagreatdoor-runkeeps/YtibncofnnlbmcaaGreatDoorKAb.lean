import Derived.Test.YtibncofnnlbmcaaGreatDoorKAa
import Derived.Test.YtibncofnnlbmcaaGreatDoorKMg
import Derived.Test.YtibncofnnlbmcaaGreatDoorKUb
import Derived.Test.YtibncofnnlbmcaaGreatDoorKPd
set_option maxRecDepth 100000
set_option maxHeartbeats 4000000
namespace Go.Proofs.YtibncofnnlbmcaaGreatDoor
open Go.RowKit Go.Maps
open Tp (Bs X S G Pr Pt Rs Rr Own)
theorem Row.strs {w:World}{D:Nat->Prop}{a:Option Addr}{c:Nat}{l:List Bs}(h:Row w D 9 1 (.slice a l.length c) l.length (strs l)):StrsAt w l a:=by
 refine⟨fun i g=>?_⟩
 obtain⟨j,k,e,q⟩:=h.str
 injection e with e _ _
 subst e
 obtain⟨b,f,_,d⟩:=q i g
 exact⟨b,0,f,zg d,by rw[Nat.zero_add];exact d⟩
theorem leads_iff {P:List Pt}{a b:Bs}{p:Pt}(d:Tp.partOf P a=some p):Tp.Leads P a b↔a=b\/∃c∈p.m.imports,Tp.Leads P c b:=by
 constructor
 ·intro h
  cases h with
  |refl=>exact Or.inl rfl
  |step hq hc hl =>
   rw[d]at hq
   cases hq
   exact Or.inr ⟨_,hc,hl⟩
 ·rintro(rfl|⟨c,hc,hl⟩)
  ·exact .refl _
  ·exact .step d hc hl
theorem WI.imp {P:List Pt}(h:Tp.WI ofS P){p:Pt}{a c:Bs}(e:Tp.partOf P a=some p)(b:c∈p.m.imports):(Tp.partOf P c).isSome=true:=by
 have d:p.m∈Tp.ms P:=List.mem_map.2 ⟨p,(Tp.part_name e).1,rfl⟩
 have:=((Tp.check_none.1 (h.ck p.m d)).1.1 c b).2
 unfold Tp.seenW at this
 cases f:Tp.partOf P c with
 |none=>rw[f]at this;exact absurd rfl this
 |some q=>rfl
theorem leads_cf (args:Array Value)(w:World):(callFunc 90 args).run Tryz.prog w=.ok (.enter 90 args) w:=by kernel_rfl
open Classical in
theorem uW {w:World}{d x1 x2:Nat}{n a:Bs}{r:Bool}(h:w.cell? ⟨x1,0,none⟩=some (.pointer (some ⟨d,0,none⟩)))(i:w.cell? ⟨x2,0,none⟩=some (.string (bs a)))
  (c:Calls Tryz.prog 46 #[.pointer (some ⟨d,0,none⟩),.string (bs n),.string (bs a)] w fun e w'=>e=.returned (.bool r)/\Below w.heap.size w w') :
  Calls Tryz.prog 90 #[.string (bs n),.pointer (some ⟨x1,0,none⟩),.pointer (some ⟨x2,0,none⟩)] w fun e w'=>e=.returned (.bool r)/\Below w.heap.size w w':=by
 have g:=zh c
 have j:=zg h
 have k:=zg i
 clear c
 go_enter Tryz.func90,Tryz.ntmps90
 go_wp2_with fail
 refine g.out.mono ?_
 rintro e l⟨rfl,b⟩
 have f:=zh b
 clear b
 go_wp2_with fail
 go_ret
 exact⟨rfl,f.out⟩
open Classical in
theorem leads_step {X:Nat->Prop}{w:World}{f:Nat}{L:List Lo}{P:List Pt}{R:Value}{D:Option Nat}(h:WX X w f L P R D){a b:Bs}{lo:Lo}(i:lo∈L)(u:lo.m.name=a)(H:a.length<=1000000)(a1:b.length<=1000000)
  (B:∀c∈lo.m.imports,∀W,Below w.heap.size w W->Calls Tryz.prog 46 #[.pointer (some ⟨f,0,none⟩),.string (bs c),.string (bs b)] W fun e w'=>e=.returned (.bool (decide (Tp.Leads P c b)))/\Below W.heap.size W w') :
  Calls Tryz.prog 46 #[.pointer (some ⟨f,0,none⟩),.string (bs a),.string (bs b)] w fun e w'=>e=.returned (.bool (decide (a=b) || lo.m.imports.any fun c=>decide (Tp.Leads P c b)))/\Below w.heap.size w w':=by
 obtain⟨w2,g⟩:∃w2,w2=(w.alloc (.cells #[.pointer (some ⟨f,0,none⟩)] 47)).alloc (.cells #[.string (bs b)] 9):=⟨_,rfl⟩
 have d:Below w.heap.size w w2:=by rw[g];exact(zb _ _).alloc (by simp) _
 have j:w2.heap[w.heap.size]?=some (.cells #[.pointer (some ⟨f,0,none⟩)] 47 (0,0)):=by rw[g];exact(Below.heap_alloc _ _ _ (by simp)).trans (zo _ _)
 have k:w2.heap[w.heap.size+1]?=some (.cells #[.string (bs b)] 9 (0,0)):=by rw[g];exact yj _ _ _
 have M:=zf h.blk
 have O:w2.cell? ⟨w.heap.size,0,none⟩=some (.pointer (some ⟨f,0,none⟩)):=(za j).trans rfl
 have Q:w2.cell? ⟨w.heap.size+1,0,none⟩=some (.string (bs b)):=(za k).trans rfl
 have kt:w2.cell? ⟨f,1,none⟩=some (.map D):=(za ((d.block _ M).trans h.blk)).trans rfl
 have I:=(h.on d).look a H
 have x:ptrV L a=some ⟨lo.lb,0,none⟩:=by
  unfold ptrV
  rw[(Tp.find_key (key:=fun lo:Lo=>lo.m.name) h.nd lo).2 ⟨i,u⟩]
  rfl
 rw[x]at I
 obtain⟨tb,K,y⟩:=(h.on d).ww i
 obtain⟨⟨z,ga,pa,ba,A,gc,pc,bc,o,C⟩,_,_,_,s⟩:=y.lo lo i
 have v:=Row.strs C.im
 have U:=s.wm.ic
 have ki:w2.cell? ⟨lo.lb,1,none⟩=some (.slice z lo.m.imports.length A):=(za o).trans rfl
 have Z:=zf o
 have G:Hid (Calls Tryz.prog 44 #[.slice z lo.m.imports.length A,.func (.func 90) #[] #[.pointer (some ⟨w.heap.size,0,none⟩),.pointer (some ⟨w.heap.size+1,0,none⟩)]] w2 fun e w'=>e=.returned (.bool (lo.m.imports.any fun c=>decide (Tp.Leads P c b)))/\Below w2.heap.size w2 w'):=by
  refine containsT2 v (by omega) leads_cf (fun W c N n=>?_)
  exact uW ((n.cell (p:=⟨w.heap.size,0,none⟩) (zf j)).trans O) ((n.cell (p:=⟨w.heap.size+1,0,none⟩) (zf k)).trans Q) (B c N W (d.trans (n.mono d.size)))
 have V:=zf j
 have Y:=zf k
 have T:f<w2.heap.size:=by have:=d.size;omega
 have a0:=zm
 have l:=zh d
 generalize (lo.m.imports.any fun c=>decide (Tp.Leads P c b))=r at *
 generalize lo.m.imports.length=il at *
 clear K B h y o C s v j k d i u x
 by_cases e:a=b
 ·subst e
  rw[decide_eq_true rfl,Bool.true_or]
  go_enter Tryz.func46,Tryz.ntmps46
  go_upto_region 1 with fail
  rw[<-g]
  clear g
  go_wp2_with fail
  go_ret
  exact⟨rfl,l.out⟩
 ·have J:¬(bs a).toList=(bs b).toList:=fun q=>e (by rw[zj,zj]at q;exact q)
  rw[decide_eq_false e,Bool.false_or]
  have F:Hid (((bs a).toList==(bs b).toList)=false):=by show _=_;simpa using J
  go_enter Tryz.func46,Tryz.ntmps46
  go_upto_region 1 with fail
  rw[<-g]
  clear g
  go_wp2_with fail
  refine G.out.mono ?_
  rintro e S⟨rfl,t⟩
  have E:Hid (Below w.heap.size w S):=l.out.trans (t.mono l.out.size)
  clear t
  go_wp2_with fail
  go_ret
  exact⟨by show Ending.returned (Value.bool ((bs a).toList==(bs b).toList || r))=_;rw[F.out,Bool.false_or],E.out⟩
open Classical in
theorem leads_post {X:Nat->Prop}{o:Nat}{L:List Lo}{P:List Pt}{B:Value}{C:Option Nat}(j:Tp.WI ofS P)(v:∀lo∈L,lo.m.name.length<=1000000){h:Bs}(t:h.length<=1000000):∀(n:Nat) (S:List Bs),S.length<=n->∀(a:Bs),(∀x,Tp.Leads P a x->(Tp.partOf P x).isSome=true->x∈S)->(Tp.partOf P a).isSome=true->∀(w:World),WX X w o L P B C ->
  Calls Tryz.prog 46 #[.pointer (some ⟨o,0,none⟩),.string (bs a),.string (bs h)] w fun e w'=>e=.returned (.bool (decide (Tp.Leads P a h)))/\Below w.heap.size w w':=by
 intro n
 induction n with
 |zero =>
  intro S k a g d
  have:=g a (.refl a) d
  rw[List.length_eq_zero_iff.1 (Nat.le_zero.1 k)]at this
  cases this
 |succ n ih =>
  intro S k a g d w i
  have r:=g a (.refl a) d
  rcases jr i a with⟨b,_⟩|⟨p,lo,hlo,b,hpm,hlm,_⟩
  ·rw[b]at d;cases d
  ·have q:p.m∈Tp.ms P:=List.mem_map.2 ⟨p,(Tp.part_name b).1,rfl⟩
   have s:=(Tp.part_name b).2
   have key:=leads_step i hlo hlm (by rw[<-hlm];exact v lo hlo) t (fun c f W y=>?_)
   ·refine key.mono ?_
    rintro e w'⟨A,z⟩
    refine⟨?_,z⟩
    rw[A]
    congr 2
    rw[Bool.eq_iff_iff,Bool.or_eq_true,decide_eq_true_iff,decide_eq_true_iff,List.any_eq_true,leads_iff b,hpm]
    simp
   ·rw[<-hpm]at f
    refine ih (S.filter fun x=>!(x==a)) ?_ c (fun x l u=>?_) (WI.imp j b f) W (i.on y)
    ·have D:(S.filter fun x=>!(x==a)).length<S.length:=by
      rw[List.length_filter_lt_length_iff_exists]
      exact⟨a,r,by simp⟩
     omega
    ·rw[List.mem_filter]
     refine⟨g x (.step b f l) u,?_⟩
     have:x≠a:=fun e=>by
      subst e
      have:=j.ac p.m q c f
      rw[s]at this
      exact this l
     simpa using this
end Go.Proofs.YtibncofnnlbmcaaGreatDoor
namespace Go.Proofs.YtibncofnnlbmcaaGreatDoor
open Go.RowKit Go.Maps
open Tp (Bs X S G Pr Pt Rs Rr Own Sy)
theorem okn_10 {n:Bs}(h:Tp.okn n):n.length<=10:=h.2.2
theorem jy {m:Tp.M}(b:Tp.WM m):AllSmall (ofS m):=by
 intro s e
 have:=jC m s e
 unfold Tp.symsOf at this
 rw[List.mem_append,List.mem_map,List.mem_map]at this
 rcases this with⟨g,d,rfl⟩|⟨p,hp,rfl⟩
 ·have a:=b.g g (List.mem_filter.1 d).1
  have:=okn_10 a.n
  have:=a.l
  simp only[Tp.syG]
  refine⟨by omega,by decide,by decide,by omega⟩
 ·have a:=b.p p (List.mem_filter.1 hp).1
  have f:=okn_10 a.n
  have h:=a.c
  simp only[Tp.syP]
  refine⟨by omega,by omega,by omega,by omega⟩
theorem SL.zero {w:World}{B:Nat}{v:Value}{l:List Sy}(h:SL w B v l):SL w 0 v l:=by
 rcases h with q|⟨g,cap,a,_,b⟩
 ·exact Or.inl q
 ·exact Or.inr ⟨g,cap,a,Nat.zero_le _,b⟩
theorem jD {X:Nat->Prop}{w:World}{wb:Nat}{L:List Lo}{P:List Pt}{nv:Value}{tv:Option Nat}(h:WX X w wb L P nv tv){a:Bs}{lo:Lo}(c2:lo∈L)(f4:lo.m.name=a)(i5:a.length<=1000000)(m3:Tp.nM lo.m<=9000){d f:Tp.M}{z t B q I G K E:Option Addr}{A u C s J H N F:Nat}(f6:MB w w.heap.size d z t B q A u C s)(f5:MB w w.heap.size f I G K E J H N F)(b8:Tp.WM d)(b7:Tp.WM f) :
  Calls Tryz.prog 48 #[.pointer (some ⟨wb,0,none⟩),.string (bs a),.agg (mcells (bs d.name) (.slice z d.imports.length A) (.slice t d.vars.length u) (.slice B d.procs.length C) (.slice q d.body.length s)),.agg (mcells (bs f.name) (.slice I f.imports.length J) (.slice G f.vars.length H) (.slice K f.procs.length N) (.slice E f.body.length F))] w fun e w'=>e=.returned (.bool ((Tp.usedR lo.m d.name).any fun n=>Tp.needS (ofS f) n != Tp.needS (ofS d) n))/\Below w.heap.size w w':=by
 obtain⟨w2,b6⟩:∃w2,w2=(w.alloc (.cells (mcells (bs d.name) (.slice z d.imports.length A) (.slice t d.vars.length u) (.slice B d.procs.length C) (.slice q d.body.length s)) 36)).alloc (.cells (mcells (bs f.name) (.slice I f.imports.length J) (.slice G f.vars.length H) (.slice K f.procs.length N) (.slice E f.body.length F)) 36):=⟨_,rfl⟩
 have Y:Below w.heap.size w w2:=by rw[b6];exact(zb _ _).alloc (by simp) _
 have q0:w2.heap[w.heap.size]?=some (.cells (mcells (bs d.name) (.slice z d.imports.length A) (.slice t d.vars.length u) (.slice B d.procs.length C) (.slice q d.body.length s)) 36 (0,0)):=by rw[b6];exact(Below.heap_alloc _ _ _ (by simp)).trans (zo _ _)
 have q1:w2.heap[w.heap.size+1]?=some (.cells (mcells (bs f.name) (.slice I f.imports.length J) (.slice G f.vars.length H) (.slice K f.procs.length N) (.slice E f.body.length F)) 36 (0,0)):=by rw[b6];exact yj _ _ _
 have i8:=zf h.blk
 have kt:w2.cell? ⟨wb,1,none⟩=some (.map tv):=(za ((Y.block _ i8).trans h.blk)).trans rfl
 have f7:ptrV L a=some ⟨lo.lb,0,none⟩:=by
  unfold ptrV
  rw[(Tp.find_key (key:=fun lo:Lo=>lo.m.name) h.nd lo).2 ⟨c2,f4⟩]
  rfl
 have f3:∀W,Below w2.heap.size w2 W->(Instr.lookup 26 (.map tv) (.string (bs a)) false).run Tryz.prog W=.ok (.pointer (some ⟨lo.lb,0,none⟩)) W:=fun W U=>by
  have:=((h.on Y).on U).look a i5
  rw[f7]at this
  exact this
 obtain⟨tb,i7,d4⟩:=(h.on Y).ww c2
 obtain⟨⟨iz,gz,pz,bz,b9,a9,c1,a8,m1,m2⟩,_,_,_,d3⟩:=d4.lo lo c2
 have a6:=d3.wm
 have e7:Hid (∀W,Below w2.heap.size w2 W->Calls Tryz.prog 91 #[.agg #[.string (bs lo.m.name),.slice iz lo.m.imports.length b9,.slice gz lo.m.vars.length a9,.slice pz lo.m.procs.length c1,.slice bz lo.m.body.length a8],.string (bs d.name)] W fun e w'=>∃(a:Option Addr) (c:Nat) (l:List Bs),e=.returned (.slice a l.length c)/\(l.length<=9000/\(∀x,x∈l↔x∈Tp.usedR lo.m d.name)/\StrsAt w' l a/\Below w2.heap.size w2 w')):=fun W U=>by
  have m0:=Tp.allR_count a6
  refine(used_postS (by have:=a6.pc;omega) (by omega) ((m2.mb (fun b _ hl=>hl)).up U) d.name).mono ?_
  rintro e w'⟨a,c,l,O,y,T,Z,h5⟩
  exact⟨a,c,l,O,by omega,T,Z,U.trans (h5.mono U.size)⟩
 have d1:Hid (∀W,Below w2.heap.size w2 W->Calls Tryz.prog 84 #[.agg (mcells (bs f.name) (.slice I f.imports.length J) (.slice G f.vars.length H) (.slice K f.procs.length N) (.slice E f.body.length F))] W fun e w'=>∃v,e=.returned v/\Below W.heap.size W w'/\SL w' 0 v (ofS f)):=fun W U=>by
  refine(uO b7.gc b7.pc ((f5.up Y).up U)).mono ?_
  rintro e w'⟨v,O,y,T⟩
  exact⟨v,O,y,T.zero⟩
 have d2:Hid (∀W,Below w2.heap.size w2 W->Calls Tryz.prog 84 #[.agg (mcells (bs d.name) (.slice z d.imports.length A) (.slice t d.vars.length u) (.slice B d.procs.length C) (.slice q d.body.length s))] W fun e w'=>∃v,e=.returned v/\Below W.heap.size W w'/\SL w' 0 v (ofS d)):=fun W U=>by
  refine(uO b8.gc b8.pc ((f6.up Y).up U)).mono ?_
  rintro e w'⟨v,O,y,T⟩
  exact⟨v,O,y,T.zero⟩
 have c5:=zh (And.intro (jy b7) (jz b7))
 have c6:=zh (And.intro (jy b8) (jz b8))
 have c9:Hid (∀l:List Bs,(∀x,x∈l↔x∈Tp.usedR lo.m d.name)->(Tp.needsS (ofS f) l=Tp.needsS (ofS d) l↔((Tp.usedR lo.m d.name).any fun n=>Tp.needS (ofS f) n != Tp.needS (ofS d) n)=false)/\∀n∈l,n.length<=100):=fun l hl=>⟨Tp.needs_any a6 hl,fun n hn=>by have:=okn_10 (Tp.used_okn a6 ((hl n).1 hn));omega⟩
 unfold mcells at *
 have h7:=zh q0
 have h8:=zh q1
 have c0:∀j,w2.cell? ⟨w.heap.size,j,none⟩=(#[.string (bs d.name),.slice z d.imports.length A,.slice t d.vars.length u,.slice B d.procs.length C,.slice q d.body.length s]:Array Value)[j]?:=fun j=>za q0
 have d0:w2.cell? ⟨w.heap.size,0,none⟩=some (.string (bs d.name)):=c0 0
 unfold lcells at m1
 have e0:w2.cell? ⟨lo.lb,0,none⟩=some (.string (bs lo.m.name)):=(za m1).trans rfl
 have e1:w2.cell? ⟨lo.lb,1,none⟩=some (.slice iz lo.m.imports.length b9):=(za m1).trans rfl
 have e2:w2.cell? ⟨lo.lb,2,none⟩=some (.slice gz lo.m.vars.length a9):=(za m1).trans rfl
 have e3:w2.cell? ⟨lo.lb,3,none⟩=some (.slice pz lo.m.procs.length c1):=(za m1).trans rfl
 have e4:w2.cell? ⟨lo.lb,4,none⟩=some (.slice bz lo.m.body.length a8):=(za m1).trans rfl
 have b5:=zf m1
 have f2:=zf q0
 have i6:=zf q1
 have g5:wb<w2.heap.size:=by have:=Y.size;omega
 have d5:=zh Y
 have i9:=f3 w2.drew ((Below.refl _ _).drew)
 have g4:=zh (e7.out w2.drew ((Below.refl _ _).drew))
 generalize ((Tp.usedR lo.m d.name).any fun n=>Tp.needS (ofS f) n != Tp.needS (ofS d) n)=r at *
 clear i7 h b8 b7 f6 f5 d4 m1 m2 d3 a6 q0 q1 Y c2 f4 f7 c0 f3 e7
 generalize Tp.usedR lo.m d.name=uu at *
 generalize lo.m.name=lnm at *
 generalize lo.m.imports.length=z1 at *
 generalize lo.m.vars.length=z2 at *
 generalize lo.m.procs.length=z3 at *
 generalize lo.m.body.length=z4 at *
 have h9:Hid (w2.drew.cell? ⟨w.heap.size,0,none⟩=some (.string (bs d.name))/\w2.drew.cell? ⟨wb,1,none⟩=some (.map tv)/\w2.drew.cell? ⟨lo.lb,0,none⟩=some (.string (bs lnm))/\w2.drew.cell? ⟨lo.lb,1,none⟩=some (.slice iz z1 b9)/\w2.drew.cell? ⟨lo.lb,2,none⟩=some (.slice gz z2 a9)/\w2.drew.cell? ⟨lo.lb,3,none⟩=some (.slice pz z3 c1)/\w2.drew.cell? ⟨lo.lb,4,none⟩=some (.slice bz z4 a8)):=⟨d0,kt,e0,e1,e2,e3,e4⟩
 have e6:Hid (∀V,Below w2.heap.size w2 V->V.cell? ⟨w.heap.size,0,none⟩=some (.string (bs d.name))/\V.cell? ⟨wb,1,none⟩=some (.map tv)/\V.cell? ⟨lo.lb,0,none⟩=some (.string (bs lnm))/\V.cell? ⟨lo.lb,1,none⟩=some (.slice iz z1 b9)/\V.cell? ⟨lo.lb,2,none⟩=some (.slice gz z2 a9)/\V.cell? ⟨lo.lb,3,none⟩=some (.slice pz z3 c1)/\V.cell? ⟨lo.lb,4,none⟩=some (.slice bz z4 a8)):=fun V S=>⟨(S.cell (p:=⟨w.heap.size,0,none⟩) f2).trans d0,(S.cell (p:=⟨wb,1,none⟩) g5).trans kt,(S.cell (p:=⟨lo.lb,0,none⟩) b5).trans e0,(S.cell (p:=⟨lo.lb,1,none⟩) b5).trans e1,(S.cell (p:=⟨lo.lb,2,none⟩) b5).trans e2,(S.cell (p:=⟨lo.lb,3,none⟩) b5).trans e3,(S.cell (p:=⟨lo.lb,4,none⟩) b5).trans e4⟩
 go_enter Tryz.func48,Tryz.ntmps48
 go_upto_region 1 with fail
 rw[<-b6]
 clear b6
 go_region_held3 (fun w'=>w'.cell? ⟨w.heap.size,0,none⟩=some (.string (bs d.name))/\w'.cell? ⟨wb,1,none⟩=some (.map tv)/\w'.cell? ⟨lo.lb,0,none⟩=some (.string (bs lnm))/\w'.cell? ⟨lo.lb,1,none⟩=some (.slice iz z1 b9)/\w'.cell? ⟨lo.lb,2,none⟩=some (.slice gz z2 a9)/\w'.cell? ⟨lo.lb,3,none⟩=some (.slice pz z3 c1)/\w'.cell? ⟨lo.lb,4,none⟩=some (.slice bz z4 a8)) (with_reducible (first|exact e5.out|exact h9.out)) (first|(go_at_call 91;refine g4.out.mono ?_;rintro e g ⟨ua,uc,R,rfl,hu⟩;have HU:=zh hu;have e5:=zh (e6.out g hu.2.2.2);clear hu))
 have a7:Hid (∀V,Below w2.heap.size w2 V->V.cell? ⟨w.heap.size,0,none⟩=some (.string (bs d.name))/\V.cell? ⟨w.heap.size,1,none⟩=some (.slice z d.imports.length A)/\V.cell? ⟨w.heap.size,2,none⟩=some (.slice t d.vars.length u)/\V.cell? ⟨w.heap.size,3,none⟩=some (.slice B d.procs.length C)/\V.cell? ⟨w.heap.size,4,none⟩=some (.slice q d.body.length s)/\V.cell? ⟨w.heap.size+1,0,none⟩=some (.string (bs f.name))/\V.cell? ⟨w.heap.size+1,1,none⟩=some (.slice I f.imports.length J)/\V.cell? ⟨w.heap.size+1,2,none⟩=some (.slice G f.vars.length H)/\V.cell? ⟨w.heap.size+1,3,none⟩=some (.slice K f.procs.length N)/\V.cell? ⟨w.heap.size+1,4,none⟩=some (.slice E f.body.length F)):=fun V S=>by
  obtain⟨a0,a1,a2,a3,a4⟩:=ym ((S.block _ f2).trans h7.out)
  obtain⟨b0,b1,b2,b3,b4⟩:=ym ((S.block _ i6).trans h8.out)
  exact⟨a0,a1,a2,a3,a4,b0,b1,b2,b3,b4⟩
 obtain⟨c7,g2,c8,a5⟩:=HU.out
 obtain⟨c3,c4⟩:=c9.out R g2
 have d9:Hid (Below w2.heap.size w2 g.drew):=a5.drew
 have i0:Hid (g.drew.cell? ⟨w.heap.size,0,none⟩=some (.string (bs d.name))/\g.drew.cell? ⟨w.heap.size,1,none⟩=some (.slice z d.imports.length A)/\g.drew.cell? ⟨w.heap.size,2,none⟩=some (.slice t d.vars.length u)/\g.drew.cell? ⟨w.heap.size,3,none⟩=some (.slice B d.procs.length C)/\g.drew.cell? ⟨w.heap.size,4,none⟩=some (.slice q d.body.length s)/\g.drew.cell? ⟨w.heap.size+1,0,none⟩=some (.string (bs f.name))/\g.drew.cell? ⟨w.heap.size+1,1,none⟩=some (.slice I f.imports.length J)/\g.drew.cell? ⟨w.heap.size+1,2,none⟩=some (.slice G f.vars.length H)/\g.drew.cell? ⟨w.heap.size+1,3,none⟩=some (.slice K f.procs.length N)/\g.drew.cell? ⟨w.heap.size+1,4,none⟩=some (.slice E f.body.length F)):=a7.out _ d9.out
 have g9:Hid (Calls Tryz.prog 84 #[.agg #[.string (bs f.name),.slice I f.imports.length J,.slice G f.vars.length H,.slice K f.procs.length N,.slice E f.body.length F]] g.drew fun e i=>∃v,e=.returned v/\(Below w2.heap.size w2 i/\Below g.heap.size g i/\SL i 0 v (ofS f))/\(i.cell? ⟨w.heap.size,0,none⟩=some (.string (bs d.name))/\i.cell? ⟨w.heap.size,1,none⟩=some (.slice z d.imports.length A)/\i.cell? ⟨w.heap.size,2,none⟩=some (.slice t d.vars.length u)/\i.cell? ⟨w.heap.size,3,none⟩=some (.slice B d.procs.length C)/\i.cell? ⟨w.heap.size,4,none⟩=some (.slice q d.body.length s)/\i.cell? ⟨w.heap.size+1,0,none⟩=some (.string (bs f.name))/\i.cell? ⟨w.heap.size+1,1,none⟩=some (.slice I f.imports.length J)/\i.cell? ⟨w.heap.size+1,2,none⟩=some (.slice G f.vars.length H)/\i.cell? ⟨w.heap.size+1,3,none⟩=some (.slice K f.procs.length N)/\i.cell? ⟨w.heap.size+1,4,none⟩=some (.slice E f.body.length F))):=by
  refine(d1.out _ d9.out).mono ?_
  rintro e i⟨v,O,y,T⟩
  have Q:Below g.heap.size g i:=((Below.refl g.heap.size g).drew).trans y
  exact⟨v,O,⟨a5.trans (Q.mono a5.size),Q,T⟩,a7.out _ (a5.trans (Q.mono a5.size))⟩
 have g7:Hid (∀i v,Below w2.heap.size w2 i/\Below g.heap.size g i/\SL i 0 v (ofS f)->Calls Tryz.prog 92 #[v,.slice ua R.length uc] i fun e o=>e=.returned (.string (bs (Tp.needsS (ofS f) R)))/\(Below w2.heap.size w2 o/\Below g.heap.size g o)/\(o.cell? ⟨w.heap.size,0,none⟩=some (.string (bs d.name))/\o.cell? ⟨w.heap.size,1,none⟩=some (.slice z d.imports.length A)/\o.cell? ⟨w.heap.size,2,none⟩=some (.slice t d.vars.length u)/\o.cell? ⟨w.heap.size,3,none⟩=some (.slice B d.procs.length C)/\o.cell? ⟨w.heap.size,4,none⟩=some (.slice q d.body.length s)/\o.cell? ⟨w.heap.size+1,0,none⟩=some (.string (bs f.name))/\o.cell? ⟨w.heap.size+1,1,none⟩=some (.slice I f.imports.length J)/\o.cell? ⟨w.heap.size+1,2,none⟩=some (.slice G f.vars.length H)/\o.cell? ⟨w.heap.size+1,3,none⟩=some (.slice K f.procs.length N)/\o.cell? ⟨w.heap.size+1,4,none⟩=some (.slice E f.body.length F))):=fun i v Z=>by
  refine(xv Z.2.2 c5.out.1 c5.out.2 (c8.on Z.2.1) c4 c7).mono ?_
  rintro e o⟨O,y⟩
  have Q:Below w2.heap.size w2 o:=Z.1.trans (y.mono Z.1.size)
  exact⟨O,⟨Q,Z.2.1.trans (y.mono Z.2.1.size)⟩,a7.out _ Q⟩
 have h0:Hid (∀o,Below w2.heap.size w2 o/\Below g.heap.size g o->Calls Tryz.prog 84 #[.agg #[.string (bs d.name),.slice z d.imports.length A,.slice t d.vars.length u,.slice B d.procs.length C,.slice q d.body.length s]] o fun e k=>∃v,e=.returned v/\(Below w2.heap.size w2 k/\Below g.heap.size g k/\SL k 0 v (ofS d))/\(k.cell? ⟨w.heap.size,0,none⟩=some (.string (bs d.name))/\k.cell? ⟨w.heap.size,1,none⟩=some (.slice z d.imports.length A)/\k.cell? ⟨w.heap.size,2,none⟩=some (.slice t d.vars.length u)/\k.cell? ⟨w.heap.size,3,none⟩=some (.slice B d.procs.length C)/\k.cell? ⟨w.heap.size,4,none⟩=some (.slice q d.body.length s)/\k.cell? ⟨w.heap.size+1,0,none⟩=some (.string (bs f.name))/\k.cell? ⟨w.heap.size+1,1,none⟩=some (.slice I f.imports.length J)/\k.cell? ⟨w.heap.size+1,2,none⟩=some (.slice G f.vars.length H)/\k.cell? ⟨w.heap.size+1,3,none⟩=some (.slice K f.procs.length N)/\k.cell? ⟨w.heap.size+1,4,none⟩=some (.slice E f.body.length F))):=fun o h5=>by
  refine(d2.out _ h5.1).mono ?_
  rintro e k⟨v,O,y,T⟩
  have Q:Below w2.heap.size w2 k:=h5.1.trans (y.mono h5.1.size)
  exact⟨v,O,⟨Q,h5.2.trans (y.mono h5.2.size),T⟩,a7.out _ Q⟩
 have g8:Hid (∀k v,Below w2.heap.size w2 k/\Below g.heap.size g k/\SL k 0 v (ofS d)->Calls Tryz.prog 92 #[v,.slice ua R.length uc] k fun e D=>e=.returned (.string (bs (Tp.needsS (ofS d) R)))/\(Below w2.heap.size w2 D)/\(D.cell? ⟨w.heap.size,0,none⟩=some (.string (bs d.name))/\D.cell? ⟨w.heap.size,1,none⟩=some (.slice z d.imports.length A)/\D.cell? ⟨w.heap.size,2,none⟩=some (.slice t d.vars.length u)/\D.cell? ⟨w.heap.size,3,none⟩=some (.slice B d.procs.length C)/\D.cell? ⟨w.heap.size,4,none⟩=some (.slice q d.body.length s)/\D.cell? ⟨w.heap.size+1,0,none⟩=some (.string (bs f.name))/\D.cell? ⟨w.heap.size+1,1,none⟩=some (.slice I f.imports.length J)/\D.cell? ⟨w.heap.size+1,2,none⟩=some (.slice G f.vars.length H)/\D.cell? ⟨w.heap.size+1,3,none⟩=some (.slice K f.procs.length N)/\D.cell? ⟨w.heap.size+1,4,none⟩=some (.slice E f.body.length F))):=fun k v h6=>by
  refine(xv h6.2.2 c6.out.1 c6.out.2 (c8.on h6.2.1) c4 c7).mono ?_
  rintro e D⟨O,y⟩
  have Q:Below w2.heap.size w2 D:=h6.1.trans (y.mono h6.1.size)
  exact⟨O,Q,a7.out _ Q⟩
 have g3:Hid ((!((bs (Tp.needsS (ofS f) R)).toList==(bs (Tp.needsS (ofS d) R)).toList))=r):=by
  show _=_
  rw[zj,zj]
  cases r with
  |false=>rw[c3.2 rfl];simp
  |true =>
   have:¬Tp.needsS (ofS f) R=Tp.needsS (ofS d) R:=fun e=>by have:=c3.1 e;cases this
   simpa using this
 clear c3 c4 c7 g2 c8 a5 HU e5 e6 c9 d1 d2 c5 c6
 generalize bs (Tp.needsS (ofS f) R)=nc1 at *
 generalize bs (Tp.needsS (ofS d) R)=nc2 at *
 generalize R.length=uln at *
 generalize bs d.name=vn0 at *
 generalize d.imports.length=vn1 at *
 generalize d.vars.length=vn2 at *
 generalize d.procs.length=vn3 at *
 generalize d.body.length=vn4 at *
 generalize bs f.name=vc0 at *
 generalize f.imports.length=vc1 at *
 generalize f.vars.length=vc2 at *
 generalize f.procs.length=vc3 at *
 generalize f.body.length=vc4 at *
 go_upto_region 2 with fail
 go_region_held3 (fun w'=>w'.cell? ⟨w.heap.size,0,none⟩=some (.string vn0)/\w'.cell? ⟨w.heap.size,1,none⟩=some (.slice z vn1 A)/\w'.cell? ⟨w.heap.size,2,none⟩=some (.slice t vn2 u)/\w'.cell? ⟨w.heap.size,3,none⟩=some (.slice B vn3 C)/\w'.cell? ⟨w.heap.size,4,none⟩=some (.slice q vn4 s)/\w'.cell? ⟨w.heap.size+1,0,none⟩=some (.string vc0)/\w'.cell? ⟨w.heap.size+1,1,none⟩=some (.slice I vc1 J)/\w'.cell? ⟨w.heap.size+1,2,none⟩=some (.slice G vc2 H)/\w'.cell? ⟨w.heap.size+1,3,none⟩=some (.slice K vc3 N)/\w'.cell? ⟨w.heap.size+1,4,none⟩=some (.slice E vc4 F)) (with_reducible (first|exact i4.out|exact i3.out|exact i2.out|exact i1.out|exact i0.out)) (first|(go_at_call 92;have _g:=d8;refine(g8.out _ _ d8.out).mono ?_;rintro e D ⟨rfl,f1,g1⟩;have g6:=zh f1;have i4:=zh g1;clear f1 g1)|(go_at_call 84;have _g:=d7;refine(h0.out _ d7.out).mono ?_;rintro e k ⟨v6,rfl,f0,g0⟩;have d8:=zh f0;have i3:=zh g0;clear f0 g0)|(go_at_call 92;have _g:=d6;refine(g7.out _ _ d6.out).mono ?_;rintro e o ⟨rfl,e9,f9⟩;have d7:=zh e9;have i2:=zh f9;clear e9 f9)|(go_at_call 84;refine g9.out.mono ?_;rintro e i ⟨v4,rfl,e8,f8⟩;have d6:=zh e8;have i1:=zh f8;clear e8 f8))
 go_wp2_with fail
 go_ret
 exact⟨by show Ending.returned (Value.bool (!(nc1.toList==nc2.toList)))=_;rw[g3.out],d5.out.trans (g6.out.mono d5.out.size)⟩
end Go.Proofs.YtibncofnnlbmcaaGreatDoor
namespace Go.Proofs.YtibncofnnlbmcaaGreatDoor
open Go.RowKit Go.Maps
open Tp (Bs X S G Pr Pt Rs Rr Own)
structure GlAt (w:World) (gs:List G) (a:Option Addr):Prop where
 c:∀i (h:i<gs.length),∃b,a=some ⟨b,0,none⟩/\b<w.heap.size/\∀j,j<4->w.cell? ⟨b,i*4+j,none⟩=(gcells (bs gs[i].name) (gs[i].pos:Int) (gs[i].len:Int) gs[i].seen).toList[j]?
theorem GlAt.on {w w':World}{d:List G}{a:Option Addr}(h:GlAt w d a)(k:Below w.heap.size w w'):GlAt w' d a :=
 ⟨fun i l=>by obtain⟨b,f,e,g⟩:=h.c i l;exact⟨b,f,Nat.lt_of_lt_of_le e k.size,fun j m=>(k.cell (p:=⟨b,i*4+j,none⟩) e).trans (g j m)⟩⟩
theorem Row.gls {w:World}{D:Nat->Prop}{a:Option Addr}{c:Nat}{b:List G}(h:Row w D 61 4 (.slice a b.length c) b.length (gcs b)):GlAt w b a:=by
 refine⟨fun i e=>?_⟩
 obtain⟨g,cap,d,m,k,l⟩:=yu h (by omega)
 injection d with d _ _
 exact⟨g,d,k,fun j f=>(l (i*4+j) (by omega)).trans (xT b i e j f)⟩
def gval (g:G):Value:=.agg (gcells (bs g.name) (g.pos:Int) (g.len:Int) g.seen)
theorem indexG1 {w:World}{a:Option Addr}{cap:Nat}{l:List G}{p:G->Bool}{m:FuncId}{c1:Value}(u:GlAt w l a)(P:l.length<=1000)(I:∀(args:Array Value) (w:World),(callFunc m args).run Tryz.prog w=.ok (.enter m args) w)
  (hd:∀W (x:G),x∈l->Below w.heap.size w W->Calls Tryz.prog m #[gval x,c1] W fun e w'=>e=.returned (.bool (p x))/\Below W.heap.size W w') :
  Calls Tryz.prog 50 #[.slice a l.length cap,.func (.func m) #[] #[c1]] w fun e w'=>(∃k:Int,e=.returned (.int .i64 k)/\(decide (0<=k)=l.any p))/\Below w.heap.size w w':=by
 have K:(l.length:Int)<=1000:=by omega
 have A:=zh u
 have C:=zh hd
 clear u hd
 go_enter Tryz.func50,Tryz.ntmps50
 go_wp2_with fail
 go_loopg [8] l.length (fun k F wr=>∃i:Nat,i<=l.length/\k=l.length-i/\F=.int .i64 (i:Int)/\Hid ((l.take i).any p=false)/\Hid (Below w.heap.size w wr))
 case atStart=>exact⟨0,by omega,by omega,rfl,rfl,Below.refl _ _⟩
 case round =>
  obtain⟨i,J,O,rfl,o,f⟩:=hrel
  by_cases h:i<l.length
  ·have v:(i:Int)<(l.length:Int):=by omega
   obtain⟨g,rfl,B,r⟩:=A.out.c i h
   have b:∀j,j<4->wr.cell? ⟨g,i*4+j,none⟩=(gcells (bs l[i].name) (l[i].pos:Int) (l[i].len:Int) l[i].seen).toList[j]?:=fun j E=>(f.out.cell (p:=⟨g,i*4+j,none⟩) B).trans (r j E)
   have D:wr.cell? ⟨g,i*4,none⟩=some (.string (bs l[i].name)):=b 0 (by omega)
   have L:wr.cell? ⟨g,i*4+1,none⟩=some (.int .i64 (l[i].pos:Int)):=b 1 (by omega)
   have M:wr.cell? ⟨g,i*4+2,none⟩=some (.int .i64 (l[i].len:Int)):=b 2 (by omega)
   have N:wr.cell? ⟨g,i*4+3,none⟩=some (.bool l[i].seen):=b 3 (by omega)
   have H:g<wr.heap.size:=zg D
   have s:=zh (C.out wr l[i] (List.getElem_mem h) f.out)
   unfold gval gcells at s
   have z:Hid ((l.take (i+1)).any p=p l[i]):=by
    show _=_
    rw[List.take_succ_eq_append_getElem h,List.any_append,o.out];simp
   have y:Hid (p l[i]=true->l.any p=true):=fun e=>List.any_eq_true.2 ⟨_,List.getElem_mem h,e⟩
   clear b r
   generalize p l[i]=d at *
   generalize bs l[i].name=x at *
   generalize (l[i].pos:Int)=x1 at *
   generalize (l[i].len:Int)=x2 at *
   generalize l[i].seen=x3 at *
   clear o
   go_wp2_with fail
   refine s.out.mono ?_
   rintro e Q⟨rfl,t⟩
   have q:=zh (f.out.trans (t.mono f.out.size))
   clear t
   cases d with
   |true =>
    have n:=zh (y.out rfl)
    go_wp2_with fail
    go_ret
    refine⟨⟨_,rfl,?_⟩,q.out⟩
    rw[n.out]
    exact decide_eq_true (by omega)
   |false =>
    go_wp2_with fail
    go_roundg (l.length-(i+1))
    case measure=>omega
    case rel=>exact⟨i+1,by omega,rfl,by go_num,z,q⟩
  ·have v:¬(i:Int)<(l.length:Int):=by omega
   have n:Hid (l.any p=false):=by
    have:=o.out
    rw[List.take_of_length_le (by omega)]at this
    exact this
   go_wp2_with fail
   go_ret
   refine⟨⟨_,rfl,?_⟩,f.out⟩
   rw[n.out]
   rfl
theorem containsG1 {w:World}{a:Option Addr}{cap:Nat}{l:List G}{p:G->Bool}{b:FuncId}{c1:Value}(d:GlAt w l a)(j:l.length<=1000)(c:∀(args:Array Value) (w:World),(callFunc b args).run Tryz.prog w=.ok (.enter b args) w)
  (hd:∀W (x:G),x∈l->Below w.heap.size w W->Calls Tryz.prog b #[gval x,c1] W fun e w'=>e=.returned (.bool (p x))/\Below W.heap.size W w') :
  Calls Tryz.prog 19 #[.slice a l.length cap,.func (.func b) #[] #[c1]] w fun e w'=>e=.returned (.bool (l.any p))/\Below w.heap.size w w':=by
 have g:=zh (indexG1 (cap:=cap) d j c hd)
 clear d hd c
 go_enter Tryz.func19,Tryz.ntmps19
 go_wp2_with fail
 refine g.out.mono ?_
 rintro e m⟨⟨k,rfl,f⟩,i⟩
 have h:=zh f
 clear f
 go_wp2_with fail
 go_ret
 exact⟨by rw[<-h.out];rfl,i⟩
theorem keep_cf (args:Array Value)(w:World):(callFunc 93 args).run Tryz.prog w=.ok (.enter 93 args) w:=by kernel_rfl
theorem keep1_post {w:World}{x:Nat}{g o:G}(i:w.heap[x]?=some (.cells (gcells (bs g.name) (g.pos:Int) (g.len:Int) g.seen) 61 (0,0))) :
  Calls Tryz.prog 93 #[gval o,.pointer (some ⟨x,0,none⟩)] w fun e w'=>e=.returned (.bool (decide (o.name=g.name)&&decide (o.len=g.len)))/\Below w.heap.size w w':=by
 obtain⟨w2,a⟩:∃w2,w2=w.alloc (.cells (gcells (bs o.name) (o.pos:Int) (o.len:Int) o.seen) 61):=⟨_,rfl⟩
 have f:Below w.heap.size w w2:=by rw[a];exact zb _ _
 have b:w2.heap[w.heap.size]?=some (.cells (gcells (bs o.name) (o.pos:Int) (o.len:Int) o.seen) 61 (0,0)):=by rw[a];exact zo _ _
 have c:=(f.block _ (zf i)).trans i
 unfold gval gcells at *
 have m:w2.cell? ⟨w.heap.size,0,none⟩=some (.string (bs o.name)):=(za b).trans rfl
 have n:w2.cell? ⟨w.heap.size,2,none⟩=some (.int .i64 (o.len:Int)):=(za b).trans rfl
 have r:w2.cell? ⟨x,0,none⟩=some (.string (bs g.name)):=(za c).trans rfl
 have b2:w2.cell? ⟨x,2,none⟩=some (.int .i64 (g.len:Int)):=(za c).trans rfl
 have s:=zf b
 have t:=zf c
 have d:=zh f
 clear b c f i
 by_cases h:o.name=g.name
 ·rw[h]at m a ⊢
  rw[decide_eq_true rfl,Bool.true_and]
  by_cases j:o.len=g.len
  ·rw[j]at n a ⊢
   rw[decide_eq_true rfl]
   generalize bs g.name=gn at *
   generalize (g.len:Int)=gl at *
   go_enter Tryz.func93,Tryz.ntmps93
   go_upto_region 1 with fail
   rw[<-a]
   clear a
   go_wp2_with fail
   go_ret
   exact⟨rfl,d.out⟩
  ·have l:¬(o.len:Int)=(g.len:Int):=by omega
   have k:Hid (((o.len:Int)==(g.len:Int))=false):=by show _=_;simpa using l
   rw[decide_eq_false j]
   generalize bs g.name=gn at *
   go_enter Tryz.func93,Tryz.ntmps93
   go_upto_region 1 with fail
   rw[<-a]
   clear a
   go_wp2_with fail
   go_ret
   exact⟨by show Ending.returned (Value.bool ((o.len:Int)==(g.len:Int)))=_;rw[k.out],d.out⟩
 ·have p:¬(bs o.name).toList=(bs g.name).toList:=fun q=>h (by rw[zj,zj]at q;exact q)
  rw[decide_eq_false h,Bool.false_and]
  go_enter Tryz.func93,Tryz.ntmps93
  go_upto_region 1 with fail
  rw[<-a]
  clear a
  go_wp2_with fail
  go_ret
  exact⟨rfl,d.out⟩
def keptG (old:Tp.M) (g:G):Bool:=old.vars.any fun h=>decide (h.name=g.name)&&decide (h.len=g.len)
def kslF (lo:Lo) (sl:Bs->Nat) (gs:List G) (k:Bs):Nat:=match gs.find? fun g=>g.name==k with
 |some g=>if keptG lo.m g then lo.sl k else sl k
 |none=>sl k
def keepF (lo:Lo) (m:Tp.M) (sl:Bs->Nat) (i:Nat) (k:Bs):Option Value:=(Tp.varOf m k).map fun g=>.slice (some ⟨kslF lo sl (m.vars.take i) k,0,none⟩) (vlen g) (vlen g)
theorem jx {a:List G}(h:(a.map (·.name)).Nodup){i:Nat}(c:i<a.length)(k:Bs):(a.take (i+1)).find? (fun g=>g.name==k)=if k=a[i].name then some a[i] else (a.take i).find? fun g=>g.name==k:=by
 rw[List.take_succ_eq_append_getElem c,List.find?_append]
 by_cases e:k=a[i].name
 ·rw[if_pos e]
  have:(a.take i).find? (fun g=>g.name==k)=none:=by
   rw[List.find?_eq_none]
   intro g b q
   have d:g.name=k:=by simpa using q
   obtain⟨j,f,rfl⟩:=List.getElem_of_mem b
   rw[List.length_take]at f
   rw[List.getElem_take]at d
   have:=(List.getElem_inj (h₀:=by simp;omega) (h₁:=by simpa using c) h (i:=j) (j:=i)).1 (by simpa using d.trans e)
   omega
  rw[this]
  simp[e]
 ·rw[if_neg e]
  have:([a[i]]:List G).find? (fun g=>g.name==k)=none:=by
   rw[List.find?_eq_none]
   intro g b q
   rw[List.mem_singleton]at b
   subst b
   exact e (by simpa using q:a[i].name=k).symm
  rw[this]
  simp
theorem keepF_succ {lo:Lo}{m:Tp.M}{sl:Bs->Nat}(b:(m.vars.map (·.name)).Nodup){i:Nat}(a:i<m.vars.length):keepF lo m sl (i+1)=if keptG lo.m m.vars[i] then updV (keepF lo m sl i) m.vars[i].name (.slice (some ⟨lo.sl m.vars[i].name,0,none⟩) (vlen m.vars[i]) (vlen m.vars[i])) else keepF lo m sl i:=by
 funext k
 have d:Tp.varOf m m.vars[i].name=some m.vars[i]:=Tp.varOf_mem b (List.getElem_mem a)
 by_cases e:k=m.vars[i].name
 ·subst e
  have h:(m.vars.take i).find? (fun g=>g.name==m.vars[i].name)=none:=by
   rw[List.find?_eq_none]
   intro g l q
   have f:g.name=m.vars[i].name:=by simpa using q
   obtain⟨j,n,rfl⟩:=List.getElem_of_mem l
   rw[List.length_take]at n
   rw[List.getElem_take]at f
   have:=(List.getElem_inj (h₀:=by simp;omega) (h₁:=by simpa using a) b (i:=j) (j:=i)).1 (by simpa using f)
   omega
  by_cases c:keptG lo.m m.vars[i]=true
  ·rw[if_pos c]
   unfold keepF updV kslF
   rw[if_pos rfl,d,jx b a,if_pos rfl]
   simp[c]
  ·rw[if_neg c]
   unfold keepF kslF
   rw[d,jx b a,if_pos rfl,h]
   simp[c]
 ·have:keepF lo m sl (i+1) k=keepF lo m sl i k:=by
   unfold keepF kslF
   rw[jx b a,if_neg e]
  rw[this]
  split
  ·unfold updV
   rw[if_neg e]
  ·rfl
theorem keepF_zero (lo:Lo)(m:Tp.M)(sl:Bs->Nat):keepF lo m sl 0=fun k=>(Tp.varOf m k).map fun g=>.slice (some ⟨sl k,0,none⟩) (vlen g) (vlen g):=by
 funext k
 unfold keepF kslF
 simp
theorem kept_look {lo:Lo}{g:G}(d:(lo.m.vars.map (·.name)).Nodup)(b:keptG lo.m g=true):loV lo g.name=some (.slice (some ⟨lo.sl g.name,0,none⟩) (vlen g) (vlen g)):=by
 unfold keptG at b
 obtain⟨h,c,a⟩:=List.any_eq_true.1 b
 simp only[Bool.and_eq_true,decide_eq_true_eq]at a
 have e:Tp.varOf lo.m h.name=some h:=Tp.varOf_mem d c
 unfold loV
 rw[<-a.1,e]
 have:vlen h=vlen g:=by unfold vlen;rw[a.2]
 simp[this]
def KeepP (w:World) (lb vb:Nat) (lo:Lo) (m:Tp.M) (sl:Bs->Nat) (e:Ending) (w':World):Prop:=e=.returned (.pointer (some ⟨lb,0,none⟩))/\Ext vb w w'/\∃n,MapV w' vb n (keepF lo m sl m.vars.length)
theorem vW {w:World}{l a n0:Nat}{m:Tp.M}{sl:Bs->Nat}{lo:Lo}{ia G pa ba g1 s g3 f1:Option Addr}{ic V pc bc g2 B g4 f2:Nat}(D:w.heap[l]?=some (.cells (lcells m ia G pa ba ic V pc bc a) 107 (0,0)))(b4:GlAt w m.vars G)(hm:MapV w a n0 (keepF lo m sl 0))(h7:n0<=1000)(h8:m.vars.length<=10)(c6:(m.vars.map (·.name)).Nodup)(b6:∀g∈m.vars,g.name.length<=1000000)
  (T:w.heap[lo.lb]?=some (.cells (lcells lo.m g1 s g3 f1 g2 B g4 f2 lo.vb) 107 (0,0)))(b8:GlAt w lo.m.vars s)(b9:∃n,MapV w lo.vb n (loV lo))(g8:lo.m.vars.length<=10)(a2:(lo.m.vars.map (·.name)).Nodup)(d1:l≠a)(d2:lo.lb≠a)(d3:lo.vb≠a)(b5:∀b,G=some b->b.block≠a)(c5:∀b,s=some b->b.block≠a) :
  Calls Tryz.prog 49 #[.pointer (some ⟨l,0,none⟩),.pointer (some ⟨lo.lb,0,none⟩)] w (KeepP w l a lo m sl):=by
 have f7:=zf D
 have f9:=zf T
 have k2:w.cell? ⟨l,2,none⟩=some (.slice G m.vars.length V):=(za D).trans rfl
 have d5:=zh D
 have e6:=zh T
 have d8:=zh b4
 have e5:=zh b8
 have HM:=zh hm
 have e7:=zh b9
 have f0:=zh c6
 have e8:=zh a2
 have e4:=zh b6
 have e0:=zh b5
 have e9:=zh c5
 have f3:(m.vars.length:Int)<=10:=by omega
 obtain⟨gn,N⟩:∃gn,gn=m.vars.length:=⟨_,rfl⟩
 obtain⟨I,c4⟩:∃I,I=lo.m.vars.length:=⟨_,rfl⟩
 rw[<-N]at k2 f3
 have a4:=zh N
 have a0:=zh c4
 clear D T b4 b8 hm b9 c6 a2 b6 b5 c5 N c4
 have h5:=zm
 go_enter Tryz.func49,Tryz.ntmps49
 go_wp2_with fail
 clear k2
 go_loopg [14] gn (fun k vi wr=>∃i:Nat,i<=gn/\k=gn-i/\vi=.int .i64 (i:Int)/\Hid (MapV wr a (n0+i) (keepF lo m sl i))/\Hid (Ext a w wr))
 case atStart=>exact⟨0,by omega,by omega,rfl,HM,Ext.refl _ _⟩
 case round =>
  obtain⟨i,h0,hk,rfl,z,r⟩:=hrel
  have g9:=r.out.size
  by_cases h4:i<gn
  ·have d0:(i:Int)<(gn:Int):=by omega
   have O:i<m.vars.length:=by have:=a4.out;omega
   obtain⟨f,f4,c8,b3⟩:=d8.out.c i O
   subst f4
   have c9:f≠a:=e0.out _ rfl
   have y:∀j,j<4->wr.cell? ⟨f,i*4+j,none⟩=(gcells (bs m.vars[i].name) (m.vars[i].pos:Int) (m.vars[i].len:Int) m.vars[i].seen).toList[j]?:=fun j Z=>by
    rw[World.cell?_of_block (w:=w) (r.out.block f c8 c9)]
    exact b3 j Z
   have c0:wr.cell? ⟨f,i*4,none⟩=some (.string (bs m.vars[i].name)):=y 0 (by omega)
   have c1:wr.cell? ⟨f,i*4+1,none⟩=some (.int .i64 (m.vars[i].pos:Int)):=y 1 (by omega)
   have c2:wr.cell? ⟨f,i*4+2,none⟩=some (.int .i64 (m.vars[i].len:Int)):=y 2 (by omega)
   have c3:wr.cell? ⟨f,i*4+3,none⟩=some (.bool m.vars[i].seen):=y 3 (by omega)
   have g5:f<wr.heap.size:=by omega
   obtain⟨W,H⟩:∃W,W=wr.alloc (.cells (gcells (bs m.vars[i].name) (m.vars[i].pos:Int) (m.vars[i].len:Int) m.vars[i].seen) 61):=⟨_,rfl⟩
   have C:Below wr.heap.size wr W:=by rw[H];exact zb _ _
   have E:W.heap[wr.heap.size]?=some (.cells (gcells (bs m.vars[i].name) (m.vars[i].pos:Int) (m.vars[i].len:Int) m.vars[i].seen) 61 (0,0)):=by rw[H];exact zo _ _
   have u:∀b,b<w.heap.size->b≠a->W.heap[b]?=w.heap[b]?:=fun b X Y=>(C.block b (by omega)).trans (r.out.block b X Y)
   have F:=(u _ f9 d2).trans e6.out
   have o2:W.cell? ⟨lo.lb,2,none⟩=some (.slice s I B):=by
    rw[a0.out]
    exact(za F).trans rfl
   have h3:lo.lb<W.heap.size:=zf F
   have a1:GlAt W lo.m.vars s:=⟨fun j Z=>by
    obtain⟨b,e1,U,e3⟩:=e5.out.c j Z
    have b1:b≠a:=e9.out _ e1
    exact⟨b,e1,zf (show W.heap[b]?=some (w.heap[b]) by rw[u b U b1];exact Array.getElem?_eq_getElem U),fun q hq=>(World.cell?_of_block (w:=w) (u b U b1)).trans (e3 q hq)⟩⟩
   have HC:Hid (Calls Tryz.prog 19 #[.slice s I B,.func (.func 93) #[] #[.pointer (some ⟨wr.heap.size,0,none⟩)]] W fun e w'=>e=.returned (.bool (keptG lo.m m.vars[i]))/\Below W.heap.size W w'):=by
    have:=containsG1 (cap:=B) (p:=fun h=>decide (h.name=m.vars[i].name)&&decide (h.len=m.vars[i].len)) (c1:=.pointer (some ⟨wr.heap.size,0,none⟩)) a1 (by omega) keep_cf (fun v x _ L=>keep1_post ((L.block _ (zf E)).trans E))
    rw[<-a0.out]at this
    exact this
   have b7:=e4.out _ (List.getElem_mem O)
   have a5:=zh (keepF_succ (lo:=lo) (sl:=sl) f0.out O)
   have d7:Hid (Ext a w W):=r.out.trans (Ext.below C)
   have a9:Hid (MapV W a (n0+i) (keepF lo m sl i)):=z.out.on (C.block _ z.out.lt)
   have a6:=zh E
   have d9:Hid (keptG lo.m m.vars[i]=true->loV lo m.vars[i].name=some (.slice (some ⟨lo.sl m.vars[i].name,0,none⟩) (vlen m.vars[i]) (vlen m.vars[i]))):=fun e=>kept_look e8.out e
   have a7:Hid (W.heap[l]?=some (.cells (lcells m ia (some ⟨f,0,none⟩) pa ba ic V pc bc a) 107 (0,0))):=(u _ f7 d1).trans d5.out
   have b0:=zh F
   have c7:Hid (∃n,MapV W lo.vb n (loV lo)):=by
    obtain⟨n,q⟩:=e7.out
    exact⟨n,q.on (u _ q.lt d3)⟩
   clear y b3 C E u F a1 z r
   unfold gcells at *
   generalize f6:keptG lo.m m.vars[i]=kp at *
   clear f6
   generalize f8:vlen m.vars[i]=vg at *
   generalize d4:m.vars[i].name=nm at *
   generalize (m.vars[i].pos:Int)=ps at *
   generalize (m.vars[i].len:Int)=ln at *
   generalize m.vars[i].seen=sn at *
   clear f8 d4
   go_upto_region 4 with fail
   rw[<-H]
   clear H c0 c1 c2 c3
   go_wp2_with fail
   refine HC.out.mono ?_
   rintro e d⟨rfl,o⟩
   have a3:Hid (Ext a w d):=d7.out.trans (Ext.below o)
   have a8:Hid (MapV d a (n0+i) (keepF lo m sl i)):=a9.out.on (o.block _ a9.out.lt)
   cases kp with
   |false =>
    have J:Hid (MapV d a (n0+(i+1)) (keepF lo m sl (i+1))):=by
     have e:=a5.out
     rw[if_neg (by simp)]at e
     show MapV _ _ _ _
     rw[e]
     exact a8.out.mono (by omega)
    clear o o2
    go_wp2_with fail
    go_roundg (gn-(i+1))
    case measure=>omega
    case rel=>exact⟨i+1,by omega,rfl,by go_num,J,a3⟩
   |true =>
    have Q:=(o.block _ (zf a7.out)).trans a7.out
    have S:=(o.block _ (zf b0.out)).trans b0.out
    have P:=(o.block _ (zf a6.out)).trans a6.out
    have f5:d.cell? ⟨l,5,none⟩=some (.map (some a)):=(za Q).trans rfl
    have p5:d.cell? ⟨lo.lb,5,none⟩=some (.map (some lo.vb)):=(za S).trans rfl
    have g0:d.cell? ⟨wr.heap.size,0,none⟩=some (.string (bs nm)):=(za P).trans rfl
    have l1:=zf Q
    have l2:=zf S
    have l3:=zf P
    obtain⟨nn,K⟩:=c7.out
    have R:∀v,v.heap=d.heap->(Instr.lookup 105 (.map (some lo.vb)) (.string (bs nm)) false).run Tryz.prog v=.ok (.slice (some ⟨lo.sl nm,0,none⟩) vg vg) v:=fun v L=>by
     have:=(K.on (w':=v) (by rw[L];exact o.block _ K.lt)).look (t:=105) Tryz.underlying105 (zeroI64s _) nm b7 false
     rw[this,d9.out rfl]
     rfl
    have g6:=R d rfl
    have g7:=R d.drew rfl
    obtain⟨w6,h6,q1,A,q3⟩:=(a8.out.on (w':=d.drew) rfl).store (t:=105) Tryz.underlying105 (by omega) nm b7 (.slice (some ⟨lo.sl nm,0,none⟩) vg vg)
    have J:Hid (MapV w6 a (n0+(i+1)) (keepF lo m sl (i+1))):=by
     have e:=a5.out
     rw[if_pos rfl]at e
     show MapV _ _ _ _
     rw[e]
     exact q1
    have d6:Hid (Ext a w w6):=a3.out.trans ⟨A.os,A.tape,A.output,by have:w6.heap.size=d.heap.size:=q3;omega,fun b X Y=>A.block b X Y⟩
    clear o o2 Q S P K R q1 A q3
    go_upto_region 6 with fail
    go_region
    go_wp2_with fail
    go_roundg (gn-(i+1))
    case measure=>omega
    case rel=>exact⟨i+1,by omega,rfl,by go_num,J,d6⟩
  ·have d0:¬(i:Int)<(gn:Int):=by omega
   have b2:i=m.vars.length:=by have:=a4.out;omega
   have HF:Hid (KeepP w l a lo m sl (.returned (.pointer (some ⟨l,0,none⟩))) wr):=by
    refine⟨rfl,r.out,n0+i,?_⟩
    rw[<-b2]
    exact z.out
   clear b2 z r
   go_wp2_with fail
   go_ret
   exact HF.out
end Go.Proofs.YtibncofnnlbmcaaGreatDoor
