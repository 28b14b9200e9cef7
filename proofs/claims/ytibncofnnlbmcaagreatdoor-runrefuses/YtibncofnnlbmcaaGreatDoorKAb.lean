import Derived.Test.YtibncofnnlbmcaaGreatDoorKAa
import Derived.Test.YtibncofnnlbmcaaGreatDoorKMg
import Derived.Test.YtibncofnnlbmcaaGreatDoorKUb
import Derived.Test.YtibncofnnlbmcaaGreatDoorKPd
set_option maxRecDepth 100000
set_option maxHeartbeats 4000000
namespace Go.Proofs.YtibncofnnlbmcaaGreatDoor
open Go.RowKit Go.Maps
open Tp (Bs X S G Pr Pt Rs Rr Own)
theorem Row.strs {w:World}{D:Nat->Prop}{a:Option Addr}{c:Nat}{l:List Bs}(h:Row w D 9 1 (.slice a l.length c) l.length (strs l)):StrsAt w l a:=by
 refine⟨fun i hi=>?_⟩
 obtain⟨a',c',e,q⟩:=h.str
 injection e with e _ _
 subst e
 obtain⟨b,e2,_,e3⟩:=q i hi
 exact⟨b,0,e2,zg e3,by rw[Nat.zero_add];exact e3⟩
theorem leads_iff {P:List Pt}{a b:Bs}{p:Pt}(hp:Tp.partOf P a=some p):Tp.Leads P a b↔a=b\/∃ c∈p.m.imports,Tp.Leads P c b:=by
 constructor
 ·intro h
  cases h with
  | refl=>exact Or.inl rfl
  | step hq hc hl =>
   rw[hp]at hq
   cases hq
   exact Or.inr ⟨_,hc,hl⟩
 ·rintro(rfl|⟨c,hc,hl⟩)
  ·exact .refl _
  ·exact .step hp hc hl
theorem WI.imp {P:List Pt}(h:Tp.WI ofS P) {p:Pt}{a c:Bs}(hp:Tp.partOf P a=some p) (hc:c∈p.m.imports):(Tp.partOf P c).isSome=true:=by
 have hm:p.m∈Tp.ms P:=List.mem_map.2 ⟨p,(Tp.part_name hp).1,rfl⟩
 have:=((Tp.check_none.1 (h.ck p.m hm)).1.1 c hc).2
 unfold Tp.seenW at this
 cases hq:Tp.partOf P c with
 | none=>rw[hq]at this;exact absurd rfl this
 | some q=>rfl
theorem leads_cf (args:Array Value) (w:World):(callFunc 90 args).run Tryz.prog w=.ok (.enter 90 args) w:=by kernel_rfl
open Classical in
theorem uL {w:World}{wb x1 x2:Nat}{n dst:Bs}{r:Bool}(k1:w.cell? ⟨x1,0,none⟩=some (.pointer (some ⟨wb,0,none⟩))) (k2:w.cell? ⟨x2,0,none⟩=some (.string (bs dst)))
  (hc:Calls Tryz.prog 46 #[.pointer (some ⟨wb,0,none⟩),.string (bs n),.string (bs dst)] w fun e w'=>e=.returned (.bool r)/\Below w.heap.size w w') :
  Calls Tryz.prog 90 #[.string (bs n),.pointer (some ⟨x1,0,none⟩),.pointer (some ⟨x2,0,none⟩)] w fun e w'=>e=.returned (.bool r)/\Below w.heap.size w w':=by
 have HC:=zh hc
 have hl1:=zg k1
 have hl2:=zg k2
 clear hc
 go_enter Tryz.func90,Tryz.ntmps90
 go_wp2_with fail
 refine HC.out.mono ?_
 rintro e w1 ⟨rfl,hb⟩
 have HB:=zh hb
 clear hb
 go_wp2_with fail
 go_ret
 exact⟨rfl,HB.out⟩
open Classical in
theorem leads_step {X:Nat->Prop}{w:World}{wb:Nat}{L:List Lo}{P:List Pt}{nv:Value}{tv:Option Nat}(h:WX X w wb L P nv tv) {a dst:Bs}{lo:Lo}(hlo:lo∈L) (hln:lo.m.name=a) (hal:a.length<=1000000) (htl:dst.length<=1000000)
  (ih:∀ c∈lo.m.imports,∀ W,Below w.heap.size w W->Calls Tryz.prog 46 #[.pointer (some ⟨wb,0,none⟩),.string (bs c),.string (bs dst)] W fun e w'=>e=.returned (.bool (decide (Tp.Leads P c dst)))/\Below W.heap.size W w') :
  Calls Tryz.prog 46 #[.pointer (some ⟨wb,0,none⟩),.string (bs a),.string (bs dst)] w fun e w'=>e=.returned (.bool (decide (a=dst) || lo.m.imports.any fun c=>decide (Tp.Leads P c dst)))/\Below w.heap.size w w':=by
 obtain⟨w2,hw2⟩:∃ w2,w2=(w.alloc (.cells #[.pointer (some ⟨wb,0,none⟩)] 47)).alloc (.cells #[.string (bs dst)] 9):=⟨_,rfl⟩
 have hb2:Below w.heap.size w w2:=by rw[hw2];exact(zb _ _).alloc (by simp) _
 have q0:w2.heap[w.heap.size]?=some (.cells #[.pointer (some ⟨wb,0,none⟩)] 47 (0,0)):=by rw[hw2];exact(Below.heap_alloc _ _ _ (by simp)).trans (zo _ _)
 have q1:w2.heap[w.heap.size+1]?=some (.cells #[.string (bs dst)] 9 (0,0)):=by rw[hw2];exact yj _ _ _
 have hwl:=zf h.blk
 have k0:w2.cell? ⟨w.heap.size,0,none⟩=some (.pointer (some ⟨wb,0,none⟩)):=(za q0).trans rfl
 have k1:w2.cell? ⟨w.heap.size+1,0,none⟩=some (.string (bs dst)):=(za q1).trans rfl
 have kt:w2.cell? ⟨wb,1,none⟩=some (.map tv):=(za ((hb2.block _ hwl).trans h.blk)).trans rfl
 have hlk:=(h.on hb2).look a hal
 have hpt:ptrV L a=some ⟨lo.lb,0,none⟩:=by
  unfold ptrV
  rw[(Tp.find_key (key:=fun lo:Lo=>lo.m.name) h.nd lo).2 ⟨hlo,hln⟩]
  rfl
 rw[hpt]at hlk
 obtain⟨tb,htv,hww⟩:=(h.on hb2).ww hlo
 obtain⟨⟨ia,ga,pa,ba,ic,gc,pc,bc,m1,m2⟩,_,_,_,hfit⟩:=hww.lo lo hlo
 have hls:=Row.strs m2.im
 have hil:=hfit.wm.ic
 have ki:w2.cell? ⟨lo.lb,1,none⟩=some (.slice ia lo.m.imports.length ic):=(za m1).trans rfl
 have hll:=zf m1
 have HCF:Hid (Calls Tryz.prog 44 #[.slice ia lo.m.imports.length ic,.func (.func 90) #[] #[.pointer (some ⟨w.heap.size,0,none⟩),.pointer (some ⟨w.heap.size+1,0,none⟩)]] w2 fun e w'=>e=.returned (.bool (lo.m.imports.any fun c=>decide (Tp.Leads P c dst)))/\Below w2.heap.size w2 w'):=by
  refine containsT2 hls (by omega) leads_cf (fun W c hc hW=>?_)
  exact uL ((hW.cell (p:=⟨w.heap.size,0,none⟩) (zf q0)).trans k0) ((hW.cell (p:=⟨w.heap.size+1,0,none⟩) (zf q1)).trans k1) (ih c hc W (hb2.trans (hW.mono hb2.size)))
 have hl0:=zf q0
 have hl1:=zf q1
 have hwl2:wb<w2.heap.size:=by have:=hb2.size;omega
 have hmf:=zm
 have HB2:=zh hb2
 generalize (lo.m.imports.any fun c=>decide (Tp.Leads P c dst))=r at *
 generalize lo.m.imports.length=il at *
 clear htv ih h hww m1 m2 hfit hls q0 q1 hb2 hlo hln hpt
 by_cases e:a=dst
 ·subst e
  rw[decide_eq_true rfl,Bool.true_or]
  go_enter Tryz.func46,Tryz.ntmps46
  go_upto_region 1 with fail
  rw[<-hw2]
  clear hw2
  go_wp2_with fail
  go_ret
  exact⟨rfl,HB2.out⟩
 ·have hne:¬(bs a).toList=(bs dst).toList:=fun q=>e (by rw[zj,zj]at q;exact q)
  rw[decide_eq_false e,Bool.false_or]
  have HBE:Hid (((bs a).toList == (bs dst).toList)=false):=by show _=_;simpa using hne
  go_enter Tryz.func46,Tryz.ntmps46
  go_upto_region 1 with fail
  rw[<-hw2]
  clear hw2
  go_wp2_with fail
  refine HCF.out.mono ?_
  rintro e w3 ⟨rfl,hb3⟩
  have HB3:Hid (Below w.heap.size w w3):=HB2.out.trans (hb3.mono HB2.out.size)
  clear hb3
  go_wp2_with fail
  go_ret
  exact⟨by show Ending.returned (Value.bool ((bs a).toList == (bs dst).toList || r))=_;rw[HBE.out,Bool.false_or],HB3.out⟩
open Classical in
theorem leads_post {X:Nat->Prop}{wb:Nat}{L:List Lo}{P:List Pt}{nv:Value}{tv:Option Nat}(hWI:Tp.WI ofS P) (hL:∀ lo∈L,lo.m.name.length<=1000000) {dst:Bs}(htl:dst.length<=1000000):∀(n:Nat) (S:List Bs),S.length<=n->∀(a:Bs),(∀ x,Tp.Leads P a x->(Tp.partOf P x).isSome=true->x∈S)->(Tp.partOf P a).isSome=true->∀(w:World),WX X w wb L P nv tv ->
  Calls Tryz.prog 46 #[.pointer (some ⟨wb,0,none⟩),.string (bs a),.string (bs dst)] w fun e w'=>e=.returned (.bool (decide (Tp.Leads P a dst)))/\Below w.heap.size w w':=by
 intro n
 induction n with
 | zero =>
  intro S hS a hr ha
  have:=hr a (.refl a) ha
  rw[List.length_eq_zero_iff.1 (Nat.le_zero.1 hS)]at this
  cases this
 | succ n ih =>
  intro S hS a hr ha w hw
  have haS:=hr a (.refl a) ha
  rcases jl hw a with⟨hp1,_⟩|⟨p,lo,hlo,hp1,hpm,hlm,_⟩
  ·rw[hp1]at ha;cases ha
  ·have hmem:p.m∈Tp.ms P:=List.mem_map.2 ⟨p,(Tp.part_name hp1).1,rfl⟩
   have hpn:=(Tp.part_name hp1).2
   have key:=leads_step hw hlo hlm (by rw[<-hlm];exact hL lo hlo) htl (fun c hc W hW=>?_)
   ·refine key.mono ?_
    rintro e w' ⟨he,hb⟩
    refine⟨?_,hb⟩
    rw[he]
    congr 2
    rw[Bool.eq_iff_iff,Bool.or_eq_true,decide_eq_true_iff,decide_eq_true_iff,List.any_eq_true,leads_iff hp1,hpm]
    simp
   ·rw[<-hpm]at hc
    refine ih (S.filter fun x=>!(x == a)) ?_ c (fun x hx hxs=>?_) (WI.imp hWI hp1 hc) W (hw.on hW)
    ·have h1:(S.filter fun x=>!(x == a)).length<S.length:=by
      rw[List.length_filter_lt_length_iff_exists]
      exact⟨a,haS,by simp⟩
     omega
    ·rw[List.mem_filter]
     refine⟨hr x (.step hp1 hc hx) hxs,?_⟩
     have:x≠a:=fun e=>by
      subst e
      have:=hWI.ac p.m hmem c hc
      rw[hpn]at this
      exact this hx
     simpa using this
end Go.Proofs.YtibncofnnlbmcaaGreatDoor
namespace Go.Proofs.YtibncofnnlbmcaaGreatDoor
open Go.RowKit Go.Maps
open Tp (Bs X S G Pr Pt Rs Rr Own Sy)
theorem okn_10 {n:Bs}(h:Tp.okn n):n.length<=10:=h.2.2
theorem jr {m:Tp.M}(hm:Tp.WM m):AllSmall (ofS m):=by
 intro s hs
 have:=jx m s hs
 unfold Tp.symsOf at this
 rw[List.mem_append,List.mem_map,List.mem_map]at this
 rcases this with⟨g,hg,rfl⟩|⟨p,hp,rfl⟩
 ·have hw:=hm.g g (List.mem_filter.1 hg).1
  have:=okn_10 hw.n
  have:=hw.l
  simp only [Tp.syG]
  refine⟨by omega,by decide,by decide,by omega⟩
 ·have hw:=hm.p p (List.mem_filter.1 hp).1
  have h1:=okn_10 hw.n
  have h2:=hw.c
  simp only [Tp.syP]
  refine⟨by omega,by omega,by omega,by omega⟩
theorem SL.zero {w:World}{B:Nat}{v:Value}{l:List Sy}(h:SL w B v l):SL w 0 v l:=by
 rcases h with q|⟨g,cap,a,_,b⟩
 ·exact Or.inl q
 ·exact Or.inr ⟨g,cap,a,Nat.zero_le _,b⟩
theorem jy {X:Nat->Prop}{w:World}{wb:Nat}{L:List Lo}{P:List Pt}{nv:Value}{tv:Option Nat}(h:WX X w wb L P nv tv) {a:Bs}{lo:Lo}(hlo:lo∈L) (hln:lo.m.name=a) (hal:a.length<=1000000) (hnM:Tp.nM lo.m<=1000) {mw mc:Tp.M}{ia ga pa ba ia' ga' pa' ba':Option Addr}{ic gc pc bc ic' gc' pc' bc':Nat}(hmw:MB w w.heap.size mw ia ga pa ba ic gc pc bc) (hmc:MB w w.heap.size mc ia' ga' pa' ba' ic' gc' pc' bc') (hww:Tp.WM mw) (hwc:Tp.WM mc) :
  Calls Tryz.prog 48 #[.pointer (some ⟨wb,0,none⟩),.string (bs a),.agg (mcells (bs mw.name) (.slice ia mw.imports.length ic) (.slice ga mw.vars.length gc) (.slice pa mw.procs.length pc) (.slice ba mw.body.length bc)),.agg (mcells (bs mc.name) (.slice ia' mc.imports.length ic') (.slice ga' mc.vars.length gc') (.slice pa' mc.procs.length pc') (.slice ba' mc.body.length bc'))] w fun e w'=>e=.returned (.bool ((Tp.usedR lo.m mw.name).any fun n=>Tp.needS (ofS mc) n != Tp.needS (ofS mw) n))/\Below w.heap.size w w':=by
 obtain⟨w2,hw2⟩:∃ w2,w2=(w.alloc (.cells (mcells (bs mw.name) (.slice ia mw.imports.length ic) (.slice ga mw.vars.length gc) (.slice pa mw.procs.length pc) (.slice ba mw.body.length bc)) 36)).alloc (.cells (mcells (bs mc.name) (.slice ia' mc.imports.length ic') (.slice ga' mc.vars.length gc') (.slice pa' mc.procs.length pc') (.slice ba' mc.body.length bc')) 36):=⟨_,rfl⟩
 have hb2:Below w.heap.size w w2:=by rw[hw2];exact(zb _ _).alloc (by simp) _
 have q0:w2.heap[w.heap.size]?=some (.cells (mcells (bs mw.name) (.slice ia mw.imports.length ic) (.slice ga mw.vars.length gc) (.slice pa mw.procs.length pc) (.slice ba mw.body.length bc)) 36 (0,0)):=by rw[hw2];exact(Below.heap_alloc _ _ _ (by simp)).trans (zo _ _)
 have q1:w2.heap[w.heap.size+1]?=some (.cells (mcells (bs mc.name) (.slice ia' mc.imports.length ic') (.slice ga' mc.vars.length gc') (.slice pa' mc.procs.length pc') (.slice ba' mc.body.length bc')) 36 (0,0)):=by rw[hw2];exact yj _ _ _
 have hwl:=zf h.blk
 have kt:w2.cell? ⟨wb,1,none⟩=some (.map tv):=(za ((hb2.block _ hwl).trans h.blk)).trans rfl
 have hpt:ptrV L a=some ⟨lo.lb,0,none⟩:=by
  unfold ptrV
  rw[(Tp.find_key (key:=fun lo:Lo=>lo.m.name) h.nd lo).2 ⟨hlo,hln⟩]
  rfl
 have hlk:∀ W,Below w2.heap.size w2 W->(Instr.lookup 26 (.map tv) (.string (bs a)) false).run Tryz.prog W=.ok (.pointer (some ⟨lo.lb,0,none⟩)) W:=fun W hW=>by
  have:=((h.on hb2).on hW).look a hal
  rw[hpt]at this
  exact this
 obtain⟨tb,htv,hwwx⟩:=(h.on hb2).ww hlo
 obtain⟨⟨iz,gz,pz,bz,icz,gcz,pcz,bcz,m1,m2⟩,_,_,_,hfit⟩:=hwwx.lo lo hlo
 have hwmz:=hfit.wm
 have HUS:Hid (∀ W,Below w2.heap.size w2 W->Calls Tryz.prog 91 #[.agg #[.string (bs lo.m.name),.slice iz lo.m.imports.length icz,.slice gz lo.m.vars.length gcz,.slice pz lo.m.procs.length pcz,.slice bz lo.m.body.length bcz],.string (bs mw.name)] W fun e w'=>∃(a:Option Addr) (c:Nat) (l:List Bs),e=.returned (.slice a l.length c)/\(l.length<=1000/\(∀ x,x∈l↔x∈Tp.usedR lo.m mw.name)/\StrsAt w' l a/\Below w2.heap.size w2 w')):=fun W hW=>by
  have hct:=Tp.allR_count hwmz
  refine(used_postS (by have:=hwmz.pc;omega) (by omega) ((m2.mb (fun b _ hl=>hl)).up hW) mw.name).mono ?_
  rintro e w' ⟨a,c,l,h1,h2,h3,h4,h5⟩
  exact⟨a,c,l,h1,by omega,h3,h4,hW.trans (h5.mono hW.size)⟩
 have HOF1:Hid (∀ W,Below w2.heap.size w2 W->Calls Tryz.prog 84 #[.agg (mcells (bs mc.name) (.slice ia' mc.imports.length ic') (.slice ga' mc.vars.length gc') (.slice pa' mc.procs.length pc') (.slice ba' mc.body.length bc'))] W fun e w'=>∃ v,e=.returned v/\Below W.heap.size W w'/\SL w' 0 v (ofS mc)):=fun W hW=>by
  refine(uD hwc.gc hwc.pc ((hmc.up hb2).up hW)).mono ?_
  rintro e w' ⟨v,h1,h2,h3⟩
  exact⟨v,h1,h2,h3.zero⟩
 have HOF2:Hid (∀ W,Below w2.heap.size w2 W->Calls Tryz.prog 84 #[.agg (mcells (bs mw.name) (.slice ia mw.imports.length ic) (.slice ga mw.vars.length gc) (.slice pa mw.procs.length pc) (.slice ba mw.body.length bc))] W fun e w'=>∃ v,e=.returned v/\Below W.heap.size W w'/\SL w' 0 v (ofS mw)):=fun W hW=>by
  refine(uD hww.gc hww.pc ((hmw.up hb2).up hW)).mono ?_
  rintro e w' ⟨v,h1,h2,h3⟩
  exact⟨v,h1,h2,h3.zero⟩
 have HSC:=zh (And.intro (jr hwc) (js hwc))
 have HSW:=zh (And.intro (jr hww) (js hww))
 have HANY:Hid (∀ l:List Bs,(∀ x,x∈l↔x∈Tp.usedR lo.m mw.name)->(Tp.needsS (ofS mc) l=Tp.needsS (ofS mw) l↔((Tp.usedR lo.m mw.name).any fun n=>Tp.needS (ofS mc) n != Tp.needS (ofS mw) n)=false)/\∀ n∈l,n.length<=100):=fun l hl=>⟨Tp.needs_any hwmz hl,fun n hn=>by have:=okn_10 (Tp.used_okn hwmz ((hl n).1 hn));omega⟩
 unfold mcells at *
 have HQ0:=zh q0
 have HQ1:=zh q1
 have c0:∀ j,w2.cell? ⟨w.heap.size,j,none⟩=(#[.string (bs mw.name),.slice ia mw.imports.length ic,.slice ga mw.vars.length gc,.slice pa mw.procs.length pc,.slice ba mw.body.length bc]:Array Value)[j]?:=fun j=>za q0
 have d0:w2.cell? ⟨w.heap.size,0,none⟩=some (.string (bs mw.name)):=c0 0
 unfold lcells at m1
 have e0:w2.cell? ⟨lo.lb,0,none⟩=some (.string (bs lo.m.name)):=(za m1).trans rfl
 have e1:w2.cell? ⟨lo.lb,1,none⟩=some (.slice iz lo.m.imports.length icz):=(za m1).trans rfl
 have e2:w2.cell? ⟨lo.lb,2,none⟩=some (.slice gz lo.m.vars.length gcz):=(za m1).trans rfl
 have e3:w2.cell? ⟨lo.lb,3,none⟩=some (.slice pz lo.m.procs.length pcz):=(za m1).trans rfl
 have e4:w2.cell? ⟨lo.lb,4,none⟩=some (.slice bz lo.m.body.length bcz):=(za m1).trans rfl
 have hll:=zf m1
 have hl0:=zf q0
 have hl1:=zf q1
 have hwl2:wb<w2.heap.size:=by have:=hb2.size;omega
 have HB2:=zh hb2
 have hlk1:=hlk w2.drew ((Below.refl _ _).drew)
 have HUS1:=zh (HUS.out w2.drew ((Below.refl _ _).drew))
 generalize ((Tp.usedR lo.m mw.name).any fun n=>Tp.needS (ofS mc) n != Tp.needS (ofS mw) n)=r at *
 clear htv h hww hwc hmw hmc hwwx m1 m2 hfit hwmz q0 q1 hb2 hlo hln hpt c0 hlk HUS
 generalize Tp.usedR lo.m mw.name=uu at *
 generalize lo.m.name=lnm at *
 generalize lo.m.imports.length=z1 at *
 generalize lo.m.vars.length=z2 at *
 generalize lo.m.procs.length=z3 at *
 generalize lo.m.body.length=z4 at *
 have HS0:Hid (w2.drew.cell? ⟨w.heap.size,0,none⟩=some (.string (bs mw.name))/\w2.drew.cell? ⟨wb,1,none⟩=some (.map tv)/\w2.drew.cell? ⟨lo.lb,0,none⟩=some (.string (bs lnm))/\w2.drew.cell? ⟨lo.lb,1,none⟩=some (.slice iz z1 icz)/\w2.drew.cell? ⟨lo.lb,2,none⟩=some (.slice gz z2 gcz)/\w2.drew.cell? ⟨lo.lb,3,none⟩=some (.slice pz z3 pcz)/\w2.drew.cell? ⟨lo.lb,4,none⟩=some (.slice bz z4 bcz)):=⟨d0,kt,e0,e1,e2,e3,e4⟩
 have HSx:Hid (∀ V,Below w2.heap.size w2 V->V.cell? ⟨w.heap.size,0,none⟩=some (.string (bs mw.name))/\V.cell? ⟨wb,1,none⟩=some (.map tv)/\V.cell? ⟨lo.lb,0,none⟩=some (.string (bs lnm))/\V.cell? ⟨lo.lb,1,none⟩=some (.slice iz z1 icz)/\V.cell? ⟨lo.lb,2,none⟩=some (.slice gz z2 gcz)/\V.cell? ⟨lo.lb,3,none⟩=some (.slice pz z3 pcz)/\V.cell? ⟨lo.lb,4,none⟩=some (.slice bz z4 bcz)):=fun V hV=>⟨(hV.cell (p:=⟨w.heap.size,0,none⟩) hl0).trans d0,(hV.cell (p:=⟨wb,1,none⟩) hwl2).trans kt,(hV.cell (p:=⟨lo.lb,0,none⟩) hll).trans e0,(hV.cell (p:=⟨lo.lb,1,none⟩) hll).trans e1,(hV.cell (p:=⟨lo.lb,2,none⟩) hll).trans e2,(hV.cell (p:=⟨lo.lb,3,none⟩) hll).trans e3,(hV.cell (p:=⟨lo.lb,4,none⟩) hll).trans e4⟩
 go_enter Tryz.func48,Tryz.ntmps48
 go_upto_region 1 with fail
 rw[<-hw2]
 clear hw2
 go_region_held3 (fun w'=>w'.cell? ⟨w.heap.size,0,none⟩=some (.string (bs mw.name))/\w'.cell? ⟨wb,1,none⟩=some (.map tv)/\w'.cell? ⟨lo.lb,0,none⟩=some (.string (bs lnm))/\w'.cell? ⟨lo.lb,1,none⟩=some (.slice iz z1 icz)/\w'.cell? ⟨lo.lb,2,none⟩=some (.slice gz z2 gcz)/\w'.cell? ⟨lo.lb,3,none⟩=some (.slice pz z3 pcz)/\w'.cell? ⟨lo.lb,4,none⟩=some (.slice bz z4 bcz)) (with_reducible (first|exact HS3.out|exact HS0.out)) (first|(go_at_call 91;refine HUS1.out.mono ?_;rintro e w3 ⟨ua,uc,ul,rfl,hu⟩;have HU:=zh hu;have HS3:=zh (HSx.out w3 hu.2.2.2);clear hu))
 have HBX:Hid (∀ V,Below w2.heap.size w2 V->V.cell? ⟨w.heap.size,0,none⟩=some (.string (bs mw.name))/\V.cell? ⟨w.heap.size,1,none⟩=some (.slice ia mw.imports.length ic)/\V.cell? ⟨w.heap.size,2,none⟩=some (.slice ga mw.vars.length gc)/\V.cell? ⟨w.heap.size,3,none⟩=some (.slice pa mw.procs.length pc)/\V.cell? ⟨w.heap.size,4,none⟩=some (.slice ba mw.body.length bc)/\V.cell? ⟨w.heap.size+1,0,none⟩=some (.string (bs mc.name))/\V.cell? ⟨w.heap.size+1,1,none⟩=some (.slice ia' mc.imports.length ic')/\V.cell? ⟨w.heap.size+1,2,none⟩=some (.slice ga' mc.vars.length gc')/\V.cell? ⟨w.heap.size+1,3,none⟩=some (.slice pa' mc.procs.length pc')/\V.cell? ⟨w.heap.size+1,4,none⟩=some (.slice ba' mc.body.length bc')):=fun V hV=>by
  obtain⟨a0,a1,a2,a3,a4⟩:=ym ((hV.block _ hl0).trans HQ0.out)
  obtain⟨b0,b1,b2,b3,b4⟩:=ym ((hV.block _ hl1).trans HQ1.out)
  exact⟨a0,a1,a2,a3,a4,b0,b1,b2,b3,b4⟩
 obtain⟨hul,hum,hus,hub⟩:=HU.out
 obtain⟨hany,hunl⟩:=HANY.out ul hum
 have HD3:Hid (Below w2.heap.size w2 w3.drew):=hub.drew
 have HT0:Hid (w3.drew.cell? ⟨w.heap.size,0,none⟩=some (.string (bs mw.name))/\w3.drew.cell? ⟨w.heap.size,1,none⟩=some (.slice ia mw.imports.length ic)/\w3.drew.cell? ⟨w.heap.size,2,none⟩=some (.slice ga mw.vars.length gc)/\w3.drew.cell? ⟨w.heap.size,3,none⟩=some (.slice pa mw.procs.length pc)/\w3.drew.cell? ⟨w.heap.size,4,none⟩=some (.slice ba mw.body.length bc)/\w3.drew.cell? ⟨w.heap.size+1,0,none⟩=some (.string (bs mc.name))/\w3.drew.cell? ⟨w.heap.size+1,1,none⟩=some (.slice ia' mc.imports.length ic')/\w3.drew.cell? ⟨w.heap.size+1,2,none⟩=some (.slice ga' mc.vars.length gc')/\w3.drew.cell? ⟨w.heap.size+1,3,none⟩=some (.slice pa' mc.procs.length pc')/\w3.drew.cell? ⟨w.heap.size+1,4,none⟩=some (.slice ba' mc.body.length bc')):=HBX.out _ HD3.out
 have HO1:Hid (Calls Tryz.prog 84 #[.agg #[.string (bs mc.name),.slice ia' mc.imports.length ic',.slice ga' mc.vars.length gc',.slice pa' mc.procs.length pc',.slice ba' mc.body.length bc']] w3.drew fun e w4=>∃ v,e=.returned v/\(Below w2.heap.size w2 w4/\Below w3.heap.size w3 w4/\SL w4 0 v (ofS mc))/\(w4.cell? ⟨w.heap.size,0,none⟩=some (.string (bs mw.name))/\w4.cell? ⟨w.heap.size,1,none⟩=some (.slice ia mw.imports.length ic)/\w4.cell? ⟨w.heap.size,2,none⟩=some (.slice ga mw.vars.length gc)/\w4.cell? ⟨w.heap.size,3,none⟩=some (.slice pa mw.procs.length pc)/\w4.cell? ⟨w.heap.size,4,none⟩=some (.slice ba mw.body.length bc)/\w4.cell? ⟨w.heap.size+1,0,none⟩=some (.string (bs mc.name))/\w4.cell? ⟨w.heap.size+1,1,none⟩=some (.slice ia' mc.imports.length ic')/\w4.cell? ⟨w.heap.size+1,2,none⟩=some (.slice ga' mc.vars.length gc')/\w4.cell? ⟨w.heap.size+1,3,none⟩=some (.slice pa' mc.procs.length pc')/\w4.cell? ⟨w.heap.size+1,4,none⟩=some (.slice ba' mc.body.length bc'))):=by
  refine(HOF1.out _ HD3.out).mono ?_
  rintro e w4 ⟨v,h1,h2,h3⟩
  have hb:Below w3.heap.size w3 w4:=((Below.refl w3.heap.size w3).drew).trans h2
  exact⟨v,h1,⟨hub.trans (hb.mono hub.size),hb,h3⟩,HBX.out _ (hub.trans (hb.mono hub.size))⟩
 have HN1:Hid (∀ w4 v,Below w2.heap.size w2 w4/\Below w3.heap.size w3 w4/\SL w4 0 v (ofS mc)->Calls Tryz.prog 92 #[v,.slice ua ul.length uc] w4 fun e w5=>e=.returned (.string (bs (Tp.needsS (ofS mc) ul)))/\(Below w2.heap.size w2 w5/\Below w3.heap.size w3 w5)/\(w5.cell? ⟨w.heap.size,0,none⟩=some (.string (bs mw.name))/\w5.cell? ⟨w.heap.size,1,none⟩=some (.slice ia mw.imports.length ic)/\w5.cell? ⟨w.heap.size,2,none⟩=some (.slice ga mw.vars.length gc)/\w5.cell? ⟨w.heap.size,3,none⟩=some (.slice pa mw.procs.length pc)/\w5.cell? ⟨w.heap.size,4,none⟩=some (.slice ba mw.body.length bc)/\w5.cell? ⟨w.heap.size+1,0,none⟩=some (.string (bs mc.name))/\w5.cell? ⟨w.heap.size+1,1,none⟩=some (.slice ia' mc.imports.length ic')/\w5.cell? ⟨w.heap.size+1,2,none⟩=some (.slice ga' mc.vars.length gc')/\w5.cell? ⟨w.heap.size+1,3,none⟩=some (.slice pa' mc.procs.length pc')/\w5.cell? ⟨w.heap.size+1,4,none⟩=some (.slice ba' mc.body.length bc'))):=fun w4 v h4=>by
  refine(xg h4.2.2 HSC.out.1 HSC.out.2 (hus.on h4.2.1) hunl hul).mono ?_
  rintro e w5 ⟨h1,h2⟩
  have hb:Below w2.heap.size w2 w5:=h4.1.trans (h2.mono h4.1.size)
  exact⟨h1,⟨hb,h4.2.1.trans (h2.mono h4.2.1.size)⟩,HBX.out _ hb⟩
 have HO2:Hid (∀ w5,Below w2.heap.size w2 w5/\Below w3.heap.size w3 w5->Calls Tryz.prog 84 #[.agg #[.string (bs mw.name),.slice ia mw.imports.length ic,.slice ga mw.vars.length gc,.slice pa mw.procs.length pc,.slice ba mw.body.length bc]] w5 fun e w6=>∃ v,e=.returned v/\(Below w2.heap.size w2 w6/\Below w3.heap.size w3 w6/\SL w6 0 v (ofS mw))/\(w6.cell? ⟨w.heap.size,0,none⟩=some (.string (bs mw.name))/\w6.cell? ⟨w.heap.size,1,none⟩=some (.slice ia mw.imports.length ic)/\w6.cell? ⟨w.heap.size,2,none⟩=some (.slice ga mw.vars.length gc)/\w6.cell? ⟨w.heap.size,3,none⟩=some (.slice pa mw.procs.length pc)/\w6.cell? ⟨w.heap.size,4,none⟩=some (.slice ba mw.body.length bc)/\w6.cell? ⟨w.heap.size+1,0,none⟩=some (.string (bs mc.name))/\w6.cell? ⟨w.heap.size+1,1,none⟩=some (.slice ia' mc.imports.length ic')/\w6.cell? ⟨w.heap.size+1,2,none⟩=some (.slice ga' mc.vars.length gc')/\w6.cell? ⟨w.heap.size+1,3,none⟩=some (.slice pa' mc.procs.length pc')/\w6.cell? ⟨w.heap.size+1,4,none⟩=some (.slice ba' mc.body.length bc'))):=fun w5 h5=>by
  refine(HOF2.out _ h5.1).mono ?_
  rintro e w6 ⟨v,h1,h2,h3⟩
  have hb:Below w2.heap.size w2 w6:=h5.1.trans (h2.mono h5.1.size)
  exact⟨v,h1,⟨hb,h5.2.trans (h2.mono h5.2.size),h3⟩,HBX.out _ hb⟩
 have HN2:Hid (∀ w6 v,Below w2.heap.size w2 w6/\Below w3.heap.size w3 w6/\SL w6 0 v (ofS mw)->Calls Tryz.prog 92 #[v,.slice ua ul.length uc] w6 fun e w7=>e=.returned (.string (bs (Tp.needsS (ofS mw) ul)))/\(Below w2.heap.size w2 w7)/\(w7.cell? ⟨w.heap.size,0,none⟩=some (.string (bs mw.name))/\w7.cell? ⟨w.heap.size,1,none⟩=some (.slice ia mw.imports.length ic)/\w7.cell? ⟨w.heap.size,2,none⟩=some (.slice ga mw.vars.length gc)/\w7.cell? ⟨w.heap.size,3,none⟩=some (.slice pa mw.procs.length pc)/\w7.cell? ⟨w.heap.size,4,none⟩=some (.slice ba mw.body.length bc)/\w7.cell? ⟨w.heap.size+1,0,none⟩=some (.string (bs mc.name))/\w7.cell? ⟨w.heap.size+1,1,none⟩=some (.slice ia' mc.imports.length ic')/\w7.cell? ⟨w.heap.size+1,2,none⟩=some (.slice ga' mc.vars.length gc')/\w7.cell? ⟨w.heap.size+1,3,none⟩=some (.slice pa' mc.procs.length pc')/\w7.cell? ⟨w.heap.size+1,4,none⟩=some (.slice ba' mc.body.length bc'))):=fun w6 v h6=>by
  refine(xg h6.2.2 HSW.out.1 HSW.out.2 (hus.on h6.2.1) hunl hul).mono ?_
  rintro e w7 ⟨h1,h2⟩
  have hb:Below w2.heap.size w2 w7:=h6.1.trans (h2.mono h6.1.size)
  exact⟨h1,hb,HBX.out _ hb⟩
 have HRES:Hid ((!((bs (Tp.needsS (ofS mc) ul)).toList == (bs (Tp.needsS (ofS mw) ul)).toList))=r):=by
  show _=_
  rw[zj,zj]
  cases r with
  | false=>rw[hany.2 rfl];simp
  | true =>
   have:¬Tp.needsS (ofS mc) ul=Tp.needsS (ofS mw) ul:=fun e=>by have:=hany.1 e;cases this
   simpa using this
 clear hany hunl hul hum hus hub HU HS3 HSx HANY HOF1 HOF2 HSC HSW
 generalize bs (Tp.needsS (ofS mc) ul)=nc1 at *
 generalize bs (Tp.needsS (ofS mw) ul)=nc2 at *
 generalize ul.length=uln at *
 generalize bs mw.name=vn0 at *
 generalize mw.imports.length=vn1 at *
 generalize mw.vars.length=vn2 at *
 generalize mw.procs.length=vn3 at *
 generalize mw.body.length=vn4 at *
 generalize bs mc.name=vc0 at *
 generalize mc.imports.length=vc1 at *
 generalize mc.vars.length=vc2 at *
 generalize mc.procs.length=vc3 at *
 generalize mc.body.length=vc4 at *
 go_upto_region 2 with fail
 go_region_held3 (fun w'=>w'.cell? ⟨w.heap.size,0,none⟩=some (.string vn0)/\w'.cell? ⟨w.heap.size,1,none⟩=some (.slice ia vn1 ic)/\w'.cell? ⟨w.heap.size,2,none⟩=some (.slice ga vn2 gc)/\w'.cell? ⟨w.heap.size,3,none⟩=some (.slice pa vn3 pc)/\w'.cell? ⟨w.heap.size,4,none⟩=some (.slice ba vn4 bc)/\w'.cell? ⟨w.heap.size+1,0,none⟩=some (.string vc0)/\w'.cell? ⟨w.heap.size+1,1,none⟩=some (.slice ia' vc1 ic')/\w'.cell? ⟨w.heap.size+1,2,none⟩=some (.slice ga' vc2 gc')/\w'.cell? ⟨w.heap.size+1,3,none⟩=some (.slice pa' vc3 pc')/\w'.cell? ⟨w.heap.size+1,4,none⟩=some (.slice ba' vc4 bc')) (with_reducible (first|exact HT7.out|exact HT6.out|exact HT5.out|exact HT4.out|exact HT0.out)) (first|(go_at_call 92;have _g:=HB6;refine(HN2.out _ _ HB6.out).mono ?_;rintro e w7 ⟨rfl,hb7,ht7⟩;have HB7:=zh hb7;have HT7:=zh ht7;clear hb7 ht7)|(go_at_call 84;have _g:=HB5;refine(HO2.out _ HB5.out).mono ?_;rintro e w6 ⟨v6,rfl,hb6,ht6⟩;have HB6:=zh hb6;have HT6:=zh ht6;clear hb6 ht6)|(go_at_call 92;have _g:=HB4;refine(HN1.out _ _ HB4.out).mono ?_;rintro e w5 ⟨rfl,hb5,ht5⟩;have HB5:=zh hb5;have HT5:=zh ht5;clear hb5 ht5)|(go_at_call 84;refine HO1.out.mono ?_;rintro e w4 ⟨v4,rfl,hb4,ht4⟩;have HB4:=zh hb4;have HT4:=zh ht4;clear hb4 ht4))
 go_wp2_with fail
 go_ret
 exact⟨by show Ending.returned (Value.bool (!(nc1.toList == nc2.toList)))=_;rw[HRES.out],HB2.out.trans (HB7.out.mono HB2.out.size)⟩
end Go.Proofs.YtibncofnnlbmcaaGreatDoor
namespace Go.Proofs.YtibncofnnlbmcaaGreatDoor
open Go.RowKit Go.Maps
open Tp (Bs X S G Pr Pt Rs Rr Own)
structure GlAt (w:World) (gs:List G) (a:Option Addr):Prop where
 c:∀ i (h:i<gs.length),∃ b,a=some ⟨b,0,none⟩/\b<w.heap.size/\∀ j,j<4->w.cell? ⟨b,i * 4+j,none⟩=(gcells (bs gs[i].name) (gs[i].pos:Int) (gs[i].len:Int) gs[i].seen).toList[j]?
theorem GlAt.on {w w':World}{gs:List G}{a:Option Addr}(h:GlAt w gs a) (k:Below w.heap.size w w'):GlAt w' gs a :=
 ⟨fun i hi=>by obtain⟨b,h1,h2,h3⟩:=h.c i hi;exact⟨b,h1,Nat.lt_of_lt_of_le h2 k.size,fun j hj=>(k.cell (p:=⟨b,i * 4+j,none⟩) h2).trans (h3 j hj)⟩⟩
theorem Row.gls {w:World}{D:Nat->Prop}{a:Option Addr}{c:Nat}{gs:List G}(h:Row w D 61 4 (.slice a gs.length c) gs.length (gcs gs)):GlAt w gs a:=by
 refine⟨fun i hi=>?_⟩
 obtain⟨g,cap,q1,q2,q3,q4⟩:=yt h (by omega)
 injection q1 with q1 _ _
 exact⟨g,q1,q3,fun j hj=>(q4 (i * 4+j) (by omega)).trans (xK gs i hi j hj)⟩
def gval (g:G):Value:=.agg (gcells (bs g.name) (g.pos:Int) (g.len:Int) g.seen)
theorem indexG1 {w:World}{a:Option Addr}{cap:Nat}{l:List G}{p:G->Bool}{fn:FuncId}{c1:Value}(hS:GlAt w l a) (hn:l.length<=1000) (hcf:∀(args:Array Value) (w:World),(callFunc fn args).run Tryz.prog w=.ok (.enter fn args) w)
  (hd:∀ W (x:G),x∈l->Below w.heap.size w W->Calls Tryz.prog fn #[gval x,c1] W fun e w'=>e=.returned (.bool (p x))/\Below W.heap.size W w') :
  Calls Tryz.prog 50 #[.slice a l.length cap,.func (.func fn) #[] #[c1]] w fun e w'=>(∃ k:Int,e=.returned (.int .i64 k)/\(decide (0<=k)=l.any p))/\Below w.heap.size w w':=by
 have hn':(l.length:Int)<=1000:=by omega
 have HSL:=zh hS
 have HD:=zh hd
 clear hS hd
 go_enter Tryz.func50,Tryz.ntmps50
 go_wp2_with fail
 go_loopg [8] l.length (fun k vi wr=>∃ i:Nat,i<=l.length/\k=l.length - i/\vi=.int .i64 (i:Int)/\Hid ((l.take i).any p=false)/\Hid (Below w.heap.size w wr))
 case atStart=>exact⟨0,by omega,by omega,rfl,rfl,Below.refl _ _⟩
 case round =>
  obtain⟨i,hid,hk,rfl,HI,HW⟩:=hrel
  by_cases hlt:i<l.length
  ·have hlt':(i:Int)<(l.length:Int):=by omega
   obtain⟨g,rfl,hgl,hc0⟩:=HSL.out.c i hlt
   have hcell:∀ j,j<4->wr.cell? ⟨g,i * 4+j,none⟩=(gcells (bs l[i].name) (l[i].pos:Int) (l[i].len:Int) l[i].seen).toList[j]?:=fun j hj=>(HW.out.cell (p:=⟨g,i * 4+j,none⟩) hgl).trans (hc0 j hj)
   have e0:wr.cell? ⟨g,i * 4,none⟩=some (.string (bs l[i].name)):=hcell 0 (by omega)
   have e1:wr.cell? ⟨g,i * 4+1,none⟩=some (.int .i64 (l[i].pos:Int)):=hcell 1 (by omega)
   have e2:wr.cell? ⟨g,i * 4+2,none⟩=some (.int .i64 (l[i].len:Int)):=hcell 2 (by omega)
   have e3:wr.cell? ⟨g,i * 4+3,none⟩=some (.bool l[i].seen):=hcell 3 (by omega)
   have hbl':g<wr.heap.size:=zg e0
   have HF:=zh (HD.out wr l[i] (List.getElem_mem hlt) HW.out)
   unfold gval gcells at HF
   have HNX:Hid ((l.take (i+1)).any p=p l[i]):=by
    show _=_
    rw[List.take_succ_eq_append_getElem hlt,List.any_append,HI.out];simp
   have HAN:Hid (p l[i]=true->l.any p=true):=fun e=>List.any_eq_true.2 ⟨_,List.getElem_mem hlt,e⟩
   clear hcell hc0
   generalize p l[i]=d at *
   generalize bs l[i].name=x at *
   generalize (l[i].pos:Int)=x1 at *
   generalize (l[i].len:Int)=x2 at *
   generalize l[i].seen=x3 at *
   clear HI
   go_wp2_with fail
   refine HF.out.mono ?_
   rintro e w3 ⟨rfl,h3⟩
   have HW3:=zh (HW.out.trans (h3.mono HW.out.size))
   clear h3
   cases d with
   | true =>
    have HE:=zh (HAN.out rfl)
    go_wp2_with fail
    go_ret
    refine⟨⟨_,rfl,?_⟩,HW3.out⟩
    rw[HE.out]
    exact decide_eq_true (by omega)
   | false =>
    go_wp2_with fail
    go_roundg (l.length - (i+1))
    case measure=>omega
    case rel=>exact⟨i+1,by omega,rfl,by go_num,HNX,HW3⟩
  ·have hlt':¬(i:Int)<(l.length:Int):=by omega
   have HE:Hid (l.any p=false):=by
    have:=HI.out
    rw[List.take_of_length_le (by omega)]at this
    exact this
   go_wp2_with fail
   go_ret
   refine⟨⟨_,rfl,?_⟩,HW.out⟩
   rw[HE.out]
   rfl
theorem containsG1 {w:World}{a:Option Addr}{cap:Nat}{l:List G}{p:G->Bool}{fn:FuncId}{c1:Value}(hS:GlAt w l a) (hn:l.length<=1000) (hcf:∀(args:Array Value) (w:World),(callFunc fn args).run Tryz.prog w=.ok (.enter fn args) w)
  (hd:∀ W (x:G),x∈l->Below w.heap.size w W->Calls Tryz.prog fn #[gval x,c1] W fun e w'=>e=.returned (.bool (p x))/\Below W.heap.size W w') :
  Calls Tryz.prog 19 #[.slice a l.length cap,.func (.func fn) #[] #[c1]] w fun e w'=>e=.returned (.bool (l.any p))/\Below w.heap.size w w':=by
 have HC:=zh (indexG1 (cap:=cap) hS hn hcf hd)
 clear hS hd hcf
 go_enter Tryz.func19,Tryz.ntmps19
 go_wp2_with fail
 refine HC.out.mono ?_
 rintro e w1 ⟨⟨k,rfl,hk⟩,hb⟩
 have HK:=zh hk
 clear hk
 go_wp2_with fail
 go_ret
 exact⟨by rw[<-HK.out];rfl,hb⟩
theorem keep_cf (args:Array Value) (w:World):(callFunc 93 args).run Tryz.prog w=.ok (.enter 93 args) w:=by kernel_rfl
theorem keep1_post {w:World}{x:Nat}{g o:G}(hx:w.heap[x]?=some (.cells (gcells (bs g.name) (g.pos:Int) (g.len:Int) g.seen) 61 (0,0))) :
  Calls Tryz.prog 93 #[gval o,.pointer (some ⟨x,0,none⟩)] w fun e w'=>e=.returned (.bool (decide (o.name=g.name) && decide (o.len=g.len)))/\Below w.heap.size w w':=by
 obtain⟨w2,hw2⟩:∃ w2,w2=w.alloc (.cells (gcells (bs o.name) (o.pos:Int) (o.len:Int) o.seen) 61):=⟨_,rfl⟩
 have hb2:Below w.heap.size w w2:=by rw[hw2];exact zb _ _
 have q0:w2.heap[w.heap.size]?=some (.cells (gcells (bs o.name) (o.pos:Int) (o.len:Int) o.seen) 61 (0,0)):=by rw[hw2];exact zo _ _
 have q1:=(hb2.block _ (zf hx)).trans hx
 unfold gval gcells at *
 have a0:w2.cell? ⟨w.heap.size,0,none⟩=some (.string (bs o.name)):=(za q0).trans rfl
 have a2:w2.cell? ⟨w.heap.size,2,none⟩=some (.int .i64 (o.len:Int)):=(za q0).trans rfl
 have b0:w2.cell? ⟨x,0,none⟩=some (.string (bs g.name)):=(za q1).trans rfl
 have b2:w2.cell? ⟨x,2,none⟩=some (.int .i64 (g.len:Int)):=(za q1).trans rfl
 have l0:=zf q0
 have l1:=zf q1
 have HB2:=zh hb2
 clear q0 q1 hb2 hx
 by_cases hn:o.name=g.name
 ·rw[hn]at a0 hw2 ⊢
  rw[decide_eq_true rfl,Bool.true_and]
  by_cases hl:o.len=g.len
  ·rw[hl]at a2 hw2 ⊢
   rw[decide_eq_true rfl]
   generalize bs g.name=gn at *
   generalize (g.len:Int)=gl at *
   go_enter Tryz.func93,Tryz.ntmps93
   go_upto_region 1 with fail
   rw[<-hw2]
   clear hw2
   go_wp2_with fail
   go_ret
   exact⟨rfl,HB2.out⟩
  ·have hl':¬(o.len:Int)=(g.len:Int):=by omega
   have HBE:Hid (((o.len:Int) == (g.len:Int))=false):=by show _=_;simpa using hl'
   rw[decide_eq_false hl]
   generalize bs g.name=gn at *
   go_enter Tryz.func93,Tryz.ntmps93
   go_upto_region 1 with fail
   rw[<-hw2]
   clear hw2
   go_wp2_with fail
   go_ret
   exact⟨by show Ending.returned (Value.bool ((o.len:Int) == (g.len:Int)))=_;rw[HBE.out],HB2.out⟩
 ·have hne:¬(bs o.name).toList=(bs g.name).toList:=fun q=>hn (by rw[zj,zj]at q;exact q)
  rw[decide_eq_false hn,Bool.false_and]
  go_enter Tryz.func93,Tryz.ntmps93
  go_upto_region 1 with fail
  rw[<-hw2]
  clear hw2
  go_wp2_with fail
  go_ret
  exact⟨rfl,HB2.out⟩
def keptG (old:Tp.M) (g:G):Bool:=old.vars.any fun h=>decide (h.name=g.name) && decide (h.len=g.len)
def kslF (lo:Lo) (sl:Bs->Nat) (gs:List G) (k:Bs):Nat:=match gs.find? fun g=>g.name == k with
 | some g=>if keptG lo.m g then lo.sl k else sl k
 | none=>sl k
def keepF (lo:Lo) (m:Tp.M) (sl:Bs->Nat) (i:Nat) (k:Bs):Option Value:=(Tp.varOf m k).map fun g=>.slice (some ⟨kslF lo sl (m.vars.take i) k,0,none⟩) (vlen g) (vlen g)
theorem jq {gs:List G}(hn:(gs.map (·.name)).Nodup) {i:Nat}(hi:i<gs.length) (k:Bs):(gs.take (i+1)).find? (fun g=>g.name == k)=if k=gs[i].name then some gs[i] else (gs.take i).find? fun g=>g.name == k:=by
 rw[List.take_succ_eq_append_getElem hi,List.find?_append]
 by_cases e:k=gs[i].name
 ·rw[if_pos e]
  have:(gs.take i).find? (fun g=>g.name == k)=none:=by
   rw[List.find?_eq_none]
   intro g hg q
   have q':g.name=k:=by simpa using q
   obtain⟨j,hj,rfl⟩:=List.getElem_of_mem hg
   rw[List.length_take]at hj
   rw[List.getElem_take]at q'
   have:=(List.getElem_inj (h₀:=by simp;omega) (h₁:=by simpa using hi) hn (i:=j) (j:=i)).1 (by simpa using q'.trans e)
   omega
  rw[this]
  simp[e]
 ·rw[if_neg e]
  have:([gs[i]]:List G).find? (fun g=>g.name == k)=none:=by
   rw[List.find?_eq_none]
   intro g hg q
   rw[List.mem_singleton]at hg
   subst hg
   exact e (by simpa using q:gs[i].name=k).symm
  rw[this]
  simp
theorem keepF_succ {lo:Lo}{m:Tp.M}{sl:Bs->Nat}(hn:(m.vars.map (·.name)).Nodup) {i:Nat}(hi:i<m.vars.length):keepF lo m sl (i+1)=if keptG lo.m m.vars[i] then updV (keepF lo m sl i) m.vars[i].name (.slice (some ⟨lo.sl m.vars[i].name,0,none⟩) (vlen m.vars[i]) (vlen m.vars[i])) else keepF lo m sl i:=by
 funext k
 have hv:Tp.varOf m m.vars[i].name=some m.vars[i]:=Tp.varOf_mem hn (List.getElem_mem hi)
 by_cases e:k=m.vars[i].name
 ·subst e
  have hfi:(m.vars.take i).find? (fun g=>g.name == m.vars[i].name)=none:=by
   rw[List.find?_eq_none]
   intro g hg q
   have q':g.name=m.vars[i].name:=by simpa using q
   obtain⟨j,hj,rfl⟩:=List.getElem_of_mem hg
   rw[List.length_take]at hj
   rw[List.getElem_take]at q'
   have:=(List.getElem_inj (h₀:=by simp;omega) (h₁:=by simpa using hi) hn (i:=j) (j:=i)).1 (by simpa using q')
   omega
  by_cases hk:keptG lo.m m.vars[i]=true
  ·rw[if_pos hk]
   unfold keepF updV kslF
   rw[if_pos rfl,hv,jq hn hi,if_pos rfl]
   simp[hk]
  ·rw[if_neg hk]
   unfold keepF kslF
   rw[hv,jq hn hi,if_pos rfl,hfi]
   simp[hk]
 ·have:keepF lo m sl (i+1) k=keepF lo m sl i k:=by
   unfold keepF kslF
   rw[jq hn hi,if_neg e]
  rw[this]
  split
  ·unfold updV
   rw[if_neg e]
  ·rfl
theorem keepF_zero (lo:Lo) (m:Tp.M) (sl:Bs->Nat):keepF lo m sl 0=fun k=>(Tp.varOf m k).map fun g=>.slice (some ⟨sl k,0,none⟩) (vlen g) (vlen g):=by
 funext k
 unfold keepF kslF
 simp
theorem kept_look {lo:Lo}{g:G}(hn:(lo.m.vars.map (·.name)).Nodup) (hk:keptG lo.m g=true):loV lo g.name=some (.slice (some ⟨lo.sl g.name,0,none⟩) (vlen g) (vlen g)):=by
 unfold keptG at hk
 obtain⟨h,h1,h2⟩:=List.any_eq_true.1 hk
 simp only [Bool.and_eq_true,decide_eq_true_eq]at h2
 have hv:Tp.varOf lo.m h.name=some h:=Tp.varOf_mem hn h1
 unfold loV
 rw[<-h2.1,hv]
 have:vlen h=vlen g:=by unfold vlen;rw[h2.2]
 simp[this]
def KeepP (w:World) (lb vb:Nat) (lo:Lo) (m:Tp.M) (sl:Bs->Nat) (e:Ending) (w':World):Prop:=e=.returned (.pointer (some ⟨lb,0,none⟩))/\Ext vb w w'/\∃ n,MapV w' vb n (keepF lo m sl m.vars.length)
theorem vN {w:World}{lb vb n0:Nat}{m:Tp.M}{sl:Bs->Nat}{lo:Lo}{ia ga pa ba ia' ga' pa' ba':Option Addr}{ic gc pc bc ic' gc' pc' bc':Nat}(hbl:w.heap[lb]?=some (.cells (lcells m ia ga pa ba ic gc pc bc vb) 107 (0,0))) (hgl:GlAt w m.vars ga) (hm:MapV w vb n0 (keepF lo m sl 0)) (hn0:n0<=1000) (hvl:m.vars.length<=10) (hvn:(m.vars.map (·.name)).Nodup) (hnl:∀ g∈m.vars,g.name.length<=1000000)
  (hol:w.heap[lo.lb]?=some (.cells (lcells lo.m ia' ga' pa' ba' ic' gc' pc' bc' lo.vb) 107 (0,0))) (hog:GlAt w lo.m.vars ga') (hom:∃ n,MapV w lo.vb n (loV lo)) (hovl:lo.m.vars.length<=10) (hovn:(lo.m.vars.map (·.name)).Nodup) (hne1:lb≠vb) (hne2:lo.lb≠vb) (hne3:lo.vb≠vb) (hmt:∀ b,ga=some b->b.block≠vb) (hot:∀ b,ga'=some b->b.block≠vb) :
  Calls Tryz.prog 49 #[.pointer (some ⟨lb,0,none⟩),.pointer (some ⟨lo.lb,0,none⟩)] w (KeepP w lb vb lo m sl):=by
 have hll:=zf hbl
 have hwl:=zf hol
 have k2:w.cell? ⟨lb,2,none⟩=some (.slice ga m.vars.length gc):=(za hbl).trans rfl
 have HBL:=zh hbl
 have HOL:=zh hol
 have HGL:=zh hgl
 have HOG:=zh hog
 have HM:=zh hm
 have HOM:=zh hom
 have HVN:=zh hvn
 have HON:=zh hovn
 have HNL:=zh hnl
 have HMT:=zh hmt
 have HOT:=zh hot
 have hgI:(m.vars.length:Int)<=10:=by omega
 obtain⟨gn,hgn⟩:∃ gn,gn=m.vars.length:=⟨_,rfl⟩
 obtain⟨on,hon⟩:∃ on,on=lo.m.vars.length:=⟨_,rfl⟩
 rw[<-hgn]at k2 hgI
 have HGN:=zh hgn
 have HONN:=zh hon
 clear hbl hol hgl hog hm hom hvn hovn hnl hmt hot hgn hon
 have hmf:=zm
 go_enter Tryz.func49,Tryz.ntmps49
 go_wp2_with fail
 clear k2
 go_loopg [14] gn (fun k vi wr=>∃ i:Nat,i<=gn/\k=gn - i/\vi=.int .i64 (i:Int)/\Hid (MapV wr vb (n0+i) (keepF lo m sl i))/\Hid (Ext vb w wr))
 case atStart=>exact⟨0,by omega,by omega,rfl,HM,Ext.refl _ _⟩
 case round =>
  obtain⟨i,hid,hk,rfl,HT,HE⟩:=hrel
  have hszr:=HE.out.size
  by_cases hlt:i<gn
  ·have hlt':(i:Int)<(gn:Int):=by omega
   have hia:i<m.vars.length:=by have:=HGN.out;omega
   obtain⟨gg,hga,hggl,hgc⟩:=HGL.out.c i hia
   subst hga
   have hggv:gg≠vb:=HMT.out _ rfl
   have hcell:∀ j,j<4->wr.cell? ⟨gg,i * 4+j,none⟩=(gcells (bs m.vars[i].name) (m.vars[i].pos:Int) (m.vars[i].len:Int) m.vars[i].seen).toList[j]?:=fun j hj=>by
    rw[World.cell?_of_block (w:=w) (HE.out.block gg hggl hggv)]
    exact hgc j hj
   have c0:wr.cell? ⟨gg,i * 4,none⟩=some (.string (bs m.vars[i].name)):=hcell 0 (by omega)
   have c1:wr.cell? ⟨gg,i * 4+1,none⟩=some (.int .i64 (m.vars[i].pos:Int)):=hcell 1 (by omega)
   have c2:wr.cell? ⟨gg,i * 4+2,none⟩=some (.int .i64 (m.vars[i].len:Int)):=hcell 2 (by omega)
   have c3:wr.cell? ⟨gg,i * 4+3,none⟩=some (.bool m.vars[i].seen):=hcell 3 (by omega)
   have hggr:gg<wr.heap.size:=by omega
   obtain⟨W,hW⟩:∃ W,W=wr.alloc (.cells (gcells (bs m.vars[i].name) (m.vars[i].pos:Int) (m.vars[i].len:Int) m.vars[i].seen) 61):=⟨_,rfl⟩
   have hbW:Below wr.heap.size wr W:=by rw[hW];exact zb _ _
   have hkW:W.heap[wr.heap.size]?=some (.cells (gcells (bs m.vars[i].name) (m.vars[i].pos:Int) (m.vars[i].len:Int) m.vars[i].seen) 61 (0,0)):=by rw[hW];exact zo _ _
   have hbr:∀ b,b<w.heap.size->b≠vb->W.heap[b]?=w.heap[b]?:=fun b h1 h2=>(hbW.block b (by omega)).trans (HE.out.block b h1 h2)
   have hoW:=(hbr _ hwl hne2).trans HOL.out
   have o2:W.cell? ⟨lo.lb,2,none⟩=some (.slice ga' on gc'):=by
    rw[HONN.out]
    exact(za hoW).trans rfl
   have hlW:lo.lb<W.heap.size:=zf hoW
   have hogW:GlAt W lo.m.vars ga':=⟨fun j hj=>by
    obtain⟨b,e1,e2,e3⟩:=HOG.out.c j hj
    have hbv:b≠vb:=HOT.out _ e1
    exact⟨b,e1,zf (show W.heap[b]?=some (w.heap[b]) by rw[hbr b e2 hbv];exact Array.getElem?_eq_getElem e2),fun q hq=>(World.cell?_of_block (w:=w) (hbr b e2 hbv)).trans (e3 q hq)⟩⟩
   have HC:Hid (Calls Tryz.prog 19 #[.slice ga' on gc',.func (.func 93) #[] #[.pointer (some ⟨wr.heap.size,0,none⟩)]] W fun e w'=>e=.returned (.bool (keptG lo.m m.vars[i]))/\Below W.heap.size W w'):=by
    have:=containsG1 (cap:=gc') (p:=fun h=>decide (h.name=m.vars[i].name) && decide (h.len=m.vars[i].len)) (c1:=.pointer (some ⟨wr.heap.size,0,none⟩)) hogW (by omega) keep_cf (fun W' x _ hW'=>keep1_post ((hW'.block _ (zf hkW)).trans hkW))
    rw[<-HONN.out]at this
    exact this
   have hnm:=HNL.out _ (List.getElem_mem hia)
   have HKS:=zh (keepF_succ (lo:=lo) (sl:=sl) HVN.out hia)
   have HEW:Hid (Ext vb w W):=HE.out.trans (Ext.below hbW)
   have HMW:Hid (MapV W vb (n0+i) (keepF lo m sl i)):=HT.out.on (hbW.block _ HT.out.lt)
   have HKW:=zh hkW
   have HKL:Hid (keptG lo.m m.vars[i]=true->loV lo m.vars[i].name=some (.slice (some ⟨lo.sl m.vars[i].name,0,none⟩) (vlen m.vars[i]) (vlen m.vars[i]))):=fun e=>kept_look HON.out e
   have HLW:Hid (W.heap[lb]?=some (.cells (lcells m ia (some ⟨gg,0,none⟩) pa ba ic gc pc bc vb) 107 (0,0))):=(hbr _ hll hne1).trans HBL.out
   have HOW:=zh hoW
   have HOMW:Hid (∃ n,MapV W lo.vb n (loV lo)):=by
    obtain⟨n,q⟩:=HOM.out
    exact⟨n,q.on (hbr _ q.lt hne3)⟩
   clear hcell hgc hbW hkW hbr hoW hogW HT HE
   unfold gcells at *
   generalize hkp:keptG lo.m m.vars[i]=kp at *
   clear hkp
   generalize hvg:vlen m.vars[i]=vg at *
   generalize hnmq:m.vars[i].name=nm at *
   generalize (m.vars[i].pos:Int)=ps at *
   generalize (m.vars[i].len:Int)=ln at *
   generalize m.vars[i].seen=sn at *
   clear hvg hnmq
   go_upto_region 4 with fail
   rw[<-hW]
   clear hW c0 c1 c2 c3
   go_wp2_with fail
   refine HC.out.mono ?_
   rintro e w5 ⟨rfl,hb5⟩
   have HE5:Hid (Ext vb w w5):=HEW.out.trans (Ext.below hb5)
   have HM5:Hid (MapV w5 vb (n0+i) (keepF lo m sl i)):=HMW.out.on (hb5.block _ HMW.out.lt)
   cases kp with
   | false =>
    have HKS':Hid (MapV w5 vb (n0+(i+1)) (keepF lo m sl (i+1))):=by
     have e:=HKS.out
     rw[if_neg (by simp)]at e
     show MapV _ _ _ _
     rw[e]
     exact HM5.out.mono (by omega)
    clear hb5 o2
    go_wp2_with fail
    go_roundg (gn - (i+1))
    case measure=>omega
    case rel=>exact⟨i+1,by omega,rfl,by go_num,HKS',HE5⟩
   | true =>
    have hl5:=(hb5.block _ (zf HLW.out)).trans HLW.out
    have ho5:=(hb5.block _ (zf HOW.out)).trans HOW.out
    have hk5:=(hb5.block _ (zf HKW.out)).trans HKW.out
    have f5:w5.cell? ⟨lb,5,none⟩=some (.map (some vb)):=(za hl5).trans rfl
    have p5:w5.cell? ⟨lo.lb,5,none⟩=some (.map (some lo.vb)):=(za ho5).trans rfl
    have g0:w5.cell? ⟨wr.heap.size,0,none⟩=some (.string (bs nm)):=(za hk5).trans rfl
    have l1:=zf hl5
    have l2:=zf ho5
    have l3:=zf hk5
    obtain⟨nn,hom5⟩:=HOMW.out
    have hlk:∀ W',W'.heap=w5.heap->(Instr.lookup 105 (.map (some lo.vb)) (.string (bs nm)) false).run Tryz.prog W'=.ok (.slice (some ⟨lo.sl nm,0,none⟩) vg vg) W':=fun W' hW'=>by
     have:=(hom5.on (w':=W') (by rw[hW'];exact hb5.block _ hom5.lt)).look (t:=105) Tryz.underlying105 (zeroI64s _) nm hnm false
     rw[this,HKL.out rfl]
     rfl
    have hlk1:=hlk w5 rfl
    have hlk2:=hlk w5.drew rfl
    obtain⟨w6,hmu,q1,q2,q3⟩:=(HM5.out.on (w':=w5.drew) rfl).store (t:=105) Tryz.underlying105 (by omega) nm hnm (.slice (some ⟨lo.sl nm,0,none⟩) vg vg)
    have HKS':Hid (MapV w6 vb (n0+(i+1)) (keepF lo m sl (i+1))):=by
     have e:=HKS.out
     rw[if_pos rfl]at e
     show MapV _ _ _ _
     rw[e]
     exact q1
    have HE6:Hid (Ext vb w w6):=HE5.out.trans ⟨q2.os,q2.tape,q2.output,by have:w6.heap.size=w5.heap.size:=q3;omega,fun b h1 h2=>q2.block b h1 h2⟩
    clear hb5 o2 hl5 ho5 hk5 hom5 hlk q1 q2 q3
    go_upto_region 6 with fail
    go_region
    go_wp2_with fail
    go_roundg (gn - (i+1))
    case measure=>omega
    case rel=>exact⟨i+1,by omega,rfl,by go_num,HKS',HE6⟩
  ·have hlt':¬(i:Int)<(gn:Int):=by omega
   have hei:i=m.vars.length:=by have:=HGN.out;omega
   have HF:Hid (KeepP w lb vb lo m sl (.returned (.pointer (some ⟨lb,0,none⟩))) wr):=by
    refine⟨rfl,HE.out,n0+i,?_⟩
    rw[<-hei]
    exact HT.out
   clear hei HT HE
   go_wp2_with fail
   go_ret
   exact HF.out
end Go.Proofs.YtibncofnnlbmcaaGreatDoor
