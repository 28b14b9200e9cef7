import Derived.Test.YtibncofnnlbmcaaGreatDoorKMf
import Derived.Test.YtibncofnnlbmcaaGreatDoorKShc
import Derived.Test.YtibncofnnlbmcaaGreatDoorKUa
import Derived.Sort.OwnSorted
import Derived.Shelf.Slices.In.SortNone
set_option maxRecDepth 100000
set_option maxHeartbeats 4000000
namespace Go.Proofs.YtibncofnnlbmcaaGreatDoor
open Go.RowKit Go.Sort
open Tp (Bs)
theorem uI {zs:List Bs}{x:Bs}:x∈Lib.compact zs↔x∈zs:=by
 unfold Lib.compact Lib.compactUpTo
 simp only [List.mem_map,List.mem_filter,List.mem_range]
 constructor
 ·rintro⟨j,⟨hj,_⟩,rfl⟩
  rw[getElem!_pos _ j (by simpa using hj)]
  simp
 ·intro hx
  obtain⟨j,hj,rfl⟩:=List.getElem_of_mem hx
  clear hx
  induction j with
  | zero=>exact⟨0,⟨hj,by simp[Lib.keeps]⟩,by rw[getElem!_pos _ 0 (by simpa using hj)];simp⟩
  | succ j ih =>
   by_cases h:zs[j+1]=zs[j]
   ·obtain⟨k,h1,h2⟩:=ih (by omega)
    exact⟨k,h1,by rw[h2,h]⟩
   ·refine⟨j+1,⟨hj,?_⟩,by rw[getElem!_pos _ (j+1) (by simpa using hj)];simp⟩
    simp only [Lib.keeps,decide_eq_true_eq]
    refine Or.inr ?_
    rw[getElem!_pos _ (j+1) (by simpa using hj),show j+1 - 1=j from rfl,getElem!_pos _ j (by simp;omega)]
    simpa using h
theorem uX (zs:List Bs):(Lib.compact zs).length<=zs.length:=by
 unfold Lib.compact Lib.compactUpTo
 rw[List.length_map]
 have:=List.length_filter_le (Lib.keeps zs.toArray) (List.range zs.length)
 simpa using this
theorem sortS_post {w:World}{base:Nat}{v:Value}{l:List Bs}(h:w.ownsRow base 9 1 v l.length (strs l)) (hl:l.length<=1000000) :
  Calls Tryz.prog 125 #[v] w fun e w'=>e=.returned (.tuple #[])/\∃ l':List Bs,l'.length=l.length/\(∀ x,x∈l'↔x∈l)/\w'.ownsRow base 9 1 v l'.length (strs l')/\w.grownBy w' v.ownBlock:=by
 rcases h.2 with⟨rfl,h0⟩|⟨g,cap,cur,rfl,hbase,hb,h1,h2,h3,h4⟩
 ·rw[h0]at hl ⊢
  refine(calls_of_every_depth fun D=>AnyS.slices_Sort_string_none_alone Tryz.laysSort D none 0 w).mono ?_
  rintro e w' ⟨rfl,rfl⟩
  refine⟨rfl,[],rfl,?_,World.ownsRow_nil _ _ _ _,⟨rfl,rfl,rfl,Nat.le_refl _,fun _ _ _=>rfl⟩⟩
  have:=List.eq_nil_of_length_eq_zero h0
  subst this
  exact fun _=>Iff.rfl
 ·refine(calls_of_every_depth fun D=>AnyS.slices_Sort_string_alone Tryz.laysSort D g 0 cap l w (holds_of_block hb (by rw[Nat.mul_one]at h4;exact h4)) (zf hb) (by omega)).mono ?_
  rintro e w' ⟨rfl,n,os,rfl⟩
  have hlen:(l.mergeSort fun x y=>decide (x<=y)).length=l.length:=by simp
  refine⟨rfl,_,hlen,fun x=>by simp,?_,grownBy_sorted _⟩
  rw[hlen]
  exact ownsRow_sorted hlen hbase hb h1 h2 h3
theorem ug {w:World}{base:Nat}{v:Value}{l:List Bs}(h:w.ownsRow base 9 1 v l.length (strs l)) (hl:l.length<=1000000) :
  Calls Tryz.prog 126 #[v] w fun e w'=>∃(a:Option Addr) (c:Nat) (l':List Bs),e=.returned (.slice a l'.length c)/\l'.length<=l.length/\(∀ x,x∈l'↔x∈l)/\StrsAt w' l' a/\w.grownBy w' v.ownBlock:=by
 rcases h.2 with⟨rfl,h0⟩|⟨g,cap,cur,rfl,hbase,hb,h1,h2,h3,h4⟩
 ·rw[h0]at hl ⊢
  refine(calls_of_every_depth fun D=>AnyS.slices_Compact_string_empty_in Tryz.laysCompact D none 0 w).mono ?_
  rintro e w' ⟨rfl,rfl⟩
  refine⟨none,0,[],rfl,Nat.zero_le _,?_,⟨fun i hi=>by simp at hi⟩,⟨rfl,rfl,rfl,Nat.le_refl _,fun _ _ _=>rfl⟩⟩
  have:=List.eq_nil_of_length_eq_zero h0
  subst this
  exact fun _=>Iff.rfl
 ·refine(calls_of_every_depth fun D=>AnyS.slices_Compact_string_in Tryz.laysCompact D g 0 cap l w (holds_of_block hb (by rw[Nat.mul_one]at h4;exact h4)) (by omega) h1).mono ?_
  rintro e w' ⟨rfl,q,rfl⟩
  have hcl:=uX l
  have hlen:(Lib.compact l++List.replicate (l.length - (Lib.compact l).length) []).length=l.length:=by simp;omega
  have hrow:=ownsRow_sorted (n:=q) (os:=#[]) hlen hbase hb h1 h2 h3
  have hgr:=grownBy_sorted (w:=w) (g:=g) (n:=q) (os:=#[]) (Lib.compact l++List.replicate (l.length - (Lib.compact l).length) []).toArray
  rw[grow_empty]at hrow hgr
  refine⟨some ⟨g,0,none⟩,cap,Lib.compact l,rfl,hcl,fun x=>uI,⟨fun i hi=>⟨g,0,rfl,?_,?_⟩⟩,hgr⟩
  ·exact Nat.lt_of_lt_of_le (zf hb) hgr.size
  ·rw[hrow.cellAt (0+i) (by simp;omega)]
   rw[Nat.zero_add,List.map_append,List.getElem?_append_left (by simpa using hi),List.getElem?_map,List.getElem?_eq_getElem hi]
   rfl
end Go.Proofs.YtibncofnnlbmcaaGreatDoor
namespace Go.Proofs.YtibncofnnlbmcaaGreatDoor
open Go.RowKit Go.Maps
open Tp (Bs X S Pr)
def qOf (of:Bs) (l:List Pr) (i:Nat):List Bs:=((l[i]?).map fun p=>Tp.us of (Tp.rs p.body)).getD []
theorem us_ps (of:Bs):∀(l:List Pr),addTo (qOf of l) l.length=Tp.us of ((l.map fun p=>Tp.rs p.body).flatten):=by
 intro l
 induction l with
 | nil=>simp[addTo,Tp.us]
 | cons x l ih =>
  rw[List.map_cons,List.flatten_cons,Tp.us_app,<-ih]
  unfold addTo
  rw[List.length_cons,List.range_succ_eq_map,List.map_cons,List.flatten_cons,List.map_map]
  have e2:(qOf of (x :: l)) ∘ Nat.succ=qOf of l:=by
   funext i
   simp[qOf]
  rw[e2]
  simp[qOf]
theorem uf {m:Tp.M}{of:Bs}(hof:of≠[]) (hpc:m.procs.length<=1000) (hct:(Tp.allR m).length<=100000) {w:World}{ob nb:Nat}{ia ga pa ba:Option Addr}{ic gc pc bc:Nat}(hnb:nb<w.heap.size) (h:MB w nb m ia ga pa ba ic gc pc bc) (hu:UseSt w ob nb of []) :
  Calls Tryz.prog 122 #[.agg #[.string (bs m.name),.slice ia m.imports.length ic,.slice ga m.vars.length gc,.slice pa m.procs.length pc,.slice ba m.body.length bc],usedV ob nb] w (UseP w ob nb of (Tp.us of (Tp.allR m))):=by
 have he:Tp.us of (Tp.allR m)=([]:List Bs)++addTo (qOf of m.procs) m.procs.length++Tp.us of (Tp.rs m.body):=by
  rw[us_ps,List.nil_append]
  unfold Tp.allR
  rw[Tp.us_app]
 have hln:=Tp.us_len of (Tp.allR m)
 rw[he]at hln ⊢
 refine xO hnb hu (by omega) (fun i hi=>?_) ?_ hpc
 ·obtain⟨pcs,p1,p2⟩:=h.pr
  obtain⟨g,cap,q1,q2,q3,q4⟩:=yt p2 (by omega)
  cases q1
  obtain⟨pv,vv,bv,bcs',r1,r2,r3,r4,r5⟩:=jk m.procs pcs p1 i hi
  obtain⟨y3,c3,rfl⟩:=r2.shape
  obtain⟨y4,c4,rfl⟩:=r3.shape
  obtain⟨y5,c5,rfl⟩:=r5.shape
  have hc:=fun j (hj:j<6)=>(q4 (i * 6+j) (by omega)).trans (r1 j hj)
  refine⟨g,m.procs[i].name,m.procs[i].pos,m.procs[i].seen,y3,y4,y5,_,_,_,c3,c4,c5,rfl,q2,hc 0 (by omega),hc 1 (by omega),hc 2 (by omega),hc 3 (by omega),hc 4 (by omega),hc 5 (by omega),?_⟩
  have:qOf of m.procs i=Tp.us of (Tp.rs m.procs[i].body):=by unfold qOf;rw[List.getElem?_eq_getElem hi];rfl
  rw[this]
  exact yM hof _ _ zn w _ _ _ (fun b hb=>hb) hnb r4 r5
 ·obtain⟨bcs,b1,b2⟩:=h.bd
  exact yM hof _ _ zn w _ _ _ (fun b hb=>hb) hnb b1 b2
theorem MB.to {w w':World}{m:Tp.M}{ia ga pa ba:Option Addr}{ic gc pc bc B:Nat}(h:MB w w.heap.size m ia ga pa ba ic gc pc bc) (k:Below w.heap.size w w') (hB:w.heap.size<=B):MB w' B m ia ga pa ba ic gc pc bc:=by
 have hk:∀ b,b<w.heap.size->b<w.heap.size->w'.heap[b]?=w.heap[b]?/\b<B:=fun b hi _=>⟨k.block b hi,Nat.lt_of_lt_of_le hi hB⟩
 obtain⟨pcs,p1,p2⟩:=h.pr
 obtain⟨bcs,b1,b2⟩:=h.bd
 exact⟨h.im.mono hk,h.gl.mono hk,⟨pcs,p1.mono hk _ _,p2.mono hk⟩,⟨bcs,b1.mono' hk,b2.mono hk⟩⟩
theorem used_postS {m:Tp.M}(hpc:m.procs.length<=1000) (hct:(Tp.allR m).length<=100000) {w:World}{ia ga pa ba:Option Addr}{ic gc pc bc:Nat}(h:MB w w.heap.size m ia ga pa ba ic gc pc bc) (of:Bs) :
  Calls Tryz.prog 91 #[.agg #[.string (bs m.name),.slice ia m.imports.length ic,.slice ga m.vars.length gc,.slice pa m.procs.length pc,.slice ba m.body.length bc],.string (bs of)] w fun e w'=>∃(a:Option Addr) (c:Nat) (l:List Bs),e=.returned (.slice a l.length c)/\l.length<=(Tp.allR m).length/\(∀ x,x∈l↔x∈Tp.usedR m of)/\StrsAt w' l a/\Below w.heap.size w w':=by
 have hie:(bs of).toList.isEmpty=of.isEmpty:=by rw[zj]
 by_cases h0:of=[]
 ·subst h0
  have hie':(bs []).toList.isEmpty=true:=hie
  have HE:Hid (∀ x:Bs,x∈([]:List Bs)↔x∈Tp.usedR m []):=fun x=>by simp[Tp.usedR]
  have HB:Hid (∀ o1 o2,Below w.heap.size w ((w.alloc o1).alloc o2)):=fun o1 o2=>(zb _ _).alloc (by simp) _
  clear h hie
  go_enter Tryz.func91,Tryz.ntmps91
  go_wp2_with fail
  go_ret
  exact⟨none,0,[],rfl,Nat.zero_le _,HE.out,⟨fun i hi=>by simp at hi⟩,HB.out _ _⟩
 ·have hie':(bs of).toList.isEmpty=false:=by
   rw[hie]
   cases of with
   | nil=>exact absurd rfl h0
   | cons a t=>rfl
  obtain⟨w0,hw0⟩:∃ w0,w0=((w.alloc (.cells #[.string (bs m.name),.slice ia m.imports.length ic,.slice ga m.vars.length gc,.slice pa m.procs.length pc,.slice ba m.body.length bc] 36)).alloc (.cells #[.string (bs of)] 9)).alloc (.cells #[.slice none 0 0] 25):=⟨_,rfl⟩
  have hb0:Below w.heap.size w w0:=by rw[hw0];exact((zb _ _).alloc (by simp) _).alloc (by simp;omega) _
  have hs0:w0.heap.size=w.heap.size+3:=by rw[hw0];simp
  have hkn:w0.heap[w.heap.size+1+1]?=some (.cells #[.slice none 0 0] 25 (0,0)):=by
   rw[hw0]
   have:=zo ((w.alloc (.cells #[.string (bs m.name),.slice ia m.imports.length ic,.slice ga m.vars.length gc,.slice pa m.procs.length pc,.slice ba m.body.length bc] 36)).alloc (.cells #[.string (bs of)] 9)) (.cells #[.slice none 0 0] 25)
   simpa using this
  have hko:w0.heap[w.heap.size+1]?=some (.cells #[.string (bs of)] 9 (0,0)):=by
   rw[hw0,Below.heap_alloc _ _ _ (by simp)]
   have:=zo (w.alloc (.cells #[.string (bs m.name),.slice ia m.imports.length ic,.slice ga m.vars.length gc,.slice pa m.procs.length pc,.slice ba m.body.length bc] 36)) (.cells #[.string (bs of)] 9)
   simpa using this
  have hu0:UseSt w0 (w.heap.size+1) (w.heap.size+1+1) of []:=⟨(za hko).trans rfl,⟨_,hkn,World.ownsRow_nil _ _ _ _⟩,by omega⟩
  have HC:=zh (uf h0 hpc hct (by omega) (h.to (B:=w.heap.size+1+1) hb0 (by omega)) hu0)
  have HB0:=zh hb0
  have HUS:Hid (Tp.us of (Tp.allR m)=Tp.usedR m of):=Tp.us_used h0
  have hul:=Tp.us_len of (Tp.allR m)
  clear hb0 hkn hko hu0 h hie
  go_enter Tryz.func91,Tryz.ntmps91
  go_wp2_with fail
  rw[<-hw0]
  clear hw0
  refine HC.out.mono ?_
  rintro e w1 ⟨rfl,hb1,hu1,hk1⟩
  generalize Tp.us of (Tp.allR m)=l at *
  obtain⟨v,hv1,hv2⟩:=hu1.c
  have k1:w1.cell? ⟨w.heap.size+1+1,0,none⟩=some v:=(za hv1).trans rfl
  have hl1:w.heap.size+1+1<w1.heap.size:=zf hv1
  have HB1:Hid (Below (w.heap.size+1+1) w0 w1):=hb1
  have HSO:=zh (sortS_post hv2 (by omega))
  have HV2:=zh hv2
  have HK1:=zh hv1
  clear hb1 hu1 hk1 hv1 hv2 HC
  obtain⟨a,c,rfl⟩:=zw HV2.out
  go_wp2_with fail
  refine HSO.out.mono ?_
  rintro e w2 ⟨rfl,l2,hl2,hm2,ho2,hg2⟩
  have hne:some (w.heap.size+1+1)≠(Value.slice a l.length c).ownBlock:=fun q=>by
   have:=(HV2.out.lt _ q.symm).1
   omega
  have e2:=(hg2.block _ hl1 hne).trans HK1.out
  have k2:w2.cell? ⟨w.heap.size+1+1,0,none⟩=some (.slice a l.length c):=(za e2).trans rfl
  have hl2':w.heap.size+1+1<w2.heap.size:=zf e2
  have HB2:Hid (Below w.heap.size w w2):=by
   have:Below (w.heap.size+1+1) w0 w2:=HB1.out.grown hg2 (by omega) (fun k hk=>by have:=(HV2.out.lt k hk).1;omega)
   exact HB0.out.trans (this.mono (by omega))
  have hcp:=ug ho2 (by omega)
  have HCP:=zh hcp
  have HO2:=zh ho2
  have HM2:=zh hm2
  clear hcp ho2 hm2 hg2 e2 HSO k1 HK1
  go_wp2_with fail
  refine HCP.out.mono ?_
  rintro e w3 ⟨a3,c3,l3,rfl,hl3,hm3,hst,hg3⟩
  have HB3:Hid (Below w.heap.size w w3):=HB2.out.grown hg3 (by omega) (fun k hk=>by have:=(HO2.out.lt k hk).1;omega)
  have HM3:Hid (∀ x,x∈l3↔x∈Tp.usedR m of):=fun x=>by rw[hm3,HM2.out,HUS.out]
  have HST:=zh hst
  clear hm3 hst hg3 HCP k2
  go_wp2_with fail
  go_ret
  exact⟨a3,c3,l3,rfl,by omega,HM3.out,HST.out,HB3.out⟩
end Go.Proofs.YtibncofnnlbmcaaGreatDoor
