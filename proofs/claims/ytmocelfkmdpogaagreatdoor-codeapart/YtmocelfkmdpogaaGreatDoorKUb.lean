import Derived.Test.YtmocelfkmdpogaaGreatDoorKUa
import Derived.Test.YtmocelfkmdpogaaGreatDoorKMg
import Derived.Sort.OwnSorted
import Derived.Shelf.Slices.In.SortNone
import Derived.Lib.SliceRun
import Derived.Laws.AppendOwnNone
set_option maxRecDepth 100000
set_option maxHeartbeats 4000000
namespace Go.Proofs.YtmocelfkmdpogaaGreatDoor
open Go.RowKit Go.Maps
open Tp (Bs X S Pr)
def qOf (of:Bs) (l:List Pr) (i:Nat):List Bs:=((l[i]?).map fun p=>Tp.us of (Tp.rs p.body)).getD []
theorem us_ps (of:Bs):∀(l:List Pr),addTo (qOf of l) l.length=Tp.us of ((l.map fun p=>Tp.rs p.body).flatten):=by
 intro l
 induction l with
 | nil=>simp[addTo,Tp.us]
 | cons x l ih =>
  rw[List.map_cons,List.flatten_cons,Tp.us_app,<-ih]
  unfold addTo
  rw[List.length_cons,List.range_succ_eq_map,List.map_cons,List.flatten_cons,List.map_map]
  have e2:(qOf of (x :: l)) ∘ Nat.succ=qOf of l:=by
   funext i
   simp[qOf]
  rw[e2]
  simp[qOf]
theorem uN {m:Tp.M}{of:Bs}(hof:of≠[]) (hpc:m.procs.length<=1000) (hct:(Tp.allR m).length<=100000) {w:World}{ob nb:Nat}{ia ga pa ba:Option Addr}{ic gc pc bc:Nat}(hnb:nb<w.heap.size) (h:MB w nb m ia ga pa ba ic gc pc bc) (hu:UseSt w ob nb of []) :
  Calls Tryz.prog 37 #[.agg #[.string (bs m.name),.slice ia m.imports.length ic,.slice ga m.vars.length gc,.slice pa m.procs.length pc,.slice ba m.body.length bc],usedV ob nb] w (UseP w ob nb of (Tp.us of (Tp.allR m))):=by
 have he:Tp.us of (Tp.allR m)=([]:List Bs)++addTo (qOf of m.procs) m.procs.length++Tp.us of (Tp.rs m.body):=by
  rw[us_ps,List.nil_append]
  unfold Tp.allR
  rw[Tp.us_app]
 have hln:=Tp.us_len of (Tp.allR m)
 rw[he]at hln ⊢
 refine vD hnb hu (by omega) (fun i hi=>?_) ?_ hpc
 ·obtain⟨pcs,p1,p2⟩:=h.pr
  obtain⟨g,cap,q1,q2,q3,q4⟩:=yw p2 (by omega)
  cases q1
  obtain⟨pv,vv,bv,bcs',r1,r2,r3,r4,r5⟩:=jl m.procs pcs p1 i hi
  obtain⟨y3,c3,rfl⟩:=r2.shape
  obtain⟨y4,c4,rfl⟩:=r3.shape
  obtain⟨y5,c5,rfl⟩:=r5.shape
  have hc:=fun j (hj:j<6)=>(q4 (i * 6+j) (by omega)).trans (r1 j hj)
  refine⟨g,m.procs[i].name,m.procs[i].pos,m.procs[i].seen,y3,y4,y5,_,_,_,c3,c4,c5,rfl,q2,hc 0 (by omega),hc 1 (by omega),hc 2 (by omega),hc 3 (by omega),hc 4 (by omega),hc 5 (by omega),?_⟩
  have:qOf of m.procs i=Tp.us of (Tp.rs m.procs[i].body):=by unfold qOf;rw[List.getElem?_eq_getElem hi];rfl
  rw[this]
  exact kx hof _ _ zn w _ _ _ (fun b hb=>hb) hnb r4 r5
 ·obtain⟨bcs,b1,b2⟩:=h.bd
  exact kx hof _ _ zn w _ _ _ (fun b hb=>hb) hnb b1 b2
end Go.Proofs.YtmocelfkmdpogaaGreatDoor
namespace Go.Proofs.YtmocelfkmdpogaaGreatDoor
open Go.RowKit Go.Maps Go.Sort
open Tp (Bs X S Pr)
def sK (K:List Bs):List Bs:=K.mergeSort (fun x y=>decide (x<=y))
theorem sK_len (K:List Bs):(sK K).length=K.length:=by simp[sK]
theorem sK_mem {K:List Bs}{x:Bs}:x∈sK K↔x∈K:=by simp[sK]
theorem qT (a b:Bs):(decide (a<=b) || decide (b<=a))=true:=by
 rcases List.le_total a b with h|h <;> simp[h]
theorem qS (a b c:Bs) (h1:decide (a<=b)=true) (h2:decide (b<=c)=true):decide (a<=c)=true:=by
 simp only [decide_eq_true_eq]at *
 exact List.le_trans h1 h2
theorem sK_sorted (K:List Bs):(sK K).Pairwise (fun x y=>decide (x<=y)=true):=List.pairwise_mergeSort qS qT K
theorem xu {l:List Bs}(h:l.Pairwise (fun x y=>decide (x<=y)=true)):(Lib.compact l).Pairwise (fun x y=>decide (x<=y)=true/\x≠y):=by
 unfold Lib.compact Lib.compactUpTo
 rw[List.pairwise_map]
 have hr:(List.range l.length).Pairwise (·<·):=List.pairwise_lt_range
 have hf:=hr.filter (Lib.keeps l.toArray)
 refine List.Pairwise.imp_of_mem (fun {j k} hj hk hjk=>?_) (by simpa using hf)
 simp only [List.mem_filter,List.mem_range]at hj hk
 have hkl:k<l.length:=by simpa using hk.1
 have hjl:j<l.length:=by omega
 rw[getElem!_pos _ j (by simpa using hjl),getElem!_pos _ k (by simpa using hkl)]
 simp only [List.getElem_toArray]
 have hg:=List.pairwise_iff_getElem.1 h
 refine⟨hg j k hjl hkl hjk,fun e=>?_⟩
 have hk2:=hk.2
 simp only [Lib.keeps,decide_eq_true_eq]at hk2
 rcases hk2 with q|q
 ·omega
 ·have hk1:k - 1<l.length:=by omega
  rw[getElem!_pos _ k (by simpa using hkl),getElem!_pos _ (k - 1) (by simpa using hk1)]at q
  simp only [List.getElem_toArray]at q
  have h1:=hg (k - 1) k hk1 hkl (by omega)
  have h2:decide (l[j]<=l[k - 1])=true:=by
   by_cases e2:j=k - 1
   ·subst e2;simp
   ·exact hg j (k - 1) hjl hk1 (by omega)
  rw[e]at h2
  simp only [decide_eq_true_eq]at h1 h2
  exact q (List.le_antisymm h2 h1)
theorem sortE_post {w:World}{base:Nat}{v:Value}{l:List Bs}(h:w.ownsRow base 9 1 v l.length (strs l)) (hl:l.length<=1000000) :
  Calls Tryz.prog 40 #[v] w fun e w'=>e=.returned (.tuple #[])/\w'.ownsRow base 9 1 v l.length (strs (sK l))/\w.grownBy w' v.ownBlock:=by
 rcases h.2 with⟨rfl,h0⟩|⟨g,cap,cur,rfl,hbase,hb,h1,h2,h3,h4⟩
 ·rw[h0]at hl ⊢
  refine(calls_of_every_depth fun D=>AnyS.slices_Sort_string_none_alone Tryz.laysSort D none 0 w).mono ?_
  rintro e w' ⟨rfl,rfl⟩
  have:=List.eq_nil_of_length_eq_zero h0
  subst this
  have e0:strs (sK [])=[]:=by simp[sK,strs]
  rw[e0]
  exact⟨rfl,World.ownsRow_nil _ _ _ _,⟨rfl,rfl,rfl,Nat.le_refl _,fun _ _ _=>rfl⟩⟩
 ·refine(calls_of_every_depth fun D=>AnyS.slices_Sort_string_alone Tryz.laysSort D g 0 cap l w (holds_of_block hb (by rw[Nat.mul_one]at h4;exact h4)) (zi hb) (by omega)).mono ?_
  rintro e w' ⟨rfl,n,os,rfl⟩
  have hlen:(l.mergeSort fun x y=>decide (x<=y)).length=l.length:=by simp
  exact⟨rfl,ownsRow_sorted hlen hbase hb h1 h2 h3,grownBy_sorted _⟩
theorem vF {w:World}{base:Nat}{v:Value}{l:List Bs}(h:w.ownsRow base 9 1 v l.length (strs l)) (hl:l.length<=1000000) :
  Calls Tryz.prog 41 #[v] w fun e w'=>∃(a:Option Addr) (c:Nat),e=.returned (.slice a (Lib.compact l).length c)/\Row w' (fun b=>base<=b) 9 1 (.slice a (Lib.compact l).length c) (Lib.compact l).length (strs (Lib.compact l))/\w.grownBy w' v.ownBlock:=by
 rcases h.2 with⟨rfl,h0⟩|⟨g,cap,cur,rfl,hbase,hb,h1,h2,h3,h4⟩
 ·refine(calls_of_every_depth fun D=>AnyS.slices_Compact_string_empty_in Tryz.laysCompact D none 0 w).mono ?_
  rintro e w' ⟨rfl,rfl⟩
  have:=List.eq_nil_of_length_eq_zero h0
  subst this
  have e0:Lib.compact ([]:List Bs)=[]:=by simp[Lib.compact,Lib.compactUpTo]
  rw[e0]
  exact⟨none,0,rfl,Or.inl ⟨rfl,rfl,rfl⟩,⟨rfl,rfl,rfl,Nat.le_refl _,fun _ _ _=>rfl⟩⟩
 ·refine(calls_of_every_depth fun D=>AnyS.slices_Compact_string_in Tryz.laysCompact D g 0 cap l w (holds_of_block hb (by rw[Nat.mul_one]at h4;exact h4)) (by omega) h1).mono ?_
  rintro e w' ⟨rfl,q,rfl⟩
  have hcl:=jY l
  have hlen:(Lib.compact l++List.replicate (l.length - (Lib.compact l).length) []).length=l.length:=by simp;omega
  have hrow:=ownsRow_sorted (n:=q) (os:=#[]) hlen hbase hb h1 h2 h3
  have hgr:=grownBy_sorted (w:=w) (g:=g) (n:=q) (os:=#[]) (Lib.compact l++List.replicate (l.length - (Lib.compact l).length) []).toArray
  rw[grow_empty]at hrow hgr
  refine⟨some ⟨g,0,none⟩,cap,rfl,?_,hgr⟩
  rcases hrow.2 with⟨q1,_⟩|⟨g',cap',cur',q1,q2,q3,q4,q5,q6,q7⟩
  ·cases q1
  ·cases q1
   refine Or.inr ⟨_,_,cur',rfl,q2,q3,by omega,q5,q6,?_⟩
   have q8:=congrArg (fun z:List Value=>z.take (Lib.compact l).length) q7
   simp only [List.take_take,Nat.mul_one]at q8 ⊢
   rw[Nat.min_eq_left hcl]at q8
   rw[q8]
   unfold strs
   rw[List.map_append,List.take_left' (by simp)]
   rfl
theorem MB.to {w w':World}{m:Tp.M}{ia ga pa ba:Option Addr}{ic gc pc bc B:Nat}(h:MB w w.heap.size m ia ga pa ba ic gc pc bc) (k:Below w.heap.size w w') (hB:w.heap.size<=B):MB w' B m ia ga pa ba ic gc pc bc:=by
 have hk:∀ b,b<w.heap.size->b<w.heap.size->w'.heap[b]?=w.heap[b]?/\b<B:=fun b hi _=>⟨k.block b hi,Nat.lt_of_lt_of_le hi hB⟩
 obtain⟨pcs,p1,p2⟩:=h.pr
 obtain⟨bcs,b1,b2⟩:=h.bd
 exact⟨h.im.mono hk,h.gl.mono hk,⟨pcs,p1.mono hk _ _,p2.mono hk⟩,⟨bcs,b1.mono' hk,b2.mono hk⟩⟩
theorem usedE_post {m:Tp.M}(hpc:m.procs.length<=1000) (hct:(Tp.allR m).length<=100000) {w:World}{ia ga pa ba:Option Addr}{ic gc pc bc:Nat}(h:MB w w.heap.size m ia ga pa ba ic gc pc bc) (of:Bs) :
  Calls Tryz.prog 10 #[.agg #[.string (bs m.name),.slice ia m.imports.length ic,.slice ga m.vars.length gc,.slice pa m.procs.length pc,.slice ba m.body.length bc],.string (bs of)] w fun e w'=>∃(a:Option Addr) (c:Nat),e=.returned (.slice a (Lib.compact (sK (Tp.usedR m of))).length c)/\Row w' (fun b=>w.heap.size<=b) 9 1 (.slice a (Lib.compact (sK (Tp.usedR m of))).length c) (Lib.compact (sK (Tp.usedR m of))).length (strs (Lib.compact (sK (Tp.usedR m of))))/\Below w.heap.size w w':=by
 have hie:(bs of).toList.isEmpty=of.isEmpty:=by rw[zy]
 by_cases h0:of=[]
 ·subst h0
  have hie':(bs []).toList.isEmpty=true:=hie
  have HE:Hid (Lib.compact (sK (Tp.usedR m []))=[]):=by
   show _=_
   have e:Tp.usedR m []=[]:=by simp[Tp.usedR]
   rw[e]
   simp[sK,Lib.compact,Lib.compactUpTo]
  have HB:Hid (∀ o1 o2,Below w.heap.size w ((w.alloc o1).alloc o2)):=fun o1 o2=>(zb _ _).alloc (by simp) _
  clear h hie
  go_enter Tryz.func10,Tryz.ntmps10
  go_wp2_with fail
  go_ret
  refine⟨none,0,?_,?_,HB.out _ _⟩
  ·rw[HE.out];rfl
  ·rw[HE.out];exact Or.inl ⟨rfl,rfl,rfl⟩
 ·have hie':(bs of).toList.isEmpty=false:=by
   rw[hie]
   cases of with
   | nil=>exact absurd rfl h0
   | cons a t=>rfl
  obtain⟨w0,hw0⟩:∃ w0,w0=((w.alloc (.cells #[.string (bs m.name),.slice ia m.imports.length ic,.slice ga m.vars.length gc,.slice pa m.procs.length pc,.slice ba m.body.length bc] 29)).alloc (.cells #[.string (bs of)] 9)).alloc (.cells #[.slice none 0 0] 22):=⟨_,rfl⟩
  have hb0:Below w.heap.size w w0:=by rw[hw0];exact((zb _ _).alloc (by simp) _).alloc (by simp;omega) _
  have hs0:w0.heap.size=w.heap.size+3:=by rw[hw0];simp
  have hkn:w0.heap[w.heap.size+1+1]?=some (.cells #[.slice none 0 0] 22 (0,0)):=by
   rw[hw0]
   have:=zk ((w.alloc (.cells #[.string (bs m.name),.slice ia m.imports.length ic,.slice ga m.vars.length gc,.slice pa m.procs.length pc,.slice ba m.body.length bc] 29)).alloc (.cells #[.string (bs of)] 9)) (.cells #[.slice none 0 0] 22)
   simpa using this
  have hko:w0.heap[w.heap.size+1]?=some (.cells #[.string (bs of)] 9 (0,0)):=by
   rw[hw0,Below.heap_alloc _ _ _ (by simp)]
   have:=zk (w.alloc (.cells #[.string (bs m.name),.slice ia m.imports.length ic,.slice ga m.vars.length gc,.slice pa m.procs.length pc,.slice ba m.body.length bc] 29)) (.cells #[.string (bs of)] 9)
   simpa using this
  have hu0:UseSt w0 (w.heap.size+1) (w.heap.size+1+1) of []:=⟨(za hko).trans rfl,⟨_,hkn,World.ownsRow_nil _ _ _ _⟩,by omega⟩
  have HC:=zh (uN h0 hpc hct (by omega) (h.to (B:=w.heap.size+1+1) hb0 (by omega)) hu0)
  have HB0:=zh hb0
  have HUS:Hid (Tp.us of (Tp.allR m)=Tp.usedR m of):=Tp.us_used h0
  have hul:=Tp.us_len of (Tp.allR m)
  clear hb0 hkn hko hu0 h hie
  go_enter Tryz.func10,Tryz.ntmps10
  go_wp2_with fail
  rw[<-hw0]
  clear hw0
  refine HC.out.mono ?_
  rintro e w1 ⟨rfl,hb1,hu1,hk1⟩
  generalize Tp.us of (Tp.allR m)=l at *
  obtain⟨v,hv1,hv2⟩:=hu1.c
  have k1:w1.cell? ⟨w.heap.size+1+1,0,none⟩=some v:=(za hv1).trans rfl
  have hl1:w.heap.size+1+1<w1.heap.size:=zi hv1
  have HB1:Hid (Below (w.heap.size+1+1) w0 w1):=hb1
  have HSO:=zh (sortE_post hv2 (by omega))
  have HV2:=zh hv2
  have HK1:=zh hv1
  clear hb1 hu1 hk1 hv1 hv2 HC
  obtain⟨a,c,rfl⟩:=zl HV2.out
  go_wp2_with fail
  refine HSO.out.mono ?_
  rintro e w2 ⟨rfl,ho2,hg2⟩
  have hne:some (w.heap.size+1+1)≠(Value.slice a l.length c).ownBlock:=fun q=>by
   have:=(HV2.out.lt _ q.symm).1
   omega
  have e2:=(hg2.block _ hl1 hne).trans HK1.out
  have k2:w2.cell? ⟨w.heap.size+1+1,0,none⟩=some (.slice a l.length c):=(za e2).trans rfl
  have hl2':w.heap.size+1+1<w2.heap.size:=zi e2
  have HB2:Hid (Below w.heap.size w w2):=by
   have:Below (w.heap.size+1+1) w0 w2:=HB1.out.grown hg2 (by omega) (fun k hk=>by have:=(HV2.out.lt k hk).1;omega)
   exact HB0.out.trans (this.mono (by omega))
  have ho2':w2.ownsRow (w.heap.size+1+1+1) 9 1 (.slice a l.length c) (sK l).length (strs (sK l)):=by rw[sK_len];exact ho2
  have hcp:=vF ho2' (by rw[sK_len];omega)
  have HCP:=zh hcp
  have HO2:=zh ho2
  clear hcp ho2 ho2' hg2 e2 HSO k1 HK1
  go_wp2_with fail
  refine HCP.out.mono ?_
  rintro e w3 ⟨a3,c3,rfl,hst,hg3⟩
  have HB3:Hid (Below w.heap.size w w3):=HB2.out.grown hg3 (by omega) (fun k hk=>by have:=(HO2.out.lt k hk).1;omega)
  have HST:=zh hst
  have HLE:Hid (Lib.compact (sK l)=Lib.compact (sK (Tp.usedR m of))):=by show _=_;rw[HUS.out]
  clear hst hg3 HCP k2
  generalize hcq:(Lib.compact (sK l)).length=cq
  go_wp2_with fail
  go_ret
  exact⟨a3,c3,by rw[<-HLE.out,hcq];rfl,by rw[<-HLE.out];exact HST.out.mono fun b hb _=>⟨rfl,Nat.le_trans (by omega) hb⟩,HB3.out⟩
def uS (m:Tp.M) (of:Bs):List Bs:=Lib.compact (sK (Tp.usedR m of))
theorem uS_mem (m:Tp.M) (of x:Bs):x∈uS m of↔x∈Tp.usedR m of:=by unfold uS;rw[qx,sK_mem]
theorem uS_nodup (m:Tp.M) (of:Bs):(uS m of).Nodup:=List.nodup_iff_pairwise_ne.2 ((xu (sK_sorted _)).imp fun q=>q.2)
theorem uS_len (m:Tp.M) (of:Bs):(uS m of).length<=(Tp.allR m).length:=by
 unfold uS
 have h1:=jY (sK (Tp.usedR m of))
 rw[sK_len]at h1
 have h2:(Tp.usedR m of).length<=(Tp.allR m).length:=by
  unfold Tp.usedR
  rw[List.length_map]
  exact List.length_filter_le _ _
 omega
theorem vX {w:World}{D:Nat->Prop}{a:Option Addr}{c:Nat}{l:List Bs}(h:Row w D 9 1 (.slice a l.length c) l.length (strs l)):StrsAt w l a:=⟨fun i hi=>by
 obtain⟨g,cap,e,_,hg,hc⟩:=yw h (by omega)
 cases e
 refine⟨g,0,rfl,hg,?_⟩
 rw[Nat.zero_add,hc i (by omega)]
 unfold strs
 rw[List.getElem?_map,List.getElem?_eq_getElem hi]
 rfl⟩
theorem xy {m:Tp.M}(hpc:m.procs.length<=1000) (hct:(Tp.allR m).length<=100000) {w:World}{ia ga pa ba:Option Addr}{ic gc pc bc:Nat}(h:MB w w.heap.size m ia ga pa ba ic gc pc bc) (of:Bs) :
  Calls Tryz.prog 10 #[.agg #[.string (bs m.name),.slice ia m.imports.length ic,.slice ga m.vars.length gc,.slice pa m.procs.length pc,.slice ba m.body.length bc],.string (bs of)] w fun e w'=>∃(a:Option Addr) (c:Nat),e=.returned (.slice a (uS m of).length c)/\Row w' (fun b=>w.heap.size<=b) 9 1 (.slice a (uS m of).length c) (uS m of).length (strs (uS m of))/\Below w.heap.size w w':=usedE_post hpc hct h of
end Go.Proofs.YtmocelfkmdpogaaGreatDoor
namespace Go.Proofs.YtmocelfkmdpogaaGreatDoor
open Go.RowKit
open Tp (Bs Sy Seen)
def FirstD (l:List Sy) (del:Sy->Bool) (k:Int):Prop:=(∃(i:Nat) (hi:i<l.length),k=(i:Int)/\del l[i]=true/\∀ q (hq:q<i),del l[q]=false)\/k=-1/\∀ q (hq:q<l.length),del l[q]=false
theorem SyRow.cellAt {w:World}{g cap:Nat}{l:List Sy}(h:SyRow w g cap l) (i:Nat) (hi:i<l.length) (j:Nat) (hj:j<3):w.cell? ⟨g,i * 3+j,none⟩=(encSy l[i])[j]?:=by
 obtain⟨cur,r1,r2,r3⟩:=h.b
 rw[za r1,<-Array.getElem?_toList,<-jk l i hi j hj,<-r3,List.getElem?_take_of_lt (by omega)]
theorem SyRow.on' {w w':World}{g cap:Nat}{l:List Sy}(h:SyRow w g cap l) (k:Below w.heap.size w w'):SyRow w' g cap l:=by
 obtain⟨cur,r1,r2,r3⟩:=h.b
 exact⟨⟨cur,(k.block g (zi r1)).trans r1,r2,r3⟩,h.n,h.m⟩
theorem jp {l:List Sy}{del:Sy->Bool}{j:Nat}(hj:j<l.length) (h:del l[j]=true):((l.take (j+1)).filter fun s=>!del s)=(l.take j).filter fun s=>!del s:=by
 rw[List.take_succ_eq_append_getElem hj,List.filter_append]
 simp[h]
theorem ux {l:List Sy}{del:Sy->Bool}{j:Nat}(hj:j<l.length) (h:del l[j]=false):((l.take (j+1)).filter fun s=>!del s)=((l.take j).filter fun s=>!del s)++[l[j]]:=by
 rw[List.take_succ_eq_append_getElem hj,List.filter_append]
 simp[h]
theorem keep_all {l:List Sy}{del:Sy->Bool}{i:Nat}(hi:i<l.length) (hb:∀ q (hq:q<i),del l[q]=false):((l.take i).filter fun s=>!del s)=l.take i:=by
 rw[List.filter_eq_self]
 intro s hs
 obtain⟨q,hq,rfl⟩:=List.getElem_of_mem hs
 rw[List.length_take]at hq
 simp[List.getElem_take,hb q (by omega)]
theorem keep_first {l:List Sy}{del:Sy->Bool}{i:Nat}(hi:i<l.length) (hd:del l[i]=true) (hb:∀ q (hq:q<i),del l[q]=false):((l.take (i+1)).filter fun s=>!del s).length=i:=by
 rw[jp hi hd,keep_all hi hb,List.length_take]
 omega
structure DlS (w0 w:World) (g cap:Nat) (l:List Sy) (del:Sy->Bool) (j:Nat):Prop where
 x:Ext g w0 w
 c:∃ cur,w.heap[g]?=some (.cells cur 44 (0,0))/\cur.size=cap * 3/\(∀ q (hq:q<((l.take j).filter fun s=>!del s).length),∀ t,t<3->cur[q * 3+t]?=(encSy ((l.take j).filter fun s=>!del s)[q])[t]?)/\∀ q,j<=q->∀(hq:q<l.length),∀ t,t<3->cur[q * 3+t]?=(encSy l[q])[t]?
theorem DlS.start {w w1:World}{g cap:Nat}{l:List Sy}{del:Sy->Bool}{i:Nat}(hs:SyRow w g cap l) (hb:Below w.heap.size w w1) (hi:i<l.length) (hd:del l[i]=true) (hbef:∀ q (hq:q<i),del l[q]=false):DlS w w1 g cap l del (i+1):=by
 obtain⟨cur,r1,r2,r3⟩:=hs.b
 have hcur:∀ q (hq:q<l.length) t,t<3->cur[q * 3+t]?=(encSy l[q])[t]?:=fun q hq t ht=>by
  rw[<-Array.getElem?_toList,<-jk l q hq t ht,<-r3,List.getElem?_take_of_lt (by omega)]
 refine⟨Ext.below hb,cur,(hb.block g (zi r1)).trans r1,r2,?_,fun q _ hq t ht=>hcur q hq t ht⟩
 rw[jp hi hd,keep_all hi hbef]
 intro q hq t ht
 rw[List.length_take]at hq
 rw[hcur q (by omega) t ht,List.getElem_take]
theorem DlS.skip {w0 w W:World}{g cap:Nat}{l:List Sy}{del:Sy->Bool}{j:Nat}(h:DlS w0 w g cap l del j) (hb:Below w.heap.size w W) (hj:j<l.length) (hd:del l[j]=true):DlS w0 W g cap l del (j+1):=by
 obtain⟨cur,c1,c2,c3,c4⟩:=h.c
 refine⟨h.x.trans (Ext.below hb),cur,(hb.block g (zi c1)).trans c1,c2,?_,fun q hq=>c4 q (by omega)⟩
 rw[jp hj hd]
 exact c3
theorem set3_blk {w:World}{g o:Nat}{v0 v1 v2:Value}{cur:Array Value}{e:TypeId}(h:w.heap[g]?=some (.cells cur e (0,0))) (ho:o+3<=cur.size):∃ cur',(((w.setCell ⟨g,o,none⟩ v0).setCell ⟨g,o+1,none⟩ v1).setCell ⟨g,o+2,none⟩ v2).heap[g]?=some (.cells cur' e (0,0))/\cur'.size=cur.size/\(∀ p,p<o\/o+3<=p->cur'[p]?=cur[p]?)/\∀ t u,t<3->[v0,v1,v2][t]?=some u->cur'[o+t]?=some u:=by
 refine⟨_,zw (o+2) v2 (zw (o+1) v1 (zw o v0 h)),?_,?_,?_⟩
 ·simp
 ·intro p hp
  simp only [Array.getElem?_setIfInBounds]
  rw[if_neg (by omega),if_neg (by omega),if_neg (by omega)]
 ·intro t u ht hu
  match t,ht with
  | 0,_=>simp at hu;subst hu;simp[Array.getElem?_setIfInBounds];omega
  | 1,_=>simp at hu;subst hu;simp[Array.getElem?_setIfInBounds];omega
  | 2,_=>simp at hu;subst hu;simp[Array.getElem?_setIfInBounds];omega
theorem DlS.keep {w0 w W:World}{g cap:Nat}{l:List Sy}{del:Sy->Bool}{i j:Nat}(h:DlS w0 w g cap l del j) (hb:Below w.heap.size w W) (hj:j<l.length) (hd:del l[j]=false) (hi:((l.take j).filter fun s=>!del s).length=i) (hij:i<j) :
  DlS w0 (((W.setCell ⟨g,i * 3,none⟩ (.string (bs l[j].1))).setCell ⟨g,i * 3+1,none⟩ (.int .i64 (l[j].2.1:Int))).setCell ⟨g,i * 3+2,none⟩ (.int .i64 l[j].2.2)) g cap l del (j+1):=by
 obtain⟨cur,c1,c2,c3,c4⟩:=h.c
 have cW:=(hb.block g (zi c1)).trans c1
 have hjs:j * 3<cur.size:=by
  have:=c4 j zn hj 0 (by omega)
  simp[encSy]at this
  exact(Array.getElem?_eq_some_iff.1 this).1
 obtain⟨cur',a1,a2,a3,a4⟩:=set3_blk (v0:=.string (bs l[j].1)) (v1:=.int .i64 (l[j].2.1:Int)) (v2:=.int .i64 l[j].2.2) cW (o:=i * 3) (by omega)
 refine⟨((((h.x.trans (Ext.below hb)).set (i * 3) _).set (i * 3+1) _).set (i * 3+2) _),cur',a1,by omega,?_,?_⟩
 ·rw[ux hj hd]
  intro q hq t ht
  rw[List.length_append,hi]at hq
  simp only [List.length_singleton]at hq
  by_cases e:q=i
  ·subst e
   have:(((l.take j).filter fun s=>!del s)++[l[j]])[q]'(by simp;omega)=l[j]:=by rw[List.getElem_append_right (by omega)];simp
   rw[this]
   have hu:∃ u,(encSy l[j])[t]?=some u:=⟨_,List.getElem?_eq_getElem (by simpa[encSy] using ht)⟩
   obtain⟨u,hu⟩:=hu
   rw[a4 t u ht (by simpa[encSy] using hu),hu]
  ·rw[List.getElem_append_left (by omega),a3 _ (by omega)]
   exact c3 q (by omega) t ht
 ·intro q hq hql t ht
  rw[a3 _ (by omega)]
  exact c4 q (by omega) hql t ht
theorem vW {g:Nat}{e:TypeId}:∀(vs:List Value) (o:Nat) (w:World) (cur:Array Value),w.heap[g]?=some (.cells cur e (0,0))->∃ cur',(w.setCells g o vs).heap[g]?=some (.cells cur' e (0,0))/\cur'.size=cur.size/\(∀ p,p<o->cur'[p]?=cur[p]?)/\Ext g w (w.setCells g o vs):=by
 intro vs
 induction vs with
 | nil=>intro o w cur h;exact⟨cur,h,rfl,fun _ _=>rfl,Ext.refl _ _⟩
 | cons v r ih =>
  intro o w cur h
  obtain⟨cur',a1,a2,a3,a4⟩:=ih (o+1) (w.setCell ⟨g,o,none⟩ v) _ (zw o v h)
  refine⟨cur',a1,by simpa using a2,fun p hp=>?_,((Ext.refl g w).set o v).trans a4⟩
  rw[a3 p (by omega),Array.getElem?_setIfInBounds_ne (by omega)]
theorem DlS.clear {w0 w:World}{g cap n i:Nat}{l:List Sy}{del:Sy->Bool}{j:Nat}(h:DlS w0 w g cap l del j) (hj:j=l.length) (hi:(l.filter fun s=>!del s).length=i) (hin:i<n) (hcap:n<=cap) (hm:cap<=maxLen) :
  ∃ wC,(∀ ty c,(Builtin.clear_ #[41] ty #[.slice (some ⟨g,i * 3,none⟩) (n - i) c]).run Tryz.prog w=.ok (.tuple #[]) wC)/\Ext g w0 wC/\SyRow wC g cap (l.filter fun s=>!del s):=by
 obtain⟨cur,c1,c2,c3,c4⟩:=h.c
 rw[hj,List.take_length]at c3
 have hlen:(Builtin.zeroCells (Value.agg #[.string ⟨#[]⟩,.int .i64 0,.int .i64 0]).cells (n - i)).toList.length=(n - i) * 3:=by simp[Builtin.zeroCells,Value.cells]
 have hone:∀ v∈(Builtin.zeroCells (Value.agg #[.string ⟨#[]⟩,.int .i64 0,.int .i64 0]).cells (n - i)).toList,v.oneCell'=true:=by
  intro v hv
  simp only [Builtin.zeroCells,Value.cells,Array.toList_map,List.mem_map]at hv
  obtain⟨p,_,rfl⟩:=hv
  have hp:p % 3<3:=Nat.mod_lt _ (by omega)
  show (#[Value.string ⟨#[]⟩,Value.int .i64 0,Value.int .i64 0][p % 3]!).oneCell'=true
  rcases(show p % 3=0\/p % 3=1\/p % 3=2 by omega) with e|e|e <;> rw[e] <;> rfl
 have hst:=run_storeCells_cells (P:=Tryz.prog) g (i * 3) (Builtin.zeroCells (Value.agg #[.string ⟨#[]⟩,.int .i64 0,.int .i64 0]).cells (n - i)).toList 0 w (by
  intro q hq
  rw[hlen]at hq
  rw[za c1,Array.getElem?_eq_getElem (by omega)]
  rfl) (fun q _=>zg c1) hone
 obtain⟨cur',a1,a2,a3,a4⟩:=vW (Builtin.zeroCells (Value.agg #[.string ⟨#[]⟩,.int .i64 0,.int .i64 0]).cells (n - i)).toList (i * 3) w cur c1
 refine⟨_,fun ty c=>?_,h.x.trans a4,⟨⟨cur',a1,by omega,?_⟩,by omega,hm⟩⟩
 ·obtain⟨m,hmm⟩:∃ m,n - i=m+1:=⟨n - i - 1,by omega⟩
  rw[hmm]at hst ⊢
  simp only [Nat.add_zero]at hst
  simp[Builtin.clear_,run_underlying Tryz.underlying41,hst]
 ·apply List.ext_getElem?
  intro p
  rw[hi]
  by_cases hp:p<i * 3
  ·have hp1:p=(p / 3) * 3+p % 3:=by omega
   rw[List.getElem?_take_of_lt hp,Array.getElem?_toList,a3 p hp]
   have e1:=c3 (p / 3) (by omega) (p % 3) (by omega)
   have e2:=jk (l.filter fun s=>!del s) (p / 3) (by omega) (p % 3) (by omega)
   rw[<-hp1]at e1 e2
   rw[e1,e2]
  ·rw[List.getElem?_eq_none (by simp;omega),List.getElem?_eq_none (by rw[jj,hi];omega)]
theorem indexA {w0 w:World}{g cap cb:Nat}{l:List Sy}{del:Sy->Bool}(hx:Ext g w0 w) (hs:SyRow w g cap l) (hn:l.length<=1000) (hd:∀ W s,s∈l->Ext g w0 W->Calls Tryz.prog 13 #[.agg #[.string (bs s.1),.int .i64 (s.2.1:Int),.int .i64 s.2.2],.pointer (some ⟨cb,0,none⟩)] W fun e w'=>e=.returned (.bool (del s))/\Below W.heap.size W w') :
  Calls Tryz.prog 42 #[.slice (some ⟨g,0,none⟩) l.length cap,.func (.func 13) #[] #[.pointer (some ⟨cb,0,none⟩)]] w fun e w'=>(∃ k:Int,e=.returned (.int .i64 k)/\FirstD l del k)/\Below w.heap.size w w':=by
 have hn':(l.length:Int)<=1000:=by omega
 have HSL:=zh hs
 have HX:=zh hx
 have HD:=zh hd
 obtain⟨cur,hcb,hcs,hct⟩:=hs.b
 have hgl:=zi hcb
 obtain⟨ln,hnl⟩:∃ ln,ln=l.length:=⟨_,rfl⟩
 rw[<-hnl]at hn' ⊢
 have HN:=zh hnl
 clear hs hx hd hnl hcb hcs hct
 go_enter Tryz.func42,Tryz.ntmps42
 go_wp2_with fail
 go_loopg [8] ln (fun k vi wr=>∃ i:Nat,i<=ln/\k=ln - i/\vi=.int .i64 (i:Int)/\Hid (∀ k (hk:k<l.length),k<i->del l[k]=false)/\Hid (Below w.heap.size w wr))
 case atStart=>exact⟨0,by omega,by omega,rfl,fun k _ hk=>by omega,Below.refl _ _⟩
 case round =>
  obtain⟨i,hid,hk,rfl,HI,HW⟩:=hrel
  by_cases hlt:i<ln
  ·have hlt':(i:Int)<(ln:Int):=by omega
   have hia:i<l.length:=by have:=HN.out;omega
   have hc:=fun j (hj:j<3)=>(HW.out.cell (p:=⟨g,i * 3+j,none⟩) hgl).trans (HSL.out.cellAt i hia j hj)
   have kc0:wr.cell? ⟨g,i * 3,none⟩=some (.string (bs l[i].1)):=hc 0 (by omega)
   have kc1:wr.cell? ⟨g,i * 3+1,none⟩=some (.int .i64 (l[i].2.1:Int)):=hc 1 (by omega)
   have kc2:wr.cell? ⟨g,i * 3+2,none⟩=some (.int .i64 l[i].2.2):=hc 2 (by omega)
   have hlgr:g<wr.heap.size:=by have:=HW.out.size;omega
   have HF:=zh (HD.out wr l[i] (List.getElem_mem hia) (HX.out.trans (Ext.below HW.out)))
   have HAT:Hid (del l[i]=true->FirstD l del (i:Int)):=fun e=>Or.inl ⟨i,hia,rfl,e,fun k hk=>HI.out k (by omega) hk⟩
   have HNX:Hid (del l[i]=false->∀ k (hk:k<l.length),k<i+1->del l[k]=false):=by
    intro hne k hk hlt
    by_cases e:k=i
    ·subst e;exact hne
    ·exact HI.out k hk (by omega)
   clear hc
   generalize del l[i]=dd at *
   generalize l[i].1=x0 at *
   generalize l[i].2.1=x1 at *
   generalize l[i].2.2=x2 at *
   go_wp2_with fail
   refine HF.out.mono ?_
   rintro e w3 ⟨rfl,h3⟩
   have HW3:=zh (HW.out.trans (h3.mono HW.out.size))
   clear h3
   cases dd with
   | true =>
    have HE:=zh (HAT.out rfl)
    go_wp2_with fail
    go_ret
    exact⟨⟨_,rfl,HE.out⟩,HW3.out⟩
   | false =>
    have HI3:=zh (HNX.out rfl)
    go_wp2_with fail
    go_roundg (ln - (i+1))
    case measure=>omega
    case rel=>exact⟨i+1,by omega,rfl,by go_num,HI3,HW3⟩
  ·have hlt':¬(i:Int)<(ln:Int):=by omega
   have HE:Hid (FirstD l del (-1)):=Or.inr ⟨rfl,fun k hk=>HI.out k hk (by have:=HN.out;omega)⟩
   go_wp2_with fail
   go_ret
   exact⟨⟨_,rfl,HE.out⟩,HW.out⟩
theorem deleteA {w:World}{g cap cb:Nat}{l:List Sy}{del:Sy->Bool}(hs:SyRow w g cap l) (hn:l.length<=1000) (hd:∀ W s,s∈l->Ext g w W->Calls Tryz.prog 13 #[.agg #[.string (bs s.1),.int .i64 (s.2.1:Int),.int .i64 s.2.2],.pointer (some ⟨cb,0,none⟩)] W fun e w'=>e=.returned (.bool (del s))/\Below W.heap.size W w') :
  Calls Tryz.prog 11 #[.slice (some ⟨g,0,none⟩) l.length cap,.func (.func 13) #[] #[.pointer (some ⟨cb,0,none⟩)]] w fun e w'=>(∃ n,e=.returned (.slice (some ⟨g,0,none⟩) n cap)/\n=(l.filter fun s=>!del s).length)/\SyRow w' g cap (l.filter fun s=>!del s)/\Ext g w w':=by
 have hn':(l.length:Int)<=1000:=by omega
 have HIX:=zh (indexA (Ext.refl _ _) hs hn hd)
 have HSL:=zh hs
 have HD:=zh hd
 obtain⟨cur,hcb,hcs,hct⟩:=hs.b
 have hgl:=zi hcb
 have hcap:=hs.n
 have hcap':(l.length:Int)<=(cap:Int):=by omega
 obtain⟨ln,hnl⟩:∃ ln,ln=l.length:=⟨_,rfl⟩
 rw[<-hnl]at hn' HIX hcap hcap' ⊢
 have HN:=zh hnl
 clear hs hd hnl hcb hcs hct
 go_enter Tryz.func11,Tryz.ntmps11
 go_wp2_with fail
 refine HIX.out.mono ?_
 rintro e w1 ⟨⟨k,rfl,hfd⟩,hb1⟩
 rcases hfd with⟨i0,hi0,rfl,hdel,hbef⟩|⟨rfl,hnone⟩
 rotate_left
 ·have HF:Hid ((l.filter fun s=>!del s)=l):=by
   unfold Hid
   rw[List.filter_eq_self]
   intro s hs
   obtain⟨q,hq,rfl⟩:=List.getElem_of_mem hs
   simp[hnone q hq]
  have HS1:=zh (HSL.out.on' hb1)
  have HB1:=zh hb1
  clear hnone hb1
  go_wp2_with fail
  go_ret
  rw[HF.out]
  exact⟨⟨_,rfl,HN.out⟩,HS1.out,Ext.below HB1.out⟩
 have HDL1:Hid (DlS w w1 g cap l del (i0+1)):=DlS.start HSL.out hb1 hi0 hdel hbef
 have hsl1:w.heap.size<=w1.heap.size:=hb1.size
 have hi0n:(i0:Int)<(ln:Int):=by have:=HN.out;omega
 have HK0:Hid (((l.take (i0+1)).filter fun s=>!del s).length=i0):=keep_first hi0 hdel hbef
 have hi0l:i0<ln:=by omega
 clear hdel hbef hb1
 go_wp2_with fail
 go_loopg [5,6] (ln - (i0+1)) (fun k vi vj wr=>∃ j:Nat,j<=ln/\k=ln - j/\vj=.int .i64 (j:Int)/\(∃ i:Nat,vi=.int .i64 (i:Int)/\i<j/\Hid (((l.take j).filter fun s=>!del s).length=i))/\Hid (DlS w wr g cap l del j))
 case atStart=>exact⟨i0+1,by omega,by omega,by go_num,⟨i0,rfl,by omega,HK0⟩,HDL1⟩
 case round =>
  obtain⟨j,hjd,hk,rfl,⟨i,rfl,hij,HKI⟩,HDL⟩:=hrel
  obtain⟨cur',hc1,hc2,hc3,hc4⟩:=HDL.out.c
  have hgr:g<wr.heap.size:=zi hc1
  have hfz:∀ o,wr.frozen? ⟨g,o,none⟩=false:=fun o=>zg hc1
  by_cases hlt:j<ln
  ·have hlt':(j:Int)<(ln:Int):=by omega
   have hja:j<l.length:=by have:=HN.out;omega
   have hin:(i:Int)<(ln:Int):=by omega
   have hcj:=fun t (ht:t<3)=>hc4 j zn hja t ht
   have kc0:wr.cell? ⟨g,j * 3,none⟩=some (.string (bs l[j].1)):=(za hc1).trans (hcj 0 (by omega))
   have kc1:wr.cell? ⟨g,j * 3+1,none⟩=some (.int .i64 (l[j].2.1:Int)):=(za hc1).trans (hcj 1 (by omega))
   have kc2:wr.cell? ⟨g,j * 3+2,none⟩=some (.int .i64 l[j].2.2):=(za hc1).trans (hcj 2 (by omega))
   obtain⟨w2,hw2⟩:∃ w2,w2=wr.alloc (.cells #[.string (bs l[j].1),.int .i64 (l[j].2.1:Int),.int .i64 l[j].2.2] 44):=⟨_,rfl⟩
   have hb2:Below wr.heap.size wr w2:=by rw[hw2];exact zb _ _
   have hk2:w2.heap[wr.heap.size]?=some (.cells #[.string (bs l[j].1),.int .i64 (l[j].2.1:Int),.int .i64 l[j].2.2] 44 (0,0)):=by rw[hw2];exact zk _ _
   have hs2:wr.heap.size<w2.heap.size:=zi hk2
   have HF:=zh (HD.out w2 l[j] (List.getElem_mem hja) (HDL.out.x.trans (Ext.below hb2)))
   have HB2:=zh hb2
   have HK2:=zh hk2
   have m0:w2.cell? ⟨wr.heap.size,0,none⟩=some (.string (bs l[j].1)):=(za hk2).trans rfl
   have m1:w2.cell? ⟨wr.heap.size,1,none⟩=some (.int .i64 (l[j].2.1:Int)):=(za hk2).trans rfl
   have m2:w2.cell? ⟨wr.heap.size,2,none⟩=some (.int .i64 l[j].2.2):=(za hk2).trans rfl
   have HST:Hid (∀ W,Below wr.heap.size wr W->(del l[j]=true->DlS w W g cap l del (j+1))/\(del l[j]=false->DlS w (((W.setCell ⟨g,i * 3,none⟩ (.string (bs l[j].1))).setCell ⟨g,i * 3+1,none⟩ (.int .i64 (l[j].2.1:Int))).setCell ⟨g,i * 3+2,none⟩ (.int .i64 l[j].2.2)) g cap l del (j+1))/\W.heap[g]?=wr.heap[g]?):=fun W hW=>⟨fun e=>HDL.out.skip hW hja e,fun e=>HDL.out.keep hW hja e HKI.out hij,hW.block _ hgr⟩
   have HKT:Hid (del l[j]=true->((l.take (j+1)).filter fun s=>!del s).length=i):=fun e=>by rw[jp hja e];exact HKI.out
   have HKF:Hid (del l[j]=false->((l.take (j+1)).filter fun s=>!del s).length=i+1):=fun e=>by rw[ux hja e,List.length_append,HKI.out];rfl
   have HCU:Hid (wr.heap[g]?=some (.cells cur' 44 (0,0))/\cur'.size=cap * 3):=⟨hc1,hc2⟩
   clear hcj hb2 hk2 hc1 hc2 hc3 hc4
   generalize del l[j]=dd at *
   generalize l[j].1=x0 at *
   generalize l[j].2.1=x1 at *
   generalize l[j].2.2=x2 at *
   go_upto_region 8 with fail
   rw[<-hw2]
   clear hw2 kc0 kc1 kc2
   go_wp2_with fail
   refine HF.out.mono ?_
   rintro e w3 ⟨rfl,h3⟩
   have hb3:=HB2.out.trans (h3.mono HB2.out.size)
   have HS3:=zh (HST.out w3 hb3)
   have e3:=(h3.block _ hs2).trans HK2.out
   have n0:w3.cell? ⟨wr.heap.size,0,none⟩=some (.string (bs x0)):=(za e3).trans rfl
   have n1:w3.cell? ⟨wr.heap.size,1,none⟩=some (.int .i64 (x1:Int)):=(za e3).trans rfl
   have n2:w3.cell? ⟨wr.heap.size,2,none⟩=some (.int .i64 x2):=(za e3).trans rfl
   have hs3:wr.heap.size<w3.heap.size:=zi e3
   have g3:=HS3.out.2.2.trans HCU.out.1
   have hg3:g<w3.heap.size:=zi g3
   have hz3:∀ o,w3.frozen? ⟨g,o,none⟩=false:=fun o=>zg g3
   obtain⟨u0,t0⟩:∃ u,w3.cell? ⟨g,i * 3,none⟩=some u:=⟨_,(za g3).trans (Array.getElem?_eq_getElem (by have:=HCU.out.2;omega))⟩
   obtain⟨u1,t1⟩:∃ u,w3.cell? ⟨g,i * 3+1,none⟩=some u:=⟨_,(za g3).trans (Array.getElem?_eq_getElem (by have:=HCU.out.2;omega))⟩
   obtain⟨u2,t2⟩:∃ u,w3.cell? ⟨g,i * 3+2,none⟩=some u:=⟨_,(za g3).trans (Array.getElem?_eq_getElem (by have:=HCU.out.2;omega))⟩
   clear h3 hb3 HF m0 m1 m2 e3 g3
   cases dd with
   | true =>
    have HD3:=zh (HS3.out.1 rfl)
    have HK3:=zh (HKT.out rfl)
    go_wp2_with fail
    go_roundg (ln - (j+1))
    case measure=>omega
    case rel=>exact⟨j+1,by omega,rfl,by go_num,⟨i,rfl,by omega,HK3⟩,HD3⟩
   | false =>
    have HD3:=zh (HS3.out.2.1 rfl)
    have HK3:=zh (HKF.out rfl)
    go_wp2_with fail
    go_roundg (ln - (j+1))
    case measure=>omega
    case rel=>exact⟨j+1,by omega,rfl,by go_num,⟨i+1,by go_num,by omega,HK3⟩,HD3⟩
  ·have hlt':¬(j:Int)<(ln:Int):=by omega
   have hjl:j=l.length:=by have:=HN.out;omega
   have HKL:Hid ((l.filter fun s=>!del s).length=i):=by
    have:=HKI.out
    rw[hjl,List.take_length]at this
    exact this
   have hil:i<ln:=by have:=HN.out;omega
   have hin:(i:Int)<(ln:Int):=by omega
   obtain⟨wC,hclr,hext,hrow⟩:=DlS.clear HDL.out hjl HKL.out (by have:=HN.out;omega) hcap HSL.out.m
   have HR:=zh hrow
   have HE:=zh hext
   clear hrow hext hc1 hc2 hc3 hc4 hjl
   go_wp2_with fail
   go_ret
   exact⟨by rw[HKL.out];rfl,HR.out,HE.out⟩
theorem qg {W:World}{cb:Nat}{a:Option Addr}{c:Nat}{l:List Bs}(hc:W.cell? ⟨cb,0,none⟩=some (.slice a l.length c)) (hs:StrsAt W l a) (hl:l.length<=100000) (s:Sy) :
  Calls Tryz.prog 13 #[.agg #[.string (bs s.1),.int .i64 (s.2.1:Int),.int .i64 s.2.2],.pointer (some ⟨cb,0,none⟩)] W fun e w'=>e=.returned (.bool (!decide (s.1∈l)))/\Below W.heap.size W w':=by
 have hcl:=zc hc
 have HC:Hid (∀ W',Below W.heap.size W W'->Calls Tryz.prog 14 #[.slice a l.length c,.string (bs s.1)] W' fun e w'=>(e=.returned (.bool (decide (s.1∈l))))/\w'=W'):=fun W' hW=>cont_post (hs.on hW) (by omega) s.1
 go_enter Tryz.func13,Tryz.ntmps13
 go_wp2_with fail
 refine(HC.out _ (zb _ _)).mono ?_
 rintro e w' ⟨rfl,rfl⟩
 have HB:Hid (∀ o,Below W.heap.size W (W.alloc o)):=fun o=>zb _ _
 go_wp2_with fail
 go_ret
 exact⟨rfl,HB.out _⟩
theorem enc_one (l:List Sy):∀ u∈sycs l,u.oneCell'=true:=by
 intro u hu
 simp only [sycs,List.mem_flatten,List.mem_map]at hu
 obtain⟨x,⟨s,_,rfl⟩,hx⟩:=hu
 simp[encSy]at hx
 rcases hx with rfl|rfl|rfl <;> rfl
theorem Tryz.eqNilS (w:World):(binOp .eql 41 (.slice none 0 0) (.slice none 0 0)).run Tryz.prog w=.ok (.bool true) w:=by kernel_rfl
theorem Tryz.eqSomeS (w:World) (a:Addr) (n c:Nat):(binOp .eql 41 (.slice (some a) n c) (.slice none 0 0)).run Tryz.prog w=.ok (.bool false) w:=by kernel_rfl
theorem cloneS {w:World}{B:Nat}{v:Value}{l:List Sy}(h:SL w B v l) (hn:l.length<=1000) :
  Calls Tryz.prog 12 #[v] w fun e w'=>∃ v',e=.returned v'/\Below w.heap.size w w'/\SL w' w.heap.size v' l:=by
 have hq0:=Tryz.eqNilS
 have hq1:=Tryz.eqSomeS
 obtain⟨i0,hi,hz0,hz1,hz2⟩:=info_parts Tryz.infoSym
 rcases h with⟨rfl,rfl⟩|⟨g,cap,rfl,hB,hrow⟩
 ·go_enter Tryz.func12,Tryz.ntmps12
  go_wp2_with fail
  go_ret
  exact⟨_,rfl,Below.refl _ _,Or.inl ⟨rfl,rfl⟩⟩
 ·obtain⟨cur,hb,hsz,htk⟩:=hrow.b
  have hal:Below w.heap.size w (w.alloc (.cells #[] 44)):=zb _ _
  have hown:(w.alloc (.cells #[] 44)).ownsRow w.heap.size 44 3 (.slice (some ⟨w.heap.size,0,none⟩) 0 0) 0 [] :=
   ⟨rfl,Or.inr ⟨w.heap.size,0,#[],rfl,Nat.le_refl _,zk _ _,Nat.le_refl _,by unfold maxLen;omega,rfl,rfl⟩⟩
  have hb':(w.alloc (.cells #[] 44)).heap[g]?=some (.cells cur 44 (0,0)):=(Below.heap_alloc _ _ _ (zi hb)).trans hb
  have hnews:∀ j u,(sycs l)[j]?=some u->(w.alloc (.cells #[] 44)).cell? ((⟨g,0,none⟩:Addr).add j)=some u:=by
   intro j u hj
   have hjl:j<l.length * 3:=by rw[<-jj];exact(List.getElem?_eq_some_iff.1 hj).1
   rw[Addr.add_lit,za hb',Nat.zero_add,<-Array.getElem?_toList,<-hj,<-htk,List.getElem?_take_of_lt hjl]
  have HO:=zh hown
  have HAL:=zh hal
  have HNW:=zh hnews
  obtain⟨n,hnl⟩:∃ n,n=l.length:=⟨_,rfl⟩
  have HL:Hid ((sycs l).length=n * 3):=by unfold Hid;rw[hnl];exact jj l
  rw[<-hnl]at hn ⊢
  clear hown hal hb' hb hnews hsz htk hrow hnl
  go_enter Tryz.func12,Tryz.ntmps12
  go_wp2_with (at_builtin;refine zC _ rfl _ _ 41 rfl w.heap.size 44 i0 (.agg #[.string ⟨#[]⟩,.int .i64 0,.int .i64 0]) 3 32 Tryz.underlying41 hi hz0 hz1 hz2 rfl (by decide) _ 0 [] rfl HO.out ⟨g,0,none⟩ n cap (sycs l) rfl HL.out HNW.out (enc_one l) (by unfold maxLen;omega) (by omega) (by simp) ?_)
  intro v3 w3 h3 g3 _
  have HB3:Hid (Below w.heap.size w w3):=HAL.out.trans ((Below.refl w.heap.size _).grown g3 (by simp) (fun k hk=>(HO.out.lt k hk).1))
  have HO3:Hid (SL w3 w.heap.size v3 l):=by
   have:w3.ownsRow w.heap.size 44 3 v3 n (sycs l):=by simpa using h3
   exact(uf this).2
  clear h3 g3
  go_wp2_with fail
  go_ret
  exact⟨_,rfl,HB3.out,HO3.out⟩
theorem indexAnil {w:World}{cb:Nat}:Calls Tryz.prog 42 #[.slice none 0 0,.func (.func 13) #[] #[.pointer (some ⟨cb,0,none⟩)]] w fun e w'=>e=.returned (.int .i64 (-1))/\w'=w:=by
 go_enter Tryz.func42,Tryz.ntmps42
 go_wp2_with fail
 go_loopg [8] 1 (fun k vi wr=>k=1/\vi=.int .i64 0/\wr=w)
 case atStart=>exact⟨rfl,rfl,rfl⟩
 case round =>
  obtain⟨rfl,rfl,rfl⟩:=hrel
  go_wp2_with fail
  go_ret
  exact⟨rfl,rfl⟩
theorem deleteAall {w:World}{B cb:Nat}{v:Value}{l:List Sy}{del:Sy->Bool}(hs:SL w B v l) (hB:B<=w.heap.size) (hn:l.length<=1000) (hd:∀ W s,s∈l->Below B w W->Calls Tryz.prog 13 #[.agg #[.string (bs s.1),.int .i64 (s.2.1:Int),.int .i64 s.2.2],.pointer (some ⟨cb,0,none⟩)] W fun e w'=>e=.returned (.bool (del s))/\Below W.heap.size W w') :
  Calls Tryz.prog 11 #[v,.func (.func 13) #[] #[.pointer (some ⟨cb,0,none⟩)]] w fun e w'=>∃ v',e=.returned v'/\SL w' B v' (l.filter fun s=>!del s)/\Below B w w':=by
 rcases hs with⟨rfl,rfl⟩|⟨g,cap,rfl,hg,hrow⟩
 ·have HI:=zh (@indexAnil w cb)
  clear hd
  go_enter Tryz.func11,Tryz.ntmps11
  go_wp2_with fail
  refine HI.out.mono ?_
  rintro e w' ⟨rfl,rfl⟩
  go_wp2_with fail
  go_ret
  exact⟨_,rfl,Or.inl ⟨rfl,rfl⟩,Below.refl _ _⟩
 ·refine(deleteA hrow hn (fun W s hs hx=>hd W s hs (zR hx hg hB))).mono ?_
  rintro e w' ⟨⟨n,rfl,rfl⟩,hr,hx⟩
  exact⟨_,rfl,Or.inr ⟨g,cap,rfl,hg,hr⟩,zR hx hg hB⟩
def usedF (m:Tp.M) (Sn:Seen) (k:Bs):List Sy:=((Sn k).getD []).filter fun s=>decide (s.1∈Tp.usedR m k)
def lessOf (m:Tp.M) (Sn:Seen) (i:Nat):Seen:=fun k=>if k∈m.imports.take i then some (usedF m Sn k) else none
theorem qD {m:Tp.M}{Sn:Seen}{i:Nat}(hi:i<m.imports.length):lessOf m Sn (i+1)=fun k=>if k=m.imports[i] then some (usedF m Sn m.imports[i]) else lessOf m Sn i k:=by
 funext k
 simp only [lessOf,List.take_succ_eq_append_getElem hi,List.mem_append,List.mem_singleton]
 by_cases e:k=m.imports[i]
 ·simp[e]
 ·simp[e]
theorem uT {m:Tp.M}{Sn:Seen}(h:Tp.check m Sn=none):Tp.check m (lessOf m Sn m.imports.length)=none:=by
 refine Tp.check_less h (fun n hn=>⟨fun s=>decide (s.1∈Tp.usedR m n),?_,fun s hs=>by simpa using hs⟩)
 simp only [lessOf,List.take_length,if_pos hn,usedF]
theorem qd {m:Tp.M}{Sn:Seen}{k:Bs}{l:List Bs}(h:∀ x,x∈l↔x∈Tp.usedR m k):(((Sn k).getD []).filter fun s=>!(!decide (s.1∈l)))=usedF m Sn k:=by
 unfold usedF
 congr 1
 funext s
 simp[h]
theorem usedF_len {m:Tp.M}{Sn:Seen}{k:Bs}(h:((Sn k).getD []).length<=1000):(usedF m Sn k).length<=1000:=Nat.le_trans (List.length_filter_le _ _) h
end Go.Proofs.YtmocelfkmdpogaaGreatDoor
