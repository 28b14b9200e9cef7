import Derived.Test.YtibncofnnlbmcaaGreatDoorKMf
import Derived.Test.YtibncofnnlbmcaaGreatDoorKShc
import Derived.Test.YtibncofnnlbmcaaGreatDoorKUa
import Derived.Sort.OwnSorted
import Derived.Shelf.Slices.In.SortNone
set_option maxRecDepth 100000
set_option maxHeartbeats 4000000
namespace Go.Proofs.YtibncofnnlbmcaaGreatDoor
open Go.RowKit Go.Sort
open Tp (Bs)
theorem uT {b:List Bs}{x:Bs}:x∈Lib.compact b↔x∈b:=by
 unfold Lib.compact Lib.compactUpTo
 simp only[List.mem_map,List.mem_filter,List.mem_range]
 constructor
 ·rintro⟨j,⟨a,_⟩,rfl⟩
  rw[getElem!_pos _ j (by simpa using a)]
  simp
 ·intro c
  obtain⟨j,a,rfl⟩:=List.getElem_of_mem c
  clear c
  induction j with
  |zero=>exact⟨0,⟨a,by simp[Lib.keeps]⟩,by rw[getElem!_pos _ 0 (by simpa using a)];simp⟩
  |succ j ih =>
   by_cases h:b[j+1]=b[j]
   ·obtain⟨k,d,e⟩:=ih (by omega)
    exact⟨k,d,by rw[e,h]⟩
   ·refine⟨j+1,⟨a,?_⟩,by rw[getElem!_pos _ (j+1) (by simpa using a)];simp⟩
    simp only[Lib.keeps,decide_eq_true_eq]
    refine Or.inr ?_
    rw[getElem!_pos _ (j+1) (by simpa using a),show j+1-1=j from rfl,getElem!_pos _ j (by simp;omega)]
    simpa using h
theorem qs (a:List Bs):(Lib.compact a).length<=a.length:=by
 unfold Lib.compact Lib.compactUpTo
 rw[List.length_map]
 have:=List.length_filter_le (Lib.keeps a.toArray) (List.range a.length)
 simpa using this
theorem sortS_post {w:World}{b:Nat}{v:Value}{l:List Bs}(h:w.ownsRow b 9 1 v l.length (strs l))(d:l.length<=1000000) :
  Calls Tryz.prog 125 #[v] w fun e w'=>e=.returned (.tuple #[])/\∃l':List Bs,l'.length=l.length/\(∀x,x∈l'↔x∈l)/\w'.ownsRow b 9 1 v l'.length (strs l')/\w.grownBy w' v.ownBlock:=by
 rcases h.2 with⟨rfl,c⟩|⟨g,cap,cur,rfl,hbase,hb,h1,h2,h3,h4⟩
 ·rw[c]at d ⊢
  refine(calls_of_every_depth fun D=>AnyS.slices_Sort_string_none_alone Tryz.laysSort D none 0 w).mono ?_
  rintro e w'⟨rfl,rfl⟩
  refine⟨rfl,[],rfl,?_,World.ownsRow_nil _ _ _ _,⟨rfl,rfl,rfl,Nat.le_refl _,fun _ _ _=>rfl⟩⟩
  have:=List.eq_nil_of_length_eq_zero c
  subst this
  exact fun _=>Iff.rfl
 ·refine(calls_of_every_depth fun D=>AnyS.slices_Sort_string_alone Tryz.laysSort D g 0 cap l w (holds_of_block hb (by rw[Nat.mul_one]at h4;exact h4)) (zf hb) (by omega)).mono ?_
  rintro e w'⟨rfl,n,os,rfl⟩
  have a:(l.mergeSort fun x y=>decide (x<=y)).length=l.length:=by simp
  refine⟨rfl,_,a,fun x=>by simp,?_,grownBy_sorted _⟩
  rw[a]
  exact ownsRow_sorted a hbase hb h1 h2 h3
theorem ut {w:World}{k:Nat}{v:Value}{l:List Bs}(h:w.ownsRow k 9 1 v l.length (strs l))(p:l.length<=1000000) :
  Calls Tryz.prog 126 #[v] w fun e w'=>∃(a:Option Addr) (c:Nat) (l':List Bs),e=.returned (.slice a l'.length c)/\l'.length<=l.length/\(∀x,x∈l'↔x∈l)/\StrsAt w' l' a/\w.grownBy w' v.ownBlock:=by
 rcases h.2 with⟨rfl,j⟩|⟨g,cap,cur,rfl,hbase,hb,h1,h2,h3,h4⟩
 ·rw[j]at p ⊢
  refine(calls_of_every_depth fun D=>AnyS.slices_Compact_string_empty_in Tryz.laysCompact D none 0 w).mono ?_
  rintro e w'⟨rfl,rfl⟩
  refine⟨none,0,[],rfl,Nat.zero_le _,?_,⟨fun i b=>by simp at b⟩,⟨rfl,rfl,rfl,Nat.le_refl _,fun _ _ _=>rfl⟩⟩
  have:=List.eq_nil_of_length_eq_zero j
  subst this
  exact fun _=>Iff.rfl
 ·refine(calls_of_every_depth fun D=>AnyS.slices_Compact_string_in Tryz.laysCompact D g 0 cap l w (holds_of_block hb (by rw[Nat.mul_one]at h4;exact h4)) (by omega) h1).mono ?_
  rintro e w'⟨rfl,q,rfl⟩
  have o:=qs l
  have m:(Lib.compact l++List.replicate (l.length-(Lib.compact l).length) []).length=l.length:=by simp;omega
  have f:=ownsRow_sorted (n:=q) (os:=#[]) m hbase hb h1 h2 h3
  have d:=grownBy_sorted (w:=w) (g:=g) (n:=q) (os:=#[]) (Lib.compact l++List.replicate (l.length-(Lib.compact l).length) []).toArray
  rw[grow_empty]at f d
  refine⟨some ⟨g,0,none⟩,cap,Lib.compact l,rfl,o,fun x=>uT,⟨fun i b=>⟨g,0,rfl,?_,?_⟩⟩,d⟩
  ·exact Nat.lt_of_lt_of_le (zf hb) d.size
  ·rw[f.cellAt (0+i) (by simp;omega)]
   rw[Nat.zero_add,List.map_append,List.getElem?_append_left (by simpa using b),List.getElem?_map,List.getElem?_eq_getElem b]
   rfl
end Go.Proofs.YtibncofnnlbmcaaGreatDoor
namespace Go.Proofs.YtibncofnnlbmcaaGreatDoor
open Go.RowKit Go.Maps
open Tp (Bs X S Pr)
def qOf (of:Bs) (l:List Pr) (i:Nat):List Bs:=((l[i]?).map fun p=>Tp.us of (Tp.rs p.body)).getD []
theorem us_ps (of:Bs):∀(l:List Pr),addTo (qOf of l) l.length=Tp.us of ((l.map fun p=>Tp.rs p.body).flatten):=by
 intro l
 induction l with
 |nil=>simp[addTo,Tp.us]
 |cons x l ih =>
  rw[List.map_cons,List.flatten_cons,Tp.us_app,<-ih]
  unfold addTo
  rw[List.length_cons,List.range_succ_eq_map,List.map_cons,List.flatten_cons,List.map_map]
  have a:(qOf of (x :: l)) ∘ Nat.succ=qOf of l:=by
   funext i
   simp[qOf]
  rw[a]
  simp[qOf]
theorem ur {m:Tp.M}{of:Bs}(f:of≠[])(x:m.procs.length<=1000)(U:(Tp.allR m).length<=100000){w:World}{ob c:Nat}{q n s k:Option Addr}{r o t l:Nat}(d:c<w.heap.size)(h:MB w c m q n s k r o t l)(E:UseSt w ob c of []) :
  Calls Tryz.prog 122 #[.agg #[.string (bs m.name),.slice q m.imports.length r,.slice n m.vars.length o,.slice s m.procs.length t,.slice k m.body.length l],usedV ob c] w (UseP w ob c of (Tp.us of (Tp.allR m))):=by
 have C:Tp.us of (Tp.allR m)=([]:List Bs)++addTo (qOf of m.procs) m.procs.length++Tp.us of (Tp.rs m.body):=by
  rw[us_ps,List.nil_append]
  unfold Tp.allR
  rw[Tp.us_app]
 have v:=Tp.us_len of (Tp.allR m)
 rw[C]at v ⊢
 refine xY d E (by omega) (fun i p=>?_) ?_ x
 ·obtain⟨y,F,G⟩:=h.pr
  obtain⟨g,cap,H,I,X,J⟩:=yu G (by omega)
  cases H
  obtain⟨W,vv,V,S,K,L,N,O,u⟩:=jq m.procs y F i p
  obtain⟨P,c3,rfl⟩:=L.shape
  obtain⟨Q,A,rfl⟩:=N.shape
  obtain⟨R,B,rfl⟩:=u.shape
  have a:=fun j (D:j<6)=>(J (i*6+j) (by omega)).trans (K j D)
  refine⟨g,m.procs[i].name,m.procs[i].pos,m.procs[i].seen,P,Q,R,_,_,_,c3,A,B,rfl,I,a 0 (by omega),a 1 (by omega),a 2 (by omega),a 3 (by omega),a 4 (by omega),a 5 (by omega),?_⟩
  have:qOf of m.procs i=Tp.us of (Tp.rs m.procs[i].body):=by unfold qOf;rw[List.getElem?_eq_getElem p];rfl
  rw[this]
  exact yO f _ _ zn w _ _ _ (fun b e=>e) d O u
 ·obtain⟨T,z,b2⟩:=h.bd
  exact yO f _ _ zn w _ _ _ (fun b e=>e) d z b2
theorem MB.to {w w':World}{m:Tp.M}{i e l c:Option Addr}{j f n d B:Nat}(h:MB w w.heap.size m i e l c j f n d)(k:Below w.heap.size w w')(r:w.heap.size<=B):MB w' B m i e l c j f n d:=by
 have a:∀b,b<w.heap.size->b<w.heap.size->w'.heap[b]?=w.heap[b]?/\b<B:=fun b g _=>⟨k.block b g,Nat.lt_of_lt_of_le g r⟩
 obtain⟨p,s,t⟩:=h.pr
 obtain⟨o,q,b2⟩:=h.bd
 exact⟨h.im.mono a,h.gl.mono a,⟨p,s.mono a _ _,t.mono a⟩,⟨o,q.mono' a,b2.mono a⟩⟩
theorem used_postS {m:Tp.M}(b5:m.procs.length<=1000)(b1:(Tp.allR m).length<=100000){w:World}{o j r f:Option Addr}{p n s g:Nat}(h:MB w w.heap.size m o j r f p n s g)(of:Bs) :
  Calls Tryz.prog 91 #[.agg #[.string (bs m.name),.slice o m.imports.length p,.slice j m.vars.length n,.slice r m.procs.length s,.slice f m.body.length g],.string (bs of)] w fun e w'=>∃(a:Option Addr) (c:Nat) (l:List Bs),e=.returned (.slice a l.length c)/\l.length<=(Tp.allR m).length/\(∀x,x∈l↔x∈Tp.usedR m of)/\StrsAt w' l a/\Below w.heap.size w w':=by
 have u:(bs of).toList.isEmpty=of.isEmpty:=by rw[zj]
 by_cases z:of=[]
 ·subst z
  have a0:(bs []).toList.isEmpty=true:=u
  have HE:Hid (∀x:Bs,x∈([]:List Bs)↔x∈Tp.usedR m []):=fun x=>by simp[Tp.usedR]
  have HB:Hid (∀Z o2,Below w.heap.size w ((w.alloc Z).alloc o2)):=fun Z o2=>(zb _ _).alloc (by simp) _
  clear h u
  go_enter Tryz.func91,Tryz.ntmps91
  go_wp2_with fail
  go_ret
  exact⟨none,0,[],rfl,Nat.zero_le _,HE.out,⟨fun i hi=>by simp at hi⟩,HB.out _ _⟩
 ·have a0:(bs of).toList.isEmpty=false:=by
   rw[u]
   cases of with
   |nil=>exact absurd rfl z
   |cons a t=>rfl
  obtain⟨b,d⟩:∃b,b=((w.alloc (.cells #[.string (bs m.name),.slice o m.imports.length p,.slice j m.vars.length n,.slice r m.procs.length s,.slice f m.body.length g] 36)).alloc (.cells #[.string (bs of)] 9)).alloc (.cells #[.slice none 0 0] 25):=⟨_,rfl⟩
  have C:Below w.heap.size w b:=by rw[d];exact((zb _ _).alloc (by simp) _).alloc (by simp;omega) _
  have b9:b.heap.size=w.heap.size+3:=by rw[d];simp
  have Q:b.heap[w.heap.size+1+1]?=some (.cells #[.slice none 0 0] 25 (0,0)):=by
   rw[d]
   have:=zo ((w.alloc (.cells #[.string (bs m.name),.slice o m.imports.length p,.slice j m.vars.length n,.slice r m.procs.length s,.slice f m.body.length g] 36)).alloc (.cells #[.string (bs of)] 9)) (.cells #[.slice none 0 0] 25)
   simpa using this
  have R:b.heap[w.heap.size+1]?=some (.cells #[.string (bs of)] 9 (0,0)):=by
   rw[d,Below.heap_alloc _ _ _ (by simp)]
   have:=zo (w.alloc (.cells #[.string (bs m.name),.slice o m.imports.length p,.slice j m.vars.length n,.slice r m.procs.length s,.slice f m.body.length g] 36)) (.cells #[.string (bs of)] 9)
   simpa using this
  have V:UseSt b (w.heap.size+1) (w.heap.size+1+1) of []:=⟨(za R).trans rfl,⟨_,Q,World.ownsRow_nil _ _ _ _⟩,by omega⟩
  have X:=zh (ur z b5 b1 (by omega) (h.to (B:=w.heap.size+1+1) C (by omega)) V)
  have a1:=zh C
  have b0:Hid (Tp.us of (Tp.allR m)=Tp.usedR m of):=Tp.us_used z
  have c0:=Tp.us_len of (Tp.allR m)
  clear C Q R V h u
  go_enter Tryz.func91,Tryz.ntmps91
  go_wp2_with fail
  rw[<-d]
  clear d
  refine X.out.mono ?_
  rintro e I⟨rfl,N,W,b2⟩
  generalize Tp.us of (Tp.allR m)=l at *
  obtain⟨v,y,F⟩:=W.c
  have k1:I.cell? ⟨w.heap.size+1+1,0,none⟩=some v:=(za y).trans rfl
  have b3:w.heap.size+1+1<I.heap.size:=zf y
  have a2:Hid (Below (w.heap.size+1+1) b I):=N
  have L:=zh (sortS_post F (by omega))
  have A:=zh F
  have K:=zh y
  clear N W b2 y F X
  obtain⟨a,c,rfl⟩:=zw A.out
  go_wp2_with fail
  refine L.out.mono ?_
  rintro e w2⟨rfl,l2,b7,S,E,D⟩
  have b4:some (w.heap.size+1+1)≠(Value.slice a l.length c).ownBlock:=fun q=>by
   have:=(A.out.lt _ q.symm).1
   omega
  have G:=(D.block _ b3 b4).trans K.out
  have k2:w2.cell? ⟨w.heap.size+1+1,0,none⟩=some (.slice a l.length c):=(za G).trans rfl
  have b6:w.heap.size+1+1<w2.heap.size:=zf G
  have a4:Hid (Below w.heap.size w w2):=by
   have:Below (w.heap.size+1+1) b w2:=a2.out.grown D (by omega) (fun k H=>by have:=(A.out.lt k H).1;omega)
   exact a1.out.trans (this.mono (by omega))
  have O:=ut E (by omega)
  have J:=zh O
  have a8:=zh E
  have a6:=zh S
  clear O E S D G L k1 K
  go_wp2_with fail
  refine J.out.mono ?_
  rintro e w3⟨a3,c3,Y,rfl,b8,T,U,P⟩
  have a5:Hid (Below w.heap.size w w3):=a4.out.grown P (by omega) (fun k H=>by have:=(a8.out.lt k H).1;omega)
  have a7:Hid (∀x,x∈Y↔x∈Tp.usedR m of):=fun x=>by rw[T,a6.out,b0.out]
  have a9:=zh U
  clear T U P J k2
  go_wp2_with fail
  go_ret
  exact⟨a3,c3,Y,rfl,by omega,a7.out,a9.out,a5.out⟩
end Go.Proofs.YtibncofnnlbmcaaGreatDoor
