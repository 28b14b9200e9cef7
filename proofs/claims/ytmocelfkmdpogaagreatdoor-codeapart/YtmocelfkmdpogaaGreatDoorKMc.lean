import Derived.Test.YtmocelfkmdpogaaGreatDoorKMb
set_option maxRecDepth 100000
set_option maxHeartbeats 4000000
namespace Go.Proofs.YtmocelfkmdpogaaGreatDoor
open Go.RowKit Go.Sort
open Tp (Sy G Pr)
theorem uI {α β:Type}(p:α->Bool) (f:α->β) (l:List α) (i:Nat) (h:i<l.length):((l.take (i+1)).filter p).map f=((l.take i).filter p).map f++(if p l[i] then [f l[i]] else []):=by
 rw[List.take_succ_eq_append_getElem h,List.filter_append,List.map_append]
 congr 1
 by_cases hp:p l[i]=true
 ·simp[hp]
 ·simp[hp]
theorem filt_len {α β:Type}(p:α->Bool) (f:α->β) (l:List α):((l.filter p).map f).length<=l.length:=by
 rw[List.length_map];exact List.length_filter_le _ _
def AllSmall (l:List Sy):Prop:=∀ s∈l,s.2.1<100/\s.2.2<100/\-1<=s.2.2/\s.1.length<=100
theorem of_post {m:Tp.M}(hgc:m.vars.length<=10) (hpc:m.procs.length<=10) {w:World}{ia ga pa ba:Option Addr}{ic gc pc bc:Nat}(h:MB w w.heap.size m ia ga pa ba ic gc pc bc) :
  Calls Tryz.prog 25 #[.agg (mcells (bs m.name) (.slice ia m.imports.length ic) (.slice ga m.vars.length gc) (.slice pa m.procs.length pc) (.slice ba m.body.length bc))] w fun e w'=>∃ v,e=.returned v/\Below w.heap.size w w'/\SL w' w.heap.size v (srt (Tp.symsOf m)):=by
 obtain⟨nm,is,gs,ps,body⟩:=m
 obtain⟨pcs,p1,p2⟩:=h.pr
 have hgl:=h.gl
 simp only at hgl p1 p2 hgc hpc
 obtain⟨mg,hmg⟩:∃ mg:Nat->List Sy,mg=fun i=>((gs.take i).filter (·.seen)).map Tp.syG:=⟨_,rfl⟩
 obtain⟨mp,hmp⟩:∃ mp:Nat->List Sy,mp=fun i=>mg gs.length++((ps.take i).filter (·.seen)).map Tp.syP:=⟨_,rfl⟩
 have hlast:mp ps.length=Tp.symsOf ⟨nm,is,gs,ps,body⟩:=by rw[hmp,hmg];simp[Tp.symsOf]
 have hg0:mg 0=[]:=by rw[hmg];simp
 have hp0:mp 0=mg gs.length:=by rw[hmp];simp
 have b1:∀ i,(mg i).length<=10:=by
  intro i;rw[hmg];have:=filt_len (fun g:G=>g.seen) Tp.syG (gs.take i);simp only [List.length_take]at this ⊢;omega
 have b2:∀ i,(mp i).length<=20:=by
  intro i;rw[hmp];have:=filt_len (fun p:Pr=>p.seen) Tp.syP (ps.take i);have:=b1 gs.length;simp only [List.length_take,List.length_append]at *;omega
 rw[<-hlast]
 refine of_walk (mg:=mg) (mp:=mp) (gn:=gs.length) (pn:=ps.length) hg0 ?_ hp0 ?_ (fun i=>by have:=b1 i;omega) (fun i=>by have:=b2 i;omega) (b2 _) (by omega) (by omega)
 ·intro i hi
  obtain⟨g,cap,q1,q2,q3,q4⟩:=yw hgl (by omega)
  cases q1
  have hc:=fun j (hj:j<4)=>(q4 (i * 4+j) (by omega)).trans (qJ gs i hi j hj)
  refine⟨g,gs[i].name,gs[i].pos,gs[i].len,gs[i].seen,rfl,q3,hc 0 (by omega),hc 1 (by omega),hc 2 (by omega),hc 3 (by omega),?_⟩
  rw[hmg]
  exact uI (fun g:G=>g.seen) Tp.syG gs i hi
 ·intro i hi
  obtain⟨g,cap,q1,q2,q3,q4⟩:=yw p2 (by omega)
  cases q1
  obtain⟨pv,vv,bv,bcs',r1,r2,r3,r4,r5⟩:=jl ps pcs p1 i hi
  have hc:=fun j (hj:j<6)=>(q4 (i * 6+j) (by omega)).trans (r1 j hj)
  obtain⟨y3,c3,rfl⟩:=r2.shape
  obtain⟨y4,c4,rfl⟩:=r3.shape
  obtain⟨y5,c5,rfl⟩:=r5.shape
  refine⟨g,ps[i].name,ps[i].pos,ps[i].seen,y3,y4,y5,ps[i].params.length,ps[i].vars.length,ps[i].body.length,c3,c4,c5,rfl,q3,hc 0 (by omega),hc 1 (by omega),hc 2 (by omega),hc 3 (by omega),hc 4 (by omega),hc 5 (by omega),?_⟩
  rw[hmp]
  simp only [List.append_assoc]
  congr 1
  exact uI (fun p:Pr=>p.seen) Tp.syP ps i hi
theorem SL.len {w:World}{B:Nat}{v:Value}{l:List Sy}(h:SL w B v l):∃ a c,v=.slice a l.length c:=by
 rcases h with⟨rfl,rfl⟩|⟨g,cap,rfl,_⟩
 ·exact⟨none,0,rfl⟩
 ·exact⟨_,_,rfl⟩
theorem SL.cell {w:World}{B:Nat}{a:Option Addr}{n c:Nat}{l:List Sy}(h:SL w B (.slice a n c) l) (i:Nat) (hi:i<l.length):∃ g,a=some ⟨g,0,none⟩/\B<=g/\g<w.heap.size/\∀ j,j<3->w.cell? ⟨g,i * 3+j,none⟩=(encSy l[i])[j]?:=by
 rcases h with⟨_,rfl⟩|⟨g,cap,q1,q2,q3⟩
 ·simp at hi
 ·cases q1
  obtain⟨cur,r1,r2,r3⟩:=q3.b
  refine⟨g,rfl,q2,zi r1,fun j hj=>?_⟩
  rw[za r1,<-Array.getElem?_toList,<-jk l i hi j hj,<-r3,List.getElem?_take_of_lt (by omega)]
theorem SL.on {w w':World}{B:Nat}{v:Value}{l:List Sy}(h:SL w B v l) (k:Below w.heap.size w w'):SL w' B v l:=by
 rcases h with q|⟨g,cap,q1,q2,q3⟩
 ·exact Or.inl q
 ·obtain⟨cur,r1,r2,r3⟩:=q3.b
  exact Or.inr ⟨g,cap,q1,q2,⟨⟨cur,(k.block g (zi r1)).trans r1,r2,r3⟩,q3.n,q3.m⟩⟩
end Go.Proofs.YtmocelfkmdpogaaGreatDoor
namespace Go.Proofs.YtmocelfkmdpogaaGreatDoor
open Go.RowKit Go.Sort
open Tp (Sy)
theorem bs_inj {a b:List UInt8}(h:bs a=bs b):a=b:=by
 have:=congrArg (fun x:ByteArray=>x.data.toList) h
 simpa[bs] using this
theorem find1_post (s:Sy) (n:List UInt8) (W:World) (bp:Nat) (hc:W.cell? ⟨bp,0,none⟩=some (.string (bs n))) :
  Calls Tryz.prog 161 #[.agg #[.string (bs s.1),.int .i64 (s.2.1:Int),.int .i64 s.2.2],.pointer (some ⟨bp,0,none⟩)] W fun e w'=>e=.returned (.bool (decide (s.1=n)))/\Below W.heap.size W w':=by
 obtain⟨nm,x1,x2⟩:=s
 simp only
 have hlt:=World.block_lt_of_cell? _ _ hc
 by_cases h:nm=n
 ·subst h
  go_enter Tryz.func161,Tryz.ntmps161
  go_wp2_with fail
  go_ret
  exact⟨by simp,zb _ _⟩
 ·have hne:¬bs nm=bs n:=fun e=>h (bs_inj e)
  go_enter Tryz.func161,Tryz.ntmps161
  go_wp2_with fail
  go_ret
  exact⟨by simp[h,zy],zb _ _⟩
def fidx (l:List Sy) (n:List UInt8):Int:=match l.findIdx? (fun s=>s.1 == n) with
 | some i=>(i:Int)
 | none=>-1
theorem fidx_at {l:List Sy}{n:List UInt8}{i:Nat}(hi:i<l.length) (h:l[i].1=n) (hb:∀ k (hk:k<i),l[k].1≠n):fidx l n=(i:Int):=by
 unfold fidx
 have:l.findIdx? (fun s=>s.1 == n)=some i:=by
  rw[List.findIdx?_eq_some_iff_getElem]
  exact⟨hi,by simpa using h,fun j hj=>by simpa using hb j hj⟩
 rw[this]
theorem fidx_no {l:List Sy}{n:List UInt8}(hb:∀ k (hk:k<l.length),l[k].1≠n):fidx l n=-1:=by
 unfold fidx
 have:l.findIdx? (fun s=>s.1 == n)=none:=by
  rw[List.findIdx?_eq_none_iff]
  intro x hx
  obtain⟨k,hk,rfl⟩:=List.getElem_of_mem hx
  simpa using hb k hk
 rw[this]
theorem index_post {w:World}{B:Nat}{v:Value}{l:List Sy}(h:SL w B v l) (hn:l.length<=1000) (n:List UInt8) (bp:Nat) (hc:w.cell? ⟨bp,0,none⟩=some (.string (bs n))) :
  Calls Tryz.prog 42 #[v,.func (.func 161) #[] #[.pointer (some ⟨bp,0,none⟩)]] w fun e w'=>e=.returned (.int .i64 (fidx l n))/\Below w.heap.size w w':=by
 obtain⟨a,c,rfl⟩:=h.len
 have hn':(l.length:Int)<=1000:=by omega
 have hltp:=World.block_lt_of_cell? _ _ hc
 have HSL:=zh h
 have HC:=zh hc
 obtain⟨ln,hnl⟩:∃ ln,ln=l.length:=⟨_,rfl⟩
 rw[<-hnl]at hn' ⊢
 have HN:=zh hnl
 clear h hnl hc
 go_enter Tryz.func42,Tryz.ntmps42
 go_wp2_with fail
 go_loopg [8] ln (fun k vi wr=>∃ i:Nat,i<=ln/\k=ln - i/\vi=.int .i64 (i:Int)/\Hid (∀ k (hk:k<l.length),k<i->l[k].1≠n)/\Hid (Below w.heap.size w wr))
 case atStart=>exact⟨0,by omega,by omega,rfl,fun k _ hk=>by omega,Below.refl _ _⟩
 case round =>
  obtain⟨i,hid,hk,rfl,HI,HW⟩:=hrel
  by_cases hlt:i<ln
  ·have hlt':(i:Int)<(ln:Int):=by omega
   have hia:i<l.length:=by have:=HN.out;omega
   obtain⟨g,rfl,_,hgl,hcell⟩:=HSL.out.cell i hia
   have hc:=fun j (hj:j<3)=>(HW.out.cell (p:=⟨g,i * 3+j,none⟩) hgl).trans (hcell j hj)
   have kc0:wr.cell? ⟨g,i * 3,none⟩=some (.string (bs l[i].1)):=hc 0 (by omega)
   have kc1:wr.cell? ⟨g,i * 3+1,none⟩=some (.int .i64 (l[i].2.1:Int)):=hc 1 (by omega)
   have kc2:wr.cell? ⟨g,i * 3+2,none⟩=some (.int .i64 l[i].2.2):=hc 2 (by omega)
   have hlgr:g<wr.heap.size:=by have:=HW.out.size;omega
   have HF:=zh (find1_post l[i] n wr bp ((HW.out.cell (p:=⟨bp,0,none⟩) hltp).trans HC.out))
   have HAT:Hid (l[i].1=n->fidx l n=(i:Int)):=fun e=>fidx_at hia e (fun k hk=>HI.out k (by omega) hk)
   have HNX:Hid (¬l[i].1=n->∀ k (hk:k<l.length),k<i+1->l[k].1≠n):=by
    intro hne k hk hlt
    by_cases e:k=i
    ·subst e;exact hne
    ·exact HI.out k hk (by omega)
   clear hc hcell
   generalize l[i].1=x0 at *
   generalize l[i].2.1=x1 at *
   generalize l[i].2.2=x2 at *
   go_wp2_with fail
   refine HF.out.mono ?_
   rintro e w3 ⟨rfl,h3⟩
   have HW3:=zh (HW.out.trans (h3.mono HW.out.size))
   clear h3
   by_cases hx:x0=n
   ·rw[decide_eq_true hx]
    have he:=HAT.out hx
    go_wp2_with fail
    go_ret
    exact⟨by first|rfl|(rw[he];rfl),HW3.out⟩
   ·rw[decide_eq_false hx]
    have HI3:=zh (HNX.out hx)
    go_wp2_with fail
    go_roundg (ln - (i+1))
    case measure=>omega
    case rel=>exact⟨i+1,by omega,rfl,by go_num,HI3,HW3⟩
  ·have hlt':¬(i:Int)<(ln:Int):=by omega
   have he:fidx l n=-1:=fidx_no (fun k hk=>HI.out k hk (by have:=HN.out;omega))
   go_wp2_with fail
   go_ret
   exact⟨by first|rfl|(rw[he];rfl),HW.out⟩
theorem uG {w:World}{B:Nat}{v:Value}{l:List Sy}(h:SL w B v l) (hn:l.length<=1000) (n:List UInt8) :
  Calls Tryz.prog 106 #[v,.string (bs n)] w fun e w'=>e=.returned (.int .i64 (fidx l n))/\Below w.heap.size w w':=by
 have hmf:=zm
 have hal:Below w.heap.size w (w.alloc (.cells #[.string (bs n)] 9)):=zb _ _
 have HC:=zh (index_post (h.on hal) hn n w.heap.size (za (zk _ _)))
 have HAL:=zh hal
 obtain⟨a,c,rfl⟩:=h.len
 clear h
 generalize l.length=ln at *
 go_enter Tryz.func106,Tryz.ntmps106
 go_wp2_with fail
 refine HC.out.mono ?_
 rintro e w1 ⟨rfl,h1⟩
 have H1:=zh (HAL.out.trans (h1.mono (by simp)))
 clear h1
 go_wp2_with fail
 go_ret
 exact⟨rfl,H1.out⟩
end Go.Proofs.YtmocelfkmdpogaaGreatDoor
namespace Go.Proofs.YtmocelfkmdpogaaGreatDoor
open Go.RowKit Go.Maps
open Tp (Bs Th Sy Seen)
def SeenM (w:World) (sb n:Nat) (S:Seen):Prop:=∃ f,MapV w sb n f/\∀ k,match S k with
 | none=>f k=none
 | some l=>∃ v,f k=some v/\SL w 0 v l/\l.length<=1000
theorem MapV.blk {w:World}{b n:Nat}{f:Bs->Option Value}(h:MapV w b n f):∃ es c,w.heap[b]?=some (.map es c):=by
 obtain⟨D,⟨es,clock,h1,_⟩,_⟩:=h.own
 exact⟨es,clock,h1⟩
theorem SL.ext {w w':World}{B b:Nat}{v:Value}{l:List Sy}(h:SL w B v l) (k:Ext b w w') (hb:∃ es c,w.heap[b]?=some (.map es c)):SL w' B v l:=by
 rcases h with q|⟨g,cap,q1,q2,q3⟩
 ·exact Or.inl q
 ·obtain⟨cur,r1,r2,r3⟩:=q3.b
  obtain⟨es,c,hm⟩:=hb
  have hne:g≠b:=fun e=>by rw[e,hm]at r1;cases r1
  exact Or.inr ⟨g,cap,q1,q2,⟨⟨cur,(k.block g (zi r1) hne).trans r1,r2,r3⟩,q3.n,q3.m⟩⟩
theorem SL.shape {w:World}{B:Nat}{v:Value}{l:List Sy}(h:SL w B v l):∃ a c,v=.slice a l.length c:=h.len
theorem SeenM.on {w w':World}{sb n:Nat}{S:Seen}(h:SeenM w sb n S) (k:Below w.heap.size w w'):SeenM w' sb n S:=by
 obtain⟨f,h1,h2⟩:=h
 refine⟨f,h1.on (k.block _ h1.lt),fun q=>?_⟩
 have:=h2 q
 cases hq:S q with
 | none=>rw[hq]at this;exact this
 | some l=>rw[hq]at this;obtain⟨v,a,b,c⟩:=this;exact⟨v,a,b.on k,c⟩
theorem SeenM.lt {w:World}{sb n:Nat}{S:Seen}(h:SeenM w sb n S):sb<w.heap.size:=by
 obtain⟨f,h1,_⟩:=h
 exact h1.lt
theorem SeenM.ext {w w':World}{sb n b:Nat}{S:Seen}(h:SeenM w sb n S) (k:Ext b w w') (hb:∃ es c,w.heap[b]?=some (.map es c)) (hne:sb≠b):SeenM w' sb n S:=by
 obtain⟨f,h1,h2⟩:=h
 refine⟨f,h1.on (k.block _ h1.lt hne),fun q=>?_⟩
 have:=h2 q
 cases hq:S q with
 | none=>rw[hq]at this;exact this
 | some l=>rw[hq]at this;obtain⟨v,a,b,c⟩:=this;exact⟨v,a,b.ext k hb,c⟩
def SeenV (w:World) (sv:Value) (S:Seen):Prop:=(sv=.map none/\∀ k,S k=none)\/∃ sb n,sv=.map (some sb)/\SeenM w sb n S
theorem SeenV.on {w w':World}{sv:Value}{S:Seen}(h:SeenV w sv S) (k:Below w.heap.size w w'):SeenV w' sv S:=by
 rcases h with q|⟨sb,n,h1,h2⟩
 ·exact Or.inl q
 ·exact Or.inr ⟨sb,n,h1,h2.on k⟩
theorem SeenM.look {w:World}{sb n:Nat}{S:Seen}(h:SeenM w sb n S) (l:Bs) (hl:l.length<=1000000) (c:Bool):∃ v,(Instr.lookup 34 (.map (some sb)) (.string (bs l)) c).run Tryz.prog w=.ok (if c then .tuple #[v,.bool (S l).isSome] else v) w/\(∃ a n d,v=.slice a n d)/\SL w 0 v ((S l).getD [])/\((S l).getD []).length<=1000:=by
 obtain⟨f,h1,h2⟩:=h
 have hr:=h1.look (t:=34) Tryz.underlying34 (zeroSyms w) l hl c
 have:=h2 l
 cases hq:S l with
 | none =>
  rw[hq]at this
  rw[this]at hr
  exact⟨_,hr,⟨none,0,0,rfl⟩,Or.inl ⟨rfl,rfl⟩,by simp⟩
 | some ll =>
  rw[hq]at this
  obtain⟨v,a,b,d⟩:=this
  rw[a]at hr
  obtain⟨a1,c1,hv⟩:=b.shape
  exact⟨_,hr,⟨_,_,_,hv⟩,b,d⟩
theorem SeenV.look {w:World}{sv:Value}{S:Seen}(h:SeenV w sv S) (l:Bs) (hl:l.length<=1000000) (c:Bool):∃ v,(Instr.lookup 34 sv (.string (bs l)) c).run Tryz.prog w=.ok (if c then .tuple #[v,.bool (S l).isSome] else v) w/\(∃ a n d,v=.slice a n d)/\SL w 0 v ((S l).getD [])/\((S l).getD []).length<=1000:=by
 rcases h with⟨rfl,hn⟩|⟨sb,n,rfl,h1⟩
 ·have hr:=jP w (t:=34) Tryz.underlying34 (zeroSyms w) l hl c
  rw[hn l]
  exact⟨_,hr,⟨none,0,0,rfl⟩,Or.inl ⟨rfl,rfl⟩,by simp⟩
 ·exact h1.look l hl c
theorem SeenM.store {w w':World}{sb n:Nat}{S:Seen}{f:Bs->Option Value}(hf:MapV w sb n f) (h:∀ k,match S k with
 | none=>f k=none
 | some l=>∃ v,f k=some v/\SL w 0 v l/\l.length<=1000) {x:Bs} {v:Value} {l:List Sy} (hv:SL w 0 v l) (hl:l.length<=1000) (h1:MapV w' sb (n+1) (updV f x v)) (h2:Ext sb w w'):SeenM w' sb (n+1) (fun k=>if k=x then some l else S k):=by
 refine⟨_,h1,fun k=>?_⟩
 by_cases hk:k=x
 ·simp only [if_pos hk,updV]
  exact⟨v,rfl,hv.ext h2 hf.blk,hl⟩
 ·simp only [if_neg hk,updV]
  have:=h k
  cases hq:S k with
  | none=>rw[hq]at this;exact this
  | some ll=>rw[hq]at this;obtain⟨u,a,b,c⟩:=this;exact⟨u,a,b.ext h2 hf.blk,c⟩
theorem jf (w:World) {ops:Array Oper}{rest:List Oper}{o:Oper}{a:Act}{Q:Exit->Act->World->Prop}
  (hg:o.guard=none) (m x v:Operand) (hop:o.op=Op.mapUpdate 34 m x v)
  (b n:Nat) (S:Seen) (hown:SeenM w b n S) (hn:n<1000000) (l:Bs) (hl:l.length<=1000000) (val:Value) (ll:List Sy) (hsl:SL w 0 val ll) (hll:ll.length<=1000) (hm:a.eval m=.map (some b)) (hx:a.eval x=.string (bs l)) (hv:a.eval v=val)
  (hK:∀ w',SeenM w' b (n+1) (fun k=>if k=l then some ll else S k)->Ext b w w'->w'.heap.size=w.heap.size->wpList Tryz.prog ops Q rest (a.put o.dst undef) w') :
  wpList Tryz.prog ops Q (o :: rest) a w:=by
 obtain⟨f,h1,h2⟩:=hown
 exact yH w hg m x v _ hop _ Tryz.underlying34 b n f h1 hn l hl val hm hx hv (fun w' q1 q2 q3=>hK w' (SeenM.store h1 h2 hsl hll q1 q2) q2 q3)
def impsAt (own:Bs) (S:Seen) (l:List Bs) (i:Nat):Tp.Ck:=Tp.imps own S (l.take i).reverse (l.drop i)
theorem qF (own:Bs) (S:Seen) (l:List Bs):impsAt own S l 0=Tp.imps own S [] l:=by simp[impsAt]
theorem impsAt_all (own:Bs) (S:Seen) (l:List Bs):impsAt own S l l.length=none:=by simp[impsAt,Tp.imps]
theorem qG (own:Bs) (S:Seen) {l:List Bs}{i:Nat}{x:Bs}(h:l[i]?=some x):impsAt own S l i=if x=own\/x∈l.take i then some (10,none) else if S x=none then some (8,none) else impsAt own S l (i+1):=by
 obtain⟨hi,e⟩:=List.getElem?_eq_some_iff.1 h
 unfold impsAt
 rw[List.drop_eq_getElem_cons hi,e,Tp.imps,List.take_succ_eq_append_getElem hi,List.reverse_append,e]
 simp
def upTo (S:Seen) (l:List Bs) (i:Nat):Seen:=fun k=>if k∈l.take i then S k else none
theorem upTo_succ {S:Seen}{l:List Bs}{i:Nat}{x:Bs}{ll:List Sy}(h:l[i]?=some x) (hs:S x=some ll):upTo S l (i+1)=fun k=>if k=x then some ll else upTo S l i k:=by
 obtain⟨hi,e⟩:=List.getElem?_eq_some_iff.1 h
 funext k
 unfold upTo
 rw[List.take_succ_eq_append_getElem hi,e]
 by_cases hk:k=x
 ·rw[if_pos (by simp[hk]),if_pos hk,hk,hs]
 ·rw[if_neg hk]
  have:k∈l.take i++[x]↔k∈l.take i:=by simp[hk]
  by_cases hm:k∈l.take i
  ·rw[if_pos (this.2 hm),if_pos hm]
  ·rw[if_neg (fun q=>hm (this.1 q)),if_neg hm]
def thrownE (en:Nat):Ending:=.panicked [{ v:=.iface 97 (.int .i64 (en:Int)),recovered:=false }]
def ImpP (w:World) (own:Bs) (is:List Bs) (S:Seen) (e:Ending) (w':World):Prop:=Below w.heap.size w w'/\match Tp.imps own S [] is with
 | none=>∃ ob n,e=.returned (.map (some ob))/\w.heap.size<=ob/\SeenM w' ob n (fun k=>if k∈is then S k else none)
 | some er=>e=thrownE er.1
def AskI (w:World) (inn:Nat) (ia:Option Addr) (is:List Bs):Prop :=
 ∀ i,i<inn->∃(g:Nat) (x:Bs),ia=some ⟨g,0,none⟩/\g<w.heap.size/\w.cell? ⟨g,i,none⟩=some (.string (bs x))/\x.length<=1000000/\is[i]?=some x
theorem beq_bs (a b:Bs):((bs a).toList == (bs b).toList)=decide (a=b):=by rw[Bool.eq_iff_iff,decide_eq_true_iff,beq_iff_eq,zy,zy]
theorem vw {w:World}{nm:Bs}{inn gn pn bn ic gc pc bc:Nat}{ia ga pa ba:Option Addr}{is:List Bs}{S:Seen}{sv:Value}(hI:AskI w inn ia is) (hl:is.length=inn) (hin:inn<=1000) (hS:SeenV w sv S) :
  Calls Tryz.prog 32 #[.agg #[.string (bs nm),.slice ia inn ic,.slice ga gn gc,.slice pa pn pc,.slice ba bn bc],sv] w (ImpP w nm is S):=by
 obtain⟨wm,hwm⟩:∃ wm,wm=w.alloc (.cells #[.string (bs nm),.slice ia inn ic,.slice ga gn gc,.slice pa pn pc,.slice ba bn bc] 29):=⟨_,rfl⟩
 have hblk0:wm.heap[w.heap.size]?=some (.cells #[.string (bs nm),.slice ia inn ic,.slice ga gn gc,.slice pa pn pc,.slice ba bn bc] 29 (0,0)):=by rw[hwm];exact zk _ _
 have hszm:wm.heap.size=w.heap.size+1:=by rw[hwm];simp
 have hbe:Below w.heap.size w (wm.alloc (.map #[] 0)):=by rw[hwm];exact(zb _ _).alloc (by simp) _
 have hmv:=MapV.made wm
 rw[hszm]at hmv
 have hsm:SeenM (wm.alloc (.map #[] 0)) (w.heap.size+1) 0 (upTo S is 0):=⟨_,hmv,fun k=>by simp[upTo]⟩
 have hblk:(wm.alloc (.map #[] 0)).heap[w.heap.size]?=some (.cells #[.string (bs nm),.slice ia inn ic,.slice ga gn gc,.slice pa pn pc,.slice ba bn bc] 29 (0,0)):=(Below.heap_alloc _ _ _ (by omega)).trans hblk0
 obtain⟨k0,k1,k2,k3,k4⟩:=zG hblk
 have hmm:=@run_makeMap Tryz.prog
 have HI:=zh hI
 have HL:=zh hl
 have HK:=zh hblk
 have HSM:=zh hsm
 have HMB:=zh hmv.blk
 have HBE:=zh hbe
 have HS:Hid (SeenV (wm.alloc (.map #[] 0)) sv S):=hS.on hbe
 have HSB:Hid (∀ sb,sv=.map (some sb)->sb<w.heap.size):=by
  rcases hS with⟨rfl,_⟩|⟨sb,n,rfl,q⟩
  ·intro sb e;cases e
  ·intro sb' e;cases e;exact q.lt
 have hin':(inn:Int)<=1000:=by omega
 clear hI hl hblk hsm hmv hbe hS k0 k2 k3 k4 hblk0
 go_enter Tryz.func32,Tryz.ntmps32
 go_wp2_with fail
 rw[<-hwm]
 have hsz0:w.heap.size+2<=(wm.alloc (.map #[] 0)).heap.size:=by simp;omega
 generalize wm.alloc (.map #[] 0)=w0 at *
 clear hwm hszm wm hmm
 go_loopg [16] inn (fun k vi wr=>∃ i:Nat,i<=inn/\k=inn - i/\vi=.int .i64 (i:Int)/\Hid (SeenM wr (w.heap.size+1) i (upTo S is i))/\Hid (Ext (w.heap.size+1) w0 wr)/\Hid (Tp.imps nm S [] is=impsAt nm S is i/\∀ k∈is.take i,S k≠none))
 case atStart=>exact⟨0,by omega,by omega,rfl,HSM,Ext.refl _ _,(qF _ _ _).symm,by simp⟩
 case round =>
  obtain⟨i,hid,hk,rfl,HTM,HE,HIM⟩:=hrel
  have hsz:=HE.out.size
  by_cases hlt:i<inn
  ·have hlt':(i:Int)<(inn:Int):=by omega
   obtain⟨g,x,hga,hgB,c0,hxl,hx⟩:=HI.out i hlt
   subst hga
   have kc0:wr.cell? ⟨g,i,none⟩=some (.string (bs x)):=HE.out.cell ((HBE.out.cell (p:=⟨g,i,none⟩) hgB).trans c0) (by simp;omega)
   have kn0:wr.cell? ⟨w.heap.size,0,none⟩=some (.string (bs nm)):=HE.out.cell (zG HK.out).1 (by simp)
   have hlgr:g<wr.heap.size:=by omega
   have hlwr:w.heap.size<wr.heap.size:=by omega
   have HX:=zh hx
   have HST:=zh (qG nm S hx)
   obtain⟨v1,hlook1,⟨a1,n1,d1,hv1⟩,_,_⟩:=HTM.out.look x hxl true
   subst hv1
   have HB3:Hid (Below w.heap.size w wr):=HBE.out.trans (zR HE.out (by omega) (by omega))
   have hah:(upTo S is i x).isSome=decide (x∈is.take i):=by
    unfold upTo
    by_cases hm:x∈is.take i
    ·rw[if_pos hm,decide_eq_true hm]
     exact Option.isSome_iff_ne_none.2 (HIM.out.2 x hm)
    ·rw[if_neg hm,decide_eq_false hm];rfl
   rw[hah]at hlook1
   clear c0 hx hah
   by_cases hm:x∈is.take i
   ·rw[decide_eq_true hm]at hlook1
    simp only [if_true]at hlook1
    have HD:Hid (Tp.imps nm S [] is=some (10,none)):=by unfold Hid;rw[HIM.out.1,HST.out,if_pos (Or.inr hm)]
    clear hm
    go_wp2_with fail
    refine⟨rfl,HB3.out,?_⟩
    rw[HD.out]
    rfl
   ·rw[decide_eq_false hm]at hlook1
    simp only [if_true]at hlook1
    have heqb:=beq_bs x nm
    by_cases hq:x=nm
    ·rw[decide_eq_true hq]at heqb
     have HD:Hid (Tp.imps nm S [] is=some (10,none)):=by unfold Hid;rw[HIM.out.1,HST.out,if_pos (Or.inl hq)]
     clear hm hq
     go_wp2_with fail
     refine⟨rfl,HB3.out,?_⟩
     rw[HD.out]
     rfl
    ·rw[decide_eq_false hq]at heqb
     have HS1:Hid (SeenV wr sv S):=by
      have hs0:=HS.out
      rcases hs0 with q|⟨sb,n,h1,h2⟩
      ·exact Or.inl q
      ·exact Or.inr ⟨sb,n,h1,h2.ext HE.out HMB.out (by have:=HSB.out sb h1;omega)⟩
     obtain⟨v2,hlook2,⟨a2,n2,d2,hv2⟩,hsl2,hll2⟩:=HS1.out.look x hxl true
     subst hv2
     have HSL:=zh hsl2
     have HLL:=zh hll2
     have HNO:Hid (¬(x=nm\/x∈is.take i)):=fun e=>e.elim hq hm
     clear hsl2 hll2 hm hq
     cases hsx:S x with
     | none =>
      rw[hsx]at hlook2
      simp only [Option.isSome_none,if_true]at hlook2
      have HD:Hid (Tp.imps nm S [] is=some (8,none)):=by unfold Hid;rw[HIM.out.1,HST.out,if_neg HNO.out,if_pos hsx]
      clear hsx
      go_wp2_with fail
      refine⟨rfl,HB3.out,?_⟩
      rw[HD.out]
      rfl
     | some ll =>
      rw[hsx]at hlook2 HSL HLL
      simp only [Option.isSome_some,if_true]at hlook2
      have HSX:=zh hsx
      clear hsx
      go_wp2_with (at_mapUpdate;refine jf _ rfl _ _ _ rfl (w.heap.size+1) i (upTo S is i) HTM.out (by omega) x hxl (.slice a2 n2 d2) ll HSL.out HLL.out rfl rfl rfl ?_;intro w3 q1 q2 q3)
      have HT3:Hid (SeenM w3 (w.heap.size+1) (i+1) (upTo S is (i+1))):=by unfold Hid;rw[upTo_succ HX.out HSX.out];exact q1
      have HE3:=zh (HE.out.trans q2)
      have HIM3:Hid (Tp.imps nm S [] is=impsAt nm S is (i+1)/\∀ k∈is.take (i+1),S k≠none):=by
       refine⟨by rw[HIM.out.1,HST.out,if_neg HNO.out,if_neg (by rw[HSX.out];simp)],fun k hk=>?_⟩
       obtain⟨hi,e⟩:=List.getElem?_eq_some_iff.1 HX.out
       rw[List.take_succ_eq_append_getElem hi,e,List.mem_append]at hk
       rcases hk with hk|hk
       ·exact HIM.out.2 k hk
       ·rw[List.mem_singleton.1 hk,HSX.out];simp
      clear q1 q2 q3
      go_wp2_with fail
      go_roundg (inn - (i+1))
      case measure=>omega
      case rel=>exact⟨i+1,by omega,rfl,by go_num,HT3,HE3,HIM3⟩
  ·have hlt':¬(i:Int)<(inn:Int):=by omega
   have hei:i=is.length:=by have:=HL.out;omega
   have HF1:Hid (Tp.imps nm S [] is=none):=by unfold Hid;rw[HIM.out.1,hei,impsAt_all]
   have HF2:Hid (SeenM wr (w.heap.size+1) i (fun k=>if k∈is then S k else none)):=by
    have:=HTM.out
    rw[hei]at this ⊢
    unfold upTo at this
    rw[List.take_length]at this
    exact this
   have HB3:Hid (Below w.heap.size w wr):=HBE.out.trans (zR HE.out (by omega) (by omega))
   clear HTM HE HIM hei
   go_wp2_with fail
   go_ret
   refine⟨HB3.out,?_⟩
   rw[HF1.out]
   exact⟨_,_,rfl,by omega,HF2.out⟩
theorem fidx_of (l:List Sy) (n:Bs):(∃(k:Nat) (hk:k<l.length),fidx l n=(k:Int)/\Tp.findS l n=some l[k])\/fidx l n=-1/\Tp.findS l n=none:=by
 unfold fidx Tp.findS
 cases h:l.findIdx? (fun s=>s.1 == n) with
 | some k =>
  left
  have h':=h
  rw[List.findIdx?_eq_some_iff_getElem]at h'
  obtain⟨hk,h1,h2⟩:=h'
  refine⟨k,hk,rfl,?_⟩
  rw[List.find?_eq_some_iff_getElem]
  exact⟨by simpa using h1,k,hk,rfl,fun j hj=>by simpa using h2 j hj⟩
 | none =>
  right
  refine⟨rfl,?_⟩
  rw[List.find?_eq_none]
  rw[List.findIdx?_eq_none_iff]at h
  intro x hx
  simpa using h x hx
def lookRes (r:Except Nat (Nat× Int)):Value:=match r with
 | .ok x=>.tuple #[.agg #[.int .i64 (x.1:Int),.int .i64 x.2],.int .i64 0]
 | .error e=>.tuple #[.agg #[.int .i64 0,.int .i64 0],.int .i64 (e:Int)]
def seenRes (o:Option (List Sy)) (nm:Bs):Except Nat (Nat× Int):=match o with
 | none=>.error 5
 | some l=>match Tp.findS l nm with
  | some s=>.ok s.2
  | none=>.error 7
theorem vA {w:World}{ob n:Nat}{S:Seen}(h:SeenM w ob n S) (md nm:Bs) (hl:md.length<=1000000) :
  Calls Tryz.prog 75 #[.map (some ob),.string (bs md),.string (bs nm)] w fun e w'=>e=.returned (lookRes (seenRes (S md) nm))/\Below w.heap.size w w':=by
 have hal:∀ ob',Below w.heap.size w (w.alloc ob'):=fun ob'=>zb _ _
 obtain⟨w0,hw0⟩:∃ w0,w0=w.alloc (.cells #[.int .i64 0,.int .i64 0] 137):=⟨_,rfl⟩
 have hb0:Below w.heap.size w w0:=by rw[hw0];exact hal _
 have hk0:w0.heap[w.heap.size]?=some (.cells #[.int .i64 0,.int .i64 0] 137 (0,0)):=by rw[hw0];exact zk _ _
 have hs0:w.heap.size<w0.heap.size:=by rw[hw0];simp
 obtain⟨v1,hlook1,⟨a1,n1,d1,hv1⟩,hsl,hll⟩:=(h.on hb0).look md hl true
 subst hv1
 have c0:w0.cell? ⟨w.heap.size,0,none⟩=some (.int .i64 0):=(za hk0).trans rfl
 have c1:w0.cell? ⟨w.heap.size,1,none⟩=some (.int .i64 0):=(za hk0).trans rfl
 have z0:w0.frozen? ⟨w.heap.size,0,none⟩=false:=zg hk0
 have z1:w0.frozen? ⟨w.heap.size,1,none⟩=false:=zg hk0
 have HB0:=zh hb0
 have HK0:=zh hk0
 clear hal h hb0 hk0
 cases hS:S md with
 | none =>
  rw[hS]at hlook1
  simp only [Option.isSome_none,if_true]at hlook1
  clear hS hsl hll
  go_enter Tryz.func75,Tryz.ntmps75
  go_upto_region 1 with fail
  rw[<-hw0]
  clear hw0
  go_wp2_with fail
  exact bodyPost_ret (v:=.tuple #[.agg #[.int .i64 0,.int .i64 0],.int .i64 5]) (by simp[results,Tryz.results75,go_sem,c0,c1]) rfl ⟨rfl,HB0.out.trans (zq (zq (Below.refl _ _) zn 0 _) zn 1 _)⟩
 | some l =>
  rw[hS]at hlook1 hsl hll
  simp only [Option.isSome_some,if_true,Option.getD_some]at hlook1 hsl hll
  clear hS
  have hfp:=uG hsl hll nm
  have HSL:=zh hsl
  have HFP:=zh hfp
  obtain⟨a9,c9,hv9⟩:=hsl.len
  cases hv9
  clear hsl hfp
  rcases fidx_of l nm with⟨k,hk,hfi,hfs⟩|⟨hfi,hfs⟩
  ·rw[hfi]at HFP
   have HRES:Hid (lookRes (seenRes (some l) nm)=.tuple #[.agg #[.int .i64 (l[k].2.1:Int),.int .i64 l[k].2.2],.int .i64 0]):=by unfold Hid seenRes;simp only;rw[hfs];rfl
   obtain⟨g,hag,_,hgl,hcell⟩:=HSL.out.cell k hk
   subst hag
   have q1:w0.cell? ⟨g,k * 3+1,none⟩=some (.int .i64 (l[k].2.1:Int)):=hcell 1 (by omega)
   have q2:w0.cell? ⟨g,k * 3+2,none⟩=some (.int .i64 l[k].2.2):=hcell 2 (by omega)
   have Q1:=zh q1
   have Q2:=zh q2
   have hkl:(k:Int)<(l.length:Int):=by omega
   have hll':(l.length:Int)<=1000:=by omega
   clear hcell hfi hfs q1 q2
   rw[HRES.out]
   clear HRES
   generalize l[k].2.1=x1 at *
   generalize l[k].2.2=x2 at *
   generalize l.length=ln at *
   go_enter Tryz.func75,Tryz.ntmps75
   go_upto_region 1 with fail
   rw[<-hw0]
   clear hw0
   go_wp2_with fail
   refine HFP.out.mono ?_
   rintro e w3 ⟨rfl,hb3⟩
   have e3:=(hb3.block _ hs0).trans HK0.out
   have r1:w3.cell? ⟨g,k * 3+1,none⟩=some (.int .i64 (x1:Int)):=(hb3.cell (p:=⟨g,_,none⟩) hgl).trans Q1.out
   have r2:w3.cell? ⟨g,k * 3+2,none⟩=some (.int .i64 x2):=(hb3.cell (p:=⟨g,_,none⟩) hgl).trans Q2.out
   have hgl3:g<w3.heap.size:=Nat.lt_of_lt_of_le hgl hb3.size
   have hs3:w.heap.size<w3.heap.size:=Nat.lt_of_lt_of_le hs0 hb3.size
   have s0:w3.cell? ⟨w.heap.size,0,none⟩=some (.int .i64 0):=(za e3).trans rfl
   have s1:w3.cell? ⟨w.heap.size,1,none⟩=some (.int .i64 0):=(za e3).trans rfl
   have t0:w3.frozen? ⟨w.heap.size,0,none⟩=false:=zg e3
   have t1:w3.frozen? ⟨w.heap.size,1,none⟩=false:=zg e3
   have HB3:Hid (Below w.heap.size w w3):=HB0.out.trans (hb3.mono (by omega))
   clear e3 hb3 c0 c1 z0 z1
   go_wp2_with fail
   go_region
   go_wp2_with fail
   exact bodyPost_ret (v:=.tuple #[.agg #[.int .i64 (x1:Int),.int .i64 x2],.int .i64 0]) (by simp[results,Tryz.results75,go_sem,s0,s1]) rfl ⟨rfl,HB3.out.trans (zq (zq ((Below.refl _ _).drew) zn 0 _) zn 1 _)⟩
  ·rw[hfi]at HFP
   have HRES:Hid (lookRes (seenRes (some l) nm)=.tuple #[.agg #[.int .i64 0,.int .i64 0],.int .i64 7]):=by unfold Hid seenRes;simp only;rw[hfs];rfl
   clear hfi hfs HSL
   rw[HRES.out]
   clear HRES
   generalize l.length=ln at *
   go_enter Tryz.func75,Tryz.ntmps75
   go_upto_region 1 with fail
   rw[<-hw0]
   clear hw0
   go_wp2_with fail
   refine HFP.out.mono ?_
   rintro e w3 ⟨rfl,hb3⟩
   have e3:=(hb3.block _ hs0).trans HK0.out
   have hs3:w.heap.size<w3.heap.size:=Nat.lt_of_lt_of_le hs0 hb3.size
   have s0:w3.cell? ⟨w.heap.size,0,none⟩=some (.int .i64 0):=(za e3).trans rfl
   have s1:w3.cell? ⟨w.heap.size,1,none⟩=some (.int .i64 0):=(za e3).trans rfl
   have t0:w3.frozen? ⟨w.heap.size,0,none⟩=false:=zg e3
   have t1:w3.frozen? ⟨w.heap.size,1,none⟩=false:=zg e3
   have HB3:Hid (Below w.heap.size w w3):=HB0.out.trans (hb3.mono (by omega))
   clear e3 hb3 c0 c1 z0 z1
   go_wp2_with fail
   exact bodyPost_ret (v:=.tuple #[.agg #[.int .i64 0,.int .i64 0],.int .i64 7]) (by simp[results,Tryz.results75,go_sem,s0,s1]) rfl ⟨rfl,HB3.out.trans (zq (zq (Below.refl _ _) zn 0 _) zn 1 _)⟩
abbrev Near:=List (Bs->Option (Nat× Int))
structure NearM (w:World) (sb:Nat) (fs:Near):Prop where
 lt:sb<w.heap.size
 c:∀ i (h:i<fs.length),∃ gb n,w.cell? ⟨sb,i,none⟩=some (.map (some gb))/\MapV w gb n (fun k=>(fs[i] k).map thV)
theorem NearM.on {w w':World}{sb:Nat}{fs:Near}(h:NearM w sb fs) (k:Below w.heap.size w w'):NearM w' sb fs :=
 ⟨Nat.lt_of_lt_of_le h.lt k.size,fun i hi=>by obtain⟨gb,n,h1,h2⟩:=h.c i hi;exact⟨gb,n,(k.cell (p:=⟨sb,i,none⟩) h.lt).trans h1,h2.on (k.block _ h2.lt)⟩⟩
structure Fnd (w:World) (b:Nat) (S:Seen) (fs:Near):Prop where
 o:∃ ob n,w.cell? ⟨b,0,none⟩=some (.map (some ob))/\SeenM w ob n S
 m:∃ sb c,w.cell? ⟨b+1,0,none⟩=some (.slice (some ⟨sb,0,none⟩) fs.length c)/\NearM w sb fs
 l:b+1<w.heap.size
theorem Fnd.on {w w':World}{b:Nat}{S:Seen}{fs:Near}(h:Fnd w b S fs) (k:Below w.heap.size w w'):Fnd w' b S fs:=by
 obtain⟨ob,n,h1,h2⟩:=h.o
 obtain⟨sb,c,h3,h4⟩:=h.m
 have hl:=h.l
 exact⟨⟨ob,n,(k.cell (p:=⟨b,0,none⟩) (by simp;omega)).trans h1,h2.on k⟩,⟨sb,c,(k.cell (p:=⟨b+1,0,none⟩) hl).trans h3,h4.on k⟩,Nat.lt_of_lt_of_le hl k.size⟩
def finderV (b:Nat):Value:=.func (.func 74) #[] #[.pointer (some ⟨b,0,none⟩),.pointer (some ⟨b+1,0,none⟩)]
theorem neq_bs (a:Bs):(bs a).toList.isEmpty=decide (a=[]):=by rw[zy];cases a <;> simp
theorem near_none {fs:Near}{nm:Bs}(h:∀ j (hj:j<fs.length),fs[j] nm=none):fs.findSome? (fun f=>f nm)=none:=by
 rw[List.findSome?_eq_none_iff]
 intro f hf
 obtain⟨j,hj,e⟩:=List.mem_iff_getElem.1 hf
 rw[<-e]
 exact h j hj
theorem near_some {fs:Near}{nm:Bs}{i:Nat}{x:Nat× Int}(hi:i<fs.length) (h:∀ j (hj:j<fs.length),j<i->fs[j] nm=none) (hx:fs[i] nm=some x):fs.findSome? (fun f=>f nm)=some x:=by
 have e:fs=fs.take i++fs[i] :: fs.drop (i+1):=by rw[<-List.drop_eq_getElem_cons hi,List.take_append_drop]
 rw[e,List.findSome?_append,List.findSome?_cons,hx]
 have:(fs.take i).findSome? (fun f=>f nm)=none:=by
  rw[List.findSome?_eq_none_iff]
  intro f hf
  obtain⟨j,hj,e⟩:=List.mem_iff_getElem.1 hf
  rw[List.length_take]at hj
  rw[List.getElem_take]at e
  rw[<-e]
  exact h j (by omega) (by omega)
 rw[this]
 rfl
theorem uE {w:World}{b:Nat}{S:Seen}{fs:Near}(h:Fnd w b S fs) (hfn:fs.length<=1000) (md nm:Bs) (hl:md.length<=1000000) (hl2:nm.length<=1000000) :
  Calls Tryz.prog 74 #[.string (bs md),.string (bs nm),.pointer (some ⟨b,0,none⟩),.pointer (some ⟨b+1,0,none⟩)] w fun e w'=>e=.returned (lookRes (Tp.standV S fs md nm))/\Below w.heap.size w w':=by
 have hal:∀ ob',Below w.heap.size w (w.alloc ob'):=fun ob'=>zb _ _
 obtain⟨w0,hw0⟩:∃ w0,w0=w.alloc (.cells #[.int .i64 0,.int .i64 0] 137):=⟨_,rfl⟩
 have hb0:Below w.heap.size w w0:=by rw[hw0];exact hal _
 have hk0:w0.heap[w.heap.size]?=some (.cells #[.int .i64 0,.int .i64 0] 137 (0,0)):=by rw[hw0];exact zk _ _
 have hs0:w.heap.size<w0.heap.size:=by rw[hw0];simp
 have h0:=h.on hb0
 have hbl:=h0.l
 have hbl':b<w0.heap.size:=by omega
 have c0:w0.cell? ⟨w.heap.size,0,none⟩=some (.int .i64 0):=(za hk0).trans rfl
 have c1:w0.cell? ⟨w.heap.size,1,none⟩=some (.int .i64 0):=(za hk0).trans rfl
 have z0:w0.frozen? ⟨w.heap.size,0,none⟩=false:=zg hk0
 have z1:w0.frozen? ⟨w.heap.size,1,none⟩=false:=zg hk0
 have HB0:=zh hb0
 have HK0:=zh hk0
 obtain⟨ob,on,ho1,ho2⟩:=h0.o
 obtain⟨sb,sc,hm1,hm2⟩:=h0.m
 have hnb:=neq_bs md
 clear hal h hb0 hk0
 by_cases hmd:md=[]
 ·rw[decide_eq_true hmd]at hnb
  have HRES:Hid (Tp.standV S fs md nm=match fs.findSome? (fun f=>f nm) with|some x=>.ok x|none=>.error 7):=by unfold Hid Tp.standV;rw[if_neg (by simp[hmd])];cases fs.findSome? (fun f=>f nm) <;> rfl
  clear hmd ho1 ho2
  have HNM:=zh hm2
  have hfn':(fs.length:Int)<=1000:=by omega
  obtain⟨fn,hfq⟩:∃ fn,fn=fs.length:=⟨_,rfl⟩
  have HFQ:=zh hfq
  rw[<-hfq]at hm1 hfn'
  clear hm2 hfq
  go_enter Tryz.func74,Tryz.ntmps74
  go_upto_region 1 with fail
  rw[<-hw0]
  clear hw0
  go_wp2_with fail
  go_loopg [22] fn (fun k vi wr=>∃ i:Nat,i<=fn/\k=fn - i/\vi=.int .i64 (i:Int)/\Hid (Below w0.heap.size w0 wr)/\Hid (∀ j (hj:j<fs.length),j<i->fs[j] nm=none))
  case atStart=>exact⟨0,by omega,by omega,rfl,Below.refl _ _,fun j _ hj=>absurd hj (by omega)⟩
  case round =>
   obtain⟨i,hid,hk,rfl,HB,HN⟩:=hrel
   have hsz:=HB.out.size
   have hb1:=HB.out.block _ hs0
   have e3:=hb1.trans HK0.out
   have s0:wr.cell? ⟨w.heap.size,0,none⟩=some (.int .i64 0):=(za e3).trans rfl
   have s1:wr.cell? ⟨w.heap.size,1,none⟩=some (.int .i64 0):=(za e3).trans rfl
   have t0:wr.frozen? ⟨w.heap.size,0,none⟩=false:=zg e3
   have t1:wr.frozen? ⟨w.heap.size,1,none⟩=false:=zg e3
   have hs3:w.heap.size<wr.heap.size:=by omega
   have hne:wr.heap.size≠w.heap.size:=by omega
   have HBW:Hid (Below w.heap.size w wr):=HB0.out.trans (HB.out.mono (by omega))
   clear hb1 e3
   by_cases hlt:i<fn
   ·have hlt':(i:Int)<(fn:Int):=by omega
    have hia:i<fs.length:=by have:=HFQ.out;omega
    obtain⟨gb,gn,hc1,hc2⟩:=HNM.out.c i hia
    have kc:wr.cell? ⟨sb,i,none⟩=some (.map (some gb)):=(HB.out.cell (p:=⟨sb,i,none⟩) HNM.out.lt).trans hc1
    have hlgr:sb<wr.heap.size:=zc kc
    have hlook:=(hc2.on (HB.out.block _ hc2.lt)).look (t:=76) Tryz.underlying76 (zeroTh _) nm hl2 true
    clear hc1 hc2
    cases hfx:fs[i] nm with
    | none =>
     rw[hfx]at hlook
     simp only [Option.map_none,Option.getD_none,Option.isSome_none,if_true]at hlook
     have HN3:Hid (∀ j (hj:j<fs.length),j<i+1->fs[j] nm=none):=fun j hj hji=>by
      rcases Nat.lt_or_ge j i with q|q
      ·exact HN.out j hj q
      ·have:j=i:=by omega
       subst this
       exact hfx
     have HB3:Hid (∀ ob,Below w0.heap.size w0 (wr.alloc ob)):=fun ob=>HB.out.alloc hsz _
     clear hfx
     go_wp2_with fail
     go_roundg (fn - (i+1))
     case measure=>omega
     case rel=>exact⟨i+1,by omega,rfl,by go_num,HB3.out _,HN3⟩
    | some x =>
     obtain⟨x1,x2⟩:=x
     rw[hfx]at hlook
     simp only [Option.map_some,Option.getD_some,Option.isSome_some,if_true,thV]at hlook
     have HFS:=zh (near_some hia HN.out hfx)
     have HR2:Hid (lookRes (Tp.standV S fs md nm)=.tuple #[.agg #[.int .i64 (x1:Int),.int .i64 x2],.int .i64 0]):=by unfold Hid;rw[HRES.out,HFS.out];rfl
     have HB3:Hid (∀ ob,Below w.heap.size w (wr.alloc ob)):=fun ob=>HBW.out.alloc (by omega) _
     clear hfx HRES HFS
     go_wp2_with fail
     exact bodyPost_ret (v:=.tuple #[.agg #[.int .i64 (x1:Int),.int .i64 x2],.int .i64 0]) (by simp[results,Tryz.results74,go_sem,s0,s1,hs3]) rfl ⟨by rw[HR2.out],(zq (zq HBW.out zn 0 _) zn 1 _).alloc (by simp;omega) _⟩
   ·have hlt':¬(i:Int)<(fn:Int):=by omega
    have HFS:Hid (fs.findSome? (fun f=>f nm)=none):=near_none (fun j hj=>HN.out j hj (by have:=HFQ.out;omega))
    have HR2:Hid (lookRes (Tp.standV S fs md nm)=.tuple #[.agg #[.int .i64 0,.int .i64 0],.int .i64 7]):=by unfold Hid;rw[HRES.out,HFS.out];rfl
    clear HRES HFS
    go_wp2_with fail
    exact bodyPost_ret (v:=.tuple #[.agg #[.int .i64 0,.int .i64 0],.int .i64 7]) (by simp[results,Tryz.results74,go_sem,s0,s1]) rfl ⟨by rw[HR2.out],zq (zq HBW.out zn 0 _) zn 1 _⟩
 ·rw[decide_eq_false hmd]at hnb
  have HRES:Hid (Tp.standV S fs md nm=seenRes (S md) nm):=by unfold Hid Tp.standV;rw[if_pos hmd];unfold seenRes;cases S md <;> rfl
  rw[HRES.out]
  clear hmd hm1 hm2 HRES
  have HFS:=zh (vA ho2 md nm hl)
  clear ho2
  obtain⟨r,hr⟩:∃ r,r=seenRes (S md) nm:=⟨_,rfl⟩
  rw[<-hr]at HFS ⊢
  clear hr
  go_enter Tryz.func74,Tryz.ntmps74
  go_upto_region 1 with fail
  rw[<-hw0]
  clear hw0
  go_wp2_with fail
  refine HFS.out.mono ?_
  rintro e w3 ⟨rfl,hb3⟩
  have e3:=(hb3.block _ hs0).trans HK0.out
  have hs3:w.heap.size<w3.heap.size:=Nat.lt_of_lt_of_le hs0 hb3.size
  have s0:w3.cell? ⟨w.heap.size,0,none⟩=some (.int .i64 0):=(za e3).trans rfl
  have s1:w3.cell? ⟨w.heap.size,1,none⟩=some (.int .i64 0):=(za e3).trans rfl
  have t0:w3.frozen? ⟨w.heap.size,0,none⟩=false:=zg e3
  have t1:w3.frozen? ⟨w.heap.size,1,none⟩=false:=zg e3
  have HB3:Hid (Below w.heap.size w w3):=HB0.out.trans (hb3.mono (by omega))
  clear e3 hb3 c0 c1 z0 z1 HFS
  cases r with
  | ok x =>
   obtain⟨x1,x2⟩:=x
   simp only [lookRes]
   go_wp2_with fail
   exact bodyPost_ret (v:=.tuple #[.agg #[.int .i64 (x1:Int),.int .i64 x2],.int .i64 0]) (by simp[results,Tryz.results74,go_sem,s0,s1]) rfl ⟨rfl,zq (zq HB3.out zn 0 _) zn 1 _⟩
  | error er =>
   simp only [lookRes]
   go_wp2_with fail
   exact bodyPost_ret (v:=.tuple #[.agg #[.int .i64 0,.int .i64 0],.int .i64 (er:Int)]) (by simp[results,Tryz.results74,go_sem,s0,s1]) rfl ⟨rfl,zq (zq HB3.out zn 0 _) zn 1 _⟩
theorem xM (w:World) (ov sv:Value) (h1:∃ ob,ov=.map (some ob)) (h2:∃ a n c,sv=.slice a n c) :
  Calls Tryz.prog 35 #[ov,sv] w fun e w'=>e=.returned (finderV w.heap.size)/\w'=(w.alloc (.cells #[ov] 34)).alloc (.cells #[sv] 142):=by
 obtain⟨ob,rfl⟩:=h1
 obtain⟨a,n,c,rfl⟩:=h2
 have hmf:=zm
 go_enter Tryz.func35,Tryz.ntmps35
 go_wp2_with fail
 go_ret
 exact⟨rfl,rfl⟩
end Go.Proofs.YtmocelfkmdpogaaGreatDoor
