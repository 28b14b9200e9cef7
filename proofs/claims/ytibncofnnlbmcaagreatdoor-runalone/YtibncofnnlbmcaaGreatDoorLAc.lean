import Derived.Test.YtibncofnnlbmcaaGreatDoorLAb
import Derived.Test.YtibncofnnlbmcaaGreatDoorLAa
set_option maxRecDepth 100000
set_option maxHeartbeats 4000000
namespace Go.Proofs.YtibncofnnlbmcaaGreatDoor
open Go.RowKit Go.Maps
open Tp (Bs X S G Pr Pt Rs Rr Own)
def putL (L:List Lo) (n:Lo):List Lo:=L.map fun q=>if q.m.name=n.m.name then n else q
theorem jY {L:List Lo}{n:Lo}:(putL L n).map (fun lo=>lo.m.name)=L.map fun lo=>lo.m.name:=by
 unfold putL
 rw[List.map_map]
 apply List.map_congr_left
 intro q _
 simp only[Function.comp]
 split
 ·rename_i e;exact e.symm
 ·rfl
theorem yF {L:List Lo}{n q:Lo}(h:q∈putL L n):q=n\/q∈L/\q.m.name≠n.m.name:=by
 obtain⟨x,b,e⟩:=List.mem_map.1 h
 by_cases a:x.m.name=n.m.name
 ·rw[if_pos a]at e;exact Or.inl e.symm
 ·rw[if_neg a]at e;subst e;exact Or.inr ⟨b,a⟩
theorem putL_in {L:List Lo}{n lo:Lo}(h:lo∈L)(e:lo.m.name=n.m.name):n∈putL L n:=List.mem_map.2 ⟨lo,h,if_pos e⟩
theorem putL_len (L:List Lo)(n:Lo):(putL L n).length=L.length:=by simp[putL]
theorem putL_thr {L:List Lo}{n lo:Lo}(h:lo∈L)(e:lo.m.name=n.m.name):thrL (putL L n)=updV (thrL L) n.m.name (.pointer (some ⟨n.lb,0,none⟩)):=by
 funext k
 unfold thrL updV putL
 by_cases b:k=n.m.name
 ·rw[if_pos b]
  have:∀l:List Lo,lo∈l->(l.map fun q=>if q.m.name=n.m.name then n else q).find? (fun lo=>lo.m.name==k)=some n:=by
   intro l d
   induction l with
   |nil=>cases d
   |cons x t ih =>
    rw[List.map_cons]
    by_cases a:x.m.name=n.m.name
    ·rw[if_pos a,List.find?_cons_of_pos (by simp[b])]
    ·rw[if_neg a,List.find?_cons_of_neg (by simp[b,a])]
     rcases List.mem_cons.1 d with q|q
     ·subst q;exact absurd e a
     ·exact ih q
  rw[this L h]
  rfl
 ·rw[if_neg b]
  congr 1
  have:∀l:List Lo,(l.map fun q=>if q.m.name=n.m.name then n else q).find? (fun lo=>lo.m.name==k)=l.find? fun lo=>lo.m.name==k:=by
   intro l
   induction l with
   |nil=>rfl
   |cons x t ih =>
    rw[List.map_cons]
    by_cases a:x.m.name=n.m.name
    ·rw[if_pos a,List.find?_cons_of_neg (by simpa using fun q=>b q.symm),List.find?_cons_of_neg (by simpa using fun q=>b (q.symm.trans a)),ih]
    ·rw[if_neg a]
     by_cases c:x.m.name=k
     ·rw[List.find?_cons_of_pos (by simpa using c),List.find?_cons_of_pos (by simpa using c)]
     ·rw[List.find?_cons_of_neg (by simpa using c),List.find?_cons_of_neg (by simpa using c),ih]
  exact this L
theorem kslF_all {lo:Lo}{sl:Bs->Nat}{m:Tp.M}(a:(m.vars.map (·.name)).Nodup){g:G}(b:g∈m.vars):kslF lo sl m.vars g.name=if keptG lo.m g then lo.sl g.name else sl g.name:=by
 have:m.vars.find? (fun x=>x.name==g.name)=some g:=Tp.varOf_mem a b
 unfold kslF
 rw[this]
theorem kZ {a:Tp.M}{g:G}(h:keptG a g=true):∃h∈a.vars,h.name=g.name/\h.len=g.len:=by
 unfold keptG at h
 obtain⟨x,c,b⟩:=List.any_eq_true.1 h
 simp only[Bool.and_eq_true,decide_eq_true_eq]at b
 exact⟨x,c,b⟩
theorem swapV_at {a b:Tp.M}{c:Bs->List Int}(e:(b.vars.map (·.name)).Nodup){g:G}(d:g∈b.vars):Tp.swapV a b c g.name=if keptG a g then c g.name else List.replicate (vlen g) 0:=by
 have i:b.vars.find? (fun x=>x.name==g.name)=some g:=Tp.varOf_mem e d
 unfold Tp.swapV
 rw[i]
 simp only
 rw[xu e d]
 have:(a.vars.any fun h=>h.name==g.name&&h.len==g.len)=keptG a g:=by
  unfold keptG
  congr 1
  funext h
  by_cases j:h.name=g.name<;>by_cases f:h.len=g.len<;>simp[j,f]
 rw[this]
theorem ww_swap {X:Nat->Prop}{D:Nat->Prop}{c n0:Nat}{w J w7 O:World}{r:Nat}{L:List Lo}{P:List Pt}{u:Value}{f:Nat}{m:Tp.M}{p:Pt}{lo:Lo}{ia ga pa ba:Option Addr}{ic gc pc bc A t:Nat}{sl:Bs->Nat}(hm:Tp.WM m)(h:WW X w r L P u f)(hX:∀b,X b->b<w.heap.size)(d7:Tp.WI ofS (Tp.putM P m))(I:lo∈L)(c1:lo.m.name=m.name)(hp:Tp.partOf P m.name=some p)(f0:MD w D m ia ga pa ba ic gc pc bc)(hD:∀b,D b->b<w.heap.size->¬X b/\¬Mut L r (some f) u b)
  (h6:Below w.heap.size w J)(c9:w.heap.size<=A)(e9:w.heap.size<=t)(b1:A≠t)(c5:J.heap[A]?=some (.cells (lcells m ia ga pa ba ic gc pc bc t) 107 (0,0)))(a9:Laid J w.heap.size t m.vars m.vars.length sl)(a4:∀g∈m.vars,sl g.name≠A/\sl g.name≠t)
  (Y:Ext t J w7)(e7:∃n,MapV w7 t n (keepF lo m sl m.vars.length))(hc:c<=90)(S:Ext f w7 O)(f9:n0<=c)(b9:MapV O f (n0+1) (updV (thrL L) m.name (.pointer (some ⟨A,0,none⟩)))) :
  WW X O r (putL L ⟨m,A,t,kslF lo sl m.vars⟩) (Tp.putM P m) u f/\MapC O (some f) (putL L ⟨m,A,t,kslF lo sl m.vars⟩) (c+1)/\Tr (Mut L r (some f) u) (Mut (putL L ⟨m,A,t,kslF lo sl m.vars⟩) r (some f) u) w O:=by
 obtain⟨j,G⟩:∃j:Lo,j=⟨m,A,t,kslF lo sl m.vars⟩:=⟨_,rfl⟩
 have s:j.m=m:=by rw[G]
 have d8:WX X w r L P u (some f):=h
 rw[<-G]
 have a5:lo.m.name=j.m.name:=by rw[s];exact c1
 have c8:=h.mw
 have a8:Tp.ms (Tp.putM P m)=(putL L j).map fun lo=>lo.m:=by
  unfold Tp.ms at c8
  have e1:Tp.ms (Tp.putM P m)=(P.map (·.m)).map fun x=>if x.name=m.name then m else x:=by
   unfold Tp.ms Tp.putM
   simp only[List.map_map]
   apply List.map_congr_left
   intro q _
   simp only[Function.comp]
   split<;>rfl
  rw[e1,c8]
  unfold putL
  simp only[List.map_map]
  apply List.map_congr_left
  intro q _
  simp only[Function.comp]
  rw[s]
  split
  ·exact s.symm
  ·rfl
 have d1:∀x∈putL L j,Tp.WM x.m:=fun x l=>by
  rcases yF l with rfl|⟨q,_⟩
  ·rw[s];exact hm
  ·exact(h.lo x q).2.2.2.2.wm
 have a7:∀x∈putL L j,Tp.FitM ((putL L j).map fun lo=>lo.m) x.m:=fun x l=>by
  rw[<-a8]
  exact d7.fit jx (by rw[a8];exact List.mem_map.2 ⟨x,l,rfl⟩) (d1 x l)
 have d3:j∈putL L j:=putL_in I a5
 have d0:(m.vars.map (·.name)).Nodup:=by have:=(a7 j d3).vn;rw[s]at this;exact this
 have f5:=(h.lo lo I).2.2.2.2
 have f6:=h6.size
 have g0:=Y.size
 have f7:=S.size
 have c2:m.vars.take m.vars.length=m.vars:=List.take_length
 have H:=a9.at'
 have b6:=a9.inj
 have c3:=a9.map
 rw[c2]at H b6 c3
 have b2:∀g∈m.vars,sl g.name<J.heap.size:=fun g a=>zf (H g a).2
 have B:=fun {b:Nat} (q:Mut L r (some f) u b)=>d8.mlt q
 have c4:r<w.heap.size:=zf h.blk
 have R:∀g∈m.vars,j.sl g.name=if keptG lo.m g then lo.sl g.name else sl g.name:=fun g a=>by rw[G];exact kslF_all d0 a
 have a1:∀g∈m.vars,keptG lo.m g=true->VLo L (lo.sl g.name):=fun g _ o=>by
  obtain⟨x,K,W,_⟩:=kZ o
  exact⟨lo,I,x,K,by rw[W]⟩
 have a6:∀b,VLo (putL L j) b->VLo L b\/w.heap.size<=b/\b<J.heap.size/\b≠A/\b≠t:=by
  rintro b⟨x,l,g,a,rfl⟩
  rcases yF l with rfl|⟨q,_⟩
  ·rw[s]at a
   rw[R g a]
   by_cases o:keptG lo.m g=true
   ·rw[if_pos o];exact Or.inl (a1 g a o)
   ·rw[if_neg o];exact Or.inr ⟨(H g a).1,b2 g a,(a4 g a).1,(a4 g a).2⟩
  ·exact Or.inl ⟨x,q,g,a,rfl⟩
 have c7:∀b,w.heap.size<=b->¬X b:=fun b i q=>by have:=hX b q;omega
 have d4:∀b,w.heap.size<=b->¬Mut L r (some f) u b:=fun b i q=>by have:=(B q).1;omega
 have d6:f<w.heap.size:=(B (Or.inr (Or.inr (Or.inl rfl)))).1
 have o:∀b,b<w.heap.size->b≠f->O.heap[b]?=w.heap[b]?:=fun b i b1=>((S.block b (by omega) b1).trans (Y.block b (by omega) (by omega))).trans (h6.block b i)
 have c0:∀b,w.heap.size<=b->b<J.heap.size->b≠t->O.heap[b]?=J.heap[b]?:=fun b K W h3=>(S.block b (by omega) (by omega)).trans (Y.block b W h3)
 have b7:=zf c5
 have d5:=c3.lt
 have b3:∀b,b<w.heap.size->¬X b->¬Mut L r (some f) u b->StB X (putL L j) r f u b:=fun b i l Z=>by
  refine⟨l,fun q=>?_,fun e=>Z (Or.inr (Or.inl e)),fun e=>Z (Or.inr (Or.inr (Or.inl (by rw[e])))),fun e=>Z (Or.inr (Or.inr (Or.inr e)))⟩
  rcases a6 b q with q|q
  ·exact Z (Or.inl q)
  ·omega
 have c6:∀b,w.heap.size<=b->b<J.heap.size->(∀g∈m.vars,sl g.name≠b)->StB X (putL L j) r f u b:=fun b K W h3=>by
  refine⟨c7 b K,?_,by omega,by omega,fun e=>d4 b K (Or.inr (Or.inr (Or.inr e)))⟩
  rintro⟨x,l,g,a,e⟩
  rcases yF l with rfl|⟨q,_⟩
  ·rw[s]at a
   rw[R g a]at e
   by_cases o:keptG lo.m g=true
   ·rw[if_pos o]at e
    have:=(B (Or.inl (a1 g a o))).1
    omega
   ·rw[if_neg o]at e
    exact h3 g a e.symm
  ·have:=(B (Or.inl ⟨x,q,g,a,e⟩)).1
   omega
 have b4:∀{b:Nat},StB X L r f u b->¬X b/\¬Mut L r (some f) u b:=fun N=>⟨N.1,fun q=>by
  rcases q with q|q|q|q
  ·exact N.2.1 q
  ·exact N.2.2.1 q
  ·cases q;exact N.2.2.2.1 rfl
  ·exact N.2.2.2.2 q⟩
 have b0:∀b,b<w.heap.size->¬VLo L b->¬VLo (putL L j) b:=fun b i Q q=>by
  rcases a6 b q with z|z
  ·exact Q z
  ·omega
 have b5:thrL (putL L j)=updV (thrL L) m.name (.pointer (some ⟨A,0,none⟩)):=by
  have:=putL_thr I a5
  rw[s,G]at this
  rw[G]
  exact this
 refine⟨⟨(o _ c4 (fun e=>h.tx.2.1 e.symm)).trans h.blk,⟨h.xw.1,b0 r c4 h.xw.2⟩,?_,fun b i=>⟨(h.nx b i).1,(h.nx b i).2.1,(h.nx b i).2.2.1,b0 b (h.nm.lt b i).2 (h.nx b i).2.2.2⟩,⟨h.tx.1,h.tx.2.1,b0 f d6 h.tx.2.2⟩,⟨n0+1,by omega,by rw[b5];exact b9⟩,fun x l=>?_,fun b i=>?_,?_,?_,fun x l=>?_,a8⟩,?_,?_⟩
 ·rw[jY,putL_len]
  exact zH h.nm (fun b _ F ho=>o b F (h.nx b ho).2.2.1)
 ·rcases yF l with rfl|⟨q,a3⟩
  ·refine⟨⟨ia,ga,pa,ba,ic,gc,pc,bc,?_,?_⟩,?_,?_,?_,a7 _ l⟩
   ·have:=(c0 A c9 b7 b1).trans c5
    rw[G]
    exact this
   ·rw[s]
    exact f0.mono (fun b i F=>⟨o b F (fun e=>(hD b i F).2 (Or.inr (Or.inr (Or.inl (by rw[e]))))),b3 b F (hD b i F).1 (hD b i F).2⟩)
   ·have:=c6 A c9 b7 (fun g a=>(a4 g a).1)
    rw[G]at this ⊢
    exact this
   ·have:=c6 t e9 d5 (fun g a=>(a4 g a).2)
    rw[G]at this ⊢
    exact this
   ·obtain⟨n,b8⟩:=e7
    have e2:=b8.lt
    refine⟨n,?_⟩
    have:=b8.on (S.block t e2 (by omega))
    have e:loV (⟨m,A,t,kslF lo sl m.vars⟩:Lo)=keepF lo m sl m.vars.length:=by
     funext k
     unfold loV keepF
     rw[c2]
    rw[G,e]
    exact this
  ·obtain⟨⟨e8,f3,e4,e3,d9,f1,e5,e6,K,W⟩,h3,h4,⟨n,h5⟩,h9⟩:=h.lo x q
   have a2:∀b,StB X L r f u b->b<w.heap.size->O.heap[b]?=w.heap[b]?/\StB X (putL L j) r f u b:=fun b N F=>⟨o b F N.2.2.2.1,b3 b F (b4 N).1 (b4 N).2⟩
   exact⟨⟨e8,f3,e4,e3,d9,f1,e5,e6,(a2 _ h3 (zf K)).1.trans K,W.mono a2⟩,(a2 _ h3 (zf K)).2,(a2 _ h4 h5.lt).2,⟨n,h5.on (a2 _ h4 h5.lt).1⟩,a7 x l⟩
 ·rcases a6 b i with q|q
  ·exact⟨by have:=(B (Or.inl q)).1;omega,(B (Or.inl q)).2⟩
  ·exact⟨by omega,c7 b q.1⟩
 ·rw[jY];exact h.nd
 ·intro x l x' e0 g a E C e
  rcases yF l with rfl|⟨q,a3⟩<;>rcases yF e0 with rfl|⟨q',d2⟩
  ·refine⟨rfl,?_⟩
   rw[s]at a C
   rw[R g a,R E C]at e
   by_cases d:keptG lo.m g=true<;>by_cases V:keptG lo.m E=true
   ·rw[if_pos d,if_pos V]at e
    obtain⟨y,U,T,_⟩:=kZ d
    obtain⟨z,z1,z2,_⟩:=kZ V
    rw[<-T,<-z2]at e ⊢
    exact(h.inj lo I lo I y U z z1 e).2
   ·rw[if_pos d,if_neg V]at e
    have:=(B (Or.inl (a1 g a d))).1
    have:=(H E C).1
    omega
   ·rw[if_neg d,if_pos V]at e
    have:=(B (Or.inl (a1 E C V))).1
    have:=(H g a).1
    omega
   ·rw[if_neg d,if_neg V]at e
    exact b6 g a E C e
  ·exfalso
   rw[s]at a
   rw[R g a]at e
   by_cases d:keptG lo.m g=true
   ·rw[if_pos d]at e
    obtain⟨y,U,T,_⟩:=kZ d
    rw[<-T]at e
    have:=(h.inj lo I x' q' y U E C e).1
    exact d2 (this.symm.trans a5)
   ·rw[if_neg d]at e
    have:=(B (Or.inl ⟨x',q',E,C,rfl⟩)).1
    have:=(H g a).1
    omega
  ·exfalso
   rw[s]at C
   rw[R E C]at e
   by_cases d:keptG lo.m E=true
   ·rw[if_pos d]at e
    obtain⟨y,U,T,_⟩:=kZ d
    rw[<-T]at e
    have:=(h.inj x q lo I g a y U e).1
    exact a3 (this.trans a5)
   ·rw[if_neg d]at e
    have:=(B (Or.inl ⟨x,q,g,a,rfl⟩)).1
    have:=(H E C).1
    omega
  ·exact h.inj x q x' q' g a E C e
 ·rcases yF l with rfl|⟨q,a3⟩
  ·obtain⟨p0,p1,p2,p3⟩:=h.vals lo I
   rw[c1]at p1
   have f4:p0=p:=by rw[hp]at p1;exact(Option.some.inj p1).symm
   rw[f4]at p2 p3
   refine⟨⟨m,Tp.swapV p.m m p.vars⟩,?_,s.symm,fun g a=>?_⟩
   ·rw[s];exact Tp.part_put_self hp
   ·rw[s]at a
    simp only
    rw[swapV_at d0 a,R g a,p2]
    by_cases d:keptG lo.m g=true
    ·rw[if_pos d,if_pos d]
     obtain⟨y,U,T,y3⟩:=kZ d
     have Q:=p3 y U
     have f2:vlen y=vlen g:=by unfold vlen;rw[y3]
     rw[T,f2]at Q
     have a0:=a1 g a d
     exact⟨Q.1,(o _ (B (Or.inl a0)).1 (fun e=>h.tx.2.2 (e ▸ a0))).trans Q.2.1,Q.2.2⟩
    ·rw[if_neg d,if_neg d]
     refine⟨by simp,?_,fun v Q=>?_⟩
     ·exact(c0 _ (H g a).1 (b2 g a) (a4 g a).2).trans (H g a).2
     ·rw[(List.mem_replicate.1 Q).2];decide
  ·obtain⟨p0,p1,p2,p3⟩:=h.vals x q
   rw[s]at a3
   refine⟨p0,(Tp.part_put a3).trans p1,p2,fun g a=>⟨(p3 g a).1,?_,(p3 g a).2.2⟩⟩
   have a0:VLo L (x.sl g.name):=⟨x,q,g,a,rfl⟩
   exact(o _ (B (Or.inl a0)).1 (fun e=>h.tx.2.2 (e ▸ a0))).trans (p3 g a).2.1
 ·intro f8 e
  cases e
  exact⟨n0+1,by omega,by rw[b5];exact b9⟩
 ·refine⟨(S.os.trans Y.os).trans h6.os,(S.tape.trans Y.tape).trans h6.tape,(S.output.trans Y.output).trans h6.output,by omega,fun b i Z=>o b i (fun e=>Z (Or.inr (Or.inr (Or.inl (by rw[e]))))),fun b i=>?_⟩
  rcases i with q|q|q|q
  ·rcases a6 b q with y|y
   ·exact Or.inl (Or.inl y)
   ·exact Or.inr y.1
  ·exact Or.inl (Or.inr (Or.inl q))
  ·exact Or.inl (Or.inr (Or.inr (Or.inl q)))
  ·exact Or.inl (Or.inr (Or.inr (Or.inr q)))
theorem swap1_cf (args:Array Value)(w:World):(callFunc 45 args).run Tryz.prog w=.ok (.enter 45 args) w:=by kernel_rfl
theorem swap2_cf (args:Array Value)(w:World):(callFunc 47 args).run Tryz.prog w=.ok (.enter 47 args) w:=by kernel_rfl
theorem swap1_post {w:World}{d x1 x2:Nat}{n a:Bs}{r:Bool}(g:w.cell? ⟨x1,0,none⟩=some (.pointer (some ⟨d,0,none⟩)))(f:w.cell? ⟨x2,0,none⟩=some (.string (bs a)))
  (b:Calls Tryz.prog 46 #[.pointer (some ⟨d,0,none⟩),.string (bs n),.string (bs a)] w fun e w'=>e=.returned (.bool r)/\Below w.heap.size w w') :
  Calls Tryz.prog 45 #[.string (bs n),.pointer (some ⟨x1,0,none⟩),.pointer (some ⟨x2,0,none⟩)] w fun e w'=>e=.returned (.bool r)/\Below w.heap.size w w':=by
 have i:=zh b
 have k:=zg g
 have j:=zg f
 clear b
 go_enter Tryz.func45,Tryz.ntmps45
 go_wp2_with fail
 refine i.out.mono ?_
 rintro e l⟨rfl,c⟩
 have h:=zh c
 clear c
 go_wp2_with fail
 go_ret
 exact⟨rfl,h.out⟩
theorem swap2_post {w:World}{x x1 x2 x3 a:Nat}{n:Bs}{r:Bool}{y A:ByteArray}{s1 s2 s3 s4 f o j g:Option Addr}{i k t u c1 c2 c3 q h v c l d m s z:Nat}{O:Value}(F:w.cell? ⟨x1,0,none⟩=some (.pointer (some ⟨x,0,none⟩)))(D:w.cell? ⟨x2,0,none⟩=some (.pointer (some ⟨a,0,none⟩)))
  (C:w.heap[x3]?=some (.cells #[.string y,.slice s1 i c1,.slice s2 k c2,.slice s3 t c3,.slice s4 u q] 36 (0,0)))(B:w.heap[a]?=some (.cells #[.string A,.slice f h d,.slice o v m,.slice j c s,.slice g l z,O] 107 (0,0)))
  (J:∀W,Below w.heap.size w W->Calls Tryz.prog 48 #[.pointer (some ⟨x,0,none⟩),.string (bs n),.agg #[.string A,.slice f h d,.slice o v m,.slice j c s,.slice g l z],.agg #[.string y,.slice s1 i c1,.slice s2 k c2,.slice s3 t c3,.slice s4 u q]] W fun e w'=>e=.returned (.bool r)/\Below W.heap.size W w') :
  Calls Tryz.prog 47 #[.string (bs n),.pointer (some ⟨x1,0,none⟩),.pointer (some ⟨x2,0,none⟩),.pointer (some ⟨x3,0,none⟩)] w fun e w'=>e=.returned (.bool r)/\Below w.heap.size w w':=by
 have G:Hid (∀V,Below w.heap.size w V->V.cell? ⟨x1,0,none⟩=some (.pointer (some ⟨x,0,none⟩))/\V.cell? ⟨x2,0,none⟩=some (.pointer (some ⟨a,0,none⟩))/\V.cell? ⟨a,0,none⟩=some (.string A)/\V.cell? ⟨a,1,none⟩=some (.slice f h d)/\V.cell? ⟨a,2,none⟩=some (.slice o v m)/\V.cell? ⟨a,3,none⟩=some (.slice j c s)/\V.cell? ⟨a,4,none⟩=some (.slice g l z)/\V.cell? ⟨x3,0,none⟩=some (.string y)/\V.cell? ⟨x3,1,none⟩=some (.slice s1 i c1)/\V.cell? ⟨x3,2,none⟩=some (.slice s2 k c2)/\V.cell? ⟨x3,3,none⟩=some (.slice s3 t c3)/\V.cell? ⟨x3,4,none⟩=some (.slice s4 u q)):=fun V E=>by
  obtain⟨P,Q,R,S,X⟩:=ym ((E.block _ (zf C)).trans C)
  have b:=(E.block _ (zf B)).trans B
  exact⟨(E.cell (p:=⟨x1,0,none⟩) (zg F)).trans F,(E.cell (p:=⟨x2,0,none⟩) (zg D)).trans D,(za b).trans rfl,(za b).trans rfl,(za b).trans rfl,(za b).trans rfl,(za b).trans rfl,P,Q,R,S,X⟩
 have hd:Below w.heap.size w w.drew:=(Below.refl _ _).drew
 have K:Hid (w.drew.cell? ⟨x1,0,none⟩=some (.pointer (some ⟨x,0,none⟩))/\w.drew.cell? ⟨x2,0,none⟩=some (.pointer (some ⟨a,0,none⟩))/\w.drew.cell? ⟨a,0,none⟩=some (.string A)/\w.drew.cell? ⟨a,1,none⟩=some (.slice f h d)/\w.drew.cell? ⟨a,2,none⟩=some (.slice o v m)/\w.drew.cell? ⟨a,3,none⟩=some (.slice j c s)/\w.drew.cell? ⟨a,4,none⟩=some (.slice g l z)/\w.drew.cell? ⟨x3,0,none⟩=some (.string y)/\w.drew.cell? ⟨x3,1,none⟩=some (.slice s1 i c1)/\w.drew.cell? ⟨x3,2,none⟩=some (.slice s2 k c2)/\w.drew.cell? ⟨x3,3,none⟩=some (.slice s3 t c3)/\w.drew.cell? ⟨x3,4,none⟩=some (.slice s4 u q)):=G.out _ hd
 have U:Hid (Calls Tryz.prog 48 #[.pointer (some ⟨x,0,none⟩),.string (bs n),.agg #[.string A,.slice f h d,.slice o v m,.slice j c s,.slice g l z],.agg #[.string y,.slice s1 i c1,.slice s2 k c2,.slice s3 t c3,.slice s4 u q]] w.drew fun e w'=>e=.returned (.bool r)/\(Below w.heap.size w w')/\(w'.cell? ⟨x1,0,none⟩=some (.pointer (some ⟨x,0,none⟩))/\w'.cell? ⟨x2,0,none⟩=some (.pointer (some ⟨a,0,none⟩))/\w'.cell? ⟨a,0,none⟩=some (.string A)/\w'.cell? ⟨a,1,none⟩=some (.slice f h d)/\w'.cell? ⟨a,2,none⟩=some (.slice o v m)/\w'.cell? ⟨a,3,none⟩=some (.slice j c s)/\w'.cell? ⟨a,4,none⟩=some (.slice g l z)/\w'.cell? ⟨x3,0,none⟩=some (.string y)/\w'.cell? ⟨x3,1,none⟩=some (.slice s1 i c1)/\w'.cell? ⟨x3,2,none⟩=some (.slice s2 k c2)/\w'.cell? ⟨x3,3,none⟩=some (.slice s3 t c3)/\w'.cell? ⟨x3,4,none⟩=some (.slice s4 u q))):=by
  refine(J _ hd).mono ?_
  rintro e w'⟨N,T⟩
  have b:Below w.heap.size w w':=hd.trans T
  exact⟨N,b,G.out _ b⟩
 have Y:=zg F
 have a1:=zg D
 have a2:=zf C
 have Z:=zf B
 clear J F D C B hd G
 go_enter Tryz.func47,Tryz.ntmps47
 go_upto_region 1 with fail
 go_region_held3 (fun w'=>w'.cell? ⟨x1,0,none⟩=some (.pointer (some ⟨x,0,none⟩))/\w'.cell? ⟨x2,0,none⟩=some (.pointer (some ⟨a,0,none⟩))/\w'.cell? ⟨a,0,none⟩=some (.string A)/\w'.cell? ⟨a,1,none⟩=some (.slice f h d)/\w'.cell? ⟨a,2,none⟩=some (.slice o v m)/\w'.cell? ⟨a,3,none⟩=some (.slice j c s)/\w'.cell? ⟨a,4,none⟩=some (.slice g l z)/\w'.cell? ⟨x3,0,none⟩=some (.string y)/\w'.cell? ⟨x3,1,none⟩=some (.slice s1 i c1)/\w'.cell? ⟨x3,2,none⟩=some (.slice s2 k c2)/\w'.cell? ⟨x3,3,none⟩=some (.slice s3 t c3)/\w'.cell? ⟨x3,4,none⟩=some (.slice s4 u q)) (with_reducible (first|exact M.out|exact K.out)) (first|(go_at_call 48;refine U.out.mono ?_;rintro e w1 ⟨rfl,I,H⟩;have L:=zh I;have M:=zh H;clear I H))
 go_wp2_with fail
 go_ret
 exact⟨rfl,L.out⟩
end Go.Proofs.YtibncofnnlbmcaaGreatDoor
namespace Go.Proofs.YtibncofnnlbmcaaGreatDoor
open Go.RowKit Go.Maps
open Tp (Bs X S G Pr Pt Rs Rr Own)
theorem check_imp {P:List Pt}{m:Tp.M}(h:Tp.check m (Tp.seenW ofS P)=none){n:Bs}(a:n∈m.imports):(Tp.partOf P n).isSome=true:=by
 have:=((Tp.check_none.1 h).1.1 n a).2
 unfold Tp.seenW at this
 cases b:Tp.partOf P n with
 |none=>rw[b]at this;exact absurd rfl this
 |some q=>rfl
open Classical in
theorem cyc_post {X:Nat->Prop}{W:World}{k x1 x3:Nat}{L:List Lo}{P:List Pt}{D:Value}{A:Option Nat}{m:Tp.M}{f B E v:Option Addr}{g u y z:Nat}(h:WX X W k L P D A)(r:Tp.WI ofS P)(l:Tp.check m (Tp.seenW ofS P)=none)(o:MB W W.heap.size m f B E v g u y z)(c:Tp.WM m)(i:W.cell? ⟨x1,0,none⟩=some (.pointer (some ⟨k,0,none⟩)))(b:W.cell? ⟨x3,0,none⟩=some (.string (bs m.name))) :
  Calls Tryz.prog 44 #[.slice f m.imports.length g,.func (.func 45) #[] #[.pointer (some ⟨x1,0,none⟩),.pointer (some ⟨x3,0,none⟩)]] W fun e w'=>e=.returned (.bool (m.imports.any fun n=>decide (Tp.Leads P n m.name)))/\Below W.heap.size W w':=by
 have F:=c.ic
 refine containsT2 (Row.strs o.im) (by omega) swap1_cf (fun V n w a=>?_)
 refine swap1_post ((a.cell (p:=⟨x1,0,none⟩) (zg i)).trans i) ((a.cell (p:=⟨x3,0,none⟩) (zg b)).trans b) ?_
 refine leads_post r (fun lo s=>by have:=zQ (h.wm s).n;omega) (by have:=zQ c.n;omega) _ ((Tp.ms P).map (·.name)) zn n (fun x _ d=>?_) (check_imp l w) V (h.on a)
 cases j:Tp.partOf P x with
 |none=>rw[j]at d;cases d
 |some q =>
  obtain⟨t,C⟩:=Tp.part_name j
  exact List.mem_map.2 ⟨q.m,List.mem_map.2 ⟨q,t,rfl⟩,C⟩
def othB (P:List Pt) (m old:Tp.M):Bool:=P.any fun q=>(Tp.usedR q.m m.name).any fun n=>Tp.needS (ofS m) n != Tp.needS (ofS old) n
def othP (L:List Lo) (m old:Tp.M) (x:Bs):Bool:=match L.find? fun lo=>lo.m.name==x with
 |some lo=>(Tp.usedR lo.m m.name).any fun n=>Tp.needS (ofS m) n != Tp.needS (ofS old) n
 |none=>false
theorem oth_eq {X:Nat->Prop}{w:World}{d:Nat}{L:List Lo}{P:List Pt}{e:Value}{c:Option Nat}(h:WX X w d L P e c)(m b:Tp.M):(L.map fun lo=>lo.m.name).any (othP L m b)=othB P m b:=by
 have f:othB P m b=(Tp.ms P).any fun x=>(Tp.usedR x m.name).any fun n=>Tp.needS (ofS m) n != Tp.needS (ofS b) n:=by
  unfold othB Tp.ms
  rw[List.any_map]
  rfl
 rw[f,h.mw,List.any_map,List.any_map,Bool.eq_iff_iff,List.any_eq_true,List.any_eq_true]
 constructor
 ·rintro⟨lo,a,q⟩
  refine⟨lo,a,?_⟩
  simp only[Function.comp,othP]at q ⊢
  rw[(Tp.find_key (key:=fun lo:Lo=>lo.m.name) h.nd lo).2 ⟨a,rfl⟩]at q
  exact q
 ·rintro⟨lo,a,q⟩
  refine⟨lo,a,?_⟩
  simp only[Function.comp,othP]at q ⊢
  rw[(Tp.find_key (key:=fun lo:Lo=>lo.m.name) h.nd lo).2 ⟨a,rfl⟩]
  exact q
theorem oth_post {X:Nat->Prop}{W:World}{A x1 x2 x3:Nat}{L:List Lo}{P:List Pt}{j:Option Addr}{g:Nat}{tv:Option Nat}{m:Tp.M}{lo:Lo}{r y D t:Option Addr}{s l u w:Nat}(h:WX X W A L P (.slice j L.length g) tv)(hL:L.length<=10)(J:∀x∈Tp.ms P,Tp.nM x<=1000)(N:MB W W.heap.size m r y D t s l u w)(S:Tp.WM m)(k:lo∈L)(K:lo.m.name=m.name)(z:W.cell? ⟨x1,0,none⟩=some (.pointer (some ⟨A,0,none⟩)))(q:W.cell? ⟨x2,0,none⟩=some (.pointer (some ⟨lo.lb,0,none⟩)))
  (o:W.heap[x3]?=some (.cells (mcells (bs m.name) (.slice r m.imports.length s) (.slice y m.vars.length l) (.slice D m.procs.length u) (.slice t m.body.length w)) 36 (0,0))) :
  Calls Tryz.prog 44 #[.slice j L.length g,.func (.func 47) #[] #[.pointer (some ⟨x1,0,none⟩),.pointer (some ⟨x2,0,none⟩),.pointer (some ⟨x3,0,none⟩)]] W fun e w'=>e=.returned (.bool (othB P m lo.m))/\Below W.heap.size W w':=by
 obtain⟨tb,a2,O⟩:=h.ww k
 obtain⟨⟨a7,a5,a0,a8,a1,a4,a3,a6,v,Z⟩,_,_,_,E⟩:=O.lo lo k
 have G:StrsAt W (L.map fun lo=>lo.m.name) j:=by
  refine⟨fun i hi=>?_⟩
  have Q:i<L.length:=by simpa using hi
  obtain⟨nb,_,_,_,_,_,_,_,_,R,q2,q3,_⟩:=h.rd i Q
  exact⟨nb,0,R,q2,by rw[Nat.zero_add,q3];simp⟩
 have F:(L.map fun lo=>lo.m.name).length=L.length:=by simp
 have key:=containsT3 (cap:=g) (p:=othP L m lo.m) (c1:=.pointer (some ⟨x1,0,none⟩)) (c2:=.pointer (some ⟨x2,0,none⟩)) (c3:=.pointer (some ⟨x3,0,none⟩)) G (by omega) swap2_cf (fun V n hn a=>?_)
 ·rw[F,oth_eq h]at key
  exact key
 ·obtain⟨c,d,rfl⟩:=List.mem_map.1 hn
  have I:Tp.nM c.m<=1000:=J _ (by rw[h.mw];exact List.mem_map.2 ⟨c,d,rfl⟩)
  have Y:othP L m lo.m c.m.name=(Tp.usedR c.m m.name).any fun n=>Tp.needS (ofS m) n != Tp.needS (ofS lo.m) n:=by
   unfold othP
   rw[(Tp.find_key (key:=fun lo:Lo=>lo.m.name) h.nd c).2 ⟨d,rfl⟩]
  rw[Y]
  have C:=(a.block _ (zf v)).trans v
  have B:=(a.block _ (zf o)).trans o
  unfold lcells at C
  unfold mcells at B
  refine swap2_post ((a.cell (p:=⟨x1,0,none⟩) (zg z)).trans z) ((a.cell (p:=⟨x2,0,none⟩) (zg q)).trans q) B C (fun V' H=>?_)
  have f:=a.trans (H.mono a.size)
  have:=jy (h.on f) d rfl (by have:=zQ (h.wm d).n;omega) I ((Z.mb (fun b _ T=>T)).up f) (N.up f) E.wm S
  unfold mcells at this
  refine this.mono ?_
  rintro e w'⟨U,h2⟩
  exact⟨by rw[U,K],h2⟩
theorem Row.blkD {w:World}{D:Nat->Prop}{e size n cap:Nat}{a:Option Addr}{cs:List Value}(h:Row w D e size (.slice a n cap) n cs){x:Addr}(c:a=some x):D x.block/\x.block<w.heap.size:=by
 rcases h with⟨b,_,_⟩|⟨g,cap,cur,b,h2,h3,_⟩
 ·injection b with b _ _
  rw[c]at b
  cases b
 ·injection b with b _ _
  rw[c]at b
  cases b
  exact⟨h2,zf h3⟩
end Go.Proofs.YtibncofnnlbmcaaGreatDoor
