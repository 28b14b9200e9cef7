import Derived.Test.YtibncofnnlbmcaaGreatDoorKAb
import Derived.Test.YtibncofnnlbmcaaGreatDoorKAa
set_option maxRecDepth 100000
set_option maxHeartbeats 4000000
namespace Go.Proofs.YtibncofnnlbmcaaGreatDoor
open Go.RowKit Go.Maps
open Tp (Bs X S G Pr Pt Rs Rr Own)
def putL (L:List Lo) (n:Lo):List Lo:=L.map fun q=>if q.m.name=n.m.name then n else q
theorem xk {L:List Lo}{n:Lo}:(putL L n).map (fun lo=>lo.m.name)=L.map fun lo=>lo.m.name:=by
 unfold putL
 rw[List.map_map]
 apply List.map_congr_left
 intro q _
 simp only[Function.comp]
 split
 ·rename_i e;exact e.symm
 ·rfl
theorem yH {L:List Lo}{n q:Lo}(h:q∈putL L n):q=n\/q∈L/\q.m.name≠n.m.name:=by
 obtain⟨x,b,e⟩:=List.mem_map.1 h
 by_cases a:x.m.name=n.m.name
 ·rw[if_pos a]at e;exact Or.inl e.symm
 ·rw[if_neg a]at e;subst e;exact Or.inr ⟨b,a⟩
theorem putL_in {L:List Lo}{n lo:Lo}(h:lo∈L)(e:lo.m.name=n.m.name):n∈putL L n:=List.mem_map.2 ⟨lo,h,if_pos e⟩
theorem putL_len (L:List Lo)(n:Lo):(putL L n).length=L.length:=by simp[putL]
theorem putL_thr {L:List Lo}{n lo:Lo}(h:lo∈L)(e:lo.m.name=n.m.name):thrL (putL L n)=updV (thrL L) n.m.name (.pointer (some ⟨n.lb,0,none⟩)):=by
 funext k
 unfold thrL updV putL
 by_cases b:k=n.m.name
 ·rw[if_pos b]
  have:∀l:List Lo,lo∈l->(l.map fun q=>if q.m.name=n.m.name then n else q).find? (fun lo=>lo.m.name==k)=some n:=by
   intro l d
   induction l with
   |nil=>cases d
   |cons x t ih =>
    rw[List.map_cons]
    by_cases a:x.m.name=n.m.name
    ·rw[if_pos a,List.find?_cons_of_pos (by simp[b])]
    ·rw[if_neg a,List.find?_cons_of_neg (by simp[b,a])]
     rcases List.mem_cons.1 d with q|q
     ·subst q;exact absurd e a
     ·exact ih q
  rw[this L h]
  rfl
 ·rw[if_neg b]
  congr 1
  have:∀l:List Lo,(l.map fun q=>if q.m.name=n.m.name then n else q).find? (fun lo=>lo.m.name==k)=l.find? fun lo=>lo.m.name==k:=by
   intro l
   induction l with
   |nil=>rfl
   |cons x t ih =>
    rw[List.map_cons]
    by_cases a:x.m.name=n.m.name
    ·rw[if_pos a,List.find?_cons_of_neg (by simpa using fun q=>b q.symm),List.find?_cons_of_neg (by simpa using fun q=>b (q.symm.trans a)),ih]
    ·rw[if_neg a]
     by_cases c:x.m.name=k
     ·rw[List.find?_cons_of_pos (by simpa using c),List.find?_cons_of_pos (by simpa using c)]
     ·rw[List.find?_cons_of_neg (by simpa using c),List.find?_cons_of_neg (by simpa using c),ih]
  exact this L
theorem kslF_all {lo:Lo}{sl:Bs->Nat}{m:Tp.M}(b:(m.vars.map (·.name)).Nodup){g:G}(a:g∈m.vars):kslF lo sl m.vars g.name=if keptG lo.m g then lo.sl g.name else sl g.name:=by
 have:m.vars.find? (fun x=>x.name==g.name)=some g:=Tp.varOf_mem b a
 unfold kslF
 rw[this]
theorem je {a:Tp.M}{g:G}(h:keptG a g=true):∃h∈a.vars,h.name=g.name/\h.len=g.len:=by
 unfold keptG at h
 obtain⟨x,c,b⟩:=List.any_eq_true.1 h
 simp only[Bool.and_eq_true,decide_eq_true_eq]at b
 exact⟨x,c,b⟩
theorem swapV_at {b a:Tp.M}{c:Bs->List Int}(e:(a.vars.map (·.name)).Nodup){g:G}(d:g∈a.vars):Tp.swapV b a c g.name=if keptG b g then c g.name else List.replicate (vlen g) 0:=by
 have j:a.vars.find? (fun x=>x.name==g.name)=some g:=Tp.varOf_mem e d
 unfold Tp.swapV
 rw[j]
 simp only
 rw[x9 e d]
 have:(b.vars.any fun h=>h.name==g.name&&h.len==g.len)=keptG b g:=by
  unfold keptG
  congr 1
  funext h
  by_cases f:h.name=g.name<;>by_cases i:h.len=g.len<;>simp[f,i]
 rw[this]
theorem ww_swap {X:Nat->Prop}{D:Nat->Prop}{c n0:Nat}{w N w7 Q:World}{r:Nat}{L:List Lo}{P:List Pt}{u:Value}{i:Nat}{m:Tp.M}{p:Pt}{lo:Lo}{ia ga pa ba:Option Addr}{ic gc pc bc A t:Nat}{sl:Bs->Nat}(hm:Tp.WM m)(h:WW X w r L P u i)(hX:∀b,X b->b<w.heap.size)(d2:Tp.WI ofS (Tp.putM P m))(H:lo∈L)(c1:lo.m.name=m.name)(hp:Tp.partOf P m.name=some p)(e5:MD w D m ia ga pa ba ic gc pc bc)(hD:∀b,D b->b<w.heap.size->¬X b/\¬Mut L r (some i) u b)
  (h6:Below w.heap.size w N)(c0:w.heap.size<=A)(e7:w.heap.size<=t)(b1:A≠t)(b8:N.heap[A]?=some (.cells (lcells m ia ga pa ba ic gc pc bc t) 107 (0,0)))(a9:Laid N w.heap.size t m.vars m.vars.length sl)(a4:∀g∈m.vars,sl g.name≠A/\sl g.name≠t)
  (Z:Ext t N w7)(e4:∃n,MapV w7 t n (keepF lo m sl m.vars.length))(hc:c<=90)(S:Ext i w7 Q)(f6:n0<=c)(c2:MapV Q i (n0+1) (updV (thrL L) m.name (.pointer (some ⟨A,0,none⟩)))) :
  WW X Q r (putL L ⟨m,A,t,kslF lo sl m.vars⟩) (Tp.putM P m) u i/\MapC Q (some i) (putL L ⟨m,A,t,kslF lo sl m.vars⟩) (c+1)/\Tr (Mut L r (some i) u) (Mut (putL L ⟨m,A,t,kslF lo sl m.vars⟩) r (some i) u) w Q:=by
 obtain⟨l,I⟩:∃l:Lo,l=⟨m,A,t,kslF lo sl m.vars⟩:=⟨_,rfl⟩
 have s:l.m=m:=by rw[I]
 have e9:WX X w r L P u (some i):=h
 rw[<-I]
 have a5:lo.m.name=l.m.name:=by rw[s];exact c1
 have c5:=h.mw
 have a8:Tp.ms (Tp.putM P m)=(putL L l).map fun lo=>lo.m:=by
  unfold Tp.ms at c5
  have e1:Tp.ms (Tp.putM P m)=(P.map (·.m)).map fun x=>if x.name=m.name then m else x:=by
   unfold Tp.ms Tp.putM
   simp only[List.map_map]
   apply List.map_congr_left
   intro q _
   simp only[Function.comp]
   split<;>rfl
  rw[e1,c5]
  unfold putL
  simp only[List.map_map]
  apply List.map_congr_left
  intro q _
  simp only[Function.comp]
  rw[s]
  split
  ·exact s.symm
  ·rfl
 have d1:∀x∈putL L l,Tp.WM x.m:=fun x j=>by
  rcases yH j with rfl|⟨q,_⟩
  ·rw[s];exact hm
  ·exact(h.lo x q).2.2.2.2.wm
 have a7:∀x∈putL L l,Tp.FitM ((putL L l).map fun lo=>lo.m) x.m:=fun x j=>by
  rw[<-a8]
  exact d2.fit jC (by rw[a8];exact List.mem_map.2 ⟨x,j,rfl⟩) (d1 x j)
 have d3:l∈putL L l:=putL_in H a5
 have c9:(m.vars.map (·.name)).Nodup:=by have:=(a7 l d3).vn;rw[s]at this;exact this
 have f5:=(h.lo lo H).2.2.2.2
 have f7:=h6.size
 have f8:=Z.size
 have f9:=S.size
 have c8:m.vars.take m.vars.length=m.vars:=List.take_length
 have G:=a9.at'
 have b3:=a9.inj
 have c3:=a9.map
 rw[c8]at G b3 c3
 have b2:∀g∈m.vars,sl g.name<N.heap.size:=fun g a=>zf (G g a).2
 have B:=fun {b:Nat} (q:Mut L r (some i) u b)=>e9.mlt q
 have d0:r<w.heap.size:=zf h.blk
 have R:∀g∈m.vars,l.sl g.name=if keptG lo.m g then lo.sl g.name else sl g.name:=fun g a=>by rw[I];exact kslF_all c9 a
 have a1:∀g∈m.vars,keptG lo.m g=true->VLo L (lo.sl g.name):=fun g _ o=>by
  obtain⟨x,J,W,_⟩:=je o
  exact⟨lo,H,x,J,by rw[W]⟩
 have a6:∀b,VLo (putL L l) b->VLo L b\/w.heap.size<=b/\b<N.heap.size/\b≠A/\b≠t:=by
  rintro b⟨x,j,g,a,rfl⟩
  rcases yH j with rfl|⟨q,_⟩
  ·rw[s]at a
   rw[R g a]
   by_cases o:keptG lo.m g=true
   ·rw[if_pos o];exact Or.inl (a1 g a o)
   ·rw[if_neg o];exact Or.inr ⟨(G g a).1,b2 g a,(a4 g a).1,(a4 g a).2⟩
  ·exact Or.inl ⟨x,q,g,a,rfl⟩
 have c6:∀b,w.heap.size<=b->¬X b:=fun b f q=>by have:=hX b q;omega
 have d4:∀b,w.heap.size<=b->¬Mut L r (some i) u b:=fun b f q=>by have:=(B q).1;omega
 have d6:i<w.heap.size:=(B (Or.inr (Or.inr (Or.inl rfl)))).1
 have o:∀b,b<w.heap.size->b≠i->Q.heap[b]?=w.heap[b]?:=fun b f b1=>((S.block b (by omega) b1).trans (Z.block b (by omega) (by omega))).trans (h6.block b f)
 have b9:∀b,w.heap.size<=b->b<N.heap.size->b≠t->Q.heap[b]?=N.heap[b]?:=fun b J W Y=>(S.block b (by omega) (by omega)).trans (Z.block b W Y)
 have b4:=zf b8
 have d7:=c3.lt
 have b5:∀b,b<w.heap.size->¬X b->¬Mut L r (some i) u b->StB X (putL L l) r i u b:=fun b f j hu=>by
  refine⟨j,fun q=>?_,fun e=>hu (Or.inr (Or.inl e)),fun e=>hu (Or.inr (Or.inr (Or.inl (by rw[e])))),fun e=>hu (Or.inr (Or.inr (Or.inr e)))⟩
  rcases a6 b q with q|q
  ·exact hu (Or.inl q)
  ·omega
 have c7:∀b,w.heap.size<=b->b<N.heap.size->(∀g∈m.vars,sl g.name≠b)->StB X (putL L l) r i u b:=fun b J W Y=>by
  refine⟨c6 b J,?_,by omega,by omega,fun e=>d4 b J (Or.inr (Or.inr (Or.inr e)))⟩
  rintro⟨x,j,g,a,e⟩
  rcases yH j with rfl|⟨q,_⟩
  ·rw[s]at a
   rw[R g a]at e
   by_cases o:keptG lo.m g=true
   ·rw[if_pos o]at e
    have:=(B (Or.inl (a1 g a o))).1
    omega
   ·rw[if_neg o]at e
    exact Y g a e.symm
  ·have:=(B (Or.inl ⟨x,q,g,a,e⟩)).1
   omega
 have b6:∀{b:Nat},StB X L r i u b->¬X b/\¬Mut L r (some i) u b:=fun K=>⟨K.1,fun q=>by
  rcases q with q|q|q|q
  ·exact K.2.1 q
  ·exact K.2.2.1 q
  ·cases q;exact K.2.2.2.1 rfl
  ·exact K.2.2.2.2 q⟩
 have b0:∀b,b<w.heap.size->¬VLo L b->¬VLo (putL L l) b:=fun b f O q=>by
  rcases a6 b q with z|z
  ·exact O z
  ·omega
 have b7:thrL (putL L l)=updV (thrL L) m.name (.pointer (some ⟨A,0,none⟩)):=by
  have:=putL_thr H a5
  rw[s,I]at this
  rw[I]
  exact this
 refine⟨⟨(o _ d0 (fun e=>h.tx.2.1 e.symm)).trans h.blk,⟨h.xw.1,b0 r d0 h.xw.2⟩,?_,fun b f=>⟨(h.nx b f).1,(h.nx b f).2.1,(h.nx b f).2.2.1,b0 b (h.nm.lt b f).2 (h.nx b f).2.2.2⟩,⟨h.tx.1,h.tx.2.1,b0 i d6 h.tx.2.2⟩,⟨n0+1,by omega,by rw[b7];exact c2⟩,fun x j=>?_,fun b f=>?_,?_,?_,fun x j=>?_,a8⟩,?_,?_⟩
 ·rw[xk,putL_len]
  exact zH h.nm (fun b _ F ho=>o b F (h.nx b ho).2.2.1)
 ·rcases yH j with rfl|⟨q,a3⟩
  ·refine⟨⟨ia,ga,pa,ba,ic,gc,pc,bc,?_,?_⟩,?_,?_,?_,a7 _ j⟩
   ·have:=(b9 A c0 b4 b1).trans b8
    rw[I]
    exact this
   ·rw[s]
    exact e5.mono (fun b f F=>⟨o b F (fun e=>(hD b f F).2 (Or.inr (Or.inr (Or.inl (by rw[e]))))),b5 b F (hD b f F).1 (hD b f F).2⟩)
   ·have:=c7 A c0 b4 (fun g a=>(a4 g a).1)
    rw[I]at this ⊢
    exact this
   ·have:=c7 t e7 d7 (fun g a=>(a4 g a).2)
    rw[I]at this ⊢
    exact this
   ·obtain⟨n,c4⟩:=e4
    have e3:=c4.lt
    refine⟨n,?_⟩
    have:=c4.on (S.block t e3 (by omega))
    have e:loV (⟨m,A,t,kslF lo sl m.vars⟩:Lo)=keepF lo m sl m.vars.length:=by
     funext k
     unfold loV keepF
     rw[c8]
    rw[I,e]
    exact this
  ·obtain⟨⟨f1,e0,f3,d8,f2,e2,f4,d9,J,W⟩,Y,h4,⟨n,h5⟩,h9⟩:=h.lo x q
   have a2:∀b,StB X L r i u b->b<w.heap.size->Q.heap[b]?=w.heap[b]?/\StB X (putL L l) r i u b:=fun b K F=>⟨o b F K.2.2.2.1,b5 b F (b6 K).1 (b6 K).2⟩
   exact⟨⟨f1,e0,f3,d8,f2,e2,f4,d9,(a2 _ Y (zf J)).1.trans J,W.mono a2⟩,(a2 _ Y (zf J)).2,(a2 _ h4 h5.lt).2,⟨n,h5.on (a2 _ h4 h5.lt).1⟩,a7 x j⟩
 ·rcases a6 b f with q|q
  ·exact⟨by have:=(B (Or.inl q)).1;omega,(B (Or.inl q)).2⟩
  ·exact⟨by omega,c6 b q.1⟩
 ·rw[xk];exact h.nd
 ·intro x j x' f0 g a E C e
  rcases yH j with rfl|⟨q,a3⟩<;>rcases yH f0 with rfl|⟨q',d5⟩
  ·refine⟨rfl,?_⟩
   rw[s]at a C
   rw[R g a,R E C]at e
   by_cases d:keptG lo.m g=true<;>by_cases V:keptG lo.m E=true
   ·rw[if_pos d,if_pos V]at e
    obtain⟨y,T,U,_⟩:=je d
    obtain⟨z,z1,z2,_⟩:=je V
    rw[<-U,<-z2]at e ⊢
    exact(h.inj lo H lo H y T z z1 e).2
   ·rw[if_pos d,if_neg V]at e
    have:=(B (Or.inl (a1 g a d))).1
    have:=(G E C).1
    omega
   ·rw[if_neg d,if_pos V]at e
    have:=(B (Or.inl (a1 E C V))).1
    have:=(G g a).1
    omega
   ·rw[if_neg d,if_neg V]at e
    exact b3 g a E C e
  ·exfalso
   rw[s]at a
   rw[R g a]at e
   by_cases d:keptG lo.m g=true
   ·rw[if_pos d]at e
    obtain⟨y,T,U,_⟩:=je d
    rw[<-U]at e
    have:=(h.inj lo H x' q' y T E C e).1
    exact d5 (this.symm.trans a5)
   ·rw[if_neg d]at e
    have:=(B (Or.inl ⟨x',q',E,C,rfl⟩)).1
    have:=(G g a).1
    omega
  ·exfalso
   rw[s]at C
   rw[R E C]at e
   by_cases d:keptG lo.m E=true
   ·rw[if_pos d]at e
    obtain⟨y,T,U,_⟩:=je d
    rw[<-U]at e
    have:=(h.inj x q lo H g a y T e).1
    exact a3 (this.trans a5)
   ·rw[if_neg d]at e
    have:=(B (Or.inl ⟨x,q,g,a,rfl⟩)).1
    have:=(G E C).1
    omega
  ·exact h.inj x q x' q' g a E C e
 ·rcases yH j with rfl|⟨q,a3⟩
  ·obtain⟨p0,p1,p2,p3⟩:=h.vals lo H
   rw[c1]at p1
   have e6:p0=p:=by rw[hp]at p1;exact(Option.some.inj p1).symm
   rw[e6]at p2 p3
   refine⟨⟨m,Tp.swapV p.m m p.vars⟩,?_,s.symm,fun g a=>?_⟩
   ·rw[s];exact Tp.part_put_self hp
   ·rw[s]at a
    simp only
    rw[swapV_at c9 a,R g a,p2]
    by_cases d:keptG lo.m g=true
    ·rw[if_pos d,if_pos d]
     obtain⟨y,T,U,y3⟩:=je d
     have O:=p3 y T
     have e8:vlen y=vlen g:=by unfold vlen;rw[y3]
     rw[U,e8]at O
     have a0:=a1 g a d
     exact⟨O.1,(o _ (B (Or.inl a0)).1 (fun e=>h.tx.2.2 (e ▸ a0))).trans O.2.1,O.2.2⟩
    ·rw[if_neg d,if_neg d]
     refine⟨by simp,?_,fun v O=>?_⟩
     ·exact(b9 _ (G g a).1 (b2 g a) (a4 g a).2).trans (G g a).2
     ·rw[(List.mem_replicate.1 O).2];decide
  ·obtain⟨p0,p1,p2,p3⟩:=h.vals x q
   rw[s]at a3
   refine⟨p0,(Tp.part_put a3).trans p1,p2,fun g a=>⟨(p3 g a).1,?_,(p3 g a).2.2⟩⟩
   have a0:VLo L (x.sl g.name):=⟨x,q,g,a,rfl⟩
   exact(o _ (B (Or.inl a0)).1 (fun e=>h.tx.2.2 (e ▸ a0))).trans (p3 g a).2.1
 ·intro g0 e
  cases e
  exact⟨n0+1,by omega,by rw[b7];exact c2⟩
 ·refine⟨(S.os.trans Z.os).trans h6.os,(S.tape.trans Z.tape).trans h6.tape,(S.output.trans Z.output).trans h6.output,by omega,fun b f hu=>o b f (fun e=>hu (Or.inr (Or.inr (Or.inl (by rw[e]))))),fun b f=>?_⟩
  rcases f with q|q|q|q
  ·rcases a6 b q with y|y
   ·exact Or.inl (Or.inl y)
   ·exact Or.inr y.1
  ·exact Or.inl (Or.inr (Or.inl q))
  ·exact Or.inl (Or.inr (Or.inr (Or.inl q)))
  ·exact Or.inl (Or.inr (Or.inr (Or.inr q)))
theorem swap1_cf (args:Array Value)(w:World):(callFunc 45 args).run Tryz.prog w=.ok (.enter 45 args) w:=by kernel_rfl
theorem swap2_cf (args:Array Value)(w:World):(callFunc 47 args).run Tryz.prog w=.ok (.enter 47 args) w:=by kernel_rfl
theorem swap1_post {w:World}{d x1 x2:Nat}{n a:Bs}{r:Bool}(h:w.cell? ⟨x1,0,none⟩=some (.pointer (some ⟨d,0,none⟩)))(i:w.cell? ⟨x2,0,none⟩=some (.string (bs a)))
  (c:Calls Tryz.prog 46 #[.pointer (some ⟨d,0,none⟩),.string (bs n),.string (bs a)] w fun e w'=>e=.returned (.bool r)/\Below w.heap.size w w') :
  Calls Tryz.prog 45 #[.string (bs n),.pointer (some ⟨x1,0,none⟩),.pointer (some ⟨x2,0,none⟩)] w fun e w'=>e=.returned (.bool r)/\Below w.heap.size w w':=by
 have g:=zh c
 have j:=zg h
 have k:=zg i
 clear c
 go_enter Tryz.func45,Tryz.ntmps45
 go_wp2_with fail
 refine g.out.mono ?_
 rintro e l⟨rfl,b⟩
 have f:=zh b
 clear b
 go_wp2_with fail
 go_ret
 exact⟨rfl,f.out⟩
theorem swap2_post {w:World}{v x1 x2 x3 a:Nat}{n:Bs}{r:Bool}{c d:ByteArray}{s1 s2 s3 s4 x y z A:Option Addr}{q s t u c1 c2 c3 f g h i j k l m o:Nat}{O:Value}(C:w.cell? ⟨x1,0,none⟩=some (.pointer (some ⟨v,0,none⟩)))(D:w.cell? ⟨x2,0,none⟩=some (.pointer (some ⟨a,0,none⟩)))
  (E:w.heap[x3]?=some (.cells #[.string c,.slice s1 q c1,.slice s2 s c2,.slice s3 t c3,.slice s4 u f] 36 (0,0)))(F:w.heap[a]?=some (.cells #[.string d,.slice x g k,.slice y h l,.slice z i m,.slice A j o,O] 107 (0,0)))
  (J:∀W,Below w.heap.size w W->Calls Tryz.prog 48 #[.pointer (some ⟨v,0,none⟩),.string (bs n),.agg #[.string d,.slice x g k,.slice y h l,.slice z i m,.slice A j o],.agg #[.string c,.slice s1 q c1,.slice s2 s c2,.slice s3 t c3,.slice s4 u f]] W fun e w'=>e=.returned (.bool r)/\Below W.heap.size W w') :
  Calls Tryz.prog 47 #[.string (bs n),.pointer (some ⟨x1,0,none⟩),.pointer (some ⟨x2,0,none⟩),.pointer (some ⟨x3,0,none⟩)] w fun e w'=>e=.returned (.bool r)/\Below w.heap.size w w':=by
 have G:Hid (∀V,Below w.heap.size w V->V.cell? ⟨x1,0,none⟩=some (.pointer (some ⟨v,0,none⟩))/\V.cell? ⟨x2,0,none⟩=some (.pointer (some ⟨a,0,none⟩))/\V.cell? ⟨a,0,none⟩=some (.string d)/\V.cell? ⟨a,1,none⟩=some (.slice x g k)/\V.cell? ⟨a,2,none⟩=some (.slice y h l)/\V.cell? ⟨a,3,none⟩=some (.slice z i m)/\V.cell? ⟨a,4,none⟩=some (.slice A j o)/\V.cell? ⟨x3,0,none⟩=some (.string c)/\V.cell? ⟨x3,1,none⟩=some (.slice s1 q c1)/\V.cell? ⟨x3,2,none⟩=some (.slice s2 s c2)/\V.cell? ⟨x3,3,none⟩=some (.slice s3 t c3)/\V.cell? ⟨x3,4,none⟩=some (.slice s4 u f)):=fun V B=>by
  obtain⟨R,S,T,U,X⟩:=ym ((B.block _ (zf E)).trans E)
  have b:=(B.block _ (zf F)).trans F
  exact⟨(B.cell (p:=⟨x1,0,none⟩) (zg C)).trans C,(B.cell (p:=⟨x2,0,none⟩) (zg D)).trans D,(za b).trans rfl,(za b).trans rfl,(za b).trans rfl,(za b).trans rfl,(za b).trans rfl,R,S,T,U,X⟩
 have hd:Below w.heap.size w w.drew:=(Below.refl _ _).drew
 have L:Hid (w.drew.cell? ⟨x1,0,none⟩=some (.pointer (some ⟨v,0,none⟩))/\w.drew.cell? ⟨x2,0,none⟩=some (.pointer (some ⟨a,0,none⟩))/\w.drew.cell? ⟨a,0,none⟩=some (.string d)/\w.drew.cell? ⟨a,1,none⟩=some (.slice x g k)/\w.drew.cell? ⟨a,2,none⟩=some (.slice y h l)/\w.drew.cell? ⟨a,3,none⟩=some (.slice z i m)/\w.drew.cell? ⟨a,4,none⟩=some (.slice A j o)/\w.drew.cell? ⟨x3,0,none⟩=some (.string c)/\w.drew.cell? ⟨x3,1,none⟩=some (.slice s1 q c1)/\w.drew.cell? ⟨x3,2,none⟩=some (.slice s2 s c2)/\w.drew.cell? ⟨x3,3,none⟩=some (.slice s3 t c3)/\w.drew.cell? ⟨x3,4,none⟩=some (.slice s4 u f)):=G.out _ hd
 have N:Hid (Calls Tryz.prog 48 #[.pointer (some ⟨v,0,none⟩),.string (bs n),.agg #[.string d,.slice x g k,.slice y h l,.slice z i m,.slice A j o],.agg #[.string c,.slice s1 q c1,.slice s2 s c2,.slice s3 t c3,.slice s4 u f]] w.drew fun e w'=>e=.returned (.bool r)/\(Below w.heap.size w w')/\(w'.cell? ⟨x1,0,none⟩=some (.pointer (some ⟨v,0,none⟩))/\w'.cell? ⟨x2,0,none⟩=some (.pointer (some ⟨a,0,none⟩))/\w'.cell? ⟨a,0,none⟩=some (.string d)/\w'.cell? ⟨a,1,none⟩=some (.slice x g k)/\w'.cell? ⟨a,2,none⟩=some (.slice y h l)/\w'.cell? ⟨a,3,none⟩=some (.slice z i m)/\w'.cell? ⟨a,4,none⟩=some (.slice A j o)/\w'.cell? ⟨x3,0,none⟩=some (.string c)/\w'.cell? ⟨x3,1,none⟩=some (.slice s1 q c1)/\w'.cell? ⟨x3,2,none⟩=some (.slice s2 s c2)/\w'.cell? ⟨x3,3,none⟩=some (.slice s3 t c3)/\w'.cell? ⟨x3,4,none⟩=some (.slice s4 u f))):=by
  refine(J _ hd).mono ?_
  rintro e w'⟨P,Q⟩
  have b:Below w.heap.size w w':=hd.trans Q
  exact⟨P,b,G.out _ b⟩
 have Y:=zg C
 have Z:=zg D
 have a1:=zf E
 have a2:=zf F
 clear J C D E F hd G
 go_enter Tryz.func47,Tryz.ntmps47
 go_upto_region 1 with fail
 go_region_held3 (fun w'=>w'.cell? ⟨x1,0,none⟩=some (.pointer (some ⟨v,0,none⟩))/\w'.cell? ⟨x2,0,none⟩=some (.pointer (some ⟨a,0,none⟩))/\w'.cell? ⟨a,0,none⟩=some (.string d)/\w'.cell? ⟨a,1,none⟩=some (.slice x g k)/\w'.cell? ⟨a,2,none⟩=some (.slice y h l)/\w'.cell? ⟨a,3,none⟩=some (.slice z i m)/\w'.cell? ⟨a,4,none⟩=some (.slice A j o)/\w'.cell? ⟨x3,0,none⟩=some (.string c)/\w'.cell? ⟨x3,1,none⟩=some (.slice s1 q c1)/\w'.cell? ⟨x3,2,none⟩=some (.slice s2 s c2)/\w'.cell? ⟨x3,3,none⟩=some (.slice s3 t c3)/\w'.cell? ⟨x3,4,none⟩=some (.slice s4 u f)) (with_reducible (first|exact M.out|exact L.out)) (first|(go_at_call 48;refine N.out.mono ?_;rintro e w1 ⟨rfl,H,I⟩;have K:=zh H;have M:=zh I;clear H I))
 go_wp2_with fail
 go_ret
 exact⟨rfl,K.out⟩
end Go.Proofs.YtibncofnnlbmcaaGreatDoor
namespace Go.Proofs.YtibncofnnlbmcaaGreatDoor
open Go.RowKit Go.Maps
open Tp (Bs X S G Pr Pt Rs Rr Own)
theorem check_imp {P:List Pt}{m:Tp.M}(h:Tp.check m (Tp.seenW ofS P)=none){n:Bs}(a:n∈m.imports):(Tp.partOf P n).isSome=true:=by
 have:=((Tp.check_none.1 h).1.1 n a).2
 unfold Tp.seenW at this
 cases b:Tp.partOf P n with
 |none=>rw[b]at this;exact absurd rfl this
 |some q=>rfl
open Classical in
theorem cyc_post {X:Nat->Prop}{W:World}{k x1 x3:Nat}{L:List Lo}{P:List Pt}{z:Value}{E:Option Nat}{m:Tp.M}{f v A t:Option Addr}{g w B u:Nat}(h:WX X W k L P z E)(l:Tp.WI ofS P)(o:Tp.check m (Tp.seenW ofS P)=none)(s:MB W W.heap.size m f v A t g w B u)(b:Tp.WM m)(i:W.cell? ⟨x1,0,none⟩=some (.pointer (some ⟨k,0,none⟩)))(j:W.cell? ⟨x3,0,none⟩=some (.string (bs m.name))) :
  Calls Tryz.prog 44 #[.slice f m.imports.length g,.func (.func 45) #[] #[.pointer (some ⟨x1,0,none⟩),.pointer (some ⟨x3,0,none⟩)]] W fun e w'=>e=.returned (.bool (m.imports.any fun n=>decide (Tp.Leads P n m.name)))/\Below W.heap.size W w':=by
 have F:=b.ic
 refine containsT2 (Row.strs s.im) (by omega) swap1_cf (fun V n y a=>?_)
 refine swap1_post ((a.cell (p:=⟨x1,0,none⟩) (zg i)).trans i) ((a.cell (p:=⟨x3,0,none⟩) (zg j)).trans j) ?_
 refine leads_post l (fun lo r=>by have:=zQ (h.wm r).n;omega) (by have:=zQ b.n;omega) _ ((Tp.ms P).map (·.name)) zn n (fun x _ d=>?_) (check_imp o y) V (h.on a)
 cases c:Tp.partOf P x with
 |none=>rw[c]at d;cases d
 |some q =>
  obtain⟨C,D⟩:=Tp.part_name c
  exact List.mem_map.2 ⟨q.m,List.mem_map.2 ⟨q,C,rfl⟩,D⟩
def othB (P:List Pt) (m old:Tp.M):Bool:=P.any fun q=>(Tp.usedR q.m m.name).any fun n=>Tp.needS (ofS m) n != Tp.needS (ofS old) n
def othP (L:List Lo) (m old:Tp.M) (x:Bs):Bool:=match L.find? fun lo=>lo.m.name==x with
 |some lo=>(Tp.usedR lo.m m.name).any fun n=>Tp.needS (ofS m) n != Tp.needS (ofS old) n
 |none=>false
theorem oth_eq {X:Nat->Prop}{w:World}{f:Nat}{L:List Lo}{P:List Pt}{d:Value}{e:Option Nat}(h:WX X w f L P d e)(m b:Tp.M):(L.map fun lo=>lo.m.name).any (othP L m b)=othB P m b:=by
 have c:othB P m b=(Tp.ms P).any fun x=>(Tp.usedR x m.name).any fun n=>Tp.needS (ofS m) n != Tp.needS (ofS b) n:=by
  unfold othB Tp.ms
  rw[List.any_map]
  rfl
 rw[c,h.mw,List.any_map,List.any_map,Bool.eq_iff_iff,List.any_eq_true,List.any_eq_true]
 constructor
 ·rintro⟨lo,a,q⟩
  refine⟨lo,a,?_⟩
  simp only[Function.comp,othP]at q ⊢
  rw[(Tp.find_key (key:=fun lo:Lo=>lo.m.name) h.nd lo).2 ⟨a,rfl⟩]at q
  exact q
 ·rintro⟨lo,a,q⟩
  refine⟨lo,a,?_⟩
  simp only[Function.comp,othP]at q ⊢
  rw[(Tp.find_key (key:=fun lo:Lo=>lo.m.name) h.nd lo).2 ⟨a,rfl⟩]
  exact q
theorem oth_post {X:Nat->Prop}{W:World}{D x1 x2 x3:Nat}{L:List Lo}{P:List Pt}{g:Option Addr}{j:Nat}{tv:Option Nat}{m:Tp.M}{lo:Lo}{u q B l:Option Addr}{v r C o:Nat}(h:WX X W D L P (.slice g L.length j) tv)(hL:L.length<=10)(N:∀x∈Tp.ms P,Tp.nM x<=9000)(J:MB W W.heap.size m u q B l v r C o)(Y:Tp.WM m)(k:lo∈L)(I:lo.m.name=m.name)(w:W.cell? ⟨x1,0,none⟩=some (.pointer (some ⟨D,0,none⟩)))(y:W.cell? ⟨x2,0,none⟩=some (.pointer (some ⟨lo.lb,0,none⟩)))
  (z:W.heap[x3]?=some (.cells (mcells (bs m.name) (.slice u m.imports.length v) (.slice q m.vars.length r) (.slice B m.procs.length C) (.slice l m.body.length o)) 36 (0,0))) :
  Calls Tryz.prog 44 #[.slice g L.length j,.func (.func 47) #[] #[.pointer (some ⟨x1,0,none⟩),.pointer (some ⟨x2,0,none⟩),.pointer (some ⟨x3,0,none⟩)]] W fun e w'=>e=.returned (.bool (othB P m lo.m))/\Below W.heap.size W w':=by
 obtain⟨tb,a4,Q⟩:=h.ww k
 obtain⟨⟨a5,a2,a7,a0,a6,a3,a8,a1,A,m2⟩,_,_,_,E⟩:=Q.lo lo k
 have O:StrsAt W (L.map fun lo=>lo.m.name) g:=by
  refine⟨fun i T=>?_⟩
  have H:i<L.length:=by simpa using T
  obtain⟨nb,_,_,_,_,_,_,_,_,q1,q2,q3,_⟩:=h.rd i H
  exact⟨nb,0,q1,q2,by rw[Nat.zero_add,q3];simp⟩
 have F:(L.map fun lo=>lo.m.name).length=L.length:=by simp
 have key:=containsT3 (cap:=j) (p:=othP L m lo.m) (c1:=.pointer (some ⟨x1,0,none⟩)) (c2:=.pointer (some ⟨x2,0,none⟩)) (c3:=.pointer (some ⟨x3,0,none⟩)) O (by omega) swap2_cf (fun V n Z a=>?_)
 ·rw[F,oth_eq h]at key
  exact key
 ·obtain⟨c,d,rfl⟩:=List.mem_map.1 Z
  have K:Tp.nM c.m<=9000:=N _ (by rw[h.mw];exact List.mem_map.2 ⟨c,d,rfl⟩)
  have ho:othP L m lo.m c.m.name=(Tp.usedR c.m m.name).any fun n=>Tp.needS (ofS m) n != Tp.needS (ofS lo.m) n:=by
   unfold othP
   rw[(Tp.find_key (key:=fun lo:Lo=>lo.m.name) h.nd c).2 ⟨d,rfl⟩]
  rw[ho]
  have s:=(a.block _ (zf A)).trans A
  have t:=(a.block _ (zf z)).trans z
  unfold lcells at s
  unfold mcells at t
  refine swap2_post ((a.cell (p:=⟨x1,0,none⟩) (zg w)).trans w) ((a.cell (p:=⟨x2,0,none⟩) (zg y)).trans y) t s (fun V' G=>?_)
  have f:=a.trans (G.mono a.size)
  have:=jD (h.on f) d rfl (by have:=zQ (h.wm d).n;omega) K ((m2.mb (fun b _ U=>U)).up f) (J.up f) E.wm Y
  unfold mcells at this
  refine this.mono ?_
  rintro e w'⟨R,S⟩
  exact⟨by rw[R,I],S⟩
theorem Row.blkD {w:World}{D:Nat->Prop}{e size n cap:Nat}{a:Option Addr}{cs:List Value}(h:Row w D e size (.slice a n cap) n cs){x:Addr}(c:a=some x):D x.block/\x.block<w.heap.size:=by
 rcases h with⟨b,_,_⟩|⟨g,cap,cur,b,h2,h3,_⟩
 ·injection b with b _ _
  rw[c]at b
  cases b
 ·injection b with b _ _
  rw[c]at b
  cases b
  exact⟨h2,zf h3⟩
end Go.Proofs.YtibncofnnlbmcaaGreatDoor
