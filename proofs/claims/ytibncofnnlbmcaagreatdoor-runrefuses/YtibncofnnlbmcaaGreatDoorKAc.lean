import Derived.Test.YtibncofnnlbmcaaGreatDoorKAb
import Derived.Test.YtibncofnnlbmcaaGreatDoorKAa
set_option maxRecDepth 100000
set_option maxHeartbeats 4000000
namespace Go.Proofs.YtibncofnnlbmcaaGreatDoor
open Go.RowKit Go.Maps
open Tp (Bs X S G Pr Pt Rs Rr Own)
def putL (L:List Lo) (n:Lo):List Lo:=L.map fun q=>if q.m.name=n.m.name then n else q
theorem jY {L:List Lo}{n:Lo}:(putL L n).map (fun lo=>lo.m.name)=L.map fun lo=>lo.m.name:=by
 unfold putL
 rw[List.map_map]
 apply List.map_congr_left
 intro q _
 simp only [Function.comp]
 split
 ·rename_i e;exact e.symm
 ·rfl
theorem yF {L:List Lo}{n q:Lo}(h:q∈putL L n):q=n\/q∈L/\q.m.name≠n.m.name:=by
 obtain⟨x,hx,e⟩:=List.mem_map.1 h
 by_cases e2:x.m.name=n.m.name
 ·rw[if_pos e2]at e;exact Or.inl e.symm
 ·rw[if_neg e2]at e;subst e;exact Or.inr ⟨hx,e2⟩
theorem putL_in {L:List Lo}{n lo:Lo}(h:lo∈L) (e:lo.m.name=n.m.name):n∈putL L n:=List.mem_map.2 ⟨lo,h,if_pos e⟩
theorem putL_len (L:List Lo) (n:Lo):(putL L n).length=L.length:=by simp[putL]
theorem putL_thr {L:List Lo}{n lo:Lo}(h:lo∈L) (e:lo.m.name=n.m.name):thrL (putL L n)=updV (thrL L) n.m.name (.pointer (some ⟨n.lb,0,none⟩)):=by
 funext k
 unfold thrL updV putL
 by_cases hk:k=n.m.name
 ·rw[if_pos hk]
  have:∀ l:List Lo,lo∈l->(l.map fun q=>if q.m.name=n.m.name then n else q).find? (fun lo=>lo.m.name == k)=some n:=by
   intro l hl
   induction l with
   | nil=>cases hl
   | cons x t ih =>
    rw[List.map_cons]
    by_cases e2:x.m.name=n.m.name
    ·rw[if_pos e2,List.find?_cons_of_pos (by simp[hk])]
    ·rw[if_neg e2,List.find?_cons_of_neg (by simp[hk,e2])]
     rcases List.mem_cons.1 hl with q|q
     ·subst q;exact absurd e e2
     ·exact ih q
  rw[this L h]
  rfl
 ·rw[if_neg hk]
  congr 1
  have:∀ l:List Lo,(l.map fun q=>if q.m.name=n.m.name then n else q).find? (fun lo=>lo.m.name == k)=l.find? fun lo=>lo.m.name == k:=by
   intro l
   induction l with
   | nil=>rfl
   | cons x t ih =>
    rw[List.map_cons]
    by_cases e2:x.m.name=n.m.name
    ·rw[if_pos e2,List.find?_cons_of_neg (by simpa using fun q=>hk q.symm),List.find?_cons_of_neg (by simpa using fun q=>hk (q.symm.trans e2)),ih]
    ·rw[if_neg e2]
     by_cases e3:x.m.name=k
     ·rw[List.find?_cons_of_pos (by simpa using e3),List.find?_cons_of_pos (by simpa using e3)]
     ·rw[List.find?_cons_of_neg (by simpa using e3),List.find?_cons_of_neg (by simpa using e3),ih]
  exact this L
theorem kslF_all {lo:Lo}{sl:Bs->Nat}{m:Tp.M}(hn:(m.vars.map (·.name)).Nodup) {g:G}(hg:g∈m.vars):kslF lo sl m.vars g.name=if keptG lo.m g then lo.sl g.name else sl g.name:=by
 have:m.vars.find? (fun x=>x.name == g.name)=some g:=Tp.varOf_mem hn hg
 unfold kslF
 rw[this]
theorem kZ {old:Tp.M}{g:G}(h:keptG old g=true):∃ h∈old.vars,h.name=g.name/\h.len=g.len:=by
 unfold keptG at h
 obtain⟨x,h1,h2⟩:=List.any_eq_true.1 h
 simp only [Bool.and_eq_true,decide_eq_true_eq]at h2
 exact⟨x,h1,h2⟩
theorem swapV_at {old new:Tp.M}{had:Bs->List Int}(hn:(new.vars.map (·.name)).Nodup) {g:G}(hg:g∈new.vars):Tp.swapV old new had g.name=if keptG old g then had g.name else List.replicate (vlen g) 0:=by
 have hf:new.vars.find? (fun x=>x.name == g.name)=some g:=Tp.varOf_mem hn hg
 unfold Tp.swapV
 rw[hf]
 simp only
 rw[xu hn hg]
 have:(old.vars.any fun h=>h.name == g.name && h.len == g.len)=keptG old g:=by
  unfold keptG
  congr 1
  funext h
  by_cases e1:h.name=g.name <;> by_cases e2:h.len=g.len <;> simp[e1,e2]
 rw[this]
theorem ww_swap {X:Nat->Prop}{D:Nat->Prop}{c n0:Nat}{w w6 w7 w8:World}{wb:Nat}{L:List Lo}{P:List Pt}{nv:Value}{tb:Nat}{m:Tp.M}{p:Pt}{lo:Lo}{ia ga pa ba:Option Addr}{ic gc pc bc lb vb:Nat}{sl:Bs->Nat}(hm:Tp.WM m) (h:WW X w wb L P nv tb) (hX:∀ b,X b->b<w.heap.size) (hWI2:Tp.WI ofS (Tp.putM P m)) (hlo:lo∈L) (hlm:lo.m.name=m.name) (hp:Tp.partOf P m.name=some p) (hmd:MD w D m ia ga pa ba ic gc pc bc) (hD:∀ b,D b->b<w.heap.size->¬X b/\¬Mut L wb (some tb) nv b)
  (h6:Below w.heap.size w w6) (hlb:w.heap.size<=lb) (hvb:w.heap.size<=vb) (hne:lb≠vb) (hbl:w6.heap[lb]?=some (.cells (lcells m ia ga pa ba ic gc pc bc vb) 107 (0,0))) (hla:Laid w6 w.heap.size vb m.vars m.vars.length sl) (hsl:∀ g∈m.vars,sl g.name≠lb/\sl g.name≠vb)
  (h7:Ext vb w6 w7) (hm7:∃ n,MapV w7 vb n (keepF lo m sl m.vars.length)) (hc:c<=90) (h8:Ext tb w7 w8) (hn0:n0<=c) (hm8:MapV w8 tb (n0+1) (updV (thrL L) m.name (.pointer (some ⟨lb,0,none⟩)))) :
  WW X w8 wb (putL L ⟨m,lb,vb,kslF lo sl m.vars⟩) (Tp.putM P m) nv tb/\MapC w8 (some tb) (putL L ⟨m,lb,vb,kslF lo sl m.vars⟩) (c+1)/\Tr (Mut L wb (some tb) nv) (Mut (putL L ⟨m,lb,vb,kslF lo sl m.vars⟩) wb (some tb) nv) w w8:=by
 obtain⟨nl,hnl⟩:∃ nl:Lo,nl=⟨m,lb,vb,kslF lo sl m.vars⟩:=⟨_,rfl⟩
 have hnm:nl.m=m:=by rw[hnl]
 have hwx:WX X w wb L P nv (some tb):=h
 rw[<-hnl]
 have hlm':lo.m.name=nl.m.name:=by rw[hnm];exact hlm
 have hmw:=h.mw
 have hmw2:Tp.ms (Tp.putM P m)=(putL L nl).map fun lo=>lo.m:=by
  unfold Tp.ms at hmw
  have e1:Tp.ms (Tp.putM P m)=(P.map (·.m)).map fun x=>if x.name=m.name then m else x:=by
   unfold Tp.ms Tp.putM
   simp only [List.map_map]
   apply List.map_congr_left
   intro q _
   simp only [Function.comp]
   split <;> rfl
  rw[e1,hmw]
  unfold putL
  simp only [List.map_map]
  apply List.map_congr_left
  intro q _
  simp only [Function.comp]
  rw[hnm]
  split
  ·exact hnm.symm
  ·rfl
 have hwmAll:∀ x∈putL L nl,Tp.WM x.m:=fun x hx=>by
  rcases yF hx with rfl|⟨q,_⟩
  ·rw[hnm];exact hm
  ·exact(h.lo x q).2.2.2.2.wm
 have hfitAll:∀ x∈putL L nl,Tp.FitM ((putL L nl).map fun lo=>lo.m) x.m:=fun x hx=>by
  rw[<-hmw2]
  exact hWI2.fit jx (by rw[hmw2];exact List.mem_map.2 ⟨x,hx,rfl⟩) (hwmAll x hx)
 have hnin:nl∈putL L nl:=putL_in hlo hlm'
 have hvn:(m.vars.map (·.name)).Nodup:=by have:=(hfitAll nl hnin).vn;rw[hnm]at this;exact this
 have hlfit:=(h.lo lo hlo).2.2.2.2
 have hs6:=h6.size
 have hs7:=h7.size
 have hs8:=h8.size
 have htk:m.vars.take m.vars.length=m.vars:=List.take_length
 have hat:=hla.at'
 have hinj:=hla.inj
 have hmp:=hla.map
 rw[htk]at hat hinj hmp
 have hsvlt:∀ g∈m.vars,sl g.name<w6.heap.size:=fun g hg=>zf (hat g hg).2
 have hmut:=fun {b:Nat} (q:Mut L wb (some tb) nv b)=>hwx.mlt q
 have hwl:wb<w.heap.size:=zf h.blk
 have hksl:∀ g∈m.vars,nl.sl g.name=if keptG lo.m g then lo.sl g.name else sl g.name:=fun g hg=>by rw[hnl];exact kslF_all hvn hg
 have hkV:∀ g∈m.vars,keptG lo.m g=true->VLo L (lo.sl g.name):=fun g _ hk=>by
  obtain⟨x,h1,h2,_⟩:=kZ hk
  exact⟨lo,hlo,x,h1,by rw[h2]⟩
 have hVn:∀ b,VLo (putL L nl) b->VLo L b\/w.heap.size<=b/\b<w6.heap.size/\b≠lb/\b≠vb:=by
  rintro b ⟨x,hx,g,hg,rfl⟩
  rcases yF hx with rfl|⟨q,_⟩
  ·rw[hnm]at hg
   rw[hksl g hg]
   by_cases hk:keptG lo.m g=true
   ·rw[if_pos hk];exact Or.inl (hkV g hg hk)
   ·rw[if_neg hk];exact Or.inr ⟨(hat g hg).1,hsvlt g hg,(hsl g hg).1,(hsl g hg).2⟩
  ·exact Or.inl ⟨x,q,g,hg,rfl⟩
 have hnX:∀ b,w.heap.size<=b->¬X b:=fun b hb q=>by have:=hX b q;omega
 have hnm6:∀ b,w.heap.size<=b->¬Mut L wb (some tb) nv b:=fun b hb q=>by have:=(hmut q).1;omega
 have htbl:tb<w.heap.size:=(hmut (Or.inr (Or.inr (Or.inl rfl)))).1
 have hk:∀ b,b<w.heap.size->b≠tb->w8.heap[b]?=w.heap[b]?:=fun b hb hne=>((h8.block b (by omega) hne).trans (h7.block b (by omega) (by omega))).trans (h6.block b hb)
 have hk6:∀ b,w.heap.size<=b->b<w6.heap.size->b≠vb->w8.heap[b]?=w6.heap[b]?:=fun b h1 h2 h3=>(h8.block b (by omega) (by omega)).trans (h7.block b h2 h3)
 have hlbl:=zf hbl
 have hvbl:=hmp.lt
 have hold:∀ b,b<w.heap.size->¬X b->¬Mut L wb (some tb) nv b->StB X (putL L nl) wb tb nv b:=fun b hb hx hu=>by
  refine⟨hx,fun q=>?_,fun e=>hu (Or.inr (Or.inl e)),fun e=>hu (Or.inr (Or.inr (Or.inl (by rw[e])))),fun e=>hu (Or.inr (Or.inr (Or.inr e)))⟩
  rcases hVn b q with q|q
  ·exact hu (Or.inl q)
  ·omega
 have hst:∀ b,w.heap.size<=b->b<w6.heap.size->(∀ g∈m.vars,sl g.name≠b)->StB X (putL L nl) wb tb nv b:=fun b h1 h2 h3=>by
  refine⟨hnX b h1,?_,by omega,by omega,fun e=>hnm6 b h1 (Or.inr (Or.inr (Or.inr e)))⟩
  rintro⟨x,hx,g,hg,e⟩
  rcases yF hx with rfl|⟨q,_⟩
  ·rw[hnm]at hg
   rw[hksl g hg]at e
   by_cases hk:keptG lo.m g=true
   ·rw[if_pos hk]at e
    have:=(hmut (Or.inl (hkV g hg hk))).1
    omega
   ·rw[if_neg hk]at e
    exact h3 g hg e.symm
  ·have:=(hmut (Or.inl ⟨x,q,g,hg,e⟩)).1
   omega
 have hstM:∀ {b:Nat},StB X L wb tb nv b->¬X b/\¬Mut L wb (some tb) nv b:=fun hs=>⟨hs.1,fun q=>by
  rcases q with q|q|q|q
  ·exact hs.2.1 q
  ·exact hs.2.2.1 q
  ·cases q;exact hs.2.2.2.1 rfl
  ·exact hs.2.2.2.2 q⟩
 have hnV:∀ b,b<w.heap.size->¬VLo L b->¬VLo (putL L nl) b:=fun b hb hv q=>by
  rcases hVn b q with z|z
  ·exact hv z
  ·omega
 have hthr:thrL (putL L nl)=updV (thrL L) m.name (.pointer (some ⟨lb,0,none⟩)):=by
  have:=putL_thr hlo hlm'
  rw[hnm,hnl]at this
  rw[hnl]
  exact this
 refine⟨⟨(hk _ hwl (fun e=>h.tx.2.1 e.symm)).trans h.blk,⟨h.xw.1,hnV wb hwl h.xw.2⟩,?_,fun b hb=>⟨(h.nx b hb).1,(h.nx b hb).2.1,(h.nx b hb).2.2.1,hnV b (h.nm.lt b hb).2 (h.nx b hb).2.2.2⟩,⟨h.tx.1,h.tx.2.1,hnV tb htbl h.tx.2.2⟩,⟨n0+1,by omega,by rw[hthr];exact hm8⟩,fun x hx=>?_,fun b hb=>?_,?_,?_,fun x hx=>?_,hmw2⟩,?_,?_⟩
 ·rw[jY,putL_len]
  exact zH h.nm (fun b _ hl ho=>hk b hl (h.nx b ho).2.2.1)
 ·rcases yF hx with rfl|⟨q,hqn⟩
  ·refine⟨⟨ia,ga,pa,ba,ic,gc,pc,bc,?_,?_⟩,?_,?_,?_,hfitAll _ hx⟩
   ·have:=(hk6 lb hlb hlbl hne).trans hbl
    rw[hnl]
    exact this
   ·rw[hnm]
    exact hmd.mono (fun b hb hl=>⟨hk b hl (fun e=>(hD b hb hl).2 (Or.inr (Or.inr (Or.inl (by rw[e]))))),hold b hl (hD b hb hl).1 (hD b hb hl).2⟩)
   ·have:=hst lb hlb hlbl (fun g hg=>(hsl g hg).1)
    rw[hnl]at this ⊢
    exact this
   ·have:=hst vb hvb hvbl (fun g hg=>(hsl g hg).2)
    rw[hnl]at this ⊢
    exact this
   ·obtain⟨n,hmv⟩:=hm7
    have hl7:=hmv.lt
    refine⟨n,?_⟩
    have:=hmv.on (h8.block vb hl7 (by omega))
    have e:loV (⟨m,lb,vb,kslF lo sl m.vars⟩:Lo)=keepF lo m sl m.vars.length:=by
     funext k
     unfold loV keepF
     rw[htk]
    rw[hnl,e]
    exact this
  ·obtain⟨⟨ia',ga',pa',ba',ic',gc',pc',bc',h1,h2⟩,h3,h4,⟨n,h5⟩,h9⟩:=h.lo x q
   have hkk:∀ b,StB X L wb tb nv b->b<w.heap.size->w8.heap[b]?=w.heap[b]?/\StB X (putL L nl) wb tb nv b:=fun b hs hl=>⟨hk b hl hs.2.2.2.1,hold b hl (hstM hs).1 (hstM hs).2⟩
   exact⟨⟨ia',ga',pa',ba',ic',gc',pc',bc',(hkk _ h3 (zf h1)).1.trans h1,h2.mono hkk⟩,(hkk _ h3 (zf h1)).2,(hkk _ h4 h5.lt).2,⟨n,h5.on (hkk _ h4 h5.lt).1⟩,hfitAll x hx⟩
 ·rcases hVn b hb with q|q
  ·exact⟨by have:=(hmut (Or.inl q)).1;omega,(hmut (Or.inl q)).2⟩
  ·exact⟨by omega,hnX b q.1⟩
 ·rw[jY];exact h.nd
 ·intro x hx x' hx' g hg g' hg' e
  rcases yF hx with rfl|⟨q,hqn⟩ <;> rcases yF hx' with rfl|⟨q',hqn'⟩
  ·refine⟨rfl,?_⟩
   rw[hnm]at hg hg'
   rw[hksl g hg,hksl g' hg']at e
   by_cases hk1:keptG lo.m g=true <;> by_cases hk2:keptG lo.m g'=true
   ·rw[if_pos hk1,if_pos hk2]at e
    obtain⟨y,y1,y2,_⟩:=kZ hk1
    obtain⟨z,z1,z2,_⟩:=kZ hk2
    rw[<-y2,<-z2]at e ⊢
    exact(h.inj lo hlo lo hlo y y1 z z1 e).2
   ·rw[if_pos hk1,if_neg hk2]at e
    have:=(hmut (Or.inl (hkV g hg hk1))).1
    have:=(hat g' hg').1
    omega
   ·rw[if_neg hk1,if_pos hk2]at e
    have:=(hmut (Or.inl (hkV g' hg' hk2))).1
    have:=(hat g hg).1
    omega
   ·rw[if_neg hk1,if_neg hk2]at e
    exact hinj g hg g' hg' e
  ·exfalso
   rw[hnm]at hg
   rw[hksl g hg]at e
   by_cases hk1:keptG lo.m g=true
   ·rw[if_pos hk1]at e
    obtain⟨y,y1,y2,_⟩:=kZ hk1
    rw[<-y2]at e
    have:=(h.inj lo hlo x' q' y y1 g' hg' e).1
    exact hqn' (this.symm.trans hlm')
   ·rw[if_neg hk1]at e
    have:=(hmut (Or.inl ⟨x',q',g',hg',rfl⟩)).1
    have:=(hat g hg).1
    omega
  ·exfalso
   rw[hnm]at hg'
   rw[hksl g' hg']at e
   by_cases hk1:keptG lo.m g'=true
   ·rw[if_pos hk1]at e
    obtain⟨y,y1,y2,_⟩:=kZ hk1
    rw[<-y2]at e
    have:=(h.inj x q lo hlo g hg y y1 e).1
    exact hqn (this.trans hlm')
   ·rw[if_neg hk1]at e
    have:=(hmut (Or.inl ⟨x,q,g,hg,rfl⟩)).1
    have:=(hat g' hg').1
    omega
  ·exact h.inj x q x' q' g hg g' hg' e
 ·rcases yF hx with rfl|⟨q,hqn⟩
  ·obtain⟨p0,p1,p2,p3⟩:=h.vals lo hlo
   rw[hlm]at p1
   have hpp:p0=p:=by rw[hp]at p1;exact(Option.some.inj p1).symm
   rw[hpp]at p2 p3
   refine⟨⟨m,Tp.swapV p.m m p.vars⟩,?_,hnm.symm,fun g hg=>?_⟩
   ·rw[hnm];exact Tp.part_put_self hp
   ·rw[hnm]at hg
    simp only
    rw[swapV_at hvn hg,hksl g hg,p2]
    by_cases hk1:keptG lo.m g=true
    ·rw[if_pos hk1,if_pos hk1]
     obtain⟨y,y1,y2,y3⟩:=kZ hk1
     have hv:=p3 y y1
     have hvl:vlen y=vlen g:=by unfold vlen;rw[y3]
     rw[y2,hvl]at hv
     have hin:=hkV g hg hk1
     exact⟨hv.1,(hk _ (hmut (Or.inl hin)).1 (fun e=>h.tx.2.2 (e ▸ hin))).trans hv.2.1,hv.2.2⟩
    ·rw[if_neg hk1,if_neg hk1]
     refine⟨by simp,?_,fun v hv=>?_⟩
     ·exact(hk6 _ (hat g hg).1 (hsvlt g hg) (hsl g hg).2).trans (hat g hg).2
     ·rw[(List.mem_replicate.1 hv).2];decide
  ·obtain⟨p0,p1,p2,p3⟩:=h.vals x q
   rw[hnm]at hqn
   refine⟨p0,(Tp.part_put hqn).trans p1,p2,fun g hg=>⟨(p3 g hg).1,?_,(p3 g hg).2.2⟩⟩
   have hin:VLo L (x.sl g.name):=⟨x,q,g,hg,rfl⟩
   exact(hk _ (hmut (Or.inl hin)).1 (fun e=>h.tx.2.2 (e ▸ hin))).trans (p3 g hg).2.1
 ·intro tb' e
  cases e
  exact⟨n0+1,by omega,by rw[hthr];exact hm8⟩
 ·refine⟨(h8.os.trans h7.os).trans h6.os,(h8.tape.trans h7.tape).trans h6.tape,(h8.output.trans h7.output).trans h6.output,by omega,fun b hb hu=>hk b hb (fun e=>hu (Or.inr (Or.inr (Or.inl (by rw[e]))))),fun b hb=>?_⟩
  rcases hb with q|q|q|q
  ·rcases hVn b q with y|y
   ·exact Or.inl (Or.inl y)
   ·exact Or.inr y.1
  ·exact Or.inl (Or.inr (Or.inl q))
  ·exact Or.inl (Or.inr (Or.inr (Or.inl q)))
  ·exact Or.inl (Or.inr (Or.inr (Or.inr q)))
theorem swap1_cf (args:Array Value) (w:World):(callFunc 45 args).run Tryz.prog w=.ok (.enter 45 args) w:=by kernel_rfl
theorem swap2_cf (args:Array Value) (w:World):(callFunc 47 args).run Tryz.prog w=.ok (.enter 47 args) w:=by kernel_rfl
theorem swap1_post {w:World}{wb x1 x2:Nat}{n dst:Bs}{r:Bool}(k1:w.cell? ⟨x1,0,none⟩=some (.pointer (some ⟨wb,0,none⟩))) (k2:w.cell? ⟨x2,0,none⟩=some (.string (bs dst)))
  (hc:Calls Tryz.prog 46 #[.pointer (some ⟨wb,0,none⟩),.string (bs n),.string (bs dst)] w fun e w'=>e=.returned (.bool r)/\Below w.heap.size w w') :
  Calls Tryz.prog 45 #[.string (bs n),.pointer (some ⟨x1,0,none⟩),.pointer (some ⟨x2,0,none⟩)] w fun e w'=>e=.returned (.bool r)/\Below w.heap.size w w':=by
 have HC:=zh hc
 have hl1:=zg k1
 have hl2:=zg k2
 clear hc
 go_enter Tryz.func45,Tryz.ntmps45
 go_wp2_with fail
 refine HC.out.mono ?_
 rintro e w1 ⟨rfl,hb⟩
 have HB:=zh hb
 clear hb
 go_wp2_with fail
 go_ret
 exact⟨rfl,HB.out⟩
theorem swap2_post {w:World}{wb x1 x2 x3 lb:Nat}{n:Bs}{r:Bool}{a0 b0:ByteArray}{s1 s2 s3 s4 z1 z2 z3 z4:Option Addr}{n1 n2 n3 n4 c1 c2 c3 c4 d1 d2 d3 d4 f1 f2 f3 f4:Nat}{b5:Value}(k1:w.cell? ⟨x1,0,none⟩=some (.pointer (some ⟨wb,0,none⟩))) (k2:w.cell? ⟨x2,0,none⟩=some (.pointer (some ⟨lb,0,none⟩)))
  (k3:w.heap[x3]?=some (.cells #[.string a0,.slice s1 n1 c1,.slice s2 n2 c2,.slice s3 n3 c3,.slice s4 n4 c4] 36 (0,0))) (k4:w.heap[lb]?=some (.cells #[.string b0,.slice z1 d1 f1,.slice z2 d2 f2,.slice z3 d3 f3,.slice z4 d4 f4,b5] 107 (0,0)))
  (hc:∀ W,Below w.heap.size w W->Calls Tryz.prog 48 #[.pointer (some ⟨wb,0,none⟩),.string (bs n),.agg #[.string b0,.slice z1 d1 f1,.slice z2 d2 f2,.slice z3 d3 f3,.slice z4 d4 f4],.agg #[.string a0,.slice s1 n1 c1,.slice s2 n2 c2,.slice s3 n3 c3,.slice s4 n4 c4]] W fun e w'=>e=.returned (.bool r)/\Below W.heap.size W w') :
  Calls Tryz.prog 47 #[.string (bs n),.pointer (some ⟨x1,0,none⟩),.pointer (some ⟨x2,0,none⟩),.pointer (some ⟨x3,0,none⟩)] w fun e w'=>e=.returned (.bool r)/\Below w.heap.size w w':=by
 have HBX:Hid (∀ V,Below w.heap.size w V->V.cell? ⟨x1,0,none⟩=some (.pointer (some ⟨wb,0,none⟩))/\V.cell? ⟨x2,0,none⟩=some (.pointer (some ⟨lb,0,none⟩))/\V.cell? ⟨lb,0,none⟩=some (.string b0)/\V.cell? ⟨lb,1,none⟩=some (.slice z1 d1 f1)/\V.cell? ⟨lb,2,none⟩=some (.slice z2 d2 f2)/\V.cell? ⟨lb,3,none⟩=some (.slice z3 d3 f3)/\V.cell? ⟨lb,4,none⟩=some (.slice z4 d4 f4)/\V.cell? ⟨x3,0,none⟩=some (.string a0)/\V.cell? ⟨x3,1,none⟩=some (.slice s1 n1 c1)/\V.cell? ⟨x3,2,none⟩=some (.slice s2 n2 c2)/\V.cell? ⟨x3,3,none⟩=some (.slice s3 n3 c3)/\V.cell? ⟨x3,4,none⟩=some (.slice s4 n4 c4)):=fun V hV=>by
  obtain⟨p0,p1,p2,p3,p4⟩:=ym ((hV.block _ (zf k3)).trans k3)
  have hb:=(hV.block _ (zf k4)).trans k4
  exact⟨(hV.cell (p:=⟨x1,0,none⟩) (zg k1)).trans k1,(hV.cell (p:=⟨x2,0,none⟩) (zg k2)).trans k2,(za hb).trans rfl,(za hb).trans rfl,(za hb).trans rfl,(za hb).trans rfl,(za hb).trans rfl,p0,p1,p2,p3,p4⟩
 have hd:Below w.heap.size w w.drew:=(Below.refl _ _).drew
 have HT0:Hid (w.drew.cell? ⟨x1,0,none⟩=some (.pointer (some ⟨wb,0,none⟩))/\w.drew.cell? ⟨x2,0,none⟩=some (.pointer (some ⟨lb,0,none⟩))/\w.drew.cell? ⟨lb,0,none⟩=some (.string b0)/\w.drew.cell? ⟨lb,1,none⟩=some (.slice z1 d1 f1)/\w.drew.cell? ⟨lb,2,none⟩=some (.slice z2 d2 f2)/\w.drew.cell? ⟨lb,3,none⟩=some (.slice z3 d3 f3)/\w.drew.cell? ⟨lb,4,none⟩=some (.slice z4 d4 f4)/\w.drew.cell? ⟨x3,0,none⟩=some (.string a0)/\w.drew.cell? ⟨x3,1,none⟩=some (.slice s1 n1 c1)/\w.drew.cell? ⟨x3,2,none⟩=some (.slice s2 n2 c2)/\w.drew.cell? ⟨x3,3,none⟩=some (.slice s3 n3 c3)/\w.drew.cell? ⟨x3,4,none⟩=some (.slice s4 n4 c4)):=HBX.out _ hd
 have HC:Hid (Calls Tryz.prog 48 #[.pointer (some ⟨wb,0,none⟩),.string (bs n),.agg #[.string b0,.slice z1 d1 f1,.slice z2 d2 f2,.slice z3 d3 f3,.slice z4 d4 f4],.agg #[.string a0,.slice s1 n1 c1,.slice s2 n2 c2,.slice s3 n3 c3,.slice s4 n4 c4]] w.drew fun e w'=>e=.returned (.bool r)/\(Below w.heap.size w w')/\(w'.cell? ⟨x1,0,none⟩=some (.pointer (some ⟨wb,0,none⟩))/\w'.cell? ⟨x2,0,none⟩=some (.pointer (some ⟨lb,0,none⟩))/\w'.cell? ⟨lb,0,none⟩=some (.string b0)/\w'.cell? ⟨lb,1,none⟩=some (.slice z1 d1 f1)/\w'.cell? ⟨lb,2,none⟩=some (.slice z2 d2 f2)/\w'.cell? ⟨lb,3,none⟩=some (.slice z3 d3 f3)/\w'.cell? ⟨lb,4,none⟩=some (.slice z4 d4 f4)/\w'.cell? ⟨x3,0,none⟩=some (.string a0)/\w'.cell? ⟨x3,1,none⟩=some (.slice s1 n1 c1)/\w'.cell? ⟨x3,2,none⟩=some (.slice s2 n2 c2)/\w'.cell? ⟨x3,3,none⟩=some (.slice s3 n3 c3)/\w'.cell? ⟨x3,4,none⟩=some (.slice s4 n4 c4))):=by
  refine(hc _ hd).mono ?_
  rintro e w' ⟨h1,h2⟩
  have hb:Below w.heap.size w w':=hd.trans h2
  exact⟨h1,hb,HBX.out _ hb⟩
 have hl1:=zg k1
 have hl2:=zg k2
 have hl3:=zf k3
 have hl4:=zf k4
 clear hc k1 k2 k3 k4 hd HBX
 go_enter Tryz.func47,Tryz.ntmps47
 go_upto_region 1 with fail
 go_region_held3 (fun w'=>w'.cell? ⟨x1,0,none⟩=some (.pointer (some ⟨wb,0,none⟩))/\w'.cell? ⟨x2,0,none⟩=some (.pointer (some ⟨lb,0,none⟩))/\w'.cell? ⟨lb,0,none⟩=some (.string b0)/\w'.cell? ⟨lb,1,none⟩=some (.slice z1 d1 f1)/\w'.cell? ⟨lb,2,none⟩=some (.slice z2 d2 f2)/\w'.cell? ⟨lb,3,none⟩=some (.slice z3 d3 f3)/\w'.cell? ⟨lb,4,none⟩=some (.slice z4 d4 f4)/\w'.cell? ⟨x3,0,none⟩=some (.string a0)/\w'.cell? ⟨x3,1,none⟩=some (.slice s1 n1 c1)/\w'.cell? ⟨x3,2,none⟩=some (.slice s2 n2 c2)/\w'.cell? ⟨x3,3,none⟩=some (.slice s3 n3 c3)/\w'.cell? ⟨x3,4,none⟩=some (.slice s4 n4 c4)) (with_reducible (first|exact HT1.out|exact HT0.out)) (first|(go_at_call 48;refine HC.out.mono ?_;rintro e w1 ⟨rfl,hb1,ht1⟩;have HB1:=zh hb1;have HT1:=zh ht1;clear hb1 ht1))
 go_wp2_with fail
 go_ret
 exact⟨rfl,HB1.out⟩
end Go.Proofs.YtibncofnnlbmcaaGreatDoor
namespace Go.Proofs.YtibncofnnlbmcaaGreatDoor
open Go.RowKit Go.Maps
open Tp (Bs X S G Pr Pt Rs Rr Own)
theorem check_imp {P:List Pt}{m:Tp.M}(h:Tp.check m (Tp.seenW ofS P)=none) {n:Bs}(hn:n∈m.imports):(Tp.partOf P n).isSome=true:=by
 have:=((Tp.check_none.1 h).1.1 n hn).2
 unfold Tp.seenW at this
 cases hq:Tp.partOf P n with
 | none=>rw[hq]at this;exact absurd rfl this
 | some q=>rfl
open Classical in
theorem cyc_post {X:Nat->Prop}{W:World}{wb x1 x3:Nat}{L:List Lo}{P:List Pt}{nv:Value}{tv:Option Nat}{m:Tp.M}{ia ga pa ba:Option Addr}{ic gc pc bc:Nat}(h:WX X W wb L P nv tv) (hWI:Tp.WI ofS P) (hck:Tp.check m (Tp.seenW ofS P)=none) (hmb:MB W W.heap.size m ia ga pa ba ic gc pc bc) (hm:Tp.WM m) (k1:W.cell? ⟨x1,0,none⟩=some (.pointer (some ⟨wb,0,none⟩))) (k3:W.cell? ⟨x3,0,none⟩=some (.string (bs m.name))) :
  Calls Tryz.prog 44 #[.slice ia m.imports.length ic,.func (.func 45) #[] #[.pointer (some ⟨x1,0,none⟩),.pointer (some ⟨x3,0,none⟩)]] W fun e w'=>e=.returned (.bool (m.imports.any fun n=>decide (Tp.Leads P n m.name)))/\Below W.heap.size W w':=by
 have hsz:=hm.ic
 refine containsT2 (Row.strs hmb.im) (by omega) swap1_cf (fun V n hn hV=>?_)
 refine swap1_post ((hV.cell (p:=⟨x1,0,none⟩) (zg k1)).trans k1) ((hV.cell (p:=⟨x3,0,none⟩) (zg k3)).trans k3) ?_
 refine leads_post hWI (fun lo hlo=>by have:=zQ (h.wm hlo).n;omega) (by have:=zQ hm.n;omega) _ ((Tp.ms P).map (·.name)) zn n (fun x _ hx=>?_) (check_imp hck hn) V (h.on hV)
 cases hq:Tp.partOf P x with
 | none=>rw[hq]at hx;cases hx
 | some q =>
  obtain⟨q1,q2⟩:=Tp.part_name hq
  exact List.mem_map.2 ⟨q.m,List.mem_map.2 ⟨q,q1,rfl⟩,q2⟩
def othB (P:List Pt) (m old:Tp.M):Bool:=P.any fun q=>(Tp.usedR q.m m.name).any fun n=>Tp.needS (ofS m) n != Tp.needS (ofS old) n
def othP (L:List Lo) (m old:Tp.M) (x:Bs):Bool:=match L.find? fun lo=>lo.m.name == x with
 | some lo=>(Tp.usedR lo.m m.name).any fun n=>Tp.needS (ofS m) n != Tp.needS (ofS old) n
 | none=>false
theorem oth_eq {X:Nat->Prop}{w:World}{wb:Nat}{L:List Lo}{P:List Pt}{nv:Value}{tv:Option Nat}(h:WX X w wb L P nv tv) (m old:Tp.M):(L.map fun lo=>lo.m.name).any (othP L m old)=othB P m old:=by
 have e1:othB P m old=(Tp.ms P).any fun x=>(Tp.usedR x m.name).any fun n=>Tp.needS (ofS m) n != Tp.needS (ofS old) n:=by
  unfold othB Tp.ms
  rw[List.any_map]
  rfl
 rw[e1,h.mw,List.any_map,List.any_map,Bool.eq_iff_iff,List.any_eq_true,List.any_eq_true]
 constructor
 ·rintro⟨lo,hlo,q⟩
  refine⟨lo,hlo,?_⟩
  simp only [Function.comp,othP]at q ⊢
  rw[(Tp.find_key (key:=fun lo:Lo=>lo.m.name) h.nd lo).2 ⟨hlo,rfl⟩]at q
  exact q
 ·rintro⟨lo,hlo,q⟩
  refine⟨lo,hlo,?_⟩
  simp only [Function.comp,othP]at q ⊢
  rw[(Tp.find_key (key:=fun lo:Lo=>lo.m.name) h.nd lo).2 ⟨hlo,rfl⟩]
  exact q
theorem oth_post {X:Nat->Prop}{W:World}{wb x1 x2 x3:Nat}{L:List Lo}{P:List Pt}{na:Option Addr}{nc:Nat}{tv:Option Nat}{m:Tp.M}{lo:Lo}{ia ga pa ba:Option Addr}{ic gc pc bc:Nat}(h:WX X W wb L P (.slice na L.length nc) tv) (hL:L.length<=10) (hnP:∀ x∈Tp.ms P,Tp.nM x<=1000) (hmb:MB W W.heap.size m ia ga pa ba ic gc pc bc) (hm:Tp.WM m) (hlo:lo∈L) (hlm:lo.m.name=m.name) (k1:W.cell? ⟨x1,0,none⟩=some (.pointer (some ⟨wb,0,none⟩))) (k2:W.cell? ⟨x2,0,none⟩=some (.pointer (some ⟨lo.lb,0,none⟩)))
  (k3:W.heap[x3]?=some (.cells (mcells (bs m.name) (.slice ia m.imports.length ic) (.slice ga m.vars.length gc) (.slice pa m.procs.length pc) (.slice ba m.body.length bc)) 36 (0,0))) :
  Calls Tryz.prog 44 #[.slice na L.length nc,.func (.func 47) #[] #[.pointer (some ⟨x1,0,none⟩),.pointer (some ⟨x2,0,none⟩),.pointer (some ⟨x3,0,none⟩)]] W fun e w'=>e=.returned (.bool (othB P m lo.m))/\Below W.heap.size W w':=by
 obtain⟨tb,htv,hww⟩:=h.ww hlo
 obtain⟨⟨ia',ga',pa',ba',ic',gc',pc',bc',m1,m2⟩,_,_,_,hfit⟩:=hww.lo lo hlo
 have hst:StrsAt W (L.map fun lo=>lo.m.name) na:=by
  refine⟨fun i hi=>?_⟩
  have hi':i<L.length:=by simpa using hi
  obtain⟨nb,_,_,_,_,_,_,_,_,q1,q2,q3,_⟩:=h.rd i hi'
  exact⟨nb,0,q1,q2,by rw[Nat.zero_add,q3];simp⟩
 have hlen:(L.map fun lo=>lo.m.name).length=L.length:=by simp
 have key:=containsT3 (cap:=nc) (p:=othP L m lo.m) (c1:=.pointer (some ⟨x1,0,none⟩)) (c2:=.pointer (some ⟨x2,0,none⟩)) (c3:=.pointer (some ⟨x3,0,none⟩)) hst (by omega) swap2_cf (fun V n hn hV=>?_)
 ·rw[hlen,oth_eq h]at key
  exact key
 ·obtain⟨lo',hlo',rfl⟩:=List.mem_map.1 hn
  have hnM:Tp.nM lo'.m<=1000:=hnP _ (by rw[h.mw];exact List.mem_map.2 ⟨lo',hlo',rfl⟩)
  have ho:othP L m lo.m lo'.m.name=(Tp.usedR lo'.m m.name).any fun n=>Tp.needS (ofS m) n != Tp.needS (ofS lo.m) n:=by
   unfold othP
   rw[(Tp.find_key (key:=fun lo:Lo=>lo.m.name) h.nd lo').2 ⟨hlo',rfl⟩]
  rw[ho]
  have hb:=(hV.block _ (zf m1)).trans m1
  have hk:=(hV.block _ (zf k3)).trans k3
  unfold lcells at hb
  unfold mcells at hk
  refine swap2_post ((hV.cell (p:=⟨x1,0,none⟩) (zg k1)).trans k1) ((hV.cell (p:=⟨x2,0,none⟩) (zg k2)).trans k2) hk hb (fun V' hV'=>?_)
  have hVV:=hV.trans (hV'.mono hV.size)
  have:=jy (h.on hVV) hlo' rfl (by have:=zQ (h.wm hlo').n;omega) hnM ((m2.mb (fun b _ hl=>hl)).up hVV) (hmb.up hVV) hfit.wm hm
  unfold mcells at this
  refine this.mono ?_
  rintro e w' ⟨h1,h2⟩
  exact⟨by rw[h1,hlm],h2⟩
theorem Row.blkD {w:World}{D:Nat->Prop}{e size n cap:Nat}{a:Option Addr}{cs:List Value}(h:Row w D e size (.slice a n cap) n cs) {x:Addr}(hx:a=some x):D x.block/\x.block<w.heap.size:=by
 rcases h with⟨h1,_,_⟩|⟨g,cap,cur,h1,h2,h3,_⟩
 ·injection h1 with h1 _ _
  rw[hx]at h1
  cases h1
 ·injection h1 with h1 _ _
  rw[hx]at h1
  cases h1
  exact⟨h2,zf h3⟩
end Go.Proofs.YtibncofnnlbmcaaGreatDoor
