import Derived.Test.YtibncofnnlbmcaaGreatDoorKQd
import Derived.Test.YtibncofnnlbmcaaGreatDoorKMd
import Derived.Laws.MakeOwn
set_option maxRecDepth 100000
set_option maxHeartbeats 4000000
namespace Go.Proofs.YtibncofnnlbmcaaGreatDoor
open Go.RowKit Go.Maps
open Tp (Bs X S G Pr Pt Rs Rr Own)
def GoP (c:Cx) (k sb:Nat) (ob:Option Nat) (lo:Lo) (names:List Bs) (w:World) (s:Rs) (r:Rr (Own×Option Int)) (e:Ending) (w':World):Prop:=match r with
 | .ok (own',none) s'=>e=.returned (.tuple #[])/\GS c w' s' k/\Kp c (oY ob) w w'/\s'.left<=s.left/\Sc c w' sb ob lo own' names s'.left
 | .ok (_,some v) s'=>thrE toldT v e/\GS c w' s' k/\Kp c (oY ob) w w'/\s'.left<=s.left/\Tp.I64 v
 | .stop way s'=>thrE endT (way:Int) e/\(∃k',GS c w' s' k')/\Kp c (oY ob) w w'
 | .gas=>True
def GoC (c:Cx) (g:Nat):Prop:=∀(k:Nat) (lo:Lo) (own:Own) (names:List Bs) (l:List S) (v:Value) (w:World) (s:Rs) (sb:Nat) (ob:Option Nat),
 Ss c lo names l v->GS c w s k->Sc c w sb ob lo own names s.left->Tp.goS g k lo.m.name own l s≠.gas ->
 Calls Tryz.prog 88 #[.pointer (some ⟨sb,0,none⟩),v] w (GoP c k sb ob lo names w s (Tp.goS g k lo.m.name own l s))
theorem jO (l:Olds):l.1.dropWhile (fun x=>!x.goexit)=[]:=by
 obtain⟨l,h⟩:=l
 show l.dropWhile _=[]
 induction l with
 |nil=>rfl
 |cons x t ih =>
  rw[List.dropWhile_cons,h x (by simp)]
  exact ih (fun y a=>h y (by simp[a]))
theorem GS.setO {c:Cx}{w:World}{s:Rs}{k b j:Nat}{v:Value}(h:GS c w s k)(ok:CxOk c)(f:c.gb<b)(d:¬OutB c w b):GS c (w.setCell ⟨b,j,none⟩ v) s k :=
 h.on ok (zx _ (by omega)) (fun i _ a=>zx i (by
  rcases a with q|q
  ·omega
  ·exact fun e=>d (e ▸ q)))
theorem body_all {c:Cx}{g:Nat}(ok:CxOk c)(hG:GoC c g):BodyC c g:=by
 intro k lo own names l v w s sb ob R h T K
 have b0:=zm
 obtain⟨cs,a8,a4⟩:=R.rep
 obtain⟨va,vc,rfl⟩:=a4.shape
 have P:=h.lt
 obtain⟨j,y⟩:∃j,j=w.alloc (.cells #[.int .i64 0] 2):=⟨_,rfl⟩
 have F:Below w.heap.size w j:=by rw[y];exact zb _ _
 have Q:j.heap[w.heap.size]?=some (.cells #[.int .i64 0] 2 (0,0)):=by rw[y];exact zo _ _
 have a9:w.heap.size<j.heap.size:=zf Q
 have Z:=h.below ok F
 have M:¬OutB c j w.heap.size:=fun hq=>by
  have:=h.outlt ((yr (F.block _ P) _).1 hq);omega
 have S:=zh (hG k lo own names l _ j s sb ob R Z (T.below ok F P) K)
 have U:ob≠some w.heap.size:=fun e=>by
  have ho:=T.om
  rw[e]at ho
  have:=ho.2.2.2
  obtain⟨n,_,hm⟩:=this
  have:=hm.lt
  omega
 have Y:Hid (∀W,Kp c (oY ob) j W->W.heap[w.heap.size]?=some (.cells #[.int .i64 0] 2 (0,0))/\¬OutB c W w.heap.size):=fun W J=>by
  refine⟨(J.block _ a9 (by omega) (fun q=>by have:=ok.Vlt _ q;omega) M U).trans Q,fun q=>?_⟩
  rcases J.out _ q with z|z
  ·exact M z
  ·omega
 have N:Hid (∀W,Kp c (oY ob) j W->Kp c (oY ob) w W):=fun W J=>(Kp.below F P).trans J
 have X:Hid (∀W i k' u,GS c W i k'->Kp c (oY ob) w W->¬OutB c W w.heap.size->Kp c (oY ob) w (W.setCell ⟨w.heap.size,0,none⟩ u)/\GS c (W.setCell ⟨w.heap.size,0,none⟩ u) i k'):=fun W i k' u a1 C a3=>by
  refine⟨?_,a1.setO ok (by omega) a3⟩
  have e:=(Below.refl 0 W).setCell (p:=⟨w.heap.size,0,none⟩) (Nat.zero_le _) u
  refine⟨e.os.trans C.os,e.tape.trans C.tape,e.output.trans C.output,by simpa using C.size,fun b q1 q2 q3 q4 q5=>(zx b (by omega)).trans (C.block b q1 q2 q3 q4 q5),fun b hb=>C.out b ((yr (zx _ (by omega)) b).1 hb)⟩
 generalize Tp.goS g k lo.m.name own l s=r at *
 clear h T R a8 a4 F Q Z M U hG ok
 generalize l.length=ln at *
 cases r with
 |gas=>exact absurd rfl K
 |stop way i =>
  clear K
  go_enter_defers Tryz.func43,Tryz.ntmps43
  go_upto_region 2 with fail
  rw[<-y]
  clear y
  go_wp2_with fail
  refine S.out.mono ?_
  rintro e w2⟨⟨older,rfl⟩,t,a⟩
  have a5:=zh t
  have a7:=zh a
  clear t a
  go_wp2_with fail
  refine leaves_cons (f:=87) (args:=#[.pointer (some ⟨w.heap.size,0,none⟩)]) (by simp) (by simp[go_sem]) ?_
  refine(blate_end w.heap.size (way:Int) older.1 w2).mono ?_
  rintro e u' B⟨rfl,rfl,rfl⟩
  simp only[Leaves,raised]
  exact⟨⟨⟨_,fun x hx=>by
   rcases List.mem_cons.1 hx with q|q
   ·rw[q]
   ·exact older.2 x q⟩,rfl⟩,a5.out,N.out _ a7.out⟩
 |ok r1 i =>
  obtain⟨V,ro⟩:=r1
  clear K
  cases ro with
  |some u =>
   go_enter_defers Tryz.func43,Tryz.ntmps43
   go_upto_region 2 with fail
   rw[<-y]
   clear y
   go_wp2_with fail
   refine S.out.mono ?_
   rintro e w2⟨⟨older,rfl⟩,t,a,H,a0⟩
   obtain⟨o,D⟩:=Y.out w2 a
   have G:=N.out w2 a
   have d:=X.out w2 i k (.int .i64 u) t G D
   have I:=zh d
   have O:=zh H
   have a6:=zh a0
   have E:=zh o
   clear t a H a0 o D G d
   go_wp2_with fail
   refine leaves_cons (f:=87) (args:=#[.pointer (some ⟨w.heap.size,0,none⟩)]) (by simp) (by simp[go_sem]) ?_
   refine(blate_told w.heap.size u older.1 w2 ((za E.out).trans rfl) (zi E.out)).mono ?_
   rintro e u' B⟨rfl,rfl,A⟩
   have L:B.cell? ⟨w.heap.size,0,none⟩=some (.int .i64 u):=by rw[A];exact(za (zu 0 _ E.out)).trans rfl
   have hd:=jO older
   have d:BodyP c k ob w s (.ok (V,some u) i) (.returned (.int .i64 u)) B:=by rw[A];exact⟨rfl,I.out.2,I.out.1,O.out,a6.out⟩
   clear A
   simp[Leaves,settle,hd,results,Tryz.results43,go_sem,L]
   exact d
  |none =>
   go_enter_defers Tryz.func43,Tryz.ntmps43
   go_upto_region 2 with fail
   rw[<-y]
   clear y
   go_wp2_with fail
   refine S.out.mono ?_
   rintro e w2⟨rfl,t,a,H,_⟩
   obtain⟨o,D⟩:=Y.out w2 a
   have G:=N.out w2 a
   have d:=X.out w2 i k (.int .i64 0) t G D
   have I:=zh d
   have O:=zh H
   have E:=zh o
   have L:w2.cell? ⟨w.heap.size,0,none⟩=some (.int .i64 0):=(za o).trans rfl
   have kz:w2.frozen? ⟨w.heap.size,0,none⟩=false:=zi o
   have b1:w.heap.size<w2.heap.size:=zf o
   clear t a H o D G d
   go_wp2_with fail
   refine leaves_cons (f:=87) (args:=#[.pointer (some ⟨w.heap.size,0,none⟩)]) (by simp) (by simp[go_sem]) ?_
   refine(blate_idle w.heap.size _).mono ?_
   rintro e u' B⟨rfl,rfl,A⟩
   have L:B.cell? ⟨w.heap.size,0,none⟩=some (.int .i64 0):=by rw[A];exact(za (zu 0 _ E.out)).trans rfl
   have d:BodyP c k ob w s (.ok (V,none) i) (.returned (.int .i64 0)) B:=by rw[A];exact⟨rfl,I.out.2,I.out.1,O.out,(by decide:Tp.I64 0)⟩
   clear A
   simp[Leaves,settle,results,Tryz.results43,go_sem,L]
   exact d
theorem madeZ (n:Nat):madeCells (Value.cells (.int .i64 0)) n=(ints (List.replicate n 0)).toArray:=by
 apply Array.ext
 ·simp[madeCells,ints]
 ·intro i a b
  simp[madeCells,ints,Value.cells]
  rw[Nat.mod_one]
  rfl
theorem vA (n:Nat)(f:n<=100000)(w:World):(Instr.makeSlice 29 (.int .i64 (n:Int)) (.int .i64 (n:Int))).run Tryz.prog w=.ok (.slice (some ⟨w.heap.size,0,none⟩) n n) (w.alloc (.cells (ints (List.replicate n 0)).toArray 2)):=by
 obtain⟨e,d,a,b,c⟩:=info_parts Tryz.infoInt64
 have h:=run_make (P:=Tryz.prog) w 29 2 e (.int .i64 0) Tryz.underlying29 d a .i64 .i64 (n:Int) (n:Int) (by omega) (by omega) (by rw[c];omega) (by omega)
 rw[h,b,<-madeZ]
 simp
def preR (vs:List Int) (r:Rr (List Int)):Rr (List Int):=match r with
 | .ok l s=>.ok (vs++l) s
 | .stop way s=>.stop way s
 | .gas=>.gas
theorem preR_nil (r:Rr (List Int)):preR [] r=r:=by cases r<;>rfl
theorem evs_step {g k:Nat}{m:Bs}{own:Own}{y:X}{t:List X}{s:Rs}{vs:List Int}:preR vs (Tp.evs (g+1) k m own (y :: t) s)=match Tp.evX g k m own [y] s with
  | .ok v s'=>preR (vs++[v]) (Tp.evs g k m own t s')
  | .stop way s'=>.stop way s'
  | .gas=>.gas:=by
 rw[Tp.evs]
 unfold Tp.Ru.bind preR
 cases Tp.evX g k m own [y] s with
 |ok v s' =>
  simp only
  cases Tp.evs g k m own t s' with
  |ok l s2=>simp[Tp.Ru.pure]
  |stop way s2=>rfl
  |gas=>rfl
 |stop way s'=>rfl
 |gas=>rfl
def appR (g k:Nat) (M nm:Bs) (r:Rr (List Int)):Rr Int:=match r with
 | .ok vs s'=>(match (Tp.partOf s'.w M).bind fun p=>p.m.procs.find? fun q=>q.name==nm with
  |none=>.ok 0 s'
  |some p=>Tp.callP g k M p vs s')
 | .stop way s'=>.stop way s'
 | .gas=>.gas
theorem evX_app (g k:Nat)(m:Bs)(own:Own)(pos n:Nat)(md nm c:Bs)(b ri a:List X)(s:Rs):Tp.evX (g+1) k m own [⟨6,pos,n,md,nm,c,b,ri,a⟩] s=appR g k (if md=[] then m else md) nm (Tp.evs g k m own a s):=by
 rw[Tp.evX]
 show (Tp.Ru.bind _ _) s=_
 unfold Tp.Ru.bind appR
 cases Tp.evs g k m own a s with
 |gas=>rfl
 |stop way s'=>rfl
 |ok vs s' =>
  simp only[Tp.procOf]
  cases ((Tp.partOf s'.w (if md=[] then m else md)).bind fun p=>p.m.procs.find? fun q=>q.name==nm)<;>rfl
theorem Kp.setNew {c:Cx}{w W:World}{b j:Nat}{u:Value}(h:Kp c nY w W)(n:w.heap.size<=b)(a:b≠c.gb):Kp c nY w (W.setCell ⟨b,j,none⟩ u):=by
 have e:=(Below.refl 0 W).setCell (p:=⟨b,j,none⟩) (Nat.zero_le _) u
 exact⟨e.os.trans h.os,e.tape.trans h.tape,e.output.trans h.output,by simpa using h.size,fun i f g k l m=>(zx i (by omega)).trans (h.block i f g k l m),fun i d=>h.out i ((yr (zx _ (fun e=>a e.symm)) i).1 d)⟩
theorem ints_set {vs:List Int}{n i:Nat}{v:Int}(h:vs.length=i)(b:i<n):(ints (vs++List.replicate (n-i) 0)).toArray.setIfInBounds i (.int .i64 v)=(ints ((vs++[v])++List.replicate (n-(i+1)) 0)).toArray:=by
 apply Array.toList_inj.1
 simp only[Array.toList_setIfInBounds,ints,List.map_append]
 obtain⟨d,hd⟩:∃d,n-i=d+1:=⟨n-i-1,by omega⟩
 have a:n-(i+1)=d:=by omega
 rw[hd,a,List.set_append_right _ _ (by simp;omega)]
 simp[h,List.replicate_succ]
theorem rx_mem {l:List X}:∀{y:X},y∈l->∀r∈Tp.rx [y],r∈Tp.rx l:=by
 induction l with
 |nil=>intro y a;cases a
 |cons x t ih =>
  intro y a r b
  rw[kY]
  rcases List.mem_cons.1 a with e|e
  ·rw[<-e];exact List.mem_append_left _ b
  ·exact List.mem_append_right _ (ih e r b)
theorem apply_all {c:Cx}{g:Nat}(ok:CxOk c)(hE:∀n,n<g->EvC c n)(hC:CallC c g){k:Nat}{lo:Lo}{own:Own}{names:List Bs}{x:Nat}{w:World}{s:Rs}{F pos n:Nat}{ob:Option Nat}{md nm op:Bs}{le ri a:List X}(Q:Ex c lo names [⟨6,pos,n,md,nm,op,le,ri,a⟩] x)(h:GS c w s k)(hs:Sc c w F ob lo own names s.left){K:Rr Int}(a7:K=appR g k (if md=[] then lo.m.name else md) nm (Tp.evs g k lo.m.name own a s))(hn:K≠.gas) :
  Calls Tryz.prog 176 #[.pointer (some ⟨F,0,none⟩),.pointer (some ⟨x,0,none⟩)] w (EvP c k w s K):=by
 have hf:=Q.fit ⟨6,pos,md,nm,a.length⟩ (by rw[Tp.rx];simp)
 obtain⟨m',p,q2,q3,q4⟩:=hf.p6 rfl
 simp only at q2 q3 q4
 obtain⟨t,c3,f0,f3,d0⟩:=atM_of ok hs.mem q2
 rw[<-f0]at q3
 obtain⟨f1,i4⟩:=wx_okr Q.wx (by omega)
 have f4:p∈t.m.procs:=List.mem_of_find?_eq_some q3
 have h9:a.length<=10:=by have:=((ok.lo t c3).fit.wm.p p f4).c;omega
 have hw:=Q.wx
 rw[Tp.WX]at hw
 have f5:Tp.WX a:=by
  rcases hw.1 with q|q|q|q|q|q
  ·exact absurd q.1 (by decide)
  ·exact absurd q.1 (by decide)
  ·exact absurd q.1 (by decide)
  ·exact absurd q.1 (by decide)
  ·exact absurd q.1 (by decide)
  ·exact q.2.2.2.2.2.2
 obtain⟨av,ls,rs,gs,hD,hb,_,_,_,_,rg,d9⟩:=Q.blk
 have e0:=h.lt
 have a6:=RepL.len a gs rg
 obtain⟨ga,gc,rfl,g7⟩:∃ga gc,av=.slice ga a.length gc/\Hid (∀i,∀hi:i<a.length,∃I R,ga=some ⟨I,0,none⟩/\c.D I/\c.w0.cell? ⟨I,i,none⟩=some (.pointer (some ⟨R,0,none⟩))/\Ex c lo names [a[i]] R):=by
  rcases d9 with⟨e1,e2⟩|⟨I,cap,cur,e1,e2,e3,e4,e5,e6,e7⟩
  ·subst e1
   rw[List.length_nil]at a6
   exact⟨none,0,by rw[e2,<-a6],fun i hi=>by omega⟩
  ·refine⟨some ⟨I,0,none⟩,cap,by rw[e1,a6],fun i hi=>?_⟩
   obtain⟨R,y1,y2⟩:=RepL.get a gs rg i hi
   refine⟨I,R,rfl,e2,?_,⟨y2,Tp.wx_mem f5 _ (List.getElem_mem hi),fun r M=>Q.fit r ?_⟩⟩
   ·rw[za e3,<-Array.getElem?_toList,<-y1,<-e7,List.getElem?_take_of_lt (by omega)]
   ·rw[Tp.rx]
    have:=rx_mem (List.getElem_mem hi) r M
    simp[this]
 have b9:=(h.st x hD).trans hb
 have i5:=zf b9
 have k8:w.cell? ⟨x,8,none⟩=some (.slice ga a.length gc):=(za b9).trans rfl
 have i3:=vA a.length (by omega)
 obtain⟨C,a0⟩:∃C,C=w.alloc (.cells (ints (List.replicate a.length 0)).toArray 2):=⟨_,rfl⟩
 have T:Below w.heap.size w C:=by rw[a0];exact zb _ _
 have b3:C.heap[w.heap.size]?=some (.cells (ints ([]++List.replicate (a.length-0) 0)).toArray 2 (0,0)):=by rw[a0];exact zo _ _
 have m5:w.heap.size<C.heap.size:=zf b3
 have d1:¬OutB c C w.heap.size:=fun hq=>by
  have:=h.outlt ((yr (T.block _ e0) _).1 hq);omega
 have c5:Hid (C.heap[w.heap.size]?=some (.cells (ints ([]++List.replicate (a.length-0) 0)).toArray 2 (0,0))/\¬OutB c C w.heap.size):=⟨b3,d1⟩
 have g4:=zh (h.below ok T)
 have g8:=zh (Kp.below (c:=c) (Y:=nY) T e0)
 have i6:C.cell? ⟨x,8,none⟩=some (.slice ga a.length gc):=(T.cell (p:=⟨x,8,none⟩) i5).trans k8
 have m2:x<C.heap.size:=by omega
 have b6:=zh hs
 have G:=zh ok
 have HE:=zh hE
 have g0:=zh hC
 have HX:Hid (∀W s' k',GS c W s' k'->x<W.heap.size/\W.cell? ⟨x,3,none⟩=some (.string (bs md))/\W.cell? ⟨x,4,none⟩=some (.string (bs nm))):=fun W s' k' A=>⟨zf ((A.st x hD).trans hb),(za ((A.st x hD).trans hb)).trans rfl,(za ((A.st x hD).trans hb)).trans rfl⟩
 have d6:Hid (t∈c.L):=c3
 have d7:Hid (Tp.procIn t.m nm=some p):=q3
 have h3:=zh f3
 have h2:=zh d0
 have h4:Hid (p.params.length=a.length):=q4
 obtain⟨full,b2⟩:∃full,full=Tp.evs g k lo.m.name own a s:=⟨_,rfl⟩
 rw[<-b2]at a7
 have c7:=zh a7
 have HN:=zh hn
 have g2:Hid (∃y,y<=g/\full=preR [] (Tp.evs y k lo.m.name own (a.drop 0) s)):=⟨g,Nat.le_refl _,by rw[preR_nil,b2];rfl⟩
 have b7:Hid (full≠.gas):=fun e=>hn (by rw[a7,e];rfl)
 obtain⟨o,b8⟩:∃o,o=a.length:=⟨_,rfl⟩
 rw[<-b8]at i3 k8 i6 a0 c5 h9
 have b5:=zh b8
 have i7:(o:Int)<=10:=by omega
 have f8:Hid (md.length<=1000000):=f1
 clear hf q2 q3 q4 c3 f0 f3 d0 f1 i4 f4 hw f5 hb rg d9 a6 b9 T b3 d1 h ok hE hC hs Q a7 hn b2 b8
 go_enter Tryz.func176,Tryz.ntmps176
 go_upto_region 2 with fail
 rw[<-a0]
 clear a0 k8
 go_wp2_with fail
 go_loopg [19] o (fun kk vi wr=>∃(i:Nat) (f:Rs) (d:List Int),i<=o/\kk=o-i/\vi=.int .i64 (i:Int)/\Hid (GS c wr f k)/\Hid (Kp c nY w wr)/\Hid (f.left<=s.left)/\Hid (d.length=i/\∀v∈d,Tp.I64 v)/\Hid (wr.heap[w.heap.size]?=some (.cells (ints (d++List.replicate (o-i) 0)).toArray 2 (0,0))/\¬OutB c wr w.heap.size)/\Hid (∃y,y<=g/\full=preR d (Tp.evs y k lo.m.name own (a.drop i) f)))
 case atStart=>exact⟨0,s,[],by omega,by omega,rfl,g4,g8,Nat.le_refl _,⟨rfl,fun v hv=>by cases hv⟩,c5,g2⟩
 case round =>
  obtain⟨i,f,d,m3,m4,rfl,H,O,HL,P,N,HF⟩:=hrel
  have m0:=O.out.size
  have c8:w.heap.size<wr.heap.size:=zf N.out.1
  by_cases i2:i<o
  ·have f9:(i:Int)<(o:Int):=by omega
   obtain⟨y,i1,l⟩:=HF.out
   have V:i<a.length:=by have:=b5.out;omega
   obtain⟨I,R,rfl,c1,c2,c0⟩:=g7.out i V
   have kc:=H.out.cell0 c1 c2
   have i8:=zg kc
   rw[List.drop_eq_getElem_cons V]at l
   cases y with
   |zero=>exact absurd (by rw[l,Tp.evs];rfl) b7.out
   |succ g1 =>
    rw[evs_step]at l
    have a9:Tp.evX g1 k lo.m.name own [a[i]] f≠.gas:=fun e=>b7.out (by rw[l,e])
    have a8:=zh (HE.out g1 (by omega) k lo own names [a[i]] R wr f F ob c0 H.out (b6.out.kp O.out G.out.Vlt HL.out) a9)
    cases M:Tp.evX g1 k lo.m.name own [a[i]] f with
    |gas=>exact absurd M a9
    |stop way s2 =>
     rw[M]at l a8
     have HR:Hid (∀e W,EvP c k wr f (.stop way s2) e W->EvP c k w s K e W):=fun e W A=>by
      rw[c7.out,l]
      exact A.up O.out HL.out
     clear l M a9 c2 c0 c1
     go_wp2_with fail
     refine a8.out.mono ?_
     rintro e B⟨⟨older,rfl⟩,J,E⟩
     have g5:=zh J
     have g9:=zh E
     clear J E
     go_wp2_with fail
     exact⟨rfl,HR.out _ _ ⟨⟨older,rfl⟩,g5.out,g9.out⟩⟩
    |ok v s2 =>
     rw[M]at l a8
     have d4:=zh l
     clear l M a9 c2 c0 c1
     go_wp2_with fail
     refine a8.out.mono ?_
     rintro e B⟨rfl,J,E,e9,e8⟩
     have S:B.heap[w.heap.size]?=some (.cells (ints (d++List.replicate (o-i) 0)).toArray 2 (0,0)):=(E.block _ c8 (by omega) (fun q=>by have:=G.out.Vlt _ q;omega) N.out.2 (fun q=>q)).trans N.out.1
     have b4:¬OutB c B w.heap.size:=fun q=>by
      rcases E.out _ q with z|z
      ·exact N.out.2 z
      ·omega
     have c4:=P.out.1
     have d2:∃f6,B.cell? ⟨w.heap.size,i,none⟩=some f6:=by
      rw[za S]
      exact⟨_,Array.getElem?_eq_getElem (by simp[ints];omega)⟩
     obtain⟨f6,d2⟩:=d2
     have kz:B.frozen? ⟨w.heap.size,i,none⟩=false:=zi S
     have m1:w.heap.size<B.heap.size:=zf S
     have g6:=zh (J.setO G.out (b:=w.heap.size) (j:=i) (v:=.int .i64 v) (by omega) b4)
     have h0:=zh ((O.out.trans E).setNew (b:=w.heap.size) (j:=i) (u:=.int .i64 v) zn (by omega))
     have h1:Hid (s2.left<=s.left):=Nat.le_trans e9 HL.out
     have h8:Hid ((d++[v]).length=i+1/\∀u∈d++[v],Tp.I64 u):=⟨by simp[c4],fun u hu=>by
      rcases List.mem_append.1 hu with q|q
      ·exact P.out.2 u q
      ·rw[List.mem_singleton]at q;rw[q];exact e8⟩
     have f7:Hid ((B.setCell ⟨w.heap.size,i,none⟩ (.int .i64 v)).heap[w.heap.size]?=some (.cells (ints ((d++[v])++List.replicate (o-(i+1)) 0)).toArray 2 (0,0))/\¬OutB c (B.setCell ⟨w.heap.size,i,none⟩ (.int .i64 v)) w.heap.size):=⟨by rw[zu i _ S,ints_set c4 i2],fun q=>b4 ((yr (zx _ (by omega)) _).1 q)⟩
     have g3:Hid (∃y,y<=g/\full=preR (d++[v]) (Tp.evs y k lo.m.name own (a.drop (i+1)) s2)):=⟨g1,by omega,d4.out⟩
     clear J E e9 e8 S b4 c4 d4
     go_wp2_with fail
     go_roundg (o-(i+1))
     case measure=>omega
     case rel=>exact⟨i+1,s2,d++[v],by omega,rfl,by go_num,g6,h0,h1,h8,f7,g3⟩
  ·have f9:¬(i:Int)<(o:Int):=by omega
   have i0:i=o:=by omega
   subst i0
   obtain⟨y,i1,l⟩:=HF.out
   rw[List.drop_of_length_le (by have:=b5.out;omega)]at l
   cases y with
   |zero=>exact absurd (by rw[l,Tp.evs];rfl) b7.out
   |succ g1 =>
    have c9:full=.ok d f:=by rw[l,Tp.evs];simp[preR,Tp.Ru.pure]
    obtain⟨p',p1,p2,_⟩:=H.out.vals t d6.out
    have a3:K=Tp.callP g k t.m.name p d f:=by
     rw[c7.out,c9]
     unfold appR
     simp only
     rw[<-h2.out,p1]
     simp only[Option.bind_some]
     rw[p2]
     have e:(t.m.procs.find? fun q=>q.name==nm)=some p:=d7.out
     rw[e]
    have V:IntsAt wr d (some ⟨w.heap.size,0,none⟩):=⟨fun j hj=>by
     refine⟨w.heap.size,0,rfl,c8,?_⟩
     rw[za N.out.1]
     simp[ints,hj]⟩
    have f2:Tp.callP g k t.m.name p d f≠.gas:=fun e=>HN.out (by rw[a3,e])
    obtain⟨m6,j3,j4⟩:=HX.out wr f k H.out
    have Z:=b6.out.kp O.out G.out.Vlt HL.out
    have c6:Hid (∀W:World,W.heap=wr.heap->Calls Tryz.prog 198 #[.pointer (some ⟨F,0,none⟩),.string (bs md)] W fun e w'=>e=.returned (.pointer (some ⟨t.lb,0,none⟩))/\w'=W):=fun W A=>rof H.out G.out Z h3.out f8.out W A
    have a4:Hid (∀W:World,Below wr.heap.size wr W->Calls Tryz.prog 56 #[.pointer (some ⟨c.gb,0,none⟩),.pointer (some ⟨t.lb,0,none⟩),.string (bs nm),.slice (some ⟨w.heap.size,0,none⟩) i i] W (EvP c k W f (Tp.callP g k t.m.name p d f))):=fun W A=>by
     have e:=g0.out k t nm p d W f (some ⟨w.heap.size,0,none⟩) i d6.out d7.out (by rw[P.out.1,h4.out];exact b5.out) P.out.2 (H.out.below G.out A) (V.on A) f2
     rw[P.out.1]at e
     exact e
    have i9:=zf Z.blk
    have h7:Hid (∀W s2,GS c W s2 k->Kp c nY wr.drew W->W.cell? ⟨F,0,none⟩=some (.pointer (some ⟨c.gb,0,none⟩))/\W.cell? ⟨x,3,none⟩=some (.string (bs md))/\W.cell? ⟨x,4,none⟩=some (.string (bs nm))):=fun W s2 a1 a2=>⟨(za ((Z.drew G.out H.out.lt).kp a2 G.out.Vlt (Nat.zero_le _)).blk).trans rfl,(HX.out W s2 k a1).2⟩
    have d8:Hid (wr.drew.cell? ⟨F,0,none⟩=some (.pointer (some ⟨c.gb,0,none⟩))/\wr.drew.cell? ⟨x,3,none⟩=some (.string (bs md))/\wr.drew.cell? ⟨x,4,none⟩=some (.string (bs nm))):=⟨(za Z.blk).trans rfl,j3,j4⟩
    have d3:Hid (Below wr.heap.size wr wr.drew):=(Below.refl _ _).drew
    have a5:=zh a3
    have d5:Hid (∀e W,EvP c k wr.drew f K e W->EvP c k w s K e W):=fun e W A=>A.up (O.out.trans (Kp.drew c nY H.out.lt)) HL.out
    have b0:=HN.out
    rw[a3]at b0
    clear l c9 a3 p1 p2 V f2 Z j3 j4 HF N P b6
    cases U:Tp.callP g k t.m.name p d f with
    |gas=>exact absurd U b0
    |ok v s2 =>
     rw[U]at a4 a5
     clear U b0
     go_wp2_with fail
     go_region_held3 (fun w'=>w'.cell? ⟨F,0,none⟩=some (.pointer (some ⟨c.gb,0,none⟩))/\w'.cell? ⟨x,3,none⟩=some (.string (bs md))/\w'.cell? ⟨x,4,none⟩=some (.string (bs nm))) (with_reducible (first|exact h6.out|exact d8.out)) (first|(go_at_call 198;refine(c6.out wr.drew rfl).mono ?_;rintro e B ⟨rfl,rfl⟩)|(go_at_call 56;refine(a4.out _ d3.out).mono ?_;rintro e w4 ⟨rfl,b1⟩;have h5:=zh b1;have h6:Hid (w4.cell? ⟨F,0,none⟩=some (.pointer (some ⟨c.gb,0,none⟩))/\w4.cell? ⟨x,3,none⟩=some (.string (bs md))/\w4.cell? ⟨x,4,none⟩=some (.string (bs nm))):=h7.out _ _ b1.1 b1.2.1;clear b1))
     go_wp2_with fail
     go_ret
     refine d5.out _ _ ?_
     rw[a5.out]
     exact⟨rfl,h5.out⟩
    |stop way s2 =>
     rw[U]at a4 a5
     clear U b0
     go_wp2_with fail
     go_region_held (fun w'=>w'.cell? ⟨F,0,none⟩=some (.pointer (some ⟨c.gb,0,none⟩))/\w'.cell? ⟨x,3,none⟩=some (.string (bs md))/\w'.cell? ⟨x,4,none⟩=some (.string (bs nm))) (with_reducible (first|exact hF.out.elim|exact d8.out)) (first|(go_at_call 198;refine(c6.out wr.drew rfl).mono ?_;rintro e B ⟨rfl,rfl⟩)|(go_at_call 56;refine jU (.int .i64 0) (a4.out _ d3.out) ?hT ?_;(case hT=>(rintro e B ⟨⟨older,rfl⟩,J,E⟩;refine⟨rfl,d5.out _ _ ?_⟩;rw[a5.out];exact⟨⟨older,rfl⟩,J,E⟩));intro hF))
     exact hF.out.elim
theorem value_app {c:Cx}{g:Nat}(ok:CxOk c)(r:∀n,n<g->EvC c n)(q:CallC c g){k:Nat}{lo:Lo}{own:Own}{names:List Bs}{x:Nat}{w:World}{s:Rs}{z pos n:Nat}{ob:Option Nat}{md nm j:Bs}{i ri b:List X}(f:Ex c lo names [⟨6,pos,n,md,nm,j,i,ri,b⟩] x)(h:GS c w s k)(y:Sc c w z ob lo own names s.left)(a:Tp.evX (g+1) k lo.m.name own [⟨6,pos,n,md,nm,j,i,ri,b⟩] s≠.gas) :
  Calls Tryz.prog 150 #[.pointer (some ⟨z,0,none⟩),.pointer (some ⟨x,0,none⟩)] w (EvP c k w s (Tp.evX (g+1) k lo.m.name own [⟨6,pos,n,md,nm,j,i,ri,b⟩] s)):=by
 rw[evX_app]at a ⊢
 have p:=zh (apply_all ok r q f h y rfl a)
 obtain⟨F,I,rs,G,D,t,_⟩:=f.blk
 have d:=(h.st x D).trans t
 have E:=zf d
 have H:w.cell? ⟨x,0,none⟩=some (.int .i64 6):=(za d).trans rfl
 generalize appR g k (if md=[] then lo.m.name else md) nm (Tp.evs g k lo.m.name own b s)=res at *
 clear t d h y f r q
 cases res with
 |gas=>exact absurd rfl a
 |stop way s' =>
  clear a
  go_enter Tryz.func150,Tryz.ntmps150
  go_wp2_with fail
  refine p.out.mono ?_
  rintro e w2⟨⟨older,rfl⟩,l,o⟩
  have A:=zh l
  have B:=zh o
  clear l o
  go_wp2_with fail
  exact⟨rfl,⟨older,rfl⟩,A.out,B.out⟩
 |ok v s' =>
  clear a
  go_enter Tryz.func150,Tryz.ntmps150
  go_wp2_with fail
  refine p.out.mono ?_
  rintro e w2⟨rfl,u⟩
  have C:=zh u
  clear u
  go_wp2_with fail
  go_ret
  exact⟨rfl,C.out⟩
theorem ev_all {c:Cx}{g:Nat}(ok:CxOk c)(e:∀n,n<g+1->EvC c n)(j:CallC c g):EvC c (g+1):=by
 intro k lo own names l x w s r ob a h d b
 have i:l.length=1:=by have:=RepL.len l _ a.rep;simpa using this.symm
 obtain⟨y,rfl⟩:=Tp.len1 i
 obtain⟨code,pos,n,md,nm,p,o,ri,m⟩:=y
 have f:=a.wx
 rw[Tp.WX]at f
 rcases f.1 with q|q|q|q|q|q
 ·obtain⟨rfl,_⟩:=q;exact value_num a h
 ·obtain⟨rfl,_⟩:=q;exact value_var ok a h d
 ·obtain⟨rfl,_⟩:=q;exact value_item ok (e g (by omega)) a h d b
 ·obtain⟨rfl,_⟩:=q;exact value_un ok (e g (by omega)) a h d b
 ·obtain⟨rfl,_⟩:=q;exact value_bin ok (e g (by omega)) a h d b
 ·obtain⟨rfl,_⟩:=q;exact value_app ok (fun n b=>e n (by omega)) j a h d b
theorem ev_zero (c:Cx):EvC c 0:=by
 intro k lo own names l x w s b ob _ _ _ a
 exact absurd (by rw[Tp.evX];rfl) a
structure StAt (c:Cx) (x:S) (b o:Nat):Prop where
 d:c.D b
 r:∃(tv ev:Value) (ls vs tcs ecs:List Value),c.w0.cell? ⟨b,o,none⟩=some (.int .i64 (x.code:Int))/\c.w0.cell? ⟨b,o+2,none⟩=some (.string (bs x.name))/\c.w0.cell? ⟨b,o+3,none⟩=some (ls.headD (.pointer none))/\c.w0.cell? ⟨b,o+4,none⟩=some (vs.headD (.pointer none))/\c.w0.cell? ⟨b,o+5,none⟩=some tv/\c.w0.cell? ⟨b,o+6,none⟩=some ev /\
  RepL c.w0 c.D x.index ls/\ls.length<=1/\RepL c.w0 c.D x.value vs/\vs.length<=1/\RepS c.w0 c.D x.thn tcs/\OwnS c.w0 c.D tv x.thn.length tcs/\RepS c.w0 c.D x.els ecs/\OwnS c.w0 c.D ev x.els.length ecs
def updO (own:Own) (nm:Bs) (v:Int):Own:=fun q=>if q=nm then some v else own q
theorem Sc.store {c:Cx}{w:World}{s:Rs}{k j ob:Nat}{lo:Lo}{own:Own}{names:List Bs}{left:Nat}(h:GS c w s k)(ok:CxOk c)(a:Sc c w j (some ob) lo own names (left+1))(nm:Bs)(y:nm.length<=1000000)(p:nm∈names)(v:Int)(A:Tp.I64 v) :
  ∃w',(Instr.mapUpdate 96 (.map (some ob)) (.string (bs nm)) (.int .i64 v)).run Tryz.prog w=.ok () w'/\GS c w' s k/\Kp c (oY (some ob)) w w'/\Sc c w' j (some ob) lo (updO own nm v) names left:=by
 obtain⟨C,l,m,n,G,D⟩:=a.om
 obtain⟨w',E,F,d,H⟩:=D.store (t:=96) Tryz.underlying96 (by omega) nm y (.int .i64 v)
 have x:=zf a.blk
 have o:=h.lt
 have g:w'.heap[c.gb]?=w.heap[c.gb]?:=d.block _ o (by omega)
 refine⟨w',E,h.on ok g (fun b f r=>d.block b f (fun e=>?_)),⟨d.os,d.tape,d.output,d.size,fun b f _ _ _ B=>d.block b f (fun e=>B (by rw[e];rfl)),fun b f=>Or.inl ((yr g b).1 f)⟩,⟨a.hi,fun q=>a.no ((yr g _).1 q),(d.block j x (fun e=>l e.symm)).trans a.blk,⟨C,l,fun q=>m ((yr g _).1 q),n+1,by omega,?_⟩,fun q u i=>?_,fun q=>?_,a.mem⟩⟩
 ·rcases r with z|z
  ·omega
  ·exact m (e ▸ z)
 ·have e:updV (fun k=>(own k).map fun v=>.int .i64 v) nm (.int .i64 v)=fun k=>(updO own nm v k).map fun v=>.int .i64 v:=by
   funext q
   unfold updV updO
   by_cases e:q=nm
   ·rw[if_pos e,if_pos e];rfl
   ·rw[if_neg e,if_neg e]
  rw[<-e]
  exact F
 ·unfold updO at i
  split at i
  ·cases i;exact A
  ·exact a.i64 q u i
 ·unfold updO
  by_cases e:q=nm
  ·rw[if_pos e];simp[e,p]
  ·rw[if_neg e];exact a.dom q
def CellS (c:Cx) (b o:Nat) (nm:Bs) (iv:Value) (z:Nat):Prop:=∀W s' k',GS c W s' k'->b<W.heap.size/\W.cell? ⟨b,o+2,none⟩=some (.string (bs nm))/\W.cell? ⟨b,o+3,none⟩=some iv/\W.cell? ⟨b,o+4,none⟩=some (.pointer (some ⟨z,0,none⟩))
theorem set_own {c:Cx}(ok:CxOk c){k:Nat}{lo:Lo}{own:Own}{names:List Bs}{w:World}{s:Rs}{d b o z ob:Nat}{nm:Bs}{rr:Rs->Rr Int}(h:GS c w s k)(S:Sc c w d (some ob) lo own names (s.left+1))(H:CellS c b o nm (.pointer none) z)(R:nm.length<=1000000)(L:nm∈names)(Q:RightC c k w s d z rr)
  {p:Rr (Own×Option Int)}(f:p=match rr s with | .ok v s'=>.ok (updO own nm v,none) s' | .stop way s'=>.stop way s' | .gas=>.gas)(C:p≠.gas) :
  Calls Tryz.prog 149 #[.pointer (some ⟨d,0,none⟩),.pointer (some ⟨b,o,none⟩)] w (GoP c k d (some ob) lo names w s p):=by
 obtain⟨b1,k2,k3,k4⟩:=H w s k h
 have b2:=h.lt
 have x:rr s≠.gas:=fun e=>C (by rw[f,e])
 have A:=zh (Q w s h (Kp.refl _ _ _) zn x)
 have HX:=zh H
 have a7:=zh S
 have i:=zh ok
 clear H S ok h Q
 cases r:rr s with
 |gas=>exact absurd r x
 |stop way s' =>
  rw[r]at A f
  have D:Hid (∀e W,thrE endT (way:Int) e->(∃k',GS c W s' k')->Kp c nY w W->GoP c k d (some ob) lo names w s p e W):=fun e W E F G=>by rw[f];exact⟨E,F,G.wide⟩
  clear f C x r
  go_enter Tryz.func149,Tryz.ntmps149
  go_wp2_with fail
  refine A.out.mono ?_
  rintro e w2⟨⟨older,rfl⟩,j,l⟩
  have m:=zh j
  have B:=zh l
  clear j l
  go_wp2_with fail
  exact⟨rfl,D.out _ _ ⟨older,rfl⟩ m.out B.out⟩
 |ok v s' =>
  rw[r]at A f
  have D:Hid (∀W,GS c W s' k->Kp c (oY (some ob)) w W->s'.left<=s.left->Sc c W d (some ob) lo (updO own nm v) names s'.left->GoP c k d (some ob) lo names w s p (.returned (.tuple #[])) W):=fun W E F G a4=>by rw[f];exact⟨rfl,E,F,G,a4⟩
  clear f C x r
  go_enter Tryz.func149,Tryz.ntmps149
  go_wp2_with fail
  refine A.out.mono ?_
  rintro e w2⟨rfl,j,l,N,K⟩
  obtain⟨X,T,_,_⟩:=HX.out w2 s' k j
  have g:=a7.out.kp (left':=s'.left+1) l i.out.Vlt (by omega)
  have U:w2.cell? ⟨d,2,none⟩=some (.map (some ob)):=(za g.blk).trans rfl
  have b0:=zf g.blk
  obtain⟨ov,O⟩:=Option.isSome_iff_exists.1 ((g.dom nm).2 L)
  have a9:∀n,(Instr.lookup 96 (.map (some ob)) (.string (bs nm)) true).run Tryz.prog (w2.drewN n)=.ok (.tuple #[.int .i64 ov,.bool true]) (w2.drewN n):=fun n=>by
   rw[g.look nm R (w2.drewN n) (fun _=>rfl),O];rfl
  have V:=zh g
  have m:=zh j
  have B:=zh l
  have a5:=zh N
  have Z:=zh K
  clear g j l N K O k2 k3 k4
  go_wp2_with fail
  go_quiet (fail)
  obtain⟨a,y⟩:∃a,a=w2.drewN nq:=⟨_,rfl⟩
  have q:a.heap=w2.heap:=by rw[y];rfl
  have t:Below w2.heap.size w2 a:=by rw[y];exact below_drewN (Below.refl _ _) _
  rw[<-y]
  clear y
  have u:=m.out.below i.out t
  have I:=V.out.below i.out t m.out.lt
  have a8:Below a.heap.size a a.drew:=(Below.refl _ _).drew
  obtain⟨w4,b3,J,M,P⟩:=Sc.store (left:=s'.left) (u.drew i.out) i.out (I.drew i.out u.lt) nm R L v Z.out
  have r2:a.cell? ⟨b,o+2,none⟩=some (.string (bs nm)):=(zD q _).trans T
  have rs:a.cell? ⟨d,2,none⟩=some (.map (some ob)):=(zD q _).trans U
  have rb:b<a.heap.size:=by rw[q];exact X
  have rl:d<a.heap.size:=by rw[q];exact b0
  have Y:=zh J
  have a6:=zh P
  have a0:Hid (Kp c (oY (some ob)) w w4):=(B.out.wide.trans (Kp.below t m.out.lt)).trans ((Kp.drew c _ u.lt).trans M)
  clear u I J M P t a8 q a9 T U
  go_wp2_with fail
  go_region
  all_goals go_wp2_with fail
  all_goals exact bodyPost_ret (results_none rfl _ _ _) rfl (D.out _ Y.out a0.out a5.out a6.out)
def setS (s:Rs) (md nm:Bs) (l:List Int):Rs:={ s with w:=setP md nm l s.w }
theorem set_tail {c:Cx}(ok:CxOk c){k:Nat}{lo:Lo}{own:Own}{names:List Bs}{w W:World}{s a:Rs}{x:Nat}{ob:Option Nat}{nm:Bs}{g:G}(e:Sc c w x ob lo own names (s.left+1))(C:Tp.varOf lo.m nm=some g)(d:GS c W a k)(A:Kp c nY w W)(B:a.left<=s.left) :
  ∃p,Tp.partOf a.w lo.m.name=some p/\(p.vars nm).length=vlen g/\vlen g<=1000/\∀(j:Nat) (v:Int),j<vlen g->Tp.I64 v->(∃old,W.cell? ⟨lo.sl nm,j,none⟩=some old)/\W.frozen? ⟨lo.sl nm,j,none⟩=false/\lo.sl nm<W.heap.size /\
   ∀b,Below W.heap.size W b->GS c (b.setCell ⟨lo.sl nm,j,none⟩ (.int .i64 v)) (setS a lo.m.name nm ((p.vars nm).set j v)) k/\Kp c (oY ob) w (b.setCell ⟨lo.sl nm,j,none⟩ (.int .i64 v))/\(setS a lo.m.name nm ((p.vars nm).set j v)).left<=s.left/\Sc c (b.setCell ⟨lo.sl nm,j,none⟩ (.int .i64 v)) x ob lo own names (setS a lo.m.name nm ((p.vars nm).set j v)).left:=by
 obtain⟨p,i,H,I,L,J,t,u⟩:=d.val ok e.mem C
 refine⟨p,i,H,J,fun j v D F=>?_⟩
 obtain⟨q,f,M,K⟩:=d.vals lo e.mem
 have E:q=p:=by rw[i]at f;injection f with f;exact f.symm
 subst E
 have h:=(K g t).2.1
 rw[u]at h
 refine⟨⟨_,by rw[I j,List.getElem?_eq_getElem (by omega)];rfl⟩,zi h,zf h,fun b n=>?_⟩
 have y:=d.below ok n
 have z:=A.trans (Kp.below n d.lt)
 obtain⟨o,r⟩:=y.setv ok e.mem t i D F
 rw[u]at o r
 have l:=z.trans r
 exact⟨o,l.wide,B,e.kp l ok.Vlt (by show a.left<=_;omega)⟩
theorem set_var {c:Cx}(ok:CxOk c){k:Nat}{lo:Lo}{own:Own}{names:List Bs}{w:World}{s:Rs}{i b o z:Nat}{ob:Option Nat}{nm:Bs}{g:G}{rr:Rs->Rr Int}(h:GS c w s k)(hs:Sc c w i ob lo own names (s.left+1))(M:CellS c b o nm (.pointer none) z)(Z:nm.length<=1000000)(b2:nm ∉ names)(Y:Tp.varOf lo.m nm=some g)(b0:g.len=0)(X:RightC c k w s i z rr)
  {t:Rr (Own×Option Int)}(l:t=match rr s with | .ok v s'=>.ok (own,none) (setS s' lo.m.name nm [v]) | .stop way s'=>.stop way s' | .gas=>.gas)(F:t≠.gas) :
  Calls Tryz.prog 149 #[.pointer (some ⟨i,0,none⟩),.pointer (some ⟨b,o,none⟩)] w (GoP c k i ob lo names w s t):=by
 obtain⟨b7,k2,k3,k4⟩:=M w s k h
 have b8:=h.lt
 have B:rr s≠.gas:=fun e=>F (by rw[l,e])
 have D:=zh (X w s h (Kp.refl _ _ _) zn B)
 have HX:=zh M
 have A:=zh hs
 have y:=zh ok
 have R:=zh Y
 have V:vlen g=1:=by unfold vlen;rw[if_pos b0]
 clear M hs ok h X Y
 cases x:rr s with
 |gas=>exact absurd x B
 |stop way s' =>
  rw[x]at D l
  have H:Hid (∀e W,thrE endT (way:Int) e->(∃k',GS c W s' k')->Kp c nY w W->GoP c k i ob lo names w s t e W):=fun e W I J K=>by rw[l];exact⟨I,J,K.wide⟩
  clear l F B x
  go_enter Tryz.func149,Tryz.ntmps149
  go_wp2_with fail
  refine D.out.mono ?_
  rintro e w2⟨⟨older,rfl⟩,j,r⟩
  have a6:=zh j
  have a7:=zh r
  clear j r
  go_wp2_with fail
  exact⟨rfl,H.out _ _ ⟨older,rfl⟩ a6.out a7.out⟩
 |ok v s' =>
  rw[x]at D l
  have H:Hid (∀W,GS c W (setS s' lo.m.name nm [v]) k->Kp c (oY ob) w W->(setS s' lo.m.name nm [v]).left<=s.left->Sc c W i ob lo own names (setS s' lo.m.name nm [v]).left->GoP c k i ob lo names w s t (.returned (.tuple #[])) W):=fun W I J K a4=>by rw[l];exact⟨rfl,I,J,K,a4⟩
  clear l F B x
  go_enter Tryz.func149,Tryz.ntmps149
  go_wp2_with fail
  refine D.out.mono ?_
  rintro e w2⟨rfl,j,r,T,S⟩
  obtain⟨a0,j2,_,_⟩:=HX.out w2 s' k j
  have q:=A.out.kp (left':=s'.left+1) r y.out.Vlt (by omega)
  have ks:w2.cell? ⟨i,2,none⟩=some (.map ob):=(za q.blk).trans rfl
  have ki:w2.cell? ⟨i,1,none⟩=some (.pointer (some ⟨lo.lb,0,none⟩)):=(za q.blk).trans rfl
  have b5:=zf q.blk
  have U:own nm=none:=by
   cases ho:own nm with
   |none=>rfl
   |some u=>exact absurd ((q.dom nm).1 (by rw[ho];rfl)) b2
  have b3:∀n,(Instr.lookup 96 (.map ob) (.string (bs nm)) true).run Tryz.prog (w2.drewN n)=.ok (.tuple #[.int .i64 0,.bool false]) (w2.drewN n):=fun n=>by
   rw[q.look nm Z (w2.drewN n) (fun _=>rfl),U];rfl
  obtain⟨ia,ga,pa,ba,ic,gc,pc,bc,L,_⟩:=j.loB y.out A.out.mem
  have kl:w2.cell? ⟨lo.lb,5,none⟩=some (.map (some lo.vb)):=(za L).trans rfl
  have b4:=zf L
  obtain⟨p,p1,N,p3,P⟩:=set_tail y.out A.out R.out j r T
  obtain⟨⟨b6,t1⟩,t2,t3,O⟩:=P 0 v (vlen_pos g) S
  have Q:(p.vars nm).set 0 v=[v]:=by
   rw[V]at N
   obtain⟨a,ha⟩:=Tp.len1 N
   rw[ha];rfl
  rw[Q]at O
  have a9:=zh O
  have a8:Hid (∀W:World,W.heap=w2.heap->(Instr.lookup 105 (.map (some lo.vb)) (.string (bs nm)) false).run Tryz.prog W=.ok (.slice (some ⟨lo.sl nm,0,none⟩) 1 1) W):=fun W hW=>by
   have:=j.lookV y.out A.out.mem R.out Z W (fun _=>by rw[hW])
   rw[V]at this
   exact this
  clear q j r T S U k2 k3 k4 L P O p1 N p3 Q
  go_wp2_with fail
  go_quiet (fail)
  obtain⟨d,C⟩:∃d,d=w2.drewN nq:=⟨_,rfl⟩
  have f:d.heap=w2.heap:=by rw[C];rfl
  have a5:Hid (Below w2.heap.size w2 d):=by rw[C];exact below_drewN (Below.refl _ _) _
  rw[<-C]
  clear C
  have r2:d.cell? ⟨b,o+2,none⟩=some (.string (bs nm)):=(zD f _).trans j2
  have ri:d.cell? ⟨i,1,none⟩=some (.pointer (some ⟨lo.lb,0,none⟩)):=(zD f _).trans ki
  have rk:d.cell? ⟨lo.lb,5,none⟩=some (.map (some lo.vb)):=(zD f _).trans kl
  have rb:b<d.heap.size:=by rw[f];exact a0
  have rl:i<d.heap.size:=by rw[f];exact b5
  have c0:lo.lb<d.heap.size:=by rw[f];exact b4
  have rt:d.cell? ⟨lo.sl nm,0,none⟩=some b6:=(zD f _).trans t1
  have rf:d.frozen? ⟨lo.sl nm,0,none⟩=false:=(World.frozen?_of_block (w:=w2) (by rw[f])).trans t2
  have c1:lo.sl nm<d.heap.size:=by rw[f];exact t3
  have b9:∀n,(Instr.lookup 105 (.map (some lo.vb)) (.string (bs nm)) false).run Tryz.prog (d.drewN n)=.ok (.slice (some ⟨lo.sl nm,0,none⟩) 1 1) (d.drewN n):=fun n=>a8.out (d.drewN n) f
  clear f b3 j2 ks ki kl t1 t2 t3
  go_wp2_with fail
  go_quiet (fail)
  go_wp2_with fail
  refine(kZ _ 1 1 0 (by omega) (by omega) (by omega) _).mono ?_
  rintro e w4⟨rfl,rfl⟩
  go_wp2_with fail
  have E:=zh (a9.out _ (below_drewN a5.out nq))
  exact bodyPost_end (results_none rfl _ _ _) rfl (H.out _ E.out.1 E.out.2.1 E.out.2.2.1 E.out.2.2.2)
end Go.Proofs.YtibncofnnlbmcaaGreatDoor
