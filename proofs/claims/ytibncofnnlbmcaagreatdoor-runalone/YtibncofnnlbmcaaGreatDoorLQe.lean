import Derived.Test.YtibncofnnlbmcaaGreatDoorLQd
import Derived.Test.YtibncofnnlbmcaaGreatDoorLMd
import Derived.Laws.MakeOwn
set_option maxRecDepth 100000
set_option maxHeartbeats 4000000
namespace Go.Proofs.YtibncofnnlbmcaaGreatDoor
open Go.RowKit Go.Maps
open Tp (Bs X S G Pr Pt Rs Rr Own)
def GoP (c:Cx) (k sb:Nat) (ob:Option Nat) (lo:Lo) (names:List Bs) (w:World) (s:Rs) (r:Rr (Own×Option Int)) (e:Ending) (w':World):Prop:=match r with
 | .ok (own',none) s'=>e=.returned (.tuple #[])/\GS c w' s' k/\Kp c (oY ob) w w'/\s'.left<=s.left/\Sc c w' sb ob lo own' names s'.left
 | .ok (_,some v) s'=>thrE toldT v e/\GS c w' s' k/\Kp c (oY ob) w w'/\s'.left<=s.left/\Tp.I64 v
 | .stop way s'=>thrE endT (way:Int) e/\(∃k',GS c w' s' k')/\Kp c (oY ob) w w'
 | .gas=>True
def GoC (c:Cx) (g:Nat):Prop:=∀(k:Nat) (lo:Lo) (own:Own) (names:List Bs) (l:List S) (v:Value) (w:World) (s:Rs) (sb:Nat) (ob:Option Nat),
 Ss c lo names l v->GS c w s k->Sc c w sb ob lo own names s.left->Tp.goS g k lo.m.name own l s≠.gas ->
 Calls Tryz.prog 88 #[.pointer (some ⟨sb,0,none⟩),v] w (GoP c k sb ob lo names w s (Tp.goS g k lo.m.name own l s))
theorem jF (l:Olds):l.1.dropWhile (fun x=>!x.goexit)=[]:=by
 obtain⟨l,h⟩:=l
 show l.dropWhile _=[]
 induction l with
 |nil=>rfl
 |cons x t ih =>
  rw[List.dropWhile_cons,h x (by simp)]
  exact ih (fun y a=>h y (by simp[a]))
theorem GS.setO {c:Cx}{w:World}{s:Rs}{k b j:Nat}{v:Value}(h:GS c w s k)(f:CxOk c)(g:c.gb<b)(d:¬OutB c w b):GS c (w.setCell ⟨b,j,none⟩ v) s k :=
 h.on f (zx _ (by omega)) (fun i _ a=>zx i (by
  rcases a with q|q
  ·omega
  ·exact fun e=>d (e ▸ q)))
theorem body_all {c:Cx}{g:Nat}(D:CxOk c)(hG:GoC c g):BodyC c g:=by
 intro k lo own names l v w s sb ob P h T K
 have b1:=zm
 obtain⟨cs,a8,a4⟩:=P.rep
 obtain⟨va,vc,rfl⟩:=a4.shape
 have Q:=h.lt
 obtain⟨i,y⟩:∃i,i=w.alloc (.cells #[.int .i64 0] 2):=⟨_,rfl⟩
 have H:Below w.heap.size w i:=by rw[y];exact zb _ _
 have R:i.heap[w.heap.size]?=some (.cells #[.int .i64 0] 2 (0,0)):=by rw[y];exact zo _ _
 have a9:w.heap.size<i.heap.size:=zf R
 have Y:=h.below D H
 have N:¬OutB c i w.heap.size:=fun hq=>by
  have:=h.outlt ((yr (H.block _ Q) _).1 hq);omega
 have U:=zh (hG k lo own names l _ i s sb ob P Y (T.below D H Q) K)
 have V:ob≠some w.heap.size:=fun e=>by
  have ho:=T.om
  rw[e]at ho
  have:=ho.2.2.2
  obtain⟨n,_,hm⟩:=this
  have:=hm.lt
  omega
 have a5:Hid (∀W,Kp c (oY ob) i W->W.heap[w.heap.size]?=some (.cells #[.int .i64 0] 2 (0,0))/\¬OutB c W w.heap.size):=fun W M=>by
  refine⟨(M.block _ a9 (by omega) (fun q=>by have:=D.Vlt _ q;omega) N V).trans R,fun q=>?_⟩
  rcases M.out _ q with z|z
  ·exact N z
  ·omega
 have O:Hid (∀W,Kp c (oY ob) i W->Kp c (oY ob) w W):=fun W M=>(Kp.below H Q).trans M
 have a0:Hid (∀W j k' u,GS c W j k'->Kp c (oY ob) w W->¬OutB c W w.heap.size->Kp c (oY ob) w (W.setCell ⟨w.heap.size,0,none⟩ u)/\GS c (W.setCell ⟨w.heap.size,0,none⟩ u) j k'):=fun W j k' u a1 C a3=>by
  refine⟨?_,a1.setO D (by omega) a3⟩
  have e:=(Below.refl 0 W).setCell (p:=⟨w.heap.size,0,none⟩) (Nat.zero_le _) u
  refine⟨e.os.trans C.os,e.tape.trans C.tape,e.output.trans C.output,by simpa using C.size,fun b q1 q2 q3 q4 q5=>(zx b (by omega)).trans (C.block b q1 q2 q3 q4 q5),fun b hb=>C.out b ((yr (zx _ (by omega)) b).1 hb)⟩
 generalize Tp.goS g k lo.m.name own l s=r at *
 clear h T P a8 a4 H R Y N V hG D
 generalize l.length=ln at *
 cases r with
 |gas=>exact absurd rfl K
 |stop way j =>
  clear K
  go_enter_defers Tryz.func43,Tryz.ntmps43
  go_upto_region 2 with fail
  rw[<-y]
  clear y
  go_wp2_with fail
  refine U.out.mono ?_
  rintro e w2⟨⟨older,rfl⟩,t,a⟩
  have b0:=zh t
  have a6:=zh a
  clear t a
  go_wp2_with fail
  refine leaves_cons (f:=87) (args:=#[.pointer (some ⟨w.heap.size,0,none⟩)]) (by simp) (by simp[go_sem]) ?_
  refine(blate_end w.heap.size (way:Int) older.1 w2).mono ?_
  rintro e u' B⟨rfl,rfl,rfl⟩
  simp only[Leaves,raised]
  exact⟨⟨⟨_,fun x hx=>by
   rcases List.mem_cons.1 hx with q|q
   ·rw[q]
   ·exact older.2 x q⟩,rfl⟩,b0.out,O.out _ a6.out⟩
 | D r1 j =>
  obtain⟨X,ro⟩:=r1
  clear K
  cases ro with
  |some u =>
   go_enter_defers Tryz.func43,Tryz.ntmps43
   go_upto_region 2 with fail
   rw[<-y]
   clear y
   go_wp2_with fail
   refine U.out.mono ?_
   rintro e w2⟨⟨older,rfl⟩,t,a,F,Z⟩
   obtain⟨o,E⟩:=a5.out w2 a
   have G:=O.out w2 a
   have d:=a0.out w2 j k (.int .i64 u) t G E
   have J:=zh d
   have S:=zh F
   have a7:=zh Z
   have I:=zh o
   clear t a F Z o E G d
   go_wp2_with fail
   refine leaves_cons (f:=87) (args:=#[.pointer (some ⟨w.heap.size,0,none⟩)]) (by simp) (by simp[go_sem]) ?_
   refine(blate_told w.heap.size u older.1 w2 ((za I.out).trans rfl) (zi I.out)).mono ?_
   rintro e u' B⟨rfl,rfl,A⟩
   have L:B.cell? ⟨w.heap.size,0,none⟩=some (.int .i64 u):=by rw[A];exact(za (zu 0 _ I.out)).trans rfl
   have hd:=jF older
   have d:BodyP c k ob w s (.ok (X,some u) j) (.returned (.int .i64 u)) B:=by rw[A];exact⟨rfl,J.out.2,J.out.1,S.out,a7.out⟩
   clear A
   simp[Leaves,settle,hd,results,Tryz.results43,go_sem,L]
   exact d
  |none =>
   go_enter_defers Tryz.func43,Tryz.ntmps43
   go_upto_region 2 with fail
   rw[<-y]
   clear y
   go_wp2_with fail
   refine U.out.mono ?_
   rintro e w2⟨rfl,t,a,F,_⟩
   obtain⟨o,E⟩:=a5.out w2 a
   have G:=O.out w2 a
   have d:=a0.out w2 j k (.int .i64 0) t G E
   have J:=zh d
   have S:=zh F
   have I:=zh o
   have L:w2.cell? ⟨w.heap.size,0,none⟩=some (.int .i64 0):=(za o).trans rfl
   have kz:w2.frozen? ⟨w.heap.size,0,none⟩=false:=zi o
   have b2:w.heap.size<w2.heap.size:=zf o
   clear t a F o E G d
   go_wp2_with fail
   refine leaves_cons (f:=87) (args:=#[.pointer (some ⟨w.heap.size,0,none⟩)]) (by simp) (by simp[go_sem]) ?_
   refine(blate_idle w.heap.size _).mono ?_
   rintro e u' B⟨rfl,rfl,A⟩
   have L:B.cell? ⟨w.heap.size,0,none⟩=some (.int .i64 0):=by rw[A];exact(za (zu 0 _ I.out)).trans rfl
   have d:BodyP c k ob w s (.ok (X,none) j) (.returned (.int .i64 0)) B:=by rw[A];exact⟨rfl,J.out.2,J.out.1,S.out,(by decide:Tp.I64 0)⟩
   clear A
   simp[Leaves,settle,results,Tryz.results43,go_sem,L]
   exact d
theorem madeZ (n:Nat):madeCells (Value.cells (.int .i64 0)) n=(ints (List.replicate n 0)).toArray:=by
 apply Array.ext
 ·simp[madeCells,ints]
 ·intro i a b
  simp[madeCells,ints,Value.cells]
  rw[Nat.mod_one]
  rfl
theorem vd (n:Nat)(f:n<=100000)(w:World):(Instr.makeSlice 29 (.int .i64 (n:Int)) (.int .i64 (n:Int))).run Tryz.prog w=.ok (.slice (some ⟨w.heap.size,0,none⟩) n n) (w.alloc (.cells (ints (List.replicate n 0)).toArray 2)):=by
 obtain⟨e,d,c,a,b⟩:=info_parts Tryz.infoInt64
 have h:=run_make (P:=Tryz.prog) w 29 2 e (.int .i64 0) Tryz.underlying29 d c .i64 .i64 (n:Int) (n:Int) (by omega) (by omega) (by rw[b];omega) (by omega)
 rw[h,a,<-madeZ]
 simp
def preR (vs:List Int) (r:Rr (List Int)):Rr (List Int):=match r with
 | .ok l s=>.ok (vs++l) s
 | .stop way s=>.stop way s
 | .gas=>.gas
theorem preR_nil (r:Rr (List Int)):preR [] r=r:=by cases r<;>rfl
theorem evs_step {g k:Nat}{m:Bs}{own:Own}{y:X}{t:List X}{s:Rs}{vs:List Int}:preR vs (Tp.evs (g+1) k m own (y :: t) s)=match Tp.evX g k m own [y] s with
  | .ok v s'=>preR (vs++[v]) (Tp.evs g k m own t s')
  | .stop way s'=>.stop way s'
  | .gas=>.gas:=by
 rw[Tp.evs]
 unfold Tp.Ru.bind preR
 cases Tp.evX g k m own [y] s with
 |ok v s' =>
  simp only
  cases Tp.evs g k m own t s' with
  |ok l s2=>simp[Tp.Ru.pure]
  |stop way s2=>rfl
  |gas=>rfl
 |stop way s'=>rfl
 |gas=>rfl
def appR (g k:Nat) (M nm:Bs) (r:Rr (List Int)):Rr Int:=match r with
 | .ok vs s'=>(match (Tp.partOf s'.w M).bind fun p=>p.m.procs.find? fun q=>q.name==nm with
  |none=>.ok 0 s'
  |some p=>Tp.callP g k M p vs s')
 | .stop way s'=>.stop way s'
 | .gas=>.gas
theorem evX_app (g k:Nat)(m:Bs)(own:Own)(pos n:Nat)(md nm b:Bs)(c ri a:List X)(s:Rs):Tp.evX (g+1) k m own [⟨6,pos,n,md,nm,b,c,ri,a⟩] s=appR g k (if md=[] then m else md) nm (Tp.evs g k m own a s):=by
 rw[Tp.evX]
 show (Tp.Ru.bind _ _) s=_
 unfold Tp.Ru.bind appR
 cases Tp.evs g k m own a s with
 |gas=>rfl
 |stop way s'=>rfl
 |ok vs s' =>
  simp only[Tp.procOf]
  cases ((Tp.partOf s'.w (if md=[] then m else md)).bind fun p=>p.m.procs.find? fun q=>q.name==nm)<;>rfl
theorem Kp.setNew {c:Cx}{w W:World}{b j:Nat}{u:Value}(h:Kp c nY w W)(n:w.heap.size<=b)(g:b≠c.gb):Kp c nY w (W.setCell ⟨b,j,none⟩ u):=by
 have e:=(Below.refl 0 W).setCell (p:=⟨b,j,none⟩) (Nat.zero_le _) u
 exact⟨e.os.trans h.os,e.tape.trans h.tape,e.output.trans h.output,by simpa using h.size,fun i a k f l m=>(zx i (by omega)).trans (h.block i a k f l m),fun i d=>h.out i ((yr (zx _ (fun e=>g e.symm)) i).1 d)⟩
theorem ints_set {vs:List Int}{n i:Nat}{v:Int}(h:vs.length=i)(b:i<n):(ints (vs++List.replicate (n-i) 0)).toArray.setIfInBounds i (.int .i64 v)=(ints ((vs++[v])++List.replicate (n-(i+1)) 0)).toArray:=by
 apply Array.toList_inj.1
 simp only[Array.toList_setIfInBounds,ints,List.map_append]
 obtain⟨d,hd⟩:∃d,n-i=d+1:=⟨n-i-1,by omega⟩
 have a:n-(i+1)=d:=by omega
 rw[hd,a,List.set_append_right _ _ (by simp;omega)]
 simp[h,List.replicate_succ]
theorem rx_mem {l:List X}:∀{y:X},y∈l->∀r∈Tp.rx [y],r∈Tp.rx l:=by
 induction l with
 |nil=>intro y a;cases a
 |cons x t ih =>
  intro y a r b
  rw[kT]
  rcases List.mem_cons.1 a with e|e
  ·rw[<-e];exact List.mem_append_left _ b
  ·exact List.mem_append_right _ (ih e r b)
theorem apply_all {c:Cx}{g:Nat}(N:CxOk c)(hE:∀n,n<g->EvC c n)(hC:CallC c g){k:Nat}{lo:Lo}{own:Own}{names:List Bs}{x:Nat}{w:World}{s:Rs}{F pos n:Nat}{ob:Option Nat}{md nm op:Bs}{le ri a:List X}(P:Ex c lo names [⟨6,pos,n,md,nm,op,le,ri,a⟩] x)(h:GS c w s k)(hs:Sc c w F ob lo own names s.left){J:Rr Int}(a5:J=appR g k (if md=[] then lo.m.name else md) nm (Tp.evs g k lo.m.name own a s))(hn:J≠.gas) :
  Calls Tryz.prog 176 #[.pointer (some ⟨F,0,none⟩),.pointer (some ⟨x,0,none⟩)] w (EvP c k w s J):=by
 have hf:=P.fit ⟨6,pos,md,nm,a.length⟩ (by rw[Tp.rx];simp)
 obtain⟨m',p,q2,q3,q4⟩:=hf.p6 rfl
 simp only at q2 q3 q4
 obtain⟨t,c4,e0,f7,d1⟩:=atM_of N hs.mem q2
 rw[<-e0]at q3
 obtain⟨d5,h2⟩:=wx_okr P.wx (by omega)
 have d4:p∈t.m.procs:=List.mem_of_find?_eq_some q3
 have g4:a.length<=10:=by have:=((N.lo t c4).fit.wm.p p d4).c;omega
 have hw:=P.wx
 rw[Tp.WX]at hw
 have f3:Tp.WX a:=by
  rcases hw.1 with q|q|q|q|q|q
  ·exact absurd q.1 (by decide)
  ·exact absurd q.1 (by decide)
  ·exact absurd q.1 (by decide)
  ·exact absurd q.1 (by decide)
  ·exact absurd q.1 (by decide)
  ·exact q.2.2.2.2.2.2
 obtain⟨av,ls,rs,gs,hD,hb,_,_,_,_,rg,d9⟩:=P.blk
 have e8:=h.lt
 have a7:=RepL.len a gs rg
 obtain⟨ga,gc,rfl,h0⟩:∃ga gc,av=.slice ga a.length gc/\Hid (∀i,∀hi:i<a.length,∃K R,ga=some ⟨K,0,none⟩/\c.D K/\c.w0.cell? ⟨K,i,none⟩=some (.pointer (some ⟨R,0,none⟩))/\Ex c lo names [a[i]] R):=by
  rcases d9 with⟨e1,e2⟩|⟨K,cap,cur,e1,e2,e3,e4,e5,e6,e7⟩
  ·subst e1
   rw[List.length_nil]at a7
   exact⟨none,0,by rw[e2,<-a7],fun i hi=>by omega⟩
  ·refine⟨some ⟨K,0,none⟩,cap,by rw[e1,a7],fun i hi=>?_⟩
   obtain⟨R,y1,y2⟩:=RepL.get a gs rg i hi
   refine⟨K,R,rfl,e2,?_,⟨y2,Tp.wx_mem f3 _ (List.getElem_mem hi),fun r M=>P.fit r ?_⟩⟩
   ·rw[za e3,<-Array.getElem?_toList,<-y1,<-e7,List.getElem?_take_of_lt (by omega)]
   ·rw[Tp.rx]
    have:=rx_mem (List.getElem_mem hi) r M
    simp[this]
 have b7:=(h.st x hD).trans hb
 have h8:=zf b7
 have k8:w.cell? ⟨x,8,none⟩=some (.slice ga a.length gc):=(za b7).trans rfl
 have i7:=vd a.length (by omega)
 obtain⟨C,a3⟩:∃C,C=w.alloc (.cells (ints (List.replicate a.length 0)).toArray 2):=⟨_,rfl⟩
 have T:Below w.heap.size w C:=by rw[a3];exact zb _ _
 have b5:C.heap[w.heap.size]?=some (.cells (ints ([]++List.replicate (a.length-0) 0)).toArray 2 (0,0)):=by rw[a3];exact zo _ _
 have m7:w.heap.size<C.heap.size:=zf b5
 have c6:¬OutB c C w.heap.size:=fun hq=>by
  have:=h.outlt ((yr (T.block _ e8) _).1 hq);omega
 have c7:Hid (C.heap[w.heap.size]?=some (.cells (ints ([]++List.replicate (a.length-0) 0)).toArray 2 (0,0))/\¬OutB c C w.heap.size):=⟨b5,c6⟩
 have g9:=zh (h.below N T)
 have g2:=zh (Kp.below (c:=c) (Y:=nY) T e8)
 have h9:C.cell? ⟨x,8,none⟩=some (.slice ga a.length gc):=(T.cell (p:=⟨x,8,none⟩) h8).trans k8
 have m1:x<C.heap.size:=by omega
 have b9:=zh hs
 have G:=zh N
 have HE:=zh hE
 have i6:=zh hC
 have HX:Hid (∀W s' k',GS c W s' k'->x<W.heap.size/\W.cell? ⟨x,3,none⟩=some (.string (bs md))/\W.cell? ⟨x,4,none⟩=some (.string (bs nm))):=fun W s' k' A=>⟨zf ((A.st x hD).trans hb),(za ((A.st x hD).trans hb)).trans rfl,(za ((A.st x hD).trans hb)).trans rfl⟩
 have f5:Hid (t∈c.L):=c4
 have e9:Hid (Tp.procIn t.m nm=some p):=q3
 have h7:=zh f7
 have h6:=zh d1
 have g8:Hid (p.params.length=a.length):=q4
 obtain⟨full,b3⟩:∃full,full=Tp.evs g k lo.m.name own a s:=⟨_,rfl⟩
 rw[<-b3]at a5
 have c9:=zh a5
 have HN:=zh hn
 have g5:Hid (∃y,y<=g/\full=preR [] (Tp.evs y k lo.m.name own (a.drop 0) s)):=⟨g,Nat.le_refl _,by rw[preR_nil,b3];rfl⟩
 have b6:Hid (full≠.gas):=fun e=>hn (by rw[a5,e];rfl)
 obtain⟨o,c0⟩:∃o,o=a.length:=⟨_,rfl⟩
 rw[<-c0]at i7 k8 h9 a3 c7 g4
 have c5:=zh c0
 have i9:(o:Int)<=10:=by omega
 have g0:Hid (md.length<=1000000):=d5
 clear hf q2 q3 q4 c4 e0 f7 d1 d5 h2 d4 hw f3 hb rg d9 a7 b7 T b5 c6 h N hE hC hs P a5 hn b3 c0
 go_enter Tryz.func176,Tryz.ntmps176
 go_upto_region 2 with fail
 rw[<-a3]
 clear a3 k8
 go_wp2_with fail
 go_loopg [19] o (fun kk vi wr=>∃(i:Nat) (f:Rs) (d:List Int),i<=o/\kk=o-i/\vi=.int .i64 (i:Int)/\Hid (GS c wr f k)/\Hid (Kp c nY w wr)/\Hid (f.left<=s.left)/\Hid (d.length=i/\∀v∈d,Tp.I64 v)/\Hid (wr.heap[w.heap.size]?=some (.cells (ints (d++List.replicate (o-i) 0)).toArray 2 (0,0))/\¬OutB c wr w.heap.size)/\Hid (∃y,y<=g/\full=preR d (Tp.evs y k lo.m.name own (a.drop i) f)))
 case atStart=>exact⟨0,s,[],by omega,by omega,rfl,g9,g2,Nat.le_refl _,⟨rfl,fun v hv=>by cases hv⟩,c7,g5⟩
 case round =>
  obtain⟨i,f,d,m5,m4,rfl,H,S,HL,Q,O,HF⟩:=hrel
  have i8:=S.out.size
  have d3:w.heap.size<wr.heap.size:=zf O.out.1
  by_cases g3:i<o
  ·have f8:(i:Int)<(o:Int):=by omega
   obtain⟨y,h1,l⟩:=HF.out
   have a0:i<a.length:=by have:=c5.out;omega
   obtain⟨K,R,rfl,c1,c2,b8⟩:=h0.out i a0
   have kc:=H.out.cell0 c1 c2
   have m2:=zg kc
   rw[List.drop_eq_getElem_cons a0]at l
   cases y with
   |zero=>exact absurd (by rw[l,Tp.evs];rfl) b6.out
   |succ g1 =>
    rw[evs_step]at l
    have a9:Tp.evX g1 k lo.m.name own [a[i]] f≠.gas:=fun e=>b6.out (by rw[l,e])
    have b2:=zh (HE.out g1 (by omega) k lo own names [a[i]] R wr f F ob b8 H.out (b9.out.kp S.out G.out.Vlt HL.out) a9)
    cases M:Tp.evX g1 k lo.m.name own [a[i]] f with
    |gas=>exact absurd M a9
    |stop way s2 =>
     rw[M]at l b2
     have HR:Hid (∀e W,EvP c k wr f (.stop way s2) e W->EvP c k w s J e W):=fun e W A=>by
      rw[c9.out,l]
      exact A.up S.out HL.out
     clear l M a9 c2 b8 c1
     go_wp2_with fail
     refine b2.out.mono ?_
     rintro e B⟨⟨older,rfl⟩,I,E⟩
     have h3:=zh I
     have g7:=zh E
     clear I E
     go_wp2_with fail
     exact⟨rfl,HR.out _ _ ⟨⟨older,rfl⟩,h3.out,g7.out⟩⟩
    | N v s2 =>
     rw[M]at l b2
     have f0:=zh l
     clear l M a9 c2 b8 c1
     go_wp2_with fail
     refine b2.out.mono ?_
     rintro e B⟨rfl,I,E,f4,f6⟩
     have U:B.heap[w.heap.size]?=some (.cells (ints (d++List.replicate (o-i) 0)).toArray 2 (0,0)):=(E.block _ d3 (by omega) (fun q=>by have:=G.out.Vlt _ q;omega) O.out.2 (fun q=>q)).trans O.out.1
     have b4:¬OutB c B w.heap.size:=fun q=>by
      rcases E.out _ q with z|z
      ·exact O.out.2 z
      ·omega
     have c3:=Q.out.1
     have c8:∃d6,B.cell? ⟨w.heap.size,i,none⟩=some d6:=by
      rw[za U]
      exact⟨_,Array.getElem?_eq_getElem (by simp[ints];omega)⟩
     obtain⟨d6,c8⟩:=c8
     have kz:B.frozen? ⟨w.heap.size,i,none⟩=false:=zi U
     have m3:w.heap.size<B.heap.size:=zf U
     have h5:=zh (I.setO G.out (b:=w.heap.size) (j:=i) (v:=.int .i64 v) (by omega) b4)
     have i1:=zh ((S.out.trans E).setNew (b:=w.heap.size) (j:=i) (u:=.int .i64 v) zn (by omega))
     have i2:Hid (s2.left<=s.left):=Nat.le_trans f4 HL.out
     have i0:Hid ((d++[v]).length=i+1/\∀u∈d++[v],Tp.I64 u):=⟨by simp[c3],fun u hu=>by
      rcases List.mem_append.1 hu with q|q
      ·exact Q.out.2 u q
      ·rw[List.mem_singleton]at q;rw[q];exact f6⟩
     have f9:Hid ((B.setCell ⟨w.heap.size,i,none⟩ (.int .i64 v)).heap[w.heap.size]?=some (.cells (ints ((d++[v])++List.replicate (o-(i+1)) 0)).toArray 2 (0,0))/\¬OutB c (B.setCell ⟨w.heap.size,i,none⟩ (.int .i64 v)) w.heap.size):=⟨by rw[zu i _ U,ints_set c3 g3],fun q=>b4 ((yr (zx _ (by omega)) _).1 q)⟩
     have i5:Hid (∃y,y<=g/\full=preR (d++[v]) (Tp.evs y k lo.m.name own (a.drop (i+1)) s2)):=⟨g1,by omega,f0.out⟩
     clear I E f4 f6 U b4 c3 f0
     go_wp2_with fail
     go_roundg (o-(i+1))
     case measure=>omega
     case rel=>exact⟨i+1,s2,d++[v],by omega,rfl,by go_num,h5,i1,i2,i0,f9,i5⟩
  ·have f8:¬(i:Int)<(o:Int):=by omega
   have i4:i=o:=by omega
   subst i4
   obtain⟨y,h1,l⟩:=HF.out
   rw[List.drop_of_length_le (by have:=c5.out;omega)]at l
   cases y with
   |zero=>exact absurd (by rw[l,Tp.evs];rfl) b6.out
   |succ g1 =>
    have d0:full=.ok d f:=by rw[l,Tp.evs];simp[preR,Tp.Ru.pure]
    obtain⟨p',p1,p2,_⟩:=H.out.vals t f5.out
    have a4:J=Tp.callP g k t.m.name p d f:=by
     rw[c9.out,d0]
     unfold appR
     simp only
     rw[<-h6.out,p1]
     simp only[Option.bind_some]
     rw[p2]
     have e:(t.m.procs.find? fun q=>q.name==nm)=some p:=e9.out
     rw[e]
    have a0:IntsAt wr d (some ⟨w.heap.size,0,none⟩):=⟨fun j hj=>by
     refine⟨w.heap.size,0,rfl,d3,?_⟩
     rw[za O.out.1]
     simp[ints,hj]⟩
    have f2:Tp.callP g k t.m.name p d f≠.gas:=fun e=>HN.out (by rw[a4,e])
    obtain⟨m6,j3,j4⟩:=HX.out wr f k H.out
    have V:=b9.out.kp S.out G.out.Vlt HL.out
    have d2:Hid (∀W:World,W.heap=wr.heap->Calls Tryz.prog 198 #[.pointer (some ⟨F,0,none⟩),.string (bs md)] W fun e w'=>e=.returned (.pointer (some ⟨t.lb,0,none⟩))/\w'=W):=fun W A=>rof H.out G.out V h7.out g0.out W A
    have a6:Hid (∀W:World,Below wr.heap.size wr W->Calls Tryz.prog 56 #[.pointer (some ⟨c.gb,0,none⟩),.pointer (some ⟨t.lb,0,none⟩),.string (bs nm),.slice (some ⟨w.heap.size,0,none⟩) i i] W (EvP c k W f (Tp.callP g k t.m.name p d f))):=fun W A=>by
     have e:=i6.out k t nm p d W f (some ⟨w.heap.size,0,none⟩) i f5.out e9.out (by rw[Q.out.1,g8.out];exact c5.out) Q.out.2 (H.out.below G.out A) (a0.on A) f2
     rw[Q.out.1]at e
     exact e
    have m0:=zf V.blk
    have i3:Hid (∀W s2,GS c W s2 k->Kp c nY wr.drew W->W.cell? ⟨F,0,none⟩=some (.pointer (some ⟨c.gb,0,none⟩))/\W.cell? ⟨x,3,none⟩=some (.string (bs md))/\W.cell? ⟨x,4,none⟩=some (.string (bs nm))):=fun W s2 a1 a2=>⟨(za ((V.drew G.out H.out.lt).kp a2 G.out.Vlt (Nat.zero_le _)).blk).trans rfl,(HX.out W s2 k a1).2⟩
    have d7:Hid (wr.drew.cell? ⟨F,0,none⟩=some (.pointer (some ⟨c.gb,0,none⟩))/\wr.drew.cell? ⟨x,3,none⟩=some (.string (bs md))/\wr.drew.cell? ⟨x,4,none⟩=some (.string (bs nm))):=⟨(za V.blk).trans rfl,j3,j4⟩
    have f1:Hid (Below wr.heap.size wr wr.drew):=(Below.refl _ _).drew
    have a8:=zh a4
    have d8:Hid (∀e W,EvP c k wr.drew f J e W->EvP c k w s J e W):=fun e W A=>A.up (S.out.trans (Kp.drew c nY H.out.lt)) HL.out
    have b1:=HN.out
    rw[a4]at b1
    clear l d0 a4 p1 p2 a0 f2 V j3 j4 HF O Q b9
    cases Z:Tp.callP g k t.m.name p d f with
    |gas=>exact absurd Z b1
    | N v s2 =>
     rw[Z]at a6 a8
     clear Z b1
     go_wp2_with fail
     go_region_held3 (fun w'=>w'.cell? ⟨F,0,none⟩=some (.pointer (some ⟨c.gb,0,none⟩))/\w'.cell? ⟨x,3,none⟩=some (.string (bs md))/\w'.cell? ⟨x,4,none⟩=some (.string (bs nm))) (with_reducible (first|exact h4.out|exact d7.out)) (first|(go_at_call 198;refine(d2.out wr.drew rfl).mono ?_;rintro e B ⟨rfl,rfl⟩)|(go_at_call 56;refine(a6.out _ f1.out).mono ?_;rintro e w4 ⟨rfl,b0⟩;have g6:=zh b0;have h4:Hid (w4.cell? ⟨F,0,none⟩=some (.pointer (some ⟨c.gb,0,none⟩))/\w4.cell? ⟨x,3,none⟩=some (.string (bs md))/\w4.cell? ⟨x,4,none⟩=some (.string (bs nm))):=i3.out _ _ b0.1 b0.2.1;clear b0))
     go_wp2_with fail
     go_ret
     refine d8.out _ _ ?_
     rw[a8.out]
     exact⟨rfl,g6.out⟩
    |stop way s2 =>
     rw[Z]at a6 a8
     clear Z b1
     go_wp2_with fail
     go_region_held (fun w'=>w'.cell? ⟨F,0,none⟩=some (.pointer (some ⟨c.gb,0,none⟩))/\w'.cell? ⟨x,3,none⟩=some (.string (bs md))/\w'.cell? ⟨x,4,none⟩=some (.string (bs nm))) (with_reducible (first|exact hF.out.elim|exact d7.out)) (first|(go_at_call 198;refine(d2.out wr.drew rfl).mono ?_;rintro e B ⟨rfl,rfl⟩)|(go_at_call 56;refine jM (.int .i64 0) (a6.out _ f1.out) ?hT ?_;(case hT=>(rintro e B ⟨⟨older,rfl⟩,I,E⟩;refine⟨rfl,d8.out _ _ ?_⟩;rw[a8.out];exact⟨⟨older,rfl⟩,I,E⟩));intro hF))
     exact hF.out.elim
theorem value_app {c:Cx}{g:Nat}(z:CxOk c)(u:∀n,n<g->EvC c n)(r:CallC c g){k:Nat}{lo:Lo}{own:Own}{names:List Bs}{x:Nat}{w:World}{s:Rs}{p pos n:Nat}{ob:Option Nat}{md nm j:Bs}{f ri b:List X}(i:Ex c lo names [⟨6,pos,n,md,nm,j,f,ri,b⟩] x)(h:GS c w s k)(t:Sc c w p ob lo own names s.left)(a:Tp.evX (g+1) k lo.m.name own [⟨6,pos,n,md,nm,j,f,ri,b⟩] s≠.gas) :
  Calls Tryz.prog 150 #[.pointer (some ⟨p,0,none⟩),.pointer (some ⟨x,0,none⟩)] w (EvP c k w s (Tp.evX (g+1) k lo.m.name own [⟨6,pos,n,md,nm,j,f,ri,b⟩] s)):=by
 rw[evX_app]at a ⊢
 have q:=zh (apply_all z u r i h t rfl a)
 obtain⟨J,H,rs,I,E,A,_⟩:=i.blk
 have d:=(h.st x E).trans A
 have F:=zf d
 have G:w.cell? ⟨x,0,none⟩=some (.int .i64 6):=(za d).trans rfl
 generalize appR g k (if md=[] then lo.m.name else md) nm (Tp.evs g k lo.m.name own b s)=res at *
 clear A d h t i u r
 cases res with
 |gas=>exact absurd rfl a
 |stop way s' =>
  clear a
  go_enter Tryz.func150,Tryz.ntmps150
  go_wp2_with fail
  refine q.out.mono ?_
  rintro e w2⟨⟨older,rfl⟩,l,o⟩
  have C:=zh l
  have B:=zh o
  clear l o
  go_wp2_with fail
  exact⟨rfl,⟨older,rfl⟩,C.out,B.out⟩
 |z v s' =>
  clear a
  go_enter Tryz.func150,Tryz.ntmps150
  go_wp2_with fail
  refine q.out.mono ?_
  rintro e w2⟨rfl,y⟩
  have D:=zh y
  clear y
  go_wp2_with fail
  go_ret
  exact⟨rfl,D.out⟩
theorem ev_all {c:Cx}{g:Nat}(d:CxOk c)(f:∀n,n<g+1->EvC c n)(m:CallC c g):EvC c (g+1):=by
 intro k lo own names l x w s r ob a h e b
 have j:l.length=1:=by have:=RepL.len l _ a.rep;simpa using this.symm
 obtain⟨y,rfl⟩:=Tp.len1 j
 obtain⟨code,pos,n,md,nm,p,o,ri,t⟩:=y
 have i:=a.wx
 rw[Tp.WX]at i
 rcases i.1 with q|q|q|q|q|q
 ·obtain⟨rfl,_⟩:=q;exact value_num a h
 ·obtain⟨rfl,_⟩:=q;exact value_var d a h e
 ·obtain⟨rfl,_⟩:=q;exact value_item d (f g (by omega)) a h e b
 ·obtain⟨rfl,_⟩:=q;exact value_un d (f g (by omega)) a h e b
 ·obtain⟨rfl,_⟩:=q;exact value_bin d (f g (by omega)) a h e b
 ·obtain⟨rfl,_⟩:=q;exact value_app d (fun n b=>f n (by omega)) m a h e b
theorem ev_zero (c:Cx):EvC c 0:=by
 intro k lo own names l x w s b ob _ _ _ a
 exact absurd (by rw[Tp.evX];rfl) a
structure StAt (c:Cx) (x:S) (b o:Nat):Prop where
 d:c.D b
 r:∃(tv ev:Value) (ls vs tcs ecs:List Value),c.w0.cell? ⟨b,o,none⟩=some (.int .i64 (x.code:Int))/\c.w0.cell? ⟨b,o+2,none⟩=some (.string (bs x.name))/\c.w0.cell? ⟨b,o+3,none⟩=some (ls.headD (.pointer none))/\c.w0.cell? ⟨b,o+4,none⟩=some (vs.headD (.pointer none))/\c.w0.cell? ⟨b,o+5,none⟩=some tv/\c.w0.cell? ⟨b,o+6,none⟩=some ev /\
  RepL c.w0 c.D x.index ls/\ls.length<=1/\RepL c.w0 c.D x.value vs/\vs.length<=1/\RepS c.w0 c.D x.thn tcs/\OwnS c.w0 c.D tv x.thn.length tcs/\RepS c.w0 c.D x.els ecs/\OwnS c.w0 c.D ev x.els.length ecs
def updO (own:Own) (nm:Bs) (v:Int):Own:=fun q=>if q=nm then some v else own q
theorem Sc.store {c:Cx}{w:World}{s:Rs}{k j ob:Nat}{lo:Lo}{own:Own}{names:List Bs}{left:Nat}(h:GS c w s k)(G:CxOk c)(d:Sc c w j (some ob) lo own names (left+1))(nm:Bs)(D:nm.length<=1000000)(p:nm∈names)(v:Int)(B:Tp.I64 v) :
  ∃w',(Instr.mapUpdate 96 (.map (some ob)) (.string (bs nm)) (.int .i64 v)).run Tryz.prog w=.ok () w'/\GS c w' s k/\Kp c (oY (some ob)) w w'/\Sc c w' j (some ob) lo (updO own nm v) names left:=by
 obtain⟨y,m,l,n,H,F⟩:=d.om
 obtain⟨w',A,E,a,I⟩:=F.store (t:=96) Tryz.underlying96 (by omega) nm D (.int .i64 v)
 have r:=zf d.blk
 have x:=h.lt
 have g:w'.heap[c.gb]?=w.heap[c.gb]?:=a.block _ x (by omega)
 refine⟨w',A,h.on G g (fun b f o=>a.block b f (fun e=>?_)),⟨a.os,a.tape,a.output,a.size,fun b f _ _ _ C=>a.block b f (fun e=>C (by rw[e];rfl)),fun b f=>Or.inl ((yr g b).1 f)⟩,⟨d.hi,fun q=>d.no ((yr g _).1 q),(a.block j r (fun e=>m e.symm)).trans d.blk,⟨y,m,fun q=>l ((yr g _).1 q),n+1,by omega,?_⟩,fun q u i=>?_,fun q=>?_,d.mem⟩⟩
 ·rcases o with z|z
  ·omega
  ·exact l (e ▸ z)
 ·have e:updV (fun k=>(own k).map fun v=>.int .i64 v) nm (.int .i64 v)=fun k=>(updO own nm v k).map fun v=>.int .i64 v:=by
   funext q
   unfold updV updO
   by_cases e:q=nm
   ·rw[if_pos e,if_pos e];rfl
   ·rw[if_neg e,if_neg e]
  rw[<-e]
  exact E
 ·unfold updO at i
  split at i
  ·cases i;exact B
  ·exact d.i64 q u i
 ·unfold updO
  by_cases e:q=nm
  ·rw[if_pos e];simp[e,p]
  ·rw[if_neg e];exact d.dom q
def CellS (c:Cx) (b o:Nat) (nm:Bs) (iv:Value) (z:Nat):Prop:=∀W s' k',GS c W s' k'->b<W.heap.size/\W.cell? ⟨b,o+2,none⟩=some (.string (bs nm))/\W.cell? ⟨b,o+3,none⟩=some iv/\W.cell? ⟨b,o+4,none⟩=some (.pointer (some ⟨z,0,none⟩))
theorem set_own {c:Cx}(H:CxOk c){k:Nat}{lo:Lo}{own:Own}{names:List Bs}{w:World}{s:Rs}{d b o z ob:Nat}{nm:Bs}{rr:Rs->Rr Int}(h:GS c w s k)(U:Sc c w d (some ob) lo own names (s.left+1))(I:CellS c b o nm (.pointer none) z)(T:nm.length<=1000000)(K:nm∈names)(R:RightC c k w s d z rr)
  {m:Rr (Own×Option Int)}(f:m=match rr s with | .ok v s'=>.ok (updO own nm v,none) s' | .stop way s'=>.stop way s' | .gas=>.gas)(B:m≠.gas) :
  Calls Tryz.prog 149 #[.pointer (some ⟨d,0,none⟩),.pointer (some ⟨b,o,none⟩)] w (GoP c k d (some ob) lo names w s m):=by
 obtain⟨b4,k2,k3,k4⟩:=I w s k h
 have b3:=h.lt
 have u:rr s≠.gas:=fun e=>B (by rw[f,e])
 have A:=zh (R w s h (Kp.refl _ _ _) zn u)
 have HX:=zh I
 have a5:=zh U
 have j:=zh H
 clear I U H h R
 cases r:rr s with
 |gas=>exact absurd r u
 |stop way s' =>
  rw[r]at A f
  have E:Hid (∀e W,thrE endT (way:Int) e->(∃k',GS c W s' k')->Kp c nY w W->GoP c k d (some ob) lo names w s m e W):=fun e W G F D=>by rw[f];exact⟨G,F,D.wide⟩
  clear f B u r
  go_enter Tryz.func149,Tryz.ntmps149
  go_wp2_with fail
  refine A.out.mono ?_
  rintro e w2⟨⟨older,rfl⟩,i,l⟩
  have p:=zh i
  have C:=zh l
  clear i l
  go_wp2_with fail
  exact⟨rfl,E.out _ _ ⟨older,rfl⟩ p.out C.out⟩
 | H v s' =>
  rw[r]at A f
  have E:Hid (∀W,GS c W s' k->Kp c (oY (some ob)) w W->s'.left<=s.left->Sc c W d (some ob) lo (updO own nm v) names s'.left->GoP c k d (some ob) lo names w s m (.returned (.tuple #[])) W):=fun W G F D a4=>by rw[f];exact⟨rfl,G,F,D,a4⟩
  clear f B u r
  go_enter Tryz.func149,Tryz.ntmps149
  go_wp2_with fail
  refine A.out.mono ?_
  rintro e w2⟨rfl,i,l,M,P⟩
  obtain⟨Y,V,_,_⟩:=HX.out w2 s' k i
  have g:=a5.out.kp (left':=s'.left+1) l j.out.Vlt (by omega)
  have S:w2.cell? ⟨d,2,none⟩=some (.map (some ob)):=(za g.blk).trans rfl
  have a7:=zf g.blk
  obtain⟨ov,N⟩:=Option.isSome_iff_exists.1 ((g.dom nm).2 K)
  have a6:∀n,(Instr.lookup 96 (.map (some ob)) (.string (bs nm)) true).run Tryz.prog (w2.drewN n)=.ok (.tuple #[.int .i64 ov,.bool true]) (w2.drewN n):=fun n=>by
   rw[g.look nm T (w2.drewN n) (fun _=>rfl),N];rfl
  have X:=zh g
  have p:=zh i
  have C:=zh l
  have b1:=zh M
  have a8:=zh P
  clear g i l M P N k2 k3 k4
  go_wp2_with fail
  go_quiet (fail)
  obtain⟨a,t⟩:∃a,a=w2.drewN nq:=⟨_,rfl⟩
  have q:a.heap=w2.heap:=by rw[t];rfl
  have y:Below w2.heap.size w2 a:=by rw[t];exact below_drewN (Below.refl _ _) _
  rw[<-t]
  clear t
  have x:=p.out.below j.out y
  have J:=X.out.below j.out y p.out.lt
  have a9:Below a.heap.size a a.drew:=(Below.refl _ _).drew
  obtain⟨w4,b2,O,L,Q⟩:=Sc.store (left:=s'.left) (x.drew j.out) j.out (J.drew j.out x.lt) nm T K v a8.out
  have r2:a.cell? ⟨b,o+2,none⟩=some (.string (bs nm)):=(zC q _).trans V
  have rs:a.cell? ⟨d,2,none⟩=some (.map (some ob)):=(zC q _).trans S
  have rb:b<a.heap.size:=by rw[q];exact Y
  have rl:d<a.heap.size:=by rw[q];exact a7
  have a0:=zh O
  have b0:=zh Q
  have Z:Hid (Kp c (oY (some ob)) w w4):=(C.out.wide.trans (Kp.below y p.out.lt)).trans ((Kp.drew c _ x.lt).trans L)
  clear x J O L Q y a9 q a6 V S
  go_wp2_with fail
  go_region
  all_goals go_wp2_with fail
  all_goals exact bodyPost_ret (results_none rfl _ _ _) rfl (E.out _ a0.out Z.out b1.out b0.out)
def setS (s:Rs) (md nm:Bs) (l:List Int):Rs:={ s with w:=setP md nm l s.w }
theorem set_tail {c:Cx}(h:CxOk c){k:Nat}{lo:Lo}{own:Own}{names:List Bs}{w W:World}{s a:Rs}{r:Nat}{ob:Option Nat}{nm:Bs}{g:G}(f:Sc c w r ob lo own names (s.left+1))(D:Tp.varOf lo.m nm=some g)(e:GS c W a k)(L:Kp c nY w W)(C:a.left<=s.left) :
  ∃p,Tp.partOf a.w lo.m.name=some p/\(p.vars nm).length=vlen g/\vlen g<=1000/\∀(j:Nat) (v:Int),j<vlen g->Tp.I64 v->(∃old,W.cell? ⟨lo.sl nm,j,none⟩=some old)/\W.frozen? ⟨lo.sl nm,j,none⟩=false/\lo.sl nm<W.heap.size /\
   ∀b,Below W.heap.size W b->GS c (b.setCell ⟨lo.sl nm,j,none⟩ (.int .i64 v)) (setS a lo.m.name nm ((p.vars nm).set j v)) k/\Kp c (oY ob) w (b.setCell ⟨lo.sl nm,j,none⟩ (.int .i64 v))/\(setS a lo.m.name nm ((p.vars nm).set j v)).left<=s.left/\Sc c (b.setCell ⟨lo.sl nm,j,none⟩ (.int .i64 v)) r ob lo own names (setS a lo.m.name nm ((p.vars nm).set j v)).left:=by
 obtain⟨p,l,H,I,N,F,t,u⟩:=e.val h f.mem D
 refine⟨p,l,H,F,fun j v E B=>?_⟩
 obtain⟨q,d,M,K⟩:=e.vals lo f.mem
 have J:q=p:=by rw[l]at d;injection d with d;exact d.symm
 subst J
 have i:=(K g t).2.1
 rw[u]at i
 refine⟨⟨_,by rw[I j,List.getElem?_eq_getElem (by omega)];rfl⟩,zi i,zf i,fun b n=>?_⟩
 have z:=e.below h n
 have A:=L.trans (Kp.below n e.lt)
 obtain⟨y,x⟩:=z.setv h f.mem t l E B
 rw[u]at y x
 have o:=A.trans x
 exact⟨y,o.wide,C,f.kp o h.Vlt (by show a.left<=_;omega)⟩
theorem set_var {c:Cx}(M:CxOk c){k:Nat}{lo:Lo}{own:Own}{names:List Bs}{w:World}{s:Rs}{f b o z:Nat}{ob:Option Nat}{nm:Bs}{g:G}{rr:Rs->Rr Int}(h:GS c w s k)(hs:Sc c w f ob lo own names (s.left+1))(N:CellS c b o nm (.pointer none) z)(Z:nm.length<=1000000)(b2:nm ∉ names)(Y:Tp.varOf lo.m nm=some g)(b3:g.len=0)(hR:RightC c k w s f z rr)
  {t:Rr (Own×Option Int)}(l:t=match rr s with | .ok v s'=>.ok (own,none) (setS s' lo.m.name nm [v]) | .stop way s'=>.stop way s' | .gas=>.gas)(F:t≠.gas) :
  Calls Tryz.prog 149 #[.pointer (some ⟨f,0,none⟩),.pointer (some ⟨b,o,none⟩)] w (GoP c k f ob lo names w s t):=by
 obtain⟨c0,k2,k3,k4⟩:=N w s k h
 have b7:=h.lt
 have C:rr s≠.gas:=fun e=>F (by rw[l,e])
 have D:=zh (hR w s h (Kp.refl _ _ _) zn C)
 have HX:=zh N
 have B:=zh hs
 have y:=zh M
 have V:=zh Y
 have S:vlen g=1:=by unfold vlen;rw[if_pos b3]
 clear N hs M h hR Y
 cases x:rr s with
 |gas=>exact absurd x C
 |stop way s' =>
  rw[x]at D l
  have L:Hid (∀e W,thrE endT (way:Int) e->(∃k',GS c W s' k')->Kp c nY w W->GoP c k f ob lo names w s t e W):=fun e W P O H=>by rw[l];exact⟨P,O,H.wide⟩
  clear l F C x
  go_enter Tryz.func149,Tryz.ntmps149
  go_wp2_with fail
  refine D.out.mono ?_
  rintro e w2⟨⟨older,rfl⟩,j,r⟩
  have b4:=zh j
  have a9:=zh r
  clear j r
  go_wp2_with fail
  exact⟨rfl,L.out _ _ ⟨older,rfl⟩ b4.out a9.out⟩
 | M v s' =>
  rw[x]at D l
  have L:Hid (∀W,GS c W (setS s' lo.m.name nm [v]) k->Kp c (oY ob) w W->(setS s' lo.m.name nm [v]).left<=s.left->Sc c W f ob lo own names (setS s' lo.m.name nm [v]).left->GoP c k f ob lo names w s t (.returned (.tuple #[])) W):=fun W P O H a4=>by rw[l];exact⟨rfl,P,O,H,a4⟩
  clear l F C x
  go_enter Tryz.func149,Tryz.ntmps149
  go_wp2_with fail
  refine D.out.mono ?_
  rintro e w2⟨rfl,j,r,X,T⟩
  obtain⟨a0,j2,_,_⟩:=HX.out w2 s' k j
  have q:=B.out.kp (left':=s'.left+1) r y.out.Vlt (by omega)
  have ks:w2.cell? ⟨f,2,none⟩=some (.map ob):=(za q.blk).trans rfl
  have ki:w2.cell? ⟨f,1,none⟩=some (.pointer (some ⟨lo.lb,0,none⟩)):=(za q.blk).trans rfl
  have b5:=zf q.blk
  have U:own nm=none:=by
   cases ho:own nm with
   |none=>rfl
   |some u=>exact absurd ((q.dom nm).1 (by rw[ho];rfl)) b2
  have a6:∀n,(Instr.lookup 96 (.map ob) (.string (bs nm)) true).run Tryz.prog (w2.drewN n)=.ok (.tuple #[.int .i64 0,.bool false]) (w2.drewN n):=fun n=>by
   rw[q.look nm Z (w2.drewN n) (fun _=>rfl),U];rfl
  obtain⟨ia,ga,pa,ba,ic,gc,pc,bc,J,_⟩:=j.loB y.out B.out.mem
  have kl:w2.cell? ⟨lo.lb,5,none⟩=some (.map (some lo.vb)):=(za J).trans rfl
  have a7:=zf J
  obtain⟨p,p1,K,p3,Q⟩:=set_tail y.out B.out V.out j r X
  obtain⟨⟨b0,t1⟩,t2,t3,I⟩:=Q 0 v (vlen_pos g) T
  have R:(p.vars nm).set 0 v=[v]:=by
   rw[S]at K
   obtain⟨a,ha⟩:=Tp.len1 K
   rw[ha];rfl
  rw[R]at I
  have b6:=zh I
  have a5:Hid (∀W:World,W.heap=w2.heap->(Instr.lookup 105 (.map (some lo.vb)) (.string (bs nm)) false).run Tryz.prog W=.ok (.slice (some ⟨lo.sl nm,0,none⟩) 1 1) W):=fun W hW=>by
   have:=j.lookV y.out B.out.mem V.out Z W (fun _=>by rw[hW])
   rw[S]at this
   exact this
  clear q j r X T U k2 k3 k4 J Q I p1 K p3 R
  go_wp2_with fail
  go_quiet (fail)
  obtain⟨d,A⟩:∃d,d=w2.drewN nq:=⟨_,rfl⟩
  have i:d.heap=w2.heap:=by rw[A];rfl
  have a8:Hid (Below w2.heap.size w2 d):=by rw[A];exact below_drewN (Below.refl _ _) _
  rw[<-A]
  clear A
  have r2:d.cell? ⟨b,o+2,none⟩=some (.string (bs nm)):=(zC i _).trans j2
  have ri:d.cell? ⟨f,1,none⟩=some (.pointer (some ⟨lo.lb,0,none⟩)):=(zC i _).trans ki
  have rk:d.cell? ⟨lo.lb,5,none⟩=some (.map (some lo.vb)):=(zC i _).trans kl
  have rb:b<d.heap.size:=by rw[i];exact a0
  have rl:f<d.heap.size:=by rw[i];exact b5
  have b9:lo.lb<d.heap.size:=by rw[i];exact a7
  have rt:d.cell? ⟨lo.sl nm,0,none⟩=some b0:=(zC i _).trans t1
  have rf:d.frozen? ⟨lo.sl nm,0,none⟩=false:=(World.frozen?_of_block (w:=w2) (by rw[i])).trans t2
  have b8:lo.sl nm<d.heap.size:=by rw[i];exact t3
  have c1:∀n,(Instr.lookup 105 (.map (some lo.vb)) (.string (bs nm)) false).run Tryz.prog (d.drewN n)=.ok (.slice (some ⟨lo.sl nm,0,none⟩) 1 1) (d.drewN n):=fun n=>a5.out (d.drewN n) i
  clear i a6 j2 ks ki kl t1 t2 t3
  go_wp2_with fail
  go_quiet (fail)
  go_wp2_with fail
  refine(kU _ 1 1 0 (by omega) (by omega) (by omega) _).mono ?_
  rintro e w4⟨rfl,rfl⟩
  go_wp2_with fail
  have E:=zh (b6.out _ (below_drewN a8.out nq))
  exact bodyPost_end (results_none rfl _ _ _) rfl (L.out _ E.out.1 E.out.2.1 E.out.2.2.1 E.out.2.2.2)
end Go.Proofs.YtibncofnnlbmcaaGreatDoor
