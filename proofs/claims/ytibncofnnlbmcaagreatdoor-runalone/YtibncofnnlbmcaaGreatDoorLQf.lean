import Derived.Test.YtibncofnnlbmcaaGreatDoorLQe
set_option maxRecDepth 100000
set_option maxHeartbeats 4000000
namespace Go.Proofs.YtibncofnnlbmcaaGreatDoor
open Go.RowKit Go.Maps
open Tp (Bs X S G Pr Pt Rs Rr Own)
def itemSet (own:Own) (md nm:Bs) (l:List Int) (i v:Int) (s:Rs):Rr (Own×Option Int):=if 0<=i/\i<l.length then .ok (own,none) (setS s md nm (l.set i.toNat v)) else .stop Tp.bounds s
def itemR2 (own:Own) (md nm:Bs) (i v:Int) (s:Rs):Rr (Own×Option Int):=itemSet own md nm (((Tp.partOf s.w md).map fun p=>p.vars nm).getD []) i v s
theorem set_item {c:Cx}(U:CxOk c){k:Nat}{lo:Lo}{own:Own}{names:List Bs}{w:World}{s:Rs}{f b o y z:Nat}{ob:Option Nat}{nm:Bs}{g:G}{ri rr:Rs->Rr Int}(h:GS c w s k)(hs:Sc c w f ob lo own names (s.left+1))(hX:CellS c b o nm (.pointer (some ⟨y,0,none⟩)) z)(hn:nm.length<=1000000)(c8:nm ∉ names)(hg:Tp.varOf lo.m nm=some g)(hI:RightC c k w s f y ri)(hR:RightC c k w s f z rr)
  {A:Rr (Own×Option Int)}(q:A=match ri s with
   | .ok i s'=>(match rr s' with | .ok v s2=>itemR2 own lo.m.name nm i v s2 | .stop way s2=>.stop way s2 | .gas=>.gas)
   | .stop way s'=>.stop way s'
   | .gas=>.gas)(I:A≠.gas) :
  Calls Tryz.prog 149 #[.pointer (some ⟨f,0,none⟩),.pointer (some ⟨b,o,none⟩)] w (GoP c k f ob lo names w s A):=by
 obtain⟨e1,k2,k3,k4⟩:=hX w s k h
 have d8:=h.lt
 have L:ri s≠.gas:=fun e=>I (by rw[q,e])
 have O:=zh (hI w s h (Kp.refl _ _ _) zn L)
 have HX:=zh hX
 have Q:=zh hs
 have K:=zh U
 have c4:=zh hg
 have c1:=zh hR
 clear hX hs U h hR hg hI
 cases H:ri s with
 |gas=>exact absurd H L
 |stop way s' =>
  rw[H]at O q
  have D:Hid (∀e W,thrE endT (way:Int) e->(∃k',GS c W s' k')->Kp c nY w W->GoP c k f ob lo names w s A e W):=fun e W E P N=>by rw[q];exact⟨E,P,N.wide⟩
  clear q I L H
  go_enter Tryz.func149,Tryz.ntmps149
  go_wp2_with fail
  refine O.out.mono ?_
  rintro e w2⟨⟨older,rfl⟩,l,r⟩
  have d1:=zh l
  have b0:=zh r
  clear l r
  go_wp2_with fail
  exact⟨rfl,D.out _ _ ⟨older,rfl⟩ d1.out b0.out⟩
 | U i s1 =>
  rw[H]at O q
  simp only at q
  cases C:rr s1 with
  |gas=>rw[C]at q;exact absurd q I
  |stop way s' =>
   rw[C]at q
   have D:Hid (∀e W,thrE endT (way:Int) e->(∃k',GS c W s' k')->Kp c nY w W->GoP c k f ob lo names w s A e W):=fun e W E P N=>by rw[q];exact⟨E,P,N.wide⟩
   have J:Hid (rr s1=.stop way s'):=C
   clear q I L H C
   go_enter Tryz.func149,Tryz.ntmps149
   go_wp2_with fail
   refine O.out.mono ?_
   rintro e w2⟨rfl,l,r,F,_⟩
   obtain⟨a5,_,_,j4⟩:=HX.out w2 s1 k l
   have M:=zh (c1.out w2 s1 l r F (by rw[J.out];simp))
   rw[J.out]at M
   have b0:=zh r
   clear l r F k2 k3 k4
   go_wp2_with fail
   refine M.out.mono ?_
   rintro e a⟨⟨older,rfl⟩,c2,c3⟩
   have d0:=zh c2
   have c9:=zh c3
   clear c2 c3
   go_wp2_with fail
   exact⟨rfl,D.out _ _ ⟨older,rfl⟩ d0.out (b0.out.trans c9.out)⟩
  | U v s' =>
   rw[C]at q
   have b7:A=itemR2 own lo.m.name nm i v s':=q
   have a7:=zh b7
   have J:Hid (rr s1=.ok v s'):=C
   clear q b7 I L H C
   go_enter Tryz.func149,Tryz.ntmps149
   go_wp2_with fail
   refine O.out.mono ?_
   rintro e w1⟨rfl,b5,b4,b6,_⟩
   obtain⟨d7,_,_,j4⟩:=HX.out w1 s1 k b5
   have M:=zh (c1.out w1 s1 b5 b4 b6 (by rw[J.out];simp))
   rw[J.out]at M
   have c7:=zh b4
   have d4:=zh b6
   clear b5 b4 b6 k2 k3 k4
   go_wp2_with fail
   refine M.out.mono ?_
   rintro e w2⟨rfl,l,a8,a6,b2⟩
   have r:=c7.out.trans a8
   have F:=Nat.le_trans a6 d4.out
   obtain⟨a5,T,_,_⟩:=HX.out w2 s' k l
   have B:=Q.out.kp (left':=s'.left+1) r K.out.Vlt (by omega)
   have ks:w2.cell? ⟨f,2,none⟩=some (.map ob):=(za B.blk).trans rfl
   have V:w2.cell? ⟨f,1,none⟩=some (.pointer (some ⟨lo.lb,0,none⟩)):=(za B.blk).trans rfl
   have c5:=zf B.blk
   have b3:own nm=none:=by
    cases ho:own nm with
    |none=>rfl
    |some u=>exact absurd ((B.dom nm).1 (by rw[ho];rfl)) c8
   have c0:∀n,(Instr.lookup 96 (.map ob) (.string (bs nm)) true).run Tryz.prog (w2.drewN n)=.ok (.tuple #[.int .i64 0,.bool false]) (w2.drewN n):=fun n=>by
    rw[B.look nm hn (w2.drewN n) (fun _=>rfl),b3];rfl
   obtain⟨ia,ga,pa,ba,ic,gc,pc,bc,S,_⟩:=l.loB K.out Q.out.mem
   have R:w2.cell? ⟨lo.lb,5,none⟩=some (.map (some lo.vb)):=(za S).trans rfl
   have b9:=zf S
   obtain⟨p,p1,p2,Y,a0⟩:=set_tail K.out Q.out c4.out l r F
   have t:A=itemSet own lo.m.name nm (p.vars nm) i v s':=by rw[a7.out];unfold itemR2;rw[p1];rfl
   unfold itemSet at t
   rw[p2]at t
   have b8:Hid (∀W:World,W.heap=w2.heap->(Instr.lookup 105 (.map (some lo.vb)) (.string (bs nm)) false).run Tryz.prog W=.ok (.slice (some ⟨lo.sl nm,0,none⟩) (vlen g) (vlen g)) W):=fun W hW=>l.lookV K.out Q.out.mem c4.out hn W (fun _=>by rw[hW])
   by_cases Z:0<=i/\i<(vlen g:Int)
   ·rw[if_pos Z]at t
    obtain⟨j,rfl⟩:∃j:Nat,i=(j:Int):=⟨i.toNat,by omega⟩
    have hj:j<vlen g:=by omega
    rw[Int.toNat_natCast]at t
    obtain⟨⟨c6,t1⟩,t2,t3,t4⟩:=a0 j v hj b2
    have D:Hid (∀W,GS c W (setS s' lo.m.name nm ((p.vars nm).set j v)) k->Kp c (oY ob) w W->(setS s' lo.m.name nm ((p.vars nm).set j v)).left<=s.left->Sc c W f ob lo own names (setS s' lo.m.name nm ((p.vars nm).set j v)).left->GoP c k f ob lo names w s A (.returned (.tuple #[])) W):=fun W E P N a4=>by rw[t];exact⟨rfl,E,P,N,a4⟩
    have d5:=zh t4
    have HW:Hid (∀W:World,Calls Tryz.prog 171 #[.slice (some ⟨lo.sl nm,0,none⟩) (vlen g) (vlen g),.int .i64 (j:Int)] W fun e w'=>e=.returned (.int .i64 (j:Int))/\w'=W):=fun W=>kU _ _ _ (j:Int) (by omega) (by omega) Y W
    have e0:(j:Int)<(vlen g:Int):=by omega
    have d6:(vlen g:Int)<=1000:=by omega
    clear B l r F b2 b3 S a0 t4 p1 p2 Y t a7 a8 a6 Z
    generalize vlen g=vg at *
    go_wp2_with fail
    go_quiet (fail)
    obtain⟨a,x⟩:∃a,a=w2.drewN nq:=⟨_,rfl⟩
    have d:a.heap=w2.heap:=by rw[x];rfl
    have a9:Hid (Below w2.heap.size w2 a):=by rw[x];exact below_drewN (Below.refl _ _) _
    rw[<-x]
    clear x
    have r2:a.cell? ⟨b,o+2,none⟩=some (.string (bs nm)):=(zC d _).trans T
    have ri:a.cell? ⟨f,1,none⟩=some (.pointer (some ⟨lo.lb,0,none⟩)):=(zC d _).trans V
    have rk:a.cell? ⟨lo.lb,5,none⟩=some (.map (some lo.vb)):=(zC d _).trans R
    have rb:b<a.heap.size:=by rw[d];exact a5
    have rl:f<a.heap.size:=by rw[d];exact c5
    have d2:lo.lb<a.heap.size:=by rw[d];exact b9
    have rt:a.cell? ⟨lo.sl nm,j,none⟩=some c6:=(zC d _).trans t1
    have rf:a.frozen? ⟨lo.sl nm,j,none⟩=false:=(World.frozen?_of_block (w:=w2) (by rw[d])).trans t2
    have d9:lo.sl nm<a.heap.size:=by rw[d];exact t3
    have d3:∀n,(Instr.lookup 105 (.map (some lo.vb)) (.string (bs nm)) false).run Tryz.prog (a.drewN n)=.ok (.slice (some ⟨lo.sl nm,0,none⟩) vg vg) (a.drewN n):=fun n=>b8.out (a.drewN n) d
    clear d c0 T ks V R t1 t2 t3
    go_wp2_with fail
    go_quiet (fail)
    go_wp2_with fail
    refine(HW.out _).mono ?_
    rintro e w4⟨rfl,rfl⟩
    go_wp2_with fail
    have X:=zh (d5.out _ (below_drewN a9.out nq))
    exact bodyPost_end (results_none rfl _ _ _) rfl (D.out _ X.out.1 X.out.2.1 X.out.2.2.1 X.out.2.2.2)
   ·rw[if_neg Z]at t
    have D:Hid (∀e W,thrE endT (Tp.bounds:Int) e->Below w2.heap.size w2 W->GoP c k f ob lo names w s A e W):=fun e W E hW=>by rw[t];exact⟨E,⟨k,l.below K.out hW⟩,(r.trans (Kp.below hW l.lt)).wide⟩
    have HW:Hid (∀W:World,Calls Tryz.prog 171 #[.slice (some ⟨lo.sl nm,0,none⟩) (vlen g) (vlen g),.int .i64 i] W fun e w'=>thrE endT (Tp.bounds:Int) e/\w'=W):=fun W=>ju _ _ _ i (by omega) Y W
    clear B l r F b2 b3 S a0 p1 p2 Y t a7 a8 a6 Z
    generalize vlen g=vg at *
    go_wp2_with fail
    go_quiet (fail)
    obtain⟨a,x⟩:∃a,a=w2.drewN nq:=⟨_,rfl⟩
    have d:a.heap=w2.heap:=by rw[x];rfl
    have a9:Hid (Below w2.heap.size w2 a):=by rw[x];exact below_drewN (Below.refl _ _) _
    rw[<-x]
    clear x
    have r2:a.cell? ⟨b,o+2,none⟩=some (.string (bs nm)):=(zC d _).trans T
    have ri:a.cell? ⟨f,1,none⟩=some (.pointer (some ⟨lo.lb,0,none⟩)):=(zC d _).trans V
    have rk:a.cell? ⟨lo.lb,5,none⟩=some (.map (some lo.vb)):=(zC d _).trans R
    have rb:b<a.heap.size:=by rw[d];exact a5
    have rl:f<a.heap.size:=by rw[d];exact c5
    have d2:lo.lb<a.heap.size:=by rw[d];exact b9
    have d3:∀n,(Instr.lookup 105 (.map (some lo.vb)) (.string (bs nm)) false).run Tryz.prog (a.drewN n)=.ok (.slice (some ⟨lo.sl nm,0,none⟩) vg vg) (a.drewN n):=fun n=>b8.out (a.drewN n) d
    clear d c0 T ks V R
    go_wp2_with fail
    go_quiet (fail)
    go_wp2_with fail
    refine(HW.out _).mono ?_
    rintro e w4⟨⟨older,rfl⟩,rfl⟩
    go_wp2_with fail
    exact⟨rfl,D.out _ _ ⟨older,rfl⟩ (below_drewN a9.out _)⟩
theorem GoP.up {c:Cx}{k d:Nat}{ob:Option Nat}{lo:Lo}{names:List Bs}{w W w':World}{s b:Rs}{r:Rr (Own×Option Int)}{e:Ending}(h:GoP c k d ob lo names W b r e w')(a:Kp c (oY ob) w W)(f:b.left<=s.left):GoP c k d ob lo names w s r e w':=by
 cases r with
 |ok v s2 =>
  obtain⟨o,u⟩:=v
  cases u with
  |none=>exact⟨h.1,h.2.1,a.trans h.2.2.1,Nat.le_trans h.2.2.2.1 f,h.2.2.2.2⟩
  |some u=>exact⟨h.1,h.2.1,a.trans h.2.2.1,Nat.le_trans h.2.2.2.1 f,h.2.2.2.2⟩
 |stop way s2=>exact⟨h.1,h.2.1,a.trans h.2.2⟩
 |gas=>trivial
def Go1C (c:Cx) (g:Nat):Prop:=∀(k:Nat) (lo:Lo) (own:Own) (names:List Bs) (x:S) (b o:Nat) (w:World) (s:Rs) (sb:Nat) (ob:Option Nat),
 StAt c x b o->Tp.WS [x]->(∀r∈Tp.rs [x],Tp.FitR c.ms lo.m names r)->GS c w s k->Sc c w sb ob lo own names (s.left+1)->Tp.go1 g k lo.m.name own x s≠.gas ->
 Calls Tryz.prog 121 #[.pointer (some ⟨sb,0,none⟩),.pointer (some ⟨b,o,none⟩)] w (GoP c k sb ob lo names w s (Tp.go1 g k lo.m.name own x s))
def Cell4 (c:Cx) (b o z:Nat):Prop:=∀W s' k',GS c W s' k'->b<W.heap.size/\W.cell? ⟨b,o+4,none⟩=some (.pointer (some ⟨z,0,none⟩))
theorem ve {c:Cx}{k:Nat}{lo:Lo}{own:Own}{names:List Bs}{w:World}{s:Rs}{i b o z:Nat}{ob:Option Nat}{rr:Rs->Rr Int}(h:GS c w s k)(C:Cell4 c b o z)(J:w.cell? ⟨b,o,none⟩=some (.int .i64 4))(B:RightC c k w s i z rr)
  {g:Rr (Own×Option Int)}(a:g=match rr s with | .ok v s'=>.ok (own,some v) s' | .stop way s'=>.stop way s' | .gas=>.gas)(n:g≠.gas) :
  Calls Tryz.prog 121 #[.pointer (some ⟨i,0,none⟩),.pointer (some ⟨b,o,none⟩)] w (GoP c k i ob lo names w s g):=by
 obtain⟨H,I⟩:=C w s k h
 have l:rr s≠.gas:=fun e=>n (by rw[a,e])
 have m:=zh (B w s h (Kp.refl _ _ _) zn l)
 clear C h B
 cases j:rr s with
 |gas=>exact absurd j l
 |stop way s' =>
  rw[j]at m a
  have t:Hid (∀e W,thrE endT (way:Int) e->(∃k',GS c W s' k')->Kp c nY w W->GoP c k i ob lo names w s g e W):=fun e W x u r=>by rw[a];exact⟨x,u,r.wide⟩
  clear a n l j
  go_enter Tryz.func121,Tryz.ntmps121
  go_wp2_with fail
  refine m.out.mono ?_
  rintro e w2⟨⟨older,rfl⟩,d,f⟩
  have q:=zh d
  have p:=zh f
  clear d f
  go_wp2_with fail
  exact⟨rfl,t.out _ _ ⟨older,rfl⟩ q.out p.out⟩
 |ok v s' =>
  rw[j]at m a
  have t:Hid (∀e W,thrE toldT v e->GS c W s' k->Kp c nY w W->s'.left<=s.left->Tp.I64 v->GoP c k i ob lo names w s g e W):=fun e W x u r F G=>by rw[a];exact⟨x,u,r.wide,F,G⟩
  clear a n l j
  go_enter Tryz.func121,Tryz.ntmps121
  go_wp2_with fail
  refine m.out.mono ?_
  rintro e w2⟨rfl,d,f,y,A⟩
  have q:=zh d
  have p:=zh f
  have E:=zh y
  have D:=zh A
  clear d f y A
  go_wp2_with fail
  exact⟨rfl,t.out _ _ ⟨noP,rfl⟩ q.out p.out E.out D.out⟩
theorem rstmt_call {c:Cx}(x:CxOk c){k:Nat}{lo:Lo}{own:Own}{names:List Bs}{w:World}{s:Rs}{d b o z:Nat}{ob:Option Nat}{rr:Rs->Rr Int}(h:GS c w s k)(B:Sc c w d ob lo own names s.left)(D:Cell4 c b o z)(K:w.cell? ⟨b,o,none⟩=some (.int .i64 6))(A:RightC c k w s d z rr)
  {i:Rr (Own×Option Int)}(a:i=match rr s with | .ok _ s'=>.ok (own,none) s' | .stop way s'=>.stop way s' | .gas=>.gas)(p:i≠.gas) :
  Calls Tryz.prog 121 #[.pointer (some ⟨d,0,none⟩),.pointer (some ⟨b,o,none⟩)] w (GoP c k d ob lo names w s i):=by
 obtain⟨I,J⟩:=D w s k h
 have l:rr s≠.gas:=fun e=>p (by rw[a,e])
 have n:=zh (A w s h (Kp.refl _ _ _) zn l)
 have E:=zh B
 have G:=zh x.Vlt
 clear D h A B x
 cases j:rr s with
 |gas=>exact absurd j l
 |stop way s' =>
  rw[j]at n a
  have t:Hid (∀e W,thrE endT (way:Int) e->(∃k',GS c W s' k')->Kp c nY w W->GoP c k d ob lo names w s i e W):=fun e W H u m=>by rw[a];exact⟨H,u,m.wide⟩
  clear a p l j
  go_enter Tryz.func121,Tryz.ntmps121
  go_wp2_with fail
  refine n.out.mono ?_
  rintro e w2⟨⟨older,rfl⟩,f,g⟩
  have r:=zh f
  have q:=zh g
  clear f g
  go_wp2_with fail
  exact⟨rfl,t.out _ _ ⟨older,rfl⟩ r.out q.out⟩
 |x v s' =>
  rw[j]at n a
  have t:Hid (∀W,GS c W s' k->Kp c nY w W->s'.left<=s.left->GoP c k d ob lo names w s i (.returned (.tuple #[])) W):=fun W u m C=>by rw[a];exact⟨rfl,u,m.wide,C,E.out.kp m G.out C⟩
  clear a p l j
  go_enter Tryz.func121,Tryz.ntmps121
  go_wp2_with fail
  refine n.out.mono ?_
  rintro e w2⟨rfl,f,g,y,_⟩
  have r:=zh f
  have q:=zh g
  have F:=zh y
  clear f g y
  go_wp2_with fail
  exact bodyPost_end (results_none rfl _ _ _) rfl (t.out _ r.out q.out F.out)
theorem uw {c:Cx}(q:CxOk c){k:Nat}{lo:Lo}{own:Own}{names:List Bs}{w:World}{s:Rs}{f b o z:Nat}{ob:Option Nat}{rr:Rs->Rr Int}(h:GS c w s k)(y:Sc c w f ob lo own names s.left)(L:Cell4 c b o z)(k0:w.cell? ⟨b,o,none⟩=some (.int .i64 5))(P:RightC c k w s f z rr)
  {l:Rr (Own×Option Int)}(d:l=match rr s with | .ok v a=>(if a.out.length<200 then .ok (own,none) { a with out:=a.out++[v] } else .stop Tp.full a) | .stop way a=>.stop way a | .gas=>.gas)(D:l≠.gas) :
  Calls Tryz.prog 121 #[.pointer (some ⟨f,0,none⟩),.pointer (some ⟨b,o,none⟩)] w (GoP c k f ob lo names w s l):=by
 obtain⟨a5,k4⟩:=L w s k h
 have O:=h.lt
 have a6:=zf y.blk
 have t:rr s≠.gas:=fun e=>D (by rw[d,e])
 have x:=zh (P w.drew s (h.drew q) (Kp.drew c nY O) zn t)
 have X:=zh y
 have HV:=zh q.Vlt
 have V:=zh q
 have K:=zh (Kp.drew c nY O)
 have H:Hid (w.drew.cell? ⟨f,0,none⟩=some (.pointer (some ⟨c.gb,0,none⟩))/\w.drew.cell? ⟨b,o+4,none⟩=some (.pointer (some ⟨z,0,none⟩))):=⟨(za y.blk).trans rfl,k4⟩
 have I:Hid (∀W a k',GS c W a k'->Kp c nY w W->W.cell? ⟨f,0,none⟩=some (.pointer (some ⟨c.gb,0,none⟩))/\W.cell? ⟨b,o+4,none⟩=some (.pointer (some ⟨z,0,none⟩))):=fun W a k' B j=>⟨(za (y.kp j q.Vlt (Nat.zero_le _)).blk).trans rfl,(L W a k' B).2⟩
 clear L h P y q
 cases n:rr s with
 |gas=>exact absurd n t
 |stop way a =>
  rw[n]at x d
  have A:Hid (∀e W,thrE endT (way:Int) e->(∃k',GS c W a k')->Kp c nY w.drew W->GoP c k f ob lo names w s l e W):=fun e W B j m=>by rw[d];exact⟨B,j,(K.out.trans m).wide⟩
  clear d D t n
  go_enter Tryz.func121,Tryz.ntmps121
  go_wp2_with fail
  go_region_held (fun w'=>w'.cell? ⟨f,0,none⟩=some (.pointer (some ⟨c.gb,0,none⟩))/\w'.cell? ⟨b,o+4,none⟩=some (.pointer (some ⟨z,0,none⟩))) (with_reducible (first|exact p.out.elim|exact H.out)) (first|(go_at_call 150;refine yo x.out ?hT ?_;(case hT=>(rintro e Q ⟨⟨older,rfl⟩,g,i⟩;exact⟨rfl,A.out _ _ ⟨older,rfl⟩ g i⟩));intro p)|(go_at_call 151;refine yo (T:=fun _ _=>False) p.out.elim ?hT2 ?_;(case hT2=>(intro e w h;exact h.elim));intro a0))
  exact p.out.elim
 |q v a =>
  rw[n]at x d
  simp only at d
  by_cases F:a.out.length<200
  ·rw[if_pos F]at d
   have A:Hid (∀W,GS c W { a with out:=a.out++[v] } k->Kp c nY w W->a.left<=s.left->GoP c k f ob lo names w s l (.returned (.tuple #[])) W):=fun W j m R=>by rw[d];exact⟨rfl,j,m.wide,R,X.out.kp m HV.out R⟩
   clear d D t n
   go_enter Tryz.func121,Tryz.ntmps121
   go_wp2_with fail
   go_region_held3 (fun w'=>w'.cell? ⟨f,0,none⟩=some (.pointer (some ⟨c.gb,0,none⟩))/\w'.cell? ⟨b,o+4,none⟩=some (.pointer (some ⟨z,0,none⟩))) (with_reducible (first|exact Z.out|exact J.out|exact H.out)) (first|(go_at_call 150;refine x.out.mono ?_;rintro e Q ⟨rfl,g,i,C,E⟩;have u:=zh g;have r:=zh (K.out.trans i);have U:=zh C;have Y:=zh E;have J:=zh (I.out _ _ _ g r.out);clear g i C E)|(go_at_call 151;refine(rtell_ok u.out V.out v F Y.out).mono ?_;rintro e w4 ⟨rfl,G,N⟩;have S:=zh G;have M:=zh (r.out.trans N);have Z:=zh (I.out _ _ _ G M.out);clear G N))
   go_wp2_with fail
   exact bodyPost_end (results_none rfl _ _ _) rfl (A.out _ S.out M.out U.out)
  ·rw[if_neg F]at d
   have A:Hid (∀e W,thrE endT (Tp.full:Int) e->GS c W a k->Kp c nY w W->GoP c k f ob lo names w s l e W):=fun e W B j m=>by rw[d];exact⟨B,⟨k,j⟩,m.wide⟩
   clear d D t n
   go_enter Tryz.func121,Tryz.ntmps121
   go_wp2_with fail
   go_region_held (fun w'=>w'.cell? ⟨f,0,none⟩=some (.pointer (some ⟨c.gb,0,none⟩))/\w'.cell? ⟨b,o+4,none⟩=some (.pointer (some ⟨z,0,none⟩))) (with_reducible (first|exact p.out.elim|exact J.out|exact H.out)) (first|(go_at_call 150;refine x.out.mono ?_;rintro e Q ⟨rfl,g,i,C,E⟩;have u:=zh g;have r:=zh (K.out.trans i);have J:=zh (I.out _ _ _ g r.out);clear g i C E)|(go_at_call 151;refine yo (rtell_out u.out v (by have:=u.out.ol;omega)) ?hT2 ?_;(case hT2=>(rintro e w4 ⟨⟨older,rfl⟩,rfl⟩;exact⟨rfl,A.out _ _ ⟨older,rfl⟩ u.out r.out⟩));intro p))
   exact p.out.elim
def BlockC (c:Cx) (k:Nat) (w:World) (s:Rs) (sb:Nat) (ob:Option Nat) (lo:Lo) (names:List Bs) (v:Value) (rt:Rs->Rr (Own×Option Int)):Prop:=∀W s',GS c W s' k->Kp c nY w W->s'.left<=s.left->rt s'≠.gas->Calls Tryz.prog 88 #[.pointer (some ⟨sb,0,none⟩),v] W (GoP c k sb ob lo names W s' (rt s'))
theorem rstmt_if {c:Cx}{k:Nat}{lo:Lo}{names:List Bs}{w:World}{s:Rs}{g b o z:Nat}{ob:Option Nat}{ta ea:Option Addr}{tn tc en ec:Nat}{rr:Rs->Rr Int}{rt re:Rs->Rr (Own×Option Int)}(h:GS c w s k)(I:Cell4 c b o z)(N:∀W s' k',GS c W s' k'->W.cell? ⟨b,o+5,none⟩=some (.slice ta tn tc)/\W.cell? ⟨b,o+6,none⟩=some (.slice ea en ec))(Y:w.cell? ⟨b,o,none⟩=some (.int .i64 2))(K:RightC c k w s g z rr)
  (Q:BlockC c k w s g ob lo names (.slice ta tn tc) rt)(P:BlockC c k w s g ob lo names (.slice ea en ec) re)
  {q:Rr (Own×Option Int)}(a:q=match rr s with | .ok v s'=>(if v=0 then re s' else rt s') | .stop way s'=>.stop way s' | .gas=>.gas)(j:q≠.gas) :
  Calls Tryz.prog 121 #[.pointer (some ⟨g,0,none⟩),.pointer (some ⟨b,o,none⟩)] w (GoP c k g ob lo names w s q):=by
 obtain⟨V,X⟩:=I w s k h
 have t:rr s≠.gas:=fun e=>j (by rw[a,e])
 have C:=zh (K w s h (Kp.refl _ _ _) zn t)
 have O:=zh I
 have L:=zh N
 have M:=zh Q
 have J:=zh P
 clear I h K N Q P
 cases r:rr s with
 |gas=>exact absurd r t
 |stop way s' =>
  rw[r]at C a
  have n:Hid (∀e W,thrE endT (way:Int) e->(∃k',GS c W s' k')->Kp c nY w W->GoP c k g ob lo names w s q e W):=fun e W B A y=>by rw[a];exact⟨B,A,y.wide⟩
  clear a j t r
  go_enter Tryz.func121,Tryz.ntmps121
  go_wp2_with fail
  refine C.out.mono ?_
  rintro e w2⟨⟨older,rfl⟩,d,f⟩
  have S:=zh d
  have x:=zh f
  clear d f
  go_wp2_with fail
  exact⟨rfl,n.out _ _ ⟨older,rfl⟩ S.out x.out⟩
 |ok v s' =>
  rw[r]at C a
  simp only at a
  by_cases D:v=0
  ·rw[if_pos D]at a
   subst D
   rw[a]at j
   have n:Hid (∀W e p,Kp c nY w W->s'.left<=s.left->GoP c k g ob lo names W s' (re s') e p->GoP c k g ob lo names w s q e p):=fun W e p B A y=>by rw[a];exact y.up B.wide A
   clear a t r M
   go_enter Tryz.func121,Tryz.ntmps121
   go_wp2_with fail
   refine C.out.mono ?_
   rintro e w2⟨rfl,d,f,l,_⟩
   obtain⟨R,_⟩:=O.out w2 s' k d
   obtain⟨_,Z⟩:=L.out w2 s' k d
   have F:=zh (J.out w2 s' d f l j)
   have x:=zh f
   have G:=zh l
   have E:=zh (n.out w2)
   clear d f l n
   generalize re s'=rq at *
   go_wp2_with fail
   refine F.out.mono ?_
   intro e H i
   have m:=zh (E.out e H x.out G.out i)
   cases rq with
   |gas=>exact absurd rfl j
   |stop way s2 =>
    obtain⟨⟨older,rfl⟩,_⟩:=i
    go_wp2_with fail
    exact⟨rfl,m.out⟩
   |ok r1 s2 =>
    obtain⟨T,u⟩:=r1
    cases u with
    |none =>
     obtain⟨rfl,_⟩:=i
     go_wp2_with fail
     exact bodyPost_end (results_none rfl _ _ _) rfl m.out
    |some u =>
     obtain⟨⟨older,rfl⟩,_⟩:=i
     go_wp2_with fail
     exact⟨rfl,m.out⟩
  ·rw[if_neg D]at a
   have U:(v==0)=false:=by simpa using D
   rw[a]at j
   have n:Hid (∀W e p,Kp c nY w W->s'.left<=s.left->GoP c k g ob lo names W s' (rt s') e p->GoP c k g ob lo names w s q e p):=fun W e p B A y=>by rw[a];exact y.up B.wide A
   clear a t r J
   go_enter Tryz.func121,Tryz.ntmps121
   go_wp2_with fail
   refine C.out.mono ?_
   rintro e w2⟨rfl,d,f,l,_⟩
   obtain⟨R,_⟩:=O.out w2 s' k d
   obtain⟨j5,_⟩:=L.out w2 s' k d
   have F:=zh (M.out w2 s' d f l j)
   have x:=zh f
   have G:=zh l
   have E:=zh (n.out w2)
   clear d f l n
   generalize rt s'=rq at *
   go_wp2_with fail
   refine F.out.mono ?_
   intro e H i
   have m:=zh (E.out e H x.out G.out i)
   cases rq with
   |gas=>exact absurd rfl j
   |stop way s2 =>
    obtain⟨⟨older,rfl⟩,_⟩:=i
    go_wp2_with fail
    exact⟨rfl,m.out⟩
   |ok r1 s2 =>
    obtain⟨T,u⟩:=r1
    cases u with
    |none =>
     obtain⟨rfl,_⟩:=i
     go_wp2_with fail
     exact bodyPost_end (results_none rfl _ _ _) rfl m.out
    |some u =>
     obtain⟨⟨older,rfl⟩,_⟩:=i
     go_wp2_with fail
     exact⟨rfl,m.out⟩
theorem goW_eq (g k:Nat)(m:Bs)(own:Own)(v:List X)(b:List S)(s:Rs):Tp.goW (g+1) k m own v b s=match Tp.evX g k m own v s with
  | .ok n s1=>(if n=0 then .ok (own,none) s1 else (match Tp.goS g k m own b s1 with
   | .ok r s2=>(match r.2 with
    |some u=>.ok (r.1,some u) s2
    |none=>(match s2.left with
     | 0=>.stop Tp.fuelW s2
     |f+1=>Tp.goW g k m r.1 v b { s2 with left:=f }))
   | .stop way s2=>.stop way s2
   | .gas=>.gas))
  | .stop way s1=>.stop way s1
  | .gas=>.gas:=by
 rw[Tp.goW]
 unfold Tp.Ru.bind
 cases Tp.evX g k m own v s with
 |gas=>rfl
 |stop way s1=>rfl
 |ok n s1 =>
  simp only
  by_cases a:n=0
  ·rw[if_pos a,if_pos a];rfl
  ·rw[if_neg a,if_neg a]
   cases Tp.goS g k m own b s1 with
   |gas=>rfl
   |stop way s2=>rfl
   |ok r s2 =>
    simp only
    cases r.2 with
    |some u=>rfl
    |none =>
     simp only[Tp.tick]
     cases s2.left<;>rfl
theorem ux {c:Cx}{g:Nat}(Y:CxOk c)(hE:∀n,n<g->EvC c n)(hG:∀n,n<g->GoC c n){k:Nat}{lo:Lo}{own:Own}{names:List Bs}{w:World}{s:Rs}{i b o z:Nat}{ob:Option Nat}{A:List X}{B:List S}{ta:Option Addr}{tn tc:Nat}(h:GS c w s k)(hs:Sc c w i ob lo own names s.left)(hX:Cell4 c b o z)(hY:∀W s' k',GS c W s' k'->W.cell? ⟨b,o+5,none⟩=some (.slice ta tn tc))(k0:w.cell? ⟨b,o,none⟩=some (.int .i64 3))
  (b2:Ex c lo names A z)(a9:Ss c lo names B (.slice ta tn tc))
  {l:Rr (Own×Option Int)}(a7:l=Tp.goW g k lo.m.name own A B s)(b0:l≠.gas) :
  Calls Tryz.prog 121 #[.pointer (some ⟨i,0,none⟩),.pointer (some ⟨b,o,none⟩)] w (GoP c k i ob lo names w s l):=by
 obtain⟨d3,k4⟩:=hX w s k h
 have HX:=zh hX
 have HY:=zh hY
 have HE:=zh hE
 have c5:=zh hG
 have P:=zh Y
 have b6:=zh b2
 have c3:=zh a9
 have HN:=zh b0
 have c2:=zh h
 have b8:=zh hs
 have b9:Hid (∃q,q<=g/\l=Tp.goW q k lo.m.name own A B s):=⟨g,Nat.le_refl _,a7⟩
 clear hX h hY hE hG Y b2 a9 b0 hs a7
 go_enter Tryz.func121,Tryz.ntmps121
 go_wp2_with fail
 go_loopg [] s.left (fun kk wr=>∃(j:Rs) (t:Own),kk=j.left/\Hid (GS c wr j k)/\Hid (Kp c (oY ob) w wr)/\Hid (j.left<=s.left)/\Hid (Sc c wr i ob lo t names j.left)/\Hid (∃q,q<=g/\l=Tp.goW q k lo.m.name t A B j))
 case atStart=>exact⟨s,own,rfl,c2,Kp.refl _ _ _,Nat.le_refl _,b8,b9⟩
 case round =>
  obtain⟨j,t,d2,HG,HK,V,HS,Z⟩:=hrel
  obtain⟨q,d0,d⟩:=Z.out
  cases q with
  |zero=>exact absurd (by rw[d,Tp.goW];rfl) HN.out
  |succ g1 =>
   rw[goW_eq]at d
   have I:Tp.evX g1 k lo.m.name t A j≠.gas:=fun e=>HN.out (by rw[d,e])
   have M:=zh (HE.out g1 (by omega) k lo t names A z wr j i ob b6.out HG.out HS.out I)
   obtain⟨c8,j4⟩:=HX.out wr j k HG.out
   cases G:Tp.evX g1 k lo.m.name t A j with
   |gas=>exact absurd G I
   |stop way s1 =>
    rw[G]at M d
    have v:Hid (∀e W,thrE endT (way:Int) e->(∃k',GS c W s1 k')->Kp c nY wr W->GoP c k i ob lo names w s l e W):=fun e W a1 a2 T=>by rw[d];exact⟨a1,a2,HK.out.trans T.wide⟩
    clear d I G Z k4
    go_wp2_with fail
    refine M.out.mono ?_
    rintro e w2⟨⟨older,rfl⟩,p,r⟩
    have a4:=zh p
    have C:=zh r
    clear p r
    go_wp2_with fail
    exact⟨rfl,v.out _ _ ⟨older,rfl⟩ a4.out C.out⟩
   | Y n s1 =>
    rw[G]at M d
    simp only at d
    by_cases U:n=0
    ·rw[if_pos U]at d
     subst U
     have v:Hid (∀W,GS c W s1 k->Kp c nY wr W->s1.left<=j.left->GoP c k i ob lo names w s l (.returned (.tuple #[])) W):=fun W a1 a2 T=>by rw[d];exact⟨rfl,a1,HK.out.trans a2.wide,Nat.le_trans T V.out,HS.out.kp a2 P.out.Vlt T⟩
     clear d I G Z k4
     go_wp2_with fail
     refine M.out.mono ?_
     rintro e w2⟨rfl,p,r,F,_⟩
     have a4:=zh p
     have C:=zh r
     have K:=zh F
     clear p r F
     go_wp2_with fail
     exact bodyPost_end (results_none rfl _ _ _) rfl (v.out _ a4.out C.out K.out)
    ·rw[if_neg U]at d
     have d4:(n==0)=false:=by simpa using U
     have b5:Tp.goS g1 k lo.m.name t B s1≠.gas:=fun e=>HN.out (by rw[d,e])
     have H:=zh b5
     have R:=zh d
     clear d I G Z k4 b5
     go_wp2_with fail
     refine M.out.mono ?_
     rintro e w2⟨rfl,p,r,F,_⟩
     have b3:=HS.out.kp r P.out.Vlt F
     have J:=zh (c5.out g1 (by omega) k lo t names B (.slice ta tn tc) w2 s1 i ob c3.out p b3 H.out)
     obtain⟨c7,_⟩:=HX.out w2 s1 k p
     have j5:=HY.out w2 s1 k p
     have C:=zh (HK.out.trans r.wide)
     have K:Hid (s1.left<=j.left):=F
     have d:=R.out
     clear p r F b3 j4
     cases E:Tp.goS g1 k lo.m.name t B s1 with
     |gas=>exact absurd E H.out
     |stop way s3 =>
      rw[E]at J d
      have v:Hid (∀e W,GoP c k i ob lo names w2 s1 (.stop way s3) e W->GoP c k i ob lo names w s l e W):=fun e W a=>by rw[d];exact a.up C.out (Nat.le_trans K.out V.out)
      clear d E H R
      go_wp2_with fail
      refine J.out.mono ?_
      intro e y N
      have HQ:=zh (v.out e y N)
      obtain⟨⟨older,rfl⟩,_⟩:=N
      go_wp2_with fail
      exact⟨rfl,HQ.out⟩
     | Y r1 s3 =>
      obtain⟨Q,u⟩:=r1
      rw[E]at J d
      simp only at d
      cases u with
      |some u =>
       simp only at d
       have v:Hid (∀e W,GoP c k i ob lo names w2 s1 (.ok (Q,some u) s3) e W->GoP c k i ob lo names w s l e W):=fun e W a=>by rw[d];exact a.up C.out (Nat.le_trans K.out V.out)
       clear d E H R
       go_wp2_with fail
       refine J.out.mono ?_
       intro e y N
       have HQ:=zh (v.out e y N)
       obtain⟨⟨older,rfl⟩,_⟩:=N
       go_wp2_with fail
       exact⟨rfl,HQ.out⟩
      |none =>
       simp only at d
       have O:=zh d
       clear d E H R
       go_wp2_with fail
       refine J.out.mono ?_
       rintro e y⟨rfl,x,a5,b4,L⟩
       have b1:=zh (C.out.trans a5)
       have d1:y.cell? ⟨i,0,none⟩=some (.pointer (some ⟨c.gb,0,none⟩)):=(za L.blk).trans rfl
       have c9:=zf L.blk
       have a8:=K.out
       have a6:=V.out
       cases D:s3.left with
       |zero =>
        have d:=O.out
        rw[D]at d
        have v:Hid (∀e,thrE endT (Tp.fuelW:Int) e->GoP c k i ob lo names w s l e y):=fun e a=>by rw[d];exact⟨a,⟨k,x⟩,b1.out⟩
        have a0:=zh (vf x D)
        clear d x a5 b4 L O D a8 a6
        go_wp2_with fail
        refine a0.out.mono ?_
        rintro e w4⟨⟨older,rfl⟩,rfl⟩
        go_wp2_with fail
        exact⟨rfl,v.out _ ⟨older,rfl⟩⟩
       |succ f =>
        have d:=O.out
        rw[D]at d
        have a0:=zh (rstep_ok x D)
        have c1:=zh (x.tick P.out D)
        have c4:Hid (Kp c (oY ob) w (y.setCell ⟨c.gb,1,none⟩ (.int .i64 (f:Int)))):=b1.out.trans (Kp.reg x (by omega)).wide
        have c0:Hid (Sc c (y.setCell ⟨c.gb,1,none⟩ (.int .i64 (f:Int))) i ob lo Q names f):=L.kp (Kp.reg x (by omega)) P.out.Vlt (by omega)
        have c6:Hid (∃q,q<=g/\l=Tp.goW q k lo.m.name Q A B { s3 with left:=f }):=⟨g1,by omega,d⟩
        have d5:f<gk:=by omega
        have b7:Hid (f<=s.left):=by show f<=s.left;omega
        clear d x a5 b4 L O D a8 a6
        go_wp2_with fail
        refine a0.out.mono ?_
        rintro e w4⟨rfl,rfl⟩
        go_wp2_with fail
        go_roundg f
        case measure=>omega
        case rel=>exact⟨{ s3 with left:=f },Q,rfl,c1,c4,b7,c0,c6⟩
def mapR (r:Rr Int) (f:Int->Rs->Rr (Own×Option Int)):Rr (Own×Option Int):=match r with
 | .ok v s=>f v s
 | .stop way s=>.stop way s
 | .gas=>.gas
theorem go1_own {g k:Nat}{m nm:Bs}{own:Own}{pos:Nat}{a:List X}{d b:List S}{s:Rs}{u:Int}(c:own nm=some u):Tp.go1 (g+1) k m own ⟨1,pos,nm,[],a,d,b⟩ s=match Tp.evX g k m own a s with | .ok v s'=>.ok (updO own nm v,none) s' | .stop way s'=>.stop way s' | .gas=>.gas:=by
 rw[Tp.go1]
 show (Tp.Ru.bind _ _) s=_
 unfold Tp.Ru.bind
 cases Tp.evX g k m own a s with
 |gas=>rfl
 |stop way s'=>rfl
 |ok v s' =>
  simp only[c]
  rfl
theorem go1_var {g k:Nat}{m nm:Bs}{own:Own}{pos:Nat}{a:List X}{d b:List S}{s:Rs}(c:own nm=none):Tp.go1 (g+1) k m own ⟨1,pos,nm,[],a,d,b⟩ s=match Tp.evX g k m own a s with | .ok v s'=>.ok (own,none) (setS s' m nm [v]) | .stop way s'=>.stop way s' | .gas=>.gas:=by
 rw[Tp.go1]
 show (Tp.Ru.bind _ _) s=_
 unfold Tp.Ru.bind
 cases Tp.evX g k m own a s with
 |gas=>rfl
 |stop way s'=>rfl
 |ok v s' =>
  simp only[c]
  rfl
theorem go1_item {g k:Nat}{m nm:Bs}{own:Own}{pos:Nat}{a b:List X}{e d:List S}{s:Rs}(c:a≠[]):Tp.go1 (g+1) k m own ⟨1,pos,nm,a,b,e,d⟩ s=match Tp.evX g k m own a s with
   | .ok i s'=>(match Tp.evX g k m own b s' with | .ok v s2=>itemR2 own m nm i v s2 | .stop way s2=>.stop way s2 | .gas=>.gas)
   | .stop way s'=>.stop way s'
   | .gas=>.gas:=by
 rw[Tp.go1]
 simp only[if_true]
 rw[if_neg c]
 unfold Tp.Ru.bind
 cases Tp.evX g k m own a s with
 |gas=>rfl
 |stop way s'=>rfl
 |ok i s' =>
  simp only
  cases Tp.evX g k m own b s' with
  |gas=>rfl
  |stop way s2=>rfl
  |ok v s2 =>
   simp only[Tp.getV]
   unfold itemR2 itemSet
   split
   ·rfl
   ·rfl
theorem go1_2 {g k:Nat}{m nm:Bs}{own:Own}{pos:Nat}{d a:List X}{c b:List S}{s:Rs}:Tp.go1 (g+1) k m own ⟨2,pos,nm,d,a,c,b⟩ s=match Tp.evX g k m own a s with | .ok v s'=>(if v=0 then Tp.goS g k m own b s' else Tp.goS g k m own c s') | .stop way s'=>.stop way s' | .gas=>.gas:=by
 rw[Tp.go1]
 show (Tp.Ru.bind _ _) s=_
 unfold Tp.Ru.bind
 cases Tp.evX g k m own a s with
 |gas=>rfl
 |stop way s'=>rfl
 |ok v s' =>
  simp only
  by_cases h:v=0
  ·rw[if_pos h,if_pos h]
  ·rw[if_neg h,if_neg h]
theorem go1_3 {g k:Nat}{m nm:Bs}{own:Own}{pos:Nat}{d b:List X}{a c:List S}{s:Rs}:Tp.go1 (g+1) k m own ⟨3,pos,nm,d,b,a,c⟩ s=Tp.goW g k m own b a s:=by rw[Tp.go1];rfl
theorem go1_4 {g k:Nat}{m nm:Bs}{own:Own}{pos:Nat}{c a:List X}{d b:List S}{s:Rs}:Tp.go1 (g+1) k m own ⟨4,pos,nm,c,a,d,b⟩ s=match Tp.evX g k m own a s with | .ok v s'=>.ok (own,some v) s' | .stop way s'=>.stop way s' | .gas=>.gas:=by
 rw[Tp.go1]
 show (Tp.Ru.bind _ _) s=_
 unfold Tp.Ru.bind
 cases Tp.evX g k m own a s<;>rfl
theorem go1_5 {g k:Nat}{m nm:Bs}{own:Own}{pos:Nat}{c a:List X}{d b:List S}{s:Rs}:Tp.go1 (g+1) k m own ⟨5,pos,nm,c,a,d,b⟩ s=match Tp.evX g k m own a s with | .ok v s'=>(if s'.out.length<200 then .ok (own,none) { s' with out:=s'.out++[v] } else .stop Tp.full s') | .stop way s'=>.stop way s' | .gas=>.gas:=by
 rw[Tp.go1]
 show (Tp.Ru.bind _ _) s=_
 unfold Tp.Ru.bind
 cases Tp.evX g k m own a s with
 |gas=>rfl
 |stop way s'=>rfl
 |ok v s' =>
  simp only[Tp.tellN]
  by_cases h:s'.out.length<200
  ·rw[if_pos h,if_pos h];rfl
  ·rw[if_neg h,if_neg h]
theorem go1_6 {g k:Nat}{m nm:Bs}{own:Own}{pos:Nat}{c a:List X}{d b:List S}{s:Rs}:Tp.go1 (g+1) k m own ⟨6,pos,nm,c,a,d,b⟩ s=match Tp.evX g k m own a s with | .ok _ s'=>.ok (own,none) s' | .stop way s'=>.stop way s' | .gas=>.gas:=by
 rw[Tp.go1]
 show (Tp.Ru.bind _ _) s=_
 unfold Tp.Ru.bind
 cases Tp.evX g k m own a s<;>rfl
theorem rstmt_set {c:Cx}{k:Nat}{lo:Lo}{names:List Bs}{w:World}{s:Rs}{f b o:Nat}{ob:Option Nat}(_hbl:b<w.heap.size)(m:w.cell? ⟨b,o,none⟩=some (.int .i64 1)){a:Rr (Own×Option Int)}(i:a≠.gas)
  (h:Calls Tryz.prog 149 #[.pointer (some ⟨f,0,none⟩),.pointer (some ⟨b,o,none⟩)] w (GoP c k f ob lo names w s a)) :
  Calls Tryz.prog 121 #[.pointer (some ⟨f,0,none⟩),.pointer (some ⟨b,o,none⟩)] w (GoP c k f ob lo names w s a):=by
 have j:=zh h
 clear h
 go_enter Tryz.func121,Tryz.ntmps121
 go_wp2_with fail
 refine j.out.mono ?_
 intro e n d
 have g:=zh d
 cases a with
 |gas=>exact absurd rfl i
 |stop way s2 =>
  obtain⟨⟨older,rfl⟩,_⟩:=d
  go_wp2_with fail
  exact⟨rfl,g.out⟩
 |ok r1 s2 =>
  obtain⟨l,u⟩:=r1
  cases u with
  |none =>
   obtain⟨rfl,_⟩:=d
   go_wp2_with fail
   exact bodyPost_end (results_none rfl _ _ _) rfl g.out
  |some u =>
   obtain⟨⟨older,rfl⟩,_⟩:=d
   go_wp2_with fail
   exact⟨rfl,g.out⟩
theorem kV {code pos:Nat}{nm:Bs}{a d:List X}{c b:List S}:Tp.rs [⟨code,pos,nm,a,d,c,b⟩]=(if code=1 then [⟨if a.isEmpty then 2 else 3,pos,[],nm,0⟩] else [])++Tp.rx a++Tp.rx d++Tp.rs c++Tp.rs b:=by simp[Tp.rs]
theorem rstmt_all {c:Cx}{g:Nat}(l:CxOk c)(hE:∀n,n<g+1->EvC c n)(hG:∀n,n<g+1->GoC c n):Go1C c (g+1):=by
 intro k lo own names x b o w s F ob a3 a0 J h j v
 obtain⟨code,pos,nm,D,p,L,S⟩:=x
 obtain⟨tv,ev,ls,vs,a5,b0,c0,c2,c3,K,c5,c6,N,_,rv,_,rt,R,re,oe⟩:=a3.r
 simp only at c0 c2 N rv rt R re oe
 rw[Tp.WS]at a0
 have a4:Tp.ev p:=by
  rcases a0.1 with q|q|q|q|q
  ·exact q.2.2.2.1
  ·exact q.2.2.2.1
  ·exact q.2.2.2.1
  ·exact q.2.2.2.1
  ·exact q.2.2.2.1
 obtain⟨z,rfl,_⟩:=rv.part a4.2.1
 have a2:Ex c lo names p z:=⟨rv,a4.1,fun r A=>J r (by rw[kV];simp[A])⟩
 have d:=a3.d
 have H:=h.cell0 d c0
 have b3:=zg H
 have O:Cell4 c b o z:=fun W f k' i=>⟨zg (i.cell0 d K),i.cell0 d K⟩
 have E:RightC c k w s F z (fun f=>Tp.evX g k lo.m.name own p f):=fun W f i G hL B=>hE g (by omega) k lo own names p z W f F ob a2 i (j.kp G l.Vlt (by omega)) B
 have Z:Sc c w F ob lo own names s.left:=j.kp (Kp.refl _ _ _) l.Vlt (by omega)
 obtain⟨ta,tc,rfl⟩:=R.shape
 obtain⟨ea,ec,rfl⟩:=oe.shape
 rcases a0.1 with q|q|q|q|q
 ·obtain⟨rfl,a6,b5,_,rfl,rfl⟩:=q
  have Y:=zQ a6
  have hf:=J ⟨if D.isEmpty then 2 else 3,pos,[],nm,0⟩ (by rw[kV];simp)
  refine rstmt_set b3 H v ?_
  rcases b5 with rfl|⟨b4,U,_⟩
  ·have b2:ls=[]:=by rw[RepL]at N;exact N
   subst b2
   have P:CellS c b o nm (.pointer none) z:=fun W f k' i=>⟨zg (i.cell0 d K),i.cell0 d c2,i.cell0 d c3,i.cell0 d K⟩
   rcases hf.v2 rfl with⟨_,C⟩|⟨M,m',g',C,I,q4⟩
   ·simp only at C
    obtain⟨u,hu⟩:=Option.isSome_iff_exists.1 ((j.dom nm).2 C)
    cases ob with
    |none =>
     have:=j.om nm
     rw[this]at hu
     cases hu
    |some ob=>exact set_own (rr:=fun f=>Tp.evX g k lo.m.name own p f) l h j P Y C E (go1_own hu) v
   ·simp only at M C I
    have Q:=M trivial
    have X:m'=lo.m:=by simpa[Tp.atM] using C
    rw[X]at I
    have b1:own nm=none:=by
     cases ho:own nm with
     |none=>rfl
     |some u=>exact absurd ((j.dom nm).1 (by rw[ho];rfl)) Q
    exact set_var (rr:=fun f=>Tp.evX g k lo.m.name own p f) l h j P Y Q I q4 E (go1_var b1) v
  ·have a1:D≠[]:=fun e=>by rw[e]at U;simp at U
   obtain⟨y,rfl,_⟩:=N.part U
   have b6:D.isEmpty=false:=by cases D with|nil=>exact absurd rfl a1|cons a t=>rfl
   rw[b6]at hf
   obtain⟨M,m',g',C,I,q4⟩:=hf.v3 rfl
   simp only at M C I
   have Q:=M trivial
   have X:m'=lo.m:=by simpa[Tp.atM] using C
   rw[X]at I
   have a8:Ex c lo names D y:=⟨N,b4,fun r A=>J r (by rw[kV];simp[A])⟩
   have P:CellS c b o nm (.pointer (some ⟨y,0,none⟩)) z:=fun W f k' i=>⟨zg (i.cell0 d K),i.cell0 d c2,i.cell0 d c3,i.cell0 d K⟩
   have hI:RightC c k w s F y (fun f=>Tp.evX g k lo.m.name own D f):=fun W f i G hL B=>hE g (by omega) k lo own names D y W f F ob a8 i (j.kp G l.Vlt (by omega)) B
   exact set_item (ri:=fun f=>Tp.evX g k lo.m.name own D f) (rr:=fun f=>Tp.evX g k lo.m.name own p f) l h j P Y Q I hI E (go1_item a1) v
 ·obtain⟨rfl,_,_,_,V,a9⟩:=q
  have T:Ss c lo names L (.slice ta L.length tc):=⟨⟨a5,rt,R⟩,V,fun r A=>J r (by rw[kV];simp[A])⟩
  have a7:Ss c lo names S (.slice ea S.length ec):=⟨⟨b0,re,oe⟩,a9,fun r A=>J r (by rw[kV];simp[A])⟩
  exact rstmt_if (rr:=fun f=>Tp.evX g k lo.m.name own p f) (rt:=fun f=>Tp.goS g k lo.m.name own L f) (re:=fun f=>Tp.goS g k lo.m.name own S f) h O (fun W f k' i=>⟨i.cell0 d c5,i.cell0 d c6⟩) H E
   (fun W f i G hL B=>hG g (by omega) k lo own names L _ W f F ob T i (j.kp G l.Vlt (by omega)) B)
   (fun W f i G hL B=>hG g (by omega) k lo own names S _ W f F ob a7 i (j.kp G l.Vlt (by omega)) B) go1_2 v
 ·obtain⟨rfl,_,_,_,V,_⟩:=q
  have T:Ss c lo names L (.slice ta L.length tc):=⟨⟨a5,rt,R⟩,V,fun r A=>J r (by rw[kV];simp[A])⟩
  exact ux l (fun n B=>hE n (by omega)) (fun n B=>hG n (by omega)) h Z O (fun W f k' i=>i.cell0 d c5) H a2 T go1_3 v
 ·obtain⟨hc,_⟩:=q
  rcases hc with rfl|rfl
  ·exact ve (rr:=fun f=>Tp.evX g k lo.m.name own p f) h O H E go1_4 v
  ·exact uw (rr:=fun f=>Tp.evX g k lo.m.name own p f) l h Z O H E go1_5 v
 ·obtain⟨rfl,_⟩:=q
  exact rstmt_call (rr:=fun f=>Tp.evX g k lo.m.name own p f) l h Z O H E go1_6 v
end Go.Proofs.YtibncofnnlbmcaaGreatDoor
