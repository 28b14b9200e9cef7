import Derived.Test.YtibncofnnlbmcaaGreatDoorKQe
set_option maxRecDepth 100000
set_option maxHeartbeats 4000000
namespace Go.Proofs.YtibncofnnlbmcaaGreatDoor
open Go.RowKit Go.Maps
open Tp (Bs X S G Pr Pt Rs Rr Own)
def itemSet (own:Own) (md nm:Bs) (l:List Int) (i v:Int) (s:Rs):Rr (Own×Option Int):=if 0<=i/\i<l.length then .ok (own,none) (setS s md nm (l.set i.toNat v)) else .stop Tp.bounds s
def itemR2 (own:Own) (md nm:Bs) (i v:Int) (s:Rs):Rr (Own×Option Int):=itemSet own md nm (((Tp.partOf s.w md).map fun p=>p.vars nm).getD []) i v s
theorem set_item {c:Cx}(ok:CxOk c){k:Nat}{lo:Lo}{own:Own}{names:List Bs}{w:World}{s:Rs}{f b o y z:Nat}{ob:Option Nat}{nm:Bs}{g:G}{ri rr:Rs->Rr Int}(h:GS c w s k)(hs:Sc c w f ob lo own names (s.left+1))(hX:CellS c b o nm (.pointer (some ⟨y,0,none⟩)) z)(hn:nm.length<=1000000)(d2:nm ∉ names)(hg:Tp.varOf lo.m nm=some g)(hI:RightC c k w s f y ri)(hR:RightC c k w s f z rr)
  {A:Rr (Own×Option Int)}(q:A=match ri s with
   | .ok i s'=>(match rr s' with | .ok v s2=>itemR2 own lo.m.name nm i v s2 | .stop way s2=>.stop way s2 | .gas=>.gas)
   | .stop way s'=>.stop way s'
   | .gas=>.gas)(L:A≠.gas) :
  Calls Tryz.prog 149 #[.pointer (some ⟨f,0,none⟩),.pointer (some ⟨b,o,none⟩)] w (GoP c k f ob lo names w s A):=by
 obtain⟨d8,k2,k3,k4⟩:=hX w s k h
 have d9:=h.lt
 have M:ri s≠.gas:=fun e=>L (by rw[q,e])
 have N:=zh (hI w s h (Kp.refl _ _ _) zn M)
 have HX:=zh hX
 have Q:=zh hs
 have J:=zh ok
 have b8:=zh hg
 have c0:=zh hR
 clear hX hs ok h hR hg hI
 cases H:ri s with
 |gas=>exact absurd H M
 |stop way s' =>
  rw[H]at N q
  have D:Hid (∀e W,thrE endT (way:Int) e->(∃k',GS c W s' k')->Kp c nY w W->GoP c k f ob lo names w s A e W):=fun e W E O P=>by rw[q];exact⟨E,O,P.wide⟩
  clear q L M H
  go_enter Tryz.func149,Tryz.ntmps149
  go_wp2_with fail
  refine N.out.mono ?_
  rintro e w2⟨⟨older,rfl⟩,l,r⟩
  have c6:=zh l
  have b0:=zh r
  clear l r
  go_wp2_with fail
  exact⟨rfl,D.out _ _ ⟨older,rfl⟩ c6.out b0.out⟩
 |ok i s1 =>
  rw[H]at N q
  simp only at q
  cases C:rr s1 with
  |gas=>rw[C]at q;exact absurd q L
  |stop way s' =>
   rw[C]at q
   have D:Hid (∀e W,thrE endT (way:Int) e->(∃k',GS c W s' k')->Kp c nY w W->GoP c k f ob lo names w s A e W):=fun e W E O P=>by rw[q];exact⟨E,O,P.wide⟩
   have K:Hid (rr s1=.stop way s'):=C
   clear q L M H C
   go_enter Tryz.func149,Tryz.ntmps149
   go_wp2_with fail
   refine N.out.mono ?_
   rintro e w2⟨rfl,l,r,F,_⟩
   obtain⟨a6,_,_,j4⟩:=HX.out w2 s1 k l
   have I:=zh (c0.out w2 s1 l r F (by rw[K.out];simp))
   rw[K.out]at I
   have b0:=zh r
   clear l r F k2 k3 k4
   go_wp2_with fail
   refine I.out.mono ?_
   rintro e a⟨⟨older,rfl⟩,c1,c2⟩
   have c7:=zh c1
   have c9:=zh c2
   clear c1 c2
   go_wp2_with fail
   exact⟨rfl,D.out _ _ ⟨older,rfl⟩ c7.out (b0.out.trans c9.out)⟩
  |ok v s' =>
   rw[C]at q
   have b7:A=itemR2 own lo.m.name nm i v s':=q
   have a5:=zh b7
   have K:Hid (rr s1=.ok v s'):=C
   clear q b7 L M H C
   go_enter Tryz.func149,Tryz.ntmps149
   go_wp2_with fail
   refine N.out.mono ?_
   rintro e w1⟨rfl,b2,b4,b5,_⟩
   obtain⟨d7,_,_,j4⟩:=HX.out w1 s1 k b2
   have I:=zh (c0.out w1 s1 b2 b4 b5 (by rw[K.out];simp))
   rw[K.out]at I
   have c8:=zh b4
   have d0:=zh b5
   clear b2 b4 b5 k2 k3 k4
   go_wp2_with fail
   refine I.out.mono ?_
   rintro e w2⟨rfl,l,a7,a8,b3⟩
   have r:=c8.out.trans a7
   have F:=Nat.le_trans a8 d0.out
   obtain⟨a6,V,_,_⟩:=HX.out w2 s' k l
   have B:=Q.out.kp (left':=s'.left+1) r J.out.Vlt (by omega)
   have ks:w2.cell? ⟨f,2,none⟩=some (.map ob):=(za B.blk).trans rfl
   have X:w2.cell? ⟨f,1,none⟩=some (.pointer (some ⟨lo.lb,0,none⟩)):=(za B.blk).trans rfl
   have c5:=zf B.blk
   have b6:own nm=none:=by
    cases ho:own nm with
    |none=>rfl
    |some u=>exact absurd ((B.dom nm).1 (by rw[ho];rfl)) d2
   have c3:∀n,(Instr.lookup 96 (.map ob) (.string (bs nm)) true).run Tryz.prog (w2.drewN n)=.ok (.tuple #[.int .i64 0,.bool false]) (w2.drewN n):=fun n=>by
    rw[B.look nm hn (w2.drewN n) (fun _=>rfl),b6];rfl
   obtain⟨ia,ga,pa,ba,ic,gc,pc,bc,S,_⟩:=l.loB J.out Q.out.mem
   have Y:w2.cell? ⟨lo.lb,5,none⟩=some (.map (some lo.vb)):=(za S).trans rfl
   have c4:=zf S
   obtain⟨p,p1,p2,Z,a0⟩:=set_tail J.out Q.out b8.out l r F
   have t:A=itemSet own lo.m.name nm (p.vars nm) i v s':=by rw[a5.out];unfold itemR2;rw[p1];rfl
   unfold itemSet at t
   rw[p2]at t
   have b9:Hid (∀W:World,W.heap=w2.heap->(Instr.lookup 105 (.map (some lo.vb)) (.string (bs nm)) false).run Tryz.prog W=.ok (.slice (some ⟨lo.sl nm,0,none⟩) (vlen g) (vlen g)) W):=fun W T=>l.lookV J.out Q.out.mem b8.out hn W (fun _=>by rw[T])
   by_cases U:0<=i/\i<(vlen g:Int)
   ·rw[if_pos U]at t
    obtain⟨j,rfl⟩:∃j:Nat,i=(j:Int):=⟨i.toNat,by omega⟩
    have hj:j<vlen g:=by omega
    rw[Int.toNat_natCast]at t
    obtain⟨⟨d4,t1⟩,t2,t3,t4⟩:=a0 j v hj b3
    have D:Hid (∀W,GS c W (setS s' lo.m.name nm ((p.vars nm).set j v)) k->Kp c (oY ob) w W->(setS s' lo.m.name nm ((p.vars nm).set j v)).left<=s.left->Sc c W f ob lo own names (setS s' lo.m.name nm ((p.vars nm).set j v)).left->GoP c k f ob lo names w s A (.returned (.tuple #[])) W):=fun W E O P a4=>by rw[t];exact⟨rfl,E,O,P,a4⟩
    have d1:=zh t4
    have HW:Hid (∀W:World,Calls Tryz.prog 171 #[.slice (some ⟨lo.sl nm,0,none⟩) (vlen g) (vlen g),.int .i64 (j:Int)] W fun e w'=>e=.returned (.int .i64 (j:Int))/\w'=W):=fun W=>kZ _ _ _ (j:Int) (by omega) (by omega) Z W
    have e0:(j:Int)<(vlen g:Int):=by omega
    have d6:(vlen g:Int)<=1000:=by omega
    clear B l r F b3 b6 S a0 t4 p1 p2 Z t a5 a7 a8 U
    generalize vlen g=vg at *
    go_wp2_with fail
    go_quiet (fail)
    obtain⟨a,x⟩:∃a,a=w2.drewN nq:=⟨_,rfl⟩
    have d:a.heap=w2.heap:=by rw[x];rfl
    have a9:Hid (Below w2.heap.size w2 a):=by rw[x];exact below_drewN (Below.refl _ _) _
    rw[<-x]
    clear x
    have r2:a.cell? ⟨b,o+2,none⟩=some (.string (bs nm)):=(zD d _).trans V
    have ri:a.cell? ⟨f,1,none⟩=some (.pointer (some ⟨lo.lb,0,none⟩)):=(zD d _).trans X
    have rk:a.cell? ⟨lo.lb,5,none⟩=some (.map (some lo.vb)):=(zD d _).trans Y
    have rb:b<a.heap.size:=by rw[d];exact a6
    have rl:f<a.heap.size:=by rw[d];exact c5
    have d5:lo.lb<a.heap.size:=by rw[d];exact c4
    have rt:a.cell? ⟨lo.sl nm,j,none⟩=some d4:=(zD d _).trans t1
    have rf:a.frozen? ⟨lo.sl nm,j,none⟩=false:=(World.frozen?_of_block (w:=w2) (by rw[d])).trans t2
    have e1:lo.sl nm<a.heap.size:=by rw[d];exact t3
    have d3:∀n,(Instr.lookup 105 (.map (some lo.vb)) (.string (bs nm)) false).run Tryz.prog (a.drewN n)=.ok (.slice (some ⟨lo.sl nm,0,none⟩) vg vg) (a.drewN n):=fun n=>b9.out (a.drewN n) d
    clear d c3 V ks X Y t1 t2 t3
    go_wp2_with fail
    go_quiet (fail)
    go_wp2_with fail
    refine(HW.out _).mono ?_
    rintro e w4⟨rfl,rfl⟩
    go_wp2_with fail
    have R:=zh (d1.out _ (below_drewN a9.out nq))
    exact bodyPost_end (results_none rfl _ _ _) rfl (D.out _ R.out.1 R.out.2.1 R.out.2.2.1 R.out.2.2.2)
   ·rw[if_neg U]at t
    have D:Hid (∀e W,thrE endT (Tp.bounds:Int) e->Below w2.heap.size w2 W->GoP c k f ob lo names w s A e W):=fun e W E T=>by rw[t];exact⟨E,⟨k,l.below J.out T⟩,(r.trans (Kp.below T l.lt)).wide⟩
    have HW:Hid (∀W:World,Calls Tryz.prog 171 #[.slice (some ⟨lo.sl nm,0,none⟩) (vlen g) (vlen g),.int .i64 i] W fun e w'=>thrE endT (Tp.bounds:Int) e/\w'=W):=fun W=>j9 _ _ _ i (by omega) Z W
    clear B l r F b3 b6 S a0 p1 p2 Z t a5 a7 a8 U
    generalize vlen g=vg at *
    go_wp2_with fail
    go_quiet (fail)
    obtain⟨a,x⟩:∃a,a=w2.drewN nq:=⟨_,rfl⟩
    have d:a.heap=w2.heap:=by rw[x];rfl
    have a9:Hid (Below w2.heap.size w2 a):=by rw[x];exact below_drewN (Below.refl _ _) _
    rw[<-x]
    clear x
    have r2:a.cell? ⟨b,o+2,none⟩=some (.string (bs nm)):=(zD d _).trans V
    have ri:a.cell? ⟨f,1,none⟩=some (.pointer (some ⟨lo.lb,0,none⟩)):=(zD d _).trans X
    have rk:a.cell? ⟨lo.lb,5,none⟩=some (.map (some lo.vb)):=(zD d _).trans Y
    have rb:b<a.heap.size:=by rw[d];exact a6
    have rl:f<a.heap.size:=by rw[d];exact c5
    have d5:lo.lb<a.heap.size:=by rw[d];exact c4
    have d3:∀n,(Instr.lookup 105 (.map (some lo.vb)) (.string (bs nm)) false).run Tryz.prog (a.drewN n)=.ok (.slice (some ⟨lo.sl nm,0,none⟩) vg vg) (a.drewN n):=fun n=>b9.out (a.drewN n) d
    clear d c3 V ks X Y
    go_wp2_with fail
    go_quiet (fail)
    go_wp2_with fail
    refine(HW.out _).mono ?_
    rintro e w4⟨⟨older,rfl⟩,rfl⟩
    go_wp2_with fail
    exact⟨rfl,D.out _ _ ⟨older,rfl⟩ (below_drewN a9.out _)⟩
theorem GoP.up {c:Cx}{k f:Nat}{ob:Option Nat}{lo:Lo}{names:List Bs}{w W w':World}{s d:Rs}{r:Rr (Own×Option Int)}{e:Ending}(h:GoP c k f ob lo names W d r e w')(a:Kp c (oY ob) w W)(b:d.left<=s.left):GoP c k f ob lo names w s r e w':=by
 cases r with
 |ok v s2 =>
  obtain⟨o,u⟩:=v
  cases u with
  |none=>exact⟨h.1,h.2.1,a.trans h.2.2.1,Nat.le_trans h.2.2.2.1 b,h.2.2.2.2⟩
  |some u=>exact⟨h.1,h.2.1,a.trans h.2.2.1,Nat.le_trans h.2.2.2.1 b,h.2.2.2.2⟩
 |stop way s2=>exact⟨h.1,h.2.1,a.trans h.2.2⟩
 |gas=>trivial
def Go1C (c:Cx) (g:Nat):Prop:=∀(k:Nat) (lo:Lo) (own:Own) (names:List Bs) (x:S) (b o:Nat) (w:World) (s:Rs) (sb:Nat) (ob:Option Nat),
 StAt c x b o->Tp.WS [x]->(∀r∈Tp.rs [x],Tp.FitR c.ms lo.m names r)->GS c w s k->Sc c w sb ob lo own names (s.left+1)->Tp.go1 g k lo.m.name own x s≠.gas ->
 Calls Tryz.prog 121 #[.pointer (some ⟨sb,0,none⟩),.pointer (some ⟨b,o,none⟩)] w (GoP c k sb ob lo names w s (Tp.go1 g k lo.m.name own x s))
def Cell4 (c:Cx) (b o z:Nat):Prop:=∀W s' k',GS c W s' k'->b<W.heap.size/\W.cell? ⟨b,o+4,none⟩=some (.pointer (some ⟨z,0,none⟩))
theorem vB {c:Cx}{k:Nat}{lo:Lo}{own:Own}{names:List Bs}{w:World}{s:Rs}{j b o z:Nat}{ob:Option Nat}{rr:Rs->Rr Int}(h:GS c w s k)(C:Cell4 c b o z)(I:w.cell? ⟨b,o,none⟩=some (.int .i64 4))(B:RightC c k w s j z rr)
  {g:Rr (Own×Option Int)}(a:g=match rr s with | .ok v s'=>.ok (own,some v) s' | .stop way s'=>.stop way s' | .gas=>.gas)(q:g≠.gas) :
  Calls Tryz.prog 121 #[.pointer (some ⟨j,0,none⟩),.pointer (some ⟨b,o,none⟩)] w (GoP c k j ob lo names w s g):=by
 obtain⟨H,J⟩:=C w s k h
 have l:rr s≠.gas:=fun e=>q (by rw[a,e])
 have m:=zh (B w s h (Kp.refl _ _ _) zn l)
 clear C h B
 cases i:rr s with
 |gas=>exact absurd i l
 |stop way s' =>
  rw[i]at m a
  have r:Hid (∀e W,thrE endT (way:Int) e->(∃k',GS c W s' k')->Kp c nY w W->GoP c k j ob lo names w s g e W):=fun e W t u x=>by rw[a];exact⟨t,u,x.wide⟩
  clear a q l i
  go_enter Tryz.func121,Tryz.ntmps121
  go_wp2_with fail
  refine m.out.mono ?_
  rintro e w2⟨⟨older,rfl⟩,d,f⟩
  have n:=zh d
  have p:=zh f
  clear d f
  go_wp2_with fail
  exact⟨rfl,r.out _ _ ⟨older,rfl⟩ n.out p.out⟩
 |ok v s' =>
  rw[i]at m a
  have r:Hid (∀e W,thrE toldT v e->GS c W s' k->Kp c nY w W->s'.left<=s.left->Tp.I64 v->GoP c k j ob lo names w s g e W):=fun e W t u x F G=>by rw[a];exact⟨t,u,x.wide,F,G⟩
  clear a q l i
  go_enter Tryz.func121,Tryz.ntmps121
  go_wp2_with fail
  refine m.out.mono ?_
  rintro e w2⟨rfl,d,f,A,y⟩
  have n:=zh d
  have p:=zh f
  have E:=zh A
  have D:=zh y
  clear d f A y
  go_wp2_with fail
  exact⟨rfl,r.out _ _ ⟨noP,rfl⟩ n.out p.out E.out D.out⟩
theorem rstmt_call {c:Cx}(ok:CxOk c){k:Nat}{lo:Lo}{own:Own}{names:List Bs}{w:World}{s:Rs}{d b o z:Nat}{ob:Option Nat}{rr:Rs->Rr Int}(h:GS c w s k)(C:Sc c w d ob lo own names s.left)(B:Cell4 c b o z)(I:w.cell? ⟨b,o,none⟩=some (.int .i64 6))(A:RightC c k w s d z rr)
  {i:Rr (Own×Option Int)}(a:i=match rr s with | .ok _ s'=>.ok (own,none) s' | .stop way s'=>.stop way s' | .gas=>.gas)(r:i≠.gas) :
  Calls Tryz.prog 121 #[.pointer (some ⟨d,0,none⟩),.pointer (some ⟨b,o,none⟩)] w (GoP c k d ob lo names w s i):=by
 obtain⟨H,J⟩:=B w s k h
 have l:rr s≠.gas:=fun e=>r (by rw[a,e])
 have m:=zh (A w s h (Kp.refl _ _ _) zn l)
 have E:=zh C
 have F:=zh ok.Vlt
 clear B h A C ok
 cases j:rr s with
 |gas=>exact absurd j l
 |stop way s' =>
  rw[j]at m a
  have t:Hid (∀e W,thrE endT (way:Int) e->(∃k',GS c W s' k')->Kp c nY w W->GoP c k d ob lo names w s i e W):=fun e W G u n=>by rw[a];exact⟨G,u,n.wide⟩
  clear a r l j
  go_enter Tryz.func121,Tryz.ntmps121
  go_wp2_with fail
  refine m.out.mono ?_
  rintro e w2⟨⟨older,rfl⟩,f,g⟩
  have p:=zh f
  have q:=zh g
  clear f g
  go_wp2_with fail
  exact⟨rfl,t.out _ _ ⟨older,rfl⟩ p.out q.out⟩
 |ok v s' =>
  rw[j]at m a
  have t:Hid (∀W,GS c W s' k->Kp c nY w W->s'.left<=s.left->GoP c k d ob lo names w s i (.returned (.tuple #[])) W):=fun W u n y=>by rw[a];exact⟨rfl,u,n.wide,y,E.out.kp n F.out y⟩
  clear a r l j
  go_enter Tryz.func121,Tryz.ntmps121
  go_wp2_with fail
  refine m.out.mono ?_
  rintro e w2⟨rfl,f,g,x,_⟩
  have p:=zh f
  have q:=zh g
  have D:=zh x
  clear f g x
  go_wp2_with fail
  exact bodyPost_end (results_none rfl _ _ _) rfl (t.out _ p.out q.out D.out)
theorem uI {c:Cx}(ok:CxOk c){k:Nat}{lo:Lo}{own:Own}{names:List Bs}{w:World}{s:Rs}{f b o z:Nat}{ob:Option Nat}{rr:Rs->Rr Int}(h:GS c w s k)(A:Sc c w f ob lo own names s.left)(K:Cell4 c b o z)(k0:w.cell? ⟨b,o,none⟩=some (.int .i64 5))(P:RightC c k w s f z rr)
  {l:Rr (Own×Option Int)}(d:l=match rr s with | .ok v a=>(if a.out.length<200 then .ok (own,none) { a with out:=a.out++[v] } else .stop Tp.full a) | .stop way a=>.stop way a | .gas=>.gas)(D:l≠.gas) :
  Calls Tryz.prog 121 #[.pointer (some ⟨f,0,none⟩),.pointer (some ⟨b,o,none⟩)] w (GoP c k f ob lo names w s l):=by
 obtain⟨a5,k4⟩:=K w s k h
 have M:=h.lt
 have a6:=zf A.blk
 have t:rr s≠.gas:=fun e=>D (by rw[d,e])
 have u:=zh (P w.drew s (h.drew ok) (Kp.drew c nY M) zn t)
 have Y:=zh A
 have Z:=zh ok.Vlt
 have V:=zh ok
 have F:=zh (Kp.drew c nY M)
 have G:Hid (w.drew.cell? ⟨f,0,none⟩=some (.pointer (some ⟨c.gb,0,none⟩))/\w.drew.cell? ⟨b,o+4,none⟩=some (.pointer (some ⟨z,0,none⟩))):=⟨(za A.blk).trans rfl,k4⟩
 have I:Hid (∀W a k',GS c W a k'->Kp c nY w W->W.cell? ⟨f,0,none⟩=some (.pointer (some ⟨c.gb,0,none⟩))/\W.cell? ⟨b,o+4,none⟩=some (.pointer (some ⟨z,0,none⟩))):=fun W a k' y j=>⟨(za (A.kp j ok.Vlt (Nat.zero_le _)).blk).trans rfl,(K W a k' y).2⟩
 clear K h P A ok
 cases p:rr s with
 |gas=>exact absurd p t
 |stop way a =>
  rw[p]at u d
  have x:Hid (∀e W,thrE endT (way:Int) e->(∃k',GS c W a k')->Kp c nY w.drew W->GoP c k f ob lo names w s l e W):=fun e W y j m=>by rw[d];exact⟨y,j,(F.out.trans m).wide⟩
  clear d D t p
  go_enter Tryz.func121,Tryz.ntmps121
  go_wp2_with fail
  go_region_held (fun w'=>w'.cell? ⟨f,0,none⟩=some (.pointer (some ⟨c.gb,0,none⟩))/\w'.cell? ⟨b,o+4,none⟩=some (.pointer (some ⟨z,0,none⟩))) (with_reducible (first|exact n.out.elim|exact G.out)) (first|(go_at_call 150;refine yo u.out ?hT ?_;(case hT=>(rintro e Q ⟨⟨older,rfl⟩,g,i⟩;exact⟨rfl,x.out _ _ ⟨older,rfl⟩ g i⟩));intro n)|(go_at_call 151;refine yo (T:=fun _ _=>False) n.out.elim ?hT2 ?_;(case hT2=>(intro e w h;exact h.elim));intro a0))
  exact n.out.elim
 |ok v a =>
  rw[p]at u d
  simp only at d
  by_cases E:a.out.length<200
  ·rw[if_pos E]at d
   have x:Hid (∀W,GS c W { a with out:=a.out++[v] } k->Kp c nY w W->a.left<=s.left->GoP c k f ob lo names w s l (.returned (.tuple #[])) W):=fun W j m O=>by rw[d];exact⟨rfl,j,m.wide,O,Y.out.kp m Z.out O⟩
   clear d D t p
   go_enter Tryz.func121,Tryz.ntmps121
   go_wp2_with fail
   go_region_held3 (fun w'=>w'.cell? ⟨f,0,none⟩=some (.pointer (some ⟨c.gb,0,none⟩))/\w'.cell? ⟨b,o+4,none⟩=some (.pointer (some ⟨z,0,none⟩))) (with_reducible (first|exact X.out|exact H.out|exact G.out)) (first|(go_at_call 150;refine u.out.mono ?_;rintro e Q ⟨rfl,g,i,C,B⟩;have q:=zh g;have r:=zh (F.out.trans i);have U:=zh C;have S:=zh B;have H:=zh (I.out _ _ _ g r.out);clear g i C B)|(go_at_call 151;refine(rtell_ok q.out V.out v E S.out).mono ?_;rintro e w4 ⟨rfl,J,N⟩;have R:=zh J;have L:=zh (r.out.trans N);have X:=zh (I.out _ _ _ J L.out);clear J N))
   go_wp2_with fail
   exact bodyPost_end (results_none rfl _ _ _) rfl (x.out _ R.out L.out U.out)
  ·rw[if_neg E]at d
   have x:Hid (∀e W,thrE endT (Tp.full:Int) e->GS c W a k->Kp c nY w W->GoP c k f ob lo names w s l e W):=fun e W y j m=>by rw[d];exact⟨y,⟨k,j⟩,m.wide⟩
   clear d D t p
   go_enter Tryz.func121,Tryz.ntmps121
   go_wp2_with fail
   go_region_held (fun w'=>w'.cell? ⟨f,0,none⟩=some (.pointer (some ⟨c.gb,0,none⟩))/\w'.cell? ⟨b,o+4,none⟩=some (.pointer (some ⟨z,0,none⟩))) (with_reducible (first|exact n.out.elim|exact H.out|exact G.out)) (first|(go_at_call 150;refine u.out.mono ?_;rintro e Q ⟨rfl,g,i,C,B⟩;have q:=zh g;have r:=zh (F.out.trans i);have H:=zh (I.out _ _ _ g r.out);clear g i C B)|(go_at_call 151;refine yo (rtell_out q.out v (by have:=q.out.ol;omega)) ?hT2 ?_;(case hT2=>(rintro e w4 ⟨⟨older,rfl⟩,rfl⟩;exact⟨rfl,x.out _ _ ⟨older,rfl⟩ q.out r.out⟩));intro n))
   exact n.out.elim
def BlockC (c:Cx) (k:Nat) (w:World) (s:Rs) (sb:Nat) (ob:Option Nat) (lo:Lo) (names:List Bs) (v:Value) (rt:Rs->Rr (Own×Option Int)):Prop:=∀W s',GS c W s' k->Kp c nY w W->s'.left<=s.left->rt s'≠.gas->Calls Tryz.prog 88 #[.pointer (some ⟨sb,0,none⟩),v] W (GoP c k sb ob lo names W s' (rt s'))
theorem rstmt_if {c:Cx}{k:Nat}{lo:Lo}{names:List Bs}{w:World}{s:Rs}{g b o z:Nat}{ob:Option Nat}{ta ea:Option Addr}{tn tc en ec:Nat}{rr:Rs->Rr Int}{rt re:Rs->Rr (Own×Option Int)}(h:GS c w s k)(H:Cell4 c b o z)(Q:∀W s' k',GS c W s' k'->W.cell? ⟨b,o+5,none⟩=some (.slice ta tn tc)/\W.cell? ⟨b,o+6,none⟩=some (.slice ea en ec))(Z:w.cell? ⟨b,o,none⟩=some (.int .i64 2))(O:RightC c k w s g z rr)
  (P:BlockC c k w s g ob lo names (.slice ta tn tc) rt)(N:BlockC c k w s g ob lo names (.slice ea en ec) re)
  {q:Rr (Own×Option Int)}(a:q=match rr s with | .ok v s'=>(if v=0 then re s' else rt s') | .stop way s'=>.stop way s' | .gas=>.gas)(j:q≠.gas) :
  Calls Tryz.prog 121 #[.pointer (some ⟨g,0,none⟩),.pointer (some ⟨b,o,none⟩)] w (GoP c k g ob lo names w s q):=by
 obtain⟨U,k4⟩:=H w s k h
 have x:rr s≠.gas:=fun e=>j (by rw[a,e])
 have y:=zh (O w s h (Kp.refl _ _ _) zn x)
 have L:=zh H
 have M:=zh Q
 have K:=zh P
 have J:=zh N
 clear H h O Q P N
 cases r:rr s with
 |gas=>exact absurd r x
 |stop way s' =>
  rw[r]at y a
  have n:Hid (∀e W,thrE endT (way:Int) e->(∃k',GS c W s' k')->Kp c nY w W->GoP c k g ob lo names w s q e W):=fun e W A B C=>by rw[a];exact⟨A,B,C.wide⟩
  clear a j x r
  go_enter Tryz.func121,Tryz.ntmps121
  go_wp2_with fail
  refine y.out.mono ?_
  rintro e w2⟨⟨older,rfl⟩,d,f⟩
  have S:=zh d
  have t:=zh f
  clear d f
  go_wp2_with fail
  exact⟨rfl,n.out _ _ ⟨older,rfl⟩ S.out t.out⟩
 |ok v s' =>
  rw[r]at y a
  simp only at a
  by_cases D:v=0
  ·rw[if_pos D]at a
   subst D
   rw[a]at j
   have n:Hid (∀W e p,Kp c nY w W->s'.left<=s.left->GoP c k g ob lo names W s' (re s') e p->GoP c k g ob lo names w s q e p):=fun W e p A B C=>by rw[a];exact C.up A.wide B
   clear a x r K
   go_enter Tryz.func121,Tryz.ntmps121
   go_wp2_with fail
   refine y.out.mono ?_
   rintro e w2⟨rfl,d,f,l,_⟩
   obtain⟨R,_⟩:=L.out w2 s' k d
   obtain⟨_,Y⟩:=M.out w2 s' k d
   have E:=zh (J.out w2 s' d f l j)
   have t:=zh f
   have F:=zh l
   have G:=zh (n.out w2)
   clear d f l n
   generalize re s'=rq at *
   go_wp2_with fail
   refine E.out.mono ?_
   intro e I i
   have m:=zh (G.out e I t.out F.out i)
   cases rq with
   |gas=>exact absurd rfl j
   |stop way s2 =>
    obtain⟨⟨older,rfl⟩,_⟩:=i
    go_wp2_with fail
    exact⟨rfl,m.out⟩
   |ok r1 s2 =>
    obtain⟨T,u⟩:=r1
    cases u with
    |none =>
     obtain⟨rfl,_⟩:=i
     go_wp2_with fail
     exact bodyPost_end (results_none rfl _ _ _) rfl m.out
    |some u =>
     obtain⟨⟨older,rfl⟩,_⟩:=i
     go_wp2_with fail
     exact⟨rfl,m.out⟩
  ·rw[if_neg D]at a
   have V:(v==0)=false:=by simpa using D
   rw[a]at j
   have n:Hid (∀W e p,Kp c nY w W->s'.left<=s.left->GoP c k g ob lo names W s' (rt s') e p->GoP c k g ob lo names w s q e p):=fun W e p A B C=>by rw[a];exact C.up A.wide B
   clear a x r J
   go_enter Tryz.func121,Tryz.ntmps121
   go_wp2_with fail
   refine y.out.mono ?_
   rintro e w2⟨rfl,d,f,l,_⟩
   obtain⟨R,_⟩:=L.out w2 s' k d
   obtain⟨X,_⟩:=M.out w2 s' k d
   have E:=zh (K.out w2 s' d f l j)
   have t:=zh f
   have F:=zh l
   have G:=zh (n.out w2)
   clear d f l n
   generalize rt s'=rq at *
   go_wp2_with fail
   refine E.out.mono ?_
   intro e I i
   have m:=zh (G.out e I t.out F.out i)
   cases rq with
   |gas=>exact absurd rfl j
   |stop way s2 =>
    obtain⟨⟨older,rfl⟩,_⟩:=i
    go_wp2_with fail
    exact⟨rfl,m.out⟩
   |ok r1 s2 =>
    obtain⟨T,u⟩:=r1
    cases u with
    |none =>
     obtain⟨rfl,_⟩:=i
     go_wp2_with fail
     exact bodyPost_end (results_none rfl _ _ _) rfl m.out
    |some u =>
     obtain⟨⟨older,rfl⟩,_⟩:=i
     go_wp2_with fail
     exact⟨rfl,m.out⟩
theorem goW_eq (g k:Nat)(m:Bs)(own:Own)(v:List X)(b:List S)(s:Rs):Tp.goW (g+1) k m own v b s=match Tp.evX g k m own v s with
  | .ok n s1=>(if n=0 then .ok (own,none) s1 else (match Tp.goS g k m own b s1 with
   | .ok r s2=>(match r.2 with
    |some u=>.ok (r.1,some u) s2
    |none=>(match s2.left with
     | 0=>.stop Tp.fuelW s2
     |f+1=>Tp.goW g k m r.1 v b { s2 with left:=f }))
   | .stop way s2=>.stop way s2
   | .gas=>.gas))
  | .stop way s1=>.stop way s1
  | .gas=>.gas:=by
 rw[Tp.goW]
 unfold Tp.Ru.bind
 cases Tp.evX g k m own v s with
 |gas=>rfl
 |stop way s1=>rfl
 |ok n s1 =>
  simp only
  by_cases a:n=0
  ·rw[if_pos a,if_pos a];rfl
  ·rw[if_neg a,if_neg a]
   cases Tp.goS g k m own b s1 with
   |gas=>rfl
   |stop way s2=>rfl
   |ok r s2 =>
    simp only
    cases r.2 with
    |some u=>rfl
    |none =>
     simp only[Tp.tick]
     cases s2.left<;>rfl
theorem uJ {c:Cx}{g:Nat}(ok:CxOk c)(hE:∀n,n<g->EvC c n)(hG:∀n,n<g->GoC c n){k:Nat}{lo:Lo}{own:Own}{names:List Bs}{w:World}{s:Rs}{i b o z:Nat}{ob:Option Nat}{A:List X}{y:List S}{ta:Option Addr}{tn tc:Nat}(h:GS c w s k)(hs:Sc c w i ob lo own names s.left)(hX:Cell4 c b o z)(hY:∀W s' k',GS c W s' k'->W.cell? ⟨b,o+5,none⟩=some (.slice ta tn tc))(k0:w.cell? ⟨b,o,none⟩=some (.int .i64 3))
  (b0:Ex c lo names A z)(b5:Ss c lo names y (.slice ta tn tc))
  {l:Rr (Own×Option Int)}(a8:l=Tp.goW g k lo.m.name own A y s)(b3:l≠.gas) :
  Calls Tryz.prog 121 #[.pointer (some ⟨i,0,none⟩),.pointer (some ⟨b,o,none⟩)] w (GoP c k i ob lo names w s l):=by
 obtain⟨d0,k4⟩:=hX w s k h
 have HX:=zh hX
 have HY:=zh hY
 have HE:=zh hE
 have c1:=zh hG
 have Q:=zh ok
 have b6:=zh b0
 have c6:=zh b5
 have HN:=zh b3
 have b9:=zh h
 have c4:=zh hs
 have b7:Hid (∃q,q<=g/\l=Tp.goW q k lo.m.name own A y s):=⟨g,Nat.le_refl _,a8⟩
 clear hX h hY hE hG ok b0 b5 b3 hs a8
 go_enter Tryz.func121,Tryz.ntmps121
 go_wp2_with fail
 go_loopg [] s.left (fun kk wr=>∃(j:Rs) (v:Own),kk=j.left/\Hid (GS c wr j k)/\Hid (Kp c (oY ob) w wr)/\Hid (j.left<=s.left)/\Hid (Sc c wr i ob lo v names j.left)/\Hid (∃q,q<=g/\l=Tp.goW q k lo.m.name v A y j))
 case atStart=>exact⟨s,own,rfl,b9,Kp.refl _ _ _,Nat.le_refl _,c4,b7⟩
 case round =>
  obtain⟨j,v,d3,HG,HK,U,HS,T⟩:=hrel
  obtain⟨q,d2,d⟩:=T.out
  cases q with
  |zero=>exact absurd (by rw[d,Tp.goW];rfl) HN.out
  |succ g1 =>
   rw[goW_eq]at d
   have K:Tp.evX g1 k lo.m.name v A j≠.gas:=fun e=>HN.out (by rw[d,e])
   have M:=zh (HE.out g1 (by omega) k lo v names A z wr j i ob b6.out HG.out HS.out K)
   obtain⟨c8,j4⟩:=HX.out wr j k HG.out
   cases G:Tp.evX g1 k lo.m.name v A j with
   |gas=>exact absurd G K
   |stop way s1 =>
    rw[G]at M d
    have t:Hid (∀e W,thrE endT (way:Int) e->(∃k',GS c W s1 k')->Kp c nY wr W->GoP c k i ob lo names w s l e W):=fun e W a1 V Y=>by rw[d];exact⟨a1,V,HK.out.trans Y.wide⟩
    clear d K G T k4
    go_wp2_with fail
    refine M.out.mono ?_
    rintro e w2⟨⟨older,rfl⟩,p,r⟩
    have a0:=zh p
    have C:=zh r
    clear p r
    go_wp2_with fail
    exact⟨rfl,t.out _ _ ⟨older,rfl⟩ a0.out C.out⟩
   |ok n s1 =>
    rw[G]at M d
    simp only at d
    by_cases Z:n=0
    ·rw[if_pos Z]at d
     subst Z
     have t:Hid (∀W,GS c W s1 k->Kp c nY wr W->s1.left<=j.left->GoP c k i ob lo names w s l (.returned (.tuple #[])) W):=fun W a1 V Y=>by rw[d];exact⟨rfl,a1,HK.out.trans V.wide,Nat.le_trans Y U.out,HS.out.kp V Q.out.Vlt Y⟩
     clear d K G T k4
     go_wp2_with fail
     refine M.out.mono ?_
     rintro e w2⟨rfl,p,r,F,_⟩
     have a0:=zh p
     have C:=zh r
     have I:=zh F
     clear p r F
     go_wp2_with fail
     exact bodyPost_end (results_none rfl _ _ _) rfl (t.out _ a0.out C.out I.out)
    ·rw[if_neg Z]at d
     have d4:(n==0)=false:=by simpa using Z
     have b2:Tp.goS g1 k lo.m.name v y s1≠.gas:=fun e=>HN.out (by rw[d,e])
     have J:=zh b2
     have P:=zh d
     clear d K G T k4 b2
     go_wp2_with fail
     refine M.out.mono ?_
     rintro e w2⟨rfl,p,r,F,_⟩
     have b4:=HS.out.kp r Q.out.Vlt F
     have H:=zh (c1.out g1 (by omega) k lo v names y (.slice ta tn tc) w2 s1 i ob c6.out p b4 J.out)
     obtain⟨c7,_⟩:=HX.out w2 s1 k p
     have j5:=HY.out w2 s1 k p
     have C:=zh (HK.out.trans r.wide)
     have I:Hid (s1.left<=j.left):=F
     have d:=P.out
     clear p r F b4 j4
     cases E:Tp.goS g1 k lo.m.name v y s1 with
     |gas=>exact absurd E J.out
     |stop way s3 =>
      rw[E]at H d
      have t:Hid (∀e W,GoP c k i ob lo names w2 s1 (.stop way s3) e W->GoP c k i ob lo names w s l e W):=fun e W a=>by rw[d];exact a.up C.out (Nat.le_trans I.out U.out)
      clear d E J P
      go_wp2_with fail
      refine H.out.mono ?_
      intro e B N
      have HQ:=zh (t.out e B N)
      obtain⟨⟨older,rfl⟩,_⟩:=N
      go_wp2_with fail
      exact⟨rfl,HQ.out⟩
     |ok r1 s3 =>
      obtain⟨R,u⟩:=r1
      rw[E]at H d
      simp only at d
      cases u with
      |some u =>
       simp only at d
       have t:Hid (∀e W,GoP c k i ob lo names w2 s1 (.ok (R,some u) s3) e W->GoP c k i ob lo names w s l e W):=fun e W a=>by rw[d];exact a.up C.out (Nat.le_trans I.out U.out)
       clear d E J P
       go_wp2_with fail
       refine H.out.mono ?_
       intro e B N
       have HQ:=zh (t.out e B N)
       obtain⟨⟨older,rfl⟩,_⟩:=N
       go_wp2_with fail
       exact⟨rfl,HQ.out⟩
      |none =>
       simp only at d
       have O:=zh d
       clear d E J P
       go_wp2_with fail
       refine H.out.mono ?_
       rintro e B⟨rfl,x,a5,b1,L⟩
       have a9:=zh (C.out.trans a5)
       have d5:B.cell? ⟨i,0,none⟩=some (.pointer (some ⟨c.gb,0,none⟩)):=(za L.blk).trans rfl
       have c9:=zf L.blk
       have a7:=I.out
       have a6:=U.out
       cases D:s3.left with
       |zero =>
        have d:=O.out
        rw[D]at d
        have t:Hid (∀e,thrE endT (Tp.fuelW:Int) e->GoP c k i ob lo names w s l e B):=fun e a=>by rw[d];exact⟨a,⟨k,x⟩,a9.out⟩
        have a4:=zh (vC x D)
        clear d x a5 b1 L O D a7 a6
        go_wp2_with fail
        refine a4.out.mono ?_
        rintro e w4⟨⟨older,rfl⟩,rfl⟩
        go_wp2_with fail
        exact⟨rfl,t.out _ ⟨older,rfl⟩⟩
       |succ f =>
        have d:=O.out
        rw[D]at d
        have a4:=zh (rstep_ok x D)
        have c0:=zh (x.tick Q.out D)
        have c2:Hid (Kp c (oY ob) w (B.setCell ⟨c.gb,1,none⟩ (.int .i64 (f:Int)))):=a9.out.trans (Kp.reg x (by omega)).wide
        have c5:Hid (Sc c (B.setCell ⟨c.gb,1,none⟩ (.int .i64 (f:Int))) i ob lo R names f):=L.kp (Kp.reg x (by omega)) Q.out.Vlt (by omega)
        have b8:Hid (∃q,q<=g/\l=Tp.goW q k lo.m.name R A y { s3 with left:=f }):=⟨g1,by omega,d⟩
        have d1:f<gk:=by omega
        have c3:Hid (f<=s.left):=by show f<=s.left;omega
        clear d x a5 b1 L O D a7 a6
        go_wp2_with fail
        refine a4.out.mono ?_
        rintro e w4⟨rfl,rfl⟩
        go_wp2_with fail
        go_roundg f
        case measure=>omega
        case rel=>exact⟨{ s3 with left:=f },R,rfl,c0,c2,c3,c5,b8⟩
def mapR (r:Rr Int) (f:Int->Rs->Rr (Own×Option Int)):Rr (Own×Option Int):=match r with
 | .ok v s=>f v s
 | .stop way s=>.stop way s
 | .gas=>.gas
theorem go1_own {g k:Nat}{m nm:Bs}{own:Own}{pos:Nat}{a:List X}{d b:List S}{s:Rs}{u:Int}(c:own nm=some u):Tp.go1 (g+1) k m own ⟨1,pos,nm,[],a,d,b⟩ s=match Tp.evX g k m own a s with | .ok v s'=>.ok (updO own nm v,none) s' | .stop way s'=>.stop way s' | .gas=>.gas:=by
 rw[Tp.go1]
 show (Tp.Ru.bind _ _) s=_
 unfold Tp.Ru.bind
 cases Tp.evX g k m own a s with
 |gas=>rfl
 |stop way s'=>rfl
 |ok v s' =>
  simp only[c]
  rfl
theorem go1_var {g k:Nat}{m nm:Bs}{own:Own}{pos:Nat}{a:List X}{d b:List S}{s:Rs}(c:own nm=none):Tp.go1 (g+1) k m own ⟨1,pos,nm,[],a,d,b⟩ s=match Tp.evX g k m own a s with | .ok v s'=>.ok (own,none) (setS s' m nm [v]) | .stop way s'=>.stop way s' | .gas=>.gas:=by
 rw[Tp.go1]
 show (Tp.Ru.bind _ _) s=_
 unfold Tp.Ru.bind
 cases Tp.evX g k m own a s with
 |gas=>rfl
 |stop way s'=>rfl
 |ok v s' =>
  simp only[c]
  rfl
theorem go1_item {g k:Nat}{m nm:Bs}{own:Own}{pos:Nat}{a b:List X}{e c:List S}{s:Rs}(d:a≠[]):Tp.go1 (g+1) k m own ⟨1,pos,nm,a,b,e,c⟩ s=match Tp.evX g k m own a s with
   | .ok i s'=>(match Tp.evX g k m own b s' with | .ok v s2=>itemR2 own m nm i v s2 | .stop way s2=>.stop way s2 | .gas=>.gas)
   | .stop way s'=>.stop way s'
   | .gas=>.gas:=by
 rw[Tp.go1]
 simp only[if_true]
 rw[if_neg d]
 unfold Tp.Ru.bind
 cases Tp.evX g k m own a s with
 |gas=>rfl
 |stop way s'=>rfl
 |ok i s' =>
  simp only
  cases Tp.evX g k m own b s' with
  |gas=>rfl
  |stop way s2=>rfl
  |ok v s2 =>
   simp only[Tp.getV]
   unfold itemR2 itemSet
   split
   ·rfl
   ·rfl
theorem go1_2 {g k:Nat}{m nm:Bs}{own:Own}{pos:Nat}{d a:List X}{c b:List S}{s:Rs}:Tp.go1 (g+1) k m own ⟨2,pos,nm,d,a,c,b⟩ s=match Tp.evX g k m own a s with | .ok v s'=>(if v=0 then Tp.goS g k m own b s' else Tp.goS g k m own c s') | .stop way s'=>.stop way s' | .gas=>.gas:=by
 rw[Tp.go1]
 show (Tp.Ru.bind _ _) s=_
 unfold Tp.Ru.bind
 cases Tp.evX g k m own a s with
 |gas=>rfl
 |stop way s'=>rfl
 |ok v s' =>
  simp only
  by_cases h:v=0
  ·rw[if_pos h,if_pos h]
  ·rw[if_neg h,if_neg h]
theorem go1_3 {g k:Nat}{m nm:Bs}{own:Own}{pos:Nat}{d b:List X}{a c:List S}{s:Rs}:Tp.go1 (g+1) k m own ⟨3,pos,nm,d,b,a,c⟩ s=Tp.goW g k m own b a s:=by rw[Tp.go1];rfl
theorem go1_4 {g k:Nat}{m nm:Bs}{own:Own}{pos:Nat}{c a:List X}{d b:List S}{s:Rs}:Tp.go1 (g+1) k m own ⟨4,pos,nm,c,a,d,b⟩ s=match Tp.evX g k m own a s with | .ok v s'=>.ok (own,some v) s' | .stop way s'=>.stop way s' | .gas=>.gas:=by
 rw[Tp.go1]
 show (Tp.Ru.bind _ _) s=_
 unfold Tp.Ru.bind
 cases Tp.evX g k m own a s<;>rfl
theorem go1_5 {g k:Nat}{m nm:Bs}{own:Own}{pos:Nat}{c a:List X}{d b:List S}{s:Rs}:Tp.go1 (g+1) k m own ⟨5,pos,nm,c,a,d,b⟩ s=match Tp.evX g k m own a s with | .ok v s'=>(if s'.out.length<200 then .ok (own,none) { s' with out:=s'.out++[v] } else .stop Tp.full s') | .stop way s'=>.stop way s' | .gas=>.gas:=by
 rw[Tp.go1]
 show (Tp.Ru.bind _ _) s=_
 unfold Tp.Ru.bind
 cases Tp.evX g k m own a s with
 |gas=>rfl
 |stop way s'=>rfl
 |ok v s' =>
  simp only[Tp.tellN]
  by_cases h:s'.out.length<200
  ·rw[if_pos h,if_pos h];rfl
  ·rw[if_neg h,if_neg h]
theorem go1_6 {g k:Nat}{m nm:Bs}{own:Own}{pos:Nat}{c a:List X}{d b:List S}{s:Rs}:Tp.go1 (g+1) k m own ⟨6,pos,nm,c,a,d,b⟩ s=match Tp.evX g k m own a s with | .ok _ s'=>.ok (own,none) s' | .stop way s'=>.stop way s' | .gas=>.gas:=by
 rw[Tp.go1]
 show (Tp.Ru.bind _ _) s=_
 unfold Tp.Ru.bind
 cases Tp.evX g k m own a s<;>rfl
theorem rstmt_set {c:Cx}{k:Nat}{lo:Lo}{names:List Bs}{w:World}{s:Rs}{f b o:Nat}{ob:Option Nat}(_hbl:b<w.heap.size)(l:w.cell? ⟨b,o,none⟩=some (.int .i64 1)){a:Rr (Own×Option Int)}(i:a≠.gas)
  (h:Calls Tryz.prog 149 #[.pointer (some ⟨f,0,none⟩),.pointer (some ⟨b,o,none⟩)] w (GoP c k f ob lo names w s a)) :
  Calls Tryz.prog 121 #[.pointer (some ⟨f,0,none⟩),.pointer (some ⟨b,o,none⟩)] w (GoP c k f ob lo names w s a):=by
 have j:=zh h
 clear h
 go_enter Tryz.func121,Tryz.ntmps121
 go_wp2_with fail
 refine j.out.mono ?_
 intro e n d
 have g:=zh d
 cases a with
 |gas=>exact absurd rfl i
 |stop way s2 =>
  obtain⟨⟨older,rfl⟩,_⟩:=d
  go_wp2_with fail
  exact⟨rfl,g.out⟩
 |ok r1 s2 =>
  obtain⟨m,u⟩:=r1
  cases u with
  |none =>
   obtain⟨rfl,_⟩:=d
   go_wp2_with fail
   exact bodyPost_end (results_none rfl _ _ _) rfl g.out
  |some u =>
   obtain⟨⟨older,rfl⟩,_⟩:=d
   go_wp2_with fail
   exact⟨rfl,g.out⟩
theorem ja {code pos:Nat}{nm:Bs}{a d:List X}{c b:List S}:Tp.rs [⟨code,pos,nm,a,d,c,b⟩]=(if code=1 then [⟨if a.isEmpty then 2 else 3,pos,[],nm,0⟩] else [])++Tp.rx a++Tp.rx d++Tp.rs c++Tp.rs b:=by simp[Tp.rs]
theorem rstmt_all {c:Cx}{g:Nat}(ok:CxOk c)(hE:∀n,n<g+1->EvC c n)(hG:∀n,n<g+1->GoC c n):Go1C c (g+1):=by
 intro k lo own names x b o w s H ob a3 Y I h j p
 obtain⟨code,pos,nm,C,l,K,Q⟩:=x
 obtain⟨tv,ev,ls,vs,a4,a8,c0,c2,c3,J,c5,c6,N,_,rv,_,rt,R,re,oe⟩:=a3.r
 simp only at c0 c2 N rv rt R re oe
 rw[Tp.WS]at Y
 have a2:Tp.ev l:=by
  rcases Y.1 with q|q|q|q|q
  ·exact q.2.2.2.1
  ·exact q.2.2.2.1
  ·exact q.2.2.2.1
  ·exact q.2.2.2.1
  ·exact q.2.2.2.1
 obtain⟨z,rfl,_⟩:=rv.part a2.2.1
 have a0:Ex c lo names l z:=⟨rv,a2.1,fun r A=>I r (by rw[ja];simp[A])⟩
 have d:=a3.d
 have F:=h.cell0 d c0
 have b0:=zg F
 have L:Cell4 c b o z:=fun W f k' i=>⟨zg (i.cell0 d J),i.cell0 d J⟩
 have E:RightC c k w s H z (fun f=>Tp.evX g k lo.m.name own l f):=fun W f i D hL v=>hE g (by omega) k lo own names l z W f H ob a0 i (j.kp D ok.Vlt (by omega)) v
 have X:Sc c w H ob lo own names s.left:=j.kp (Kp.refl _ _ _) ok.Vlt (by omega)
 obtain⟨ta,tc,rfl⟩:=R.shape
 obtain⟨ea,ec,rfl⟩:=oe.shape
 rcases Y.1 with q|q|q|q|q
 ·obtain⟨rfl,a6,b2,_,rfl,rfl⟩:=q
  have V:=zQ a6
  have hf:=I ⟨if C.isEmpty then 2 else 3,pos,[],nm,0⟩ (by rw[ja];simp)
  refine rstmt_set b0 F p ?_
  rcases b2 with rfl|⟨b5,T,_⟩
  ·have a9:ls=[]:=by rw[RepL]at N;exact N
   subst a9
   have O:CellS c b o nm (.pointer none) z:=fun W f k' i=>⟨zg (i.cell0 d J),i.cell0 d c2,i.cell0 d c3,i.cell0 d J⟩
   rcases hf.v2 rfl with⟨_,B⟩|⟨M,m',g',B,G,q4⟩
   ·simp only at B
    obtain⟨u,hu⟩:=Option.isSome_iff_exists.1 ((j.dom nm).2 B)
    cases ob with
    |none =>
     have:=j.om nm
     rw[this]at hu
     cases hu
    |some ob=>exact set_own (rr:=fun f=>Tp.evX g k lo.m.name own l f) ok h j O V B E (go1_own hu) p
   ·simp only at M B G
    have P:=M trivial
    have U:m'=lo.m:=by simpa[Tp.atM] using B
    rw[U]at G
    have b3:own nm=none:=by
     cases ho:own nm with
     |none=>rfl
     |some u=>exact absurd ((j.dom nm).1 (by rw[ho];rfl)) P
    exact set_var (rr:=fun f=>Tp.evX g k lo.m.name own l f) ok h j O V P G q4 E (go1_var b3) p
  ·have a1:C≠[]:=fun e=>by rw[e]at T;simp at T
   obtain⟨y,rfl,_⟩:=N.part T
   have b1:C.isEmpty=false:=by cases C with|nil=>exact absurd rfl a1|cons a t=>rfl
   rw[b1]at hf
   obtain⟨M,m',g',B,G,q4⟩:=hf.v3 rfl
   simp only at M B G
   have P:=M trivial
   have U:m'=lo.m:=by simpa[Tp.atM] using B
   rw[U]at G
   have a5:Ex c lo names C y:=⟨N,b5,fun r A=>I r (by rw[ja];simp[A])⟩
   have O:CellS c b o nm (.pointer (some ⟨y,0,none⟩)) z:=fun W f k' i=>⟨zg (i.cell0 d J),i.cell0 d c2,i.cell0 d c3,i.cell0 d J⟩
   have hI:RightC c k w s H y (fun f=>Tp.evX g k lo.m.name own C f):=fun W f i D hL v=>hE g (by omega) k lo own names C y W f H ob a5 i (j.kp D ok.Vlt (by omega)) v
   exact set_item (ri:=fun f=>Tp.evX g k lo.m.name own C f) (rr:=fun f=>Tp.evX g k lo.m.name own l f) ok h j O V P G hI E (go1_item a1) p
 ·obtain⟨rfl,_,_,_,Z,b4⟩:=q
  have S:Ss c lo names K (.slice ta K.length tc):=⟨⟨a4,rt,R⟩,Z,fun r A=>I r (by rw[ja];simp[A])⟩
  have a7:Ss c lo names Q (.slice ea Q.length ec):=⟨⟨a8,re,oe⟩,b4,fun r A=>I r (by rw[ja];simp[A])⟩
  exact rstmt_if (rr:=fun f=>Tp.evX g k lo.m.name own l f) (rt:=fun f=>Tp.goS g k lo.m.name own K f) (re:=fun f=>Tp.goS g k lo.m.name own Q f) h L (fun W f k' i=>⟨i.cell0 d c5,i.cell0 d c6⟩) F E
   (fun W f i D hL v=>hG g (by omega) k lo own names K _ W f H ob S i (j.kp D ok.Vlt (by omega)) v)
   (fun W f i D hL v=>hG g (by omega) k lo own names Q _ W f H ob a7 i (j.kp D ok.Vlt (by omega)) v) go1_2 p
 ·obtain⟨rfl,_,_,_,Z,_⟩:=q
  have S:Ss c lo names K (.slice ta K.length tc):=⟨⟨a4,rt,R⟩,Z,fun r A=>I r (by rw[ja];simp[A])⟩
  exact uJ ok (fun n v=>hE n (by omega)) (fun n v=>hG n (by omega)) h X L (fun W f k' i=>i.cell0 d c5) F a0 S go1_3 p
 ·obtain⟨hc,_⟩:=q
  rcases hc with rfl|rfl
  ·exact vB (rr:=fun f=>Tp.evX g k lo.m.name own l f) h L F E go1_4 p
  ·exact uI (rr:=fun f=>Tp.evX g k lo.m.name own l f) ok h X L F E go1_5 p
 ·obtain⟨rfl,_⟩:=q
  exact rstmt_call (rr:=fun f=>Tp.evX g k lo.m.name own l f) ok h X L F E go1_6 p
end Go.Proofs.YtibncofnnlbmcaaGreatDoor
