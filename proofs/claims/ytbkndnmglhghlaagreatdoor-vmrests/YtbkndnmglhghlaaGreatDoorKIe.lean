import Derived.Test.YtbkndnmglhghlaaGreatDoorKId
set_option maxRecDepth 100000
set_option maxHeartbeats 4000000

namespace Go.Proofs.YtbkndnmglhghlaaGreatDoor.Jo
open Go.RowKit Go.Maps
open Ob (O In I64)
open Vm (St Fr Pl)
variable {vv:List (List Int)}{s:St}{A sv w y:Value}{c:Vx}{W:World}
theorem step_11 {B:Value}(h:MM c W s vv y sv B)(ok:VxOk c)(z:G8 c W y sv B s.way){f:Fr}{fs:List Fr}(F:s.frames=f :: fs)(a3:f.base<=s.stack.length)(G:f.at'<c.O.code.length)(a9:c.O.code[f.at'].op=11) :
  Calls Tryz.prog 50 #[.pointer (some ⟨c.gb,0,none⟩)] W (StepP c (Vm.exec c.most { f with at':=f.at'+1 } fs ⟨c.O,vv⟩ c.O.code[f.at'] (Vm.going { f with at':=f.at'+1 } fs s))):=by
 obtain⟨fb,cap,l,P,c5,Q⟩:=h.top F
 have c1:=zc z
 have d6:=zV ok
 have a1:=zh (last8 h z F l)
 have hI:=ok.i64 _ (List.getElem_mem G)
 have M:=inst8 ok G
 have L:Hid (∀d,Below c.w0.heap.size c.w0 d->∃b o E,d.cell? ⟨c.ob,c.oo+6,none⟩=some (.slice (some ⟨b,o,none⟩) c.O.code.length E)/\b<d.heap.size/\c.ob<d.heap.size/\d.cell? ⟨b,o+f.at'*3,none⟩=some (.int .i64 c.O.code[f.at'].op)/\d.cell? ⟨b,o+f.at'*3+1,none⟩=some (.int .i64 c.O.code[f.at'].a)/\d.cell? ⟨b,o+f.at'*3+2,none⟩=some (.int .i64 c.O.code[f.at'].b)):=fun d g=>code8 ok g G
 generalize c.O.code[f.at']=x at *
 obtain⟨d8,q,r⟩:=x
 simp only at a9 hI L
 subst a9
 unfold Ob.instB at M
 have a4:∀t,Vm.exec c.most { f with at':=f.at'+1 } fs ⟨c.O,vv⟩ ⟨11,q,r⟩ t=Vm.taken f.base t fun n s=>Vm.put (if n=0 then 1 else 0) s:=fun t=>by simp[Vm.exec]
 rw[a4]
 have T:Hid (∀d,Below W.heap.size W d->MM c d s vv y sv B/\G8 c d y sv B s.way):=fun d g=>⟨h.below ok z g,(g.block _ c1).trans z⟩
 have U:Hid (∀d,Below W.heap.size W d->d.cell? ⟨fb,fs.length*14,none⟩=some (.pointer (some ⟨c.pb,0,none⟩))/\d.cell? ⟨fb,fs.length*14+1,none⟩=some (.int .i64 (f.at':Int))/\d.cell? ⟨c.pb,0,none⟩=some (.pointer (some ⟨c.ob,c.oo,none⟩))/\fb<d.heap.size/\c.pb<d.heap.size/\d.frozen? ⟨fb,fs.length*14+1,none⟩=false):=fun d g=>by
  obtain⟨V,_⟩:=(⟨h.below ok z g,trivial⟩:MM c d s vv y sv B/\True)
  refine⟨(g.cell (p:=⟨fb,fs.length*14,none⟩) P).trans (Q 0 _ rfl),(g.cell (p:=⟨fb,fs.length*14+1,none⟩) P).trans (Q 1 _ rfl),(za V.pk).trans rfl,Nat.lt_of_lt_of_le P g.size,zc V.pk,?_⟩
  rcases V.fr.2 with⟨e,_⟩|⟨g',cp',cur',e,_,hh,_⟩
  ·rw[e]at l;cases l
  ·rw[e]at l
   simp only[Value.slice.injEq,Option.some.injEq,Addr.mk.injEq]at l
   rw[<-l.1.1]
   exact zi hh
 have C:=zh (h.ff f (by rw[F];simp))
 have S:=zh (And.intro F (And.intro l a3))
 have b6:=zh ok
 have d0:=zh G
 have d5:(f.at':Int)<4000:=by omega
 have c4:(f.at':Int)<(c.O.code.length:Int):=by omega
 obtain⟨u,A⟩:∃u,u=Vm.going { f with at':=f.at'+1 } fs s:=⟨_,rfl⟩
 have b3:Hid (u.frames={ f with at':=f.at'+1 } :: fs):=by rw[A];rfl
 have d1:Hid (f.base<=u.stack.length):=by rw[A];exact S.out.2.2
 have c0:Hid (u.way=s.way):=by rw[A];rfl
 have b9:=zh A
 rw[<-A]
 clear A
 have d2:=zh M
 clear a3 Q l h z F M
 go_enter Tryz.func50,Tryz.ntmps50
 go_wp2_with fail
 refine a1.out.mono ?_
 rintro e d⟨rfl,D⟩
 obtain⟨x0,x1,x2,Z,b1,z1⟩:=U.out d D
 obtain⟨a7,a5⟩:=T.out d D
 obtain⟨eb,j,E,k6,N,c2,e0,e1,e2⟩:=L.out d a7.be
 obtain⟨m,H⟩:∃m,m=(d.alloc (.cells #[.int .i64 11,.int .i64 q,.int .i64 r] 138)).drew:=⟨_,rfl⟩
 have b2:Hid (Below d.heap.size d m):=by rw[H];exact(zb _ _).drew
 have R:m.heap[d.heap.size]?=some (.cells #[.int .i64 11,.int .i64 q,.int .i64 r] 138 (0,0)):=by rw[H];exact zl d _
 have d3:=zh R
 have X:Hid (Below W.heap.size W m):=D.trans (b2.out.mono D.size)
 obtain⟨y0,y1,_,c6,c8,z2⟩:=U.out m X.out
 obtain⟨a8,a6⟩:=T.out m X.out
 obtain⟨k,I⟩:∃k,k=m.setCell ⟨fb,fs.length*14+1,none⟩ (.int .i64 ((f.at':Int)+1)):=⟨_,rfl⟩
 have a0:FrOk c { f with at':=f.at'+1 }:=⟨C.out.of,C.out.ll,C.out.li,C.out.mn,by show f.at'+1<=4000;omega,C.out.bs⟩
 obtain⟨J,K⟩:=a8.frset a6 S.out.1 S.out.2.1 1 (.int .i64 ((f.at':Int)+1)) a0 (yx c f (f.at'+1))
 rw[<-I]at J K
 have c3:d.heap.size≠fb:=by omega
 have d7:d.heap.size≠c.gb:=by have:=zc a5;omega
 have w:k.heap[d.heap.size]?=some (.cells #[.int .i64 11,.int .i64 q,.int .i64 r] 138 (0,0)):=by rw[I];exact(Below.heap_setCell _ _ _ _ (by simpa using c3)).trans R
 have q0:k.cell? ⟨d.heap.size,0,none⟩=some (.int .i64 11):=(za w).trans rfl
 have q1:k.cell? ⟨d.heap.size,1,none⟩=some (.int .i64 q):=(za w).trans rfl
 have q2:k.cell? ⟨d.heap.size,2,none⟩=some (.int .i64 r):=(za w).trans rfl
 have c9:d.heap.size<k.heap.size:=zc w
 have c7:c.gb<k.heap.size:=zc K
 rw[<-b9.out]at J
 have b5:=zh J
 have b4:Hid (G8 c k y sv B u.way):=by rw[c0.out];exact K
 have d4:=zh w
 have HC:=zh (not8 b5.out b6.out b4.out b3.out)
 clear a7 a5 a8 a6 J K w R D U T a1 a0 a4 L
 generalize f.at'=at' at *
 have a2:Hid (∀i,Below d.heap.size d i->i.cell? ⟨fb,fs.length*14,none⟩=some (.pointer (some ⟨c.pb,0,none⟩))/\i.cell? ⟨fb,fs.length*14+1,none⟩=some (.int .i64 (at':Int))/\i.cell? ⟨c.pb,0,none⟩=some (.pointer (some ⟨c.ob,c.oo,none⟩))/\i.cell? ⟨c.ob,c.oo+6,none⟩=some (.slice (some ⟨eb,j,none⟩) c.O.code.length E)/\i.cell? ⟨eb,j+at'*3,none⟩=some (.int .i64 11)/\i.cell? ⟨eb,j+at'*3+1,none⟩=some (.int .i64 q)/\i.cell? ⟨eb,j+at'*3+2,none⟩=some (.int .i64 r)):=fun i g=>⟨(g.cell (p:=⟨fb,fs.length*14,none⟩) Z).trans x0,(g.cell (p:=⟨fb,fs.length*14+1,none⟩) Z).trans x1,(g.cell (p:=⟨c.pb,0,none⟩) b1).trans x2,(g.cell (p:=⟨c.ob,c.oo+6,none⟩) c2).trans k6,(g.cell (p:=⟨eb,j+at'*3,none⟩) N).trans e0,(g.cell (p:=⟨eb,j+at'*3+1,none⟩) N).trans e1,(g.cell (p:=⟨eb,j+at'*3+2,none⟩) N).trans e2⟩
 have b7:=zh (a2.out _ (zt d))
 have b8:Hid (∀o,(d.alloc o).drew.cell? ⟨fb,fs.length*14,none⟩=some (.pointer (some ⟨c.pb,0,none⟩))/\(d.alloc o).drew.cell? ⟨fb,fs.length*14+1,none⟩=some (.int .i64 (at':Int))/\(d.alloc o).drew.cell? ⟨c.pb,0,none⟩=some (.pointer (some ⟨c.ob,c.oo,none⟩))/\(d.alloc o).drew.cell? ⟨c.ob,c.oo+6,none⟩=some (.slice (some ⟨eb,j,none⟩) c.O.code.length E)/\(d.alloc o).drew.cell? ⟨eb,j+at'*3,none⟩=some (.int .i64 11)/\(d.alloc o).drew.cell? ⟨eb,j+at'*3+1,none⟩=some (.int .i64 q)/\(d.alloc o).drew.cell? ⟨eb,j+at'*3+2,none⟩=some (.int .i64 r)):=fun o=>a2.out _ (zb _ _).drew
 go_upto_region 1 with fail
 go_region_held3 (fun i=>i.cell? ⟨fb,fs.length*14,none⟩=some (.pointer (some ⟨c.pb,0,none⟩))/\i.cell? ⟨fb,fs.length*14+1,none⟩=some (.int .i64 (at':Int))/\i.cell? ⟨c.pb,0,none⟩=some (.pointer (some ⟨c.ob,c.oo,none⟩))/\i.cell? ⟨c.ob,c.oo+6,none⟩=some (.slice (some ⟨eb,j,none⟩) c.O.code.length E)/\i.cell? ⟨eb,j+at'*3,none⟩=some (.int .i64 11)/\i.cell? ⟨eb,j+at'*3+1,none⟩=some (.int .i64 q)/\i.cell? ⟨eb,j+at'*3+2,none⟩=some (.int .i64 r)) (with_reducible (first|exact b7.out|exact b8.out _)) (fail)
 rw[<-H]
 clear H x0 x1 e0 e1 e2 k6
 go_upto_region 3 with fail
 rw[<-I]
 clear I y0 y1
 go_wp2_with fail
 refine HC.out.mono ?_
 intro e w4 hq
 obtain⟨rfl,b0⟩:=hq
 have Y:Hid (StepP c (Vm.taken f.base u fun n s=>Vm.put (if n=0 then 1 else 0) s) (.returned (.tuple #[])) w4):=⟨rfl,b0⟩
 clear b0
 go_wp2_with fail
 first|exact ze rfl rfl Y.out|exact bodyPost_ret (v:=.tuple #[]) (by simp[results,Tryz.results50,go_sem]) rfl Y.out
theorem step_12 {D:Value}(h:MM c W s vv A sv D)(ok:VxOk c)(B:G8 c W A sv D s.way){f:Fr}{fs:List Fr}(H:s.frames=f :: fs)(a9:f.base<=s.stack.length)(I:f.at'<c.O.code.length)(b5:c.O.code[f.at'].op=12) :
  Calls Tryz.prog 50 #[.pointer (some ⟨c.gb,0,none⟩)] W (StepP c (Vm.exec c.most { f with at':=f.at'+1 } fs ⟨c.O,vv⟩ c.O.code[f.at'] (Vm.going { f with at':=f.at'+1 } fs s))):=by
 obtain⟨fb,cap,n,T,d1,U⟩:=h.top H
 have c6:=zc B
 have e7:=zV ok
 have a7:=zh (last8 h B H n)
 have hI:=ok.i64 _ (List.getElem_mem I)
 have y:=inst8 ok I
 have P:Hid (∀d,Below c.w0.heap.size c.w0 d->∃b o G,d.cell? ⟨c.ob,c.oo+6,none⟩=some (.slice (some ⟨b,o,none⟩) c.O.code.length G)/\b<d.heap.size/\c.ob<d.heap.size/\d.cell? ⟨b,o+f.at'*3,none⟩=some (.int .i64 c.O.code[f.at'].op)/\d.cell? ⟨b,o+f.at'*3+1,none⟩=some (.int .i64 c.O.code[f.at'].a)/\d.cell? ⟨b,o+f.at'*3+2,none⟩=some (.int .i64 c.O.code[f.at'].b)):=fun d g=>code8 ok g I
 generalize c.O.code[f.at']=x at *
 obtain⟨e9,N,r⟩:=x
 simp only at b5 hI P
 subst b5
 unfold Ob.instB at y
 have y:0<=N/\N<(c.O.code.length:Int):=by simp[Ob.countsB,Ob.choices]at y;exact y.2
 obtain⟨j,rfl⟩:∃j:Nat,N=(j:Int):=⟨N.toNat,by omega⟩
 have b0:∀t,Vm.exec c.most { f with at':=f.at'+1 } fs ⟨c.O,vv⟩ ⟨12,(j:Int),r⟩ t=Vm.going ({ f with at':=j }:Fr) fs t:=fun t=>by simp[Vm.exec]
 rw[b0]
 have X:Hid (∀d,Below W.heap.size W d->MM c d s vv A sv D/\G8 c d A sv D s.way):=fun d g=>⟨h.below ok B g,(g.block _ c6).trans B⟩
 have Y:Hid (∀d,Below W.heap.size W d->d.cell? ⟨fb,fs.length*14,none⟩=some (.pointer (some ⟨c.pb,0,none⟩))/\d.cell? ⟨fb,fs.length*14+1,none⟩=some (.int .i64 (f.at':Int))/\d.cell? ⟨c.pb,0,none⟩=some (.pointer (some ⟨c.ob,c.oo,none⟩))/\fb<d.heap.size/\c.pb<d.heap.size/\d.frozen? ⟨fb,fs.length*14+1,none⟩=false):=fun d g=>by
  obtain⟨m1,_⟩:=(⟨h.below ok B g,trivial⟩:MM c d s vv A sv D/\True)
  refine⟨(g.cell (p:=⟨fb,fs.length*14,none⟩) T).trans (U 0 _ rfl),(g.cell (p:=⟨fb,fs.length*14+1,none⟩) T).trans (U 1 _ rfl),(za m1.pk).trans rfl,Nat.lt_of_lt_of_le T g.size,zc m1.pk,?_⟩
  rcases m1.fr.2 with⟨e,_⟩|⟨g',cp',cur',e,_,hh,_⟩
  ·rw[e]at n;cases n
  ·rw[e]at n
   simp only[Value.slice.injEq,Option.some.injEq,Addr.mk.injEq]at n
   rw[<-n.1.1]
   exact zi hh
 have m:=zh (h.ff f (by rw[H];simp))
 have F:=zh (And.intro H (And.intro n a9))
 have e5:=zh ok
 have d8:=zh I
 have e6:(f.at':Int)<4000:=by omega
 have d0:(f.at':Int)<(c.O.code.length:Int):=by omega
 obtain⟨u,C⟩:∃u,u=Vm.going { f with at':=f.at'+1 } fs s:=⟨_,rfl⟩
 have a6:Hid (u.frames={ f with at':=f.at'+1 } :: fs):=by rw[C];rfl
 have d9:Hid (f.base<=u.stack.length):=by rw[C];exact F.out.2.2
 have c4:Hid (u.way=s.way):=by rw[C];rfl
 have c3:=zh C
 rw[<-C]
 clear C
 have c0:=zh y
 clear a9 U n h B H y
 go_enter Tryz.func50,Tryz.ntmps50
 go_wp2_with fail
 refine a7.out.mono ?_
 rintro e d⟨rfl,E⟩
 obtain⟨x0,x1,x2,a3,b7,z1⟩:=Y.out d E
 obtain⟨b3,b1⟩:=X.out d E
 obtain⟨eb,k,G,k6,S,c7,e0,e1,e2⟩:=P.out d b3.be
 obtain⟨q,J⟩:∃q,q=(d.alloc (.cells #[.int .i64 12,.int .i64 (j:Int),.int .i64 r] 138)).drew:=⟨_,rfl⟩
 have b8:Hid (Below d.heap.size d q):=by rw[J];exact(zb _ _).drew
 have V:q.heap[d.heap.size]?=some (.cells #[.int .i64 12,.int .i64 (j:Int),.int .i64 r] 138 (0,0)):=by rw[J];exact zl d _
 have e3:=zh V
 have a1:Hid (Below W.heap.size W q):=E.trans (b8.out.mono E.size)
 obtain⟨y0,y1,_,d3,d6,z2⟩:=Y.out q a1.out
 obtain⟨b4,b2⟩:=X.out q a1.out
 obtain⟨l,K⟩:∃l,l=q.setCell ⟨fb,fs.length*14+1,none⟩ (.int .i64 ((f.at':Int)+1)):=⟨_,rfl⟩
 have a5:FrOk c { f with at':=f.at'+1 }:=⟨m.out.of,m.out.ll,m.out.li,m.out.mn,by show f.at'+1<=4000;omega,m.out.bs⟩
 obtain⟨L,M⟩:=b4.frset b2 F.out.1 F.out.2.1 1 (.int .i64 ((f.at':Int)+1)) a5 (yx c f (f.at'+1))
 rw[<-K]at L M
 have c8:d.heap.size≠fb:=by omega
 have e8:d.heap.size≠c.gb:=by have:=zc b1;omega
 have z:l.heap[d.heap.size]?=some (.cells #[.int .i64 12,.int .i64 (j:Int),.int .i64 r] 138 (0,0)):=by rw[K];exact(Below.heap_setCell _ _ _ _ (by simpa using c8)).trans V
 have q0:l.cell? ⟨d.heap.size,0,none⟩=some (.int .i64 12):=(za z).trans rfl
 have q1:l.cell? ⟨d.heap.size,1,none⟩=some (.int .i64 (j:Int)):=(za z).trans rfl
 have q2:l.cell? ⟨d.heap.size,2,none⟩=some (.int .i64 r):=(za z).trans rfl
 have d7:d.heap.size<l.heap.size:=zc z
 have d5:c.gb<l.heap.size:=zc M
 rw[<-c3.out]at L
 have Q:=zh L
 have b9:Hid (G8 c l A sv D u.way):=by rw[c4.out];exact M
 have e4:=zh z
 have a0:Hid (l.cell? ⟨fb,fs.length*14+1,none⟩=some (.int .i64 ((f.at':Int)+1))/\l.frozen? ⟨fb,fs.length*14+1,none⟩=false/\StepP c (Vm.going ({ f with at':=j }:Fr) fs u) (.returned (.tuple #[])) (l.setCell ⟨fb,fs.length*14+1,none⟩ (.int .i64 (j:Int)))):=by
  obtain⟨R,c9,w,d2,_,b6⟩:=Q.out.top a6.out
  have c5:R=fb:=by
   have:=F.out.2.1.symm.trans w
   simp only[Value.slice.injEq,Option.some.injEq,Addr.mk.injEq]at this
   exact this.1.1.symm
  subst c5
  have Z:l.cell? ⟨R,fs.length*14+1,none⟩=some (.int .i64 ((f.at':Int)+1)):=b6 1 _ rfl
  have zj:l.frozen? ⟨R,fs.length*14+1,none⟩=false:=by
   rcases Q.out.fr.2 with⟨e,_⟩|⟨g',cp',cur',e,_,hh,_⟩
   ·rw[e]at w;cases w
   ·rw[e]at w
    simp only[Value.slice.injEq,Option.some.injEq,Addr.mk.injEq]at w
    rw[<-w.1.1]
    exact zi hh
  obtain⟨p1,p2⟩:=Q.out.frset b9.out (f':={ f with at':=j }) a6.out F.out.2.1 1 (.int .i64 (j:Int)) ⟨m.out.of,m.out.ll,m.out.li,m.out.mn,by have:=c0.out.2;show j<=4000;omega,m.out.bs⟩ (yx c { f with at':=f.at'+1 } j)
  exact⟨Z,zj,rfl,_,_,_,_,p1,p2⟩
 obtain⟨Z,zj,a4⟩:=a0.out
 have a2:=zh a4
 have d4:fb<l.heap.size:=zg Z
 clear a4 a0
 clear b3 b1 b4 b2 L M z V E Y X a7 a5 b0 P
 generalize f.at'=at' at *
 have a8:Hid (∀i,Below d.heap.size d i->i.cell? ⟨fb,fs.length*14,none⟩=some (.pointer (some ⟨c.pb,0,none⟩))/\i.cell? ⟨fb,fs.length*14+1,none⟩=some (.int .i64 (at':Int))/\i.cell? ⟨c.pb,0,none⟩=some (.pointer (some ⟨c.ob,c.oo,none⟩))/\i.cell? ⟨c.ob,c.oo+6,none⟩=some (.slice (some ⟨eb,k,none⟩) c.O.code.length G)/\i.cell? ⟨eb,k+at'*3,none⟩=some (.int .i64 12)/\i.cell? ⟨eb,k+at'*3+1,none⟩=some (.int .i64 (j:Int))/\i.cell? ⟨eb,k+at'*3+2,none⟩=some (.int .i64 r)):=fun i g=>⟨(g.cell (p:=⟨fb,fs.length*14,none⟩) a3).trans x0,(g.cell (p:=⟨fb,fs.length*14+1,none⟩) a3).trans x1,(g.cell (p:=⟨c.pb,0,none⟩) b7).trans x2,(g.cell (p:=⟨c.ob,c.oo+6,none⟩) c7).trans k6,(g.cell (p:=⟨eb,k+at'*3,none⟩) S).trans e0,(g.cell (p:=⟨eb,k+at'*3+1,none⟩) S).trans e1,(g.cell (p:=⟨eb,k+at'*3+2,none⟩) S).trans e2⟩
 have c1:=zh (a8.out _ (zt d))
 have c2:Hid (∀o,(d.alloc o).drew.cell? ⟨fb,fs.length*14,none⟩=some (.pointer (some ⟨c.pb,0,none⟩))/\(d.alloc o).drew.cell? ⟨fb,fs.length*14+1,none⟩=some (.int .i64 (at':Int))/\(d.alloc o).drew.cell? ⟨c.pb,0,none⟩=some (.pointer (some ⟨c.ob,c.oo,none⟩))/\(d.alloc o).drew.cell? ⟨c.ob,c.oo+6,none⟩=some (.slice (some ⟨eb,k,none⟩) c.O.code.length G)/\(d.alloc o).drew.cell? ⟨eb,k+at'*3,none⟩=some (.int .i64 12)/\(d.alloc o).drew.cell? ⟨eb,k+at'*3+1,none⟩=some (.int .i64 (j:Int))/\(d.alloc o).drew.cell? ⟨eb,k+at'*3+2,none⟩=some (.int .i64 r)):=fun o=>a8.out _ (zb _ _).drew
 go_upto_region 1 with fail
 go_region_held3 (fun i=>i.cell? ⟨fb,fs.length*14,none⟩=some (.pointer (some ⟨c.pb,0,none⟩))/\i.cell? ⟨fb,fs.length*14+1,none⟩=some (.int .i64 (at':Int))/\i.cell? ⟨c.pb,0,none⟩=some (.pointer (some ⟨c.ob,c.oo,none⟩))/\i.cell? ⟨c.ob,c.oo+6,none⟩=some (.slice (some ⟨eb,k,none⟩) c.O.code.length G)/\i.cell? ⟨eb,k+at'*3,none⟩=some (.int .i64 12)/\i.cell? ⟨eb,k+at'*3+1,none⟩=some (.int .i64 (j:Int))/\i.cell? ⟨eb,k+at'*3+2,none⟩=some (.int .i64 r)) (with_reducible (first|exact c1.out|exact c2.out _)) (fail)
 rw[<-J]
 clear J x0 x1 e0 e1 e2 k6
 go_upto_region 3 with fail
 rw[<-K]
 clear K y0 y1
 go_wp2_with fail
 first|exact ze rfl rfl a2.out|exact bodyPost_ret (v:=.tuple #[]) (by simp[results,Tryz.results50,go_sem]) rfl a2.out
theorem step_13 {H L:Value}(h:MM c W s vv H sv L)(ok:VxOk c)(I:G8 c W H sv L s.way){f:Fr}{fs:List Fr}(R:s.frames=f :: fs)(b4:f.base<=s.stack.length)(S:f.at'<c.O.code.length)(c1:c.O.code[f.at'].op=13) :
  Calls Tryz.prog 50 #[.pointer (some ⟨c.gb,0,none⟩)] W (StepP c (Vm.exec c.most { f with at':=f.at'+1 } fs ⟨c.O,vv⟩ c.O.code[f.at'] (Vm.going { f with at':=f.at'+1 } fs s))):=by
 obtain⟨fb,cap,z,a4,e5,a5⟩:=h.top R
 have d6:=zc I
 have f8:=zV ok
 have b2:=zh (last8 h I R z)
 have hI:=ok.i64 _ (List.getElem_mem S)
 have F:=inst8 ok S
 have a0:Hid (∀d,Below c.w0.heap.size c.w0 d->∃b o Q,d.cell? ⟨c.ob,c.oo+6,none⟩=some (.slice (some ⟨b,o,none⟩) c.O.code.length Q)/\b<d.heap.size/\c.ob<d.heap.size/\d.cell? ⟨b,o+f.at'*3,none⟩=some (.int .i64 c.O.code[f.at'].op)/\d.cell? ⟨b,o+f.at'*3+1,none⟩=some (.int .i64 c.O.code[f.at'].a)/\d.cell? ⟨b,o+f.at'*3+2,none⟩=some (.int .i64 c.O.code[f.at'].b)):=fun d i=>code8 ok i S
 generalize c.O.code[f.at']=x at *
 obtain⟨g0,xa,C⟩:=x
 simp only at c1 hI a0
 subst c1
 unfold Ob.instB at F
 have F:0<=xa/\xa<(c.O.code.length:Int):=by simp[Ob.countsB,Ob.choices]at F;exact F.2
 obtain⟨g,rfl⟩:∃g:Nat,xa=(g:Int):=⟨xa.toNat,by omega⟩
 have b5:∀t,Vm.exec c.most { f with at':=f.at'+1 } fs ⟨c.O,vv⟩ ⟨13,(g:Int),C⟩ t=Vm.taken f.base t fun n s=>if n=0 then Vm.going ({ f with at':=g }:Fr) fs s else s:=fun t=>by simp[Vm.exec]
 rw[b5]
 have HM:Hid (∀d,Below W.heap.size W d->MM c d s vv H sv L/\G8 c d H sv L s.way):=fun d i=>⟨h.below ok I i,(i.block _ d6).trans I⟩
 have HX:Hid (∀d,Below W.heap.size W d->d.cell? ⟨fb,fs.length*14,none⟩=some (.pointer (some ⟨c.pb,0,none⟩))/\d.cell? ⟨fb,fs.length*14+1,none⟩=some (.int .i64 (f.at':Int))/\d.cell? ⟨c.pb,0,none⟩=some (.pointer (some ⟨c.ob,c.oo,none⟩))/\fb<d.heap.size/\c.pb<d.heap.size/\d.frozen? ⟨fb,fs.length*14+1,none⟩=false):=fun d i=>by
  obtain⟨m1,_⟩:=(⟨h.below ok I i,trivial⟩:MM c d s vv H sv L/\True)
  refine⟨(i.cell (p:=⟨fb,fs.length*14,none⟩) a4).trans (a5 0 _ rfl),(i.cell (p:=⟨fb,fs.length*14+1,none⟩) a4).trans (a5 1 _ rfl),(za m1.pk).trans rfl,Nat.lt_of_lt_of_le a4 i.size,zc m1.pk,?_⟩
  rcases m1.fr.2 with⟨e,_⟩|⟨g',cp',cur',e,_,hh,_⟩
  ·rw[e]at z;cases z
  ·rw[e]at z
   simp only[Value.slice.injEq,Option.some.injEq,Addr.mk.injEq]at z
   rw[<-z.1.1]
   exact zi hh
 have l:=zh (h.ff f (by rw[R];simp))
 have P:=zh (And.intro R (And.intro z b4))
 have d0:=zh ok
 have f4:=zh S
 have f7:(f.at':Int)<4000:=by omega
 have e4:(f.at':Int)<(c.O.code.length:Int):=by omega
 obtain⟨u,K⟩:∃u,u=Vm.going { f with at':=f.at'+1 } fs s:=⟨_,rfl⟩
 have a1:Hid (u.frames={ f with at':=f.at'+1 } :: fs):=by rw[K];rfl
 have f5:Hid (f.base<=u.stack.length):=by rw[K];exact P.out.2.2
 have d4:Hid (u.way=s.way):=by rw[K];rfl
 have d3:=zh K
 rw[<-K]
 clear K
 have c7:=zh F
 clear b4 a5 z h I R F
 go_enter Tryz.func50,Tryz.ntmps50
 go_wp2_with fail
 refine b2.out.mono ?_
 rintro e d⟨rfl,M⟩
 obtain⟨x0,x1,x2,a9,c3,z1⟩:=HX.out d M
 obtain⟨b8,b6⟩:=HM.out d M
 obtain⟨eb,k,Q,k6,a3,d7,e0,e1,e2⟩:=a0.out d b8.be
 obtain⟨B,U⟩:∃B,B=(d.alloc (.cells #[.int .i64 13,.int .i64 (g:Int),.int .i64 C] 138)).drew:=⟨_,rfl⟩
 have c5:Hid (Below d.heap.size d B):=by rw[U];exact(zb _ _).drew
 have a6:B.heap[d.heap.size]?=some (.cells #[.int .i64 13,.int .i64 (g:Int),.int .i64 C] 138 (0,0)):=by rw[U];exact zl d _
 have f6:=zh a6
 have a8:Hid (Below W.heap.size W B):=M.trans (c5.out.mono M.size)
 obtain⟨y0,y1,_,e7,f0,z2⟩:=HX.out B a8.out
 obtain⟨b9,b7⟩:=HM.out B a8.out
 obtain⟨w,V⟩:∃w,w=B.setCell ⟨fb,fs.length*14+1,none⟩ (.int .i64 ((f.at':Int)+1)):=⟨_,rfl⟩
 have b1:FrOk c { f with at':=f.at'+1 }:=⟨l.out.of,l.out.ll,l.out.li,l.out.mn,by show f.at'+1<=4000;omega,l.out.bs⟩
 obtain⟨X,Y⟩:=b9.frset b7 P.out.1 P.out.2.1 1 (.int .i64 ((f.at':Int)+1)) b1 (yx c f (f.at'+1))
 rw[<-V]at X Y
 have d9:d.heap.size≠fb:=by omega
 have d8:d.heap.size≠c.gb:=by have:=zc b6;omega
 have G:w.heap[d.heap.size]?=some (.cells #[.int .i64 13,.int .i64 (g:Int),.int .i64 C] 138 (0,0)):=by rw[V];exact(Below.heap_setCell _ _ _ _ (by simpa using d9)).trans a6
 have q0:w.cell? ⟨d.heap.size,0,none⟩=some (.int .i64 13):=(za G).trans rfl
 have q1:w.cell? ⟨d.heap.size,1,none⟩=some (.int .i64 (g:Int)):=(za G).trans rfl
 have q2:w.cell? ⟨d.heap.size,2,none⟩=some (.int .i64 C):=(za G).trans rfl
 have c4:d.heap.size<w.heap.size:=zc G
 have e9:c.gb<w.heap.size:=zc Y
 rw[<-d3.out]at X
 have c9:=zh X
 have c6:Hid (G8 c w H sv L u.way):=by rw[d4.out];exact Y
 have c8:=zh G
 have HT:=zh (take8 c9.out d0.out c6.out a1.out)
 clear b8 b6 b9 b7 X Y G a6 M HX HM b2 b1 b5 a0
 generalize f.at'=at' at *
 have b3:Hid (∀j,Below d.heap.size d j->j.cell? ⟨fb,fs.length*14,none⟩=some (.pointer (some ⟨c.pb,0,none⟩))/\j.cell? ⟨fb,fs.length*14+1,none⟩=some (.int .i64 (at':Int))/\j.cell? ⟨c.pb,0,none⟩=some (.pointer (some ⟨c.ob,c.oo,none⟩))/\j.cell? ⟨c.ob,c.oo+6,none⟩=some (.slice (some ⟨eb,k,none⟩) c.O.code.length Q)/\j.cell? ⟨eb,k+at'*3,none⟩=some (.int .i64 13)/\j.cell? ⟨eb,k+at'*3+1,none⟩=some (.int .i64 (g:Int))/\j.cell? ⟨eb,k+at'*3+2,none⟩=some (.int .i64 C)):=fun j i=>⟨(i.cell (p:=⟨fb,fs.length*14,none⟩) a9).trans x0,(i.cell (p:=⟨fb,fs.length*14+1,none⟩) a9).trans x1,(i.cell (p:=⟨c.pb,0,none⟩) c3).trans x2,(i.cell (p:=⟨c.ob,c.oo+6,none⟩) d7).trans k6,(i.cell (p:=⟨eb,k+at'*3,none⟩) a3).trans e0,(i.cell (p:=⟨eb,k+at'*3+1,none⟩) a3).trans e1,(i.cell (p:=⟨eb,k+at'*3+2,none⟩) a3).trans e2⟩
 have d1:=zh (b3.out _ (zt d))
 have d2:Hid (∀o,(d.alloc o).drew.cell? ⟨fb,fs.length*14,none⟩=some (.pointer (some ⟨c.pb,0,none⟩))/\(d.alloc o).drew.cell? ⟨fb,fs.length*14+1,none⟩=some (.int .i64 (at':Int))/\(d.alloc o).drew.cell? ⟨c.pb,0,none⟩=some (.pointer (some ⟨c.ob,c.oo,none⟩))/\(d.alloc o).drew.cell? ⟨c.ob,c.oo+6,none⟩=some (.slice (some ⟨eb,k,none⟩) c.O.code.length Q)/\(d.alloc o).drew.cell? ⟨eb,k+at'*3,none⟩=some (.int .i64 13)/\(d.alloc o).drew.cell? ⟨eb,k+at'*3+1,none⟩=some (.int .i64 (g:Int))/\(d.alloc o).drew.cell? ⟨eb,k+at'*3+2,none⟩=some (.int .i64 C)):=fun o=>b3.out _ (zb _ _).drew
 go_upto_region 1 with fail
 go_region_held3 (fun j=>j.cell? ⟨fb,fs.length*14,none⟩=some (.pointer (some ⟨c.pb,0,none⟩))/\j.cell? ⟨fb,fs.length*14+1,none⟩=some (.int .i64 (at':Int))/\j.cell? ⟨c.pb,0,none⟩=some (.pointer (some ⟨c.ob,c.oo,none⟩))/\j.cell? ⟨c.ob,c.oo+6,none⟩=some (.slice (some ⟨eb,k,none⟩) c.O.code.length Q)/\j.cell? ⟨eb,k+at'*3,none⟩=some (.int .i64 13)/\j.cell? ⟨eb,k+at'*3+1,none⟩=some (.int .i64 (g:Int))/\j.cell? ⟨eb,k+at'*3+2,none⟩=some (.int .i64 C)) (with_reducible (first|exact d1.out|exact d2.out _)) (fail)
 rw[<-U]
 clear U x0 x1 e0 e1 e2 k6
 go_upto_region 3 with fail
 rw[<-V]
 clear V y0 y1
 go_wp2_with fail
 refine HT.out.mono ?_
 intro e m J
 obtain⟨T,J⟩:=J
 have N:=(T.block _ c4 d8).trans c8.out
 have r1:m.cell? ⟨d.heap.size,1,none⟩=some (.int .i64 (g:Int)):=(za N).trans rfl
 have f3:d.heap.size<m.heap.size:=zc N
 by_cases A:u.stack.length<=f.base
 ·rw[if_pos A]at J
  obtain⟨rfl,q,D⟩:=J
  have y:Hid (StepP c (Vm.taken f.base u fun n s=>if n=0 then Vm.going ({ f with at':=g }:Fr) fs s else s) (.returned (.tuple #[])) m):=⟨rfl,by rw[yk A];exact q.mv8 D⟩
  clear q D A T N
  go_wp2_with fail
  first|exact ze rfl rfl y.out|exact bodyPost_ret (v:=.tuple #[]) (by simp[results,Tryz.results50,go_sem]) rfl y.out
 ·rw[if_neg A]at J
  obtain⟨n,r,f9,Z,rfl,q,D⟩:=J
  by_cases c0:n=0
  ·subst c0
   have a7:Hid (m.cell? ⟨fb,fs.length*14+1,none⟩=some (.int .i64 ((at':Int)+1))/\m.frozen? ⟨fb,fs.length*14+1,none⟩=false/\StepP c (Vm.taken f.base u fun n s=>if n=0 then Vm.going ({ f with at':=g }:Fr) fs s else s) (.returned (.tuple #[])) (m.setCell ⟨fb,fs.length*14+1,none⟩ (.int .i64 (g:Int)))):=by
    obtain⟨a2,e3,E,e6,_,c2⟩:=q.top a1.out
    have d5:a2=fb:=by
     have:=P.out.2.1.symm.trans E
     simp only[Value.slice.injEq,Option.some.injEq,Addr.mk.injEq]at this
     exact this.1.1.symm
    subst d5
    have j1:m.cell? ⟨a2,fs.length*14+1,none⟩=some (.int .i64 ((at':Int)+1)):=c2 1 _ rfl
    have zj:m.frozen? ⟨a2,fs.length*14+1,none⟩=false:=by
     rcases q.fr.2 with⟨e,_⟩|⟨g',cp',cur',e,_,hh,_⟩
     ·rw[e]at E;cases E
     ·rw[e]at E
      simp only[Value.slice.injEq,Option.some.injEq,Addr.mk.injEq]at E
      rw[<-E.1.1]
      exact zi hh
    obtain⟨p1,p2⟩:=q.frset D (f':={ f with at':=g }) a1.out P.out.2.1 1 (.int .i64 (g:Int)) ⟨l.out.of,l.out.ll,l.out.li,l.out.mn,by have:=c7.out.2;show g<=4000;omega,l.out.bs⟩ (yx c { f with at':=at'+1 } g)
    exact⟨j1,zj,rfl,by rw[zR Z A,if_pos rfl];exact⟨_,_,_,_,p1,p2⟩⟩
   obtain⟨j1,zj,b0⟩:=a7.out
   have y:=zh b0
   have e8:fb<m.heap.size:=zg j1
   clear b0 a7 q D A T N Z
   go_wp2_with fail
   first|exact ze rfl rfl y.out|exact bodyPost_ret (v:=.tuple #[]) (by simp[results,Tryz.results50,go_sem]) rfl y.out
  ·have y:Hid (StepP c (Vm.taken f.base u fun n s=>if n=0 then Vm.going ({ f with at':=g }:Fr) fs s else s) (.returned (.tuple #[])) m):=⟨rfl,by rw[zR Z A,if_neg c0];exact⟨_,_,_,_,q,D⟩⟩
   clear q D A T N Z
   go_wp2_with fail
   first|exact ze rfl rfl y.out|exact bodyPost_ret (v:=.tuple #[]) (by simp[results,Tryz.results50,go_sem]) rfl y.out
theorem step_14 {C:Value}(h:MM c W s vv y sv C)(ok:VxOk c)(A:G8 c W y sv C s.way){f:Fr}{fs:List Fr}(z:s.frames=f :: fs)(a2:f.base<=s.stack.length)(G:f.at'<c.O.code.length)(a8:c.O.code[f.at'].op=14) :
  Calls Tryz.prog 50 #[.pointer (some ⟨c.gb,0,none⟩)] W (StepP c (Vm.exec c.most { f with at':=f.at'+1 } fs ⟨c.O,vv⟩ c.O.code[f.at'] (Vm.going { f with at':=f.at'+1 } fs s))):=by
 obtain⟨fb,cap,q,N,c6,P⟩:=h.top z
 have c1:=zc A
 have d8:=zV ok
 have a0:=zh (last8 h A z q)
 have hI:=ok.i64 _ (List.getElem_mem G)
 have n:=inst8 ok G
 have L:Hid (∀d,Below c.w0.heap.size c.w0 d->∃b o F,d.cell? ⟨c.ob,c.oo+6,none⟩=some (.slice (some ⟨b,o,none⟩) c.O.code.length F)/\b<d.heap.size/\c.ob<d.heap.size/\d.cell? ⟨b,o+f.at'*3,none⟩=some (.int .i64 c.O.code[f.at'].op)/\d.cell? ⟨b,o+f.at'*3+1,none⟩=some (.int .i64 c.O.code[f.at'].a)/\d.cell? ⟨b,o+f.at'*3+2,none⟩=some (.int .i64 c.O.code[f.at'].b)):=fun d g=>code8 ok g G
 generalize c.O.code[f.at']=x at *
 obtain⟨e3,xa,xb⟩:=x
 simp only at a8 hI L
 subst a8
 unfold Ob.instB at n
 have n:=reach8 ok (by simpa using n)
 simp only at n
 obtain⟨rfl,d5,d6⟩:=n
 obtain⟨l,rfl⟩:∃l:Nat,xa=(l:Int):=⟨xa.toNat,by omega⟩
 have c3:f.of=c.O.name:=(h.ff f (by rw[z];simp)).of
 have n:=True.intro
 have a3:∀t,Vm.exec c.most { f with at':=f.at'+1 } fs ⟨c.O,vv⟩ ⟨14,(l:Int),(-1)⟩ t=Vm.invoke c.most f.base c.O.name ⟨c.O,vv⟩ l t:=fun t=>by simp[Vm.exec,c3]
 rw[a3]
 have S:Hid (∀d,Below W.heap.size W d->MM c d s vv y sv C/\G8 c d y sv C s.way):=fun d g=>⟨h.below ok A g,(g.block _ c1).trans A⟩
 have T:Hid (∀d,Below W.heap.size W d->d.cell? ⟨fb,fs.length*14,none⟩=some (.pointer (some ⟨c.pb,0,none⟩))/\d.cell? ⟨fb,fs.length*14+1,none⟩=some (.int .i64 (f.at':Int))/\d.cell? ⟨c.pb,0,none⟩=some (.pointer (some ⟨c.ob,c.oo,none⟩))/\fb<d.heap.size/\c.pb<d.heap.size/\d.frozen? ⟨fb,fs.length*14+1,none⟩=false):=fun d g=>by
  obtain⟨U,_⟩:=(⟨h.below ok A g,trivial⟩:MM c d s vv y sv C/\True)
  refine⟨(g.cell (p:=⟨fb,fs.length*14,none⟩) N).trans (P 0 _ rfl),(g.cell (p:=⟨fb,fs.length*14+1,none⟩) N).trans (P 1 _ rfl),(za U.pk).trans rfl,Nat.lt_of_lt_of_le N g.size,zc U.pk,?_⟩
  rcases U.fr.2 with⟨e,_⟩|⟨g',cp',cur',e,_,hh,_⟩
  ·rw[e]at q;cases q
  ·rw[e]at q
   simp only[Value.slice.injEq,Option.some.injEq,Addr.mk.injEq]at q
   rw[<-q.1.1]
   exact zi hh
 have D:=zh (h.ff f (by rw[z];simp))
 have R:=zh (And.intro z (And.intro q a2))
 have b6:=zh ok
 have d1:=zh G
 have d7:(f.at':Int)<4000:=by omega
 have c5:(f.at':Int)<(c.O.code.length:Int):=by omega
 obtain⟨u,B⟩:∃u,u=Vm.going { f with at':=f.at'+1 } fs s:=⟨_,rfl⟩
 have b3:Hid (u.frames={ f with at':=f.at'+1 } :: fs):=by rw[B];rfl
 have b2:Hid (f.base<=u.stack.length):=by rw[B];exact R.out.2.2
 have c0:Hid (u.way=s.way):=by rw[B];rfl
 have b9:=zh B
 rw[<-B]
 clear B
 have d2:=zh n
 clear a2 P q h A z n
 go_enter Tryz.func50,Tryz.ntmps50
 go_wp2_with fail
 refine a0.out.mono ?_
 rintro e d⟨rfl,E⟩
 obtain⟨x0,x1,x2,Y,b0,z1⟩:=T.out d E
 obtain⟨a6,a4⟩:=S.out d E
 obtain⟨eb,k,F,k6,M,c2,e0,e1,e2⟩:=L.out d a6.be
 obtain⟨r,H⟩:∃r,r=(d.alloc (.cells #[.int .i64 14,.int .i64 (l:Int),.int .i64 (-1)] 138)).drew:=⟨_,rfl⟩
 have b1:Hid (Below d.heap.size d r):=by rw[H];exact(zb _ _).drew
 have Q:r.heap[d.heap.size]?=some (.cells #[.int .i64 14,.int .i64 (l:Int),.int .i64 (-1)] 138 (0,0)):=by rw[H];exact zl d _
 have d3:=zh Q
 have V:Hid (Below W.heap.size W r):=E.trans (b1.out.mono E.size)
 obtain⟨y0,y1,_,c7,c9,z2⟩:=T.out r V.out
 obtain⟨a7,a5⟩:=S.out r V.out
 obtain⟨m,I⟩:∃m,m=r.setCell ⟨fb,fs.length*14+1,none⟩ (.int .i64 ((f.at':Int)+1)):=⟨_,rfl⟩
 have Z:FrOk c { f with at':=f.at'+1 }:=⟨D.out.of,D.out.ll,D.out.li,D.out.mn,by show f.at'+1<=4000;omega,D.out.bs⟩
 obtain⟨J,K⟩:=a7.frset a5 R.out.1 R.out.2.1 1 (.int .i64 ((f.at':Int)+1)) Z (yx c f (f.at'+1))
 rw[<-I]at J K
 have c4:d.heap.size≠fb:=by omega
 have d9:d.heap.size≠c.gb:=by have:=zc a4;omega
 have w:m.heap[d.heap.size]?=some (.cells #[.int .i64 14,.int .i64 (l:Int),.int .i64 (-1)] 138 (0,0)):=by rw[I];exact(Below.heap_setCell _ _ _ _ (by simpa using c4)).trans Q
 have q0:m.cell? ⟨d.heap.size,0,none⟩=some (.int .i64 14):=(za w).trans rfl
 have q1:m.cell? ⟨d.heap.size,1,none⟩=some (.int .i64 (l:Int)):=(za w).trans rfl
 have q2:m.cell? ⟨d.heap.size,2,none⟩=some (.int .i64 (-1)):=(za w).trans rfl
 have d0:d.heap.size<m.heap.size:=zc w
 have c8:c.gb<m.heap.size:=zc K
 rw[<-b9.out]at J
 have b5:=zh J
 have b4:Hid (G8 c m y sv C u.way):=by rw[c0.out];exact K
 have d4:=zh w
 have HC:=zh (invoke8 b5.out b6.out b4.out b3.out b2.out 14 (i:=l) (by omega))
 clear a6 a4 a7 a5 J K w Q E T S a0 Z a3 L
 generalize f.at'=at' at *
 have a1:Hid (∀j,Below d.heap.size d j->j.cell? ⟨fb,fs.length*14,none⟩=some (.pointer (some ⟨c.pb,0,none⟩))/\j.cell? ⟨fb,fs.length*14+1,none⟩=some (.int .i64 (at':Int))/\j.cell? ⟨c.pb,0,none⟩=some (.pointer (some ⟨c.ob,c.oo,none⟩))/\j.cell? ⟨c.ob,c.oo+6,none⟩=some (.slice (some ⟨eb,k,none⟩) c.O.code.length F)/\j.cell? ⟨eb,k+at'*3,none⟩=some (.int .i64 14)/\j.cell? ⟨eb,k+at'*3+1,none⟩=some (.int .i64 (l:Int))/\j.cell? ⟨eb,k+at'*3+2,none⟩=some (.int .i64 (-1))):=fun j g=>⟨(g.cell (p:=⟨fb,fs.length*14,none⟩) Y).trans x0,(g.cell (p:=⟨fb,fs.length*14+1,none⟩) Y).trans x1,(g.cell (p:=⟨c.pb,0,none⟩) b0).trans x2,(g.cell (p:=⟨c.ob,c.oo+6,none⟩) c2).trans k6,(g.cell (p:=⟨eb,k+at'*3,none⟩) M).trans e0,(g.cell (p:=⟨eb,k+at'*3+1,none⟩) M).trans e1,(g.cell (p:=⟨eb,k+at'*3+2,none⟩) M).trans e2⟩
 have b7:=zh (a1.out _ (zt d))
 have b8:Hid (∀o,(d.alloc o).drew.cell? ⟨fb,fs.length*14,none⟩=some (.pointer (some ⟨c.pb,0,none⟩))/\(d.alloc o).drew.cell? ⟨fb,fs.length*14+1,none⟩=some (.int .i64 (at':Int))/\(d.alloc o).drew.cell? ⟨c.pb,0,none⟩=some (.pointer (some ⟨c.ob,c.oo,none⟩))/\(d.alloc o).drew.cell? ⟨c.ob,c.oo+6,none⟩=some (.slice (some ⟨eb,k,none⟩) c.O.code.length F)/\(d.alloc o).drew.cell? ⟨eb,k+at'*3,none⟩=some (.int .i64 14)/\(d.alloc o).drew.cell? ⟨eb,k+at'*3+1,none⟩=some (.int .i64 (l:Int))/\(d.alloc o).drew.cell? ⟨eb,k+at'*3+2,none⟩=some (.int .i64 (-1))):=fun o=>a1.out _ (zb _ _).drew
 go_upto_region 1 with fail
 go_region_held3 (fun j=>j.cell? ⟨fb,fs.length*14,none⟩=some (.pointer (some ⟨c.pb,0,none⟩))/\j.cell? ⟨fb,fs.length*14+1,none⟩=some (.int .i64 (at':Int))/\j.cell? ⟨c.pb,0,none⟩=some (.pointer (some ⟨c.ob,c.oo,none⟩))/\j.cell? ⟨c.ob,c.oo+6,none⟩=some (.slice (some ⟨eb,k,none⟩) c.O.code.length F)/\j.cell? ⟨eb,k+at'*3,none⟩=some (.int .i64 14)/\j.cell? ⟨eb,k+at'*3+1,none⟩=some (.int .i64 (l:Int))/\j.cell? ⟨eb,k+at'*3+2,none⟩=some (.int .i64 (-1))) (with_reducible (first|exact b7.out|exact b8.out _)) (fail)
 rw[<-H]
 clear H x0 x1 e0 e1 e2 k6
 go_upto_region 3 with fail
 rw[<-I]
 clear I y0 y1
 go_wp2_with fail
 refine HC.out.mono ?_
 intro e w4 hq
 obtain⟨rfl,a9⟩:=hq
 have X:Hid (StepP c (Vm.invoke c.most f.base c.O.name ⟨c.O,vv⟩ l u) (.returned (.tuple #[])) w4):=⟨rfl,a9⟩
 clear a9
 go_wp2_with fail
 first|exact ze rfl rfl X.out|exact bodyPost_ret (v:=.tuple #[]) (by simp[results,Tryz.results50,go_sem]) rfl X.out
theorem step_15 (h:MM c W s vv w sv A)(ok:VxOk c)(y:G8 c W w sv A s.way){f:Fr}{fs:List Fr}(E:s.frames=f :: fs)(a2:f.base<=s.stack.length)(F:f.at'<c.O.code.length)(a8:c.O.code[f.at'].op=15) :
  Calls Tryz.prog 50 #[.pointer (some ⟨c.gb,0,none⟩)] W (StepP c (Vm.exec c.most { f with at':=f.at'+1 } fs ⟨c.O,vv⟩ c.O.code[f.at'] (Vm.going { f with at':=f.at'+1 } fs s))):=by
 obtain⟨fb,cap,l,N,c4,P⟩:=h.top E
 have c0:=zc y
 have d5:=zV ok
 have a0:=zh (last8 h y E l)
 have hI:=ok.i64 _ (List.getElem_mem F)
 have L:=inst8 ok F
 have K:Hid (∀d,Below c.w0.heap.size c.w0 d->∃b o D,d.cell? ⟨c.ob,c.oo+6,none⟩=some (.slice (some ⟨b,o,none⟩) c.O.code.length D)/\b<d.heap.size/\c.ob<d.heap.size/\d.cell? ⟨b,o+f.at'*3,none⟩=some (.int .i64 c.O.code[f.at'].op)/\d.cell? ⟨b,o+f.at'*3+1,none⟩=some (.int .i64 c.O.code[f.at'].a)/\d.cell? ⟨b,o+f.at'*3+2,none⟩=some (.int .i64 c.O.code[f.at'].b)):=fun d g=>code8 ok g F
 generalize c.O.code[f.at']=x at *
 obtain⟨d7,n,q⟩:=x
 simp only at a8 hI K
 subst a8
 unfold Ob.instB at L
 have a3:∀t,Vm.exec c.most { f with at':=f.at'+1 } fs ⟨c.O,vv⟩ ⟨15,n,q⟩ t=Vm.leave f.base t:=fun t=>by simp[Vm.exec]
 rw[a3]
 have S:Hid (∀d,Below W.heap.size W d->MM c d s vv w sv A/\G8 c d w sv A s.way):=fun d g=>⟨h.below ok y g,(g.block _ c0).trans y⟩
 have T:Hid (∀d,Below W.heap.size W d->d.cell? ⟨fb,fs.length*14,none⟩=some (.pointer (some ⟨c.pb,0,none⟩))/\d.cell? ⟨fb,fs.length*14+1,none⟩=some (.int .i64 (f.at':Int))/\d.cell? ⟨c.pb,0,none⟩=some (.pointer (some ⟨c.ob,c.oo,none⟩))/\fb<d.heap.size/\c.pb<d.heap.size/\d.frozen? ⟨fb,fs.length*14+1,none⟩=false):=fun d g=>by
  obtain⟨U,_⟩:=(⟨h.below ok y g,trivial⟩:MM c d s vv w sv A/\True)
  refine⟨(g.cell (p:=⟨fb,fs.length*14,none⟩) N).trans (P 0 _ rfl),(g.cell (p:=⟨fb,fs.length*14+1,none⟩) N).trans (P 1 _ rfl),(za U.pk).trans rfl,Nat.lt_of_lt_of_le N g.size,zc U.pk,?_⟩
  rcases U.fr.2 with⟨e,_⟩|⟨g',cp',cur',e,_,hh,_⟩
  ·rw[e]at l;cases l
  ·rw[e]at l
   simp only[Value.slice.injEq,Option.some.injEq,Addr.mk.injEq]at l
   rw[<-l.1.1]
   exact zi hh
 have B:=zh (h.ff f (by rw[E];simp))
 have R:=zh (And.intro E (And.intro l a2))
 have b5:=zh ok
 have c9:=zh F
 have d4:(f.at':Int)<4000:=by omega
 have c3:(f.at':Int)<(c.O.code.length:Int):=by omega
 obtain⟨u,z⟩:∃u,u=Vm.going { f with at':=f.at'+1 } fs s:=⟨_,rfl⟩
 have b2:Hid (u.frames={ f with at':=f.at'+1 } :: fs):=by rw[z];rfl
 have d0:Hid (f.base<=u.stack.length):=by rw[z];exact R.out.2.2
 have b9:Hid (u.way=s.way):=by rw[z];rfl
 have b8:=zh z
 rw[<-z]
 clear z
 have d1:=zh L
 clear a2 P l h y E L
 go_enter Tryz.func50,Tryz.ntmps50
 go_wp2_with fail
 refine a0.out.mono ?_
 rintro e d⟨rfl,C⟩
 obtain⟨x0,x1,x2,Y,b0,z1⟩:=T.out d C
 obtain⟨a6,a4⟩:=S.out d C
 obtain⟨eb,j,D,k6,M,c1,e0,e1,e2⟩:=K.out d a6.be
 obtain⟨m,G⟩:∃m,m=(d.alloc (.cells #[.int .i64 15,.int .i64 n,.int .i64 q] 138)).drew:=⟨_,rfl⟩
 have b1:Hid (Below d.heap.size d m):=by rw[G];exact(zb _ _).drew
 have Q:m.heap[d.heap.size]?=some (.cells #[.int .i64 15,.int .i64 n,.int .i64 q] 138 (0,0)):=by rw[G];exact zl d _
 have d2:=zh Q
 have V:Hid (Below W.heap.size W m):=C.trans (b1.out.mono C.size)
 obtain⟨y0,y1,_,c5,c7,z2⟩:=T.out m V.out
 obtain⟨a7,a5⟩:=S.out m V.out
 obtain⟨k,H⟩:∃k,k=m.setCell ⟨fb,fs.length*14+1,none⟩ (.int .i64 ((f.at':Int)+1)):=⟨_,rfl⟩
 have Z:FrOk c { f with at':=f.at'+1 }:=⟨B.out.of,B.out.ll,B.out.li,B.out.mn,by show f.at'+1<=4000;omega,B.out.bs⟩
 obtain⟨I,J⟩:=a7.frset a5 R.out.1 R.out.2.1 1 (.int .i64 ((f.at':Int)+1)) Z (yx c f (f.at'+1))
 rw[<-H]at I J
 have c2:d.heap.size≠fb:=by omega
 have d6:d.heap.size≠c.gb:=by have:=zc a4;omega
 have r:k.heap[d.heap.size]?=some (.cells #[.int .i64 15,.int .i64 n,.int .i64 q] 138 (0,0)):=by rw[H];exact(Below.heap_setCell _ _ _ _ (by simpa using c2)).trans Q
 have q0:k.cell? ⟨d.heap.size,0,none⟩=some (.int .i64 15):=(za r).trans rfl
 have q1:k.cell? ⟨d.heap.size,1,none⟩=some (.int .i64 n):=(za r).trans rfl
 have q2:k.cell? ⟨d.heap.size,2,none⟩=some (.int .i64 q):=(za r).trans rfl
 have c8:d.heap.size<k.heap.size:=zc r
 have c6:c.gb<k.heap.size:=zc J
 rw[<-b8.out]at I
 have b4:=zh I
 have b3:Hid (G8 c k w sv A u.way):=by rw[b9.out];exact J
 have d3:=zh r
 have HC:=zh (leave8 b4.out b5.out b3.out b2.out)
 clear a6 a4 a7 a5 I J r Q C T S a0 Z a3 K
 generalize f.at'=at' at *
 have a1:Hid (∀i,Below d.heap.size d i->i.cell? ⟨fb,fs.length*14,none⟩=some (.pointer (some ⟨c.pb,0,none⟩))/\i.cell? ⟨fb,fs.length*14+1,none⟩=some (.int .i64 (at':Int))/\i.cell? ⟨c.pb,0,none⟩=some (.pointer (some ⟨c.ob,c.oo,none⟩))/\i.cell? ⟨c.ob,c.oo+6,none⟩=some (.slice (some ⟨eb,j,none⟩) c.O.code.length D)/\i.cell? ⟨eb,j+at'*3,none⟩=some (.int .i64 15)/\i.cell? ⟨eb,j+at'*3+1,none⟩=some (.int .i64 n)/\i.cell? ⟨eb,j+at'*3+2,none⟩=some (.int .i64 q)):=fun i g=>⟨(g.cell (p:=⟨fb,fs.length*14,none⟩) Y).trans x0,(g.cell (p:=⟨fb,fs.length*14+1,none⟩) Y).trans x1,(g.cell (p:=⟨c.pb,0,none⟩) b0).trans x2,(g.cell (p:=⟨c.ob,c.oo+6,none⟩) c1).trans k6,(g.cell (p:=⟨eb,j+at'*3,none⟩) M).trans e0,(g.cell (p:=⟨eb,j+at'*3+1,none⟩) M).trans e1,(g.cell (p:=⟨eb,j+at'*3+2,none⟩) M).trans e2⟩
 have b6:=zh (a1.out _ (zt d))
 have b7:Hid (∀o,(d.alloc o).drew.cell? ⟨fb,fs.length*14,none⟩=some (.pointer (some ⟨c.pb,0,none⟩))/\(d.alloc o).drew.cell? ⟨fb,fs.length*14+1,none⟩=some (.int .i64 (at':Int))/\(d.alloc o).drew.cell? ⟨c.pb,0,none⟩=some (.pointer (some ⟨c.ob,c.oo,none⟩))/\(d.alloc o).drew.cell? ⟨c.ob,c.oo+6,none⟩=some (.slice (some ⟨eb,j,none⟩) c.O.code.length D)/\(d.alloc o).drew.cell? ⟨eb,j+at'*3,none⟩=some (.int .i64 15)/\(d.alloc o).drew.cell? ⟨eb,j+at'*3+1,none⟩=some (.int .i64 n)/\(d.alloc o).drew.cell? ⟨eb,j+at'*3+2,none⟩=some (.int .i64 q)):=fun o=>a1.out _ (zb _ _).drew
 go_upto_region 1 with fail
 go_region_held3 (fun i=>i.cell? ⟨fb,fs.length*14,none⟩=some (.pointer (some ⟨c.pb,0,none⟩))/\i.cell? ⟨fb,fs.length*14+1,none⟩=some (.int .i64 (at':Int))/\i.cell? ⟨c.pb,0,none⟩=some (.pointer (some ⟨c.ob,c.oo,none⟩))/\i.cell? ⟨c.ob,c.oo+6,none⟩=some (.slice (some ⟨eb,j,none⟩) c.O.code.length D)/\i.cell? ⟨eb,j+at'*3,none⟩=some (.int .i64 15)/\i.cell? ⟨eb,j+at'*3+1,none⟩=some (.int .i64 n)/\i.cell? ⟨eb,j+at'*3+2,none⟩=some (.int .i64 q)) (with_reducible (first|exact b6.out|exact b7.out _)) (fail)
 rw[<-G]
 clear G x0 x1 e0 e1 e2 k6
 go_upto_region 3 with fail
 rw[<-H]
 clear H y0 y1
 go_wp2_with fail
 refine HC.out.mono ?_
 intro e w4 hq
 obtain⟨rfl,a9⟩:=hq
 have X:Hid (StepP c (Vm.leave f.base u) (.returned (.tuple #[])) w4):=⟨rfl,a9⟩
 clear a9
 go_wp2_with fail
 first|exact ze rfl rfl X.out|exact bodyPost_ret (v:=.tuple #[]) (by simp[results,Tryz.results50,go_sem]) rfl X.out
theorem step_16 (h:MM c W s vv w sv A)(ok:VxOk c)(y:G8 c W w sv A s.way){f:Fr}{fs:List Fr}(E:s.frames=f :: fs)(a2:f.base<=s.stack.length)(F:f.at'<c.O.code.length)(a8:c.O.code[f.at'].op=16) :
  Calls Tryz.prog 50 #[.pointer (some ⟨c.gb,0,none⟩)] W (StepP c (Vm.exec c.most { f with at':=f.at'+1 } fs ⟨c.O,vv⟩ c.O.code[f.at'] (Vm.going { f with at':=f.at'+1 } fs s))):=by
 obtain⟨fb,cap,l,N,c4,P⟩:=h.top E
 have c0:=zc y
 have d5:=zV ok
 have a0:=zh (last8 h y E l)
 have hI:=ok.i64 _ (List.getElem_mem F)
 have L:=inst8 ok F
 have K:Hid (∀d,Below c.w0.heap.size c.w0 d->∃b o D,d.cell? ⟨c.ob,c.oo+6,none⟩=some (.slice (some ⟨b,o,none⟩) c.O.code.length D)/\b<d.heap.size/\c.ob<d.heap.size/\d.cell? ⟨b,o+f.at'*3,none⟩=some (.int .i64 c.O.code[f.at'].op)/\d.cell? ⟨b,o+f.at'*3+1,none⟩=some (.int .i64 c.O.code[f.at'].a)/\d.cell? ⟨b,o+f.at'*3+2,none⟩=some (.int .i64 c.O.code[f.at'].b)):=fun d g=>code8 ok g F
 generalize c.O.code[f.at']=x at *
 obtain⟨d7,n,q⟩:=x
 simp only at a8 hI K
 subst a8
 unfold Ob.instB at L
 have a3:∀t,Vm.exec c.most { f with at':=f.at'+1 } fs ⟨c.O,vv⟩ ⟨16,n,q⟩ t=Vm.say f.base t:=fun t=>by simp[Vm.exec]
 rw[a3]
 have S:Hid (∀d,Below W.heap.size W d->MM c d s vv w sv A/\G8 c d w sv A s.way):=fun d g=>⟨h.below ok y g,(g.block _ c0).trans y⟩
 have T:Hid (∀d,Below W.heap.size W d->d.cell? ⟨fb,fs.length*14,none⟩=some (.pointer (some ⟨c.pb,0,none⟩))/\d.cell? ⟨fb,fs.length*14+1,none⟩=some (.int .i64 (f.at':Int))/\d.cell? ⟨c.pb,0,none⟩=some (.pointer (some ⟨c.ob,c.oo,none⟩))/\fb<d.heap.size/\c.pb<d.heap.size/\d.frozen? ⟨fb,fs.length*14+1,none⟩=false):=fun d g=>by
  obtain⟨U,_⟩:=(⟨h.below ok y g,trivial⟩:MM c d s vv w sv A/\True)
  refine⟨(g.cell (p:=⟨fb,fs.length*14,none⟩) N).trans (P 0 _ rfl),(g.cell (p:=⟨fb,fs.length*14+1,none⟩) N).trans (P 1 _ rfl),(za U.pk).trans rfl,Nat.lt_of_lt_of_le N g.size,zc U.pk,?_⟩
  rcases U.fr.2 with⟨e,_⟩|⟨g',cp',cur',e,_,hh,_⟩
  ·rw[e]at l;cases l
  ·rw[e]at l
   simp only[Value.slice.injEq,Option.some.injEq,Addr.mk.injEq]at l
   rw[<-l.1.1]
   exact zi hh
 have B:=zh (h.ff f (by rw[E];simp))
 have R:=zh (And.intro E (And.intro l a2))
 have b5:=zh ok
 have c9:=zh F
 have d4:(f.at':Int)<4000:=by omega
 have c3:(f.at':Int)<(c.O.code.length:Int):=by omega
 obtain⟨u,z⟩:∃u,u=Vm.going { f with at':=f.at'+1 } fs s:=⟨_,rfl⟩
 have b2:Hid (u.frames={ f with at':=f.at'+1 } :: fs):=by rw[z];rfl
 have d0:Hid (f.base<=u.stack.length):=by rw[z];exact R.out.2.2
 have b9:Hid (u.way=s.way):=by rw[z];rfl
 have b8:=zh z
 rw[<-z]
 clear z
 have d1:=zh L
 clear a2 P l h y E L
 go_enter Tryz.func50,Tryz.ntmps50
 go_wp2_with fail
 refine a0.out.mono ?_
 rintro e d⟨rfl,C⟩
 obtain⟨x0,x1,x2,Y,b0,z1⟩:=T.out d C
 obtain⟨a6,a4⟩:=S.out d C
 obtain⟨eb,j,D,k6,M,c1,e0,e1,e2⟩:=K.out d a6.be
 obtain⟨m,G⟩:∃m,m=(d.alloc (.cells #[.int .i64 16,.int .i64 n,.int .i64 q] 138)).drew:=⟨_,rfl⟩
 have b1:Hid (Below d.heap.size d m):=by rw[G];exact(zb _ _).drew
 have Q:m.heap[d.heap.size]?=some (.cells #[.int .i64 16,.int .i64 n,.int .i64 q] 138 (0,0)):=by rw[G];exact zl d _
 have d2:=zh Q
 have V:Hid (Below W.heap.size W m):=C.trans (b1.out.mono C.size)
 obtain⟨y0,y1,_,c5,c7,z2⟩:=T.out m V.out
 obtain⟨a7,a5⟩:=S.out m V.out
 obtain⟨k,H⟩:∃k,k=m.setCell ⟨fb,fs.length*14+1,none⟩ (.int .i64 ((f.at':Int)+1)):=⟨_,rfl⟩
 have Z:FrOk c { f with at':=f.at'+1 }:=⟨B.out.of,B.out.ll,B.out.li,B.out.mn,by show f.at'+1<=4000;omega,B.out.bs⟩
 obtain⟨I,J⟩:=a7.frset a5 R.out.1 R.out.2.1 1 (.int .i64 ((f.at':Int)+1)) Z (yx c f (f.at'+1))
 rw[<-H]at I J
 have c2:d.heap.size≠fb:=by omega
 have d6:d.heap.size≠c.gb:=by have:=zc a4;omega
 have r:k.heap[d.heap.size]?=some (.cells #[.int .i64 16,.int .i64 n,.int .i64 q] 138 (0,0)):=by rw[H];exact(Below.heap_setCell _ _ _ _ (by simpa using c2)).trans Q
 have q0:k.cell? ⟨d.heap.size,0,none⟩=some (.int .i64 16):=(za r).trans rfl
 have q1:k.cell? ⟨d.heap.size,1,none⟩=some (.int .i64 n):=(za r).trans rfl
 have q2:k.cell? ⟨d.heap.size,2,none⟩=some (.int .i64 q):=(za r).trans rfl
 have c8:d.heap.size<k.heap.size:=zc r
 have c6:c.gb<k.heap.size:=zc J
 rw[<-b8.out]at I
 have b4:=zh I
 have b3:Hid (G8 c k w sv A u.way):=by rw[b9.out];exact J
 have d3:=zh r
 have HC:=zh (say8 b4.out b5.out b3.out b2.out)
 clear a6 a4 a7 a5 I J r Q C T S a0 Z a3 K
 generalize f.at'=at' at *
 have a1:Hid (∀i,Below d.heap.size d i->i.cell? ⟨fb,fs.length*14,none⟩=some (.pointer (some ⟨c.pb,0,none⟩))/\i.cell? ⟨fb,fs.length*14+1,none⟩=some (.int .i64 (at':Int))/\i.cell? ⟨c.pb,0,none⟩=some (.pointer (some ⟨c.ob,c.oo,none⟩))/\i.cell? ⟨c.ob,c.oo+6,none⟩=some (.slice (some ⟨eb,j,none⟩) c.O.code.length D)/\i.cell? ⟨eb,j+at'*3,none⟩=some (.int .i64 16)/\i.cell? ⟨eb,j+at'*3+1,none⟩=some (.int .i64 n)/\i.cell? ⟨eb,j+at'*3+2,none⟩=some (.int .i64 q)):=fun i g=>⟨(g.cell (p:=⟨fb,fs.length*14,none⟩) Y).trans x0,(g.cell (p:=⟨fb,fs.length*14+1,none⟩) Y).trans x1,(g.cell (p:=⟨c.pb,0,none⟩) b0).trans x2,(g.cell (p:=⟨c.ob,c.oo+6,none⟩) c1).trans k6,(g.cell (p:=⟨eb,j+at'*3,none⟩) M).trans e0,(g.cell (p:=⟨eb,j+at'*3+1,none⟩) M).trans e1,(g.cell (p:=⟨eb,j+at'*3+2,none⟩) M).trans e2⟩
 have b6:=zh (a1.out _ (zt d))
 have b7:Hid (∀o,(d.alloc o).drew.cell? ⟨fb,fs.length*14,none⟩=some (.pointer (some ⟨c.pb,0,none⟩))/\(d.alloc o).drew.cell? ⟨fb,fs.length*14+1,none⟩=some (.int .i64 (at':Int))/\(d.alloc o).drew.cell? ⟨c.pb,0,none⟩=some (.pointer (some ⟨c.ob,c.oo,none⟩))/\(d.alloc o).drew.cell? ⟨c.ob,c.oo+6,none⟩=some (.slice (some ⟨eb,j,none⟩) c.O.code.length D)/\(d.alloc o).drew.cell? ⟨eb,j+at'*3,none⟩=some (.int .i64 16)/\(d.alloc o).drew.cell? ⟨eb,j+at'*3+1,none⟩=some (.int .i64 n)/\(d.alloc o).drew.cell? ⟨eb,j+at'*3+2,none⟩=some (.int .i64 q)):=fun o=>a1.out _ (zb _ _).drew
 go_upto_region 1 with fail
 go_region_held3 (fun i=>i.cell? ⟨fb,fs.length*14,none⟩=some (.pointer (some ⟨c.pb,0,none⟩))/\i.cell? ⟨fb,fs.length*14+1,none⟩=some (.int .i64 (at':Int))/\i.cell? ⟨c.pb,0,none⟩=some (.pointer (some ⟨c.ob,c.oo,none⟩))/\i.cell? ⟨c.ob,c.oo+6,none⟩=some (.slice (some ⟨eb,j,none⟩) c.O.code.length D)/\i.cell? ⟨eb,j+at'*3,none⟩=some (.int .i64 16)/\i.cell? ⟨eb,j+at'*3+1,none⟩=some (.int .i64 n)/\i.cell? ⟨eb,j+at'*3+2,none⟩=some (.int .i64 q)) (with_reducible (first|exact b6.out|exact b7.out _)) (fail)
 rw[<-G]
 clear G x0 x1 e0 e1 e2 k6
 go_upto_region 3 with fail
 rw[<-H]
 clear H y0 y1
 go_wp2_with fail
 refine HC.out.mono ?_
 intro e w4 hq
 obtain⟨rfl,a9⟩:=hq
 have X:Hid (StepP c (Vm.say f.base u) (.returned (.tuple #[])) w4):=⟨rfl,a9⟩
 clear a9
 go_wp2_with fail
 first|exact ze rfl rfl X.out|exact bodyPost_ret (v:=.tuple #[]) (by simp[results,Tryz.results50,go_sem]) rfl X.out
theorem step_17 (h:MM c W s vv w sv A)(ok:VxOk c)(y:G8 c W w sv A s.way){f:Fr}{fs:List Fr}(E:s.frames=f :: fs)(a4:f.base<=s.stack.length)(F:f.at'<c.O.code.length)(b0:c.O.code[f.at'].op=17) :
  Calls Tryz.prog 50 #[.pointer (some ⟨c.gb,0,none⟩)] W (StepP c (Vm.exec c.most { f with at':=f.at'+1 } fs ⟨c.O,vv⟩ c.O.code[f.at'] (Vm.going { f with at':=f.at'+1 } fs s))):=by
 obtain⟨fb,cap,l,P,c3,Q⟩:=h.top E
 have b9:=zc y
 have d5:=zV ok
 have a2:=zh (last8 h y E l)
 have hI:=ok.i64 _ (List.getElem_mem F)
 have M:=inst8 ok F
 have K:Hid (∀d,Below c.w0.heap.size c.w0 d->∃b o D,d.cell? ⟨c.ob,c.oo+6,none⟩=some (.slice (some ⟨b,o,none⟩) c.O.code.length D)/\b<d.heap.size/\c.ob<d.heap.size/\d.cell? ⟨b,o+f.at'*3,none⟩=some (.int .i64 c.O.code[f.at'].op)/\d.cell? ⟨b,o+f.at'*3+1,none⟩=some (.int .i64 c.O.code[f.at'].a)/\d.cell? ⟨b,o+f.at'*3+2,none⟩=some (.int .i64 c.O.code[f.at'].b)):=fun d g=>code8 ok g F
 generalize c.O.code[f.at']=x at *
 obtain⟨d7,n,q⟩:=x
 simp only at b0 hI K
 subst b0
 unfold Ob.instB at M
 have a5:∀t,Vm.exec c.most { f with at':=f.at'+1 } fs ⟨c.O,vv⟩ ⟨17,n,q⟩ t=Vm.ended 1 t:=fun t=>by simp[Vm.exec]
 rw[a5]
 have T:Hid (∀d,Below W.heap.size W d->MM c d s vv w sv A/\G8 c d w sv A s.way):=fun d g=>⟨h.below ok y g,(g.block _ b9).trans y⟩
 have U:Hid (∀d,Below W.heap.size W d->d.cell? ⟨fb,fs.length*14,none⟩=some (.pointer (some ⟨c.pb,0,none⟩))/\d.cell? ⟨fb,fs.length*14+1,none⟩=some (.int .i64 (f.at':Int))/\d.cell? ⟨c.pb,0,none⟩=some (.pointer (some ⟨c.ob,c.oo,none⟩))/\fb<d.heap.size/\c.pb<d.heap.size/\d.frozen? ⟨fb,fs.length*14+1,none⟩=false):=fun d g=>by
  obtain⟨V,_⟩:=(⟨h.below ok y g,trivial⟩:MM c d s vv w sv A/\True)
  refine⟨(g.cell (p:=⟨fb,fs.length*14,none⟩) P).trans (Q 0 _ rfl),(g.cell (p:=⟨fb,fs.length*14+1,none⟩) P).trans (Q 1 _ rfl),(za V.pk).trans rfl,Nat.lt_of_lt_of_le P g.size,zc V.pk,?_⟩
  rcases V.fr.2 with⟨e,_⟩|⟨g',cp',cur',e,_,hh,_⟩
  ·rw[e]at l;cases l
  ·rw[e]at l
   simp only[Value.slice.injEq,Option.some.injEq,Addr.mk.injEq]at l
   rw[<-l.1.1]
   exact zi hh
 have B:=zh (h.ff f (by rw[E];simp))
 have S:=zh (And.intro E (And.intro l a4))
 have b4:=zh ok
 have c8:=zh F
 have d4:(f.at':Int)<4000:=by omega
 have c2:(f.at':Int)<(c.O.code.length:Int):=by omega
 obtain⟨u,z⟩:∃u,u=Vm.going { f with at':=f.at'+1 } fs s:=⟨_,rfl⟩
 have d0:Hid (u.frames={ f with at':=f.at'+1 } :: fs):=by rw[z];rfl
 have c9:Hid (f.base<=u.stack.length):=by rw[z];exact S.out.2.2
 have b8:Hid (u.way=s.way):=by rw[z];rfl
 have b7:=zh z
 rw[<-z]
 clear z
 have d1:=zh M
 clear a4 Q l h y E M
 go_enter Tryz.func50,Tryz.ntmps50
 go_wp2_with fail
 refine a2.out.mono ?_
 rintro e d⟨rfl,C⟩
 obtain⟨x0,x1,x2,Z,b1,z1⟩:=U.out d C
 obtain⟨a8,a6⟩:=T.out d C
 obtain⟨eb,j,D,k6,N,c0,e0,e1,e2⟩:=K.out d a8.be
 obtain⟨m,G⟩:∃m,m=(d.alloc (.cells #[.int .i64 17,.int .i64 n,.int .i64 q] 138)).drew:=⟨_,rfl⟩
 have b2:Hid (Below d.heap.size d m):=by rw[G];exact(zb _ _).drew
 have R:m.heap[d.heap.size]?=some (.cells #[.int .i64 17,.int .i64 n,.int .i64 q] 138 (0,0)):=by rw[G];exact zl d _
 have d2:=zh R
 have X:Hid (Below W.heap.size W m):=C.trans (b2.out.mono C.size)
 obtain⟨y0,y1,_,c4,c6,z2⟩:=U.out m X.out
 obtain⟨a9,a7⟩:=T.out m X.out
 obtain⟨k,H⟩:∃k,k=m.setCell ⟨fb,fs.length*14+1,none⟩ (.int .i64 ((f.at':Int)+1)):=⟨_,rfl⟩
 have a1:FrOk c { f with at':=f.at'+1 }:=⟨B.out.of,B.out.ll,B.out.li,B.out.mn,by show f.at'+1<=4000;omega,B.out.bs⟩
 obtain⟨I,J⟩:=a9.frset a7 S.out.1 S.out.2.1 1 (.int .i64 ((f.at':Int)+1)) a1 (yx c f (f.at'+1))
 rw[<-H]at I J
 have c1:d.heap.size≠fb:=by omega
 have d6:d.heap.size≠c.gb:=by have:=zc a6;omega
 have r:k.heap[d.heap.size]?=some (.cells #[.int .i64 17,.int .i64 n,.int .i64 q] 138 (0,0)):=by rw[H];exact(Below.heap_setCell _ _ _ _ (by simpa using c1)).trans R
 have q0:k.cell? ⟨d.heap.size,0,none⟩=some (.int .i64 17):=(za r).trans rfl
 have q1:k.cell? ⟨d.heap.size,1,none⟩=some (.int .i64 n):=(za r).trans rfl
 have q2:k.cell? ⟨d.heap.size,2,none⟩=some (.int .i64 q):=(za r).trans rfl
 have c7:d.heap.size<k.heap.size:=zc r
 have c5:c.gb<k.heap.size:=zc J
 rw[<-b7.out]at I
 have b3:=zh I
 have L:Hid (G8 c k w sv A u.way):=by rw[b8.out];exact J
 have d3:=zh r
 have a0:=MV.end b3.out b4.out L.out 1
 have k5:k.cell? ⟨c.gb,5,none⟩=some (.int .i64 (u.way:Int)):=(za L.out).trans rfl
 have z5:k.frozen? ⟨c.gb,5,none⟩=false:=zi L.out
 have Y:Hid (StepP c (Vm.ended 1 u) (.returned (.tuple #[])) (k.setCell ⟨c.gb,5,none⟩ (.int .i64 1))):=⟨rfl,a0⟩
 clear a0
 generalize (u.way:Int)=wy at *
 clear a8 a6 a9 a7 I J r R C U T a2 a1 a5 K
 generalize f.at'=at' at *
 have a3:Hid (∀i,Below d.heap.size d i->i.cell? ⟨fb,fs.length*14,none⟩=some (.pointer (some ⟨c.pb,0,none⟩))/\i.cell? ⟨fb,fs.length*14+1,none⟩=some (.int .i64 (at':Int))/\i.cell? ⟨c.pb,0,none⟩=some (.pointer (some ⟨c.ob,c.oo,none⟩))/\i.cell? ⟨c.ob,c.oo+6,none⟩=some (.slice (some ⟨eb,j,none⟩) c.O.code.length D)/\i.cell? ⟨eb,j+at'*3,none⟩=some (.int .i64 17)/\i.cell? ⟨eb,j+at'*3+1,none⟩=some (.int .i64 n)/\i.cell? ⟨eb,j+at'*3+2,none⟩=some (.int .i64 q)):=fun i g=>⟨(g.cell (p:=⟨fb,fs.length*14,none⟩) Z).trans x0,(g.cell (p:=⟨fb,fs.length*14+1,none⟩) Z).trans x1,(g.cell (p:=⟨c.pb,0,none⟩) b1).trans x2,(g.cell (p:=⟨c.ob,c.oo+6,none⟩) c0).trans k6,(g.cell (p:=⟨eb,j+at'*3,none⟩) N).trans e0,(g.cell (p:=⟨eb,j+at'*3+1,none⟩) N).trans e1,(g.cell (p:=⟨eb,j+at'*3+2,none⟩) N).trans e2⟩
 have b5:=zh (a3.out _ (zt d))
 have b6:Hid (∀o,(d.alloc o).drew.cell? ⟨fb,fs.length*14,none⟩=some (.pointer (some ⟨c.pb,0,none⟩))/\(d.alloc o).drew.cell? ⟨fb,fs.length*14+1,none⟩=some (.int .i64 (at':Int))/\(d.alloc o).drew.cell? ⟨c.pb,0,none⟩=some (.pointer (some ⟨c.ob,c.oo,none⟩))/\(d.alloc o).drew.cell? ⟨c.ob,c.oo+6,none⟩=some (.slice (some ⟨eb,j,none⟩) c.O.code.length D)/\(d.alloc o).drew.cell? ⟨eb,j+at'*3,none⟩=some (.int .i64 17)/\(d.alloc o).drew.cell? ⟨eb,j+at'*3+1,none⟩=some (.int .i64 n)/\(d.alloc o).drew.cell? ⟨eb,j+at'*3+2,none⟩=some (.int .i64 q)):=fun o=>a3.out _ (zb _ _).drew
 go_upto_region 1 with fail
 go_region_held3 (fun i=>i.cell? ⟨fb,fs.length*14,none⟩=some (.pointer (some ⟨c.pb,0,none⟩))/\i.cell? ⟨fb,fs.length*14+1,none⟩=some (.int .i64 (at':Int))/\i.cell? ⟨c.pb,0,none⟩=some (.pointer (some ⟨c.ob,c.oo,none⟩))/\i.cell? ⟨c.ob,c.oo+6,none⟩=some (.slice (some ⟨eb,j,none⟩) c.O.code.length D)/\i.cell? ⟨eb,j+at'*3,none⟩=some (.int .i64 17)/\i.cell? ⟨eb,j+at'*3+1,none⟩=some (.int .i64 n)/\i.cell? ⟨eb,j+at'*3+2,none⟩=some (.int .i64 q)) (with_reducible (first|exact b5.out|exact b6.out _)) (fail)
 rw[<-G]
 clear G x0 x1 e0 e1 e2 k6
 go_upto_region 3 with fail
 rw[<-H]
 clear H y0 y1
 go_wp2_with fail
 first|exact ze rfl rfl Y.out|exact bodyPost_ret (v:=.tuple #[]) (by simp[results,Tryz.results50,go_sem]) rfl Y.out
end Go.Proofs.YtbkndnmglhghlaaGreatDoor.Jo
