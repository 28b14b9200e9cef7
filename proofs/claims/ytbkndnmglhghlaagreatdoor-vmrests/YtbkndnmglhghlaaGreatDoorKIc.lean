import Derived.Test.YtbkndnmglhghlaaGreatDoorKIb
set_option maxRecDepth 100000
set_option maxHeartbeats 4000000

namespace Go.Proofs.YtbkndnmglhghlaaGreatDoor.Jo
open Go.RowKit Go.Maps
open Ob (O In I64)
open Vm (St Fr Pl)
variable {k n:Int}{vv:List (List Int)}{b:Nat}{s:St}{A B sv w y:Value}{c:Vx}{W:World}
theorem step_1 (h:MM c W s vv w sv A)(ok:VxOk c)(y:G8 c W w sv A s.way){f:Fr}{fs:List Fr}(E:s.frames=f :: fs)(a2:f.base<=s.stack.length)(F:f.at'<c.O.code.length)(a8:c.O.code[f.at'].op=1) :
  Calls Tryz.prog 50 #[.pointer (some ⟨c.gb,0,none⟩)] W (StepP c (Vm.exec c.most { f with at':=f.at'+1 } fs ⟨c.O,vv⟩ c.O.code[f.at'] (Vm.going { f with at':=f.at'+1 } fs s))):=by
 obtain⟨fb,cap,m,N,c3,P⟩:=h.top E
 have b9:=zc y
 have d5:=zV ok
 have a0:=zh (last8 h y E m)
 have hI:=ok.i64 _ (List.getElem_mem F)
 have L:=inst8 ok F
 have K:Hid (∀d,Below c.w0.heap.size c.w0 d->∃b o D,d.cell? ⟨c.ob,c.oo+6,none⟩=some (.slice (some ⟨b,o,none⟩) c.O.code.length D)/\b<d.heap.size/\c.ob<d.heap.size/\d.cell? ⟨b,o+f.at'*3,none⟩=some (.int .i64 c.O.code[f.at'].op)/\d.cell? ⟨b,o+f.at'*3+1,none⟩=some (.int .i64 c.O.code[f.at'].a)/\d.cell? ⟨b,o+f.at'*3+2,none⟩=some (.int .i64 c.O.code[f.at'].b)):=fun d g=>code8 ok g F
 generalize c.O.code[f.at']=x at *
 obtain⟨d7,k,q⟩:=x
 simp only at a8 hI K
 subst a8
 unfold Ob.instB at L
 have a3:∀t,Vm.exec c.most { f with at':=f.at'+1 } fs ⟨c.O,vv⟩ ⟨1,k,q⟩ t=Vm.put k t:=fun t=>by simp[Vm.exec]
 rw[a3]
 have S:Hid (∀d,Below W.heap.size W d->MM c d s vv w sv A/\G8 c d w sv A s.way):=fun d g=>⟨h.below ok y g,(g.block _ b9).trans y⟩
 have T:Hid (∀d,Below W.heap.size W d->d.cell? ⟨fb,fs.length*14,none⟩=some (.pointer (some ⟨c.pb,0,none⟩))/\d.cell? ⟨fb,fs.length*14+1,none⟩=some (.int .i64 (f.at':Int))/\d.cell? ⟨c.pb,0,none⟩=some (.pointer (some ⟨c.ob,c.oo,none⟩))/\fb<d.heap.size/\c.pb<d.heap.size/\d.frozen? ⟨fb,fs.length*14+1,none⟩=false):=fun d g=>by
  obtain⟨U,_⟩:=(⟨h.below ok y g,trivial⟩:MM c d s vv w sv A/\True)
  refine⟨(g.cell (p:=⟨fb,fs.length*14,none⟩) N).trans (P 0 _ rfl),(g.cell (p:=⟨fb,fs.length*14+1,none⟩) N).trans (P 1 _ rfl),(za U.pk).trans rfl,Nat.lt_of_lt_of_le N g.size,zc U.pk,?_⟩
  rcases U.fr.2 with⟨e,_⟩|⟨g',cp',cur',e,_,hh,_⟩
  ·rw[e]at m;cases m
  ·rw[e]at m
   simp only[Value.slice.injEq,Option.some.injEq,Addr.mk.injEq]at m
   rw[<-m.1.1]
   exact zi hh
 have B:=zh (h.ff f (by rw[E];simp))
 have R:=zh (And.intro E (And.intro m a2))
 have b4:=zh ok
 have c8:=zh F
 have d4:(f.at':Int)<4000:=by omega
 have c2:(f.at':Int)<(c.O.code.length:Int):=by omega
 obtain⟨u,z⟩:∃u,u=Vm.going { f with at':=f.at'+1 } fs s:=⟨_,rfl⟩
 have d0:Hid (u.frames={ f with at':=f.at'+1 } :: fs):=by rw[z];rfl
 have c9:Hid (f.base<=u.stack.length):=by rw[z];exact R.out.2.2
 have b8:Hid (u.way=s.way):=by rw[z];rfl
 have b7:=zh z
 rw[<-z]
 clear z
 have d1:=zh L
 clear a2 P m h y E L
 go_enter Tryz.func50,Tryz.ntmps50
 go_wp2_with fail
 refine a0.out.mono ?_
 rintro e d⟨rfl,C⟩
 obtain⟨x0,x1,x2,Y,b0,z1⟩:=T.out d C
 obtain⟨a6,a4⟩:=S.out d C
 obtain⟨eb,j,D,k6,M,c0,e0,e1,e2⟩:=K.out d a6.be
 obtain⟨n,G⟩:∃n,n=(d.alloc (.cells #[.int .i64 1,.int .i64 k,.int .i64 q] 138)).drew:=⟨_,rfl⟩
 have b1:Hid (Below d.heap.size d n):=by rw[G];exact(zb _ _).drew
 have Q:n.heap[d.heap.size]?=some (.cells #[.int .i64 1,.int .i64 k,.int .i64 q] 138 (0,0)):=by rw[G];exact zl d _
 have d2:=zh Q
 have V:Hid (Below W.heap.size W n):=C.trans (b1.out.mono C.size)
 obtain⟨y0,y1,_,c4,c6,z2⟩:=T.out n V.out
 obtain⟨a7,a5⟩:=S.out n V.out
 obtain⟨l,H⟩:∃l,l=n.setCell ⟨fb,fs.length*14+1,none⟩ (.int .i64 ((f.at':Int)+1)):=⟨_,rfl⟩
 have Z:FrOk c { f with at':=f.at'+1 }:=⟨B.out.of,B.out.ll,B.out.li,B.out.mn,by show f.at'+1<=4000;omega,B.out.bs⟩
 obtain⟨I,J⟩:=a7.frset a5 R.out.1 R.out.2.1 1 (.int .i64 ((f.at':Int)+1)) Z (yx c f (f.at'+1))
 rw[<-H]at I J
 have c1:d.heap.size≠fb:=by omega
 have d6:d.heap.size≠c.gb:=by have:=zc a4;omega
 have r:l.heap[d.heap.size]?=some (.cells #[.int .i64 1,.int .i64 k,.int .i64 q] 138 (0,0)):=by rw[H];exact(Below.heap_setCell _ _ _ _ (by simpa using c1)).trans Q
 have q0:l.cell? ⟨d.heap.size,0,none⟩=some (.int .i64 1):=(za r).trans rfl
 have q1:l.cell? ⟨d.heap.size,1,none⟩=some (.int .i64 k):=(za r).trans rfl
 have q2:l.cell? ⟨d.heap.size,2,none⟩=some (.int .i64 q):=(za r).trans rfl
 have c7:d.heap.size<l.heap.size:=zc r
 have c5:c.gb<l.heap.size:=zc J
 rw[<-b7.out]at I
 have b3:=zh I
 have b2:Hid (G8 c l w sv A u.way):=by rw[b8.out];exact J
 have d3:=zh r
 have HC:=zh (put8 b3.out b4.out b2.out k hI)
 clear a6 a4 a7 a5 I J r Q C T S a0 Z a3 K
 generalize f.at'=at' at *
 have a1:Hid (∀i,Below d.heap.size d i->i.cell? ⟨fb,fs.length*14,none⟩=some (.pointer (some ⟨c.pb,0,none⟩))/\i.cell? ⟨fb,fs.length*14+1,none⟩=some (.int .i64 (at':Int))/\i.cell? ⟨c.pb,0,none⟩=some (.pointer (some ⟨c.ob,c.oo,none⟩))/\i.cell? ⟨c.ob,c.oo+6,none⟩=some (.slice (some ⟨eb,j,none⟩) c.O.code.length D)/\i.cell? ⟨eb,j+at'*3,none⟩=some (.int .i64 1)/\i.cell? ⟨eb,j+at'*3+1,none⟩=some (.int .i64 k)/\i.cell? ⟨eb,j+at'*3+2,none⟩=some (.int .i64 q)):=fun i g=>⟨(g.cell (p:=⟨fb,fs.length*14,none⟩) Y).trans x0,(g.cell (p:=⟨fb,fs.length*14+1,none⟩) Y).trans x1,(g.cell (p:=⟨c.pb,0,none⟩) b0).trans x2,(g.cell (p:=⟨c.ob,c.oo+6,none⟩) c0).trans k6,(g.cell (p:=⟨eb,j+at'*3,none⟩) M).trans e0,(g.cell (p:=⟨eb,j+at'*3+1,none⟩) M).trans e1,(g.cell (p:=⟨eb,j+at'*3+2,none⟩) M).trans e2⟩
 have b5:=zh (a1.out _ (zt d))
 have b6:Hid (∀o,(d.alloc o).drew.cell? ⟨fb,fs.length*14,none⟩=some (.pointer (some ⟨c.pb,0,none⟩))/\(d.alloc o).drew.cell? ⟨fb,fs.length*14+1,none⟩=some (.int .i64 (at':Int))/\(d.alloc o).drew.cell? ⟨c.pb,0,none⟩=some (.pointer (some ⟨c.ob,c.oo,none⟩))/\(d.alloc o).drew.cell? ⟨c.ob,c.oo+6,none⟩=some (.slice (some ⟨eb,j,none⟩) c.O.code.length D)/\(d.alloc o).drew.cell? ⟨eb,j+at'*3,none⟩=some (.int .i64 1)/\(d.alloc o).drew.cell? ⟨eb,j+at'*3+1,none⟩=some (.int .i64 k)/\(d.alloc o).drew.cell? ⟨eb,j+at'*3+2,none⟩=some (.int .i64 q)):=fun o=>a1.out _ (zb _ _).drew
 go_upto_region 1 with fail
 go_region_held3 (fun i=>i.cell? ⟨fb,fs.length*14,none⟩=some (.pointer (some ⟨c.pb,0,none⟩))/\i.cell? ⟨fb,fs.length*14+1,none⟩=some (.int .i64 (at':Int))/\i.cell? ⟨c.pb,0,none⟩=some (.pointer (some ⟨c.ob,c.oo,none⟩))/\i.cell? ⟨c.ob,c.oo+6,none⟩=some (.slice (some ⟨eb,j,none⟩) c.O.code.length D)/\i.cell? ⟨eb,j+at'*3,none⟩=some (.int .i64 1)/\i.cell? ⟨eb,j+at'*3+1,none⟩=some (.int .i64 k)/\i.cell? ⟨eb,j+at'*3+2,none⟩=some (.int .i64 q)) (with_reducible (first|exact b5.out|exact b6.out _)) (fail)
 rw[<-G]
 clear G x0 x1 e0 e1 e2 k6
 go_upto_region 3 with fail
 rw[<-H]
 clear H y0 y1
 go_wp2_with fail
 refine HC.out.mono ?_
 intro e w4 hq
 obtain⟨rfl,a9⟩:=hq
 have X:Hid (StepP c (Vm.put k u) (.returned (.tuple #[])) w4):=⟨rfl,a9⟩
 clear a9
 go_wp2_with fail
 first|exact ze rfl rfl X.out|exact bodyPost_ret (v:=.tuple #[]) (by simp[results,Tryz.results50,go_sem]) rfl X.out
theorem step_2 {z E:Value}(h:MM c W s vv z sv E)(ok:VxOk c)(B:G8 c W z sv E s.way){f:Fr}{fs:List Fr}(L:s.frames=f :: fs)(a5:f.base<=s.stack.length)(M:f.at'<c.O.code.length)(b1:c.O.code[f.at'].op=2) :
  Calls Tryz.prog 50 #[.pointer (some ⟨c.gb,0,none⟩)] W (StepP c (Vm.exec c.most { f with at':=f.at'+1 } fs ⟨c.O,vv⟩ c.O.code[f.at'] (Vm.going { f with at':=f.at'+1 } fs s))):=by
 obtain⟨fb,cap,l,V,c6,X⟩:=h.top L
 have c2:=zc B
 have d7:=zV ok
 have a3:=zh (last8 h B L l)
 have hI:=ok.i64 _ (List.getElem_mem M)
 have T:=inst8 ok M
 have S:Hid (∀d,Below c.w0.heap.size c.w0 d->∃b o K,d.cell? ⟨c.ob,c.oo+6,none⟩=some (.slice (some ⟨b,o,none⟩) c.O.code.length K)/\b<d.heap.size/\c.ob<d.heap.size/\d.cell? ⟨b,o+f.at'*3,none⟩=some (.int .i64 c.O.code[f.at'].op)/\d.cell? ⟨b,o+f.at'*3+1,none⟩=some (.int .i64 c.O.code[f.at'].a)/\d.cell? ⟨b,o+f.at'*3+2,none⟩=some (.int .i64 c.O.code[f.at'].b)):=fun d g=>code8 ok g M
 generalize c.O.code[f.at']=x at *
 obtain⟨e3,q,w⟩:=x
 simp only at b1 hI S
 subst b1
 unfold Ob.instB at T
 have a6:∀t,Vm.exec c.most { f with at':=f.at'+1 } fs ⟨c.O,vv⟩ ⟨2,q,w⟩ t=Vm.taken f.base t fun _ s=>s:=fun t=>by simp[Vm.exec]
 rw[a6]
 have HM:Hid (∀d,Below W.heap.size W d->MM c d s vv z sv E/\G8 c d z sv E s.way):=fun d g=>⟨h.below ok B g,(g.block _ c2).trans B⟩
 have HX:Hid (∀d,Below W.heap.size W d->d.cell? ⟨fb,fs.length*14,none⟩=some (.pointer (some ⟨c.pb,0,none⟩))/\d.cell? ⟨fb,fs.length*14+1,none⟩=some (.int .i64 (f.at':Int))/\d.cell? ⟨c.pb,0,none⟩=some (.pointer (some ⟨c.ob,c.oo,none⟩))/\fb<d.heap.size/\c.pb<d.heap.size/\d.frozen? ⟨fb,fs.length*14+1,none⟩=false):=fun d g=>by
  obtain⟨m1,_⟩:=(⟨h.below ok B g,trivial⟩:MM c d s vv z sv E/\True)
  refine⟨(g.cell (p:=⟨fb,fs.length*14,none⟩) V).trans (X 0 _ rfl),(g.cell (p:=⟨fb,fs.length*14+1,none⟩) V).trans (X 1 _ rfl),(za m1.pk).trans rfl,Nat.lt_of_lt_of_le V g.size,zc m1.pk,?_⟩
  rcases m1.fr.2 with⟨e,_⟩|⟨g',cp',cur',e,_,hh,_⟩
  ·rw[e]at l;cases l
  ·rw[e]at l
   simp only[Value.slice.injEq,Option.some.injEq,Addr.mk.injEq]at l
   rw[<-l.1.1]
   exact zi hh
 have G:=zh (h.ff f (by rw[L];simp))
 have Z:=zh (And.intro L (And.intro l a5))
 have b7:=zh ok
 have d1:=zh M
 have d6:(f.at':Int)<4000:=by omega
 have c5:(f.at':Int)<(c.O.code.length:Int):=by omega
 obtain⟨u,D⟩:∃u,u=Vm.going { f with at':=f.at'+1 } fs s:=⟨_,rfl⟩
 have b4:Hid (u.frames={ f with at':=f.at'+1 } :: fs):=by rw[D];rfl
 have d2:Hid (f.base<=u.stack.length):=by rw[D];exact Z.out.2.2
 have c1:Hid (u.way=s.way):=by rw[D];rfl
 have c0:=zh D
 rw[<-D]
 clear D
 have d3:=zh T
 clear a5 X l h B L T
 go_enter Tryz.func50,Tryz.ntmps50
 go_wp2_with fail
 refine a3.out.mono ?_
 rintro e d⟨rfl,H⟩
 obtain⟨x0,x1,x2,a1,b2,z1⟩:=HX.out d H
 obtain⟨a9,a7⟩:=HM.out d H
 obtain⟨eb,j,K,k6,U,c3,e0,e1,e2⟩:=S.out d a9.be
 obtain⟨m,N⟩:∃m,m=(d.alloc (.cells #[.int .i64 2,.int .i64 q,.int .i64 w] 138)).drew:=⟨_,rfl⟩
 have b3:Hid (Below d.heap.size d m):=by rw[N];exact(zb _ _).drew
 have Y:m.heap[d.heap.size]?=some (.cells #[.int .i64 2,.int .i64 q,.int .i64 w] 138 (0,0)):=by rw[N];exact zl d _
 have d4:=zh Y
 have a0:Hid (Below W.heap.size W m):=H.trans (b3.out.mono H.size)
 obtain⟨y0,y1,_,c7,c9,z2⟩:=HX.out m a0.out
 obtain⟨b0,a8⟩:=HM.out m a0.out
 obtain⟨k,P⟩:∃k,k=m.setCell ⟨fb,fs.length*14+1,none⟩ (.int .i64 ((f.at':Int)+1)):=⟨_,rfl⟩
 have a2:FrOk c { f with at':=f.at'+1 }:=⟨G.out.of,G.out.ll,G.out.li,G.out.mn,by show f.at'+1<=4000;omega,G.out.bs⟩
 obtain⟨Q,R⟩:=b0.frset a8 Z.out.1 Z.out.2.1 1 (.int .i64 ((f.at':Int)+1)) a2 (yx c f (f.at'+1))
 rw[<-P]at Q R
 have c4:d.heap.size≠fb:=by omega
 have d8:d.heap.size≠c.gb:=by have:=zc a7;omega
 have y:k.heap[d.heap.size]?=some (.cells #[.int .i64 2,.int .i64 q,.int .i64 w] 138 (0,0)):=by rw[P];exact(Below.heap_setCell _ _ _ _ (by simpa using c4)).trans Y
 have q0:k.cell? ⟨d.heap.size,0,none⟩=some (.int .i64 2):=(za y).trans rfl
 have q1:k.cell? ⟨d.heap.size,1,none⟩=some (.int .i64 q):=(za y).trans rfl
 have q2:k.cell? ⟨d.heap.size,2,none⟩=some (.int .i64 w):=(za y).trans rfl
 have d0:d.heap.size<k.heap.size:=zc y
 have c8:c.gb<k.heap.size:=zc R
 rw[<-c0.out]at Q
 have b6:=zh Q
 have b5:Hid (G8 c k z sv E u.way):=by rw[c1.out];exact R
 have d5:=zh y
 have HC:=zh (take8 b6.out b7.out b5.out b4.out)
 clear a9 a7 b0 a8 Q R y Y H HX HM a3 a2 a6 S
 generalize f.at'=at' at *
 have a4:Hid (∀i,Below d.heap.size d i->i.cell? ⟨fb,fs.length*14,none⟩=some (.pointer (some ⟨c.pb,0,none⟩))/\i.cell? ⟨fb,fs.length*14+1,none⟩=some (.int .i64 (at':Int))/\i.cell? ⟨c.pb,0,none⟩=some (.pointer (some ⟨c.ob,c.oo,none⟩))/\i.cell? ⟨c.ob,c.oo+6,none⟩=some (.slice (some ⟨eb,j,none⟩) c.O.code.length K)/\i.cell? ⟨eb,j+at'*3,none⟩=some (.int .i64 2)/\i.cell? ⟨eb,j+at'*3+1,none⟩=some (.int .i64 q)/\i.cell? ⟨eb,j+at'*3+2,none⟩=some (.int .i64 w)):=fun i g=>⟨(g.cell (p:=⟨fb,fs.length*14,none⟩) a1).trans x0,(g.cell (p:=⟨fb,fs.length*14+1,none⟩) a1).trans x1,(g.cell (p:=⟨c.pb,0,none⟩) b2).trans x2,(g.cell (p:=⟨c.ob,c.oo+6,none⟩) c3).trans k6,(g.cell (p:=⟨eb,j+at'*3,none⟩) U).trans e0,(g.cell (p:=⟨eb,j+at'*3+1,none⟩) U).trans e1,(g.cell (p:=⟨eb,j+at'*3+2,none⟩) U).trans e2⟩
 have b8:=zh (a4.out _ (zt d))
 have b9:Hid (∀o,(d.alloc o).drew.cell? ⟨fb,fs.length*14,none⟩=some (.pointer (some ⟨c.pb,0,none⟩))/\(d.alloc o).drew.cell? ⟨fb,fs.length*14+1,none⟩=some (.int .i64 (at':Int))/\(d.alloc o).drew.cell? ⟨c.pb,0,none⟩=some (.pointer (some ⟨c.ob,c.oo,none⟩))/\(d.alloc o).drew.cell? ⟨c.ob,c.oo+6,none⟩=some (.slice (some ⟨eb,j,none⟩) c.O.code.length K)/\(d.alloc o).drew.cell? ⟨eb,j+at'*3,none⟩=some (.int .i64 2)/\(d.alloc o).drew.cell? ⟨eb,j+at'*3+1,none⟩=some (.int .i64 q)/\(d.alloc o).drew.cell? ⟨eb,j+at'*3+2,none⟩=some (.int .i64 w)):=fun o=>a4.out _ (zb _ _).drew
 go_upto_region 1 with fail
 go_region_held3 (fun i=>i.cell? ⟨fb,fs.length*14,none⟩=some (.pointer (some ⟨c.pb,0,none⟩))/\i.cell? ⟨fb,fs.length*14+1,none⟩=some (.int .i64 (at':Int))/\i.cell? ⟨c.pb,0,none⟩=some (.pointer (some ⟨c.ob,c.oo,none⟩))/\i.cell? ⟨c.ob,c.oo+6,none⟩=some (.slice (some ⟨eb,j,none⟩) c.O.code.length K)/\i.cell? ⟨eb,j+at'*3,none⟩=some (.int .i64 2)/\i.cell? ⟨eb,j+at'*3+1,none⟩=some (.int .i64 q)/\i.cell? ⟨eb,j+at'*3+2,none⟩=some (.int .i64 w)) (with_reducible (first|exact b8.out|exact b9.out _)) (fail)
 rw[<-N]
 clear N x0 x1 e0 e1 e2 k6
 go_upto_region 3 with fail
 rw[<-P]
 clear P y0 y1
 go_wp2_with fail
 refine HC.out.mono ?_
 intro e w4 C
 obtain⟨_,C⟩:=C
 by_cases A:u.stack.length<=f.base
 ·rw[if_pos A]at C
  obtain⟨rfl,J,I⟩:=C
  have F:Hid (StepP c (Vm.taken f.base u fun _ s=>s) (.returned (.tuple #[])) w4):=⟨rfl,by rw[yk A];exact J.mv8 I⟩
  clear J I A
  go_wp2_with fail
  first|exact ze rfl rfl F.out|exact bodyPost_ret (v:=.tuple #[]) (by simp[results,Tryz.results50,go_sem]) rfl F.out
 ·rw[if_neg A]at C
  obtain⟨n,r,d9,hs,rfl,J,I⟩:=C
  have F:Hid (StepP c (Vm.taken f.base u fun _ s=>s) (.returned (.tuple #[])) w4):=⟨rfl,by rw[zR hs A];exact⟨_,_,_,_,J,I⟩⟩
  clear J I A hs
  go_wp2_with fail
  first|exact ze rfl rfl F.out|exact bodyPost_ret (v:=.tuple #[]) (by simp[results,Tryz.results50,go_sem]) rfl F.out
theorem step_3 (h:MM c W s vv y sv B)(ok:VxOk c)(z:G8 c W y sv B s.way){f:Fr}{fs:List Fr}(F:s.frames=f :: fs)(a3:f.base<=s.stack.length)(G:f.at'<c.O.code.length)(a9:c.O.code[f.at'].op=3) :
  Calls Tryz.prog 50 #[.pointer (some ⟨c.gb,0,none⟩)] W (StepP c (Vm.exec c.most { f with at':=f.at'+1 } fs ⟨c.O,vv⟩ c.O.code[f.at'] (Vm.going { f with at':=f.at'+1 } fs s))):=by
 obtain⟨fb,cap,n,P,c6,Q⟩:=h.top F
 have c2:=zc z
 have d6:=zV ok
 have a1:=zh (last8 h z F n)
 have hI:=ok.i64 _ (List.getElem_mem G)
 have r:=inst8 ok G
 have M:Hid (∀d,Below c.w0.heap.size c.w0 d->∃b o E,d.cell? ⟨c.ob,c.oo+6,none⟩=some (.slice (some ⟨b,o,none⟩) c.O.code.length E)/\b<d.heap.size/\c.ob<d.heap.size/\d.cell? ⟨b,o+f.at'*3,none⟩=some (.int .i64 c.O.code[f.at'].op)/\d.cell? ⟨b,o+f.at'*3+1,none⟩=some (.int .i64 c.O.code[f.at'].a)/\d.cell? ⟨b,o+f.at'*3+2,none⟩=some (.int .i64 c.O.code[f.at'].b)):=fun d g=>code8 ok g G
 generalize c.O.code[f.at']=x at *
 obtain⟨d8,L,m⟩:=x
 simp only at a9 hI M
 subst a9
 unfold Ob.instB at r
 have r:0<=L/\L<10:=by simp[Ob.countsB,Ob.choices]at r;exact r.2
 obtain⟨k,rfl⟩:∃k:Nat,L=(k:Int):=⟨L.toNat,by omega⟩
 have a4:∀t,Vm.exec c.most { f with at':=f.at'+1 } fs ⟨c.O,vv⟩ ⟨3,(k:Int),m⟩ t=localF 3 k ({ f with at':=f.at'+1 }:Fr) fs t:=fun t=>by simp[Vm.exec,localF]
 rw[a4]
 have T:Hid (∀d,Below W.heap.size W d->MM c d s vv y sv B/\G8 c d y sv B s.way):=fun d g=>⟨h.below ok z g,(g.block _ c2).trans z⟩
 have U:Hid (∀d,Below W.heap.size W d->d.cell? ⟨fb,fs.length*14,none⟩=some (.pointer (some ⟨c.pb,0,none⟩))/\d.cell? ⟨fb,fs.length*14+1,none⟩=some (.int .i64 (f.at':Int))/\d.cell? ⟨c.pb,0,none⟩=some (.pointer (some ⟨c.ob,c.oo,none⟩))/\fb<d.heap.size/\c.pb<d.heap.size/\d.frozen? ⟨fb,fs.length*14+1,none⟩=false):=fun d g=>by
  obtain⟨V,_⟩:=(⟨h.below ok z g,trivial⟩:MM c d s vv y sv B/\True)
  refine⟨(g.cell (p:=⟨fb,fs.length*14,none⟩) P).trans (Q 0 _ rfl),(g.cell (p:=⟨fb,fs.length*14+1,none⟩) P).trans (Q 1 _ rfl),(za V.pk).trans rfl,Nat.lt_of_lt_of_le P g.size,zc V.pk,?_⟩
  rcases V.fr.2 with⟨e,_⟩|⟨g',cp',cur',e,_,hh,_⟩
  ·rw[e]at n;cases n
  ·rw[e]at n
   simp only[Value.slice.injEq,Option.some.injEq,Addr.mk.injEq]at n
   rw[<-n.1.1]
   exact zi hh
 have C:=zh (h.ff f (by rw[F];simp))
 have S:=zh (And.intro F (And.intro n a3))
 have b7:=zh ok
 have d1:=zh G
 have d5:(f.at':Int)<4000:=by omega
 have c5:(f.at':Int)<(c.O.code.length:Int):=by omega
 obtain⟨u,A⟩:∃u,u=Vm.going { f with at':=f.at'+1 } fs s:=⟨_,rfl⟩
 have b3:Hid (u.frames={ f with at':=f.at'+1 } :: fs):=by rw[A];rfl
 have d2:Hid (f.base<=u.stack.length):=by rw[A];exact S.out.2.2
 have c1:Hid (u.way=s.way):=by rw[A];rfl
 have c0:=zh A
 rw[<-A]
 clear A
 have b5:=zh r
 clear a3 Q n h z F r
 go_enter Tryz.func50,Tryz.ntmps50
 go_wp2_with fail
 refine a1.out.mono ?_
 rintro e d⟨rfl,D⟩
 obtain⟨x0,x1,x2,Z,b1,z1⟩:=U.out d D
 obtain⟨a7,a5⟩:=T.out d D
 obtain⟨eb,j,E,k6,N,c3,e0,e1,e2⟩:=M.out d a7.be
 obtain⟨q,H⟩:∃q,q=(d.alloc (.cells #[.int .i64 3,.int .i64 (k:Int),.int .i64 m] 138)).drew:=⟨_,rfl⟩
 have b2:Hid (Below d.heap.size d q):=by rw[H];exact(zb _ _).drew
 have R:q.heap[d.heap.size]?=some (.cells #[.int .i64 3,.int .i64 (k:Int),.int .i64 m] 138 (0,0)):=by rw[H];exact zl d _
 have d3:=zh R
 have X:Hid (Below W.heap.size W q):=D.trans (b2.out.mono D.size)
 obtain⟨y0,y1,_,c7,c9,z2⟩:=U.out q X.out
 obtain⟨a8,a6⟩:=T.out q X.out
 obtain⟨l,I⟩:∃l,l=q.setCell ⟨fb,fs.length*14+1,none⟩ (.int .i64 ((f.at':Int)+1)):=⟨_,rfl⟩
 have a0:FrOk c { f with at':=f.at'+1 }:=⟨C.out.of,C.out.ll,C.out.li,C.out.mn,by show f.at'+1<=4000;omega,C.out.bs⟩
 obtain⟨J,K⟩:=a8.frset a6 S.out.1 S.out.2.1 1 (.int .i64 ((f.at':Int)+1)) a0 (yx c f (f.at'+1))
 rw[<-I]at J K
 have c4:d.heap.size≠fb:=by omega
 have d7:d.heap.size≠c.gb:=by have:=zc a5;omega
 have w:l.heap[d.heap.size]?=some (.cells #[.int .i64 3,.int .i64 (k:Int),.int .i64 m] 138 (0,0)):=by rw[I];exact(Below.heap_setCell _ _ _ _ (by simpa using c4)).trans R
 have q0:l.cell? ⟨d.heap.size,0,none⟩=some (.int .i64 3):=(za w).trans rfl
 have q1:l.cell? ⟨d.heap.size,1,none⟩=some (.int .i64 (k:Int)):=(za w).trans rfl
 have q2:l.cell? ⟨d.heap.size,2,none⟩=some (.int .i64 m):=(za w).trans rfl
 have d0:d.heap.size<l.heap.size:=zc w
 have c8:c.gb<l.heap.size:=zc K
 rw[<-c0.out]at J
 have b6:=zh J
 have b4:Hid (G8 c l y sv B u.way):=by rw[c1.out];exact K
 have d4:=zh w
 have HC:=zh (local8 b6.out b7.out b4.out b3.out 3 k (by omega) (by have:=b5.out;omega) m)
 clear a7 a5 a8 a6 J K w R D U T a1 a0 a4 M
 generalize f.at'=at' at *
 have a2:Hid (∀i,Below d.heap.size d i->i.cell? ⟨fb,fs.length*14,none⟩=some (.pointer (some ⟨c.pb,0,none⟩))/\i.cell? ⟨fb,fs.length*14+1,none⟩=some (.int .i64 (at':Int))/\i.cell? ⟨c.pb,0,none⟩=some (.pointer (some ⟨c.ob,c.oo,none⟩))/\i.cell? ⟨c.ob,c.oo+6,none⟩=some (.slice (some ⟨eb,j,none⟩) c.O.code.length E)/\i.cell? ⟨eb,j+at'*3,none⟩=some (.int .i64 3)/\i.cell? ⟨eb,j+at'*3+1,none⟩=some (.int .i64 (k:Int))/\i.cell? ⟨eb,j+at'*3+2,none⟩=some (.int .i64 m)):=fun i g=>⟨(g.cell (p:=⟨fb,fs.length*14,none⟩) Z).trans x0,(g.cell (p:=⟨fb,fs.length*14+1,none⟩) Z).trans x1,(g.cell (p:=⟨c.pb,0,none⟩) b1).trans x2,(g.cell (p:=⟨c.ob,c.oo+6,none⟩) c3).trans k6,(g.cell (p:=⟨eb,j+at'*3,none⟩) N).trans e0,(g.cell (p:=⟨eb,j+at'*3+1,none⟩) N).trans e1,(g.cell (p:=⟨eb,j+at'*3+2,none⟩) N).trans e2⟩
 have b8:=zh (a2.out _ (zt d))
 have b9:Hid (∀o,(d.alloc o).drew.cell? ⟨fb,fs.length*14,none⟩=some (.pointer (some ⟨c.pb,0,none⟩))/\(d.alloc o).drew.cell? ⟨fb,fs.length*14+1,none⟩=some (.int .i64 (at':Int))/\(d.alloc o).drew.cell? ⟨c.pb,0,none⟩=some (.pointer (some ⟨c.ob,c.oo,none⟩))/\(d.alloc o).drew.cell? ⟨c.ob,c.oo+6,none⟩=some (.slice (some ⟨eb,j,none⟩) c.O.code.length E)/\(d.alloc o).drew.cell? ⟨eb,j+at'*3,none⟩=some (.int .i64 3)/\(d.alloc o).drew.cell? ⟨eb,j+at'*3+1,none⟩=some (.int .i64 (k:Int))/\(d.alloc o).drew.cell? ⟨eb,j+at'*3+2,none⟩=some (.int .i64 m)):=fun o=>a2.out _ (zb _ _).drew
 go_upto_region 1 with fail
 go_region_held3 (fun i=>i.cell? ⟨fb,fs.length*14,none⟩=some (.pointer (some ⟨c.pb,0,none⟩))/\i.cell? ⟨fb,fs.length*14+1,none⟩=some (.int .i64 (at':Int))/\i.cell? ⟨c.pb,0,none⟩=some (.pointer (some ⟨c.ob,c.oo,none⟩))/\i.cell? ⟨c.ob,c.oo+6,none⟩=some (.slice (some ⟨eb,j,none⟩) c.O.code.length E)/\i.cell? ⟨eb,j+at'*3,none⟩=some (.int .i64 3)/\i.cell? ⟨eb,j+at'*3+1,none⟩=some (.int .i64 (k:Int))/\i.cell? ⟨eb,j+at'*3+2,none⟩=some (.int .i64 m)) (with_reducible (first|exact b8.out|exact b9.out _)) (fail)
 rw[<-H]
 clear H x0 x1 e0 e1 e2 k6
 go_upto_region 3 with fail
 rw[<-I]
 clear I y0 y1
 go_wp2_with fail
 refine HC.out.mono ?_
 intro e w4 hq
 obtain⟨rfl,b0⟩:=hq
 have Y:Hid (StepP c (localF 3 k ({ f with at':=at'+1 }:Fr) fs u) (.returned (.tuple #[])) w4):=⟨rfl,b0⟩
 clear b0
 go_wp2_with fail
 first|exact ze rfl rfl Y.out|exact bodyPost_ret (v:=.tuple #[]) (by simp[results,Tryz.results50,go_sem]) rfl Y.out
theorem step_4 (h:MM c W s vv y sv B)(ok:VxOk c)(z:G8 c W y sv B s.way){f:Fr}{fs:List Fr}(F:s.frames=f :: fs)(a3:f.base<=s.stack.length)(G:f.at'<c.O.code.length)(a9:c.O.code[f.at'].op=4) :
  Calls Tryz.prog 50 #[.pointer (some ⟨c.gb,0,none⟩)] W (StepP c (Vm.exec c.most { f with at':=f.at'+1 } fs ⟨c.O,vv⟩ c.O.code[f.at'] (Vm.going { f with at':=f.at'+1 } fs s))):=by
 obtain⟨fb,cap,n,P,c6,Q⟩:=h.top F
 have c2:=zc z
 have d6:=zV ok
 have a1:=zh (last8 h z F n)
 have hI:=ok.i64 _ (List.getElem_mem G)
 have r:=inst8 ok G
 have M:Hid (∀d,Below c.w0.heap.size c.w0 d->∃b o E,d.cell? ⟨c.ob,c.oo+6,none⟩=some (.slice (some ⟨b,o,none⟩) c.O.code.length E)/\b<d.heap.size/\c.ob<d.heap.size/\d.cell? ⟨b,o+f.at'*3,none⟩=some (.int .i64 c.O.code[f.at'].op)/\d.cell? ⟨b,o+f.at'*3+1,none⟩=some (.int .i64 c.O.code[f.at'].a)/\d.cell? ⟨b,o+f.at'*3+2,none⟩=some (.int .i64 c.O.code[f.at'].b)):=fun d g=>code8 ok g G
 generalize c.O.code[f.at']=x at *
 obtain⟨d8,L,m⟩:=x
 simp only at a9 hI M
 subst a9
 unfold Ob.instB at r
 have r:0<=L/\L<10:=by simp[Ob.countsB,Ob.choices]at r;exact r.2
 obtain⟨k,rfl⟩:∃k:Nat,L=(k:Int):=⟨L.toNat,by omega⟩
 have a4:∀t,Vm.exec c.most { f with at':=f.at'+1 } fs ⟨c.O,vv⟩ ⟨4,(k:Int),m⟩ t=localF 4 k ({ f with at':=f.at'+1 }:Fr) fs t:=fun t=>by simp[Vm.exec,localF]
 rw[a4]
 have T:Hid (∀d,Below W.heap.size W d->MM c d s vv y sv B/\G8 c d y sv B s.way):=fun d g=>⟨h.below ok z g,(g.block _ c2).trans z⟩
 have U:Hid (∀d,Below W.heap.size W d->d.cell? ⟨fb,fs.length*14,none⟩=some (.pointer (some ⟨c.pb,0,none⟩))/\d.cell? ⟨fb,fs.length*14+1,none⟩=some (.int .i64 (f.at':Int))/\d.cell? ⟨c.pb,0,none⟩=some (.pointer (some ⟨c.ob,c.oo,none⟩))/\fb<d.heap.size/\c.pb<d.heap.size/\d.frozen? ⟨fb,fs.length*14+1,none⟩=false):=fun d g=>by
  obtain⟨V,_⟩:=(⟨h.below ok z g,trivial⟩:MM c d s vv y sv B/\True)
  refine⟨(g.cell (p:=⟨fb,fs.length*14,none⟩) P).trans (Q 0 _ rfl),(g.cell (p:=⟨fb,fs.length*14+1,none⟩) P).trans (Q 1 _ rfl),(za V.pk).trans rfl,Nat.lt_of_lt_of_le P g.size,zc V.pk,?_⟩
  rcases V.fr.2 with⟨e,_⟩|⟨g',cp',cur',e,_,hh,_⟩
  ·rw[e]at n;cases n
  ·rw[e]at n
   simp only[Value.slice.injEq,Option.some.injEq,Addr.mk.injEq]at n
   rw[<-n.1.1]
   exact zi hh
 have C:=zh (h.ff f (by rw[F];simp))
 have S:=zh (And.intro F (And.intro n a3))
 have b7:=zh ok
 have d1:=zh G
 have d5:(f.at':Int)<4000:=by omega
 have c5:(f.at':Int)<(c.O.code.length:Int):=by omega
 obtain⟨u,A⟩:∃u,u=Vm.going { f with at':=f.at'+1 } fs s:=⟨_,rfl⟩
 have b3:Hid (u.frames={ f with at':=f.at'+1 } :: fs):=by rw[A];rfl
 have d2:Hid (f.base<=u.stack.length):=by rw[A];exact S.out.2.2
 have c1:Hid (u.way=s.way):=by rw[A];rfl
 have c0:=zh A
 rw[<-A]
 clear A
 have b5:=zh r
 clear a3 Q n h z F r
 go_enter Tryz.func50,Tryz.ntmps50
 go_wp2_with fail
 refine a1.out.mono ?_
 rintro e d⟨rfl,D⟩
 obtain⟨x0,x1,x2,Z,b1,z1⟩:=U.out d D
 obtain⟨a7,a5⟩:=T.out d D
 obtain⟨eb,j,E,k6,N,c3,e0,e1,e2⟩:=M.out d a7.be
 obtain⟨q,H⟩:∃q,q=(d.alloc (.cells #[.int .i64 4,.int .i64 (k:Int),.int .i64 m] 138)).drew:=⟨_,rfl⟩
 have b2:Hid (Below d.heap.size d q):=by rw[H];exact(zb _ _).drew
 have R:q.heap[d.heap.size]?=some (.cells #[.int .i64 4,.int .i64 (k:Int),.int .i64 m] 138 (0,0)):=by rw[H];exact zl d _
 have d3:=zh R
 have X:Hid (Below W.heap.size W q):=D.trans (b2.out.mono D.size)
 obtain⟨y0,y1,_,c7,c9,z2⟩:=U.out q X.out
 obtain⟨a8,a6⟩:=T.out q X.out
 obtain⟨l,I⟩:∃l,l=q.setCell ⟨fb,fs.length*14+1,none⟩ (.int .i64 ((f.at':Int)+1)):=⟨_,rfl⟩
 have a0:FrOk c { f with at':=f.at'+1 }:=⟨C.out.of,C.out.ll,C.out.li,C.out.mn,by show f.at'+1<=4000;omega,C.out.bs⟩
 obtain⟨J,K⟩:=a8.frset a6 S.out.1 S.out.2.1 1 (.int .i64 ((f.at':Int)+1)) a0 (yx c f (f.at'+1))
 rw[<-I]at J K
 have c4:d.heap.size≠fb:=by omega
 have d7:d.heap.size≠c.gb:=by have:=zc a5;omega
 have w:l.heap[d.heap.size]?=some (.cells #[.int .i64 4,.int .i64 (k:Int),.int .i64 m] 138 (0,0)):=by rw[I];exact(Below.heap_setCell _ _ _ _ (by simpa using c4)).trans R
 have q0:l.cell? ⟨d.heap.size,0,none⟩=some (.int .i64 4):=(za w).trans rfl
 have q1:l.cell? ⟨d.heap.size,1,none⟩=some (.int .i64 (k:Int)):=(za w).trans rfl
 have q2:l.cell? ⟨d.heap.size,2,none⟩=some (.int .i64 m):=(za w).trans rfl
 have d0:d.heap.size<l.heap.size:=zc w
 have c8:c.gb<l.heap.size:=zc K
 rw[<-c0.out]at J
 have b6:=zh J
 have b4:Hid (G8 c l y sv B u.way):=by rw[c1.out];exact K
 have d4:=zh w
 have HC:=zh (local8 b6.out b7.out b4.out b3.out 4 k (by omega) (by have:=b5.out;omega) m)
 clear a7 a5 a8 a6 J K w R D U T a1 a0 a4 M
 generalize f.at'=at' at *
 have a2:Hid (∀i,Below d.heap.size d i->i.cell? ⟨fb,fs.length*14,none⟩=some (.pointer (some ⟨c.pb,0,none⟩))/\i.cell? ⟨fb,fs.length*14+1,none⟩=some (.int .i64 (at':Int))/\i.cell? ⟨c.pb,0,none⟩=some (.pointer (some ⟨c.ob,c.oo,none⟩))/\i.cell? ⟨c.ob,c.oo+6,none⟩=some (.slice (some ⟨eb,j,none⟩) c.O.code.length E)/\i.cell? ⟨eb,j+at'*3,none⟩=some (.int .i64 4)/\i.cell? ⟨eb,j+at'*3+1,none⟩=some (.int .i64 (k:Int))/\i.cell? ⟨eb,j+at'*3+2,none⟩=some (.int .i64 m)):=fun i g=>⟨(g.cell (p:=⟨fb,fs.length*14,none⟩) Z).trans x0,(g.cell (p:=⟨fb,fs.length*14+1,none⟩) Z).trans x1,(g.cell (p:=⟨c.pb,0,none⟩) b1).trans x2,(g.cell (p:=⟨c.ob,c.oo+6,none⟩) c3).trans k6,(g.cell (p:=⟨eb,j+at'*3,none⟩) N).trans e0,(g.cell (p:=⟨eb,j+at'*3+1,none⟩) N).trans e1,(g.cell (p:=⟨eb,j+at'*3+2,none⟩) N).trans e2⟩
 have b8:=zh (a2.out _ (zt d))
 have b9:Hid (∀o,(d.alloc o).drew.cell? ⟨fb,fs.length*14,none⟩=some (.pointer (some ⟨c.pb,0,none⟩))/\(d.alloc o).drew.cell? ⟨fb,fs.length*14+1,none⟩=some (.int .i64 (at':Int))/\(d.alloc o).drew.cell? ⟨c.pb,0,none⟩=some (.pointer (some ⟨c.ob,c.oo,none⟩))/\(d.alloc o).drew.cell? ⟨c.ob,c.oo+6,none⟩=some (.slice (some ⟨eb,j,none⟩) c.O.code.length E)/\(d.alloc o).drew.cell? ⟨eb,j+at'*3,none⟩=some (.int .i64 4)/\(d.alloc o).drew.cell? ⟨eb,j+at'*3+1,none⟩=some (.int .i64 (k:Int))/\(d.alloc o).drew.cell? ⟨eb,j+at'*3+2,none⟩=some (.int .i64 m)):=fun o=>a2.out _ (zb _ _).drew
 go_upto_region 1 with fail
 go_region_held3 (fun i=>i.cell? ⟨fb,fs.length*14,none⟩=some (.pointer (some ⟨c.pb,0,none⟩))/\i.cell? ⟨fb,fs.length*14+1,none⟩=some (.int .i64 (at':Int))/\i.cell? ⟨c.pb,0,none⟩=some (.pointer (some ⟨c.ob,c.oo,none⟩))/\i.cell? ⟨c.ob,c.oo+6,none⟩=some (.slice (some ⟨eb,j,none⟩) c.O.code.length E)/\i.cell? ⟨eb,j+at'*3,none⟩=some (.int .i64 4)/\i.cell? ⟨eb,j+at'*3+1,none⟩=some (.int .i64 (k:Int))/\i.cell? ⟨eb,j+at'*3+2,none⟩=some (.int .i64 m)) (with_reducible (first|exact b8.out|exact b9.out _)) (fail)
 rw[<-H]
 clear H x0 x1 e0 e1 e2 k6
 go_upto_region 3 with fail
 rw[<-I]
 clear I y0 y1
 go_wp2_with fail
 refine HC.out.mono ?_
 intro e w4 hq
 obtain⟨rfl,b0⟩:=hq
 have Y:Hid (StepP c (localF 4 k ({ f with at':=at'+1 }:Fr) fs u) (.returned (.tuple #[])) w4):=⟨rfl,b0⟩
 clear b0
 go_wp2_with fail
 first|exact ze rfl rfl Y.out|exact bodyPost_ret (v:=.tuple #[]) (by simp[results,Tryz.results50,go_sem]) rfl Y.out
theorem step_5 (h:MM c W s vv w sv A)(ok:VxOk c)(y:G8 c W w sv A s.way){f:Fr}{fs:List Fr}(E:s.frames=f :: fs)(a9:f.base<=s.stack.length)(H:f.at'<c.O.code.length)(b5:c.O.code[f.at'].op=5) :
  Calls Tryz.prog 50 #[.pointer (some ⟨c.gb,0,none⟩)] W (StepP c (Vm.exec c.most { f with at':=f.at'+1 } fs ⟨c.O,vv⟩ c.O.code[f.at'] (Vm.going { f with at':=f.at'+1 } fs s))):=by
 obtain⟨fb,cap,n,Q,c8,R⟩:=h.top E
 have c4:=zc y
 have e4:=zV ok
 have a5:=zh (last8 h y E n)
 have hI:=ok.i64 _ (List.getElem_mem H)
 have m:=inst8 ok H
 have M:Hid (∀d,Below c.w0.heap.size c.w0 d->∃b o D,d.cell? ⟨c.ob,c.oo+6,none⟩=some (.slice (some ⟨b,o,none⟩) c.O.code.length D)/\b<d.heap.size/\c.ob<d.heap.size/\d.cell? ⟨b,o+f.at'*3,none⟩=some (.int .i64 c.O.code[f.at'].op)/\d.cell? ⟨b,o+f.at'*3+1,none⟩=some (.int .i64 c.O.code[f.at'].a)/\d.cell? ⟨b,o+f.at'*3+2,none⟩=some (.int .i64 c.O.code[f.at'].b)):=fun d g=>code8 ok g H
 generalize c.O.code[f.at']=x at *
 obtain⟨e6,xa,xb⟩:=x
 simp only at b5 hI M
 subst b5
 unfold Ob.instB at m
 have m:=reach8 ok (by simpa using m)
 simp only at m
 obtain⟨rfl,d8,d9⟩:=m
 obtain⟨k,rfl⟩:∃k:Nat,xa=(k:Int):=⟨xa.toNat,by omega⟩
 have T:k<vv.length:=by rw[h.vn];omega
 have m:=True.intro
 have b0:∀t,Vm.exec c.most { f with at':=f.at'+1 } fs ⟨c.O,vv⟩ ⟨5,(k:Int),(-1)⟩ t=Vm.give (vv.getD k []) 0 t:=fun t=>by simp[Vm.exec,Vm.reached]
 rw[b0]
 have V:Hid (∀d,Below W.heap.size W d->MM c d s vv w sv A/\G8 c d w sv A s.way):=fun d g=>⟨h.below ok y g,(g.block _ c4).trans y⟩
 have X:Hid (∀d,Below W.heap.size W d->d.cell? ⟨fb,fs.length*14,none⟩=some (.pointer (some ⟨c.pb,0,none⟩))/\d.cell? ⟨fb,fs.length*14+1,none⟩=some (.int .i64 (f.at':Int))/\d.cell? ⟨c.pb,0,none⟩=some (.pointer (some ⟨c.ob,c.oo,none⟩))/\fb<d.heap.size/\c.pb<d.heap.size/\d.frozen? ⟨fb,fs.length*14+1,none⟩=false):=fun d g=>by
  obtain⟨Y,_⟩:=(⟨h.below ok y g,trivial⟩:MM c d s vv w sv A/\True)
  refine⟨(g.cell (p:=⟨fb,fs.length*14,none⟩) Q).trans (R 0 _ rfl),(g.cell (p:=⟨fb,fs.length*14+1,none⟩) Q).trans (R 1 _ rfl),(za Y.pk).trans rfl,Nat.lt_of_lt_of_le Q g.size,zc Y.pk,?_⟩
  rcases Y.fr.2 with⟨e,_⟩|⟨g',cp',cur',e,_,hh,_⟩
  ·rw[e]at n;cases n
  ·rw[e]at n
   simp only[Value.slice.injEq,Option.some.injEq,Addr.mk.injEq]at n
   rw[<-n.1.1]
   exact zi hh
 have B:=zh (h.ff f (by rw[E];simp))
 have U:=zh (And.intro E (And.intro n a9))
 have N:=zh ok
 have d3:=zh H
 have e3:(f.at':Int)<4000:=by omega
 have c7:(f.at':Int)<(c.O.code.length:Int):=by omega
 obtain⟨u,z⟩:∃u,u=Vm.going { f with at':=f.at'+1 } fs s:=⟨_,rfl⟩
 have b9:Hid (u.frames={ f with at':=f.at'+1 } :: fs):=by rw[z];rfl
 have d4:Hid (f.base<=u.stack.length):=by rw[z];exact U.out.2.2
 have c3:Hid (u.way=s.way):=by rw[z];rfl
 have c2:=zh z
 rw[<-z]
 clear z
 have d5:=zh m
 clear a9 R n h y E m
 go_enter Tryz.func50,Tryz.ntmps50
 go_wp2_with fail
 refine a5.out.mono ?_
 rintro e d⟨rfl,C⟩
 obtain⟨x0,x1,x2,a1,b7,z1⟩:=X.out d C
 obtain⟨b3,b1⟩:=V.out d C
 obtain⟨eb,j,D,k6,P,c5,e0,e1,e2⟩:=M.out d b3.be
 obtain⟨q,I⟩:∃q,q=(d.alloc (.cells #[.int .i64 5,.int .i64 (k:Int),.int .i64 (-1)] 138)).drew:=⟨_,rfl⟩
 have b8:Hid (Below d.heap.size d q):=by rw[I];exact(zb _ _).drew
 have S:q.heap[d.heap.size]?=some (.cells #[.int .i64 5,.int .i64 (k:Int),.int .i64 (-1)] 138 (0,0)):=by rw[I];exact zl d _
 have d6:=zh S
 have Z:Hid (Below W.heap.size W q):=C.trans (b8.out.mono C.size)
 obtain⟨y0,y1,_,c9,d1,z2⟩:=X.out q Z.out
 obtain⟨b4,b2⟩:=V.out q Z.out
 obtain⟨l,J⟩:∃l,l=q.setCell ⟨fb,fs.length*14+1,none⟩ (.int .i64 ((f.at':Int)+1)):=⟨_,rfl⟩
 have a2:FrOk c { f with at':=f.at'+1 }:=⟨B.out.of,B.out.ll,B.out.li,B.out.mn,by show f.at'+1<=4000;omega,B.out.bs⟩
 obtain⟨K,L⟩:=b4.frset b2 U.out.1 U.out.2.1 1 (.int .i64 ((f.at':Int)+1)) a2 (yx c f (f.at'+1))
 rw[<-J]at K L
 have c6:d.heap.size≠fb:=by omega
 have e5:d.heap.size≠c.gb:=by have:=zc b1;omega
 have r:l.heap[d.heap.size]?=some (.cells #[.int .i64 5,.int .i64 (k:Int),.int .i64 (-1)] 138 (0,0)):=by rw[J];exact(Below.heap_setCell _ _ _ _ (by simpa using c6)).trans S
 have q0:l.cell? ⟨d.heap.size,0,none⟩=some (.int .i64 5):=(za r).trans rfl
 have q1:l.cell? ⟨d.heap.size,1,none⟩=some (.int .i64 (k:Int)):=(za r).trans rfl
 have q2:l.cell? ⟨d.heap.size,2,none⟩=some (.int .i64 (-1)):=(za r).trans rfl
 have d2:d.heap.size<l.heap.size:=zc r
 have d0:c.gb<l.heap.size:=zc L
 rw[<-c2.out]at K
 have a6:=zh K
 have G:Hid (G8 c l w sv A u.way):=by rw[c3.out];exact L
 have d7:=zh r
 have HC:=zh (reached8 a6.out N.out G.out b9.out T 5)
 have a4:Hid (∀F,Below l.heap.size l F->Calls Tryz.prog 104 #[.pointer (some ⟨c.gb,0,none⟩),c.vsl k,.int .i64 0] F (StepP c (Vm.give (vv.getD k []) 0 u))):=fun F g=>by
  rw[List.getD_eq_getElem?_getD,List.getElem?_eq_getElem T]
  exact give8 (a6.out.below N.out G.out g) N.out ((g.block _ (zc G.out)).trans G.out) T 0
 clear b3 b1 b4 b2 K L r S C X V a5 a2 b0 M
 generalize f.at'=at' at *
 have a7:Hid (∀i,Below d.heap.size d i->i.cell? ⟨fb,fs.length*14,none⟩=some (.pointer (some ⟨c.pb,0,none⟩))/\i.cell? ⟨fb,fs.length*14+1,none⟩=some (.int .i64 (at':Int))/\i.cell? ⟨c.pb,0,none⟩=some (.pointer (some ⟨c.ob,c.oo,none⟩))/\i.cell? ⟨c.ob,c.oo+6,none⟩=some (.slice (some ⟨eb,j,none⟩) c.O.code.length D)/\i.cell? ⟨eb,j+at'*3,none⟩=some (.int .i64 5)/\i.cell? ⟨eb,j+at'*3+1,none⟩=some (.int .i64 (k:Int))/\i.cell? ⟨eb,j+at'*3+2,none⟩=some (.int .i64 (-1))):=fun i g=>⟨(g.cell (p:=⟨fb,fs.length*14,none⟩) a1).trans x0,(g.cell (p:=⟨fb,fs.length*14+1,none⟩) a1).trans x1,(g.cell (p:=⟨c.pb,0,none⟩) b7).trans x2,(g.cell (p:=⟨c.ob,c.oo+6,none⟩) c5).trans k6,(g.cell (p:=⟨eb,j+at'*3,none⟩) P).trans e0,(g.cell (p:=⟨eb,j+at'*3+1,none⟩) P).trans e1,(g.cell (p:=⟨eb,j+at'*3+2,none⟩) P).trans e2⟩
 have c0:=zh (a7.out _ (zt d))
 have c1:Hid (∀o,(d.alloc o).drew.cell? ⟨fb,fs.length*14,none⟩=some (.pointer (some ⟨c.pb,0,none⟩))/\(d.alloc o).drew.cell? ⟨fb,fs.length*14+1,none⟩=some (.int .i64 (at':Int))/\(d.alloc o).drew.cell? ⟨c.pb,0,none⟩=some (.pointer (some ⟨c.ob,c.oo,none⟩))/\(d.alloc o).drew.cell? ⟨c.ob,c.oo+6,none⟩=some (.slice (some ⟨eb,j,none⟩) c.O.code.length D)/\(d.alloc o).drew.cell? ⟨eb,j+at'*3,none⟩=some (.int .i64 5)/\(d.alloc o).drew.cell? ⟨eb,j+at'*3+1,none⟩=some (.int .i64 (k:Int))/\(d.alloc o).drew.cell? ⟨eb,j+at'*3+2,none⟩=some (.int .i64 (-1))):=fun o=>a7.out _ (zb _ _).drew
 go_upto_region 1 with fail
 go_region_held3 (fun i=>i.cell? ⟨fb,fs.length*14,none⟩=some (.pointer (some ⟨c.pb,0,none⟩))/\i.cell? ⟨fb,fs.length*14+1,none⟩=some (.int .i64 (at':Int))/\i.cell? ⟨c.pb,0,none⟩=some (.pointer (some ⟨c.ob,c.oo,none⟩))/\i.cell? ⟨c.ob,c.oo+6,none⟩=some (.slice (some ⟨eb,j,none⟩) c.O.code.length D)/\i.cell? ⟨eb,j+at'*3,none⟩=some (.int .i64 5)/\i.cell? ⟨eb,j+at'*3+1,none⟩=some (.int .i64 (k:Int))/\i.cell? ⟨eb,j+at'*3+2,none⟩=some (.int .i64 (-1))) (with_reducible (first|exact c0.out|exact c1.out _)) (fail)
 rw[<-I]
 clear I x0 x1 e0 e1 e2 k6
 go_upto_region 3 with fail
 rw[<-J]
 clear J y0 y1
 go_wp2_with fail
 refine HC.out.mono ?_
 rintro e F⟨rfl,a8⟩
 have a3:=zh (a4.out F a8)
 clear a8 a4
 unfold Vx.vsl at a3 ⊢
 go_wp2_with fail
 refine a3.out.mono ?_
 intro e w5 hq
 obtain⟨rfl,b6⟩:=hq
 have a0:Hid (StepP c (Vm.give (vv.getD k []) 0 u) (.returned (.tuple #[])) w5):=⟨rfl,b6⟩
 clear b6
 go_wp2_with fail
 first|exact ze rfl rfl a0.out|exact bodyPost_ret (v:=.tuple #[]) (by simp[results,Tryz.results50,go_sem]) rfl a0.out
def Bs8:List Fr->Nat->Prop
 |[],_=>True
 |f :: fs,n=>f.base<=n/\Bs8 fs f.base
structure Inv (o:O) (s:Vm.St):Prop where
 ne:s.frames≠[]
 at':∀f∈s.frames,f.at'<o.code.length
 bs:Bs8 s.frames s.stack.length
theorem zZ {s:Vm.St}{k:Int->Vm.St->Vm.St}(h:(Vm.taken b s k).way=0):∃n r,s.stack=n :: r/\b<=r.length/\Vm.taken b s k=k n { s with stack:=r }:=by
 by_cases a:s.stack.length<=b
 ·rw[yk a]at h
  cases h
 ·cases c:s.stack with
  |nil=>rw[c]at a;simp at a
  |cons n r =>
   refine⟨n,r,rfl,?_,zR c a⟩
   rw[c,List.length_cons]at a
   omega
theorem je {s:Vm.St}(h:(Vm.put n s).way=0):Vm.put n s={ s with stack:=n :: s.stack }:=by
 unfold Vm.put at h ⊢
 split at h
 ·cases h
 ·rename_i a
  rw[if_neg a]
theorem give_way {s:Vm.St}{l:List Int}(h:(Vm.give l k s).way=0):∃n,Vm.give l k s={ s with stack:=n :: s.stack }:=by
 unfold Vm.give at h ⊢
 split at h
 ·rename_i a
  rw[if_pos a]
  exact⟨_,je h⟩
 ·cases h
theorem set_way {s:Vm.St}{a:Tp.Bs}{p:Pl}{i:Nat}(h:(Vm.set a p i k n s).way=0):∃th,Vm.set a p i k n s={ s with there:=th }:=by
 unfold Vm.set at h ⊢
 split at h
 ·rename_i b
  rw[if_pos b]
  exact⟨_,rfl⟩
 ·cases h
theorem reckon_way {s:Vm.St}{op:Tp.Bs}{a b:Int}(h:(Vm.reckon op a b s).way=0):∃n,Vm.reckon op a b s={ s with stack:=n :: s.stack }:=by
 unfold Vm.reckon at h ⊢
 cases c:Tp.both op a b with
 |none=>rw[c]at h;cases h
 |some n=>rw[c]at h;exact⟨n,je h⟩
theorem takes_way {k:List Int->Vm.St->Vm.St}:∀(n:Nat) (l:List Int) (s:Vm.St),(Vm.takes b n l s k).way=0->b<=s.stack.length->∃l' r,b<=r.length/\Vm.takes b n l s k=k l' { s with stack:=r }:=by
 intro n
 induction n with
 |zero=>intro l s _ a;exact⟨l,s.stack,a,rfl⟩
 |succ n ih =>
  intro l s h _
  rw[Vm.takes]at h ⊢
  obtain⟨v,r,d,c,e⟩:=zZ h
  rw[e]at h ⊢
  exact ih (v :: l) { s with stack:=r } h c
theorem last_op {o:O}(b:Ob.rightB o=true){i:Nat}(c:i<o.code.length)(h:¬i+1<o.code.length):o.code[i].op=12\/o.code[i].op=15\/o.code[i].op=17:=by
 unfold Ob.rightB Ob.codeB at b
 simp only[Bool.and_eq_true]at b
 have a:=b.2.2.2
 unfold Ob.lastB at a
 have e:o.code.getLast?=some o.code[i]:=by
  rw[List.getLast?_eq_getElem?,show o.code.length-1=i by omega,List.getElem?_eq_getElem c]
 rw[e]at a
 simpa using a
theorem inv_step (ok:VxOk c){s:Vm.St}{vv:List (List Int)}(th:s.there=thr c.O vv)(a2:∀f∈s.frames,f.of=c.O.name)(E:Inv c.O s)(h:(Vm.step c.most s).way=0):Inv c.O (Vm.step c.most s):=by
 obtain⟨f,fs,C⟩:∃f fs,s.frames=f :: fs:=by
  cases hq:s.frames with
  |nil=>exact absurd hq E.ne
  |cons f fs=>exact⟨f,fs,rfl⟩
 have K:f.at'<c.O.code.length:=E.at' f (by rw[C];simp)
 have I:∀x∈fs,x.at'<c.O.code.length:=fun x A=>E.at' x (by rw[C];exact List.mem_cons_of_mem _ A)
 have S:=E.bs
 rw[C]at S
 obtain⟨a0,D⟩:=S
 have a1:f.of=c.O.name:=a2 f (by rw[C];simp)
 have e:Vm.step c.most s=Vm.exec c.most { f with at':=f.at'+1 } fs ⟨c.O,vv⟩ c.O.code[f.at'] (Vm.going { f with at':=f.at'+1 } fs s):=by
  unfold Vm.step
  rw[C]
  simp only
  rw[th,a1,thr,if_pos rfl]
  simp only
  rw[List.getElem?_eq_getElem K]
 rw[e]at h ⊢
 clear e
 have w:=inst8 ok K
 have H:∀(f':Fr) (t:Vm.St),f'.at'<c.O.code.length->f'.base=f.base->t.frames=f' :: fs->f.base<=t.stack.length->Inv c.O t:=fun f' t hk Z v B=>⟨by rw[v];simp,fun x A=>by
  rw[v]at A
  rcases List.mem_cons.1 A with rfl|A
  ·exact hk
  ·exact I x A,by rw[v];exact⟨by rw[Z];exact B,by rw[Z];exact D⟩⟩
 have P:c.O.code[f.at'].op≠12->c.O.code[f.at'].op≠15->c.O.code[f.at'].op≠17->f.at'+1<c.O.code.length:=fun v B h3=>by
  by_cases q:f.at'+1<c.O.code.length
  ·exact q
  ·rcases last_op ok.rt K q with z|z|z
   ·exact absurd z v
   ·exact absurd z B
   ·exact absurd z h3
 have i:(Vm.going { f with at':=f.at'+1 } fs s).frames={ f with at':=f.at'+1 } :: fs:=rfl
 have U:f.base<=(Vm.going { f with at':=f.at'+1 } fs s).stack.length:=a0
 generalize Vm.going { f with at':=f.at'+1 } fs s=u at *
 generalize c.O.code[f.at']=x at *
 unfold Ob.instB at w
 unfold Vm.exec at h ⊢
 have j:∀t:Vm.St,t.frames={ f with at':=f.at'+1 } :: fs->f.base<=t.stack.length->x.op≠12->x.op≠15->x.op≠17->Inv c.O t:=fun t v B n1 Q n3=>H { f with at':=f.at'+1 } t (P n1 Q n3) rfl v B
 by_cases o1:x.op=1
 ·rw[if_pos o1]at h ⊢
  rw[je h]
  exact j _ i (by simp only[List.length_cons];omega) (by omega) (by omega) (by omega)
 rw[if_neg o1]at h ⊢
 by_cases o2:x.op=2
 ·rw[if_pos o2]at h ⊢
  obtain⟨n,r,k,b,e⟩:=zZ h;have d:f.base<=r.length:=b
  rw[e]
  exact j _ i d (by omega) (by omega) (by omega)
 rw[if_neg o2]at h ⊢
 by_cases o3:x.op=3
 ·rw[if_pos o3]at h ⊢
  by_cases q:(f.many:Int)<=x.a
  ·rw[if_pos q]at h;cases h
  ·rw[if_neg q]at h ⊢
   rw[je h]
   exact j _ i (by simp only[List.length_cons];omega) (by omega) (by omega) (by omega)
 rw[if_neg o3]at h ⊢
 by_cases o4:x.op=4
 ·rw[if_pos o4]at h ⊢
  by_cases q:(f.many:Int)<=x.a
  ·rw[if_pos q]at h;cases h
  ·rw[if_neg q]at h ⊢
   obtain⟨n,r,k,b,e⟩:=zZ h;have d:f.base<=r.length:=b
   rw[e]
   exact H { f with at':=f.at'+1,locals:=f.locals.set x.a.toNat n } _ (P (by omega) (by omega) (by omega)) rfl rfl d
 rw[if_neg o4]at h ⊢
 by_cases o5:x.op=5
 ·rw[if_pos o5]at h ⊢
  obtain⟨n,e⟩:=give_way h
  rw[e]
  exact j _ i (by simp only[List.length_cons];omega) (by omega) (by omega) (by omega)
 rw[if_neg o5]at h ⊢
 by_cases o6:x.op=6
 ·rw[if_pos o6]at h ⊢
  obtain⟨n,r,k,b,e⟩:=zZ h;have d:f.base<=r.length:=b
  rw[e]at h ⊢
  obtain⟨t,o⟩:=set_way h
  rw[o]
  exact j _ i d (by omega) (by omega) (by omega)
 rw[if_neg o6]at h ⊢
 by_cases o7:x.op=7
 ·rw[if_pos o7]at h ⊢
  obtain⟨n,r,k,b,e⟩:=zZ h;have d:f.base<=r.length:=b
  rw[e]at h ⊢
  obtain⟨m,o⟩:=give_way h
  rw[o]
  exact j _ i (by simp only[List.length_cons];omega) (by omega) (by omega) (by omega)
 rw[if_neg o7]at h ⊢
 by_cases o8:x.op=8
 ·rw[if_pos o8]at h ⊢
  obtain⟨n,r,k,b,e⟩:=zZ h;have d:f.base<=r.length:=b
  rw[e]at h ⊢
  obtain⟨Q,R,a3,J,o⟩:=zZ h;have T:f.base<=R.length:=J
  rw[o]at h ⊢
  obtain⟨t,F⟩:=set_way h
  rw[F]
  exact j _ i T (by omega) (by omega) (by omega)
 rw[if_neg o8]at h ⊢
 by_cases o9:x.op=9
 ·rw[if_pos o9]at h ⊢
  obtain⟨n,r,k,b,e⟩:=zZ h;have d:f.base<=r.length:=b
  rw[e]at h ⊢
  obtain⟨Q,R,a3,J,o⟩:=zZ h;have T:f.base<=R.length:=J
  rw[o]at h ⊢
  obtain⟨t,F⟩:=reckon_way h
  rw[F]
  exact j _ i (by simp only[List.length_cons];omega) (by omega) (by omega) (by omega)
 rw[if_neg o9]at h ⊢
 by_cases V:x.op=10
 ·rw[if_pos V]at h ⊢
  obtain⟨n,r,k,b,e⟩:=zZ h;have d:f.base<=r.length:=b
  rw[e]at h ⊢
  rw[je h]
  exact j _ i (by simp only[List.length_cons];omega) (by omega) (by omega) (by omega)
 rw[if_neg V]at h ⊢
 by_cases W:x.op=11
 ·rw[if_pos W]at h ⊢
  obtain⟨n,r,k,b,e⟩:=zZ h;have d:f.base<=r.length:=b
  rw[e]at h ⊢
  rw[je h]
  exact j _ i (by simp only[List.length_cons];omega) (by omega) (by omega) (by omega)
 rw[if_neg W]at h ⊢
 by_cases L:x.op=12
 ·rw[if_pos L]at h ⊢
  have hj:0<=x.a/\x.a<(c.O.code.length:Int):=by simp[L,Ob.countsB,Ob.choices]at w;exact w.2
  exact H { f with at':=x.a.toNat } _ (by show x.a.toNat<_;omega) rfl rfl U
 rw[if_neg L]at h ⊢
 by_cases M:x.op=13
 ·rw[if_pos M]at h ⊢
  have hj:0<=x.a/\x.a<(c.O.code.length:Int):=by simp[M,Ob.countsB,Ob.choices]at w;exact w.2
  obtain⟨n,r,k,b,e⟩:=zZ h;have d:f.base<=r.length:=b
  rw[e]at h ⊢
  by_cases q:n=0
  ·rw[if_pos q]
   exact H { f with at':=x.a.toNat } _ (by show x.a.toNat<_;omega) rfl rfl d
  ·rw[if_neg q]
   exact j _ i d (by omega) (by omega) (by omega)
 rw[if_neg M]at h ⊢
 by_cases N:x.op=14
 ·rw[if_pos N]at h ⊢
  have hj:=reach8 ok (x:=x) (own:=c.O.procs.length) (by simpa[N] using w)
  have hn:f.at'+1<c.O.code.length:=P (by omega) (by omega) (by omega)
  rw[if_pos (by omega)]at h ⊢
  have hi:x.a.toNat<c.O.procs.length:=by omega
  unfold Vm.invoke at h ⊢
  by_cases q:u.frames.length=c.most
  ·rw[if_pos q]at h;cases h
  ·rw[if_neg q]at h ⊢
   obtain⟨l,r,b,e⟩:=takes_way _ _ _ h U;have d:f.base<=r.length:=b
   rw[e]
   obtain⟨a,ar,m,e1,o,F,e4,_⟩:=ent8 ok hi
   unfold Vm.enter
   show Inv c.O (match c.O.procs[x.a.toNat]? with|some e=>_|none=>_)
   rw[List.getElem?_eq_getElem hi]
   refine⟨by simp,fun y p=>?_,?_⟩
   ·rcases List.mem_cons.1 p with rfl|p
    ·show (c.O.procs[x.a.toNat].at').toNat<_
     rw[e1]
     simpa using e4
    ·rw[show ({ u with stack:=r }:Vm.St).frames=_ from i]at p
     rcases List.mem_cons.1 p with rfl|p
     ·exact hn
     ·exact I y p
   ·refine⟨Nat.le_refl _,?_⟩
    rw[show ({ u with stack:=r }:Vm.St).frames=_ from i]
    exact⟨d,D⟩
 rw[if_neg N]at h ⊢
 by_cases X:x.op=15
 ·rw[if_pos X]at h ⊢
  unfold Vm.leave at h ⊢
  obtain⟨n,r,k,b,e⟩:=zZ h;have d:f.base<=r.length:=b
  rw[e]at h ⊢
  simp only[i]at h ⊢
  by_cases q:fs=[]
  ·rw[if_pos q]at h;cases h
  ·rw[if_neg q]
   refine⟨q,fun y p=>I y p,?_⟩
   obtain⟨g,G,rfl⟩:∃g G,fs=g :: G:=by
    cases fs with
    |nil=>exact absurd rfl q
    |cons g G=>exact⟨g,G,rfl⟩
   refine⟨?_,D.2⟩
   have:=D.1
   show g.base<=(n :: r.drop (r.length-f.base)).length
   rw[List.length_cons,List.length_drop]
   omega
 rw[if_neg X]at h ⊢
 by_cases Y:x.op=16
 ·rw[if_pos Y]at h ⊢
  unfold Vm.say at h ⊢
  obtain⟨n,r,k,b,e⟩:=zZ h;have d:f.base<=r.length:=b
  rw[e]at h ⊢
  by_cases q:u.out.length=200
  ·rw[if_pos q]at h;cases h
  ·rw[if_neg q]
   exact j _ i d (by omega) (by omega) (by omega)
 rw[if_neg Y]at h
 cases h
end Go.Proofs.YtbkndnmglhghlaaGreatDoor.Jo
