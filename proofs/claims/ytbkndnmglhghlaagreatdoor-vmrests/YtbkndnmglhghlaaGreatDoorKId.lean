import Derived.Test.YtbkndnmglhghlaaGreatDoorKIb
set_option maxRecDepth 100000
set_option maxHeartbeats 4000000

namespace Go.Proofs.YtbkndnmglhghlaaGreatDoor.Jo
open Go.RowKit Go.Maps
open Ob (O In I64)
open Vm (St Fr Pl)
variable {vv:List (List Int)}{b:Nat}{s:St}{B J sv y:Value}{c:Vx}{W:World}
theorem step_6 {D:Value}(h:MM c W s vv D sv J)(ok:VxOk c)(G:G8 c W D sv J s.way){f:Fr}{fs:List Fr}(F:s.frames=f :: fs)(c1:f.base<=s.stack.length)(Q:f.at'<c.O.code.length)(c7:c.O.code[f.at'].op=6) :
  Calls Tryz.prog 50 #[.pointer (some ⟨c.gb,0,none⟩)] W (StepP c (Vm.exec c.most { f with at':=f.at'+1 } fs ⟨c.O,vv⟩ c.O.code[f.at'] (Vm.going { f with at':=f.at'+1 } fs s))):=by
 obtain⟨fb,cap,q,a4,f6,a5⟩:=h.top F
 have e6:=zc G
 have g7:=zV ok
 have b4:=zh (last8 h G F q)
 have hI:=ok.i64 _ (List.getElem_mem Q)
 have A:=inst8 ok Q
 have Z:Hid (∀d,Below c.w0.heap.size c.w0 d->∃b o N,d.cell? ⟨c.ob,c.oo+6,none⟩=some (.slice (some ⟨b,o,none⟩) c.O.code.length N)/\b<d.heap.size/\c.ob<d.heap.size/\d.cell? ⟨b,o+f.at'*3,none⟩=some (.int .i64 c.O.code[f.at'].op)/\d.cell? ⟨b,o+f.at'*3+1,none⟩=some (.int .i64 c.O.code[f.at'].a)/\d.cell? ⟨b,o+f.at'*3+2,none⟩=some (.int .i64 c.O.code[f.at'].b)):=fun d g=>code8 ok g Q
 generalize c.O.code[f.at']=x at *
 obtain⟨h2,Y,y⟩:=x
 simp only at c7 hI Z
 subst c7
 unfold Ob.instB at A
 have A:0<=Y/\Y<(c.O.vars.length:Int):=by simp[Ob.countsB,Ob.choices]at A;exact A.2
 obtain⟨j,rfl⟩:∃j:Nat,Y=(j:Int):=⟨Y.toNat,by omega⟩
 have c9:j<vv.length:=by rw[h.vn];omega
 have e8:f.of=c.O.name:=(h.ff f (by rw[F];simp)).of
 have c2:∀t,Vm.exec c.most { f with at':=f.at'+1 } fs ⟨c.O,vv⟩ ⟨6,(j:Int),y⟩ t=Vm.taken f.base t fun n s=>Vm.set c.O.name ⟨c.O,vv⟩ j 0 n s:=fun t=>by simp[Vm.exec,e8]
 rw[c2]
 have HM:Hid (∀d,Below W.heap.size W d->MM c d s vv D sv J/\G8 c d D sv J s.way):=fun d g=>⟨h.below ok G g,(g.block _ e6).trans G⟩
 have HX:Hid (∀d,Below W.heap.size W d->d.cell? ⟨fb,fs.length*14,none⟩=some (.pointer (some ⟨c.pb,0,none⟩))/\d.cell? ⟨fb,fs.length*14+1,none⟩=some (.int .i64 (f.at':Int))/\d.cell? ⟨c.pb,0,none⟩=some (.pointer (some ⟨c.ob,c.oo,none⟩))/\fb<d.heap.size/\c.pb<d.heap.size/\d.frozen? ⟨fb,fs.length*14+1,none⟩=false):=fun d g=>by
  obtain⟨m1,_⟩:=(⟨h.below ok G g,trivial⟩:MM c d s vv D sv J/\True)
  refine⟨(g.cell (p:=⟨fb,fs.length*14,none⟩) a4).trans (a5 0 _ rfl),(g.cell (p:=⟨fb,fs.length*14+1,none⟩) a4).trans (a5 1 _ rfl),(za m1.pk).trans rfl,Nat.lt_of_lt_of_le a4 g.size,zc m1.pk,?_⟩
  rcases m1.fr.2 with⟨e,_⟩|⟨g',cp',cur',e,_,hh,_⟩
  ·rw[e]at q;cases q
  ·rw[e]at q
   simp only[Value.slice.injEq,Option.some.injEq,Addr.mk.injEq]at q
   rw[<-q.1.1]
   exact zi hh
 have L:=zh (h.ff f (by rw[F];simp))
 have U:=zh (And.intro F (And.intro q c1))
 have a0:=zh ok
 have g3:=zh Q
 have g6:(f.at':Int)<4000:=by omega
 have f5:(f.at':Int)<(c.O.code.length:Int):=by omega
 obtain⟨u,I⟩:∃u,u=Vm.going { f with at':=f.at'+1 } fs s:=⟨_,rfl⟩
 have b3:Hid (u.frames={ f with at':=f.at'+1 } :: fs):=by rw[I];rfl
 have g4:Hid (f.base<=u.stack.length):=by rw[I];exact U.out.2.2
 have e4:Hid (u.way=s.way):=by rw[I];rfl
 have e3:=zh I
 rw[<-I]
 clear I
 have d5:=zh A
 clear c1 a5 q h G F A
 go_enter Tryz.func50,Tryz.ntmps50
 go_wp2_with fail
 refine b4.out.mono ?_
 rintro e d⟨rfl,M⟩
 obtain⟨x0,x1,x2,a9,d1,z1⟩:=HX.out d M
 obtain⟨c5,c3⟩:=HM.out d M
 obtain⟨eb,k,N,k6,a3,e7,e0,e1,e2⟩:=Z.out d c5.be
 obtain⟨w,S⟩:∃w,w=(d.alloc (.cells #[.int .i64 6,.int .i64 (j:Int),.int .i64 y] 138)).drew:=⟨_,rfl⟩
 have d3:Hid (Below d.heap.size d w):=by rw[S];exact(zb _ _).drew
 have a6:w.heap[d.heap.size]?=some (.cells #[.int .i64 6,.int .i64 (j:Int),.int .i64 y] 138 (0,0)):=by rw[S];exact zl d _
 have g5:=zh a6
 have a8:Hid (Below W.heap.size W w):=M.trans (d3.out.mono M.size)
 obtain⟨y0,y1,_,f8,g0,z2⟩:=HX.out w a8.out
 obtain⟨c6,c4⟩:=HM.out w a8.out
 obtain⟨m,T⟩:∃m,m=w.setCell ⟨fb,fs.length*14+1,none⟩ (.int .i64 ((f.at':Int)+1)):=⟨_,rfl⟩
 have b1:FrOk c { f with at':=f.at'+1 }:=⟨L.out.of,L.out.ll,L.out.li,L.out.mn,by show f.at'+1<=4000;omega,L.out.bs⟩
 obtain⟨V,X⟩:=c6.frset c4 U.out.1 U.out.2.1 1 (.int .i64 ((f.at':Int)+1)) b1 (yx c f (f.at'+1))
 rw[<-T]at V X
 have f3:d.heap.size≠fb:=by omega
 have f0:d.heap.size≠c.gb:=by have:=zc c3;omega
 have B:m.heap[d.heap.size]?=some (.cells #[.int .i64 6,.int .i64 (j:Int),.int .i64 y] 138 (0,0)):=by rw[T];exact(Below.heap_setCell _ _ _ _ (by simpa using f3)).trans a6
 have q0:m.cell? ⟨d.heap.size,0,none⟩=some (.int .i64 6):=(za B).trans rfl
 have q1:m.cell? ⟨d.heap.size,1,none⟩=some (.int .i64 (j:Int)):=(za B).trans rfl
 have q2:m.cell? ⟨d.heap.size,2,none⟩=some (.int .i64 y):=(za B).trans rfl
 have d2:d.heap.size<m.heap.size:=zc B
 have f9:c.gb<m.heap.size:=zc X
 rw[<-e3.out]at V
 have b5:=zh V
 have d4:Hid (G8 c m D sv J u.way):=by rw[e4.out];exact X
 have d6:=zh B
 have HT:=zh (take8 b5.out a0.out d4.out b3.out)
 have d9:=zh b5.out.si
 clear c5 c3 c6 c4 V X B a6 M HX HM b4 b1 c2 Z
 generalize f.at'=at' at *
 have b7:Hid (∀i,Below d.heap.size d i->i.cell? ⟨fb,fs.length*14,none⟩=some (.pointer (some ⟨c.pb,0,none⟩))/\i.cell? ⟨fb,fs.length*14+1,none⟩=some (.int .i64 (at':Int))/\i.cell? ⟨c.pb,0,none⟩=some (.pointer (some ⟨c.ob,c.oo,none⟩))/\i.cell? ⟨c.ob,c.oo+6,none⟩=some (.slice (some ⟨eb,k,none⟩) c.O.code.length N)/\i.cell? ⟨eb,k+at'*3,none⟩=some (.int .i64 6)/\i.cell? ⟨eb,k+at'*3+1,none⟩=some (.int .i64 (j:Int))/\i.cell? ⟨eb,k+at'*3+2,none⟩=some (.int .i64 y)):=fun i g=>⟨(g.cell (p:=⟨fb,fs.length*14,none⟩) a9).trans x0,(g.cell (p:=⟨fb,fs.length*14+1,none⟩) a9).trans x1,(g.cell (p:=⟨c.pb,0,none⟩) d1).trans x2,(g.cell (p:=⟨c.ob,c.oo+6,none⟩) e7).trans k6,(g.cell (p:=⟨eb,k+at'*3,none⟩) a3).trans e0,(g.cell (p:=⟨eb,k+at'*3+1,none⟩) a3).trans e1,(g.cell (p:=⟨eb,k+at'*3+2,none⟩) a3).trans e2⟩
 have d7:=zh (b7.out _ (zt d))
 have d8:Hid (∀o,(d.alloc o).drew.cell? ⟨fb,fs.length*14,none⟩=some (.pointer (some ⟨c.pb,0,none⟩))/\(d.alloc o).drew.cell? ⟨fb,fs.length*14+1,none⟩=some (.int .i64 (at':Int))/\(d.alloc o).drew.cell? ⟨c.pb,0,none⟩=some (.pointer (some ⟨c.ob,c.oo,none⟩))/\(d.alloc o).drew.cell? ⟨c.ob,c.oo+6,none⟩=some (.slice (some ⟨eb,k,none⟩) c.O.code.length N)/\(d.alloc o).drew.cell? ⟨eb,k+at'*3,none⟩=some (.int .i64 6)/\(d.alloc o).drew.cell? ⟨eb,k+at'*3+1,none⟩=some (.int .i64 (j:Int))/\(d.alloc o).drew.cell? ⟨eb,k+at'*3+2,none⟩=some (.int .i64 y)):=fun o=>b7.out _ (zb _ _).drew
 go_upto_region 1 with fail
 go_region_held3 (fun i=>i.cell? ⟨fb,fs.length*14,none⟩=some (.pointer (some ⟨c.pb,0,none⟩))/\i.cell? ⟨fb,fs.length*14+1,none⟩=some (.int .i64 (at':Int))/\i.cell? ⟨c.pb,0,none⟩=some (.pointer (some ⟨c.ob,c.oo,none⟩))/\i.cell? ⟨c.ob,c.oo+6,none⟩=some (.slice (some ⟨eb,k,none⟩) c.O.code.length N)/\i.cell? ⟨eb,k+at'*3,none⟩=some (.int .i64 6)/\i.cell? ⟨eb,k+at'*3+1,none⟩=some (.int .i64 (j:Int))/\i.cell? ⟨eb,k+at'*3+2,none⟩=some (.int .i64 y)) (with_reducible (first|exact d7.out|exact d8.out _)) (fail)
 rw[<-S]
 clear S x0 x1 e0 e1 e2 k6
 go_upto_region 3 with fail
 rw[<-T]
 clear T y0 y1
 go_wp2_with fail
 refine HT.out.mono ?_
 intro e l H
 obtain⟨a7,H⟩:=H
 have R:=(a7.block _ d2 f0).trans d6.out
 have r1:l.cell? ⟨d.heap.size,1,none⟩=some (.int .i64 (j:Int)):=(za R).trans rfl
 have g2:d.heap.size<l.heap.size:=zc R
 by_cases E:u.stack.length<=f.base
 ·rw[if_pos E]at H
  obtain⟨rfl,C,z⟩:=H
  have K:Hid (StepP c (Vm.taken f.base u fun n s=>Vm.set c.O.name ⟨c.O,vv⟩ j 0 n s) (.returned (.tuple #[])) l):=⟨rfl,by rw[yk E];exact C.mv8 z⟩
  clear C z E a7 R
  go_wp2_with fail
  first|exact ze rfl rfl K.out|exact bodyPost_ret (v:=.tuple #[]) (by simp[results,Tryz.results50,go_sem]) rfl K.out
 ·rw[if_neg E]at H
  obtain⟨n,r,h0,hs,rfl,C,z⟩:=H
  have b9:Hid (∀w5,Below l.heap.size l w5->Calls Tryz.prog 106 #[.pointer (some ⟨c.gb,0,none⟩),c.vsl j,.int .i64 0,.int .i64 n] w5 fun e w'=>e=.returned (.tuple #[])/\StepP c (Vm.taken f.base u fun n s=>Vm.set c.O.name ⟨c.O,vv⟩ j 0 n s) (.returned (.tuple #[])) w'):=fun w5 g=>(set8 (s:={ u with stack:=r }) (C.below a0.out z g) a0.out ((g.block _ (zc z)).trans z) c9 0 n (d9.out n (by rw[hs];simp))).mono fun e w' ⟨a1,a2⟩=>⟨a1,rfl,by rw[zR hs E];exact a2⟩
  have b6:=zh C
  clear C z E a7 R hs
  have P:=b6.out
  obtain⟨c8,g8,e9⟩:=P.vsl c9
  have p1:l.cell? ⟨c.pb,1,none⟩=some (.slice (some ⟨c.vb,0,none⟩) c.O.vars.length c.vc):=(za P.pk).trans (by rw[c8];rfl)
  have g1:c.pb<l.heap.size:=zc P.pk
  obtain⟨c0,f4,b2,f7,_,b0⟩:=P.top b3.out
  have e5:c0=fb:=by
   have:=U.out.2.1.symm.trans b2
   simp only[Value.slice.injEq,Option.some.injEq,Addr.mk.injEq]at this
   exact this.1.1.symm
  subst e5
  have p0:l.cell? ⟨c0,fs.length*14,none⟩=some (.pointer (some ⟨c.pb,0,none⟩)):=b0 0 _ rfl
  have g9:(j:Int)<(c.O.vars.length:Int):=by have:=d5.out.2;omega
  have b8:=zh (b9.out l.drew (zt l))
  clear P c8 b2 b0 b6 b9
  unfold Vx.vsl at e9 b8
  go_wp2_with fail
  go_region_law (first|(refine yj rfl ?_;go_simp;go_at_call 106;refine b8.out.mono ?_;rintro e w6 ⟨rfl,d0⟩;have K:=zh d0;clear d0))
  all_goals
   go_wp2_with fail
   first|exact ze rfl rfl K.out|exact bodyPost_ret (v:=.tuple #[]) (by simp[results,Tryz.results50,go_sem]) rfl K.out
theorem step_7 {E:Value}(h:MM c W s vv E sv J)(ok:VxOk c)(G:G8 c W E sv J s.way){f:Fr}{fs:List Fr}(P:s.frames=f :: fs)(b6:f.base<=s.stack.length)(S:f.at'<c.O.code.length)(c2:c.O.code[f.at'].op=7) :
  Calls Tryz.prog 50 #[.pointer (some ⟨c.gb,0,none⟩)] W (StepP c (Vm.exec c.most { f with at':=f.at'+1 } fs ⟨c.O,vv⟩ c.O.code[f.at'] (Vm.going { f with at':=f.at'+1 } fs s))):=by
 obtain⟨fb,cap,w,a0,d9,a3⟩:=h.top P
 have d4:=zc G
 have f6:=zV ok
 have b3:=zh (last8 h G P w)
 have hI:=ok.i64 _ (List.getElem_mem S)
 have q:=inst8 ok S
 have Y:Hid (∀d,Below c.w0.heap.size c.w0 d->∃b o N,d.cell? ⟨c.ob,c.oo+6,none⟩=some (.slice (some ⟨b,o,none⟩) c.O.code.length N)/\b<d.heap.size/\c.ob<d.heap.size/\d.cell? ⟨b,o+f.at'*3,none⟩=some (.int .i64 c.O.code[f.at'].op)/\d.cell? ⟨b,o+f.at'*3+1,none⟩=some (.int .i64 c.O.code[f.at'].a)/\d.cell? ⟨b,o+f.at'*3+2,none⟩=some (.int .i64 c.O.code[f.at'].b)):=fun d g=>code8 ok g S
 generalize c.O.code[f.at']=x at *
 obtain⟨f8,xa,xb⟩:=x
 simp only at c2 hI Y
 subst c2
 unfold Ob.instB at q
 have q:=reach8 ok (by simpa using q)
 simp only at q
 obtain⟨rfl,f3,f4⟩:=q
 obtain⟨j,rfl⟩:∃j:Nat,xa=(j:Int):=⟨xa.toNat,by omega⟩
 have a6:j<vv.length:=by rw[h.vn];omega
 have q:=True.intro
 have b7:∀t,Vm.exec c.most { f with at':=f.at'+1 } fs ⟨c.O,vv⟩ ⟨7,(j:Int),(-1)⟩ t=Vm.taken f.base t fun k s=>Vm.give (vv.getD j []) k s:=fun t=>by simp[Vm.exec,Vm.reached]
 rw[b7]
 have HM:Hid (∀d,Below W.heap.size W d->MM c d s vv E sv J/\G8 c d E sv J s.way):=fun d g=>⟨h.below ok G g,(g.block _ d4).trans G⟩
 have HX:Hid (∀d,Below W.heap.size W d->d.cell? ⟨fb,fs.length*14,none⟩=some (.pointer (some ⟨c.pb,0,none⟩))/\d.cell? ⟨fb,fs.length*14+1,none⟩=some (.int .i64 (f.at':Int))/\d.cell? ⟨c.pb,0,none⟩=some (.pointer (some ⟨c.ob,c.oo,none⟩))/\fb<d.heap.size/\c.pb<d.heap.size/\d.frozen? ⟨fb,fs.length*14+1,none⟩=false):=fun d g=>by
  obtain⟨m1,_⟩:=(⟨h.below ok G g,trivial⟩:MM c d s vv E sv J/\True)
  refine⟨(g.cell (p:=⟨fb,fs.length*14,none⟩) a0).trans (a3 0 _ rfl),(g.cell (p:=⟨fb,fs.length*14+1,none⟩) a0).trans (a3 1 _ rfl),(za m1.pk).trans rfl,Nat.lt_of_lt_of_le a0 g.size,zc m1.pk,?_⟩
  rcases m1.fr.2 with⟨e,_⟩|⟨g',cp',cur',e,_,hh,_⟩
  ·rw[e]at w;cases w
  ·rw[e]at w
   simp only[Value.slice.injEq,Option.some.injEq,Addr.mk.injEq]at w
   rw[<-w.1.1]
   exact zi hh
 have L:=zh (h.ff f (by rw[P];simp))
 have HF:=zh (And.intro P (And.intro w b6))
 have R:=zh ok
 have e7:=zh S
 have f5:(f.at':Int)<4000:=by omega
 have d8:(f.at':Int)<(c.O.code.length:Int):=by omega
 obtain⟨u,I⟩:∃u,u=Vm.going { f with at':=f.at'+1 } fs s:=⟨_,rfl⟩
 have b1:Hid (u.frames={ f with at':=f.at'+1 } :: fs):=by rw[I];rfl
 have e8:Hid (f.base<=u.stack.length):=by rw[I];exact HF.out.2.2
 have d3:Hid (u.way=s.way):=by rw[I];rfl
 have d2:=zh I
 rw[<-I]
 clear I
 have e9:=zh q
 clear b6 a3 w h G P q
 go_enter Tryz.func50,Tryz.ntmps50
 go_wp2_with fail
 refine b3.out.mono ?_
 rintro e d⟨rfl,M⟩
 obtain⟨x0,x1,x2,a8,c4,z1⟩:=HX.out d M
 obtain⟨c0,b8⟩:=HM.out d M
 obtain⟨eb,l,N,k6,Z,d5,e0,e1,e2⟩:=Y.out d c0.be
 obtain⟨z,T⟩:∃z,z=(d.alloc (.cells #[.int .i64 7,.int .i64 (j:Int),.int .i64 (-1)] 138)).drew:=⟨_,rfl⟩
 have c6:Hid (Below d.heap.size d z):=by rw[T];exact(zb _ _).drew
 have a4:z.heap[d.heap.size]?=some (.cells #[.int .i64 7,.int .i64 (j:Int),.int .i64 (-1)] 138 (0,0)):=by rw[T];exact zl d _
 have f0:=zh a4
 have a7:Hid (Below W.heap.size W z):=M.trans (c6.out.mono M.size)
 obtain⟨y0,y1,_,e3,e5,z2⟩:=HX.out z a7.out
 obtain⟨c1,b9⟩:=HM.out z a7.out
 obtain⟨m,U⟩:∃m,m=z.setCell ⟨fb,fs.length*14+1,none⟩ (.int .i64 ((f.at':Int)+1)):=⟨_,rfl⟩
 have a9:FrOk c { f with at':=f.at'+1 }:=⟨L.out.of,L.out.ll,L.out.li,L.out.mn,by show f.at'+1<=4000;omega,L.out.bs⟩
 obtain⟨V,X⟩:=c1.frset b9 HF.out.1 HF.out.2.1 1 (.int .i64 ((f.at':Int)+1)) a9 (yx c f (f.at'+1))
 rw[<-U]at V X
 have d7:d.heap.size≠fb:=by omega
 have d6:d.heap.size≠c.gb:=by have:=zc b8;omega
 have C:m.heap[d.heap.size]?=some (.cells #[.int .i64 7,.int .i64 (j:Int),.int .i64 (-1)] 138 (0,0)):=by rw[U];exact(Below.heap_setCell _ _ _ _ (by simpa using d7)).trans a4
 have q0:m.cell? ⟨d.heap.size,0,none⟩=some (.int .i64 7):=(za C).trans rfl
 have q1:m.cell? ⟨d.heap.size,1,none⟩=some (.int .i64 (j:Int)):=(za C).trans rfl
 have q2:m.cell? ⟨d.heap.size,2,none⟩=some (.int .i64 (-1)):=(za C).trans rfl
 have c5:d.heap.size<m.heap.size:=zc C
 have e4:c.gb<m.heap.size:=zc X
 rw[<-d2.out]at V
 have c9:=zh V
 have c7:Hid (G8 c m E sv J u.way):=by rw[d3.out];exact X
 have c8:=zh C
 have HT:=zh (take8 c9.out R.out c7.out b1.out)
 clear c0 b8 c1 b9 V X C a4 M HX HM b3 a9 b7 Y
 generalize f.at'=at' at *
 have b4:Hid (∀i,Below d.heap.size d i->i.cell? ⟨fb,fs.length*14,none⟩=some (.pointer (some ⟨c.pb,0,none⟩))/\i.cell? ⟨fb,fs.length*14+1,none⟩=some (.int .i64 (at':Int))/\i.cell? ⟨c.pb,0,none⟩=some (.pointer (some ⟨c.ob,c.oo,none⟩))/\i.cell? ⟨c.ob,c.oo+6,none⟩=some (.slice (some ⟨eb,l,none⟩) c.O.code.length N)/\i.cell? ⟨eb,l+at'*3,none⟩=some (.int .i64 7)/\i.cell? ⟨eb,l+at'*3+1,none⟩=some (.int .i64 (j:Int))/\i.cell? ⟨eb,l+at'*3+2,none⟩=some (.int .i64 (-1))):=fun i g=>⟨(g.cell (p:=⟨fb,fs.length*14,none⟩) a8).trans x0,(g.cell (p:=⟨fb,fs.length*14+1,none⟩) a8).trans x1,(g.cell (p:=⟨c.pb,0,none⟩) c4).trans x2,(g.cell (p:=⟨c.ob,c.oo+6,none⟩) d5).trans k6,(g.cell (p:=⟨eb,l+at'*3,none⟩) Z).trans e0,(g.cell (p:=⟨eb,l+at'*3+1,none⟩) Z).trans e1,(g.cell (p:=⟨eb,l+at'*3+2,none⟩) Z).trans e2⟩
 have d0:=zh (b4.out _ (zt d))
 have d1:Hid (∀o,(d.alloc o).drew.cell? ⟨fb,fs.length*14,none⟩=some (.pointer (some ⟨c.pb,0,none⟩))/\(d.alloc o).drew.cell? ⟨fb,fs.length*14+1,none⟩=some (.int .i64 (at':Int))/\(d.alloc o).drew.cell? ⟨c.pb,0,none⟩=some (.pointer (some ⟨c.ob,c.oo,none⟩))/\(d.alloc o).drew.cell? ⟨c.ob,c.oo+6,none⟩=some (.slice (some ⟨eb,l,none⟩) c.O.code.length N)/\(d.alloc o).drew.cell? ⟨eb,l+at'*3,none⟩=some (.int .i64 7)/\(d.alloc o).drew.cell? ⟨eb,l+at'*3+1,none⟩=some (.int .i64 (j:Int))/\(d.alloc o).drew.cell? ⟨eb,l+at'*3+2,none⟩=some (.int .i64 (-1))):=fun o=>b4.out _ (zb _ _).drew
 go_upto_region 1 with fail
 go_region_held3 (fun i=>i.cell? ⟨fb,fs.length*14,none⟩=some (.pointer (some ⟨c.pb,0,none⟩))/\i.cell? ⟨fb,fs.length*14+1,none⟩=some (.int .i64 (at':Int))/\i.cell? ⟨c.pb,0,none⟩=some (.pointer (some ⟨c.ob,c.oo,none⟩))/\i.cell? ⟨c.ob,c.oo+6,none⟩=some (.slice (some ⟨eb,l,none⟩) c.O.code.length N)/\i.cell? ⟨eb,l+at'*3,none⟩=some (.int .i64 7)/\i.cell? ⟨eb,l+at'*3+1,none⟩=some (.int .i64 (j:Int))/\i.cell? ⟨eb,l+at'*3+2,none⟩=some (.int .i64 (-1))) (with_reducible (first|exact d0.out|exact d1.out _)) (fail)
 rw[<-T]
 clear T x0 x1 e0 e1 e2 k6
 go_upto_region 3 with fail
 rw[<-U]
 clear U y0 y1
 go_wp2_with fail
 refine HT.out.mono ?_
 intro e A H
 obtain⟨a5,H⟩:=H
 have B:=(a5.block _ c5 d6).trans c8.out
 have r0:A.cell? ⟨d.heap.size,0,none⟩=some (.int .i64 7):=(za B).trans rfl
 have r1:A.cell? ⟨d.heap.size,1,none⟩=some (.int .i64 (j:Int)):=(za B).trans rfl
 have r2:A.cell? ⟨d.heap.size,2,none⟩=some (.int .i64 (-1)):=(za B).trans rfl
 have e6:d.heap.size<A.heap.size:=zc B
 by_cases F:u.stack.length<=f.base
 ·rw[if_pos F]at H
  obtain⟨rfl,D,y⟩:=H
  have K:Hid (StepP c (Vm.taken f.base u fun k s=>Vm.give (vv.getD j []) k s) (.returned (.tuple #[])) A):=⟨rfl,by rw[yk F];exact D.mv8 y⟩
  clear D y F a5 B
  go_wp2_with fail
  first|exact ze rfl rfl K.out|exact bodyPost_ret (v:=.tuple #[]) (by simp[results,Tryz.results50,go_sem]) rfl K.out
 ·rw[if_neg F]at H
  obtain⟨n,r,f7,hs,rfl,D,y⟩:=H
  have HC:=zh (reached8 (s:={ u with stack:=r }) D R.out y b1.out a6 7)
  have b2:Hid (∀Q,Below A.heap.size A Q->Calls Tryz.prog 104 #[.pointer (some ⟨c.gb,0,none⟩),c.vsl j,.int .i64 n] Q fun e w'=>e=.returned (.tuple #[])/\StepP c (Vm.taken f.base u fun k s=>Vm.give (vv.getD j []) k s) (.returned (.tuple #[])) w'):=fun Q g=>(give8 (D.below R.out y g) R.out ((g.block _ (zc y)).trans y) a6 n).mono fun e w' ⟨a1,a2⟩=>⟨a1,rfl,by
   rw[zR hs F,List.getD_eq_getElem?_getD,List.getElem?_eq_getElem a6]
   exact a2⟩
  clear D y F a5 B hs
  go_wp2_with fail
  refine HC.out.mono ?_
  rintro e Q⟨rfl,b5⟩
  have b0:=zh (b2.out Q b5)
  clear b5 b2
  unfold Vx.vsl at b0 ⊢
  go_wp2_with fail
  refine b0.out.mono ?_
  rintro e w6⟨rfl,c3⟩
  have K:=zh c3
  clear c3
  go_wp2_with fail
  first|exact ze rfl rfl K.out|exact bodyPost_ret (v:=.tuple #[]) (by simp[results,Tryz.results50,go_sem]) rfl K.out
theorem step_8 {C G:Value}(h:MM c W s vv C sv G)(ok:VxOk c)(E:G8 c W C sv G s.way){f:Fr}{fs:List Fr}(D:s.frames=f :: fs)(b9:f.base<=s.stack.length)(P:f.at'<c.O.code.length)(c5:c.O.code[f.at'].op=8) :
  Calls Tryz.prog 50 #[.pointer (some ⟨c.gb,0,none⟩)] W (StepP c (Vm.exec c.most { f with at':=f.at'+1 } fs ⟨c.O,vv⟩ c.O.code[f.at'] (Vm.going { f with at':=f.at'+1 } fs s))):=by
 obtain⟨fb,cap,r,a3,f5,a4⟩:=h.top D
 have e5:=zc E
 have g6:=zV ok
 have b3:=zh (last8 h E D r)
 have hI:=ok.i64 _ (List.getElem_mem P)
 have z:=inst8 ok P
 have Y:Hid (∀d,Below c.w0.heap.size c.w0 d->∃b o L,d.cell? ⟨c.ob,c.oo+6,none⟩=some (.slice (some ⟨b,o,none⟩) c.O.code.length L)/\b<d.heap.size/\c.ob<d.heap.size/\d.cell? ⟨b,o+f.at'*3,none⟩=some (.int .i64 c.O.code[f.at'].op)/\d.cell? ⟨b,o+f.at'*3+1,none⟩=some (.int .i64 c.O.code[f.at'].a)/\d.cell? ⟨b,o+f.at'*3+2,none⟩=some (.int .i64 c.O.code[f.at'].b)):=fun d g=>code8 ok g P
 generalize c.O.code[f.at']=x at *
 obtain⟨h0,X,y⟩:=x
 simp only at c5 hI Y
 subst c5
 unfold Ob.instB at z
 have z:0<=X/\X<(c.O.vars.length:Int):=by simp[Ob.countsB,Ob.choices]at z;exact z.2
 obtain⟨i,rfl⟩:∃i:Nat,X=(i:Int):=⟨X.toNat,by omega⟩
 have c7:i<vv.length:=by rw[h.vn];omega
 have e7:f.of=c.O.name:=(h.ff f (by rw[D];simp)).of
 have c0:∀t,Vm.exec c.most { f with at':=f.at'+1 } fs ⟨c.O,vv⟩ ⟨8,(i:Int),y⟩ t=Vm.taken f.base t fun n s=>Vm.taken f.base s fun k s=>Vm.set c.O.name ⟨c.O,vv⟩ i k n s:=fun t=>by simp[Vm.exec,e7]
 rw[c0]
 have HM:Hid (∀d,Below W.heap.size W d->MM c d s vv C sv G/\G8 c d C sv G s.way):=fun d g=>⟨h.below ok E g,(g.block _ e5).trans E⟩
 have HX:Hid (∀d,Below W.heap.size W d->d.cell? ⟨fb,fs.length*14,none⟩=some (.pointer (some ⟨c.pb,0,none⟩))/\d.cell? ⟨fb,fs.length*14+1,none⟩=some (.int .i64 (f.at':Int))/\d.cell? ⟨c.pb,0,none⟩=some (.pointer (some ⟨c.ob,c.oo,none⟩))/\fb<d.heap.size/\c.pb<d.heap.size/\d.frozen? ⟨fb,fs.length*14+1,none⟩=false):=fun d g=>by
  obtain⟨m1,_⟩:=(⟨h.below ok E g,trivial⟩:MM c d s vv C sv G/\True)
  refine⟨(g.cell (p:=⟨fb,fs.length*14,none⟩) a3).trans (a4 0 _ rfl),(g.cell (p:=⟨fb,fs.length*14+1,none⟩) a3).trans (a4 1 _ rfl),(za m1.pk).trans rfl,Nat.lt_of_lt_of_le a3 g.size,zc m1.pk,?_⟩
  rcases m1.fr.2 with⟨e,_⟩|⟨g',cp',cur',e,_,hh,_⟩
  ·rw[e]at r;cases r
  ·rw[e]at r
   simp only[Value.slice.injEq,Option.some.injEq,Addr.mk.injEq]at r
   rw[<-r.1.1]
   exact zi hh
 have I:=zh (h.ff f (by rw[D];simp))
 have T:=zh (And.intro D (And.intro r b9))
 have Z:=zh ok
 have g2:=zh P
 have g5:(f.at':Int)<4000:=by omega
 have f4:(f.at':Int)<(c.O.code.length:Int):=by omega
 obtain⟨u,F⟩:∃u,u=Vm.going { f with at':=f.at'+1 } fs s:=⟨_,rfl⟩
 have b2:Hid (u.frames={ f with at':=f.at'+1 } :: fs):=by rw[F];rfl
 have g3:Hid (f.base<=u.stack.length):=by rw[F];exact T.out.2.2
 have e3:Hid (u.way=s.way):=by rw[F];rfl
 have d9:=zh F
 rw[<-F]
 clear F
 have d4:=zh z
 clear b9 a4 r h E D z
 go_enter Tryz.func50,Tryz.ntmps50
 go_wp2_with fail
 refine b3.out.mono ?_
 rintro e d⟨rfl,J⟩
 obtain⟨x0,x1,x2,a8,c9,z1⟩:=HX.out d J
 obtain⟨c3,c1⟩:=HM.out d J
 obtain⟨eb,l,L,k6,a0,e6,e0,e1,e2⟩:=Y.out d c3.be
 obtain⟨w,R⟩:∃w,w=(d.alloc (.cells #[.int .i64 8,.int .i64 (i:Int),.int .i64 y] 138)).drew:=⟨_,rfl⟩
 have d1:Hid (Below d.heap.size d w):=by rw[R];exact(zb _ _).drew
 have a5:w.heap[d.heap.size]?=some (.cells #[.int .i64 8,.int .i64 (i:Int),.int .i64 y] 138 (0,0)):=by rw[R];exact zl d _
 have g4:=zh a5
 have a7:Hid (Below W.heap.size W w):=J.trans (d1.out.mono J.size)
 obtain⟨y0,y1,_,f7,f9,z2⟩:=HX.out w a7.out
 obtain⟨c4,c2⟩:=HM.out w a7.out
 obtain⟨q,S⟩:∃q,q=w.setCell ⟨fb,fs.length*14+1,none⟩ (.int .i64 ((f.at':Int)+1)):=⟨_,rfl⟩
 have b0:FrOk c { f with at':=f.at'+1 }:=⟨I.out.of,I.out.ll,I.out.li,I.out.mn,by show f.at'+1<=4000;omega,I.out.bs⟩
 obtain⟨U,V⟩:=c4.frset c2 T.out.1 T.out.2.1 1 (.int .i64 ((f.at':Int)+1)) b0 (yx c f (f.at'+1))
 rw[<-S]at U V
 have f0:d.heap.size≠fb:=by omega
 have e9:d.heap.size≠c.gb:=by have:=zc c1;omega
 have B:q.heap[d.heap.size]?=some (.cells #[.int .i64 8,.int .i64 (i:Int),.int .i64 y] 138 (0,0)):=by rw[S];exact(Below.heap_setCell _ _ _ _ (by simpa using f0)).trans a5
 have q0:q.cell? ⟨d.heap.size,0,none⟩=some (.int .i64 8):=(za B).trans rfl
 have q1:q.cell? ⟨d.heap.size,1,none⟩=some (.int .i64 (i:Int)):=(za B).trans rfl
 have q2:q.cell? ⟨d.heap.size,2,none⟩=some (.int .i64 y):=(za B).trans rfl
 have d0:d.heap.size<q.heap.size:=zc B
 have f8:c.gb<q.heap.size:=zc V
 rw[<-d9.out]at U
 have d6:=zh U
 have d3:Hid (G8 c q C sv G u.way):=by rw[e3.out];exact V
 have d5:=zh B
 have HT:=zh (takeTwo8 d6.out Z.out d3.out b2.out)
 clear c3 c1 c4 c2 U V B a5 J HX HM b3 b0 c0 Y
 generalize f.at'=at' at *
 have b5:Hid (∀j,Below d.heap.size d j->j.cell? ⟨fb,fs.length*14,none⟩=some (.pointer (some ⟨c.pb,0,none⟩))/\j.cell? ⟨fb,fs.length*14+1,none⟩=some (.int .i64 (at':Int))/\j.cell? ⟨c.pb,0,none⟩=some (.pointer (some ⟨c.ob,c.oo,none⟩))/\j.cell? ⟨c.ob,c.oo+6,none⟩=some (.slice (some ⟨eb,l,none⟩) c.O.code.length L)/\j.cell? ⟨eb,l+at'*3,none⟩=some (.int .i64 8)/\j.cell? ⟨eb,l+at'*3+1,none⟩=some (.int .i64 (i:Int))/\j.cell? ⟨eb,l+at'*3+2,none⟩=some (.int .i64 y)):=fun j g=>⟨(g.cell (p:=⟨fb,fs.length*14,none⟩) a8).trans x0,(g.cell (p:=⟨fb,fs.length*14+1,none⟩) a8).trans x1,(g.cell (p:=⟨c.pb,0,none⟩) c9).trans x2,(g.cell (p:=⟨c.ob,c.oo+6,none⟩) e6).trans k6,(g.cell (p:=⟨eb,l+at'*3,none⟩) a0).trans e0,(g.cell (p:=⟨eb,l+at'*3+1,none⟩) a0).trans e1,(g.cell (p:=⟨eb,l+at'*3+2,none⟩) a0).trans e2⟩
 have d7:=zh (b5.out _ (zt d))
 have d8:Hid (∀o,(d.alloc o).drew.cell? ⟨fb,fs.length*14,none⟩=some (.pointer (some ⟨c.pb,0,none⟩))/\(d.alloc o).drew.cell? ⟨fb,fs.length*14+1,none⟩=some (.int .i64 (at':Int))/\(d.alloc o).drew.cell? ⟨c.pb,0,none⟩=some (.pointer (some ⟨c.ob,c.oo,none⟩))/\(d.alloc o).drew.cell? ⟨c.ob,c.oo+6,none⟩=some (.slice (some ⟨eb,l,none⟩) c.O.code.length L)/\(d.alloc o).drew.cell? ⟨eb,l+at'*3,none⟩=some (.int .i64 8)/\(d.alloc o).drew.cell? ⟨eb,l+at'*3+1,none⟩=some (.int .i64 (i:Int))/\(d.alloc o).drew.cell? ⟨eb,l+at'*3+2,none⟩=some (.int .i64 y)):=fun o=>b5.out _ (zb _ _).drew
 go_upto_region 1 with fail
 go_region_held3 (fun j=>j.cell? ⟨fb,fs.length*14,none⟩=some (.pointer (some ⟨c.pb,0,none⟩))/\j.cell? ⟨fb,fs.length*14+1,none⟩=some (.int .i64 (at':Int))/\j.cell? ⟨c.pb,0,none⟩=some (.pointer (some ⟨c.ob,c.oo,none⟩))/\j.cell? ⟨c.ob,c.oo+6,none⟩=some (.slice (some ⟨eb,l,none⟩) c.O.code.length L)/\j.cell? ⟨eb,l+at'*3,none⟩=some (.int .i64 8)/\j.cell? ⟨eb,l+at'*3+1,none⟩=some (.int .i64 (i:Int))/\j.cell? ⟨eb,l+at'*3+2,none⟩=some (.int .i64 y)) (with_reducible (first|exact d7.out|exact d8.out _)) (fail)
 rw[<-R]
 clear R x0 x1 e0 e1 e2 k6
 go_upto_region 3 with fail
 rw[<-S]
 clear S y0 y1
 go_wp2_with fail
 refine HT.out.mono ?_
 intro e m hq
 obtain⟨a6,t,g9,K,A,hq⟩:=hq
 have Q:=(a6.block _ d0 e9).trans d5.out
 have r1:m.cell? ⟨d.heap.size,1,none⟩=some (.int .i64 (i:Int)):=(za Q).trans rfl
 have g1:d.heap.size<m.heap.size:=zc Q
 rcases hq with⟨x9,y9,rfl,M⟩|⟨k,n,hk,hn,hff,rfl,M⟩
 ·have H:Hid (StepP c (Vm.taken f.base u fun n s=>Vm.taken f.base s fun k s=>Vm.set c.O.name ⟨c.O,vv⟩ i k n s) (.returned (.tuple #[])) m):=⟨rfl,by rw[M fun k n s=>Vm.set c.O.name ⟨c.O,vv⟩ i k n s];exact⟨_,_,_,_,K,A⟩⟩
  clear K A M a6 Q
  go_wp2_with fail
  first|exact ze rfl rfl H.out|exact bodyPost_ret (v:=.tuple #[]) (by simp[results,Tryz.results50,go_sem]) rfl H.out
 ·have hs:=M
  have h1:=True.intro
  have b7:Hid (∀w5,Below m.heap.size m w5->Calls Tryz.prog 106 #[.pointer (some ⟨c.gb,0,none⟩),c.vsl i,.int .i64 k,.int .i64 n] w5 fun e w'=>e=.returned (.tuple #[])/\StepP c (Vm.taken f.base u fun n s=>Vm.taken f.base s fun k s=>Vm.set c.O.name ⟨c.O,vv⟩ i k n s) (.returned (.tuple #[])) w'):=fun w5 g=>(set8 (K.below Z.out A g) Z.out ((g.block _ (zc A)).trans A) c7 k n hn).mono fun e w' ⟨a1,a2⟩=>⟨a1,rfl,by rw[hs fun k n s=>Vm.set c.O.name ⟨c.O,vv⟩ i k n s];exact a2⟩
  have b4:=zh K
  have d2:Hid (t.frames=_ :: fs):=hff.trans b2.out
  clear K A h1 a6 Q hs M hff
  have N:=b4.out
  obtain⟨c6,g7,e8⟩:=N.vsl c7
  have p1:m.cell? ⟨c.pb,1,none⟩=some (.slice (some ⟨c.vb,0,none⟩) c.O.vars.length c.vc):=(za N.pk).trans (by rw[c6];rfl)
  have g0:c.pb<m.heap.size:=zc N.pk
  obtain⟨b8,f3,b1,f6,_,a9⟩:=N.top d2.out
  have e4:b8=fb:=by
   have:=T.out.2.1.symm.trans b1
   simp only[Value.slice.injEq,Option.some.injEq,Addr.mk.injEq]at this
   exact this.1.1.symm
  subst e4
  have p0:m.cell? ⟨b8,fs.length*14,none⟩=some (.pointer (some ⟨c.pb,0,none⟩)):=a9 0 _ rfl
  have g8:(i:Int)<(c.O.vars.length:Int):=by have:=d4.out.2;omega
  have b6:=zh (b7.out m.drew (zt m))
  clear N c6 b1 a9 b4 b7
  unfold Vx.vsl at e8 b6
  go_wp2_with fail
  go_region_law (first|(refine yj rfl ?_;go_simp;go_at_call 106;refine b6.out.mono ?_;rintro e w6 ⟨rfl,c8⟩;have H:=zh c8;clear c8))
  all_goals
   go_wp2_with fail
   first|exact ze rfl rfl H.out|exact bodyPost_ret (v:=.tuple #[]) (by simp[results,Tryz.results50,go_sem]) rfl H.out
theorem step_9 (h:MM c W s vv y sv B)(ok:VxOk c)(z:G8 c W y sv B s.way){f:Fr}{fs:List Fr}(F:s.frames=f :: fs)(a3:f.base<=s.stack.length)(G:f.at'<c.O.code.length)(a9:c.O.code[f.at'].op=9) :
  Calls Tryz.prog 50 #[.pointer (some ⟨c.gb,0,none⟩)] W (StepP c (Vm.exec c.most { f with at':=f.at'+1 } fs ⟨c.O,vv⟩ c.O.code[f.at'] (Vm.going { f with at':=f.at'+1 } fs s))):=by
 obtain⟨fb,cap,m,P,c6,Q⟩:=h.top F
 have c2:=zc z
 have d6:=zV ok
 have a1:=zh (last8 h z F m)
 have hI:=ok.i64 _ (List.getElem_mem G)
 have r:=inst8 ok G
 have M:Hid (∀d,Below c.w0.heap.size c.w0 d->∃b o E,d.cell? ⟨c.ob,c.oo+6,none⟩=some (.slice (some ⟨b,o,none⟩) c.O.code.length E)/\b<d.heap.size/\c.ob<d.heap.size/\d.cell? ⟨b,o+f.at'*3,none⟩=some (.int .i64 c.O.code[f.at'].op)/\d.cell? ⟨b,o+f.at'*3+1,none⟩=some (.int .i64 c.O.code[f.at'].a)/\d.cell? ⟨b,o+f.at'*3+2,none⟩=some (.int .i64 c.O.code[f.at'].b)):=fun d g=>code8 ok g G
 generalize c.O.code[f.at']=x at *
 obtain⟨d8,L,q⟩:=x
 simp only at a9 hI M
 subst a9
 unfold Ob.instB at r
 have r:0<=L/\L<11:=by simp[Ob.countsB,Ob.choices]at r;exact r.2
 obtain⟨k,rfl⟩:∃k:Nat,L=(k:Int):=⟨L.toNat,by omega⟩
 have a4:∀t,Vm.exec c.most { f with at':=f.at'+1 } fs ⟨c.O,vv⟩ ⟨9,(k:Int),q⟩ t=Vm.taken f.base t fun b s=>Vm.taken f.base s fun a s=>Vm.reckon (Vm.marks8.getD k []) a b s:=fun t=>by simp[Vm.exec]
 rw[a4]
 have T:Hid (∀d,Below W.heap.size W d->MM c d s vv y sv B/\G8 c d y sv B s.way):=fun d g=>⟨h.below ok z g,(g.block _ c2).trans z⟩
 have U:Hid (∀d,Below W.heap.size W d->d.cell? ⟨fb,fs.length*14,none⟩=some (.pointer (some ⟨c.pb,0,none⟩))/\d.cell? ⟨fb,fs.length*14+1,none⟩=some (.int .i64 (f.at':Int))/\d.cell? ⟨c.pb,0,none⟩=some (.pointer (some ⟨c.ob,c.oo,none⟩))/\fb<d.heap.size/\c.pb<d.heap.size/\d.frozen? ⟨fb,fs.length*14+1,none⟩=false):=fun d g=>by
  obtain⟨V,_⟩:=(⟨h.below ok z g,trivial⟩:MM c d s vv y sv B/\True)
  refine⟨(g.cell (p:=⟨fb,fs.length*14,none⟩) P).trans (Q 0 _ rfl),(g.cell (p:=⟨fb,fs.length*14+1,none⟩) P).trans (Q 1 _ rfl),(za V.pk).trans rfl,Nat.lt_of_lt_of_le P g.size,zc V.pk,?_⟩
  rcases V.fr.2 with⟨e,_⟩|⟨g',cp',cur',e,_,hh,_⟩
  ·rw[e]at m;cases m
  ·rw[e]at m
   simp only[Value.slice.injEq,Option.some.injEq,Addr.mk.injEq]at m
   rw[<-m.1.1]
   exact zi hh
 have C:=zh (h.ff f (by rw[F];simp))
 have S:=zh (And.intro F (And.intro m a3))
 have b7:=zh ok
 have d1:=zh G
 have d5:(f.at':Int)<4000:=by omega
 have c5:(f.at':Int)<(c.O.code.length:Int):=by omega
 obtain⟨u,A⟩:∃u,u=Vm.going { f with at':=f.at'+1 } fs s:=⟨_,rfl⟩
 have b3:Hid (u.frames={ f with at':=f.at'+1 } :: fs):=by rw[A];rfl
 have d2:Hid (f.base<=u.stack.length):=by rw[A];exact S.out.2.2
 have c1:Hid (u.way=s.way):=by rw[A];rfl
 have c0:=zh A
 rw[<-A]
 clear A
 have b5:=zh r
 clear a3 Q m h z F r
 go_enter Tryz.func50,Tryz.ntmps50
 go_wp2_with fail
 refine a1.out.mono ?_
 rintro e d⟨rfl,D⟩
 obtain⟨x0,x1,x2,Z,b1,z1⟩:=U.out d D
 obtain⟨a7,a5⟩:=T.out d D
 obtain⟨eb,j,E,k6,N,c3,e0,e1,e2⟩:=M.out d a7.be
 obtain⟨n,H⟩:∃n,n=(d.alloc (.cells #[.int .i64 9,.int .i64 (k:Int),.int .i64 q] 138)).drew:=⟨_,rfl⟩
 have b2:Hid (Below d.heap.size d n):=by rw[H];exact(zb _ _).drew
 have R:n.heap[d.heap.size]?=some (.cells #[.int .i64 9,.int .i64 (k:Int),.int .i64 q] 138 (0,0)):=by rw[H];exact zl d _
 have d3:=zh R
 have X:Hid (Below W.heap.size W n):=D.trans (b2.out.mono D.size)
 obtain⟨y0,y1,_,c7,c9,z2⟩:=U.out n X.out
 obtain⟨a8,a6⟩:=T.out n X.out
 obtain⟨l,I⟩:∃l,l=n.setCell ⟨fb,fs.length*14+1,none⟩ (.int .i64 ((f.at':Int)+1)):=⟨_,rfl⟩
 have a0:FrOk c { f with at':=f.at'+1 }:=⟨C.out.of,C.out.ll,C.out.li,C.out.mn,by show f.at'+1<=4000;omega,C.out.bs⟩
 obtain⟨J,K⟩:=a8.frset a6 S.out.1 S.out.2.1 1 (.int .i64 ((f.at':Int)+1)) a0 (yx c f (f.at'+1))
 rw[<-I]at J K
 have c4:d.heap.size≠fb:=by omega
 have d7:d.heap.size≠c.gb:=by have:=zc a5;omega
 have w:l.heap[d.heap.size]?=some (.cells #[.int .i64 9,.int .i64 (k:Int),.int .i64 q] 138 (0,0)):=by rw[I];exact(Below.heap_setCell _ _ _ _ (by simpa using c4)).trans R
 have q0:l.cell? ⟨d.heap.size,0,none⟩=some (.int .i64 9):=(za w).trans rfl
 have q1:l.cell? ⟨d.heap.size,1,none⟩=some (.int .i64 (k:Int)):=(za w).trans rfl
 have q2:l.cell? ⟨d.heap.size,2,none⟩=some (.int .i64 q):=(za w).trans rfl
 have d0:d.heap.size<l.heap.size:=zc w
 have c8:c.gb<l.heap.size:=zc K
 rw[<-c0.out]at J
 have b6:=zh J
 have b4:Hid (G8 c l y sv B u.way):=by rw[c1.out];exact K
 have d4:=zh w
 have HC:=zh (do8 b6.out b7.out b4.out b3.out k (by have:=b5.out;omega))
 clear a7 a5 a8 a6 J K w R D U T a1 a0 a4 M
 generalize f.at'=at' at *
 have a2:Hid (∀i,Below d.heap.size d i->i.cell? ⟨fb,fs.length*14,none⟩=some (.pointer (some ⟨c.pb,0,none⟩))/\i.cell? ⟨fb,fs.length*14+1,none⟩=some (.int .i64 (at':Int))/\i.cell? ⟨c.pb,0,none⟩=some (.pointer (some ⟨c.ob,c.oo,none⟩))/\i.cell? ⟨c.ob,c.oo+6,none⟩=some (.slice (some ⟨eb,j,none⟩) c.O.code.length E)/\i.cell? ⟨eb,j+at'*3,none⟩=some (.int .i64 9)/\i.cell? ⟨eb,j+at'*3+1,none⟩=some (.int .i64 (k:Int))/\i.cell? ⟨eb,j+at'*3+2,none⟩=some (.int .i64 q)):=fun i g=>⟨(g.cell (p:=⟨fb,fs.length*14,none⟩) Z).trans x0,(g.cell (p:=⟨fb,fs.length*14+1,none⟩) Z).trans x1,(g.cell (p:=⟨c.pb,0,none⟩) b1).trans x2,(g.cell (p:=⟨c.ob,c.oo+6,none⟩) c3).trans k6,(g.cell (p:=⟨eb,j+at'*3,none⟩) N).trans e0,(g.cell (p:=⟨eb,j+at'*3+1,none⟩) N).trans e1,(g.cell (p:=⟨eb,j+at'*3+2,none⟩) N).trans e2⟩
 have b8:=zh (a2.out _ (zt d))
 have b9:Hid (∀o,(d.alloc o).drew.cell? ⟨fb,fs.length*14,none⟩=some (.pointer (some ⟨c.pb,0,none⟩))/\(d.alloc o).drew.cell? ⟨fb,fs.length*14+1,none⟩=some (.int .i64 (at':Int))/\(d.alloc o).drew.cell? ⟨c.pb,0,none⟩=some (.pointer (some ⟨c.ob,c.oo,none⟩))/\(d.alloc o).drew.cell? ⟨c.ob,c.oo+6,none⟩=some (.slice (some ⟨eb,j,none⟩) c.O.code.length E)/\(d.alloc o).drew.cell? ⟨eb,j+at'*3,none⟩=some (.int .i64 9)/\(d.alloc o).drew.cell? ⟨eb,j+at'*3+1,none⟩=some (.int .i64 (k:Int))/\(d.alloc o).drew.cell? ⟨eb,j+at'*3+2,none⟩=some (.int .i64 q)):=fun o=>a2.out _ (zb _ _).drew
 go_upto_region 1 with fail
 go_region_held3 (fun i=>i.cell? ⟨fb,fs.length*14,none⟩=some (.pointer (some ⟨c.pb,0,none⟩))/\i.cell? ⟨fb,fs.length*14+1,none⟩=some (.int .i64 (at':Int))/\i.cell? ⟨c.pb,0,none⟩=some (.pointer (some ⟨c.ob,c.oo,none⟩))/\i.cell? ⟨c.ob,c.oo+6,none⟩=some (.slice (some ⟨eb,j,none⟩) c.O.code.length E)/\i.cell? ⟨eb,j+at'*3,none⟩=some (.int .i64 9)/\i.cell? ⟨eb,j+at'*3+1,none⟩=some (.int .i64 (k:Int))/\i.cell? ⟨eb,j+at'*3+2,none⟩=some (.int .i64 q)) (with_reducible (first|exact b8.out|exact b9.out _)) (fail)
 rw[<-H]
 clear H x0 x1 e0 e1 e2 k6
 go_upto_region 3 with fail
 rw[<-I]
 clear I y0 y1
 go_wp2_with fail
 refine HC.out.mono ?_
 intro e w4 hq
 obtain⟨rfl,b0⟩:=hq
 have Y:Hid (StepP c (Vm.taken f.base u fun b s=>Vm.taken f.base s fun a s=>Vm.reckon (Vm.marks8.getD k []) a b s) (.returned (.tuple #[])) w4):=⟨rfl,b0⟩
 clear b0
 go_wp2_with fail
 first|exact ze rfl rfl Y.out|exact bodyPost_ret (v:=.tuple #[]) (by simp[results,Tryz.results50,go_sem]) rfl Y.out
theorem step_10 (h:MM c W s vv y sv B)(ok:VxOk c)(z:G8 c W y sv B s.way){f:Fr}{fs:List Fr}(F:s.frames=f :: fs)(a3:f.base<=s.stack.length)(G:f.at'<c.O.code.length)(a9:c.O.code[f.at'].op=10) :
  Calls Tryz.prog 50 #[.pointer (some ⟨c.gb,0,none⟩)] W (StepP c (Vm.exec c.most { f with at':=f.at'+1 } fs ⟨c.O,vv⟩ c.O.code[f.at'] (Vm.going { f with at':=f.at'+1 } fs s))):=by
 obtain⟨fb,cap,l,P,c5,Q⟩:=h.top F
 have c1:=zc z
 have d6:=zV ok
 have a1:=zh (last8 h z F l)
 have hI:=ok.i64 _ (List.getElem_mem G)
 have M:=inst8 ok G
 have L:Hid (∀d,Below c.w0.heap.size c.w0 d->∃b o E,d.cell? ⟨c.ob,c.oo+6,none⟩=some (.slice (some ⟨b,o,none⟩) c.O.code.length E)/\b<d.heap.size/\c.ob<d.heap.size/\d.cell? ⟨b,o+f.at'*3,none⟩=some (.int .i64 c.O.code[f.at'].op)/\d.cell? ⟨b,o+f.at'*3+1,none⟩=some (.int .i64 c.O.code[f.at'].a)/\d.cell? ⟨b,o+f.at'*3+2,none⟩=some (.int .i64 c.O.code[f.at'].b)):=fun d g=>code8 ok g G
 generalize c.O.code[f.at']=x at *
 obtain⟨d8,q,r⟩:=x
 simp only at a9 hI L
 subst a9
 unfold Ob.instB at M
 have a4:∀t,Vm.exec c.most { f with at':=f.at'+1 } fs ⟨c.O,vv⟩ ⟨10,q,r⟩ t=Vm.taken f.base t fun n s=>Vm.put (Tp.w64 (-n)) s:=fun t=>by simp[Vm.exec]
 rw[a4]
 have T:Hid (∀d,Below W.heap.size W d->MM c d s vv y sv B/\G8 c d y sv B s.way):=fun d g=>⟨h.below ok z g,(g.block _ c1).trans z⟩
 have U:Hid (∀d,Below W.heap.size W d->d.cell? ⟨fb,fs.length*14,none⟩=some (.pointer (some ⟨c.pb,0,none⟩))/\d.cell? ⟨fb,fs.length*14+1,none⟩=some (.int .i64 (f.at':Int))/\d.cell? ⟨c.pb,0,none⟩=some (.pointer (some ⟨c.ob,c.oo,none⟩))/\fb<d.heap.size/\c.pb<d.heap.size/\d.frozen? ⟨fb,fs.length*14+1,none⟩=false):=fun d g=>by
  obtain⟨V,_⟩:=(⟨h.below ok z g,trivial⟩:MM c d s vv y sv B/\True)
  refine⟨(g.cell (p:=⟨fb,fs.length*14,none⟩) P).trans (Q 0 _ rfl),(g.cell (p:=⟨fb,fs.length*14+1,none⟩) P).trans (Q 1 _ rfl),(za V.pk).trans rfl,Nat.lt_of_lt_of_le P g.size,zc V.pk,?_⟩
  rcases V.fr.2 with⟨e,_⟩|⟨g',cp',cur',e,_,hh,_⟩
  ·rw[e]at l;cases l
  ·rw[e]at l
   simp only[Value.slice.injEq,Option.some.injEq,Addr.mk.injEq]at l
   rw[<-l.1.1]
   exact zi hh
 have C:=zh (h.ff f (by rw[F];simp))
 have S:=zh (And.intro F (And.intro l a3))
 have b6:=zh ok
 have d0:=zh G
 have d5:(f.at':Int)<4000:=by omega
 have c4:(f.at':Int)<(c.O.code.length:Int):=by omega
 obtain⟨u,A⟩:∃u,u=Vm.going { f with at':=f.at'+1 } fs s:=⟨_,rfl⟩
 have b3:Hid (u.frames={ f with at':=f.at'+1 } :: fs):=by rw[A];rfl
 have d1:Hid (f.base<=u.stack.length):=by rw[A];exact S.out.2.2
 have c0:Hid (u.way=s.way):=by rw[A];rfl
 have b9:=zh A
 rw[<-A]
 clear A
 have d2:=zh M
 clear a3 Q l h z F M
 go_enter Tryz.func50,Tryz.ntmps50
 go_wp2_with fail
 refine a1.out.mono ?_
 rintro e d⟨rfl,D⟩
 obtain⟨x0,x1,x2,Z,b1,z1⟩:=U.out d D
 obtain⟨a7,a5⟩:=T.out d D
 obtain⟨eb,j,E,k6,N,c2,e0,e1,e2⟩:=L.out d a7.be
 obtain⟨m,H⟩:∃m,m=(d.alloc (.cells #[.int .i64 10,.int .i64 q,.int .i64 r] 138)).drew:=⟨_,rfl⟩
 have b2:Hid (Below d.heap.size d m):=by rw[H];exact(zb _ _).drew
 have R:m.heap[d.heap.size]?=some (.cells #[.int .i64 10,.int .i64 q,.int .i64 r] 138 (0,0)):=by rw[H];exact zl d _
 have d3:=zh R
 have X:Hid (Below W.heap.size W m):=D.trans (b2.out.mono D.size)
 obtain⟨y0,y1,_,c6,c8,z2⟩:=U.out m X.out
 obtain⟨a8,a6⟩:=T.out m X.out
 obtain⟨k,I⟩:∃k,k=m.setCell ⟨fb,fs.length*14+1,none⟩ (.int .i64 ((f.at':Int)+1)):=⟨_,rfl⟩
 have a0:FrOk c { f with at':=f.at'+1 }:=⟨C.out.of,C.out.ll,C.out.li,C.out.mn,by show f.at'+1<=4000;omega,C.out.bs⟩
 obtain⟨J,K⟩:=a8.frset a6 S.out.1 S.out.2.1 1 (.int .i64 ((f.at':Int)+1)) a0 (yx c f (f.at'+1))
 rw[<-I]at J K
 have c3:d.heap.size≠fb:=by omega
 have d7:d.heap.size≠c.gb:=by have:=zc a5;omega
 have w:k.heap[d.heap.size]?=some (.cells #[.int .i64 10,.int .i64 q,.int .i64 r] 138 (0,0)):=by rw[I];exact(Below.heap_setCell _ _ _ _ (by simpa using c3)).trans R
 have q0:k.cell? ⟨d.heap.size,0,none⟩=some (.int .i64 10):=(za w).trans rfl
 have q1:k.cell? ⟨d.heap.size,1,none⟩=some (.int .i64 q):=(za w).trans rfl
 have q2:k.cell? ⟨d.heap.size,2,none⟩=some (.int .i64 r):=(za w).trans rfl
 have c9:d.heap.size<k.heap.size:=zc w
 have c7:c.gb<k.heap.size:=zc K
 rw[<-b9.out]at J
 have b5:=zh J
 have b4:Hid (G8 c k y sv B u.way):=by rw[c0.out];exact K
 have d4:=zh w
 have HC:=zh (neg8 b5.out b6.out b4.out b3.out)
 clear a7 a5 a8 a6 J K w R D U T a1 a0 a4 L
 generalize f.at'=at' at *
 have a2:Hid (∀i,Below d.heap.size d i->i.cell? ⟨fb,fs.length*14,none⟩=some (.pointer (some ⟨c.pb,0,none⟩))/\i.cell? ⟨fb,fs.length*14+1,none⟩=some (.int .i64 (at':Int))/\i.cell? ⟨c.pb,0,none⟩=some (.pointer (some ⟨c.ob,c.oo,none⟩))/\i.cell? ⟨c.ob,c.oo+6,none⟩=some (.slice (some ⟨eb,j,none⟩) c.O.code.length E)/\i.cell? ⟨eb,j+at'*3,none⟩=some (.int .i64 10)/\i.cell? ⟨eb,j+at'*3+1,none⟩=some (.int .i64 q)/\i.cell? ⟨eb,j+at'*3+2,none⟩=some (.int .i64 r)):=fun i g=>⟨(g.cell (p:=⟨fb,fs.length*14,none⟩) Z).trans x0,(g.cell (p:=⟨fb,fs.length*14+1,none⟩) Z).trans x1,(g.cell (p:=⟨c.pb,0,none⟩) b1).trans x2,(g.cell (p:=⟨c.ob,c.oo+6,none⟩) c2).trans k6,(g.cell (p:=⟨eb,j+at'*3,none⟩) N).trans e0,(g.cell (p:=⟨eb,j+at'*3+1,none⟩) N).trans e1,(g.cell (p:=⟨eb,j+at'*3+2,none⟩) N).trans e2⟩
 have b7:=zh (a2.out _ (zt d))
 have b8:Hid (∀o,(d.alloc o).drew.cell? ⟨fb,fs.length*14,none⟩=some (.pointer (some ⟨c.pb,0,none⟩))/\(d.alloc o).drew.cell? ⟨fb,fs.length*14+1,none⟩=some (.int .i64 (at':Int))/\(d.alloc o).drew.cell? ⟨c.pb,0,none⟩=some (.pointer (some ⟨c.ob,c.oo,none⟩))/\(d.alloc o).drew.cell? ⟨c.ob,c.oo+6,none⟩=some (.slice (some ⟨eb,j,none⟩) c.O.code.length E)/\(d.alloc o).drew.cell? ⟨eb,j+at'*3,none⟩=some (.int .i64 10)/\(d.alloc o).drew.cell? ⟨eb,j+at'*3+1,none⟩=some (.int .i64 q)/\(d.alloc o).drew.cell? ⟨eb,j+at'*3+2,none⟩=some (.int .i64 r)):=fun o=>a2.out _ (zb _ _).drew
 go_upto_region 1 with fail
 go_region_held3 (fun i=>i.cell? ⟨fb,fs.length*14,none⟩=some (.pointer (some ⟨c.pb,0,none⟩))/\i.cell? ⟨fb,fs.length*14+1,none⟩=some (.int .i64 (at':Int))/\i.cell? ⟨c.pb,0,none⟩=some (.pointer (some ⟨c.ob,c.oo,none⟩))/\i.cell? ⟨c.ob,c.oo+6,none⟩=some (.slice (some ⟨eb,j,none⟩) c.O.code.length E)/\i.cell? ⟨eb,j+at'*3,none⟩=some (.int .i64 10)/\i.cell? ⟨eb,j+at'*3+1,none⟩=some (.int .i64 q)/\i.cell? ⟨eb,j+at'*3+2,none⟩=some (.int .i64 r)) (with_reducible (first|exact b7.out|exact b8.out _)) (fail)
 rw[<-H]
 clear H x0 x1 e0 e1 e2 k6
 go_upto_region 3 with fail
 rw[<-I]
 clear I y0 y1
 go_wp2_with fail
 refine HC.out.mono ?_
 intro e w4 hq
 obtain⟨rfl,b0⟩:=hq
 have Y:Hid (StepP c (Vm.taken f.base u fun n s=>Vm.put (Tp.w64 (-n)) s) (.returned (.tuple #[])) w4):=⟨rfl,b0⟩
 clear b0
 go_wp2_with fail
 first|exact ze rfl rfl Y.out|exact bodyPost_ret (v:=.tuple #[]) (by simp[results,Tryz.results50,go_sem]) rfl Y.out
theorem MM.popf {j:Value}{i:Option Addr}{n cap:Nat}(h:MM c W s vv (.slice i n cap) sv j){f:Fr}{fs:List Fr}(d:s.frames=f :: fs):MM c W { s with frames:=fs } vv (.slice i fs.length cap) sv j:=by
 have a:=h.fr
 have b:=h.ff
 rw[d]at a b
 obtain⟨m,o,e⟩:=z7 a
 have k:n=(f :: fs).length:=by cases e;rfl
 rw[kA]at a
 have l:(frs c fs).length=fs.length*14:=uB c fs fun x g=>(b x (List.mem_cons_of_mem _ g)).ll
 exact⟨h.be,h.pk,h.vk,h.th,h.vn,h.vm,own_less a (by rw[k]) l (by simp),h.st,h.ou,h.dj,h.sl,h.si,h.ol,h.oi,by have:=h.fl;rw[d,List.length_cons]at this;show fs.length<=31;omega,by have:=h.fm;rw[d,List.length_cons]at this;show fs.length<=c.most;omega,fun x g=>b x (List.mem_cons_of_mem _ g),h.ek⟩
theorem leave_no (h:s.stack.length<=b):Vm.leave b s=Vm.ended 8 s:=by unfold Vm.leave;exact yk h
def leftS (n:Int) (r:List Int) (b:Nat) (s:St):St:={ s with stack:=n :: r.drop (r.length-b) }
theorem leave_yes {n:Int}{r:List Int}{f:Fr}{fs:List Fr}(c:s.stack=n :: r)(h:¬s.stack.length<=b)(a:s.frames=f :: fs):Vm.leave b s=if fs=[] then Vm.ended 1 (leftS n r b s) else { leftS n r b s with frames:=fs }:=by
 unfold Vm.leave
 rw[zR c h]
 cases s
 simp only at a
 subst a
 rfl
theorem leave8 {u w:Value}(h:MM c W s vv u sv w)(ok:VxOk c)(d:G8 c W u sv w s.way){f:Fr}{fs:List Fr}(E:s.frames=f :: fs) :
  Calls Tryz.prog 111 #[.pointer (some ⟨c.gb,0,none⟩)] W (StepP c (Vm.leave f.base s)):=by
 obtain⟨fb,cap,b1,e9,e0,c8⟩:=h.top E
 have T:=zh (take8 h ok d E)
 have c4:=zh h.si
 have c5:=zh h.sl
 have p:=zh ok
 have J:=zh E
 have a4:=zh b1
 have c9:(fs.length:Int)<=30:=by have:=h.fl;rw[E,List.length_cons]at this;omega
 clear h ok d E c8 b1
 go_enter Tryz.func111,Tryz.ntmps111
 go_wp2_with fail
 refine T.out.mono ?_
 intro e g B
 obtain⟨hk,B⟩:=B
 by_cases A:s.stack.length<=f.base
 ·rw[if_pos A]at B
  obtain⟨rfl,m,d⟩:=B
  have o:Hid (StepP c (Vm.leave f.base s) (.returned (.tuple #[])) g):=⟨rfl,by rw[leave_no A];exact m.mv8 d⟩
  clear hk m d A T
  go_wp2_with fail
  first|exact ze rfl rfl o.out|exact bodyPost_ret (v:=.tuple #[]) (by simp[results,Tryz.results111,go_sem]) rfl o.out
 ·rw[if_neg A]at B
  obtain⟨n,r,d6,L,rfl,m,d⟩:=B
  have d2:s.stack.length=r.length+1:=by rw[L];rfl
  have d3:s.stack.length<=10000:=c5.out
  obtain⟨k,sc,P⟩:=z7 m.st
  have P:d6=.slice k r.length sc:=P
  subst P
  have f3:r.length<=sc:=by
   rcases m.st.2 with⟨q,Y⟩|⟨_,_,_,q,_,_,Y,_⟩
   ·have:r.length=0:=Y
    omega
   ·simp only[Value.slice.injEq]at q
    have:r.length<=_:=Y
    omega
  have c7:f.base<=r.length:=by omega
  have a5:Hid (∀a,Below g.heap.size g a->Calls Tryz.prog 100 #[.pointer (some ⟨c.gb,0,none⟩)] a fun e U=>e=.returned (.pointer (some ⟨fb,fs.length*14,none⟩))/\Below a.heap.size a U):=fun a j=>last8 (m.below p.out d j) ((j.block _ (zc d)).trans d) J.out a4.out
  have K:Hid (∀a,Below g.heap.size g a->a.cell? ⟨c.gb,3,none⟩=some (.slice k r.length sc)/\a.frozen? ⟨c.gb,3,none⟩=false/\a.cell? ⟨fb,fs.length*14+2,none⟩=some (.int .i64 (f.base:Int))/\fb<a.heap.size/\c.gb<a.heap.size):=fun a j=>by
   have y:=(j.block _ (zc d)).trans d
   obtain⟨c6,d9,c1,b9,_,c0⟩:=(m.below p.out d j).top J.out
   have e:c6=fb:=by
    have:=a4.out.symm.trans c1
    simp only[Value.slice.injEq,Option.some.injEq,Addr.mk.injEq]at this
    exact this.1.1.symm
   subst e
   exact⟨(za y).trans rfl,zi y,c0 2 _ rfl,b9,zc y⟩
  have Q:Hid (∀a,Below g.heap.size g a->MM c (a.setCell ⟨c.gb,3,none⟩ (.slice k f.base sc)) { s with stack:=r.drop (r.length-f.base) } vv u (.slice k f.base sc) w/\G8 c (a.setCell ⟨c.gb,3,none⟩ (.slice k f.base sc)) u (.slice k f.base sc) w s.way):=fun a j=>by
   have d0:=m.below p.out d j
   have y:G8 c a u (.slice k r.length sc) w s.way:=(j.block _ (zc d)).trans d
   have hl:=d0.less (t:=r.take (r.length-f.base)) (r:=r.drop (r.length-f.base)) (by simp)
   have e:(r.drop (r.length-f.base)).length=f.base:=by rw[List.length_drop];omega
   rw[e]at hl
   exact⟨hl.gcell p.out y 3 _,zy 3 _ y⟩
  have S:Hid (∀x,MM c x { s with stack:=r.drop (r.length-f.base) } vv u (.slice k f.base sc) w->G8 c x u (.slice k f.base sc) w s.way->Calls Tryz.prog 101 #[.pointer (some ⟨c.gb,0,none⟩),.int .i64 n] x fun e U=>e=.returned (.tuple #[])/\MV c U (leftS n r f.base s)):=fun x I H=>(put8 I p.out H n (c4.out n (by rw[L];simp))).mono fun e w' ⟨a1,V⟩=>⟨a1,by
   have e:(r.drop (r.length-f.base)).length=f.base:=by rw[List.length_drop];omega
   unfold Vm.put at V
   rw[if_neg (by show ¬(r.drop (r.length-f.base)).length=10000;rw[e];omega)]at V
   exact V⟩
  have a7:Hid (Vm.leave f.base s=if fs=[] then Vm.ended 1 (leftS n r f.base s) else { leftS n r f.base s with frames:=fs }):=leave_yes L A J.out
  have a6:Hid ((leftS n r f.base s).frames=f :: fs):=J.out
  have e6:Hid ((leftS n r f.base s).way=s.way):=rfl
  obtain⟨k3,z3,k2,e1,c2⟩:=K.out g (Below.refl _ _)
  have R:Hid (Below g.heap.size g g.drew):=zt g
  clear hk m d A T L d2 d3
  generalize leftS n r f.base s=t at *
  obtain⟨a8,N⟩:∃b,b=f.base:=⟨_,rfl⟩
  rw[<-N]at K Q S k2 c7
  have e8:(a8:Int)<=(sc:Int):=by omega
  have f2:(r.length:Int)<=(sc:Int):=by omega
  have e5:=zh N
  clear N
  generalize b5:r.length=rl at *
  generalize b0:fs.length=q at *
  have G:=zh (And.intro b5 b0)
  clear b5 b0
  go_wp2_with fail
  go_region_law (first|(refine yj rfl ?_;go_simp;go_at_call 100;refine(a5.out _ R.out).mono ?_;rintro e a ⟨rfl,a9⟩;have a0:Hid (Below g.heap.size g a):=R.out.trans (a9.mono R.out.size);obtain⟨d5,d8,d4,e2,c3⟩:=K.out a a0.out;clear a9))
  all_goals
   obtain⟨I,H⟩:=Q.out a a0.out
   have F:=zh (S.out _ I H)
   obtain⟨x,b6⟩:∃x,x=a.setCell ⟨c.gb,3,none⟩ (.slice k a8 sc):=⟨_,rfl⟩
   rw[<-b6]at F ⊢
   clear b6 I H Q S K a5 k3 z3 k2 d5 d8 d4 c2 c3
   go_wp2_with fail
   refine F.out.mono ?_
   intro e l d1
   obtain⟨rfl,d7,e7,b8,b7,z,i⟩:=d1
   obtain⟨X,D,Z⟩:=z7 z.fr
   have O:t.frames.length=q+1:=by rw[a6.out,List.length_cons,G.out.2]
   rw[O]at Z
   subst Z
   have k1:l.cell? ⟨c.gb,1,none⟩=some (.slice X (q+1) D):=(za i).trans rfl
   have k5:l.cell? ⟨c.gb,5,none⟩=some (.int .i64 (t.way:Int)):=(za i).trans rfl
   have z5:l.frozen? ⟨c.gb,5,none⟩=false:=zi i
   have z1:l.frozen? ⟨c.gb,1,none⟩=false:=zi i
   have e4:c.gb<l.heap.size:=zc i
   have e3:q+1<=D:=by
    rcases z.fr.2 with⟨e,e'⟩|⟨_,_,_,e,_,_,e',_⟩
    ·omega
    ·simp only[Value.slice.injEq]at e
     omega
   by_cases C:fs=[]
   ·have b4:q=0:=by rw[<-G.out.2,C];rfl
    have o:Hid (StepP c (Vm.leave f.base s) (.returned (.tuple #[])) (l.setCell ⟨c.gb,5,none⟩ (.int .i64 1))):=⟨rfl,by rw[a7.out,if_pos C];exact MV.end z p.out i 1⟩
    clear z i C F O
    subst b4
    generalize (t.way:Int)=wy at *
    go_wp2_with fail
    first|exact ze rfl rfl o.out|exact bodyPost_ret (v:=.tuple #[]) (by simp[results,Tryz.results111,go_sem]) rfl o.out
   ·have b4:¬((q:Int)+1=1):=by
     have:fs.length≠0:=fun e=>C (List.eq_nil_of_length_eq_zero e)
     have:=G.out.2
     omega
    have a3:Hid (∀M,Below l.heap.size l M->StepP c (Vm.leave f.base s) (.returned (.tuple #[])) (M.setCell ⟨c.gb,1,none⟩ (.slice X q D))):=fun M j=>⟨rfl,by
     rw[a7.out,if_neg C]
     have b3:=(z.below p.out i j).popf a6.out
     rw[G.out.2]at b3
     have b2:G8 c M (.slice X (q+1) D) b8 b7 t.way:=(j.block _ (zc i)).trans i
     exact⟨d7,_,b8,b7,b3.gcell p.out b2 1 _,zy 1 _ b2⟩⟩
    have o:=zh (a3.out l.drew (zt l))
    have f0:(q:Int)<=(D:Int):=by omega
    have f1:(q:Int)<=30:=c9
    have f4:IntKind.i64.wrap (q:Int)=(q:Int):=wrap_small _ (by omega) (by omega)
    clear z i C F O k5 z5 a3
    go_wp2_with fail
    go_region_law (fail)
    all_goals
     go_wp2_with fail
     first|exact ze rfl rfl o.out|exact bodyPost_ret (v:=.tuple #[]) (by simp[results,Tryz.results111,go_sem]) rfl o.out
end Go.Proofs.YtbkndnmglhghlaaGreatDoor.Jo
