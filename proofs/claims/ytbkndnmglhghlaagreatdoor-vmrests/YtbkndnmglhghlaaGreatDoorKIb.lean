import Derived.Test.YtbkndnmglhghlaaGreatDoorKIa
set_option maxRecDepth 100000
set_option maxHeartbeats 4000000

namespace Go.Proofs.YtbkndnmglhghlaaGreatDoor.Jo
open Go.RowKit Go.Maps
open Ob (O In I64)
open Vm (St Fr Pl)
variable {f:Fr}{vv:List (List Int)}{l:List Int}{k:List Int->St->St}{a b n:Nat}{s:St}{g sv:Value}{c:Vx}{W:World}
theorem own_set {w:World}{e size g cap j:Nat}{v:Value}{xs:List Value}(h:w.ownsRow b e size v n xs)(a:v=.slice (some ⟨g,0,none⟩) n cap)(u:Value):(w.setCell ⟨g,j,none⟩ u).ownsRow b e size v n (xs.set j u):=by
 refine⟨by rw[List.length_set];exact h.1,?_⟩
 rcases h.2 with⟨q,_⟩|⟨g',cap',cur,q,q1,q2,q3,q4,q5,q6⟩
 ·rw[a]at q;cases q
 ·rw[a]at q
  simp only[Value.slice.injEq,Option.some.injEq,Addr.mk.injEq]at q
  obtain⟨⟨rfl,_,_⟩,_,rfl⟩:=q
  refine Or.inr ⟨g,cap,_,a,q1,zy j u q2,q3,q4,by simpa using q5,?_⟩
  rw[Array.toList_setIfInBounds,List.take_set,q6]
theorem MM.frset {p:Value}{w:Nat}(h:MM c W s vv g sv p)(z:G8 c W g sv p w){f f':Fr}{fs:List Fr}(v:s.frames=f :: fs){fb cap:Nat}(A:g=.slice (some ⟨fb,0,none⟩) (fs.length+1) cap)(j:Nat)(u:Value)(C:FrOk c f')(t:frC c f'=(frC c f).set j u) :
  MM c (W.setCell ⟨fb,fs.length*14+j,none⟩ u) (Vm.going f' fs s) vv g sv p/\G8 c (W.setCell ⟨fb,fs.length*14+j,none⟩ u) g sv p w:=by
 have a:=h.fr
 have r:=h.ff
 rw[v]at a r
 have k:g.ownBlock=some fb:=by rw[A];rfl
 have d:∀b,b≠fb->(W.setCell ⟨fb,fs.length*14+j,none⟩ u).heap[b]?=W.heap[b]?:=fun b l=>Below.heap_setCell _ _ _ _ (by simpa using l)
 have n:∀{b e:Nat} {cs:Array Value},W.heap[b]?=some (.cells cs e (0,0))->81≠e->b≠fb:=fun {b e cs} h1 h2 q=>ym a h1 h2 (q ▸ k)
 have G:(frs c fs).length=fs.length*14:=uB c fs fun x m=>(r x (List.mem_cons_of_mem _ m)).ll
 have B:c.w0.heap.size<=fb:=(a.lt fb k).1
 refine⟨⟨h.be.setCell B _,(d _ (n h.pk (by decide))).trans h.pk,yD h.vk fun b H _ t=>d b (n t (by decide)),h.th,h.vn,fun i F=>?_,?_,?_,?_,h.dj,h.sl,h.si,h.ol,h.oi,?_,?_,fun x m=>?_,fun b o l=>⟨(d b fun q=>xL a (h.ek b o l) (by unfold Wet;decide) (by rw[q];exact k)).trans (h.ek b o l).1,(h.ek b o l).2⟩⟩,(d _ (n z (by decide))).trans z⟩
 ·obtain⟨D,y,E⟩:=h.vm i F
  exact⟨D,(d _ (n y (by decide))).trans y,E⟩
 ·have e:frs c (f' :: fs)=(frs c (f :: fs)).set (fs.length*14+j) u:=by
   rw[kA,kA,List.set_append_right _ _ (by omega),G,Nat.add_sub_cancel_left,t]
  show World.ownsRow _ _ _ _ _ (f' :: fs).length (frs c (f' :: fs))
  rw[e]
  exact own_set a A u
 ·exact zB h.st fun b _ _ q=>d b fun e=>jf h.st a (by decide) (e ▸ q) k
 ·exact zB h.ou fun b _ _ q=>d b fun e=>jf h.ou a (by decide) (e ▸ q) k
 ·have:=h.fl
  rw[v]at this
  exact this
 ·have:=h.fm
  rw[v]at this
  exact this
 ·rcases List.mem_cons.1 m with rfl|m
  ·exact C
  ·exact r x (List.mem_cons_of_mem _ m)
theorem vD (c:Vx)(f:Fr)(k:Nat)(n:Int):frC c { f with locals:=f.locals.set k n }=(frC c f).set (k+4) (.int .i64 n):=by
 simp[frC,ints_set]
theorem uC (c:Vx)(f:Fr)(k:Nat)(a:k<f.locals.length):(frC c f)[k+4]?=some (.int .i64 f.locals[k]):=by
 simp[frC,ints,a]
theorem frOk_local (h:FrOk c f)(k:Nat){n:Int}(a:I64 n):FrOk c { f with locals:=f.locals.set k n } :=
 ⟨h.of,by rw[List.length_set];exact h.ll,fun v b=>(List.mem_or_eq_of_mem_set b).elim (h.li v) (fun e=>e ▸ a),h.mn,h.at',h.bs⟩
def localF (op:Nat) (k:Nat) (f:Fr) (fs:List Fr) (s:St):St:=if f.many<=k then Vm.ended 8 s else if op=3 then Vm.put (f.locals.getD k 0) s else Vm.taken f.base s fun n s=>Vm.going { f with locals:=f.locals.set k n } fs s
theorem local8 {t x:Value}(h:MM c W s vv t sv x)(ok:VxOk c)(X:G8 c W t sv x s.way){f:Fr}{fs:List Fr}(N:s.frames=f :: fs)(op k:Nat)(c8:op=3\/op=4)(F:k<10)(b:Int) :
  Calls Tryz.prog 103 #[.pointer (some ⟨c.gb,0,none⟩),.agg #[.int .i64 (op:Int),.int .i64 (k:Int),.int .i64 b]] W (StepP c (localF op k f fs s)):=by
 obtain⟨fb,cap,a2,a0,d1,a1⟩:=h.top N
 have T:=h.ff f (by rw[N];simp)
 have b0:=zc X
 obtain⟨j,V⟩:∃j,j=W.alloc (.cells #[.int .i64 (op:Int),.int .i64 (k:Int),.int .i64 b] 138):=⟨_,rfl⟩
 have I:Below W.heap.size W j:=by rw[V];exact zb _ _
 have a3:j.heap[W.heap.size]?=some (.cells #[.int .i64 (op:Int),.int .i64 (k:Int),.int .i64 b] 138 (0,0)):=by rw[V];exact zl _ _
 have b1:W.heap.size<j.heap.size:=zc a3
 have h0:=h.below ok X I
 have M:G8 c j t sv x s.way:=(I.block _ b0).trans X
 have R:=zh (last8 h0 M N a2)
 have L:Hid (∀a,Below j.heap.size j a->a.cell? ⟨W.heap.size,0,none⟩=some (.int .i64 (op:Int))/\a.cell? ⟨W.heap.size,1,none⟩=some (.int .i64 (k:Int))/\a.cell? ⟨fb,fs.length*14+3,none⟩=some (.int .i64 (f.many:Int))/\a.cell? ⟨fb,fs.length*14+4+k,none⟩=some (.int .i64 (f.locals.getD k 0))/\W.heap.size<a.heap.size/\fb<a.heap.size):=fun a i=>by
  have e:=(i.block _ b1).trans a3
  have hW:=I.trans (i.mono I.size)
  have C:k<f.locals.length:=by rw[T.ll];exact F
  have O:f.locals.getD k 0=f.locals[k]:=by rw[List.getD_eq_getElem?_getD,List.getElem?_eq_getElem C];rfl
  exact⟨(za e).trans rfl,(za e).trans rfl,(hW.cell (p:=⟨fb,fs.length*14+3,none⟩) a0).trans (a1 3 _ rfl),by rw[O,Nat.add_assoc,Nat.add_comm 4 k];exact(hW.cell (p:=⟨fb,fs.length*14+(k+4),none⟩) a0).trans (a1 (k+4) _ (uC c f k C)),Nat.lt_of_lt_of_le b1 i.size,Nat.lt_of_lt_of_le a0 hW.size⟩
 have HM:Hid (∀a,Below j.heap.size j a->MM c a s vv t sv x/\G8 c a t sv x s.way):=fun a i=>⟨h0.below ok M i,(i.block _ (zc M)).trans M⟩
 have b7:=zh b0
 have A:=zh ok
 have HF:=zh N
 have Q:=zh T
 have a7:=zh a2
 have d5:(k:Int)<10:=by omega
 have c7:(f.many:Int)<=10:=by have:=T.mn;omega
 clear h ok X N a1 T I a3 h0 M a2
 obtain⟨many,Z⟩:∃m,m=f.many:=⟨_,rfl⟩
 obtain⟨q,O⟩:∃q,q=fs.length:=⟨_,rfl⟩
 rw[<-Z]at L c7
 rw[<-O]at R L
 have K:=zh (And.intro Z O)
 clear Z O
 go_enter Tryz.func103,Tryz.ntmps103
 go_upto_region 1 with fail
 rw[<-V]
 clear V
 go_wp2_with fail
 refine R.out.mono ?_
 rintro e a⟨rfl,S⟩
 obtain⟨x0,x1,x3,Y,a6,c4⟩:=L.out a S
 obtain⟨U,y⟩:=HM.out a S
 by_cases d6:many<=k
 ·have b6:(many:Int)<=(k:Int):=by omega
  have b3:Hid (∀d,Below a.heap.size a d->StepP c (localF op k f fs s) (.returned (.tuple #[])) (d.setCell ⟨c.gb,5,none⟩ (.int .i64 8))/\d.cell? ⟨c.gb,5,none⟩=some (.int .i64 (s.way:Int))/\d.frozen? ⟨c.gb,5,none⟩=false/\c.gb<d.heap.size):=fun d i=>by
   have z:=U.below A.out y i
   have o:G8 c d t sv x s.way:=(i.block _ (zc y)).trans y
   refine⟨⟨rfl,?_⟩,(za o).trans rfl,zi o,zc o⟩
   unfold localF
   rw[if_pos (by have:=K.out.1;omega)]
   exact MV.end z A.out o 8
  clear U y HM Y R
  generalize (s.way:Int)=wy at *
  go_wp2_with fail
  go_quiet (fail)
  obtain⟨H,k5,z5,d3⟩:=b3.out (a.drewN nq) (below_drewN a nq)
  have l:=zh H
  clear H
  go_wp2_with fail
  first|exact ze rfl rfl l.out|exact bodyPost_ret (v:=.tuple #[]) (by simp[results,Tryz.results103,go_sem]) rfl l.out
 ·have b6:¬(many:Int)<=(k:Int):=by omega
  have c1:Hid (∀d,Below a.heap.size a d->MM c d s vv t sv x/\G8 c d t sv x s.way/\Below j.heap.size j d):=fun d i=>⟨U.below A.out y i,(i.block _ (zc y)).trans y,S.trans (i.mono S.size)⟩
  clear U y HM Y R
  go_wp2_with fail
  go_quiet (fail)
  obtain⟨z,o,a9⟩:=c1.out (a.drewN nq) (below_drewN a nq)
  obtain⟨d,b2⟩:∃d,d=a.drewN nq:=⟨_,rfl⟩
  rw[<-b2]at z o a9 ⊢
  clear b2
  obtain⟨x0,x1,x3,Y,a6,c4⟩:=L.out d a9
  rcases c8 with rfl|rfl
  ·have hi:I64 (f.locals.getD k 0):=by
    have C:k<f.locals.length:=by rw[Q.out.ll];exact F
    rw[List.getD_eq_getElem?_getD,List.getElem?_eq_getElem C]
    exact Q.out.li _ (List.getElem_mem C)
   have HP:Hid (∀g,Below d.heap.size d g->Calls Tryz.prog 101 #[.pointer (some ⟨c.gb,0,none⟩),.int .i64 (f.locals.getD k 0)] g fun e W'=>e=.returned (.tuple #[])/\StepP c (localF 3 k f fs s) (.returned (.tuple #[])) W'):=fun g i=>(put8 (z.below A.out o i) A.out ((i.block _ (zc o)).trans o) _ hi).mono fun e w' ⟨u,h2⟩=>⟨u,rfl,by
    unfold localF
    rw[if_neg (by have:=K.out.1;omega),if_pos rfl]
    exact h2⟩
   have b9:=zh (HP.out _ (zt d))
   have b8:=zh (HP.out _ (Below.refl _ _))
   generalize f.locals.getD k 0=lv at *
   clear z o hi HP
   go_wp2_with fail
   go_region_law (first|(refine yj rfl ?_;go_simp;go_at_call 101;refine b9.out.mono ?_;rintro e g ⟨rfl,P⟩;have l:=zh P;clear P)|(refine yj rfl ?_;go_simp;go_at_call 101;refine b8.out.mono ?_;rintro e g ⟨rfl,P⟩;have l:=zh P;clear P))
   all_goals
    go_wp2_with fail
    first|exact ze rfl rfl l.out|exact bodyPost_ret (v:=.tuple #[]) (by simp[results,Tryz.results103,go_sem]) rfl l.out
  ·have HT:=zh (take8 z A.out o HF.out)
   have c6:W.heap.size≠c.gb:=by have:=L.out j (Below.refl _ _);have u:=b7.out;omega
   have c2:Hid (∀g,Kg c d g->g.cell? ⟨W.heap.size,1,none⟩=some (.int .i64 (k:Int))/\W.heap.size<g.heap.size):=fun g F=>⟨(World.cell?_of_block (w:=d) (F.block _ a6 c6)).trans x1,Nat.lt_of_lt_of_le a6 F.be.size⟩
   have c0:=zh z.si
   clear z o Y
   go_wp2_with fail
   refine HT.out.mono ?_
   intro e g E
   obtain⟨a4,E⟩:=E
   obtain⟨d8,d4⟩:=c2.out g a4
   by_cases u:s.stack.length<=f.base
   ·rw[if_pos u]at E
    obtain⟨rfl,J,B⟩:=E
    have l:Hid (StepP c (localF 4 k f fs s) (.returned (.tuple #[])) g):=⟨rfl,by
     unfold localF
     rw[if_neg (by have:=K.out.1;omega),if_neg (by decide),yk u]
     exact J.mv8 B⟩
    clear a4 J B u HT
    go_wp2_with fail
    first|exact ze rfl rfl l.out|exact bodyPost_ret (v:=.tuple #[]) (by simp[results,Tryz.results103,go_sem]) rfl l.out
   ·rw[if_neg u]at E
    obtain⟨n,r,c9,hs,rfl,J,B⟩:=E
    have hn:I64 n:=c0.out n (by rw[hs];simp)
    have a8:Hid (∀G,Below g.heap.size g G->StepP c (localF 4 k f fs s) (.returned (.tuple #[])) (G.setCell ⟨fb,q*14+4+k,none⟩ (.int .i64 n))/\G.frozen? ⟨fb,q*14+4+k,none⟩=false/\∃v,G.cell? ⟨fb,q*14+4+k,none⟩=some v):=fun G i=>by
     have a5:=J.below A.out B i
     have c5:G8 c G t c9 x s.way:=(i.block _ (zc B)).trans B
     obtain⟨f1,f2⟩:=a5.frset c5 (f':={ f with locals:=f.locals.set k n }) HF.out a7.out (k+4) (.int .i64 n) (frOk_local Q.out k hn) (vD c f k n)
     obtain⟨c3,d0,D,_,_,b5⟩:=a5.top HF.out
     have C:k<f.locals.length:=by rw[Q.out.ll];exact F
     have b4:c3=fb:=by
      have:=a7.out.symm.trans D
      simp only[Value.slice.injEq,Option.some.injEq,Addr.mk.injEq]at this
      exact this.1.1.symm
     subst b4
     rw[K.out.2,Nat.add_assoc,Nat.add_comm 4 k]
     refine⟨⟨rfl,?_⟩,?_,_,b5 (k+4) _ (uC c f k C)⟩
     ·unfold localF
      rw[if_neg (by have:=K.out.1;omega),if_neg (by decide),zR hs u]
      exact⟨_,_,_,_,f1,f2⟩
     ·rcases a5.fr.2 with⟨e,_⟩|⟨g',cp',cur',e,_,hh,_⟩
      ·rw[e]at D;cases D
      ·rw[e]at D
       simp only[Value.slice.injEq,Option.some.injEq,Addr.mk.injEq]at D
       rw[<-D.1.1]
       exact zi hh
    obtain⟨H,zz,v0,kk⟩:=a8.out g.drew (zt g)
    have l:=zh H
    have d2:fb<g.heap.size:=zg kk
    clear a4 J B u HT H a8 hs
    have d7:g.cell? ⟨fb,q*14+4+k,none⟩=some v0:=kk
    have d9:g.frozen? ⟨fb,q*14+4+k,none⟩=false:=zz
    go_wp2_with fail
    go_region_law (fail)
    all_goals
     go_wp2_with fail
     first|exact ze rfl rfl l.out|exact bodyPost_ret (v:=.tuple #[]) (by simp[results,Tryz.results103,go_sem]) rfl l.out
def zeros (n:Nat):List Int:=List.replicate n 0
def frV (c:Vx) (f:Fr):Value:=.agg (frC c f).toArray
theorem entry8 (ok:VxOk c)(e:Below c.w0.heap.size c.w0 W){i:Nat}(g:i<c.O.procs.length):∃b o d,W.cell? ⟨c.ob,c.oo+4,none⟩=some (.slice (some ⟨b,o,none⟩) c.O.procs.length d)/\b<W.heap.size/\c.ob<W.heap.size/\W.cell? ⟨b,o+i*3,none⟩=some (.int .i64 c.O.procs[i].at')/\W.cell? ⟨b,o+i*3+1,none⟩=some (.int .i64 c.O.procs[i].args)/\W.cell? ⟨b,o+i*3+2,none⟩=some (.int .i64 c.O.procs[i].locals):=by
 obtain⟨q,r,t,n,l,j,sc,s,u,d,m,k,h⟩:=ok.oa.below e
 obtain⟨b,o,rfl,f,a⟩:=Sl.at' xO (by omega) h.p i g
 exact⟨b,o,d,by simpa using h.c4,f,zg h.c4,a 0 _ rfl,by simpa[Nat.add_assoc] using a 1 _ rfl,by simpa[Nat.add_assoc] using a 2 _ rfl⟩
theorem entered8 {r w:Value}(h:MM c W s vv r sv w)(ok:VxOk c){i:Nat}(u:i<c.O.procs.length)(at' many:Nat)(f:c.O.procs[i].at'=(at':Int))(k:c.O.procs[i].locals=(many:Int)) :
  Calls Tryz.prog 47 #[.pointer (some ⟨c.pb,0,none⟩),.int .i64 (i:Int)] W fun e n=>e=.returned (frV c ⟨c.O.name,at',0,many,zeros 10⟩)/\Below W.heap.size W n:=by
 obtain⟨b,o,E,C,B,y,p,A,q⟩:=entry8 ok h.be u
 rw[f]at p
 rw[k]at q
 have D:W.cell? ⟨c.pb,0,none⟩=some (.pointer (some ⟨c.ob,c.oo,none⟩)):=(za h.pk).trans rfl
 have z:=zc h.pk
 have x:(i:Int)<(c.O.procs.length:Int):=by omega
 clear h ok f k
 generalize c.O.procs[i].args=ar at *
 generalize c.O.procs.length=pn at *
 go_enter Tryz.func47,Tryz.ntmps47
 have l:frV c ⟨c.O.name,at',0,many,zeros 10⟩=.agg #[.pointer (some ⟨c.pb,0,none⟩),.int .i64 (at':Int),.int .i64 0,.int .i64 (many:Int),.int .i64 0,.int .i64 0,.int .i64 0,.int .i64 0,.int .i64 0,.int .i64 0,.int .i64 0,.int .i64 0,.int .i64 0,.int .i64 0]:=rfl
 rw[l]
 obtain⟨a,d⟩:∃a,a=(W.alloc (.cells #[.pointer (some ⟨c.pb,0,none⟩),.int .i64 (at':Int),.int .i64 0,.int .i64 (many:Int),.int .i64 0,.int .i64 0,.int .i64 0,.int .i64 0,.int .i64 0,.int .i64 0,.int .i64 0,.int .i64 0,.int .i64 0,.int .i64 0] 81)).alloc (.cells #[.int .i64 (at':Int),.int .i64 ar,.int .i64 (many:Int)] 112):=⟨_,rfl⟩
 have m:Hid (Below W.heap.size W a):=by rw[d];exact(zb _ _).alloc (by simp) _
 have g:a.heap[W.heap.size]?=some (.cells #[.pointer (some ⟨c.pb,0,none⟩),.int .i64 (at':Int),.int .i64 0,.int .i64 (many:Int),.int .i64 0,.int .i64 0,.int .i64 0,.int .i64 0,.int .i64 0,.int .i64 0,.int .i64 0,.int .i64 0,.int .i64 0,.int .i64 0] 81 (0,0)):=by rw[d];exact(Below.heap_alloc _ _ _ (by simp)).trans (zl _ _)
 have t:∀j,a.cell? ⟨W.heap.size,j,none⟩=(#[.pointer (some ⟨c.pb,0,none⟩),.int .i64 (at':Int),.int .i64 0,.int .i64 (many:Int),.int .i64 0,.int .i64 0,.int .i64 0,.int .i64 0,.int .i64 0,.int .i64 0,.int .i64 0,.int .i64 0,.int .i64 0,.int .i64 0]:Array Value)[j]?:=fun j=>za g
 clear g l
 go_wp2_with fail
 rw[<-d]
 exact bodyPost_ret (v:=.agg #[.pointer (some ⟨c.pb,0,none⟩),.int .i64 (at':Int),.int .i64 0,.int .i64 (many:Int),.int .i64 0,.int .i64 0,.int .i64 0,.int .i64 0,.int .i64 0,.int .i64 0,.int .i64 0,.int .i64 0,.int .i64 0,.int .i64 0]) (by simp[results,Tryz.results47,go_sem,t]) rfl ⟨rfl,m.out⟩
theorem ent8 (ok:VxOk c){i:Nat}(b:i<c.O.procs.length):∃a r m:Nat,c.O.procs[i].at'=(a:Int)/\c.O.procs[i].args=(r:Int)/\c.O.procs[i].locals=(m:Int)/\a<c.O.code.length/\r<=m/\m<=10:=by
 have h:=ok.rt
 unfold Ob.rightB Ob.procsB at h
 simp only[Bool.and_eq_true]at h
 obtain⟨_,⟨d,_⟩,_⟩:=h
 have:=(Ob.allB_le d).2 _ (List.getElem_mem b)
 unfold Ob.entB at this
 simp only[Bool.and_eq_true,decide_eq_true_eq,Ob.countsB]at this
 obtain⟨⟨e,f⟩,g,j,k⟩:=this
 exact⟨c.O.procs[i].at'.toNat,c.O.procs[i].args.toNat,c.O.procs[i].locals.toNat,by omega,by omega,by omega,by omega,by omega,by omega⟩
theorem zV (ok:VxOk c):c.O.code.length<=4000:=by
 have h:=ok.rt
 unfold Ob.rightB Ob.codeB at h
 simp only[Bool.and_eq_true]at h
 exact(Ob.allB_le h.2.2.1).1
theorem MM.fbox {f l:Value}{m x:Nat}{w:Array Value}(h:MM c W s vv f sv l)(p:G8 c W f sv l m)(g:W.heap[x]?=some (.cells w 81 (0,0)))(r:f.ownBlock≠some x)(d:c.w0.heap.size<=x)(j:Nat)(u:Value):MM c (W.setCell ⟨x,j,none⟩ u) s vv f sv l/\G8 c (W.setCell ⟨x,j,none⟩ u) f sv l m:=by
 have a:∀b,b≠x->(W.setCell ⟨x,j,none⟩ u).heap[b]?=W.heap[b]?:=fun b d=>Below.heap_setCell _ _ _ _ (by simpa using d)
 have k:∀{b e:Nat} {cs':Array Value},W.heap[b]?=some (.cells cs' e (0,0))->e≠81->b≠x:=fun {b e cs'} h1 h2 q=>by
  rw[q,g]at h1
  injection h1 with h1
  injection h1 with _ h1
  exact h2 h1.symm
 refine⟨⟨h.be.setCell d _,(a _ (k h.pk (by decide))).trans h.pk,yD h.vk fun b A _ y=>a b (k y (by decide)),h.th,h.vn,fun i z=>?_,?_,?_,?_,h.dj,h.sl,h.si,h.ol,h.oi,h.fl,h.fm,h.ff,fun b o d=>⟨(a _ (jD (h.ek b o d) g (by unfold Wet;decide))).trans (h.ek b o d).1,(h.ek b o d).2⟩⟩,(a _ (k p (by decide))).trans p⟩
 ·obtain⟨t,n,v⟩:=h.vm i z
  exact⟨t,(a _ (k n (by decide))).trans n,v⟩
 ·exact zB h.fr fun b _ _ q=>a b fun e=>r (e ▸ q)
 ·exact zB h.st fun b _ _ q=>a b fun e=>ym h.st g (by decide) (e ▸ q)
 ·exact zB h.ou fun b _ _ q=>a b fun e=>ym h.ou g (by decide) (e ▸ q)
theorem MM.pushf {G d:World}{j q:Value}{z:Nat}(h:MM c W s vv j sv q)(ok:VxOk c)(m:G8 c W j sv q z)(a:Below W.heap.size W G)(S:s.frames.length<c.most)(O:FrOk c f)
  (E:d.ownsRow c.w0.heap.size 81 14 g (s.frames.length+1) (frs c s.frames++frC c f))(F:G.grownBy d j.ownBlock) :
  MM c (d.setCell ⟨c.gb,1,none⟩ g) { s with frames:=f :: s.frames } vv g sv q/\G8 c (d.setCell ⟨c.gb,1,none⟩ g) g sv q z:=by
 have J:=zc m
 have y:=a.size
 have D:∀b,b<W.heap.size->j.ownBlock≠some b->d.heap[b]?=W.heap[b]?:=fun b n r=>(F.block b (Nat.lt_of_lt_of_le n y) (fun e=>r e.symm)).trans (a.block b n)
 have p:∀{b e:Nat} {cs:Array Value},W.heap[b]?=some (.cells cs e (0,0))->81≠e->j.ownBlock≠some b:=fun {b e cs} h1 h2=>ym h.fr h1 h2
 have A:d.heap[c.gb]?=W.heap[c.gb]?:=D _ J (p m (by decide))
 have l:∀b,b<W.heap.size->b≠c.gb->j.ownBlock≠some b->(d.setCell ⟨c.gb,1,none⟩ g).heap[b]?=W.heap[b]?:=fun b n K r=>(Below.heap_setCell _ _ _ _ (by simpa using K)).trans (D b n r)
 have I:Below c.w0.heap.size c.w0 d:=(h.be.trans (a.mono h.be.size)).grown F (Nat.le_trans h.be.size y) (fun k P=>(h.fr.lt k P).1)
 refine⟨⟨I.setCell ok.gb _,(l _ (zc h.pk) ok.pb.2 (p h.pk (by decide))).trans h.pk,yD h.vk fun b R H B=>l b (zc B) (H ▸ ok.vb.2) (p B (by decide)),h.th,h.vn,fun i C=>?_,?_,?_,?_,h.dj,h.sl,h.si,h.ol,h.oi,by show (f :: s.frames).length<=31;simp only[List.length_cons];have:=ok.ml;omega,by show (f :: s.frames).length<=c.most;simp only[List.length_cons];omega,fun x w=>?_,fun b o a=>⟨(l _ (jo (h.ek b o a).1) (jD (h.ek b o a) m (by unfold Wet;decide)) (xL h.fr (h.ek b o a) (by unfold Wet;decide))).trans (h.ek b o a).1,(h.ek b o a).2⟩⟩,zy 1 g (A.trans m)⟩
 ·obtain⟨L,v,M⟩:=h.vm i C
  have T:=ok.vs i (by rw[<-h.vn];exact C)
  exact⟨L,(l _ (zc v) (by omega) (p v (by decide))).trans v,M⟩
 ·show World.ownsRow _ _ _ _ _ (f :: s.frames).length (frs c (f :: s.frames))
  rw[kA,List.length_cons]
  refine zB E fun b _ U Q=>Below.heap_setCell _ _ _ _ ?_
  intro e
  have N:b=c.gb:=e
  exact ym E (A.trans m) (by decide) (N ▸ Q)
 ·exact zB h.st fun b q0 t u=>l b t (by omega) (jf h.st h.fr (by decide) u)
 ·exact zB h.ou fun b q0 t u=>l b t (by omega) (jf h.ou h.fr (by decide) u)
 ·rcases List.mem_cons.1 w with rfl|w
  ·exact O
  ·exact h.ff x w
theorem takes_succ {r:List Int}{v:Int}(b:s.stack=v :: r)(h:¬s.stack.length<=a):Vm.takes a (n+1) l s k=Vm.takes a n (v :: l) { s with stack:=r } k:=by
 rw[Vm.takes,zR b h]
theorem takes_no (h:s.stack.length<=a):Vm.takes a (n+1) l s k=Vm.ended 8 s:=by
 rw[Vm.takes,yk h]
theorem Tryz.infoFrame:(Tryz.prog.info? 81).map (fun i=>(i.zero,i.size,i.bytes))=some (some (.agg #[.pointer none,.int .i64 0,.int .i64 0,.int .i64 0,.int .i64 0,.int .i64 0,.int .i64 0,.int .i64 0,.int .i64 0,.int .i64 0,.int .i64 0,.int .i64 0,.int .i64 0,.int .i64 0]),14,112):=by kernel_rfl
def locs (ar:Nat) (l:List Int):List Int:=zeros (ar-l.length)++l++zeros (10-ar)
theorem xA (h:l.length<=a)(b:a<=10):(locs a l).length=10:=by simp[locs,zeros];omega
theorem locs_nil (b:a<=10):locs a []=zeros 10:=by
 simp only[locs,zeros,List.length_nil,Nat.sub_zero,List.append_nil,List.replicate_append_replicate]
 rw[show a+(10-a)=10 by omega]
theorem locs_cons (h:l.length<a)(v:Int):locs a (v :: l)=(locs a l).set (a-1-l.length) v:=by
 unfold locs zeros
 rw[List.append_assoc,List.append_assoc,show a-l.length=(a-(l.length+1))+1 by omega,List.replicate_succ',List.append_assoc,List.set_append_right _ _ (by simp;omega)]
 simp[show a-1-l.length-(a-(l.length+1))=0 by omega]
theorem locs_in (h:∀v∈l,I64 v):∀v∈locs b l,I64 v:=by
 intro v a
 unfold locs zeros at a
 rcases List.mem_append.1 a with a|a
 ·rcases List.mem_append.1 a with a|a
  ·rw[(List.mem_replicate.1 a).2];unfold I64;omega
  ·exact h v a
 ·rw[(List.mem_replicate.1 a).2];unfold I64;omega
def frI (c:Vx) (a b m ar:Nat) (l:List Int):Fr:=⟨c.O.name,a,b,m,locs ar l⟩
theorem ten (h:l.length=10):∃v0 v1 v2 v3 v4 v5 v6 v7 v8 v9,l=[v0,v1,v2,v3,v4,v5,v6,v7,v8,v9]:=by
 match l,h with
 |[a,b,c,d,e,f,g,h,i,j],_=>exact⟨a,b,c,d,e,f,g,h,i,j,rfl⟩
structure IL (c:Vx) (s:St) (base:Nat) (vv:List (List Int)) (fv ov:Value) (a m ar x:Nat) (K:List Int->St->St) (j:Nat) (w:World):Prop where
 ex:∃(l r:List Int) (sv':Value),l.length=j/\Vm.takes base ar [] s K=Vm.takes base (ar-j) l { s with stack:=r } K/\MM c w { s with stack:=r } vv fv sv' ov/\G8 c w fv sv' ov s.way/\w.heap[x]?=some (.cells (frC c (frI c a 0 m ar l)).toArray 81 (0,0))/\(∀v∈l,I64 v)/\base<=r.length
theorem invoke8 {C K:Value}(h:MM c W s vv C sv K)(ok:VxOk c)(hg:G8 c W C sv K s.way){f:Fr}{fs:List Fr}(hf:s.frames=f :: fs)(g7:f.base<=s.stack.length)(op:Int){i:Nat}(hi:i<c.O.procs.length) :
  Calls Tryz.prog 110 #[.pointer (some ⟨c.gb,0,none⟩),.agg #[.int .i64 op,.int .i64 (i:Int),.int .i64 (-1)]] W (StepP c (Vm.invoke c.most f.base c.O.name ⟨c.O,vv⟩ i s)):=by
 obtain⟨fb,cap,b5,g9,p0,h2⟩:=h.top hf
 obtain⟨a,t,m,ha,g3,hm,m9,i5,i6⟩:=ent8 ok hi
 have n1:=zc hg
 have s4:c.O.procs.length<=10:=by
  have hr:=ok.rt
  unfold Ob.rightB Ob.procsB at hr
  simp only[Bool.and_eq_true]at hr
  exact(Ob.allB_le hr.2.1.1).1
 obtain⟨o,b9⟩:∃o,o=W.alloc (.cells #[.int .i64 op,.int .i64 (i:Int),.int .i64 (-1)] 138):=⟨_,rfl⟩
 have a6:Below W.heap.size W o:=by rw[b9];exact zb _ _
 have e9:o.heap[W.heap.size]?=some (.cells #[.int .i64 op,.int .i64 (i:Int),.int .i64 (-1)] 138 (0,0)):=by rw[b9];exact zl _ _
 have h7:W.heap.size<o.heap.size:=zc e9
 have h0:=h.below ok hg a6
 have g0:G8 c o C sv K s.way:=(a6.block _ n1).trans hg
 have HX:Hid (∀d,Below o.heap.size o d->d.cell? ⟨W.heap.size,1,none⟩=some (.int .i64 (i:Int))/\d.cell? ⟨W.heap.size,2,none⟩=some (.int .i64 (-1))/\d.cell? ⟨fb,fs.length*14,none⟩=some (.pointer (some ⟨c.pb,0,none⟩))):=fun d w=>by
  have e:=(w.block _ h7).trans e9
  have hW:=a6.trans (w.mono a6.size)
  exact⟨(za e).trans rfl,(za e).trans rfl,(hW.cell (p:=⟨fb,fs.length*14,none⟩) g9).trans (h2 0 _ rfl)⟩
 have P:Hid (∀d,Below o.heap.size o d->MM c d s vv C sv K/\G8 c d C sv K s.way):=fun d w=>⟨h0.below ok g0 w,(w.block _ (zc g0)).trans g0⟩
 have d9:Hid (∀d,Below o.heap.size o d->Calls Tryz.prog 100 #[.pointer (some ⟨c.gb,0,none⟩)] d fun e W'=>e=.returned (.pointer (some ⟨fb,fs.length*14,none⟩))/\Below d.heap.size d W'):=fun d w=>last8 (P.out d w).1 (P.out d w).2 hf b5
 have d6:Hid (∀d,Below o.heap.size o d->Calls Tryz.prog 47 #[.pointer (some ⟨c.pb,0,none⟩),.int .i64 (i:Int)] d fun e W'=>e=.returned (.agg #[.pointer (some ⟨c.pb,0,none⟩),.int .i64 (a:Int),.int .i64 0,.int .i64 (m:Int),.int .i64 0,.int .i64 0,.int .i64 0,.int .i64 0,.int .i64 0,.int .i64 0,.int .i64 0,.int .i64 0,.int .i64 0,.int .i64 0])/\Below d.heap.size d W'):=fun d w=>entered8 (P.out d w).1 ok hi a m ha hm
 have b4:Hid (Below o.heap.size o o.drew):=zt o
 obtain⟨x1,x2,x3⟩:=HX.out o (Below.refl _ _)
 have e4:=zh (HX.out _ b4.out)
 have p3:fb<o.heap.size:=Nat.lt_of_lt_of_le g9 a6.size
 have n0:(s.frames.length:Int)<=31:=by have:=h.fl;omega
 have HF:=zh (And.intro hf (And.intro b5 g7))
 have a3:=zh ok
 have J:=zh (And.intro ha (And.intro g3 (And.intro hm (And.intro m9 (And.intro i5 i6)))))
 have HI:=zh hi
 have i9:Hid (C.ownBlock=some fb):=by rw[b5];rfl
 have r8:(i:Int)<=10:=by omega
 have o6:(t:Int)<=10:=by omega
 have o8:(c.most:Int)<=31:=by have:=ok.ml;omega
 clear h ok hg hf h2 b5 a6 e9 h0 g0 g7 ha g3 hm
 go_enter Tryz.func110,Tryz.ntmps110
 go_upto_region 1 with fail
 rw[<-b9]
 clear b9
 go_region_held3 (fun d=>d.cell? ⟨W.heap.size,1,none⟩=some (.int .i64 (i:Int))/\d.cell? ⟨W.heap.size,2,none⟩=some (.int .i64 (-1))/\d.cell? ⟨fb,fs.length*14,none⟩=some (.pointer (some ⟨c.pb,0,none⟩))) (with_reducible (first|exact e5.out|exact e4.out)) (first|(go_at_call 100;refine(d9.out _ b4.out).mono ?_;rintro e d ⟨rfl,g4⟩;have a2:Hid (Below o.heap.size o d):=b4.out.trans (g4.mono b4.out.size);have e5:=zh (HX.out d a2.out);clear g4))
 obtain⟨_,y2,_⟩:=HX.out d a2.out
 have r3:W.heap.size<d.heap.size:=Nat.lt_of_lt_of_le h7 a2.out.size
 obtain⟨b7,L⟩:=P.out d a2.out
 obtain⟨fa,fc,e8⟩:=z7 b7.fr
 have k1:d.cell? ⟨c.gb,1,none⟩=some (.slice fa s.frames.length fc):=(za L).trans (by rw[e8];rfl)
 have k2:d.cell? ⟨c.gb,2,none⟩=some (.int .i64 (c.most:Int)):=(za L).trans rfl
 have p4:c.gb<d.heap.size:=zc L
 by_cases b8:s.frames.length=c.most
 ·have i4:Hid (∀E,Below d.heap.size d E->StepP c (Vm.invoke c.most f.base c.O.name ⟨c.O,vv⟩ i s) (.returned (.tuple #[])) (E.setCell ⟨c.gb,5,none⟩ (.int .i64 4))/\E.cell? ⟨c.gb,5,none⟩=some (.int .i64 (s.way:Int))/\E.frozen? ⟨c.gb,5,none⟩=false/\c.gb<E.heap.size):=fun E w=>by
   have n5:=b7.below a3.out L w
   have b6:G8 c E C sv K s.way:=(w.block _ (zc L)).trans L
   refine⟨⟨rfl,?_⟩,(za b6).trans rfl,zi b6,zc b6⟩
   unfold Vm.invoke
   rw[if_pos b8]
   exact MV.end n5 a3.out b6 4
  rw[b8]at k1
  clear b7 L P d9 d6 e8 b8 n0 HX e4 e5
  generalize (s.way:Int)=wy at *
  generalize c.most=mo at *
  go_wp2_with fail
  go_quiet (fail)
  obtain⟨f8,k5,z5,p5⟩:=i4.out (d.drewN nq) (below_drewN d nq)
  have H:=zh f8
  clear f8
  go_wp2_with fail
  first|exact ze rfl rfl H.out|exact bodyPost_ret (v:=.tuple #[]) (by simp[results,Tryz.results110,go_sem]) rfl H.out
 ·have r1:¬((s.frames.length:Int)=(c.most:Int)):=by omega
  have f7:Hid (Vm.invoke c.most f.base c.O.name ⟨c.O,vv⟩ i s=Vm.takes f.base t [] s (Vm.enter c.O.name ⟨c.O,vv⟩ i)):=by
   show _=_
   unfold Vm.invoke
   rw[if_neg b8]
   show Vm.takes _ ((c.O.procs[i]?.map _).getD 0) _ _ _=_
   rw[List.getElem?_eq_getElem HI.out]
   simp[J.out.2.1]
  generalize Vm.invoke c.most f.base c.O.name ⟨c.O,vv⟩ i s=TG at *
  clear b7 L d9 e4 e5 e8
  go_wp2_with fail
  go_quiet (fail)
  obtain⟨E,f6⟩:∃E,E=d.drewN nq:=⟨_,rfl⟩
  have d4:Hid (Below o.heap.size o E):=by rw[f6];exact a2.out.trans ((below_drewN d nq).mono a2.out.size)
  rw[<-f6]
  clear f6
  have g2:=zh (d6.out E d4.out)
  go_wp2_with fail
  refine g2.out.mono ?_
  rintro e w3⟨rfl,g5⟩
  have d5:Hid (Below o.heap.size o w3):=d4.out.trans (g5.mono d4.out.size)
  obtain⟨w4,d0⟩:∃w4,w4=w3.alloc (.cells #[.pointer (some ⟨c.pb,0,none⟩),.int .i64 (a:Int),.int .i64 0,.int .i64 (m:Int),.int .i64 0,.int .i64 0,.int .i64 0,.int .i64 0,.int .i64 0,.int .i64 0,.int .i64 0,.int .i64 0,.int .i64 0,.int .i64 0] 81):=⟨_,rfl⟩
  have i7:Hid (Below o.heap.size o w4):=by rw[d0];exact d5.out.alloc d5.out.size _
  have h5:w4.heap[w3.heap.size]?=some (.cells #[.pointer (some ⟨c.pb,0,none⟩),.int .i64 (a:Int),.int .i64 0,.int .i64 (m:Int),.int .i64 0,.int .i64 0,.int .i64 0,.int .i64 0,.int .i64 0,.int .i64 0,.int .i64 0,.int .i64 0,.int .i64 0,.int .i64 0] 81 (0,0)):=by rw[d0];exact zl _ _
  obtain⟨x,hx⟩:∃x,x=w3.heap.size:=⟨_,rfl⟩
  have n7:o.heap.size<=x:=by rw[hx];exact d5.out.size
  obtain⟨b1,h3⟩:=P.out w4 i7.out
  obtain⟨eb,eo,pc,k4,r7,s2,e0,e1,e2⟩:=entry8 a3.out b1.be HI.out
  rw[J.out.2.1]at e1
  have kp:w4.cell? ⟨c.pb,0,none⟩=some (.pointer (some ⟨c.ob,c.oo,none⟩)):=(za b1.pk).trans rfl
  have s3:=zc b1.pk
  have h9:c.w0.heap.size<=x:=Nat.le_trans (P.out o (Below.refl _ _)).1.be.size n7
  have h8:Hid (C.ownBlock≠some x):=fun e=>by
   have:=i9.out.symm.trans e
   simp only[Option.some.injEq]at this
   omega
  have d8:Hid (IL c s f.base vv C K a m t x (Vm.enter c.O.name ⟨c.O,vv⟩ i) 0 w4):=⟨[],s.stack,sv,rfl,rfl,b1,h3,by
   rw[hx,h5]
   unfold frI
   rw[locs_nil (by have:=J.out.2.2.2.2;omega)]
   rfl,(fun v hv=>by cases hv),HF.out.2.2⟩
  have p8:(i:Int)<(c.O.procs.length:Int):=by have:=HI.out;omega
  clear b1 h3 h5 g5 e0 e2 g2 d6
  go_upto_region 10 with fail
  rw[<-hx,<-d0]
  clear d0 hx
  go_wp2_with fail
  go_loopg [9] t (fun k vi wr=>∃j:Nat,j<=t/\k=t-j/\vi=.int .i64 ((t:Int)-1-(j:Int))/\Hid (IL c s f.base vv C K a m t x (Vm.enter c.O.name ⟨c.O,vv⟩ i) j wr))
  case atStart=>exact⟨0,by omega,by omega,by simp,d8⟩
  case round =>
   obtain⟨j,r9,s0,rfl,HL⟩:=hrel
   by_cases n4:j<t
   ·obtain⟨z,h6⟩:∃z:Nat,(t:Int)-1-(j:Int)=(z:Int):=⟨t-1-j,by omega⟩
    have p9:(z:Int)<10:=by omega
    rw[h6]
    obtain⟨l,r,i2,M,b3,N,a1,a0,b0,g6⟩:=HL.out.ex
    have HT:=zh (take8 (s:={ s with stack:=r }) N a3.out a1 HF.out.1)
    have m4:=zh N.si
    have i0:x<wr.heap.size:=zc a0
    have n8:x≠c.gb:=by
     have:=(P.out o (Below.refl _ _)).2
     have:=zc this
     omega
    have m3:Hid (∀g,Kg c wr g->g.heap[x]?=some (.cells (frC c (frI c a 0 m t l)).toArray 81 (0,0))):=fun g hk=>(hk.block _ i0 n8).trans a0
    have e3:=zh (And.intro M (And.intro b3 b0))
    clear N a1 a0 b0 b3 HL d8
    go_wp2_with fail
    refine HT.out.mono ?_
    intro e g hq
    obtain⟨f0,hq⟩:=hq
    have A:=m3.out g f0
    by_cases h1:r.length<=f.base
    ·rw[if_pos h1]at hq
     obtain⟨rfl,b2,a9⟩:=hq
     have H:Hid (StepP c TG (.returned (.tuple #[])) g):=⟨rfl,by
      rw[f7.out,e3.out.2.1,show t-j=(t-j-1)+1 by omega,takes_no h1]
      exact b2.mv8 a9⟩
     clear f0 b2 a9 A h1 HT
     go_wp2_with fail
     first|exact ze rfl rfl H.out|exact bodyPost_ret (v:=.tuple #[]) (by simp[results,Tryz.results110,go_sem]) rfl H.out
    ·rw[if_neg h1]at hq
     obtain⟨n,r',o4,hs,rfl,b2,a9⟩:=hq
     have f4:r=n :: r':=hs
     have hn:I64 n:=m4.out n (by show n∈r;rw[f4];simp)
     have h4:l.length<t:=by rw[M];exact n4
     have g1:z=t-1-l.length:=by rw[M];omega
     obtain⟨F,B⟩:=b2.fbox a9 A h8.out h9 (4+z) (.int .i64 n)
     have m1:Hid (IL c s f.base vv C K a m t x (Vm.enter c.O.name ⟨c.O,vv⟩ i) (j+1) (g.setCell ⟨x,4+z,none⟩ (.int .i64 n))):=⟨n :: l,r',o4,by rw[List.length_cons,M],by
       rw[e3.out.2.1,show t-j=(t-(j+1))+1 by omega]
       exact takes_succ (s:={ s with stack:=r }) hs h1,F,B,by
       rw[zy (4+z) (.int .i64 n) A]
       have e:frC c (frI c a 0 m t (n :: l))=(frC c (frI c a 0 m t l)).set (4+z) (.int .i64 n):=by
        unfold frI
        rw[locs_cons h4,<-g1,Nat.add_comm 4 z]
        exact vD c ⟨c.O.name,a,0,m,locs t l⟩ z n
       rw[e]
       simp,fun v hv=>by
       rcases List.mem_cons.1 hv with rfl|hv
       ·exact hn
       ·exact e3.out.2.2 v hv,by
       have:r.length=r'.length+1:=by rw[f4];rfl
       omega⟩
     have s6:g.frozen? ⟨x,4+z,none⟩=false:=zi A
     have g8:∃u,g.cell? ⟨x,4+z,none⟩=some u:=by
      have r0:(locs t l).length=10:=xA (by omega) (by have:=J.out.2.2.2.2;omega)
      exact⟨.int .i64 ((locs t l)[z]'(by omega)),(za A).trans (by rw[List.getElem?_toArray,Nat.add_comm 4 z];exact uC c (frI c a 0 m t l) z (by show z<(locs t l).length;omega))⟩
     obtain⟨u0,g8⟩:=g8
     have r4:x<g.heap.size:=zc A
     clear f0 b2 a9 A h1 HT hs f4 F B h4 g1 hn M
     go_wp2_with fail
     go_roundg (t-(j+1))
     case measure=>omega
     case rel=>exact⟨j+1,by omega,rfl,by rw[<-h6];congr 1;omega,m1⟩
   ·have n3:j=t:=by omega
    subst n3
    obtain⟨l,r,i2,M,b3,N,a1,a0,b0,g6⟩:=HL.out.ex
    obtain⟨sa,sc,f5⟩:=z7 N.st
    have f5:i2=.slice sa r.length sc:=f5
    subst f5
    have r2:¬(0<=(j:Int)-1-(j:Int)):=by omega
    have i3:m<=10:=J.out.2.2.2.2.2
    have o7:j<=m:=J.out.2.2.2.2.1
    have e6:TG={ ({ s with stack:=r }:St) with frames:=frI c a r.length m j l :: s.frames }:=by
     rw[f7.out,b3,Nat.sub_self]
     show Vm.enter _ _ _ _ _=_
     unfold Vm.enter
     show (match c.O.procs[i]? with|some e=>_|none=>_)=_
     rw[List.getElem?_eq_getElem HI.out]
     simp only[J.out.1,J.out.2.2.1,Int.toNat_natCast,frI,locs,M,Nat.sub_self,zeros,List.replicate_zero,List.nil_append]
    have e7:FrOk c (frI c a r.length m j l):=⟨rfl,xA (by omega) (by omega),locs_in b0,i3,by have:=J.out.2.2.2.1;have:=zV a3.out;show a<=4000;omega,by have:=N.sl;exact this⟩
    obtain⟨Q,R,S,T,U,V,X,Y,Z,v9,hL⟩:∃Q R S T U V X Y Z v9,locs j l=[Q,R,S,T,U,V,X,Y,Z,v9]:=ten (xA (by omega) (by omega))
    obtain⟨D,f3⟩:∃D,D=r.length:=⟨_,rfl⟩
    rw[<-f3]at e6 e7
    have f9:frC c (frI c a D m j l)=#[.pointer (some ⟨c.pb,0,none⟩),.int .i64 (a:Int),.int .i64 (D:Int),.int .i64 (m:Int),.int .i64 Q,.int .i64 R,.int .i64 S,.int .i64 T,.int .i64 U,.int .i64 V,.int .i64 X,.int .i64 Y,.int .i64 Z,.int .i64 v9].toList:=by
     unfold frC frI
     simp only[hL]
     rfl
    have a7:wr.heap[x]?=some (.cells #[.pointer (some ⟨c.pb,0,none⟩),.int .i64 (a:Int),.int .i64 0,.int .i64 (m:Int),.int .i64 Q,.int .i64 R,.int .i64 S,.int .i64 T,.int .i64 U,.int .i64 V,.int .i64 X,.int .i64 Y,.int .i64 Z,.int .i64 v9] 81 (0,0)):=by
     rw[a0]
     unfold frC frI
     simp only[hL]
     rfl
    obtain⟨F,B⟩:=N.fbox a1 a0 h8.out h9 2 (.int .i64 (D:Int))
    have k3:wr.cell? ⟨c.gb,3,none⟩=some (.slice sa D sc):=(za a1).trans (by rw[f3];rfl)
    have o3:wr.cell? ⟨x,2,none⟩=some (.int .i64 0):=(za a7).trans rfl
    have o5:wr.frozen? ⟨x,2,none⟩=false:=zi a7
    have i0:x<wr.heap.size:=zc a7
    have p7:c.gb<wr.heap.size:=zc a1
    obtain⟨g,d1⟩:∃g,g=wr.setCell ⟨x,2,none⟩ (.int .i64 (D:Int)):=⟨_,rfl⟩
    have A:g.heap[x]?=some (.cells #[.pointer (some ⟨c.pb,0,none⟩),.int .i64 (a:Int),.int .i64 (D:Int),.int .i64 (m:Int),.int .i64 Q,.int .i64 R,.int .i64 S,.int .i64 T,.int .i64 U,.int .i64 V,.int .i64 X,.int .i64 Y,.int .i64 Z,.int .i64 v9] 81 (0,0)):=by rw[d1,zy 2 (.int .i64 (D:Int)) a7];rfl
    rw[<-d1]at F B
    obtain⟨a4,a5,d3⟩:=z7 F.fr
    have d3:C=.slice a4 s.frames.length a5:=d3
    subst d3
    have k1:g.cell? ⟨c.gb,1,none⟩=some (.slice a4 s.frames.length a5):=(za B).trans rfl
    have y:∀G,Below g.heap.size g G->∀q,G.cell? ⟨x,q,none⟩=(#[.pointer (some ⟨c.pb,0,none⟩),.int .i64 (a:Int),.int .i64 (D:Int),.int .i64 (m:Int),.int .i64 Q,.int .i64 R,.int .i64 S,.int .i64 T,.int .i64 U,.int .i64 V,.int .i64 X,.int .i64 Y,.int .i64 Z,.int .i64 v9]:Array Value)[q]?:=fun G w q=>(za ((w.block _ (zc A)).trans A))
    have H:Hid (∀G I d2,Below g.heap.size g G->I.ownsRow c.w0.heap.size 81 14 d2 (s.frames.length+1) (frs c s.frames++#[.pointer (some ⟨c.pb,0,none⟩),.int .i64 (a:Int),.int .i64 (D:Int),.int .i64 (m:Int),.int .i64 Q,.int .i64 R,.int .i64 S,.int .i64 T,.int .i64 U,.int .i64 V,.int .i64 X,.int .i64 Y,.int .i64 Z,.int .i64 v9].toList)->G.grownBy I (Value.slice a4 s.frames.length a5).ownBlock->StepP c TG (.returned (.tuple #[])) (I.setCell ⟨c.gb,1,none⟩ d2)/\I.heap[c.gb]?=g.heap[c.gb]?):=fun G I d2 w q1 q2=>by
     rw[<-f9]at q1
     obtain⟨p1,p2⟩:=F.pushf a3.out B w (by have h':s.frames.length<=c.most:=F.fm;show s.frames.length<c.most;omega) e7 q1 q2
     refine⟨⟨rfl,?_⟩,(q2.block _ (Nat.lt_of_lt_of_le (zc B) w.size) (fun e=>ym F.fr B (by decide) e.symm)).trans (w.block _ (zc B))⟩
     rw[e6]
     exact⟨_,_,_,_,p1,p2⟩
    have m2:Hid (∀G,Below g.heap.size g G->G.ownsRow c.w0.heap.size 81 14 (.slice a4 s.frames.length a5) s.frames.length (frs c s.frames)):=fun G w=>zB F.fr fun b _ hl _=>w.block b hl
    have m0:=zh B
    have i8:=zh F.be
    have r5:=zh y
    have p6:c.gb<g.heap.size:=zc B
    have s5:x<g.heap.size:=zc A
    obtain⟨i1,n2,n9,o0,o1⟩:=info_parts Tryz.infoFrame
    have c0:=y g (Below.refl _ _) 0
    have c1:=y g (Below.refl _ _) 1
    have c2:=y g (Below.refl _ _) 2
    have c3:=y g (Below.refl _ _) 3
    have c4:=y g (Below.refl _ _) 4
    have c5:=y g (Below.refl _ _) 5
    have c6:=y g (Below.refl _ _) 6
    have c7:=y g (Below.refl _ _) 7
    have c8:=y g (Below.refl _ _) 8
    have c9:=y g (Below.refl _ _) 9
    have m5:=y g (Below.refl _ _) 10
    have m6:=y g (Below.refl _ _) 11
    have m7:=y g (Below.refl _ _) 12
    have m8:=y g (Below.refl _ _) 13
    simp only[List.getElem?_toArray,List.getElem?_cons_zero,List.getElem?_cons_succ]at c0 c1 c2 c3 c4 c5 c6 c7 c8 c9 m5 m6 m7 m8
    clear f3 N a1 a0 a7 b0 b3 HL d8 e6 e7 hL f9 F B y A g6 M
    generalize s1:s.frames.length=nf at *
    have o9:nf<=31:=by omega
    go_upto_region 17 with fail
    rw[<-d1]
    clear d1 o3 o5 k3
    go_region_law (first|(refine zE rfl (.tmp 90) (.tmp 92) 82 rfl c.w0.heap.size 81 i1 (.agg #[.pointer none,.int .i64 0,.int .i64 0,.int .i64 0,.int .i64 0,.int .i64 0,.int .i64 0,.int .i64 0,.int .i64 0,.int .i64 0,.int .i64 0,.int .i64 0,.int .i64 0,.int .i64 0]) 14 112 Tryz.underlying82 n2 n9 o0 o1 rfl (by decide) (.slice a4 nf a5) nf (frs c s.frames) (by simp[Act.eval]) ?own ⟨g.heap.size,0,none⟩ 1 1 #[.pointer (some ⟨c.pb,0,none⟩),.int .i64 (a:Int),.int .i64 (D:Int),.int .i64 (m:Int),.int .i64 Q,.int .i64 R,.int .i64 S,.int .i64 T,.int .i64 U,.int .i64 V,.int .i64 X,.int .i64 Y,.int .i64 Z,.int .i64 v9].toList (by simp[Act.eval]) rfl ?news (by intro u hu;simp at hu;rcases hu with rfl|rfl|rfl|rfl|rfl|rfl|rfl|rfl|rfl|rfl|rfl|rfl|rfl|rfl<;>rfl) (by unfold maxLen;omega) (by omega) ?base ?_;(case own=>exact m2.out _ (by first|exact zb _ _|exact(zt g).alloc zn _|exact(zb _ _).drew));(case news=>(intro j u hj;rw[Addr.add_lit];first|exact((za (zl g _)).trans (by simpa using hj))|exact((za (zl g.drew _)).trans (by simpa using hj))));(case base=>have:=i8.out.size;simp;omega);intro d2 I q1 q2 q3;obtain⟨a8,r6,n6⟩:=z7 q1;subst n6;have HN:=H.out _ I _ (by first|exact zb _ _|exact(zt g).alloc zn _|exact(zb _ _).drew) q1 q2;have d7:=HN.2.trans m0.out;have o2:I.cell? ⟨c.gb,1,none⟩=some (.slice a4 nf a5):=(za d7).trans rfl;have s8:I.frozen? ⟨c.gb,1,none⟩=false:=zi d7;have s7:c.gb<I.heap.size:=zg o2;have H:=zh HN.1;clear HN d7 q1 q2 q3))
    all_goals
     go_wp2_with fail
     first|exact ze rfl rfl H.out|exact bodyPost_ret (v:=.tuple #[]) (by simp[results,Tryz.results110,go_sem]) rfl H.out
theorem code8 (ok:VxOk c)(f:Below c.w0.heap.size c.w0 W){i:Nat}(j:i<c.O.code.length):∃b o d,W.cell? ⟨c.ob,c.oo+6,none⟩=some (.slice (some ⟨b,o,none⟩) c.O.code.length d)/\b<W.heap.size/\c.ob<W.heap.size/\W.cell? ⟨b,o+i*3,none⟩=some (.int .i64 c.O.code[i].op)/\W.cell? ⟨b,o+i*3+1,none⟩=some (.int .i64 c.O.code[i].a)/\W.cell? ⟨b,o+i*3+2,none⟩=some (.int .i64 c.O.code[i].b):=by
 obtain⟨q,r,t,n,l,k,sc,s,u,p,m,d,h⟩:=ok.oa.below f
 obtain⟨b,o,rfl,g,e⟩:=Sl.at' xH (by omega) h.c i j
 exact⟨b,o,d,by simpa using h.c6,g,zg h.c6,e 0 _ rfl,by simpa[Nat.add_assoc] using e 1 _ rfl,by simpa[Nat.add_assoc] using e 2 _ rfl⟩
theorem yx (c:Vx)(f:Fr)(k:Nat):frC c { f with at':=k }=(frC c f).set 1 (.int .i64 (k:Int)):=rfl
theorem inst8 (ok:VxOk c){i:Nat}(a:i<c.O.code.length):Ob.instB c.O c.O.code[i]=true:=by
 have h:=ok.rt
 unfold Ob.rightB Ob.codeB at h
 simp only[Bool.and_eq_true]at h
 exact(Ob.allB_le h.2.2.1).2 _ (List.getElem_mem a)
theorem reach8 (ok:VxOk c){x:In}{own:Nat}(h:Ob.reachB c.O x own=true):x.b=-1/\0<=x.a/\x.a<(own:Int):=by
 unfold Ob.reachB at h
 split at h
 ·rename_i d
  simp only[Ob.countsB,Bool.and_eq_true,decide_eq_true_eq]at h
  exact⟨d,h.1,h.2⟩
 ·simp only[Ob.countsB,Bool.and_eq_true,decide_eq_true_eq]at h
  have:=ok.us
  rw[this]at h
  simp at h
  omega
end Go.Proofs.YtbkndnmglhghlaaGreatDoor.Jo
