import Derived.Test.YtbkndnmglhghlaaGreatDoorKIc
import Derived.Test.YtbkndnmglhghlaaGreatDoorKIe
import Derived.Test.YtbkndnmglhghlaaGreatDoorKAa
set_option maxRecDepth 100000
set_option maxHeartbeats 4000000

namespace Go.Proofs.YtbkndnmglhghlaaGreatDoor.Jo
open Go.RowKit Go.Maps
open Ob (O In I64)
open Vm (St Fr Pl)
variable {x:Nat}{s:Vm.St}{c:Vx}{W:World}
theorem ops8 (ok:VxOk c){i:Nat}(a:i<c.O.code.length):1<=c.O.code[i].op/\c.O.code[i].op<=17:=by
 have h:=inst8 ok a
 unfold Ob.instB at h
 split at h
 ·omega
 ·split at h
  ·omega
  ·split at h
   ·omega
   ·simp only[Bool.and_eq_true,Ob.countsB,decide_eq_true_eq]at h
    exact Ob.choices_op (o:=c.O) (op:=c.O.code[i].op) (by omega)
theorem step8 (h:MV c W s)(ok:VxOk c)(j:Inv c.O s) :
  Calls Tryz.prog 50 #[.pointer (some ⟨c.gb,0,none⟩)] W (StepP c (Vm.step c.most s)):=by
 obtain⟨vv,E,sv,H,d,i⟩:=h
 obtain⟨f,fs,a⟩:∃f fs,s.frames=f :: fs:=by
  cases D:s.frames with
  |nil=>exact absurd D j.ne
  |cons f fs=>exact⟨f,fs,rfl⟩
 have b:f.at'<c.O.code.length:=j.at' f (by rw[a];simp)
 have k:=j.bs
 rw[a]at k
 have g:=k.1
 have t:f.of=c.O.name:=(d.ff f (by rw[a];simp)).of
 have e:Vm.step c.most s=Vm.exec c.most { f with at':=f.at'+1 } fs ⟨c.O,vv⟩ c.O.code[f.at'] (Vm.going { f with at':=f.at'+1 } fs s):=by
  unfold Vm.step
  rw[a]
  simp only
  rw[d.th,t,thr,if_pos rfl]
  simp only
  rw[List.getElem?_eq_getElem b]
 rw[e]
 obtain⟨F,G⟩:=ops8 ok b
 by_cases u:c.O.code[f.at'].op=1
 ·exact step_1 d ok i a g b u
 by_cases v:c.O.code[f.at'].op=2
 ·exact step_2 d ok i a g b v
 by_cases w:c.O.code[f.at'].op=3
 ·exact step_3 d ok i a g b w
 by_cases x:c.O.code[f.at'].op=4
 ·exact step_4 d ok i a g b x
 by_cases y:c.O.code[f.at'].op=5
 ·exact step_5 d ok i a g b y
 by_cases z:c.O.code[f.at'].op=6
 ·exact step_6 d ok i a g b z
 by_cases A:c.O.code[f.at'].op=7
 ·exact step_7 d ok i a g b A
 by_cases B:c.O.code[f.at'].op=8
 ·exact step_8 d ok i a g b B
 by_cases C:c.O.code[f.at'].op=9
 ·exact step_9 d ok i a g b C
 by_cases l:c.O.code[f.at'].op=10
 ·exact step_10 d ok i a g b l
 by_cases m:c.O.code[f.at'].op=11
 ·exact step_11 d ok i a g b m
 by_cases n:c.O.code[f.at'].op=12
 ·exact step_12 d ok i a g b n
 by_cases o:c.O.code[f.at'].op=13
 ·exact step_13 d ok i a g b o
 by_cases p:c.O.code[f.at'].op=14
 ·exact step_14 d ok i a g b p
 by_cases q:c.O.code[f.at'].op=15
 ·exact step_15 d ok i a g b q
 by_cases r:c.O.code[f.at'].op=16
 ·exact step_16 d ok i a g b r
 exact step_17 d ok i a g b (by omega)
def GoP (c:Vx) (s:Vm.St) (e:Ending) (W':World):Prop:=MV c W' s/\∃oa oc,e=.returned (.agg #[.int .i64 (s.way:Int),.slice oa s.out.length oc])/\W'.ownsRow (c.gb+1) 2 1 (.slice oa s.out.length oc) s.out.length (ints s.out)
theorem goes_back (most:Nat):∀(n:Nat) (s:Vm.St),s.way=0->Vm.goes most (n+1) s=Vm.goes most n (Vm.step most s):=fun n s h=>by
 rw[Vm.goes,if_pos h]
def Vx.with (c:Vx) (b:Option Nat):Vx:={ c with eb:=fun x=>if b=some x then some (.cells #[.int .i64 0,.slice none 0 0] 31 (0,0)) else c.eb x }
theorem VxOk.with {c:Vx}(ok:VxOk c)(b:Option Nat):VxOk (c.with b):=⟨ok.oa,ok.rt,ok.i64,ok.us,ok.gb,ok.pb,ok.vb,ok.vs,ok.inj,ok.ml,ok.gm,ok.mrk⟩
theorem MM.with {c:Vx}{W:World}{s:Vm.St}{vv:List (List Int)}{g sv i:Value}(h:MM c W s vv g sv i)(b:Option Nat)(j:∀x,b=some x->W.heap[x]?=some (.cells #[.int .i64 0,.slice none 0 0] 31 (0,0))):MM (c.with b) W s vv g sv i :=
 ⟨h.be,h.pk,h.vk,h.th,h.vn,h.vm,h.fr,h.st,h.ou,h.dj,h.sl,h.si,h.ol,h.oi,h.fl,h.fm,fun f a=>⟨(h.ff f a).of,(h.ff f a).ll,(h.ff f a).li,(h.ff f a).mn,(h.ff f a).at',(h.ff f a).bs⟩,fun x o d=>by
  have d:(if b=some x then some (Obj.cells #[.int .i64 0,.slice none 0 0] 31 (0,0)) else c.eb x)=some o:=d
  by_cases e:b=some x
  ·rw[if_pos e]at d
   cases d
   exact⟨j x e,fun k l f q=>by cases q;unfold Wet;decide⟩
  ·rw[if_neg e]at d
   exact h.ek x o d⟩
theorem MM.ebox {vv:List (List Int)}{g sv k:Value}{l:Nat}{t:Array Value}(h:MM c W s vv g sv k)(n:G8 c W g sv k l)(w:c.eb x=none)(f:W.heap[x]?=some (.cells t 31 (0,0)))(a:c.w0.heap.size<=x)(j:Nat)(u:Value):MM c (W.setCell ⟨x,j,none⟩ u) s vv g sv k/\G8 c (W.setCell ⟨x,j,none⟩ u) g sv k l:=by
 have d:∀b,b≠x->(W.setCell ⟨x,j,none⟩ u).heap[b]?=W.heap[b]?:=fun b a=>Below.heap_setCell _ _ _ _ (by simpa using a)
 refine⟨⟨h.be.setCell a _,(d _ (vU h.pk f (by decide))).trans h.pk,yD h.vk fun b z _ v=>d b (vU v f (by decide)),h.th,h.vn,fun i y=>?_,?_,?_,?_,h.dj,h.sl,h.si,h.ol,h.oi,h.fl,h.fm,h.ff,fun b o a=>⟨(d b fun q=>by rw[q,w]at a;cases a).trans (h.ek b o a).1,(h.ek b o a).2⟩⟩,(d _ (vU n f (by decide))).trans n⟩
 ·obtain⟨p,m,r⟩:=h.vm i y
  exact⟨p,(d _ (vU m f (by decide))).trans m,r⟩
 ·exact zB h.fr fun b _ _ q=>d b fun e=>ym h.fr f (by decide) (e ▸ q)
 ·exact zB h.st fun b _ _ q=>d b fun e=>ym h.st f (by decide) (e ▸ q)
 ·exact zB h.ou fun b _ _ q=>d b fun e=>ym h.ou f (by decide) (e ▸ q)
theorem goes_end (most:Nat):∀(n:Nat) {s:Vm.St},¬s.way=0->Vm.goes most n s=s
 | 0,s,h=>by rw[Vm.goes,if_neg h]
 |n+1,s,h=>by rw[Vm.goes,if_neg h]
theorem goes_fin {t:Vm.St}{wr:World}(ok:VxOk c)(m:c.eb x=none)(r:c.w0.heap.size<=x)(h:MV (c.with (some x)) wr t):∃oa oc,wr.cell? ⟨c.gb,4,none⟩=some (.slice oa t.out.length oc)/\wr.cell? ⟨c.gb,5,none⟩=some (.int .i64 (t.way:Int))/\wr.cell? ⟨x,0,none⟩=some (.int .i64 0)/\wr.cell? ⟨x,1,none⟩=some (.slice none 0 0)/\(∀j,wr.frozen? ⟨x,j,none⟩=false)/\x<wr.heap.size/\c.gb<wr.heap.size/\(∀k,k=((wr.setCell ⟨x,0,none⟩ (.int .i64 (t.way:Int))).setCell ⟨x,1,none⟩ (.slice oa t.out.length oc)).drew->GoP c t (.returned (.agg #[.int .i64 (t.way:Int),.slice oa t.out.length oc])) k/\k.cell? ⟨x,0,none⟩=some (.int .i64 (t.way:Int))/\k.cell? ⟨x,1,none⟩=some (.slice oa t.out.length oc)):=by
 obtain⟨vv,p,sv,A,a,l⟩:=h
 obtain⟨oa,oc,n⟩:=z7 a.ou
 have n:A=.slice oa t.out.length oc:=n
 subst n
 have e:=(a.ek x _ (by show (if some x=some x then _ else _)=_;rw[if_pos rfl])).1
 refine⟨oa,oc,(za l).trans rfl,(za l).trans rfl,(za e).trans rfl,(za e).trans rfl,fun j=>zi e,zc e,zc l,fun k z=>?_⟩
 have u:MM c wr t vv p sv (.slice oa t.out.length oc) :=
  ⟨a.be,a.pk,a.vk,a.th,a.vn,a.vm,a.fr,a.st,a.ou,a.dj,a.sl,a.si,a.ol,a.oi,a.fl,a.fm,fun f g=>⟨(a.ff f g).of,(a.ff f g).ll,(a.ff f g).li,(a.ff f g).mn,(a.ff f g).at',(a.ff f g).bs⟩,fun b o d=>a.ek b o (by
   show (if some x=some b then _ else _)=_
   rw[if_neg (fun q=>by cases q;rw[m]at d;cases d)]
   exact d)⟩
 have s:G8 c wr p sv (.slice oa t.out.length oc) t.way:=l
 obtain⟨v,w⟩:=u.ebox s m e r 0 (.int .i64 (t.way:Int))
 obtain⟨y,b2⟩:=v.ebox w m (zy 0 (.int .i64 (t.way:Int)) e) r 1 (.slice oa t.out.length oc)
 have d:=zt ((wr.setCell ⟨x,0,none⟩ (.int .i64 (t.way:Int))).setCell ⟨x,1,none⟩ (.slice oa t.out.length oc))
 have i:=zy 1 (.slice oa t.out.length oc) (zy 0 (.int .i64 (t.way:Int)) e)
 rw[<-z]at d
 have c1:=y.below ok b2 d
 have i:=(d.block _ (zc i)).trans i
 exact⟨⟨⟨vv,p,sv,_,c1,(d.block _ (zc b2)).trans b2⟩,oa,oc,rfl,c1.ou⟩,(za i).trans rfl,(za i).trans rfl⟩
theorem goes8 (h:MV c W s)(ok:VxOk c)(a5:Inv c.O s)(n:Nat)(hn:n<=1000000) :
  Calls Tryz.prog 26 #[.pointer (some ⟨c.gb,0,none⟩),.int .i64 (n:Int)] W (GoP c (Vm.goes c.most n s)):=by
 obtain⟨C,E⟩:∃C,C=W.alloc (.cells #[.int .i64 0,.slice none 0 0] 31):=⟨_,rfl⟩
 have a0:Below W.heap.size W C:=by rw[E];exact zb _ _
 have a2:C.heap[W.heap.size]?=some (.cells #[.int .i64 0,.slice none 0 0] 31 (0,0)):=by rw[E];exact zl _ _
 have F:=ok.with (some W.heap.size)
 have N:MV (c.with (some W.heap.size)) C s:=by
  obtain⟨vv,G,sv,H,z,T⟩:=h.below ok a0
  exact⟨vv,G,sv,H,z.with _ fun x p=>by cases p;exact a2,T⟩
 obtain⟨x,p⟩:∃x,x=W.heap.size:=⟨_,rfl⟩
 have a4:c.w0.heap.size<=x:=by
  obtain⟨vv,G,sv,H,z,T⟩:=h
  rw[p]
  exact z.be.size
 rw[<-p]at F N
 have Y:=zh N
 have K:=zh F
 have L:=zh ok
 have I:=zh a5
 have X:Hid (c.eb x=none):=by
  cases q:c.eb x with
  |none=>rfl
  |some o =>
   obtain⟨vv,G,sv,H,z,T⟩:=h
   have:=jo (z.ek x o q).1
   omega
 have M:Hid (∀wr t,MV (c.with (some x)) wr t->Inv c.O t->Calls Tryz.prog 50 #[.pointer (some ⟨c.gb,0,none⟩)] wr (StepP (c.with (some x)) (Vm.step c.most t))):=fun wr t q1 q2=>step8 q1 F q2
 clear h a5 a0 a2 F N ok
 go_enter Tryz.func26,Tryz.ntmps26
 go_upto_region 1 with fail
 rw[<-p,<-E]
 clear E p
 go_wp2_with fail
 go_loopg [5] n (fun k vi wr=>∃(i:Nat) (t:Vm.St),i<=n/\k=n-i/\vi=.int .i64 (i:Int)/\Hid (MV (c.with (some x)) wr t)/\Hid (Vm.goes c.most n s=Vm.goes c.most (n-i) t)/\Hid (t.way=0->Inv c.O t))
 case atStart=>exact⟨0,s,by omega,by omega,by simp,Y,zh rfl,zh fun _=>I.out⟩
 case round =>
  obtain⟨i,t,b3,b4,rfl,l,j,y⟩:=hrel
  clear Y
  by_cases a:t.way=0
  ·obtain⟨vv,G,sv,H,A,m⟩:=l.out
   have U:wr.cell? ⟨c.gb,5,none⟩=some (.int .i64 0):=(za m).trans (by rw[a];rfl)
   have z5:wr.frozen? ⟨c.gb,5,none⟩=false:=zi m
   have a1:c.gb<wr.heap.size:=zc m
   by_cases a9:i<n
   ·have a7:(i:Int)<(n:Int):=by omega
    have HS:=zh (M.out wr t l.out (y.out a))
    have Z:Hid (∀D,MV (c.with (some x)) D (Vm.step c.most t)->Hid (MV (c.with (some x)) D (Vm.step c.most t))/\Hid (Vm.goes c.most n s=Vm.goes c.most (n-(i+1)) (Vm.step c.most t))/\Hid ((Vm.step c.most t).way=0->Inv c.O (Vm.step c.most t))):=fun D q=>⟨q,zh (j.out.trans (by rw[show n-i=(n-(i+1))+1 by omega,goes_back _ _ _ a])),zh fun q0=>inv_step L.out A.th (fun f hf=>(A.ff f hf).of) (y.out a) q0⟩
    clear A m a y j l
    go_wp2_with fail
    refine HS.out.mono ?_
    rintro e D⟨rfl,a3⟩
    obtain⟨H1,H2,H3⟩:=Z.out D a3
    clear a3 HS Z U z5 a1
    go_wp2_with fail
    go_roundg (n-(i+1))
    case measure=>omega
    case rel=>exact⟨i+1,Vm.step c.most t,by omega,rfl,by first|rfl|(congr 1;done)|(simp;done),H1,H2,H3⟩
   ·have a6:i=n:=by omega
    subst a6
    have a7:¬((i:Int)<(i:Int)):=by omega
    have Q:=zh (goes_fin (x:=x) (t:=Vm.ended 5 t) (wr:=wr.setCell ⟨c.gb,5,none⟩ (.int .i64 5)) L.out X.out a4 (MV.end A K.out m 5))
    have w:Vm.goes c.most i s=Vm.ended 5 t:=by rw[j.out,Nat.sub_self,Vm.goes,if_pos a]
    have J:=zh w
    clear A m a y j l w a9 M I K
    go_wp2_with fail
    obtain⟨V,P⟩:∃V,V=wr.setCell ⟨c.gb,5,none⟩ (.int .i64 5):=⟨_,rfl⟩
    rw[<-P]at Q
    obtain⟨oa,oc,k4,b6,b1,b2,g,b0,a8,u⟩:=Q.out
    have r:=zh u
    clear Q u U z5 a1
    rw[<-P]
    clear P
    generalize (Vm.ended 5 t).out.length=ol at *
    have z0:=g 0
    have z1:=g 1
    clear g
    go_region_law (fail)
    all_goals (
     obtain⟨d,b⟩:∃d,d=((V.setCell ⟨x,0,none⟩ (.int .i64 ((Vm.ended 5 t).way:Int))).setCell ⟨x,1,none⟩ (.slice oa ol oc)).drew:=⟨_,rfl⟩
     rw[<-b]
     obtain⟨B,f0,S⟩:=r.out d b
     have R:=zh B
     clear B b r
     go_wp2_with fail
     exact bodyPost_ret (v:=.agg #[.int .i64 ((Vm.ended 5 t).way:Int),.slice oa ol oc]) (by simp[results,Tryz.results26,go_sem,f0,S]) rfl (by rw[J.out];exact R.out))
  ·obtain⟨oa,oc,k4,U,b1,b2,g,b0,a8,u⟩:=goes_fin (x:=x) L.out X.out a4 l.out
   have b5:¬((t.way:Int)=0):=by omega
   have w:Vm.goes c.most n s=t:=by rw[j.out,goes_end _ _ a]
   have J:=zh w
   have r:=zh u
   clear u a y j l w M I K
   go_wp2_with fail
   generalize t.out.length=ol at *
   have z0:=g 0
   have z1:=g 1
   clear g
   go_region_law (fail)
   all_goals (
    obtain⟨d,b⟩:∃d,d=((wr.setCell ⟨x,0,none⟩ (.int .i64 (t.way:Int))).setCell ⟨x,1,none⟩ (.slice oa ol oc)).drew:=⟨_,rfl⟩
    rw[<-b]
    obtain⟨B,f0,S⟩:=r.out d b
    have R:=zh B
    clear B b r
    go_wp2_with fail
    exact bodyPost_ret (v:=.agg #[.int .i64 (t.way:Int),.slice oa ol oc]) (by simp[results,Tryz.results26,go_sem,f0,S]) rfl (by rw[J.out];exact R.out))
def FitsP (W:World) (o:O) (e:Ending) (W':World):Prop:=e=.returned (if o.uses=[] then .nilIface else .iface 36 (.int .i64 8))/\Below W.heap.size W W'
theorem fits8 {f r B:Nat}{o:O}(l:W.cell? ⟨f,0,none⟩=some (.map none))(h:Jo.OA W r B o)(A:∀u∈o.uses,u.name.length<=1000000) :
  Calls Tryz.prog 23 #[.pointer (some ⟨f,0,none⟩),.pointer (some ⟨r,B,none⟩)] W (FitsP W o):=by
 obtain⟨sa,X,va,pa,na,ca,sc,Y,vc,pc,nc,cc,h⟩:=h
 have m:=h.c2
 have a5:r<W.heap.size:=zg h.c2
 have G:f<W.heap.size:=zg l
 by_cases d:o.uses=[]
 ·have z:Hid (FitsP W o (.returned .nilIface) W):=⟨by rw[if_pos d],Below.refl _ _⟩
  rw[d]at m
  have m:W.cell? ⟨r,B+2,none⟩=some (.slice X 0 Y):=m
  clear h A d l G
  go_enter Tryz.func23,Tryz.ntmps23
  go_wp2_with fail
  go_loopg [13] 0 (fun k C wr=>C=.int .i64 0/\wr=W)
  case atStart=>exact⟨rfl,rfl⟩
  case round =>
   obtain⟨rfl,rfl⟩:=hrel
   go_wp2_with fail
   go_ret
   exact z.out
 ·obtain⟨u,s,c⟩:∃u s,o.uses=u :: s:=by
   cases U:o.uses with
   |nil=>exact absurd U d
   |cons u s=>exact⟨u,s,rfl⟩
  obtain⟨a7,L,V⟩:=h.u
  obtain⟨x,y,H,I,J,P⟩:=RepN.get _ _ L 0 (by rw[c];simp)
  obtain⟨a',c',S,_,j⟩:=V
  cases S
  obtain⟨b,q,rfl,v⟩:=j 0 _ H
  obtain⟨b1,q1,Z,D⟩:=j 1 _ I
  cases Z
  obtain⟨b2,q2,z2,E⟩:=j 2 _ J
  cases z2
  have T:=A u (by rw[c];simp)
  have K:o.uses[0]'(by rw[c];simp)=u:=by simp[c]
  rw[K]at v D E
  have a1:b<W.heap.size:=zg v
  obtain⟨a,i⟩:∃a,a=W.alloc (.cells #[.string (bs u.name),.string (bs u.need),.slice x u.names.length y] 61):=⟨_,rfl⟩
  have g:Below W.heap.size W a:=by rw[i];exact zb _ _
  have w:a.heap[W.heap.size]?=some (.cells #[.string (bs u.name),.string (bs u.need),.slice x u.names.length y] 61 (0,0)):=by rw[i];exact zl _ _
  have a6:a.cell? ⟨W.heap.size,0,none⟩=some (.string (bs u.name)):=(za w).trans rfl
  have a4:a.cell? ⟨f,0,none⟩=some (.map none):=(g.cell (p:=⟨f,0,none⟩) G).trans l
  have a2:W.heap.size<a.heap.size:=zc w
  have a0:f<a.heap.size:=by omega
  have a3:∀n,(Instr.lookup 26 (.map none) (.string (bs u.name)) false).run Tryz.prog (a.drewN n)=.ok (.pointer none) (a.drewN n):=fun n=>yX (a.drewN n) (t:=26) (e:=75) Tryz.underlying26 (by kernel_rfl) u.name T false
  have z:Hid (∀n,FitsP W o (.returned (.iface 36 (.int .i64 8))) (a.drewN n)):=fun n=>⟨by rw[if_neg d],g.trans ((below_drewN a n).mono g.size)⟩
  have N:0<o.uses.length:=by rw[c];simp
  have Q:(0:Int)<(o.uses.length:Int):=by omega
  clear P
  obtain⟨M,F⟩:∃M,M=o.uses.length:=⟨_,rfl⟩
  rw[<-F]at m Q
  have v:W.cell? ⟨b,q,none⟩=some (.string (bs u.name)):=v
  have D:W.cell? ⟨b,q+1,none⟩=some (.string (bs u.need)):=D
  have E:W.cell? ⟨b,q+2,none⟩=some (.slice x u.names.length y):=E
  clear h A l L j H I J g w d c K N F
  go_enter Tryz.func23,Tryz.ntmps23
  go_wp2_with fail
  go_loopg [13] 1 (fun k C wr=>C=.int .i64 0/\k=1/\wr=W)
  case atStart=>exact⟨rfl,rfl,rfl⟩
  case round =>
   obtain⟨rfl,rfl,rfl⟩:=hrel
   go_upto_region 4 with fail
   rw[<-i]
   clear i
   go_quiet (fail)
   have R:=z.out nq
   go_wp2_with fail
   go_ret
   exact R
end Go.Proofs.YtbkndnmglhghlaaGreatDoor.Jo

namespace Go.Proofs.YtbkndnmglhghlaaGreatDoor.Jo
open Go.RowKit Go.Maps
open Ob (O In I64)
theorem mapNil8 (w:World):(binOp .eql 26 (.map none) (.map none)).run Tryz.prog w=.ok (.bool true) w:=by kernel_rfl
def PlaceP (W:World) (mb pb:Nat) (nm:Tp.Bs) (e:Ending) (W':World):Prop:=e=.returned (.tuple #[])/\Go.Proofs.YtbkndnmglhghlaaGreatDoor.Ext mb W W'/\W'.heap[mb]?=some (.cells #[.map (some W.heap.size)] 28 (0,0))/\MapV W' W.heap.size 1 (updV (fun _=>none) nm (.pointer (some ⟨pb,0,none⟩)))
theorem place8 {W:World}{a d e j:Nat}{nm:Tp.Bs}{vv:Value}(i:W.heap[a]?=some (.cells #[.map none] 28 (0,0)))(n:W.heap[d]?=some (.cells #[.pointer (some ⟨e,j,none⟩),vv] 109 (0,0)))(z:d≠a)(o:W.cell? ⟨e,j,none⟩=some (.string (bs nm)))(C:e≠a)(H:nm.length<=1000000) :
  Calls Tryz.prog 25 #[.pointer (some ⟨a,0,none⟩),.pointer (some ⟨d,0,none⟩)] W (PlaceP W a d nm):=by
 have N:=@run_makeMap Tryz.prog
 have O:=@mapNil8
 have E:=zc i
 have y:=zc n
 have B:=zg o
 have J:W.cell? ⟨a,0,none⟩=some (.map none):=(za i).trans rfl
 have I:W.frozen? ⟨a,0,none⟩=false:=zi i
 obtain⟨c,g⟩:∃c,c=(W.setCell ⟨a,0,none⟩ (.map (some W.heap.size))).alloc (.map #[] 0):=⟨_,rfl⟩
 have l:c.heap[a]?=some (.cells #[.map (some W.heap.size)] 28 (0,0)):=by rw[g];exact(Below.heap_alloc _ _ _ (by simpa using E)).trans ((zy 0 _ i).trans rfl)
 have D:c.heap.size=W.heap.size+1:=by rw[g];simp
 have f:Go.Proofs.YtbkndnmglhghlaaGreatDoor.Ext a W c:=by
  rw[g]
  exact((Go.Proofs.YtbkndnmglhghlaaGreatDoor.Ext.refl a W).set 0 _).trans (Go.Proofs.YtbkndnmglhghlaaGreatDoor.Ext.below (zb _ _))
 have m:c.heap[d]?=some (.cells #[.pointer (some ⟨e,j,none⟩),vv] 109 (0,0)):=(f.block d y z).trans n
 have A:c.cell? ⟨e,j,none⟩=some (.string (bs nm)):=(World.cell?_of_block (w:=W) (f.block e B C)).trans o
 have q:MapV c W.heap.size 0 (fun _=>none):=by
  have:=MapV.made (W.setCell ⟨a,0,none⟩ (.map (some W.heap.size)))
  rw[show (W.setCell ⟨a,0,none⟩ (.map (some W.heap.size))).heap.size=W.heap.size by simp]at this
  rw[g]
  exact this
 obtain⟨k,r,u,h,v⟩:=(q.on (w':=c.drew) rfl).store (t:=26) Tryz.underlying26 (by omega) nm H (.pointer (some ⟨d,0,none⟩))
 have r:(Instr.mapUpdate 26 (.map (some W.heap.size)) (.string (bs nm)) (.pointer (some ⟨d,0,none⟩))).run Tryz.prog c.drew=.ok () k:=r
 have p:k.heap[a]?=some (.cells #[.map (some W.heap.size)] 28 (0,0)):=(h.block a (by show a<c.heap.size;omega) (by omega)).trans l
 have s:∀b,b<W.heap.size->b≠a->k.heap[b]?=W.heap[b]?:=fun b F G=>(h.block b (by show b<c.heap.size;omega) (by omega)).trans (f.block b F G)
 have x:Hid (PlaceP W a d nm (.returned (.tuple #[])) k):=⟨rfl,⟨h.os.trans f.os,h.tape.trans f.tape,h.output.trans f.output,by have:k.heap.size=c.heap.size:=v;omega,s⟩,p,u⟩
 have P:c.cell? ⟨a,0,none⟩=some (.map (some W.heap.size)):=(za l).trans rfl
 have Q:c.cell? ⟨d,0,none⟩=some (.pointer (some ⟨e,j,none⟩)):=(za m).trans rfl
 have M:a<c.heap.size:=zc l
 have K:d<c.heap.size:=zc m
 have L:e<c.heap.size:=zg A
 clear i n l m D f q u h v p s o
 go_enter Tryz.func25,Tryz.ntmps25
 go_upto_region 2 with fail
 rw[<-g]
 clear g I J
 go_region
 go_wp2_with fail
 exact ze rfl rfl x.out
theorem Tryz.infoInt64s:(Tryz.prog.info? 29).map (fun i=>(i.zero,i.size,i.bytes))=some (some (.slice none 0 0),1,24):=by kernel_rfl
theorem madeZ8 (n:Nat):madeCells (Value.cells (.int .i64 0)) n=(ints (List.replicate n 0)).toArray:=by
 apply Array.ext
 ·simp[madeCells,ints]
 ·intro i a b
  simp[madeCells,ints,Value.cells]
  rw[Nat.mod_one]
  rfl
theorem run_makeI8 (n:Nat)(f:n<=100000)(w:World):(Instr.makeSlice 29 (.int .i64 (n:Int)) (.int .i64 (n:Int))).run Tryz.prog w=.ok (.slice (some ⟨w.heap.size,0,none⟩) n n) (w.alloc (.cells (ints (List.replicate n 0)).toArray 2)):=by
 obtain⟨e,d,a,b,c⟩:=info_parts Tryz.infoInt64
 have h:=run_make (P:=Tryz.prog) w 29 2 e (.int .i64 0) Tryz.underlying29 d a .i64 .i64 (n:Int) (n:Int) (by omega) (by omega) (by rw[c];omega) (by omega)
 rw[h,b,<-madeZ8]
 simp
def gl8 (l:List Ob.Gl) (i:Nat):Nat:=(max 1 ((l[i]?.map fun g:Ob.Gl=>g.len).getD 1)).toNat
def sl8 (l:List Ob.Gl) (vs:Nat->Nat) (i:Nat):Value:=.slice (some ⟨vs i,0,none⟩) (gl8 l i) (gl8 l i)
structure FI (W:World) (ob oo pb:Nat) (l:List Ob.Gl) (i:Nat) (wr:World) (vs:Nat->Nat) (va:Option Addr) (vc:Nat):Prop where
 be:Below W.heap.size W wr
 pk:wr.heap[pb]?=some (.cells #[.pointer (some ⟨ob,oo,none⟩),.slice va i vc] 109 (0,0))
 ow:wr.ownsRow W.heap.size 29 1 (.slice va i vc) i ((List.range i).map (sl8 l vs))
 vk:∀j,j<i->W.heap.size<=vs j/\wr.heap[vs j]?=some (.cells (ints (List.replicate (gl8 l j) 0)).toArray 2 (0,0))
 inj:∀j k,j<i->k<i->vs j=vs k->j=k
theorem FI.next {W wr f d:World}{D E c i x t n:Nat}{l:List Ob.Gl}{vs:Nat->Nat}{s m:Option Addr}(h:FI W D E c l i wr vs s t)(L:W.heap.size<=c)(o:Below wr.heap.size wr f)(O:wr.heap.size<=x)(p:f.heap[x]?=some (.cells (ints (List.replicate (gl8 l i) 0)).toArray 2 (0,0)))
  (F:d.ownsRow W.heap.size 29 1 (.slice m (i+1) n) (i+1) ((List.range i).map (sl8 l vs)++[.slice (some ⟨x,0,none⟩) (gl8 l i) (gl8 l i)]))(G:f.grownBy d (Value.slice s i t).ownBlock) :
  ∃vs',FI W D E c l (i+1) (d.setCell ⟨c,1,none⟩ (.slice m (i+1) n)) vs' m n:=by
 have g:∀j,j<i->vs j<wr.heap.size:=fun j a=>zc (h.vk j a).2
 have C:c<wr.heap.size:=zc h.pk
 have u:=o.size
 have H:∀b,(Value.slice s i t).ownBlock=some b->W.heap.size<=b:=fun b z=>zL h.ow b z
 have A:∀b,b<f.heap.size->(Value.slice s i t).ownBlock≠some b->d.heap[b]?=f.heap[b]?:=fun b z r=>G.block b z fun e=>r e.symm
 have M:f.heap[c]?=_:=(o.block _ C).trans h.pk
 have B:d.heap[c]?=_:=(A _ (Nat.lt_of_lt_of_le C u) (ym h.ow h.pk (by decide))).trans M
 have I:∀j,j<i->d.heap[vs j]?=some (.cells (ints (List.replicate (gl8 l j) 0)).toArray 2 (0,0)):=fun j a=>(A _ (Nat.lt_of_lt_of_le (g j a) u) (ym h.ow (h.vk j a).2 (by decide))).trans ((o.block _ (g j a)).trans (h.vk j a).2)
 have J:d.heap[x]?=some (.cells (ints (List.replicate (gl8 l i) 0)).toArray 2 (0,0)):=(A _ (zc p) fun e=>by
  have:=(h.ow.lt x e).2
  omega).trans p
 have r:∀{b:Nat} {cs:Array Value},d.heap[b]?=some (.cells cs 2 (0,0))->(d.setCell ⟨c,1,none⟩ (.slice m (i+1) n)).heap[b]?=some (.cells cs 2 (0,0)):=fun {b cs} q=>(Below.heap_setCell _ _ _ _ (vU q B (by decide))).trans q
 refine⟨fun j=>if j=i then x else vs j,?_,?_,?_,?_,?_⟩
 ·exact((h.be.trans (o.mono h.be.size)).grown G (Nat.le_trans h.be.size u) (fun k p=>H k p)).setCell L _
 ·exact(zy 1 _ B).trans rfl
 ·have e:(List.range (i+1)).map (sl8 l fun j=>if j=i then x else vs j)=(List.range i).map (sl8 l vs)++[.slice (some ⟨x,0,none⟩) (gl8 l i) (gl8 l i)]:=by
   rw[List.range_succ,List.map_append]
   congr 1
   ·apply List.map_congr_left
    intro j a
    have:=List.mem_range.1 a
    have K:j≠i:=by omega
    simp[sl8,K]
   ·simp[sl8]
  rw[e]
  exact zB F fun b _ _ q=>Below.heap_setCell _ _ _ _ fun v=>by
   have v:b=c:=v
   exact ym F B (by decide) (v ▸ q)
 ·intro j a
  by_cases e:j=i
  ·subst e
   rw[if_pos rfl]
   exact⟨by have:=h.be.size;omega,r J⟩
  ·rw[if_neg e]
   exact⟨(h.vk j (by omega)).1,r (I j (by omega))⟩
 ·intro j k a N e
  by_cases w:j=i<;>by_cases y:k=i
  ·omega
  ·rw[if_pos w,if_neg y]at e
   have:=g k (by omega)
   omega
  ·rw[if_neg w,if_pos y]at e
   have:=g j (by omega)
   omega
  ·rw[if_neg w,if_neg y]at e
   exact h.inj j k (by omega) (by omega) e
def FreshP (W:World) (ob oo:Nat) (l:List Ob.Gl) (e:Ending) (W':World):Prop:=∃pb vs va vc,e=.returned (.pointer (some ⟨pb,0,none⟩))/\W.heap.size<=pb/\FI W ob oo pb l l.length W' vs va vc
theorem fresh8 {W:World}{d m:Nat}{o:O}(h:Jo.OA W d m o)(hl:o.vars.length<=1000)(hg:∀g∈o.vars,g.len<=1000) :
  Calls Tryz.prog 24 #[.pointer (some ⟨d,m,none⟩)] W (FreshP W d m o.vars):=by
 obtain⟨sa,ua,x,pa,na,ca,sc,uc,B,pc,nc,cc,h⟩:=h
 obtain⟨c,P⟩:∃c,c=W.heap.size:=⟨_,rfl⟩
 obtain⟨C,Q⟩:∃C,C=W.alloc (.cells #[.pointer (some ⟨d,m,none⟩),.slice none 0 0] 109):=⟨_,rfl⟩
 have V:Below W.heap.size W C:=by rw[Q];exact zb _ _
 have b1:C.heap[c]?=some (.cells #[.pointer (some ⟨d,m,none⟩),.slice none 0 0] 109 (0,0)):=by rw[Q,P];exact zl _ _
 have T:Hid (∃vs x B,FI W d m c o.vars 0 C vs x B):=⟨fun _=>0,none,0,V,b1,World.ownsRow_nil _ _ _ _,fun j A=>by omega,fun j k A=>by omega⟩
 have b0:Hid (W.heap.size<=c):=by rw[P];exact Nat.le_refl _
 have HV:Hid (∀i (l:i<o.vars.length),∃b q,x=some ⟨b,q,none⟩/\∀wr,Below W.heap.size W wr->b<wr.heap.size/\wr.cell? ⟨b,q+i*4,none⟩=some (.string (bs o.vars[i].name))/\wr.cell? ⟨b,q+i*4+1,none⟩=some (.int .i64 o.vars[i].at')/\wr.cell? ⟨b,q+i*4+2,none⟩=some (.int .i64 o.vars[i].len)/\wr.cell? ⟨b,q+i*4+3,none⟩=some (.bool o.vars[i].seen)):=fun i l=>by
  obtain⟨b,q,e,z,hc⟩:=Sl.at' uz (by omega) h.v i l
  refine⟨b,q,e,fun wr hr=>?_⟩
  have k:∀j u,(glC o.vars[i])[j]?=some u->wr.cell? ⟨b,q+(i*4+j),none⟩=some u:=fun j u A=>(hr.cell (p:=⟨b,q+(i*4+j),none⟩) z).trans (hc j u A)
  exact⟨Nat.lt_of_lt_of_le z hr.size,k 0 _ rfl,by simpa[Nat.add_assoc] using k 1 _ rfl,by simpa[Nat.add_assoc] using k 2 _ rfl,by simpa[Nat.add_assoc] using k 3 _ rfl⟩
 have k3:C.cell? ⟨d,m+3,none⟩=some (.slice x o.vars.length B):=(V.cell (p:=⟨d,m+3,none⟩) (zg h.c3)).trans h.c3
 have d8:d<C.heap.size:=zg k3
 have H:=fun i=>run_makeI8 (gl8 o.vars i) (by
  unfold gl8
  cases q:o.vars[i]? with
  |none=>simp
  |some g =>
   have:=hg g (List.mem_of_getElem? q)
   simp only[Option.map_some,Option.getD_some]
   omega)
 have a5:Hid (∀(i:Nat) (w:World),(Instr.makeSlice 29 (.int .i64 (gl8 o.vars i:Int)) (.int .i64 (gl8 o.vars i:Int))).run Tryz.prog w=.ok (.slice (some ⟨w.heap.size,0,none⟩) (gl8 o.vars i) (gl8 o.vars i)) (w.alloc (.cells (ints (List.replicate (gl8 o.vars i) 0)).toArray 2))):=H
 have a3:Hid (∀i (l:i<o.vars.length),(if o.vars[i].len<1 then 1 else o.vars[i].len)=(gl8 o.vars i:Int)):=fun i l=>by
  unfold gl8
  rw[List.getElem?_eq_getElem l]
  simp only[Option.map_some,Option.getD_some]
  split<;>omega
 have a4:Hid (∀i (l:i<o.vars.length),o.vars[i].len<=1000):=fun i l=>hg _ (List.getElem_mem l)
 obtain⟨n,b2⟩:∃n,n=o.vars.length:=⟨_,rfl⟩
 have F:=zh b2
 rw[<-b2]at k3 hl
 have d7:(n:Int)<=1000:=by omega
 clear h V b1 H hg
 go_enter Tryz.func24,Tryz.ntmps24
 go_upto_region 2 with fail
 rw[<-P,<-Q]
 clear P Q
 go_wp2_with fail
 go_loopg [14] n (fun k vi wr=>∃i:Nat,i<=n/\k=n-i/\vi=.int .i64 (i:Int)/\Hid (∃vs x B,FI W d m c o.vars i wr vs x B))
 case atStart=>exact⟨0,by omega,by omega,by simp,T⟩
 case round =>
  obtain⟨i,d4,d5,rfl,M⟩:=hrel
  by_cases c1:i<n
  ·have b9:(i:Int)<(n:Int):=by omega
   have l:i<o.vars.length:=by rw[<-F.out];exact c1
   obtain⟨vs,D,E,f⟩:=M.out
   obtain⟨b,q,rfl,hv⟩:=HV.out i l
   obtain⟨d3,y0,y1,y2,y3⟩:=hv wr f.be
   have Z:=a3.out i l
   have H:=a5.out i
   obtain⟨a,R⟩:∃a,a=wr.alloc (.cells #[.string (bs o.vars[i].name),.int .i64 o.vars[i].at',.int .i64 o.vars[i].len,.bool o.vars[i].seen] 57):=⟨_,rfl⟩
   have s:Below wr.heap.size wr a:=by rw[R];exact zb _ _
   have Y:a.heap[wr.heap.size]?=some (.cells #[.string (bs o.vars[i].name),.int .i64 o.vars[i].at',.int .i64 o.vars[i].len,.bool o.vars[i].seen] 57 (0,0)):=by rw[R];exact zl _ _
   have I:=(s.block _ (zc f.pk)).trans f.pk
   have x2:a.cell? ⟨wr.heap.size,2,none⟩=some (.int .i64 o.vars[i].len):=(za Y).trans rfl
   have p1:a.cell? ⟨c,1,none⟩=some (.slice D i E):=(za I).trans rfl
   have c5:wr.heap.size<a.heap.size:=zc Y
   have c2:c<a.heap.size:=zc I
   obtain⟨gn,X⟩:∃gn,gn=gl8 o.vars i:=⟨_,rfl⟩
   rw[<-X]at Z H
   have d1:gn<=1000:=by
    have d6:o.vars[i].len<=1000:=a4.out i l
    split at Z<;>omega
   have b4:Below a.heap.size a ((a.alloc (.cells (ints (List.replicate gn 0)).toArray 2)).alloc (.cells #[.slice (some ⟨a.heap.size,0,none⟩) gn gn] 29)):=(zb _ _).alloc (by simp) _
   have r:=zh b4
   have a1:(a.alloc (.cells (ints (List.replicate gn 0)).toArray 2)).heap.size=a.heap.size+1:=by simp
   have a7:Hid (((a.alloc (.cells (ints (List.replicate gn 0)).toArray 2)).alloc (.cells #[.slice (some ⟨a.heap.size,0,none⟩) gn gn] 29)).heap[a.heap.size+1]?=some (.cells #[.slice (some ⟨a.heap.size,0,none⟩) gn gn] 29 (0,0))):=by
    have:=zl (a.alloc (.cells (ints (List.replicate gn 0)).toArray 2)) (.cells #[.slice (some ⟨a.heap.size,0,none⟩) gn gn] 29)
    rw[a1]at this
    exact this
   have a6:Hid (((a.alloc (.cells (ints (List.replicate gn 0)).toArray 2)).alloc (.cells #[.slice (some ⟨a.heap.size,0,none⟩) gn gn] 29)).heap[a.heap.size]?=some (.cells (ints (List.replicate gn 0)).toArray 2 (0,0))):=(Below.heap_alloc _ _ _ (by simp)).trans (zl a _)
   have N:Hid (∀y,Below a.heap.size a y->y.ownsRow W.heap.size 29 1 (.slice D i E) i ((List.range i).map (sl8 o.vars vs))):=fun y z=>zB f.ow fun b' _ t _=>(z.block b' (Nat.lt_of_lt_of_le t s.size)).trans (s.block b' t)
   have a2:Hid (W.heap.size<=a.heap.size):=Nat.le_trans f.be.size s.size
   have a9:Hid (∀y L J K,Below a.heap.size a y->y.heap[a.heap.size]?=some (.cells (ints (List.replicate gn 0)).toArray 2 (0,0))->L.ownsRow W.heap.size 29 1 (.slice J (i+1) K) (i+1) ((List.range i).map (sl8 o.vars vs)++[.slice (some ⟨a.heap.size,0,none⟩) gn gn])->y.grownBy L (Value.slice D i E).ownBlock->(∃a0 x B,FI W d m c o.vars (i+1) (L.setCell ⟨c,1,none⟩ (.slice J (i+1) K)) a0 x B)/\L.heap[c]?=some (.cells #[.pointer (some ⟨d,m,none⟩),.slice D i E] 109 (0,0))):=fun y L J K z hk G t=>by
    rw[X]at hk G
    obtain⟨a0,b7⟩:=f.next b0.out (s.trans (z.mono s.size)) s.size hk G t
    refine⟨⟨a0,_,_,b7⟩,?_⟩
    have:=f.pk
    have b3:=(z.block _ (zc I)).trans I
    exact(t.block _ (zc b3) (fun e=>ym f.ow f.pk (by decide) e.symm)).trans b3
   clear f M s Y I T hv X b4 a1
   generalize o.vars[i].len=ln at *
   obtain⟨i0,c0,c6,c7,c8⟩:=info_parts Tryz.infoInt64s
   go_upto_region 5 with fail
   rw[<-R]
   clear R y0 y1 y2 y3
   go_region_law (first|(refine zE rfl (.tmp 22) (.tmp 27) 107 rfl W.heap.size 29 i0 (.slice none 0 0) 1 24 Tryz.underlying107 c0 c6 c7 c8 rfl (by decide) (.slice D i E) i ((List.range i).map (sl8 o.vars vs)) (by simp[Act.eval]) ?own ⟨a.heap.size+1,0,none⟩ 1 1 [.slice (some ⟨a.heap.size,0,none⟩) gn gn] (by simp[Act.eval]) rfl ?news (by intro u hu;simp at hu;subst hu;rfl) (by unfold maxLen;omega) (by omega) ?base ?_;(case own=>first|exact N.out _ r.out.drew.drew|exact N.out _ r.out.drew|exact N.out _ r.out);(case news=>(intro j u A;rw[Addr.add_lit];cases j with|zero=>(simp at A;subst A;exact(za a7.out).trans rfl)|succ j=>simp at A));(case base=>have:=a2.out;have:=r.out.size;simp;omega);intro d9 S G t q3;obtain⟨a8,d2,c4⟩:=z7 G;subst c4;have F:=a9.out _ S _ _ (by first|exact r.out.drew.drew|exact r.out.drew|exact r.out) (by exact a6.out) G t;have U:=F.2;have b5:S.cell? ⟨c,1,none⟩=some (.slice D i E):=(za U).trans rfl;have d0:S.frozen? ⟨c,1,none⟩=false:=zi U;have c9:c<S.heap.size:=zg b5;have b6:=zh F.1;clear F U G t q3))
   all_goals (
    clear a9 N r a7 a6 a2 b5 d0 c9 H Z x2 p1 c2 c5
    go_wp2_with fail
    go_roundg (n-(i+1))
    case measure=>omega
    case rel=>exact⟨i+1,by omega,rfl,by first|rfl|(congr 1;done)|(simp;done),b6⟩)
  ·have b8:i=n:=by omega
   subst b8
   have b9:¬((i:Int)<(i:Int)):=by omega
   have HR:Hid (FreshP W d m o.vars (.returned (.pointer (some ⟨c,0,none⟩))) wr):=by
    obtain⟨vs,J,K,f⟩:=M.out
    refine⟨c,vs,J,K,rfl,b0.out,?_⟩
    rw[<-F.out]
    exact f
   clear M T a5 a3 a4 HV
   go_wp2_with fail
   go_ret
   exact HR.out
end Go.Proofs.YtbkndnmglhghlaaGreatDoor.Jo

namespace Go.Proofs.YtbkndnmglhghlaaGreatDoor.Jo
open Go.RowKit Go.Maps
open Ob (O In I64)
open Vm (St Fr Pl)
def vv0 (o:O):List (List Int):=(List.range o.vars.length).map fun i=>List.replicate (gl8 o.vars i) 0
def f0 (o:O):Fr:=⟨o.name,0,0,0,zeros 10⟩
def s0 (o:O):Vm.St:=⟨thr o (vv0 o),[f0 o],[],[],0⟩
def ldc (We Wp:World) (mb gb pb tb ob oo:Nat) (o:O) (vs:Nat->Nat) (va:Option Addr) (vc:Nat):Vx :=
 ⟨We.setCell ⟨mb,0,none⟩ (.map (some tb)),gb,pb,(va.map (·.block)).getD pb,tb,ob,oo,o,31,vs,va,vc,fun b=>if b=tb then Wp.heap[tb]? else none⟩
theorem map_blk8 {w:World}{b n:Nat}{f:Tp.Bs->Option Value}(h:MapV w b n f):∃a c,w.heap[b]?=some (.map a c):=by
 obtain⟨D,⟨a,clock,d,_⟩,_⟩:=h.own
 exact⟨a,clock,d⟩
theorem code_pos {o:O}(h:Ob.rightB o=true):0<o.code.length:=by
 unfold Ob.rightB Ob.codeB at h
 simp only[Bool.and_eq_true]at h
 have a:=h.2.2.2
 unfold Ob.lastB at a
 cases b:o.code with
 |nil=>rw[b]at a;simp at a
 |cons x l=>simp
theorem inv0 {o:O}(h:Ob.rightB o=true):Inv o (s0 o):=⟨by simp[s0],fun f a=>by
 have e:f=f0 o:=by simpa[s0] using a
 rw[e]
 exact code_pos h,⟨Nat.le_refl _,trivial⟩⟩
theorem start8 {B c H h r D:World}{j l u w fb gb:Nat}{o:O}{vs:Nat->Nat}{n:Option Addr}{y:Nat}
  (a7:Jo.OA B u w o)(X:Below B.heap.size B c)(a6:B.heap.size<=j)(b9:j<c.heap.size)(M:∃v,c.heap[j]?=some (.cells #[v] 28 (0,0)))
  (P:2<B.heap.size)(Z:∀i,i<11->B.cell? ⟨2,i,none⟩=some (.string (bs (Vm.marks8.getD i []))))
  (b0:Ob.rightB o=true)(a1:∀x∈o.code,I64 x.a)(b1:o.uses=[])
  (F:Below c.heap.size c H)(m:FI H u w l o.vars o.vars.length h vs n y)(c0:H.heap.size<=l)
  (hx:PlaceP h j l o.name (.returned (.tuple #[])) r)(E:Below r.heap.size r D)(b8:r.heap.size<=gb)(b6:r.heap.size<=fb)
  (a4:D.heap[fb]?=some (.cells (frC (ldc c r j gb l h.heap.size u w o vs n y) (f0 o)).toArray 81 (0,0))) :
  VxOk (ldc c r j gb l h.heap.size u w o vs n y)/\MM (ldc c r j gb l h.heap.size u w o vs n y) D (s0 o) (vv0 o) (.slice (some ⟨fb,0,none⟩) 1 1) (.slice none 0 0) (.slice none 0 0):=by
 obtain⟨_,G,b4,Y⟩:=hx
 obtain⟨mv,M⟩:=M
 have z:(c.setCell ⟨j,0,none⟩ (.map (some h.heap.size))).heap.size=c.heap.size:=by simp
 have b7:c.heap.size<=h.heap.size:=Nat.le_trans F.size m.be.size
 have a5:h.heap.size<=r.heap.size:=G.size
 have a8:l<h.heap.size:=zc m.pk
 have c1:c.heap.size<=H.heap.size:=F.size
 have K:∀b,b<h.heap.size->b≠j->D.heap[b]?=h.heap[b]?:=fun b J V=>(E.block b (Nat.lt_of_lt_of_le J a5)).trans (G.block b J V)
 have U:Below B.heap.size B (c.setCell ⟨j,0,none⟩ (.map (some h.heap.size))):=X.setCell a6 _
 have a0:∀i,i<o.vars.length->vs i<h.heap.size:=fun i t=>zc (m.vk i t).2
 have b3:∀i,i<o.vars.length->vs i≠j:=fun i t e=>by have:=(m.vk i t).1;omega
 have T:∀b q,n=some ⟨b,q,none⟩->H.heap.size<=b/\b<h.heap.size/\∃C,h.heap[b]?=some (.cells C 29 (0,0)):=fun b q e=>by
  rcases m.ow.2 with⟨d,_⟩|⟨g,cap,C,d,I,e3,_⟩
  ·rw[e]at d
   injection d with d
   cases d
  ·rw[e]at d
   injection d with d
   cases d
   exact⟨I,zc e3,C,e3⟩
 have S:n=none\/∃b,n=some ⟨b,0,none⟩:=by
  rcases m.ow.2 with⟨d,_⟩|⟨g,cap,C,d,_⟩
  ·injection d with d
   exact Or.inl d
  ·injection d with d
   exact Or.inr ⟨g,d⟩
 have ok:VxOk (ldc c r j gb l h.heap.size u w o vs n y):=by
  refine⟨a7.below U,b0,a1,b1,?_,?_,?_,?_,m.inj,Nat.le_refl _,?_,?_⟩
  ·show (c.setCell _ _).heap.size<=gb
   rw[z];omega
  ·show (c.setCell _ _).heap.size<=l/\l≠gb
   rw[z];omega
  ·show (c.setCell _ _).heap.size<=(n.map (·.block)).getD l/\(n.map (·.block)).getD l≠gb
   rw[z]
   rcases S with rfl|⟨b,rfl⟩
   ·simp only[Option.map_none,Option.getD_none];omega
   ·have:=T b 0 rfl
    simp only[Option.map_some,Option.getD_some];omega
  ·intro i t
   show (c.setCell _ _).heap.size<=vs i/\vs i<gb/\vs i≠l/\vs i≠(n.map (·.block)).getD l
   have J:=m.vk i t
   have V:=a0 i t
   have W:vs i≠l:=vU J.2 m.pk (by decide)
   rw[z]
   refine⟨by omega,by omega,W,?_⟩
   rcases S with rfl|⟨b,rfl⟩
   ·exact W
   ·obtain⟨_,_,C,h4⟩:=T b 0 rfl
    exact vU J.2 h4 (by decide)
  ·show _<(c.setCell _ _).heap.size
   rw[z]
   exact Nat.lt_of_lt_of_le P X.size
  ·intro i t
   exact(U.cell (p:=⟨_,i,none⟩) P).trans (Z i t)
 refine⟨ok,?_⟩
 have a2:Below (c.setCell ⟨j,0,none⟩ (.map (some h.heap.size))).heap.size (c.setCell ⟨j,0,none⟩ (.map (some h.heap.size))) D:=by
  have d:=(Below.refl 0 c).setCell (p:=⟨j,0,none⟩) (Nat.zero_le _) (.map (some h.heap.size))
  refine⟨E.os.trans (G.os.trans (m.be.os.trans (F.os.trans d.os.symm))),E.tape.trans (G.tape.trans (m.be.tape.trans (F.tape.trans d.tape.symm))),E.output.trans (G.output.trans (m.be.output.trans (F.output.trans d.output.symm))),?_,?_⟩
  ·rw[z];have:=E.size;omega
  ·intro k R
   rw[z]at R
   by_cases e:k=j
   ·rw[e]
    exact(E.block j (by omega)).trans (b4.trans ((zy 0 _ M).trans rfl).symm)
   ·exact(K k (by omega) e).trans ((m.be.block k (by omega)).trans ((F.block k R).trans (Below.heap_setCell _ _ _ _ (by simpa using e)).symm))
 have a9:l≠j:=by omega
 refine⟨a2,(K l a8 a9).trans m.pk,?_,rfl,by simp[vv0,ldc],fun i t=>?_,?_,World.ownsRow_nil _ _ _ _,World.ownsRow_nil _ _ _ _,fun b s=>by (cases s),Nat.zero_le _,fun v A=>by (cases A),Nat.zero_le _,fun v A=>by (cases A),by simp[s0],by simp[s0,ldc],fun f a3=>?_,fun b b5 s=>?_⟩
 ·show Row D (fun b=>b=(n.map (·.block)).getD l) 29 1 (.slice n o.vars.length y) o.vars.length ((List.range o.vars.length).map (sl8 o.vars vs))
  rcases m.ow.2 with⟨d,I⟩|⟨g,cap,C,d,I,e3,e4,e5,e6,e7⟩
  ·exact Or.inl ⟨d,I,by rw[I];simp⟩
  ·have L:=d
   injection L with L
   refine Or.inr ⟨g,cap,C,d,by rw[L];rfl,(K g (zc e3) (by omega)).trans e3,e4,e5,e6,e7⟩
 ·have Q:i<o.vars.length:=by simpa[vv0] using t
  have A:=m.vk i Q
  have e:(vv0 o)[i]=List.replicate (gl8 o.vars i) 0:=by simp[vv0]
  rw[e]
  refine⟨List.length_replicate,(K _ (zc A.2) (b3 i Q)).trans A.2,fun v b2=>?_⟩
  rw[List.eq_of_mem_replicate b2]
  unfold I64
  omega
 ·have N:(frC (ldc c r j gb l h.heap.size u w o vs n y) (f0 o)).length=14:=by simp[frC,ints,f0,zeros]
  have e:frs (ldc c r j gb l h.heap.size u w o vs n y) [f0 o]=frC (ldc c r j gb l h.heap.size u w o vs n y) (f0 o):=by simp[frs]
  show World.ownsRow D (c.setCell _ _).heap.size _ 14 _ 1 (frs _ [f0 o])
  rw[e,z]
  refine⟨by rw[N],Or.inr ⟨fb,1,_,rfl,by omega,a4,Nat.le_refl _,by unfold maxLen;omega,by simp[N],?_⟩⟩
  rw[List.take_of_length_le (by simp[N])]
 ·have e:f=f0 o:=by simpa[s0] using a3
  rw[e]
  exact⟨rfl,by simp[f0,zeros],fun v A=>by
   have:=List.eq_of_mem_replicate A
   rw[this]
   unfold I64
   omega,Nat.zero_le _,Nat.zero_le _,Nat.zero_le _⟩
 ·have s:(if b=h.heap.size then r.heap[h.heap.size]? else none)=some b5:=s
  by_cases e:b=h.heap.size
  ·rw[if_pos e]at s
   rw[e]
   refine⟨(E.block _ (jo s)).trans s,fun cs e' f q=>?_⟩
   obtain⟨es,cl,hm⟩:=map_blk8 Y
   rw[hm]at s
   cases s
   cases q
  ·rw[if_neg e]at s
   cases s
end Go.Proofs.YtbkndnmglhghlaaGreatDoor.Jo

namespace Go.Proofs.YtbkndnmglhghlaaGreatDoor.Jo
open Go.RowKit Go.Maps
open Ob (O In I64)
variable {vv:List (List Int)}{sv:Value}{f:Vm.Fr}{s:Vm.St}{c:Vx}{W:World}
theorem MM.without {e g:Value}{x:Nat}(h:MM (c.with (some x)) W s vv e sv g)(i:c.eb x=none):MM c W s vv e sv g :=
 ⟨h.be,h.pk,h.vk,h.th,h.vn,h.vm,h.fr,h.st,h.ou,h.dj,h.sl,h.si,h.ol,h.oi,h.fl,h.fm,fun f a=>⟨(h.ff f a).of,(h.ff f a).ll,(h.ff f a).li,(h.ff f a).mn,(h.ff f a).at',(h.ff f a).bs⟩,fun b o d=>h.ek b o (by
   show (if some x=some b then _ else _)=_
   rw[if_neg (fun q=>by cases q;rw[i]at d;cases d)]
   exact d)⟩
def LoadP8 (W:World) (mb:Nat) (o:O) (fuel:Nat) (e:Ending) (W':World):Prop:=∃c oa oc,e=.returned (.tuple #[.agg #[.int .i64 ((Vm.goes 31 fuel (s0 o)).way:Int),.slice oa (Vm.goes 31 fuel (s0 o)).out.length oc],.nilIface])/\VxOk c/\c.O=o/\W.heap.size<=c.gb/\c.w0.heap.size=W.heap.size/\MV c W' (Vm.goes 31 fuel (s0 o))/\W'.ownsRow (c.gb+1) 2 1 (.slice oa (Vm.goes 31 fuel (s0 o)).out.length oc) (Vm.goes 31 fuel (s0 o)).out.length (ints (Vm.goes 31 fuel (s0 o)).out)/\(∀b,b<W.heap.size->b≠mb->W'.heap[b]?=W.heap[b]?)/\W'.heap[mb]?=some (.cells #[.map (some c.tb)] 28 (0,0))/\MapV W' c.tb 1 (updV (fun _=>none) o.name (.pointer (some ⟨c.pb,0,none⟩)))/\Below 0 W W'/\c.vb<W'.heap.size
theorem load8 {m:World}{j r A:Nat}{o:O}(C:Jo.OA m r A o)(K:Below m.heap.size m W)(a9:m.heap.size<=j)(E:W.heap[j]?=some (.cells #[.map none] 28 (0,0)))
  (Z:2<m.heap.size)(S:∀i,i<11->m.cell? ⟨2,i,none⟩=some (.string (bs (Vm.marks8.getD i []))))
  (hB:Bd o)(H:Ob.rightB o=true)(U:∀x∈o.code,I64 x.a)(I:o.uses=[])(c4:o.name.length<=1000000)(g0:o.vars.length<=1000)(f9:∀g∈o.vars,g.len<=1000)(f:Nat)(h9:f<=1000000) :
  Calls Tryz.prog 7 #[.pointer (some ⟨j,0,none⟩),.pointer (some ⟨r,A,none⟩),.int .i64 (f:Int)] W (LoadP8 W j o f):=by
 obtain⟨d,b3⟩:∃d,d=W.alloc (.cells #[.int .i64 0,.slice none 0 0] 31):=⟨_,rfl⟩
 have V:Below W.heap.size W d:=by rw[b3];exact zb _ _
 have f4:d.heap[W.heap.size]?=some (.cells #[.int .i64 0,.slice none 0 0] 31 (0,0)):=by rw[b3];exact zl _ _
 have P:=zc E
 have b0:r<m.heap.size:=by
  obtain⟨_,_,_,_,_,_,_,_,_,_,_,_,h⟩:=C
  exact zg h.c0
 have f6:m.cell? ⟨r,A,none⟩=some (.string (bs o.name)):=by
  obtain⟨_,_,_,_,_,_,_,_,_,_,_,_,h⟩:=C
  exact h.c0
 have T:Below m.heap.size m d:=K.trans (V.mono K.size)
 have b9:Hid (∀w,Below d.heap.size d w->Jo.OA w r A o):=fun w y=>C.below (T.trans (y.mono T.size))
 have e0:Hid (∀w,Below d.heap.size d w->w.cell? ⟨r,A,none⟩=some (.string (bs o.name))/\r<w.heap.size):=fun w y=>by
  have hk:=T.trans (y.mono T.size)
  exact⟨(hk.cell (p:=⟨r,A,none⟩) b0).trans f6,Nat.lt_of_lt_of_le b0 hk.size⟩
 have a5:Hid (∀w,Below d.heap.size d w->w.heap[j]?=some (.cells #[.map none] 28 (0,0))):=fun w y=>(y.block _ (Nat.lt_of_lt_of_le P V.size)).trans ((V.block _ P).trans E)
 have HR:=zh (right_oa (b9.out d (Below.refl _ _)) hB)
 rw[H]at HR
 have c8:∀w,Below d.heap.size d w->Calls Tryz.prog 23 #[.pointer (some ⟨j,0,none⟩),.pointer (some ⟨r,A,none⟩)] w fun e W'=>e=.returned .nilIface/\Below w.heap.size w W':=fun w y=>by
  refine(fits8 ((za (a5.out w y)).trans rfl) (b9.out w y) (fun u hu=>by rw[I]at hu;cases hu)).mono ?_
  rintro e W'⟨h1,h2⟩
  rw[if_pos I]at h1
  exact⟨h1,h2⟩
 have c7:=zh c8
 have c6:Hid (∀w,Below d.heap.size d w->Calls Tryz.prog 24 #[.pointer (some ⟨r,A,none⟩)] w (FreshP w r A o.vars)):=fun w y=>fresh8 (b9.out w y) g0 f9
 have f5:∀(w:World) n,(Instr.lookup 26 (.map none) (.string (bs o.name)) false).run Tryz.prog (w.drewN n)=.ok (.pointer none) (w.drewN n):=fun w n=>yX (w.drewN n) (t:=26) (e:=75) Tryz.underlying26 (by kernel_rfl) o.name c4 false
 have h5:=zh f5
 have d6:=zh V
 have d9:=zh f4
 have b4:Hid (Jo.OA m r A o/\Below m.heap.size m W/\m.heap.size<=j/\j<W.heap.size/\W.heap[j]?=some (.cells #[.map none] 28 (0,0))/\2<m.heap.size/\(∀i,i<11->m.cell? ⟨2,i,none⟩=some (.string (bs (Vm.marks8.getD i []))))/\Ob.rightB o=true/\(∀x∈o.code,I64 x.a)/\o.uses=[]):=⟨C,K,a9,P,E,Z,S,H,U,I⟩
 have h6:=zh c4
 have g3:=zh b0
 clear C K V f4 b0 f6 T hB H U I g0 f9 c8 f5 E Z S c4
 go_enter Tryz.func7,Tryz.ntmps7
 go_upto_region 1 with fail
 rw[<-b3]
 clear b3
 go_wp2_with fail
 refine HR.out.mono ?_
 rintro e F⟨rfl,a6⟩
 have d7:Hid (Below d.heap.size d F):=a6
 have m1:F.cell? ⟨j,0,none⟩=some (.map none):=(za (a5.out F a6)).trans rfl
 obtain⟨n1,g8⟩:=e0.out F a6
 have g4:=h5.out F
 have g5:j<F.heap.size:=zg m1
 clear a6
 go_wp2_with fail
 go_quiet (fail)
 go_wp2_with fail
 have b6:Hid (Below d.heap.size d (F.drewN nq)):=d7.out.trans ((below_drewN F nq).mono d7.out.size)
 refine(c7.out _ b6.out).mono ?_
 rintro e w3⟨rfl,e9⟩
 have L:Hid (Below d.heap.size d w3):=b6.out.trans (e9.mono b6.out.size)
 clear e9 m1 n1 g8 g4 g5 c7
 have m3:w3.cell? ⟨j,0,none⟩=some (.map none):=(za (a5.out w3 L.out)).trans rfl
 have g6:j<w3.heap.size:=zg m3
 go_wp2_with fail
 refine(c6.out _ L.out).mono ?_
 rintro e l⟨z,vs,va,vc,rfl,f7,a8⟩
 have b8:=zh a8
 have e5:=zh f7
 have b7:Hid (Below d.heap.size d l):=L.out.trans (a8.be.mono L.out.size)
 have f8:z≠j:=by omega
 have e6:Hid (Calls Tryz.prog 25 #[.pointer (some ⟨j,0,none⟩),.pointer (some ⟨z,0,none⟩)] l (PlaceP l j z o.name)):=place8 (a5.out l b7.out) a8.pk f8 (e0.out l b7.out).1 (by have:=b4.out.2.2.1;have:=g3.out;omega) h6.out
 clear a8 f7 m3 g6 c6
 go_wp2_with fail
 refine e6.out.mono ?_
 intro e k i2
 obtain⟨rfl,d5,b5,d4⟩:=i2
 have m5:k.cell? ⟨j,0,none⟩=some (.map (some l.heap.size)):=(za b5).trans rfl
 have i5:j<k.heap.size:=zg m5
 have M:Hid (PlaceP l j z o.name (.returned (.tuple #[])) k):=⟨rfl,d5,b5,d4⟩
 clear d5 b5 d4 e6
 obtain⟨C,K,a9,P,E,Z,S,H,U,I⟩:=b4.out
 obtain⟨B,a3⟩:∃B,B=((k.alloc (.cells #[.pointer (some ⟨z,0,none⟩),.int .i64 0,.int .i64 0,.int .i64 0,.int .i64 0,.int .i64 0,.int .i64 0,.int .i64 0,.int .i64 0,.int .i64 0,.int .i64 0,.int .i64 0,.int .i64 0,.int .i64 0] 81)).alloc (.cells #[.map (some l.heap.size),.slice (some ⟨k.heap.size,0,none⟩) 1 1,.int .i64 31,.slice none 0 0,.slice none 0 0,.int .i64 0] 84)):=⟨_,rfl⟩
 have c2:Below k.heap.size k B:=by rw[a3];exact(zb _ _).alloc (by simp) _
 have f3:B.heap[k.heap.size]?=some (.cells #[.pointer (some ⟨z,0,none⟩),.int .i64 0,.int .i64 0,.int .i64 0,.int .i64 0,.int .i64 0,.int .i64 0,.int .i64 0,.int .i64 0,.int .i64 0,.int .i64 0,.int .i64 0,.int .i64 0,.int .i64 0] 81 (0,0)):=by
  rw[a3];exact(Below.heap_alloc _ _ _ (by simp)).trans (zl k _)
 have d2:B.heap[k.heap.size+1]?=some (.cells #[.map (some l.heap.size),.slice (some ⟨k.heap.size,0,none⟩) 1 1,.int .i64 31,.slice none 0 0,.slice none 0 0,.int .i64 0] 84 (0,0)):=by
  have:=zl (k.alloc (.cells #[.pointer (some ⟨z,0,none⟩),.int .i64 0,.int .i64 0,.int .i64 0,.int .i64 0,.int .i64 0,.int .i64 0,.int .i64 0,.int .i64 0,.int .i64 0,.int .i64 0,.int .i64 0,.int .i64 0,.int .i64 0] 81)) (.cells #[.map (some l.heap.size),.slice (some ⟨k.heap.size,0,none⟩) 1 1,.int .i64 31,.slice none 0 0,.slice none 0 0,.int .i64 0] 84)
  rw[show (k.alloc (.cells #[.pointer (some ⟨z,0,none⟩),.int .i64 0,.int .i64 0,.int .i64 0,.int .i64 0,.int .i64 0,.int .i64 0,.int .i64 0,.int .i64 0,.int .i64 0,.int .i64 0,.int .i64 0,.int .i64 0,.int .i64 0] 81)).heap.size=k.heap.size+1 by simp]at this
  rw[a3]
  exact this
 have e7:Below W.heap.size W w3:=d6.out.trans (L.out.mono d6.out.size)
 obtain⟨ok,c3⟩:=start8 (gb:=k.heap.size+1) (fb:=k.heap.size) C K a9 P ⟨_,E⟩ Z S H U I e7 b8.out e5.out M.out c2 (by omega) zn (f3.trans rfl)
 obtain⟨c,q⟩:∃c,c=ldc W k j (k.heap.size+1) z l.heap.size r A o vs va vc:=⟨_,rfl⟩
 have X:c.gb=k.heap.size+1:=by rw[q];rfl
 have f1:c.most=31:=by rw[q];rfl
 have c1:c.O=o:=by rw[q];rfl
 have N:c.w0.heap.size=W.heap.size:=by rw[q];show (W.setCell _ _).heap.size=_;simp
 have Y:c.tb=l.heap.size:=by rw[q];rfl
 have d0:c.pb=z:=by rw[q];rfl
 have a4:c.w0=W.setCell ⟨j,0,none⟩ (.map (some l.heap.size)):=by rw[q];rfl
 have e8:G8 c B (.slice (some ⟨k.heap.size,0,none⟩) 1 1) (.slice none 0 0) (.slice none 0 0) 0:=by rw[q];exact d2
 have h4:=M.out.2.1.size
 have h3:=b8.out.be.size
 have h0:=L.out.size
 have i4:W.heap.size<d.heap.size:=zc d9.out
 have a7:c.eb W.heap.size=none:=by
  rw[q]
  show (if W.heap.size=l.heap.size then _ else none)=none
  rw[if_neg (by omega)]
 have g2:B.heap[W.heap.size]?=some (.cells #[.int .i64 0,.slice none 0 0] 31 (0,0)):=(c2.block _ (by omega)).trans ((M.out.2.1.block _ (by omega) (by omega)).trans ((b7.out.block _ i4).trans d9.out))
 rw[<-q]at ok c3
 have G:MV (c.with (some W.heap.size)) B (s0 o):=⟨_,_,_,_,c3.with _ (fun x hx=>by cases hx;exact g2),e8⟩
 have d8:Hid (Calls Tryz.prog 26 #[.pointer (some ⟨k.heap.size+1,0,none⟩),.int .i64 (f:Int)] B (GoP (c.with (some W.heap.size)) (Vm.goes 31 f (s0 o)))):=by
  have:=goes8 G (ok.with _) (by show Inv c.O _;rw[c1];exact inv0 H) f h9
  rw[show (c.with (some W.heap.size)).gb=k.heap.size+1 from X,show (c.with (some W.heap.size)).most=31 from f1]at this
  exact this
 have c9:Hid (∀s oa oc,MV (c.with (some W.heap.size)) s (Vm.goes 31 f (s0 o))->s.ownsRow (c.gb+1) 2 1 (.slice oa (Vm.goes 31 f (s0 o)).out.length oc) (Vm.goes 31 f (s0 o)).out.length (ints (Vm.goes 31 f (s0 o)).out)->s.heap[W.heap.size]?=some (.cells #[.int .i64 0,.slice none 0 0] 31 (0,0))/\∀R,R=(s.setCell ⟨W.heap.size,0,none⟩ (.int .i64 ((Vm.goes 31 f (s0 o)).way:Int))).setCell ⟨W.heap.size,1,none⟩ (.slice oa (Vm.goes 31 f (s0 o)).out.length oc)->LoadP8 W j o f (.returned (.tuple #[.agg #[.int .i64 ((Vm.goes 31 f (s0 o)).way:Int),.slice oa (Vm.goes 31 f (s0 o)).out.length oc],.nilIface])) R/\R.cell? ⟨W.heap.size,0,none⟩=some (.int .i64 ((Vm.goes 31 f (s0 o)).way:Int))/\R.cell? ⟨W.heap.size,1,none⟩=some (.slice oa (Vm.goes 31 f (s0 o)).out.length oc)):=fun s oa oc G a0=>by
  obtain⟨vv,fv,sv,ov,h1,h2⟩:=G
  have hx:=(h1.ek W.heap.size _ (by show (if some W.heap.size=some W.heap.size then _ else _)=_;rw[if_pos rfl])).1
  refine⟨hx,fun R hz=>?_⟩
  have i1:=h1.without a7
  have i0:G8 c s fv sv ov (Vm.goes 31 f (s0 o)).way:=h2
  obtain⟨a1,a2⟩:=i1.ebox i0 a7 hx (by rw[N];exact Nat.le_refl _) 0 (.int .i64 ((Vm.goes 31 f (s0 o)).way:Int))
  have g1:=zy 0 (.int .i64 ((Vm.goes 31 f (s0 o)).way:Int)) hx
  obtain⟨D,b2⟩:=a1.ebox a2 a7 g1 (by rw[N];exact Nat.le_refl _) 1 (.slice oa (Vm.goes 31 f (s0 o)).out.length oc)
  have c5:=zy 1 (.slice oa (Vm.goes 31 f (s0 o)).out.length oc) g1
  rw[<-hz]at D b2 c5
  obtain⟨es,cl,d3⟩:=map_blk8 M.out.2.2.2
  have f2:=(D.ek c.tb (.map es cl) (by
   rw[Y,q]
   show (if l.heap.size=l.heap.size then k.heap[l.heap.size]? else none)=_
   rw[if_pos rfl]
   exact d3)).1
  have g9:c.vb<R.heap.size:=by
   rcases D.vk with⟨J,_⟩|⟨g,cap,cur,J,e2,e3,_⟩
   ·injection J with J
    have e4:c.vb=c.pb:=by
     rw[q]at J ⊢
     have J:va=none:=J
     show (va.map (·.block)).getD z=z
     rw[J]
     rfl
    rw[e4]
    exact zc D.pk
   ·have e2:g=c.vb:=e2
    rw[<-e2]
    exact zc e3
  refine⟨⟨c,oa,oc,rfl,ok,c1,by rw[X];omega,N,⟨vv,fv,sv,ov,D,b2⟩,?_,fun b y hn=>(D.be.block b (by rw[N];exact y)).trans (by rw[a4];exact Below.heap_setCell _ _ _ _ (by simpa using hn)),(D.be.block j (by rw[N];exact P)).trans (by rw[a4,Y];exact(zy 0 _ E).trans rfl),?_,?_,g9⟩,(za c5).trans rfl,(za c5).trans rfl⟩
  ·refine zB a0 fun b q0 q1 q2=>?_
   have f0:b≠W.heap.size:=by
    have:=zL a0 b q2
    rw[X]at this
    omega
   rw[hz]
   exact(Below.heap_setCell _ _ _ _ (by simpa using f0)).trans (Below.heap_setCell _ _ _ _ (by simpa using f0))
  ·rw[d0,Y]
   rw[Y]at f2
   exact M.out.2.2.2.on (f2.trans d3.symm)
  ·have e:=(Below.refl 0 W).setCell (p:=⟨j,0,none⟩) (Nat.zero_le _) (.map (some l.heap.size))
   rw[<-a4]at e
   exact e.trans (D.be.mono (Nat.zero_le _))
 have i7:=zh X
 clear C K a9 E Z S H U I c2 f3 d2 e7 ok c3 q X f1 c1 N Y d0 a4 e8 a7 g2 G b4 b8 e5 M f8 h4 h3 h0
 go_upto_region 13 with fail
 rw[<-a3]
 clear a3
 go_wp2_with fail
 refine d8.out.mono ?_
 rintro e s⟨G,oa,oc,rfl,a0⟩
 obtain⟨Q,d1⟩:=c9.out s oa oc G a0
 have x0:s.cell? ⟨W.heap.size,0,none⟩=some (.int .i64 0):=(za Q).trans rfl
 have x1:s.cell? ⟨W.heap.size,1,none⟩=some (.slice none 0 0):=(za Q).trans rfl
 have z0:s.frozen? ⟨W.heap.size,0,none⟩=false:=zi Q
 have z1:s.frozen? ⟨W.heap.size,1,none⟩=false:=zi Q
 have i6:W.heap.size<s.heap.size:=zc Q
 have HF:=zh d1
 clear Q d1 G a0 d8 c9
 generalize i3:(Vm.goes 31 f (s0 o)).way=wy at *
 generalize g7:(Vm.goes 31 f (s0 o)).out.length=ol at *
 clear i3 g7
 go_wp2_with fail
 obtain⟨hr,h7,h8⟩:=HF.out _ rfl
 exact bodyPost_ret (v:=.tuple #[.agg #[.int .i64 (wy:Int),.slice oa ol oc],.nilIface]) (by simp[results,Tryz.results7,go_sem,h7,h8]) rfl hr
def Vx.call (c:Vx) (gb most:Nat):Vx:={ c with gb:=gb,most:=most }
def s9 (o:O) (vv:List (List Int)) (f:Vm.Fr):Vm.St:=⟨thr o vv,[f],[],[],0⟩
theorem inv9 {o:O}(a:f.at'<o.code.length)(b:f.base=0):Inv o (s9 o vv f):=⟨by simp[s9],fun g c=>by
 have e:g=f:=by simpa[s9] using c
 rw[e]
 exact a,⟨by rw[b];exact Nat.le_refl _,trivial⟩⟩
theorem start9 {d:World}{D G:Value}{gb fb most:Nat}(h:MM c W s vv D sv G)(ok:VxOk c)(J:c.vb<W.heap.size)(k:Below W.heap.size W d)(I:W.heap.size<=gb)(H:W.heap.size<=fb)(F:1<=most)(z:most<=31)(a:FrOk c f)
  (w:d.heap[fb]?=some (.cells (frC c f).toArray 81 (0,0))) :
  VxOk (c.call gb most)/\MM (c.call gb most) d (s9 c.O vv f) vv (.slice (some ⟨fb,0,none⟩) 1 1) (.slice none 0 0) (.slice none 0 0):=by
 have B:=h.be.size
 have A:=zc h.pk
 have u:∀b t,b=c.vb->W.heap[b]?=some (.cells t 29 (0,0))->d.heap[b]?=W.heap[b]?:=fun b t _ E=>k.block b (zc E)
 ·refine⟨⟨ok.oa,ok.rt,ok.i64,ok.us,?_,⟨ok.pb.1,?_⟩,⟨ok.vb.1,?_⟩,fun i l=>?_,ok.inj,z,ok.gm,ok.mrk⟩,?_⟩
  ·show c.w0.heap.size<=gb
   omega
  ·show c.pb≠gb
   omega
  ·show c.vb≠gb
   omega
  ·obtain⟨m,n,o,C⟩:=ok.vs i l
   have y:i<vv.length:=by rw[h.vn];exact l
   have:=zc (h.vm i y).2.1
   exact⟨m,by show c.vs i<gb;omega,o,C⟩
  ·refine⟨h.be.trans (k.mono B),(k.block _ A).trans h.pk,yD h.vk u,rfl,h.vn,fun i l=>?_,?_,World.ownsRow_nil _ _ _ _,World.ownsRow_nil _ _ _ _,fun b j=>by (cases j),Nat.zero_le _,fun v q=>by (cases q),Nat.zero_le _,fun v q=>by (cases q),by simp[s9],F,fun g x=>?_,fun b r j=>⟨(k.block _ (jo (h.ek b r j).1)).trans (h.ek b r j).1,(h.ek b r j).2⟩⟩
   ·obtain⟨m,n,o⟩:=h.vm i l
    exact⟨m,(k.block _ (zc n)).trans n,o⟩
   ·have p:(frC c f).length=14:=by simp[frC,ints,a.ll]
    have e:frs (c.call gb most) [f]=frC c f:=by simp[frs];rfl
    show World.ownsRow d c.w0.heap.size _ 14 _ 1 (frs _ [f])
    rw[e]
    refine⟨by rw[p],Or.inr ⟨fb,1,_,rfl,by omega,w,Nat.le_refl _,by unfold maxLen;omega,by simp[p],?_⟩⟩
    rw[List.take_of_length_le (by simp[p])]
   ·have e:g=f:=by simpa[s9] using x
    rw[e]
    exact⟨a.of,a.ll,a.li,a.mn,a.at',a.bs⟩
end Go.Proofs.YtbkndnmglhghlaaGreatDoor.Jo
