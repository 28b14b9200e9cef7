import Derived.Test.YtibncofnnlbmcaaGreatDoorKQf
import Derived.Test.YtibncofnnlbmcaaGreatDoorKQa
set_option maxRecDepth 100000
set_option maxHeartbeats 4000000
namespace Go.Proofs.YtibncofnnlbmcaaGreatDoor
open Go.RowKit Go.Maps
open Tp (Bs X S G Pr Pt Rs Rr Own)
theorem RepS.getS {w:World}{D:Nat->Prop}:∀(l:List S) (cs:List Value),RepS w D l cs->∀i (h:i<l.length),∃(b ev:Value) (a vs d c:List Value),
  (∀j,j<7->cs[i*7+j]?=[Value.int .i64 (l[i].code:Int),.int .i64 (l[i].pos:Int),.string (bs l[i].name),a.headD (.pointer none),vs.headD (.pointer none),b,ev][j]?)/\RepL w D l[i].index a/\a.length<=1/\RepL w D l[i].value vs/\vs.length<=1/\RepS w D l[i].thn d/\OwnS w D b l[i].thn.length d/\RepS w D l[i].els c/\OwnS w D ev l[i].els.length c:=by
 intro l
 induction l with
 |nil=>intro cs _ i h;simp at h
 |cons x l ih =>
  intro cs f i h
  obtain⟨code,pos,name,index,value,H,G⟩:=x
  rw[RepS]at f
  obtain⟨b,ev,a,vs,d,c,m,s,t,u,v,y,z,A,B,C,o⟩:=f
  subst s
  cases i with
  |zero =>
   refine⟨b,ev,a,vs,d,c,fun j e=>?_,t,u,v,y,z,A,B,C⟩
   rw[Nat.zero_mul,Nat.zero_add,List.getElem?_append_left (by simpa using e)]
   rfl
  |succ i =>
   obtain⟨q,n,p,r,k,g,E,F⟩:=ih m o i (by simpa using h)
   refine⟨q,n,p,r,k,g,fun j e=>?_,F⟩
   rw[List.getElem?_append_right (by simp;omega)]
   have:(i+1)*7+j-[Value.int .i64 (code:Int),.int .i64 (pos:Int),.string (bs name),a.headD (.pointer none),vs.headD (.pointer none),b,ev].length=i*7+j:=by simp;omega
   rw[this,E j e]
   rfl
theorem Ss.at {c:Cx}{lo:Lo}{names:List Bs}{l:List S}{a:Option Addr}{n cp:Nat}(h:Ss c lo names l (.slice a n cp))(i:Nat)(o:i<l.length):∃b,a=some ⟨b,0,none⟩/\b<c.w0.heap.size/\StAt c l[i] b (i*7):=by
 obtain⟨cs,s,t⟩:=h.rep
 rcases t with⟨_,u⟩|⟨g,cap,cur,e1,e2,e3,e4,e5,e6,e7⟩
 ·omega
 ·injection e1 with e1 _ _
  obtain⟨f,ev,e,vs,m,k,q,r⟩:=RepS.getS l cs s i o
  have d:∀j,j<7->c.w0.cell? ⟨g,i*7+j,none⟩=[Value.int .i64 (l[i].code:Int),.int .i64 (l[i].pos:Int),.string (bs l[i].name),e.headD (.pointer none),vs.headD (.pointer none),f,ev][j]?:=fun j p=>by
   rw[za e3,<-Array.getElem?_toList,<-q j p,<-e7,List.getElem?_take_of_lt (by omega)]
  exact⟨g,e1,zf e3,e2,f,ev,e,vs,m,k,d 0 (by omega),d 2 (by omega),d 3 (by omega),d 4 (by omega),d 5 (by omega),d 6 (by omega),r⟩
theorem ws_mem {l:List S}(h:Tp.WS l):∀y∈l,Tp.WS [y]:=by
 induction l with
 |nil=>intro y a;cases a
 |cons x t ih =>
  intro y a
  obtain⟨code,pos,nm,c,f,d,b⟩:=x
  rw[Tp.WS]at h
  rcases List.mem_cons.1 a with e|e
  ·rw[e,Tp.WS];exact⟨h.1,by rw[Tp.WS];trivial⟩
  ·exact ih h.2 y e
theorem rs_consQ (x:S)(l:List S):Tp.rs (x :: l)=Tp.rs [x]++Tp.rs l:=by
 obtain⟨code,pos,nm,b,d,c,a⟩:=x
 simp[Tp.rs]
theorem rs_mem {l:List S}:∀{y:S},y∈l->∀r∈Tp.rs [y],r∈Tp.rs l:=by
 induction l with
 |nil=>intro y a;cases a
 |cons x t ih =>
  intro y a r b
  rw[rs_consQ]
  rcases List.mem_cons.1 a with e|e
  ·rw[<-e];exact List.mem_append_left _ b
  ·exact List.mem_append_right _ (ih e r b)
theorem goS_eq (g k:Nat)(m:Bs)(own:Own)(x:S)(a:List S)(s:Rs):Tp.goS (g+1) k m own (x :: a) s=match s.left with
  | 0=>.stop Tp.fuelW s
  |f+1=>(match Tp.go1 g k m own x { s with left:=f } with
   | .ok r s2=>(match r.2 with
    |some u=>.ok (r.1,some u) s2
    |none=>Tp.goS g k m r.1 a s2)
   | .stop way s2=>.stop way s2
   | .gas=>.gas):=by
 rw[Tp.goS]
 unfold Tp.Ru.bind
 simp only[Tp.tick]
 cases s.left with
 |zero=>rfl
 |succ f =>
  simp only
  cases Tp.go1 g k m own x { s with left:=f } with
  |gas=>rfl
  |stop way s2=>rfl
  |ok r s2 =>
   simp only
   cases r.2<;>rfl
theorem stmts_go {c:Cx}{g:Nat}(ok:CxOk c)(h1:∀n,n<g->Go1C c n):GoC c g:=by
 intro k lo own names l v w s t ob I h hs R
 obtain⟨cs,c3,S⟩:=I.rep
 obtain⟨va,vc,rfl⟩:=S.shape
 have b1:=S.len
 obtain⟨o,M⟩:∃o,o=Tp.goS g k lo.m.name own l s:=⟨_,rfl⟩
 rw[<-M]at R ⊢
 have b7:=zh h1
 have a0:=zh ok
 have a1:=zh I
 have HN:=zh R
 have b5:=zh h
 have c0:=zh hs
 have b3:Hid (∃p,p<=g/\o=Tp.goS p k lo.m.name own (l.drop 0) s):=⟨g,Nat.le_refl _,M⟩
 obtain⟨q,P⟩:∃q,q=l.length:=⟨_,rfl⟩
 rw[<-P]at b1 ⊢
 have Z:=zh P
 have c4:(q:Int)<=9223372036854775807:=by omega
 have b0:Hid (∀i,∀hi:i<l.length,∃b,va=some ⟨b,0,none⟩/\b<c.w0.heap.size/\StAt c l[i] b (i*7)):=fun i hi=>I.at i hi
 clear h1 ok I R h hs M c3 S P
 go_enter Tryz.func88,Tryz.ntmps88
 go_wp2_with fail
 go_loopg [7] q (fun kk vi wr=>∃(i:Nat) (j:Rs) (x:Own),i<=q/\kk=q-i/\vi=.int .i64 (i:Int)/\Hid (GS c wr j k)/\Hid (Kp c (oY ob) w wr)/\Hid (j.left<=s.left)/\Hid (Sc c wr t ob lo x names j.left)/\Hid (∃p,p<=g/\o=Tp.goS p k lo.m.name x (l.drop i) j))
 case atStart=>exact⟨0,s,own,by omega,by omega,rfl,b5,Kp.refl _ _ _,Nat.le_refl _,c0,b3⟩
 case round =>
  obtain⟨i,j,x,c6,c7,rfl,z,U,HL,K,J⟩:=hrel
  obtain⟨p,c5,d⟩:=J.out
  cases p with
  |zero=>exact absurd (by rw[d,Tp.goS];rfl) HN.out
  |succ g1 =>
   by_cases c8:i<q
   ·have b2:(i:Int)<(q:Int):=by omega
    have H:i<l.length:=by have:=Z.out;omega
    rw[List.drop_eq_getElem_cons H,goS_eq]at d
    have ks:wr.cell? ⟨t,0,none⟩=some (.pointer (some ⟨c.gb,0,none⟩)):=(za K.out.blk).trans rfl
    have c9:=zf K.out.blk
    cases y:j.left with
    |zero =>
     rw[y]at d
     have A:Hid (∀e,thrE endT (Tp.fuelW:Int) e->GoP c k t ob lo names w s o e wr):=fun e a=>by rw[d];exact⟨a,⟨k,z.out⟩,U.out⟩
     have O:=zh (vC z.out y)
     clear d J y
     go_wp2_with fail
     refine O.out.mono ?_
     rintro e X⟨⟨older,rfl⟩,rfl⟩
     go_wp2_with fail
     exact⟨rfl,A.out _ ⟨older,rfl⟩⟩
    |succ f =>
     rw[y]at d
     simp only at d
     have O:=zh (rstep_ok z.out y)
     have a2:=z.out.tick a0.out y
     have a6:Sc c (wr.setCell ⟨c.gb,1,none⟩ (.int .i64 (f:Int))) t ob lo x names (f+1):=K.out.kp (Kp.reg z.out (by omega)) a0.out.Vlt (by omega)
     have F:Hid (Kp c (oY ob) w (wr.setCell ⟨c.gb,1,none⟩ (.int .i64 (f:Int)))):=U.out.trans (Kp.reg z.out (by omega)).wide
     have Q:Tp.go1 g1 k lo.m.name x l[i] { j with left:=f }≠.gas:=fun e=>HN.out (by rw[d,e])
     obtain⟨b,rfl,c2,a8⟩:=b0.out i H
     have C:=zh (b7.out g1 (by omega) k lo x names l[i] b (i*7) _ { j with left:=f } t ob a8 (ws_mem a1.out.ws _ (List.getElem_mem H)) (fun r hr=>a1.out.fit r (rs_mem (List.getElem_mem H) r hr)) a2 a6 Q)
     have N:Hid (f<=s.left):=by show f<=s.left;have:=HL.out;omega
     have E:=zh d
     have G:=zh Q
     clear d J y Q a2 a6 a8 c2
     go_wp2_with fail
     refine O.out.mono ?_
     rintro e X⟨rfl,a9⟩
     rw[<-a9]at C F
     clear a9
     have d:=E.out
     cases B:Tp.go1 g1 k lo.m.name x l[i] { j with left:=f } with
     |gas=>exact absurd B G.out
     |stop way s3 =>
      rw[B]at C d
      have A:Hid (∀e W,GoP c k t ob lo names X { j with left:=f } (.stop way s3) e W->GoP c k t ob lo names w s o e W):=fun e W a=>by rw[d];exact a.up F.out N.out
      clear d B E G
      go_wp2_with fail
      refine C.out.mono ?_
      intro e L D
      have V:=zh (A.out e L D)
      obtain⟨⟨older,rfl⟩,_⟩:=D
      go_wp2_with fail
      exact⟨rfl,V.out⟩
     |ok r1 s3 =>
      obtain⟨T,u⟩:=r1
      rw[B]at C d
      simp only at d
      cases u with
      |some u =>
       simp only at d
       have A:Hid (∀e W,GoP c k t ob lo names X { j with left:=f } (.ok (T,some u) s3) e W->GoP c k t ob lo names w s o e W):=fun e W a=>by rw[d];exact a.up F.out N.out
       clear d B E G
       go_wp2_with fail
       refine C.out.mono ?_
       intro e L D
       have V:=zh (A.out e L D)
       obtain⟨⟨older,rfl⟩,_⟩:=D
       go_wp2_with fail
       exact⟨rfl,V.out⟩
      |none =>
       simp only at d
       have b4:Hid (∃p,p<=g/\o=Tp.goS p k lo.m.name T (l.drop (i+1)) s3):=⟨g1,by omega,d⟩
       clear d B E G
       go_wp2_with fail
       refine C.out.mono ?_
       rintro e L⟨rfl,a3,a4,a5,a7⟩
       have b6:=zh a3
       have b8:=zh (F.out.trans a4)
       have b9:Hid (s3.left<=s.left):=Nat.le_trans a5 N.out
       have c1:=zh a7
       clear a3 a4 a5 a7
       go_wp2_with fail
       go_roundg (q-(i+1))
       case measure=>omega
       case rel=>exact⟨i+1,s3,T,by omega,rfl,by go_num,b6,b8,b9,c1,b4⟩
   ·have b2:¬(i:Int)<(q:Int):=by omega
    rw[List.drop_of_length_le (by have:=Z.out;omega)]at d
    have Y:o=.ok (x,none) j:=by rw[d,Tp.goS];rfl
    have A:Hid (GoP c k t ob lo names w s o (.returned (.tuple #[])) wr):=by
     show GoP _ _ _ _ _ _ _ _ _ _ _
     rw[Y]
     exact⟨rfl,z.out,U.out,HL.out,K.out⟩
    clear d Y J
    go_wp2_with fail
    exact bodyPost_end (results_none rfl _ _ _) rfl A.out
structure RunAll (c:Cx) (g:Nat):Prop where
 ev:EvC c g
 cl:CallC c g
 g1:Go1C c g
 go:GoC c g
theorem run_all {c:Cx}(ok:CxOk c):∀g,RunAll c g:=by
 intro g
 induction g using Nat.strongRecOn with
 | _ g ih =>
  have d:GoC c g:=stmts_go ok (fun n a=>(ih n a).g1)
  cases g with
  |zero =>
   refine⟨ev_zero c,?_,?_,d⟩
   ·intro k lo nm p vs w s e ac _ _ _ _ _ _ a
    exact absurd (by rw[Tp.callP];rfl) a
   ·intro k lo own names x b o w s f ob _ _ _ _ _ a
    exact absurd (by rw[Tp.go1];rfl) a
  |succ g =>
   exact⟨ev_all ok (fun n a=>(ih n a).ev) (ih g (by omega)).cl,call_all ok (body_all ok (ih g (by omega)).go),rstmt_all ok (fun n a=>(ih n a).ev) (fun n a=>(ih n a).go),d⟩
theorem run_body {c:Cx}(ok:CxOk c)(g:Nat):BodyC c g:=body_all ok (run_all ok g).go
end Go.Proofs.YtibncofnnlbmcaaGreatDoor
namespace Go.Proofs.YtibncofnnlbmcaaGreatDoor
open Go.RowKit Go.Maps
open Tp (Bs X S G Pr Pt Rs Rr Own)
theorem ta_way (n:Int)(w:World):(Instr.typeAssert (.iface 173 (.int .i64 n)) 20 173 true).run Tryz.prog w=.ok (.tuple #[.int .i64 n,.bool true]) w:=by kernel_rfl
theorem way_nil (w:World):Calls Tryz.prog 86 #[.nilIface] w fun e w'=>e=.returned (.int .i64 1)/\w'=w:=by
 go_enter Tryz.func86,Tryz.ntmps86
 go_wp2_with fail
 go_ret
 exact⟨rfl,rfl⟩
theorem way_end (n:Int)(w:World):Calls Tryz.prog 86 #[.iface endT (.int .i64 n)] w fun e w'=>e=.returned (.int .i64 n)/\w'=w:=by
 unfold endT
 have a:=ta_way n
 go_enter Tryz.func86,Tryz.ntmps86
 go_wp2_with fail
 go_ret
 exact⟨rfl,rfl⟩
def gops:Array Oper:=#[{ dst:=some 2,op:=Op.call { callee:=Callee.builtin Builtin.recover,args:=#[],argTypes:=#[] },type:=20,pos:="going.go:19",after:=#[],guard:=none },
 { dst:=some 3,op:=Op.call { callee:=Callee.value (Operand.func 86),args:=#[Operand.tmp 2],argTypes:=#[20] },type:=3,pos:="going.go:19",after:=#[{ on:=0,ground:=Ground.data },{ on:=0,ground:=Ground.chain }],guard:=none },
 { dst:=some 4,op:=Op.load 95 (Operand.tmp 0),type:=95,pos:="going.go:19",after:=#[],guard:=none },
 { dst:=some 5,op:=Op.nilCheck (Operand.tmp 4),type:=0,pos:="going.go:19",after:=#[{ on:=2,ground:=Ground.data }],guard:=none },
 { dst:=some 6,op:=Op.fieldAddr 152 (Operand.tmp 5) 3,type:=0,pos:="going.go:19",after:=#[{ on:=3,ground:=Ground.data }],guard:=none },
 { dst:=some 7,op:=Op.load 29 (Operand.tmp 6),type:=29,pos:="going.go:19",after:=#[{ on:=4,ground:=Ground.data }],guard:=none },
 { dst:=some 8,op:=Op.build 43 #[(0,Operand.tmp 3),(1,Operand.tmp 7)],type:=43,pos:="going.go:19",after:=#[{ on:=1,ground:=Ground.data },{ on:=5,ground:=Ground.data }],guard:=none },
 { dst:=none,op:=Op.store 43 (Operand.tmp 1) (Operand.tmp 8),type:=0,pos:="going.go:19",after:=#[{ on:=6,ground:=Ground.data },{ on:=1,ground:=Ground.chain },{ on:=0,ground:=Ground.phase },{ on:=1,ground:=Ground.phase },{ on:=2,ground:=Ground.phase },{ on:=3,ground:=Ground.phase },{ on:=4,ground:=Ground.phase },{ on:=5,ground:=Ground.phase },{ on:=6,ground:=Ground.phase }],guard:=none }]
set_option linter.unusedSimpArgs false in
theorem glate_ord {c eb b r q:Nat}{p:Option Addr}{f:Value}{n:Int}{s c1:Frame}{cs:List Frame}{wd:World}{Q:Exit->Act->List Frame->World->Prop}(v:recoverD (s :: cs)=some (f,c1 :: cs)\/recoverD (s :: cs)=none/\f=.nilIface/\c1=s)
  (x:∀w,Calls Tryz.prog 86 #[f] w fun e w'=>e=.returned (.int .i64 n)/\w'=w)(j:wd.cell? ⟨c,0,none⟩=some (.pointer (some ⟨b,0,none⟩)))(k:wd.cell? ⟨b,3,none⟩=some (.slice p r q)){R x1:Value}(g:wd.cell? ⟨eb,0,none⟩=some R)(l:wd.cell? ⟨eb,1,none⟩=some x1)(m:wd.frozen? ⟨eb,0,none⟩=false)(o:wd.frozen? ⟨eb,1,none⟩=false)
  (P:Q .normal { tmps:=#[.pointer (some ⟨c,0,none⟩),.pointer (some ⟨eb,0,none⟩),f,.int .i64 n,.pointer (some ⟨b,0,none⟩),.pointer (some ⟨b,0,none⟩),.pointer (some ⟨b,3,none⟩),.slice p r q,.agg #[.int .i64 n,.slice p r q]],defers:=[] } (c1 :: cs) ((wd.setCell ⟨eb,0,none⟩ (.int .i64 n)).setCell ⟨eb,1,none⟩ (.slice p r q))) :
  wpOrd Tryz.prog .any gops Q 8 #[false,false,false,false,false,false,false,false] { tmps:=#[.pointer (some ⟨c,0,none⟩),.pointer (some ⟨eb,0,none⟩),undef,undef,undef,undef,undef,undef,undef],defers:=[] } (s :: cs) wd:=by
 have U:=zg j
 have S:=zg k
 have T:=zg g
 have O:wpOrd Tryz.prog .any gops Q 0 #[true,true,true,true,true,true,true,true] { tmps:=#[.pointer (some ⟨c,0,none⟩),.pointer (some ⟨eb,0,none⟩),f,.int .i64 n,.pointer (some ⟨b,0,none⟩),.pointer (some ⟨b,0,none⟩),.pointer (some ⟨b,3,none⟩),.slice p r q,.agg #[.int .i64 n,.slice p r q]],defers:=[] } (c1 :: cs) ((wd.setCell ⟨eb,0,none⟩ (.int .i64 n)).setCell ⟨eb,1,none⟩ (.slice p r q)):=by
  exact⟨by kernel_rfl,P⟩
 have N:wpOrd Tryz.prog .any gops Q 1 #[true,true,true,true,true,true,true,false] { tmps:=#[.pointer (some ⟨c,0,none⟩),.pointer (some ⟨eb,0,none⟩),f,.int .i64 n,.pointer (some ⟨b,0,none⟩),.pointer (some ⟨b,0,none⟩),.pointer (some ⟨b,3,none⟩),.slice p r q,.agg #[.int .i64 n,.slice p r q]],defers:=[] } (c1 :: cs) wd:=by
  rw[wpOrd,show Region.ready .any gops #[true,true,true,true,true,true,true,false]=[7] from by kernel_rfl]
  refine⟨fun h=>(by cases h),fun i a=>?_⟩
  rw[List.mem_singleton]at a
  subst a
  simp[wpOp1,gops,go_sem,Region.wanted,j,k,g,l,m,o]
  exact O
 have G:wpOrd Tryz.prog .any gops Q 2 #[true,true,true,true,true,true,false,false] { tmps:=#[.pointer (some ⟨c,0,none⟩),.pointer (some ⟨eb,0,none⟩),f,.int .i64 n,.pointer (some ⟨b,0,none⟩),.pointer (some ⟨b,0,none⟩),.pointer (some ⟨b,3,none⟩),.slice p r q,undef],defers:=[] } (c1 :: cs) wd:=by
  rw[wpOrd,show Region.ready .any gops #[true,true,true,true,true,true,false,false]=[6] from by kernel_rfl]
  refine⟨fun h=>(by cases h),fun i a=>?_⟩
  rw[List.mem_singleton]at a
  subst a
  simp[wpOp1,gops,go_sem,Region.wanted,j,k,g,l,m,o]
  exact N
 have F:wpOrd Tryz.prog .any gops Q 3 #[true,true,true,true,true,false,false,false] { tmps:=#[.pointer (some ⟨c,0,none⟩),.pointer (some ⟨eb,0,none⟩),f,.int .i64 n,.pointer (some ⟨b,0,none⟩),.pointer (some ⟨b,0,none⟩),.pointer (some ⟨b,3,none⟩),undef,undef],defers:=[] } (c1 :: cs) wd:=by
  rw[wpOrd,show Region.ready .any gops #[true,true,true,true,true,false,false,false]=[5] from by kernel_rfl]
  refine⟨fun h=>(by cases h),fun i a=>?_⟩
  rw[List.mem_singleton]at a
  subst a
  simp[wpOp1,gops,go_sem,Region.wanted,j,k,g,l,m,o]
  exact G
 have B:wpOrd Tryz.prog .any gops Q 3 #[true,false,true,true,true,true,false,false] { tmps:=#[.pointer (some ⟨c,0,none⟩),.pointer (some ⟨eb,0,none⟩),f,undef,.pointer (some ⟨b,0,none⟩),.pointer (some ⟨b,0,none⟩),.pointer (some ⟨b,3,none⟩),.slice p r q,undef],defers:=[] } (c1 :: cs) wd:=by
  rw[wpOrd,show Region.ready .any gops #[true,false,true,true,true,true,false,false]=[1] from by kernel_rfl]
  refine⟨fun h=>(by cases h),fun i a=>?_⟩
  rw[List.mem_singleton]at a
  subst a
  simp[wpOp1,gops,go_sem,Region.wanted]
  refine(x wd).mono ?_
  rintro e w'⟨rfl,rfl⟩
  exact G
 have E:wpOrd Tryz.prog .any gops Q 4 #[true,true,true,true,false,false,false,false] { tmps:=#[.pointer (some ⟨c,0,none⟩),.pointer (some ⟨eb,0,none⟩),f,.int .i64 n,.pointer (some ⟨b,0,none⟩),.pointer (some ⟨b,0,none⟩),undef,undef,undef],defers:=[] } (c1 :: cs) wd:=by
  rw[wpOrd,show Region.ready .any gops #[true,true,true,true,false,false,false,false]=[4] from by kernel_rfl]
  refine⟨fun h=>(by cases h),fun i a=>?_⟩
  rw[List.mem_singleton]at a
  subst a
  simp[wpOp1,gops,go_sem,Region.wanted,j,k,g,l,m,o]
  exact F
 have A:wpOrd Tryz.prog .any gops Q 4 #[true,false,true,true,true,false,false,false] { tmps:=#[.pointer (some ⟨c,0,none⟩),.pointer (some ⟨eb,0,none⟩),f,undef,.pointer (some ⟨b,0,none⟩),.pointer (some ⟨b,0,none⟩),.pointer (some ⟨b,3,none⟩),undef,undef],defers:=[] } (c1 :: cs) wd:=by
  rw[wpOrd,show Region.ready .any gops #[true,false,true,true,true,false,false,false]=[1,5] from by kernel_rfl]
  refine⟨fun h=>(by cases h),fun i a=>?_⟩
  rcases List.mem_cons.1 a with a|a
  ·subst a
   simp[wpOp1,gops,go_sem,Region.wanted]
   refine(x wd).mono ?_
   rintro e w'⟨rfl,rfl⟩
   exact F
  ·rw[List.mem_singleton]at a
   subst a
   simp[wpOp1,gops,go_sem,Region.wanted,j,k,g,l,m,o]
   exact B
 have L:wpOrd Tryz.prog .any gops Q 4 #[false,false,true,true,true,true,false,false] { tmps:=#[.pointer (some ⟨c,0,none⟩),.pointer (some ⟨eb,0,none⟩),undef,undef,.pointer (some ⟨b,0,none⟩),.pointer (some ⟨b,0,none⟩),.pointer (some ⟨b,3,none⟩),.slice p r q,undef],defers:=[] } (s :: cs) wd:=by
  rw[wpOrd,show Region.ready .any gops #[false,false,true,true,true,true,false,false]=[0] from by kernel_rfl]
  refine⟨fun h=>(by cases h),fun i a=>?_⟩
  rw[List.mem_singleton]at a
  subst a
  rcases v with d|⟨d,u,t⟩
  ·simp[wpOp1,gops,go_sem,Region.wanted,d]
   exact B
  ·subst u t
   simp[wpOp1,gops,go_sem,Region.wanted,d]
   exact B
 have D:wpOrd Tryz.prog .any gops Q 5 #[true,true,true,false,false,false,false,false] { tmps:=#[.pointer (some ⟨c,0,none⟩),.pointer (some ⟨eb,0,none⟩),f,.int .i64 n,.pointer (some ⟨b,0,none⟩),undef,undef,undef,undef],defers:=[] } (c1 :: cs) wd:=by
  rw[wpOrd,show Region.ready .any gops #[true,true,true,false,false,false,false,false]=[3] from by kernel_rfl]
  refine⟨fun h=>(by cases h),fun i a=>?_⟩
  rw[List.mem_singleton]at a
  subst a
  simp[wpOp1,gops,go_sem,Region.wanted,j,k,g,l,m,o]
  exact E
 have z:wpOrd Tryz.prog .any gops Q 5 #[true,false,true,true,false,false,false,false] { tmps:=#[.pointer (some ⟨c,0,none⟩),.pointer (some ⟨eb,0,none⟩),f,undef,.pointer (some ⟨b,0,none⟩),.pointer (some ⟨b,0,none⟩),undef,undef,undef],defers:=[] } (c1 :: cs) wd:=by
  rw[wpOrd,show Region.ready .any gops #[true,false,true,true,false,false,false,false]=[1,4] from by kernel_rfl]
  refine⟨fun h=>(by cases h),fun i a=>?_⟩
  rcases List.mem_cons.1 a with a|a
  ·subst a
   simp[wpOp1,gops,go_sem,Region.wanted]
   refine(x wd).mono ?_
   rintro e w'⟨rfl,rfl⟩
   exact E
  ·rw[List.mem_singleton]at a
   subst a
   simp[wpOp1,gops,go_sem,Region.wanted,j,k,g,l,m,o]
   exact A
 have K:wpOrd Tryz.prog .any gops Q 5 #[false,false,true,true,true,false,false,false] { tmps:=#[.pointer (some ⟨c,0,none⟩),.pointer (some ⟨eb,0,none⟩),undef,undef,.pointer (some ⟨b,0,none⟩),.pointer (some ⟨b,0,none⟩),.pointer (some ⟨b,3,none⟩),undef,undef],defers:=[] } (s :: cs) wd:=by
  rw[wpOrd,show Region.ready .any gops #[false,false,true,true,true,false,false,false]=[0,5] from by kernel_rfl]
  refine⟨fun h=>(by cases h),fun i a=>?_⟩
  rcases List.mem_cons.1 a with a|a
  ·subst a
   rcases v with d|⟨d,u,t⟩
   ·simp[wpOp1,gops,go_sem,Region.wanted,d]
    exact A
   ·subst u t
    simp[wpOp1,gops,go_sem,Region.wanted,d]
    exact A
  ·rw[List.mem_singleton]at a
   subst a
   simp[wpOp1,gops,go_sem,Region.wanted,j,k,g,l,m,o]
   exact L
 have M:wpOrd Tryz.prog .any gops Q 6 #[true,true,false,false,false,false,false,false] { tmps:=#[.pointer (some ⟨c,0,none⟩),.pointer (some ⟨eb,0,none⟩),f,.int .i64 n,undef,undef,undef,undef,undef],defers:=[] } (c1 :: cs) wd:=by
  rw[wpOrd,show Region.ready .any gops #[true,true,false,false,false,false,false,false]=[2] from by kernel_rfl]
  refine⟨fun h=>(by cases h),fun i a=>?_⟩
  rw[List.mem_singleton]at a
  subst a
  simp[wpOp1,gops,go_sem,Region.wanted,j,k,g,l,m,o]
  exact D
 have y:wpOrd Tryz.prog .any gops Q 6 #[true,false,true,false,false,false,false,false] { tmps:=#[.pointer (some ⟨c,0,none⟩),.pointer (some ⟨eb,0,none⟩),f,undef,.pointer (some ⟨b,0,none⟩),undef,undef,undef,undef],defers:=[] } (c1 :: cs) wd:=by
  rw[wpOrd,show Region.ready .any gops #[true,false,true,false,false,false,false,false]=[1,3] from by kernel_rfl]
  refine⟨fun h=>(by cases h),fun i a=>?_⟩
  rcases List.mem_cons.1 a with a|a
  ·subst a
   simp[wpOp1,gops,go_sem,Region.wanted]
   refine(x wd).mono ?_
   rintro e w'⟨rfl,rfl⟩
   exact D
  ·rw[List.mem_singleton]at a
   subst a
   simp[wpOp1,gops,go_sem,Region.wanted,j,k,g,l,m,o]
   exact z
 have J:wpOrd Tryz.prog .any gops Q 6 #[false,false,true,true,false,false,false,false] { tmps:=#[.pointer (some ⟨c,0,none⟩),.pointer (some ⟨eb,0,none⟩),undef,undef,.pointer (some ⟨b,0,none⟩),.pointer (some ⟨b,0,none⟩),undef,undef,undef],defers:=[] } (s :: cs) wd:=by
  rw[wpOrd,show Region.ready .any gops #[false,false,true,true,false,false,false,false]=[0,4] from by kernel_rfl]
  refine⟨fun h=>(by cases h),fun i a=>?_⟩
  rcases List.mem_cons.1 a with a|a
  ·subst a
   rcases v with d|⟨d,u,t⟩
   ·simp[wpOp1,gops,go_sem,Region.wanted,d]
    exact z
   ·subst u t
    simp[wpOp1,gops,go_sem,Region.wanted,d]
    exact z
  ·rw[List.mem_singleton]at a
   subst a
   simp[wpOp1,gops,go_sem,Region.wanted,j,k,g,l,m,o]
   exact K
 have C:wpOrd Tryz.prog .any gops Q 7 #[true,false,false,false,false,false,false,false] { tmps:=#[.pointer (some ⟨c,0,none⟩),.pointer (some ⟨eb,0,none⟩),f,undef,undef,undef,undef,undef,undef],defers:=[] } (c1 :: cs) wd:=by
  rw[wpOrd,show Region.ready .any gops #[true,false,false,false,false,false,false,false]=[1,2] from by kernel_rfl]
  refine⟨fun h=>(by cases h),fun i a=>?_⟩
  rcases List.mem_cons.1 a with a|a
  ·subst a
   simp[wpOp1,gops,go_sem,Region.wanted]
   refine(x wd).mono ?_
   rintro e w'⟨rfl,rfl⟩
   exact M
  ·rw[List.mem_singleton]at a
   subst a
   simp[wpOp1,gops,go_sem,Region.wanted,j,k,g,l,m,o]
   exact y
 have I:wpOrd Tryz.prog .any gops Q 7 #[false,false,true,false,false,false,false,false] { tmps:=#[.pointer (some ⟨c,0,none⟩),.pointer (some ⟨eb,0,none⟩),undef,undef,.pointer (some ⟨b,0,none⟩),undef,undef,undef,undef],defers:=[] } (s :: cs) wd:=by
  rw[wpOrd,show Region.ready .any gops #[false,false,true,false,false,false,false,false]=[0,3] from by kernel_rfl]
  refine⟨fun h=>(by cases h),fun i a=>?_⟩
  rcases List.mem_cons.1 a with a|a
  ·subst a
   rcases v with d|⟨d,u,t⟩
   ·simp[wpOp1,gops,go_sem,Region.wanted,d]
    exact y
   ·subst u t
    simp[wpOp1,gops,go_sem,Region.wanted,d]
    exact y
  ·rw[List.mem_singleton]at a
   subst a
   simp[wpOp1,gops,go_sem,Region.wanted,j,k,g,l,m,o]
   exact J
 have H:wpOrd Tryz.prog .any gops Q 8 #[false,false,false,false,false,false,false,false] { tmps:=#[.pointer (some ⟨c,0,none⟩),.pointer (some ⟨eb,0,none⟩),undef,undef,undef,undef,undef,undef,undef],defers:=[] } (s :: cs) wd:=by
  rw[wpOrd,show Region.ready .any gops #[false,false,false,false,false,false,false,false]=[0,2] from by kernel_rfl]
  refine⟨fun h=>(by cases h),fun i a=>?_⟩
  rcases List.mem_cons.1 a with a|a
  ·subst a
   rcases v with d|⟨d,u,t⟩
   ·simp[wpOp1,gops,go_sem,Region.wanted,d]
    exact C
   ·subst u t
    simp[wpOp1,gops,go_sem,Region.wanted,d]
    exact C
  ·rw[List.mem_singleton]at a
   subst a
   simp[wpOp1,gops,go_sem,Region.wanted,j,k,g,l,m,o]
   exact I
 exact H
end Go.Proofs.YtibncofnnlbmcaaGreatDoor
namespace Go.Proofs.YtibncofnnlbmcaaGreatDoor
open Go.RowKit Go.Maps
open Tp (Bs X S G Pr Pt Rs Rr Own)
theorem glate {h eb g k j:Nat}{i:Option Addr}{a:Value}{n:Int}{u u1:FrameMode}{w:World}(l:(∃older,u=.panicking ({ v:=a,recovered:=false } :: older)/\u1=.panicking ({ v:=a,recovered:=true } :: older))\/u=.returning/\a=.nilIface/\u1=.returning)
  (m:∀w,Calls Tryz.prog 86 #[a] w fun e w'=>e=.returned (.int .i64 n)/\w'=w)(r:w.cell? ⟨h,0,none⟩=some (.pointer (some ⟨g,0,none⟩)))(s:w.cell? ⟨g,3,none⟩=some (.slice i k j)){x x1:Value}(o:w.cell? ⟨eb,0,none⟩=some x)(p:w.cell? ⟨eb,1,none⟩=some x1)(y:w.frozen? ⟨eb,0,none⟩=false)(z:w.frozen? ⟨eb,1,none⟩=false) :
  CallsD Tryz.prog 85 #[.pointer (some ⟨h,0,none⟩),.pointer (some ⟨eb,0,none⟩)] u w fun e t w'=>e=.returned (.tuple #[])/\t=u1/\w'=(w.drew.setCell ⟨eb,0,none⟩ (.int .i64 n)).setCell ⟨eb,1,none⟩ (.slice i k j):=by
 refine callsD_of_wpS Tryz.func85 rfl fun b cs f=>?_
 refine jW (by kernel_rfl) ?_
 have q:recoverD (b :: cs)=some (a,{ b with mode:=u1 } :: cs)\/recoverD (b :: cs)=none/\a=.nilIface/\({ b with mode:=u1 }:Frame)=b:=by
  rcases l with⟨older,c,d⟩|⟨c,d,h3⟩
  ·refine Or.inl ?_
   simp[recoverD,f,c,d]
  ·refine Or.inr ⟨?_,d,?_⟩
   ·simp[recoverD,f,c]
   ·rw[h3,<-c,<-f]
 exact glate_ord (wd:=w.drew) q m r s o p y z ⟨rfl,u1,rfl,_,results_none rfl _ _ _,rfl,rfl,rfl⟩
def goesW (w:World) (tv:Option Nat) (fuel:Int):World:=((w.alloc (.cells #[.int .i64 0,.slice none 0 0] 43)).alloc (.cells #[.map tv,.int .i64 fuel,.int .i64 0,.slice none 0 0] 152)).alloc (.cells #[.pointer (some ⟨w.heap.size+1,0,none⟩)] 95)
def GoHeld (w w1 w2:World):Prop:=w2.heap[w.heap.size]?=w1.heap[w.heap.size]?/\w2.heap[w.heap.size+2]?=w1.heap[w.heap.size+2]?/\∃oa on oc,w2.cell? ⟨w.heap.size+1,3,none⟩=some (.slice oa on oc)
def GoesP (w:World) (A:Int->World->Prop) (e:Ending) (w':World):Prop:=∃w2 way oa on oc,A way w2/\w2.cell? ⟨w.heap.size+1,3,none⟩=some (.slice oa on oc)/\e=.returned (.agg #[.int .i64 way,.slice oa on oc])/\Ext w.heap.size w2 w'
theorem uf {w:World}{M:Nat}{r:Option Nat}{fuel:Int}{f:FuncId}{caps:Array Value}{A:Int->World->Prop}(V:∀(args:Array Value) (w:World),(callFunc f args).run Tryz.prog w=.ok (.enter f args) w)(U:w.cell? ⟨M,1,none⟩=some (.map r))
  (B:Calls Tryz.prog f (#[.pointer (some ⟨w.heap.size+1,0,none⟩)]++caps) (goesW w r fuel) fun e w2=>GoHeld w (goesW w r fuel) w2/\((e=.returned (.tuple #[])/\A 1 w2)\/∃a:Int,thrE endT a e/\A a w2)) :
  Calls Tryz.prog 41 #[.pointer (some ⟨M,0,none⟩),.int .i64 fuel,.func (.func f) #[] caps] w (GoesP w A):=by
 have Y:=zm
 have a0:=zg U
 obtain⟨h,l⟩:∃h,h=goesW w r fuel:=⟨_,rfl⟩
 have H:h.heap[w.heap.size]?=some (.cells #[.int .i64 0,.slice none 0 0] 43 (0,0)):=by
  rw[l];unfold goesW
  exact((Below.heap_alloc _ _ _ (by simp;omega)).trans (Below.heap_alloc _ _ _ (by simp))).trans (zo _ _)
 have t:h.heap[w.heap.size+2]?=some (.cells #[.pointer (some ⟨w.heap.size+1,0,none⟩)] 95 (0,0)):=by
  rw[l];unfold goesW
  have:=zo ((w.alloc (.cells #[.int .i64 0,.slice none 0 0] 43)).alloc (.cells #[.map r,.int .i64 fuel,.int .i64 0,.slice none 0 0] 152)) (.cells #[.pointer (some ⟨w.heap.size+1,0,none⟩)] 95)
  simpa using this
 rw[<-l]at B
 have z:=zh B
 have L:h.cell? ⟨w.heap.size+2,0,none⟩=some (.pointer (some ⟨w.heap.size+1,0,none⟩)):=(za t).trans rfl
 have Z:w.heap.size+2<h.heap.size:=zf t
 have y:=zh H
 have G:=zh t
 have s:Hid (∀(w2:World) (a:Int) (q:Value) (u:FrameMode) (u1:FrameMode),settle u1=.returning->((∃older,u=.panicking ({ v:=q,recovered:=false } :: older)/\u1=.panicking ({ v:=q,recovered:=true } :: older))\/u=.returning/\q=.nilIface/\u1=.returning)->(∀w,Calls Tryz.prog 86 #[q] w fun e w'=>e=.returned (.int .i64 a)/\w'=w)->GoHeld w h w2->A a w2->∀W,Ext w.heap.size w2 W->W.heap[w.heap.size]?=h.heap[w.heap.size]?->W.heap[w.heap.size+1]?=w2.heap[w.heap.size+1]? ->
   CallsD Tryz.prog 85 #[.pointer (some ⟨w.heap.size+2,0,none⟩),.pointer (some ⟨w.heap.size,0,none⟩)] u W fun e x m=>(∃v,e=.returned v)/\settle x=.returning/\∃b d c,m.cell? ⟨w.heap.size,0,none⟩=some (.int .i64 a)/\m.cell? ⟨w.heap.size,1,none⟩=some (.slice b d c)/\GoesP w A (.returned (.agg #[.int .i64 a,.slice b d c])) m):=by
  intro w2 a q u u1 p N O g i W K P Q
  obtain⟨g1,I,b,d,c,J⟩:=g
  have o:=P.trans y.out
  have S:W.heap[w.heap.size+2]?=some (.cells #[.pointer (some ⟨w.heap.size+1,0,none⟩)] 95 (0,0)):=by
   rw[K.block _ (by have:=zf (I.trans G.out);omega) (by omega),I]
   exact G.out
  have R:W.cell? ⟨w.heap.size+1,3,none⟩=some (.slice b d c):=(World.cell?_of_block (w:=w2) Q).trans J
  refine(glate N O ((za S).trans rfl) R ((za o).trans rfl) ((za o).trans rfl) (zi o) (zi o)).mono ?_
  rintro e x m⟨rfl,rfl,rfl⟩
  have k:=zu 1 (.slice b d c) (zu 0 (.int .i64 a) (show W.drew.heap[w.heap.size]?=_ from o))
  refine⟨⟨_,rfl⟩,p,b,d,c,(za k).trans rfl,(za k).trans rfl,w2,a,b,d,c,i,J,rfl,?_⟩
  have hd:Ext w.heap.size W W.drew:=⟨rfl,rfl,rfl,Nat.le_refl _,fun _ _ _=>rfl⟩
  exact((K.trans hd).set 0 _).set 1 _
 clear B H t
 unfold goesW at l
 go_enter_defers Tryz.func41,Tryz.ntmps41
 go_upto_region 3 with fail
 rw[<-l]
 clear l
 go_wp2_with fail
 refine z.out.mono ?_
 rintro e w2⟨g,T⟩
 rcases T with⟨rfl,i⟩|⟨a,⟨older,rfl⟩,i⟩
 ·have n:=g.1.trans y.out
  have e0:w2.cell? ⟨w.heap.size,0,none⟩=some (.int .i64 0):=(za n).trans rfl
  have e1:w2.cell? ⟨w.heap.size,1,none⟩=some (.slice none 0 0):=(za n).trans rfl
  have z0:∀j,w2.frozen? ⟨w.heap.size,j,none⟩=false:=fun j=>zi n
  have X:=zf n
  have F:=zu 1 (.slice none 0 0) (zu 0 (.int .i64 0) n)
  have C:=zh (s.out w2 1 .nilIface .returning .returning rfl (Or.inr ⟨rfl,rfl,rfl⟩) way_nil g i ((w2.setCell ⟨w.heap.size,0,none⟩ (.int .i64 0)).setCell ⟨w.heap.size,1,none⟩ (.slice none 0 0)) (((Ext.refl _ _).set 0 _).set 1 _) (F.trans y.out.symm) ((zx _ (by omega)).trans (zx _ (by omega))))
  clear g i n F s z L
  go_wp2_with fail
  refine leaves_cons (f:=85) (args:=#[.pointer (some ⟨w.heap.size+2,0,none⟩),.pointer (some ⟨w.heap.size,0,none⟩)]) (by simp) (by simp[go_sem]) ?_
  refine C.out.mono ?_
  rintro e x m⟨⟨v,rfl⟩,p,b,d,c,D,E,k⟩
  simp[Leaves,p,results,Tryz.results41,go_sem,D,E]
  exact k
 ·have C:=zh (s.out w2 a (.iface endT (.int .i64 a)) (.panicking ({ v:=.iface endT (.int .i64 a),recovered:=false } :: older.1)) (.panicking ({ v:=.iface endT (.int .i64 a),recovered:=true } :: older.1)) (by simp[settle,jO older]) (Or.inl ⟨older.1,rfl,rfl⟩) (way_end a) g i w2 (Ext.refl _ _) g.1 rfl)
  clear g i s z L
  go_wp2_with fail
  refine leaves_cons (f:=85) (args:=#[.pointer (some ⟨w.heap.size+2,0,none⟩),.pointer (some ⟨w.heap.size,0,none⟩)]) (by simp) (by simp[go_sem]) ?_
  refine C.out.mono ?_
  rintro e x m⟨⟨v,rfl⟩,p,b,d,c,D,E,k⟩
  simp[Leaves,p,results,Tryz.results41,go_sem,D,E]
  exact k
structure Laid (w:World) (B vb:Nat) (gs:List G) (i:Nat) (sl:Bs->Nat):Prop where
 map:MapV w vb i (fun k=>((gs.take i).find? fun g=>g.name==k).map fun g=>.slice (some ⟨sl k,0,none⟩) (vlen g) (vlen g))
 at':∀g∈gs.take i,B<=sl g.name/\w.heap[sl g.name]?=some (.cells (ints (List.replicate (vlen g) 0)).toArray 2 (0,0))
 inj:∀g∈gs.take i,∀g'∈gs.take i,sl g.name=sl g'.name->g.name=g'.name
theorem Laid.add {w m:World}{B f:Nat}{a:List G}{i:Nat}{sl:Bs->Nat}(h:Laid w B f a i sl)(r:i<a.length)(z:(a.map (·.name)).Nodup)(v:B<=w.heap.size)(_:f<w.heap.size)
  (y:MapV m f (i+1) (updV (fun k=>((a.take i).find? fun g=>g.name==k).map fun g=>.slice (some ⟨sl k,0,none⟩) (vlen g) (vlen g)) a[i].name (.slice (some ⟨w.heap.size,0,none⟩) (vlen a[i]) (vlen a[i]))))
  (A:∀b,b<w.heap.size->b≠f->m.heap[b]?=w.heap[b]?)(s:m.heap[w.heap.size]?=some (.cells (ints (List.replicate (vlen a[i]) 0)).toArray 2 (0,0)))(t:∀g∈a.take i,sl g.name≠f):Laid m B f a (i+1) (fun k=>if k=a[i].name then w.heap.size else sl k):=by
 have d:∀g∈a.take i,g.name≠a[i].name:=fun g c e=>by
  obtain⟨j,x,rfl⟩:=List.getElem_of_mem c
  rw[List.length_take]at x
  rw[List.getElem_take]at e
  have:=(List.getElem_inj (h₀:=by simp;omega) (h₁:=by simpa using r) z (i:=j) (j:=i)).1 (by simpa using e)
  omega
 have n:∀g∈a.take i,sl g.name<w.heap.size:=fun g c=>zf (h.at' g c).2
 have o:a.take (i+1)=a.take i++[a[i]]:=List.take_succ_eq_append_getElem r
 refine⟨?_,fun g c=>?_,fun g c l p e=>?_⟩
 ·have u:updV (fun k=>((a.take i).find? fun g=>g.name==k).map fun g=>Value.slice (some ⟨sl k,0,none⟩) (vlen g) (vlen g)) a[i].name (.slice (some ⟨w.heap.size,0,none⟩) (vlen a[i]) (vlen a[i]))=fun k=>((a.take (i+1)).find? fun g=>g.name==k).map fun g=>.slice (some ⟨if k=a[i].name then w.heap.size else sl k,0,none⟩) (vlen g) (vlen g):=by
   funext k
   unfold updV
   rw[o,List.find?_append]
   by_cases e:k=a[i].name
   ·rw[if_pos e]
    have:(a.take i).find? (fun g=>g.name==k)=none:=by
     rw[List.find?_eq_none]
     intro g c q
     exact d g c ((by simpa using q:g.name=k).trans e)
    rw[this]
    simp[e]
   ·rw[if_neg e]
    have:([a[i]]:List G).find? (fun g=>g.name==k)=none:=by
     rw[List.find?_eq_none]
     intro g c q
     rw[List.mem_singleton]at c
     subst c
     exact e (by simpa using q:a[i].name=k).symm
    rw[this]
    simp[e]
  rw[<-u]
  exact y
 ·rw[o]at c
  rcases List.mem_append.1 c with q|q
  ·rw[if_neg (d g q)]
   exact⟨(h.at' g q).1,(A _ (n g q) (t g q)).trans (h.at' g q).2⟩
  ·rw[List.mem_singleton]at q
   subst q
   rw[if_pos rfl]
   exact⟨v,s⟩
 ·rw[o]at c p
  rcases List.mem_append.1 c with q|q<;>rcases List.mem_append.1 p with q'|q'
  ·rw[if_neg (d g q),if_neg (d l q')]at e
   exact h.inj g q l q' e
  ·rw[List.mem_singleton]at q'
   subst q'
   rw[if_neg (d g q),if_pos rfl]at e
   have:=n g q
   omega
  ·rw[List.mem_singleton]at q
   subst q
   rw[if_pos rfl,if_neg (d l q')]at e
   have:=n l q'
   omega
  ·rw[List.mem_singleton]at q q'
   rw[q,q']
end Go.Proofs.YtibncofnnlbmcaaGreatDoor
