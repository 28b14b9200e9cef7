import Derived.Test.YtbkndnmglhghlaaGreatDoorKMd
set_option maxRecDepth 100000
set_option maxHeartbeats 4000000

namespace Go.Proofs.YtbkndnmglhghlaaGreatDoor
open Go.RowKit
open Tp (Bs X S G Pr Cn cX)
open Ob (In)
variable {c:Cn}{a cs':List In}{b d f i j k x:Nat}{D:Nat->Prop}{q:Oq}{v:Value}{w:World}
def AskC (wb ob:Nat) (D:Nat->Prop) (q:Oq) (c:Cn) (y:X) (yb:Nat):Prop:=∀W V cs,CS W wb ob D q c V cs->RepL W D [y] [.pointer (some ⟨yb,0,none⟩)]->cs.length+(cX c cs.length [y]).length<=4000->Calls Tryz.prog 198 #[.pointer (some ⟨wb,0,none⟩),.pointer (some ⟨yb,0,none⟩)] W (Laid5 W wb ob D q c V (cs++cX c cs.length [y]))
theorem jz (h:CS w d b D q c v a){y:X}{f:Nat}(o:AskC d b D q c y f)(r:RepL w D [y] [.pointer (some ⟨f,0,none⟩)])(p:a.length+(cX c a.length [y]).length+2<=4000) :
  Calls Tryz.prog 231 #[.pointer (some ⟨d,0,none⟩),.pointer (some ⟨f,0,none⟩)] w (Laid5 w d b D q c v (a++(cX c a.length [y]++[⟨11,0,0⟩,⟨11,0,0⟩]))):=by
 have B:=zh (o w v a h r (by omega))
 have g:=zh p
 clear h o r p
 generalize cX c a.length [y]=R at *
 go_enter Tryz.func231,Tryz.ntmps231
 go_wp2_with fail
 refine B.out.mono ?_
 rintro e I⟨rfl,H,l,i⟩
 have C:=zh (yA l (by have:=g.out;simp;omega) 11)
 have u:=zh i
 clear l i
 go_wp2_with fail
 refine C.out.mono ?_
 rintro e F⟨rfl,E,m,j⟩
 have t:=zh (yA m (by have:=g.out;simp;omega) 11)
 have x:Hid (Cg b v w E F):=u.out.trans j
 clear m j
 go_wp2_with fail
 refine t.out.mono ?_
 rintro e G⟨rfl,s,n,k⟩
 have z:Hid (Cg b v w s G):=x.out.trans k
 have A:=zh n
 clear n k
 go_wp2_with fail
 refine ze rfl rfl ⟨rfl,s,?_,z.out⟩
 have:=A.out
 simpa[List.append_assoc] using this
def andT (K:Nat) (R:List In):List In:=⟨13,((K+R.length+4:Nat):Int),0⟩ :: (R++[⟨11,0,0⟩,⟨11,0,0⟩,⟨12,((K+R.length+5:Nat):Int),0⟩,⟨1,0,0⟩])
def orT (K:Nat) (R:List In):List In:=⟨13,((K+3:Nat):Int),0⟩ :: ⟨1,1,0⟩ :: ⟨12,((K+R.length+5:Nat):Int),0⟩ :: (R++[⟨11,0,0⟩,⟨11,0,0⟩])
theorem andI_eq (k:Nat)(l r:List In):Tp.andI k l r=l++andT (k+l.length) r:=by
 unfold Tp.andI andT
 simp
theorem orI_eq (k:Nat)(l r:List In):Tp.orI k l r=l++orT (k+l.length) r:=by
 unfold Tp.orI orT
 simp
theorem yK {p r:List In}{x:In}(h:CS w d f D q c v a)(e:a=p++x :: r)(i:k=p.length)(j:a.length<=4000){cs':List In}(g:cs'=p++⟨x.op,(a.length:Int),x.b⟩ :: r) :
  Calls Tryz.prog 201 #[.pointer (some ⟨d,0,none⟩),.int .i64 (k:Int)] w (Laid5 w d f D q c v cs'):=by
 subst e
 subst i
 subst g
 exact land5_post h j
theorem and5_post (h:CS w j b D q c v a){y:X}{u:Nat}(N:AskC j b D q c y u)(P:RepL w D [y] [.pointer (some ⟨u,0,none⟩)])(O:a.length+(cX c (a.length+1) [y]).length+5<=4000) :
  Calls Tryz.prog 224 #[.pointer (some ⟨j,0,none⟩),.pointer (some ⟨u,0,none⟩)] w (Laid5 w j b D q c v (a++andT a.length (cX c (a.length+1) [y]))):=by
 obtain⟨k,g⟩:∃k,k=a.length:=⟨_,rfl⟩
 obtain⟨R,s⟩:∃R,R=cX c (a.length+1) [y]:=⟨_,rfl⟩
 have A:=zh (yw h (by omega) 13)
 rw[<-g]at A
 have f:=zh O
 have n:=zh g
 have d:=zh s
 have HH:=zh h
 have a3:=zh P
 have HA:=zh N
 rw[<-s,<-g]
 clear h N P O g s
 go_enter Tryz.func224,Tryz.ntmps224
 go_wp2_with fail
 refine A.out.mono ?_
 rintro e w1⟨rfl,v1,H,o⟩
 have m:cX c (a++[(⟨13,0,0⟩:In)]).length [y]=R:=by rw[d.out];simp
 have t:=jz H HA.out (HH.out.rep o a3.out) (by rw[m];have:=f.out;rw[<-d.out]at this;simp;omega)
 rw[m]at t
 have HT:=zh t
 have S:=zh o
 clear H o t m
 go_wp2_with fail
 refine HT.out.mono ?_
 rintro e w2⟨rfl,v2,I,B⟩
 have T:Hid (Cg b v w v2 w2):=S.out.trans B
 obtain⟨i,l⟩:∃i,i=(a++[(⟨13,0,0⟩:In)]++(R++[(⟨11,0,0⟩:In),⟨11,0,0⟩])).length:=⟨_,rfl⟩
 have z:=zh (yw I (by have:=f.out;rw[<-d.out]at this;simp;omega) 12)
 rw[<-l]at z
 have Z:Hid (i=a.length+R.length+3):=by show _=_;rw[l];simp;omega
 clear I B l
 go_wp2_with fail
 refine z.out.mono ?_
 rintro e w3⟨rfl,v3,J,C⟩
 have U:Hid (Cg b v w v3 w3):=T.out.trans C
 have a0:=zh (yK (p:=a) (x:=⟨13,0,0⟩) (r:=R++[⟨11,0,0⟩,⟨11,0,0⟩,⟨12,0,0⟩]) J (by simp) n.out (by have:=f.out;rw[<-d.out]at this;simp;omega) (cs':=a++⟨13,((k+R.length+4:Nat):Int),0⟩ :: (R++[⟨11,0,0⟩,⟨11,0,0⟩,⟨12,0,0⟩])) (by rw[n.out];simp;omega))
 clear J C
 go_wp2_with fail
 refine a0.out.mono ?_
 rintro e w4⟨rfl,v4,K,E⟩
 have V:Hid (Cg b v w v4 w4):=U.out.trans E
 have a2:=zh (km K (by have:=f.out;rw[<-d.out]at this;simp;omega) 0)
 clear K E
 go_wp2_with fail
 refine a2.out.mono ?_
 rintro e w5⟨rfl,v5,L,F⟩
 have W:Hid (Cg b v w v5 w5):=V.out.trans F
 have a1:=zh (yK (p:=a++⟨13,((k+R.length+4:Nat):Int),0⟩ :: (R++[⟨11,0,0⟩,⟨11,0,0⟩])) (x:=⟨12,0,0⟩) (r:=[⟨1,0,0⟩]) (k:=i) L (by simp) (by rw[Z.out];simp;omega) (by have:=f.out;rw[<-d.out]at this;simp;omega) (cs':=a++andT k R) (by unfold andT;rw[n.out];simp;omega))
 clear L F
 go_wp2_with fail
 refine a1.out.mono ?_
 rintro e w6⟨rfl,Q,M,G⟩
 have Y:Hid (Cg b v w Q w6):=W.out.trans G
 have H6:=zh M
 clear M G
 go_wp2_with fail
 exact ze rfl rfl ⟨rfl,Q,H6.out,Y.out⟩
theorem or5_post (h:CS w j b D q c v a){y:X}{t:Nat}(O:AskC j b D q c y t)(Q:RepL w D [y] [.pointer (some ⟨t,0,none⟩)])(P:a.length+(cX c (a.length+3) [y]).length+5<=4000) :
  Calls Tryz.prog 225 #[.pointer (some ⟨j,0,none⟩),.pointer (some ⟨t,0,none⟩)] w (Laid5 w j b D q c v (a++orT a.length (cX c (a.length+3) [y]))):=by
 obtain⟨k,g⟩:∃k,k=a.length:=⟨_,rfl⟩
 obtain⟨R,o⟩:∃R,R=cX c (a.length+3) [y]:=⟨_,rfl⟩
 have z:=zh (yw h (by omega) 13)
 rw[<-g]at z
 have f:=zh P
 have n:=zh g
 have d:=zh o
 have HH:=zh h
 have a3:=zh Q
 have HA:=zh O
 rw[<-o,<-g]
 clear h O Q P g o
 go_enter Tryz.func225,Tryz.ntmps225
 go_wp2_with fail
 refine z.out.mono ?_
 rintro e w1⟨rfl,v1,I,B⟩
 have a2:=zh (km I (by have:=f.out;rw[<-d.out]at this;simp;omega) 1)
 have T:=zh B
 clear I B
 go_wp2_with fail
 refine a2.out.mono ?_
 rintro e w2⟨rfl,v2,J,C⟩
 have U:Hid (Cg b v w v2 w2):=T.out.trans C
 obtain⟨i,l⟩:∃i,i=(a++[(⟨13,0,0⟩:In)]++[(⟨1,1,0⟩:In)]).length:=⟨_,rfl⟩
 have u:=zh (yw J (by have:=f.out;rw[<-d.out]at this;simp;omega) 12)
 rw[<-l]at u
 have Z:Hid (i=a.length+2):=by show _=_;rw[l];simp
 clear J C l
 go_wp2_with fail
 refine u.out.mono ?_
 rintro e w3⟨rfl,v3,K,E⟩
 have V:Hid (Cg b v w v3 w3):=U.out.trans E
 have a0:=zh (yK (p:=a) (x:=⟨13,0,0⟩) (r:=[⟨1,1,0⟩,⟨12,0,0⟩]) K (by simp) n.out (by have:=f.out;rw[<-d.out]at this;simp;omega) (cs':=a++[⟨13,((k+3:Nat):Int),0⟩,⟨1,1,0⟩,⟨12,0,0⟩]) (by rw[n.out];simp))
 clear K E
 go_wp2_with fail
 refine a0.out.mono ?_
 rintro e w4⟨rfl,v4,L,F⟩
 have A:Hid (Cg b v w v4 w4):=V.out.trans F
 have m:cX c (a++[(⟨13,((k+3:Nat):Int),0⟩:In),⟨1,1,0⟩,⟨12,0,0⟩]).length [y]=R:=by rw[d.out];simp
 have s:=jz L HA.out (HH.out.rep A.out a3.out) (by rw[m];have:=f.out;rw[<-d.out]at this;simp;omega)
 rw[m]at s
 have HT:=zh s
 clear L F s m
 go_wp2_with fail
 refine HT.out.mono ?_
 rintro e w5⟨rfl,v5,M,G⟩
 have W:Hid (Cg b v w v5 w5):=A.out.trans G
 have a1:=zh (yK (p:=a++[⟨13,((k+3:Nat):Int),0⟩,⟨1,1,0⟩]) (x:=⟨12,0,0⟩) (r:=R++[⟨11,0,0⟩,⟨11,0,0⟩]) (k:=i) M (by simp) (by rw[Z.out];simp) (by have:=f.out;rw[<-d.out]at this;simp;omega) (cs':=a++orT k R) (by unfold orT;rw[n.out];simp;omega))
 clear M G
 go_wp2_with fail
 refine a1.out.mono ?_
 rintro e w6⟨rfl,S,N,H⟩
 have Y:Hid (Cg b v w S w6):=W.out.trans H
 have H6:=zh N
 clear N H
 go_wp2_with fail
 exact ze rfl rfl ⟨rfl,S,H6.out,Y.out⟩
theorem cX_app (c:Cn):∀(l m:List X) (k:Nat),cX c k (l++m)=cX c k l++cX c (k+(cX c k l).length) m:=by
 intro l
 induction l with
 |nil=>intro m k;simp[Tp.cX_nil]
 |cons x l ih =>
  intro m k
  obtain⟨code,pos,n,d,nm,op,b,e,a⟩:=x
  rw[List.cons_append,Tp.cX_cons,Tp.cX_cons,ih,List.append_assoc,List.length_append,Nat.add_assoc]
theorem jX {l:List X}{vs:List Value}(b:RepL w D l vs)(e:l.length=1):∃y a,l=[y]/\vs=[.pointer (some ⟨a,0,none⟩)]/\RepL w D [y] [.pointer (some ⟨a,0,none⟩)]:=by
 obtain⟨y,rfl⟩:=Tp.len1 e
 have d:=RepL.len _ _ b
 obtain⟨a,c,f⟩:=RepL.get _ _ b 0 (by simp)
 match vs,d with
 |[u],_ =>
  simp at c
  subst c
  exact⟨y,a,rfl,rfl,f⟩
theorem vf (h:CS w j f D q c v a){x:Nat}(s:D x){op:Bs}{y:X}{z:Nat}(F:w.cell? ⟨x,5,none⟩=some (.string (bs op)))(S:w.cell? ⟨x,6,none⟩=some (.pointer (some ⟨z,0,none⟩)))(G:AskC j f D q c y z)(J:RepL w D [y] [.pointer (some ⟨z,0,none⟩)])(H:a.length+(cX c a.length [y]).length+1<=4000) :
  Calls Tryz.prog 215 #[.pointer (some ⟨j,0,none⟩),.pointer (some ⟨x,0,none⟩)] w (Laid5 w j f D q c v (a++(cX c a.length [y]++[if op=Tp.wNot then ⟨11,0,0⟩ else ⟨10,0,0⟩]))):=by
 have M:=zh (G w v a h J (by omega))
 have O:=zh H
 have N:=zh h
 have P:=zh s
 have V:=(h.ok x s).2.2
 have L:=zh F
 obtain⟨I,r⟩:∃I:In,I=if op=Tp.wNot then ⟨11,0,0⟩ else ⟨10,0,0⟩:=⟨_,rfl⟩
 rw[<-r]
 have B:=zh r
 clear h G J H s r
 generalize cX c a.length [y]=R at *
 obtain⟨t,T⟩:∃t,((bs op).toList==[110,111,116])=t:=⟨_,rfl⟩
 have C:Hid (t=true↔op=Tp.wNot):=by
  show _↔_
  rw[<-T,zk,beq_iff_eq]
  exact Iff.rfl
 go_enter Tryz.func215,Tryz.ntmps215
 go_wp2_with fail
 refine M.out.mono ?_
 rintro e K⟨rfl,W,E,p⟩
 have i:=fun k=>zh (yA E (by have:=O.out;simp;omega) k)
 have Q:K.cell? ⟨x,5,none⟩=some (.string (bs op)):=(N.out.cell p P.out 5).trans L.out
 have U:x<K.heap.size:=zg Q
 have A:=zh p
 clear E p F S
 cases t with
 |true =>
  have o:Hid (op=Tp.wNot):=C.out.1 rfl
  have l:=i 11
  clear i
  go_wp2_with fail
  refine l.out.mono ?_
  rintro e u⟨rfl,g,d,b⟩
  have m:Hid (Cg f v w g u):=A.out.trans b
  have n:=zh d
  clear d b
  go_wp2_with fail
  refine ze rfl rfl ⟨rfl,g,?_,m.out⟩
  rw[B.out,if_pos o.out,<-List.append_assoc]
  exact n.out
 |false =>
  have o:Hid (¬op=Tp.wNot):=fun e=>by have:=C.out.2 e;cases this
  have l:=i 10
  clear i
  go_wp2_with fail
  refine l.out.mono ?_
  rintro e u⟨rfl,g,d,b⟩
  have m:Hid (Cg f v w g u):=A.out.trans b
  have n:=zh d
  clear d b
  go_wp2_with fail
  refine ze rfl rfl ⟨rfl,g,?_,m.out⟩
  rw[B.out,if_neg o.out,<-List.append_assoc]
  exact n.out
def pairT (c:Cn) (K:Nat) (op:Bs) (z:X):List In:=if op=Tp.wAnd then andT K (cX c (K+1) [z]) else if op=Tp.wOr then orT K (cX c (K+3) [z]) else cX c K [z]++[⟨9,Tp.idx Tp.marks5 op,0⟩]
theorem pair5_post (h:CS w b f D q c v a){x:Nat}(K:D x){op:Bs}{y z:X}{L zb:Nat}(W:w.cell? ⟨x,5,none⟩=some (.string (bs op)))(h6:w.cell? ⟨x,6,none⟩=some (.pointer (some ⟨L,0,none⟩)))(Y:w.cell? ⟨x,7,none⟩=some (.pointer (some ⟨zb,0,none⟩)))(Z:AskC b f D q c y L)(hr:RepL w D [y] [.pointer (some ⟨L,0,none⟩)])(N:AskC b f D q c z zb)(O:RepL w D [z] [.pointer (some ⟨zb,0,none⟩)])
  (hl:a.length+(cX c a.length [y]).length+(pairT c (a.length+(cX c a.length [y]).length) op z).length<=4000) :
  Calls Tryz.prog 216 #[.pointer (some ⟨b,0,none⟩),.pointer (some ⟨x,0,none⟩)] w (Laid5 w b f D q c v (a++(cX c a.length [y]++pairT c (a.length+(cX c a.length [y]).length) op z))):=by
 have HA:=zh (Z w v a h hr (by omega))
 have r:=zh hl
 have E:=zh h
 have G:=zh K
 have B:=zh N
 have a7:=zh O
 have b0:=(h.ok x K).2.2
 have H5:=zh W
 have H7:=zh Y
 clear h Z hr hl K N O
 generalize cX c a.length [y]=R at *
 obtain⟨t,ht⟩:∃t,((bs op).toList==[97,110,100])=t:=⟨_,rfl⟩
 have P:Hid (t=true↔op=Tp.wAnd):=by
  show _↔_
  rw[<-ht,zk,beq_iff_eq]
  exact Iff.rfl
 obtain⟨u,hu⟩:∃u,((bs op).toList==[111,114])=u:=⟨_,rfl⟩
 have Q:Hid (u=true↔op=Tp.wOr):=by
  show _↔_
  rw[<-hu,zk,beq_iff_eq]
  exact Iff.rfl
 go_enter Tryz.func216,Tryz.ntmps216
 go_wp2_with fail
 refine HA.out.mono ?_
 rintro e d⟨rfl,k,U,n⟩
 have H:d.cell? ⟨x,5,none⟩=some (.string (bs op)):=(E.out.cell n G.out 5).trans H5.out
 have c7:d.cell? ⟨x,7,none⟩=some (.pointer (some ⟨zb,0,none⟩)):=(E.out.cell n G.out 7).trans H7.out
 have a8:x<d.heap.size:=zg H
 have a3:=zh n
 have p:=zh U
 have C:Hid (RepL d D [z] [.pointer (some ⟨zb,0,none⟩)]):=E.out.rep n a7.out
 have j:Hid ((a++R).length=a.length+R.length):=List.length_append
 clear U n W h6 Y
 have A:Hid (∀w' T,pairT c (a.length+R.length) op z=T->(∃s,CS w' b f D q c s ((a++R)++T)/\Cg f k d s w')->Laid5 w b f D q c v (a++(R++pairT c (a.length+R.length) op z)) (.returned (.tuple #[])) w'):=fun w' T hT i=>by
  obtain⟨s,a1,a2⟩:=i
  refine⟨rfl,s,?_,a3.out.trans a2⟩
  rw[hT,<-List.append_assoc]
  exact a1
 cases t with
 |true =>
  have g:Hid (pairT c (a.length+R.length) op z=andT (a.length+R.length) (cX c (a.length+R.length+1) [z])):=by show _=_;unfold pairT;rw[if_pos (P.out.1 rfl)]
  have m:Hid (Calls Tryz.prog 224 #[.pointer (some ⟨b,0,none⟩),.pointer (some ⟨zb,0,none⟩)] d (Laid5 d b f D q c k ((a++R)++andT (a.length+R.length) (cX c (a.length+R.length+1) [z])))):=by
   have:=and5_post p.out B.out C.out (by have:=r.out;rw[g.out]at this;rw[j.out];simp[andT]at this;omega)
   rw[j.out]at this
   exact this
  go_wp2_with fail
  refine m.out.mono ?_
  rintro e l⟨rfl,i⟩
  have F:=zh i
  clear i
  go_wp2_with fail
  exact ze rfl rfl (A.out _ _ g.out F.out)
 |false =>
  have o:¬op=Tp.wAnd:=fun e=>by have:=P.out.2 e;cases this
  cases u with
  |true =>
   have g:Hid (pairT c (a.length+R.length) op z=orT (a.length+R.length) (cX c (a.length+R.length+3) [z])):=by show _=_;unfold pairT;rw[if_neg o,if_pos (Q.out.1 rfl)]
   have m:Hid (Calls Tryz.prog 225 #[.pointer (some ⟨b,0,none⟩),.pointer (some ⟨zb,0,none⟩)] d (Laid5 d b f D q c k ((a++R)++orT (a.length+R.length) (cX c (a.length+R.length+3) [z])))):=by
    have:=or5_post p.out B.out C.out (by have:=r.out;rw[g.out]at this;rw[j.out];simp[orT]at this;omega)
    rw[j.out]at this
    exact this
   clear o
   go_wp2_with fail
   refine m.out.mono ?_
   rintro e l⟨rfl,i⟩
   have F:=zh i
   clear i
   go_wp2_with fail
   exact ze rfl rfl (A.out _ _ g.out F.out)
  |false =>
   have M:¬op=Tp.wOr:=fun e=>by have:=Q.out.2 e;cases this
   have g:Hid (pairT c (a.length+R.length) op z=cX c (a.length+R.length) [z]++[⟨9,Tp.idx Tp.marks5 op,0⟩]):=by show _=_;unfold pairT;rw[if_neg o,if_neg M]
   have m:Hid (Calls Tryz.prog 198 #[.pointer (some ⟨b,0,none⟩),.pointer (some ⟨zb,0,none⟩)] d (Laid5 d b f D q c k ((a++R)++cX c (a.length+R.length) [z]))):=by
    have:=B.out d k (a++R) p.out C.out (by have:=r.out;rw[g.out]at this;rw[j.out];simp at this;omega)
    rw[j.out]at this
    exact this
   clear o M
   go_wp2_with fail
   refine m.out.mono ?_
   rintro e l⟨rfl,v2,J,I⟩
   have d5:l.cell? ⟨x,5,none⟩=some (.string (bs op)):=(p.out.cell I G.out 5).trans H
   have a9:x<l.heap.size:=zg d5
   have a6:=zh (mark5_post J.mkc op)
   have a0:Hid (Calls Tryz.prog 148 #[.pointer (some ⟨b,0,none⟩),.agg #[.int .i64 9,.int .i64 (Tp.idx Tp.marks5 op),.int .i64 0]] l (Laid5 l b f D q c v2 (((a++R)++cX c (a.length+R.length) [z])++[⟨9,Tp.idx Tp.marks5 op,0⟩]))):=yq J (by have:=r.out;rw[g.out]at this;simp at this ⊢;omega) ⟨9,Tp.idx Tp.marks5 op,0⟩
   have a4:=zh I
   clear J I H c7
   generalize Tp.idx Tp.marks5 op=mz at *
   go_wp2_with fail
   refine a6.out.mono ?_
   rintro e w3⟨rfl,rfl⟩
   go_wp2_with fail
   refine a0.out.mono ?_
   rintro e w4⟨rfl,v4,V,S⟩
   have H4:=zh V
   have a5:Hid (Cg f k d v4 w4):=a4.out.trans S
   clear V S
   go_wp2_with fail
   refine ze rfl rfl (A.out _ _ g.out ⟨v4,?_,a5.out⟩)
   rw[<-List.append_assoc]
   exact H4.out
def EC (wb ob:Nat) (D:Nat->Prop) (q:Oq) (c:Cn) (v:Value) (x:Nat) (w:World) (cs':List In):Prop:=Calls Tryz.prog 198 #[.pointer (some ⟨wb,0,none⟩),.pointer (some ⟨x,0,none⟩)] w (Laid5 w wb ob D q c v cs')
theorem expr5_num {g:Nat}(h:CS w i g D q c v a){x:Nat}(f:D x){n:Nat}(o:w.cell? ⟨x,0,none⟩=some (.int .i64 1))(p:w.cell? ⟨x,2,none⟩=some (.int .i64 (n:Int)))(d:a.length<4000):EC i g D q c v x w (a++[⟨1,(n:Int),0⟩]):=by
 unfold EC
 have j:=zh (km h d (n:Int))
 have m:=(h.ok x f).2.2
 clear h d f
 go_enter Tryz.func198,Tryz.ntmps198
 go_wp2_with fail
 refine j.out.mono ?_
 rintro e r b
 have l:=b.1
 subst l
 have k:=zh b
 clear b
 go_wp2_with fail
 exact ze rfl rfl k.out
theorem expr5_var (h:CS w j i D q c v a)(p:CnS c){x:Nat}(d:D x){f nm:Bs}(s:w.cell? ⟨x,0,none⟩=some (.int .i64 2))(n:w.cell? ⟨x,3,none⟩=some (.string (bs f)))(k:w.cell? ⟨x,4,none⟩=some (.string (bs nm)))(g:a.length<4000):EC j i D q c v x w (a++[Tp.valueI c f nm]):=by
 unfold EC
 have l:=zh (vS h g p d n k)
 have r:=(h.ok x d).2.2
 clear h g d
 generalize Tp.valueI c f nm=I at *
 go_enter Tryz.func198,Tryz.ntmps198
 go_wp2_with fail
 refine l.out.mono ?_
 rintro e t b
 have o:=b.1
 subst o
 have m:=zh b
 clear b
 go_wp2_with fail
 exact ze rfl rfl m.out
theorem expr5_item (h:CS w k d D q c v a)(B:CnS c){x:Nat}(i:D x){j nm:Bs}{y:X}{l:Nat}(Q:w.cell? ⟨x,0,none⟩=some (.int .i64 3))(z:w.cell? ⟨x,3,none⟩=some (.string (bs j)))(m:w.cell? ⟨x,4,none⟩=some (.string (bs nm)))(S:w.cell? ⟨x,6,none⟩=some (.pointer (some ⟨l,0,none⟩)))(s:AskC k d D q c y l)(A:RepL w D [y] [.pointer (some ⟨l,0,none⟩)])(u:a.length+(cX c a.length [y]).length+1<=4000):EC k d D q c v x w (a++(cX c a.length [y]++[Tp.reachI c 7 j nm])):=by
 unfold EC
 have H:=zh (s w v a h A (by omega))
 have P:=(h.ok x i).2.2
 have n:=zh h
 have f:=zh i
 have J:=zh u
 have N:=zh B
 have K:=zh z
 have L:=zh m
 clear h u i z m s A B
 generalize cX c a.length [y]=R at *
 obtain⟨I,t⟩:∃I:In,I=Tp.reachI c 7 j nm:=⟨_,rfl⟩
 rw[<-t]
 go_enter Tryz.func198,Tryz.ntmps198
 go_wp2_with fail
 refine H.out.mono ?_
 rintro e U⟨rfl,T,p,b⟩
 have g:=kK p (by have:=J.out;simp;omega) N.out f.out ((n.out.cell b f.out 3).trans K.out) ((n.out.cell b f.out 4).trans L.out) 7
 rw[<-t]at g
 have M:=zh g
 have E:=zh b
 clear p b g
 go_wp2_with fail
 refine M.out.mono ?_
 rintro e O⟨rfl,C,r,o⟩
 have F:Hid (Cg d v w C O):=E.out.trans o
 have G:=zh r
 clear r o
 go_wp2_with fail
 refine ze rfl rfl ⟨rfl,C,?_,F.out⟩
 rw[<-List.append_assoc]
 exact G.out
theorem expr5_un (_hx:x<w.heap.size)(j:w.cell? ⟨x,0,none⟩=some (.int .i64 4))(d:Calls Tryz.prog 215 #[.pointer (some ⟨b,0,none⟩),.pointer (some ⟨x,0,none⟩)] w (Laid5 w b f D q c v cs')):EC b f D q c v x w cs':=by
 unfold EC
 have g:=zh d
 clear d
 go_enter Tryz.func198,Tryz.ntmps198
 go_wp2_with fail
 refine g.out.mono ?_
 rintro e k a
 have i:=a.1
 subst i
 have h:=zh a
 clear a
 go_wp2_with fail
 exact ze rfl rfl h.out
theorem expr5_bin (_hx:x<w.heap.size)(j:w.cell? ⟨x,0,none⟩=some (.int .i64 5))(d:Calls Tryz.prog 216 #[.pointer (some ⟨b,0,none⟩),.pointer (some ⟨x,0,none⟩)] w (Laid5 w b f D q c v cs')):EC b f D q c v x w cs':=by
 unfold EC
 have g:=zh d
 clear d
 go_enter Tryz.func198,Tryz.ntmps198
 go_wp2_with fail
 refine g.out.mono ?_
 rintro e k a
 have i:=a.1
 subst i
 have h:=zh a
 clear a
 go_wp2_with fail
 exact ze rfl rfl h.out
theorem cX_take {a:List X}(b:i<a.length):cX c k (a.take (i+1))=cX c k (a.take i)++cX c (k+(cX c k (a.take i)).length) [a[i]]:=by
 rw[<-cX_app,List.take_add_one,List.getElem?_eq_getElem b]
 rfl
theorem cX_take_le (c:Cn)(k:Nat)(a:List X)(i:Nat):(cX c k (a.take i)).length<=(cX c k a).length:=by
 have:=cX_app c (a.take i) (a.drop i) k
 rw[List.take_append_drop]at this
 rw[this,List.length_append]
 omega
theorem expr5_app {p:Nat}{b:List In}(h:CS w p j D q c v b)(V:CnS c){x:Nat}(G:D x){H nm:Bs}{O:Option Addr}{ac:Nat}{a:List X}(h0:w.cell? ⟨x,0,none⟩=some (.int .i64 6))(U:w.cell? ⟨x,3,none⟩=some (.string (bs H)))(M:w.cell? ⟨x,4,none⟩=some (.string (bs nm)))(h8:w.cell? ⟨x,8,none⟩=some (.slice O a.length ac))(a3:a.length<=9223372036854775807)
  (J:∀i (hi:i<a.length),∃g y,O=some ⟨g,0,none⟩/\D g/\w.cell? ⟨g,i,none⟩=some (.pointer (some ⟨y,0,none⟩))/\RepL w D [a[i]] [.pointer (some ⟨y,0,none⟩)]/\AskC p j D q c a[i] y)(S:b.length+(cX c b.length a).length+1<=4000):EC p j D q c v x w (b++(cX c b.length a++[Tp.reachI c 14 H nm])):=by
 unfold EC
 have a8:=(h.ok x G).2.2
 have m:=zh h
 have A:=zh G
 have N:=zh S
 have HS:=zh V
 have HM:=zh U
 have HN:=zh M
 have HC:=zh J
 clear h S G U M V J
 obtain⟨d,t⟩:∃d,d=a.length:=⟨_,rfl⟩
 rw[<-t]at h8 a3
 have K:=zh t
 have a4:(d:Int)<=9223372036854775807:=by omega
 obtain⟨T,E⟩:∃T,T=b++(cX c b.length a++[Tp.reachI c 14 H nm]):=⟨_,rfl⟩
 rw[<-E]
 have HT:=zh E
 clear t E
 go_enter Tryz.func198,Tryz.ntmps198
 go_wp2_with fail
 go_loopg [51] d (fun k I wr=>∃i:Nat,i<=d/\k=d-i/\I=.int .i64 (i:Int)/\Hid (∃v',CS wr p j D q c v' (b++cX c b.length (a.take i))/\Cg j v w v' wr))
 case atStart=>exact⟨0,by omega,by omega,rfl,v,by rw[List.take_zero,Tp.cX_nil,List.append_nil];exact m.out,Cg.refl _ _ _⟩
 case round =>
  obtain⟨i,a6,hk,rfl,z⟩:=hrel
  obtain⟨I,l,f⟩:=z.out
  by_cases a7:i<d
  ·have Y:(i:Int)<(d:Int):=by omega
   have L:i<a.length:=by have:=K.out;omega
   obtain⟨g,y,rfl,dg,Q,W,P⟩:=HC.out i L
   have a2:wr.cell? ⟨g,i,none⟩=some (.pointer (some ⟨y,0,none⟩)):=(m.out.cell f dg i).trans Q
   have a5:=zg a2
   have B:(b++cX c b.length (a.take i)).length=b.length+(cX c b.length (a.take i)).length:=List.length_append
   have C:=cX_take (c:=c) (k:=b.length) L
   have F:=P wr I _ l (m.out.rep f W) (by
    rw[B]
    have:=cX_take_le c b.length a (i+1)
    rw[C,List.length_append]at this
    have:=N.out
    omega)
   rw[B,List.append_assoc,<-C]at F
   have Z:=zh F
   have u:=zh f
   clear F l f Q W P B C z
   go_wp2_with fail
   refine Z.out.mono ?_
   rintro e s⟨rfl,r,o,n⟩
   have a1:Hid (∃v',CS s p j D q c v' (b++cX c b.length (a.take (i+1)))/\Cg j v w v' s):=⟨r,o,u.out.trans n⟩
   clear o n
   go_wp2_with fail
   go_roundg (d-(i+1))
   case measure=>omega
   case rel=>exact⟨i+1,by omega,rfl,by go_num,a1⟩
  ·have Y:¬(i:Int)<(d:Int):=by omega
   have R:a.take i=a:=List.take_of_length_le (by have:=K.out;omega)
   rw[R]at l
   have HP:=zh (kK l (by have:=N.out;simp;omega) HS.out A.out ((m.out.cell f A.out 3).trans HM.out) ((m.out.cell f A.out 4).trans HN.out) 14)
   have u:=zh f
   clear l f R z
   go_wp2_with fail
   refine HP.out.mono ?_
   rintro e s⟨rfl,r,o,n⟩
   have a0:Hid (Cg j v w r s):=u.out.trans n
   have H2:=zh o
   clear o n
   go_wp2_with fail
   refine ze rfl rfl ⟨rfl,r,?_,a0.out⟩
   rw[HT.out,<-List.append_assoc]
   exact H2.out
theorem WX_mem:∀{l:List X}{x:X},Tp.WX l->x∈l->Tp.WX [x]:=by
 intro l
 induction l with
 |nil=>intro x _ h;cases h
 |cons y l ih =>
  intro x h a
  obtain⟨code,pos,f,d,nm,op,c,g,b⟩:=y
  rw[Tp.WX]at h
  rcases List.mem_cons.1 a with e|a
  ·subst e
   rw[Tp.WX]
   exact⟨h.1,by rw[Tp.WX];trivial⟩
  ·exact ih h.2 a
theorem vH {wb ob:Nat}(F:CnS c):∀(n:Nat) (x:X),SizeOf.sizeOf x<=n->Tp.WX [x]->∀f,AskC wb ob D q c x f:=by
 intro n
 induction n with
 |zero=>intro x p;cases x;simp at p
 |succ n ih =>
  intro x p R f W V d h L a
  obtain⟨code,pos,l,j,nm,op,J,w,b⟩:=x
  simp at p
  rw[Tp.WX]at R
  rw[Tp.cX_cons,Tp.cX_nil,List.append_nil]at a ⊢
  rw[RepL]at L
  obtain⟨b',P,ls,rs,gs,a4,h1,o,k,E,h5,h6,h7,Q,h9,_⟩:=L
  injection h1 with h1a _
  injection h1a with h1b
  injection h1b with h1c
  injection h1c with h1d
  subst h1d
  have s:W.cell? ⟨f,0,none⟩=some (.int .i64 (code:Int)):=za k
  have k2:W.cell? ⟨f,2,none⟩=some (.int .i64 (l:Int)):=za k
  have G:W.cell? ⟨f,3,none⟩=some (.string (bs j)):=za k
  have H:W.cell? ⟨f,4,none⟩=some (.string (bs nm)):=za k
  have S:W.cell? ⟨f,5,none⟩=some (.string (bs op)):=za k
  have I:W.cell? ⟨f,6,none⟩=some (ls.headD (.pointer none)):=za k
  have k7:W.cell? ⟨f,7,none⟩=some (rs.headD (.pointer none)):=za k
  have k8:W.cell? ⟨f,8,none⟩=some P:=za k
  have N:=(h.ok f o).2.2
  rcases R.1 with⟨rfl,_⟩|⟨rfl,_⟩|⟨rfl,_,_,_,w1,w2,_⟩|⟨rfl,_,_,_,_,w1,w2,_⟩|⟨rfl,_,_,_,_,w1,w2,w3,w4,_⟩|⟨rfl,_,_,_,_,_,w1⟩
  ·have e:Tp.oneX c d.length 1 l j nm op J w b=[⟨1,(l:Int),0⟩]:=by simp[Tp.oneX]
   rw[e]at a ⊢
   exact expr5_num h o s k2 (by simp at a;omega)
  ·have e:Tp.oneX c d.length 2 l j nm op J w b=[Tp.valueI c j nm]:=by simp[Tp.oneX]
   rw[e]at a ⊢
   exact expr5_var h F o s G H (by simp at a;omega)
  ·obtain⟨y,m,rfl,rfl,t⟩:=jX E w2
   have e:Tp.oneX c d.length 3 l j nm op [y] w b=cX c d.length [y]++[Tp.reachI c 7 j nm]:=by simp[Tp.oneX]
   rw[e]at a ⊢
   exact expr5_item h F o s G H I (ih y (by simp at p;omega) w1 m) t (by simp at a;omega)
  ·obtain⟨y,m,rfl,rfl,t⟩:=jX E w2
   have e:Tp.oneX c d.length 4 l j nm op [y] w b=cX c d.length [y]++[if op=Tp.wNot then ⟨11,0,0⟩ else ⟨10,0,0⟩]:=by simp[Tp.oneX]
   rw[e]at a ⊢
   exact expr5_un N s (vf h o S I (ih y (by simp at p;omega) w1 m) t (by simp at a;omega))
  ·obtain⟨y,m,rfl,rfl,t⟩:=jX E w2
   obtain⟨z,zb,rfl,rfl,a3⟩:=jX h6 w4
   have e:Tp.oneX c d.length 5 l j nm op [y] [z] b=cX c d.length [y]++pairT c (d.length+(cX c d.length [y]).length) op z:=by
    unfold Tp.oneX pairT
    rw[if_neg (by decide),if_neg (by decide),if_neg (by decide),if_neg (by decide),if_pos rfl]
    by_cases A:op=Tp.wAnd
    ·rw[if_pos A,if_pos A,andI_eq]
    ·rw[if_neg A,if_neg A]
     by_cases B:op=Tp.wOr
     ·rw[if_pos B,if_pos B,orI_eq]
     ·rw[if_neg B,if_neg B,List.append_assoc]
   rw[e]at a ⊢
   exact expr5_bin N s (pair5_post h o S I k7 (ih y (by simp at p;omega) w1 m) t (ih z (by simp at p;omega) w3 zb) a3 (by rw[List.length_append]at a;omega))
  ·have e:Tp.oneX c d.length 6 l j nm op J w b=cX c d.length b++[Tp.reachI c 14 j nm]:=by simp[Tp.oneX]
   rw[e]at a ⊢
   have M:=RepL.len _ _ Q
   have a0:∃C O,P=.slice C b.length O/\b.length<=9223372036854775807/\∀i,i<b.length->∃g,C=some ⟨g,0,none⟩/\D g/\W.cell? ⟨g,i,none⟩=gs[i]?:=by
    rcases h9 with⟨u,v⟩|⟨g,cap,cur,u,v,K,T,U,q6,q7⟩
    ·have:b.length=0:=by rw[<-M,u];rfl
     exact⟨none,0,by rw[this];exact v,by omega,fun i r=>by omega⟩
    ·refine⟨_,cap,by rw[<-M];exact u,?_,fun i r=>⟨g,rfl,v,?_⟩⟩
     ·have:maxLen=9223372036854775807:=rfl
      omega
     ·rw[za K,<-Array.getElem?_toList,<-q7,List.getElem?_take_of_lt (by omega)]
   obtain⟨C,O,rfl,Z,Y⟩:=a0
   refine expr5_app h F o s G H k8 Z (fun i r=>?_) (by rw[List.length_append]at a;simp at a;omega)
   obtain⟨g,u,v,K⟩:=Y i r
   obtain⟨m,T,U⟩:=RepL.get _ _ Q i r
   refine⟨g,m,u,v,K.trans T,U,ih b[i] ?_ (WX_mem w1 (List.getElem_mem r)) m⟩
   have:=List.sizeOf_lt_of_mem (List.getElem_mem r)
   omega
end Go.Proofs.YtbkndnmglhghlaaGreatDoor

namespace Go.Proofs.YtbkndnmglhghlaaGreatDoor
open Go.RowKit
open Tp (Bs X S G Pr Cn cX cS)
open Ob (In)
variable {c:Cn}{a:List In}{b d f:Nat}{D:Nat->Prop}{q:Oq}{v:Value}{w:World}
def AskT5 (wb ob:Nat) (D:Nat->Prop) (q:Oq) (c:Cn) (l:List S):Prop:=∀W V cs u scs,CS W wb ob D q c V cs->RepS W D l scs->OwnS W D u l.length scs->cs.length+(cS c cs.length l).length<=4000->Calls Tryz.prog 94 #[.pointer (some ⟨wb,0,none⟩),u] W (Laid5 W wb ob D q c V (cs++cS c cs.length l))
theorem yV (h:CS w d b D q c v a){g o:Nat}(i:D g){y:X}{f:Nat}(C:w.cell? ⟨g,o+4,none⟩=some (.pointer (some ⟨f,0,none⟩)))(n:AskC d b D q c y f)(r:RepL w D [y] [.pointer (some ⟨f,0,none⟩)])(p:a.length+(cX c a.length [y]).length+1<=4000)(op:Int) :
  Calls Tryz.prog 174 #[.pointer (some ⟨d,0,none⟩),.pointer (some ⟨g,o,none⟩),.int .i64 op] w (Laid5 w d b D q c v (a++(cX c a.length [y]++[⟨op,0,0⟩]))):=by
 have z:=zh (n w v a h r (by omega))
 have B:=zh p
 have F:=(h.ok g i).2.2
 clear h n r p i
 generalize cX c a.length [y]=R at *
 go_enter Tryz.func174,Tryz.ntmps174
 go_wp2_with fail
 refine z.out.mono ?_
 rintro e H⟨rfl,G,l,j⟩
 have A:=zh (yA l (by have:=B.out;simp;omega) op)
 have t:=zh j
 clear l j C
 go_wp2_with fail
 refine A.out.mono ?_
 rintro e E⟨rfl,s,m,k⟩
 have u:Hid (Cg b v w s E):=t.out.trans k
 have x:=zh m
 clear m k
 go_wp2_with fail
 refine ze rfl rfl ⟨rfl,s,?_,u.out⟩
 rw[<-List.append_assoc]
 exact x.out
theorem set5_plain {i:Nat}{j:List In}(h:CS w f i D q c v j)(hs:CnS c){g o:Nat}(E:D g){nm:Bs}(h2:w.cell? ⟨g,o+2,none⟩=some (.string (bs nm)))(h3:w.cell? ⟨g,o+3,none⟩=some (.pointer none)){y:X}{H:Nat}(h4:w.cell? ⟨g,o+4,none⟩=some (.pointer (some ⟨H,0,none⟩)))(U:AskC f i D q c y H)(hr:RepL w D [y] [.pointer (some ⟨H,0,none⟩)])(Z:j.length+(cX c j.length [y]).length+1<=4000) :
  Calls Tryz.prog 171 #[.pointer (some ⟨f,0,none⟩),.pointer (some ⟨g,o,none⟩)] w (Laid5 w f i D q c v (j++(cX c j.length [y]++[Tp.setI c nm false]))):=by
 have A:=zh (U w v j h hr (by omega))
 have Q:=zh hs
 have P:=zh Z
 have HH:=zh h
 have a1:=zh E
 have H2:=zh h2
 have a7:=(h.ok g E).2.2
 have a2:Hid (Cg i v w v w):=Cg.refl _ _ _
 clear h U hr Z E hs
 generalize cX c j.length [y]=R at *
 obtain⟨C,V⟩:∃C,C=j:=⟨_,rfl⟩
 obtain⟨FF,r⟩:∃F,F=j++(R++[Tp.setI c nm false]):=⟨_,rfl⟩
 rw[<-r]
 rw[<-V]at A P r
 have HF:=zh r
 clear r V
 go_enter Tryz.func171,Tryz.ntmps171
 go_wp2_with fail
 refine A.out.mono ?_
 rintro e d⟨rfl,m,l,T⟩
 have L:Hid (Cg i v w m d):=a2.out.trans T
 have c1:d.cell? ⟨f,1,none⟩=some (.slice q.oa c.own.length q.oc):=za l.wbk
 have c2:d.cell? ⟨g,o+2,none⟩=some (.string (bs nm)):=(HH.out.cell L.out a1.out (o+2)).trans H2.out
 have a8:=zc l.wbk
 have a4:=zg c2
 have p:Hid (∀n,Below d.heap.size d (d.drewN n)):=fun n=>below_drewN (Below.refl _ _) n
 have a3:Hid ((C++R).length<4000):=by show _<_;have:=P.out;simp;omega
 have M:Hid (∀n,Calls Tryz.prog 98 #[.slice q.oa c.own.length q.oc,.string (bs nm)] (d.drewN n) fun e w'=>e=.returned (.int .i64 (Tp.idx c.own nm))/\w'=d.drewN n):=fun n=>yF (l.on (p.out n)).ow (by have:=Q.out.o;omega) nm
 have K:Hid (∀W,Below d.heap.size d W->∀I:In,Calls Tryz.prog 148 #[.pointer (some ⟨f,0,none⟩),.agg #[.int .i64 I.op,.int .i64 I.a,.int .i64 I.b]] W (Laid5 d f i D q c m ((C++R)++[I]))):=fun W Y I=>(yq (l.on Y) a3.out I).mono fun _ _ G=>Laid5.from Y G
 have N:Hid (∀n,Calls Tryz.prog 199 #[.pointer (some ⟨f,0,none⟩),.string (bs nm)] (d.drewN n) fun e w'=>e=.returned (.int .i64 (Tp.idx c.vars nm))/\Below (d.drewN n).heap.size (d.drewN n) w'):=fun n=>yM (l.on (p.out n)) Q.out nm
 have S:Hid (Tp.setI c nm false=if 0<=Tp.idx c.own nm then ⟨4,Tp.idx c.own nm,0⟩ else ⟨6,Tp.idx c.vars nm,0⟩):=rfl
 have J:Hid (∀I e w',Tp.setI c nm false=I->Laid5 d f i D q c m ((C++R)++[I]) e w'->Laid5 w f i D q c v FF e w'):=fun I e w' hI G=>by
  rw[HF.out,hI,<-List.append_assoc]
  exact Laid5.then L.out G
 clear l T A
 generalize Tp.idx c.own nm=z at *
 generalize Tp.idx c.vars nm=zv at *
 generalize c.own.length=ol at *
 go_wp2_with fail
 go_quiet ((go_at_call 98;exact Calls.quiet_of_same (M.out _)))
 have a6:(d.drewN nq).cell? ⟨g,o+2,none⟩=some (.string (bs nm)):=c2
 have a5:g<(d.drewN nq).heap.size:=a4
 have t:=zh (p.out nq)
 have a0:=zh (N.out nq)
 clear M p N
 generalize d.drewN nq=w2 at *
 by_cases hz:0<=z
 ·have B:Hid (Tp.setI c nm false=⟨4,z,0⟩):=by show _=_;rw[S.out,if_pos hz]
  have s:Hid (Calls Tryz.prog 148 #[.pointer (some ⟨f,0,none⟩),.agg #[.int .i64 4,.int .i64 z,.int .i64 0]] w2 (Laid5 d f i D q c m ((C++R)++[⟨4,z,0⟩]))):=K.out w2 t.out ⟨4,z,0⟩
  go_wp2_with fail
  refine s.out.mono ?_
  rintro e w4 k
  have x:=k.1
  subst x
  have u:=zh k
  clear k
  go_wp2_with fail
  exact ze rfl rfl (J.out _ _ _ B.out u.out)
 ·have B:Hid (Tp.setI c nm false=⟨6,zv,0⟩):=by show _=_;rw[S.out,if_neg hz]
  have a9:z<0:=by omega
  go_wp2_with fail
  refine a0.out.mono ?_
  rintro e w3⟨rfl,O⟩
  have s:Hid (Calls Tryz.prog 148 #[.pointer (some ⟨f,0,none⟩),.agg #[.int .i64 6,.int .i64 zv,.int .i64 0]] w3 (Laid5 d f i D q c m ((C++R)++[⟨6,zv,0⟩]))):=K.out w3 (t.out.trans (O.mono t.out.size)) ⟨6,zv,0⟩
  clear O
  go_wp2_with fail
  refine s.out.mono ?_
  rintro e w4 k
  have x:=k.1
  subst x
  have u:=zh k
  clear k
  go_wp2_with fail
  exact ze rfl rfl (J.out _ _ _ B.out u.out)
theorem set5_at {j:Nat}{i:List In}(h:CS w f j D q c v i)(hs:CnS c){g o:Nat}(M:D g){nm:Bs}(h2:w.cell? ⟨g,o+2,none⟩=some (.string (bs nm))){z:X}{zb:Nat}(h3:w.cell? ⟨g,o+3,none⟩=some (.pointer (some ⟨zb,0,none⟩)))(a1:AskC f j D q c z zb)(a3:RepL w D [z] [.pointer (some ⟨zb,0,none⟩)]){y:X}{r:Nat}(h4:w.cell? ⟨g,o+4,none⟩=some (.pointer (some ⟨r,0,none⟩)))(hA:AskC f j D q c y r)(hr:RepL w D [y] [.pointer (some ⟨r,0,none⟩)])(hl:i.length+(cX c i.length [z]).length+(cX c (i.length+(cX c i.length [z]).length) [y]).length+1<=4000) :
  Calls Tryz.prog 171 #[.pointer (some ⟨f,0,none⟩),.pointer (some ⟨g,o,none⟩)] w (Laid5 w f j D q c v (i++((cX c i.length [z]++cX c (i.length+(cX c i.length [z]).length) [y])++[Tp.setI c nm true]))):=by
 have A:=zh (a1 w v i h a3 (by omega))
 have l:=zh hA
 have a7:=zh hr
 have HS:=zh hs
 have E:=zh hl
 have L:=zh h
 have U:=zh M
 have H2:=zh h2
 have H4:=zh h4
 have b2:=(h.ok g M).2.2
 clear h hA hr hl M hs a1 a3
 generalize cX c i.length [z]=Z at *
 obtain⟨C,u⟩:∃C,C=i++Z:=⟨_,rfl⟩
 have H:C.length=i.length+Z.length:=by rw[u,List.length_append]
 obtain⟨R,O⟩:∃R,R=cX c (i.length+Z.length) [y]:=⟨_,rfl⟩
 rw[<-O]at E ⊢
 have HL:Hid (C.length+R.length+1<=4000):=by show _<=_;rw[H];exact E.out
 obtain⟨FF,N⟩:∃F,F=i++((Z++R)++[Tp.setI c nm true]):=⟨_,rfl⟩
 rw[<-N]
 have HF:Hid (FF=C++(R++[Tp.setI c nm true])):=by show _=_;rw[N,u];simp
 rw[<-u]at A
 have T:=zh H
 have HR:=zh O
 clear N u H O
 go_enter Tryz.func171,Tryz.ntmps171
 go_wp2_with fail
 refine A.out.mono ?_
 rintro e x⟨rfl,v0,h0,t⟩
 have HA:Hid (Calls Tryz.prog 198 #[.pointer (some ⟨f,0,none⟩),.pointer (some ⟨r,0,none⟩)] x (Laid5 x f j D q c v0 (C++R))):=by
  have:=l.out x v0 C h0 (L.out.rep t a7.out) (by rw[T.out,<-HR.out];have:=E.out;omega)
  rw[T.out,<-HR.out]at this
  exact this
 have d4:x.cell? ⟨g,o+4,none⟩=some (.pointer (some ⟨r,0,none⟩)):=(L.out.cell t U.out (o+4)).trans H4.out
 have a9:=zg d4
 have a5:=zh t
 clear h0 t h3 h4 h2 l A
 go_wp2_with fail
 refine HA.out.mono ?_
 rintro e d⟨rfl,p,m,g1⟩
 have V:Hid (Cg j v w p d):=a5.out.trans g1
 have c1:d.cell? ⟨f,1,none⟩=some (.slice q.oa c.own.length q.oc):=za m.wbk
 have c2:d.cell? ⟨g,o+2,none⟩=some (.string (bs nm)):=(L.out.cell V.out U.out (o+2)).trans H2.out
 have b3:=zc m.wbk
 have a8:=zg c2
 have s:Hid (∀n,Below d.heap.size d (d.drewN n)):=fun n=>below_drewN (Below.refl _ _) n
 have a6:Hid ((C++R).length<4000):=by show _<_;have:=HL.out;simp;omega
 have Y:Hid (∀n,Calls Tryz.prog 98 #[.slice q.oa c.own.length q.oc,.string (bs nm)] (d.drewN n) fun e w'=>e=.returned (.int .i64 (Tp.idx c.own nm))/\w'=d.drewN n):=fun n=>yF (m.on (s.out n)).ow (by have:=HS.out.o;omega) nm
 have S:Hid (∀W,Below d.heap.size d W->∀I:In,Calls Tryz.prog 148 #[.pointer (some ⟨f,0,none⟩),.agg #[.int .i64 I.op,.int .i64 I.a,.int .i64 I.b]] W (Laid5 d f j D q c p ((C++R)++[I]))):=fun W hW I=>(yq (m.on hW) a6.out I).mono fun _ _ P=>Laid5.from hW P
 have a0:Hid (∀n,Calls Tryz.prog 199 #[.pointer (some ⟨f,0,none⟩),.string (bs nm)] (d.drewN n) fun e w'=>e=.returned (.int .i64 (Tp.idx c.vars nm))/\Below (d.drewN n).heap.size (d.drewN n) w'):=fun n=>yM (m.on (s.out n)) HS.out nm
 have HV:Hid (Tp.setI c nm true=if 0<=Tp.idx c.own nm then ⟨4,Tp.idx c.own nm,0⟩ else ⟨8,Tp.idx c.vars nm,0⟩):=rfl
 have Q:Hid (∀I e w',Tp.setI c nm true=I->Laid5 d f j D q c p ((C++R)++[I]) e w'->Laid5 w f j D q c v FF e w'):=fun I e w' hI P=>by
  rw[HF.out,hI,<-List.append_assoc]
  exact Laid5.then V.out P
 clear m g1 HA
 generalize Tp.idx c.own nm=z at *
 generalize Tp.idx c.vars nm=zv at *
 generalize c.own.length=ol at *
 go_wp2_with fail
 go_quiet ((go_at_call 98;exact Calls.quiet_of_same (Y.out _)))
 have b1:(d.drewN nq).cell? ⟨g,o+2,none⟩=some (.string (bs nm)):=c2
 have b0:g<(d.drewN nq).heap.size:=a8
 have B:=zh (s.out nq)
 have a4:=zh (a0.out nq)
 clear Y s a0
 generalize d.drewN nq=w2 at *
 by_cases hz:0<=z
 ·have K:Hid (Tp.setI c nm true=⟨4,z,0⟩):=by show _=_;rw[HV.out,if_pos hz]
  have l:Hid (Calls Tryz.prog 148 #[.pointer (some ⟨f,0,none⟩),.agg #[.int .i64 4,.int .i64 z,.int .i64 0]] w2 (Laid5 d f j D q c p ((C++R)++[⟨4,z,0⟩]))):=S.out w2 B.out ⟨4,z,0⟩
  go_wp2_with fail
  refine l.out.mono ?_
  rintro e w4 k
  have J:=k.1
  subst J
  have G:=zh k
  clear k
  go_wp2_with fail
  exact ze rfl rfl (Q.out _ _ _ K.out G.out)
 ·have K:Hid (Tp.setI c nm true=⟨8,zv,0⟩):=by show _=_;rw[HV.out,if_neg hz]
  have b4:z<0:=by omega
  go_wp2_with fail
  refine a4.out.mono ?_
  rintro e w3⟨rfl,a2⟩
  have l:Hid (Calls Tryz.prog 148 #[.pointer (some ⟨f,0,none⟩),.agg #[.int .i64 8,.int .i64 zv,.int .i64 0]] w3 (Laid5 d f j D q c p ((C++R)++[⟨8,zv,0⟩]))):=S.out w3 (B.out.trans (a2.mono B.out.size)) ⟨8,zv,0⟩
  clear a2
  go_wp2_with fail
  refine l.out.mono ?_
  rintro e w4 k
  have J:=k.1
  subst J
  have G:=zh k
  clear k
  go_wp2_with fail
  exact ze rfl rfl (Q.out _ _ _ K.out G.out)
theorem branch5_no (h:CS w f d D q c v a){g o:Nat}(A:D g){y:X}{G:Nat}(m:w.cell? ⟨g,o+4,none⟩=some (.pointer (some ⟨G,0,none⟩)))(hA:AskC f d D q c y G)(hr:RepL w D [y] [.pointer (some ⟨G,0,none⟩)]){b:List S}{tv:Value}{z:List Value}(Y:w.cell? ⟨g,o+5,none⟩=some tv)(hT:AskT5 f d D q c b)(K:RepS w D b z)(t:OwnS w D tv b.length z){ea:Option Addr}{ec:Nat}(Z:w.cell? ⟨g,o+6,none⟩=some (.slice ea 0 ec))(hl:a.length+(cX c a.length [y]).length+(cS c (a.length+(cX c a.length [y]).length+1) b).length+1<=4000) :
  Calls Tryz.prog 172 #[.pointer (some ⟨f,0,none⟩),.pointer (some ⟨g,o,none⟩)] w (Laid5 w f d D q c v (a++Tp.ifI a.length (cX c a.length [y]) (cS c (a.length+(cX c a.length [y]).length+1) b) [] true)):=by
 have HA:=zh (hA w v a h hr (by omega))
 have l:=zh hl
 have j:=zh h
 have I:=zh A
 have HT:=zh hT
 have a5:=zh K
 have a4:=zh t
 have b0:=(h.ok g A).2.2
 obtain⟨ta,tc,rfl⟩:=t.shape
 have H5:=zh Y
 have H6:=zh Z
 clear h hA hr hl A hT K t
 generalize cX c a.length [y]=V at *
 obtain⟨T,n⟩:∃T,T=cS c (a.length+V.length+1) b:=⟨_,rfl⟩
 rw[<-n]at l ⊢
 have a7:=zh n
 obtain⟨L,B⟩:∃F,F=a++Tp.ifI a.length V T [] true:=⟨_,rfl⟩
 rw[<-B]
 have HF:Hid (L=(a++V)++⟨13,((a.length+V.length+T.length+1:Nat):Int),0⟩ :: T):=by show _=_;rw[B];unfold Tp.ifI;simp
 clear n B
 go_enter Tryz.func172,Tryz.ntmps172
 go_wp2_with fail
 refine HA.out.mono ?_
 rintro e w1⟨rfl,v1,R,N⟩
 obtain⟨k1,s⟩:∃k,k=(a++V).length:=⟨_,rfl⟩
 have H:=zh (yw R (by have:=l.out;simp;omega) 13)
 rw[<-s]at H
 have a2:=zh s
 have a0:=zh N
 clear R N s m
 go_wp2_with fail
 refine H.out.mono ?_
 rintro e E⟨rfl,v2,U,O⟩
 have i:Hid (Cg d v w v2 E):=a0.out.trans O
 have u:cS c (a++V++[(⟨13,0,0⟩:In)]).length b=T:=by rw[a7.out];simp[Nat.add_assoc]
 have C:=HT.out E v2 _ _ z U (j.out.reps i.out a5.out) (j.out.owns i.out a4.out) (by rw[u];have:=l.out;simp;omega)
 rw[u]at C
 have a6:=zh C
 have M:E.cell? ⟨g,o+5,none⟩=some (.slice ta b.length tc):=(j.out.cell i.out I.out (o+5)).trans H5.out
 have a8:=zg M
 clear U O C u Y Z
 go_wp2_with fail
 refine a6.out.mono ?_
 rintro e w3⟨rfl,v3,W,P⟩
 have J:Hid (Cg d v w v3 w3):=i.out.trans P
 have d6:w3.cell? ⟨g,o+6,none⟩=some (.slice ea 0 ec):=(j.out.cell J.out I.out (o+6)).trans H6.out
 have a9:=zg d6
 have a3:=zh (yK (p:=a++V) (x:=⟨13,0,0⟩) (r:=T) W (by simp) a2.out (by have:=l.out;simp;omega) (cs':=L) (by rw[HF.out];simp;omega))
 clear W P M
 go_wp2_with fail
 refine a3.out.mono ?_
 rintro e w4⟨rfl,v4,m,Q⟩
 have a1:Hid (Cg d v w v4 w4):=J.out.trans Q
 have H4:=zh m
 clear m Q
 go_wp2_with fail
 exact ze rfl rfl ⟨rfl,v4,H4.out,a1.out⟩
theorem vP {n:Nat}(h:CS w n b D q c v a){g o:Nat}(N:D g){y:X}{R:Nat}(z:w.cell? ⟨g,o+4,none⟩=some (.pointer (some ⟨R,0,none⟩)))(hA:AskC n b D q c y R)(hr:RepL w D [y] [.pointer (some ⟨R,0,none⟩)]){m:List S}{tv:Value}{L:List Value}(s:w.cell? ⟨g,o+5,none⟩=some tv)(hT:AskT5 n b D q c m)(a3:RepS w D m L)(I:OwnS w D tv m.length L){d:List S}{ea:Option Addr}{ec:Nat}{B:List Value}(l:w.cell? ⟨g,o+6,none⟩=some (.slice ea d.length ec))(hE:AskT5 n b D q c d)(a2:RepS w D d B)(a1:OwnS w D (.slice ea d.length ec) d.length B)(c2:0<d.length){T E:List In}(a0:T=cS c (a.length+(cX c a.length [y]).length+1) m)(Z:E=cS c (a.length+(cX c a.length [y]).length+T.length+2) d)(hl:a.length+(cX c a.length [y]).length+T.length+E.length+2<=4000) :
  Calls Tryz.prog 172 #[.pointer (some ⟨n,0,none⟩),.pointer (some ⟨g,o,none⟩)] w (Laid5 w n b D q c v (a++Tp.ifI a.length (cX c a.length [y]) T E false)):=by
 have HA:=zh (hA w v a h hr (by omega))
 have j:=zh hl
 have f:=zh h
 have A:=zh N
 have HT:=zh hT
 have b9:=zh a3
 have b7:=zh I
 have c7:=(h.ok g N).2.2
 obtain⟨ta,tc,rfl⟩:=I.shape
 have H5:=zh s
 have M:=zh l
 have a4:=zh hE
 have b8:=zh a2
 have b6:=zh a1
 clear h hA hr hl N hT a3 I hE a2 a1
 generalize cX c a.length [y]=V at *
 have c1:=zh a0
 have a6:=zh Z
 obtain⟨FF,O⟩:∃F,F=a++Tp.ifI a.length V T E false:=⟨_,rfl⟩
 rw[<-O]
 have HF:Hid (FF=(a++V++⟨13,((a.length+V.length+T.length+2:Nat):Int),0⟩ :: T)++⟨12,((a.length+V.length+T.length+E.length+2:Nat):Int),0⟩ :: E):=by show _=_;rw[O];unfold Tp.ifI;simp
 clear a0 O Z
 obtain⟨en,C⟩:∃en,en=d.length:=⟨_,rfl⟩
 rw[<-C]at l M c2
 have a7:=zh C
 have c3:¬((en:Int)=0):=by omega
 clear C
 go_enter Tryz.func172,Tryz.ntmps172
 go_wp2_with fail
 refine HA.out.mono ?_
 rintro e w1⟨rfl,v1,h1,g1⟩
 obtain⟨k1,G⟩:∃k,k=(a++V).length:=⟨_,rfl⟩
 have W:=zh (yw h1 (by have:=j.out;simp;omega) 13)
 rw[<-G]at W
 have b2:=zh G
 have a8:=zh g1
 clear h1 g1 G z
 go_wp2_with fail
 refine W.out.mono ?_
 rintro e P⟨rfl,v2,h2,g2⟩
 have t:Hid (Cg b v w v2 P):=a8.out.trans g2
 have J:cS c (a++V++[(⟨13,0,0⟩:In)]).length m=T:=by rw[c1.out];simp[Nat.add_assoc]
 have i:=HT.out P v2 _ _ L h2 (f.out.reps t.out b9.out) (f.out.owns t.out b7.out) (by rw[J];have:=j.out;simp;omega)
 rw[J]at i
 have c0:=zh i
 have d5:P.cell? ⟨g,o+5,none⟩=some (.slice ta m.length tc):=(f.out.cell t.out A.out (o+5)).trans H5.out
 have c4:=zg d5
 clear h2 g2 i J s l
 go_wp2_with fail
 refine c0.out.mono ?_
 rintro e w3⟨rfl,v3,h3,g3⟩
 have Y:Hid (Cg b v w v3 w3):=t.out.trans g3
 have d6:w3.cell? ⟨g,o+6,none⟩=some (.slice ea en ec):=(f.out.cell Y.out A.out (o+6)).trans M.out
 have c5:=zg d6
 obtain⟨k2,H⟩:∃k,k=(a++V++[(⟨13,0,0⟩:In)]++T).length:=⟨_,rfl⟩
 have U:=zh (yw h3 (by have:=j.out;simp;omega) 12)
 rw[<-H]at U
 have b3:Hid (k2=a.length+V.length+T.length+1):=by show _=_;rw[H];simp;omega
 clear h3 g3 d5 H
 go_wp2_with fail
 refine U.out.mono ?_
 rintro e w4⟨rfl,v4,z,g4⟩
 have a9:Hid (Cg b v w v4 w4):=Y.out.trans g4
 have b4:=zh (yK (p:=a++V) (x:=⟨13,0,0⟩) (r:=T++[⟨12,0,0⟩]) z (by simp) b2.out (by have:=j.out;simp;omega) (cs':=a++V++⟨13,((a.length+V.length+T.length+2:Nat):Int),0⟩ :: (T++[⟨12,0,0⟩])) (by simp;omega))
 clear z g4
 go_wp2_with fail
 refine b4.out.mono ?_
 rintro e Q⟨rfl,v5,s,g5⟩
 have u:Hid (Cg b v w v5 Q):=a9.out.trans g5
 have K:cS c (a++V++(⟨13,((a.length+V.length+T.length+2:Nat):Int),0⟩:In) :: (T++[⟨12,0,0⟩])).length d=E:=by
  rw[a6.out]
  congr 1
  simp
  omega
 have i:=a4.out Q v5 _ _ B s (f.out.reps u.out b8.out) (f.out.owns u.out b6.out) (by rw[K];have:=j.out;simp;omega)
 rw[K,<-a7.out]at i
 have a5:=zh i
 have f6:Q.cell? ⟨g,o+6,none⟩=some (.slice ea en ec):=(f.out.cell u.out A.out (o+6)).trans M.out
 have c6:=zg f6
 clear s g5 i K d6
 go_wp2_with fail
 refine a5.out.mono ?_
 rintro e w6⟨rfl,v6,l,g6⟩
 have b0:Hid (Cg b v w v6 w6):=u.out.trans g6
 have b5:=zh (yK (p:=a++V++⟨13,((a.length+V.length+T.length+2:Nat):Int),0⟩ :: T) (x:=⟨12,0,0⟩) (r:=E) (k:=k2) l (by simp) (by rw[b3.out];simp;omega) (by have:=j.out;simp;omega) (cs':=FF) (by rw[HF.out];simp;omega))
 clear l g6
 go_wp2_with fail
 refine b5.out.mono ?_
 rintro e w7⟨rfl,v7,h7,g7⟩
 have b1:Hid (Cg b v w v7 w7):=b0.out.trans g7
 have H7:=zh h7
 clear h7 g7
 go_wp2_with fail
 exact ze rfl rfl ⟨rfl,v7,H7.out,b1.out⟩
theorem loop5_post (h:CS w f b D q c v a){g o:Nat}(C:D g){y:X}{K:Nat}(n:w.cell? ⟨g,o+4,none⟩=some (.pointer (some ⟨K,0,none⟩)))(hA:AskC f b D q c y K)(hr:RepL w D [y] [.pointer (some ⟨K,0,none⟩)]){d:List S}{tv:Value}{A:List Value}(j:w.cell? ⟨g,o+5,none⟩=some tv)(hT:AskT5 f b D q c d)(M:RepS w D d A)(u:OwnS w D tv d.length A)(hl:a.length+(cX c a.length [y]).length+(cS c (a.length+(cX c a.length [y]).length+1) d).length+2<=4000) :
  Calls Tryz.prog 173 #[.pointer (some ⟨f,0,none⟩),.pointer (some ⟨g,o,none⟩)] w (Laid5 w f b D q c v (a++Tp.whileI a.length (cX c a.length [y]) (cS c (a.length+(cX c a.length [y]).length+1) d))):=by
 have O:=zh (hA w v a h hr (by omega))
 have i:=zh hl
 have m:=zh h
 have a1:=zh C
 have HT:=zh hT
 have a9:=zh M
 have a8:=zh u
 have b3:=(h.ok g C).2.2
 obtain⟨ta,tc,rfl⟩:=u.shape
 have B:=zh j
 obtain⟨P,Q,rfl⟩:=z7 h.cd
 have k0:w.cell? ⟨f,0,none⟩=some (.pointer (some ⟨b,0,none⟩)):=za h.wbk
 have k6:w.cell? ⟨b,6,none⟩=some (.slice P a.length Q):=za h.obk
 have b5:=zc h.wbk
 have b4:=zc h.obk
 clear h hA hr hl C hT M u
 generalize cX c a.length [y]=V at *
 obtain⟨T,s⟩:∃T,T=cS c (a.length+V.length+1) d:=⟨_,rfl⟩
 rw[<-s]at i ⊢
 have b1:=zh s
 obtain⟨N,E⟩:∃F,F=a++Tp.whileI a.length V T:=⟨_,rfl⟩
 rw[<-E]
 have HF:Hid (N=(a++V)++⟨13,((a.length+V.length+T.length+2:Nat):Int),0⟩ :: (T++[⟨12,(a.length:Int),0⟩])):=by show _=_;rw[E];unfold Tp.whileI;simp
 clear s E
 obtain⟨k,G⟩:∃k,k=a.length:=⟨_,rfl⟩
 rw[<-G]at k6
 have HK:=zh G
 clear G
 obtain⟨v,hv⟩:∃v,v=Value.slice P a.length Q:=⟨_,rfl⟩
 rw[<-hv]at O m ⊢
 clear hv
 go_enter Tryz.func173,Tryz.ntmps173
 go_wp2_with fail
 refine O.out.mono ?_
 rintro e w1⟨rfl,v1,h1,U⟩
 obtain⟨k1,t⟩:∃k,k=(a++V).length:=⟨_,rfl⟩
 have L:=zh (yw h1 (by have:=i.out;simp;omega) 13)
 rw[<-t]at L
 have a6:=zh t
 have a2:=zh U
 clear h1 U t n k0 k6
 go_wp2_with fail
 refine L.out.mono ?_
 rintro e I⟨rfl,v2,h2,W⟩
 have l:Hid (Cg b v w v2 I):=a2.out.trans W
 have z:cS c (a++V++[(⟨13,0,0⟩:In)]).length d=T:=by rw[b1.out];simp[Nat.add_assoc]
 have H:=HT.out I v2 _ _ A h2 (m.out.reps l.out a9.out) (m.out.owns l.out a8.out) (by rw[z];have:=i.out;simp;omega)
 rw[z]at H
 have b0:=zh H
 have R:I.cell? ⟨g,o+5,none⟩=some (.slice ta d.length tc):=(m.out.cell l.out a1.out (o+5)).trans B.out
 have b2:=zg R
 clear h2 W H z j
 go_wp2_with fail
 refine b0.out.mono ?_
 rintro e J⟨rfl,v3,h3,Y⟩
 have a3:Hid (Cg b v w v3 J):=l.out.trans Y
 have a0:Hid (Calls Tryz.prog 148 #[.pointer (some ⟨f,0,none⟩),.agg #[.int .i64 12,.int .i64 (k:Int),.int .i64 0]] J (Laid5 J f b D q c v3 (a++V++[⟨13,0,0⟩]++T++[⟨12,(k:Int),0⟩]))):=yq h3 (by have:=i.out;simp;omega) ⟨12,(k:Int),0⟩
 clear h3 Y R
 go_wp2_with fail
 refine a0.out.mono ?_
 rintro e w4⟨rfl,v4,n,Z⟩
 have a4:Hid (Cg b v w v4 w4):=a3.out.trans Z
 have a7:=zh (yK (p:=a++V) (x:=⟨13,0,0⟩) (r:=T++[⟨12,(k:Int),0⟩]) n (by simp) a6.out (by have:=i.out;simp;omega) (cs':=N) (by rw[HF.out,HK.out];simp;omega))
 clear n Z
 go_wp2_with fail
 refine a7.out.mono ?_
 rintro e w5⟨rfl,v5,j,g5⟩
 have a5:Hid (Cg b v w v5 w5):=a4.out.trans g5
 have B:=zh j
 clear j g5
 go_wp2_with fail
 exact ze rfl rfl ⟨rfl,v5,B.out,a5.out⟩
end Go.Proofs.YtbkndnmglhghlaaGreatDoor
