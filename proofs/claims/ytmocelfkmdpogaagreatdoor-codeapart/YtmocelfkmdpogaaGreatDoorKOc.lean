import Derived.Test.YtmocelfkmdpogaaGreatDoorKOb
import Derived.Test.YtmocelfkmdpogaaGreatDoorKMe
import Derived.Test.YtmocelfkmdpogaaGreatDoorKShc
import Derived.Laws.AppendOwnNone
set_option maxRecDepth 100000
set_option maxHeartbeats 4000000
namespace Go.Proofs.YtmocelfkmdpogaaGreatDoor
open Go.RowKit
open Tp (Bs X S G Pr Cn cX cS)
open Ob (In)
def AskT5 (wb ob:Nat) (D:Nat->Prop) (q:Oq) (c:Cn) (l:List S):Prop:=∀W V cs u scs,CS W wb ob D q c V cs->RepS W D l scs->OwnS W D u l.length scs->cs.length+(cS c cs.length l).length<=4000->Calls Tryz.prog 68 #[.pointer (some ⟨wb,0,none⟩),u] W (Laid5 W wb ob D q c V (cs++cS c cs.length l))
theorem yU {w:World}{b ob:Nat}{D:Nat->Prop}{q:Oq}{c:Cn}{v:Value}{a:List In}(h:CS w b ob D q c v a){g o:Nat}(f:D g){y:X}{d:Nat}(A:w.cell? ⟨g,o+4,none⟩=some (.pointer (some ⟨d,0,none⟩)))(m:AskC b ob D q c y d)(p:RepL w D [y] [.pointer (some ⟨d,0,none⟩)])(n:a.length+(cX c a.length [y]).length+1<=4000)(op:Int) :
  Calls Tryz.prog 158 #[.pointer (some ⟨b,0,none⟩),.pointer (some ⟨g,o,none⟩),.int .i64 op] w (Laid5 w b ob D q c v (a++(cX c a.length [y]++[⟨op,0,0⟩]))):=by
 have u:=zh (m w v a h p (by omega))
 have z:=zh n
 have C:=(h.ok g f).2.2
 clear h m p n f
 generalize cX c a.length [y]=R at *
 go_enter Tryz.func158,Tryz.ntmps158
 go_wp2_with fail
 refine u.out.mono ?_
 rintro e E⟨rfl,v1,k,i⟩
 have x:=zh (y6 k (by have:=z.out;simp;omega) op)
 have r:=zh i
 clear k i A
 go_wp2_with fail
 refine x.out.mono ?_
 rintro e B⟨rfl,v2,l,j⟩
 have s:Hid (Cg ob v w v2 B):=r.out.trans j
 have t:=zh l
 clear l j
 go_wp2_with fail
 refine bodyPost_end (results_none rfl _ _ _) rfl ⟨rfl,v2,?_,s.out⟩
 rw[<-List.append_assoc]
 exact t.out
theorem set5_plain {w:World}{f ob:Nat}{D:Nat->Prop}{q:Oq}{c:Cn}{v:Value}{i:List In}(h:CS w f ob D q c v i)(hs:CnS c){g o:Nat}(A:D g){nm:Bs}(h2:w.cell? ⟨g,o+2,none⟩=some (.string (bs nm)))(h3:w.cell? ⟨g,o+3,none⟩=some (.pointer none)){y:X}{E:Nat}(h4:w.cell? ⟨g,o+4,none⟩=some (.pointer (some ⟨E,0,none⟩)))(T:AskC f ob D q c y E)(Z:RepL w D [y] [.pointer (some ⟨E,0,none⟩)])(Y:i.length+(cX c i.length [y]).length+1<=4000) :
  Calls Tryz.prog 155 #[.pointer (some ⟨f,0,none⟩),.pointer (some ⟨g,o,none⟩)] w (Laid5 w f ob D q c v (i++(cX c i.length [y]++[Tp.setI c nm false]))):=by
 have u:=zh (T w v i h Z (by omega))
 have O:=zh hs
 have N:=zh Y
 have HH:=zh h
 have a1:=zh A
 have H2:=zh h2
 have a7:=(h.ok g A).2.2
 have a2:Hid (Cg ob v w v w):=Cg.refl _ _ _
 clear h T Z Y A hs
 generalize cX c i.length [y]=R at *
 obtain⟨C,U⟩:∃C,C=i:=⟨_,rfl⟩
 obtain⟨FF,m⟩:∃F,F=i++(R++[Tp.setI c nm false]):=⟨_,rfl⟩
 rw[<-m]
 rw[<-U]at u N m
 have HF:=zh m
 clear m U
 go_enter Tryz.func155,Tryz.ntmps155
 go_wp2_with fail
 refine u.out.mono ?_
 rintro e d⟨rfl,v1,k,S⟩
 have J:Hid (Cg ob v w v1 d):=a2.out.trans S
 have c1:d.cell? ⟨f,1,none⟩=some (.slice q.oa c.own.length q.oc):=za k.wbk
 have Q:d.cell? ⟨g,o+2,none⟩=some (.string (bs nm)):=(HH.out.cell J.out a1.out (o+2)).trans H2.out
 have a8:=zi k.wbk
 have a4:=zc Q
 have l:Hid (∀n,Below d.heap.size d (d.drewN n)):=fun n=>below_drewN (Below.refl _ _) n
 have a3:Hid ((C++R).length<4000):=by show _<_;have:=N.out;simp;omega
 have K:Hid (∀n,Calls Tryz.prog 43 #[.slice q.oa c.own.length q.oc,.string (bs nm)] (d.drewN n) fun e w'=>e=.returned (.int .i64 (Tp.idx c.own nm))/\w'=d.drewN n):=fun n=>yF (k.on (l.out n)).ow (by have:=O.out.o;omega) nm
 have H:Hid (∀W,Below d.heap.size d W->∀I:In,Calls Tryz.prog 101 #[.pointer (some ⟨f,0,none⟩),.agg #[.int .i64 I.op,.int .i64 I.a,.int .i64 I.b]] W (Laid5 d f ob D q c v1 ((C++R)++[I]))):=fun W V I=>(yp (k.on V) a3.out I).mono fun _ _ B=>Laid5.from V B
 have L:Hid (∀n,Calls Tryz.prog 192 #[.pointer (some ⟨f,0,none⟩),.string (bs nm)] (d.drewN n) fun e w'=>e=.returned (.int .i64 (Tp.idx c.vars nm))/\Below (d.drewN n).heap.size (d.drewN n) w'):=fun n=>yN (k.on (l.out n)) O.out nm
 have P:Hid (Tp.setI c nm false=if 0<=Tp.idx c.own nm then ⟨4,Tp.idx c.own nm,0⟩ else ⟨6,Tp.idx c.vars nm,0⟩):=rfl
 have G:Hid (∀I e w',Tp.setI c nm false=I->Laid5 d f ob D q c v1 ((C++R)++[I]) e w'->Laid5 w f ob D q c v FF e w'):=fun I e w' hI B=>by
  rw[HF.out,hI,<-List.append_assoc]
  exact Laid5.then J.out B
 clear k S u
 generalize Tp.idx c.own nm=z at *
 generalize Tp.idx c.vars nm=zv at *
 generalize c.own.length=ol at *
 go_wp2_with fail
 go_quiet ((go_at_call 43;exact Calls.quiet_of_same (K.out _)))
 have a6:(d.drewN nq).cell? ⟨g,o+2,none⟩=some (.string (bs nm)):=Q
 have a5:g<(d.drewN nq).heap.size:=a4
 have r:=zh (l.out nq)
 have a0:=zh (L.out nq)
 clear K l L
 generalize d.drewN nq=w2 at *
 by_cases hz:0<=z
 ·have x:Hid (Tp.setI c nm false=⟨4,z,0⟩):=by show _=_;rw[P.out,if_pos hz]
  have p:Hid (Calls Tryz.prog 101 #[.pointer (some ⟨f,0,none⟩),.agg #[.int .i64 4,.int .i64 z,.int .i64 0]] w2 (Laid5 d f ob D q c v1 ((C++R)++[⟨4,z,0⟩]))):=H.out w2 r.out ⟨4,z,0⟩
  go_wp2_with fail
  refine p.out.mono ?_
  rintro e w4 j
  have t:=j.1
  subst t
  have s:=zh j
  clear j
  go_wp2_with fail
  exact bodyPost_end (results_none rfl _ _ _) rfl (G.out _ _ _ x.out s.out)
 ·have x:Hid (Tp.setI c nm false=⟨6,zv,0⟩):=by show _=_;rw[P.out,if_neg hz]
  have a9:z<0:=by omega
  go_wp2_with fail
  refine a0.out.mono ?_
  rintro e w3⟨rfl,M⟩
  have p:Hid (Calls Tryz.prog 101 #[.pointer (some ⟨f,0,none⟩),.agg #[.int .i64 6,.int .i64 zv,.int .i64 0]] w3 (Laid5 d f ob D q c v1 ((C++R)++[⟨6,zv,0⟩]))):=H.out w3 (r.out.trans (M.mono r.out.size)) ⟨6,zv,0⟩
  clear M
  go_wp2_with fail
  refine p.out.mono ?_
  rintro e w4 j
  have t:=j.1
  subst t
  have s:=zh j
  clear j
  go_wp2_with fail
  exact bodyPost_end (results_none rfl _ _ _) rfl (G.out _ _ _ x.out s.out)
theorem set5_at {w:World}{f ob:Nat}{D:Nat->Prop}{q:Oq}{c:Cn}{v:Value}{i:List In}(h:CS w f ob D q c v i)(hs:CnS c){g o:Nat}(K:D g){nm:Bs}(h2:w.cell? ⟨g,o+2,none⟩=some (.string (bs nm))){z:X}{zb:Nat}(h3:w.cell? ⟨g,o+3,none⟩=some (.pointer (some ⟨zb,0,none⟩)))(Y:AskC f ob D q c z zb)(a1:RepL w D [z] [.pointer (some ⟨zb,0,none⟩)]){y:X}{m:Nat}(h4:w.cell? ⟨g,o+4,none⟩=some (.pointer (some ⟨m,0,none⟩)))(hA:AskC f ob D q c y m)(hr:RepL w D [y] [.pointer (some ⟨m,0,none⟩)])(hl:i.length+(cX c i.length [z]).length+(cX c (i.length+(cX c i.length [z]).length) [y]).length+1<=4000) :
  Calls Tryz.prog 155 #[.pointer (some ⟨f,0,none⟩),.pointer (some ⟨g,o,none⟩)] w (Laid5 w f ob D q c v (i++((cX c i.length [z]++cX c (i.length+(cX c i.length [z]).length) [y])++[Tp.setI c nm true]))):=by
 have u:=zh (Y w v i h a1 (by omega))
 have k:=zh hA
 have a5:=zh hr
 have HS:=zh hs
 have A:=zh hl
 have J:=zh h
 have S:=zh K
 have H2:=zh h2
 have H4:=zh h4
 have b0:=(h.ok g K).2.2
 clear h hA hr hl K hs Y a1
 generalize cX c i.length [z]=Z at *
 obtain⟨C,s⟩:∃C,C=i++Z:=⟨_,rfl⟩
 have E:C.length=i.length+Z.length:=by rw[s,List.length_append]
 obtain⟨R,M⟩:∃R,R=cX c (i.length+Z.length) [y]:=⟨_,rfl⟩
 rw[<-M]at A ⊢
 have HL:Hid (C.length+R.length+1<=4000):=by show _<=_;rw[E];exact A.out
 obtain⟨FF,L⟩:∃F,F=i++((Z++R)++[Tp.setI c nm true]):=⟨_,rfl⟩
 rw[<-L]
 have HF:Hid (FF=C++(R++[Tp.setI c nm true])):=by show _=_;rw[L,s];simp
 rw[<-s]at u
 have Q:=zh E
 have HR:=zh M
 clear L s E M
 go_enter Tryz.func155,Tryz.ntmps155
 go_wp2_with fail
 refine u.out.mono ?_
 rintro e t⟨rfl,v0,h0,r⟩
 have HA:Hid (Calls Tryz.prog 191 #[.pointer (some ⟨f,0,none⟩),.pointer (some ⟨m,0,none⟩)] t (Laid5 t f ob D q c v0 (C++R))):=by
  have:=k.out t v0 C h0 (J.out.rep r a5.out) (by rw[Q.out,<-HR.out];have:=A.out;omega)
  rw[Q.out,<-HR.out]at this
  exact this
 have d4:t.cell? ⟨g,o+4,none⟩=some (.pointer (some ⟨m,0,none⟩)):=(J.out.cell r S.out (o+4)).trans H4.out
 have a7:=zc d4
 have a3:=zh r
 clear h0 r h3 h4 h2 k u
 go_wp2_with fail
 refine HA.out.mono ?_
 rintro e d⟨rfl,v1,l,g1⟩
 have T:Hid (Cg ob v w v1 d):=a3.out.trans g1
 have c1:d.cell? ⟨f,1,none⟩=some (.slice q.oa c.own.length q.oc):=za l.wbk
 have c2:d.cell? ⟨g,o+2,none⟩=some (.string (bs nm)):=(J.out.cell T.out S.out (o+2)).trans H2.out
 have b1:=zi l.wbk
 have a6:=zc c2
 have p:Hid (∀n,Below d.heap.size d (d.drewN n)):=fun n=>below_drewN (Below.refl _ _) n
 have a4:Hid ((C++R).length<4000):=by show _<_;have:=HL.out;simp;omega
 have U:Hid (∀n,Calls Tryz.prog 43 #[.slice q.oa c.own.length q.oc,.string (bs nm)] (d.drewN n) fun e w'=>e=.returned (.int .i64 (Tp.idx c.own nm))/\w'=d.drewN n):=fun n=>yF (l.on (p.out n)).ow (by have:=HS.out.o;omega) nm
 have P:Hid (∀W,Below d.heap.size d W->∀I:In,Calls Tryz.prog 101 #[.pointer (some ⟨f,0,none⟩),.agg #[.int .i64 I.op,.int .i64 I.a,.int .i64 I.b]] W (Laid5 d f ob D q c v1 ((C++R)++[I]))):=fun W hW I=>(yp (l.on hW) a4.out I).mono fun _ _ N=>Laid5.from hW N
 have V:Hid (∀n,Calls Tryz.prog 192 #[.pointer (some ⟨f,0,none⟩),.string (bs nm)] (d.drewN n) fun e w'=>e=.returned (.int .i64 (Tp.idx c.vars nm))/\Below (d.drewN n).heap.size (d.drewN n) w'):=fun n=>yN (l.on (p.out n)) HS.out nm
 have HV:Hid (Tp.setI c nm true=if 0<=Tp.idx c.own nm then ⟨4,Tp.idx c.own nm,0⟩ else ⟨8,Tp.idx c.vars nm,0⟩):=rfl
 have O:Hid (∀I e w',Tp.setI c nm true=I->Laid5 d f ob D q c v1 ((C++R)++[I]) e w'->Laid5 w f ob D q c v FF e w'):=fun I e w' hI N=>by
  rw[HF.out,hI,<-List.append_assoc]
  exact Laid5.then T.out N
 clear l g1 HA
 generalize Tp.idx c.own nm=z at *
 generalize Tp.idx c.vars nm=zv at *
 generalize c.own.length=ol at *
 go_wp2_with fail
 go_quiet ((go_at_call 43;exact Calls.quiet_of_same (U.out _)))
 have a9:(d.drewN nq).cell? ⟨g,o+2,none⟩=some (.string (bs nm)):=c2
 have a8:g<(d.drewN nq).heap.size:=a6
 have x:=zh (p.out nq)
 have a2:=zh (V.out nq)
 clear U p V
 generalize d.drewN nq=w2 at *
 by_cases hz:0<=z
 ·have H:Hid (Tp.setI c nm true=⟨4,z,0⟩):=by show _=_;rw[HV.out,if_pos hz]
  have k:Hid (Calls Tryz.prog 101 #[.pointer (some ⟨f,0,none⟩),.agg #[.int .i64 4,.int .i64 z,.int .i64 0]] w2 (Laid5 d f ob D q c v1 ((C++R)++[⟨4,z,0⟩]))):=P.out w2 x.out ⟨4,z,0⟩
  go_wp2_with fail
  refine k.out.mono ?_
  rintro e w4 j
  have G:=j.1
  subst G
  have B:=zh j
  clear j
  go_wp2_with fail
  exact bodyPost_end (results_none rfl _ _ _) rfl (O.out _ _ _ H.out B.out)
 ·have H:Hid (Tp.setI c nm true=⟨8,zv,0⟩):=by show _=_;rw[HV.out,if_neg hz]
  have b2:z<0:=by omega
  go_wp2_with fail
  refine a2.out.mono ?_
  rintro e w3⟨rfl,a0⟩
  have k:Hid (Calls Tryz.prog 101 #[.pointer (some ⟨f,0,none⟩),.agg #[.int .i64 8,.int .i64 zv,.int .i64 0]] w3 (Laid5 d f ob D q c v1 ((C++R)++[⟨8,zv,0⟩]))):=P.out w3 (x.out.trans (a0.mono x.out.size)) ⟨8,zv,0⟩
  clear a0
  go_wp2_with fail
  refine k.out.mono ?_
  rintro e w4 j
  have G:=j.1
  subst G
  have B:=zh j
  clear j
  go_wp2_with fail
  exact bodyPost_end (results_none rfl _ _ _) rfl (O.out _ _ _ H.out B.out)
theorem branch5_no {w:World}{d ob:Nat}{D:Nat->Prop}{q:Oq}{c:Cn}{v:Value}{a:List In}(h:CS w d ob D q c v a){g o:Nat}(z:D g){y:X}{E:Nat}(l:w.cell? ⟨g,o+4,none⟩=some (.pointer (some ⟨E,0,none⟩)))(Z:AskC d ob D q c y E)(hr:RepL w D [y] [.pointer (some ⟨E,0,none⟩)]){b:List S}{tv:Value}{u:List Value}(W:w.cell? ⟨g,o+5,none⟩=some tv)(hT:AskT5 d ob D q c b)(J:RepS w D b u)(s:OwnS w D tv b.length u){ea:Option Addr}{ec:Nat}(Y:w.cell? ⟨g,o+6,none⟩=some (.slice ea 0 ec))(hl:a.length+(cX c a.length [y]).length+(cS c (a.length+(cX c a.length [y]).length+1) b).length+1<=4000) :
  Calls Tryz.prog 156 #[.pointer (some ⟨d,0,none⟩),.pointer (some ⟨g,o,none⟩)] w (Laid5 w d ob D q c v (a++Tp.ifI a.length (cX c a.length [y]) (cS c (a.length+(cX c a.length [y]).length+1) b) [] true)):=by
 have HA:=zh (Z w v a h hr (by omega))
 have j:=zh hl
 have i:=zh h
 have H:=zh z
 have HT:=zh hT
 have a5:=zh J
 have a4:=zh s
 have b0:=(h.ok g z).2.2
 obtain⟨ta,tc,rfl⟩:=s.shape
 have H5:=zh W
 have H6:=zh Y
 clear h Z hr hl z hT J s
 generalize cX c a.length [y]=V at *
 obtain⟨T,m⟩:∃T,T=cS c (a.length+V.length+1) b:=⟨_,rfl⟩
 rw[<-m]at j ⊢
 have a7:=zh m
 obtain⟨K,A⟩:∃F,F=a++Tp.ifI a.length V T [] true:=⟨_,rfl⟩
 rw[<-A]
 have HF:Hid (K=(a++V)++⟨13,((a.length+V.length+T.length+1:Nat):Int),0⟩ :: T):=by show _=_;rw[A];unfold Tp.ifI;simp
 clear m A
 go_enter Tryz.func156,Tryz.ntmps156
 go_wp2_with fail
 refine HA.out.mono ?_
 rintro e w1⟨rfl,v1,Q,M⟩
 obtain⟨k1,n⟩:∃k,k=(a++V).length:=⟨_,rfl⟩
 have G:=zh (yu Q (by have:=j.out;simp;omega) 13)
 rw[<-n]at G
 have a2:=zh n
 have a0:=zh M
 clear Q M n l
 go_wp2_with fail
 refine G.out.mono ?_
 rintro e C⟨rfl,v2,R,N⟩
 have f:Hid (Cg ob v w v2 C):=a0.out.trans N
 have t:cS c (a++V++[(⟨13,0,0⟩:In)]).length b=T:=by rw[a7.out];simp[Nat.add_assoc]
 have B:=HT.out C v2 _ _ u R (i.out.reps f.out a5.out) (i.out.owns f.out a4.out) (by rw[t];have:=j.out;simp;omega)
 rw[t]at B
 have a6:=zh B
 have L:C.cell? ⟨g,o+5,none⟩=some (.slice ta b.length tc):=(i.out.cell f.out H.out (o+5)).trans H5.out
 have a8:=zc L
 clear R N B t W Y
 go_wp2_with fail
 refine a6.out.mono ?_
 rintro e w3⟨rfl,v3,U,O⟩
 have I:Hid (Cg ob v w v3 w3):=f.out.trans O
 have d6:w3.cell? ⟨g,o+6,none⟩=some (.slice ea 0 ec):=(i.out.cell I.out H.out (o+6)).trans H6.out
 have a9:=zc d6
 have a3:=zh (yK (p:=a++V) (x:=⟨13,0,0⟩) (r:=T) U (by simp) a2.out (by have:=j.out;simp;omega) (cs':=K) (by rw[HF.out];simp;omega))
 clear U O L
 go_wp2_with fail
 refine a3.out.mono ?_
 rintro e w4⟨rfl,v4,l,P⟩
 have a1:Hid (Cg ob v w v4 w4):=I.out.trans P
 have H4:=zh l
 clear l P
 go_wp2_with fail
 exact bodyPost_end (results_none rfl _ _ _) rfl ⟨rfl,v4,H4.out,a1.out⟩
theorem uV {w:World}{m ob:Nat}{D:Nat->Prop}{q:Oq}{c:Cn}{v:Value}{a:List In}(h:CS w m ob D q c v a){g o:Nat}(M:D g){y:X}{Q:Nat}(u:w.cell? ⟨g,o+4,none⟩=some (.pointer (some ⟨Q,0,none⟩)))(hA:AskC m ob D q c y Q)(hr:RepL w D [y] [.pointer (some ⟨Q,0,none⟩)]){l:List S}{tv:Value}{K:List Value}(n:w.cell? ⟨g,o+5,none⟩=some tv)(hT:AskT5 m ob D q c l)(a2:RepS w D l K)(H:OwnS w D tv l.length K){b:List S}{ea:Option Addr}{ec:Nat}{A:List Value}(j:w.cell? ⟨g,o+6,none⟩=some (.slice ea b.length ec))(hE:AskT5 m ob D q c b)(a1:RepS w D b A)(a0:OwnS w D (.slice ea b.length ec) b.length A)(c1:0<b.length){T E:List In}(Z:T=cS c (a.length+(cX c a.length [y]).length+1) l)(Y:E=cS c (a.length+(cX c a.length [y]).length+T.length+2) b)(hl:a.length+(cX c a.length [y]).length+T.length+E.length+2<=4000) :
  Calls Tryz.prog 156 #[.pointer (some ⟨m,0,none⟩),.pointer (some ⟨g,o,none⟩)] w (Laid5 w m ob D q c v (a++Tp.ifI a.length (cX c a.length [y]) T E false)):=by
 have HA:=zh (hA w v a h hr (by omega))
 have i:=zh hl
 have d:=zh h
 have z:=zh M
 have HT:=zh hT
 have b8:=zh a2
 have b6:=zh H
 have c6:=(h.ok g M).2.2
 obtain⟨ta,tc,rfl⟩:=H.shape
 have H5:=zh n
 have L:=zh j
 have a3:=zh hE
 have b7:=zh a1
 have b5:=zh a0
 clear h hA hr hl M hT a2 H hE a1 a0
 generalize cX c a.length [y]=V at *
 have c0:=zh Z
 have a5:=zh Y
 obtain⟨FF,N⟩:∃F,F=a++Tp.ifI a.length V T E false:=⟨_,rfl⟩
 rw[<-N]
 have HF:Hid (FF=(a++V++⟨13,((a.length+V.length+T.length+2:Nat):Int),0⟩ :: T)++⟨12,((a.length+V.length+T.length+E.length+2:Nat):Int),0⟩ :: E):=by show _=_;rw[N];unfold Tp.ifI;simp
 clear Z N Y
 obtain⟨en,B⟩:∃en,en=b.length:=⟨_,rfl⟩
 rw[<-B]at j L c1
 have a6:=zh B
 have c2:¬((en:Int)=0):=by omega
 clear B
 go_enter Tryz.func156,Tryz.ntmps156
 go_wp2_with fail
 refine HA.out.mono ?_
 rintro e w1⟨rfl,v1,h1,g1⟩
 obtain⟨k1,C⟩:∃k,k=(a++V).length:=⟨_,rfl⟩
 have U:=zh (yu h1 (by have:=i.out;simp;omega) 13)
 rw[<-C]at U
 have b1:=zh C
 have a7:=zh g1
 clear h1 g1 C u
 go_wp2_with fail
 refine U.out.mono ?_
 rintro e O⟨rfl,v2,h2,g2⟩
 have s:Hid (Cg ob v w v2 O):=a7.out.trans g2
 have I:cS c (a++V++[(⟨13,0,0⟩:In)]).length l=T:=by rw[c0.out];simp[Nat.add_assoc]
 have f:=HT.out O v2 _ _ K h2 (d.out.reps s.out b8.out) (d.out.owns s.out b6.out) (by rw[I];have:=i.out;simp;omega)
 rw[I]at f
 have b9:=zh f
 have d5:O.cell? ⟨g,o+5,none⟩=some (.slice ta l.length tc):=(d.out.cell s.out z.out (o+5)).trans H5.out
 have c3:=zc d5
 clear h2 g2 f I n j
 go_wp2_with fail
 refine b9.out.mono ?_
 rintro e w3⟨rfl,v3,h3,g3⟩
 have W:Hid (Cg ob v w v3 w3):=s.out.trans g3
 have d6:w3.cell? ⟨g,o+6,none⟩=some (.slice ea en ec):=(d.out.cell W.out z.out (o+6)).trans L.out
 have c4:=zc d6
 obtain⟨k2,G⟩:∃k,k=(a++V++[(⟨13,0,0⟩:In)]++T).length:=⟨_,rfl⟩
 have R:=zh (yu h3 (by have:=i.out;simp;omega) 12)
 rw[<-G]at R
 have b2:Hid (k2=a.length+V.length+T.length+1):=by show _=_;rw[G];simp;omega
 clear h3 g3 d5 G
 go_wp2_with fail
 refine R.out.mono ?_
 rintro e w4⟨rfl,v4,u,g4⟩
 have a8:Hid (Cg ob v w v4 w4):=W.out.trans g4
 have b3:=zh (yK (p:=a++V) (x:=⟨13,0,0⟩) (r:=T++[⟨12,0,0⟩]) u (by simp) b1.out (by have:=i.out;simp;omega) (cs':=a++V++⟨13,((a.length+V.length+T.length+2:Nat):Int),0⟩ :: (T++[⟨12,0,0⟩])) (by simp;omega))
 clear u g4
 go_wp2_with fail
 refine b3.out.mono ?_
 rintro e P⟨rfl,v5,n,g5⟩
 have t:Hid (Cg ob v w v5 P):=a8.out.trans g5
 have J:cS c (a++V++(⟨13,((a.length+V.length+T.length+2:Nat):Int),0⟩:In) :: (T++[⟨12,0,0⟩])).length b=E:=by
  rw[a5.out]
  congr 1
  simp
  omega
 have f:=a3.out P v5 _ _ A n (d.out.reps t.out b7.out) (d.out.owns t.out b5.out) (by rw[J];have:=i.out;simp;omega)
 rw[J,<-a6.out]at f
 have a4:=zh f
 have f6:P.cell? ⟨g,o+6,none⟩=some (.slice ea en ec):=(d.out.cell t.out z.out (o+6)).trans L.out
 have c5:=zc f6
 clear n g5 f J d6
 go_wp2_with fail
 refine a4.out.mono ?_
 rintro e w6⟨rfl,v6,j,g6⟩
 have a9:Hid (Cg ob v w v6 w6):=t.out.trans g6
 have b4:=zh (yK (p:=a++V++⟨13,((a.length+V.length+T.length+2:Nat):Int),0⟩ :: T) (x:=⟨12,0,0⟩) (r:=E) (k:=k2) j (by simp) (by rw[b2.out];simp;omega) (by have:=i.out;simp;omega) (cs':=FF) (by rw[HF.out];simp;omega))
 clear j g6
 go_wp2_with fail
 refine b4.out.mono ?_
 rintro e w7⟨rfl,v7,h7,g7⟩
 have b0:Hid (Cg ob v w v7 w7):=a9.out.trans g7
 have H7:=zh h7
 clear h7 g7
 go_wp2_with fail
 exact bodyPost_end (results_none rfl _ _ _) rfl ⟨rfl,v7,H7.out,b0.out⟩
theorem loop5_post {w:World}{d ob:Nat}{D:Nat->Prop}{q:Oq}{c:Cn}{v:Value}{a:List In}(h:CS w d ob D q c v a){g o:Nat}(B:D g){y:X}{J:Nat}(m:w.cell? ⟨g,o+4,none⟩=some (.pointer (some ⟨J,0,none⟩)))(hA:AskC d ob D q c y J)(hr:RepL w D [y] [.pointer (some ⟨J,0,none⟩)]){b:List S}{tv:Value}{z:List Value}(i:w.cell? ⟨g,o+5,none⟩=some tv)(hT:AskT5 d ob D q c b)(L:RepS w D b z)(t:OwnS w D tv b.length z)(hl:a.length+(cX c a.length [y]).length+(cS c (a.length+(cX c a.length [y]).length+1) b).length+2<=4000) :
  Calls Tryz.prog 157 #[.pointer (some ⟨d,0,none⟩),.pointer (some ⟨g,o,none⟩)] w (Laid5 w d ob D q c v (a++Tp.whileI a.length (cX c a.length [y]) (cS c (a.length+(cX c a.length [y]).length+1) b))):=by
 have N:=zh (hA w v a h hr (by omega))
 have f:=zh hl
 have l:=zh h
 have a1:=zh B
 have HT:=zh hT
 have a9:=zh L
 have a8:=zh t
 have b3:=(h.ok g B).2.2
 obtain⟨ta,tc,rfl⟩:=t.shape
 have A:=zh i
 obtain⟨O,P,rfl⟩:=zl h.cd
 have k0:w.cell? ⟨d,0,none⟩=some (.pointer (some ⟨ob,0,none⟩)):=za h.wbk
 have k6:w.cell? ⟨ob,6,none⟩=some (.slice O a.length P):=za h.obk
 have b5:=zi h.wbk
 have b4:=zi h.obk
 clear h hA hr hl B hT L t
 generalize cX c a.length [y]=V at *
 obtain⟨T,n⟩:∃T,T=cS c (a.length+V.length+1) b:=⟨_,rfl⟩
 rw[<-n]at f ⊢
 have b1:=zh n
 obtain⟨M,C⟩:∃F,F=a++Tp.whileI a.length V T:=⟨_,rfl⟩
 rw[<-C]
 have HF:Hid (M=(a++V)++⟨13,((a.length+V.length+T.length+2:Nat):Int),0⟩ :: (T++[⟨12,(a.length:Int),0⟩])):=by show _=_;rw[C];unfold Tp.whileI;simp
 clear n C
 obtain⟨k,E⟩:∃k,k=a.length:=⟨_,rfl⟩
 rw[<-E]at k6
 have HK:=zh E
 clear E
 obtain⟨v,hv⟩:∃v,v=Value.slice O a.length P:=⟨_,rfl⟩
 rw[<-hv]at N l ⊢
 clear hv
 go_enter Tryz.func157,Tryz.ntmps157
 go_wp2_with fail
 refine N.out.mono ?_
 rintro e w1⟨rfl,v1,h1,R⟩
 obtain⟨k1,s⟩:∃k,k=(a++V).length:=⟨_,rfl⟩
 have K:=zh (yu h1 (by have:=f.out;simp;omega) 13)
 rw[<-s]at K
 have a6:=zh s
 have a2:=zh R
 clear h1 R s m k0 k6
 go_wp2_with fail
 refine K.out.mono ?_
 rintro e H⟨rfl,v2,h2,U⟩
 have j:Hid (Cg ob v w v2 H):=a2.out.trans U
 have u:cS c (a++V++[(⟨13,0,0⟩:In)]).length b=T:=by rw[b1.out];simp[Nat.add_assoc]
 have G:=HT.out H v2 _ _ z h2 (l.out.reps j.out a9.out) (l.out.owns j.out a8.out) (by rw[u];have:=f.out;simp;omega)
 rw[u]at G
 have b0:=zh G
 have Q:H.cell? ⟨g,o+5,none⟩=some (.slice ta b.length tc):=(l.out.cell j.out a1.out (o+5)).trans A.out
 have b2:=zc Q
 clear h2 U G u i
 go_wp2_with fail
 refine b0.out.mono ?_
 rintro e I⟨rfl,v3,h3,W⟩
 have a3:Hid (Cg ob v w v3 I):=j.out.trans W
 have a0:Hid (Calls Tryz.prog 101 #[.pointer (some ⟨d,0,none⟩),.agg #[.int .i64 12,.int .i64 (k:Int),.int .i64 0]] I (Laid5 I d ob D q c v3 (a++V++[⟨13,0,0⟩]++T++[⟨12,(k:Int),0⟩]))):=yp h3 (by have:=f.out;simp;omega) ⟨12,(k:Int),0⟩
 clear h3 W Q
 go_wp2_with fail
 refine a0.out.mono ?_
 rintro e w4⟨rfl,v4,m,Y⟩
 have a4:Hid (Cg ob v w v4 w4):=a3.out.trans Y
 have a7:=zh (yK (p:=a++V) (x:=⟨13,0,0⟩) (r:=T++[⟨12,(k:Int),0⟩]) m (by simp) a6.out (by have:=f.out;simp;omega) (cs':=M) (by rw[HF.out,HK.out];simp;omega))
 clear m Y
 go_wp2_with fail
 refine a7.out.mono ?_
 rintro e w5⟨rfl,v5,i,Z⟩
 have a5:Hid (Cg ob v w v5 w5):=a4.out.trans Z
 have A:=zh i
 clear i Z
 go_wp2_with fail
 exact bodyPost_end (results_none rfl _ _ _) rfl ⟨rfl,v5,A.out,a5.out⟩
def SC5 (wb ob:Nat) (D:Nat->Prop) (q:Oq) (c:Cn) (v:Value) (g o:Nat) (w:World) (cs':List In):Prop:=Calls Tryz.prog 100 #[.pointer (some ⟨wb,0,none⟩),.pointer (some ⟨g,o,none⟩)] w (Laid5 w wb ob D q c v cs')
theorem stmt5_1 {w:World}{b ob:Nat}{D:Nat->Prop}{q:Oq}{c:Cn}{v:Value}{g o:Nat}{cs':List In}(i:w.cell? ⟨g,o,none⟩=some (.int .i64 1))(d:Calls Tryz.prog 155 #[.pointer (some ⟨b,0,none⟩),.pointer (some ⟨g,o,none⟩)] w (Laid5 w b ob D q c v cs')):SC5 b ob D q c v g o w cs':=by
 unfold SC5
 have f:=zh d
 have k:=zc i
 clear d
 go_enter Tryz.func100,Tryz.ntmps100
 go_wp2_with fail
 refine f.out.mono ?_
 rintro e l a
 have j:=a.1
 subst j
 have h:=zh a
 clear a
 go_wp2_with fail
 exact bodyPost_end (results_none rfl _ _ _) rfl h.out
theorem stmt5_2 {w:World}{b ob:Nat}{D:Nat->Prop}{q:Oq}{c:Cn}{v:Value}{g o:Nat}{cs':List In}(i:w.cell? ⟨g,o,none⟩=some (.int .i64 2))(d:Calls Tryz.prog 156 #[.pointer (some ⟨b,0,none⟩),.pointer (some ⟨g,o,none⟩)] w (Laid5 w b ob D q c v cs')):SC5 b ob D q c v g o w cs':=by
 unfold SC5
 have f:=zh d
 have k:=zc i
 clear d
 go_enter Tryz.func100,Tryz.ntmps100
 go_wp2_with fail
 refine f.out.mono ?_
 rintro e l a
 have j:=a.1
 subst j
 have h:=zh a
 clear a
 go_wp2_with fail
 exact bodyPost_end (results_none rfl _ _ _) rfl h.out
theorem stmt5_3 {w:World}{b ob:Nat}{D:Nat->Prop}{q:Oq}{c:Cn}{v:Value}{g o:Nat}{cs':List In}(i:w.cell? ⟨g,o,none⟩=some (.int .i64 3))(d:Calls Tryz.prog 157 #[.pointer (some ⟨b,0,none⟩),.pointer (some ⟨g,o,none⟩)] w (Laid5 w b ob D q c v cs')):SC5 b ob D q c v g o w cs':=by
 unfold SC5
 have f:=zh d
 have k:=zc i
 clear d
 go_enter Tryz.func100,Tryz.ntmps100
 go_wp2_with fail
 refine f.out.mono ?_
 rintro e l a
 have j:=a.1
 subst j
 have h:=zh a
 clear a
 go_wp2_with fail
 exact bodyPost_end (results_none rfl _ _ _) rfl h.out
theorem stmt5_4 {w:World}{b ob:Nat}{D:Nat->Prop}{q:Oq}{c:Cn}{v:Value}{g o:Nat}{cs':List In}(i:w.cell? ⟨g,o,none⟩=some (.int .i64 4))(d:Calls Tryz.prog 158 #[.pointer (some ⟨b,0,none⟩),.pointer (some ⟨g,o,none⟩),.int .i64 15] w (Laid5 w b ob D q c v cs')):SC5 b ob D q c v g o w cs':=by
 unfold SC5
 have f:=zh d
 have k:=zc i
 clear d
 go_enter Tryz.func100,Tryz.ntmps100
 go_wp2_with fail
 refine f.out.mono ?_
 rintro e l a
 have j:=a.1
 subst j
 have h:=zh a
 clear a
 go_wp2_with fail
 exact bodyPost_end (results_none rfl _ _ _) rfl h.out
theorem stmt5_5 {w:World}{b ob:Nat}{D:Nat->Prop}{q:Oq}{c:Cn}{v:Value}{g o:Nat}{cs':List In}(i:w.cell? ⟨g,o,none⟩=some (.int .i64 5))(d:Calls Tryz.prog 158 #[.pointer (some ⟨b,0,none⟩),.pointer (some ⟨g,o,none⟩),.int .i64 16] w (Laid5 w b ob D q c v cs')):SC5 b ob D q c v g o w cs':=by
 unfold SC5
 have f:=zh d
 have k:=zc i
 clear d
 go_enter Tryz.func100,Tryz.ntmps100
 go_wp2_with fail
 refine f.out.mono ?_
 rintro e l a
 have j:=a.1
 subst j
 have h:=zh a
 clear a
 go_wp2_with fail
 exact bodyPost_end (results_none rfl _ _ _) rfl h.out
theorem stmt5_6 {w:World}{b ob:Nat}{D:Nat->Prop}{q:Oq}{c:Cn}{v:Value}{g o:Nat}{cs':List In}(i:w.cell? ⟨g,o,none⟩=some (.int .i64 6))(d:Calls Tryz.prog 158 #[.pointer (some ⟨b,0,none⟩),.pointer (some ⟨g,o,none⟩),.int .i64 2] w (Laid5 w b ob D q c v cs')):SC5 b ob D q c v g o w cs':=by
 unfold SC5
 have f:=zh d
 have k:=zc i
 clear d
 go_enter Tryz.func100,Tryz.ntmps100
 go_wp2_with fail
 refine f.out.mono ?_
 rintro e l a
 have j:=a.1
 subst j
 have h:=zh a
 clear a
 go_wp2_with fail
 exact bodyPost_end (results_none rfl _ _ _) rfl h.out
theorem cS_app (c:Cn):∀(l m:List S) (k:Nat),cS c k (l++m)=cS c k l++cS c (k+(cS c k l).length) m:=by
 intro l
 induction l with
 |nil=>intro m k;simp[Tp.cS_nil]
 |cons x l ih =>
  intro m k
  obtain⟨code,pos,nm,b,e,d,a⟩:=x
  rw[List.cons_append,Tp.cS_cons,Tp.cS_cons,ih,List.append_assoc,List.length_append,Nat.add_assoc]
theorem cS_take {c:Cn}{k:Nat}{a:List S}{i:Nat}(b:i<a.length):cS c k (a.take (i+1))=cS c k (a.take i)++cS c (k+(cS c k (a.take i)).length) [a[i]]:=by
 rw[<-cS_app,List.take_add_one,List.getElem?_eq_getElem b]
 rfl
theorem cS_take_le (c:Cn)(k:Nat)(a:List S)(i:Nat):(cS c k (a.take i)).length<=(cS c k a).length:=by
 have:=cS_app c (a.take i) (a.drop i) k
 rw[List.take_append_drop]at this
 rw[this,List.length_append]
 omega
theorem WS_mem:∀{l:List S}{x:S},Tp.WS l->x∈l->Tp.WS [x]:=by
 intro l
 induction l with
 |nil=>intro x _ h;cases h
 |cons y l ih =>
  intro x h a
  obtain⟨code,pos,nm,c,f,d,b⟩:=y
  rw[Tp.WS]at h
  rcases List.mem_cons.1 a with e|a
  ·subst e
   rw[Tp.WS]
   exact⟨h.1,by rw[Tp.WS];trivial⟩
  ·exact ih h.2 a
theorem one5 {w:World}{x ob:Nat}{D:Nat->Prop}{q:Oq}{c:Cn}{v:Value}{a:List In}(A:CnS c)(h:CS w x ob D q c v a){code pos:Nat}{nm:Bs}{n u:List X}{d f:List S}(Q:Tp.WS [(⟨code,pos,nm,n,u,d,f⟩:S)])(H:Tp.WS d->AskT5 x ob D q c d)(V:Tp.WS f->AskT5 x ob D q c f){g o:Nat}(s:D g){K ev:Value}{J vs M L:List Value}
  (t:∀j,j<7->w.cell? ⟨g,o+j,none⟩=[Value.int .i64 (code:Int),.int .i64 (pos:Int),.string (bs nm),J.headD (.pointer none),vs.headD (.pointer none),K,ev][j]?)(E:RepL w D n J)(T:RepL w D u vs)(F:RepS w D d M)(C:OwnS w D K d.length M)(R:RepS w D f L)(B:OwnS w D ev f.length L)(b:a.length+(Tp.oneS c a.length code nm n u d f).length<=4000):SC5 x ob D q c v g o w (a++Tp.oneS c a.length code nm n u d f):=by
 have p:w.cell? ⟨g,o,none⟩=some (.int .i64 (code:Int)):=t 0 (by omega)
 have N:w.cell? ⟨g,o+2,none⟩=some (.string (bs nm)):=t 2 (by omega)
 have O:w.cell? ⟨g,o+3,none⟩=some (J.headD (.pointer none)):=t 3 (by omega)
 have r:w.cell? ⟨g,o+4,none⟩=some (vs.headD (.pointer none)):=t 4 (by omega)
 have G:w.cell? ⟨g,o+5,none⟩=some K:=t 5 (by omega)
 have P:w.cell? ⟨g,o+6,none⟩=some ev:=t 6 (by omega)
 rw[Tp.WS]at Q
 have val:Tp.ev u->∃y m,u=[y]/\vs=[.pointer (some ⟨m,0,none⟩)]/\RepL w D [y] [.pointer (some ⟨m,0,none⟩)]/\AskC x ob D q c y m:=fun l=>by
  obtain⟨y,m,rfl,rfl,i⟩:=xD T l.2.1
  exact⟨y,m,rfl,rfl,i,uJ A _ y zn l.1 m⟩
 rcases Q.1 with⟨rfl,_,Y,l,_,_⟩|⟨rfl,_,_,l,w1,w2⟩|⟨rfl,_,_,l,w1,_⟩|⟨hcode,_,_,l,_,_⟩|⟨rfl,_,_,l,_⟩
 ·obtain⟨y,m,rfl,rfl,i,k⟩:=val l
  rcases Y with rfl|⟨Z,i2,_⟩
  ·rw[RepL]at E
   subst E
   have e:Tp.oneS c a.length 1 nm [] [y] d f=cX c a.length [y]++[Tp.setI c nm false]:=by simp[Tp.oneS,Tp.cX_nil]
   rw[e]at b ⊢
   exact stmt5_1 p (set5_plain h A s N O r k i (by simp at b;omega))
  ·obtain⟨z,zb,rfl,rfl,U⟩:=xD E i2
   have e:Tp.oneS c a.length 1 nm [z] [y] d f=(cX c a.length [z]++cX c (a.length+(cX c a.length [z]).length) [y])++[Tp.setI c nm true]:=by simp[Tp.oneS]
   rw[e]at b ⊢
   exact stmt5_1 p (set5_at h A s N O (uJ A _ z zn Z zb) U r k i (by simp at b;omega))
 ·obtain⟨y,m,rfl,rfl,i,k⟩:=val l
  by_cases I:f=[]
  ·subst I
   have e:Tp.oneS c a.length 2 nm n [y] d []=Tp.ifI a.length (cX c a.length [y]) (cS c (a.length+(cX c a.length [y]).length+1) d) [] true:=by simp[Tp.oneS,Tp.cS_nil]
   rw[e]at b ⊢
   obtain⟨ea,ec,rfl⟩:=B.shape
   exact stmt5_2 p (branch5_no h s r k i G (H w1) F C P (by unfold Tp.ifI at b;simp at b;omega))
  ·have W:f.isEmpty=false:=by simpa using I
   have e:Tp.oneS c a.length 2 nm n [y] d f=Tp.ifI a.length (cX c a.length [y]) (cS c (a.length+(cX c a.length [y]).length+1) d) (cS c (a.length+(cX c a.length [y]).length+(cS c (a.length+(cX c a.length [y]).length+1) d).length+2) f) false:=by simp[Tp.oneS,W]
   rw[e]at b ⊢
   obtain⟨ea,ec,rfl⟩:=B.shape
   exact stmt5_2 p (uV h s r k i G (H w1) F C P (V w2) R B (List.length_pos_iff.2 I) rfl rfl (by unfold Tp.ifI at b;simp at b;omega))
 ·obtain⟨y,m,rfl,rfl,i,k⟩:=val l
  have e:Tp.oneS c a.length 3 nm n [y] d f=Tp.whileI a.length (cX c a.length [y]) (cS c (a.length+(cX c a.length [y]).length+1) d):=by simp[Tp.oneS]
  rw[e]at b ⊢
  exact stmt5_3 p (loop5_post h s r k i G (H w1) F C (by unfold Tp.whileI at b;simp at b;omega))
 ·obtain⟨y,m,rfl,rfl,i,k⟩:=val l
  rcases hcode with rfl|rfl
  ·have e:Tp.oneS c a.length 4 nm n [y] d f=cX c a.length [y]++[⟨15,0,0⟩]:=by simp[Tp.oneS]
   rw[e]at b ⊢
   exact stmt5_4 p (yU h s r k i (by simp at b;omega) 15)
  ·have e:Tp.oneS c a.length 5 nm n [y] d f=cX c a.length [y]++[⟨16,0,0⟩]:=by simp[Tp.oneS]
   rw[e]at b ⊢
   exact stmt5_5 p (yU h s r k i (by simp at b;omega) 16)
 ·obtain⟨y,m,rfl,rfl,i,k⟩:=val l
  have e:Tp.oneS c a.length 6 nm n [y] d f=cX c a.length [y]++[⟨2,0,0⟩]:=by simp[Tp.oneS]
  rw[e]at b ⊢
  exact stmt5_6 p (yU h s r k i (by simp at b;omega) 2)
theorem qj {w:World}{d ob:Nat}{D:Nat->Prop}{q:Oq}{c:Cn}{v:Value}{a:List In}(h:CS w d ob D q c v a){l:List S}{u:Option Addr}{L:Nat}(F:l.length<=9223372036854775807)
  (r:∀i (_:i<l.length),∃g,u=some ⟨g,0,none⟩/\g<w.heap.size/\∀W V,CS W d ob D q c V (a++cS c a.length (l.take i))->Cg ob v w V W->SC5 d ob D q c V g (i*7) W (a++cS c a.length (l.take (i+1)))) :
  Calls Tryz.prog 68 #[.pointer (some ⟨d,0,none⟩),.slice u l.length L] w (Laid5 w d ob D q c v (a++cS c a.length l)):=by
 have J:=zh h
 have K:=zh r
 clear h r
 obtain⟨b,n⟩:∃b,b=l.length:=⟨_,rfl⟩
 rw[<-n]at F ⊢
 have s:=zh n
 have M:(b:Int)<=9223372036854775807:=by omega
 clear n
 go_enter Tryz.func68,Tryz.ntmps68
 go_wp2_with fail
 go_loopg [7] b (fun k m wr=>∃i:Nat,i<=b/\k=b-i/\m=.int .i64 (i:Int)/\Hid (∃v',CS wr d ob D q c v' (a++cS c a.length (l.take i))/\Cg ob v w v' wr))
 case atStart=>exact⟨0,by omega,by omega,rfl,v,by rw[List.take_zero,Tp.cS_nil,List.append_nil];exact J.out,Cg.refl _ _ _⟩
 case round =>
  obtain⟨i,O,Q,rfl,o⟩:=hrel
  obtain⟨m,j,f⟩:=o.out
  by_cases P:i<b
  ·have B:(i:Int)<(b:Int):=by omega
   obtain⟨g,rfl,G,t⟩:=K.out i (by have:=s.out;omega)
   have N:g<wr.heap.size:=Nat.lt_of_lt_of_le G f.size
   have p:=t wr m j f
   unfold SC5 at p
   have C:=zh p
   have I:=zh f
   clear p j f t o
   go_wp2_with fail
   refine C.out.mono ?_
   rintro e A⟨rfl,v2,z,y⟩
   have E:Hid (∃v',CS A d ob D q c v' (a++cS c a.length (l.take (i+1)))/\Cg ob v w v' A):=⟨v2,z,I.out.trans y⟩
   clear z y
   go_wp2_with fail
   go_roundg (b-(i+1))
   case measure=>omega
   case rel=>exact⟨i+1,by omega,rfl,by go_num,E⟩
  ·have B:¬(i:Int)<(b:Int):=by omega
   have x:l.take i=l:=List.take_of_length_le (by have:=s.out;omega)
   rw[x]at j
   have H:Hid (Laid5 w d ob D q c v (a++cS c a.length l) (.returned (.tuple #[])) wr):=⟨rfl,m,j,f⟩
   clear j f x o
   go_wp2_with fail
   exact bodyPost_end (results_none rfl _ _ _) rfl H.out
theorem x8 {Y ob:Nat}{D:Nat->Prop}{q:Oq}{c:Cn}(Q:CnS c):∀(n:Nat) (l:List S),SizeOf.sizeOf l<=n->Tp.WS l->AskT5 Y ob D q c l:=by
 intro n
 induction n with
 |zero=>intro l y;cases l<;>simp at y<;>omega
 |succ n ih =>
  intro l y R W V e u L h H G hl
  have I:∃a k,u=.slice a l.length k/\l.length<=9223372036854775807/\∀i,i<l.length->∃g,a=some ⟨g,0,none⟩/\D g/\∀j,j<7->W.cell? ⟨g,i*7+j,none⟩=L[i*7+j]?:=by
   rcases G with⟨f,m⟩|⟨g,cap,cur,f,m,A,B,T,C,t⟩
   ·exact⟨none,0,by rw[m];exact f,by omega,fun i b=>by omega⟩
   ·refine⟨_,cap,f,?_,fun i b=>⟨g,rfl,m,fun j s=>?_⟩⟩
    ·have:maxLen=9223372036854775807:=rfl
     omega
    ·rw[za A,<-Array.getElem?_toList,<-t,List.getElem?_take_of_lt (by omega)]
  obtain⟨a,k,rfl,J,F⟩:=I
  refine qj h J fun i b=>?_
  obtain⟨g,N,r,O⟩:=F i b
  refine⟨g,N,(h.ok g r).2.2,fun W' V' P d=>?_⟩
  rw[cS_take b,<-List.append_assoc]
  rcases hx:l[i] with⟨code,pos,nm,z,E,v,p⟩
  have K:l[i]?=some ⟨code,pos,nm,z,E,v,p⟩:=by rw[List.getElem?_eq_getElem b,hx]
  obtain⟨tv,ev,ls,vs,a0,Z,f,m,A,B,T,C,t,U,X⟩:=RepS.get _ _ H i code pos nm z E v p K
  have w:SizeOf.sizeOf l[i]<SizeOf.sizeOf l:=List.sizeOf_lt_of_mem (List.getElem_mem b)
  rw[hx]at w
  simp at w
  have x:=WS_mem R (List.getElem_mem b)
  rw[hx]at x
  have o:=cS_take_le c e.length l (i+1)
  rw[cS_take b,hx,List.length_append]at o
  rw[Tp.cS_cons,Tp.cS_nil,List.append_nil]at o ⊢
  have M:(e++cS c e.length (l.take i)).length=e.length+(cS c e.length (l.take i)).length:=List.length_append
  rw[<-M]at o ⊢
  exact one5 Q P x (ih v (by omega)) (ih p (by omega)) r (fun j s=>(h.cell d r _).trans ((O j s).trans (f j s))) (h.rep d m) (h.rep d B) (h.reps d C) (h.owns d t) (h.reps d U) (h.owns d X) (by omega)
theorem grow5 (w:World)(k:Nat)(l:k<=1000000):Calls Tryz.prog 159 #[.slice none 0 0,.int .i64 (k:Int)] w fun e w'=>∃a c,e=.returned (.slice a 0 c)/\w'.ownsRow w.heap.size 9 1 (.slice a 0 c) 0 []/\Below w.heap.size w w':=by
 obtain⟨j,i,b,d,f⟩:=info_parts Tryz.infoString
 by_cases g:k=0
 ·subst g
  refine(Any8.slices_Grow_room Tryz.growS none 0 0 0 w (by omega) (by omega) (by omega) (by omega)).mono ?_
  rintro e w'⟨rfl,rfl⟩
  exact⟨none,0,rfl,World.ownsRow_nil _ _ _ _,Below.refl _ _⟩
 ·refine(Any8.slices_Grow_grow Tryz.growS j (.string ⟨#[]⟩) i b (by rw[d];decide) none 0 0 k [] w (by omega) (by omega) (by rw[f];omega) (by omega) (by simp) (fun _=>rfl) (fun a h=>by cases h)).mono ?_
  rintro e w'⟨rfl,rfl⟩
  refine⟨_,_,rfl,World.ownsRow_made w.drew _ _ zn (grownCap_le_maxLen _ _ _ _ (by unfold maxLen;omega)) ?_,(Below.refl _ _).drew.alloc zn _⟩
  have:=grownCap_ge w (0+k) 0 (Tryz.growS_ren.t 25)
  simp[Builtin.zeroCells,Value.cells]at this ⊢
  omega
theorem xk {P:Program}(w:World){p:Array Oper}{rest:List Oper}{o:Oper}{a:Act}{Q:Exit->Act->World->Prop}(l:o.guard=none)(s x:Operand)(t:TypeId)
  (A:o.op=.call { callee:=.builtin .append,args:=#[s,x],argTypes:=#[t,t] })
  (b:Nat)(e:TypeId)(i:TypeInfo)(z:Value)(size f:Nat)(C:P.underlying t=some (.slice e))(q:P.info? e=some i)(T:i.zero=some z)
  (I:i.size=size)(L:i.bytes=f)(O:z.cells.size=size)(N:0<size)
  (v:Value)(n:Nat)(d:List Value)(B:a.eval s=v)(k:w.ownsRow b e size v n d)
  (D:Nat->Prop)(F:Value)(m:Nat)(c:List Value)(E:a.eval x=F)(J:Row w D e size F m c)(y:c.length=m*size)(R:∀u∈c,u.oneCell'=true)
  (K:n+m<=maxLen)(G:(n+m)*f<=140737488355328)(H:b<=w.heap.size)
  (h:∀v' w',w'.ownsRow b e size v' (n+m) (d++c)->w.grownBy w' v.ownBlock->(∀g,v'.ownBlock=some g->v.ownBlock=some g\/w.heap.size<=g)->wpList P p Q rest (a.put o.dst v') w'):wpList P p Q (o :: rest) a w:=by
 rcases J with⟨rfl,rfl,rfl⟩|⟨g,cap,cur,rfl,hD,hb,hcap,hmx,hsz',htk⟩
 ·refine wpList_append_own_none l s x t A b e i size C q v n d B k E (h v w (by simpa using k) ⟨rfl,rfl,rfl,Nat.le_refl _,fun _ _ _=>rfl⟩ (fun g S=>Or.inl S))
 ·refine zC w l s x t A b e i z size f C q T I L O N v n d B k ⟨g,0,none⟩ m cap c E y (fun j u r=>?_) R K G H h
  have M:j<m*size:=by rw[<-y];exact(List.getElem?_eq_some_iff.1 r).1
  rw[Addr.add_lit,za hb,Nat.zero_add,<-Array.getElem?_toList,<-r,<-htk,List.getElem?_take_of_lt M]
theorem vT (l:List Bs):∀u∈strs l,u.oneCell'=true:=by
 intro u a
 obtain⟨x,_,rfl⟩:=List.mem_map.1 a
 rfl
theorem strs_len (l:List Bs):(strs l).length=l.length*1:=by simp[strs]
theorem uQ {w:World}{D:Nat->Prop}(Z:∀b,D b->b<w.heap.size){b:Nat}{t x:Option Addr}{u y:Nat}{ps vs:List Bs}(K:w.cell? ⟨b,0,none⟩=some (.slice t ps.length u))(X:w.cell? ⟨b,1,none⟩=some (.slice x vs.length y))(hp:Row w D 9 1 (.slice t ps.length u) ps.length (strs ps))(hv:Row w D 9 1 (.slice x vs.length y) vs.length (strs vs))(hn:ps.length+vs.length<=1000) :
  Calls Tryz.prog 102 #[.slice (some ⟨b,0,none⟩) 2 2] w fun e w'=>∃a c,e=.returned (.slice a (ps++vs).length c)/\Row w' (fun g=>w.heap.size<=g) 9 1 (.slice a (ps++vs).length c) (ps++vs).length (strs (ps++vs))/\Below w.heap.size w w':=by
 obtain⟨i1,hi,U,V,W⟩:=info_parts Tryz.infoString
 have F:=zc K
 obtain⟨p,H⟩:∃p,p=ps.length:=⟨_,rfl⟩
 obtain⟨n,G⟩:∃n,n=vs.length:=⟨_,rfl⟩
 have HP:=zh hp
 have HV:=zh hv
 have E:=zh H
 have B:=zh G
 rw[<-H]at K
 rw[<-G]at X
 have a9:(p:Int)+(n:Int)<=1000:=by omega
 have a2:=zh Z
 clear hp hv hn Z H G
 go_enter Tryz.func102,Tryz.ntmps102
 go_wp2_with fail
 go_loopg [3,11] 2 (fun k N m wr=>(k=2/\m=.int .i64 0/\N=.int .i64 0\/k=1/\m=.int .i64 1/\N=.int .i64 (p:Int)\/k=0/\m=.int .i64 2/\N=.int .i64 ((p:Int)+(n:Int)))/\wr=w)
 case atStart=>exact⟨Or.inl ⟨rfl,rfl,rfl⟩,rfl⟩
 case round =>
  obtain⟨hrel,b1⟩:=hrel
  subst wr
  rcases hrel with⟨rfl,rfl,rfl⟩|⟨rfl,rfl,rfl⟩|⟨rfl,rfl,rfl⟩
  ·go_wp2_with fail
   go_roundg 1
   case measure=>omega
   case rel=>exact⟨Or.inr (Or.inl ⟨rfl,by go_num,by go_num⟩),rfl⟩
  ·have b0:(0:Int)<=(p:Int)+(n:Int):=by omega
   go_wp2_with fail
   go_roundg 0
   case measure=>omega
   case rel=>exact⟨Or.inr (Or.inr ⟨rfl,by go_num,by go_num⟩),rfl⟩
  ·obtain⟨T,hT⟩:∃T:Nat,T=p+n:=⟨_,rfl⟩
   have P:(p:Int)+(n:Int)=(T:Int):=by omega
   rw[P]
   have a3:=zh (grow5 w T (by omega))
   have a5:=zh hT
   clear hT P
   go_wp2_with fail
   refine a3.out.mono ?_
   rintro e w2⟨a0,k0,rfl,S,Q⟩
   have a4:=zh S
   have a1:=zh Q
   clear S Q
   go_wp2_with fail
   go_loopg [6,27] 2 (fun k o m z=>(k=2/\m=.int .i64 0/\(∃a c,o=.slice a 0 c)/\Hid (z.ownsRow w.heap.size 9 1 o 0 [])\/k=1/\m=.int .i64 1/\(∃a c,o=.slice a p c)/\Hid (z.ownsRow w.heap.size 9 1 o p (strs ps))\/k=0/\m=.int .i64 2/\(∃a c,o=.slice a (p+n) c)/\Hid (z.ownsRow w.heap.size 9 1 o (p+n) (strs ps++strs vs)))/\Hid (Below w.heap.size w z))
   case atStart=>exact⟨Or.inl ⟨rfl,rfl,⟨_,_,rfl⟩,a4⟩,a1⟩
   case round =>
    obtain⟨hrel,f⟩:=hrel
    have q:∀(l:List Bs) (k:Nat) (a:Option Addr) (c:Nat),k=l.length->Row w D 9 1 (.slice a l.length c) l.length (strs l)->Row wr D 9 1 (.slice a k c) k (strs l):=fun l k a c e h=>by
     subst e
     exact h.mono fun g d _=>⟨f.out.block g (a2.out g d),d⟩
    have O:Hid (∀(v:Value) (n:Nat) (xs:List Value) (w':World),wr.ownsRow w.heap.size 9 1 v n xs->wr.grownBy w' v.ownBlock->Below w.heap.size w w'):=fun v n xs w' s d=>by
     refine f.out.trans ⟨d.os,d.tape,d.output,d.size,fun g a8=>d.block g (by have:=f.out.size;omega) (fun e=>?_)⟩
     have:=s.lt g e.symm
     omega
    have a7:b<wr.heap.size:=Nat.lt_of_lt_of_le F f.out.size
    have d0:wr.cell? ⟨b,0,none⟩=some (.slice t p u):=(f.out.cell (p:=⟨b,0,none⟩) F).trans K
    have d1:wr.cell? ⟨b,1,none⟩=some (.slice x n y):=(f.out.cell (p:=⟨b,1,none⟩) F).trans X
    have R:w.heap.size<=wr.heap.size:=f.out.size
    rcases hrel with⟨rfl,rfl,⟨J,L,rfl⟩,i⟩|⟨rfl,rfl,⟨J,L,rfl⟩,i⟩|⟨rfl,rfl,⟨J,L,rfl⟩,i⟩
    ·have I:=zh (q ps p _ _ E.out HP.out)
     clear q
     go_wp2_with (at_builtin;refine xk _ rfl _ _ 22 rfl w.heap.size 9 i1 (.string ⟨#[]⟩) 1 16 Tryz.underlying22 hi U V W rfl (by decide) _ 0 [] rfl i.out D (.slice t p u) p (strs ps) rfl I.out ?len (vT ps) ?c3 ?c4 R ?_)
     case len=>rw[strs_len,E.out]
     case c3=>unfold maxLen;omega
     case c4=>omega
     intro v' w' j r M
     have A:=zh (O.out _ _ _ _ i.out r)
     obtain⟨a',c',rfl⟩:=zl j
     have C:=zh j
     clear j r M
     go_wp2_with fail
     go_roundg 1
     case measure=>omega
     case rel=>exact⟨Or.inr (Or.inl ⟨rfl,by go_num,⟨_,_,rfl⟩,C⟩),A⟩
    ·have I:=zh (q vs n _ _ B.out HV.out)
     clear q
     go_wp2_with (at_builtin;refine xk _ rfl _ _ 22 rfl w.heap.size 9 i1 (.string ⟨#[]⟩) 1 16 Tryz.underlying22 hi U V W rfl (by decide) _ p (strs ps) rfl i.out D (.slice x n y) n (strs vs) rfl I.out ?len (vT vs) ?c3 ?c4 R ?_)
     case len=>rw[strs_len,B.out]
     case c3=>unfold maxLen;omega
     case c4=>omega
     intro v' w' j r M
     have A:=zh (O.out _ _ _ _ i.out r)
     obtain⟨a',c',rfl⟩:=zl j
     have C:=zh j
     clear j r M
     go_wp2_with fail
     go_roundg 0
     case measure=>omega
     case rel=>exact⟨Or.inr (Or.inr ⟨rfl,by go_num,⟨_,_,rfl⟩,C⟩),A⟩
    ·clear q
     go_wp2_with fail
     go_ret
     have Y:p+n=(ps++vs).length:=by rw[E.out,B.out,List.length_append]
     have es:strs ps++strs vs=strs (ps++vs):=by simp[strs]
     have s:=i.out
     rw[es,Y]at s
     refine⟨J,L,?_,(Row.of_owns s).mono (fun g d _=>⟨rfl,d.1⟩),f.out⟩
     rw[<-Y]
     rfl
end Go.Proofs.YtmocelfkmdpogaaGreatDoor
namespace Go.Proofs.YtmocelfkmdpogaaGreatDoor
open Go.RowKit
open Tp (Bs X S G Pr Cn cX cS)
open Ob (In En)
theorem Row.other {w:World}{D D':Nat->Prop}(r:∀b,D b->D' b){e t size n j b:Nat}{v u:Value}{c:List Value}{k:Array Value}{f:Nat×Nat}(h:Row w D e size v n c)(a:w.heap[b]?=some (.cells k t f))(s:e≠t):Row (w.setCell ⟨b,j,none⟩ u) D' e size v n c:=by
 rcases h with h|⟨g,cap,i,m,o,d,p⟩
 ·exact Or.inl h
 ·refine Or.inr ⟨g,cap,i,m,r g o,?_,p⟩
  have l:g≠b:=fun q=>by
   subst q
   rw[d]at a
   injection a with a
   injection a with _ a
   exact s a
  exact(Below.heap_setCell _ _ _ _ (by simpa using l)).trans d
theorem UsR.other {w:World}{D D':Nat->Prop}(n:∀b,D b->D' b){us:List (Bs×List Bs)}{d:List Value}{j b t:Nat}{u:Value}{e:Array Value}{f:Nat×Nat}(h:UsR w D us d)(o:w.heap[b]?=some (.cells e t f))(q:9≠t):UsR (w.setCell ⟨b,j,none⟩ u) D' us d:=fun i p=>by
 obtain⟨nd,a,c,g,k,l,m⟩:=h i p
 exact⟨nd,a,c,g,k,l,m.other n o q⟩
def reQ (q:Oq) (oa:Option Addr) (oc:Nat):Oq:={ q with oa:=oa,oc:=oc }
theorem CS.reown {w:World}{a ob:Nat}{D:Nat->Prop}{q:Oq}{c:Cn}{v:Value}{j:List In}(h:CS w a ob D q c v j)(l:a≠3){E:Nat->Prop}(o:∀b,E b->b≠a/\b≠ob/\v.ownBlock≠some b/\b<w.heap.size){oa:Option Addr}{oc:Nat}{own:List Bs}(p:Row w E 9 1 (.slice oa own.length oc) own.length (strs own)) :
  CS (w.setCell ⟨a,1,none⟩ (.slice oa own.length oc)) a ob (fun b=>D b\/E b) (reQ q oa oc) { c with own:=own } v j:=by
 have g:=(h.ok a h.dw)
 obtain⟨m,u1,u2⟩:=h.us
 obtain⟨n,v1,v2⟩:=h.vr
 have f:∀b,D b->D b\/E b:=fun _=>Or.inl
 refine⟨?_,?_,p.other (fun _=>Or.inr) h.wbk (by decide),⟨m,u1.other f h.wbk (by decide),u2.other f h.wbk (by decide)⟩,⟨n,v1.other f h.wbk (by decide),v2⟩,h.nm.other f h.wbk (by decide),?_,fun i r=>?_,Or.inl h.dm,Or.inl h.dw,fun b d=>?_,h.nb⟩
 ·exact zw 1 _ h.wbk
 ·exact(Below.heap_setCell _ _ _ _ (by simpa using fun e:ob=a=>g.1 e.symm)).trans h.obk
 ·exact zF h.cd fun b _ _ k=>Below.heap_setCell _ _ _ _ (by simpa using fun e:b=a=>g.2.1 (e ▸ k))
 ·exact(World.cell?_of_block (w:=w) (Below.heap_setCell _ _ _ _ (by simpa using fun e:3=a=>l e.symm))).trans (h.mkc i r)
 ·rcases d with d|d
  ·have:=h.ok b d
   exact⟨this.1,this.2.1,by simpa using this.2.2⟩
  ·have:=o b d
   exact⟨this.2.1,this.2.2.1,by simpa using this.2.2.2⟩
end Go.Proofs.YtmocelfkmdpogaaGreatDoor
