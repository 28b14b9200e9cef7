import Derived.Test.YtbkndnmglhghlaaGreatDoorKOb
import Derived.Test.YtbkndnmglhghlaaGreatDoorKShb
import Derived.Laws.AppendOwnNone
set_option maxRecDepth 100000
set_option maxHeartbeats 4000000

namespace Go.Proofs.YtbkndnmglhghlaaGreatDoor
open Go.RowKit
open Tp (Bs X S G Pr Cn cX cS)
open Ob (In)
variable {c:Cn}{a cs':List In}{b f g o:Nat}{D:Nat->Prop}{q:Oq}{v:Value}{w:World}
def SC5 (wb ob:Nat) (D:Nat->Prop) (q:Oq) (c:Cn) (v:Value) (g o:Nat) (w:World) (cs':List In):Prop:=Calls Tryz.prog 147 #[.pointer (some ⟨wb,0,none⟩),.pointer (some ⟨g,o,none⟩)] w (Laid5 w wb ob D q c v cs')
theorem stmt5_1 (j:w.cell? ⟨g,o,none⟩=some (.int .i64 1))(d:Calls Tryz.prog 171 #[.pointer (some ⟨b,0,none⟩),.pointer (some ⟨g,o,none⟩)] w (Laid5 w b f D q c v cs')):SC5 b f D q c v g o w cs':=by
 unfold SC5
 have h:=zh d
 have l:=zg j
 clear d
 go_enter Tryz.func147,Tryz.ntmps147
 go_wp2_with fail
 refine h.out.mono ?_
 rintro e m a
 have k:=a.1
 subst k
 have i:=zh a
 clear a
 go_wp2_with fail
 exact ze rfl rfl i.out
theorem stmt5_2 (j:w.cell? ⟨g,o,none⟩=some (.int .i64 2))(d:Calls Tryz.prog 172 #[.pointer (some ⟨b,0,none⟩),.pointer (some ⟨g,o,none⟩)] w (Laid5 w b f D q c v cs')):SC5 b f D q c v g o w cs':=by
 unfold SC5
 have h:=zh d
 have l:=zg j
 clear d
 go_enter Tryz.func147,Tryz.ntmps147
 go_wp2_with fail
 refine h.out.mono ?_
 rintro e m a
 have k:=a.1
 subst k
 have i:=zh a
 clear a
 go_wp2_with fail
 exact ze rfl rfl i.out
theorem stmt5_3 (j:w.cell? ⟨g,o,none⟩=some (.int .i64 3))(d:Calls Tryz.prog 173 #[.pointer (some ⟨b,0,none⟩),.pointer (some ⟨g,o,none⟩)] w (Laid5 w b f D q c v cs')):SC5 b f D q c v g o w cs':=by
 unfold SC5
 have h:=zh d
 have l:=zg j
 clear d
 go_enter Tryz.func147,Tryz.ntmps147
 go_wp2_with fail
 refine h.out.mono ?_
 rintro e m a
 have k:=a.1
 subst k
 have i:=zh a
 clear a
 go_wp2_with fail
 exact ze rfl rfl i.out
theorem stmt5_4 (j:w.cell? ⟨g,o,none⟩=some (.int .i64 4))(d:Calls Tryz.prog 174 #[.pointer (some ⟨b,0,none⟩),.pointer (some ⟨g,o,none⟩),.int .i64 15] w (Laid5 w b f D q c v cs')):SC5 b f D q c v g o w cs':=by
 unfold SC5
 have h:=zh d
 have l:=zg j
 clear d
 go_enter Tryz.func147,Tryz.ntmps147
 go_wp2_with fail
 refine h.out.mono ?_
 rintro e m a
 have k:=a.1
 subst k
 have i:=zh a
 clear a
 go_wp2_with fail
 exact ze rfl rfl i.out
theorem stmt5_5 (j:w.cell? ⟨g,o,none⟩=some (.int .i64 5))(d:Calls Tryz.prog 174 #[.pointer (some ⟨b,0,none⟩),.pointer (some ⟨g,o,none⟩),.int .i64 16] w (Laid5 w b f D q c v cs')):SC5 b f D q c v g o w cs':=by
 unfold SC5
 have h:=zh d
 have l:=zg j
 clear d
 go_enter Tryz.func147,Tryz.ntmps147
 go_wp2_with fail
 refine h.out.mono ?_
 rintro e m a
 have k:=a.1
 subst k
 have i:=zh a
 clear a
 go_wp2_with fail
 exact ze rfl rfl i.out
theorem stmt5_6 (j:w.cell? ⟨g,o,none⟩=some (.int .i64 6))(d:Calls Tryz.prog 174 #[.pointer (some ⟨b,0,none⟩),.pointer (some ⟨g,o,none⟩),.int .i64 2] w (Laid5 w b f D q c v cs')):SC5 b f D q c v g o w cs':=by
 unfold SC5
 have h:=zh d
 have l:=zg j
 clear d
 go_enter Tryz.func147,Tryz.ntmps147
 go_wp2_with fail
 refine h.out.mono ?_
 rintro e m a
 have k:=a.1
 subst k
 have i:=zh a
 clear a
 go_wp2_with fail
 exact ze rfl rfl i.out
theorem cS_app (c:Cn):∀(l m:List S) (k:Nat),cS c k (l++m)=cS c k l++cS c (k+(cS c k l).length) m:=by
 intro l
 induction l with
 |nil=>intro m k;simp[Tp.cS_nil]
 |cons x l ih =>
  intro m k
  obtain⟨code,pos,nm,b,e,d,a⟩:=x
  rw[List.cons_append,Tp.cS_cons,Tp.cS_cons,ih,List.append_assoc,List.length_append,Nat.add_assoc]
theorem cS_take {k:Nat}{a:List S}{i:Nat}(b:i<a.length):cS c k (a.take (i+1))=cS c k (a.take i)++cS c (k+(cS c k (a.take i)).length) [a[i]]:=by
 rw[<-cS_app,List.take_add_one,List.getElem?_eq_getElem b]
 rfl
theorem cS_take_le (c:Cn)(k:Nat)(a:List S)(i:Nat):(cS c k (a.take i)).length<=(cS c k a).length:=by
 have:=cS_app c (a.take i) (a.drop i) k
 rw[List.take_append_drop]at this
 rw[this,List.length_append]
 omega
theorem WS_mem:∀{l:List S}{x:S},Tp.WS l->x∈l->Tp.WS [x]:=by
 intro l
 induction l with
 |nil=>intro x _ h;cases h
 |cons y l ih =>
  intro x h a
  obtain⟨code,pos,nm,c,f,d,b⟩:=y
  rw[Tp.WS]at h
  rcases List.mem_cons.1 a with e|a
  ·subst e
   rw[Tp.WS]
   exact⟨h.1,by rw[Tp.WS];trivial⟩
  ·exact ih h.2 a
theorem one5 {A x:Nat}(B:CnS c)(h:CS w A x D q c v a){code pos:Nat}{nm:Bs}{n u:List X}{d f:List S}(Q:Tp.WS [(⟨code,pos,nm,n,u,d,f⟩:S)])(I:Tp.WS d->AskT5 A x D q c d)(V:Tp.WS f->AskT5 A x D q c f){g o:Nat}(s:D g){L ev:Value}{K vs N M:List Value}
  (t:∀j,j<7->w.cell? ⟨g,o+j,none⟩=[Value.int .i64 (code:Int),.int .i64 (pos:Int),.string (bs nm),K.headD (.pointer none),vs.headD (.pointer none),L,ev][j]?)(F:RepL w D n K)(T:RepL w D u vs)(G:RepS w D d N)(E:OwnS w D L d.length N)(R:RepS w D f M)(C:OwnS w D ev f.length M)(b:a.length+(Tp.oneS c a.length code nm n u d f).length<=4000):SC5 A x D q c v g o w (a++Tp.oneS c a.length code nm n u d f):=by
 have p:w.cell? ⟨g,o,none⟩=some (.int .i64 (code:Int)):=t 0 (by omega)
 have c2:w.cell? ⟨g,o+2,none⟩=some (.string (bs nm)):=t 2 (by omega)
 have O:w.cell? ⟨g,o+3,none⟩=some (K.headD (.pointer none)):=t 3 (by omega)
 have r:w.cell? ⟨g,o+4,none⟩=some (vs.headD (.pointer none)):=t 4 (by omega)
 have H:w.cell? ⟨g,o+5,none⟩=some L:=t 5 (by omega)
 have P:w.cell? ⟨g,o+6,none⟩=some ev:=t 6 (by omega)
 rw[Tp.WS]at Q
 have val:Tp.ev u->∃y m,u=[y]/\vs=[.pointer (some ⟨m,0,none⟩)]/\RepL w D [y] [.pointer (some ⟨m,0,none⟩)]/\AskC A x D q c y m:=fun l=>by
  obtain⟨y,m,rfl,rfl,i⟩:=jX T l.2.1
  exact⟨y,m,rfl,rfl,i,vH B _ y zn l.1 m⟩
 rcases Q.1 with⟨rfl,_,Y,l,_,_⟩|⟨rfl,_,_,l,w1,w2⟩|⟨rfl,_,_,l,w1,_⟩|⟨hcode,_,_,l,_,_⟩|⟨rfl,_,_,l,_⟩
 ·obtain⟨y,m,rfl,rfl,i,k⟩:=val l
  rcases Y with rfl|⟨Z,i2,_⟩
  ·rw[RepL]at F
   subst F
   have e:Tp.oneS c a.length 1 nm [] [y] d f=cX c a.length [y]++[Tp.setI c nm false]:=by simp[Tp.oneS,Tp.cX_nil]
   rw[e]at b ⊢
   exact stmt5_1 p (set5_plain h B s c2 O r k i (by simp at b;omega))
  ·obtain⟨z,zb,rfl,rfl,U⟩:=jX F i2
   have e:Tp.oneS c a.length 1 nm [z] [y] d f=(cX c a.length [z]++cX c (a.length+(cX c a.length [z]).length) [y])++[Tp.setI c nm true]:=by simp[Tp.oneS]
   rw[e]at b ⊢
   exact stmt5_1 p (set5_at h B s c2 O (vH B _ z zn Z zb) U r k i (by simp at b;omega))
 ·obtain⟨y,m,rfl,rfl,i,k⟩:=val l
  by_cases J:f=[]
  ·subst J
   have e:Tp.oneS c a.length 2 nm n [y] d []=Tp.ifI a.length (cX c a.length [y]) (cS c (a.length+(cX c a.length [y]).length+1) d) [] true:=by simp[Tp.oneS,Tp.cS_nil]
   rw[e]at b ⊢
   obtain⟨ea,ec,rfl⟩:=C.shape
   exact stmt5_2 p (branch5_no h s r k i H (I w1) G E P (by unfold Tp.ifI at b;simp at b;omega))
  ·have W:f.isEmpty=false:=by simpa using J
   have e:Tp.oneS c a.length 2 nm n [y] d f=Tp.ifI a.length (cX c a.length [y]) (cS c (a.length+(cX c a.length [y]).length+1) d) (cS c (a.length+(cX c a.length [y]).length+(cS c (a.length+(cX c a.length [y]).length+1) d).length+2) f) false:=by simp[Tp.oneS,W]
   rw[e]at b ⊢
   obtain⟨ea,ec,rfl⟩:=C.shape
   exact stmt5_2 p (vP h s r k i H (I w1) G E P (V w2) R C (List.length_pos_iff.2 J) rfl rfl (by unfold Tp.ifI at b;simp at b;omega))
 ·obtain⟨y,m,rfl,rfl,i,k⟩:=val l
  have e:Tp.oneS c a.length 3 nm n [y] d f=Tp.whileI a.length (cX c a.length [y]) (cS c (a.length+(cX c a.length [y]).length+1) d):=by simp[Tp.oneS]
  rw[e]at b ⊢
  exact stmt5_3 p (loop5_post h s r k i H (I w1) G E (by unfold Tp.whileI at b;simp at b;omega))
 ·obtain⟨y,m,rfl,rfl,i,k⟩:=val l
  rcases hcode with rfl|rfl
  ·have e:Tp.oneS c a.length 4 nm n [y] d f=cX c a.length [y]++[⟨15,0,0⟩]:=by simp[Tp.oneS]
   rw[e]at b ⊢
   exact stmt5_4 p (yV h s r k i (by simp at b;omega) 15)
  ·have e:Tp.oneS c a.length 5 nm n [y] d f=cX c a.length [y]++[⟨16,0,0⟩]:=by simp[Tp.oneS]
   rw[e]at b ⊢
   exact stmt5_5 p (yV h s r k i (by simp at b;omega) 16)
 ·obtain⟨y,m,rfl,rfl,i,k⟩:=val l
  have e:Tp.oneS c a.length 6 nm n [y] d f=cX c a.length [y]++[⟨2,0,0⟩]:=by simp[Tp.oneS]
  rw[e]at b ⊢
  exact stmt5_6 p (yV h s r k i (by simp at b;omega) 2)
theorem vX {d:Nat}(h:CS w f d D q c v a){l:List S}{x:Option Addr}{M:Nat}(G:l.length<=9223372036854775807)
  (s:∀i (_:i<l.length),∃g,x=some ⟨g,0,none⟩/\g<w.heap.size/\∀W V,CS W f d D q c V (a++cS c a.length (l.take i))->Cg d v w V W->SC5 f d D q c V g (i*7) W (a++cS c a.length (l.take (i+1)))) :
  Calls Tryz.prog 94 #[.pointer (some ⟨f,0,none⟩),.slice x l.length M] w (Laid5 w f d D q c v (a++cS c a.length l)):=by
 have K:=zh h
 have L:=zh s
 clear h s
 obtain⟨b,o⟩:∃b,b=l.length:=⟨_,rfl⟩
 rw[<-o]at G ⊢
 have t:=zh o
 have O:(b:Int)<=9223372036854775807:=by omega
 clear o
 go_enter Tryz.func94,Tryz.ntmps94
 go_wp2_with fail
 go_loopg [7] b (fun k n wr=>∃i:Nat,i<=b/\k=b-i/\n=.int .i64 (i:Int)/\Hid (∃v',CS wr f d D q c v' (a++cS c a.length (l.take i))/\Cg d v w v' wr))
 case atStart=>exact⟨0,by omega,by omega,rfl,v,by rw[List.take_zero,Tp.cS_nil,List.append_nil];exact K.out,Cg.refl _ _ _⟩
 case round =>
  obtain⟨i,Q,T,rfl,p⟩:=hrel
  obtain⟨n,m,j⟩:=p.out
  by_cases R:i<b
  ·have C:(i:Int)<(b:Int):=by omega
   obtain⟨g,rfl,H,u⟩:=L.out i (by have:=t.out;omega)
   have P:g<wr.heap.size:=Nat.lt_of_lt_of_le H j.size
   have r:=u wr n m j
   unfold SC5 at r
   have E:=zh r
   have J:=zh j
   clear r m j u p
   go_wp2_with fail
   refine E.out.mono ?_
   rintro e B⟨rfl,N,A,z⟩
   have F:Hid (∃v',CS B f d D q c v' (a++cS c a.length (l.take (i+1)))/\Cg d v w v' B):=⟨N,A,J.out.trans z⟩
   clear A z
   go_wp2_with fail
   go_roundg (b-(i+1))
   case measure=>omega
   case rel=>exact⟨i+1,by omega,rfl,by go_num,F⟩
  ·have C:¬(i:Int)<(b:Int):=by omega
   have y:l.take i=l:=List.take_of_length_le (by have:=t.out;omega)
   rw[y]at m
   have I:Hid (Laid5 w f d D q c v (a++cS c a.length l) (.returned (.tuple #[])) wr):=⟨rfl,n,m,j⟩
   clear m j y p
   go_wp2_with fail
   exact ze rfl rfl I.out
theorem jR {Z T:Nat}(Q:CnS c):∀(n:Nat) (l:List S),SizeOf.sizeOf l<=n->Tp.WS l->AskT5 Z T D q c l:=by
 intro n
 induction n with
 |zero=>intro l y;cases l<;>simp at y<;>omega
 |succ n ih =>
  intro l y R W V e u L h H G hl
  have I:∃a k,u=.slice a l.length k/\l.length<=9223372036854775807/\∀i,i<l.length->∃g,a=some ⟨g,0,none⟩/\D g/\∀j,j<7->W.cell? ⟨g,i*7+j,none⟩=L[i*7+j]?:=by
   rcases G with⟨f,m⟩|⟨g,cap,cur,f,m,A,B,U,C,t⟩
   ·exact⟨none,0,by rw[m];exact f,by omega,fun i b=>by omega⟩
   ·refine⟨_,cap,f,?_,fun i b=>⟨g,rfl,m,fun j s=>?_⟩⟩
    ·have:maxLen=9223372036854775807:=rfl
     omega
    ·rw[za A,<-Array.getElem?_toList,<-t,List.getElem?_take_of_lt (by omega)]
  obtain⟨a,k,rfl,J,F⟩:=I
  refine vX h J fun i b=>?_
  obtain⟨g,N,r,O⟩:=F i b
  refine⟨g,N,(h.ok g r).2.2,fun W' V' P d=>?_⟩
  rw[cS_take b,<-List.append_assoc]
  rcases hx:l[i] with⟨code,pos,nm,z,E,v,p⟩
  have K:l[i]?=some ⟨code,pos,nm,z,E,v,p⟩:=by rw[List.getElem?_eq_getElem b,hx]
  obtain⟨tv,ev,ls,vs,a1,a0,f,m,A,B,U,C,t,X,Y⟩:=RepS.get _ _ H i code pos nm z E v p K
  have w:SizeOf.sizeOf l[i]<SizeOf.sizeOf l:=List.sizeOf_lt_of_mem (List.getElem_mem b)
  rw[hx]at w
  simp at w
  have x:=WS_mem R (List.getElem_mem b)
  rw[hx]at x
  have o:=cS_take_le c e.length l (i+1)
  rw[cS_take b,hx,List.length_append]at o
  rw[Tp.cS_cons,Tp.cS_nil,List.append_nil]at o ⊢
  have M:(e++cS c e.length (l.take i)).length=e.length+(cS c e.length (l.take i)).length:=List.length_append
  rw[<-M]at o ⊢
  exact one5 Q P x (ih v (by omega)) (ih p (by omega)) r (fun j s=>(h.cell d r _).trans ((O j s).trans (f j s))) (h.rep d m) (h.rep d B) (h.reps d C) (h.owns d t) (h.reps d X) (h.owns d Y) (by omega)
theorem grow5 (w:World)(k:Nat)(l:k<=1000000):Calls Tryz.prog 175 #[.slice none 0 0,.int .i64 (k:Int)] w fun e w'=>∃a c,e=.returned (.slice a 0 c)/\w'.ownsRow w.heap.size 9 1 (.slice a 0 c) 0 []/\Below w.heap.size w w':=by
 obtain⟨j,i,b,d,f⟩:=info_parts Tryz.infoString
 by_cases g:k=0
 ·subst g
  refine(Any8.slices_Grow_room Tryz.growS none 0 0 0 w (by omega) (by omega) (by omega) (by omega)).mono ?_
  rintro e w'⟨rfl,rfl⟩
  exact⟨none,0,rfl,World.ownsRow_nil _ _ _ _,Below.refl _ _⟩
 ·refine(Any8.slices_Grow_grow Tryz.growS j (.string ⟨#[]⟩) i b (by rw[d];decide) none 0 0 k [] w (by omega) (by omega) (by rw[f];omega) (by omega) (by simp) (fun _=>rfl) (fun a h=>by cases h)).mono ?_
  rintro e w'⟨rfl,rfl⟩
  refine⟨_,_,rfl,World.ownsRow_made w.drew _ _ zn (grownCap_le_maxLen _ _ _ _ (by unfold maxLen;omega)) ?_,(Below.refl _ _).drew.alloc zn _⟩
  have:=grownCap_ge w (0+k) 0 (Tryz.growS_ren.t 25)
  simp[Builtin.zeroCells,Value.cells]at this ⊢
  omega
theorem jJ {P:Program}(w:World){l:Array Oper}{rest:List Oper}{o:Oper}{a:Act}{Q:Exit->Act->World->Prop}(k:o.guard=none)(s x:Operand)(t:TypeId)
  (y:o.op=.call { callee:=.builtin .append,args:=#[s,x],argTypes:=#[t,t] })
  (b:Nat)(e:TypeId)(i:TypeInfo)(z:Value)(size d:Nat)(B:P.underlying t=some (.slice e))(p:P.info? e=some i)(S:i.zero=some z)
  (H:i.size=size)(K:i.bytes=d)(N:z.cells.size=size)(M:0<size)
  (v:Value)(n:Nat)(xs:List Value)(A:a.eval s=v)(f:w.ownsRow b e size v n xs)
  (D:Nat->Prop)(E:Value)(m:Nat)(c:List Value)(C:a.eval x=E)(I:Row w D e size E m c)(r:c.length=m*size)(O:∀u∈c,u.oneCell'=true)
  (J:n+m<=maxLen)(F:(n+m)*d<=140737488355328)(G:b<=w.heap.size)
  (h:∀v' w',w'.ownsRow b e size v' (n+m) (xs++c)->w.grownBy w' v.ownBlock->(∀g,v'.ownBlock=some g->v.ownBlock=some g\/w.heap.size<=g)->wpList P l Q rest (a.put o.dst v') w'):wpList P l Q (o :: rest) a w:=by
 rcases I with⟨rfl,rfl,rfl⟩|⟨g,cap,cur,rfl,hD,hb,hcap,hmx,hsz',htk⟩
 ·refine wpList_append_own_none k s x t y b e i size B p v n xs A f C (h v w (by simpa using f) ⟨rfl,rfl,rfl,Nat.le_refl _,fun _ _ _=>rfl⟩ (fun g R=>Or.inl R))
 ·refine zH w k s x t y b e i z size d B p S H K N M v n xs A f ⟨g,0,none⟩ m cap c C r (fun j u q=>?_) O J F G h
  have L:j<m*size:=by rw[<-r];exact(List.getElem?_eq_some_iff.1 q).1
  rw[Addr.add_lit,za hb,Nat.zero_add,<-Array.getElem?_toList,<-q,<-htk,List.getElem?_take_of_lt L]
theorem vd (l:List Bs):∀u∈strs l,u.oneCell'=true:=by
 intro u a
 obtain⟨x,_,rfl⟩:=List.mem_map.1 a
 rfl
theorem strs_len (l:List Bs):(strs l).length=l.length*1:=by simp[strs]
theorem vM (Y:∀b,D b->b<w.heap.size){b:Nat}{t x:Option Addr}{u y:Nat}{ps vs:List Bs}(K:w.cell? ⟨b,0,none⟩=some (.slice t ps.length u))(c1:w.cell? ⟨b,1,none⟩=some (.slice x vs.length y))(hp:Row w D 9 1 (.slice t ps.length u) ps.length (strs ps))(hv:Row w D 9 1 (.slice x vs.length y) vs.length (strs vs))(hn:ps.length+vs.length<=1000) :
  Calls Tryz.prog 149 #[.slice (some ⟨b,0,none⟩) 2 2] w fun e w'=>∃a c,e=.returned (.slice a (ps++vs).length c)/\Row w' (fun g=>w.heap.size<=g) 9 1 (.slice a (ps++vs).length c) (ps++vs).length (strs (ps++vs))/\Below w.heap.size w w':=by
 obtain⟨i1,hi,U,V,W⟩:=info_parts Tryz.infoString
 have F:=zg K
 obtain⟨p,H⟩:∃p,p=ps.length:=⟨_,rfl⟩
 obtain⟨n,G⟩:∃n,n=vs.length:=⟨_,rfl⟩
 have HP:=zh hp
 have HV:=zh hv
 have E:=zh H
 have B:=zh G
 rw[<-H]at K
 rw[<-G]at c1
 have a9:(p:Int)+(n:Int)<=1000:=by omega
 have a2:=zh Y
 clear hp hv hn Y H G
 go_enter Tryz.func149,Tryz.ntmps149
 go_wp2_with fail
 go_loopg [3,11] 2 (fun k N m wr=>(k=2/\m=.int .i64 0/\N=.int .i64 0\/k=1/\m=.int .i64 1/\N=.int .i64 (p:Int)\/k=0/\m=.int .i64 2/\N=.int .i64 ((p:Int)+(n:Int)))/\wr=w)
 case atStart=>exact⟨Or.inl ⟨rfl,rfl,rfl⟩,rfl⟩
 case round =>
  obtain⟨hrel,b1⟩:=hrel
  subst wr
  rcases hrel with⟨rfl,rfl,rfl⟩|⟨rfl,rfl,rfl⟩|⟨rfl,rfl,rfl⟩
  ·go_wp2_with fail
   go_roundg 1
   case measure=>omega
   case rel=>exact⟨Or.inr (Or.inl ⟨rfl,by go_num,by go_num⟩),rfl⟩
  ·have b0:(0:Int)<=(p:Int)+(n:Int):=by omega
   go_wp2_with fail
   go_roundg 0
   case measure=>omega
   case rel=>exact⟨Or.inr (Or.inr ⟨rfl,by go_num,by go_num⟩),rfl⟩
  ·obtain⟨T,Z⟩:∃T:Nat,T=p+n:=⟨_,rfl⟩
   have P:(p:Int)+(n:Int)=(T:Int):=by omega
   rw[P]
   have a3:=zh (grow5 w T (by omega))
   have a5:=zh Z
   clear Z P
   go_wp2_with fail
   refine a3.out.mono ?_
   rintro e w2⟨a0,k0,rfl,S,Q⟩
   have a4:=zh S
   have a1:=zh Q
   clear S Q
   go_wp2_with fail
   go_loopg [6,27] 2 (fun k o m z=>(k=2/\m=.int .i64 0/\(∃a c,o=.slice a 0 c)/\Hid (z.ownsRow w.heap.size 9 1 o 0 [])\/k=1/\m=.int .i64 1/\(∃a c,o=.slice a p c)/\Hid (z.ownsRow w.heap.size 9 1 o p (strs ps))\/k=0/\m=.int .i64 2/\(∃a c,o=.slice a (p+n) c)/\Hid (z.ownsRow w.heap.size 9 1 o (p+n) (strs ps++strs vs)))/\Hid (Below w.heap.size w z))
   case atStart=>exact⟨Or.inl ⟨rfl,rfl,⟨_,_,rfl⟩,a4⟩,a1⟩
   case round =>
    obtain⟨hrel,f⟩:=hrel
    have q:∀(l:List Bs) (k:Nat) (a:Option Addr) (c:Nat),k=l.length->Row w D 9 1 (.slice a l.length c) l.length (strs l)->Row wr D 9 1 (.slice a k c) k (strs l):=fun l k a c e h=>by
     subst e
     exact h.mono fun g d _=>⟨f.out.block g (a2.out g d),d⟩
    have O:Hid (∀(v:Value) (n:Nat) (xs:List Value) (w':World),wr.ownsRow w.heap.size 9 1 v n xs->wr.grownBy w' v.ownBlock->Below w.heap.size w w'):=fun v n xs w' s d=>by
     refine f.out.trans ⟨d.os,d.tape,d.output,d.size,fun g a8=>d.block g (by have:=f.out.size;omega) (fun e=>?_)⟩
     have:=s.lt g e.symm
     omega
    have a7:b<wr.heap.size:=Nat.lt_of_lt_of_le F f.out.size
    have d0:wr.cell? ⟨b,0,none⟩=some (.slice t p u):=(f.out.cell (p:=⟨b,0,none⟩) F).trans K
    have d1:wr.cell? ⟨b,1,none⟩=some (.slice x n y):=(f.out.cell (p:=⟨b,1,none⟩) F).trans c1
    have R:w.heap.size<=wr.heap.size:=f.out.size
    rcases hrel with⟨rfl,rfl,⟨J,L,rfl⟩,i⟩|⟨rfl,rfl,⟨J,L,rfl⟩,i⟩|⟨rfl,rfl,⟨J,L,rfl⟩,i⟩
    ·have I:=zh (q ps p _ _ E.out HP.out)
     clear q
     go_wp2_with (at_builtin;refine jJ _ rfl _ _ 46 rfl w.heap.size 9 i1 (.string ⟨#[]⟩) 1 16 Tryz.underlying46 hi U V W rfl (by decide) _ 0 [] rfl i.out D (.slice t p u) p (strs ps) rfl I.out ?len (vd ps) ?c3 ?c4 R ?_)
     case len=>rw[strs_len,E.out]
     case c3=>unfold maxLen;omega
     case c4=>omega
     intro v' w' j r M
     have A:=zh (O.out _ _ _ _ i.out r)
     obtain⟨a',c',rfl⟩:=z7 j
     have C:=zh j
     clear j r M
     go_wp2_with fail
     go_roundg 1
     case measure=>omega
     case rel=>exact⟨Or.inr (Or.inl ⟨rfl,by go_num,⟨_,_,rfl⟩,C⟩),A⟩
    ·have I:=zh (q vs n _ _ B.out HV.out)
     clear q
     go_wp2_with (at_builtin;refine jJ _ rfl _ _ 46 rfl w.heap.size 9 i1 (.string ⟨#[]⟩) 1 16 Tryz.underlying46 hi U V W rfl (by decide) _ p (strs ps) rfl i.out D (.slice x n y) n (strs vs) rfl I.out ?len (vd vs) ?c3 ?c4 R ?_)
     case len=>rw[strs_len,B.out]
     case c3=>unfold maxLen;omega
     case c4=>omega
     intro v' w' j r M
     have A:=zh (O.out _ _ _ _ i.out r)
     obtain⟨a',c',rfl⟩:=z7 j
     have C:=zh j
     clear j r M
     go_wp2_with fail
     go_roundg 0
     case measure=>omega
     case rel=>exact⟨Or.inr (Or.inr ⟨rfl,by go_num,⟨_,_,rfl⟩,C⟩),A⟩
    ·clear q
     go_wp2_with fail
     go_ret
     have X:p+n=(ps++vs).length:=by rw[E.out,B.out,List.length_append]
     have es:strs ps++strs vs=strs (ps++vs):=by simp[strs]
     have s:=i.out
     rw[es,X]at s
     refine⟨J,L,?_,(Row.of_owns s).mono (fun g d _=>⟨rfl,d.1⟩),f.out⟩
     rw[<-X]
     rfl
end Go.Proofs.YtbkndnmglhghlaaGreatDoor

namespace Go.Proofs.YtbkndnmglhghlaaGreatDoor
open Go.RowKit
open Tp (Bs X S G Pr Cn cX cS)
open Ob (In En)
variable {c:Cn}{a:Nat}{D:Nat->Prop}{q:Oq}{v:Value}{w w':World}
theorem Row.other {D':Nat->Prop}(r:∀b,D b->D' b){e t size n j b:Nat}{v u:Value}{c:List Value}{k:Array Value}{f:Nat×Nat}(h:Row w D e size v n c)(a:w.heap[b]?=some (.cells k t f))(s:e≠t):Row (w.setCell ⟨b,j,none⟩ u) D' e size v n c:=by
 rcases h with h|⟨g,cap,i,m,o,d,p⟩
 ·exact Or.inl h
 ·refine Or.inr ⟨g,cap,i,m,r g o,?_,p⟩
  have l:g≠b:=fun q=>by
   subst q
   rw[d]at a
   injection a with a
   injection a with _ a
   exact s a
  exact(Below.heap_setCell _ _ _ _ (by simpa using l)).trans d
theorem UsR.other {w:World}{D D':Nat->Prop}(o:∀b,D b->D' b){e:List (Bs×List Bs)}{d:List Value}{j b t:Nat}{u:Value}{g:Array Value}{f:Nat×Nat}(h:UsR w D e d)(p:w.heap[b]?=some (.cells g t f))(r:9≠t):UsR (w.setCell ⟨b,j,none⟩ u) D' e d:=fun i q=>by
 obtain⟨nd,a,c,k,l,m,n⟩:=h i q
 exact⟨nd,a,c,k,l,m,n.other o p r⟩
def reQ (q:Oq) (oa:Option Addr) (oc:Nat):Oq:={ q with oa:=oa,oc:=oc }
theorem CS.reown {g:Nat}{k:List In}(h:CS w a g D q c v k)(m:a≠2){E:Nat->Prop}(p:∀b,E b->b≠a/\b≠g/\v.ownBlock≠some b/\b<w.heap.size){oa:Option Addr}{oc:Nat}{own:List Bs}(r:Row w E 9 1 (.slice oa own.length oc) own.length (strs own)) :
  CS (w.setCell ⟨a,1,none⟩ (.slice oa own.length oc)) a g (fun b=>D b\/E b) (reQ q oa oc) { c with own:=own } v k:=by
 have j:=(h.ok a h.dw)
 obtain⟨n,u1,u2⟩:=h.us
 obtain⟨o,t,u⟩:=h.vr
 have f:∀b,D b->D b\/E b:=fun _=>Or.inl
 refine⟨?_,?_,r.other (fun _=>Or.inr) h.wbk (by decide),⟨n,u1.other f h.wbk (by decide),u2.other f h.wbk (by decide)⟩,⟨o,t.other f h.wbk (by decide),u⟩,h.nm.other f h.wbk (by decide),?_,fun i s=>?_,Or.inl h.dm,Or.inl h.dw,fun b d=>?_,h.nb⟩
 ·exact zy 1 _ h.wbk
 ·exact(Below.heap_setCell _ _ _ _ (by simpa using fun e:g=a=>j.1 e.symm)).trans h.obk
 ·exact zB h.cd fun b _ _ l=>Below.heap_setCell _ _ _ _ (by simpa using fun e:b=a=>j.2.1 (e ▸ l))
 ·exact(World.cell?_of_block (w:=w) (Below.heap_setCell _ _ _ _ (by simpa using fun e:2=a=>m e.symm))).trans (h.mkc i s)
 ·rcases d with d|d
  ·have:=h.ok b d
   exact⟨this.1,this.2.1,by simpa using this.2.2⟩
  ·have:=p b d
   exact⟨this.2.1,this.2.2.1,by simpa using this.2.2.2⟩
def enV (x:En):List Value:=[.int .i64 x.at',.int .i64 x.args,.int .i64 x.locals]
def ens (l:List En):List Value:=(l.map enV).flatten
theorem ens_app (l m:List En):ens (l++m)=ens l++ens m:=by simp[ens]
theorem ens_one (x:En):ens [x]=enV x:=by simp[ens]
theorem Tryz.infoEntry:(Tryz.prog.info? 112).map (fun i=>(i.zero,i.size,i.bytes))=some (some (.agg #[.int .i64 0,.int .i64 0,.int .i64 0]),3,24):=by kernel_rfl
structure PE (w:World) (wb ob:Nat) (D:Nat->Prop) (q:Oq) (v:Value) (es:List En):Prop where
 row:w.ownsRow 0 112 3 (.slice q.pa q.pl q.pc) es.length (ens es)
 len:q.pl=es.length
 ok:∀g,(Value.slice q.pa q.pl q.pc).ownBlock=some g->g≠ob/\g≠wb/\v.ownBlock≠some g/\¬D g
structure Cp (ob wb:Nat) (v pv:Value) (w:World) (v' pv':Value) (w':World):Prop where
 os:w'.os=w.os
 tape:w'.tape=w.tape
 output:w'.output=w.output
 size:w.heap.size<=w'.heap.size
 block:∀b,b<w.heap.size->b≠ob->b≠wb->v.ownBlock≠some b->pv.ownBlock≠some b->w'.heap[b]?=w.heap[b]?
 own:∀g,v'.ownBlock=some g->v.ownBlock=some g\/w.heap.size<=g
 pown:∀g,pv'.ownBlock=some g->pv.ownBlock=some g\/w.heap.size<=g
theorem Cp.trans {c d:Nat}{r s t n o p:Value}{u v w:World}(h:Cp c d r n u s o v)(k:Cp c d s o v t p w):Cp c d r n u t p w:=by
 refine⟨k.os.trans h.os,k.tape.trans h.tape,k.output.trans h.output,Nat.le_trans h.size k.size,fun b m f i j l=>(k.block b (Nat.lt_of_lt_of_le m h.size) f i (fun e=>?_) (fun e=>?_)).trans (h.block b m f i j l),fun g a=>?_,fun g a=>?_⟩
 ·rcases h.own b e with q|q
  ·exact j q
  ·omega
 ·rcases h.pown b e with q|q
  ·exact l q
  ·omega
 ·rcases k.own g a with q|q
  ·exact h.own g q
  ·exact Or.inr (Nat.le_trans h.size q)
 ·rcases k.pown g a with q|q
  ·exact h.pown g q
  ·exact Or.inr (Nat.le_trans h.size q)
theorem Cg.cp {i:Nat}{c d:Value}(h:Cg a v w d w'):Cp a i v c w d c w':=⟨h.os,h.tape,h.output,h.size,fun b g e _ f _=>h.block b g e f,h.own,fun _ q=>Or.inl q⟩
theorem PE.next {j c:Nat}{i:Value}{d:List En}(h:PE w j c D q v d)(k:Cg c v w i w'):PE w' j c D q i d:=by
 have l:∀g,(Value.slice q.pa q.pl q.pc).ownBlock=some g->g<w.heap.size:=fun g a=>(h.row.lt g a).2
 refine⟨zB h.row fun b _ r f=>k.block b r (h.ok b f).1 (h.ok b f).2.2.1,h.len,fun g a=>?_⟩
 obtain⟨m,n,o,p⟩:=h.ok g a
 refine⟨m,n,fun e=>?_,p⟩
 rcases k.own g e with z|z
 ·exact o z
 ·have:=l g a;omega
def pQ (q:Oq) (a:Option Addr) (n c:Nat):Oq:={ q with pa:=a,pl:=n,pc:=c }
theorem CS.entry {F k:World}{o d:Nat}{H:List In}{a:List En}(h:CS w o d D q c v H)(t:PE w o d D q v a)(l:Below w.heap.size w F){f:Option Addr}{j:Nat}{x:En}(Q:k.ownsRow 0 112 3 (.slice f (a.length+1) j) (a.length+1) (ens a++enV x))(u:F.grownBy k (Value.slice q.pa q.pl q.pc).ownBlock)(E:∀g,(Value.slice f (a.length+1) j).ownBlock=some g->(Value.slice q.pa q.pl q.pc).ownBlock=some g\/F.heap.size<=g) :
  CS (k.setCell ⟨d,4,none⟩ (.slice f (a.length+1) j)) o d D (pQ q f (a.length+1) j) c v H/\PE (k.setCell ⟨d,4,none⟩ (.slice f (a.length+1) j)) o d D (pQ q f (a.length+1) j) v (a++[x])/\Cp d o v (.slice q.pa q.pl q.pc) w v (.slice f (a.length+1) j) (k.setCell ⟨d,4,none⟩ (.slice f (a.length+1) j)):=by
 have G:w.heap.size<=k.heap.size:=Nat.le_trans l.size u.size
 have J:=zc h.obk
 have I:∀b,b<w.heap.size->(Value.slice q.pa q.pl q.pc).ownBlock≠some b->k.heap[b]?=w.heap[b]?:=fun b n s=>(u.block b (Nat.lt_of_lt_of_le n l.size) (fun e=>s e.symm)).trans (l.block b n)
 have B:∀b,b<w.heap.size->b≠d->(Value.slice q.pa q.pl q.pc).ownBlock≠some b->(k.setCell ⟨d,4,none⟩ (.slice f (a.length+1) j)).heap[b]?=w.heap[b]?:=fun b n C s=>(Below.heap_setCell _ _ _ _ (by simpa using C)).trans (I b n s)
 have m:∀b,D b->b<w.heap.size->(k.setCell ⟨d,4,none⟩ (.slice f (a.length+1) j)).heap[b]?=w.heap[b]?/\D b:=fun b p A=>⟨B b A (h.ok b p).1 (fun e=>(t.ok b e).2.2.2 p),p⟩
 obtain⟨K,u1,u2⟩:=h.us
 obtain⟨L,R,S⟩:=h.vr
 refine⟨⟨(m o h.dw (zc h.wbk)).1.trans h.wbk,?_,h.ow.mono m,⟨K,u1.mono m,u2.mono m⟩,⟨L,R.mono m,S⟩,h.nm.mono m,?_,fun i P=>(World.cell?_of_block (w:=w) (m _ h.dm (h.ok _ h.dm).2.2).1).trans (h.mkc i P),h.dm,h.dw,fun b p=>?_,h.nb⟩,⟨?_,?_,fun g r=>?_⟩,⟨?_,?_,?_,?_,fun b n C _ _ s=>B b n C s,fun g r=>Or.inl r,fun g r=>?_⟩⟩
 ·have e:k.heap[d]?=some (.cells (oqc q c v) 49 (0,0)):=(I d J (fun e=>(t.ok d e).1 rfl)).trans h.obk
  have:=zy 4 (.slice f (a.length+1) j) e
  rw[this]
  rfl
 ·exact zB h.cd fun b _ A y=>B b A (fun e=>h.nb (e ▸ y)) (fun e=>(t.ok b e).2.2.1 y)
 ·obtain⟨M,N,O⟩:=h.ok b p
  exact⟨M,N,by simpa using Nat.lt_of_lt_of_le O G⟩
 ·rw[List.length_append,ens_app,ens_one]
  refine zB Q fun b _ A y=>Below.heap_setCell _ _ _ _ (by
   have:b≠d:=fun e=>by
    subst e
    rcases E b y with z|z
    ·exact(t.ok b z).1 rfl
    ·have:=l.size;omega
   simpa using this)
 ·show a.length+1=_
  simp
 ·rcases E g r with z|z
  ·exact t.ok g z
  ·have T:w.heap.size<=g:=Nat.le_trans l.size z
   refine⟨by omega,by have:=zc h.wbk;omega,fun e=>?_,fun e=>?_⟩
   ·have:=(h.cd.lt g e).2;omega
   ·have:=(h.ok g e).2.2;omega
 ·exact u.os.trans l.os
 ·exact u.tape.trans l.tape
 ·exact u.output.trans l.output
 ·simpa using G
 ·rcases E g r with z|z
  ·exact Or.inl z
  ·exact Or.inr (Nat.le_trans l.size z)
end Go.Proofs.YtbkndnmglhghlaaGreatDoor
