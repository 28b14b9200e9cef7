import Derived.Test.YtbkndnmglhghlaaGreatDoorKJa
import Derived.Deep.RegionLawGrows
set_option maxRecDepth 100000
set_option maxHeartbeats 4000000

namespace Go.Proofs.YtbkndnmglhghlaaGreatDoor.Jo
open Go.RowKit
open Ob (Bs)
variable {a:Act}{K:Act->World->Prop}{Q:Exit->Act->World->Prop}{e k n:Nat}{D:Nat->Prop}{o:Oper}{E:Prop}{α:Type}{v:Value}{w w':World}{c:α->List Value}
def smC (s:Ob.Sm):List Value:=[.string (bs s.name),.int .i64 s.len,.int .i64 s.args]
def glC (g:Ob.Gl):List Value:=[.string (bs g.name),.int .i64 g.at',.int .i64 g.len,.bool g.seen]
def enC (e:Ob.En):List Value:=[.int .i64 e.at',.int .i64 e.args,.int .i64 e.locals]
def inC (x:Ob.In):List Value:=[.int .i64 x.op,.int .i64 x.a,.int .i64 x.b]
def stC (s:Bs):List Value:=[.string (bs s)]
def cellsOf {α:Type}(c:α->List Value) (l:List α):List Value:=(l.map c).flatten
def Row (w:World) (D:Nat->Prop) (e size:Nat) (v:Value) (n:Nat) (cs:List Value):Prop :=
 v=.slice none 0 0/\n=0/\cs=[]\/∃g cap cur,v=.slice (some ⟨g,0,none⟩) n cap/\D g/\w.heap[g]?=some (.cells cur e (0,0))/\n<=cap/\cap<=maxLen/\cur.size=cap*size/\cur.toList.take (n*size)=cs
theorem Row.mono {D':Nat->Prop}(m:∀b,D b->b<w.heap.size->w'.heap[b]?=w.heap[b]?/\D' b){e size:Nat}{v:Value}{n:Nat}{a:List Value}(h:Row w D e size v n a):Row w' D' e size v n a:=by
 rcases h with h|⟨g,cap,d,j,k,c,l⟩
 ·exact Or.inl h
 ·obtain⟨f,i⟩:=m g k (zc c)
  exact Or.inr ⟨g,cap,d,j,i,f.trans c,l⟩
theorem Row.of_owns {a size:Nat}{c:List Value}(h:w.ownsRow a e size v n c):Row w (fun b=>a<=b/\v.ownBlock=some b) e size v n c:=by
 rcases h.2 with⟨rfl,rfl⟩|⟨g,cap,cur,rfl,q1,q2,q3,q4,q5,q6⟩
 ·exact Or.inl ⟨rfl,rfl,List.eq_nil_of_length_eq_zero (by simpa using h.1)⟩
 ·exact Or.inr ⟨g,cap,cur,rfl,⟨q1,rfl⟩,q2,q3,q4,q5,q6⟩
theorem zE {P:Program}{l:Array Oper}
  (J:o.guard=none)(s x:Operand)(t:TypeId)(D:o.op=Op.call { callee:=Callee.builtin Builtin.append,args:=#[s,x],argTypes:=#[t,t] })
  (f:Nat)(e:TypeId)(i:TypeInfo)(z:Value)(size h:Nat)(O:P.underlying t=some (.slice e))(L:P.info? e=some i)(T:i.zero=some z)
  (y:i.size=size)(C:i.bytes=h)(G:z.cells.size=size)(F:0<size)
  (v:Value)(n:Nat)(xs:List Value)(N:a.eval s=v)(A:w.ownsRow f e size v n xs)
  (k:Addr)(m c:Nat)(b:List Value)(S:a.eval x=.slice (some k) m c)(M:b.length=m*size)(r:∀j u,b[j]?=some u->w.cell? (k.add j)=some u)(H:∀u∈b,u.oneCell'=true)
  (B:n+m<=maxLen)(p:(n+m)*h<=140737488355328)(q:f<=w.heap.size)
  (I:∀d w',w'.ownsRow f e size d (n+m) (xs++b)->w.grownBy w' v.ownBlock->(∀g,d.ownBlock=some g->v.ownBlock=some g\/w.heap.size<=g)->K (a.put o.dst d) w') :
  if Region.wanted o (yielded l a.tmps)=true then Oper.wp P o a w K Q else E:=by
 have R:Region.wanted o (yielded l a.tmps)=true:=by simp[Region.wanted,J]
 rw[if_pos R]
 obtain⟨d,w',U,V,W,X⟩:=yg (P:=P) w f t o.type e i z size h O L T y C G F v n xs A k m c b M r H B p q
 unfold Oper.wp
 simp[execOp,D,resolve,invoke,builtin,N,S,U,Result.andThen]
 exact I d w' V W X
theorem yj {P:Program}{b:Array Oper}(c:o.guard=none)(h:Oper.wp P o a w K Q):if Region.wanted o (yielded b a.tmps)=true then Oper.wp P o a w K Q else E:=by
 rw[if_pos (by simp[Region.wanted,c])];exact h
theorem zX {a:Addr}(h:w.cell? a=some v)(b:Obj):(w.alloc b).cell? a=some v:=(World.cell?_alloc_lt _ _ _ (World.block_lt_of_cell? _ _ h)).trans h
theorem zt (w:World):Below w.heap.size w w.drew:=(Below.refl _ _).drew
theorem news3 (w:World)(e:Nat)(b c d:Value):∀j u,[b,c,d][j]?=some u->(w.alloc (.cells #[b,c,d] e)).cell? ((⟨w.heap.size,0,none⟩:Addr).add j)=some u:=by
 intro j u a
 match j,a with
 | 0,a=>simp at a;subst a;simp[Addr.add]
 | 1,a=>simp at a;subst a;simp[Addr.add]
 | 2,a=>simp at a;subst a;simp[Addr.add]
def Sl (w:World) (v:Value) (k n:Nat) (cs:List Value):Prop:=∃a c,v=.slice a n c/\cs.length=n*k/\∀j u,cs[j]?=some u->∃b o,a=some ⟨b,o,none⟩/\w.cell? ⟨b,o+j,none⟩=some u
theorem Sl.below {d:List Value}(h:Sl w v k n d)(m:Below w.heap.size w w'):Sl w' v k n d:=by
 obtain⟨a,c,g,i,l⟩:=h
 refine⟨a,c,g,i,fun j u q=>?_⟩
 obtain⟨b,o,e,f⟩:=l j u q
 exact⟨b,o,e,(m.cell (p:=⟨b,o+j,none⟩) (zg f)).trans f⟩
theorem jI (a:∀x,(c x).length=k)(l:List α):(cellsOf c l).length=l.length*k:=by
 induction l with
 |nil=>simp[cellsOf]
 |cons x l ih =>
  unfold cellsOf at ih ⊢
  rw[List.map_cons,List.flatten_cons,List.length_append,a,ih,List.length_cons,Nat.add_mul];omega
theorem kP (b:∀x,(c x).length=k):∀(l:List α) (i j:Nat) (a:i<l.length),j<k->(cellsOf c l)[i*k+j]?=(c l[i])[j]?:=by
 intro l
 induction l with
 |nil=>intro i j a;simp at a
 |cons x l ih =>
  intro i j a d
  have e:cellsOf c (x :: l)=c x++cellsOf c l:=rfl
  cases i with
  |zero =>
   rw[e,Nat.zero_mul,Nat.zero_add,List.getElem?_append_left (by rw[b];exact d)]
   rfl
  |succ i =>
   rw[e,List.getElem?_append_right (by rw[b,Nat.add_mul];omega),b,show (i+1)*k+j-k=i*k+j by rw[Nat.add_mul];omega,ih i j (by simpa using a) d]
   rfl
theorem Sl.at' (d:∀x,(c x).length=k)(q:0<k){w:World}{a:Option Addr}{cap n:Nat}{l:List α}(h:Sl w (.slice a n cap) k l.length (cellsOf c l))(i:Nat)(m:i<l.length) :
  ∃b o,a=some ⟨b,o,none⟩/\b<w.heap.size/\∀j u,(c l[i])[j]?=some u->w.cell? ⟨b,o+(i*k+j),none⟩=some u:=by
 obtain⟨A,C,z,D,g⟩:=h
 cases z
 have y:∃u,(c l[i])[0]?=some u:=⟨_,List.getElem?_eq_getElem (by rw[d];exact q)⟩
 obtain⟨u0,v⟩:=y
 obtain⟨b,o,e,s⟩:=g (i*k+0) u0 (by rw[kP d l i 0 m q];exact v)
 refine⟨b,o,e,zg s,fun j u p=>?_⟩
 have t:j<k:=by rw[<-d l[i]];exact(List.getElem?_eq_some_iff.1 p).1
 obtain⟨B,E,f,r⟩:=g (i*k+j) u (by rw[kP d l i j m t];exact p)
 rw[e]at f
 cases f
 exact r
theorem Row.sl {b:List Value}(h:Row w D e k v n b):Sl w v k n b:=by
 rcases h with⟨rfl,rfl,rfl⟩|⟨g,cap,cur,rfl,_,h3,h4,_,h6,h7⟩
 ·exact⟨_,_,rfl,by simp,fun j u a=>by simp at a⟩
 ·have c:b.length=n*k:=by rw[<-h7,List.length_take];simp;rw[h6];exact Nat.min_eq_left (Nat.mul_le_mul_right _ h4)
  refine⟨_,_,rfl,c,fun j u a=>⟨g,0,rfl,?_⟩⟩
  rw[za h3,Nat.zero_add,<-Array.getElem?_toList,<-a,<-h7,List.getElem?_take_of_lt]
  have:=(List.getElem?_eq_some_iff.1 a).1
  omega
def RepN (w:World):List Ob.Us->List Value->Prop
 |[],cs=>cs=[]
 |u :: l,cs=>∃(nv:Value) (cs':List Value),cs=[.string (bs u.name),.string (bs u.need),nv]++cs'/\Sl w nv 1 u.names.length (cellsOf stC u.names)/\RepN w l cs'
theorem RepN.below {w w':World}(f:Below w.heap.size w w'):∀(l:List Ob.Us) (a:List Value),RepN w l a->RepN w' l a:=by
 intro l
 induction l with
 |nil=>intro a h;exact h
 |cons c l ih =>
  intro a h
  obtain⟨g,cs',b,d,e⟩:=h
  exact⟨g,cs',b,d.below f,ih cs' e⟩
theorem RepN.get:∀(l:List Ob.Us) (a:List Value),RepN w l a->∀(i:Nat) (f:i<l.length),∃b d,a[i*3]?=some (.string (bs l[i].name))/\a[i*3+1]?=some (.string (bs l[i].need))/\a[i*3+2]?=some (.slice b l[i].names.length d)/\Sl w (.slice b l[i].names.length d) 1 l[i].names.length (cellsOf stC l[i].names):=by
 intro l
 induction l with
 |nil=>intro a h i f;simp at f
 |cons c l ih =>
  intro a h i f
  obtain⟨r,cs',rfl,g,k⟩:=h
  cases i with
  |zero =>
   obtain⟨b,d,m,_⟩:=id g
   subst m
   exact⟨b,d,rfl,rfl,rfl,g⟩
  |succ i =>
   obtain⟨b,d,n,o,p,q⟩:=ih cs' k i (by simpa using f)
   have e:∀j,([Value.string (bs c.name),Value.string (bs c.need),r]++cs')[(i+1)*3+j]?=cs'[i*3+j]?:=fun j=>by
    rw[List.getElem?_append_right (by simp;omega)]
    congr 1
    simp;omega
   exact⟨b,d,(e 0).trans n,(e 1).trans o,(e 2).trans p,q⟩
structure OV (w:World) (b o:Nat) (O:Ob.O) (sa ua va pa na ca:Option Addr) (sc uc vc pc nc cc:Nat):Prop where
 c0:w.cell? ⟨b,o,none⟩=some (.string (bs O.name))
 c1:w.cell? ⟨b,o+1,none⟩=some (.slice sa O.syms.length sc)
 c2:w.cell? ⟨b,o+2,none⟩=some (.slice ua O.uses.length uc)
 c3:w.cell? ⟨b,o+3,none⟩=some (.slice va O.vars.length vc)
 c4:w.cell? ⟨b,o+4,none⟩=some (.slice pa O.procs.length pc)
 c5:w.cell? ⟨b,o+5,none⟩=some (.slice na O.names.length nc)
 c6:w.cell? ⟨b,o+6,none⟩=some (.slice ca O.code.length cc)
 s:Sl w (.slice sa O.syms.length sc) 3 O.syms.length (cellsOf smC O.syms)
 u:∃ucs,RepN w O.uses ucs/\Sl w (.slice ua O.uses.length uc) 3 O.uses.length ucs
 v:Sl w (.slice va O.vars.length vc) 4 O.vars.length (cellsOf glC O.vars)
 p:Sl w (.slice pa O.procs.length pc) 3 O.procs.length (cellsOf enC O.procs)
 n:Sl w (.slice na O.names.length nc) 1 O.names.length (cellsOf stC O.names)
 c:Sl w (.slice ca O.code.length cc) 3 O.code.length (cellsOf inC O.code)
def OA (w:World) (b o:Nat) (O:Ob.O):Prop:=∃sa ua va pa na ca sc uc vc pc nc cc,OV w b o O sa ua va pa na ca sc uc vc pc nc cc
theorem OV.below {w w':World}{b o:Nat}{O:Ob.O}{m q t i f a:Option Addr}{sc r x l g d:Nat}(h:OV w b o O m q t i f a sc r x l g d)(k:Below w.heap.size w w'):OV w' b o O m q t i f a sc r x l g d:=by
 have y:=zg h.c0
 have e:∀j,w'.cell? ⟨b,j,none⟩=w.cell? ⟨b,j,none⟩:=fun j=>k.cell (p:=⟨b,j,none⟩) y
 exact⟨(e _).trans h.c0,(e _).trans h.c1,(e _).trans h.c2,(e _).trans h.c3,(e _).trans h.c4,(e _).trans h.c5,(e _).trans h.c6,h.s.below k,let ⟨ucs,h1,h2⟩:=h.u;⟨ucs,RepN.below k _ _ h1,h2.below k⟩,h.v.below k,h.p.below k,h.n.below k,h.c.below k⟩
theorem OA.below {w w':World}{b o:Nat}{O:Ob.O}(h:OA w b o O)(k:Below w.heap.size w w'):OA w' b o O:=by
 obtain⟨i,j,m,f,d,a,sc,l,n,g,e,c,h⟩:=h
 exact⟨i,j,m,f,d,a,sc,l,n,g,e,c,h.below k⟩
theorem xu (s:Bs):(stC s).length=1:=rfl
theorem xv (s:Ob.Sm):(smC s).length=3:=rfl
theorem uz (s:Ob.Gl):(glC s).length=4:=rfl
theorem xO (s:Ob.En):(enC s).length=3:=rfl
theorem xH (s:Ob.In):(inC s).length=3:=rfl
end Go.Proofs.YtbkndnmglhghlaaGreatDoor.Jo
