import Derived.Test.YtmnedfdffbbchaaGreatDoorKJa
import Derived.Deep.RegionLawGrows
set_option maxRecDepth 100000
set_option maxHeartbeats 4000000

namespace Go.Proofs.YtmnedfdffbbchaaGreatDoor.Jo
open Go.RowKit
open Ob (Bs)
def smC (s:Ob.Sm):List Value:=[.string (bs s.name),.int .i64 s.len,.int .i64 s.args]
def glC (g:Ob.Gl):List Value:=[.string (bs g.name),.int .i64 g.at',.int .i64 g.len,.bool g.seen]
def enC (e:Ob.En):List Value:=[.int .i64 e.at',.int .i64 e.args,.int .i64 e.locals]
def inC (x:Ob.In):List Value:=[.int .i64 x.op,.int .i64 x.a,.int .i64 x.b]
def stC (s:Bs):List Value:=[.string (bs s)]
def cellsOf {α:Type}(c:α->List Value) (l:List α):List Value:=(l.map c).flatten
theorem yX {ops:Array Oper}{rest:List Oper}{o:Oper}{a:Act}{Q:Exit->Act->World->Prop}(hgd:o.guard=none) (sl x:Operand) (t:TypeId)
  (ho:o.op=.call { callee:=.builtin .append,args:=#[sl,x],argTypes:=#[t,t] }) {w:World} {B e size bytes n:Nat} {z:Value}
  (ht:Tryz.prog.underlying t=some (.slice e)) (hi:(Tryz.prog.info? e).map (fun i=>(i.zero,i.size,i.bytes))=some (some z,size,bytes)) (hzs:z.cells.size=size) (hsz:0<size) (hby:bytes<=100)
  {v:Value} {xs:List Value} (hs:a.eval sl=v) (hown:w.ownsRow B e size v n xs) (es:List Value) (hes:es.length=size) (h1:∀ u∈es,u.oneCell'=true)
  (hx:a.eval x=.slice (some ⟨w.heap.size,0,none⟩) 1 1) (hn:n<=1000000) (hB:B<=w.heap.size)
  (h:∀ v' w',w'.ownsRow B e size v' (n+1) (xs++es)->Exact v v' w w'->Below B w w'->wpList Tryz.prog ops Q rest (a.put o.dst v') w'):wpList Tryz.prog ops Q (o :: rest) a (w.alloc (.cells es.toArray e)):=by
 obtain⟨i0,hi0,hz0,hz1,hz2⟩:=info_parts hi
 have hb:Below w.heap.size w (w.alloc (.cells es.toArray e)):=zb _ _
 have hown1:=zD hown hb
 have hmul:(n+1) * bytes<=140737488355328:=Nat.le_trans (Nat.mul_le_mul (show n+1<=1000001 by omega) hby) (by omega)
 refine zF _ hgd sl x t ho B e i0 z size bytes ht hi0 hz0 hz1 hz2 hzs hsz v n xs hs hown1 ⟨w.heap.size,0,none⟩ 1 1 es hx (by omega) ?c1 h1 (by unfold maxLen;omega) hmul (Nat.le_trans hB hb.size) ?_
 case c1 =>
  intro j u hj
  rw[Addr.add_lit,zc (zw _ _),Nat.zero_add]
  simpa using hj
 intro v' w' r1 r2 r3
 have hbg:Below B (w.alloc (.cells es.toArray e)) w':=(Below.refl _ _).grown r2 (Nat.le_trans hB hb.size) (zG hown1)
 exact h v' w' r1 (Exact.ahead hb (Exact.of r2 r3)) ((hb.mono hB).trans hbg)
def Row (w:World) (D:Nat->Prop) (e size:Nat) (v:Value) (n:Nat) (cs:List Value):Prop :=
 v=.slice none 0 0/\n=0/\cs=[]\/∃ g cap cur,v=.slice (some ⟨g,0,none⟩) n cap/\D g/\w.heap[g]?=some (.cells cur e (0,0))/\n<=cap/\cap<=maxLen/\cur.size=cap * size/\cur.toList.take (n * size)=cs
theorem Row.of_owns {w:World}{base e size n:Nat}{v:Value}{cs:List Value}(h:w.ownsRow base e size v n cs):Row w (fun b=>base<=b/\v.ownBlock=some b) e size v n cs:=by
 rcases h.2 with⟨rfl,rfl⟩|⟨g,cap,cur,rfl,q1,q2,q3,q4,q5,q6⟩
 ·exact Or.inl ⟨rfl,rfl,List.eq_nil_of_length_eq_zero (by simpa using h.1)⟩
 ·exact Or.inr ⟨g,cap,cur,rfl,⟨q1,rfl⟩,q2,q3,q4,q5,q6⟩
theorem yv {P:Program}{ops:Array Oper}{o:Oper}{a:Act}{w:World}{K:Act->World->Prop}{Q:Exit->Act->World->Prop}{E:Prop}
  (hg:o.guard=none) (s x:Operand) (t:TypeId) (hop:o.op=Op.call { callee:=Callee.builtin Builtin.append,args:=#[s,x],argTypes:=#[t,t] })
  (base:Nat) (e:TypeId) (i:TypeInfo) (z:Value) (size bytes:Nat) (ht:P.underlying t=some (.slice e)) (hi:P.info? e=some i) (hz:i.zero=some z)
  (hsize:i.size=size) (hby:i.bytes=bytes) (hzs:z.cells.size=size) (hsz:0<size)
  (v:Value) (n:Nat) (xs:List Value) (hs:a.eval s=v) (hown:w.ownsRow base e size v n xs)
  (ad:Addr) (m c:Nat) (news:List Value) (hx:a.eval x=.slice (some ad) m c) (hl:news.length=m * size) (hnews:∀ j u,news[j]?=some u->w.cell? (ad.add j)=some u) (h1:∀ u∈news,u.oneCell'=true)
  (h63:n+m<=maxLen) (hbytes:(n+m) * bytes<=140737488355328) (hbase:base<=w.heap.size)
  (hK:∀ v' w',w'.ownsRow base e size v' (n+m) (xs++news)->w.grownBy w' v.ownBlock->(∀ g,v'.ownBlock=some g->v.ownBlock=some g\/w.heap.size<=g)->K (a.put o.dst v') w') :
  if Region.wanted o (yielded ops a.tmps)=true then Oper.wp P o a w K Q else E:=by
 have hw:Region.wanted o (yielded ops a.tmps)=true:=by simp[Region.wanted,hg]
 rw[if_pos hw]
 obtain⟨v',w',r1,r2,r3,r4⟩:=kh (P:=P) w base t o.type e i z size bytes ht hi hz hsize hby hzs hsz v n xs hown ad m c news hl hnews h1 h63 hbytes hbase
 unfold Oper.wp
 simp[execOp,hop,resolve,invoke,builtin,hs,hx,r1,Result.andThen]
 exact hK v' w' r2 r3 r4
theorem zI {P:Program}{ops:Array Oper}{o:Oper}{a:Act}{w:World}{K:Act->World->Prop}{Q:Exit->Act->World->Prop}{E:Prop}(hg:o.guard=none) (h:Oper.wp P o a w K Q):if Region.wanted o (yielded ops a.tmps)=true then Oper.wp P o a w K Q else E:=by
 rw[if_pos (by simp[Region.wanted,hg])];exact h
theorem yE {w:World}{a:Addr}{v:Value}(h:w.cell? a=some v) (ob:Obj):(w.alloc ob).cell? a=some v:=(World.cell?_alloc_lt _ _ _ (World.block_lt_of_cell? _ _ h)).trans h
theorem zt (w:World):Below w.heap.size w w.drew:=(Below.refl _ _).drew
def Sl (w:World) (v:Value) (k n:Nat) (cs:List Value):Prop:=∃ a c,v=.slice a n c/\cs.length=n * k/\∀ j u,cs[j]?=some u->∃ b o,a=some ⟨b,o,none⟩/\w.cell? ⟨b,o+j,none⟩=some u
theorem Sl.below {w w':World}{v:Value}{k n:Nat}{cs:List Value}(h:Sl w v k n cs) (hb:Below w.heap.size w w'):Sl w' v k n cs:=by
 obtain⟨a,c,h1,h2,h3⟩:=h
 refine⟨a,c,h1,h2,fun j u hj=>?_⟩
 obtain⟨b,o,e,hc⟩:=h3 j u hj
 exact⟨b,o,e,(hb.cell (p:=⟨b,o+j,none⟩) (zi hc)).trans hc⟩
theorem kg {α:Type}{c:α->List Value}{k:Nat}(hc:∀ x,(c x).length=k) (l:List α):(cellsOf c l).length=l.length * k:=by
 induction l with
 | nil=>simp[cellsOf]
 | cons x l ih =>
  unfold cellsOf at ih ⊢
  rw[List.map_cons,List.flatten_cons,List.length_append,hc,ih,List.length_cons,Nat.add_mul];omega
theorem kO {α:Type}{c:α->List Value}{k:Nat}(hc:∀ x,(c x).length=k):∀(l:List α) (i j:Nat) (hi:i<l.length),j<k->(cellsOf c l)[i * k+j]?=(c l[i])[j]?:=by
 intro l
 induction l with
 | nil=>intro i j hi;simp at hi
 | cons x l ih =>
  intro i j hi hj
  have e:cellsOf c (x :: l)=c x++cellsOf c l:=rfl
  cases i with
  | zero =>
   rw[e,Nat.zero_mul,Nat.zero_add,List.getElem?_append_left (by rw[hc];exact hj)]
   rfl
  | succ i =>
   rw[e,List.getElem?_append_right (by rw[hc,Nat.add_mul];omega),hc,show (i+1) * k+j - k=i * k+j by rw[Nat.add_mul];omega,ih i j (by simpa using hi) hj]
   rfl
theorem Sl.at' {α:Type}{c:α->List Value}{k:Nat}(hc:∀ x,(c x).length=k) (hk:0<k) {w:World}{a:Option Addr}{cap n:Nat}{l:List α}(h:Sl w (.slice a n cap) k l.length (cellsOf c l)) (i:Nat) (hi:i<l.length) :
  ∃ b o,a=some ⟨b,o,none⟩/\b<w.heap.size/\∀ j u,(c l[i])[j]?=some u->w.cell? ⟨b,o+(i * k+j),none⟩=some u:=by
 obtain⟨a',c',h1,h2,h3⟩:=h
 cases h1
 have h0:∃ u,(c l[i])[0]?=some u:=⟨_,List.getElem?_eq_getElem (by rw[hc];exact hk)⟩
 obtain⟨u0,hu0⟩:=h0
 obtain⟨b,o,e,hc0⟩:=h3 (i * k+0) u0 (by rw[kO hc l i 0 hi hk];exact hu0)
 refine⟨b,o,e,zi hc0,fun j u hj=>?_⟩
 have hjk:j<k:=by rw[<-hc l[i]];exact(List.getElem?_eq_some_iff.1 hj).1
 obtain⟨b',o',e',hc'⟩:=h3 (i * k+j) u (by rw[kO hc l i j hi hjk];exact hj)
 rw[e]at e'
 cases e'
 exact hc'
theorem Row.sl {w:World}{D:Nat->Prop}{e k n:Nat}{v:Value}{cs:List Value}(h:Row w D e k v n cs):Sl w v k n cs:=by
 rcases h with⟨rfl,rfl,rfl⟩|⟨g,cap,cur,rfl,_,h3,h4,_,h6,h7⟩
 ·exact⟨_,_,rfl,by simp,fun j u hj=>by simp at hj⟩
 ·have hl:cs.length=n * k:=by rw[<-h7,List.length_take];simp;rw[h6];exact Nat.min_eq_left (Nat.mul_le_mul_right _ h4)
  refine⟨_,_,rfl,hl,fun j u hj=>⟨g,0,rfl,?_⟩⟩
  rw[zc h3,Nat.zero_add,<-Array.getElem?_toList,<-hj,<-h7,List.getElem?_take_of_lt]
  have:=(List.getElem?_eq_some_iff.1 hj).1
  omega
def RepN (w:World):List Ob.Us->List Value->Prop
 | [],cs=>cs=[]
 | u :: l,cs=>∃(nv:Value) (cs':List Value),cs=[.string (bs u.name),.string (bs u.need),nv]++cs'/\Sl w nv 1 u.names.length (cellsOf stC u.names)/\RepN w l cs'
theorem RepN.below {w w':World}(hb:Below w.heap.size w w'):∀(l:List Ob.Us) (cs:List Value),RepN w l cs->RepN w' l cs:=by
 intro l
 induction l with
 | nil=>intro cs h;exact h
 | cons c l ih =>
  intro cs h
  obtain⟨nv,cs',h1,h2,h3⟩:=h
  exact⟨nv,cs',h1,h2.below hb,ih cs' h3⟩
theorem RepN.get {w:World}:∀(l:List Ob.Us) (cs:List Value),RepN w l cs->∀(i:Nat) (hi:i<l.length),∃ na nc,cs[i * 3]?=some (.string (bs l[i].name))/\cs[i * 3+1]?=some (.string (bs l[i].need))/\cs[i * 3+2]?=some (.slice na l[i].names.length nc)/\Sl w (.slice na l[i].names.length nc) 1 l[i].names.length (cellsOf stC l[i].names):=by
 intro l
 induction l with
 | nil=>intro cs h i hi;simp at hi
 | cons c l ih =>
  intro cs h i hi
  obtain⟨nv,cs',rfl,h2,h3⟩:=h
  cases i with
  | zero =>
   obtain⟨na,nc,hv,_⟩:=id h2
   subst hv
   exact⟨na,nc,rfl,rfl,rfl,h2⟩
  | succ i =>
   obtain⟨na,nc,k0,k1,k2,k3⟩:=ih cs' h3 i (by simpa using hi)
   have e:∀ j,([Value.string (bs c.name),Value.string (bs c.need),nv]++cs')[(i+1) * 3+j]?=cs'[i * 3+j]?:=fun j=>by
    rw[List.getElem?_append_right (by simp;omega)]
    congr 1
    simp;omega
   exact⟨na,nc,(e 0).trans k0,(e 1).trans k1,(e 2).trans k2,k3⟩
structure OV (w:World) (b o:Nat) (O:Ob.O) (sa ua va pa na ca:Option Addr) (sc uc vc pc nc cc:Nat):Prop where
 c0:w.cell? ⟨b,o,none⟩=some (.string (bs O.name))
 c1:w.cell? ⟨b,o+1,none⟩=some (.slice sa O.syms.length sc)
 c2:w.cell? ⟨b,o+2,none⟩=some (.slice ua O.uses.length uc)
 c3:w.cell? ⟨b,o+3,none⟩=some (.slice va O.vars.length vc)
 c4:w.cell? ⟨b,o+4,none⟩=some (.slice pa O.procs.length pc)
 c5:w.cell? ⟨b,o+5,none⟩=some (.slice na O.names.length nc)
 c6:w.cell? ⟨b,o+6,none⟩=some (.slice ca O.code.length cc)
 s:Sl w (.slice sa O.syms.length sc) 3 O.syms.length (cellsOf smC O.syms)
 u:∃ ucs,RepN w O.uses ucs/\Sl w (.slice ua O.uses.length uc) 3 O.uses.length ucs
 v:Sl w (.slice va O.vars.length vc) 4 O.vars.length (cellsOf glC O.vars)
 p:Sl w (.slice pa O.procs.length pc) 3 O.procs.length (cellsOf enC O.procs)
 n:Sl w (.slice na O.names.length nc) 1 O.names.length (cellsOf stC O.names)
 c:Sl w (.slice ca O.code.length cc) 3 O.code.length (cellsOf inC O.code)
def OA (w:World) (b o:Nat) (O:Ob.O):Prop:=∃ sa ua va pa na ca sc uc vc pc nc cc,OV w b o O sa ua va pa na ca sc uc vc pc nc cc
theorem OV.below {w w':World}{b o:Nat}{O:Ob.O}{sa ua va pa na ca:Option Addr}{sc uc vc pc nc cc:Nat}(h:OV w b o O sa ua va pa na ca sc uc vc pc nc cc) (k:Below w.heap.size w w'):OV w' b o O sa ua va pa na ca sc uc vc pc nc cc:=by
 have hb:=zi h.c0
 have e:∀ j,w'.cell? ⟨b,j,none⟩=w.cell? ⟨b,j,none⟩:=fun j=>k.cell (p:=⟨b,j,none⟩) hb
 exact⟨(e _).trans h.c0,(e _).trans h.c1,(e _).trans h.c2,(e _).trans h.c3,(e _).trans h.c4,(e _).trans h.c5,(e _).trans h.c6,h.s.below k,let ⟨ucs,h1,h2⟩:=h.u;⟨ucs,RepN.below k _ _ h1,h2.below k⟩,h.v.below k,h.p.below k,h.n.below k,h.c.below k⟩
theorem OA.below {w w':World}{b o:Nat}{O:Ob.O}(h:OA w b o O) (k:Below w.heap.size w w'):OA w' b o O:=by
 obtain⟨sa,ua,va,pa,na,ca,sc,uc,vc,pc,nc,cc,h⟩:=h
 exact⟨sa,ua,va,pa,na,ca,sc,uc,vc,pc,nc,cc,h.below k⟩
theorem jg (s:Bs):(stC s).length=1:=rfl
theorem kI (s:Ob.Sm):(smC s).length=3:=rfl
theorem jH (s:Ob.Gl):(glC s).length=4:=rfl
theorem jK (s:Ob.En):(enC s).length=3:=rfl
theorem jn (s:Ob.In):(inC s).length=3:=rfl
end Go.Proofs.YtmnedfdffbbchaaGreatDoor.Jo
