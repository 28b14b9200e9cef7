import Derived.Test.YthnoedjbhbkdeaaGreatDoorKWg
import Derived.Test.YthnoedjbhbkdeaaGreatDoorKWb
import Derived.Lib.Hide
import Derived.Deep.Quiet
import Derived.Lib.QuietBelow
import Derived.Deep.CutRange
import Derived.Deep.DeepCutAuto
set_option maxRecDepth 100000
set_option maxHeartbeats 4000000
namespace Go.Proofs.YthnoedjbhbkdeaaGreatDoor
open Go.RowKit
open Tp (Tok hd tx at' stp X S G Pr)
theorem zT (w:World) (n:Nat) (a:Addr):(w.drewN n).cell? a=w.cell? a:=by
 by_cases h:a.block<w.heap.size
 ·exact(below_drewN (Below.refl w.heap.size w) n).cell (p:=a) h
 ·have hs:∀ W:World,¬a.block<W.heap.size->W.cell? a=none:=fun W hW=>by
   rcases hc:W.cell? a with _|u
   ·rfl
   ·exact absurd (World.block_lt_of_cell? _ _ hc) hW
  rw[hs w h,hs _ (by simpa using h)]
theorem Row.at' {w:World}{D:Nat->Prop}{e size:Nat}{a:Option Addr}{n c:Nat}{cs:List Value}(h:Row w D e size (.slice a n c) n cs) (i:Nat) (hi:i<n) :
  ∃ g:Nat,a=some ⟨g,0,none⟩/\g<w.heap.size/\n<=9223372036854775807/\∀ j,j<size->w.cell? ⟨g,i * size+j,none⟩=cs[i * size+j]?:=by
 rcases h with⟨q,q',_⟩|⟨g,cap,cur,q0,q1,q2,q3,q4,q5,q6⟩
 ·omega
 ·cases q0
  refine⟨g,rfl,zc q2,by unfold maxLen at q4;omega,fun j hj=>?_⟩
  have h1:i * size+j<n * size:=by
   have:(i+1) * size<=n * size:=Nat.mul_le_mul_right _ hi
   rw[Nat.succ_mul]at this
   omega
  rw[za q2,<-Array.getElem?_toList,<-q6,List.getElem?_take_of_lt h1]
theorem Row.step {w w':World}{D:Nat->Prop}{e size:Nat}{v:Value}{n:Nat}{cs:List Value}(h:Row w D e size v n cs) (k:Below w.heap.size w w'):Row w' D e size v n cs:=h.mono fun b hb hl=>⟨k.block b hl,hb⟩
theorem Row.long {w:World}{D:Nat->Prop}{e size:Nat}{a:Option Addr}{n c:Nat}{cs:List Value}(h:Row w D e size (.slice a n c) n cs):n<=9223372036854775807:=by
 rcases h with⟨q,q',_⟩|⟨g,cap,cur,q0,q1,q2,q3,q4,q5,q6⟩
 ·omega
 ·unfold maxLen at q4;omega
theorem strs_at (l:List (List UInt8)) (i:Nat) (h:i<l.length):(strs l)[i]?=some (.string (bs l[i])):=by
 simp[strs,h]
theorem kf {w:World}{D:Nat->Prop}{a b:Option Addr}{c d:Nat}{l:List (List UInt8)}(hA:Row w D 9 1 (.slice a l.length c) l.length (strs l)) (hB:Row w D 9 1 (.slice b l.length d) l.length (strs l)) :
  Calls Tryz.prog 18 #[.slice a l.length c,.slice b l.length d] w fun e w'=>e=.returned (.bool true)/\∃ m,w'=w.drewN m:=by
 have hn':(l.length:Int)<=9223372036854775807:=by have:=hA.long;omega
 have HA:=zh hA
 have HB:=zh hB
 clear hA hB
 go_enter Tryz.func18,Tryz.ntmps18
 go_wp2_with fail
 go_loopg [5] l.length (fun k vi wr=>∃ i n:Nat,i<=l.length/\k=l.length - i/\vi=.int .i64 (i:Int)/\wr=w.drewN n)
 case atStart=>exact⟨0,0,by omega,by omega,rfl,rfl⟩
 case round =>
  obtain⟨i,n,hid,hk,rfl,hwr⟩:=hrel
  by_cases hlt:i<l.length
  ·have hlt':(i:Int)<(l.length:Int):=by omega
   obtain⟨g,rfl,hgl,_,hcell⟩:=HA.out.at' i hlt
   obtain⟨g2,rfl,hgl2,_,hcell2⟩:=HB.out.at' i hlt
   have e0:(w.drewN n).cell? ⟨g,i,none⟩=some (.string (bs l[i])):=by have:=hcell 0 (by omega);rw[Nat.mul_one,Nat.add_zero,strs_at l i hlt]at this;exact(zT w n _).trans this
   have d0:(w.drewN n).cell? ⟨g2,i,none⟩=some (.string (bs l[i])):=by have:=hcell2 0 (by omega);rw[Nat.mul_one,Nat.add_zero,strs_at l i hlt]at this;exact(zT w n _).trans this
   rw[<-hwr]at e0 d0
   have HWR:=zh hwr
   clear hwr
   have hz1:g<wr.heap.size:=zi e0
   have hz2:g2<wr.heap.size:=zi d0
   clear hcell hcell2
   generalize l[i]=x at *
   go_wp2_with fail
   go_quiet (fail)
   have HW2:Hid (wr.drewN nq=w.drewN (n+nq)):=by show _=_;rw[HWR.out,World.drewN_drewN]
   go_wp2_with fail
   go_roundg (l.length - (i+1))
   case measure=>omega
   case rel=>exact⟨i+1,n+nq,by omega,rfl,by go_num,HW2.out⟩
  ·have hlt':¬(i:Int)<(l.length:Int):=by omega
   have HWR:=zh hwr
   clear hwr
   go_wp2_with fail
   go_ret
   exact⟨rfl,n,HWR.out⟩
theorem jq (l:List G) (i:Nat) (h:i<l.length) (j:Nat) (hj:j<4):(gcs l)[i * 4+j]?=[Value.string (bs l[i].name),.int .i64 (l[i].pos:Int),.int .i64 (l[i].len:Int),.bool l[i].seen][j]?:=by
 induction l generalizing i with
 | nil=>exact absurd h (by simp)
 | cons g l ih =>
  have e:gcs (g :: l)=[Value.string (bs g.name),.int .i64 (g.pos:Int),.int .i64 (g.len:Int),.bool g.seen]++gcs l:=by simp[gcs,gcells]
  rw[e]
  cases i with
  | zero=>rw[List.getElem?_append_left (by simp;omega)];simp
  | succ i =>
   rw[List.getElem?_append_right (by simp;omega)]
   have:=ih i (by simpa using h)
   simp only [List.getElem_cons_succ]
   rw[<-this]
   congr 1
   simp;omega
theorem vY {w:World}{D:Nat->Prop}{a b:Option Addr}{c d:Nat}{l:List G}(hA:Row w D 71 4 (.slice a l.length c) l.length (gcs l)) (hB:Row w D 71 4 (.slice b l.length d) l.length (gcs l)) :
  Calls Tryz.prog 46 #[.slice a l.length c,.slice b l.length d] w fun e w'=>e=.returned (.bool true)/\∃ m,w'=w.drewN m:=by
 have hn':(l.length:Int)<=9223372036854775807:=by have:=hA.long;omega
 have HA:=zh hA
 have HB:=zh hB
 clear hA hB
 go_enter Tryz.func46,Tryz.ntmps46
 go_wp2_with fail
 go_loopg [5] l.length (fun k vi wr=>∃ i n:Nat,i<=l.length/\k=l.length - i/\vi=.int .i64 (i:Int)/\wr=w.drewN n)
 case atStart=>exact⟨0,0,by omega,by omega,rfl,rfl⟩
 case round =>
  obtain⟨i,n,hid,hk,rfl,hwr⟩:=hrel
  by_cases hlt:i<l.length
  ·have hlt':(i:Int)<(l.length:Int):=by omega
   obtain⟨g,rfl,hgl,_,hcell⟩:=HA.out.at' i hlt
   obtain⟨g2,rfl,hgl2,_,hcell2⟩:=HB.out.at' i hlt
   have e0:(w.drewN n).cell? ⟨g,i * 4,none⟩=some (.string (bs l[i].name)):=(zT w n _).trans ((hcell 0 (by omega)).trans (jq l i hlt 0 (by omega)))
   have e1:(w.drewN n).cell? ⟨g,i * 4+1,none⟩=some (.int .i64 (l[i].pos:Int)):=(zT w n _).trans ((hcell 1 (by omega)).trans (jq l i hlt 1 (by omega)))
   have e2:(w.drewN n).cell? ⟨g,i * 4+2,none⟩=some (.int .i64 (l[i].len:Int)):=(zT w n _).trans ((hcell 2 (by omega)).trans (jq l i hlt 2 (by omega)))
   have e3:(w.drewN n).cell? ⟨g,i * 4+3,none⟩=some (.bool l[i].seen):=(zT w n _).trans ((hcell 3 (by omega)).trans (jq l i hlt 3 (by omega)))
   have d0:(w.drewN n).cell? ⟨g2,i * 4,none⟩=some (.string (bs l[i].name)):=(zT w n _).trans ((hcell2 0 (by omega)).trans (jq l i hlt 0 (by omega)))
   have d1:(w.drewN n).cell? ⟨g2,i * 4+1,none⟩=some (.int .i64 (l[i].pos:Int)):=(zT w n _).trans ((hcell2 1 (by omega)).trans (jq l i hlt 1 (by omega)))
   have d2:(w.drewN n).cell? ⟨g2,i * 4+2,none⟩=some (.int .i64 (l[i].len:Int)):=(zT w n _).trans ((hcell2 2 (by omega)).trans (jq l i hlt 2 (by omega)))
   have d3:(w.drewN n).cell? ⟨g2,i * 4+3,none⟩=some (.bool l[i].seen):=(zT w n _).trans ((hcell2 3 (by omega)).trans (jq l i hlt 3 (by omega)))
   rw[<-hwr]at e0 d0 e1 d1 e2 d2 e3 d3
   have HWR:=zh hwr
   clear hwr
   have hz1:g<wr.heap.size:=zi e0
   have hz2:g2<wr.heap.size:=zi d0
   clear hcell hcell2
   generalize l[i]=x at *
   go_wp2_with fail
   go_quiet (fail)
   have HW2:Hid (wr.drewN nq=w.drewN (n+nq)):=by show _=_;rw[HWR.out,World.drewN_drewN]
   go_wp2_with fail
   go_roundg (l.length - (i+1))
   case measure=>omega
   case rel=>exact⟨i+1,n+nq,by omega,rfl,by go_num,HW2.out⟩
  ·have hlt':¬(i:Int)<(l.length:Int):=by omega
   have HWR:=zh hwr
   clear hwr
   go_wp2_with fail
   go_ret
   exact⟨rfl,n,HWR.out⟩
theorem RepL.step' {w w':World}{D:Nat->Prop}{l:List X}{vs:List Value}(h:RepL w D l vs) (k:Below w.heap.size w w'):RepL w' D l vs :=
 RepL.mono (fun b hb hl=>⟨k.block b hl,hb⟩) _ _ _ zn h
theorem RepL.nth {w:World}{D:Nat->Prop}:∀(l:List X) (vs:List Value),RepL w D l vs->∀ i (h:i<l.length),∃ b,vs[i]?=some (.pointer (some ⟨b,0,none⟩))/\RepL w D [l[i]] [.pointer (some ⟨b,0,none⟩)]:=by
 intro l
 induction l with
 | nil=>intro vs _ i h;simp at h
 | cons x l ih =>
  intro vs h i hi
  obtain⟨code,pos,n,m,nm,op,le,ri,ar⟩:=x
  rw[RepL]at h
  obtain⟨b,av,ls,rs,gs,vs',h1,h2,h3,h4,h5,h6,h7,h8,h9,h10⟩:=h
  subst h1
  cases i with
  | zero =>
   refine⟨b,rfl,?_⟩
   show RepL w D [⟨code,pos,n,m,nm,op,le,ri,ar⟩] _
   rw[RepL]
   exact⟨b,av,ls,rs,gs,[],rfl,h2,h3,h4,h5,h6,h7,h8,h9,by rw[RepL]⟩
  | succ i =>
   obtain⟨b',q1,q2⟩:=ih vs' h10 i (by simpa using hi)
   exact⟨b',by simpa using q1,by simpa using q2⟩
def ArgsAt (w:World) (D:Nat->Prop) (av:Value) (gs:List Value):Prop:=gs=[]/\av=.slice none 0 0\/∃ g cap cur,av=.slice (some ⟨g,0,none⟩) gs.length cap/\D g/\w.heap[g]?=some (.cells cur 94 (0,0))/\gs.length<=cap/\cap<=maxLen/\cur.size=cap/\cur.toList.take gs.length=gs
theorem ArgsAt.shape {w:World}{D:Nat->Prop}{av:Value}{gs:List Value}(h:ArgsAt w D av gs):gs.length<=9223372036854775807/\∃ a c,av=.slice a gs.length c/\∀ i v,gs[i]?=some v->∃ g:Nat,a=some ⟨g,0,none⟩/\g<w.heap.size/\w.cell? ⟨g,i,none⟩=some v:=by
 rcases h with⟨rfl,rfl⟩|⟨g,cap,cur,rfl,h1,h2,h3,h4,h5,h6⟩
 ·exact⟨by simp,none,0,rfl,fun i v h=>by simp at h⟩
 ·refine⟨by unfold maxLen at h4;omega,_,_,rfl,fun i v hv=>⟨g,rfl,zc h2,?_⟩⟩
  have hi:i<gs.length:=by rw[List.getElem?_eq_some_iff]at hv;exact hv.1
  rw[za h2,<-Array.getElem?_toList,<-hv]
  conv=>rhs;rw[<-h6]
  rw[List.getElem?_take_of_lt hi]
theorem RepL.headP {w:World}{D:Nat->Prop}{l:List X}{vs:List Value}(h:RepL w D l vs):∃ a,vs.headD (.pointer none)=.pointer a:=by
 cases l with
 | nil=>rw[RepL]at h;subst h;exact⟨none,rfl⟩
 | cons x l =>
  obtain⟨code,pos,n,m,nm,op,le,ri,ar⟩:=x
  rw[RepL]at h
  obtain⟨b,av,ls,rs,gs,vs',h1,_⟩:=h
  subst h1
  exact⟨_,rfl⟩
theorem size_one:∀(l:List X) (i:Nat) (h:i<l.length),SizeOf.sizeOf [l[i]]<=SizeOf.sizeOf l:=by
 intro l
 induction l with
 | nil=>intro i h;simp at h
 | cons x l ih =>
  intro i h
  cases i with
  | zero =>
   have:1<=SizeOf.sizeOf l:=by cases l <;> simp only [List.nil.sizeOf_spec,List.cons.sizeOf_spec] <;> omega
   simp only [List.getElem_cons_zero,List.cons.sizeOf_spec,List.nil.sizeOf_spec]
   omega
  | succ i =>
   have:=ih i (by simpa using h)
   simp only [List.getElem_cons_succ,List.cons.sizeOf_spec]at this ⊢
   omega
theorem RepL.unit {w:World}{D:Nat->Prop}{code pos n:Nat}{md nm op:List UInt8}{le ri ar:List X}{b:Nat}(h:RepL w D [⟨code,pos,n,md,nm,op,le,ri,ar⟩] [.pointer (some ⟨b,0,none⟩)]):∃(av:Value) (ls rs gs:List Value),
  w.heap[b]?=some (.cells #[.int .i64 (code:Int),.int .i64 (pos:Int),.int .i64 (n:Int),.string (bs md),.string (bs nm),.string (bs op),ls.headD (.pointer none),rs.headD (.pointer none),av] 111 (0,0))/\RepL w D le ls/\RepL w D ri rs/\RepL w D ar gs/\ArgsAt w D av gs:=by
 rw[RepL]at h
 obtain⟨b',av,ls,rs,gs,vs',h1,h2,h3,h4,h5,h6,h7,h8,h9,h10⟩:=h
 cases h1
 exact⟨av,ls,rs,gs,h3,h4,h6,h8,h9⟩
theorem RepL.single {w:World}{D:Nat->Prop}{z:X}{ls:List Value}(h:RepL w D [z] ls):∃ b:Nat,ls=[.pointer (some ⟨b,0,none⟩)]:=by
 obtain⟨code,pos,n,md,nm,op,le,ri,ar⟩:=z
 rw[RepL]at h
 obtain⟨b',av,l2,rs,gs,vs',h1,h2,h3,h4,h5,h6,h7,h8,h9,h10⟩:=h
 rw[RepL]at h10
 subst h10
 exact⟨b',h1⟩
end Go.Proofs.YthnoedjbhbkdeaaGreatDoor
namespace Go
def setN (L:Array Bool) (k:Nat):Nat->Array Bool
 | 0=>L
 | n+1=>setN (L.setIfInBounds k true) (k+1) n
def lexPart (md:Region.Mode) (ops:Array Oper):Nat->Nat->Array Bool->Bool
 | 0,_,_=>true
 | n+1,k,L=>(Region.ready md ops L).contains k && Region.free md ops L k && lexPart md ops n (k+1) (L.setIfInBounds k true)
theorem vA {md:Region.Mode}{ops:Array Oper}:∀(n m k:Nat) (L:Array Bool),lexPart md ops n k L=true->Region.lexFrom md ops m (k+n) (setN L k n)=true->Region.lexFrom md ops (n+m) k L=true:=by
 intro n
 induction n with
 | zero=>intro m k L _ h;simpa[setN] using h
 | succ n ih =>
  intro m k L h1 h2
  rw[lexPart,Bool.and_eq_true]at h1
  rw[show n+1+m=(n+m)+1 by omega,Region.lexFrom,Bool.and_eq_true]
  refine⟨h1.1,ih m (k+1) _ h1.2 ?_⟩
  rw[show k+1+n=k+(n+1) by omega]
  exact h2
def lexParts (md:Region.Mode) (ops:Array Oper):List Nat->Nat->Array Bool->Prop
 | [],k,L=>Region.lexFrom md ops 0 k L=true
 | n :: ns,k,L=>lexPart md ops n k L=true/\lexParts md ops ns (k+n) (setN L k n)
theorem xF {md:Region.Mode}{ops:Array Oper}:∀(ns:List Nat) (k:Nat) (L:Array Bool),lexParts md ops ns k L->Region.lexFrom md ops ns.sum k L=true:=by
 intro ns
 induction ns with
 | nil=>intro k L h;exact h
 | cons n ns ih =>
  intro k L h
  rw[List.sum_cons]
  exact vA n ns.sum k L h.1 (ih _ _ h.2)
theorem lexB_parts {md:Region.Mode}{ops:Array Oper}(ns:List Nat) (h0:Region.noSelect ops=true) (hs:ops.size=ns.sum) (h:lexParts md ops ns 0 (Array.replicate ops.size false)):Region.lexB md ops=true:=by
 rw[Region.lexB,Bool.and_eq_true]
 refine⟨h0,?_⟩
 rw[hs]
 rw[hs]at h
 exact xF ns 0 _ h
end Go
namespace Go.Proofs.YthnoedjbhbkdeaaGreatDoor
open Go.RowKit
open Tp (Tok hd tx at' stp X S G Pr)
theorem xV (w:World):Calls Tryz.prog 101 #[.pointer none,.pointer none] w fun e w'=>e=.returned (.bool true)/\∃ m,w'=w.drewN m:=by
 go_enter Tryz.func101,Tryz.ntmps101
 go_wp2_with fail
 go_ret
 exact⟨rfl,0,rfl⟩
theorem PQ1:Tryz.prog.follows .mixedOrders=true:=by kernel_rfl
theorem xU {w:World}{b b2:Nat}{code pos n:Int}{md nm op:ByteArray}{pl pr pl2 pr2 aa a2:Option Addr}{an ac c2:Nat}
  (h1:w.heap[b]?=some (.cells #[.int .i64 code,.int .i64 pos,.int .i64 n,.string md,.string nm,.string op,.pointer pl,.pointer pr,.slice aa an ac] 111 (0,0)))
  (h2:w.heap[b2]?=some (.cells #[.int .i64 code,.int .i64 pos,.int .i64 n,.string md,.string nm,.string op,.pointer pl2,.pointer pr2,.slice a2 an c2] 111 (0,0)))
  (han:an<=9223372036854775807)
  (hL:∀ k,Calls Tryz.prog 101 #[.pointer pl,.pointer pl2] (w.drewN k) fun e w'=>e=.returned (.bool true)/\∃ m,w'=(w.drewN k).drewN m)
  (hR:∀ k,Calls Tryz.prog 101 #[.pointer pr,.pointer pr2] (w.drewN k) fun e w'=>e=.returned (.bool true)/\∃ m,w'=(w.drewN k).drewN m)
  (hG:∀ i,i<an->∃(g g2:Nat) (v u:Option Addr),aa=some ⟨g,0,none⟩/\a2=some ⟨g2,0,none⟩/\w.cell? ⟨g,i,none⟩=some (.pointer v)/\w.cell? ⟨g2,i,none⟩=some (.pointer u)/\∀ k,Calls Tryz.prog 101 #[.pointer v,.pointer u] (w.drewN k) fun e w'=>e=.returned (.bool true)/\∃ m,w'=(w.drewN k).drewN m) :
  Calls Tryz.prog 101 #[.pointer (some ⟨b,0,none⟩),.pointer (some ⟨b2,0,none⟩)] w fun e w'=>e=.returned (.bool true)/\∃ m,w'=w.drewN m:=by
 have hn':(an:Int)<=9223372036854775807:=by omega
 have HL:=zh hL
 have HR:=zh hR
 have HG:=zh hG
 have e0:w.cell? ⟨b,0,none⟩=some (.int .i64 code):=za h1
 have e1:w.cell? ⟨b,1,none⟩=some (.int .i64 pos):=za h1
 have e2:w.cell? ⟨b,2,none⟩=some (.int .i64 n):=za h1
 have e3:w.cell? ⟨b,3,none⟩=some (.string md):=za h1
 have e4:w.cell? ⟨b,4,none⟩=some (.string nm):=za h1
 have e5:w.cell? ⟨b,5,none⟩=some (.string op):=za h1
 have e6:w.cell? ⟨b,6,none⟩=some (.pointer pl):=za h1
 have e7:w.cell? ⟨b,7,none⟩=some (.pointer pr):=za h1
 have e8:w.cell? ⟨b,8,none⟩=some (.slice aa an ac):=za h1
 have d0:w.cell? ⟨b2,0,none⟩=some (.int .i64 code):=za h2
 have d1:w.cell? ⟨b2,1,none⟩=some (.int .i64 pos):=za h2
 have d2:w.cell? ⟨b2,2,none⟩=some (.int .i64 n):=za h2
 have d3:w.cell? ⟨b2,3,none⟩=some (.string md):=za h2
 have d4:w.cell? ⟨b2,4,none⟩=some (.string nm):=za h2
 have d5:w.cell? ⟨b2,5,none⟩=some (.string op):=za h2
 have d6:w.cell? ⟨b2,6,none⟩=some (.pointer pl2):=za h2
 have d7:w.cell? ⟨b2,7,none⟩=some (.pointer pr2):=za h2
 have d8:w.cell? ⟨b2,8,none⟩=some (.slice a2 an c2):=za h2
 have hl1:=zc h1
 have hl2:=zc h2
 have HK8:=zh e8
 have HK8':=zh d8
 clear h1 h2 hL hR hG
 go_enter Tryz.func101,Tryz.ntmps101
 go_wp2_with fail
 refine wp_region_quiet_lit ?q1 ?q2 ?_
 case q1=>exact PQ1
 case q2 =>
  refine lexB_parts [17,17,17,17,17,16] (by kernel_rfl) (by kernel_rfl) ⟨?_,?_,?_,?_,?_,?_,(show Region.lexFrom _ _ 0 _ _=true from ?_)⟩
  all_goals (as_aux_lemma=>kernel_rfl)
 simp only [List.append_eq,List.cons_append,List.nil_append]
 iterate 101 (go_big_quiet_step (first|(go_at_call 101;with_reducible exact Calls.quiet_of (HL.out _))|(go_at_call 101;with_reducible exact Calls.quiet_of (HR.out _))))
 refine wpQuiet_nil ?_
 intro _ hw'
 obtain⟨nz,hw''⟩:=hw'
 subst hw''
 have c8:(w.drewN nz).cell? ⟨b,8,none⟩=some (.slice aa an ac):=(zT w nz _).trans HK8.out
 have hl8:b<(w.drewN nz).heap.size:=zi c8
 clear e0 e1 e2 e3 e4 e5 e6 e7 e8 d0 d1 d2 d3 d4 d5 d6 d7 d8 hl1 hl2 HL HR
 go_wp2_with fail
 clear c8 hl8
 go_loopg [5] an (fun k vi wr=>∃ i n:Nat,i<=an/\k=an - i/\vi=.int .i64 (i:Int)/\wr=w.drewN n)
 case atStart=>exact⟨0,nz,by omega,by omega,rfl,rfl⟩
 case round =>
  obtain⟨i,n,hid,hk,rfl,hwr⟩:=hrel
  have k8:(w.drewN n).cell? ⟨b,8,none⟩=some (.slice aa an ac):=(zT w n _).trans HK8.out
  have k8':(w.drewN n).cell? ⟨b2,8,none⟩=some (.slice a2 an c2):=(zT w n _).trans HK8'.out
  rw[<-hwr]at k8 k8'
  have hlb:b<wr.heap.size:=zi k8
  have hlb2:b2<wr.heap.size:=zi k8'
  have HWR:=zh hwr
  clear hwr
  by_cases hlt:i<an
  ·have hlt':(i:Int)<(an:Int):=by omega
   obtain⟨g,g2,v,u,rfl,rfl,c1,c2',hC⟩:=HG.out i hlt
   have e0:wr.cell? ⟨g,i,none⟩=some (.pointer v):=by rw[HWR.out];exact(zT w n _).trans c1
   have d0:wr.cell? ⟨g2,i,none⟩=some (.pointer u):=by rw[HWR.out];exact(zT w n _).trans c2'
   have HC:Hid (∀ k,Calls Tryz.prog 101 #[.pointer v,.pointer u] (wr.drewN k) fun e w'=>e=.returned (.bool true)/\∃ m,w'=(wr.drewN k).drewN m):=fun k=>by rw[HWR.out,World.drewN_drewN];exact hC _
   have hz1:g<wr.heap.size:=zi e0
   have hz2:g2<wr.heap.size:=zi d0
   clear c1 c2' hC
   go_wp2_with fail
   go_quiet ((go_at_call 101;exact Calls.quiet_of (HC.out _)))
   have HW2:Hid (wr.drewN nq=w.drewN (n+nq)):=by show _=_;rw[HWR.out,World.drewN_drewN]
   go_wp2_with fail
   go_roundg (an - (i+1))
   case measure=>omega
   case rel=>exact⟨i+1,n+nq,by omega,rfl,by go_num,HW2.out⟩
  ·have hlt':¬(i:Int)<(an:Int):=by omega
   go_wp2_with fail
   go_ret
   exact⟨rfl,n,HWR.out⟩
theorem jp:∀(N:Nat) (l:List X) (w:World) (D D2:Nat->Prop) (vs us:List Value),SizeOf.sizeOf l<=N->RepL w D l vs->RepL w D2 l us ->
  Calls Tryz.prog 101 #[vs.headD (.pointer none),us.headD (.pointer none)] w fun e w'=>e=.returned (.bool true)/\∃ m,w'=w.drewN m:=by
 intro N
 induction N with
 | zero=>intro l w D D2 vs us hl;cases l <;> simp at hl <;> omega
 | succ N ih =>
  intro l w D D2 vs us hl h k
  cases l with
  | nil =>
   rw[RepL]at h k
   subst h k
   exact xV w
  | cons x xs =>
   obtain⟨code,pos,n,md,nm,op,le,ri,ar⟩:=x
   rw[RepL]at h k
   obtain⟨b,av,ls,rs,gs,vs',h1,h2,h3,h4,h5,h6,h7,h8,h9,h10⟩:=h
   obtain⟨b',av',ls',rs',gs',us',k1,k2,k3,k4,k5,k6,k7,k8,k9,k10⟩:=k
   subst h1 k1
   have hgl:=RepL.len _ _ h8
   have kgl:=RepL.len _ _ k8
   obtain⟨hga,aa,ac,rfl,hgc⟩:=ArgsAt.shape (show ArgsAt w D av gs from h9)
   obtain⟨_,a2,c2,rfl,kgc⟩:=ArgsAt.shape (show ArgsAt w D2 av' gs' from k9)
   rw[hgl]at hga h3
   rw[kgl]at k3
   obtain⟨pl,epl⟩:=RepL.headP h4
   obtain⟨pr,epr⟩:=RepL.headP h6
   obtain⟨pl2,epl2⟩:=RepL.headP k4
   obtain⟨pr2,epr2⟩:=RepL.headP k6
   rw[epl,epr]at h3
   rw[epl2,epr2]at k3
   have hsz:SizeOf.sizeOf le<=N/\SizeOf.sizeOf ri<=N/\SizeOf.sizeOf ar<=N:=by
    simp only [List.cons.sizeOf_spec,X.mk.sizeOf_spec]at hl
    omega
   refine xU h3 k3 hga (fun q=>epl ▸ epl2 ▸ ih le _ D D2 ls ls' hsz.1 (h4.step' (below_drewN (Below.refl _ w) q)) (k4.step' (below_drewN (Below.refl _ w) q))) (fun q=>epr ▸ epr2 ▸ ih ri _ D D2 rs rs' hsz.2.1 (h6.step' (below_drewN (Below.refl _ w) q)) (k6.step' (below_drewN (Below.refl _ w) q))) (fun i hi=>?_)
   obtain⟨y,y1,y2⟩:=RepL.nth _ _ h8 i hi
   obtain⟨z,z1,z2⟩:=RepL.nth _ _ k8 i hi
   obtain⟨g,rfl,_,c1⟩:=hgc i _ y1
   obtain⟨g2,rfl,_,c2'⟩:=kgc i _ z1
   exact⟨g,g2,_,_,rfl,rfl,c1,c2',fun q=>ih [ar[i]] _ D D2 [_] [_] (Nat.le_trans (size_one ar i hi) hsz.2.2) (y2.step' (below_drewN (Below.refl _ w) q)) (z2.step' (below_drewN (Below.refl _ w) q))⟩
end Go.Proofs.YthnoedjbhbkdeaaGreatDoor
namespace Go.Proofs.YthnoedjbhbkdeaaGreatDoor
open Go.RowKit Go.Sort
open Tp (Tok hd tx at' stp X S G Pr)
theorem RepS.step' {w w':World}{D:Nat->Prop}{l:List S}{cs:List Value}(h:RepS w D l cs) (k:Below w.heap.size w w'):RepS w' D l cs:=h.mono' (fun b hb hl=>⟨k.block b hl,hb⟩)
theorem OwnS.step' {w w':World}{D:Nat->Prop}{v:Value}{n:Nat}{cs:List Value}(h:OwnS w D v n cs) (k:Below w.heap.size w w'):OwnS w' D v n cs:=h.mono (fun b hb hl=>⟨k.block b hl,hb⟩)
theorem RepS.nth {w:World}{D:Nat->Prop}:∀(l:List S) (cs:List Value),RepS w D l cs->∀ i (h:i<l.length),∃(tv ev:Value) (ls vs tcs ecs:List Value),
  (∀ j,j<7->cs[i * 7+j]?=[.int .i64 (l[i].code:Int),.int .i64 (l[i].pos:Int),.string (bs l[i].name),ls.headD (.pointer none),vs.headD (.pointer none),tv,ev][j]?)/\RepL w D l[i].index ls/\ls.length<=1/\RepL w D l[i].value vs/\vs.length<=1/\RepS w D l[i].thn tcs/\OwnS w D tv l[i].thn.length tcs/\RepS w D l[i].els ecs/\OwnS w D ev l[i].els.length ecs:=by
 intro l
 induction l with
 | nil=>intro cs _ i h;simp at h
 | cons x l ih =>
  intro cs h i hi
  obtain⟨code',pos',nm',ix',vl',th',el'⟩:=x
  rw[RepS]at h
  obtain⟨tv,ev,ls,vs,tcs,ecs,cs',h1,h2,h3,h4,h5,h6,h7,h8,h9,h10⟩:=h
  subst h1
  cases i with
  | zero =>
   refine⟨tv,ev,ls,vs,tcs,ecs,fun j hj=>?_,h2,h3,h4,h5,h6,h7,h8,h9⟩
   rw[Nat.zero_mul,Nat.zero_add,List.getElem?_append_left (by simpa using hj)]
   rfl
  | succ i =>
   obtain⟨tv',ev',ls',vs',tcs',ecs',q1,q2⟩:=ih cs' h10 i (by simpa using hi)
   refine⟨tv',ev',ls',vs',tcs',ecs',fun j hj=>?_,q2⟩
   rw[List.getElem?_append_right (by simp;omega)]
   have:(i+1) * 7+j - [Value.int .i64 (code':Int),.int .i64 (pos':Int),.string (bs nm'),ls.headD (.pointer none),vs.headD (.pointer none),tv,ev].length=i * 7+j:=by simp;omega
   rw[this]
   exact q1 j hj
theorem OwnS.at' {w:World}{D:Nat->Prop}{a:Option Addr}{n c:Nat}{cs:List Value}(h:OwnS w D (.slice a n c) n cs) (i:Nat) (hi:i<n) :
  ∃ g:Nat,a=some ⟨g,0,none⟩/\g<w.heap.size/\∀ j,j<7->w.cell? ⟨g,i * 7+j,none⟩=cs[i * 7+j]?:=by
 rcases h with⟨q,q'⟩|⟨g,cap,cur,q0,q1,q2,q3,q4,q5,q6⟩
 ·omega
 ·cases q0
  refine⟨g,rfl,zc q2,fun j hj=>?_⟩
  rw[za q2,<-Array.getElem?_toList,<-q6,List.getElem?_take_of_lt (by omega)]
theorem OwnS.long {w:World}{D:Nat->Prop}{v:Value}{n:Nat}{cs:List Value}(h:OwnS w D v n cs):n<=9223372036854775807/\∃ a c,v=.slice a n c:=by
 rcases h with⟨rfl,rfl⟩|⟨g,cap,cur,rfl,q1,q2,q3,q4,q5,q6⟩
 ·exact⟨by omega,none,0,rfl⟩
 ·exact⟨by unfold maxLen at q4;omega,_,_,rfl⟩
theorem xr (w:World) (c1 c2:Array Value) (t:Nat):((w.alloc (.cells c1 t)).alloc (.cells c2 t)).drew.heap[w.heap.size]?=some (.cells c1 t (0,0))/\((w.alloc (.cells c1 t)).alloc (.cells c2 t)).drew.heap[w.heap.size+1]?=some (.cells c2 t (0,0))/\Below w.heap.size w ((w.alloc (.cells c1 t)).alloc (.cells c2 t)).drew:=by
 refine⟨?_,?_,(((zb _ _).alloc (by simp) _)).drew⟩
 ·exact(Below.heap_alloc (w.alloc (.cells c1 t)) (.cells c2 t) w.heap.size (by simp)).trans (zu w (.cells c1 t))
 ·show ((w.alloc (.cells c1 t)).alloc (.cells c2 t)).heap[w.heap.size+1]?=_
  have:=zu (w.alloc (.cells c1 t)) (.cells c2 t)
  simpa using this
def Pair (w:World) (aa a2:Option Addr) (i:Nat):Prop:=∃(g g2:Nat) (code pos:Int) (nm:ByteArray) (ia va ta ea ia2 va2 ta2 ea2:Option Addr) (tn tc en ec tc2 ec2:Nat),aa=some ⟨g,0,none⟩/\a2=some ⟨g2,0,none⟩/\g<w.heap.size/\g2<w.heap.size /\
 (∀ j,j<7->w.cell? ⟨g,i * 7+j,none⟩=[.int .i64 code,.int .i64 pos,.string nm,.pointer ia,.pointer va,.slice ta tn tc,.slice ea en ec][j]?)/\(∀ j,j<7->w.cell? ⟨g2,i * 7+j,none⟩=[.int .i64 code,.int .i64 pos,.string nm,.pointer ia2,.pointer va2,.slice ta2 tn tc2,.slice ea2 en ec2][j]?) /\
 ∀ W,Below w.heap.size w W->Calls Tryz.prog 101 #[.pointer ia,.pointer ia2] W (fun e w'=>e=.returned (.bool true)/\Below W.heap.size W w')/\Calls Tryz.prog 101 #[.pointer va,.pointer va2] W (fun e w'=>e=.returned (.bool true)/\Below W.heap.size W w') /\
  Calls Tryz.prog 47 #[.slice ta tn tc,.slice ta2 tn tc2] W (fun e w'=>e=.returned (.bool true)/\Below W.heap.size W w')/\Calls Tryz.prog 47 #[.slice ea en ec,.slice ea2 en ec2] W (fun e w'=>e=.returned (.bool true)/\Below W.heap.size W w')
theorem xw {w:World}{aa a2:Option Addr}{an ac c2:Nat}(han:an<=9223372036854775807) (hP:∀ i,i<an->Pair w aa a2 i) :
  Calls Tryz.prog 47 #[.slice aa an ac,.slice a2 an c2] w fun e w'=>e=.returned (.bool true)/\Below w.heap.size w w':=by
 have hn':(an:Int)<=9223372036854775807:=by omega
 have HP:=zh hP
 clear hP
 go_enter Tryz.func47,Tryz.ntmps47
 go_wp2_with fail
 go_loopg [5] an (fun k vi wr=>∃ i:Nat,i<=an/\k=an - i/\vi=.int .i64 (i:Int)/\Hid (Below w.heap.size w wr))
 case atStart=>exact⟨0,by omega,by omega,rfl,Below.refl _ _⟩
 case round =>
  obtain⟨i,hid,hk,rfl,HB⟩:=hrel
  by_cases hlt:i<an
  ·have hlt':(i:Int)<(an:Int):=by omega
   obtain⟨g,g2,code,pos,nm,ia,va,ta,ea,ia2,va2,ta2,ea2,tn,tc,en,ec,tc2,ec2,rfl,rfl,hgl,hgl2,hx,hy,hC⟩:=HP.out i hlt
   have x0:wr.cell? ⟨g,i * 7,none⟩=some (.int .i64 code):=(HB.out.cell (p:=⟨g,i * 7+0,none⟩) hgl).trans (hx 0 (by omega))
   have x1:wr.cell? ⟨g,i * 7+1,none⟩=some (.int .i64 pos):=(HB.out.cell (p:=⟨g,i * 7+1,none⟩) hgl).trans (hx 1 (by omega))
   have x2:wr.cell? ⟨g,i * 7+2,none⟩=some (.string nm):=(HB.out.cell (p:=⟨g,i * 7+2,none⟩) hgl).trans (hx 2 (by omega))
   have x3:wr.cell? ⟨g,i * 7+3,none⟩=some (.pointer ia):=(HB.out.cell (p:=⟨g,i * 7+3,none⟩) hgl).trans (hx 3 (by omega))
   have x4:wr.cell? ⟨g,i * 7+4,none⟩=some (.pointer va):=(HB.out.cell (p:=⟨g,i * 7+4,none⟩) hgl).trans (hx 4 (by omega))
   have x5:wr.cell? ⟨g,i * 7+5,none⟩=some (.slice ta tn tc):=(HB.out.cell (p:=⟨g,i * 7+5,none⟩) hgl).trans (hx 5 (by omega))
   have x6:wr.cell? ⟨g,i * 7+6,none⟩=some (.slice ea en ec):=(HB.out.cell (p:=⟨g,i * 7+6,none⟩) hgl).trans (hx 6 (by omega))
   have y0:wr.cell? ⟨g2,i * 7,none⟩=some (.int .i64 code):=(HB.out.cell (p:=⟨g2,i * 7+0,none⟩) hgl2).trans (hy 0 (by omega))
   have y1:wr.cell? ⟨g2,i * 7+1,none⟩=some (.int .i64 pos):=(HB.out.cell (p:=⟨g2,i * 7+1,none⟩) hgl2).trans (hy 1 (by omega))
   have y2:wr.cell? ⟨g2,i * 7+2,none⟩=some (.string nm):=(HB.out.cell (p:=⟨g2,i * 7+2,none⟩) hgl2).trans (hy 2 (by omega))
   have y3:wr.cell? ⟨g2,i * 7+3,none⟩=some (.pointer ia2):=(HB.out.cell (p:=⟨g2,i * 7+3,none⟩) hgl2).trans (hy 3 (by omega))
   have y4:wr.cell? ⟨g2,i * 7+4,none⟩=some (.pointer va2):=(HB.out.cell (p:=⟨g2,i * 7+4,none⟩) hgl2).trans (hy 4 (by omega))
   have y5:wr.cell? ⟨g2,i * 7+5,none⟩=some (.slice ta2 tn tc2):=(HB.out.cell (p:=⟨g2,i * 7+5,none⟩) hgl2).trans (hy 5 (by omega))
   have y6:wr.cell? ⟨g2,i * 7+6,none⟩=some (.slice ea2 en ec2):=(HB.out.cell (p:=⟨g2,i * 7+6,none⟩) hgl2).trans (hy 6 (by omega))
   have HC:=zh hC
   have hwl1:g<wr.heap.size:=zi x0
   have hwl2:g2<wr.heap.size:=zi y0
   clear hx hy hC hgl hgl2
   go_upto_region 6 with fail
   go_cut [6,7] from 13 to 77 (fun v6 v7 wc=>∃ bx by':Nat,v6=.pointer (some ⟨bx,0,none⟩)/\v7=.pointer (some ⟨by',0,none⟩)/\Hid (wc.heap[bx]?=some (.cells #[.int .i64 code,.int .i64 pos,.string nm,.pointer ia,.pointer va,.slice ta tn tc,.slice ea en ec] 96 (0,0)))/\Hid (wc.heap[by']?=some (.cells #[.int .i64 code,.int .i64 pos,.string nm,.pointer ia2,.pointer va2,.slice ta2 tn tc2,.slice ea2 en ec2] 96 (0,0)))/\Hid (Below wr.heap.size wr wc))
   case first =>
    have HT1:=zh (xr wr #[.int .i64 code,.int .i64 pos,.string nm,.pointer ia,.pointer va,.slice ta tn tc,.slice ea en ec] #[.int .i64 code,.int .i64 pos,.string nm,.pointer ia2,.pointer va2,.slice ta2 tn tc2,.slice ea2 en ec2] 96)
    have HT2:=zh (xr wr #[.int .i64 code,.int .i64 pos,.string nm,.pointer ia2,.pointer va2,.slice ta2 tn tc2,.slice ea2 en ec2] #[.int .i64 code,.int .i64 pos,.string nm,.pointer ia,.pointer va,.slice ta tn tc,.slice ea en ec] 96)
    go_region
    all_goals
     go_wp2_with fail
     go_meet
     case rel =>
      first
      | exact⟨wr.heap.size,wr.heap.size+1,rfl,rfl,HT1.out.1,HT1.out.2.1,HT1.out.2.2⟩
      | exact⟨wr.heap.size+1,wr.heap.size,rfl,rfl,HT2.out.2.1,HT2.out.1,HT2.out.2.2⟩
   case rest =>
    obtain⟨bx,by',rfl,rfl,HX,HY,HBc⟩:=hcut
    rename_i wc
    have HBw:=zh (HB.out.trans (HBc.out.mono HB.out.size))
    have hx:=HX.out
    have hy:=HY.out
    clear x0 x1 x2 x3 x4 x5 x6 y0 y1 y2 y3 y4 y5 y6 hwl1 hwl2 HX HY HB HBc
    have x0:wc.cell? ⟨bx,0,none⟩=some (.int .i64 code):=za hx
    have y0:wc.cell? ⟨by',0,none⟩=some (.int .i64 code):=za hy
    have x1:wc.cell? ⟨bx,1,none⟩=some (.int .i64 pos):=za hx
    have y1:wc.cell? ⟨by',1,none⟩=some (.int .i64 pos):=za hy
    have x2:wc.cell? ⟨bx,2,none⟩=some (.string nm):=za hx
    have y2:wc.cell? ⟨by',2,none⟩=some (.string nm):=za hy
    have x3:wc.cell? ⟨bx,3,none⟩=some (.pointer ia):=za hx
    have y3:wc.cell? ⟨by',3,none⟩=some (.pointer ia2):=za hy
    have hlx:=zc hx
    have hly:=zc hy
    have HD0:=zh (HC.out wc HBw.out).1
    go_wp2_with fail
    refine HD0.out.mono ?_
    rintro e wd0 ⟨rfl,hbb⟩
    replace hx:=(hbb.block bx (zc hx)).trans hx
    replace hy:=(hbb.block by' (zc hy)).trans hy
    replace HBw:=zh (HBw.out.trans (hbb.mono HBw.out.size))
    clear hbb HD0 hlx hly x0 y0 x1 y1 x2 y2 x3 y3
    have x4:wd0.cell? ⟨bx,4,none⟩=some (.pointer va):=za hx
    have y4:wd0.cell? ⟨by',4,none⟩=some (.pointer va2):=za hy
    have hlx:=zc hx
    have hly:=zc hy
    have HD1:=zh (HC.out wd0 HBw.out).2.1
    go_wp2_with fail
    refine HD1.out.mono ?_
    rintro e wd1 ⟨rfl,hbb⟩
    replace hx:=(hbb.block bx (zc hx)).trans hx
    replace hy:=(hbb.block by' (zc hy)).trans hy
    replace HBw:=zh (HBw.out.trans (hbb.mono HBw.out.size))
    clear hbb HD1 hlx hly x4 y4
    have x5:wd1.cell? ⟨bx,5,none⟩=some (.slice ta tn tc):=za hx
    have y5:wd1.cell? ⟨by',5,none⟩=some (.slice ta2 tn tc2):=za hy
    have hlx:=zc hx
    have hly:=zc hy
    have HD2:=zh (HC.out wd1 HBw.out).2.2.1
    go_wp2_with fail
    refine HD2.out.mono ?_
    rintro e wd2 ⟨rfl,hbb⟩
    replace hx:=(hbb.block bx (zc hx)).trans hx
    replace hy:=(hbb.block by' (zc hy)).trans hy
    replace HBw:=zh (HBw.out.trans (hbb.mono HBw.out.size))
    clear hbb HD2 hlx hly x5 y5
    have x6:wd2.cell? ⟨bx,6,none⟩=some (.slice ea en ec):=za hx
    have y6:wd2.cell? ⟨by',6,none⟩=some (.slice ea2 en ec2):=za hy
    have hlx:=zc hx
    have hly:=zc hy
    have HD3:=zh (HC.out wd2 HBw.out).2.2.2
    go_wp2_with fail
    refine HD3.out.mono ?_
    rintro e wd3 ⟨rfl,hbb⟩
    replace hx:=(hbb.block bx (zc hx)).trans hx
    replace hy:=(hbb.block by' (zc hy)).trans hy
    replace HBw:=zh (HBw.out.trans (hbb.mono HBw.out.size))
    clear hbb HD3 hlx hly x6 y6
    go_wp2_with fail
    go_roundg (an - (i+1))
    case measure=>omega
    case rel=>exact⟨i+1,by omega,rfl,by go_num,HBw⟩
  ·have hlt':¬(i:Int)<(an:Int):=by omega
   go_wp2_with fail
   go_ret
   exact⟨rfl,HB.out⟩
theorem sizeS:∀(x:S),SizeOf.sizeOf x.thn<SizeOf.sizeOf x/\SizeOf.sizeOf x.els<SizeOf.sizeOf x:=by
 intro x
 cases x
 simp only [S.mk.sizeOf_spec]
 omega
theorem kV:∀(N:Nat) (l:List S) (w:World) (D D2:Nat->Prop) (v u:Value) (cs us:List Value),SizeOf.sizeOf l<=N->RepS w D l cs->OwnS w D v l.length cs->RepS w D2 l us->OwnS w D2 u l.length us ->
  Calls Tryz.prog 47 #[v,u] w fun e w'=>e=.returned (.bool true)/\Below w.heap.size w w':=by
 intro N
 induction N with
 | zero=>intro l w D D2 v u cs us hl;cases l <;> simp at hl <;> omega
 | succ N ih =>
  intro l w D D2 v u cs us hl h1 h2 k1 k2
  obtain⟨hlen,a,c,rfl⟩:=h2.long
  obtain⟨_,a2,c2,rfl⟩:=k2.long
  refine xw hlen fun i hi=>?_
  obtain⟨tv,ev,ls,vs,tcs,ecs,p1,p2,_,p4,_,p6,p7,p8,p9⟩:=RepS.nth _ _ h1 i hi
  obtain⟨tv2,ev2,ls2,vs2,tcs2,ecs2,q1,q2,_,q4,_,q6,q7,q8,q9⟩:=RepS.nth _ _ k1 i hi
  obtain⟨g,rfl,hg,hc⟩:=h2.at' i hi
  obtain⟨g2,rfl,hg2,hc2⟩:=k2.at' i hi
  obtain⟨ia,eia⟩:=RepL.headP p2
  obtain⟨va,eva⟩:=RepL.headP p4
  obtain⟨ia2,eia2⟩:=RepL.headP q2
  obtain⟨va2,eva2⟩:=RepL.headP q4
  obtain⟨_,ta,tc,rfl⟩:=p7.long
  obtain⟨_,ea,ec,rfl⟩:=p9.long
  obtain⟨_,ta2,tc2,rfl⟩:=q7.long
  obtain⟨_,ea2,ec2,rfl⟩:=q9.long
  rw[eia,eva]at p1
  rw[eia2,eva2]at q1
  have hs1:SizeOf.sizeOf l[i]<SizeOf.sizeOf l:=List.sizeOf_lt_of_mem (List.getElem_mem hi)
  obtain⟨hs2,hs3⟩:=sizeS l[i]
  refine⟨g,g2,_,_,_,ia,va,ta,ea,ia2,va2,ta2,ea2,_,tc,_,ec,tc2,ec2,rfl,rfl,hg,hg2,fun j hj=>(hc j hj).trans (p1 j hj),fun j hj=>(hc2 j hj).trans (q1 j hj),fun W hW=>⟨?_,?_,?_,?_⟩⟩
  ·have:=jp _ l[i].index W D D2 ls ls2 zn (p2.step' hW) (q2.step' hW)
   rw[eia,eia2]at this
   exact this.mono fun e w' ⟨h1,m,h2⟩=>⟨h1,by rw[h2];exact below_drewN (Below.refl _ W) m⟩
  ·have:=jp _ l[i].value W D D2 vs vs2 zn (p4.step' hW) (q4.step' hW)
   rw[eva,eva2]at this
   exact this.mono fun e w' ⟨h1,m,h2⟩=>⟨h1,by rw[h2];exact below_drewN (Below.refl _ W) m⟩
  ·exact ih l[i].thn W D D2 _ _ tcs tcs2 (by omega) (p6.step' hW) (p7.step' hW) (q6.step' hW) (q7.step' hW)
  ·exact ih l[i].els W D D2 _ _ ecs ecs2 (by omega) (p8.step' hW) (p9.step' hW) (q8.step' hW) (q9.step' hW)
end Go.Proofs.YthnoedjbhbkdeaaGreatDoor
