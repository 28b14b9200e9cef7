import Derived.Test.YtibncofnnlbmcaaGreatDoorKQa
import Derived.Test.YtibncofnnlbmcaaGreatDoorKMa
import Derived.Test.YtibncofnnlbmcaaGreatDoorKPc
import Derived.BigQuiet
import Derived.Lib.Hide
set_option maxRecDepth 100000
set_option maxHeartbeats 4000000
namespace Go.Proofs.YtibncofnnlbmcaaGreatDoor
open Go.RowKit Go.Maps
open Tp (Bs X S G Pr Pt Rs Rr Own)
theorem zQ {n:Bs}(h:Tp.okn n):n.length<=1000000:=by have:=Tp.okn_len h;omega
theorem GS.loB {c:Cx}{w:World}{s:Rs}{k:Nat}(h:GS c w s k)(ok:CxOk c){lo:Lo}(l:lo∈c.L):∃f d i a g e j b,w.heap[lo.lb]?=some (.cells (lcells lo.m f d i a g e j b lo.vb) 107 (0,0))/\MD c.w0 c.D lo.m f d i a g e j b:=by
 obtain⟨f,d,i,a,g,e,j,b,n,o⟩:=(ok.lo lo l).blk
 exact⟨f,d,i,a,g,e,j,b,(h.st _ (ok.lo lo l).lbD).trans n,o⟩
theorem GS.lookV {c:Cx}{w:World}{s:Rs}{k:Nat}(h:GS c w s k)(ok:CxOk c){lo:Lo}(a:lo∈c.L){g:G}{nm:Bs}(f:Tp.varOf lo.m nm=some g)(j:nm.length<=1000000)(W:World)(e:∀b:Nat,W.heap[b]?=w.heap[b]?) :
  (Instr.lookup 105 (.map (some lo.vb)) (.string (bs nm)) false).run Tryz.prog W=.ok (.slice (some ⟨lo.sl nm,0,none⟩) (vlen g) (vlen g)) W:=by
 obtain⟨n,i⟩:=(ok.lo lo a).vm
 have d:=(i.on ((e _).trans (h.st _ (ok.lo lo a).vbD))).look (t:=105) Tryz.underlying105 (zeroI64s _) nm j false
 rw[d]
 simp[loV,f]
theorem GS.lookT {c:Cx}{w:World}{s:Rs}{k:Nat}(h:GS c w s k)(ok:CxOk c){lo:Lo}{md:Bs}(e:c.lo md=some lo)(g:md.length<=1000000)(W:World)(d:∀b:Nat,W.heap[b]?=w.heap[b]?) :
  (Instr.lookup 26 (.map (some c.tb)) (.string (bs md)) false).run Tryz.prog W=.ok (.pointer (some ⟨lo.lb,0,none⟩)) W:=by
 obtain⟨n,f⟩:=ok.thr
 have a:=(f.on ((d _).trans (h.st _ ok.tbD))).look (t:=26) Tryz.underlying26 (zeroLo _) md g false
 rw[a]
 simp[Cx.thr,e]
theorem Sc.look {c:Cx}{w:World}{g:Nat}{ob:Option Nat}{lo:Lo}{own:Own}{names:List Bs}{left:Nat}(h:Sc c w g ob lo own names left)(nm:Bs)(a:nm.length<=1000000)(W:World)(e:∀b:Nat,W.heap[b]?=w.heap[b]?) :
  (Instr.lookup 96 (.map ob) (.string (bs nm)) true).run Tryz.prog W=.ok (.tuple #[.int .i64 ((own nm).getD 0),.bool (own nm).isSome]) W:=by
 have d:=h.om
 cases ob with
 |none =>
  rw[kB W (t:=96) Tryz.underlying96 (zeroI64 _) nm a true]
  have:=d nm
  rw[this]
  rfl
 |some ob =>
  obtain⟨_,_,_,n,_,f⟩:=d
  rw[(f.on (e _)).look (t:=96) Tryz.underlying96 (zeroI64 _) nm a true]
  cases own nm<;>rfl
def ofLo (c:Cx) (lo:Lo) (md:Bs) (lo':Lo):Prop:=if md=[] then lo'=lo else c.lo md=some lo'
theorem zD {w b:World}(h:b.heap=w.heap)(a:Addr):b.cell? a=w.cell? a:=by unfold World.cell?;rw[h]
theorem qy (md:Bs):((bs md).toList==[])=decide (md=[]):=by
 rw[zj]
 cases md<;>rfl
theorem rof {c:Cx}{w:World}{s:Rs}{k i:Nat}{ob:Option Nat}{lo:Lo}{own:Own}{names:List Bs}{left:Nat}(h:GS c w s k)(ok:CxOk c)(o:Sc c w i ob lo own names left){md:Bs}{j:Lo}(d:ofLo c lo md j)(n:md.length<=1000000)(W:World)(m:W.heap=w.heap) :
  Calls Tryz.prog 198 #[.pointer (some ⟨i,0,none⟩),.string (bs md)] W fun e w'=>e=.returned (.pointer (some ⟨j.lb,0,none⟩))/\w'=W:=by
 have f:∀b:Nat,W.heap[b]?=w.heap[b]?:=fun b=>by rw[m]
 have g:=(f i).trans o.blk
 have u:=zf g
 have p:=qy md
 unfold ofLo at d
 by_cases a:md=[]
 ·rw[if_pos a]at d
  subst d
  rw[decide_eq_true a]at p
  have x:W.cell? ⟨i,1,none⟩=some (.pointer (some ⟨j.lb,0,none⟩)):=(za g).trans rfl
  clear h ok o g a m f n
  go_enter Tryz.func198,Tryz.ntmps198
  go_wp2_with fail
  go_ret
  exact⟨rfl,rfl⟩
 ·rw[if_neg a]at d
  rw[decide_eq_false a]at p
  have v:W.cell? ⟨i,0,none⟩=some (.pointer (some ⟨c.gb,0,none⟩)):=(za g).trans rfl
  obtain⟨z,q,_⟩:=h.blk
  have l:=(f c.gb).trans q
  have y:W.cell? ⟨c.gb,0,none⟩=some (.map (some c.tb)):=(za l).trans rfl
  have r:=zf l
  have t:=h.lookT ok d n W f
  clear h ok o g a m f n q l d
  go_enter Tryz.func198,Tryz.ntmps198
  go_wp2_with fail
  go_ret
  exact⟨rfl,rfl⟩
theorem RepL.one {w:World}{D:Nat->Prop}{code pos n:Nat}{md nm i:Bs}{f ri e:List X}{x:Nat}(h:RepL w D [⟨code,pos,n,md,nm,i,f,ri,e⟩] [.pointer (some ⟨x,0,none⟩)]):∃(c:Value) (d rs a:List Value),D x/\w.heap[x]?=some (.cells #[.int .i64 (code:Int),.int .i64 (pos:Int),.int .i64 (n:Int),.string (bs md),.string (bs nm),.string (bs i),d.headD (.pointer none),rs.headD (.pointer none),c] 216 (0,0))/\RepL w D f d/\d.length<=1/\RepL w D ri rs/\rs.length<=1/\RepL w D e a/\(a=[]/\c=.slice none 0 0\/∃g cap cur,c=.slice (some ⟨g,0,none⟩) a.length cap/\D g/\w.heap[g]?=some (.cells cur 179 (0,0))/\a.length<=cap/\cap<=maxLen/\cur.size=cap/\cur.toList.take a.length=a):=by
 rw[RepL]at h
 obtain⟨b,c,d,rs,a,t,j,k,l,m,o,p,q,r,s,_⟩:=h
 cases j
 exact⟨c,d,rs,a,k,l,m,o,p,q,r,s⟩
theorem xJ {w:World}{c:Cx}{b x:Nat}{ob:Option Nat}{lo:Lo}{own:Own}{names:List Bs}{left:Nat}(a:Sc c w b ob lo own names left){nm:Bs}{v:Int}(d:nm.length<=1000000)(f:own nm=some v)(_hxl:x<w.heap.size)
  (k:w.cell? ⟨x,3,none⟩=some (.string (bs [])))(l:w.cell? ⟨x,4,none⟩=some (.string (bs nm))) :
  Calls Tryz.prog 172 #[.pointer (some ⟨b,0,none⟩),.pointer (some ⟨x,0,none⟩)] w fun e w'=>e=.returned (.int .i64 v)/\Below w.heap.size w w':=by
 have i:∀n,(Instr.lookup 96 (.map ob) (.string (bs nm)) true).run Tryz.prog (w.drewN n)=.ok (.tuple #[.int .i64 v,.bool true]) (w.drewN n):=fun n=>by
  rw[a.look nm d (w.drewN n) (fun _=>rfl),f];rfl
 have m:w.cell? ⟨b,2,none⟩=some (.map ob):=(za a.blk).trans rfl
 have j:=zf a.blk
 have h:=qy []
 have g:Hid (∀n,Below w.heap.size w (w.drewN n)):=fun n=>below_drewN (Below.refl _ _) n
 clear a f d
 generalize bs []=e0 at *
 go_enter Tryz.func172,Tryz.ntmps172
 go_wp2_with fail
 go_quiet (fail)
 go_wp2_with fail
 go_ret
 exact⟨rfl,g.out _⟩
theorem xK {w:World}{c:Cx}{s:Rs}{k l x:Nat}{ob:Option Nat}{lo d:Lo}{own:Own}{names:List Bs}{left:Nat}(h:GS c w s k)(ok:CxOk c)(y:Sc c w l ob lo own names left){md nm:Bs}{g:G}{v:Int}(K:nm.length<=1000000)(Q:md.length<=1000000)(M:md=[]->own nm=none)(S:ofLo c lo md d)(D:d∈c.L)(T:Tp.varOf d.m nm=some g)
  (j:w.cell? ⟨d.sl nm,0,none⟩=some (.int .i64 v))(F:x<w.heap.size)(o:w.cell? ⟨x,3,none⟩=some (.string (bs md)))(p:w.cell? ⟨x,4,none⟩=some (.string (bs nm))) :
  Calls Tryz.prog 172 #[.pointer (some ⟨l,0,none⟩),.pointer (some ⟨x,0,none⟩)] w fun e w'=>e=.returned (.int .i64 v)/\Below w.heap.size w w':=by
 have i:∀n,(Instr.lookup 96 (.map ob) (.string (bs nm)) true).run Tryz.prog (w.drewN n)=.ok (.tuple #[.int .i64 ((own nm).getD 0),.bool (own nm).isSome]) (w.drewN n):=fun n=>y.look nm K (w.drewN n) (fun _=>rfl)
 have N:w.cell? ⟨l,2,none⟩=some (.map ob):=(za y.blk).trans rfl
 have a0:=zf y.blk
 have O:=qy md
 have H:Hid (∀n,Below w.heap.size w (w.drewN n)):=fun n=>below_drewN (Below.refl _ _) n
 have B:Hid (∀W:World,W.heap=w.heap->Calls Tryz.prog 198 #[.pointer (some ⟨l,0,none⟩),.string (bs md)] W fun e w'=>e=.returned (.pointer (some ⟨d.lb,0,none⟩))/\w'=W):=fun W J=>rof h ok y S Q W J
 obtain⟨ia,ga,pa,ba,ic,gc,pc,bc,I,_⟩:=h.loB ok D
 have q:w.cell? ⟨d.lb,5,none⟩=some (.map (some d.vb)):=(za I).trans rfl
 have C:=zf I
 have E:=zg j
 have A:Hid (∀W:World,W.heap=w.heap->(Instr.lookup 105 (.map (some d.vb)) (.string (bs nm)) false).run Tryz.prog W=.ok (.slice (some ⟨d.sl nm,0,none⟩) (vlen g) (vlen g)) W):=fun W J=>h.lookV ok D T K _ (fun _=>by rw[J])
 have a1:(0:Int)<(vlen g:Int):=by unfold vlen;split<;>omega
 generalize vlen g=vg at *
 clear I h ok y S T D K Q
 by_cases u:md=[]
 ·rw[decide_eq_true u]at O
  have R:=M u
  rw[R]at i
  simp only[Option.getD_none,Option.isSome_none]at i
  clear M R u
  generalize bs md=bmd at *
  generalize bs nm=bnm at *
  go_enter Tryz.func172,Tryz.ntmps172
  go_wp2_with fail
  go_quiet (fail)
  obtain⟨a,f⟩:∃a,a=w.drewN nq:=⟨_,rfl⟩
  have b:a.heap=w.heap:=by rw[f];rfl
  have t:Hid (Below w.heap.size w a):=by rw[f];exact H.out _
  have U:=(zD b ⟨x,3,none⟩).trans o
  have V:=(zD b ⟨x,4,none⟩).trans p
  have X:=(zD b ⟨d.lb,5,none⟩).trans q
  have Y:=(zD b ⟨d.sl nm,0,none⟩).trans j
  have Z:x<a.heap.size:=by rw[b];exact F
  have r2:d.lb<a.heap.size:=by rw[b];exact C
  have r3:d.sl nm<a.heap.size:=by rw[b];exact E
  have P:∀n,(Instr.lookup 105 (.map (some d.vb)) (.string bnm) false).run Tryz.prog (a.drewN n)=.ok (.slice (some ⟨d.sl nm,0,none⟩) vg vg) (a.drewN n):=fun n=>A.out (a.drewN n) b
  have r:Hid (∀n,Calls Tryz.prog 198 #[.pointer (some ⟨l,0,none⟩),.string bmd] (a.drewN n) fun e w'=>e=.returned (.pointer (some ⟨d.lb,0,none⟩))/\w'=a.drewN n):=fun n=>B.out (a.drewN n) b
  rw[<-f]
  clear f b o p q j i N
  go_wp2_with fail
  go_quiet ((go_at_call 198;exact Calls.quiet_of_same (r.out _)))
  go_wp2_with fail
  go_ret
  exact⟨rfl,below_drewN t.out _⟩
 ·rw[decide_eq_false u]at O
  generalize (own nm).getD 0=q0 at *
  clear M u
  generalize bs md=bmd at *
  generalize bs nm=bnm at *
  cases z:(own nm).isSome with
  |false =>
   rw[z]at i
   clear z
   go_enter Tryz.func172,Tryz.ntmps172
   go_wp2_with fail
   go_quiet (fail)
   obtain⟨a,f⟩:∃a,a=w.drewN nq:=⟨_,rfl⟩
   have b:a.heap=w.heap:=by rw[f];rfl
   have t:Hid (Below w.heap.size w a):=by rw[f];exact H.out _
   have U:=(zD b ⟨x,3,none⟩).trans o
   have V:=(zD b ⟨x,4,none⟩).trans p
   have X:=(zD b ⟨d.lb,5,none⟩).trans q
   have Y:=(zD b ⟨d.sl nm,0,none⟩).trans j
   have Z:x<a.heap.size:=by rw[b];exact F
   have r2:d.lb<a.heap.size:=by rw[b];exact C
   have r3:d.sl nm<a.heap.size:=by rw[b];exact E
   have P:∀n,(Instr.lookup 105 (.map (some d.vb)) (.string bnm) false).run Tryz.prog (a.drewN n)=.ok (.slice (some ⟨d.sl nm,0,none⟩) vg vg) (a.drewN n):=fun n=>A.out (a.drewN n) b
   have r:Hid (∀n,Calls Tryz.prog 198 #[.pointer (some ⟨l,0,none⟩),.string bmd] (a.drewN n) fun e w'=>e=.returned (.pointer (some ⟨d.lb,0,none⟩))/\w'=a.drewN n):=fun n=>B.out (a.drewN n) b
   rw[<-f]
   clear f b o p q j i N
   go_wp2_with fail
   go_quiet ((go_at_call 198;exact Calls.quiet_of_same (r.out _)))
   go_wp2_with fail
   go_ret
   exact⟨rfl,below_drewN t.out _⟩
  |true =>
   rw[z]at i
   clear z
   go_enter Tryz.func172,Tryz.ntmps172
   go_wp2_with fail
   go_quiet (fail)
   obtain⟨a,f⟩:∃a,a=w.drewN nq:=⟨_,rfl⟩
   have b:a.heap=w.heap:=by rw[f];rfl
   have t:Hid (Below w.heap.size w a):=by rw[f];exact H.out _
   have U:=(zD b ⟨x,3,none⟩).trans o
   have V:=(zD b ⟨x,4,none⟩).trans p
   have X:=(zD b ⟨d.lb,5,none⟩).trans q
   have Y:=(zD b ⟨d.sl nm,0,none⟩).trans j
   have Z:x<a.heap.size:=by rw[b];exact F
   have r2:d.lb<a.heap.size:=by rw[b];exact C
   have r3:d.sl nm<a.heap.size:=by rw[b];exact E
   have P:∀n,(Instr.lookup 105 (.map (some d.vb)) (.string bnm) false).run Tryz.prog (a.drewN n)=.ok (.slice (some ⟨d.sl nm,0,none⟩) vg vg) (a.drewN n):=fun n=>A.out (a.drewN n) b
   have r:Hid (∀n,Calls Tryz.prog 198 #[.pointer (some ⟨l,0,none⟩),.string bmd] (a.drewN n) fun e w'=>e=.returned (.pointer (some ⟨d.lb,0,none⟩))/\w'=a.drewN n):=fun n=>B.out (a.drewN n) b
   rw[<-f]
   clear f b o p q j i N
   go_wp2_with fail
   go_quiet ((go_at_call 198;exact Calls.quiet_of_same (r.out _)))
   go_wp2_with fail
   go_ret
   exact⟨rfl,below_drewN t.out _⟩
end Go.Proofs.YtibncofnnlbmcaaGreatDoor
namespace Go.Proofs.YtibncofnnlbmcaaGreatDoor
open Go.RowKit
open Tp (Bs)
theorem yh (b:Bool)(v:Int)(c:Hid (v=if b then 1 else 0))(w:World):Calls Tryz.prog 199 #[.bool b] w fun e w'=>e=.returned (.int .i64 v)/\w'=w:=by
 have a:v=if b then 1 else 0:=c
 subst a
 cases b
 ·go_enter Tryz.func199,Tryz.ntmps199
  go_wp2
  go_ret
  exact⟨rfl,rfl⟩
 ·go_enter Tryz.func199,Tryz.ntmps199
  go_wp2
  go_ret
  exact⟨rfl,rfl⟩
theorem yw (p:Prop)[Decidable p]:(if decide p=true then (1:Int) else 0)=Tp.b01 p:=by unfold Tp.b01;simp
theorem jm (b:ByteArray)(a:Int)(w:World):Calls Tryz.prog 214 #[.string b,.int .i64 a,.int .i64 0] w fun e w'=>e=.returned (.tuple #[.int .i64 0,.bool false])/\w'=w:=by
 go_enter Tryz.func214,Tryz.ntmps214
 go_wp2
 go_ret2
 exact⟨rfl,rfl⟩
theorem y9 (n:Int):wrap64 n=Tp.w64 n:=by unfold wrap64 Tp.w64;omega
theorem mend_yes {a b:Int}(i:Tp.I64 a)(k:Tp.I64 b)(d:b≠0)(f:¬a.tmod b=0)(j:(decide (a.tmod b<0)==decide (b<0))=false):wrap64 (a.tmod b+b)=a.fmod b/\wrap64 (wrap64 (a.tdiv b)-1)=Tp.w64 (a.fdiv b):=by
 have c:(a.tmod b≠0/\((a.tmod b<0)↔¬b<0)):=by
  refine⟨f,?_⟩
  by_cases g:a.tmod b<0<;>by_cases h:b<0<;>simp[g,h]at j ⊢
 have e:=Tp.fdiv_mend a b d
 rw[if_pos c,if_pos c]at e
 have l:=(Tp.both_rest i d).2
 rw[y9,y9,y9,e.1,<-e.2]
 refine⟨Tp.w64_id ?_,?_⟩
 ·unfold Tp.I64 at *;omega
 ·apply Tp.w64_congr;unfold Tp.w64;omega
theorem mend_no {a b:Int}(g:b≠0)(h:a.tmod b=0\/(decide (a.tmod b<0)==decide (b<0))=true):a.tmod b=a.fmod b/\wrap64 (a.tdiv b)=Tp.w64 (a.fdiv b):=by
 have c:¬(a.tmod b≠0/\((a.tmod b<0)↔¬b<0)):=by
  rintro⟨i,j⟩
  rcases h with h|h
  ·exact i h
  ·by_cases d:a.tmod b<0<;>by_cases f:b<0<;>simp[d,f]at h j
 have e:=Tp.fdiv_mend a b g
 rw[if_neg c,if_neg c]at e
 rw[y9,e.1,e.2]
 exact⟨by omega,by rw[Int.sub_zero]⟩
theorem jn (f:Bs)(a b:Int)(r:Tp.I64 a)(s:Tp.I64 b)(o:b≠0)(q:Int)(m:Hid (q=if f=Tp.wMod then a.fmod b else Tp.w64 (a.fdiv b)))(w:World):Calls Tryz.prog 214 #[.string (bs f),.int .i64 a,.int .i64 b] w fun e w'=>e=.returned (.tuple #[.int .i64 q,.bool true])/\Below w.heap.size w w':=by
 have g:Hid (∀n,Below w.heap.size w (w.drewN n)):=fun n=>below_drewN (Below.refl _ _) n
 have key:(a.tmod b=0\/¬a.tmod b=0/\(decide (a.tmod b<0)==decide (b<0))=true)\/¬a.tmod b=0/\(decide (a.tmod b<0)==decide (b<0))=false:=by
  by_cases p:a.tmod b=0
  ·exact Or.inl (Or.inl p)
  ·cases v:(decide (a.tmod b<0)==decide (b<0))
   ·exact Or.inr ⟨p,rfl⟩
   ·exact Or.inl (Or.inr ⟨p,rfl⟩)
 have t:f=Tp.wMod/\((bs f).toList==[109,111,100])=true\/f≠Tp.wMod/\((bs f).toList==[109,111,100])=false:=by
  by_cases h:f=Tp.wMod
  ·exact Or.inl ⟨h,by rw[zj,h];rfl⟩
  ·exact Or.inr ⟨h,by rw[zj];simpa[Tp.wMod] using h⟩
 rcases t with⟨i,u⟩|⟨i,u⟩
 ·have d:Hid (q=a.fmod b):=by show q=_;rw[m.out,if_pos i]
  clear m i
  rcases key with k|⟨j,l⟩
  ·have c:=zh (mend_no o (k.imp id (·.2))).1
   rcases k with k|⟨j,l⟩
   ·go_enter Tryz.func214,Tryz.ntmps214
    go_wp2_with fail
    go_quiet (fail)
    go_wp2_with fail
    go_ret2
    refine⟨?_,g.out _⟩
    rw[d.out,<-c.out,k];rfl
   ·go_enter Tryz.func214,Tryz.ntmps214
    go_wp2_with fail
    go_quiet (fail)
    go_wp2_with fail
    go_ret2
    refine⟨?_,g.out _⟩
    rw[d.out,<-c.out];rfl
  ·have c:=zh (mend_yes r s o j l).1
   go_enter Tryz.func214,Tryz.ntmps214
   go_wp2_with fail
   go_quiet (fail)
   go_wp2_with fail
   go_ret2
   refine⟨?_,g.out _⟩
   rw[d.out,<-c.out];rfl
 ·have d:Hid (q=Tp.w64 (a.fdiv b)):=by show q=_;rw[m.out,if_neg i]
  clear m i
  rcases key with k|⟨j,l⟩
  ·have c:=zh (mend_no o (k.imp id (·.2))).2
   rcases k with k|⟨j,l⟩
   ·go_enter Tryz.func214,Tryz.ntmps214
    go_wp2_with fail
    go_quiet (fail)
    go_wp2_with fail
    go_ret2
    refine⟨?_,g.out _⟩
    rw[d.out,<-c.out];rfl
   ·go_enter Tryz.func214,Tryz.ntmps214
    go_wp2_with fail
    go_quiet (fail)
    go_wp2_with fail
    go_ret2
    refine⟨?_,g.out _⟩
    rw[d.out,<-c.out];rfl
  ·have c:=zh (mend_yes r s o j l).2
   go_enter Tryz.func214,Tryz.ntmps214
   go_wp2_with fail
   go_quiet (fail)
   go_wp2_with fail
   go_ret2
   refine⟨?_,g.out _⟩
   rw[d.out,<-c.out];rfl
def BothP (w:World) (r:Option Int) (e:Ending) (w':World):Prop:=Below w.heap.size w w'/\e=.returned (match r with
 |some v=>.tuple #[.int .i64 v,.bool true]
 |none=>.tuple #[.int .i64 0,.bool false])
theorem both_mPlus (a b:Int)(w:World):Calls Tryz.prog 200 #[.string (bs Tp.mPlus),.int .i64 a,.int .i64 b] w (BothP w (Tp.both Tp.mPlus a b)):=by
 rw[Tp.both_plus]
 have c:((bs Tp.mPlus).toList==[43])=true:=by rw[zj];rfl
 generalize bs Tp.mPlus=x at *
 go_enter Tryz.func200,Tryz.ntmps200
 go_wp2_with fail
 go_ret2
 refine⟨Below.refl _ _,?_⟩
 rw[<-y9]
 rfl
theorem qx (a b:Int)(w:World):Calls Tryz.prog 200 #[.string (bs Tp.mMinus),.int .i64 a,.int .i64 b] w (BothP w (Tp.both Tp.mMinus a b)):=by
 rw[Tp.both_minus]
 have c:((bs Tp.mMinus).toList==[43])=false:=by rw[zj];rfl
 have d:((bs Tp.mMinus).toList==[45])=true:=by rw[zj];rfl
 generalize bs Tp.mMinus=x at *
 go_enter Tryz.func200,Tryz.ntmps200
 go_wp2_with fail
 go_ret2
 refine⟨Below.refl _ _,?_⟩
 rw[<-y9]
 rfl
theorem both_mStar (a b:Int)(w:World):Calls Tryz.prog 200 #[.string (bs Tp.mStar),.int .i64 a,.int .i64 b] w (BothP w (Tp.both Tp.mStar a b)):=by
 rw[Tp.both_star]
 have c:((bs Tp.mStar).toList==[43])=false:=by rw[zj];rfl
 have d:((bs Tp.mStar).toList==[45])=false:=by rw[zj];rfl
 have e:((bs Tp.mStar).toList==[42])=true:=by rw[zj];rfl
 generalize bs Tp.mStar=x at *
 go_enter Tryz.func200,Tryz.ntmps200
 go_wp2_with fail
 go_ret2
 refine⟨Below.refl _ _,?_⟩
 rw[<-y9]
 rfl
theorem both_wDiv (a b:Int)(h:Tp.I64 a)(i:Tp.I64 b)(w:World):Calls Tryz.prog 200 #[.string (bs Tp.wDiv),.int .i64 a,.int .i64 b] w (BothP w (Tp.both Tp.wDiv a b)):=by
 rw[Tp.both_div]
 have j:((bs Tp.wDiv).toList==[43])=false:=by rw[zj];rfl
 have k:((bs Tp.wDiv).toList==[45])=false:=by rw[zj];rfl
 have l:((bs Tp.wDiv).toList==[42])=false:=by rw[zj];rfl
 have m:((bs Tp.wDiv).toList==[100,105,118])=true:=by rw[zj];rfl
 by_cases c:b=0
 ·subst c
  rw[if_pos rfl]
  generalize bs Tp.wDiv=x at *
  go_enter Tryz.func200,Tryz.ntmps200
  go_wp2_with fail
  refine(jm _ a w).mono ?_
  rintro e w'⟨rfl,rfl⟩
  go_wp2_with fail
  go_ret2
  exact⟨Below.refl _ _,rfl⟩
 ·rw[if_neg c]
  have g:=zh (jn Tp.wDiv a b h i c (Tp.w64 (a.fdiv b)) (by show _=_;rw[if_neg (by decide)]) w)
  generalize bs Tp.wDiv=x at *
  generalize Tp.w64 (a.fdiv b)=v at *
  go_enter Tryz.func200,Tryz.ntmps200
  go_wp2_with fail
  refine g.out.mono ?_
  rintro e w'⟨rfl,d⟩
  have f:=zh d
  clear d
  go_wp2_with fail
  go_ret2
  exact⟨f.out,rfl⟩
theorem both_wMod (a b:Int)(h:Tp.I64 a)(i:Tp.I64 b)(w:World):Calls Tryz.prog 200 #[.string (bs Tp.wMod),.int .i64 a,.int .i64 b] w (BothP w (Tp.both Tp.wMod a b)):=by
 rw[Tp.both_mod]
 have j:((bs Tp.wMod).toList==[43])=false:=by rw[zj];rfl
 have k:((bs Tp.wMod).toList==[45])=false:=by rw[zj];rfl
 have l:((bs Tp.wMod).toList==[42])=false:=by rw[zj];rfl
 have m:((bs Tp.wMod).toList==[100,105,118])=false:=by rw[zj];rfl
 have n:((bs Tp.wMod).toList==[109,111,100])=true:=by rw[zj];rfl
 by_cases c:b=0
 ·subst c
  rw[if_pos rfl]
  generalize bs Tp.wMod=x at *
  go_enter Tryz.func200,Tryz.ntmps200
  go_wp2_with fail
  refine(jm _ a w).mono ?_
  rintro e w'⟨rfl,rfl⟩
  go_wp2_with fail
  go_ret2
  exact⟨Below.refl _ _,rfl⟩
 ·rw[if_neg c]
  have g:=zh (jn Tp.wMod a b h i c (a.fmod b) (by show _=_;rw[if_pos rfl]) w)
  generalize bs Tp.wMod=x at *
  generalize a.fmod b=v at *
  go_enter Tryz.func200,Tryz.ntmps200
  go_wp2_with fail
  refine g.out.mono ?_
  rintro e w'⟨rfl,d⟩
  have f:=zh d
  clear d
  go_wp2_with fail
  go_ret2
  exact⟨f.out,rfl⟩
theorem both_mEq (a b:Int)(w:World):Calls Tryz.prog 200 #[.string (bs Tp.mEq),.int .i64 a,.int .i64 b] w (BothP w (Tp.both Tp.mEq a b)):=by
 rw[Tp.both_eq]
 have f:((bs Tp.mEq).toList==[43])=false:=by rw[zj];rfl
 have g:((bs Tp.mEq).toList==[45])=false:=by rw[zj];rfl
 have i:((bs Tp.mEq).toList==[42])=false:=by rw[zj];rfl
 have j:((bs Tp.mEq).toList==[100,105,118])=false:=by rw[zj];rfl
 have k:((bs Tp.mEq).toList==[109,111,100])=false:=by rw[zj];rfl
 have l:((bs Tp.mEq).toList==[61])=true:=by rw[zj];rfl
 have c:Hid (∀q:Bool,q=decide (a=b)->Tp.b01 (a=b)=if q then (1:Int) else 0):=fun q h=>by rw[h];exact(yw _).symm
 generalize Tp.b01 (a=b)=v at *
 generalize bs Tp.mEq=x at *
 go_enter Tryz.func200,Tryz.ntmps200
 go_wp2_with fail
 refine(yh _ v (c.out _ (by first|rfl|(by_cases d:a=b<;>simp[d]))) w).mono ?_
 rintro e w'⟨rfl,rfl⟩
 go_wp2_with fail
 go_ret2
 exact⟨Below.refl _ _,rfl⟩
theorem both_mNe (a b:Int)(w:World):Calls Tryz.prog 200 #[.string (bs Tp.mNe),.int .i64 a,.int .i64 b] w (BothP w (Tp.both Tp.mNe a b)):=by
 rw[Tp.both_ne]
 have f:((bs Tp.mNe).toList==[43])=false:=by rw[zj];rfl
 have g:((bs Tp.mNe).toList==[45])=false:=by rw[zj];rfl
 have i:((bs Tp.mNe).toList==[42])=false:=by rw[zj];rfl
 have j:((bs Tp.mNe).toList==[100,105,118])=false:=by rw[zj];rfl
 have k:((bs Tp.mNe).toList==[109,111,100])=false:=by rw[zj];rfl
 have l:((bs Tp.mNe).toList==[61])=false:=by rw[zj];rfl
 have m:((bs Tp.mNe).toList==[35])=true:=by rw[zj];rfl
 have c:Hid (∀q:Bool,q=decide (a≠b)->Tp.b01 (a≠b)=if q then (1:Int) else 0):=fun q h=>by rw[h];exact(yw _).symm
 generalize Tp.b01 (a≠b)=v at *
 generalize bs Tp.mNe=x at *
 go_enter Tryz.func200,Tryz.ntmps200
 go_wp2_with fail
 refine(yh _ v (c.out _ (by first|rfl|(by_cases d:a=b<;>simp[d]))) w).mono ?_
 rintro e w'⟨rfl,rfl⟩
 go_wp2_with fail
 go_ret2
 exact⟨Below.refl _ _,rfl⟩
theorem both_mLt (a b:Int)(w:World):Calls Tryz.prog 200 #[.string (bs Tp.mLt),.int .i64 a,.int .i64 b] w (BothP w (Tp.both Tp.mLt a b)):=by
 rw[Tp.both_lt]
 have f:((bs Tp.mLt).toList==[43])=false:=by rw[zj];rfl
 have g:((bs Tp.mLt).toList==[45])=false:=by rw[zj];rfl
 have i:((bs Tp.mLt).toList==[42])=false:=by rw[zj];rfl
 have j:((bs Tp.mLt).toList==[100,105,118])=false:=by rw[zj];rfl
 have k:((bs Tp.mLt).toList==[109,111,100])=false:=by rw[zj];rfl
 have l:((bs Tp.mLt).toList==[61])=false:=by rw[zj];rfl
 have m:((bs Tp.mLt).toList==[35])=false:=by rw[zj];rfl
 have n:((bs Tp.mLt).toList==[60])=true:=by rw[zj];rfl
 have c:Hid (∀q:Bool,q=decide (a<b)->Tp.b01 (a<b)=if q then (1:Int) else 0):=fun q h=>by rw[h];exact(yw _).symm
 generalize Tp.b01 (a<b)=v at *
 generalize bs Tp.mLt=x at *
 go_enter Tryz.func200,Tryz.ntmps200
 go_wp2_with fail
 refine(yh _ v (c.out _ (by first|rfl|(by_cases d:a=b<;>simp[d]))) w).mono ?_
 rintro e w'⟨rfl,rfl⟩
 go_wp2_with fail
 go_ret2
 exact⟨Below.refl _ _,rfl⟩
theorem both_mLe (a b:Int)(w:World):Calls Tryz.prog 200 #[.string (bs Tp.mLe),.int .i64 a,.int .i64 b] w (BothP w (Tp.both Tp.mLe a b)):=by
 rw[Tp.both_le]
 have f:((bs Tp.mLe).toList==[43])=false:=by rw[zj];rfl
 have g:((bs Tp.mLe).toList==[45])=false:=by rw[zj];rfl
 have i:((bs Tp.mLe).toList==[42])=false:=by rw[zj];rfl
 have j:((bs Tp.mLe).toList==[100,105,118])=false:=by rw[zj];rfl
 have k:((bs Tp.mLe).toList==[109,111,100])=false:=by rw[zj];rfl
 have l:((bs Tp.mLe).toList==[61])=false:=by rw[zj];rfl
 have m:((bs Tp.mLe).toList==[35])=false:=by rw[zj];rfl
 have n:((bs Tp.mLe).toList==[60])=false:=by rw[zj];rfl
 have o:((bs Tp.mLe).toList==[60,61])=true:=by rw[zj];rfl
 have c:Hid (∀q:Bool,q=decide (a<=b)->Tp.b01 (a<=b)=if q then (1:Int) else 0):=fun q h=>by rw[h];exact(yw _).symm
 generalize Tp.b01 (a<=b)=v at *
 generalize bs Tp.mLe=x at *
 go_enter Tryz.func200,Tryz.ntmps200
 go_wp2_with fail
 refine(yh _ v (c.out _ (by first|rfl|(by_cases d:a=b<;>simp[d]))) w).mono ?_
 rintro e w'⟨rfl,rfl⟩
 go_wp2_with fail
 go_ret2
 exact⟨Below.refl _ _,rfl⟩
theorem both_mGt (a b:Int)(w:World):Calls Tryz.prog 200 #[.string (bs Tp.mGt),.int .i64 a,.int .i64 b] w (BothP w (Tp.both Tp.mGt a b)):=by
 rw[Tp.both_gt]
 have f:((bs Tp.mGt).toList==[43])=false:=by rw[zj];rfl
 have g:((bs Tp.mGt).toList==[45])=false:=by rw[zj];rfl
 have i:((bs Tp.mGt).toList==[42])=false:=by rw[zj];rfl
 have j:((bs Tp.mGt).toList==[100,105,118])=false:=by rw[zj];rfl
 have k:((bs Tp.mGt).toList==[109,111,100])=false:=by rw[zj];rfl
 have l:((bs Tp.mGt).toList==[61])=false:=by rw[zj];rfl
 have m:((bs Tp.mGt).toList==[35])=false:=by rw[zj];rfl
 have n:((bs Tp.mGt).toList==[60])=false:=by rw[zj];rfl
 have o:((bs Tp.mGt).toList==[60,61])=false:=by rw[zj];rfl
 have p:((bs Tp.mGt).toList==[62])=true:=by rw[zj];rfl
 have c:Hid (∀q:Bool,q=decide (a > b)->Tp.b01 (a > b)=if q then (1:Int) else 0):=fun q h=>by rw[h];exact(yw _).symm
 generalize Tp.b01 (a > b)=v at *
 generalize bs Tp.mGt=x at *
 go_enter Tryz.func200,Tryz.ntmps200
 go_wp2_with fail
 refine(yh _ v (c.out _ (by first|rfl|(by_cases d:a=b<;>simp[d]))) w).mono ?_
 rintro e w'⟨rfl,rfl⟩
 go_wp2_with fail
 go_ret2
 exact⟨Below.refl _ _,rfl⟩
theorem both_mGe (a b:Int)(w:World):Calls Tryz.prog 200 #[.string (bs Tp.mGe),.int .i64 a,.int .i64 b] w (BothP w (Tp.both Tp.mGe a b)):=by
 rw[Tp.both_ge]
 have g:((bs Tp.mGe).toList==[43])=false:=by rw[zj];rfl
 have i:((bs Tp.mGe).toList==[45])=false:=by rw[zj];rfl
 have j:((bs Tp.mGe).toList==[42])=false:=by rw[zj];rfl
 have k:((bs Tp.mGe).toList==[100,105,118])=false:=by rw[zj];rfl
 have l:((bs Tp.mGe).toList==[109,111,100])=false:=by rw[zj];rfl
 have m:((bs Tp.mGe).toList==[61])=false:=by rw[zj];rfl
 have n:((bs Tp.mGe).toList==[35])=false:=by rw[zj];rfl
 have o:((bs Tp.mGe).toList==[60])=false:=by rw[zj];rfl
 have p:((bs Tp.mGe).toList==[60,61])=false:=by rw[zj];rfl
 have r:((bs Tp.mGe).toList==[62])=false:=by rw[zj];rfl
 have f:((bs Tp.mGe).toList==[62,61])=true:=by rw[zj];rfl
 have c:Hid (∀q:Bool,q=decide (a ≥ b)->Tp.b01 (a ≥ b)=if q then (1:Int) else 0):=fun q h=>by rw[h];exact(yw _).symm
 generalize Tp.b01 (a ≥ b)=v at *
 generalize bs Tp.mGe=x at *
 go_enter Tryz.func200,Tryz.ntmps200
 go_wp2_with fail
 refine(yh _ v (c.out _ (by first|rfl|(by_cases d:a=b<;>simp[d]))) w).mono ?_
 rintro e w'⟨rfl,rfl⟩
 go_wp2_with fail
 go_ret2
 exact⟨Below.refl _ _,rfl⟩
theorem both_other (c:Bs)(a b:Int)(w:World)(n0:c≠Tp.mPlus)(e:c≠Tp.mMinus)(f:c≠Tp.mStar)(g:c≠Tp.wDiv)(h:c≠Tp.wMod)(i:c≠Tp.mEq)(j:c≠Tp.mNe)(k:c≠Tp.mLt)(l:c≠Tp.mLe)(m:c≠Tp.mGt)(d:c≠Tp.mGe):Calls Tryz.prog 200 #[.string (bs c),.int .i64 a,.int .i64 b] w (BothP w (Tp.both c a b)):=by
 unfold Tp.both
 rw[if_neg n0,if_neg e,if_neg f,if_neg g,if_neg h,if_neg i,if_neg j,if_neg k,if_neg l,if_neg m,if_neg d]
 have o:((bs c).toList==[43])=false:=by rw[zj];simpa[Tp.mPlus] using n0
 have p:((bs c).toList==[45])=false:=by rw[zj];simpa[Tp.mMinus] using e
 have q:((bs c).toList==[42])=false:=by rw[zj];simpa[Tp.mStar] using f
 have r:((bs c).toList==[100,105,118])=false:=by rw[zj];simpa[Tp.wDiv] using g
 have s:((bs c).toList==[109,111,100])=false:=by rw[zj];simpa[Tp.wMod] using h
 have t:((bs c).toList==[61])=false:=by rw[zj];simpa[Tp.mEq] using i
 have u:((bs c).toList==[35])=false:=by rw[zj];simpa[Tp.mNe] using j
 have v:((bs c).toList==[60])=false:=by rw[zj];simpa[Tp.mLt] using k
 have y:((bs c).toList==[60,61])=false:=by rw[zj];simpa[Tp.mLe] using l
 have z:((bs c).toList==[62])=false:=by rw[zj];simpa[Tp.mGt] using m
 have n:((bs c).toList==[62,61])=false:=by rw[zj];simpa[Tp.mGe] using d
 clear n0 e f g h i j k l m d
 generalize bs c=x at *
 go_enter Tryz.func200,Tryz.ntmps200
 go_wp2_with fail
 go_ret2
 exact⟨Below.refl _ _,rfl⟩
theorem both_any (c:Bs)(a b:Int)(e:Tp.I64 a)(f:Tp.I64 b)(w:World):Calls Tryz.prog 200 #[.string (bs c),.int .i64 a,.int .i64 b] w (BothP w (Tp.both c a b)):=by
 by_cases n0:c=Tp.mPlus
 ·subst n0;exact both_mPlus a b w
 by_cases g:c=Tp.mMinus
 ·subst g;exact qx a b w
 by_cases h:c=Tp.mStar
 ·subst h;exact both_mStar a b w
 by_cases i:c=Tp.wDiv
 ·subst i;exact both_wDiv a b e f w
 by_cases j:c=Tp.wMod
 ·subst j;exact both_wMod a b e f w
 by_cases k:c=Tp.mEq
 ·subst k;exact both_mEq a b w
 by_cases l:c=Tp.mNe
 ·subst l;exact both_mNe a b w
 by_cases m:c=Tp.mLt
 ·subst m;exact both_mLt a b w
 by_cases n:c=Tp.mLe
 ·subst n;exact both_mLe a b w
 by_cases o:c=Tp.mGt
 ·subst o;exact both_mGt a b w
 by_cases d:c=Tp.mGe
 ·subst d;exact both_mGe a b w
 exact both_other c a b w n0 g h i j k l m n o d
end Go.Proofs.YtibncofnnlbmcaaGreatDoor
namespace Go.Proofs.YtibncofnnlbmcaaGreatDoor
open Go.RowKit Go.Maps
open Tp (Bs X S G Pr Pt Rs Rr Own)
theorem ritem_ok {w:World}{c:Cx}{s:Rs}{k f x:Nat}{ob:Option Nat}{lo a:Lo}{own:Own}{names:List Bs}{left:Nat}(h:GS c w s k)(ok:CxOk c)(q:Sc c w f ob lo own names left){md nm:Bs}{g:G}{v:Int}{i:Nat}(p:nm.length<=1000000)(j:md.length<=1000000)(l:ofLo c lo md a)(b:a∈c.L)(o:Tp.varOf a.m nm=some g)(K:i<vlen g)(t:vlen g<=1000)
  (z:w.cell? ⟨a.sl nm,i,none⟩=some (.int .i64 v))(_:x<w.heap.size)(O:w.cell? ⟨x,3,none⟩=some (.string (bs md)))(P:w.cell? ⟨x,4,none⟩=some (.string (bs nm))) :
  Calls Tryz.prog 173 #[.pointer (some ⟨f,0,none⟩),.pointer (some ⟨x,0,none⟩),.int .i64 (i:Int)] w fun e w'=>e=.returned (.int .i64 v)/\Below w.heap.size w w':=by
 have u:Hid (∀n,Below w.heap.size w (w.drewN n)):=fun n=>below_drewN (Below.refl _ _) n
 have r:Hid (∀n,Calls Tryz.prog 198 #[.pointer (some ⟨f,0,none⟩),.string (bs md)] (w.drewN n) fun e w'=>e=.returned (.pointer (some ⟨a.lb,0,none⟩))/\w'=w.drewN n):=fun n=>rof h ok q l j (w.drewN n) rfl
 obtain⟨M,I,R,F,N,J,S,H,d,_⟩:=h.loB ok b
 have Q:w.cell? ⟨a.lb,5,none⟩=some (.map (some a.vb)):=(za d).trans rfl
 have C:=zf d
 have E:=zg z
 have D:∀n,(Instr.lookup 105 (.map (some a.vb)) (.string (bs nm)) false).run Tryz.prog (w.drewN n)=.ok (.slice (some ⟨a.sl nm,0,none⟩) (vlen g) (vlen g)) (w.drewN n):=fun n=>h.lookV ok b o p _ (fun _=>rfl)
 generalize vlen g=vg at *
 have y:Hid (∀W:World,Calls Tryz.prog 171 #[.slice (some ⟨a.sl nm,0,none⟩) vg vg,.int .i64 (i:Int)] W fun e w'=>e=.returned (.int .i64 (i:Int))/\w'=W):=fun W=>kZ _ vg vg (i:Int) (by omega) (by omega) t W
 have B:(i:Int)<(vg:Int):=by omega
 have A:(vg:Int)<=1000:=by omega
 clear d h ok q l o b p j
 generalize bs md=bmd at *
 generalize bs nm=bnm at *
 go_enter Tryz.func173,Tryz.ntmps173
 go_wp2_with fail
 go_quiet ((go_at_call 198;exact Calls.quiet_of_same (r.out _)))
 go_wp2_with fail
 refine(y.out _).mono ?_
 rintro e w'⟨rfl,rfl⟩
 go_wp2_with fail
 go_ret
 exact⟨rfl,u.out _⟩
theorem ritem_out {w:World}{c:Cx}{s:Rs}{k f x:Nat}{ob:Option Nat}{lo a:Lo}{own:Own}{names:List Bs}{left:Nat}(h:GS c w s k)(ok:CxOk c)(r:Sc c w f ob lo own names left){md nm:Bs}{g:G}{i:Int}(q:nm.length<=1000000)(j:md.length<=1000000)(l:ofLo c lo md a)(b:a∈c.L)(o:Tp.varOf a.m nm=some g)(p:i<0\/(vlen g:Int)<=i)(u:vlen g<=1000)
  (_:x<w.heap.size)(I:w.cell? ⟨x,3,none⟩=some (.string (bs md)))(J:w.cell? ⟨x,4,none⟩=some (.string (bs nm))) :
  Calls Tryz.prog 173 #[.pointer (some ⟨f,0,none⟩),.pointer (some ⟨x,0,none⟩),.int .i64 i] w fun e w'=>thrE endT (Tp.bounds:Int) e/\Below w.heap.size w w':=by
 have v:Hid (∀n,Below w.heap.size w (w.drewN n)):=fun n=>below_drewN (Below.refl _ _) n
 have t:Hid (∀n,Calls Tryz.prog 198 #[.pointer (some ⟨f,0,none⟩),.string (bs md)] (w.drewN n) fun e w'=>e=.returned (.pointer (some ⟨a.lb,0,none⟩))/\w'=w.drewN n):=fun n=>rof h ok r l j (w.drewN n) rfl
 obtain⟨F,D,M,B,H,E,N,C,d,_⟩:=h.loB ok b
 have K:w.cell? ⟨a.lb,5,none⟩=some (.map (some a.vb)):=(za d).trans rfl
 have z:=zf d
 have A:∀n,(Instr.lookup 105 (.map (some a.vb)) (.string (bs nm)) false).run Tryz.prog (w.drewN n)=.ok (.slice (some ⟨a.sl nm,0,none⟩) (vlen g) (vlen g)) (w.drewN n):=fun n=>h.lookV ok b o q _ (fun _=>rfl)
 generalize vlen g=vg at *
 have y:Hid (∀W:World,Calls Tryz.prog 171 #[.slice (some ⟨a.sl nm,0,none⟩) vg vg,.int .i64 i] W fun e w'=>thrE endT (Tp.bounds:Int) e/\w'=W):=fun W=>j9 _ vg vg i p u W
 clear d h ok r l o b q j p
 generalize bs md=bmd at *
 generalize bs nm=bnm at *
 go_enter Tryz.func173,Tryz.ntmps173
 go_wp2_with fail
 go_quiet ((go_at_call 198;exact Calls.quiet_of_same (t.out _)))
 go_wp2_with fail
 refine(y.out _).mono ?_
 rintro e w'⟨⟨older,rfl⟩,rfl⟩
 go_wp2_with fail
 exact⟨rfl,⟨older,rfl⟩,v.out _⟩
theorem xL (n:Int)(w:World):Calls Tryz.prog 174 #[.string (bs Tp.mMinus),.int .i64 n] w fun e w'=>e=.returned (.int .i64 (Tp.w64 (0-n)))/\w'=w:=by
 have b:((bs Tp.mMinus).toList==[110,111,116])=false:=by rw[zj];rfl
 have a:Hid (wrap64 (-n)=Tp.w64 (0-n)):=by show _=_;rw[y9,Int.zero_sub]
 generalize bs Tp.mMinus=x at *
 generalize Tp.w64 (0-n)=v at *
 go_enter Tryz.func174,Tryz.ntmps174
 go_wp2_with fail
 go_ret
 exact⟨by rw[<-a.out];rfl,rfl⟩
theorem uK (n:Int)(w:World):Calls Tryz.prog 174 #[.string (bs Tp.wNot),.int .i64 n] w fun e w'=>e=.returned (.int .i64 (Tp.b01 (n=0)))/\w'=w:=by
 have c:((bs Tp.wNot).toList==[110,111,116])=true:=by rw[zj];rfl
 have a:Hid (∀q:Bool,q=decide (n=0)->Tp.b01 (n=0)=if q then (1:Int) else 0):=fun q h=>by rw[h];exact(yw _).symm
 generalize Tp.b01 (n=0)=v at *
 generalize bs Tp.wNot=x at *
 go_enter Tryz.func174,Tryz.ntmps174
 go_wp2_with fail
 refine(yh _ v (a.out _ (by first|rfl|(by_cases b:n=0<;>simp[b]))) w).mono ?_
 rintro e w'⟨rfl,rfl⟩
 go_wp2_with fail
 go_ret
 exact⟨rfl,rfl⟩
end Go.Proofs.YtibncofnnlbmcaaGreatDoor
