import Derived.Test.YtibncofnnlbmcaaGreatDoorKQa
import Derived.Test.YtibncofnnlbmcaaGreatDoorKMa
import Derived.Test.YtibncofnnlbmcaaGreatDoorKPc
import Derived.BigQuiet
import Derived.Lib.Hide
set_option maxRecDepth 100000
set_option maxHeartbeats 4000000
namespace Go.Proofs.YtibncofnnlbmcaaGreatDoor
open Go.RowKit Go.Maps
open Tp (Bs X S G Pr Pt Rs Rr Own)
theorem zQ {n:Bs}(h:Tp.okn n):n.length<=1000000:=by have:=Tp.okn_len h;omega
theorem GS.loB {c:Cx}{w:World}{s:Rs}{k:Nat}(h:GS c w s k) (ok:CxOk c) {lo:Lo}(hl:lo∈c.L):∃ ia ga pa ba ic gc pc bc,w.heap[lo.lb]?=some (.cells (lcells lo.m ia ga pa ba ic gc pc bc lo.vb) 107 (0,0))/\MD c.w0 c.D lo.m ia ga pa ba ic gc pc bc:=by
 obtain⟨ia,ga,pa,ba,ic,gc,pc,bc,h1,h2⟩:=(ok.lo lo hl).blk
 exact⟨ia,ga,pa,ba,ic,gc,pc,bc,(h.st _ (ok.lo lo hl).lbD).trans h1,h2⟩
theorem GS.lookV {c:Cx}{w:World}{s:Rs}{k:Nat}(h:GS c w s k) (ok:CxOk c) {lo:Lo}(hl:lo∈c.L) {g:G}{nm:Bs}(hg:Tp.varOf lo.m nm=some g) (hn:nm.length<=1000000) (W:World) (hW:∀ b:Nat,W.heap[b]?=w.heap[b]?) :
  (Instr.lookup 105 (.map (some lo.vb)) (.string (bs nm)) false).run Tryz.prog W=.ok (.slice (some ⟨lo.sl nm,0,none⟩) (vlen g) (vlen g)) W:=by
 obtain⟨n,hm⟩:=(ok.lo lo hl).vm
 have h1:=(hm.on ((hW _).trans (h.st _ (ok.lo lo hl).vbD))).look (t:=105) Tryz.underlying105 (zeroI64s _) nm hn false
 rw[h1]
 simp[loV,hg]
theorem GS.lookT {c:Cx}{w:World}{s:Rs}{k:Nat}(h:GS c w s k) (ok:CxOk c) {lo:Lo}{md:Bs}(hl:c.lo md=some lo) (hn:md.length<=1000000) (W:World) (hW:∀ b:Nat,W.heap[b]?=w.heap[b]?) :
  (Instr.lookup 26 (.map (some c.tb)) (.string (bs md)) false).run Tryz.prog W=.ok (.pointer (some ⟨lo.lb,0,none⟩)) W:=by
 obtain⟨n,hm⟩:=ok.thr
 have h1:=(hm.on ((hW _).trans (h.st _ ok.tbD))).look (t:=26) Tryz.underlying26 (zeroLo _) md hn false
 rw[h1]
 simp[Cx.thr,hl]
theorem Sc.look {c:Cx}{w:World}{sb:Nat}{ob:Option Nat}{lo:Lo}{own:Own}{names:List Bs}{left:Nat}(h:Sc c w sb ob lo own names left) (nm:Bs) (hn:nm.length<=1000000) (W:World) (hW:∀ b:Nat,W.heap[b]?=w.heap[b]?) :
  (Instr.lookup 96 (.map ob) (.string (bs nm)) true).run Tryz.prog W=.ok (.tuple #[.int .i64 ((own nm).getD 0),.bool (own nm).isSome]) W:=by
 have ho:=h.om
 cases ob with
 | none =>
  rw[ky W (t:=96) Tryz.underlying96 (zeroI64 _) nm hn true]
  have:=ho nm
  rw[this]
  rfl
 | some ob =>
  obtain⟨_,_,_,n,_,hm⟩:=ho
  rw[(hm.on (hW _)).look (t:=96) Tryz.underlying96 (zeroI64 _) nm hn true]
  cases own nm <;> rfl
def ofLo (c:Cx) (lo:Lo) (md:Bs) (lo':Lo):Prop:=if md=[] then lo'=lo else c.lo md=some lo'
theorem zC {w w1:World}(h:w1.heap=w.heap) (a:Addr):w1.cell? a=w.cell? a:=by unfold World.cell?;rw[h]
theorem qf (md:Bs):((bs md).toList == [])=decide (md=[]):=by
 rw[zj]
 cases md <;> rfl
theorem rof {c:Cx}{w:World}{s:Rs}{k sb:Nat}{ob:Option Nat}{lo:Lo}{own:Own}{names:List Bs}{left:Nat}(h:GS c w s k) (ok:CxOk c) (hs:Sc c w sb ob lo own names left) {md:Bs}{lo':Lo}(ho:ofLo c lo md lo') (hn:md.length<=1000000) (W:World) (hW:W.heap=w.heap) :
  Calls Tryz.prog 198 #[.pointer (some ⟨sb,0,none⟩),.string (bs md)] W fun e w'=>e=.returned (.pointer (some ⟨lo'.lb,0,none⟩))/\w'=W:=by
 have hWb:∀ b:Nat,W.heap[b]?=w.heap[b]?:=fun b=>by rw[hW]
 have hb:=(hWb sb).trans hs.blk
 have hsl:=zf hb
 have hbq:=qf md
 unfold ofLo at ho
 by_cases hm:md=[]
 ·rw[if_pos hm]at ho
  subst ho
  rw[decide_eq_true hm]at hbq
  have k1:W.cell? ⟨sb,1,none⟩=some (.pointer (some ⟨lo'.lb,0,none⟩)):=(za hb).trans rfl
  clear h ok hs hb hm hW hWb hn
  go_enter Tryz.func198,Tryz.ntmps198
  go_wp2_with fail
  go_ret
  exact⟨rfl,rfl⟩
 ·rw[if_neg hm]at ho
  rw[decide_eq_false hm]at hbq
  have k0:W.cell? ⟨sb,0,none⟩=some (.pointer (some ⟨c.gb,0,none⟩)):=(za hb).trans rfl
  obtain⟨ov,g1,_⟩:=h.blk
  have g2:=(hWb c.gb).trans g1
  have kg:W.cell? ⟨c.gb,0,none⟩=some (.map (some c.tb)):=(za g2).trans rfl
  have hgl:=zf g2
  have hlk:=h.lookT ok ho hn W hWb
  clear h ok hs hb hm hW hWb hn g1 g2 ho
  go_enter Tryz.func198,Tryz.ntmps198
  go_wp2_with fail
  go_ret
  exact⟨rfl,rfl⟩
theorem RepL.one {w:World}{D:Nat->Prop}{code pos n:Nat}{md nm op:Bs}{le ri ar:List X}{x:Nat}(h:RepL w D [⟨code,pos,n,md,nm,op,le,ri,ar⟩] [.pointer (some ⟨x,0,none⟩)]):∃(av:Value) (ls rs gs:List Value),D x/\w.heap[x]?=some (.cells #[.int .i64 (code:Int),.int .i64 (pos:Int),.int .i64 (n:Int),.string (bs md),.string (bs nm),.string (bs op),ls.headD (.pointer none),rs.headD (.pointer none),av] 216 (0,0))/\RepL w D le ls/\ls.length<=1/\RepL w D ri rs/\rs.length<=1/\RepL w D ar gs/\(gs=[]/\av=.slice none 0 0\/∃ g cap cur,av=.slice (some ⟨g,0,none⟩) gs.length cap/\D g/\w.heap[g]?=some (.cells cur 179 (0,0))/\gs.length<=cap/\cap<=maxLen/\cur.size=cap/\cur.toList.take gs.length=gs):=by
 rw[RepL]at h
 obtain⟨b,av,ls,rs,gs,vs',h1,h2,h3,h4,h5,h6,h7,h8,h9,_⟩:=h
 cases h1
 exact⟨av,ls,rs,gs,h2,h3,h4,h5,h6,h7,h8,h9⟩
theorem xA {w:World}{c:Cx}{sb x:Nat}{ob:Option Nat}{lo:Lo}{own:Own}{names:List Bs}{left:Nat}(hs:Sc c w sb ob lo own names left) {nm:Bs}{v:Int}(hn:nm.length<=1000000) (ho:own nm=some v) (_hxl:x<w.heap.size)
  (k3:w.cell? ⟨x,3,none⟩=some (.string (bs []))) (k4:w.cell? ⟨x,4,none⟩=some (.string (bs nm))) :
  Calls Tryz.prog 172 #[.pointer (some ⟨sb,0,none⟩),.pointer (some ⟨x,0,none⟩)] w fun e w'=>e=.returned (.int .i64 v)/\Below w.heap.size w w':=by
 have hlk:∀ n,(Instr.lookup 96 (.map ob) (.string (bs nm)) true).run Tryz.prog (w.drewN n)=.ok (.tuple #[.int .i64 v,.bool true]) (w.drewN n):=fun n=>by
  rw[hs.look nm hn (w.drewN n) (fun _=>rfl),ho];rfl
 have ks:w.cell? ⟨sb,2,none⟩=some (.map ob):=(za hs.blk).trans rfl
 have hsl:=zf hs.blk
 have hbq:=qf []
 have HB:Hid (∀ n,Below w.heap.size w (w.drewN n)):=fun n=>below_drewN (Below.refl _ _) n
 clear hs ho hn
 generalize bs []=e0 at *
 go_enter Tryz.func172,Tryz.ntmps172
 go_wp2_with fail
 go_quiet (fail)
 go_wp2_with fail
 go_ret
 exact⟨rfl,HB.out _⟩
theorem xB {w:World}{c:Cx}{s:Rs}{k sb x:Nat}{ob:Option Nat}{lo lo':Lo}{own:Own}{names:List Bs}{left:Nat}(h:GS c w s k) (ok:CxOk c) (hs:Sc c w sb ob lo own names left) {md nm:Bs}{g:G}{v:Int}(hn:nm.length<=1000000) (hmn:md.length<=1000000) (ho:md=[]->own nm=none) (hof:ofLo c lo md lo') (hlo:lo'∈c.L) (hg:Tp.varOf lo'.m nm=some g)
  (hv:w.cell? ⟨lo'.sl nm,0,none⟩=some (.int .i64 v)) (hxl:x<w.heap.size) (k3:w.cell? ⟨x,3,none⟩=some (.string (bs md))) (k4:w.cell? ⟨x,4,none⟩=some (.string (bs nm))) :
  Calls Tryz.prog 172 #[.pointer (some ⟨sb,0,none⟩),.pointer (some ⟨x,0,none⟩)] w fun e w'=>e=.returned (.int .i64 v)/\Below w.heap.size w w':=by
 have hlk:∀ n,(Instr.lookup 96 (.map ob) (.string (bs nm)) true).run Tryz.prog (w.drewN n)=.ok (.tuple #[.int .i64 ((own nm).getD 0),.bool (own nm).isSome]) (w.drewN n):=fun n=>hs.look nm hn (w.drewN n) (fun _=>rfl)
 have ks:w.cell? ⟨sb,2,none⟩=some (.map ob):=(za hs.blk).trans rfl
 have hsl:=zf hs.blk
 have hbq:=qf md
 have HB:Hid (∀ n,Below w.heap.size w (w.drewN n)):=fun n=>below_drewN (Below.refl _ _) n
 have HOF:Hid (∀ W:World,W.heap=w.heap->Calls Tryz.prog 198 #[.pointer (some ⟨sb,0,none⟩),.string (bs md)] W fun e w'=>e=.returned (.pointer (some ⟨lo'.lb,0,none⟩))/\w'=W):=fun W hW=>rof h ok hs hof hmn W hW
 obtain⟨ia,ga,pa,ba,ic,gc,pc,bc,b1,_⟩:=h.loB ok hlo
 have kl:w.cell? ⟨lo'.lb,5,none⟩=some (.map (some lo'.vb)):=(za b1).trans rfl
 have hll:=zf b1
 have hvl:=zg hv
 have HLV:Hid (∀ W:World,W.heap=w.heap->(Instr.lookup 105 (.map (some lo'.vb)) (.string (bs nm)) false).run Tryz.prog W=.ok (.slice (some ⟨lo'.sl nm,0,none⟩) (vlen g) (vlen g)) W):=fun W hW=>h.lookV ok hlo hg hn _ (fun _=>by rw[hW])
 have hvg:(0:Int)<(vlen g:Int):=by unfold vlen;split <;> omega
 generalize vlen g=vg at *
 clear b1 h ok hs hof hg hlo hn hmn
 by_cases hm:md=[]
 ·rw[decide_eq_true hm]at hbq
  have ho':=ho hm
  rw[ho']at hlk
  simp only [Option.getD_none,Option.isSome_none]at hlk
  clear ho ho' hm
  generalize bs md=bmd at *
  generalize bs nm=bnm at *
  go_enter Tryz.func172,Tryz.ntmps172
  go_wp2_with fail
  go_quiet (fail)
  obtain⟨w1,hw1⟩:∃ w1,w1=w.drewN nq:=⟨_,rfl⟩
  have e1:w1.heap=w.heap:=by rw[hw1];rfl
  have HB1:Hid (Below w.heap.size w w1):=by rw[hw1];exact HB.out _
  have q3:=(zC e1 ⟨x,3,none⟩).trans k3
  have q4:=(zC e1 ⟨x,4,none⟩).trans k4
  have ql:=(zC e1 ⟨lo'.lb,5,none⟩).trans kl
  have qv:=(zC e1 ⟨lo'.sl nm,0,none⟩).trans hv
  have r1:x<w1.heap.size:=by rw[e1];exact hxl
  have r2:lo'.lb<w1.heap.size:=by rw[e1];exact hll
  have r3:lo'.sl nm<w1.heap.size:=by rw[e1];exact hvl
  have hlv:∀ n,(Instr.lookup 105 (.map (some lo'.vb)) (.string bnm) false).run Tryz.prog (w1.drewN n)=.ok (.slice (some ⟨lo'.sl nm,0,none⟩) vg vg) (w1.drewN n):=fun n=>HLV.out (w1.drewN n) e1
  have HOF1:Hid (∀ n,Calls Tryz.prog 198 #[.pointer (some ⟨sb,0,none⟩),.string bmd] (w1.drewN n) fun e w'=>e=.returned (.pointer (some ⟨lo'.lb,0,none⟩))/\w'=w1.drewN n):=fun n=>HOF.out (w1.drewN n) e1
  rw[<-hw1]
  clear hw1 e1 k3 k4 kl hv hlk ks
  go_wp2_with fail
  go_quiet ((go_at_call 198;exact Calls.quiet_of_same (HOF1.out _)))
  go_wp2_with fail
  go_ret
  exact⟨rfl,below_drewN HB1.out _⟩
 ·rw[decide_eq_false hm]at hbq
  generalize (own nm).getD 0=q0 at *
  clear ho hm
  generalize bs md=bmd at *
  generalize bs nm=bnm at *
  cases hq:(own nm).isSome with
  | false =>
   rw[hq]at hlk
   clear hq
   go_enter Tryz.func172,Tryz.ntmps172
   go_wp2_with fail
   go_quiet (fail)
   obtain⟨w1,hw1⟩:∃ w1,w1=w.drewN nq:=⟨_,rfl⟩
   have e1:w1.heap=w.heap:=by rw[hw1];rfl
   have HB1:Hid (Below w.heap.size w w1):=by rw[hw1];exact HB.out _
   have q3:=(zC e1 ⟨x,3,none⟩).trans k3
   have q4:=(zC e1 ⟨x,4,none⟩).trans k4
   have ql:=(zC e1 ⟨lo'.lb,5,none⟩).trans kl
   have qv:=(zC e1 ⟨lo'.sl nm,0,none⟩).trans hv
   have r1:x<w1.heap.size:=by rw[e1];exact hxl
   have r2:lo'.lb<w1.heap.size:=by rw[e1];exact hll
   have r3:lo'.sl nm<w1.heap.size:=by rw[e1];exact hvl
   have hlv:∀ n,(Instr.lookup 105 (.map (some lo'.vb)) (.string bnm) false).run Tryz.prog (w1.drewN n)=.ok (.slice (some ⟨lo'.sl nm,0,none⟩) vg vg) (w1.drewN n):=fun n=>HLV.out (w1.drewN n) e1
   have HOF1:Hid (∀ n,Calls Tryz.prog 198 #[.pointer (some ⟨sb,0,none⟩),.string bmd] (w1.drewN n) fun e w'=>e=.returned (.pointer (some ⟨lo'.lb,0,none⟩))/\w'=w1.drewN n):=fun n=>HOF.out (w1.drewN n) e1
   rw[<-hw1]
   clear hw1 e1 k3 k4 kl hv hlk ks
   go_wp2_with fail
   go_quiet ((go_at_call 198;exact Calls.quiet_of_same (HOF1.out _)))
   go_wp2_with fail
   go_ret
   exact⟨rfl,below_drewN HB1.out _⟩
  | true =>
   rw[hq]at hlk
   clear hq
   go_enter Tryz.func172,Tryz.ntmps172
   go_wp2_with fail
   go_quiet (fail)
   obtain⟨w1,hw1⟩:∃ w1,w1=w.drewN nq:=⟨_,rfl⟩
   have e1:w1.heap=w.heap:=by rw[hw1];rfl
   have HB1:Hid (Below w.heap.size w w1):=by rw[hw1];exact HB.out _
   have q3:=(zC e1 ⟨x,3,none⟩).trans k3
   have q4:=(zC e1 ⟨x,4,none⟩).trans k4
   have ql:=(zC e1 ⟨lo'.lb,5,none⟩).trans kl
   have qv:=(zC e1 ⟨lo'.sl nm,0,none⟩).trans hv
   have r1:x<w1.heap.size:=by rw[e1];exact hxl
   have r2:lo'.lb<w1.heap.size:=by rw[e1];exact hll
   have r3:lo'.sl nm<w1.heap.size:=by rw[e1];exact hvl
   have hlv:∀ n,(Instr.lookup 105 (.map (some lo'.vb)) (.string bnm) false).run Tryz.prog (w1.drewN n)=.ok (.slice (some ⟨lo'.sl nm,0,none⟩) vg vg) (w1.drewN n):=fun n=>HLV.out (w1.drewN n) e1
   have HOF1:Hid (∀ n,Calls Tryz.prog 198 #[.pointer (some ⟨sb,0,none⟩),.string bmd] (w1.drewN n) fun e w'=>e=.returned (.pointer (some ⟨lo'.lb,0,none⟩))/\w'=w1.drewN n):=fun n=>HOF.out (w1.drewN n) e1
   rw[<-hw1]
   clear hw1 e1 k3 k4 kl hv hlk ks
   go_wp2_with fail
   go_quiet ((go_at_call 198;exact Calls.quiet_of_same (HOF1.out _)))
   go_wp2_with fail
   go_ret
   exact⟨rfl,below_drewN HB1.out _⟩
end Go.Proofs.YtibncofnnlbmcaaGreatDoor
namespace Go.Proofs.YtibncofnnlbmcaaGreatDoor
open Go.RowKit
open Tp (Bs)
theorem yh (b:Bool) (v:Int) (hv:Hid (v=if b then 1 else 0)) (w:World):Calls Tryz.prog 199 #[.bool b] w fun e w'=>e=.returned (.int .i64 v)/\w'=w:=by
 have hv':v=if b then 1 else 0:=hv
 subst hv'
 cases b
 ·go_enter Tryz.func199,Tryz.ntmps199
  go_wp2
  go_ret
  exact⟨rfl,rfl⟩
 ·go_enter Tryz.func199,Tryz.ntmps199
  go_wp2
  go_ret
  exact⟨rfl,rfl⟩
theorem yu (p:Prop) [Decidable p]:(if decide p=true then (1:Int) else 0)=Tp.b01 p:=by unfold Tp.b01;simp
theorem jg (op:ByteArray) (a:Int) (w:World):Calls Tryz.prog 214 #[.string op,.int .i64 a,.int .i64 0] w fun e w'=>e=.returned (.tuple #[.int .i64 0,.bool false])/\w'=w:=by
 go_enter Tryz.func214,Tryz.ntmps214
 go_wp2
 go_ret2
 exact⟨rfl,rfl⟩
theorem y8 (n:Int):wrap64 n=Tp.w64 n:=by unfold wrap64 Tp.w64;omega
theorem mend_yes {a b:Int}(ha:Tp.I64 a) (hb:Tp.I64 b) (hz:b≠0) (h0:¬a.tmod b=0) (hs:(decide (a.tmod b<0) == decide (b<0))=false):wrap64 (a.tmod b+b)=a.fmod b/\wrap64 (wrap64 (a.tdiv b) - 1)=Tp.w64 (a.fdiv b):=by
 have hc:(a.tmod b≠0/\((a.tmod b<0)↔¬b<0)):=by
  refine⟨h0,?_⟩
  by_cases h1:a.tmod b<0 <;> by_cases h2:b<0 <;> simp[h1,h2]at hs ⊢
 have e:=Tp.fdiv_mend a b hz
 rw[if_pos hc,if_pos hc]at e
 have hr:=(Tp.both_rest ha hz).2
 rw[y8,y8,y8,e.1,<-e.2]
 refine⟨Tp.w64_id ?_,?_⟩
 ·unfold Tp.I64 at *;omega
 ·apply Tp.w64_congr;unfold Tp.w64;omega
theorem mend_no {a b:Int}(hz:b≠0) (h:a.tmod b=0\/(decide (a.tmod b<0) == decide (b<0))=true):a.tmod b=a.fmod b/\wrap64 (a.tdiv b)=Tp.w64 (a.fdiv b):=by
 have hc:¬(a.tmod b≠0/\((a.tmod b<0)↔¬b<0)):=by
  rintro⟨q1,q2⟩
  rcases h with h|h
  ·exact q1 h
  ·by_cases h1:a.tmod b<0 <;> by_cases h2:b<0 <;> simp[h1,h2]at h q2
 have e:=Tp.fdiv_mend a b hz
 rw[if_neg hc,if_neg hc]at e
 rw[y8,e.1,e.2]
 exact⟨by omega,by rw[Int.sub_zero]⟩
theorem jh (op:Bs) (a b:Int) (ha:Tp.I64 a) (hb:Tp.I64 b) (hz:b≠0) (q:Int) (hq:Hid (q=if op=Tp.wMod then a.fmod b else Tp.w64 (a.fdiv b))) (w:World):Calls Tryz.prog 214 #[.string (bs op),.int .i64 a,.int .i64 b] w fun e w'=>e=.returned (.tuple #[.int .i64 q,.bool true])/\Below w.heap.size w w':=by
 have HB:Hid (∀ n,Below w.heap.size w (w.drewN n)):=fun n=>below_drewN (Below.refl _ _) n
 have key:(a.tmod b=0\/¬a.tmod b=0/\(decide (a.tmod b<0) == decide (b<0))=true)\/¬a.tmod b=0/\(decide (a.tmod b<0) == decide (b<0))=false:=by
  by_cases h0:a.tmod b=0
  ·exact Or.inl (Or.inl h0)
  ·cases hs:(decide (a.tmod b<0) == decide (b<0))
   ·exact Or.inr ⟨h0,rfl⟩
   ·exact Or.inl (Or.inr ⟨h0,rfl⟩)
 have hop:op=Tp.wMod/\((bs op).toList == [109,111,100])=true\/op≠Tp.wMod/\((bs op).toList == [109,111,100])=false:=by
  by_cases h:op=Tp.wMod
  ·exact Or.inl ⟨h,by rw[zj,h];rfl⟩
  ·exact Or.inr ⟨h,by rw[zj];simpa[Tp.wMod] using h⟩
 rcases hop with⟨h1,h2⟩|⟨h1,h2⟩
 ·have HQ:Hid (q=a.fmod b):=by show q=_;rw[hq.out,if_pos h1]
  clear hq h1
  rcases key with k|⟨k1,k2⟩
  ·have HV:=zh (mend_no hz (k.imp id (·.2))).1
   rcases k with k|⟨k1,k2⟩
   ·go_enter Tryz.func214,Tryz.ntmps214
    go_wp2_with fail
    go_quiet (fail)
    go_wp2_with fail
    go_ret2
    refine⟨?_,HB.out _⟩
    rw[HQ.out,<-HV.out,k];rfl
   ·go_enter Tryz.func214,Tryz.ntmps214
    go_wp2_with fail
    go_quiet (fail)
    go_wp2_with fail
    go_ret2
    refine⟨?_,HB.out _⟩
    rw[HQ.out,<-HV.out];rfl
  ·have HV:=zh (mend_yes ha hb hz k1 k2).1
   go_enter Tryz.func214,Tryz.ntmps214
   go_wp2_with fail
   go_quiet (fail)
   go_wp2_with fail
   go_ret2
   refine⟨?_,HB.out _⟩
   rw[HQ.out,<-HV.out];rfl
 ·have HQ:Hid (q=Tp.w64 (a.fdiv b)):=by show q=_;rw[hq.out,if_neg h1]
  clear hq h1
  rcases key with k|⟨k1,k2⟩
  ·have HV:=zh (mend_no hz (k.imp id (·.2))).2
   rcases k with k|⟨k1,k2⟩
   ·go_enter Tryz.func214,Tryz.ntmps214
    go_wp2_with fail
    go_quiet (fail)
    go_wp2_with fail
    go_ret2
    refine⟨?_,HB.out _⟩
    rw[HQ.out,<-HV.out];rfl
   ·go_enter Tryz.func214,Tryz.ntmps214
    go_wp2_with fail
    go_quiet (fail)
    go_wp2_with fail
    go_ret2
    refine⟨?_,HB.out _⟩
    rw[HQ.out,<-HV.out];rfl
  ·have HV:=zh (mend_yes ha hb hz k1 k2).2
   go_enter Tryz.func214,Tryz.ntmps214
   go_wp2_with fail
   go_quiet (fail)
   go_wp2_with fail
   go_ret2
   refine⟨?_,HB.out _⟩
   rw[HQ.out,<-HV.out];rfl
def BothP (w:World) (r:Option Int) (e:Ending) (w':World):Prop:=Below w.heap.size w w'/\e=.returned (match r with
 | some v=>.tuple #[.int .i64 v,.bool true]
 | none=>.tuple #[.int .i64 0,.bool false])
theorem both_mPlus (a b:Int) (w:World):Calls Tryz.prog 200 #[.string (bs Tp.mPlus),.int .i64 a,.int .i64 b] w (BothP w (Tp.both Tp.mPlus a b)):=by
 rw[Tp.both_plus]
 have h0:((bs Tp.mPlus).toList == [43])=true:=by rw[zj];rfl
 generalize bs Tp.mPlus=x at *
 go_enter Tryz.func200,Tryz.ntmps200
 go_wp2_with fail
 go_ret2
 refine⟨Below.refl _ _,?_⟩
 rw[<-y8]
 rfl
theorem qd (a b:Int) (w:World):Calls Tryz.prog 200 #[.string (bs Tp.mMinus),.int .i64 a,.int .i64 b] w (BothP w (Tp.both Tp.mMinus a b)):=by
 rw[Tp.both_minus]
 have h0:((bs Tp.mMinus).toList == [43])=false:=by rw[zj];rfl
 have h1:((bs Tp.mMinus).toList == [45])=true:=by rw[zj];rfl
 generalize bs Tp.mMinus=x at *
 go_enter Tryz.func200,Tryz.ntmps200
 go_wp2_with fail
 go_ret2
 refine⟨Below.refl _ _,?_⟩
 rw[<-y8]
 rfl
theorem both_mStar (a b:Int) (w:World):Calls Tryz.prog 200 #[.string (bs Tp.mStar),.int .i64 a,.int .i64 b] w (BothP w (Tp.both Tp.mStar a b)):=by
 rw[Tp.both_star]
 have h0:((bs Tp.mStar).toList == [43])=false:=by rw[zj];rfl
 have h1:((bs Tp.mStar).toList == [45])=false:=by rw[zj];rfl
 have h2:((bs Tp.mStar).toList == [42])=true:=by rw[zj];rfl
 generalize bs Tp.mStar=x at *
 go_enter Tryz.func200,Tryz.ntmps200
 go_wp2_with fail
 go_ret2
 refine⟨Below.refl _ _,?_⟩
 rw[<-y8]
 rfl
theorem both_wDiv (a b:Int) (ha:Tp.I64 a) (hb:Tp.I64 b) (w:World):Calls Tryz.prog 200 #[.string (bs Tp.wDiv),.int .i64 a,.int .i64 b] w (BothP w (Tp.both Tp.wDiv a b)):=by
 rw[Tp.both_div]
 have h0:((bs Tp.wDiv).toList == [43])=false:=by rw[zj];rfl
 have h1:((bs Tp.wDiv).toList == [45])=false:=by rw[zj];rfl
 have h2:((bs Tp.wDiv).toList == [42])=false:=by rw[zj];rfl
 have h3:((bs Tp.wDiv).toList == [100,105,118])=true:=by rw[zj];rfl
 by_cases hz:b=0
 ·subst hz
  rw[if_pos rfl]
  generalize bs Tp.wDiv=x at *
  go_enter Tryz.func200,Tryz.ntmps200
  go_wp2_with fail
  refine(jg _ a w).mono ?_
  rintro e w' ⟨rfl,rfl⟩
  go_wp2_with fail
  go_ret2
  exact⟨Below.refl _ _,rfl⟩
 ·rw[if_neg hz]
  have HD:=zh (jh Tp.wDiv a b ha hb hz (Tp.w64 (a.fdiv b)) (by show _=_;rw[if_neg (by decide)]) w)
  generalize bs Tp.wDiv=x at *
  generalize Tp.w64 (a.fdiv b)=v at *
  go_enter Tryz.func200,Tryz.ntmps200
  go_wp2_with fail
  refine HD.out.mono ?_
  rintro e w' ⟨rfl,hb1⟩
  have HB:=zh hb1
  clear hb1
  go_wp2_with fail
  go_ret2
  exact⟨HB.out,rfl⟩
theorem both_wMod (a b:Int) (ha:Tp.I64 a) (hb:Tp.I64 b) (w:World):Calls Tryz.prog 200 #[.string (bs Tp.wMod),.int .i64 a,.int .i64 b] w (BothP w (Tp.both Tp.wMod a b)):=by
 rw[Tp.both_mod]
 have h0:((bs Tp.wMod).toList == [43])=false:=by rw[zj];rfl
 have h1:((bs Tp.wMod).toList == [45])=false:=by rw[zj];rfl
 have h2:((bs Tp.wMod).toList == [42])=false:=by rw[zj];rfl
 have h3:((bs Tp.wMod).toList == [100,105,118])=false:=by rw[zj];rfl
 have h4:((bs Tp.wMod).toList == [109,111,100])=true:=by rw[zj];rfl
 by_cases hz:b=0
 ·subst hz
  rw[if_pos rfl]
  generalize bs Tp.wMod=x at *
  go_enter Tryz.func200,Tryz.ntmps200
  go_wp2_with fail
  refine(jg _ a w).mono ?_
  rintro e w' ⟨rfl,rfl⟩
  go_wp2_with fail
  go_ret2
  exact⟨Below.refl _ _,rfl⟩
 ·rw[if_neg hz]
  have HD:=zh (jh Tp.wMod a b ha hb hz (a.fmod b) (by show _=_;rw[if_pos rfl]) w)
  generalize bs Tp.wMod=x at *
  generalize a.fmod b=v at *
  go_enter Tryz.func200,Tryz.ntmps200
  go_wp2_with fail
  refine HD.out.mono ?_
  rintro e w' ⟨rfl,hb1⟩
  have HB:=zh hb1
  clear hb1
  go_wp2_with fail
  go_ret2
  exact⟨HB.out,rfl⟩
theorem both_mEq (a b:Int) (w:World):Calls Tryz.prog 200 #[.string (bs Tp.mEq),.int .i64 a,.int .i64 b] w (BothP w (Tp.both Tp.mEq a b)):=by
 rw[Tp.both_eq]
 have h0:((bs Tp.mEq).toList == [43])=false:=by rw[zj];rfl
 have h1:((bs Tp.mEq).toList == [45])=false:=by rw[zj];rfl
 have h2:((bs Tp.mEq).toList == [42])=false:=by rw[zj];rfl
 have h3:((bs Tp.mEq).toList == [100,105,118])=false:=by rw[zj];rfl
 have h4:((bs Tp.mEq).toList == [109,111,100])=false:=by rw[zj];rfl
 have h5:((bs Tp.mEq).toList == [61])=true:=by rw[zj];rfl
 have HV:Hid (∀ q:Bool,q=decide (a=b)->Tp.b01 (a=b)=if q then (1:Int) else 0):=fun q h=>by rw[h];exact(yu _).symm
 generalize Tp.b01 (a=b)=v at *
 generalize bs Tp.mEq=x at *
 go_enter Tryz.func200,Tryz.ntmps200
 go_wp2_with fail
 refine(yh _ v (HV.out _ (by first|rfl|(by_cases hh:a=b <;> simp[hh]))) w).mono ?_
 rintro e w' ⟨rfl,rfl⟩
 go_wp2_with fail
 go_ret2
 exact⟨Below.refl _ _,rfl⟩
theorem both_mNe (a b:Int) (w:World):Calls Tryz.prog 200 #[.string (bs Tp.mNe),.int .i64 a,.int .i64 b] w (BothP w (Tp.both Tp.mNe a b)):=by
 rw[Tp.both_ne]
 have h0:((bs Tp.mNe).toList == [43])=false:=by rw[zj];rfl
 have h1:((bs Tp.mNe).toList == [45])=false:=by rw[zj];rfl
 have h2:((bs Tp.mNe).toList == [42])=false:=by rw[zj];rfl
 have h3:((bs Tp.mNe).toList == [100,105,118])=false:=by rw[zj];rfl
 have h4:((bs Tp.mNe).toList == [109,111,100])=false:=by rw[zj];rfl
 have h5:((bs Tp.mNe).toList == [61])=false:=by rw[zj];rfl
 have h6:((bs Tp.mNe).toList == [35])=true:=by rw[zj];rfl
 have HV:Hid (∀ q:Bool,q=decide (a≠b)->Tp.b01 (a≠b)=if q then (1:Int) else 0):=fun q h=>by rw[h];exact(yu _).symm
 generalize Tp.b01 (a≠b)=v at *
 generalize bs Tp.mNe=x at *
 go_enter Tryz.func200,Tryz.ntmps200
 go_wp2_with fail
 refine(yh _ v (HV.out _ (by first|rfl|(by_cases hh:a=b <;> simp[hh]))) w).mono ?_
 rintro e w' ⟨rfl,rfl⟩
 go_wp2_with fail
 go_ret2
 exact⟨Below.refl _ _,rfl⟩
theorem both_mLt (a b:Int) (w:World):Calls Tryz.prog 200 #[.string (bs Tp.mLt),.int .i64 a,.int .i64 b] w (BothP w (Tp.both Tp.mLt a b)):=by
 rw[Tp.both_lt]
 have h0:((bs Tp.mLt).toList == [43])=false:=by rw[zj];rfl
 have h1:((bs Tp.mLt).toList == [45])=false:=by rw[zj];rfl
 have h2:((bs Tp.mLt).toList == [42])=false:=by rw[zj];rfl
 have h3:((bs Tp.mLt).toList == [100,105,118])=false:=by rw[zj];rfl
 have h4:((bs Tp.mLt).toList == [109,111,100])=false:=by rw[zj];rfl
 have h5:((bs Tp.mLt).toList == [61])=false:=by rw[zj];rfl
 have h6:((bs Tp.mLt).toList == [35])=false:=by rw[zj];rfl
 have h7:((bs Tp.mLt).toList == [60])=true:=by rw[zj];rfl
 have HV:Hid (∀ q:Bool,q=decide (a<b)->Tp.b01 (a<b)=if q then (1:Int) else 0):=fun q h=>by rw[h];exact(yu _).symm
 generalize Tp.b01 (a<b)=v at *
 generalize bs Tp.mLt=x at *
 go_enter Tryz.func200,Tryz.ntmps200
 go_wp2_with fail
 refine(yh _ v (HV.out _ (by first|rfl|(by_cases hh:a=b <;> simp[hh]))) w).mono ?_
 rintro e w' ⟨rfl,rfl⟩
 go_wp2_with fail
 go_ret2
 exact⟨Below.refl _ _,rfl⟩
theorem both_mLe (a b:Int) (w:World):Calls Tryz.prog 200 #[.string (bs Tp.mLe),.int .i64 a,.int .i64 b] w (BothP w (Tp.both Tp.mLe a b)):=by
 rw[Tp.both_le]
 have h0:((bs Tp.mLe).toList == [43])=false:=by rw[zj];rfl
 have h1:((bs Tp.mLe).toList == [45])=false:=by rw[zj];rfl
 have h2:((bs Tp.mLe).toList == [42])=false:=by rw[zj];rfl
 have h3:((bs Tp.mLe).toList == [100,105,118])=false:=by rw[zj];rfl
 have h4:((bs Tp.mLe).toList == [109,111,100])=false:=by rw[zj];rfl
 have h5:((bs Tp.mLe).toList == [61])=false:=by rw[zj];rfl
 have h6:((bs Tp.mLe).toList == [35])=false:=by rw[zj];rfl
 have h7:((bs Tp.mLe).toList == [60])=false:=by rw[zj];rfl
 have h8:((bs Tp.mLe).toList == [60,61])=true:=by rw[zj];rfl
 have HV:Hid (∀ q:Bool,q=decide (a<=b)->Tp.b01 (a<=b)=if q then (1:Int) else 0):=fun q h=>by rw[h];exact(yu _).symm
 generalize Tp.b01 (a<=b)=v at *
 generalize bs Tp.mLe=x at *
 go_enter Tryz.func200,Tryz.ntmps200
 go_wp2_with fail
 refine(yh _ v (HV.out _ (by first|rfl|(by_cases hh:a=b <;> simp[hh]))) w).mono ?_
 rintro e w' ⟨rfl,rfl⟩
 go_wp2_with fail
 go_ret2
 exact⟨Below.refl _ _,rfl⟩
theorem both_mGt (a b:Int) (w:World):Calls Tryz.prog 200 #[.string (bs Tp.mGt),.int .i64 a,.int .i64 b] w (BothP w (Tp.both Tp.mGt a b)):=by
 rw[Tp.both_gt]
 have h0:((bs Tp.mGt).toList == [43])=false:=by rw[zj];rfl
 have h1:((bs Tp.mGt).toList == [45])=false:=by rw[zj];rfl
 have h2:((bs Tp.mGt).toList == [42])=false:=by rw[zj];rfl
 have h3:((bs Tp.mGt).toList == [100,105,118])=false:=by rw[zj];rfl
 have h4:((bs Tp.mGt).toList == [109,111,100])=false:=by rw[zj];rfl
 have h5:((bs Tp.mGt).toList == [61])=false:=by rw[zj];rfl
 have h6:((bs Tp.mGt).toList == [35])=false:=by rw[zj];rfl
 have h7:((bs Tp.mGt).toList == [60])=false:=by rw[zj];rfl
 have h8:((bs Tp.mGt).toList == [60,61])=false:=by rw[zj];rfl
 have h9:((bs Tp.mGt).toList == [62])=true:=by rw[zj];rfl
 have HV:Hid (∀ q:Bool,q=decide (a > b)->Tp.b01 (a > b)=if q then (1:Int) else 0):=fun q h=>by rw[h];exact(yu _).symm
 generalize Tp.b01 (a > b)=v at *
 generalize bs Tp.mGt=x at *
 go_enter Tryz.func200,Tryz.ntmps200
 go_wp2_with fail
 refine(yh _ v (HV.out _ (by first|rfl|(by_cases hh:a=b <;> simp[hh]))) w).mono ?_
 rintro e w' ⟨rfl,rfl⟩
 go_wp2_with fail
 go_ret2
 exact⟨Below.refl _ _,rfl⟩
theorem both_mGe (a b:Int) (w:World):Calls Tryz.prog 200 #[.string (bs Tp.mGe),.int .i64 a,.int .i64 b] w (BothP w (Tp.both Tp.mGe a b)):=by
 rw[Tp.both_ge]
 have h0:((bs Tp.mGe).toList == [43])=false:=by rw[zj];rfl
 have h1:((bs Tp.mGe).toList == [45])=false:=by rw[zj];rfl
 have h2:((bs Tp.mGe).toList == [42])=false:=by rw[zj];rfl
 have h3:((bs Tp.mGe).toList == [100,105,118])=false:=by rw[zj];rfl
 have h4:((bs Tp.mGe).toList == [109,111,100])=false:=by rw[zj];rfl
 have h5:((bs Tp.mGe).toList == [61])=false:=by rw[zj];rfl
 have h6:((bs Tp.mGe).toList == [35])=false:=by rw[zj];rfl
 have h7:((bs Tp.mGe).toList == [60])=false:=by rw[zj];rfl
 have h8:((bs Tp.mGe).toList == [60,61])=false:=by rw[zj];rfl
 have h9:((bs Tp.mGe).toList == [62])=false:=by rw[zj];rfl
 have h10:((bs Tp.mGe).toList == [62,61])=true:=by rw[zj];rfl
 have HV:Hid (∀ q:Bool,q=decide (a ≥ b)->Tp.b01 (a ≥ b)=if q then (1:Int) else 0):=fun q h=>by rw[h];exact(yu _).symm
 generalize Tp.b01 (a ≥ b)=v at *
 generalize bs Tp.mGe=x at *
 go_enter Tryz.func200,Tryz.ntmps200
 go_wp2_with fail
 refine(yh _ v (HV.out _ (by first|rfl|(by_cases hh:a=b <;> simp[hh]))) w).mono ?_
 rintro e w' ⟨rfl,rfl⟩
 go_wp2_with fail
 go_ret2
 exact⟨Below.refl _ _,rfl⟩
theorem both_other (op:Bs) (a b:Int) (w:World) (n0:op≠Tp.mPlus) (n1:op≠Tp.mMinus) (n2:op≠Tp.mStar) (n3:op≠Tp.wDiv) (n4:op≠Tp.wMod) (n5:op≠Tp.mEq) (n6:op≠Tp.mNe) (n7:op≠Tp.mLt) (n8:op≠Tp.mLe) (n9:op≠Tp.mGt) (n10:op≠Tp.mGe):Calls Tryz.prog 200 #[.string (bs op),.int .i64 a,.int .i64 b] w (BothP w (Tp.both op a b)):=by
 unfold Tp.both
 rw[if_neg n0,if_neg n1,if_neg n2,if_neg n3,if_neg n4,if_neg n5,if_neg n6,if_neg n7,if_neg n8,if_neg n9,if_neg n10]
 have h0:((bs op).toList == [43])=false:=by rw[zj];simpa[Tp.mPlus] using n0
 have h1:((bs op).toList == [45])=false:=by rw[zj];simpa[Tp.mMinus] using n1
 have h2:((bs op).toList == [42])=false:=by rw[zj];simpa[Tp.mStar] using n2
 have h3:((bs op).toList == [100,105,118])=false:=by rw[zj];simpa[Tp.wDiv] using n3
 have h4:((bs op).toList == [109,111,100])=false:=by rw[zj];simpa[Tp.wMod] using n4
 have h5:((bs op).toList == [61])=false:=by rw[zj];simpa[Tp.mEq] using n5
 have h6:((bs op).toList == [35])=false:=by rw[zj];simpa[Tp.mNe] using n6
 have h7:((bs op).toList == [60])=false:=by rw[zj];simpa[Tp.mLt] using n7
 have h8:((bs op).toList == [60,61])=false:=by rw[zj];simpa[Tp.mLe] using n8
 have h9:((bs op).toList == [62])=false:=by rw[zj];simpa[Tp.mGt] using n9
 have h10:((bs op).toList == [62,61])=false:=by rw[zj];simpa[Tp.mGe] using n10
 clear n0 n1 n2 n3 n4 n5 n6 n7 n8 n9 n10
 generalize bs op=x at *
 go_enter Tryz.func200,Tryz.ntmps200
 go_wp2_with fail
 go_ret2
 exact⟨Below.refl _ _,rfl⟩
theorem both_any (op:Bs) (a b:Int) (ha:Tp.I64 a) (hb:Tp.I64 b) (w:World):Calls Tryz.prog 200 #[.string (bs op),.int .i64 a,.int .i64 b] w (BothP w (Tp.both op a b)):=by
 by_cases n0:op=Tp.mPlus
 ·subst n0;exact both_mPlus a b w
 by_cases n1:op=Tp.mMinus
 ·subst n1;exact qd a b w
 by_cases n2:op=Tp.mStar
 ·subst n2;exact both_mStar a b w
 by_cases n3:op=Tp.wDiv
 ·subst n3;exact both_wDiv a b ha hb w
 by_cases n4:op=Tp.wMod
 ·subst n4;exact both_wMod a b ha hb w
 by_cases n5:op=Tp.mEq
 ·subst n5;exact both_mEq a b w
 by_cases n6:op=Tp.mNe
 ·subst n6;exact both_mNe a b w
 by_cases n7:op=Tp.mLt
 ·subst n7;exact both_mLt a b w
 by_cases n8:op=Tp.mLe
 ·subst n8;exact both_mLe a b w
 by_cases n9:op=Tp.mGt
 ·subst n9;exact both_mGt a b w
 by_cases n10:op=Tp.mGe
 ·subst n10;exact both_mGe a b w
 exact both_other op a b w n0 n1 n2 n3 n4 n5 n6 n7 n8 n9 n10
end Go.Proofs.YtibncofnnlbmcaaGreatDoor
namespace Go.Proofs.YtibncofnnlbmcaaGreatDoor
open Go.RowKit Go.Maps
open Tp (Bs X S G Pr Pt Rs Rr Own)
theorem ritem_ok {w:World}{c:Cx}{s:Rs}{k sb x:Nat}{ob:Option Nat}{lo lo':Lo}{own:Own}{names:List Bs}{left:Nat}(h:GS c w s k) (ok:CxOk c) (hs:Sc c w sb ob lo own names left) {md nm:Bs}{g:G}{v:Int}{i:Nat}(hn:nm.length<=1000000) (hmn:md.length<=1000000) (hof:ofLo c lo md lo') (hlo:lo'∈c.L) (hg:Tp.varOf lo'.m nm=some g) (hi:i<vlen g) (hgl:vlen g<=1000)
  (hv:w.cell? ⟨lo'.sl nm,i,none⟩=some (.int .i64 v)) (_:x<w.heap.size) (k3:w.cell? ⟨x,3,none⟩=some (.string (bs md))) (k4:w.cell? ⟨x,4,none⟩=some (.string (bs nm))) :
  Calls Tryz.prog 173 #[.pointer (some ⟨sb,0,none⟩),.pointer (some ⟨x,0,none⟩),.int .i64 (i:Int)] w fun e w'=>e=.returned (.int .i64 v)/\Below w.heap.size w w':=by
 have HB:Hid (∀ n,Below w.heap.size w (w.drewN n)):=fun n=>below_drewN (Below.refl _ _) n
 have HOF:Hid (∀ n,Calls Tryz.prog 198 #[.pointer (some ⟨sb,0,none⟩),.string (bs md)] (w.drewN n) fun e w'=>e=.returned (.pointer (some ⟨lo'.lb,0,none⟩))/\w'=w.drewN n):=fun n=>rof h ok hs hof hmn (w.drewN n) rfl
 obtain⟨ia,ga,pa,ba,ic,gc,pc,bc,b1,_⟩:=h.loB ok hlo
 have kl:w.cell? ⟨lo'.lb,5,none⟩=some (.map (some lo'.vb)):=(za b1).trans rfl
 have hll:=zf b1
 have hvl:=zg hv
 have hlv:∀ n,(Instr.lookup 105 (.map (some lo'.vb)) (.string (bs nm)) false).run Tryz.prog (w.drewN n)=.ok (.slice (some ⟨lo'.sl nm,0,none⟩) (vlen g) (vlen g)) (w.drewN n):=fun n=>h.lookV ok hlo hg hn _ (fun _=>rfl)
 generalize vlen g=vg at *
 have HW:Hid (∀ W:World,Calls Tryz.prog 171 #[.slice (some ⟨lo'.sl nm,0,none⟩) vg vg,.int .i64 (i:Int)] W fun e w'=>e=.returned (.int .i64 (i:Int))/\w'=W):=fun W=>kU _ vg vg (i:Int) (by omega) (by omega) hgl W
 have hi':(i:Int)<(vg:Int):=by omega
 have hgl':(vg:Int)<=1000:=by omega
 clear b1 h ok hs hof hg hlo hn hmn
 generalize bs md=bmd at *
 generalize bs nm=bnm at *
 go_enter Tryz.func173,Tryz.ntmps173
 go_wp2_with fail
 go_quiet ((go_at_call 198;exact Calls.quiet_of_same (HOF.out _)))
 go_wp2_with fail
 refine(HW.out _).mono ?_
 rintro e w' ⟨rfl,rfl⟩
 go_wp2_with fail
 go_ret
 exact⟨rfl,HB.out _⟩
theorem ritem_out {w:World}{c:Cx}{s:Rs}{k sb x:Nat}{ob:Option Nat}{lo lo':Lo}{own:Own}{names:List Bs}{left:Nat}(h:GS c w s k) (ok:CxOk c) (hs:Sc c w sb ob lo own names left) {md nm:Bs}{g:G}{i:Int}(hn:nm.length<=1000000) (hmn:md.length<=1000000) (hof:ofLo c lo md lo') (hlo:lo'∈c.L) (hg:Tp.varOf lo'.m nm=some g) (hi:i<0\/(vlen g:Int)<=i) (hgl:vlen g<=1000)
  (_:x<w.heap.size) (k3:w.cell? ⟨x,3,none⟩=some (.string (bs md))) (k4:w.cell? ⟨x,4,none⟩=some (.string (bs nm))) :
  Calls Tryz.prog 173 #[.pointer (some ⟨sb,0,none⟩),.pointer (some ⟨x,0,none⟩),.int .i64 i] w fun e w'=>thrE endT (Tp.bounds:Int) e/\Below w.heap.size w w':=by
 have HB:Hid (∀ n,Below w.heap.size w (w.drewN n)):=fun n=>below_drewN (Below.refl _ _) n
 have HOF:Hid (∀ n,Calls Tryz.prog 198 #[.pointer (some ⟨sb,0,none⟩),.string (bs md)] (w.drewN n) fun e w'=>e=.returned (.pointer (some ⟨lo'.lb,0,none⟩))/\w'=w.drewN n):=fun n=>rof h ok hs hof hmn (w.drewN n) rfl
 obtain⟨ia,ga,pa,ba,ic,gc,pc,bc,b1,_⟩:=h.loB ok hlo
 have kl:w.cell? ⟨lo'.lb,5,none⟩=some (.map (some lo'.vb)):=(za b1).trans rfl
 have hll:=zf b1
 have hlv:∀ n,(Instr.lookup 105 (.map (some lo'.vb)) (.string (bs nm)) false).run Tryz.prog (w.drewN n)=.ok (.slice (some ⟨lo'.sl nm,0,none⟩) (vlen g) (vlen g)) (w.drewN n):=fun n=>h.lookV ok hlo hg hn _ (fun _=>rfl)
 generalize vlen g=vg at *
 have HW:Hid (∀ W:World,Calls Tryz.prog 171 #[.slice (some ⟨lo'.sl nm,0,none⟩) vg vg,.int .i64 i] W fun e w'=>thrE endT (Tp.bounds:Int) e/\w'=W):=fun W=>ju _ vg vg i hi hgl W
 clear b1 h ok hs hof hg hlo hn hmn hi
 generalize bs md=bmd at *
 generalize bs nm=bnm at *
 go_enter Tryz.func173,Tryz.ntmps173
 go_wp2_with fail
 go_quiet ((go_at_call 198;exact Calls.quiet_of_same (HOF.out _)))
 go_wp2_with fail
 refine(HW.out _).mono ?_
 rintro e w' ⟨⟨older,rfl⟩,rfl⟩
 go_wp2_with fail
 exact⟨rfl,⟨older,rfl⟩,HB.out _⟩
theorem xC (n:Int) (w:World):Calls Tryz.prog 174 #[.string (bs Tp.mMinus),.int .i64 n] w fun e w'=>e=.returned (.int .i64 (Tp.w64 (0 - n)))/\w'=w:=by
 have h0:((bs Tp.mMinus).toList == [110,111,116])=false:=by rw[zj];rfl
 have HV:Hid (wrap64 (-n)=Tp.w64 (0 - n)):=by show _=_;rw[y8,Int.zero_sub]
 generalize bs Tp.mMinus=x at *
 generalize Tp.w64 (0 - n)=v at *
 go_enter Tryz.func174,Tryz.ntmps174
 go_wp2_with fail
 go_ret
 exact⟨by rw[<-HV.out];rfl,rfl⟩
theorem uy (n:Int) (w:World):Calls Tryz.prog 174 #[.string (bs Tp.wNot),.int .i64 n] w fun e w'=>e=.returned (.int .i64 (Tp.b01 (n=0)))/\w'=w:=by
 have h0:((bs Tp.wNot).toList == [110,111,116])=true:=by rw[zj];rfl
 have HV:Hid (∀ q:Bool,q=decide (n=0)->Tp.b01 (n=0)=if q then (1:Int) else 0):=fun q h=>by rw[h];exact(yu _).symm
 generalize Tp.b01 (n=0)=v at *
 generalize bs Tp.wNot=x at *
 go_enter Tryz.func174,Tryz.ntmps174
 go_wp2_with fail
 refine(yh _ v (HV.out _ (by first|rfl|(by_cases hh:n=0 <;> simp[hh]))) w).mono ?_
 rintro e w' ⟨rfl,rfl⟩
 go_wp2_with fail
 go_ret
 exact⟨rfl,rfl⟩
end Go.Proofs.YtibncofnnlbmcaaGreatDoor
