import Derived.Test.YtmnedfdffbbchaaGreatDoorKVa
import Derived.Test.YtmnedfdffbbchaaGreatDoorKEa
import Derived.Test.YtmnedfdffbbchaaGreatDoorKLd
import Derived.Laws.MakeOwn
import Derived.Deep.LoopGhost
import Derived.BigQuiet
import Derived.Lib.QuietBelow
import Derived.Laws.StructEq
set_option maxRecDepth 100000
set_option maxHeartbeats 4000000

namespace Go.Proofs.YtmnedfdffbbchaaGreatDoor.Jo
open Go.RowKit
open Ob (O In I64)
open Tp (Bs)
def iA (x:In):Value:=.agg #[.int .i64 x.op,.int .i64 x.a,.int .i64 x.b]
structure Mk8 (w:World):Prop where
 lt:1<w.heap.size
 at':∀ i,i<11->w.cell? ⟨1,i,none⟩=some (.string (bs (Vm.marks8.getD i [])))
theorem Mk8.on {w w':World}(h:Mk8 w) (hb:Below w.heap.size w w'):Mk8 w':=⟨Nat.lt_of_lt_of_le h.lt hb.size,fun i hi=>(hb.cell (p:=⟨1,i,none⟩) h.lt).trans (h.at' i hi)⟩
theorem Mk8.sgn {w:World}(h:Mk8 w) {x:In}(h0:0<=x.a) (h1:x.a<11):w.cell? ⟨1,x.a.toNat,none⟩=some (.string (bs (Vm.sgn x))):=h.at' _ (by omega)
theorem xK (w:World) (op a b:Int):Hid (Below w.heap.size w (w.alloc (.cells #[.int .i64 op,.int .i64 a,.int .i64 b] 68))/\∀ j,(w.alloc (.cells #[.int .i64 op,.int .i64 a,.int .i64 b] 68)).cell? ⟨w.heap.size,j,none⟩=(#[.int .i64 op,.int .i64 a,.int .i64 b]:Array Value)[j]?) :=
 ⟨zb _ _,fun _=>zc (zw _ _)⟩
theorem zX (op:Int) (w:World):Calls Tryz.prog 117 #[.int .i64 op] w fun e w'=>e=.returned (iA ⟨op,0,0⟩)/\Below w.heap.size w w':=by
 have H:=xK w op 0 0
 go_enter Tryz.func117,Tryz.ntmps117
 go_wp2_with fail
 obtain⟨hb,hc⟩:=H.out
 exact bodyPost_ret (v:=.agg #[.int .i64 op,.int .i64 0,.int .i64 0]) (by simp[results,Tryz.results117,go_sem,hc]) rfl ⟨rfl,hb⟩
theorem xD (n:Int) (w:World):Calls Tryz.prog 141 #[.int .i64 n] w fun e w'=>e=.returned (iA ⟨1,n,0⟩)/\Below w.heap.size w w':=by
 have H:=xK w 1 n 0
 go_enter Tryz.func141,Tryz.ntmps141
 go_wp2_with fail
 obtain⟨hb,hc⟩:=H.out
 exact bodyPost_ret (v:=.agg #[.int .i64 1,.int .i64 n,.int .i64 0]) (by simp[results,Tryz.results141,go_sem,hc]) rfl ⟨rfl,hb⟩
theorem kY {n:Int}(hn:I64 n) (w:World):Calls Tryz.prog 88 #[.int .i64 n] w fun e w'=>e=.returned (iA ⟨12,n,0⟩)/\Below w.heap.size w w':=by
 have H:=xK w 12 n 0
 have h1:-9223372036854775808<=n:=hn.1
 have h2:n<=9223372036854775807:=hn.2
 go_enter Tryz.func88,Tryz.ntmps88
 go_wp2_with fail
 obtain⟨hb,hc⟩:=H.out
 exact bodyPost_ret (v:=.agg #[.int .i64 12,.int .i64 n,.int .i64 0]) (by simp[results,Tryz.results88,go_sem,hc]) rfl ⟨rfl,hb⟩
theorem kd {op n m:Int}(hm:Hid (m=Vm.single8 op n)) (w:World):Calls Tryz.prog 129 #[.int .i64 op,.int .i64 n] w fun e w'=>e=.returned (.int .i64 m)/\w'=w:=by
 by_cases h:op=10
 ·have HM:Hid (m=wrap64 (-n)):=by show m=_;rw[hm.out,yD];unfold Vm.single8;rw[if_pos h]
  clear hm
  subst h
  go_enter Tryz.func129,Tryz.ntmps129
  go_wp2_with fail
  go_ret
  refine⟨?_,rfl⟩
  rw[HM.out];rfl
 ·by_cases hz:n=0
  ·have HM:Hid (m=1):=by show m=_;rw[hm.out];unfold Vm.single8;rw[if_neg h,if_pos hz]
   clear hm
   subst hz
   go_enter Tryz.func129,Tryz.ntmps129
   go_wp2_with fail
   go_ret
   refine⟨?_,rfl⟩
   rw[HM.out];rfl
  ·have HM:Hid (m=0):=by show m=_;rw[hm.out];unfold Vm.single8;rw[if_neg h,if_neg hz]
   clear hm
   go_enter Tryz.func129,Tryz.ntmps129
   go_wp2_with fail
   go_ret
   refine⟨?_,rfl⟩
   rw[HM.out];rfl
def SaysB (w:World) (b:Bool) (e:Ending) (w':World):Prop:=e=.returned (.bool b)/\Below w.heap.size w w'
theorem zT {w w0:World}{op a b:Int}(h:w0=w.alloc (.cells #[.int .i64 op,.int .i64 a,.int .i64 b] 68)):Hid (Below w.heap.size w w0)/\w.heap.size<w0.heap.size/\w0.cell? ⟨w.heap.size,0,none⟩=some (.int .i64 op)/\w0.cell? ⟨w.heap.size,1,none⟩=some (.int .i64 a)/\w0.cell? ⟨w.heap.size,2,none⟩=some (.int .i64 b):=by
 rw[h]
 have e:=zw w (.cells #[.int .i64 op,.int .i64 a,.int .i64 b] 68)
 exact⟨zb _ _,zk e,(zc e).trans rfl,(zc e).trans rfl,(zc e).trans rfl⟩
theorem jb (x:In) {b:Bool}(hb:Hid (b=(x.op == 15 || x.op == 17))) (w:World):Calls Tryz.prog 86 #[iA x] w (SaysB w b):=by
 obtain⟨op,xa,xb⟩:=x
 have HQ:Hid (b=(op == 15 || op == 17)):=hb
 unfold iA
 obtain⟨w0,hw0⟩:∃ w0,w0=w.alloc (.cells #[.int .i64 op,.int .i64 xa,.int .i64 xb] 68):=⟨_,rfl⟩
 obtain⟨HB,hl,c0,c1,c2⟩:=zT hw0
 clear hb
 go_enter Tryz.func86,Tryz.ntmps86
 go_upto_region 1 with fail
 rw[<-hw0]
 clear hw0
 go_wp2_with fail
 all_goals
  go_ret
  refine⟨?_,HB.out⟩
  rw[HQ.out]
  first|rfl|(rename_i q;subst q;rfl)|(rename_i q;rw[q];rfl)|(rename_i q r;rw[q,r];rfl)
theorem xj (x:In) {b:Bool}(hb:Hid (b=(x.op == 12 || x.op == 13))) (w:World):Calls Tryz.prog 84 #[iA x] w (SaysB w b):=by
 obtain⟨op,xa,xb⟩:=x
 have HQ:Hid (b=(op == 12 || op == 13)):=hb
 unfold iA
 obtain⟨w0,hw0⟩:∃ w0,w0=w.alloc (.cells #[.int .i64 op,.int .i64 xa,.int .i64 xb] 68):=⟨_,rfl⟩
 obtain⟨HB,hl,c0,c1,c2⟩:=zT hw0
 clear hb
 go_enter Tryz.func84,Tryz.ntmps84
 go_upto_region 1 with fail
 rw[<-hw0]
 clear hw0
 go_wp2_with fail
 all_goals
  go_ret
  refine⟨?_,HB.out⟩
  rw[HQ.out]
  first|rfl|(rename_i q;subst q;rfl)|(rename_i q;rw[q];rfl)|(rename_i q r;rw[q,r];rfl)
theorem kN {x:In}{b:Bool}{w:World}(hm:Mk8 w) (h0:0<=x.a) (h1:x.a<11) (hb:Hid (b=true↔Vm.sgn x=Tp.wDiv\/Vm.sgn x=Tp.wMod)):Calls Tryz.prog 120 #[iA x] w (SaysB w b):=by
 have hs:=hm.sgn h0 h1
 have hg:=hm.lt
 obtain⟨y,hy⟩:∃ y,y=Vm.sgn x:=⟨_,rfl⟩
 rw[<-hy]at hb hs
 clear hy hm
 obtain⟨op,xa,xb⟩:=x
 have h0:0<=xa:=h0
 obtain⟨k,hk⟩:=Int.eq_ofNat_of_zero_le h0
 subst hk
 have hk:(k:Int)<11:=h1
 have hs:w.cell? ⟨1,k,none⟩=some (.string (bs y)):=hs
 have HQ:Hid (b=((bs y).toList == [100,105,118] || (bs y).toList == [109,111,100])):=by
  show b=_
  have hb:b=true↔y=Tp.wDiv\/y=Tp.wMod:=hb
  rw[zu]
  cases b
  ·symm
   rw[Bool.or_eq_false_iff]
   exact⟨beq_false_of_ne fun q=>(by have:=hb.2 (Or.inl q);cases this),beq_false_of_ne fun q=>(by have:=hb.2 (Or.inr q);cases this)⟩
  ·symm
   rw[Bool.or_eq_true,beq_iff_eq,beq_iff_eq]
   exact hb.1 rfl
 unfold iA
 obtain⟨w0,hw0⟩:∃ w0,w0=w.alloc (.cells #[.int .i64 op,.int .i64 (k:Int),.int .i64 xb] 68):=⟨_,rfl⟩
 obtain⟨HB,hl,c0,c1,c2⟩:=zT hw0
 have hs0:w0.cell? ⟨1,k,none⟩=some (.string (bs y)):=(HB.out.cell (p:=⟨1,k,none⟩) hg).trans hs
 have hg0:1<w0.heap.size:=Nat.lt_of_lt_of_le hg HB.out.size
 clear hb hs h1 h0
 generalize bs y=z at *
 go_enter Tryz.func120,Tryz.ntmps120
 go_upto_region 1 with fail
 rw[<-hw0]
 clear hw0
 go_wp2_with fail
 all_goals
  go_ret
  refine⟨?_,HB.out⟩
  rw[HQ.out]
  first|rfl|(rename_i q;subst q;rfl)|(rename_i q;rw[q];rfl)|(rename_i q r;rw[q,r];rfl)
def mcs8:List Value:=Vm.marks8.map fun m=>.string (bs m)
def mkA8:Value:=.agg mcs8.toArray
theorem load_cells {P:Program}{w:World}(a:Addr) (vs:List Value):∀(n i:Nat) (acc:Array Value),(∀ j,i<=j->j<i+n->w.cell? (a.add j)=some (vs.getD j undef))->i+n<=vs.length ->
  (loadCellsFrom a i n acc).run P w=.ok (acc++((vs.drop i).take n).toArray) w:=by
 intro n
 induction n with
 | zero=>intro i acc _ _;simp[loadCellsFrom]
 | succ n ih =>
  intro i acc h hl
  have h0:=h i zn (by omega)
  have hd:vs.drop i=vs.getD i undef :: vs.drop (i+1):=by
   rw[List.drop_eq_getElem_cons (by omega)]
   simp[List.getD_eq_getElem?_getD,List.getElem?_eq_getElem (show i<vs.length by omega)]
  simp only [loadCellsFrom,Sem.run_bind,load,Sem.run,h0,Result.andThen]
  rw[ih (i+1) _ (fun j h1 h2=>h j (by omega) (by omega)) (by omega),hd]
  simp
theorem jO {P:Program}{w:World}{ops:Array Oper}{rest:List Oper}{o:Oper}{a:Act}{Q:Exit->Act->World->Prop}(hgd:o.guard=none) (t:TypeId) (x:Operand) (ho:o.op=.load t x) (v:Value)
  (hrun:(Instr.loadAt t (a.eval x)).run P w=.ok v w) (h:wpList P ops Q rest (a.put o.dst v) w):wpList P ops Q (o :: rest) a w:=by
 refine wpList_plain hgd fun K hK=>?_
 unfold Oper.wp
 simp[execOp,ho,hrun,Result.andThen]
 exact hK _ _ h
theorem mk8_load {w:World}(h:Mk8 w):(Instr.loadAt 195 (.pointer (some ⟨1,0,none⟩))).run Tryz.prog w=.ok mkA8 w:=by
 have hc:=load_cells (P:=Tryz.prog) (w:=w) ⟨1,0,none⟩ mcs8 11 0 #[] (fun j _ hj=>by
  have hq:=h.at' j (by omega)
  have e:mcs8.getD j undef=.string (bs (Vm.marks8.getD j [])):=by
   have hj':j<11:=by omega
   match j,hj' with
   | 0,_=>rfl
   | 1,_=>rfl
   | 2,_=>rfl
   | 3,_=>rfl
   | 4,_=>rfl
   | 5,_=>rfl
   | 6,_=>rfl
   | 7,_=>rfl
   | 8,_=>rfl
   | 9,_=>rfl
   | 10,_=>rfl
  rw[<-e]at hq
  by_cases hj0:j=0 <;> simpa[Addr.add,hj0] using hq) (by decide)
 have h1:(isAgg 195).run Tryz.prog w=.ok true w:=by kernel_rfl
 have h2:(sizeOf 195).run Tryz.prog w=.ok 11 w:=by kernel_rfl
 simp only [Instr.loadAt,Instr.sureAddr,loadVar,loadCells,Sem.run_bind,Result.andThen]
 have e:mcs8.take 11=mcs8:=List.take_of_length_le (by decide)
 simp[h1,h2,hc,mkA8,e]
theorem mk8_i0 (w:World):(Instr.index 195 mkA8 (.int .i64 0)).run Tryz.prog w=.ok (.string (bs (Vm.marks8.getD 0 []))) w:=by kernel_rfl
theorem mk8_i1 (w:World):(Instr.index 195 mkA8 (.int .i64 1)).run Tryz.prog w=.ok (.string (bs (Vm.marks8.getD 1 []))) w:=by kernel_rfl
theorem mk8_i2 (w:World):(Instr.index 195 mkA8 (.int .i64 2)).run Tryz.prog w=.ok (.string (bs (Vm.marks8.getD 2 []))) w:=by kernel_rfl
theorem mk8_i3 (w:World):(Instr.index 195 mkA8 (.int .i64 3)).run Tryz.prog w=.ok (.string (bs (Vm.marks8.getD 3 []))) w:=by kernel_rfl
theorem mk8_i4 (w:World):(Instr.index 195 mkA8 (.int .i64 4)).run Tryz.prog w=.ok (.string (bs (Vm.marks8.getD 4 []))) w:=by kernel_rfl
theorem mk8_i5 (w:World):(Instr.index 195 mkA8 (.int .i64 5)).run Tryz.prog w=.ok (.string (bs (Vm.marks8.getD 5 []))) w:=by kernel_rfl
theorem mk8_i6 (w:World):(Instr.index 195 mkA8 (.int .i64 6)).run Tryz.prog w=.ok (.string (bs (Vm.marks8.getD 6 []))) w:=by kernel_rfl
theorem mk8_i7 (w:World):(Instr.index 195 mkA8 (.int .i64 7)).run Tryz.prog w=.ok (.string (bs (Vm.marks8.getD 7 []))) w:=by kernel_rfl
theorem mk8_i8 (w:World):(Instr.index 195 mkA8 (.int .i64 8)).run Tryz.prog w=.ok (.string (bs (Vm.marks8.getD 8 []))) w:=by kernel_rfl
theorem mk8_i9 (w:World):(Instr.index 195 mkA8 (.int .i64 9)).run Tryz.prog w=.ok (.string (bs (Vm.marks8.getD 9 []))) w:=by kernel_rfl
theorem mk8_i10 (w:World):(Instr.index 195 mkA8 (.int .i64 10)).run Tryz.prog w=.ok (.string (bs (Vm.marks8.getD 10 []))) w:=by kernel_rfl
theorem mk8_idx (w:World):∀(k:Nat),k<11->(Instr.index 195 mkA8 (.int .i64 (k:Int))).run Tryz.prog w=.ok (.string (bs (Vm.marks8.getD k []))) w:=by
 intro k hk
 match k,hk with
 | 0,_=>exact mk8_i0 w
 | 1,_=>exact mk8_i1 w
 | 2,_=>exact mk8_i2 w
 | 3,_=>exact mk8_i3 w
 | 4,_=>exact mk8_i4 w
 | 5,_=>exact mk8_i5 w
 | 6,_=>exact mk8_i6 w
 | 7,_=>exact mk8_i7 w
 | 8,_=>exact mk8_i8 w
 | 9,_=>exact mk8_i9 w
 | 10,_=>exact mk8_i10 w
theorem jl:∀ i,i<11->∀ j,j<11->Vm.marks8.getD i []=Vm.marks8.getD j []->i=j:=by decide
theorem kv {w:World}(hm:Mk8 w) {k:Nat}(hk:k<11) {s:Bs}(hs:s=Vm.marks8.getD k []):Calls Tryz.prog 145 #[.string (bs s)] w fun e w'=>e=.returned (iA ⟨9,(k:Int),0⟩)/\Below w.heap.size w w':=by
 obtain⟨w1,hw1⟩:∃ w1,w1=w.alloc (.cells #[.int .i64 0,.int .i64 0,.int .i64 0] 68):=⟨_,rfl⟩
 obtain⟨HB,hl,c0,c1,c2⟩:=zT hw1
 have hld:=mk8_load (hm.on HB.out)
 have hz:w1.heap[w.heap.size]?=some (.cells #[.int .i64 0,.int .i64 0,.int .i64 0] 68 (0,0)):=by rw[hw1];exact zw _ _
 have f0:∀ j,w1.frozen? ⟨w.heap.size,j,none⟩=false:=fun j=>zr hz
 have HZ:=zh hz
 have HS:=zh hs
 clear hm hz hs
 go_enter Tryz.func145,Tryz.ntmps145
 go_upto_region 1 with fail
 rw[<-hw1]
 clear hw1
 go_wp2_with (refine jO rfl 195 (.global 1) rfl mkA8 hld ?_)
 go_loopg [6] 11 (fun kk vi wr=>∃ i:Nat,i<=k/\kk=11 - i/\vi=.int .i64 (i:Int)/\wr=w1)
 case atStart=>exact⟨0,by omega,by omega,rfl,rfl⟩
 case round =>
  obtain⟨i,hid,hkk,rfl,rfl⟩:=hrel
  have hlt:i<11:=by omega
  have hlt':(i:Int)<11:=by omega
  have hix:=mk8_idx wr i hlt
  obtain⟨d,hd⟩:∃ d,((bs (Vm.marks8.getD i [])).toList == (bs s).toList)=d:=⟨_,rfl⟩
  have HD:Hid (d=true↔i=k):=by
   show _↔_
   rw[<-hd,zu,zu,beq_iff_eq,HS.out]
   exact⟨jl i hlt k hk,fun q=>by rw[q]⟩
  cases d with
  | true =>
   have HF:Hid (i=k):=HD.out.1 rfl
   clear HD
   have HW:Hid (∀ a,Below w.heap.size w (wr.setCell ⟨w.heap.size,0,none⟩ a)):=fun a=>HB.out.setCell zn a
   generalize bs (Vm.marks8.getD i [])=y at *
   go_wp2_with fail
   have h3:=zC 2 (.int .i64 0) (zC 1 (.int .i64 (i:Int)) (zC 0 (.int .i64 9) HZ.out))
   have hc:∀ j,(((wr.setCell ⟨w.heap.size,0,none⟩ (.int .i64 9)).setCell ⟨w.heap.size,1,none⟩ (.int .i64 (i:Int))).setCell ⟨w.heap.size,2,none⟩ (.int .i64 0)).cell? ⟨w.heap.size,j,none⟩=_:=fun j=>zc h3
   refine bodyPost_ret (v:=.agg #[.int .i64 9,.int .i64 (i:Int),.int .i64 0]) (by simp[results,Tryz.results145,go_sem,hc]) rfl ⟨by rw[HF.out];rfl,((HW.out _).setCell zn _).setCell zn _⟩
  | false =>
   have HN:Hid (i≠k):=fun q=>by have:=HD.out.2 q;cases this
   clear HD
   have hik:i+1<=k:=by have:=HN.out;omega
   generalize bs (Vm.marks8.getD i [])=y at *
   go_wp2_with fail
   go_roundg (11 - (i+1))
   case measure=>omega
   case rel=>exact⟨i+1,hik,rfl,by go_num,rfl⟩
theorem zR (v:Value) (w:World):Calls Tryz.prog 140 #[v] w fun e w'=>e=.returned (.tuple #[v,.bool true])/\w'=w:=by
 go_enter Tryz.func140,Tryz.ntmps140
 go_wp2_with fail
 go_ret2
 exact⟨rfl,rfl⟩
theorem goesOn_any {x:In}{b:Bool}{w:World}(hm:Mk8 w) (hx:x.op=9->0<=x.a/\x.a<11) (hb:Hid (b=Vm.goonB x)):Calls Tryz.prog 87 #[iA x] w (SaysB w b):=by
 obtain⟨op,xa,xb⟩:=x
 have hx:op=9->0<=xa/\xa<11:=hx
 unfold iA
 obtain⟨w0,hw0⟩:∃ w0,w0=w.alloc (.cells #[.int .i64 op,.int .i64 xa,.int .i64 xb] 68):=⟨_,rfl⟩
 obtain⟨HB,hl,c0,c1,c2⟩:=zT hw0
 have HM:=zh (hm.on HB.out)
 clear hm
 have hcs:(op=1\/op=2\/op=3\/op=4\/op=6\/op=10\/op=11)\/op=5\/op=9\/(¬op=1/\¬op=2/\¬op=3/\¬op=4/\¬op=6/\¬op=10/\¬op=11/\¬op=5/\¬op=9):=by omega
 rcases hcs with hA|rfl|rfl|⟨h1,h2,h3,h4,h6,h10,h11,h5,h9⟩
 ·have hb':b=true:=by
   rw[hb.out]
   unfold Vm.goonB
   exact decide_eq_true (by show op=1\/op=2\/op=3\/op=4\/op=6\/op=10\/op=11\/(op=5/\xb<0)\/(op=9/\xa≠3/\xa≠4);omega)
  subst hb'
  clear hb HM hx
  rcases hA with rfl|rfl|rfl|rfl|rfl|rfl|rfl
  all_goals
   go_enter Tryz.func87,Tryz.ntmps87
   go_upto_region 1 with fail
   rw[<-hw0]
   clear hw0
   go_wp2_with fail
   go_ret
   exact⟨rfl,HB.out⟩
 ·have HQ:Hid (b=decide (xb<0)):=by
   show b=_
   rw[hb.out]
   unfold Vm.goonB
   by_cases q:xb<0
   ·rw[decide_eq_true q];exact decide_eq_true (by simp[q])
   ·rw[decide_eq_false q];exact decide_eq_false (by simp[q])
  clear hb HM hx
  go_enter Tryz.func87,Tryz.ntmps87
  go_upto_region 1 with fail
  rw[<-hw0]
  clear hw0
  go_wp2_with fail
  go_ret
  refine⟨?_,HB.out⟩
  rw[HQ.out];rfl
 ·obtain⟨k0,k1⟩:=hx rfl
  obtain⟨d,hd⟩:∃ d,d=decide (xa=3\/xa=4):=⟨_,rfl⟩
  have HQ:Hid (b=!d):=by
   show b=_
   rw[hb.out,hd]
   unfold Vm.goonB
   by_cases q:xa=3\/xa=4
   ·rw[decide_eq_true q];exact decide_eq_false (by simp;omega)
   ·rw[decide_eq_false q];exact decide_eq_true (by simp;omega)
  have HD:Hid (d=true↔Vm.sgn ⟨9,xa,xb⟩=Tp.wDiv\/Vm.sgn ⟨9,xa,xb⟩=Tp.wMod):=by
   show _↔_
   have hk:xa.toNat<11:=by omega
   have e3:Vm.sgn ⟨9,xa,xb⟩=Tp.wDiv↔xa=3:=⟨fun q=>by have:=jl _ hk 3 (by omega) q;omega,fun q=>by rw[q];rfl⟩
   have e4:Vm.sgn ⟨9,xa,xb⟩=Tp.wMod↔xa=4:=⟨fun q=>by have:=jl _ hk 4 (by omega) q;omega,fun q=>by rw[q];rfl⟩
   rw[hd,decide_eq_true_iff,e3,e4]
  have HDV:=zh (kN (x:=⟨9,xa,xb⟩) HM.out k0 k1 HD)
  unfold iA at HDV
  clear hb HM hx hd k0 k1 HD
  go_enter Tryz.func87,Tryz.ntmps87
  go_upto_region 1 with fail
  rw[<-hw0]
  clear hw0
  go_wp2_with fail
  refine HDV.out.mono ?_
  rintro e w1 ⟨rfl,hb1⟩
  have HB1:=zh hb1
  clear hb1
  go_wp2_with fail
  all_goals
   go_ret
   refine⟨?_,HB.out.trans (HB1.out.mono HB.out.size)⟩
   rw[HQ.out];rfl
 ·have hb':b=false:=by
   rw[hb.out]
   unfold Vm.goonB
   exact decide_eq_false (by show ¬(op=1\/op=2\/op=3\/op=4\/op=6\/op=10\/op=11\/(op=5/\xb<0)\/(op=9/\xa≠3/\xa≠4));omega)
  subst hb'
  clear hb HM hx
  go_enter Tryz.func87,Tryz.ntmps87
  go_upto_region 1 with fail
  rw[<-hw0]
  clear hw0
  go_wp2_with fail
  go_ret
  exact⟨rfl,HB.out⟩
theorem yr {w:World}{base base' e size n:Nat}{v:Value}{xs:List Value}(h:w.ownsRow base' e size v n xs) (hb:base<=base'):w.ownsRow base e size v n xs:=by
 refine⟨h.1,?_⟩
 rcases h.2 with q|⟨g,cap,cur,rfl,q1,q2⟩
 ·exact Or.inl q
 ·exact Or.inr ⟨g,cap,cur,rfl,Nat.le_trans hb q1,q2⟩
def ByP (w:World) (r:Option (List In)) (e:Ending) (w':World):Prop:=∃ v ok,e=.returned (.tuple #[v,.bool ok])/\Below w.heap.size w w'/\(∀ l,r=some l->ok=true/\w'.ownsRow w.heap.size 68 3 v l.length (cellsOf inC l))/\(r=none->ok=false)
theorem zH {w w':World}(hb:Below w.heap.size w w') (v:Value):ByP w none (.returned (.tuple #[v,.bool false])) w':=⟨v,false,rfl,hb,fun _ q=>(by cases q),fun _=>rfl⟩
theorem yJ {w w':World}(hb:Below w.heap.size w w'):ByP w (some []) (.returned (.tuple #[.slice none 0 0,.bool true])) w':=⟨_,true,rfl,hb,fun l q=>by
 cases q
 exact⟨rfl,World.ownsRow_nil _ _ _ _⟩,fun q=>by cases q⟩
theorem xO {w w1:World}(hb:Below w.heap.size w w1) (l:List In) (hl:0<l.length) (hn:l.length<=10) {cs:Array Value}(hc:cs=(cellsOf inC l).toArray):ByP w (some l) (.returned (.tuple #[.slice (some ⟨w1.heap.size,0,none⟩) l.length l.length,.bool true])) (w1.alloc (.cells cs 68)):=by
 refine⟨_,true,rfl,hb.alloc hb.size _,fun l' q=>?_,fun q=>by cases q⟩
 cases q
 have e:(cellsOf inC l).length=l.length * 3:=kg jn l
 refine⟨rfl,e,Or.inr ⟨_,_,_,rfl,hb.size,zw _ _,Nat.le_refl _,by unfold maxLen;omega,by rw[hc];simpa using e,?_⟩⟩
 rw[hc,<-e]
 simp
theorem zY {w w1:World}(hb:Below w.heap.size w w1) (x:In):ByP w (some [x]) (.returned (.tuple #[.slice (some ⟨w1.heap.size,0,none⟩) 1 1,.bool true])) (w1.alloc (.cells #[.int .i64 x.op,.int .i64 x.a,.int .i64 x.b] 68)):=xO hb [x] (by simp) (by simp) rfl
theorem byP_two {w w1:World}(hb:Below w.heap.size w w1) (x y:In):ByP w (some [x,y]) (.returned (.tuple #[.slice (some ⟨w1.heap.size,0,none⟩) 2 2,.bool true])) (w1.alloc (.cells #[.int .i64 x.op,.int .i64 x.a,.int .i64 x.b,.int .i64 y.op,.int .i64 y.a,.int .i64 y.b] 68)):=xO hb [x,y] (by simp) (by simp) rfl
theorem ByP.ahead {w w1:World}{r:Option (List In)}{e:Ending}{w':World}(hb:Below w.heap.size w w1) (h:ByP w1 r e w'):ByP w r e w':=by
 obtain⟨v,ok,h1,h2,h3,h4⟩:=h
 exact⟨v,ok,h1,hb.trans (h2.mono hb.size),fun l q=>⟨(h3 l q).1,yr (h3 l q).2 hb.size⟩,h4⟩
theorem kM {y m:Bs}(h:y=m):((bs y).toList == m)=true:=by rw[zu,h];exact beq_self_eq_true m
theorem zL {y m:Bs}(h:¬y=m):((bs y).toList == m)=false:=by rw[zu];exact beq_false_of_ne h
theorem kH {x:In}{w:World}(hm:Mk8 w) (h0:0<=x.a) (h1:x.a<11):Calls Tryz.prog 139 #[iA x] w (ByP w ((Vm.notOf (Vm.sgn x)).map fun k=>[⟨9,k,0⟩])):=by
 have hs:=hm.sgn h0 h1
 have hg:=hm.lt
 obtain⟨y,hy⟩:∃ y,y=Vm.sgn x:=⟨_,rfl⟩
 rw[<-hy]at hs ⊢
 clear hy
 obtain⟨op,xa,xb⟩:=x
 have h0:0<=xa:=h0
 obtain⟨k,hk⟩:=Int.eq_ofNat_of_zero_le h0
 subst hk
 have hk:(k:Int)<11:=h1
 have hs:w.cell? ⟨1,k,none⟩=some (.string (bs y)):=hs
 unfold iA
 obtain⟨w0,hw0⟩:∃ w0,w0=w.alloc (.cells #[.int .i64 op,.int .i64 (k:Int),.int .i64 xb] 68):=⟨_,rfl⟩
 obtain⟨HB,hl,c0,c1,c2⟩:=zT hw0
 have hs0:w0.cell? ⟨1,k,none⟩=some (.string (bs y)):=(HB.out.cell (p:=⟨1,k,none⟩) hg).trans hs
 have hg0:1<w0.heap.size:=Nat.lt_of_lt_of_le hg HB.out.size
 have HM:=zh (hm.on HB.out)
 clear hs h1 h0 hm
 by_cases k0:y=Tp.mEq
 ·have HR:Hid ((Vm.notOf y).map (fun k=>[(⟨9,k,0⟩:In)])=some [⟨9,6,0⟩]):=by rw[k0];rfl
  have q0:((bs y).toList == [61])=true:=kM k0
  have HDO:Hid (Calls Tryz.prog 145 #[.string ⟨#[35]⟩] w0 fun e w'=>e=.returned (iA ⟨9,6,0⟩)/\Below w0.heap.size w0 w'):=kv HM.out (k:=6) (by omega) (s:=[35]) rfl
  rw[HR.out]
  clear HR k0
  generalize bs y=z at *
  go_enter Tryz.func139,Tryz.ntmps139
  go_upto_region 1 with fail
  rw[<-hw0]
  clear hw0
  go_wp2_with fail
  refine HDO.out.mono ?_
  rintro e w1 ⟨rfl,hb1⟩
  have HB1:=zh hb1
  clear hb1
  unfold iA
  go_wp2_with fail
  refine(zR _ _).mono ?_
  rintro e w2 ⟨rfl,rfl⟩
  go_wp2_with fail
  go_ret2
  exact zY (HB.out.trans (HB1.out.mono HB.out.size)) ⟨9,6,0⟩
 by_cases k1:y=Tp.mNe
 ·have HR:Hid ((Vm.notOf y).map (fun k=>[(⟨9,k,0⟩:In)])=some [⟨9,5,0⟩]):=by rw[k1];rfl
  have q1:((bs y).toList == [35])=true:=kM k1
  have q0:((bs y).toList == [61])=false:=zL k0
  have HDO:Hid (Calls Tryz.prog 145 #[.string ⟨#[61]⟩] w0 fun e w'=>e=.returned (iA ⟨9,5,0⟩)/\Below w0.heap.size w0 w'):=kv HM.out (k:=5) (by omega) (s:=[61]) rfl
  rw[HR.out]
  clear HR k0 k1
  generalize bs y=z at *
  go_enter Tryz.func139,Tryz.ntmps139
  go_upto_region 1 with fail
  rw[<-hw0]
  clear hw0
  go_wp2_with fail
  refine HDO.out.mono ?_
  rintro e w1 ⟨rfl,hb1⟩
  have HB1:=zh hb1
  clear hb1
  unfold iA
  go_wp2_with fail
  refine(zR _ _).mono ?_
  rintro e w2 ⟨rfl,rfl⟩
  go_wp2_with fail
  go_ret2
  exact zY (HB.out.trans (HB1.out.mono HB.out.size)) ⟨9,5,0⟩
 by_cases k2:y=Tp.mMinus
 ·have HR:Hid ((Vm.notOf y).map (fun k=>[(⟨9,k,0⟩:In)])=some [⟨9,5,0⟩]):=by rw[k2];rfl
  have q2:((bs y).toList == [45])=true:=kM k2
  have q0:((bs y).toList == [61])=false:=zL k0
  have q1:((bs y).toList == [35])=false:=zL k1
  have HDO:Hid (Calls Tryz.prog 145 #[.string ⟨#[61]⟩] w0 fun e w'=>e=.returned (iA ⟨9,5,0⟩)/\Below w0.heap.size w0 w'):=kv HM.out (k:=5) (by omega) (s:=[61]) rfl
  rw[HR.out]
  clear HR k0 k1 k2
  generalize bs y=z at *
  go_enter Tryz.func139,Tryz.ntmps139
  go_upto_region 1 with fail
  rw[<-hw0]
  clear hw0
  go_wp2_with fail
  refine HDO.out.mono ?_
  rintro e w1 ⟨rfl,hb1⟩
  have HB1:=zh hb1
  clear hb1
  unfold iA
  go_wp2_with fail
  refine(zR _ _).mono ?_
  rintro e w2 ⟨rfl,rfl⟩
  go_wp2_with fail
  go_ret2
  exact zY (HB.out.trans (HB1.out.mono HB.out.size)) ⟨9,5,0⟩
 by_cases k3:y=Tp.mLt
 ·have HR:Hid ((Vm.notOf y).map (fun k=>[(⟨9,k,0⟩:In)])=some [⟨9,10,0⟩]):=by rw[k3];rfl
  have q3:((bs y).toList == [60])=true:=kM k3
  have q0:((bs y).toList == [61])=false:=zL k0
  have q1:((bs y).toList == [35])=false:=zL k1
  have q2:((bs y).toList == [45])=false:=zL k2
  have HDO:Hid (Calls Tryz.prog 145 #[.string ⟨#[62,61]⟩] w0 fun e w'=>e=.returned (iA ⟨9,10,0⟩)/\Below w0.heap.size w0 w'):=kv HM.out (k:=10) (by omega) (s:=[62,61]) rfl
  rw[HR.out]
  clear HR k0 k1 k2 k3
  generalize bs y=z at *
  go_enter Tryz.func139,Tryz.ntmps139
  go_upto_region 1 with fail
  rw[<-hw0]
  clear hw0
  go_wp2_with fail
  refine HDO.out.mono ?_
  rintro e w1 ⟨rfl,hb1⟩
  have HB1:=zh hb1
  clear hb1
  unfold iA
  go_wp2_with fail
  refine(zR _ _).mono ?_
  rintro e w2 ⟨rfl,rfl⟩
  go_wp2_with fail
  go_ret2
  exact zY (HB.out.trans (HB1.out.mono HB.out.size)) ⟨9,10,0⟩
 by_cases k4:y=Tp.mLe
 ·have HR:Hid ((Vm.notOf y).map (fun k=>[(⟨9,k,0⟩:In)])=some [⟨9,9,0⟩]):=by rw[k4];rfl
  have q4:((bs y).toList == [60,61])=true:=kM k4
  have q0:((bs y).toList == [61])=false:=zL k0
  have q1:((bs y).toList == [35])=false:=zL k1
  have q2:((bs y).toList == [45])=false:=zL k2
  have q3:((bs y).toList == [60])=false:=zL k3
  have HDO:Hid (Calls Tryz.prog 145 #[.string ⟨#[62]⟩] w0 fun e w'=>e=.returned (iA ⟨9,9,0⟩)/\Below w0.heap.size w0 w'):=kv HM.out (k:=9) (by omega) (s:=[62]) rfl
  rw[HR.out]
  clear HR k0 k1 k2 k3 k4
  generalize bs y=z at *
  go_enter Tryz.func139,Tryz.ntmps139
  go_upto_region 1 with fail
  rw[<-hw0]
  clear hw0
  go_wp2_with fail
  refine HDO.out.mono ?_
  rintro e w1 ⟨rfl,hb1⟩
  have HB1:=zh hb1
  clear hb1
  unfold iA
  go_wp2_with fail
  refine(zR _ _).mono ?_
  rintro e w2 ⟨rfl,rfl⟩
  go_wp2_with fail
  go_ret2
  exact zY (HB.out.trans (HB1.out.mono HB.out.size)) ⟨9,9,0⟩
 by_cases k5:y=Tp.mGt
 ·have HR:Hid ((Vm.notOf y).map (fun k=>[(⟨9,k,0⟩:In)])=some [⟨9,8,0⟩]):=by rw[k5];rfl
  have q5:((bs y).toList == [62])=true:=kM k5
  have q0:((bs y).toList == [61])=false:=zL k0
  have q1:((bs y).toList == [35])=false:=zL k1
  have q2:((bs y).toList == [45])=false:=zL k2
  have q3:((bs y).toList == [60])=false:=zL k3
  have q4:((bs y).toList == [60,61])=false:=zL k4
  have HDO:Hid (Calls Tryz.prog 145 #[.string ⟨#[60,61]⟩] w0 fun e w'=>e=.returned (iA ⟨9,8,0⟩)/\Below w0.heap.size w0 w'):=kv HM.out (k:=8) (by omega) (s:=[60,61]) rfl
  rw[HR.out]
  clear HR k0 k1 k2 k3 k4 k5
  generalize bs y=z at *
  go_enter Tryz.func139,Tryz.ntmps139
  go_upto_region 1 with fail
  rw[<-hw0]
  clear hw0
  go_wp2_with fail
  refine HDO.out.mono ?_
  rintro e w1 ⟨rfl,hb1⟩
  have HB1:=zh hb1
  clear hb1
  unfold iA
  go_wp2_with fail
  refine(zR _ _).mono ?_
  rintro e w2 ⟨rfl,rfl⟩
  go_wp2_with fail
  go_ret2
  exact zY (HB.out.trans (HB1.out.mono HB.out.size)) ⟨9,8,0⟩
 by_cases k6:y=Tp.mGe
 ·have HR:Hid ((Vm.notOf y).map (fun k=>[(⟨9,k,0⟩:In)])=some [⟨9,7,0⟩]):=by rw[k6];rfl
  have q6:((bs y).toList == [62,61])=true:=kM k6
  have q0:((bs y).toList == [61])=false:=zL k0
  have q1:((bs y).toList == [35])=false:=zL k1
  have q2:((bs y).toList == [45])=false:=zL k2
  have q3:((bs y).toList == [60])=false:=zL k3
  have q4:((bs y).toList == [60,61])=false:=zL k4
  have q5:((bs y).toList == [62])=false:=zL k5
  have HDO:Hid (Calls Tryz.prog 145 #[.string ⟨#[60]⟩] w0 fun e w'=>e=.returned (iA ⟨9,7,0⟩)/\Below w0.heap.size w0 w'):=kv HM.out (k:=7) (by omega) (s:=[60]) rfl
  rw[HR.out]
  clear HR k0 k1 k2 k3 k4 k5 k6
  generalize bs y=z at *
  go_enter Tryz.func139,Tryz.ntmps139
  go_upto_region 1 with fail
  rw[<-hw0]
  clear hw0
  go_wp2_with fail
  refine HDO.out.mono ?_
  rintro e w1 ⟨rfl,hb1⟩
  have HB1:=zh hb1
  clear hb1
  unfold iA
  go_wp2_with fail
  refine(zR _ _).mono ?_
  rintro e w2 ⟨rfl,rfl⟩
  go_wp2_with fail
  go_ret2
  exact zY (HB.out.trans (HB1.out.mono HB.out.size)) ⟨9,7,0⟩
 have HR:Hid ((Vm.notOf y).map (fun k=>[(⟨9,k,0⟩:In)])=none):=by
  show _=_
  unfold Vm.notOf
  rw[if_neg k0,if_neg (fun q=>q.elim k1 k2),if_neg k3,if_neg k4,if_neg k5,if_neg k6]
  rfl
 have q0:((bs y).toList == [61])=false:=zL k0
 have q1:((bs y).toList == [35])=false:=zL k1
 have q2:((bs y).toList == [45])=false:=zL k2
 have q3:((bs y).toList == [60])=false:=zL k3
 have q4:((bs y).toList == [60,61])=false:=zL k4
 have q5:((bs y).toList == [62])=false:=zL k5
 have q6:((bs y).toList == [62,61])=false:=zL k6
 rw[HR.out]
 clear HR k0 k1 k2 k3 k4 k5 k6
 generalize bs y=z at *
 go_enter Tryz.func139,Tryz.ntmps139
 go_upto_region 1 with fail
 rw[<-hw0]
 clear hw0
 go_wp2_with fail
 go_ret2
 exact zH HB.out _
theorem zv {w w':World}{b j:Nat}{v:Value}(hb:Below w.heap.size w w') (h:w.cell? ⟨b,j,none⟩=some v):w'.cell? ⟨b,j,none⟩=some v:=(hb.cell (p:=⟨b,j,none⟩) (zi h)).trans h
theorem jT {x:In}{w:World}(hm:Mk8 w) (hx:x.op=9->0<=x.a/\x.a<11):Calls Tryz.prog 138 #[iA x] w (ByP w (Vm.aheadOfPop x)):=by
 obtain⟨op,xa,xb⟩:=x
 have hx:op=9->0<=xa/\xa<11:=hx
 unfold iA
 obtain⟨w0,hw0⟩:∃ w0,w0=w.alloc (.cells #[.int .i64 op,.int .i64 xa,.int .i64 xb] 68):=⟨_,rfl⟩
 obtain⟨HB,hl,c0,c1,c2⟩:=zT hw0
 have HM:=zh (hm.on HB.out)
 clear hm
 have hcs:op=3\/(op=5/\xb<0)\/op=11\/op=9\/(op=5/\¬xb<0)\/(¬op=3/\¬op=5/\¬op=11/\¬op=9):=by omega
 obtain⟨r,hr⟩:∃ r,r=Vm.aheadOfPop ⟨op,xa,xb⟩:=⟨_,rfl⟩
 rw[<-hr]
 have HR:Hid (r=_):=hr
 unfold Vm.aheadOfPop at HR
 clear hr
 rcases hcs with rfl|⟨rfl,hb⟩|rfl|rfl|⟨rfl,hb⟩|⟨n3,n5,n11,n9⟩
 ·have HE:Hid (r=some []):=by show r=_;rw[HR.out];exact if_pos (Or.inl rfl)
  clear HR
  rw[HE.out]
  go_enter Tryz.func138,Tryz.ntmps138
  go_upto_region 1 with fail
  rw[<-hw0]
  clear hw0
  go_wp2_with fail
  refine(zX _ _).mono ?_
  rintro e w1 ⟨rfl,hb1⟩
  have HB1:=zh hb1
  clear hb1
  unfold iA
  go_upto_region 2 with fail
  obtain⟨w2,hw2⟩:∃ w2,w2=w1.alloc (.cells #[.int .i64 2,.int .i64 0,.int .i64 0] 68):=⟨_,rfl⟩
  obtain⟨HB2,hl2,p0,p1,p2⟩:=zT hw2
  rw[<-hw2]
  clear hw2
  have HB02:Hid (Below w0.heap.size w0 w2):=HB1.out.trans (HB2.out.mono HB1.out.size)
  have HBW:Hid (Below w.heap.size w w2):=HB.out.trans (HB02.out.mono HB.out.size)
  have d0:=zv HB02.out c0
  have d1:=zv HB02.out c1
  have d2:=zv HB02.out c2
  have hlw:w.heap.size<w2.heap.size:=zi d0
  clear HM c0 c1 c2 hl
  go_wp2_with fail
  refine(zR _ _).mono ?_
  rintro e _ ⟨rfl,rfl⟩
  go_wp2_with fail
  go_ret2
  exact yJ HBW.out
 ·have HE:Hid (r=some []):=by show r=_;rw[HR.out];exact if_pos (Or.inr ⟨rfl,hb⟩)
  clear HR
  rw[HE.out]
  go_enter Tryz.func138,Tryz.ntmps138
  go_upto_region 1 with fail
  rw[<-hw0]
  clear hw0
  go_wp2_with fail
  refine(zX _ _).mono ?_
  rintro e w1 ⟨rfl,hb1⟩
  have HB1:=zh hb1
  clear hb1
  unfold iA
  go_upto_region 2 with fail
  obtain⟨w2,hw2⟩:∃ w2,w2=w1.alloc (.cells #[.int .i64 2,.int .i64 0,.int .i64 0] 68):=⟨_,rfl⟩
  obtain⟨HB2,hl2,p0,p1,p2⟩:=zT hw2
  rw[<-hw2]
  clear hw2
  have HB02:Hid (Below w0.heap.size w0 w2):=HB1.out.trans (HB2.out.mono HB1.out.size)
  have HBW:Hid (Below w.heap.size w w2):=HB.out.trans (HB02.out.mono HB.out.size)
  have d0:=zv HB02.out c0
  have d1:=zv HB02.out c1
  have d2:=zv HB02.out c2
  have hlw:w.heap.size<w2.heap.size:=zi d0
  clear HM c0 c1 c2 hl
  go_wp2_with fail
  refine(zR _ _).mono ?_
  rintro e _ ⟨rfl,rfl⟩
  go_wp2_with fail
  go_ret2
  exact yJ HBW.out
 ·have HE:Hid (r=some [⟨2,0,0⟩]):=by show r=_;rw[HR.out];rfl
  clear HR
  rw[HE.out]
  go_enter Tryz.func138,Tryz.ntmps138
  go_upto_region 1 with fail
  rw[<-hw0]
  clear hw0
  go_wp2_with fail
  refine(zX _ _).mono ?_
  rintro e w1 ⟨rfl,hb1⟩
  have HB1:=zh hb1
  clear hb1
  unfold iA
  go_upto_region 2 with fail
  obtain⟨w2,hw2⟩:∃ w2,w2=w1.alloc (.cells #[.int .i64 2,.int .i64 0,.int .i64 0] 68):=⟨_,rfl⟩
  obtain⟨HB2,hl2,p0,p1,p2⟩:=zT hw2
  rw[<-hw2]
  clear hw2
  have HB02:Hid (Below w0.heap.size w0 w2):=HB1.out.trans (HB2.out.mono HB1.out.size)
  have HBW:Hid (Below w.heap.size w w2):=HB.out.trans (HB02.out.mono HB.out.size)
  have d0:=zv HB02.out c0
  have d1:=zv HB02.out c1
  have d2:=zv HB02.out c2
  have hlw:w.heap.size<w2.heap.size:=zi d0
  clear HM c0 c1 c2 hl
  go_wp2_with fail
  refine(zR _ _).mono ?_
  rintro e _ ⟨rfl,rfl⟩
  go_wp2_with fail
  go_ret2
  exact zY HBW.out ⟨2,0,0⟩
 ·obtain⟨k0,k1⟩:=hx rfl
  by_cases hd:Vm.sgn ⟨9,xa,xb⟩=Tp.wDiv\/Vm.sgn ⟨9,xa,xb⟩=Tp.wMod
  ·have HE:Hid (r=none):=by
    show r=_
    rw[HR.out,if_neg (by show ¬((9:Int)=3\/((9:Int)=5/\xb<0));omega),if_neg (by show ¬((9:Int)=11);omega),if_neg (fun q=>q.2 hd)]
   have HDV:Hid (∀ w2,Below w0.heap.size w0 w2->Calls Tryz.prog 120 #[.agg #[.int .i64 9,.int .i64 xa,.int .i64 xb]] w2 (SaysB w2 true)):=fun w2 hb=>kN (x:=⟨9,xa,xb⟩) (HM.out.on hb) k0 k1 ⟨fun _=>hd,fun _=>rfl⟩
   clear HR hd
   rw[HE.out]
   go_enter Tryz.func138,Tryz.ntmps138
   go_upto_region 1 with fail
   rw[<-hw0]
   clear hw0
   go_wp2_with fail
   refine(zX _ _).mono ?_
   rintro e w1 ⟨rfl,hb1⟩
   have HB1:=zh hb1
   clear hb1
   unfold iA
   go_upto_region 2 with fail
   obtain⟨w2,hw2⟩:∃ w2,w2=w1.alloc (.cells #[.int .i64 2,.int .i64 0,.int .i64 0] 68):=⟨_,rfl⟩
   obtain⟨HB2,hl2,p0,p1,p2⟩:=zT hw2
   rw[<-hw2]
   clear hw2
   have HB02:Hid (Below w0.heap.size w0 w2):=HB1.out.trans (HB2.out.mono HB1.out.size)
   have HBW:Hid (Below w.heap.size w w2):=HB.out.trans (HB02.out.mono HB.out.size)
   have d0:=zv HB02.out c0
   have d1:=zv HB02.out c1
   have d2:=zv HB02.out c2
   have hlw:w.heap.size<w2.heap.size:=zi d0
   clear HM c0 c1 c2 hl
   have HDC:=zh (HDV.out w2 HB02.out)
   clear HDV
   go_wp2_with fail
   refine HDC.out.mono ?_
   rintro e w3 ⟨rfl,hb3⟩
   have HB3:=zh hb3
   clear hb3
   go_wp2_with fail
   go_ret2
   exact zH (HBW.out.trans (HB3.out.mono HBW.out.size)) _
  ·have HE:Hid (r=some [⟨2,0,0⟩,⟨2,0,0⟩]):=by
    show r=_
    rw[HR.out,if_neg (by show ¬((9:Int)=3\/((9:Int)=5/\xb<0));omega),if_neg (by show ¬((9:Int)=11);omega),if_pos ⟨rfl,hd⟩]
   have HDV:Hid (∀ w2,Below w0.heap.size w0 w2->Calls Tryz.prog 120 #[.agg #[.int .i64 9,.int .i64 xa,.int .i64 xb]] w2 (SaysB w2 false)):=fun w2 hb=>kN (x:=⟨9,xa,xb⟩) (HM.out.on hb) k0 k1 ⟨fun q=>(by cases q),fun q=>absurd q hd⟩
   clear HR hd
   rw[HE.out]
   go_enter Tryz.func138,Tryz.ntmps138
   go_upto_region 1 with fail
   rw[<-hw0]
   clear hw0
   go_wp2_with fail
   refine(zX _ _).mono ?_
   rintro e w1 ⟨rfl,hb1⟩
   have HB1:=zh hb1
   clear hb1
   unfold iA
   go_upto_region 2 with fail
   obtain⟨w2,hw2⟩:∃ w2,w2=w1.alloc (.cells #[.int .i64 2,.int .i64 0,.int .i64 0] 68):=⟨_,rfl⟩
   obtain⟨HB2,hl2,p0,p1,p2⟩:=zT hw2
   rw[<-hw2]
   clear hw2
   have HB02:Hid (Below w0.heap.size w0 w2):=HB1.out.trans (HB2.out.mono HB1.out.size)
   have HBW:Hid (Below w.heap.size w w2):=HB.out.trans (HB02.out.mono HB.out.size)
   have d0:=zv HB02.out c0
   have d1:=zv HB02.out c1
   have d2:=zv HB02.out c2
   have hlw:w.heap.size<w2.heap.size:=zi d0
   clear HM c0 c1 c2 hl
   have HDC:=zh (HDV.out w2 HB02.out)
   clear HDV
   go_wp2_with fail
   refine HDC.out.mono ?_
   rintro e w3 ⟨rfl,hb3⟩
   have HB3:=zh hb3
   clear hb3
   have e0:=zv HB3.out p0
   have e1:=zv HB3.out p1
   have e2:=zv HB3.out p2
   have hl3:=zi e0
   go_wp2_with fail
   refine(zR _ _).mono ?_
   rintro e _ ⟨rfl,rfl⟩
   go_wp2_with fail
   go_ret2
   exact byP_two (HBW.out.trans (HB3.out.mono HBW.out.size)) ⟨2,0,0⟩ ⟨2,0,0⟩
 ·have HE:Hid (r=none):=by
   show r=_
   rw[HR.out,if_neg (by show ¬((5:Int)=3\/((5:Int)=5/\xb<0));omega),if_neg (by show ¬((5:Int)=11);omega),if_neg (fun q=>absurd (show (5:Int)=9 from q.1) (by omega))]
  clear HR
  rw[HE.out]
  go_enter Tryz.func138,Tryz.ntmps138
  go_upto_region 1 with fail
  rw[<-hw0]
  clear hw0
  go_wp2_with fail
  refine(zX _ _).mono ?_
  rintro e w1 ⟨rfl,hb1⟩
  have HB1:=zh hb1
  clear hb1
  unfold iA
  go_upto_region 2 with fail
  obtain⟨w2,hw2⟩:∃ w2,w2=w1.alloc (.cells #[.int .i64 2,.int .i64 0,.int .i64 0] 68):=⟨_,rfl⟩
  obtain⟨HB2,hl2,p0,p1,p2⟩:=zT hw2
  rw[<-hw2]
  clear hw2
  have HB02:Hid (Below w0.heap.size w0 w2):=HB1.out.trans (HB2.out.mono HB1.out.size)
  have HBW:Hid (Below w.heap.size w w2):=HB.out.trans (HB02.out.mono HB.out.size)
  have d0:=zv HB02.out c0
  have d1:=zv HB02.out c1
  have d2:=zv HB02.out c2
  have hlw:w.heap.size<w2.heap.size:=zi d0
  clear HM c0 c1 c2 hl
  go_wp2_with fail
  go_ret2
  exact zH HBW.out _
 ·have HE:Hid (r=none):=by
   show r=_
   rw[HR.out,if_neg (by show ¬(op=3\/(op=5/\xb<0));omega),if_neg (by show ¬(op=11);omega),if_neg (fun q=>absurd (show op=9 from q.1) (by omega))]
  clear HR
  rw[HE.out]
  go_enter Tryz.func138,Tryz.ntmps138
  go_upto_region 1 with fail
  rw[<-hw0]
  clear hw0
  go_wp2_with fail
  refine(zX _ _).mono ?_
  rintro e w1 ⟨rfl,hb1⟩
  have HB1:=zh hb1
  clear hb1
  unfold iA
  go_upto_region 2 with fail
  obtain⟨w2,hw2⟩:∃ w2,w2=w1.alloc (.cells #[.int .i64 2,.int .i64 0,.int .i64 0] 68):=⟨_,rfl⟩
  obtain⟨HB2,hl2,p0,p1,p2⟩:=zT hw2
  rw[<-hw2]
  clear hw2
  have HB02:Hid (Below w0.heap.size w0 w2):=HB1.out.trans (HB2.out.mono HB1.out.size)
  have HBW:Hid (Below w.heap.size w w2):=HB.out.trans (HB02.out.mono HB.out.size)
  have d0:=zv HB02.out c0
  have d1:=zv HB02.out c1
  have d2:=zv HB02.out c2
  have hlw:w.heap.size<w2.heap.size:=zi d0
  clear HM c0 c1 c2 hl
  go_wp2_with fail
  go_ret2
  exact zH HBW.out _
def dkB (d0 d1 d2 d3 d4 d5:Bool) (n:Int):Option (List In) :=
 if n=0 then (if d0=true\/d1=true then some [] else if d4=true then some [⟨11,0,0⟩] else if d5=true then some [⟨11,0,0⟩,⟨11,0,0⟩] else none)
 else if n=1 then (if d2=true\/d3=true then some [] else none)
 else if n=-1 then (if d2=true\/d3=true then some [⟨10,0,0⟩] else none) else none
theorem dkB_is (s:Bs) (n:Int):Vm.doKnown s n=dkB (decide (s=Tp.mPlus)) (decide (s=Tp.mMinus)) (decide (s=Tp.mStar)) (decide (s=Tp.wDiv)) (decide (s=Tp.mEq)) (decide (s=Tp.mNe)) n:=by
 unfold Vm.doKnown dkB
 by_cases h0:n=0
 ·subst h0
  simp
 by_cases h1:n=1
 ·subst h1
  simp
 by_cases h2:n=-1
 ·subst h2
  simp
 simp[h0,h1,h2]
theorem kB (s m:Bs):((bs s).toList == m)=decide (s=m):=by
 rw[zu]
 by_cases h:s=m
 ·rw[h,decide_eq_true rfl];exact beq_self_eq_true m
 ·rw[decide_eq_false h];exact beq_false_of_ne h
theorem ui (s:Bs) (n:Int) (w:World):Calls Tryz.prog 144 #[.string (bs s),.int .i64 n] w (ByP w (Vm.doKnown s n)):=by
 rw[dkB_is]
 have q0:((bs s).toList == [43])=decide (s=Tp.mPlus):=kB s Tp.mPlus
 generalize decide (s=Tp.mPlus)=d0 at *
 have q1:((bs s).toList == [45])=decide (s=Tp.mMinus):=kB s Tp.mMinus
 generalize decide (s=Tp.mMinus)=d1 at *
 have q2:((bs s).toList == [42])=decide (s=Tp.mStar):=kB s Tp.mStar
 generalize decide (s=Tp.mStar)=d2 at *
 have q3:((bs s).toList == [100,105,118])=decide (s=Tp.wDiv):=kB s Tp.wDiv
 generalize decide (s=Tp.wDiv)=d3 at *
 have q4:((bs s).toList == [61])=decide (s=Tp.mEq):=kB s Tp.mEq
 generalize decide (s=Tp.mEq)=d4 at *
 have q5:((bs s).toList == [35])=decide (s=Tp.mNe):=kB s Tp.mNe
 generalize decide (s=Tp.mNe)=d5 at *
 generalize bs s=z at *
 by_cases h0:n=0
 ·subst h0
  cases d0 with
  | true =>
   have HE:Hid (dkB true d1 d2 d3 d4 d5 0=some []):=rfl
   rw[HE.out]
   clear HE
   go_enter Tryz.func144,Tryz.ntmps144
   go_wp2_with fail
   refine(zR _ _).mono ?_
   rintro e _ ⟨rfl,rfl⟩
   go_wp2_with fail
   go_ret2
   exact yJ (Below.refl _ _)
  | false =>
   cases d1 with
   | true =>
    have HE:Hid (dkB false true d2 d3 d4 d5 0=some []):=rfl
    rw[HE.out]
    clear HE
    go_enter Tryz.func144,Tryz.ntmps144
    go_wp2_with fail
    refine(zR _ _).mono ?_
    rintro e _ ⟨rfl,rfl⟩
    go_wp2_with fail
    go_ret2
    exact yJ (Below.refl _ _)
   | false =>
    cases d4 with
    | true =>
     have HE:Hid (dkB false false d2 d3 true d5 0=some [⟨11,0,0⟩]):=rfl
     rw[HE.out]
     clear HE
     go_enter Tryz.func144,Tryz.ntmps144
     go_wp2_with fail
     refine(zX _ _).mono ?_
     rintro e w1 ⟨rfl,hb1⟩
     have HB1:=zh hb1
     clear hb1
     unfold iA
     go_wp2_with fail
     refine(zR _ _).mono ?_
     rintro e _ ⟨rfl,rfl⟩
     go_wp2_with fail
     go_ret2
     exact zY HB1.out ⟨11,0,0⟩
    | false =>
     cases d5 with
     | true =>
      have HE:Hid (dkB false false d2 d3 false true 0=some [⟨11,0,0⟩,⟨11,0,0⟩]):=rfl
      rw[HE.out]
      clear HE
      go_enter Tryz.func144,Tryz.ntmps144
      go_wp2_with fail
      refine(zX _ _).mono ?_
      rintro e w1 ⟨rfl,hb1⟩
      have HB1:=zh hb1
      clear hb1
      unfold iA
      go_wp2_with fail
      refine(zX _ _).mono ?_
      rintro e w2 ⟨rfl,hb2⟩
      have HB2:=zh hb2
      clear hb2
      unfold iA
      go_wp2_with fail
      refine(zR _ _).mono ?_
      rintro e _ ⟨rfl,rfl⟩
      go_wp2_with fail
      go_ret2
      exact byP_two (HB1.out.trans (HB2.out.mono HB1.out.size)) ⟨11,0,0⟩ ⟨11,0,0⟩
     | false =>
      have HE:Hid (dkB false false d2 d3 false false 0=none):=rfl
      rw[HE.out]
      clear HE
      go_enter Tryz.func144,Tryz.ntmps144
      go_wp2_with fail
      go_ret2
      exact zH (Below.refl _ _) _
 by_cases h1:n=1
 ·subst h1
  cases d2 with
  | true =>
   have HE:Hid (dkB d0 d1 true d3 d4 d5 1=some []):=rfl
   rw[HE.out]
   clear HE
   go_enter Tryz.func144,Tryz.ntmps144
   go_wp2_with fail
   refine(zR _ _).mono ?_
   rintro e _ ⟨rfl,rfl⟩
   go_wp2_with fail
   go_ret2
   exact yJ (Below.refl _ _)
  | false =>
   cases d3 with
   | true =>
    have HE:Hid (dkB d0 d1 false true d4 d5 1=some []):=rfl
    rw[HE.out]
    clear HE
    go_enter Tryz.func144,Tryz.ntmps144
    go_wp2_with fail
    refine(zR _ _).mono ?_
    rintro e _ ⟨rfl,rfl⟩
    go_wp2_with fail
    go_ret2
    exact yJ (Below.refl _ _)
   | false =>
    have HE:Hid (dkB d0 d1 false false d4 d5 1=none):=rfl
    rw[HE.out]
    clear HE
    go_enter Tryz.func144,Tryz.ntmps144
    go_wp2_with fail
    go_ret2
    exact zH (Below.refl _ _) _
 by_cases h2:n=-1
 ·subst h2
  cases d2 with
  | true =>
   have HE:Hid (dkB d0 d1 true d3 d4 d5 (-1)=some [⟨10,0,0⟩]):=rfl
   rw[HE.out]
   clear HE
   go_enter Tryz.func144,Tryz.ntmps144
   go_wp2_with fail
   refine(zX _ _).mono ?_
   rintro e w1 ⟨rfl,hb1⟩
   have HB1:=zh hb1
   clear hb1
   unfold iA
   go_wp2_with fail
   refine(zR _ _).mono ?_
   rintro e _ ⟨rfl,rfl⟩
   go_wp2_with fail
   go_ret2
   exact zY HB1.out ⟨10,0,0⟩
  | false =>
   cases d3 with
   | true =>
    have HE:Hid (dkB d0 d1 false true d4 d5 (-1)=some [⟨10,0,0⟩]):=rfl
    rw[HE.out]
    clear HE
    go_enter Tryz.func144,Tryz.ntmps144
    go_wp2_with fail
    refine(zX _ _).mono ?_
    rintro e w1 ⟨rfl,hb1⟩
    have HB1:=zh hb1
    clear hb1
    unfold iA
    go_wp2_with fail
    refine(zR _ _).mono ?_
    rintro e _ ⟨rfl,rfl⟩
    go_wp2_with fail
    go_ret2
    exact zY HB1.out ⟨10,0,0⟩
   | false =>
    have HE:Hid (dkB d0 d1 false false d4 d5 (-1)=none):=rfl
    rw[HE.out]
    clear HE
    go_enter Tryz.func144,Tryz.ntmps144
    go_wp2_with fail
    go_ret2
    exact zH (Below.refl _ _) _
 have HE:Hid (dkB d0 d1 d2 d3 d4 d5 n=none):=by unfold dkB;rw[if_neg h0,if_neg h1,if_neg h2];exact rfl
 rw[HE.out]
 clear HE
 go_enter Tryz.func144,Tryz.ntmps144
 go_wp2_with fail
 go_ret2
 exact zH (Below.refl _ _) _
end Go.Proofs.YtmnedfdffbbchaaGreatDoor.Jo

namespace Go.Proofs.YtmnedfdffbbchaaGreatDoor.Jo
open Go.RowKit Go.Sort
open Ob (O In I64)
open Tp (Bs)
theorem yt (d:Bool) (a b c a' b' c':Int) (hd:d=(a == a' && (b == b' && c == c'))) (w:World):(Op.equalIn 10000 68 (.agg #[.int .i64 a,.int .i64 b,.int .i64 c]) (.agg #[.int .i64 a',.int .i64 b',.int .i64 c'])).run Tryz.prog w=.ok d w:=by
 have hS:Tryz.prog.underlying 68=some (.struct (Tryz.prog.fieldsOf 68)):=by kernel_rfl
 have hp:Tryz.prog.stoodInHeld 68=false:=by kernel_rfl
 rw[show (10000:Nat)=9999+1 from rfl,run_equalIn_agg w 9999 68 _ _ hS hp,hd]
 simp only [Program.fieldsOf,Tryz.underlying68]
 go_simp
 by_cases h1:a=a' <;> by_cases h2:b=b' <;> by_cases h3:c=c' <;> simp[h1,h2,h3]
theorem yl {a b c a' b' c':Int}(h:¬(a=a'/\b=b'/\c=c')) (w:World):(Op.equalIn 10000 68 (.agg #[.int .i64 a,.int .i64 b,.int .i64 c]) (.agg #[.int .i64 a',.int .i64 b',.int .i64 c'])).run Tryz.prog w=.ok false w:=yt false a b c a' b' c' (by
 symm
 rw[Bool.and_eq_false_iff,Bool.and_eq_false_iff,beq_eq_false_iff_ne,beq_eq_false_iff_ne,beq_eq_false_iff_ne]
 by_cases h1:a=a'
 ·by_cases h2:b=b'
  ·exact Or.inr (Or.inr fun h3=>h ⟨h1,h2,h3⟩)
  ·exact Or.inr (Or.inl h2)
 ·exact Or.inl h1) w
theorem xP {y:In}{w:World}(hm:Mk8 w):Calls Tryz.prog 137 #[iA y] w (ByP w (Vm.behindNeg y)):=by
 obtain⟨op,xa,xb⟩:=y
 unfold iA
 obtain⟨w0,hw0⟩:∃ w0,w0=w.alloc (.cells #[.int .i64 op,.int .i64 xa,.int .i64 xb] 68):=⟨_,rfl⟩
 obtain⟨HB,hl,c0,c1,c2⟩:=zT hw0
 have HM:=zh (hm.on HB.out)
 clear hm
 have hcs:op=10\/(op=11\/op=13\/op=2)\/op=9\/(¬op=10/\¬op=11/\¬op=13/\¬op=2/\¬op=9):=by omega
 have Hw0:Hid (Below w0.heap.size w0 w0):=Below.refl _ _
 rcases hcs with rfl|hA|rfl|⟨n10,n11,n13,n2,n9⟩
 ·rw[show Vm.behindNeg ⟨10,xa,xb⟩=some [] from rfl]
  go_enter Tryz.func137,Tryz.ntmps137
  go_upto_region 1 with fail
  rw[<-hw0]
  clear hw0
  go_wp2_with fail
  refine(zR _ _).mono ?_
  rintro e _ ⟨rfl,rfl⟩
  go_wp2_with fail
  go_ret2
  exact yJ HB.out
 ·have HE:Hid (Vm.behindNeg ⟨op,xa,xb⟩=some [⟨op,xa,xb⟩]):=by
   show _=_
   unfold Vm.behindNeg
   rw[if_neg (by show ¬op=10;omega),if_pos hA]
  rw[HE.out]
  clear HE
  rcases hA with rfl|rfl|rfl
  all_goals
   go_enter Tryz.func137,Tryz.ntmps137
   go_upto_region 1 with fail
   rw[<-hw0]
   clear hw0
   go_wp2_with fail
   refine(zR _ _).mono ?_
   rintro e _ ⟨rfl,rfl⟩
   go_wp2_with fail
   go_ret2
   exact zY HB.out ⟨_,_,_⟩
 ·have HDO:Hid (∀(w1:World),Below w0.heap.size w0 w1->Calls Tryz.prog 145 #[.string ⟨#[43]⟩] w1 (fun e w'=>e=.returned (iA ⟨9,0,0⟩)/\Below w1.heap.size w1 w')/\Calls Tryz.prog 145 #[.string ⟨#[45]⟩] w1 (fun e w'=>e=.returned (iA ⟨9,1,0⟩)/\Below w1.heap.size w1 w')):=fun w1 hb=>⟨kv (HM.out.on hb) (k:=0) (by omega) (s:=[43]) rfl,kv (HM.out.on hb) (k:=1) (by omega) (s:=[45]) rfl⟩
  unfold iA at HDO
  clear HM
  by_cases h0:xa=0/\xb=0
  ·obtain⟨rfl,rfl⟩:=h0
   rw[show Vm.behindNeg ⟨9,0,0⟩=some [⟨9,1,0⟩] from rfl]
   go_enter Tryz.func137,Tryz.ntmps137
   go_upto_region 1 with fail
   rw[<-hw0]
   clear hw0
   go_wp2_with fail
   have g1:∀ d os,Calls Tryz.prog 145 #[.string ⟨#[43]⟩] (grow (redrawn w0 d) os) fun e w''=>e=.returned (.agg #[.int .i64 9,.int .i64 0,.int .i64 0])/\∃ p:Regrown,w''=grow (redrawn w0 p.d) p.os:=fun d os=>Calls.regrown_of (HDO.out _ ((Hw0.out).trans ((below_regrown w0 d os).mono Hw0.out.size))).1
   have x10:=cell_regrown (zv Hw0.out c0)
   have x11:=cell_regrown (zv Hw0.out c1)
   have x12:=cell_regrown (zv Hw0.out c2)
   have y1:∀ d os,w.heap.size<(grow (redrawn w0 d) os).heap.size:=fun d os=>zi (x10 d os)
   refine wp_region_quiet_below (by kernel_rfl) (by kernel_rfl) ?_
   repeat (quiet_step (first|(go_at_call 145;exact g1 _ _)))
   refine wpQuiet_nil ?_
   intro _ hw'
   obtain⟨⟨dq,osq⟩,hw''⟩:=hw'
   subst hw''
   obtain⟨w1,hw1⟩:∃ z,z=grow (redrawn w0 dq) osq:=⟨_,rfl⟩
   have Hw1:Hid (Below w0.heap.size w0 w1):=by rw[hw1];exact(Hw0.out).trans ((below_regrown w0 dq osq).mono Hw0.out.size)
   rw[<-hw1]
   clear hw1 g1 x10 x11 x12 y1
   have HC:=zh (HDO.out w1 Hw1.out).2
   clear HDO
   go_wp2_with fail
   refine HC.out.mono ?_
   rintro e w2 ⟨rfl,hb2⟩
   have HB2:=zh hb2
   clear hb2
   go_wp2_with fail
   refine(zR _ _).mono ?_
   rintro e _ ⟨rfl,rfl⟩
   go_wp2_with fail
   go_ret2
   exact zY (HB.out.trans ((Hw1.out.trans (HB2.out.mono Hw1.out.size)).mono HB.out.size)) ⟨9,1,0⟩
  by_cases h1:xa=1/\xb=0
  ·obtain⟨rfl,rfl⟩:=h1
   rw[show Vm.behindNeg ⟨9,1,0⟩=some [⟨9,0,0⟩] from rfl]
   go_enter Tryz.func137,Tryz.ntmps137
   go_upto_region 1 with fail
   rw[<-hw0]
   clear hw0
   go_wp2_with fail
   have g1:∀ d os,Calls Tryz.prog 145 #[.string ⟨#[43]⟩] (grow (redrawn w0 d) os) fun e w''=>e=.returned (.agg #[.int .i64 9,.int .i64 0,.int .i64 0])/\∃ p:Regrown,w''=grow (redrawn w0 p.d) p.os:=fun d os=>Calls.regrown_of (HDO.out _ ((Hw0.out).trans ((below_regrown w0 d os).mono Hw0.out.size))).1
   have x10:=cell_regrown (zv Hw0.out c0)
   have x11:=cell_regrown (zv Hw0.out c1)
   have x12:=cell_regrown (zv Hw0.out c2)
   have y1:∀ d os,w.heap.size<(grow (redrawn w0 d) os).heap.size:=fun d os=>zi (x10 d os)
   refine wp_region_quiet_below (by kernel_rfl) (by kernel_rfl) ?_
   repeat (quiet_step (first|(go_at_call 145;exact g1 _ _)))
   refine wpQuiet_nil ?_
   intro _ hw'
   obtain⟨⟨dq,osq⟩,hw''⟩:=hw'
   subst hw''
   obtain⟨w1,hw1⟩:∃ z,z=grow (redrawn w0 dq) osq:=⟨_,rfl⟩
   have Hw1:Hid (Below w0.heap.size w0 w1):=by rw[hw1];exact(Hw0.out).trans ((below_regrown w0 dq osq).mono Hw0.out.size)
   rw[<-hw1]
   clear hw1 g1 x10 x11 x12 y1
   go_upto_region 9 with fail
   have g2:∀ d os,Calls Tryz.prog 145 #[.string ⟨#[45]⟩] (grow (redrawn w1 d) os) fun e w''=>e=.returned (.agg #[.int .i64 9,.int .i64 1,.int .i64 0])/\∃ p:Regrown,w''=grow (redrawn w1 p.d) p.os:=fun d os=>Calls.regrown_of (HDO.out _ ((Hw1.out).trans ((below_regrown w1 d os).mono Hw1.out.size))).2
   have x20:=cell_regrown (zv Hw1.out c0)
   have x21:=cell_regrown (zv Hw1.out c1)
   have x22:=cell_regrown (zv Hw1.out c2)
   have y2:∀ d os,w.heap.size<(grow (redrawn w1 d) os).heap.size:=fun d os=>zi (x20 d os)
   refine wp_region_quiet_below (by kernel_rfl) (by kernel_rfl) ?_
   repeat (quiet_step (first|(go_at_call 145;exact g2 _ _)))
   refine wpQuiet_nil ?_
   intro _ hw'
   obtain⟨⟨dq,osq⟩,hw''⟩:=hw'
   subst hw''
   obtain⟨w2,hw2⟩:∃ z,z=grow (redrawn w1 dq) osq:=⟨_,rfl⟩
   have Hw2:Hid (Below w0.heap.size w0 w2):=by rw[hw2];exact(Hw1.out).trans ((below_regrown w1 dq osq).mono Hw1.out.size)
   rw[<-hw2]
   clear hw2 g2 x20 x21 x22 y2
   have HC:=zh (HDO.out w2 Hw2.out).1
   clear HDO
   go_wp2_with fail
   refine HC.out.mono ?_
   rintro e w3 ⟨rfl,hb3⟩
   have HB3:=zh hb3
   clear hb3
   go_wp2_with fail
   refine(zR _ _).mono ?_
   rintro e _ ⟨rfl,rfl⟩
   go_wp2_with fail
   go_ret2
   exact zY (HB.out.trans ((Hw2.out.trans (HB3.out.mono Hw2.out.size)).mono HB.out.size)) ⟨9,0,0⟩
  ·have HE:Hid (Vm.behindNeg ⟨9,xa,xb⟩=none):=by
    show _=_
    unfold Vm.behindNeg
    rw[if_neg (by show ¬(9:Int)=10;omega),if_neg (by show ¬((9:Int)=11\/(9:Int)=13\/(9:Int)=2);omega),if_neg (fun q=>h0 q.2),if_neg (fun q=>h1 q.2)]
   rw[HE.out]
   clear HE
   have E1:=yl (a:=9) (b:=xa) (c:=xb) (a':=9) (b':=0) (c':=0) (fun q=>h0 q.2)
   have E2:=yl (a:=9) (b:=xa) (c:=xb) (a':=9) (b':=1) (c':=0) (fun q=>h1 q.2)
   go_enter Tryz.func137,Tryz.ntmps137
   go_upto_region 1 with fail
   rw[<-hw0]
   clear hw0
   go_wp2_with fail
   have g1:∀ d os,Calls Tryz.prog 145 #[.string ⟨#[43]⟩] (grow (redrawn w0 d) os) fun e w''=>e=.returned (.agg #[.int .i64 9,.int .i64 0,.int .i64 0])/\∃ p:Regrown,w''=grow (redrawn w0 p.d) p.os:=fun d os=>Calls.regrown_of (HDO.out _ ((Hw0.out).trans ((below_regrown w0 d os).mono Hw0.out.size))).1
   have x10:=cell_regrown (zv Hw0.out c0)
   have x11:=cell_regrown (zv Hw0.out c1)
   have x12:=cell_regrown (zv Hw0.out c2)
   have y1:∀ d os,w.heap.size<(grow (redrawn w0 d) os).heap.size:=fun d os=>zi (x10 d os)
   refine wp_region_quiet_below (by kernel_rfl) (by kernel_rfl) ?_
   repeat (quiet_step (first|(go_at_call 145;exact g1 _ _)))
   refine wpQuiet_nil ?_
   intro _ hw'
   obtain⟨⟨dq,osq⟩,hw''⟩:=hw'
   subst hw''
   obtain⟨w1,hw1⟩:∃ z,z=grow (redrawn w0 dq) osq:=⟨_,rfl⟩
   have Hw1:Hid (Below w0.heap.size w0 w1):=by rw[hw1];exact(Hw0.out).trans ((below_regrown w0 dq osq).mono Hw0.out.size)
   rw[<-hw1]
   clear hw1 g1 x10 x11 x12 y1
   go_upto_region 9 with fail
   have g2:∀ d os,Calls Tryz.prog 145 #[.string ⟨#[45]⟩] (grow (redrawn w1 d) os) fun e w''=>e=.returned (.agg #[.int .i64 9,.int .i64 1,.int .i64 0])/\∃ p:Regrown,w''=grow (redrawn w1 p.d) p.os:=fun d os=>Calls.regrown_of (HDO.out _ ((Hw1.out).trans ((below_regrown w1 d os).mono Hw1.out.size))).2
   have x20:=cell_regrown (zv Hw1.out c0)
   have x21:=cell_regrown (zv Hw1.out c1)
   have x22:=cell_regrown (zv Hw1.out c2)
   have y2:∀ d os,w.heap.size<(grow (redrawn w1 d) os).heap.size:=fun d os=>zi (x20 d os)
   refine wp_region_quiet_below (by kernel_rfl) (by kernel_rfl) ?_
   repeat (quiet_step (first|(go_at_call 145;exact g2 _ _)))
   refine wpQuiet_nil ?_
   intro _ hw'
   obtain⟨⟨dq,osq⟩,hw''⟩:=hw'
   subst hw''
   obtain⟨w2,hw2⟩:∃ z,z=grow (redrawn w1 dq) osq:=⟨_,rfl⟩
   have Hw2:Hid (Below w0.heap.size w0 w2):=by rw[hw2];exact(Hw1.out).trans ((below_regrown w1 dq osq).mono Hw1.out.size)
   rw[<-hw2]
   clear hw2 g2 x20 x21 x22 y2
   go_wp2_with fail
   go_ret2
   exact zH (HB.out.trans (Hw2.out.mono HB.out.size)) _
 ·have HE:Hid (Vm.behindNeg ⟨op,xa,xb⟩=none):=by
   show _=_
   unfold Vm.behindNeg
   rw[if_neg n10,if_neg (by show ¬(op=11\/op=13\/op=2);omega),if_neg (fun q=>n9 q.1),if_neg (fun q=>n9 q.1)]
  rw[HE.out]
  clear HE
  have HDO:Hid (∀(w1:World),Below w0.heap.size w0 w1->Calls Tryz.prog 145 #[.string ⟨#[43]⟩] w1 (fun e w'=>e=.returned (iA ⟨9,0,0⟩)/\Below w1.heap.size w1 w')/\Calls Tryz.prog 145 #[.string ⟨#[45]⟩] w1 (fun e w'=>e=.returned (iA ⟨9,1,0⟩)/\Below w1.heap.size w1 w')):=fun w1 hb=>⟨kv (HM.out.on hb) (k:=0) (by omega) (s:=[43]) rfl,kv (HM.out.on hb) (k:=1) (by omega) (s:=[45]) rfl⟩
  unfold iA at HDO
  clear HM
  have E1:=yl (a:=op) (b:=xa) (c:=xb) (a':=9) (b':=0) (c':=0) (fun q=>n9 q.1)
  have E2:=yl (a:=op) (b:=xa) (c:=xb) (a':=9) (b':=1) (c':=0) (fun q=>n9 q.1)
  go_enter Tryz.func137,Tryz.ntmps137
  go_upto_region 1 with fail
  rw[<-hw0]
  clear hw0
  go_wp2_with fail
  have g1:∀ d os,Calls Tryz.prog 145 #[.string ⟨#[43]⟩] (grow (redrawn w0 d) os) fun e w''=>e=.returned (.agg #[.int .i64 9,.int .i64 0,.int .i64 0])/\∃ p:Regrown,w''=grow (redrawn w0 p.d) p.os:=fun d os=>Calls.regrown_of (HDO.out _ ((Hw0.out).trans ((below_regrown w0 d os).mono Hw0.out.size))).1
  have x10:=cell_regrown (zv Hw0.out c0)
  have x11:=cell_regrown (zv Hw0.out c1)
  have x12:=cell_regrown (zv Hw0.out c2)
  have y1:∀ d os,w.heap.size<(grow (redrawn w0 d) os).heap.size:=fun d os=>zi (x10 d os)
  refine wp_region_quiet_below (by kernel_rfl) (by kernel_rfl) ?_
  repeat (quiet_step (first|(go_at_call 145;exact g1 _ _)))
  refine wpQuiet_nil ?_
  intro _ hw'
  obtain⟨⟨dq,osq⟩,hw''⟩:=hw'
  subst hw''
  obtain⟨w1,hw1⟩:∃ z,z=grow (redrawn w0 dq) osq:=⟨_,rfl⟩
  have Hw1:Hid (Below w0.heap.size w0 w1):=by rw[hw1];exact(Hw0.out).trans ((below_regrown w0 dq osq).mono Hw0.out.size)
  rw[<-hw1]
  clear hw1 g1 x10 x11 x12 y1
  go_upto_region 9 with fail
  have g2:∀ d os,Calls Tryz.prog 145 #[.string ⟨#[45]⟩] (grow (redrawn w1 d) os) fun e w''=>e=.returned (.agg #[.int .i64 9,.int .i64 1,.int .i64 0])/\∃ p:Regrown,w''=grow (redrawn w1 p.d) p.os:=fun d os=>Calls.regrown_of (HDO.out _ ((Hw1.out).trans ((below_regrown w1 d os).mono Hw1.out.size))).2
  have x20:=cell_regrown (zv Hw1.out c0)
  have x21:=cell_regrown (zv Hw1.out c1)
  have x22:=cell_regrown (zv Hw1.out c2)
  have y2:∀ d os,w.heap.size<(grow (redrawn w1 d) os).heap.size:=fun d os=>zi (x20 d os)
  refine wp_region_quiet_below (by kernel_rfl) (by kernel_rfl) ?_
  repeat (quiet_step (first|(go_at_call 145;exact g2 _ _)))
  refine wpQuiet_nil ?_
  intro _ hw'
  obtain⟨⟨dq,osq⟩,hw''⟩:=hw'
  subst hw''
  obtain⟨w2,hw2⟩:∃ z,z=grow (redrawn w1 dq) osq:=⟨_,rfl⟩
  have Hw2:Hid (Below w0.heap.size w0 w2):=by rw[hw2];exact(Hw1.out).trans ((below_regrown w1 dq osq).mono Hw1.out.size)
  rw[<-hw2]
  clear hw2 g2 x20 x21 x22 y2
  go_wp2_with fail
  go_ret2
  exact zH (HB.out.trans (Hw2.out.mono HB.out.size)) _
end Go.Proofs.YtmnedfdffbbchaaGreatDoor.Jo
