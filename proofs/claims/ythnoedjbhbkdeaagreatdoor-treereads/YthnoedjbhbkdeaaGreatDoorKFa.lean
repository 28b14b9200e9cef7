import Derived.Test.YthnoedjbhbkdeaaGreatDoorKXd
import Derived.Test.YthnoedjbhbkdeaaGreatDoorKWb
import Derived.Test.YthnoedjbhbkdeaaGreatDoorKPb
import Derived.Test.YthnoedjbhbkdeaaGreatDoorKShd
import Derived.Test.YthnoedjbhbkdeaaGreatDoorKXa
import Derived.Test.YthnoedjbhbkdeaaGreatDoorKPc
import Derived.Lib.Hide
import Derived.Lib.QuietBelow
import Derived.Lib.AppendIntMem
import Derived.Deep.CutRange
import Derived.Deep.DeepCutAuto
set_option maxRecDepth 100000
set_option maxHeartbeats 4000000
namespace Go.Proofs.YthnoedjbhbkdeaaGreatDoor
open Go.RowKit
open Tp (X)
def levAgg:Value:=.agg rlv.toArray
theorem rlev_idx0 (w:World):(Instr.index 220 levAgg (.int .i64 0)).run Tryz.prog w=.ok (.string ⟨#[111,114]⟩) w:=by kernel_rfl
theorem rlev_idx1 (w:World):(Instr.index 220 levAgg (.int .i64 1)).run Tryz.prog w=.ok (.string ⟨#[97,110,100]⟩) w:=by kernel_rfl
theorem rlev_idx2 (w:World):(Instr.index 220 levAgg (.int .i64 2)).run Tryz.prog w=.ok (.string ⟨#[61,32,35,32,60,32,60,61,32,62,32,62,61]⟩) w:=by kernel_rfl
theorem rlev_idx3 (w:World):(Instr.index 220 levAgg (.int .i64 3)).run Tryz.prog w=.ok (.string ⟨#[43,32,45]⟩) w:=by kernel_rfl
theorem rlev_idx4 (w:World):(Instr.index 220 levAgg (.int .i64 4)).run Tryz.prog w=.ok (.string ⟨#[42,32,100,105,118,32,109,111,100]⟩) w:=by kernel_rfl
theorem rlev_idx (w:World) (k:Nat) (h:k<5):(Instr.index 220 levAgg (.int .i64 (k:Int))).run Tryz.prog w=.ok (.string (bs (lvw k))) w:=by
 match k,h with
 | 0,_=>exact rlev_idx0 w
 | 1,_=>exact rlev_idx1 w
 | 2,_=>exact rlev_idx2 w
 | 3,_=>exact rlev_idx3 w
 | 4,_=>exact rlev_idx4 w
theorem rlev_load {w:World}(h:Gl w):(Instr.loadAt 220 (.pointer (some ⟨2,0,none⟩))).run Tryz.prog w=.ok levAgg w:=by
 have hc:=ji (P:=Tryz.prog) (w:=w) ⟨2,0,none⟩ rlv 5 0 #[] (fun j _ hj=>by have hq:=h.lv j (by omega);by_cases hj0:j=0 <;> simpa[Addr.add,hj0] using hq) (by decide)
 have h1:(isAgg 220).run Tryz.prog w=.ok true w:=by kernel_rfl
 have h2:(sizeOf 220).run Tryz.prog w=.ok 5 w:=by kernel_rfl
 simp only [Instr.loadAt,Instr.sureAddr,loadVar,loadCells,Sem.run_bind,Result.andThen]
 simp[h1,h2,hc,levAgg,rlv]
theorem vC {w:World}(hg:Gl w) {b code:Nat}{op:List UInt8}{e1 e2 e3 e4 e6 e7 e8:Value}(hb:w.heap[b]?=some (.cells #[.int .i64 (code:Int),e1,e2,e3,e4,.string (bs op),e6,e7,e8] 111 (0,0))) (ho:op.length<=100000) :
  Calls Tryz.prog 115 #[.pointer (some ⟨b,0,none⟩)] w fun e w'=>e=.returned (.int .i64 ((if code=5/\Tp.lvl op<5 then Tp.lvl op else 5:Nat):Int))/\w'=w:=by
 obtain⟨m,hm⟩:=hg.ml
 have hbl:=zc hb
 have c0:w.cell? ⟨b,0,none⟩=some (.int .i64 (code:Int)):=za hb
 have c5:w.cell? ⟨b,5,none⟩=some (.string (bs op)):=za hb
 have HL:=zh (rlev_load hg)
 have HON:Hid (∀ k,k<5->Calls Tryz.prog 83 #[.string (bs op),.string (bs (lvw k))] w fun e w'=>e=.returned (.bool (decide (Tp.lvl op=k)))/\w'=w):=fun k hk=>by
  have:=yr op (lvw k) _ _ (rfl:bs _=bs _) (rfl:bs _=bs _) m w (by omega) (lvw_len k) hm
  rw[lvw_one k hk]at this
  exact this
 have HI:Hid (∀ k:Nat,k<5->∀ w,(Instr.index 220 levAgg (.int .i64 (k:Int))).run Tryz.prog w=.ok (.string (bs (lvw k))) w):=fun k hk w=>rlev_idx w k hk
 obtain⟨hv,hhv⟩:∃ hv:Nat,hv=if code=5/\Tp.lvl op<5 then Tp.lvl op else 5:=⟨_,rfl⟩
 rw[<-hhv]
 have HH:=zh hhv
 clear hb hm hg hhv
 go_enter Tryz.func115,Tryz.ntmps115
 go_wp2_with (refine yJ rfl 220 (.global 2) rfl levAgg HL.out ?_)
 go_loopg [6] 6 (fun k vi wr=>∃ i:Nat,i<=5/\k=6 - i/\vi=.int .i64 (i:Int)/\wr=w/\Hid (∀ j,j<i->¬(code=5/\Tp.lvl op=j)))
 case atStart=>exact⟨0,by omega,by omega,rfl,rfl,fun j hj=>by omega⟩
 case round =>
  obtain⟨i,hi5,hk,rfl,hwr,HJ⟩:=hrel
  subst hwr
  by_cases hlt:i<5
  ·have hlt':(i:Int)<5:=by omega
   have hix:=HI.out i hlt
   have HC:=zh (HON.out i hlt)
   generalize bs (lvw i)=lw at *
   by_cases h5:code=5
   ·subst h5
    by_cases hl:Tp.lvl op=i
    ·have hF:hv=i:=by rw[HH.out,if_pos ⟨rfl,by omega⟩];exact hl
     rw[decide_eq_true hl]at HC
     subst hF
     clear hl HJ HH
     go_wp2_with fail
     refine HC.out.mono ?_
     rintro e w2 ⟨rfl,hw2⟩
     subst hw2
     go_wp2_with fail
     go_ret
     exact⟨rfl,rfl⟩
    ·have HJ2:Hid (∀ j,j<i+1->¬((5:Nat)=5/\Tp.lvl op=j)):=fun j hj=>by
      by_cases hji:j=i
      ·subst hji;exact fun h=>hl h.2
      ·exact HJ.out j (by omega)
     rw[decide_eq_false hl]at HC
     clear hl HJ
     go_wp2_with fail
     refine HC.out.mono ?_
     rintro e w2 ⟨rfl,hw2⟩
     subst hw2
     go_wp2_with fail
     go_roundg (6 - (i+1))
     case measure=>omega
     case rel=>exact⟨i+1,by omega,rfl,by go_num,rfl,HJ2⟩
   ·have h5':((code:Int) == 5)=false:=beq_eq_false_iff_ne.2 (by omega)
    have HJ2:Hid (∀ j,j<i+1->¬(code=5/\Tp.lvl op=j)):=fun j hj h=>h5 h.1
    clear h5 HJ HC
    go_wp2_with fail
    go_roundg (6 - (i+1))
    case measure=>omega
    case rel=>exact⟨i+1,by omega,rfl,by go_num,rfl,HJ2⟩
  ·have hlt':¬(i:Int)<5:=by omega
   have he:i=5:=by omega
   subst he
   have hF:hv=5:=by
    rw[HH.out,if_neg]
    intro h
    exact HJ.out (Tp.lvl op) h.2 ⟨h.1,rfl⟩
   subst hF
   clear HJ HH
   go_wp2_with fail
   go_ret
   exact⟨rfl,rfl⟩
end Go.Proofs.YthnoedjbhbkdeaaGreatDoor
namespace Go.Proofs.YthnoedjbhbkdeaaGreatDoor
open Go.RowKit Go.Sort
open Tp (X)
theorem dec_it:∀ n:Nat,Tp.dec n=Lib.itoa (n:Int):=by
 intro n
 rw[Lib.itoa_nonneg]
 induction n using Nat.strongRecOn with
 | _ n ih =>
  rw[Tp.dec,Lib.decDigits]
  split
  ·rfl
  ·rw[ih (n / 10) (by omega)]
structure Gw (w:World):Prop where
 gl:Gl w
 tab:Lib.TabIs Tryz.prog w "internal/strconv.uint64pow10" .u64 Lib.pow10Tab
theorem Gw.below {w w':World}(h:Gw w) (k:Below w.heap.size w w'):Gw w':=⟨h.gl.keep fun i _ j _ hv=>(k.cell (p:=⟨i,j,none⟩) (zi hv)).trans hv,Lib.tabBelow_of_tabIs h.tab w' k⟩
theorem uA (w:World) (k:Nat) (os:Array Obj):Below w.heap.size w (grow (w.drewN k) os):=⟨rfl,rfl,rfl,by simp[grow],fun i hi=>by simp[grow,Array.getElem?_append,hi]⟩
theorem fmt_post (w:World) (hw:Gw w) (n:Nat) (hn:n<=Tp.top):Calls Tryz.prog 112 #[.int .i64 (n:Int),.int .i64 10] w fun e w'=>e=.returned (.string (bs (Tp.dec n)))/\Below w.heap.size w w':=by
 have ht:Tp.top=9223372036854775807:=rfl
 rw[ht]at hn
 refine(Any.strconv_FormatInt_10 Tryz.laysFI (n:Int) (by omega) (by omega) w hw.tab).mono ?_
 rintro e w' ⟨rfl,k,os,rfl⟩
 rw[dec_it]
 exact⟨rfl,uA w k os⟩
theorem repl_post (w:World) (hw:Gw w) (op:List UInt8) (h:op=Tp.mMinus\/op=Tp.wNot):Calls Tryz.prog 113 #[.string (bs op),.string ⟨#[110,111,116]⟩,.string ⟨#[110,111,116,32]⟩,.int .i64 1] w fun e w'=>e=.returned (.string (bs ([op]++(if op=Tp.wNot then [Tp.sp] else [])).flatten))/\Below w.heap.size w w':=by
 obtain⟨m,hm⟩:=hw.gl.ml
 rcases h with rfl|rfl
 ·exact(Any.strings_Replace Tryz.laysRe Tryz.extraRe (bs Tp.mMinus) ⟨#[110,111,116]⟩ ⟨#[110,111,116,32]⟩ 1 m w (by decide) hm (by decide) (by decide)).mono fun e w' ⟨h1,h2⟩=>⟨h1.trans (by kernel_rfl),h2⟩
 ·exact(Any.strings_Replace Tryz.laysRe Tryz.extraRe (bs Tp.wNot) ⟨#[110,111,116]⟩ ⟨#[110,111,116,32]⟩ 1 m w (by decide) hm (by decide) (by decide)).mono fun e w' ⟨h1,h2⟩=>⟨h1.trans (by kernel_rfl),h2⟩
def tx1 (y:X):List UInt8:=(Tp.pxs [y]).flatten
def TextC (N:Nat):Prop:=∀(y:X),SizeOf.sizeOf y<=N->Tp.WX [y]->∀(w:World) (D:Nat->Prop) (b:Nat),RepL w D [y] [.pointer (some ⟨b,0,none⟩)]->Gw w->(tx1 y).length<=1000000000 ->
 Calls Tryz.prog 53 #[.pointer (some ⟨b,0,none⟩)] w fun e w'=>e=.returned (.string (bs (tx1 y)))/\Below w.heap.size w w'
theorem low_eq {code pos n:Nat}{md nm op:List UInt8}{le ri ar:List X}(h:Tp.WX [⟨code,pos,n,md,nm,op,le,ri,ar⟩]) (k:Nat) (hk:k<=5) :
  decide (((if code=5/\Tp.lvl op<5 then Tp.lvl op else 5:Nat):Int)<(k:Int))=Tp.isLow k [⟨code,pos,n,md,nm,op,le,ri,ar⟩]:=by
 have h5:code=5->Tp.lvl op<5:=by
  intro hc
  rw[Tp.WX]at h
  rcases h.1 with h|h|h|h|h|h <;> first|exact h.2.2.2.2.1|omega
 unfold Tp.isLow
 by_cases hc:code=5
 ·rw[if_pos ⟨hc,h5 hc⟩]
  simp[hc]
 ·rw[if_neg (fun h=>hc h.1)]
  have e:(code == 5)=false:=by simpa using hc
  show decide _=(code == 5 && decide (Tp.lvl op<k))
  rw[e,Bool.false_and]
  exact decide_eq_false (by omega)
theorem kJ {N:Nat}(hT:TextC N) {y:X}(hs:SizeOf.sizeOf y<=N) (hw:Tp.WX [y]) {w:World}{D:Nat->Prop}{b:Nat}(hr:RepL w D [y] [.pointer (some ⟨b,0,none⟩)]) (hg:Gw w) (k:Nat) (hk:k<=5) (hl:(tx1 y).length<=1000000000) :
  Calls Tryz.prog 114 #[.pointer (some ⟨b,0,none⟩),.int .i64 (k:Int)] w fun e w'=>e=.returned (.string (bs (Tp.held (Tp.isLow k [y]) (Tp.pxs [y])).flatten))/\Below w.heap.size w w':=by
 have HC:=zh (hT y hs hw w D b hr hg hl)
 have hz:(bs (tx1 y)).size<=1000000000:=by simpa[bs,ByteArray.size] using hl
 have HT:Hid (∀ lo,bs (Tp.held lo (Tp.pxs [y])).flatten=if lo=true then ((⟨#[40]⟩:ByteArray)++bs (tx1 y))++⟨#[41]⟩ else bs (tx1 y)):=fun lo=>by
  cases lo
  ·rfl
  ·simp[Tp.held,tx1,bs,Tp.mLp,Tp.mRp,ByteArray.ext_iff]
 obtain⟨code,pos,n,md,nm,op,le,ri,ar⟩:=y
 obtain⟨av,ls,rs,gs,hb,_⟩:=hr.unit
 have ho:op.length<=100000:=by
  rw[Tp.WX]at hw
  rcases hw.1 with h|h|h|h|h|h
  ·rw[h.2.2.2.2.1];simp
  ·rw[h.2.2.2.1];simp
  ·rw[h.2.2.2.1];simp
  ·rcases h.2.2.2.2.1 with e|e <;> rw[e] <;> decide
  ·have:=Tp.op_len h.2.2.2.2.1
   omega
  ·rw[h.2.2.2.1];simp
 have HH:=zh (vC hg.gl hb ho)
 have hlow:=low_eq hw k hk
 generalize hhv:(if code=5/\Tp.lvl op<5 then Tp.lvl op else 5:Nat)=hv at *
 generalize Tp.isLow k [⟨code,pos,n,md,nm,op,le,ri,ar⟩]=lo at *
 have HLOW:=zh hlow
 obtain⟨R,hR⟩:∃ R,R=bs (Tp.held lo (Tp.pxs [⟨code,pos,n,md,nm,op,le,ri,ar⟩])).flatten:=⟨_,rfl⟩
 rw[<-hR]
 have HR:=zh (hR.trans (HT.out lo))
 generalize bs (tx1 ⟨code,pos,n,md,nm,op,le,ri,ar⟩)=T at *
 clear hhv hlow hR HT hb hw hg
 cases lo with
 | true =>
  have h1:(hv:Int)<(k:Int):=of_decide_eq_true HLOW.out
  have p1:¬9223372036854775807<1+T.size:=by omega
  have p2:¬9223372036854775807<1+T.size+1:=by omega
  have hR:R=(⟨#[40]⟩:ByteArray)++T++⟨#[41]⟩:=HR.out.trans (if_pos rfl)
  have HR2:=zh hR
  clear HLOW HR hR
  go_enter Tryz.func114,Tryz.ntmps114
  go_wp2_with fail
  refine HH.out.mono ?_
  rintro e w2 ⟨rfl,hw2⟩
  subst hw2
  go_wp2_with fail
  refine HC.out.mono ?_
  rintro e w3 ⟨rfl,hb3⟩
  have HB3:=zh hb3
  clear hb3
  go_wp2_with fail
  go_ret
  exact⟨by rw[HR2.out];rfl,HB3.out⟩
 | false =>
  have h1:¬(hv:Int)<(k:Int):=of_decide_eq_false HLOW.out
  have hR:R=T:=HR.out.trans (if_neg (by simp))
  subst hR
  clear HLOW HR
  go_enter Tryz.func114,Tryz.ntmps114
  go_wp2_with fail
  refine HH.out.mono ?_
  rintro e w2 ⟨rfl,hw2⟩
  subst hw2
  go_wp2_with fail
  refine HC.out.mono ?_
  rintro e w3 ⟨rfl,hb3⟩
  have HB3:=zh hb3
  clear hb3
  go_wp2_with fail
  go_ret
  exact⟨rfl,HB3.out⟩
def nmT (md nm:List UInt8):List UInt8:=(Tp.ref md nm).flatten
theorem yc (a b:List UInt8):bs (a++b)=bs a++bs b:=by simp[bs,ByteArray.ext_iff]
theorem yA (a:List UInt8):(bs a).size=a.length:=by simp[bs,ByteArray.size]
theorem text_num {w:World}{b n pos:Nat}{v6 v7 v8:Value}(hb:w.heap[b]?=some (.cells #[.int .i64 1,.int .i64 (pos:Int),.int .i64 (n:Int),.string (bs []),.string (bs []),.string (bs []),v6,v7,v8] 111 (0,0))) (hg:Gw w) (hn:n<=Tp.top) :
  Calls Tryz.prog 53 #[.pointer (some ⟨b,0,none⟩)] w fun e w'=>e=.returned (.string (bs (Tp.dec n)))/\Below w.heap.size w w':=by
 have c0:w.cell? ⟨b,0,none⟩=some (.int .i64 1):=za hb
 have c2:w.cell? ⟨b,2,none⟩=some (.int .i64 (n:Int)):=za hb
 have c3:w.cell? ⟨b,3,none⟩=some (.string ⟨#[]⟩):=za hb
 have c4:w.cell? ⟨b,4,none⟩=some (.string ⟨#[]⟩):=za hb
 have hbl:=zc hb
 have HF:=zh (fmt_post w hg n hn)
 clear hb hg
 go_enter Tryz.func53,Tryz.ntmps53
 go_wp2_with fail
 refine HF.out.mono ?_
 rintro e w2 ⟨rfl,hb2⟩
 have HB:=zh hb2
 clear hb2 c0 c2 c3 c4
 go_wp2_with fail
 go_ret
 exact⟨rfl,HB.out⟩
theorem text_var {w:World}{b pos:Nat}{md nm:List UInt8}{v2 v6 v7 v8:Value}(hb:w.heap[b]?=some (.cells #[.int .i64 2,.int .i64 (pos:Int),v2,.string (bs md),.string (bs nm),.string (bs []),v6,v7,v8] 111 (0,0))) (hl:(nmT md nm).length<=1000000000) :
  Calls Tryz.prog 53 #[.pointer (some ⟨b,0,none⟩)] w fun e w'=>e=.returned (.string (bs (nmT md nm)))/\Below w.heap.size w w':=by
 have c0:w.cell? ⟨b,0,none⟩=some (.int .i64 2):=za hb
 have c3:w.cell? ⟨b,3,none⟩=some (.string (bs md)):=za hb
 have c4:w.cell? ⟨b,4,none⟩=some (.string (bs nm)):=za hb
 have hbl:=zc hb
 clear hb
 by_cases hm:md=[]
 ·subst hm
  have HT:Hid (nmT [] nm=nm):=by show _=_;simp[nmT,Tp.ref]
  replace c3:w.cell? ⟨b,3,none⟩=some (.string ⟨#[]⟩):=c3
  rw[HT.out]
  go_enter Tryz.func53,Tryz.ntmps53
  go_wp2_with fail
  go_ret
  exact⟨rfl,Below.refl _ _⟩
 ·have hR:bs (nmT md nm)=bs md++⟨#[46]⟩++bs nm:=by
   unfold nmT Tp.ref
   rw[if_neg hm]
   simp[bs,ByteArray.ext_iff,Tp.mDot]
  have hz:=yA (nmT md nm)
  rw[hR,ByteArray.size_append,ByteArray.size_append]at hz
  have e1:(⟨#[46]⟩:ByteArray).size=1:=rfl
  have p1:¬9223372036854775807<(bs md).size+1:=by omega
  have p2:¬9223372036854775807<(bs md).size+1+(bs nm).size:=by omega
  have hne:(bs md).toList.isEmpty=false:=by rw[zC];exact List.isEmpty_eq_false_iff.2 hm
  rw[hR]
  generalize bs md=M at *
  generalize bs nm=Nn at *
  clear hR hz hl
  go_enter Tryz.func53,Tryz.ntmps53
  go_wp2_with fail
  go_ret
  exact⟨rfl,Below.refl _ _⟩
theorem text_item {N:Nat}(hT:TextC N) {y:X}(hs:SizeOf.sizeOf y<=N) (hw:Tp.WX [y]) {w:World}{D:Nat->Prop}{b c pos:Nat}{md nm:List UInt8}{v2 v7 v8:Value}(hb:w.heap[b]?=some (.cells #[.int .i64 3,.int .i64 (pos:Int),v2,.string (bs md),.string (bs nm),.string (bs []),.pointer (some ⟨c,0,none⟩),v7,v8] 111 (0,0))) (hr:RepL w D [y] [.pointer (some ⟨c,0,none⟩)]) (hg:Gw w) (hl:(nmT md nm++[91]++tx1 y++[93]).length<=1000000000) :
  Calls Tryz.prog 53 #[.pointer (some ⟨b,0,none⟩)] w fun e w'=>e=.returned (.string (bs (nmT md nm++[91]++tx1 y++[93])))/\Below w.heap.size w w':=by
 have c0:w.cell? ⟨b,0,none⟩=some (.int .i64 3):=za hb
 have c3:w.cell? ⟨b,3,none⟩=some (.string (bs md)):=za hb
 have c4:w.cell? ⟨b,4,none⟩=some (.string (bs nm)):=za hb
 have c6:w.cell? ⟨b,6,none⟩=some (.pointer (some ⟨c,0,none⟩)):=za hb
 have hbl:=zc hb
 simp only [List.length_append,List.length_singleton]at hl
 have HC:=zh (hT y hs hw w D c hr hg (by omega))
 have hzT:=yA (tx1 y)
 have hzN:=yA (nmT md nm)
 have hR:bs (nmT md nm++[91]++tx1 y++[93])=bs (nmT md nm)++⟨#[91]⟩++bs (tx1 y)++⟨#[93]⟩:=by rw[yc,yc,yc];rfl
 rw[hR]
 have HNM:Hid (bs (nmT md nm)=if md=[] then bs nm else bs md++⟨#[46]⟩++bs nm):=by
  show _=_
  unfold nmT Tp.ref
  split
  ·simp[bs]
  ·simp[bs,ByteArray.ext_iff,Tp.mDot]
 have hTz:(bs (tx1 y)).size<=1000000000:=by omega
 have hNz:(bs (nmT md nm)).size<=1000000000:=by omega
 generalize bs (tx1 y)=T at *
 generalize bs (nmT md nm)=NM at *
 clear hb hr hg hR hzT hzN hl
 have p3:¬9223372036854775807<NM.size+1:=by omega
 have p4:¬9223372036854775807<NM.size+1+T.size:=by omega
 have p5:¬9223372036854775807<NM.size+1+T.size+1:=by omega
 obtain⟨em,hem⟩:∃ em,(bs md).toList.isEmpty=em:=⟨_,rfl⟩
 have HEM:Hid (em=true↔md=[]):=by
  rw[<-hem,zC]
  exact List.isEmpty_iff
 generalize bs md=M at *
 go_enter Tryz.func53,Tryz.ntmps53
 go_upto_if 15 with fail
 go_cut [3] from 16 (fun v3 wc=>v3=.string NM/\wc=w)
 case first =>
  cases em with
  | true =>
   have e:NM=bs nm:=HNM.out.trans (if_pos (HEM.out.1 rfl))
   subst e
   clear HNM HEM
   go_wp2_with fail
   go_meet
   case rel=>exact⟨rfl,rfl⟩
  | false =>
   have e:NM=M++⟨#[46]⟩++bs nm:=HNM.out.trans (if_neg (fun h=>by have:=HEM.out.2 h;cases this))
   have hz2:=congrArg ByteArray.size e
   rw[ByteArray.size_append,ByteArray.size_append,show (⟨#[46]⟩:ByteArray).size=1 from rfl]at hz2
   have p1:¬9223372036854775807<M.size+1:=by omega
   have p2:¬9223372036854775807<M.size+1+(bs nm).size:=by omega
   have HE:=zh e
   clear HNM e hz2 HEM
   go_wp2_with fail
   go_meet
   case rel=>exact⟨by rw[HE.out],rfl⟩
 case rest =>
  obtain⟨rfl,hwc⟩:=hcut
  subst hwc
  go_wp2_with fail
  refine HC.out.mono ?_
  rintro e w2 ⟨rfl,hb2⟩
  have HB:=zh hb2
  clear hb2 c0 c3 c4 c6
  go_wp2_with fail
  go_ret
  exact⟨rfl,HB.out⟩
theorem wrapS {z:Int}(h0:0<=z) (h1:z<100000):IntKind.i64.wrap z=z:=by
 have e:z % (2 ^ 64:Int)=z:=Int.emod_eq_of_lt h0 (by omega)
 have h:IntKind.i64.wrap z=if (true && decide (z % (2 ^ 64:Int) ≥ (2 ^ 63:Int)))=true then z % (2 ^ 64:Int) - (2 ^ 64:Int) else z % (2 ^ 64:Int):=rfl
 rw[h,e]
 have e2:decide (z ≥ (2 ^ 63:Int))=false:=decide_eq_false (by omega)
 rw[e2]
 rfl
def hd1 (k:Nat) (y:X):List UInt8:=(Tp.held (Tp.isLow k [y]) (Tp.pxs [y])).flatten
theorem tx1_le (k:Nat) (y:X):(tx1 y).length<=(hd1 k y).length:=by
 unfold tx1 hd1 Tp.held
 split
 ·simp;omega
 ·exact Nat.le_refl _
theorem text_un {N:Nat}(hT:TextC N) {y:X}(hs:SizeOf.sizeOf y<=N) (hw:Tp.WX [y]) {w:World}{D:Nat->Prop}{b c pos:Nat}{op:List UInt8}{v2 v7 v8:Value}(hb:w.heap[b]?=some (.cells #[.int .i64 4,.int .i64 (pos:Int),v2,.string (bs []),.string (bs []),.string (bs op),.pointer (some ⟨c,0,none⟩),v7,v8] 111 (0,0))) (hop:op=Tp.mMinus\/op=Tp.wNot) (hr:RepL w D [y] [.pointer (some ⟨c,0,none⟩)]) (hg:Gw w)
  (hl:(([op]++(if op=Tp.wNot then [Tp.sp] else [])).flatten++hd1 5 y).length<=1000000000) :
  Calls Tryz.prog 53 #[.pointer (some ⟨b,0,none⟩)] w fun e w'=>e=.returned (.string (bs (([op]++(if op=Tp.wNot then [Tp.sp] else [])).flatten++hd1 5 y)))/\Below w.heap.size w w':=by
 have c0:w.cell? ⟨b,0,none⟩=some (.int .i64 4):=za hb
 have c3:w.cell? ⟨b,3,none⟩=some (.string ⟨#[]⟩):=za hb
 have c4:w.cell? ⟨b,4,none⟩=some (.string ⟨#[]⟩):=za hb
 have c5:w.cell? ⟨b,5,none⟩=some (.string (bs op)):=za hb
 have c6:w.cell? ⟨b,6,none⟩=some (.pointer (some ⟨c,0,none⟩)):=za hb
 have hbl:=zc hb
 rw[List.length_append]at hl
 have htl:=tx1_le 5 y
 have cR:∀ d os,Calls Tryz.prog 113 #[.string (bs op),.string ⟨#[110,111,116]⟩,.string ⟨#[110,111,116,32]⟩,.int .i64 1] (grow (redrawn w d) os) fun e w''=>e=.returned (.string (bs ([op]++(if op=Tp.wNot then [Tp.sp] else [])).flatten))/\∃ p:Regrown,w''=grow (redrawn w p.d) p.os:=fun d os=>Calls.regrown_of (repl_post _ (hg.below (below_regrown w d os)) op hop)
 have cW:∀ d os,Calls Tryz.prog 114 #[.pointer (some ⟨c,0,none⟩),.int .i64 5] (grow (redrawn w d) os) fun e w''=>e=.returned (.string (bs (hd1 5 y)))/\∃ p:Regrown,w''=grow (redrawn w p.d) p.os:=fun d os=>Calls.regrown_of (kJ hT hs hw (hr.step' (below_regrown w d os)) (hg.below (below_regrown w d os)) 5 (by omega) (by omega))
 rw[yc]
 have z1:=yA ([op]++(if op=Tp.wNot then [Tp.sp] else [])).flatten
 have z2:=yA (hd1 5 y)
 generalize ([op]++(if op=Tp.wNot then [Tp.sp] else [])).flatten=A at *
 generalize hd1 5 y=Wt at *
 have p1:¬9223372036854775807<(bs A).size+(bs Wt).size:=by omega
 generalize bs A=SA at *
 generalize bs Wt=SW at *
 generalize bs op=SO at *
 have k5:=cell_regrown c5
 have k6:=cell_regrown c6
 have hrb:∀ d os,b<(grow (redrawn w d) os).heap.size:=fun d os=>Nat.lt_of_lt_of_le hbl (below_regrown w d os).size
 clear hb hr hg hl z1 z2 htl hop c5 c6
 go_enter Tryz.func53,Tryz.ntmps53
 go_upto_region 12 with fail
 clear c0 c3 c4
 refine wp_region_quiet_below (by kernel_rfl) (by kernel_rfl) ?_
 repeat (quiet_step (first|(go_at_call 113;exact cR _ _)|(go_at_call 114;exact cW _ _)))
 refine wpQuiet_nil ?_
 intro _ hw'
 obtain⟨⟨dq,osq⟩,hw''⟩:=hw'
 subst hw''
 go_wp2_with fail
 go_ret
 exact⟨rfl,below_regrown w dq osq⟩
theorem text_bin {N:Nat}(hT:TextC N) {y z:X}(hs:SizeOf.sizeOf y<=N) (hw:Tp.WX [y]) (hs2:SizeOf.sizeOf z<=N) (hw2:Tp.WX [z]) {w:World}{D:Nat->Prop}{b c c2 pos:Nat}{op:List UInt8}{v2 v8:Value}(hb:w.heap[b]?=some (.cells #[.int .i64 5,.int .i64 (pos:Int),v2,.string (bs []),.string (bs []),.string (bs op),.pointer (some ⟨c,0,none⟩),.pointer (some ⟨c2,0,none⟩),v8] 111 (0,0))) (hop:Tp.lvl op<5) (hr:RepL w D [y] [.pointer (some ⟨c,0,none⟩)]) (hr2:RepL w D [z] [.pointer (some ⟨c2,0,none⟩)]) (hg:Gw w)
  (hl:(hd1 (Tp.lvl op) y++[32]++op++[32]++hd1 (Tp.lvl op+1) z).length<=1000000000) :
  Calls Tryz.prog 53 #[.pointer (some ⟨b,0,none⟩)] w fun e w'=>e=.returned (.string (bs (hd1 (Tp.lvl op) y++[32]++op++[32]++hd1 (Tp.lvl op+1) z)))/\Below w.heap.size w w':=by
 have c0:w.cell? ⟨b,0,none⟩=some (.int .i64 5):=za hb
 have c3:w.cell? ⟨b,3,none⟩=some (.string ⟨#[]⟩):=za hb
 have c4:w.cell? ⟨b,4,none⟩=some (.string ⟨#[]⟩):=za hb
 have c5:w.cell? ⟨b,5,none⟩=some (.string (bs op)):=za hb
 have c6:w.cell? ⟨b,6,none⟩=some (.pointer (some ⟨c,0,none⟩)):=za hb
 have c7:w.cell? ⟨b,7,none⟩=some (.pointer (some ⟨c2,0,none⟩)):=za hb
 have hbl:=zc hb
 simp only [List.length_append,List.length_singleton]at hl
 have ho:=Tp.op_len hop
 have htl:=tx1_le (Tp.lvl op) y
 have htl2:=tx1_le (Tp.lvl op+1) z
 have cH:∀ d os,Calls Tryz.prog 115 #[.pointer (some ⟨b,0,none⟩)] (grow (redrawn w d) os) fun e w''=>e=.returned (.int .i64 (Tp.lvl op:Int))/\∃ p:Regrown,w''=grow (redrawn w p.d) p.os:=fun d os=>by
  have h:=vC (hg.below (below_regrown w d os)).gl (((below_regrown w d os).block b hbl).trans hb) (by omega)
  rw[if_pos ⟨rfl,hop⟩]at h
  exact Calls.regrown_of (h.mono fun e w' ⟨h1,h2⟩=>⟨h1,by rw[h2];exact Below.refl _ _⟩)
 have cW:∀ d os,Calls Tryz.prog 114 #[.pointer (some ⟨c,0,none⟩),.int .i64 (Tp.lvl op:Int)] (grow (redrawn w d) os) fun e w''=>e=.returned (.string (bs (hd1 (Tp.lvl op) y)))/\∃ p:Regrown,w''=grow (redrawn w p.d) p.os:=fun d os=>Calls.regrown_of (kJ hT hs hw (hr.step' (below_regrown w d os)) (hg.below (below_regrown w d os)) (Tp.lvl op) (by omega) (by omega))
 have cV:∀ d os,Calls Tryz.prog 114 #[.pointer (some ⟨c2,0,none⟩),.int .i64 (IntKind.i64.wrap ((Tp.lvl op:Int)+1))] (grow (redrawn w d) os) fun e w''=>e=.returned (.string (bs (hd1 (Tp.lvl op+1) z)))/\∃ p:Regrown,w''=grow (redrawn w p.d) p.os:=fun d os=>by
  rw[wrapS (by omega) (by omega)]
  exact Calls.regrown_of (kJ hT hs2 hw2 (hr2.step' (below_regrown w d os)) (hg.below (below_regrown w d os)) (Tp.lvl op+1) (by omega) (by omega))
 have hR:bs (hd1 (Tp.lvl op) y++[32]++op++[32]++hd1 (Tp.lvl op+1) z)=bs (hd1 (Tp.lvl op) y)++⟨#[32]⟩++bs op++⟨#[32]⟩++bs (hd1 (Tp.lvl op+1) z):=by rw[yc,yc,yc,yc];rfl
 rw[hR]
 have z1:=yA (hd1 (Tp.lvl op) y)
 have z2:=yA (hd1 (Tp.lvl op+1) z)
 have z3:=yA op
 generalize hd1 (Tp.lvl op) y=A at *
 generalize hd1 (Tp.lvl op+1) z=Wt at *
 have p1:¬9223372036854775807<(bs A).size+1:=by omega
 have p2:¬9223372036854775807<(bs A).size+1+(bs op).size:=by omega
 have p3:¬9223372036854775807<(bs A).size+1+(bs op).size+1:=by omega
 have p4:¬9223372036854775807<(bs A).size+1+(bs op).size+1+(bs Wt).size:=by omega
 generalize bs A=SA at *
 generalize bs Wt=SW at *
 generalize bs op=SO at *
 generalize hlv:Tp.lvl op=lv at *
 have hlv5:(lv:Int)<5:=by omega
 have k5:=cell_regrown c5
 have k6:=cell_regrown c6
 have k7:=cell_regrown c7
 have hrb:∀ d os,b<(grow (redrawn w d) os).heap.size:=fun d os=>Nat.lt_of_lt_of_le hbl (below_regrown w d os).size
 clear hb hr hr2 hg hl z1 z2 z3 htl htl2 hop c5 c6 c7 hlv hR
 go_enter Tryz.func53,Tryz.ntmps53
 go_upto_region 14 with fail
 clear c0 c3 c4
 refine wp_region_quiet_below (by kernel_rfl) (by kernel_rfl) ?_
 repeat (quiet_step (first|(go_at_call 115;exact cH _ _)|(go_at_call 114;with_reducible exact cW _ _)|(go_at_call 114;with_reducible exact cV _ _)))
 refine wpQuiet_nil ?_
 intro _ hw'
 obtain⟨⟨dq,osq⟩,hw''⟩:=hw'
 subst hw''
 go_wp2_with fail
 go_ret
 exact⟨rfl,below_regrown w dq osq⟩
def jl:List (List UInt8)->List UInt8
 | []=>[]
 | [t]=>t
 | t :: r=>t++[44,32]++jl r
theorem commas_jl:∀ ar:List X,(Tp.commas (Tp.px ar)).flatten=jl (ar.map tx1):=by
 intro ar
 induction ar with
 | nil=>simp[Tp.px,Tp.commas,jl]
 | cons x r ih =>
  cases r with
  | nil=>rw[Tp.px_cons,Tp.px];rfl
  | cons y r =>
   rw[Tp.px_cons]
   rw[Tp.px_cons]at ih ⊢
   show (Tp.pxs [x]++[Tp.mComma,Tp.sp]++Tp.commas (Tp.pxs [y] :: Tp.px r)).flatten=_
   rw[List.flatten_append,ih,List.flatten_append]
   rfl
theorem jl_snoc:∀(l:List (List UInt8)) (t:List UInt8),jl (l++[t])=jl l++(if l=[] then [] else [44,32])++t:=by
 intro l
 induction l with
 | nil=>intro t;simp[jl]
 | cons a l ih =>
  intro t
  cases l with
  | nil=>simp[jl]
  | cons b l =>
   show a++[44,32]++jl ((b :: l)++[t])=_
   rw[ih t]
   simp[jl]
theorem jl_take {l:List (List UInt8)}{i:Nat}(h:i<l.length):jl (l.take (i+1))=jl (l.take i)++(if i=0 then [] else [44,32])++l[i]:=by
 rw[List.take_succ_eq_append_getElem h,jl_snoc]
 have:(l.take i=[])↔i=0:=by
  rw[List.take_eq_nil_iff]
  constructor
  ·rintro(h1|h1)
   ·exact h1
   ·subst h1;simp at h
  ·exact Or.inl
 by_cases h0:i=0
 ·rw[if_pos (this.2 h0),if_pos h0]
 ·rw[if_neg (fun e=>h0 (this.1 e)),if_neg h0]
theorem jl_le:∀(l:List (List UInt8)) (i:Nat),(jl (l.take i)).length<=(jl l).length:=by
 intro l i
 by_cases h:i<l.length
 ·have key:∀ k,i+k<=l.length->(jl (l.take i)).length<=(jl (l.take (i+k))).length:=by
   intro k
   induction k with
   | zero=>intro _;exact Nat.le_refl _
   | succ k ih =>
    intro hk
    have:=jl_take (l:=l) (i:=i+k) (by omega)
    have h2:=ih (by omega)
    have h3:(jl (l.take (i+(k+1)))).length ≥ (jl (l.take (i+k))).length:=by
     rw[show i+(k+1)=i+k+1 by omega,this]
     simp only [List.length_append]
     omega
    omega
  have:=key (l.length - i) (by omega)
  rw[show i+(l.length - i)=l.length by omega,List.take_length]at this
  exact this
 ·rw[List.take_of_length_le (by omega)]
  exact Nat.le_refl _
theorem WX_nth:∀(l:List X),Tp.WX l->∀ i (h:i<l.length),Tp.WX [l[i]]:=by
 intro l
 induction l with
 | nil=>intro _ i h;simp at h
 | cons x l ih =>
  intro hw i h
  obtain⟨code,pos,n,md,nm,op,le,ri,ar⟩:=x
  rw[Tp.WX]at hw
  cases i with
  | zero =>
   show Tp.WX [⟨code,pos,n,md,nm,op,le,ri,ar⟩]
   rw[Tp.WX]
   exact⟨hw.1,by rw[Tp.WX];trivial⟩
  | succ i=>exact ih hw.2 i (by simpa using h)
theorem text_apply {N:Nat}(hT:TextC N) {ar:List X}(hs:∀ i (h:i<ar.length),SizeOf.sizeOf ar[i]<=N) (hw:Tp.WX ar) {w:World}{D:Nat->Prop}{b pos:Nat}{md nm:List UInt8}{v2 v6 v7 av:Value}{gs:List Value}(hb:w.heap[b]?=some (.cells #[.int .i64 6,.int .i64 (pos:Int),v2,.string (bs md),.string (bs nm),.string (bs []),v6,v7,av] 111 (0,0))) (hr:RepL w D ar gs) (ha:ArgsAt w D av gs) (hg:Gw w) (hl:(nmT md nm++[40]++jl (ar.map tx1)++[41]).length<=1000000000) :
  Calls Tryz.prog 53 #[.pointer (some ⟨b,0,none⟩)] w fun e w'=>e=.returned (.string (bs (nmT md nm++[40]++jl (ar.map tx1)++[41])))/\Below w.heap.size w w':=by
 obtain⟨hal,aa,ac,rfl,hac⟩:=ha.shape
 have hgl:=RepL.len _ _ hr
 rw[hgl]at hal hb
 have c0:w.cell? ⟨b,0,none⟩=some (.int .i64 6):=za hb
 have c3:w.cell? ⟨b,3,none⟩=some (.string (bs md)):=za hb
 have c4:w.cell? ⟨b,4,none⟩=some (.string (bs nm)):=za hb
 have c8:w.cell? ⟨b,8,none⟩=some (.slice aa ar.length ac):=za hb
 have hbl:=zc hb
 simp only [List.length_append,List.length_singleton]at hl
 have hR:bs (nmT md nm++[40]++jl (ar.map tx1)++[41])=bs (nmT md nm)++⟨#[40]⟩++bs (jl (ar.map tx1))++⟨#[41]⟩:=by rw[yc,yc,yc];rfl
 rw[hR]
 have hJ:=jl_le (ar.map tx1)
 have HG:Hid (∀ i (h:i<ar.length),∃ g c:Nat,aa=some ⟨g,0,none⟩/\g<w.heap.size/\w.cell? ⟨g,i,none⟩=some (.pointer (some ⟨c,0,none⟩))/\jl ((ar.map tx1).take (i+1))=jl ((ar.map tx1).take i)++(if i=0 then [] else [44,32])++tx1 ar[i]/\∀ W,Below w.heap.size w W->Calls Tryz.prog 53 #[.pointer (some ⟨c,0,none⟩)] W fun e w'=>e=.returned (.string (bs (tx1 ar[i])))/\Below W.heap.size W w'):=fun i h=>by
  obtain⟨c,y1,y2⟩:=RepL.nth _ _ hr i h
  obtain⟨g,e,hg1,hg2⟩:=hac i _ y1
  have ej:=jl_take (l:=ar.map tx1) (i:=i) (by simpa using h)
  rw[List.getElem_map]at ej
  refine⟨g,c,e,hg1,hg2,ej,fun W hW=>hT ar[i] (hs i h) (WX_nth ar hw i h) W D c (y2.step' hW) (hg.below hW) ?_⟩
  have h1:=hJ (i+1)
  rw[ej]at h1
  simp only [List.length_append]at h1
  omega
 have hzN:=yA (nmT md nm)
 have hzJ:=yA (jl (ar.map tx1))
 have HNM:Hid (bs (nmT md nm)=if md=[] then bs nm else bs md++⟨#[46]⟩++bs nm):=by
  show _=_
  unfold nmT Tp.ref
  split
  ·simp[bs]
  ·simp[bs,ByteArray.ext_iff,Tp.mDot]
 have HJ:Hid (∀ i,(jl ((ar.map tx1).take i)).length<=1000000000):=fun i=>by have:=hJ i;omega
 have HE:Hid (bs (jl ((ar.map tx1).take ar.length))=bs (jl (ar.map tx1))):=by show _=_;rw[List.take_of_length_le (by simp)]
 have hNz:(bs (nmT md nm)).size<=1000000000:=by omega
 have hJz:(bs (jl (ar.map tx1))).size<=1000000000:=by omega
 generalize hjj:jl (ar.map tx1)=JJ at *
 generalize bs (nmT md nm)=NM at *
 have p3:¬9223372036854775807<NM.size+1:=by omega
 have p4:¬9223372036854775807<NM.size+1+(bs JJ).size:=by omega
 have p5:¬9223372036854775807<NM.size+1+(bs JJ).size+1:=by omega
 generalize bs JJ=SJJ at *
 have hn':(ar.length:Int)<=9223372036854775807:=by omega
 obtain⟨em,hem⟩:∃ em,(bs md).toList.isEmpty=em:=⟨_,rfl⟩
 have HEM:Hid (em=true↔md=[]):=by
  rw[<-hem,zC]
  exact List.isEmpty_iff
 generalize bs md=M at *
 clear hb hr hg hR hzN hzJ hl hJ hjj hac ha hw hs hgl
 go_enter Tryz.func53,Tryz.ntmps53
 go_upto_if 15 with fail
 go_cut [3] from 16 (fun v3 wc=>v3=.string NM/\wc=w)
 case first =>
  cases em with
  | true =>
   have e:NM=bs nm:=HNM.out.trans (if_pos (HEM.out.1 rfl))
   subst e
   clear HNM HEM
   go_wp2_with fail
   go_meet
   case rel=>exact⟨rfl,rfl⟩
  | false =>
   have e:NM=M++⟨#[46]⟩++bs nm:=HNM.out.trans (if_neg (fun h=>by have:=HEM.out.2 h;cases this))
   have hz2:=congrArg ByteArray.size e
   rw[ByteArray.size_append,ByteArray.size_append,show (⟨#[46]⟩:ByteArray).size=1 from rfl]at hz2
   have p1:¬9223372036854775807<M.size+1:=by omega
   have p2:¬9223372036854775807<M.size+1+(bs nm).size:=by omega
   have HE2:=zh e
   clear HNM e hz2 HEM
   go_wp2_with fail
   go_meet
   case rel=>exact⟨by rw[HE2.out],rfl⟩
 case rest =>
  obtain⟨rfl,hwc⟩:=hcut
  subst hwc
  clear HNM HEM hem
  go_wp2_with fail
  go_loopg [4,91] ar.length (fun k vs vi wr=>∃ i:Nat,i<=ar.length/\k=ar.length - i/\vi=.int .i64 (i:Int)/\vs=.string (bs (jl ((ar.map tx1).take i)))/\Hid (Below wc.heap.size wc wr))
  case atStart=>exact⟨0,by omega,by omega,rfl,rfl,Below.refl _ _⟩
  case round =>
   obtain⟨i,hid,hk,rfl,rfl,HB⟩:=hrel
   by_cases hlt:i<ar.length
   ·have hlt':(i:Int)<(ar.length:Int):=by omega
    obtain⟨g,c,rfl,hgl,hgc,ej,hC⟩:=HG.out i hlt
    have e0:wr.cell? ⟨g,i,none⟩=some (.pointer (some ⟨c,0,none⟩)):=(HB.out.cell (p:=⟨g,i,none⟩) hgl).trans hgc
    have hgw:g<wr.heap.size:=zi e0
    have HC:=zh (hC wr HB.out)
    have hji:=HJ.out i
    have hji1:=HJ.out (i+1)
    have EJ:=zh ej
    have hz1:=yA (jl ((ar.map tx1).take i))
    have hz2:=yA (tx1 ar[i])
    rw[ej]at hji1
    simp only [List.length_append]at hji1
    generalize tx1 ar[i]=T at *
    by_cases h0:i=0
    ·subst h0
     have EJ2:Hid (bs (jl ((ar.map tx1).take (0+1)))=bs (jl ((ar.map tx1).take 0))++bs T):=by
      show _=_
      rw[EJ.out,if_pos rfl,List.append_nil,yc]
     have p1:¬9223372036854775807<(bs (jl ((ar.map tx1).take 0))).size+(bs T).size:=by omega
     clear EJ ej hgc hC hji hji1 hz1 hz2
     generalize bs (jl ((ar.map tx1).take 0))=SJ at *
     generalize bs T=ST at *
     go_wp2_with fail
     refine HC.out.mono ?_
     rintro e w2 ⟨rfl,hb2⟩
     have HB2:=zh (HB.out.trans (hb2.mono HB.out.size))
     clear hb2 e0 HC
     go_wp2_with fail
     go_roundg (ar.length - (0+1))
     case measure=>omega
     case rel=>exact⟨0+1,by omega,rfl,by go_num,by rw[EJ2.out],HB2⟩
    ·have h0':(0:Int)<(i:Int):=by omega
     have EJ2:Hid (bs (jl ((ar.map tx1).take (i+1)))=bs (jl ((ar.map tx1).take i))++⟨#[44,32]⟩++bs T):=by
      show _=_
      rw[EJ.out,if_neg h0,yc,yc]
      rfl
     have p1:¬9223372036854775807<(bs (jl ((ar.map tx1).take i))).size+2:=by omega
     have p2:¬9223372036854775807<(bs (jl ((ar.map tx1).take i))).size+2+(bs T).size:=by omega
     clear EJ ej hgc hC hji hji1 hz1 hz2
     generalize bs (jl ((ar.map tx1).take i))=SJ at *
     generalize bs T=ST at *
     go_wp2_with fail
     refine HC.out.mono ?_
     rintro e w2 ⟨rfl,hb2⟩
     have HB2:=zh (HB.out.trans (hb2.mono HB.out.size))
     clear hb2 e0 HC
     go_wp2_with fail
     go_roundg (ar.length - (i+1))
     case measure=>omega
     case rel=>exact⟨i+1,by omega,rfl,by go_num,by rw[EJ2.out],HB2⟩
   ·have hlt':¬(i:Int)<(ar.length:Int):=by omega
    have he:i=ar.length:=by omega
    subst he
    rw[HE.out]
    go_wp2_with fail
    go_ret
    exact⟨rfl,HB.out⟩
theorem size_nth:∀(l:List X) (i:Nat) (h:i<l.length),SizeOf.sizeOf l[i]<SizeOf.sizeOf l:=fun _ _ h=>List.sizeOf_lt_of_mem (List.getElem_mem h)
theorem text_all:∀ N,TextC N:=by
 intro N
 induction N with
 | zero=>intro y hy;cases y;simp only [X.mk.sizeOf_spec]at hy;omega
 | succ N ih =>
  intro y hy hw w D b hr hg hl
  obtain⟨code,pos,n,md,nm,op,le,ri,ar⟩:=y
  simp only [X.mk.sizeOf_spec]at hy
  obtain⟨av,ls,rs,gs,hb,hle,hri,har,hav⟩:=hr.unit
  have hw':=hw
  rw[Tp.WX]at hw'
  have e1:∀ p:List (List UInt8),Tp.px [⟨code,pos,n,md,nm,op,le,ri,ar⟩]=[p]->tx1 ⟨code,pos,n,md,nm,op,le,ri,ar⟩=p.flatten:=fun p h=>by unfold tx1 Tp.pxs;rw[h];simp
  rcases hw'.1 with⟨rfl,h1,rfl,rfl,rfl,rfl,rfl,rfl⟩|⟨rfl,rfl,h2,rfl,rfl,rfl,rfl⟩|⟨rfl,rfl,h2,rfl,h3,h4,rfl,rfl⟩|⟨rfl,rfl,rfl,rfl,h2,h3,h4,rfl,rfl⟩|⟨rfl,rfl,rfl,rfl,h2,h3,h4,h5,h6,rfl⟩|⟨rfl,rfl,h2,rfl,rfl,rfl,h3⟩
  ·rw[e1 [Tp.dec n] (by simp[Tp.px])]at hl ⊢
   simp only [List.flatten_cons,List.flatten_nil,List.append_nil]
   exact text_num hb hg h1
  ·rw[e1 (Tp.ref md nm) (by simp[Tp.px])]at hl ⊢
   exact text_var hb hl
  ·obtain⟨z,rfl⟩:=Tp.len1 h4
   obtain⟨c,rfl⟩:=hle.single
   have e2:tx1 ⟨3,pos,0,md,nm,[],[z],[],[]⟩=nmT md nm++[91]++tx1 z++[93]:=by
    rw[e1 (Tp.ref md nm++[Tp.mLb]++(Tp.px [z]).flatten++[Tp.mRb]) (by simp[Tp.px])]
    simp[nmT,tx1,Tp.pxs,Tp.mLb,Tp.mRb]
   rw[e2]at hl ⊢
   exact text_item ih (by simp only [List.cons.sizeOf_spec]at hy;omega) h3 hb hle hg hl
  ·obtain⟨z,rfl⟩:=Tp.len1 h4
   obtain⟨c,rfl⟩:=hle.single
   have e2:tx1 ⟨4,pos,0,[],[],op,[z],[],[]⟩=([op]++(if op=Tp.wNot then [Tp.sp] else [])).flatten++hd1 5 z:=by
    rw[e1 ([op]++(if op=Tp.wNot then [Tp.sp] else [])++Tp.held (Tp.isLow 5 [z]) (Tp.px [z]).flatten) (by simp[Tp.px])]
    rw[List.flatten_append]
    rfl
   rw[e2]at hl ⊢
   exact text_un ih (by simp only [List.cons.sizeOf_spec]at hy;omega) h3 hb h2 hle hg hl
  ·obtain⟨z,rfl⟩:=Tp.len1 h4
   obtain⟨u,rfl⟩:=Tp.len1 h6
   obtain⟨c,rfl⟩:=hle.single
   obtain⟨c2,rfl⟩:=hri.single
   have e2:tx1 ⟨5,pos,0,[],[],op,[z],[u],[]⟩=hd1 (Tp.lvl op) z++[32]++op++[32]++hd1 (Tp.lvl op+1) u:=by
    rw[e1 (Tp.held (Tp.isLow (Tp.lvl op) [z]) (Tp.px [z]).flatten++[Tp.sp,op,Tp.sp]++Tp.held (Tp.isLow (Tp.lvl op+1) [u]) (Tp.px [u]).flatten) (by simp[Tp.px])]
    rw[List.flatten_append,List.flatten_append]
    simp[hd1,Tp.pxs,Tp.sp]
   rw[e2]at hl ⊢
   exact text_bin ih (by simp only [List.cons.sizeOf_spec]at hy;omega) h3 (by simp only [List.cons.sizeOf_spec]at hy;omega) h5 hb h2 hle hri hg hl
  ·have e2:tx1 ⟨6,pos,0,md,nm,[],[],[],ar⟩=nmT md nm++[40]++jl (ar.map tx1)++[41]:=by
    rw[e1 (Tp.ref md nm++[Tp.mLp]++Tp.commas (Tp.px ar)++[Tp.mRp]) (by simp[Tp.px])]
    rw[List.flatten_append,List.flatten_append,List.flatten_append,commas_jl]
    rfl
   rw[e2]at hl ⊢
   exact text_apply ih (fun i h=>by have:=size_nth ar i h;omega) h3 hb har hav hg hl
end Go.Proofs.YthnoedjbhbkdeaaGreatDoor
