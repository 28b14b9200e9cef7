import Derived.Test.YthnoedjbhbkdeaaGreatDoorKFa
import Derived.Test.YthnoedjbhbkdeaaGreatDoorKSha
import Derived.Maps.OwnSet
import Derived.Maps.OwnOps
set_option maxRecDepth 100000
set_option maxHeartbeats 4000000
namespace Go.Proofs.YthnoedjbhbkdeaaGreatDoor
open Go.RowKit Go.Sort
open Tp (X S)
def tabT (d:Nat):List UInt8:=(Tp.tab d).flatten
theorem rep_post (w:World) (d:Nat) (h:d<=1000):Calls Tryz.prog 110 #[.string ⟨#[32,32]⟩,.int .i64 (d:Int)] w fun e w'=>e=.returned (.string (bs (tabT d)))/\Below w.heap.size w w':=by
 have e:Lib.repeatL [32,32] d=tabT d:=by
  unfold tabT Tp.tab
  clear h
  induction d with
  | zero=>rfl
  | succ d ih=>rw[List.replicate_succ,List.flatten_cons,<-ih];rfl
 refine(Any.strings_Repeat Tryz.laysRp Tryz.extraRp ⟨#[32,32]⟩ d w (by omega) (by show 2 * d<=_;omega)).mono fun e' w' ⟨h1,h2⟩=>⟨h1.trans (by rw[<-e];rfl),h2⟩
theorem sz1 (a:UInt8):(⟨#[a]⟩:ByteArray).size=1:=rfl
theorem sz3 (a b c:UInt8):(⟨#[a,b,c]⟩:ByteArray).size=3:=rfl
theorem sz4 (a b c d:UInt8):(⟨#[a,b,c,d]⟩:ByteArray).size=4:=rfl
theorem sz5 (a b c d e:UInt8):(⟨#[a,b,c,d,e]⟩:ByteArray).size=5:=rfl
theorem sz6 (a b c d e f:UInt8):(⟨#[a,b,c,d,e,f]⟩:ByteArray).size=6:=rfl
theorem sz7 (a b c d e f g:UInt8):(⟨#[a,b,c,d,e,f,g]⟩:ByteArray).size=7:=rfl
def TxC (w:World) (va:Option Addr) (V:ByteArray):Prop:=∀ W,Below w.heap.size w W->Calls Tryz.prog 53 #[.pointer va] W fun e w'=>e=.returned (.string V)/\Below W.heap.size W w'
def StC (w:World) (v:Value) (d:Nat) (V:ByteArray):Prop:=∀ W,Below w.heap.size w W->Calls Tryz.prog 51 #[v,.int .i64 ((d:Int)+1)] W fun e w'=>e=.returned (.string V)/\Below W.heap.size W w'
def Cas (w:World) (d:Nat) (nm:ByteArray) (ia va:Option Addr) (tv:Value) (ea:Option Addr) (en ec:Nat) (TB:ByteArray) (code:Int) (T:ByteArray):Prop :=
 (∃ V:ByteArray,code=1/\T=TB++nm++⟨#[32,58,61,32]⟩++V/\ia=none/\TxC w va V) \/
 (∃(c:Nat) (I V:ByteArray),code=1/\T=TB++(nm++(⟨#[91]⟩++I++⟨#[93]⟩))++⟨#[32,58,61,32]⟩++V/\ia=some ⟨c,0,none⟩/\TxC w ia I/\TxC w va V) \/
 (∃ V:ByteArray,code=6/\T=TB++V/\TxC w va V) \/
 (∃ V:ByteArray,code=4/\T=TB++⟨#[114,101,116,117,114,110,32]⟩++V/\TxC w va V) \/
 (∃ V:ByteArray,code=5/\T=TB++⟨#[119,114,105,116,101,32]⟩++V/\TxC w va V) \/
 (∃ V B:ByteArray,code=3/\T=TB++⟨#[119,104,105,108,101,32]⟩++V++⟨#[32,100,111,10]⟩++B++TB++⟨#[101,110,100]⟩/\TxC w va V/\StC w tv d B) \/
 (∃ V B:ByteArray,code=2/\T=(TB++⟨#[105,102,32]⟩++V++⟨#[32,116,104,101,110,10]⟩++B)++(TB++⟨#[101,110,100]⟩)/\TxC w va V/\StC w tv d B/\en=0) \/
 (∃ V B L:ByteArray,code=2/\T=(TB++⟨#[105,102,32]⟩++V++⟨#[32,116,104,101,110,10]⟩++B)++(TB++⟨#[101,108,115,101,10]⟩++L)++(TB++⟨#[101,110,100]⟩)/\TxC w va V/\StC w tv d B/\0<en/\StC w (.slice ea en ec) d L)
def StP (w:World) (aa:Option Addr) (d:Nat) (TB:ByteArray) (i:Nat) (T:ByteArray):Prop:=∃(g:Nat) (code pos:Int) (nm:ByteArray) (ia va ta ea:Option Addr) (tn tc en ec:Nat),aa=some ⟨g,0,none⟩/\g<w.heap.size/\en<=9223372036854775807 /\
 (∀ j,j<7->w.cell? ⟨g,i * 7+j,none⟩=[.int .i64 code,.int .i64 pos,.string nm,.pointer ia,.pointer va,.slice ta tn tc,.slice ea en ec][j]?)/\Cas w d nm ia va (.slice ta tn tc) ea en ec TB code T
set_option linter.unusedSimpArgs false
theorem stmtsText_row {w:World}{aa:Option Addr}{an ac d:Nat}(han:an<=9223372036854775807) (hd:d<=1000) (f:Nat->ByteArray) (acc:Nat->ByteArray) (h0:acc 0=⟨#[]⟩) (hs:∀ i,i<an->acc (i+1)=acc i++f i++⟨#[59,10]⟩) (hz:∀ i,i<=an->(acc i).size<=1000000000) (hP:∀ i,i<an->StP w aa d (bs (tabT d)) i (f i)) :
  Calls Tryz.prog 51 #[.slice aa an ac,.int .i64 (d:Int)] w fun e w'=>e=.returned (.string (acc an))/\Below w.heap.size w w':=by
 have hn':(an:Int)<=9223372036854775807:=by omega
 have HP:=zh hP
 have HS:=zh hs
 have HZ:=zh hz
 have HR:=zh (rep_post w d hd)
 have wd:IntKind.i64.wrap ((d:Int)+1)=(d:Int)+1:=wrapS (by omega) (by omega)
 have hd':(d:Int)<=1000:=by omega
 clear hP hs hz
 generalize bs (tabT d)=TB at *
 go_enter Tryz.func51,Tryz.ntmps51
 go_wp2_with fail
 refine HR.out.mono ?_
 rintro e w1 ⟨rfl,hb1⟩
 have HB1:=zh hb1
 clear hb1 HR
 go_wp2_with fail
 go_loopg [6,14] an (fun k vs vi wr=>∃ i:Nat,i<=an/\k=an - i/\vi=.int .i64 (i:Int)/\vs=.string (acc i)/\Hid (Below w.heap.size w wr))
 case atStart=>exact⟨0,by omega,by omega,rfl,by rw[h0],HB1⟩
 case round =>
  obtain⟨i,hid,hk,rfl,rfl,HB⟩:=hrel
  by_cases hlt:i<an
  ·have hlt':(i:Int)<(an:Int):=by omega
   obtain⟨g,code,pos,nm,ia,va,ta,ea,tn,tc,en,ec,rfl,hgl,hen,hx,hC⟩:=HP.out i hlt
   have x0:wr.cell? ⟨g,i * 7,none⟩=some (.int .i64 code):=(HB.out.cell (p:=⟨g,i * 7+0,none⟩) hgl).trans (hx 0 (by omega))
   have x1:wr.cell? ⟨g,i * 7+1,none⟩=some (.int .i64 pos):=(HB.out.cell (p:=⟨g,i * 7+1,none⟩) hgl).trans (hx 1 (by omega))
   have x2:wr.cell? ⟨g,i * 7+2,none⟩=some (.string nm):=(HB.out.cell (p:=⟨g,i * 7+2,none⟩) hgl).trans (hx 2 (by omega))
   have x3:wr.cell? ⟨g,i * 7+3,none⟩=some (.pointer ia):=(HB.out.cell (p:=⟨g,i * 7+3,none⟩) hgl).trans (hx 3 (by omega))
   have x4:wr.cell? ⟨g,i * 7+4,none⟩=some (.pointer va):=(HB.out.cell (p:=⟨g,i * 7+4,none⟩) hgl).trans (hx 4 (by omega))
   have x5:wr.cell? ⟨g,i * 7+5,none⟩=some (.slice ta tn tc):=(HB.out.cell (p:=⟨g,i * 7+5,none⟩) hgl).trans (hx 5 (by omega))
   have x6:wr.cell? ⟨g,i * 7+6,none⟩=some (.slice ea en ec):=(HB.out.cell (p:=⟨g,i * 7+6,none⟩) hgl).trans (hx 6 (by omega))
   have HC:=zh hC
   have hwl1:g<wr.heap.size:=zi x0
   have hen':(en:Int)<=9223372036854775807:=by omega
   have hz0:=HZ.out i hid
   have hz1:=HZ.out (i+1) hlt
   have ES:=HS.out i hlt
   have hz2:=congrArg ByteArray.size ES
   rw[ByteArray.size_append,ByteArray.size_append,show (⟨#[59,10]⟩:ByteArray).size=2 from rfl]at hz2
   have hzf:(acc i).size+(f i).size+2<=1000000000:=by omega
   replace ES:=zh ES
   clear hx hC hgl hz0 hz1 hz2
   go_upto_region 5 with fail
   go_cut [8] from 18 to 130 (fun v8 wc=>∃ bx:Nat,v8=.pointer (some ⟨bx,0,none⟩)/\Hid (wc.heap[bx]?=some (.cells #[.int .i64 code,.int .i64 pos,.string nm,.pointer ia,.pointer va,.slice ta tn tc,.slice ea en ec] 96 (0,0)))/\Hid (Below wr.heap.size wr wc))
   case first =>
    go_wp2_with fail
    go_meet
    case rel=>exact⟨wr.heap.size,rfl,zu wr _,zb _ _⟩
   case rest =>
    obtain⟨bx,rfl,HX,HBc⟩:=hcut
    rename_i wc
    have HBw:=zh (HB.out.trans (HBc.out.mono HB.out.size))
    have hx:=HX.out
    clear x0 x1 x2 x3 x4 x5 x6 hwl1 HX HB HBc
    have x0:wc.cell? ⟨bx,0,none⟩=some (.int .i64 code):=za hx
    have x1:wc.cell? ⟨bx,1,none⟩=some (.int .i64 pos):=za hx
    have x2:wc.cell? ⟨bx,2,none⟩=some (.string nm):=za hx
    have x3:wc.cell? ⟨bx,3,none⟩=some (.pointer ia):=za hx
    have x4:wc.cell? ⟨bx,4,none⟩=some (.pointer va):=za hx
    have x5:wc.cell? ⟨bx,5,none⟩=some (.slice ta tn tc):=za hx
    have x6:wc.cell? ⟨bx,6,none⟩=some (.slice ea en ec):=za hx
    have hlx:=zc hx
    have hC:=HC.out
    clear HC
    generalize f i=T at *
    generalize acc i=S at *
    rcases hC with⟨V,rfl,rfl,hia,hV⟩|⟨c,I,V,rfl,rfl,hia,hI,hV⟩|⟨V,rfl,rfl,hV⟩|⟨V,rfl,rfl,hV⟩|⟨V,rfl,rfl,hV⟩|⟨V,B,rfl,rfl,hV,hB⟩|⟨V,B,rfl,rfl,hV,hB,hen0⟩|⟨V,B,L,rfl,rfl,hV,hB,hen0,hL⟩
    ·subst hia
     simp only [ByteArray.size_append,sz1,sz3,sz4,sz5,sz6,sz7]at hzf
     have p0:¬9223372036854775807<TB.size+nm.size:=by omega
     have p1:¬9223372036854775807<TB.size+nm.size+4:=by omega
     have p2:¬9223372036854775807<TB.size+nm.size+4+V.size:=by omega
     have p3:¬9223372036854775807<S.size+(TB.size+nm.size+4+V.size):=by omega
     have p4:¬9223372036854775807<S.size+(TB.size+nm.size+4+V.size)+2:=by omega
     have HV:=zh (hV wc HBw.out)
     clear hV hzf hx x5 x6
     go_wp2_with fail
     refine HV.out.mono ?_
     rintro e w2 ⟨rfl,hb2⟩
     have HB2:=zh (HBw.out.trans (hb2.mono HBw.out.size))
     clear hb2 HV x0 x1 x2 x3 x4 hlx
     go_wp2_with fail
     go_roundg (an - (i+1))
     case measure=>omega
     case rel=>exact⟨i+1,by omega,rfl,by go_num,by rw[ES.out],HB2⟩
    ·subst hia
     simp only [ByteArray.size_append,sz1,sz3,sz4,sz5,sz6,sz7]at hzf
     have p0:¬9223372036854775807<1+I.size:=by omega
     have p1:¬9223372036854775807<1+I.size+1:=by omega
     have p2:¬9223372036854775807<nm.size+(1+I.size+1):=by omega
     have p3:¬9223372036854775807<TB.size+(nm.size+(1+I.size+1)):=by omega
     have p4:¬9223372036854775807<TB.size+(nm.size+(1+I.size+1))+4:=by omega
     have p5:¬9223372036854775807<TB.size+(nm.size+(1+I.size+1))+4+V.size:=by omega
     have p6:¬9223372036854775807<S.size+(TB.size+(nm.size+(1+I.size+1))+4+V.size):=by omega
     have p7:¬9223372036854775807<S.size+(TB.size+(nm.size+(1+I.size+1))+4+V.size)+2:=by omega
     have HI:=zh (hI wc HBw.out)
     have HV:=zh hV
     have HX:=zh hx
     clear hV hI hzf hx x5 x6
     go_wp2_with fail
     refine HI.out.mono ?_
     rintro e w2 ⟨rfl,hb2⟩
     have HB1:=zh (HBw.out.trans (hb2.mono HBw.out.size))
     have hx:=(hb2.block bx hlx).trans HX.out
     clear hb2 HI HX x0 x1 x2 x3 x4 hlx
     have x4:w2.cell? ⟨bx,4,none⟩=some (.pointer va):=za hx
     have hlx:=zc hx
     replace HV:=zh (HV.out w2 HB1.out)
     clear hx
     go_wp2_with fail
     refine HV.out.mono ?_
     rintro e w3 ⟨rfl,hb3⟩
     have HB2:=zh (HB1.out.trans (hb3.mono HB1.out.size))
     clear hb3 HV x4 hlx
     go_wp2_with fail
     go_roundg (an - (i+1))
     case measure=>omega
     case rel=>exact⟨i+1,by omega,rfl,by go_num,by rw[ES.out],HB2⟩
    ·simp only [ByteArray.size_append,sz1,sz3,sz4,sz5,sz6,sz7]at hzf
     have p0:¬9223372036854775807<TB.size+V.size:=by omega
     have p1:¬9223372036854775807<S.size+(TB.size+V.size):=by omega
     have p2:¬9223372036854775807<S.size+(TB.size+V.size)+2:=by omega
     have HV:=zh (hV wc HBw.out)
     clear hV hzf hx x5 x6
     go_wp2_with fail
     refine HV.out.mono ?_
     rintro e w2 ⟨rfl,hb2⟩
     have HB2:=zh (HBw.out.trans (hb2.mono HBw.out.size))
     clear hb2 HV x0 x1 x2 x3 x4 hlx
     go_wp2_with fail
     go_roundg (an - (i+1))
     case measure=>omega
     case rel=>exact⟨i+1,by omega,rfl,by go_num,by rw[ES.out],HB2⟩
    ·simp only [ByteArray.size_append,sz1,sz3,sz4,sz5,sz6,sz7]at hzf
     have p0:¬9223372036854775807<TB.size+7:=by omega
     have p1:¬9223372036854775807<TB.size+7+V.size:=by omega
     have p2:¬9223372036854775807<S.size+(TB.size+7+V.size):=by omega
     have p3:¬9223372036854775807<S.size+(TB.size+7+V.size)+2:=by omega
     have HV:=zh (hV wc HBw.out)
     clear hV hzf hx x5 x6
     go_wp2_with fail
     refine HV.out.mono ?_
     rintro e w2 ⟨rfl,hb2⟩
     have HB2:=zh (HBw.out.trans (hb2.mono HBw.out.size))
     clear hb2 HV x0 x1 x2 x3 x4 hlx
     go_wp2_with fail
     go_roundg (an - (i+1))
     case measure=>omega
     case rel=>exact⟨i+1,by omega,rfl,by go_num,by rw[ES.out],HB2⟩
    ·simp only [ByteArray.size_append,sz1,sz3,sz4,sz5,sz6,sz7]at hzf
     have p0:¬9223372036854775807<TB.size+6:=by omega
     have p1:¬9223372036854775807<TB.size+6+V.size:=by omega
     have p2:¬9223372036854775807<S.size+(TB.size+6+V.size):=by omega
     have p3:¬9223372036854775807<S.size+(TB.size+6+V.size)+2:=by omega
     have HV:=zh (hV wc HBw.out)
     clear hV hzf hx x5 x6
     go_wp2_with fail
     refine HV.out.mono ?_
     rintro e w2 ⟨rfl,hb2⟩
     have HB2:=zh (HBw.out.trans (hb2.mono HBw.out.size))
     clear hb2 HV x0 x1 x2 x3 x4 hlx
     go_wp2_with fail
     go_roundg (an - (i+1))
     case measure=>omega
     case rel=>exact⟨i+1,by omega,rfl,by go_num,by rw[ES.out],HB2⟩
    ·simp only [ByteArray.size_append,sz1,sz3,sz4,sz5,sz6,sz7]at hzf
     have p0:¬9223372036854775807<TB.size+6:=by omega
     have p1:¬9223372036854775807<TB.size+6+V.size:=by omega
     have p2:¬9223372036854775807<TB.size+6+V.size+4:=by omega
     have p3:¬9223372036854775807<TB.size+6+V.size+4+B.size:=by omega
     have p4:¬9223372036854775807<TB.size+6+V.size+4+B.size+TB.size:=by omega
     have p5:¬9223372036854775807<TB.size+6+V.size+4+B.size+TB.size+3:=by omega
     have p6:¬9223372036854775807<S.size+(TB.size+6+V.size+4+B.size+TB.size+3):=by omega
     have p7:¬9223372036854775807<S.size+(TB.size+6+V.size+4+B.size+TB.size+3)+2:=by omega
     have cV:∀ d os,Calls Tryz.prog 53 #[.pointer va] (grow (redrawn wc d) os) fun e w''=>e=.returned (.string V)/\∃ p:Regrown,w''=grow (redrawn wc p.d) p.os:=fun d os=>Calls.regrown_of (hV _ (HBw.out.trans ((below_regrown wc d os).mono HBw.out.size)))
     have cB:∀ d' os,Calls Tryz.prog 51 #[.slice ta tn tc,.int .i64 (IntKind.i64.wrap ((d:Int)+1))] (grow (redrawn wc d') os) fun e w''=>e=.returned (.string B)/\∃ p:Regrown,w''=grow (redrawn wc p.d) p.os:=fun d' os=>by
      rw[wd]
      exact Calls.regrown_of (hB _ (HBw.out.trans ((below_regrown wc d' os).mono HBw.out.size)))
     have cD:∀ d' os,Calls Tryz.prog 51 #[.slice ta tn tc,.int .i64 ((d:Int)+1)] (grow (redrawn wc d') os) fun e w''=>e=.returned (.string B)/\∃ p:Regrown,w''=grow (redrawn wc p.d) p.os:=fun d' os=>Calls.regrown_of (hB _ (HBw.out.trans ((below_regrown wc d' os).mono HBw.out.size)))
     have k4:=cell_regrown x4
     have k5:=cell_regrown x5
     have hrb:∀ d os,bx<(grow (redrawn wc d) os).heap.size:=fun d os=>Nat.lt_of_lt_of_le hlx (below_regrown wc d os).size
     have HX:=zh hx
     have HLX:=zh hlx
     clear hV hB hzf hx x4 x5 x6
     go_upto_region 19 with fail
     clear x0 x1 x2 x3 hlx
     refine wp_region_quiet_below (by kernel_rfl) (by kernel_rfl) ?_
     repeat (quiet_step (first|(go_at_call 53;with_reducible exact cV _ _)|(go_at_call 51;with_reducible exact cB _ _)|(go_at_call 51;with_reducible exact cD _ _)))
     refine wpQuiet_nil ?_
     intro _ hw'
     obtain⟨⟨dq,osq⟩,hw''⟩:=hw'
     subst hw''
     have HB1:=zh (HBw.out.trans ((below_regrown wc dq osq).mono HBw.out.size))
     have hx':=((below_regrown wc dq osq).block bx HLX.out).trans HX.out
     clear cV cB cD k4 k5 HX HLX
     have hlx:=hrb dq osq
     have x6:=za (i:=6) hx'
     clear hrb
     generalize grow (redrawn wc dq) osq=wq at *
     have HB2:=HB1
     clear x6 hx' hlx
     go_wp2_with fail
     go_roundg (an - (i+1))
     case measure=>omega
     case rel=>exact⟨i+1,by omega,rfl,by go_num,by rw[ES.out],HB2⟩
    ·subst hen0
     simp only [ByteArray.size_append,sz1,sz3,sz4,sz5,sz6,sz7]at hzf
     have p0:¬9223372036854775807<TB.size+3:=by omega
     have p1:¬9223372036854775807<TB.size+3+V.size:=by omega
     have p2:¬9223372036854775807<TB.size+3+V.size+6:=by omega
     have p3:¬9223372036854775807<TB.size+3+V.size+6+B.size:=by omega
     have p4:¬9223372036854775807<S.size+(TB.size+3+V.size+6+B.size):=by omega
     have p5:¬9223372036854775807<TB.size+3:=by omega
     have p6:¬9223372036854775807<S.size+(TB.size+3+V.size+6+B.size)+(TB.size+3):=by omega
     have p7:¬9223372036854775807<S.size+(TB.size+3+V.size+6+B.size)+(TB.size+3)+2:=by omega
     have cV:∀ d os,Calls Tryz.prog 53 #[.pointer va] (grow (redrawn wc d) os) fun e w''=>e=.returned (.string V)/\∃ p:Regrown,w''=grow (redrawn wc p.d) p.os:=fun d os=>Calls.regrown_of (hV _ (HBw.out.trans ((below_regrown wc d os).mono HBw.out.size)))
     have cB:∀ d' os,Calls Tryz.prog 51 #[.slice ta tn tc,.int .i64 (IntKind.i64.wrap ((d:Int)+1))] (grow (redrawn wc d') os) fun e w''=>e=.returned (.string B)/\∃ p:Regrown,w''=grow (redrawn wc p.d) p.os:=fun d' os=>by
      rw[wd]
      exact Calls.regrown_of (hB _ (HBw.out.trans ((below_regrown wc d' os).mono HBw.out.size)))
     have cD:∀ d' os,Calls Tryz.prog 51 #[.slice ta tn tc,.int .i64 ((d:Int)+1)] (grow (redrawn wc d') os) fun e w''=>e=.returned (.string B)/\∃ p:Regrown,w''=grow (redrawn wc p.d) p.os:=fun d' os=>Calls.regrown_of (hB _ (HBw.out.trans ((below_regrown wc d' os).mono HBw.out.size)))
     have k4:=cell_regrown x4
     have k5:=cell_regrown x5
     have hrb:∀ d os,bx<(grow (redrawn wc d) os).heap.size:=fun d os=>Nat.lt_of_lt_of_le hlx (below_regrown wc d os).size
     have HX:=zh hx
     have HLX:=zh hlx
     clear hV hB hzf hx x4 x5 x6
     go_upto_region 21 with fail
     clear x0 x1 x2 x3 hlx
     refine wp_region_quiet_below (by kernel_rfl) (by kernel_rfl) ?_
     repeat (quiet_step (first|(go_at_call 53;with_reducible exact cV _ _)|(go_at_call 51;with_reducible exact cB _ _)|(go_at_call 51;with_reducible exact cD _ _)))
     refine wpQuiet_nil ?_
     intro _ hw'
     obtain⟨⟨dq,osq⟩,hw''⟩:=hw'
     subst hw''
     have HB1:=zh (HBw.out.trans ((below_regrown wc dq osq).mono HBw.out.size))
     have hx':=((below_regrown wc dq osq).block bx HLX.out).trans HX.out
     clear cV cB cD k4 k5 HX HLX
     have hlx:=hrb dq osq
     have x6:=za (i:=6) hx'
     clear hrb
     generalize grow (redrawn wc dq) osq=wq at *
     have HB2:=HB1
     clear hx'
     go_wp2_with fail
     go_roundg (an - (i+1))
     case measure=>omega
     case rel=>exact⟨i+1,by omega,rfl,by go_num,by rw[ES.out];simp only [ByteArray.append_assoc],HB2⟩
    ·have hen1:(0:Int)<(en:Int):=by omega
     have HL0:=zh hL
     clear hL
     simp only [ByteArray.size_append,sz1,sz3,sz4,sz5,sz6,sz7]at hzf
     have p0:¬9223372036854775807<TB.size+3:=by omega
     have p1:¬9223372036854775807<TB.size+3+V.size:=by omega
     have p2:¬9223372036854775807<TB.size+3+V.size+6:=by omega
     have p3:¬9223372036854775807<TB.size+3+V.size+6+B.size:=by omega
     have p4:¬9223372036854775807<S.size+(TB.size+3+V.size+6+B.size):=by omega
     have p5:¬9223372036854775807<TB.size+3:=by omega
     have p6:¬9223372036854775807<TB.size+5:=by omega
     have p7:¬9223372036854775807<TB.size+5+L.size:=by omega
     have p8:¬9223372036854775807<S.size+(TB.size+3+V.size+6+B.size)+(TB.size+5+L.size):=by omega
     have p9:¬9223372036854775807<S.size+(TB.size+3+V.size+6+B.size)+(TB.size+5+L.size)+(TB.size+3):=by omega
     have p10:¬9223372036854775807<S.size+(TB.size+3+V.size+6+B.size)+(TB.size+5+L.size)+(TB.size+3)+2:=by omega
     have cV:∀ d os,Calls Tryz.prog 53 #[.pointer va] (grow (redrawn wc d) os) fun e w''=>e=.returned (.string V)/\∃ p:Regrown,w''=grow (redrawn wc p.d) p.os:=fun d os=>Calls.regrown_of (hV _ (HBw.out.trans ((below_regrown wc d os).mono HBw.out.size)))
     have cB:∀ d' os,Calls Tryz.prog 51 #[.slice ta tn tc,.int .i64 (IntKind.i64.wrap ((d:Int)+1))] (grow (redrawn wc d') os) fun e w''=>e=.returned (.string B)/\∃ p:Regrown,w''=grow (redrawn wc p.d) p.os:=fun d' os=>by
      rw[wd]
      exact Calls.regrown_of (hB _ (HBw.out.trans ((below_regrown wc d' os).mono HBw.out.size)))
     have cD:∀ d' os,Calls Tryz.prog 51 #[.slice ta tn tc,.int .i64 ((d:Int)+1)] (grow (redrawn wc d') os) fun e w''=>e=.returned (.string B)/\∃ p:Regrown,w''=grow (redrawn wc p.d) p.os:=fun d' os=>Calls.regrown_of (hB _ (HBw.out.trans ((below_regrown wc d' os).mono HBw.out.size)))
     have k4:=cell_regrown x4
     have k5:=cell_regrown x5
     have hrb:∀ d os,bx<(grow (redrawn wc d) os).heap.size:=fun d os=>Nat.lt_of_lt_of_le hlx (below_regrown wc d os).size
     have HX:=zh hx
     have HLX:=zh hlx
     clear hV hB hzf hx x4 x5 x6
     go_upto_region 21 with fail
     clear x0 x1 x2 x3 hlx
     refine wp_region_quiet_below (by kernel_rfl) (by kernel_rfl) ?_
     repeat (quiet_step (first|(go_at_call 53;with_reducible exact cV _ _)|(go_at_call 51;with_reducible exact cB _ _)|(go_at_call 51;with_reducible exact cD _ _)))
     refine wpQuiet_nil ?_
     intro _ hw'
     obtain⟨⟨dq,osq⟩,hw''⟩:=hw'
     subst hw''
     have HB1:=zh (HBw.out.trans ((below_regrown wc dq osq).mono HBw.out.size))
     have hx':=((below_regrown wc dq osq).block bx HLX.out).trans HX.out
     clear cV cB cD k4 k5 HX HLX
     have hlx:=hrb dq osq
     have x6:=za (i:=6) hx'
     clear hrb
     generalize grow (redrawn wc dq) osq=wq at *
     have HL:=zh (HL0.out wq HB1.out)
     clear hx' HL0
     go_wp2_with fail
     refine HL.out.mono ?_
     rintro e w3 ⟨rfl,hb3⟩
     have HB2:=zh (HB1.out.trans (hb3.mono HB1.out.size))
     clear hb3 HL x6 hlx
     go_wp2_with fail
     go_roundg (an - (i+1))
     case measure=>omega
     case rel=>exact⟨i+1,by omega,rfl,by go_num,by rw[ES.out];simp only [ByteArray.append_assoc],HB2⟩
  ·have hlt':¬(i:Int)<(an:Int):=by omega
   have he:i=an:=by omega
   subst he
   go_wp2_with fail
   go_ret
   exact⟨rfl,HB.out⟩
end Go.Proofs.YthnoedjbhbkdeaaGreatDoor
namespace Go.Proofs.YthnoedjbhbkdeaaGreatDoor
open Go.RowKit Go.Maps
def heldB (v:Value):Option (DataW Value× List MemPlace):=some (.held v,[])
theorem bkey:Keyed Tryz.prog 4:=bool_keyed Tryz.underlying4
structure Star (w:World) (b:Nat):Prop where
 own:∃ D,w.ownsMap Tryz.prog 4 heldB b 1 D/\Maps.has D (.bool true)=true/\Maps.has D (.bool false)=false/\∀ z,D.atKey (.bool true) z=.held (.string ⟨#[42]⟩)
theorem Star.on {w w':World}{b:Nat}(h:Star w b) (k:w'.heap[b]?=w.heap[b]?):Star w' b:=by
 obtain⟨D,⟨es,clock,h1,h2⟩,h3⟩:=h.own
 exact⟨⟨D,⟨es,clock,k.trans h1,h2⟩,h3⟩⟩
theorem Star.lt {w:World}{b:Nat}(h:Star w b):b<w.heap.size:=by
 obtain⟨D,h1,_⟩:=h.own
 exact h1.lt
theorem Star.step {w w':World}{b:Nat}(h:Star w b) (k:Below w.heap.size w w'):Star w' b:=h.on (k.block b h.lt)
theorem star_t:bs (Tp.star true).flatten=⟨#[42]⟩:=by simp[Tp.star,Tp.mStar,bs]
theorem star_f:bs (Tp.star false).flatten=⟨#[]⟩:=by simp[Tp.star,bs]
theorem Star.look {w:World}{b:Nat}(h:Star w b) (x:Bool):(Instr.lookup 90 (.map (some b)) (.bool x) false).run Tryz.prog w=.ok (.string (bs (Tp.star x).flatten)) w:=by
 obtain⟨D,h1,h2,h3,h4⟩:=h.own
 obtain⟨v,ps,r1,r2⟩:=h1.lookup bkey Tryz.underlying90 (Tryz.zeroValue9 w) (zd:=.held (.string ⟨#[]⟩)) (zp:=[]) rfl (keyOf_bool_mk Tryz.underlying4 x)
 unfold heldB at r2
 simp only [Option.some.injEq,Prod.mk.injEq]at r2
 obtain⟨r2,_⟩:=r2
 rw[r1]
 cases x with
 | true =>
  rw[h4]at r2
  have r3:=DataW.held.inj r2
  rw[r3,star_t]
 | false =>
  rw[atKey_of_not_has h3]at r2
  have r3:=DataW.held.inj r2
  rw[r3,star_f]
theorem star_made (w:World) {b:Nat}(hb:b=w.heap.size):∃ w',(Instr.mapUpdate 90 (.map (some b)) (.bool true) (.string ⟨#[42]⟩)).run Tryz.prog (w.alloc (.map #[] 0))=.ok () w'/\Star w' b/\Below w.heap.size w w':=by
 subst hb
 have h0:(w.alloc (.map #[] 0)).ownsMap Tryz.prog 4 heldB w.heap.size 0 (.map []):=World.ownsMap_made _ _ _ _
 obtain⟨w',r1,r2,r3⟩:=h0.update bkey Tryz.underlying90 (by unfold maxLen;omega) (keyOf_bool_mk Tryz.underlying4 true) (val:=.string ⟨#[42]⟩) (d:=.held (.string ⟨#[42]⟩)) (ps:=[]) rfl
 have hm:=h0.isMap
 have hk:WideAt.IsKeyLit (.bool true):=by simp[WideAt.IsKeyLit]
 have hne:(Lit.bool false)≠.bool true:=by simp
 refine⟨w',r1,⟨⟨_,r2,by rw[has_put_same hm hk],by rw[has_put_other hne];rfl,fun z=>by rw[atKey_put_same hm hk]⟩⟩,?_⟩
 have hal:Below w.heap.size w (w.alloc (.map #[] 0)):=zb _ _
 exact hal.grown r3 hal.size (fun j hj=>by cases hj;exact Nat.le_refl _)
end Go.Proofs.YthnoedjbhbkdeaaGreatDoor
namespace Go.Proofs.YthnoedjbhbkdeaaGreatDoor
open Go.RowKit Go.Sort
def JoC (w:World) (v:Value) (J:ByteArray):Prop:=∀ W,Below w.heap.size w W->Calls Tryz.prog 49 #[v,.string ⟨#[44,32]⟩] W fun e w'=>e=.returned (.string J)/\Below W.heap.size W w'
def BoC (w:World) (v:Value) (B:ByteArray):Prop:=∀ W,Below w.heap.size w W->Calls Tryz.prog 51 #[v,.int .i64 1] W fun e w'=>e=.returned (.string B)/\Below W.heap.size W w'
def stB (x:Bool):ByteArray:=bs (Tp.star x).flatten
def GlP (w:World) (ga:Option Addr) (i:Nat) (A A':ByteArray):Prop:=∃(g:Nat) (nm:ByteArray) (pos:Int) (len:Nat) (sn:Bool),ga=some ⟨g,0,none⟩/\g<w.heap.size /\
 (∀ j,j<4->w.cell? ⟨g,i * 4+j,none⟩=[.string nm,.int .i64 pos,.int .i64 (len:Int),.bool sn][j]?)/\len<100 /\
 A'=A++(⟨#[118,97,114,32]⟩++nm++stB sn++⟨#[58,32]⟩)++(if len=0 then ⟨#[105,110,116,59,10]⟩ else ⟨#[97,114,114,97,121,32]⟩++bs (Tp.dec len)++⟨#[59,10]⟩)
def PrP (w:World) (qa:Option Addr) (i:Nat) (A A':ByteArray):Prop:=∃(g:Nat) (nm:ByteArray) (pos:Int) (sn:Bool) (pa va ba:Option Addr) (pn pc vn vc bn bc:Nat) (JP JV BD:ByteArray),qa=some ⟨g,0,none⟩/\g<w.heap.size /\
 (∀ j,j<6->w.cell? ⟨g,i * 6+j,none⟩=[.string nm,.int .i64 pos,.bool sn,.slice pa pn pc,.slice va vn vc,.slice ba bn bc][j]?)/\vn<=9223372036854775807/\JoC w (.slice pa pn pc) JP/\JoC w (.slice va vn vc) JV/\BoC w (.slice ba bn bc) BD /\
 A'=A++(⟨#[112,114,111,99,32]⟩++nm++stB sn++⟨#[40]⟩++JP++⟨#[41,59,10]⟩)++(if vn=0 then ⟨#[]⟩ else ⟨#[118,97,114,32]⟩++JV++⟨#[59,10]⟩)++(⟨#[98,101,103,105,110,10]⟩++BD++⟨#[101,110,100,59,10]⟩)
theorem itoaF (w:World) (i:Nat) (hi:i<100):Calls Tryz.prog 50 #[.int .i64 (i:Int)] w fun e w'=>e=.returned (.string (bs (Tp.dec i)))/\w'=w:=by
 have h:=Any.strconv_Itoa_small Tryz.laysItoa i hi w
 have e:Tp.dec i=Lib.decDigits i:=by rw[dec_it,Lib.itoa_nonneg]
 rw[e]
 exact h
theorem szB (a:Array UInt8):(⟨a⟩:ByteArray).size=a.size:=rfl
theorem nilB (x:ByteArray):x++(⟨#[]⟩:ByteArray)=x:=by simp[ByteArray.ext_iff]
set_option linter.unusedSimpArgs false
theorem rprint_row {w:World}{mn:ByteArray}{ia ga qa sa:Option Addr}{il ic gl gc ql qc sl sc:Nat}(hil:il<=9223372036854775807) (hgl:gl<=9223372036854775807) (hql:ql<=9223372036854775807) {J B:ByteArray}(accG accP:Nat->ByteArray) (hJ:JoC w (.slice ia il ic) J)
  (ho:accG 0=(⟨#[109,111,100,117,108,101,32]⟩++mn++⟨#[59,10]⟩)++(if il=0 then ⟨#[]⟩ else ⟨#[105,109,112,111,114,116,32]⟩++J++⟨#[59,10]⟩)) (hG:∀ i,i<gl->GlP w ga i (accG i) (accG (i+1))) (hGP:accP 0=accG gl) (hP:∀ i,i<ql->PrP w qa i (accP i) (accP (i+1))) (hB:BoC w (.slice sa sl sc) B)
  (hzG:∀ i,i<=gl->(accG i).size<=1000000000) (hzP:∀ i,i<=ql->(accP i).size<=1000000000) (hzB:B.size<=1000000000) :
  Calls Tryz.prog 11 #[.agg #[.string mn,.slice ia il ic,.slice ga gl gc,.slice qa ql qc,.slice sa sl sc]] w fun e w'=>e=.returned (.string (accP ql++⟨#[98,101,103,105,110,10]⟩++B++⟨#[101,110,100,46,10]⟩))/\Below w.heap.size w w':=by
 have hil':(il:Int)<=9223372036854775807:=by omega
 have hgl':(gl:Int)<=9223372036854775807:=by omega
 have hql':(ql:Int)<=9223372036854775807:=by omega
 have HG:=zh hG
 have HP:=zh hP
 have HZG:=zh hzG
 have HZP:=zh hzP
 have HJ:=zh hJ
 have HB:=zh hB
 have HGP:=zh hGP
 have HO:=zh ho
 have hz0:=hzG 0 (by omega)
 clear hG hP hzG hzP hJ hB hGP ho
 have hmm:=@run_makeMap Tryz.prog
 have hal:Below w.heap.size w (w.alloc (.cells #[.string mn,.slice ia il ic,.slice ga gl gc,.slice qa ql qc,.slice sa sl sc] 27)):=zb _ _
 have hnb:(w.alloc (.cells #[.string mn,.slice ia il ic,.slice ga gl gc,.slice qa ql qc,.slice sa sl sc] 27)).heap[w.heap.size]?=some (.cells #[.string mn,.slice ia il ic,.slice ga gl gc,.slice qa ql qc,.slice sa sl sc] 27 (0,0)):=zu w _
 obtain⟨w2,hrun,hst,hb2⟩:=star_made (w.alloc (.cells #[.string mn,.slice ia il ic,.slice ga gl gc,.slice qa ql qc,.slice sa sl sc] 27)) (b:=w.heap.size+1) (by simp)
 have HX0:Hid (w2.heap[w.heap.size]?=some (.cells #[.string mn,.slice ia il ic,.slice ga gl gc,.slice qa ql qc,.slice sa sl sc] 27 (0,0))):=(hb2.block _ (by simp)).trans hnb
 have HB0:Hid (Below w.heap.size w w2):=hal.trans (hb2.mono hal.size)
 have HST:=zh hst
 clear hal hnb hst hb2
 go_enter Tryz.func11,Tryz.ntmps11
 go_upto_region 1 with fail
 go_cut [1,3] from 11 (fun v1 v3 wc=>∃ bx mb:Nat,v1=.pointer (some ⟨bx,0,none⟩)/\v3=.map (some mb)/\Hid (wc.heap[bx]?=some (.cells #[.string mn,.slice ia il ic,.slice ga gl gc,.slice qa ql qc,.slice sa sl sc] 27 (0,0)))/\Hid (Star wc mb)/\Hid (Below w.heap.size w wc))
 case first =>
  go_wp2_with fail
  go_meet
  case rel=>exact⟨w.heap.size,w.heap.size+1,rfl,rfl,HX0,HST,HB0⟩
 case rest =>
  obtain⟨bx,mb,rfl,rfl,HX,HST',HBc⟩:=hcut
  rename_i wc
  clear hrun HX0 HST HB0 hmm
  clear w2
  have hx:=HX.out
  have y0:wc.cell? ⟨bx,0,none⟩=some (.string mn):=za hx
  have y1:wc.cell? ⟨bx,1,none⟩=some (.slice ia il ic):=za hx
  have hlx:=zc hx
  clear hx
  have ho:=HO.out
  have hzo:=congrArg ByteArray.size ho
  rw[ByteArray.size_append,ByteArray.size_append,ByteArray.size_append]at hzo
  simp only [szB]at hzo
  generalize hG0:accG 0=G0 at *
  have HG0:=zh hG0
  clear hG0
  have p0:¬9223372036854775807<7+mn.size:=by simp only [List.size_toArray,List.length_cons,List.length_nil]at hzo;omega
  have p1:¬9223372036854775807<7+mn.size+2:=by simp only [List.size_toArray,List.length_cons,List.length_nil]at hzo;omega
  have HHO:=zh (And.intro ho hzo)
  clear ho hzo
  go_upto_if 18 with fail
  go_cut [4] from 18 to 25 (fun v4 wd=>v4=.string G0/\Hid (Below wc.heap.size wc wd))
  case first =>
   obtain⟨ho,hzo⟩:=HHO.out
   by_cases h0:il=0
   ·subst h0
    rw[if_pos rfl,nilB]at ho
    have HE:=zh ho
    clear ho hzo hz0
    go_wp2_with fail
    go_meet
    case rel=>exact⟨by rw[HE.out],Below.refl _ _⟩
   ·have hil0:(0:Int)<(il:Int):=by omega
    rw[if_neg h0]at ho hzo
    have HE:=zh ho
    rw[ByteArray.size_append,ByteArray.size_append]at hzo
    simp only [szB,List.size_toArray,List.length_cons,List.length_nil]at hzo
    have p2:¬9223372036854775807<7+J.size:=by omega
    have p3:¬9223372036854775807<7+J.size+2:=by omega
    have p4:¬9223372036854775807<7+mn.size+2+(7+J.size+2):=by omega
    have HC:=zh (HJ.out wc HBc.out)
    clear ho hzo hz0
    go_wp2_with fail
    refine HC.out.mono ?_
    rintro e w3 ⟨rfl,hb3⟩
    have HB3:=zh hb3
    clear hb3 HC y0 y1 hlx
    go_wp2_with fail
    go_meet
    case rel=>exact⟨by rw[HE.out],HB3⟩
  case rest =>
   obtain⟨rfl,HBd⟩:=hcut
   rename World=>wd
   have hxd:=(HBd.out.block bx (zc HX.out)).trans HX.out
   have HS:=zh (HST'.out.step HBd.out)
   have HBw:=zh (HBc.out.trans (HBd.out.mono HBc.out.size))
   have HXd:=zh hxd
   clear p0 p1 HX HST' HBc HBd HHO HJ y0 y1 hlx hz0
   have y2:wd.cell? ⟨bx,2,none⟩=some (.slice ga gl gc):=za hxd
   have hlx:=zc hxd
   clear hxd
   generalize decide (0<il)=bb
   go_wp2_with fail
   clear y2 hlx
   go_loopg [4,29] gl (fun k v4 vi wr=>∃ i:Nat,i<=gl/\k=gl - i/\vi=.int .i64 (i:Int)/\v4=.string (accG i)/\Hid (Below wd.heap.size wd wr))
   case atStart=>exact⟨0,by omega,by omega,rfl,by rw[HG0.out],Below.refl _ _⟩
   case round =>
    obtain⟨i,hid,hk,rfl,rfl,HB1⟩:=hrel
    have HBr:=zh (HBw.out.trans (HB1.out.mono HBw.out.size))
    by_cases hlt:i<gl
    ·have hlt':(i:Int)<(gl:Int):=by omega
     obtain⟨g,nm,pos,len,sn,rfl,hgl1,hx,hlen,hA⟩:=HG.out i hlt
     have x0:wr.cell? ⟨g,i * 4,none⟩=some (.string nm):=(HBr.out.cell (p:=⟨g,i * 4+0,none⟩) hgl1).trans (hx 0 (by omega))
     have x1:wr.cell? ⟨g,i * 4+1,none⟩=some (.int .i64 pos):=(HBr.out.cell (p:=⟨g,i * 4+1,none⟩) hgl1).trans (hx 1 (by omega))
     have x2:wr.cell? ⟨g,i * 4+2,none⟩=some (.int .i64 (len:Int)):=(HBr.out.cell (p:=⟨g,i * 4+2,none⟩) hgl1).trans (hx 2 (by omega))
     have x3:wr.cell? ⟨g,i * 4+3,none⟩=some (.bool sn):=(HBr.out.cell (p:=⟨g,i * 4+3,none⟩) hgl1).trans (hx 3 (by omega))
     have hwl1:g<wr.heap.size:=zi x0
     have hz1:=HZG.out (i+1) hlt
     have HA:=zh hA
     have hzA:=congrArg ByteArray.size hA
     clear hx hA hgl1
     generalize accG i=A at *
     go_upto_region 7 with fail
     go_cut [6] from 33 to 56 (fun v6 w5=>∃ b2:Nat,v6=.pointer (some ⟨b2,0,none⟩)/\Hid (w5.heap[b2]?=some (.cells #[.string nm,.int .i64 pos,.int .i64 (len:Int),.bool sn] 71 (0,0)))/\Hid (Below wr.heap.size wr w5))
     case first =>
      go_wp2_with fail
      go_meet
      case rel=>exact⟨wr.heap.size,rfl,zu wr _,zb _ _⟩
     case rest =>
      obtain⟨b2,rfl,HX2,HB2⟩:=hcut
      rename World=>w5
      have hx2:=HX2.out
      have HB5:=zh (HB1.out.trans (HB2.out.mono HB1.out.size))
      have hlk:(Instr.lookup 90 (.map (some mb)) (.bool sn) false).run Tryz.prog w5=.ok (.string (stB sn)) w5:=(HS.out.step HB5.out).look sn
      have hit:=zh (itoaF w5 len hlen)
      clear x0 x1 x2 x3 hwl1 HX2 HB1 HB2
      have x0:w5.cell? ⟨b2,0,none⟩=some (.string nm):=za hx2
      have x2:w5.cell? ⟨b2,2,none⟩=some (.int .i64 (len:Int)):=za hx2
      have x3:w5.cell? ⟨b2,3,none⟩=some (.bool sn):=za hx2
      have hlx2:=zc hx2
      clear hx2
      generalize stB sn=ST at *
      rw[ByteArray.size_append,ByteArray.size_append,ByteArray.size_append,ByteArray.size_append,ByteArray.size_append]at hzA
      simp only [szB,List.size_toArray,List.length_cons,List.length_nil]at hzA
      by_cases h0:len=0
      ·subst h0
       rw[if_pos rfl]at hzA HA
       have p0:¬9223372036854775807<4+nm.size:=by omega
       have p1:¬9223372036854775807<4+nm.size+ST.size:=by omega
       have p2:¬9223372036854775807<4+nm.size+ST.size+2:=by omega
       have p3:¬9223372036854775807<A.size+(4+nm.size+ST.size+2):=by omega
       have p4:¬9223372036854775807<A.size+(4+nm.size+ST.size+2)+5:=by simp only [szB,List.size_toArray,List.length_cons,List.length_nil]at hzA;omega
       clear hzA hz1 hit
       go_wp2_with fail
       go_roundg (gl - (i+1))
       case measure=>omega
       case rel=>exact⟨i+1,by omega,rfl,by go_num,by rw[HA.out],HB5⟩
      ·have hl0:(0:Int)<(len:Int):=by omega
       rw[if_neg h0]at hzA HA
       generalize bs (Tp.dec len)=DL at *
       rw[ByteArray.size_append,ByteArray.size_append]at hzA
       simp only [szB,List.size_toArray,List.length_cons,List.length_nil]at hzA
       have p0:¬9223372036854775807<4+nm.size:=by omega
       have p1:¬9223372036854775807<4+nm.size+ST.size:=by omega
       have p2:¬9223372036854775807<4+nm.size+ST.size+2:=by omega
       have p3:¬9223372036854775807<A.size+(4+nm.size+ST.size+2):=by omega
       have p4:¬9223372036854775807<6+DL.size:=by omega
       have p5:¬9223372036854775807<6+DL.size+2:=by omega
       have p6:¬9223372036854775807<A.size+(4+nm.size+ST.size+2)+(6+DL.size+2):=by omega
       clear hzA hz1
       go_wp2_with fail
       refine hit.out.mono ?_
       rintro e w6 ⟨rfl,rfl⟩
       clear hit
       go_wp2_with fail
       go_roundg (gl - (i+1))
       case measure=>omega
       case rel=>exact⟨i+1,by omega,rfl,by go_num,by rw[HA.out],HB5⟩
    ·have hlt':¬(i:Int)<(gl:Int):=by omega
     have he:i=gl:=by omega
     subst he
     rename World=>wl
     have hxr:=(HB1.out.block bx (zc HXd.out)).trans HXd.out
     have y3:wl.cell? ⟨bx,3,none⟩=some (.slice qa ql qc):=za hxr
     have hlx:=zc hxr
     have HXr:=zh hxr
     have HSr:=zh (HS.out.step HB1.out)
     have hG1:accG i=accP 0:=HGP.out.symm
     rw[hG1]
     clear hxr HG HZG HG0 hG1 HGP HS HXd HB1 HBw
     go_wp2_with fail
     clear y3 hlx
     go_loopg [4,60] ql (fun k v4 vi wq=>∃ j:Nat,j<=ql/\k=ql - j/\vi=.int .i64 (j:Int)/\v4=.string (accP j)/\Hid (Below wl.heap.size wl wq))
     case atStart=>exact⟨0,by omega,by omega,rfl,rfl,Below.refl _ _⟩
     case round =>
      obtain⟨j,hjd,hk,rfl,rfl,HB1⟩:=hrel
      have HBq:=zh (HBr.out.trans (HB1.out.mono HBr.out.size))
      by_cases hlt:j<ql
      ·have hlt':(j:Int)<(ql:Int):=by omega
       obtain⟨g,nm,pos,sn,pa,va,ba,pn,pc,vn,vc,bn,bc,JP,JV,BD,rfl,hgl1,hx,hvn,hJP,hJV,hBD,hA⟩:=HP.out j hlt
       have x0:wr.cell? ⟨g,j * 6,none⟩=some (.string nm):=(HBq.out.cell (p:=⟨g,j * 6+0,none⟩) hgl1).trans (hx 0 (by omega))
       have x1:wr.cell? ⟨g,j * 6+1,none⟩=some (.int .i64 pos):=(HBq.out.cell (p:=⟨g,j * 6+1,none⟩) hgl1).trans (hx 1 (by omega))
       have x2:wr.cell? ⟨g,j * 6+2,none⟩=some (.bool sn):=(HBq.out.cell (p:=⟨g,j * 6+2,none⟩) hgl1).trans (hx 2 (by omega))
       have x3:wr.cell? ⟨g,j * 6+3,none⟩=some (.slice pa pn pc):=(HBq.out.cell (p:=⟨g,j * 6+3,none⟩) hgl1).trans (hx 3 (by omega))
       have x4:wr.cell? ⟨g,j * 6+4,none⟩=some (.slice va vn vc):=(HBq.out.cell (p:=⟨g,j * 6+4,none⟩) hgl1).trans (hx 4 (by omega))
       have x5:wr.cell? ⟨g,j * 6+5,none⟩=some (.slice ba bn bc):=(HBq.out.cell (p:=⟨g,j * 6+5,none⟩) hgl1).trans (hx 5 (by omega))
       have hwl1:g<wr.heap.size:=zi x0
       have hvn':(vn:Int)<=9223372036854775807:=by omega
       have hz1:=HZP.out (j+1) hlt
       have HA:=zh hA
       have hzA:=congrArg ByteArray.size hA
       simp only [ByteArray.size_append,szB,List.size_toArray,List.length_cons,List.length_nil]at hzA
       have HJP:=zh hJP
       have HJV:=zh hJV
       have HBD:=zh hBD
       clear hx hA hgl1 hJP hJV hBD
       generalize accP j=A at *
       go_upto_region 15 with fail
       go_cut [8] from 64 to 98 (fun v8 w5=>∃ b2:Nat,v8=.pointer (some ⟨b2,0,none⟩)/\Hid (w5.heap[b2]?=some (.cells #[.string nm,.int .i64 pos,.bool sn,.slice pa pn pc,.slice va vn vc,.slice ba bn bc] 74 (0,0)))/\Hid (Below wr.heap.size wr w5))
       case first =>
        go_wp2_with fail
        go_meet
        case rel=>exact⟨wr.heap.size,rfl,zu wr _,zb _ _⟩
       case rest =>
        obtain⟨b2,rfl,HX2,HB2⟩:=hcut
        rename World=>w5
        have hx2:=HX2.out
        have HB5:=zh (HB1.out.trans (HB2.out.mono HB1.out.size))
        have HBw5:=zh (HBq.out.trans (HB2.out.mono HBq.out.size))
        have klk:∀ d os,(Instr.lookup 90 (.map (some mb)) (.bool sn) false).run Tryz.prog (grow (redrawn w5 d) os)=.ok (.string (stB sn)) (grow (redrawn w5 d) os):=fun d os=>((HSr.out.step HB5.out).step (below_regrown w5 d os)).look sn
        have cJ:∀ d os,Calls Tryz.prog 49 #[.slice pa pn pc,.string ⟨#[44,32]⟩] (grow (redrawn w5 d) os) fun e w''=>e=.returned (.string JP)/\∃ p:Regrown,w''=grow (redrawn w5 p.d) p.os:=fun d os=>Calls.regrown_of (HJP.out _ (HBw5.out.trans ((below_regrown w5 d os).mono HBw5.out.size)))
        clear x0 x1 x2 x3 x4 x5 hwl1 HX2 HB1 HB2 HJP
        have k0:=cell_regrown (za (i:=0) hx2)
        have k2:=cell_regrown (za (i:=2) hx2)
        have k3:=cell_regrown (za (i:=3) hx2)
        have hlx2:=zc hx2
        have hrb:∀ d os,b2<(grow (redrawn w5 d) os).heap.size:=fun d os=>Nat.lt_of_lt_of_le hlx2 (below_regrown w5 d os).size
        have HX2:=zh hx2
        have HLX:=zh hlx2
        clear hx2
        generalize stB sn=ST at *
        have HZA:=zh (And.intro hzA hz1)
        have p0:¬9223372036854775807<5+nm.size:=by omega
        have p1:¬9223372036854775807<5+nm.size+ST.size:=by omega
        have p2:¬9223372036854775807<5+nm.size+ST.size+1:=by omega
        have p3:¬9223372036854775807<5+nm.size+ST.size+1+JP.size:=by omega
        have p4:¬9223372036854775807<5+nm.size+ST.size+1+JP.size+3:=by omega
        have p5:¬9223372036854775807<A.size+(5+nm.size+ST.size+1+JP.size+3):=by omega
        clear hzA hz1 hlx2
        go_upto_region 16 with fail
        refine wp_region_quiet_below (by kernel_rfl) (by kernel_rfl) ?_
        repeat (quiet_step (first|(go_at_call 49;with_reducible exact cJ _ _)))
        refine wpQuiet_nil ?_
        intro _ hw'
        obtain⟨⟨dq,osq⟩,hw''⟩:=hw'
        subst hw''
        have HBq1:=zh (HBw5.out.trans ((below_regrown w5 dq osq).mono HBw5.out.size))
        have HBl:=zh (HB5.out.trans ((below_regrown w5 dq osq).mono HB5.out.size))
        have hx':=((below_regrown w5 dq osq).block b2 HLX.out).trans HX2.out
        clear klk cJ k0 k2 k3 hrb HX2 HLX HB5 HBw5
        generalize grow (redrawn w5 dq) osq=wq at *
        have x4:wq.cell? ⟨b2,4,none⟩=some (.slice va vn vc):=za hx'
        have x5:wq.cell? ⟨b2,5,none⟩=some (.slice ba bn bc):=za hx'
        have hlx:=zc hx'
        obtain⟨hzA,hz1⟩:=HZA.out
        by_cases h0:vn=0
        ·subst h0
         rw[if_pos rfl,nilB]at HA
         have p6:¬9223372036854775807<6+BD.size:=by omega
         have p7:¬9223372036854775807<6+BD.size+5:=by omega
         have p8:¬9223372036854775807<A.size+(5+nm.size+ST.size+1+JP.size+3)+(6+BD.size+5):=by omega
         have HC:=zh (HBD.out wq HBq1.out)
         clear hzA hz1 HZA hx' HBD HJV
         go_wp2_with fail
         refine HC.out.mono ?_
         rintro e w6 ⟨rfl,hb6⟩
         have HB6:=zh (HBl.out.trans (hb6.mono HBl.out.size))
         clear hb6 HC x4 x5 hlx
         go_wp2_with fail
         go_roundg (ql - (j+1))
         case measure=>omega
         case rel=>exact⟨j+1,by omega,rfl,by go_num,by rw[HA.out],HB6⟩
        ·have hv0:(0:Int)<(vn:Int):=by omega
         rw[if_neg h0]at HA hzA
         simp only [ByteArray.size_append,szB,List.size_toArray,List.length_cons,List.length_nil]at hzA
         have p6:¬9223372036854775807<6+BD.size:=by omega
         have p7:¬9223372036854775807<6+BD.size+5:=by omega
         have p8:¬9223372036854775807<A.size+(5+nm.size+ST.size+1+JP.size+3)+(4+JV.size+2)+(6+BD.size+5):=by omega
         have p9:¬9223372036854775807<4+JV.size:=by omega
         have p10:¬9223372036854775807<4+JV.size+2:=by omega
         have p11:¬9223372036854775807<A.size+(5+nm.size+ST.size+1+JP.size+3)+(4+JV.size+2):=by omega
         have HC:=zh (HJV.out wq HBq1.out)
         have HX':=zh hx'
         clear hzA hz1 HZA hx' HJV
         go_wp2_with fail
         refine HC.out.mono ?_
         rintro e w6 ⟨rfl,hb6⟩
         have HB6:=zh (HBl.out.trans (hb6.mono HBl.out.size))
         have HC2:=zh (HBD.out w6 (HBq1.out.trans (hb6.mono HBq1.out.size)))
         have hx6:=(hb6.block b2 (zc HX'.out)).trans HX'.out
         clear hb6 HC x4 x5 hlx HX' HBD
         have x5:w6.cell? ⟨b2,5,none⟩=some (.slice ba bn bc):=za hx6
         have hlx:=zc hx6
         clear hx6
         go_wp2_with fail
         refine HC2.out.mono ?_
         rintro e w7 ⟨rfl,hb7⟩
         have HB7:=zh (HB6.out.trans (hb7.mono HB6.out.size))
         clear hb7 HC2 x5 hlx
         go_wp2_with fail
         go_roundg (ql - (j+1))
         case measure=>omega
         case rel=>exact⟨j+1,by omega,rfl,by go_num,by rw[HA.out],HB7⟩
      ·have hlt':¬(j:Int)<(ql:Int):=by omega
       have he:j=ql:=by omega
       subst he
       have hxq:=(HB1.out.block bx (zc HXr.out)).trans HXr.out
       have y4:wr.cell? ⟨bx,4,none⟩=some (.slice sa sl sc):=za hxq
       have hlx:=zc hxq
       have hz1:=HZP.out j (by omega)
       have HC:=zh (HB.out wr HBq.out)
       have p0:¬9223372036854775807<(accP j).size+6:=by omega
       have p1:¬9223372036854775807<(accP j).size+6+B.size:=by omega
       have p2:¬9223372036854775807<(accP j).size+6+B.size+5:=by omega
       clear hxq hz1 HZP HP
       generalize hAA:accP j=A at *
       have HAA:=zh hAA
       clear hAA
       go_wp2_with fail
       refine HC.out.mono ?_
       rintro e w6 ⟨rfl,hb6⟩
       have HB6:=zh (HBq.out.trans (hb6.mono HBq.out.size))
       clear hb6 HC y4 hlx
       go_wp2_with fail
       go_ret
       exact⟨by rw[HAA.out];rfl,HB6.out⟩
end Go.Proofs.YthnoedjbhbkdeaaGreatDoor
