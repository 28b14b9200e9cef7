import Derived.Test.YtmocelfkmdpogaaGreatDoorKWg
import Derived.Test.YtmocelfkmdpogaaGreatDoorKWh
import Derived.Test.YtmocelfkmdpogaaGreatDoorKPb
import Derived.Laws.EntriesVeiled
import Derived.Lib.ConvBytes
import Derived.Defers
import Derived.Recover
set_option maxRecDepth 100000
set_option maxHeartbeats 4000000
namespace Go.Proofs.YtmocelfkmdpogaaGreatDoor
open Go.RowKit
open Tp (Tok hd tx at' stp)
def TxAt (w:World) (tb:Nat) (l:List UInt8):Prop:=∀ j c,l[j]?=some c->w.cell? ⟨tb,j,none⟩=some (.int .u8 (c.toNat:Int))
def pastI (f:UInt8->Bool) (l:List UInt8) (i:Nat):Nat:=i+((l.drop i).takeWhile f).length
theorem kl {f:UInt8->Bool}{l:List UInt8}{i:Nat}(h:i<l.length) (hf:f l[i]=true):pastI f l (i+1)=pastI f l i:=by
 unfold pastI
 rw[List.drop_eq_getElem_cons h,List.takeWhile_cons,if_pos hf]
 simp;omega
theorem jm {f:UInt8->Bool}{l:List UInt8}{i:Nat}(h:i<l.length) (hf:f l[i]=false):pastI f l i=i:=by
 unfold pastI
 rw[List.drop_eq_getElem_cons h,List.takeWhile_cons,hf]
 simp
theorem yE {f:UInt8->Bool}{l:List UInt8}{i:Nat}(h:¬i<l.length):pastI f l i=i:=by
 unfold pastI
 rw[List.drop_eq_nil_of_le (by omega)]
 simp
theorem jG {f:UInt8->Bool}{l:List UInt8}{i:Nat}(h:i<=l.length):i<=pastI f l i/\pastI f l i<=l.length:=by
 unfold pastI
 have:=(List.takeWhile_prefix f (l:=l.drop i)).length_le
 simp at this
 omega
theorem blank_eq (c:UInt8):Tp.blank c=(decide ((c.toNat:Int)=32) || decide ((c.toNat:Int)=10)):=by
 rw[Bool.eq_iff_iff];simp[Tp.blank,<-UInt8.toNat_inj];omega
theorem letter_eq (c:UInt8):Tp.letter c=(decide ((97:Int)<=(c.toNat:Int)) && decide ((c.toNat:Int)<=122)):=by
 rw[Bool.eq_iff_iff];simp[Tp.letter];omega
theorem digit_eq (c:UInt8):Tp.digit c=(decide ((48:Int)<=(c.toNat:Int)) && decide ((c.toNat:Int)<=57)):=by
 rw[Bool.eq_iff_iff];simp[Tp.digit];omega
theorem uW (w:World) (c:UInt8):Calls Tryz.prog 50 #[.int .u8 (c.toNat:Int)] w fun e w'=>e=.returned (.bool (Tp.blank c))/\w'=w:=by
 rw[blank_eq]
 generalize (c.toNat:Int)=z
 by_cases h1:z=32
 ·subst h1
  go_enter Tryz.func50,Tryz.ntmps50
  go_wp2_with fail
  go_ret
  exact⟨rfl,rfl⟩
 ·have h1':(z == 32)=false:=by simp[h1]
  have h1d:decide (z=32)=false:=by simp[h1]
  rw[h1d]
  clear h1
  by_cases h2:z=10
  ·subst h2
   go_enter Tryz.func50,Tryz.ntmps50
   go_wp2_with fail
   go_ret
   exact⟨rfl,rfl⟩
  ·have h2':(z == 10)=false:=by simp[h2]
   have h2d:decide (z=10)=false:=by simp[h2]
   rw[h2d]
   clear h2 h2d h1d
   go_enter Tryz.func50,Tryz.ntmps50
   go_wp2_with fail
   go_ret
   exact⟨rfl,rfl⟩
theorem j5 (w:World) (c:UInt8):Calls Tryz.prog 91 #[.int .u8 (c.toNat:Int)] w fun e w'=>e=.returned (.bool (Tp.letter c))/\w'=w:=by
 rw[letter_eq]
 generalize (c.toNat:Int)=z
 by_cases h1:(97:Int)<=z
 ·rw[decide_eq_true h1]
  by_cases h2:z<=122
  ·rw[decide_eq_true h2]
   go_enter Tryz.func91,Tryz.ntmps91
   go_wp2_with fail
   go_ret
   exact⟨rfl,rfl⟩
  ·have h2d:=decide_eq_false h2
   rw[h2d]
   have h2':(122:Int)<z:=by omega
   clear h2
   go_enter Tryz.func91,Tryz.ntmps91
   go_wp2_with fail
   go_ret
   exact⟨rfl,rfl⟩
 ·rw[decide_eq_false h1]
  have h1':z<(97:Int):=by omega
  clear h1
  go_enter Tryz.func91,Tryz.ntmps91
  go_wp2_with fail
  go_ret
  exact⟨rfl,rfl⟩
theorem js (w:World) (c:UInt8):Calls Tryz.prog 92 #[.int .u8 (c.toNat:Int)] w fun e w'=>e=.returned (.bool (Tp.digit c))/\w'=w:=by
 rw[digit_eq]
 generalize (c.toNat:Int)=z
 by_cases h1:(48:Int)<=z
 ·rw[decide_eq_true h1]
  by_cases h2:z<=57
  ·rw[decide_eq_true h2]
   go_enter Tryz.func92,Tryz.ntmps92
   go_wp2_with fail
   go_ret
   exact⟨rfl,rfl⟩
  ·have h2d:=decide_eq_false h2
   rw[h2d]
   have h2':(57:Int)<z:=by omega
   clear h2
   go_enter Tryz.func92,Tryz.ntmps92
   go_wp2_with fail
   go_ret
   exact⟨rfl,rfl⟩
 ·rw[decide_eq_false h1]
  have h1':z<(48:Int):=by omega
  clear h1
  go_enter Tryz.func92,Tryz.ntmps92
  go_wp2_with fail
  go_ret
  exact⟨rfl,rfl⟩
theorem ld_any (w:World) (c:UInt8) (lb db:Nat) (hl:w.cell? ⟨lb,0,none⟩=some (.func (.func 91) #[] #[])) (hd:w.cell? ⟨db,0,none⟩=some (.func (.func 92) #[] #[])) :
  Calls Tryz.prog 93 #[.int .u8 (c.toNat:Int),.pointer (some ⟨lb,0,none⟩),.pointer (some ⟨db,0,none⟩)] w fun e w'=>e=.returned (.bool (Tp.ld c))/\w'=w:=by
 unfold Tp.ld
 cases hlc:Tp.letter c
 ·go_enter Tryz.func93,Tryz.ntmps93
  go_wp2_with fail
  refine(j5 w c).mono ?_
  rintro e w1 ⟨rfl,rfl⟩
  go_wp2_with fail
  refine(js w1 c).mono ?_
  rintro e w2 ⟨rfl,rfl⟩
  go_wp2_with fail
  go_ret
  exact⟨rfl,rfl⟩
 ·go_enter Tryz.func93,Tryz.ntmps93
  go_wp2_with fail
  refine(j5 w c).mono ?_
  rintro e w1 ⟨rfl,rfl⟩
  go_wp2_with fail
  go_ret
  exact⟨rfl,rfl⟩
theorem xB {w:World}{tb cap:Nat}{l:List UInt8}(ht:TxAt w tb l) (i:Nat) (hi:i<=l.length) (hl:l.length<=100000) :
  Calls Tryz.prog 51 #[.slice (some ⟨tb,0,none⟩) l.length cap,.int .i64 (i:Int),.func (.func 50) #[] #[]] w fun e w'=>e=.returned (.int .i64 (pastI Tp.blank l i:Int))/\w'=w:=by
 have HT:Hid (TxAt w tb l):=ht
 clear ht
 go_enter Tryz.func51,Tryz.ntmps51
 go_wp2_with fail
 go_loop [1] (fun v=>∃ k:Nat,k<=l.length/\v=.int .i64 (k:Int)/\pastI Tp.blank l k=pastI Tp.blank l i) (fun v=>l.length - (intOf v).toNat)
 case atStart=>exact⟨i,hi,rfl,rfl⟩
 case round =>
  obtain⟨k,hk,rfl,hsp⟩:=hrel
  have HSP:Hid (pastI Tp.blank l k=pastI Tp.blank l i):=hsp
  clear hsp
  by_cases hlt:k<l.length
  ·have hc:=HT.out k l[k] (List.getElem?_eq_getElem hlt)
   have hlt':(k:Int)<(l.length:Int):=by omega
   cases hb:Tp.blank l[k]
   ·go_wp2_with fail
    refine(uW _ l[k]).mono ?_
    rintro e w1 ⟨rfl,rfl⟩
    have HE:Hid (pastI Tp.blank l k=k):=jm hlt hb
    go_wp2_with fail
    go_ret
    exact⟨by rw[<-HSP.out,HE.out];rfl,rfl⟩
   ·go_wp2_with fail
    refine(uW _ l[k]).mono ?_
    rintro e w1 ⟨rfl,rfl⟩
    have HE:Hid (pastI Tp.blank l (k+1)=pastI Tp.blank l k):=kl hlt hb
    go_wp2_with fail
    go_round
    case rel=>exact⟨k+1,by omega,by go_num,by rw[HE.out,HSP.out]⟩
    case measure=>simp[intOf];omega
  ·have HE:Hid (pastI Tp.blank l k=k):=yE hlt
   go_wp2_with fail
   go_ret
   exact⟨by rw[<-HSP.out,HE.out];rfl,rfl⟩
theorem past_digit {w:World}{tb cap:Nat}{l:List UInt8}(ht:TxAt w tb l) (i:Nat) (hi:i<=l.length) (hl:l.length<=100000) :
  Calls Tryz.prog 51 #[.slice (some ⟨tb,0,none⟩) l.length cap,.int .i64 (i:Int),.func (.func 92) #[] #[]] w fun e w'=>e=.returned (.int .i64 (pastI Tp.digit l i:Int))/\w'=w:=by
 have HT:Hid (TxAt w tb l):=ht
 clear ht
 go_enter Tryz.func51,Tryz.ntmps51
 go_wp2_with fail
 go_loop [1] (fun v=>∃ k:Nat,k<=l.length/\v=.int .i64 (k:Int)/\pastI Tp.digit l k=pastI Tp.digit l i) (fun v=>l.length - (intOf v).toNat)
 case atStart=>exact⟨i,hi,rfl,rfl⟩
 case round =>
  obtain⟨k,hk,rfl,hsp⟩:=hrel
  have HSP:Hid (pastI Tp.digit l k=pastI Tp.digit l i):=hsp
  clear hsp
  by_cases hlt:k<l.length
  ·have hc:=HT.out k l[k] (List.getElem?_eq_getElem hlt)
   have hlt':(k:Int)<(l.length:Int):=by omega
   cases hb:Tp.digit l[k]
   ·go_wp2_with fail
    refine(js _ l[k]).mono ?_
    rintro e w1 ⟨rfl,rfl⟩
    have HE:Hid (pastI Tp.digit l k=k):=jm hlt hb
    go_wp2_with fail
    go_ret
    exact⟨by rw[<-HSP.out,HE.out];rfl,rfl⟩
   ·go_wp2_with fail
    refine(js _ l[k]).mono ?_
    rintro e w1 ⟨rfl,rfl⟩
    have HE:Hid (pastI Tp.digit l (k+1)=pastI Tp.digit l k):=kl hlt hb
    go_wp2_with fail
    go_round
    case rel=>exact⟨k+1,by omega,by go_num,by rw[HE.out,HSP.out]⟩
    case measure=>simp[intOf];omega
  ·have HE:Hid (pastI Tp.digit l k=k):=yE hlt
   go_wp2_with fail
   go_ret
   exact⟨by rw[<-HSP.out,HE.out];rfl,rfl⟩
theorem past_ld {w:World}{tb cap:Nat}{l:List UInt8}(ht:TxAt w tb l) (i:Nat) (hi:i<=l.length) (hl:l.length<=100000) (lb db:Nat) (hlb:w.cell? ⟨lb,0,none⟩=some (.func (.func 91) #[] #[])) (hdb:w.cell? ⟨db,0,none⟩=some (.func (.func 92) #[] #[])) :
  Calls Tryz.prog 51 #[.slice (some ⟨tb,0,none⟩) l.length cap,.int .i64 (i:Int),.func (.func 93) #[] #[.pointer (some ⟨lb,0,none⟩),.pointer (some ⟨db,0,none⟩)]] w fun e w'=>e=.returned (.int .i64 (pastI Tp.ld l i:Int))/\w'=w:=by
 have HT:Hid (TxAt w tb l):=ht
 clear ht
 go_enter Tryz.func51,Tryz.ntmps51
 go_wp2_with fail
 go_loop [1] (fun v=>∃ k:Nat,k<=l.length/\v=.int .i64 (k:Int)/\pastI Tp.ld l k=pastI Tp.ld l i) (fun v=>l.length - (intOf v).toNat)
 case atStart=>exact⟨i,hi,rfl,rfl⟩
 case round =>
  obtain⟨k,hk,rfl,hsp⟩:=hrel
  have HSP:Hid (pastI Tp.ld l k=pastI Tp.ld l i):=hsp
  clear hsp
  by_cases hlt:k<l.length
  ·have hc:=HT.out k l[k] (List.getElem?_eq_getElem hlt)
   have hlt':(k:Int)<(l.length:Int):=by omega
   cases hb:Tp.ld l[k]
   ·go_wp2_with fail
    refine(ld_any _ l[k] lb db hlb hdb).mono ?_
    rintro e w1 ⟨rfl,rfl⟩
    have HE:Hid (pastI Tp.ld l k=k):=jm hlt hb
    go_wp2_with fail
    go_ret
    exact⟨by rw[<-HSP.out,HE.out];rfl,rfl⟩
   ·go_wp2_with fail
    refine(ld_any _ l[k] lb db hlb hdb).mono ?_
    rintro e w1 ⟨rfl,rfl⟩
    have HE:Hid (pastI Tp.ld l (k+1)=pastI Tp.ld l k):=kl hlt hb
    go_wp2_with fail
    go_round
    case rel=>exact⟨k+1,by omega,by go_num,by rw[HE.out,HSP.out]⟩
    case measure=>simp[intOf];omega
  ·have HE:Hid (pastI Tp.ld l k=k):=yE hlt
   go_wp2_with fail
   go_ret
   exact⟨by rw[<-HSP.out,HE.out];rfl,rfl⟩
def mks:List Value:=[.string ⟨#[58,61]⟩,.string ⟨#[60,61]⟩,.string ⟨#[62,61]⟩,.string ⟨#[35]⟩,.string ⟨#[61]⟩,.string ⟨#[60]⟩,.string ⟨#[62]⟩,.string ⟨#[43]⟩,.string ⟨#[45]⟩,.string ⟨#[42]⟩,.string ⟨#[40]⟩,.string ⟨#[41]⟩,.string ⟨#[91]⟩,.string ⟨#[93]⟩,.string ⟨#[44]⟩,.string ⟨#[59]⟩,.string ⟨#[58]⟩,.string ⟨#[46]⟩]
def Mk (w:World):Prop:=0<w.heap.size/\∀ i,i<18->w.cell? ⟨0,i,none⟩=some (mks.getD i undef)
theorem Mk.below {w w':World}{B:Nat}(h:Mk w) (k:Below B w w') (hB:0<B):Mk w' :=
 ⟨Nat.lt_of_lt_of_le h.1 k.size,fun i hi=>(k.cell (p:=⟨0,i,none⟩) hB).trans (h.2 i hi)⟩
def mkAgg:Value:=.agg mks.toArray
theorem mk_load {w:World}(h:Mk w):(Instr.loadAt 160 (.pointer (some ⟨0,0,none⟩))).run Tryz.prog w=.ok mkAgg w:=by
 have hc:=jz (P:=Tryz.prog) (w:=w) ⟨0,0,none⟩ mks 18 0 #[] (fun j _ hj=>by have hq:=h.2 j (by omega);by_cases hj0:j=0 <;> simpa[Addr.add,hj0] using hq) (by decide)
 have h1:(isAgg 160).run Tryz.prog w=.ok true w:=by kernel_rfl
 have h2:(sizeOf 160).run Tryz.prog w=.ok 18 w:=by kernel_rfl
 simp only [Instr.loadAt,Instr.sureAddr,loadVar,loadCells,Sem.run_bind,Result.andThen]
 simp[h1,h2,hc,mkAgg,mks]
theorem mk_idx0 (w:World):(Instr.index 160 mkAgg (.int .i64 0)).run Tryz.prog w=.ok (.string ⟨#[58,61]⟩) w:=by kernel_rfl
theorem mk_idx1 (w:World):(Instr.index 160 mkAgg (.int .i64 1)).run Tryz.prog w=.ok (.string ⟨#[60,61]⟩) w:=by kernel_rfl
theorem mk_idx2 (w:World):(Instr.index 160 mkAgg (.int .i64 2)).run Tryz.prog w=.ok (.string ⟨#[62,61]⟩) w:=by kernel_rfl
theorem mk_idx3 (w:World):(Instr.index 160 mkAgg (.int .i64 3)).run Tryz.prog w=.ok (.string ⟨#[35]⟩) w:=by kernel_rfl
theorem mk_idx4 (w:World):(Instr.index 160 mkAgg (.int .i64 4)).run Tryz.prog w=.ok (.string ⟨#[61]⟩) w:=by kernel_rfl
theorem mk_idx5 (w:World):(Instr.index 160 mkAgg (.int .i64 5)).run Tryz.prog w=.ok (.string ⟨#[60]⟩) w:=by kernel_rfl
theorem mk_idx6 (w:World):(Instr.index 160 mkAgg (.int .i64 6)).run Tryz.prog w=.ok (.string ⟨#[62]⟩) w:=by kernel_rfl
theorem mk_idx7 (w:World):(Instr.index 160 mkAgg (.int .i64 7)).run Tryz.prog w=.ok (.string ⟨#[43]⟩) w:=by kernel_rfl
theorem mk_idx8 (w:World):(Instr.index 160 mkAgg (.int .i64 8)).run Tryz.prog w=.ok (.string ⟨#[45]⟩) w:=by kernel_rfl
theorem mk_idx9 (w:World):(Instr.index 160 mkAgg (.int .i64 9)).run Tryz.prog w=.ok (.string ⟨#[42]⟩) w:=by kernel_rfl
theorem mk_idx10 (w:World):(Instr.index 160 mkAgg (.int .i64 10)).run Tryz.prog w=.ok (.string ⟨#[40]⟩) w:=by kernel_rfl
theorem mk_idx11 (w:World):(Instr.index 160 mkAgg (.int .i64 11)).run Tryz.prog w=.ok (.string ⟨#[41]⟩) w:=by kernel_rfl
theorem mk_idx12 (w:World):(Instr.index 160 mkAgg (.int .i64 12)).run Tryz.prog w=.ok (.string ⟨#[91]⟩) w:=by kernel_rfl
theorem mk_idx13 (w:World):(Instr.index 160 mkAgg (.int .i64 13)).run Tryz.prog w=.ok (.string ⟨#[93]⟩) w:=by kernel_rfl
theorem mk_idx14 (w:World):(Instr.index 160 mkAgg (.int .i64 14)).run Tryz.prog w=.ok (.string ⟨#[44]⟩) w:=by kernel_rfl
theorem mk_idx15 (w:World):(Instr.index 160 mkAgg (.int .i64 15)).run Tryz.prog w=.ok (.string ⟨#[59]⟩) w:=by kernel_rfl
theorem mk_idx16 (w:World):(Instr.index 160 mkAgg (.int .i64 16)).run Tryz.prog w=.ok (.string ⟨#[58]⟩) w:=by kernel_rfl
theorem mk_idx17 (w:World):(Instr.index 160 mkAgg (.int .i64 17)).run Tryz.prog w=.ok (.string ⟨#[46]⟩) w:=by kernel_rfl
theorem TxAt.below {w w':World}{B tb:Nat}{l:List UInt8}(h:TxAt w tb l) (k:Below B w w') (hB:tb<B):TxAt w' tb l :=
 fun j c hj=>(k.cell (p:=⟨tb,j,none⟩) hB).trans (h j c hj)
theorem conv_at {w:World}{tb i cap:Nat}{l m:List UInt8}(h:TxAt w tb l) (hm:(l.drop i).take m.length=m):(convert 98 9 (.slice (some ⟨tb,i,none⟩) m.length cap)).run Tryz.prog w=.ok (.string (bs m)) w:=by
 refine run_convert_bytes_back w 98 9 5 ⟨tb,i,none⟩ cap m Tryz.underlying98 Tryz.underlying5 Tryz.underlying9 (fun j hj=>?_)
 rw[Addr.add_lit]
 refine h (i+j) _ ?_
 have e:((l.drop i).take m.length)[j]?=m[j]?:=by rw[hm]
 rw[List.getElem?_take_of_lt hj,List.getElem?_drop]at e
 rw[e,List.getElem?_eq_getElem hj]
theorem jT {w:World}{c:UInt8}{t:Bool}(h:Hid (Tp.letter c=t)):Calls Tryz.prog 91 #[.int .u8 (c.toNat:Int)] w fun e w'=>e=.returned (.bool t)/\w'=w:=by
 have:=j5 w c;rw[h.out]at this;exact this
theorem digit_is {w:World}{c:UInt8}{t:Bool}(h:Hid (Tp.digit c=t)):Calls Tryz.prog 92 #[.int .u8 (c.toNat:Int)] w fun e w'=>e=.returned (.bool t)/\w'=w:=by
 have:=js w c;rw[h.out]at this;exact this
def M (k:Nat):List UInt8:=Tp.marks.getD k []
theorem mark_drop (k:Nat) (h:k<18):Tp.marks.drop k=M k :: Tp.marks.drop (k+1):=by
 have hl:k<Tp.marks.length:=h
 rw[List.drop_eq_getElem_cons hl]
 simp[M,List.getD_eq_getElem?_getD,List.getElem?_eq_getElem hl]
theorem qq (m l:List UInt8) (i:Nat) (h:l.length<i+m.length) (hi:i<=l.length):m.isPrefixOf (l.drop i)=false:=by
 rw[Bool.eq_false_iff]
 intro hp
 have:=(List.isPrefixOf_iff_prefix.1 hp).length_le
 simp at this
 omega
theorem prefix_iff (m l:List UInt8) (i:Nat) (_h:i+m.length<=l.length):m.isPrefixOf (l.drop i)=decide ((l.drop i).take m.length=m):=by
 rw[Bool.eq_iff_iff,decide_eq_true_iff,List.isPrefixOf_iff_prefix]
 constructor
 ·intro hp;exact(List.prefix_iff_eq_take.1 hp).symm
 ·intro hp;rw[<-hp];exact List.take_prefix _ _
def CutPost (w:World) (l:List UInt8) (i:Nat) (e:Ending) (w':World):Prop :=
 match Tp.marks.find? (fun m=>m.isPrefixOf (l.drop i)) with
 | some m=>e=.returned (.tuple #[.int .i64 3,.int .i64 ((i+m.length:Nat):Int)])
 | none=>Thrown w.heap.size (3,i) e w'
theorem M_len (k:Nat) (h:k<18):1<=(M k).length/\(M k).length<=2:=by
 have:∀ k,k<18->1<=(M k).length/\(M k).length<=2:=by decide
 exact this k h
theorem mk_idx (w:World) (k:Nat) (h:k<18):(Instr.index 160 mkAgg (.int .i64 (k:Int))).run Tryz.prog w=.ok (.string (bs (M k))) w:=by
 match k,h with
 | 0,_=>exact mk_idx0 w
 | 1,_=>exact mk_idx1 w
 | 2,_=>exact mk_idx2 w
 | 3,_=>exact mk_idx3 w
 | 4,_=>exact mk_idx4 w
 | 5,_=>exact mk_idx5 w
 | 6,_=>exact mk_idx6 w
 | 7,_=>exact mk_idx7 w
 | 8,_=>exact mk_idx8 w
 | 9,_=>exact mk_idx9 w
 | 10,_=>exact mk_idx10 w
 | 11,_=>exact mk_idx11 w
 | 12,_=>exact mk_idx12 w
 | 13,_=>exact mk_idx13 w
 | 14,_=>exact mk_idx14 w
 | 15,_=>exact mk_idx15 w
 | 16,_=>exact mk_idx16 w
 | 17,_=>exact mk_idx17 w
 | n+18,h=>omega
theorem cut_word {w:World}{tb cap:Nat}{l:List UInt8}(ht:TxAt w tb l) (htb:tb<w.heap.size) (i:Nat) (hi:i<l.length) (hl:l.length<=100000) (hw:Tp.letter l[i]=true) :
  Calls Tryz.prog 52 #[.slice (some ⟨tb,0,none⟩) l.length cap,.int .i64 (i:Int)] w fun e w'=>e=.returned (.tuple #[.int .i64 1,.int .i64 (pastI Tp.ld l i:Int)])/\Below w.heap.size w w':=by
 have hmf:=zm
 have hcell:=ht i l[i] (List.getElem?_eq_getElem hi)
 have hi':(i:Int)<(l.length:Int):=by omega
 have HT:Hid (TxAt w tb l):=ht
 have HW:Hid (Tp.letter l[i]=true):=hw
 clear ht hw
 go_enter Tryz.func52,Tryz.ntmps52
 go_wp2_with fail
 go_quiet ((go_at_call 91;exact Calls.quiet_of_same (jT HW)))
 go_wp2_with fail
 have hbw:Below w.heap.size w (((w.alloc (.cells #[.func (.func 91) #[] #[]] 105)).alloc (.cells #[.func (.func 92) #[] #[]] 105)).drewN nq):=below_drewN ((zb _ _).alloc (by simp) _) nq
 refine(past_ld (HT.out.below hbw htb) i (by omega) hl w.heap.size (w.heap.size+1) (by simp[go_sem]) (by simp[go_sem])).mono ?_
 rintro e w1 ⟨rfl,rfl⟩
 have HB:Hid (Below w.heap.size w (((w.alloc (.cells #[.func (.func 91) #[] #[]] 105)).alloc (.cells #[.func (.func 92) #[] #[]] 105)).drewN nq)):=hbw
 clear hbw
 go_wp2_with fail
 go_ret2
 exact⟨rfl,HB.out⟩
theorem cut_num {w:World}{tb cap:Nat}{l:List UInt8}(ht:TxAt w tb l) (htb:tb<w.heap.size) (i:Nat) (hi:i<l.length) (hl:l.length<=100000) (hw:Tp.letter l[i]=false) (hd:Tp.digit l[i]=true) :
  Calls Tryz.prog 52 #[.slice (some ⟨tb,0,none⟩) l.length cap,.int .i64 (i:Int)] w fun e w'=>e=.returned (.tuple #[.int .i64 2,.int .i64 (pastI Tp.digit l i:Int)])/\Below w.heap.size w w':=by
 have hmf:=zm
 have hcell:=ht i l[i] (List.getElem?_eq_getElem hi)
 have hi':(i:Int)<(l.length:Int):=by omega
 have HT:Hid (TxAt w tb l):=ht
 have HW:Hid (Tp.letter l[i]=false):=hw
 have HD:Hid (Tp.digit l[i]=true):=hd
 clear ht hw hd
 go_enter Tryz.func52,Tryz.ntmps52
 go_wp2_with fail
 go_quiet ((go_at_call 91;exact Calls.quiet_of_same (jT HW)))
 go_wp2_with fail
 obtain⟨W0,hW0⟩:∃ W0,W0=(((w.alloc (.cells #[.func (.func 91) #[] #[]] 105)).alloc (.cells #[.func (.func 92) #[] #[]] 105)).drewN nq):=⟨_,rfl⟩
 have hbw:Below w.heap.size w W0:=by rw[hW0];exact below_drewN ((zb _ _).alloc (by simp) _) nq
 have hcell0:W0.cell? ⟨tb,i,none⟩=some (.int .u8 (l[i].toNat:Int)):=(hbw.cell (p:=⟨tb,i,none⟩) htb).trans hcell
 have hdb0:W0.cell? ⟨w.heap.size+1,0,none⟩=some (.func (.func 92) #[] #[]):=by rw[hW0];simp[go_sem]
 rw[<-hW0]
 clear hW0 hcell
 go_quiet ((go_at_call 92;exact Calls.quiet_of_same (digit_is HD)))
 have hb1:Below w.heap.size w (W0.drewN nq):=below_drewN hbw _
 go_wp2_with fail
 refine(past_digit (HT.out.below hb1 htb) i (by omega) hl).mono ?_
 rintro e w1 ⟨rfl,rfl⟩
 go_wp2_with fail
 go_ret2
 exact⟨rfl,hb1⟩
theorem cut_mark {w:World}{tb cap:Nat}{l:List UInt8}(ht:TxAt w tb l) (htb:tb<w.heap.size) (hmk:Mk w) (i:Nat) (hi:i<l.length) (hl:l.length<=100000) (hc:l.length<=cap) (hw:Tp.letter l[i]=false) (hd:Tp.digit l[i]=false) :
  Calls Tryz.prog 52 #[.slice (some ⟨tb,0,none⟩) l.length cap,.int .i64 (i:Int)] w fun e w'=>Below w.heap.size w w'/\CutPost w l i e w':=by
 have hcell:=ht i l[i] (List.getElem?_eq_getElem hi)
 have hi':(i:Int)<(l.length:Int):=by omega
 have HT:Hid (TxAt w tb l):=ht
 have HW:Hid (Tp.letter l[i]=false):=hw
 have HD:Hid (Tp.digit l[i]=false):=hd
 clear ht hw hd
 go_enter Tryz.func52,Tryz.ntmps52
 go_wp2_with fail
 go_quiet ((go_at_call 91;exact Calls.quiet_of_same (jT HW)))
 go_wp2_with fail
 obtain⟨W0,hW0⟩:∃ W0,W0=(((w.alloc (.cells #[.func (.func 91) #[] #[]] 105)).alloc (.cells #[.func (.func 92) #[] #[]] 105)).drewN nq):=⟨_,rfl⟩
 have hbw:Below w.heap.size w W0:=by rw[hW0];exact below_drewN ((zb _ _).alloc (by simp) _) nq
 have hcell0:W0.cell? ⟨tb,i,none⟩=some (.int .u8 (l[i].toNat:Int)):=(hbw.cell (p:=⟨tb,i,none⟩) htb).trans hcell
 have hdb0:W0.cell? ⟨w.heap.size+1,0,none⟩=some (.func (.func 92) #[] #[]):=by rw[hW0];simp[go_sem]
 rw[<-hW0]
 clear hW0 hcell
 go_quiet ((go_at_call 92;exact Calls.quiet_of_same (digit_is HD)))
 obtain⟨W1,hW1⟩:∃ W1,W1=W0.drewN nq:=⟨_,rfl⟩
 have hb1:Below w.heap.size w W1:=by rw[hW1];exact below_drewN hbw _
 rw[<-hW1]
 have hm1:=hmk.below hb1 hmk.1
 have HT1:Hid (TxAt W1 tb l):=HT.out.below hb1 htb
 clear hW1 hcell0 hdb0 hbw hmk
 go_wp2_with (refine yM rfl 160 (.global 0) rfl mkAgg (mk_load hm1) ?_)
 obtain⟨P,hP⟩:∃ P,P=(fun m:List UInt8=>m.isPrefixOf (l.drop i)):=⟨_,rfl⟩
 have HP:Hid (P=(fun m:List UInt8=>m.isPrefixOf (l.drop i))):=hP
 clear hP
 go_loop [32] (fun v=>∃ k:Nat,k<=18/\v=.int .i64 (k:Int)/\(Tp.marks.drop k).find? P=Tp.marks.find? P) (fun v=>18 - (intOf v).toNat)
 case atStart=>exact⟨0,by omega,rfl,rfl⟩
 case round =>
  obtain⟨k,hk,rfl,hsp⟩:=hrel
  have HS:Hid ((Tp.marks.drop k).find? P=Tp.marks.find? P):=hsp
  clear hsp
  by_cases hlt:k<18
  ·have hix:=mk_idx W1 k hlt
   have hml:=M_len k hlt
   have HDR:Hid (Tp.marks.drop k=M k :: Tp.marks.drop (k+1)):=mark_drop k hlt
   have hsz:(bs (M k)).size=(M k).length:=by simp[bs,ByteArray.size]
   have htl:=zy (M k)
   generalize M k=m at hix hml HDR hsz htl
   obtain⟨hm1',hm2'⟩:=hml
   by_cases hfit:i+m.length<=l.length
   ·have hxl:((l.drop i).take m.length).length=m.length:=by simp;omega
    have hcv:∀ c,(convert 98 9 (.slice (some ⟨tb,i,none⟩) m.length c)).run Tryz.prog W1=.ok (.string (bs ((l.drop i).take m.length))) W1:=by
     intro c
     have q:=conv_at (cap:=c) (m:=(l.drop i).take m.length) HT1.out (by rw[hxl])
     rw[hxl]at q
     exact q
    have htx:=zy ((l.drop i).take m.length)
    have hpre:=prefix_iff m l i hfit
    have hfit':(i:Int)+(m.length:Int)<=(l.length:Int):=by omega
    have hci:(i:Int)<(cap:Int):=by omega
    generalize (l.drop i).take m.length=x at hcv htx hpre hxl
    have HX:Hid (m.isPrefixOf (l.drop i)=decide (x=m)):=hpre
    clear hpre hxl
    by_cases hxm:x=m
    ·have hxm':(x == m)=true:=by simp[hxm]
     have HF:Hid (Tp.marks.find? P=some m):=by
      unfold Hid;rw[<-HS.out,HDR.out,HP.out,List.find?_cons,HX.out,decide_eq_true hxm]
     clear hxm
     go_wp2_with fail
     go_ret2
     refine⟨hb1,?_⟩
     unfold CutPost
     rw[<-HP.out,HF.out]
     simp
    ·have hxm':(x == m)=false:=by simp[hxm]
     have HF:Hid ((Tp.marks.drop (k+1)).find? P=Tp.marks.find? P):=by
      unfold Hid;rw[<-HS.out,HDR.out,HP.out,List.find?_cons,HX.out,decide_eq_false hxm]
     clear hxm
     go_wp2_with fail
     go_round
     case rel=>exact⟨k+1,by omega,by go_num,HF.out⟩
     case measure=>simp[intOf];omega
   ·have hfit':(l.length:Int)<(i:Int)+(m.length:Int):=by omega
    have HF:Hid ((Tp.marks.drop (k+1)).find? P=Tp.marks.find? P):=by
     unfold Hid;rw[<-HS.out,HDR.out,HP.out,List.find?_cons,qq m l i (by omega) (by omega)]
    go_wp2_with fail
    go_round
    case rel=>exact⟨k+1,by omega,by go_num,HF.out⟩
    case measure=>simp[intOf];omega
  ·have HK:Hid (k=18):=by unfold Hid;omega
   go_wp2_with fail
   refine(jL 3 i W1).mono ?_
   rintro e w2 ⟨hth,hb2⟩
   obtain⟨ab,q1,rfl,q2,q3⟩:=hth.out
   go_wp2_with fail
   refine⟨rfl,hb1.trans (hb2.mono hb1.size),?_⟩
   unfold CutPost
   rw[<-HP.out,<-HS.out,HK.out]
   exact hth.mono hb1.size
theorem qP {l:List UInt8}{kd n:Nat}(h:Tp.cut l=some (kd,n)):1<=n/\n<=l.length:=by
 cases l with
 | nil=>cases h
 | cons c t =>
  unfold Tp.cut at h
  by_cases h1:Tp.letter c
  ·simp only [h1,if_true,Option.some.injEq,Prod.mk.injEq]at h
   have:=(List.takeWhile_prefix Tp.ld (l:=c :: t)).length_le
   rw[List.takeWhile_cons,if_pos (by simp[Tp.ld,h1])]at h this
   simp at h this
   simp;omega
  ·by_cases h2:Tp.digit c
   ·simp only [h1,h2,if_true,Bool.false_eq_true,if_false,Option.some.injEq,Prod.mk.injEq]at h
    have:=(List.takeWhile_prefix Tp.digit (l:=c :: t)).length_le
    rw[List.takeWhile_cons,if_pos h2]at h this
    simp at h this
    simp;omega
   ·simp only [h1,h2,Bool.false_eq_true,if_false]at h
    rw[Option.map_eq_some_iff]at h
    obtain⟨m,h3,h4⟩:=h
    have h5:=List.find?_some h3
    have h6:=(List.isPrefixOf_iff_prefix.1 h5).length_le
    have h7:∀ m,m∈Tp.marks->1<=m.length:=by decide
    have:=h7 m (List.mem_of_find?_eq_some h3)
    simp only [Prod.mk.injEq]at h4
    omega
def SC (cnt pos:Nat) (l:List UInt8):Except Tp.Er (List Tok):=Tp.scan (l.length+1) cnt pos l
theorem scan_fuel:∀(n:Nat) (l:List UInt8) (f cnt pos:Nat),l.length<=n->l.length<f->Tp.scan f cnt pos l=SC cnt pos l:=by
 intro n
 induction n with
 | zero =>
  intro l f cnt pos h1 h2
  have:l=[]:=List.eq_nil_of_length_eq_zero (by omega)
  subst this
  cases f with
  | zero=>omega
  | succ f=>rfl
 | succ n ih =>
  intro l f cnt pos h1 h2
  cases f with
  | zero=>omega
  | succ f =>
   cases l with
   | nil=>rfl
   | cons c t =>
    simp at h1 h2
    unfold SC
    rw[Tp.scan,Tp.scan]
    by_cases hb:Tp.blank c
    ·simp only [hb,if_true]
     rw[ih t f _ _ (by omega) (by omega),ih t (c :: t).length _ _ (by omega) (by simp)]
    ·simp only [hb,Bool.false_eq_true,if_false]
     cases hc:Tp.cut (c :: t) with
     | none=>rfl
     | some v =>
      obtain⟨kd,k⟩:=v
      have hp:=qP hc
      simp at hp
      simp only
      by_cases h6:cnt=600
      ·simp only [h6,if_true]
      ·simp only [h6,if_false]
       have hl:((c :: t).drop k).length<=t.length:=by simp;omega
       rw[ih ((c :: t).drop k) f _ _ (by omega) (by omega),ih ((c :: t).drop k) (c :: t).length _ _ (by omega) (by simp at hl ⊢;omega)]
def consT (t:Tok):Except Tp.Er (List Tok)->Except Tp.Er (List Tok)
 | .error e=>.error e
 | .ok l=>.ok (t :: l)
def addT (a:List Tok):Except Tp.Er (List Tok)->Except Tp.Er (List Tok)
 | .error e=>.error e
 | .ok l=>.ok (a++l)
theorem SC_nil (cnt pos:Nat):SC cnt pos []=.ok [⟨0,pos,[]⟩]:=rfl
theorem SC_blank {cnt pos:Nat}{c:UInt8}{t:List UInt8}(h:Tp.blank c=true):SC cnt pos (c :: t)=SC cnt (pos+1) t:=by
 unfold SC
 rw[List.length_cons,Tp.scan]
 simp only [h,if_true]
theorem SC_none {cnt pos:Nat}{c:UInt8}{t:List UInt8}(h:Tp.blank c=false) (hc:Tp.cut (c :: t)=none):SC cnt pos (c :: t)=.error (3,pos):=by
 unfold SC
 rw[List.length_cons,Tp.scan]
 simp only [h,Bool.false_eq_true,if_false,hc]
theorem SC_full {pos kd n:Nat}{c:UInt8}{t:List UInt8}(h:Tp.blank c=false) (hc:Tp.cut (c :: t)=some (kd,n)):SC 600 pos (c :: t)=.error (4,pos):=by
 unfold SC
 rw[List.length_cons,Tp.scan]
 simp only [h,Bool.false_eq_true,if_false,hc,if_true]
theorem SC_tok {cnt pos kd n:Nat}{c:UInt8}{t:List UInt8}(h:Tp.blank c=false) (hc:Tp.cut (c :: t)=some (kd,n)) (h6:cnt≠600):SC cnt pos (c :: t)=consT ⟨kd,pos,(c :: t).take n⟩ (SC (cnt+1) (pos+n) ((c :: t).drop n)):=by
 have hp:=qP hc
 simp at hp
 conv=>lhs;unfold SC
 rw[List.length_cons,Tp.scan]
 simp only [h,Bool.false_eq_true,if_false,hc,h6]
 rw[scan_fuel ((c :: t).drop n).length _ _ _ _ zn (by simp;omega)]
 cases SC (cnt+1) (pos+n) ((c :: t).drop n) <;> rfl
theorem SC_past {cnt:Nat}{l:List UInt8}:∀(n i:Nat),l.length - i<=n->i<=l.length->SC cnt (pastI Tp.blank l i) (l.drop (pastI Tp.blank l i))=SC cnt i (l.drop i):=by
 intro n
 induction n with
 | zero =>
  intro i h1 h2
  rw[yE (by omega)]
 | succ n ih =>
  intro i h1 h2
  by_cases hi:i<l.length
  ·cases hb:Tp.blank l[i]
   ·rw[jm hi hb]
   ·rw[<-kl hi hb,ih (i+1) (by omega) (by omega),List.drop_eq_getElem_cons hi,SC_blank hb]
  ·rw[yE hi]
def tcells (t:Tok):List Value:=[.int .i64 (t.kind:Int),.int .i64 (t.pos:Int),.string (bs t.text)]
def tksC (l:List Tok):List Value:=(l.map tcells).flatten
theorem Tryz.infoToken:(Tryz.prog.info? 111).map (fun i=>(i.zero,i.size,i.bytes))=some (some (.agg #[.int .i64 0,.int .i64 0,.string ⟨#[]⟩]),3,32):=by kernel_rfl
theorem addT_consT (a:List Tok) (t:Tok) (x:Except Tp.Er (List Tok)):addT a (consT t x)=addT (a++[t]) x:=by
 cases x with
 | error e=>rfl
 | ok v=>simp[addT,consT]
theorem cut_at (l:List UInt8) (i:Nat) (h:i<l.length):Tp.cut (l.drop i)=if Tp.letter l[i] then some (1,pastI Tp.ld l i - i) else if Tp.digit l[i] then some (2,pastI Tp.digit l i - i) else (Tp.marks.find? (fun m=>m.isPrefixOf (l.drop i))).map (fun m=>(3,m.length)):=by
 unfold pastI
 rw[List.drop_eq_getElem_cons h]
 unfold Tp.cut
 simp only [Nat.add_sub_cancel_left]
def CutP (w:World) (l:List UInt8) (i:Nat) (e:Ending) (w':World):Prop :=
 match Tp.cut (l.drop i) with
 | some (kd,n)=>e=.returned (.tuple #[.int .i64 (kd:Int),.int .i64 ((i+n:Nat):Int)])
 | none=>Thrown w.heap.size (3,i) e w'
theorem cut_post {w:World}{tb cap:Nat}{l:List UInt8}(ht:TxAt w tb l) (htb:tb<w.heap.size) (hmk:Mk w) (i:Nat) (hi:i<l.length) (hl:l.length<=100000) (hc:l.length<=cap) :
  Calls Tryz.prog 52 #[.slice (some ⟨tb,0,none⟩) l.length cap,.int .i64 (i:Int)] w fun e w'=>Below w.heap.size w w'/\CutP w l i e w':=by
 unfold CutP
 rw[cut_at l i hi]
 cases hw:Tp.letter l[i]
 ·cases hd:Tp.digit l[i]
  ·refine(cut_mark ht htb hmk i hi hl hc hw hd).mono ?_
   rintro e w' ⟨h1,h2⟩
   refine⟨h1,?_⟩
   unfold CutPost at h2
   simp only [Bool.false_eq_true,if_false]
   cases hf:Tp.marks.find? (fun m=>m.isPrefixOf (l.drop i)) with
   | none=>rw[hf]at h2;exact h2
   | some m=>rw[hf]at h2;exact h2
  ·refine(cut_num ht htb i hi hl hw hd).mono ?_
   rintro e w' ⟨rfl,h2⟩
   have:=jG (f:=Tp.digit) (l:=l) (i:=i) (by omega)
   refine⟨h2,?_⟩
   simp only [Bool.false_eq_true,if_false,if_true]
   rw[show i+(pastI Tp.digit l i - i)=pastI Tp.digit l i by omega]
   rfl
 ·refine(cut_word ht htb i hi hl hw).mono ?_
  rintro e w' ⟨rfl,h2⟩
  have:=jG (f:=Tp.ld) (l:=l) (i:=i) (by omega)
  refine⟨h2,?_⟩
  simp only [if_true]
  rw[show i+(pastI Tp.ld l i - i)=pastI Tp.ld l i by omega]
  rfl
theorem cut_some {w:World}{tb cap:Nat}{l:List UInt8}(ht:TxAt w tb l) (htb:tb<w.heap.size) (hmk:Mk w) (i:Nat) (hi:i<l.length) (hl:l.length<=100000) (hc:l.length<=cap) {kd n:Nat}(hq:Hid (Tp.cut (l.drop i)=some (kd,n))) :
  Calls Tryz.prog 52 #[.slice (some ⟨tb,0,none⟩) l.length cap,.int .i64 (i:Int)] w fun e w'=>e=.returned (.tuple #[.int .i64 (kd:Int),.int .i64 ((i+n:Nat):Int)])/\Below w.heap.size w w':=by
 refine(cut_post ht htb hmk i hi hl hc).mono ?_
 rintro e w' ⟨h1,h2⟩
 unfold CutP at h2
 rw[hq.out]at h2
 exact⟨h2,h1⟩
theorem cut_none {w:World}{tb cap:Nat}{l:List UInt8}(ht:TxAt w tb l) (htb:tb<w.heap.size) (hmk:Mk w) (i:Nat) (hi:i<l.length) (hl:l.length<=100000) (hc:l.length<=cap) (hq:Hid (Tp.cut (l.drop i)=none)) :
  Calls Tryz.prog 52 #[.slice (some ⟨tb,0,none⟩) l.length cap,.int .i64 (i:Int)] w fun e w'=>Thrown w.heap.size (3,i) e w'/\Below w.heap.size w w':=by
 refine(cut_post ht htb hmk i hi hl hc).mono ?_
 rintro e w' ⟨h1,h2⟩
 unfold CutP at h2
 rw[hq.out]at h2
 exact⟨h2,h1⟩
theorem xC {f:UInt8->Bool}{l:List UInt8}:∀(n i:Nat),l.length - i<=n->(h:pastI f l i<l.length)->f l[pastI f l i]=false:=by
 intro n
 induction n with
 | zero =>
  intro i hn h
  have:¬i<l.length:=by omega
  rw[yE this]at h
  exact absurd h this
 | succ n ih =>
  intro i hn h
  by_cases hi:i<l.length
  ·cases hb:f l[i]
   ·have e:=jm hi hb
    simp only [e,hb]
   ·have e:=kl hi hb
    have:=ih (i+1) (by omega) (by rw[e];exact h)
    simp only [e]at this
    exact this
  ·rw[yE hi]at h
   exact absurd h hi
theorem TxAt.ofBytes (w:World) (e:TypeId) (l:List UInt8):TxAt (Lib.bytesWorld w e (bs l)) w.heap.size l:=by
 intro j c hj
 have hjl:j<l.length:=by rw[List.getElem?_eq_some_iff]at hj;exact hj.1
 rw[Lib.bytesWorld_cell w e (bs l) j (by simpa[bs,ByteArray.size] using hjl)]
 simp[bs,List.getD_eq_getElem?_getD,hj]
theorem qW (w:World) (e:TypeId) (s:ByteArray):Below w.heap.size w (Lib.bytesWorld w e s) :=
 ⟨by simp only [Lib.bytesWorld,World.freeze];repeat (first|rfl|split),by simp only [Lib.bytesWorld,World.freeze];repeat (first|rfl|split),by simp only [Lib.bytesWorld,World.freeze];repeat (first|rfl|split),by rw[Lib.bytesWorld_size];omega,fun k hk=>Lib.bytesWorld_at_old w e s k hk⟩
def ScanP (w:World) (l:List UInt8) (e:Ending) (w':World):Prop :=
 match SC 0 0 l with
 | .ok ts=>∃ v,e=.returned v/\w'.ownsRow w.heap.size 111 3 v ts.length (tksC ts)
 | .error er=>Thrown w.heap.size er e w'
theorem news3 (w:World) (v0 v1 v2:Value) (t:TypeId):∀ j u,[v0,v1,v2][j]?=some u->(w.alloc (.cells #[v0,v1,v2] t)).cell? ((⟨w.heap.size,0,none⟩:Addr).add j)=some u:=by
 intro j u hj
 rw[Addr.add_lit,za (zk _ _),Nat.zero_add]
 simpa using hj
theorem yj {w w':World}{base e size n:Nat}{v:Value}{xs:List Value}(h:w.ownsRow base e size v n xs) (k:Below w.heap.size w w'):w'.ownsRow base e size v n xs:=by
 refine⟨h.1,?_⟩
 rcases h.2 with h1|⟨g,cap,cur,h1,h2,h3,h4⟩
 ·exact Or.inl h1
 ·refine Or.inr ⟨g,cap,cur,h1,h2,?_,h4⟩
  have hg:g<w.heap.size:=by rw[Array.getElem?_eq_some_iff]at h3;exact h3.1
  rw[k.block g hg];exact h3
theorem vM (l:List Tok) (t:Tok):tksC (l++[t])=tksC l++tcells t:=by simp[tksC]
theorem scan_post (w:World) (l:List UInt8) (hl:l.length<=100000) (hmk:Mk w) :
  Calls Tryz.prog 22 #[.string (bs l)] w fun e w'=>Below w.heap.size w w'/\ScanP w l e w':=by
 obtain⟨i0,hi0,hz0,hz1,hz2⟩:=info_parts Tryz.infoToken
 have hcv:=Lib.run_convert_string_bytes (P:=Tryz.prog) w 9 98 5 (bs l) Tryz.underlying9 Tryz.underlying98 Tryz.underlying5
 have hszl:(bs l).size=l.length:=by simp[bs,ByteArray.size]
 have hge:=grownCap_ge w (bs l).size 0 5
 have hT:=TxAt.ofBytes w 5 l
 have hB:=qW w 5 (bs l)
 have hS0:=Lib.bytesWorld_size w 5 (bs l)
 rw[hszl]at hcv hge
 generalize grownCap w l.length 0 5=cap at hcv hge
 generalize Lib.bytesWorld w 5 (bs l)=W0 at hcv hT hB hS0
 go_enter Tryz.func22,Tryz.ntmps22
 go_wp2_with fail
 refine(xB hT 0 (by omega) hl).mono ?_
 rintro e w1 ⟨rfl,rfl⟩
 have hmk1:=hmk.below hB hmk.1
 have hp0:=jG (f:=Tp.blank) (l:=l) (i:=0) (by omega)
 have HT:Hid (TxAt w1 w.heap.size l):=hT
 have HB:Hid (Below w.heap.size w w1):=hB
 have HM:Hid (Mk w1):=hmk1
 have hS1:w.heap.size<w1.heap.size:=by omega
 clear hT hB hmk1 hcv hmk hS0
 go_wp2_with fail
 go_loopg [5,6] (l.length+1) (fun k v vi wr=>∃(acc:List Tok) (i:Nat),vi=.int .i64 (i:Int)/\i<=l.length/\l.length - i<k/\acc.length<=600/\wr.ownsRow w1.heap.size 111 3 v acc.length (tksC acc)/\Below w1.heap.size w1 wr/\addT acc (SC acc.length i (l.drop i))=SC 0 0 l/\(∀ h:i<l.length,Tp.blank l[i]=false))
 case atStart =>
  refine⟨[],pastI Tp.blank l 0,rfl,hp0.2,by omega,by simp,World.ownsRow_nil _ _ _ _,Below.refl _ _,?_,fun h=>xC l.length 0 (by omega) h⟩
  rw[List.length_nil,SC_past l.length 0 (by omega) (by omega),List.drop_zero]
  cases SC 0 0 l <;> rfl
 case round =>
  obtain⟨acc,i,rfl,hil,hik,hac,hown,hbel,hspec,hnb⟩:=hrel
  have HS:Hid (addT acc (SC acc.length i (l.drop i))=SC 0 0 l):=hspec
  have HNB:Hid (∀ h:i<l.length,Tp.blank l[i]=false):=hnb
  obtain⟨ao,cp,hvv⟩:=zl hown
  subst hvv
  have hsz:=hbel.size
  clear hspec hnb
  by_cases hlt:i<l.length
  ·have hlt':(i:Int)<(l.length:Int):=by omega
   have hTr:=HT.out.below hbel (by omega)
   have hMr:=HM.out.below hbel HM.out.1
   have HTr:Hid (TxAt wr w.heap.size l):=hTr
   generalize hq:Tp.cut (l.drop i)=c
   cases c with
   | none =>
    have HQ:Hid (Tp.cut (l.drop i)=none):=hq
    clear hq
    go_wp2_with fail
    refine(cut_none hTr (by omega) hMr i hlt hl hge HQ).mono ?_
    rintro e w2 ⟨hth,hb2⟩
    obtain⟨ab,q1,rfl,q2,q3⟩:=hth.out
    have HTH:Hid (Thrown wr.heap.size (3,i) _ w2):=hth
    have HBB:Hid (Below w.heap.size w w2):=HB.out.trans ((hbel.trans (hb2.mono hsz)).mono (by omega))
    clear hth q1 q2 q3
    go_wp2_with fail
    refine⟨rfl,HBB.out,?_⟩
    have e1:=HQ.out
    have e2:=HNB.out hlt
    unfold ScanP
    rw[List.drop_eq_getElem_cons hlt]at e1
    rw[<-HS.out,List.drop_eq_getElem_cons hlt,SC_none e2 e1]
    exact HTH.out.mono (by omega)
   | some kn =>
    obtain⟨kd,n⟩:=kn
    have HQ:Hid (Tp.cut (l.drop i)=some (kd,n)):=hq
    have hn:=qP hq
    clear hq
    simp only [List.length_drop]at hn
    go_wp2_with fail
    refine(cut_some hTr (by omega) hMr i hlt hl hge HQ).mono ?_
    rintro e w2 ⟨rfl,hb2⟩
    have hT2:=HTr.out.below hb2 (by omega)
    have hown2:=yj hown hb2
    have hxl:((l.drop i).take n).length=n:=by simp;omega
    have hcv:∀ c,(convert 98 9 (.slice (some ⟨w.heap.size,i,none⟩) n c)).run Tryz.prog w2=.ok (.string (bs ((l.drop i).take n))) w2:=by
     intro c
     have q:=conv_at (cap:=c) (m:=(l.drop i).take n) hT2 (by rw[hxl])
     rw[hxl]at q
     exact q
    clear hTr hMr hown hT2
    by_cases h6:acc.length=600
    ·have h6':(acc.length:Int)=600:=by omega
     clear h6
     go_wp2_with fail
     refine(jL 4 i w2).mono ?_
     rintro e w3 ⟨hth,hb3⟩
     obtain⟨ab,q1,rfl,q2,q3⟩:=hth.out
     have HTH:Hid (Thrown w2.heap.size (4,i) _ w3):=hth
     have hs2:=hb2.size
     have HBB:Hid (Below w.heap.size w w3):=HB.out.trans (((hbel.trans (hb2.mono hsz)).trans (hb3.mono (by omega))).mono (by omega))
     clear hth q1 q2 q3
     go_wp2_with fail
     refine⟨rfl,HBB.out,?_⟩
     have e1:=HQ.out
     have e2:=HNB.out hlt
     unfold ScanP
     rw[List.drop_eq_getElem_cons hlt]at e1
     rw[<-HS.out,List.drop_eq_getElem_cons hlt,show acc.length=600 by omega,SC_full e2 e1]
     exact HTH.out.mono (by omega)
    ·have h6':¬(acc.length:Int)=600:=by omega
     have h6b:((acc.length:Int) == 600)=false:=by simpa using h6'
     generalize hx:(l.drop i).take n=x at hcv hxl
     have hci:(i:Int)<(cap:Int):=by omega
     have hcn:(i:Int)+(n:Int)<=(cap:Int):=by omega
     have hs2:=hb2.size
     go_wp2_with (at_builtin;refine wpList_append_own _ rfl _ _ 63 rfl w1.heap.size 111 i0 (.agg #[.int .i64 0,.int .i64 0,.string ⟨#[]⟩]) 3 32 Tryz.underlying63 hi0 hz0 hz1 hz2 rfl (by decide) _ _ _ rfl (hown2.alloc _) ⟨w2.heap.size,0,none⟩ 1 1 [.int .i64 (kd:Int),.int .i64 (i:Int),.string (bs x)] rfl rfl ?c1 ?c2 ?c3 ?c4 ?c5 ?_)
     case c1=>exact news3 _ _ _ _ _
     case c2=>intro u hu;simp at hu;rcases hu with rfl|rfl|rfl <;> rfl
     case c3=>unfold maxLen;omega
     case c4=>omega
     case c5=>simp;omega
     ·intro v' w3 hown3 hgrow _
      have hb3:Below w1.heap.size w2 w3:=((Below.refl _ _).alloc (by omega) _).trans ((Below.refl _ _).grown hgrow (by simp;omega) (zL hown2))
      have hb13:Below w1.heap.size w1 w3:=(hbel.trans (hb2.mono hsz)).trans hb3
      have HO:Hid (w3.ownsRow w1.heap.size 111 3 v' (acc++[(⟨kd,i,x⟩:Tok)]).length (tksC (acc++[(⟨kd,i,x⟩:Tok)]))):=by unfold Hid;rw[vM];simpa[tcells] using hown3
      clear hgrow hown2 hown3 hb3
      have hT3:=HT.out.below hb13 (by omega)
      go_wp2_with fail
      refine(xB hT3 (i+n) (by omega) hl).mono ?_
      rintro e w4 ⟨rfl,rfl⟩
      have hpn:=jG (f:=Tp.blank) (l:=l) (i:=i+n) (by omega)
      clear hT3
      go_wp2_with fail
      go_roundg (gk - 1)
      case measure=>omega
      case rel =>
       refine⟨acc++[⟨kd,i,x⟩],pastI Tp.blank l (i+n),rfl,hpn.2,by omega,by simp;omega,HO.out,hb13,?_,fun h=>xC l.length (i+n) (by omega) h⟩
       have e1:=HQ.out
       have e2:=HNB.out hlt
       rw[<-HS.out,SC_past l.length (i+n) (by omega) (by omega)]
       rw[List.drop_eq_getElem_cons hlt]at e1 ⊢
       rw[SC_tok e2 e1 h6,addT_consT,<-List.drop_eq_getElem_cons hlt,List.drop_drop,hx]
       simp
  ·have hlt':¬(i:Int)<(l.length:Int):=by omega
   go_wp2_with (at_builtin;refine wpList_append_own _ rfl _ _ 63 rfl w1.heap.size 111 i0 (.agg #[.int .i64 0,.int .i64 0,.string ⟨#[]⟩]) 3 32 Tryz.underlying63 hi0 hz0 hz1 hz2 rfl (by decide) _ _ _ rfl (hown.alloc _) ⟨wr.heap.size,0,none⟩ 1 1 [.int .i64 0,.int .i64 (l.length:Int),.string ⟨#[]⟩] rfl rfl ?c1 ?c2 ?c3 ?c4 ?c5 ?_)
   case c2=>exact⟨rfl,rfl,rfl⟩
   case c3=>unfold maxLen;omega
   case c4=>omega
   case c5=>omega
   ·intro v' w3 hown3 hgrow _
    have hb3:Below w1.heap.size wr w3:=((Below.refl _ _).alloc hsz _).trans ((Below.refl _ _).grown hgrow (by simp;omega) (zL hown))
    have hb13:Below w1.heap.size w1 w3:=hbel.trans hb3
    have HO:Hid (w3.ownsRow w1.heap.size 111 3 v' (acc++[(⟨0,l.length,[]⟩:Tok)]).length (tksC (acc++[(⟨0,l.length,[]⟩:Tok)]))):=by unfold Hid;rw[vM];simpa[tcells,bs] using hown3
    have HBB:Hid (Below w.heap.size w w3):=HB.out.trans (hb13.mono (by omega))
    clear hgrow hown hown3 hb3 hb13
    go_wp2_with fail
    go_ret
    refine⟨HBB.out,?_⟩
    have e0:i=l.length:=by omega
    unfold ScanP
    rw[<-HS.out,e0,List.drop_length,SC_nil]
    exact⟨_,rfl,yQ HO.out (by omega)⟩
end Go.Proofs.YtmocelfkmdpogaaGreatDoor
namespace Go.Proofs.YtmocelfkmdpogaaGreatDoor
open Go.RowKit
open Tp (Tok hd tx at' stp X S G Pr)
theorem xj (a:Option Addr) (w:World) :
  Calls Tryz.prog 21 #[.iface 103 (.pointer a)] w fun e w'=>e=.returned (.iface 103 (.pointer a))/\w'=w:=by
 have hta:∀(a:Option Addr) (w:World),(Instr.typeAssert (.iface 103 (.pointer a)) 20 103 true).run Tryz.prog w=.ok (.tuple #[.pointer a,.bool true]) w:=fun a w=>by kernel_rfl
 go_enter Tryz.func21,Tryz.ntmps21
 go_wp2
 go_ret
 exact⟨rfl,rfl⟩
def m0:Array Value:=#[.string ⟨#[]⟩,.slice none 0 0,.slice none 0 0,.slice none 0 0,.slice none 0 0]
theorem y9 (mb eb ab:Nat) (older:List PanicEntry) (w:World) (c0:∀ i,i<5->(w.cell? ⟨mb,i,none⟩).isSome=true) (z0:∀ i,w.frozen? ⟨mb,i,none⟩=false) (ce:(w.cell? ⟨eb,0,none⟩).isSome=true) (ze:w.frozen? ⟨eb,0,none⟩=false) (hne:mb≠eb) :
  CallsD Tryz.prog 20 #[.pointer (some ⟨mb,0,none⟩),.pointer (some ⟨eb,0,none⟩)] (.panicking ({ v:=.iface 103 (.pointer (some ⟨ab,0,none⟩)),recovered:=false } :: older)) w fun e u' w' =>
   e=.returned (.tuple #[])/\u'=.panicking ({ v:=.iface 103 (.pointer (some ⟨ab,0,none⟩)),recovered:=true } :: older)/\w'=(((((w.setCell ⟨mb,0,none⟩ (.string ⟨#[]⟩)).setCell ⟨mb,1,none⟩ (.slice none 0 0)).setCell ⟨mb,2,none⟩ (.slice none 0 0)).setCell ⟨mb,3,none⟩ (.slice none 0 0)).setCell ⟨mb,4,none⟩ (.slice none 0 0)).setCell ⟨eb,0,none⟩ (.iface 103 (.pointer (some ⟨ab,0,none⟩))):=by
 refine callsD_of_wpS Tryz.func20 rfl fun c₀ cs hu=>?_
 apply wpS_seq
 apply wpS_region
 simp[wpOpsS,go_sem,recoverD,hu,Tryz.ntmps20,Exit.thenS]
 refine wpS_of_wp ?_
 have k0:=c0 0 (by omega)
 have k1:=c0 1 (by omega)
 have k2:=c0 2 (by omega)
 have k3:=c0 3 (by omega)
 have k4:=c0 4 (by omega)
 rw[Option.isSome_iff_exists]at k0 k1 k2 k3 k4 ce
 obtain⟨x0,k0⟩:=k0
 obtain⟨x1,k1⟩:=k1
 obtain⟨x2,k2⟩:=k2
 obtain⟨x3,k3⟩:=k3
 obtain⟨x4,k4⟩:=k4
 obtain⟨xe,ke⟩:=ce
 have hne':eb≠mb:=fun e=>hne e.symm
 generalize hQ:(fun (e:Exit) (a':Act) (w':World)=>bodyPostS Tryz.prog _ _ _ _ e a' _ w')=Q
 show Code.wp Tryz.prog _ _ { tmps:=#[.pointer (some ⟨mb,0,none⟩),.pointer (some ⟨eb,0,none⟩),.iface 103 (.pointer (some ⟨ab,0,none⟩)),.iface 103 (.pointer (some ⟨ab,0,none⟩)),undef,undef,undef,undef,undef],defers:=[] } w
 go_wp2_with fail
 refine(xj _ w).mono ?_
 rintro e w' ⟨rfl,rfl⟩
 go_wp2_with fail
 subst hQ
 simp[bodyPostS,results,Tryz.results20]
theorem jU (m e:Addr) (w:World) :
  CallsD Tryz.prog 20 #[.pointer (some m),.pointer (some e)] .returning w fun e u' w'=>e=.returned (.tuple #[])/\u'=.returning/\w'=w:=by
 refine callsD_of_wpS Tryz.func20 rfl fun c₀ cs hu=>?_
 apply wpS_seq
 apply wpS_region
 simp[wpOpsS,go_sem,recoverD,hu,Tryz.ntmps20,Exit.thenS]
 refine wpS_of_wp ?_
 generalize hQ:(fun (e:Exit) (a':Act) (w':World)=>bodyPostS Tryz.prog _ _ _ _ e a' _ w')=Q
 show Code.wp Tryz.prog _ _ { tmps:=#[.pointer (some m),.pointer (some e),.nilIface,.nilIface,undef,undef,undef,undef,undef],defers:=[] } w
 go_wp2_with fail
 subst hQ
 cases c₀
 simp_all [bodyPostS,results,Tryz.results20]
end Go.Proofs.YtmocelfkmdpogaaGreatDoor
