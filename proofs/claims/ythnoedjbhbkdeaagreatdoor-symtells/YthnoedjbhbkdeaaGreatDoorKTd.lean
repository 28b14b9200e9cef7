import Derived.Test.YthnoedjbhbkdeaaGreatDoorKTc
import Derived.Test.YthnoedjbhbkdeaaGreatDoorKWc
import Derived.Test.YthnoedjbhbkdeaaGreatDoorKHa
import Derived.Test.YthnoedjbhbkdeaaGreatDoorKXa
import Derived.Laws.BitsAllLaws
import Derived.Lib.Hide
set_option maxRecDepth 100000
set_option maxHeartbeats 4000000
namespace Go.Proofs.YthnoedjbhbkdeaaGreatDoor
open Go.RowKit Go.Sort
open Tp (Sy Bs)
theorem ul {w:World}{a:Option Addr}{c:Nat}{l:List Sy}(h:SL w 0 (.slice a l.length c) l) (hl:l.length<=1000000) (nm:List UInt8) :
  Calls Tryz.prog 26 #[.slice a l.length c,.string (bs nm)] w fun e w'=>e=.returned (.int .i64 (fidx l nm))/\Below w.heap.size w w':=by
 have hn':(l.length:Int)<=1000000:=by omega
 have HS:=zh h
 clear h
 go_enter Tryz.func26,Tryz.ntmps26
 go_wp2_with fail
 go_loopg [9] l.length (fun k vi wr=>∃ i:Nat,i<=l.length/\k=l.length - i/\vi=.int .i64 (i:Int)/\Hid (∀ j (hj:j<l.length),j<i->l[j].1≠nm)/\Hid (Below w.heap.size w wr))
 case atStart=>exact⟨0,by omega,by omega,rfl,fun j _ hj=>by omega,Below.refl _ _⟩
 case round =>
  obtain⟨i,hid,hk,rfl,HN,HB⟩:=hrel
  by_cases hlt:i<l.length
  ·have hlt':(i:Int)<(l.length:Int):=by omega
   obtain⟨g,rfl,_,hgl,hc⟩:=HS.out.cell i hlt
   have x0:wr.cell? ⟨g,i * 3,none⟩=some (.string (bs l[i].1)):=(HB.out.cell (p:=⟨g,i * 3+0,none⟩) hgl).trans (hc 0 (by omega))
   have x1:wr.cell? ⟨g,i * 3+1,none⟩=some (.int .i64 (l[i].2.1:Int)):=(HB.out.cell (p:=⟨g,i * 3+1,none⟩) hgl).trans (hc 1 (by omega))
   have x2:wr.cell? ⟨g,i * 3+2,none⟩=some (.int .i64 l[i].2.2):=(HB.out.cell (p:=⟨g,i * 3+2,none⟩) hgl).trans (hc 2 (by omega))
   have hwl1:g<wr.heap.size:=zg x0
   obtain⟨d,hd⟩:∃ d,((bs l[i].1).toList == (bs nm).toList)=d:=⟨_,rfl⟩
   have HD:Hid (d=true↔l[i].1=nm):=by
    show _↔_
    rw[<-hd,zv,zv,beq_iff_eq]
   have HA:Hid (∀ ob,Below w.heap.size w (wr.alloc ob)):=fun ob=>HB.out.alloc HB.out.size ob
   clear hc hgl
   cases d with
   | true =>
    have HF:Hid (fidx l nm=(i:Int)):=fidx_at hlt (HD.out.1 rfl) (fun k hk=>HN.out k (by omega) hk)
    go_wp2_with fail
    go_ret
    exact⟨congrArg (fun z=>Ending.returned (Value.int .i64 z)) HF.out.symm,HA.out _⟩
   | false =>
    have HN2:Hid (∀ j (hj:j<l.length),j<i+1->l[j].1≠nm):=fun j hj hji=>by
     by_cases e:j=i
     ·subst e;intro q;have:=HD.out.2 q;cases this
     ·exact HN.out j hj (by omega)
    go_wp2_with fail
    go_roundg (l.length - (i+1))
    case measure=>omega
    case rel=>exact⟨i+1,by omega,rfl,by go_num,HN2,HA.out _⟩
  ·have hlt':¬(i:Int)<(l.length:Int):=by omega
   have HF:Hid (fidx l nm=-1):=fidx_no (fun k hk=>HN.out k hk (by omega))
   go_wp2_with fail
   go_ret
   exact⟨congrArg (fun z=>Ending.returned (Value.int .i64 z)) HF.out.symm,HB.out⟩
theorem uf {w:World}{a b:Option Addr}{c d:Nat}{l:List (List UInt8)}(hA:StrsAt w l a) (hB:StrsAt w l b) (hn:l.length<=1000000) :
  Calls Tryz.prog 18 #[.slice a l.length c,.slice b l.length d] w fun e w'=>e=.returned (.bool true)/\Below w.heap.size w w':=by
 have hn':(l.length:Int)<=1000000:=by omega
 have HA:=zh hA
 have HB:=zh hB
 clear hA hB
 go_enter Tryz.func18,Tryz.ntmps18
 go_wp2_with fail
 go_loopg [5] l.length (fun k vi wr=>∃ i:Nat,i<=l.length/\k=l.length - i/\vi=.int .i64 (i:Int)/\Hid (Below w.heap.size w wr))
 case atStart=>exact⟨0,by omega,by omega,rfl,Below.refl _ _⟩
 case round =>
  obtain⟨i,hid,hk,rfl,HW⟩:=hrel
  by_cases hlt:i<l.length
  ·have hlt':(i:Int)<(l.length:Int):=by omega
   obtain⟨g,o,rfl,hgl,hcell⟩:=HA.out.c i hlt
   obtain⟨g2,o2,rfl,hgl2,hcell2⟩:=HB.out.c i hlt
   have e0:wr.cell? ⟨g,o+i,none⟩=some (.string (bs l[i])):=(HW.out.cell (p:=⟨g,o+i,none⟩) hgl).trans hcell
   have d0:wr.cell? ⟨g2,o2+i,none⟩=some (.string (bs l[i])):=(HW.out.cell (p:=⟨g2,o2+i,none⟩) hgl2).trans hcell2
   have hz1:g<wr.heap.size:=zg e0
   have hz2:g2<wr.heap.size:=zg d0
   have HD:Hid (∀ q,Below w.heap.size w (wr.drewN q)):=fun q=>below_drewN HW.out q
   clear hcell hcell2 hgl hgl2
   generalize l[i]=x at *
   go_upto_region 6 with fail
   go_quiet (fail)
   go_wp2_with fail
   go_roundg (l.length - (i+1))
   case measure=>omega
   case rel=>exact⟨i+1,by omega,rfl,by go_num,HD.out _⟩
  ·have hlt':¬(i:Int)<(l.length:Int):=by omega
   go_wp2_with fail
   go_ret
   exact⟨rfl,HW.out⟩
theorem sameSL_eq {w:World}{a b:Option Addr}{c d B B':Nat}{l:List Sy}(hA:SL w B (.slice a l.length c) l) (hB:SL w B' (.slice b l.length d) l) (hn:l.length<=1000000) :
  Calls Tryz.prog 15 #[.slice a l.length c,.slice b l.length d] w fun e w'=>e=.returned (.bool true)/\Below w.heap.size w w':=by
 have hn':(l.length:Int)<=1000000:=by omega
 have HA:=zh hA
 have HB:=zh hB
 clear hA hB
 go_enter Tryz.func15,Tryz.ntmps15
 go_wp2_with fail
 go_loopg [5] l.length (fun k vi wr=>∃ i:Nat,i<=l.length/\k=l.length - i/\vi=.int .i64 (i:Int)/\Hid (Below w.heap.size w wr))
 case atStart=>exact⟨0,by omega,by omega,rfl,Below.refl _ _⟩
 case round =>
  obtain⟨i,hid,hk,rfl,HW⟩:=hrel
  by_cases hlt:i<l.length
  ·have hlt':(i:Int)<(l.length:Int):=by omega
   obtain⟨g,rfl,_,hgl,hcell⟩:=HA.out.cell i hlt
   obtain⟨g2,rfl,_,hgl2,hcell2⟩:=HB.out.cell i hlt
   have e0:wr.cell? ⟨g,i * 3,none⟩=some (.string (bs l[i].1)):=(HW.out.cell (p:=⟨g,i * 3+0,none⟩) hgl).trans (hcell 0 (by omega))
   have e1:wr.cell? ⟨g,i * 3+1,none⟩=some (.int .i64 (l[i].2.1:Int)):=(HW.out.cell (p:=⟨g,i * 3+1,none⟩) hgl).trans (hcell 1 (by omega))
   have e2:wr.cell? ⟨g,i * 3+2,none⟩=some (.int .i64 l[i].2.2):=(HW.out.cell (p:=⟨g,i * 3+2,none⟩) hgl).trans (hcell 2 (by omega))
   have d0:wr.cell? ⟨g2,i * 3,none⟩=some (.string (bs l[i].1)):=(HW.out.cell (p:=⟨g2,i * 3+0,none⟩) hgl2).trans (hcell2 0 (by omega))
   have d1:wr.cell? ⟨g2,i * 3+1,none⟩=some (.int .i64 (l[i].2.1:Int)):=(HW.out.cell (p:=⟨g2,i * 3+1,none⟩) hgl2).trans (hcell2 1 (by omega))
   have d2:wr.cell? ⟨g2,i * 3+2,none⟩=some (.int .i64 l[i].2.2):=(HW.out.cell (p:=⟨g2,i * 3+2,none⟩) hgl2).trans (hcell2 2 (by omega))
   have hz1:g<wr.heap.size:=zg e0
   have hz2:g2<wr.heap.size:=zg d0
   have HD:Hid (∀ q,Below w.heap.size w (wr.drewN q)):=fun q=>below_drewN HW.out q
   clear hcell hcell2 hgl hgl2
   generalize l[i].1=x0 at *
   generalize l[i].2.1=x1 at *
   generalize l[i].2.2=x2 at *
   go_upto_region 6 with fail
   go_quiet (fail)
   go_wp2_with fail
   go_roundg (l.length - (i+1))
   case measure=>omega
   case rel=>exact⟨i+1,by omega,rfl,by go_num,HD.out _⟩
  ·have hlt':¬(i:Int)<(l.length:Int):=by omega
   go_wp2_with fail
   go_ret
   exact⟨rfl,HW.out⟩
end Go.Proofs.YthnoedjbhbkdeaaGreatDoor
namespace Go.Proofs.YthnoedjbhbkdeaaGreatDoor
open Go.RowKit
def sumB (s:ByteArray):Nat->Nat
 | 0=>2166136261
 | i+1=>(sumB s i ^^^ (s[i]?.getD 0).toNat) * 16777619 % 4294967296
theorem vW (s:ByteArray) (i:Nat):sumB s i<4294967296:=by
 cases i with
 | zero=>show 2166136261<4294967296;decide
 | succ i=>exact Nat.mod_lt _ (by decide)
theorem step32 {h c:Nat}(hh:h<4294967296) (hc:c<256):IntKind.u32.wrap (bits .xor .u32 (h:Int) (c:Int) * 16777619)=(((h ^^^ c) * 16777619 % 4294967296:Nat):Int):=by
 rw[u32_xor_nat h c hh (by omega),IntKind.wrap_u32']
 omega
theorem step64 {h c:Nat}(hh:h<4294967296) (hc:c<256):bits .xor .u64 (h:Int) (c:Int)=((h ^^^ c:Nat):Int)/\h ^^^ c<4294967296:=⟨u64_xor_nat h c (by omega) (by omega),Nat.xor_lt_two_pow (n:=32) hh (by omega)⟩
theorem vT (s:ByteArray) (hs:s.size<=1000000) (w:World):Calls Tryz.prog 21 #[.string s] w fun e w'=>e=.returned (.int .u32 (sumB s s.size:Int))/\w'=w:=by
 have hs':(s.size:Int)<=1000000:=by omega
 go_enter Tryz.func21,Tryz.ntmps21
 go_wp2_with fail
 go_loopg [3,7] s.size (fun k v3 vi wr=>∃ i:Nat,i<=s.size/\k=s.size - i/\v3=.int .u32 (sumB s i:Int)/\vi=.int .i64 (i:Int)/\wr=w)
 case atStart=>exact⟨0,by omega,by omega,rfl,rfl,rfl⟩
 case round =>
  obtain⟨i,hid,hk,rfl,rfl,rfl⟩:=hrel
  by_cases hlt:i<s.size
  ·have hlt':(i:Int)<(s.size:Int):=by omega
   have HST:Hid (bits .xor .u32 (sumB s i:Int) ((s[i].toNat:Int) % 4294967296) * 16777619 % 4294967296=(sumB s (i+1):Int)):=by
    show _=_
    have hc:=UInt8.toNat_lt s[i]
    have hst:=step32 (vW s i) hc
    rw[IntKind.wrap_u32']at hst
    rw[show ((s[i].toNat:Int) % 4294967296)=(s[i].toNat:Int) by omega,hst]
    show _=(((sumB s i ^^^ (s[i]?.getD 0).toNat) * 16777619 % 4294967296:Nat):Int)
    rw[getElem?_pos s i hlt]
    rfl
   go_wp2_with fail
   go_roundg (s.size - (i+1))
   case measure=>omega
   case rel=>exact⟨i+1,by omega,rfl,by rw[<-HST.out],by go_num,rfl⟩
  ·have hlt':¬(i:Int)<(s.size:Int):=by omega
   have hi:i=s.size:=by omega
   subst hi
   go_wp2_with fail
   go_ret
   exact⟨rfl,rfl⟩
theorem rSum_post (s:ByteArray) (hs:s.size<=1000000) (w:World):Calls Tryz.prog 22 #[.string s] w fun e w'=>e=.returned (.int .u32 (sumB s s.size:Int))/\w'=w:=by
 have hs':(s.size:Int)<=1000000:=by omega
 go_enter Tryz.func22,Tryz.ntmps22
 go_wp2_with fail
 go_loopg [3,7] s.size (fun k v3 vi wr=>∃ i:Nat,i<=s.size/\k=s.size - i/\v3=.int .u64 (sumB s i:Int)/\vi=.int .i64 (i:Int)/\wr=w)
 case atStart=>exact⟨0,by omega,by omega,rfl,rfl,rfl⟩
 case round =>
  obtain⟨i,hid,hk,rfl,rfl,rfl⟩:=hrel
  by_cases hlt:i<s.size
  ·have hlt':(i:Int)<(s.size:Int):=by omega
   have HST:Hid ((IntKind.u64.wrap (bits .xor .u64 (sumB s i:Int) (IntKind.u64.wrap (s[i].toNat:Int)) * 16777619)).tmod 4294967296=(sumB s (i+1):Int)):=by
    show _=_
    obtain⟨h1,h2⟩:=step64 (vW s i) (UInt8.toNat_lt s[i])
    have hc:=UInt8.toNat_lt s[i]
    rw[show IntKind.u64.wrap (s[i].toNat:Int)=(s[i].toNat:Int) by simp only [IntKind.wrap,IntKind.bits,IntKind.signed];simp;omega,h1]
    show _=(((sumB s i ^^^ (s[i]?.getD 0).toNat) * 16777619 % 4294967296:Nat):Int)
    rw[getElem?_pos s i hlt]
    show _=(((sumB s i ^^^ s[i].toNat) * 16777619 % 4294967296:Nat):Int)
    have hw:IntKind.u64.wrap (((sumB s i ^^^ s[i].toNat:Nat):Int) * 16777619)=((sumB s i ^^^ s[i].toNat:Nat):Int) * 16777619:=by
     simp only [IntKind.wrap,IntKind.bits,IntKind.signed]
     simp
     omega
    rw[hw,Int.tmod_eq_emod_of_nonneg (by omega)]
    omega
   go_wp2_with fail
   go_roundg (s.size - (i+1))
   case measure=>omega
   case rel=>exact⟨i+1,by omega,rfl,by rw[<-HST.out],by go_num,rfl⟩
  ·have hlt':¬(i:Int)<(s.size:Int):=by omega
   have hi:i=s.size:=by omega
   subst hi
   have hl:=vW s s.size
   go_wp2_with fail
   go_ret
   exact⟨rfl,rfl⟩
end Go.Proofs.YthnoedjbhbkdeaaGreatDoor
namespace Go.Proofs.YthnoedjbhbkdeaaGreatDoor
open Go.RowKit Go.Sort
open Tp (Sy Bs)
theorem swp_mem {d:Array Sy}{i j:Nat}{s:Sy}(hi:i<d.size) (hj:j<d.size) (h:s∈(swp d i j).toList):s∈d.toList:=by
 rw[Array.mem_toList_iff]at h ⊢
 have h':s∈(d.setIfInBounds i d[j]!).setIfInBounds j d[i]!:=h
 rcases Array.mem_or_eq_of_mem_setIfInBounds h' with h1|h1
 ·rcases Array.mem_or_eq_of_mem_setIfInBounds h1 with h2|h2
  ·exact h2
  ·rw[h2,getElem!_pos d j hj];exact Array.getElem_mem hj
 ·rw[h1,getElem!_pos d i hi];exact Array.getElem_mem hi
theorem vB {lt:Sy->Sy->Bool}(a:Nat):∀(j:Nat) (d:Array Sy) (s:Sy),j<d.size->s∈(Sort.insInner lt a j d).toList->s∈d.toList:=by
 intro j
 induction j with
 | zero=>intro d s _ h;exact h
 | succ j ih =>
  intro d s hj h
  rw[Sort.insInner]at h
  split at h
  ·have:=ih _ _ (by simp[swp];omega) h
   exact swp_mem hj (by omega) this
  ·exact h
theorem vA {lt:Sy->Sy->Bool}(a b:Nat):∀(k i:Nat) (d:Array Sy) (s:Sy),b - i=k->b<=d.size->s∈(Sort.insOuter lt a b i d).toList->s∈d.toList:=by
 intro k
 induction k with
 | zero=>intro i d s h _ hs;rw[Sort.insOuter,if_neg (by omega)]at hs;exact hs
 | succ k ih =>
  intro i d s h hb hs
  rw[Sort.insOuter]at hs
  split at hs
  ·have:=ih (i+1) _ s (by omega) (by rw[kK];exact hb) hs
   exact vB a i d s (by omega) this
  ·exact hs
theorem srt_mem {l:List Sy}{s:Sy}(h:s∈srt l):s∈l:=by
 unfold srt insS Sort.insertionSort at h
 have:=vA 0 l.length _ 1 l.toArray s rfl (by simp) h
 simpa using this
theorem okn_len {n:List UInt8}(h:Tp.okn n):n.length<=10:=by
 unfold Tp.okn at h
 omega
theorem jP {m:Tp.M}(hm:Tp.WM m):AllSmall (srt (Tp.symsOf m))/\(srt (Tp.symsOf m)).length<=20:=by
 constructor
 ·intro s hs
  have:=srt_mem hs
  unfold Tp.symsOf at this
  rw[List.mem_append,List.mem_map,List.mem_map]at this
  rcases this with⟨g,hg,rfl⟩|⟨p,hp,rfl⟩
  ·have hw:=hm.g g (List.mem_filter.1 hg).1
   have:=okn_len hw.n
   have:=hw.l
   simp only [Tp.syG]
   refine⟨by omega,by decide,by decide,by omega⟩
  ·have hw:=hm.p p (List.mem_filter.1 hp).1
   have h1:=okn_len hw.n
   have h2:=hw.c
   simp only [Tp.syP]
   refine⟨by omega,by omega,by omega,by omega⟩
 ·rw[yA]
  unfold Tp.symsOf
  have h1:=yZ (fun g:Tp.G=>g.seen) Tp.syG m.vars
  have h2:=yZ (fun p:Tp.Pr=>p.seen) Tp.syP m.procs
  have:=hm.gc
  have:=hm.pc
  rw[List.length_append]
  omega
theorem tells_long {w:World}{x y:ByteArray}{na:Option Addr}{nn nc:Nat}(h:1000<x.size\/40<y.size\/10<nn):Calls Tryz.prog 4 #[.string x,.string y,.slice na nn nc] w fun e w'=>e=.returned (.bool true)/\Below w.heap.size w w':=by
 by_cases h1:1000<x.size
 ·have hs:(1000:Int)<(x.size:Int):=by omega
  clear h
  go_enter Tryz.func4,Tryz.ntmps4
  go_wp2_with fail
  go_ret
  exact⟨rfl,Below.refl _ _⟩
 ·have hs:(x.size:Int)<=1000:=by omega
  by_cases h2:40<y.size
  ·have hs2:(40:Int)<(y.size:Int):=by omega
   clear h
   go_enter Tryz.func4,Tryz.ntmps4
   go_wp2_with fail
   go_ret
   exact⟨rfl,Below.refl _ _⟩
  ·have hs2:(y.size:Int)<=40:=by omega
   have hs3:(10:Int)<(nn:Int):=by omega
   clear h
   go_enter Tryz.func4,Tryz.ntmps4
   go_wp2_with fail
   go_ret
   exact⟨rfl,Below.refl _ _⟩
structure TellC (w4:World) (o:Bs) (x:ByteArray) (nn:Nat) (na:Option Addr) (nc:Nat) (A1 A2:Value) (aa ba:Option Addr) (ac bc ll:Nat) (PT NT:ByteArray) (SM:Int) (UL:List Bs):Prop where
 same:∀ W,Below w4.heap.size w4 W->Calls Tryz.prog 15 #[.slice ba ll bc,.slice aa ll ac] W fun e w'=>e=.returned (.bool true)/\Below W.heap.size W w'
 prt:∀ W,Below w4.heap.size w4 W->Calls Tryz.prog 16 #[.slice ba ll bc] W fun e w'=>e=.returned (.string PT)/\Below W.heap.size W w'
 rprt:∀ W,Below w4.heap.size w4 W->Calls Tryz.prog 17 #[.slice aa ll ac] W fun e w'=>e=.returned (.string PT)/\Below W.heap.size W w'
 us:∀ W,Below w4.heap.size w4 W->Calls Tryz.prog 19 #[A2,.string (bs o)] W fun e w'=>(∃(a:Option Addr) (c:Nat),e=.returned (.slice a UL.length c)/\StrsAt w' UL a)/\Below W.heap.size W w'
 rus:∀ W,Below w4.heap.size w4 W->Calls Tryz.prog 20 #[A1,.string (bs o)] W fun e w'=>(∃(a:Option Addr) (c:Nat),e=.returned (.slice a UL.length c)/\StrsAt w' UL a)/\Below W.heap.size W w'
 st:∀ W (a b:Option Addr) (c d:Nat),StrsAt W UL a->StrsAt W UL b->Calls Tryz.prog 18 #[.slice a UL.length c,.slice b UL.length d] W fun e w'=>e=.returned (.bool true)/\Below W.heap.size W w'
 sum:∀ W,Calls Tryz.prog 21 #[.string x] W fun e w'=>e=.returned (.int .u32 SM)/\Below W.heap.size W w'
 rsum:∀ W,Calls Tryz.prog 22 #[.string x] W fun e w'=>e=.returned (.int .u32 SM)/\Below W.heap.size W w'
 nd:∀ W,Below w4.heap.size w4 W->Calls Tryz.prog 23 #[.slice ba ll bc,.slice na nn nc] W fun e w'=>e=.returned (.string NT)/\Below W.heap.size W w'
 rnd:∀ W,Below w4.heap.size w4 W->Calls Tryz.prog 24 #[.slice aa ll ac,.slice na nn nc] W fun e w'=>e=.returned (.string NT)/\Below W.heap.size W w'
theorem tellC_of {w4:World}{mm:Tp.M}(hm:Tp.WM mm) (hnm:Tp.nM mm<=1000) {o:Bs}{x:ByteArray}(hx:x.size<=1000) {ns:List Bs}{na:Option Addr}{nc:Nat}(hns:StrsAt w4 ns na) (hnl:∀ n∈ns,n.length<=40) (hn10:ns.length<=10) {ia ga qa sa ia2 ga2 qa2 sa2 aa ba:Option Addr}{ic gc qc sc ic2 gc2 qc2 sc2 ac bc B B':Nat}(h1:MB w4 w4.heap.size mm ia ga qa sa ic gc qc sc) (h2:MB w4 w4.heap.size mm ia2 ga2 qa2 sa2 ic2 gc2 qc2 sc2) (hA:SL w4 B (.slice aa (srt (Tp.symsOf mm)).length ac) (srt (Tp.symsOf mm))) (hB:SL w4 B' (.slice ba (srt (Tp.symsOf mm)).length bc) (srt (Tp.symsOf mm))) :
  TellC w4 o x ns.length na nc (.agg #[.string (bs mm.name),.slice ia mm.imports.length ic,.slice ga mm.vars.length gc,.slice qa mm.procs.length qc,.slice sa mm.body.length sc]) (.agg #[.string (bs mm.name),.slice ia2 mm.imports.length ic2,.slice ga2 mm.vars.length gc2,.slice qa2 mm.procs.length qc2,.slice sa2 mm.body.length sc2]) aa ba ac bc (srt (Tp.symsOf mm)).length (bs (Tp.printS (srt (Tp.symsOf mm)))) (bs (Tp.needsS (srt (Tp.symsOf mm)) ns)) (sumB x x.size:Int) (Lib.compact (sK (Tp.usedR mm o))):=by
 obtain⟨hs,hl⟩:=jP hm
 have hct:(allP mm.procs).length+(allSt mm.body).length<=100000:=by have:=allM_count hm;omega
 have har:(Tp.allR mm).length<=100000:=by have:=Tp.allR_count hm;omega
 have h0:∀ {v:Value} {B:Nat} {W:World} {l:List Sy},SL W B v l->SL W 0 v l:=fun {v B W l} q=>by
  rcases q with q|⟨g,cap,a,_,b⟩
  ·exact Or.inl q
  ·exact Or.inr ⟨g,cap,a,Nat.zero_le _,b⟩
 have hul:(Lib.compact (sK (Tp.usedR mm o))).length<=1000000:=by
  have h1:=jA (sK (Tp.usedR mm o))
  rw[xU]at h1
  have h2:(Tp.usedR mm o).length<=(Tp.allR mm).length:=by unfold Tp.usedR;rw[List.length_map];exact List.length_filter_le _ _
  omega
 refine⟨fun W hW=>sameSL_eq (hB.on hW) (hA.on hW) (by omega),fun W hW=>xv (hB.on hW) hs (by omega),fun W hW=>jJ (hA.on hW) hs (by omega),fun W hW=>?_,fun W hW=>?_,fun W a b c d qa qb=>uf qa qb hul,fun W=>(vT x (by omega) W).mono ?_,fun W=>(rSum_post x (by omega) W).mono ?_,fun W hW=>needs_post (hB.on hW) hs (by omega) (hns.on hW) (fun n hn=>by have:=hnl n hn;omega) (by omega),fun W hW=>uo (h0 (hA.on hW)) hs (by omega) (hns.on hW) (fun n hn=>by have:=hnl n hn;omega) (by omega)⟩
 ·refine(usedE_post hm.sml.pc har (h2.up hW) o).mono ?_
  rintro e w' ⟨a,c,q1,q2,q3⟩
  exact⟨⟨a,c,q1,q2⟩,q3⟩
 ·refine(rused_post hm hct (h1.up hW) o).mono ?_
  rintro e w' ⟨a,c,K,q1,q2,q3,q4,q5⟩
  have e1:=used_same hm o q2 q3
  refine⟨⟨a,c,?_,?_⟩,q5⟩
  ·rw[q1,e1,xU]
  ·rw[e1];exact q4
 ·rintro e w' ⟨rfl,rfl⟩
  exact⟨rfl,Below.refl _ _⟩
 ·rintro e w' ⟨rfl,rfl⟩
  exact⟨rfl,Below.refl _ _⟩
theorem vS {w:World}{l o:List UInt8}(hl:l.length<=1000) (hol:o.length<=40) {ns:List (List UInt8)}{na:Option Addr}{nc:Nat}(hns:StrsAt w ns na) (hn10:ns.length<=10) (hg:Gl w) (hmk:Mk w) (hlv:Lv w) (hhd:Hnd w):Calls Tryz.prog 4 #[.string (bs l),.string (bs o),.slice na ns.length nc] w fun e w'=>e=.returned (.bool true)/\Below w.heap.size w w':=by
 have hs:((bs l).size:Int)<=1000:=by rw[yh];omega
 have hs2:((bs o).size:Int)<=40:=by rw[yh];omega
 have HNS:=zh hns
 have HG:=zh hg
 have HMK:=zh hmk
 have HLV:=zh hlv
 have HHD:=zh hhd
 have HLL:=zh hl
 have HLS:Hid ((bs l).size<=1000):=by show _<=_;rw[yh];exact hl
 have hn10':(ns.length:Int)<=10:=by omega
 have HN10:=zh hn10
 obtain⟨nn,hnq⟩:∃ nn,nn=ns.length:=⟨_,rfl⟩
 rw[<-hnq]at hn10' ⊢
 have HNQ:=zh hnq
 clear hns hg hmk hlv hhd hnq hl hol hn10
 go_enter Tryz.func4,Tryz.ntmps4
 go_wp2_with fail
 go_loopg [7] nn (fun k vi wr=>∃ i:Nat,i<=nn/\k=nn - i/\vi=.int .i64 (i:Int)/\wr=w/\Hid (∀ j (h:j<ns.length),j<i->ns[j].length<=40))
 case atStart=>exact⟨0,by omega,by omega,rfl,rfl,fun j _ h=>by omega⟩
 case round =>
  obtain⟨i,hid,hk,rfl,rfl,HNL⟩:=hrel
  by_cases hlt:i<nn
  ·have hlt':(i:Int)<(nn:Int):=by omega
   have hia:i<ns.length:=by have:=HNQ.out;omega
   obtain⟨b,oo,rfl,hbl,hcell⟩:=HNS.out.c i hia
   by_cases hx:40<ns[i].length
   ·have hx':(40:Int)<((bs ns[i]).size:Int):=by rw[yh];omega
    clear hx
    generalize ns[i]=x at *
    go_wp2_with fail
    go_ret
    exact⟨rfl,Below.refl _ _⟩
   ·have hx':((bs ns[i]).size:Int)<=40:=by rw[yh];omega
    have HNL2:Hid (∀ j (h:j<ns.length),j<i+1->ns[j].length<=40):=fun j h hj=>by
     by_cases e:j=i
     ·subst e;omega
     ·exact HNL.out j h (by omega)
    clear hx
    generalize ns[i]=x at *
    go_wp2_with fail
    go_roundg (nn - (i+1))
    case measure=>omega
    case rel=>exact⟨i+1,by omega,rfl,by go_num,rfl,HNL2⟩
  ·have hlt':¬(i:Int)<(nn:Int):=by omega
   have HNA:Hid (∀ n∈ns,n.length<=40):=fun n hn=>by
    obtain⟨j,hj,rfl⟩:=List.getElem_of_mem hn
    exact HNL.out j hj (by have:=HNQ.out;omega)
   clear HNL
   have HRP:=zh (rparse_u wr l (by have:=HLL.out;omega) HG.out)
   have HPW:Hid (∀ W,Below wr.heap.size wr W->Calls Tryz.prog 7 #[.string (bs l)] W fun e w'=>∃(mn2:ByteArray) (ia2 ga2 qa2 sa2:Option Addr) (il2 ic2 gl2 gc2 ql2 qc2 sl2 sc2:Nat) (ev:Value),e=.returned (.tuple #[.agg #[.string mn2,.slice ia2 il2 ic2,.slice ga2 gl2 gc2,.slice qa2 ql2 qc2,.slice sa2 sl2 sc2],ev])/\ErrA w' ev (numOf l).1 (numOf l).2/\(numOf l=(0,-1)->ev=.nilIface)/\VM W.heap.size (modOf l) (.agg #[.string mn2,.slice ia2 il2 ic2,.slice ga2 gl2 gc2,.slice qa2 ql2 qc2,.slice sa2 sl2 sc2]) w'/\Below W.heap.size W w'):=fun W hW=>parse_w W l (by have:=HLL.out;omega) (HMK.out.below hW HMK.out.1) (HLV.out.below hW HLV.out.1)
   have HND:Hid ((numOf l=(0,-1)/\Tp.WM (modOf l)/\Tp.nM (modOf l)<=1000)\/(numOf l).2≠-1):=by
    rcases nd_of l with⟨q1,q2,m,q3,q4⟩|q
    ·refine Or.inl ⟨q1,q2,?_⟩
     rw[q4]
     have:=(Tp.parse_wm q3).2
     have:=HLL.out
     omega
    ·exact Or.inr q
   clear HMK HLV
   generalize modOf l=mm at *
   generalize numOf l=nm at *
   obtain⟨en,pn⟩:=nm
   generalize bs l=SX at *
   go_wp2_with fail
   refine HRP.out.mono ?_
   rintro e wa ⟨mn,ia,ga,qa,sa,il,ic,gl,gc,ql,qc,sl,sc,rfl,hv,hba⟩
   obtain⟨w2,hw2⟩:∃ w2,w2=(wa.alloc (.cells #[.string mn,.slice ia il ic,.slice ga gl gc,.slice qa ql qc,.slice sa sl sc] 27)).alloc (.cells #[.int .i64 en,.int .i64 pn] 30):=⟨_,rfl⟩
   obtain⟨b8,hb8⟩:∃ b,b=wa.heap.size:=⟨_,rfl⟩
   have hb2:Below wa.heap.size wa w2:=by rw[hw2];exact(zb _ _).alloc (by simp) _
   have k8:w2.heap[b8]?=some (.cells #[.string mn,.slice ia il ic,.slice ga gl gc,.slice qa ql qc,.slice sa sl sc] 27 (0,0)):=by rw[hw2,hb8];exact(Below.heap_alloc _ _ _ (by simp)).trans (zq _ _)
   have k9:w2.heap[b8+1]?=some (.cells #[.int .i64 en,.int .i64 pn] 30 (0,0)):=by
    have:=zq (wa.alloc (.cells #[.string mn,.slice ia il ic,.slice ga gl gc,.slice qa ql qc,.slice sa sl sc] 27)) (.cells #[.int .i64 en,.int .i64 pn] 30)
    rw[hw2,hb8]
    simpa using this
   have HBW:Hid (Below wr.heap.size wr w2):=hba.trans (hb2.mono hba.size)
   have HV2:=zh (hv.step hb2)
   have HK8:=zh k8
   have HK9:=zh k9
   clear hba hb2 hv k8 k9 HRP
   go_upto_region 9 with fail
   rw[<-hw2,<-hb8]
   clear hw2 hb8
   go_wp2_with fail
   refine(HPW.out w2 HBW.out).mono ?_
   rintro e wb ⟨mn2,ia2,ga2,qa2,sa2,il2,ic2,gl2,gc2,ql2,qc2,sl2,sc2,ev,rfl,hev,hnil,hv2,hbb⟩
   obtain⟨w3,hw3⟩:∃ w3,w3=wb.alloc (.cells #[.string mn2,.slice ia2 il2 ic2,.slice ga2 gl2 gc2,.slice qa2 ql2 qc2,.slice sa2 sl2 sc2] 27):=⟨_,rfl⟩
   obtain⟨b10,hb10⟩:∃ b,b=wb.heap.size:=⟨_,rfl⟩
   have hb3:Below wb.heap.size wb w3:=by rw[hw3];exact zb _ _
   have k10:w3.heap[b10]?=some (.cells #[.string mn2,.slice ia2 il2 ic2,.slice ga2 gl2 gc2,.slice qa2 ql2 qc2,.slice sa2 sl2 sc2] 27 (0,0)):=by rw[hw3,hb10];exact zq _ _
   have hb23:Below w2.heap.size w2 w3:=hbb.trans (hb3.mono hbb.size)
   have k8:=(hb23.block b8 (zc HK8.out)).trans HK8.out
   have k9:=(hb23.block (b8+1) (zc HK9.out)).trans HK9.out
   have hb03:Below wr.heap.size wr w3:=HBW.out.trans (hb23.mono HBW.out.size)
   have HB3:=zh hb03
   have HV1:=zh (HV2.out.step hb23)
   have HV3:=zh (hv2.step hb3)
   have HEV:=zh (hev.below hb3)
   have HHD3:Hid (Hnd w3):=(hb03.cell (p:=⟨4,0,none⟩) (zg HHD.out)).trans HHD.out
   have g0:w3.cell? ⟨0,0,none⟩=some (.int .i64 0):=(hb03.cell (p:=⟨0,0,none⟩) (zg HG.out.f0)).trans HG.out.f0
   have g1:w3.cell? ⟨0,1,none⟩=some (.int .i64 (-1)):=(hb03.cell (p:=⟨0,1,none⟩) (zg HG.out.f1)).trans HG.out.f1
   have hgl:=zg g0
   have c0:w3.cell? ⟨b8+1,0,none⟩=some (.int .i64 en):=za k9
   have c1:w3.cell? ⟨b8+1,1,none⟩=some (.int .i64 pn):=za k9
   have hl9:=zc k9
   have HK8':=zh k8
   have HK10:=zh k10
   have HNIL:=zh hnil
   clear hev hv2 hbb hb3 hb23 hb03 k8 k9 k10 HV2 HBW HK8 HK9 HPW HHD HG hnil
   go_upto_region 10 with fail
   rw[<-hw3,<-hb10]
   clear hw3 hb10
   rcases HND.out with⟨hnn,hwm,hnm⟩|hpn
   ·obtain⟨rfl,rfl⟩:=Prod.mk.inj hnn
    have hev0:=HNIL.out hnn
    subst hev0
    obtain⟨rfl,rfl,rfl,rfl,rfl,hmb1⟩:=HV1.out.mbs
    obtain⟨rfl,rfl,rfl,rfl,rfl,hmb3⟩:=HV3.out.mbs
    have HOA:Hid (∀ W,Below w3.heap.size w3 W->Calls Tryz.prog 13 #[.agg #[.string (bs mm.name),.slice ia mm.imports.length ic,.slice ga mm.vars.length gc,.slice qa mm.procs.length qc,.slice sa mm.body.length sc]] W fun e w'=>(∃ a c,e=.returned (.slice a (srt (Tp.symsOf mm)).length c)/\SL w' 0 (.slice a (srt (Tp.symsOf mm)).length c) (srt (Tp.symsOf mm)))/\Below W.heap.size W w'):=fun W hW=>by
     refine(rof_post hwm.gc hwm.pc (hmb1.up hW)).mono ?_
     rintro e w' ⟨v,rfl,hb,hsl⟩
     obtain⟨a,c,rfl⟩:=hsl.len
     refine⟨⟨a,c,rfl,?_⟩,hb⟩
     rcases hsl with q|⟨g,cap,q1,_,q2⟩
     ·exact Or.inl q
     ·exact Or.inr ⟨g,cap,q1,Nat.zero_le _,q2⟩
    have HOB:Hid (∀ W,Below w3.heap.size w3 W->Calls Tryz.prog 14 #[.agg #[.string (bs mm.name),.slice ia2 mm.imports.length ic2,.slice ga2 mm.vars.length gc2,.slice qa2 mm.procs.length qc2,.slice sa2 mm.body.length sc2]] W fun e w'=>(∃ a c,e=.returned (.slice a (srt (Tp.symsOf mm)).length c)/\SL w' 0 (.slice a (srt (Tp.symsOf mm)).length c) (srt (Tp.symsOf mm)))/\Below W.heap.size W w'):=fun W hW=>by
     refine(of_post hwm.gc hwm.pc (hmb3.up hW)).mono ?_
     rintro e w' ⟨v,rfl,hb,hsl⟩
     obtain⟨a,c,rfl⟩:=hsl.len
     refine⟨⟨a,c,rfl,?_⟩,hb⟩
     rcases hsl with q|⟨g,cap,q1,_,q2⟩
     ·exact Or.inl q
     ·exact Or.inr ⟨g,cap,q1,Nat.zero_le _,q2⟩
    have HS:Hid (∀ W:World,Below w3.heap.size w3 W->(W.cell? ⟨b8,0,none⟩=some (.string (bs mm.name))/\W.cell? ⟨b8,1,none⟩=some (.slice ia mm.imports.length ic)/\W.cell? ⟨b8,2,none⟩=some (.slice ga mm.vars.length gc)/\W.cell? ⟨b8,3,none⟩=some (.slice qa mm.procs.length qc)/\W.cell? ⟨b8,4,none⟩=some (.slice sa mm.body.length sc))/\W.cell? ⟨b10,0,none⟩=some (.string (bs mm.name))/\W.cell? ⟨b10,1,none⟩=some (.slice ia2 mm.imports.length ic2)/\W.cell? ⟨b10,2,none⟩=some (.slice ga2 mm.vars.length gc2)/\W.cell? ⟨b10,3,none⟩=some (.slice qa2 mm.procs.length qc2)/\W.cell? ⟨b10,4,none⟩=some (.slice sa2 mm.body.length sc2)):=fun W hW=>⟨ka ((hW.block b8 (zc HK8'.out)).trans HK8'.out),ka ((hW.block b10 (zc HK10.out)).trans HK10.out)⟩
    have HB30:Hid (Below w3.heap.size w3 w3.drew):=(Below.refl _ _).drew
    have HMB1:=zh hmb1
    have HMB3:=zh hmb3
    have HWM:=zh hwm
    have HNM:=zh hnm
    have hl8:=zc HK8'.out
    have hl10:=zc HK10.out
    have hsl:=jP hwm
    obtain⟨ll,hll⟩:∃ ll,ll=(srt (Tp.symsOf mm)).length:=⟨_,rfl⟩
    rw[<-hll]at HOA HOB
    have hl20:ll<=20:=by rw[hll];exact hsl.2
    have hl20':(ll:Int)<=20:=by omega
    have HLQ:=zh hll
    clear hnn hwm hnm hmb1 hmb3 HND HV1 HV3 HEV HNIL HHD3 hsl hll
    go_upto_region 12 with fail
    clear g0 g1 hgl c0 c1 hl9
    go_cut [12,13] from 62 (fun v12 v13 wq=>∃(aa ba:Option Addr) (ac bc:Nat),v12=.slice aa ll ac/\v13=.slice ba ll bc/\Hid (SL wq 0 (.slice aa ll ac) (srt (Tp.symsOf mm)))/\Hid (SL wq 0 (.slice ba ll bc) (srt (Tp.symsOf mm)))/\Hid (Below w3.heap.size w3 wq))
    case first =>
     go_region_held3 (fun W=>(W.cell? ⟨b8,0,none⟩=some (.string (bs mm.name))/\W.cell? ⟨b8,1,none⟩=some (.slice ia mm.imports.length ic)/\W.cell? ⟨b8,2,none⟩=some (.slice ga mm.vars.length gc)/\W.cell? ⟨b8,3,none⟩=some (.slice qa mm.procs.length qc)/\W.cell? ⟨b8,4,none⟩=some (.slice sa mm.body.length sc))/\W.cell? ⟨b10,0,none⟩=some (.string (bs mm.name))/\W.cell? ⟨b10,1,none⟩=some (.slice ia2 mm.imports.length ic2)/\W.cell? ⟨b10,2,none⟩=some (.slice ga2 mm.vars.length gc2)/\W.cell? ⟨b10,3,none⟩=some (.slice qa2 mm.procs.length qc2)/\W.cell? ⟨b10,4,none⟩=some (.slice sa2 mm.body.length sc2)) (with_reducible (first|exact HS.out _ HB6.out|exact HS.out _ HB5.out|exact HS.out _ HB30.out|fail "KEEP")) (first
      | (have _g:=HA5;go_at_call 14;refine(HOB.out _ HB5.out).mono ?_;rintro e w6 ⟨⟨b1,b2,rfl,hsb⟩,hb6⟩;have HB6:Hid (Below w3.heap.size w3 w6):=HB5.out.trans (hb6.mono HB5.out.size);have HA6:=zh (HA5.out.on hb6);have HBB6:=zh hsb;clear hb6 hsb)
      | (have _g:=HBB5;go_at_call 13;refine(HOA.out _ HB5.out).mono ?_;rintro e w6 ⟨⟨a1,a2,rfl,hsa⟩,hb6⟩;have HB6:Hid (Below w3.heap.size w3 w6):=HB5.out.trans (hb6.mono HB5.out.size);have HA6:=zh hsa;have HBB6:=zh (HBB5.out.on hb6);clear hb6 hsa)
      | (go_at_call 13;refine(HOA.out _ HB30.out).mono ?_;rintro e w5 ⟨⟨a1,a2,rfl,hsa⟩,hb5⟩;have HB5:Hid (Below w3.heap.size w3 w5):=HB30.out.trans (hb5.mono HB30.out.size);have HA5:=zh hsa;clear hb5 hsa)
      | (go_at_call 14;refine(HOB.out _ HB30.out).mono ?_;rintro e w5 ⟨⟨b1,b2,rfl,hsb⟩,hb5⟩;have HB5:Hid (Below w3.heap.size w3 w5):=HB30.out.trans (hb5.mono HB30.out.size);have HBB5:=zh hsb;clear hb5 hsb))
     all_goals
      go_wp2_with fail
      go_meet
      case rel=>exact⟨_,_,_,_,rfl,rfl,HA6,HBB6,HB6⟩
    case rest =>
     obtain⟨aa,ba,ac,bc,rfl,rfl,HSA,HSB,HB4⟩:=hcut
     rename World=>w4
     have HTC:Hid (TellC w4 o SX ns.length na nc (.agg #[.string (bs mm.name),.slice ia mm.imports.length ic,.slice ga mm.vars.length gc,.slice qa mm.procs.length qc,.slice sa mm.body.length sc]) (.agg #[.string (bs mm.name),.slice ia2 mm.imports.length ic2,.slice ga2 mm.vars.length gc2,.slice qa2 mm.procs.length qc2,.slice sa2 mm.body.length sc2]) aa ba ac bc ll (bs (Tp.printS (srt (Tp.symsOf mm)))) (bs (Tp.needsS (srt (Tp.symsOf mm)) ns)) (sumB SX SX.size:Int) (Lib.compact (sK (Tp.usedR mm o)))):=by
      have h1:=HSA.out
      have h2:=HSB.out
      show TellC _ _ _ _ _ _ _ _ _ _ _ _ _ _ _ _ _
      rw[HLQ.out]at h1 h2 ⊢
      exact tellC_of HWM.out HNM.out HLS.out ((HNS.out.on HB3.out).on HB4.out) HNA.out HN10.out (HMB1.out.up HB4.out) (HMB3.out.up HB4.out) h1 h2
     have HS4:Hid (∀ W:World,Below w4.heap.size w4 W->(W.cell? ⟨b8,0,none⟩=some (.string (bs mm.name))/\W.cell? ⟨b8,1,none⟩=some (.slice ia mm.imports.length ic)/\W.cell? ⟨b8,2,none⟩=some (.slice ga mm.vars.length gc)/\W.cell? ⟨b8,3,none⟩=some (.slice qa mm.procs.length qc)/\W.cell? ⟨b8,4,none⟩=some (.slice sa mm.body.length sc))/\W.cell? ⟨b10,0,none⟩=some (.string (bs mm.name))/\W.cell? ⟨b10,1,none⟩=some (.slice ia2 mm.imports.length ic2)/\W.cell? ⟨b10,2,none⟩=some (.slice ga2 mm.vars.length gc2)/\W.cell? ⟨b10,3,none⟩=some (.slice qa2 mm.procs.length qc2)/\W.cell? ⟨b10,4,none⟩=some (.slice sa2 mm.body.length sc2)):=fun W hW=>HS.out W (HB4.out.trans (hW.mono HB4.out.size))
     have HFA:Hid (∀ W,Below w4.heap.size w4 W->∀ x,Calls Tryz.prog 26 #[.slice aa ll ac,.string (bs x)] W fun e w'=>e=.returned (.int .i64 (fidx (srt (Tp.symsOf mm)) x))/\Below W.heap.size W w'):=fun W hW x=>by
      have h1:=HSA.out
      rw[HLQ.out]at h1 ⊢
      exact ul (h1.on hW) (by rw[<-HLQ.out];omega) x
     have HFB:Hid (∀ W,Below w4.heap.size w4 W->∀ x,Calls Tryz.prog 25 #[.slice ba ll bc,.string (bs x)] W fun e w'=>e=.returned (.int .i64 (fidx (srt (Tp.symsOf mm)) x))/\Below W.heap.size W w'):=fun W hW x=>by
      have h1:=HSB.out
      rw[HLQ.out]at h1 ⊢
      exact vD (h1.on hW) (by rw[<-HLQ.out];omega) x
     have HNS4:=zh ((HNS.out.on HB3.out).on HB4.out)
     have HBW4:Hid (Below wr.heap.size wr w4):=HB3.out.trans (HB4.out.mono HB3.out.size)
     clear HSA HSB HOA HOB HS HMB1 HMB3 HWM HNM HLS HB30 HNS hl8 hl10
     rw[<-HNQ.out]at HTC
     generalize bs (Tp.printS (srt (Tp.symsOf mm)))=PT at *
     generalize bs (Tp.needsS (srt (Tp.symsOf mm)) ns)=NT at *
     generalize (sumB SX SX.size:Int)=SM at *
     generalize Lib.compact (sK (Tp.usedR mm o))=UL at *
     generalize fidx (srt (Tp.symsOf mm))=FI at *
     go_upto_region 13 with fail
     go_cut [102] from 66 (fun v102 wq=>v102=.bool false/\Hid (Below w4.heap.size w4 wq))
     case first =>
      have HBC:Hid (Below w4.heap.size w4 w4.drew):=(Below.refl _ _).drew
      have hPT:(PT.toList == PT.toList)=true:=by simp
      have hNT:(NT.toList == NT.toList)=true:=by simp
      go_region_held3 (fun W=>(W.cell? ⟨b8,0,none⟩=some (.string (bs mm.name))/\W.cell? ⟨b8,1,none⟩=some (.slice ia mm.imports.length ic)/\W.cell? ⟨b8,2,none⟩=some (.slice ga mm.vars.length gc)/\W.cell? ⟨b8,3,none⟩=some (.slice qa mm.procs.length qc)/\W.cell? ⟨b8,4,none⟩=some (.slice sa mm.body.length sc))/\W.cell? ⟨b10,0,none⟩=some (.string (bs mm.name))/\W.cell? ⟨b10,1,none⟩=some (.slice ia2 mm.imports.length ic2)/\W.cell? ⟨b10,2,none⟩=some (.slice ga2 mm.vars.length gc2)/\W.cell? ⟨b10,3,none⟩=some (.slice qa2 mm.procs.length qc2)/\W.cell? ⟨b10,4,none⟩=some (.slice sa2 mm.body.length sc2)) (with_reducible (first|exact HS4.out _ HBC.out|fail "KEEP")) (first
       | (go_at_call 15;refine(HTC.out.same _ HBC.out).mono ?_;rintro e wn ⟨rfl,hb⟩;have HBC:Hid (Below w4.heap.size w4 wn):=HBC.out.trans (hb.mono HBC.out.size);clear hb)
       | (go_at_call 16;refine(HTC.out.prt _ HBC.out).mono ?_;rintro e wn ⟨rfl,hb⟩;have HBC:Hid (Below w4.heap.size w4 wn):=HBC.out.trans (hb.mono HBC.out.size);clear hb)
       | (go_at_call 17;refine(HTC.out.rprt _ HBC.out).mono ?_;rintro e wn ⟨rfl,hb⟩;have HBC:Hid (Below w4.heap.size w4 wn):=HBC.out.trans (hb.mono HBC.out.size);clear hb)
       | (have _g:=HU2;go_at_call 19;refine(HTC.out.us _ HBC.out).mono ?_;rintro e wn ⟨⟨a1,d1,rfl,hst⟩,hb⟩;have HV1:=zh hst;have HV2:=zh (HU2.out.on hb);have HBC:Hid (Below w4.heap.size w4 wn):=HBC.out.trans (hb.mono HBC.out.size);clear hb hst)
       | (have _g:=HU1;go_at_call 20;refine(HTC.out.rus _ HBC.out).mono ?_;rintro e wn ⟨⟨a2,d2,rfl,hst⟩,hb⟩;have HV2:=zh hst;have HV1:=zh (HU1.out.on hb);have HBC:Hid (Below w4.heap.size w4 wn):=HBC.out.trans (hb.mono HBC.out.size);clear hb hst)
       | (go_at_call 19;refine(HTC.out.us _ HBC.out).mono ?_;rintro e wn ⟨⟨a1,d1,rfl,hst⟩,hb⟩;have HU1:=zh hst;have HBC:Hid (Below w4.heap.size w4 wn):=HBC.out.trans (hb.mono HBC.out.size);clear hb hst)
       | (go_at_call 20;refine(HTC.out.rus _ HBC.out).mono ?_;rintro e wn ⟨⟨a2,d2,rfl,hst⟩,hb⟩;have HU2:=zh hst;have HBC:Hid (Below w4.heap.size w4 wn):=HBC.out.trans (hb.mono HBC.out.size);clear hb hst)
       | (go_at_call 18;refine(HTC.out.st _ _ _ _ _ HV1.out HV2.out).mono ?_;rintro e wn ⟨rfl,hb⟩;have HBC:Hid (Below w4.heap.size w4 wn):=HBC.out.trans (hb.mono HBC.out.size);clear hb HV1 HV2)
       | (go_at_call 21;refine(HTC.out.sum _).mono ?_;rintro e wn ⟨rfl,hb⟩;have HBC:Hid (Below w4.heap.size w4 wn):=HBC.out.trans (hb.mono HBC.out.size);clear hb)
       | (go_at_call 22;refine(HTC.out.rsum _).mono ?_;rintro e wn ⟨rfl,hb⟩;have HBC:Hid (Below w4.heap.size w4 wn):=HBC.out.trans (hb.mono HBC.out.size);clear hb)
       | (go_at_call 23;refine(HTC.out.nd _ HBC.out).mono ?_;rintro e wn ⟨rfl,hb⟩;have HBC:Hid (Below w4.heap.size w4 wn):=HBC.out.trans (hb.mono HBC.out.size);clear hb)
       | (go_at_call 24;refine(HTC.out.rnd _ HBC.out).mono ?_;rintro e wn ⟨rfl,hb⟩;have HBC:Hid (Below w4.heap.size w4 wn):=HBC.out.trans (hb.mono HBC.out.size);clear hb))
      all_goals
       go_wp2_with fail
       go_meet
       case rel=>exact⟨by first|rfl|simp,HBC⟩
     case rest =>
      obtain⟨rfl,HB5⟩:=hcut
      rename World=>w5
      clear HTC HS4
      go_wp2_with fail
      go_loopg [14] nn (fun k vi wq=>∃ i:Nat,i<=nn/\k=nn - i/\vi=.int .i64 (i:Int)/\Hid (Below w4.heap.size w4 wq))
      case atStart=>exact⟨0,by omega,by omega,rfl,HB5⟩
      case round =>
       obtain⟨j,hjd,hkj,rfl,HBr⟩:=hrel
       rename World=>wq
       clear HB5
       by_cases hjt:j<nn
       ·have hjt':(j:Int)<(nn:Int):=by omega
        have hja:j<ns.length:=by have:=HNQ.out;omega
        obtain⟨b,oo,rfl,hbl,hcell⟩:=HNS4.out.c j hja
        have kc:wq.cell? ⟨b,oo+j,none⟩=some (.string (bs ns[j])):=(HBr.out.cell (p:=⟨b,oo+j,none⟩) hbl).trans hcell
        have cA:∀ d os,Calls Tryz.prog 26 #[.slice aa ll ac,.string (bs ns[j])] (grow (redrawn wq d) os) fun e w''=>e=.returned (.int .i64 (FI ns[j]))/\∃ p:Regrown,w''=grow (redrawn wq p.d) p.os:=fun d os=>Calls.regrown_of (HFA.out _ (HBr.out.trans ((below_regrown wq d os).mono HBr.out.size)) ns[j])
        have cB:∀ d os,Calls Tryz.prog 25 #[.slice ba ll bc,.string (bs ns[j])] (grow (redrawn wq d) os) fun e w''=>e=.returned (.int .i64 (FI ns[j]))/\∃ p:Regrown,w''=grow (redrawn wq p.d) p.os:=fun d os=>Calls.regrown_of (HFB.out _ (HBr.out.trans ((below_regrown wq d os).mono HBr.out.size)) ns[j])
        have q0:=yu kc
        have hlq:∀ d os,b<(grow (redrawn wq d) os).heap.size:=fun d os=>zg (q0 d os)
        have HBQ:Hid (∀ d os,Below w4.heap.size w4 (grow (redrawn wq d) os)):=fun d os=>HBr.out.trans ((below_regrown wq d os).mono HBr.out.size)
        clear hcell hbl kc
        generalize FI ns[j]=fi at *
        generalize bs ns[j]=sx at *
        go_upto_region 18 with fail
        refine wp_region_quiet_below (by kernel_rfl) (by kernel_rfl) ?_
        repeat (quiet_step (first|(go_at_call 26;with_reducible exact cA _ _)|(go_at_call 25;with_reducible exact cB _ _)))
        refine wpQuiet_nil ?_
        intro _ hw'
        obtain⟨⟨dq,osq⟩,hw''⟩:=hw'
        subst hw''
        have HB6:=zh (HBQ.out dq osq)
        clear cA cB q0 hlq HBQ
        generalize grow (redrawn wq dq) osq=wz at *
        go_wp2_with fail
        go_roundg (nn - (j+1))
        case measure=>omega
        case rel=>exact⟨j+1,by omega,rfl,by go_num,HB6⟩
       ·have hjt':¬(j:Int)<(nn:Int):=by omega
        have HBE:Hid (Below wr.heap.size wr wq):=HBW4.out.trans (HBr.out.mono HBW4.out.size)
        go_wp2_with fail
        go_ret
        exact⟨rfl,HBE.out⟩
   ·have hpn':¬pn=-1:=hpn
    have HIS:=zh (lawIs_any HEV.out HHD3.out)
    have hd:(decide (en=0) && decide (pn=-1))=false:=by simp[hpn']
    have hd2:((en == 0) && (pn == -1))=false:=by simp[hpn']
    clear HND hpn HV1 HV3 HNIL HK8' HK10
    go_wp2_with fail
    refine HIS.out.mono ?_
    rintro e w4 ⟨rfl,hb4⟩
    have HBE:Hid (Below wr.heap.size wr w4):=HB3.out.trans (hb4.mono HB3.out.size)
    clear hb4 c0 c1 hl9 g0 g1 hgl
    go_wp2_with fail
    go_ret
    exact⟨rfl,HBE.out⟩
theorem xu (x y:ByteArray) (ns:List (List UInt8)) (na:Option Addr) (n nc:Nat) (hx:ns.length=n) (w:World) (hns:StrsAt w ns na) (hg:Gl w) (hmk:Mk w) (hlv:Lv w) (hhd:Hnd w):Calls Tryz.prog 4 #[.string x,.string y,.slice na n nc] w fun e w'=>e=.returned (.bool true)/\Below w.heap.size w w':=by
 subst hx
 by_cases h:1000<x.size\/40<y.size\/10<ns.length
 ·exact tells_long h
 ·have e:x=bs x.data.toList:=by cases x;simp[bs]
  have e2:y=bs y.data.toList:=by cases y;simp[bs]
  have h1:x.size=x.data.toList.length:=by cases x;simp[ByteArray.size]
  have h2:y.size=y.data.toList.length:=by cases y;simp[ByteArray.size]
  rw[e,e2]
  exact vS (by omega) (by omega) hns (by omega) hg hmk hlv hhd
end Go.Proofs.YthnoedjbhbkdeaaGreatDoor
