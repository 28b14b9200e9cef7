import Derived.Test.YthnoedjbhbkdeaaGreatDoorKXk
import Derived.Test.YthnoedjbhbkdeaaGreatDoorKMa
import Derived.Test.YthnoedjbhbkdeaaGreatDoorKHa
import Derived.Test.YthnoedjbhbkdeaaGreatDoorKPb
import Derived.Lib.ConvBytes
import Derived.Lib.QuietBelow
set_option maxRecDepth 100000
set_option maxHeartbeats 4000000
namespace Go.Proofs.YthnoedjbhbkdeaaGreatDoor
open Go.RowKit
open Tp (Bs Sy)
structure StrsAt (w:World) (ns:List (List UInt8)) (a:Option Addr):Prop where
 c:∀ i (h:i<ns.length),∃ b o,a=some ⟨b,o,none⟩/\b<w.heap.size/\w.cell? ⟨b,o+i,none⟩=some (.string (bs ns[i]))
theorem StrsAt.on {w w':World}{ns:List (List UInt8)}{a:Option Addr}(h:StrsAt w ns a) (k:Below w.heap.size w w'):StrsAt w' ns a :=
 ⟨fun i hi=>by obtain⟨b,o,h1,h2,h3⟩:=h.c i hi;exact⟨b,o,h1,Nat.lt_of_lt_of_le h2 k.size,(k.cell (p:=⟨b,o+i,none⟩) h2).trans h3⟩⟩
theorem VM.mbs {w:World}{B:Nat}{m:Tp.M}{mn:ByteArray}{ia ga qa sa:Option Addr}{il ic gl gc ql qc sl sc:Nat}(h:VM B m (.agg #[.string mn,.slice ia il ic,.slice ga gl gc,.slice qa ql qc,.slice sa sl sc]) w):mn=bs m.name/\il=m.imports.length/\gl=m.vars.length/\ql=m.procs.length/\sl=m.body.length/\MB w w.heap.size m ia ga qa sa ic gc qc sc:=by
 obtain⟨ia',ga',pa',ba',ic',gc',pc',bc',e,hmb⟩:=h.mb
 simp only [mcells,Value.agg.injEq,Array.mk.injEq,List.cons.injEq,Value.string.injEq,Value.slice.injEq,and_true]at e
 obtain⟨rfl,⟨rfl,rfl,rfl⟩,⟨rfl,rfl,rfl⟩,⟨rfl,rfl,rfl⟩,⟨rfl,rfl,rfl⟩⟩:=e
 exact⟨rfl,rfl,rfl,rfl,rfl,hmb⟩
theorem nd_of (x:List UInt8):(numOf x=(0,-1)/\Tp.WM (modOf x)/\∃ m,Tp.parse x=.ok m/\modOf x=m)\/(numOf x).2≠-1:=by
 unfold numOf modOf
 rcases hres:Tp.parse x with er|m
 ·exact Or.inr (by show ((er.2:Nat):Int)≠-1;omega)
 ·exact Or.inl ⟨rfl,(Tp.parse_wm hres).1,m,rfl,rfl⟩
theorem parse_w (w:World) (l:List UInt8) (hl:l.length<=100000) (hmk:Mk w) (hlv:Lv w):Calls Tryz.prog 7 #[.string (bs l)] w fun e w'=>∃(mn:ByteArray) (ia ga qa sa:Option Addr) (il ic gl gc ql qc sl sc:Nat) (ev:Value),e=.returned (.tuple #[.agg #[.string mn,.slice ia il ic,.slice ga gl gc,.slice qa ql qc,.slice sa sl sc],ev])/\ErrA w' ev (numOf l).1 (numOf l).2/\(numOf l=(0,-1)->ev=.nilIface)/\VM w.heap.size (modOf l) (.agg #[.string mn,.slice ia il ic,.slice ga gl gc,.slice qa ql qc,.slice sa sl sc]) w'/\Below w.heap.size w w':=by
 refine(parse_post w l hl hmk hlv).mono ?_
 rintro e w' ⟨hb,hp⟩
 unfold ParseP at hp
 rcases hres:Tp.parse l with er|m
 rotate_left
 ·rw[hres]at hp
  rw[show modOf l=m by unfold modOf;rw[hres],show numOf l=(0,-1) by unfold numOf;rw[hres]]
  obtain⟨v,rfl,hv⟩:=hp
  obtain⟨mn,ia,ga,qa,sa,il,ic,gl,gc,ql,qc,sl,sc,rfl⟩:=hv.cells
  exact⟨mn,ia,ga,qa,sa,il,ic,gl,gc,ql,qc,sl,sc,_,rfl,Or.inl ⟨rfl,rfl,rfl⟩,fun _=>rfl,hv,hb⟩
 ·rw[hres]at hp
  rw[show modOf l=⟨[],[],[],[],[]⟩ by unfold modOf;rw[hres],show numOf l=((er.1:Int),(er.2:Int)) by unfold numOf;rw[hres]]
  obtain⟨ab,rfl,_,h1,h2⟩:=hp
  exact⟨⟨#[]⟩,none,none,none,none,0,0,0,0,0,0,0,0,_,rfl,Or.inr ⟨ab,rfl,h1,h2⟩,fun q=>by have:=congrArg Prod.snd q;simp at this,vm_empty _ _,hb⟩
end Go.Proofs.YthnoedjbhbkdeaaGreatDoor
namespace Go.Proofs.YthnoedjbhbkdeaaGreatDoor
open Go.RowKit Go.Sort
open Tp (Sy)
theorem conv_buf {kk:Nat->Prop}{w:World}{B:Nat}{v:Value}{l:List UInt8}(h:Buf kk w B v l):(convert 88 9 v).run Tryz.prog w=.ok (.string (bs l)) w:=by
 rcases h.own.2 with⟨rfl,h2⟩|⟨g,cap,cur,rfl,h2,h3,h4,h5,h6,h7⟩
 ·have e:l=[]:=List.eq_nil_of_length_eq_zero h2
  subst e
  rw[run_convert_bytes_string w 88 9 5 none 0 0 Tryz.underlying88 Tryz.underlying5 Tryz.underlying9]
  rfl
 ·refine run_convert_bytes_back w 88 9 5 ⟨g,0,none⟩ cap l Tryz.underlying88 Tryz.underlying5 Tryz.underlying9 (fun j hj=>?_)
  have:=h.own.cells (g:=g) rfl j (.int .u8 (l[j].toNat:Int)) (by rw[u8s,List.getElem?_map,List.getElem?_eq_getElem hj];rfl)
  simpa using this
theorem xi (s:Sy) (h:s.2.1<100/\s.2.2<100/\-1<=s.2.2/\s.1.length<=100):(Tp.lineOf s).length<=200:=by
 have hd:∀ n,n<100->(Tp.dec n).length<=2:=by
  intro n hn
  rw[Tp.dec]
  split
  ·simp
  ·rw[Tp.dec_d (show n / 10<10 by omega)];simp
 unfold Tp.lineOf
 split
 ·have:=hd s.2.2.toNat (by omega)
  simp[Tp.wordsL,Tp.wProc];omega
 ·split
  ·have:=hd s.2.1 h.1
   simp[Tp.wordsL,Tp.wArr];omega
  ·simp[Tp.wordsL,Tp.wInt];omega
theorem need_at (l:List Sy) (n:List UInt8):(∃(k:Nat) (hk:k<l.length),fidx l n=(k:Int)/\Tp.needS l n=Tp.lineOf l[k])\/fidx l n=-1/\Tp.needS l n=Tp.wordsL [110,111,110,101] [n]:=by
 unfold fidx Tp.needS Tp.findS
 cases h:l.findIdx? (fun s=>s.1 == n) with
 | some k =>
  left
  have h':=h
  rw[List.findIdx?_eq_some_iff_getElem]at h'
  obtain⟨hk,h1,h2⟩:=h'
  refine⟨k,hk,rfl,?_⟩
  have:l.find? (fun s=>s.1 == n)=some l[k]:=by
   rw[List.find?_eq_some_iff_getElem]
   exact⟨by simpa using h1,k,hk,rfl,fun j hj=>by simpa using h2 j hj⟩
  rw[this]
 | none =>
  right
  have:l.find? (fun s=>s.1 == n)=none:=by
   rw[List.find?_eq_none]
   rw[List.findIdx?_eq_none_iff]at h
   intro x hx
   simpa using h x hx
  rw[this]
  exact⟨rfl,rfl⟩
theorem need_len (l:List Sy) (n:List UInt8) (h:AllSmall l) (hn:n.length<=100):(Tp.needS l n).length<=200:=by
 rcases need_at l n with⟨k,hk,_,e⟩|⟨_,e⟩
 ·rw[e];exact xi _ (h _ (List.getElem_mem hk))
 ·rw[e];simp[Tp.wordsL];omega
theorem vr (l:List Sy) (ns:List (List UInt8)) (h:AllSmall l) (hn:∀ n∈ns,n.length<=100):(Tp.needsS l ns).length<=200 * ns.length:=by
 induction ns with
 | nil=>simp[Tp.needsS]
 | cons n ns ih =>
  have h1:=need_len l n h (hn n (by simp))
  have h2:=ih (fun x hx=>hn x (by simp[hx]))
  simp only [Tp.needsS,List.map_cons,List.flatten_cons,List.length_append,List.length_cons]at h2 ⊢
  omega
theorem needs_post {w:World}{B:Nat}{v:Value}{l:List Sy}(h:SL w B v l) (hs:AllSmall l) (hn:l.length<=1000) {ns:List (List UInt8)}{na:Option Addr}{nc:Nat}(hns:StrsAt w ns na) (hnl:∀ n∈ns,n.length<=100) (hnn:ns.length<=9000) :
  Calls Tryz.prog 23 #[v,.slice na ns.length nc] w fun e w'=>e=.returned (.string (bs (Tp.needsS l ns)))/\Below w.heap.size w w':=by
 obtain⟨a,c,rfl⟩:=h.len
 have hnn':(ns.length:Int)<=9000:=by omega
 have hln':(l.length:Int)<=1000:=by omega
 have HSL:=zh h
 have HS:=zh hs
 have HNS:=zh hns
 have HNL:=zh hnl
 have HF:Hid (∀ W,Below w.heap.size w W->∀ n,Calls Tryz.prog 25 #[.slice a l.length c,.string (bs n)] W fun e w'=>e=.returned (.int .i64 (fidx l n))/\Below W.heap.size W w'):=fun W hW n=>vD (h.on hW) hn n
 obtain⟨nn,hnq⟩:∃ nn,nn=ns.length:=⟨_,rfl⟩
 rw[<-hnq]at hnn' ⊢
 have HNQ:=zh hnq
 obtain⟨ln,hlq⟩:∃ ln,ln=l.length:=⟨_,rfl⟩
 rw[<-hlq]at hln' HF ⊢
 have HLQ:=zh hlq
 clear h hs hns hnl hnq hlq
 go_enter Tryz.func23,Tryz.ntmps23
 go_wp2_with fail
 go_loopg [5,11] nn (fun k v vi wr=>∃ i:Nat,i<=nn/\k=nn - i/\vi=.int .i64 (i:Int)/\Hid (Buf (fun _=>False) wr w.heap.size v (Tp.needsS l (ns.take i)))/\Hid (Bw (fun _=>False) w.heap.size w wr))
 case atStart=>exact⟨0,by omega,by omega,rfl,Buf.nil _ _ zn (fun k hk=>hk.elim),Bw.refl _ _⟩
 case round =>
  obtain⟨i,hid,hk,rfl,HB,HW⟩:=hrel
  by_cases hlt:i<nn
  ·have hlt':(i:Int)<(nn:Int):=by omega
   have hia:i<ns.length:=by have:=HNQ.out;omega
   obtain⟨b,o,rfl,hbl,hcell⟩:=HNS.out.c i hia
   have kc:wr.cell? ⟨b,o+i,none⟩=some (.string (bs ns[i])):=(HW.out.cell (p:=⟨b,o+i,none⟩) hbl).trans hcell
   have hlgr:b<wr.heap.size:=by have:=HW.out.size;omega
   have e1:Tp.needsS l (ns.take (i+1))=Tp.needsS l (ns.take i)++Tp.needS l ns[i]:=by
    unfold Tp.needsS
    rw[List.take_succ_eq_append_getElem hia,List.map_append,List.flatten_append];simp
   have hpl:=vr l (ns.take (i+1)) HS.out (fun x hx=>HNL.out x (List.mem_of_mem_take hx))
   have hlen:(Tp.needsS l (ns.take i)++Tp.needS l ns[i]).length<=1000000000:=by rw[<-e1];simp only [List.length_take]at hpl;omega
   obtain⟨m,hm⟩:∃ m,m=Tp.needsS l (ns.take i):=⟨_,rfl⟩
   obtain⟨m2,hm2⟩:∃ m2,m2=Tp.needsS l (ns.take (i+1)):=⟨_,rfl⟩
   have hbuf:=HB.out
   rw[<-hm]at hbuf hlen e1
   rw[<-hm2]at e1
   obtain⟨a1,c1,hv⟩:=zp hbuf.1
   subst hv
   have HFI:=zh (HF.out wr HW.out.toBelow ns[i])
   have HBF:=zh hbuf
   have HM2:=zh hm2
   have HE1:=zh e1
   have HLN:=zh hlen
   clear hbuf HB hcell hpl hm hm2 e1 hlen
   generalize ns[i]=nm at *
   go_wp2_with fail
   refine HFI.out.mono ?_
   rintro e w3 ⟨rfl,h3⟩
   have HB3:=zh (HBF.out.below h3)
   have HW3:=zh (HW.out.trans (Bw.of h3 HBF.out.2))
   clear h3 kc
   rcases need_at l nm with⟨k,hkl,hfi,hne⟩|⟨hfi,hne⟩
   ·obtain⟨g,hag,_,hgl,hc3⟩:=HSL.out.cell k hkl
    subst hag
    have hc:=fun j (hj:j<3)=>(HW3.out.cell (p:=⟨g,k * 3+j,none⟩) hgl).trans (hc3 j hj)
    have kc0:w3.cell? ⟨g,k * 3,none⟩=some (.string (bs l[k].1)):=hc 0 (by omega)
    have kc1:w3.cell? ⟨g,k * 3+1,none⟩=some (.int .i64 (l[k].2.1:Int)):=hc 1 (by omega)
    have kc2:w3.cell? ⟨g,k * 3+2,none⟩=some (.int .i64 l[k].2.2):=hc 2 (by omega)
    have hlg3:g<w3.heap.size:=by have:=HW3.out.size;omega
    have hsm:=HS.out l[k] (List.getElem_mem hkl)
    have hkl':(k:Int)<(ln:Int):=by have:=HLQ.out;omega
    have hcall:=jG l[k] hsm.1 hsm.2.1 hsm.2.2.1 HB3.out (by rw[<-hne];exact HLN.out)
    rw[<-hne,<-HE1.out]at hcall
    have HC:Hid (Calls Tryz.prog 59 #[.slice a1 m.length c1,.agg #[.string (bs l[k].1),.int .i64 (l[k].2.1:Int),.int .i64 l[k].2.2]] w3 (Wrote (fun _=>False) w.heap.size w3 m2)):=hcall
    clear hcall hne hc hc3 hsm
    generalize l[k].1=x0 at *
    generalize l[k].2.1=x1 at *
    generalize l[k].2.2=x2 at *
    rw[hfi]
    go_wp2_with fail
    refine HC.out.mono ?_
    rintro e w4 ⟨v4,rfl,hb4,hw4⟩
    have HB4:Hid (Buf (fun _=>False) w4 w.heap.size v4 (Tp.needsS l (ns.take (i+1)))):=by rw[<-HM2.out];exact hb4
    have HW4:=zh (HW3.out.trans hw4)
    clear hb4 hw4
    go_wp2_with fail
    go_roundg (nn - (i+1))
    case measure=>omega
    case rel=>exact⟨i+1,by omega,rfl,by go_num,HB4,HW4⟩
   ·have hcall:=y9 (HB3.out.below ((Below.refl _ _).alloc zn (.cells #[.string (bs nm)] 9))) [110,111,110,101] [nm] w3.heap.size 1 (zq _ _) (by simp) (by rw[<-hne];exact HLN.out)
    rw[<-hne,<-HE1.out]at hcall
    have HC:Hid (Calls Tryz.prog 69 #[.slice a1 m.length c1,.string ⟨#[110,111,110,101]⟩,.slice (some ⟨w3.heap.size,0,none⟩) 1 1] (w3.alloc (.cells #[.string (bs nm)] 9)) (Wrote (fun _=>False) w.heap.size (w3.alloc (.cells #[.string (bs nm)] 9)) m2)):=hcall
    have HWA:=zh (HW3.out.trans (Bw.of ((Below.refl _ _).alloc zn (.cells #[.string (bs nm)] 9)) HB3.out.2))
    clear hcall hne
    rw[hfi]
    go_wp2_with fail
    refine HC.out.mono ?_
    rintro e w4 ⟨v4,rfl,hb4,hw4⟩
    have HB4:Hid (Buf (fun _=>False) w4 w.heap.size v4 (Tp.needsS l (ns.take (i+1)))):=by rw[<-HM2.out];exact hb4
    have HW4:=zh (HWA.out.trans hw4)
    clear hb4 hw4
    go_wp2_with fail
    go_roundg (nn - (i+1))
    case measure=>omega
    case rel=>exact⟨i+1,by omega,rfl,by go_num,HB4,HW4⟩
  ·have hlt':¬(i:Int)<(nn:Int):=by omega
   have e:i=ns.length:=by have:=HNQ.out;omega
   have hbuf:=HB.out
   rw[e,List.take_length]at hbuf
   have hcv:=conv_buf hbuf
   obtain⟨a1,c1,hv⟩:=zp hbuf.1
   subst hv
   have HBB:=zh HW.out.toBelow
   clear hbuf HB HW
   go_wp2_with fail
   go_ret
   exact⟨rfl,HBB.out⟩
theorem jV (l:List Sy) (h:AllSmall l):(Tp.printS l).length<=200 * l.length:=by
 induction l with
 | nil=>simp[Tp.printS]
 | cons s l ih =>
  have h1:=xi s (h s (by simp))
  have h2:=ih (fun x hx=>h x (by simp[hx]))
  simp only [Tp.printS,List.map_cons,List.flatten_cons,List.length_append,List.length_cons]at h2 ⊢
  omega
theorem xv {w:World}{B:Nat}{v:Value}{l:List Sy}(h:SL w B v l) (hs:AllSmall l) (hn:l.length<=1000) :
  Calls Tryz.prog 16 #[v] w fun e w'=>e=.returned (.string (bs (Tp.printS l)))/\Below w.heap.size w w':=by
 obtain⟨a,c,rfl⟩:=h.len
 have hn':(l.length:Int)<=1000:=by omega
 have HSL:=zh h
 have HS:=zh hs
 obtain⟨n,hnl⟩:∃ n,n=l.length:=⟨_,rfl⟩
 rw[<-hnl]at hn' ⊢
 have HN:=zh hnl
 clear h hs hnl
 go_enter Tryz.func16,Tryz.ntmps16
 go_wp2_with fail
 go_loopg [3,8] n (fun k v vi wr=>∃ i:Nat,i<=n/\k=n - i/\vi=.int .i64 (i:Int)/\Hid (Buf (fun _=>False) wr w.heap.size v (Tp.printS (l.take i)))/\Hid (Bw (fun _=>False) w.heap.size w wr))
 case atStart=>exact⟨0,by omega,by omega,rfl,Buf.nil _ _ zn (fun k hk=>hk.elim),Bw.refl _ _⟩
 case round =>
  obtain⟨i,hid,hk,rfl,HB,HW⟩:=hrel
  by_cases hlt:i<n
  ·have hlt':(i:Int)<(n:Int):=by omega
   have hia:i<l.length:=by have:=HN.out;omega
   have hsl:=HSL.out
   obtain⟨g,rfl,_,hgl,hcell⟩:=hsl.cell i hia
   have hc:=fun j (hj:j<3)=>(HW.out.cell (p:=⟨g,i * 3+j,none⟩) hgl).trans (hcell j hj)
   have kc0:wr.cell? ⟨g,i * 3,none⟩=some (.string (bs l[i].1)):=hc 0 (by omega)
   have kc1:wr.cell? ⟨g,i * 3+1,none⟩=some (.int .i64 (l[i].2.1:Int)):=hc 1 (by omega)
   have kc2:wr.cell? ⟨g,i * 3+2,none⟩=some (.int .i64 l[i].2.2):=hc 2 (by omega)
   have hlgr:g<wr.heap.size:=by have:=HW.out.size;omega
   have hsm:=HS.out l[i] (List.getElem_mem hia)
   have e1:Tp.printS (l.take (i+1))=Tp.printS (l.take i)++Tp.lineOf l[i]:=by
    unfold Tp.printS
    rw[List.take_succ_eq_append_getElem hia,List.map_append,List.flatten_append];simp
   have hpl:=jV (l.take (i+1)) (fun x hx=>HS.out x (List.mem_of_mem_take hx))
   have hlen:(Tp.printS (l.take i)++Tp.lineOf l[i]).length<=1000000000:=by rw[<-e1];simp only [List.length_take]at hpl;omega
   obtain⟨m,hm⟩:∃ m,m=Tp.printS (l.take i):=⟨_,rfl⟩
   have hbuf:=HB.out
   rw[<-hm]at hbuf hlen
   obtain⟨a1,c1,hv⟩:=zp hbuf.1
   subst hv
   have hcall:=fun ob=>jG l[i] hsm.1 hsm.2.1 hsm.2.2.1 (hbuf.below ((Below.refl _ _).alloc zn ob)) hlen
   rw[hm,<-e1]at hcall
   have HC:Hid (∀ ob,Calls Tryz.prog 59 #[.slice a1 m.length c1,.agg #[.string (bs l[i].1),.int .i64 (l[i].2.1:Int),.int .i64 l[i].2.2]] (wr.alloc ob) (Wrote (fun _=>False) w.heap.size (wr.alloc ob) (Tp.printS (l.take (i+1))))):=by rw[hm];exact hcall
   have HAL:Hid (∀ ob,Bw (fun _=>False) w.heap.size w (wr.alloc ob)):=fun ob=>HW.out.trans (Bw.of (zb _ _) hbuf.2)
   generalize l[i].1=x0 at *
   generalize l[i].2.1=x1 at *
   generalize l[i].2.2=x2 at *
   clear hcall hbuf HB hc hcell hsl hsm e1 hpl hlen hm
   go_wp2_with fail
   refine(HC.out _).mono ?_
   rintro e w3 ⟨v3,rfl,hbuf3,hbel3⟩
   have HB3:=zh hbuf3
   have HW3:=zh ((HAL.out _).trans hbel3)
   clear hbuf3 hbel3
   go_wp2_with fail
   go_roundg (n - (i+1))
   case measure=>omega
   case rel=>exact⟨i+1,by have:=HN.out;omega,rfl,by go_num,HB3,HW3⟩
  ·have hlt':¬(i:Int)<(n:Int):=by omega
   have e:i=l.length:=by have:=HN.out;omega
   have hbuf:=HB.out
   rw[e,List.take_length]at hbuf
   have hcv:=conv_buf hbuf
   obtain⟨a1,c1,hv⟩:=zp hbuf.1
   subst hv
   have HBB:=zh HW.out.toBelow
   clear hbuf HB HW
   go_wp2_with fail
   go_ret
   exact⟨rfl,HBB.out⟩
theorem xk (a b:List UInt8):bs (a++b)=bs a++bs b:=by simp[bs,ByteArray.ext_iff]
theorem yu {w:World}{b i:Nat}{v:Value}(h:w.cell? ⟨b,i,none⟩=some v) (d:Nat) (os:Array Obj):(grow (redrawn w d) os).cell? ⟨b,i,none⟩=some v:=((below_regrown w d os).cell (p:=⟨b,i,none⟩) (zg h)).trans h
theorem vI (n:Nat) (h:n<100):(Tp.dec n).length<=100:=by have:=Tp.dec_len 1 n (by omega);omega
theorem kE (s:Sy) (h1:s.2.1<100) (h2:s.2.2<100) (h3:-1<=s.2.2) (h4:s.1.length<=100) (w:World) :
  Calls Tryz.prog 60 #[.agg #[.string (bs s.1),.int .i64 (s.2.1:Int),.int .i64 s.2.2]] w fun e w'=>e=.returned (.string (bs (Tp.lineOf s)))/\Below w.heap.size w w':=by
 obtain⟨nm,len,args⟩:=s
 simp only at h1 h2 h3 h4 ⊢
 unfold Tp.lineOf
 simp only
 obtain⟨W,hW⟩:∃ W,W=w.alloc (.cells #[.string (bs nm),.int .i64 (len:Int),.int .i64 args] 99):=⟨_,rfl⟩
 obtain⟨b,hb⟩:∃ b,b=w.heap.size:=⟨_,rfl⟩
 have hblk:W.heap[b]?=some (.cells #[.string (bs nm),.int .i64 (len:Int),.int .i64 args] 99 (0,0)):=by rw[hW,hb];exact zq _ _
 have HBW:Hid (Below w.heap.size w W):=by rw[hW];exact zb _ _
 obtain⟨k0,k1,k2⟩:=yD hblk
 have hlb:=zc hblk
 have q0:=yu k0
 have q1:=yu k1
 have q2:=yu k2
 have hlq:∀ d os,b<(grow (redrawn W d) os).heap.size:=fun d os=>Nat.lt_of_lt_of_le hlb (below_regrown W d os).size
 have HBQ:Hid (∀ d os,Below w.heap.size w (grow (redrawn W d) os)):=fun d os=>HBW.out.trans ((below_regrown W d os).mono HBW.out.size)
 clear hblk
 by_cases ha:0<=args
 ·rw[if_pos ha]
  obtain⟨an,rfl⟩:∃ an:Nat,args=an:=⟨args.toNat,by omega⟩
  have e:((an:Int)).toNat=an:=by simp
  rw[e]
  have cI:∀ d os,Calls Tryz.prog 50 #[.int .i64 (an:Int)] (grow (redrawn W d) os) fun e w''=>e=.returned (.string (bs (Tp.dec an)))/\∃ p:Regrown,w''=grow (redrawn W p.d) p.os:=fun d os=>Calls.regrown_of ((kJ _ an (by omega)).mono fun e w' q=>⟨q.1,by rw[q.2];exact Below.refl _ _⟩)
  have hdl:(Tp.dec an).length<=100:=vI an (by omega)
  have ht:bs (Tp.wordsL Tp.wProc [nm,Tp.dec an])=(((⟨#[112,114,111,99,32]⟩:ByteArray)++bs nm)++⟨#[32]⟩)++bs (Tp.dec an)++⟨#[10]⟩:=by
   have:Tp.wordsL Tp.wProc [nm,Tp.dec an]=[112,114,111,99,32]++nm++[32]++Tp.dec an++[10]:=by simp[Tp.wordsL,Tp.wProc]
   rw[this]
   simp only [xk]
   rfl
  rw[ht]
  generalize Tp.dec an=ds at *
  have z1:=yh nm
  have z2:=yh ds
  have p1:¬9223372036854775807<5+(bs nm).size:=by omega
  have p2:¬9223372036854775807<((5+(bs nm).size)+1):=by omega
  have p3:¬9223372036854775807<((5+(bs nm).size)+1)+(bs ds).size:=by omega
  have p4:¬9223372036854775807<(((5+(bs nm).size)+1)+(bs ds).size)+1:=by omega
  clear z1 z2
  generalize bs nm=SN at *
  generalize bs ds=SD at *
  clear ht
  go_enter Tryz.func60,Tryz.ntmps60
  go_upto_region 1 with fail
  rw[<-hW,<-hb]
  clear hW hb
  go_upto_region 2 with fail
  refine wp_region_quiet_below (by kernel_rfl) (by kernel_rfl) ?_
  repeat (quiet_step ((go_at_call 50;with_reducible exact cI _ _)))
  refine wpQuiet_nil ?_
  intro _ hw'
  obtain⟨⟨dq,osq⟩,hw''⟩:=hw'
  subst hw''
  go_wp2_with fail
  go_ret
  exact⟨rfl,HBQ.out dq osq⟩
 ·rw[if_neg ha]
  have ha':args<0:=by omega
  by_cases hl:0<len
  ·rw[if_pos hl]
   have hl':(0:Int)<(len:Int):=by omega
   have cI:∀ d os,Calls Tryz.prog 50 #[.int .i64 (len:Int)] (grow (redrawn W d) os) fun e w''=>e=.returned (.string (bs (Tp.dec len)))/\∃ p:Regrown,w''=grow (redrawn W p.d) p.os:=fun d os=>Calls.regrown_of ((kJ _ len (by omega)).mono fun e w' q=>⟨q.1,by rw[q.2];exact Below.refl _ _⟩)
   have hdl:(Tp.dec len).length<=100:=vI len (by omega)
   have ht:bs (Tp.wordsL Tp.wArr [nm,Tp.dec len])=(((⟨#[97,114,114,97,121,32]⟩:ByteArray)++bs nm)++⟨#[32]⟩)++bs (Tp.dec len)++⟨#[10]⟩:=by
    have:Tp.wordsL Tp.wArr [nm,Tp.dec len]=[97,114,114,97,121,32]++nm++[32]++Tp.dec len++[10]:=by simp[Tp.wordsL,Tp.wArr]
    rw[this]
    simp only [xk]
    rfl
   rw[ht]
   generalize Tp.dec len=ds at *
   have z1:=yh nm
   have z2:=yh ds
   have p1:¬9223372036854775807<6+(bs nm).size:=by omega
   have p2:¬9223372036854775807<((6+(bs nm).size)+1):=by omega
   have p3:¬9223372036854775807<((6+(bs nm).size)+1)+(bs ds).size:=by omega
   have p4:¬9223372036854775807<(((6+(bs nm).size)+1)+(bs ds).size)+1:=by omega
   clear z1 z2
   generalize bs nm=SN at *
   generalize bs ds=SD at *
   clear ht
   go_enter Tryz.func60,Tryz.ntmps60
   go_upto_region 1 with fail
   rw[<-hW,<-hb]
   clear hW hb
   go_upto_region 4 with fail
   refine wp_region_quiet_below (by kernel_rfl) (by kernel_rfl) ?_
   repeat (quiet_step ((go_at_call 50;with_reducible exact cI _ _)))
   refine wpQuiet_nil ?_
   intro _ hw'
   obtain⟨⟨dq,osq⟩,hw''⟩:=hw'
   subst hw''
   go_wp2_with fail
   go_ret
   exact⟨rfl,HBQ.out dq osq⟩
  ·rw[if_neg hl]
   have hl':¬(0:Int)<(len:Int):=by omega
   have ht:bs (Tp.wordsL Tp.wInt [nm])=((⟨#[105,110,116,32]⟩:ByteArray)++bs nm)++⟨#[10]⟩:=by
    have:Tp.wordsL Tp.wInt [nm]=[105,110,116,32]++nm++[10]:=by simp[Tp.wordsL,Tp.wInt]
    rw[this]
    simp only [xk]
    rfl
   rw[ht]
   have z1:=yh nm
   have p1:¬9223372036854775807<4+(bs nm).size:=by omega
   have p2:¬9223372036854775807<(4+(bs nm).size)+1:=by omega
   clear z1
   generalize bs nm=SN at *
   clear ht
   go_enter Tryz.func60,Tryz.ntmps60
   go_upto_region 1 with fail
   rw[<-hW,<-hb]
   clear hW hb
   go_wp2_with fail
   go_ret
   exact⟨rfl,HBW.out⟩
theorem jJ {w:World}{B:Nat}{v:Value}{l:List Sy}(h:SL w B v l) (hs:AllSmall l) (hn:l.length<=1000) :
  Calls Tryz.prog 17 #[v] w fun e w'=>e=.returned (.string (bs (Tp.printS l)))/\Below w.heap.size w w':=by
 obtain⟨a,c,rfl⟩:=h.len
 have hn':(l.length:Int)<=1000:=by omega
 have HSL:=zh h
 have HS:=zh hs
 obtain⟨n,hnl⟩:∃ n,n=l.length:=⟨_,rfl⟩
 rw[<-hnl]at hn' ⊢
 have HN:=zh hnl
 clear h hs hnl
 go_enter Tryz.func17,Tryz.ntmps17
 go_wp2_with fail
 go_loopg [3,8] n (fun k v vi wr=>∃ i:Nat,i<=n/\k=n - i/\v=.string (bs (Tp.printS (l.take i)))/\vi=.int .i64 (i:Int)/\Hid (Below w.heap.size w wr))
 case atStart=>exact⟨0,by omega,by omega,by simp[Tp.printS,bs],rfl,Below.refl _ _⟩
 case round =>
  obtain⟨i,hid,hk,rfl,rfl,HW⟩:=hrel
  by_cases hlt:i<n
  ·have hlt':(i:Int)<(n:Int):=by omega
   have hia:i<l.length:=by have:=HN.out;omega
   obtain⟨g,rfl,_,hgl,hcell⟩:=HSL.out.cell i hia
   have hc:=fun j (hj:j<3)=>(HW.out.cell (p:=⟨g,i * 3+j,none⟩) hgl).trans (hcell j hj)
   have kc0:wr.cell? ⟨g,i * 3,none⟩=some (.string (bs l[i].1)):=hc 0 (by omega)
   have kc1:wr.cell? ⟨g,i * 3+1,none⟩=some (.int .i64 (l[i].2.1:Int)):=hc 1 (by omega)
   have kc2:wr.cell? ⟨g,i * 3+2,none⟩=some (.int .i64 l[i].2.2):=hc 2 (by omega)
   have hlgr:g<wr.heap.size:=Nat.lt_of_lt_of_le hgl HW.out.size
   have hsm:=HS.out l[i] (List.getElem_mem hia)
   have HE1:Hid (Tp.printS (l.take (i+1))=Tp.printS (l.take i)++Tp.lineOf l[i]):=by
    show _=_
    unfold Tp.printS
    rw[List.take_succ_eq_append_getElem hia,List.map_append,List.flatten_append];simp
   have hpl:=jV (l.take (i+1)) (fun x hx=>HS.out x (List.mem_of_mem_take hx))
   rw[HE1.out,List.length_append]at hpl
   have z1:=yh (Tp.printS (l.take i))
   have z2:=yh (Tp.lineOf l[i])
   have p1:¬9223372036854775807<(bs (Tp.printS (l.take i))).size+(bs (Tp.lineOf l[i])).size:=by simp only [List.length_take]at hpl;omega
   have HC:Hid (∀ ob,Calls Tryz.prog 60 #[.agg #[.string (bs l[i].1),.int .i64 (l[i].2.1:Int),.int .i64 l[i].2.2]] (wr.alloc ob) fun e w'=>e=.returned (.string (bs (Tp.lineOf l[i])))/\Below (wr.alloc ob).heap.size (wr.alloc ob) w'):=fun ob=>kE l[i] hsm.1 hsm.2.1 hsm.2.2.1 hsm.2.2.2 _
   have HAL:Hid (∀ ob,Below w.heap.size w (wr.alloc ob)):=fun ob=>HW.out.alloc HW.out.size ob
   have HF:Hid (bs (Tp.printS (l.take i))++bs (Tp.lineOf l[i])=bs (Tp.printS (l.take (i+1)))):=by show _=_;rw[HE1.out,xk]
   clear hc hcell hsm hpl z1 z2 HE1
   generalize bs (Tp.printS (l.take i))=SA at *
   generalize bs (Tp.lineOf l[i])=SL at *
   generalize l[i].1=x0 at *
   generalize l[i].2.1=x1 at *
   generalize l[i].2.2=x2 at *
   go_wp2_with fail
   refine(HC.out _).mono ?_
   rintro e w3 ⟨rfl,hb3⟩
   have HW3:Hid (Below w.heap.size w w3):=(HAL.out _).trans (hb3.mono (HAL.out _).size)
   clear hb3
   go_wp2_with fail
   go_roundg (n - (i+1))
   case measure=>omega
   case rel=>exact⟨i+1,by omega,rfl,by rw[HF.out],by go_num,HW3⟩
  ·have hlt':¬(i:Int)<(n:Int):=by omega
   have e:i=l.length:=by have:=HN.out;omega
   have HT:Hid (bs (Tp.printS (l.take i))=bs (Tp.printS l)):=by show _=_;rw[e,List.take_length]
   clear e
   go_wp2_with fail
   go_ret
   exact⟨congrArg (fun z=>Ending.returned (Value.string z)) HT.out,HW.out⟩
theorem uo {w:World}{v:Value}{l:List Sy}(h:SL w 0 v l) (hs:AllSmall l) (hn:l.length<=1000) {ns:List (List UInt8)}{na:Option Addr}{nc:Nat}(hns:StrsAt w ns na) (hnl:∀ n∈ns,n.length<=100) (hnn:ns.length<=9000) :
  Calls Tryz.prog 24 #[v,.slice na ns.length nc] w fun e w'=>e=.returned (.string (bs (Tp.needsS l ns)))/\Below w.heap.size w w':=by
 obtain⟨a,c,rfl⟩:=h.len
 have hnn':(ns.length:Int)<=9000:=by omega
 have hln':(l.length:Int)<=1000:=by omega
 have HSL:=zh h
 have HS:=zh hs
 have HNS:=zh hns
 have HNL:=zh hnl
 have HF:Hid (∀ W,Below w.heap.size w W->∀ n,Calls Tryz.prog 26 #[.slice a l.length c,.string (bs n)] W fun e w'=>∃ k,e=.returned (.int .i64 k)/\FndP l n k/\Below W.heap.size W w'):=fun W hW n=>rfind_post (h.on hW) (by omega) n
 obtain⟨nn,hnq⟩:∃ nn,nn=ns.length:=⟨_,rfl⟩
 rw[<-hnq]at hnn' ⊢
 have HNQ:=zh hnq
 obtain⟨ln,hlq⟩:∃ ln,ln=l.length:=⟨_,rfl⟩
 rw[<-hlq]at hln' HF ⊢
 have HLQ:=zh hlq
 clear h hs hns hnl hnq hlq
 go_enter Tryz.func24,Tryz.ntmps24
 go_wp2_with fail
 go_loopg [5,11] nn (fun k v vi wr=>∃ i:Nat,i<=nn/\k=nn - i/\v=.string (bs (Tp.needsS l (ns.take i)))/\vi=.int .i64 (i:Int)/\Hid (Below w.heap.size w wr))
 case atStart=>exact⟨0,by omega,by omega,by simp[Tp.needsS,bs],rfl,Below.refl _ _⟩
 case round =>
  obtain⟨i,hid,hk,rfl,rfl,HW⟩:=hrel
  by_cases hlt:i<nn
  ·have hlt':(i:Int)<(nn:Int):=by omega
   have hia:i<ns.length:=by have:=HNQ.out;omega
   obtain⟨b,o,rfl,hbl,hcell⟩:=HNS.out.c i hia
   have kc:wr.cell? ⟨b,o+i,none⟩=some (.string (bs ns[i])):=(HW.out.cell (p:=⟨b,o+i,none⟩) hbl).trans hcell
   have hlgr:b<wr.heap.size:=Nat.lt_of_lt_of_le hbl HW.out.size
   have HE1:Hid (Tp.needsS l (ns.take (i+1))=Tp.needsS l (ns.take i)++Tp.needS l ns[i]):=by
    show _=_
    unfold Tp.needsS
    rw[List.take_succ_eq_append_getElem hia,List.map_append,List.flatten_append];simp
   have hpl:=vr l (ns.take (i+1)) HS.out (fun x hx=>HNL.out x (List.mem_of_mem_take hx))
   rw[HE1.out,List.length_append]at hpl
   have z1:=yh (Tp.needsS l (ns.take i))
   have z2:=yh (Tp.needS l ns[i])
   have hnl:=HNL.out _ (List.getElem_mem hia)
   have hp1:(bs (Tp.needsS l (ns.take i))).size+(bs (Tp.needS l ns[i])).size<=1000000000:=by simp only [List.length_take]at hpl;omega
   have HFI:=zh (HF.out wr HW.out ns[i])
   have HFN:Hid (bs (Tp.needsS l (ns.take i))++bs (Tp.needS l ns[i])=bs (Tp.needsS l (ns.take (i+1)))):=by show _=_;rw[HE1.out,xk]
   clear hcell hpl z1 z2 HE1
   generalize ns[i]=nm at *
   go_wp2_with fail
   refine HFI.out.mono ?_
   rintro e w3 ⟨k,rfl,hfn,h3⟩
   have HW3:Hid (Below w.heap.size w w3):=HW.out.trans (h3.mono HW.out.size)
   clear h3 kc hlgr
   rcases hfn with⟨rfl,hnone⟩|⟨k,hkl,rfl,hsome⟩
   ·have hne:bs (Tp.needS l nm)=((⟨#[110,111,110,101,32]⟩:ByteArray)++bs nm)++⟨#[10]⟩:=by
     have:Tp.needS l nm=[110,111,110,101,32]++nm++[10]:=by unfold Tp.needS;rw[hnone];simp[Tp.wordsL]
     rw[this]
     simp only [xk]
     rfl
    have z3:=yh nm
    have p1:¬9223372036854775807<5+(bs nm).size:=by omega
    have p2:¬9223372036854775807<(5+(bs nm).size)+1:=by omega
    have hsz:(((⟨#[110,111,110,101,32]⟩:ByteArray)++bs nm)++⟨#[10]⟩).size=5+(bs nm).size+1:=by simp[ByteArray.size_append];rfl
    rw[hne,hsz]at hp1
    rw[hne]at HFN
    have p3:¬9223372036854775807<(bs (Tp.needsS l (ns.take i))).size+((5+(bs nm).size)+1):=by omega
    clear z3 hne hsz hp1 hnone
    generalize bs (Tp.needsS l (ns.take i))=SA at *
    generalize bs nm=SN at *
    go_wp2_with fail
    go_roundg (nn - (i+1))
    case measure=>omega
    case rel=>exact⟨i+1,by omega,rfl,by rw[<-HFN.out],by go_num,HW3⟩
   ·obtain⟨g,hag,_,hgl,hc3⟩:=HSL.out.cell k hkl
    subst hag
    have hc:=fun j (hj:j<3)=>(HW3.out.cell (p:=⟨g,k * 3+j,none⟩) hgl).trans (hc3 j hj)
    have kc0:w3.cell? ⟨g,k * 3,none⟩=some (.string (bs l[k].1)):=hc 0 (by omega)
    have kc1:w3.cell? ⟨g,k * 3+1,none⟩=some (.int .i64 (l[k].2.1:Int)):=hc 1 (by omega)
    have kc2:w3.cell? ⟨g,k * 3+2,none⟩=some (.int .i64 l[k].2.2):=hc 2 (by omega)
    have hlg3:g<w3.heap.size:=Nat.lt_of_lt_of_le hgl HW3.out.size
    have hsm:=HS.out l[k] (List.getElem_mem hkl)
    have hkl':(k:Int)<(ln:Int):=by have:=HLQ.out;omega
    have hne:Tp.needS l nm=Tp.lineOf l[k]:=by unfold Tp.needS;rw[hsome]
    have HC:=zh (kE l[k] hsm.1 hsm.2.1 hsm.2.2.1 hsm.2.2.2 w3)
    rw[hne]at hp1 HFN
    have p1:¬9223372036854775807<(bs (Tp.needsS l (ns.take i))).size+(bs (Tp.lineOf l[k])).size:=by omega
    clear hne hc hc3 hsm hp1 hsome
    generalize bs (Tp.needsS l (ns.take i))=SA at *
    generalize bs (Tp.lineOf l[k])=SL at *
    generalize l[k].1=x0 at *
    generalize l[k].2.1=x1 at *
    generalize l[k].2.2=x2 at *
    go_wp2_with fail
    refine HC.out.mono ?_
    rintro e w4 ⟨rfl,h4⟩
    have HW4:Hid (Below w.heap.size w w4):=HW3.out.trans (h4.mono HW3.out.size)
    clear h4 kc0 kc1 kc2 hlg3
    go_wp2_with fail
    go_roundg (nn - (i+1))
    case measure=>omega
    case rel=>exact⟨i+1,by omega,rfl,by rw[HFN.out],by go_num,HW4⟩
  ·have hlt':¬(i:Int)<(nn:Int):=by omega
   have e:i=ns.length:=by have:=HNQ.out;omega
   have HT:Hid (bs (Tp.needsS l (ns.take i))=bs (Tp.needsS l ns)):=by show _=_;rw[e,List.take_length]
   clear e
   go_wp2_with fail
   go_ret
   exact⟨congrArg (fun z=>Ending.returned (Value.string z)) HT.out,HW.out⟩
end Go.Proofs.YthnoedjbhbkdeaaGreatDoor
