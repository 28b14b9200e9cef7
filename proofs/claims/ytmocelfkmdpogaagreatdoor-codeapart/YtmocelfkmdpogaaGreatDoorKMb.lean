import Derived.Test.YtmocelfkmdpogaaGreatDoorKMa
import Derived.Test.YtmocelfkmdpogaaGreatDoorKWj
import Derived.Test.YtmocelfkmdpogaaGreatDoorKSha
import Derived.Deep.RegionHeld3
set_option maxRecDepth 100000
set_option maxHeartbeats 4000000
namespace Go.Proofs.YtmocelfkmdpogaaGreatDoor
open Go.RowKit Go.Maps
open Tp (Bs Th)
structure TM (w:World) (gb:Nat) (l:List Th) (i:Nat):Prop where
 mp:MapV w gb i (fun k=>(Tp.lkT (l.take i) k).map thV)
 tw:Tp.twP l 0=Tp.twP l i
theorem TM.on {w w':World}{gb i:Nat}{l:List Th}(h:TM w gb l i) (k:w'.heap[gb]?=w.heap[gb]?):TM w' gb l i:=⟨h.mp.on k,h.tw⟩
theorem TM.zero (w:World) (l:List Th):TM (w.alloc (.map #[] 0)) w.heap.size l 0:=by
 refine⟨?_,rfl⟩
 have:=MapV.made w
 have e:(fun k=>(Tp.lkT (l.take 0) k).map thV)=fun _=>none:=by funext k;simp[Tp.lkT]
 rw[e]
 exact this
theorem TM.dup {w:World}{gb i:Nat}{l:List Th}{x:Th}(h:TM w gb l i) (hx:l[i]?=some x) (hm:x.1∈(l.take i).map (·.1)):Tp.twP l 0=some (9,x.2.1):=by
 rw[h.tw,Tp.twP]
 obtain⟨hi,e⟩:=List.getElem?_eq_some_iff.1 hx
 rw[dif_pos hi,e,if_pos hm]
theorem TM.fin {w:World}{gb i:Nat}{l:List Th}(h:TM w gb l i) (hi:l.length<=i):Tp.twP l 0=none/\MapV w gb i (fun k=>(Tp.lkT l k).map thV):=by
 refine⟨by rw[h.tw,Tp.twP,dif_neg (by omega)],?_⟩
 have:=h.mp
 rw[List.take_of_length_le hi]at this
 exact this
theorem vI {w:World}{gb i:Nat}{l:List Th}{x0:Bs}{x1 x2:Nat}{x3:Int}(h:TM w gb l i) (hm:x0∈(l.take i).map (·.1)) (hl:x0.length<=1000000) :
  Calls Tryz.prog 71 #[.map (some gb),.string (bs x0),.agg #[.int .i64 (x2:Int),.int .i64 x3],.int .i64 (x1:Int)] w fun e w'=>Thrown w.heap.size (9,x1) e w'/\Below w.heap.size w w':=by
 have hs:=Tp.lkT_some.2 hm
 obtain⟨u,hu⟩:=Option.isSome_iff_exists.1 hs
 exact add_no h.mp x0 hl x2 x3 x1 (u:=thV u) (by simp[hu]) ⟨_,_,rfl⟩
theorem vH {w:World}{gb i:Nat}{l:List Th}{x0:Bs}{x1 x2:Nat}{x3:Int}(h:TM w gb l i) (hx:l[i]?=some (x0,x1,x2,x3)) (hi:i<1000000) (hm:¬x0∈(l.take i).map (·.1)) (hl:x0.length<=1000000) :
  Calls Tryz.prog 71 #[.map (some gb),.string (bs x0),.agg #[.int .i64 (x2:Int),.int .i64 x3],.int .i64 (x1:Int)] w fun e w'=>e=.returned (.tuple #[])/\TM w' gb l (i+1)/\Ext gb w w':=by
 have hn:Tp.lkT (l.take i) x0=none:=by
  cases hq:Tp.lkT (l.take i) x0 with
  | none=>rfl
  | some u=>exact absurd (Tp.lkT_some.1 (by rw[hq];rfl)) hm
 refine(add_ok h.mp hi x0 hl x2 x3 x1 (by simp[hn])).mono ?_
 rintro e w' ⟨h1,h2,h3⟩
 obtain⟨hil,e1⟩:=List.getElem?_eq_some_iff.1 hx
 refine⟨h1,⟨?_,?_⟩,h3⟩
 ·have e2:(fun k=>(Tp.lkT (l.take (i+1)) k).map thV)=updV (fun k=>(Tp.lkT (l.take i) k).map thV) x0 (thV (x2,x3)):=by
   funext k
   rw[List.take_succ_eq_append_getElem hil,e1,Tp.lkT_snoc hm]
   unfold updV
   by_cases hk:k=x0
   ·rw[if_pos hk,if_pos hk];rfl
   ·rw[if_neg hk,if_neg hk]
  rw[e2]
  exact h2
 ·rw[h.tw,Tp.twP,dif_pos hil,e1,if_neg hm]
def MapP (w:World) (l:List Th) (e:Ending) (w':World):Prop:=Below w.heap.size w w'/\match Tp.twP l 0 with
 | none=>∃ gb n,e=.returned (.map (some gb))/\w.heap.size<=gb/\n<=1000000/\MapV w' gb n (fun k=>(Tp.lkT l k).map thV)
 | some er=>Thrown w.heap.size er e w'
def AskTG (w:World) (gn:Nat) (ga:Option Addr) (l:List Th):Prop :=
 ∀ i,i<gn->∃(g:Nat) (x0:Bs) (x1 x2:Nat) (x3:Bool),ga=some ⟨g,0,none⟩/\g<w.heap.size/\w.cell? ⟨g,i * 4,none⟩=some (.string (bs x0))/\w.cell? ⟨g,i * 4+1,none⟩=some (.int .i64 (x1:Int))/\w.cell? ⟨g,i * 4+2,none⟩=some (.int .i64 (x2:Int))/\w.cell? ⟨g,i * 4+3,none⟩=some (.bool x3)/\x0.length<=1000000/\l[i]?=some (x0,x1,x2,-1)
def AskTP (w:World) (gn pn:Nat) (pa:Option Addr) (l:List Th):Prop :=
 ∀ i,i<pn->∃(g:Nat) (x0:Bs) (x1:Nat) (x2:Bool) (y3 y4 y5:Option Addr) (n3 n4 n5 c3 c4 c5:Nat),pa=some ⟨g,0,none⟩/\g<w.heap.size/\w.cell? ⟨g,i * 6,none⟩=some (.string (bs x0))/\w.cell? ⟨g,i * 6+1,none⟩=some (.int .i64 (x1:Int))/\w.cell? ⟨g,i * 6+2,none⟩=some (.bool x2)/\w.cell? ⟨g,i * 6+3,none⟩=some (.slice y3 n3 c3)/\w.cell? ⟨g,i * 6+4,none⟩=some (.slice y4 n4 c4)/\w.cell? ⟨g,i * 6+5,none⟩=some (.slice y5 n5 c5)/\x0.length<=1000000/\l[gn+i]?=some (x0,x1,0,(n3:Int))
theorem zG {w:World}{b:Nat}{v0 v1 v2 v3 v4:Value}{t:TypeId}(h:w.heap[b]?=some (.cells #[v0,v1,v2,v3,v4] t (0,0))):w.cell? ⟨b,0,none⟩=some v0/\w.cell? ⟨b,1,none⟩=some v1/\w.cell? ⟨b,2,none⟩=some v2/\w.cell? ⟨b,3,none⟩=some v3/\w.cell? ⟨b,4,none⟩=some v4 :=
 ⟨(za h).trans rfl,(za h).trans rfl,(za h).trans rfl,(za h).trans rfl,(za h).trans rfl⟩
theorem zR {b B:Nat}{w w':World}(h:Ext b w w') (hb:B<=b) (hs:B<=w.heap.size):Below B w w' :=
 ⟨h.os,h.tape,h.output,h.size,fun k hk=>h.block k (by omega) (by omega)⟩
theorem kh {w:World}{a:Addr}{v:Value}(h:w.cell? a=some v) (ob:Obj):(w.alloc ob).cell? a=some v:=by
 rw[World.cell?_alloc_lt _ _ _ (World.block_lt_of_cell? _ _ h)];exact h
theorem uC {w:World}{nm:Bs}{inn gn pn bn ic gc pc bc:Nat}{ia ga pa ba:Option Addr}{l:List Th}(hG:AskTG w gn ga l) (hP:AskTP w gn pn pa l) (hl:l.length=gn+pn) (hgn:gn<=1000) (hpn:pn<=1000) :
  Calls Tryz.prog 33 #[.agg #[.string (bs nm),.slice ia inn ic,.slice ga gn gc,.slice pa pn pc,.slice ba bn bc]] w (MapP w l):=by
 obtain⟨wm,hwm⟩:∃ wm,wm=w.alloc (.cells #[.string (bs nm),.slice ia inn ic,.slice ga gn gc,.slice pa pn pc,.slice ba bn bc] 29):=⟨_,rfl⟩
 have hblk0:wm.heap[w.heap.size]?=some (.cells #[.string (bs nm),.slice ia inn ic,.slice ga gn gc,.slice pa pn pc,.slice ba bn bc] 29 (0,0)):=by rw[hwm];exact zk _ _
 have hszm:wm.heap.size=w.heap.size+1:=by rw[hwm];simp
 have hbe:Below w.heap.size w (wm.alloc (.map #[] 0)):=by rw[hwm];exact(zb _ _).alloc (by simp) _
 have htm:=TM.zero wm l
 have hblk:(wm.alloc (.map #[] 0)).heap[w.heap.size]?=some (.cells #[.string (bs nm),.slice ia inn ic,.slice ga gn gc,.slice pa pn pc,.slice ba bn bc] 29 (0,0)):=(Below.heap_alloc _ _ _ (by omega)).trans hblk0
 rw[hszm]at htm
 obtain⟨k0,k1,k2,k3,k4⟩:=zG hblk
 have hmm:=@run_makeMap Tryz.prog
 have HG:=zh hG
 have HP:=zh hP
 have HL:=zh hl
 have HK:=zh hblk
 have HT:=zh htm
 have HBE:=zh hbe
 have HSM:=zh hszm
 have hgn':(gn:Int)<=1000:=by omega
 have hpn':(pn:Int)<=1000:=by omega
 clear hG hP hl hblk htm hbe k0 k1 k3 k4 hblk0
 go_enter Tryz.func33,Tryz.ntmps33
 go_wp2_with fail
 rw[<-hwm]
 have hsz0:w.heap.size+2<=(wm.alloc (.map #[] 0)).heap.size:=by simp;omega
 have hs1:(w.alloc (.cells #[.string (bs nm),.slice ia inn ic,.slice ga gn gc,.slice pa pn pc,.slice ba bn bc] 29)).heap.size=w.heap.size+1:=by simp
 generalize wm.alloc (.map #[] 0)=w0 at *
 clear hwm HSM hszm wm hmm
 go_loopg [12] gn (fun k vi wr=>∃ i:Nat,i<=gn/\k=gn - i/\vi=.int .i64 (i:Int)/\Hid (TM wr (w.heap.size+1) l i)/\Hid (Ext (w.heap.size+1) w0 wr))
 case atStart=>exact⟨0,by omega,by omega,rfl,HT,Ext.refl _ _⟩
 case round =>
  obtain⟨i,hid,hk,rfl,HTM,HE⟩:=hrel
  have hsz:=HE.out.size
  by_cases hlt:i<gn
  ·have hlt':(i:Int)<(gn:Int):=by omega
   obtain⟨g,x0,x1,x2,x3,hga,hgB,c0,c1',c2,c3,hxl,hx⟩:=HG.out i hlt
   subst hga
   have hcell:∀(o:Nat) (u:Value),w.cell? ⟨g,o,none⟩=some u->wr.cell? ⟨g,o,none⟩=some u:=fun o u h=>HE.out.cell ((HBE.out.cell (p:=⟨g,o,none⟩) hgB).trans h) (by simp;omega)
   have kc0:=hcell _ _ c0
   have kc1:=hcell _ _ c1'
   have kc2:=hcell _ _ c2
   have kc3:=hcell _ _ c3
   have hlgr:g<wr.heap.size:=by omega
   have HX:=zh hx
   have HTA:Hid (∀ ob,TM (wr.alloc ob) (w.heap.size+1) l i):=fun ob=>HTM.out.on (Below.heap_alloc _ _ _ (by omega))
   have HEA:Hid (∀ ob,Ext (w.heap.size+1) w0 (wr.alloc ob)):=fun ob=>HE.out.trans (Ext.below (zb _ _))
   clear c0 c1' c2 c3 hcell hx
   by_cases hm:x0∈(l.take i).map (·.1)
   ·have HM:=zh hm
    clear hm
    go_wp2_with fail
    refine(vI (HTA.out _) HM.out hxl).mono ?_
    rintro e w3 ⟨ht,hb3⟩
    have HD:=zh (HTM.out.dup HX.out HM.out)
    have HB3:Hid (Below w.heap.size w w3):=(HBE.out.trans (zR (HEA.out _) (by omega) (by omega))).trans (hb3.mono (by simp;omega))
    have HT3:=zh (ht.mono (B':=w.heap.size) (by simp;omega))
    obtain⟨ab,q1,rfl,q2,q3⟩:=ht.out
    clear ht hb3 q1 q2 q3
    go_wp2_with fail
    refine⟨rfl,HB3.out,?_⟩
    rw[HD.out]
    exact HT3.out
   ·have HM:=zh hm
    clear hm
    go_wp2_with fail
    refine(vH (HTA.out _) HX.out (by omega) HM.out hxl).mono ?_
    rintro e w3 ⟨rfl,ht,hb3⟩
    have HT3:=zh ht
    have HE3:=zh ((HEA.out _).trans hb3)
    clear ht hb3
    go_wp2_with fail
    go_roundg (gn - (i+1))
    case measure=>omega
    case rel=>exact⟨i+1,by omega,rfl,by go_num,HT3,HE3⟩
  ·have hlt':¬(i:Int)<(gn:Int):=by omega
   have hei:i=gn:=by omega
   subst hei
   have k3:wr.cell? ⟨w.heap.size,3,none⟩=some (.slice pa pn pc):=HE.out.cell (zG HK.out).2.2.2.1 (by simp)
   have hltb:w.heap.size<wr.heap.size:=by omega
   have HTM1:Hid (TM wr (w.heap.size+1) l (i+0)):=HTM
   have HE1:=HE
   clear HTM HE HG k2 hsz HT
   go_wp2_with fail
   go_loopg [29] pn (fun k vi wr=>∃ j:Nat,j<=pn/\k=pn - j/\vi=.int .i64 (j:Int)/\Hid (TM wr (w.heap.size+1) l (i+j))/\Hid (Ext (w.heap.size+1) w0 wr))
   case atStart=>exact⟨0,by omega,by omega,rfl,HTM1,HE1⟩
   case round =>
    obtain⟨j,hjd,hk2,rfl,HTM,HE⟩:=hrel
    have hsz:=HE.out.size
    clear HTM1 HE1 k3 hltb
    by_cases hlt2:j<pn
    ·have hlt2':(j:Int)<(pn:Int):=by omega
     obtain⟨g,x0,x1,x2,y3,y4,y5,n3,n4,n5,d3,d4,d5,hpa,hgB,c0,c1',c2,c3,c4,c5,hxl,hx⟩:=HP.out j hlt2
     subst hpa
     have hcell:∀(o:Nat) (u:Value),w.cell? ⟨g,o,none⟩=some u->wr.cell? ⟨g,o,none⟩=some u:=fun o u h=>HE.out.cell ((HBE.out.cell (p:=⟨g,o,none⟩) hgB).trans h) (by simp;omega)
     have kc0:=hcell _ _ c0
     have kc1:=hcell _ _ c1'
     have kc2:=hcell _ _ c2
     have kc3:=hcell _ _ c3
     have kc4:=hcell _ _ c4
     have kc5:=hcell _ _ c5
     have hlgr:g<wr.heap.size:=by omega
     have HX:=zh hx
     have HTA:Hid (∀ ob,TM (wr.alloc ob) (w.heap.size+1) l (i+j)):=fun ob=>HTM.out.on (Below.heap_alloc _ _ _ (by omega))
     have HEA:Hid (∀ ob,Ext (w.heap.size+1) w0 (wr.alloc ob)):=fun ob=>HE.out.trans (Ext.below (zb _ _))
     clear c0 c1' c2 c3 c4 c5 hcell hx
     by_cases hm:x0∈(l.take (i+j)).map (·.1)
     ·have HM:=zh hm
      clear hm
      go_wp2_with fail
      refine(vI (x2:=0) (x3:=(n3:Int)) (HTA.out _) HM.out hxl).mono ?_
      rintro e w3 ⟨ht,hb3⟩
      have HD:=zh (HTM.out.dup HX.out HM.out)
      have HB3:Hid (Below w.heap.size w w3):=(HBE.out.trans (zR (HEA.out _) (by omega) (by omega))).trans (hb3.mono (by simp;omega))
      have HT3:=zh (ht.mono (B':=w.heap.size) (by simp;omega))
      obtain⟨ab,q1,rfl,q2,q3⟩:=ht.out
      clear ht hb3 q1 q2 q3
      go_wp2_with fail
      refine⟨rfl,HB3.out,?_⟩
      rw[HD.out]
      exact HT3.out
     ·have HM:=zh hm
      clear hm
      go_wp2_with fail
      refine(vH (x2:=0) (x3:=(n3:Int)) (HTA.out _) HX.out (by omega) HM.out hxl).mono ?_
      rintro e w3 ⟨rfl,ht,hb3⟩
      have HT3:Hid (TM w3 (w.heap.size+1) l (i+(j+1))):=ht
      have HE3:=zh ((HEA.out _).trans hb3)
      clear ht hb3
      go_wp2_with fail
      go_roundg (pn - (j+1))
      case measure=>omega
      case rel=>exact⟨j+1,by omega,rfl,by go_num,HT3,HE3⟩
    ·have hlt2':¬(j:Int)<(pn:Int):=by omega
     have hej:j=pn:=by omega
     subst hej
     obtain⟨f1,f2⟩:=HTM.out.fin (by have:=HL.out;omega)
     have HF1:=zh f1
     have HF2:=zh f2
     have HB3:Hid (Below w.heap.size w wr):=HBE.out.trans (zR HE.out (by omega) (by omega))
     clear f1 f2 HTM HE
     go_wp2_with fail
     go_ret
     refine⟨HB3.out,?_⟩
     rw[HF1.out]
     exact⟨_,_,rfl,by omega,by omega,HF2.out⟩
theorem xQ {P:Program}{f:FuncId}{args:Array Value}{w:World}{R T:Ending->World->Prop}(h:Calls P f args w T) (hT:∀ e w',T e w'->R e w') (_:Hid False->R (.returned (.tuple #[])) w):Calls P f args w R:=h.mono hT
def AskTN (w:World) (o pn:Nat) (pa:Option Addr) (pl:Nat) (l:List Th):Prop :=
 ∀ i,i<pn->∃(g:Nat) (x0:Bs),pa=some ⟨g,0,none⟩/\g<w.heap.size/\w.cell? ⟨g,i,none⟩=some (.string (bs x0))/\x0.length<=1000000/\l[o+i]?=some (x0,pl,0,-1)
theorem yT {w:World}{b:Nat}{v0 v1 v2 v3 v4 v5:Value}{t:TypeId}(h:w.heap[b]?=some (.cells #[v0,v1,v2,v3,v4,v5] t (0,0))):w.cell? ⟨b,0,none⟩=some v0/\w.cell? ⟨b,1,none⟩=some v1/\w.cell? ⟨b,2,none⟩=some v2/\w.cell? ⟨b,3,none⟩=some v3/\w.cell? ⟨b,4,none⟩=some v4/\w.cell? ⟨b,5,none⟩=some v5 :=
 ⟨(za h).trans rfl,(za h).trans rfl,(za h).trans rfl,(za h).trans rfl,(za h).trans rfl,(za h).trans rfl⟩
theorem qy {w:World}{nm:Bs}{pl:Nat}{sn:Bool}{pn vn bn pc vc bc:Nat}{pa va ba:Option Addr}{l:List Th}(hG:AskTN w 0 pn pa pl l) (hP:AskTN w pn vn va pl l) (hl:l.length=pn+vn) (hgn:pn<=1000) (hpn:vn<=1000) :
  Calls Tryz.prog 36 #[.agg #[.string (bs nm),.int .i64 (pl:Int),.bool sn,.slice pa pn pc,.slice va vn vc,.slice ba bn bc]] w (MapP w l):=by
 obtain⟨wm,hwm⟩:∃ wm,wm=w.alloc (.cells #[.string (bs nm),.int .i64 (pl:Int),.bool sn,.slice pa pn pc,.slice va vn vc,.slice ba bn bc] 79):=⟨_,rfl⟩
 have hblk0:wm.heap[w.heap.size]?=some (.cells #[.string (bs nm),.int .i64 (pl:Int),.bool sn,.slice pa pn pc,.slice va vn vc,.slice ba bn bc] 79 (0,0)):=by rw[hwm];exact zk _ _
 have hszm:wm.heap.size=w.heap.size+1:=by rw[hwm];simp
 have hbe:Below w.heap.size w (wm.alloc (.map #[] 0)):=by rw[hwm];exact(zb _ _).alloc (by simp) _
 have htm:=TM.zero wm l
 have hblk:(wm.alloc (.map #[] 0)).heap[w.heap.size]?=some (.cells #[.string (bs nm),.int .i64 (pl:Int),.bool sn,.slice pa pn pc,.slice va vn vc,.slice ba bn bc] 79 (0,0)):=(Below.heap_alloc _ _ _ (by omega)).trans hblk0
 rw[hszm]at htm
 obtain⟨k0,k1,k2,k3,k4,k5⟩:=yT hblk
 have hmm:=@run_makeMap Tryz.prog
 have HG:=zh hG
 have HP:=zh hP
 have HL:=zh hl
 have HK:=zh hblk
 have HT:=zh htm
 have HBE:=zh hbe
 have HSM:=zh hszm
 have hgn':(pn:Int)<=1000:=by omega
 have hpn':(vn:Int)<=1000:=by omega
 clear hG hP hl hblk htm hbe k0 k1 k2 k4 k5 hblk0
 go_enter Tryz.func36,Tryz.ntmps36
 go_wp2_with fail
 rw[<-hwm]
 have hsz0:w.heap.size+2<=(wm.alloc (.map #[] 0)).heap.size:=by simp;omega
 generalize wm.alloc (.map #[] 0)=w0 at *
 clear hwm HSM hszm wm hmm
 go_loopg [12] pn (fun k vi wr=>∃ i:Nat,i<=pn/\k=pn - i/\vi=.int .i64 (i:Int)/\Hid (TM wr (w.heap.size+1) l i)/\Hid (Ext (w.heap.size+1) w0 wr))
 case atStart=>exact⟨0,by omega,by omega,rfl,HT,Ext.refl _ _⟩
 case round =>
  obtain⟨i,hid,hk,rfl,HTM,HE⟩:=hrel
  have hsz:=HE.out.size
  by_cases hlt:i<pn
  ·have hlt':(i:Int)<(pn:Int):=by omega
   obtain⟨g,x0,hga,hgB,c0,hxl,hx⟩:=HG.out i hlt
   rw[Nat.zero_add]at hx
   subst hga
   have kc0:wr.cell? ⟨g,i,none⟩=some (.string (bs x0)):=HE.out.cell ((HBE.out.cell (p:=⟨g,i,none⟩) hgB).trans c0) (by simp;omega)
   have hlgr:g<wr.heap.size:=by omega
   have HX:=zh hx
   have HC1:Hid (wr.drew.cell? ⟨w.heap.size,1,none⟩=some (.int .i64 (pl:Int))):=HE.out.cell (yT HK.out).2.1 (by simp)
   clear c0 hx
   by_cases hm:x0∈(l.take i).map (·.1)
   ·have HM:=zh hm
    clear hm
    go_wp2_with fail
    go_region_held (fun w'=>w'.cell? ⟨w.heap.size,1,none⟩=some (.int .i64 (pl:Int))) (with_reducible (first|exact hF.out.elim|exact HC2.out|exact HC1.out)) (first|(go_at_call 76;refine(yD _).mono ?_;rintro e w2 ⟨rfl,hb2⟩;have HB2:Hid (Below wr.heap.size wr w2):=((Below.refl wr.heap.size wr).drew).trans hb2;have HC2:Hid (w2.cell? ⟨w.heap.size,1,none⟩=some (.int .i64 (pl:Int))):=(hb2.cell (p:=⟨w.heap.size,1,none⟩) (zc HC1.out)).trans HC1.out;clear hb2)|(go_at_call 71;refine xQ (vI (x2:=0) (x3:=-1) (HTM.out.on (HB2.out.block _ (by omega))) HM.out hxl) ?hT ?_;(case hT=>(rintro e w3 ⟨ht,hb3⟩;have HD:=zh (HTM.out.dup HX.out HM.out);have HB3:Hid (Below w.heap.size w w3):=((HBE.out.trans (zR HE.out (by omega) (by omega))).trans (HB2.out.mono (by omega))).trans (hb3.mono (by have:=HB2.out.size;omega));have HT3:=zh (ht.mono (B':=w.heap.size) (by have:=HB2.out.size;omega));obtain⟨ab,q1,rfl,q2,q3⟩:=ht.out;refine⟨rfl,HB3.out,?_⟩;rw[HD.out];exact HT3.out));intro hF))
    exact hF.out.elim
   ·have HM:=zh hm
    clear hm
    go_wp2_with fail
    go_region_held3 (fun w'=>w'.cell? ⟨w.heap.size,1,none⟩=some (.int .i64 (pl:Int))) (with_reducible (first|exact HC3.out|exact HC2.out|exact HC1.out)) (first|(go_at_call 76;refine(yD _).mono ?_;rintro e w2 ⟨rfl,hb2⟩;have HB2:Hid (Below wr.heap.size wr w2):=((Below.refl wr.heap.size wr).drew).trans hb2;have HC2:Hid (w2.cell? ⟨w.heap.size,1,none⟩=some (.int .i64 (pl:Int))):=(hb2.cell (p:=⟨w.heap.size,1,none⟩) (zc HC1.out)).trans HC1.out;clear hb2)|(go_at_call 71;refine(vH (x2:=0) (x3:=-1) (HTM.out.on (HB2.out.block _ (by omega))) HX.out (by omega) HM.out hxl).mono ?_;rintro e w3 ⟨rfl,ht,hb3⟩;have HT3:=zh ht;have HE3:Hid (Ext (w.heap.size+1) w0 w3):=(HE.out.trans (Ext.below HB2.out)).trans hb3;have HC3:Hid (w3.cell? ⟨w.heap.size,1,none⟩=some (.int .i64 (pl:Int))):=hb3.cell HC2.out (by simp);clear ht hb3))
    go_wp2_with fail
    go_roundg (pn - (i+1))
    case measure=>omega
    case rel=>exact⟨i+1,by omega,rfl,by go_num,HT3,HE3⟩
  ·have hlt':¬(i:Int)<(pn:Int):=by omega
   have hei:i=pn:=by omega
   subst hei
   have k4:wr.cell? ⟨w.heap.size,4,none⟩=some (.slice va vn vc):=HE.out.cell (yT HK.out).2.2.2.2.1 (by simp)
   have hltb:w.heap.size<wr.heap.size:=by omega
   have HTM1:Hid (TM wr (w.heap.size+1) l (i+0)):=HTM
   have HE1:=HE
   clear HTM HE HG k3 hsz HT
   go_wp2_with fail
   go_loopg [26] vn (fun k vi wr=>∃ j:Nat,j<=vn/\k=vn - j/\vi=.int .i64 (j:Int)/\Hid (TM wr (w.heap.size+1) l (i+j))/\Hid (Ext (w.heap.size+1) w0 wr))
   case atStart=>exact⟨0,by omega,by omega,rfl,HTM1,HE1⟩
   case round =>
    obtain⟨j,hjd,hk2,rfl,HTM,HE⟩:=hrel
    have hsz:=HE.out.size
    clear HTM1 HE1 k4 hltb
    by_cases hlt2:j<vn
    ·have hlt2':(j:Int)<(vn:Int):=by omega
     obtain⟨g,x0,hga,hgB,c0,hxl,hx⟩:=HP.out j hlt2
     subst hga
     have kc0:wr.cell? ⟨g,j,none⟩=some (.string (bs x0)):=HE.out.cell ((HBE.out.cell (p:=⟨g,j,none⟩) hgB).trans c0) (by simp;omega)
     have hlgr:g<wr.heap.size:=by omega
     have HX:=zh hx
     have HC1:Hid (wr.drew.cell? ⟨w.heap.size,1,none⟩=some (.int .i64 (pl:Int))):=HE.out.cell (yT HK.out).2.1 (by simp)
     clear c0 hx
     by_cases hm:x0∈(l.take (i+j)).map (·.1)
     ·have HM:=zh hm
      clear hm
      go_wp2_with fail
      go_region_held (fun w'=>w'.cell? ⟨w.heap.size,1,none⟩=some (.int .i64 (pl:Int))) (with_reducible (first|exact hF.out.elim|exact HC2.out|exact HC1.out)) (first|(go_at_call 76;refine(yD _).mono ?_;rintro e w2 ⟨rfl,hb2⟩;have HB2:Hid (Below wr.heap.size wr w2):=((Below.refl wr.heap.size wr).drew).trans hb2;have HC2:Hid (w2.cell? ⟨w.heap.size,1,none⟩=some (.int .i64 (pl:Int))):=(hb2.cell (p:=⟨w.heap.size,1,none⟩) (zc HC1.out)).trans HC1.out;clear hb2)|(go_at_call 71;refine xQ (vI (x2:=0) (x3:=-1) (HTM.out.on (HB2.out.block _ (by omega))) HM.out hxl) ?hT ?_;(case hT=>(rintro e w3 ⟨ht,hb3⟩;have HD:=zh (HTM.out.dup HX.out HM.out);have HB3:Hid (Below w.heap.size w w3):=((HBE.out.trans (zR HE.out (by omega) (by omega))).trans (HB2.out.mono (by omega))).trans (hb3.mono (by have:=HB2.out.size;omega));have HT3:=zh (ht.mono (B':=w.heap.size) (by have:=HB2.out.size;omega));obtain⟨ab,q1,rfl,q2,q3⟩:=ht.out;refine⟨rfl,HB3.out,?_⟩;rw[HD.out];exact HT3.out));intro hF))
      exact hF.out.elim
     ·have HM:=zh hm
      clear hm
      go_wp2_with fail
      go_region_held3 (fun w'=>w'.cell? ⟨w.heap.size,1,none⟩=some (.int .i64 (pl:Int))) (with_reducible (first|exact HC3.out|exact HC2.out|exact HC1.out)) (first|(go_at_call 76;refine(yD _).mono ?_;rintro e w2 ⟨rfl,hb2⟩;have HB2:Hid (Below wr.heap.size wr w2):=((Below.refl wr.heap.size wr).drew).trans hb2;have HC2:Hid (w2.cell? ⟨w.heap.size,1,none⟩=some (.int .i64 (pl:Int))):=(hb2.cell (p:=⟨w.heap.size,1,none⟩) (zc HC1.out)).trans HC1.out;clear hb2)|(go_at_call 71;refine(vH (x2:=0) (x3:=-1) (HTM.out.on (HB2.out.block _ (by omega))) HX.out (by omega) HM.out hxl).mono ?_;rintro e w3 ⟨rfl,ht,hb3⟩;have HT3:Hid (TM w3 (w.heap.size+1) l (i+(j+1))):=ht;have HE3:Hid (Ext (w.heap.size+1) w0 w3):=(HE.out.trans (Ext.below HB2.out)).trans hb3;have HC3:Hid (w3.cell? ⟨w.heap.size,1,none⟩=some (.int .i64 (pl:Int))):=hb3.cell HC2.out (by simp);clear ht hb3))
      go_wp2_with fail
      go_roundg (vn - (j+1))
      case measure=>omega
      case rel=>exact⟨j+1,by omega,rfl,by go_num,HT3,HE3⟩
    ·have hlt2':¬(j:Int)<(vn:Int):=by omega
     have hej:j=vn:=by omega
     subst hej
     obtain⟨f1,f2⟩:=HTM.out.fin (by have:=HL.out;omega)
     have HF1:=zh f1
     have HF2:=zh f2
     have HB3:Hid (Below w.heap.size w wr):=HBE.out.trans (zR HE.out (by omega) (by omega))
     clear f1 f2 HTM HE
     go_wp2_with fail
     go_ret
     refine⟨HB3.out,?_⟩
     rw[HF1.out]
     exact⟨_,_,rfl,by omega,by omega,HF2.out⟩
end Go.Proofs.YtmocelfkmdpogaaGreatDoor
namespace Go.Proofs.YtmocelfkmdpogaaGreatDoor
open Go.RowKit Go.Sort
open Tp (Sy)
def encSy (s:Sy):List Value:=[.string (bs s.1),.int .i64 (s.2.1:Int),.int .i64 s.2.2]
def sycs (l:List Sy):List Value:=(l.map encSy).flatten
def cfS (x y:Sy):Int:=Lib.compareBytes x.1 y.1
def insS (l:List Sy) (a b:Nat):List Sy:=(Sort.insertionSort (ltOf cfS) l.toArray a b).toList
def srt (l:List Sy):List Sy:=insS l 0 l.length
theorem vQ (s:Sy) (l:List Sy):sycs (s :: l)=encSy s++sycs l:=rfl
theorem sycs_app (l m:List Sy):sycs (l++m)=sycs l++sycs m:=by simp[sycs]
theorem jj (l:List Sy):(sycs l).length=l.length * 3:=by
 induction l with
 | nil=>rfl
 | cons s l ih=>rw[vQ,List.length_append,ih];simp[encSy];omega
theorem jk:∀(l:List Sy) (i:Nat) (h:i<l.length) (j:Nat),j<3->(sycs l)[i * 3+j]?=(encSy l[i])[j]?:=by
 intro l
 induction l with
 | nil=>intro i h;simp at h
 | cons s l ih =>
  intro i h j hj
  rw[vQ]
  cases i with
  | zero=>rw[Nat.zero_mul,Nat.zero_add,List.getElem?_append_left (by simpa[encSy] using hj)];rfl
  | succ i =>
   rw[List.getElem?_append_right (by simp[encSy];omega)]
   have:(i+1) * 3+j - (encSy s).length=i * 3+j:=by simp[encSy];omega
   rw[this,ih i (by simpa using h) j hj]
   rfl
theorem uD (d:Array Sy):(flatK encSy 3 d).toList=sycs d.toList:=by
 apply List.ext_getElem?
 intro t
 by_cases ht:t<d.size * 3
 ·have hi:t / 3<d.size:=by omega
  have hj:t % 3<3:=Nat.mod_lt _ (by omega)
  have e:t=(t / 3) * 3+t % 3:=by omega
  have h1:=jk d.toList (t / 3) (by simpa using hi) (t % 3) hj
  rw[<-e]at h1
  rw[h1,Array.getElem?_toList]
  rw[flatK]
  rw[Array.getElem?_map,Array.getElem?_range]
  simp only [ht,if_true,Option.map_some]
  rw[getElem!_pos d (t / 3) hi]
  rw[List.getElem?_eq_getElem (by simp[encSy];omega),getElem!_pos _ _ (by simp[encSy];omega)]
  simp
 ·rw[List.getElem?_eq_none (by simp;omega),List.getElem?_eq_none (by rw[jj];simp;omega)]
structure SyRow (w:World) (g:Nat) (cap:Nat) (l:List Sy):Prop where
 b:∃ cur,w.heap[g]?=some (.cells cur 44 (0,0))/\cur.size=cap * 3/\cur.toList.take (l.length * 3)=sycs l
 n:l.length<=cap
 m:cap<=maxLen
theorem SyRow.holds {w:World}{g cap:Nat}{l:List Sy}(h:SyRow w g cap l):HoldsK encSy 3 w g 0 l.toArray:=by
 obtain⟨cur,h1,h2,h3⟩:=h.b
 intro j hj
 have hj':j<l.length * 3:=by simpa using hj
 refine⟨?_,zg h1⟩
 rw[za h1,Nat.zero_add,<-Array.getElem?_toList,<-List.getElem?_take_of_lt hj',h3]
 have e:=uD l.toArray
 have e2:(sycs l)[j]?=(flatK encSy 3 l.toArray).toList[j]?:=by rw[e]
 rw[e2,Array.getElem?_toList,Array.getElem?_eq_getElem hj,getElem!_pos (flatK encSy 3 l.toArray) j hj]
 rfl
theorem SyRow.sorted {w:World}{g cap n:Nat}{l:List Sy}{d:Array Sy}{os:Array Obj}(h:SyRow w g cap l) (hs:d.size=l.length):SyRow (sortWorldK encSy 3 w g 0 n d os) g cap d.toList/\w.grownBy (sortWorldK encSy 3 w g 0 n d os) (some g):=by
 obtain⟨cur,h1,h2,h3⟩:=h.b
 have hg:=zi h1
 have hn:=h.n
 have hF:(flatK encSy 3 d).size=d.size * 3:=size_flatK _ _ _
 refine⟨⟨⟨putCells id 0 (flatK encSy 3 d) cur,?_,by simp[putCells,h2],?_⟩,by simpa[hs] using h.n,h.m⟩,⟨rfl,rfl,rfl,by simp[sortWorldK,putRowK],fun k hk hne=>?_⟩⟩
 ·unfold sortWorldK putRowK
  rw[heap_grow_old _ _ (by simpa using hg)]
  simp[putRow,mapBlock,Sort.ahead,Array.getElem?_modify,h1,onCells]
 ·rw[<-uD]
  apply List.ext_getElem?
  intro j
  by_cases hj:j<d.toList.length * 3
  ·have hjF:j<(flatK encSy 3 d).size:=by rw[hF];simpa using hj
   have hjc:j<cur.size:=by rw[h2];simp at hj;omega
   rw[List.getElem?_take_of_lt hj,Array.getElem?_toList,Array.getElem?_toList,Array.getElem?_eq_getElem hjF]
   simp only [putCells,Array.getElem?_mapIdx,Array.getElem?_eq_getElem hjc,Option.map_some,Nat.zero_le,true_and,Nat.zero_add,if_pos hjF,Nat.sub_zero,id]
   rw[getElem!_pos (flatK encSy 3 d) j hjF]
  ·rw[List.getElem?_take_eq_none (by omega),List.getElem?_eq_none (by simp at hj ⊢;omega)]
 ·unfold sortWorldK putRowK
  rw[heap_grow_old _ _ (by simpa using hk)]
  have:g≠k:=fun e=>hne (by rw[e])
  simp[putRow,mapBlock,Sort.ahead,Array.getElem?_modify,this]
theorem ofCmp_post (x y:Sy) (W:World):Calls Tryz.prog 65 #[.agg (encSy x).toArray,.agg (encSy y).toArray] W fun e w'=>e=.returned (.int .i64 (cfS x y))/\∃ q os',w'=grow (W.drewN q) os':=by
 have hcon:∀ W,Calls Tryz.prog 66 #[.string (bs x.1),.string (bs y.1)] W fun e w'=>e=.returned (.int .i64 (cfS x y))/\w'=W:=by
  intro W
  have:=Any.strings_Compare Tryz.laysCmp (bs x.1) (bs y.1) W
  rw[bs_back,bs_back]at this
  exact this
 generalize cfS x y=r at hcon ⊢
 have HC:=zh hcon
 clear hcon
 unfold encSy
 go_enter Tryz.func65,Tryz.ntmps65
 go_wp2_with (go_at_call 66;refine(HC.out _).mono ?_;rintro e w' ⟨rfl,rfl⟩)
 go_ret
 exact⟨rfl,0,_,by rw[alloc_eq_grow,alloc_eq_grow,grow_grow];rfl⟩
theorem jq {lt:Sy->Sy->Bool}(a:Nat):∀(j:Nat) (d:Array Sy),(Sort.insInner lt a j d).size=d.size:=by
 intro j
 induction j with
 | zero=>intro d;rfl
 | succ j ih =>
  intro d
  rw[Sort.insInner]
  split
  ·rw[ih];simp[swp]
  ·rfl
theorem vk {lt:Sy->Sy->Bool}(a b:Nat):∀(k i:Nat) (d:Array Sy),b - i=k->(Sort.insOuter lt a b i d).size=d.size:=by
 intro k
 induction k with
 | zero=>intro i d h;rw[Sort.insOuter,if_neg (by omega)]
 | succ k ih =>
  intro i d h
  rw[Sort.insOuter]
  split
  ·rw[ih (i+1) _ (by omega),jq]
  ·rfl
theorem insS_len (l:List Sy) (a b:Nat):(insS l a b).length=l.length:=by
 unfold insS Sort.insertionSort
 rw[Array.length_toList,vk a b _ _ _ rfl]
 simp
theorem insS_none (l:List Sy) (a:Nat):insS l a a=l:=by
 unfold insS Sort.insertionSort
 rw[Sort.insOuter,if_neg (by omega)]
theorem kj (l:List Sy):(srt l).length=l.length:=insS_len _ _ _
theorem cmpLays (blk off size:Nat) (w:World):CmpLays Tryz.prog 65 #[] encSy 3 cfS blk off size w:=fun _ _ _ _ x y=>ofCmp_post x y _
def fnCmp:Value:=.func (.func 65) #[] #[]
theorem vh {w:World}{g cap:Nat}{l:List Sy}(h:SyRow w g cap l) (a b:Nat) (hab:a<=b) (hb:b<=l.length) (hsz:l.length<=1000) :
  Calls Tryz.prog 150 #[.slice (some ⟨g,0,none⟩) l.length cap,.int .i64 (a:Int),.int .i64 (b:Int),fnCmp] w fun e w'=>e=.returned (.tuple #[])/\SyRow w' g cap (insS l a b)/\w.grownBy w' (some g):=by
 have eg:∀ args w,(callFunc 65 args).run Tryz.prog w=.ok (.enter 65 args) w:=enters_of Tryz.func65 (by kernel_rfl) rfl
 have hg:g<w.heap.size:=by obtain⟨cur,h1,_⟩:=h.b;exact zi h1
 have hc:=AnyQ.insertionSortCmpFunc Tryz.laysIns 3 Tryz.isAgg44 Tryz.sizeOf44 encSy (fun _=>rfl) (fun x v hv=>by simp[encSy]at hv;rcases hv with rfl|rfl|rfl <;> rfl) cfS 65 #[] g 0 cap a b l.toArray w eg (cmpLays _ _ _ _) h.holds hg hab (by simpa using hb) (by simp;omega)
 have e:(l.toArray).size=l.length:=by simp
 rw[e]at hc
 refine hc.mono ?_
 rintro e w' ⟨rfl,n,os,rfl⟩
 have hs:=h.sorted (d:=Sort.insertionSort (ltOf cfS) l.toArray a b) (n:=n) (os:=os) (by rw[<-Array.length_toList];exact insS_len l a b)
 exact⟨rfl,hs.1,hs.2⟩
theorem vU {w:World}{g cap:Nat}{l:List Sy}(h:SyRow w g cap l) (hn:l.length<20) :
  Calls Tryz.prog 97 #[.slice (some ⟨g,0,none⟩) l.length cap,.int .i64 (l.length:Int),fnCmp] w fun e w'=>e=.returned (.tuple #[])/\SyRow w' g cap (srt l)/\w.grownBy w' (some g):=by
 have hc:=vh h 0 l.length (by omega) zn (by omega)
 have HC:Hid (Calls Tryz.prog 150 #[.slice (some ⟨g,0,none⟩) l.length cap,.int .i64 0,.int .i64 (l.length:Int),fnCmp] w fun e w'=>e=.returned (.tuple #[])/\SyRow w' g cap (srt l)/\w.grownBy w' (some g)):=hc
 have hn':(l.length:Int)<20:=by omega
 clear hc h
 generalize l.length=n at *
 unfold fnCmp at HC ⊢
 go_enter Tryz.func97,Tryz.ntmps97
 go_wp2_with fail
 refine wp_loop_rounds 1 ?_
 rw[rounds_succ]
 go_wp2_with fail
 refine HC.out.mono ?_
 rintro e w1 ⟨rfl,h1⟩
 have H1:=zh h1
 clear h1
 go_wp2_with fail
 refine wp_loop_rounds 1 ?_
 rw[rounds_succ]
 go_wp2_with fail
 go_end0
 exact⟨rfl,H1.out⟩
theorem stable_20 {w:World}{g cap:Nat}{l:List Sy}(h:SyRow w g cap l) (hn:l.length=20) :
  Calls Tryz.prog 97 #[.slice (some ⟨g,0,none⟩) 20 cap,.int .i64 20,fnCmp] w fun e w'=>e=.returned (.tuple #[])/\SyRow w' g cap (srt l)/\w.grownBy w' (some g):=by
 have hc:=vh h 0 20 (by omega) (by omega) (by omega)
 have e0:insS l 0 20=srt l:=by unfold srt;rw[hn]
 rw[hn,e0]at hc
 have HC:Hid (Calls Tryz.prog 150 #[.slice (some ⟨g,0,none⟩) 20 cap,.int .i64 0,.int .i64 20,fnCmp] w fun e w'=>e=.returned (.tuple #[])/\SyRow w' g cap (srt l)/\w.grownBy w' (some g)):=hc
 have hc2:∀ W,SyRow W g cap (srt l)->Calls Tryz.prog 150 #[.slice (some ⟨g,0,none⟩) 20 cap,.int .i64 20,.int .i64 20,fnCmp] W fun e w'=>e=.returned (.tuple #[])/\SyRow w' g cap (srt l)/\W.grownBy w' (some g):=by
  intro W hW
  have:=vh hW 20 20 (by omega) (by rw[kj];omega) (by rw[kj];omega)
  rw[insS_none,kj,hn]at this
  exact this
 have HC2:=zh hc2
 clear hc hc2 h
 unfold fnCmp at HC HC2 ⊢
 go_enter Tryz.func97,Tryz.ntmps97
 go_wp2_with fail
 refine wp_loop_rounds 2 ?_
 rw[rounds_succ]
 go_wp2_with fail
 refine HC.out.mono ?_
 rintro e w1 ⟨rfl,h1,h1g⟩
 have H1:=zh h1
 have G1:=zh h1g
 clear h1 h1g
 go_wp2_with fail
 rw[rounds_succ]
 go_wp2_with fail
 refine(HC2.out w1 H1.out).mono ?_
 rintro e w2 ⟨rfl,h2,h2g⟩
 have H2:=zh h2
 have G2:=zh (G1.out.trans h2g)
 clear h2 h2g
 go_wp2_with fail
 refine wp_loop_rounds 1 ?_
 rw[rounds_succ]
 go_wp2_with fail
 go_end0
 exact⟨rfl,H2.out,G2.out⟩
theorem ins_nil (w:World):Calls Tryz.prog 150 #[.slice none 0 0,.int .i64 0,.int .i64 0,fnCmp] w fun e w'=>e=.returned (.tuple #[])/\w'=w:=by
 unfold fnCmp
 go_enter Tryz.func150,Tryz.ntmps150
 go_wp2_with fail
 refine wp_loop_rounds 1 ?_
 rw[rounds_succ]
 go_wp2_with fail
 go_end0
 exact⟨rfl,rfl⟩
theorem stable_nil (w:World):Calls Tryz.prog 97 #[.slice none 0 0,.int .i64 0,fnCmp] w fun e w'=>e=.returned (.tuple #[])/\w'=w:=by
 have HC:=zh (ins_nil w)
 unfold fnCmp at HC ⊢
 go_enter Tryz.func97,Tryz.ntmps97
 go_wp2_with fail
 refine wp_loop_rounds 1 ?_
 rw[rounds_succ]
 go_wp2_with fail
 refine HC.out.mono ?_
 rintro e w1 ⟨rfl,rfl⟩
 go_wp2_with fail
 refine wp_loop_rounds 1 ?_
 rw[rounds_succ]
 go_wp2_with fail
 go_end0
 exact⟨rfl,rfl⟩
theorem sort_post {w:World}{g cap:Nat}{l:List Sy}(h:SyRow w g cap l) (hn:l.length<=20) :
  Calls Tryz.prog 64 #[.slice (some ⟨g,0,none⟩) l.length cap,fnCmp] w fun e w'=>e=.returned (.tuple #[])/\SyRow w' g cap (srt l)/\w.grownBy w' (some g):=by
 have hc:Calls Tryz.prog 97 #[.slice (some ⟨g,0,none⟩) l.length cap,.int .i64 (l.length:Int),fnCmp] w fun e w'=>e=.returned (.tuple #[])/\SyRow w' g cap (srt l)/\w.grownBy w' (some g):=by
  by_cases h20:l.length<20
  ·exact vU h h20
  ·have e:l.length=20:=by omega
   have:=stable_20 h e
   rw[e]
   exact this
 have HC:=zh hc
 clear hc h
 generalize l.length=n at *
 unfold fnCmp at HC ⊢
 go_enter Tryz.func64,Tryz.ntmps64
 go_wp2_with fail
 refine HC.out.mono ?_
 rintro e w1 ⟨rfl,h1⟩
 have H1:=zh h1
 clear h1
 go_wp2_with fail
 go_end0
 exact⟨rfl,H1.out⟩
theorem sort_nil (w:World):Calls Tryz.prog 64 #[.slice none 0 0,fnCmp] w fun e w'=>e=.returned (.tuple #[])/\w'=w:=by
 have HC:=zh (stable_nil w)
 unfold fnCmp at HC ⊢
 go_enter Tryz.func64,Tryz.ntmps64
 go_wp2_with fail
 refine HC.out.mono ?_
 rintro e w1 ⟨rfl,rfl⟩
 go_wp2_with fail
 go_end0
 exact⟨rfl,rfl⟩
theorem Tryz.infoSym:(Tryz.prog.info? 44).map (fun i=>(i.zero,i.size,i.bytes))=some (some (.agg #[.string ⟨#[]⟩,.int .i64 0,.int .i64 0]),3,32):=by kernel_rfl
def AskOG (w:World) (gn:Nat) (ga:Option Addr) (xs:Nat->List Sy):Prop :=
 ∀ i,i<gn->∃(g:Nat) (x0:List UInt8) (x1 x2:Nat) (x3:Bool),ga=some ⟨g,0,none⟩/\g<w.heap.size/\w.cell? ⟨g,i * 4,none⟩=some (.string (bs x0))/\w.cell? ⟨g,i * 4+1,none⟩=some (.int .i64 (x1:Int))/\w.cell? ⟨g,i * 4+2,none⟩=some (.int .i64 (x2:Int))/\w.cell? ⟨g,i * 4+3,none⟩=some (.bool x3) /\
  xs (i+1)=xs i++(if x3 then [(x0,x2,-1)] else [])
def AskOP (w:World) (pn:Nat) (pa:Option Addr) (xs:Nat->List Sy):Prop :=
 ∀ i,i<pn->∃(g:Nat) (x0:List UInt8) (x1:Nat) (x2:Bool) (y3 y4 y5:Option Addr) (n3 n4 n5 c3 c4 c5:Nat),pa=some ⟨g,0,none⟩/\g<w.heap.size/\w.cell? ⟨g,i * 6,none⟩=some (.string (bs x0))/\w.cell? ⟨g,i * 6+1,none⟩=some (.int .i64 (x1:Int))/\w.cell? ⟨g,i * 6+2,none⟩=some (.bool x2)/\w.cell? ⟨g,i * 6+3,none⟩=some (.slice y3 n3 c3)/\w.cell? ⟨g,i * 6+4,none⟩=some (.slice y4 n4 c4)/\w.cell? ⟨g,i * 6+5,none⟩=some (.slice y5 n5 c5) /\
  xs (i+1)=xs i++(if x2 then [(x0,0,(n3:Int))] else [])
def SL (w:World) (B:Nat) (v:Value) (l:List Sy):Prop:=v=.slice none 0 0/\l=[]\/∃ g cap,v=.slice (some ⟨g,0,none⟩) l.length cap/\B<=g/\SyRow w g cap l
theorem uf {w:World}{base n:Nat}{v:Value}{l:List Sy}(h:w.ownsRow base 44 3 v n (sycs l)):n=l.length/\SL w base v l:=by
 have hn:n=l.length:=by have:=h.1;rw[jj]at this;omega
 refine⟨hn,?_⟩
 rcases h.2 with⟨rfl,h2⟩|⟨g,cap,cur,rfl,q1,q2,q3,q4,q5,q6⟩
 ·exact Or.inl ⟨rfl,List.eq_nil_of_length_eq_zero (by omega)⟩
 ·subst hn
  exact Or.inr ⟨g,cap,rfl,q1,⟨⟨cur,q2,q5,q6⟩,q3,q4⟩⟩
theorem newsSy (w:World) (o:Obj) (v0 v1 v2:Value) (t:TypeId):∀(j:Nat) (u:Value),([v0,v1,v2]:List Value)[j]?=some u->((w.alloc o).alloc (.cells #[v0,v1,v2] t)).cell? ((⟨w.heap.size+1,0,none⟩:Addr).add j)=some u:=by
 intro j u hj
 rw[Addr.add_lit,za (jn _ _ _),Nat.zero_add]
 simpa using hj
theorem of_walk {w:World}{nm:List UInt8}{inn gn pn bn ic gc pc bc:Nat}{ia ga pa ba:Option Addr}{mg mp:Nat->List Sy}(hg0:mg 0=[]) (hG:AskOG w gn ga mg) (hp0:mp 0=mg gn) (hP:AskOP w pn pa mp) (hgl:∀ i,(mg i).length<=1000) (hpl:∀ i,(mp i).length<=1000) (hlast:(mp pn).length<=20) (hgn:gn<=1000000000) (hpn:pn<=1000000000) :
  Calls Tryz.prog 25 #[.agg #[.string (bs nm),.slice ia inn ic,.slice ga gn gc,.slice pa pn pc,.slice ba bn bc]] w fun e w'=>∃ v,e=.returned v/\Below w.heap.size w w'/\SL w' w.heap.size v (srt (mp pn)):=by
 obtain⟨i3,hi3,hz30,hz31,hz32⟩:=info_parts Tryz.infoSym
 have hblk:(w.alloc (.cells #[.string (bs nm),.slice ia inn ic,.slice ga gn gc,.slice pa pn pc,.slice ba bn bc] 29)).heap[w.heap.size]?=some (.cells #[.string (bs nm),.slice ia inn ic,.slice ga gn gc,.slice pa pn pc,.slice ba bn bc] 29 (0,0)):=zk _ _
 obtain⟨k0,k1,k2,k3,k4⟩:=uU hblk
 have HG0:=zh hg0
 have HG:=zh hG
 have HP0:=zh hp0
 have HP:=zh hP
 have HLA:=zh hlast
 have HGL:=zh hgl
 have HPL:=zh hpl
 have HK:=zh hblk
 have hgn':(gn:Int)<=1000000000:=by omega
 have hpn':(pn:Int)<=1000000000:=by omega
 clear hg0 hG hp0 hP hlast hgl hpl hblk k0 k1 k3 k4
 go_enter Tryz.func25,Tryz.ntmps25
 go_wp2_with fail
 go_loopg [3,11] gn (fun k v vi wr=>∃ i:Nat,i<=gn/\k=gn - i/\vi=.int .i64 (i:Int)/\Hid (wr.ownsRow (w.heap.size+1) 44 3 v (mg i).length (sycs (mg i)))/\Hid (Below (w.heap.size+1) (w.alloc (.cells #[.string (bs nm),.slice ia inn ic,.slice ga gn gc,.slice pa pn pc,.slice ba bn bc] 29)) wr))
 case atStart=>exact⟨0,by omega,by omega,rfl,by unfold Hid;rw[HG0.out];exact World.ownsRow_nil _ _ _ _,Below.refl _ _⟩
 case round =>
  obtain⟨i,hid,hk,rfl,HO,HB⟩:=hrel
  have hown:=HO.out
  have hml:=HGL.out i
  have hsz:=HB.out.size
  have hsz1:(w.alloc (.cells #[.string (bs nm),.slice ia inn ic,.slice ga gn gc,.slice pa pn pc,.slice ba bn bc] 29)).heap.size=w.heap.size+1:=by simp
  by_cases hlt:i<gn
  ·have hlt':(i:Int)<(gn:Int):=by omega
   obtain⟨g,x0,x1,x2,x3,hga,hgB,c0,c1',c2,c3,hx⟩:=HG.out i hlt
   subst hga
   have hcell:∀(o:Nat) (u:Value),w.cell? ⟨g,o,none⟩=some u->wr.cell? ⟨g,o,none⟩=some u:=fun o u h=>(HB.out.cell (p:=⟨g,o,none⟩) (by simp;omega)).trans (zV h _)
   have kc0:=hcell _ _ c0
   have kc1:=hcell _ _ c1'
   have kc2:=hcell _ _ c2
   have kc3:=hcell _ _ c3
   have hlgr:g<wr.heap.size:=by omega
   obtain⟨a1,c1,hv⟩:=zl hown
   subst hv
   clear c0 c1' c2 c3 hcell HO
   cases x3 with
   | true =>
    have hownA:=(hown.alloc (.cells #[.string (bs x0),.int .i64 (x1:Int),.int .i64 (x2:Int),.bool true] 118)).alloc (.cells #[.string (bs x0),.int .i64 (x2:Int),.int .i64 (-1)] 44)
    go_wp2_with (at_builtin;refine zC _ rfl _ _ 41 rfl (w.heap.size+1) 44 i3 (.agg #[.string ⟨#[]⟩,.int .i64 0,.int .i64 0]) 3 32 Tryz.underlying41 hi3 hz30 hz31 hz32 rfl (by decide) _ _ _ rfl hownA ⟨wr.heap.size+1,0,none⟩ 1 1 [.string (bs x0),.int .i64 (x2:Int),.int .i64 (-1)] rfl rfl (newsSy wr _ _ _ _ _) (by intro u hu;simp at hu;rcases hu with rfl|rfl|rfl <;> rfl) (by unfold maxLen;omega) (by omega) (by simp;omega) ?_)
    intro v3 w3 hown3 hgrow3 _
    have HB3:=zh ((((HB.out.alloc (by omega) _).alloc (by simp;omega) _)).grown hgrow3 (by simp;omega) (fun k hk=>(hownA.lt k hk).1))
    have HO3:Hid (w3.ownsRow (w.heap.size+1) 44 3 v3 (mg (i+1)).length (sycs (mg (i+1)))):=by
     unfold Hid
     rw[show mg (i+1)=mg i++[(x0,x2,(-1))] by simpa using hx,sycs_app,List.length_append]
     exact hown3
    clear hown3 hgrow3 hownA hown
    go_wp2_with fail
    go_roundg (gn - (i+1))
    case measure=>omega
    case rel=>exact⟨i+1,by omega,rfl,by go_num,HO3,HB3⟩
   | false =>
    have HB3:∀ ob,Below (w.heap.size+1) _ (wr.alloc ob):=fun ob=>HB.out.alloc (by omega) _
    have HO3:∀ ob,Hid ((wr.alloc ob).ownsRow (w.heap.size+1) 44 3 (.slice a1 (mg i).length c1) (mg (i+1)).length (sycs (mg (i+1)))):=by
     intro ob
     unfold Hid
     rw[show mg (i+1)=mg i by simpa using hx]
     exact hown.alloc ob
    have HB3':=zh HB3
    clear hown HB3
    go_wp2_with fail
    go_roundg (gn - (i+1))
    case measure=>omega
    case rel=>exact⟨i+1,by omega,rfl,by go_num,HO3 _,HB3'.out _⟩
  ·have hlt':¬(i:Int)<(gn:Int):=by omega
   have hei:i=gn:=by omega
   have HO2:Hid (wr.ownsRow (w.heap.size+1) 44 3 u3 (mp 0).length (sycs (mp 0))):=by unfold Hid;rw[HP0.out,<-hei];exact hown
   have HB2:=HB
   have k3:wr.cell? ⟨w.heap.size,3,none⟩=some (.slice pa pn pc):=(HB.out.cell (p:=⟨w.heap.size,3,none⟩) (by simp)).trans (uU HK.out).2.2.2.1
   have hltb:w.heap.size<wr.heap.size:=by omega
   clear HO hown HB HG HG0 hei hid hk hml hsz k2
   go_wp2_with fail
   go_loopg [3,29] pn (fun k v vi wr=>∃ i:Nat,i<=pn/\k=pn - i/\vi=.int .i64 (i:Int)/\Hid (wr.ownsRow (w.heap.size+1) 44 3 v (mp i).length (sycs (mp i)))/\Hid (Below (w.heap.size+1) (w.alloc (.cells #[.string (bs nm),.slice ia inn ic,.slice ga gn gc,.slice pa pn pc,.slice ba bn bc] 29)) wr))
   case atStart=>exact⟨0,by omega,by omega,rfl,HO2,HB2⟩
   case round =>
    obtain⟨j,hjd,hk2,rfl,HO,HB⟩:=hrel
    clear HO2 HB2 k3 hltb
    have hown:=HO.out
    have hml:=HPL.out j
    have hsz:=HB.out.size
    by_cases hlt2:j<pn
    ·have hlt2':(j:Int)<(pn:Int):=by omega
     obtain⟨g,x0,x1,x2,y3,y4,y5,n3,n4,n5,d3,d4,d5,hpa,hgB,c0,c1',c2,c3,c4,c5,hx⟩:=HP.out j hlt2
     subst hpa
     have hcell:∀(o:Nat) (u:Value),w.cell? ⟨g,o,none⟩=some u->wr.cell? ⟨g,o,none⟩=some u:=fun o u h=>(HB.out.cell (p:=⟨g,o,none⟩) (by simp;omega)).trans (zV h _)
     have kc0:=hcell _ _ c0
     have kc1:=hcell _ _ c1'
     have kc2:=hcell _ _ c2
     have kc3:=hcell _ _ c3
     have kc4:=hcell _ _ c4
     have kc5:=hcell _ _ c5
     have hlgr:g<wr.heap.size:=by omega
     obtain⟨a1,c1,hv⟩:=zl hown
     subst hv
     clear c0 c1' c2 c3 c4 c5 hcell HO
     cases x2 with
     | true =>
      have hownA:=(hown.alloc (.cells #[.string (bs x0),.int .i64 (x1:Int),.bool true,.slice y3 n3 d3,.slice y4 n4 d4,.slice y5 n5 d5] 79)).alloc (.cells #[.string (bs x0),.int .i64 0,.int .i64 (n3:Int)] 44)
      go_wp2_with (at_builtin;refine zC _ rfl _ _ 41 rfl (w.heap.size+1) 44 i3 (.agg #[.string ⟨#[]⟩,.int .i64 0,.int .i64 0]) 3 32 Tryz.underlying41 hi3 hz30 hz31 hz32 rfl (by decide) _ _ _ rfl hownA ⟨wr.heap.size+1,0,none⟩ 1 1 [.string (bs x0),.int .i64 0,.int .i64 (n3:Int)] rfl rfl (newsSy wr _ _ _ _ _) (by intro u hu;simp at hu;rcases hu with rfl|rfl|rfl <;> rfl) (by unfold maxLen;omega) (by omega) (by simp;omega) ?_)
      intro v3 w3 hown3 hgrow3 _
      have HB3:=zh ((((HB.out.alloc (by omega) _).alloc (by simp;omega) _)).grown hgrow3 (by simp;omega) (fun k hk=>(hownA.lt k hk).1))
      have HO3:Hid (w3.ownsRow (w.heap.size+1) 44 3 v3 (mp (j+1)).length (sycs (mp (j+1)))):=by
       unfold Hid
       rw[show mp (j+1)=mp j++[(x0,0,(n3:Int))] by simpa using hx,sycs_app,List.length_append]
       exact hown3
      clear hown3 hgrow3 hownA hown
      go_wp2_with fail
      go_roundg (pn - (j+1))
      case measure=>omega
      case rel=>exact⟨j+1,by omega,rfl,by go_num,HO3,HB3⟩
     | false =>
      have HB3:∀ ob,Below (w.heap.size+1) _ (wr.alloc ob):=fun ob=>HB.out.alloc (by omega) _
      have HO3:∀ ob,Hid ((wr.alloc ob).ownsRow (w.heap.size+1) 44 3 (.slice a1 (mp j).length c1) (mp (j+1)).length (sycs (mp (j+1)))):=by
       intro ob
       unfold Hid
       rw[show mp (j+1)=mp j by simpa using hx]
       exact hown.alloc ob
      have HB3':=zh HB3
      clear hown HB3
      go_wp2_with fail
      go_roundg (pn - (j+1))
      case measure=>omega
      case rel=>exact⟨j+1,by omega,rfl,by go_num,HO3 _,HB3'.out _⟩
    ·have hlt2':¬(j:Int)<(pn:Int):=by omega
     have hej:j=pn:=by omega
     rw[hej]at hown
     obtain⟨hln,hsl⟩:=uf hown
     have HBF:Hid (Below w.heap.size w wr):=(((Below.refl w.heap.size w).alloc zn _).trans (HB.out.mono (by omega)))
     rcases hsl with⟨rfl,hnil⟩|⟨g,cap,rfl,hge,hrow⟩
     ·have HS:=zh (sort_nil wr)
      have hz0:srt (mp pn)=[]:=List.eq_nil_of_length_eq_zero (by rw[kj,hnil];rfl)
      unfold fnCmp at HS
      clear hown HO HB HP HP0 hej hml hsz
      go_wp2_with fail
      refine HS.out.mono ?_
      rintro e w9 ⟨rfl,rfl⟩
      go_wp2_with fail
      go_ret
      exact⟨_,rfl,HBF.out,Or.inl ⟨rfl,hz0⟩⟩
     ·have HS:=zh (sort_post hrow HLA.out)
      have HGE:=zh hge
      unfold fnCmp at HS
      have hlr:(srt (mp pn)).length=(mp pn).length:=kj _
      generalize (mp pn).length=ln at *
      clear hown HO HB HP HP0 hej hml hsz hrow hge
      go_wp2_with fail
      refine HS.out.mono ?_
      rintro e w9 ⟨rfl,h9,g9⟩
      have H9:=zh h9
      have G9:=zh g9
      clear h9 g9
      go_wp2_with fail
      go_ret
      refine⟨.slice (some ⟨g,0,none⟩) ln cap,rfl,HBF.out.trans ?_,Or.inr ⟨g,cap,by rw[hlr],by have:=HGE.out;omega,H9.out⟩⟩
      exact(Below.refl w.heap.size wr).grown G9.out (by have:=HBF.out.size;omega) (fun k hk=>by cases hk;have:=HGE.out;omega)
end Go.Proofs.YtmocelfkmdpogaaGreatDoor
