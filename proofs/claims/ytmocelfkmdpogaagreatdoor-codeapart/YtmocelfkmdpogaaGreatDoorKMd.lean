import Derived.Test.YtmocelfkmdpogaaGreatDoorKMc
import Derived.Deep.QuietTactic
import Derived.BigQuiet
set_option maxRecDepth 100000
set_option maxHeartbeats 4000000
namespace Go.Proofs.YtmocelfkmdpogaaGreatDoor
open Go.RowKit Go.Maps
open Tp (Bs Th Sy Seen)
def CkP (w:World) (res:Option (Nat× Nat)) (e:Ending) (w':World):Prop:=Below w.heap.size w w'/\match res with
 | none=>e=.returned (.tuple #[])
 | some er=>Thrown w.heap.size er e w'
def RefB (w:World) (b:Nat) (r:Tp.R):Prop:=∃(n:Int) (op:ByteArray) (lv rv:Option Addr) (aa:Option Addr) (ac:Nat),w.heap[b]?=some (.cells #[.int .i64 (r.code:Int),.int .i64 (r.pos:Int),.int .i64 n,.string (bs r.mod),.string (bs r.name),.string op,.pointer lv,.pointer rv,.slice aa r.args ac] 90 (0,0))
def refRes (code pos args:Nat) (a:Nat) (bb:Int) (ee:Nat):Option (Nat× Nat):=if ee≠0 then some (ee,pos) else if Tp.kindOf (a,bb)≠code then some (1,pos) else if code=6/\(args:Int)≠bb then some (2,pos) else none
theorem jt {w:World}{b x code pos args a ee:Nat}{bb n:Int}{md nm:Bs}{op:ByteArray}{lv rv aa:Option Addr}{ac:Nat}(hblk:w.heap[x]?=some (.cells #[.int .i64 (code:Int),.int .i64 (pos:Int),.int .i64 n,.string (bs md),.string (bs nm),.string op,.pointer lv,.pointer rv,.slice aa args ac] 90 (0,0)))
  (hF:∀ W,Below w.heap.size w W->Calls Tryz.prog 74 #[.string (bs md),.string (bs nm),.pointer (some ⟨b,0,none⟩),.pointer (some ⟨b+1,0,none⟩)] W fun e w'=>e=.returned (.tuple #[.agg #[.int .i64 (a:Int),.int .i64 bb],.int .i64 (ee:Int)])/\Below W.heap.size W w') (hc:code<1000) :
  Calls Tryz.prog 105 #[.pointer (some ⟨x,0,none⟩),finderV b] w (CkP w (refRes code pos args a bb ee)):=by
 have hxl:=zi hblk
 have c3:w.cell? ⟨x,3,none⟩=some (.string (bs md)):=(za hblk).trans rfl
 have c4:w.cell? ⟨x,4,none⟩=some (.string (bs nm)):=(za hblk).trans rfl
 have HC:Hid (w.drew.cell? ⟨x,3,none⟩=some (.string (bs md))/\w.drew.cell? ⟨x,4,none⟩=some (.string (bs nm))):=⟨c3,c4⟩
 have HC':Hid (∀ ob,(w.alloc ob).drew.cell? ⟨x,3,none⟩=some (.string (bs md))/\(w.alloc ob).drew.cell? ⟨x,4,none⟩=some (.string (bs nm))):=fun ob=>⟨kh c3 _,kh c4 _⟩
 have HK:=zh hblk
 have HF:=zh hF
 have HCD:=zh (show w.cell? ⟨x,3,none⟩=some (.string (bs md))/\w.cell? ⟨x,4,none⟩=some (.string (bs nm)) from⟨c3,c4⟩)
 clear hblk hF
 unfold finderV
 go_enter Tryz.func105,Tryz.ntmps105
 go_upto_region 0 with fail
 go_cut [4,5] (fun s4 s5 wc=>∃ ib:Nat,s4=.pointer (some ⟨ib,0,none⟩)/\s5=.int .i64 (ee:Int)/\Below w.heap.size w wc/\wc.heap[ib]?=some (.cells #[.int .i64 (a:Int),.int .i64 bb] 137 (0,0))/\w.heap.size<=ib)
 case first =>
  go_region_held3 (fun w'=>w'.cell? ⟨x,3,none⟩=some (.string (bs md))/\w'.cell? ⟨x,4,none⟩=some (.string (bs nm))) (with_reducible (first|exact HC4.out _|exact HC3.out|exact HC.out|exact HC'.out _|exact HCS.out _ _|fail "KEEP")) (first|(go_at_call 74;first|(refine(HF.out w.drew ((Below.refl _ _).drew)).mono ?_;rintro e w2 ⟨rfl,hb2⟩;have HB2:Hid (Below w.heap.size w w2):=((Below.refl _ _).drew).trans hb2;have HC3:Hid (w2.cell? ⟨x,3,none⟩=some (.string (bs md))/\w2.cell? ⟨x,4,none⟩=some (.string (bs nm))):=⟨(HB2.out.cell (p:=⟨x,3,none⟩) hxl).trans HCD.out.1,(HB2.out.cell (p:=⟨x,4,none⟩) hxl).trans HCD.out.2⟩;have HC4:Hid (∀ ob,(w2.alloc ob).cell? ⟨x,3,none⟩=some (.string (bs md))/\(w2.alloc ob).cell? ⟨x,4,none⟩=some (.string (bs nm))):=fun ob=>⟨kh HC3.out.1 _,kh HC3.out.2 _⟩;clear hb2)|(refine(HF.out (w.alloc _).drew ((zb _ _).drew)).mono ?_;rintro e w2 ⟨rfl,hb2⟩;have HB2:Hid (Below w.heap.size w w2):=((zb _ _).drew).trans (hb2.mono (by simp));have HIB:Hid (w2.heap[w.heap.size]?=some (.cells #[.int .i64 0,.int .i64 0] 137 (0,0))):=(hb2.block w.heap.size (by simp)).trans (zk w _);have kb0:w2.cell? ⟨w.heap.size,0,none⟩=some (.int .i64 0):=(za HIB.out).trans rfl;have kb1:w2.cell? ⟨w.heap.size,1,none⟩=some (.int .i64 0):=(za HIB.out).trans rfl;have zb0:w2.frozen? ⟨w.heap.size,0,none⟩=false:=zg HIB.out;have zb1:w2.frozen? ⟨w.heap.size,1,none⟩=false:=zg HIB.out;have HC3:Hid (w2.cell? ⟨x,3,none⟩=some (.string (bs md))/\w2.cell? ⟨x,4,none⟩=some (.string (bs nm))):=⟨(HB2.out.cell (p:=⟨x,3,none⟩) hxl).trans HCD.out.1,(HB2.out.cell (p:=⟨x,4,none⟩) hxl).trans HCD.out.2⟩;have HCS:Hid (∀ u v,((w2.setCell ⟨w.heap.size,0,none⟩ u).setCell ⟨w.heap.size,1,none⟩ v).cell? ⟨x,3,none⟩=some (.string (bs md))/\((w2.setCell ⟨w.heap.size,0,none⟩ u).setCell ⟨w.heap.size,1,none⟩ v).cell? ⟨x,4,none⟩=some (.string (bs nm))):=fun u v=>⟨by rw[World.cell?_setCell_far _ _ _ _ (by simp;omega),World.cell?_setCell_far _ _ _ _ (by simp;omega)];exact HC3.out.1,by rw[World.cell?_setCell_far _ _ _ _ (by simp;omega),World.cell?_setCell_far _ _ _ _ (by simp;omega)];exact HC3.out.2⟩;clear hb2)))
  ·go_wp2_with fail
   go_meet
   case rel=>exact⟨w2.heap.size,rfl,rfl,HB2.out.alloc (by have:=HB2.out.size;omega) _,zk _ _,HB2.out.size⟩
  ·go_wp2_with fail
   go_meet
   case rel=>exact⟨w.heap.size,rfl,rfl,zq (zq HB2.out zn 0 _) zn 1 _,zw 1 _ (zw 0 _ HIB.out),Nat.le_refl _⟩
 case rest =>
  obtain⟨ib,rfl,rfl,hbw,hib,hge⟩:=hcut
  have hsz:=hbw.size
  have e0:=(hbw.block x hxl).trans HK.out
  have k0:wc.cell? ⟨x,0,none⟩=some (.int .i64 (code:Int)):=(za e0).trans rfl
  have k1:wc.cell? ⟨x,1,none⟩=some (.int .i64 (pos:Int)):=(za e0).trans rfl
  have k8:wc.cell? ⟨x,8,none⟩=some (.slice aa args ac):=(za e0).trans rfl
  have i0:wc.cell? ⟨ib,0,none⟩=some (.int .i64 (a:Int)):=(za hib).trans rfl
  have i1:wc.cell? ⟨ib,1,none⟩=some (.int .i64 bb):=(za hib).trans rfl
  have hxl1:x<wc.heap.size:=by omega
  have hil1:ib<wc.heap.size:=zi hib
  have HBW:=zh hbw
  have HIB:=zh hib
  have HE0:=zh e0
  clear hbw hib e0 c3 c4 HC HC' HF HCD HK
  by_cases hee:ee=0
  ·subst hee
   have hc':(code:Int)<1000:=by omega
   have HKI:Hid (wc.drew.cell? ⟨ib,0,none⟩=some (.int .i64 (a:Int))/\wc.drew.cell? ⟨ib,1,none⟩=some (.int .i64 bb)/\wc.drew.cell? ⟨x,0,none⟩=some (.int .i64 (code:Int))):=⟨i0,i1,k0⟩
   have HKI':Hid (∀ W,Below wc.heap.size wc W->W.cell? ⟨ib,0,none⟩=some (.int .i64 (a:Int))/\W.cell? ⟨ib,1,none⟩=some (.int .i64 bb)/\W.cell? ⟨x,0,none⟩=some (.int .i64 (code:Int))):=fun W hW=>⟨(hW.cell (p:=⟨ib,0,none⟩) hil1).trans i0,(hW.cell (p:=⟨ib,1,none⟩) hil1).trans i1,(hW.cell (p:=⟨x,0,none⟩) hxl1).trans k0⟩
   obtain⟨kd,hkd⟩:∃ kd,kd=Tp.kindOf (a,bb):=⟨_,rfl⟩
   have HKA:Hid (Calls Tryz.prog 160 #[.agg #[.int .i64 (a:Int),.int .i64 bb]] wc.drew fun e w'=>e=.returned (.int .i64 (kd:Int))/\Below wc.heap.size wc w'):=by
    rw[hkd]
    exact(kind_any a bb wc.drew).mono fun e w' q=>⟨q.1,((Below.refl _ _).drew).trans q.2⟩
   have hkn:kd<1000:=by rw[hkd];unfold Tp.kindOf;split <;> (try split) <;> omega
   have HRES:Hid (refRes code pos args a bb 0=if kd≠code then some (1,pos) else if code=6/\(args:Int)≠bb then some (2,pos) else none):=by unfold Hid refRes;rw[if_neg (by simp),hkd]
   clear hkd
   go_wp2_with fail
   go_region_held3 (fun w'=>w'.cell? ⟨ib,0,none⟩=some (.int .i64 (a:Int))/\w'.cell? ⟨ib,1,none⟩=some (.int .i64 bb)/\w'.cell? ⟨x,0,none⟩=some (.int .i64 (code:Int))) (with_reducible (first|exact HKI2.out|exact HKI.out|fail "KEEP")) (first|(go_at_call 160;refine HKA.out.mono ?_;rintro e w3 ⟨rfl,hb3⟩;have HB3:=zh hb3;have HKI2:=zh (HKI'.out w3 hb3);clear hb3))
   have hb3:=HB3.out
   have hsz3:=hb3.size
   have k1':w3.cell? ⟨x,1,none⟩=some (.int .i64 (pos:Int)):=(hb3.cell (p:=⟨x,1,none⟩) hxl1).trans k1
   have k8':w3.cell? ⟨x,8,none⟩=some (.slice aa args ac):=(hb3.cell (p:=⟨x,8,none⟩) hxl1).trans k8
   obtain⟨j0,j1,j2⟩:=HKI2.out
   have hxl3:x<w3.heap.size:=by omega
   have hil3:ib<w3.heap.size:=by omega
   have HBW3:Hid (Below w.heap.size w w3):=HBW.out.trans (hb3.mono hsz)
   have hszw:w.heap.size<=w3.heap.size:=by omega
   clear hb3 i0 i1 k0 k1 k8 HKI HKI' HKA HB3 HKI2
   by_cases hkc:kd=code
   ·subst hkc
    by_cases h6:kd=6
    ·subst h6
     by_cases hab:(args:Int)=bb
     ·subst hab
      have HR2:Hid (refRes 6 pos args a (args:Int) 0=none):=by unfold Hid;rw[HRES.out];simp
      clear HRES
      go_wp2_with fail
      go_quiet (fail)
      go_wp2_with fail
      refine bodyPost_end (results_none rfl _ _ _) rfl ⟨below_drewN HBW3.out _,?_⟩
      rw[HR2.out]
     ·have hab':((args:Int) != bb)=true:=by simpa using hab
      have HR2:Hid (refRes 6 pos args a bb 0=some (2,pos)):=by unfold Hid;rw[HRES.out];simp[hab]
      clear HRES hab
      go_wp2_with fail
      go_quiet (fail)
      go_wp2_with fail
      refine(kN 2 pos _).mono ?_
      rintro e w4 ⟨ht,hb4⟩
      have HB4:Hid (Below w.heap.size w w4):=(below_drewN HBW3.out _).trans (hb4.mono hszw)
      have HT4:=zh (ht.mono (B':=w.heap.size) hszw)
      obtain⟨ab,q1,rfl,q2,q3⟩:=ht.out
      clear ht hb4 q1 q2 q3
      go_wp2_with fail
      refine⟨rfl,HB4.out,?_⟩
      rw[HR2.out]
      exact HT4.out
    ·have h6':((kd:Int) == 6)=false:=by simp;omega
     have HR2:Hid (refRes kd pos args a bb 0=none):=by unfold Hid;rw[HRES.out];simp[h6]
     clear HRES h6
     go_wp2_with fail
     go_quiet (fail)
     go_wp2_with fail
     refine bodyPost_end (results_none rfl _ _ _) rfl ⟨below_drewN HBW3.out _,?_⟩
     rw[HR2.out]
   ·have hkc':((kd:Int) != (code:Int))=true:=by simp;omega
    have HR2:Hid (refRes code pos args a bb 0=some (1,pos)):=by unfold Hid;rw[HRES.out,if_pos hkc]
    clear HRES hkc
    go_wp2_with fail
    refine(kN 1 pos _).mono ?_
    rintro e w4 ⟨ht,hb4⟩
    have HB4:Hid (Below w.heap.size w w4):=HBW3.out.trans (hb4.mono hszw)
    have HT4:=zh (ht.mono (B':=w.heap.size) hszw)
    obtain⟨ab,q1,rfl,q2,q3⟩:=ht.out
    clear ht hb4 q1 q2 q3
    go_wp2_with fail
    refine⟨rfl,HB4.out,?_⟩
    rw[HR2.out]
    exact HT4.out
  ·have hee':((ee:Int) != 0)=true:=by simp;omega
   have HR2:Hid (refRes code pos args a bb ee=some (ee,pos)):=by unfold Hid refRes;rw[if_pos hee]
   clear hee
   go_wp2_with fail
   refine(kN ee pos _).mono ?_
   rintro e w4 ⟨ht,hb4⟩
   have HB4:Hid (Below w.heap.size w w4):=HBW.out.trans (hb4.mono hsz)
   have HT4:=zh (ht.mono (B':=w.heap.size) hsz)
   obtain⟨ab,q1,rfl,q2,q3⟩:=ht.out
   clear ht hb4 q1 q2 q3
   go_wp2_with fail
   refine⟨rfl,HB4.out,?_⟩
   rw[HR2.out]
   exact HT4.out
theorem standV_err {S:Seen}{fs:Near}{md nm:Bs}{er:Nat}(h:Tp.standV S fs md nm=.error er):er≠0:=by
 unfold Tp.standV at h
 split at h
 ·split at h
  ·cases h;omega
  ·split at h
   ·cases h
   ·cases h;omega
 ·split at h
  ·cases h
  ·cases h;omega
theorem ju {w:World}{b:Nat}{S:Seen}{fs:Near}(h:Fnd w b S fs) (hfn:fs.length<=1000) {x:Nat}{r:Tp.R}(hx:RefB w x r) (hl:r.mod.length<=1000000) (hl2:r.name.length<=1000000) (hc:r.code<1000) :
  Calls Tryz.prog 105 #[.pointer (some ⟨x,0,none⟩),finderV b] w (CkP w (Tp.judgeP (Tp.standV S fs) r)):=by
 obtain⟨n,op,lv,rv,aa,ac,hblk⟩:=hx
 obtain⟨code,pos,md,nm,args⟩:=r
 simp only at hblk hl hl2 hc
 have hF:=fun W (hW:Below w.heap.size w W)=>uE (h.on hW) hfn md nm hl hl2
 cases hst:Tp.standV S fs md nm with
 | error er =>
  rw[hst]at hF
  have:=jt (a:=0) (bb:=0) (ee:=er) hblk hF hc
  have e1:refRes code pos args 0 0 er=Tp.judgeP (Tp.standV S fs) ⟨code,pos,md,nm,args⟩:=by
   unfold refRes Tp.judgeP
   simp only [hst]
   rw[if_pos (standV_err hst)]
  rw[<-e1]
  exact this
 | ok s =>
  obtain⟨a,bb⟩:=s
  rw[hst]at hF
  have:=jt (a:=a) (bb:=bb) (ee:=0) hblk hF hc
  have e1:refRes code pos args a bb 0=Tp.judgeP (Tp.standV S fs) ⟨code,pos,md,nm,args⟩:=by
   unfold refRes Tp.judgeP
   simp only [hst]
   rw[if_neg (by simp)]
  rw[<-e1]
  exact this
theorem CkP.up {w W w':World}{res:Option (Nat× Nat)}{e:Ending}(h:CkP W res e w') (k:Below w.heap.size w W):CkP w res e w':=by
 obtain⟨h1,h2⟩:=h
 refine⟨k.trans (h1.mono k.size),?_⟩
 cases res with
 | none=>exact h2
 | some er=>exact Thrown.mono h2 k.size
theorem xg {w:World}{b:Nat}{S:Seen}{fs:Near}(h:Fnd w b S fs) (hfn:fs.length<=1000) {code pos:Nat}{nm:Bs}{iv vv ta ea:Option Addr}{tn tc en ec:Nat}(hl:nm.length<=1000000) :
  Calls Tryz.prog 72 #[.agg #[.int .i64 (code:Int),.int .i64 (pos:Int),.string (bs nm),.pointer iv,.pointer vv,.slice ta tn tc,.slice ea en ec],finderV b] w (CkP w (Tp.judgeP (Tp.standV S fs) ⟨if iv=none then 2 else 3,pos,[],nm,0⟩)):=by
 have HC:Hid (∀ W x cd,Below w.heap.size w W->W.heap[x]?=some (.cells #[.int .i64 (cd:Nat),.int .i64 (pos:Int),.int .i64 0,.string ⟨#[]⟩,.string (bs nm),.string ⟨#[]⟩,.pointer none,.pointer none,.slice none 0 0] 90 (0,0))->cd<1000->Calls Tryz.prog 105 #[.pointer (some ⟨x,0,none⟩),finderV b] W (CkP w (Tp.judgeP (Tp.standV S fs) ⟨cd,pos,[],nm,0⟩))):=by
  intro W x cd hW hx hcd
  refine(ju (r:=⟨cd,pos,[],nm,0⟩) (h.on hW) hfn ⟨0,⟨#[]⟩,none,none,none,0,hx⟩ (by simp) hl hcd).mono ?_
  intro e w' hq
  exact hq.up hW
 unfold finderV at HC ⊢
 clear h
 cases iv with
 | none =>
  rw[if_pos rfl]
  have HC2:=zh (fun W x=>HC.out W x 2)
  clear HC
  generalize Tp.judgeP (Tp.standV S fs) ⟨2,pos,[],nm,0⟩=res at HC2 ⊢
  have hbe:∀ o1 o2,Below w.heap.size w ((w.alloc o1).alloc o2):=fun o1 o2=>(zb _ _).alloc (by simp) _
  have HBE:=zh hbe
  clear hbe
  go_enter Tryz.func72,Tryz.ntmps72
  go_wp2_with fail
  refine(HC2.out _ _ (HBE.out _ _) (by simpa using zk (w.alloc _) _) (by omega)).mono ?_
  intro e w' hq
  cases res with
  | none =>
   have HQ:=zh hq
   obtain⟨q1,q2⟩:=hq
   simp only at q2
   subst q2
   clear q1
   go_wp2_with fail
   exact bodyPost_end (results_none rfl _ _ _) rfl HQ.out
  | some er =>
   have HQ:=zh hq
   obtain⟨q1,q2⟩:=hq
   obtain⟨ab,q3,rfl,q4,q5⟩:=q2.out
   clear q1 q2 q3 q4 q5
   go_wp2_with fail
   exact⟨rfl,HQ.out⟩
 | some i0 =>
  rw[if_neg (by simp)]
  have HC2:=zh (fun W x=>HC.out W x 3)
  clear HC
  generalize Tp.judgeP (Tp.standV S fs) ⟨3,pos,[],nm,0⟩=res at HC2 ⊢
  have hbe:∀ o1 o2,Below w.heap.size w ((w.alloc o1).alloc o2):=fun o1 o2=>(zb _ _).alloc (by simp) _
  have HBE:=zh hbe
  clear hbe
  go_enter Tryz.func72,Tryz.ntmps72
  go_wp2_with fail
  refine(HC2.out _ _ (HBE.out _ _) (by simpa using zk (w.alloc _) _) (by omega)).mono ?_
  intro e w' hq
  cases res with
  | none =>
   have HQ:=zh hq
   obtain⟨q1,q2⟩:=hq
   simp only at q2
   subst q2
   clear q1
   go_wp2_with fail
   exact bodyPost_end (results_none rfl _ _ _) rfl HQ.out
  | some er =>
   have HQ:=zh hq
   obtain⟨q1,q2⟩:=hq
   obtain⟨ab,q3,rfl,q4,q5⟩:=q2.out
   clear q1 q2 q3 q4 q5
   go_wp2_with fail
   exact⟨rfl,HQ.out⟩
end Go.Proofs.YtmocelfkmdpogaaGreatDoor
namespace Go.Proofs.YtmocelfkmdpogaaGreatDoor
open Go.RowKit Go.Maps
open Tp (Bs Th Sy Seen X S)
abbrev Jd:=Tp.R->Option (Nat× Nat)
def Sm (l:List Tp.R):Prop:=∀ r∈l,r.mod.length<=1000000/\r.name.length<=1000000
theorem Sm.sub {l m:List Tp.R}(h:Sm l) (k:∀ r∈m,r∈l):Sm m:=fun r hr=>h r (k r hr)
theorem jM (x:X) (l:List X):Tp.rx (x :: l)=Tp.rx [x]++Tp.rx l:=by
 obtain⟨code,pos,n,m,nm,op,le,ri,ar⟩:=x
 simp[Tp.rx]
theorem rx_app (l m:List X):Tp.rx (l++m)=Tp.rx l++Tp.rx m:=by
 induction l with
 | nil=>simp[Tp.rx]
 | cons x l ih=>rw[List.cons_append,jM,ih,jM x l,List.append_assoc]
theorem rx_one (code pos n:Nat) (m nm op:Bs) (le ri ar:List X):Tp.rx [⟨code,pos,n,m,nm,op,le,ri,ar⟩]=(if code=2\/code=3\/code=6 then [⟨code,pos,m,nm,ar.length⟩] else [])++(Tp.rx le++(Tp.rx ri++Tp.rx ar)):=by
 simp[Tp.rx]
theorem RepL.step {w w':World}{D:Nat->Prop}{l:List X}{vs:List Value}(h:RepL w D l vs) (k:Below w.heap.size w w'):RepL w' D l vs :=
 RepL.mono (fun b hb hl=>⟨k.block b hl,hb⟩) _ _ _ zn h
theorem RepL.get {w:World}{D:Nat->Prop}:∀(l:List X) (vs:List Value),RepL w D l vs->∀ i (h:i<l.length),∃ b,vs[i]?=some (.pointer (some ⟨b,0,none⟩))/\RepL w D [l[i]] [.pointer (some ⟨b,0,none⟩)]:=by
 intro l
 induction l with
 | nil=>intro vs _ i h;simp at h
 | cons x l ih =>
  intro vs h i hi
  obtain⟨code,pos,n,m,nm,op,le,ri,ar⟩:=x
  rw[RepL]at h
  obtain⟨b,av,ls,rs,gs,vs',h1,h2,h3,h4,h5,h6,h7,h8,h9,h10⟩:=h
  subst h1
  cases i with
  | zero =>
   refine⟨b,rfl,?_⟩
   show RepL w D [⟨code,pos,n,m,nm,op,le,ri,ar⟩] _
   rw[RepL]
   exact⟨b,av,ls,rs,gs,[],rfl,h2,h3,h4,h5,h6,h7,h8,h9,by rw[RepL]⟩
  | succ i =>
   obtain⟨b',q1,q2⟩:=ih vs' h10 i (by simpa using hi)
   exact⟨b',by simpa using q1,by simpa using q2⟩
theorem jv (w:World) (b:Nat):Calls Tryz.prog 73 #[.pointer none,finderV b] w (CkP w none):=by
 unfold finderV
 go_enter Tryz.func73,Tryz.ntmps73
 go_wp2_with fail
 exact bodyPost_end (results_none rfl _ _ _) rfl ⟨Below.refl _ _,rfl⟩
theorem yz {n:Nat}{f:Nat->Option (Nat× Nat)}(h:∀ j,j<n->f j=none):(List.range n).findSome? f=none:=by
 rw[List.findSome?_eq_none_iff]
 intro j hj
 exact h j (List.mem_range.1 hj)
theorem zT {n i:Nat}{f:Nat->Option (Nat× Nat)}{x:Nat× Nat}(hi:i<n) (h:∀ j,j<i->f j=none) (hx:f i=some x):(List.range n).findSome? f=some x:=by
 have e:List.range n=List.range i++i :: (List.range n).drop (i+1):=by
  have h1:(List.range n)[i]?=some i:=by simp[hi]
  have h2:(List.range n).take i=List.range i:=by rw[List.take_range];congr 1;omega
  rw[<-h2]
  obtain⟨hl,e⟩:=List.getElem?_eq_some_iff.1 h1
  conv=>lhs;rw[<-List.take_append_drop i (List.range n),List.drop_eq_getElem_cons hl,e]
 rw[e,List.findSome?_append,yz h,List.findSome?_cons,hx]
 rfl
def AskX (w:World) (b:Nat) (v:Value) (res:Option (Nat× Nat)):Prop:=∀ W,Below w.heap.size w W->Calls Tryz.prog 73 #[v,finderV b] W (CkP W res)
theorem xw {w:World}{b x code:Nat}{pos n:Int}{md nm op:ByteArray}{lv rv aa:Option Addr}{an ac:Nat}(hblk:w.heap[x]?=some (.cells #[.int .i64 (code:Int),.int .i64 pos,.int .i64 n,.string md,.string nm,.string op,.pointer lv,.pointer rv,.slice aa an ac] 90 (0,0)))
  {r0 r1 r2:Option (Nat× Nat)} {ra:Nat->Option (Nat× Nat)}
  (hR:(code=2\/code=3\/code=6)->Calls Tryz.prog 105 #[.pointer (some ⟨x,0,none⟩),finderV b] w (CkP w r0)) (hR':¬(code=2\/code=3\/code=6)->r0=none)
  (hL:AskX w b (.pointer lv) r1) (hRi:AskX w b (.pointer rv) r2)
  (hA:∀ i,i<an->∃ g y,aa=some ⟨g,0,none⟩/\g<w.heap.size/\w.cell? ⟨g,i,none⟩=some (.pointer (some ⟨y,0,none⟩))/\AskX w b (.pointer (some ⟨y,0,none⟩)) (ra i)) (han:an<=9223372036854775807) {res:Option (Nat× Nat)} (hres:res=r0.or (r1.or (r2.or ((List.range an).findSome? ra)))) :
  Calls Tryz.prog 73 #[.pointer (some ⟨x,0,none⟩),finderV b] w (CkP w res):=by
 have hxl:=zi hblk
 have HK:=zh hblk
 have HL:=zh hL
 have HRI:=zh hRi
 have HA:=zh hA
 have HRES:=zh hres
 have han':(an:Int)<=9223372036854775807:=by omega
 have k0:w.cell? ⟨x,0,none⟩=some (.int .i64 (code:Int)):=(za hblk).trans rfl
 clear hblk hL hRi hA hres
 rcases(show code=2\/code=3\/code=6\/¬(code=2\/code=3\/code=6) by omega) with hcd|hcd|hcd|hcd
 ·have HRF:=zh (hR (by omega))
  subst hcd
  clear hR hR'
  unfold finderV at *
  go_enter Tryz.func73,Tryz.ntmps73
  go_wp2_with fail
  refine HRF.out.mono ?_
  intro e w1 hq
  cases r0 with
  | some er =>
   have HQ:=zh hq
   obtain⟨q1,q2⟩:=hq
   obtain⟨ab,q3,rfl,q4,q5⟩:=q2.out
   clear q1 q2 q3 q4 q5 k0 HRF
   go_wp2_with fail
   refine⟨rfl,?_⟩
   rw[HRES.out]
   exact HQ.out
  | none =>
   obtain⟨hb1,rfl⟩:=hq
   have HB1:=zh hb1
   clear hb1 k0 HRF
   have hsz1:=HB1.out.size
   have e1:=(HB1.out.block x hxl).trans HK.out
   have k6:w1.cell? ⟨x,6,none⟩=some (.pointer lv):=(za e1).trans rfl
   have hx1:x<w1.heap.size:=by omega
   have HL1:=zh (HL.out w1 HB1.out)
   clear e1
   go_wp2_with fail
   refine HL1.out.mono ?_
   intro e w2 hq
   cases r1 with
   | some er =>
    have HQ:=zh (CkP.up hq HB1.out)
    obtain⟨q1,q2⟩:=hq
    obtain⟨ab,q3,rfl,q4,q5⟩:=q2.out
    clear q1 q2 q3 q4 q5 k6
    go_wp2_with fail
    refine⟨rfl,?_⟩
    rw[HRES.out]
    exact HQ.out
   | none =>
    obtain⟨hb2,rfl⟩:=hq
    have HB2:Hid (Below w.heap.size w w2):=HB1.out.trans (hb2.mono hsz1)
    have hsz2:=HB2.out.size
    have e2:=(HB2.out.block x hxl).trans HK.out
    have k7:w2.cell? ⟨x,7,none⟩=some (.pointer rv):=(za e2).trans rfl
    have hx2:x<w2.heap.size:=by omega
    have HR1:=zh (HRI.out w2 HB2.out)
    clear e2 hb2 k6 HL1
    go_wp2_with fail
    refine HR1.out.mono ?_
    intro e w3 hq
    cases r2 with
    | some er =>
     have HQ:=zh (CkP.up hq HB2.out)
     obtain⟨q1,q2⟩:=hq
     obtain⟨ab,q3,rfl,q4,q5⟩:=q2.out
     clear q1 q2 q3 q4 q5 k7
     go_wp2_with fail
     refine⟨rfl,?_⟩
     rw[HRES.out]
     exact HQ.out
    | none =>
     obtain⟨hb3,rfl⟩:=hq
     have HB3:Hid (Below w.heap.size w w3):=HB2.out.trans (hb3.mono hsz2)
     have hsz3:=HB3.out.size
     have e3:=(HB3.out.block x hxl).trans HK.out
     have k8:w3.cell? ⟨x,8,none⟩=some (.slice aa an ac):=(za e3).trans rfl
     have hx3:x<w3.heap.size:=by omega
     clear e3 hb3 k7 HR1
     go_wp2_with fail
     go_loopg [47] an (fun k vi wr=>∃ i:Nat,i<=an/\k=an - i/\vi=.int .i64 (i:Int)/\Hid (Below w.heap.size w wr)/\Hid (∀ j,j<i->ra j=none))
     case atStart=>exact⟨0,by omega,by omega,rfl,HB3,fun j hj=>absurd hj (by omega)⟩
     case round =>
      obtain⟨i,hid,hk,rfl,HB,HN⟩:=hrel
      have hszr:=HB.out.size
      by_cases hlt:i<an
      ·have hlt':(i:Int)<(an:Int):=by omega
       obtain⟨g,y,hag,hgl,hcg,hask⟩:=HA.out i hlt
       have kc:wr.cell? ⟨g,i,none⟩=some (.pointer (some ⟨y,0,none⟩)):=(HB.out.cell (p:=⟨g,i,none⟩) hgl).trans hcg
       have hglr:g<wr.heap.size:=by omega
       subst hag
       have HC:=zh (hask wr HB.out)
       clear hcg hask
       go_wp2_with fail
       refine HC.out.mono ?_
       intro e w4 hq
       cases hri:ra i with
       | some er =>
        rw[hri]at hq
        have HQ:=zh (CkP.up hq HB.out)
        have HFS:=zh (zT hlt HN.out hri)
        obtain⟨q1,q2⟩:=hq
        obtain⟨ab,q3,rfl,q4,q5⟩:=q2.out
        clear q1 q2 q3 q4 q5 hri
        go_wp2_with fail
        refine⟨rfl,?_⟩
        rw[HRES.out,HFS.out]
        exact HQ.out
       | none =>
        rw[hri]at hq
        obtain⟨hb4,rfl⟩:=hq
        have HB4:Hid (Below w.heap.size w w4):=HB.out.trans (hb4.mono hszr)
        have HN4:Hid (∀ j,j<i+1->ra j=none):=fun j hj=>by
         rcases Nat.lt_or_ge j i with q|q
         ·exact HN.out j q
         ·have:j=i:=by omega
          subst this
          exact hri
        clear hb4 hri HC
        go_wp2_with fail
        go_roundg (an - (i+1))
        case measure=>omega
        case rel=>exact⟨i+1,by omega,rfl,by go_num,HB4,HN4⟩
      ·have hlt':¬(i:Int)<(an:Int):=by omega
       have HFS:Hid ((List.range an).findSome? ra=none):=yz (fun j hj=>HN.out j (by omega))
       go_wp2_with fail
       refine bodyPost_end (results_none rfl _ _ _) rfl ⟨HB.out,?_⟩
       rw[HRES.out,HFS.out]
       rfl
 ·have HRF:=zh (hR (by omega))
  subst hcd
  clear hR hR'
  unfold finderV at *
  go_enter Tryz.func73,Tryz.ntmps73
  go_wp2_with fail
  refine HRF.out.mono ?_
  intro e w1 hq
  cases r0 with
  | some er =>
   have HQ:=zh hq
   obtain⟨q1,q2⟩:=hq
   obtain⟨ab,q3,rfl,q4,q5⟩:=q2.out
   clear q1 q2 q3 q4 q5 k0 HRF
   go_wp2_with fail
   refine⟨rfl,?_⟩
   rw[HRES.out]
   exact HQ.out
  | none =>
   obtain⟨hb1,rfl⟩:=hq
   have HB1:=zh hb1
   clear hb1 k0 HRF
   have hsz1:=HB1.out.size
   have e1:=(HB1.out.block x hxl).trans HK.out
   have k6:w1.cell? ⟨x,6,none⟩=some (.pointer lv):=(za e1).trans rfl
   have hx1:x<w1.heap.size:=by omega
   have HL1:=zh (HL.out w1 HB1.out)
   clear e1
   go_wp2_with fail
   refine HL1.out.mono ?_
   intro e w2 hq
   cases r1 with
   | some er =>
    have HQ:=zh (CkP.up hq HB1.out)
    obtain⟨q1,q2⟩:=hq
    obtain⟨ab,q3,rfl,q4,q5⟩:=q2.out
    clear q1 q2 q3 q4 q5 k6
    go_wp2_with fail
    refine⟨rfl,?_⟩
    rw[HRES.out]
    exact HQ.out
   | none =>
    obtain⟨hb2,rfl⟩:=hq
    have HB2:Hid (Below w.heap.size w w2):=HB1.out.trans (hb2.mono hsz1)
    have hsz2:=HB2.out.size
    have e2:=(HB2.out.block x hxl).trans HK.out
    have k7:w2.cell? ⟨x,7,none⟩=some (.pointer rv):=(za e2).trans rfl
    have hx2:x<w2.heap.size:=by omega
    have HR1:=zh (HRI.out w2 HB2.out)
    clear e2 hb2 k6 HL1
    go_wp2_with fail
    refine HR1.out.mono ?_
    intro e w3 hq
    cases r2 with
    | some er =>
     have HQ:=zh (CkP.up hq HB2.out)
     obtain⟨q1,q2⟩:=hq
     obtain⟨ab,q3,rfl,q4,q5⟩:=q2.out
     clear q1 q2 q3 q4 q5 k7
     go_wp2_with fail
     refine⟨rfl,?_⟩
     rw[HRES.out]
     exact HQ.out
    | none =>
     obtain⟨hb3,rfl⟩:=hq
     have HB3:Hid (Below w.heap.size w w3):=HB2.out.trans (hb3.mono hsz2)
     have hsz3:=HB3.out.size
     have e3:=(HB3.out.block x hxl).trans HK.out
     have k8:w3.cell? ⟨x,8,none⟩=some (.slice aa an ac):=(za e3).trans rfl
     have hx3:x<w3.heap.size:=by omega
     clear e3 hb3 k7 HR1
     go_wp2_with fail
     go_loopg [47] an (fun k vi wr=>∃ i:Nat,i<=an/\k=an - i/\vi=.int .i64 (i:Int)/\Hid (Below w.heap.size w wr)/\Hid (∀ j,j<i->ra j=none))
     case atStart=>exact⟨0,by omega,by omega,rfl,HB3,fun j hj=>absurd hj (by omega)⟩
     case round =>
      obtain⟨i,hid,hk,rfl,HB,HN⟩:=hrel
      have hszr:=HB.out.size
      by_cases hlt:i<an
      ·have hlt':(i:Int)<(an:Int):=by omega
       obtain⟨g,y,hag,hgl,hcg,hask⟩:=HA.out i hlt
       have kc:wr.cell? ⟨g,i,none⟩=some (.pointer (some ⟨y,0,none⟩)):=(HB.out.cell (p:=⟨g,i,none⟩) hgl).trans hcg
       have hglr:g<wr.heap.size:=by omega
       subst hag
       have HC:=zh (hask wr HB.out)
       clear hcg hask
       go_wp2_with fail
       refine HC.out.mono ?_
       intro e w4 hq
       cases hri:ra i with
       | some er =>
        rw[hri]at hq
        have HQ:=zh (CkP.up hq HB.out)
        have HFS:=zh (zT hlt HN.out hri)
        obtain⟨q1,q2⟩:=hq
        obtain⟨ab,q3,rfl,q4,q5⟩:=q2.out
        clear q1 q2 q3 q4 q5 hri
        go_wp2_with fail
        refine⟨rfl,?_⟩
        rw[HRES.out,HFS.out]
        exact HQ.out
       | none =>
        rw[hri]at hq
        obtain⟨hb4,rfl⟩:=hq
        have HB4:Hid (Below w.heap.size w w4):=HB.out.trans (hb4.mono hszr)
        have HN4:Hid (∀ j,j<i+1->ra j=none):=fun j hj=>by
         rcases Nat.lt_or_ge j i with q|q
         ·exact HN.out j q
         ·have:j=i:=by omega
          subst this
          exact hri
        clear hb4 hri HC
        go_wp2_with fail
        go_roundg (an - (i+1))
        case measure=>omega
        case rel=>exact⟨i+1,by omega,rfl,by go_num,HB4,HN4⟩
      ·have hlt':¬(i:Int)<(an:Int):=by omega
       have HFS:Hid ((List.range an).findSome? ra=none):=yz (fun j hj=>HN.out j (by omega))
       go_wp2_with fail
       refine bodyPost_end (results_none rfl _ _ _) rfl ⟨HB.out,?_⟩
       rw[HRES.out,HFS.out]
       rfl
 ·have HRF:=zh (hR (by omega))
  subst hcd
  clear hR hR'
  unfold finderV at *
  go_enter Tryz.func73,Tryz.ntmps73
  go_wp2_with fail
  refine HRF.out.mono ?_
  intro e w1 hq
  cases r0 with
  | some er =>
   have HQ:=zh hq
   obtain⟨q1,q2⟩:=hq
   obtain⟨ab,q3,rfl,q4,q5⟩:=q2.out
   clear q1 q2 q3 q4 q5 k0 HRF
   go_wp2_with fail
   refine⟨rfl,?_⟩
   rw[HRES.out]
   exact HQ.out
  | none =>
   obtain⟨hb1,rfl⟩:=hq
   have HB1:=zh hb1
   clear hb1 k0 HRF
   have hsz1:=HB1.out.size
   have e1:=(HB1.out.block x hxl).trans HK.out
   have k6:w1.cell? ⟨x,6,none⟩=some (.pointer lv):=(za e1).trans rfl
   have hx1:x<w1.heap.size:=by omega
   have HL1:=zh (HL.out w1 HB1.out)
   clear e1
   go_wp2_with fail
   refine HL1.out.mono ?_
   intro e w2 hq
   cases r1 with
   | some er =>
    have HQ:=zh (CkP.up hq HB1.out)
    obtain⟨q1,q2⟩:=hq
    obtain⟨ab,q3,rfl,q4,q5⟩:=q2.out
    clear q1 q2 q3 q4 q5 k6
    go_wp2_with fail
    refine⟨rfl,?_⟩
    rw[HRES.out]
    exact HQ.out
   | none =>
    obtain⟨hb2,rfl⟩:=hq
    have HB2:Hid (Below w.heap.size w w2):=HB1.out.trans (hb2.mono hsz1)
    have hsz2:=HB2.out.size
    have e2:=(HB2.out.block x hxl).trans HK.out
    have k7:w2.cell? ⟨x,7,none⟩=some (.pointer rv):=(za e2).trans rfl
    have hx2:x<w2.heap.size:=by omega
    have HR1:=zh (HRI.out w2 HB2.out)
    clear e2 hb2 k6 HL1
    go_wp2_with fail
    refine HR1.out.mono ?_
    intro e w3 hq
    cases r2 with
    | some er =>
     have HQ:=zh (CkP.up hq HB2.out)
     obtain⟨q1,q2⟩:=hq
     obtain⟨ab,q3,rfl,q4,q5⟩:=q2.out
     clear q1 q2 q3 q4 q5 k7
     go_wp2_with fail
     refine⟨rfl,?_⟩
     rw[HRES.out]
     exact HQ.out
    | none =>
     obtain⟨hb3,rfl⟩:=hq
     have HB3:Hid (Below w.heap.size w w3):=HB2.out.trans (hb3.mono hsz2)
     have hsz3:=HB3.out.size
     have e3:=(HB3.out.block x hxl).trans HK.out
     have k8:w3.cell? ⟨x,8,none⟩=some (.slice aa an ac):=(za e3).trans rfl
     have hx3:x<w3.heap.size:=by omega
     clear e3 hb3 k7 HR1
     go_wp2_with fail
     go_loopg [47] an (fun k vi wr=>∃ i:Nat,i<=an/\k=an - i/\vi=.int .i64 (i:Int)/\Hid (Below w.heap.size w wr)/\Hid (∀ j,j<i->ra j=none))
     case atStart=>exact⟨0,by omega,by omega,rfl,HB3,fun j hj=>absurd hj (by omega)⟩
     case round =>
      obtain⟨i,hid,hk,rfl,HB,HN⟩:=hrel
      have hszr:=HB.out.size
      by_cases hlt:i<an
      ·have hlt':(i:Int)<(an:Int):=by omega
       obtain⟨g,y,hag,hgl,hcg,hask⟩:=HA.out i hlt
       have kc:wr.cell? ⟨g,i,none⟩=some (.pointer (some ⟨y,0,none⟩)):=(HB.out.cell (p:=⟨g,i,none⟩) hgl).trans hcg
       have hglr:g<wr.heap.size:=by omega
       subst hag
       have HC:=zh (hask wr HB.out)
       clear hcg hask
       go_wp2_with fail
       refine HC.out.mono ?_
       intro e w4 hq
       cases hri:ra i with
       | some er =>
        rw[hri]at hq
        have HQ:=zh (CkP.up hq HB.out)
        have HFS:=zh (zT hlt HN.out hri)
        obtain⟨q1,q2⟩:=hq
        obtain⟨ab,q3,rfl,q4,q5⟩:=q2.out
        clear q1 q2 q3 q4 q5 hri
        go_wp2_with fail
        refine⟨rfl,?_⟩
        rw[HRES.out,HFS.out]
        exact HQ.out
       | none =>
        rw[hri]at hq
        obtain⟨hb4,rfl⟩:=hq
        have HB4:Hid (Below w.heap.size w w4):=HB.out.trans (hb4.mono hszr)
        have HN4:Hid (∀ j,j<i+1->ra j=none):=fun j hj=>by
         rcases Nat.lt_or_ge j i with q|q
         ·exact HN.out j q
         ·have:j=i:=by omega
          subst this
          exact hri
        clear hb4 hri HC
        go_wp2_with fail
        go_roundg (an - (i+1))
        case measure=>omega
        case rel=>exact⟨i+1,by omega,rfl,by go_num,HB4,HN4⟩
      ·have hlt':¬(i:Int)<(an:Int):=by omega
       have HFS:Hid ((List.range an).findSome? ra=none):=yz (fun j hj=>HN.out j (by omega))
       go_wp2_with fail
       refine bodyPost_end (results_none rfl _ _ _) rfl ⟨HB.out,?_⟩
       rw[HRES.out,HFS.out]
       rfl
 ·have hr0:=hR' hcd
  have h2:((code:Int) == 2)=false:=by simp;omega
  have h3:((code:Int) == 3)=false:=by simp;omega
  have h6:((code:Int) == 6)=false:=by simp;omega
  subst hr0
  have HB1:Hid (Below w.heap.size w w):=Below.refl _ _
  clear hR hR' hcd
  unfold finderV at *
  go_enter Tryz.func73,Tryz.ntmps73
  have hsz1:=HB1.out.size
  have e1:=(HB1.out.block x hxl).trans HK.out
  have k6:w.cell? ⟨x,6,none⟩=some (.pointer lv):=(za e1).trans rfl
  have hx1:x<w.heap.size:=by omega
  have HL1:=zh (HL.out w HB1.out)
  clear e1
  go_wp2_with fail
  refine HL1.out.mono ?_
  intro e w2 hq
  cases r1 with
  | some er =>
   have HQ:=zh (CkP.up hq HB1.out)
   obtain⟨q1,q2⟩:=hq
   obtain⟨ab,q3,rfl,q4,q5⟩:=q2.out
   clear q1 q2 q3 q4 q5 k6
   go_wp2_with fail
   refine⟨rfl,?_⟩
   rw[HRES.out]
   exact HQ.out
  | none =>
   obtain⟨hb2,rfl⟩:=hq
   have HB2:Hid (Below w.heap.size w w2):=HB1.out.trans (hb2.mono hsz1)
   have hsz2:=HB2.out.size
   have e2:=(HB2.out.block x hxl).trans HK.out
   have k7:w2.cell? ⟨x,7,none⟩=some (.pointer rv):=(za e2).trans rfl
   have hx2:x<w2.heap.size:=by omega
   have HR1:=zh (HRI.out w2 HB2.out)
   clear e2 hb2 k6 HL1
   go_wp2_with fail
   refine HR1.out.mono ?_
   intro e w3 hq
   cases r2 with
   | some er =>
    have HQ:=zh (CkP.up hq HB2.out)
    obtain⟨q1,q2⟩:=hq
    obtain⟨ab,q3,rfl,q4,q5⟩:=q2.out
    clear q1 q2 q3 q4 q5 k7
    go_wp2_with fail
    refine⟨rfl,?_⟩
    rw[HRES.out]
    exact HQ.out
   | none =>
    obtain⟨hb3,rfl⟩:=hq
    have HB3:Hid (Below w.heap.size w w3):=HB2.out.trans (hb3.mono hsz2)
    have hsz3:=HB3.out.size
    have e3:=(HB3.out.block x hxl).trans HK.out
    have k8:w3.cell? ⟨x,8,none⟩=some (.slice aa an ac):=(za e3).trans rfl
    have hx3:x<w3.heap.size:=by omega
    clear e3 hb3 k7 HR1
    go_wp2_with fail
    go_loopg [47] an (fun k vi wr=>∃ i:Nat,i<=an/\k=an - i/\vi=.int .i64 (i:Int)/\Hid (Below w.heap.size w wr)/\Hid (∀ j,j<i->ra j=none))
    case atStart=>exact⟨0,by omega,by omega,rfl,HB3,fun j hj=>absurd hj (by omega)⟩
    case round =>
     obtain⟨i,hid,hk,rfl,HB,HN⟩:=hrel
     have hszr:=HB.out.size
     by_cases hlt:i<an
     ·have hlt':(i:Int)<(an:Int):=by omega
      obtain⟨g,y,hag,hgl,hcg,hask⟩:=HA.out i hlt
      have kc:wr.cell? ⟨g,i,none⟩=some (.pointer (some ⟨y,0,none⟩)):=(HB.out.cell (p:=⟨g,i,none⟩) hgl).trans hcg
      have hglr:g<wr.heap.size:=by omega
      subst hag
      have HC:=zh (hask wr HB.out)
      clear hcg hask
      go_wp2_with fail
      refine HC.out.mono ?_
      intro e w4 hq
      cases hri:ra i with
      | some er =>
       rw[hri]at hq
       have HQ:=zh (CkP.up hq HB.out)
       have HFS:=zh (zT hlt HN.out hri)
       obtain⟨q1,q2⟩:=hq
       obtain⟨ab,q3,rfl,q4,q5⟩:=q2.out
       clear q1 q2 q3 q4 q5 hri
       go_wp2_with fail
       refine⟨rfl,?_⟩
       rw[HRES.out,HFS.out]
       exact HQ.out
      | none =>
       rw[hri]at hq
       obtain⟨hb4,rfl⟩:=hq
       have HB4:Hid (Below w.heap.size w w4):=HB.out.trans (hb4.mono hszr)
       have HN4:Hid (∀ j,j<i+1->ra j=none):=fun j hj=>by
        rcases Nat.lt_or_ge j i with q|q
        ·exact HN.out j q
        ·have:j=i:=by omega
         subst this
         exact hri
       clear hb4 hri HC
       go_wp2_with fail
       go_roundg (an - (i+1))
       case measure=>omega
       case rel=>exact⟨i+1,by omega,rfl,by go_num,HB4,HN4⟩
     ·have hlt':¬(i:Int)<(an:Int):=by omega
      have HFS:Hid ((List.range an).findSome? ra=none):=yz (fun j hj=>HN.out j (by omega))
      go_wp2_with fail
      refine bodyPost_end (results_none rfl _ _ _) rfl ⟨HB.out,?_⟩
      rw[HRES.out,HFS.out]
      rfl
theorem find_range (J:Jd):∀(ar:List X),(List.range ar.length).findSome? (fun i=>(ar[i]?).bind fun y=>(Tp.rx [y]).findSome? J)=(Tp.rx ar).findSome? J:=by
 intro ar
 induction ar with
 | nil=>simp[Tp.rx]
 | cons x l ih =>
  rw[jM,List.findSome?_append,<-ih,List.length_cons,List.range_succ_eq_map,List.findSome?_cons,List.findSome?_map]
  have e2:((fun i=>((x :: l)[i]?).bind fun y=>(Tp.rx [y]).findSome? J) ∘ Nat.succ)=fun i=>(l[i]?).bind fun y=>(Tp.rx [y]).findSome? J:=by
   funext i
   simp
  rw[e2]
  simp only [List.getElem?_cons_zero,Option.bind_some]
  cases (Tp.rx [x]).findSome? J <;> rfl
theorem vG {w0:World}{b:Nat}{Sn:Seen}{fs:Near}(hF:Fnd w0 b Sn fs) (hfn:fs.length<=1000):∀(n:Nat) (x:X),SizeOf.sizeOf x<=n->Sm (Tp.rx [x])->∀(w:World) (D:Nat->Prop) (xb:Nat),Below w0.heap.size w0 w->RepL w D [x] [.pointer (some ⟨xb,0,none⟩)] ->
  Calls Tryz.prog 73 #[.pointer (some ⟨xb,0,none⟩),finderV b] w (CkP w ((Tp.rx [x]).findSome? (Tp.judgeP (Tp.standV Sn fs)))):=by
 intro n
 induction n with
 | zero=>intro x hn;cases x;simp at hn
 | succ n ih =>
  intro x hn hs w D xb hb h
  obtain⟨code,pos,nn,md,nm,op,le,ri,ar⟩:=x
  simp at hn
  have h0:=h
  rw[RepL]at h
  obtain⟨b',av,ls,rs,gs,vs',h1,h2,h3,h4,h5,h6,h7,h8,h9,_⟩:=h
  injection h1 with h1a _
  injection h1a with h1b
  injection h1b with h1c
  injection h1c with h1d
  subst h1d
  have hln:=RepL.len _ _ h4
  have hrn:=RepL.len _ _ h6
  have hgn:=RepL.len _ _ h8
  have hrx:=rx_one code pos nn md nm op le ri ar
  have part:∀(l:List X) (vs:List Value),SizeOf.sizeOf l<=n->(∀ r∈Tp.rx l,r∈Tp.rx [(⟨code,pos,nn,md,nm,op,le,ri,ar⟩:X)])->RepL w D l vs->vs.length<=1->(∃ a,vs.headD (.pointer none)=.pointer a)/\AskX w b (vs.headD (.pointer none)) ((Tp.rx l).findSome? (Tp.judgeP (Tp.standV Sn fs))):=by
   intro l vs hl hsub hrep hle
   have hvl:=RepL.len _ _ hrep
   match l,vs,hrep with
   | [],vs,hrep =>
    rw[RepL]at hrep
    subst hrep
    refine⟨⟨none,rfl⟩,fun W hW=>?_⟩
    have:(Tp.rx []).findSome? (Tp.judgeP (Tp.standV Sn fs))=none:=by simp[Tp.rx]
    rw[this]
    exact jv W b
   | [y],vs,hrep =>
    obtain⟨yb,q1,q2⟩:=RepL.get _ _ hrep 0 (by simp)
    have hv:vs=[.pointer (some ⟨yb,0,none⟩)]:=by
     match vs,hle,hvl with
     | [v],_,_=>simp at q1;rw[q1]
    subst hv
    refine⟨⟨_,rfl⟩,fun W hW=>?_⟩
    have hsz:SizeOf.sizeOf y<=n:=by simp at hl;omega
    exact ih y hsz (hs.sub hsub) W D yb (hb.trans (hW.mono hb.size)) (hrep.step hW)
   | y :: z :: t,vs,hrep=>simp at hvl;omega
  have mem1:∀ r∈Tp.rx le,r∈Tp.rx [(⟨code,pos,nn,md,nm,op,le,ri,ar⟩:X)]:=fun r hr=>by rw[hrx];simp[hr]
  have mem2:∀ r∈Tp.rx ri,r∈Tp.rx [(⟨code,pos,nn,md,nm,op,le,ri,ar⟩:X)]:=fun r hr=>by rw[hrx];simp[hr]
  have mem3:∀ r∈Tp.rx ar,r∈Tp.rx [(⟨code,pos,nn,md,nm,op,le,ri,ar⟩:X)]:=fun r hr=>by rw[hrx];simp[hr]
  obtain⟨⟨lv,hlv⟩,hL⟩:=part le ls (by omega) mem1 h4 h5
  obtain⟨⟨rv,hrv⟩,hR⟩:=part ri rs (by omega) mem2 h6 h7
  rw[hlv]at h3 hL
  rw[hrv]at h3 hR
  have hav:∃ aa ac,av=.slice aa ar.length ac/\ar.length<=9223372036854775807/\∀ i,i<ar.length->∃ g,aa=some ⟨g,0,none⟩/\g<w.heap.size/\w.cell? ⟨g,i,none⟩=gs[i]?:=by
   rcases h9 with⟨q1,q2⟩|⟨g,cap,cur,q1,q2,q3,q4,q5,q6,q7⟩
   ·have:ar.length=0:=by rw[<-hgn,q1];rfl
    exact⟨none,0,by rw[this];exact q2,by omega,fun i hi=>by omega⟩
   ·refine⟨_,cap,by rw[<-hgn];exact q1,?_,fun i hi=>⟨g,rfl,zi q3,?_⟩⟩
    ·have:maxLen=9223372036854775807:=rfl
     omega
    ·rw[za q3,<-Array.getElem?_toList,<-q7,List.getElem?_take_of_lt (by omega)]
  obtain⟨aa,ac,rfl,han,hcell⟩:=hav
  ·refine xw (r0:=if code=2\/code=3\/code=6 then Tp.judgeP (Tp.standV Sn fs) ⟨code,pos,md,nm,ar.length⟩ else none) (ra:=fun i=>(ar[i]?).bind fun y=>(Tp.rx [y]).findSome? (Tp.judgeP (Tp.standV Sn fs))) h3 ?_ (fun hc=>if_neg hc) hL hR ?_ han ?_
   ·intro hc
    rw[if_pos hc]
    have hm:=hs ⟨code,pos,md,nm,ar.length⟩ (by rw[hrx,if_pos hc];simp)
    exact ju (r:=⟨code,pos,md,nm,ar.length⟩) (hF.on hb) hfn ⟨_,_,_,_,_,_,h3⟩ hm.1 hm.2 (by simp only;omega)
   ·intro i hi
    obtain⟨g,q1,q2,q3⟩:=hcell i hi
    obtain⟨yb,q4,q5⟩:=RepL.get _ _ h8 i hi
    refine⟨g,yb,q1,q2,q3.trans q4,fun W hW=>?_⟩
    simp only [List.getElem?_eq_getElem hi,Option.bind_some]
    have hsz:SizeOf.sizeOf ar[i]<=n:=by
     have:=List.sizeOf_lt_of_mem (List.getElem_mem hi)
     omega
    refine ih ar[i] hsz (hs.sub fun r hr=>mem3 r ?_) W D yb (hb.trans (hW.mono hb.size)) (q5.step hW)
    have e:ar=ar.take i++ar[i] :: ar.drop (i+1):=by rw[<-List.drop_eq_getElem_cons hi,List.take_append_drop]
    rw[e,rx_app,jM]
    simp[hr]
   ·rw[find_range,hrx,List.findSome?_append,List.findSome?_append,List.findSome?_append]
    congr 1
    by_cases hc:code=2\/code=3\/code=6
    ·rw[if_pos hc,if_pos hc,List.findSome?_cons]
     cases Tp.judgeP (Tp.standV Sn fs) ⟨code,pos,md,nm,ar.length⟩ <;> rfl
    ·rw[if_neg hc,if_neg hc];rfl
end Go.Proofs.YtmocelfkmdpogaaGreatDoor
