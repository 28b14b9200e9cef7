import Derived.Test.YthnoedjbhbkdeaaGreatDoorKHb
import Derived.Test.YthnoedjbhbkdeaaGreatDoorKXa
set_option maxRecDepth 100000
set_option maxHeartbeats 4000000
namespace Go.Proofs.YthnoedjbhbkdeaaGreatDoor
open Go.RowKit Go.Sort
open Tp (Sy G Pr Seen)
def ftC:Tp.Ck->Int× Int
 | none=>(0,-1)
 | some (e,none)=>((e:Int),-1)
 | some (e,some p)=>((e:Int),(p:Int))
def jdC (r:Except Nat (Nat× Int)) (code an pos:Nat):Tp.Ck:=match r with
 | .error e=>some (e,some pos)
 | .ok s=>if Tp.kindOf s≠code then some (1,some pos) else if code=6/\(an:Int)≠s.2 then some (2,some pos) else none
def JdP (c:Tp.Ck) (e:Ending):Prop:=e=.returned (.agg #[.int .i64 (ftC c).1,.int .i64 (ftC c).2])
theorem yw {c:Tp.Ck}{E P:Int}(h:(E,P)=ftC c):JdP c (.returned (.agg #[.int .i64 E,.int .i64 P])):=by
 unfold JdP
 rw[<-h]
def StdM (r:Except Nat (Nat× Int)) (ln an en:Int):Prop:=match r with
 | .ok s=>en=0/\ln=(s.1:Int)/\an=s.2
 | .error k=>en=(k:Int)
theorem b2 {B rb:Nat}{w wr:World}(h:Below B w wr) (hb:B<=rb) (a b:Value):Below B w ((wr.setCell ⟨rb,0,none⟩ a).setCell ⟨rb,1,none⟩ b):=zj (zj h hb 0 a) hb 1 b
theorem judge_walk {w:World}{mn md nm:List UInt8}{ia ga pa ba oa aa:Option Addr}{il ic gl gc pl pc bn bc on oc an ac code pos x:Nat}{v2 v5 v6 v7:Value}{so:Option Nat}(hx:w.heap[x]?=some (.cells #[.int .i64 (code:Int),.int .i64 (pos:Int),v2,.string (bs md),.string (bs nm),v5,v6,v7,.slice aa an ac] 111 (0,0))) (hcode:code=2\/code=3\/code=6) (han:an<=9223372036854775807) (hfine:w.cell? ⟨0,0,none⟩=some (.int .i64 0)/\w.cell? ⟨0,1,none⟩=some (.int .i64 (-1)))
  {r:Except Nat (Nat× Int)} (hr:∀ k,r=.error k->1<=k/\k<=1000) (hS:∀ W,Below w.heap.size w W->Calls Tryz.prog 191 #[.agg #[.string (bs mn),.slice ia il ic,.slice ga gl gc,.slice pa pl pc,.slice ba bn bc],.slice oa on oc,.map so,.string (bs md),.string (bs nm)] W fun e w'=>StdP r e/\Below W.heap.size W w') :
  Calls Tryz.prog 133 #[.agg #[.string (bs mn),.slice ia il ic,.slice ga gl gc,.slice pa pl pc,.slice ba bn bc],.slice oa on oc,.map so,.pointer (some ⟨x,0,none⟩)] w fun e w'=>JdP (jdC r code an pos) e/\Below w.heap.size w w':=by
 have HX:=zh hx
 have HS:=zh hS
 have HFN:=zh hfine
 have hcb:(code:Int)<=6:=by omega
 have han':(an:Int)<=9223372036854775807:=by omega
 clear hx hS hfine
 go_enter Tryz.func133,Tryz.ntmps133
 go_upto_region 0 with fail
 go_cut [4,8] from 9 (fun v4 v8 wc=>∃ mb rb:Nat,v4=.pointer (some ⟨mb,0,none⟩)/\v8=.pointer (some ⟨rb,0,none⟩)/\Hid (wc.heap[mb]?=some (.cells #[.string (bs mn),.slice ia il ic,.slice ga gl gc,.slice pa pl pc,.slice ba bn bc] 27 (0,0)))/\Hid (wc.heap[rb]?=some (.cells #[.int .i64 0,.int .i64 0] 30 (0,0)))/\w.heap.size<=rb/\mb≠rb/\Hid (Below w.heap.size w wc))
 case first =>
  have HB1:Hid (Below w.heap.size w ((w.alloc (.cells #[.string (bs mn),.slice ia il ic,.slice ga gl gc,.slice pa pl pc,.slice ba bn bc] 27)).alloc (.cells #[.int .i64 0,.int .i64 0] 30))):=(zb _ _).alloc (by simp) _
  have HM1:Hid (((w.alloc (.cells #[.string (bs mn),.slice ia il ic,.slice ga gl gc,.slice pa pl pc,.slice ba bn bc] 27)).alloc (.cells #[.int .i64 0,.int .i64 0] 30)).heap[w.heap.size]?=some (.cells #[.string (bs mn),.slice ia il ic,.slice ga gl gc,.slice pa pl pc,.slice ba bn bc] 27 (0,0))):=(Below.heap_alloc _ _ _ (by simp)).trans (zl _ _)
  have HR1:Hid (((w.alloc (.cells #[.string (bs mn),.slice ia il ic,.slice ga gl gc,.slice pa pl pc,.slice ba bn bc] 27)).alloc (.cells #[.int .i64 0,.int .i64 0] 30)).heap[w.heap.size+1]?=some (.cells #[.int .i64 0,.int .i64 0] 30 (0,0))):=by
   have:=zl (w.alloc (.cells #[.string (bs mn),.slice ia il ic,.slice ga gl gc,.slice pa pl pc,.slice ba bn bc] 27)) (.cells #[.int .i64 0,.int .i64 0] 30)
   show _=_
   simpa using this
  go_wp2_with fail
  go_meet
  case rel=>exact⟨w.heap.size,w.heap.size+1,rfl,rfl,HM1,HR1,by omega,by omega,HB1⟩
 case rest =>
  obtain⟨mb,rb,rfl,rfl,HM0,HR,hrbw,hmr,HBc⟩:=hcut
  rename World=>wc
  have HXc:Hid (wc.heap[x]?=some (.cells #[.int .i64 (code:Int),.int .i64 (pos:Int),v2,.string (bs md),.string (bs nm),v5,v6,v7,.slice aa an ac] 111 (0,0))):=(HBc.out.block x (zc HX.out)).trans HX.out
  have c0:wc.cell? ⟨x,0,none⟩=some (.int .i64 (code:Int)):=za HXc.out
  have hxl:=zc HXc.out
  have HKS:Hid (∀ W:World,(∀ b,b<wc.heap.size->W.heap[b]?=wc.heap[b]?)->W.cell? ⟨mb,0,none⟩=some (.string (bs mn))/\W.cell? ⟨mb,1,none⟩=some (.slice ia il ic)/\W.cell? ⟨mb,2,none⟩=some (.slice ga gl gc)/\W.cell? ⟨mb,3,none⟩=some (.slice pa pl pc)/\W.cell? ⟨mb,4,none⟩=some (.slice ba bn bc)/\W.cell? ⟨x,3,none⟩=some (.string (bs md))/\W.cell? ⟨x,4,none⟩=some (.string (bs nm))):=fun W hW=>by
   have e1:=(hW mb (zc HM0.out)).trans HM0.out
   have e2:=(hW x (zc HXc.out)).trans HXc.out
   exact⟨za e1,za e1,za e1,za e1,za e1,za e2,za e2⟩
  have HC:Hid (wc.drew.cell? ⟨mb,0,none⟩=some (.string (bs mn))/\wc.drew.cell? ⟨mb,1,none⟩=some (.slice ia il ic)/\wc.drew.cell? ⟨mb,2,none⟩=some (.slice ga gl gc)/\wc.drew.cell? ⟨mb,3,none⟩=some (.slice pa pl pc)/\wc.drew.cell? ⟨mb,4,none⟩=some (.slice ba bn bc)/\wc.drew.cell? ⟨x,3,none⟩=some (.string (bs md))/\wc.drew.cell? ⟨x,4,none⟩=some (.string (bs nm))):=HKS.out _ (fun b hb=>rfl)
  have HC':Hid (∀ ob,(wc.alloc ob).drew.cell? ⟨mb,0,none⟩=some (.string (bs mn))/\(wc.alloc ob).drew.cell? ⟨mb,1,none⟩=some (.slice ia il ic)/\(wc.alloc ob).drew.cell? ⟨mb,2,none⟩=some (.slice ga gl gc)/\(wc.alloc ob).drew.cell? ⟨mb,3,none⟩=some (.slice pa pl pc)/\(wc.alloc ob).drew.cell? ⟨mb,4,none⟩=some (.slice ba bn bc)/\(wc.alloc ob).drew.cell? ⟨x,3,none⟩=some (.string (bs md))/\(wc.alloc ob).drew.cell? ⟨x,4,none⟩=some (.string (bs nm))):=fun ob=>HKS.out _ (fun b hb=>Below.heap_alloc _ _ _ hb)
  have HBd:Hid (Below w.heap.size w wc.drew):=HBc.out.drew
  have HBa:Hid (∀ ob,Below w.heap.size w (wc.alloc ob).drew):=fun ob=>(HBc.out.alloc HBc.out.size ob).drew
  have HSD:=HS
  have hcc:¬((code:Int)≠2/\(code:Int)≠3/\(code:Int)≠6):=by omega
  have c3:wc.cell? ⟨x,3,none⟩=some (.string (bs md)):=za HXc.out
  have c4:wc.cell? ⟨x,4,none⟩=some (.string (bs nm)):=za HXc.out
  have hml:=zc HM0.out
  rcases hcode with rfl|rfl|rfl
  ·go_upto_region 3 with fail
   clear c0
   go_cut [9,10] from 32 (fun s9 s10 wd=>∃(ib:Nat) (sn:ByteArray) (ln an' en:Int),s9=.pointer (some ⟨ib,0,none⟩)/\s10=.int .i64 en/\StdM r ln an' en/\Below wc.heap.size wc wd/\wd.heap[ib]?=some (.cells #[.string sn,.int .i64 ln,.int .i64 an'] 99 (0,0))/\wc.heap.size<=ib)
   case first =>
    go_region_held3 (fun w'=>w'.cell? ⟨mb,0,none⟩=some (.string (bs mn))/\w'.cell? ⟨mb,1,none⟩=some (.slice ia il ic)/\w'.cell? ⟨mb,2,none⟩=some (.slice ga gl gc)/\w'.cell? ⟨mb,3,none⟩=some (.slice pa pl pc)/\w'.cell? ⟨mb,4,none⟩=some (.slice ba bn bc)/\w'.cell? ⟨x,3,none⟩=some (.string (bs md))/\w'.cell? ⟨x,4,none⟩=some (.string (bs nm))) (with_reducible (first|exact HC4.out _|exact HC3.out|exact HC.out|exact HC'.out _|exact HCS.out _ _ _|fail "KEEP")) (first|(go_at_call 191;first|(refine(HSD.out wc.drew HBd.out).mono ?_;rintro e w2 ⟨⟨sn,ln,an',en,rfl,hm⟩,hb2⟩;have HB2:Hid (Below wc.heap.size wc w2):=((Below.refl _ _).drew).trans hb2;have HC3:Hid (w2.cell? ⟨mb,0,none⟩=some (.string (bs mn))/\w2.cell? ⟨mb,1,none⟩=some (.slice ia il ic)/\w2.cell? ⟨mb,2,none⟩=some (.slice ga gl gc)/\w2.cell? ⟨mb,3,none⟩=some (.slice pa pl pc)/\w2.cell? ⟨mb,4,none⟩=some (.slice ba bn bc)/\w2.cell? ⟨x,3,none⟩=some (.string (bs md))/\w2.cell? ⟨x,4,none⟩=some (.string (bs nm))):=HKS.out w2 HB2.out.block;have HC4:Hid (∀ ob,(w2.alloc ob).cell? ⟨mb,0,none⟩=some (.string (bs mn))/\(w2.alloc ob).cell? ⟨mb,1,none⟩=some (.slice ia il ic)/\(w2.alloc ob).cell? ⟨mb,2,none⟩=some (.slice ga gl gc)/\(w2.alloc ob).cell? ⟨mb,3,none⟩=some (.slice pa pl pc)/\(w2.alloc ob).cell? ⟨mb,4,none⟩=some (.slice ba bn bc)/\(w2.alloc ob).cell? ⟨x,3,none⟩=some (.string (bs md))/\(w2.alloc ob).cell? ⟨x,4,none⟩=some (.string (bs nm))):=fun ob=>HKS.out _ (fun b hb=>(Below.heap_alloc _ _ _ (Nat.lt_of_lt_of_le hb HB2.out.size)).trans (HB2.out.block b hb));have HM:=zh hm;clear hb2 hm)|(refine(HSD.out (wc.alloc _).drew (HBa.out _)).mono ?_;rintro e w2 ⟨⟨sn,ln,an',en,rfl,hm⟩,hb2⟩;have HB2:Hid (Below wc.heap.size wc w2):=((zb _ _).drew).trans (hb2.mono (by simp));have HIB:Hid (w2.heap[wc.heap.size]?=some (.cells #[.string ⟨#[]⟩,.int .i64 0,.int .i64 0] 99 (0,0))):=(hb2.block wc.heap.size (by simp)).trans (zl wc _);have kb0:w2.cell? ⟨wc.heap.size,0,none⟩=some (.string ⟨#[]⟩):=(za HIB.out).trans rfl;have kb1:w2.cell? ⟨wc.heap.size,1,none⟩=some (.int .i64 0):=(za HIB.out).trans rfl;have kb2:w2.cell? ⟨wc.heap.size,2,none⟩=some (.int .i64 0):=(za HIB.out).trans rfl;have zb0:w2.frozen? ⟨wc.heap.size,0,none⟩=false:=zg HIB.out;have zb1:w2.frozen? ⟨wc.heap.size,1,none⟩=false:=zg HIB.out;have zb2:w2.frozen? ⟨wc.heap.size,2,none⟩=false:=zg HIB.out;have HC3:Hid (w2.cell? ⟨mb,0,none⟩=some (.string (bs mn))/\w2.cell? ⟨mb,1,none⟩=some (.slice ia il ic)/\w2.cell? ⟨mb,2,none⟩=some (.slice ga gl gc)/\w2.cell? ⟨mb,3,none⟩=some (.slice pa pl pc)/\w2.cell? ⟨mb,4,none⟩=some (.slice ba bn bc)/\w2.cell? ⟨x,3,none⟩=some (.string (bs md))/\w2.cell? ⟨x,4,none⟩=some (.string (bs nm))):=HKS.out w2 HB2.out.block;have HCS:Hid (∀ u v z,(((w2.setCell ⟨wc.heap.size,0,none⟩ u).setCell ⟨wc.heap.size,1,none⟩ v).setCell ⟨wc.heap.size,2,none⟩ z).cell? ⟨mb,0,none⟩=some (.string (bs mn))/\(((w2.setCell ⟨wc.heap.size,0,none⟩ u).setCell ⟨wc.heap.size,1,none⟩ v).setCell ⟨wc.heap.size,2,none⟩ z).cell? ⟨mb,1,none⟩=some (.slice ia il ic)/\(((w2.setCell ⟨wc.heap.size,0,none⟩ u).setCell ⟨wc.heap.size,1,none⟩ v).setCell ⟨wc.heap.size,2,none⟩ z).cell? ⟨mb,2,none⟩=some (.slice ga gl gc)/\(((w2.setCell ⟨wc.heap.size,0,none⟩ u).setCell ⟨wc.heap.size,1,none⟩ v).setCell ⟨wc.heap.size,2,none⟩ z).cell? ⟨mb,3,none⟩=some (.slice pa pl pc)/\(((w2.setCell ⟨wc.heap.size,0,none⟩ u).setCell ⟨wc.heap.size,1,none⟩ v).setCell ⟨wc.heap.size,2,none⟩ z).cell? ⟨mb,4,none⟩=some (.slice ba bn bc)/\(((w2.setCell ⟨wc.heap.size,0,none⟩ u).setCell ⟨wc.heap.size,1,none⟩ v).setCell ⟨wc.heap.size,2,none⟩ z).cell? ⟨x,3,none⟩=some (.string (bs md))/\(((w2.setCell ⟨wc.heap.size,0,none⟩ u).setCell ⟨wc.heap.size,1,none⟩ v).setCell ⟨wc.heap.size,2,none⟩ z).cell? ⟨x,4,none⟩=some (.string (bs nm))):=fun u v z=>HKS.out _ (fun b hb=>((((Ext.refl wc.heap.size w2).set 0 u).set 1 v).set 2 z |>.block b (Nat.lt_of_lt_of_le hb HB2.out.size) (by omega)).trans (HB2.out.block b hb));have HM:=zh hm;clear hb2 hm)))
    ·go_wp2_with fail
     go_meet
     case rel=>exact⟨w2.heap.size,sn,ln,an',en,rfl,rfl,HM.out,HB2.out.alloc (by have:=HB2.out.size;omega) _,zl _ _,HB2.out.size⟩
    ·go_wp2_with fail
     go_meet
     case rel=>exact⟨wc.heap.size,sn,ln,an',en,rfl,rfl,HM.out,zj (zj (zj HB2.out zn 0 _) zn 1 _) zn 2 _,zu 2 _ (zu 1 _ (zu 0 _ HIB.out)),Nat.le_refl _⟩
   case rest =>
    obtain⟨ib,sn,ln,an',en,rfl,rfl,hm,hbd,hib,hge⟩:=hcut
    rename World=>wd
    have HBW:=zh (HBc.out.trans (hbd.mono HBc.out.size))
    have hxd:=(hbd.block x (zc HXc.out)).trans HXc.out
    have hrd:=(hbd.block rb (zc HR.out)).trans HR.out
    have c0:wd.cell? ⟨x,0,none⟩=some (.int .i64 2):=za hxd
    have c1:wd.cell? ⟨x,1,none⟩=some (.int .i64 (pos:Int)):=za hxd
    have c8:wd.cell? ⟨x,8,none⟩=some (.slice aa an ac):=za hxd
    have hxl2:=zc hxd
    have i1:wd.cell? ⟨ib,1,none⟩=some (.int .i64 ln):=za hib
    have i2:wd.cell? ⟨ib,2,none⟩=some (.int .i64 an'):=za hib
    have hil:=zc hib
    have kr:∀ i,wd.cell? ⟨rb,i,none⟩=(#[.int .i64 0,.int .i64 0]:Array Value)[i]?:=fun i=>za hrd
    have zr:∀ i,wd.frozen? ⟨rb,i,none⟩=false:=fun i=>zg hrd
    have hrl:=zc hrd
    have f0:wd.cell? ⟨0,0,none⟩=some (.int .i64 0):=(HBW.out.cell (p:=⟨0,0,none⟩) (zi HFN.out.1)).trans HFN.out.1
    have f1:wd.cell? ⟨0,1,none⟩=some (.int .i64 (-1)):=(HBW.out.cell (p:=⟨0,1,none⟩) (zi HFN.out.2)).trans HFN.out.2
    have hfl:=zi f0
    clear hbd hxd hrd hib c3 c4 hml HC HC' HKS HBd HBa HSD HS HX hxl
    cases r with
    | error k =>
     have hk:=hr k rfl
     have hen:en=(k:Int):=hm
     subst hen
     have hk1:¬(k:Int)=0:=by omega
     have HQ:Hid ((((k:Int):Int),(pos:Int))=ftC (jdC (.error k) 2 an pos)):=by
      show _=_
      rfl
     have HF:Hid (Below w.heap.size w ((wd.setCell ⟨rb,0,none⟩ (.int .i64 (k:Int))).setCell ⟨rb,1,none⟩ (.int .i64 pos))):=b2 HBW.out hrbw _ _
     go_wp2_with fail
     exact bodyPost_ret (v:=.agg #[.int .i64 (k:Int),.int .i64 pos]) (by simp[results,Tryz.results133,go_sem,kr]) rfl ⟨yw HQ.out,HF.out⟩
    | ok s =>
     obtain⟨rfl,rfl,rfl⟩:=(show en=0/\ln=(s.1:Int)/\an'=s.2 from hm)
     obtain⟨s1,s2⟩:=s
     simp only at i1 i2
     by_cases h6:0<=s2
     ·have hkd:Tp.kindOf (s1,s2)=6:=by unfold Tp.kindOf;rw[if_pos h6]
      have HQ:Hid (((1:Int),(pos:Int))=ftC (jdC (.ok (s1,s2)) 2 an pos)):=by
       show _=_
       unfold jdC
       simp only
       rw[hkd,if_pos (by decide)]
       rfl
      have HF:Hid (Below w.heap.size w ((wd.setCell ⟨rb,0,none⟩ (.int .i64 1)).setCell ⟨rb,1,none⟩ (.int .i64 pos))):=b2 HBW.out hrbw _ _
      go_wp2_with fail
      exact bodyPost_ret (v:=.agg #[.int .i64 1,.int .i64 pos]) (by simp[results,Tryz.results133,go_sem,kr]) rfl ⟨yw HQ.out,HF.out⟩
     ·have h6':s2<0:=by omega
      by_cases h3:0<s1
      ·have h3':(0:Int)<(s1:Int):=by omega
       have hkd:Tp.kindOf (s1,s2)=3:=by unfold Tp.kindOf;rw[if_neg h6,if_pos h3]
       have HQ:Hid (((1:Int),(pos:Int))=ftC (jdC (.ok (s1,s2)) 2 an pos)):=by
        show _=_
        unfold jdC
        simp only
        rw[hkd,if_pos (by decide)]
        rfl
       have HF:Hid (Below w.heap.size w ((wd.setCell ⟨rb,0,none⟩ (.int .i64 1)).setCell ⟨rb,1,none⟩ (.int .i64 pos))):=b2 HBW.out hrbw _ _
       go_wp2_with fail
       exact bodyPost_ret (v:=.agg #[.int .i64 1,.int .i64 pos]) (by simp[results,Tryz.results133,go_sem,kr]) rfl ⟨yw HQ.out,HF.out⟩
      ·have h3':¬(0:Int)<(s1:Int):=by omega
       have hkd:Tp.kindOf (s1,s2)=2:=by unfold Tp.kindOf;rw[if_neg h6,if_neg h3]
       go_upto_region 13 with fail
       go_quiet (fail)
       have kr:∀ i,(wd.drewN nq).cell? ⟨rb,i,none⟩=(#[.int .i64 0,.int .i64 0]:Array Value)[i]?:=kr
       have zr:∀ i,(wd.drewN nq).frozen? ⟨rb,i,none⟩=false:=zr
       have hrl:rb<(wd.drewN nq).heap.size:=hrl
       have f0:(wd.drewN nq).cell? ⟨0,0,none⟩=some (.int .i64 0):=f0
       have f1:(wd.drewN nq).cell? ⟨0,1,none⟩=some (.int .i64 (-1)):=f1
       have c1:(wd.drewN nq).cell? ⟨x,1,none⟩=some (.int .i64 (pos:Int)):=c1
       have hxl2:x<(wd.drewN nq).heap.size:=hxl2
       have hfl:0<(wd.drewN nq).heap.size:=hfl
       have HBW:Hid (Below w.heap.size w (wd.drewN nq)):=HBW.out.trans ((below_drewN (Below.refl _ wd) nq).mono HBW.out.size)
       generalize wd.drewN nq=wz at *
       have HQ:Hid (((0:Int),((-1):Int))=ftC (jdC (.ok (s1,s2)) 2 an pos)):=by
        show _=_
        unfold jdC
        simp only
        rw[hkd,if_neg (by decide),if_neg (by omega)]
        rfl
       have HF:Hid (Below w.heap.size w ((wz.setCell ⟨rb,0,none⟩ (.int .i64 0)).setCell ⟨rb,1,none⟩ (.int .i64 (-1)))):=b2 HBW.out hrbw _ _
       go_wp2_with fail
       exact bodyPost_ret (v:=.agg #[.int .i64 0,.int .i64 (-1)]) (by simp[results,Tryz.results133,go_sem,kr]) rfl ⟨yw HQ.out,HF.out⟩
  ·go_upto_region 3 with fail
   clear c0
   go_cut [9,10] from 32 (fun s9 s10 wd=>∃(ib:Nat) (sn:ByteArray) (ln an' en:Int),s9=.pointer (some ⟨ib,0,none⟩)/\s10=.int .i64 en/\StdM r ln an' en/\Below wc.heap.size wc wd/\wd.heap[ib]?=some (.cells #[.string sn,.int .i64 ln,.int .i64 an'] 99 (0,0))/\wc.heap.size<=ib)
   case first =>
    go_region_held3 (fun w'=>w'.cell? ⟨mb,0,none⟩=some (.string (bs mn))/\w'.cell? ⟨mb,1,none⟩=some (.slice ia il ic)/\w'.cell? ⟨mb,2,none⟩=some (.slice ga gl gc)/\w'.cell? ⟨mb,3,none⟩=some (.slice pa pl pc)/\w'.cell? ⟨mb,4,none⟩=some (.slice ba bn bc)/\w'.cell? ⟨x,3,none⟩=some (.string (bs md))/\w'.cell? ⟨x,4,none⟩=some (.string (bs nm))) (with_reducible (first|exact HC4.out _|exact HC3.out|exact HC.out|exact HC'.out _|exact HCS.out _ _ _|fail "KEEP")) (first|(go_at_call 191;first|(refine(HSD.out wc.drew HBd.out).mono ?_;rintro e w2 ⟨⟨sn,ln,an',en,rfl,hm⟩,hb2⟩;have HB2:Hid (Below wc.heap.size wc w2):=((Below.refl _ _).drew).trans hb2;have HC3:Hid (w2.cell? ⟨mb,0,none⟩=some (.string (bs mn))/\w2.cell? ⟨mb,1,none⟩=some (.slice ia il ic)/\w2.cell? ⟨mb,2,none⟩=some (.slice ga gl gc)/\w2.cell? ⟨mb,3,none⟩=some (.slice pa pl pc)/\w2.cell? ⟨mb,4,none⟩=some (.slice ba bn bc)/\w2.cell? ⟨x,3,none⟩=some (.string (bs md))/\w2.cell? ⟨x,4,none⟩=some (.string (bs nm))):=HKS.out w2 HB2.out.block;have HC4:Hid (∀ ob,(w2.alloc ob).cell? ⟨mb,0,none⟩=some (.string (bs mn))/\(w2.alloc ob).cell? ⟨mb,1,none⟩=some (.slice ia il ic)/\(w2.alloc ob).cell? ⟨mb,2,none⟩=some (.slice ga gl gc)/\(w2.alloc ob).cell? ⟨mb,3,none⟩=some (.slice pa pl pc)/\(w2.alloc ob).cell? ⟨mb,4,none⟩=some (.slice ba bn bc)/\(w2.alloc ob).cell? ⟨x,3,none⟩=some (.string (bs md))/\(w2.alloc ob).cell? ⟨x,4,none⟩=some (.string (bs nm))):=fun ob=>HKS.out _ (fun b hb=>(Below.heap_alloc _ _ _ (Nat.lt_of_lt_of_le hb HB2.out.size)).trans (HB2.out.block b hb));have HM:=zh hm;clear hb2 hm)|(refine(HSD.out (wc.alloc _).drew (HBa.out _)).mono ?_;rintro e w2 ⟨⟨sn,ln,an',en,rfl,hm⟩,hb2⟩;have HB2:Hid (Below wc.heap.size wc w2):=((zb _ _).drew).trans (hb2.mono (by simp));have HIB:Hid (w2.heap[wc.heap.size]?=some (.cells #[.string ⟨#[]⟩,.int .i64 0,.int .i64 0] 99 (0,0))):=(hb2.block wc.heap.size (by simp)).trans (zl wc _);have kb0:w2.cell? ⟨wc.heap.size,0,none⟩=some (.string ⟨#[]⟩):=(za HIB.out).trans rfl;have kb1:w2.cell? ⟨wc.heap.size,1,none⟩=some (.int .i64 0):=(za HIB.out).trans rfl;have kb2:w2.cell? ⟨wc.heap.size,2,none⟩=some (.int .i64 0):=(za HIB.out).trans rfl;have zb0:w2.frozen? ⟨wc.heap.size,0,none⟩=false:=zg HIB.out;have zb1:w2.frozen? ⟨wc.heap.size,1,none⟩=false:=zg HIB.out;have zb2:w2.frozen? ⟨wc.heap.size,2,none⟩=false:=zg HIB.out;have HC3:Hid (w2.cell? ⟨mb,0,none⟩=some (.string (bs mn))/\w2.cell? ⟨mb,1,none⟩=some (.slice ia il ic)/\w2.cell? ⟨mb,2,none⟩=some (.slice ga gl gc)/\w2.cell? ⟨mb,3,none⟩=some (.slice pa pl pc)/\w2.cell? ⟨mb,4,none⟩=some (.slice ba bn bc)/\w2.cell? ⟨x,3,none⟩=some (.string (bs md))/\w2.cell? ⟨x,4,none⟩=some (.string (bs nm))):=HKS.out w2 HB2.out.block;have HCS:Hid (∀ u v z,(((w2.setCell ⟨wc.heap.size,0,none⟩ u).setCell ⟨wc.heap.size,1,none⟩ v).setCell ⟨wc.heap.size,2,none⟩ z).cell? ⟨mb,0,none⟩=some (.string (bs mn))/\(((w2.setCell ⟨wc.heap.size,0,none⟩ u).setCell ⟨wc.heap.size,1,none⟩ v).setCell ⟨wc.heap.size,2,none⟩ z).cell? ⟨mb,1,none⟩=some (.slice ia il ic)/\(((w2.setCell ⟨wc.heap.size,0,none⟩ u).setCell ⟨wc.heap.size,1,none⟩ v).setCell ⟨wc.heap.size,2,none⟩ z).cell? ⟨mb,2,none⟩=some (.slice ga gl gc)/\(((w2.setCell ⟨wc.heap.size,0,none⟩ u).setCell ⟨wc.heap.size,1,none⟩ v).setCell ⟨wc.heap.size,2,none⟩ z).cell? ⟨mb,3,none⟩=some (.slice pa pl pc)/\(((w2.setCell ⟨wc.heap.size,0,none⟩ u).setCell ⟨wc.heap.size,1,none⟩ v).setCell ⟨wc.heap.size,2,none⟩ z).cell? ⟨mb,4,none⟩=some (.slice ba bn bc)/\(((w2.setCell ⟨wc.heap.size,0,none⟩ u).setCell ⟨wc.heap.size,1,none⟩ v).setCell ⟨wc.heap.size,2,none⟩ z).cell? ⟨x,3,none⟩=some (.string (bs md))/\(((w2.setCell ⟨wc.heap.size,0,none⟩ u).setCell ⟨wc.heap.size,1,none⟩ v).setCell ⟨wc.heap.size,2,none⟩ z).cell? ⟨x,4,none⟩=some (.string (bs nm))):=fun u v z=>HKS.out _ (fun b hb=>((((Ext.refl wc.heap.size w2).set 0 u).set 1 v).set 2 z |>.block b (Nat.lt_of_lt_of_le hb HB2.out.size) (by omega)).trans (HB2.out.block b hb));have HM:=zh hm;clear hb2 hm)))
    ·go_wp2_with fail
     go_meet
     case rel=>exact⟨w2.heap.size,sn,ln,an',en,rfl,rfl,HM.out,HB2.out.alloc (by have:=HB2.out.size;omega) _,zl _ _,HB2.out.size⟩
    ·go_wp2_with fail
     go_meet
     case rel=>exact⟨wc.heap.size,sn,ln,an',en,rfl,rfl,HM.out,zj (zj (zj HB2.out zn 0 _) zn 1 _) zn 2 _,zu 2 _ (zu 1 _ (zu 0 _ HIB.out)),Nat.le_refl _⟩
   case rest =>
    obtain⟨ib,sn,ln,an',en,rfl,rfl,hm,hbd,hib,hge⟩:=hcut
    rename World=>wd
    have HBW:=zh (HBc.out.trans (hbd.mono HBc.out.size))
    have hxd:=(hbd.block x (zc HXc.out)).trans HXc.out
    have hrd:=(hbd.block rb (zc HR.out)).trans HR.out
    have c0:wd.cell? ⟨x,0,none⟩=some (.int .i64 3):=za hxd
    have c1:wd.cell? ⟨x,1,none⟩=some (.int .i64 (pos:Int)):=za hxd
    have c8:wd.cell? ⟨x,8,none⟩=some (.slice aa an ac):=za hxd
    have hxl2:=zc hxd
    have i1:wd.cell? ⟨ib,1,none⟩=some (.int .i64 ln):=za hib
    have i2:wd.cell? ⟨ib,2,none⟩=some (.int .i64 an'):=za hib
    have hil:=zc hib
    have kr:∀ i,wd.cell? ⟨rb,i,none⟩=(#[.int .i64 0,.int .i64 0]:Array Value)[i]?:=fun i=>za hrd
    have zr:∀ i,wd.frozen? ⟨rb,i,none⟩=false:=fun i=>zg hrd
    have hrl:=zc hrd
    have f0:wd.cell? ⟨0,0,none⟩=some (.int .i64 0):=(HBW.out.cell (p:=⟨0,0,none⟩) (zi HFN.out.1)).trans HFN.out.1
    have f1:wd.cell? ⟨0,1,none⟩=some (.int .i64 (-1)):=(HBW.out.cell (p:=⟨0,1,none⟩) (zi HFN.out.2)).trans HFN.out.2
    have hfl:=zi f0
    clear hbd hxd hrd hib c3 c4 hml HC HC' HKS HBd HBa HSD HS HX hxl
    cases r with
    | error k =>
     have hk:=hr k rfl
     have hen:en=(k:Int):=hm
     subst hen
     have hk1:¬(k:Int)=0:=by omega
     have HQ:Hid ((((k:Int):Int),(pos:Int))=ftC (jdC (.error k) 3 an pos)):=by
      show _=_
      rfl
     have HF:Hid (Below w.heap.size w ((wd.setCell ⟨rb,0,none⟩ (.int .i64 (k:Int))).setCell ⟨rb,1,none⟩ (.int .i64 pos))):=b2 HBW.out hrbw _ _
     go_wp2_with fail
     exact bodyPost_ret (v:=.agg #[.int .i64 (k:Int),.int .i64 pos]) (by simp[results,Tryz.results133,go_sem,kr]) rfl ⟨yw HQ.out,HF.out⟩
    | ok s =>
     obtain⟨rfl,rfl,rfl⟩:=(show en=0/\ln=(s.1:Int)/\an'=s.2 from hm)
     obtain⟨s1,s2⟩:=s
     simp only at i1 i2
     by_cases h6:0<=s2
     ·have hkd:Tp.kindOf (s1,s2)=6:=by unfold Tp.kindOf;rw[if_pos h6]
      have HQ:Hid (((1:Int),(pos:Int))=ftC (jdC (.ok (s1,s2)) 3 an pos)):=by
       show _=_
       unfold jdC
       simp only
       rw[hkd,if_pos (by decide)]
       rfl
      have HF:Hid (Below w.heap.size w ((wd.setCell ⟨rb,0,none⟩ (.int .i64 1)).setCell ⟨rb,1,none⟩ (.int .i64 pos))):=b2 HBW.out hrbw _ _
      go_wp2_with fail
      exact bodyPost_ret (v:=.agg #[.int .i64 1,.int .i64 pos]) (by simp[results,Tryz.results133,go_sem,kr]) rfl ⟨yw HQ.out,HF.out⟩
     ·have h6':s2<0:=by omega
      by_cases h3:0<s1
      ·have h3':(0:Int)<(s1:Int):=by omega
       have hkd:Tp.kindOf (s1,s2)=3:=by unfold Tp.kindOf;rw[if_neg h6,if_pos h3]
       go_upto_region 13 with fail
       go_quiet (fail)
       have kr:∀ i,(wd.drewN nq).cell? ⟨rb,i,none⟩=(#[.int .i64 0,.int .i64 0]:Array Value)[i]?:=kr
       have zr:∀ i,(wd.drewN nq).frozen? ⟨rb,i,none⟩=false:=zr
       have hrl:rb<(wd.drewN nq).heap.size:=hrl
       have f0:(wd.drewN nq).cell? ⟨0,0,none⟩=some (.int .i64 0):=f0
       have f1:(wd.drewN nq).cell? ⟨0,1,none⟩=some (.int .i64 (-1)):=f1
       have c1:(wd.drewN nq).cell? ⟨x,1,none⟩=some (.int .i64 (pos:Int)):=c1
       have hxl2:x<(wd.drewN nq).heap.size:=hxl2
       have hfl:0<(wd.drewN nq).heap.size:=hfl
       have HBW:Hid (Below w.heap.size w (wd.drewN nq)):=HBW.out.trans ((below_drewN (Below.refl _ wd) nq).mono HBW.out.size)
       generalize wd.drewN nq=wz at *
       have HQ:Hid (((0:Int),((-1):Int))=ftC (jdC (.ok (s1,s2)) 3 an pos)):=by
        show _=_
        unfold jdC
        simp only
        rw[hkd,if_neg (by decide),if_neg (by omega)]
        rfl
       have HF:Hid (Below w.heap.size w ((wz.setCell ⟨rb,0,none⟩ (.int .i64 0)).setCell ⟨rb,1,none⟩ (.int .i64 (-1)))):=b2 HBW.out hrbw _ _
       go_wp2_with fail
       exact bodyPost_ret (v:=.agg #[.int .i64 0,.int .i64 (-1)]) (by simp[results,Tryz.results133,go_sem,kr]) rfl ⟨yw HQ.out,HF.out⟩
      ·have h3':¬(0:Int)<(s1:Int):=by omega
       have hkd:Tp.kindOf (s1,s2)=2:=by unfold Tp.kindOf;rw[if_neg h6,if_neg h3]
       have HQ:Hid (((1:Int),(pos:Int))=ftC (jdC (.ok (s1,s2)) 3 an pos)):=by
        show _=_
        unfold jdC
        simp only
        rw[hkd,if_pos (by decide)]
        rfl
       have HF:Hid (Below w.heap.size w ((wd.setCell ⟨rb,0,none⟩ (.int .i64 1)).setCell ⟨rb,1,none⟩ (.int .i64 pos))):=b2 HBW.out hrbw _ _
       go_wp2_with fail
       exact bodyPost_ret (v:=.agg #[.int .i64 1,.int .i64 pos]) (by simp[results,Tryz.results133,go_sem,kr]) rfl ⟨yw HQ.out,HF.out⟩
  ·go_upto_region 3 with fail
   clear c0
   go_cut [9,10] from 32 (fun s9 s10 wd=>∃(ib:Nat) (sn:ByteArray) (ln an' en:Int),s9=.pointer (some ⟨ib,0,none⟩)/\s10=.int .i64 en/\StdM r ln an' en/\Below wc.heap.size wc wd/\wd.heap[ib]?=some (.cells #[.string sn,.int .i64 ln,.int .i64 an'] 99 (0,0))/\wc.heap.size<=ib)
   case first =>
    go_region_held3 (fun w'=>w'.cell? ⟨mb,0,none⟩=some (.string (bs mn))/\w'.cell? ⟨mb,1,none⟩=some (.slice ia il ic)/\w'.cell? ⟨mb,2,none⟩=some (.slice ga gl gc)/\w'.cell? ⟨mb,3,none⟩=some (.slice pa pl pc)/\w'.cell? ⟨mb,4,none⟩=some (.slice ba bn bc)/\w'.cell? ⟨x,3,none⟩=some (.string (bs md))/\w'.cell? ⟨x,4,none⟩=some (.string (bs nm))) (with_reducible (first|exact HC4.out _|exact HC3.out|exact HC.out|exact HC'.out _|exact HCS.out _ _ _|fail "KEEP")) (first|(go_at_call 191;first|(refine(HSD.out wc.drew HBd.out).mono ?_;rintro e w2 ⟨⟨sn,ln,an',en,rfl,hm⟩,hb2⟩;have HB2:Hid (Below wc.heap.size wc w2):=((Below.refl _ _).drew).trans hb2;have HC3:Hid (w2.cell? ⟨mb,0,none⟩=some (.string (bs mn))/\w2.cell? ⟨mb,1,none⟩=some (.slice ia il ic)/\w2.cell? ⟨mb,2,none⟩=some (.slice ga gl gc)/\w2.cell? ⟨mb,3,none⟩=some (.slice pa pl pc)/\w2.cell? ⟨mb,4,none⟩=some (.slice ba bn bc)/\w2.cell? ⟨x,3,none⟩=some (.string (bs md))/\w2.cell? ⟨x,4,none⟩=some (.string (bs nm))):=HKS.out w2 HB2.out.block;have HC4:Hid (∀ ob,(w2.alloc ob).cell? ⟨mb,0,none⟩=some (.string (bs mn))/\(w2.alloc ob).cell? ⟨mb,1,none⟩=some (.slice ia il ic)/\(w2.alloc ob).cell? ⟨mb,2,none⟩=some (.slice ga gl gc)/\(w2.alloc ob).cell? ⟨mb,3,none⟩=some (.slice pa pl pc)/\(w2.alloc ob).cell? ⟨mb,4,none⟩=some (.slice ba bn bc)/\(w2.alloc ob).cell? ⟨x,3,none⟩=some (.string (bs md))/\(w2.alloc ob).cell? ⟨x,4,none⟩=some (.string (bs nm))):=fun ob=>HKS.out _ (fun b hb=>(Below.heap_alloc _ _ _ (Nat.lt_of_lt_of_le hb HB2.out.size)).trans (HB2.out.block b hb));have HM:=zh hm;clear hb2 hm)|(refine(HSD.out (wc.alloc _).drew (HBa.out _)).mono ?_;rintro e w2 ⟨⟨sn,ln,an',en,rfl,hm⟩,hb2⟩;have HB2:Hid (Below wc.heap.size wc w2):=((zb _ _).drew).trans (hb2.mono (by simp));have HIB:Hid (w2.heap[wc.heap.size]?=some (.cells #[.string ⟨#[]⟩,.int .i64 0,.int .i64 0] 99 (0,0))):=(hb2.block wc.heap.size (by simp)).trans (zl wc _);have kb0:w2.cell? ⟨wc.heap.size,0,none⟩=some (.string ⟨#[]⟩):=(za HIB.out).trans rfl;have kb1:w2.cell? ⟨wc.heap.size,1,none⟩=some (.int .i64 0):=(za HIB.out).trans rfl;have kb2:w2.cell? ⟨wc.heap.size,2,none⟩=some (.int .i64 0):=(za HIB.out).trans rfl;have zb0:w2.frozen? ⟨wc.heap.size,0,none⟩=false:=zg HIB.out;have zb1:w2.frozen? ⟨wc.heap.size,1,none⟩=false:=zg HIB.out;have zb2:w2.frozen? ⟨wc.heap.size,2,none⟩=false:=zg HIB.out;have HC3:Hid (w2.cell? ⟨mb,0,none⟩=some (.string (bs mn))/\w2.cell? ⟨mb,1,none⟩=some (.slice ia il ic)/\w2.cell? ⟨mb,2,none⟩=some (.slice ga gl gc)/\w2.cell? ⟨mb,3,none⟩=some (.slice pa pl pc)/\w2.cell? ⟨mb,4,none⟩=some (.slice ba bn bc)/\w2.cell? ⟨x,3,none⟩=some (.string (bs md))/\w2.cell? ⟨x,4,none⟩=some (.string (bs nm))):=HKS.out w2 HB2.out.block;have HCS:Hid (∀ u v z,(((w2.setCell ⟨wc.heap.size,0,none⟩ u).setCell ⟨wc.heap.size,1,none⟩ v).setCell ⟨wc.heap.size,2,none⟩ z).cell? ⟨mb,0,none⟩=some (.string (bs mn))/\(((w2.setCell ⟨wc.heap.size,0,none⟩ u).setCell ⟨wc.heap.size,1,none⟩ v).setCell ⟨wc.heap.size,2,none⟩ z).cell? ⟨mb,1,none⟩=some (.slice ia il ic)/\(((w2.setCell ⟨wc.heap.size,0,none⟩ u).setCell ⟨wc.heap.size,1,none⟩ v).setCell ⟨wc.heap.size,2,none⟩ z).cell? ⟨mb,2,none⟩=some (.slice ga gl gc)/\(((w2.setCell ⟨wc.heap.size,0,none⟩ u).setCell ⟨wc.heap.size,1,none⟩ v).setCell ⟨wc.heap.size,2,none⟩ z).cell? ⟨mb,3,none⟩=some (.slice pa pl pc)/\(((w2.setCell ⟨wc.heap.size,0,none⟩ u).setCell ⟨wc.heap.size,1,none⟩ v).setCell ⟨wc.heap.size,2,none⟩ z).cell? ⟨mb,4,none⟩=some (.slice ba bn bc)/\(((w2.setCell ⟨wc.heap.size,0,none⟩ u).setCell ⟨wc.heap.size,1,none⟩ v).setCell ⟨wc.heap.size,2,none⟩ z).cell? ⟨x,3,none⟩=some (.string (bs md))/\(((w2.setCell ⟨wc.heap.size,0,none⟩ u).setCell ⟨wc.heap.size,1,none⟩ v).setCell ⟨wc.heap.size,2,none⟩ z).cell? ⟨x,4,none⟩=some (.string (bs nm))):=fun u v z=>HKS.out _ (fun b hb=>((((Ext.refl wc.heap.size w2).set 0 u).set 1 v).set 2 z |>.block b (Nat.lt_of_lt_of_le hb HB2.out.size) (by omega)).trans (HB2.out.block b hb));have HM:=zh hm;clear hb2 hm)))
    ·go_wp2_with fail
     go_meet
     case rel=>exact⟨w2.heap.size,sn,ln,an',en,rfl,rfl,HM.out,HB2.out.alloc (by have:=HB2.out.size;omega) _,zl _ _,HB2.out.size⟩
    ·go_wp2_with fail
     go_meet
     case rel=>exact⟨wc.heap.size,sn,ln,an',en,rfl,rfl,HM.out,zj (zj (zj HB2.out zn 0 _) zn 1 _) zn 2 _,zu 2 _ (zu 1 _ (zu 0 _ HIB.out)),Nat.le_refl _⟩
   case rest =>
    obtain⟨ib,sn,ln,an',en,rfl,rfl,hm,hbd,hib,hge⟩:=hcut
    rename World=>wd
    have HBW:=zh (HBc.out.trans (hbd.mono HBc.out.size))
    have hxd:=(hbd.block x (zc HXc.out)).trans HXc.out
    have hrd:=(hbd.block rb (zc HR.out)).trans HR.out
    have c0:wd.cell? ⟨x,0,none⟩=some (.int .i64 6):=za hxd
    have c1:wd.cell? ⟨x,1,none⟩=some (.int .i64 (pos:Int)):=za hxd
    have c8:wd.cell? ⟨x,8,none⟩=some (.slice aa an ac):=za hxd
    have hxl2:=zc hxd
    have i1:wd.cell? ⟨ib,1,none⟩=some (.int .i64 ln):=za hib
    have i2:wd.cell? ⟨ib,2,none⟩=some (.int .i64 an'):=za hib
    have hil:=zc hib
    have kr:∀ i,wd.cell? ⟨rb,i,none⟩=(#[.int .i64 0,.int .i64 0]:Array Value)[i]?:=fun i=>za hrd
    have zr:∀ i,wd.frozen? ⟨rb,i,none⟩=false:=fun i=>zg hrd
    have hrl:=zc hrd
    have f0:wd.cell? ⟨0,0,none⟩=some (.int .i64 0):=(HBW.out.cell (p:=⟨0,0,none⟩) (zi HFN.out.1)).trans HFN.out.1
    have f1:wd.cell? ⟨0,1,none⟩=some (.int .i64 (-1)):=(HBW.out.cell (p:=⟨0,1,none⟩) (zi HFN.out.2)).trans HFN.out.2
    have hfl:=zi f0
    clear hbd hxd hrd hib c3 c4 hml HC HC' HKS HBd HBa HSD HS HX hxl
    cases r with
    | error k =>
     have hk:=hr k rfl
     have hen:en=(k:Int):=hm
     subst hen
     have hk1:¬(k:Int)=0:=by omega
     have HQ:Hid ((((k:Int):Int),(pos:Int))=ftC (jdC (.error k) 6 an pos)):=by
      show _=_
      rfl
     have HF:Hid (Below w.heap.size w ((wd.setCell ⟨rb,0,none⟩ (.int .i64 (k:Int))).setCell ⟨rb,1,none⟩ (.int .i64 pos))):=b2 HBW.out hrbw _ _
     go_wp2_with fail
     exact bodyPost_ret (v:=.agg #[.int .i64 (k:Int),.int .i64 pos]) (by simp[results,Tryz.results133,go_sem,kr]) rfl ⟨yw HQ.out,HF.out⟩
    | ok s =>
     obtain⟨rfl,rfl,rfl⟩:=(show en=0/\ln=(s.1:Int)/\an'=s.2 from hm)
     obtain⟨s1,s2⟩:=s
     simp only at i1 i2
     by_cases h6:0<=s2
     ·have hkd:Tp.kindOf (s1,s2)=6:=by unfold Tp.kindOf;rw[if_pos h6]
      by_cases ha:(an:Int)=s2
      ·have hab:((an:Int) != s2)=false:=by simp[ha]
       go_upto_region 13 with fail
       go_quiet (fail)
       have kr:∀ i,(wd.drewN nq).cell? ⟨rb,i,none⟩=(#[.int .i64 0,.int .i64 0]:Array Value)[i]?:=kr
       have zr:∀ i,(wd.drewN nq).frozen? ⟨rb,i,none⟩=false:=zr
       have hrl:rb<(wd.drewN nq).heap.size:=hrl
       have f0:(wd.drewN nq).cell? ⟨0,0,none⟩=some (.int .i64 0):=f0
       have f1:(wd.drewN nq).cell? ⟨0,1,none⟩=some (.int .i64 (-1)):=f1
       have c1:(wd.drewN nq).cell? ⟨x,1,none⟩=some (.int .i64 (pos:Int)):=c1
       have hxl2:x<(wd.drewN nq).heap.size:=hxl2
       have hfl:0<(wd.drewN nq).heap.size:=hfl
       have HBW:Hid (Below w.heap.size w (wd.drewN nq)):=HBW.out.trans ((below_drewN (Below.refl _ wd) nq).mono HBW.out.size)
       generalize wd.drewN nq=wz at *
       have HQ:Hid (((0:Int),((-1):Int))=ftC (jdC (.ok (s1,s2)) 6 an pos)):=by
        show _=_
        unfold jdC
        simp only
        rw[hkd,if_neg (by decide),if_neg (by omega)]
        rfl
       have HF:Hid (Below w.heap.size w ((wz.setCell ⟨rb,0,none⟩ (.int .i64 0)).setCell ⟨rb,1,none⟩ (.int .i64 (-1)))):=b2 HBW.out hrbw _ _
       go_wp2_with fail
       exact bodyPost_ret (v:=.agg #[.int .i64 0,.int .i64 (-1)]) (by simp[results,Tryz.results133,go_sem,kr]) rfl ⟨yw HQ.out,HF.out⟩
      ·have hab:((an:Int) != s2)=true:=by simp[ha]
       go_upto_region 13 with fail
       go_quiet (fail)
       have kr:∀ i,(wd.drewN nq).cell? ⟨rb,i,none⟩=(#[.int .i64 0,.int .i64 0]:Array Value)[i]?:=kr
       have zr:∀ i,(wd.drewN nq).frozen? ⟨rb,i,none⟩=false:=zr
       have hrl:rb<(wd.drewN nq).heap.size:=hrl
       have f0:(wd.drewN nq).cell? ⟨0,0,none⟩=some (.int .i64 0):=f0
       have f1:(wd.drewN nq).cell? ⟨0,1,none⟩=some (.int .i64 (-1)):=f1
       have c1:(wd.drewN nq).cell? ⟨x,1,none⟩=some (.int .i64 (pos:Int)):=c1
       have hxl2:x<(wd.drewN nq).heap.size:=hxl2
       have hfl:0<(wd.drewN nq).heap.size:=hfl
       have HBW:Hid (Below w.heap.size w (wd.drewN nq)):=HBW.out.trans ((below_drewN (Below.refl _ wd) nq).mono HBW.out.size)
       generalize wd.drewN nq=wz at *
       have HQ:Hid (((2:Int),(pos:Int))=ftC (jdC (.ok (s1,s2)) 6 an pos)):=by
        show _=_
        unfold jdC
        simp only
        rw[hkd,if_neg (by decide),if_pos (by simpa using ha)]
        rfl
       have HF:Hid (Below w.heap.size w ((wz.setCell ⟨rb,0,none⟩ (.int .i64 2)).setCell ⟨rb,1,none⟩ (.int .i64 pos))):=b2 HBW.out hrbw _ _
       go_wp2_with fail
       exact bodyPost_ret (v:=.agg #[.int .i64 2,.int .i64 pos]) (by simp[results,Tryz.results133,go_sem,kr]) rfl ⟨yw HQ.out,HF.out⟩
     ·have h6':s2<0:=by omega
      by_cases h3:0<s1
      ·have h3':(0:Int)<(s1:Int):=by omega
       have hkd:Tp.kindOf (s1,s2)=3:=by unfold Tp.kindOf;rw[if_neg h6,if_pos h3]
       have HQ:Hid (((1:Int),(pos:Int))=ftC (jdC (.ok (s1,s2)) 6 an pos)):=by
        show _=_
        unfold jdC
        simp only
        rw[hkd,if_pos (by decide)]
        rfl
       have HF:Hid (Below w.heap.size w ((wd.setCell ⟨rb,0,none⟩ (.int .i64 1)).setCell ⟨rb,1,none⟩ (.int .i64 pos))):=b2 HBW.out hrbw _ _
       go_wp2_with fail
       exact bodyPost_ret (v:=.agg #[.int .i64 1,.int .i64 pos]) (by simp[results,Tryz.results133,go_sem,kr]) rfl ⟨yw HQ.out,HF.out⟩
      ·have h3':¬(0:Int)<(s1:Int):=by omega
       have hkd:Tp.kindOf (s1,s2)=2:=by unfold Tp.kindOf;rw[if_neg h6,if_neg h3]
       have HQ:Hid (((1:Int),(pos:Int))=ftC (jdC (.ok (s1,s2)) 6 an pos)):=by
        show _=_
        unfold jdC
        simp only
        rw[hkd,if_pos (by decide)]
        rfl
       have HF:Hid (Below w.heap.size w ((wd.setCell ⟨rb,0,none⟩ (.int .i64 1)).setCell ⟨rb,1,none⟩ (.int .i64 pos))):=b2 HBW.out hrbw _ _
       go_wp2_with fail
       exact bodyPost_ret (v:=.agg #[.int .i64 1,.int .i64 pos]) (by simp[results,Tryz.results133,go_sem,kr]) rfl ⟨yw HQ.out,HF.out⟩
end Go.Proofs.YthnoedjbhbkdeaaGreatDoor
namespace Go.Proofs.YthnoedjbhbkdeaaGreatDoor
open Go.RowKit Go.Sort
open Tp (Sy G Pr Seen X)
theorem uB {w:World}{mn md nm:List UInt8}{ia ga pa ba oa aa:Option Addr}{il ic gl gc pl pc bn bc on oc an ac code pos x:Nat}{v2 v5 v6 v7:Value}{so:Option Nat}(hx:w.heap[x]?=some (.cells #[.int .i64 (code:Int),.int .i64 (pos:Int),v2,.string (bs md),.string (bs nm),v5,v6,v7,.slice aa an ac] 111 (0,0))) (hcode:code≠2/\code≠3/\code≠6) (hfine:w.cell? ⟨0,0,none⟩=some (.int .i64 0)/\w.cell? ⟨0,1,none⟩=some (.int .i64 (-1))) :
  Calls Tryz.prog 133 #[.agg #[.string (bs mn),.slice ia il ic,.slice ga gl gc,.slice pa pl pc,.slice ba bn bc],.slice oa on oc,.map so,.pointer (some ⟨x,0,none⟩)] w fun e w'=>e=.returned (.agg #[.int .i64 0,.int .i64 (-1)])/\Below w.heap.size w w':=by
 have h2:¬(code:Int)=2:=by omega
 have h3:¬(code:Int)=3:=by omega
 have h6:¬(code:Int)=6:=by omega
 have q2:((code:Int) != 2)=true:=by simp[h2]
 have q3:((code:Int) != 3)=true:=by simp[h3]
 have q6:((code:Int) != 6)=true:=by simp[h6]
 have HX:=zh hx
 have HFN:=zh hfine
 clear hx hfine
 go_enter Tryz.func133,Tryz.ntmps133
 go_upto_region 0 with fail
 go_cut [4,8] from 9 (fun v4 v8 wc=>∃ mb rb:Nat,v4=.pointer (some ⟨mb,0,none⟩)/\v8=.pointer (some ⟨rb,0,none⟩)/\Hid (wc.heap[rb]?=some (.cells #[.int .i64 0,.int .i64 0] 30 (0,0)))/\w.heap.size<=rb/\Hid (Below w.heap.size w wc))
 case first =>
  have HB1:Hid (Below w.heap.size w ((w.alloc (.cells #[.string (bs mn),.slice ia il ic,.slice ga gl gc,.slice pa pl pc,.slice ba bn bc] 27)).alloc (.cells #[.int .i64 0,.int .i64 0] 30))):=(zb _ _).alloc (by simp) _
  have HR1:Hid (((w.alloc (.cells #[.string (bs mn),.slice ia il ic,.slice ga gl gc,.slice pa pl pc,.slice ba bn bc] 27)).alloc (.cells #[.int .i64 0,.int .i64 0] 30)).heap[w.heap.size+1]?=some (.cells #[.int .i64 0,.int .i64 0] 30 (0,0))):=by
   have:=zl (w.alloc (.cells #[.string (bs mn),.slice ia il ic,.slice ga gl gc,.slice pa pl pc,.slice ba bn bc] 27)) (.cells #[.int .i64 0,.int .i64 0] 30)
   show _=_
   simpa using this
  go_wp2_with fail
  go_meet
  case rel=>exact⟨w.heap.size,w.heap.size+1,rfl,rfl,HR1,by omega,HB1⟩
 case rest =>
  obtain⟨mb,rb,rfl,rfl,HR,hrbw,HBc⟩:=hcut
  rename World=>wc
  have hxc:=(HBc.out.block x (zc HX.out)).trans HX.out
  have c0:wc.cell? ⟨x,0,none⟩=some (.int .i64 (code:Int)):=za hxc
  have hxl:=zc hxc
  have f0:wc.cell? ⟨0,0,none⟩=some (.int .i64 0):=(HBc.out.cell (p:=⟨0,0,none⟩) (zi HFN.out.1)).trans HFN.out.1
  have f1:wc.cell? ⟨0,1,none⟩=some (.int .i64 (-1)):=(HBc.out.cell (p:=⟨0,1,none⟩) (zi HFN.out.2)).trans HFN.out.2
  have hfl:=zi f0
  have kr:∀ i,wc.cell? ⟨rb,i,none⟩=(#[.int .i64 0,.int .i64 0]:Array Value)[i]?:=fun i=>za HR.out
  have zr:∀ i,wc.frozen? ⟨rb,i,none⟩=false:=fun i=>zg HR.out
  have hrl:=zc HR.out
  have HF:Hid (Below w.heap.size w ((wc.setCell ⟨rb,0,none⟩ (.int .i64 0)).setCell ⟨rb,1,none⟩ (.int .i64 (-1)))):=b2 HBc.out hrbw _ _
  clear hxc
  go_wp2_with fail
  exact bodyPost_ret (v:=.agg #[.int .i64 0,.int .i64 (-1)]) (by simp[results,Tryz.results133,go_sem,kr]) rfl ⟨rfl,HF.out⟩
def jdN (m:Tp.M) (own:List (List UInt8)) (Sn:Seen) (r:Tp.R):Tp.Ck:=if r.code=2\/r.code=3\/r.code=6 then Tp.judge m own Sn r else none
theorem xV {m:Tp.M}{own:List (List UInt8)}{Sn:Seen}{md nm:List UInt8}{k:Nat}(h:Tp.stand m own Sn md nm=.error k):1<=k/\k<=1000:=by
 unfold Tp.stand at h
 split at h
 ·split at h
  ·split at h
   ·cases h
   ·cases h;omega
  ·cases h;omega
 ·split at h
  ·cases h
  ·split at h
   ·cases h
   ·split at h
    ·cases h
    ·cases h;omega
theorem vC (m:Tp.M) (own:List (List UInt8)) (Sn:Seen) (r:Tp.R):Tp.judge m own Sn r=jdC (Tp.stand m own Sn r.mod r.name) r.code r.args r.pos:=by
 unfold Tp.judge jdC
 rfl
theorem judge_post {m:Tp.M}{w:World}{ia ga pa ba oa aa:Option Addr}{ic gc pc bc oc an ac code pos x:Nat}{v2 v5 v6 v7:Value}(h:MB w w.heap.size m ia ga pa ba ic gc pc bc) (hs:m.imports.length<=1000/\m.vars.length<=1000/\m.procs.length<=1000/\∀ p∈m.procs,p.params.length<=1000) {own:List (List UInt8)}(hO:Row w (fun b=>b<w.heap.size) 9 1 (.slice oa own.length oc) own.length (strs own)) (hol:own.length<=1000)
  {so:Option Nat} {Sn:Seen} (hS:SeenV w (.map so) Sn) {md nm:List UInt8} (hml:md.length<=1000000) (han:an<=9223372036854775807) (hx:w.heap[x]?=some (.cells #[.int .i64 (code:Int),.int .i64 (pos:Int),v2,.string (bs md),.string (bs nm),v5,v6,v7,.slice aa an ac] 111 (0,0))) (hfine:w.cell? ⟨0,0,none⟩=some (.int .i64 0)/\w.cell? ⟨0,1,none⟩=some (.int .i64 (-1))) :
  Calls Tryz.prog 133 #[.agg (mcells (bs m.name) (.slice ia m.imports.length ic) (.slice ga m.vars.length gc) (.slice pa m.procs.length pc) (.slice ba m.body.length bc)),.slice oa own.length oc,.map so,.pointer (some ⟨x,0,none⟩)] w fun e w'=>JdP (jdN m own Sn ⟨code,pos,md,nm,an⟩) e/\Below w.heap.size w w':=by
 by_cases hc:code=2\/code=3\/code=6
 ·have e:jdN m own Sn ⟨code,pos,md,nm,an⟩=jdC (Tp.stand m own Sn md nm) code an pos:=by
   unfold jdN
   rw[if_pos hc,vC]
  rw[e]
  refine judge_walk hx hc han hfine (fun k hk=>xV hk) fun W hW=>?_
  have hk:∀ b,b<w.heap.size->b<w.heap.size->W.heap[b]?=w.heap[b]?/\b<W.heap.size:=fun b hi _=>⟨hW.block b hi,Nat.lt_of_lt_of_le hi hW.size⟩
  obtain⟨pcs,p1,p2⟩:=h.pr
  obtain⟨bcs,b1,b2⟩:=h.bd
  exact vT ⟨h.im.mono hk,h.gl.mono hk,⟨pcs,p1.mono hk _ _,p2.mono hk⟩,⟨bcs,b1.mono' hk,b2.mono hk⟩⟩ hs (hO.mono hk) hol (hS.on hW) hml
 ·have e:jdN m own Sn ⟨code,pos,md,nm,an⟩=none:=by
   unfold jdN
   rw[if_neg hc]
  rw[e]
  exact(uB hx ⟨fun q=>hc (Or.inl q),fun q=>hc (Or.inr (Or.inl q)),fun q=>hc (Or.inr (Or.inr q))⟩ hfine).mono fun e w' q=>⟨q.1,q.2⟩
end Go.Proofs.YthnoedjbhbkdeaaGreatDoor
namespace Go.Proofs.YthnoedjbhbkdeaaGreatDoor
open Go.RowKit Go.Extern.Stop Go.Stop Go.Extern
open Tp (Seen)
def ErrB (w:World) (v:Value) (n p:Int):Prop:=ErrA w v n p\/v=.iface 28 (.int .i64 n)/\p=-1
theorem ErrB.below {w w':World}{v:Value}{n p:Int}(h:ErrB w v n p) (hb:Below w.heap.size w w'):ErrB w' v n p:=h.imp (fun q=>q.below hb) id
theorem ta_en1 (n:Int) (w:World):(Instr.typeAssert (.iface 28 (.int .i64 n)) 34 137 true).run Tryz.prog w=.ok (.tuple #[.pointer none,.bool false]) w:=by kernel_rfl
theorem ta_en2 (n:Int) (w:World):(Instr.typeAssert (.iface 28 (.int .i64 n)) 34 153 true).run Tryz.prog w=.ok (.tuple #[.nilIface,.bool false]) w:=run_typeAssert_lacksB Tryz.underlying153 (by kernel_rfl) (by kernel_rfl) _ _ w
theorem place_en (n:Int) (w:World) (hg:Hnd w):Calls Tryz.prog 45 #[.iface 28 (.int .i64 n)] w fun e w'=>e=.returned (.tuple #[.int .i64 n,.int .i64 (-1)])/\Below w.heap.size w w':=by
 have HC:=zh (tell_en n w hg)
 have h1:=ta_en1 n
 have h2:=ta_en2 n
 clear hg
 go_enter Tryz.func45,Tryz.ntmps45
 go_wp2_with fail
 refine HC.out.mono ?_
 rintro e w1 ⟨rfl,hb⟩
 have HB:=zh hb
 clear hb
 go_wp2_with fail
 refine wp_loop_rounds 1 ?_
 rw[rounds_succ]
 go_wp2_with fail
 go_ret2
 exact⟨rfl,HB.out⟩
theorem place_b {w:World}{v:Value}{n p:Int}(hv:ErrB w v n p) (hg:Hnd w):Calls Tryz.prog 45 #[v] w fun e w'=>e=.returned (.tuple #[.int .i64 n,.int .i64 p])/\Below w.heap.size w w':=by
 rcases hv with h|⟨rfl,rfl⟩
 ·exact vg h hg
 ·exact place_en n w hg
theorem lawIs_b {w:World}{v:Value}{n p:Int}(hv:ErrB w v n p) (hg:Hnd w):Calls Tryz.prog 8 #[v,.agg #[.int .i64 n,.int .i64 p]] w fun e w'=>e=.returned (.bool true)/\Below w.heap.size w w':=by
 obtain⟨w1,hw1⟩:∃ w1,w1=w.alloc (.cells #[.int .i64 n,.int .i64 p] 30):=⟨_,rfl⟩
 have hb0:Below w.heap.size w w1:=by rw[hw1];exact zb _ _
 have hk:w1.heap[w.heap.size]?=some (.cells #[.int .i64 n,.int .i64 p] 30 (0,0)):=by rw[hw1];exact zl _ _
 have hg1:Hnd w1:=by rw[hw1];exact zA hg _
 have HC:=zh (place_b (hv.below hb0) hg1)
 have HW1:=zh hw1
 have HB0:=zh hb0
 have HK:=zh hk
 clear hw1 hb0 hk hg1 hg hv
 go_enter Tryz.func8,Tryz.ntmps8
 go_wp2_with fail
 rw[<-HW1.out]
 refine HC.out.mono ?_
 rintro e w2 ⟨rfl,hb⟩
 have HB:=zh (HB0.out.trans (hb.mono HB0.out.size))
 have hk2:=(hb.block w.heap.size (zc HK.out)).trans HK.out
 have c0:w2.cell? ⟨w.heap.size,0,none⟩=some (.int .i64 n):=za hk2
 have c1:w2.cell? ⟨w.heap.size,1,none⟩=some (.int .i64 p):=za hk2
 have hl2:w.heap.size<w2.heap.size:=zc hk2
 clear hb hk2 HW1
 go_wp2_with fail
 go_ret
 exact⟨rfl,HB.out⟩
def ChkB (n p:Int) (w:World) (e:Ending) (w':World):Prop:=(∃ ev,e=.returned ev/\ErrB w' ev n p)/\Below w.heap.size w w'
theorem checkP_b {w w':World}{res:Tp.Ck}{e:Ending}(h:CheckP w res e w'):ChkB (ftC res).1 (ftC res).2 w e w':=by
 obtain⟨h1,h2⟩:=h
 refine⟨?_,h1⟩
 cases res with
 | none=>exact⟨_,h2,Or.inl (Or.inl ⟨rfl,rfl,rfl⟩)⟩
 | some x =>
  obtain⟨en,pl⟩:=x
  cases pl with
  | none=>exact⟨_,h2,Or.inr ⟨rfl,rfl⟩⟩
  | some p =>
   obtain⟨ab,rfl,_,q1,q2⟩:=h2
   exact⟨_,rfl,Or.inl (Or.inr ⟨ab,rfl,q1,q2⟩)⟩
end Go.Proofs.YthnoedjbhbkdeaaGreatDoor
