import Derived.Test.YthnoedjbhbkdeaaGreatDoorKHa
set_option maxRecDepth 100000
set_option maxHeartbeats 4000000
namespace Go.Proofs.YthnoedjbhbkdeaaGreatDoor
open Go.RowKit Go.Sort
open Tp (Sy G Pr Seen)
theorem find_at {α:Type}(f:α->List UInt8) {l:List α}{nm:List UInt8}{i:Nat}(h:i<l.length) (he:f l[i]=nm) (hn:∀ j (hj:j<l.length),j<i->f l[j]≠nm):l.find? (fun x=>f x == nm)=some l[i]:=by
 rw[List.find?_eq_some_iff_getElem]
 refine⟨by simp[he],i,h,rfl,fun j hj=>?_⟩
 have:=hn j (by omega) hj
 simpa using this
theorem vG {α:Type}(f:α->List UInt8) {l:List α}{nm:List UInt8}(hn:∀ j (hj:j<l.length),f l[j]≠nm):l.find? (fun x=>f x == nm)=none:=by
 rw[List.find?_eq_none]
 intro x hx
 obtain⟨j,hj,rfl⟩:=List.getElem_of_mem hx
 have:=hn j hj
 simpa using this
theorem not_mem {l:List (List UInt8)}{nm:List UInt8}(hn:∀ j (hj:j<l.length),l[j]≠nm):nm ∉ l:=fun hx=>by
 obtain⟨j,hj,e⟩:=List.getElem_of_mem hx
 exact hn j hj e
theorem vU {w:World}{mn:List UInt8}{is:List (List UInt8)}{gs:List G}{ps:List Pr}{ia ga pa ba oa:Option Addr}{ic gc pc bc bn oc:Nat}{body:List Tp.S}{own:List (List UInt8)}(hO:Row w (fun b=>b<w.heap.size) 9 1 (.slice oa own.length oc) own.length (strs own)) (hol:own.length<=1000)
  (hG:Row w (fun b=>b<w.heap.size) 71 4 (.slice ga gs.length gc) gs.length (gcs gs)) (hgl:gs.length<=1000) {pcs:List Value} (hP:RepP w (fun b=>b<w.heap.size) ps pcs) (hP2:Row w (fun b=>b<w.heap.size) 74 6 (.slice pa ps.length pc) ps.length pcs) (hpl:ps.length<=1000) (hpp:∀ p∈ps,p.params.length<=1000)
  {so:Option Nat} {Sn:Seen} {nm:List UInt8} :
  Calls Tryz.prog 191 #[.agg #[.string (bs mn),.slice ia is.length ic,.slice ga gs.length gc,.slice pa ps.length pc,.slice ba bn bc],.slice oa own.length oc,.map so,.string (bs []),.string (bs nm)] w fun e w'=>StdP (Tp.stand ⟨mn,is,gs,ps,body⟩ own Sn [] nm) e/\Below w.heap.size w w':=by
 have hn':(own.length:Int)<=1000:=by omega
 have hgl':(gs.length:Int)<=1000:=by omega
 have hpl':(ps.length:Int)<=1000:=by omega
 have HO:Hid (∀ i (h:i<own.length),∃ g,oa=some ⟨g,0,none⟩/\g<w.heap.size/\w.cell? ⟨g,i,none⟩=some (.string (bs own[i]))):=fun i h=>by
  obtain⟨g,cap,q1,_,q3,q4⟩:=yu hO (by omega)
  cases q1
  exact⟨g,rfl,q3,(q4 i (by omega)).trans (jn own i h)⟩
 have HG:Hid (∀ i (h:i<gs.length),∃ g,ga=some ⟨g,0,none⟩/\g<w.heap.size/\∀ j,j<4->w.cell? ⟨g,i * 4+j,none⟩=(gcells (bs gs[i].name) (gs[i].pos:Int) (gs[i].len:Int) gs[i].seen).toList[j]?):=fun i h=>by
  obtain⟨g,cap,q1,_,q3,q4⟩:=yu hG (by omega)
  cases q1
  exact⟨g,rfl,q3,fun j hj=>(q4 (i * 4+j) (by omega)).trans (xJ gs i h j hj)⟩
 have HP:Hid (∀ i (h:i<ps.length),∃(g:Nat) (pa' va ba':Option Addr) (pc' vc bc':Nat),pa=some ⟨g,0,none⟩/\g<w.heap.size/\∀ j,j<6->w.cell? ⟨g,i * 6+j,none⟩=(pcells (bs ps[i].name) (ps[i].pos:Int) ps[i].seen (.slice pa' ps[i].params.length pc') (.slice va ps[i].vars.length vc) (.slice ba' ps[i].body.length bc')).toList[j]?):=fun i h=>by
  obtain⟨g,cap,q1,_,q3,q4⟩:=yu hP2 (by omega)
  cases q1
  obtain⟨pv,vv,bv,bcs',r1,r2,r3,r4,r5⟩:=jo ps pcs hP i h
  obtain⟨y3,c3,rfl⟩:=r2.shape
  obtain⟨y4,c4,rfl⟩:=r3.shape
  have:∃ a c,bv=.slice a ps[i].body.length c:=by
   rcases r5 with⟨z1,z2⟩|⟨_,_,_,z1,_⟩
   ·exact⟨none,0,by rw[z2,z1]⟩
   ·exact⟨_,_,z1⟩
  obtain⟨y5,c5,rfl⟩:=this
  exact⟨g,y3,y4,y5,c3,c4,c5,rfl,q3,fun j hj=>(q4 (i * 6+j) (by omega)).trans (r1 j hj)⟩
 have HPP:=zh hpp
 have HST:Hid (Tp.stand ⟨mn,is,gs,ps,body⟩ own Sn [] nm=if nm∈own then .ok (0,-1) else match gs.find? fun g=>g.name == nm with
  | some g=>.ok (g.len,-1)
  | none=>match ps.find? fun p=>p.name == nm with
   | some p=>.ok (0,(p.params.length:Int))
   | none=>.error 7):=by
  show _=_
  unfold Tp.stand
  rw[if_neg (by simp)]
  rfl
 have hem2:(bs []).toList.isEmpty=true:=by rw[zw];rfl
 have hem:((bs []).toList == ([]:List UInt8))=true:=by rw[zw];rfl
 generalize bs []=EM at *
 clear hO hG hP hP2 hpp
 go_enter Tryz.func191,Tryz.ntmps191
 go_upto_region 0 with fail
 go_cut [5,10,11] from 12 (fun v5 v10 v11 wc=>∃ mb rb:Nat,v5=.pointer (some ⟨mb,0,none⟩)/\v10=.pointer (some ⟨rb,0,none⟩)/\v11=.int .i64 0/\Hid (wc.heap[mb]?=some (.cells #[.string (bs mn),.slice ia is.length ic,.slice ga gs.length gc,.slice pa ps.length pc,.slice ba bn bc] 27 (0,0)))/\Hid (wc.heap[rb]?=some (.cells #[.string ⟨#[]⟩,.int .i64 0,.int .i64 0] 99 (0,0)))/\w.heap.size<=rb/\Hid (Below w.heap.size w wc))
 case first =>
  have HB1:Hid (Below w.heap.size w ((w.alloc (.cells #[.string (bs mn),.slice ia is.length ic,.slice ga gs.length gc,.slice pa ps.length pc,.slice ba bn bc] 27)).alloc (.cells #[.string ⟨#[]⟩,.int .i64 0,.int .i64 0] 99))):=(zb _ _).alloc (by simp) _
  have HM1:Hid (((w.alloc (.cells #[.string (bs mn),.slice ia is.length ic,.slice ga gs.length gc,.slice pa ps.length pc,.slice ba bn bc] 27)).alloc (.cells #[.string ⟨#[]⟩,.int .i64 0,.int .i64 0] 99)).heap[w.heap.size]?=some (.cells #[.string (bs mn),.slice ia is.length ic,.slice ga gs.length gc,.slice pa ps.length pc,.slice ba bn bc] 27 (0,0))):=(Below.heap_alloc _ _ _ (by simp)).trans (zl _ _)
  have HR1:Hid (((w.alloc (.cells #[.string (bs mn),.slice ia is.length ic,.slice ga gs.length gc,.slice pa ps.length pc,.slice ba bn bc] 27)).alloc (.cells #[.string ⟨#[]⟩,.int .i64 0,.int .i64 0] 99)).heap[w.heap.size+1]?=some (.cells #[.string ⟨#[]⟩,.int .i64 0,.int .i64 0] 99 (0,0))):=by
   have:=zl (w.alloc (.cells #[.string (bs mn),.slice ia is.length ic,.slice ga gs.length gc,.slice pa ps.length pc,.slice ba bn bc] 27)) (.cells #[.string ⟨#[]⟩,.int .i64 0,.int .i64 0] 99)
   show _=_
   simpa using this
  go_wp2_with fail
  go_meet
  case rel=>exact⟨w.heap.size,w.heap.size+1,rfl,rfl,rfl,HM1,HR1,by omega,HB1⟩
 case rest =>
  obtain⟨mb,rb,rfl,rfl,rfl,HM,HR,hrbw,HBc⟩:=hcut
  rename World=>wc
  go_wp2_with fail
  go_loopg [57] own.length (fun k vi wr=>∃(i:Nat),i<=own.length/\k=own.length - i/\vi=.int .i64 (i:Int)/\Hid (∀ j (hj:j<own.length),j<i->own[j]≠nm)/\wr=wc)
  case atStart=>exact⟨0,by omega,by omega,rfl,fun j _ hj=>by omega,rfl⟩
  case round =>
   obtain⟨i,hid,hk,rfl,HN,hwr⟩:=hrel
   subst hwr
   by_cases hlt:i<own.length
   ·have hlt':(i:Int)<(own.length:Int):=by omega
    obtain⟨g,rfl,hgg,hc⟩:=HO.out i hlt
    have x0:wr.cell? ⟨g,i,none⟩=some (.string (bs own[i])):=(HBc.out.cell (p:=⟨g,i,none⟩) hgg).trans hc
    have hgw:=zi x0
    obtain⟨d,hd⟩:∃ d,((bs own[i]).toList == (bs nm).toList)=d:=⟨_,rfl⟩
    have HD:Hid (d=true↔own[i]=nm):=by
     show _↔_
     rw[<-hd,zw,zw,beq_iff_eq]
    clear hc hgg
    cases d with
    | true =>
     have hmem:nm∈own:=by rw[<-HD.out.1 rfl];exact List.getElem_mem hlt
     have HE:Hid (StdP (Tp.stand ⟨mn,is,gs,ps,body⟩ own Sn [] nm) (.returned (.tuple #[.agg #[.string ⟨#[]⟩,.int .i64 0,.int .i64 (-1)],.int .i64 0]))):=by
      rw[HST.out,if_pos hmem]
      exact⟨_,_,_,_,rfl,rfl,rfl,rfl⟩
     have HF:Hid (Below w.heap.size w (((wr.setCell ⟨rb,0,none⟩ (.string ⟨#[]⟩)).setCell ⟨rb,1,none⟩ (.int .i64 0)).setCell ⟨rb,2,none⟩ (.int .i64 (-1)))):=b3 HBc.out hrbw _ _ _
     have kr:∀ i,wr.cell? ⟨rb,i,none⟩=(#[.string ⟨#[]⟩,.int .i64 0,.int .i64 0]:Array Value)[i]?:=fun i=>za HR.out
     have zr:∀ i,wr.frozen? ⟨rb,i,none⟩=false:=fun i=>zg HR.out
     have hrl:=zc HR.out
     go_wp2_with fail
     exact bodyPost_ret (v:=.tuple #[.agg #[.string ⟨#[]⟩,.int .i64 0,.int .i64 (-1)],.int .i64 0]) (by simp[results,Tryz.results191,go_sem,kr]) rfl ⟨HE.out,HF.out⟩
    | false =>
     have HN2:Hid (∀ j (hj:j<own.length),j<i+1->own[j]≠nm):=fun j hj hji=>by
      by_cases e:j=i
      ·subst e;intro q;have:=HD.out.2 q;cases this
      ·exact HN.out j hj (by omega)
     go_wp2_with fail
     go_roundg (own.length - (i+1))
     case measure=>omega
     case rel=>exact⟨i+1,by omega,rfl,by go_num,HN2,rfl⟩
   ·have hlt':¬(i:Int)<(own.length:Int):=by omega
    have hnm:nm ∉ own:=not_mem fun j hj=>HN.out j hj (by omega)
    have HNM:=zh hnm
    have y2:wr.cell? ⟨mb,2,none⟩=some (.slice ga gs.length gc):=za HM.out
    have hlm:=zc HM.out
    clear HN HO hnm
    rename World=>wd
    go_wp2_with fail
    clear y2 hlm
    go_loopg [69] gs.length (fun k vi wr=>∃(i:Nat),i<=gs.length/\k=gs.length - i/\vi=.int .i64 (i:Int)/\Hid (∀ j (hj:j<gs.length),j<i->gs[j].name≠nm)/\Hid (Below wd.heap.size wd wr))
    case atStart=>exact⟨0,by omega,by omega,rfl,fun j _ hj=>by omega,Below.refl _ _⟩
    case round =>
     obtain⟨i,hid,hk,rfl,HN,HB1⟩:=hrel
     have HBw:=zh (HBc.out.trans (HB1.out.mono HBc.out.size))
     by_cases hlt:i<gs.length
     ·have hlt':(i:Int)<(gs.length:Int):=by omega
      obtain⟨g,rfl,hgg,hc⟩:=HG.out i hlt
      have x0:wr.cell? ⟨g,i * 4,none⟩=some (.string (bs gs[i].name)):=(HBw.out.cell (p:=⟨g,i * 4+0,none⟩) hgg).trans (hc 0 (by omega))
      have x1:wr.cell? ⟨g,i * 4+1,none⟩=some (.int .i64 (gs[i].pos:Int)):=(HBw.out.cell (p:=⟨g,i * 4+1,none⟩) hgg).trans (hc 1 (by omega))
      have x2:wr.cell? ⟨g,i * 4+2,none⟩=some (.int .i64 (gs[i].len:Int)):=(HBw.out.cell (p:=⟨g,i * 4+2,none⟩) hgg).trans (hc 2 (by omega))
      have x3:wr.cell? ⟨g,i * 4+3,none⟩=some (.bool gs[i].seen):=(HBw.out.cell (p:=⟨g,i * 4+3,none⟩) hgg).trans (hc 3 (by omega))
      have hgw:=zi x0
      obtain⟨d,hd⟩:∃ d,((bs gs[i].name).toList == (bs nm).toList)=d:=⟨_,rfl⟩
      have HD:Hid (d=true↔gs[i].name=nm):=by
       show _↔_
       rw[<-hd,zw,zw,beq_iff_eq]
      have HA:Hid (∀ ob,Below wd.heap.size wd (wr.alloc ob)):=fun ob=>HB1.out.alloc HB1.out.size ob
      have HAw:Hid (∀ ob,Below w.heap.size w (wr.alloc ob)):=fun ob=>HBw.out.alloc HBw.out.size ob
      have hrr:wr.heap[rb]?=some (.cells #[.string ⟨#[]⟩,.int .i64 0,.int .i64 0] 99 (0,0)):=(HB1.out.block rb (zc HR.out)).trans HR.out
      clear hc hgg
      cases d with
      | true =>
       have hfd:gs.find? (fun g=>g.name == nm)=some gs[i]:=find_at (fun g:G=>g.name) hlt (HD.out.1 rfl) HN.out
       have hra:∀ ob,(wr.alloc ob).heap[rb]?=some (.cells #[.string ⟨#[]⟩,.int .i64 0,.int .i64 0] 99 (0,0)):=fun ob=>(Below.heap_alloc _ _ _ (zc hrr)).trans hrr
       obtain⟨wq,hwq⟩:∃ wq,wq=wr.alloc (.cells #[.string (bs gs[i].name),.int .i64 (gs[i].pos:Int),.int .i64 (gs[i].len:Int),.bool gs[i].seen] 71):=⟨_,rfl⟩
       have kq2:wq.cell? ⟨wr.heap.size,2,none⟩=some (.int .i64 (gs[i].len:Int)):=by rw[hwq];exact za (zl _ _)
       have hlq:wr.heap.size<wq.heap.size:=by rw[hwq];simp
       have HBq:Hid (Below w.heap.size w wq):=by rw[hwq];exact HAw.out _
       have hrq:wq.heap[rb]?=some (.cells #[.string ⟨#[]⟩,.int .i64 0,.int .i64 0] 99 (0,0)):=by rw[hwq];exact hra _
       have HRQ:=zh hrq
       clear hrq hra hrr
       go_upto_region 24 with fail
       rw[<-hwq]
       clear hwq x0 x1 x2 x3 hgw
       generalize wr.heap.size=bq at *
       have HE:Hid (StdP (Tp.stand ⟨mn,is,gs,ps,body⟩ own Sn [] nm) (.returned (.tuple #[.agg #[.string ⟨#[]⟩,.int .i64 (gs[i].len:Int),.int .i64 (-1)],.int .i64 0]))):=by
        rw[HST.out,if_neg HNM.out,hfd]
        exact⟨_,_,_,_,rfl,rfl,rfl,rfl⟩
       have HF:Hid (Below w.heap.size w (((wq.setCell ⟨rb,0,none⟩ (.string ⟨#[]⟩)).setCell ⟨rb,1,none⟩ (.int .i64 (gs[i].len:Int))).setCell ⟨rb,2,none⟩ (.int .i64 (-1)))):=b3 HBq.out hrbw _ _ _
       have kr:∀ i,wq.cell? ⟨rb,i,none⟩=(#[.string ⟨#[]⟩,.int .i64 0,.int .i64 0]:Array Value)[i]?:=fun i=>za HRQ.out
       have zr:∀ i,wq.frozen? ⟨rb,i,none⟩=false:=fun i=>zg HRQ.out
       have hrl:=zc HRQ.out
       go_wp2_with fail
       exact bodyPost_ret (v:=.tuple #[.agg #[.string ⟨#[]⟩,.int .i64 (gs[i].len:Int),.int .i64 (-1)],.int .i64 0]) (by simp[results,Tryz.results191,go_sem,kr]) rfl ⟨HE.out,HF.out⟩
      | false =>
       have HN2:Hid (∀ j (hj:j<gs.length),j<i+1->gs[j].name≠nm):=fun j hj hji=>by
        by_cases e:j=i
        ·subst e;intro q;have:=HD.out.2 q;cases this
        ·exact HN.out j hj (by omega)
       clear hrr
       go_wp2_with fail
       go_roundg (gs.length - (i+1))
       case measure=>omega
       case rel=>exact⟨i+1,by omega,rfl,by go_num,HN2,HA.out _⟩
     ·have hlt':¬(i:Int)<(gs.length:Int):=by omega
      have HFG:Hid (gs.find? (fun g=>g.name == nm)=none):=vG (fun g:G=>g.name) fun j hj=>HN.out j hj (by omega)
      have hmm:=(HB1.out.block mb (zc HM.out)).trans HM.out
      have y3:wr.cell? ⟨mb,3,none⟩=some (.slice pa ps.length pc):=za hmm
      have hlm:=zc hmm
      have HR2:Hid (wr.heap[rb]?=some (.cells #[.string ⟨#[]⟩,.int .i64 0,.int .i64 0] 99 (0,0))):=(HB1.out.block rb (zc HR.out)).trans HR.out
      clear HN HG hmm HB1 HR HM HBc
      rename World=>we
      go_wp2_with fail
      clear y3 hlm
      go_loopg [84] ps.length (fun k vi wr=>∃(i:Nat),i<=ps.length/\k=ps.length - i/\vi=.int .i64 (i:Int)/\Hid (∀ j (hj:j<ps.length),j<i->ps[j].name≠nm)/\Hid (Below we.heap.size we wr))
      case atStart=>exact⟨0,by omega,by omega,rfl,fun j _ hj=>by omega,Below.refl _ _⟩
      case round =>
       obtain⟨i,hid,hk,rfl,HN,HB1⟩:=hrel
       have HBv:=zh (HBw.out.trans (HB1.out.mono HBw.out.size))
       by_cases hlt:i<ps.length
       ·have hlt':(i:Int)<(ps.length:Int):=by omega
        obtain⟨g,pa',va,ba',pc',vc,bc',rfl,hgg,hc⟩:=HP.out i hlt
        have hpn:ps[i].params.length<=1000:=HPP.out _ (List.getElem_mem hlt)
        have hpn':(ps[i].params.length:Int)<=1000:=by omega
        have x0:wr.cell? ⟨g,i * 6,none⟩=some (.string (bs ps[i].name)):=(HBv.out.cell (p:=⟨g,i * 6+0,none⟩) hgg).trans (hc 0 (by omega))
        have x1:wr.cell? ⟨g,i * 6+1,none⟩=some (.int .i64 (ps[i].pos:Int)):=(HBv.out.cell (p:=⟨g,i * 6+1,none⟩) hgg).trans (hc 1 (by omega))
        have x2:wr.cell? ⟨g,i * 6+2,none⟩=some (.bool ps[i].seen):=(HBv.out.cell (p:=⟨g,i * 6+2,none⟩) hgg).trans (hc 2 (by omega))
        have x3:wr.cell? ⟨g,i * 6+3,none⟩=some (.slice pa' ps[i].params.length pc'):=(HBv.out.cell (p:=⟨g,i * 6+3,none⟩) hgg).trans (hc 3 (by omega))
        have x4:wr.cell? ⟨g,i * 6+4,none⟩=some (.slice va ps[i].vars.length vc):=(HBv.out.cell (p:=⟨g,i * 6+4,none⟩) hgg).trans (hc 4 (by omega))
        have x5:wr.cell? ⟨g,i * 6+5,none⟩=some (.slice ba' ps[i].body.length bc'):=(HBv.out.cell (p:=⟨g,i * 6+5,none⟩) hgg).trans (hc 5 (by omega))
        have hgw:=zi x0
        obtain⟨d,hd⟩:∃ d,((bs ps[i].name).toList == (bs nm).toList)=d:=⟨_,rfl⟩
        have HD:Hid (d=true↔ps[i].name=nm):=by
         show _↔_
         rw[<-hd,zw,zw,beq_iff_eq]
        have HA:Hid (∀ ob,Below we.heap.size we (wr.alloc ob)):=fun ob=>HB1.out.alloc HB1.out.size ob
        have HAw:Hid (∀ ob,Below w.heap.size w (wr.alloc ob)):=fun ob=>HBv.out.alloc HBv.out.size ob
        have hrr:wr.heap[rb]?=some (.cells #[.string ⟨#[]⟩,.int .i64 0,.int .i64 0] 99 (0,0)):=(HB1.out.block rb (zc HR2.out)).trans HR2.out
        clear hc hgg
        cases d with
        | true =>
         have hfd:ps.find? (fun p=>p.name == nm)=some ps[i]:=find_at (fun p:Pr=>p.name) hlt (HD.out.1 rfl) HN.out
         have hra:∀ ob,(wr.alloc ob).heap[rb]?=some (.cells #[.string ⟨#[]⟩,.int .i64 0,.int .i64 0] 99 (0,0)):=fun ob=>(Below.heap_alloc _ _ _ (zc hrr)).trans hrr
         obtain⟨wq,hwq⟩:∃ wq,wq=wr.alloc (.cells #[.string (bs ps[i].name),.int .i64 (ps[i].pos:Int),.bool ps[i].seen,.slice pa' ps[i].params.length pc',.slice va ps[i].vars.length vc,.slice ba' ps[i].body.length bc'] 74):=⟨_,rfl⟩
         have kq3:wq.cell? ⟨wr.heap.size,3,none⟩=some (.slice pa' ps[i].params.length pc'):=by rw[hwq];exact za (zl _ _)
         have hlq:wr.heap.size<wq.heap.size:=by rw[hwq];simp
         have HBq:Hid (Below w.heap.size w wq):=by rw[hwq];exact HAw.out _
         have hrq:wq.heap[rb]?=some (.cells #[.string ⟨#[]⟩,.int .i64 0,.int .i64 0] 99 (0,0)):=by rw[hwq];exact hra _
         have HRQ:=zh hrq
         clear hrq hra hrr
         go_upto_region 30 with fail
         rw[<-hwq]
         clear hwq x0 x1 x2 x3 x4 x5 hgw
         generalize wr.heap.size=bq at *
         have HE:Hid (StdP (Tp.stand ⟨mn,is,gs,ps,body⟩ own Sn [] nm) (.returned (.tuple #[.agg #[.string ⟨#[]⟩,.int .i64 0,.int .i64 (ps[i].params.length:Int)],.int .i64 0]))):=by
          rw[HST.out,if_neg HNM.out,HFG.out,hfd]
          exact⟨_,_,_,_,rfl,rfl,rfl,rfl⟩
         have HF:Hid (Below w.heap.size w (((wq.setCell ⟨rb,0,none⟩ (.string ⟨#[]⟩)).setCell ⟨rb,1,none⟩ (.int .i64 0)).setCell ⟨rb,2,none⟩ (.int .i64 (ps[i].params.length:Int)))):=b3 HBq.out hrbw _ _ _
         have kr:∀ i,wq.cell? ⟨rb,i,none⟩=(#[.string ⟨#[]⟩,.int .i64 0,.int .i64 0]:Array Value)[i]?:=fun i=>za HRQ.out
         have zr:∀ i,wq.frozen? ⟨rb,i,none⟩=false:=fun i=>zg HRQ.out
         have hrl:=zc HRQ.out
         go_wp2_with fail
         exact bodyPost_ret (v:=.tuple #[.agg #[.string ⟨#[]⟩,.int .i64 0,.int .i64 (ps[i].params.length:Int)],.int .i64 0]) (by simp[results,Tryz.results191,go_sem,kr]) rfl ⟨HE.out,HF.out⟩
        | false =>
         have HN2:Hid (∀ j (hj:j<ps.length),j<i+1->ps[j].name≠nm):=fun j hj hji=>by
          by_cases e:j=i
          ·subst e;intro q;have:=HD.out.2 q;cases this
          ·exact HN.out j hj (by omega)
         clear hrr
         go_wp2_with fail
         go_roundg (ps.length - (i+1))
         case measure=>omega
         case rel=>exact⟨i+1,by omega,rfl,by go_num,HN2,HA.out _⟩
       ·have hlt':¬(i:Int)<(ps.length:Int):=by omega
        have HFP:Hid (ps.find? (fun p=>p.name == nm)=none):=vG (fun p:Pr=>p.name) fun j hj=>HN.out j hj (by omega)
        have HR3:Hid (wr.heap[rb]?=some (.cells #[.string ⟨#[]⟩,.int .i64 0,.int .i64 0] 99 (0,0))):=(HB1.out.block rb (zc HR2.out)).trans HR2.out
        have HE:Hid (StdP (Tp.stand ⟨mn,is,gs,ps,body⟩ own Sn [] nm) (.returned (.tuple #[.agg #[.string ⟨#[]⟩,.int .i64 0,.int .i64 0],.int .i64 7]))):=by
         rw[HST.out,if_neg HNM.out,HFG.out,HFP.out]
         exact⟨_,_,_,_,rfl,rfl⟩
        have HF:Hid (Below w.heap.size w (((wr.setCell ⟨rb,0,none⟩ (.string ⟨#[]⟩)).setCell ⟨rb,1,none⟩ (.int .i64 0)).setCell ⟨rb,2,none⟩ (.int .i64 0))):=b3 HBv.out hrbw _ _ _
        have kr:∀ i,wr.cell? ⟨rb,i,none⟩=(#[.string ⟨#[]⟩,.int .i64 0,.int .i64 0]:Array Value)[i]?:=fun i=>za HR3.out
        have zr:∀ i,wr.frozen? ⟨rb,i,none⟩=false:=fun i=>zg HR3.out
        have hrl:=zc HR3.out
        go_wp2_with fail
        exact bodyPost_ret (v:=.tuple #[.agg #[.string ⟨#[]⟩,.int .i64 0,.int .i64 0],.int .i64 7]) (by simp[results,Tryz.results191,go_sem,kr]) rfl ⟨HE.out,HF.out⟩
theorem vT {m:Tp.M}{w:World}{ia ga pa ba oa:Option Addr}{ic gc pc bc oc:Nat}(h:MB w w.heap.size m ia ga pa ba ic gc pc bc) (hs:m.imports.length<=1000/\m.vars.length<=1000/\m.procs.length<=1000/\∀ p∈m.procs,p.params.length<=1000) {own:List (List UInt8)}(hO:Row w (fun b=>b<w.heap.size) 9 1 (.slice oa own.length oc) own.length (strs own)) (hol:own.length<=1000)
  {so:Option Nat} {Sn:Seen} (hS:SeenV w (.map so) Sn) {md nm:List UInt8} (hml:md.length<=1000000) :
  Calls Tryz.prog 191 #[.agg (mcells (bs m.name) (.slice ia m.imports.length ic) (.slice ga m.vars.length gc) (.slice pa m.procs.length pc) (.slice ba m.body.length bc)),.slice oa own.length oc,.map so,.string (bs md),.string (bs nm)] w fun e w'=>StdP (Tp.stand m own Sn md nm) e/\Below w.heap.size w w':=by
 obtain⟨mn,is,gs,ps,body⟩:=m
 obtain⟨pcs,p1,p2⟩:=h.pr
 by_cases hmd:md=[]
 ·subst hmd
  exact vU hO hol h.gl hs.2.1 p1 p2 hs.2.2.1 hs.2.2.2
 ·exact stands_far h.im hs.1 hS hmd hml
end Go.Proofs.YthnoedjbhbkdeaaGreatDoor
