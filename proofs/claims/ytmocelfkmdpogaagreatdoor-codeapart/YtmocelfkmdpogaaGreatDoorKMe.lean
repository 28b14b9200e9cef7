import Derived.Test.YtmocelfkmdpogaaGreatDoorKMd
import Derived.Test.YtmocelfkmdpogaaGreatDoorKMa
import Derived.Test.YtmocelfkmdpogaaGreatDoorKMc
import Derived.Test.YtmocelfkmdpogaaGreatDoorKWj
import Derived.Test.YtmocelfkmdpogaaGreatDoorKShb
set_option maxRecDepth 100000
set_option maxHeartbeats 4000000
namespace Go.Proofs.YtmocelfkmdpogaaGreatDoor
open Go.RowKit Go.Maps
open Tp (Bs Th Sy Seen X S)
def AskS (w:World) (b:Nat) (v:Value) (res:Option (Nat× Nat)):Prop:=∀ W,Below w.heap.size w W->Calls Tryz.prog 34 #[v,finderV b] W (CkP W res)
def AskPl (w:World) (b:Nat) (v:Value) (res:Option (Nat× Nat)):Prop:=∀ W,Below w.heap.size w W->Calls Tryz.prog 72 #[v,finderV b] W (CkP W res)
structure St1 (w:World) (b:Nat) (a:Option Addr) (i:Nat) (q:Option (Nat× Nat)):Prop where
 out:∃(g code:Nat) (pos:Int) (nm:ByteArray) (iv vv ta ea:Option Addr) (tn tc en ec:Nat) (p0 r1 r2 r3 r4:Option (Nat× Nat)),a=some ⟨g,0,none⟩/\g<w.heap.size /\
  w.cell? ⟨g,i * 7,none⟩=some (.int .i64 (code:Int))/\w.cell? ⟨g,i * 7+1,none⟩=some (.int .i64 pos)/\w.cell? ⟨g,i * 7+2,none⟩=some (.string nm)/\w.cell? ⟨g,i * 7+3,none⟩=some (.pointer iv)/\w.cell? ⟨g,i * 7+4,none⟩=some (.pointer vv)/\w.cell? ⟨g,i * 7+5,none⟩=some (.slice ta tn tc)/\w.cell? ⟨g,i * 7+6,none⟩=some (.slice ea en ec) /\
  (code=1->AskPl w b (.agg #[.int .i64 (code:Int),.int .i64 pos,.string nm,.pointer iv,.pointer vv,.slice ta tn tc,.slice ea en ec]) p0)/\(code≠1->p0=none) /\
  AskX w b (.pointer iv) r1/\AskX w b (.pointer vv) r2/\AskS w b (.slice ta tn tc) r3/\AskS w b (.slice ea en ec) r4/\q=p0.or (r1.or (r2.or (r3.or r4)))
theorem xP {w:World}{b:Nat}{v0 v1 v2 v3 v4 v5 v6:Value}{t:TypeId}(h:w.heap[b]?=some (.cells #[v0,v1,v2,v3,v4,v5,v6] t (0,0))):w.cell? ⟨b,0,none⟩=some v0/\w.cell? ⟨b,1,none⟩=some v1/\w.cell? ⟨b,2,none⟩=some v2/\w.cell? ⟨b,3,none⟩=some v3/\w.cell? ⟨b,4,none⟩=some v4/\w.cell? ⟨b,5,none⟩=some v5/\w.cell? ⟨b,6,none⟩=some v6 :=
 ⟨(za h).trans rfl,(za h).trans rfl,(za h).trans rfl,(za h).trans rfl,(za h).trans rfl,(za h).trans rfl,(za h).trans rfl⟩
theorem xf {w:World}{b:Nat}{a:Option Addr}{n c:Nat}{q:Nat->Option (Nat× Nat)}(hq:∀ i,i<n->St1 w b a i (q i)) (hn:n<=9223372036854775807) :
  Calls Tryz.prog 34 #[.slice a n c,finderV b] w (CkP w ((List.range n).findSome? q)):=by
 have HQ:=zh hq
 have hn':(n:Int)<=9223372036854775807:=by omega
 clear hq
 have HAX:Hid (∀ W v res,AskX w b v res->Below w.heap.size w W->Calls Tryz.prog 73 #[v,.func (.func 74) #[] #[.pointer (some ⟨b,0,none⟩),.pointer (some ⟨b+1,0,none⟩)]] W (CkP W res)):=fun W v res h hW=>h W hW
 have HAS:Hid (∀ W v res,AskS w b v res->Below w.heap.size w W->Calls Tryz.prog 34 #[v,.func (.func 74) #[] #[.pointer (some ⟨b,0,none⟩),.pointer (some ⟨b+1,0,none⟩)]] W (CkP W res)):=fun W v res h hW=>h W hW
 have HAP:Hid (∀ W v res,AskPl w b v res->Below w.heap.size w W->Calls Tryz.prog 72 #[v,.func (.func 74) #[] #[.pointer (some ⟨b,0,none⟩),.pointer (some ⟨b+1,0,none⟩)]] W (CkP W res)):=fun W v res h hW=>h W hW
 unfold finderV
 go_enter Tryz.func34,Tryz.ntmps34
 go_wp2_with fail
 go_loopg [8] n (fun k vi wr=>∃ i:Nat,i<=n/\k=n - i/\vi=.int .i64 (i:Int)/\Hid (Below w.heap.size w wr)/\Hid (∀ j,j<i->q j=none))
 case atStart=>exact⟨0,by omega,by omega,rfl,Below.refl _ _,fun j hj=>absurd hj (by omega)⟩
 case round =>
  obtain⟨i,hid,hk,rfl,HB,HN⟩:=hrel
  have hszr:=HB.out.size
  by_cases hlt:i<n
  ·have hlt':(i:Int)<(n:Int):=by omega
   obtain⟨g,code,pos,nm,iv,vv,ta,ea,tn,tc,en,ec,p0,r1,r2,r3,r4,hag,hgl,c0,c1,c2,c3,c4,c5,c6,ap,ap',a1,a2,a3,a4,hqi⟩:=(HQ.out i hlt).out
   subst hag
   have hcell:∀(o:Nat) (u:Value),w.cell? ⟨g,o,none⟩=some u->wr.cell? ⟨g,o,none⟩=some u:=fun o u h=>(HB.out.cell (p:=⟨g,o,none⟩) hgl).trans h
   have kc0:=hcell _ _ c0
   have kc1:=hcell _ _ c1
   have kc2:=hcell _ _ c2
   have kc3:=hcell _ _ c3
   have kc4:=hcell _ _ c4
   have kc5:=hcell _ _ c5
   have kc6:=hcell _ _ c6
   have hglr:g<wr.heap.size:=by omega
   obtain⟨w1,hw1⟩:∃ w1,w1=wr.alloc (.cells #[.int .i64 (code:Int),.int .i64 pos,.string nm,.pointer iv,.pointer vv,.slice ta tn tc,.slice ea en ec] 139):=⟨_,rfl⟩
   have HB1:Hid (Below w.heap.size w w1):=by rw[hw1];exact HB.out.alloc hszr _
   have HSB:Hid (w1.heap[wr.heap.size]?=some (.cells #[.int .i64 (code:Int),.int .i64 pos,.string nm,.pointer iv,.pointer vv,.slice ta tn tc,.slice ea en ec] 139 (0,0))):=by rw[hw1];exact zk _ _
   have hs1:wr.heap.size<w1.heap.size:=by rw[hw1];simp
   have A1:=zh a1
   have A2:=zh a2
   have A3:=zh a3
   have A4:=zh a4
   have HQI:=zh hqi
   clear c0 c1 c2 c3 c4 c5 c6 hcell a1 a2 a3 a4 hqi
   by_cases hcd:code=1
   ·have AP:=zh (ap hcd)
    have hcd':((code:Int) == 1)=true:=by simp;omega
    clear ap ap' hcd
    go_wp2_with fail
    rw[<-hw1]
    refine(HAP.out w1 _ _ AP.out HB1.out).mono ?_
    intro e w2 hq
    cases p0 with
    | some er =>
     have HQQ:=zh (CkP.up hq HB1.out)
     have HFS:Hid ((List.range n).findSome? q=some er):=zT hlt HN.out (by rw[HQI.out];rfl)
     obtain⟨q1,q2⟩:=hq
     obtain⟨ab,q3,rfl,q4,q5⟩:=q2.out
     clear q1 q2 q3 q4 q5
     go_wp2_with fail
     refine⟨rfl,?_⟩
     rw[HFS.out]
     exact HQQ.out
    | none =>
     obtain⟨hb2,rfl⟩:=hq
     have HB2:Hid (Below w.heap.size w w2):=HB1.out.trans (hb2.mono HB1.out.size)
     have HSB2:Hid (w2.heap[wr.heap.size]?=some (.cells #[.int .i64 (code:Int),.int .i64 pos,.string nm,.pointer iv,.pointer vv,.slice ta tn tc,.slice ea en ec] 139 (0,0))):=(hb2.block _ hs1).trans HSB.out
     clear hb2 AP kc0 kc1 kc2 kc3 kc4 kc5 kc6 hw1
     have m3:w2.cell? ⟨wr.heap.size,3,none⟩=some (.pointer iv):=(za HSB2.out).trans rfl
     have m3':wr.heap.size<w2.heap.size:=zi HSB2.out
     have m0:=(xP HSB2.out).1
     go_wp2_with fail
     refine(HAX.out w2 _ _ A1.out HB2.out).mono ?_
     intro e x1 hq
     cases r1 with
     | some er =>
      have HQQ:=zh (CkP.up hq HB2.out)
      have HFS:Hid ((List.range n).findSome? q=some er):=zT hlt HN.out (by rw[HQI.out];rfl)
      obtain⟨q1,q2⟩:=hq
      obtain⟨ab,q3,rfl,q4,q5⟩:=q2.out
      clear q1 q2 q3 q4 q5
      go_wp2_with fail
      refine⟨rfl,?_⟩
      rw[HFS.out]
      exact HQQ.out
     | none =>
      obtain⟨hb_,rfl⟩:=hq
      have HB_x1:Hid (Below w.heap.size w x1):=HB2.out.trans (hb_.mono HB2.out.size)
      have HSB_x1:=zh ((hb_.block _ m3').trans HSB2.out)
      clear hb_ m3 m3' m0
      have m4:x1.cell? ⟨wr.heap.size,4,none⟩=some (.pointer vv):=(za HSB_x1.out).trans rfl
      have m4':wr.heap.size<x1.heap.size:=zi HSB_x1.out
      go_wp2_with fail
      refine(HAX.out x1 _ _ A2.out HB_x1.out).mono ?_
      intro e x2 hq
      cases r2 with
      | some er =>
       have HQQ:=zh (CkP.up hq HB_x1.out)
       have HFS:Hid ((List.range n).findSome? q=some er):=zT hlt HN.out (by rw[HQI.out];rfl)
       obtain⟨q1,q2⟩:=hq
       obtain⟨ab,q3,rfl,q4,q5⟩:=q2.out
       clear q1 q2 q3 q4 q5
       go_wp2_with fail
       refine⟨rfl,?_⟩
       rw[HFS.out]
       exact HQQ.out
      | none =>
       obtain⟨hb_,rfl⟩:=hq
       have HB_x2:Hid (Below w.heap.size w x2):=HB_x1.out.trans (hb_.mono HB_x1.out.size)
       have HSB_x2:=zh ((hb_.block _ m4').trans HSB_x1.out)
       clear hb_ m4 m4'
       have m5:x2.cell? ⟨wr.heap.size,5,none⟩=some (.slice ta tn tc):=(za HSB_x2.out).trans rfl
       have m5':wr.heap.size<x2.heap.size:=zi HSB_x2.out
       go_wp2_with fail
       refine(HAS.out x2 _ _ A3.out HB_x2.out).mono ?_
       intro e x3 hq
       cases r3 with
       | some er =>
        have HQQ:=zh (CkP.up hq HB_x2.out)
        have HFS:Hid ((List.range n).findSome? q=some er):=zT hlt HN.out (by rw[HQI.out];rfl)
        obtain⟨q1,q2⟩:=hq
        obtain⟨ab,q3,rfl,q4,q5⟩:=q2.out
        clear q1 q2 q3 q4 q5
        go_wp2_with fail
        refine⟨rfl,?_⟩
        rw[HFS.out]
        exact HQQ.out
       | none =>
        obtain⟨hb_,rfl⟩:=hq
        have HB_x3:Hid (Below w.heap.size w x3):=HB_x2.out.trans (hb_.mono HB_x2.out.size)
        have HSB_x3:=zh ((hb_.block _ m5').trans HSB_x2.out)
        clear hb_ m5 m5'
        have m6:x3.cell? ⟨wr.heap.size,6,none⟩=some (.slice ea en ec):=(za HSB_x3.out).trans rfl
        have m6':wr.heap.size<x3.heap.size:=zi HSB_x3.out
        go_wp2_with fail
        refine(HAS.out x3 _ _ A4.out HB_x3.out).mono ?_
        intro e x4 hq
        cases r4 with
        | some er =>
         have HQQ:=zh (CkP.up hq HB_x3.out)
         have HFS:Hid ((List.range n).findSome? q=some er):=zT hlt HN.out (by rw[HQI.out];rfl)
         obtain⟨q1,q2⟩:=hq
         obtain⟨ab,q3,rfl,q4,q5⟩:=q2.out
         clear q1 q2 q3 q4 q5
         go_wp2_with fail
         refine⟨rfl,?_⟩
         rw[HFS.out]
         exact HQQ.out
        | none =>
         obtain⟨hb_,rfl⟩:=hq
         have HB_x4:Hid (Below w.heap.size w x4):=HB_x3.out.trans (hb_.mono HB_x3.out.size)
         have HSB_x4:=zh ((hb_.block _ m6').trans HSB_x3.out)
         clear hb_ m6 m6'
         have HN4:Hid (∀ j,j<i+1->q j=none):=fun j hj=>by
          rcases Nat.lt_or_ge j i with q|q
          ·exact HN.out j q
          ·have:j=i:=by omega
           subst this
           rw[HQI.out]
           rfl
         go_wp2_with fail
         go_roundg (n - (i+1))
         case measure=>omega
         case rel=>exact⟨i+1,by omega,rfl,by go_num,HB_x4,HN4⟩
   ·have hp0:=ap' hcd
    have hcd':((code:Int) == 1)=false:=by simp;omega
    subst hp0
    clear ap ap' hcd
    go_upto_region 3 with fail
    rw[<-hw1]
    clear kc0 kc1 kc2 kc3 kc4 kc5 kc6 hw1
    have m3:w1.cell? ⟨wr.heap.size,3,none⟩=some (.pointer iv):=(za HSB.out).trans rfl
    have m3':wr.heap.size<w1.heap.size:=zi HSB.out
    have m0:=(xP HSB.out).1
    go_wp2_with fail
    refine(HAX.out w1 _ _ A1.out HB1.out).mono ?_
    intro e x1 hq
    cases r1 with
    | some er =>
     have HQQ:=zh (CkP.up hq HB1.out)
     have HFS:Hid ((List.range n).findSome? q=some er):=zT hlt HN.out (by rw[HQI.out];rfl)
     obtain⟨q1,q2⟩:=hq
     obtain⟨ab,q3,rfl,q4,q5⟩:=q2.out
     clear q1 q2 q3 q4 q5
     go_wp2_with fail
     refine⟨rfl,?_⟩
     rw[HFS.out]
     exact HQQ.out
    | none =>
     obtain⟨hb_,rfl⟩:=hq
     have HB_x1:Hid (Below w.heap.size w x1):=HB1.out.trans (hb_.mono HB1.out.size)
     have HSB_x1:=zh ((hb_.block _ m3').trans HSB.out)
     clear hb_ m3 m3' m0
     have m4:x1.cell? ⟨wr.heap.size,4,none⟩=some (.pointer vv):=(za HSB_x1.out).trans rfl
     have m4':wr.heap.size<x1.heap.size:=zi HSB_x1.out
     go_wp2_with fail
     refine(HAX.out x1 _ _ A2.out HB_x1.out).mono ?_
     intro e x2 hq
     cases r2 with
     | some er =>
      have HQQ:=zh (CkP.up hq HB_x1.out)
      have HFS:Hid ((List.range n).findSome? q=some er):=zT hlt HN.out (by rw[HQI.out];rfl)
      obtain⟨q1,q2⟩:=hq
      obtain⟨ab,q3,rfl,q4,q5⟩:=q2.out
      clear q1 q2 q3 q4 q5
      go_wp2_with fail
      refine⟨rfl,?_⟩
      rw[HFS.out]
      exact HQQ.out
     | none =>
      obtain⟨hb_,rfl⟩:=hq
      have HB_x2:Hid (Below w.heap.size w x2):=HB_x1.out.trans (hb_.mono HB_x1.out.size)
      have HSB_x2:=zh ((hb_.block _ m4').trans HSB_x1.out)
      clear hb_ m4 m4'
      have m5:x2.cell? ⟨wr.heap.size,5,none⟩=some (.slice ta tn tc):=(za HSB_x2.out).trans rfl
      have m5':wr.heap.size<x2.heap.size:=zi HSB_x2.out
      go_wp2_with fail
      refine(HAS.out x2 _ _ A3.out HB_x2.out).mono ?_
      intro e x3 hq
      cases r3 with
      | some er =>
       have HQQ:=zh (CkP.up hq HB_x2.out)
       have HFS:Hid ((List.range n).findSome? q=some er):=zT hlt HN.out (by rw[HQI.out];rfl)
       obtain⟨q1,q2⟩:=hq
       obtain⟨ab,q3,rfl,q4,q5⟩:=q2.out
       clear q1 q2 q3 q4 q5
       go_wp2_with fail
       refine⟨rfl,?_⟩
       rw[HFS.out]
       exact HQQ.out
      | none =>
       obtain⟨hb_,rfl⟩:=hq
       have HB_x3:Hid (Below w.heap.size w x3):=HB_x2.out.trans (hb_.mono HB_x2.out.size)
       have HSB_x3:=zh ((hb_.block _ m5').trans HSB_x2.out)
       clear hb_ m5 m5'
       have m6:x3.cell? ⟨wr.heap.size,6,none⟩=some (.slice ea en ec):=(za HSB_x3.out).trans rfl
       have m6':wr.heap.size<x3.heap.size:=zi HSB_x3.out
       go_wp2_with fail
       refine(HAS.out x3 _ _ A4.out HB_x3.out).mono ?_
       intro e x4 hq
       cases r4 with
       | some er =>
        have HQQ:=zh (CkP.up hq HB_x3.out)
        have HFS:Hid ((List.range n).findSome? q=some er):=zT hlt HN.out (by rw[HQI.out];rfl)
        obtain⟨q1,q2⟩:=hq
        obtain⟨ab,q3,rfl,q4,q5⟩:=q2.out
        clear q1 q2 q3 q4 q5
        go_wp2_with fail
        refine⟨rfl,?_⟩
        rw[HFS.out]
        exact HQQ.out
       | none =>
        obtain⟨hb_,rfl⟩:=hq
        have HB_x4:Hid (Below w.heap.size w x4):=HB_x3.out.trans (hb_.mono HB_x3.out.size)
        have HSB_x4:=zh ((hb_.block _ m6').trans HSB_x3.out)
        clear hb_ m6 m6'
        have HN4:Hid (∀ j,j<i+1->q j=none):=fun j hj=>by
         rcases Nat.lt_or_ge j i with q|q
         ·exact HN.out j q
         ·have:j=i:=by omega
          subst this
          rw[HQI.out]
          rfl
        go_wp2_with fail
        go_roundg (n - (i+1))
        case measure=>omega
        case rel=>exact⟨i+1,by omega,rfl,by go_num,HB_x4,HN4⟩
  ·have hlt':¬(i:Int)<(n:Int):=by omega
   have HFS:Hid ((List.range n).findSome? q=none):=yz (fun j hj=>HN.out j (by omega))
   go_wp2_with fail
   refine bodyPost_end (results_none rfl _ _ _) rfl ⟨HB.out,?_⟩
   rw[HFS.out]
theorem jN (x:S) (l:List S):Tp.rs (x :: l)=Tp.rs [x]++Tp.rs l:=by
 obtain⟨code,pos,nm,ix,vl,th,el⟩:=x
 simp[Tp.rs]
theorem rs_app (l m:List S):Tp.rs (l++m)=Tp.rs l++Tp.rs m:=by
 induction l with
 | nil=>simp[Tp.rs]
 | cons x l ih=>rw[List.cons_append,jN,ih,jN x l,List.append_assoc]
theorem rs_one (code pos:Nat) (nm:Bs) (ix vl:List X) (th el:List S):Tp.rs [⟨code,pos,nm,ix,vl,th,el⟩]=(if code=1 then [⟨if ix.isEmpty then 2 else 3,pos,[],nm,0⟩] else [])++(Tp.rx ix++(Tp.rx vl++(Tp.rs th++Tp.rs el))):=by
 simp[Tp.rs]
theorem qL (J:Jd):∀(ar:List S),(List.range ar.length).findSome? (fun i=>(ar[i]?).bind fun y=>(Tp.rs [y]).findSome? J)=(Tp.rs ar).findSome? J:=by
 intro ar
 induction ar with
 | nil=>simp[Tp.rs]
 | cons x l ih =>
  rw[jN,List.findSome?_append,<-ih,List.length_cons,List.range_succ_eq_map,List.findSome?_cons,List.findSome?_map]
  have e2:((fun i=>((x :: l)[i]?).bind fun y=>(Tp.rs [y]).findSome? J) ∘ Nat.succ)=fun i=>(l[i]?).bind fun y=>(Tp.rs [y]).findSome? J:=by
   funext i
   simp
  rw[e2]
  simp only [List.getElem?_cons_zero,Option.bind_some]
  cases (Tp.rs [x]).findSome? J <;> rfl
theorem RepS.step {w w':World}{D:Nat->Prop}{l:List S}{cs:List Value}(h:RepS w D l cs) (k:Below w.heap.size w w'):RepS w' D l cs:=h.mono' (fun b hb hl=>⟨k.block b hl,hb⟩)
theorem OwnS.step {w w':World}{D:Nat->Prop}{v:Value}{n:Nat}{cs:List Value}(h:OwnS w D v n cs) (k:Below w.heap.size w w'):OwnS w' D v n cs:=h.mono (fun b hb hl=>⟨k.block b hl,hb⟩)
theorem RepS.get {w:World}{D:Nat->Prop}:∀(l:List S) (cs:List Value),RepS w D l cs->∀ i (code pos:Nat) (nm:Bs) (ix vl:List X) (th el:List S),l[i]?=some ⟨code,pos,nm,ix,vl,th,el⟩->∃(tv ev:Value) (ls vs tcs ecs:List Value),
  (∀ j,j<7->cs[i * 7+j]?=[.int .i64 (code:Int),.int .i64 (pos:Int),.string (bs nm),ls.headD (.pointer none),vs.headD (.pointer none),tv,ev][j]?)/\RepL w D ix ls/\ls.length<=1/\RepL w D vl vs/\vs.length<=1/\RepS w D th tcs/\OwnS w D tv th.length tcs/\RepS w D el ecs/\OwnS w D ev el.length ecs:=by
 intro l
 induction l with
 | nil=>intro cs _ i _ _ _ _ _ _ _ h;simp at h
 | cons x l ih =>
  intro cs h i code pos nm ix vl th el hi
  obtain⟨code',pos',nm',ix',vl',th',el'⟩:=x
  rw[RepS]at h
  obtain⟨tv,ev,ls,vs,tcs,ecs,cs',h1,h2,h3,h4,h5,h6,h7,h8,h9,h10⟩:=h
  subst h1
  cases i with
  | zero =>
   simp only [List.getElem?_cons_zero,Option.some.injEq,S.mk.injEq]at hi
   obtain⟨rfl,rfl,rfl,rfl,rfl,rfl,rfl⟩:=hi
   refine⟨tv,ev,ls,vs,tcs,ecs,fun j hj=>?_,h2,h3,h4,h5,h6,h7,h8,h9⟩
   rw[Nat.zero_mul,Nat.zero_add,List.getElem?_append_left (by simpa using hj)]
  | succ i =>
   obtain⟨tv',ev',ls',vs',tcs',ecs',q1,q2⟩:=ih cs' h10 i code pos nm ix vl th el (by simpa using hi)
   refine⟨tv',ev',ls',vs',tcs',ecs',fun j hj=>?_,q2⟩
   rw[List.getElem?_append_right (by simp;omega)]
   have:(i+1) * 7+j - [Value.int .i64 (code':Int),.int .i64 (pos':Int),.string (bs nm'),ls.headD (.pointer none),vs.headD (.pointer none),tv,ev].length=i * 7+j:=by simp;omega
   rw[this,q1 j hj]
theorem part_ask {w0 w:World}{b:Nat}{Sn:Seen}{fs:Near}(hF:Fnd w0 b Sn fs) (hfn:fs.length<=1000) (hb:Below w0.heap.size w0 w) {D:Nat->Prop}(l:List X) (vs:List Value) (hs:Sm (Tp.rx l)) (hrep:RepL w D l vs) (hle:vs.length<=1) :
  (∃ a,vs.headD (.pointer none)=.pointer a/\(a=none↔l.isEmpty=true))/\AskX w b (vs.headD (.pointer none)) ((Tp.rx l).findSome? (Tp.judgeP (Tp.standV Sn fs))):=by
 have hvl:=RepL.len _ _ hrep
 match l,vs,hrep with
 | [],vs,hrep =>
  rw[RepL]at hrep
  subst hrep
  refine⟨⟨none,rfl,by simp⟩,fun W hW=>?_⟩
  have:(Tp.rx []).findSome? (Tp.judgeP (Tp.standV Sn fs))=none:=by simp[Tp.rx]
  rw[this]
  exact jv W b
 | [y],vs,hrep =>
  obtain⟨yb,q1,q2⟩:=RepL.get _ _ hrep 0 (by simp)
  have hv:vs=[.pointer (some ⟨yb,0,none⟩)]:=by
   match vs,hle,hvl with
   | [v],_,_=>simp at q1;rw[q1]
  subst hv
  refine⟨⟨_,rfl,by simp⟩,fun W hW=>?_⟩
  exact vG hF hfn _ y zn hs W D yb (hb.trans (hW.mono hb.size)) (hrep.step hW)
 | y :: z :: t,vs,hrep=>simp at hvl;omega
theorem kV {w0:World}{b:Nat}{Sn:Seen}{fs:Near}(hF:Fnd w0 b Sn fs) (hfn:fs.length<=1000):∀(n:Nat) (l:List S),SizeOf.sizeOf l<=n->Sm (Tp.rs l)->∀(w:World) (D:Nat->Prop) (v:Value) (cs:List Value),Below w0.heap.size w0 w->RepS w D l cs->OwnS w D v l.length cs ->
  Calls Tryz.prog 34 #[v,finderV b] w (CkP w ((Tp.rs l).findSome? (Tp.judgeP (Tp.standV Sn fs)))):=by
 intro n
 induction n with
 | zero=>intro l hn;cases l <;> simp at hn <;> omega
 | succ n ih =>
  intro l hn hs w D v cs hb hrep hown
  rw[<-qL]
  have hav:∃ a c,v=.slice a l.length c/\l.length<=9223372036854775807/\∀ i,i<l.length->∃ g,a=some ⟨g,0,none⟩/\g<w.heap.size/\∀ j,j<7->w.cell? ⟨g,i * 7+j,none⟩=cs[i * 7+j]?:=by
   rcases hown with⟨q1,q2⟩|⟨g,cap,cur,q1,q2,q3,q4,q5,q6,q7⟩
   ·exact⟨none,0,by rw[q2];exact q1,by omega,fun i hi=>by omega⟩
   ·refine⟨_,cap,q1,?_,fun i hi=>⟨g,rfl,zi q3,fun j hj=>?_⟩⟩
    ·have:maxLen=9223372036854775807:=rfl
     omega
    ·rw[za q3,<-Array.getElem?_toList,<-q7,List.getElem?_take_of_lt (by omega)]
  obtain⟨a,c,rfl,hln,hcell⟩:=hav
  refine xf (fun i hi=>?_) hln
  rcases hx:l[i] with⟨code,pos,nm,ix,vl,th,el⟩
  have hxi:l[i]?=some ⟨code,pos,nm,ix,vl,th,el⟩:=by rw[List.getElem?_eq_getElem hi,hx]
  obtain⟨tv,ev,ls,vs,tcs,ecs,q1,q2,q3,q4,q5,q6,q7,q8,q9⟩:=RepS.get _ _ hrep i code pos nm ix vl th el hxi
  obtain⟨g,g1,g2,g3⟩:=hcell i hi
  have hmem:∀ r∈Tp.rs [(⟨code,pos,nm,ix,vl,th,el⟩:S)],r∈Tp.rs l:=by
   intro r hr
   have e:l=l.take i++l[i] :: l.drop (i+1):=by rw[<-List.drop_eq_getElem_cons hi,List.take_append_drop]
   rw[e,rs_app,jN,hx]
   simp[hr]
  have hone:=rs_one code pos nm ix vl th el
  have hsz:SizeOf.sizeOf l[i]<SizeOf.sizeOf l:=List.sizeOf_lt_of_mem (List.getElem_mem hi)
  rw[hx]at hsz
  simp at hsz
  have s1:Sm (Tp.rx ix):=hs.sub fun r hr=>hmem r (by rw[hone];simp[hr])
  have s2:Sm (Tp.rx vl):=hs.sub fun r hr=>hmem r (by rw[hone];simp[hr])
  have s3:Sm (Tp.rs th):=hs.sub fun r hr=>hmem r (by rw[hone];simp[hr])
  have s4:Sm (Tp.rs el):=hs.sub fun r hr=>hmem r (by rw[hone];simp[hr])
  obtain⟨⟨iv,hiv,hive⟩,hA1⟩:=part_ask hF hfn hb ix ls s1 q2 q3
  obtain⟨⟨vv,hvv,_⟩,hA2⟩:=part_ask hF hfn hb vl vs s2 q4 q5
  obtain⟨ta,tc,rfl⟩:=q7.shape
  obtain⟨ea,ec,rfl⟩:=q9.shape
  rw[hiv]at hA1 q1
  rw[hvv]at hA2 q1
  have hc:=fun j (hj:j<7)=>(g3 j hj).trans (q1 j hj)
  refine⟨g,code,pos,bs nm,iv,vv,ta,ea,th.length,tc,el.length,ec,if code=1 then Tp.judgeP (Tp.standV Sn fs) ⟨if ix.isEmpty then 2 else 3,pos,[],nm,0⟩ else none,_,_,(Tp.rs th).findSome? (Tp.judgeP (Tp.standV Sn fs)),(Tp.rs el).findSome? (Tp.judgeP (Tp.standV Sn fs)),g1,g2,hc 0 (by omega),hc 1 (by omega),hc 2 (by omega),hc 3 (by omega),hc 4 (by omega),hc 5 (by omega),hc 6 (by omega),?_,fun h=>if_neg h,hA1,hA2,fun W hW=>?_,fun W hW=>?_,?_⟩
  ·intro h1 W hW
   rw[if_pos h1]
   have hm:=hs ⟨if ix.isEmpty then 2 else 3,pos,[],nm,0⟩ (hmem _ (by rw[hone,if_pos h1];simp))
   have:=xg (code:=code) (pos:=pos) (nm:=nm) (iv:=iv) (vv:=vv) (ta:=ta) (ea:=ea) (tn:=th.length) (tc:=tc) (en:=el.length) (ec:=ec) ((hF.on hb).on (hW)) hfn hm.2
   have e:(if iv=none then 2 else 3)=(if ix.isEmpty=true then 2 else 3):=by
    by_cases hh:iv=none
    ·rw[if_pos hh,if_pos (hive.1 hh)]
    ·rw[if_neg hh,if_neg (fun q=>hh (hive.2 q))]
   rw[e]at this
   exact this
  ·exact ih th (by omega) s3 W D _ tcs (hb.trans (hW.mono hb.size)) (q6.step hW) (q7.step hW)
  ·exact ih el (by omega) s4 W D _ ecs (hb.trans (hW.mono hb.size)) (q8.step hW) (q9.step hW)
  ·rw[hxi,Option.bind_some,hone,List.findSome?_append,List.findSome?_append,List.findSome?_append,List.findSome?_append]
   congr 1
   by_cases h1:code=1
   ·rw[if_pos h1,if_pos h1,List.findSome?_cons]
    cases Tp.judgeP (Tp.standV Sn fs) ⟨if ix.isEmpty=true then 2 else 3,pos,[],nm,0⟩ <;> rfl
   ·rw[if_neg h1,if_neg h1];rfl
end Go.Proofs.YtmocelfkmdpogaaGreatDoor
namespace Tp
open Ob (In En O Sm Us Gl nameB good allB symB useB otherB varB headB entB procsB codeB rightB countsB lenB)
theorem yr {s:Bs}(h:okn s):nameB s=true:=by
 obtain⟨⟨c,l,rfl,hc,hd⟩,_,hl⟩:=h
 unfold nameB
 rw[Bool.and_eq_true,Bool.and_eq_true]
 refine⟨decide_eq_true ?_,decide_eq_true (by simp),decide_eq_true hl⟩
 intro i hi
 cases i with
 | zero =>
  simp only [List.getElem_cons_zero]
  simp only [letter,decide_eq_true_eq]at hc
  simp[good,hc]
 | succ i =>
  have:=hd _ (List.getElem_mem hi)
  simp only [ld,letter,digit,Bool.or_eq_true,decide_eq_true_eq]at this
  rcases this with h|h
  ·simp only [good,Bool.or_eq_true,Bool.and_eq_true,decide_eq_true_eq]
   exact Or.inl h
  ·simp only [good,Bool.or_eq_true,Bool.and_eq_true,decide_eq_true_eq]
   exact Or.inr ⟨h,by simp⟩
theorem xS {α:Type}{p:α->Bool}{most:Nat}{l:List α}(h:l.length<=most) (h':∀ x∈l,p x=true):allB p most l=true:=by
 unfold allB
 rw[Bool.and_eq_true]
 refine⟨decide_eq_true h,?_⟩
 rw[Bool.not_eq_true',List.any_eq_false]
 intro x hx
 simp[h' x hx]
def objC (m:M) (syms:List Sm) (uF:Bs->List Bs) (need:Bs->Bs):O :=
 ⟨m.name,syms,m.imports.map fun n=>⟨n,need n,uF n⟩,m.vars.map fun g=>⟨g.name,0,(g.len:Int),g.seen⟩,entP m uF (headC m uF).length m.procs,m.procs.map (·.name),codeC m uF⟩
theorem ent_in {m:M}{uF:Bs->List Bs}{n:Nat}(hw:∀ p∈m.procs,WP p):∀(ps:List Pr) (k:Nat),(∀ p∈ps,p∈m.procs)->k+(cP m uF k ps).length<=n->∀ e∈entP m uF k ps,entB n e=true:=by
 intro ps
 induction ps with
 | nil=>intro k _ _ e he;cases he
 | cons p ps ih =>
  intro k hs hk e he
  rw[cP,List.length_append]at hk
  have h3:(bodyP m uF k p).length=(cS (cnOf m uF (ownOf p)) k p.body).length+2:=by simp[bodyP]
  rw[entP]at he
  rcases List.mem_cons.1 he with rfl|he
  ·have:=(hw p (hs p (by simp))).c
   have e:(ownOf p).length=p.params.length+p.vars.length:=by simp[ownOf]
   unfold entB
   simp only [Bool.and_eq_true,decide_eq_true_eq]
   exact⟨yx (by omega) (by omega),by omega,by omega,by omega⟩
  ·exact ih _ (fun q hq=>hs q (List.mem_cons_of_mem _ hq)) (by omega) e he
theorem objC_right {m:M}{seen:Seen}{syms:List Sm}{uF:Bs->List Bs}{need:Bs->Bs}(hm:WM m) (hc:check m seen=none) (hF:∀ r∈allR m,r.mod≠[]->r.name∈uF r.mod) (hn:nM m<=1000)
  (hs:syms.length<=20) (hs':∀ s∈syms,symB s=true) (hu:∀ n∈m.imports,(uF n).length<=100/\(∀ x∈uF n,okn x)/\(need n).length<=4000):rightB (objC m syms uF need)=true:=by
 have F:=kO.1 hc
 have hne:∀ n∈m.imports,n≠[]:=by
  intro n h e
  obtain⟨⟨c,l,h1,_⟩,_⟩:=hm.i n h
  rw[e]at h1
  cases h1
 have hcode:codeB (objC m syms uF need)=true:=qQ hm hc hne hF hn (by simp[objC]) (by simp[objC]) (by simp[objC,entP_len]) rfl
 unfold rightB
 rw[Bool.and_eq_true,Bool.and_eq_true]
 refine⟨?_,?_,hcode⟩
 ·unfold headB
  rw[Bool.and_eq_true,Bool.and_eq_true,Bool.and_eq_true]
  refine⟨yr hm.n,xS hs hs',xS (by simpa[objC] using hm.ic) ?_,xS (by simpa[objC] using hm.gc) ?_⟩
  ·intro u h0
   obtain⟨n,h,rfl⟩:=List.mem_map.1 h0
   have h1:=F.1.1 n h
   have h2:=hu n h
   simp only [otherB,useB,Bool.and_eq_true,decide_eq_true_eq]
   exact⟨h1.1,yr (hm.i n h),h2.2.2,xS h2.1 fun x hx=>yr (h2.2.1 x hx)⟩
  ·intro g h0
   obtain⟨g,h,rfl⟩:=List.mem_map.1 h0
   have h1:=hm.g g h
   have h2:=h1.l
   simp only [varB,lenB,Bool.and_eq_true,decide_eq_true_eq]
   exact⟨yr h1.n,trivial,by omega,by omega⟩
 ·unfold procsB
  rw[Bool.and_eq_true,Bool.and_eq_true]
  refine⟨xS (by simpa[objC,entP_len] using hm.pc) ?_,by simp[objC,entP_len],xS (by simpa[objC] using hm.pc) ?_⟩
  ·refine ent_in hm.p m.procs _ (fun _ h=>h) ?_
   simp[objC,codeC]
  ·intro n h0
   obtain⟨p,h,rfl⟩:=List.mem_map.1 h0
   exact yr (hm.p p h).n
theorem need_less {l:List Sy}{ns:List Bs}:needsS (l.filter fun s=>decide (s.1∈ns)) ns=needsS l ns:=by
 unfold needsS
 congr 1
 refine List.map_congr_left fun n hn=>?_
 unfold needS
 have:findS (l.filter fun s=>decide (s.1∈ns)) n=findS l n:=by
  unfold findS
  rw[List.find?_filter]
  congr 1
  funext s
  by_cases h:s.1=n
  ·simp[h,hn]
  ·simp[h]
 rw[this]
end Tp
namespace Tp
open Ob (Sm symB lenB)
def smOf (s:Sy):Sm:=⟨s.1,(s.2.1:Int),s.2.2⟩
theorem sym_in {m:M}(hm:WM m) {s:Sy}(h:s∈symsOf m):symB (smOf s)=true:=by
 unfold symsOf at h
 rcases List.mem_append.1 h with h|h
 ·obtain⟨g,hg,rfl⟩:=List.mem_map.1 h
  have h1:=hm.g g (List.mem_filter.1 hg).1
  have h2:=h1.l
  simp only [symB,smOf,syG,lenB,Bool.and_eq_true,Bool.or_eq_true]
  exact⟨yr h1.n,decide_eq_true (by omega),decide_eq_true (by omega),⟨decide_eq_true (by omega),decide_eq_true (by omega)⟩,Or.inl (decide_eq_true (by omega))⟩
 ·obtain⟨p,hp,rfl⟩:=List.mem_map.1 h
  have h1:=hm.p p (List.mem_filter.1 hp).1
  have h2:=h1.c
  simp only [symB,smOf,syP,lenB,Bool.and_eq_true,Bool.or_eq_true]
  exact⟨yr h1.n,decide_eq_true (by omega),decide_eq_true (by omega),⟨decide_eq_true (by omega),decide_eq_true (by omega)⟩,Or.inr (decide_eq_true (by omega))⟩
theorem syms_len {m:M}(hm:WM m):(symsOf m).length<=20:=by
 have h1:=hm.gc
 have h2:=hm.pc
 have h3:=List.length_filter_le (fun g:G=>g.seen) m.vars
 have h4:=List.length_filter_le (fun p:Pr=>p.seen) m.procs
 unfold symsOf
 rw[List.length_append,List.length_map,List.length_map]
 omega
theorem nodup_le {α:Type} [BEq α] [LawfulBEq α]:∀(l l':List α),l.Nodup->(∀ x∈l,x∈l')->l.length<=l'.length:=by
 intro l
 induction l with
 | nil=>intro l' _ _;simp
 | cons a l ih =>
  intro l' hn hs
  rw[List.nodup_cons]at hn
  have ha:=hs a (by simp)
  have:=ih (l'.erase a) hn.2 (fun x hx=>(List.mem_erase_of_ne (fun (e:x=a)=>hn.1 (e ▸ hx))).2 (hs x (List.mem_cons_of_mem _ hx)))
  rw[List.length_erase_of_mem ha]at this
  have:0<l'.length:=List.length_pos_of_mem ha
  simp only [List.length_cons]
  omega
theorem vL {m:M}{seen:Seen}(hc:check m seen=none) {n x:Bs}(h:x∈usedR m n):∃ s∈(seen n).getD [],s.1=x:=by
 have F:=kO.1 hc
 unfold usedR at h
 obtain⟨r,hr0,rfl⟩:=List.mem_map.1 h
 obtain⟨hr,he⟩:=List.mem_filter.1 hr0
 simp only [Bool.and_eq_true,Bool.not_eq_true',beq_eq_false_iff_ne,beq_iff_eq]at he
 obtain⟨hne,rfl⟩:=he
 have key:∀ own,judge m own seen r=none->∃ s∈(seen r.mod).getD [],s.1=r.name:=by
  intro own hj
  unfold judge at hj
  split at hj
  ·cases hj
  ·rename_i s hs
   unfold stand at hs
   rw[if_pos hne]at hs
   split at hs
   ·split at hs
    ·rename_i t ht
     exact⟨t,List.mem_of_find?_eq_some ht,by simpa using List.find?_some ht⟩
    ·cases hs
   ·cases hs
 rcases List.mem_append.1 hr with hr1|hr1
 ·obtain⟨l,hl,hr2⟩:=List.mem_flatten.1 hr1
  obtain⟨p,hp,rfl⟩:=List.mem_map.1 hl
  exact key _ ((F.2.2.1 p hp).2 r hr2)
 ·exact key _ (F.2.2.2 r hr1)
theorem used_len {m:M}{seen:Seen}{uF:Bs->List Bs}(hc:check m seen=none) (hs:∀ n l,seen n=some l->l.length<=20/\∀ s∈l,okn s.1) (hn:∀ n,(uF n).Nodup) (hu:∀ n x,x∈uF n->x∈usedR m n) (n:Bs) :
  (uF n).length<=20/\∀ x∈uF n,okn x:=by
 have hl:((seen n).getD []).length<=20/\∀ s∈(seen n).getD [],okn s.1:=by
  rcases h:seen n with _|l
  ·simp
  ·simpa using hs n l h
 refine⟨?_,fun x hx=>?_⟩
 ·have:=nodup_le (uF n) (((seen n).getD []).map (·.1)) (hn n) (fun x hx=>by
   obtain⟨s,h1,h2⟩:=vL hc (hu n x hx)
   exact List.mem_map.2 ⟨s,h1,h2⟩)
  rw[List.length_map]at this
  omega
 ·obtain⟨s,h1,rfl⟩:=vL hc (hu n x hx)
  exact hl.2 s h1
theorem jg (f:Bs) (ss:List Bs):(wordsL f ss).length=f.length+(ss.map fun s=>s.length+1).sum+1:=by
 unfold wordsL
 simp[Function.comp_def]
 exact(Nat.add_assoc _ _ _).symm
theorem line_len {s:Sy}(h:s.1.length<=10) (h1:s.2.1<100) (h2:s.2.2<100):(lineOf s).length<=40:=by
 have d1:=dec_len 1 s.2.1 (by omega)
 have d2:=dec_len 1 s.2.2.toNat (by omega)
 unfold lineOf
 split
 ·rw[jg];simp[wProc];omega
 ·split
  ·rw[jg];simp[wArr];omega
  ·rw[jg];simp[wInt];omega
theorem jQ {l:List Sy}(hl:∀ s∈l,s.1.length<=10/\s.2.1<100/\s.2.2<100):∀ {ns:List Bs},(∀ n∈ns,n.length<=10)->(needsS l ns).length<=40 * ns.length:=by
 intro ns
 induction ns with
 | nil=>intro _;simp[needsS]
 | cons n ns ih =>
  intro h
  have h1:=ih (fun x hx=>h x (List.mem_cons_of_mem _ hx))
  have h2:(needS l n).length<=40:=by
   unfold needS
   split
   ·rename_i s hs
    have:=hl s (List.mem_of_find?_eq_some hs)
    exact line_len this.1 this.2.1 this.2.2
   ·have:=h n (by simp)
    rw[jg];simp;omega
  have e:needsS l (n :: ns)=needS l n++needsS l ns:=by simp[needsS]
  rw[e,List.length_append,List.length_cons]
  omega
end Tp
namespace Tp
open Ob (O rightB)
def SeenOk (seen:Seen):Prop:=∀ n l,seen n=some l->l.length<=20/\∀ s∈l,okn s.1/\s.2.1<100/\s.2.2<100
structure UsedOk (m:M) (uF:Bs->List Bs):Prop where
 nodup:∀ n,(uF n).Nodup
 mem:∀ n x,x∈uF n↔x∈usedR m n
def compileC (m:M) (syms:List Sy) (uF:Bs->List Bs) (seen:Seen):O:=objC m (syms.map smOf) uF fun n=>needsS ((seen n).getD []) (uF n)
theorem compileC_right {l:Bs}{m:M}{seen:Seen}{uF:Bs->List Bs}{syms:List Sy}(hp:parse l=.ok m) (hl:l.length<=1000) (hc:check m seen=none) (hs:SeenOk seen) (hu:UsedOk m uF)
  (hy:syms.length=(symsOf m).length) (hy':∀ s∈syms,s∈symsOf m):rightB (compileC m syms uF seen)=true:=by
 obtain⟨hm,hn⟩:=parse_wm hp
 have hul:=used_len (uF:=uF) hc (fun n l h=>⟨(hs n l h).1,fun s q=>((hs n l h).2 s q).1⟩) hu.nodup (fun n x q=>(hu.mem n x).1 q)
 refine objC_right hm hc ?_ (by omega) ?_ ?_ ?_
 ·intro r hr hne
  rw[hu.mem]
  unfold usedR
  refine List.mem_map.2 ⟨r,List.mem_filter.2 ⟨hr,?_⟩,rfl⟩
  simp[hne]
 ·have:=syms_len hm
  rw[List.length_map]
  omega
 ·intro s h
  obtain⟨t,ht,rfl⟩:=List.mem_map.1 h
  exact sym_in hm (hy' t ht)
 ·intro n _
  refine⟨by have:=(hul n).1;omega,(hul n).2,?_⟩
  have h1:∀ s∈(seen n).getD [],s.1.length<=10/\s.2.1<100/\s.2.2<100:=by
   intro s h
   rcases e:seen n with _|l
   ·rw[e]at h;cases h
   ·rw[e]at h
    have:=(hs n l e).2 s h
    exact⟨this.1.2.2,this.2⟩
  have h2:=jQ h1 (ns:=uF n) (fun x hx=>((hul n).2 x hx).2.2)
  have:=(hul n).1
  omega
theorem compileC_less {m:M}{syms:List Sy}{uF:Bs->List Bs}{seen seen':Seen}(h:∀ n∈m.imports,(seen' n).getD []=((seen n).getD []).filter fun s=>decide (s.1∈uF n)):compileC m syms uF seen'=compileC m syms uF seen:=by
 unfold compileC objC
 have:(m.imports.map fun n=>(⟨n,needsS ((seen' n).getD []) (uF n),uF n⟩:Ob.Us))=m.imports.map fun n=>⟨n,needsS ((seen n).getD []) (uF n),uF n⟩:=by
  refine List.map_congr_left fun n hn=>?_
  rw[h n hn,need_less]
 rw[this]
end Tp
namespace Go.Proofs.YtmocelfkmdpogaaGreatDoor
open Go.RowKit
variable {kk:Nat->Prop}
open Tp (Sy)
theorem dec_itoa:∀ n:Nat,Tp.dec n=Lib.itoa (n:Int):=by
 intro n
 rw[Lib.itoa_nonneg]
 induction n using Nat.strongRecOn with
 | _ n ih =>
  rw[Tp.dec,Lib.decDigits]
  split
  ·rfl
  ·rw[ih (n / 10) (by omega)]
theorem uy (w:World) (i:Nat) (hi:i<100):Calls Tryz.prog 190 #[.int .i64 (i:Int)] w fun e w'=>e=.returned (.string (bs (Tp.dec i)))/\w'=w:=by
 have h:=Any.strconv_Itoa_small Tryz.laysItoa i hi w
 have e:Tp.dec i=Lib.decDigits i:=by rw[dec_itoa,Lib.itoa_nonneg]
 rw[e]
 exact h
theorem yL {w:World}{B:Nat}{v:Value}{l:List UInt8}(h:Buf kk w B v l) (first:List UInt8) (ss:List (List UInt8)) (sb cs:Nat) (hs:w.heap[sb]?=some (.cells (ss.map fun s=>Value.string (bs s)).toArray 9 (0,0))) (hn:ss.length<=1000) (hl:(l++Tp.wordsL first ss).length<=1000000000) :
  Calls Tryz.prog 154 #[v,.string (bs first),.slice (some ⟨sb,0,none⟩) ss.length cs] w (Wrote kk B w (l++Tp.wordsL first ss)):=by
 obtain⟨ao,cap,hv⟩:=zl h.1
 subst hv
 have hlf:l.length+first.length<=1000000000:=by unfold Tp.wordsL at hl;simp only [List.length_append]at hl;omega
 have hln:∀ i,i<=ss.length->(l++first++((ss.take i).map fun s=>(32:UInt8) :: s).flatten).length+1<=1000000000:=by
  intro i hi
  unfold Tp.wordsL at hl
  have e:(ss.map fun s=>(32:UInt8) :: s).flatten=((ss.take i).map fun s=>(32:UInt8) :: s).flatten++((ss.drop i).map fun s=>(32:UInt8) :: s).flatten:=by
   conv=>lhs;rw[<-List.take_append_drop i ss,List.map_append,List.flatten_append]
  rw[e]at hl
  simp only [List.length_append,List.length_cons,List.length_nil]at hl ⊢
  omega
 have HLN:=zh hln
 have HL:=zh hl
 clear hln hl
 go_enter Tryz.func154,Tryz.ntmps154
 go_wp2_with (at_builtin;refine kA rfl _ _ rfl h first rfl rfl ?c1 ?_)
 case c1=>omega
 intro v1 w1 hb1 hbel1
 have hs1:=hbel1.keeps hs (by decide)
 have HB1:=zh hb1
 have HBW1:=zh hbel1
 have HS1:=zh hs1
 clear hb1 hbel1 hs1 hs
 go_wp2_with fail
 go_loopg [0,14] ss.length (fun k v vi wr=>∃ i:Nat,i<=ss.length/\k=ss.length - i/\vi=.int .i64 (i:Int)/\Hid (Buf kk wr B v (l++first++((ss.take i).map fun s=>(32:UInt8) :: s).flatten))/\Hid (Bw kk B w wr)/\Hid (wr.heap[sb]?=some (.cells (ss.map fun s=>Value.string (bs s)).toArray 9 (0,0))))
 case atStart=>exact⟨0,by omega,by omega,rfl,by unfold Hid;simpa using HB1.out,HBW1,HS1⟩
 case round =>
  obtain⟨i,hid,hk,rfl,HB,HBW,HS⟩:=hrel
  clear HB1 HBW1 HS1
  have hbuf:=HB.out
  obtain⟨m,hm⟩:∃ m,m=l++first++((ss.take i).map fun s=>(32:UInt8) :: s).flatten:=⟨_,rfl⟩
  rw[<-hm]at hbuf
  have hml:=HLN.out i hid
  rw[<-hm]at hml
  have HM:=zh hm
  clear hm HB
  obtain⟨a1,c1,hv⟩:=zl hbuf.1
  subst hv
  by_cases hlt:i<ss.length
  ·have hlt':(i:Int)<(ss.length:Int):=by omega
   have hcell:wr.cell? ⟨sb,i,none⟩=some (.string (bs ss[i])):=by rw[za HS.out];simp[hlt]
   have hlb:=zi HS.out
   have hml2:=HLN.out (i+1) hlt
   have hnew:l++first++((ss.take (i+1)).map fun s=>(32:UInt8) :: s).flatten=m++[32]++ss[i]:=by
    rw[List.take_succ_eq_append_getElem hlt,List.map_append,List.flatten_append,HM.out]
    simp
   rw[hnew]at hml2
   have HNEW:=zh hnew
   clear hnew
   generalize ss[i]=x at hcell hml2 HNEW
   have hml3:m.length+1+x.length<=1000000000:=by simp only [List.length_append,List.length_cons,List.length_nil]at hml2;omega
   clear hml2
   go_wp2_with (at_builtin;refine jJ rfl _ _ rfl hbuf 32 32 rfl rfl rfl ?c1 ?_)
   case c1=>omega
   intro v2 w2 hb2 hbel2
   have HS2:=zh (hbel2.keeps HS.out (by decide))
   have HBW2:=zh (HBW.out.trans hbel2)
   clear hbuf hbel2 HS HBW hcell
   go_wp2_with (at_builtin;refine kA rfl _ _ rfl hb2 x rfl rfl ?c2 ?_)
   case c2=>simp only [List.length_append,List.length_cons,List.length_nil];omega
   intro v3 w3 hb3 hbel3
   have HB3:Hid (Buf kk w3 B v3 (l++first++((ss.take (i+1)).map fun s=>(32:UInt8) :: s).flatten)):=by unfold Hid;rw[HNEW.out];simpa using hb3
   have HBW3:=zh (HBW2.out.trans hbel3)
   have HS3:=zh (hbel3.keeps HS2.out (by decide))
   clear hb2 hb3 hbel3 HS2 HBW2
   go_wp2_with fail
   go_roundg (ss.length - (i+1))
   case measure=>omega
   case rel=>exact⟨i+1,by omega,rfl,by go_num,HB3,HBW3,HS3⟩
  ·have hlt':¬(i:Int)<(ss.length:Int):=by omega
   have e:i=ss.length:=by omega
   go_wp2_with (at_builtin;refine jJ rfl _ _ rfl hbuf 10 10 rfl rfl rfl ?c1 ?_)
   case c1=>omega
   intro v2 w2 hb2 hbel2
   have HB2:Hid (Buf kk w2 B v2 (l++Tp.wordsL first ss)):=by
    unfold Hid Tp.wordsL
    rw[HM.out,e,List.take_length]at hb2
    simpa using hb2
   have HBW2:=zh (HBW.out.trans hbel2)
   clear hb2 hbel2 hbuf
   go_wp2_with fail
   go_ret
   exact⟨_,rfl,HB2.out,HBW2.out⟩
theorem ky {w:World}{b:Nat}{v0 v1 v2:Value}{t:TypeId}(h:w.heap[b]?=some (.cells #[v0,v1,v2] t (0,0))):w.cell? ⟨b,0,none⟩=some v0/\w.cell? ⟨b,1,none⟩=some v1/\w.cell? ⟨b,2,none⟩=some v2 :=
 ⟨(za h).trans rfl,(za h).trans rfl,(za h).trans rfl⟩
theorem qX (s:Sy) (h1:s.2.1<100) (h2:s.2.2<100) (h3:-1<=s.2.2) {w:World}{B:Nat}{v:Value}{l:List UInt8}(hb:Buf kk w B v l) (hl:(l++Tp.lineOf s).length<=1000000000) :
  Calls Tryz.prog 153 #[v,.agg #[.string (bs s.1),.int .i64 (s.2.1:Int),.int .i64 s.2.2]] w (Wrote kk B w (l++Tp.lineOf s)):=by
 obtain⟨nm,len,args⟩:=s
 simp only at h1 h2 h3 ⊢
 unfold Tp.lineOf at hl ⊢
 simp only at hl ⊢
 have hal:∀ ob,Below w.heap.size w (w.alloc ob):=fun ob=>zb _ _
 have hblk:(w.alloc (.cells #[.string (bs nm),.int .i64 (len:Int),.int .i64 args] 44)).heap[w.heap.size]?=some (.cells #[.string (bs nm),.int .i64 (len:Int),.int .i64 args] 44 (0,0)):=zk _ _
 obtain⟨k0,k1,k2⟩:=ky hblk
 by_cases ha:0<=args
 ·rw[if_pos ha]at hl ⊢
  obtain⟨an,rfl⟩:∃ an:Nat,args=an:=⟨args.toNat,by omega⟩
  have e:((an:Int)).toNat=an:=by simp
  rw[e]at hl ⊢
  have hit:=fun W=>uy W an (by omega)
  obtain⟨ds,hds⟩:∃ ds,ds=Tp.dec an:=⟨_,rfl⟩
  rw[<-hds]at hl hit ⊢
  obtain⟨mf,hmf⟩:∃ mf,mf=l++Tp.wordsL Tp.wProc [nm,ds]:=⟨_,rfl⟩
  rw[<-hmf]
  have HMF:=zh hmf
  have HL:=zh hl
  have HI:Hid (∀ W,Calls Tryz.prog 190 #[.int .i64 (an:Int)] W fun e w'=>e=.returned (.string (bs ds))/\w'=W):=hit
  clear hit hmf hl hds e
  have hD:Below w.heap.size w ((w.alloc (.cells #[.string (bs nm),.int .i64 (len:Int),.int .i64 (an:Int)] 44)).alloc (.cells #[.string (bs nm),.string (bs ds)] 9)).drew:=((hal _).alloc (by simp) _).drew
  have hA:=yL (hb.below hD) Tp.wProc [nm,ds] (w.heap.size+1) 2 (jn _ _ _) (by simp) HL.out
  have HA:Hid (Calls Tryz.prog 154 #[v,.string ⟨#[112,114,111,99]⟩,.slice (some ⟨w.heap.size+1,0,none⟩) 2 2] ((w.alloc (.cells #[.string (bs nm),.int .i64 (len:Int),.int .i64 (an:Int)] 44)).alloc (.cells #[.string (bs nm),.string (bs ds)] 9)).drew (Wrote kk B ((w.alloc (.cells #[.string (bs nm),.int .i64 (len:Int),.int .i64 (an:Int)] 44)).alloc (.cells #[.string (bs nm),.string (bs ds)] 9)).drew mf)):=by rw[HMF.out];exact hA
  have HBW:Hid (Bw kk B w ((w.alloc (.cells #[.string (bs nm),.int .i64 (len:Int),.int .i64 (an:Int)] 44)).alloc (.cells #[.string (bs nm),.string (bs ds)] 9)).drew):=Bw.of (kk:=kk) hD hb.2
  have HK:Hid (((w.alloc (.cells #[.string (bs nm),.int .i64 (len:Int),.int .i64 (an:Int)] 44)).alloc (.cells #[.string (bs nm),.string (bs ds)] 9)).drew.heap[w.heap.size]?=some (.cells #[.string (bs nm),.int .i64 (len:Int),.int .i64 (an:Int)] 44 (0,0))):=(Below.heap_alloc _ _ w.heap.size (by simp)).trans hblk
  obtain⟨j0,j1,j2⟩:=ky HK.out
  clear hA hD hb hblk
  go_enter Tryz.func153,Tryz.ntmps153
  go_wp2_with fail
  go_region_held3 (fun w'=>w'.cell? ⟨w.heap.size,0,none⟩=some (.string (bs nm))/\w'.cell? ⟨w.heap.size,2,none⟩=some (.int .i64 (an:Int))) (first|(exact⟨k0,k2⟩)|(exact⟨j0,j2⟩)|(exact⟨q0,q2⟩)) (first|(go_at_call 190;refine(HI.out _).mono ?_;rintro e w2 ⟨rfl,rfl⟩)|(go_at_call 154;refine HA.out.mono ?_;rintro e w3 ⟨v3,rfl,hbuf3,hbel3⟩;have hblk3:=hbel3.keeps HK.out (by decide);have HB3:=zh (HBW.out.trans hbel3);have HF3:=zh hbuf3;obtain⟨q0,q1,q2⟩:=ky hblk3;clear hbuf3 hbel3))
  go_wp2_with fail
  go_ret
  exact⟨_,rfl,HF3.out,HB3.out⟩
 ·rw[if_neg ha]at hl ⊢
  by_cases h0:0<len
  ·rw[if_pos h0]at hl ⊢
   have h0':(0:Int)<(len:Int):=by omega
   have hit:=fun W=>uy W len (by omega)
   obtain⟨ds,hds⟩:∃ ds,ds=Tp.dec len:=⟨_,rfl⟩
   rw[<-hds]at hl hit ⊢
   obtain⟨mf,hmf⟩:∃ mf,mf=l++Tp.wordsL Tp.wArr [nm,ds]:=⟨_,rfl⟩
   rw[<-hmf]
   have HMF:=zh hmf
   have HL:=zh hl
   have HI:Hid (∀ W,Calls Tryz.prog 190 #[.int .i64 (len:Int)] W fun e w'=>e=.returned (.string (bs ds))/\w'=W):=hit
   clear hit hmf hl hds
   have hD:Below w.heap.size w ((w.alloc (.cells #[.string (bs nm),.int .i64 (len:Int),.int .i64 args] 44)).alloc (.cells #[.string (bs nm),.string (bs ds)] 9)).drew:=((hal _).alloc (by simp) _).drew
   have hA:=yL (hb.below hD) Tp.wArr [nm,ds] (w.heap.size+1) 2 (jn _ _ _) (by simp) HL.out
   have HA:Hid (Calls Tryz.prog 154 #[v,.string ⟨#[97,114,114,97,121]⟩,.slice (some ⟨w.heap.size+1,0,none⟩) 2 2] ((w.alloc (.cells #[.string (bs nm),.int .i64 (len:Int),.int .i64 args] 44)).alloc (.cells #[.string (bs nm),.string (bs ds)] 9)).drew (Wrote kk B ((w.alloc (.cells #[.string (bs nm),.int .i64 (len:Int),.int .i64 args] 44)).alloc (.cells #[.string (bs nm),.string (bs ds)] 9)).drew mf)):=by rw[HMF.out];exact hA
   have HBW:Hid (Bw kk B w ((w.alloc (.cells #[.string (bs nm),.int .i64 (len:Int),.int .i64 args] 44)).alloc (.cells #[.string (bs nm),.string (bs ds)] 9)).drew):=Bw.of (kk:=kk) hD hb.2
   have HK:Hid (((w.alloc (.cells #[.string (bs nm),.int .i64 (len:Int),.int .i64 args] 44)).alloc (.cells #[.string (bs nm),.string (bs ds)] 9)).drew.heap[w.heap.size]?=some (.cells #[.string (bs nm),.int .i64 (len:Int),.int .i64 args] 44 (0,0))):=(Below.heap_alloc _ _ w.heap.size (by simp)).trans hblk
   obtain⟨j0,j1,j2⟩:=ky HK.out
   clear hA hD hb hblk
   go_enter Tryz.func153,Tryz.ntmps153
   go_wp2_with fail
   go_region_held3 (fun w'=>w'.cell? ⟨w.heap.size,0,none⟩=some (.string (bs nm))/\w'.cell? ⟨w.heap.size,1,none⟩=some (.int .i64 (len:Int))) (first|(exact⟨k0,k1⟩)|(exact⟨j0,j1⟩)|(exact⟨q0,q1⟩)) (first|(go_at_call 190;refine(HI.out _).mono ?_;rintro e w2 ⟨rfl,rfl⟩)|(go_at_call 154;refine HA.out.mono ?_;rintro e w3 ⟨v3,rfl,hbuf3,hbel3⟩;have hblk3:=hbel3.keeps HK.out (by decide);have HB3:=zh (HBW.out.trans hbel3);have HF3:=zh hbuf3;obtain⟨q0,q1,q2⟩:=ky hblk3;clear hbuf3 hbel3))
   go_wp2_with fail
   go_ret
   exact⟨_,rfl,HF3.out,HB3.out⟩
  ·rw[if_neg h0]at hl ⊢
   have h0':¬(0:Int)<(len:Int):=by omega
   obtain⟨mf,hmf⟩:∃ mf,mf=l++Tp.wordsL Tp.wInt [nm]:=⟨_,rfl⟩
   rw[<-hmf]
   have hD:Below w.heap.size w ((w.alloc (.cells #[.string (bs nm),.int .i64 (len:Int),.int .i64 args] 44)).alloc (.cells #[.string (bs nm)] 9)):=(hal _).alloc (by simp) _
   have hA:=yL (hb.below hD) Tp.wInt [nm] (w.heap.size+1) 1 (jn _ _ _) (by simp) hl
   rw[<-hmf]at hA
   have HA:Hid (Calls Tryz.prog 154 #[v,.string ⟨#[105,110,116]⟩,.slice (some ⟨w.heap.size+1,0,none⟩) 1 1] ((w.alloc (.cells #[.string (bs nm),.int .i64 (len:Int),.int .i64 args] 44)).alloc (.cells #[.string (bs nm)] 9)) (Wrote kk B ((w.alloc (.cells #[.string (bs nm),.int .i64 (len:Int),.int .i64 args] 44)).alloc (.cells #[.string (bs nm)] 9)) mf)):=hA
   have HBW:Hid (Bw kk B w ((w.alloc (.cells #[.string (bs nm),.int .i64 (len:Int),.int .i64 args] 44)).alloc (.cells #[.string (bs nm)] 9))):=Bw.of (kk:=kk) hD hb.2
   clear hA hD hb hblk hl hmf
   go_enter Tryz.func153,Tryz.ntmps153
   go_wp2_with fail
   refine HA.out.mono ?_
   rintro e w3 ⟨v3,rfl,hbuf3,hbel3⟩
   have HB3:=zh (HBW.out.trans hbel3)
   have HF3:=zh hbuf3
   clear hbuf3 hbel3
   go_wp2_with fail
   go_ret
   exact⟨_,rfl,HF3.out,HB3.out⟩
end Go.Proofs.YtmocelfkmdpogaaGreatDoor
