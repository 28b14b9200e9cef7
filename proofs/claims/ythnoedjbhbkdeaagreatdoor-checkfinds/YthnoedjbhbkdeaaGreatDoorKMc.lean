import Derived.Test.YthnoedjbhbkdeaaGreatDoorKMb
set_option maxRecDepth 100000
set_option maxHeartbeats 4000000
namespace Go.Proofs.YthnoedjbhbkdeaaGreatDoor
open Go.RowKit Go.Maps
open Tp (Bs Th Sy Seen X S)
abbrev Jd:=Tp.R->Option (Nat× Nat)
def Sm (l:List Tp.R):Prop:=∀ r∈l,r.mod.length<=1000000/\r.name.length<=1000000
theorem Sm.sub {l m:List Tp.R}(h:Sm l) (k:∀ r∈m,r∈l):Sm m:=fun r hr=>h r (k r hr)
theorem xt (x:X) (l:List X):Tp.rx (x :: l)=Tp.rx [x]++Tp.rx l:=by
 obtain⟨code,pos,n,m,nm,op,le,ri,ar⟩:=x
 simp[Tp.rx]
theorem rx_app (l m:List X):Tp.rx (l++m)=Tp.rx l++Tp.rx m:=by
 induction l with
 | nil=>simp[Tp.rx]
 | cons x l ih=>rw[List.cons_append,xt,ih,xt x l,List.append_assoc]
theorem rx_one (code pos n:Nat) (m nm op:Bs) (le ri ar:List X):Tp.rx [⟨code,pos,n,m,nm,op,le,ri,ar⟩]=(if code=2\/code=3\/code=6 then [⟨code,pos,m,nm,ar.length⟩] else [])++(Tp.rx le++(Tp.rx ri++Tp.rx ar)):=by
 simp[Tp.rx]
theorem RepL.step {w w':World}{D:Nat->Prop}{l:List X}{vs:List Value}(h:RepL w D l vs) (k:Below w.heap.size w w'):RepL w' D l vs :=
 RepL.mono (fun b hb hl=>⟨k.block b hl,hb⟩) _ _ _ zn h
theorem RepL.get {w:World}{D:Nat->Prop}:∀(l:List X) (vs:List Value),RepL w D l vs->∀ i (h:i<l.length),∃ b,vs[i]?=some (.pointer (some ⟨b,0,none⟩))/\RepL w D [l[i]] [.pointer (some ⟨b,0,none⟩)]:=by
 intro l
 induction l with
 | nil=>intro vs _ i h;simp at h
 | cons x l ih =>
  intro vs h i hi
  obtain⟨code,pos,n,m,nm,op,le,ri,ar⟩:=x
  rw[RepL]at h
  obtain⟨b,av,ls,rs,gs,vs',h1,h2,h3,h4,h5,h6,h7,h8,h9,h10⟩:=h
  subst h1
  cases i with
  | zero =>
   refine⟨b,rfl,?_⟩
   show RepL w D [⟨code,pos,n,m,nm,op,le,ri,ar⟩] _
   rw[RepL]
   exact⟨b,av,ls,rs,gs,[],rfl,h2,h3,h4,h5,h6,h7,h8,h9,by rw[RepL]⟩
  | succ i =>
   obtain⟨b',q1,q2⟩:=ih vs' h10 i (by simpa using hi)
   exact⟨b',by simpa using q1,by simpa using q2⟩
theorem kV (w:World) (b:Nat):Calls Tryz.prog 128 #[.pointer none,finderV b] w (CkP w none):=by
 unfold finderV
 go_enter Tryz.func128,Tryz.ntmps128
 go_wp2_with fail
 exact bodyPost_end (results_none rfl _ _ _) rfl ⟨Below.refl _ _,rfl⟩
theorem yy {n:Nat}{f:Nat->Option (Nat× Nat)}(h:∀ j,j<n->f j=none):(List.range n).findSome? f=none:=by
 rw[List.findSome?_eq_none_iff]
 intro j hj
 exact h j (List.mem_range.1 hj)
theorem zR {n i:Nat}{f:Nat->Option (Nat× Nat)}{x:Nat× Nat}(hi:i<n) (h:∀ j,j<i->f j=none) (hx:f i=some x):(List.range n).findSome? f=some x:=by
 have e:List.range n=List.range i++i :: (List.range n).drop (i+1):=by
  have h1:(List.range n)[i]?=some i:=by simp[hi]
  have h2:(List.range n).take i=List.range i:=by rw[List.take_range];congr 1;omega
  rw[<-h2]
  obtain⟨hl,e⟩:=List.getElem?_eq_some_iff.1 h1
  conv=>lhs;rw[<-List.take_append_drop i (List.range n),List.drop_eq_getElem_cons hl,e]
 rw[e,List.findSome?_append,yy h,List.findSome?_cons,hx]
 rfl
def AskX (w:World) (b:Nat) (v:Value) (res:Option (Nat× Nat)):Prop:=∀ W,Below w.heap.size w W->Calls Tryz.prog 128 #[v,finderV b] W (CkP W res)
theorem jN {w:World}{b x code:Nat}{pos n:Int}{md nm op:ByteArray}{lv rv aa:Option Addr}{an ac:Nat}(hblk:w.heap[x]?=some (.cells #[.int .i64 (code:Int),.int .i64 pos,.int .i64 n,.string md,.string nm,.string op,.pointer lv,.pointer rv,.slice aa an ac] 111 (0,0)))
  {r0 r1 r2:Option (Nat× Nat)} {ra:Nat->Option (Nat× Nat)}
  (hR:(code=2\/code=3\/code=6)->Calls Tryz.prog 190 #[.pointer (some ⟨x,0,none⟩),finderV b] w (CkP w r0)) (hR':¬(code=2\/code=3\/code=6)->r0=none)
  (hL:AskX w b (.pointer lv) r1) (hRi:AskX w b (.pointer rv) r2)
  (hA:∀ i,i<an->∃ g y,aa=some ⟨g,0,none⟩/\g<w.heap.size/\w.cell? ⟨g,i,none⟩=some (.pointer (some ⟨y,0,none⟩))/\AskX w b (.pointer (some ⟨y,0,none⟩)) (ra i)) (han:an<=9223372036854775807) {res:Option (Nat× Nat)} (hres:res=r0.or (r1.or (r2.or ((List.range an).findSome? ra)))) :
  Calls Tryz.prog 128 #[.pointer (some ⟨x,0,none⟩),finderV b] w (CkP w res):=by
 have hxl:=zc hblk
 have HK:=zh hblk
 have HL:=zh hL
 have HRI:=zh hRi
 have HA:=zh hA
 have HRES:=zh hres
 have han':(an:Int)<=9223372036854775807:=by omega
 have k0:w.cell? ⟨x,0,none⟩=some (.int .i64 (code:Int)):=(za hblk).trans rfl
 clear hblk hL hRi hA hres
 rcases(show code=2\/code=3\/code=6\/¬(code=2\/code=3\/code=6) by omega) with hcd|hcd|hcd|hcd
 ·have HRF:=zh (hR (by omega))
  subst hcd
  clear hR hR'
  unfold finderV at *
  go_enter Tryz.func128,Tryz.ntmps128
  go_wp2_with fail
  refine HRF.out.mono ?_
  intro e w1 hq
  cases r0 with
  | some er =>
   have HQ:=zh hq
   obtain⟨q1,q2⟩:=hq
   obtain⟨ab,q3,rfl,q4,q5⟩:=q2.out
   clear q1 q2 q3 q4 q5 k0 HRF
   go_wp2_with fail
   refine⟨rfl,?_⟩
   rw[HRES.out]
   exact HQ.out
  | none =>
   obtain⟨hb1,rfl⟩:=hq
   have HB1:=zh hb1
   clear hb1 k0 HRF
   have hsz1:=HB1.out.size
   have e1:=(HB1.out.block x hxl).trans HK.out
   have k6:w1.cell? ⟨x,6,none⟩=some (.pointer lv):=(za e1).trans rfl
   have hx1:x<w1.heap.size:=by omega
   have HL1:=zh (HL.out w1 HB1.out)
   clear e1
   go_wp2_with fail
   refine HL1.out.mono ?_
   intro e w2 hq
   cases r1 with
   | some er =>
    have HQ:=zh (CkP.up hq HB1.out)
    obtain⟨q1,q2⟩:=hq
    obtain⟨ab,q3,rfl,q4,q5⟩:=q2.out
    clear q1 q2 q3 q4 q5 k6
    go_wp2_with fail
    refine⟨rfl,?_⟩
    rw[HRES.out]
    exact HQ.out
   | none =>
    obtain⟨hb2,rfl⟩:=hq
    have HB2:Hid (Below w.heap.size w w2):=HB1.out.trans (hb2.mono hsz1)
    have hsz2:=HB2.out.size
    have e2:=(HB2.out.block x hxl).trans HK.out
    have k7:w2.cell? ⟨x,7,none⟩=some (.pointer rv):=(za e2).trans rfl
    have hx2:x<w2.heap.size:=by omega
    have HR1:=zh (HRI.out w2 HB2.out)
    clear e2 hb2 k6 HL1
    go_wp2_with fail
    refine HR1.out.mono ?_
    intro e w3 hq
    cases r2 with
    | some er =>
     have HQ:=zh (CkP.up hq HB2.out)
     obtain⟨q1,q2⟩:=hq
     obtain⟨ab,q3,rfl,q4,q5⟩:=q2.out
     clear q1 q2 q3 q4 q5 k7
     go_wp2_with fail
     refine⟨rfl,?_⟩
     rw[HRES.out]
     exact HQ.out
    | none =>
     obtain⟨hb3,rfl⟩:=hq
     have HB3:Hid (Below w.heap.size w w3):=HB2.out.trans (hb3.mono hsz2)
     have hsz3:=HB3.out.size
     have e3:=(HB3.out.block x hxl).trans HK.out
     have k8:w3.cell? ⟨x,8,none⟩=some (.slice aa an ac):=(za e3).trans rfl
     have hx3:x<w3.heap.size:=by omega
     clear e3 hb3 k7 HR1
     go_wp2_with fail
     go_loopg [47] an (fun k vi wr=>∃ i:Nat,i<=an/\k=an - i/\vi=.int .i64 (i:Int)/\Hid (Below w.heap.size w wr)/\Hid (∀ j,j<i->ra j=none))
     case atStart=>exact⟨0,by omega,by omega,rfl,HB3,fun j hj=>absurd hj (by omega)⟩
     case round =>
      obtain⟨i,hid,hk,rfl,HB,HN⟩:=hrel
      have hszr:=HB.out.size
      by_cases hlt:i<an
      ·have hlt':(i:Int)<(an:Int):=by omega
       obtain⟨g,y,hag,hgl,hcg,hask⟩:=HA.out i hlt
       have kc:wr.cell? ⟨g,i,none⟩=some (.pointer (some ⟨y,0,none⟩)):=(HB.out.cell (p:=⟨g,i,none⟩) hgl).trans hcg
       have hglr:g<wr.heap.size:=by omega
       subst hag
       have HC:=zh (hask wr HB.out)
       clear hcg hask
       go_wp2_with fail
       refine HC.out.mono ?_
       intro e w4 hq
       cases hri:ra i with
       | some er =>
        rw[hri]at hq
        have HQ:=zh (CkP.up hq HB.out)
        have HFS:=zh (zR hlt HN.out hri)
        obtain⟨q1,q2⟩:=hq
        obtain⟨ab,q3,rfl,q4,q5⟩:=q2.out
        clear q1 q2 q3 q4 q5 hri
        go_wp2_with fail
        refine⟨rfl,?_⟩
        rw[HRES.out,HFS.out]
        exact HQ.out
       | none =>
        rw[hri]at hq
        obtain⟨hb4,rfl⟩:=hq
        have HB4:Hid (Below w.heap.size w w4):=HB.out.trans (hb4.mono hszr)
        have HN4:Hid (∀ j,j<i+1->ra j=none):=fun j hj=>by
         rcases Nat.lt_or_ge j i with q|q
         ·exact HN.out j q
         ·have:j=i:=by omega
          subst this
          exact hri
        clear hb4 hri HC
        go_wp2_with fail
        go_roundg (an - (i+1))
        case measure=>omega
        case rel=>exact⟨i+1,by omega,rfl,by go_num,HB4,HN4⟩
      ·have hlt':¬(i:Int)<(an:Int):=by omega
       have HFS:Hid ((List.range an).findSome? ra=none):=yy (fun j hj=>HN.out j (by omega))
       go_wp2_with fail
       refine bodyPost_end (results_none rfl _ _ _) rfl ⟨HB.out,?_⟩
       rw[HRES.out,HFS.out]
       rfl
 ·have HRF:=zh (hR (by omega))
  subst hcd
  clear hR hR'
  unfold finderV at *
  go_enter Tryz.func128,Tryz.ntmps128
  go_wp2_with fail
  refine HRF.out.mono ?_
  intro e w1 hq
  cases r0 with
  | some er =>
   have HQ:=zh hq
   obtain⟨q1,q2⟩:=hq
   obtain⟨ab,q3,rfl,q4,q5⟩:=q2.out
   clear q1 q2 q3 q4 q5 k0 HRF
   go_wp2_with fail
   refine⟨rfl,?_⟩
   rw[HRES.out]
   exact HQ.out
  | none =>
   obtain⟨hb1,rfl⟩:=hq
   have HB1:=zh hb1
   clear hb1 k0 HRF
   have hsz1:=HB1.out.size
   have e1:=(HB1.out.block x hxl).trans HK.out
   have k6:w1.cell? ⟨x,6,none⟩=some (.pointer lv):=(za e1).trans rfl
   have hx1:x<w1.heap.size:=by omega
   have HL1:=zh (HL.out w1 HB1.out)
   clear e1
   go_wp2_with fail
   refine HL1.out.mono ?_
   intro e w2 hq
   cases r1 with
   | some er =>
    have HQ:=zh (CkP.up hq HB1.out)
    obtain⟨q1,q2⟩:=hq
    obtain⟨ab,q3,rfl,q4,q5⟩:=q2.out
    clear q1 q2 q3 q4 q5 k6
    go_wp2_with fail
    refine⟨rfl,?_⟩
    rw[HRES.out]
    exact HQ.out
   | none =>
    obtain⟨hb2,rfl⟩:=hq
    have HB2:Hid (Below w.heap.size w w2):=HB1.out.trans (hb2.mono hsz1)
    have hsz2:=HB2.out.size
    have e2:=(HB2.out.block x hxl).trans HK.out
    have k7:w2.cell? ⟨x,7,none⟩=some (.pointer rv):=(za e2).trans rfl
    have hx2:x<w2.heap.size:=by omega
    have HR1:=zh (HRI.out w2 HB2.out)
    clear e2 hb2 k6 HL1
    go_wp2_with fail
    refine HR1.out.mono ?_
    intro e w3 hq
    cases r2 with
    | some er =>
     have HQ:=zh (CkP.up hq HB2.out)
     obtain⟨q1,q2⟩:=hq
     obtain⟨ab,q3,rfl,q4,q5⟩:=q2.out
     clear q1 q2 q3 q4 q5 k7
     go_wp2_with fail
     refine⟨rfl,?_⟩
     rw[HRES.out]
     exact HQ.out
    | none =>
     obtain⟨hb3,rfl⟩:=hq
     have HB3:Hid (Below w.heap.size w w3):=HB2.out.trans (hb3.mono hsz2)
     have hsz3:=HB3.out.size
     have e3:=(HB3.out.block x hxl).trans HK.out
     have k8:w3.cell? ⟨x,8,none⟩=some (.slice aa an ac):=(za e3).trans rfl
     have hx3:x<w3.heap.size:=by omega
     clear e3 hb3 k7 HR1
     go_wp2_with fail
     go_loopg [47] an (fun k vi wr=>∃ i:Nat,i<=an/\k=an - i/\vi=.int .i64 (i:Int)/\Hid (Below w.heap.size w wr)/\Hid (∀ j,j<i->ra j=none))
     case atStart=>exact⟨0,by omega,by omega,rfl,HB3,fun j hj=>absurd hj (by omega)⟩
     case round =>
      obtain⟨i,hid,hk,rfl,HB,HN⟩:=hrel
      have hszr:=HB.out.size
      by_cases hlt:i<an
      ·have hlt':(i:Int)<(an:Int):=by omega
       obtain⟨g,y,hag,hgl,hcg,hask⟩:=HA.out i hlt
       have kc:wr.cell? ⟨g,i,none⟩=some (.pointer (some ⟨y,0,none⟩)):=(HB.out.cell (p:=⟨g,i,none⟩) hgl).trans hcg
       have hglr:g<wr.heap.size:=by omega
       subst hag
       have HC:=zh (hask wr HB.out)
       clear hcg hask
       go_wp2_with fail
       refine HC.out.mono ?_
       intro e w4 hq
       cases hri:ra i with
       | some er =>
        rw[hri]at hq
        have HQ:=zh (CkP.up hq HB.out)
        have HFS:=zh (zR hlt HN.out hri)
        obtain⟨q1,q2⟩:=hq
        obtain⟨ab,q3,rfl,q4,q5⟩:=q2.out
        clear q1 q2 q3 q4 q5 hri
        go_wp2_with fail
        refine⟨rfl,?_⟩
        rw[HRES.out,HFS.out]
        exact HQ.out
       | none =>
        rw[hri]at hq
        obtain⟨hb4,rfl⟩:=hq
        have HB4:Hid (Below w.heap.size w w4):=HB.out.trans (hb4.mono hszr)
        have HN4:Hid (∀ j,j<i+1->ra j=none):=fun j hj=>by
         rcases Nat.lt_or_ge j i with q|q
         ·exact HN.out j q
         ·have:j=i:=by omega
          subst this
          exact hri
        clear hb4 hri HC
        go_wp2_with fail
        go_roundg (an - (i+1))
        case measure=>omega
        case rel=>exact⟨i+1,by omega,rfl,by go_num,HB4,HN4⟩
      ·have hlt':¬(i:Int)<(an:Int):=by omega
       have HFS:Hid ((List.range an).findSome? ra=none):=yy (fun j hj=>HN.out j (by omega))
       go_wp2_with fail
       refine bodyPost_end (results_none rfl _ _ _) rfl ⟨HB.out,?_⟩
       rw[HRES.out,HFS.out]
       rfl
 ·have HRF:=zh (hR (by omega))
  subst hcd
  clear hR hR'
  unfold finderV at *
  go_enter Tryz.func128,Tryz.ntmps128
  go_wp2_with fail
  refine HRF.out.mono ?_
  intro e w1 hq
  cases r0 with
  | some er =>
   have HQ:=zh hq
   obtain⟨q1,q2⟩:=hq
   obtain⟨ab,q3,rfl,q4,q5⟩:=q2.out
   clear q1 q2 q3 q4 q5 k0 HRF
   go_wp2_with fail
   refine⟨rfl,?_⟩
   rw[HRES.out]
   exact HQ.out
  | none =>
   obtain⟨hb1,rfl⟩:=hq
   have HB1:=zh hb1
   clear hb1 k0 HRF
   have hsz1:=HB1.out.size
   have e1:=(HB1.out.block x hxl).trans HK.out
   have k6:w1.cell? ⟨x,6,none⟩=some (.pointer lv):=(za e1).trans rfl
   have hx1:x<w1.heap.size:=by omega
   have HL1:=zh (HL.out w1 HB1.out)
   clear e1
   go_wp2_with fail
   refine HL1.out.mono ?_
   intro e w2 hq
   cases r1 with
   | some er =>
    have HQ:=zh (CkP.up hq HB1.out)
    obtain⟨q1,q2⟩:=hq
    obtain⟨ab,q3,rfl,q4,q5⟩:=q2.out
    clear q1 q2 q3 q4 q5 k6
    go_wp2_with fail
    refine⟨rfl,?_⟩
    rw[HRES.out]
    exact HQ.out
   | none =>
    obtain⟨hb2,rfl⟩:=hq
    have HB2:Hid (Below w.heap.size w w2):=HB1.out.trans (hb2.mono hsz1)
    have hsz2:=HB2.out.size
    have e2:=(HB2.out.block x hxl).trans HK.out
    have k7:w2.cell? ⟨x,7,none⟩=some (.pointer rv):=(za e2).trans rfl
    have hx2:x<w2.heap.size:=by omega
    have HR1:=zh (HRI.out w2 HB2.out)
    clear e2 hb2 k6 HL1
    go_wp2_with fail
    refine HR1.out.mono ?_
    intro e w3 hq
    cases r2 with
    | some er =>
     have HQ:=zh (CkP.up hq HB2.out)
     obtain⟨q1,q2⟩:=hq
     obtain⟨ab,q3,rfl,q4,q5⟩:=q2.out
     clear q1 q2 q3 q4 q5 k7
     go_wp2_with fail
     refine⟨rfl,?_⟩
     rw[HRES.out]
     exact HQ.out
    | none =>
     obtain⟨hb3,rfl⟩:=hq
     have HB3:Hid (Below w.heap.size w w3):=HB2.out.trans (hb3.mono hsz2)
     have hsz3:=HB3.out.size
     have e3:=(HB3.out.block x hxl).trans HK.out
     have k8:w3.cell? ⟨x,8,none⟩=some (.slice aa an ac):=(za e3).trans rfl
     have hx3:x<w3.heap.size:=by omega
     clear e3 hb3 k7 HR1
     go_wp2_with fail
     go_loopg [47] an (fun k vi wr=>∃ i:Nat,i<=an/\k=an - i/\vi=.int .i64 (i:Int)/\Hid (Below w.heap.size w wr)/\Hid (∀ j,j<i->ra j=none))
     case atStart=>exact⟨0,by omega,by omega,rfl,HB3,fun j hj=>absurd hj (by omega)⟩
     case round =>
      obtain⟨i,hid,hk,rfl,HB,HN⟩:=hrel
      have hszr:=HB.out.size
      by_cases hlt:i<an
      ·have hlt':(i:Int)<(an:Int):=by omega
       obtain⟨g,y,hag,hgl,hcg,hask⟩:=HA.out i hlt
       have kc:wr.cell? ⟨g,i,none⟩=some (.pointer (some ⟨y,0,none⟩)):=(HB.out.cell (p:=⟨g,i,none⟩) hgl).trans hcg
       have hglr:g<wr.heap.size:=by omega
       subst hag
       have HC:=zh (hask wr HB.out)
       clear hcg hask
       go_wp2_with fail
       refine HC.out.mono ?_
       intro e w4 hq
       cases hri:ra i with
       | some er =>
        rw[hri]at hq
        have HQ:=zh (CkP.up hq HB.out)
        have HFS:=zh (zR hlt HN.out hri)
        obtain⟨q1,q2⟩:=hq
        obtain⟨ab,q3,rfl,q4,q5⟩:=q2.out
        clear q1 q2 q3 q4 q5 hri
        go_wp2_with fail
        refine⟨rfl,?_⟩
        rw[HRES.out,HFS.out]
        exact HQ.out
       | none =>
        rw[hri]at hq
        obtain⟨hb4,rfl⟩:=hq
        have HB4:Hid (Below w.heap.size w w4):=HB.out.trans (hb4.mono hszr)
        have HN4:Hid (∀ j,j<i+1->ra j=none):=fun j hj=>by
         rcases Nat.lt_or_ge j i with q|q
         ·exact HN.out j q
         ·have:j=i:=by omega
          subst this
          exact hri
        clear hb4 hri HC
        go_wp2_with fail
        go_roundg (an - (i+1))
        case measure=>omega
        case rel=>exact⟨i+1,by omega,rfl,by go_num,HB4,HN4⟩
      ·have hlt':¬(i:Int)<(an:Int):=by omega
       have HFS:Hid ((List.range an).findSome? ra=none):=yy (fun j hj=>HN.out j (by omega))
       go_wp2_with fail
       refine bodyPost_end (results_none rfl _ _ _) rfl ⟨HB.out,?_⟩
       rw[HRES.out,HFS.out]
       rfl
 ·have hr0:=hR' hcd
  have h2:((code:Int) == 2)=false:=by simp;omega
  have h3:((code:Int) == 3)=false:=by simp;omega
  have h6:((code:Int) == 6)=false:=by simp;omega
  subst hr0
  have HB1:Hid (Below w.heap.size w w):=Below.refl _ _
  clear hR hR' hcd
  unfold finderV at *
  go_enter Tryz.func128,Tryz.ntmps128
  have hsz1:=HB1.out.size
  have e1:=(HB1.out.block x hxl).trans HK.out
  have k6:w.cell? ⟨x,6,none⟩=some (.pointer lv):=(za e1).trans rfl
  have hx1:x<w.heap.size:=by omega
  have HL1:=zh (HL.out w HB1.out)
  clear e1
  go_wp2_with fail
  refine HL1.out.mono ?_
  intro e w2 hq
  cases r1 with
  | some er =>
   have HQ:=zh (CkP.up hq HB1.out)
   obtain⟨q1,q2⟩:=hq
   obtain⟨ab,q3,rfl,q4,q5⟩:=q2.out
   clear q1 q2 q3 q4 q5 k6
   go_wp2_with fail
   refine⟨rfl,?_⟩
   rw[HRES.out]
   exact HQ.out
  | none =>
   obtain⟨hb2,rfl⟩:=hq
   have HB2:Hid (Below w.heap.size w w2):=HB1.out.trans (hb2.mono hsz1)
   have hsz2:=HB2.out.size
   have e2:=(HB2.out.block x hxl).trans HK.out
   have k7:w2.cell? ⟨x,7,none⟩=some (.pointer rv):=(za e2).trans rfl
   have hx2:x<w2.heap.size:=by omega
   have HR1:=zh (HRI.out w2 HB2.out)
   clear e2 hb2 k6 HL1
   go_wp2_with fail
   refine HR1.out.mono ?_
   intro e w3 hq
   cases r2 with
   | some er =>
    have HQ:=zh (CkP.up hq HB2.out)
    obtain⟨q1,q2⟩:=hq
    obtain⟨ab,q3,rfl,q4,q5⟩:=q2.out
    clear q1 q2 q3 q4 q5 k7
    go_wp2_with fail
    refine⟨rfl,?_⟩
    rw[HRES.out]
    exact HQ.out
   | none =>
    obtain⟨hb3,rfl⟩:=hq
    have HB3:Hid (Below w.heap.size w w3):=HB2.out.trans (hb3.mono hsz2)
    have hsz3:=HB3.out.size
    have e3:=(HB3.out.block x hxl).trans HK.out
    have k8:w3.cell? ⟨x,8,none⟩=some (.slice aa an ac):=(za e3).trans rfl
    have hx3:x<w3.heap.size:=by omega
    clear e3 hb3 k7 HR1
    go_wp2_with fail
    go_loopg [47] an (fun k vi wr=>∃ i:Nat,i<=an/\k=an - i/\vi=.int .i64 (i:Int)/\Hid (Below w.heap.size w wr)/\Hid (∀ j,j<i->ra j=none))
    case atStart=>exact⟨0,by omega,by omega,rfl,HB3,fun j hj=>absurd hj (by omega)⟩
    case round =>
     obtain⟨i,hid,hk,rfl,HB,HN⟩:=hrel
     have hszr:=HB.out.size
     by_cases hlt:i<an
     ·have hlt':(i:Int)<(an:Int):=by omega
      obtain⟨g,y,hag,hgl,hcg,hask⟩:=HA.out i hlt
      have kc:wr.cell? ⟨g,i,none⟩=some (.pointer (some ⟨y,0,none⟩)):=(HB.out.cell (p:=⟨g,i,none⟩) hgl).trans hcg
      have hglr:g<wr.heap.size:=by omega
      subst hag
      have HC:=zh (hask wr HB.out)
      clear hcg hask
      go_wp2_with fail
      refine HC.out.mono ?_
      intro e w4 hq
      cases hri:ra i with
      | some er =>
       rw[hri]at hq
       have HQ:=zh (CkP.up hq HB.out)
       have HFS:=zh (zR hlt HN.out hri)
       obtain⟨q1,q2⟩:=hq
       obtain⟨ab,q3,rfl,q4,q5⟩:=q2.out
       clear q1 q2 q3 q4 q5 hri
       go_wp2_with fail
       refine⟨rfl,?_⟩
       rw[HRES.out,HFS.out]
       exact HQ.out
      | none =>
       rw[hri]at hq
       obtain⟨hb4,rfl⟩:=hq
       have HB4:Hid (Below w.heap.size w w4):=HB.out.trans (hb4.mono hszr)
       have HN4:Hid (∀ j,j<i+1->ra j=none):=fun j hj=>by
        rcases Nat.lt_or_ge j i with q|q
        ·exact HN.out j q
        ·have:j=i:=by omega
         subst this
         exact hri
       clear hb4 hri HC
       go_wp2_with fail
       go_roundg (an - (i+1))
       case measure=>omega
       case rel=>exact⟨i+1,by omega,rfl,by go_num,HB4,HN4⟩
     ·have hlt':¬(i:Int)<(an:Int):=by omega
      have HFS:Hid ((List.range an).findSome? ra=none):=yy (fun j hj=>HN.out j (by omega))
      go_wp2_with fail
      refine bodyPost_end (results_none rfl _ _ _) rfl ⟨HB.out,?_⟩
      rw[HRES.out,HFS.out]
      rfl
theorem find_range (J:Jd):∀(ar:List X),(List.range ar.length).findSome? (fun i=>(ar[i]?).bind fun y=>(Tp.rx [y]).findSome? J)=(Tp.rx ar).findSome? J:=by
 intro ar
 induction ar with
 | nil=>simp[Tp.rx]
 | cons x l ih =>
  rw[xt,List.findSome?_append,<-ih,List.length_cons,List.range_succ_eq_map,List.findSome?_cons,List.findSome?_map]
  have e2:((fun i=>((x :: l)[i]?).bind fun y=>(Tp.rx [y]).findSome? J) ∘ Nat.succ)=fun i=>(l[i]?).bind fun y=>(Tp.rx [y]).findSome? J:=by
   funext i
   simp
  rw[e2]
  simp only [List.getElem?_cons_zero,Option.bind_some]
  cases (Tp.rx [x]).findSome? J <;> rfl
theorem xN {w0:World}{b:Nat}{Sn:Seen}{fs:Near}(hF:Fnd w0 b Sn fs) (hfn:fs.length<=1000):∀(n:Nat) (x:X),SizeOf.sizeOf x<=n->Sm (Tp.rx [x])->∀(w:World) (D:Nat->Prop) (xb:Nat),Below w0.heap.size w0 w->RepL w D [x] [.pointer (some ⟨xb,0,none⟩)] ->
  Calls Tryz.prog 128 #[.pointer (some ⟨xb,0,none⟩),finderV b] w (CkP w ((Tp.rx [x]).findSome? (Tp.judgeP (Tp.standV Sn fs)))):=by
 intro n
 induction n with
 | zero=>intro x hn;cases x;simp at hn
 | succ n ih =>
  intro x hn hs w D xb hb h
  obtain⟨code,pos,nn,md,nm,op,le,ri,ar⟩:=x
  simp at hn
  have h0:=h
  rw[RepL]at h
  obtain⟨b',av,ls,rs,gs,vs',h1,h2,h3,h4,h5,h6,h7,h8,h9,_⟩:=h
  injection h1 with h1a _
  injection h1a with h1b
  injection h1b with h1c
  injection h1c with h1d
  subst h1d
  have hln:=RepL.len _ _ h4
  have hrn:=RepL.len _ _ h6
  have hgn:=RepL.len _ _ h8
  have hrx:=rx_one code pos nn md nm op le ri ar
  have part:∀(l:List X) (vs:List Value),SizeOf.sizeOf l<=n->(∀ r∈Tp.rx l,r∈Tp.rx [(⟨code,pos,nn,md,nm,op,le,ri,ar⟩:X)])->RepL w D l vs->vs.length<=1->(∃ a,vs.headD (.pointer none)=.pointer a)/\AskX w b (vs.headD (.pointer none)) ((Tp.rx l).findSome? (Tp.judgeP (Tp.standV Sn fs))):=by
   intro l vs hl hsub hrep hle
   have hvl:=RepL.len _ _ hrep
   match l,vs,hrep with
   | [],vs,hrep =>
    rw[RepL]at hrep
    subst hrep
    refine⟨⟨none,rfl⟩,fun W hW=>?_⟩
    have:(Tp.rx []).findSome? (Tp.judgeP (Tp.standV Sn fs))=none:=by simp[Tp.rx]
    rw[this]
    exact kV W b
   | [y],vs,hrep =>
    obtain⟨yb,q1,q2⟩:=RepL.get _ _ hrep 0 (by simp)
    have hv:vs=[.pointer (some ⟨yb,0,none⟩)]:=by
     match vs,hle,hvl with
     | [v],_,_=>simp at q1;rw[q1]
    subst hv
    refine⟨⟨_,rfl⟩,fun W hW=>?_⟩
    have hsz:SizeOf.sizeOf y<=n:=by simp at hl;omega
    exact ih y hsz (hs.sub hsub) W D yb (hb.trans (hW.mono hb.size)) (hrep.step hW)
   | y :: z :: t,vs,hrep=>simp at hvl;omega
  have mem1:∀ r∈Tp.rx le,r∈Tp.rx [(⟨code,pos,nn,md,nm,op,le,ri,ar⟩:X)]:=fun r hr=>by rw[hrx];simp[hr]
  have mem2:∀ r∈Tp.rx ri,r∈Tp.rx [(⟨code,pos,nn,md,nm,op,le,ri,ar⟩:X)]:=fun r hr=>by rw[hrx];simp[hr]
  have mem3:∀ r∈Tp.rx ar,r∈Tp.rx [(⟨code,pos,nn,md,nm,op,le,ri,ar⟩:X)]:=fun r hr=>by rw[hrx];simp[hr]
  obtain⟨⟨lv,hlv⟩,hL⟩:=part le ls (by omega) mem1 h4 h5
  obtain⟨⟨rv,hrv⟩,hR⟩:=part ri rs (by omega) mem2 h6 h7
  rw[hlv]at h3 hL
  rw[hrv]at h3 hR
  have hav:∃ aa ac,av=.slice aa ar.length ac/\ar.length<=9223372036854775807/\∀ i,i<ar.length->∃ g,aa=some ⟨g,0,none⟩/\g<w.heap.size/\w.cell? ⟨g,i,none⟩=gs[i]?:=by
   rcases h9 with⟨q1,q2⟩|⟨g,cap,cur,q1,q2,q3,q4,q5,q6,q7⟩
   ·have:ar.length=0:=by rw[<-hgn,q1];rfl
    exact⟨none,0,by rw[this];exact q2,by omega,fun i hi=>by omega⟩
   ·refine⟨_,cap,by rw[<-hgn];exact q1,?_,fun i hi=>⟨g,rfl,zc q3,?_⟩⟩
    ·have:maxLen=9223372036854775807:=rfl
     omega
    ·rw[za q3,<-Array.getElem?_toList,<-q7,List.getElem?_take_of_lt (by omega)]
  obtain⟨aa,ac,rfl,han,hcell⟩:=hav
  ·refine jN (r0:=if code=2\/code=3\/code=6 then Tp.judgeP (Tp.standV Sn fs) ⟨code,pos,md,nm,ar.length⟩ else none) (ra:=fun i=>(ar[i]?).bind fun y=>(Tp.rx [y]).findSome? (Tp.judgeP (Tp.standV Sn fs))) h3 ?_ (fun hc=>if_neg hc) hL hR ?_ han ?_
   ·intro hc
    rw[if_pos hc]
    have hm:=hs ⟨code,pos,md,nm,ar.length⟩ (by rw[hrx,if_pos hc];simp)
    exact kU (r:=⟨code,pos,md,nm,ar.length⟩) (hF.on hb) hfn ⟨_,_,_,_,_,_,h3⟩ hm.1 hm.2 (by simp only;omega)
   ·intro i hi
    obtain⟨g,q1,q2,q3⟩:=hcell i hi
    obtain⟨yb,q4,q5⟩:=RepL.get _ _ h8 i hi
    refine⟨g,yb,q1,q2,q3.trans q4,fun W hW=>?_⟩
    simp only [List.getElem?_eq_getElem hi,Option.bind_some]
    have hsz:SizeOf.sizeOf ar[i]<=n:=by
     have:=List.sizeOf_lt_of_mem (List.getElem_mem hi)
     omega
    refine ih ar[i] hsz (hs.sub fun r hr=>mem3 r ?_) W D yb (hb.trans (hW.mono hb.size)) (q5.step hW)
    have e:ar=ar.take i++ar[i] :: ar.drop (i+1):=by rw[<-List.drop_eq_getElem_cons hi,List.take_append_drop]
    rw[e,rx_app,xt]
    simp[hr]
   ·rw[find_range,hrx,List.findSome?_append,List.findSome?_append,List.findSome?_append]
    congr 1
    by_cases hc:code=2\/code=3\/code=6
    ·rw[if_pos hc,if_pos hc,List.findSome?_cons]
     cases Tp.judgeP (Tp.standV Sn fs) ⟨code,pos,md,nm,ar.length⟩ <;> rfl
    ·rw[if_neg hc,if_neg hc];rfl
def AskS (w:World) (b:Nat) (v:Value) (res:Option (Nat× Nat)):Prop:=∀ W,Below w.heap.size w W->Calls Tryz.prog 76 #[v,finderV b] W (CkP W res)
def AskPl (w:World) (b:Nat) (v:Value) (res:Option (Nat× Nat)):Prop:=∀ W,Below w.heap.size w W->Calls Tryz.prog 127 #[v,finderV b] W (CkP W res)
structure St1 (w:World) (b:Nat) (a:Option Addr) (i:Nat) (q:Option (Nat× Nat)):Prop where
 out:∃(g code:Nat) (pos:Int) (nm:ByteArray) (iv vv ta ea:Option Addr) (tn tc en ec:Nat) (p0 r1 r2 r3 r4:Option (Nat× Nat)),a=some ⟨g,0,none⟩/\g<w.heap.size /\
  w.cell? ⟨g,i * 7,none⟩=some (.int .i64 (code:Int))/\w.cell? ⟨g,i * 7+1,none⟩=some (.int .i64 pos)/\w.cell? ⟨g,i * 7+2,none⟩=some (.string nm)/\w.cell? ⟨g,i * 7+3,none⟩=some (.pointer iv)/\w.cell? ⟨g,i * 7+4,none⟩=some (.pointer vv)/\w.cell? ⟨g,i * 7+5,none⟩=some (.slice ta tn tc)/\w.cell? ⟨g,i * 7+6,none⟩=some (.slice ea en ec) /\
  (code=1->AskPl w b (.agg #[.int .i64 (code:Int),.int .i64 pos,.string nm,.pointer iv,.pointer vv,.slice ta tn tc,.slice ea en ec]) p0)/\(code≠1->p0=none) /\
  AskX w b (.pointer iv) r1/\AskX w b (.pointer vv) r2/\AskS w b (.slice ta tn tc) r3/\AskS w b (.slice ea en ec) r4/\q=p0.or (r1.or (r2.or (r3.or r4)))
theorem xi {w:World}{b:Nat}{v0 v1 v2 v3 v4 v5 v6:Value}{t:TypeId}(h:w.heap[b]?=some (.cells #[v0,v1,v2,v3,v4,v5,v6] t (0,0))):w.cell? ⟨b,0,none⟩=some v0/\w.cell? ⟨b,1,none⟩=some v1/\w.cell? ⟨b,2,none⟩=some v2/\w.cell? ⟨b,3,none⟩=some v3/\w.cell? ⟨b,4,none⟩=some v4/\w.cell? ⟨b,5,none⟩=some v5/\w.cell? ⟨b,6,none⟩=some v6 :=
 ⟨(za h).trans rfl,(za h).trans rfl,(za h).trans rfl,(za h).trans rfl,(za h).trans rfl,(za h).trans rfl,(za h).trans rfl⟩
theorem jG {w:World}{b:Nat}{a:Option Addr}{n c:Nat}{q:Nat->Option (Nat× Nat)}(hq:∀ i,i<n->St1 w b a i (q i)) (hn:n<=9223372036854775807) :
  Calls Tryz.prog 76 #[.slice a n c,finderV b] w (CkP w ((List.range n).findSome? q)):=by
 have HQ:=zh hq
 have hn':(n:Int)<=9223372036854775807:=by omega
 clear hq
 have HAX:Hid (∀ W v res,AskX w b v res->Below w.heap.size w W->Calls Tryz.prog 128 #[v,.func (.func 129) #[] #[.pointer (some ⟨b,0,none⟩),.pointer (some ⟨b+1,0,none⟩)]] W (CkP W res)):=fun W v res h hW=>h W hW
 have HAS:Hid (∀ W v res,AskS w b v res->Below w.heap.size w W->Calls Tryz.prog 76 #[v,.func (.func 129) #[] #[.pointer (some ⟨b,0,none⟩),.pointer (some ⟨b+1,0,none⟩)]] W (CkP W res)):=fun W v res h hW=>h W hW
 have HAP:Hid (∀ W v res,AskPl w b v res->Below w.heap.size w W->Calls Tryz.prog 127 #[v,.func (.func 129) #[] #[.pointer (some ⟨b,0,none⟩),.pointer (some ⟨b+1,0,none⟩)]] W (CkP W res)):=fun W v res h hW=>h W hW
 unfold finderV
 go_enter Tryz.func76,Tryz.ntmps76
 go_wp2_with fail
 go_loopg [8] n (fun k vi wr=>∃ i:Nat,i<=n/\k=n - i/\vi=.int .i64 (i:Int)/\Hid (Below w.heap.size w wr)/\Hid (∀ j,j<i->q j=none))
 case atStart=>exact⟨0,by omega,by omega,rfl,Below.refl _ _,fun j hj=>absurd hj (by omega)⟩
 case round =>
  obtain⟨i,hid,hk,rfl,HB,HN⟩:=hrel
  have hszr:=HB.out.size
  by_cases hlt:i<n
  ·have hlt':(i:Int)<(n:Int):=by omega
   obtain⟨g,code,pos,nm,iv,vv,ta,ea,tn,tc,en,ec,p0,r1,r2,r3,r4,hag,hgl,c0,c1,c2,c3,c4,c5,c6,ap,ap',a1,a2,a3,a4,hqi⟩:=(HQ.out i hlt).out
   subst hag
   have hcell:∀(o:Nat) (u:Value),w.cell? ⟨g,o,none⟩=some u->wr.cell? ⟨g,o,none⟩=some u:=fun o u h=>(HB.out.cell (p:=⟨g,o,none⟩) hgl).trans h
   have kc0:=hcell _ _ c0
   have kc1:=hcell _ _ c1
   have kc2:=hcell _ _ c2
   have kc3:=hcell _ _ c3
   have kc4:=hcell _ _ c4
   have kc5:=hcell _ _ c5
   have kc6:=hcell _ _ c6
   have hglr:g<wr.heap.size:=by omega
   obtain⟨w1,hw1⟩:∃ w1,w1=wr.alloc (.cells #[.int .i64 (code:Int),.int .i64 pos,.string nm,.pointer iv,.pointer vv,.slice ta tn tc,.slice ea en ec] 96):=⟨_,rfl⟩
   have HB1:Hid (Below w.heap.size w w1):=by rw[hw1];exact HB.out.alloc hszr _
   have HSB:Hid (w1.heap[wr.heap.size]?=some (.cells #[.int .i64 (code:Int),.int .i64 pos,.string nm,.pointer iv,.pointer vv,.slice ta tn tc,.slice ea en ec] 96 (0,0))):=by rw[hw1];exact zl _ _
   have hs1:wr.heap.size<w1.heap.size:=by rw[hw1];simp
   have A1:=zh a1
   have A2:=zh a2
   have A3:=zh a3
   have A4:=zh a4
   have HQI:=zh hqi
   clear c0 c1 c2 c3 c4 c5 c6 hcell a1 a2 a3 a4 hqi
   by_cases hcd:code=1
   ·have AP:=zh (ap hcd)
    have hcd':((code:Int) == 1)=true:=by simp;omega
    clear ap ap' hcd
    go_wp2_with fail
    rw[<-hw1]
    refine(HAP.out w1 _ _ AP.out HB1.out).mono ?_
    intro e w2 hq
    cases p0 with
    | some er =>
     have HQQ:=zh (CkP.up hq HB1.out)
     have HFS:Hid ((List.range n).findSome? q=some er):=zR hlt HN.out (by rw[HQI.out];rfl)
     obtain⟨q1,q2⟩:=hq
     obtain⟨ab,q3,rfl,q4,q5⟩:=q2.out
     clear q1 q2 q3 q4 q5
     go_wp2_with fail
     refine⟨rfl,?_⟩
     rw[HFS.out]
     exact HQQ.out
    | none =>
     obtain⟨hb2,rfl⟩:=hq
     have HB2:Hid (Below w.heap.size w w2):=HB1.out.trans (hb2.mono HB1.out.size)
     have HSB2:Hid (w2.heap[wr.heap.size]?=some (.cells #[.int .i64 (code:Int),.int .i64 pos,.string nm,.pointer iv,.pointer vv,.slice ta tn tc,.slice ea en ec] 96 (0,0))):=(hb2.block _ hs1).trans HSB.out
     clear hb2 AP kc0 kc1 kc2 kc3 kc4 kc5 kc6 hw1
     have m3:w2.cell? ⟨wr.heap.size,3,none⟩=some (.pointer iv):=(za HSB2.out).trans rfl
     have m3':wr.heap.size<w2.heap.size:=zc HSB2.out
     have m0:=(xi HSB2.out).1
     go_wp2_with fail
     refine(HAX.out w2 _ _ A1.out HB2.out).mono ?_
     intro e x1 hq
     cases r1 with
     | some er =>
      have HQQ:=zh (CkP.up hq HB2.out)
      have HFS:Hid ((List.range n).findSome? q=some er):=zR hlt HN.out (by rw[HQI.out];rfl)
      obtain⟨q1,q2⟩:=hq
      obtain⟨ab,q3,rfl,q4,q5⟩:=q2.out
      clear q1 q2 q3 q4 q5
      go_wp2_with fail
      refine⟨rfl,?_⟩
      rw[HFS.out]
      exact HQQ.out
     | none =>
      obtain⟨hb_,rfl⟩:=hq
      have HB_x1:Hid (Below w.heap.size w x1):=HB2.out.trans (hb_.mono HB2.out.size)
      have HSB_x1:=zh ((hb_.block _ m3').trans HSB2.out)
      clear hb_ m3 m3' m0
      have m4:x1.cell? ⟨wr.heap.size,4,none⟩=some (.pointer vv):=(za HSB_x1.out).trans rfl
      have m4':wr.heap.size<x1.heap.size:=zc HSB_x1.out
      go_wp2_with fail
      refine(HAX.out x1 _ _ A2.out HB_x1.out).mono ?_
      intro e x2 hq
      cases r2 with
      | some er =>
       have HQQ:=zh (CkP.up hq HB_x1.out)
       have HFS:Hid ((List.range n).findSome? q=some er):=zR hlt HN.out (by rw[HQI.out];rfl)
       obtain⟨q1,q2⟩:=hq
       obtain⟨ab,q3,rfl,q4,q5⟩:=q2.out
       clear q1 q2 q3 q4 q5
       go_wp2_with fail
       refine⟨rfl,?_⟩
       rw[HFS.out]
       exact HQQ.out
      | none =>
       obtain⟨hb_,rfl⟩:=hq
       have HB_x2:Hid (Below w.heap.size w x2):=HB_x1.out.trans (hb_.mono HB_x1.out.size)
       have HSB_x2:=zh ((hb_.block _ m4').trans HSB_x1.out)
       clear hb_ m4 m4'
       have m5:x2.cell? ⟨wr.heap.size,5,none⟩=some (.slice ta tn tc):=(za HSB_x2.out).trans rfl
       have m5':wr.heap.size<x2.heap.size:=zc HSB_x2.out
       go_wp2_with fail
       refine(HAS.out x2 _ _ A3.out HB_x2.out).mono ?_
       intro e x3 hq
       cases r3 with
       | some er =>
        have HQQ:=zh (CkP.up hq HB_x2.out)
        have HFS:Hid ((List.range n).findSome? q=some er):=zR hlt HN.out (by rw[HQI.out];rfl)
        obtain⟨q1,q2⟩:=hq
        obtain⟨ab,q3,rfl,q4,q5⟩:=q2.out
        clear q1 q2 q3 q4 q5
        go_wp2_with fail
        refine⟨rfl,?_⟩
        rw[HFS.out]
        exact HQQ.out
       | none =>
        obtain⟨hb_,rfl⟩:=hq
        have HB_x3:Hid (Below w.heap.size w x3):=HB_x2.out.trans (hb_.mono HB_x2.out.size)
        have HSB_x3:=zh ((hb_.block _ m5').trans HSB_x2.out)
        clear hb_ m5 m5'
        have m6:x3.cell? ⟨wr.heap.size,6,none⟩=some (.slice ea en ec):=(za HSB_x3.out).trans rfl
        have m6':wr.heap.size<x3.heap.size:=zc HSB_x3.out
        go_wp2_with fail
        refine(HAS.out x3 _ _ A4.out HB_x3.out).mono ?_
        intro e x4 hq
        cases r4 with
        | some er =>
         have HQQ:=zh (CkP.up hq HB_x3.out)
         have HFS:Hid ((List.range n).findSome? q=some er):=zR hlt HN.out (by rw[HQI.out];rfl)
         obtain⟨q1,q2⟩:=hq
         obtain⟨ab,q3,rfl,q4,q5⟩:=q2.out
         clear q1 q2 q3 q4 q5
         go_wp2_with fail
         refine⟨rfl,?_⟩
         rw[HFS.out]
         exact HQQ.out
        | none =>
         obtain⟨hb_,rfl⟩:=hq
         have HB_x4:Hid (Below w.heap.size w x4):=HB_x3.out.trans (hb_.mono HB_x3.out.size)
         have HSB_x4:=zh ((hb_.block _ m6').trans HSB_x3.out)
         clear hb_ m6 m6'
         have HN4:Hid (∀ j,j<i+1->q j=none):=fun j hj=>by
          rcases Nat.lt_or_ge j i with q|q
          ·exact HN.out j q
          ·have:j=i:=by omega
           subst this
           rw[HQI.out]
           rfl
         go_wp2_with fail
         go_roundg (n - (i+1))
         case measure=>omega
         case rel=>exact⟨i+1,by omega,rfl,by go_num,HB_x4,HN4⟩
   ·have hp0:=ap' hcd
    have hcd':((code:Int) == 1)=false:=by simp;omega
    subst hp0
    clear ap ap' hcd
    go_upto_region 3 with fail
    rw[<-hw1]
    clear kc0 kc1 kc2 kc3 kc4 kc5 kc6 hw1
    have m3:w1.cell? ⟨wr.heap.size,3,none⟩=some (.pointer iv):=(za HSB.out).trans rfl
    have m3':wr.heap.size<w1.heap.size:=zc HSB.out
    have m0:=(xi HSB.out).1
    go_wp2_with fail
    refine(HAX.out w1 _ _ A1.out HB1.out).mono ?_
    intro e x1 hq
    cases r1 with
    | some er =>
     have HQQ:=zh (CkP.up hq HB1.out)
     have HFS:Hid ((List.range n).findSome? q=some er):=zR hlt HN.out (by rw[HQI.out];rfl)
     obtain⟨q1,q2⟩:=hq
     obtain⟨ab,q3,rfl,q4,q5⟩:=q2.out
     clear q1 q2 q3 q4 q5
     go_wp2_with fail
     refine⟨rfl,?_⟩
     rw[HFS.out]
     exact HQQ.out
    | none =>
     obtain⟨hb_,rfl⟩:=hq
     have HB_x1:Hid (Below w.heap.size w x1):=HB1.out.trans (hb_.mono HB1.out.size)
     have HSB_x1:=zh ((hb_.block _ m3').trans HSB.out)
     clear hb_ m3 m3' m0
     have m4:x1.cell? ⟨wr.heap.size,4,none⟩=some (.pointer vv):=(za HSB_x1.out).trans rfl
     have m4':wr.heap.size<x1.heap.size:=zc HSB_x1.out
     go_wp2_with fail
     refine(HAX.out x1 _ _ A2.out HB_x1.out).mono ?_
     intro e x2 hq
     cases r2 with
     | some er =>
      have HQQ:=zh (CkP.up hq HB_x1.out)
      have HFS:Hid ((List.range n).findSome? q=some er):=zR hlt HN.out (by rw[HQI.out];rfl)
      obtain⟨q1,q2⟩:=hq
      obtain⟨ab,q3,rfl,q4,q5⟩:=q2.out
      clear q1 q2 q3 q4 q5
      go_wp2_with fail
      refine⟨rfl,?_⟩
      rw[HFS.out]
      exact HQQ.out
     | none =>
      obtain⟨hb_,rfl⟩:=hq
      have HB_x2:Hid (Below w.heap.size w x2):=HB_x1.out.trans (hb_.mono HB_x1.out.size)
      have HSB_x2:=zh ((hb_.block _ m4').trans HSB_x1.out)
      clear hb_ m4 m4'
      have m5:x2.cell? ⟨wr.heap.size,5,none⟩=some (.slice ta tn tc):=(za HSB_x2.out).trans rfl
      have m5':wr.heap.size<x2.heap.size:=zc HSB_x2.out
      go_wp2_with fail
      refine(HAS.out x2 _ _ A3.out HB_x2.out).mono ?_
      intro e x3 hq
      cases r3 with
      | some er =>
       have HQQ:=zh (CkP.up hq HB_x2.out)
       have HFS:Hid ((List.range n).findSome? q=some er):=zR hlt HN.out (by rw[HQI.out];rfl)
       obtain⟨q1,q2⟩:=hq
       obtain⟨ab,q3,rfl,q4,q5⟩:=q2.out
       clear q1 q2 q3 q4 q5
       go_wp2_with fail
       refine⟨rfl,?_⟩
       rw[HFS.out]
       exact HQQ.out
      | none =>
       obtain⟨hb_,rfl⟩:=hq
       have HB_x3:Hid (Below w.heap.size w x3):=HB_x2.out.trans (hb_.mono HB_x2.out.size)
       have HSB_x3:=zh ((hb_.block _ m5').trans HSB_x2.out)
       clear hb_ m5 m5'
       have m6:x3.cell? ⟨wr.heap.size,6,none⟩=some (.slice ea en ec):=(za HSB_x3.out).trans rfl
       have m6':wr.heap.size<x3.heap.size:=zc HSB_x3.out
       go_wp2_with fail
       refine(HAS.out x3 _ _ A4.out HB_x3.out).mono ?_
       intro e x4 hq
       cases r4 with
       | some er =>
        have HQQ:=zh (CkP.up hq HB_x3.out)
        have HFS:Hid ((List.range n).findSome? q=some er):=zR hlt HN.out (by rw[HQI.out];rfl)
        obtain⟨q1,q2⟩:=hq
        obtain⟨ab,q3,rfl,q4,q5⟩:=q2.out
        clear q1 q2 q3 q4 q5
        go_wp2_with fail
        refine⟨rfl,?_⟩
        rw[HFS.out]
        exact HQQ.out
       | none =>
        obtain⟨hb_,rfl⟩:=hq
        have HB_x4:Hid (Below w.heap.size w x4):=HB_x3.out.trans (hb_.mono HB_x3.out.size)
        have HSB_x4:=zh ((hb_.block _ m6').trans HSB_x3.out)
        clear hb_ m6 m6'
        have HN4:Hid (∀ j,j<i+1->q j=none):=fun j hj=>by
         rcases Nat.lt_or_ge j i with q|q
         ·exact HN.out j q
         ·have:j=i:=by omega
          subst this
          rw[HQI.out]
          rfl
        go_wp2_with fail
        go_roundg (n - (i+1))
        case measure=>omega
        case rel=>exact⟨i+1,by omega,rfl,by go_num,HB_x4,HN4⟩
  ·have hlt':¬(i:Int)<(n:Int):=by omega
   have HFS:Hid ((List.range n).findSome? q=none):=yy (fun j hj=>HN.out j (by omega))
   go_wp2_with fail
   refine bodyPost_end (results_none rfl _ _ _) rfl ⟨HB.out,?_⟩
   rw[HFS.out]
end Go.Proofs.YthnoedjbhbkdeaaGreatDoor
