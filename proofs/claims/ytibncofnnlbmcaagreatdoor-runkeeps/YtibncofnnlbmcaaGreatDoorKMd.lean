import Derived.Test.YtibncofnnlbmcaaGreatDoorKMc
set_option maxRecDepth 100000
set_option maxHeartbeats 4000000
namespace Go.Proofs.YtibncofnnlbmcaaGreatDoor
open Go.RowKit Go.Maps
open Tp (Bs Th Sy Seen X S)
abbrev Jd:=Tp.R->Option (Nat×Nat)
def Sm (l:List Tp.R):Prop:=∀r∈l,r.mod.length<=1000000/\r.name.length<=1000000
theorem Sm.sub {l m:List Tp.R}(h:Sm l)(k:∀r∈m,r∈l):Sm m:=fun r a=>h r (k r a)
theorem kY (x:X)(l:List X):Tp.rx (x :: l)=Tp.rx [x]++Tp.rx l:=by
 obtain⟨code,pos,n,m,nm,c,b,ri,a⟩:=x
 simp[Tp.rx]
theorem rx_app (l m:List X):Tp.rx (l++m)=Tp.rx l++Tp.rx m:=by
 induction l with
 |nil=>simp[Tp.rx]
 |cons x l ih=>rw[List.cons_append,kY,ih,kY x l,List.append_assoc]
theorem rx_one (code pos n:Nat)(m nm c:Bs)(b ri a:List X):Tp.rx [⟨code,pos,n,m,nm,c,b,ri,a⟩]=(if code=2\/code=3\/code=6 then [⟨code,pos,m,nm,a.length⟩] else [])++(Tp.rx b++(Tp.rx ri++Tp.rx a)):=by
 simp[Tp.rx]
theorem RepL.step {w w':World}{D:Nat->Prop}{l:List X}{vs:List Value}(h:RepL w D l vs)(k:Below w.heap.size w w'):RepL w' D l vs :=
 RepL.mono (fun b a c=>⟨k.block b c,a⟩) _ _ _ zn h
theorem RepL.get {w:World}{D:Nat->Prop}:∀(l:List X) (vs:List Value),RepL w D l vs->∀i (h:i<l.length),∃b,vs[i]?=some (.pointer (some ⟨b,0,none⟩))/\RepL w D [l[i]] [.pointer (some ⟨b,0,none⟩)]:=by
 intro l
 induction l with
 |nil=>intro vs _ i h;simp at h
 |cons x l ih =>
  intro vs h i v
  obtain⟨code,pos,n,m,nm,A,y,ri,d⟩:=x
  rw[RepL]at h
  obtain⟨b,e,z,rs,g,c,j,k,o,p,q,r,s,t,u,a⟩:=h
  subst j
  cases i with
  |zero =>
   refine⟨b,rfl,?_⟩
   show RepL w D [⟨code,pos,n,m,nm,A,y,ri,d⟩] _
   rw[RepL]
   exact⟨b,e,z,rs,g,[],rfl,k,o,p,q,r,s,t,u,by rw[RepL]⟩
  |succ i =>
   obtain⟨f,B,C⟩:=ih c a i (by simpa using v)
   exact⟨f,by simpa using B,by simpa using C⟩
theorem kT (w:World)(b:Nat):Calls Tryz.prog 113 #[.pointer none,finderV b] w (CkP w none):=by
 unfold finderV
 go_enter Tryz.func113,Tryz.ntmps113
 go_wp2_with fail
 exact bodyPost_end (results_none rfl _ _ _) rfl ⟨Below.refl _ _,rfl⟩
theorem yq {n:Nat}{f:Nat->Option (Nat×Nat)}(h:∀j,j<n->f j=none):(List.range n).findSome? f=none:=by
 rw[List.findSome?_eq_none_iff]
 intro j a
 exact h j (List.mem_range.1 a)
theorem zO {n i:Nat}{f:Nat->Option (Nat×Nat)}{x:Nat×Nat}(c:i<n)(h:∀j,j<i->f j=none)(g:f i=some x):(List.range n).findSome? f=some x:=by
 have e:List.range n=List.range i++i :: (List.range n).drop (i+1):=by
  have a:(List.range n)[i]?=some i:=by simp[c]
  have b:(List.range n).take i=List.range i:=by rw[List.take_range];congr 1;omega
  rw[<-b]
  obtain⟨d,e⟩:=List.getElem?_eq_some_iff.1 a
  conv=>lhs;rw[<-List.take_append_drop i (List.range n),List.drop_eq_getElem_cons d,e]
 rw[e,List.findSome?_append,yq h,List.findSome?_cons,g]
 rfl
def AskX (w:World) (b:Nat) (v:Value) (res:Option (Nat×Nat)):Prop:=∀W,Below w.heap.size w W->Calls Tryz.prog 113 #[v,finderV b] W (CkP W res)
theorem jZ {w:World}{b x code:Nat}{pos n:Int}{md nm op:ByteArray}{lv rv aa:Option Addr}{d ac:Nat}(a7:w.heap[x]?=some (.cells #[.int .i64 (code:Int),.int .i64 pos,.int .i64 n,.string md,.string nm,.string op,.pointer lv,.pointer rv,.slice aa d ac] 216 (0,0)))
  {r0 r1 r2:Option (Nat×Nat)}{ra:Nat->Option (Nat×Nat)}
  (hR:(code=2\/code=3\/code=6)->Calls Tryz.prog 146 #[.pointer (some ⟨x,0,none⟩),finderV b] w (CkP w r0))(a6:¬(code=2\/code=3\/code=6)->r0=none)
  (hL:AskX w b (.pointer lv) r1)(b6:AskX w b (.pointer rv) r2)
  (hA:∀i,i<d->∃g y,aa=some ⟨g,0,none⟩/\g<w.heap.size/\w.cell? ⟨g,i,none⟩=some (.pointer (some ⟨y,0,none⟩))/\AskX w b (.pointer (some ⟨y,0,none⟩)) (ra i))(c0:d<=9223372036854775807){b7:Option (Nat×Nat)}(b5:b7=r0.or (r1.or (r2.or ((List.range d).findSome? ra)))) :
  Calls Tryz.prog 113 #[.pointer (some ⟨x,0,none⟩),finderV b] w (CkP w b7):=by
 have F:=zf a7
 have G:=zh a7
 have HL:=zh hL
 have a8:=zh b6
 have HA:=zh hA
 have v:=zh b5
 have b9:(d:Int)<=9223372036854775807:=by omega
 have k0:w.cell? ⟨x,0,none⟩=some (.int .i64 (code:Int)):=(za a7).trans rfl
 clear a7 hL b6 hA b5
 rcases(show code=2\/code=3\/code=6\/¬(code=2\/code=3\/code=6) by omega) with hcd|hcd|hcd|hcd
 ·have K:=zh (hR (by omega))
  subst hcd
  clear hR a6
  unfold finderV at *
  go_enter Tryz.func113,Tryz.ntmps113
  go_wp2_with fail
  refine K.out.mono ?_
  intro e W a
  cases r0 with
  |some er =>
   have f:=zh a
   obtain⟨h,c⟩:=a
   obtain⟨E,l,rfl,m,o⟩:=c.out
   clear h c l m o k0 K
   go_wp2_with fail
   refine⟨rfl,?_⟩
   rw[v.out]
   exact f.out
  |none =>
   obtain⟨X,rfl⟩:=a
   have t:=zh X
   clear X k0 K
   have Z:=t.out.size
   have R:=(t.out.block x F).trans G.out
   have U:W.cell? ⟨x,6,none⟩=some (.pointer lv):=(za R).trans rfl
   have b2:x<W.heap.size:=by omega
   have I:=zh (HL.out W t.out)
   clear R
   go_wp2_with fail
   refine I.out.mono ?_
   intro e w2 a
   cases r1 with
   |some er =>
    have f:=zh (CkP.up a t.out)
    obtain⟨h,c⟩:=a
    obtain⟨E,l,rfl,m,o⟩:=c.out
    clear h c l m o U
    go_wp2_with fail
    refine⟨rfl,?_⟩
    rw[v.out]
    exact f.out
   |none =>
    obtain⟨L,rfl⟩:=a
    have u:Hid (Below w.heap.size w w2):=t.out.trans (L.mono Z)
    have a0:=u.out.size
    have S:=(u.out.block x F).trans G.out
    have V:w2.cell? ⟨x,7,none⟩=some (.pointer rv):=(za S).trans rfl
    have b3:x<w2.heap.size:=by omega
    have J:=zh (a8.out w2 u.out)
    clear S L U I
    go_wp2_with fail
    refine J.out.mono ?_
    intro e D a
    cases r2 with
    |some er =>
     have f:=zh (CkP.up a u.out)
     obtain⟨h,c⟩:=a
     obtain⟨E,l,rfl,m,o⟩:=c.out
     clear h c l m o V
     go_wp2_with fail
     refine⟨rfl,?_⟩
     rw[v.out]
     exact f.out
    |none =>
     obtain⟨M,rfl⟩:=a
     have z:Hid (Below w.heap.size w D):=u.out.trans (M.mono a0)
     have b0:=z.out.size
     have T:=(z.out.block x F).trans G.out
     have k8:D.cell? ⟨x,8,none⟩=some (.slice aa d ac):=(za T).trans rfl
     have b4:x<D.heap.size:=by omega
     clear T M V J
     go_wp2_with fail
     go_loopg [47] d (fun k vi wr=>∃i:Nat,i<=d/\k=d-i/\vi=.int .i64 (i:Int)/\Hid (Below w.heap.size w wr)/\Hid (∀j,j<i->ra j=none))
     case atStart=>exact⟨0,by omega,by omega,rfl,z,fun j C=>absurd C (by omega)⟩
     case round =>
      obtain⟨i,b1,hk,rfl,s,B⟩:=hrel
      have a1:=s.out.size
      by_cases P:i<d
      ·have Y:(i:Int)<(d:Int):=by omega
       obtain⟨g,y,a4,a5,O,H⟩:=HA.out i P
       have kc:wr.cell? ⟨g,i,none⟩=some (.pointer (some ⟨y,0,none⟩)):=(s.out.cell (p:=⟨g,i,none⟩) a5).trans O
       have a9:g<wr.heap.size:=by omega
       subst a4
       have Q:=zh (H wr s.out)
       clear O H
       go_wp2_with fail
       refine Q.out.mono ?_
       intro e w4 a
       cases r:ra i with
       |some er =>
        rw[r]at a
        have f:=zh (CkP.up a s.out)
        have A:=zh (zO P B.out r)
        obtain⟨h,c⟩:=a
        obtain⟨E,l,rfl,m,o⟩:=c.out
        clear h c l m o r
        go_wp2_with fail
        refine⟨rfl,?_⟩
        rw[v.out,A.out]
        exact f.out
       |none =>
        rw[r]at a
        obtain⟨N,rfl⟩:=a
        have a2:Hid (Below w.heap.size w w4):=s.out.trans (N.mono a1)
        have a3:Hid (∀j,j<i+1->ra j=none):=fun j C=>by
         rcases Nat.lt_or_ge j i with q|q
         ·exact B.out j q
         ·have:j=i:=by omega
          subst this
          exact r
        clear N r Q
        go_wp2_with fail
        go_roundg (d-(i+1))
        case measure=>omega
        case rel=>exact⟨i+1,by omega,rfl,by go_num,a2,a3⟩
      ·have Y:¬(i:Int)<(d:Int):=by omega
       have A:Hid ((List.range d).findSome? ra=none):=yq (fun j C=>B.out j (by omega))
       go_wp2_with fail
       refine bodyPost_end (results_none rfl _ _ _) rfl ⟨s.out,?_⟩
       rw[v.out,A.out]
       rfl
 ·have K:=zh (hR (by omega))
  subst hcd
  clear hR a6
  unfold finderV at *
  go_enter Tryz.func113,Tryz.ntmps113
  go_wp2_with fail
  refine K.out.mono ?_
  intro e W a
  cases r0 with
  |some er =>
   have f:=zh a
   obtain⟨h,c⟩:=a
   obtain⟨E,l,rfl,m,o⟩:=c.out
   clear h c l m o k0 K
   go_wp2_with fail
   refine⟨rfl,?_⟩
   rw[v.out]
   exact f.out
  |none =>
   obtain⟨X,rfl⟩:=a
   have t:=zh X
   clear X k0 K
   have Z:=t.out.size
   have R:=(t.out.block x F).trans G.out
   have U:W.cell? ⟨x,6,none⟩=some (.pointer lv):=(za R).trans rfl
   have b2:x<W.heap.size:=by omega
   have I:=zh (HL.out W t.out)
   clear R
   go_wp2_with fail
   refine I.out.mono ?_
   intro e w2 a
   cases r1 with
   |some er =>
    have f:=zh (CkP.up a t.out)
    obtain⟨h,c⟩:=a
    obtain⟨E,l,rfl,m,o⟩:=c.out
    clear h c l m o U
    go_wp2_with fail
    refine⟨rfl,?_⟩
    rw[v.out]
    exact f.out
   |none =>
    obtain⟨L,rfl⟩:=a
    have u:Hid (Below w.heap.size w w2):=t.out.trans (L.mono Z)
    have a0:=u.out.size
    have S:=(u.out.block x F).trans G.out
    have V:w2.cell? ⟨x,7,none⟩=some (.pointer rv):=(za S).trans rfl
    have b3:x<w2.heap.size:=by omega
    have J:=zh (a8.out w2 u.out)
    clear S L U I
    go_wp2_with fail
    refine J.out.mono ?_
    intro e D a
    cases r2 with
    |some er =>
     have f:=zh (CkP.up a u.out)
     obtain⟨h,c⟩:=a
     obtain⟨E,l,rfl,m,o⟩:=c.out
     clear h c l m o V
     go_wp2_with fail
     refine⟨rfl,?_⟩
     rw[v.out]
     exact f.out
    |none =>
     obtain⟨M,rfl⟩:=a
     have z:Hid (Below w.heap.size w D):=u.out.trans (M.mono a0)
     have b0:=z.out.size
     have T:=(z.out.block x F).trans G.out
     have k8:D.cell? ⟨x,8,none⟩=some (.slice aa d ac):=(za T).trans rfl
     have b4:x<D.heap.size:=by omega
     clear T M V J
     go_wp2_with fail
     go_loopg [47] d (fun k vi wr=>∃i:Nat,i<=d/\k=d-i/\vi=.int .i64 (i:Int)/\Hid (Below w.heap.size w wr)/\Hid (∀j,j<i->ra j=none))
     case atStart=>exact⟨0,by omega,by omega,rfl,z,fun j C=>absurd C (by omega)⟩
     case round =>
      obtain⟨i,b1,hk,rfl,s,B⟩:=hrel
      have a1:=s.out.size
      by_cases P:i<d
      ·have Y:(i:Int)<(d:Int):=by omega
       obtain⟨g,y,a4,a5,O,H⟩:=HA.out i P
       have kc:wr.cell? ⟨g,i,none⟩=some (.pointer (some ⟨y,0,none⟩)):=(s.out.cell (p:=⟨g,i,none⟩) a5).trans O
       have a9:g<wr.heap.size:=by omega
       subst a4
       have Q:=zh (H wr s.out)
       clear O H
       go_wp2_with fail
       refine Q.out.mono ?_
       intro e w4 a
       cases r:ra i with
       |some er =>
        rw[r]at a
        have f:=zh (CkP.up a s.out)
        have A:=zh (zO P B.out r)
        obtain⟨h,c⟩:=a
        obtain⟨E,l,rfl,m,o⟩:=c.out
        clear h c l m o r
        go_wp2_with fail
        refine⟨rfl,?_⟩
        rw[v.out,A.out]
        exact f.out
       |none =>
        rw[r]at a
        obtain⟨N,rfl⟩:=a
        have a2:Hid (Below w.heap.size w w4):=s.out.trans (N.mono a1)
        have a3:Hid (∀j,j<i+1->ra j=none):=fun j C=>by
         rcases Nat.lt_or_ge j i with q|q
         ·exact B.out j q
         ·have:j=i:=by omega
          subst this
          exact r
        clear N r Q
        go_wp2_with fail
        go_roundg (d-(i+1))
        case measure=>omega
        case rel=>exact⟨i+1,by omega,rfl,by go_num,a2,a3⟩
      ·have Y:¬(i:Int)<(d:Int):=by omega
       have A:Hid ((List.range d).findSome? ra=none):=yq (fun j C=>B.out j (by omega))
       go_wp2_with fail
       refine bodyPost_end (results_none rfl _ _ _) rfl ⟨s.out,?_⟩
       rw[v.out,A.out]
       rfl
 ·have K:=zh (hR (by omega))
  subst hcd
  clear hR a6
  unfold finderV at *
  go_enter Tryz.func113,Tryz.ntmps113
  go_wp2_with fail
  refine K.out.mono ?_
  intro e W a
  cases r0 with
  |some er =>
   have f:=zh a
   obtain⟨h,c⟩:=a
   obtain⟨E,l,rfl,m,o⟩:=c.out
   clear h c l m o k0 K
   go_wp2_with fail
   refine⟨rfl,?_⟩
   rw[v.out]
   exact f.out
  |none =>
   obtain⟨X,rfl⟩:=a
   have t:=zh X
   clear X k0 K
   have Z:=t.out.size
   have R:=(t.out.block x F).trans G.out
   have U:W.cell? ⟨x,6,none⟩=some (.pointer lv):=(za R).trans rfl
   have b2:x<W.heap.size:=by omega
   have I:=zh (HL.out W t.out)
   clear R
   go_wp2_with fail
   refine I.out.mono ?_
   intro e w2 a
   cases r1 with
   |some er =>
    have f:=zh (CkP.up a t.out)
    obtain⟨h,c⟩:=a
    obtain⟨E,l,rfl,m,o⟩:=c.out
    clear h c l m o U
    go_wp2_with fail
    refine⟨rfl,?_⟩
    rw[v.out]
    exact f.out
   |none =>
    obtain⟨L,rfl⟩:=a
    have u:Hid (Below w.heap.size w w2):=t.out.trans (L.mono Z)
    have a0:=u.out.size
    have S:=(u.out.block x F).trans G.out
    have V:w2.cell? ⟨x,7,none⟩=some (.pointer rv):=(za S).trans rfl
    have b3:x<w2.heap.size:=by omega
    have J:=zh (a8.out w2 u.out)
    clear S L U I
    go_wp2_with fail
    refine J.out.mono ?_
    intro e D a
    cases r2 with
    |some er =>
     have f:=zh (CkP.up a u.out)
     obtain⟨h,c⟩:=a
     obtain⟨E,l,rfl,m,o⟩:=c.out
     clear h c l m o V
     go_wp2_with fail
     refine⟨rfl,?_⟩
     rw[v.out]
     exact f.out
    |none =>
     obtain⟨M,rfl⟩:=a
     have z:Hid (Below w.heap.size w D):=u.out.trans (M.mono a0)
     have b0:=z.out.size
     have T:=(z.out.block x F).trans G.out
     have k8:D.cell? ⟨x,8,none⟩=some (.slice aa d ac):=(za T).trans rfl
     have b4:x<D.heap.size:=by omega
     clear T M V J
     go_wp2_with fail
     go_loopg [47] d (fun k vi wr=>∃i:Nat,i<=d/\k=d-i/\vi=.int .i64 (i:Int)/\Hid (Below w.heap.size w wr)/\Hid (∀j,j<i->ra j=none))
     case atStart=>exact⟨0,by omega,by omega,rfl,z,fun j C=>absurd C (by omega)⟩
     case round =>
      obtain⟨i,b1,hk,rfl,s,B⟩:=hrel
      have a1:=s.out.size
      by_cases P:i<d
      ·have Y:(i:Int)<(d:Int):=by omega
       obtain⟨g,y,a4,a5,O,H⟩:=HA.out i P
       have kc:wr.cell? ⟨g,i,none⟩=some (.pointer (some ⟨y,0,none⟩)):=(s.out.cell (p:=⟨g,i,none⟩) a5).trans O
       have a9:g<wr.heap.size:=by omega
       subst a4
       have Q:=zh (H wr s.out)
       clear O H
       go_wp2_with fail
       refine Q.out.mono ?_
       intro e w4 a
       cases r:ra i with
       |some er =>
        rw[r]at a
        have f:=zh (CkP.up a s.out)
        have A:=zh (zO P B.out r)
        obtain⟨h,c⟩:=a
        obtain⟨E,l,rfl,m,o⟩:=c.out
        clear h c l m o r
        go_wp2_with fail
        refine⟨rfl,?_⟩
        rw[v.out,A.out]
        exact f.out
       |none =>
        rw[r]at a
        obtain⟨N,rfl⟩:=a
        have a2:Hid (Below w.heap.size w w4):=s.out.trans (N.mono a1)
        have a3:Hid (∀j,j<i+1->ra j=none):=fun j C=>by
         rcases Nat.lt_or_ge j i with q|q
         ·exact B.out j q
         ·have:j=i:=by omega
          subst this
          exact r
        clear N r Q
        go_wp2_with fail
        go_roundg (d-(i+1))
        case measure=>omega
        case rel=>exact⟨i+1,by omega,rfl,by go_num,a2,a3⟩
      ·have Y:¬(i:Int)<(d:Int):=by omega
       have A:Hid ((List.range d).findSome? ra=none):=yq (fun j C=>B.out j (by omega))
       go_wp2_with fail
       refine bodyPost_end (results_none rfl _ _ _) rfl ⟨s.out,?_⟩
       rw[v.out,A.out]
       rfl
 ·have b8:=a6 hcd
  have h2:((code:Int)==2)=false:=by simp;omega
  have h3:((code:Int)==3)=false:=by simp;omega
  have h6:((code:Int)==6)=false:=by simp;omega
  subst b8
  have t:Hid (Below w.heap.size w w):=Below.refl _ _
  clear hR a6 hcd
  unfold finderV at *
  go_enter Tryz.func113,Tryz.ntmps113
  have Z:=t.out.size
  have R:=(t.out.block x F).trans G.out
  have U:w.cell? ⟨x,6,none⟩=some (.pointer lv):=(za R).trans rfl
  have b2:x<w.heap.size:=by omega
  have I:=zh (HL.out w t.out)
  clear R
  go_wp2_with fail
  refine I.out.mono ?_
  intro e w2 a
  cases r1 with
  |some er =>
   have f:=zh (CkP.up a t.out)
   obtain⟨h,c⟩:=a
   obtain⟨E,l,rfl,m,o⟩:=c.out
   clear h c l m o U
   go_wp2_with fail
   refine⟨rfl,?_⟩
   rw[v.out]
   exact f.out
  |none =>
   obtain⟨L,rfl⟩:=a
   have u:Hid (Below w.heap.size w w2):=t.out.trans (L.mono Z)
   have a0:=u.out.size
   have S:=(u.out.block x F).trans G.out
   have V:w2.cell? ⟨x,7,none⟩=some (.pointer rv):=(za S).trans rfl
   have b3:x<w2.heap.size:=by omega
   have J:=zh (a8.out w2 u.out)
   clear S L U I
   go_wp2_with fail
   refine J.out.mono ?_
   intro e D a
   cases r2 with
   |some er =>
    have f:=zh (CkP.up a u.out)
    obtain⟨h,c⟩:=a
    obtain⟨E,l,rfl,m,o⟩:=c.out
    clear h c l m o V
    go_wp2_with fail
    refine⟨rfl,?_⟩
    rw[v.out]
    exact f.out
   |none =>
    obtain⟨M,rfl⟩:=a
    have z:Hid (Below w.heap.size w D):=u.out.trans (M.mono a0)
    have b0:=z.out.size
    have T:=(z.out.block x F).trans G.out
    have k8:D.cell? ⟨x,8,none⟩=some (.slice aa d ac):=(za T).trans rfl
    have b4:x<D.heap.size:=by omega
    clear T M V J
    go_wp2_with fail
    go_loopg [47] d (fun k vi wr=>∃i:Nat,i<=d/\k=d-i/\vi=.int .i64 (i:Int)/\Hid (Below w.heap.size w wr)/\Hid (∀j,j<i->ra j=none))
    case atStart=>exact⟨0,by omega,by omega,rfl,z,fun j C=>absurd C (by omega)⟩
    case round =>
     obtain⟨i,b1,hk,rfl,s,B⟩:=hrel
     have a1:=s.out.size
     by_cases P:i<d
     ·have Y:(i:Int)<(d:Int):=by omega
      obtain⟨g,y,a4,a5,O,H⟩:=HA.out i P
      have kc:wr.cell? ⟨g,i,none⟩=some (.pointer (some ⟨y,0,none⟩)):=(s.out.cell (p:=⟨g,i,none⟩) a5).trans O
      have a9:g<wr.heap.size:=by omega
      subst a4
      have Q:=zh (H wr s.out)
      clear O H
      go_wp2_with fail
      refine Q.out.mono ?_
      intro e w4 a
      cases r:ra i with
      |some er =>
       rw[r]at a
       have f:=zh (CkP.up a s.out)
       have A:=zh (zO P B.out r)
       obtain⟨h,c⟩:=a
       obtain⟨E,l,rfl,m,o⟩:=c.out
       clear h c l m o r
       go_wp2_with fail
       refine⟨rfl,?_⟩
       rw[v.out,A.out]
       exact f.out
      |none =>
       rw[r]at a
       obtain⟨N,rfl⟩:=a
       have a2:Hid (Below w.heap.size w w4):=s.out.trans (N.mono a1)
       have a3:Hid (∀j,j<i+1->ra j=none):=fun j C=>by
        rcases Nat.lt_or_ge j i with q|q
        ·exact B.out j q
        ·have:j=i:=by omega
         subst this
         exact r
       clear N r Q
       go_wp2_with fail
       go_roundg (d-(i+1))
       case measure=>omega
       case rel=>exact⟨i+1,by omega,rfl,by go_num,a2,a3⟩
     ·have Y:¬(i:Int)<(d:Int):=by omega
      have A:Hid ((List.range d).findSome? ra=none):=yq (fun j C=>B.out j (by omega))
      go_wp2_with fail
      refine bodyPost_end (results_none rfl _ _ _) rfl ⟨s.out,?_⟩
      rw[v.out,A.out]
      rfl
theorem find_range (J:Jd):∀(a:List X),(List.range a.length).findSome? (fun i=>(a[i]?).bind fun y=>(Tp.rx [y]).findSome? J)=(Tp.rx a).findSome? J:=by
 intro a
 induction a with
 |nil=>simp[Tp.rx]
 |cons x l ih =>
  rw[kY,List.findSome?_append,<-ih,List.length_cons,List.range_succ_eq_map,List.findSome?_cons,List.findSome?_map]
  have b:((fun i=>((x :: l)[i]?).bind fun y=>(Tp.rx [y]).findSome? J) ∘ Nat.succ)=fun i=>(l[i]?).bind fun y=>(Tp.rx [y]).findSome? J:=by
   funext i
   simp
  rw[b]
  simp only[List.getElem?_cons_zero,Option.bind_some]
  cases (Tp.rx [x]).findSome? J<;>rfl
theorem xZ {K:World}{b:Nat}{Sn:Seen}{fs:Near}(hF:Fnd K b Sn fs)(a6:fs.length<=1000):∀(n:Nat) (x:X),SizeOf.sizeOf x<=n->Sm (Tp.rx [x])->∀(w:World) (D:Nat->Prop) (L:Nat),Below K.heap.size K w->RepL w D [x] [.pointer (some ⟨L,0,none⟩)] ->
  Calls Tryz.prog 113 #[.pointer (some ⟨L,0,none⟩),finderV b] w (CkP w ((Tp.rx [x]).findSome? (Tp.judgeP (Tp.standV Sn fs)))):=by
 intro n
 induction n with
 |zero=>intro x I;cases x;simp at I
 |succ n ih =>
  intro x I J w D L s h
  obtain⟨code,pos,u,md,nm,A,o,ri,c⟩:=x
  simp at I
  have h0:=h
  rw[RepL]at h
  obtain⟨b',av,ls,rs,gs,b2,h1,h2,E,P,h5,Q,h7,R,h9,_⟩:=h
  injection h1 with h1a _
  injection h1a with h1b
  injection h1b with h1c
  injection h1c with h1d
  subst h1d
  have b0:=RepL.len _ _ P
  have b1:=RepL.len _ _ Q
  have N:=RepL.len _ _ R
  have q:=rx_one code pos u md nm A o ri c
  have M:∀(l:List X) (vs:List Value),SizeOf.sizeOf l<=n->(∀r∈Tp.rx l,r∈Tp.rx [(⟨code,pos,u,md,nm,A,o,ri,c⟩:X)])->RepL w D l vs->vs.length<=1->(∃a,vs.headD (.pointer none)=.pointer a)/\AskX w b (vs.headD (.pointer none)) ((Tp.rx l).findSome? (Tp.judgeP (Tp.standV Sn fs))):=by
   intro l vs hl a0 d a7
   have O:=RepL.len _ _ d
   match l,vs,d with
   |[],vs,d =>
    rw[RepL]at d
    subst d
    refine⟨⟨none,rfl⟩,fun W p=>?_⟩
    have:(Tp.rx []).findSome? (Tp.judgeP (Tp.standV Sn fs))=none:=by simp[Tp.rx]
    rw[this]
    exact kT W b
   |[y],vs,d =>
    obtain⟨C,j,B⟩:=RepL.get _ _ d 0 (by simp)
    have hv:vs=[.pointer (some ⟨C,0,none⟩)]:=by
     match vs,a7,O with
     |[v],_,_=>simp at j;rw[j]
    subst hv
    refine⟨⟨_,rfl⟩,fun W p=>?_⟩
    have G:SizeOf.sizeOf y<=n:=by simp at hl;omega
    exact ih y G (J.sub a0) W D C (s.trans (p.mono s.size)) (d.step p)
   |y :: z :: t,vs,d=>simp at O;omega
  have a1:∀r∈Tp.rx o,r∈Tp.rx [(⟨code,pos,u,md,nm,A,o,ri,c⟩:X)]:=fun r m=>by rw[q];simp[m]
  have a2:∀r∈Tp.rx ri,r∈Tp.rx [(⟨code,pos,u,md,nm,A,o,ri,c⟩:X)]:=fun r m=>by rw[q];simp[m]
  have a3:∀r∈Tp.rx c,r∈Tp.rx [(⟨code,pos,u,md,nm,A,o,ri,c⟩:X)]:=fun r m=>by rw[q];simp[m]
  obtain⟨⟨lv,a8⟩,S⟩:=M o ls (by omega) a1 P h5
  obtain⟨⟨rv,a9⟩,T⟩:=M ri rs (by omega) a2 Q h7
  rw[a8]at E S
  rw[a9]at E T
  have a5:∃H ac,av=.slice H c.length ac/\c.length<=9223372036854775807/\∀i,i<c.length->∃g,H=some ⟨g,0,none⟩/\g<w.heap.size/\w.cell? ⟨g,i,none⟩=gs[i]?:=by
   rcases h9 with⟨j,B⟩|⟨g,cap,cur,j,B,F,V,Y,q6,q7⟩
   ·have:c.length=0:=by rw[<-N,j];rfl
    exact⟨none,0,by rw[this];exact B,by omega,fun i k=>by omega⟩
   ·refine⟨_,cap,by rw[<-N];exact j,?_,fun i k=>⟨g,rfl,zf F,?_⟩⟩
    ·have:maxLen=9223372036854775807:=rfl
     omega
    ·rw[za F,<-Array.getElem?_toList,<-q7,List.getElem?_take_of_lt (by omega)]
  obtain⟨H,ac,rfl,a4,Z⟩:=a5
  ·refine jZ (r0:=if code=2\/code=3\/code=6 then Tp.judgeP (Tp.standV Sn fs) ⟨code,pos,md,nm,c.length⟩ else none) (ra:=fun i=>(c[i]?).bind fun y=>(Tp.rx [y]).findSome? (Tp.judgeP (Tp.standV Sn fs))) E ?_ (fun f=>if_neg f) S T ?_ a4 ?_
   ·intro f
    rw[if_pos f]
    have U:=J ⟨code,pos,md,nm,c.length⟩ (by rw[q,if_pos f];simp)
    exact kR (r:=⟨code,pos,md,nm,c.length⟩) (hF.on s) a6 ⟨_,_,_,_,_,_,E⟩ U.1 U.2 (by simp only;omega)
   ·intro i k
    obtain⟨g,j,B,F⟩:=Z i k
    obtain⟨C,V,Y⟩:=RepL.get _ _ R i k
    refine⟨g,C,j,B,F.trans V,fun W p=>?_⟩
    simp only[List.getElem?_eq_getElem k,Option.bind_some]
    have G:SizeOf.sizeOf c[i]<=n:=by
     have:=List.sizeOf_lt_of_mem (List.getElem_mem k)
     omega
    refine ih c[i] G (J.sub fun r m=>a3 r ?_) W D C (s.trans (p.mono s.size)) (Y.step p)
    have e:c=c.take i++c[i] :: c.drop (i+1):=by rw[<-List.drop_eq_getElem_cons k,List.take_append_drop]
    rw[e,rx_app,kY]
    simp[m]
   ·rw[find_range,q,List.findSome?_append,List.findSome?_append,List.findSome?_append]
    congr 1
    by_cases f:code=2\/code=3\/code=6
    ·rw[if_pos f,if_pos f,List.findSome?_cons]
     cases Tp.judgeP (Tp.standV Sn fs) ⟨code,pos,md,nm,c.length⟩<;>rfl
    ·rw[if_neg f,if_neg f];rfl
def AskS (w:World) (b:Nat) (v:Value) (res:Option (Nat×Nat)):Prop:=∀W,Below w.heap.size w W->Calls Tryz.prog 81 #[v,finderV b] W (CkP W res)
def AskPl (w:World) (b:Nat) (v:Value) (res:Option (Nat×Nat)):Prop:=∀W,Below w.heap.size w W->Calls Tryz.prog 112 #[v,finderV b] W (CkP W res)
structure St1 (w:World) (b:Nat) (a:Option Addr) (i:Nat) (q:Option (Nat×Nat)):Prop where
 out:∃(g code:Nat) (pos:Int) (nm:ByteArray) (iv vv ta ea:Option Addr) (tn tc en ec:Nat) (p0 r1 r2 r3 r4:Option (Nat×Nat)),a=some ⟨g,0,none⟩/\g<w.heap.size /\
  w.cell? ⟨g,i*7,none⟩=some (.int .i64 (code:Int))/\w.cell? ⟨g,i*7+1,none⟩=some (.int .i64 pos)/\w.cell? ⟨g,i*7+2,none⟩=some (.string nm)/\w.cell? ⟨g,i*7+3,none⟩=some (.pointer iv)/\w.cell? ⟨g,i*7+4,none⟩=some (.pointer vv)/\w.cell? ⟨g,i*7+5,none⟩=some (.slice ta tn tc)/\w.cell? ⟨g,i*7+6,none⟩=some (.slice ea en ec) /\
  (code=1->AskPl w b (.agg #[.int .i64 (code:Int),.int .i64 pos,.string nm,.pointer iv,.pointer vv,.slice ta tn tc,.slice ea en ec]) p0)/\(code≠1->p0=none) /\
  AskX w b (.pointer iv) r1/\AskX w b (.pointer vv) r2/\AskS w b (.slice ta tn tc) r3/\AskS w b (.slice ea en ec) r4/\q=p0.or (r1.or (r2.or (r3.or r4)))
theorem xC {w:World}{b:Nat}{a c d e f g i:Value}{t:TypeId}(h:w.heap[b]?=some (.cells #[a,c,d,e,f,g,i] t (0,0))):w.cell? ⟨b,0,none⟩=some a/\w.cell? ⟨b,1,none⟩=some c/\w.cell? ⟨b,2,none⟩=some d/\w.cell? ⟨b,3,none⟩=some e/\w.cell? ⟨b,4,none⟩=some f/\w.cell? ⟨b,5,none⟩=some g/\w.cell? ⟨b,6,none⟩=some i :=
 ⟨(za h).trans rfl,(za h).trans rfl,(za h).trans rfl,(za h).trans rfl,(za h).trans rfl,(za h).trans rfl,(za h).trans rfl⟩
theorem jR {w:World}{b:Nat}{a:Option Addr}{n c:Nat}{q:Nat->Option (Nat×Nat)}(d:∀i,i<n->St1 w b a i (q i))(hn:n<=9223372036854775807) :
  Calls Tryz.prog 81 #[.slice a n c,finderV b] w (CkP w ((List.range n).findSome? q)):=by
 have HQ:=zh d
 have d4:(n:Int)<=9223372036854775807:=by omega
 clear d
 have X:Hid (∀W v B,AskX w b v B->Below w.heap.size w W->Calls Tryz.prog 113 #[v,.func (.func 114) #[] #[.pointer (some ⟨b,0,none⟩),.pointer (some ⟨b+1,0,none⟩)]] W (CkP W B)):=fun W v B h T=>h W T
 have V:Hid (∀W v B,AskS w b v B->Below w.heap.size w W->Calls Tryz.prog 81 #[v,.func (.func 114) #[] #[.pointer (some ⟨b,0,none⟩),.pointer (some ⟨b+1,0,none⟩)]] W (CkP W B)):=fun W v B h T=>h W T
 have c7:Hid (∀W v B,AskPl w b v B->Below w.heap.size w W->Calls Tryz.prog 112 #[v,.func (.func 114) #[] #[.pointer (some ⟨b,0,none⟩),.pointer (some ⟨b+1,0,none⟩)]] W (CkP W B)):=fun W v B h T=>h W T
 unfold finderV
 go_enter Tryz.func81,Tryz.ntmps81
 go_wp2_with fail
 go_loopg [8] n (fun k vi wr=>∃i:Nat,i<=n/\k=n-i/\vi=.int .i64 (i:Int)/\Hid (Below w.heap.size w wr)/\Hid (∀j,j<i->q j=none))
 case atStart=>exact⟨0,by omega,by omega,rfl,Below.refl _ _,fun j hj=>absurd hj (by omega)⟩
 case round =>
  obtain⟨i,d3,hk,rfl,HB,z⟩:=hrel
  have b9:=HB.out.size
  by_cases C:i<n
  ·have b8:(i:Int)<(n:Int):=by omega
   obtain⟨g,code,pos,nm,iv,vv,ta,ea,tn,tc,en,ec,p0,r1,r2,r3,r4,c8,c9,c0,c1,c2,c3,c4,c5,c6,ap,a6,a1,a2,a3,a4,a8⟩:=(HQ.out i C).out
   subst c8
   have H:∀(o:Nat) (u:Value),w.cell? ⟨g,o,none⟩=some u->wr.cell? ⟨g,o,none⟩=some u:=fun o u h=>(HB.out.cell (p:=⟨g,o,none⟩) c9).trans h
   have a9:=H _ _ c0
   have b0:=H _ _ c1
   have b1:=H _ _ c2
   have b2:=H _ _ c3
   have b3:=H _ _ c4
   have b4:=H _ _ c5
   have b5:=H _ _ c6
   have d2:g<wr.heap.size:=by omega
   obtain⟨G,N⟩:∃G,G=wr.alloc (.cells #[.int .i64 (code:Int),.int .i64 pos,.string nm,.pointer iv,.pointer vv,.slice ta tn tc,.slice ea en ec] 181):=⟨_,rfl⟩
   have I:Hid (Below w.heap.size w G):=by rw[N];exact HB.out.alloc b9 _
   have O:Hid (G.heap[wr.heap.size]?=some (.cells #[.int .i64 (code:Int),.int .i64 pos,.string nm,.pointer iv,.pointer vv,.slice ta tn tc,.slice ea en ec] 181 (0,0))):=by rw[N];exact zo _ _
   have d1:wr.heap.size<G.heap.size:=by rw[N];simp
   have A1:=zh a1
   have A2:=zh a2
   have A3:=zh a3
   have A4:=zh a4
   have A:=zh a8
   clear c0 c1 c2 c3 c4 c5 c6 H a1 a2 a3 a4 a8
   by_cases Z:code=1
   ·have AP:=zh (ap Z)
    have b7:((code:Int)==1)=true:=by simp;omega
    clear ap a6 Z
    go_wp2_with fail
    rw[<-N]
    refine(c7.out G _ _ AP.out I.out).mono ?_
    intro e w2 d
    cases p0 with
    |some er =>
     have r:=zh (CkP.up d I.out)
     have m:Hid ((List.range n).findSome? q=some er):=zO C z.out (by rw[A.out];rfl)
     obtain⟨s,l⟩:=d
     obtain⟨J,t,rfl,x,y⟩:=l.out
     clear s l t x y
     go_wp2_with fail
     refine⟨rfl,?_⟩
     rw[m.out]
     exact r.out
    |none =>
     obtain⟨a7,rfl⟩:=d
     have Y:Hid (Below w.heap.size w w2):=I.out.trans (a7.mono I.out.size)
     have U:Hid (w2.heap[wr.heap.size]?=some (.cells #[.int .i64 (code:Int),.int .i64 pos,.string nm,.pointer iv,.pointer vv,.slice ta tn tc,.slice ea en ec] 181 (0,0))):=(a7.block _ d1).trans O.out
     clear a7 AP a9 b0 b1 b2 b3 b4 b5 N
     have m3:w2.cell? ⟨wr.heap.size,3,none⟩=some (.pointer iv):=(za U.out).trans rfl
     have P:wr.heap.size<w2.heap.size:=zf U.out
     have m0:=(xC U.out).1
     go_wp2_with fail
     refine(X.out w2 _ _ A1.out Y.out).mono ?_
     intro e x1 d
     cases r1 with
     |some er =>
      have r:=zh (CkP.up d Y.out)
      have m:Hid ((List.range n).findSome? q=some er):=zO C z.out (by rw[A.out];rfl)
      obtain⟨s,l⟩:=d
      obtain⟨J,t,rfl,x,y⟩:=l.out
      clear s l t x y
      go_wp2_with fail
      refine⟨rfl,?_⟩
      rw[m.out]
      exact r.out
     |none =>
      obtain⟨f,rfl⟩:=d
      have D:Hid (Below w.heap.size w x1):=Y.out.trans (f.mono Y.out.size)
      have K:=zh ((f.block _ P).trans U.out)
      clear f m3 P m0
      have m4:x1.cell? ⟨wr.heap.size,4,none⟩=some (.pointer vv):=(za K.out).trans rfl
      have Q:wr.heap.size<x1.heap.size:=zf K.out
      go_wp2_with fail
      refine(X.out x1 _ _ A2.out D.out).mono ?_
      intro e x2 d
      cases r2 with
      |some er =>
       have r:=zh (CkP.up d D.out)
       have m:Hid ((List.range n).findSome? q=some er):=zO C z.out (by rw[A.out];rfl)
       obtain⟨s,l⟩:=d
       obtain⟨J,t,rfl,x,y⟩:=l.out
       clear s l t x y
       go_wp2_with fail
       refine⟨rfl,?_⟩
       rw[m.out]
       exact r.out
      |none =>
       obtain⟨f,rfl⟩:=d
       have E:Hid (Below w.heap.size w x2):=D.out.trans (f.mono D.out.size)
       have L:=zh ((f.block _ Q).trans K.out)
       clear f m4 Q
       have m5:x2.cell? ⟨wr.heap.size,5,none⟩=some (.slice ta tn tc):=(za L.out).trans rfl
       have R:wr.heap.size<x2.heap.size:=zf L.out
       go_wp2_with fail
       refine(V.out x2 _ _ A3.out E.out).mono ?_
       intro e x3 d
       cases r3 with
       |some er =>
        have r:=zh (CkP.up d E.out)
        have m:Hid ((List.range n).findSome? q=some er):=zO C z.out (by rw[A.out];rfl)
        obtain⟨s,l⟩:=d
        obtain⟨J,t,rfl,x,y⟩:=l.out
        clear s l t x y
        go_wp2_with fail
        refine⟨rfl,?_⟩
        rw[m.out]
        exact r.out
       |none =>
        obtain⟨f,rfl⟩:=d
        have F:Hid (Below w.heap.size w x3):=E.out.trans (f.mono E.out.size)
        have M:=zh ((f.block _ R).trans L.out)
        clear f m5 R
        have m6:x3.cell? ⟨wr.heap.size,6,none⟩=some (.slice ea en ec):=(za M.out).trans rfl
        have S:wr.heap.size<x3.heap.size:=zf M.out
        go_wp2_with fail
        refine(V.out x3 _ _ A4.out F.out).mono ?_
        intro e x4 d
        cases r4 with
        |some er =>
         have r:=zh (CkP.up d F.out)
         have m:Hid ((List.range n).findSome? q=some er):=zO C z.out (by rw[A.out];rfl)
         obtain⟨s,l⟩:=d
         obtain⟨J,t,rfl,x,y⟩:=l.out
         clear s l t x y
         go_wp2_with fail
         refine⟨rfl,?_⟩
         rw[m.out]
         exact r.out
        |none =>
         obtain⟨f,rfl⟩:=d
         have a0:Hid (Below w.heap.size w x4):=F.out.trans (f.mono F.out.size)
         have b6:=zh ((f.block _ S).trans M.out)
         clear f m6 S
         have a5:Hid (∀j,j<i+1->q j=none):=fun j hj=>by
          rcases Nat.lt_or_ge j i with q|q
          ·exact z.out j q
          ·have:j=i:=by omega
           subst this
           rw[A.out]
           rfl
         go_wp2_with fail
         go_roundg (n-(i+1))
         case measure=>omega
         case rel=>exact⟨i+1,by omega,rfl,by go_num,a0,a5⟩
   ·have d0:=a6 Z
    have b7:((code:Int)==1)=false:=by simp;omega
    subst d0
    clear ap a6 Z
    go_upto_region 3 with fail
    rw[<-N]
    clear a9 b0 b1 b2 b3 b4 b5 N
    have m3:G.cell? ⟨wr.heap.size,3,none⟩=some (.pointer iv):=(za O.out).trans rfl
    have P:wr.heap.size<G.heap.size:=zf O.out
    have m0:=(xC O.out).1
    go_wp2_with fail
    refine(X.out G _ _ A1.out I.out).mono ?_
    intro e x1 d
    cases r1 with
    |some er =>
     have r:=zh (CkP.up d I.out)
     have m:Hid ((List.range n).findSome? q=some er):=zO C z.out (by rw[A.out];rfl)
     obtain⟨s,l⟩:=d
     obtain⟨J,t,rfl,x,y⟩:=l.out
     clear s l t x y
     go_wp2_with fail
     refine⟨rfl,?_⟩
     rw[m.out]
     exact r.out
    |none =>
     obtain⟨f,rfl⟩:=d
     have D:Hid (Below w.heap.size w x1):=I.out.trans (f.mono I.out.size)
     have K:=zh ((f.block _ P).trans O.out)
     clear f m3 P m0
     have m4:x1.cell? ⟨wr.heap.size,4,none⟩=some (.pointer vv):=(za K.out).trans rfl
     have Q:wr.heap.size<x1.heap.size:=zf K.out
     go_wp2_with fail
     refine(X.out x1 _ _ A2.out D.out).mono ?_
     intro e x2 d
     cases r2 with
     |some er =>
      have r:=zh (CkP.up d D.out)
      have m:Hid ((List.range n).findSome? q=some er):=zO C z.out (by rw[A.out];rfl)
      obtain⟨s,l⟩:=d
      obtain⟨J,t,rfl,x,y⟩:=l.out
      clear s l t x y
      go_wp2_with fail
      refine⟨rfl,?_⟩
      rw[m.out]
      exact r.out
     |none =>
      obtain⟨f,rfl⟩:=d
      have E:Hid (Below w.heap.size w x2):=D.out.trans (f.mono D.out.size)
      have L:=zh ((f.block _ Q).trans K.out)
      clear f m4 Q
      have m5:x2.cell? ⟨wr.heap.size,5,none⟩=some (.slice ta tn tc):=(za L.out).trans rfl
      have R:wr.heap.size<x2.heap.size:=zf L.out
      go_wp2_with fail
      refine(V.out x2 _ _ A3.out E.out).mono ?_
      intro e x3 d
      cases r3 with
      |some er =>
       have r:=zh (CkP.up d E.out)
       have m:Hid ((List.range n).findSome? q=some er):=zO C z.out (by rw[A.out];rfl)
       obtain⟨s,l⟩:=d
       obtain⟨J,t,rfl,x,y⟩:=l.out
       clear s l t x y
       go_wp2_with fail
       refine⟨rfl,?_⟩
       rw[m.out]
       exact r.out
      |none =>
       obtain⟨f,rfl⟩:=d
       have F:Hid (Below w.heap.size w x3):=E.out.trans (f.mono E.out.size)
       have M:=zh ((f.block _ R).trans L.out)
       clear f m5 R
       have m6:x3.cell? ⟨wr.heap.size,6,none⟩=some (.slice ea en ec):=(za M.out).trans rfl
       have S:wr.heap.size<x3.heap.size:=zf M.out
       go_wp2_with fail
       refine(V.out x3 _ _ A4.out F.out).mono ?_
       intro e x4 d
       cases r4 with
       |some er =>
        have r:=zh (CkP.up d F.out)
        have m:Hid ((List.range n).findSome? q=some er):=zO C z.out (by rw[A.out];rfl)
        obtain⟨s,l⟩:=d
        obtain⟨J,t,rfl,x,y⟩:=l.out
        clear s l t x y
        go_wp2_with fail
        refine⟨rfl,?_⟩
        rw[m.out]
        exact r.out
       |none =>
        obtain⟨f,rfl⟩:=d
        have a0:Hid (Below w.heap.size w x4):=F.out.trans (f.mono F.out.size)
        have b6:=zh ((f.block _ S).trans M.out)
        clear f m6 S
        have a5:Hid (∀j,j<i+1->q j=none):=fun j hj=>by
         rcases Nat.lt_or_ge j i with q|q
         ·exact z.out j q
         ·have:j=i:=by omega
          subst this
          rw[A.out]
          rfl
        go_wp2_with fail
        go_roundg (n-(i+1))
        case measure=>omega
        case rel=>exact⟨i+1,by omega,rfl,by go_num,a0,a5⟩
  ·have b8:¬(i:Int)<(n:Int):=by omega
   have m:Hid ((List.range n).findSome? q=none):=yq (fun j hj=>z.out j (by omega))
   go_wp2_with fail
   refine bodyPost_end (results_none rfl _ _ _) rfl ⟨HB.out,?_⟩
   rw[m.out]
end Go.Proofs.YtibncofnnlbmcaaGreatDoor
