import Derived.Test.YtibncofnnlbmcaaGreatDoorLMc
set_option maxRecDepth 100000
set_option maxHeartbeats 4000000
namespace Go.Proofs.YtibncofnnlbmcaaGreatDoor
open Go.RowKit Go.Maps
open Tp (Bs Th Sy Seen X S)
abbrev Jd:=Tp.R->Option (Nat×Nat)
def Sm (l:List Tp.R):Prop:=∀r∈l,r.mod.length<=1000000/\r.name.length<=1000000
theorem Sm.sub {l m:List Tp.R}(h:Sm l)(k:∀r∈m,r∈l):Sm m:=fun r a=>h r (k r a)
theorem kT (x:X)(l:List X):Tp.rx (x :: l)=Tp.rx [x]++Tp.rx l:=by
 obtain⟨code,pos,n,m,nm,a,b,ri,c⟩:=x
 simp[Tp.rx]
theorem rx_app (l m:List X):Tp.rx (l++m)=Tp.rx l++Tp.rx m:=by
 induction l with
 |nil=>simp[Tp.rx]
 |cons x l ih=>rw[List.cons_append,kT,ih,kT x l,List.append_assoc]
theorem rx_one (code pos n:Nat)(m nm c:Bs)(b ri a:List X):Tp.rx [⟨code,pos,n,m,nm,c,b,ri,a⟩]=(if code=2\/code=3\/code=6 then [⟨code,pos,m,nm,a.length⟩] else [])++(Tp.rx b++(Tp.rx ri++Tp.rx a)):=by
 simp[Tp.rx]
theorem RepL.step {w w':World}{D:Nat->Prop}{l:List X}{vs:List Value}(h:RepL w D l vs)(k:Below w.heap.size w w'):RepL w' D l vs :=
 RepL.mono (fun b c a=>⟨k.block b a,c⟩) _ _ _ zn h
theorem RepL.get {w:World}{D:Nat->Prop}:∀(l:List X) (vs:List Value),RepL w D l vs->∀i (h:i<l.length),∃b,vs[i]?=some (.pointer (some ⟨b,0,none⟩))/\RepL w D [l[i]] [.pointer (some ⟨b,0,none⟩)]:=by
 intro l
 induction l with
 |nil=>intro vs _ i h;simp at h
 |cons x l ih =>
  intro vs h i z
  obtain⟨code,pos,n,m,nm,r,e,ri,g⟩:=x
  rw[RepL]at h
  obtain⟨b,v,s,rs,u,a,f,A,p,y,q,C,t,o,k,c⟩:=h
  subst f
  cases i with
  |zero =>
   refine⟨b,rfl,?_⟩
   show RepL w D [⟨code,pos,n,m,nm,r,e,ri,g⟩] _
   rw[RepL]
   exact⟨b,v,s,rs,u,[],rfl,A,p,y,q,C,t,o,k,by rw[RepL]⟩
  |succ i =>
   obtain⟨j,d,B⟩:=ih a c i (by simpa using z)
   exact⟨j,by simpa using d,by simpa using B⟩
theorem kO (w:World)(b:Nat):Calls Tryz.prog 113 #[.pointer none,finderV b] w (CkP w none):=by
 unfold finderV
 go_enter Tryz.func113,Tryz.ntmps113
 go_wp2_with fail
 exact bodyPost_end (results_none rfl _ _ _) rfl ⟨Below.refl _ _,rfl⟩
theorem yq {n:Nat}{f:Nat->Option (Nat×Nat)}(h:∀j,j<n->f j=none):(List.range n).findSome? f=none:=by
 rw[List.findSome?_eq_none_iff]
 intro j a
 exact h j (List.mem_range.1 a)
theorem zO {n i:Nat}{f:Nat->Option (Nat×Nat)}{x:Nat×Nat}(a:i<n)(h:∀j,j<i->f j=none)(c:f i=some x):(List.range n).findSome? f=some x:=by
 have e:List.range n=List.range i++i :: (List.range n).drop (i+1):=by
  have g:(List.range n)[i]?=some i:=by simp[a]
  have b:(List.range n).take i=List.range i:=by rw[List.take_range];congr 1;omega
  rw[<-b]
  obtain⟨d,e⟩:=List.getElem?_eq_some_iff.1 g
  conv=>lhs;rw[<-List.take_append_drop i (List.range n),List.drop_eq_getElem_cons d,e]
 rw[e,List.findSome?_append,yq h,List.findSome?_cons,c]
 rfl
def AskX (w:World) (b:Nat) (v:Value) (res:Option (Nat×Nat)):Prop:=∀W,Below w.heap.size w W->Calls Tryz.prog 113 #[v,finderV b] W (CkP W res)
theorem jQ {w:World}{b x code:Nat}{pos n:Int}{md nm op:ByteArray}{lv rv aa:Option Addr}{d ac:Nat}(a7:w.heap[x]?=some (.cells #[.int .i64 (code:Int),.int .i64 pos,.int .i64 n,.string md,.string nm,.string op,.pointer lv,.pointer rv,.slice aa d ac] 216 (0,0)))
  {r0 r1 r2:Option (Nat×Nat)}{ra:Nat->Option (Nat×Nat)}
  (hR:(code=2\/code=3\/code=6)->Calls Tryz.prog 146 #[.pointer (some ⟨x,0,none⟩),finderV b] w (CkP w r0))(a6:¬(code=2\/code=3\/code=6)->r0=none)
  (hL:AskX w b (.pointer lv) r1)(b6:AskX w b (.pointer rv) r2)
  (hA:∀i,i<d->∃g y,aa=some ⟨g,0,none⟩/\g<w.heap.size/\w.cell? ⟨g,i,none⟩=some (.pointer (some ⟨y,0,none⟩))/\AskX w b (.pointer (some ⟨y,0,none⟩)) (ra i))(c0:d<=9223372036854775807){b7:Option (Nat×Nat)}(b5:b7=r0.or (r1.or (r2.or ((List.range d).findSome? ra)))) :
  Calls Tryz.prog 113 #[.pointer (some ⟨x,0,none⟩),finderV b] w (CkP w b7):=by
 have F:=zf a7
 have G:=zh a7
 have HL:=zh hL
 have a8:=zh b6
 have HA:=zh hA
 have v:=zh b5
 have b9:(d:Int)<=9223372036854775807:=by omega
 have k0:w.cell? ⟨x,0,none⟩=some (.int .i64 (code:Int)):=(za a7).trans rfl
 clear a7 hL b6 hA b5
 rcases(show code=2\/code=3\/code=6\/¬(code=2\/code=3\/code=6) by omega) with hcd|hcd|hcd|hcd
 ·have P:=zh (hR (by omega))
  subst hcd
  clear hR a6
  unfold finderV at *
  go_enter Tryz.func113,Tryz.ntmps113
  go_wp2_with fail
  refine P.out.mono ?_
  intro e W a
  cases r0 with
  |some er =>
   have m:=zh a
   obtain⟨l,c⟩:=a
   obtain⟨E,h,rfl,f,o⟩:=c.out
   clear l c h f o k0 P
   go_wp2_with fail
   refine⟨rfl,?_⟩
   rw[v.out]
   exact m.out
  |none =>
   obtain⟨X,rfl⟩:=a
   have u:=zh X
   clear X k0 P
   have Z:=u.out.size
   have S:=(u.out.block x F).trans G.out
   have Q:W.cell? ⟨x,6,none⟩=some (.pointer lv):=(za S).trans rfl
   have b2:x<W.heap.size:=by omega
   have O:=zh (HL.out W u.out)
   clear S
   go_wp2_with fail
   refine O.out.mono ?_
   intro e w2 a
   cases r1 with
   |some er =>
    have m:=zh (CkP.up a u.out)
    obtain⟨l,c⟩:=a
    obtain⟨E,h,rfl,f,o⟩:=c.out
    clear l c h f o Q
    go_wp2_with fail
    refine⟨rfl,?_⟩
    rw[v.out]
    exact m.out
   |none =>
    obtain⟨J,rfl⟩:=a
    have t:Hid (Below w.heap.size w w2):=u.out.trans (J.mono Z)
    have a0:=t.out.size
    have T:=(t.out.block x F).trans G.out
    have U:w2.cell? ⟨x,7,none⟩=some (.pointer rv):=(za T).trans rfl
    have b4:x<w2.heap.size:=by omega
    have M:=zh (a8.out w2 t.out)
    clear T J Q O
    go_wp2_with fail
    refine M.out.mono ?_
    intro e B a
    cases r2 with
    |some er =>
     have m:=zh (CkP.up a t.out)
     obtain⟨l,c⟩:=a
     obtain⟨E,h,rfl,f,o⟩:=c.out
     clear l c h f o U
     go_wp2_with fail
     refine⟨rfl,?_⟩
     rw[v.out]
     exact m.out
    |none =>
     obtain⟨L,rfl⟩:=a
     have z:Hid (Below w.heap.size w B):=t.out.trans (L.mono a0)
     have a9:=z.out.size
     have V:=(z.out.block x F).trans G.out
     have k8:B.cell? ⟨x,8,none⟩=some (.slice aa d ac):=(za V).trans rfl
     have b1:x<B.heap.size:=by omega
     clear V L U M
     go_wp2_with fail
     go_loopg [47] d (fun k vi wr=>∃i:Nat,i<=d/\k=d-i/\vi=.int .i64 (i:Int)/\Hid (Below w.heap.size w wr)/\Hid (∀j,j<i->ra j=none))
     case atStart=>exact⟨0,by omega,by omega,rfl,z,fun j D=>absurd D (by omega)⟩
     case round =>
      obtain⟨i,b3,hk,rfl,s,C⟩:=hrel
      have Y:=s.out.size
      by_cases I:i<d
      ·have a1:(i:Int)<(d:Int):=by omega
       obtain⟨g,y,a2,a3,N,H⟩:=HA.out i I
       have kc:wr.cell? ⟨g,i,none⟩=some (.pointer (some ⟨y,0,none⟩)):=(s.out.cell (p:=⟨g,i,none⟩) a3).trans N
       have b0:g<wr.heap.size:=by omega
       subst a2
       have R:=zh (H wr s.out)
       clear N H
       go_wp2_with fail
       refine R.out.mono ?_
       intro e w4 a
       cases r:ra i with
       |some er =>
        rw[r]at a
        have m:=zh (CkP.up a s.out)
        have A:=zh (zO I C.out r)
        obtain⟨l,c⟩:=a
        obtain⟨E,h,rfl,f,o⟩:=c.out
        clear l c h f o r
        go_wp2_with fail
        refine⟨rfl,?_⟩
        rw[v.out,A.out]
        exact m.out
       |none =>
        rw[r]at a
        obtain⟨K,rfl⟩:=a
        have a4:Hid (Below w.heap.size w w4):=s.out.trans (K.mono Y)
        have a5:Hid (∀j,j<i+1->ra j=none):=fun j D=>by
         rcases Nat.lt_or_ge j i with q|q
         ·exact C.out j q
         ·have:j=i:=by omega
          subst this
          exact r
        clear K r R
        go_wp2_with fail
        go_roundg (d-(i+1))
        case measure=>omega
        case rel=>exact⟨i+1,by omega,rfl,by go_num,a4,a5⟩
      ·have a1:¬(i:Int)<(d:Int):=by omega
       have A:Hid ((List.range d).findSome? ra=none):=yq (fun j D=>C.out j (by omega))
       go_wp2_with fail
       refine bodyPost_end (results_none rfl _ _ _) rfl ⟨s.out,?_⟩
       rw[v.out,A.out]
       rfl
 ·have P:=zh (hR (by omega))
  subst hcd
  clear hR a6
  unfold finderV at *
  go_enter Tryz.func113,Tryz.ntmps113
  go_wp2_with fail
  refine P.out.mono ?_
  intro e W a
  cases r0 with
  |some er =>
   have m:=zh a
   obtain⟨l,c⟩:=a
   obtain⟨E,h,rfl,f,o⟩:=c.out
   clear l c h f o k0 P
   go_wp2_with fail
   refine⟨rfl,?_⟩
   rw[v.out]
   exact m.out
  |none =>
   obtain⟨X,rfl⟩:=a
   have u:=zh X
   clear X k0 P
   have Z:=u.out.size
   have S:=(u.out.block x F).trans G.out
   have Q:W.cell? ⟨x,6,none⟩=some (.pointer lv):=(za S).trans rfl
   have b2:x<W.heap.size:=by omega
   have O:=zh (HL.out W u.out)
   clear S
   go_wp2_with fail
   refine O.out.mono ?_
   intro e w2 a
   cases r1 with
   |some er =>
    have m:=zh (CkP.up a u.out)
    obtain⟨l,c⟩:=a
    obtain⟨E,h,rfl,f,o⟩:=c.out
    clear l c h f o Q
    go_wp2_with fail
    refine⟨rfl,?_⟩
    rw[v.out]
    exact m.out
   |none =>
    obtain⟨J,rfl⟩:=a
    have t:Hid (Below w.heap.size w w2):=u.out.trans (J.mono Z)
    have a0:=t.out.size
    have T:=(t.out.block x F).trans G.out
    have U:w2.cell? ⟨x,7,none⟩=some (.pointer rv):=(za T).trans rfl
    have b4:x<w2.heap.size:=by omega
    have M:=zh (a8.out w2 t.out)
    clear T J Q O
    go_wp2_with fail
    refine M.out.mono ?_
    intro e B a
    cases r2 with
    |some er =>
     have m:=zh (CkP.up a t.out)
     obtain⟨l,c⟩:=a
     obtain⟨E,h,rfl,f,o⟩:=c.out
     clear l c h f o U
     go_wp2_with fail
     refine⟨rfl,?_⟩
     rw[v.out]
     exact m.out
    |none =>
     obtain⟨L,rfl⟩:=a
     have z:Hid (Below w.heap.size w B):=t.out.trans (L.mono a0)
     have a9:=z.out.size
     have V:=(z.out.block x F).trans G.out
     have k8:B.cell? ⟨x,8,none⟩=some (.slice aa d ac):=(za V).trans rfl
     have b1:x<B.heap.size:=by omega
     clear V L U M
     go_wp2_with fail
     go_loopg [47] d (fun k vi wr=>∃i:Nat,i<=d/\k=d-i/\vi=.int .i64 (i:Int)/\Hid (Below w.heap.size w wr)/\Hid (∀j,j<i->ra j=none))
     case atStart=>exact⟨0,by omega,by omega,rfl,z,fun j D=>absurd D (by omega)⟩
     case round =>
      obtain⟨i,b3,hk,rfl,s,C⟩:=hrel
      have Y:=s.out.size
      by_cases I:i<d
      ·have a1:(i:Int)<(d:Int):=by omega
       obtain⟨g,y,a2,a3,N,H⟩:=HA.out i I
       have kc:wr.cell? ⟨g,i,none⟩=some (.pointer (some ⟨y,0,none⟩)):=(s.out.cell (p:=⟨g,i,none⟩) a3).trans N
       have b0:g<wr.heap.size:=by omega
       subst a2
       have R:=zh (H wr s.out)
       clear N H
       go_wp2_with fail
       refine R.out.mono ?_
       intro e w4 a
       cases r:ra i with
       |some er =>
        rw[r]at a
        have m:=zh (CkP.up a s.out)
        have A:=zh (zO I C.out r)
        obtain⟨l,c⟩:=a
        obtain⟨E,h,rfl,f,o⟩:=c.out
        clear l c h f o r
        go_wp2_with fail
        refine⟨rfl,?_⟩
        rw[v.out,A.out]
        exact m.out
       |none =>
        rw[r]at a
        obtain⟨K,rfl⟩:=a
        have a4:Hid (Below w.heap.size w w4):=s.out.trans (K.mono Y)
        have a5:Hid (∀j,j<i+1->ra j=none):=fun j D=>by
         rcases Nat.lt_or_ge j i with q|q
         ·exact C.out j q
         ·have:j=i:=by omega
          subst this
          exact r
        clear K r R
        go_wp2_with fail
        go_roundg (d-(i+1))
        case measure=>omega
        case rel=>exact⟨i+1,by omega,rfl,by go_num,a4,a5⟩
      ·have a1:¬(i:Int)<(d:Int):=by omega
       have A:Hid ((List.range d).findSome? ra=none):=yq (fun j D=>C.out j (by omega))
       go_wp2_with fail
       refine bodyPost_end (results_none rfl _ _ _) rfl ⟨s.out,?_⟩
       rw[v.out,A.out]
       rfl
 ·have P:=zh (hR (by omega))
  subst hcd
  clear hR a6
  unfold finderV at *
  go_enter Tryz.func113,Tryz.ntmps113
  go_wp2_with fail
  refine P.out.mono ?_
  intro e W a
  cases r0 with
  |some er =>
   have m:=zh a
   obtain⟨l,c⟩:=a
   obtain⟨E,h,rfl,f,o⟩:=c.out
   clear l c h f o k0 P
   go_wp2_with fail
   refine⟨rfl,?_⟩
   rw[v.out]
   exact m.out
  |none =>
   obtain⟨X,rfl⟩:=a
   have u:=zh X
   clear X k0 P
   have Z:=u.out.size
   have S:=(u.out.block x F).trans G.out
   have Q:W.cell? ⟨x,6,none⟩=some (.pointer lv):=(za S).trans rfl
   have b2:x<W.heap.size:=by omega
   have O:=zh (HL.out W u.out)
   clear S
   go_wp2_with fail
   refine O.out.mono ?_
   intro e w2 a
   cases r1 with
   |some er =>
    have m:=zh (CkP.up a u.out)
    obtain⟨l,c⟩:=a
    obtain⟨E,h,rfl,f,o⟩:=c.out
    clear l c h f o Q
    go_wp2_with fail
    refine⟨rfl,?_⟩
    rw[v.out]
    exact m.out
   |none =>
    obtain⟨J,rfl⟩:=a
    have t:Hid (Below w.heap.size w w2):=u.out.trans (J.mono Z)
    have a0:=t.out.size
    have T:=(t.out.block x F).trans G.out
    have U:w2.cell? ⟨x,7,none⟩=some (.pointer rv):=(za T).trans rfl
    have b4:x<w2.heap.size:=by omega
    have M:=zh (a8.out w2 t.out)
    clear T J Q O
    go_wp2_with fail
    refine M.out.mono ?_
    intro e B a
    cases r2 with
    |some er =>
     have m:=zh (CkP.up a t.out)
     obtain⟨l,c⟩:=a
     obtain⟨E,h,rfl,f,o⟩:=c.out
     clear l c h f o U
     go_wp2_with fail
     refine⟨rfl,?_⟩
     rw[v.out]
     exact m.out
    |none =>
     obtain⟨L,rfl⟩:=a
     have z:Hid (Below w.heap.size w B):=t.out.trans (L.mono a0)
     have a9:=z.out.size
     have V:=(z.out.block x F).trans G.out
     have k8:B.cell? ⟨x,8,none⟩=some (.slice aa d ac):=(za V).trans rfl
     have b1:x<B.heap.size:=by omega
     clear V L U M
     go_wp2_with fail
     go_loopg [47] d (fun k vi wr=>∃i:Nat,i<=d/\k=d-i/\vi=.int .i64 (i:Int)/\Hid (Below w.heap.size w wr)/\Hid (∀j,j<i->ra j=none))
     case atStart=>exact⟨0,by omega,by omega,rfl,z,fun j D=>absurd D (by omega)⟩
     case round =>
      obtain⟨i,b3,hk,rfl,s,C⟩:=hrel
      have Y:=s.out.size
      by_cases I:i<d
      ·have a1:(i:Int)<(d:Int):=by omega
       obtain⟨g,y,a2,a3,N,H⟩:=HA.out i I
       have kc:wr.cell? ⟨g,i,none⟩=some (.pointer (some ⟨y,0,none⟩)):=(s.out.cell (p:=⟨g,i,none⟩) a3).trans N
       have b0:g<wr.heap.size:=by omega
       subst a2
       have R:=zh (H wr s.out)
       clear N H
       go_wp2_with fail
       refine R.out.mono ?_
       intro e w4 a
       cases r:ra i with
       |some er =>
        rw[r]at a
        have m:=zh (CkP.up a s.out)
        have A:=zh (zO I C.out r)
        obtain⟨l,c⟩:=a
        obtain⟨E,h,rfl,f,o⟩:=c.out
        clear l c h f o r
        go_wp2_with fail
        refine⟨rfl,?_⟩
        rw[v.out,A.out]
        exact m.out
       |none =>
        rw[r]at a
        obtain⟨K,rfl⟩:=a
        have a4:Hid (Below w.heap.size w w4):=s.out.trans (K.mono Y)
        have a5:Hid (∀j,j<i+1->ra j=none):=fun j D=>by
         rcases Nat.lt_or_ge j i with q|q
         ·exact C.out j q
         ·have:j=i:=by omega
          subst this
          exact r
        clear K r R
        go_wp2_with fail
        go_roundg (d-(i+1))
        case measure=>omega
        case rel=>exact⟨i+1,by omega,rfl,by go_num,a4,a5⟩
      ·have a1:¬(i:Int)<(d:Int):=by omega
       have A:Hid ((List.range d).findSome? ra=none):=yq (fun j D=>C.out j (by omega))
       go_wp2_with fail
       refine bodyPost_end (results_none rfl _ _ _) rfl ⟨s.out,?_⟩
       rw[v.out,A.out]
       rfl
 ·have b8:=a6 hcd
  have h2:((code:Int)==2)=false:=by simp;omega
  have h3:((code:Int)==3)=false:=by simp;omega
  have h6:((code:Int)==6)=false:=by simp;omega
  subst b8
  have u:Hid (Below w.heap.size w w):=Below.refl _ _
  clear hR a6 hcd
  unfold finderV at *
  go_enter Tryz.func113,Tryz.ntmps113
  have Z:=u.out.size
  have S:=(u.out.block x F).trans G.out
  have Q:w.cell? ⟨x,6,none⟩=some (.pointer lv):=(za S).trans rfl
  have b2:x<w.heap.size:=by omega
  have O:=zh (HL.out w u.out)
  clear S
  go_wp2_with fail
  refine O.out.mono ?_
  intro e w2 a
  cases r1 with
  |some er =>
   have m:=zh (CkP.up a u.out)
   obtain⟨l,c⟩:=a
   obtain⟨E,h,rfl,f,o⟩:=c.out
   clear l c h f o Q
   go_wp2_with fail
   refine⟨rfl,?_⟩
   rw[v.out]
   exact m.out
  |none =>
   obtain⟨J,rfl⟩:=a
   have t:Hid (Below w.heap.size w w2):=u.out.trans (J.mono Z)
   have a0:=t.out.size
   have T:=(t.out.block x F).trans G.out
   have U:w2.cell? ⟨x,7,none⟩=some (.pointer rv):=(za T).trans rfl
   have b4:x<w2.heap.size:=by omega
   have M:=zh (a8.out w2 t.out)
   clear T J Q O
   go_wp2_with fail
   refine M.out.mono ?_
   intro e B a
   cases r2 with
   |some er =>
    have m:=zh (CkP.up a t.out)
    obtain⟨l,c⟩:=a
    obtain⟨E,h,rfl,f,o⟩:=c.out
    clear l c h f o U
    go_wp2_with fail
    refine⟨rfl,?_⟩
    rw[v.out]
    exact m.out
   |none =>
    obtain⟨L,rfl⟩:=a
    have z:Hid (Below w.heap.size w B):=t.out.trans (L.mono a0)
    have a9:=z.out.size
    have V:=(z.out.block x F).trans G.out
    have k8:B.cell? ⟨x,8,none⟩=some (.slice aa d ac):=(za V).trans rfl
    have b1:x<B.heap.size:=by omega
    clear V L U M
    go_wp2_with fail
    go_loopg [47] d (fun k vi wr=>∃i:Nat,i<=d/\k=d-i/\vi=.int .i64 (i:Int)/\Hid (Below w.heap.size w wr)/\Hid (∀j,j<i->ra j=none))
    case atStart=>exact⟨0,by omega,by omega,rfl,z,fun j D=>absurd D (by omega)⟩
    case round =>
     obtain⟨i,b3,hk,rfl,s,C⟩:=hrel
     have Y:=s.out.size
     by_cases I:i<d
     ·have a1:(i:Int)<(d:Int):=by omega
      obtain⟨g,y,a2,a3,N,H⟩:=HA.out i I
      have kc:wr.cell? ⟨g,i,none⟩=some (.pointer (some ⟨y,0,none⟩)):=(s.out.cell (p:=⟨g,i,none⟩) a3).trans N
      have b0:g<wr.heap.size:=by omega
      subst a2
      have R:=zh (H wr s.out)
      clear N H
      go_wp2_with fail
      refine R.out.mono ?_
      intro e w4 a
      cases r:ra i with
      |some er =>
       rw[r]at a
       have m:=zh (CkP.up a s.out)
       have A:=zh (zO I C.out r)
       obtain⟨l,c⟩:=a
       obtain⟨E,h,rfl,f,o⟩:=c.out
       clear l c h f o r
       go_wp2_with fail
       refine⟨rfl,?_⟩
       rw[v.out,A.out]
       exact m.out
      |none =>
       rw[r]at a
       obtain⟨K,rfl⟩:=a
       have a4:Hid (Below w.heap.size w w4):=s.out.trans (K.mono Y)
       have a5:Hid (∀j,j<i+1->ra j=none):=fun j D=>by
        rcases Nat.lt_or_ge j i with q|q
        ·exact C.out j q
        ·have:j=i:=by omega
         subst this
         exact r
       clear K r R
       go_wp2_with fail
       go_roundg (d-(i+1))
       case measure=>omega
       case rel=>exact⟨i+1,by omega,rfl,by go_num,a4,a5⟩
     ·have a1:¬(i:Int)<(d:Int):=by omega
      have A:Hid ((List.range d).findSome? ra=none):=yq (fun j D=>C.out j (by omega))
      go_wp2_with fail
      refine bodyPost_end (results_none rfl _ _ _) rfl ⟨s.out,?_⟩
      rw[v.out,A.out]
      rfl
theorem find_range (J:Jd):∀(a:List X),(List.range a.length).findSome? (fun i=>(a[i]?).bind fun y=>(Tp.rx [y]).findSome? J)=(Tp.rx a).findSome? J:=by
 intro a
 induction a with
 |nil=>simp[Tp.rx]
 |cons x l ih =>
  rw[kT,List.findSome?_append,<-ih,List.length_cons,List.range_succ_eq_map,List.findSome?_cons,List.findSome?_map]
  have b:((fun i=>((x :: l)[i]?).bind fun y=>(Tp.rx [y]).findSome? J) ∘ Nat.succ)=fun i=>(l[i]?).bind fun y=>(Tp.rx [y]).findSome? J:=by
   funext i
   simp
  rw[b]
  simp only[List.getElem?_cons_zero,Option.bind_some]
  cases (Tp.rx [x]).findSome? J<;>rfl
theorem xP {H:World}{b:Nat}{Sn:Seen}{fs:Near}(hF:Fnd H b Sn fs)(a5:fs.length<=1000):∀(n:Nat) (x:X),SizeOf.sizeOf x<=n->Sm (Tp.rx [x])->∀(w:World) (D:Nat->Prop) (L:Nat),Below H.heap.size H w->RepL w D [x] [.pointer (some ⟨L,0,none⟩)] ->
  Calls Tryz.prog 113 #[.pointer (some ⟨L,0,none⟩),finderV b] w (CkP w ((Tp.rx [x]).findSome? (Tp.judgeP (Tp.standV Sn fs)))):=by
 intro n
 induction n with
 |zero=>intro x I;cases x;simp at I
 |succ n ih =>
  intro x I J w D L B h
  obtain⟨code,pos,s,md,nm,u,k,ri,c⟩:=x
  simp at I
  have h0:=h
  rw[RepL]at h
  obtain⟨b',av,ls,rs,gs,b2,h1,h2,E,V,h5,Y,h7,S,h9,_⟩:=h
  injection h1 with h1a _
  injection h1a with h1b
  injection h1b with h1c
  injection h1c with h1d
  subst h1d
  have b1:=RepL.len _ _ V
  have b0:=RepL.len _ _ Y
  have O:=RepL.len _ _ S
  have q:=rx_one code pos s md nm u k ri c
  have M:∀(l:List X) (vs:List Value),SizeOf.sizeOf l<=n->(∀r∈Tp.rx l,r∈Tp.rx [(⟨code,pos,s,md,nm,u,k,ri,c⟩:X)])->RepL w D l vs->vs.length<=1->(∃a,vs.headD (.pointer none)=.pointer a)/\AskX w b (vs.headD (.pointer none)) ((Tp.rx l).findSome? (Tp.judgeP (Tp.standV Sn fs))):=by
   intro l vs hl a0 d a9
   have N:=RepL.len _ _ d
   match l,vs,d with
   |[],vs,d =>
    rw[RepL]at d
    subst d
    refine⟨⟨none,rfl⟩,fun W p=>?_⟩
    have:(Tp.rx []).findSome? (Tp.judgeP (Tp.standV Sn fs))=none:=by simp[Tp.rx]
    rw[this]
    exact kO W b
   |[y],vs,d =>
    obtain⟨C,j,A⟩:=RepL.get _ _ d 0 (by simp)
    have hv:vs=[.pointer (some ⟨C,0,none⟩)]:=by
     match vs,a9,N with
     |[v],_,_=>simp at j;rw[j]
    subst hv
    refine⟨⟨_,rfl⟩,fun W p=>?_⟩
    have G:SizeOf.sizeOf y<=n:=by simp at hl;omega
    exact ih y G (J.sub a0) W D C (B.trans (p.mono B.size)) (d.step p)
   |y :: z :: t,vs,d=>simp at N;omega
  have a1:∀r∈Tp.rx k,r∈Tp.rx [(⟨code,pos,s,md,nm,u,k,ri,c⟩:X)]:=fun r m=>by rw[q];simp[m]
  have a2:∀r∈Tp.rx ri,r∈Tp.rx [(⟨code,pos,s,md,nm,u,k,ri,c⟩:X)]:=fun r m=>by rw[q];simp[m]
  have a3:∀r∈Tp.rx c,r∈Tp.rx [(⟨code,pos,s,md,nm,u,k,ri,c⟩:X)]:=fun r m=>by rw[q];simp[m]
  obtain⟨⟨lv,a6⟩,T⟩:=M k ls (by omega) a1 V h5
  obtain⟨⟨rv,a7⟩,Q⟩:=M ri rs (by omega) a2 Y h7
  rw[a6]at E T
  rw[a7]at E Q
  have a4:∃K ac,av=.slice K c.length ac/\c.length<=9223372036854775807/\∀i,i<c.length->∃g,K=some ⟨g,0,none⟩/\g<w.heap.size/\w.cell? ⟨g,i,none⟩=gs[i]?:=by
   rcases h9 with⟨j,A⟩|⟨g,cap,cur,j,A,F,R,U,q6,q7⟩
   ·have:c.length=0:=by rw[<-O,j];rfl
    exact⟨none,0,by rw[this];exact A,by omega,fun i o=>by omega⟩
   ·refine⟨_,cap,by rw[<-O];exact j,?_,fun i o=>⟨g,rfl,zf F,?_⟩⟩
    ·have:maxLen=9223372036854775807:=rfl
     omega
    ·rw[za F,<-Array.getElem?_toList,<-q7,List.getElem?_take_of_lt (by omega)]
  obtain⟨K,ac,rfl,a8,Z⟩:=a4
  ·refine jQ (r0:=if code=2\/code=3\/code=6 then Tp.judgeP (Tp.standV Sn fs) ⟨code,pos,md,nm,c.length⟩ else none) (ra:=fun i=>(c[i]?).bind fun y=>(Tp.rx [y]).findSome? (Tp.judgeP (Tp.standV Sn fs))) E ?_ (fun f=>if_neg f) T Q ?_ a8 ?_
   ·intro f
    rw[if_pos f]
    have P:=J ⟨code,pos,md,nm,c.length⟩ (by rw[q,if_pos f];simp)
    exact kN (r:=⟨code,pos,md,nm,c.length⟩) (hF.on B) a5 ⟨_,_,_,_,_,_,E⟩ P.1 P.2 (by simp only;omega)
   ·intro i o
    obtain⟨g,j,A,F⟩:=Z i o
    obtain⟨C,R,U⟩:=RepL.get _ _ S i o
    refine⟨g,C,j,A,F.trans R,fun W p=>?_⟩
    simp only[List.getElem?_eq_getElem o,Option.bind_some]
    have G:SizeOf.sizeOf c[i]<=n:=by
     have:=List.sizeOf_lt_of_mem (List.getElem_mem o)
     omega
    refine ih c[i] G (J.sub fun r m=>a3 r ?_) W D C (B.trans (p.mono B.size)) (U.step p)
    have e:c=c.take i++c[i] :: c.drop (i+1):=by rw[<-List.drop_eq_getElem_cons o,List.take_append_drop]
    rw[e,rx_app,kT]
    simp[m]
   ·rw[find_range,q,List.findSome?_append,List.findSome?_append,List.findSome?_append]
    congr 1
    by_cases f:code=2\/code=3\/code=6
    ·rw[if_pos f,if_pos f,List.findSome?_cons]
     cases Tp.judgeP (Tp.standV Sn fs) ⟨code,pos,md,nm,c.length⟩<;>rfl
    ·rw[if_neg f,if_neg f];rfl
def AskS (w:World) (b:Nat) (v:Value) (res:Option (Nat×Nat)):Prop:=∀W,Below w.heap.size w W->Calls Tryz.prog 81 #[v,finderV b] W (CkP W res)
def AskPl (w:World) (b:Nat) (v:Value) (res:Option (Nat×Nat)):Prop:=∀W,Below w.heap.size w W->Calls Tryz.prog 112 #[v,finderV b] W (CkP W res)
structure St1 (w:World) (b:Nat) (a:Option Addr) (i:Nat) (q:Option (Nat×Nat)):Prop where
 out:∃(g code:Nat) (pos:Int) (nm:ByteArray) (iv vv ta ea:Option Addr) (tn tc en ec:Nat) (p0 r1 r2 r3 r4:Option (Nat×Nat)),a=some ⟨g,0,none⟩/\g<w.heap.size /\
  w.cell? ⟨g,i*7,none⟩=some (.int .i64 (code:Int))/\w.cell? ⟨g,i*7+1,none⟩=some (.int .i64 pos)/\w.cell? ⟨g,i*7+2,none⟩=some (.string nm)/\w.cell? ⟨g,i*7+3,none⟩=some (.pointer iv)/\w.cell? ⟨g,i*7+4,none⟩=some (.pointer vv)/\w.cell? ⟨g,i*7+5,none⟩=some (.slice ta tn tc)/\w.cell? ⟨g,i*7+6,none⟩=some (.slice ea en ec) /\
  (code=1->AskPl w b (.agg #[.int .i64 (code:Int),.int .i64 pos,.string nm,.pointer iv,.pointer vv,.slice ta tn tc,.slice ea en ec]) p0)/\(code≠1->p0=none) /\
  AskX w b (.pointer iv) r1/\AskX w b (.pointer vv) r2/\AskS w b (.slice ta tn tc) r3/\AskS w b (.slice ea en ec) r4/\q=p0.or (r1.or (r2.or (r3.or r4)))
theorem xy {w:World}{b:Nat}{d c f e g i a:Value}{t:TypeId}(h:w.heap[b]?=some (.cells #[d,c,f,e,g,i,a] t (0,0))):w.cell? ⟨b,0,none⟩=some d/\w.cell? ⟨b,1,none⟩=some c/\w.cell? ⟨b,2,none⟩=some f/\w.cell? ⟨b,3,none⟩=some e/\w.cell? ⟨b,4,none⟩=some g/\w.cell? ⟨b,5,none⟩=some i/\w.cell? ⟨b,6,none⟩=some a :=
 ⟨(za h).trans rfl,(za h).trans rfl,(za h).trans rfl,(za h).trans rfl,(za h).trans rfl,(za h).trans rfl,(za h).trans rfl⟩
theorem jJ {w:World}{b:Nat}{a:Option Addr}{n c:Nat}{q:Nat->Option (Nat×Nat)}(d:∀i,i<n->St1 w b a i (q i))(hn:n<=9223372036854775807) :
  Calls Tryz.prog 81 #[.slice a n c,finderV b] w (CkP w ((List.range n).findSome? q)):=by
 have HQ:=zh d
 have d4:(n:Int)<=9223372036854775807:=by omega
 clear d
 have V:Hid (∀W v B,AskX w b v B->Below w.heap.size w W->Calls Tryz.prog 113 #[v,.func (.func 114) #[] #[.pointer (some ⟨b,0,none⟩),.pointer (some ⟨b+1,0,none⟩)]] W (CkP W B)):=fun W v B h T=>h W T
 have Z:Hid (∀W v B,AskS w b v B->Below w.heap.size w W->Calls Tryz.prog 81 #[v,.func (.func 114) #[] #[.pointer (some ⟨b,0,none⟩),.pointer (some ⟨b+1,0,none⟩)]] W (CkP W B)):=fun W v B h T=>h W T
 have c9:Hid (∀W v B,AskPl w b v B->Below w.heap.size w W->Calls Tryz.prog 112 #[v,.func (.func 114) #[] #[.pointer (some ⟨b,0,none⟩),.pointer (some ⟨b+1,0,none⟩)]] W (CkP W B)):=fun W v B h T=>h W T
 unfold finderV
 go_enter Tryz.func81,Tryz.ntmps81
 go_wp2_with fail
 go_loopg [8] n (fun k vi wr=>∃i:Nat,i<=n/\k=n-i/\vi=.int .i64 (i:Int)/\Hid (Below w.heap.size w wr)/\Hid (∀j,j<i->q j=none))
 case atStart=>exact⟨0,by omega,by omega,rfl,Below.refl _ _,fun j hj=>absurd hj (by omega)⟩
 case round =>
  obtain⟨i,d3,hk,rfl,HB,z⟩:=hrel
  have b7:=HB.out.size
  by_cases C:i<n
  ·have b8:(i:Int)<(n:Int):=by omega
   obtain⟨g,code,pos,nm,iv,vv,ta,ea,tn,tc,en,ec,p0,r1,r2,r3,r4,c8,d0,c0,c1,c2,c3,c4,c5,c6,ap,a6,a1,a2,a3,a4,b0⟩:=(HQ.out i C).out
   subst c8
   have H:∀(o:Nat) (u:Value),w.cell? ⟨g,o,none⟩=some u->wr.cell? ⟨g,o,none⟩=some u:=fun o u h=>(HB.out.cell (p:=⟨g,o,none⟩) d0).trans h
   have b1:=H _ _ c0
   have b2:=H _ _ c1
   have b3:=H _ _ c2
   have b5:=H _ _ c3
   have a8:=H _ _ c4
   have b4:=H _ _ c5
   have a9:=H _ _ c6
   have d2:g<wr.heap.size:=by omega
   obtain⟨G,N⟩:∃G,G=wr.alloc (.cells #[.int .i64 (code:Int),.int .i64 pos,.string nm,.pointer iv,.pointer vv,.slice ta tn tc,.slice ea en ec] 181):=⟨_,rfl⟩
   have I:Hid (Below w.heap.size w G):=by rw[N];exact HB.out.alloc b7 _
   have R:Hid (G.heap[wr.heap.size]?=some (.cells #[.int .i64 (code:Int),.int .i64 pos,.string nm,.pointer iv,.pointer vv,.slice ta tn tc,.slice ea en ec] 181 (0,0))):=by rw[N];exact zo _ _
   have d1:wr.heap.size<G.heap.size:=by rw[N];simp
   have A1:=zh a1
   have A2:=zh a2
   have A3:=zh a3
   have A4:=zh a4
   have A:=zh b0
   clear c0 c1 c2 c3 c4 c5 c6 H a1 a2 a3 a4 b0
   by_cases Y:code=1
   ·have AP:=zh (ap Y)
    have b9:((code:Int)==1)=true:=by simp;omega
    clear ap a6 Y
    go_wp2_with fail
    rw[<-N]
    refine(c9.out G _ _ AP.out I.out).mono ?_
    intro e w2 d
    cases p0 with
    |some er =>
     have r:=zh (CkP.up d I.out)
     have m:Hid ((List.range n).findSome? q=some er):=zO C z.out (by rw[A.out];rfl)
     obtain⟨x,l⟩:=d
     obtain⟨J,t,rfl,s,y⟩:=l.out
     clear x l t s y
     go_wp2_with fail
     refine⟨rfl,?_⟩
     rw[m.out]
     exact r.out
    |none =>
     obtain⟨a5,rfl⟩:=d
     have X:Hid (Below w.heap.size w w2):=I.out.trans (a5.mono I.out.size)
     have U:Hid (w2.heap[wr.heap.size]?=some (.cells #[.int .i64 (code:Int),.int .i64 pos,.string nm,.pointer iv,.pointer vv,.slice ta tn tc,.slice ea en ec] 181 (0,0))):=(a5.block _ d1).trans R.out
     clear a5 AP b1 b2 b3 b5 a8 b4 a9 N
     have m3:w2.cell? ⟨wr.heap.size,3,none⟩=some (.pointer iv):=(za U.out).trans rfl
     have O:wr.heap.size<w2.heap.size:=zf U.out
     have m0:=(xy U.out).1
     go_wp2_with fail
     refine(V.out w2 _ _ A1.out X.out).mono ?_
     intro e x1 d
     cases r1 with
     |some er =>
      have r:=zh (CkP.up d X.out)
      have m:Hid ((List.range n).findSome? q=some er):=zO C z.out (by rw[A.out];rfl)
      obtain⟨x,l⟩:=d
      obtain⟨J,t,rfl,s,y⟩:=l.out
      clear x l t s y
      go_wp2_with fail
      refine⟨rfl,?_⟩
      rw[m.out]
      exact r.out
     |none =>
      obtain⟨f,rfl⟩:=d
      have D:Hid (Below w.heap.size w x1):=X.out.trans (f.mono X.out.size)
      have M:=zh ((f.block _ O).trans U.out)
      clear f m3 O m0
      have m4:x1.cell? ⟨wr.heap.size,4,none⟩=some (.pointer vv):=(za M.out).trans rfl
      have S:wr.heap.size<x1.heap.size:=zf M.out
      go_wp2_with fail
      refine(V.out x1 _ _ A2.out D.out).mono ?_
      intro e x2 d
      cases r2 with
      |some er =>
       have r:=zh (CkP.up d D.out)
       have m:Hid ((List.range n).findSome? q=some er):=zO C z.out (by rw[A.out];rfl)
       obtain⟨x,l⟩:=d
       obtain⟨J,t,rfl,s,y⟩:=l.out
       clear x l t s y
       go_wp2_with fail
       refine⟨rfl,?_⟩
       rw[m.out]
       exact r.out
      |none =>
       obtain⟨f,rfl⟩:=d
       have F:Hid (Below w.heap.size w x2):=D.out.trans (f.mono D.out.size)
       have K:=zh ((f.block _ S).trans M.out)
       clear f m4 S
       have m5:x2.cell? ⟨wr.heap.size,5,none⟩=some (.slice ta tn tc):=(za K.out).trans rfl
       have Q:wr.heap.size<x2.heap.size:=zf K.out
       go_wp2_with fail
       refine(Z.out x2 _ _ A3.out F.out).mono ?_
       intro e x3 d
       cases r3 with
       |some er =>
        have r:=zh (CkP.up d F.out)
        have m:Hid ((List.range n).findSome? q=some er):=zO C z.out (by rw[A.out];rfl)
        obtain⟨x,l⟩:=d
        obtain⟨J,t,rfl,s,y⟩:=l.out
        clear x l t s y
        go_wp2_with fail
        refine⟨rfl,?_⟩
        rw[m.out]
        exact r.out
       |none =>
        obtain⟨f,rfl⟩:=d
        have E:Hid (Below w.heap.size w x3):=F.out.trans (f.mono F.out.size)
        have L:=zh ((f.block _ Q).trans K.out)
        clear f m5 Q
        have m6:x3.cell? ⟨wr.heap.size,6,none⟩=some (.slice ea en ec):=(za L.out).trans rfl
        have P:wr.heap.size<x3.heap.size:=zf L.out
        go_wp2_with fail
        refine(Z.out x3 _ _ A4.out E.out).mono ?_
        intro e x4 d
        cases r4 with
        |some er =>
         have r:=zh (CkP.up d E.out)
         have m:Hid ((List.range n).findSome? q=some er):=zO C z.out (by rw[A.out];rfl)
         obtain⟨x,l⟩:=d
         obtain⟨J,t,rfl,s,y⟩:=l.out
         clear x l t s y
         go_wp2_with fail
         refine⟨rfl,?_⟩
         rw[m.out]
         exact r.out
        |none =>
         obtain⟨f,rfl⟩:=d
         have a0:Hid (Below w.heap.size w x4):=E.out.trans (f.mono E.out.size)
         have b6:=zh ((f.block _ P).trans L.out)
         clear f m6 P
         have a7:Hid (∀j,j<i+1->q j=none):=fun j hj=>by
          rcases Nat.lt_or_ge j i with q|q
          ·exact z.out j q
          ·have:j=i:=by omega
           subst this
           rw[A.out]
           rfl
         go_wp2_with fail
         go_roundg (n-(i+1))
         case measure=>omega
         case rel=>exact⟨i+1,by omega,rfl,by go_num,a0,a7⟩
   ·have c7:=a6 Y
    have b9:((code:Int)==1)=false:=by simp;omega
    subst c7
    clear ap a6 Y
    go_upto_region 3 with fail
    rw[<-N]
    clear b1 b2 b3 b5 a8 b4 a9 N
    have m3:G.cell? ⟨wr.heap.size,3,none⟩=some (.pointer iv):=(za R.out).trans rfl
    have O:wr.heap.size<G.heap.size:=zf R.out
    have m0:=(xy R.out).1
    go_wp2_with fail
    refine(V.out G _ _ A1.out I.out).mono ?_
    intro e x1 d
    cases r1 with
    |some er =>
     have r:=zh (CkP.up d I.out)
     have m:Hid ((List.range n).findSome? q=some er):=zO C z.out (by rw[A.out];rfl)
     obtain⟨x,l⟩:=d
     obtain⟨J,t,rfl,s,y⟩:=l.out
     clear x l t s y
     go_wp2_with fail
     refine⟨rfl,?_⟩
     rw[m.out]
     exact r.out
    |none =>
     obtain⟨f,rfl⟩:=d
     have D:Hid (Below w.heap.size w x1):=I.out.trans (f.mono I.out.size)
     have M:=zh ((f.block _ O).trans R.out)
     clear f m3 O m0
     have m4:x1.cell? ⟨wr.heap.size,4,none⟩=some (.pointer vv):=(za M.out).trans rfl
     have S:wr.heap.size<x1.heap.size:=zf M.out
     go_wp2_with fail
     refine(V.out x1 _ _ A2.out D.out).mono ?_
     intro e x2 d
     cases r2 with
     |some er =>
      have r:=zh (CkP.up d D.out)
      have m:Hid ((List.range n).findSome? q=some er):=zO C z.out (by rw[A.out];rfl)
      obtain⟨x,l⟩:=d
      obtain⟨J,t,rfl,s,y⟩:=l.out
      clear x l t s y
      go_wp2_with fail
      refine⟨rfl,?_⟩
      rw[m.out]
      exact r.out
     |none =>
      obtain⟨f,rfl⟩:=d
      have F:Hid (Below w.heap.size w x2):=D.out.trans (f.mono D.out.size)
      have K:=zh ((f.block _ S).trans M.out)
      clear f m4 S
      have m5:x2.cell? ⟨wr.heap.size,5,none⟩=some (.slice ta tn tc):=(za K.out).trans rfl
      have Q:wr.heap.size<x2.heap.size:=zf K.out
      go_wp2_with fail
      refine(Z.out x2 _ _ A3.out F.out).mono ?_
      intro e x3 d
      cases r3 with
      |some er =>
       have r:=zh (CkP.up d F.out)
       have m:Hid ((List.range n).findSome? q=some er):=zO C z.out (by rw[A.out];rfl)
       obtain⟨x,l⟩:=d
       obtain⟨J,t,rfl,s,y⟩:=l.out
       clear x l t s y
       go_wp2_with fail
       refine⟨rfl,?_⟩
       rw[m.out]
       exact r.out
      |none =>
       obtain⟨f,rfl⟩:=d
       have E:Hid (Below w.heap.size w x3):=F.out.trans (f.mono F.out.size)
       have L:=zh ((f.block _ Q).trans K.out)
       clear f m5 Q
       have m6:x3.cell? ⟨wr.heap.size,6,none⟩=some (.slice ea en ec):=(za L.out).trans rfl
       have P:wr.heap.size<x3.heap.size:=zf L.out
       go_wp2_with fail
       refine(Z.out x3 _ _ A4.out E.out).mono ?_
       intro e x4 d
       cases r4 with
       |some er =>
        have r:=zh (CkP.up d E.out)
        have m:Hid ((List.range n).findSome? q=some er):=zO C z.out (by rw[A.out];rfl)
        obtain⟨x,l⟩:=d
        obtain⟨J,t,rfl,s,y⟩:=l.out
        clear x l t s y
        go_wp2_with fail
        refine⟨rfl,?_⟩
        rw[m.out]
        exact r.out
       |none =>
        obtain⟨f,rfl⟩:=d
        have a0:Hid (Below w.heap.size w x4):=E.out.trans (f.mono E.out.size)
        have b6:=zh ((f.block _ P).trans L.out)
        clear f m6 P
        have a7:Hid (∀j,j<i+1->q j=none):=fun j hj=>by
         rcases Nat.lt_or_ge j i with q|q
         ·exact z.out j q
         ·have:j=i:=by omega
          subst this
          rw[A.out]
          rfl
        go_wp2_with fail
        go_roundg (n-(i+1))
        case measure=>omega
        case rel=>exact⟨i+1,by omega,rfl,by go_num,a0,a7⟩
  ·have b8:¬(i:Int)<(n:Int):=by omega
   have m:Hid ((List.range n).findSome? q=none):=yq (fun j hj=>z.out j (by omega))
   go_wp2_with fail
   refine bodyPost_end (results_none rfl _ _ _) rfl ⟨HB.out,?_⟩
   rw[m.out]
end Go.Proofs.YtibncofnnlbmcaaGreatDoor
