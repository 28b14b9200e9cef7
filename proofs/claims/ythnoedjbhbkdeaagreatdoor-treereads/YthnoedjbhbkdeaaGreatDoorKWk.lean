import Derived.Test.YthnoedjbhbkdeaaGreatDoorKWj
set_option maxRecDepth 100000
set_option maxHeartbeats 4000000
namespace Go.Proofs.YthnoedjbhbkdeaaGreatDoor
open Go.RowKit
variable {kk:Nat->Prop}
open Tp (X)
structure Wr (B:Nat) (w:World):Prop where
 tab:Tab B w
 lv:Lv w
 lt:5<B
theorem Wr.on {B:Nat}{w w':World}(h:Wr B w) (hb:Bw kk B w w'):Wr B w':=⟨h.tab.on hb.toBelow,h.lv.below hb.toBelow h.lt,h.lt⟩
def Ex1 (w:World) (B:Nat) (y:X) (b:Nat):Prop:=RepL w (fun i=>i<B) [y] [.pointer (some ⟨b,0,none⟩)]
theorem kM {B:Nat}{w w':World}{l:List X}{vs:List Value}(h:RepL w (fun i=>i<B) l vs) (hb:Bw kk B w w'):RepL w' (fun i=>i<B) l vs :=
 RepL.mono (fun b hi _=>⟨hb.block b hi,hi⟩) (SizeOf.sizeOf l) l vs zn h
theorem Ex1.on {B b:Nat}{w w':World}{y:X}(h:Ex1 w B y b) (hb:Bw kk B w w'):Ex1 w' B y b:=kM h hb
theorem kN {w:World}{D:Nat->Prop}{z:X}{ls:List Value}(h:RepL w D [z] ls):∃ bz,ls=[.pointer (some ⟨bz,0,none⟩)]/\RepL w D [z] [.pointer (some ⟨bz,0,none⟩)]:=by
 obtain⟨code,pos,n,mod,name,op,left,right,args⟩:=z
 have h':=h
 rw[RepL]at h
 obtain⟨b,av,ls',rs,gs,vs',h1,_,_,_,_,_,_,_,_,h10⟩:=h
 rw[RepL]at h10
 subst h10
 subst h1
 exact⟨b,rfl,h'⟩
theorem Ex1.node {w:World}{B b code pos n:Nat}{mod name op:List UInt8}{left right args:List X}(h:Ex1 w B ⟨code,pos,n,mod,name,op,left,right,args⟩ b) :
  ∃(av:Value) (ls rs gs:List Value),b<B/\w.heap[b]?=some (.cells (xcells code pos n (bs mod) (bs name) (bs op) (ls.headD (.pointer none)) (rs.headD (.pointer none)) av) 111 (0,0)) /\
   RepL w (fun i=>i<B) left ls/\RepL w (fun i=>i<B) right rs/\RepL w (fun i=>i<B) args gs/\Row w (fun i=>i<B) 94 1 av gs.length gs:=by
 unfold Ex1 at h
 rw[RepL]at h
 obtain⟨b',av,ls,rs,gs,vs',h1,h2,h3,h4,h5,h6,h7,h8,h9,h10⟩:=h
 cases h1
 refine⟨av,ls,rs,gs,h2,h3,h4,h6,h8,?_⟩
 rcases h9 with⟨rfl,rfl⟩|⟨g,cap,cur,q1,q2,q3,q4,q5,q6,q7⟩
 ·exact Or.inl ⟨rfl,rfl,rfl⟩
 ·exact Or.inr ⟨g,cap,cur,q1,q2,q3,q4,q5,by omega,by simpa using q7⟩
def ExprW (kk:Nat->Prop) (N:Nat):Prop:=∀(y:X),SizeOf.sizeOf y<=N->Tp.WX [y]->∀(w:World) (B b:Nat) (v:Value) (l:List UInt8),Ex1 w B y b->Buf kk w B v l->Wr B w->(l++(Tp.pxs [y]).flatten).length<=1000000000 ->
 Calls Tryz.prog 111 #[v,.pointer (some ⟨b,0,none⟩)] w (Wrote kk B w (l++(Tp.pxs [y]).flatten))
theorem not_low {k:Nat}{y:X}(h:y.code≠5):Tp.isLow k [y]=false:=by simp[Tp.isLow,h]
theorem yI {N:Nat}(hE:ExprW kk N) {y:X}(hs:SizeOf.sizeOf y<=N) (hw:Tp.WX [y]) {w:World}{B b k:Nat}{v:Value}{l:List UInt8}(hx:Ex1 w B y b) (hb:Buf kk w B v l) (hr:Wr B w) (_hk:k<=6) (hl:(l++(Tp.held (Tp.isLow k [y]) (Tp.pxs [y])).flatten).length<=1000000000) :
  Calls Tryz.prog 158 #[v,.pointer (some ⟨b,0,none⟩),.int .i64 (k:Int)] w (Wrote kk B w (l++(Tp.held (Tp.isLow k [y]) (Tp.pxs [y])).flatten)):=by
 obtain⟨av,ls,rs,gs,hbB,hblk,_⟩:=Ex1.node (code:=y.code) (pos:=y.pos) (n:=y.n) (mod:=y.mod) (name:=y.name) (op:=y.op) (left:=y.left) (right:=y.right) (args:=y.args) (show Ex1 w B ⟨y.code,y.pos,y.n,y.mod,y.name,y.op,y.left,y.right,y.args⟩ b by cases y;exact hx)
 have c0:w.cell? ⟨b,0,none⟩=some (.int .i64 (y.code:Int)):=za hblk
 have c5:w.cell? ⟨b,5,none⟩=some (.string (bs y.op)):=za hblk
 have hlt:=zc hblk
 by_cases h5:y.code=5
 ·have h5':((y.code:Int) != 5)=false:=by simp[h5]
  have H5:Hid (y.code=5):=h5
  clear h5
  by_cases hlow:Tp.lvl y.op<k
  ·have hge:¬((k:Int)<=(Tp.lvl y.op:Int)):=by omega
   have HE:Hid (Tp.isLow k [y]=true):=by simp only [Tp.isLow,Hid,H5.out];simp[hlow]
   rw[HE.out]at hl ⊢
   have hf:(Tp.held true (Tp.pxs [y])).flatten=[40]++(Tp.pxs [y]).flatten++[41]:=by simp[Tp.held,Tp.mLp,Tp.mRp]
   rw[hf]at hl ⊢
   clear hlow hblk hf
   go_enter Tryz.func158,Tryz.ntmps158
   go_wp2_with fail
   refine(yV w y.op hr.lv).mono ?_
   rintro e w1 ⟨rfl,hb1⟩
   have hbB1:Bw kk B w w1:=Bw.of hb1 hb.2
   have hbuf1:=hb.below hb1
   go_wp2_with (at_builtin;refine yg rfl _ _ rfl hbuf1 40 40 rfl rfl rfl ?c1 ?_)
   case c1=>simp at hl;omega
   intro v2 w2 hbuf2 hbel2
   have hx2:=hx.on (hbB1.trans hbel2)
   have hr2:=hr.on (hbB1.trans hbel2)
   have hcall:=hE y hs hw w2 B b v2 (l++[40]) hx2 hbuf2 hr2 (by simp at hl ⊢;omega)
   have HC:Hid (Calls Tryz.prog 111 #[v2,.pointer (some ⟨b,0,none⟩)] w2 (Wrote kk B w2 (l++[40]++(Tp.pxs [y]).flatten))):=hcall
   clear hcall hbuf1
   go_wp2_with fail
   refine HC.out.mono ?_
   rintro e w3 ⟨v3,rfl,hbuf3,hbel3⟩
   go_wp2_with (at_builtin;refine yg rfl _ _ rfl hbuf3 41 41 rfl rfl rfl ?c2 ?_)
   case c2=>simp at hl ⊢;omega
   intro v4 w4 hbuf4 hbel4
   have HB:Hid (Buf kk w4 B v4 (l++[40]++(Tp.pxs [y]).flatten++[41])):=by unfold Hid;simpa using hbuf4
   clear hbuf4 hbuf3 hbuf2
   go_wp2_with fail
   go_ret
   exact⟨_,rfl,by simpa using HB.out,((hbB1.trans hbel2).trans hbel3).trans hbel4⟩
  ·have hge:((k:Int)<=(Tp.lvl y.op:Int)):=by omega
   have HE:Hid (Tp.isLow k [y]=false):=by simp only [Tp.isLow,Hid,H5.out];simp;omega
   rw[HE.out]at hl ⊢
   have hf:(Tp.held false (Tp.pxs [y])).flatten=(Tp.pxs [y]).flatten:=by simp[Tp.held]
   rw[hf]at hl ⊢
   clear hlow hblk hf
   go_enter Tryz.func158,Tryz.ntmps158
   go_wp2_with fail
   refine(yV w y.op hr.lv).mono ?_
   rintro e w1 ⟨rfl,hb1⟩
   have hbB1:Bw kk B w w1:=Bw.of hb1 hb.2
   have hcall:=hE y hs hw w1 B b v l (hx.on hbB1) (hb.below hb1) (hr.on hbB1) hl
   have HC:Hid (Calls Tryz.prog 111 #[v,.pointer (some ⟨b,0,none⟩)] w1 (Wrote kk B w1 (l++(Tp.pxs [y]).flatten))):=hcall
   clear hcall hl
   go_wp2_with fail
   refine HC.out.mono ?_
   rintro e w3 ⟨v3,rfl,hbuf3,hbel3⟩
   have HB:Hid (Buf kk w3 B v3 (l++(Tp.pxs [y]).flatten)):=hbuf3
   clear hbuf3
   go_wp2_with fail
   go_ret
   exact⟨_,rfl,HB.out,hbB1.trans hbel3⟩
 ·have h5':((y.code:Int) != 5)=true:=by simp;omega
  rw[not_low h5]at hl ⊢
  have hf:(Tp.held false (Tp.pxs [y])).flatten=(Tp.pxs [y]).flatten:=by simp[Tp.held]
  rw[hf]at hl ⊢
  have hcall:=hE y hs hw w B b v l hx hb hr hl
  have HC:Hid (Calls Tryz.prog 111 #[v,.pointer (some ⟨b,0,none⟩)] w (Wrote kk B w (l++(Tp.pxs [y]).flatten))):=hcall
  clear h5 hcall hblk hf hl
  go_enter Tryz.func158,Tryz.ntmps158
  go_wp2_with fail
  refine HC.out.mono ?_
  rintro e w3 ⟨v3,rfl,hbuf3,hbel3⟩
  have HB:Hid (Buf kk w3 B v3 (l++(Tp.pxs [y]).flatten)):=hbuf3
  clear hbuf3
  go_wp2_with fail
  go_ret
  exact⟨_,rfl,HB.out,hbel3⟩
theorem rep_get {w:World}{D:Nat->Prop}:∀(l:List X) (vs:List Value),RepL w D l vs->∀(i:Nat) (h:i<l.length),∃ b,vs[i]?=some (.pointer (some ⟨b,0,none⟩))/\RepL w D [l[i]] [.pointer (some ⟨b,0,none⟩)]:=by
 intro l
 induction l with
 | nil=>intro vs _ i h;simp at h
 | cons x l ih =>
  intro vs h i hi
  obtain⟨code,pos,n,mod,name,op,left,right,args⟩:=x
  rw[RepL]at h
  obtain⟨b,av,ls,rs,gs,vs',h1,h2,h3,h4,h5,h6,h7,h8,h9,h10⟩:=h
  subst h1
  cases i with
  | zero=>exact⟨b,rfl,by rw[List.getElem_cons_zero,RepL];exact⟨b,av,ls,rs,gs,[],rfl,h2,h3,h4,h5,h6,h7,h8,h9,by rw[RepL]⟩⟩
  | succ i =>
   obtain⟨b',q1,q2⟩:=ih vs' h10 i (by simpa using hi)
   exact⟨b',by simpa using q1,by simpa using q2⟩
theorem px_app:∀ l m:List X,Tp.px (l++m)=Tp.px l++Tp.px m:=by
 intro l
 induction l with
 | nil=>intro m;simp[Tp.px]
 | cons x l ih=>intro m;rw[List.cons_append,Tp.px_cons,ih,Tp.px_cons];rfl
theorem uF:∀(L:List (List (List UInt8))) (a:List (List UInt8)),L≠[]->Tp.commas (L++[a])=Tp.commas L++[Tp.mComma,Tp.sp]++a:=by
 intro L
 induction L with
 | nil=>intro a h;exact absurd rfl h
 | cons x L ih =>
  intro a _
  cases L with
  | nil=>simp[Tp.commas]
  | cons y L =>
   have:=ih a (by simp)
   rw[List.cons_append,List.cons_append,Tp.commas_cons,<-List.cons_append,this,Tp.commas_cons]
   simp
theorem px_ne {l:List X}(h:l≠[]):Tp.px l≠[]:=by
 cases l with
 | nil=>exact absurd rfl h
 | cons x l=>rw[Tp.px_cons];simp
theorem wx_get {l:List X}(h:Tp.WX l):∀(i:Nat) (hi:i<l.length),Tp.WX [l[i]]:=by
 induction l with
 | nil=>intro i hi;simp at hi
 | cons x l ih =>
  intro i hi
  have h1:Tp.WX [x]/\Tp.WX l:=by obtain⟨⟩:=x;rw[Tp.WX]at h;exact⟨by rw[Tp.WX];exact⟨h.1,Tp.WX_nil⟩,h.2⟩
  cases i with
  | zero=>exact h1.1
  | succ i=>simpa using ih h1.2 i (by simpa using hi)
def argsB (ar:List X) (i:Nat):List UInt8:=(Tp.commas (Tp.px (ar.take i))).flatten
theorem uJ (ar:List X):argsB ar 0=[]:=by simp[argsB,Tp.px,Tp.commas]
theorem argsB_1 {ar:List X}(h:0<ar.length):argsB ar 1=(Tp.pxs [ar[0]]).flatten:=by
 cases ar with
 | nil=>simp at h
 | cons x l=>simp[argsB,Tp.px_cons,Tp.px,Tp.commas]
theorem argsB_s {ar:List X}{i:Nat}(h:i<ar.length) (h0:i≠0):argsB ar (i+1)=argsB ar i++[44,32]++(Tp.pxs [ar[i]]).flatten:=by
 unfold argsB
 have hne:ar.take i≠[]:=by
  intro e
  rw[List.take_eq_nil_iff]at e
  rcases e with e|e
  ·exact h0 e
  ·subst e;simp at h
 rw[List.take_succ_eq_append_getElem h,px_app,Tp.px_cons ar[i] [],show Tp.px ([]:List X)=[] by simp[Tp.px],uF _ _ (px_ne hne)]
 simp[Tp.mComma,Tp.sp]
theorem argsB_all (ar:List X):argsB ar ar.length=(Tp.commas (Tp.px ar)).flatten:=by simp[argsB]
theorem argsB_le (ar:List X) {i j:Nat}(h:i<=j) (hj:j<=ar.length):(argsB ar i).length<=(argsB ar j).length:=by
 induction h with
 | refl=>exact Nat.le_refl _
 | @step k hk ih =>
  have h1:=ih (by omega)
  by_cases h0:k=0
  ·subst h0
   have:i=0:=Nat.le_zero.mp hk
   subst this
   rw[uJ];simp
  ·rw[argsB_s (by omega) h0]
   simp only [List.length_append]
   omega
theorem vQ {w:World}{B:Nat}{v:Value}{l:List UInt8}(hb:Buf kk w B v l) :
  Calls Tryz.prog 157 #[v,.slice none 0 0] w (Wrote kk B w l):=by
 obtain⟨ao,cap,hv⟩:=zt hb.1
 subst hv
 have HB:Hid (Buf kk w B (.slice ao l.length cap) l):=hb
 clear hb
 go_enter Tryz.func157,Tryz.ntmps157
 go_wp2_with fail
 refine wp_loop_rounds 1 ?_
 rw[rounds_succ]
 go_wp2_with fail
 go_ret
 exact⟨_,rfl,HB.out,Bw.refl _ _⟩
theorem vP {N:Nat}(hE:ExprW kk N) {ar:List X}(hs:SizeOf.sizeOf ar<=N) (hw:Tp.WX ar) {w:World}{B g n cap:Nat}{cur:Array Value}{v:Value}{l:List UInt8}{gs:List Value}(hx:RepL w (fun i=>i<B) ar gs) (hn:n=ar.length) (hn1:n<=2000000000)
  (hgB:g<B) (hblk:w.heap[g]?=some (.cells cur 94 (0,0))) (hcur:cur.toList.take n=gs) (hb:Buf kk w B v l) (hr:Wr B w) (hl:(l++(Tp.commas (Tp.px ar)).flatten).length<=1000000000) :
  Calls Tryz.prog 157 #[v,.slice (some ⟨g,0,none⟩) n cap] w (Wrote kk B w (l++(Tp.commas (Tp.px ar)).flatten)):=by
 rw[<-argsB_all]at hl ⊢
 have HL:Hid ((l++argsB ar ar.length).length<=1000000000):=hl
 have HN:Hid (n=ar.length):=hn
 have hcell:∀ i (hi:i<ar.length),∃ b,w.cell? ⟨g,i,none⟩=some (.pointer (some ⟨b,0,none⟩))/\Ex1 w B ar[i] b:=by
  intro i hi
  obtain⟨b,q1,q2⟩:=rep_get ar gs hx i hi
  refine⟨b,?_,q2⟩
  rw[za hblk,<-Array.getElem?_toList,<-q1,<-hcur,List.getElem?_take_of_lt (by omega)]
 have HC:Hid (∀ i (hi:i<ar.length),∃ b,w.cell? ⟨g,i,none⟩=some (.pointer (some ⟨b,0,none⟩))/\Ex1 w B ar[i] b):=hcell
 obtain⟨ao,vcap,hv⟩:=zt hb.1
 subst hv
 have HB:Hid (Buf kk w B (.slice ao l.length vcap) l):=hb
 have hlg:=zc hblk
 clear hl hn hcell hcur hx hblk hb
 go_enter Tryz.func157,Tryz.ntmps157
 go_wp2_with fail
 go_loopg [0,9] n (fun k v vi wr=>∃ i:Nat,i<=n/\k=n - i/\vi=.int .i64 (i:Int)/\Hid (Buf kk wr B v (l++argsB ar i))/\Bw kk B w wr)
 case atStart=>exact⟨0,by omega,by omega,rfl,by unfold Hid;rw[uJ,List.append_nil];exact HB.out,Bw.refl _ _⟩
 case round =>
  obtain⟨i,hid,hk,rfl,HB1,hbel⟩:=hrel
  clear HB
  by_cases hlt:i<n
  ·have hlt':(i:Int)<(n:Int):=by omega
   have hia:i<ar.length:=by have:=HN.out;omega
   obtain⟨b,k1,k2⟩:=HC.out i hia
   have kc:wr.cell? ⟨g,i,none⟩=some (.pointer (some ⟨b,0,none⟩)):=(hbel.cell (p:=⟨g,i,none⟩) hgB).trans k1
   have hxe:=k2.on hbel
   have hwe:=wx_get hw i hia
   have hse:SizeOf.sizeOf ar[i]<=N:=by have:=List.sizeOf_lt_of_mem (List.getElem_mem hia);omega
   have hle:=argsB_le ar (show i+1<=ar.length by omega) zn
   have hbuf:=HB1.out
   by_cases h0:i=0
   ·subst h0
    have e1:=argsB_1 hia
    have e0:=uJ ar
    rw[e0,List.append_nil]at hbuf
    have hlen:=HL.out
    rw[Nat.zero_add]at hle
    obtain⟨a1,c1,hv⟩:=zt hbuf.1
    subst hv
    have hcall:=hE ar[0] hse hwe wr B b _ l hxe hbuf (hr.on hbel) (by rw[<-e1];simp only [List.length_append]at hlen ⊢;omega)
    rw[<-e1]at hcall
    have HCL:Hid (Calls Tryz.prog 111 #[.slice a1 l.length c1,.pointer (some ⟨b,0,none⟩)] wr (Wrote kk B wr (l++argsB ar 1))):=hcall
    clear HB1 hcall e1 e0 hlen hle k1 k2 hxe hwe hse hbuf
    go_wp2_with fail
    refine HCL.out.mono ?_
    rintro e w3 ⟨v3,rfl,hbuf3,hbel3⟩
    have HB3:Hid (Buf kk w3 B v3 (l++argsB ar 1)):=hbuf3
    clear hbuf3
    go_wp2_with fail
    go_roundg (n - 1)
    case measure=>omega
    case rel=>exact⟨1,by omega,rfl,by go_num,HB3,hbel.trans hbel3⟩
   ·have e1:=argsB_s hia h0
    have h0':(0:Int)<(i:Int):=by omega
    have hlen:=HL.out
    have hlen2:(l++argsB ar (i+1)).length<=1000000000:=by simp only [List.length_append]at hlen ⊢;omega
    rw[e1]at hlen2
    have HE1:Hid (argsB ar (i+1)=argsB ar i++[44,32]++(Tp.pxs [ar[i]]).flatten):=e1
    have HXE:Hid (Ex1 wr B ar[i] b/\Tp.WX [ar[i]]/\SizeOf.sizeOf ar[i]<=N):=⟨hxe,hwe,hse⟩
    have HLEN2:Hid ((l++(argsB ar i++[44,32]++(Tp.pxs [ar[i]]).flatten)).length<=1000000000):=hlen2
    have hl3:(l++argsB ar i).length+2<=2000000000:=by simp only [List.length_append,List.length_cons,List.length_nil]at hlen2 ⊢;omega
    obtain⟨m,hm⟩:∃ m,m=l++argsB ar i:=⟨_,rfl⟩
    rw[<-hm]at hbuf hl3
    have HM:Hid (m=l++argsB ar i):=hm
    obtain⟨a1,c1,hv⟩:=zt hbuf.1
    subst hv
    have HBUF:Hid (Buf kk wr B (.slice a1 m.length c1) m):=hbuf
    clear hm e1 hlen2 hlen hle k1 k2 hxe hwe hse h0 HB1 hbuf
    go_wp2_with (at_builtin;refine yt rfl _ _ rfl HBUF.out [44,32] rfl rfl ?c1 ?_)
    case c1=>exact hl3
    intro v2 w2 hbuf2 hbel2
    have hcall:=hE ar[i] HXE.out.2.2 HXE.out.2.1 w2 B b v2 (m++[44,32]) (HXE.out.1.on hbel2) hbuf2 ((hr.on hbel).on hbel2) (by have:=HLEN2.out;rw[HM.out];simpa[List.append_assoc] using this)
    rw[show m++[44,32]++(Tp.pxs [ar[i]]).flatten=l++argsB ar (i+1) by rw[HM.out,HE1.out];simp[List.append_assoc]]at hcall
    have HCL:Hid (Calls Tryz.prog 111 #[v2,.pointer (some ⟨b,0,none⟩)] w2 (Wrote kk B w2 (l++argsB ar (i+1)))):=hcall
    clear hcall hbuf2
    go_wp2_with fail
    refine HCL.out.mono ?_
    rintro e w3 ⟨v3,rfl,hbuf3,hbel3⟩
    have HB3:Hid (Buf kk w3 B v3 (l++argsB ar (i+1))):=hbuf3
    clear hbuf3
    go_wp2_with fail
    go_roundg (n - (i+1))
    case measure=>omega
    case rel=>exact⟨i+1,by omega,rfl,by go_num,HB3,(hbel.trans hbel2).trans hbel3⟩
  ·have hlt':¬(i:Int)<(n:Int):=by omega
   have e:i=ar.length:=by have:=HN.out;omega
   obtain⟨m,hm⟩:∃ m,m=l++argsB ar i:=⟨_,rfl⟩
   have hbuf:=HB1.out
   rw[<-hm]at hbuf
   obtain⟨a1,c1,hv⟩:=zt hbuf.1
   subst hv
   rw[e]at hm
   have HB3:Hid (Buf kk wr B (.slice a1 m.length c1) (l++argsB ar ar.length)):=by rw[<-hm];exact hbuf
   clear HB1 hm hbuf e
   go_wp2_with fail
   go_ret
   exact⟨_,rfl,HB3.out,hbel⟩
theorem dec_itoa:∀ n:Nat,Tp.dec n=Lib.itoa (n:Int):=by
 intro n
 rw[Lib.itoa_nonneg]
 induction n using Nat.strongRecOn with
 | _ n ih =>
  rw[Tp.dec,Lib.decDigits]
  split
  ·rfl
  ·rw[ih (n / 10) (by omega)]
theorem jK (m n:List UInt8):(Tp.ref m n).flatten.length<=m.length+n.length+1/\m.length+n.length<=(Tp.ref m n).flatten.length:=by
 unfold Tp.ref
 split
 ·rename_i h;subst h;simp
 ·simp[Tp.mDot];omega
theorem uM {pos n:Nat}(hn:n<=Tp.top) {w:World}{B b:Nat}{v:Value}{l:List UInt8}(hx:Ex1 w B ⟨1,pos,n,[],[],[],[],[],[]⟩ b) (hb:Buf kk w B v l) (hr:Wr B w) (hl:(l++Tp.dec n).length<=1000000000) :
  Calls Tryz.prog 111 #[v,.pointer (some ⟨b,0,none⟩)] w (Wrote kk B w (l++Tp.dec n)):=by
 obtain⟨av,ls,rs,gs,hbB,hblk,_⟩:=hx.node
 have c0:w.cell? ⟨b,0,none⟩=some (.int .i64 1):=za hblk
 have c2:w.cell? ⟨b,2,none⟩=some (.int .i64 (n:Int)):=za hblk
 have hlt:=zc hblk
 have hcall:=jT hb hr.tab n hn (by simp only [List.length_append]at hl;omega)
 rw[<-dec_itoa]at hcall
 have HC:Hid (Calls Tryz.prog 155 #[v,.int .i64 (n:Int),.int .i64 10] w (Wrote kk B w (l++Tp.dec n))):=hcall
 clear hcall hl hblk
 go_enter Tryz.func111,Tryz.ntmps111
 go_wp2_with fail
 refine HC.out.mono ?_
 rintro e w3 ⟨v3,rfl,hbuf3,hbel3⟩
 have HB:Hid (Buf kk w3 B v3 (l++Tp.dec n)):=hbuf3
 clear hbuf3
 go_wp2_with fail
 go_ret
 exact⟨_,rfl,HB.out,hbel3⟩
theorem uL {pos:Nat}{m nm:List UInt8}{w:World}{B b:Nat}{v:Value}{l:List UInt8}(hx:Ex1 w B ⟨2,pos,0,m,nm,[],[],[],[]⟩ b) (hb:Buf kk w B v l) (hl:(l++(Tp.ref m nm).flatten).length<=1000000000) :
  Calls Tryz.prog 111 #[v,.pointer (some ⟨b,0,none⟩)] w (Wrote kk B w (l++(Tp.ref m nm).flatten)):=by
 obtain⟨av,ls,rs,gs,hbB,hblk,_⟩:=hx.node
 have c0:w.cell? ⟨b,0,none⟩=some (.int .i64 2):=za hblk
 have hlt:=zc hblk
 have hf:=jK m nm
 have hcall:=kR hb b m nm (za hblk) (za hblk) hbB (by simp only [List.length_append]at hl;omega)
 have HC:Hid (Calls Tryz.prog 156 #[v,.pointer (some ⟨b,0,none⟩)] w (Wrote kk B w (l++(Tp.ref m nm).flatten))):=hcall
 clear hcall hl hblk hf
 go_enter Tryz.func111,Tryz.ntmps111
 go_wp2_with fail
 refine HC.out.mono ?_
 rintro e w3 ⟨v3,rfl,hbuf3,hbel3⟩
 have HB:Hid (Buf kk w3 B v3 (l++(Tp.ref m nm).flatten)):=hbuf3
 clear hbuf3
 go_wp2_with fail
 go_ret
 exact⟨_,rfl,HB.out,hbel3⟩
theorem vO {N:Nat}(hE:ExprW kk N) {pos:Nat}{m nm:List UInt8}{y:X}(hs:SizeOf.sizeOf y<=N) (hw:Tp.WX [y]) {w:World}{B b:Nat}{v:Value}{l:List UInt8}(hx:Ex1 w B ⟨3,pos,0,m,nm,[],[y],[],[]⟩ b) (hb:Buf kk w B v l) (hr:Wr B w) (hl:(l++(Tp.ref m nm).flatten++[91]++(Tp.pxs [y]).flatten++[93]).length<=1000000000) :
  Calls Tryz.prog 111 #[v,.pointer (some ⟨b,0,none⟩)] w (Wrote kk B w (l++(Tp.ref m nm).flatten++[91]++(Tp.pxs [y]).flatten++[93])):=by
 obtain⟨av,ls,rs,gs,hbB,hblk,hle,_⟩:=hx.node
 obtain⟨bz,rfl,hz⟩:=kN hle
 have c0:w.cell? ⟨b,0,none⟩=some (.int .i64 3):=za hblk
 have c6:w.cell? ⟨b,6,none⟩=some (.pointer (some ⟨bz,0,none⟩)):=za hblk
 have hlt:=zc hblk
 have hf:=jK m nm
 have hcall:=kR hb b m nm (za hblk) (za hblk) hbB (by simp only [List.length_append]at hl;omega)
 have HC:Hid (Calls Tryz.prog 156 #[v,.pointer (some ⟨b,0,none⟩)] w (Wrote kk B w (l++(Tp.ref m nm).flatten))):=hcall
 have HL:Hid ((l++(Tp.ref m nm).flatten++[91]++(Tp.pxs [y]).flatten++[93]).length<=1000000000):=hl
 obtain⟨m1,hm1⟩:∃ m1,m1=l++(Tp.ref m nm).flatten:=⟨_,rfl⟩
 have HM1:Hid (m1=l++(Tp.ref m nm).flatten):=hm1
 rw[<-hm1]at hl
 clear hcall hblk hf hm1
 go_enter Tryz.func111,Tryz.ntmps111
 go_wp2_with fail
 refine HC.out.mono ?_
 rintro e w3 ⟨v3,rfl,hbuf3,hbel3⟩
 rw[<-HM1.out]at hbuf3
 have c6':w3.cell? ⟨b,6,none⟩=some (.pointer (some ⟨bz,0,none⟩)):=(hbel3.cell (p:=⟨b,6,none⟩) hbB).trans c6
 have hlt3:b<w3.heap.size:=by have:=hbel3.size;omega
 clear c6 c0
 go_wp2_with (at_builtin;refine yg rfl _ _ rfl hbuf3 91 91 rfl rfl rfl ?c1 ?_)
 case c1=>simp only [List.length_append]at hl;omega
 intro v4 w4 hbuf4 hbel4
 have c6'':w4.cell? ⟨b,6,none⟩=some (.pointer (some ⟨bz,0,none⟩)):=(hbel4.cell (p:=⟨b,6,none⟩) hbB).trans c6'
 have hlt4:b<w4.heap.size:=by have:=hbel4.size;omega
 have hbel34:=hbel3.trans hbel4
 have hcall:=hE y hs hw w4 B bz v4 (m1++[91]) (kM hz hbel34) hbuf4 (hr.on hbel34) (by simp only [List.length_append]at hl ⊢;omega)
 have HC2:Hid (Calls Tryz.prog 111 #[v4,.pointer (some ⟨bz,0,none⟩)] w4 (Wrote kk B w4 (m1++[91]++(Tp.pxs [y]).flatten))):=hcall
 clear hcall hbuf3 hbuf4 c6'
 go_wp2_with fail
 refine HC2.out.mono ?_
 rintro e w5 ⟨v5,rfl,hbuf5,hbel5⟩
 obtain⟨m2,hm2⟩:∃ m2,m2=m1++[91]++(Tp.pxs [y]).flatten:=⟨_,rfl⟩
 rw[<-hm2]at hbuf5 hl
 have HM2:Hid (m2=m1++[91]++(Tp.pxs [y]).flatten):=hm2
 clear hm2
 go_wp2_with (at_builtin;refine yg rfl _ _ rfl hbuf5 93 93 rfl rfl rfl ?c2 ?_)
 case c2=>simp only [List.length_append]at hl;omega
 intro v6 w6 hbuf6 hbel6
 have HB:Hid (Buf kk w6 B v6 (m2++[93])):=hbuf6
 clear hbuf6 hbuf5
 go_wp2_with fail
 go_ret
 exact⟨_,rfl,by rw[<-HM1.out,<-HM2.out];exact HB.out,(hbel34.trans hbel5).trans hbel6⟩
theorem xP {N:Nat}(hE:ExprW kk N) {pos:Nat}{y:X}(hs:SizeOf.sizeOf y<=N) (hw:Tp.WX [y]) {w:World}{B b:Nat}{v:Value}{l:List UInt8}(hx:Ex1 w B ⟨4,pos,0,[],[],Tp.mMinus,[y],[],[]⟩ b) (hb:Buf kk w B v l) (hr:Wr B w) (hl:(l++[45]++(Tp.held (Tp.isLow 5 [y]) (Tp.pxs [y])).flatten).length<=1000000000) :
  Calls Tryz.prog 111 #[v,.pointer (some ⟨b,0,none⟩)] w (Wrote kk B w (l++[45]++(Tp.held (Tp.isLow 5 [y]) (Tp.pxs [y])).flatten)):=by
 obtain⟨av,ls,rs,gs,hbB,hblk,hle,_⟩:=hx.node
 obtain⟨bz,rfl,hz⟩:=kN hle
 have c0:w.cell? ⟨b,0,none⟩=some (.int .i64 4):=za hblk
 have c5:w.cell? ⟨b,5,none⟩=some (.string ⟨#[45]⟩):=za hblk
 have c6:w.cell? ⟨b,6,none⟩=some (.pointer (some ⟨bz,0,none⟩)):=za hblk
 have hlt:=zc hblk
 clear hblk
 go_enter Tryz.func111,Tryz.ntmps111
 go_wp2_with (at_builtin;refine yt rfl _ _ rfl hb [45] rfl rfl ?c1 ?_)
 case c1=>simp only [List.length_append]at hl;simp;omega
 intro v3 w3 hbuf3 hbel3
 have d5:w3.cell? ⟨b,5,none⟩=some (.string ⟨#[45]⟩):=(hbel3.cell (p:=⟨b,5,none⟩) hbB).trans c5
 have d6:w3.cell? ⟨b,6,none⟩=some (.pointer (some ⟨bz,0,none⟩)):=(hbel3.cell (p:=⟨b,6,none⟩) hbB).trans c6
 have hlt3:b<w3.heap.size:=by have:=hbel3.size;omega
 have hcall:=yI hE hs hw (k:=5) (kM hz hbel3) hbuf3 (hr.on hbel3) (by omega) hl
 have HC2:Hid (Calls Tryz.prog 158 #[v3,.pointer (some ⟨bz,0,none⟩),.int .i64 5] w3 (Wrote kk B w3 (l++[45]++(Tp.held (Tp.isLow 5 [y]) (Tp.pxs [y])).flatten))):=hcall
 clear hcall hbuf3 c5 c6 c0 hl
 go_wp2_with fail
 refine HC2.out.mono ?_
 rintro e w5 ⟨v5,rfl,hbuf5,hbel5⟩
 have HB:Hid (Buf kk w5 B v5 (l++[45]++(Tp.held (Tp.isLow 5 [y]) (Tp.pxs [y])).flatten)):=hbuf5
 clear hbuf5
 go_wp2_with fail
 go_ret
 exact⟨_,rfl,HB.out,hbel3.trans hbel5⟩
theorem uN {N:Nat}(hE:ExprW kk N) {pos:Nat}{y:X}(hs:SizeOf.sizeOf y<=N) (hw:Tp.WX [y]) {w:World}{B b:Nat}{v:Value}{l:List UInt8}(hx:Ex1 w B ⟨4,pos,0,[],[],Tp.wNot,[y],[],[]⟩ b) (hb:Buf kk w B v l) (hr:Wr B w) (hl:(l++[110,111,116]++[32]++(Tp.held (Tp.isLow 5 [y]) (Tp.pxs [y])).flatten).length<=1000000000) :
  Calls Tryz.prog 111 #[v,.pointer (some ⟨b,0,none⟩)] w (Wrote kk B w (l++[110,111,116]++[32]++(Tp.held (Tp.isLow 5 [y]) (Tp.pxs [y])).flatten)):=by
 obtain⟨av,ls,rs,gs,hbB,hblk,hle,_⟩:=hx.node
 obtain⟨bz,rfl,hz⟩:=kN hle
 have c0:w.cell? ⟨b,0,none⟩=some (.int .i64 4):=za hblk
 have c5:w.cell? ⟨b,5,none⟩=some (.string ⟨#[110,111,116]⟩):=za hblk
 have c6:w.cell? ⟨b,6,none⟩=some (.pointer (some ⟨bz,0,none⟩)):=za hblk
 have hlt:=zc hblk
 have HL:Hid ((l++[110,111,116]++[32]++(Tp.held (Tp.isLow 5 [y]) (Tp.pxs [y])).flatten).length<=1000000000):=hl
 have hl2:l.length+10<=2000000000:=by simp only [List.length_append]at hl;omega
 clear hblk hl
 go_enter Tryz.func111,Tryz.ntmps111
 go_wp2_with (at_builtin;refine yt rfl _ _ rfl hb [110,111,116] rfl rfl ?c1 ?_)
 case c1=>simp;omega
 intro v3 w3 hbuf3 hbel3
 have d5:w3.cell? ⟨b,5,none⟩=some (.string ⟨#[110,111,116]⟩):=(hbel3.cell (p:=⟨b,5,none⟩) hbB).trans c5
 have d6:w3.cell? ⟨b,6,none⟩=some (.pointer (some ⟨bz,0,none⟩)):=(hbel3.cell (p:=⟨b,6,none⟩) hbB).trans c6
 have hlt3:b<w3.heap.size:=by have:=hbel3.size;omega
 obtain⟨m1,hm1⟩:∃ m1,m1=l++[110,111,116]:=⟨_,rfl⟩
 rw[<-hm1]at hbuf3
 have hml:m1.length=l.length+3:=by rw[hm1];simp
 have HM1:Hid (m1=l++[110,111,116]):=hm1
 clear hm1 c5 c6 c0
 go_wp2_with (at_builtin;refine yg rfl _ _ rfl hbuf3 32 32 rfl rfl rfl ?c2 ?_)
 case c2=>omega
 intro v4 w4 hbuf4 hbel4
 have f6:w4.cell? ⟨b,6,none⟩=some (.pointer (some ⟨bz,0,none⟩)):=(hbel4.cell (p:=⟨b,6,none⟩) hbB).trans d6
 have hlt4:b<w4.heap.size:=by have:=hbel4.size;omega
 have hbel34:=hbel3.trans hbel4
 have hcall:=yI hE hs hw (k:=5) (kM hz hbel34) hbuf4 (hr.on hbel34) (by omega) (by rw[HM1.out];exact HL.out)
 have HC2:Hid (Calls Tryz.prog 158 #[v4,.pointer (some ⟨bz,0,none⟩),.int .i64 5] w4 (Wrote kk B w4 (m1++[32]++(Tp.held (Tp.isLow 5 [y]) (Tp.pxs [y])).flatten))):=hcall
 clear hcall hbuf3 hbuf4 d5 d6 hml
 go_wp2_with fail
 refine HC2.out.mono ?_
 rintro e w5 ⟨v5,rfl,hbuf5,hbel5⟩
 rw[HM1.out]at hbuf5
 have HB:Hid (Buf kk w5 B v5 (l++[110,111,116]++[32]++(Tp.held (Tp.isLow 5 [y]) (Tp.pxs [y])).flatten)):=hbuf5
 clear hbuf5
 go_wp2_with fail
 go_ret
 exact⟨_,rfl,HB.out,hbel34.trans hbel5⟩
theorem uO {N:Nat}(hE:ExprW kk N) {pos:Nat}{op:List UInt8}{y z:X}(hs:SizeOf.sizeOf y<=N) (hw:Tp.WX [y]) (hs2:SizeOf.sizeOf z<=N) (hw2:Tp.WX [z]) {w:World}{B b:Nat}{v:Value}{l:List UInt8}(hx:Ex1 w B ⟨5,pos,0,[],[],op,[y],[z],[]⟩ b) (hb:Buf kk w B v l) (hr:Wr B w)
  (hl:(l++(Tp.held (Tp.isLow (Tp.lvl op) [y]) (Tp.pxs [y])).flatten++[32]++op++[32]++(Tp.held (Tp.isLow (Tp.lvl op+1) [z]) (Tp.pxs [z])).flatten).length<=1000000000) :
  Calls Tryz.prog 111 #[v,.pointer (some ⟨b,0,none⟩)] w (Wrote kk B w (l++(Tp.held (Tp.isLow (Tp.lvl op) [y]) (Tp.pxs [y])).flatten++[32]++op++[32]++(Tp.held (Tp.isLow (Tp.lvl op+1) [z]) (Tp.pxs [z])).flatten)):=by
 obtain⟨av,ls,rs,gs,hbB,hblk,hle,hri,_⟩:=hx.node
 obtain⟨bz,rfl,hz⟩:=kN hle
 obtain⟨br,rfl,hz2⟩:=kN hri
 have c0:w.cell? ⟨b,0,none⟩=some (.int .i64 5):=za hblk
 have c5:w.cell? ⟨b,5,none⟩=some (.string (bs op)):=za hblk
 have c6:w.cell? ⟨b,6,none⟩=some (.pointer (some ⟨bz,0,none⟩)):=za hblk
 have c7:w.cell? ⟨b,7,none⟩=some (.pointer (some ⟨br,0,none⟩)):=za hblk
 have hlt:=zc hblk
 have hlv:=Tp.lvl_le op
 have hlvi:(Tp.lvl op:Int)<=5:=by omega
 obtain⟨p1,hp1⟩:∃ p1,p1=(Tp.held (Tp.isLow (Tp.lvl op) [y]) (Tp.pxs [y])).flatten:=⟨_,rfl⟩
 obtain⟨p2,hp2⟩:∃ p2,p2=(Tp.held (Tp.isLow (Tp.lvl op+1) [z]) (Tp.pxs [z])).flatten:=⟨_,rfl⟩
 have HP1:Hid (p1=(Tp.held (Tp.isLow (Tp.lvl op) [y]) (Tp.pxs [y])).flatten):=hp1
 have HP2:Hid (p2=(Tp.held (Tp.isLow (Tp.lvl op+1) [z]) (Tp.pxs [z])).flatten):=hp2
 rw[<-hp1,<-hp2]at hl ⊢
 simp only [List.length_append,List.length_singleton]at hl
 clear hblk hp1 hp2
 go_enter Tryz.func111,Tryz.ntmps111
 go_wp2_with fail
 refine(yV w op hr.lv).mono ?_
 rintro e w1 ⟨rfl,hb1⟩
 have hbB1:Bw kk B w w1:=Bw.of hb1 hb.2
 have d6:w1.cell? ⟨b,6,none⟩=some (.pointer (some ⟨bz,0,none⟩)):=(hbB1.cell (p:=⟨b,6,none⟩) hbB).trans c6
 have hlt1:b<w1.heap.size:=by have:=hbB1.size;omega
 have hcall:=yI hE hs hw (k:=Tp.lvl op) (kM hz hbB1) (hb.below hb1) (hr.on hbB1) (by omega) (by rw[<-HP1.out];simp only [List.length_append];omega)
 rw[<-HP1.out]at hcall
 have HC:Hid (Calls Tryz.prog 158 #[v,.pointer (some ⟨bz,0,none⟩),.int .i64 (Tp.lvl op:Int)] w1 (Wrote kk B w1 (l++p1))):=hcall
 clear hcall
 go_wp2_with fail
 refine HC.out.mono ?_
 rintro e w2 ⟨v2,rfl,hbuf2,hbel2⟩
 obtain⟨m1,hm1⟩:∃ m1,m1=l++p1:=⟨_,rfl⟩
 rw[<-hm1]at hbuf2
 have hml1:m1.length=l.length+p1.length:=by rw[hm1];simp
 have HM1:Hid (m1=l++p1):=hm1
 have hB2:=hbB1.trans hbel2
 clear hm1 d6
 go_wp2_with (at_builtin;refine yg rfl _ _ rfl hbuf2 32 32 rfl rfl rfl ?c1 ?_)
 case c1=>omega
 intro v3 w3 hbuf3 hbel3
 have hB3:=hB2.trans hbel3
 have d5:w3.cell? ⟨b,5,none⟩=some (.string (bs op)):=(hB3.cell (p:=⟨b,5,none⟩) hbB).trans c5
 have hlt3:b<w3.heap.size:=by have:=hB3.size;omega
 clear hbuf2
 go_wp2_with (at_builtin;refine yt rfl _ _ rfl hbuf3 op rfl rfl ?c2 ?_)
 case c2=>simp;omega
 intro v4 w4 hbuf4 hbel4
 have hB4:=hB3.trans hbel4
 obtain⟨m2,hm2⟩:∃ m2,m2=m1++[32]++op:=⟨_,rfl⟩
 have hbuf4':Buf kk w4 B v4 m2:=by rw[hm2];simpa using hbuf4
 have hml2:m2.length=m1.length+1+op.length:=by rw[hm2];simp;omega
 have HM2:Hid (m2=m1++[32]++op):=hm2
 clear hm2 hbuf4 hbuf3 d5
 go_wp2_with (at_builtin;refine yg rfl _ _ rfl hbuf4' 32 32 rfl rfl rfl ?c3 ?_)
 case c3=>omega
 intro v5 w5 hbuf5 hbel5
 have hB5:=hB4.trans hbel5
 have d7:w5.cell? ⟨b,7,none⟩=some (.pointer (some ⟨br,0,none⟩)):=(hB5.cell (p:=⟨b,7,none⟩) hbB).trans c7
 have hlt5:b<w5.heap.size:=by have:=hB5.size;omega
 have hcall:=yI hE hs2 hw2 (k:=Tp.lvl op+1) (kM hz2 hB5) hbuf5 (hr.on hB5) (by omega) (by rw[<-HP2.out];simp only [List.length_append,List.length_singleton];omega)
 rw[<-HP2.out]at hcall
 have HC2:Hid (Calls Tryz.prog 158 #[v5,.pointer (some ⟨br,0,none⟩),.int .i64 ((Tp.lvl op:Int)+1)] w5 (Wrote kk B w5 (m2++[32]++p2))):=hcall
 clear hcall hbuf5 hbuf4' hml1 hml2 hl
 go_wp2_with fail
 refine HC2.out.mono ?_
 rintro e w6 ⟨v6,rfl,hbuf6,hbel6⟩
 rw[HM2.out,HM1.out]at hbuf6
 have HB:Hid (Buf kk w6 B v6 (l++p1++[32]++op++[32]++p2)):=hbuf6
 clear hbuf6
 go_wp2_with fail
 go_ret
 exact⟨_,rfl,HB.out,hB5.trans hbel6⟩
theorem px_len:∀(l:List X),Tp.WX l->l.length<=(Tp.commas (Tp.px l)).flatten.length+1:=by
 intro l
 induction l with
 | nil=>intro _;simp
 | cons x l ih =>
  intro h
  have h2:Tp.WX l:=by obtain⟨⟩:=x;rw[Tp.WX]at h;exact h.2
  cases l with
  | nil=>simp
  | cons y l =>
   have:=ih h2
   rw[Tp.px_cons,Tp.px_cons,Tp.commas_cons,<-Tp.px_cons]
   simp[Tp.mComma,Tp.sp]at this ⊢
   omega
theorem xQ {N:Nat}(hE:ExprW kk N) {pos:Nat}{m nm:List UInt8}{ar:List X}(hs:SizeOf.sizeOf ar<=N) (hw:Tp.WX ar) {w:World}{B b:Nat}{v:Value}{l:List UInt8}(hx:Ex1 w B ⟨6,pos,0,m,nm,[],[],[],ar⟩ b) (hb:Buf kk w B v l) (hr:Wr B w) (hl:(l++(Tp.ref m nm).flatten++[40]++(Tp.commas (Tp.px ar)).flatten++[41]).length<=1000000000) :
  Calls Tryz.prog 111 #[v,.pointer (some ⟨b,0,none⟩)] w (Wrote kk B w (l++(Tp.ref m nm).flatten++[40]++(Tp.commas (Tp.px ar)).flatten++[41])):=by
 obtain⟨av,ls,rs,gs,hbB,hblk,_,_,har,hrow⟩:=hx.node
 obtain⟨aa,ac,rfl⟩:=hrow.shape
 have c0:w.cell? ⟨b,0,none⟩=some (.int .i64 6):=za hblk
 have c8:w.cell? ⟨b,8,none⟩=some (.slice aa gs.length ac):=za hblk
 have hlt:=zc hblk
 have hf:=jK m nm
 have hcall:=kR hb b m nm (za hblk) (za hblk) hbB (by simp only [List.length_append]at hl;omega)
 have HC:Hid (Calls Tryz.prog 156 #[v,.pointer (some ⟨b,0,none⟩)] w (Wrote kk B w (l++(Tp.ref m nm).flatten))):=hcall
 obtain⟨m1,hm1⟩:∃ m1,m1=l++(Tp.ref m nm).flatten:=⟨_,rfl⟩
 obtain⟨p1,hp1⟩:∃ p1,p1=(Tp.commas (Tp.px ar)).flatten:=⟨_,rfl⟩
 have HM1:Hid (m1=l++(Tp.ref m nm).flatten):=hm1
 have HP1:Hid (p1=(Tp.commas (Tp.px ar)).flatten):=hp1
 rw[<-hm1,<-hp1]at hl ⊢
 simp only [List.length_append,List.length_singleton]at hl
 have hgl:gs.length=ar.length:=RepL.len _ _ har
 have HARGS:Hid (∀ w' v',Bw kk B w w'->Buf kk w' B v' (m1++[40])->Calls Tryz.prog 157 #[v',.slice aa gs.length ac] w' (Wrote kk B w' (m1++[40]++p1))):=by
  intro w' v' hbel hbuf
  rcases hrow with⟨q1,q2,q3⟩|⟨g,cap,cur,q1,q2,q3,q4,q5,q6,q7⟩
  ·have:ar=[]:=List.eq_nil_of_length_eq_zero (by omega)
   rw[q1]
   have e:p1=[]:=by rw[HP1.out,this];simp[Tp.px,Tp.commas]
   rw[e,List.append_nil]
   exact vQ hbuf
  ·cases q1
   rw[HP1.out]
   exact vP hE hs hw (kM har hbel) hgl (by have:=px_len ar hw;rw[<-HP1.out]at this;omega) q2 ((hbel.block g q2).trans q3) (by simpa using q7) hbuf (hr.on hbel) (by rw[<-HP1.out];simp only [List.length_append,List.length_singleton];omega)
 clear hcall hblk hf hm1 hp1 hrow har hgl
 go_enter Tryz.func111,Tryz.ntmps111
 go_wp2_with fail
 refine HC.out.mono ?_
 rintro e w3 ⟨v3,rfl,hbuf3,hbel3⟩
 rw[<-HM1.out]at hbuf3
 clear c0
 go_wp2_with (at_builtin;refine yg rfl _ _ rfl hbuf3 40 40 rfl rfl rfl ?c1 ?_)
 case c1=>omega
 intro v4 w4 hbuf4 hbel4
 have hbel34:=hbel3.trans hbel4
 have d8:w4.cell? ⟨b,8,none⟩=some (.slice aa gs.length ac):=(hbel34.cell (p:=⟨b,8,none⟩) hbB).trans c8
 have hlt4:b<w4.heap.size:=by have:=hbel34.size;omega
 have hcall:=HARGS.out w4 v4 hbel34 hbuf4
 have HC2:Hid (Calls Tryz.prog 157 #[v4,.slice aa gs.length ac] w4 (Wrote kk B w4 (m1++[40]++p1))):=hcall
 clear hcall hbuf3 hbuf4
 go_wp2_with fail
 refine HC2.out.mono ?_
 rintro e w5 ⟨v5,rfl,hbuf5,hbel5⟩
 obtain⟨m2,hm2⟩:∃ m2,m2=m1++[40]++p1:=⟨_,rfl⟩
 rw[<-hm2]at hbuf5
 have hml2:m2.length=m1.length+1+p1.length:=by rw[hm2];simp;omega
 have HM2:Hid (m2=m1++[40]++p1):=hm2
 clear hm2
 go_wp2_with (at_builtin;refine yg rfl _ _ rfl hbuf5 41 41 rfl rfl rfl ?c2 ?_)
 case c2=>omega
 intro v6 w6 hbuf6 hbel6
 have HB:Hid (Buf kk w6 B v6 (m2++[41])):=hbuf6
 clear hbuf6 hbuf5 hml2
 go_wp2_with fail
 go_ret
 exact⟨_,rfl,by rw[<-HM2.out];exact HB.out,(hbel34.trans hbel5).trans hbel6⟩
theorem ys:∀ N,ExprW kk N:=by
 intro N
 induction N with
 | zero=>intro x h;obtain⟨⟩:=x;simp at h
 | succ N ih =>
  intro x hs hw w B b v l hx hb hr hl
  have s1:=Tp.sz_left x
  have s2:=Tp.sz_right x
  have s3:=Tp.sz_args x
  obtain⟨code,pos,n,m,nm,op,le,ri,ar⟩:=x
  rw[Tp.WX]at hw
  simp only at s1 s2 s3
  rcases hw.1 with⟨rfl,h1⟩|⟨rfl,h1⟩|⟨rfl,h1⟩|⟨rfl,h1⟩|⟨rfl,h1⟩|⟨rfl,h1⟩
  ·obtain⟨h2,rfl,rfl,rfl,rfl,rfl,rfl⟩:=h1
   rw[Tp.pxs_1]at hl ⊢
   have e:[Tp.dec n].flatten=Tp.dec n:=by simp
   rw[e]at hl ⊢
   exact uM h2 hx hb hr hl
  ·obtain⟨rfl,h2,rfl,rfl,rfl,rfl⟩:=h1
   rw[Tp.pxs_2]at hl ⊢
   exact uL hx hb hl
  ·obtain⟨rfl,h2,rfl,h3,h4,rfl,rfl⟩:=h1
   obtain⟨y,rfl⟩:=Tp.len1 h4
   have z1:=Tp.sz1 y
   have e:l++(Tp.pxs [⟨3,pos,0,m,nm,[],[y],[],[]⟩]).flatten=l++(Tp.ref m nm).flatten++[91]++(Tp.pxs [y]).flatten++[93]:=by rw[Tp.pxs_3];simp[Tp.mLb,Tp.mRb]
   rw[e]at hl ⊢
   exact vO ih (by omega) h3 hx hb hr hl
  ·obtain⟨rfl,rfl,rfl,h2,h3,h4,rfl,rfl⟩:=h1
   obtain⟨y,rfl⟩:=Tp.len1 h4
   have z1:=Tp.sz1 y
   rcases h2 with rfl|rfl
   ·have e:l++(Tp.pxs [⟨4,pos,0,[],[],Tp.mMinus,[y],[],[]⟩]).flatten=l++[45]++(Tp.held (Tp.isLow 5 [y]) (Tp.pxs [y])).flatten:=by rw[Tp.pxs_4,if_neg (by decide)];simp[Tp.mMinus]
    rw[e]at hl ⊢
    exact xP ih (by omega) h3 hx hb hr hl
   ·have e:l++(Tp.pxs [⟨4,pos,0,[],[],Tp.wNot,[y],[],[]⟩]).flatten=l++[110,111,116]++[32]++(Tp.held (Tp.isLow 5 [y]) (Tp.pxs [y])).flatten:=by rw[Tp.pxs_4,if_pos rfl];simp[Tp.wNot,Tp.sp]
    rw[e]at hl ⊢
    exact uN ih (by omega) h3 hx hb hr hl
  ·obtain⟨rfl,rfl,rfl,h2,h3,h4,h5,h6,rfl⟩:=h1
   obtain⟨y,rfl⟩:=Tp.len1 h4
   obtain⟨z,rfl⟩:=Tp.len1 h6
   have z1:=Tp.sz1 y
   have z2:=Tp.sz1 z
   have e:l++(Tp.pxs [⟨5,pos,0,[],[],op,[y],[z],[]⟩]).flatten=l++(Tp.held (Tp.isLow (Tp.lvl op) [y]) (Tp.pxs [y])).flatten++[32]++op++[32]++(Tp.held (Tp.isLow (Tp.lvl op+1) [z]) (Tp.pxs [z])).flatten:=by rw[Tp.pxs_5];simp[Tp.sp]
   rw[e]at hl ⊢
   exact uO ih (by omega) h3 (by omega) h5 hx hb hr hl
  ·obtain⟨rfl,h2,rfl,rfl,rfl,h3⟩:=h1
   have e:l++(Tp.pxs [⟨6,pos,0,m,nm,[],[],[],ar⟩]).flatten=l++(Tp.ref m nm).flatten++[40]++(Tp.commas (Tp.px ar)).flatten++[41]:=by rw[Tp.pxs_6];simp[Tp.mLp,Tp.mRp]
   rw[e]at hl ⊢
   exact xQ ih (by omega) h3 hx hb hr hl
end Go.Proofs.YthnoedjbhbkdeaaGreatDoor
