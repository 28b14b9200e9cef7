import Derived.Test.YtmocelfkmdpogaaGreatDoorKJb
import Derived.Deep.RegionLawGrows
import Derived.Defers
import Derived.Recover
set_option maxRecDepth 100000
set_option maxHeartbeats 4000000
namespace Go.Proofs.YtmocelfkmdpogaaGreatDoor.Jo
open Go.RowKit
open Ob (Bs)
def VUL (B:Nat) (us:List Ob.Us) (v:Value) (w:World):Prop:=∃ cs,RepU w (fun b=>B<=b/\v.ownBlock≠some b) us cs/\w.ownsRow B 128 3 v us.length cs
theorem VUL.next {B C:Nat}{us:List Ob.Us}{v v':Value}{w w':World}{u:Ob.Us}{na:Option Addr}{nc:Nat}(hC:∀ g,v.ownBlock=some g->g<C) (hBC:B<=C) (cs:List Value) (h:RepU w (fun b=>B<=b/\v.ownBlock≠some b) us cs)
  (hn:w.ownsRow C 9 1 (.slice na u.names.length nc) u.names.length (cellsOf stC u.names)) (hx:Exact v v' w w') (ho:w'.ownsRow B 128 3 v' (us.length+1) (cs++[.string (bs u.name),.string (bs u.need),.slice na u.names.length nc])):VUL B (us++[u]) v' w':=by
 have hD:∀ b,(B<=b/\v.ownBlock≠some b)->b<w.heap.size->w'.heap[b]?=w.heap[b]?/\(B<=b/\v'.ownBlock≠some b):=fun b hb hl=>⟨hx.block b hl hb.2,hb.1,fun e=>(hx.lies b e).elim hb.2 (Nat.not_le.2 hl)⟩
 refine⟨_,RepU.app _ [u] _ _ (RepU.mono hD _ _ h) ⟨_,[],rfl,?_,rfl⟩,by simpa using ho⟩
 exact(Row.of_owns hn).mono (fun b hb hl=>hD b ⟨by omega,fun e=>by have:=hC b e;omega⟩ hl)
theorem qz {w:World}{rb:Nat}{l:Bs}(h:Rst w rb l) (most:Nat) (hm:most<=10000) :
  Calls Tryz.prog 137 #[.pointer (some ⟨rb,0,none⟩),.int .i64 (most:Int),.func (.func 138) #[.pointer (some ⟨rb,0,none⟩)] #[]] w fun e w' =>
   Rp rb w (VUL w.heap.size) (Ob.listR most Ob.useR l) e w':=by
 have hrl:=zc h.c
 have HC:=Lib.hid (kK h most (by omega))
 have HR:Hid (Ob.listR most Ob.useR l=(Ob.manyR most l).bind fun x=>Ob.repR Ob.useR x.1 x.2):=rfl
 have HB:Hid (∀ n r,Ob.manyR most l=some (n,r)->n<=most):=fun n r he=>jc he
 generalize Ob.listR most Ob.useR l=resT at *
 generalize Ob.manyR most l=res at *
 go_enter Tryz.func137,Tryz.ntmps137
 go_wp2_with fail
 refine HC.out.mono ?_
 intro e w1 hq
 rcases res with _|⟨n,r⟩
 ·obtain⟨rfl,hx⟩:=hq
  unfold thrown
  go_wp2_with fail
  rw[HR.out]
  exact⟨rfl,rfl,hx⟩
 ·obtain⟨v,rfl,rfl,hst,hx⟩:=hq
  have hnm:=HB.out n r rfl
  have HR1:Hid (resT=Ob.repR Ob.useR n r):=HR
  have HST:=Lib.hid hst
  have HX:=Lib.hid hx
  clear HB HR HC hst hx h
  go_wp2_with fail
  go_loopg [7,11] n (fun k v vi wr=>∃(i:Nat) (xs:List Ob.Us) (r':Bs),i<=n/\k=n - i/\xs.length=i/\vi=.int .i64 (i:Int)/\Hid (VUL w.heap.size xs v wr)/\Hid (Rst wr rb r')/\Hid (Ext rb w wr)/\Hid (app xs (Ob.repR Ob.useR (n - i) r')=resT))
  case atStart=>exact⟨0,[],r,by omega,by omega,rfl,rfl,⟨[],rfl,World.ownsRow_nil _ _ _ _⟩,HST,HX,by rw[HR1.out,j9];exact rfl⟩
  case round =>
   obtain⟨i,xs,r',hid,hk,hxl,rfl,HO,HS,HE,HA⟩:=hrel
   clear HST HX HR1
   obtain⟨cs,hrep,hown⟩:=HO.out
   obtain⟨ao,cap,rfl⟩:=zl hown
   by_cases hlt:i<n
   ·have hlt':(i:Int)<(n:Int):=by omega
    have HC:=Lib.hid (use_any HS.out)
    have HA1:Hid (app xs (Ob.repR Ob.useR ((n - (i+1))+1) r')=resT):=by rw[show n - (i+1)+1=n - i by omega];exact HA
    obtain⟨res,hres⟩:∃ res,Ob.useR r'=res:=⟨_,rfl⟩
    rw[hres]at HC
    have HRES:=Lib.hid hres
    have HREP:=Lib.hid hrep
    have HOWN:=Lib.hid hown
    clear hres HS HA hrep hown HO
    go_wp2_with fail
    refine HC.out.mono ?_
    intro e w2 hq
    rcases res with _|⟨x,r2⟩
    ·obtain⟨rfl,hx⟩:=hq
     unfold thrown
     go_wp2_with fail
     rw[<-HA1.out,jA HRES.out]
     exact⟨rfl,rfl,HE.out.trans hx⟩
    ·obtain⟨v,rfl,hv,hst2,hx2⟩:=hq
     obtain⟨na,nc,hv,hnown⟩:=hv
     have HV:=Lib.hid hv
     clear hv
     rw[HV.out]
     have hown2:=zA HOWN.out hx2 hrl
     rw[hxl]at hown2
     have HREP2:=Lib.hid (RepU.mono (D':=fun b=>w.heap.size<=b/\(Value.slice ao xs.length cap).ownBlock≠some b) (fun b hb hl=>⟨hx2.block b hl (by omega),hb⟩) _ _ HREP.out)
     have HLT:=Lib.hid (owns_lt HOWN.out)
     have HNO:=Lib.hid hnown
     have HSZ:=Lib.hid HE.out.size
     have HE2:=Lib.hid (HE.out.trans hx2)
     have HST2:=Lib.hid hst2
     have HA2:Hid (app (xs++[x]) (Ob.repR Ob.useR (n - (i+1)) r2)=resT):=by rw[<-HA1.out];exact(kQ HRES.out).symm
     clear HC HA1 HRES HV HE hst2 hx2 HREP HOWN hnown
     subst hxl
     go_wp2_with (at_builtin;refine yc (size:=3) rfl _ _ 56 rfl Tryz.underlying56 Tryz.infoUse rfl (by decide) (by decide) rfl hown2 [.string (bs x.name),.string (bs x.need),.slice na x.names.length nc] rfl ?c1 rfl (by omega) HE2.out.size ?_)
     case c1=>intro u hu;simp at hu;rcases hu with rfl|rfl|rfl <;> rfl
     intro v' w3 hown3 hex3 hb3
     have HO3:Hid (VUL w.heap.size (xs++[x]) v' w3):=VUL.next HLT.out HSZ.out cs HREP2.out HNO.out hex3 hown3
     have HE3:=Lib.hid (HE2.out.trans' hb3)
     have HS3:Hid (Rst w3 rb r2):=HST2.out.belowB hb3 hrl
     clear hown3 hex3 hb3 hown2 HE2 HST2 HREP2 HNO HLT
     go_wp2_with fail
     go_roundg (n - (xs.length+1))
     case measure=>omega
     case rel=>exact⟨xs.length+1,xs++[x],r2,by omega,rfl,by simp,by go_num,HO3,HS3,HE3,HA2⟩
   ·have hlt':¬(i:Int)<(n:Int):=by omega
    have hei:i=n:=by omega
    have HA1:Hid (resT=some (xs,r')):=by
     show _=_
     rw[<-HA.out,hei,Nat.sub_self]
     simp[Ob.repR,app]
    clear HA hei hrep hown
    subst hxl
    go_wp2_with fail
    go_ret
    rw[HA1.out]
    exact⟨_,rfl,HO.out,HS.out,HE.out⟩
abbrev nl:Value:=.slice none 0 0
structure Parts (w:World) (D:Nat->Prop) (ss:List Ob.Sm) (us:List Ob.Us) (vs:List Ob.Gl) (ns:List Bs) (sv uv vv nv:Value):Prop where
 s:Row w D 44 3 sv ss.length (cellsOf smC ss)
 u:∃ ucs,RepU w D us ucs/\Row w D 128 3 uv us.length ucs
 v:Row w D 118 4 vv vs.length (cellsOf glC vs)
 n:Row w D 9 1 nv ns.length (cellsOf stC ns)
theorem Parts.mono {w w':World}{D D':Nat->Prop}{ss:List Ob.Sm}{us:List Ob.Us}{vs:List Ob.Gl}{ns:List Bs}{sv uv vv nv:Value}(h:Parts w D ss us vs ns sv uv vv nv) (hw:∀ b,D b->b<w.heap.size->w'.heap[b]?=w.heap[b]?/\D' b):Parts w' D' ss us vs ns sv uv vv nv :=
 ⟨h.s.mono hw,let ⟨ucs,h1,h2⟩:=h.u;⟨ucs,RepU.mono hw _ _ h1,h2.mono hw⟩,h.v.mono hw,h.n.mono hw⟩
structure OS (w0 w:World) (rb ob C:Nat) (r:Bs) (nm:Bs) (ss:List Ob.Sm) (us:List Ob.Us) (vs:List Ob.Gl) (ns:List Bs) (ps:List Ob.En) (sv uv vv pv nv:Value):Prop where
 blk:w.heap[ob]?=some (.cells #[.string (bs nm),sv,uv,vv,pv,nv,nl] 59 (0,0))
 pt:Parts w (fun b=>w0.heap.size<=b/\b≠ob/\b<C) ss us vs ns sv uv vv nv
 po:w.ownsRow C 156 3 pv ps.length (cellsOf enC ps)
 rst:Rst w rb r
 ext:Ext rb w0 w
 rbl:rb<w0.heap.size
 obl:w0.heap.size<=ob
 obC:ob<C
 CC:C<=w.heap.size
theorem OS.start {w0 w1:World}{rb:Nat}{r nm:Bs}(hr:rb<w0.heap.size) (h:Rst w1 rb r) (hx:Ext rb w0 w1) :
  OS w0 (w1.alloc (.cells #[.string (bs nm),nl,nl,nl,nl,nl,nl] 59)) rb w1.heap.size (w1.heap.size+1) r nm [] [] [] [] [] nl nl nl nl nl :=
 have hb:Below w1.heap.size w1 (w1.alloc (.cells #[.string (bs nm),nl,nl,nl,nl,nl,nl] 59)):=(Below.refl _ _).alloc (Nat.le_refl _) _
 ⟨zk _ _,⟨Or.inl ⟨rfl,rfl,rfl⟩,⟨[],rfl,Or.inl ⟨rfl,rfl,rfl⟩⟩,Or.inl ⟨rfl,rfl,rfl⟩,Or.inl ⟨rfl,rfl,rfl⟩⟩,World.ownsRow_nil _ _ _ _,h.ext hb,hx.trans (Ext.below hb),hr,hx.size,by omega,by simp⟩
theorem OS.base {w0 w w':World}{rb ob C i:Nat}{r r' nm:Bs}{ss:List Ob.Sm}{us:List Ob.Us}{vs:List Ob.Gl}{ns:List Bs}{sv uv vv nv x:Value}
  (h:OS w0 w rb ob C r nm ss us vs ns [] sv uv vv nl nv) (hx:Ext rb w w') (hr:Rst w' rb r') :
  Parts (w'.setCell ⟨ob,i,none⟩ x) (fun b=>w0.heap.size<=b/\b≠ob/\b<w'.heap.size) ss us vs ns sv uv vv nv/\w'.heap[ob]?=some (.cells #[.string (bs nm),sv,uv,vv,nl,nv,nl] 59 (0,0))/\Rst (w'.setCell ⟨ob,i,none⟩ x) rb r'/\Ext rb w0 (w'.setCell ⟨ob,i,none⟩ x)/\ob<w'.heap.size:=by
 have hob:=zi h.blk
 have hne:ob≠rb:=by have:=h.rbl;have:=h.obl;omega
 have hss:=hx.size
 refine⟨h.pt.mono (fun b hb hl=>⟨?_,hb.1,hb.2.1,by omega⟩),(hx.block ob hob hne).trans h.blk,hr.other ((Ext.refl ob w').set i x) (Ne.symm hne),(h.ext.trans hx).new ((Ext.refl ob w').set i x) h.obl,by omega⟩
 rw[Below.heap_setCell _ _ _ _ (by simpa using hb.2.1)]
 exact hx.block b hl (by have:=h.rbl;omega)
theorem xW {w0 w w':World}{ob i e k n:Nat}{x y:Value}{cs:List Value}(h:w'.ownsRow w.heap.size e k y n cs) (hob:ob<w.heap.size) (h0:w0.heap.size<=w.heap.size):Row (w'.setCell ⟨ob,i,none⟩ x) (fun b=>w0.heap.size<=b/\b≠ob/\b<w'.heap.size) e k y n cs :=
 (Row.of_owns h).mono (fun b hb hl=>⟨Below.heap_setCell _ _ _ _ (by simp;omega),by omega,by omega,hl⟩)
theorem OS.setS {w0 w w':World}{rb ob C:Nat}{r r' nm:Bs}{ss:List Ob.Sm}{sv:Value}(h:OS w0 w rb ob C r nm [] [] [] [] [] nl nl nl nl nl) (hx:Ext rb w w') (hr:Rst w' rb r') (ho:w'.ownsRow w.heap.size 44 3 sv ss.length (cellsOf smC ss)) :
  OS w0 (w'.setCell ⟨ob,1,none⟩ sv) rb ob w'.heap.size r' nm ss [] [] [] [] sv nl nl nl nl:=by
 obtain⟨h1,h2,h3,h4,h5⟩:=h.base (i:=1) (x:=sv) hx hr
 exact⟨zw 1 sv h2,⟨xW ho (zi h.blk) h.ext.size,h1.u,h1.v,h1.n⟩,World.ownsRow_nil _ _ _ _,h3,h4,h.rbl,h.obl,h5,by simp⟩
theorem OS.setU {w0 w w':World}{rb ob C:Nat}{r r' nm:Bs}{ss:List Ob.Sm}{us:List Ob.Us}{sv uv:Value}(h:OS w0 w rb ob C r nm ss [] [] [] [] sv nl nl nl nl) (hx:Ext rb w w') (hr:Rst w' rb r') (ho:VUL w.heap.size us uv w') :
  OS w0 (w'.setCell ⟨ob,2,none⟩ uv) rb ob w'.heap.size r' nm ss us [] [] [] sv uv nl nl nl:=by
 obtain⟨h1,h2,h3,h4,h5⟩:=h.base (i:=2) (x:=uv) hx hr
 obtain⟨ucs,q1,q2⟩:=ho
 have hob:=zi h.blk
 have h0:=h.ext.size
 exact⟨zw 2 uv h2,⟨h1.s,⟨ucs,RepU.mono (fun b hb hl=>⟨Below.heap_setCell _ _ _ _ (by simp;omega),by omega,by omega,hl⟩) _ _ q1,xW q2 hob h0⟩,h1.v,h1.n⟩,World.ownsRow_nil _ _ _ _,h3,h4,h.rbl,h.obl,h5,by simp⟩
theorem OS.setV {w0 w w':World}{rb ob C:Nat}{r r' nm:Bs}{ss:List Ob.Sm}{us:List Ob.Us}{vs:List Ob.Gl}{sv uv vv:Value}(h:OS w0 w rb ob C r nm ss us [] [] [] sv uv nl nl nl) (hx:Ext rb w w') (hr:Rst w' rb r') (ho:w'.ownsRow w.heap.size 118 4 vv vs.length (cellsOf glC vs)) :
  OS w0 (w'.setCell ⟨ob,3,none⟩ vv) rb ob w'.heap.size r' nm ss us vs [] [] sv uv vv nl nl:=by
 obtain⟨h1,h2,h3,h4,h5⟩:=h.base (i:=3) (x:=vv) hx hr
 exact⟨zw 3 vv h2,⟨h1.s,h1.u,xW ho (zi h.blk) h.ext.size,h1.n⟩,World.ownsRow_nil _ _ _ _,h3,h4,h.rbl,h.obl,h5,by simp⟩
theorem OS.setN {w0 w w':World}{rb ob C:Nat}{r r' nm:Bs}{ss:List Ob.Sm}{us:List Ob.Us}{vs:List Ob.Gl}{ns:List Bs}{sv uv vv nv:Value}(h:OS w0 w rb ob C r nm ss us vs [] [] sv uv vv nl nl) (hx:Ext rb w w') (hr:Rst w' rb r') (ho:w'.ownsRow w.heap.size 9 1 nv ns.length (cellsOf stC ns)) :
  OS w0 (w'.setCell ⟨ob,5,none⟩ nv) rb ob w'.heap.size r' nm ss us vs ns [] sv uv vv nl nv:=by
 obtain⟨h1,h2,h3,h4,h5⟩:=h.base (i:=5) (x:=nv) hx hr
 exact⟨zw 5 nv h2,⟨h1.s,h1.u,h1.v,xW ho (zi h.blk) h.ext.size⟩,World.ownsRow_nil _ _ _ _,h3,h4,h.rbl,h.obl,h5,by simp⟩
theorem OS.read {w0 w w':World}{rb ob C:Nat}{r r' nm:Bs}{ss:List Ob.Sm}{us:List Ob.Us}{vs:List Ob.Gl}{ns:List Bs}{ps:List Ob.En}{sv uv vv pv nv:Value}(h:OS w0 w rb ob C r nm ss us vs ns ps sv uv vv pv nv) (hx:Ext rb w w') (hr:Rst w' rb r'):OS w0 w' rb ob C r' nm ss us vs ns ps sv uv vv pv nv:=by
 have hne:ob≠rb:=by have:=h.rbl;have:=h.obl;omega
 have hC:=h.obC
 exact⟨(hx.block ob (zi h.blk) hne).trans h.blk,h.pt.mono (fun b hb hl=>⟨hx.block b hl (by have:=h.rbl;omega),hb⟩),zA h.po hx (by have:=h.rbl;have:=h.obl;omega),hr,h.ext.trans hx,h.rbl,h.obl,hC,Nat.le_trans h.CC hx.size⟩
theorem OS.snoc {w0 w w':World}{rb ob C:Nat}{r nm:Bs}{ss:List Ob.Sm}{us:List Ob.Us}{vs:List Ob.Gl}{ns:List Bs}{ps:List Ob.En}{sv uv vv pv pv' nv:Value}{x:Ob.En}(h:OS w0 w rb ob C r nm ss us vs ns ps sv uv vv pv nv) (hb:Below C w w') (ho:w'.ownsRow C 156 3 pv' (ps.length+1) (cellsOf enC ps++enC x)) :
  OS w0 (w'.setCell ⟨ob,4,none⟩ pv') rb ob C r nm ss us vs ns (ps++[x]) sv uv vv pv' nv:=by
 have hne:ob≠rb:=by have:=h.rbl;have:=h.obl;omega
 have hC:=h.obC
 have h0:=h.obl
 have hr:=h.rbl
 have hB:Below w0.heap.size w w':=hb.mono (by omega)
 refine⟨zw 4 pv' ((hb.block ob hC).trans h.blk),h.pt.mono (fun b hb' hl=>⟨(Below.heap_setCell _ _ _ _ (by simpa using hb'.2.1)).trans (hb.block b hb'.2.2),hb'⟩),?_,(h.rst.belowB hb (by omega)).other ((Ext.refl ob w').set 4 pv') (Ne.symm hne),(h.ext.trans' hB).new ((Ext.refl ob w').set 4 pv') h0,hr,h0,hC,by simpa using Nat.le_trans h.CC hb.size⟩
 rw[yA,List.length_append]
 exact zF ho (fun b h1 _ _=>Below.heap_setCell _ _ _ _ (by simp;omega))
theorem z7 {P:Program}{ops:Array Oper}{o:Oper}{a:Act}{w:World}{K:Act->World->Prop}{Q:Exit->Act->World->Prop}{E:Prop}
  (hg:o.guard=none) (s x:Operand) (t:TypeId) (hop:o.op=Op.call { callee:=Callee.builtin Builtin.append,args:=#[s,x],argTypes:=#[t,t] })
  (base:Nat) (e:TypeId) (i:TypeInfo) (z:Value) (size bytes:Nat) (ht:P.underlying t=some (.slice e)) (hi:P.info? e=some i) (hz:i.zero=some z)
  (hsize:i.size=size) (hby:i.bytes=bytes) (hzs:z.cells.size=size) (hsz:0<size)
  (v:Value) (n:Nat) (xs:List Value) (hs:a.eval s=v) (hown:w.ownsRow base e size v n xs)
  (ad:Addr) (m c:Nat) (news:List Value) (hx:a.eval x=.slice (some ad) m c) (hl:news.length=m * size) (hnews:∀ j u,news[j]?=some u->w.cell? (ad.add j)=some u) (h1:∀ u∈news,u.oneCell'=true)
  (h63:n+m<=maxLen) (hbytes:(n+m) * bytes<=140737488355328) (hbase:base<=w.heap.size)
  (hK:∀ v' w',w'.ownsRow base e size v' (n+m) (xs++news)->w.grownBy w' v.ownBlock->(∀ g,v'.ownBlock=some g->v.ownBlock=some g\/w.heap.size<=g)->K (a.put o.dst v') w') :
  if Region.wanted o (yielded ops a.tmps)=true then Oper.wp P o a w K Q else E:=by
 have hw:Region.wanted o (yielded ops a.tmps)=true:=by simp[Region.wanted,hg]
 rw[if_pos hw]
 obtain⟨v',w',r1,r2,r3,r4⟩:=yg (P:=P) w base t o.type e i z size bytes ht hi hz hsize hby hzs hsz v n xs hown ad m c news hl hnews h1 h63 hbytes hbase
 unfold Oper.wp
 simp[execOp,hop,resolve,invoke,builtin,hs,hx,r1,Result.andThen]
 exact hK v' w' r2 r3 r4
theorem yV {P:Program}{ops:Array Oper}{o:Oper}{a:Act}{w:World}{K:Act->World->Prop}{Q:Exit->Act->World->Prop}{E:Prop}(hg:o.guard=none) (h:Oper.wp P o a w K Q):if Region.wanted o (yielded ops a.tmps)=true then Oper.wp P o a w K Q else E:=by
 rw[if_pos (by simp[Region.wanted,hg])];exact h
theorem zV {w:World}{a:Addr}{v:Value}(h:w.cell? a=some v) (ob:Obj):(w.alloc ob).cell? a=some v:=(World.cell?_alloc_lt _ _ _ (World.block_lt_of_cell? _ _ h)).trans h
theorem zu (w:World):Below w.heap.size w w.drew:=(Below.refl _ _).drew
theorem news3 (w:World) (e:Nat) (v0 v1 v2:Value):∀ j u,[v0,v1,v2][j]?=some u->(w.alloc (.cells #[v0,v1,v2] e)).cell? ((⟨w.heap.size,0,none⟩:Addr).add j)=some u:=by
 intro j u hj
 match j,hj with
 | 0,hj=>simp at hj;subst hj;simp[Addr.add]
 | 1,hj=>simp at hj;subst hj;simp[Addr.add]
 | 2,hj=>simp at hj;subst hj;simp[Addr.add]
theorem rep_len {α:Type}{one:Ob.Rd α}:∀ {n:Nat}{l r:Bs}{xs:List α},Ob.repR one n l=some (xs,r)->xs.length=n:=by
 intro n
 induction n with
 | zero=>intro l r xs h;simp[Ob.repR]at h;rw[h.1];rfl
 | succ n ih =>
  intro l r xs h
  simp only [Ob.repR]at h
  rcases h1:one l with _|⟨x,r1⟩
  ·rw[h1]at h;simp at h
  ·rw[h1]at h
   simp only [Option.bind_some]at h
   rcases h2:Ob.repR one n r1 with _|⟨ys,r2⟩
   ·rw[h2]at h;simp at h
   ·rw[h2]at h
    simp at h
    rw[<-h.1]
    simp[ih h2]
theorem list_le {α:Type}{one:Ob.Rd α}{most:Nat}{l r:Bs}{xs:List α}(h:Ob.listR most one l=some (xs,r)):xs.length<=most:=by
 unfold Ob.listR at h
 rcases h1:Ob.manyR most l with _|⟨n,r1⟩
 ·rw[h1]at h;simp at h
 ·rw[h1]at h
  simp only [Option.bind_some]at h
  rw[rep_len h]
  exact jc h1
theorem entry_bad {w:World}{rb:Nat}{l:Bs}(h:Rst w rb l) (hr:Hid (Ob.enR l=none)) :
  Calls Tryz.prog 142 #[.pointer (some ⟨rb,0,none⟩)] w fun e w'=>e=thrown/\Ext rb w w':=by
 refine(uM h).mono ?_
 intro e w' hq
 rw[hr.out]at hq
 exact hq
theorem entry_ok {w:World}{rb:Nat}{l r:Bs}{x:Ob.En}(h:Rst w rb l) (hr:Hid (Ob.enR l=some (x,r))) :
  Calls Tryz.prog 142 #[.pointer (some ⟨rb,0,none⟩)] w fun e w'=>e=.returned (.agg #[.int .i64 x.at',.int .i64 x.args,.int .i64 x.locals])/\Rst w' rb r/\Ext rb w w':=by
 refine(uM h).mono ?_
 intro e w' hq
 rw[hr.out]at hq
 obtain⟨v,rfl,hv,h1,h2⟩:=hq
 exact⟨by rw[show v=_ from hv],h1,h2⟩
theorem vd {w:World}{base e size n:Nat}{v:Value}{xs:List Value}(h:w.ownsRow base e size v n xs) (ob:Obj):(w.alloc ob).ownsRow base e size v n xs:=yj h ((Below.refl _ _).alloc (Nat.le_refl _) _)
def VOb (B:Nat) (o:Ob.O) (v:Value) (w:World):Prop:=∃(ob C:Nat) (sv uv vv pv nv cv:Value),v=.pointer (some ⟨ob,0,none⟩)/\B<=ob/\ob<C/\w.heap[ob]?=some (.cells #[.string (bs o.name),sv,uv,vv,pv,nv,cv] 59 (0,0)) /\
 Parts w (fun b=>B<=b/\b≠ob/\b<C) o.syms o.uses o.vars o.names sv uv vv nv/\Row w (fun b=>C<=b) 156 3 pv o.procs.length (cellsOf enC o.procs)/\Row w (fun b=>C<=b) 54 3 cv o.code.length (cellsOf inC o.code)
theorem OS.done {w0 w w':World}{rb ob C:Nat}{r r' nm:Bs}{ss:List Ob.Sm}{us:List Ob.Us}{vs:List Ob.Gl}{ns:List Bs}{ps:List Ob.En}{cs:List Ob.In}{sv uv vv pv nv cv:Value}(h:OS w0 w rb ob C r nm ss us vs ns ps sv uv vv pv nv) (hx:Ext rb w w') (hr:Rst w' rb r') (ho:w'.ownsRow w.heap.size 54 3 cv cs.length (cellsOf inC cs)) :
  VOb w0.heap.size ⟨nm,ss,us,vs,ps,ns,cs⟩ (.pointer (some ⟨ob,0,none⟩)) (w'.setCell ⟨ob,6,none⟩ cv)/\Rst (w'.setCell ⟨ob,6,none⟩ cv) rb r'/\Ext rb w0 (w'.setCell ⟨ob,6,none⟩ cv):=by
 have h1:=h.read hx hr
 have hne:ob≠rb:=by have:=h.rbl;have:=h.obl;omega
 have hC:=h.obC
 have hCC:=h.CC
 refine⟨⟨ob,C,sv,uv,vv,pv,nv,cv,rfl,h.obl,hC,zw 6 cv h1.blk,h1.pt.mono (fun b hb hl=>⟨Below.heap_setCell _ _ _ _ (by simpa using hb.2.1),hb⟩),(Row.of_owns h1.po).mono (fun b hb hl=>⟨Below.heap_setCell _ _ _ _ (by simp;omega),hb.1⟩),(Row.of_owns ho).mono (fun b hb hl=>⟨Below.heap_setCell _ _ _ _ (by simp;omega),by omega⟩)⟩,hr.other ((Ext.refl ob w').set 6 cv) (Ne.symm hne),h1.ext.new ((Ext.refl ob w').set 6 cv) h.obl⟩
theorem object_any {w:World}{rb:Nat}{l:Bs}(h:Rst w rb l) :
  Calls Tryz.prog 90 #[.pointer (some ⟨rb,0,none⟩)] w fun e w'=>Rp rb w (VOb w.heap.size) (Ob.obR l) e w':=by
 have hmf:∀(fn:Fn) (first cap:Array Value) (w:World),(Instr.makeFunc fn first cap).run Tryz.prog w=.ok (.func fn first cap) w:=fun _ _ _ _=>rfl
 obtain⟨i3,hi3,hz30,hz31,hz32⟩:=info_parts Tryz.infoEntry
 have hrl:=zc h.c
 have HR:Hid (Ob.obR l=(Ob.txtR l).bind fun n=>(Ob.listR 20 Ob.symR n.2).bind fun s=>(Ob.listR 6 Ob.useR s.2).bind fun u=>(Ob.listR 10 Ob.glR u.2).bind fun v=>(Ob.listR 10 Ob.txtR v.2).bind fun m=>(Ob.repR Ob.enR m.1.length m.2).bind fun p=>(Ob.listR 4000 Ob.inR p.2).map fun c=>(⟨n.1,s.1,u.1,v.1,p.1,m.1,c.1⟩,c.2)):=rfl
 have HC:=Lib.hid (kD h)
 generalize Ob.obR l=resT at *
 generalize Ob.txtR l=res at *
 clear h
 go_enter Tryz.func90,Tryz.ntmps90
 go_wp2_with fail
 refine HC.out.mono ?_
 intro e w1 hq
 rcases res with _|⟨nm,r1⟩
 ·obtain⟨rfl,hx⟩:=hq
  unfold thrown
  go_wp2_with fail
  rw[HR.out]
  exact⟨rfl,rfl,hx⟩
 ·obtain⟨v,rfl,rfl,hst,hx⟩:=hq
  have HR1:Hid (resT=(Ob.listR 20 Ob.symR r1).bind fun s=>(Ob.listR 6 Ob.useR s.2).bind fun u=>(Ob.listR 10 Ob.glR u.2).bind fun v=>(Ob.listR 10 Ob.txtR v.2).bind fun m=>(Ob.repR Ob.enR m.1.length m.2).bind fun p=>(Ob.listR 4000 Ob.inR p.2).map fun c=>(⟨nm,s.1,u.1,v.1,p.1,m.1,c.1⟩,c.2)):=HR
  have hos:=OS.start (nm:=nm) hrl hst hx
  have hal:w1.alloc (.cells #[.string (bs nm),nl,nl,nl,nl,nl,nl] 59)=w1.alloc (.cells #[.string (bs nm),.slice none 0 0,.slice none 0 0,.slice none 0 0,.slice none 0 0,.slice none 0 0,.slice none 0 0] 59):=rfl
  rw[hal]at hos
  have hwo:w.heap.size<=w1.heap.size:=hx.size
  clear HR HC hst hx hal
  obtain⟨ob,hob⟩:∃ ob,ob=w1.heap.size:=⟨_,rfl⟩
  go_wp2_with fail
  rw[<-hob]at hos ⊢
  generalize w1.alloc (.cells #[.string (bs nm),.slice none 0 0,.slice none 0 0,.slice none 0 0,.slice none 0 0,.slice none 0 0,.slice none 0 0] 59)=w2 at *
  have hwob:w.heap.size<=ob:=by omega
  clear hob hwo
  have HOS0:=Lib.hid hos
  have HC0:=Lib.hid (qA hos.rst 20 (by omega))
  clear hos
  generalize Ob.listR 20 Ob.symR r1=res at *
  refine HC0.out.mono ?_
  intro e w3 hq
  rcases res with _|⟨ss,r2⟩
  ·obtain⟨rfl,hx⟩:=hq
   unfold thrown
   go_wp2_with fail
   rw[HR1.out]
   exact⟨rfl,rfl,HOS0.out.ext.trans hx⟩
  ·obtain⟨sv,rfl,hv,hst,hx⟩:=hq
   obtain⟨sva,svc,rfl⟩:=zl hv
   have hos:=HOS0.out.setS hx hst hv
   have hosR:=HOS0.out.read hx hst
   have kc:w3.cell? ⟨ob,1,none⟩=some (.slice none 0 0):=za hosR.blk
   have kf:w3.frozen? ⟨ob,1,none⟩=false:=zg hosR.blk
   have HR2:Hid (resT=(Ob.listR 6 Ob.useR r2).bind fun u=>(Ob.listR 10 Ob.glR u.2).bind fun v=>(Ob.listR 10 Ob.txtR v.2).bind fun m=>(Ob.repR Ob.enR m.1.length m.2).bind fun p=>(Ob.listR 4000 Ob.inR p.2).map fun c=>(⟨nm,ss,u.1,v.1,p.1,m.1,c.1⟩,c.2)):=HR1
   clear HOS0 HC0 HR1 hv hst hx hosR
   go_wp2_with fail
   generalize w3.setCell ⟨ob,1,none⟩ (.slice sva ss.length svc)=w4 at *
   clear kc kf
   have HOS1:=Lib.hid hos
   have HC1:=Lib.hid (qz hos.rst 6 (by omega))
   clear hos
   generalize Ob.listR 6 Ob.useR r2=res at *
   refine HC1.out.mono ?_
   intro e w5 hq
   rcases res with _|⟨us,r3⟩
   ·obtain⟨rfl,hx⟩:=hq
    unfold thrown
    go_wp2_with fail
    rw[HR2.out]
    exact⟨rfl,rfl,HOS1.out.ext.trans hx⟩
   ·obtain⟨uv,rfl,hv,hst,hx⟩:=hq
    obtain⟨uva,uvc,rfl⟩:=(let ⟨_,_,h2⟩:=hv;zl h2)
    have hos:=HOS1.out.setU hx hst hv
    have hosR:=HOS1.out.read hx hst
    have kc:w5.cell? ⟨ob,2,none⟩=some (.slice none 0 0):=za hosR.blk
    have kf:w5.frozen? ⟨ob,2,none⟩=false:=zg hosR.blk
    have HR3:Hid (resT=(Ob.listR 10 Ob.glR r3).bind fun v=>(Ob.listR 10 Ob.txtR v.2).bind fun m=>(Ob.repR Ob.enR m.1.length m.2).bind fun p=>(Ob.listR 4000 Ob.inR p.2).map fun c=>(⟨nm,ss,us,v.1,p.1,m.1,c.1⟩,c.2)):=HR2
    clear HOS1 HC1 HR2 hv hst hx hosR
    go_wp2_with fail
    generalize w5.setCell ⟨ob,2,none⟩ (.slice uva us.length uvc)=w6 at *
    clear kc kf
    have HOS2:=Lib.hid hos
    have HC2:=Lib.hid (xr hos.rst 10 (by omega))
    clear hos
    generalize Ob.listR 10 Ob.glR r3=res at *
    refine HC2.out.mono ?_
    intro e w7 hq
    rcases res with _|⟨vs,r4⟩
    ·obtain⟨rfl,hx⟩:=hq
     unfold thrown
     go_wp2_with fail
     rw[HR3.out]
     exact⟨rfl,rfl,HOS2.out.ext.trans hx⟩
    ·obtain⟨vv,rfl,hv,hst,hx⟩:=hq
     obtain⟨vva,vvc,rfl⟩:=zl hv
     have hos:=HOS2.out.setV hx hst hv
     have hosR:=HOS2.out.read hx hst
     have kc:w7.cell? ⟨ob,3,none⟩=some (.slice none 0 0):=za hosR.blk
     have kf:w7.frozen? ⟨ob,3,none⟩=false:=zg hosR.blk
     have HR4:Hid (resT=(Ob.listR 10 Ob.txtR r4).bind fun m=>(Ob.repR Ob.enR m.1.length m.2).bind fun p=>(Ob.listR 4000 Ob.inR p.2).map fun c=>(⟨nm,ss,us,vs,p.1,m.1,c.1⟩,c.2)):=HR3
     clear HOS2 HC2 HR3 hv hst hx hosR
     go_wp2_with fail
     generalize w7.setCell ⟨ob,3,none⟩ (.slice vva vs.length vvc)=w8 at *
     clear kc kf
     have HOS3:=Lib.hid hos
     have HC3:=Lib.hid (jS hos.rst 10 (by omega))
     have HBN:Hid (∀ xs r,Ob.listR 10 Ob.txtR r4=some (xs,r)->xs.length<=10):=fun xs r he=>list_le he
     clear hos
     generalize Ob.listR 10 Ob.txtR r4=res at *
     refine HC3.out.mono ?_
     intro e w9 hq
     rcases res with _|⟨ns,r5⟩
     ·obtain⟨rfl,hx⟩:=hq
      unfold thrown
      go_wp2_with fail
      rw[HR4.out]
      exact⟨rfl,rfl,HOS3.out.ext.trans hx⟩
     ·obtain⟨nv,rfl,hv,hst,hx⟩:=hq
      obtain⟨nva,nvc,rfl⟩:=zl hv
      have hos:=HOS3.out.setN hx hst hv
      have hosR:=HOS3.out.read hx hst
      have kc:w9.cell? ⟨ob,5,none⟩=some (.slice none 0 0):=za hosR.blk
      have kf:w9.frozen? ⟨ob,5,none⟩=false:=zg hosR.blk
      have hns:=HBN.out ns r5 rfl
      clear HBN
      have HR5:Hid (resT=(Ob.repR Ob.enR ns.length r5).bind fun p=>(Ob.listR 4000 Ob.inR p.2).map fun c=>(⟨nm,ss,us,vs,p.1,ns,c.1⟩,c.2)):=HR4
      clear HOS3 HC3 HR4 hv hst hx hosR
      go_wp2_with fail
      generalize w9.setCell ⟨ob,5,none⟩ (.slice nva ns.length nvc)=w10 at *
      clear kc kf
      have HP:Hid (∃ resP,Ob.repR Ob.enR ns.length r5=resP):=⟨_,rfl⟩
      obtain⟨resP,hresP⟩:=HP.out
      have HR6:Hid (resT=resP.bind fun p=>(Ob.listR 4000 Ob.inR p.2).map fun c=>(⟨nm,ss,us,vs,p.1,ns,c.1⟩,c.2)):=by rw[<-hresP];exact HR5
      have HRP:=Lib.hid hresP
      have HOS:=Lib.hid hos
      obtain⟨C,hC⟩:∃ C,C=w9.heap.size:=⟨_,rfl⟩
      rw[<-hC]at HOS
      clear HP hresP HR5 hos hC
      go_loopg [41] ns.length (fun k vi wr=>∃(i:Nat) (ps:List Ob.En) (pv:Value) (r':Bs),i<=ns.length/\k=ns.length - i/\ps.length=i/\vi=.int .i64 (i:Int)/\Hid (OS w wr rb ob C r' nm ss us vs ns ps (.slice sva ss.length svc) (.slice uva us.length uvc) (.slice vva vs.length vvc) pv (.slice nva ns.length nvc))/\Hid (app ps (Ob.repR Ob.enR (ns.length - i) r')=resP))
      case atStart=>exact⟨0,[],nl,r5,by omega,by omega,rfl,rfl,HOS,by rw[j9];exact HRP⟩
      case round =>
       obtain⟨i,ps,pv,r',hid,hk,hpl,rfl,HS,HA⟩:=hrel
       clear HOS HRP
       subst hpl
       obtain⟨pa,pc,rfl⟩:=zl HS.out.po
       by_cases hlt:ps.length<ns.length
       ·have hlt':(ps.length:Int)<(ns.length:Int):=by omega
        have HA1:Hid (app ps (Ob.repR Ob.enR ((ns.length - (ps.length+1))+1) r')=resP):=by rw[show ns.length - (ps.length+1)+1=ns.length - ps.length by omega];exact HA
        have hstd:=HS.out.rst.ext (zu wr)
        have k4:wr.cell? ⟨ob,4,none⟩=some (.slice pa ps.length pc):=za HS.out.blk
        have hol:=zi HS.out.blk
        rcases hres:Ob.enR r' with _|⟨x,r2'⟩
        ·have HX:=Lib.hid hres
         have HF:Hid (∀ e w',e=thrown/\Ext rb wr.drew w'->Rp rb w (VOb w.heap.size) resT e w'):=by
          intro e w' hq
          rw[HR6.out,<-HA1.out,jA HX.out]
          exact⟨hq.1,(HS.out.ext.trans (Ext.below (zu wr))).trans hq.2⟩
         clear hres HA HA1 HS HR6
         go_wp2_with fail
         go_region_dies
         all_goals (refine(entry_bad hstd HX).mono ?_;intro e w9 hq;have h0:=hq.1;unfold thrown at h0;subst h0;exact⟨rfl,HF.out _ _ hq⟩)
        ·have HX:=Lib.hid hres
         have HA2:Hid (app (ps++[x]) (Ob.repR Ob.enR (ns.length - (ps.length+1)) r2')=resP):=by rw[<-HA1.out];exact(kQ HX.out).symm
         have z4:wr.frozen? ⟨ob,4,none⟩=false:=zg HS.out.blk
         have HSD:Hid (OS w wr.drew rb ob C r' nm ss us vs ns ps (.slice sva ss.length svc) (.slice uva us.length uvc) (.slice vva vs.length vvc) (.slice pa ps.length pc) (.slice nva ns.length nvc)):=HS.out.read (Ext.below (zu wr)) hstd
         clear hres HA HA1 HS
         go_wp2_with fail
         go_region_law (first|(refine yV rfl ?_;go_simp;go_at_call 142;refine(entry_ok hstd HX).mono ?_;rintro e w9 ⟨rfl,hst9,hx9⟩;have hos9:=HSD.out.read hx9 hst9;have k9:w9.cell? ⟨ob,4,none⟩=some (.slice pa ps.length pc):=za hos9.blk;have z9:w9.frozen? ⟨ob,4,none⟩=false:=zg hos9.blk;have hl9:ob<w9.heap.size:=zi hos9.blk;have k9a:∀ ob',(w9.alloc ob').cell? ⟨ob,4,none⟩=some (.slice pa ps.length pc):=fun ob'=>zV k9 ob')|(refine z7 rfl (.tmp 47) (.tmp 50) 57 rfl C 156 i3 (.agg #[.int .i64 0,.int .i64 0,.int .i64 0]) 3 24 Tryz.underlying57 hi3 hz30 hz31 hz32 rfl (by decide) (.slice pa ps.length pc) ps.length (cellsOf enC ps) (by simp[Act.eval]) (vd hos9.po _) ⟨w9.heap.size,0,none⟩ 1 1 [.int .i64 x.at',.int .i64 x.args,.int .i64 x.locals] (by simp[Act.eval]) rfl (news3 w9 _ _ _ _) (by intro u hu;simp at hu;rcases hu with rfl|rfl|rfl <;> rfl) (by unfold maxLen;omega) (by omega) (by have:=hos9.CC;simp;omega) ?_;intro v' w10 hown10 hgrow10 hwhere10;have hb10:Below C w9 w10:=((Below.refl _ _).alloc hos9.CC _).trans ((Below.refl _ _).grown hgrow10 (by have:=hos9.CC;simp;omega) (zL hos9.po));have b10:=(hb10.block ob hos9.obC).trans hos9.blk;have k10:w10.cell? ⟨ob,4,none⟩=some (.slice pa ps.length pc):=za b10;have z10:w10.frozen? ⟨ob,4,none⟩=false:=zg b10;obtain⟨va,vc,hvv⟩:=zl hown10;subst hvv))
         all_goals
          have HOS10:=Lib.hid (hos9.snoc hb10 hown10)
          clear hgrow10 hwhere10 hown10 hos9 hst9 hstd HSD b10 k10 z10 k9 z9 k4 z4 hb10 k9a hx9
          go_wp2_with fail
          go_roundg (ns.length - (ps.length+1))
          case measure=>omega
          case rel=>exact⟨ps.length+1,ps++[x],_,r2',by omega,rfl,by simp,by go_num,HOS10,HA2⟩
       ·have hlt':¬(ps.length:Int)<(ns.length:Int):=by omega
        have hei:ps.length=ns.length:=by omega
        have HA1:Hid (resP=some (ps,r')):=by
         show _=_
         rw[<-HA.out,hei,Nat.sub_self]
         simp[Ob.repR,app]
        have HR7:Hid (resT=(Ob.listR 4000 Ob.inR r').map fun c=>(⟨nm,ss,us,vs,ps,ns,c.1⟩,c.2)):=by rw[HA1.out]at HR6;exact HR6
        have HC:=Lib.hid (uu HS.out.rst 4000 (by omega))
        clear HA HA1 HR6 hei
        generalize Ob.listR 4000 Ob.inR r'=res at *
        go_wp2_with fail
        refine HC.out.mono ?_
        intro e wn hq
        rcases res with _|⟨cs,r2'⟩
        ·obtain⟨rfl,hx⟩:=hq
         unfold thrown
         go_wp2_with fail
         rw[HR7.out]
         exact⟨rfl,rfl,HS.out.ext.trans hx⟩
        ·obtain⟨cv,rfl,hv,hst,hx⟩:=hq
         obtain⟨cva,cvc,rfl⟩:=zl hv
         have HD:=Lib.hid (HS.out.done hx hst hv)
         have hosR:=HS.out.read hx hst
         have kc:wn.cell? ⟨ob,6,none⟩=some (.slice none 0 0):=za hosR.blk
         have kf:wn.frozen? ⟨ob,6,none⟩=false:=zg hosR.blk
         clear HS HC hv hst hx hosR
         go_wp2_with fail
         go_ret
         rw[HR7.out]
         exact⟨_,rfl,HD.out.1,HD.out.2.1,HD.out.2.2⟩
theorem xj (w:World) :
  Calls Tryz.prog 89 #[.iface 97 (.int .i64 3)] w fun e w'=>e=.returned (.iface 97 (.int .i64 3))/\w'=w:=by
 have hta:∀(w:World),(Instr.typeAssert (.iface 97 (.int .i64 3)) 20 97 true).run Tryz.prog w=.ok (.tuple #[.int .i64 3,.bool true]) w:=fun w=>by kernel_rfl
 go_enter Tryz.func89,Tryz.ntmps89
 go_wp2
 go_ret
 exact⟨rfl,rfl⟩
theorem y9 (mb eb:Nat) (older:List PanicEntry) (w:World) (c0:(w.cell? ⟨mb,0,none⟩).isSome=true) (z0:w.frozen? ⟨mb,0,none⟩=false) (ce:(w.cell? ⟨eb,0,none⟩).isSome=true) (ze:w.frozen? ⟨eb,0,none⟩=false) (hne:mb≠eb) :
  CallsD Tryz.prog 88 #[.pointer (some ⟨mb,0,none⟩),.pointer (some ⟨eb,0,none⟩)] (.panicking ({ v:=.iface 97 (.int .i64 3),recovered:=false } :: older)) w fun e u' w' =>
   e=.returned (.tuple #[])/\u'=.panicking ({ v:=.iface 97 (.int .i64 3),recovered:=true } :: older)/\w'=(w.setCell ⟨mb,0,none⟩ (.pointer none)).setCell ⟨eb,0,none⟩ (.iface 97 (.int .i64 3)):=by
 refine callsD_of_wpS Tryz.func88 rfl fun c₀ cs hu=>?_
 apply wpS_seq
 apply wpS_region
 simp[wpOpsS,go_sem,recoverD,hu,Tryz.ntmps88,Exit.thenS]
 refine wpS_of_wp ?_
 rw[Option.isSome_iff_exists]at c0 ce
 obtain⟨x0,k0⟩:=c0
 obtain⟨xe,ke⟩:=ce
 have hne':eb≠mb:=fun e=>hne e.symm
 generalize hQ:(fun (e:Exit) (a':Act) (w':World)=>bodyPostS Tryz.prog _ _ _ _ e a' _ w')=Q
 show Code.wp Tryz.prog _ _ { tmps:=#[.pointer (some ⟨mb,0,none⟩),.pointer (some ⟨eb,0,none⟩),.iface 97 (.int .i64 3),.iface 97 (.int .i64 3),undef,undef,undef,undef],defers:=[] } w
 go_wp2_with fail
 refine(xj w).mono ?_
 rintro e w' ⟨rfl,rfl⟩
 go_wp2_with fail
 subst hQ
 simp[bodyPostS,results,Tryz.results88]
theorem jU (m e:Addr) (w:World) :
  CallsD Tryz.prog 88 #[.pointer (some m),.pointer (some e)] .returning w fun e u' w'=>e=.returned (.tuple #[])/\u'=.returning/\w'=w:=by
 refine callsD_of_wpS Tryz.func88 rfl fun c₀ cs hu=>?_
 apply wpS_seq
 apply wpS_region
 simp[wpOpsS,go_sem,recoverD,hu,Tryz.ntmps88,Exit.thenS]
 refine wpS_of_wp ?_
 generalize hQ:(fun (e:Exit) (a':Act) (w':World)=>bodyPostS Tryz.prog _ _ _ _ e a' _ w')=Q
 show Code.wp Tryz.prog _ _ { tmps:=#[.pointer (some m),.pointer (some e),.nilIface,.nilIface,undef,undef,undef,undef],defers:=[] } w
 go_wp2_with fail
 subst hQ
 cases c₀
 simp_all [bodyPostS,results,Tryz.results88]
def ReadP (w:World) (l:Bs) (e:Ending) (w':World):Prop :=
 match Ob.obR l with
 | none=>e=.returned (.tuple #[.pointer none,.iface 97 (.int .i64 3)])
 | some (O,_)=>∃ a,e=.returned (.tuple #[.pointer (some a),.nilIface])/\VOb w.heap.size O (.pointer (some a)) w'
theorem VOb.keep {B:Nat}{O:Ob.O}{v:Value}{w w':World}(h:VOb B O v w) (hk:∀ b,B<=b->b<w.heap.size->w'.heap[b]?=w.heap[b]?):VOb B O v w':=by
 obtain⟨ob,C,sv,uv,vv,pv,nv,cv,h1,h2,h3,h4,h5,h6,h7⟩:=h
 exact⟨ob,C,sv,uv,vv,pv,nv,cv,h1,h2,h3,(hk ob h2 (zi h4)).trans h4,h5.mono (fun b hb hl=>⟨hk b hb.1 hl,hb⟩),h6.mono (fun b hb hl=>⟨hk b (by omega) hl,hb⟩),h7.mono (fun b hb hl=>⟨hk b (by omega) hl,hb⟩)⟩
theorem VOb.le {B B':Nat}{O:Ob.O}{v:Value}{w:World}(h:VOb B O v w) (hB:B'<=B):VOb B' O v w:=by
 obtain⟨ob,C,sv,uv,vv,pv,nv,cv,h1,h2,h3,h4,h5,h6,h7⟩:=h
 exact⟨ob,C,sv,uv,vv,pv,nv,cv,h1,by omega,h3,h4,h5.mono (fun b hb hl=>⟨rfl,by omega,hb.2⟩),h6,h7⟩
theorem read_post (w:World) (l:Bs) (hl:l.length<=1000000000) :
  Calls Tryz.prog 48 #[.string (bs l)] w fun e w'=>Below w.heap.size w w'/\ReadP w l e w':=by
 have hmf:∀(fn:Fn) (first cap:Array Value) (w:World),(Instr.makeFunc fn first cap).run Tryz.prog w=.ok (.func fn first cap) w:=fun _ _ _ _=>rfl
 obtain⟨mb,hmb⟩:∃ mb,mb=w.heap.size:=⟨_,rfl⟩
 go_enter_defers Tryz.func48,Tryz.ntmps48
 go_wp2_with fail
 have hb0:Below w.heap.size w (((w.alloc (.cells #[.pointer none] 36)).alloc (.cells #[.nilIface] 31)).alloc (.cells #[.string (bs l)] 158)):=(((Below.refl _ _).alloc (Nat.le_refl _) _).alloc (by simp) _).alloc (by simp;omega) _
 have hsz0:(((w.alloc (.cells #[.pointer none] 36)).alloc (.cells #[.nilIface] 31)).alloc (.cells #[.string (bs l)] 158)).heap.size=w.heap.size+3:=by simp
 have hbm:(((w.alloc (.cells #[.pointer none] 36)).alloc (.cells #[.nilIface] 31)).alloc (.cells #[.string (bs l)] 158)).heap[w.heap.size]?=some (.cells #[.pointer none] 36 (0,0)):=(Below.heap_alloc _ _ _ (by simp;omega)).trans ((Below.heap_alloc _ _ _ (by simp)).trans (zk _ _))
 have hbe:(((w.alloc (.cells #[.pointer none] 36)).alloc (.cells #[.nilIface] 31)).alloc (.cells #[.string (bs l)] 158)).heap[w.heap.size+1]?=some (.cells #[.nilIface] 31 (0,0)):=by
  rw[Below.heap_alloc _ _ _ (by simp)]
  have:=zk (w.alloc (.cells #[.pointer none] 36)) (.cells #[.nilIface] 31)
  simpa using this
 have hbr:(((w.alloc (.cells #[.pointer none] 36)).alloc (.cells #[.nilIface] 31)).alloc (.cells #[.string (bs l)] 158)).heap[w.heap.size+1+1]?=some (.cells #[.string (bs l)] 158 (0,0)):=by
  have:=zk ((w.alloc (.cells #[.pointer none] 36)).alloc (.cells #[.nilIface] 31)) (.cells #[.string (bs l)] 158)
  simpa using this
 generalize ((w.alloc (.cells #[.pointer none] 36)).alloc (.cells #[.nilIface] 31)).alloc (.cells #[.string (bs l)] 158)=w1 at hb0 hsz0 hbm hbe hbr ⊢
 have hrst:Rst w1 (w.heap.size+1+1) l:=⟨(za hbr).trans rfl,zg hbr,hl⟩
 have HB0:Hid (Below mb w w1):=by rw[hmb];exact hb0
 have HMB:Hid (w.heap.size=mb):=hmb.symm
 have hsz1:w1.heap.size=mb+3:=by omega
 rw[<-hmb]at hbm hbe hbr hrst ⊢
 have HC:=Lib.hid (object_any hrst)
 have HP:Hid (∀ e w',ReadP w l e w'↔(match Ob.obR l with
  | none=>e=.returned (.tuple #[.pointer none,.iface 97 (.int .i64 3)])
  | some (O,_)=>∃ a,e=.returned (.tuple #[.pointer (some a),.nilIface])/\VOb mb O (.pointer (some a)) w')):=by
  intro e w';rw[hmb];exact Iff.rfl
 clear hb0 hsz0 hmb hrst hbr
 generalize Ob.obR l=res at *
 refine HC.out.mono ?_
 intro e w6 hq
 rcases res with _|⟨O,r⟩
 ·obtain⟨rfl,hx⟩:=hq
  have e1:=(hx.block mb (by omega) (by omega)).trans hbm
  have e2:=(hx.block (mb+1) (by omega) (by omega)).trans hbe
  have hb6:Below mb w1 w6:=hx.toBelow (by omega) (by omega)
  have a2:((w6.setCell ⟨mb,0,none⟩ (.pointer none)).setCell ⟨mb+1,0,none⟩ (.iface 97 (.int .i64 3))).heap[mb]?=some (.cells #[.pointer none] 36 (0,0)):=(Below.heap_setCell _ _ _ _ (by simp)).trans (zw 0 (.pointer none) e1)
  have a3:((w6.setCell ⟨mb,0,none⟩ (.pointer none)).setCell ⟨mb+1,0,none⟩ (.iface 97 (.int .i64 3))).heap[mb+1]?=some (.cells #[.iface 97 (.int .i64 3)] 31 (0,0)):=zw 0 (.iface 97 (.int .i64 3)) ((Below.heap_setCell _ _ _ _ (by simp)).trans e2)
  have hbd:Below mb w6 ((w6.setCell ⟨mb,0,none⟩ (.pointer none)).setCell ⟨mb+1,0,none⟩ (.iface 97 (.int .i64 3))):=zq (zq (Below.refl _ _) (Nat.le_refl _) 0 _) (by simp) 0 _
  unfold thrown
  go_wp2_with fail
  refine leaves_cons (f:=88) (args:=#[.pointer (some ⟨mb,0,none⟩),.pointer (some ⟨mb+1,0,none⟩)]) (by simp) (by simp[go_sem]) ?_
  refine(y9 mb (mb+1) [] w6 (by rw[za e1];rfl) (zg e1) (by rw[za e2];rfl) (zg e2) (by omega)).mono ?_
  rintro e u' w'' ⟨rfl,rfl,hw⟩
  rw[<-hw]at a2 a3 hbd
  have k1:w''.cell? ⟨mb,0,none⟩=some (.pointer none):=za a2
  have k2:w''.cell? ⟨mb+1,0,none⟩=some (.iface 97 (.int .i64 3)):=za a3
  have hfin:Below w.heap.size w w''/\ReadP w l (.returned (.tuple #[.pointer none,.iface 97 (.int .i64 3)])) w'':=⟨by rw[HMB.out];exact(HB0.out.trans hb6).trans hbd,(HP.out _ _).2 rfl⟩
  clear hw
  simp[Leaves,settle,results,Tryz.results48,go_sem,k1,k2]
  exact hfin
 ·obtain⟨v,rfl,hv,hst,hx⟩:=hq
  have hv':=hv
  obtain⟨ob,C,sv,uv,vv,pv,nv,cv,rfl,hobl,_⟩:=hv'
  have HV:=Lib.hid hv
  have e1:=(hx.block mb (by omega) (by omega)).trans hbm
  have e2:=(hx.block (mb+1) (by omega) (by omega)).trans hbe
  have hb6:Below mb w1 w6:=hx.toBelow (by omega) (by omega)
  have y1:w6.cell? ⟨mb,0,none⟩=some (.pointer none):=za e1
  have y2:w6.cell? ⟨mb+1,0,none⟩=some .nilIface:=za e2
  have z1:w6.frozen? ⟨mb,0,none⟩=false:=zg e1
  have z2:w6.frozen? ⟨mb+1,0,none⟩=false:=zg e2
  clear hv hst HC
  go_wp2_with fail
  have a2:((w6.setCell ⟨mb,0,none⟩ (.pointer (some ⟨ob,0,none⟩))).setCell ⟨mb+1,0,none⟩ .nilIface).heap[mb]?=some (.cells #[.pointer (some ⟨ob,0,none⟩)] 36 (0,0)):=(Below.heap_setCell _ _ _ _ (by simp)).trans (zw 0 _ e1)
  have a3:((w6.setCell ⟨mb,0,none⟩ (.pointer (some ⟨ob,0,none⟩))).setCell ⟨mb+1,0,none⟩ .nilIface).heap[mb+1]?=some (.cells #[.nilIface] 31 (0,0)):=zw 0 .nilIface ((Below.heap_setCell _ _ _ _ (by simp)).trans e2)
  have hbd:Below mb w6 ((w6.setCell ⟨mb,0,none⟩ (.pointer (some ⟨ob,0,none⟩))).setCell ⟨mb+1,0,none⟩ .nilIface):=zq (zq (Below.refl _ _) (Nat.le_refl _) 0 _) (by simp) 0 _
  have hvd:VOb mb O (.pointer (some ⟨ob,0,none⟩)) ((w6.setCell ⟨mb,0,none⟩ (.pointer (some ⟨ob,0,none⟩))).setCell ⟨mb+1,0,none⟩ .nilIface):=(HV.out.keep (fun b hb _=>(Below.heap_setCell _ _ _ _ (by simp;omega)).trans (Below.heap_setCell _ _ _ _ (by simp;omega)))).le (by omega)
  generalize (w6.setCell ⟨mb,0,none⟩ (.pointer (some ⟨ob,0,none⟩))).setCell ⟨mb+1,0,none⟩ .nilIface=wd at *
  have k1:wd.cell? ⟨mb,0,none⟩=some (.pointer (some ⟨ob,0,none⟩)):=za a2
  have k2:wd.cell? ⟨mb+1,0,none⟩=some .nilIface:=za a3
  have hfin:Below w.heap.size w wd/\ReadP w l (.returned (.tuple #[.pointer (some ⟨ob,0,none⟩),.nilIface])) wd:=⟨by rw[HMB.out];exact(HB0.out.trans hb6).trans hbd,(HP.out _ _).2 ⟨_,rfl,hvd⟩⟩
  refine leaves_cons (f:=88) (args:=#[.pointer (some ⟨mb,0,none⟩),.pointer (some ⟨mb+1,0,none⟩)]) (by simp) (by simp[go_sem]) ?_
  refine(jU ⟨mb,0,none⟩ ⟨mb+1,0,none⟩ wd).mono ?_
  rintro e u' w'' ⟨rfl,rfl,rfl⟩
  simp[Leaves,settle,results,Tryz.results48,go_sem,k1,k2]
  exact hfin
end Go.Proofs.YtmocelfkmdpogaaGreatDoor.Jo
