import Derived.Test.YthnoedjbhbkdeaaGreatDoorKXa
import Derived.Test.YthnoedjbhbkdeaaGreatDoorKWj
import Derived.Test.YthnoedjbhbkdeaaGreatDoorKWc
import Derived.Test.YthnoedjbhbkdeaaGreatDoorKWa
import Derived.Test.YthnoedjbhbkdeaaGreatDoorKGa
import Derived.LaidEql
import Derived.RowKitTokens
import Derived.Stop.Asserts
import Derived.Lib.Hide
set_option maxRecDepth 100000
set_option maxHeartbeats 4000000
namespace Go.Proofs.YthnoedjbhbkdeaaGreatDoor
open Go.RowKit
open Tp (Tok hd tx at' stp X S G Pr)
theorem RepP.nth {w:World}{D:Nat->Prop}:∀(l:List Pr) (cs:List Value),RepP w D l cs->∀ i (h:i<l.length),∃(pv vv bv:Value) (bcs:List Value),
  (∀ j,j<6->cs[i * 6+j]?=[.string (bs l[i].name),.int .i64 (l[i].pos:Int),.bool l[i].seen,pv,vv,bv][j]?)/\Row w D 9 1 pv l[i].params.length (strs l[i].params)/\Row w D 9 1 vv l[i].vars.length (strs l[i].vars)/\RepS w D l[i].body bcs/\OwnS w D bv l[i].body.length bcs:=by
 intro l
 induction l with
 | nil=>intro cs _ i h;simp at h
 | cons x l ih =>
  intro cs h i hi
  obtain⟨pv,vv,bv,bcs,cs',h1,h2,h3,h4,h5,h6⟩:=h
  subst h1
  cases i with
  | zero =>
   refine⟨pv,vv,bv,bcs,fun j hj=>?_,h2,h3,h4,h5⟩
   rw[Nat.zero_mul,Nat.zero_add,List.getElem?_append_left (by simpa[pcells] using hj)]
   rfl
  | succ i =>
   obtain⟨pv',vv',bv',bcs',q1,q2⟩:=ih cs' h6 i (by simpa using hi)
   refine⟨pv',vv',bv',bcs',fun j hj=>?_,q2⟩
   rw[List.getElem?_append_right (by simp[pcells];omega)]
   have:(i+1) * 6+j - (pcells (bs x.name) (x.pos:Int) x.seen pv vv bv).toList.length=i * 6+j:=by simp[pcells];omega
   rw[this]
   exact q1 j hj
def PairP (w:World) (aa a2:Option Addr) (i:Nat):Prop:=∃(g g2:Nat) (nm:ByteArray) (pos:Int) (sn:Bool) (pa va ba pa2 va2 ba2:Option Addr) (pn pc vn vc bn bc pc2 vc2 bc2:Nat),aa=some ⟨g,0,none⟩/\a2=some ⟨g2,0,none⟩/\g<w.heap.size/\g2<w.heap.size /\
 (∀ j,j<6->w.cell? ⟨g,i * 6+j,none⟩=[.string nm,.int .i64 pos,.bool sn,.slice pa pn pc,.slice va vn vc,.slice ba bn bc][j]?)/\(∀ j,j<6->w.cell? ⟨g2,i * 6+j,none⟩=[.string nm,.int .i64 pos,.bool sn,.slice pa2 pn pc2,.slice va2 vn vc2,.slice ba2 bn bc2][j]?) /\
 ∀ W,Below w.heap.size w W->Calls Tryz.prog 18 #[.slice pa pn pc,.slice pa2 pn pc2] W (fun e w'=>e=.returned (.bool true)/\Below W.heap.size W w')/\Calls Tryz.prog 18 #[.slice va vn vc,.slice va2 vn vc2] W (fun e w'=>e=.returned (.bool true)/\Below W.heap.size W w')/\Calls Tryz.prog 47 #[.slice ba bn bc,.slice ba2 bn bc2] W (fun e w'=>e=.returned (.bool true)/\Below W.heap.size W w')
theorem jR {w:World}{mn:ByteArray}{ia ga qa sa ia2 ga2 qa2 sa2:Option Addr}{il ic gl gc ql qc sl sc ic2 gc2 qc2 sc2:Nat}(hql:ql<=9223372036854775807)
  (hC:∀ W,Below w.heap.size w W->Calls Tryz.prog 18 #[.slice ia il ic,.slice ia2 il ic2] W (fun e w'=>e=.returned (.bool true)/\Below W.heap.size W w')/\Calls Tryz.prog 46 #[.slice ga gl gc,.slice ga2 gl gc2] W (fun e w'=>e=.returned (.bool true)/\Below W.heap.size W w')/\Calls Tryz.prog 47 #[.slice sa sl sc,.slice sa2 sl sc2] W (fun e w'=>e=.returned (.bool true)/\Below W.heap.size W w'))
  (hP:∀ i,i<ql->PairP w qa qa2 i) :
  Calls Tryz.prog 9 #[.agg #[.string mn,.slice ia il ic,.slice ga gl gc,.slice qa ql qc,.slice sa sl sc],.agg #[.string mn,.slice ia2 il ic2,.slice ga2 gl gc2,.slice qa2 ql qc2,.slice sa2 sl sc2]] w fun e w'=>e=.returned (.bool true)/\Below w.heap.size w w':=by
 have hn':(ql:Int)<=9223372036854775807:=by omega
 have HP:=zh hP
 have HC:=zh hC
 obtain⟨mx,hmx⟩:∃ mx,mx=w.heap.size:=⟨_,rfl⟩
 obtain⟨my,hmy⟩:∃ my,my=w.heap.size+1:=⟨_,rfl⟩
 have hb0:Below w.heap.size w ((w.alloc (.cells #[.string mn,.slice ia il ic,.slice ga gl gc,.slice qa ql qc,.slice sa sl sc] 27)).alloc (.cells #[.string mn,.slice ia2 il ic2,.slice ga2 gl gc2,.slice qa2 ql qc2,.slice sa2 sl sc2] 27)):=(zb _ _).alloc (by simp) _
 have k0:((w.alloc (.cells #[.string mn,.slice ia il ic,.slice ga gl gc,.slice qa ql qc,.slice sa sl sc] 27)).alloc (.cells #[.string mn,.slice ia2 il ic2,.slice ga2 gl gc2,.slice qa2 ql qc2,.slice sa2 sl sc2] 27)).heap[w.heap.size]?=some (.cells #[.string mn,.slice ia il ic,.slice ga gl gc,.slice qa ql qc,.slice sa sl sc] 27 (0,0)):=(Below.heap_alloc _ _ _ (by simp)).trans (zu _ _)
 have k1:((w.alloc (.cells #[.string mn,.slice ia il ic,.slice ga gl gc,.slice qa ql qc,.slice sa sl sc] 27)).alloc (.cells #[.string mn,.slice ia2 il ic2,.slice ga2 gl gc2,.slice qa2 ql qc2,.slice sa2 sl sc2] 27)).heap[w.heap.size+1]?=some (.cells #[.string mn,.slice ia2 il ic2,.slice ga2 gl gc2,.slice qa2 ql qc2,.slice sa2 sl sc2] 27 (0,0)):=by
  have:=zu (w.alloc (.cells #[.string mn,.slice ia il ic,.slice ga gl gc,.slice qa ql qc,.slice sa sl sc] 27)) (.cells #[.string mn,.slice ia2 il ic2,.slice ga2 gl gc2,.slice qa2 ql qc2,.slice sa2 sl sc2] 27)
  simpa using this
 clear hP hC
 go_enter Tryz.func9,Tryz.ntmps9
 go_upto_region 1 with fail
 generalize (w.alloc (.cells #[.string mn,.slice ia il ic,.slice ga gl gc,.slice qa ql qc,.slice sa sl sc] 27)).alloc (.cells #[.string mn,.slice ia2 il ic2,.slice ga2 gl gc2,.slice qa2 ql qc2,.slice sa2 sl sc2] 27)=w0 at hb0 k0 k1 ⊢
 rw[<-hmy]at k1 ⊢
 rw[<-hmx]at k0 ⊢
 clear hmx hmy
 have hx:=k0
 have hy:=k1
 have HB:=zh hb0
 clear k0 k1 hb0
 have x0:w0.cell? ⟨mx,0,none⟩=some (.string mn):=za hx
 have y0:w0.cell? ⟨my,0,none⟩=some (.string mn):=za hy
 have x1:w0.cell? ⟨mx,1,none⟩=some (.slice ia il ic):=za hx
 have y1:w0.cell? ⟨my,1,none⟩=some (.slice ia2 il ic2):=za hy
 have hlx:=zc hx
 have hly:=zc hy
 have HD0:=zh (HC.out w0 HB.out).1
 go_wp2_with fail
 refine HD0.out.mono ?_
 rintro e v0 ⟨rfl,hbb⟩
 replace hx:=(hbb.block mx (zc hx)).trans hx
 replace hy:=(hbb.block my (zc hy)).trans hy
 replace HB:=zh (HB.out.trans (hbb.mono HB.out.size))
 clear hbb HD0 hlx hly x0 y0 x1 y1
 have x2:v0.cell? ⟨mx,2,none⟩=some (.slice ga gl gc):=za hx
 have y2:v0.cell? ⟨my,2,none⟩=some (.slice ga2 gl gc2):=za hy
 have hlx:=zc hx
 have hly:=zc hy
 have HD1:=zh (HC.out v0 HB.out).2.1
 go_wp2_with fail
 refine HD1.out.mono ?_
 rintro e v1 ⟨rfl,hbb⟩
 replace hx:=(hbb.block mx (zc hx)).trans hx
 replace hy:=(hbb.block my (zc hy)).trans hy
 replace HB:=zh (HB.out.trans (hbb.mono HB.out.size))
 clear hbb HD1 hlx hly x2 y2
 have x3:v1.cell? ⟨mx,3,none⟩=some (.slice qa ql qc):=za hx
 have y3:v1.cell? ⟨my,3,none⟩=some (.slice qa2 ql qc2):=za hy
 have x4:v1.cell? ⟨mx,4,none⟩=some (.slice sa sl sc):=za hx
 have y4:v1.cell? ⟨my,4,none⟩=some (.slice sa2 sl sc2):=za hy
 have hlx:=zc hx
 have hly:=zc hy
 have HD2:=zh (HC.out v1 HB.out).2.2
 go_wp2_with fail
 refine HD2.out.mono ?_
 rintro e v2 ⟨rfl,hbb⟩
 replace hx:=(hbb.block mx (zc hx)).trans hx
 replace hy:=(hbb.block my (zc hy)).trans hy
 replace HB:=zh (HB.out.trans (hbb.mono HB.out.size))
 clear hbb HD2 hlx hly x3 y3 x4 y4
 have hlx:=zc hx
 have hly:=zc hy
 clear hlx hly
 have HX:=zh hx
 have HY:=zh hy
 clear hx hy
 go_wp2_with fail
 go_loopg [5] ql (fun k vi wr=>∃ i:Nat,i<=ql/\k=ql - i/\vi=.int .i64 (i:Int)/\Hid (wr.heap[mx]?=some (.cells #[.string mn,.slice ia il ic,.slice ga gl gc,.slice qa ql qc,.slice sa sl sc] 27 (0,0)))/\Hid (wr.heap[my]?=some (.cells #[.string mn,.slice ia2 il ic2,.slice ga2 gl gc2,.slice qa2 ql qc2,.slice sa2 sl sc2] 27 (0,0)))/\Hid (Below w.heap.size w wr))
 case atStart=>exact⟨0,by omega,by omega,rfl,HX,HY,HB⟩
 case round =>
  clear HX HY HB
  obtain⟨i,hid,hk,rfl,HX,HY,HB⟩:=hrel
  have m3:wr.cell? ⟨mx,3,none⟩=some (.slice qa ql qc):=za HX.out
  have n3:wr.cell? ⟨my,3,none⟩=some (.slice qa2 ql qc2):=za HY.out
  have hlx:=zc HX.out
  have hly:=zc HY.out
  by_cases hlt:i<ql
  ·have hlt':(i:Int)<(ql:Int):=by omega
   obtain⟨g,g2,nm,pos,sn,pa,va,ba,pa2,va2,ba2,pn,pc,vn,vc,bn,bc,pc2,vc2,bc2,rfl,rfl,hgl,hgl2,hx,hy,hC⟩:=HP.out i hlt
   have x0:wr.cell? ⟨g,i * 6,none⟩=some (.string nm):=(HB.out.cell (p:=⟨g,i * 6+0,none⟩) hgl).trans (hx 0 (by omega))
   have x1:wr.cell? ⟨g,i * 6+1,none⟩=some (.int .i64 pos):=(HB.out.cell (p:=⟨g,i * 6+1,none⟩) hgl).trans (hx 1 (by omega))
   have x2:wr.cell? ⟨g,i * 6+2,none⟩=some (.bool sn):=(HB.out.cell (p:=⟨g,i * 6+2,none⟩) hgl).trans (hx 2 (by omega))
   have x3:wr.cell? ⟨g,i * 6+3,none⟩=some (.slice pa pn pc):=(HB.out.cell (p:=⟨g,i * 6+3,none⟩) hgl).trans (hx 3 (by omega))
   have x4:wr.cell? ⟨g,i * 6+4,none⟩=some (.slice va vn vc):=(HB.out.cell (p:=⟨g,i * 6+4,none⟩) hgl).trans (hx 4 (by omega))
   have x5:wr.cell? ⟨g,i * 6+5,none⟩=some (.slice ba bn bc):=(HB.out.cell (p:=⟨g,i * 6+5,none⟩) hgl).trans (hx 5 (by omega))
   have y0:wr.cell? ⟨g2,i * 6,none⟩=some (.string nm):=(HB.out.cell (p:=⟨g2,i * 6+0,none⟩) hgl2).trans (hy 0 (by omega))
   have y1:wr.cell? ⟨g2,i * 6+1,none⟩=some (.int .i64 pos):=(HB.out.cell (p:=⟨g2,i * 6+1,none⟩) hgl2).trans (hy 1 (by omega))
   have y2:wr.cell? ⟨g2,i * 6+2,none⟩=some (.bool sn):=(HB.out.cell (p:=⟨g2,i * 6+2,none⟩) hgl2).trans (hy 2 (by omega))
   have y3:wr.cell? ⟨g2,i * 6+3,none⟩=some (.slice pa2 pn pc2):=(HB.out.cell (p:=⟨g2,i * 6+3,none⟩) hgl2).trans (hy 3 (by omega))
   have y4:wr.cell? ⟨g2,i * 6+4,none⟩=some (.slice va2 vn vc2):=(HB.out.cell (p:=⟨g2,i * 6+4,none⟩) hgl2).trans (hy 4 (by omega))
   have y5:wr.cell? ⟨g2,i * 6+5,none⟩=some (.slice ba2 bn bc2):=(HB.out.cell (p:=⟨g2,i * 6+5,none⟩) hgl2).trans (hy 5 (by omega))
   have HCP:=zh hC
   have hwl1:g<wr.heap.size:=zi x0
   have hwl2:g2<wr.heap.size:=zi y0
   clear hx hy hC hgl hgl2
   go_upto_region 6 with fail
   go_cut [6,7] from 46 to 105 (fun v6 v7 wc=>∃ bx by':Nat,v6=.pointer (some ⟨bx,0,none⟩)/\v7=.pointer (some ⟨by',0,none⟩)/\Hid (wc.heap[bx]?=some (.cells #[.string nm,.int .i64 pos,.bool sn,.slice pa pn pc,.slice va vn vc,.slice ba bn bc] 74 (0,0)))/\Hid (wc.heap[by']?=some (.cells #[.string nm,.int .i64 pos,.bool sn,.slice pa2 pn pc2,.slice va2 vn vc2,.slice ba2 bn bc2] 74 (0,0)))/\Hid (Below wr.heap.size wr wc))
   case first =>
    have HT1:=zh (xr wr #[.string nm,.int .i64 pos,.bool sn,.slice pa pn pc,.slice va vn vc,.slice ba bn bc] #[.string nm,.int .i64 pos,.bool sn,.slice pa2 pn pc2,.slice va2 vn vc2,.slice ba2 bn bc2] 74)
    have HT2:=zh (xr wr #[.string nm,.int .i64 pos,.bool sn,.slice pa2 pn pc2,.slice va2 vn vc2,.slice ba2 bn bc2] #[.string nm,.int .i64 pos,.bool sn,.slice pa pn pc,.slice va vn vc,.slice ba bn bc] 74)
    go_region
    all_goals
     go_wp2_with fail
     go_meet
     case rel =>
      first
      | exact⟨wr.heap.size,wr.heap.size+1,rfl,rfl,HT1.out.1,HT1.out.2.1,HT1.out.2.2⟩
      | exact⟨wr.heap.size+1,wr.heap.size,rfl,rfl,HT2.out.2.1,HT2.out.1,HT2.out.2.2⟩
   case rest =>
    obtain⟨bx,by',rfl,rfl,HX2,HY2,HBc⟩:=hcut
    rename_i wc
    have HBw:=zh (HB.out.trans (HBc.out.mono HB.out.size))
    have hx:=HX2.out
    have hy:=HY2.out
    have HX3:=zh ((HBc.out.block mx (zc HX.out)).trans HX.out)
    have HY3:=zh ((HBc.out.block my (zc HY.out)).trans HY.out)
    clear x0 x1 x2 x3 x4 x5 y0 y1 y2 y3 y4 y5 hwl1 hwl2 HX2 HY2 HB HBc HX HY m3 n3 hlx hly
    have x0:wc.cell? ⟨bx,0,none⟩=some (.string nm):=za hx
    have y0:wc.cell? ⟨by',0,none⟩=some (.string nm):=za hy
    have x1:wc.cell? ⟨bx,1,none⟩=some (.int .i64 pos):=za hx
    have y1:wc.cell? ⟨by',1,none⟩=some (.int .i64 pos):=za hy
    have x2:wc.cell? ⟨bx,2,none⟩=some (.bool sn):=za hx
    have y2:wc.cell? ⟨by',2,none⟩=some (.bool sn):=za hy
    have x3:wc.cell? ⟨bx,3,none⟩=some (.slice pa pn pc):=za hx
    have y3:wc.cell? ⟨by',3,none⟩=some (.slice pa2 pn pc2):=za hy
    have hlx:=zc hx
    have hly:=zc hy
    have HD0:=zh (HCP.out wc HBw.out).1
    go_wp2_with fail
    refine HD0.out.mono ?_
    rintro e wd0 ⟨rfl,hbb⟩
    replace hx:=(hbb.block bx (zc hx)).trans hx
    replace hy:=(hbb.block by' (zc hy)).trans hy
    replace HBw:=zh (HBw.out.trans (hbb.mono HBw.out.size))
    replace HX3:=zh ((hbb.block mx (zc HX3.out)).trans HX3.out)
    replace HY3:=zh ((hbb.block my (zc HY3.out)).trans HY3.out)
    clear hbb HD0 hlx hly x0 y0 x1 y1 x2 y2 x3 y3
    have x4:wd0.cell? ⟨bx,4,none⟩=some (.slice va vn vc):=za hx
    have y4:wd0.cell? ⟨by',4,none⟩=some (.slice va2 vn vc2):=za hy
    have hlx:=zc hx
    have hly:=zc hy
    have HD1:=zh (HCP.out wd0 HBw.out).2.1
    go_wp2_with fail
    refine HD1.out.mono ?_
    rintro e wd1 ⟨rfl,hbb⟩
    replace hx:=(hbb.block bx (zc hx)).trans hx
    replace hy:=(hbb.block by' (zc hy)).trans hy
    replace HBw:=zh (HBw.out.trans (hbb.mono HBw.out.size))
    replace HX3:=zh ((hbb.block mx (zc HX3.out)).trans HX3.out)
    replace HY3:=zh ((hbb.block my (zc HY3.out)).trans HY3.out)
    clear hbb HD1 hlx hly x4 y4
    have x5:wd1.cell? ⟨bx,5,none⟩=some (.slice ba bn bc):=za hx
    have y5:wd1.cell? ⟨by',5,none⟩=some (.slice ba2 bn bc2):=za hy
    have hlx:=zc hx
    have hly:=zc hy
    have HD2:=zh (HCP.out wd1 HBw.out).2.2
    go_wp2_with fail
    refine HD2.out.mono ?_
    rintro e wd2 ⟨rfl,hbb⟩
    replace hx:=(hbb.block bx (zc hx)).trans hx
    replace hy:=(hbb.block by' (zc hy)).trans hy
    replace HBw:=zh (HBw.out.trans (hbb.mono HBw.out.size))
    replace HX3:=zh ((hbb.block mx (zc HX3.out)).trans HX3.out)
    replace HY3:=zh ((hbb.block my (zc HY3.out)).trans HY3.out)
    clear hbb HD2 hlx hly x5 y5
    have hlx:=zc hx
    have hly:=zc hy
    go_wp2_with fail
    go_roundg (ql - (i+1))
    case measure=>omega
    case rel=>exact⟨i+1,by omega,rfl,by go_num,HX3,HY3,HBw⟩
  ·have hlt':¬(i:Int)<(ql:Int):=by omega
   go_wp2_with fail
   go_ret
   exact⟨rfl,HB.out⟩
theorem kC {f:Nat}{args:Array Value}{W:World}(h:Calls Tryz.prog f args W fun e w'=>e=.returned (.bool true)/\∃ m,w'=W.drewN m):Calls Tryz.prog f args W fun e w'=>e=.returned (.bool true)/\Below W.heap.size W w' :=
 h.mono fun e w' ⟨h1,m,h2⟩=>⟨h1,by rw[h2];exact below_drewN (Below.refl _ W) m⟩
theorem xx {w:World}{B1 B2:Nat}{m:Tp.M}{u v:Value}(h:VM B1 m u w) (k:VM B2 m v w):Calls Tryz.prog 9 #[u,v] w fun e w'=>e=.returned (.bool true)/\Below w.heap.size w w':=by
 obtain⟨ia,ga,pa,ba,ic,gc,pc,bc,pcs,bcs,rfl,h1,h2,h3,h4,h5,h6⟩:=h
 obtain⟨ia2,ga2,pa2,ba2,ic2,gc2,pc2,bc2,pcs2,bcs2,rfl,k1,k2,k3,k4,k5,k6⟩:=k
 refine jR h4.long (fun W hW=>⟨?_,?_,?_⟩) (fun i hi=>?_)
 ·exact kC (kf ((h1.step hW).mono (D':=fun _=>True) fun b _ _=>⟨rfl,trivial⟩) ((k1.step hW).mono (D':=fun _=>True) fun b _ _=>⟨rfl,trivial⟩))
 ·exact kC (vY ((h2.step hW).mono (D':=fun _=>True) fun b _ _=>⟨rfl,trivial⟩) ((k2.step hW).mono (D':=fun _=>True) fun b _ _=>⟨rfl,trivial⟩))
 ·exact kV _ m.body W _ _ _ _ bcs bcs2 zn (h5.step' hW) (h6.step' hW) (k5.step' hW) (k6.step' hW)
 ·obtain⟨pv,vv,bv,cs,p1,p2,p3,p4,p5⟩:=RepP.nth _ _ h3 i hi
  obtain⟨pv2,vv2,bv2,cs2,q1,q2,q3,q4,q5⟩:=RepP.nth _ _ k3 i hi
  obtain⟨g,rfl,hg,_,hc⟩:=h4.at' i hi
  obtain⟨g2,rfl,hg2,_,hc2⟩:=k4.at' i hi
  obtain⟨a1,c1,rfl⟩:=p2.shape
  obtain⟨a2,c2,rfl⟩:=p3.shape
  obtain⟨a3,c3,rfl⟩:=p5.shape
  obtain⟨b1,d1,rfl⟩:=q2.shape
  obtain⟨b2,d2,rfl⟩:=q3.shape
  obtain⟨b3,d3,rfl⟩:=q5.shape
  exact⟨g,g2,_,_,_,a1,a2,a3,b1,b2,b3,_,c1,_,c2,_,c3,d1,d2,d3,rfl,rfl,hg,hg2,fun j hj=>(hc j hj).trans (p1 j hj),fun j hj=>(hc2 j hj).trans (q1 j hj),fun W hW =>
   ⟨kC (kf ((p2.step hW).mono (D':=fun _=>True) fun b _ _=>⟨rfl,trivial⟩) ((q2.step hW).mono (D':=fun _=>True) fun b _ _=>⟨rfl,trivial⟩)),kC (kf ((p3.step hW).mono (D':=fun _=>True) fun b _ _=>⟨rfl,trivial⟩) ((q3.step hW).mono (D':=fun _=>True) fun b _ _=>⟨rfl,trivial⟩)),
   kV _ _ W _ _ _ _ cs cs2 zn (p4.step' hW) (p5.step' hW) (q4.step' hW) (q5.step' hW)⟩⟩
end Go.Proofs.YthnoedjbhbkdeaaGreatDoor
namespace Go.Proofs.YthnoedjbhbkdeaaGreatDoor
open Go.RowKit Go.Extern.Stop Go.Stop Go.Extern
theorem ext_below {b B:Nat}{w w':World}(h:Ext b w w') (hb:B<=b) (hs:B<=w.heap.size):Below B w w' :=
 ⟨h.os,h.tape,h.output,h.size,fun k hk=>h.block k (by omega) (by omega)⟩
theorem yj {w:World}{a:Addr}{v:Value}(h:w.cell? a=some v) (ob:Obj):(w.alloc ob).cell? a=some v:=by
 rw[World.cell?_alloc_lt _ _ _ (World.block_lt_of_cell? _ _ h)];exact h
theorem xZ (t:Addr) (w:World):(ReflectliteValue.unpack (.iface 209 (.pointer (some t)))).run Tryz.prog w
  = .ok (.agg #[.pointer (some ⟨13,209,none⟩),.pointer (some ⟨w.heap.size,0,none⟩),.int .u64 150]) (w.alloc (.cells #[.pointer (some t)] 209)):=by kernel_rfl
theorem vd (n:Int) (w:World):(ReflectliteValue.unpack (.iface 28 (.int .i64 n))).run Tryz.prog w
  = .ok (.agg #[.pointer (some ⟨13,28,none⟩),.pointer (some ⟨w.heap.size,0,none⟩),.int .u64 130]) (w.alloc (.cells #[.int .i64 n] 28)):=by kernel_rfl
theorem rl_typeP (a:Addr) (w:World):(ReflectliteValue.methodAny (ReflectliteValue.valueError "reflectlite.Value.Type" 0) (fun t _ _ _=>ReflectliteType.toType t) #[.agg #[.pointer (some ⟨13,209,none⟩),.pointer (some a),.int .u64 150]]).run Tryz.prog w
  = .ok (.iface 222 (.agg #[.pointer (some ⟨13,209,none⟩)])) w:=by kernel_rfl
theorem rl_kindP (w:World):((ReflectliteType.abiMethod fun t=>(fun a:Nat=>Value.int IntKind.u8 (a:Int)) <$> Rtype.kind t) #[.pointer (some ⟨13,209,none⟩)]).run Tryz.prog w=.ok (.int .u8 22) w:=by kernel_rfl
theorem rl_kindE (w:World):((ReflectliteType.abiMethod fun t=>(fun a:Nat=>Value.int IntKind.u8 (a:Int)) <$> Rtype.kind t) #[.pointer (some ⟨13,28,none⟩)]).run Tryz.prog w=.ok (.int .u8 2) w:=by kernel_rfl
theorem rlm (z:Sem Value) (f:TypeId->Addr->Nat->Nat->Sem Value) (v:Value) :
  ReflectliteValue.method z f #[v]=(do match <- ReflectliteValue.parts v with|none=>z|some (t,a,fl)=>f t a fl (fl % 32)):=rfl
theorem ve (a:Addr) (w:World):(ReflectliteValue.parts (.agg #[.pointer (some ⟨13,209,none⟩),.pointer (some a),.int .u64 150])).run Tryz.prog w=.ok (some (209,a,150)) w:=by kernel_rfl
theorem rl_isNil (a p:Addr) (W:World) (ha:W.cell? a=some (.pointer (some p))) :
  (ReflectliteValue.method (ReflectliteValue.valueError "reflectlite.Value.IsNil" 0) ReflectliteValue.isNil #[.agg #[.pointer (some ⟨13,209,none⟩),.pointer (some a),.int .u64 150]]).run Tryz.prog W=.ok (.bool false) W:=by
 rw[rlm]
 simp only [Sem.run_bind,ve,Result.andThen]
 simp[ReflectliteValue.isNil,loadVar,isAgg,underlying,Tryz.underlying209,ha,Result.andThen]
theorem rl_elem (w:World):(ReflectliteType.method ReflectliteType.elem #[.agg #[.pointer (some ⟨13,209,none⟩)]]).run Tryz.prog w=.ok (.iface 222 (.agg #[.pointer (some ⟨13,28,none⟩)])) w:=by kernel_rfl
theorem kW (w:World):(ReflectliteType.relation "Implements" ReflectliteType.implements_ #[.agg #[.pointer (some ⟨13,28,none⟩)],.iface 222 (.agg #[.pointer (some ⟨13,34,none⟩)])]).run Tryz.prog w=.ok (.bool true) w:=by kernel_rfl
theorem xc (n:Int) (w:World):(ReflectliteType.typeOf #[.iface 28 (.int .i64 n)]).run Tryz.prog w=.ok (.iface 222 (.agg #[.pointer (some ⟨13,28,none⟩)])) w:=by kernel_rfl
theorem rl_typeOfA (v:Value) (w:World):(ReflectliteType.typeOf #[.iface 137 v]).run Tryz.prog w=.ok (.iface 222 (.agg #[.pointer (some ⟨13,137,none⟩)])) w:=by kernel_rfl
theorem xd (w:World):(ReflectliteType.relation "AssignableTo" ReflectliteType.assignableTo #[.agg #[.pointer (some ⟨13,28,none⟩)],.iface 222 (.agg #[.pointer (some ⟨13,28,none⟩)])]).run Tryz.prog w=.ok (.bool true) w:=by kernel_rfl
theorem rl_assignA (w:World):(ReflectliteType.relation "AssignableTo" ReflectliteType.assignableTo #[.agg #[.pointer (some ⟨13,137,none⟩)],.iface 222 (.agg #[.pointer (some ⟨13,28,none⟩)])]).run Tryz.prog w=.ok (.bool false) w:=by kernel_rfl
theorem rl_elemOf (w:World):(Rtype.elem? 209).run Tryz.prog w=.ok (some 28) w:=by kernel_rfl
theorem rl_mk (p:Addr) (w:World):(ReflectliteValue.mk 28 p ReflectliteValue.flagAddr).run Tryz.prog w=.ok (.agg #[.pointer (some ⟨13,28,none⟩),.pointer (some p),.int .u64 386]) w:=by kernel_rfl
theorem rl_elemV (a p:Addr) (W:World) (ha:W.cell? a=some (.pointer (some p))) :
  (ReflectliteValue.method (ReflectliteValue.valueError "reflectlite.Value.Elem" 0) ReflectliteValue.elem #[.agg #[.pointer (some ⟨13,209,none⟩),.pointer (some a),.int .u64 150]]).run Tryz.prog W
   = .ok (.agg #[.pointer (some ⟨13,28,none⟩),.pointer (some p),.int .u64 386]) W:=by
 rw[rlm]
 simp only [Sem.run_bind,ve,Result.andThen]
 simp[ReflectliteValue.elem,loadVar,isAgg,underlying,Tryz.underlying209,ha,Result.andThen,rl_elemOf,rl_mk]
theorem rl_partsA (a:Addr) (w:World):(ReflectliteValue.parts (.agg #[.pointer (some ⟨13,28,none⟩),.pointer (some a),.int .u64 386])).run Tryz.prog w=.ok (some (28,a,386)) w:=by kernel_rfl
theorem rl_partsE (a:Addr) (w:World):(ReflectliteValue.parts (.agg #[.pointer (some ⟨13,28,none⟩),.pointer (some a),.int .u64 130])).run Tryz.prog w=.ok (some (28,a,130)) w:=by kernel_rfl
theorem rl_direct (w:World):(Rtype.directlyAssignable 28 28).run Tryz.prog w=.ok true w:=by kernel_rfl
theorem rl_set (ta b:Addr) (n:Int) (old:Value) (W:World) (hb:W.cell? b=some (.int .i64 n)) (ht:W.cell? ta=some old) (hf:W.frozen? ta=false) :
  (ReflectliteValue.set #[.agg #[.pointer (some ⟨13,28,none⟩),.pointer (some ta),.int .u64 386],.agg #[.pointer (some ⟨13,28,none⟩),.pointer (some b),.int .u64 130]]).run Tryz.prog W
   = .ok (.tuple #[]) (W.setCell ta (.int .i64 n)):=by
 refine Eq.trans (congrArg (fun s:Sem Value=>s.run Tryz.prog W) (show ReflectliteValue.set #[.agg #[.pointer (some ⟨13,28,none⟩),.pointer (some ta),.int .u64 386],.agg #[.pointer (some ⟨13,28,none⟩),.pointer (some b),.int .u64 130]]=(ReflectliteValue.parts (.agg #[.pointer (some ⟨13,28,none⟩),.pointer (some ta),.int .u64 386]) >>= fun p=>ReflectliteValue.parts (.agg #[.pointer (some ⟨13,28,none⟩),.pointer (some b),.int .u64 130]) >>= fun q=>_) from rfl)) ?_
 simp only [Sem.run_bind,rl_partsA,rl_partsE,Result.andThen]
 simp[ReflectliteValue.flagAddr,loadVar,isAgg,underlying,Tryz.underlying28,hb,Result.andThen,rl_direct,storeVar,Value.cells,storeCells,Addr.add]
 rw[run_store Tryz.prog W ta _ _ (by rfl)]
 simp[ht,hf]
theorem me_Kind (h:Value) (w:World):(Go.method 438 222 (.agg #[h]) "Kind").run Tryz.prog w=.ok (275,h) w:=by kernel_rfl
theorem me_Elem (h:Value) (w:World):(Go.method 438 222 (.agg #[h]) "Elem").run Tryz.prog w=.ok (285,.agg #[h]) w:=by kernel_rfl
theorem me_Impl (h:Value) (w:World):(Go.method 438 222 (.agg #[h]) "Implements").run Tryz.prog w=.ok (286,.agg #[h]) w:=by kernel_rfl
theorem vx (h:Value) (w:World):(Go.method 438 222 (.agg #[h]) "AssignableTo").run Tryz.prog w=.ok (284,.agg #[h]) w:=by kernel_rfl
theorem me_Unwrap (a:Option Addr) (w:World):(Go.method 438 137 (.pointer a) "Unwrap").run Tryz.prog w=.ok (280,.pointer a) w:=by kernel_rfl
theorem unwrap_any (ab:Nat) (n:Int) (w:World) (h:w.cell? ⟨ab,0,none⟩=some (.int .i64 n)) (_hl:ab<w.heap.size) :
  Calls Tryz.prog 280 #[.pointer (some ⟨ab,0,none⟩)] w fun e w'=>e=.returned (.iface 28 (.int .i64 n))/\w'=w:=by
 go_enter Tryz.func280,Tryz.ntmps280
 go_wp2_with fail
 go_ret
 exact⟨rfl,rfl⟩
theorem as_en (n:Int) (t:Addr) (old:Value) (w:World) (hg:w.cell? ⟨4,0,none⟩=some (.iface 222 (.agg #[.pointer (some ⟨13,34,none⟩)]))) (ht0:w.cell? t=some old) (hf0:w.frozen? t=false) :
  Calls Tryz.prog 146 #[.iface 28 (.int .i64 n),.iface 209 (.pointer (some t))] w fun ev w'=>ev=.returned (.bool true)/\w'=((((w.alloc (.cells #[.pointer (some t)] 209)).alloc (.cells #[.pointer (some ⟨13,209,none⟩),.pointer (some ⟨w.heap.size,0,none⟩),.int .u64 150] 176)).alloc (.cells #[.pointer (some ⟨13,209,none⟩),.pointer (some ⟨w.heap.size,0,none⟩),.int .u64 150] 176)).alloc (.cells #[.int .i64 n] 28)).setCell t (.int .i64 n):=by
 have h6:=@run_callFunc_extern Tryz.prog 116 _ (fun args=>ReflectliteValue.unpack (args.getD 0 (.tuple #[]))) Tryz.func116 (by kernel_rfl) (by kernel_rfl) (by kernel_rfl) (by kernel_rfl)
 have h7:=@run_callFunc_extern Tryz.prog 204 _ (ReflectliteValue.methodAny (ReflectliteValue.valueError "reflectlite.Value.Type" 0) (fun t _ _ _=>ReflectliteType.toType t)) Tryz.func204 (by kernel_rfl) (by kernel_rfl) (by kernel_rfl) (by kernel_rfl)
 have h8:=@run_callFunc_extern Tryz.prog 205 _ (ReflectliteValue.method (ReflectliteValue.valueError "reflectlite.Value.IsNil" 0) ReflectliteValue.isNil) Tryz.func205 (by kernel_rfl) (by kernel_rfl) (by kernel_rfl) (by kernel_rfl)
 have h27:=@run_callFunc_extern Tryz.prog 275 _ (ReflectliteType.abiMethod fun t=>do pure (.int .u8 (<- Rtype.kind t))) Tryz.func275 (by kernel_rfl) (by kernel_rfl) (by kernel_rfl) (by kernel_rfl)
 have h37:=@run_callFunc_extern Tryz.prog 285 _ (ReflectliteType.method ReflectliteType.elem) Tryz.func285 (by kernel_rfl) (by kernel_rfl) (by kernel_rfl) (by kernel_rfl)
 have h38:=@run_callFunc_extern Tryz.prog 286 _ (ReflectliteType.relation "Implements" ReflectliteType.implements_) Tryz.func286 (by kernel_rfl) (by kernel_rfl) (by kernel_rfl) (by kernel_rfl)
 have h10:=@run_callFunc_extern Tryz.prog 238 _ ReflectliteType.typeOf Tryz.func238 (by kernel_rfl) (by kernel_rfl) (by kernel_rfl) (by kernel_rfl)
 have h35:=@run_callFunc_extern Tryz.prog 284 _ (ReflectliteType.relation "AssignableTo" ReflectliteType.assignableTo) Tryz.func284 (by kernel_rfl) (by kernel_rfl) (by kernel_rfl) (by kernel_rfl)
 have h11:=@run_callFunc_extern Tryz.prog 239 _ (ReflectliteValue.method (ReflectliteValue.valueError "reflectlite.Value.Elem" 0) ReflectliteValue.elem) Tryz.func239 (by kernel_rfl) (by kernel_rfl) (by kernel_rfl) (by kernel_rfl)
 have h12:=@run_callFunc_extern Tryz.prog 240 _ ReflectliteValue.set Tryz.func240 (by kernel_rfl) (by kernel_rfl) (by kernel_rfl) (by kernel_rfl)
 have tO:=xc
 have mA:=vx
 have a25:=xd
 have v25:=vd
 have f6:=xZ
 have f7:=rl_typeP
 have mK:=me_Kind
 have mE:=me_Elem
 have mI:=me_Impl
 have k27:=rl_kindP
 have k25:=rl_kindE
 have e27:=rl_elem
 have i25:=kW
 have n8:=rl_isNil ⟨w.heap.size,0,none⟩ t ((w.alloc (.cells #[.pointer (some t)] 209)).alloc (.cells #[.pointer (some ⟨13,209,none⟩),.pointer (some ⟨w.heap.size,0,none⟩),.int .u64 150] 176)) (by simp)
 have hlt:4<w.heap.size:=zi hg
 have hg2:((w.alloc (.cells #[.pointer (some t)] 209)).alloc (.cells #[.pointer (some ⟨13,209,none⟩),.pointer (some ⟨w.heap.size,0,none⟩),.int .u64 150] 176)).cell? ⟨4,0,none⟩=some (.iface 222 (.agg #[.pointer (some ⟨13,34,none⟩)])):=by
  rw[World.cell?_alloc_lt _ _ ⟨4,0,none⟩ (by simp <;> omega),World.cell?_alloc_lt _ _ ⟨4,0,none⟩ hlt];exact hg
 have htl:t.block<w.heap.size:=World.block_lt_of_cell? _ _ ht0
 have el:=rl_elemV ⟨w.heap.size,0,none⟩ t (((w.alloc (.cells #[.pointer (some t)] 209)).alloc (.cells #[.pointer (some ⟨13,209,none⟩),.pointer (some ⟨w.heap.size,0,none⟩),.int .u64 150] 176)).alloc (.cells #[.pointer (some ⟨13,209,none⟩),.pointer (some ⟨w.heap.size,0,none⟩),.int .u64 150] 176)) (by rw[World.cell?_alloc_lt _ _ ⟨w.heap.size,0,none⟩ (by simp;omega)];simp)
 have st:=rl_set t ⟨w.heap.size+1+1+1,0,none⟩ n old ((((w.alloc (.cells #[.pointer (some t)] 209)).alloc (.cells #[.pointer (some ⟨13,209,none⟩),.pointer (some ⟨w.heap.size,0,none⟩),.int .u64 150] 176)).alloc (.cells #[.pointer (some ⟨13,209,none⟩),.pointer (some ⟨w.heap.size,0,none⟩),.int .u64 150] 176)).alloc (.cells #[.int .i64 n] 28))
  (by rw[World.cell?_alloc_at _ _ _ _ (by simp)];rfl)
  (by rw[World.cell?_alloc_lt _ _ t (by simp;omega),World.cell?_alloc_lt _ _ t (by simp;omega),World.cell?_alloc_lt _ _ t (by simp;omega),World.cell?_alloc_lt _ _ t htl];exact ht0)
  (by rw[World.frozen?_alloc_old _ _ t (by simp;omega),World.frozen?_alloc_old _ _ t (by simp;omega),World.frozen?_alloc_old _ _ t (by simp;omega),World.frozen?_alloc_old _ _ t (Nat.ne_of_lt htl)];exact hf0)
 go_enter Tryz.func146,Tryz.ntmps146
 go_wp2
 refine wp_loop_rounds 1 ?_
 rw[rounds_succ]
 go_wp2
 go_ret
 exact⟨rfl,rfl⟩
theorem as_ta1 (a:Option Addr) (w:World):(Instr.typeAssert (.iface 137 (.pointer a)) 34 285 true).run Tryz.prog w=.ok (.tuple #[.nilIface,.bool false]) w:=run_typeAssert_lacksB Tryz.underlying285 (by kernel_rfl) (by kernel_rfl) _ _ w
theorem as_ta2 (a:Option Addr) (w:World):(Instr.typeAssert (.iface 137 (.pointer a)) 34 153 true).run Tryz.prog w=.ok (.tuple #[.iface 137 (.pointer a),.bool true]) w:=by kernel_rfl
theorem as_at (n:Int) (ab:Nat) (t:Addr) (old:Value) (w:World) (hg:w.cell? ⟨4,0,none⟩=some (.iface 222 (.agg #[.pointer (some ⟨13,34,none⟩)]))) (ha:w.cell? ⟨ab,0,none⟩=some (.int .i64 n)) (ht0:w.cell? t=some old) (hf0:w.frozen? t=false) :
  Calls Tryz.prog 146 #[.iface 137 (.pointer (some ⟨ab,0,none⟩)),.iface 209 (.pointer (some t))] w fun ev w'=>ev=.returned (.bool true)/\w'=((((w.alloc (.cells #[.pointer (some t)] 209)).alloc (.cells #[.pointer (some ⟨13,209,none⟩),.pointer (some ⟨w.heap.size,0,none⟩),.int .u64 150] 176)).alloc (.cells #[.pointer (some ⟨13,209,none⟩),.pointer (some ⟨w.heap.size,0,none⟩),.int .u64 150] 176)).alloc (.cells #[.int .i64 n] 28)).setCell t (.int .i64 n):=by
 have h6:=@run_callFunc_extern Tryz.prog 116 _ (fun args=>ReflectliteValue.unpack (args.getD 0 (.tuple #[]))) Tryz.func116 (by kernel_rfl) (by kernel_rfl) (by kernel_rfl) (by kernel_rfl)
 have h7:=@run_callFunc_extern Tryz.prog 204 _ (ReflectliteValue.methodAny (ReflectliteValue.valueError "reflectlite.Value.Type" 0) (fun t _ _ _=>ReflectliteType.toType t)) Tryz.func204 (by kernel_rfl) (by kernel_rfl) (by kernel_rfl) (by kernel_rfl)
 have h8:=@run_callFunc_extern Tryz.prog 205 _ (ReflectliteValue.method (ReflectliteValue.valueError "reflectlite.Value.IsNil" 0) ReflectliteValue.isNil) Tryz.func205 (by kernel_rfl) (by kernel_rfl) (by kernel_rfl) (by kernel_rfl)
 have h27:=@run_callFunc_extern Tryz.prog 275 _ (ReflectliteType.abiMethod fun t=>do pure (.int .u8 (<- Rtype.kind t))) Tryz.func275 (by kernel_rfl) (by kernel_rfl) (by kernel_rfl) (by kernel_rfl)
 have h37:=@run_callFunc_extern Tryz.prog 285 _ (ReflectliteType.method ReflectliteType.elem) Tryz.func285 (by kernel_rfl) (by kernel_rfl) (by kernel_rfl) (by kernel_rfl)
 have h38:=@run_callFunc_extern Tryz.prog 286 _ (ReflectliteType.relation "Implements" ReflectliteType.implements_) Tryz.func286 (by kernel_rfl) (by kernel_rfl) (by kernel_rfl) (by kernel_rfl)
 have h10:=@run_callFunc_extern Tryz.prog 238 _ ReflectliteType.typeOf Tryz.func238 (by kernel_rfl) (by kernel_rfl) (by kernel_rfl) (by kernel_rfl)
 have h35:=@run_callFunc_extern Tryz.prog 284 _ (ReflectliteType.relation "AssignableTo" ReflectliteType.assignableTo) Tryz.func284 (by kernel_rfl) (by kernel_rfl) (by kernel_rfl) (by kernel_rfl)
 have h11:=@run_callFunc_extern Tryz.prog 239 _ (ReflectliteValue.method (ReflectliteValue.valueError "reflectlite.Value.Elem" 0) ReflectliteValue.elem) Tryz.func239 (by kernel_rfl) (by kernel_rfl) (by kernel_rfl) (by kernel_rfl)
 have h12:=@run_callFunc_extern Tryz.prog 240 _ ReflectliteValue.set Tryz.func240 (by kernel_rfl) (by kernel_rfl) (by kernel_rfl) (by kernel_rfl)
 have tO:=xc
 have mA:=vx
 have a25:=xd
 have v25:=vd
 have f6:=xZ
 have f7:=rl_typeP
 have mK:=me_Kind
 have mE:=me_Elem
 have mI:=me_Impl
 have k27:=rl_kindP
 have k25:=rl_kindE
 have e27:=rl_elem
 have i25:=kW
 have n8:=rl_isNil ⟨w.heap.size,0,none⟩ t ((w.alloc (.cells #[.pointer (some t)] 209)).alloc (.cells #[.pointer (some ⟨13,209,none⟩),.pointer (some ⟨w.heap.size,0,none⟩),.int .u64 150] 176)) (by simp)
 have hlt:4<w.heap.size:=zi hg
 have hg2:((w.alloc (.cells #[.pointer (some t)] 209)).alloc (.cells #[.pointer (some ⟨13,209,none⟩),.pointer (some ⟨w.heap.size,0,none⟩),.int .u64 150] 176)).cell? ⟨4,0,none⟩=some (.iface 222 (.agg #[.pointer (some ⟨13,34,none⟩)])):=by
  rw[World.cell?_alloc_lt _ _ ⟨4,0,none⟩ (by simp <;> omega),World.cell?_alloc_lt _ _ ⟨4,0,none⟩ hlt];exact hg
 have htl:t.block<w.heap.size:=World.block_lt_of_cell? _ _ ht0
 have el:=rl_elemV ⟨w.heap.size,0,none⟩ t (((w.alloc (.cells #[.pointer (some t)] 209)).alloc (.cells #[.pointer (some ⟨13,209,none⟩),.pointer (some ⟨w.heap.size,0,none⟩),.int .u64 150] 176)).alloc (.cells #[.pointer (some ⟨13,209,none⟩),.pointer (some ⟨w.heap.size,0,none⟩),.int .u64 150] 176)) (by rw[World.cell?_alloc_lt _ _ ⟨w.heap.size,0,none⟩ (by simp;omega)];simp)
 have st:=rl_set t ⟨w.heap.size+1+1+1,0,none⟩ n old ((((w.alloc (.cells #[.pointer (some t)] 209)).alloc (.cells #[.pointer (some ⟨13,209,none⟩),.pointer (some ⟨w.heap.size,0,none⟩),.int .u64 150] 176)).alloc (.cells #[.pointer (some ⟨13,209,none⟩),.pointer (some ⟨w.heap.size,0,none⟩),.int .u64 150] 176)).alloc (.cells #[.int .i64 n] 28))
  (by rw[World.cell?_alloc_at _ _ _ _ (by simp)];rfl)
  (by rw[World.cell?_alloc_lt _ _ t (by simp;omega),World.cell?_alloc_lt _ _ t (by simp;omega),World.cell?_alloc_lt _ _ t (by simp;omega),World.cell?_alloc_lt _ _ t htl];exact ht0)
  (by rw[World.frozen?_alloc_old _ _ t (by simp;omega),World.frozen?_alloc_old _ _ t (by simp;omega),World.frozen?_alloc_old _ _ t (by simp;omega),World.frozen?_alloc_old _ _ t (Nat.ne_of_lt htl)];exact hf0)
 have tA:=rl_typeOfA
 have aA:=rl_assignA
 have mU:=me_Unwrap
 have ta1:=as_ta1
 have ta2:=as_ta2
 have ha3:(((w.alloc (.cells #[.pointer (some t)] 209)).alloc (.cells #[.pointer (some ⟨13,209,none⟩),.pointer (some ⟨w.heap.size,0,none⟩),.int .u64 150] 176)).alloc (.cells #[.pointer (some ⟨13,209,none⟩),.pointer (some ⟨w.heap.size,0,none⟩),.int .u64 150] 176)).cell? ⟨ab,0,none⟩=some (.int .i64 n):=yj (yj (yj ha _) _) _
 go_enter Tryz.func146,Tryz.ntmps146
 go_wp2
 refine wp_loop_rounds 2 ?_
 rw[rounds_succ]
 go_wp2_with (go_at_call 280;refine(unwrap_any ab n _ ?hx ?hy).mono ?_;(case hx=>exact ha3);(case hy=>exact zi ha3);rintro e w9 ⟨rfl,rfl⟩)
 rw[rounds_succ]
 go_wp2
 go_ret
 exact⟨rfl,rfl⟩
theorem ext_four (w:World) (t:Addr) (o1 o2 o3 o4:Obj) (v:Value):Ext t.block w (((((w.alloc o1).alloc o2).alloc o3).alloc o4).setCell t v):=by
 have h:Below w.heap.size w ((((w.alloc o1).alloc o2).alloc o3).alloc o4):=(((zb _ _).alloc (by simp) _).alloc (by simp;omega) _).alloc (by simp;omega) _
 refine⟨h.os,h.tape,h.output,by simpa using h.size,fun k hk hb=>?_⟩
 rw[Below.heap_setCell _ _ _ _ hb]
 exact h.block k hk
theorem tell_at (n:Int) (ab:Nat) (w:World) (hg:w.cell? ⟨4,0,none⟩=some (.iface 222 (.agg #[.pointer (some ⟨13,34,none⟩)]))) (ha:w.cell? ⟨ab,0,none⟩=some (.int .i64 n)) :
  Calls Tryz.prog 100 #[.iface 137 (.pointer (some ⟨ab,0,none⟩))] w fun e w'=>e=.returned (.int .i64 n)/\Below w.heap.size w w':=by
 obtain⟨w0,hw0⟩:∃ w0,w0=w.alloc (.cells #[.int .i64 0] 28):=⟨_,rfl⟩
 have hb0:Below w.heap.size w w0:=by rw[hw0];exact zb _ _
 have hk0:w0.heap[w.heap.size]?=some (.cells #[.int .i64 0] 28 (0,0)):=by rw[hw0];exact zu _ _
 have hg0:w0.cell? ⟨4,0,none⟩=some (.iface 222 (.agg #[.pointer (some ⟨13,34,none⟩)])):=by rw[hw0];exact yj hg _
 have ha0:w0.cell? ⟨ab,0,none⟩=some (.int .i64 n):=by rw[hw0];exact yj ha _
 have HA:=zh (as_at n ab ⟨w.heap.size,0,none⟩ (.int .i64 0) w0 hg0 ha0 ((za hk0).trans rfl) (zg hk0))
 have HB0:=zh hb0
 have HK0:=zh hk0
 clear hb0 hk0 hg0 hg ha ha0
 go_enter Tryz.func100,Tryz.ntmps100
 go_upto_region 4 with fail
 rw[<-hw0]
 clear hw0
 go_wp2_with fail
 refine HA.out.mono ?_
 rintro e w3 ⟨rfl,hw3⟩
 have hx:Ext w.heap.size w0 w3:=by rw[hw3];exact ext_four w0 ⟨w.heap.size,0,none⟩ _ _ _ _ _
 have hc:w3.cell? ⟨w.heap.size,0,none⟩=some (.int .i64 n):=by
  rw[hw3]
  exact World.cell?_setCell_same _ _ _ (yj (yj (yj (yj ((za HK0.out).trans rfl) _) _) _) _)
 have HB3:Hid (Below w.heap.size w w3):=HB0.out.trans (ext_below hx zn HB0.out.size)
 have hl3:w.heap.size<w3.heap.size:=zi hc
 clear hw3 hx
 go_wp2_with fail
 go_ret
 exact⟨rfl,HB3.out⟩
abbrev Hnd (w:World):Prop:=w.cell? ⟨4,0,none⟩=some (.iface 222 (.agg #[.pointer (some ⟨13,34,none⟩)]))
def ErrA (w:World) (v:Value) (n p:Int):Prop:=(v=.nilIface/\n=0/\p=-1)\/∃ ab:Nat,v=.iface 137 (.pointer (some ⟨ab,0,none⟩))/\w.cell? ⟨ab,0,none⟩=some (.int .i64 n)/\w.cell? ⟨ab,1,none⟩=some (.int .i64 p)
theorem ErrA.below {w w':World}{v:Value}{n p:Int}(h:ErrA w v n p) (hb:Below w.heap.size w w'):ErrA w' v n p:=by
 rcases h with h|⟨ab,h1,h2,h3⟩
 ·exact Or.inl h
 ·exact Or.inr ⟨ab,h1,(hb.cell (p:=⟨ab,0,none⟩) (zi h2)).trans h2,(hb.cell (p:=⟨ab,1,none⟩) (zi h3)).trans h3⟩
theorem tell_nil (w:World):Calls Tryz.prog 100 #[.nilIface] w fun e w'=>e=.returned (.int .i64 0)/\Below w.heap.size w w':=by
 go_enter Tryz.func100,Tryz.ntmps100
 go_wp2_with fail
 go_ret
 exact⟨rfl,Below.refl _ _⟩
theorem ta_at (a:Option Addr) (w:World):(Instr.typeAssert (.iface 137 (.pointer a)) 34 137 true).run Tryz.prog w=.ok (.tuple #[.pointer a,.bool true]) w:=by kernel_rfl
theorem place_nil (w:World):Calls Tryz.prog 45 #[.nilIface] w fun e w'=>e=.returned (.tuple #[.int .i64 0,.int .i64 (-1)])/\Below w.heap.size w w':=by
 have HC:=zh (tell_nil w)
 go_enter Tryz.func45,Tryz.ntmps45
 go_wp2_with fail
 refine HC.out.mono ?_
 rintro e w1 ⟨rfl,hb⟩
 have HB:=zh hb
 clear hb
 go_wp2_with fail
 refine wp_loop_rounds 1 ?_
 rw[rounds_succ]
 go_wp2_with fail
 go_ret2
 exact⟨rfl,HB.out⟩
theorem place_at (n p:Int) (ab:Nat) (w:World) (hg:Hnd w) (h0:w.cell? ⟨ab,0,none⟩=some (.int .i64 n)) (h1:w.cell? ⟨ab,1,none⟩=some (.int .i64 p)):Calls Tryz.prog 45 #[.iface 137 (.pointer (some ⟨ab,0,none⟩))] w fun e w'=>e=.returned (.tuple #[.int .i64 n,.int .i64 p])/\Below w.heap.size w w':=by
 have HC:=zh (tell_at n ab w hg h0)
 have ht:=ta_at (some ⟨ab,0,none⟩)
 clear hg
 go_enter Tryz.func45,Tryz.ntmps45
 go_wp2_with fail
 refine HC.out.mono ?_
 rintro e w1 ⟨rfl,hb⟩
 have c1:w1.cell? ⟨ab,1,none⟩=some (.int .i64 p):=(hb.cell (p:=⟨ab,1,none⟩) (zi h1)).trans h1
 have hl1:=zi c1
 have HB:=zh hb
 clear hb h0 h1
 go_wp2_with fail
 refine wp_loop_rounds 1 ?_
 rw[rounds_succ]
 go_wp2_with fail
 go_region
 go_wp2_with fail
 go_ret2
 exact⟨rfl,HB.out.drew⟩
theorem place_any {w:World}{v:Value}{n p:Int}(hv:ErrA w v n p) (hg:Hnd w):Calls Tryz.prog 45 #[v] w fun e w'=>e=.returned (.tuple #[.int .i64 n,.int .i64 p])/\Below w.heap.size w w':=by
 rcases hv with⟨rfl,rfl,rfl⟩|⟨ab,rfl,h0,h1⟩
 ·exact place_nil w
 ·exact place_at n p ab w hg h0 h1
theorem lawIs_any {w:World}{v:Value}{n p:Int}(hv:ErrA w v n p) (hg:Hnd w):Calls Tryz.prog 8 #[v,.agg #[.int .i64 n,.int .i64 p]] w fun e w'=>e=.returned (.bool true)/\Below w.heap.size w w':=by
 obtain⟨w1,hw1⟩:∃ w1,w1=w.alloc (.cells #[.int .i64 n,.int .i64 p] 30):=⟨_,rfl⟩
 have hb0:Below w.heap.size w w1:=by rw[hw1];exact zb _ _
 have hk:w1.heap[w.heap.size]?=some (.cells #[.int .i64 n,.int .i64 p] 30 (0,0)):=by rw[hw1];exact zu _ _
 have hg1:Hnd w1:=by rw[hw1];exact yj hg _
 have HC:=zh (place_any (hv.below hb0) hg1)
 have HW1:=zh hw1
 have HB0:=zh hb0
 have HK:=zh hk
 clear hw1 hb0 hk hg1 hg hv
 go_enter Tryz.func8,Tryz.ntmps8
 go_wp2_with fail
 rw[<-HW1.out]
 refine HC.out.mono ?_
 rintro e w2 ⟨rfl,hb⟩
 have HB:=zh (HB0.out.trans (hb.mono HB0.out.size))
 have hk2:=(hb.block w.heap.size (zc HK.out)).trans HK.out
 have c0:w2.cell? ⟨w.heap.size,0,none⟩=some (.int .i64 n):=za hk2
 have c1:w2.cell? ⟨w.heap.size,1,none⟩=some (.int .i64 p):=za hk2
 have hl2:w.heap.size<w2.heap.size:=zc hk2
 clear hb hk2 HW1
 go_wp2_with fail
 go_ret
 exact⟨rfl,HB.out⟩
end Go.Proofs.YthnoedjbhbkdeaaGreatDoor
namespace Go.Proofs.YthnoedjbhbkdeaaGreatDoor
open Go.RowKit
open Tp (Tok hd tx at' stp)
open Nr (Fl fine)
structure Rp where
 rb:Nat
 tb:Nat
 cap:Nat
def kd (t:Tok):Int:=if t.kind=0 then 4 else (t.kind:Int)
structure RTok (w:World) (b i:Nat) (t:Tok):Prop where
 c0:w.cell? ⟨b,i * 3,none⟩=some (.int .i64 (kd t))
 c1:w.cell? ⟨b,i * 3+1,none⟩=some (.string (bs t.text))
 c2:w.cell? ⟨b,i * 3+2,none⟩=some (.int .i64 (t.pos:Int))
def rlv:List Value:=[.string ⟨#[111,114]⟩,.string ⟨#[97,110,100]⟩,.string ⟨#[61,32,35,32,60,32,60,61,32,62,32,62,61]⟩,.string ⟨#[43,32,45]⟩,.string ⟨#[42,32,100,105,118,32,109,111,100]⟩]
structure Gl (w:World):Prop where
 f0:w.cell? ⟨0,0,none⟩=some (.int .i64 0)
 f1:w.cell? ⟨0,1,none⟩=some (.int .i64 (-1))
 ml:∃ m:Int,w.cell? ⟨3,0,none⟩=some (.int .i64 m)
 lv:∀ i,i<5->w.cell? ⟨2,i,none⟩=some (rlv.getD i undef)
 er:∃ ev,w.cell? ⟨7,0,none⟩=some ev/\(ev=.nilIface\/∃ te pe,ev=.iface te pe)
def glb:List Nat:=[0,3,2,7]
theorem Gl.keep {w w':World}(h:Gl w) (o:∀ i∈glb,∀(j:Nat) (v:Value),w.cell? ⟨i,j,none⟩=some v->w'.cell? ⟨i,j,none⟩=some v):Gl w' :=
 ⟨o _ (by simp[glb]) _ _ h.f0,o _ (by simp[glb]) _ _ h.f1,h.ml.imp fun _ x=>o _ (by simp[glb]) _ _ x,fun i hi=>o _ (by simp[glb]) _ _ (h.lv i hi),h.er.imp fun _ x=>⟨o _ (by simp[glb]) _ _ x.1,x.2⟩⟩
structure RS (w:World) (q:Rp) (ts r:List Tok) (bad:Fl):Prop where
 c0:w.cell? ⟨q.rb,0,none⟩=some (.slice (some ⟨q.tb,(ts.length - r.length) * 3,none⟩) r.length (q.cap - (ts.length - r.length)))
 c1:w.cell? ⟨q.rb,1,none⟩=some (.int .i64 bad.1)
 c2:w.cell? ⟨q.rb,2,none⟩=some (.int .i64 bad.2)
 fz:∀ j,w.frozen? ⟨q.rb,j,none⟩=false
 toks:∀ i t,ts[i]?=some t->RTok w q.tb i t
 suf:ts.drop (ts.length - r.length)=r
 ne:r≠[]
 len:ts.length<=1000
 cp:ts.length<=q.cap
 last:∀ t,ts.getLast?=some t->t.kind=0
 apart:q.tb<q.rb
 tl:∀ t,t∈ts->t.text.length<=100000/\t.pos<=100000/\t.kind<=3
 txt:∀ t,t∈ts->t.kind=0->t.text=[]
 dig:∀ t,t∈ts->t.kind=2->t.text≠[]/\∀ c,c∈t.text->Tp.digit c=true
 gl:Gl w
 glt:∀ i∈glb,i<q.rb
theorem RS.belowB {w w':World}{q:Rp}{ts r:List Tok}{bad:Fl}{B:Nat}(h:RS w q ts r bad) (k:Below B w w') (hp:q.rb<B):RS w' q ts r bad:=by
 have e:∀ i j,i<B->w'.cell? ⟨i,j,none⟩=w.cell? ⟨i,j,none⟩:=fun i j hi=>k.cell (p:=⟨i,j,none⟩) hi
 have ht:q.tb<B:=by have:=h.apart;omega
 exact⟨(e _ 0 hp).trans h.c0,(e _ 1 hp).trans h.c1,(e _ 2 hp).trans h.c2,fun j=>(k.frozen (p:=⟨q.rb,j,none⟩) hp).trans (h.fz j),
  fun i t hi=>⟨(e _ _ ht).trans (h.toks i t hi).c0,(e _ _ ht).trans (h.toks i t hi).c1,(e _ _ ht).trans (h.toks i t hi).c2⟩,h.suf,h.ne,h.len,h.cp,h.last,h.apart,h.tl,h.txt,h.dig,h.gl.keep fun i hi j v hv=>(e _ _ (Nat.lt_trans (h.glt i hi) hp)).trans hv,h.glt⟩
theorem RS.below {w w':World}{q:Rp}{ts r:List Tok}{bad:Fl}(h:RS w q ts r bad) (k:Below w.heap.size w w'):RS w' q ts r bad:=h.belowB k (zi h.c0)
theorem RS.hd {w:World}{q:Rp}{ts r:List Tok}{bad:Fl}(h:RS w q ts r bad):ts[ts.length - r.length]?=some (hd r)/\ts.length - r.length<ts.length/\0<r.length/\r.length<=ts.length:=by
 have h1:=h.suf
 have h2:=h.ne
 cases r with
 | nil=>exact absurd rfl h2
 | cons t l =>
  have hl:(t :: l).length<=ts.length:=by
   have:=congrArg List.length h1
   simp only [List.length_drop]at this
   omega
  have h3:(ts.drop (ts.length - (t :: l).length))[0]?=some t:=by rw[h1];rfl
  rw[List.getElem?_drop,Nat.add_zero]at h3
  refine⟨by rw[h3];rfl,?_,by simp,hl⟩
  rw[List.getElem?_eq_some_iff]at h3
  exact h3.1
theorem RS.stp_of {w:World}{q:Rp}{ts r:List Tok}{bad:Fl}(h:RS w q ts r bad) (hk:(Tp.hd r).kind≠0):stp r=r.tail/\r.tail≠[]/\r.length=r.tail.length+1/\r.length<=ts.length/\ts.drop (ts.length - r.tail.length)=r.tail:=by
 have h1:=h.suf
 have h2:=h.ne
 cases r with
 | nil=>exact absurd rfl h2
 | cons t l =>
  have hl:(t :: l).length<=ts.length:=by
   have:=congrArg List.length h1
   simp only [List.length_drop]at this
   omega
  have hne:l≠[]:=by
   intro e
   subst e
   have:=h.last t (by
    have h4:=List.getLast?_drop (i:=ts.length - [t].length) (l:=ts)
    rw[h1,if_neg (by simp at hl ⊢;omega)]at h4
    rw[<-h4];rfl)
   exact hk this
  refine⟨by simp[stp,hk],hne,by simp,hl,?_⟩
  simp only [List.tail_cons]
  have e:ts.length - l.length=(ts.length - (t :: l).length)+1:=by simp at hl ⊢;omega
  rw[e,<-List.drop_drop,h1]
  rfl
end Go.Proofs.YthnoedjbhbkdeaaGreatDoor
