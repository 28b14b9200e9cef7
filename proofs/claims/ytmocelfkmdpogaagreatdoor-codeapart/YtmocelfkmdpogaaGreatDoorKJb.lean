import Derived.Test.YtmocelfkmdpogaaGreatDoorKJa
set_option maxRecDepth 100000
set_option maxHeartbeats 4000000
namespace Go.Proofs.YtmocelfkmdpogaaGreatDoor.Jo
open Go.RowKit
open Ob (Bs)
def VSm (s:Ob.Sm) (v:Value) (_:World):Prop:=v=.agg #[.string (bs s.name),.int .i64 s.len,.int .i64 s.args]
def VGl (g:Ob.Gl) (v:Value) (_:World):Prop:=v=.agg #[.string (bs g.name),.int .i64 g.at',.int .i64 g.len,.bool g.seen]
def VEn (e:Ob.En) (v:Value) (_:World):Prop:=v=.agg #[.int .i64 e.at',.int .i64 e.args,.int .i64 e.locals]
def VIn (x:Ob.In) (v:Value) (_:World):Prop:=v=.agg #[.int .i64 x.op,.int .i64 x.a,.int .i64 x.b]
theorem Rst.ext {w w':World}{rb:Nat}{l:Bs}(h:Rst w rb l) (k:Below w.heap.size w w'):Rst w' rb l:=by
 have hl:=zc h.c
 exact⟨(k.cell (p:=⟨rb,0,none⟩) hl).trans h.c,(k.frozen (p:=⟨rb,0,none⟩) hl).trans h.fz,h.n⟩
theorem Rst.belowB {w w':World}{rb B:Nat}{l:Bs}(h:Rst w rb l) (k:Below B w w') (hb:rb<B):Rst w' rb l :=
 ⟨(k.cell (p:=⟨rb,0,none⟩) hb).trans h.c,(k.frozen (p:=⟨rb,0,none⟩) hb).trans h.fz,h.n⟩
theorem Rst.other {w w':World}{rb b:Nat}{l:Bs}(h:Rst w rb l) (k:Ext b w w') (hb:rb≠b):Rst w' rb l:=by
 have hl:=zc h.c
 have e:=k.block rb hl hb
 exact⟨(World.cell?_of_block e).trans h.c,by have:=h.fz;simp only [World.frozen?]at this ⊢;rw[e];exact this,h.n⟩
theorem Ext.new {rb b:Nat}{w w1 w2:World}(h:Ext rb w w1) (k:Ext b w1 w2) (hb:w.heap.size<=b):Ext rb w w2:=h.trans' (k.toBelow hb h.size)
theorem jE {w:World}{b:Nat}{u0 u1 u2:Value}(v0 v1 v2:Value) {t:TypeId}(h:w.heap[b]?=some (.cells #[u0,u1,u2] t (0,0))) :
  (((w.setCell ⟨b,0,none⟩ v0).setCell ⟨b,1,none⟩ v1).setCell ⟨b,2,none⟩ v2).heap[b]?=some (.cells #[v0,v1,v2] t (0,0))/\Ext b w (((w.setCell ⟨b,0,none⟩ v0).setCell ⟨b,1,none⟩ v1).setCell ⟨b,2,none⟩ v2) :=
 ⟨zw 2 v2 (zw 1 v1 (zw 0 v0 h)),(((Ext.refl _ _).set 0 _).set 1 _).set 2 _⟩
theorem set4_out {w:World}{b:Nat}{u0 u1 u2 u3:Value}(v0 v1 v2 v3:Value) {t:TypeId}(h:w.heap[b]?=some (.cells #[u0,u1,u2,u3] t (0,0))) :
  ((((w.setCell ⟨b,0,none⟩ v0).setCell ⟨b,1,none⟩ v1).setCell ⟨b,2,none⟩ v2).setCell ⟨b,3,none⟩ v3).heap[b]?=some (.cells #[v0,v1,v2,v3] t (0,0))/\Ext b w ((((w.setCell ⟨b,0,none⟩ v0).setCell ⟨b,1,none⟩ v1).setCell ⟨b,2,none⟩ v2).setCell ⟨b,3,none⟩ v3) :=
 ⟨zw 3 v3 (zw 2 v2 (zw 1 v1 (zw 0 v0 h))),((((Ext.refl _ _).set 0 _).set 1 _).set 2 _).set 3 _⟩
theorem sym_any {w:World}{rb:Nat}{l:Bs}(h:Rst w rb l) :
  Calls Tryz.prog 136 #[.pointer (some ⟨rb,0,none⟩)] w fun e w'=>Rp rb w VSm (Ob.symR l) e w':=by
 have hrl:=zc h.c
 have hb0:Below w.heap.size w (w.alloc (.cells #[.string ⟨#[]⟩,.int .i64 0,.int .i64 0] 44)):=(Below.refl _ _).alloc (Nat.le_refl _) _
 have hk0:(w.alloc (.cells #[.string ⟨#[]⟩,.int .i64 0,.int .i64 0] 44)).heap[w.heap.size]?=some (.cells #[.string ⟨#[]⟩,.int .i64 0,.int .i64 0] 44 (0,0)):=zk _ _
 have hR:Ob.symR l=(Ob.txtR l).bind fun x=>(Ob.numR x.2).bind fun y=>(Ob.numR y.2).map fun z=>(⟨x.1,y.1,z.1⟩,z.2):=rfl
 have HR:=Lib.hid hR
 clear hR
 generalize Ob.symR l=resT at *
 go_enter Tryz.func136,Tryz.ntmps136
 go_wp2_with fail
 generalize w.alloc (.cells #[.string ⟨#[]⟩,.int .i64 0,.int .i64 0] 44)=w0 at *
 have HX0:Hid (Ext rb w w0):=Ext.below hb0
 have HK0:=Lib.hid hk0
 have HC:=Lib.hid (kD (h.ext hb0))
 clear h hb0 hk0
 generalize Ob.txtR l=res at *
 refine HC.out.mono ?_
 intro e w1 hq
 rcases res with _|⟨x,r1⟩
 ·obtain⟨rfl,hx⟩:=hq
  unfold thrown
  go_wp2_with fail
  rw[HR.out]
  exact⟨rfl,rfl,HX0.out.trans hx⟩
 ·obtain⟨v,rfl,rfl,hst,hx⟩:=hq
  have HX1:=Lib.hid (HX0.out.trans hx)
  have HK1:Hid (w1.heap[w.heap.size]?=some (.cells #[.string ⟨#[]⟩,.int .i64 0,.int .i64 0] 44 (0,0))):=(hx.block _ (zi HK0.out) (by omega)).trans HK0.out
  have HC1:=Lib.hid (je hst)
  have HR1:Hid (resT=(Ob.numR r1).bind fun y=>(Ob.numR y.2).map fun z=>(⟨x,y.1,z.1⟩,z.2)):=HR
  clear hx hst HC HR HX0 HK0
  generalize Ob.numR r1=res at *
  go_wp2_with fail
  refine HC1.out.mono ?_
  intro e w2 hq
  rcases res with _|⟨y,r2⟩
  ·obtain⟨rfl,hx⟩:=hq
   unfold thrown
   go_wp2_with fail
   rw[HR1.out]
   exact⟨rfl,rfl,HX1.out.trans hx⟩
  ·obtain⟨v,rfl,rfl,hst,hx⟩:=hq
   have HX2:=Lib.hid (HX1.out.trans hx)
   have HK2:Hid (w2.heap[w.heap.size]?=some (.cells #[.string ⟨#[]⟩,.int .i64 0,.int .i64 0] 44 (0,0))):=(hx.block _ (zi HK1.out) (by omega)).trans HK1.out
   have HC2:=Lib.hid (je hst)
   have HR2:Hid (resT=(Ob.numR r2).map fun z=>(⟨x,y,z.1⟩,z.2)):=HR1
   clear hx hst HC1 HR1 HX1 HK1
   generalize Ob.numR r2=res at *
   go_wp2_with fail
   refine HC2.out.mono ?_
   intro e w3 hq
   rcases res with _|⟨z,r3⟩
   ·obtain⟨rfl,hx⟩:=hq
    unfold thrown
    go_wp2_with fail
    rw[HR2.out]
    exact⟨rfl,rfl,HX2.out.trans hx⟩
   ·obtain⟨v,rfl,rfl,hst,hx⟩:=hq
    have HX3:=Lib.hid (HX2.out.trans hx)
    have hk3:=(hx.block _ (zi HK2.out) (by omega)).trans HK2.out
    have HST:=Lib.hid hst
    have k0:w3.cell? ⟨w.heap.size,0,none⟩=some (.string ⟨#[]⟩):=za hk3
    have k1:w3.cell? ⟨w.heap.size,1,none⟩=some (.int .i64 0):=za hk3
    have k2:w3.cell? ⟨w.heap.size,2,none⟩=some (.int .i64 0):=za hk3
    have kf:∀ i,w3.frozen? ⟨w.heap.size,i,none⟩=false:=fun i=>zg hk3
    have HK3:=Lib.hid hk3
    clear hx hst HC2 HX2 HK2 hk3
    go_wp2_with fail
    obtain⟨hs1,hs2⟩:=jE (.string (bs x)) (.int .i64 y) (.int .i64 z) HK3.out
    have hst':=HST.out.other hs2 (by omega)
    have hx':=HX3.out.new hs2 (Nat.le_refl _)
    generalize ((w3.setCell ⟨w.heap.size,0,none⟩ (.string (bs x))).setCell ⟨w.heap.size,1,none⟩ (.int .i64 y)).setCell ⟨w.heap.size,2,none⟩ (.int .i64 z)=wd at *
    have d0:wd.cell? ⟨w.heap.size,0,none⟩=some (.string (bs x)):=za hs1
    have d1:wd.cell? ⟨w.heap.size,1,none⟩=some (.int .i64 y):=za hs1
    have d2:wd.cell? ⟨w.heap.size,2,none⟩=some (.int .i64 z):=za hs1
    refine bodyPost_ret (v:=.agg #[.string (bs x),.int .i64 y,.int .i64 z]) (by simp[results,Tryz.results136,go_sem,d0,d1,d2]) rfl ?_
    rw[HR2.out]
    exact⟨_,rfl,rfl,hst',hx'⟩
theorem global_any {w:World}{rb:Nat}{l:Bs}(h:Rst w rb l) :
  Calls Tryz.prog 140 #[.pointer (some ⟨rb,0,none⟩)] w fun e w'=>Rp rb w VGl (Ob.glR l) e w':=by
 have hrl:=zc h.c
 have hb0:Below w.heap.size w (w.alloc (.cells #[.string ⟨#[]⟩,.int .i64 0,.int .i64 0,.bool false] 118)):=(Below.refl _ _).alloc (Nat.le_refl _) _
 have hk0:(w.alloc (.cells #[.string ⟨#[]⟩,.int .i64 0,.int .i64 0,.bool false] 118)).heap[w.heap.size]?=some (.cells #[.string ⟨#[]⟩,.int .i64 0,.int .i64 0,.bool false] 118 (0,0)):=zk _ _
 have hR:Ob.glR l=(Ob.txtR l).bind fun x=>(Ob.numR x.2).bind fun y=>(Ob.flagR y.2).map fun z=>(⟨x.1,0,y.1,z.1⟩,z.2):=rfl
 have HR:=Lib.hid hR
 clear hR
 generalize Ob.glR l=resT at *
 go_enter Tryz.func140,Tryz.ntmps140
 go_wp2_with fail
 generalize w.alloc (.cells #[.string ⟨#[]⟩,.int .i64 0,.int .i64 0,.bool false] 118)=w0 at *
 have HX0:Hid (Ext rb w w0):=Ext.below hb0
 have HK0:=Lib.hid hk0
 have HC:=Lib.hid (kD (h.ext hb0))
 clear h hb0 hk0
 generalize Ob.txtR l=res at *
 refine HC.out.mono ?_
 intro e w1 hq
 rcases res with _|⟨x,r1⟩
 ·obtain⟨rfl,hx⟩:=hq
  unfold thrown
  go_wp2_with fail
  rw[HR.out]
  exact⟨rfl,rfl,HX0.out.trans hx⟩
 ·obtain⟨v,rfl,rfl,hst,hx⟩:=hq
  have HX1:=Lib.hid (HX0.out.trans hx)
  have HK1:Hid (w1.heap[w.heap.size]?=some (.cells #[.string ⟨#[]⟩,.int .i64 0,.int .i64 0,.bool false] 118 (0,0))):=(hx.block _ (zi HK0.out) (by omega)).trans HK0.out
  have HC1:=Lib.hid (je hst)
  have HR1:Hid (resT=(Ob.numR r1).bind fun y=>(Ob.flagR y.2).map fun z=>(⟨x,0,y.1,z.1⟩,z.2)):=HR
  clear hx hst HC HR HX0 HK0
  generalize Ob.numR r1=res at *
  go_wp2_with fail
  refine HC1.out.mono ?_
  intro e w2 hq
  rcases res with _|⟨y,r2⟩
  ·obtain⟨rfl,hx⟩:=hq
   unfold thrown
   go_wp2_with fail
   rw[HR1.out]
   exact⟨rfl,rfl,HX1.out.trans hx⟩
  ·obtain⟨v,rfl,rfl,hst,hx⟩:=hq
   have HX2:=Lib.hid (HX1.out.trans hx)
   have HK2:Hid (w2.heap[w.heap.size]?=some (.cells #[.string ⟨#[]⟩,.int .i64 0,.int .i64 0,.bool false] 118 (0,0))):=(hx.block _ (zi HK1.out) (by omega)).trans HK1.out
   have HC2:=Lib.hid (flag_any hst)
   have HR2:Hid (resT=(Ob.flagR r2).map fun z=>(⟨x,0,y,z.1⟩,z.2)):=HR1
   clear hx hst HC1 HR1 HX1 HK1
   generalize Ob.flagR r2=res at *
   go_wp2_with fail
   refine HC2.out.mono ?_
   intro e w3 hq
   rcases res with _|⟨z,r3⟩
   ·obtain⟨rfl,hx⟩:=hq
    unfold thrown
    go_wp2_with fail
    rw[HR2.out]
    exact⟨rfl,rfl,HX2.out.trans hx⟩
   ·obtain⟨v,rfl,rfl,hst,hx⟩:=hq
    have HX3:=Lib.hid (HX2.out.trans hx)
    have hk3:=(hx.block _ (zi HK2.out) (by omega)).trans HK2.out
    have HST:=Lib.hid hst
    have k0:w3.cell? ⟨w.heap.size,0,none⟩=some (.string ⟨#[]⟩):=za hk3
    have k1:w3.cell? ⟨w.heap.size,1,none⟩=some (.int .i64 0):=za hk3
    have k2:w3.cell? ⟨w.heap.size,2,none⟩=some (.int .i64 0):=za hk3
    have k3:w3.cell? ⟨w.heap.size,3,none⟩=some (.bool false):=za hk3
    have kf:∀ i,w3.frozen? ⟨w.heap.size,i,none⟩=false:=fun i=>zg hk3
    have HK3:=Lib.hid hk3
    clear hx hst HC2 HX2 HK2 hk3
    go_wp2_with fail
    obtain⟨hs1,hs2⟩:=set4_out (.string (bs x)) (.int .i64 0) (.int .i64 y) (.bool z) HK3.out
    have hst':=HST.out.other hs2 (by omega)
    have hx':=HX3.out.new hs2 (Nat.le_refl _)
    generalize (((w3.setCell ⟨w.heap.size,0,none⟩ (.string (bs x))).setCell ⟨w.heap.size,1,none⟩ (.int .i64 0)).setCell ⟨w.heap.size,2,none⟩ (.int .i64 y)).setCell ⟨w.heap.size,3,none⟩ (.bool z)=wd at *
    have d0:wd.cell? ⟨w.heap.size,0,none⟩=some (.string (bs x)):=za hs1
    have d1:wd.cell? ⟨w.heap.size,1,none⟩=some (.int .i64 0):=za hs1
    have d2:wd.cell? ⟨w.heap.size,2,none⟩=some (.int .i64 y):=za hs1
    have d3:wd.cell? ⟨w.heap.size,3,none⟩=some (.bool z):=za hs1
    refine bodyPost_ret (v:=.agg #[.string (bs x),.int .i64 0,.int .i64 y,.bool z]) (by simp[results,Tryz.results140,go_sem,d0,d1,d2,d3]) rfl ?_
    rw[HR2.out]
    exact⟨_,rfl,rfl,hst',hx'⟩
theorem uM {w:World}{rb:Nat}{l:Bs}(h:Rst w rb l) :
  Calls Tryz.prog 142 #[.pointer (some ⟨rb,0,none⟩)] w fun e w'=>Rp rb w VEn (Ob.enR l) e w':=by
 have hrl:=zc h.c
 have hb0:Below w.heap.size w (w.alloc (.cells #[.int .i64 0,.int .i64 0,.int .i64 0] 156)):=(Below.refl _ _).alloc (Nat.le_refl _) _
 have hk0:(w.alloc (.cells #[.int .i64 0,.int .i64 0,.int .i64 0] 156)).heap[w.heap.size]?=some (.cells #[.int .i64 0,.int .i64 0,.int .i64 0] 156 (0,0)):=zk _ _
 have hR:Ob.enR l=(Ob.numR l).bind fun x=>(Ob.numR x.2).bind fun y=>(Ob.numR y.2).map fun z=>(⟨x.1,y.1,z.1⟩,z.2):=rfl
 have HR:=Lib.hid hR
 clear hR
 generalize Ob.enR l=resT at *
 go_enter Tryz.func142,Tryz.ntmps142
 go_wp2_with fail
 generalize w.alloc (.cells #[.int .i64 0,.int .i64 0,.int .i64 0] 156)=w0 at *
 have HX0:Hid (Ext rb w w0):=Ext.below hb0
 have HK0:=Lib.hid hk0
 have HC:=Lib.hid (je (h.ext hb0))
 clear h hb0 hk0
 generalize Ob.numR l=res at *
 refine HC.out.mono ?_
 intro e w1 hq
 rcases res with _|⟨x,r1⟩
 ·obtain⟨rfl,hx⟩:=hq
  unfold thrown
  go_wp2_with fail
  rw[HR.out]
  exact⟨rfl,rfl,HX0.out.trans hx⟩
 ·obtain⟨v,rfl,rfl,hst,hx⟩:=hq
  have HX1:=Lib.hid (HX0.out.trans hx)
  have HK1:Hid (w1.heap[w.heap.size]?=some (.cells #[.int .i64 0,.int .i64 0,.int .i64 0] 156 (0,0))):=(hx.block _ (zi HK0.out) (by omega)).trans HK0.out
  have HC1:=Lib.hid (je hst)
  have HR1:Hid (resT=(Ob.numR r1).bind fun y=>(Ob.numR y.2).map fun z=>(⟨x,y.1,z.1⟩,z.2)):=HR
  clear hx hst HC HR HX0 HK0
  generalize Ob.numR r1=res at *
  go_wp2_with fail
  refine HC1.out.mono ?_
  intro e w2 hq
  rcases res with _|⟨y,r2⟩
  ·obtain⟨rfl,hx⟩:=hq
   unfold thrown
   go_wp2_with fail
   rw[HR1.out]
   exact⟨rfl,rfl,HX1.out.trans hx⟩
  ·obtain⟨v,rfl,rfl,hst,hx⟩:=hq
   have HX2:=Lib.hid (HX1.out.trans hx)
   have HK2:Hid (w2.heap[w.heap.size]?=some (.cells #[.int .i64 0,.int .i64 0,.int .i64 0] 156 (0,0))):=(hx.block _ (zi HK1.out) (by omega)).trans HK1.out
   have HC2:=Lib.hid (je hst)
   have HR2:Hid (resT=(Ob.numR r2).map fun z=>(⟨x,y,z.1⟩,z.2)):=HR1
   clear hx hst HC1 HR1 HX1 HK1
   generalize Ob.numR r2=res at *
   go_wp2_with fail
   refine HC2.out.mono ?_
   intro e w3 hq
   rcases res with _|⟨z,r3⟩
   ·obtain⟨rfl,hx⟩:=hq
    unfold thrown
    go_wp2_with fail
    rw[HR2.out]
    exact⟨rfl,rfl,HX2.out.trans hx⟩
   ·obtain⟨v,rfl,rfl,hst,hx⟩:=hq
    have HX3:=Lib.hid (HX2.out.trans hx)
    have hk3:=(hx.block _ (zi HK2.out) (by omega)).trans HK2.out
    have HST:=Lib.hid hst
    have k0:w3.cell? ⟨w.heap.size,0,none⟩=some (.int .i64 0):=za hk3
    have k1:w3.cell? ⟨w.heap.size,1,none⟩=some (.int .i64 0):=za hk3
    have k2:w3.cell? ⟨w.heap.size,2,none⟩=some (.int .i64 0):=za hk3
    have kf:∀ i,w3.frozen? ⟨w.heap.size,i,none⟩=false:=fun i=>zg hk3
    have HK3:=Lib.hid hk3
    clear hx hst HC2 HX2 HK2 hk3
    go_wp2_with fail
    obtain⟨hs1,hs2⟩:=jE (.int .i64 x) (.int .i64 y) (.int .i64 z) HK3.out
    have hst':=HST.out.other hs2 (by omega)
    have hx':=HX3.out.new hs2 (Nat.le_refl _)
    generalize ((w3.setCell ⟨w.heap.size,0,none⟩ (.int .i64 x)).setCell ⟨w.heap.size,1,none⟩ (.int .i64 y)).setCell ⟨w.heap.size,2,none⟩ (.int .i64 z)=wd at *
    have d0:wd.cell? ⟨w.heap.size,0,none⟩=some (.int .i64 x):=za hs1
    have d1:wd.cell? ⟨w.heap.size,1,none⟩=some (.int .i64 y):=za hs1
    have d2:wd.cell? ⟨w.heap.size,2,none⟩=some (.int .i64 z):=za hs1
    refine bodyPost_ret (v:=.agg #[.int .i64 x,.int .i64 y,.int .i64 z]) (by simp[results,Tryz.results142,go_sem,d0,d1,d2]) rfl ?_
    rw[HR2.out]
    exact⟨_,rfl,rfl,hst',hx'⟩
theorem inst_any {w:World}{rb:Nat}{l:Bs}(h:Rst w rb l) :
  Calls Tryz.prog 144 #[.pointer (some ⟨rb,0,none⟩)] w fun e w'=>Rp rb w VIn (Ob.inR l) e w':=by
 have hrl:=zc h.c
 have hb0:Below w.heap.size w (w.alloc (.cells #[.int .i64 0,.int .i64 0,.int .i64 0] 54)):=(Below.refl _ _).alloc (Nat.le_refl _) _
 have hk0:(w.alloc (.cells #[.int .i64 0,.int .i64 0,.int .i64 0] 54)).heap[w.heap.size]?=some (.cells #[.int .i64 0,.int .i64 0,.int .i64 0] 54 (0,0)):=zk _ _
 have hR:Ob.inR l=(Ob.numR l).bind fun x=>(Ob.numR x.2).bind fun y=>(Ob.numR y.2).map fun z=>(⟨x.1,y.1,z.1⟩,z.2):=rfl
 have HR:=Lib.hid hR
 clear hR
 generalize Ob.inR l=resT at *
 go_enter Tryz.func144,Tryz.ntmps144
 go_wp2_with fail
 generalize w.alloc (.cells #[.int .i64 0,.int .i64 0,.int .i64 0] 54)=w0 at *
 have HX0:Hid (Ext rb w w0):=Ext.below hb0
 have HK0:=Lib.hid hk0
 have HC:=Lib.hid (je (h.ext hb0))
 clear h hb0 hk0
 generalize Ob.numR l=res at *
 refine HC.out.mono ?_
 intro e w1 hq
 rcases res with _|⟨x,r1⟩
 ·obtain⟨rfl,hx⟩:=hq
  unfold thrown
  go_wp2_with fail
  rw[HR.out]
  exact⟨rfl,rfl,HX0.out.trans hx⟩
 ·obtain⟨v,rfl,rfl,hst,hx⟩:=hq
  have HX1:=Lib.hid (HX0.out.trans hx)
  have HK1:Hid (w1.heap[w.heap.size]?=some (.cells #[.int .i64 0,.int .i64 0,.int .i64 0] 54 (0,0))):=(hx.block _ (zi HK0.out) (by omega)).trans HK0.out
  have HC1:=Lib.hid (numI hst)
  have HR1:Hid (resT=(Ob.numR r1).bind fun y=>(Ob.numR y.2).map fun z=>(⟨x,y.1,z.1⟩,z.2)):=HR
  clear hx hst HC HR HX0 HK0
  generalize Ob.numR r1=res at *
  go_wp2_with fail
  refine HC1.out.mono ?_
  intro e w2 hq
  rcases res with _|⟨y,r2⟩
  ·obtain⟨rfl,hx⟩:=hq
   unfold thrown
   go_wp2_with fail
   rw[HR1.out]
   exact⟨rfl,rfl,HX1.out.trans hx⟩
  ·obtain⟨v,rfl,rfl,hst,hx⟩:=hq
   have HX2:=Lib.hid (HX1.out.trans hx)
   have HK2:Hid (w2.heap[w.heap.size]?=some (.cells #[.int .i64 0,.int .i64 0,.int .i64 0] 54 (0,0))):=(hx.block _ (zi HK1.out) (by omega)).trans HK1.out
   have HC2:=Lib.hid (numI hst)
   have HR2:Hid (resT=(Ob.numR r2).map fun z=>(⟨x,y,z.1⟩,z.2)):=HR1
   clear hx hst HC1 HR1 HX1 HK1
   generalize Ob.numR r2=res at *
   go_wp2_with fail
   refine HC2.out.mono ?_
   intro e w3 hq
   rcases res with _|⟨z,r3⟩
   ·obtain⟨rfl,hx⟩:=hq
    unfold thrown
    go_wp2_with fail
    rw[HR2.out]
    exact⟨rfl,rfl,HX2.out.trans hx⟩
   ·obtain⟨v,rfl,rfl,hst,hx⟩:=hq
    have HX3:=Lib.hid (HX2.out.trans hx)
    have hk3:=(hx.block _ (zi HK2.out) (by omega)).trans HK2.out
    have HST:=Lib.hid hst
    have k0:w3.cell? ⟨w.heap.size,0,none⟩=some (.int .i64 0):=za hk3
    have k1:w3.cell? ⟨w.heap.size,1,none⟩=some (.int .i64 0):=za hk3
    have k2:w3.cell? ⟨w.heap.size,2,none⟩=some (.int .i64 0):=za hk3
    have kf:∀ i,w3.frozen? ⟨w.heap.size,i,none⟩=false:=fun i=>zg hk3
    have HK3:=Lib.hid hk3
    clear hx hst HC2 HX2 HK2 hk3
    go_wp2_with fail
    obtain⟨hs1,hs2⟩:=jE (.int .i64 x) (.int .i64 y) (.int .i64 z) HK3.out
    have hst':=HST.out.other hs2 (by omega)
    have hx':=HX3.out.new hs2 (Nat.le_refl _)
    generalize ((w3.setCell ⟨w.heap.size,0,none⟩ (.int .i64 x)).setCell ⟨w.heap.size,1,none⟩ (.int .i64 y)).setCell ⟨w.heap.size,2,none⟩ (.int .i64 z)=wd at *
    have d0:wd.cell? ⟨w.heap.size,0,none⟩=some (.int .i64 x):=za hs1
    have d1:wd.cell? ⟨w.heap.size,1,none⟩=some (.int .i64 y):=za hs1
    have d2:wd.cell? ⟨w.heap.size,2,none⟩=some (.int .i64 z):=za hs1
    refine bodyPost_ret (v:=.agg #[.int .i64 x,.int .i64 y,.int .i64 z]) (by simp[results,Tryz.results144,go_sem,d0,d1,d2]) rfl ?_
    rw[HR2.out]
    exact⟨_,rfl,rfl,hst',hx'⟩
def smC (s:Ob.Sm):List Value:=[.string (bs s.name),.int .i64 s.len,.int .i64 s.args]
def glC (g:Ob.Gl):List Value:=[.string (bs g.name),.int .i64 g.at',.int .i64 g.len,.bool g.seen]
def enC (e:Ob.En):List Value:=[.int .i64 e.at',.int .i64 e.args,.int .i64 e.locals]
def inC (x:Ob.In):List Value:=[.int .i64 x.op,.int .i64 x.a,.int .i64 x.b]
def stC (s:Bs):List Value:=[.string (bs s)]
def cellsOf {α:Type}(c:α->List Value) (l:List α):List Value:=(l.map c).flatten
theorem yA {α:Type}(c:α->List Value) (l:List α) (x:α):cellsOf c (l++[x])=cellsOf c l++c x:=by simp[cellsOf]
def app {α:Type}(l:List α) (r:Option (List α× Bs)):Option (List α× Bs):=r.map fun y=>(l++y.1,y.2)
theorem j9 {α:Type}(r:Option (List α× Bs)):app [] r=r:=by rcases r with _|⟨x,y⟩ <;> rfl
theorem jA {α:Type}{one:Ob.Rd α}{l:List α}{n:Nat}{r:Bs}(h:one r=none):app l (Ob.repR one (n+1) r)=none:=by simp[Ob.repR,h,app]
theorem kQ {α:Type}{one:Ob.Rd α}{l:List α}{n:Nat}{r r1:Bs}{x:α}(h:one r=some (x,r1)):app l (Ob.repR one (n+1) r)=app (l++[x]) (Ob.repR one n r1):=by
 simp only [Ob.repR,h,app,Option.bind_some,Option.map_map]
 congr 1
 funext y
 simp
theorem Tryz.infoSym:(Tryz.prog.info? 44).map (fun i=>(i.zero,i.size,i.bytes))=some (some (.agg #[.string ⟨#[]⟩,.int .i64 0,.int .i64 0]),3,32):=by kernel_rfl
theorem Tryz.infoGlobal:(Tryz.prog.info? 118).map (fun i=>(i.zero,i.size,i.bytes))=some (some (.agg #[.string ⟨#[]⟩,.int .i64 0,.int .i64 0,.bool false]),4,40):=by kernel_rfl
theorem Tryz.infoInst:(Tryz.prog.info? 54).map (fun i=>(i.zero,i.size,i.bytes))=some (some (.agg #[.int .i64 0,.int .i64 0,.int .i64 0]),3,24):=by kernel_rfl
theorem Tryz.infoEntry:(Tryz.prog.info? 156).map (fun i=>(i.zero,i.size,i.bytes))=some (some (.agg #[.int .i64 0,.int .i64 0,.int .i64 0]),3,24):=by kernel_rfl
theorem Tryz.infoUse:(Tryz.prog.info? 128).map (fun i=>(i.zero,i.size,i.bytes))=some (some (.agg #[.string ⟨#[]⟩,.string ⟨#[]⟩,.slice none 0 0]),3,56):=by kernel_rfl
theorem Tryz.infoString:(Tryz.prog.info? 9).map (fun i=>(i.zero,i.size,i.bytes))=some (some (.string ⟨#[]⟩),1,16):=by kernel_rfl
theorem yc {ops:Array Oper}{rest:List Oper}{o:Oper}{a:Act}{Q:Exit->Act->World->Prop}(hgd:o.guard=none) (sl x:Operand) (t:TypeId)
  (ho:o.op=.call { callee:=.builtin .append,args:=#[sl,x],argTypes:=#[t,t] }) {w:World} {B e size bytes n:Nat} {z:Value}
  (ht:Tryz.prog.underlying t=some (.slice e)) (hi:(Tryz.prog.info? e).map (fun i=>(i.zero,i.size,i.bytes))=some (some z,size,bytes)) (hzs:z.cells.size=size) (hsz:0<size) (hby:bytes<=100)
  {v:Value} {xs:List Value} (hs:a.eval sl=v) (hown:w.ownsRow B e size v n xs) (es:List Value) (hes:es.length=size) (h1:∀ u∈es,u.oneCell'=true)
  (hx:a.eval x=.slice (some ⟨w.heap.size,0,none⟩) 1 1) (hn:n<=1000000) (hB:B<=w.heap.size)
  (h:∀ v' w',w'.ownsRow B e size v' (n+1) (xs++es)->Exact v v' w w'->Below B w w'->wpList Tryz.prog ops Q rest (a.put o.dst v') w'):wpList Tryz.prog ops Q (o :: rest) a (w.alloc (.cells es.toArray e)):=by
 obtain⟨i0,hi0,hz0,hz1,hz2⟩:=info_parts hi
 have hb:Below w.heap.size w (w.alloc (.cells es.toArray e)):=(Below.refl _ _).alloc (Nat.le_refl _) _
 have hown1:=yj hown hb
 have hmul:(n+1) * bytes<=140737488355328:=Nat.le_trans (Nat.mul_le_mul (show n+1<=1000001 by omega) hby) (by omega)
 refine zC _ hgd sl x t ho B e i0 z size bytes ht hi0 hz0 hz1 hz2 hzs hsz v n xs hs hown1 ⟨w.heap.size,0,none⟩ 1 1 es hx (by omega) ?c1 h1 (by unfold maxLen;omega) hmul (Nat.le_trans hB hb.size) ?_
 case c1 =>
  intro j u hj
  rw[Addr.add_lit,za (zk _ _),Nat.zero_add]
  simpa using hj
 intro v' w' r1 r2 r3
 have hbg:Below B (w.alloc (.cells es.toArray e)) w':=(Below.refl _ _).grown r2 (Nat.le_trans hB hb.size) (zL hown1)
 exact h v' w' r1 (Exact.ahead hb (Exact.of r2 r3)) ((hb.mono hB).trans hbg)
theorem qA {w:World}{rb:Nat}{l:Bs}(h:Rst w rb l) (most:Nat) (hm:most<=10000) :
  Calls Tryz.prog 135 #[.pointer (some ⟨rb,0,none⟩),.int .i64 (most:Int),.func (.func 136) #[.pointer (some ⟨rb,0,none⟩)] #[]] w fun e w' =>
   Rp rb w (fun xs v w'=>w'.ownsRow w.heap.size 44 3 v xs.length (cellsOf smC xs)) (Ob.listR most Ob.symR l) e w':=by
 have hrl:=zc h.c
 have HC:=Lib.hid (kK h most (by omega))
 have HR:Hid (Ob.listR most Ob.symR l=(Ob.manyR most l).bind fun x=>Ob.repR Ob.symR x.1 x.2):=rfl
 have HB:Hid (∀ n r,Ob.manyR most l=some (n,r)->n<=most):=fun n r he=>jc he
 generalize Ob.listR most Ob.symR l=resT at *
 generalize Ob.manyR most l=res at *
 go_enter Tryz.func135,Tryz.ntmps135
 go_wp2_with fail
 refine HC.out.mono ?_
 intro e w1 hq
 rcases res with _|⟨n,r⟩
 ·obtain⟨rfl,hx⟩:=hq
  unfold thrown
  go_wp2_with fail
  rw[HR.out]
  exact⟨rfl,rfl,hx⟩
 ·obtain⟨v,rfl,rfl,hst,hx⟩:=hq
  have hnm:=HB.out n r rfl
  have HR1:Hid (resT=Ob.repR Ob.symR n r):=HR
  have HST:=Lib.hid hst
  have HX:=Lib.hid hx
  clear HB HR HC hst hx h
  go_wp2_with fail
  go_loopg [7,11] n (fun k v vi wr=>∃(i:Nat) (xs:List Ob.Sm) (r':Bs),i<=n/\k=n - i/\xs.length=i/\vi=.int .i64 (i:Int)/\Hid (wr.ownsRow w.heap.size 44 3 v i (cellsOf smC xs))/\Hid (Rst wr rb r')/\Hid (Ext rb w wr)/\Hid (app xs (Ob.repR Ob.symR (n - i) r')=resT))
  case atStart=>exact⟨0,[],r,by omega,by omega,rfl,rfl,World.ownsRow_nil _ _ _ _,HST,HX,by rw[HR1.out,j9];exact rfl⟩
  case round =>
   obtain⟨i,xs,r',hid,hk,hxl,rfl,HO,HS,HE,HA⟩:=hrel
   clear HST HX HR1
   obtain⟨ao,cap,rfl⟩:=zl HO.out
   by_cases hlt:i<n
   ·have hlt':(i:Int)<(n:Int):=by omega
    have HC:=Lib.hid (sym_any HS.out)
    have HA1:Hid (app xs (Ob.repR Ob.symR ((n - (i+1))+1) r')=resT):=by rw[show n - (i+1)+1=n - i by omega];exact HA
    obtain⟨res,hres⟩:∃ res,Ob.symR r'=res:=⟨_,rfl⟩
    rw[hres]at HC
    have HRES:=Lib.hid hres
    clear hres HS HA
    go_wp2_with fail
    refine HC.out.mono ?_
    intro e w2 hq
    rcases res with _|⟨x,r2⟩
    ·obtain⟨rfl,hx⟩:=hq
     unfold thrown
     go_wp2_with fail
     rw[<-HA1.out,jA HRES.out]
     exact⟨rfl,rfl,HE.out.trans hx⟩
    ·obtain⟨v,rfl,hv,hst2,hx2⟩:=hq
     have HV:Hid (v=.agg #[.string (bs x.name),.int .i64 x.len,.int .i64 x.args]):=hv
     clear hv
     rw[HV.out]
     have hown2:=zA HO.out hx2 hrl
     have HE2:=Lib.hid (HE.out.trans hx2)
     have HST2:=Lib.hid hst2
     have HA2:Hid (app (xs++[x]) (Ob.repR Ob.symR (n - (i+1)) r2)=resT):=by rw[<-HA1.out];exact(kQ HRES.out).symm
     clear HC HA1 HRES HV HO HE hst2 hx2
     go_wp2_with (at_builtin;refine yc (size:=3) rfl _ _ 41 rfl Tryz.underlying41 Tryz.infoSym rfl (by decide) (by decide) rfl hown2 (smC x) rfl ?c1 rfl (by omega) HE2.out.size ?_)
     case c1=>intro u hu;simp[smC]at hu;rcases hu with rfl|rfl|rfl <;> rfl
     intro v' w3 hown3 hex3 hb3
     have HO3:Hid (w3.ownsRow w.heap.size 44 3 v' (i+1) (cellsOf smC (xs++[x]))):=by rw[yA];exact hown3
     have HE3:=Lib.hid (HE2.out.trans' hb3)
     have HS3:Hid (Rst w3 rb r2):=HST2.out.belowB hb3 hrl
     clear hown3 hex3 hb3 hown2 HE2 HST2
     go_wp2_with fail
     go_roundg (n - (i+1))
     case measure=>omega
     case rel=>exact⟨i+1,xs++[x],r2,by omega,rfl,by simp;omega,by go_num,HO3,HS3,HE3,HA2⟩
   ·have hlt':¬(i:Int)<(n:Int):=by omega
    have hei:i=n:=by omega
    have HA1:Hid (resT=some (xs,r')):=by
     show _=_
     rw[<-HA.out,hei,Nat.sub_self]
     simp[Ob.repR,app]
    clear HA hei
    subst hxl
    go_wp2_with fail
    go_ret
    rw[HA1.out]
    exact⟨_,rfl,HO.out,HS.out,HE.out⟩
theorem xr {w:World}{rb:Nat}{l:Bs}(h:Rst w rb l) (most:Nat) (hm:most<=10000) :
  Calls Tryz.prog 139 #[.pointer (some ⟨rb,0,none⟩),.int .i64 (most:Int),.func (.func 140) #[.pointer (some ⟨rb,0,none⟩)] #[]] w fun e w' =>
   Rp rb w (fun xs v w'=>w'.ownsRow w.heap.size 118 4 v xs.length (cellsOf glC xs)) (Ob.listR most Ob.glR l) e w':=by
 have hrl:=zc h.c
 have HC:=Lib.hid (kK h most (by omega))
 have HR:Hid (Ob.listR most Ob.glR l=(Ob.manyR most l).bind fun x=>Ob.repR Ob.glR x.1 x.2):=rfl
 have HB:Hid (∀ n r,Ob.manyR most l=some (n,r)->n<=most):=fun n r he=>jc he
 generalize Ob.listR most Ob.glR l=resT at *
 generalize Ob.manyR most l=res at *
 go_enter Tryz.func139,Tryz.ntmps139
 go_wp2_with fail
 refine HC.out.mono ?_
 intro e w1 hq
 rcases res with _|⟨n,r⟩
 ·obtain⟨rfl,hx⟩:=hq
  unfold thrown
  go_wp2_with fail
  rw[HR.out]
  exact⟨rfl,rfl,hx⟩
 ·obtain⟨v,rfl,rfl,hst,hx⟩:=hq
  have hnm:=HB.out n r rfl
  have HR1:Hid (resT=Ob.repR Ob.glR n r):=HR
  have HST:=Lib.hid hst
  have HX:=Lib.hid hx
  clear HB HR HC hst hx h
  go_wp2_with fail
  go_loopg [7,11] n (fun k v vi wr=>∃(i:Nat) (xs:List Ob.Gl) (r':Bs),i<=n/\k=n - i/\xs.length=i/\vi=.int .i64 (i:Int)/\Hid (wr.ownsRow w.heap.size 118 4 v i (cellsOf glC xs))/\Hid (Rst wr rb r')/\Hid (Ext rb w wr)/\Hid (app xs (Ob.repR Ob.glR (n - i) r')=resT))
  case atStart=>exact⟨0,[],r,by omega,by omega,rfl,rfl,World.ownsRow_nil _ _ _ _,HST,HX,by rw[HR1.out,j9];exact rfl⟩
  case round =>
   obtain⟨i,xs,r',hid,hk,hxl,rfl,HO,HS,HE,HA⟩:=hrel
   clear HST HX HR1
   obtain⟨ao,cap,rfl⟩:=zl HO.out
   by_cases hlt:i<n
   ·have hlt':(i:Int)<(n:Int):=by omega
    have HC:=Lib.hid (global_any HS.out)
    have HA1:Hid (app xs (Ob.repR Ob.glR ((n - (i+1))+1) r')=resT):=by rw[show n - (i+1)+1=n - i by omega];exact HA
    obtain⟨res,hres⟩:∃ res,Ob.glR r'=res:=⟨_,rfl⟩
    rw[hres]at HC
    have HRES:=Lib.hid hres
    clear hres HS HA
    go_wp2_with fail
    refine HC.out.mono ?_
    intro e w2 hq
    rcases res with _|⟨x,r2⟩
    ·obtain⟨rfl,hx⟩:=hq
     unfold thrown
     go_wp2_with fail
     rw[<-HA1.out,jA HRES.out]
     exact⟨rfl,rfl,HE.out.trans hx⟩
    ·obtain⟨v,rfl,hv,hst2,hx2⟩:=hq
     have HV:Hid (v=.agg #[.string (bs x.name),.int .i64 x.at',.int .i64 x.len,.bool x.seen]):=hv
     clear hv
     rw[HV.out]
     have hown2:=zA HO.out hx2 hrl
     have HE2:=Lib.hid (HE.out.trans hx2)
     have HST2:=Lib.hid hst2
     have HA2:Hid (app (xs++[x]) (Ob.repR Ob.glR (n - (i+1)) r2)=resT):=by rw[<-HA1.out];exact(kQ HRES.out).symm
     clear HC HA1 HRES HV HO HE hst2 hx2
     go_wp2_with (at_builtin;refine yc (size:=4) rfl _ _ 25 rfl Tryz.underlying25 Tryz.infoGlobal rfl (by decide) (by decide) rfl hown2 (glC x) rfl ?c1 rfl (by omega) HE2.out.size ?_)
     case c1=>intro u hu;simp[glC]at hu;rcases hu with rfl|rfl|rfl|rfl <;> rfl
     intro v' w3 hown3 hex3 hb3
     have HO3:Hid (w3.ownsRow w.heap.size 118 4 v' (i+1) (cellsOf glC (xs++[x]))):=by rw[yA];exact hown3
     have HE3:=Lib.hid (HE2.out.trans' hb3)
     have HS3:Hid (Rst w3 rb r2):=HST2.out.belowB hb3 hrl
     clear hown3 hex3 hb3 hown2 HE2 HST2
     go_wp2_with fail
     go_roundg (n - (i+1))
     case measure=>omega
     case rel=>exact⟨i+1,xs++[x],r2,by omega,rfl,by simp;omega,by go_num,HO3,HS3,HE3,HA2⟩
   ·have hlt':¬(i:Int)<(n:Int):=by omega
    have hei:i=n:=by omega
    have HA1:Hid (resT=some (xs,r')):=by
     show _=_
     rw[<-HA.out,hei,Nat.sub_self]
     simp[Ob.repR,app]
    clear HA hei
    subst hxl
    go_wp2_with fail
    go_ret
    rw[HA1.out]
    exact⟨_,rfl,HO.out,HS.out,HE.out⟩
theorem uu {w:World}{rb:Nat}{l:Bs}(h:Rst w rb l) (most:Nat) (hm:most<=10000) :
  Calls Tryz.prog 143 #[.pointer (some ⟨rb,0,none⟩),.int .i64 (most:Int),.func (.func 144) #[.pointer (some ⟨rb,0,none⟩)] #[]] w fun e w' =>
   Rp rb w (fun xs v w'=>w'.ownsRow w.heap.size 54 3 v xs.length (cellsOf inC xs)) (Ob.listR most Ob.inR l) e w':=by
 have hrl:=zc h.c
 have HC:=Lib.hid (kK h most (by omega))
 have HR:Hid (Ob.listR most Ob.inR l=(Ob.manyR most l).bind fun x=>Ob.repR Ob.inR x.1 x.2):=rfl
 have HB:Hid (∀ n r,Ob.manyR most l=some (n,r)->n<=most):=fun n r he=>jc he
 generalize Ob.listR most Ob.inR l=resT at *
 generalize Ob.manyR most l=res at *
 go_enter Tryz.func143,Tryz.ntmps143
 go_wp2_with fail
 refine HC.out.mono ?_
 intro e w1 hq
 rcases res with _|⟨n,r⟩
 ·obtain⟨rfl,hx⟩:=hq
  unfold thrown
  go_wp2_with fail
  rw[HR.out]
  exact⟨rfl,rfl,hx⟩
 ·obtain⟨v,rfl,rfl,hst,hx⟩:=hq
  have hnm:=HB.out n r rfl
  have HR1:Hid (resT=Ob.repR Ob.inR n r):=HR
  have HST:=Lib.hid hst
  have HX:=Lib.hid hx
  clear HB HR HC hst hx h
  go_wp2_with fail
  go_loopg [7,11] n (fun k v vi wr=>∃(i:Nat) (xs:List Ob.In) (r':Bs),i<=n/\k=n - i/\xs.length=i/\vi=.int .i64 (i:Int)/\Hid (wr.ownsRow w.heap.size 54 3 v i (cellsOf inC xs))/\Hid (Rst wr rb r')/\Hid (Ext rb w wr)/\Hid (app xs (Ob.repR Ob.inR (n - i) r')=resT))
  case atStart=>exact⟨0,[],r,by omega,by omega,rfl,rfl,World.ownsRow_nil _ _ _ _,HST,HX,by rw[HR1.out,j9];exact rfl⟩
  case round =>
   obtain⟨i,xs,r',hid,hk,hxl,rfl,HO,HS,HE,HA⟩:=hrel
   clear HST HX HR1
   obtain⟨ao,cap,rfl⟩:=zl HO.out
   by_cases hlt:i<n
   ·have hlt':(i:Int)<(n:Int):=by omega
    have HC:=Lib.hid (inst_any HS.out)
    have HA1:Hid (app xs (Ob.repR Ob.inR ((n - (i+1))+1) r')=resT):=by rw[show n - (i+1)+1=n - i by omega];exact HA
    obtain⟨res,hres⟩:∃ res,Ob.inR r'=res:=⟨_,rfl⟩
    rw[hres]at HC
    have HRES:=Lib.hid hres
    clear hres HS HA
    go_wp2_with fail
    refine HC.out.mono ?_
    intro e w2 hq
    rcases res with _|⟨x,r2⟩
    ·obtain⟨rfl,hx⟩:=hq
     unfold thrown
     go_wp2_with fail
     rw[<-HA1.out,jA HRES.out]
     exact⟨rfl,rfl,HE.out.trans hx⟩
    ·obtain⟨v,rfl,hv,hst2,hx2⟩:=hq
     have HV:Hid (v=.agg #[.int .i64 x.op,.int .i64 x.a,.int .i64 x.b]):=hv
     clear hv
     rw[HV.out]
     have hown2:=zA HO.out hx2 hrl
     have HE2:=Lib.hid (HE.out.trans hx2)
     have HST2:=Lib.hid hst2
     have HA2:Hid (app (xs++[x]) (Ob.repR Ob.inR (n - (i+1)) r2)=resT):=by rw[<-HA1.out];exact(kQ HRES.out).symm
     clear HC HA1 HRES HV HO HE hst2 hx2
     go_wp2_with (at_builtin;refine yc (size:=3) rfl _ _ 55 rfl Tryz.underlying55 Tryz.infoInst rfl (by decide) (by decide) rfl hown2 (inC x) rfl ?c1 rfl (by omega) HE2.out.size ?_)
     case c1=>intro u hu;simp[inC]at hu;rcases hu with rfl|rfl|rfl <;> rfl
     intro v' w3 hown3 hex3 hb3
     have HO3:Hid (w3.ownsRow w.heap.size 54 3 v' (i+1) (cellsOf inC (xs++[x]))):=by rw[yA];exact hown3
     have HE3:=Lib.hid (HE2.out.trans' hb3)
     have HS3:Hid (Rst w3 rb r2):=HST2.out.belowB hb3 hrl
     clear hown3 hex3 hb3 hown2 HE2 HST2
     go_wp2_with fail
     go_roundg (n - (i+1))
     case measure=>omega
     case rel=>exact⟨i+1,xs++[x],r2,by omega,rfl,by simp;omega,by go_num,HO3,HS3,HE3,HA2⟩
   ·have hlt':¬(i:Int)<(n:Int):=by omega
    have hei:i=n:=by omega
    have HA1:Hid (resT=some (xs,r')):=by
     show _=_
     rw[<-HA.out,hei,Nat.sub_self]
     simp[Ob.repR,app]
    clear HA hei
    subst hxl
    go_wp2_with fail
    go_ret
    rw[HA1.out]
    exact⟨_,rfl,HO.out,HS.out,HE.out⟩
theorem jS {w:World}{rb:Nat}{l:Bs}(h:Rst w rb l) (most:Nat) (hm:most<=10000) :
  Calls Tryz.prog 141 #[.pointer (some ⟨rb,0,none⟩),.int .i64 (most:Int),.func (.func 134) #[.pointer (some ⟨rb,0,none⟩)] #[]] w fun e w' =>
   Rp rb w (fun xs v w'=>w'.ownsRow w.heap.size 9 1 v xs.length (cellsOf stC xs)) (Ob.listR most Ob.txtR l) e w':=by
 have hrl:=zc h.c
 have HC:=Lib.hid (kK h most (by omega))
 have HR:Hid (Ob.listR most Ob.txtR l=(Ob.manyR most l).bind fun x=>Ob.repR Ob.txtR x.1 x.2):=rfl
 have HB:Hid (∀ n r,Ob.manyR most l=some (n,r)->n<=most):=fun n r he=>jc he
 generalize Ob.listR most Ob.txtR l=resT at *
 generalize Ob.manyR most l=res at *
 go_enter Tryz.func141,Tryz.ntmps141
 go_wp2_with fail
 refine HC.out.mono ?_
 intro e w1 hq
 rcases res with _|⟨n,r⟩
 ·obtain⟨rfl,hx⟩:=hq
  unfold thrown
  go_wp2_with fail
  rw[HR.out]
  exact⟨rfl,rfl,hx⟩
 ·obtain⟨v,rfl,rfl,hst,hx⟩:=hq
  have hnm:=HB.out n r rfl
  have HR1:Hid (resT=Ob.repR Ob.txtR n r):=HR
  have HST:=Lib.hid hst
  have HX:=Lib.hid hx
  clear HB HR HC hst hx h
  go_wp2_with fail
  go_loopg [7,11] n (fun k v vi wr=>∃(i:Nat) (xs:List Bs) (r':Bs),i<=n/\k=n - i/\xs.length=i/\vi=.int .i64 (i:Int)/\Hid (wr.ownsRow w.heap.size 9 1 v i (cellsOf stC xs))/\Hid (Rst wr rb r')/\Hid (Ext rb w wr)/\Hid (app xs (Ob.repR Ob.txtR (n - i) r')=resT))
  case atStart=>exact⟨0,[],r,by omega,by omega,rfl,rfl,World.ownsRow_nil _ _ _ _,HST,HX,by rw[HR1.out,j9];exact rfl⟩
  case round =>
   obtain⟨i,xs,r',hid,hk,hxl,rfl,HO,HS,HE,HA⟩:=hrel
   clear HST HX HR1
   obtain⟨ao,cap,rfl⟩:=zl HO.out
   by_cases hlt:i<n
   ·have hlt':(i:Int)<(n:Int):=by omega
    have HC:=Lib.hid (kD HS.out)
    have HA1:Hid (app xs (Ob.repR Ob.txtR ((n - (i+1))+1) r')=resT):=by rw[show n - (i+1)+1=n - i by omega];exact HA
    obtain⟨res,hres⟩:∃ res,Ob.txtR r'=res:=⟨_,rfl⟩
    rw[hres]at HC
    have HRES:=Lib.hid hres
    clear hres HS HA
    go_wp2_with fail
    refine HC.out.mono ?_
    intro e w2 hq
    rcases res with _|⟨x,r2⟩
    ·obtain⟨rfl,hx⟩:=hq
     unfold thrown
     go_wp2_with fail
     rw[<-HA1.out,jA HRES.out]
     exact⟨rfl,rfl,HE.out.trans hx⟩
    ·obtain⟨v,rfl,hv,hst2,hx2⟩:=hq
     have HV:Hid (v=.string (bs x)):=hv
     clear hv
     rw[HV.out]
     have hown2:=zA HO.out hx2 hrl
     have HE2:=Lib.hid (HE.out.trans hx2)
     have HST2:=Lib.hid hst2
     have HA2:Hid (app (xs++[x]) (Ob.repR Ob.txtR (n - (i+1)) r2)=resT):=by rw[<-HA1.out];exact(kQ HRES.out).symm
     clear HC HA1 HRES HV HO HE hst2 hx2
     go_wp2_with (at_builtin;refine yc (size:=1) rfl _ _ 22 rfl Tryz.underlying22 Tryz.infoString rfl (by decide) (by decide) rfl hown2 (stC x) rfl ?c1 rfl (by omega) HE2.out.size ?_)
     case c1=>intro u hu;simp[stC]at hu;subst hu;rfl
     intro v' w3 hown3 hex3 hb3
     have HO3:Hid (w3.ownsRow w.heap.size 9 1 v' (i+1) (cellsOf stC (xs++[x]))):=by rw[yA];exact hown3
     have HE3:=Lib.hid (HE2.out.trans' hb3)
     have HS3:Hid (Rst w3 rb r2):=HST2.out.belowB hb3 hrl
     clear hown3 hex3 hb3 hown2 HE2 HST2
     go_wp2_with fail
     go_roundg (n - (i+1))
     case measure=>omega
     case rel=>exact⟨i+1,xs++[x],r2,by omega,rfl,by simp;omega,by go_num,HO3,HS3,HE3,HA2⟩
   ·have hlt':¬(i:Int)<(n:Int):=by omega
    have hei:i=n:=by omega
    have HA1:Hid (resT=some (xs,r')):=by
     show _=_
     rw[<-HA.out,hei,Nat.sub_self]
     simp[Ob.repR,app]
    clear HA hei
    subst hxl
    go_wp2_with fail
    go_ret
    rw[HA1.out]
    exact⟨_,rfl,HO.out,HS.out,HE.out⟩
def Row (w:World) (D:Nat->Prop) (e size:Nat) (v:Value) (n:Nat) (cs:List Value):Prop :=
 v=.slice none 0 0/\n=0/\cs=[]\/∃ g cap cur,v=.slice (some ⟨g,0,none⟩) n cap/\D g/\w.heap[g]?=some (.cells cur e (0,0))/\n<=cap/\cap<=maxLen/\cur.size=cap * size/\cur.toList.take (n * size)=cs
theorem Row.mono {w w':World}{D D':Nat->Prop}(hw:∀ b,D b->b<w.heap.size->w'.heap[b]?=w.heap[b]?/\D' b) {e size:Nat}{v:Value}{n:Nat}{cs:List Value}(h:Row w D e size v n cs):Row w' D' e size v n cs:=by
 rcases h with h|⟨g,cap,cur,h1,h2,h3,h4⟩
 ·exact Or.inl h
 ·obtain⟨e1,e2⟩:=hw g h2 (zi h3)
  exact Or.inr ⟨g,cap,cur,h1,e2,e1.trans h3,h4⟩
theorem Row.of_owns {w:World}{base e size n:Nat}{v:Value}{cs:List Value}(h:w.ownsRow base e size v n cs):Row w (fun b=>base<=b/\v.ownBlock=some b) e size v n cs:=by
 rcases h.2 with⟨rfl,rfl⟩|⟨g,cap,cur,rfl,q1,q2,q3,q4,q5,q6⟩
 ·exact Or.inl ⟨rfl,rfl,List.eq_nil_of_length_eq_zero (by simpa using h.1)⟩
 ·exact Or.inr ⟨g,cap,cur,rfl,⟨q1,rfl⟩,q2,q3,q4,q5,q6⟩
def RepU (w:World) (D:Nat->Prop):List Ob.Us->List Value->Prop
 | [],cs=>cs=[]
 | u :: l,cs=>∃(nv:Value) (cs':List Value),cs=[.string (bs u.name),.string (bs u.need),nv]++cs'/\Row w D 9 1 nv u.names.length (cellsOf stC u.names)/\RepU w D l cs'
theorem RepU.mono {w w':World}{D D':Nat->Prop}(hw:∀ b,D b->b<w.heap.size->w'.heap[b]?=w.heap[b]?/\D' b):∀(l:List Ob.Us) (cs:List Value),RepU w D l cs->RepU w' D' l cs:=by
 intro l
 induction l with
 | nil=>intro cs h;exact h
 | cons c l ih =>
  intro cs h
  obtain⟨nv,cs',h1,h2,h3⟩:=h
  exact⟨nv,cs',h1,h2.mono hw,ih cs' h3⟩
theorem RepU.app {w:World}{D:Nat->Prop}:∀(l m:List Ob.Us) (cs us:List Value),RepU w D l cs->RepU w D m us->RepU w D (l++m) (cs++us):=by
 intro l
 induction l with
 | nil=>intro m cs us h k;rw[show cs=[] from h];exact k
 | cons c l ih =>
  intro m cs us h k
  obtain⟨nv,cs',h1,h2,h3⟩:=h
  exact⟨nv,cs'++us,by rw[h1,List.append_assoc],h2,ih m cs' us h3 k⟩
def VUs (B:Nat) (u:Ob.Us) (v:Value) (w:World):Prop:=∃(na:Option Addr) (nc:Nat),v=.agg #[.string (bs u.name),.string (bs u.need),.slice na u.names.length nc]/\w.ownsRow B 9 1 (.slice na u.names.length nc) u.names.length (cellsOf stC u.names)
theorem qB {w:World}{rb:Nat}{l:Bs}(h:Rst w rb l) :
  Calls Tryz.prog 141 #[.pointer (some ⟨rb,0,none⟩),.int .i64 100,.func (.func 134) #[.pointer (some ⟨rb,0,none⟩)] #[]] w fun e w' =>
   Rp rb w (fun xs v w'=>w'.ownsRow w.heap.size 9 1 v xs.length (cellsOf stC xs)) (Ob.listR 100 Ob.txtR l) e w':=jS h 100 (by omega)
theorem use_any {w:World}{rb:Nat}{l:Bs}(h:Rst w rb l) :
  Calls Tryz.prog 138 #[.pointer (some ⟨rb,0,none⟩)] w fun e w'=>Rp rb w (VUs w.heap.size) (Ob.useR l) e w':=by
 have hrl:=zc h.c
 have hb0:Below w.heap.size w (w.alloc (.cells #[.string ⟨#[]⟩,.string ⟨#[]⟩,.slice none 0 0] 128)):=(Below.refl _ _).alloc (Nat.le_refl _) _
 have hk0:(w.alloc (.cells #[.string ⟨#[]⟩,.string ⟨#[]⟩,.slice none 0 0] 128)).heap[w.heap.size]?=some (.cells #[.string ⟨#[]⟩,.string ⟨#[]⟩,.slice none 0 0] 128 (0,0)):=zk _ _
 have hR:Ob.useR l=(Ob.txtR l).bind fun x=>(Ob.txtR x.2).bind fun y=>(Ob.listR 100 Ob.txtR y.2).map fun z=>(⟨x.1,y.1,z.1⟩,z.2):=rfl
 have HR:=Lib.hid hR
 clear hR
 generalize Ob.useR l=resT at *
 have hmf:∀(fn:Fn) (first cap:Array Value) (w:World),(Instr.makeFunc fn first cap).run Tryz.prog w=.ok (.func fn first cap) w:=fun _ _ _ _=>rfl
 go_enter Tryz.func138,Tryz.ntmps138
 go_wp2_with fail
 generalize w.alloc (.cells #[.string ⟨#[]⟩,.string ⟨#[]⟩,.slice none 0 0] 128)=w0 at *
 have HX0:Hid (Ext rb w w0):=Ext.below hb0
 have HK0:=Lib.hid hk0
 have HC:=Lib.hid (kD (h.ext hb0))
 clear h hb0 hk0
 generalize Ob.txtR l=res at *
 refine HC.out.mono ?_
 intro e w1 hq
 rcases res with _|⟨x,r1⟩
 ·obtain⟨rfl,hx⟩:=hq
  unfold thrown
  go_wp2_with fail
  rw[HR.out]
  exact⟨rfl,rfl,HX0.out.trans hx⟩
 ·obtain⟨v,rfl,rfl,hst,hx⟩:=hq
  have HX1:=Lib.hid (HX0.out.trans hx)
  have HK1:Hid (w1.heap[w.heap.size]?=some (.cells #[.string ⟨#[]⟩,.string ⟨#[]⟩,.slice none 0 0] 128 (0,0))):=(hx.block _ (zi HK0.out) (by omega)).trans HK0.out
  have HC1:=Lib.hid (kD hst)
  have HR1:Hid (resT=(Ob.txtR r1).bind fun y=>(Ob.listR 100 Ob.txtR y.2).map fun z=>(⟨x,y.1,z.1⟩,z.2)):=HR
  clear hx hst HC HR HX0 HK0
  generalize Ob.txtR r1=res at *
  go_wp2_with fail
  refine HC1.out.mono ?_
  intro e w2 hq
  rcases res with _|⟨y,r2⟩
  ·obtain⟨rfl,hx⟩:=hq
   unfold thrown
   go_wp2_with fail
   rw[HR1.out]
   exact⟨rfl,rfl,HX1.out.trans hx⟩
  ·obtain⟨v,rfl,rfl,hst,hx⟩:=hq
   have HX2:=Lib.hid (HX1.out.trans hx)
   have HK2:Hid (w2.heap[w.heap.size]?=some (.cells #[.string ⟨#[]⟩,.string ⟨#[]⟩,.slice none 0 0] 128 (0,0))):=(hx.block _ (zi HK1.out) (by omega)).trans HK1.out
   have HC2:=Lib.hid (qB hst)
   have HR2:Hid (resT=(Ob.listR 100 Ob.txtR r2).map fun z=>(⟨x,y,z.1⟩,z.2)):=HR1
   clear hx hst HC1 HR1 HX1 HK1
   generalize Ob.listR 100 Ob.txtR r2=res at *
   go_wp2_with fail
   refine HC2.out.mono ?_
   intro e w3 hq
   rcases res with _|⟨z,r3⟩
   ·obtain⟨rfl,hx⟩:=hq
    unfold thrown
    go_wp2_with fail
    rw[HR2.out]
    exact⟨rfl,rfl,HX2.out.trans hx⟩
   ·obtain⟨v,rfl,hv,hst,hx⟩:=hq
    obtain⟨na,nc,rfl⟩:=zl hv
    have HV:=Lib.hid hv
    have hs02:=HX2.out.size
    have hs2s:=zi HK2.out
    clear hv
    have HX3:=Lib.hid (HX2.out.trans hx)
    have hk3:=(hx.block _ (zi HK2.out) (by omega)).trans HK2.out
    have HST:=Lib.hid hst
    have k0:w3.cell? ⟨w.heap.size,0,none⟩=some (.string ⟨#[]⟩):=za hk3
    have k1:w3.cell? ⟨w.heap.size,1,none⟩=some (.string ⟨#[]⟩):=za hk3
    have k2:w3.cell? ⟨w.heap.size,2,none⟩=some (.slice none 0 0):=za hk3
    have kf:∀ i,w3.frozen? ⟨w.heap.size,i,none⟩=false:=fun i=>zg hk3
    have HK3:=Lib.hid hk3
    clear hx hst HC2 HX2 HK2 hk3
    go_wp2_with fail
    obtain⟨hs1,hs2⟩:=jE (.string (bs x)) (.string (bs y)) (.slice na z.length nc) HK3.out
    have hown':(((w3.setCell ⟨w.heap.size,0,none⟩ (.string (bs x))).setCell ⟨w.heap.size,1,none⟩ (.string (bs y))).setCell ⟨w.heap.size,2,none⟩ (.slice na z.length nc)).ownsRow w.heap.size 9 1 (.slice na z.length nc) z.length (cellsOf stC z):=by
     rcases HV.out.2 with q|⟨g,cap,cur,q0,q1,q2,q3⟩
     ·exact⟨HV.out.1,Or.inl q⟩
     ·exact⟨HV.out.1,Or.inr ⟨g,cap,cur,q0,by omega,(hs2.block g (zi q2) (by omega)).trans q2,q3⟩⟩
    have hst':=HST.out.other hs2 (by omega)
    have hx':=HX3.out.new hs2 (Nat.le_refl _)
    generalize ((w3.setCell ⟨w.heap.size,0,none⟩ (.string (bs x))).setCell ⟨w.heap.size,1,none⟩ (.string (bs y))).setCell ⟨w.heap.size,2,none⟩ (.slice na z.length nc)=wd at *
    have d0:wd.cell? ⟨w.heap.size,0,none⟩=some (.string (bs x)):=za hs1
    have d1:wd.cell? ⟨w.heap.size,1,none⟩=some (.string (bs y)):=za hs1
    have d2:wd.cell? ⟨w.heap.size,2,none⟩=some (.slice na z.length nc):=za hs1
    refine bodyPost_ret (v:=.agg #[.string (bs x),.string (bs y),.slice na z.length nc]) (by simp[results,Tryz.results138,go_sem,d0,d1,d2]) rfl ?_
    rw[HR2.out]
    exact⟨_,rfl,⟨na,nc,rfl,hown'⟩,hst',hx'⟩
end Go.Proofs.YtmocelfkmdpogaaGreatDoor.Jo
