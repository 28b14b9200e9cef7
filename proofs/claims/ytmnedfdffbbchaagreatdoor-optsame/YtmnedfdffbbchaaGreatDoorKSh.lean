import Derived.Test.YtmnedfdffbbchaaGreatDoorKSg
import Derived.Test.YtmnedfdffbbchaaGreatDoorKJd
set_option maxRecDepth 100000
set_option maxHeartbeats 4000000

namespace Go.Proofs.YtmnedfdffbbchaaGreatDoor.Jo
open Go.RowKit Go.Sort
open Ob (O In I64)
open Tp (Bs)
theorem xf {α:Type}{c:α->List Value}(h:∀ x,∀ u∈c x,u.oneCell'=true) (l:List α):∀ u∈cellsOf c l,u.oneCell'=true:=by
 induction l with
 | nil=>intro u hu;cases hu
 | cons x r ih =>
  intro u hu
  have hu:u∈c x++cellsOf c r:=hu
  rcases List.mem_append.1 hu with q|q
  ·exact h x u q
  ·exact ih u q
theorem one_sm (x:Ob.Sm):∀ u∈smC x,u.oneCell'=true:=by intro u hu;simp[smC]at hu;rcases hu with rfl|rfl|rfl <;> rfl
theorem one_gl (x:Ob.Gl):∀ u∈glC x,u.oneCell'=true:=by intro u hu;simp[glC]at hu;rcases hu with rfl|rfl|rfl|rfl <;> rfl
theorem one_en (x:Ob.En):∀ u∈enC x,u.oneCell'=true:=by intro u hu;simp[enC]at hu;rcases hu with rfl|rfl|rfl <;> rfl
theorem one_in (x:Ob.In):∀ u∈inC x,u.oneCell'=true:=by intro u hu;simp[inC]at hu;rcases hu with rfl|rfl|rfl <;> rfl
theorem one_st (x:Bs):∀ u∈stC x,u.oneCell'=true:=by intro u hu;simp[stC]at hu;rw[hu];rfl
theorem one_up {w:World}{P:List UP}(h:∀ x∈P,Sl w x.2 1 x.1.names.length (cellsOf stC x.1.names)):∀ u∈cellsOf pcU P,u.oneCell'=true:=by
 induction P with
 | nil=>intro u hu;cases hu
 | cons x r ih =>
  intro u hu
  have hu:u∈pcU x++cellsOf pcU r:=hu
  rcases List.mem_append.1 hu with q|q
  ·obtain⟨a,c,e,_⟩:=h x (by simp)
   simp[pcU]at q
   rcases q with rfl|rfl|rfl
   ·rfl
   ·rfl
   ·rw[e];rfl
  ·exact ih (fun y hy=>h y (List.mem_cons_of_mem _ hy)) u q
def CopP (w:World) (o:O) (e:Ending) (w':World):Prop:=∃ ob sv uv vv nv pv cv P,e=.returned (.pointer (some ⟨ob,0,none⟩))/\Co w w' ob o sv uv vv nv pv cv P o.uses.length
theorem copied_any {w:World}{b oo:Nat}{o:O}{sa ua va pa na ca:Option Addr}{sc uc vc pc nc cc:Nat}(hV:OV w b oo o sa ua va pa na ca sc uc vc pc nc cc) (hB:Bd o):Calls Tryz.prog 23 #[.pointer (some ⟨b,oo,none⟩)] w (CopP w o):=by
 obtain⟨ucs,hu1,hu2⟩:=hV.u
 obtain⟨P,hP1,rfl,hP3⟩:=jX _ _ hu1
 have HK:Hid (∀ W,Below w.heap.size w W->W.cell? ⟨b,oo,none⟩=some (.string (bs o.name))/\W.cell? ⟨b,oo+1,none⟩=some (.slice sa o.syms.length sc)/\W.cell? ⟨b,oo+2,none⟩=some (.slice ua o.uses.length uc)/\W.cell? ⟨b,oo+3,none⟩=some (.slice va o.vars.length vc)/\W.cell? ⟨b,oo+4,none⟩=some (.slice pa o.procs.length pc)/\W.cell? ⟨b,oo+5,none⟩=some (.slice na o.names.length nc)/\W.cell? ⟨b,oo+6,none⟩=some (.slice ca o.code.length cc)):=fun W hb=>by
  have h:=hV.below hb
  exact⟨h.c0,h.c1,h.c2,h.c3,h.c4,h.c5,h.c6⟩
 have HC0:Hid (∀ W,Below w.heap.size w W->Calls Tryz.prog 46 #[.slice sa o.syms.length sc] W (CloneP W 57 3 o.syms.length (cellsOf smC o.syms))):=fun W hb=>cloneS (hV.s.below hb) (xf one_sm _) hB.sl
 have HC1:Hid (∀ W,Below w.heap.size w W->Calls Tryz.prog 47 #[.slice ua o.uses.length uc] W (CloneP W 65 3 o.uses.length (cellsOf pcU P))):=fun W hb=>cloneU (hu2.below hb) (one_up hP3) hB.ul
 have HC2:Hid (∀ W,Below w.heap.size w W->Calls Tryz.prog 48 #[.slice va o.vars.length vc] W (CloneP W 61 4 o.vars.length (cellsOf glC o.vars))):=fun W hb=>cloneG (hV.v.below hb) (xf one_gl _) hB.vl
 have HC3:Hid (∀ W,Below w.heap.size w W->Calls Tryz.prog 49 #[.slice pa o.procs.length pc] W (CloneP W 98 3 o.procs.length (cellsOf enC o.procs))):=fun W hb=>cloneE (hV.p.below hb) (xf one_en _) hB.pl
 have HC4:Hid (∀ W,Below w.heap.size w W->Calls Tryz.prog 50 #[.slice na o.names.length nc] W (CloneP W 9 1 o.names.length (cellsOf stC o.names))):=fun W hb=>cloneT (hV.n.below hb) (xf one_st _) hB.nl
 have HC5:Hid (∀ W,Below w.heap.size w W->Calls Tryz.prog 51 #[.slice ca o.code.length cc] W (CloneP W 68 3 o.code.length (cellsOf inC o.code))):=fun W hb=>cloneI (hV.c.below hb) (xf one_in _) hB.cl
 have HK0:=zh (HK.out _ (zt w))
 have HB0:=zh (zt w)
 have hz:=zi hV.c0
 have HP1:=zh hP1
 have HP3:=zh hP3
 have HUL:Hid (∀ x∈o.uses,x.names.length<=1000000):=fun x hx=>(hB.u x hx).2.1
 have HUN:Hid (o.uses.length<=1000000):=hB.ul
 clear hu1 hu2 hP1 hP3 hV hB
 go_enter Tryz.func23,Tryz.ntmps23
 go_upto_region 1 with fail
 go_cut [3] (fun s3 wc=>∃ ob,s3=.pointer (some ⟨ob,0,none⟩)/\Hid (∃ sv uv vv nv pv cv,Co w wc ob o sv uv vv nv pv cv P 0))
 case first =>
  go_region_held3 (fun W=>W.cell? ⟨b,oo,none⟩=some (.string (bs o.name))/\W.cell? ⟨b,oo+1,none⟩=some (.slice sa o.syms.length sc)/\W.cell? ⟨b,oo+2,none⟩=some (.slice ua o.uses.length uc)/\W.cell? ⟨b,oo+3,none⟩=some (.slice va o.vars.length vc)/\W.cell? ⟨b,oo+4,none⟩=some (.slice pa o.procs.length pc)/\W.cell? ⟨b,oo+5,none⟩=some (.slice na o.names.length nc)/\W.cell? ⟨b,oo+6,none⟩=some (.slice ca o.code.length cc)) (first|exact HK.out _ (HB6.out.alloc HB6.out.size _)|with_reducible (first|exact HK6.out|exact HK5.out|exact HK4.out|exact HK3.out|exact HK2.out|exact HK1.out|exact HK0.out)) (first|(go_at_call 46;refine(HC0.out _ HB0.out).mono ?_;rintro e w1 ⟨v0,rfl,hb0,ho0⟩;obtain⟨xa0,xc0,rfl⟩:=zy ho0;have HB1:Hid (Below w.heap.size w w1):=HB0.out.trans (hb0.mono HB0.out.size);have HK1:=zh (HK.out _ HB1.out);have HX0:=zh hb0;have HO0:=zh ho0;clear hb0 ho0)|(go_at_call 47;refine(HC1.out _ HB1.out).mono ?_;rintro e w2 ⟨v1,rfl,hb1,ho1⟩;obtain⟨xa1,xc1,rfl⟩:=zy ho1;have HB2:Hid (Below w.heap.size w w2):=HB1.out.trans (hb1.mono HB1.out.size);have HK2:=zh (HK.out _ HB2.out);have HX1:=zh hb1;have HO1:=zh ho1;clear hb1 ho1)|(go_at_call 48;refine(HC2.out _ HB2.out).mono ?_;rintro e w3 ⟨v2,rfl,hb2,ho2⟩;obtain⟨xa2,xc2,rfl⟩:=zy ho2;have HB3:Hid (Below w.heap.size w w3):=HB2.out.trans (hb2.mono HB2.out.size);have HK3:=zh (HK.out _ HB3.out);have HX2:=zh hb2;have HO2:=zh ho2;clear hb2 ho2)|(go_at_call 49;refine(HC3.out _ HB3.out).mono ?_;rintro e w4 ⟨v3,rfl,hb3,ho3⟩;obtain⟨xa3,xc3,rfl⟩:=zy ho3;have HB4:Hid (Below w.heap.size w w4):=HB3.out.trans (hb3.mono HB3.out.size);have HK4:=zh (HK.out _ HB4.out);have HX3:=zh hb3;have HO3:=zh ho3;clear hb3 ho3)|(go_at_call 50;refine(HC4.out _ HB4.out).mono ?_;rintro e w5 ⟨v4,rfl,hb4,ho4⟩;obtain⟨xa4,xc4,rfl⟩:=zy ho4;have HB5:Hid (Below w.heap.size w w5):=HB4.out.trans (hb4.mono HB4.out.size);have HK5:=zh (HK.out _ HB5.out);have HX4:=zh hb4;have HO4:=zh ho4;clear hb4 ho4)|(go_at_call 51;refine(HC5.out _ HB5.out).mono ?_;rintro e w6 ⟨v5,rfl,hb5,ho5⟩;obtain⟨xa5,xc5,rfl⟩:=zy ho5;have HB6:Hid (Below w.heap.size w w6):=HB5.out.trans (hb5.mono HB5.out.size);have HK6:=zh (HK.out _ HB6.out);have HX5:=zh hb5;have HO5:=zh ho5;clear hb5 ho5))
  go_wp2_with fail
  go_meet
  case rel =>
   have X6:∀ ob,Below w6.heap.size w6 (w6.alloc ob):=fun ob=>zb _ _
   have X5:∀ ob,Below w5.heap.size w5 (w6.alloc ob):=fun ob=>HX5.out.trans ((X6 ob).mono HX5.out.size)
   have X4:∀ ob,Below w4.heap.size w4 (w6.alloc ob):=fun ob=>HX4.out.trans ((X5 ob).mono HX4.out.size)
   have X3:∀ ob,Below w3.heap.size w3 (w6.alloc ob):=fun ob=>HX3.out.trans ((X4 ob).mono HX3.out.size)
   have X2:∀ ob,Below w2.heap.size w2 (w6.alloc ob):=fun ob=>HX2.out.trans ((X3 ob).mono HX2.out.size)
   have X1:∀ ob,Below w1.heap.size w1 (w6.alloc ob):=fun ob=>HX1.out.trans ((X2 ob).mono HX1.out.size)
   exact⟨_,rfl,_,_,_,_,_,_,HB6.out.alloc HB6.out.size _,HB6.out.size,zw w6 _,yr (zD HO0.out (X1 _)) HB0.out.size,yr (zD HO1.out (X2 _)) HB1.out.size,yr (zD HO2.out (X3 _)) HB2.out.size,yr (zD HO3.out (X4 _)) HB3.out.size,yr (zD HO4.out (X5 _)) HB4.out.size,yr (zD HO5.out (X6 _)) HB5.out.size,HP1.out,fun j x hj=>absurd hj (Nat.not_lt_zero _),fun j x _ hx=>HP3.out x (List.mem_of_getElem? hx)⟩
 case rest =>
  obtain⟨ob,rfl,HC⟩:=hcut
  obtain⟨sv,uv,vv,nv,pv,cv,hco⟩:=HC.out
  obtain⟨xa,xc,rfl⟩:=zy hco.ur
  obtain⟨un,hun⟩:∃ un,un=o.uses.length:=⟨_,rfl⟩
  have HUQ:=zh hun
  have k2:wc.cell? ⟨ob,2,none⟩=some (.slice xa un xc):=by rw[hun];exact(zc hco.ok).trans rfl
  have lo:=zi k2
  have hum:(un:Int)<=1000000:=by have:=HUN.out;omega
  have HI0:Hid (Co w wc ob o sv (.slice xa o.uses.length xc) vv nv pv cv P 0):=hco
  clear hco HC hun HP1 HP3 HK HK0 HB0 hz HC0 HC1 HC2 HC3 HC4 HC5
  go_wp2_with fail
  go_loopg [47] un (fun k vi wr=>∃(i:Nat) (P:List UP),i<=un/\k=un - i/\vi=.int .i64 (i:Int)/\Hid (Co w wr ob o sv (.slice xa o.uses.length xc) vv nv pv cv P i))
  case atStart=>exact⟨0,P,by omega,by omega,rfl,HI0⟩
  case round =>
   clear k2 lo HI0
   obtain⟨i,P,hid,hik,rfl,HJ⟩:=hrel
   by_cases hit:i<un
   ·have hit':(i:Int)<(un:Int):=by omega
    have hPl:P.length=o.uses.length:=by rw[<-HJ.out.pm,List.length_map]
    obtain⟨x,hx⟩:∃ x,P[i]?=some x:=⟨_,List.getElem?_eq_getElem (by rw[hPl,<-HUQ.out];exact hit)⟩
    obtain⟨ug,ucap,ucur,huv,hun',hub,huc,hux⟩:=yQ HJ.out.ur (by rw[<-HUQ.out];omega)
    have hxa:xa=some ⟨ug,0,none⟩:=by injection huv
    have hxc:xc=ucap:=by injection huv
    subst hxa hxc
    obtain⟨a,c,hx2,_⟩:=id (HJ.out.ps i x zn hx)
    obtain⟨c0,c1,c2⟩:=pcU_in hx
    have hil:=(List.getElem?_eq_some_iff.1 hx).1
    rw[hx2]at c2
    have d0:=(hux (i * 3) (by omega)).trans c0
    have d1:=(hux (i * 3+1) (by omega)).trans c1
    have d2:=(hux (i * 3+2) (by omega)).trans c2
    have dg:=zk hub
    have hcap:(un:Int)<=xc:=by have:=HUQ.out;omega
    have k2:wr.cell? ⟨ob,2,none⟩=some (.slice (some ⟨ug,0,none⟩) un xc):=by rw[HUQ.out];exact(zc HJ.out.ok).trans rfl
    have lo:=zi k2
    obtain⟨w1,hw1⟩:∃ w1,w1=wr.alloc (.cells #[.string (bs x.1.name),.string (bs x.1.need),.slice a x.1.names.length c] 65):=⟨_,rfl⟩
    have hb1:Below wr.heap.size wr w1:=by rw[hw1];exact zb _ _
    have hx1:w1.heap[wr.heap.size]?=some (.cells #[.string (bs x.1.name),.string (bs x.1.need),.slice a x.1.names.length c] 65 (0,0)):=by rw[hw1];exact zw wr _
    have hco1:=(HJ.out.on hb1).on (zt w1)
    have HCL:Hid (Calls Tryz.prog 50 #[.slice a x.1.names.length c] w1.drew (CloneP w1.drew 9 1 x.1.names.length (cellsOf stC x.1.names))):=by
     have hsl:=(HJ.out.ps i x zn hx).below hco1.be
     rw[hx2]at hsl
     exact cloneT hsl (xf one_st _) (HUL.out x.1 (by rw[<-HJ.out.pm];exact List.mem_map_of_mem (List.mem_of_getElem? hx)))
    have HRW:Hid (∀ W,Below w1.heap.size w1 W->W.cell? ⟨ob,2,none⟩=some (.slice (some ⟨ug,0,none⟩) un xc)/\W.cell? ⟨wr.heap.size,2,none⟩=some (.slice a x.1.names.length c)/\W.cell? ⟨ug,i * 3+2,none⟩=some (.slice a x.1.names.length c)/\(∀ j,W.frozen? ⟨ug,j,none⟩=false)/\ob<W.heap.size/\wr.heap.size<W.heap.size/\ug<W.heap.size):=fun W hb=>⟨zv hb (zv hb1 k2),zv hb ((zc hx1).trans rfl),zv hb (zv hb1 d2),(fun _=>zr ((hb.block _ (Nat.lt_of_lt_of_le dg hb1.size)).trans ((hb1.block _ dg).trans hub))),Nat.lt_of_lt_of_le (Nat.lt_of_lt_of_le lo hb1.size) hb.size,Nat.lt_of_lt_of_le (zk hx1) hb.size,Nat.lt_of_lt_of_le (Nat.lt_of_lt_of_le dg hb1.size) hb.size⟩
    have HNX:Hid (∀ W v,Below w1.drew.heap.size w1.drew W->W.ownsRow w1.drew.heap.size 9 1 v x.1.names.length (cellsOf stC x.1.names)->∃ P',Co w (W.setCell ⟨ug,i * 3+2,none⟩ v) ob o sv (.slice (some ⟨ug,0,none⟩) o.uses.length xc) vv nv pv cv P' (i+1)):=fun W v hb hv=>⟨_,(hco1.on hb).go hx (yr hv hco1.be.size)⟩
    obtain⟨r2,r3,r4,r5,r6,r7,r8⟩:=HRW.out w1 (Below.refl _ _)
    generalize x.1.names.length=nl at *
    generalize hbn:bs x.1.name=bn at *
    generalize hbd:bs x.1.need=bd at *
    clear HJ hx hPl huv hun' hub huc hux hx2 c0 c1 c2 hil hb1 hx1 hco1 hbn hbd
    go_upto_region 5 with fail
    rw[<-hw1]
    clear hw1 d0 d1 d2 dg k2 lo
    go_region_law (first|(refine zI rfl ?_;go_simp;go_at_call 50;refine HCL.out.mono ?_;rintro e w2 ⟨v2,rfl,hb2,ho2⟩;obtain⟨s2,s3,s4,s5,s6,s7,s8⟩:=HRW.out w2 ((zt w1).trans hb2);obtain⟨xa2,xc2,rfl⟩:=zy ho2;have HN2:=zh (HNX.out w2 _ hb2 ho2);clear hb2 ho2 HRW HNX HCL))
    all_goals
     obtain⟨P',hP'⟩:=HN2.out
     have HN3:=zh hP'
     clear hP' HN2
     go_wp2_with fail
     go_roundg (un - (i+1))
     case measure=>omega
     case rel=>exact⟨i+1,P',by omega,rfl,by go_num,HN3⟩
   ·have hit':¬(i:Int)<(un:Int):=by omega
    have hie:i=o.uses.length:=by have:=HUQ.out;omega
    have HFIN:Hid (Co w wr ob o sv (.slice xa o.uses.length xc) vv nv pv cv P o.uses.length):=by show Co _ _ _ _ _ _ _ _ _ _ _ _;rw[<-hie];rw[hie]at HJ ⊢;exact HJ.out
    clear HJ hie
    go_wp2_with fail
    go_ret
    exact⟨ob,_,_,_,_,_,_,_,rfl,HFIN.out⟩
theorem kJ {w:World}{base e k n:Nat}{v:Value}{cs:List Value}(h:w.ownsRow base e k v n cs):Sl w v k n cs:=(Row.of_owns h).sl
theorem kpt_row {w w':World}{n0 ob e k n:Nat}{pv cv cv' v:Value}{cs xs ys:List Value}{np nc kp kc bp bc:Nat}(h:w.ownsRow n0 e k v n cs) (kp':Kpt w w' ob pv cv cv') (hp:w.ownsRow bp 98 kp pv np xs) (hc:w.ownsRow bc 68 kc cv nc ys) (ho:∃ zs,w.heap[ob]?=some (.cells zs 40 (0,0))) (h1:e≠98) (h2:e≠68) (h3:e≠40):w'.ownsRow n0 e k v n cs :=
 z7 h fun b _ hl hb=>kp'.block b hl (fun q=>by
  obtain⟨zs,hz⟩:=ho
  exact zJ h hz h3 (q ▸ hb)) (yF h hp h1 hb) (yF h hc h2 hb)
theorem co_oa {w w1 wr:World}{n wb ob:Nat}{o p:O}{sv uv vv nv pv cv cv':Value}{P:List UP}(h:Co w w1 ob o sv uv vv nv pv cv P o.uses.length) {w2:World}(hb:Below w1.heap.size w1 w2) (k:Rd w2 wr n wb ob o p sv uv vv nv pv cv cv'):OA wr ob 0 p:=by
 have hk:=k.wk.kp
 have hw:=k.wk.wo
 have ho:∃ zs,w2.heap[ob]?=some (.cells zs 40 (0,0)):=⟨_,(hb.block _ (zk h.ok)).trans h.ok⟩
 have hp:=zD h.pr hb
 have hc:=zD h.cr hb
 have row:∀ {e size m:Nat} {v:Value} {cs:List Value},w1.ownsRow w.heap.size e size v m cs->e≠98->e≠68->e≠40->wr.ownsRow w.heap.size e size v m cs:=fun hr h1 h2 h3=>kpt_row (zD hr hb) hk hp hc ho h1 h2 h3
 have hs:=row h.sr (by decide) (by decide) (by decide)
 have hu:=row h.ur (by decide) (by decide) (by decide)
 have hv:=row h.vr (by decide) (by decide) (by decide)
 have hn:=row h.nr (by decide) (by decide) (by decide)
 have hpl:P.length=o.uses.length:=by rw[<-h.pm,List.length_map]
 have hrep:RepN wr o.uses (cellsOf pcU P):=by
  have:=repN_of (w:=wr) P (fun x hx=>by
   obtain⟨j,hj⟩:=List.mem_iff_getElem?.1 hx
   have hjl:=(List.getElem?_eq_some_iff.1 hj).1
   exact kJ (row (h.po j x (by omega) hj) (by decide) (by decide) (by decide)))
  rw[h.pm]at this
  exact this
 obtain⟨sa,sc,rfl⟩:=zy hs
 obtain⟨ua,uc,rfl⟩:=zy hu
 obtain⟨va,vc,rfl⟩:=zy hv
 obtain⟨na,nc,rfl⟩:=zy hn
 obtain⟨pa,pc,rfl⟩:=zy hw.pr
 obtain⟨ca,cc,rfl⟩:=zy hw.cr
 have e:=k.st.eq
 have hok:=hw.ok
 refine⟨sa,ua,va,pa,na,ca,sc,uc,vc,pc,nc,cc,(zc hok).trans rfl,?_,?_,?_,(zc hok).trans rfl,?_,(zc hok).trans rfl,?_,?_,?_,kJ hw.pr,?_,kJ hw.cr⟩
 ·rw[e.sy];exact(zc hok).trans rfl
 ·rw[e.us];exact(zc hok).trans rfl
 ·rw[e.vr];exact(zc hok).trans rfl
 ·rw[e.ns];exact(zc hok).trans rfl
 ·rw[e.sy];exact kJ hs
 ·rw[e.us];exact⟨_,hrep,kJ hu⟩
 ·rw[e.vr];exact kJ hv
 ·rw[e.ns];exact kJ hn
theorem procs10 {o:O}(h:Ob.rightB o=true):o.procs.length<=10:=by
 unfold Ob.rightB Ob.procsB at h
 simp only [Bool.and_eq_true]at h
 exact(Ob.allB_le h.2.1.1).1
def LessP (w:World) (o:O) (e:Ending) (w':World):Prop:=Below w.heap.size w w'/\((Ob.rightB o=false/\e=.returned (.tuple #[.pointer none,.iface 30 (.int .i64 1)]))\/(Ob.rightB o=true/\∃ p ob,e=.returned (.tuple #[.pointer (some ⟨ob,0,none⟩),.nilIface])/\Vm.Stp o p/\OA w' ob 0 p))
theorem xH {w:World}{b oo:Nat}{o:O}{sa ua va pa na ca:Option Addr}{sc uc vc pc nc cc:Nat}(hV:OV w b oo o sa ua va pa na ca sc uc vc pc nc cc) (hB:Bd o) (hm:Mk8 w):Calls Tryz.prog 6 #[.pointer (some ⟨b,oo,none⟩)] w (LessP w o):=by
 have HRI:=zh (right_r hV hB)
 have HCO:=zh (fun W (hb:Below w.heap.size w W)=>copied_any (hV.below hb) hB)
 have HM:=zh hm
 cases hr:Ob.rightB o with
 | false =>
  rw[hr]at HRI
  have HR:=zh hr
  clear hV hB hm HCO HM hr
  go_enter Tryz.func6,Tryz.ntmps6
  go_wp2_with fail
  refine HRI.out.mono ?_
  rintro e w1 ⟨rfl,hb1⟩
  have HB1:=zh hb1
  clear hb1
  go_wp2_with fail
  go_ret2
  exact⟨HB1.out,Or.inl ⟨HR.out,rfl⟩⟩
 | true =>
  rw[hr]at HRI
  have HR:=zh hr
  have HRG:Hid (Vm.Rg o):=⟨hr,hB.c⟩
  clear hV hB hm hr
  go_enter Tryz.func6,Tryz.ntmps6
  go_wp2_with fail
  refine HRI.out.mono ?_
  rintro e w1 ⟨rfl,hb1⟩
  have HC1:=zh (HCO.out w1 hb1)
  have HB1:=zh hb1
  clear hb1 HCO HRI
  go_wp2_with fail
  refine HC1.out.mono ?_
  rintro e w2 ⟨ob,sv,uv,vv,nv,pv,cv,P,rfl,hco⟩
  obtain⟨w3,hw3⟩:∃ w3,w3=w2.alloc (.cells #[.pointer (some ⟨ob,0,none⟩)] 72):=⟨_,rfl⟩
  have hb3:Below w2.heap.size w2 w3:=by rw[hw3];exact zb _ _
  have hk3:w3.heap[w2.heap.size]?=some (.cells #[.pointer (some ⟨ob,0,none⟩)] 72 (0,0)):=by rw[hw3];exact zw w2 _
  obtain⟨wb,hwb⟩:∃ wb,wb=w2.heap.size:=⟨_,rfl⟩
  rw[<-hwb]at hk3
  have hbw2:Below w.heap.size w w2:=HB1.out.trans (hco.be.mono HB1.out.size)
  have hask:Ask w3 w1.heap.size wb ob o sv uv vv nv pv cv:=⟨HRG.out,procs10 HR.out,⟨by rw[hwb];exact hco.be.size,hco.no,hk3,(hb3.block _ (zk hco.ok)).trans hco.ok,zD hco.pr hb3,zD hco.cr hb3⟩,Nat.le_trans hco.be.size hb3.size,(HM.out.on hbw2).on hb3⟩
  have HASK:=zh hask
  have HCO:=zh hco
  have HB3:=zh hb3
  have HBW:=zh hbw2
  have HG:Hid (1<w1.heap.size):=(HM.out.on HB1.out).lt
  have HWB:=zh hwb
  obtain⟨a6,c6,k0,k6,lw,lo⟩:=hask.wo.cells
  have hl4:(o.code.length:Int)<=4000:=by have:=(Vm.rg_okc HRG.out).1.n4;show (o.code.length:Int)<=_;have h2:o.code.length<=4000:=this;omega
  have HL4:Hid (o.code.length<=4000):=by show _<=_;omega
  clear hb3 hk3 hwb hbw2 hask hco HM HC1
  go_upto_region 4 with fail
  rw[<-HWB.out,<-hw3]
  clear hw3
  go_wp2_with fail
  go_loopg [5] (o.code.length+1) (fun k vi wr=>∃(p:O) (cv':Value),k<=4001/\vi=.int .i64 (k:Int)/\Hid (Rd w3 wr w1.heap.size wb ob o p sv uv vv nv pv cv cv'))
  case atStart=>exact⟨o,cv,by have:=HL4.out;omega,by go_num,Vm.Stp.refl HRG.out,HASK.out.wo,Kpt.refl _ _ _ _⟩
  case round =>
   clear k0 k6 lw lo
   obtain⟨p,cv',hk4,rfl,HJ⟩:=hrel
   obtain⟨a6,c6,k0,k6,lw,lo⟩:=HJ.out.wk.wo.cells
   obtain⟨pl,hpl⟩:∃ pl,pl=p.code.length:=⟨_,rfl⟩
   rw[<-hpl]at k6
   by_cases hlt:pl<gk
   ·have hlt':(pl:Int)<(gk:Int):=by omega
    have hA:=HASK.out.next HG.out HJ.out
    have HRD:=zh (round_any hA HG.out)
    clear hA hpl
    go_wp2_with fail
    refine HRD.out.mono ?_
    rintro e w4 ⟨rfl,p4,c4,hr4⟩
    have HJ4:=zh (HJ.out.trans hr4)
    clear hr4 HRD HJ
    go_wp2_with fail
    go_roundg pl
    case measure=>exact hlt
    case rel=>exact⟨p4,c4,by omega,by go_num,HJ4⟩
   ·have hlt':¬(pl:Int)<(gk:Int):=by omega
    have HOA:=zh (co_oa HCO.out HB3.out HJ.out)
    have HST:=zh HJ.out.st
    have HBF:Hid (Below w.heap.size w wr):=by
     have h1:=HJ.out.wk.below HASK.out.wo HASK.out.n
     exact(HBW.out.trans (HB3.out.mono HBW.out.size)).trans (h1.mono HB1.out.size)
    clear HJ hpl
    go_wp2_with fail
    go_ret2
    exact⟨HBF.out,Or.inr ⟨HR.out,p,ob,rfl,HST.out,HOA.out⟩⟩
end Go.Proofs.YtmnedfdffbbchaaGreatDoor.Jo
