import Derived.Test.YtmnedfdffbbchaaGreatDoorKSa
set_option maxRecDepth 100000
set_option maxHeartbeats 4000000

namespace Go.Proofs.YtmnedfdffbbchaaGreatDoor.Jo
open Go.RowKit Go.Sort
open Ob (O In I64)
open Tp (Bs)
theorem jS {y:In}{n:Int}{w:World}(hm:Mk8 w) (hi:I64 y.a) (hx:y.op=9->0<=y.a/\y.a<11):Calls Tryz.prog 136 #[.int .i64 n,iA y] w (ByP w (Vm.behindPush n y)):=by
 obtain⟨op,xa,xb⟩:=y
 have hx:op=9->0<=xa/\xa<11:=hx
 have hi:I64 xa:=hi
 unfold iA
 obtain⟨w0,hw0⟩:∃ w0,w0=w.alloc (.cells #[.int .i64 op,.int .i64 xa,.int .i64 xb] 68):=⟨_,rfl⟩
 obtain⟨HB,hl,c0,c1,c2⟩:=zT hw0
 have HM:=zh (hm.on HB.out)
 clear hm
 have hcs:(op=13/\n=0)\/(op=13/\¬n=0)\/op=2\/op=10\/op=11\/op=9\/(¬op=13/\¬op=2/\¬op=10/\¬op=11/\¬op=9):=by omega
 rcases hcs with⟨rfl,rfl⟩|⟨rfl,hn⟩|rfl|rfl|rfl|rfl|⟨n13,n2,n10,n11,n9⟩
 ·rw[show Vm.behindPush 0 ⟨13,xa,xb⟩=some [⟨12,xa,0⟩] from rfl]
  have HJ:=zh (fun w=>kY hi w)
  have hi1:=hi.1
  have hi2:=hi.2
  clear HM hx hi
  go_enter Tryz.func136,Tryz.ntmps136
  go_upto_region 1 with fail
  rw[<-hw0]
  clear hw0
  go_wp2_with fail
  refine(HJ.out _).mono ?_
  rintro e w1 ⟨rfl,hb1⟩
  have HB1:=zh hb1
  clear hb1
  unfold iA
  go_wp2_with fail
  refine(zR _ _).mono ?_
  rintro e _ ⟨rfl,rfl⟩
  go_wp2_with fail
  go_ret2
  exact zY (HB.out.trans (HB1.out.mono HB.out.size)) ⟨12,xa,0⟩
 ·have HE:Hid (Vm.behindPush n ⟨13,xa,xb⟩=some []):=by
   show _=_
   unfold Vm.behindPush
   rw[if_neg (fun q=>hn q.2),if_pos (Or.inl rfl)]
  rw[HE.out]
  clear HE HM hx hi
  go_enter Tryz.func136,Tryz.ntmps136
  go_upto_region 1 with fail
  rw[<-hw0]
  clear hw0
  go_wp2_with fail
  refine(zR _ _).mono ?_
  rintro e _ ⟨rfl,rfl⟩
  go_wp2_with fail
  go_ret2
  exact yJ HB.out
 ·rw[show Vm.behindPush n ⟨2,xa,xb⟩=some [] from rfl]
  clear HM hx hi
  go_enter Tryz.func136,Tryz.ntmps136
  go_upto_region 1 with fail
  rw[<-hw0]
  clear hw0
  go_wp2_with fail
  refine(zR _ _).mono ?_
  rintro e _ ⟨rfl,rfl⟩
  go_wp2_with fail
  go_ret2
  exact yJ HB.out
 ·obtain⟨m,hm⟩:∃ m,m=Vm.single8 10 n:=⟨_,rfl⟩
  rw[show Vm.behindPush n ⟨10,xa,xb⟩=some [⟨1,Vm.single8 10 n,0⟩] from rfl,<-hm]
  have HS:=zh (fun w=>kd (op:=10) (n:=n) hm w)
  clear HM hx hi hm
  go_enter Tryz.func136,Tryz.ntmps136
  go_upto_region 1 with fail
  rw[<-hw0]
  clear hw0
  go_wp2_with fail
  refine(HS.out _).mono ?_
  rintro e _ ⟨rfl,rfl⟩
  go_wp2_with fail
  refine(xD _ _).mono ?_
  rintro e w1 ⟨rfl,hb1⟩
  have HB1:=zh hb1
  clear hb1
  unfold iA
  go_wp2_with fail
  refine(zR _ _).mono ?_
  rintro e _ ⟨rfl,rfl⟩
  go_wp2_with fail
  go_ret2
  exact zY (HB.out.trans (HB1.out.mono HB.out.size)) ⟨1,m,0⟩
 ·obtain⟨m,hm⟩:∃ m,m=Vm.single8 11 n:=⟨_,rfl⟩
  rw[show Vm.behindPush n ⟨11,xa,xb⟩=some [⟨1,Vm.single8 11 n,0⟩] from rfl,<-hm]
  have HS:=zh (fun w=>kd (op:=11) (n:=n) hm w)
  clear HM hx hi hm
  go_enter Tryz.func136,Tryz.ntmps136
  go_upto_region 1 with fail
  rw[<-hw0]
  clear hw0
  go_wp2_with fail
  refine(HS.out _).mono ?_
  rintro e _ ⟨rfl,rfl⟩
  go_wp2_with fail
  refine(xD _ _).mono ?_
  rintro e w1 ⟨rfl,hb1⟩
  have HB1:=zh hb1
  clear hb1
  unfold iA
  go_wp2_with fail
  refine(zR _ _).mono ?_
  rintro e _ ⟨rfl,rfl⟩
  go_wp2_with fail
  go_ret2
  exact zY (HB.out.trans (HB1.out.mono HB.out.size)) ⟨1,m,0⟩
 ·obtain⟨k0,k1⟩:=hx rfl
  have hs:=HM.out.sgn (x:=⟨9,xa,xb⟩) k0 k1
  have hg:=HM.out.lt
  rw[show Vm.behindPush n ⟨9,xa,xb⟩=Vm.doKnown (Vm.sgn ⟨9,xa,xb⟩) n from rfl]
  generalize Vm.sgn ⟨9,xa,xb⟩=s at *
  obtain⟨k,hk⟩:=Int.eq_ofNat_of_zero_le k0
  subst hk
  have hs:w0.cell? ⟨1,k,none⟩=some (.string (bs s)):=hs
  have HD:=zh (ui s n w0)
  clear HM hx hi
  generalize Vm.doKnown s n=r at *
  generalize bs s=z at *
  go_enter Tryz.func136,Tryz.ntmps136
  go_upto_region 1 with fail
  rw[<-hw0]
  clear hw0
  go_wp2_with fail
  refine HD.out.mono ?_
  intro e w1 hq
  obtain⟨v,ok,rfl,HB1,h3,h4⟩:=hq
  have HF:Hid (ByP w r (.returned (.tuple #[v,.bool ok])) w1):=ByP.ahead HB.out ⟨v,ok,rfl,HB1,h3,h4⟩
  clear h3 h4 HB1
  go_wp2_with fail
  go_ret2
  exact HF.out
 ·have HE:Hid (Vm.behindPush n ⟨op,xa,xb⟩=none):=by
   show _=_
   unfold Vm.behindPush
   rw[if_neg (fun q=>n13 q.1),if_neg (by show ¬(op=13\/op=2);omega),if_neg (by show ¬(op=10\/op=11);omega),if_neg n9]
  rw[HE.out]
  clear HE HM hx hi
  go_enter Tryz.func136,Tryz.ntmps136
  go_upto_region 1 with fail
  rw[<-hw0]
  clear hw0
  go_wp2_with fail
  go_ret2
  exact zH HB.out _
theorem turned_any {x:In}{tg:Int}{w:World}(hm:Mk8 w) (hx:x.op=9->0<=x.a/\x.a<11):Calls Tryz.prog 142 #[iA x,.int .i64 tg] w (ByP w (if Vm.able x=true then some [x,⟨11,0,0⟩,⟨13,tg,0⟩] else none)):=by
 obtain⟨d,hd⟩:∃ d,d=Vm.able x:=⟨_,rfl⟩
 rw[<-hd]
 have HFIN:Hid (∀(w1:World),Below w.heap.size w w1->ByP w (if d=true then some [x,⟨11,0,0⟩,⟨13,tg,0⟩] else none) (.returned (.tuple #[.slice (some ⟨w1.heap.size,0,none⟩) 3 3,.bool d])) (w1.alloc (.cells #[.int .i64 x.op,.int .i64 x.a,.int .i64 x.b,.int .i64 11,.int .i64 0,.int .i64 0,.int .i64 13,.int .i64 tg,.int .i64 0] 68))):=fun w1 hb=>by
  cases d
  ·exact zH (hb.alloc hb.size _) _
  ·exact(xO hb [x,⟨11,0,0⟩,⟨13,tg,0⟩] (by simp) (by simp) rfl)
 generalize (if d=true then some [x,(⟨11,0,0⟩:In),⟨13,tg,0⟩] else none)=r at *
 have HAN:=zh (fun w1 (hb:Below w.heap.size w w1) (h0:0<=x.a) (h1:x.a<11)=>kH (hm.on hb) h0 h1)
 obtain⟨op,xa,xb⟩:=x
 have hx:op=9->0<=xa/\xa<11:=hx
 unfold iA
 obtain⟨w0,hw0⟩:∃ w0,w0=w.alloc (.cells #[.int .i64 op,.int .i64 xa,.int .i64 xb] 68):=⟨_,rfl⟩
 obtain⟨HB,hl,c0,c1,c2⟩:=zT hw0
 have c0':=HB.out
 clear hm
 have hcs:(op=11/\d=true)\/op=9\/(¬op=11/\¬op=9/\d=false):=by
  rw[hd]
  unfold Vm.able
  by_cases h1:op=11
  ·exact Or.inl ⟨h1,by simp[h1]⟩
  ·by_cases h2:op=9
   ·exact Or.inr (Or.inl h2)
   ·exact Or.inr (Or.inr ⟨h1,h2,by simp[h1,h2]⟩)
 have HX:Hid (∀ w1,Below w0.heap.size w0 w1->w1.cell? ⟨w.heap.size,0,none⟩=some (.int .i64 op)/\w1.cell? ⟨w.heap.size,1,none⟩=some (.int .i64 xa)/\w1.cell? ⟨w.heap.size,2,none⟩=some (.int .i64 xb)):=fun w1 hb=>⟨zv hb c0,zv hb c1,zv hb c2⟩
 clear c0'
 have key:∀(W:World) (Q:Exit->Act->World->Prop),True:=fun _ _=>trivial
 clear key
 rcases hcs with⟨rfl,rfl⟩|rfl|⟨n11,n9,rfl⟩
 ·clear hx HAN hd
  go_enter Tryz.func142,Tryz.ntmps142
  go_upto_region 1 with fail
  rw[<-hw0]
  clear hw0
  go_upto_region 4 with fail
  have HD0:Hid (Below w0.heap.size w0 w0.drew):=(Below.refl _ _).drew
  have HB1f:Hid (∀ w1,Below w0.drew.heap.size w0.drew w1->Below w0.heap.size w0 w1/\w.heap.size<w1.heap.size):=fun w1 hb=>⟨HD0.out.trans (hb.mono HD0.out.size),zi (HX.out w1 (HD0.out.trans (hb.mono HD0.out.size))).1⟩
  go_region_law (first|(refine zI rfl ?_;go_simp;go_at_call 117;refine(zX _ _).mono ?_;rintro e w1 ⟨rfl,hb1⟩;obtain⟨hB1,hl1⟩:=HB1f.out w1 hb1;have HB1:=zh hB1;obtain⟨d0,d1,d2⟩:=HX.out w1 hB1;clear hb1 hB1;unfold iA))
  all_goals
   go_wp2_with fail
   go_ret2
   exact HFIN.out w1 (HB.out.trans (HB1.out.mono HB.out.size))
 ·obtain⟨k0,k1⟩:=hx rfl
  have HANN:Hid (∃ d',d'=(Vm.notOf (Vm.sgn ⟨9,xa,xb⟩)).isSome/\d=d'):=⟨_,rfl,by
   rw[hd]
   unfold Vm.able
   show (decide ((9:Int)=11) || (decide ((9:Int)=9) && (Vm.notOf (Vm.sgn ⟨9,xa,xb⟩)).isSome))=_
   simp⟩
  have HA:Hid (Calls Tryz.prog 139 #[.agg #[.int .i64 9,.int .i64 xa,.int .i64 xb]] w0 fun e w'=>(∃ v,e=.returned (.tuple #[v,.bool d]))/\Below w0.heap.size w0 w'):=(HAN.out w0 HB.out k0 k1).mono fun e w' hq=>by
   obtain⟨v,ok,h1,h2,h3,h4⟩:=hq
   obtain⟨d',e1,e2⟩:=HANN.out
   refine⟨⟨v,?_⟩,h2⟩
   have hok:ok=d:=by
    rw[e2,e1]
    cases hn:Vm.notOf (Vm.sgn ⟨9,xa,xb⟩) with
    | none=>rw[hn]at h4;exact h4 rfl
    | some k=>rw[hn]at h3;exact(h3 _ rfl).1
   rw[h1,hok]
  clear hx HAN HANN hd k0 k1
  go_enter Tryz.func142,Tryz.ntmps142
  go_upto_region 1 with fail
  rw[<-hw0]
  clear hw0
  go_wp2_with fail
  refine HA.out.mono ?_
  rintro e w2 ⟨⟨v,rfl⟩,hb2⟩
  have HB2:=zh hb2
  obtain⟨d0,d1,d2⟩:=HX.out w2 hb2
  have hl2:=zi d0
  clear hb2 HA c0 c1 c2
  go_upto_region 4 with fail
  have HD0:Hid (Below w0.heap.size w0 w2.drew):=HB2.out.drew
  have HB1f:Hid (∀ w1,Below w2.drew.heap.size w2.drew w1->Below w0.heap.size w0 w1/\w.heap.size<w1.heap.size):=fun w1 hb=>⟨HD0.out.trans (hb.mono HD0.out.size),zi (HX.out w1 (HD0.out.trans (hb.mono HD0.out.size))).1⟩
  clear HB2
  go_region_law (first|(refine zI rfl ?_;go_simp;go_at_call 117;refine(zX _ _).mono ?_;rintro e w1 ⟨rfl,hb1⟩;obtain⟨hB1,hl1⟩:=HB1f.out w1 hb1;have HB1:=zh hB1;obtain⟨f0,f1,f2⟩:=HX.out w1 hB1;clear hb1 hB1;unfold iA))
  all_goals
   go_wp2_with fail
   go_ret2
   exact HFIN.out w1 (HB.out.trans (HB1.out.mono HB.out.size))
 ·have k11:(op == 11)=false:=beq_false_of_ne n11
  clear hx HAN hd
  go_enter Tryz.func142,Tryz.ntmps142
  go_upto_region 1 with fail
  rw[<-hw0]
  clear hw0
  go_upto_region 4 with fail
  have HD0:Hid (Below w0.heap.size w0 w0.drew):=(Below.refl _ _).drew
  have HB1f:Hid (∀ w1,Below w0.drew.heap.size w0.drew w1->Below w0.heap.size w0 w1/\w.heap.size<w1.heap.size):=fun w1 hb=>⟨HD0.out.trans (hb.mono HD0.out.size),zi (HX.out w1 (HD0.out.trans (hb.mono HD0.out.size))).1⟩
  go_region_law (first|(refine zI rfl ?_;go_simp;go_at_call 117;refine(zX _ _).mono ?_;rintro e w1 ⟨rfl,hb1⟩;obtain⟨hB1,hl1⟩:=HB1f.out w1 hb1;have HB1:=zh hB1;obtain⟨d0,d1,d2⟩:=HX.out w1 hB1;clear hb1 hB1;unfold iA))
  all_goals
   go_wp2_with fail
   go_ret2
   exact HFIN.out w1 (HB.out.trans (HB1.out.mono HB.out.size))
theorem two_any {x y:In}{w:World}(hm:Mk8 w) (hi:I64 y.a) (hx:x.op=9->0<=x.a/\x.a<11) (hy:y.op=9->0<=y.a/\y.a<11):Calls Tryz.prog 130 #[iA x,iA y] w (ByP w (Vm.two x y)):=by
 obtain⟨op,xa,xb⟩:=x
 obtain⟨yo,ya,yb⟩:=y
 unfold iA
 obtain⟨w0,hw0⟩:∃ w0,w0=w.alloc (.cells #[.int .i64 op,.int .i64 xa,.int .i64 xb] 68):=⟨_,rfl⟩
 obtain⟨HB0,hl0,a0,a1,a2⟩:=zT hw0
 obtain⟨w1,hw1⟩:∃ w1,w1=w0.alloc (.cells #[.int .i64 yo,.int .i64 ya,.int .i64 yb] 68):=⟨_,rfl⟩
 obtain⟨HB1,hl1,c0,c1,c2⟩:=zT hw1
 have HW1:=zh hw1
 clear hw1
 have hs0:w0.heap.size=w.heap.size+1:=by rw[hw0];show (w.heap.push _).size=_;rw[Array.size_push]
 rw[hs0]at c0 c1 c2 hl1
 have a0:=zv HB1.out a0
 have a1:=zv HB1.out a1
 have a2:=zv HB1.out a2
 have HB:Hid (Below w.heap.size w w1):=HB0.out.trans (HB1.out.mono HB0.out.size)
 have HM:=zh (hm.on HB.out)
 have hl2:=zi a0
 clear hm HB0 HB1 hl0 hs0
 have hx:op=9->0<=xa/\xa<11:=hx
 have hy:yo=9->0<=ya/\ya<11:=hy
 have hi:I64 ya:=hi
 by_cases n1:op=1
 ·subst n1
  rw[show Vm.two ⟨1,xa,xb⟩ ⟨yo,ya,yb⟩=Vm.behindPush xa ⟨yo,ya,yb⟩ from rfl]
  have HC:=zh (jS (n:=xa) (y:=⟨yo,ya,yb⟩) HM.out hi hy)
  unfold iA at HC
  clear HM hx hy hi
  generalize Vm.behindPush xa ⟨yo,ya,yb⟩=r at *
  go_enter Tryz.func130,Tryz.ntmps130
  go_upto_region 1 with fail
  rw[<-hw0,<-HW1.out]
  clear HW1 hw0
  go_wp2_with fail
  refine HC.out.mono ?_
  intro e w2 hq
  obtain⟨v,ok,rfl,hb2,h3,h4⟩:=hq
  have HF:Hid (ByP w r (.returned (.tuple #[v,.bool ok])) w2):=ByP.ahead HB.out ⟨v,ok,rfl,hb2,h3,h4⟩
  clear h3 h4 hb2
  go_wp2_with fail
  go_ret2
  exact HF.out
 by_cases n10:op=10
 ·subst n10
  rw[show Vm.two ⟨10,xa,xb⟩ ⟨yo,ya,yb⟩=Vm.behindNeg ⟨yo,ya,yb⟩ from rfl]
  have HC:=zh (xP (y:=⟨yo,ya,yb⟩) HM.out)
  unfold iA at HC
  clear HM hx hy hi n1
  generalize Vm.behindNeg ⟨yo,ya,yb⟩=r at *
  go_enter Tryz.func130,Tryz.ntmps130
  go_upto_region 1 with fail
  rw[<-hw0,<-HW1.out]
  clear HW1 hw0
  go_wp2_with fail
  refine HC.out.mono ?_
  intro e w2 hq
  obtain⟨v,ok,rfl,hb2,h3,h4⟩:=hq
  have HF:Hid (ByP w r (.returned (.tuple #[v,.bool ok])) w2):=ByP.ahead HB.out ⟨v,ok,rfl,hb2,h3,h4⟩
  clear h3 h4 hb2
  go_wp2_with fail
  go_ret2
  exact HF.out
 by_cases y2:yo=2
 ·subst y2
  have HE:Hid (Vm.two ⟨op,xa,xb⟩ ⟨2,ya,yb⟩=Vm.aheadOfPop ⟨op,xa,xb⟩):=by
   show _=_
   unfold Vm.two
   rw[if_neg n1,if_neg n10,if_pos rfl]
  rw[HE.out]
  have HC:=zh (jT (x:=⟨op,xa,xb⟩) HM.out hx)
  unfold iA at HC
  clear HM hx hy hi HE
  generalize Vm.aheadOfPop ⟨op,xa,xb⟩=r at *
  go_enter Tryz.func130,Tryz.ntmps130
  go_upto_region 1 with fail
  rw[<-hw0,<-HW1.out]
  clear HW1 hw0
  go_wp2_with fail
  refine HC.out.mono ?_
  intro e w2 hq
  obtain⟨v,ok,rfl,hb2,h3,h4⟩:=hq
  have HF:Hid (ByP w r (.returned (.tuple #[v,.bool ok])) w2):=ByP.ahead HB.out ⟨v,ok,rfl,hb2,h3,h4⟩
  clear h3 h4 hb2
  go_wp2_with fail
  go_ret2
  exact HF.out
 by_cases yn:yo=11/\op=9
 ·obtain⟨rfl,rfl⟩:=yn
  rw[show Vm.two ⟨9,xa,xb⟩ ⟨11,ya,yb⟩=(Vm.notOf (Vm.sgn ⟨9,xa,xb⟩)).map (fun k=>[⟨9,k,0⟩]) from rfl]
  have HC:=zh (kH (x:=⟨9,xa,xb⟩) HM.out (hx rfl).1 (hx rfl).2)
  unfold iA at HC
  clear HM hx hy hi
  generalize (Vm.notOf (Vm.sgn ⟨9,xa,xb⟩)).map (fun k=>[(⟨9,k,0⟩:In)])=r at *
  go_enter Tryz.func130,Tryz.ntmps130
  go_upto_region 1 with fail
  rw[<-hw0,<-HW1.out]
  clear HW1 hw0
  go_wp2_with fail
  refine HC.out.mono ?_
  intro e w2 hq
  obtain⟨v,ok,rfl,hb2,h3,h4⟩:=hq
  have HF:Hid (ByP w r (.returned (.tuple #[v,.bool ok])) w2):=ByP.ahead HB.out ⟨v,ok,rfl,hb2,h3,h4⟩
  clear h3 h4 hb2
  go_wp2_with fail
  go_ret2
  exact HF.out
 have HE:Hid (Vm.two ⟨op,xa,xb⟩ ⟨yo,ya,yb⟩=if op=3/\yo=4/\ya=xa/\yb=0 then some [] else if op=5/\xb<0/\yo=6/\ya=xa/\yb=0 then some [] else none):=by
  show _=_
  unfold Vm.two
  rw[if_neg n1,if_neg n10,if_neg y2,if_neg yn]
 rw[HE.out]
 clear HE HM hx hy hi
 have k1:(op == 1)=false:=beq_false_of_ne n1
 have k10:(op == 10)=false:=beq_false_of_ne n10
 have k2:(yo == 2)=false:=beq_false_of_ne y2
 by_cases o3:op=3
 ·subst o3
  by_cases q:yo=4/\ya=xa/\yb=0
  ·obtain⟨rfl,rfl,rfl⟩:=q
   rw[if_pos ⟨rfl,rfl,rfl,rfl⟩]
   have E1:=yt true 4 ya 0 4 ya 0 (by simp)
   go_enter Tryz.func130,Tryz.ntmps130
   go_upto_region 1 with fail
   rw[<-hw0,<-HW1.out]
   clear HW1 hw0
   go_wp2_with fail
   refine(zR _ _).mono ?_
   rintro e _ ⟨rfl,rfl⟩
   go_wp2_with fail
   go_ret2
   exact yJ HB.out
  ·rw[if_neg (fun h=>q h.2),if_neg (fun h=>absurd h.1 (by decide))]
   have E1:=yl (a:=yo) (b:=ya) (c:=yb) (a':=4) (b':=xa) (c':=0) q
   go_enter Tryz.func130,Tryz.ntmps130
   go_upto_region 1 with fail
   rw[<-hw0,<-HW1.out]
   clear HW1 hw0
   go_wp2_with fail
   all_goals
    go_ret2
    exact zH HB.out _
 by_cases o5:op=5/\xb<0
 ·obtain⟨rfl,o5⟩:=o5
  by_cases q:yo=6/\ya=xa/\yb=0
  ·obtain⟨rfl,rfl,rfl⟩:=q
   rw[if_neg (fun h=>absurd h.1 (by decide)),if_pos ⟨rfl,o5,rfl,rfl,rfl⟩]
   have E1:=yt true 6 ya 0 6 ya 0 (by simp)
   go_enter Tryz.func130,Tryz.ntmps130
   go_upto_region 1 with fail
   rw[<-hw0,<-HW1.out]
   clear HW1 hw0
   go_wp2_with fail
   refine(zR _ _).mono ?_
   rintro e _ ⟨rfl,rfl⟩
   go_wp2_with fail
   go_ret2
   exact yJ HB.out
  ·rw[if_neg (fun h=>absurd h.1 (by decide)),if_neg (fun h=>q h.2.2)]
   have E1:=yl (a:=yo) (b:=ya) (c:=yb) (a':=6) (b':=xa) (c':=0) q
   go_enter Tryz.func130,Tryz.ntmps130
   go_upto_region 1 with fail
   rw[<-hw0,<-HW1.out]
   clear HW1 hw0
   go_wp2_with fail
   all_goals
    go_ret2
    exact zH HB.out _
 rw[if_neg (fun h=>o3 h.1),if_neg (fun h=>o5 ⟨h.1,h.2.1⟩)]
 go_enter Tryz.func130,Tryz.ntmps130
 go_upto_region 1 with fail
 rw[<-hw0,<-HW1.out]
 clear HW1 hw0
 go_wp2_with fail
 all_goals
  go_ret2
  exact zH HB.out _
def T8 (nx:Nat) (x y z:In):Option (List In):=if y.op=13/\y.a=(nx:Int)/\y.b=0/\z.op=12 then (if Vm.able x=true then some [x,⟨11,0,0⟩,⟨13,z.a,0⟩] else none) else none
theorem three_else {nx:Nat}{x y z:In}(h1:¬(x.op=1/\y.op=1/\z.op=9)) (h2:¬(x.op=11/\y.op=11/\(z.op=11\/z.op=13))) (h3:¬(x.op=4/\y.op=3/\y.a=x.a/\y.b=0/\(z.op=15\/z.op=17))):Vm.three nx x y z=T8 nx x y z:=by
 unfold Vm.three T8
 rw[if_neg h1,if_neg h2,if_neg h3]
theorem jA {nx:Nat}{x y z:In}(h:¬(y.op=13/\y.a=(nx:Int)/\y.b=0/\z.op=12)):T8 nx x y z=none:=by unfold T8;rw[if_neg h]
theorem t8_yes {nx:Nat}{x y z:In}(h:y.op=13/\y.a=(nx:Int)/\y.b=0/\z.op=12):T8 nx x y z=if Vm.able x=true then some [x,⟨11,0,0⟩,⟨13,z.a,0⟩] else none:=by unfold T8;rw[if_pos h]
theorem three_any {x y z:In}{nx:Nat}{w:World}(hm:Mk8 w) (hia:I64 x.a) (hib:I64 y.a) (hnx:nx<=100000) (hx:x.op=9->0<=x.a/\x.a<11) (hz:z.op=9->0<=z.a/\z.a<11):Calls Tryz.prog 131 #[iA x,iA y,iA z,.int .i64 (nx:Int)] w (ByP w (Vm.three nx x y z)):=by
 obtain⟨op,xa,xb⟩:=x
 obtain⟨yo,ya,yb⟩:=y
 obtain⟨zo,za,zb⟩:=z
 unfold iA
 obtain⟨w0,hw0⟩:∃ w0,w0=w.alloc (.cells #[.int .i64 op,.int .i64 xa,.int .i64 xb] 68):=⟨_,rfl⟩
 obtain⟨HB0,hl0,a0,a1,a2⟩:=zT hw0
 obtain⟨w1,hw1⟩:∃ w1,w1=w0.alloc (.cells #[.int .i64 yo,.int .i64 ya,.int .i64 yb] 68):=⟨_,rfl⟩
 obtain⟨HB1,hl1,c0,c1,c2⟩:=zT hw1
 obtain⟨w2,hw2⟩:∃ w2,w2=w1.alloc (.cells #[.int .i64 zo,.int .i64 za,.int .i64 zb] 68):=⟨_,rfl⟩
 obtain⟨HB2,hl2,d0,d1,d2⟩:=zT hw2
 have hs0:w0.heap.size=w.heap.size+1:=by rw[hw0];show (w.heap.push _).size=_;rw[Array.size_push]
 have hs1:w1.heap.size=w.heap.size+2:=by rw[hw1];show (w0.heap.push _).size=_;rw[Array.size_push,hs0]
 have HW0:=zh hw0
 have HW1:=zh hw1
 have HW2:=zh hw2
 clear hw0 hw1 hw2
 have c0:=zv HB2.out c0
 have c1:=zv HB2.out c1
 have c2:=zv HB2.out c2
 rw[hs0]at c0 c1 c2
 rw[hs1]at d0 d1 d2
 have HB01:Hid (Below w0.heap.size w0 w2):=HB1.out.trans (HB2.out.mono HB1.out.size)
 have a0:=zv HB01.out a0
 have a1:=zv HB01.out a1
 have a2:=zv HB01.out a2
 have HB:Hid (Below w.heap.size w w2):=HB0.out.trans (HB01.out.mono HB0.out.size)
 have HM:=zh (hm.on HB.out)
 clear hl0 hl1 hl2
 have hl0:=zi a0
 have hl1:=zi c0
 have hl2:=zi d0
 clear hm HB0 HB1 HB2 HB01 hs0 hs1
 have hx:op=9->0<=xa/\xa<11:=hx
 have hz:zo=9->0<=za/\za<11:=hz
 have hia:I64 xa:=hia
 have hib:I64 ya:=hib
 have hn0:-9223372036854775808<=(nx:Int):=by omega
 have hn1:(nx:Int)<=9223372036854775807:=by omega
 by_cases n1:op=1/\yo=1/\zo=9
 ·obtain⟨rfl,rfl,rfl⟩:=n1
  obtain⟨k0,k1⟩:=hz rfl
  have hs:=HM.out.sgn (x:=⟨9,za,zb⟩) k0 k1
  have hg:=HM.out.lt
  rw[show Vm.three nx ⟨1,xa,xb⟩ ⟨1,ya,yb⟩ ⟨9,za,zb⟩=(Tp.both (Vm.sgn ⟨9,za,zb⟩) xa ya).map (fun n=>[⟨1,n,0⟩]) from rfl]
  generalize Vm.sgn ⟨9,za,zb⟩=s at *
  obtain⟨k,hk⟩:=Int.eq_ofNat_of_zero_le k0
  subst hk
  have hs:w2.cell? ⟨1,k,none⟩=some (.string (bs s)):=hs
  obtain⟨m,ok,HR⟩:∃ m ok,Hid ((∀ W,Calls Tryz.prog 128 #[.string (bs s),.int .i64 xa,.int .i64 ya] W fun e W'=>e=.returned (.tuple #[.int .i64 m,.bool ok])/\Below W.heap.size W W')/\(∀ W W':World,Below w.heap.size w W'->ByP w ((Tp.both s xa ya).map (fun n=>[⟨1,n,0⟩])) (.returned (.tuple #[.slice (some ⟨W'.heap.size,0,none⟩) 1 1,.bool ok])) (W'.alloc (.cells #[.int .i64 1,.int .i64 m,.int .i64 0] 68)))):=by
   have hb:=both_any s xa ya hia hib
   cases hr:Tp.both s xa ya with
   | none=>exact⟨0,false,fun W=>(hb W).mono fun e W' q=>⟨by rw[q.2,hr],q.1⟩,fun W W' q=>zH (q.alloc q.size _) _⟩
   | some v=>exact⟨v,true,fun W=>(hb W).mono fun e W' q=>⟨by rw[q.2,hr],q.1⟩,fun W W' q=>zY q ⟨1,v,0⟩⟩
  have HF:=zh HR.out.2
  have HC:=zh HR.out.1
  clear HR
  generalize (Tp.both s xa ya).map (fun n=>[(⟨1,n,0⟩:In)])=r at *
  generalize bs s=zs at *
  clear hx hz hia hib HM
  go_enter Tryz.func131,Tryz.ntmps131
  go_upto_region 1 with fail
  rw[<-HW0.out,<-HW1.out,<-HW2.out]
  clear HW1 HW0 HW2
  go_wp2_with fail
  have g1:∀ d os,Calls Tryz.prog 128 #[.string zs,.int .i64 xa,.int .i64 ya] (grow (redrawn w2 d) os) fun e w''=>e=.returned (.tuple #[.int .i64 m,.bool ok])/\∃ p:Regrown,w''=grow (redrawn w2 p.d) p.os:=fun d os=>Calls.regrown_of (HC.out _)
  have x0:=cell_regrown a0
  have x1:=cell_regrown a1
  have x2:=cell_regrown c1
  have x3:=cell_regrown d1
  have x4:=cell_regrown hs
  have y0:∀ d os,w.heap.size<(grow (redrawn w2 d) os).heap.size:=fun d os=>zi (x1 d os)
  have y1:∀ d os,w.heap.size+1<(grow (redrawn w2 d) os).heap.size:=fun d os=>zi (x2 d os)
  have y2:∀ d os,w.heap.size+2<(grow (redrawn w2 d) os).heap.size:=fun d os=>zi (x3 d os)
  have y3:∀ d os,1<(grow (redrawn w2 d) os).heap.size:=fun d os=>zi (x4 d os)
  refine wp_region_quiet_below (by kernel_rfl) (by kernel_rfl) ?_
  repeat (quiet_step (first|(go_at_call 128;exact g1 _ _)))
  refine wpQuiet_nil ?_
  intro _ hw'
  obtain⟨⟨dq,osq⟩,hw''⟩:=hw'
  subst hw''
  obtain⟨w3,hw3⟩:∃ z,z=grow (redrawn w2 dq) osq:=⟨_,rfl⟩
  have HB3:Hid (Below w.heap.size w w3):=by rw[hw3];exact HB.out.trans ((below_regrown w2 dq osq).mono HB.out.size)
  rw[<-hw3]
  clear hw3 g1 x0 x1 x2 x3 x4 y0 y1 y2 y3
  go_wp2_with fail
  refine(xD _ _).mono ?_
  rintro e w4 ⟨rfl,hb4⟩
  have HB4:=zh hb4
  clear hb4
  unfold iA
  go_wp2_with fail
  go_ret2
  exact HF.out w4 w4 (HB3.out.trans (HB4.out.mono HB3.out.size))
 by_cases n2:op=11/\yo=11/\(zo=11\/zo=13)
 ·obtain⟨rfl,rfl,n2⟩:=n2
  have HE:Hid (Vm.three nx ⟨11,xa,xb⟩ ⟨11,ya,yb⟩ ⟨zo,za,zb⟩=some [⟨zo,za,zb⟩]):=by
   show _=_
   unfold Vm.three
   rw[if_neg n1,if_pos ⟨rfl,rfl,n2⟩]
  rw[HE.out]
  clear HE n1
  rcases n2 with rfl|rfl
  all_goals
   clear hx hz hia hib HM
   go_enter Tryz.func131,Tryz.ntmps131
   go_upto_region 1 with fail
   rw[<-HW0.out,<-HW1.out,<-HW2.out]
   clear HW1 HW0 HW2
   go_wp2_with fail
   refine(zR _ _).mono ?_
   rintro e _ ⟨rfl,rfl⟩
   go_wp2_with fail
   go_ret2
   exact zY HB.out ⟨_,_,_⟩
 by_cases n3:op=4/\(yo=3/\ya=xa/\yb=0)/\(zo=15\/zo=17)
 ·obtain⟨rfl,⟨rfl,rfl,rfl⟩,n3⟩:=n3
  have HE:Hid (Vm.three nx ⟨4,ya,xb⟩ ⟨3,ya,0⟩ ⟨zo,za,zb⟩=some [⟨zo,za,zb⟩]):=by
   show _=_
   unfold Vm.three
   rw[if_neg n1,if_neg n2,if_pos ⟨rfl,rfl,rfl,rfl,n3⟩]
  rw[HE.out]
  have E1:=yt true 3 ya 0 3 ya 0 (by simp)
  have HC:=zh (fun W=>jb ⟨zo,za,zb⟩ (b:=true) (by show true=_;rcases n3 with q|q <;> rw[q] <;> rfl) W)
  unfold iA at HC
  clear HE n1 n2 n3
  clear hx hz hia hib HM
  go_enter Tryz.func131,Tryz.ntmps131
  go_upto_region 1 with fail
  rw[<-HW0.out,<-HW1.out,<-HW2.out]
  clear HW1 HW0 HW2
  go_wp2_with fail
  refine(HC.out _).mono ?_
  rintro e w3 ⟨rfl,hb3⟩
  have HB3:Hid (Below w.heap.size w w3):=HB.out.trans (hb3.mono HB.out.size)
  have d0:=zv hb3 d0
  have d1:=zv hb3 d1
  have d2:=zv hb3 d2
  have hl2:=zi d0
  clear hb3 HC
  go_wp2_with fail
  refine(zR _ _).mono ?_
  rintro e _ ⟨rfl,rfl⟩
  go_wp2_with fail
  go_ret2
  exact zY HB3.out ⟨_,_,_⟩
 rw[three_else (nx:=nx) (x:=⟨op,xa,xb⟩) (y:=⟨yo,ya,yb⟩) (z:=⟨zo,za,zb⟩) n1 n2 (fun q=>n3 ⟨q.1,⟨q.2.1,q.2.2.1,q.2.2.2.1⟩,q.2.2.2.2⟩)]
 have HTU:=zh (turned_any (x:=⟨op,xa,xb⟩) (tg:=za) HM.out hx)
 unfold iA at HTU
 have HEN:=zh (fun (hh:¬(zo=15\/zo=17)) W=>jb ⟨zo,za,zb⟩ (b:=false) (by show false=_;symm;rw[Bool.or_eq_false_iff];exact⟨beq_false_of_ne fun q=>hh (Or.inl q),beq_false_of_ne fun q=>hh (Or.inr q)⟩) W)
 unfold iA at HEN
 clear hx hz hia hib HM
 by_cases o1:op=1
 ·subst o1
  by_cases y1:yo=1
  ·subst y1
   have z9:(zo == 9)=false:=beq_false_of_ne fun q=>n1 ⟨rfl,rfl,q⟩
   have E8:=yl (a:=1) (b:=ya) (c:=yb) (a':=13) (b':=(nx:Int)) (c':=0) (fun q=>absurd q.1 (by decide))
   rw[jA (fun q=>absurd q.1 (by decide:¬((1:Int)=13)))]
   clear HTU HEN n1 n2 n3
   go_enter Tryz.func131,Tryz.ntmps131
   go_upto_region 1 with fail
   rw[<-HW0.out,<-HW1.out,<-HW2.out]
   clear HW1 HW0 HW2
   go_wp2_with fail
   all_goals
    go_ret2
    exact zH HB.out _
  ·have y1':(yo == 1)=false:=beq_false_of_ne y1
   clear HEN n1 n2 n3
   by_cases q8:yo=13/\ya=(nx:Int)/\yb=0
   ·obtain⟨rfl,rfl,rfl⟩:=q8
    have E8:=yt true 13 (nx:Int) 0 13 (nx:Int) 0 (by simp)
    by_cases z12:zo=12
    ·subst z12
     rw[t8_yes ⟨rfl,rfl,rfl,rfl⟩]
     have HC:=HTU
     clear HTU
     generalize (if Vm.able ⟨1,xa,xb⟩=true then some [(⟨1,xa,xb⟩:In),⟨11,0,0⟩,⟨13,za,0⟩] else none)=r at *
     go_enter Tryz.func131,Tryz.ntmps131
     go_upto_region 1 with fail
     rw[<-HW0.out,<-HW1.out,<-HW2.out]
     clear HW1 HW0 HW2
     go_wp2_with fail
     refine HC.out.mono ?_
     intro e w4 hq
     obtain⟨v,ok,rfl,hb2,h3,h4⟩:=hq
     have HF:Hid (ByP w r (.returned (.tuple #[v,.bool ok])) w4):=ByP.ahead HB.out ⟨v,ok,rfl,hb2,h3,h4⟩
     clear h3 h4 hb2
     go_wp2_with fail
     go_ret2
     exact HF.out
    ·rw[jA (fun q=>z12 q.2.2.2)]
     have k12:(zo == 12)=false:=beq_false_of_ne z12
     clear HTU
     go_enter Tryz.func131,Tryz.ntmps131
     go_upto_region 1 with fail
     rw[<-HW0.out,<-HW1.out,<-HW2.out]
     clear HW1 HW0 HW2
     go_wp2_with fail
     all_goals
      go_ret2
      exact zH HB.out _
   ·rw[jA (fun q=>q8 ⟨q.1,q.2.1,q.2.2.1⟩)]
    have E8:=yl (a:=yo) (b:=ya) (c:=yb) (a':=13) (b':=(nx:Int)) (c':=0) q8
    clear HTU
    go_enter Tryz.func131,Tryz.ntmps131
    go_upto_region 1 with fail
    rw[<-HW0.out,<-HW1.out,<-HW2.out]
    clear HW1 HW0 HW2
    go_wp2_with fail
    all_goals
     go_ret2
     exact zH HB.out _
 by_cases o11:op=11
 ·subst o11
  by_cases y1:yo=11
  ·subst y1
   have z11:(zo == 11)=false:=beq_false_of_ne fun q=>n2 ⟨rfl,rfl,Or.inl q⟩
   have z13:(zo == 13)=false:=beq_false_of_ne fun q=>n2 ⟨rfl,rfl,Or.inr q⟩
   have E8:=yl (a:=11) (b:=ya) (c:=yb) (a':=13) (b':=(nx:Int)) (c':=0) (fun q=>absurd q.1 (by decide))
   rw[jA (fun q=>absurd q.1 (by decide:¬((11:Int)=13)))]
   clear HTU HEN n1 n2 n3 o1
   go_enter Tryz.func131,Tryz.ntmps131
   go_upto_region 1 with fail
   rw[<-HW0.out,<-HW1.out,<-HW2.out]
   clear HW1 HW0 HW2
   go_wp2_with fail
   all_goals
    go_ret2
    exact zH HB.out _
  ·have y1':(yo == 11)=false:=beq_false_of_ne y1
   clear HEN n1 n2 n3 o1
   by_cases q8:yo=13/\ya=(nx:Int)/\yb=0
   ·obtain⟨rfl,rfl,rfl⟩:=q8
    have E8:=yt true 13 (nx:Int) 0 13 (nx:Int) 0 (by simp)
    by_cases z12:zo=12
    ·subst z12
     rw[t8_yes ⟨rfl,rfl,rfl,rfl⟩]
     have HC:=HTU
     clear HTU
     generalize (if Vm.able ⟨11,xa,xb⟩=true then some [(⟨11,xa,xb⟩:In),⟨11,0,0⟩,⟨13,za,0⟩] else none)=r at *
     go_enter Tryz.func131,Tryz.ntmps131
     go_upto_region 1 with fail
     rw[<-HW0.out,<-HW1.out,<-HW2.out]
     clear HW1 HW0 HW2
     go_wp2_with fail
     refine HC.out.mono ?_
     intro e w4 hq
     obtain⟨v,ok,rfl,hb2,h3,h4⟩:=hq
     have HF:Hid (ByP w r (.returned (.tuple #[v,.bool ok])) w4):=ByP.ahead HB.out ⟨v,ok,rfl,hb2,h3,h4⟩
     clear h3 h4 hb2
     go_wp2_with fail
     go_ret2
     exact HF.out
    ·rw[jA (fun q=>z12 q.2.2.2)]
     have k12:(zo == 12)=false:=beq_false_of_ne z12
     clear HTU
     go_enter Tryz.func131,Tryz.ntmps131
     go_upto_region 1 with fail
     rw[<-HW0.out,<-HW1.out,<-HW2.out]
     clear HW1 HW0 HW2
     go_wp2_with fail
     all_goals
      go_ret2
      exact zH HB.out _
   ·rw[jA (fun q=>q8 ⟨q.1,q.2.1,q.2.2.1⟩)]
    have E8:=yl (a:=yo) (b:=ya) (c:=yb) (a':=13) (b':=(nx:Int)) (c':=0) q8
    clear HTU
    go_enter Tryz.func131,Tryz.ntmps131
    go_upto_region 1 with fail
    rw[<-HW0.out,<-HW1.out,<-HW2.out]
    clear HW1 HW0 HW2
    go_wp2_with fail
    all_goals
     go_ret2
     exact zH HB.out _
 by_cases o4:op=4
 ·subst o4
  by_cases y1:yo=3/\ya=xa/\yb=0
  ·have hh:¬(zo=15\/zo=17):=fun q=>n3 ⟨rfl,y1,q⟩
   obtain⟨rfl,rfl,rfl⟩:=y1
   have E1:=yt true 3 ya 0 3 ya 0 (by simp)
   have HC:=zh (HEN.out hh)
   have E8:=yl (a:=3) (b:=ya) (c:=0) (a':=13) (b':=(nx:Int)) (c':=0) (fun q=>absurd q.1 (by decide))
   rw[jA (fun q=>absurd q.1 (by decide:¬((3:Int)=13)))]
   clear HTU HEN n1 n2 n3 o1 o11 hh
   go_enter Tryz.func131,Tryz.ntmps131
   go_upto_region 1 with fail
   rw[<-HW0.out,<-HW1.out,<-HW2.out]
   clear HW1 HW0 HW2
   go_wp2_with fail
   refine(HC.out _).mono ?_
   rintro e w3 ⟨rfl,hb3⟩
   have HB3:Hid (Below w.heap.size w w3):=HB.out.trans (hb3.mono HB.out.size)
   have c0:=zv hb3 c0
   have c1:=zv hb3 c1
   have c2:=zv hb3 c2
   have d0:=zv hb3 d0
   have hl1:=zi c0
   have hl2:=zi d0
   clear hb3 HC
   go_wp2_with fail
   go_ret2
   exact zH HB3.out _
  ·have E1:=yl (a:=yo) (b:=ya) (c:=yb) (a':=3) (b':=xa) (c':=0) y1
   clear HEN n1 n2 n3 o1 o11
   by_cases q8:yo=13/\ya=(nx:Int)/\yb=0
   ·obtain⟨rfl,rfl,rfl⟩:=q8
    have E8:=yt true 13 (nx:Int) 0 13 (nx:Int) 0 (by simp)
    by_cases z12:zo=12
    ·subst z12
     rw[t8_yes ⟨rfl,rfl,rfl,rfl⟩]
     have HC:=HTU
     clear HTU
     generalize (if Vm.able ⟨4,xa,xb⟩=true then some [(⟨4,xa,xb⟩:In),⟨11,0,0⟩,⟨13,za,0⟩] else none)=r at *
     go_enter Tryz.func131,Tryz.ntmps131
     go_upto_region 1 with fail
     rw[<-HW0.out,<-HW1.out,<-HW2.out]
     clear HW1 HW0 HW2
     go_wp2_with fail
     refine HC.out.mono ?_
     intro e w4 hq
     obtain⟨v,ok,rfl,hb2,h3,h4⟩:=hq
     have HF:Hid (ByP w r (.returned (.tuple #[v,.bool ok])) w4):=ByP.ahead HB.out ⟨v,ok,rfl,hb2,h3,h4⟩
     clear h3 h4 hb2
     go_wp2_with fail
     go_ret2
     exact HF.out
    ·rw[jA (fun q=>z12 q.2.2.2)]
     have k12:(zo == 12)=false:=beq_false_of_ne z12
     clear HTU
     go_enter Tryz.func131,Tryz.ntmps131
     go_upto_region 1 with fail
     rw[<-HW0.out,<-HW1.out,<-HW2.out]
     clear HW1 HW0 HW2
     go_wp2_with fail
     all_goals
      go_ret2
      exact zH HB.out _
   ·rw[jA (fun q=>q8 ⟨q.1,q.2.1,q.2.2.1⟩)]
    have E8:=yl (a:=yo) (b:=ya) (c:=yb) (a':=13) (b':=(nx:Int)) (c':=0) q8
    clear HTU
    go_enter Tryz.func131,Tryz.ntmps131
    go_upto_region 1 with fail
    rw[<-HW0.out,<-HW1.out,<-HW2.out]
    clear HW1 HW0 HW2
    go_wp2_with fail
    all_goals
     go_ret2
     exact zH HB.out _
 have k1:(op == 1)=false:=beq_false_of_ne o1
 have k11:(op == 11)=false:=beq_false_of_ne o11
 have k4:(op == 4)=false:=beq_false_of_ne o4
 clear HEN n1 n2 n3
 by_cases q8:yo=13/\ya=(nx:Int)/\yb=0
 ·obtain⟨rfl,rfl,rfl⟩:=q8
  have E8:=yt true 13 (nx:Int) 0 13 (nx:Int) 0 (by simp)
  by_cases z12:zo=12
  ·subst z12
   rw[t8_yes ⟨rfl,rfl,rfl,rfl⟩]
   have HC:=HTU
   clear HTU
   generalize (if Vm.able ⟨op,xa,xb⟩=true then some [(⟨op,xa,xb⟩:In),⟨11,0,0⟩,⟨13,za,0⟩] else none)=r at *
   go_enter Tryz.func131,Tryz.ntmps131
   go_upto_region 1 with fail
   rw[<-HW0.out,<-HW1.out,<-HW2.out]
   clear HW1 HW0 HW2
   go_wp2_with fail
   refine HC.out.mono ?_
   intro e w4 hq
   obtain⟨v,ok,rfl,hb2,h3,h4⟩:=hq
   have HF:Hid (ByP w r (.returned (.tuple #[v,.bool ok])) w4):=ByP.ahead HB.out ⟨v,ok,rfl,hb2,h3,h4⟩
   clear h3 h4 hb2
   go_wp2_with fail
   go_ret2
   exact HF.out
  ·rw[jA (fun q=>z12 q.2.2.2)]
   have k12:(zo == 12)=false:=beq_false_of_ne z12
   clear HTU
   go_enter Tryz.func131,Tryz.ntmps131
   go_upto_region 1 with fail
   rw[<-HW0.out,<-HW1.out,<-HW2.out]
   clear HW1 HW0 HW2
   go_wp2_with fail
   all_goals
    go_ret2
    exact zH HB.out _
 ·rw[jA (fun q=>q8 ⟨q.1,q.2.1,q.2.2.1⟩)]
  have E8:=yl (a:=yo) (b:=ya) (c:=yb) (a':=13) (b':=(nx:Int)) (c':=0) q8
  clear HTU
  go_enter Tryz.func131,Tryz.ntmps131
  go_upto_region 1 with fail
  rw[<-HW0.out,<-HW1.out,<-HW2.out]
  clear HW1 HW0 HW2
  go_wp2_with fail
  all_goals
   go_ret2
   exact zH HB.out _
end Go.Proofs.YtmnedfdffbbchaaGreatDoor.Jo

namespace Go.Proofs.YtmnedfdffbbchaaGreatDoor.Jo
open Go.RowKit
open Ob (O In I64)
open Tp (Bs)
def paC (p:Vm.Pa):Array Value:=#[.int .i64 (p.at':Int),.bool p.put,.int .i64 p.n]
def FolP (w:World) (pb:Nat) (p:Vm.Pa) (x:In) (e:Ending) (w':World):Prop:=Ext pb w w'/\(∀ p',Vm.folO p x=some p'->e=.returned (.bool true)/\w'.heap[pb]?=some (.cells (paC p') 181 (0,0)))/\(Vm.folO p x=none->e=.returned (.bool false))
theorem Ext.drew {b:Nat}{w w':World}(h:Ext b w w'):Ext b w w'.drew:=⟨h.os,h.tape,h.output,h.size,h.block⟩
theorem uf {w w':World}{pb:Nat}{p:Vm.Pa}{x:In}(h:Vm.folO p x=none) (k:Ext pb w w'):FolP w pb p x (.returned (.bool false)) w':=⟨k,fun p' q=>(by rw[h]at q;cases q),fun _=>rfl⟩
theorem kf {w w':World}{pb:Nat}{p p':Vm.Pa}{x:In}(h:Vm.folO p x=some p') (k:Ext pb w w') (hb:w'.heap[pb]?=some (.cells (paC p') 181 (0,0))):FolP w pb p x (.returned (.bool true)) w':=⟨k,fun p'' q=>(by rw[h]at q;cases q;exact⟨rfl,hb⟩),fun q=>(by rw[h]at q;cases q)⟩
theorem ud {p:Vm.Pa}{x:In}{pb:Nat}{w:World}(hp:w.heap[pb]?=some (.cells (paC p) 181 (0,0))) (hx:x.op=12\/x.op=13->0<=x.a/\x.a<=4000) (hpa:p.at'<=4000):Calls Tryz.prog 118 #[.pointer (some ⟨pb,0,none⟩),iA x] w (FolP w pb p x):=by
 obtain⟨op,xa,xb⟩:=x
 obtain⟨at',put,n⟩:=p
 have hx:op=12\/op=13->0<=xa/\xa<=4000:=hx
 have hpa:at'<=4000:=hpa
 unfold iA
 have hlt:=zk hp
 obtain⟨w0,hw0⟩:∃ w0,w0=w.alloc (.cells #[.int .i64 op,.int .i64 xa,.int .i64 xb] 68):=⟨_,rfl⟩
 obtain⟨HB,hl,c0,c1,c2⟩:=zT hw0
 have hp0:w0.heap[pb]?=some (.cells (paC ⟨at',put,n⟩) 181 (0,0)):=(HB.out.block _ hlt).trans hp
 have hE0:Ext pb w w0:=Ext.below HB.out
 have g0:w0.cell? ⟨pb,0,none⟩=some (.int .i64 (at':Int)):=(zc hp0).trans rfl
 have g1:w0.cell? ⟨pb,1,none⟩=some (.bool put):=(zc hp0).trans rfl
 have g2:w0.cell? ⟨pb,2,none⟩=some (.int .i64 n):=(zc hp0).trans rfl
 have hf:∀ j,w0.frozen? ⟨pb,j,none⟩=false:=fun j=>zr hp0
 have hl0:pb<w0.heap.size:=zk hp0
 have hne:pb≠w.heap.size:=by omega
 have hne':w.heap.size≠pb:=by omega
 have HP:=zh hp0
 have HE:=zh hE0
 have ha1:(at':Int)+1<=5000:=by omega
 clear hp hp0 hE0 HB hlt
 by_cases o12:op=12
 ·subst o12
  obtain⟨x0,x1⟩:=hx (Or.inl rfl)
  obtain⟨k,rfl⟩:=Int.eq_ofNat_of_zero_le x0
  clear hx
  go_enter Tryz.func118,Tryz.ntmps118
  go_upto_region 2 with fail
  rw[<-hw0]
  clear hw0
  go_wp2_with fail
  go_ret
  exact kf (p':=⟨k,put,n⟩) rfl ((HE.out).set 0 (.int .i64 (k:Int))) (zC 0 (.int .i64 (k:Int)) (HP.out))
 have k12:(op == 12)=false:=beq_false_of_ne o12
 cases put with
 | false =>
  by_cases o1:op=1
  ·subst o1
   clear hx
   go_enter Tryz.func118,Tryz.ntmps118
   go_upto_region 2 with fail
   rw[<-hw0]
   clear hw0
   go_wp2_with fail
   go_region_law (fail)
   all_goals go_wp2_with fail
   all_goals go_ret
   all_goals exact kf (p':=⟨at'+1,true,xa⟩) rfl (by first|exact((((HE.out.set 1 (.bool true)).set 2 (.int .i64 xa)).drew).set 0 (.int .i64 ((at':Int)+1)))|exact((((HE.out.set 2 (.int .i64 xa)).set 1 (.bool true)).drew).set 0 (.int .i64 ((at':Int)+1)))) (by first|exact zC 0 _ (zC 2 _ (zC 1 _ HP.out))|exact zC 0 _ (zC 1 _ (zC 2 _ HP.out)))
  ·have k1:(op == 1)=false:=beq_false_of_ne o1
   have HN:Hid (Vm.folO ⟨at',false,n⟩ ⟨op,xa,xb⟩=none):=by
    show _=_
    unfold Vm.folO
    rw[if_neg o12,if_neg (fun q=>o1 q.1),if_pos rfl]
   clear hx
   go_enter Tryz.func118,Tryz.ntmps118
   go_upto_region 2 with fail
   rw[<-hw0]
   clear hw0
   go_wp2_with fail
   go_ret
   exact uf HN.out HE.out
 | true =>
  have HO:Hid (Vm.folO ⟨at',true,n⟩ ⟨op,xa,xb⟩=if op=13/\n=0 then some ⟨xa.toNat,false,n⟩ else if op=13\/op=2 then some ⟨at'+1,false,n⟩ else if op=10\/op=11 then some ⟨at'+1,true,Vm.single8 op n⟩ else none):=by
   show _=_
   unfold Vm.folO
   rw[if_neg o12,if_neg (fun q=>absurd q.2 Bool.noConfusion),if_neg Bool.noConfusion]
  by_cases o13:op=13
  ·subst o13
   by_cases z:n=0
   ·subst z
    obtain⟨x0,x1⟩:=hx (Or.inr rfl)
    obtain⟨k,rfl⟩:=Int.eq_ofNat_of_zero_le x0
    clear hx HO
    go_enter Tryz.func118,Tryz.ntmps118
    go_upto_region 2 with fail
    rw[<-hw0]
    clear hw0
    go_wp2_with fail
    go_region_law (fail)
    all_goals go_wp2_with fail
    all_goals go_ret
    all_goals exact kf (p':=⟨k,false,0⟩) rfl (by first|exact(((HE.out.set 1 (.bool false)).set 0 (.int .i64 (k:Int))).drew)|exact(((HE.out.set 0 (.int .i64 (k:Int))).set 1 (.bool false)).drew)) (by first|exact zC 0 _ (zC 1 _ HP.out)|exact zC 1 _ (zC 0 _ HP.out))
   ·have HN:Hid (Vm.folO ⟨at',true,n⟩ ⟨13,xa,xb⟩=some ⟨at'+1,false,n⟩):=by
     show _=_
     rw[HO.out,if_neg (fun q=>z q.2),if_pos (Or.inl rfl)]
    have kz:(n == 0)=false:=beq_false_of_ne z
    clear hx HO
    go_enter Tryz.func118,Tryz.ntmps118
    go_upto_region 2 with fail
    rw[<-hw0]
    clear hw0
    go_wp2_with fail
    go_ret
    exact kf (p':=⟨at'+1,false,n⟩) HN.out (((HE.out).set 1 (.bool false)).set 0 (.int .i64 ((at':Int)+1))) (zC 0 (.int .i64 ((at':Int)+1)) (zC 1 (.bool false) (HP.out)))
  by_cases o2:op=2
  ·subst o2
   have HN:Hid (Vm.folO ⟨at',true,n⟩ ⟨2,xa,xb⟩=some ⟨at'+1,false,n⟩):=by
    show _=_
    rw[HO.out,if_neg (fun q=>o13 q.1),if_pos (Or.inr rfl)]
   clear hx HO
   go_enter Tryz.func118,Tryz.ntmps118
   go_upto_region 2 with fail
   rw[<-hw0]
   clear hw0
   go_wp2_with fail
   go_ret
   exact kf (p':=⟨at'+1,false,n⟩) HN.out (((HE.out).set 1 (.bool false)).set 0 (.int .i64 ((at':Int)+1))) (zC 0 (.int .i64 ((at':Int)+1)) (zC 1 (.bool false) (HP.out)))
  by_cases o10:op=10
  ·subst o10
   obtain⟨m,hm⟩:∃ m,m=Vm.single8 10 n:=⟨_,rfl⟩
   have HN:Hid (Vm.folO ⟨at',true,n⟩ ⟨10,xa,xb⟩=some ⟨at'+1,true,m⟩):=by
    show _=_
    rw[HO.out,if_neg (fun q=>o13 q.1),if_neg (fun q=>q.elim o13 o2),if_pos (Or.inl rfl),hm]
   have HS:=zh (fun w=>kd (op:=10) (n:=n) hm w)
   clear hx hm HO
   go_enter Tryz.func118,Tryz.ntmps118
   go_upto_region 2 with fail
   rw[<-hw0]
   clear hw0
   go_wp2_with fail
   go_region_law (first|(refine zI rfl ?_;go_simp;go_at_call 129;refine(HS.out _).mono ?_;rintro e _ ⟨rfl,rfl⟩))
   all_goals go_wp2_with fail
   all_goals go_ret
   all_goals exact kf (p':=⟨at'+1,true,m⟩) HN.out (((HE.out.set 2 (.int .i64 m)).drew).set 0 (.int .i64 ((at':Int)+1))) (zC 0 _ (zC 2 _ HP.out))
  by_cases o11:op=11
  ·subst o11
   obtain⟨m,hm⟩:∃ m,m=Vm.single8 11 n:=⟨_,rfl⟩
   have HN:Hid (Vm.folO ⟨at',true,n⟩ ⟨11,xa,xb⟩=some ⟨at'+1,true,m⟩):=by
    show _=_
    rw[HO.out,if_neg (fun q=>o13 q.1),if_neg (fun q=>q.elim o13 o2),if_pos (Or.inr rfl),hm]
   have HS:=zh (fun w=>kd (op:=11) (n:=n) hm w)
   clear hx hm HO
   go_enter Tryz.func118,Tryz.ntmps118
   go_upto_region 2 with fail
   rw[<-hw0]
   clear hw0
   go_wp2_with fail
   go_region_law (first|(refine zI rfl ?_;go_simp;go_at_call 129;refine(HS.out _).mono ?_;rintro e _ ⟨rfl,rfl⟩))
   all_goals go_wp2_with fail
   all_goals go_ret
   all_goals exact kf (p':=⟨at'+1,true,m⟩) HN.out (((HE.out.set 2 (.int .i64 m)).drew).set 0 (.int .i64 ((at':Int)+1))) (zC 0 _ (zC 2 _ HP.out))
  have k13:(op == 13)=false:=beq_false_of_ne o13
  have k2:(op == 2)=false:=beq_false_of_ne o2
  have k10:(op == 10)=false:=beq_false_of_ne o10
  have k11:(op == 11)=false:=beq_false_of_ne o11
  have HN:Hid (Vm.folO ⟨at',true,n⟩ ⟨op,xa,xb⟩=none):=by
   show _=_
   rw[HO.out,if_neg (fun q=>o13 q.1),if_neg (fun q=>q.elim o13 o2),if_neg (fun q=>q.elim o10 o11)]
  clear hx HO
  by_cases o1:op=1
  ·subst o1
   go_enter Tryz.func118,Tryz.ntmps118
   go_upto_region 2 with fail
   rw[<-hw0]
   clear hw0
   go_wp2_with fail
   all_goals go_ret
   all_goals exact uf HN.out HE.out
  have k1:(op == 1)=false:=beq_false_of_ne o1
  go_enter Tryz.func118,Tryz.ntmps118
  go_upto_region 2 with fail
  rw[<-hw0]
  clear hw0
  go_wp2_with fail
  all_goals go_ret
  all_goals exact uf HN.out HE.out
end Go.Proofs.YtmnedfdffbbchaaGreatDoor.Jo

namespace Go.Proofs.YtmnedfdffbbchaaGreatDoor.Jo
open Go.RowKit Go.Sort
open Ob (O In I64)
open Tp (Bs)
theorem vD (l:List In) (i:Nat) (x:In) (hi:i<l.length):cellsOf inC (l.set i x)=(((cellsOf inC l).set (i * 3) (.int .i64 x.op)).set (i * 3+1) (.int .i64 x.a)).set (i * 3+2) (.int .i64 x.b):=by
 induction l generalizing i with
 | nil=>simp at hi
 | cons y r ih =>
  cases i with
  | zero=>rfl
  | succ i =>
   have hi:i<r.length:=by simpa using hi
   have e:=ih i hi
   show inC y++cellsOf inC (r.set i x)=_
   rw[e,show (i+1) * 3=i * 3+3 by omega]
   rfl
theorem jc {l:List In}{i:Nat}{x:In}(h:l[i]?=some x):(cellsOf inC l)[i * 3]?=some (.int .i64 x.op)/\(cellsOf inC l)[i * 3+1]?=some (.int .i64 x.a)/\(cellsOf inC l)[i * 3+2]?=some (.int .i64 x.b):=by
 induction l generalizing i with
 | nil=>simp at h
 | cons y r ih =>
  cases i with
  | zero =>
   simp at h
   subst h
   exact⟨rfl,rfl,rfl⟩
  | succ i =>
   have h:r[i]?=some x:=by simpa using h
   obtain⟨a,b,c⟩:=ih h
   have e0:(i+1) * 3=i * 3+3:=by omega
   have e1:(i+1) * 3+1=i * 3+1+3:=by omega
   have e2:(i+1) * 3+2=i * 3+2+3:=by omega
   rw[e2,e1,e0]
   exact⟨a,b,c⟩
theorem k9 {w:World}{base e size n g cap j:Nat}{xs:List Value}{u:Value}(h:w.ownsRow base e size (.slice (some ⟨g,0,none⟩) n cap) n xs):(w.setCell ⟨g,j,none⟩ u).ownsRow base e size (.slice (some ⟨g,0,none⟩) n cap) n (xs.set j u):=by
 refine⟨by rw[List.length_set];exact h.1,?_⟩
 rcases h.2 with⟨q,_⟩|⟨g',cap',cur,e1,q1,q2,q3,q4,q5,q6⟩
 ·cases q
 ·cases e1
  refine Or.inr ⟨g,cap,cur.setIfInBounds j u,rfl,q1,zC j u q2,q3,q4,by simpa using q5,?_⟩
  rw[Array.toList_setIfInBounds,<-q6,List.take_set]
theorem yQ {w:World}{base e size n:Nat}{v:Value}{xs:List Value}(h:w.ownsRow base e size v n xs) (hn:0<n):∃ g cap cur,v=.slice (some ⟨g,0,none⟩) n cap/\base<=g/\w.heap[g]?=some (.cells cur e (0,0))/\n<=cap/\∀ k,k<n * size->w.cell? ⟨g,k,none⟩=xs[k]?:=by
 rcases h.2 with⟨_,q⟩|⟨g,cap,cur,e1,q1,q2,q3,q4,q5,q6⟩
 ·omega
 ·refine⟨g,cap,cur,e1,q1,q2,q3,fun k hk=>?_⟩
  rw[zc q2,<-q6,List.getElem?_take_of_lt hk,Array.getElem?_toList]
structure Wo (w:World) (n wb ob:Nat) (O:O) (sv uv vv nv pv cv:Value):Prop where
 nw:n<=wb
 no:n<=ob
 wk:w.heap[wb]?=some (.cells #[.pointer (some ⟨ob,0,none⟩)] 72 (0,0))
 ok:w.heap[ob]?=some (.cells #[.string (bs O.name),sv,uv,vv,pv,nv,cv] 40 (0,0))
 pr:w.ownsRow n 98 3 pv O.procs.length (cellsOf enC O.procs)
 cr:w.ownsRow n 68 3 cv O.code.length (cellsOf inC O.code)
theorem Wo.on {w w':World}{n wb ob:Nat}{O:O}{sv uv vv nv pv cv:Value}(h:Wo w n wb ob O sv uv vv nv pv cv) (k:Below w.heap.size w w'):Wo w' n wb ob O sv uv vv nv pv cv :=
 ⟨h.nw,h.no,(k.block _ (zk h.wk)).trans h.wk,(k.block _ (zk h.ok)).trans h.ok,zD h.pr k,zD h.cr k⟩
structure CodeAt (w:World) (wb ob g cap:Nat) (c:List In):Prop where
 k0:w.cell? ⟨wb,0,none⟩=some (.pointer (some ⟨ob,0,none⟩))
 k6:w.cell? ⟨ob,6,none⟩=some (.slice (some ⟨g,0,none⟩) c.length cap)
 lg:g<w.heap.size
 lc:c.length<=cap
 at':∀ i x,c[i]?=some x->w.cell? ⟨g,i * 3,none⟩=some (.int .i64 x.op)/\w.cell? ⟨g,i * 3+1,none⟩=some (.int .i64 x.a)/\w.cell? ⟨g,i * 3+2,none⟩=some (.int .i64 x.b)
theorem Wo.code {w:World}{n wb ob:Nat}{O:O}{sv uv vv nv pv cv:Value}(h:Wo w n wb ob O sv uv vv nv pv cv) (hn:0<O.code.length):∃ g cap,cv=.slice (some ⟨g,0,none⟩) O.code.length cap/\n<=g/\CodeAt w wb ob g cap O.code:=by
 obtain⟨g,cap,cur,rfl,h1,h2,h3,h4⟩:=yQ h.cr hn
 refine⟨g,cap,rfl,h1,⟨(zc h.wk).trans rfl,(zc h.ok).trans rfl,zk h2,h3,fun i x hx=>?_⟩⟩
 have hi:i<O.code.length:=(List.getElem?_eq_some_iff.1 hx).1
 obtain⟨a,b,c⟩:=jc hx
 exact⟨(h4 _ (by omega)).trans a,(h4 _ (by omega)).trans b,(h4 _ (by omega)).trans c⟩
theorem CodeAt.on {w w':World}{wb ob g cap:Nat}{c:List In}(h:CodeAt w wb ob g cap c) (k:Below w.heap.size w w'):CodeAt w' wb ob g cap c:=⟨zv k h.k0,zv k h.k6,Nat.lt_of_lt_of_le h.lg k.size,h.lc,fun i x hx=>⟨zv k (h.at' i x hx).1,zv k (h.at' i x hx).2.1,zv k (h.at' i x hx).2.2⟩⟩
theorem xq {n:Int}(h1:-9223372036854775808<=n) (h2:n<=9223372036854775807):IntKind.i64.wrap n=n:=by simp[IntKind.wrap,IntKind.signed,IntKind.bits];omega
def IdlB (i:Nat) (x:In):Bool:=x.op == 12 && (x.a == ((i:Int)+1) && x.b == 0)
theorem idlB_iff {i:Nat}{x:In}:IdlB i x=true↔x=Vm.idl i:=by
 rw[<-Vm.idl_iff]
 unfold IdlB Vm.Idl
 simp
theorem idle_any {w:World}{wb ob g cap:Nat}{c:List In}(h:CodeAt w wb ob g cap c) {i:Nat}{x:In}(hx:c[i]?=some x) (hl:c.length<=4000):Calls Tryz.prog 82 #[.pointer (some ⟨wb,0,none⟩),.int .i64 (i:Int)] w (SaysB w (IdlB i x)):=by
 have hi:i<c.length:=(List.getElem?_eq_some_iff.1 hx).1
 obtain⟨c0,c1,c2⟩:=h.at' i x hx
 obtain⟨op,xa,xb⟩:=x
 have h0:=h.k0
 have h6:=h.k6
 have hg:=h.lg
 have hw:=zi h0
 have ho:=zi h6
 have hcp:(c.length:Int)<=cap:=by have:=h.lc;omega
 obtain⟨d,hd⟩:∃ d,d=IdlB i ⟨op,xa,xb⟩:=⟨_,rfl⟩
 rw[<-hd]
 have E:=yt d op xa xb 12 ((i:Int)+1) 0 hd
 have hJ:Hid (∀ W,Calls Tryz.prog 88 #[.int .i64 (IntKind.i64.wrap ((i:Int)+1))] W fun e w'=>e=.returned (iA ⟨12,(i:Int)+1,0⟩)/\Below W.heap.size W w'):=fun W=>by
  rw[xq (by omega) (by omega)]
  exact kY (by unfold I64;omega) W
 unfold iA at hJ
 have hii:(i:Int)<c.length:=by omega
 have hl4:(c.length:Int)<=4000:=by omega
 generalize c.length=n at *
 clear h hx hd
 go_enter Tryz.func82,Tryz.ntmps82
 go_wp2_with fail
 have g1:∀ d os,Calls Tryz.prog 88 #[.int .i64 (IntKind.i64.wrap ((i:Int)+1))] (grow (redrawn w d) os) fun e w''=>e=.returned (.agg #[.int .i64 12,.int .i64 ((i:Int)+1),.int .i64 0])/\∃ p:Regrown,w''=grow (redrawn w p.d) p.os:=fun d os=>Calls.regrown_of (hJ.out _)
 have x0:=cell_regrown h0
 have x1:=cell_regrown h6
 have x2:=cell_regrown c0
 have x3:=cell_regrown c1
 have x4:=cell_regrown c2
 have y0:∀ d os,wb<(grow (redrawn w d) os).heap.size:=fun d os=>zi (x0 d os)
 have y1:∀ d os,ob<(grow (redrawn w d) os).heap.size:=fun d os=>zi (x1 d os)
 have y2:∀ d os,g<(grow (redrawn w d) os).heap.size:=fun d os=>zi (x2 d os)
 refine wp_region_quiet_below (by kernel_rfl) (by kernel_rfl) ?_
 repeat (quiet_step (first|(go_at_call 88;exact g1 _ _)))
 refine wpQuiet_nil ?_
 intro _ hw'
 obtain⟨⟨dq,osq⟩,hw''⟩:=hw'
 subst hw''
 go_wp2_with fail
 go_ret
 exact⟨rfl,below_regrown w dq osq⟩
def OnP (w:World) (m:Nat) (e:Ending) (w':World):Prop:=e=.returned (.int .i64 (m:Int))/\Below w.heap.size w w'
structure OnI (w wr:World) (o:O) (a m k:Nat) (p:Vm.Pa) (at':Nat):Prop where
 wy:Vm.Wy o a p
 on:Vm.onF o.code k p at'=m
 be:Below w.heap.size w wr
 bl:wr.heap[w.heap.size]?=some (.cells (paC p) 181 (0,0))
theorem vF {n:Nat}{w wr w':World}(h:Below n w wr) (hn:n<=wr.heap.size) (k:Ext n wr w'):Below n w w':=h.trans (k.toBelow zn hn)
theorem onI_next {w wr w':World}{o:O}{a m k:Nat}{p:Vm.Pa}{at':Nat}{x:In}(hO:Vm.Okc o) (h:OnI w wr o a m (k+1) p at') (hx:o.code[p.at']?=some x) {e:Ending}(hf:FolP wr.drew w.heap.size p x e w'):∃ b,e=.returned (.bool b)/\Hid ((b=false/\(if p.put then at' else p.at')=m/\Below w.heap.size w w')\/(b=true/\∃ p',OnI w w' o a m k p' (if p.put then at' else p.at'))):=by
 have hfo:Vm.follow o.code p=Vm.folO p x:=by unfold Vm.follow;rw[hx];rfl
 have hb:Below w.heap.size w w':=vF h.be.drew (by show _<=wr.heap.size;exact h.be.size) hf.1
 cases hp:Vm.folO p x with
 | none =>
  refine⟨false,hf.2.2 hp,Or.inl ⟨rfl,?_,hb⟩⟩
  have:=h.on
  rw[Vm.onF,hfo,hp]at this
  exact this
 | some p' =>
  refine⟨true,(hf.2.1 p' hp).1,Or.inr ⟨rfl,p',Vm.follow_ok hO h.wy (hfo.trans hp),?_,hb,(hf.2.1 p' hp).2⟩⟩
  have:=h.on
  rw[Vm.onF,hfo,hp]at this
  exact this
theorem xe {w:World}{wb ob g cap:Nat}{o:O}(hO:Vm.Okc o) (h:CodeAt w wb ob g cap o.code) {a:Nat}(ha:a<o.code.length):Calls Tryz.prog 80 #[.pointer (some ⟨wb,0,none⟩),.int .i64 (a:Int)] w (OnP w (Vm.onward o.code a)):=by
 have HO:=zh hO
 have hn4:=hO.n4
 obtain⟨m,hm⟩:∃ m,m=Vm.onward o.code a:=⟨_,rfl⟩
 rw[<-hm]
 obtain⟨w0,hw0⟩:∃ w0,w0=w.alloc (.cells #[.int .i64 (a:Int),.bool false,.int .i64 0] 181):=⟨_,rfl⟩
 have hi0:OnI w w0 o a m 100 ⟨a,false,0⟩ a:=⟨Vm.onw_self ha,hm.symm,by rw[hw0];exact zb _ _,by rw[hw0];exact zw w _⟩
 have HI0:=zh hi0
 have HC:=zh h
 clear hO hi0 h hm
 go_enter Tryz.func80,Tryz.ntmps80
 go_upto_region 2 with fail
 rw[<-hw0]
 clear hw0
 go_wp2_with fail
 go_loopg [1,8] 100 (fun kk at0 vi wr=>∃(k:Nat) (p:Vm.Pa) (at':Nat),k<=100/\kk=k/\vi=.int .i64 ((100 - k:Nat):Int)/\at0=.int .i64 (at':Int)/\Hid (OnI w wr o a m k p at'))
 case atStart=>exact⟨100,_,_,Nat.le_refl _,rfl,rfl,rfl,HI0⟩
 case round =>
  obtain⟨k,p,at',hk,rfl,rfl,rfl,HI⟩:=hrel
  cases gk with
  | zero =>
   have hm:Hid (m=at'/\Below w.heap.size w wr):=⟨by have:=HI.out.on;rw[Vm.onF]at this;exact this.symm,HI.out.be⟩
   go_wp2_with fail
   go_ret
   refine⟨?_,hm.out.2⟩
   rw[hm.out.1]
   rfl
  | succ k =>
   obtain⟨pa,put,pn⟩:=p
   have hpa:pa<o.code.length:=HI.out.wy.1
   obtain⟨x,hx⟩:∃ x,o.code[pa]?=some x:=⟨_,List.getElem?_eq_getElem hpa⟩
   have hbl:=HI.out.bl
   have g0:wr.cell? ⟨w.heap.size,0,none⟩=some (.int .i64 (pa:Int)):=(zc hbl).trans rfl
   have g1:wr.cell? ⟨w.heap.size,1,none⟩=some (.bool put):=(zc hbl).trans rfl
   have hC:=HC.out.on HI.out.be
   obtain⟨c0,c1,c2⟩:=hC.at' pa x hx
   have k0:=hC.k0
   have k6:=hC.k6
   have hg:=hC.lg
   have hw:=zi k0
   have hob:=zi k6
   have hpl:=zk hbl
   have hcp:(o.code.length:Int)<=cap:=by have:=hC.lc;omega
   have hF:Hid (Calls Tryz.prog 118 #[.pointer (some ⟨w.heap.size,0,none⟩),iA x] wr.drew (FolP wr.drew w.heap.size ⟨pa,put,pn⟩ x)):=ud (by exact hbl) (fun q=>by have:=HO.out.lab x (List.mem_of_getElem? hx) q;omega) (by show pa<=4000;omega)
   have HN:Hid (∀ e w',FolP wr.drew w.heap.size ⟨pa,put,pn⟩ x e w'->_):=fun e w' q=>onI_next HO.out HI.out hx q
   obtain⟨op,xa,xb⟩:=x
   unfold iA at hF
   have hii:(pa:Int)<o.code.length:=by omega
   have hl4:(o.code.length:Int)<=4000:=by omega
   have hk1:((100 - (k+1):Nat):Int)<100:=by omega
   have hk2:((100 - (k+1):Nat):Int)+1=((100 - k:Nat):Int):=by omega
   generalize ((100 - (k+1):Nat):Int)=ci at *
   clear hbl hC hx HI
   generalize o.code.length=ln at *
   cases put with
   | false =>
    go_wp2_with fail
    go_region_law (first|(refine zI rfl ?_;go_simp;go_at_call 118;refine hF.out.mono ?_;intro e w' hq;obtain⟨b,rfl,hz⟩:=HN.out e w' hq;clear hq HN))
    all_goals
     rcases hz.out with⟨rfl,h1,h2⟩|⟨rfl,p',h1⟩
     ·have H1:=zh h1
      have H2:=zh h2
      clear hz h1 h2
      go_wp2_with fail
      go_ret
      refine⟨?_,H2.out⟩
      rw[<-H1.out]
      rfl
     ·have H1:=zh h1
      clear hz h1
      go_wp2_with fail
      go_roundg k
      case measure=>omega
      case rel=>exact⟨k,p',_,by omega,rfl,by go_num,rfl,H1⟩
   | true =>
    go_wp2_with fail
    go_region_law (first|(refine zI rfl ?_;go_simp;go_at_call 118;refine hF.out.mono ?_;intro e w' hq;obtain⟨b,rfl,hz⟩:=HN.out e w' hq;clear hq HN))
    all_goals
     rcases hz.out with⟨rfl,h1,h2⟩|⟨rfl,p',h1⟩
     ·have H1:=zh h1
      have H2:=zh h2
      clear hz h1 h2
      go_wp2_with fail
      go_ret
      refine⟨?_,H2.out⟩
      rw[<-H1.out]
      rfl
     ·have H1:=zh h1
      clear hz h1
      go_wp2_with fail
      go_roundg k
      case measure=>omega
      case rel=>exact⟨k,p',_,by omega,rfl,by go_num,rfl,H1⟩
end Go.Proofs.YtmnedfdffbbchaaGreatDoor.Jo
