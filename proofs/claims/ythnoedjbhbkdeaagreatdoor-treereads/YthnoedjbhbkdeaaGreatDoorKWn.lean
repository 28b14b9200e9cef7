import Derived.Test.YthnoedjbhbkdeaaGreatDoorKWm
set_option maxRecDepth 100000
set_option maxHeartbeats 4000000
namespace Go.Proofs.YthnoedjbhbkdeaaGreatDoor
open Go.RowKit
variable {kk:Nat->Prop}
open Tp (X S G Pr)
theorem yE {w:World}{b:Nat}{v0 v1 v2 v3 v4 v5:Value}{t:TypeId}(h:w.heap[b]?=some (.cells #[v0,v1,v2,v3,v4,v5] t (0,0))):w.cell? ⟨b,0,none⟩=some v0/\w.cell? ⟨b,2,none⟩=some v2/\w.cell? ⟨b,3,none⟩=some v3/\w.cell? ⟨b,4,none⟩=some v4/\w.cell? ⟨b,5,none⟩=some v5 :=
 ⟨(za h).trans rfl,(za h).trans rfl,(za h).trans rfl,(za h).trans rfl,(za h).trans rfl⟩
def varsB (vs:List (List UInt8)):List UInt8:=if vs=[] then [] else [118,97,114,32]++(Tp.pnames vs).flatten++[59,10]
theorem pp_flat (c:Pr):(Tp.pp c).flatten=[112,114,111,99,32]++c.name++(Tp.star c.seen).flatten++[40]++(Tp.pnames c.params).flatten++[41,59,10]++varsB c.vars++[98,101,103,105,110,10]++(Tp.psts c.body 1).flatten++[101,110,100,59,10]:=by
 unfold Tp.pp varsB
 by_cases h:c.vars=[] <;> simp[h,Tp.wVar,Tp.sp,Tp.mSemi,Tp.nl,Tp.wProc,Tp.mLp,Tp.mRp,Tp.wBegin,Tp.wEnd]
theorem xX {w w':World}{B e size n:Nat}{v:Value}{cs:List Value}(h:Row w (fun i=>i<B) e size v n cs) (k:Below B w w'):Row w' (fun i=>i<B) e size v n cs:=h.mono (fun b hi _=>⟨k.block b hi,hi⟩)
theorem vN (c:Pr) (hw:Tp.WS c.body) (hd:1+Tp.DS c.body<=500) (hpn:c.params.length<=1000000000) (hvn:c.vars.length<=1000000000) {w:World}{B:Nat}{v:Value}{l:List UInt8}{qa va ba:Option Addr}{qc vc bc:Nat}{bcs:List Value}
  (hq:Row w (fun i=>i<B) 9 1 (.slice qa c.params.length qc) c.params.length (strs c.params)) (hv:Row w (fun i=>i<B) 9 1 (.slice va c.vars.length vc) c.vars.length (strs c.vars))
  (hb1:RepS w (fun i=>i<B) c.body bcs) (hb2:OwnS w (fun i=>i<B) (.slice ba c.body.length bc) c.body.length bcs) (hb:Buf kk w B v l) (hr:Wr B w) (hl:(l++(Tp.pp c).flatten).length<=1000000000) :
  Calls Tryz.prog 104 #[v,.agg #[.string (bs c.name),.int .i64 (c.pos:Int),.bool c.seen,.slice qa c.params.length qc,.slice va c.vars.length vc,.slice ba c.body.length bc]] w (Wrote kk B w (l++(Tp.pp c).flatten)):=by
 obtain⟨nm,pos,seen,ps,vs,body⟩:=c
 rw[pp_flat]at hl ⊢
 simp only at hl ⊢ hw hd hpn hvn hq hv hb1 hb2
 have hB:=hb.2
 have hstar:=fun W=>star_any W seen
 obtain⟨st,hst⟩:∃ st,st=(Tp.star seen).flatten:=⟨_,rfl⟩
 rw[<-hst]at hl ⊢ hstar
 clear hst
 obtain⟨m1,hm1⟩:∃ m1,m1=l++([[112,114,111,99,32],nm,st,[40],(Tp.pnames ps).flatten,[41,59,10]]:List (List UInt8)).flatten:=⟨_,rfl⟩
 obtain⟨m2,hm2⟩:∃ m2,m2=m1++varsB vs:=⟨_,rfl⟩
 obtain⟨m3,hm3⟩:∃ m3,m3=m2++[98,101,103,105,110,10]:=⟨_,rfl⟩
 obtain⟨m4,hm4⟩:∃ m4,m4=m3++(Tp.psts body 1).flatten:=⟨_,rfl⟩
 obtain⟨mf,hmf⟩:∃ mf,mf=m4++[101,110,100,59,10]:=⟨_,rfl⟩
 have e1:l++([112,114,111,99,32]++nm++st++[40]++(Tp.pnames ps).flatten++[41,59,10]++varsB vs++[98,101,103,105,110,10]++(Tp.psts body 1).flatten++[101,110,100,59,10])=mf:=by
  rw[hmf,hm4,hm3,hm2,hm1];simp
 rw[e1]at hl ⊢
 have g1:m1.length<=m2.length:=by rw[hm2];simp
 have g2:m2.length<=m3.length:=by rw[hm3];simp
 have g3:m3.length<=m4.length:=by rw[hm4];simp
 have g4:m4.length<=mf.length:=by rw[hmf];simp
 have gp:(Tp.pnames ps).flatten.length<=m1.length:=by rw[hm1];simp;omega
 have hjp:∀ W,Below B w W->Calls Tryz.prog 49 #[.slice qa ps.length qc,.string ⟨#[44,32]⟩] W fun e w'=>e=.returned (.string (bs (Tp.pnames ps).flatten))/\Below W.heap.size W w':=fun W hW=>yL (xX hq hW) (by omega) hpn
 obtain⟨pj,hpj⟩:∃ pj,pj=(Tp.pnames ps).flatten:=⟨_,rfl⟩
 rw[<-hpj]at hjp hm1
 have hal:∀ ob,Below w.heap.size w (w.alloc ob):=fun ob=>zb _ _
 have hV:vs.length=0/\m2=m1\/0<vs.length/\∃ vj,m2=m1++([[118,97,114,32],vj,[59,10]]:List (List UInt8)).flatten/\∀ W,Bw kk B w W->Calls Tryz.prog 49 #[.slice va vs.length vc,.string ⟨#[44,32]⟩] W fun e w'=>e=.returned (.string (bs vj))/\Below W.heap.size W w':=by
  by_cases hne:vs=[]
  ·left;subst hne;exact⟨rfl,by rw[hm2];simp[varsB]⟩
  ·right
   have hm2':=hm2
   rw[varsB,if_neg hne]at hm2'
   have h2:m2.length<=1000000000:=by omega
   rw[hm2']at h2
   refine⟨List.length_pos_iff.2 hne,(Tp.pnames vs).flatten,by rw[hm2'];simp,fun W hW=>yL (xX hv hW.toBelow) ?_ hvn⟩
   simp only [List.length_append]at h2
   omega
 have HST:Hid (∀ W v',Bw kk B w W->Buf kk W B v' m3->Calls Tryz.prog 105 #[v',.slice ba body.length bc,.int .i64 1] W (Wrote kk B W m4)):=by
  intro W v' hW hB
  have:=js (d:=1) hw (yS hb1 hW) (yU hb2 hW) hB (hr.on hW) hd (by rw[<-hm4];omega)
  rw[<-hm4]at this
  exact this
 have HM3:Hid (m3=m2++[98,101,103,105,110,10]):=hm3
 have HM5:Hid (mf=m4++[101,110,100,59,10]):=hmf
 have HL2:Hid (m2.length<=1000000000):=by show _<=_;omega
 have HL3:Hid (m3.length<=1000000000):=by show _<=_;omega
 have HL5:Hid (mf.length<=1000000000):=by show _<=_;omega
 have hvn':(vs.length:Int)<=1000000000:=by omega
 generalize hPN:ps.length=pn at *
 generalize hBN:body.length=bn at *
 generalize hVN:vs.length=vn at *
 have HV:=zh hV
 have hJ:=hjp (w.alloc (.cells #[.string (bs nm),.int .i64 (pos:Int),.bool seen,.slice qa pn qc,.slice va vn vc,.slice ba bn bc] 74)).drew ((hal _).mono hB |>.drew)
 have HJ:Hid (Calls Tryz.prog 49 #[.slice qa pn qc,.string ⟨#[44,32]⟩] (w.alloc (.cells #[.string (bs nm),.int .i64 (pos:Int),.bool seen,.slice qa pn qc,.slice va vn vc,.slice ba bn bc] 74)).drew fun e w'=>e=.returned (.string (bs pj))/\Below (w.alloc (.cells #[.string (bs nm),.int .i64 (pos:Int),.bool seen,.slice qa pn qc,.slice va vn vc,.slice ba bn bc] 74)).drew.heap.size (w.alloc (.cells #[.string (bs nm),.int .i64 (pos:Int),.bool seen,.slice qa pn qc,.slice va vn vc,.slice ba bn bc] 74)).drew w'):=hJ
 have HD:Hid (Below w.heap.size w (w.alloc (.cells #[.string (bs nm),.int .i64 (pos:Int),.bool seen,.slice qa pn qc,.slice va vn vc,.slice ba bn bc] 74)).drew):=(hal _).drew
 have hblk:(w.alloc (.cells #[.string (bs nm),.int .i64 (pos:Int),.bool seen,.slice qa pn qc,.slice va vn vc,.slice ba bn bc] 74)).heap[w.heap.size]?=some (.cells #[.string (bs nm),.int .i64 (pos:Int),.bool seen,.slice qa pn qc,.slice va vn vc,.slice ba bn bc] 74 (0,0)):=zu _ _
 obtain⟨k0,k2,k3,k4,k5⟩:=yE hblk
 have HK:Hid ((w.alloc (.cells #[.string (bs nm),.int .i64 (pos:Int),.bool seen,.slice qa pn qc,.slice va vn vc,.slice ba bn bc] 74)).drew.heap[w.heap.size]?=some (.cells #[.string (bs nm),.int .i64 (pos:Int),.bool seen,.slice qa pn qc,.slice va vn vc,.slice ba bn bc] 74 (0,0))):=hblk
 have HS:Hid (∀ W,Calls Tryz.prog 147 #[.bool seen] W fun e w'=>e=.returned (.string (bs st))/\w'=W):=hstar
 have HA:Hid (∀ W,Below w.heap.size w W->Calls Tryz.prog 102 #[v,.slice (some ⟨W.heap.size,0,none⟩) 6 6] (W.alloc (.cells #[.string ⟨#[112,114,111,99,32]⟩,.string (bs nm),.string (bs st),.string ⟨#[40]⟩,.string (bs pj),.string ⟨#[41,59,10]⟩] 9)) (Wrote kk B W m1)):=by
  intro W hW
  have:=addAllN (hb.below hW) [[112,114,111,99,32],nm,st,[40],pj,[41,59,10]] (by simp) (by rw[<-hm1];omega)
  rw[<-hm1]at this
  exact this
 have HBW:Hid (∀ W,Below w.heap.size w W->Bw kk B w W):=fun W hW=>Bw.of (kk:=kk) hW hB
 clear hJ hjp hV hVN hstar hpj hm1 hm2 hm3 hm4 hmf e1 g1 g2 g3 g4 gp hb hal hr hq hv hb1 hb2 hw hd hpn hvn hl hblk k4 k5 hPN hBN hB
 go_enter Tryz.func104,Tryz.ntmps104
 go_wp2_with fail
 go_region_held3 (fun w'=>w'.cell? ⟨w.heap.size,0,none⟩=some (.string (bs nm))/\w'.cell? ⟨w.heap.size,2,none⟩=some (.bool seen)/\w'.cell? ⟨w.heap.size,3,none⟩=some (.slice qa pn qc)) (first|(exact⟨k0,k2,k3⟩)|(exact⟨q0,q2,q3⟩)|(exact⟨z7 q0 _,z7 q2 _,z7 q3 _⟩)|(exact⟨p0,p2,p3⟩)) (first|(go_at_call 147;refine(HS.out _).mono ?_;rintro e w2 ⟨rfl,rfl⟩)|(go_at_call 49;refine HJ.out.mono ?_;rintro e wj ⟨rfl,hbelj⟩;have hblkj:=(hbelj.block w.heap.size (zc HK.out)).trans HK.out;have HDJ:=zh (HD.out.trans (hbelj.mono (HD.out.size)));obtain⟨q0,q2,q3,q4,q5⟩:=yE hblkj;clear hbelj q4 q5)|(go_at_call 102;refine(HA.out _ HDJ.out).mono ?_;rintro e w3 ⟨v3,rfl,hbuf3,hbel3⟩;have hblk3:=hbel3.keeps hblkj (by decide);have hB3:=(HBW.out _ HDJ.out).trans hbel3;obtain⟨p0,p2,p3,p4,p5⟩:=yE hblk3))
 clear HK HA HS HJ HD HDJ HBW k0 k2 k3 q0 q2 q3 p0 p2 p3 p5 hbel3 hblkj
 have hlt3:=zc hblk3
 rcases HV.out with⟨h0,h1⟩|⟨h0,vj,h1,h2⟩
 ·rw[<-h1]at hbuf3
  have h0':¬(0:Int)<(vn:Int):=by omega
  clear HV h1 h0
  have hB4:=zh hB3
  obtain⟨r0,r2,r3,r4,r5⟩:=yE hblk3
  have hlt3:=zc hblk3
  have hc4:=addAll1 hbuf3 [98,101,103,105,110,10] (by rw[<-HM3.out];exact HL3.out)
  rw[<-HM3.out]at hc4
  have HA4:Hid (Calls Tryz.prog 102 #[v3,.slice (some ⟨w3.heap.size,0,none⟩) 1 1] (w3.alloc (.cells #[.string ⟨#[98,101,103,105,110,10]⟩] 9)) (Wrote kk B w3 m3)):=hc4
  have HK3:Hid (w3.heap[w.heap.size]?=some (.cells #[.string (bs nm),.int .i64 (pos:Int),.bool seen,.slice qa pn qc,.slice va vn vc,.slice ba bn bc] 74 (0,0))):=hblk3
  clear hc4 hbuf3 hblk3 hB3 r0 r2 r3
  go_wp2_with fail
  refine HA4.out.mono ?_
  rintro e w4 ⟨v4,rfl,hbuf4,hbel4⟩
  have HK4:Hid (w4.heap[w.heap.size]?=some (.cells #[.string (bs nm),.int .i64 (pos:Int),.bool seen,.slice qa pn qc,.slice va vn vc,.slice ba bn bc] 74 (0,0))):=hbel4.keeps HK3.out (by decide)
  have HB4:=zh (hB4.out.trans hbel4)
  obtain⟨s0,s2,s3,s4,s5⟩:=yE HK4.out
  have hlt4:=zc HK4.out
  have HA5:Hid (Calls Tryz.prog 105 #[v4,.slice ba bn bc,.int .i64 1] w4 (Wrote kk B w4 m4)):=HST.out w4 v4 HB4.out hbuf4
  clear hbuf4 hbel4 s0 s2 s3 s4 r4 r5 HK3
  go_wp2_with fail
  refine HA5.out.mono ?_
  rintro e w5 ⟨v5,rfl,hbuf5,hbel5⟩
  have HB5:=zh (HB4.out.trans hbel5)
  have hc6:=addAll1 hbuf5 [101,110,100,59,10] (by rw[<-HM5.out];exact HL5.out)
  rw[<-HM5.out]at hc6
  have HA6:Hid (Calls Tryz.prog 102 #[v5,.slice (some ⟨w5.heap.size,0,none⟩) 1 1] (w5.alloc (.cells #[.string ⟨#[101,110,100,59,10]⟩] 9)) (Wrote kk B w5 mf)):=hc6
  clear hc6 hbuf5 hbel5 s5 HK4
  go_wp2_with fail
  refine HA6.out.mono ?_
  rintro e w6 ⟨v6,rfl,hbuf6,hbel6⟩
  have HB:Hid (Buf kk w6 B v6 mf):=hbuf6
  have HBB:=zh (HB5.out.trans hbel6)
  clear hbuf6 hbel6
  go_wp2_with fail
  go_ret
  exact⟨_,rfl,HB.out,HBB.out⟩
 ·have h0':(0:Int)<(vn:Int):=by omega
  have HV2:=zh h2
  have HM2:=zh h1
  have HB2:=zh hB3
  have hcA:∀ W,Below w3.heap.size w3 W->Calls Tryz.prog 102 #[v3,.slice (some ⟨W.heap.size,0,none⟩) 3 3] (W.alloc (.cells #[.string ⟨#[118,97,114,32]⟩,.string (bs vj),.string ⟨#[59,10]⟩] 9)) (Wrote kk B W m2):=by
   intro W hW
   have:=addAllN (hbuf3.below hW) [[118,97,114,32],vj,[59,10]] (by simp) (by rw[<-HM2.out];exact HL2.out)
   rw[<-HM2.out]at this
   exact this
  have HA3:=zh hcA
  have HJ3:Hid (Calls Tryz.prog 49 #[.slice va vn vc,.string ⟨#[44,32]⟩] w3 fun e w'=>e=.returned (.string (bs vj))/\Below w3.heap.size w3 w'):=h2 w3 hB3
  have HBB3:Hid (∀ W,Below w3.heap.size w3 W->Bw kk B w W):=fun W hW=>hB3.trans (Bw.of (kk:=kk) hW hbuf3.2)
  have HK2:=zh hblk3
  clear HV h0 h2 h1 hB3 hbuf3 hcA hblk3
  go_wp2_with fail
  refine HJ3.out.mono ?_
  rintro e wk ⟨rfl,hbelk⟩
  have hcA:=HA3.out wk hbelk
  have HA7:Hid (Calls Tryz.prog 102 #[v3,.slice (some ⟨wk.heap.size,0,none⟩) 3 3] (wk.alloc (.cells #[.string ⟨#[118,97,114,32]⟩,.string (bs vj),.string ⟨#[59,10]⟩] 9)) (Wrote kk B wk m2)):=hcA
  have HKK:=zh ((hbelk.block w.heap.size hlt3).trans HK2.out)
  have HBK:=zh (HBB3.out wk hbelk)
  have hltk:=zc HKK.out
  clear hbelk hcA p4 hlt3
  go_wp2_with fail
  refine HA7.out.mono ?_
  rintro e w9 ⟨v9,rfl,hbuf9,hbel9⟩
  have hblk9:=hbel9.keeps HKK.out (by decide)
  have hB9:=HBK.out.trans hbel9
  clear hbel9 HKK HBK HA7 HK2 HBB3 HJ3 HA3 HB2 HV2 HM2 h0'
  have hB4:=zh hB9
  obtain⟨r0,r2,r3,r4,r5⟩:=yE hblk9
  have hlt9:=zc hblk9
  have hc4:=addAll1 hbuf9 [98,101,103,105,110,10] (by rw[<-HM3.out];exact HL3.out)
  rw[<-HM3.out]at hc4
  have HA4:Hid (Calls Tryz.prog 102 #[v9,.slice (some ⟨w9.heap.size,0,none⟩) 1 1] (w9.alloc (.cells #[.string ⟨#[98,101,103,105,110,10]⟩] 9)) (Wrote kk B w9 m3)):=hc4
  have HK3:Hid (w9.heap[w.heap.size]?=some (.cells #[.string (bs nm),.int .i64 (pos:Int),.bool seen,.slice qa pn qc,.slice va vn vc,.slice ba bn bc] 74 (0,0))):=hblk9
  clear hc4 hbuf9 hblk9 hB9 r0 r2 r3
  go_wp2_with fail
  refine HA4.out.mono ?_
  rintro e w4 ⟨v4,rfl,hbuf4,hbel4⟩
  have HK4:Hid (w4.heap[w.heap.size]?=some (.cells #[.string (bs nm),.int .i64 (pos:Int),.bool seen,.slice qa pn qc,.slice va vn vc,.slice ba bn bc] 74 (0,0))):=hbel4.keeps HK3.out (by decide)
  have HB4:=zh (hB4.out.trans hbel4)
  obtain⟨s0,s2,s3,s4,s5⟩:=yE HK4.out
  have hlt4:=zc HK4.out
  have HA5:Hid (Calls Tryz.prog 105 #[v4,.slice ba bn bc,.int .i64 1] w4 (Wrote kk B w4 m4)):=HST.out w4 v4 HB4.out hbuf4
  clear hbuf4 hbel4 s0 s2 s3 s4 r4 r5 HK3
  go_wp2_with fail
  refine HA5.out.mono ?_
  rintro e w5 ⟨v5,rfl,hbuf5,hbel5⟩
  have HB5:=zh (HB4.out.trans hbel5)
  have hc6:=addAll1 hbuf5 [101,110,100,59,10] (by rw[<-HM5.out];exact HL5.out)
  rw[<-HM5.out]at hc6
  have HA6:Hid (Calls Tryz.prog 102 #[v5,.slice (some ⟨w5.heap.size,0,none⟩) 1 1] (w5.alloc (.cells #[.string ⟨#[101,110,100,59,10]⟩] 9)) (Wrote kk B w5 mf)):=hc6
  clear hc6 hbuf5 hbel5 s5 HK4
  go_wp2_with fail
  refine HA6.out.mono ?_
  rintro e w6 ⟨v6,rfl,hbuf6,hbel6⟩
  have HB:Hid (Buf kk w6 B v6 mf):=hbuf6
  have HBB:=zh (HB5.out.trans hbel6)
  clear hbuf6 hbel6
  go_wp2_with fail
  go_ret
  exact⟨_,rfl,HB.out,HBB.out⟩
end Go.Proofs.YthnoedjbhbkdeaaGreatDoor
namespace Go.Proofs.YthnoedjbhbkdeaaGreatDoor
open Go.RowKit
variable {kk:Nat->Prop}
open Tp (X S G Pr M)
theorem yy {w:World}{b:Nat}{v0 v1 v2 v3 v4:Value}{t:TypeId}(h:w.heap[b]?=some (.cells #[v0,v1,v2,v3,v4] t (0,0))):w.cell? ⟨b,0,none⟩=some v0/\w.cell? ⟨b,1,none⟩=some v1/\w.cell? ⟨b,2,none⟩=some v2/\w.cell? ⟨b,3,none⟩=some v3/\w.cell? ⟨b,4,none⟩=some v4 :=
 ⟨(za h).trans rfl,(za h).trans rfl,(za h).trans rfl,(za h).trans rfl,(za h).trans rfl⟩
def AskI (w:World) (kk:Nat->Prop) (B inn:Nat) (ia:Option Addr) (ic:Nat) (m1 m2:List UInt8):Prop :=
 inn=0/\m2=m1\/0<inn/\∃ vj,m2=m1++([[105,109,112,111,114,116,32],vj,[59,10]]:List (List UInt8)).flatten/\∀ W,Bw kk B w W->Calls Tryz.prog 49 #[.slice ia inn ic,.string ⟨#[44,32]⟩] W fun e w'=>e=.returned (.string (bs vj))/\Below W.heap.size W w'
def AskG (w:World) (kk:Nat->Prop) (B gn:Nat) (ga:Option Addr) (mg:Nat->List UInt8):Prop :=
 ∀ i,i<gn->∃(g:Nat) (x0:List UInt8) (x1 x2:Nat) (x3:Bool),ga=some ⟨g,0,none⟩/\g<B/\g<w.heap.size/\w.cell? ⟨g,i * 4,none⟩=some (.string (bs x0))/\w.cell? ⟨g,i * 4+1,none⟩=some (.int .i64 (x1:Int))/\w.cell? ⟨g,i * 4+2,none⟩=some (.int .i64 (x2:Int))/\w.cell? ⟨g,i * 4+3,none⟩=some (.bool x3) /\
  ∀ W v',Bw kk B w W->Buf kk W B v' (mg i)->Calls Tryz.prog 103 #[v',.agg #[.string (bs x0),.int .i64 (x1:Int),.int .i64 (x2:Int),.bool x3]] W (Wrote kk B W (mg (i+1)))
def AskP (w:World) (kk:Nat->Prop) (B pn:Nat) (pa:Option Addr) (mp:Nat->List UInt8):Prop :=
 ∀ i,i<pn->∃(g:Nat) (x0:List UInt8) (x1:Nat) (x2:Bool) (y3 y4 y5:Option Addr) (n3 n4 n5 c3 c4 c5:Nat),pa=some ⟨g,0,none⟩/\g<B/\g<w.heap.size/\w.cell? ⟨g,i * 6,none⟩=some (.string (bs x0))/\w.cell? ⟨g,i * 6+1,none⟩=some (.int .i64 (x1:Int))/\w.cell? ⟨g,i * 6+2,none⟩=some (.bool x2)/\w.cell? ⟨g,i * 6+3,none⟩=some (.slice y3 n3 c3)/\w.cell? ⟨g,i * 6+4,none⟩=some (.slice y4 n4 c4)/\w.cell? ⟨g,i * 6+5,none⟩=some (.slice y5 n5 c5) /\
  ∀ W v',Bw kk B w W->Buf kk W B v' (mp i)->Calls Tryz.prog 104 #[v',.agg #[.string (bs x0),.int .i64 (x1:Int),.bool x2,.slice y3 n3 c3,.slice y4 n4 c4,.slice y5 n5 c5]] W (Wrote kk B W (mp (i+1)))
def AskB (w:World) (kk:Nat->Prop) (B bn:Nat) (ba:Option Addr) (bc:Nat) (m3 m4:List UInt8):Prop :=
 ∀ W v',Bw kk B w W->Buf kk W B v' m3->Calls Tryz.prog 105 #[v',.slice ba bn bc,.int .i64 1] W (Wrote kk B W m4)
theorem jV {w:World}{B:Nat}{v:Value}{l nm m1 m2 m3 m4 mf:List UInt8}{inn gn pn bn ic gc pc bc:Nat}{ia ga pa ba:Option Addr}{mg mp:Nat->List UInt8}(hb:Buf kk w B v l)
  (hm1:m1=l++([[109,111,100,117,108,101,32],nm,[59,10]]:List (List UInt8)).flatten) (hI:AskI w kk B inn ia ic m1 m2) (hg0:mg 0=m2) (hG:AskG w kk B gn ga mg) (hp0:mp 0=mg gn) (hP:AskP w kk B pn pa mp)
  (hm3:m3=mp pn++[98,101,103,105,110,10]) (hS:AskB w kk B bn ba bc m3 m4) (hmf:mf=m4++[101,110,100,46,10]) (h1:m1.length<=1000000000) (h2:m2.length<=1000000000) (h3:m3.length<=1000000000) (h4:mf.length<=1000000000) (hin:inn<=1000000000) (hgn:gn<=1000000000) (hpn:pn<=1000000000) :
  Calls Tryz.prog 48 #[v,.agg #[.string (bs nm),.slice ia inn ic,.slice ga gn gc,.slice pa pn pc,.slice ba bn bc]] w (Wrote kk B w mf):=by
 have hal:∀ ob,Below w.heap.size w (w.alloc ob):=fun ob=>zb _ _
 have hD:Below w.heap.size w ((w.alloc (.cells #[.string (bs nm),.slice ia inn ic,.slice ga gn gc,.slice pa pn pc,.slice ba bn bc] 27)).alloc (.cells #[.string ⟨#[109,111,100,117,108,101,32]⟩,.string (bs nm),.string ⟨#[59,10]⟩] 9)):=(hal _).alloc (by simp) _
 have hA:=yF (hb.below hD) [[109,111,100,117,108,101,32],nm,[59,10]] (w.heap.size+1) 3 (xC _ _ _) (by simp) (by rw[<-hm1];exact h1)
 rw[<-hm1]at hA
 have HA:Hid (Calls Tryz.prog 102 #[v,.slice (some ⟨w.heap.size+1,0,none⟩) 3 3] ((w.alloc (.cells #[.string (bs nm),.slice ia inn ic,.slice ga gn gc,.slice pa pn pc,.slice ba bn bc] 27)).alloc (.cells #[.string ⟨#[109,111,100,117,108,101,32]⟩,.string (bs nm),.string ⟨#[59,10]⟩] 9)) (Wrote kk B ((w.alloc (.cells #[.string (bs nm),.slice ia inn ic,.slice ga gn gc,.slice pa pn pc,.slice ba bn bc] 27)).alloc (.cells #[.string ⟨#[109,111,100,117,108,101,32]⟩,.string (bs nm),.string ⟨#[59,10]⟩] 9)) m1)):=hA
 have HBA:Hid (Bw kk B w ((w.alloc (.cells #[.string (bs nm),.slice ia inn ic,.slice ga gn gc,.slice pa pn pc,.slice ba bn bc] 27)).alloc (.cells #[.string ⟨#[109,111,100,117,108,101,32]⟩,.string (bs nm),.string ⟨#[59,10]⟩] 9))):=Bw.of (kk:=kk) hD hb.2
 have hblk:(w.alloc (.cells #[.string (bs nm),.slice ia inn ic,.slice ga gn gc,.slice pa pn pc,.slice ba bn bc] 27)).heap[w.heap.size]?=some (.cells #[.string (bs nm),.slice ia inn ic,.slice ga gn gc,.slice pa pn pc,.slice ba bn bc] 27 (0,0)):=zu _ _
 obtain⟨k0,k1,k2,k3,k4⟩:=yy hblk
 have HK:Hid (((w.alloc (.cells #[.string (bs nm),.slice ia inn ic,.slice ga gn gc,.slice pa pn pc,.slice ba bn bc] 27)).alloc (.cells #[.string ⟨#[109,111,100,117,108,101,32]⟩,.string (bs nm),.string ⟨#[59,10]⟩] 9)).heap[w.heap.size]?=some (.cells #[.string (bs nm),.slice ia inn ic,.slice ga gn gc,.slice pa pn pc,.slice ba bn bc] 27 (0,0))):=(Below.heap_alloc _ _ w.heap.size (by simp)).trans hblk
 have HI:=zh hI
 have HG0:=zh hg0
 have HG:=zh hG
 have HP0:=zh hp0
 have HP:=zh hP
 have HM3:=zh hm3
 have HST:=zh hS
 have HMF:=zh hmf
 have HL2:=zh h2
 have HL3:=zh h3
 have HL4:=zh h4
 have hin':(inn:Int)<=1000000000:=by omega
 have hgn':(gn:Int)<=1000000000:=by omega
 have hpn':(pn:Int)<=1000000000:=by omega
 clear hA hI hg0 hG hp0 hP hm3 hS hmf h2 h3 h4 hm1 h1 hb hD hal hblk k1 k2 k3 k4 hin
 go_enter Tryz.func48,Tryz.ntmps48
 go_wp2_with fail
 refine HA.out.mono ?_
 rintro e w1 ⟨v1,rfl,hbuf1,hbel1⟩
 have HK1:Hid (w1.heap[w.heap.size]?=some (.cells #[.string (bs nm),.slice ia inn ic,.slice ga gn gc,.slice pa pn pc,.slice ba bn bc] 27 (0,0))):=hbel1.keeps HK.out (by decide)
 have HB1:Hid (Bw kk B w w1):=HBA.out.trans hbel1
 have HF1:Hid (Buf kk w1 B v1 m1):=hbuf1
 obtain⟨q0,q1,q2,q3,q4⟩:=yy HK1.out
 have hlt1:=zc HK1.out
 clear hbuf1 hbel1 HK HBA HA k0 q0 q3 q4
 unfold AskI at HI
 rcases HI.out with⟨h0,e1⟩|⟨h0,vj,e1,e2⟩
 ·have h0':¬(0:Int)<(inn:Int):=by omega
  have HFy:Hid (Buf kk w1 B v1 m2):=by rw[e1];exact HF1
  have HBy:=HB1
  have HKy:=HK1
  clear HI h0 e1 HF1 HB1 HK1 HL2
  obtain⟨a0,a1,a2,a3,a4⟩:=yy HKy.out
  have hlty:=zc HKy.out
  clear a0 a1 a3 a4
  go_wp2_with fail
  generalize decide (0<inn)=bb
  go_loopg [0,27] gn (fun k v vi wr=>∃ i:Nat,i<=gn/\k=gn - i/\vi=.int .i64 (i:Int)/\Hid (Buf kk wr B v (mg i))/\Hid (Bw kk B w wr)/\Hid (wr.heap[w.heap.size]?=some (.cells #[.string (bs nm),.slice ia inn ic,.slice ga gn gc,.slice pa pn pc,.slice ba bn bc] 27 (0,0))))
  case atStart=>exact⟨0,by omega,by omega,rfl,by unfold Hid;rw[HG0.out];exact HFy.out,HBy,HKy⟩
  case round =>
   obtain⟨i,hid,hk,rfl,HF1,HB1,HK1⟩:=hrel
   clear HKy HBy HFy a2 hlty
   by_cases hlt:i<gn
   ·have hlt':(i:Int)<(gn:Int):=by omega
    obtain⟨g,x0,x1,x2,x3,hga,hgB,hgs,c0,c1,c2,c3,hcall⟩:=HG.out i hlt
    subst hga
    have kc0:=(HB1.out.cell (p:=⟨g,i * 4,none⟩) hgB).trans c0
    have kc1:=(HB1.out.cell (p:=⟨g,i * 4+1,none⟩) hgB).trans c1
    have kc2:=(HB1.out.cell (p:=⟨g,i * 4+2,none⟩) hgB).trans c2
    have kc3:=(HB1.out.cell (p:=⟨g,i * 4+3,none⟩) hgB).trans c3
    have hlgr:g<wr.heap.size:=by have:=HB1.out.size;omega
    have HCL:=zh hcall
    obtain⟨m,hm⟩:∃ m,m=mg i:=⟨_,rfl⟩
    have hbuf:=HF1.out
    rw[<-hm]at hbuf
    obtain⟨b1,d1,hv⟩:=zt hbuf.1
    subst hv
    have HBUF:Hid (Buf kk wr B (.slice b1 m.length d1) m):=hbuf
    have HMM:=zh hm
    clear hcall c0 c1 c2 c3 hbuf hm HF1
    go_wp2_with fail
    have hal:∀ ob,Below wr.heap.size wr (wr.alloc ob):=fun ob=>zb _ _
    refine(HCL.out _ _ (HB1.out.trans (Bw.of (kk:=kk) (hal _) HBUF.out.2)) (HMM.out ▸ HBUF.out.below (hal _))).mono ?_
    rintro e w3 ⟨v3,rfl,hbuf3,hbel3⟩
    have HB3:Hid (Buf kk w3 B v3 (mg (i+1))):=hbuf3
    have HBW:Hid (Bw kk B w w3):=(HB1.out.trans (Bw.of (kk:=kk) (hal _) HBUF.out.2)).trans hbel3
    have HK3:Hid (w3.heap[w.heap.size]?=some (.cells #[.string (bs nm),.slice ia inn ic,.slice (some ⟨g,0,none⟩) gn gc,.slice pa pn pc,.slice ba bn bc] 27 (0,0))):=hbel3.keeps (((hal _).block w.heap.size (zc HK1.out)).trans HK1.out) (by decide)
    clear hbuf3 hal hbel3
    go_wp2_with fail
    go_roundg (gn - (i+1))
    case measure=>omega
    case rel=>exact⟨i+1,by omega,rfl,by go_num,HB3,HBW,HK3⟩
   ·have hlt':¬(i:Int)<(gn:Int):=by omega
    have hei:i=gn:=by omega
    obtain⟨a0,a1,a2,a3,a4⟩:=yy HK1.out
    have hltr:=zc HK1.out
    have HF2:Hid (Buf kk wr B u0 (mp 0)):=by unfold Hid;rw[HP0.out,<-hei];exact HF1.out
    have HB2:Hid (Bw kk B w wr):=HB1
    have HK2:Hid (wr.heap[w.heap.size]?=some (.cells #[.string (bs nm),.slice ia inn ic,.slice ga gn gc,.slice pa pn pc,.slice ba bn bc] 27 (0,0))):=HK1
    clear a0 a1 a2 a4 HF1 HB1 HK1 hei hk hid HG HG0
    go_wp2_with fail
    go_loopg [0,38] pn (fun k v vi wr=>∃ i:Nat,i<=pn/\k=pn - i/\vi=.int .i64 (i:Int)/\Hid (Buf kk wr B v (mp i))/\Hid (Bw kk B w wr)/\Hid (wr.heap[w.heap.size]?=some (.cells #[.string (bs nm),.slice ia inn ic,.slice ga gn gc,.slice pa pn pc,.slice ba bn bc] 27 (0,0))))
    case atStart=>exact⟨0,by omega,by omega,rfl,HF2,HB2,HK2⟩
    case round =>
     obtain⟨j,hjd,hk2,rfl,HF1,HB1,HK1⟩:=hrel
     clear HF2 HB2 HK2 a3 hltr
     by_cases hlt2:j<pn
     ·have hlt2':(j:Int)<(pn:Int):=by omega
      obtain⟨g,x0,x1,x2,y3,y4,y5,n3,n4,n5,d3,d4,d5,hpa,hgB,hgs,c0,c1,c2,c3,c4,c5,hcall⟩:=HP.out j hlt2
      subst hpa
      have kc0:=(HB1.out.cell (p:=⟨g,j * 6,none⟩) hgB).trans c0
      have kc1:=(HB1.out.cell (p:=⟨g,j * 6+1,none⟩) hgB).trans c1
      have kc2:=(HB1.out.cell (p:=⟨g,j * 6+2,none⟩) hgB).trans c2
      have kc3:=(HB1.out.cell (p:=⟨g,j * 6+3,none⟩) hgB).trans c3
      have kc4:=(HB1.out.cell (p:=⟨g,j * 6+4,none⟩) hgB).trans c4
      have kc5:=(HB1.out.cell (p:=⟨g,j * 6+5,none⟩) hgB).trans c5
      have hlgr:g<wr.heap.size:=by have:=HB1.out.size;omega
      have HCL:=zh hcall
      obtain⟨m,hm⟩:∃ m,m=mp j:=⟨_,rfl⟩
      have hbuf:=HF1.out
      rw[<-hm]at hbuf
      obtain⟨b1,d1,hv⟩:=zt hbuf.1
      subst hv
      have HBUF:Hid (Buf kk wr B (.slice b1 m.length d1) m):=hbuf
      have HMM:=zh hm
      clear hcall c0 c1 c2 c3 c4 c5 hbuf hm HF1
      go_wp2_with fail
      have hal:∀ ob,Below wr.heap.size wr (wr.alloc ob):=fun ob=>zb _ _
      refine(HCL.out _ _ (HB1.out.trans (Bw.of (kk:=kk) (hal _) HBUF.out.2)) (HMM.out ▸ HBUF.out.below (hal _))).mono ?_
      rintro e w3 ⟨v3,rfl,hbuf3,hbel3⟩
      have HB3:Hid (Buf kk w3 B v3 (mp (j+1))):=hbuf3
      have HBW:Hid (Bw kk B w w3):=(HB1.out.trans (Bw.of (kk:=kk) (hal _) HBUF.out.2)).trans hbel3
      have HK3:Hid (w3.heap[w.heap.size]?=some (.cells #[.string (bs nm),.slice ia inn ic,.slice ga gn gc,.slice (some ⟨g,0,none⟩) pn pc,.slice ba bn bc] 27 (0,0))):=hbel3.keeps (((hal _).block w.heap.size (zc HK1.out)).trans HK1.out) (by decide)
      clear hbuf3 hal hbel3
      go_wp2_with fail
      go_roundg (pn - (j+1))
      case measure=>omega
      case rel=>exact⟨j+1,by omega,rfl,by go_num,HB3,HBW,HK3⟩
     ·have hlt2':¬(j:Int)<(pn:Int):=by omega
      have hej:j=pn:=by omega
      obtain⟨a0,a1,a2,a3,a4⟩:=yy HK1.out
      have hltr:=zc HK1.out
      have hbuf:=HF1.out
      rw[hej]at hbuf
      have hc5:=addAll1 hbuf [98,101,103,105,110,10] (by rw[<-HM3.out];exact HL3.out)
      rw[<-HM3.out]at hc5
      have HA5:Hid (Calls Tryz.prog 102 #[u0,.slice (some ⟨wr.heap.size,0,none⟩) 1 1] (wr.alloc (.cells #[.string ⟨#[98,101,103,105,110,10]⟩] 9)) (Wrote kk B wr m3)):=hc5
      clear hc5 hbuf HF1 a0 a1 a2 a3 a4 HP HP0 hej hjd hk2
      go_wp2_with fail
      refine HA5.out.mono ?_
      rintro e w5 ⟨v5,rfl,hbuf5,hbel5⟩
      have HK5:Hid (w5.heap[w.heap.size]?=some (.cells #[.string (bs nm),.slice ia inn ic,.slice ga gn gc,.slice pa pn pc,.slice ba bn bc] 27 (0,0))):=hbel5.keeps HK1.out (by decide)
      have HB5:=zh (HB1.out.trans hbel5)
      obtain⟨s0,s1,s2,s3,s4⟩:=yy HK5.out
      have hlt5:=zc HK5.out
      have HA6:Hid (Calls Tryz.prog 105 #[v5,.slice ba bn bc,.int .i64 1] w5 (Wrote kk B w5 m4)):=HST.out w5 v5 HB5.out hbuf5
      clear hbuf5 hbel5 s0 s1 s2 s3
      go_wp2_with fail
      refine HA6.out.mono ?_
      rintro e w6 ⟨v6,rfl,hbuf6,hbel6⟩
      have HB6:=zh (HB5.out.trans hbel6)
      have hc7:=addAll1 hbuf6 [101,110,100,46,10] (by rw[<-HMF.out];exact HL4.out)
      rw[<-HMF.out]at hc7
      have HA7:Hid (Calls Tryz.prog 102 #[v6,.slice (some ⟨w6.heap.size,0,none⟩) 1 1] (w6.alloc (.cells #[.string ⟨#[101,110,100,46,10]⟩] 9)) (Wrote kk B w6 mf)):=hc7
      clear hc7 hbuf6 hbel6 s4
      go_wp2_with fail
      refine HA7.out.mono ?_
      rintro e w7 ⟨v7,rfl,hbuf7,hbel7⟩
      have HB:Hid (Buf kk w7 B v7 mf):=hbuf7
      have HBB:=zh (HB6.out.trans hbel7)
      clear hbuf7 hbel7
      go_wp2_with fail
      go_ret
      exact⟨_,rfl,HB.out,HBB.out⟩
 ·have h0':(0:Int)<(inn:Int):=by omega
  have HM2:=zh e1
  have HJ3:Hid (Calls Tryz.prog 49 #[.slice ia inn ic,.string ⟨#[44,32]⟩] w1 fun e w'=>e=.returned (.string (bs vj))/\Below w1.heap.size w1 w'):=e2 w1 HB1.out
  clear HI h0 e2 e1
  go_wp2_with fail
  refine HJ3.out.mono ?_
  rintro e wk ⟨rfl,hbelk⟩
  have hc2:=addAllN (HF1.out.below hbelk) [[105,109,112,111,114,116,32],vj,[59,10]] (by simp) (by rw[<-HM2.out];exact HL2.out)
  rw[<-HM2.out]at hc2
  have HA2:Hid (Calls Tryz.prog 102 #[v1,.slice (some ⟨wk.heap.size,0,none⟩) 3 3] (wk.alloc (.cells #[.string ⟨#[105,109,112,111,114,116,32]⟩,.string (bs vj),.string ⟨#[59,10]⟩] 9)) (Wrote kk B wk m2)):=hc2
  have HKK:=zh ((hbelk.block w.heap.size hlt1).trans HK1.out)
  have HBK:=zh (HB1.out.trans (Bw.of (kk:=kk) hbelk HF1.out.2))
  have hltk:=zc HKK.out
  clear hbelk hc2 q1 q2 hlt1 HF1 HB1 HK1 HJ3 HM2 HL2
  go_wp2_with fail
  refine HA2.out.mono ?_
  rintro e wy ⟨vy,rfl,hbufy,hbely⟩
  have HKy:Hid (wy.heap[w.heap.size]?=some (.cells #[.string (bs nm),.slice ia inn ic,.slice ga gn gc,.slice pa pn pc,.slice ba bn bc] 27 (0,0))):=hbely.keeps HKK.out (by decide)
  have HBy:=zh (HBK.out.trans hbely)
  have HFy:=zh hbufy
  clear hbely hbufy HKK HBK HA2 hltk
  obtain⟨a0,a1,a2,a3,a4⟩:=yy HKy.out
  have hlty:=zc HKy.out
  clear a0 a1 a3 a4
  go_wp2_with fail
  generalize decide (0<inn)=bb
  go_loopg [0,27] gn (fun k v vi wr=>∃ i:Nat,i<=gn/\k=gn - i/\vi=.int .i64 (i:Int)/\Hid (Buf kk wr B v (mg i))/\Hid (Bw kk B w wr)/\Hid (wr.heap[w.heap.size]?=some (.cells #[.string (bs nm),.slice ia inn ic,.slice ga gn gc,.slice pa pn pc,.slice ba bn bc] 27 (0,0))))
  case atStart=>exact⟨0,by omega,by omega,rfl,by unfold Hid;rw[HG0.out];exact HFy.out,HBy,HKy⟩
  case round =>
   obtain⟨i,hid,hk,rfl,HF1,HB1,HK1⟩:=hrel
   clear HKy HBy HFy a2 hlty
   by_cases hlt:i<gn
   ·have hlt':(i:Int)<(gn:Int):=by omega
    obtain⟨g,x0,x1,x2,x3,hga,hgB,hgs,c0,c1,c2,c3,hcall⟩:=HG.out i hlt
    subst hga
    have kc0:=(HB1.out.cell (p:=⟨g,i * 4,none⟩) hgB).trans c0
    have kc1:=(HB1.out.cell (p:=⟨g,i * 4+1,none⟩) hgB).trans c1
    have kc2:=(HB1.out.cell (p:=⟨g,i * 4+2,none⟩) hgB).trans c2
    have kc3:=(HB1.out.cell (p:=⟨g,i * 4+3,none⟩) hgB).trans c3
    have hlgr:g<wr.heap.size:=by have:=HB1.out.size;omega
    have HCL:=zh hcall
    obtain⟨m,hm⟩:∃ m,m=mg i:=⟨_,rfl⟩
    have hbuf:=HF1.out
    rw[<-hm]at hbuf
    obtain⟨b1,d1,hv⟩:=zt hbuf.1
    subst hv
    have HBUF:Hid (Buf kk wr B (.slice b1 m.length d1) m):=hbuf
    have HMM:=zh hm
    clear hcall c0 c1 c2 c3 hbuf hm HF1
    go_wp2_with fail
    have hal:∀ ob,Below wr.heap.size wr (wr.alloc ob):=fun ob=>zb _ _
    refine(HCL.out _ _ (HB1.out.trans (Bw.of (kk:=kk) (hal _) HBUF.out.2)) (HMM.out ▸ HBUF.out.below (hal _))).mono ?_
    rintro e w3 ⟨v3,rfl,hbuf3,hbel3⟩
    have HB3:Hid (Buf kk w3 B v3 (mg (i+1))):=hbuf3
    have HBW:Hid (Bw kk B w w3):=(HB1.out.trans (Bw.of (kk:=kk) (hal _) HBUF.out.2)).trans hbel3
    have HK3:Hid (w3.heap[w.heap.size]?=some (.cells #[.string (bs nm),.slice ia inn ic,.slice (some ⟨g,0,none⟩) gn gc,.slice pa pn pc,.slice ba bn bc] 27 (0,0))):=hbel3.keeps (((hal _).block w.heap.size (zc HK1.out)).trans HK1.out) (by decide)
    clear hbuf3 hal hbel3
    go_wp2_with fail
    go_roundg (gn - (i+1))
    case measure=>omega
    case rel=>exact⟨i+1,by omega,rfl,by go_num,HB3,HBW,HK3⟩
   ·have hlt':¬(i:Int)<(gn:Int):=by omega
    have hei:i=gn:=by omega
    obtain⟨a0,a1,a2,a3,a4⟩:=yy HK1.out
    have hltr:=zc HK1.out
    have HF2:Hid (Buf kk wr B u0 (mp 0)):=by unfold Hid;rw[HP0.out,<-hei];exact HF1.out
    have HB2:Hid (Bw kk B w wr):=HB1
    have HK2:Hid (wr.heap[w.heap.size]?=some (.cells #[.string (bs nm),.slice ia inn ic,.slice ga gn gc,.slice pa pn pc,.slice ba bn bc] 27 (0,0))):=HK1
    clear a0 a1 a2 a4 HF1 HB1 HK1 hei hk hid HG HG0
    go_wp2_with fail
    go_loopg [0,38] pn (fun k v vi wr=>∃ i:Nat,i<=pn/\k=pn - i/\vi=.int .i64 (i:Int)/\Hid (Buf kk wr B v (mp i))/\Hid (Bw kk B w wr)/\Hid (wr.heap[w.heap.size]?=some (.cells #[.string (bs nm),.slice ia inn ic,.slice ga gn gc,.slice pa pn pc,.slice ba bn bc] 27 (0,0))))
    case atStart=>exact⟨0,by omega,by omega,rfl,HF2,HB2,HK2⟩
    case round =>
     obtain⟨j,hjd,hk2,rfl,HF1,HB1,HK1⟩:=hrel
     clear HF2 HB2 HK2 a3 hltr
     by_cases hlt2:j<pn
     ·have hlt2':(j:Int)<(pn:Int):=by omega
      obtain⟨g,x0,x1,x2,y3,y4,y5,n3,n4,n5,d3,d4,d5,hpa,hgB,hgs,c0,c1,c2,c3,c4,c5,hcall⟩:=HP.out j hlt2
      subst hpa
      have kc0:=(HB1.out.cell (p:=⟨g,j * 6,none⟩) hgB).trans c0
      have kc1:=(HB1.out.cell (p:=⟨g,j * 6+1,none⟩) hgB).trans c1
      have kc2:=(HB1.out.cell (p:=⟨g,j * 6+2,none⟩) hgB).trans c2
      have kc3:=(HB1.out.cell (p:=⟨g,j * 6+3,none⟩) hgB).trans c3
      have kc4:=(HB1.out.cell (p:=⟨g,j * 6+4,none⟩) hgB).trans c4
      have kc5:=(HB1.out.cell (p:=⟨g,j * 6+5,none⟩) hgB).trans c5
      have hlgr:g<wr.heap.size:=by have:=HB1.out.size;omega
      have HCL:=zh hcall
      obtain⟨m,hm⟩:∃ m,m=mp j:=⟨_,rfl⟩
      have hbuf:=HF1.out
      rw[<-hm]at hbuf
      obtain⟨b1,d1,hv⟩:=zt hbuf.1
      subst hv
      have HBUF:Hid (Buf kk wr B (.slice b1 m.length d1) m):=hbuf
      have HMM:=zh hm
      clear hcall c0 c1 c2 c3 c4 c5 hbuf hm HF1
      go_wp2_with fail
      have hal:∀ ob,Below wr.heap.size wr (wr.alloc ob):=fun ob=>zb _ _
      refine(HCL.out _ _ (HB1.out.trans (Bw.of (kk:=kk) (hal _) HBUF.out.2)) (HMM.out ▸ HBUF.out.below (hal _))).mono ?_
      rintro e w3 ⟨v3,rfl,hbuf3,hbel3⟩
      have HB3:Hid (Buf kk w3 B v3 (mp (j+1))):=hbuf3
      have HBW:Hid (Bw kk B w w3):=(HB1.out.trans (Bw.of (kk:=kk) (hal _) HBUF.out.2)).trans hbel3
      have HK3:Hid (w3.heap[w.heap.size]?=some (.cells #[.string (bs nm),.slice ia inn ic,.slice ga gn gc,.slice (some ⟨g,0,none⟩) pn pc,.slice ba bn bc] 27 (0,0))):=hbel3.keeps (((hal _).block w.heap.size (zc HK1.out)).trans HK1.out) (by decide)
      clear hbuf3 hal hbel3
      go_wp2_with fail
      go_roundg (pn - (j+1))
      case measure=>omega
      case rel=>exact⟨j+1,by omega,rfl,by go_num,HB3,HBW,HK3⟩
     ·have hlt2':¬(j:Int)<(pn:Int):=by omega
      have hej:j=pn:=by omega
      obtain⟨a0,a1,a2,a3,a4⟩:=yy HK1.out
      have hltr:=zc HK1.out
      have hbuf:=HF1.out
      rw[hej]at hbuf
      have hc5:=addAll1 hbuf [98,101,103,105,110,10] (by rw[<-HM3.out];exact HL3.out)
      rw[<-HM3.out]at hc5
      have HA5:Hid (Calls Tryz.prog 102 #[u0,.slice (some ⟨wr.heap.size,0,none⟩) 1 1] (wr.alloc (.cells #[.string ⟨#[98,101,103,105,110,10]⟩] 9)) (Wrote kk B wr m3)):=hc5
      clear hc5 hbuf HF1 a0 a1 a2 a3 a4 HP HP0 hej hjd hk2
      go_wp2_with fail
      refine HA5.out.mono ?_
      rintro e w5 ⟨v5,rfl,hbuf5,hbel5⟩
      have HK5:Hid (w5.heap[w.heap.size]?=some (.cells #[.string (bs nm),.slice ia inn ic,.slice ga gn gc,.slice pa pn pc,.slice ba bn bc] 27 (0,0))):=hbel5.keeps HK1.out (by decide)
      have HB5:=zh (HB1.out.trans hbel5)
      obtain⟨s0,s1,s2,s3,s4⟩:=yy HK5.out
      have hlt5:=zc HK5.out
      have HA6:Hid (Calls Tryz.prog 105 #[v5,.slice ba bn bc,.int .i64 1] w5 (Wrote kk B w5 m4)):=HST.out w5 v5 HB5.out hbuf5
      clear hbuf5 hbel5 s0 s1 s2 s3
      go_wp2_with fail
      refine HA6.out.mono ?_
      rintro e w6 ⟨v6,rfl,hbuf6,hbel6⟩
      have HB6:=zh (HB5.out.trans hbel6)
      have hc7:=addAll1 hbuf6 [101,110,100,46,10] (by rw[<-HMF.out];exact HL4.out)
      rw[<-HMF.out]at hc7
      have HA7:Hid (Calls Tryz.prog 102 #[v6,.slice (some ⟨w6.heap.size,0,none⟩) 1 1] (w6.alloc (.cells #[.string ⟨#[101,110,100,46,10]⟩] 9)) (Wrote kk B w6 mf)):=hc7
      clear hc7 hbuf6 hbel6 s4
      go_wp2_with fail
      refine HA7.out.mono ?_
      rintro e w7 ⟨v7,rfl,hbuf7,hbel7⟩
      have HB:Hid (Buf kk w7 B v7 mf):=hbuf7
      have HBB:=zh (HB6.out.trans hbel7)
      clear hbuf7 hbel7
      go_wp2_with fail
      go_ret
      exact⟨_,rfl,HB.out,HBB.out⟩
end Go.Proofs.YthnoedjbhbkdeaaGreatDoor
namespace Go.Proofs.YthnoedjbhbkdeaaGreatDoor
open Go.RowKit
variable {kk:Nat->Prop}
open Tp (X S G Pr)
theorem gcs_get:∀(l:List G) (i:Nat) (h:i<l.length) (j:Nat),j<4->(gcs l)[i * 4+j]?=(gcells (bs l[i].name) (l[i].pos:Int) (l[i].len:Int) l[i].seen).toList[j]?:=by
 intro l
 induction l with
 | nil=>intro i h;simp at h
 | cons g l ih =>
  intro i h j hj
  have e:gcs (g :: l)=(gcells (bs g.name) (g.pos:Int) (g.len:Int) g.seen).toList++gcs l:=rfl
  rw[e]
  cases i with
  | zero=>rw[Nat.zero_mul,Nat.zero_add,List.getElem?_append_left (by simpa[gcells] using hj)];rfl
  | succ i =>
   rw[List.getElem?_append_right (by simp[gcells];omega)]
   have:(i+1) * 4+j - (gcells (bs g.name) (g.pos:Int) (g.len:Int) g.seen).toList.length=i * 4+j:=by simp[gcells];omega
   rw[this,ih i (by simpa using h) j hj]
   rfl
theorem repp_get {w:World}{D:Nat->Prop}:∀(l:List Pr) (cs:List Value),RepP w D l cs->∀(i:Nat) (h:i<l.length),∃(pv vv bv:Value) (bcs:List Value),
  (∀ j,j<6->cs[i * 6+j]?=(pcells (bs l[i].name) (l[i].pos:Int) l[i].seen pv vv bv).toList[j]?)/\Row w D 9 1 pv l[i].params.length (strs l[i].params)/\Row w D 9 1 vv l[i].vars.length (strs l[i].vars)/\RepS w D l[i].body bcs/\OwnS w D bv l[i].body.length bcs:=by
 intro l
 induction l with
 | nil=>intro cs _ i h;simp at h
 | cons c l ih =>
  intro cs hr i h
  obtain⟨pv,vv,bv,bcs,cs',h1,h2,h3,h4,h5,h6⟩:=hr
  subst h1
  cases i with
  | zero =>
   refine⟨pv,vv,bv,bcs,fun j hj=>?_,h2,h3,h4,h5⟩
   rw[Nat.zero_mul,Nat.zero_add,List.getElem?_append_left (by simpa[pcells] using hj)]
   rfl
  | succ i =>
   obtain⟨pv',vv',bv',bcs',q1,q2⟩:=ih cs' h6 i (by simpa using h)
   refine⟨pv',vv',bv',bcs',fun j hj=>?_,q2⟩
   rw[List.getElem?_append_right (by simp[pcells];omega)]
   have:(i+1) * 6+j - (pcells (bs c.name) (c.pos:Int) c.seen pv vv bv).toList.length=i * 6+j:=by simp[pcells];omega
   rw[this,q1 j hj]
   rfl
theorem ju {w:World}{D:Nat->Prop}{e size n:Nat}{v:Value}{cs:List Value}(h:Row w D e size v n cs) (hn:0<n):∃ g cap,v=.slice (some ⟨g,0,none⟩) n cap/\D g/\g<w.heap.size/\∀ k,k<n * size->w.cell? ⟨g,k,none⟩=cs[k]?:=by
 rcases h with⟨_,h2,_⟩|⟨g,cap,cur,h1,h2,h3,h4,h5,h6,h7⟩
 ·omega
 ·refine⟨g,cap,h1,h2,zc h3,fun k hk=>?_⟩
  rw[za h3,<-Array.getElem?_toList,<-h7,List.getElem?_take_of_lt hk]
theorem yB {α:Type}(f:α->List (List UInt8)) (l:List α) (i:Nat) (h:i<l.length):((l.take (i+1)).map f).flatten.flatten=((l.take i).map f).flatten.flatten++(f l[i]).flatten:=by
 rw[List.take_succ_eq_append_getElem h,List.map_append,List.flatten_append,List.flatten_append]
 simp
theorem yO {α:Type}(f:α->List (List UInt8)) (l:List α) (i:Nat):((l.take i).map f).flatten.flatten.length<=(l.map f).flatten.flatten.length:=by
 conv=>rhs;rw[<-List.take_append_drop i l,List.map_append,List.flatten_append,List.flatten_append,List.length_append]
 omega
structure MB (w:World) (B:Nat) (m:Tp.M) (ia ga pa ba:Option Addr) (ic gc pc bc:Nat):Prop where
 im:Row w (fun i=>i<B) 9 1 (.slice ia m.imports.length ic) m.imports.length (strs m.imports)
 gl:Row w (fun i=>i<B) 71 4 (.slice ga m.vars.length gc) m.vars.length (gcs m.vars)
 pr:∃ pcs,RepP w (fun i=>i<B) m.procs pcs/\Row w (fun i=>i<B) 74 6 (.slice pa m.procs.length pc) m.procs.length pcs
 bd:∃ bcs,RepS w (fun i=>i<B) m.body bcs/\OwnS w (fun i=>i<B) (.slice ba m.body.length bc) m.body.length bcs
theorem VM.mb {B:Nat}{m:Tp.M}{v:Value}{w:World}(h:VM B m v w):∃ ia ga pa ba ic gc pc bc,v=.agg (mcells (bs m.name) (.slice ia m.imports.length ic) (.slice ga m.vars.length gc) (.slice pa m.procs.length pc) (.slice ba m.body.length bc))/\MB w w.heap.size m ia ga pa ba ic gc pc bc:=by
 obtain⟨ia,ga,pa,ba,ic,gc,pc,bc,pcs,bcs,h1,h2,h3,h4,h5,h6,h7⟩:=h
 refine⟨ia,ga,pa,ba,ic,gc,pc,bc,h1,⟨h2.mono fun _ _ hl=>⟨rfl,hl⟩,h3.mono fun _ _ hl=>⟨rfl,hl⟩,⟨pcs,h4.mono (fun _ _ hl=>⟨rfl,hl⟩) _ _,h5.mono fun _ _ hl=>⟨rfl,hl⟩⟩,⟨bcs,h6.mono' fun _ _ hl=>⟨rfl,hl⟩,h7.mono fun _ _ hl=>⟨rfl,hl⟩⟩⟩⟩
theorem MB.on {w w':World}{B:Nat}{m:Tp.M}{ia ga pa ba:Option Addr}{ic gc pc bc:Nat}(h:MB w B m ia ga pa ba ic gc pc bc) (k:Below B w w'):MB w' B m ia ga pa ba ic gc pc bc:=by
 have hk:∀ b,b<B->b<w.heap.size->w'.heap[b]?=w.heap[b]?/\b<B:=fun b hi _=>⟨k.block b hi,hi⟩
 obtain⟨pcs,p1,p2⟩:=h.pr
 obtain⟨bcs,b1,b2⟩:=h.bd
 exact⟨h.im.mono hk,h.gl.mono hk,⟨pcs,p1.mono hk _ _,p2.mono hk⟩,⟨bcs,b1.mono' hk,b2.mono hk⟩⟩
theorem jW {m:Tp.M}(hm:Tp.WM m) {w:World}{B:Nat}{v:Value}{l:List UInt8}{ia ga pa ba:Option Addr}{ic gc pc bc:Nat}(h:MB w B m ia ga pa ba ic gc pc bc) (hb:Buf kk w B v l) (hr:Wr B w) (hl:(l++(Tp.pm m).flatten).length<=1000000000) :
  Calls Tryz.prog 48 #[v,.agg (mcells (bs m.name) (.slice ia m.imports.length ic) (.slice ga m.vars.length gc) (.slice pa m.procs.length pc) (.slice ba m.body.length bc))] w (Wrote kk B w (l++(Tp.pm m).flatten)):=by
 obtain⟨nm,is,gs,ps,body⟩:=m
 obtain⟨pcs,p1,p2⟩:=h.pr
 obtain⟨bcs,b1,b2⟩:=h.bd
 have hgl:=h.gl
 have him:=h.im
 simp only at hgl him p1 p2 b1 b2
 obtain⟨m1,hm1⟩:∃ m1,m1=l++([[109,111,100,117,108,101,32],nm,[59,10]]:List (List UInt8)).flatten:=⟨_,rfl⟩
 obtain⟨m2,hm2⟩:∃ m2,m2=m1++(if is=[] then [] else [105,109,112,111,114,116,32]++(Tp.pnames is).flatten++[59,10]):=⟨_,rfl⟩
 obtain⟨mg,hmg⟩:∃ mg:Nat->List UInt8,mg=fun i=>m2++((gs.take i).map Tp.pg).flatten.flatten:=⟨_,rfl⟩
 obtain⟨mp,hmp⟩:∃ mp:Nat->List UInt8,mp=fun i=>mg gs.length++((ps.take i).map Tp.pp).flatten.flatten:=⟨_,rfl⟩
 obtain⟨m3,hm3⟩:∃ m3,m3=mp ps.length++[98,101,103,105,110,10]:=⟨_,rfl⟩
 obtain⟨m4,hm4⟩:∃ m4,m4=m3++(Tp.psts body 1).flatten:=⟨_,rfl⟩
 obtain⟨mf,hmf⟩:∃ mf,mf=m4++[101,110,100,46,10]:=⟨_,rfl⟩
 have hgn:mg gs.length=m2++(gs.map Tp.pg).flatten.flatten:=by rw[hmg];simp
 have hpn:mp ps.length=mg gs.length++(ps.map Tp.pp).flatten.flatten:=by rw[hmp];simp
 have e1:l++(Tp.pm ⟨nm,is,gs,ps,body⟩).flatten=mf:=by
  rw[hmf,hm4,hm3,hpn,hgn,hm2,hm1]
  unfold Tp.pm
  by_cases hi:is=[] <;> simp[hi,Tp.wModule,Tp.sp,Tp.mSemi,Tp.nl,Tp.wImport,Tp.wBegin,Tp.wEnd,Tp.mDot]
 rw[e1]at hl ⊢
 have g1:m1.length<=m2.length:=by rw[hm2];simp
 have g2:∀ i,(mg i).length<=(mg gs.length).length:=by
  intro i;rw[hgn,hmg];simp only [List.length_append];have:=yO Tp.pg gs i;omega
 have g2':m2.length<=(mg gs.length).length:=by rw[hgn];simp
 have g3:∀ i,(mp i).length<=(mp ps.length).length:=by
  intro i;rw[hpn,hmp];simp only [List.length_append];have:=yO Tp.pp ps i;omega
 have g3':(mg gs.length).length<=(mp ps.length).length:=by rw[hpn];simp
 have g4:(mp ps.length).length<=m3.length:=by rw[hm3];simp
 have g5:m3.length<=m4.length:=by rw[hm4];simp
 have g6:m4.length<=mf.length:=by rw[hmf];simp
 have hgc:=hm.gc
 have hpc:=hm.pc
 have hic:=hm.ic
 simp only at hgc hpc hic
 have hg0:mg 0=m2:=by rw[hmg];simp
 have hp0:mp 0=mg gs.length:=by rw[hmp];simp
 refine jV (mg:=mg) (mp:=mp) (m1:=m1) (m2:=m2) (inn:=is.length) (gn:=gs.length) (pn:=ps.length) (bn:=body.length) hb hm1 ?_ hg0 ?_ hp0 ?_ hm3 ?_ hmf (by omega) (by omega) (by omega) hl (by omega) (by omega) (by omega)
 ·by_cases hi:is=[]
  ·subst hi;exact Or.inl ⟨rfl,by rw[hm2];simp⟩
  ·refine Or.inr ⟨List.length_pos_iff.2 hi,(Tp.pnames is).flatten,by rw[hm2,if_neg hi];simp,fun W hW=>yL (xX him hW.toBelow) ?_ (by omega)⟩
   have h2:m2.length<=1000000000:=by omega
   rw[hm2,if_neg hi]at h2
   simp only [List.length_append]at h2
   omega
 ·intro i hi
  obtain⟨g,cap,q1,q2,q3,q4⟩:=ju hgl (by omega)
  cases q1
  have hc:=fun j (hj:j<4)=>(q4 (i * 4+j) (by omega)).trans (gcs_get gs i hi j hj)
  refine⟨g,gs[i].name,gs[i].pos,gs[i].len,gs[i].seen,rfl,q2,q3,hc 0 (by omega),hc 1 (by omega),hc 2 (by omega),hc 3 (by omega),?_⟩
  intro W v' hW hB
  have e:mg (i+1)=mg i++(Tp.pg gs[i]).flatten:=by rw[hmg];simp only [yB Tp.pg gs i hi,List.append_assoc]
  rw[e]
  exact jX gs[i] (hm.g _ (List.getElem_mem hi)).l hB (by rw[<-e];have:=g2 (i+1);omega)
 ·intro i hi
  obtain⟨g,cap,q1,q2,q3,q4⟩:=ju p2 (by omega)
  cases q1
  obtain⟨pv,vv,bv,bcs',r1,r2,r3,r4,r5⟩:=repp_get ps pcs p1 i hi
  have hc:=fun j (hj:j<6)=>(q4 (i * 6+j) (by omega)).trans (r1 j hj)
  obtain⟨y3,c3,rfl⟩:=r2.shape
  obtain⟨y4,c4,rfl⟩:=r3.shape
  obtain⟨y5,c5,rfl⟩:=r5.shape
  refine⟨g,ps[i].name,ps[i].pos,ps[i].seen,y3,y4,y5,ps[i].params.length,ps[i].vars.length,ps[i].body.length,c3,c4,c5,rfl,q2,q3,hc 0 (by omega),hc 1 (by omega),hc 2 (by omega),hc 3 (by omega),hc 4 (by omega),hc 5 (by omega),?_⟩
  intro W v' hW hB
  have e:mp (i+1)=mp i++(Tp.pp ps[i]).flatten:=by rw[hmp];simp only [yB Tp.pp ps i hi,List.append_assoc]
  have hwp:=hm.p _ (List.getElem_mem hi)
  have hwc:=hwp.c
  have hwd:=hwp.d
  rw[e]
  exact vN ps[i] hwp.b (by omega) (by omega) (by omega) (xX r2 hW.toBelow) (xX r3 hW.toBelow) (yS r4 hW) (yU r5 hW) hB (hr.on hW) (by rw[<-e];have:=g3 (i+1);omega)
 ·intro W v' hW hB
  have hwd:=hm.d
  have hwb:=hm.b
  simp only at hwd hwb
  have:=js (d:=1) hwb (yS b1 hW) (yU b2 hW) hB (hr.on hW) (by omega) (by rw[<-hm4];omega)
  rw[<-hm4]at this
  exact this
end Go.Proofs.YthnoedjbhbkdeaaGreatDoor
namespace Go.Proofs.YthnoedjbhbkdeaaGreatDoor
open Go.RowKit
theorem conv_buf {kk:Nat->Prop}{w:World}{B:Nat}{v:Value}{l:List UInt8}(h:Buf kk w B v l):(convert 88 9 v).run Tryz.prog w=.ok (.string (bs l)) w:=by
 rcases h.own.2 with⟨rfl,h2⟩|⟨g,cap,cur,rfl,h2,h3,h4,h5,h6,h7⟩
 ·have e:l=[]:=List.eq_nil_of_length_eq_zero h2
  subst e
  rw[run_convert_bytes_string w 88 9 5 none 0 0 Tryz.underlying88 Tryz.underlying5 Tryz.underlying9]
  rfl
 ·refine run_convert_bytes_back w 88 9 5 ⟨g,0,none⟩ cap l Tryz.underlying88 Tryz.underlying5 Tryz.underlying9 (fun j hj=>?_)
  have:=h.own.cells (g:=g) rfl j (.int .u8 (l[j].toNat:Int)) (by rw[u8s,List.getElem?_map,List.getElem?_eq_getElem hj];rfl)
  simpa using this
theorem print_post {m:Tp.M}(hm:Tp.WM m) {w:World}{ia ga pa ba:Option Addr}{ic gc pc bc:Nat}(h:MB w w.heap.size m ia ga pa ba ic gc pc bc) (hr:Wr w.heap.size w) (hl:(Tp.print m).length<=1000000000) :
  Calls Tryz.prog 10 #[.agg (mcells (bs m.name) (.slice ia m.imports.length ic) (.slice ga m.vars.length gc) (.slice pa m.procs.length pc) (.slice ba m.body.length bc))] w fun e w'=>e=.returned (.string (bs (Tp.print m)))/\Below w.heap.size w w':=by
 have hal:∀ ob,Below w.heap.size w (w.alloc ob):=fun ob=>zb _ _
 have hbw:∀ ob,Bw (fun _=>False) w.heap.size w (w.alloc ob):=fun ob=>Bw.of (hal ob) zn
 have hc:∀ ob,Calls Tryz.prog 48 #[.slice none 0 0,.agg (mcells (bs m.name) (.slice ia m.imports.length ic) (.slice ga m.vars.length gc) (.slice pa m.procs.length pc) (.slice ba m.body.length bc))] (w.alloc ob) (Wrote (fun _=>False) w.heap.size (w.alloc ob) (Tp.print m)):=fun ob =>
  jW hm (h.on (hal ob)) (Buf.nil _ _ (by simp) (fun k hk=>hk.elim)) (hr.on (hbw ob)) hl
 have HC:=zh hc
 have HAL:=zh hal
 generalize m.name=nm at *
 generalize m.imports.length=n1 at *
 generalize m.vars.length=n2 at *
 generalize m.procs.length=n3 at *
 generalize m.body.length=n4 at *
 generalize Tp.print m=pt at *
 clear hc hbw hal hr h hm
 unfold mcells at HC ⊢
 go_enter Tryz.func10,Tryz.ntmps10
 go_wp2_with fail
 refine(HC.out _).mono ?_
 rintro e w2 ⟨v2,rfl,hbuf2,hbel2⟩
 have hcv:=conv_buf hbuf2
 have HB:=zh ((HAL.out _).trans hbel2.toBelow)
 clear hbuf2 hbel2
 go_wp2_with fail
 go_ret
 exact⟨rfl,HB.out⟩
end Go.Proofs.YthnoedjbhbkdeaaGreatDoor
