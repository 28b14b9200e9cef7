import Derived.Test.YthnoedjbhbkdeaaGreatDoorKXd
import Derived.Test.YthnoedjbhbkdeaaGreatDoorKWf
set_option maxRecDepth 100000
set_option maxHeartbeats 4000000
namespace Go.Proofs.YthnoedjbhbkdeaaGreatDoor
open Go.RowKit
open Tp (Tok hd tx at' stp X)
open Nr (Fl fine Sx tk tkS fl mu nm nu nms nex naft)
theorem RefPost.r {q:Rp}{ts:List Tok}{w:World}{pos:Nat}{y:List X× Sx}{e:Ending}{w':World}(h:RefPost q ts w pos y e w'):RPost q ts w y e w':=by
 obtain⟨b,code,m,n,la,aa,an,ac,left,args,h1,h2,h3,h4,h5,h6,h7,h8⟩:=h
 exact⟨_,h1,h6,h7,h8⟩
theorem nex5 (g ones:Nat) (r:List Tok):nex (g+1) 5 ones 0 [] (r,fine)=if 10<ones then some ([],(r,((4:Int),(at' r:Int))))
  else if (hd r).kind=2 then some ([⟨1,at' r,(nu Tp.top (r,fine)).1,[],[],[],[],[],[]⟩],(nu Tp.top (r,fine)).2)
  else if tx r=Tp.mMinus then (nex g 5 (ones+1) 0 [] (stp r,fine)).map fun y=>([⟨4,at' r,0,[],[],Tp.mMinus,y.1,[],[]⟩],y.2)
  else if tx r=Tp.wNot then (nex g 5 (ones+1) 0 [] (stp r,fine)).map fun y=>([⟨4,at' r,0,[],[],Tp.wNot,y.1,[],[]⟩],y.2)
  else if tx r=Tp.mLp then (nex g 0 (ones+1) 0 [] (stp r,fine)).map fun y=>(y.1,mu Tp.mRp y.2)
  else nex g 6 ones 0 [] (r,fine):=by
 rw[nex];simp[fl]
theorem j4 {α β:Type}{N:Option α}{F:α->β}{y:β}(h:N.map F=some y):∃ z,N=some z/\y=F z:=by
 cases N with
 | none=>cases h
 | some z=>exact⟨z,rfl,(Option.some.inj h).symm⟩
theorem kx (p:Nat):¬(((4:Int),(p:Int)):Fl)=fine:=Nr.flt_ne (4,p)
theorem rone_deep {q:Rp}{ts:List Tok}{w:World}{r:List Tok}{ones:Nat}(h:RS w q ts r fine) (ho:ones<=11) (hd10:10<ones) :
  Calls Tryz.prog 235 #[.pointer (some ⟨q.rb,0,none⟩),.int .i64 (ones:Int)] w fun e w'=>RPost q ts w ([],(r,((4:Int),(at' r:Int)))) e w':=by
 go_enter Tryz.func235,Tryz.ntmps235
 go_wp2_with fail
 refine(zR h 4).mono ?_
 rintro e w1 ⟨rfl,h1,hx1⟩
 rw[if_pos rfl]at h1
 have h1:RS w1 q ts r ((4:Int),(at' r:Int)):=h1
 go_wp2_with fail
 refine(jI h1 (kx _)).mono ?_
 rintro e w2 ⟨rfl,hb2⟩
 go_wp2_with fail
 exact bodyPost_ret (v:=.pointer none) (by simp[results,Tryz.results235,go_sem]) rfl ⟨none,rfl,fun hf=>absurd hf (kx _),h1.below hb2,hx1.trans (Ext.below hb2)⟩
theorem rone_post {q:Rp}{ts:List Tok}{g:Nat}(hL:LevR q ts g) (hO:OneR q ts g) (hR:RefR q ts g):OneR q ts (g+1):=by
 intro w r ones y h ho hy
 rw[nex5]at hy
 by_cases hd10:10<ones
 ·rw[if_pos hd10]at hy
  obtain rfl:=Option.some.inj hy
  exact rone_deep h ho hd10
 rw[if_neg hd10]at hy
 have hpl:=zg h.c0
 have HWR:Hid (IntKind.i64.wrap ((ones:Int)+1)=(ones:Int)+1):=by show _=_;unfold IntKind.wrap;simp[IntKind.bits,IntKind.signed];omega
 have HL:Hid (∀ W r' z,RS W q ts r' fine->nex g 0 (ones+1) 0 [] (r',fine)=some z->Calls Tryz.prog 198 #[.pointer (some ⟨q.rb,0,none⟩),.int .i64 0,.int .i64 ((ones:Int)+1)] W fun e w'=>RPost q ts W z e w') :=
  fun W r' z hW hz=>hL W r' 0 (ones+1) z hW (by omega) (by omega) hz
 have HO:Hid (∀ W r' z,RS W q ts r' fine->nex g 5 (ones+1) 0 [] (r',fine)=some z->Calls Tryz.prog 235 #[.pointer (some ⟨q.rb,0,none⟩),.int .i64 (IntKind.i64.wrap ((ones:Int)+1))] W fun e w'=>RPost q ts W z e w') :=
  fun W r' z hW hz=>by rw[HWR.out];exact hO W r' (ones+1) z hW (by omega) hz
 have HR:Hid (∀ W z,RS W q ts r fine->nex g 6 ones 0 [] (r,fine)=some z->Calls Tryz.prog 139 #[.pointer (some ⟨q.rb,0,none⟩),.int .i64 (ones:Int)] W fun e w'=>RPost q ts W z e w') :=
  fun W z hW hz=>(hR W r ones z hW (by omega) hz).mono fun _ _ h=>h.r
 clear hL hO hR
 obtain⟨h1,h2,h3,h4⟩:=h.hd
 have hmem:hd r∈ts:=List.mem_of_getElem? h1
 have hdg:=h.dig _ hmem
 have hneq:∀ m:List UInt8,(∃ c l,m=c :: l/\Tp.digit c=false)->tx r=m->¬(hd r).kind=2:=fun m hm e hk=>by
  obtain⟨c,l,rfl,hc⟩:=hm
  have:=(hdg hk).2 c (by simp only [tx]at e;rw[e];simp)
  rw[hc]at this;cases this
 have HNE:=zh hneq
 obtain⟨i,hi⟩:∃ i,i=(ts.length - r.length) * 3:=⟨_,rfl⟩
 obtain⟨n,hn⟩:∃ n,n=r.length:=⟨_,rfl⟩
 obtain⟨c,hc⟩:∃ c,c=q.cap - (ts.length - r.length):=⟨_,rfl⟩
 have HC0:Hid (∀ W,RS W q ts r fine->W.cell? ⟨q.rb,0,none⟩=some (.slice (some ⟨q.tb,i,none⟩) n c)/\W.cell? ⟨q.tb,i,none⟩=some (.int .i64 (kd (hd r)))/\W.cell? ⟨q.tb,i+1,none⟩=some (.string (bs (tx r)))/\W.cell? ⟨q.tb,i+2,none⟩=some (.int .i64 (at' r:Int))):=fun W hW=>by
  rw[hi,hn,hc];exact⟨hW.c0,(hW.toks _ _ h1).c0,(hW.toks _ _ h1).c1,(hW.toks _ _ h1).c2⟩
 have hn0:(0:Int)<n:=by omega
 have hk2:kd (hd r)=2↔(hd r).kind=2:=by unfold kd;split <;> omega
 have HK2:=zh hk2
 have hd10':¬(10:Int)<(ones:Int):=by omega
 clear hi hn hc h1 h2 h3 h4 hneq hdg hmem hd10
 obtain⟨kk,hkk⟩:∃ kk,kk=kd (hd r):=⟨_,rfl⟩
 obtain⟨pos,hpos⟩:∃ pos,pos=at' r:=⟨_,rfl⟩
 rw[<-hkk,<-hpos]at HC0
 rw[<-hkk]at hk2
 have HKK:=zh hk2
 have HPO:=zh hpos
 have HY:=zh hy
 clear hkk hpos hk2 HK2 hy
 have hix0:∀ W:World,(Instr.index 306 (.agg #[.string ⟨#[45]⟩,.string ⟨#[110,111,116]⟩]) (.int .i64 0)).run Tryz.prog W=.ok (.string ⟨#[45]⟩) W:=fun W=>by kernel_rfl
 have hix1:∀ W:World,(Instr.index 306 (.agg #[.string ⟨#[45]⟩,.string ⟨#[110,111,116]⟩]) (.int .i64 1)).run Tryz.prog W=.ok (.string ⟨#[110,111,116]⟩) W:=fun W=>by kernel_rfl
 go_enter Tryz.func235,Tryz.ntmps235
 go_wp2_with fail
 refine(kR h).mono ?_
 rintro e w1 ⟨rfl,hb1⟩
 have hst1:=h.below hb1
 obtain⟨d0,d1,d2,d3⟩:=HC0.out w1 hst1
 have b0:Below w1.heap.size w1 (w1.alloc (Obj.cells #[.int .i64 kk,.string (bs (tx r)),.int .i64 (pos:Int)] 69)):=zb _ _
 have k0:=zq w1 (Obj.cells #[.int .i64 kk,.string (bs (tx r)),.int .i64 (pos:Int)] 69)
 obtain⟨tb,htb⟩:∃ tb,tb=w1.heap.size:=⟨_,rfl⟩
 go_wp2_with fail
 have hst2:=hst1.below b0
 have hx2:Ext q.rb w (w1.alloc (Obj.cells #[.int .i64 kk,.string (bs (tx r)),.int .i64 (pos:Int)] 69)):=(Ext.below hb1).trans (Ext.below b0)
 generalize w1.alloc (Obj.cells #[.int .i64 kk,.string (bs (tx r)),.int .i64 (pos:Int)] 69)=w2 at *
 have hsz1:=hb1.size
 rw[<-htb]at k0 ⊢
 have hqt:q.rb<tb:=by omega
 have hwt:w.heap.size<=tb:=by omega
 clear d0 d1 d2 d3 hst1 hb1 b0 htb h hsz1
 go_loopg [23] 2 (fun k vi wr=>∃ j:Nat,j<=2/\k=2 - j/\vi=.int .i64 (j:Int)/\RS wr q ts r fine/\Hid (wr.heap[tb]?=some (.cells #[.int .i64 kk,.string (bs (tx r)),.int .i64 (pos:Int)] 69 (0,0)))/\Hid (Ext q.rb w wr)/\Hid (0<j->¬tx r=Tp.mMinus)/\Hid (1<j->¬tx r=Tp.wNot))
 case atStart=>exact⟨0,by omega,rfl,rfl,hst2,k0,hx2,fun h=>absurd h (by omega),fun h=>absurd h (by omega)⟩
 case round =>
  obtain⟨j,hj2,hjk,rfl,hst,HK,HX,HM,HN⟩:=hrel
  clear hst2 k0 hx2
  match j,hj2 with
  | 0,_ =>
   go_wp2_with fail
   refine(zQ (s:=(r,fine)) hst Tp.mMinus (by decide) _ rfl).mono ?_
   rintro e w4 ⟨rfl,hst4,hx4⟩
   have HK4:=zh ((hx4.block tb (zc HK.out) (by omega)).trans HK.out)
   have HX4:=zh (HX.out.trans hx4)
   clear hst hx4 HK HX
   cases htk:tk Tp.mMinus (r,fine) with
   | false =>
    rw[zK htk]at hst4
    have hnt:¬tx r=Tp.mMinus:=fun e=>of_decide_eq_false htk ⟨rfl,e⟩
    have HNT:=zh hnt
    clear htk hnt
    go_wp2_with fail
    go_roundg 1
    case measure=>omega
    case rel=>exact⟨1,by omega,rfl,rfl,hst4,HK4,HX4,fun _=>HNT.out,fun h=>absurd h (by omega)⟩
   | true =>
    obtain⟨_,htx,hts⟩:=zM htk
    rw[hts]at hst4
    have htx:tx r=Tp.mMinus:=htx
    have hk2:¬(hd r).kind=2:=HNE.out Tp.mMinus ⟨_,_,rfl,by decide⟩ htx
    have hy:=HY.out
    rw[if_neg hk2,if_pos htx]at hy
    obtain⟨z,hz,hyz⟩:=j4 hy
    have hrx:RS w4 q ts (stp r) fine:=hst4
    have HC:=zh (HO.out w4.drew (stp r) z (hrx.below (zo w4)) hz)
    have HYZ:=zh hyz
    have hsz4:=HX4.out.size
    have htl4:=zc HK4.out
    have k2:w4.cell? ⟨tb,2,none⟩=some (.int .i64 (pos:Int)):=za HK4.out
    clear hy hz hyz hst4 hk2 htx hts htk HM HN
    go_wp2_with fail
    go_region_law (refine zY rfl ?_;go_simp;go_at_call 235;refine HC.out.mono ?_;rintro e w5 ⟨p5,rfl,hv5,hst5,hx5⟩;have HX5:=zh ((HX4.out.trans (Ext.below (zo w4))).trans hx5);have k5:w5.cell? ⟨tb,2,none⟩=some (.int .i64 (pos:Int)):=((((Ext.below (b:=q.rb) (zo w4)).trans hx5).cell k2 (by simp;omega)):_))
    all_goals
     have hsz5:=HX5.out.size
     have HV5:=zh hv5
     have HS5:=zh hst5
     have hal:Below w5.heap.size w5 (w5.alloc (.cells (xcells 4 pos 0 ⟨#[]⟩ ⟨#[]⟩ ⟨#[45]⟩ (.pointer p5) (.pointer none) (.slice none 0 0)) 111)):=zb _ _
     have HF:Hid (RPost q ts w y (.returned (.pointer (some ⟨w5.heap.size,0,none⟩))) (w5.alloc (.cells (xcells 4 pos 0 ⟨#[]⟩ ⟨#[]⟩ ⟨#[45]⟩ (.pointer p5) (.pointer none) (.slice none 0 0)) 111))):=by
      rw[HYZ.out,<-HPO.out]
      refine⟨_,rfl,fun hf=>?_,HS5.out.below hal,HX5.out.trans (Ext.below hal)⟩
      exact VX.node (op:=Tp.mMinus) hsz5 (zq w5 _) (Or.inr ((VX.ext (b:=q.rb) (Ext.below hal) (by simp;omega) (HV5.out hf)).base (by simp;omega))) (Or.inl ⟨rfl,rfl⟩) (Or.inl ⟨rfl,rfl⟩)
     clear hv5 hst5 hx5 hal
     go_wp2_with fail
     exact bodyPost_ret (v:=.pointer (some ⟨w5.heap.size,0,none⟩)) (by simp[results,Tryz.results235,go_sem]) rfl HF.out
  | 1,_ =>
   go_wp2_with fail
   refine(zQ (s:=(r,fine)) hst Tp.wNot (by decide) _ rfl).mono ?_
   rintro e w4 ⟨rfl,hst4,hx4⟩
   have HK4:=zh ((hx4.block tb (zc HK.out) (by omega)).trans HK.out)
   have HX4:=zh (HX.out.trans hx4)
   clear hst hx4 HK HX
   cases htk:tk Tp.wNot (r,fine) with
   | false =>
    rw[zK htk]at hst4
    have hnt:¬tx r=Tp.wNot:=fun e=>of_decide_eq_false htk ⟨rfl,e⟩
    have HNT:=zh hnt
    clear htk hnt
    go_wp2_with fail
    go_roundg 0
    case measure=>omega
    case rel=>exact⟨2,by omega,rfl,rfl,hst4,HK4,HX4,fun _=>HM.out (by omega),fun _=>HNT.out⟩
   | true =>
    obtain⟨_,htx,hts⟩:=zM htk
    rw[hts]at hst4
    have htx:tx r=Tp.wNot:=htx
    have hk2:¬(hd r).kind=2:=HNE.out Tp.wNot ⟨_,_,rfl,by decide⟩ htx
    have hy:=HY.out
    rw[if_neg hk2,if_neg (by rw[htx];decide),if_pos htx]at hy
    obtain⟨z,hz,hyz⟩:=j4 hy
    have hrx:RS w4 q ts (stp r) fine:=hst4
    have HC:=zh (HO.out w4.drew (stp r) z (hrx.below (zo w4)) hz)
    have HYZ:=zh hyz
    have hsz4:=HX4.out.size
    have htl4:=zc HK4.out
    have k2:w4.cell? ⟨tb,2,none⟩=some (.int .i64 (pos:Int)):=za HK4.out
    clear hy hz hyz hst4 hk2 htx hts htk HM HN
    go_wp2_with fail
    go_region_law (refine zY rfl ?_;go_simp;go_at_call 235;refine HC.out.mono ?_;rintro e w5 ⟨p5,rfl,hv5,hst5,hx5⟩;have HX5:=zh ((HX4.out.trans (Ext.below (zo w4))).trans hx5);have k5:w5.cell? ⟨tb,2,none⟩=some (.int .i64 (pos:Int)):=((((Ext.below (b:=q.rb) (zo w4)).trans hx5).cell k2 (by simp;omega)):_))
    all_goals
     have hsz5:=HX5.out.size
     have HV5:=zh hv5
     have HS5:=zh hst5
     have hal:Below w5.heap.size w5 (w5.alloc (.cells (xcells 4 pos 0 ⟨#[]⟩ ⟨#[]⟩ ⟨#[110,111,116]⟩ (.pointer p5) (.pointer none) (.slice none 0 0)) 111)):=zb _ _
     have HF:Hid (RPost q ts w y (.returned (.pointer (some ⟨w5.heap.size,0,none⟩))) (w5.alloc (.cells (xcells 4 pos 0 ⟨#[]⟩ ⟨#[]⟩ ⟨#[110,111,116]⟩ (.pointer p5) (.pointer none) (.slice none 0 0)) 111))):=by
      rw[HYZ.out,<-HPO.out]
      refine⟨_,rfl,fun hf=>?_,HS5.out.below hal,HX5.out.trans (Ext.below hal)⟩
      exact VX.node (op:=Tp.wNot) hsz5 (zq w5 _) (Or.inr ((VX.ext (b:=q.rb) (Ext.below hal) (by simp;omega) (HV5.out hf)).base (by simp;omega))) (Or.inl ⟨rfl,rfl⟩) (Or.inl ⟨rfl,rfl⟩)
     clear hv5 hst5 hx5 hal
     go_wp2_with fail
     exact bodyPost_ret (v:=.pointer (some ⟨w5.heap.size,0,none⟩)) (by simp[results,Tryz.results235,go_sem]) rfl HF.out
  | 2,_ =>
   have hm:¬tx r=Tp.mMinus:=HM.out (by omega)
   have hn:¬tx r=Tp.wNot:=HN.out (by omega)
   have HY2:Hid ((if (hd r).kind=2 then some (([⟨1,at' r,(nu Tp.top (r,fine)).1,[],[],[],[],[],[]⟩]:List X),(nu Tp.top (r,fine)).2) else if tx r=Tp.mLp then (nex g 0 (ones+1) 0 [] (stp r,fine)).map fun y=>(y.1,mu Tp.mRp y.2) else nex g 6 ones 0 [] (r,fine))=some y):=by
    have:=HY.out
    rw[if_neg hm,if_neg hn]at this
    exact this
   clear hm hn HM HN HY hjk
   go_wp2_with fail
   refine(zQ (s:=(r,fine)) hst Tp.mLp (by decide) _ rfl).mono ?_
   rintro e w4 ⟨rfl,hst4,hx4⟩
   have HK4:=zh ((hx4.block tb (zc HK.out) (by omega)).trans HK.out)
   have HX4:=zh (HX.out.trans hx4)
   clear hst hx4 HK HX
   cases htk:tk Tp.mLp (r,fine) with
   | true =>
    obtain⟨_,htx,hts⟩:=zM htk
    rw[hts]at hst4
    have htx:tx r=Tp.mLp:=htx
    have hk2:¬(hd r).kind=2:=HNE.out Tp.mLp ⟨_,_,rfl,by decide⟩ htx
    have hy:=HY2.out
    rw[if_neg hk2,if_pos htx]at hy
    obtain⟨z,hz,hyz⟩:=j4 hy
    have hrx:RS w4 q ts (stp r) fine:=hst4
    have HC:=zh (HL.out w4 (stp r) z hrx hz)
    have HYZ:=zh hyz
    have hsz4:=HX4.out.size
    clear hy hz hyz hst4 hk2 htx hts htk HY2
    go_wp2_with fail
    refine HC.out.mono ?_
    rintro e w5 ⟨p5,rfl,hv5,hst5,hx5⟩
    have HX5:=zh (HX4.out.trans hx5)
    have HV5:=zh hv5
    clear hv5 hx5
    go_wp2_with fail
    refine(zH hst5 Tp.mRp (by decide) _ rfl).mono ?_
    rintro e w6 ⟨rfl,hst6,hx6⟩
    have HF:Hid (RPost q ts w y (.returned (.pointer p5)) w6):=by
     rw[HYZ.out]
     exact⟨_,rfl,fun hf=>VX.ext hx6 hpl ((HV5.out (zV hf)).base (by omega)),hst6,HX5.out.trans hx6⟩
    clear hst5 hst6 hx6
    go_wp2_with fail
    exact bodyPost_ret (v:=.pointer p5) (by simp[results,Tryz.results235,go_sem]) rfl HF.out
   | false =>
    rw[zK htk]at hst4
    have hnt:¬tx r=Tp.mLp:=fun e=>of_decide_eq_false htk ⟨rfl,e⟩
    have hrx:RS w4 q ts r fine:=hst4
    have htl4:=zc HK4.out
    have k0:w4.cell? ⟨tb,0,none⟩=some (.int .i64 kk):=za HK4.out
    have k2:w4.cell? ⟨tb,2,none⟩=some (.int .i64 (pos:Int)):=za HK4.out
    have hy:=HY2.out
    have hsz4:=HX4.out.size
    by_cases hk2:(hd r).kind=2
    ·rw[if_pos hk2]at hy
     have HYZ:Hid (y=(([⟨1,at' r,(nu Tp.top (r,fine)).1,[],[],[],[],[],[]⟩]:List X),(nu Tp.top (r,fine)).2)):=(Option.some.inj hy).symm
     have hkk:kk=2:=HKK.out.2 hk2
     have HC:=zh (xW (hrx.below (zo w4)) Tp.top (by decide))
     rw[show ((Tp.top:Nat):Int)=9223372036854775807 from rfl]at HC
     subst hkk
     clear hy hk2 hnt htk hst4 HY2 HKK
     generalize nu Tp.top (r,fine)=nn at *
     go_wp2_with fail
     go_region_law (refine zY rfl ?_;go_simp;go_at_call 36;refine HC.out.mono ?_;rintro e w5 ⟨rfl,hst5,hx5⟩;have HX5:=zh ((HX4.out.trans (Ext.below (zo w4))).trans hx5);have k5:w5.cell? ⟨tb,2,none⟩=some (.int .i64 (pos:Int)):=((((Ext.below (b:=q.rb) (zo w4)).trans hx5).cell k2 (by simp;omega)):_))
     all_goals
      have hsz5:=HX5.out.size
      have HS5:=zh hst5
      have hal:Below w5.heap.size w5 (w5.alloc (.cells (xcells 1 pos nn.1 ⟨#[]⟩ ⟨#[]⟩ ⟨#[]⟩ (.pointer none) (.pointer none) (.slice none 0 0)) 111)):=zb _ _
      have HF:Hid (RPost q ts w y (.returned (.pointer (some ⟨w5.heap.size,0,none⟩))) (w5.alloc (.cells (xcells 1 pos nn.1 ⟨#[]⟩ ⟨#[]⟩ ⟨#[]⟩ (.pointer none) (.pointer none) (.slice none 0 0)) 111))):=by
       rw[HYZ.out,<-HPO.out]
       refine⟨_,rfl,fun hf=>?_,HS5.out.below hal,HX5.out.trans (Ext.below hal)⟩
       exact VX.node hsz5 (zq w5 _) (Or.inl ⟨rfl,rfl⟩) (Or.inl ⟨rfl,rfl⟩) (Or.inl ⟨rfl,rfl⟩)
      clear hst5 hx5 hal
      go_wp2_with fail
      exact bodyPost_ret (v:=.pointer (some ⟨w5.heap.size,0,none⟩)) (by simp[results,Tryz.results235,go_sem]) rfl HF.out
    ·rw[if_neg hk2,if_neg hnt]at hy
     have hkk:(kk == 2)=false:=by have:=fun h=>hk2 (HKK.out.1 h);simpa using this
     have HC:=zh (HR.out w4 y hrx hy)
     clear hy hk2 hnt htk hst4 HY2 HKK
     go_wp2_with fail
     refine HC.out.mono ?_
     rintro e w5 ⟨p5,rfl,hv5,hst5,hx5⟩
     have HF:Hid (RPost q ts w y (.returned (.pointer p5)) w5):=⟨_,rfl,fun hf=>(hv5 hf).base (by omega),hst5,HX4.out.trans hx5⟩
     clear hv5 hst5 hx5
     go_wp2_with fail
     exact bodyPost_ret (v:=.pointer p5) (by simp[results,Tryz.results235,go_sem]) rfl HF.out
theorem vE (q:Rp) (ts:List Tok):∀ g,LevR q ts g/\OneR q ts g/\RefR q ts g:=by
 intro g
 induction g with
 | zero=>exact⟨fun _ _ _ _ _ _ _ _ h=>(by cases h),fun _ _ _ _ _ _ h=>(by cases h),fun _ _ _ _ _ _ h=>(by cases h)⟩
 | succ g ih =>
  obtain⟨h1,h2,h3⟩:=ih
  have hO:=rone_post h1 h2 h3
  exact⟨lev_post h1 hO,hO,ref_post h1⟩
end Go.Proofs.YthnoedjbhbkdeaaGreatDoor
namespace Go.Proofs.YthnoedjbhbkdeaaGreatDoor
open Go.RowKit
open Tp (Tok hd tx at' stp X S)
open Nr (Fl fine Sx tk tkS fl mu nm nu nms nex naft nval nsx)
theorem mu_len {w:World}{q:Rp}{ts:List Tok}{s:Sx}{m:List UInt8}(h:RX w q ts s) (hm:m≠[]) (hf:(mu m s).2=fine):(mu m s).1.length+1<=s.1.length:=by
 have hc:tx s.1=m:=mu_tx hf
 have hk:(hd s.1).kind≠0:=fun hk=>by have:=h.txt _ (List.mem_of_getElem? h.hd.1) hk;simp only [tx]at hc;rw[hc]at this;exact hm this
 obtain⟨y1,_,y3,_,_⟩:=h.stp_of hk
 have e:(mu m s).1=stp s.1:=by unfold mu;rw[if_pos ⟨zV hf,hc⟩]
 rw[e,y1];omega
theorem yG {w:World}{q:Rp}{ts:List Tok}{s:Sx}(h:RX w q ts s) (g:Nat) (y:List X× Sx) (hy:nval g s=some y) :
  Calls Tryz.prog 137 #[.pointer (some ⟨q.rb,0,none⟩)] w fun e w'=>RPost q ts w y e w':=by
 obtain⟨r,b⟩:=s
 have h:RS w q ts r b:=h
 unfold nval at hy
 by_cases hf:b=fine
 ·subst hf
  rw[if_pos rfl]at hy
  have HC:Hid (∀ W,RS W q ts r fine->Calls Tryz.prog 198 #[.pointer (some ⟨q.rb,0,none⟩),.int .i64 0,.int .i64 0] W fun e w'=>RPost q ts W y e w'):=fun W hW=>(vE q ts g).1 W r 0 0 y hW (by omega) (by omega) hy
  clear hy
  go_enter Tryz.func137,Tryz.ntmps137
  go_wp2_with fail
  refine(kR h).mono ?_
  rintro e w1 ⟨rfl,hb1⟩
  have h1:=h.below hb1
  have hsz:=hb1.size
  go_wp2_with fail
  refine(HC.out w1 h1).mono ?_
  rintro e w2 ⟨p,rfl,hv,hst,hx⟩
  have HF:Hid (RPost q ts w y (.returned (.pointer p)) w2):=⟨p,rfl,fun hf=>(hv hf).base hsz,hst,(Ext.below hb1).trans hx⟩
  clear hv hst hx
  go_wp2_with fail
  exact bodyPost_ret (v:=.pointer p) (by simp[results,Tryz.results137,go_sem]) rfl HF.out
 ·rw[if_neg hf]at hy
  obtain rfl:=Option.some.inj hy
  go_enter Tryz.func137,Tryz.ntmps137
  go_wp2_with fail
  refine(jI h hf).mono ?_
  rintro e w1 ⟨rfl,hb1⟩
  have HF:Hid (RPost q ts w ([],(r,b)) (.returned (.pointer none)) w1):=⟨none,rfl,fun h=>absurd h hf,h.below hb1,Ext.below hb1⟩
  go_wp2_with fail
  exact bodyPost_ret (v:=.pointer none) (by simp[results,Tryz.results137,go_sem]) rfl HF.out
def SPost (q:Rp) (ts:List Tok) (w:World) (y:List S× Sx) (e:Ending) (w':World):Prop :=
 ∃(aa:Option Addr) (an ac:Nat),e=.returned (.slice aa an ac)/\(y.2.2=fine->VL w.heap.size y.1 (.slice aa an ac) w')/\RX w' q ts y.2/\Ext q.rb w w'
def TPost (q:Rp) (ts:List Tok) (w:World) (y:List S× Sx) (e:Ending) (w':World):Prop :=
 ∃(code pos:Int) (name:ByteArray) (ia va ta ea:Option Addr) (tn tc en ec:Nat),e=.returned (.agg (scells code pos name (.pointer ia) (.pointer va) (.slice ta tn tc) (.slice ea en ec))) /\
  (y.2.2=fine->VS w.heap.size y.1 (.agg (scells code pos name (.pointer ia) (.pointer va) (.slice ta tn tc) (.slice ea en ec))) w')/\RX w' q ts y.2/\Ext q.rb w w'
def StsR (q:Rp) (ts:List Tok) (g:Nat):Prop:=∀(w:World) (r:List Tok) (deep:Nat) (y:List S× Sx),RS w q ts r fine->deep<=11->nsx g 0 deep 0 [] (r,fine)=some y ->
 Calls Tryz.prog 39 #[.pointer (some ⟨q.rb,0,none⟩),.int .i64 (deep:Int)] w fun e w'=>SPost q ts w y e w'
def StR (q:Rp) (ts:List Tok) (g:Nat):Prop:=∀(w:World) (r:List Tok) (deep:Nat) (y:List S× Sx),RS w q ts r fine->deep<=10->nsx g 2 deep 0 [] (r,fine)=some y ->
 Calls Tryz.prog 85 #[.pointer (some ⟨q.rb,0,none⟩),.int .i64 (deep:Int)] w fun e w'=>TPost q ts w y e w'
theorem StR.mono {q:Rp}{ts:List Tok}{f g:Nat}(h:StR q ts g) (hf:f<=g):StR q ts f:=fun w r deep y h1 h2 h3=>h w r deep y h1 h2 (Nr.mo_nsx 2 deep 0 [] (r,fine) f g hf y h3)
theorem yW {g deep a:Nat}{acc:List S}{s:Sx}{y:List S× Sx}(h:nsx g 1 deep a acc s=some y) (he:¬(s.2=fine/\¬(tx s.1=Tp.wEnd\/tx s.1=Tp.wElsif\/tx s.1=Tp.wElse))):y=(acc,s):=by
 cases g with
 | zero=>cases h
 | succ g =>
  rw[nsx,if_neg (by omega),if_pos rfl,if_neg he]at h
  exact(Option.some.inj h).symm
theorem nsx1_on {g deep a:Nat}{acc:List S}{r:List Tok}{y:List S× Sx}(h:nsx g 1 deep a acc (r,fine)=some y) (he:¬(tx r=Tp.wEnd\/tx r=Tp.wElsif\/tx r=Tp.wElse)):∃ g' z,g=g'+1/\nsx g' 2 deep 0 [] (r,fine)=some z/\nsx g' 1 deep 0 (acc++z.1) (mu Tp.mSemi z.2)=some y:=by
 cases g with
 | zero=>cases h
 | succ g =>
  rw[nsx,if_neg (by omega),if_pos rfl,if_pos ⟨rfl,he⟩]at h
  obtain⟨z,h1,h2⟩:=zx h
  exact⟨g,z,rfl,h1,h2⟩
theorem VS.len1 {B:Nat}{l:List S}{v:Value}{w:World}(h:VS B l v w):l.length=1:=by
 obtain⟨c,p,n,ia,va,ta,ea,tn,tc,en,ec,_,h2⟩:=h
 have:=RepS.len _ _ h2
 simp[scells]at this
 omega
theorem uh {q:Rp}{ts:List Tok}{g:Nat}(hT:StR q ts g) {w:World}{s0:Sx}{deep:Nat}{y:List S× Sx}(h:RX w q ts s0) (hd:deep<=10) (hy:nsx g 1 deep 0 [] s0=some y) :
  Calls Tryz.prog 39 #[.pointer (some ⟨q.rb,0,none⟩),.int .i64 (deep:Int)] w fun e w'=>SPost q ts w y e w':=by
 obtain⟨i3,hi3,hz30,hz31,hz32⟩:=info_parts Tryz.infoStmt
 have hpl:=zg h.c0
 have hlen:=h.len
 have hl0:s0.1.length<=1000:=by have:=h.hd.2.2.2;omega
 have HT:Hid (∀ g',g'<=g->∀ W r' z,RS W q ts r' fine->nsx g' 2 deep 0 [] (r',fine)=some z->Calls Tryz.prog 85 #[.pointer (some ⟨q.rb,0,none⟩),.int .i64 (deep:Int)] W fun e w'=>TPost q ts W z e w'):=fun g' hg W r' z hW hz=>(hT.mono hg) W r' deep z hW hd hz
 have HY:=zh hy
 have hdi:¬(10:Int)<(deep:Int):=by omega
 clear hT hy
 go_enter Tryz.func39,Tryz.ntmps39
 go_wp2_with fail
 go_loopg [5] g (fun gk v wr=>∃(l:List S) (cs:List Value) (s':Sx) (aa:Option Addr) (nn ac:Nat),gk<=g/\v=.slice aa nn ac/\nn<=1001/\Hid (s'.2=fine->nn+s'.1.length<=1000)/\Hid (wr.ownsRow w.heap.size 96 7 (.slice aa nn ac) nn cs)/\Hid (s'.2=fine->nn=l.length/\RepS wr (fun b=>w.heap.size<=b/\(Value.slice aa nn ac).ownBlock≠some b) l cs)/\RX wr q ts s'/\Hid (Ext q.rb w wr)/\Hid (nsx gk 1 deep 0 l s'=some y))
 case atStart=>exact⟨[],[],s0,none,0,0,Nat.le_refl _,rfl,by omega,(fun _=>by omega),World.ownsRow_nil _ _ _ _,(fun _=>⟨rfl,by rw[RepS]⟩),h,Ext.refl _ _,HY⟩
 case round =>
  obtain⟨l,cs,⟨r',b'⟩,aa,nn,ac,hgk,rfl,hnn,HLN,HO,HRP,hst,HX,HS⟩:=hrel
  clear h HY hl0
  have hst:RS wr q ts r' b':=hst
  have HEND:Hid (∀ W,Below wr.heap.size wr W->y=(l,(r',b'))->SPost q ts w y (.returned (.slice aa nn ac)) W):=fun W hW hy=>by
   rw[hy]
   refine⟨aa,nn,ac,rfl,fun hf=>?_,hst.below hW,HX.out.trans (Ext.below hW)⟩
   obtain⟨e1,e2⟩:=HRP.out hf
   refine⟨cs,e2.mono' (fun i hi hl=>⟨hW.block i hl,hi⟩),?_⟩
   rw[<-e1]
   exact zj HO.out (Ext.below (b:=q.rb) hW) hpl
  by_cases hf:b'=fine
  rotate_left
  ·have HE:=zh (yW HS.out (fun h=>hf h.1))
   have HK:=zh (jI hst hf)
   clear hf
   go_wp2_with fail
   refine HK.out.mono ?_
   rintro e w5 ⟨rfl,hb5⟩
   have HF:=zh (HEND.out w5 hb5 HE.out)
   go_wp2_with fail
   exact bodyPost_ret (v:=.slice aa nn ac) (by simp[results,Tryz.results39,go_sem]) rfl HF.out
  ·subst hf
   have hln0:=HLN.out rfl
   have hrp0:=HRP.out rfl
   have HLN0:=zh hln0
   have HRP0:=zh hrp0
   clear hln0 hrp0
   have HK:=zh (kR hst)
   go_wp2_with fail
   refine HK.out.mono ?_
   rintro e w5 ⟨rfl,hb5⟩
   have hst5:RX w5 q ts (r',fine):=hst.below hb5
   clear HK
   go_wp2_with fail
   refine(rsee_s hst5 Tp.wEnd (by decide) _ rfl).mono ?_
   rintro e w6 ⟨rfl,hb6⟩
   have hb6':Below wr.heap.size wr w6:=hb5.trans (hb6.mono hb5.size)
   cases h1:tk Tp.wEnd (r',fine) with
   | true =>
    have HE:=zh (yW HS.out (fun h=>h.2 (Or.inl (zM h1).2.1)))
    have HF:=zh (HEND.out w6 hb6' HE.out)
    clear h1
    go_wp2_with fail
    exact bodyPost_ret (v:=.slice aa nn ac) (by simp[results,Tryz.results39,go_sem]) rfl HF.out
   | false =>
    have hst6:RX w6 q ts (r',fine):=hst.below hb6'
    go_wp2_with fail
    refine(rsee_s hst6 Tp.wElse (by decide) _ rfl).mono ?_
    rintro e w7 ⟨rfl,hb7⟩
    have hb7':Below wr.heap.size wr w7:=hb6'.trans (hb7.mono hb6'.size)
    cases h2:tk Tp.wElse (r',fine) with
    | true =>
     have HE:=zh (yW HS.out (fun h=>h.2 (Or.inr (Or.inr (zM h2).2.1))))
     have HF:=zh (HEND.out w7 hb7' HE.out)
     clear h1 h2
     go_wp2_with fail
     exact bodyPost_ret (v:=.slice aa nn ac) (by simp[results,Tryz.results39,go_sem]) rfl HF.out
    | false =>
     have hst7:RX w7 q ts (r',fine):=hst.below hb7'
     go_wp2_with fail
     refine(rsee_s hst7 Tp.wElsif (by decide) _ rfl).mono ?_
     rintro e w8 ⟨rfl,hb8⟩
     have hb8':Below wr.heap.size wr w8:=hb7'.trans (hb8.mono hb7'.size)
     cases h3:tk Tp.wElsif (r',fine) with
     | true =>
      have HE:=zh (yW HS.out (fun h=>h.2 (Or.inr (Or.inl (zM h3).2.1))))
      have HF:=zh (HEND.out w8 hb8' HE.out)
      clear h1 h2 h3
      go_wp2_with fail
      exact bodyPost_ret (v:=.slice aa nn ac) (by simp[results,Tryz.results39,go_sem]) rfl HF.out
     | false =>
      obtain⟨g',z,hgg,hz,hyz⟩:=nsx1_on HS.out (fun h=>by
       rcases h with h|h|h
       ·exact of_decide_eq_false h1 ⟨rfl,h⟩
       ·exact of_decide_eq_false h3 ⟨rfl,h⟩
       ·exact of_decide_eq_false h2 ⟨rfl,h⟩)
      subst hgg
      have hst8:RS w8 q ts r' fine:=hst.below hb8'
      have HC:=zh (HT.out g' (by omega) w8 r' z hst8 hz)
      have hln:=HLN0.out
      have hzl:=Nr.nsx_len g' 2 deep 0 [] (r',fine) r'.length zn z hz
      obtain⟨hnl,hrp⟩:=HRP0.out
      have HO8:=zh (zj HO.out (Ext.below (b:=q.rb) hb8') hpl)
      have HR8:=zh (hrp.mono' (w':=w8) (D':=fun b=>w.heap.size<=b/\(Value.slice aa nn ac).ownBlock≠some b) (fun i hi hl=>⟨hb8'.block i hl,hi⟩))
      have HX8:=zh (HX.out.trans (Ext.below hb8'))
      have HYZ:=zh hyz
      have HNL:=zh hnl
      clear h1 h2 h3 HS hz hyz hnl hrp HRP HRP0 HLN0 HO HLN HEND hst hst5 hst6 hst7 hb5 hb6 hb6' hb7 hb7' hb8 hb8' HX
      go_wp2_with fail
      refine HC.out.mono ?_
      rintro e w9 ⟨code,pos,name,ia,va,ta,ea,tn,tc,en,ec,rfl,hv9,hst9,hx9⟩
      have HO9:=zh (zj HO8.out hx9 hpl)
      have HR9:=zh (HR8.out.mono' (w':=w9) (D':=fun b=>w.heap.size<=b/\(Value.slice aa nn ac).ownBlock≠some b) (fun i hi hl=>⟨hx9.block i hl (by omega),hi⟩))
      have HX9:=zh (HX8.out.trans hx9)
      have hsz8:=HX8.out.size
      have hsz9:=HX9.out.size
      have HV9:=zh hv9
      have HOL:Hid (∀ gq,(Value.slice aa nn ac).ownBlock=some gq->gq<w8.heap.size):=fun gq hgq=>(HO8.out.lt gq hgq).2
      have hown9:=HO9.out
      clear hv9 hx9 HO8 HR8 HX8 hst8
      simp only [scells]
      go_wp2_with (at_builtin;refine zy _ rfl _ _ 25 rfl w.heap.size 96 i3 (.agg #[.int .i64 0,.int .i64 0,.string ⟨#[]⟩,.pointer none,.pointer none,.slice none 0 0,.slice none 0 0]) 7 96 Tryz.underlying25 hi3 hz30 hz31 hz32 rfl (by decide) _ _ _ rfl (hown9.alloc _) ⟨w9.heap.size,0,none⟩ 1 1 [.int .i64 code,.int .i64 pos,.string name,.pointer ia,.pointer va,.slice ta tn tc,.slice ea en ec] rfl rfl ?c1 ?c2 ?c3 ?c4 ?c5 ?_)
      case c1=>exact news7 w9 _ _ _ _ _ _ _ _
      case c2=>intro u hu;simp at hu;rcases hu with rfl|rfl|rfl|rfl|rfl|rfl|rfl <;> rfl
      case c3=>unfold maxLen;omega
      case c4=>omega
      case c5=>simp;omega
      ·intro v' w10 hown10 hgrow10 hwhere10
       have hb10:Below w.heap.size w9 w10:=((Below.refl _ _).alloc hsz9 _).trans ((Below.refl _ _).grown hgrow10 (by simp;omega) (zE hown9))
       obtain⟨na,nc,hvv⟩:=zp hown10
       subst hvv
       have hst10:RX w10 q ts z.2:=hst9.belowB hb10 hpl
       have HX10:=zh (HX9.out.trans' hb10)
       have HR10:Hid (z.2.2=fine->nn+1=(l++z.1).length/\RepS w10 (fun b=>w.heap.size<=b/\(Value.slice na (nn+1) nc).ownBlock≠some b) (l++z.1) (cs++[.int .i64 code,.int .i64 pos,.string name,.pointer ia,.pointer va,.slice ta tn tc,.slice ea en ec])):=fun hf=>by
        have hv:=HV9.out hf
        refine⟨by rw[List.length_append,hv.len1,HNL.out],?_⟩
        obtain⟨c1,p1,n1,ia1,va1,ta1,ea1,tn1,tc1,en1,ec1,he1,hr1⟩:=hv
        have e2:(scells (c1:Int) (p1:Int) (bs n1) (.pointer ia1) (.pointer va1) (.slice ta1 tn1 tc1) (.slice ea1 en1 ec1)).toList=[.int .i64 code,.int .i64 pos,.string name,.pointer ia,.pointer va,.slice ta tn tc,.slice ea en ec]:=by
         have:=congrArg (fun v=>match v with|Value.agg a=>a.toList|_=>[]) he1
         simp only [scells]at this ⊢
         exact this.symm
        rw[e2]at hr1
        have h2:RepS w9 (fun b=>w.heap.size<=b/\(Value.slice aa nn ac).ownBlock≠some b) z.1 [.int .i64 code,.int .i64 pos,.string name,.pointer ia,.pointer va,.slice ta tn tc,.slice ea en ec]:=RepS.of_new hr1 hsz8 HOL.out
        have h3:=RepS.app _ _ _ _ (HR9.out.alloc (.cells #[.int .i64 code,.int .i64 pos,.string name,.pointer ia,.pointer va,.slice ta tn tc,.slice ea en ec] 96)) (h2.alloc (.cells #[.int .i64 code,.int .i64 pos,.string name,.pointer ia,.pointer va,.slice ta tn tc,.slice ea en ec] 96))
        exact h3.grown hgrow10 (by simpa using hwhere10)
       have HO10:=zh hown10
       clear hown9 hown10 hgrow10 hwhere10 hb10 hst9 HO9 HR9 HX9 HV9
       go_wp2_with fail
       refine(zH hst10 Tp.mSemi (by decide) _ rfl).mono ?_
       rintro e w11 ⟨rfl,hst11,hx11⟩
       have HO11:=zh (zj HO10.out hx11 hpl)
       have HX11:=zh (HX10.out.trans hx11)
       have HR11:Hid ((mu Tp.mSemi z.2).2=fine->nn+1=(l++z.1).length/\RepS w11 (fun b=>w.heap.size<=b/\(Value.slice na (nn+1) nc).ownBlock≠some b) (l++z.1) (cs++[.int .i64 code,.int .i64 pos,.string name,.pointer ia,.pointer va,.slice ta tn tc,.slice ea en ec])):=fun hf=>by
        obtain⟨e1,e2⟩:=HR10.out (zV hf)
        exact⟨e1,e2.mono' (fun i hi hl=>⟨hx11.block i hl (by omega),hi⟩)⟩
       have HLN:Hid ((mu Tp.mSemi z.2).2=fine->nn+1+(mu Tp.mSemi z.2).1.length<=1000):=fun hf=>by
        have:=mu_len hst10 (by decide) hf
        omega
       have hn1:nn+1<=1001:=by omega
       clear hst10 hx11 HO10 HR10 HX10 hln hzl
       go_wp2_with fail
       go_roundg g'
       case measure=>omega
       case rel=>exact⟨l++z.1,_,_,na,nn+1,nc,by omega,rfl,hn1,HLN,HO11,HR11,hst11,HX11,HYZ⟩
theorem ui {q:Rp}{ts:List Tok}{w:World}{r:List Tok}{deep:Nat}(h:RS w q ts r fine) (hd:10<deep) (hd2:deep<=11) :
  Calls Tryz.prog 39 #[.pointer (some ⟨q.rb,0,none⟩),.int .i64 (deep:Int)] w fun e w'=>SPost q ts w ([],(r,((4:Int),(at' r:Int)))) e w':=by
 go_enter Tryz.func39,Tryz.ntmps39
 go_wp2_with fail
 refine(zR h 4).mono ?_
 rintro e w1 ⟨rfl,h1,hx1⟩
 rw[if_pos rfl]at h1
 have h1:RS w1 q ts r ((4:Int),(at' r:Int)):=h1
 have HX1:=zh hx1
 clear hx1
 go_wp2_with fail
 go_loopg [5] 0 (fun gk v wr=>v=.slice none 0 0/\RS wr q ts r ((4:Int),(at' r:Int))/\Hid (Ext q.rb w wr))
 case atStart=>exact⟨rfl,h1,HX1⟩
 case round =>
  obtain⟨rfl,hst,HX⟩:=hrel
  go_wp2_with fail
  refine(jI hst (kx _)).mono ?_
  rintro e w2 ⟨rfl,hb2⟩
  have HF:Hid (SPost q ts w ([],(r,((4:Int),(at' r:Int)))) (.returned (.slice none 0 0)) w2):=⟨none,0,0,rfl,fun hf=>absurd hf (kx _),hst.below hb2,HX.out.trans (Ext.below hb2)⟩
  go_wp2_with fail
  exact bodyPost_ret (v:=.slice none 0 0) (by simp[results,Tryz.results39,go_sem]) rfl HF.out
theorem ug {q:Rp}{ts:List Tok}{g:Nat}(hT:StR q ts g):StsR q ts (g+1):=by
 intro w r deep y h hd hy
 rw[nsx,if_pos rfl]at hy
 by_cases h10:10<deep
 ·rw[if_pos h10]at hy
  have e:fl 4 (r,fine)=(r,((4:Int),(at' r:Int))):=by simp[fl]
  rw[e]at hy
  rw[yW hy (fun h=>kx _ h.1)]
  exact ui h h10 hd
 ·rw[if_neg h10]at hy
  exact uh hT (s0:=(r,fine)) h (by omega) hy
end Go.Proofs.YthnoedjbhbkdeaaGreatDoor
