import Derived.Test.YtmnedfdffbbchaaGreatDoorKIb
import Derived.Test.YtmnedfdffbbchaaGreatDoorKId
set_option maxRecDepth 100000
set_option maxHeartbeats 4000000

namespace Go.Proofs.YtmnedfdffbbchaaGreatDoor.Jo
open Go.RowKit Go.Maps
open Ob (O In I64)
open Vm (St Fr Pl)
theorem step_11 {c:Vx}{W:World}{s:St}{vv:List (List Int)}{fv sv ov:Value}(h:MM c W s vv fv sv ov) (ok:VxOk c) (hg:G8 c W fv sv ov s.way) {f:Fr}{fs:List Fr}(hf:s.frames=f :: fs) (hbs:f.base<=s.stack.length) (hat:f.at'<c.O.code.length) (hop:c.O.code[f.at'].op=11) :
  Calls Tryz.prog 76 #[.pointer (some ⟨c.gb,0,none⟩)] W (StepP c (Vm.exec c.most { f with at':=f.at'+1 } fs ⟨c.O,vv⟩ c.O.code[f.at'] (Vm.going { f with at':=f.at'+1 } fs s))):=by
 obtain⟨fb,cap,hfv,hfb,hcap,hfc⟩:=h.top hf
 have hgl:=zk hg
 have hcl:=zP ok
 have HLA:=zh (last8 h hg hf hfv)
 have hI:=ok.i64 _ (List.getElem_mem hat)
 have hIB:=inst8 ok hat
 have HCD:Hid (∀ w1,Below c.w0.heap.size c.w0 w1->∃ b o cc,w1.cell? ⟨c.ob,c.oo+6,none⟩=some (.slice (some ⟨b,o,none⟩) c.O.code.length cc)/\b<w1.heap.size/\c.ob<w1.heap.size/\w1.cell? ⟨b,o+f.at' * 3,none⟩=some (.int .i64 c.O.code[f.at'].op)/\w1.cell? ⟨b,o+f.at' * 3+1,none⟩=some (.int .i64 c.O.code[f.at'].a)/\w1.cell? ⟨b,o+f.at' * 3+2,none⟩=some (.int .i64 c.O.code[f.at'].b)):=fun w1 hb=>code8 ok hb hat
 generalize c.O.code[f.at']=x at *
 obtain⟨xop,xa,xb⟩:=x
 simp only at hop hI HCD
 subst hop
 unfold Ob.instB at hIB
 have hex:∀ t,Vm.exec c.most { f with at':=f.at'+1 } fs ⟨c.O,vv⟩ ⟨11,xa,xb⟩ t=Vm.taken f.base t fun n s=>Vm.put (if n=0 then 1 else 0) s:=fun t=>by simp[Vm.exec]
 rw[hex]
 have HM:Hid (∀ w1,Below W.heap.size W w1->MM c w1 s vv fv sv ov/\G8 c w1 fv sv ov s.way):=fun w1 hb=>⟨h.below ok hg hb,(hb.block _ hgl).trans hg⟩
 have HX:Hid (∀ w1,Below W.heap.size W w1->w1.cell? ⟨fb,fs.length * 14,none⟩=some (.pointer (some ⟨c.pb,0,none⟩))/\w1.cell? ⟨fb,fs.length * 14+1,none⟩=some (.int .i64 (f.at':Int))/\w1.cell? ⟨c.pb,0,none⟩=some (.pointer (some ⟨c.ob,c.oo,none⟩))/\fb<w1.heap.size/\c.pb<w1.heap.size/\w1.frozen? ⟨fb,fs.length * 14+1,none⟩=false):=fun w1 hb=>by
  obtain⟨m1,_⟩:=(⟨h.below ok hg hb,trivial⟩:MM c w1 s vv fv sv ov/\True)
  refine⟨(hb.cell (p:=⟨fb,fs.length * 14,none⟩) hfb).trans (hfc 0 _ rfl),(hb.cell (p:=⟨fb,fs.length * 14+1,none⟩) hfb).trans (hfc 1 _ rfl),(zc m1.pk).trans rfl,Nat.lt_of_lt_of_le hfb hb.size,zk m1.pk,?_⟩
  rcases m1.fr.2 with⟨e,_⟩|⟨g',cp',cur',e,_,hh,_⟩
  ·rw[e]at hfv;cases hfv
  ·rw[e]at hfv
   simp only [Value.slice.injEq,Option.some.injEq,Addr.mk.injEq]at hfv
   rw[<-hfv.1.1]
   exact zr hh
 have HFO:=zh (h.ff f (by rw[hf];simp))
 have HF:=zh (And.intro hf (And.intro hfv hbs))
 have HOK:=zh ok
 have HAT:=zh hat
 have hai:(f.at':Int)<4000:=by omega
 have hain:(f.at':Int)<(c.O.code.length:Int):=by omega
 obtain⟨u,hu⟩:∃ u,u=Vm.going { f with at':=f.at'+1 } fs s:=⟨_,rfl⟩
 have HFU:Hid (u.frames={ f with at':=f.at'+1 } :: fs):=by rw[hu];rfl
 have HBU:Hid (f.base<=u.stack.length):=by rw[hu];exact HF.out.2.2
 have HWU:Hid (u.way=s.way):=by rw[hu];rfl
 have HUU:=zh hu
 rw[<-hu]
 clear hu
 have HIB:=zh hIB
 clear hbs hfc hfv h hg hf hIB
 go_enter Tryz.func76,Tryz.ntmps76
 go_wp2_with fail
 refine HLA.out.mono ?_
 rintro e w1 ⟨rfl,hb1⟩
 obtain⟨x0,x1,x2,hfb1,hpb1,z1⟩:=HX.out w1 hb1
 obtain⟨hm1,hg1⟩:=HM.out w1 hb1
 obtain⟨eb,eo,cc,k6,heb,hob,e0,e1,e2⟩:=HCD.out w1 hm1.be
 obtain⟨w2,hw2⟩:∃ w2,w2=(w1.alloc (.cells #[.int .i64 11,.int .i64 xa,.int .i64 xb] 68)).drew:=⟨_,rfl⟩
 have HB2:Hid (Below w1.heap.size w1 w2):=by rw[hw2];exact(zb _ _).drew
 have hk2:w2.heap[w1.heap.size]?=some (.cells #[.int .i64 11,.int .i64 xa,.int .i64 xb] 68 (0,0)):=by rw[hw2];exact zw w1 _
 have HK2:=zh hk2
 have HB12:Hid (Below W.heap.size W w2):=hb1.trans (HB2.out.mono hb1.size)
 obtain⟨y0,y1,_,hfb2,hpb2,z2⟩:=HX.out w2 HB12.out
 obtain⟨hm2,hg2⟩:=HM.out w2 HB12.out
 obtain⟨w3,hw3⟩:∃ w3,w3=w2.setCell ⟨fb,fs.length * 14+1,none⟩ (.int .i64 ((f.at':Int)+1)):=⟨_,rfl⟩
 have hfo':FrOk c { f with at':=f.at'+1 }:=⟨HFO.out.of,HFO.out.ll,HFO.out.li,HFO.out.mn,by show f.at'+1<=4000;omega,HFO.out.bs⟩
 obtain⟨f1,f2⟩:=hm2.frset hg2 HF.out.1 HF.out.2.1 1 (.int .i64 ((f.at':Int)+1)) hfo' (yu c f (f.at'+1))
 rw[<-hw3]at f1 f2
 have hxw:w1.heap.size≠fb:=by omega
 have hxg:w1.heap.size≠c.gb:=by have:=zk hg1;omega
 have hk3:w3.heap[w1.heap.size]?=some (.cells #[.int .i64 11,.int .i64 xa,.int .i64 xb] 68 (0,0)):=by rw[hw3];exact(Below.heap_setCell _ _ _ _ (by simpa using hxw)).trans hk2
 have q0:w3.cell? ⟨w1.heap.size,0,none⟩=some (.int .i64 11):=(zc hk3).trans rfl
 have q1:w3.cell? ⟨w1.heap.size,1,none⟩=some (.int .i64 xa):=(zc hk3).trans rfl
 have q2:w3.cell? ⟨w1.heap.size,2,none⟩=some (.int .i64 xb):=(zc hk3).trans rfl
 have hxl3:w1.heap.size<w3.heap.size:=zk hk3
 have hgl3:c.gb<w3.heap.size:=zk f2
 rw[<-HUU.out]at f1
 have HM3:=zh f1
 have HG3:Hid (G8 c w3 fv sv ov u.way):=by rw[HWU.out];exact f2
 have HK3:=zh hk3
 have HC:=zh (not8 HM3.out HOK.out HG3.out HFU.out)
 clear hm1 hg1 hm2 hg2 f1 f2 hk3 hk2 hb1 HX HM HLA hfo' hex HCD
 generalize f.at'=at' at *
 have HS1:Hid (∀ w9,Below w1.heap.size w1 w9->w9.cell? ⟨fb,fs.length * 14,none⟩=some (.pointer (some ⟨c.pb,0,none⟩))/\w9.cell? ⟨fb,fs.length * 14+1,none⟩=some (.int .i64 (at':Int))/\w9.cell? ⟨c.pb,0,none⟩=some (.pointer (some ⟨c.ob,c.oo,none⟩))/\w9.cell? ⟨c.ob,c.oo+6,none⟩=some (.slice (some ⟨eb,eo,none⟩) c.O.code.length cc)/\w9.cell? ⟨eb,eo+at' * 3,none⟩=some (.int .i64 11)/\w9.cell? ⟨eb,eo+at' * 3+1,none⟩=some (.int .i64 xa)/\w9.cell? ⟨eb,eo+at' * 3+2,none⟩=some (.int .i64 xb)):=fun w9 hb=>⟨(hb.cell (p:=⟨fb,fs.length * 14,none⟩) hfb1).trans x0,(hb.cell (p:=⟨fb,fs.length * 14+1,none⟩) hfb1).trans x1,(hb.cell (p:=⟨c.pb,0,none⟩) hpb1).trans x2,(hb.cell (p:=⟨c.ob,c.oo+6,none⟩) hob).trans k6,(hb.cell (p:=⟨eb,eo+at' * 3,none⟩) heb).trans e0,(hb.cell (p:=⟨eb,eo+at' * 3+1,none⟩) heb).trans e1,(hb.cell (p:=⟨eb,eo+at' * 3+2,none⟩) heb).trans e2⟩
 have HS0:=zh (HS1.out _ (zt w1))
 have HSA:Hid (∀ o,(w1.alloc o).drew.cell? ⟨fb,fs.length * 14,none⟩=some (.pointer (some ⟨c.pb,0,none⟩))/\(w1.alloc o).drew.cell? ⟨fb,fs.length * 14+1,none⟩=some (.int .i64 (at':Int))/\(w1.alloc o).drew.cell? ⟨c.pb,0,none⟩=some (.pointer (some ⟨c.ob,c.oo,none⟩))/\(w1.alloc o).drew.cell? ⟨c.ob,c.oo+6,none⟩=some (.slice (some ⟨eb,eo,none⟩) c.O.code.length cc)/\(w1.alloc o).drew.cell? ⟨eb,eo+at' * 3,none⟩=some (.int .i64 11)/\(w1.alloc o).drew.cell? ⟨eb,eo+at' * 3+1,none⟩=some (.int .i64 xa)/\(w1.alloc o).drew.cell? ⟨eb,eo+at' * 3+2,none⟩=some (.int .i64 xb)):=fun o=>HS1.out _ (zb _ _).drew
 go_upto_region 1 with fail
 go_region_held3 (fun w9=>w9.cell? ⟨fb,fs.length * 14,none⟩=some (.pointer (some ⟨c.pb,0,none⟩))/\w9.cell? ⟨fb,fs.length * 14+1,none⟩=some (.int .i64 (at':Int))/\w9.cell? ⟨c.pb,0,none⟩=some (.pointer (some ⟨c.ob,c.oo,none⟩))/\w9.cell? ⟨c.ob,c.oo+6,none⟩=some (.slice (some ⟨eb,eo,none⟩) c.O.code.length cc)/\w9.cell? ⟨eb,eo+at' * 3,none⟩=some (.int .i64 11)/\w9.cell? ⟨eb,eo+at' * 3+1,none⟩=some (.int .i64 xa)/\w9.cell? ⟨eb,eo+at' * 3+2,none⟩=some (.int .i64 xb)) (with_reducible (first|exact HS0.out|exact HSA.out _)) (fail)
 rw[<-hw2]
 clear hw2 x0 x1 e0 e1 e2 k6
 go_upto_region 3 with fail
 rw[<-hw3]
 clear hw3 y0 y1
 go_wp2_with fail
 refine HC.out.mono ?_
 intro e w4 hq
 obtain⟨rfl,hw4⟩:=hq
 have HFIN:Hid (StepP c (Vm.taken f.base u fun n s=>Vm.put (if n=0 then 1 else 0) s) (.returned (.tuple #[])) w4):=⟨rfl,hw4⟩
 clear hw4
 go_wp2_with fail
 first|exact ze rfl rfl HFIN.out|exact bodyPost_ret (v:=.tuple #[]) (by simp[results,Tryz.results76,go_sem]) rfl HFIN.out
theorem step_12 {c:Vx}{W:World}{s:St}{vv:List (List Int)}{fv sv ov:Value}(h:MM c W s vv fv sv ov) (ok:VxOk c) (hg:G8 c W fv sv ov s.way) {f:Fr}{fs:List Fr}(hf:s.frames=f :: fs) (hbs:f.base<=s.stack.length) (hat:f.at'<c.O.code.length) (hop:c.O.code[f.at'].op=12) :
  Calls Tryz.prog 76 #[.pointer (some ⟨c.gb,0,none⟩)] W (StepP c (Vm.exec c.most { f with at':=f.at'+1 } fs ⟨c.O,vv⟩ c.O.code[f.at'] (Vm.going { f with at':=f.at'+1 } fs s))):=by
 obtain⟨fb,cap,hfv,hfb,hcap,hfc⟩:=h.top hf
 have hgl:=zk hg
 have hcl:=zP ok
 have HLA:=zh (last8 h hg hf hfv)
 have hI:=ok.i64 _ (List.getElem_mem hat)
 have hIB:=inst8 ok hat
 have HCD:Hid (∀ w1,Below c.w0.heap.size c.w0 w1->∃ b o cc,w1.cell? ⟨c.ob,c.oo+6,none⟩=some (.slice (some ⟨b,o,none⟩) c.O.code.length cc)/\b<w1.heap.size/\c.ob<w1.heap.size/\w1.cell? ⟨b,o+f.at' * 3,none⟩=some (.int .i64 c.O.code[f.at'].op)/\w1.cell? ⟨b,o+f.at' * 3+1,none⟩=some (.int .i64 c.O.code[f.at'].a)/\w1.cell? ⟨b,o+f.at' * 3+2,none⟩=some (.int .i64 c.O.code[f.at'].b)):=fun w1 hb=>code8 ok hb hat
 generalize c.O.code[f.at']=x at *
 obtain⟨xop,xa,xb⟩:=x
 simp only at hop hI HCD
 subst hop
 unfold Ob.instB at hIB
 have hIB:0<=xa/\xa<(c.O.code.length:Int):=by simp[Ob.countsB,Ob.choices]at hIB;exact hIB.2
 obtain⟨xk,rfl⟩:∃ xk:Nat,xa=(xk:Int):=⟨xa.toNat,by omega⟩
 have hex:∀ t,Vm.exec c.most { f with at':=f.at'+1 } fs ⟨c.O,vv⟩ ⟨12,(xk:Int),xb⟩ t=Vm.going ({ f with at':=xk }:Fr) fs t:=fun t=>by simp[Vm.exec]
 rw[hex]
 have HM:Hid (∀ w1,Below W.heap.size W w1->MM c w1 s vv fv sv ov/\G8 c w1 fv sv ov s.way):=fun w1 hb=>⟨h.below ok hg hb,(hb.block _ hgl).trans hg⟩
 have HX:Hid (∀ w1,Below W.heap.size W w1->w1.cell? ⟨fb,fs.length * 14,none⟩=some (.pointer (some ⟨c.pb,0,none⟩))/\w1.cell? ⟨fb,fs.length * 14+1,none⟩=some (.int .i64 (f.at':Int))/\w1.cell? ⟨c.pb,0,none⟩=some (.pointer (some ⟨c.ob,c.oo,none⟩))/\fb<w1.heap.size/\c.pb<w1.heap.size/\w1.frozen? ⟨fb,fs.length * 14+1,none⟩=false):=fun w1 hb=>by
  obtain⟨m1,_⟩:=(⟨h.below ok hg hb,trivial⟩:MM c w1 s vv fv sv ov/\True)
  refine⟨(hb.cell (p:=⟨fb,fs.length * 14,none⟩) hfb).trans (hfc 0 _ rfl),(hb.cell (p:=⟨fb,fs.length * 14+1,none⟩) hfb).trans (hfc 1 _ rfl),(zc m1.pk).trans rfl,Nat.lt_of_lt_of_le hfb hb.size,zk m1.pk,?_⟩
  rcases m1.fr.2 with⟨e,_⟩|⟨g',cp',cur',e,_,hh,_⟩
  ·rw[e]at hfv;cases hfv
  ·rw[e]at hfv
   simp only [Value.slice.injEq,Option.some.injEq,Addr.mk.injEq]at hfv
   rw[<-hfv.1.1]
   exact zr hh
 have HFO:=zh (h.ff f (by rw[hf];simp))
 have HF:=zh (And.intro hf (And.intro hfv hbs))
 have HOK:=zh ok
 have HAT:=zh hat
 have hai:(f.at':Int)<4000:=by omega
 have hain:(f.at':Int)<(c.O.code.length:Int):=by omega
 obtain⟨u,hu⟩:∃ u,u=Vm.going { f with at':=f.at'+1 } fs s:=⟨_,rfl⟩
 have HFU:Hid (u.frames={ f with at':=f.at'+1 } :: fs):=by rw[hu];rfl
 have HBU:Hid (f.base<=u.stack.length):=by rw[hu];exact HF.out.2.2
 have HWU:Hid (u.way=s.way):=by rw[hu];rfl
 have HUU:=zh hu
 rw[<-hu]
 clear hu
 have HIB:=zh hIB
 clear hbs hfc hfv h hg hf hIB
 go_enter Tryz.func76,Tryz.ntmps76
 go_wp2_with fail
 refine HLA.out.mono ?_
 rintro e w1 ⟨rfl,hb1⟩
 obtain⟨x0,x1,x2,hfb1,hpb1,z1⟩:=HX.out w1 hb1
 obtain⟨hm1,hg1⟩:=HM.out w1 hb1
 obtain⟨eb,eo,cc,k6,heb,hob,e0,e1,e2⟩:=HCD.out w1 hm1.be
 obtain⟨w2,hw2⟩:∃ w2,w2=(w1.alloc (.cells #[.int .i64 12,.int .i64 (xk:Int),.int .i64 xb] 68)).drew:=⟨_,rfl⟩
 have HB2:Hid (Below w1.heap.size w1 w2):=by rw[hw2];exact(zb _ _).drew
 have hk2:w2.heap[w1.heap.size]?=some (.cells #[.int .i64 12,.int .i64 (xk:Int),.int .i64 xb] 68 (0,0)):=by rw[hw2];exact zw w1 _
 have HK2:=zh hk2
 have HB12:Hid (Below W.heap.size W w2):=hb1.trans (HB2.out.mono hb1.size)
 obtain⟨y0,y1,_,hfb2,hpb2,z2⟩:=HX.out w2 HB12.out
 obtain⟨hm2,hg2⟩:=HM.out w2 HB12.out
 obtain⟨w3,hw3⟩:∃ w3,w3=w2.setCell ⟨fb,fs.length * 14+1,none⟩ (.int .i64 ((f.at':Int)+1)):=⟨_,rfl⟩
 have hfo':FrOk c { f with at':=f.at'+1 }:=⟨HFO.out.of,HFO.out.ll,HFO.out.li,HFO.out.mn,by show f.at'+1<=4000;omega,HFO.out.bs⟩
 obtain⟨f1,f2⟩:=hm2.frset hg2 HF.out.1 HF.out.2.1 1 (.int .i64 ((f.at':Int)+1)) hfo' (yu c f (f.at'+1))
 rw[<-hw3]at f1 f2
 have hxw:w1.heap.size≠fb:=by omega
 have hxg:w1.heap.size≠c.gb:=by have:=zk hg1;omega
 have hk3:w3.heap[w1.heap.size]?=some (.cells #[.int .i64 12,.int .i64 (xk:Int),.int .i64 xb] 68 (0,0)):=by rw[hw3];exact(Below.heap_setCell _ _ _ _ (by simpa using hxw)).trans hk2
 have q0:w3.cell? ⟨w1.heap.size,0,none⟩=some (.int .i64 12):=(zc hk3).trans rfl
 have q1:w3.cell? ⟨w1.heap.size,1,none⟩=some (.int .i64 (xk:Int)):=(zc hk3).trans rfl
 have q2:w3.cell? ⟨w1.heap.size,2,none⟩=some (.int .i64 xb):=(zc hk3).trans rfl
 have hxl3:w1.heap.size<w3.heap.size:=zk hk3
 have hgl3:c.gb<w3.heap.size:=zk f2
 rw[<-HUU.out]at f1
 have HM3:=zh f1
 have HG3:Hid (G8 c w3 fv sv ov u.way):=by rw[HWU.out];exact f2
 have HK3:=zh hk3
 have HFIN2:Hid (w3.cell? ⟨fb,fs.length * 14+1,none⟩=some (.int .i64 ((f.at':Int)+1))/\w3.frozen? ⟨fb,fs.length * 14+1,none⟩=false/\StepP c (Vm.going ({ f with at':=xk }:Fr) fs u) (.returned (.tuple #[])) (w3.setCell ⟨fb,fs.length * 14+1,none⟩ (.int .i64 (xk:Int)))):=by
  obtain⟨fb',cap',hfv',hfb',_,hfc'⟩:=HM3.out.top HFU.out
  have hfq:fb'=fb:=by
   have:=HF.out.2.1.symm.trans hfv'
   simp only [Value.slice.injEq,Option.some.injEq,Addr.mk.injEq]at this
   exact this.1.1.symm
  subst hfq
  have j1:w3.cell? ⟨fb',fs.length * 14+1,none⟩=some (.int .i64 ((f.at':Int)+1)):=hfc' 1 _ rfl
  have zj:w3.frozen? ⟨fb',fs.length * 14+1,none⟩=false:=by
   rcases HM3.out.fr.2 with⟨e,_⟩|⟨g',cp',cur',e,_,hh,_⟩
   ·rw[e]at hfv';cases hfv'
   ·rw[e]at hfv'
    simp only [Value.slice.injEq,Option.some.injEq,Addr.mk.injEq]at hfv'
    rw[<-hfv'.1.1]
    exact zr hh
  obtain⟨p1,p2⟩:=HM3.out.frset HG3.out (f':={ f with at':=xk }) HFU.out HF.out.2.1 1 (.int .i64 (xk:Int)) ⟨HFO.out.of,HFO.out.ll,HFO.out.li,HFO.out.mn,by have:=HIB.out.2;show xk<=4000;omega,HFO.out.bs⟩ (yu c { f with at':=f.at'+1 } xk)
  exact⟨j1,zj,rfl,_,_,_,_,p1,p2⟩
 obtain⟨j1,zj,hfin⟩:=HFIN2.out
 have HFIN:=zh hfin
 have hfb3:fb<w3.heap.size:=zi j1
 clear hfin HFIN2
 clear hm1 hg1 hm2 hg2 f1 f2 hk3 hk2 hb1 HX HM HLA hfo' hex HCD
 generalize f.at'=at' at *
 have HS1:Hid (∀ w9,Below w1.heap.size w1 w9->w9.cell? ⟨fb,fs.length * 14,none⟩=some (.pointer (some ⟨c.pb,0,none⟩))/\w9.cell? ⟨fb,fs.length * 14+1,none⟩=some (.int .i64 (at':Int))/\w9.cell? ⟨c.pb,0,none⟩=some (.pointer (some ⟨c.ob,c.oo,none⟩))/\w9.cell? ⟨c.ob,c.oo+6,none⟩=some (.slice (some ⟨eb,eo,none⟩) c.O.code.length cc)/\w9.cell? ⟨eb,eo+at' * 3,none⟩=some (.int .i64 12)/\w9.cell? ⟨eb,eo+at' * 3+1,none⟩=some (.int .i64 (xk:Int))/\w9.cell? ⟨eb,eo+at' * 3+2,none⟩=some (.int .i64 xb)):=fun w9 hb=>⟨(hb.cell (p:=⟨fb,fs.length * 14,none⟩) hfb1).trans x0,(hb.cell (p:=⟨fb,fs.length * 14+1,none⟩) hfb1).trans x1,(hb.cell (p:=⟨c.pb,0,none⟩) hpb1).trans x2,(hb.cell (p:=⟨c.ob,c.oo+6,none⟩) hob).trans k6,(hb.cell (p:=⟨eb,eo+at' * 3,none⟩) heb).trans e0,(hb.cell (p:=⟨eb,eo+at' * 3+1,none⟩) heb).trans e1,(hb.cell (p:=⟨eb,eo+at' * 3+2,none⟩) heb).trans e2⟩
 have HS0:=zh (HS1.out _ (zt w1))
 have HSA:Hid (∀ o,(w1.alloc o).drew.cell? ⟨fb,fs.length * 14,none⟩=some (.pointer (some ⟨c.pb,0,none⟩))/\(w1.alloc o).drew.cell? ⟨fb,fs.length * 14+1,none⟩=some (.int .i64 (at':Int))/\(w1.alloc o).drew.cell? ⟨c.pb,0,none⟩=some (.pointer (some ⟨c.ob,c.oo,none⟩))/\(w1.alloc o).drew.cell? ⟨c.ob,c.oo+6,none⟩=some (.slice (some ⟨eb,eo,none⟩) c.O.code.length cc)/\(w1.alloc o).drew.cell? ⟨eb,eo+at' * 3,none⟩=some (.int .i64 12)/\(w1.alloc o).drew.cell? ⟨eb,eo+at' * 3+1,none⟩=some (.int .i64 (xk:Int))/\(w1.alloc o).drew.cell? ⟨eb,eo+at' * 3+2,none⟩=some (.int .i64 xb)):=fun o=>HS1.out _ (zb _ _).drew
 go_upto_region 1 with fail
 go_region_held3 (fun w9=>w9.cell? ⟨fb,fs.length * 14,none⟩=some (.pointer (some ⟨c.pb,0,none⟩))/\w9.cell? ⟨fb,fs.length * 14+1,none⟩=some (.int .i64 (at':Int))/\w9.cell? ⟨c.pb,0,none⟩=some (.pointer (some ⟨c.ob,c.oo,none⟩))/\w9.cell? ⟨c.ob,c.oo+6,none⟩=some (.slice (some ⟨eb,eo,none⟩) c.O.code.length cc)/\w9.cell? ⟨eb,eo+at' * 3,none⟩=some (.int .i64 12)/\w9.cell? ⟨eb,eo+at' * 3+1,none⟩=some (.int .i64 (xk:Int))/\w9.cell? ⟨eb,eo+at' * 3+2,none⟩=some (.int .i64 xb)) (with_reducible (first|exact HS0.out|exact HSA.out _)) (fail)
 rw[<-hw2]
 clear hw2 x0 x1 e0 e1 e2 k6
 go_upto_region 3 with fail
 rw[<-hw3]
 clear hw3 y0 y1
 go_wp2_with fail
 first|exact ze rfl rfl HFIN.out|exact bodyPost_ret (v:=.tuple #[]) (by simp[results,Tryz.results76,go_sem]) rfl HFIN.out
theorem step_13 {c:Vx}{W:World}{s:St}{vv:List (List Int)}{fv sv ov:Value}(h:MM c W s vv fv sv ov) (ok:VxOk c) (hg:G8 c W fv sv ov s.way) {f:Fr}{fs:List Fr}(hf:s.frames=f :: fs) (hbs:f.base<=s.stack.length) (hat:f.at'<c.O.code.length) (hop:c.O.code[f.at'].op=13) :
  Calls Tryz.prog 76 #[.pointer (some ⟨c.gb,0,none⟩)] W (StepP c (Vm.exec c.most { f with at':=f.at'+1 } fs ⟨c.O,vv⟩ c.O.code[f.at'] (Vm.going { f with at':=f.at'+1 } fs s))):=by
 obtain⟨fb,cap,hfv,hfb,hcap,hfc⟩:=h.top hf
 have hgl:=zk hg
 have hcl:=zP ok
 have HLA:=zh (last8 h hg hf hfv)
 have hI:=ok.i64 _ (List.getElem_mem hat)
 have hIB:=inst8 ok hat
 have HCD:Hid (∀ w1,Below c.w0.heap.size c.w0 w1->∃ b o cc,w1.cell? ⟨c.ob,c.oo+6,none⟩=some (.slice (some ⟨b,o,none⟩) c.O.code.length cc)/\b<w1.heap.size/\c.ob<w1.heap.size/\w1.cell? ⟨b,o+f.at' * 3,none⟩=some (.int .i64 c.O.code[f.at'].op)/\w1.cell? ⟨b,o+f.at' * 3+1,none⟩=some (.int .i64 c.O.code[f.at'].a)/\w1.cell? ⟨b,o+f.at' * 3+2,none⟩=some (.int .i64 c.O.code[f.at'].b)):=fun w1 hb=>code8 ok hb hat
 generalize c.O.code[f.at']=x at *
 obtain⟨xop,xa,xb⟩:=x
 simp only at hop hI HCD
 subst hop
 unfold Ob.instB at hIB
 have hIB:0<=xa/\xa<(c.O.code.length:Int):=by simp[Ob.countsB,Ob.choices]at hIB;exact hIB.2
 obtain⟨xk,rfl⟩:∃ xk:Nat,xa=(xk:Int):=⟨xa.toNat,by omega⟩
 have hex:∀ t,Vm.exec c.most { f with at':=f.at'+1 } fs ⟨c.O,vv⟩ ⟨13,(xk:Int),xb⟩ t=Vm.taken f.base t fun n s=>if n=0 then Vm.going ({ f with at':=xk }:Fr) fs s else s:=fun t=>by simp[Vm.exec]
 rw[hex]
 have HM:Hid (∀ w1,Below W.heap.size W w1->MM c w1 s vv fv sv ov/\G8 c w1 fv sv ov s.way):=fun w1 hb=>⟨h.below ok hg hb,(hb.block _ hgl).trans hg⟩
 have HX:Hid (∀ w1,Below W.heap.size W w1->w1.cell? ⟨fb,fs.length * 14,none⟩=some (.pointer (some ⟨c.pb,0,none⟩))/\w1.cell? ⟨fb,fs.length * 14+1,none⟩=some (.int .i64 (f.at':Int))/\w1.cell? ⟨c.pb,0,none⟩=some (.pointer (some ⟨c.ob,c.oo,none⟩))/\fb<w1.heap.size/\c.pb<w1.heap.size/\w1.frozen? ⟨fb,fs.length * 14+1,none⟩=false):=fun w1 hb=>by
  obtain⟨m1,_⟩:=(⟨h.below ok hg hb,trivial⟩:MM c w1 s vv fv sv ov/\True)
  refine⟨(hb.cell (p:=⟨fb,fs.length * 14,none⟩) hfb).trans (hfc 0 _ rfl),(hb.cell (p:=⟨fb,fs.length * 14+1,none⟩) hfb).trans (hfc 1 _ rfl),(zc m1.pk).trans rfl,Nat.lt_of_lt_of_le hfb hb.size,zk m1.pk,?_⟩
  rcases m1.fr.2 with⟨e,_⟩|⟨g',cp',cur',e,_,hh,_⟩
  ·rw[e]at hfv;cases hfv
  ·rw[e]at hfv
   simp only [Value.slice.injEq,Option.some.injEq,Addr.mk.injEq]at hfv
   rw[<-hfv.1.1]
   exact zr hh
 have HFO:=zh (h.ff f (by rw[hf];simp))
 have HF:=zh (And.intro hf (And.intro hfv hbs))
 have HOK:=zh ok
 have HAT:=zh hat
 have hai:(f.at':Int)<4000:=by omega
 have hain:(f.at':Int)<(c.O.code.length:Int):=by omega
 obtain⟨u,hu⟩:∃ u,u=Vm.going { f with at':=f.at'+1 } fs s:=⟨_,rfl⟩
 have HFU:Hid (u.frames={ f with at':=f.at'+1 } :: fs):=by rw[hu];rfl
 have HBU:Hid (f.base<=u.stack.length):=by rw[hu];exact HF.out.2.2
 have HWU:Hid (u.way=s.way):=by rw[hu];rfl
 have HUU:=zh hu
 rw[<-hu]
 clear hu
 have HIB:=zh hIB
 clear hbs hfc hfv h hg hf hIB
 go_enter Tryz.func76,Tryz.ntmps76
 go_wp2_with fail
 refine HLA.out.mono ?_
 rintro e w1 ⟨rfl,hb1⟩
 obtain⟨x0,x1,x2,hfb1,hpb1,z1⟩:=HX.out w1 hb1
 obtain⟨hm1,hg1⟩:=HM.out w1 hb1
 obtain⟨eb,eo,cc,k6,heb,hob,e0,e1,e2⟩:=HCD.out w1 hm1.be
 obtain⟨w2,hw2⟩:∃ w2,w2=(w1.alloc (.cells #[.int .i64 13,.int .i64 (xk:Int),.int .i64 xb] 68)).drew:=⟨_,rfl⟩
 have HB2:Hid (Below w1.heap.size w1 w2):=by rw[hw2];exact(zb _ _).drew
 have hk2:w2.heap[w1.heap.size]?=some (.cells #[.int .i64 13,.int .i64 (xk:Int),.int .i64 xb] 68 (0,0)):=by rw[hw2];exact zw w1 _
 have HK2:=zh hk2
 have HB12:Hid (Below W.heap.size W w2):=hb1.trans (HB2.out.mono hb1.size)
 obtain⟨y0,y1,_,hfb2,hpb2,z2⟩:=HX.out w2 HB12.out
 obtain⟨hm2,hg2⟩:=HM.out w2 HB12.out
 obtain⟨w3,hw3⟩:∃ w3,w3=w2.setCell ⟨fb,fs.length * 14+1,none⟩ (.int .i64 ((f.at':Int)+1)):=⟨_,rfl⟩
 have hfo':FrOk c { f with at':=f.at'+1 }:=⟨HFO.out.of,HFO.out.ll,HFO.out.li,HFO.out.mn,by show f.at'+1<=4000;omega,HFO.out.bs⟩
 obtain⟨f1,f2⟩:=hm2.frset hg2 HF.out.1 HF.out.2.1 1 (.int .i64 ((f.at':Int)+1)) hfo' (yu c f (f.at'+1))
 rw[<-hw3]at f1 f2
 have hxw:w1.heap.size≠fb:=by omega
 have hxg:w1.heap.size≠c.gb:=by have:=zk hg1;omega
 have hk3:w3.heap[w1.heap.size]?=some (.cells #[.int .i64 13,.int .i64 (xk:Int),.int .i64 xb] 68 (0,0)):=by rw[hw3];exact(Below.heap_setCell _ _ _ _ (by simpa using hxw)).trans hk2
 have q0:w3.cell? ⟨w1.heap.size,0,none⟩=some (.int .i64 13):=(zc hk3).trans rfl
 have q1:w3.cell? ⟨w1.heap.size,1,none⟩=some (.int .i64 (xk:Int)):=(zc hk3).trans rfl
 have q2:w3.cell? ⟨w1.heap.size,2,none⟩=some (.int .i64 xb):=(zc hk3).trans rfl
 have hxl3:w1.heap.size<w3.heap.size:=zk hk3
 have hgl3:c.gb<w3.heap.size:=zk f2
 rw[<-HUU.out]at f1
 have HM3:=zh f1
 have HG3:Hid (G8 c w3 fv sv ov u.way):=by rw[HWU.out];exact f2
 have HK3:=zh hk3
 have HT:=zh (take8 HM3.out HOK.out HG3.out HFU.out)
 clear hm1 hg1 hm2 hg2 f1 f2 hk3 hk2 hb1 HX HM HLA hfo' hex HCD
 generalize f.at'=at' at *
 have HS1:Hid (∀ w9,Below w1.heap.size w1 w9->w9.cell? ⟨fb,fs.length * 14,none⟩=some (.pointer (some ⟨c.pb,0,none⟩))/\w9.cell? ⟨fb,fs.length * 14+1,none⟩=some (.int .i64 (at':Int))/\w9.cell? ⟨c.pb,0,none⟩=some (.pointer (some ⟨c.ob,c.oo,none⟩))/\w9.cell? ⟨c.ob,c.oo+6,none⟩=some (.slice (some ⟨eb,eo,none⟩) c.O.code.length cc)/\w9.cell? ⟨eb,eo+at' * 3,none⟩=some (.int .i64 13)/\w9.cell? ⟨eb,eo+at' * 3+1,none⟩=some (.int .i64 (xk:Int))/\w9.cell? ⟨eb,eo+at' * 3+2,none⟩=some (.int .i64 xb)):=fun w9 hb=>⟨(hb.cell (p:=⟨fb,fs.length * 14,none⟩) hfb1).trans x0,(hb.cell (p:=⟨fb,fs.length * 14+1,none⟩) hfb1).trans x1,(hb.cell (p:=⟨c.pb,0,none⟩) hpb1).trans x2,(hb.cell (p:=⟨c.ob,c.oo+6,none⟩) hob).trans k6,(hb.cell (p:=⟨eb,eo+at' * 3,none⟩) heb).trans e0,(hb.cell (p:=⟨eb,eo+at' * 3+1,none⟩) heb).trans e1,(hb.cell (p:=⟨eb,eo+at' * 3+2,none⟩) heb).trans e2⟩
 have HS0:=zh (HS1.out _ (zt w1))
 have HSA:Hid (∀ o,(w1.alloc o).drew.cell? ⟨fb,fs.length * 14,none⟩=some (.pointer (some ⟨c.pb,0,none⟩))/\(w1.alloc o).drew.cell? ⟨fb,fs.length * 14+1,none⟩=some (.int .i64 (at':Int))/\(w1.alloc o).drew.cell? ⟨c.pb,0,none⟩=some (.pointer (some ⟨c.ob,c.oo,none⟩))/\(w1.alloc o).drew.cell? ⟨c.ob,c.oo+6,none⟩=some (.slice (some ⟨eb,eo,none⟩) c.O.code.length cc)/\(w1.alloc o).drew.cell? ⟨eb,eo+at' * 3,none⟩=some (.int .i64 13)/\(w1.alloc o).drew.cell? ⟨eb,eo+at' * 3+1,none⟩=some (.int .i64 (xk:Int))/\(w1.alloc o).drew.cell? ⟨eb,eo+at' * 3+2,none⟩=some (.int .i64 xb)):=fun o=>HS1.out _ (zb _ _).drew
 go_upto_region 1 with fail
 go_region_held3 (fun w9=>w9.cell? ⟨fb,fs.length * 14,none⟩=some (.pointer (some ⟨c.pb,0,none⟩))/\w9.cell? ⟨fb,fs.length * 14+1,none⟩=some (.int .i64 (at':Int))/\w9.cell? ⟨c.pb,0,none⟩=some (.pointer (some ⟨c.ob,c.oo,none⟩))/\w9.cell? ⟨c.ob,c.oo+6,none⟩=some (.slice (some ⟨eb,eo,none⟩) c.O.code.length cc)/\w9.cell? ⟨eb,eo+at' * 3,none⟩=some (.int .i64 13)/\w9.cell? ⟨eb,eo+at' * 3+1,none⟩=some (.int .i64 (xk:Int))/\w9.cell? ⟨eb,eo+at' * 3+2,none⟩=some (.int .i64 xb)) (with_reducible (first|exact HS0.out|exact HSA.out _)) (fail)
 rw[<-hw2]
 clear hw2 x0 x1 e0 e1 e2 k6
 go_upto_region 3 with fail
 rw[<-hw3]
 clear hw3 y0 y1
 go_wp2_with fail
 refine HT.out.mono ?_
 intro e w4 hq
 obtain⟨hkg,hq⟩:=hq
 have hb4:=(hkg.block _ hxl3 hxg).trans HK3.out
 have r1:w4.cell? ⟨w1.heap.size,1,none⟩=some (.int .i64 (xk:Int)):=(zc hb4).trans rfl
 have hxl4:w1.heap.size<w4.heap.size:=zk hb4
 by_cases h1:u.stack.length<=f.base
 ·rw[if_pos h1]at hq
  obtain⟨rfl,hm4,hg4⟩:=hq
  have HFIN:Hid (StepP c (Vm.taken f.base u fun n s=>if n=0 then Vm.going ({ f with at':=xk }:Fr) fs s else s) (.returned (.tuple #[])) w4):=⟨rfl,by rw[yf h1];exact hm4.mv8 hg4⟩
  clear hm4 hg4 h1 hkg hb4
  go_wp2_with fail
  first|exact ze rfl rfl HFIN.out|exact bodyPost_ret (v:=.tuple #[]) (by simp[results,Tryz.results76,go_sem]) rfl HFIN.out
 ·rw[if_neg h1]at hq
  obtain⟨n,r,sv',hs,rfl,hm4,hg4⟩:=hq
  by_cases hn0:n=0
  ·subst hn0
   have HFIN2:Hid (w4.cell? ⟨fb,fs.length * 14+1,none⟩=some (.int .i64 ((at':Int)+1))/\w4.frozen? ⟨fb,fs.length * 14+1,none⟩=false/\StepP c (Vm.taken f.base u fun n s=>if n=0 then Vm.going ({ f with at':=xk }:Fr) fs s else s) (.returned (.tuple #[])) (w4.setCell ⟨fb,fs.length * 14+1,none⟩ (.int .i64 (xk:Int)))):=by
    obtain⟨fb',cap',hfv',hfb',_,hfc'⟩:=hm4.top HFU.out
    have hfq:fb'=fb:=by
     have:=HF.out.2.1.symm.trans hfv'
     simp only [Value.slice.injEq,Option.some.injEq,Addr.mk.injEq]at this
     exact this.1.1.symm
    subst hfq
    have j1:w4.cell? ⟨fb',fs.length * 14+1,none⟩=some (.int .i64 ((at':Int)+1)):=hfc' 1 _ rfl
    have zj:w4.frozen? ⟨fb',fs.length * 14+1,none⟩=false:=by
     rcases hm4.fr.2 with⟨e,_⟩|⟨g',cp',cur',e,_,hh,_⟩
     ·rw[e]at hfv';cases hfv'
     ·rw[e]at hfv'
      simp only [Value.slice.injEq,Option.some.injEq,Addr.mk.injEq]at hfv'
      rw[<-hfv'.1.1]
      exact zr hh
    obtain⟨p1,p2⟩:=hm4.frset hg4 (f':={ f with at':=xk }) HFU.out HF.out.2.1 1 (.int .i64 (xk:Int)) ⟨HFO.out.of,HFO.out.ll,HFO.out.li,HFO.out.mn,by have:=HIB.out.2;show xk<=4000;omega,HFO.out.bs⟩ (yu c { f with at':=at'+1 } xk)
    exact⟨j1,zj,rfl,by rw[zM hs h1,if_pos rfl];exact⟨_,_,_,_,p1,p2⟩⟩
   obtain⟨j1,zj,hfin⟩:=HFIN2.out
   have HFIN:=zh hfin
   have hfb4:fb<w4.heap.size:=zi j1
   clear hfin HFIN2 hm4 hg4 h1 hkg hb4 hs
   go_wp2_with fail
   first|exact ze rfl rfl HFIN.out|exact bodyPost_ret (v:=.tuple #[]) (by simp[results,Tryz.results76,go_sem]) rfl HFIN.out
  ·have HFIN:Hid (StepP c (Vm.taken f.base u fun n s=>if n=0 then Vm.going ({ f with at':=xk }:Fr) fs s else s) (.returned (.tuple #[])) w4):=⟨rfl,by rw[zM hs h1,if_neg hn0];exact⟨_,_,_,_,hm4,hg4⟩⟩
   clear hm4 hg4 h1 hkg hb4 hs
   go_wp2_with fail
   first|exact ze rfl rfl HFIN.out|exact bodyPost_ret (v:=.tuple #[]) (by simp[results,Tryz.results76,go_sem]) rfl HFIN.out
theorem step_14 {c:Vx}{W:World}{s:St}{vv:List (List Int)}{fv sv ov:Value}(h:MM c W s vv fv sv ov) (ok:VxOk c) (hg:G8 c W fv sv ov s.way) {f:Fr}{fs:List Fr}(hf:s.frames=f :: fs) (hbs:f.base<=s.stack.length) (hat:f.at'<c.O.code.length) (hop:c.O.code[f.at'].op=14) :
  Calls Tryz.prog 76 #[.pointer (some ⟨c.gb,0,none⟩)] W (StepP c (Vm.exec c.most { f with at':=f.at'+1 } fs ⟨c.O,vv⟩ c.O.code[f.at'] (Vm.going { f with at':=f.at'+1 } fs s))):=by
 obtain⟨fb,cap,hfv,hfb,hcap,hfc⟩:=h.top hf
 have hgl:=zk hg
 have hcl:=zP ok
 have HLA:=zh (last8 h hg hf hfv)
 have hI:=ok.i64 _ (List.getElem_mem hat)
 have hIB:=inst8 ok hat
 have HCD:Hid (∀ w1,Below c.w0.heap.size c.w0 w1->∃ b o cc,w1.cell? ⟨c.ob,c.oo+6,none⟩=some (.slice (some ⟨b,o,none⟩) c.O.code.length cc)/\b<w1.heap.size/\c.ob<w1.heap.size/\w1.cell? ⟨b,o+f.at' * 3,none⟩=some (.int .i64 c.O.code[f.at'].op)/\w1.cell? ⟨b,o+f.at' * 3+1,none⟩=some (.int .i64 c.O.code[f.at'].a)/\w1.cell? ⟨b,o+f.at' * 3+2,none⟩=some (.int .i64 c.O.code[f.at'].b)):=fun w1 hb=>code8 ok hb hat
 generalize c.O.code[f.at']=x at *
 obtain⟨xop,xa,xb⟩:=x
 simp only at hop hI HCD
 subst hop
 unfold Ob.instB at hIB
 have hIB:=reach8 ok (by simpa using hIB)
 simp only at hIB
 obtain⟨rfl,hI1,hI2⟩:=hIB
 obtain⟨xk,rfl⟩:∃ xk:Nat,xa=(xk:Int):=⟨xa.toNat,by omega⟩
 have hof:f.of=c.O.name:=(h.ff f (by rw[hf];simp)).of
 have hIB:=True.intro
 have hex:∀ t,Vm.exec c.most { f with at':=f.at'+1 } fs ⟨c.O,vv⟩ ⟨14,(xk:Int),(-1)⟩ t=Vm.invoke c.most f.base c.O.name ⟨c.O,vv⟩ xk t:=fun t=>by simp[Vm.exec,hof]
 rw[hex]
 have HM:Hid (∀ w1,Below W.heap.size W w1->MM c w1 s vv fv sv ov/\G8 c w1 fv sv ov s.way):=fun w1 hb=>⟨h.below ok hg hb,(hb.block _ hgl).trans hg⟩
 have HX:Hid (∀ w1,Below W.heap.size W w1->w1.cell? ⟨fb,fs.length * 14,none⟩=some (.pointer (some ⟨c.pb,0,none⟩))/\w1.cell? ⟨fb,fs.length * 14+1,none⟩=some (.int .i64 (f.at':Int))/\w1.cell? ⟨c.pb,0,none⟩=some (.pointer (some ⟨c.ob,c.oo,none⟩))/\fb<w1.heap.size/\c.pb<w1.heap.size/\w1.frozen? ⟨fb,fs.length * 14+1,none⟩=false):=fun w1 hb=>by
  obtain⟨m1,_⟩:=(⟨h.below ok hg hb,trivial⟩:MM c w1 s vv fv sv ov/\True)
  refine⟨(hb.cell (p:=⟨fb,fs.length * 14,none⟩) hfb).trans (hfc 0 _ rfl),(hb.cell (p:=⟨fb,fs.length * 14+1,none⟩) hfb).trans (hfc 1 _ rfl),(zc m1.pk).trans rfl,Nat.lt_of_lt_of_le hfb hb.size,zk m1.pk,?_⟩
  rcases m1.fr.2 with⟨e,_⟩|⟨g',cp',cur',e,_,hh,_⟩
  ·rw[e]at hfv;cases hfv
  ·rw[e]at hfv
   simp only [Value.slice.injEq,Option.some.injEq,Addr.mk.injEq]at hfv
   rw[<-hfv.1.1]
   exact zr hh
 have HFO:=zh (h.ff f (by rw[hf];simp))
 have HF:=zh (And.intro hf (And.intro hfv hbs))
 have HOK:=zh ok
 have HAT:=zh hat
 have hai:(f.at':Int)<4000:=by omega
 have hain:(f.at':Int)<(c.O.code.length:Int):=by omega
 obtain⟨u,hu⟩:∃ u,u=Vm.going { f with at':=f.at'+1 } fs s:=⟨_,rfl⟩
 have HFU:Hid (u.frames={ f with at':=f.at'+1 } :: fs):=by rw[hu];rfl
 have HBU:Hid (f.base<=u.stack.length):=by rw[hu];exact HF.out.2.2
 have HWU:Hid (u.way=s.way):=by rw[hu];rfl
 have HUU:=zh hu
 rw[<-hu]
 clear hu
 have HIB:=zh hIB
 clear hbs hfc hfv h hg hf hIB
 go_enter Tryz.func76,Tryz.ntmps76
 go_wp2_with fail
 refine HLA.out.mono ?_
 rintro e w1 ⟨rfl,hb1⟩
 obtain⟨x0,x1,x2,hfb1,hpb1,z1⟩:=HX.out w1 hb1
 obtain⟨hm1,hg1⟩:=HM.out w1 hb1
 obtain⟨eb,eo,cc,k6,heb,hob,e0,e1,e2⟩:=HCD.out w1 hm1.be
 obtain⟨w2,hw2⟩:∃ w2,w2=(w1.alloc (.cells #[.int .i64 14,.int .i64 (xk:Int),.int .i64 (-1)] 68)).drew:=⟨_,rfl⟩
 have HB2:Hid (Below w1.heap.size w1 w2):=by rw[hw2];exact(zb _ _).drew
 have hk2:w2.heap[w1.heap.size]?=some (.cells #[.int .i64 14,.int .i64 (xk:Int),.int .i64 (-1)] 68 (0,0)):=by rw[hw2];exact zw w1 _
 have HK2:=zh hk2
 have HB12:Hid (Below W.heap.size W w2):=hb1.trans (HB2.out.mono hb1.size)
 obtain⟨y0,y1,_,hfb2,hpb2,z2⟩:=HX.out w2 HB12.out
 obtain⟨hm2,hg2⟩:=HM.out w2 HB12.out
 obtain⟨w3,hw3⟩:∃ w3,w3=w2.setCell ⟨fb,fs.length * 14+1,none⟩ (.int .i64 ((f.at':Int)+1)):=⟨_,rfl⟩
 have hfo':FrOk c { f with at':=f.at'+1 }:=⟨HFO.out.of,HFO.out.ll,HFO.out.li,HFO.out.mn,by show f.at'+1<=4000;omega,HFO.out.bs⟩
 obtain⟨f1,f2⟩:=hm2.frset hg2 HF.out.1 HF.out.2.1 1 (.int .i64 ((f.at':Int)+1)) hfo' (yu c f (f.at'+1))
 rw[<-hw3]at f1 f2
 have hxw:w1.heap.size≠fb:=by omega
 have hxg:w1.heap.size≠c.gb:=by have:=zk hg1;omega
 have hk3:w3.heap[w1.heap.size]?=some (.cells #[.int .i64 14,.int .i64 (xk:Int),.int .i64 (-1)] 68 (0,0)):=by rw[hw3];exact(Below.heap_setCell _ _ _ _ (by simpa using hxw)).trans hk2
 have q0:w3.cell? ⟨w1.heap.size,0,none⟩=some (.int .i64 14):=(zc hk3).trans rfl
 have q1:w3.cell? ⟨w1.heap.size,1,none⟩=some (.int .i64 (xk:Int)):=(zc hk3).trans rfl
 have q2:w3.cell? ⟨w1.heap.size,2,none⟩=some (.int .i64 (-1)):=(zc hk3).trans rfl
 have hxl3:w1.heap.size<w3.heap.size:=zk hk3
 have hgl3:c.gb<w3.heap.size:=zk f2
 rw[<-HUU.out]at f1
 have HM3:=zh f1
 have HG3:Hid (G8 c w3 fv sv ov u.way):=by rw[HWU.out];exact f2
 have HK3:=zh hk3
 have HC:=zh (invoke8 HM3.out HOK.out HG3.out HFU.out HBU.out 14 (i:=xk) (by omega))
 clear hm1 hg1 hm2 hg2 f1 f2 hk3 hk2 hb1 HX HM HLA hfo' hex HCD
 generalize f.at'=at' at *
 have HS1:Hid (∀ w9,Below w1.heap.size w1 w9->w9.cell? ⟨fb,fs.length * 14,none⟩=some (.pointer (some ⟨c.pb,0,none⟩))/\w9.cell? ⟨fb,fs.length * 14+1,none⟩=some (.int .i64 (at':Int))/\w9.cell? ⟨c.pb,0,none⟩=some (.pointer (some ⟨c.ob,c.oo,none⟩))/\w9.cell? ⟨c.ob,c.oo+6,none⟩=some (.slice (some ⟨eb,eo,none⟩) c.O.code.length cc)/\w9.cell? ⟨eb,eo+at' * 3,none⟩=some (.int .i64 14)/\w9.cell? ⟨eb,eo+at' * 3+1,none⟩=some (.int .i64 (xk:Int))/\w9.cell? ⟨eb,eo+at' * 3+2,none⟩=some (.int .i64 (-1))):=fun w9 hb=>⟨(hb.cell (p:=⟨fb,fs.length * 14,none⟩) hfb1).trans x0,(hb.cell (p:=⟨fb,fs.length * 14+1,none⟩) hfb1).trans x1,(hb.cell (p:=⟨c.pb,0,none⟩) hpb1).trans x2,(hb.cell (p:=⟨c.ob,c.oo+6,none⟩) hob).trans k6,(hb.cell (p:=⟨eb,eo+at' * 3,none⟩) heb).trans e0,(hb.cell (p:=⟨eb,eo+at' * 3+1,none⟩) heb).trans e1,(hb.cell (p:=⟨eb,eo+at' * 3+2,none⟩) heb).trans e2⟩
 have HS0:=zh (HS1.out _ (zt w1))
 have HSA:Hid (∀ o,(w1.alloc o).drew.cell? ⟨fb,fs.length * 14,none⟩=some (.pointer (some ⟨c.pb,0,none⟩))/\(w1.alloc o).drew.cell? ⟨fb,fs.length * 14+1,none⟩=some (.int .i64 (at':Int))/\(w1.alloc o).drew.cell? ⟨c.pb,0,none⟩=some (.pointer (some ⟨c.ob,c.oo,none⟩))/\(w1.alloc o).drew.cell? ⟨c.ob,c.oo+6,none⟩=some (.slice (some ⟨eb,eo,none⟩) c.O.code.length cc)/\(w1.alloc o).drew.cell? ⟨eb,eo+at' * 3,none⟩=some (.int .i64 14)/\(w1.alloc o).drew.cell? ⟨eb,eo+at' * 3+1,none⟩=some (.int .i64 (xk:Int))/\(w1.alloc o).drew.cell? ⟨eb,eo+at' * 3+2,none⟩=some (.int .i64 (-1))):=fun o=>HS1.out _ (zb _ _).drew
 go_upto_region 1 with fail
 go_region_held3 (fun w9=>w9.cell? ⟨fb,fs.length * 14,none⟩=some (.pointer (some ⟨c.pb,0,none⟩))/\w9.cell? ⟨fb,fs.length * 14+1,none⟩=some (.int .i64 (at':Int))/\w9.cell? ⟨c.pb,0,none⟩=some (.pointer (some ⟨c.ob,c.oo,none⟩))/\w9.cell? ⟨c.ob,c.oo+6,none⟩=some (.slice (some ⟨eb,eo,none⟩) c.O.code.length cc)/\w9.cell? ⟨eb,eo+at' * 3,none⟩=some (.int .i64 14)/\w9.cell? ⟨eb,eo+at' * 3+1,none⟩=some (.int .i64 (xk:Int))/\w9.cell? ⟨eb,eo+at' * 3+2,none⟩=some (.int .i64 (-1))) (with_reducible (first|exact HS0.out|exact HSA.out _)) (fail)
 rw[<-hw2]
 clear hw2 x0 x1 e0 e1 e2 k6
 go_upto_region 3 with fail
 rw[<-hw3]
 clear hw3 y0 y1
 go_wp2_with fail
 refine HC.out.mono ?_
 intro e w4 hq
 obtain⟨rfl,hw4⟩:=hq
 have HFIN:Hid (StepP c (Vm.invoke c.most f.base c.O.name ⟨c.O,vv⟩ xk u) (.returned (.tuple #[])) w4):=⟨rfl,hw4⟩
 clear hw4
 go_wp2_with fail
 first|exact ze rfl rfl HFIN.out|exact bodyPost_ret (v:=.tuple #[]) (by simp[results,Tryz.results76,go_sem]) rfl HFIN.out
theorem step_15 {c:Vx}{W:World}{s:St}{vv:List (List Int)}{fv sv ov:Value}(h:MM c W s vv fv sv ov) (ok:VxOk c) (hg:G8 c W fv sv ov s.way) {f:Fr}{fs:List Fr}(hf:s.frames=f :: fs) (hbs:f.base<=s.stack.length) (hat:f.at'<c.O.code.length) (hop:c.O.code[f.at'].op=15) :
  Calls Tryz.prog 76 #[.pointer (some ⟨c.gb,0,none⟩)] W (StepP c (Vm.exec c.most { f with at':=f.at'+1 } fs ⟨c.O,vv⟩ c.O.code[f.at'] (Vm.going { f with at':=f.at'+1 } fs s))):=by
 obtain⟨fb,cap,hfv,hfb,hcap,hfc⟩:=h.top hf
 have hgl:=zk hg
 have hcl:=zP ok
 have HLA:=zh (last8 h hg hf hfv)
 have hI:=ok.i64 _ (List.getElem_mem hat)
 have hIB:=inst8 ok hat
 have HCD:Hid (∀ w1,Below c.w0.heap.size c.w0 w1->∃ b o cc,w1.cell? ⟨c.ob,c.oo+6,none⟩=some (.slice (some ⟨b,o,none⟩) c.O.code.length cc)/\b<w1.heap.size/\c.ob<w1.heap.size/\w1.cell? ⟨b,o+f.at' * 3,none⟩=some (.int .i64 c.O.code[f.at'].op)/\w1.cell? ⟨b,o+f.at' * 3+1,none⟩=some (.int .i64 c.O.code[f.at'].a)/\w1.cell? ⟨b,o+f.at' * 3+2,none⟩=some (.int .i64 c.O.code[f.at'].b)):=fun w1 hb=>code8 ok hb hat
 generalize c.O.code[f.at']=x at *
 obtain⟨xop,xa,xb⟩:=x
 simp only at hop hI HCD
 subst hop
 unfold Ob.instB at hIB
 have hex:∀ t,Vm.exec c.most { f with at':=f.at'+1 } fs ⟨c.O,vv⟩ ⟨15,xa,xb⟩ t=Vm.leave f.base t:=fun t=>by simp[Vm.exec]
 rw[hex]
 have HM:Hid (∀ w1,Below W.heap.size W w1->MM c w1 s vv fv sv ov/\G8 c w1 fv sv ov s.way):=fun w1 hb=>⟨h.below ok hg hb,(hb.block _ hgl).trans hg⟩
 have HX:Hid (∀ w1,Below W.heap.size W w1->w1.cell? ⟨fb,fs.length * 14,none⟩=some (.pointer (some ⟨c.pb,0,none⟩))/\w1.cell? ⟨fb,fs.length * 14+1,none⟩=some (.int .i64 (f.at':Int))/\w1.cell? ⟨c.pb,0,none⟩=some (.pointer (some ⟨c.ob,c.oo,none⟩))/\fb<w1.heap.size/\c.pb<w1.heap.size/\w1.frozen? ⟨fb,fs.length * 14+1,none⟩=false):=fun w1 hb=>by
  obtain⟨m1,_⟩:=(⟨h.below ok hg hb,trivial⟩:MM c w1 s vv fv sv ov/\True)
  refine⟨(hb.cell (p:=⟨fb,fs.length * 14,none⟩) hfb).trans (hfc 0 _ rfl),(hb.cell (p:=⟨fb,fs.length * 14+1,none⟩) hfb).trans (hfc 1 _ rfl),(zc m1.pk).trans rfl,Nat.lt_of_lt_of_le hfb hb.size,zk m1.pk,?_⟩
  rcases m1.fr.2 with⟨e,_⟩|⟨g',cp',cur',e,_,hh,_⟩
  ·rw[e]at hfv;cases hfv
  ·rw[e]at hfv
   simp only [Value.slice.injEq,Option.some.injEq,Addr.mk.injEq]at hfv
   rw[<-hfv.1.1]
   exact zr hh
 have HFO:=zh (h.ff f (by rw[hf];simp))
 have HF:=zh (And.intro hf (And.intro hfv hbs))
 have HOK:=zh ok
 have HAT:=zh hat
 have hai:(f.at':Int)<4000:=by omega
 have hain:(f.at':Int)<(c.O.code.length:Int):=by omega
 obtain⟨u,hu⟩:∃ u,u=Vm.going { f with at':=f.at'+1 } fs s:=⟨_,rfl⟩
 have HFU:Hid (u.frames={ f with at':=f.at'+1 } :: fs):=by rw[hu];rfl
 have HBU:Hid (f.base<=u.stack.length):=by rw[hu];exact HF.out.2.2
 have HWU:Hid (u.way=s.way):=by rw[hu];rfl
 have HUU:=zh hu
 rw[<-hu]
 clear hu
 have HIB:=zh hIB
 clear hbs hfc hfv h hg hf hIB
 go_enter Tryz.func76,Tryz.ntmps76
 go_wp2_with fail
 refine HLA.out.mono ?_
 rintro e w1 ⟨rfl,hb1⟩
 obtain⟨x0,x1,x2,hfb1,hpb1,z1⟩:=HX.out w1 hb1
 obtain⟨hm1,hg1⟩:=HM.out w1 hb1
 obtain⟨eb,eo,cc,k6,heb,hob,e0,e1,e2⟩:=HCD.out w1 hm1.be
 obtain⟨w2,hw2⟩:∃ w2,w2=(w1.alloc (.cells #[.int .i64 15,.int .i64 xa,.int .i64 xb] 68)).drew:=⟨_,rfl⟩
 have HB2:Hid (Below w1.heap.size w1 w2):=by rw[hw2];exact(zb _ _).drew
 have hk2:w2.heap[w1.heap.size]?=some (.cells #[.int .i64 15,.int .i64 xa,.int .i64 xb] 68 (0,0)):=by rw[hw2];exact zw w1 _
 have HK2:=zh hk2
 have HB12:Hid (Below W.heap.size W w2):=hb1.trans (HB2.out.mono hb1.size)
 obtain⟨y0,y1,_,hfb2,hpb2,z2⟩:=HX.out w2 HB12.out
 obtain⟨hm2,hg2⟩:=HM.out w2 HB12.out
 obtain⟨w3,hw3⟩:∃ w3,w3=w2.setCell ⟨fb,fs.length * 14+1,none⟩ (.int .i64 ((f.at':Int)+1)):=⟨_,rfl⟩
 have hfo':FrOk c { f with at':=f.at'+1 }:=⟨HFO.out.of,HFO.out.ll,HFO.out.li,HFO.out.mn,by show f.at'+1<=4000;omega,HFO.out.bs⟩
 obtain⟨f1,f2⟩:=hm2.frset hg2 HF.out.1 HF.out.2.1 1 (.int .i64 ((f.at':Int)+1)) hfo' (yu c f (f.at'+1))
 rw[<-hw3]at f1 f2
 have hxw:w1.heap.size≠fb:=by omega
 have hxg:w1.heap.size≠c.gb:=by have:=zk hg1;omega
 have hk3:w3.heap[w1.heap.size]?=some (.cells #[.int .i64 15,.int .i64 xa,.int .i64 xb] 68 (0,0)):=by rw[hw3];exact(Below.heap_setCell _ _ _ _ (by simpa using hxw)).trans hk2
 have q0:w3.cell? ⟨w1.heap.size,0,none⟩=some (.int .i64 15):=(zc hk3).trans rfl
 have q1:w3.cell? ⟨w1.heap.size,1,none⟩=some (.int .i64 xa):=(zc hk3).trans rfl
 have q2:w3.cell? ⟨w1.heap.size,2,none⟩=some (.int .i64 xb):=(zc hk3).trans rfl
 have hxl3:w1.heap.size<w3.heap.size:=zk hk3
 have hgl3:c.gb<w3.heap.size:=zk f2
 rw[<-HUU.out]at f1
 have HM3:=zh f1
 have HG3:Hid (G8 c w3 fv sv ov u.way):=by rw[HWU.out];exact f2
 have HK3:=zh hk3
 have HC:=zh (leave8 HM3.out HOK.out HG3.out HFU.out)
 clear hm1 hg1 hm2 hg2 f1 f2 hk3 hk2 hb1 HX HM HLA hfo' hex HCD
 generalize f.at'=at' at *
 have HS1:Hid (∀ w9,Below w1.heap.size w1 w9->w9.cell? ⟨fb,fs.length * 14,none⟩=some (.pointer (some ⟨c.pb,0,none⟩))/\w9.cell? ⟨fb,fs.length * 14+1,none⟩=some (.int .i64 (at':Int))/\w9.cell? ⟨c.pb,0,none⟩=some (.pointer (some ⟨c.ob,c.oo,none⟩))/\w9.cell? ⟨c.ob,c.oo+6,none⟩=some (.slice (some ⟨eb,eo,none⟩) c.O.code.length cc)/\w9.cell? ⟨eb,eo+at' * 3,none⟩=some (.int .i64 15)/\w9.cell? ⟨eb,eo+at' * 3+1,none⟩=some (.int .i64 xa)/\w9.cell? ⟨eb,eo+at' * 3+2,none⟩=some (.int .i64 xb)):=fun w9 hb=>⟨(hb.cell (p:=⟨fb,fs.length * 14,none⟩) hfb1).trans x0,(hb.cell (p:=⟨fb,fs.length * 14+1,none⟩) hfb1).trans x1,(hb.cell (p:=⟨c.pb,0,none⟩) hpb1).trans x2,(hb.cell (p:=⟨c.ob,c.oo+6,none⟩) hob).trans k6,(hb.cell (p:=⟨eb,eo+at' * 3,none⟩) heb).trans e0,(hb.cell (p:=⟨eb,eo+at' * 3+1,none⟩) heb).trans e1,(hb.cell (p:=⟨eb,eo+at' * 3+2,none⟩) heb).trans e2⟩
 have HS0:=zh (HS1.out _ (zt w1))
 have HSA:Hid (∀ o,(w1.alloc o).drew.cell? ⟨fb,fs.length * 14,none⟩=some (.pointer (some ⟨c.pb,0,none⟩))/\(w1.alloc o).drew.cell? ⟨fb,fs.length * 14+1,none⟩=some (.int .i64 (at':Int))/\(w1.alloc o).drew.cell? ⟨c.pb,0,none⟩=some (.pointer (some ⟨c.ob,c.oo,none⟩))/\(w1.alloc o).drew.cell? ⟨c.ob,c.oo+6,none⟩=some (.slice (some ⟨eb,eo,none⟩) c.O.code.length cc)/\(w1.alloc o).drew.cell? ⟨eb,eo+at' * 3,none⟩=some (.int .i64 15)/\(w1.alloc o).drew.cell? ⟨eb,eo+at' * 3+1,none⟩=some (.int .i64 xa)/\(w1.alloc o).drew.cell? ⟨eb,eo+at' * 3+2,none⟩=some (.int .i64 xb)):=fun o=>HS1.out _ (zb _ _).drew
 go_upto_region 1 with fail
 go_region_held3 (fun w9=>w9.cell? ⟨fb,fs.length * 14,none⟩=some (.pointer (some ⟨c.pb,0,none⟩))/\w9.cell? ⟨fb,fs.length * 14+1,none⟩=some (.int .i64 (at':Int))/\w9.cell? ⟨c.pb,0,none⟩=some (.pointer (some ⟨c.ob,c.oo,none⟩))/\w9.cell? ⟨c.ob,c.oo+6,none⟩=some (.slice (some ⟨eb,eo,none⟩) c.O.code.length cc)/\w9.cell? ⟨eb,eo+at' * 3,none⟩=some (.int .i64 15)/\w9.cell? ⟨eb,eo+at' * 3+1,none⟩=some (.int .i64 xa)/\w9.cell? ⟨eb,eo+at' * 3+2,none⟩=some (.int .i64 xb)) (with_reducible (first|exact HS0.out|exact HSA.out _)) (fail)
 rw[<-hw2]
 clear hw2 x0 x1 e0 e1 e2 k6
 go_upto_region 3 with fail
 rw[<-hw3]
 clear hw3 y0 y1
 go_wp2_with fail
 refine HC.out.mono ?_
 intro e w4 hq
 obtain⟨rfl,hw4⟩:=hq
 have HFIN:Hid (StepP c (Vm.leave f.base u) (.returned (.tuple #[])) w4):=⟨rfl,hw4⟩
 clear hw4
 go_wp2_with fail
 first|exact ze rfl rfl HFIN.out|exact bodyPost_ret (v:=.tuple #[]) (by simp[results,Tryz.results76,go_sem]) rfl HFIN.out
theorem step_16 {c:Vx}{W:World}{s:St}{vv:List (List Int)}{fv sv ov:Value}(h:MM c W s vv fv sv ov) (ok:VxOk c) (hg:G8 c W fv sv ov s.way) {f:Fr}{fs:List Fr}(hf:s.frames=f :: fs) (hbs:f.base<=s.stack.length) (hat:f.at'<c.O.code.length) (hop:c.O.code[f.at'].op=16) :
  Calls Tryz.prog 76 #[.pointer (some ⟨c.gb,0,none⟩)] W (StepP c (Vm.exec c.most { f with at':=f.at'+1 } fs ⟨c.O,vv⟩ c.O.code[f.at'] (Vm.going { f with at':=f.at'+1 } fs s))):=by
 obtain⟨fb,cap,hfv,hfb,hcap,hfc⟩:=h.top hf
 have hgl:=zk hg
 have hcl:=zP ok
 have HLA:=zh (last8 h hg hf hfv)
 have hI:=ok.i64 _ (List.getElem_mem hat)
 have hIB:=inst8 ok hat
 have HCD:Hid (∀ w1,Below c.w0.heap.size c.w0 w1->∃ b o cc,w1.cell? ⟨c.ob,c.oo+6,none⟩=some (.slice (some ⟨b,o,none⟩) c.O.code.length cc)/\b<w1.heap.size/\c.ob<w1.heap.size/\w1.cell? ⟨b,o+f.at' * 3,none⟩=some (.int .i64 c.O.code[f.at'].op)/\w1.cell? ⟨b,o+f.at' * 3+1,none⟩=some (.int .i64 c.O.code[f.at'].a)/\w1.cell? ⟨b,o+f.at' * 3+2,none⟩=some (.int .i64 c.O.code[f.at'].b)):=fun w1 hb=>code8 ok hb hat
 generalize c.O.code[f.at']=x at *
 obtain⟨xop,xa,xb⟩:=x
 simp only at hop hI HCD
 subst hop
 unfold Ob.instB at hIB
 have hex:∀ t,Vm.exec c.most { f with at':=f.at'+1 } fs ⟨c.O,vv⟩ ⟨16,xa,xb⟩ t=Vm.say f.base t:=fun t=>by simp[Vm.exec]
 rw[hex]
 have HM:Hid (∀ w1,Below W.heap.size W w1->MM c w1 s vv fv sv ov/\G8 c w1 fv sv ov s.way):=fun w1 hb=>⟨h.below ok hg hb,(hb.block _ hgl).trans hg⟩
 have HX:Hid (∀ w1,Below W.heap.size W w1->w1.cell? ⟨fb,fs.length * 14,none⟩=some (.pointer (some ⟨c.pb,0,none⟩))/\w1.cell? ⟨fb,fs.length * 14+1,none⟩=some (.int .i64 (f.at':Int))/\w1.cell? ⟨c.pb,0,none⟩=some (.pointer (some ⟨c.ob,c.oo,none⟩))/\fb<w1.heap.size/\c.pb<w1.heap.size/\w1.frozen? ⟨fb,fs.length * 14+1,none⟩=false):=fun w1 hb=>by
  obtain⟨m1,_⟩:=(⟨h.below ok hg hb,trivial⟩:MM c w1 s vv fv sv ov/\True)
  refine⟨(hb.cell (p:=⟨fb,fs.length * 14,none⟩) hfb).trans (hfc 0 _ rfl),(hb.cell (p:=⟨fb,fs.length * 14+1,none⟩) hfb).trans (hfc 1 _ rfl),(zc m1.pk).trans rfl,Nat.lt_of_lt_of_le hfb hb.size,zk m1.pk,?_⟩
  rcases m1.fr.2 with⟨e,_⟩|⟨g',cp',cur',e,_,hh,_⟩
  ·rw[e]at hfv;cases hfv
  ·rw[e]at hfv
   simp only [Value.slice.injEq,Option.some.injEq,Addr.mk.injEq]at hfv
   rw[<-hfv.1.1]
   exact zr hh
 have HFO:=zh (h.ff f (by rw[hf];simp))
 have HF:=zh (And.intro hf (And.intro hfv hbs))
 have HOK:=zh ok
 have HAT:=zh hat
 have hai:(f.at':Int)<4000:=by omega
 have hain:(f.at':Int)<(c.O.code.length:Int):=by omega
 obtain⟨u,hu⟩:∃ u,u=Vm.going { f with at':=f.at'+1 } fs s:=⟨_,rfl⟩
 have HFU:Hid (u.frames={ f with at':=f.at'+1 } :: fs):=by rw[hu];rfl
 have HBU:Hid (f.base<=u.stack.length):=by rw[hu];exact HF.out.2.2
 have HWU:Hid (u.way=s.way):=by rw[hu];rfl
 have HUU:=zh hu
 rw[<-hu]
 clear hu
 have HIB:=zh hIB
 clear hbs hfc hfv h hg hf hIB
 go_enter Tryz.func76,Tryz.ntmps76
 go_wp2_with fail
 refine HLA.out.mono ?_
 rintro e w1 ⟨rfl,hb1⟩
 obtain⟨x0,x1,x2,hfb1,hpb1,z1⟩:=HX.out w1 hb1
 obtain⟨hm1,hg1⟩:=HM.out w1 hb1
 obtain⟨eb,eo,cc,k6,heb,hob,e0,e1,e2⟩:=HCD.out w1 hm1.be
 obtain⟨w2,hw2⟩:∃ w2,w2=(w1.alloc (.cells #[.int .i64 16,.int .i64 xa,.int .i64 xb] 68)).drew:=⟨_,rfl⟩
 have HB2:Hid (Below w1.heap.size w1 w2):=by rw[hw2];exact(zb _ _).drew
 have hk2:w2.heap[w1.heap.size]?=some (.cells #[.int .i64 16,.int .i64 xa,.int .i64 xb] 68 (0,0)):=by rw[hw2];exact zw w1 _
 have HK2:=zh hk2
 have HB12:Hid (Below W.heap.size W w2):=hb1.trans (HB2.out.mono hb1.size)
 obtain⟨y0,y1,_,hfb2,hpb2,z2⟩:=HX.out w2 HB12.out
 obtain⟨hm2,hg2⟩:=HM.out w2 HB12.out
 obtain⟨w3,hw3⟩:∃ w3,w3=w2.setCell ⟨fb,fs.length * 14+1,none⟩ (.int .i64 ((f.at':Int)+1)):=⟨_,rfl⟩
 have hfo':FrOk c { f with at':=f.at'+1 }:=⟨HFO.out.of,HFO.out.ll,HFO.out.li,HFO.out.mn,by show f.at'+1<=4000;omega,HFO.out.bs⟩
 obtain⟨f1,f2⟩:=hm2.frset hg2 HF.out.1 HF.out.2.1 1 (.int .i64 ((f.at':Int)+1)) hfo' (yu c f (f.at'+1))
 rw[<-hw3]at f1 f2
 have hxw:w1.heap.size≠fb:=by omega
 have hxg:w1.heap.size≠c.gb:=by have:=zk hg1;omega
 have hk3:w3.heap[w1.heap.size]?=some (.cells #[.int .i64 16,.int .i64 xa,.int .i64 xb] 68 (0,0)):=by rw[hw3];exact(Below.heap_setCell _ _ _ _ (by simpa using hxw)).trans hk2
 have q0:w3.cell? ⟨w1.heap.size,0,none⟩=some (.int .i64 16):=(zc hk3).trans rfl
 have q1:w3.cell? ⟨w1.heap.size,1,none⟩=some (.int .i64 xa):=(zc hk3).trans rfl
 have q2:w3.cell? ⟨w1.heap.size,2,none⟩=some (.int .i64 xb):=(zc hk3).trans rfl
 have hxl3:w1.heap.size<w3.heap.size:=zk hk3
 have hgl3:c.gb<w3.heap.size:=zk f2
 rw[<-HUU.out]at f1
 have HM3:=zh f1
 have HG3:Hid (G8 c w3 fv sv ov u.way):=by rw[HWU.out];exact f2
 have HK3:=zh hk3
 have HC:=zh (say8 HM3.out HOK.out HG3.out HFU.out)
 clear hm1 hg1 hm2 hg2 f1 f2 hk3 hk2 hb1 HX HM HLA hfo' hex HCD
 generalize f.at'=at' at *
 have HS1:Hid (∀ w9,Below w1.heap.size w1 w9->w9.cell? ⟨fb,fs.length * 14,none⟩=some (.pointer (some ⟨c.pb,0,none⟩))/\w9.cell? ⟨fb,fs.length * 14+1,none⟩=some (.int .i64 (at':Int))/\w9.cell? ⟨c.pb,0,none⟩=some (.pointer (some ⟨c.ob,c.oo,none⟩))/\w9.cell? ⟨c.ob,c.oo+6,none⟩=some (.slice (some ⟨eb,eo,none⟩) c.O.code.length cc)/\w9.cell? ⟨eb,eo+at' * 3,none⟩=some (.int .i64 16)/\w9.cell? ⟨eb,eo+at' * 3+1,none⟩=some (.int .i64 xa)/\w9.cell? ⟨eb,eo+at' * 3+2,none⟩=some (.int .i64 xb)):=fun w9 hb=>⟨(hb.cell (p:=⟨fb,fs.length * 14,none⟩) hfb1).trans x0,(hb.cell (p:=⟨fb,fs.length * 14+1,none⟩) hfb1).trans x1,(hb.cell (p:=⟨c.pb,0,none⟩) hpb1).trans x2,(hb.cell (p:=⟨c.ob,c.oo+6,none⟩) hob).trans k6,(hb.cell (p:=⟨eb,eo+at' * 3,none⟩) heb).trans e0,(hb.cell (p:=⟨eb,eo+at' * 3+1,none⟩) heb).trans e1,(hb.cell (p:=⟨eb,eo+at' * 3+2,none⟩) heb).trans e2⟩
 have HS0:=zh (HS1.out _ (zt w1))
 have HSA:Hid (∀ o,(w1.alloc o).drew.cell? ⟨fb,fs.length * 14,none⟩=some (.pointer (some ⟨c.pb,0,none⟩))/\(w1.alloc o).drew.cell? ⟨fb,fs.length * 14+1,none⟩=some (.int .i64 (at':Int))/\(w1.alloc o).drew.cell? ⟨c.pb,0,none⟩=some (.pointer (some ⟨c.ob,c.oo,none⟩))/\(w1.alloc o).drew.cell? ⟨c.ob,c.oo+6,none⟩=some (.slice (some ⟨eb,eo,none⟩) c.O.code.length cc)/\(w1.alloc o).drew.cell? ⟨eb,eo+at' * 3,none⟩=some (.int .i64 16)/\(w1.alloc o).drew.cell? ⟨eb,eo+at' * 3+1,none⟩=some (.int .i64 xa)/\(w1.alloc o).drew.cell? ⟨eb,eo+at' * 3+2,none⟩=some (.int .i64 xb)):=fun o=>HS1.out _ (zb _ _).drew
 go_upto_region 1 with fail
 go_region_held3 (fun w9=>w9.cell? ⟨fb,fs.length * 14,none⟩=some (.pointer (some ⟨c.pb,0,none⟩))/\w9.cell? ⟨fb,fs.length * 14+1,none⟩=some (.int .i64 (at':Int))/\w9.cell? ⟨c.pb,0,none⟩=some (.pointer (some ⟨c.ob,c.oo,none⟩))/\w9.cell? ⟨c.ob,c.oo+6,none⟩=some (.slice (some ⟨eb,eo,none⟩) c.O.code.length cc)/\w9.cell? ⟨eb,eo+at' * 3,none⟩=some (.int .i64 16)/\w9.cell? ⟨eb,eo+at' * 3+1,none⟩=some (.int .i64 xa)/\w9.cell? ⟨eb,eo+at' * 3+2,none⟩=some (.int .i64 xb)) (with_reducible (first|exact HS0.out|exact HSA.out _)) (fail)
 rw[<-hw2]
 clear hw2 x0 x1 e0 e1 e2 k6
 go_upto_region 3 with fail
 rw[<-hw3]
 clear hw3 y0 y1
 go_wp2_with fail
 refine HC.out.mono ?_
 intro e w4 hq
 obtain⟨rfl,hw4⟩:=hq
 have HFIN:Hid (StepP c (Vm.say f.base u) (.returned (.tuple #[])) w4):=⟨rfl,hw4⟩
 clear hw4
 go_wp2_with fail
 first|exact ze rfl rfl HFIN.out|exact bodyPost_ret (v:=.tuple #[]) (by simp[results,Tryz.results76,go_sem]) rfl HFIN.out
theorem step_17 {c:Vx}{W:World}{s:St}{vv:List (List Int)}{fv sv ov:Value}(h:MM c W s vv fv sv ov) (ok:VxOk c) (hg:G8 c W fv sv ov s.way) {f:Fr}{fs:List Fr}(hf:s.frames=f :: fs) (hbs:f.base<=s.stack.length) (hat:f.at'<c.O.code.length) (hop:c.O.code[f.at'].op=17) :
  Calls Tryz.prog 76 #[.pointer (some ⟨c.gb,0,none⟩)] W (StepP c (Vm.exec c.most { f with at':=f.at'+1 } fs ⟨c.O,vv⟩ c.O.code[f.at'] (Vm.going { f with at':=f.at'+1 } fs s))):=by
 obtain⟨fb,cap,hfv,hfb,hcap,hfc⟩:=h.top hf
 have hgl:=zk hg
 have hcl:=zP ok
 have HLA:=zh (last8 h hg hf hfv)
 have hI:=ok.i64 _ (List.getElem_mem hat)
 have hIB:=inst8 ok hat
 have HCD:Hid (∀ w1,Below c.w0.heap.size c.w0 w1->∃ b o cc,w1.cell? ⟨c.ob,c.oo+6,none⟩=some (.slice (some ⟨b,o,none⟩) c.O.code.length cc)/\b<w1.heap.size/\c.ob<w1.heap.size/\w1.cell? ⟨b,o+f.at' * 3,none⟩=some (.int .i64 c.O.code[f.at'].op)/\w1.cell? ⟨b,o+f.at' * 3+1,none⟩=some (.int .i64 c.O.code[f.at'].a)/\w1.cell? ⟨b,o+f.at' * 3+2,none⟩=some (.int .i64 c.O.code[f.at'].b)):=fun w1 hb=>code8 ok hb hat
 generalize c.O.code[f.at']=x at *
 obtain⟨xop,xa,xb⟩:=x
 simp only at hop hI HCD
 subst hop
 unfold Ob.instB at hIB
 have hex:∀ t,Vm.exec c.most { f with at':=f.at'+1 } fs ⟨c.O,vv⟩ ⟨17,xa,xb⟩ t=Vm.ended 1 t:=fun t=>by simp[Vm.exec]
 rw[hex]
 have HM:Hid (∀ w1,Below W.heap.size W w1->MM c w1 s vv fv sv ov/\G8 c w1 fv sv ov s.way):=fun w1 hb=>⟨h.below ok hg hb,(hb.block _ hgl).trans hg⟩
 have HX:Hid (∀ w1,Below W.heap.size W w1->w1.cell? ⟨fb,fs.length * 14,none⟩=some (.pointer (some ⟨c.pb,0,none⟩))/\w1.cell? ⟨fb,fs.length * 14+1,none⟩=some (.int .i64 (f.at':Int))/\w1.cell? ⟨c.pb,0,none⟩=some (.pointer (some ⟨c.ob,c.oo,none⟩))/\fb<w1.heap.size/\c.pb<w1.heap.size/\w1.frozen? ⟨fb,fs.length * 14+1,none⟩=false):=fun w1 hb=>by
  obtain⟨m1,_⟩:=(⟨h.below ok hg hb,trivial⟩:MM c w1 s vv fv sv ov/\True)
  refine⟨(hb.cell (p:=⟨fb,fs.length * 14,none⟩) hfb).trans (hfc 0 _ rfl),(hb.cell (p:=⟨fb,fs.length * 14+1,none⟩) hfb).trans (hfc 1 _ rfl),(zc m1.pk).trans rfl,Nat.lt_of_lt_of_le hfb hb.size,zk m1.pk,?_⟩
  rcases m1.fr.2 with⟨e,_⟩|⟨g',cp',cur',e,_,hh,_⟩
  ·rw[e]at hfv;cases hfv
  ·rw[e]at hfv
   simp only [Value.slice.injEq,Option.some.injEq,Addr.mk.injEq]at hfv
   rw[<-hfv.1.1]
   exact zr hh
 have HFO:=zh (h.ff f (by rw[hf];simp))
 have HF:=zh (And.intro hf (And.intro hfv hbs))
 have HOK:=zh ok
 have HAT:=zh hat
 have hai:(f.at':Int)<4000:=by omega
 have hain:(f.at':Int)<(c.O.code.length:Int):=by omega
 obtain⟨u,hu⟩:∃ u,u=Vm.going { f with at':=f.at'+1 } fs s:=⟨_,rfl⟩
 have HFU:Hid (u.frames={ f with at':=f.at'+1 } :: fs):=by rw[hu];rfl
 have HBU:Hid (f.base<=u.stack.length):=by rw[hu];exact HF.out.2.2
 have HWU:Hid (u.way=s.way):=by rw[hu];rfl
 have HUU:=zh hu
 rw[<-hu]
 clear hu
 have HIB:=zh hIB
 clear hbs hfc hfv h hg hf hIB
 go_enter Tryz.func76,Tryz.ntmps76
 go_wp2_with fail
 refine HLA.out.mono ?_
 rintro e w1 ⟨rfl,hb1⟩
 obtain⟨x0,x1,x2,hfb1,hpb1,z1⟩:=HX.out w1 hb1
 obtain⟨hm1,hg1⟩:=HM.out w1 hb1
 obtain⟨eb,eo,cc,k6,heb,hob,e0,e1,e2⟩:=HCD.out w1 hm1.be
 obtain⟨w2,hw2⟩:∃ w2,w2=(w1.alloc (.cells #[.int .i64 17,.int .i64 xa,.int .i64 xb] 68)).drew:=⟨_,rfl⟩
 have HB2:Hid (Below w1.heap.size w1 w2):=by rw[hw2];exact(zb _ _).drew
 have hk2:w2.heap[w1.heap.size]?=some (.cells #[.int .i64 17,.int .i64 xa,.int .i64 xb] 68 (0,0)):=by rw[hw2];exact zw w1 _
 have HK2:=zh hk2
 have HB12:Hid (Below W.heap.size W w2):=hb1.trans (HB2.out.mono hb1.size)
 obtain⟨y0,y1,_,hfb2,hpb2,z2⟩:=HX.out w2 HB12.out
 obtain⟨hm2,hg2⟩:=HM.out w2 HB12.out
 obtain⟨w3,hw3⟩:∃ w3,w3=w2.setCell ⟨fb,fs.length * 14+1,none⟩ (.int .i64 ((f.at':Int)+1)):=⟨_,rfl⟩
 have hfo':FrOk c { f with at':=f.at'+1 }:=⟨HFO.out.of,HFO.out.ll,HFO.out.li,HFO.out.mn,by show f.at'+1<=4000;omega,HFO.out.bs⟩
 obtain⟨f1,f2⟩:=hm2.frset hg2 HF.out.1 HF.out.2.1 1 (.int .i64 ((f.at':Int)+1)) hfo' (yu c f (f.at'+1))
 rw[<-hw3]at f1 f2
 have hxw:w1.heap.size≠fb:=by omega
 have hxg:w1.heap.size≠c.gb:=by have:=zk hg1;omega
 have hk3:w3.heap[w1.heap.size]?=some (.cells #[.int .i64 17,.int .i64 xa,.int .i64 xb] 68 (0,0)):=by rw[hw3];exact(Below.heap_setCell _ _ _ _ (by simpa using hxw)).trans hk2
 have q0:w3.cell? ⟨w1.heap.size,0,none⟩=some (.int .i64 17):=(zc hk3).trans rfl
 have q1:w3.cell? ⟨w1.heap.size,1,none⟩=some (.int .i64 xa):=(zc hk3).trans rfl
 have q2:w3.cell? ⟨w1.heap.size,2,none⟩=some (.int .i64 xb):=(zc hk3).trans rfl
 have hxl3:w1.heap.size<w3.heap.size:=zk hk3
 have hgl3:c.gb<w3.heap.size:=zk f2
 rw[<-HUU.out]at f1
 have HM3:=zh f1
 have HG3:Hid (G8 c w3 fv sv ov u.way):=by rw[HWU.out];exact f2
 have HK3:=zh hk3
 have hfin:=MV.end HM3.out HOK.out HG3.out 1
 have k5:w3.cell? ⟨c.gb,5,none⟩=some (.int .i64 (u.way:Int)):=(zc HG3.out).trans rfl
 have z5:w3.frozen? ⟨c.gb,5,none⟩=false:=zr HG3.out
 have HFIN:Hid (StepP c (Vm.ended 1 u) (.returned (.tuple #[])) (w3.setCell ⟨c.gb,5,none⟩ (.int .i64 1))):=⟨rfl,hfin⟩
 clear hfin
 generalize (u.way:Int)=wy at *
 clear hm1 hg1 hm2 hg2 f1 f2 hk3 hk2 hb1 HX HM HLA hfo' hex HCD
 generalize f.at'=at' at *
 have HS1:Hid (∀ w9,Below w1.heap.size w1 w9->w9.cell? ⟨fb,fs.length * 14,none⟩=some (.pointer (some ⟨c.pb,0,none⟩))/\w9.cell? ⟨fb,fs.length * 14+1,none⟩=some (.int .i64 (at':Int))/\w9.cell? ⟨c.pb,0,none⟩=some (.pointer (some ⟨c.ob,c.oo,none⟩))/\w9.cell? ⟨c.ob,c.oo+6,none⟩=some (.slice (some ⟨eb,eo,none⟩) c.O.code.length cc)/\w9.cell? ⟨eb,eo+at' * 3,none⟩=some (.int .i64 17)/\w9.cell? ⟨eb,eo+at' * 3+1,none⟩=some (.int .i64 xa)/\w9.cell? ⟨eb,eo+at' * 3+2,none⟩=some (.int .i64 xb)):=fun w9 hb=>⟨(hb.cell (p:=⟨fb,fs.length * 14,none⟩) hfb1).trans x0,(hb.cell (p:=⟨fb,fs.length * 14+1,none⟩) hfb1).trans x1,(hb.cell (p:=⟨c.pb,0,none⟩) hpb1).trans x2,(hb.cell (p:=⟨c.ob,c.oo+6,none⟩) hob).trans k6,(hb.cell (p:=⟨eb,eo+at' * 3,none⟩) heb).trans e0,(hb.cell (p:=⟨eb,eo+at' * 3+1,none⟩) heb).trans e1,(hb.cell (p:=⟨eb,eo+at' * 3+2,none⟩) heb).trans e2⟩
 have HS0:=zh (HS1.out _ (zt w1))
 have HSA:Hid (∀ o,(w1.alloc o).drew.cell? ⟨fb,fs.length * 14,none⟩=some (.pointer (some ⟨c.pb,0,none⟩))/\(w1.alloc o).drew.cell? ⟨fb,fs.length * 14+1,none⟩=some (.int .i64 (at':Int))/\(w1.alloc o).drew.cell? ⟨c.pb,0,none⟩=some (.pointer (some ⟨c.ob,c.oo,none⟩))/\(w1.alloc o).drew.cell? ⟨c.ob,c.oo+6,none⟩=some (.slice (some ⟨eb,eo,none⟩) c.O.code.length cc)/\(w1.alloc o).drew.cell? ⟨eb,eo+at' * 3,none⟩=some (.int .i64 17)/\(w1.alloc o).drew.cell? ⟨eb,eo+at' * 3+1,none⟩=some (.int .i64 xa)/\(w1.alloc o).drew.cell? ⟨eb,eo+at' * 3+2,none⟩=some (.int .i64 xb)):=fun o=>HS1.out _ (zb _ _).drew
 go_upto_region 1 with fail
 go_region_held3 (fun w9=>w9.cell? ⟨fb,fs.length * 14,none⟩=some (.pointer (some ⟨c.pb,0,none⟩))/\w9.cell? ⟨fb,fs.length * 14+1,none⟩=some (.int .i64 (at':Int))/\w9.cell? ⟨c.pb,0,none⟩=some (.pointer (some ⟨c.ob,c.oo,none⟩))/\w9.cell? ⟨c.ob,c.oo+6,none⟩=some (.slice (some ⟨eb,eo,none⟩) c.O.code.length cc)/\w9.cell? ⟨eb,eo+at' * 3,none⟩=some (.int .i64 17)/\w9.cell? ⟨eb,eo+at' * 3+1,none⟩=some (.int .i64 xa)/\w9.cell? ⟨eb,eo+at' * 3+2,none⟩=some (.int .i64 xb)) (with_reducible (first|exact HS0.out|exact HSA.out _)) (fail)
 rw[<-hw2]
 clear hw2 x0 x1 e0 e1 e2 k6
 go_upto_region 3 with fail
 rw[<-hw3]
 clear hw3 y0 y1
 go_wp2_with fail
 first|exact ze rfl rfl HFIN.out|exact bodyPost_ret (v:=.tuple #[]) (by simp[results,Tryz.results76,go_sem]) rfl HFIN.out
end Go.Proofs.YtmnedfdffbbchaaGreatDoor.Jo
