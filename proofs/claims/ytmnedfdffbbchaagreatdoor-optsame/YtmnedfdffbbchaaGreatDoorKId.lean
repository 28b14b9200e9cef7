import Derived.Test.YtmnedfdffbbchaaGreatDoorKIb
set_option maxRecDepth 100000
set_option maxHeartbeats 4000000

namespace Go.Proofs.YtmnedfdffbbchaaGreatDoor.Jo
open Go.RowKit Go.Maps
open Ob (O In I64)
open Vm (St Fr Pl)
theorem step_6 {c:Vx}{W:World}{s:St}{vv:List (List Int)}{fv sv ov:Value}(h:MM c W s vv fv sv ov) (ok:VxOk c) (hg:G8 c W fv sv ov s.way) {f:Fr}{fs:List Fr}(hf:s.frames=f :: fs) (hbs:f.base<=s.stack.length) (hat:f.at'<c.O.code.length) (hop:c.O.code[f.at'].op=6) :
  Calls Tryz.prog 76 #[.pointer (some ⟨c.gb,0,none⟩)] W (StepP c (Vm.exec c.most { f with at':=f.at'+1 } fs ⟨c.O,vv⟩ c.O.code[f.at'] (Vm.going { f with at':=f.at'+1 } fs s))):=by
 obtain⟨fb,cap,hfv,hfb,hcap,hfc⟩:=h.top hf
 have hgl:=zk hg
 have hcl:=zP ok
 have HLA:=zh (last8 h hg hf hfv)
 have hI:=ok.i64 _ (List.getElem_mem hat)
 have hIB:=inst8 ok hat
 have HCD:Hid (∀ w1,Below c.w0.heap.size c.w0 w1->∃ b o cc,w1.cell? ⟨c.ob,c.oo+6,none⟩=some (.slice (some ⟨b,o,none⟩) c.O.code.length cc)/\b<w1.heap.size/\c.ob<w1.heap.size/\w1.cell? ⟨b,o+f.at' * 3,none⟩=some (.int .i64 c.O.code[f.at'].op)/\w1.cell? ⟨b,o+f.at' * 3+1,none⟩=some (.int .i64 c.O.code[f.at'].a)/\w1.cell? ⟨b,o+f.at' * 3+2,none⟩=some (.int .i64 c.O.code[f.at'].b)):=fun w1 hb=>code8 ok hb hat
 generalize c.O.code[f.at']=x at *
 obtain⟨xop,xa,xb⟩:=x
 simp only at hop hI HCD
 subst hop
 unfold Ob.instB at hIB
 have hIB:0<=xa/\xa<(c.O.vars.length:Int):=by simp[Ob.countsB,Ob.choices]at hIB;exact hIB.2
 obtain⟨xk,rfl⟩:∃ xk:Nat,xa=(xk:Int):=⟨xa.toNat,by omega⟩
 have hvk:xk<vv.length:=by rw[h.vn];omega
 have hof:f.of=c.O.name:=(h.ff f (by rw[hf];simp)).of
 have hex:∀ t,Vm.exec c.most { f with at':=f.at'+1 } fs ⟨c.O,vv⟩ ⟨6,(xk:Int),xb⟩ t=Vm.taken f.base t fun n s=>Vm.set c.O.name ⟨c.O,vv⟩ xk 0 n s:=fun t=>by simp[Vm.exec,hof]
 rw[hex]
 have HM:Hid (∀ w1,Below W.heap.size W w1->MM c w1 s vv fv sv ov/\G8 c w1 fv sv ov s.way):=fun w1 hb=>⟨h.below ok hg hb,(hb.block _ hgl).trans hg⟩
 have HX:Hid (∀ w1,Below W.heap.size W w1->w1.cell? ⟨fb,fs.length * 14,none⟩=some (.pointer (some ⟨c.pb,0,none⟩))/\w1.cell? ⟨fb,fs.length * 14+1,none⟩=some (.int .i64 (f.at':Int))/\w1.cell? ⟨c.pb,0,none⟩=some (.pointer (some ⟨c.ob,c.oo,none⟩))/\fb<w1.heap.size/\c.pb<w1.heap.size/\w1.frozen? ⟨fb,fs.length * 14+1,none⟩=false):=fun w1 hb=>by
  obtain⟨m1,_⟩:=(⟨h.below ok hg hb,trivial⟩:MM c w1 s vv fv sv ov/\True)
  refine⟨(hb.cell (p:=⟨fb,fs.length * 14,none⟩) hfb).trans (hfc 0 _ rfl),(hb.cell (p:=⟨fb,fs.length * 14+1,none⟩) hfb).trans (hfc 1 _ rfl),(zc m1.pk).trans rfl,Nat.lt_of_lt_of_le hfb hb.size,zk m1.pk,?_⟩
  rcases m1.fr.2 with⟨e,_⟩|⟨g',cp',cur',e,_,hh,_⟩
  ·rw[e]at hfv;cases hfv
  ·rw[e]at hfv
   simp only [Value.slice.injEq,Option.some.injEq,Addr.mk.injEq]at hfv
   rw[<-hfv.1.1]
   exact zr hh
 have HFO:=zh (h.ff f (by rw[hf];simp))
 have HF:=zh (And.intro hf (And.intro hfv hbs))
 have HOK:=zh ok
 have HAT:=zh hat
 have hai:(f.at':Int)<4000:=by omega
 have hain:(f.at':Int)<(c.O.code.length:Int):=by omega
 obtain⟨u,hu⟩:∃ u,u=Vm.going { f with at':=f.at'+1 } fs s:=⟨_,rfl⟩
 have HFU:Hid (u.frames={ f with at':=f.at'+1 } :: fs):=by rw[hu];rfl
 have HBU:Hid (f.base<=u.stack.length):=by rw[hu];exact HF.out.2.2
 have HWU:Hid (u.way=s.way):=by rw[hu];rfl
 have HUU:=zh hu
 rw[<-hu]
 clear hu
 have HIB:=zh hIB
 clear hbs hfc hfv h hg hf hIB
 go_enter Tryz.func76,Tryz.ntmps76
 go_wp2_with fail
 refine HLA.out.mono ?_
 rintro e w1 ⟨rfl,hb1⟩
 obtain⟨x0,x1,x2,hfb1,hpb1,z1⟩:=HX.out w1 hb1
 obtain⟨hm1,hg1⟩:=HM.out w1 hb1
 obtain⟨eb,eo,cc,k6,heb,hob,e0,e1,e2⟩:=HCD.out w1 hm1.be
 obtain⟨w2,hw2⟩:∃ w2,w2=(w1.alloc (.cells #[.int .i64 6,.int .i64 (xk:Int),.int .i64 xb] 68)).drew:=⟨_,rfl⟩
 have HB2:Hid (Below w1.heap.size w1 w2):=by rw[hw2];exact(zb _ _).drew
 have hk2:w2.heap[w1.heap.size]?=some (.cells #[.int .i64 6,.int .i64 (xk:Int),.int .i64 xb] 68 (0,0)):=by rw[hw2];exact zw w1 _
 have HK2:=zh hk2
 have HB12:Hid (Below W.heap.size W w2):=hb1.trans (HB2.out.mono hb1.size)
 obtain⟨y0,y1,_,hfb2,hpb2,z2⟩:=HX.out w2 HB12.out
 obtain⟨hm2,hg2⟩:=HM.out w2 HB12.out
 obtain⟨w3,hw3⟩:∃ w3,w3=w2.setCell ⟨fb,fs.length * 14+1,none⟩ (.int .i64 ((f.at':Int)+1)):=⟨_,rfl⟩
 have hfo':FrOk c { f with at':=f.at'+1 }:=⟨HFO.out.of,HFO.out.ll,HFO.out.li,HFO.out.mn,by show f.at'+1<=4000;omega,HFO.out.bs⟩
 obtain⟨f1,f2⟩:=hm2.frset hg2 HF.out.1 HF.out.2.1 1 (.int .i64 ((f.at':Int)+1)) hfo' (yu c f (f.at'+1))
 rw[<-hw3]at f1 f2
 have hxw:w1.heap.size≠fb:=by omega
 have hxg:w1.heap.size≠c.gb:=by have:=zk hg1;omega
 have hk3:w3.heap[w1.heap.size]?=some (.cells #[.int .i64 6,.int .i64 (xk:Int),.int .i64 xb] 68 (0,0)):=by rw[hw3];exact(Below.heap_setCell _ _ _ _ (by simpa using hxw)).trans hk2
 have q0:w3.cell? ⟨w1.heap.size,0,none⟩=some (.int .i64 6):=(zc hk3).trans rfl
 have q1:w3.cell? ⟨w1.heap.size,1,none⟩=some (.int .i64 (xk:Int)):=(zc hk3).trans rfl
 have q2:w3.cell? ⟨w1.heap.size,2,none⟩=some (.int .i64 xb):=(zc hk3).trans rfl
 have hxl3:w1.heap.size<w3.heap.size:=zk hk3
 have hgl3:c.gb<w3.heap.size:=zk f2
 rw[<-HUU.out]at f1
 have HM3:=zh f1
 have HG3:Hid (G8 c w3 fv sv ov u.way):=by rw[HWU.out];exact f2
 have HK3:=zh hk3
 have HT:=zh (take8 HM3.out HOK.out HG3.out HFU.out)
 have HSI:=zh HM3.out.si
 clear hm1 hg1 hm2 hg2 f1 f2 hk3 hk2 hb1 HX HM HLA hfo' hex HCD
 generalize f.at'=at' at *
 have HS1:Hid (∀ w9,Below w1.heap.size w1 w9->w9.cell? ⟨fb,fs.length * 14,none⟩=some (.pointer (some ⟨c.pb,0,none⟩))/\w9.cell? ⟨fb,fs.length * 14+1,none⟩=some (.int .i64 (at':Int))/\w9.cell? ⟨c.pb,0,none⟩=some (.pointer (some ⟨c.ob,c.oo,none⟩))/\w9.cell? ⟨c.ob,c.oo+6,none⟩=some (.slice (some ⟨eb,eo,none⟩) c.O.code.length cc)/\w9.cell? ⟨eb,eo+at' * 3,none⟩=some (.int .i64 6)/\w9.cell? ⟨eb,eo+at' * 3+1,none⟩=some (.int .i64 (xk:Int))/\w9.cell? ⟨eb,eo+at' * 3+2,none⟩=some (.int .i64 xb)):=fun w9 hb=>⟨(hb.cell (p:=⟨fb,fs.length * 14,none⟩) hfb1).trans x0,(hb.cell (p:=⟨fb,fs.length * 14+1,none⟩) hfb1).trans x1,(hb.cell (p:=⟨c.pb,0,none⟩) hpb1).trans x2,(hb.cell (p:=⟨c.ob,c.oo+6,none⟩) hob).trans k6,(hb.cell (p:=⟨eb,eo+at' * 3,none⟩) heb).trans e0,(hb.cell (p:=⟨eb,eo+at' * 3+1,none⟩) heb).trans e1,(hb.cell (p:=⟨eb,eo+at' * 3+2,none⟩) heb).trans e2⟩
 have HS0:=zh (HS1.out _ (zt w1))
 have HSA:Hid (∀ o,(w1.alloc o).drew.cell? ⟨fb,fs.length * 14,none⟩=some (.pointer (some ⟨c.pb,0,none⟩))/\(w1.alloc o).drew.cell? ⟨fb,fs.length * 14+1,none⟩=some (.int .i64 (at':Int))/\(w1.alloc o).drew.cell? ⟨c.pb,0,none⟩=some (.pointer (some ⟨c.ob,c.oo,none⟩))/\(w1.alloc o).drew.cell? ⟨c.ob,c.oo+6,none⟩=some (.slice (some ⟨eb,eo,none⟩) c.O.code.length cc)/\(w1.alloc o).drew.cell? ⟨eb,eo+at' * 3,none⟩=some (.int .i64 6)/\(w1.alloc o).drew.cell? ⟨eb,eo+at' * 3+1,none⟩=some (.int .i64 (xk:Int))/\(w1.alloc o).drew.cell? ⟨eb,eo+at' * 3+2,none⟩=some (.int .i64 xb)):=fun o=>HS1.out _ (zb _ _).drew
 go_upto_region 1 with fail
 go_region_held3 (fun w9=>w9.cell? ⟨fb,fs.length * 14,none⟩=some (.pointer (some ⟨c.pb,0,none⟩))/\w9.cell? ⟨fb,fs.length * 14+1,none⟩=some (.int .i64 (at':Int))/\w9.cell? ⟨c.pb,0,none⟩=some (.pointer (some ⟨c.ob,c.oo,none⟩))/\w9.cell? ⟨c.ob,c.oo+6,none⟩=some (.slice (some ⟨eb,eo,none⟩) c.O.code.length cc)/\w9.cell? ⟨eb,eo+at' * 3,none⟩=some (.int .i64 6)/\w9.cell? ⟨eb,eo+at' * 3+1,none⟩=some (.int .i64 (xk:Int))/\w9.cell? ⟨eb,eo+at' * 3+2,none⟩=some (.int .i64 xb)) (with_reducible (first|exact HS0.out|exact HSA.out _)) (fail)
 rw[<-hw2]
 clear hw2 x0 x1 e0 e1 e2 k6
 go_upto_region 3 with fail
 rw[<-hw3]
 clear hw3 y0 y1
 go_wp2_with fail
 refine HT.out.mono ?_
 intro e w4 hq
 obtain⟨hkg,hq⟩:=hq
 have hb4:=(hkg.block _ hxl3 hxg).trans HK3.out
 have r1:w4.cell? ⟨w1.heap.size,1,none⟩=some (.int .i64 (xk:Int)):=(zc hb4).trans rfl
 have hxl4:w1.heap.size<w4.heap.size:=zk hb4
 by_cases h1:u.stack.length<=f.base
 ·rw[if_pos h1]at hq
  obtain⟨rfl,hm4,hg4⟩:=hq
  have HFIN:Hid (StepP c (Vm.taken f.base u fun n s=>Vm.set c.O.name ⟨c.O,vv⟩ xk 0 n s) (.returned (.tuple #[])) w4):=⟨rfl,by rw[yf h1];exact hm4.mv8 hg4⟩
  clear hm4 hg4 h1 hkg hb4
  go_wp2_with fail
  first|exact ze rfl rfl HFIN.out|exact bodyPost_ret (v:=.tuple #[]) (by simp[results,Tryz.results76,go_sem]) rfl HFIN.out
 ·rw[if_neg h1]at hq
  obtain⟨n,r,sv',hs,rfl,hm4,hg4⟩:=hq
  have HST:Hid (∀ w5,Below w4.heap.size w4 w5->Calls Tryz.prog 110 #[.pointer (some ⟨c.gb,0,none⟩),c.vsl xk,.int .i64 0,.int .i64 n] w5 fun e w'=>e=.returned (.tuple #[])/\StepP c (Vm.taken f.base u fun n s=>Vm.set c.O.name ⟨c.O,vv⟩ xk 0 n s) (.returned (.tuple #[])) w'):=fun w5 hb=>(set8 (s:={ u with stack:=r }) (hm4.below HOK.out hg4 hb) HOK.out ((hb.block _ (zk hg4)).trans hg4) hvk 0 n (HSI.out n (by rw[hs];simp))).mono fun e w' ⟨a1,a2⟩=>⟨a1,rfl,by rw[zM hs h1];exact a2⟩
  have HM4:=zh hm4
  clear hm4 hg4 h1 hkg hb4 hs
  have m4:=HM4.out
  obtain⟨hva,hvb,hvc⟩:=m4.vsl hvk
  have p1:w4.cell? ⟨c.pb,1,none⟩=some (.slice (some ⟨c.vb,0,none⟩) c.O.vars.length c.vc):=(zc m4.pk).trans (by rw[hva];rfl)
  have hpb4:c.pb<w4.heap.size:=zk m4.pk
  obtain⟨fb',cap',hfv',hfb',_,hfc'⟩:=m4.top HFU.out
  have hfq:fb'=fb:=by
   have:=HF.out.2.1.symm.trans hfv'
   simp only [Value.slice.injEq,Option.some.injEq,Addr.mk.injEq]at this
   exact this.1.1.symm
  subst hfq
  have p0:w4.cell? ⟨fb',fs.length * 14,none⟩=some (.pointer (some ⟨c.pb,0,none⟩)):=hfc' 0 _ rfl
  have hvn:(xk:Int)<(c.O.vars.length:Int):=by have:=HIB.out.2;omega
  have HSD:=zh (HST.out w4.drew (zt w4))
  clear m4 hva hfv' hfc' HM4 HST
  unfold Vx.vsl at hvc HSD
  go_wp2_with fail
  go_region_law (first|(refine zI rfl ?_;go_simp;go_at_call 110;refine HSD.out.mono ?_;rintro e w6 ⟨rfl,hw6⟩;have HFIN:=zh hw6;clear hw6))
  all_goals
   go_wp2_with fail
   first|exact ze rfl rfl HFIN.out|exact bodyPost_ret (v:=.tuple #[]) (by simp[results,Tryz.results76,go_sem]) rfl HFIN.out
theorem step_7 {c:Vx}{W:World}{s:St}{vv:List (List Int)}{fv sv ov:Value}(h:MM c W s vv fv sv ov) (ok:VxOk c) (hg:G8 c W fv sv ov s.way) {f:Fr}{fs:List Fr}(hf:s.frames=f :: fs) (hbs:f.base<=s.stack.length) (hat:f.at'<c.O.code.length) (hop:c.O.code[f.at'].op=7) :
  Calls Tryz.prog 76 #[.pointer (some ⟨c.gb,0,none⟩)] W (StepP c (Vm.exec c.most { f with at':=f.at'+1 } fs ⟨c.O,vv⟩ c.O.code[f.at'] (Vm.going { f with at':=f.at'+1 } fs s))):=by
 obtain⟨fb,cap,hfv,hfb,hcap,hfc⟩:=h.top hf
 have hgl:=zk hg
 have hcl:=zP ok
 have HLA:=zh (last8 h hg hf hfv)
 have hI:=ok.i64 _ (List.getElem_mem hat)
 have hIB:=inst8 ok hat
 have HCD:Hid (∀ w1,Below c.w0.heap.size c.w0 w1->∃ b o cc,w1.cell? ⟨c.ob,c.oo+6,none⟩=some (.slice (some ⟨b,o,none⟩) c.O.code.length cc)/\b<w1.heap.size/\c.ob<w1.heap.size/\w1.cell? ⟨b,o+f.at' * 3,none⟩=some (.int .i64 c.O.code[f.at'].op)/\w1.cell? ⟨b,o+f.at' * 3+1,none⟩=some (.int .i64 c.O.code[f.at'].a)/\w1.cell? ⟨b,o+f.at' * 3+2,none⟩=some (.int .i64 c.O.code[f.at'].b)):=fun w1 hb=>code8 ok hb hat
 generalize c.O.code[f.at']=x at *
 obtain⟨xop,xa,xb⟩:=x
 simp only at hop hI HCD
 subst hop
 unfold Ob.instB at hIB
 have hIB:=reach8 ok (by simpa using hIB)
 simp only at hIB
 obtain⟨rfl,hI1,hI2⟩:=hIB
 obtain⟨xk,rfl⟩:∃ xk:Nat,xa=(xk:Int):=⟨xa.toNat,by omega⟩
 have hvk:xk<vv.length:=by rw[h.vn];omega
 have hIB:=True.intro
 have hex:∀ t,Vm.exec c.most { f with at':=f.at'+1 } fs ⟨c.O,vv⟩ ⟨7,(xk:Int),(-1)⟩ t=Vm.taken f.base t fun k s=>Vm.give (vv.getD xk []) k s:=fun t=>by simp[Vm.exec,Vm.reached]
 rw[hex]
 have HM:Hid (∀ w1,Below W.heap.size W w1->MM c w1 s vv fv sv ov/\G8 c w1 fv sv ov s.way):=fun w1 hb=>⟨h.below ok hg hb,(hb.block _ hgl).trans hg⟩
 have HX:Hid (∀ w1,Below W.heap.size W w1->w1.cell? ⟨fb,fs.length * 14,none⟩=some (.pointer (some ⟨c.pb,0,none⟩))/\w1.cell? ⟨fb,fs.length * 14+1,none⟩=some (.int .i64 (f.at':Int))/\w1.cell? ⟨c.pb,0,none⟩=some (.pointer (some ⟨c.ob,c.oo,none⟩))/\fb<w1.heap.size/\c.pb<w1.heap.size/\w1.frozen? ⟨fb,fs.length * 14+1,none⟩=false):=fun w1 hb=>by
  obtain⟨m1,_⟩:=(⟨h.below ok hg hb,trivial⟩:MM c w1 s vv fv sv ov/\True)
  refine⟨(hb.cell (p:=⟨fb,fs.length * 14,none⟩) hfb).trans (hfc 0 _ rfl),(hb.cell (p:=⟨fb,fs.length * 14+1,none⟩) hfb).trans (hfc 1 _ rfl),(zc m1.pk).trans rfl,Nat.lt_of_lt_of_le hfb hb.size,zk m1.pk,?_⟩
  rcases m1.fr.2 with⟨e,_⟩|⟨g',cp',cur',e,_,hh,_⟩
  ·rw[e]at hfv;cases hfv
  ·rw[e]at hfv
   simp only [Value.slice.injEq,Option.some.injEq,Addr.mk.injEq]at hfv
   rw[<-hfv.1.1]
   exact zr hh
 have HFO:=zh (h.ff f (by rw[hf];simp))
 have HF:=zh (And.intro hf (And.intro hfv hbs))
 have HOK:=zh ok
 have HAT:=zh hat
 have hai:(f.at':Int)<4000:=by omega
 have hain:(f.at':Int)<(c.O.code.length:Int):=by omega
 obtain⟨u,hu⟩:∃ u,u=Vm.going { f with at':=f.at'+1 } fs s:=⟨_,rfl⟩
 have HFU:Hid (u.frames={ f with at':=f.at'+1 } :: fs):=by rw[hu];rfl
 have HBU:Hid (f.base<=u.stack.length):=by rw[hu];exact HF.out.2.2
 have HWU:Hid (u.way=s.way):=by rw[hu];rfl
 have HUU:=zh hu
 rw[<-hu]
 clear hu
 have HIB:=zh hIB
 clear hbs hfc hfv h hg hf hIB
 go_enter Tryz.func76,Tryz.ntmps76
 go_wp2_with fail
 refine HLA.out.mono ?_
 rintro e w1 ⟨rfl,hb1⟩
 obtain⟨x0,x1,x2,hfb1,hpb1,z1⟩:=HX.out w1 hb1
 obtain⟨hm1,hg1⟩:=HM.out w1 hb1
 obtain⟨eb,eo,cc,k6,heb,hob,e0,e1,e2⟩:=HCD.out w1 hm1.be
 obtain⟨w2,hw2⟩:∃ w2,w2=(w1.alloc (.cells #[.int .i64 7,.int .i64 (xk:Int),.int .i64 (-1)] 68)).drew:=⟨_,rfl⟩
 have HB2:Hid (Below w1.heap.size w1 w2):=by rw[hw2];exact(zb _ _).drew
 have hk2:w2.heap[w1.heap.size]?=some (.cells #[.int .i64 7,.int .i64 (xk:Int),.int .i64 (-1)] 68 (0,0)):=by rw[hw2];exact zw w1 _
 have HK2:=zh hk2
 have HB12:Hid (Below W.heap.size W w2):=hb1.trans (HB2.out.mono hb1.size)
 obtain⟨y0,y1,_,hfb2,hpb2,z2⟩:=HX.out w2 HB12.out
 obtain⟨hm2,hg2⟩:=HM.out w2 HB12.out
 obtain⟨w3,hw3⟩:∃ w3,w3=w2.setCell ⟨fb,fs.length * 14+1,none⟩ (.int .i64 ((f.at':Int)+1)):=⟨_,rfl⟩
 have hfo':FrOk c { f with at':=f.at'+1 }:=⟨HFO.out.of,HFO.out.ll,HFO.out.li,HFO.out.mn,by show f.at'+1<=4000;omega,HFO.out.bs⟩
 obtain⟨f1,f2⟩:=hm2.frset hg2 HF.out.1 HF.out.2.1 1 (.int .i64 ((f.at':Int)+1)) hfo' (yu c f (f.at'+1))
 rw[<-hw3]at f1 f2
 have hxw:w1.heap.size≠fb:=by omega
 have hxg:w1.heap.size≠c.gb:=by have:=zk hg1;omega
 have hk3:w3.heap[w1.heap.size]?=some (.cells #[.int .i64 7,.int .i64 (xk:Int),.int .i64 (-1)] 68 (0,0)):=by rw[hw3];exact(Below.heap_setCell _ _ _ _ (by simpa using hxw)).trans hk2
 have q0:w3.cell? ⟨w1.heap.size,0,none⟩=some (.int .i64 7):=(zc hk3).trans rfl
 have q1:w3.cell? ⟨w1.heap.size,1,none⟩=some (.int .i64 (xk:Int)):=(zc hk3).trans rfl
 have q2:w3.cell? ⟨w1.heap.size,2,none⟩=some (.int .i64 (-1)):=(zc hk3).trans rfl
 have hxl3:w1.heap.size<w3.heap.size:=zk hk3
 have hgl3:c.gb<w3.heap.size:=zk f2
 rw[<-HUU.out]at f1
 have HM3:=zh f1
 have HG3:Hid (G8 c w3 fv sv ov u.way):=by rw[HWU.out];exact f2
 have HK3:=zh hk3
 have HT:=zh (take8 HM3.out HOK.out HG3.out HFU.out)
 clear hm1 hg1 hm2 hg2 f1 f2 hk3 hk2 hb1 HX HM HLA hfo' hex HCD
 generalize f.at'=at' at *
 have HS1:Hid (∀ w9,Below w1.heap.size w1 w9->w9.cell? ⟨fb,fs.length * 14,none⟩=some (.pointer (some ⟨c.pb,0,none⟩))/\w9.cell? ⟨fb,fs.length * 14+1,none⟩=some (.int .i64 (at':Int))/\w9.cell? ⟨c.pb,0,none⟩=some (.pointer (some ⟨c.ob,c.oo,none⟩))/\w9.cell? ⟨c.ob,c.oo+6,none⟩=some (.slice (some ⟨eb,eo,none⟩) c.O.code.length cc)/\w9.cell? ⟨eb,eo+at' * 3,none⟩=some (.int .i64 7)/\w9.cell? ⟨eb,eo+at' * 3+1,none⟩=some (.int .i64 (xk:Int))/\w9.cell? ⟨eb,eo+at' * 3+2,none⟩=some (.int .i64 (-1))):=fun w9 hb=>⟨(hb.cell (p:=⟨fb,fs.length * 14,none⟩) hfb1).trans x0,(hb.cell (p:=⟨fb,fs.length * 14+1,none⟩) hfb1).trans x1,(hb.cell (p:=⟨c.pb,0,none⟩) hpb1).trans x2,(hb.cell (p:=⟨c.ob,c.oo+6,none⟩) hob).trans k6,(hb.cell (p:=⟨eb,eo+at' * 3,none⟩) heb).trans e0,(hb.cell (p:=⟨eb,eo+at' * 3+1,none⟩) heb).trans e1,(hb.cell (p:=⟨eb,eo+at' * 3+2,none⟩) heb).trans e2⟩
 have HS0:=zh (HS1.out _ (zt w1))
 have HSA:Hid (∀ o,(w1.alloc o).drew.cell? ⟨fb,fs.length * 14,none⟩=some (.pointer (some ⟨c.pb,0,none⟩))/\(w1.alloc o).drew.cell? ⟨fb,fs.length * 14+1,none⟩=some (.int .i64 (at':Int))/\(w1.alloc o).drew.cell? ⟨c.pb,0,none⟩=some (.pointer (some ⟨c.ob,c.oo,none⟩))/\(w1.alloc o).drew.cell? ⟨c.ob,c.oo+6,none⟩=some (.slice (some ⟨eb,eo,none⟩) c.O.code.length cc)/\(w1.alloc o).drew.cell? ⟨eb,eo+at' * 3,none⟩=some (.int .i64 7)/\(w1.alloc o).drew.cell? ⟨eb,eo+at' * 3+1,none⟩=some (.int .i64 (xk:Int))/\(w1.alloc o).drew.cell? ⟨eb,eo+at' * 3+2,none⟩=some (.int .i64 (-1))):=fun o=>HS1.out _ (zb _ _).drew
 go_upto_region 1 with fail
 go_region_held3 (fun w9=>w9.cell? ⟨fb,fs.length * 14,none⟩=some (.pointer (some ⟨c.pb,0,none⟩))/\w9.cell? ⟨fb,fs.length * 14+1,none⟩=some (.int .i64 (at':Int))/\w9.cell? ⟨c.pb,0,none⟩=some (.pointer (some ⟨c.ob,c.oo,none⟩))/\w9.cell? ⟨c.ob,c.oo+6,none⟩=some (.slice (some ⟨eb,eo,none⟩) c.O.code.length cc)/\w9.cell? ⟨eb,eo+at' * 3,none⟩=some (.int .i64 7)/\w9.cell? ⟨eb,eo+at' * 3+1,none⟩=some (.int .i64 (xk:Int))/\w9.cell? ⟨eb,eo+at' * 3+2,none⟩=some (.int .i64 (-1))) (with_reducible (first|exact HS0.out|exact HSA.out _)) (fail)
 rw[<-hw2]
 clear hw2 x0 x1 e0 e1 e2 k6
 go_upto_region 3 with fail
 rw[<-hw3]
 clear hw3 y0 y1
 go_wp2_with fail
 refine HT.out.mono ?_
 intro e w4 hq
 obtain⟨hkg,hq⟩:=hq
 have hb4:=(hkg.block _ hxl3 hxg).trans HK3.out
 have r0:w4.cell? ⟨w1.heap.size,0,none⟩=some (.int .i64 7):=(zc hb4).trans rfl
 have r1:w4.cell? ⟨w1.heap.size,1,none⟩=some (.int .i64 (xk:Int)):=(zc hb4).trans rfl
 have r2:w4.cell? ⟨w1.heap.size,2,none⟩=some (.int .i64 (-1)):=(zc hb4).trans rfl
 have hxl4:w1.heap.size<w4.heap.size:=zk hb4
 by_cases h1:u.stack.length<=f.base
 ·rw[if_pos h1]at hq
  obtain⟨rfl,hm4,hg4⟩:=hq
  have HFIN:Hid (StepP c (Vm.taken f.base u fun k s=>Vm.give (vv.getD xk []) k s) (.returned (.tuple #[])) w4):=⟨rfl,by rw[yf h1];exact hm4.mv8 hg4⟩
  clear hm4 hg4 h1 hkg hb4
  go_wp2_with fail
  first|exact ze rfl rfl HFIN.out|exact bodyPost_ret (v:=.tuple #[]) (by simp[results,Tryz.results76,go_sem]) rfl HFIN.out
 ·rw[if_neg h1]at hq
  obtain⟨n,r,sv',hs,rfl,hm4,hg4⟩:=hq
  have HC:=zh (reached8 (s:={ u with stack:=r }) hm4 HOK.out hg4 HFU.out hvk 7)
  have HGV:Hid (∀ w5,Below w4.heap.size w4 w5->Calls Tryz.prog 108 #[.pointer (some ⟨c.gb,0,none⟩),c.vsl xk,.int .i64 n] w5 fun e w'=>e=.returned (.tuple #[])/\StepP c (Vm.taken f.base u fun k s=>Vm.give (vv.getD xk []) k s) (.returned (.tuple #[])) w'):=fun w5 hb=>(give8 (hm4.below HOK.out hg4 hb) HOK.out ((hb.block _ (zk hg4)).trans hg4) hvk n).mono fun e w' ⟨a1,a2⟩=>⟨a1,rfl,by
   rw[zM hs h1,List.getD_eq_getElem?_getD,List.getElem?_eq_getElem hvk]
   exact a2⟩
  clear hm4 hg4 h1 hkg hb4 hs
  go_wp2_with fail
  refine HC.out.mono ?_
  rintro e w5 ⟨rfl,hb5⟩
  have HC2:=zh (HGV.out w5 hb5)
  clear hb5 HGV
  unfold Vx.vsl at HC2 ⊢
  go_wp2_with fail
  refine HC2.out.mono ?_
  rintro e w6 ⟨rfl,hw6⟩
  have HFIN:=zh hw6
  clear hw6
  go_wp2_with fail
  first|exact ze rfl rfl HFIN.out|exact bodyPost_ret (v:=.tuple #[]) (by simp[results,Tryz.results76,go_sem]) rfl HFIN.out
theorem step_8 {c:Vx}{W:World}{s:St}{vv:List (List Int)}{fv sv ov:Value}(h:MM c W s vv fv sv ov) (ok:VxOk c) (hg:G8 c W fv sv ov s.way) {f:Fr}{fs:List Fr}(hf:s.frames=f :: fs) (hbs:f.base<=s.stack.length) (hat:f.at'<c.O.code.length) (hop:c.O.code[f.at'].op=8) :
  Calls Tryz.prog 76 #[.pointer (some ⟨c.gb,0,none⟩)] W (StepP c (Vm.exec c.most { f with at':=f.at'+1 } fs ⟨c.O,vv⟩ c.O.code[f.at'] (Vm.going { f with at':=f.at'+1 } fs s))):=by
 obtain⟨fb,cap,hfv,hfb,hcap,hfc⟩:=h.top hf
 have hgl:=zk hg
 have hcl:=zP ok
 have HLA:=zh (last8 h hg hf hfv)
 have hI:=ok.i64 _ (List.getElem_mem hat)
 have hIB:=inst8 ok hat
 have HCD:Hid (∀ w1,Below c.w0.heap.size c.w0 w1->∃ b o cc,w1.cell? ⟨c.ob,c.oo+6,none⟩=some (.slice (some ⟨b,o,none⟩) c.O.code.length cc)/\b<w1.heap.size/\c.ob<w1.heap.size/\w1.cell? ⟨b,o+f.at' * 3,none⟩=some (.int .i64 c.O.code[f.at'].op)/\w1.cell? ⟨b,o+f.at' * 3+1,none⟩=some (.int .i64 c.O.code[f.at'].a)/\w1.cell? ⟨b,o+f.at' * 3+2,none⟩=some (.int .i64 c.O.code[f.at'].b)):=fun w1 hb=>code8 ok hb hat
 generalize c.O.code[f.at']=x at *
 obtain⟨xop,xa,xb⟩:=x
 simp only at hop hI HCD
 subst hop
 unfold Ob.instB at hIB
 have hIB:0<=xa/\xa<(c.O.vars.length:Int):=by simp[Ob.countsB,Ob.choices]at hIB;exact hIB.2
 obtain⟨xk,rfl⟩:∃ xk:Nat,xa=(xk:Int):=⟨xa.toNat,by omega⟩
 have hvk:xk<vv.length:=by rw[h.vn];omega
 have hof:f.of=c.O.name:=(h.ff f (by rw[hf];simp)).of
 have hex:∀ t,Vm.exec c.most { f with at':=f.at'+1 } fs ⟨c.O,vv⟩ ⟨8,(xk:Int),xb⟩ t=Vm.taken f.base t fun n s=>Vm.taken f.base s fun k s=>Vm.set c.O.name ⟨c.O,vv⟩ xk k n s:=fun t=>by simp[Vm.exec,hof]
 rw[hex]
 have HM:Hid (∀ w1,Below W.heap.size W w1->MM c w1 s vv fv sv ov/\G8 c w1 fv sv ov s.way):=fun w1 hb=>⟨h.below ok hg hb,(hb.block _ hgl).trans hg⟩
 have HX:Hid (∀ w1,Below W.heap.size W w1->w1.cell? ⟨fb,fs.length * 14,none⟩=some (.pointer (some ⟨c.pb,0,none⟩))/\w1.cell? ⟨fb,fs.length * 14+1,none⟩=some (.int .i64 (f.at':Int))/\w1.cell? ⟨c.pb,0,none⟩=some (.pointer (some ⟨c.ob,c.oo,none⟩))/\fb<w1.heap.size/\c.pb<w1.heap.size/\w1.frozen? ⟨fb,fs.length * 14+1,none⟩=false):=fun w1 hb=>by
  obtain⟨m1,_⟩:=(⟨h.below ok hg hb,trivial⟩:MM c w1 s vv fv sv ov/\True)
  refine⟨(hb.cell (p:=⟨fb,fs.length * 14,none⟩) hfb).trans (hfc 0 _ rfl),(hb.cell (p:=⟨fb,fs.length * 14+1,none⟩) hfb).trans (hfc 1 _ rfl),(zc m1.pk).trans rfl,Nat.lt_of_lt_of_le hfb hb.size,zk m1.pk,?_⟩
  rcases m1.fr.2 with⟨e,_⟩|⟨g',cp',cur',e,_,hh,_⟩
  ·rw[e]at hfv;cases hfv
  ·rw[e]at hfv
   simp only [Value.slice.injEq,Option.some.injEq,Addr.mk.injEq]at hfv
   rw[<-hfv.1.1]
   exact zr hh
 have HFO:=zh (h.ff f (by rw[hf];simp))
 have HF:=zh (And.intro hf (And.intro hfv hbs))
 have HOK:=zh ok
 have HAT:=zh hat
 have hai:(f.at':Int)<4000:=by omega
 have hain:(f.at':Int)<(c.O.code.length:Int):=by omega
 obtain⟨u,hu⟩:∃ u,u=Vm.going { f with at':=f.at'+1 } fs s:=⟨_,rfl⟩
 have HFU:Hid (u.frames={ f with at':=f.at'+1 } :: fs):=by rw[hu];rfl
 have HBU:Hid (f.base<=u.stack.length):=by rw[hu];exact HF.out.2.2
 have HWU:Hid (u.way=s.way):=by rw[hu];rfl
 have HUU:=zh hu
 rw[<-hu]
 clear hu
 have HIB:=zh hIB
 clear hbs hfc hfv h hg hf hIB
 go_enter Tryz.func76,Tryz.ntmps76
 go_wp2_with fail
 refine HLA.out.mono ?_
 rintro e w1 ⟨rfl,hb1⟩
 obtain⟨x0,x1,x2,hfb1,hpb1,z1⟩:=HX.out w1 hb1
 obtain⟨hm1,hg1⟩:=HM.out w1 hb1
 obtain⟨eb,eo,cc,k6,heb,hob,e0,e1,e2⟩:=HCD.out w1 hm1.be
 obtain⟨w2,hw2⟩:∃ w2,w2=(w1.alloc (.cells #[.int .i64 8,.int .i64 (xk:Int),.int .i64 xb] 68)).drew:=⟨_,rfl⟩
 have HB2:Hid (Below w1.heap.size w1 w2):=by rw[hw2];exact(zb _ _).drew
 have hk2:w2.heap[w1.heap.size]?=some (.cells #[.int .i64 8,.int .i64 (xk:Int),.int .i64 xb] 68 (0,0)):=by rw[hw2];exact zw w1 _
 have HK2:=zh hk2
 have HB12:Hid (Below W.heap.size W w2):=hb1.trans (HB2.out.mono hb1.size)
 obtain⟨y0,y1,_,hfb2,hpb2,z2⟩:=HX.out w2 HB12.out
 obtain⟨hm2,hg2⟩:=HM.out w2 HB12.out
 obtain⟨w3,hw3⟩:∃ w3,w3=w2.setCell ⟨fb,fs.length * 14+1,none⟩ (.int .i64 ((f.at':Int)+1)):=⟨_,rfl⟩
 have hfo':FrOk c { f with at':=f.at'+1 }:=⟨HFO.out.of,HFO.out.ll,HFO.out.li,HFO.out.mn,by show f.at'+1<=4000;omega,HFO.out.bs⟩
 obtain⟨f1,f2⟩:=hm2.frset hg2 HF.out.1 HF.out.2.1 1 (.int .i64 ((f.at':Int)+1)) hfo' (yu c f (f.at'+1))
 rw[<-hw3]at f1 f2
 have hxw:w1.heap.size≠fb:=by omega
 have hxg:w1.heap.size≠c.gb:=by have:=zk hg1;omega
 have hk3:w3.heap[w1.heap.size]?=some (.cells #[.int .i64 8,.int .i64 (xk:Int),.int .i64 xb] 68 (0,0)):=by rw[hw3];exact(Below.heap_setCell _ _ _ _ (by simpa using hxw)).trans hk2
 have q0:w3.cell? ⟨w1.heap.size,0,none⟩=some (.int .i64 8):=(zc hk3).trans rfl
 have q1:w3.cell? ⟨w1.heap.size,1,none⟩=some (.int .i64 (xk:Int)):=(zc hk3).trans rfl
 have q2:w3.cell? ⟨w1.heap.size,2,none⟩=some (.int .i64 xb):=(zc hk3).trans rfl
 have hxl3:w1.heap.size<w3.heap.size:=zk hk3
 have hgl3:c.gb<w3.heap.size:=zk f2
 rw[<-HUU.out]at f1
 have HM3:=zh f1
 have HG3:Hid (G8 c w3 fv sv ov u.way):=by rw[HWU.out];exact f2
 have HK3:=zh hk3
 have HT:=zh (takeTwo8 HM3.out HOK.out HG3.out HFU.out)
 clear hm1 hg1 hm2 hg2 f1 f2 hk3 hk2 hb1 HX HM HLA hfo' hex HCD
 generalize f.at'=at' at *
 have HS1:Hid (∀ w9,Below w1.heap.size w1 w9->w9.cell? ⟨fb,fs.length * 14,none⟩=some (.pointer (some ⟨c.pb,0,none⟩))/\w9.cell? ⟨fb,fs.length * 14+1,none⟩=some (.int .i64 (at':Int))/\w9.cell? ⟨c.pb,0,none⟩=some (.pointer (some ⟨c.ob,c.oo,none⟩))/\w9.cell? ⟨c.ob,c.oo+6,none⟩=some (.slice (some ⟨eb,eo,none⟩) c.O.code.length cc)/\w9.cell? ⟨eb,eo+at' * 3,none⟩=some (.int .i64 8)/\w9.cell? ⟨eb,eo+at' * 3+1,none⟩=some (.int .i64 (xk:Int))/\w9.cell? ⟨eb,eo+at' * 3+2,none⟩=some (.int .i64 xb)):=fun w9 hb=>⟨(hb.cell (p:=⟨fb,fs.length * 14,none⟩) hfb1).trans x0,(hb.cell (p:=⟨fb,fs.length * 14+1,none⟩) hfb1).trans x1,(hb.cell (p:=⟨c.pb,0,none⟩) hpb1).trans x2,(hb.cell (p:=⟨c.ob,c.oo+6,none⟩) hob).trans k6,(hb.cell (p:=⟨eb,eo+at' * 3,none⟩) heb).trans e0,(hb.cell (p:=⟨eb,eo+at' * 3+1,none⟩) heb).trans e1,(hb.cell (p:=⟨eb,eo+at' * 3+2,none⟩) heb).trans e2⟩
 have HS0:=zh (HS1.out _ (zt w1))
 have HSA:Hid (∀ o,(w1.alloc o).drew.cell? ⟨fb,fs.length * 14,none⟩=some (.pointer (some ⟨c.pb,0,none⟩))/\(w1.alloc o).drew.cell? ⟨fb,fs.length * 14+1,none⟩=some (.int .i64 (at':Int))/\(w1.alloc o).drew.cell? ⟨c.pb,0,none⟩=some (.pointer (some ⟨c.ob,c.oo,none⟩))/\(w1.alloc o).drew.cell? ⟨c.ob,c.oo+6,none⟩=some (.slice (some ⟨eb,eo,none⟩) c.O.code.length cc)/\(w1.alloc o).drew.cell? ⟨eb,eo+at' * 3,none⟩=some (.int .i64 8)/\(w1.alloc o).drew.cell? ⟨eb,eo+at' * 3+1,none⟩=some (.int .i64 (xk:Int))/\(w1.alloc o).drew.cell? ⟨eb,eo+at' * 3+2,none⟩=some (.int .i64 xb)):=fun o=>HS1.out _ (zb _ _).drew
 go_upto_region 1 with fail
 go_region_held3 (fun w9=>w9.cell? ⟨fb,fs.length * 14,none⟩=some (.pointer (some ⟨c.pb,0,none⟩))/\w9.cell? ⟨fb,fs.length * 14+1,none⟩=some (.int .i64 (at':Int))/\w9.cell? ⟨c.pb,0,none⟩=some (.pointer (some ⟨c.ob,c.oo,none⟩))/\w9.cell? ⟨c.ob,c.oo+6,none⟩=some (.slice (some ⟨eb,eo,none⟩) c.O.code.length cc)/\w9.cell? ⟨eb,eo+at' * 3,none⟩=some (.int .i64 8)/\w9.cell? ⟨eb,eo+at' * 3+1,none⟩=some (.int .i64 (xk:Int))/\w9.cell? ⟨eb,eo+at' * 3+2,none⟩=some (.int .i64 xb)) (with_reducible (first|exact HS0.out|exact HSA.out _)) (fail)
 rw[<-hw2]
 clear hw2 x0 x1 e0 e1 e2 k6
 go_upto_region 3 with fail
 rw[<-hw3]
 clear hw3 y0 y1
 go_wp2_with fail
 refine HT.out.mono ?_
 intro e w4 hq
 obtain⟨hkg,t,sv',hm4,hg4,hq⟩:=hq
 have hb4:=(hkg.block _ hxl3 hxg).trans HK3.out
 have r1:w4.cell? ⟨w1.heap.size,1,none⟩=some (.int .i64 (xk:Int)):=(zc hb4).trans rfl
 have hxl4:w1.heap.size<w4.heap.size:=zk hb4
 rcases hq with⟨x9,y9,rfl,ht⟩|⟨k,n,hk,hn,hff,rfl,ht⟩
 ·have HFIN:Hid (StepP c (Vm.taken f.base u fun n s=>Vm.taken f.base s fun k s=>Vm.set c.O.name ⟨c.O,vv⟩ xk k n s) (.returned (.tuple #[])) w4):=⟨rfl,by rw[ht fun k n s=>Vm.set c.O.name ⟨c.O,vv⟩ xk k n s];exact⟨_,_,_,_,hm4,hg4⟩⟩
  clear hm4 hg4 ht hkg hb4
  go_wp2_with fail
  first|exact ze rfl rfl HFIN.out|exact bodyPost_ret (v:=.tuple #[]) (by simp[results,Tryz.results76,go_sem]) rfl HFIN.out
 ·have hs:=ht
  have h1:=True.intro
  have HST:Hid (∀ w5,Below w4.heap.size w4 w5->Calls Tryz.prog 110 #[.pointer (some ⟨c.gb,0,none⟩),c.vsl xk,.int .i64 k,.int .i64 n] w5 fun e w'=>e=.returned (.tuple #[])/\StepP c (Vm.taken f.base u fun n s=>Vm.taken f.base s fun k s=>Vm.set c.O.name ⟨c.O,vv⟩ xk k n s) (.returned (.tuple #[])) w'):=fun w5 hb=>(set8 (hm4.below HOK.out hg4 hb) HOK.out ((hb.block _ (zk hg4)).trans hg4) hvk k n hn).mono fun e w' ⟨a1,a2⟩=>⟨a1,rfl,by rw[hs fun k n s=>Vm.set c.O.name ⟨c.O,vv⟩ xk k n s];exact a2⟩
  have HM4:=zh hm4
  have HFT:Hid (t.frames=_ :: fs):=hff.trans HFU.out
  clear hm4 hg4 h1 hkg hb4 hs ht hff
  have m4:=HM4.out
  obtain⟨hva,hvb,hvc⟩:=m4.vsl hvk
  have p1:w4.cell? ⟨c.pb,1,none⟩=some (.slice (some ⟨c.vb,0,none⟩) c.O.vars.length c.vc):=(zc m4.pk).trans (by rw[hva];rfl)
  have hpb4:c.pb<w4.heap.size:=zk m4.pk
  obtain⟨fb',cap',hfv',hfb',_,hfc'⟩:=m4.top HFT.out
  have hfq:fb'=fb:=by
   have:=HF.out.2.1.symm.trans hfv'
   simp only [Value.slice.injEq,Option.some.injEq,Addr.mk.injEq]at this
   exact this.1.1.symm
  subst hfq
  have p0:w4.cell? ⟨fb',fs.length * 14,none⟩=some (.pointer (some ⟨c.pb,0,none⟩)):=hfc' 0 _ rfl
  have hvn:(xk:Int)<(c.O.vars.length:Int):=by have:=HIB.out.2;omega
  have HSD:=zh (HST.out w4.drew (zt w4))
  clear m4 hva hfv' hfc' HM4 HST
  unfold Vx.vsl at hvc HSD
  go_wp2_with fail
  go_region_law (first|(refine zI rfl ?_;go_simp;go_at_call 110;refine HSD.out.mono ?_;rintro e w6 ⟨rfl,hw6⟩;have HFIN:=zh hw6;clear hw6))
  all_goals
   go_wp2_with fail
   first|exact ze rfl rfl HFIN.out|exact bodyPost_ret (v:=.tuple #[]) (by simp[results,Tryz.results76,go_sem]) rfl HFIN.out
theorem step_9 {c:Vx}{W:World}{s:St}{vv:List (List Int)}{fv sv ov:Value}(h:MM c W s vv fv sv ov) (ok:VxOk c) (hg:G8 c W fv sv ov s.way) {f:Fr}{fs:List Fr}(hf:s.frames=f :: fs) (hbs:f.base<=s.stack.length) (hat:f.at'<c.O.code.length) (hop:c.O.code[f.at'].op=9) :
  Calls Tryz.prog 76 #[.pointer (some ⟨c.gb,0,none⟩)] W (StepP c (Vm.exec c.most { f with at':=f.at'+1 } fs ⟨c.O,vv⟩ c.O.code[f.at'] (Vm.going { f with at':=f.at'+1 } fs s))):=by
 obtain⟨fb,cap,hfv,hfb,hcap,hfc⟩:=h.top hf
 have hgl:=zk hg
 have hcl:=zP ok
 have HLA:=zh (last8 h hg hf hfv)
 have hI:=ok.i64 _ (List.getElem_mem hat)
 have hIB:=inst8 ok hat
 have HCD:Hid (∀ w1,Below c.w0.heap.size c.w0 w1->∃ b o cc,w1.cell? ⟨c.ob,c.oo+6,none⟩=some (.slice (some ⟨b,o,none⟩) c.O.code.length cc)/\b<w1.heap.size/\c.ob<w1.heap.size/\w1.cell? ⟨b,o+f.at' * 3,none⟩=some (.int .i64 c.O.code[f.at'].op)/\w1.cell? ⟨b,o+f.at' * 3+1,none⟩=some (.int .i64 c.O.code[f.at'].a)/\w1.cell? ⟨b,o+f.at' * 3+2,none⟩=some (.int .i64 c.O.code[f.at'].b)):=fun w1 hb=>code8 ok hb hat
 generalize c.O.code[f.at']=x at *
 obtain⟨xop,xa,xb⟩:=x
 simp only at hop hI HCD
 subst hop
 unfold Ob.instB at hIB
 have hIB:0<=xa/\xa<11:=by simp[Ob.countsB,Ob.choices]at hIB;exact hIB.2
 obtain⟨xk,rfl⟩:∃ xk:Nat,xa=(xk:Int):=⟨xa.toNat,by omega⟩
 have hex:∀ t,Vm.exec c.most { f with at':=f.at'+1 } fs ⟨c.O,vv⟩ ⟨9,(xk:Int),xb⟩ t=Vm.taken f.base t fun b s=>Vm.taken f.base s fun a s=>Vm.reckon (Vm.marks8.getD xk []) a b s:=fun t=>by simp[Vm.exec]
 rw[hex]
 have HM:Hid (∀ w1,Below W.heap.size W w1->MM c w1 s vv fv sv ov/\G8 c w1 fv sv ov s.way):=fun w1 hb=>⟨h.below ok hg hb,(hb.block _ hgl).trans hg⟩
 have HX:Hid (∀ w1,Below W.heap.size W w1->w1.cell? ⟨fb,fs.length * 14,none⟩=some (.pointer (some ⟨c.pb,0,none⟩))/\w1.cell? ⟨fb,fs.length * 14+1,none⟩=some (.int .i64 (f.at':Int))/\w1.cell? ⟨c.pb,0,none⟩=some (.pointer (some ⟨c.ob,c.oo,none⟩))/\fb<w1.heap.size/\c.pb<w1.heap.size/\w1.frozen? ⟨fb,fs.length * 14+1,none⟩=false):=fun w1 hb=>by
  obtain⟨m1,_⟩:=(⟨h.below ok hg hb,trivial⟩:MM c w1 s vv fv sv ov/\True)
  refine⟨(hb.cell (p:=⟨fb,fs.length * 14,none⟩) hfb).trans (hfc 0 _ rfl),(hb.cell (p:=⟨fb,fs.length * 14+1,none⟩) hfb).trans (hfc 1 _ rfl),(zc m1.pk).trans rfl,Nat.lt_of_lt_of_le hfb hb.size,zk m1.pk,?_⟩
  rcases m1.fr.2 with⟨e,_⟩|⟨g',cp',cur',e,_,hh,_⟩
  ·rw[e]at hfv;cases hfv
  ·rw[e]at hfv
   simp only [Value.slice.injEq,Option.some.injEq,Addr.mk.injEq]at hfv
   rw[<-hfv.1.1]
   exact zr hh
 have HFO:=zh (h.ff f (by rw[hf];simp))
 have HF:=zh (And.intro hf (And.intro hfv hbs))
 have HOK:=zh ok
 have HAT:=zh hat
 have hai:(f.at':Int)<4000:=by omega
 have hain:(f.at':Int)<(c.O.code.length:Int):=by omega
 obtain⟨u,hu⟩:∃ u,u=Vm.going { f with at':=f.at'+1 } fs s:=⟨_,rfl⟩
 have HFU:Hid (u.frames={ f with at':=f.at'+1 } :: fs):=by rw[hu];rfl
 have HBU:Hid (f.base<=u.stack.length):=by rw[hu];exact HF.out.2.2
 have HWU:Hid (u.way=s.way):=by rw[hu];rfl
 have HUU:=zh hu
 rw[<-hu]
 clear hu
 have HIB:=zh hIB
 clear hbs hfc hfv h hg hf hIB
 go_enter Tryz.func76,Tryz.ntmps76
 go_wp2_with fail
 refine HLA.out.mono ?_
 rintro e w1 ⟨rfl,hb1⟩
 obtain⟨x0,x1,x2,hfb1,hpb1,z1⟩:=HX.out w1 hb1
 obtain⟨hm1,hg1⟩:=HM.out w1 hb1
 obtain⟨eb,eo,cc,k6,heb,hob,e0,e1,e2⟩:=HCD.out w1 hm1.be
 obtain⟨w2,hw2⟩:∃ w2,w2=(w1.alloc (.cells #[.int .i64 9,.int .i64 (xk:Int),.int .i64 xb] 68)).drew:=⟨_,rfl⟩
 have HB2:Hid (Below w1.heap.size w1 w2):=by rw[hw2];exact(zb _ _).drew
 have hk2:w2.heap[w1.heap.size]?=some (.cells #[.int .i64 9,.int .i64 (xk:Int),.int .i64 xb] 68 (0,0)):=by rw[hw2];exact zw w1 _
 have HK2:=zh hk2
 have HB12:Hid (Below W.heap.size W w2):=hb1.trans (HB2.out.mono hb1.size)
 obtain⟨y0,y1,_,hfb2,hpb2,z2⟩:=HX.out w2 HB12.out
 obtain⟨hm2,hg2⟩:=HM.out w2 HB12.out
 obtain⟨w3,hw3⟩:∃ w3,w3=w2.setCell ⟨fb,fs.length * 14+1,none⟩ (.int .i64 ((f.at':Int)+1)):=⟨_,rfl⟩
 have hfo':FrOk c { f with at':=f.at'+1 }:=⟨HFO.out.of,HFO.out.ll,HFO.out.li,HFO.out.mn,by show f.at'+1<=4000;omega,HFO.out.bs⟩
 obtain⟨f1,f2⟩:=hm2.frset hg2 HF.out.1 HF.out.2.1 1 (.int .i64 ((f.at':Int)+1)) hfo' (yu c f (f.at'+1))
 rw[<-hw3]at f1 f2
 have hxw:w1.heap.size≠fb:=by omega
 have hxg:w1.heap.size≠c.gb:=by have:=zk hg1;omega
 have hk3:w3.heap[w1.heap.size]?=some (.cells #[.int .i64 9,.int .i64 (xk:Int),.int .i64 xb] 68 (0,0)):=by rw[hw3];exact(Below.heap_setCell _ _ _ _ (by simpa using hxw)).trans hk2
 have q0:w3.cell? ⟨w1.heap.size,0,none⟩=some (.int .i64 9):=(zc hk3).trans rfl
 have q1:w3.cell? ⟨w1.heap.size,1,none⟩=some (.int .i64 (xk:Int)):=(zc hk3).trans rfl
 have q2:w3.cell? ⟨w1.heap.size,2,none⟩=some (.int .i64 xb):=(zc hk3).trans rfl
 have hxl3:w1.heap.size<w3.heap.size:=zk hk3
 have hgl3:c.gb<w3.heap.size:=zk f2
 rw[<-HUU.out]at f1
 have HM3:=zh f1
 have HG3:Hid (G8 c w3 fv sv ov u.way):=by rw[HWU.out];exact f2
 have HK3:=zh hk3
 have HC:=zh (do8 HM3.out HOK.out HG3.out HFU.out xk (by have:=HIB.out;omega))
 clear hm1 hg1 hm2 hg2 f1 f2 hk3 hk2 hb1 HX HM HLA hfo' hex HCD
 generalize f.at'=at' at *
 have HS1:Hid (∀ w9,Below w1.heap.size w1 w9->w9.cell? ⟨fb,fs.length * 14,none⟩=some (.pointer (some ⟨c.pb,0,none⟩))/\w9.cell? ⟨fb,fs.length * 14+1,none⟩=some (.int .i64 (at':Int))/\w9.cell? ⟨c.pb,0,none⟩=some (.pointer (some ⟨c.ob,c.oo,none⟩))/\w9.cell? ⟨c.ob,c.oo+6,none⟩=some (.slice (some ⟨eb,eo,none⟩) c.O.code.length cc)/\w9.cell? ⟨eb,eo+at' * 3,none⟩=some (.int .i64 9)/\w9.cell? ⟨eb,eo+at' * 3+1,none⟩=some (.int .i64 (xk:Int))/\w9.cell? ⟨eb,eo+at' * 3+2,none⟩=some (.int .i64 xb)):=fun w9 hb=>⟨(hb.cell (p:=⟨fb,fs.length * 14,none⟩) hfb1).trans x0,(hb.cell (p:=⟨fb,fs.length * 14+1,none⟩) hfb1).trans x1,(hb.cell (p:=⟨c.pb,0,none⟩) hpb1).trans x2,(hb.cell (p:=⟨c.ob,c.oo+6,none⟩) hob).trans k6,(hb.cell (p:=⟨eb,eo+at' * 3,none⟩) heb).trans e0,(hb.cell (p:=⟨eb,eo+at' * 3+1,none⟩) heb).trans e1,(hb.cell (p:=⟨eb,eo+at' * 3+2,none⟩) heb).trans e2⟩
 have HS0:=zh (HS1.out _ (zt w1))
 have HSA:Hid (∀ o,(w1.alloc o).drew.cell? ⟨fb,fs.length * 14,none⟩=some (.pointer (some ⟨c.pb,0,none⟩))/\(w1.alloc o).drew.cell? ⟨fb,fs.length * 14+1,none⟩=some (.int .i64 (at':Int))/\(w1.alloc o).drew.cell? ⟨c.pb,0,none⟩=some (.pointer (some ⟨c.ob,c.oo,none⟩))/\(w1.alloc o).drew.cell? ⟨c.ob,c.oo+6,none⟩=some (.slice (some ⟨eb,eo,none⟩) c.O.code.length cc)/\(w1.alloc o).drew.cell? ⟨eb,eo+at' * 3,none⟩=some (.int .i64 9)/\(w1.alloc o).drew.cell? ⟨eb,eo+at' * 3+1,none⟩=some (.int .i64 (xk:Int))/\(w1.alloc o).drew.cell? ⟨eb,eo+at' * 3+2,none⟩=some (.int .i64 xb)):=fun o=>HS1.out _ (zb _ _).drew
 go_upto_region 1 with fail
 go_region_held3 (fun w9=>w9.cell? ⟨fb,fs.length * 14,none⟩=some (.pointer (some ⟨c.pb,0,none⟩))/\w9.cell? ⟨fb,fs.length * 14+1,none⟩=some (.int .i64 (at':Int))/\w9.cell? ⟨c.pb,0,none⟩=some (.pointer (some ⟨c.ob,c.oo,none⟩))/\w9.cell? ⟨c.ob,c.oo+6,none⟩=some (.slice (some ⟨eb,eo,none⟩) c.O.code.length cc)/\w9.cell? ⟨eb,eo+at' * 3,none⟩=some (.int .i64 9)/\w9.cell? ⟨eb,eo+at' * 3+1,none⟩=some (.int .i64 (xk:Int))/\w9.cell? ⟨eb,eo+at' * 3+2,none⟩=some (.int .i64 xb)) (with_reducible (first|exact HS0.out|exact HSA.out _)) (fail)
 rw[<-hw2]
 clear hw2 x0 x1 e0 e1 e2 k6
 go_upto_region 3 with fail
 rw[<-hw3]
 clear hw3 y0 y1
 go_wp2_with fail
 refine HC.out.mono ?_
 intro e w4 hq
 obtain⟨rfl,hw4⟩:=hq
 have HFIN:Hid (StepP c (Vm.taken f.base u fun b s=>Vm.taken f.base s fun a s=>Vm.reckon (Vm.marks8.getD xk []) a b s) (.returned (.tuple #[])) w4):=⟨rfl,hw4⟩
 clear hw4
 go_wp2_with fail
 first|exact ze rfl rfl HFIN.out|exact bodyPost_ret (v:=.tuple #[]) (by simp[results,Tryz.results76,go_sem]) rfl HFIN.out
theorem step_10 {c:Vx}{W:World}{s:St}{vv:List (List Int)}{fv sv ov:Value}(h:MM c W s vv fv sv ov) (ok:VxOk c) (hg:G8 c W fv sv ov s.way) {f:Fr}{fs:List Fr}(hf:s.frames=f :: fs) (hbs:f.base<=s.stack.length) (hat:f.at'<c.O.code.length) (hop:c.O.code[f.at'].op=10) :
  Calls Tryz.prog 76 #[.pointer (some ⟨c.gb,0,none⟩)] W (StepP c (Vm.exec c.most { f with at':=f.at'+1 } fs ⟨c.O,vv⟩ c.O.code[f.at'] (Vm.going { f with at':=f.at'+1 } fs s))):=by
 obtain⟨fb,cap,hfv,hfb,hcap,hfc⟩:=h.top hf
 have hgl:=zk hg
 have hcl:=zP ok
 have HLA:=zh (last8 h hg hf hfv)
 have hI:=ok.i64 _ (List.getElem_mem hat)
 have hIB:=inst8 ok hat
 have HCD:Hid (∀ w1,Below c.w0.heap.size c.w0 w1->∃ b o cc,w1.cell? ⟨c.ob,c.oo+6,none⟩=some (.slice (some ⟨b,o,none⟩) c.O.code.length cc)/\b<w1.heap.size/\c.ob<w1.heap.size/\w1.cell? ⟨b,o+f.at' * 3,none⟩=some (.int .i64 c.O.code[f.at'].op)/\w1.cell? ⟨b,o+f.at' * 3+1,none⟩=some (.int .i64 c.O.code[f.at'].a)/\w1.cell? ⟨b,o+f.at' * 3+2,none⟩=some (.int .i64 c.O.code[f.at'].b)):=fun w1 hb=>code8 ok hb hat
 generalize c.O.code[f.at']=x at *
 obtain⟨xop,xa,xb⟩:=x
 simp only at hop hI HCD
 subst hop
 unfold Ob.instB at hIB
 have hex:∀ t,Vm.exec c.most { f with at':=f.at'+1 } fs ⟨c.O,vv⟩ ⟨10,xa,xb⟩ t=Vm.taken f.base t fun n s=>Vm.put (Tp.w64 (-n)) s:=fun t=>by simp[Vm.exec]
 rw[hex]
 have HM:Hid (∀ w1,Below W.heap.size W w1->MM c w1 s vv fv sv ov/\G8 c w1 fv sv ov s.way):=fun w1 hb=>⟨h.below ok hg hb,(hb.block _ hgl).trans hg⟩
 have HX:Hid (∀ w1,Below W.heap.size W w1->w1.cell? ⟨fb,fs.length * 14,none⟩=some (.pointer (some ⟨c.pb,0,none⟩))/\w1.cell? ⟨fb,fs.length * 14+1,none⟩=some (.int .i64 (f.at':Int))/\w1.cell? ⟨c.pb,0,none⟩=some (.pointer (some ⟨c.ob,c.oo,none⟩))/\fb<w1.heap.size/\c.pb<w1.heap.size/\w1.frozen? ⟨fb,fs.length * 14+1,none⟩=false):=fun w1 hb=>by
  obtain⟨m1,_⟩:=(⟨h.below ok hg hb,trivial⟩:MM c w1 s vv fv sv ov/\True)
  refine⟨(hb.cell (p:=⟨fb,fs.length * 14,none⟩) hfb).trans (hfc 0 _ rfl),(hb.cell (p:=⟨fb,fs.length * 14+1,none⟩) hfb).trans (hfc 1 _ rfl),(zc m1.pk).trans rfl,Nat.lt_of_lt_of_le hfb hb.size,zk m1.pk,?_⟩
  rcases m1.fr.2 with⟨e,_⟩|⟨g',cp',cur',e,_,hh,_⟩
  ·rw[e]at hfv;cases hfv
  ·rw[e]at hfv
   simp only [Value.slice.injEq,Option.some.injEq,Addr.mk.injEq]at hfv
   rw[<-hfv.1.1]
   exact zr hh
 have HFO:=zh (h.ff f (by rw[hf];simp))
 have HF:=zh (And.intro hf (And.intro hfv hbs))
 have HOK:=zh ok
 have HAT:=zh hat
 have hai:(f.at':Int)<4000:=by omega
 have hain:(f.at':Int)<(c.O.code.length:Int):=by omega
 obtain⟨u,hu⟩:∃ u,u=Vm.going { f with at':=f.at'+1 } fs s:=⟨_,rfl⟩
 have HFU:Hid (u.frames={ f with at':=f.at'+1 } :: fs):=by rw[hu];rfl
 have HBU:Hid (f.base<=u.stack.length):=by rw[hu];exact HF.out.2.2
 have HWU:Hid (u.way=s.way):=by rw[hu];rfl
 have HUU:=zh hu
 rw[<-hu]
 clear hu
 have HIB:=zh hIB
 clear hbs hfc hfv h hg hf hIB
 go_enter Tryz.func76,Tryz.ntmps76
 go_wp2_with fail
 refine HLA.out.mono ?_
 rintro e w1 ⟨rfl,hb1⟩
 obtain⟨x0,x1,x2,hfb1,hpb1,z1⟩:=HX.out w1 hb1
 obtain⟨hm1,hg1⟩:=HM.out w1 hb1
 obtain⟨eb,eo,cc,k6,heb,hob,e0,e1,e2⟩:=HCD.out w1 hm1.be
 obtain⟨w2,hw2⟩:∃ w2,w2=(w1.alloc (.cells #[.int .i64 10,.int .i64 xa,.int .i64 xb] 68)).drew:=⟨_,rfl⟩
 have HB2:Hid (Below w1.heap.size w1 w2):=by rw[hw2];exact(zb _ _).drew
 have hk2:w2.heap[w1.heap.size]?=some (.cells #[.int .i64 10,.int .i64 xa,.int .i64 xb] 68 (0,0)):=by rw[hw2];exact zw w1 _
 have HK2:=zh hk2
 have HB12:Hid (Below W.heap.size W w2):=hb1.trans (HB2.out.mono hb1.size)
 obtain⟨y0,y1,_,hfb2,hpb2,z2⟩:=HX.out w2 HB12.out
 obtain⟨hm2,hg2⟩:=HM.out w2 HB12.out
 obtain⟨w3,hw3⟩:∃ w3,w3=w2.setCell ⟨fb,fs.length * 14+1,none⟩ (.int .i64 ((f.at':Int)+1)):=⟨_,rfl⟩
 have hfo':FrOk c { f with at':=f.at'+1 }:=⟨HFO.out.of,HFO.out.ll,HFO.out.li,HFO.out.mn,by show f.at'+1<=4000;omega,HFO.out.bs⟩
 obtain⟨f1,f2⟩:=hm2.frset hg2 HF.out.1 HF.out.2.1 1 (.int .i64 ((f.at':Int)+1)) hfo' (yu c f (f.at'+1))
 rw[<-hw3]at f1 f2
 have hxw:w1.heap.size≠fb:=by omega
 have hxg:w1.heap.size≠c.gb:=by have:=zk hg1;omega
 have hk3:w3.heap[w1.heap.size]?=some (.cells #[.int .i64 10,.int .i64 xa,.int .i64 xb] 68 (0,0)):=by rw[hw3];exact(Below.heap_setCell _ _ _ _ (by simpa using hxw)).trans hk2
 have q0:w3.cell? ⟨w1.heap.size,0,none⟩=some (.int .i64 10):=(zc hk3).trans rfl
 have q1:w3.cell? ⟨w1.heap.size,1,none⟩=some (.int .i64 xa):=(zc hk3).trans rfl
 have q2:w3.cell? ⟨w1.heap.size,2,none⟩=some (.int .i64 xb):=(zc hk3).trans rfl
 have hxl3:w1.heap.size<w3.heap.size:=zk hk3
 have hgl3:c.gb<w3.heap.size:=zk f2
 rw[<-HUU.out]at f1
 have HM3:=zh f1
 have HG3:Hid (G8 c w3 fv sv ov u.way):=by rw[HWU.out];exact f2
 have HK3:=zh hk3
 have HC:=zh (neg8 HM3.out HOK.out HG3.out HFU.out)
 clear hm1 hg1 hm2 hg2 f1 f2 hk3 hk2 hb1 HX HM HLA hfo' hex HCD
 generalize f.at'=at' at *
 have HS1:Hid (∀ w9,Below w1.heap.size w1 w9->w9.cell? ⟨fb,fs.length * 14,none⟩=some (.pointer (some ⟨c.pb,0,none⟩))/\w9.cell? ⟨fb,fs.length * 14+1,none⟩=some (.int .i64 (at':Int))/\w9.cell? ⟨c.pb,0,none⟩=some (.pointer (some ⟨c.ob,c.oo,none⟩))/\w9.cell? ⟨c.ob,c.oo+6,none⟩=some (.slice (some ⟨eb,eo,none⟩) c.O.code.length cc)/\w9.cell? ⟨eb,eo+at' * 3,none⟩=some (.int .i64 10)/\w9.cell? ⟨eb,eo+at' * 3+1,none⟩=some (.int .i64 xa)/\w9.cell? ⟨eb,eo+at' * 3+2,none⟩=some (.int .i64 xb)):=fun w9 hb=>⟨(hb.cell (p:=⟨fb,fs.length * 14,none⟩) hfb1).trans x0,(hb.cell (p:=⟨fb,fs.length * 14+1,none⟩) hfb1).trans x1,(hb.cell (p:=⟨c.pb,0,none⟩) hpb1).trans x2,(hb.cell (p:=⟨c.ob,c.oo+6,none⟩) hob).trans k6,(hb.cell (p:=⟨eb,eo+at' * 3,none⟩) heb).trans e0,(hb.cell (p:=⟨eb,eo+at' * 3+1,none⟩) heb).trans e1,(hb.cell (p:=⟨eb,eo+at' * 3+2,none⟩) heb).trans e2⟩
 have HS0:=zh (HS1.out _ (zt w1))
 have HSA:Hid (∀ o,(w1.alloc o).drew.cell? ⟨fb,fs.length * 14,none⟩=some (.pointer (some ⟨c.pb,0,none⟩))/\(w1.alloc o).drew.cell? ⟨fb,fs.length * 14+1,none⟩=some (.int .i64 (at':Int))/\(w1.alloc o).drew.cell? ⟨c.pb,0,none⟩=some (.pointer (some ⟨c.ob,c.oo,none⟩))/\(w1.alloc o).drew.cell? ⟨c.ob,c.oo+6,none⟩=some (.slice (some ⟨eb,eo,none⟩) c.O.code.length cc)/\(w1.alloc o).drew.cell? ⟨eb,eo+at' * 3,none⟩=some (.int .i64 10)/\(w1.alloc o).drew.cell? ⟨eb,eo+at' * 3+1,none⟩=some (.int .i64 xa)/\(w1.alloc o).drew.cell? ⟨eb,eo+at' * 3+2,none⟩=some (.int .i64 xb)):=fun o=>HS1.out _ (zb _ _).drew
 go_upto_region 1 with fail
 go_region_held3 (fun w9=>w9.cell? ⟨fb,fs.length * 14,none⟩=some (.pointer (some ⟨c.pb,0,none⟩))/\w9.cell? ⟨fb,fs.length * 14+1,none⟩=some (.int .i64 (at':Int))/\w9.cell? ⟨c.pb,0,none⟩=some (.pointer (some ⟨c.ob,c.oo,none⟩))/\w9.cell? ⟨c.ob,c.oo+6,none⟩=some (.slice (some ⟨eb,eo,none⟩) c.O.code.length cc)/\w9.cell? ⟨eb,eo+at' * 3,none⟩=some (.int .i64 10)/\w9.cell? ⟨eb,eo+at' * 3+1,none⟩=some (.int .i64 xa)/\w9.cell? ⟨eb,eo+at' * 3+2,none⟩=some (.int .i64 xb)) (with_reducible (first|exact HS0.out|exact HSA.out _)) (fail)
 rw[<-hw2]
 clear hw2 x0 x1 e0 e1 e2 k6
 go_upto_region 3 with fail
 rw[<-hw3]
 clear hw3 y0 y1
 go_wp2_with fail
 refine HC.out.mono ?_
 intro e w4 hq
 obtain⟨rfl,hw4⟩:=hq
 have HFIN:Hid (StepP c (Vm.taken f.base u fun n s=>Vm.put (Tp.w64 (-n)) s) (.returned (.tuple #[])) w4):=⟨rfl,hw4⟩
 clear hw4
 go_wp2_with fail
 first|exact ze rfl rfl HFIN.out|exact bodyPost_ret (v:=.tuple #[]) (by simp[results,Tryz.results76,go_sem]) rfl HFIN.out
theorem MM.popf {c:Vx}{W:World}{s:St}{vv:List (List Int)}{sv ov:Value}{fa:Option Addr}{n cap:Nat}(h:MM c W s vv (.slice fa n cap) sv ov) {f:Fr}{fs:List Fr}(hf:s.frames=f :: fs):MM c W { s with frames:=fs } vv (.slice fa fs.length cap) sv ov:=by
 have hfr:=h.fr
 have hff:=h.ff
 rw[hf]at hfr hff
 obtain⟨a',c',e⟩:=zy hfr
 have hnn:n=(f :: fs).length:=by cases e;rfl
 rw[kF]at hfr
 have hl:(frs c fs).length=fs.length * 14:=vZ c fs fun x hx=>(hff x (List.mem_cons_of_mem _ hx)).ll
 exact⟨h.be,h.pk,h.vk,h.th,h.vn,h.vm,jy hfr (by rw[hnn]) hl (by simp),h.st,h.ou,h.dj,h.sl,h.si,h.ol,h.oi,by have:=h.fl;rw[hf,List.length_cons]at this;show fs.length<=31;omega,by have:=h.fm;rw[hf,List.length_cons]at this;show fs.length<=c.most;omega,fun x hx=>hff x (List.mem_cons_of_mem _ hx),h.ek⟩
theorem leave_no {s:St}{b:Nat}(h:s.stack.length<=b):Vm.leave b s=Vm.ended 8 s:=by unfold Vm.leave;exact yf h
def leftS (n:Int) (r:List Int) (b:Nat) (s:St):St:={ s with stack:=n :: r.drop (r.length - b) }
theorem leave_yes {s:St}{b:Nat}{n:Int}{r:List Int}{f:Fr}{fs:List Fr}(hs:s.stack=n :: r) (h:¬s.stack.length<=b) (hf:s.frames=f :: fs):Vm.leave b s=if fs=[] then Vm.ended 1 (leftS n r b s) else { leftS n r b s with frames:=fs }:=by
 unfold Vm.leave
 rw[zM hs h]
 cases s
 simp only at hf
 subst hf
 rfl
theorem leave8 {c:Vx}{W:World}{s:St}{vv:List (List Int)}{fv sv ov:Value}(h:MM c W s vv fv sv ov) (ok:VxOk c) (hg:G8 c W fv sv ov s.way) {f:Fr}{fs:List Fr}(hf:s.frames=f :: fs) :
  Calls Tryz.prog 115 #[.pointer (some ⟨c.gb,0,none⟩)] W (StepP c (Vm.leave f.base s)):=by
 obtain⟨fb,cap,hfv,hfb,hcap,hfc⟩:=h.top hf
 have HT:=zh (take8 h ok hg hf)
 have HSI:=zh h.si
 have HSL:=zh h.sl
 have HOK:=zh ok
 have HF:=zh hf
 have HFV:=zh hfv
 have hfl:(fs.length:Int)<=30:=by have:=h.fl;rw[hf,List.length_cons]at this;omega
 clear h ok hg hf hfc hfv
 go_enter Tryz.func115,Tryz.ntmps115
 go_wp2_with fail
 refine HT.out.mono ?_
 intro e w1 hq
 obtain⟨hk,hq⟩:=hq
 by_cases h1:s.stack.length<=f.base
 ·rw[if_pos h1]at hq
  obtain⟨rfl,hm,hg⟩:=hq
  have HFIN:Hid (StepP c (Vm.leave f.base s) (.returned (.tuple #[])) w1):=⟨rfl,by rw[leave_no h1];exact hm.mv8 hg⟩
  clear hk hm hg h1 HT
  go_wp2_with fail
  first|exact ze rfl rfl HFIN.out|exact bodyPost_ret (v:=.tuple #[]) (by simp[results,Tryz.results115,go_sem]) rfl HFIN.out
 ·rw[if_neg h1]at hq
  obtain⟨n,r,sv',hs,rfl,hm,hg⟩:=hq
  have hrl:s.stack.length=r.length+1:=by rw[hs];rfl
  have hsl:s.stack.length<=10000:=HSL.out
  obtain⟨sa,sc,hsv⟩:=zy hm.st
  have hsv:sv'=.slice sa r.length sc:=hsv
  subst hsv
  have hsc:r.length<=sc:=by
   rcases hm.st.2 with⟨q,q'⟩|⟨_,_,_,q,_,_,q',_⟩
   ·have:r.length=0:=q'
    omega
   ·simp only [Value.slice.injEq]at q
    have:r.length<=_:=q'
    omega
  have hbr:f.base<=r.length:=by omega
  have HLA:Hid (∀ w2,Below w1.heap.size w1 w2->Calls Tryz.prog 104 #[.pointer (some ⟨c.gb,0,none⟩)] w2 fun e W'=>e=.returned (.pointer (some ⟨fb,fs.length * 14,none⟩))/\Below w2.heap.size w2 W'):=fun w2 hb=>last8 (hm.below HOK.out hg hb) ((hb.block _ (zk hg)).trans hg) HF.out HFV.out
  have HW:Hid (∀ w2,Below w1.heap.size w1 w2->w2.cell? ⟨c.gb,3,none⟩=some (.slice sa r.length sc)/\w2.frozen? ⟨c.gb,3,none⟩=false/\w2.cell? ⟨fb,fs.length * 14+2,none⟩=some (.int .i64 (f.base:Int))/\fb<w2.heap.size/\c.gb<w2.heap.size):=fun w2 hb=>by
   have hg2:=(hb.block _ (zk hg)).trans hg
   obtain⟨fb',cap',hfv',hfb',_,hfc'⟩:=(hm.below HOK.out hg hb).top HF.out
   have e:fb'=fb:=by
    have:=HFV.out.symm.trans hfv'
    simp only [Value.slice.injEq,Option.some.injEq,Addr.mk.injEq]at this
    exact this.1.1.symm
   subst e
   exact⟨(zc hg2).trans rfl,zr hg2,hfc' 2 _ rfl,hfb',zk hg2⟩
  have HC:Hid (∀ w2,Below w1.heap.size w1 w2->MM c (w2.setCell ⟨c.gb,3,none⟩ (.slice sa f.base sc)) { s with stack:=r.drop (r.length - f.base) } vv fv (.slice sa f.base sc) ov/\G8 c (w2.setCell ⟨c.gb,3,none⟩ (.slice sa f.base sc)) fv (.slice sa f.base sc) ov s.way):=fun w2 hb=>by
   have hm2:=hm.below HOK.out hg hb
   have hg2:G8 c w2 fv (.slice sa r.length sc) ov s.way:=(hb.block _ (zk hg)).trans hg
   have hl:=hm2.less (t:=r.take (r.length - f.base)) (r:=r.drop (r.length - f.base)) (by simp)
   have e:(r.drop (r.length - f.base)).length=f.base:=by rw[List.length_drop];omega
   rw[e]at hl
   exact⟨hl.gcell HOK.out hg2 3 _,zC 3 _ hg2⟩
  have HP:Hid (∀ w3,MM c w3 { s with stack:=r.drop (r.length - f.base) } vv fv (.slice sa f.base sc) ov->G8 c w3 fv (.slice sa f.base sc) ov s.way->Calls Tryz.prog 105 #[.pointer (some ⟨c.gb,0,none⟩),.int .i64 n] w3 fun e W'=>e=.returned (.tuple #[])/\MV c W' (leftS n r f.base s)):=fun w3 hm3 hg3=>(put8 hm3 HOK.out hg3 n (HSI.out n (by rw[hs];simp))).mono fun e w' ⟨a1,a2⟩=>⟨a1,by
   have e:(r.drop (r.length - f.base)).length=f.base:=by rw[List.length_drop];omega
   unfold Vm.put at a2
   rw[if_neg (by show ¬(r.drop (r.length - f.base)).length=10000;rw[e];omega)]at a2
   exact a2⟩
  have HLV:Hid (Vm.leave f.base s=if fs=[] then Vm.ended 1 (leftS n r f.base s) else { leftS n r f.base s with frames:=fs }):=leave_yes hs h1 HF.out
  have HLF:Hid ((leftS n r f.base s).frames=f :: fs):=HF.out
  have HLW:Hid ((leftS n r f.base s).way=s.way):=rfl
  obtain⟨k3,z3,k2,hfb1,hgl1⟩:=HW.out w1 (Below.refl _ _)
  have HD:Hid (Below w1.heap.size w1 w1.drew):=zt w1
  clear hk hm hg h1 HT hs hrl hsl
  generalize leftS n r f.base s=t at *
  obtain⟨bs',hbs⟩:∃ b,b=f.base:=⟨_,rfl⟩
  rw[<-hbs]at HW HC HP k2 hbr
  have hbi:(bs':Int)<=(sc:Int):=by omega
  have hrn:(r.length:Int)<=(sc:Int):=by omega
  have HBS:=zh hbs
  clear hbs
  generalize hrr:r.length=rl at *
  generalize hfq:fs.length=q at *
  have HRR:=zh (And.intro hrr hfq)
  clear hrr hfq
  go_wp2_with fail
  go_region_law (first|(refine zI rfl ?_;go_simp;go_at_call 104;refine(HLA.out _ HD.out).mono ?_;rintro e w2 ⟨rfl,hb2⟩;have HB2:Hid (Below w1.heap.size w1 w2):=HD.out.trans (hb2.mono HD.out.size);obtain⟨k32,z32,k22,hfb2,hgl2⟩:=HW.out w2 HB2.out;clear hb2))
  all_goals
   obtain⟨hm3,hg3⟩:=HC.out w2 HB2.out
   have HPC:=zh (HP.out _ hm3 hg3)
   obtain⟨w3,hw3⟩:∃ w3,w3=w2.setCell ⟨c.gb,3,none⟩ (.slice sa bs' sc):=⟨_,rfl⟩
   rw[<-hw3]at HPC ⊢
   clear hw3 hm3 hg3 HC HP HW HLA k3 z3 k2 k32 z32 k22 hgl1 hgl2
   go_wp2_with fail
   refine HPC.out.mono ?_
   intro e w4 hq4
   obtain⟨rfl,vv4,fv4,sv4,ov4,hm4,hg4⟩:=hq4
   obtain⟨fa,fc,hfv4⟩:=zy hm4.fr
   have hfn:t.frames.length=q+1:=by rw[HLF.out,List.length_cons,HRR.out.2]
   rw[hfn]at hfv4
   subst hfv4
   have k1:w4.cell? ⟨c.gb,1,none⟩=some (.slice fa (q+1) fc):=(zc hg4).trans rfl
   have k5:w4.cell? ⟨c.gb,5,none⟩=some (.int .i64 (t.way:Int)):=(zc hg4).trans rfl
   have z5:w4.frozen? ⟨c.gb,5,none⟩=false:=zr hg4
   have z1:w4.frozen? ⟨c.gb,1,none⟩=false:=zr hg4
   have hgl4:c.gb<w4.heap.size:=zk hg4
   have hfc4:q+1<=fc:=by
    rcases hm4.fr.2 with⟨e,e'⟩|⟨_,_,_,e,_,_,e',_⟩
    ·omega
    ·simp only [Value.slice.injEq]at e
     omega
   by_cases hz:fs=[]
   ·have hq0:q=0:=by rw[<-HRR.out.2,hz];rfl
    have HFIN:Hid (StepP c (Vm.leave f.base s) (.returned (.tuple #[])) (w4.setCell ⟨c.gb,5,none⟩ (.int .i64 1))):=⟨rfl,by rw[HLV.out,if_pos hz];exact MV.end hm4 HOK.out hg4 1⟩
    clear hm4 hg4 hz HPC hfn
    subst hq0
    generalize (t.way:Int)=wy at *
    go_wp2_with fail
    first|exact ze rfl rfl HFIN.out|exact bodyPost_ret (v:=.tuple #[]) (by simp[results,Tryz.results115,go_sem]) rfl HFIN.out
   ·have hq0:¬((q:Int)+1=1):=by
     have:fs.length≠0:=fun e=>hz (List.eq_nil_of_length_eq_zero e)
     have:=HRR.out.2
     omega
    have HFN:Hid (∀ w5,Below w4.heap.size w4 w5->StepP c (Vm.leave f.base s) (.returned (.tuple #[])) (w5.setCell ⟨c.gb,1,none⟩ (.slice fa q fc))):=fun w5 hb=>⟨rfl,by
     rw[HLV.out,if_neg hz]
     have hm5:=(hm4.below HOK.out hg4 hb).popf HLF.out
     rw[HRR.out.2]at hm5
     have hg5:G8 c w5 (.slice fa (q+1) fc) sv4 ov4 t.way:=(hb.block _ (zk hg4)).trans hg4
     exact⟨vv4,_,sv4,ov4,hm5.gcell HOK.out hg5 1 _,zC 1 _ hg5⟩⟩
    have HFIN:=zh (HFN.out w4.drew (zt w4))
    have hqi:(q:Int)<=(fc:Int):=by omega
    have hqn:(q:Int)<=30:=hfl
    have hwq:IntKind.i64.wrap (q:Int)=(q:Int):=wrap_small _ (by omega) (by omega)
    clear hm4 hg4 hz HPC hfn k5 z5 HFN
    go_wp2_with fail
    go_region_law (fail)
    all_goals
     go_wp2_with fail
     first|exact ze rfl rfl HFIN.out|exact bodyPost_ret (v:=.tuple #[]) (by simp[results,Tryz.results115,go_sem]) rfl HFIN.out
end Go.Proofs.YtmnedfdffbbchaaGreatDoor.Jo
